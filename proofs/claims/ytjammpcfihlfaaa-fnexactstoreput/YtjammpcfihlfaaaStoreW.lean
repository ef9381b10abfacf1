/- The contract of (items).store: the items of a map, by their Keys, in a row of its own. -/
import Derived.Test.YtjammpcfihlfaaaIter
import Derived.Test.YtjammpcfihlfaaaItemOwn
import Derived.Test.YtjammpcfihlfaaaStoreI
namespace Go.Proofs.Ytjammpcfihlfaaa
open Go.RowKit Go.Maps

theorem cell_heap {w w' : World} {i : Nat} (h : w'.heap[i]? = w.heap[i]?) (o : Nat) : w'.cell? ⟨i, o, none⟩ = w.cell? ⟨i, o, none⟩ := by simp [World.cell?, h]
theorem OwnsI.setCell {w : World} {base : Nat} {v : Value} {l : List RV} (h : OwnsI w base v l) {a : Addr} (ha : a.block < base) (u : Value) : OwnsI (w.setCell a u) base v l := by
  obtain ⟨h1, h2⟩ := h
  refine ⟨h1, ?_⟩
  rcases h2 with h | ⟨g, cap, cur, hv, hg, hh, h⟩
  · exact .inl h
  · exact .inr ⟨g, cap, cur, hv, hg, (Below.heap_setCell w a u g (by omega)).trans hh, h⟩
theorem OwnsI.mono {w : World} {base base' : Nat} {v : Value} {l : List RV} (h : OwnsI w base v l) (hb : base' ≤ base) : OwnsI w base' v l := by
  obtain ⟨h1, h2⟩ := h
  refine ⟨h1, ?_⟩
  rcases h2 with h | ⟨g, cap, cur, hv, hg, h⟩
  · exact .inl h
  · exact .inr ⟨g, cap, cur, hv, by omega, h⟩
/-- Between two rounds of the loop: block g holds the store so far; of what was there nothing else has turned. -/
def StAt (w w2 : World) (g : Nat) (ep : Int) (l : List RV) (k : Nat) (wr : World) : Prop :=
  Below w.heap.size w wr ∧ w2.heap.size ≤ wr.heap.size ∧ (∀ i, i < w2.heap.size → i ≠ g → wr.heap[i]? = w2.heap[i]?) ∧ ∃ v, BlockIs wr g 34 #[.int .i64 ep, v] ∧ OwnsI wr w2.heap.size v (l.take k)
theorem keyRow {w : World} {base n : Nat} {v : Value} {xs : List Value} (h : w.ownsRow base 3 1 v n xs) : ∃ A c, v = .slice A n c ∧ (0 < n → ∃ b, A = some ⟨b, 0, none⟩ ∧ base ≤ b ∧ b < w.heap.size ∧ ∀ (j : Nat) (u : Value), xs[j]? = some u → w.cell? ⟨b, j, none⟩ = some u) := by
  obtain ⟨h1, h2⟩ := h
  rcases h2 with ⟨rfl, rfl⟩ | ⟨g, cap, cur, rfl, hg, hh, hnc, _, hs, ht⟩
  · exact ⟨none, 0, rfl, fun h => absurd h (by omega)⟩
  · refine ⟨_, cap, rfl, fun _ => ⟨g, rfl, hg, (Array.getElem?_eq_some_iff.1 hh).1, fun j u hu => ?_⟩⟩
    rw [← ht] at hu
    have hj : j < n * 1 := by
      have := (List.getElem?_eq_some_iff.1 hu).1
      rw [List.length_take] at this; omega
    rw [List.getElem?_take_of_lt hj] at hu
    simp [World.cell?, hh]
    simpa using hu
/-- The ending 'a store of the call's own'. -/
def RetStore (w : World) (ep : Int) (l : List RV) (e : Ending) (w' : World) : Prop := ∃ v, e = .returned (.agg #[.int .i64 ep, v]) ∧ OwnsI w' w.heap.size v l ∧ Below w.heap.size w w'
set_option maxRecDepth 20000 in
set_option maxHeartbeats 800000 in
theorem store_any (ep : Int) (b n : Nat) (l : List RV) (w : World) (h : MapIs w b n l) (hl : l.length ≤ 1000) (hf : ∀ r ∈ l, Fits r.c) : Calls Try.prog 58 #[.map (some b), .int .i64 ep] w (RetStore w ep l) := by
  have HM := Lib.hid h
  have HF := Lib.hid hf
  have hbl := h.lt
  clear h hf
  go_enter Try.func58, Try.ntmps58
  go_wp2_with fail
  refine (keys_call _ _).mono ?_
  rintro e w1 ⟨rfl, rfl⟩
  go_wp2_with fail
  refine (sorted_call ((w.alloc (.cells #[.int .i64 0, .slice none 0 0] 34)).alloc (.cells #[.int .i64 ep, .slice none 0 0] 34)) b n _ l (by simp) ((HM.out.alloc _).alloc _) hl).mono ?_
  rintro e w2 ⟨v, rfl, hrow, hb2⟩
  have hz2 := hb2.size
  simp at hz2
  obtain ⟨A, c, rfl, hA⟩ := keyRow hrow
  have HA := Lib.hid hA
  have hC2 : Below w.heap.size w w2 := (by repeat' (first | exact Below.refl _ _ | refine Below.alloc ?_ ?_ _ | refine Below.setCell ?_ ?_ _ | refine Below.drew ?_ | (apply below_step; assumption) | (simp; done) | (simp; omega) | omega))
  have B2 : BlockIs w2 (w.heap.size + 1) 34 #[.int .i64 ep, .slice none 0 0] := ((BlockIs.new' (w := w.alloc (.cells #[.int .i64 0, .slice none 0 0] 34)) (by simp)).alloc _).below hb2 (by omega)
  have HB2 := Lib.hid B2
  have B3 : BlockIs w2 w.heap.size 34 #[.int .i64 0, .slice none 0 0] := (((BlockIs.new w _ _).alloc _).alloc _).below hb2 (by omega)
  have HB3 := Lib.hid B3
  clear hrow hA B2 B3 hb2
  go_wp2_with fail
  go_loopw [14] (fun s14 wr => ∃ k : Nat, k ≤ l.length ∧ s14 = .int .i64 k ∧ StAt w w2 (w.heap.size + 1) ep l k wr) (fun s14 _ => (l.length - RowKit.intOf s14).toNat)
  case atStart =>
    exact ⟨0, by omega, rfl, hC2, Nat.le_refl _, fun _ _ _ => rfl, _, HB2.out, OwnsI.nil _ _⟩
  case round =>
    obtain ⟨k, hk, rfl, hB, hzr, hsame, u, hblk, hown⟩ := hrel
    by_cases hlt : k < l.length
    · obtain ⟨bk, rfl, hbk, hbl2, hkeys⟩ := HA.out (by omega)
      obtain ⟨r, hr⟩ : ∃ r, l[k]? = some r := ⟨_, List.getElem?_eq_getElem hlt⟩
      have q0 : wr.cell? ⟨bk, k, none⟩ = some (.int .i64 r.c) := by
        rw [cell_heap (hsame bk hbl2 (by omega))]
        exact hkeys k _ (by simp [hr])
      have hmem : r ∈ l := List.mem_of_getElem? hr
      have hlk := (HM.out.below hB hbl).look1 hmem (HF.out r hmem)
      have u0 := hblk.cell 0
      have u1 := hblk.cell 1
      have uf := hblk.frozen
      have ul := hblk.lt
      simp at u0 u1
      have HBK := Lib.hid hblk
      have HOW := Lib.hid hown
      have HSA := Lib.hid hsame
      have HR := Lib.hid hr
      have hlti : (k : Int) < (l.length : Int) := by omega
      clear hblk hown hsame hr hkeys hmem
      go_wp2_with (first
        | (at_builtin; refine wpList_append_item _ rfl (.tmp 19) (.tmp 23) rfl w2.heap.size _ (l.take k) r wr.heap.size rfl (HOW.out.alloc _) rfl (by simp) (by simp) (by simp) (by rw [List.length_take]; omega) (by simp; omega) ?_; intro v' w' hown' hb'; obtain ⟨A', c', rfl⟩ := hown'.len; have HO' := Lib.hid hown'; have HBL := Lib.hid hb'; have B' := Lib.hid ((HBK.out.alloc (.cells #[.int .i64 r.c, .int .i64 r.m, .int .i64 r.p] 36)).below hb' (by omega)); have k1 := B'.out.cell 1; have kf := B'.out.frozen; simp at k1; clear hown' hb'))
      go_roundw
      case rel =>
        have hzz := HBL.out.size
        simp at hzz
        refine ⟨k + 1, by omega, by go_num, (by repeat' (first | exact Below.refl _ _ | refine Below.alloc ?_ ?_ _ | refine Below.setCell ?_ ?_ _ | refine Below.drew ?_ | (apply below_step; assumption) | (simp; done) | (simp; omega) | omega)), by simp [World.setCell]; omega, fun i hi hne => ?_, _, by simpa using B'.out.put 1 _, ?_⟩
        · rw [Below.heap_setCell _ _ _ _ (by simpa using hne), HBL.out.block i hi, Below.heap_alloc _ _ i (by omega)]
          exact HSA.out i hi hne
        · rw [take_next HR.out]
          have ho := HO'.out
          rw [show (l.take k ++ [r]).length = k + 1 by rw [List.length_append, List.length_take]; simp; omega] at ho
          refine ho.setCell ?_ _
          show w.heap.size + 1 < w2.heap.size
          omega
      case measure => simp [RowKit.intOf]; omega
    · obtain rfl : k = l.length := by omega
      obtain ⟨Au, cu, hu⟩ := hown.len
      rw [List.take_length] at hu hown
      subst hu
      have u0 := hblk.cell 0
      have u1 := hblk.cell 1
      simp at u0 u1
      have d0 : wr.cell? ⟨w.heap.size, 0, none⟩ = some (.int .i64 0) := by
        rw [cell_heap (hsame w.heap.size (by omega) (by omega)), HB3.out.cell]; simp
      have d1 : wr.cell? ⟨w.heap.size, 1, none⟩ = some (.slice none 0 0) := by
        rw [cell_heap (hsame w.heap.size (by omega) (by omega)), HB3.out.cell]; simp
      have df : ∀ o, wr.frozen? ⟨w.heap.size, o, none⟩ = false := fun o => BlockIs.frozen ((hsame w.heap.size (by omega) (by omega)).trans HB3.out) o
      have dl : w.heap.size < wr.heap.size := by omega
      have HOW := Lib.hid hown
      clear hblk hown hsame
      go_wp2_with fail
      refine bodyPost_ret (v := .agg #[.int .i64 ep, .slice Au l.length cu]) (by simp [results, Try.results58, go_sem, d0, d1]) rfl ⟨_, rfl, ?_, (by repeat' (first | exact Below.refl _ _ | refine Below.alloc ?_ ?_ _ | refine Below.setCell ?_ ?_ _ | refine Below.drew ?_ | (apply below_step; assumption) | (simp; done) | (simp; omega) | omega))⟩
      have ho := HOW.out
      refine OwnsI.mono (OwnsI.setCell (OwnsI.setCell ho ?_ _) ?_ _) (by omega)
      · show w.heap.size < w2.heap.size; omega
      · show w.heap.size < w2.heap.size; omega
end Go.Proofs.Ytjammpcfihlfaaa
