/- The contracts of itemOk, readStore, StoreOk, StoreGet. -/
import Derived.Test.YtjammpcfihlfaaaItemSl
import Derived.Test.YtjammpcfihlfaaaItemMap
namespace Go.Proofs.Ytjammpcfihlfaaa
open Go.RowKit Go.Maps

theorem itemIn_eq (r : RV) (least : Int) (b1 b2 b3 : Bool) (h1 : lWithin r.c 1 1000 = b1) (h2 : lWithin r.m 0 1000000 = b2) (h3 : lWithin r.p least 1000000 = b3) : itemIn r least = (b1 && b2 && b3) := by
  subst h1 h2 h3; rfl
theorem itemOk_any (r : RV) (w : World) : Calls Try.prog 57 #[.agg #[.int .i64 r.c, .int .i64 r.m, .int .i64 r.p]] w fun e w' => e = .returned (.bool (itemIn r 0)) ∧ Below w.heap.size w w' := by
  have h1 := fun w => within_any r.c 1 1000 w
  have h2 := fun w => within_any r.m 0 1000000 w
  have h3 := fun w => within_any r.p 0 1000000 w
  have HE := Lib.hid (itemIn_eq r 0)
  generalize itemIn r 0 = ok at *
  generalize lWithin r.c 1 1000 = b1 at *
  generalize lWithin r.m 0 1000000 = b2 at *
  generalize lWithin r.p 0 1000000 = b3 at *
  have HE' := Lib.hid (HE.out _ _ _ rfl rfl rfl)
  have H1 := Lib.hid h1
  have H2 := Lib.hid h2
  have H3 := Lib.hid h3
  clear h1 h2 h3 HE
  go_enter Try.func57, Try.ntmps57
  go_wp2_with fail
  refine (H1.out _).mono ?_
  rintro e w1 ⟨rfl, rfl⟩
  cases b1
  · go_wp2_with fail
    go_ret
    exact ⟨by rw [HE'.out]; simp, (by repeat' (first | exact Below.refl _ _ | refine Below.alloc ?_ ?_ _ | refine Below.setCell ?_ ?_ _ | refine Below.drew ?_ | (apply below_step; assumption) | (simp; done) | (simp; omega) | omega))⟩
  go_wp2_with fail
  refine (H2.out _).mono ?_
  rintro e w1 ⟨rfl, rfl⟩
  cases b2
  · go_wp2_with fail
    go_ret
    exact ⟨by rw [HE'.out]; simp, (by repeat' (first | exact Below.refl _ _ | refine Below.alloc ?_ ?_ _ | refine Below.setCell ?_ ?_ _ | refine Below.drew ?_ | (apply below_step; assumption) | (simp; done) | (simp; omega) | omega))⟩
  go_wp2_with fail
  refine (H3.out _).mono ?_
  rintro e w1 ⟨rfl, rfl⟩
  go_wp2_with fail
  go_ret
  exact ⟨by rw [HE'.out]; simp, (by repeat' (first | exact Below.refl _ _ | refine Below.alloc ?_ ?_ _ | refine Below.setCell ?_ ?_ _ | refine Below.drew ?_ | (apply below_step; assumption) | (simp; done) | (simp; omega) | omega))⟩

/-- What readStore hands back: a new map of the items and true, or nil and false. -/
def RetRead (w : World) (ep : Int) (l : List RV) (e : Ending) (w' : World) : Prop :=
  Below w.heap.size w w' ∧ ((storeOk ep l = false ∧ e = .returned (.tuple #[.map none, .bool false])) ∨ (storeOk ep l = true ∧ ∃ b, e = .returned (.tuple #[.map (some b), .bool true]) ∧ w.heap.size ≤ b ∧ MapIs w' b l.length l))
/-- Between two rounds of readStore's loop. -/
def ReadAt (w : World) (g : Nat) (l : List RV) (k : Nat) (last : Int) (wr : World) : Prop :=
  storeFrom last (l.drop k) = storeFrom 0 l ∧ (∀ r ∈ l.take k, r.c ≤ last) ∧ (0 ≤ last ∧ last ≤ 1000) ∧ MapIs wr g k (l.take k) ∧ Below w.heap.size w wr ∧ w.heap.size ≤ g
theorem storeFrom_step {last : Int} {l : List RV} {k : Nat} {r : RV} (hr : l[k]? = some r) : storeFrom last (l.drop k) = (itemIn r 1 && decide (last < r.c) && storeFrom r.c (l.drop (k + 1))) := by
  have hk : k < l.length := (List.getElem?_eq_some_iff.1 hr).1
  rw [List.drop_eq_getElem_cons hk, (List.getElem?_eq_some_iff.1 hr).2]
  rfl
theorem take_next {l : List RV} {k : Nat} {r : RV} (hr : l[k]? = some r) : l.take (k + 1) = l.take k ++ [r] := by
  rw [List.take_add_one, hr]; rfl
theorem storeOk_eq (ep : Int) (l : List RV) (b1 b2 b3 : Bool) (h1 : lWithin ep 0 1000 = b1) (h2 : decide (20 < (l.length : Int)) = b2) (h3 : storeFrom 0 l = b3) : storeOk ep l = (b1 && !b2 && b3) := by
  subst h1 h2 h3
  unfold storeOk
  congr 2
  by_cases h : l.length ≤ 20
  · simp [h]; omega
  · simp [h]; omega
set_option maxHeartbeats 3200000 in
theorem readStore_any (ep : Int) (v : Value) (l : List RV) (w : World) (hv : ItSl w v l) : Calls Try.prog 55 #[.agg #[.int .i64 ep, v]] w (RetRead w ep l) := by
  obtain ⟨A, c, rfl, hA⟩ := hv.form
  have HA := Lib.hid hA
  clear hA hv
  have h1 := fun w => within_any ep 0 1000 w
  have HE := Lib.hid (storeOk_eq ep l)
  generalize lWithin ep 0 1000 = b1 at *
  generalize e2 : decide (20 < (l.length : Int)) = b2 at *
  have H1 := Lib.hid h1
  clear h1
  have hmm := @run_makeMap Try.prog
  go_enter Try.func55, Try.ntmps55
  go_wp2_with fail
  refine (H1.out _).mono ?_
  rintro e w1 ⟨rfl, rfl⟩
  cases b1
  · go_wp2_with fail
    refine bodyPost_ret (v := .tuple #[.map none, .bool false]) (by simp [results, Try.results55, go_sem]) rfl ⟨(by repeat' (first | exact Below.refl _ _ | refine Below.alloc ?_ ?_ _ | refine Below.setCell ?_ ?_ _ | refine Below.drew ?_ | (apply below_step; assumption) | (simp; done) | (simp; omega) | omega)), .inl ⟨by rw [HE.out _ _ _ rfl rfl rfl]; simp, rfl⟩⟩
  cases b2
  rotate_left
  · go_wp2_with fail
    refine bodyPost_ret (v := .tuple #[.map none, .bool false]) (by simp [results, Try.results55, go_sem]) rfl ⟨(by repeat' (first | exact Below.refl _ _ | refine Below.alloc ?_ ?_ _ | refine Below.setCell ?_ ?_ _ | refine Below.drew ?_ | (apply below_step; assumption) | (simp; done) | (simp; omega) | omega)), .inl ⟨by rw [HE.out _ _ _ rfl rfl rfl]; simp, rfl⟩⟩
  have hl20 : l.length ≤ 20 := by have := of_decide_eq_false e2; omega
  have HOK := Lib.hid (show storeOk ep l = storeFrom 0 l by rw [HE.out _ _ _ rfl rfl rfl]; simp)
  clear HE e2
  go_wp2_with fail
  go_loopw [22, 5] (fun s22 s5 wr => ∃ (k : Nat) (last : Int), k ≤ l.length ∧ s22 = .int .i64 k ∧ s5 = .int .i64 last ∧ ReadAt w (w.heap.size + 1) l k last wr) (fun s22 _ _ => (l.length - RowKit.intOf s22).toNat)
  case atStart =>
    refine ⟨0, 0, by omega, rfl, rfl, by rw [List.drop_zero], fun r hr => absurd hr (by simp), by omega, ?_, (by repeat' (first | exact Below.refl _ _ | refine Below.alloc ?_ ?_ _ | refine Below.setCell ?_ ?_ _ | refine Below.drew ?_ | (apply below_step; assumption) | (simp; done) | (simp; omega) | omega)), by omega⟩
    have := MapIs.made (w.alloc (.cells #[.int .i64 ep, .slice A l.length c] 34))
    simpa using this
  case round =>
    obtain ⟨k, last, hk, rfl, rfl, hfrom, hle, hlast, hmap, hB, _⟩ := hrel
    have hzr := hB.size
    by_cases hlt : k < l.length
    · obtain ⟨b, off, rfl, hbw, hat⟩ := HA.out (by omega)
      obtain ⟨r, hr⟩ : ∃ r, l[k]? = some r := ⟨_, List.getElem?_eq_getElem hlt⟩
      obtain ⟨q0, q1, q2⟩ := (hat.below hB hbw) k r hr
      have hlti : (k : Int) < (l.length : Int) := by omega
      have HST := Lib.hid (hfrom.symm.trans (storeFrom_step hr))
      have HR := Lib.hid hr
      have HM := Lib.hid hmap
      have HLE := Lib.hid hle
      have hgl := hmap.lt
      have hio := fun w => itemOk_any r w
      have HI1 := Lib.hid (itemIn_one r)
      have HIN := Lib.hid (itemIn_iff (r := r) (least := 0)).1
      generalize itemIn r 0 = bi at *
      generalize e3 : (r.p == 0) = bz
      generalize e4 : decide (r.c ≤ last) = bl
      have HIO := Lib.hid hio
      clear hat hr hmap hle hfrom hio
      go_wp2_with fail
      refine (HIO.out _).mono ?_
      rintro e w3 ⟨rfl, hb3⟩
      have hz3 := hb3.size
      simp at hz3
      obtain ⟨hc3, hf3⟩ := bcell hb3
      have q3 : wr.heap.size < w3.heap.size := by omega
      have hB3 : Below w.heap.size w w3 := (by repeat' (first | exact Below.refl _ _ | refine Below.alloc ?_ ?_ _ | refine Below.setCell ?_ ?_ _ | refine Below.drew ?_ | (apply below_step; assumption) | (simp; done) | (simp; omega) | omega))
      have HM3 := Lib.hid ((HM.out.alloc (.cells #[.int .i64 r.c, .int .i64 r.m, .int .i64 r.p] 36)).below hb3 (by simp; omega))
      cases bi
      · go_wp2_with fail
        refine bodyPost_ret (v := .tuple #[.map none, .bool false]) (by simp [results, Try.results55, go_sem]) rfl ⟨hB3, .inl ⟨?_, rfl⟩⟩
        rw [HOK.out, HST.out, ← HI1.out]; rfl
      cases bz
      rotate_left
      · go_wp2_with fail
        refine bodyPost_ret (v := .tuple #[.map none, .bool false]) (by simp [results, Try.results55, go_sem]) rfl ⟨hB3, .inl ⟨?_, rfl⟩⟩
        rw [HOK.out, HST.out, ← HI1.out]; simp [beq_iff_eq.1 e3]
      cases bl
      rotate_left
      · go_wp2_with fail
        refine bodyPost_ret (v := .tuple #[.map none, .bool false]) (by simp [results, Try.results55, go_sem]) rfl ⟨hB3, .inl ⟨?_, rfl⟩⟩
        have := of_decide_eq_true e4
        rw [HOK.out, HST.out, show decide (last < r.c) = false by simp; omega]; simp
      obtain ⟨⟨i1, i2⟩, _⟩ := HIN.out (by simp)
      have hlr : last < r.c := by have := of_decide_eq_false e4; omega
      have HB3 := Lib.hid ((BlockIs.new wr 36 #[.int .i64 r.c, .int .i64 r.m, .int .i64 r.p]).below hb3 (by simp))
      go_wp2_with (first
        | (at_mapUpdate; refine wpList_put_item _ rfl _ _ _ rfl (w.heap.size + 1) k (l.take k) r rfl (by first | rfl | simp [*]) (by first | rfl | simp [*]) HM3.out (by omega) (fits_of (by omega) (by omega)) ?_; intro w4 hm4 hg4; have hg4' := Lib.hid hg4; have hm4' := Lib.hid hm4; have B4 : BlockIs w4 wr.heap.size 36 #[.int .i64 r.c, .int .i64 r.m, .int .i64 r.p] := (hg4.block _ q3 (by simp; omega)).trans HB3.out; have q40 := B4.cell 0; simp at q40; clear hg4 hm4 B4))
      go_roundw
      case rel =>
        refine ⟨k + 1, r.c, by omega, by go_num, rfl, ?_, fun x hx => ?_, by omega, ?_, hB3.grown hg4'.out hB3.size (fun j hj => by cases hj; omega), by omega⟩
        · have := HST.out
          rw [this, ← HI1.out, show decide (last < r.c) = true by simp; omega, bne, e3]; simp
        · rw [take_next HR.out] at hx
          rcases List.mem_append.1 hx with hx | hx
          · have := HLE.out x hx; omega
          · simp at hx; subst hx; omega
        · rw [take_next HR.out, ← itemPut_last (fun x hx => by have := HLE.out x hx; omega)]
          exact hm4'.out
      case measure => simp [RowKit.intOf]; omega
    · obtain rfl : k = l.length := by omega
      have HM := Lib.hid hmap
      have HF := Lib.hid hfrom
      clear hmap hfrom hle
      go_wp2_with fail
      refine bodyPost_ret (v := .tuple #[.map (some (w.heap.size + 1)), .bool true]) (by simp [results, Try.results55, go_sem]) rfl ⟨hB, .inr ⟨?_, _, rfl, by omega, ?_⟩⟩
      · rw [HOK.out, ← HF.out, List.drop_length]; rfl
      · have := HM.out
        rwa [List.take_length] at this
theorem StoreOk_any (ep : Int) (v : Value) (l : List RV) (w : World) (hv : ItSl w v l) : Calls Try.prog 24 #[.agg #[.int .i64 ep, v]] w fun e w' => e = .returned (.bool (storeOk ep l)) ∧ Below w.heap.size w w' := by
  have HV := Lib.hid hv
  clear hv
  go_enter Try.func24, Try.ntmps24
  go_wp2_with fail
  have hX : Below w.heap.size w (w.alloc (.cells #[.int .i64 ep, v] 34)) := (by repeat' (first | exact Below.refl _ _ | refine Below.alloc ?_ ?_ _ | refine Below.setCell ?_ ?_ _ | refine Below.drew ?_ | (apply below_step; assumption) | (simp; done) | (simp; omega) | omega))
  refine (readStore_any ep v l _ (HV.out.below hX)).mono ?_
  rintro e w1 ⟨hb1, ⟨hok, rfl⟩ | ⟨hok, b, rfl, hbb, hm⟩⟩
  · have HO := Lib.hid hok
    clear hok
    go_wp2_with fail
    go_ret
    exact ⟨by rw [HO.out]; rfl, below_of hX hb1⟩
  · have HO := Lib.hid hok
    clear hok hm
    go_wp2_with fail
    go_ret
    exact ⟨by rw [HO.out]; rfl, below_of hX hb1⟩
/-- StoreGet. -/
def storeGet (ep : Int) (l : List RV) (key : Int) : RV × Bool := if storeOk ep l then itemAt l key else (RV.zero, false)
def RetG (r : RV × Bool) (w : World) (e : Ending) (w' : World) : Prop := e = .returned (.tuple #[.agg #[.int .i64 r.1.c, .int .i64 r.1.m, .int .i64 r.1.p], .bool r.2]) ∧ Below w.heap.size w w'
theorem RetG_mk {r : RV × Bool} {w w' : World} {x : RV} {d : Bool} (h : r = (x, d)) (hb : Below w.heap.size w w') : RetG r w (.returned (.tuple #[.agg #[.int .i64 x.c, .int .i64 x.m, .int .i64 x.p], .bool d])) w' := by subst h; exact ⟨rfl, hb⟩
set_option maxHeartbeats 1600000 in
theorem StoreGet_any (ep : Int) (v : Value) (l : List RV) (key : Int) (w : World) (hv : ItSl w v l) (hkey : Fits key) : Calls Try.prog 22 #[.agg #[.int .i64 ep, v], .int .i64 key] w (RetG (storeGet ep l key) w) := by
  have HV := Lib.hid hv
  have HG := Lib.hid (show storeGet ep l key = if storeOk ep l then itemAt l key else (RV.zero, false) from rfl)
  have HKE := Lib.hid hkey
  generalize storeGet ep l key = ans at *
  clear hv hkey
  go_enter Try.func22, Try.ntmps22
  go_wp2_with fail
  have hX : Below w.heap.size w ((w.alloc (.cells #[.int .i64 ep, v] 34)).alloc (.cells #[.int .i64 0, .int .i64 0, .int .i64 0] 36)) := (by repeat' (first | exact Below.refl _ _ | refine Below.alloc ?_ ?_ _ | refine Below.setCell ?_ ?_ _ | refine Below.drew ?_ | (apply below_step; assumption) | (simp; done) | (simp; omega) | omega))
  refine (readStore_any ep v l _ (HV.out.below hX)).mono ?_
  rintro e w1 ⟨hb1, h⟩
  have hC1 := below_of hX hb1
  have hz1 := hb1.size
  simp at hz1
  have D1 := (BlockIs.new (w.alloc (.cells #[.int .i64 ep, v] 34)) 36 #[.int .i64 0, .int .i64 0, .int .i64 0]).below hb1 (by simp)
  have d0 := D1.cell 0
  have d1 := D1.cell 1
  have d2 := D1.cell 2
  have df := D1.frozen
  simp at d0 d1 d2 df
  have hsz : w.heap.size + 1 < w1.heap.size := by omega
  clear D1
  rcases h with ⟨hok, rfl⟩ | ⟨hok, b, rfl, hbb, hm⟩
  · have HO := Lib.hid hok
    have hlk := look_nilmap key HKE.out w1
    clear hok
    go_wp2_with fail
    refine bodyPost_ret (v := .tuple #[.agg #[.int .i64 RV.zero.c, .int .i64 RV.zero.m, .int .i64 RV.zero.p], .bool false]) (by simp [results, Try.results22, go_sem, RV.zero, d0, d1, d2, hsz]) rfl ?_
    exact RetG_mk (by rw [HG.out, HO.out]; rfl) (by repeat' (first | exact Below.refl _ _ | refine Below.alloc ?_ ?_ _ | refine Below.setCell ?_ ?_ _ | refine Below.drew ?_ | (apply below_step; assumption) | (simp; done) | (simp; omega) | omega))
  · have HO := Lib.hid hok
    have hlk := hm.look HKE.out
    have HA := Lib.hid (show ans = itemAt l key by rw [HG.out, HO.out]; rfl)
    generalize itemAt l key = at_ at *
    obtain ⟨r, f⟩ := at_
    dsimp only at hlk
    clear hok hm
    go_wp2_with fail
    refine bodyPost_ret (v := .tuple #[.agg #[.int .i64 r.c, .int .i64 r.m, .int .i64 r.p], .bool f]) (by simp [results, Try.results22, go_sem, d0, d1, d2, hsz]) rfl ?_
    exact RetG_mk HA.out (by repeat' (first | exact Below.refl _ _ | refine Below.alloc ?_ ?_ _ | refine Below.setCell ?_ ?_ _ | refine Below.drew ?_ | (apply below_step; assumption) | (simp; done) | (simp; omega) | omega))
end Go.Proofs.Ytjammpcfihlfaaa
