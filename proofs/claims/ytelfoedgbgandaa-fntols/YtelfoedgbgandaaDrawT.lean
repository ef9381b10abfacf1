/- The model's draws of taints: taints, badTaints, DrawTolerates. -/
import Derived.Test.YtelfoedgbgandaaDrawB
import Derived.Test.YtelfoedgbgandaaSlInt
namespace Go.Proofs.Ytelfoedgbgandaa
open Go.RowKit

/-- The slice value v owns the integers l, in blocks from base on. -/
def OwnsI (w : World) (base : Nat) (v : Value) (l : List Int) : Prop := w.ownsRow base 3 1 v l.length (l.map (Value.int .i64))
section
variable {w w' : World} {base g : Nat} {v : Value} {l : List Int}
theorem OwnsI.alloc (h : OwnsI w base v l) (o : Obj) : OwnsI (w.alloc o) base v l := World.ownsRow.alloc h o
theorem OwnsI.lower {b : Nat} (h : OwnsI w base v l) (hb : b ≤ base) : OwnsI w b v l := by
  obtain ⟨h1, h2⟩ := h
  refine ⟨h1, ?_⟩
  rcases h2 with h | ⟨g, cap, cur, hv, hg, h⟩
  · exact .inl h
  · exact .inr ⟨g, cap, cur, hv, Nat.le_trans hb hg, h⟩
theorem OwnsI.below {B : Nat} (h : OwnsI w base v l) (hb : Below B w w') (hB : w.heap.size ≤ B) : OwnsI w' base v l := by
  obtain ⟨h1, h2⟩ := h
  refine ⟨h1, ?_⟩
  rcases h2 with h | ⟨g, cap, cur, hv, hg, hh, h⟩
  · exact .inl h
  · have hlt : g < w.heap.size := (Array.getElem?_eq_some_iff.1 hh).1
    exact .inr ⟨g, cap, cur, hv, hg, (hb.block g (by omega)).trans hh, h⟩
theorem OwnsI.but (h : OwnsI w base v l) (hb : But g w w') (hg : g < base) : OwnsI w' base v l :=
  World.ownsRow.kept h ⟨hb.os, hb.tape, hb.output, hb.size, fun k hk hne => hb.block k hk (fun e => hne (by rw [e]))⟩ (.inr fun e => by have := (World.ownsRow.lt h g e).1; omega)
theorem OwnsI.form (h : OwnsI w base v l) : (v = .slice none 0 0 ∧ l = []) ∨ ∃ g cap, v = .slice (some ⟨g, 0, none⟩) l.length cap ∧ base ≤ g ∧ g < w.heap.size ∧ l.length ≤ cap ∧ cap ≤ maxLen ∧ IntAt w g 0 l := by
  obtain ⟨h1, h2⟩ := h
  rcases h2 with ⟨hv, hn⟩ | ⟨g, cap, cur, hv, hg, hh, hnc, hcm, hs, ht⟩
  · exact .inl ⟨hv, List.eq_nil_of_length_eq_zero hn⟩
  · have hb : BlockIs w g 3 cur := hh
    refine .inr ⟨g, cap, hv, hg, hb.lt, hnc, hcm, IntAt.of_block hb (fun j r hr => ?_)⟩
    have hj : j < l.length := (List.getElem?_eq_some_iff.1 hr).1
    have hu : (l.map (Value.int .i64))[j]? = some (.int .i64 r) := by rw [List.getElem?_map, hr]; rfl
    rw [← ht, List.getElem?_take_of_lt (by omega)] at hu
    simpa using hu
theorem OwnsI.sl (h : OwnsI w base v l) : IntSl w v l := by
  rcases h.form with ⟨rfl, rfl⟩ | ⟨g, cap, rfl, _, hlt, _, _, hat⟩
  · exact .inl ⟨rfl, _, _, rfl⟩
  · exact .inr ⟨g, 0, cap, rfl, hlt, hat⟩
end

theorem wpList_append_ints {ops : Array Oper} {rest : List Oper} {o : Oper} {a : Act} {Q : Exit → Act → World → Prop} (w : World) (hgd : o.guard = none) (s x : Operand)
    (ho : o.op = .call { callee := .builtin .append, args := #[s, x], argTypes := #[35, 35] })
    (base : Nat) (v : Value) (l r : List Int) (g c : Nat) (hs : a.eval s = v) (hown : OwnsI w base v l) (hx : a.eval x = .slice (some ⟨g, 0, none⟩) r.length c)
    (h0 : IntAt w g 0 r) (hl : l.length + r.length ≤ 100000) (hbase : base ≤ w.heap.size)
    (h : ∀ v' w', OwnsI w' base v' (l ++ r) → Below base w w' → wpList Try.prog ops Q rest (a.put o.dst v') w') : wpList Try.prog ops Q (o :: rest) a w := by
  obtain ⟨i0, hi0, hz0, hz1, hz2⟩ := info_parts Try.infoI
  refine wpList_append_own w hgd s x 35 ho base 3 i0 _ 1 8 Try.underlying35 hi0 hz0 hz1 hz2 rfl (by omega) v l.length (l.map (Value.int .i64)) hs hown ⟨g, 0, none⟩ r.length c (r.map (Value.int .i64)) hx (by simp) ?_ ?_ (by simp only [maxLen]; omega) (by omega) hbase ?_
  · intro j u hj
    rw [List.getElem?_map] at hj
    obtain ⟨z, hz, rfl⟩ := Option.map_eq_some_iff.1 hj
    have := h0 j z hz
    rw [Nat.zero_add] at this
    simpa [Addr.add] using (show w.cell? ((⟨g, 0, none⟩ : Addr).add j) = _ by unfold Addr.add; split <;> simp_all)
  · intro u hu
    obtain ⟨z, _, rfl⟩ := List.mem_map.1 hu
    rfl
  · intro v' w' hown' hgrow _
    refine h v' w' ?_ ((Below.refl _ _).grown hgrow hbase (fun k hk => (World.ownsRow.lt hown k hk).1))
    unfold OwnsI
    rw [List.map_append, List.length_append]
    exact hown'
theorem intAt_one {w : World} {z : Int} {g : Nat} (h : w.cell? ⟨g, 0, none⟩ = some (.int .i64 z)) : IntAt w g 0 [z] := fun i r hr => by
  match i, hr with
  | 0, hr => simp at hr; subst hr; exact h

/-- The ending of taints: a slice of its own with at most two integers. -/
def DrawnP (g G : Nat) (A : Option Addr) (n c m : Nat) (w : World) (e : Ending) (w' : World) : Prop := ∃ b ls k, e = .returned (.slice (some ⟨b, 0, none⟩) (List.length ls) k) ∧ IntAt w' b 0 ls ∧ ls.length ≤ 2 ∧ But g w w' ∧ CurAt g G A n c m w'

set_option maxHeartbeats 1600000 in
theorem taints_any (g G : Nat) (A : Option Addr) (n c m : Nat) (w : World) (hG : G ≤ g) (hn : n ≤ 1048576) (hm : m + 1 ≤ 1000000000) (h : CurAt g G A n c m w) :
    Calls Try.prog 49 #[.pointer (some ⟨g, 0, none⟩)] w (DrawnP g G A n c (m + 1) w) := by
  have hgw := h.lt
  go_enter Try.func49, Try.ntmps49
  go_wp2_with fail
  refine (pick_any g G A n c m 6 _ hG hn (by omega) (by omega) (by omega) (((((((h.but_alloc hG _).but_alloc hG _).but_alloc hG _).but_alloc hG _).but_alloc hG _).but_alloc hG _).but_alloc hG _)).mono ?_
  rintro e w1 ⟨z, ⟨z0, z1⟩, rfl, hb1, hc1⟩
  have hB1 : But g w w1 := ((((((((But.refl g w).alloc _).alloc _).alloc _).alloc _).alloc _).alloc _).alloc _).trans hb1
  have hz1 := hb1.size
  simp at hz1
  have hA := (BlockIs.new' (w := ((((((w.alloc (.cells #[] 3)).alloc (.cells #[] 3)).alloc (.cells #[] 3)).alloc (.cells #[.int .i64 0] 3)).alloc (.cells #[.int .i64 1] 3)).alloc (.cells #[.int .i64 0, .int .i64 1] 3))) (g := w.heap.size + 1 + 1 + 1 + 1 + 1 + 1) (t := 35) (cs := #[.slice (some ⟨w.heap.size, 0, none⟩) 0 0, .slice (some ⟨w.heap.size + 1, 0, none⟩) 0 0, .slice (some ⟨w.heap.size + 1 + 1, 0, none⟩) 0 0, .slice (some ⟨w.heap.size + 1 + 1 + 1, 0, none⟩) 1 1, .slice (some ⟨w.heap.size + 1 + 1 + 1 + 1, 0, none⟩) 1 1, .slice (some ⟨w.heap.size + 1 + 1 + 1 + 1 + 1, 0, none⟩) 2 2]) (by simp)).but hb1 (by omega)
  have HA := Lib.hid hA
  have HB3 : Hid (BlockIs w1 (w.heap.size + 1 + 1 + 1) 3 #[.int .i64 0]) := ((((BlockIs.new' (w := (((w.alloc (.cells #[] 3)).alloc (.cells #[] 3)).alloc (.cells #[] 3))) (g := w.heap.size + 1 + 1 + 1) (t := 3) (cs := #[.int .i64 0]) (by simp)).alloc (.cells #[.int .i64 1] 3)).alloc (.cells #[.int .i64 0, .int .i64 1] 3)).alloc (.cells #[.slice (some ⟨w.heap.size, 0, none⟩) 0 0, .slice (some ⟨w.heap.size + 1, 0, none⟩) 0 0, .slice (some ⟨w.heap.size + 1 + 1, 0, none⟩) 0 0, .slice (some ⟨w.heap.size + 1 + 1 + 1, 0, none⟩) 1 1, .slice (some ⟨w.heap.size + 1 + 1 + 1 + 1, 0, none⟩) 1 1, .slice (some ⟨w.heap.size + 1 + 1 + 1 + 1 + 1, 0, none⟩) 2 2] 35)).but hb1 (by omega)
  have HB4 : Hid (BlockIs w1 (w.heap.size + 1 + 1 + 1 + 1) 3 #[.int .i64 1]) := (((BlockIs.new' (w := ((((w.alloc (.cells #[] 3)).alloc (.cells #[] 3)).alloc (.cells #[] 3)).alloc (.cells #[.int .i64 0] 3))) (g := w.heap.size + 1 + 1 + 1 + 1) (t := 3) (cs := #[.int .i64 1]) (by simp)).alloc (.cells #[.int .i64 0, .int .i64 1] 3)).alloc (.cells #[.slice (some ⟨w.heap.size, 0, none⟩) 0 0, .slice (some ⟨w.heap.size + 1, 0, none⟩) 0 0, .slice (some ⟨w.heap.size + 1 + 1, 0, none⟩) 0 0, .slice (some ⟨w.heap.size + 1 + 1 + 1, 0, none⟩) 1 1, .slice (some ⟨w.heap.size + 1 + 1 + 1 + 1, 0, none⟩) 1 1, .slice (some ⟨w.heap.size + 1 + 1 + 1 + 1 + 1, 0, none⟩) 2 2] 35)).but hb1 (by omega)
  have HB5 : Hid (BlockIs w1 (w.heap.size + 1 + 1 + 1 + 1 + 1) 3 #[.int .i64 0, .int .i64 1]) := ((BlockIs.new' (w := (((((w.alloc (.cells #[] 3)).alloc (.cells #[] 3)).alloc (.cells #[] 3)).alloc (.cells #[.int .i64 0] 3)).alloc (.cells #[.int .i64 1] 3))) (g := w.heap.size + 1 + 1 + 1 + 1 + 1) (t := 3) (cs := #[.int .i64 0, .int .i64 1]) (by simp)).alloc (.cells #[.slice (some ⟨w.heap.size, 0, none⟩) 0 0, .slice (some ⟨w.heap.size + 1, 0, none⟩) 0 0, .slice (some ⟨w.heap.size + 1 + 1, 0, none⟩) 0 0, .slice (some ⟨w.heap.size + 1 + 1 + 1, 0, none⟩) 1 1, .slice (some ⟨w.heap.size + 1 + 1 + 1 + 1, 0, none⟩) 1 1, .slice (some ⟨w.heap.size + 1 + 1 + 1 + 1 + 1, 0, none⟩) 2 2] 35)).but hb1 (by omega)
  clear hb1 hA
  rcases (show z = 0 ∨ z = 1 ∨ z = 2 ∨ z = 3 ∨ z = 4 ∨ z = 5 by omega) with rfl | rfl | rfl | rfl | rfl | rfl
  · have hx := HA.out.cell 0
    simp at hx
    go_wp2_with fail
    go_ret
    exact ⟨_, [], _, rfl, (fun i r hr => by simp at hr), by simp, hB1, hc1⟩
  · have hx := HA.out.cell 1
    simp at hx
    go_wp2_with fail
    go_ret
    exact ⟨_, [], _, rfl, (fun i r hr => by simp at hr), by simp, hB1, hc1⟩
  · have hx := HA.out.cell 2
    simp at hx
    go_wp2_with fail
    go_ret
    exact ⟨_, [], _, rfl, (fun i r hr => by simp at hr), by simp, hB1, hc1⟩
  · have hx := HA.out.cell 3
    simp at hx
    go_wp2_with fail
    go_ret
    exact ⟨_, [0], _, rfl, (IntAt.of_block HB3.out (fun j r hr => by match j, hr with | 0, hr => simp at hr; subst hr; rfl)), by simp, hB1, hc1⟩
  · have hx := HA.out.cell 4
    simp at hx
    go_wp2_with fail
    go_ret
    exact ⟨_, [1], _, rfl, (IntAt.of_block HB4.out (fun j r hr => by match j, hr with | 0, hr => simp at hr; subst hr; rfl)), by simp, hB1, hc1⟩
  · have hx := HA.out.cell 5
    simp at hx
    go_wp2_with fail
    go_ret
    exact ⟨_, [0, 1], _, rfl, (IntAt.of_block HB5.out (fun j r hr => by match j, hr with | 0, hr => (simp at hr; subst hr; rfl) | 1, hr => (simp at hr; subst hr; rfl))), by simp, hB1, hc1⟩

/-- The ending of a draw of taints that may be bad. -/
def DrawnT (b g G : Nat) (A : Option Addr) (n c m : Nat) (w : World) (e : Ending) (w' : World) : Prop := ∃ v l, e = .returned v ∧ OwnsI w' w.heap.size v l ∧ l.length ≤ b ∧ But g w w' ∧ CurAt g G A n c m w'

set_option maxHeartbeats 1600000 in
theorem badTaints_any (g G : Nat) (A : Option Addr) (n c m : Nat) (w : World) (hG : G ≤ g) (hn : n ≤ 1048576) (hm : m + 20 ≤ 1000000000) (h : CurAt g G A n c m w) :
    Calls Try.prog 44 #[.pointer (some ⟨g, 0, none⟩)] w (DrawnT 20 g G A n c (m + 20) w) := by
  have hgw := h.lt
  go_enter Try.func44, Try.ntmps44
  go_wp2_with fail
  refine (taints_any g G A n c m _ hG hn (by omega) (h.but_alloc hG _)).mono ?_
  rintro e w0 ⟨b0, ls, k0, rfl, hat, hls, hb0, hc0⟩
  have hB0 : But g w w0 := ((But.refl g w).alloc _).trans hb0
  have hz0 := hB0.size
  have HO0 : Hid (OwnsI w0 w.heap.size (.slice (some ⟨w.heap.size, 0, none⟩) 0 0) []) := OwnsI.but (show OwnsI (w.alloc (.cells #[] 3)) w.heap.size _ [] from World.ownsRow_made w #[] 0 (Nat.le_refl _) (by unfold maxLen; omega) rfl) hb0 hgw
  have HAT := Lib.hid hat
  clear hat hb0
  go_wp2_with (at_builtin; refine wpList_append_ints _ rfl (.tmp 5) (.tmp 7) rfl w.heap.size _ [] ls b0 k0 rfl HO0.out rfl HAT.out (by simp; omega) (by omega) ?_; intro v1 w1 ho1 hb1)
  have hB1 : But g w w1 := hB0.base hb1
  have hc1 := hc0.below hG hb1 hgw
  have hz1 := hB1.size
  rw [List.nil_append] at ho1
  have HO1 := Lib.hid ho1
  clear hb1 ho1 hc0 HO0 HAT hB0
  go_wp2_with fail
  refine (pick_any g G A n c _ 9 _ hG hn (by omega) (by omega) (by omega) hc1).mono ?_
  rintro e w2 ⟨z, ⟨z0, z1⟩, rfl, hb2, hc2⟩
  have hz2 := hb2.size
  have HO2 := Lib.hid (HO1.out.but hb2 hgw)
  have hB2 := hB1.trans hb2
  clear HO1 hb2 hc1 hB1
  by_cases e0 : z = 0
  · subst e0
    go_wp2_with fail
    refine (raw_any g G A n c _ _ hG hn (by omega) hc2).mono ?_
    rintro e w3 ⟨y3, _, rfl, hb3, hc3⟩
    have hz3 := hb3.size
    have hg3 := hc3.lt
    go_wp2_with fail
    refine (pick_any g G A n c _ 4 _ hG hn (by omega) (by omega) (by omega) (hc3.but_alloc hG _)).mono ?_
    rintro e w4 ⟨y4, ⟨y40, y41⟩, rfl, hb4, hc4⟩
    have hz4 := hb4.size
    simp at hz4
    obtain ⟨v4, hv4⟩ := four _ _ _ _ 3 w3.heap.size w4 ((BlockIs.new w3 3 #[.int .i64 y3, .int .i64 1, .int .i64 9, .int .i64 10]).but hb4 (by omega)) y4 y40 y41
    have HO4 := Lib.hid (((HO2.out.but hb3 hgw).alloc (.cells #[.int .i64 y3, .int .i64 1, .int .i64 9, .int .i64 10] 3)).but hb4 hgw)
    have hB4 := ((hB2.trans hb3).alloc _).trans hb4
    have hz4' := hB4.size
    clear hb3 hb4 hc3 HO2
    go_wp2_with (at_builtin; refine wpList_append_ints _ rfl (.tmp 13) (.tmp 21) rfl w.heap.size _ ls [v4] w4.heap.size 1 rfl (HO4.out.alloc _) rfl (intAt_one (by simp)) (by simp; omega) (by simp; omega) ?_; intro v' w5 hown5 hb5)
    go_ret
    exact ⟨_, _, rfl, hown5, by simp; omega, (hB4.alloc _).base hb5, ((hc4.but_alloc hG _).below hG hb5 hgw).more (by omega)⟩
  · by_cases e1 : z = 1
    · subst e1
      go_wp2_with fail
      go_loopw [3, 4] (fun s3 s4 wr => ∃ (k : Nat) (l' : List Int), k ≤ 7 ∧ s4 = .int .i64 k ∧ OwnsI wr w.heap.size s3 l' ∧ l'.length ≤ 6 + k ∧ But g w wr ∧ CurAt g G A n c (m + 6 + k) wr) (fun _ s4 _ => (8 - intOf s4).toNat)
      case atStart => exact ⟨0, ls, by omega, rfl, HO2.out, by omega, hB2, hc2.more (by omega)⟩
      case round =>
        obtain ⟨k, l', hk, rfl, hown, hl', hB, hc⟩ := hrel
        have HOW := Lib.hid hown
        clear hown HO2 hB2 hc2
        go_wp2_with fail
        refine (pick_any g G A n c _ 3 _ hG hn (by omega) (by omega) (by omega) hc).mono ?_
        rintro e w3 ⟨y3, ⟨y30, y31⟩, rfl, hb3, hc3⟩
        have HO3 := Lib.hid (HOW.out.but hb3 hgw)
        have hB3 := hB.trans hb3
        have hz3 := hB3.size
        clear hb3
        by_cases hlt : (k : Int) < 5 + y3
        · go_wp2_with (at_builtin; refine wpList_append_ints _ rfl (.tmp 32) (.tmp 35) rfl w.heap.size _ l' [3 + (k : Int)] w3.heap.size 1 rfl (HO3.out.alloc _) rfl (intAt_one (by simp)) (by simp; omega) (by simp; omega) ?_; intro v' w5 hown5 hb5)
          go_roundw
          case rel => exact ⟨k + 1, _, by omega, by go_num, hown5, by simp; omega, (hB3.alloc _).base hb5, ((hc3.but_alloc hG _).below hG hb5 hgw).more (by omega)⟩
          case measure => simp [intOf]; omega
        · go_wp2_with fail
          go_ret
          exact ⟨_, _, rfl, HO3.out, by omega, hB3, hc3.more (by omega)⟩
    · have f0 : (z == 0) = false := by simp [e0]
      have f1 : (z == 1) = false := by simp [e1]
      clear e0 e1
      go_wp2_with fail
      go_ret
      exact ⟨_, ls, rfl, HO2.out, by omega, hB2, hc2.more (by omega)⟩

/-- The ending of a draw of two lists of taints. -/
def DrawnTT (w : World) (e : Ending) (w' : World) : Prop := ∃ v1 v2 a b, e = .returned (.tuple #[v1, v2]) ∧ OwnsI w' w.heap.size v1 a ∧ OwnsI w' w.heap.size v2 b ∧ a.length ≤ 20 ∧ b.length ≤ 20 ∧ Below w.heap.size w w'

set_option maxHeartbeats 1600000 in
theorem DrawTolerates_any (A : Option Addr) (n c : Nat) (w : World) (hn : n ≤ 1048576) (hc : CodeAt w A n) :
    Calls Try.prog 18 #[.slice A n c] w (DrawnTT w) := by
  have HC := Lib.hid (show 0 < n → ∃ b off, A = some ⟨b, off, none⟩ ∧ b < w.heap.size ∧ ∀ i, i < n → ∃ z : Int, 0 ≤ z ∧ z ≤ 255 ∧ w.cell? ⟨b, off + i, none⟩ = some (.int .u8 z) from hc)
  clear hc
  go_enter Try.func18, Try.ntmps18
  go_wp2_with fail
  refine (l01Open_any A n c _ hn w.heap.size (Nat.le_refl _) HC.out).mono ?_
  rintro e w1 ⟨rfl, hb1, hc1⟩
  have hz1 := hb1.size
  have hg1 := hc1.lt
  go_wp2_with fail
  refine (badTaints_any w.heap.size w.heap.size A n c 0 _ (Nat.le_refl _) hn (by omega) hc1).mono ?_
  rintro e w2 ⟨v2, l2, rfl, ho2, hl2, hb2, hc2⟩
  have hz2 := hb2.size
  have HO2 := Lib.hid ho2
  clear ho2
  go_wp2_with fail
  refine (badTaints_any w.heap.size w.heap.size A n c (0 + 20) _ (Nat.le_refl _) hn (by omega) hc2).mono ?_
  rintro e w3 ⟨v3, l3, rfl, ho3, hl3, hb3, hc3⟩
  have HO3 := Lib.hid ho3
  have HO2' := Lib.hid (HO2.out.but hb3 hg1)
  clear ho3
  go_wp2_with fail
  go_ret2
  exact ⟨_, _, l2, l3, rfl, HO2'.out.lower hz1, HO3.out.lower (by omega), hl2, hl3, hb1.trans ((hb2.trans hb3).below (by omega) (Nat.le_refl _))⟩
end Go.Proofs.Ytelfoedgbgandaa
