/- The model's draw of labels that may be bad: badLabs. -/
import Derived.Test.YtelfoedgbgandaaDrawL
import Derived.Deep.RegionHeld3
import Derived.Deep.RegionLaw
import Derived.Deep.DrawnRows
namespace Go.Proofs.Ytelfoedgbgandaa
open Go.RowKit

theorem But.base {g : Nat} {w w1 w2 : World} (h : But g w w1) (hb : Below w.heap.size w1 w2) : But g w w2 :=
  ⟨hb.os.trans h.os, hb.tape.trans h.tape, hb.output.trans h.output, Nat.le_trans h.size hb.size, fun k hk hne => (hb.block k hk).trans (h.block k hk hne)⟩
theorem CurAt.below {g G : Nat} {A : Option Addr} {n c m B : Nat} {w w' : World} (hG : G ≤ g) (h : CurAt g G A n c m w) (hb : Below B w w') (hB : g < B) : CurAt g G A n c m w' := by
  obtain ⟨a, s, hk, h0, h1, h2, h3, h4⟩ := h
  refine ⟨a, s, hk.below hb hB, h0, h1, h2, h3, fun hn => ?_⟩
  obtain ⟨b, off, rfl, hbG, hc⟩ := h4 hn
  refine ⟨b, off, rfl, hbG, fun i hi => ?_⟩
  obtain ⟨z, z0, z1, hz⟩ := hc i hi
  exact ⟨z, z0, z1, (hb.cell (p := ⟨b, _, none⟩) (by show b < B; omega)).trans hz⟩
/-- Whatever is asked of a row of four numbers at an index within it is a number. -/
theorem four (x0 x1 x2 x3 : Int) (t : TypeId) (b : Nat) (w' : World) (hb : BlockIs w' b t #[.int .i64 x0, .int .i64 x1, .int .i64 x2, .int .i64 x3]) (z : Int) (h0 : 0 ≤ z) (h1 : z < 4) :
    ∃ v : Int, w'.cell? ⟨b, z.toNat, none⟩ = some (.int .i64 v) := by
  have : z.toNat < 4 := by omega
  generalize z.toNat = i at this
  rw [hb.cell]
  match i, this with
  | 0, _ => exact ⟨x0, rfl⟩
  | 1, _ => exact ⟨x1, rfl⟩
  | 2, _ => exact ⟨x2, rfl⟩
  | 3, _ => exact ⟨x3, rfl⟩

theorem four' (x0 x1 x2 x3 z : Int) (h0 : 0 ≤ z) (h1 : z < 4) : ∃ v : Int, (#[Value.int .i64 x0, .int .i64 x1, .int .i64 x2, .int .i64 x3] : Array Value)[z.toNat]? = some (.int .i64 v) ∧ ([Value.int .i64 x0, .int .i64 x1, .int .i64 x2, .int .i64 x3] : List Value)[z.toNat]? = some (.int .i64 v) ∧ ∀ h, ([Value.int .i64 x0, .int .i64 x1, .int .i64 x2, .int .i64 x3] : List Value)[z.toNat]'h = .int .i64 v := by
  have : z.toNat < 4 := by omega
  generalize z.toNat = i at this
  match i, this with
  | 0, _ => exact ⟨x0, rfl, rfl, fun _ => rfl⟩
  | 1, _ => exact ⟨x1, rfl, rfl, fun _ => rfl⟩
  | 2, _ => exact ⟨x2, rfl, rfl, fun _ => rfl⟩
  | 3, _ => exact ⟨x3, rfl, rfl, fun _ => rfl⟩
theorem three' (x0 x1 x2 z : Int) (h0 : 0 ≤ z) (h1 : z < 3) : ∃ v : Int, (#[Value.int .i64 x0, .int .i64 x1, .int .i64 x2] : Array Value)[z.toNat]? = some (.int .i64 v) ∧ ([Value.int .i64 x0, .int .i64 x1, .int .i64 x2] : List Value)[z.toNat]? = some (.int .i64 v) ∧ ∀ h, ([Value.int .i64 x0, .int .i64 x1, .int .i64 x2] : List Value)[z.toNat]'h = .int .i64 v := by
  have : z.toNat < 3 := by omega
  generalize z.toNat = i at this
  match i, this with
  | 0, _ => exact ⟨x0, rfl, rfl, fun _ => rfl⟩
  | 1, _ => exact ⟨x1, rfl, rfl, fun _ => rfl⟩
  | 2, _ => exact ⟨x2, rfl, rfl, fun _ => rfl⟩
/-- append of a label, as one step of a region that draws. -/
theorem step_append_lab {ops : Array Oper} {o : Oper} {a : Act} {K : Act → World → Prop} {Q : Exit → Act → World → Prop} {E : Prop} (w : World) (hgd : o.guard = none) (s x : Operand)
    (ho : o.op = .call { callee := .builtin .append, args := #[s, x], argTypes := #[24, 24] })
    (base : Nat) (v : Value) (l : List LV) (r : LV) (g : Nat) (hs : a.eval s = v) (hown : Owns w base v l) (hx : a.eval x = .slice (some ⟨g, 0, none⟩) 1 1)
    (h0 : w.cell? ⟨g, 0, none⟩ = some (.int .i64 r.k)) (h1 : w.cell? ⟨g, 1, none⟩ = some (.int .i64 r.v)) (hl : l.length ≤ 100000) (hbase : base ≤ w.heap.size)
    (h : ∀ v' w', Owns w' base v' (l ++ [r]) → Below base w w' → K (a.put o.dst v') w') : if Region.wanted o (yielded ops a.tmps) = true then Oper.wp Try.prog o a w K Q else E := by
  have hw : Region.wanted o (yielded ops a.tmps) = true := by simp [Region.wanted, hgd]
  rw [if_pos hw]
  obtain ⟨i0, hi0, hz0, hz1, hz2⟩ := info_parts Try.infoLab
  refine wp_append_own w s x 24 ho base 26 i0 _ 2 16 Try.underlying24 hi0 hz0 hz1 hz2 rfl (by omega) v l.length (labL l) hs hown ⟨g, 0, none⟩ 1 1 [.int .i64 r.k, .int .i64 r.v] hx rfl ?_ ?_ (by simp only [maxLen]; omega) (by omega) hbase ?_
  · intro j u hj
    match j, hj with
    | 0, hj => simp at hj; subst hj; simpa [Addr.add] using h0
    | 1, hj => simp at hj; subst hj; simpa [Addr.add] using h1
  · intro u hu
    simp at hu
    rcases hu with rfl | rfl <;> rfl
  · intro v' w' hown' hgrow _
    refine h v' w' ?_ ((Below.refl _ _).grown hgrow hbase (fun k hk => (World.ownsRow.lt hown k hk).1))
    unfold Owns
    rw [labL_append, List.length_append]
    exact hown'
/-- Where the draw stands: some list of at most b labels in the slot; of what was there only the cursor has turned. -/
def OutAt (b g G : Nat) (A : Option Addr) (n c m : Nat) (w : World) (s : Value) (wx : World) : Prop := ∃ l, Owns wx w.heap.size s l ∧ l.length ≤ b ∧ But g w wx ∧ CurAt g G A n c m wx

set_option maxHeartbeats 3200000 in
theorem badLabs_any (g G : Nat) (A : Option Addr) (n c m : Nat) (w : World) (hG : G ≤ g) (hn : n ≤ 1048576) (hm : m + 20 ≤ 1000000000) (h : CurAt g G A n c m w) :
    Calls Try.prog 35 #[.pointer (some ⟨g, 0, none⟩)] w (DrawnL 20 g G A n c (m + 20) w) := by
  have hgw := h.lt
  go_enter Try.func35, Try.ntmps35
  go_wp2_with fail
  refine (curLabs_any g G A n c m _ hG hn (by omega) h).mono ?_
  rintro e w1 ⟨v1, l, rfl, ho1, hl, hB1, hc1⟩
  have hz1 := hB1.size
  go_wp2_with fail
  refine (pick_any g G A n c _ 9 _ hG hn (by omega) (by omega) (by omega) hc1).mono ?_
  rintro e w2 ⟨z, ⟨z0, z1⟩, rfl, hb2, hc2⟩
  have hz2 := hb2.size
  have HO2 := Lib.hid (ho1.but hb2 hgw)
  have hB2 := hB1.trans hb2
  clear ho1 hb2 hc1 hB1
  by_cases e0 : z = 0
  · subst e0
    have hB2d := hB2.drew
    have HO2d : Hid (Owns w2.drew w.heap.size v1 l) := HO2.out
    have hc2d : CurAt g G A n c (m + 5 + 1) w2.drew := hc2
    go_wp2_with fail
    go_region_law
      (first
        | (go_simp; go_at_call 37; refine (raw_any g G A n c _ _ hG hn (by omega) hc2d).mono ?_; rintro e w3 ⟨y3, _, rfl, hb3, hc3⟩; have hz3 := hb3.size; have hg3 := hc3.lt; have HO3 := Lib.hid (HO2d.out.but hb3 hgw); have hB3 := hB2d.trans hb3; clear hb3)
        | (go_simp; go_at_call_of 36 (Value.int IntKind.i64 4); refine (pick_any g G A n c _ 4 _ hG hn ?_ (by omega) (by omega) (by first | exact hc3 | exact hc3.but_alloc hG _)).mono ?_; (omega); rintro e w4 ⟨y4, ⟨y40, y41⟩, rfl, hb4, hc4⟩; have hz4 := hb4.size; have hg4 := hc4.lt; (try simp at hz4); obtain ⟨q, hq, hq', hq''⟩ := four' y3 2 9 10 y4 y40 y41; (first | (have hA4 := (BlockIs.new w3 3 #[.int .i64 y3, .int .i64 2, .int .i64 9, .int .i64 10]).but hb4 (by omega); have hq4 := (hA4.cell y4.toNat).trans hq; have HA4 := Lib.hid hA4; clear hA4) | skip); (first | (have HO4 := Lib.hid (HO3.out.but hb4 hgw); have hB4 := hB3.trans hb4) | (have HO4 := Lib.hid ((HO3.out.alloc _).but hb4 hgw); have hB4 := (hB3.alloc _).trans hb4)); clear hb4)
        | (go_simp; go_at_call_of 36 (Value.int IntKind.i64 3); refine (pick_any g G A n c _ 3 _ hG hn ?_ (by omega) (by omega) (by first | exact hc4 | exact hc4.but_alloc hG _)).mono ?_; (omega); rintro e w5 ⟨y5, ⟨y50, y51⟩, rfl, hb5, hc5⟩; have hz5 := hb5.size; have hg5 := hc5.lt; (try simp at hz5); (first | (have hq5 := ((HA4.out.but hb5 (by omega)).cell y4.toNat).trans hq) | (have hq5 := (((BlockIs.new w4 3 #[.int .i64 y3, .int .i64 2, .int .i64 9, .int .i64 10]).but hb5 (by omega)).cell y4.toNat).trans hq) | skip); (first | (have HO5 := Lib.hid (HO4.out.but hb5 hgw); have hB5 := hB4.trans hb5) | (have HO5 := Lib.hid ((HO4.out.alloc _).but hb5 hgw); have hB5 := (hB4.alloc _).trans hb5)); have hs5 := hB5.size; clear hb5)
        | (refine step_append_lab _ (by rfl) (.tmp 11) (.tmp 22) (by rfl) w.heap.size _ l ⟨q, y5⟩ _ (by rfl) (by first | exact HO5.out.alloc _ | exact (HO5.out.alloc _).alloc _) (by rfl) (by simp) (by simp) (by omega) (by simp; omega) ?_; intro v' w6 hown6 hb6))
    all_goals
      go_wp2_with fail
      go_ret
      first
        | exact ⟨_, _, rfl, hown6, by simp; omega, (hB5.alloc _).base hb6, ((hc5.but_alloc hG _).below hG hb6 hgw).more (by omega)⟩
        | exact ⟨_, _, rfl, hown6, by simp; omega, ((hB5.alloc _).alloc _).base hb6, (((hc5.but_alloc hG _).but_alloc hG _).below hG hb6 hgw).more (by omega)⟩
  · by_cases e1 : z = 1
    · subst e1
      go_wp2_with fail
      refine (raw_any g G A n c _ _ hG hn (by omega) hc2).mono ?_
      rintro e w3 ⟨y3, _, rfl, hb3, hc3⟩
      have hz3 := hb3.size
      go_wp2_with fail
      refine (pick_any g G A n c _ 3 _ hG hn (by omega) (by omega) (by omega) (hc3.but_alloc hG _)).mono ?_
      rintro e w4 ⟨y4, ⟨y40, y41⟩, rfl, hb4, hc4⟩
      have hz4 := hb4.size
      simp at hz4
      obtain ⟨v4, hv4⟩ := three _ _ _ 3 w3.heap.size w4 ((BlockIs.new w3 3 #[.int .i64 y3, .int .i64 9, .int .i64 10]).but hb4 (by omega)) y4 y40 y41
      have HO4 := Lib.hid (((HO2.out.but hb3 hgw).alloc (.cells #[.int .i64 y3, .int .i64 9, .int .i64 10] 3)).but hb4 hgw)
      have hB4 := ((hB2.trans hb3).alloc _).trans hb4
      have hz4' := hB4.size
      clear hb3 hb4 hc3 HO2
      go_wp2_with (at_builtin; refine wpList_append_lab _ rfl (.tmp 26) (.tmp 35) rfl w.heap.size _ l ⟨9, v4⟩ w4.heap.size rfl (HO4.out.alloc _) rfl (by simp) (by simp) (by omega) (by simp; omega) ?_; intro v' w5 hown5 hb5)
      go_ret
      exact ⟨_, _, rfl, hown5, by simp; omega, (hB4.alloc _).base hb5, ((hc4.but_alloc hG _).below hG hb5 hgw).more (by omega)⟩
    · by_cases e2 : z = 2
      · subst e2
        go_wp2_with fail
        go_loopw [3, 4] (fun s3 s4 wr => ∃ (k : Nat) (l' : List LV), k ≤ 7 ∧ s4 = .int .i64 k ∧ Owns wr w.heap.size s3 l' ∧ l'.length ≤ 6 + k ∧ But g w wr ∧ CurAt g G A n c (m + 6 + k) wr) (fun _ s4 _ => (8 - intOf s4).toNat)
        case atStart => exact ⟨0, l, by omega, rfl, HO2.out, by omega, hB2, hc2.more (by omega)⟩
        case round =>
          obtain ⟨k, l', hk, rfl, hown, hl', hB, hc⟩ := hrel
          have HOW := Lib.hid hown
          clear hown HO2 hB2 hc2
          go_wp2_with fail
          refine (pick_any g G A n c _ 3 _ hG hn (by omega) (by omega) (by omega) hc).mono ?_
          rintro e w3 ⟨y3, ⟨y30, y31⟩, rfl, hb3, hc3⟩
          have HO3 := Lib.hid (HOW.out.but hb3 hgw)
          have hB3 := hB.trans hb3
          have hz3 := hB3.size
          clear hb3
          by_cases hlt : (k : Int) < 5 + y3
          · go_wp2_with (at_builtin; refine wpList_append_lab _ rfl (.tmp 46) (.tmp 50) rfl w.heap.size _ l' ⟨3 + k, 0⟩ w3.heap.size rfl (HO3.out.alloc _) rfl (by simp) (by simp) (by omega) (by simp; omega) ?_; intro v' w5 hown5 hb5)
            go_roundw
            case rel => exact ⟨k + 1, _, by omega, by go_num, hown5, by simp; omega, (hB3.alloc _).base hb5, ((hc3.but_alloc hG _).below hG hb5 hgw).more (by omega)⟩
            case measure => simp [intOf]; omega
          · go_wp2_with fail
            go_ret
            exact ⟨_, _, rfl, HO3.out, by omega, hB3, hc3.more (by omega)⟩
      · have f0 : (z == 0) = false := by simp [e0]
        have f1 : (z == 1) = false := by simp [e1]
        have f2 : (z == 2) = false := by simp [e2]
        clear e0 e1 e2
        go_wp2_with fail
        go_ret
        exact ⟨_, l, rfl, HO2.out, by omega, hB2, hc2.more (by omega)⟩
end Go.Proofs.Ytelfoedgbgandaa
