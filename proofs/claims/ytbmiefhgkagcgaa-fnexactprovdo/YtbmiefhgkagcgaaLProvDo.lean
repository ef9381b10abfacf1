/- FnExactProvDo answers true at every argument: ProvDo and its model answer with the same provider and the same code, the provider is left as it was, and what is returned owns its memory. No condition. -/
import Derived.Test.YtbmiefhgkagcgaaProvRow
import Derived.Test.YtbmiefhgkagcgaaProvMD
import Derived.Test.YtbmiefhgkagcgaaMsgRow
import Derived.Test.YtbmiefhgkagcgaaProvMk
namespace Go.Proofs.Ytbmiefhgkagcgaa.fnExactProvDo
open Go.ChangeShapes Go.WideShapes Go.ChangeAt Go.RowKit Go.Joins

theorem OwnsN.setCell {w : World} {base : Nat} {v : Value} {l : List RV} (h : OwnsN w base v l) {a : Addr} (ha : a.block < base) (u : Value) : OwnsN (w.setCell a u) base v l := by
  obtain ⟨h1, h2⟩ := h
  refine ⟨h1, ?_⟩
  rcases h2 with h | ⟨g, cap, cur, hv, hg, hh, h⟩
  · exact .inl h
  · exact .inr ⟨g, cap, cur, hv, hg, (Below.heap_setCell w a u g (by omega)).trans hh, h⟩
/-- In a box made since X stands a provider that is owned. -/
def PutB (X : World) (ep : Int) (instances : List RV) (s : Value) (wx : World) : Prop := ∃ g v, s = .pointer (some ⟨g, 0, none⟩) ∧ X.heap.size ≤ g ∧ BlockIs wx g 26 #[.int .i64 ep, v] ∧ OwnsN wx X.heap.size v instances ∧ (∀ k, v.ownBlock = some k → k ≠ g) ∧ Below X.heap.size X wx
theorem st_put {w : World} {g : Nat} {t : TypeId} {a b : Value} (h : BlockIs w g t #[a, b]) (x y : Value) : BlockIs ((w.setCell ⟨g, 0, none⟩ x).setCell ⟨g, 1, none⟩ y) g t #[x, y] := by
  have := (h.put 0 x).put 1 y
  simpa using this
set_option maxHeartbeats 1600000 in
theorem walk_long (ep : Int) (A : Option Addr) (n c : Nat) (m : MV) (works : Bool) (w : World) (h : 1048576 < n) (hm : n ≤ maxLen) :
    Calls Try.prog 7 #[.agg #[.int .i64 ep, .slice A n c], .agg #[.int .i64 m.k, .int .i64 m.e, .int .i64 m.i, .int .i64 m.p], .bool works] w fun e w' => e = .returned (.bool true) ∧ Below w.heap.size w w' := by
  have HS := Lib.hid (fun w => szProv_no ep A n c w h hm)
  clear h hm
  go_enter Try.func7, Try.ntmps7
  go_wp2_with fail
  refine (HS.out _).mono ?_
  rintro e w1 ⟨rfl, hb1⟩
  have hz1 := hb1.size
  simp at hz1
  go_wp2_with fail
  go_ret
  exact ⟨rfl, (by repeat' (first | exact Below.refl _ _ | refine Below.alloc ?_ ?_ _ | refine Below.setCell ?_ ?_ _ | refine Below.drew ?_ | (apply below_step; assumption) | (simp; done) | (simp; omega) | omega))⟩

set_option maxRecDepth 20000 in
set_option maxHeartbeats 12800000 in
theorem walk (ep : Int) (A : Option Addr) (c : Nat) (l : List RV) (m : MV) (works : Bool) (w : World) (hv : InSl w (.slice A l.length c) l) (hlen : l.length ≤ 1048576) :
    Calls Try.prog 7 #[.agg #[.int .i64 ep, .slice A l.length c], .agg #[.int .i64 m.k, .int .i64 m.e, .int .i64 m.i, .int .i64 m.p], .bool works] w fun e w' => e = .returned (.bool true) ∧ Below w.heap.size w w' := by
  have HV := Lib.hid hv
  have HSZ := Lib.hid (fun w => szProv_yes ep A l.length c w hlen)
  have hle : decide ((1048576 : Int) - l.length < 0) = false := decide_eq_false (by omega)
  generalize ((1048576 : Int) - l.length) = z at *
  have hsd := fun v w h hp => sProvDo_any ep v l m works w h hlen hp
  have hid := fun v w h => ProvDo_any ep v l m works w h hlen
  have hil : (provDo ep l m works).items.length ≤ 1048576 := provDo_len ep l m works
  generalize provDo ep l m works = ans at *
  obtain ⟨ae, ai, ac⟩ := ans
  unfold RetPA at hsd hid
  dsimp only at hsd hid hil
  have hne : (ac != ac) = false := by simp
  have HSD := Lib.hid hsd
  have HID := Lib.hid hid
  have HTO := Lib.hid (fun w h => toProv_any ep (.slice A l.length c) l w h hlen)
  have HL := Lib.hid hlen
  have HIL := Lib.hid hil
  clear hv hlen hsd hid hil
  go_enter Try.func7, Try.ntmps7
  go_wp2_with fail
  refine (HSZ.out _).mono ?_
  rintro e w1 ⟨rfl, hb1⟩
  have hX : Below w.heap.size w ((w.alloc (.cells #[.int .i64 ep, .slice A l.length c] 41)).alloc (.cells #[.int .i64 m.k, .int .i64 m.e, .int .i64 m.i, .int .i64 m.p] 46)) := (by repeat' (first | exact Below.refl _ _ | refine Below.alloc ?_ ?_ _ | refine Below.setCell ?_ ?_ _ | refine Below.drew ?_ | (apply below_step; assumption) | (simp; done) | (simp; omega) | omega))
  have hC1 := below_of hX hb1
  have BA1 := Lib.hid (((BlockIs.new w 41 #[.int .i64 ep, .slice A l.length c]).alloc (.cells #[.int .i64 m.k, .int .i64 m.e, .int .i64 m.i, .int .i64 m.p] 46)).below hb1 (by simp; omega))
  have BT1 := Lib.hid ((BlockIs.new' (w := w.alloc (.cells #[.int .i64 ep, .slice A l.length c] 41)) (t := 46) (cs := #[.int .i64 m.k, .int .i64 m.e, .int .i64 m.i, .int .i64 m.p]) (g := w.heap.size + 1) (by simp)).below hb1 (by simp))
  have HK1 := Lib.hid (show ∀ w', Below w1.heap.size w1 w' → Below w1.heap.size w1 w' ∧ (∀ o, w'.cell? ⟨w.heap.size, o, none⟩ = (#[.int .i64 ep, .slice A l.length c] : Array Value)[o]?) ∧ (∀ o, w'.cell? ⟨w.heap.size + 1, o, none⟩ = (#[.int .i64 m.k, .int .i64 m.e, .int .i64 m.i, .int .i64 m.p] : Array Value)[o]?) from fun w' hb => ⟨hb, (BA1.out.below hb BA1.out.lt).cell, (BT1.out.below hb BT1.out.lt).cell⟩)
  have l1 := BA1.out.lt
  have m1 := BT1.out.lt
  clear hX hb1
  go_upto_region 5 with fail
  go_cut [8, 9] (fun s1 s2 wx => s2 = .int .i64 ac ∧ PutB w1 ae ai s1 wx)
  case first =>
    go_region_held3 (fun w' => Below w1.heap.size w1 w' ∧ (∀ o, w'.cell? ⟨w.heap.size, o, none⟩ = (#[.int .i64 ep, .slice A l.length c] : Array Value)[o]?) ∧ (∀ o, w'.cell? ⟨w.heap.size + 1, o, none⟩ = (#[.int .i64 m.k, .int .i64 m.e, .int .i64 m.i, .int .i64 m.p] : Array Value)[o]?))
      (exact HK1.out _ (by repeat' (first | exact Below.refl _ _ | refine Below.alloc ?_ ?_ _ | refine Below.setCell ?_ ?_ _ | refine Below.drew ?_ | (apply below_step; assumption) | (simp; done) | (simp; omega) | omega)))
      (first
        | (go_at_call 24; refine (HTO.out _ (HV.out.below (below_of hC1 (by repeat' (first | exact Below.refl _ _ | refine Below.alloc ?_ ?_ _ | refine Below.setCell ?_ ?_ _ | refine Below.drew ?_ | (apply below_step; assumption) | (simp; done) | (simp; omega) | omega))))).mono ?_; rintro e u5 ⟨g5, rfl, _, hgl5, hs5, _, hb5⟩; have hz5 := hb5.size; (try simp at hz5); have HS5 := Lib.hid hs5; clear hs5)
        | (go_at_call 28; refine (toMsg_any m _).mono ?_; rintro e u6 ⟨rfl, hb6⟩; have hz6 := hb6.size; (try simp at hz6))
        | (go_at_call 13; refine (HSD.out _ _ (HS5.out.below (by repeat' (first | exact Below.refl _ _ | refine Below.alloc ?_ ?_ _ | refine Below.setCell ?_ ?_ _ | refine Below.drew ?_ | (apply below_step; assumption) | (simp; done) | (simp; omega) | omega))) (.inr ⟨_, _, _, rfl, Nat.le_refl _⟩)).mono ?_; rintro e u7 ⟨v7, rfl, ho7, hb7⟩; have hz7 := hb7.size; (try simp at hz7); obtain ⟨A7, c7, rfl⟩ := ho7.len; have HO7 := Lib.hid ho7; clear ho7; (first | (have q0 := BlockIs.new w1.drew 26 #[.int .i64 0, .slice none 0 0]; have q1 := q0.below hb5 q0.lt; have q2 := q1.below hb6 q1.lt; have BBa := q2.below hb7 q2.lt) | (have q0 := BlockIs.new w1.drew 26 #[.int .i64 0, .slice none 0 0]; have q1 := q0.below hb6 q0.lt; have q2 := q1.below hb5 q1.lt; have BBa := q2.below hb7 q2.lt) | (have q0 := BlockIs.new u5 26 #[.int .i64 0, .slice none 0 0]; have q1 := q0.below hb6 q0.lt; have BBa := q1.below hb7 q1.lt) | (have q0 := BlockIs.new u6 26 #[.int .i64 0, .slice none 0 0]; have q1 := q0.below hb5 q0.lt; have BBa := q1.below hb7 q1.lt) | (have q0 := BlockIs.new u6 26 #[.int .i64 0, .slice none 0 0]; have BBa := q0.below hb7 q0.lt) | (have q0 := BlockIs.new u5 26 #[.int .i64 0, .slice none 0 0]; have BBa := q0.below hb7 q0.lt) | have BBa := True.intro); (first | (have bx0 := BBa.cell 0; have bx1 := BBa.cell 1; have bxf := BBa.frozen; simp at bx0 bx1; (try simp at bxf); have BBL := BBa.lt; have HBB := Lib.hid BBa; clear BBa) | skip)))
    all_goals
      go_wp2_with fail
      go_meet
      refine ⟨rfl, _, .slice A7 ai.length c7, rfl, ?_, ?_, ?_, ?_, ?_⟩
      · first | (simp; done) | (simp; omega) | omega
      · first
          | exact BlockIs.new' (by simp; done)
          | exact st_put HBB.out _ _
          | exact st_put (BlockIs.drew HBB.out) _ _
      · first
          | exact OwnsN.low (HO7.out.alloc _) (by first | (simp; done) | (simp; omega) | omega)
          | exact OwnsN.low (OwnsN.setCell (OwnsN.setCell HO7.out (by first | (simp; done) | (simp; omega) | omega) _) (by first | (simp; done) | (simp; omega) | omega) _) (by first | (simp; done) | (simp; omega) | omega)
      · intro k hk
        have h1 := HO7.out.lt k hk
        (try simp at h1)
        (first | omega | (simp; omega))
      · exact (by repeat' (first | exact Below.refl _ _ | refine Below.alloc ?_ ?_ _ | refine Below.setCell ?_ ?_ _ | refine Below.drew ?_ | (apply below_step; assumption) | (simp; done) | (simp; omega) | omega))
  case rest =>
    obtain ⟨rfl, gs, v3, rfl, hgs, hsb3, ho3, hsn, hb3⟩ := hcut
    obtain ⟨w3, rfl⟩ : ∃ x : World, x = wc := ⟨wc, rfl⟩
    have hC3 := below_of hC1 hb3
    obtain ⟨A3, c3, rfl⟩ := ho3.len
    have BA3 := Lib.hid (BA1.out.below hb3 BA1.out.lt)
    have BT3 := Lib.hid (BT1.out.below hb3 BT1.out.lt)
    have SO3 := Lib.hid ho3
    have SB3 := Lib.hid hsb3
    have SN3 := Lib.hid hsn
    have sgl := hsb3.lt
    have z3 := hb3.size
    have x3 := BA3.out.cell
    have l3 := BA3.out.lt
    clear hb3 ho3 hsb3 hsn HK1
    go_wp2_with fail
    refine (HTO.out _ (HV.out.below hC3)).mono ?_
    rintro e w4 ⟨g4, rfl, hg4, hgl4, hs4, ho4, hb4⟩
    have hC4 := below_of hC3 hb4
    have BA4 := Lib.hid (BA3.out.below hb4 BA3.out.lt)
    have BT4 := Lib.hid (BT3.out.below hb4 BT3.out.lt)
    have SB4 := Lib.hid (SB3.out.below hb4 SB3.out.lt)
    have SO4 := Lib.hid (SO3.out.below hb4 (Nat.le_refl _))
    have XO4 := Lib.hid ho4
    have HS4 := Lib.hid hs4
    have z4 := hb4.size
    clear hs4 hb4 BA3 BT3 x3 SB3 ho4
    have hA4 : Below w4.heap.size w4 (w4.alloc (.cells #[.int .i64 ep, .slice (some ⟨g4, 0, none⟩) l.length l.length] 26)) := (by repeat' (first | exact Below.refl _ _ | refine Below.alloc ?_ ?_ _ | refine Below.setCell ?_ ?_ _ | refine Below.drew ?_ | (apply below_step; assumption) | (simp; done) | (simp; omega) | omega))
    obtain ⟨w4a, hw4a⟩ : ∃ x, x = w4.alloc (.cells #[.int .i64 ep, .slice (some ⟨g4, 0, none⟩) l.length l.length] 26) := ⟨_, rfl⟩
    have hX4 : Below w4.heap.size w4 w4a := by rw [hw4a]; exact hA4
    have XB4 := Lib.hid (show BlockIs w4a w4.heap.size 26 #[.int .i64 ep, .slice (some ⟨g4, 0, none⟩) l.length l.length] by rw [hw4a]; exact BlockIs.new _ _ _)
    have z4a : w4.heap.size < w4a.heap.size := by rw [hw4a]; simp
    have hC4a := below_of hC4 hX4
    have BA4a := Lib.hid (BA4.out.below hX4 BA4.out.lt)
    have BT4a := Lib.hid (BT4.out.below hX4 BT4.out.lt)
    have HK4 := Lib.hid (show ∀ w', Below w4a.heap.size w4a w' → Below w4a.heap.size w4a w' ∧ (∀ o, w'.cell? ⟨w.heap.size, o, none⟩ = (#[.int .i64 ep, .slice A l.length c] : Array Value)[o]?) ∧ (∀ o, w'.cell? ⟨w.heap.size + 1, o, none⟩ = (#[.int .i64 m.k, .int .i64 m.e, .int .i64 m.i, .int .i64 m.p] : Array Value)[o]?) ∧ (∀ o, w'.cell? ⟨w4.heap.size, o, none⟩ = (#[.int .i64 ep, .slice (some ⟨g4, 0, none⟩) l.length l.length] : Array Value)[o]?) from fun w' hb => ⟨hb, (BA4a.out.below hb BA4a.out.lt).cell, (BT4a.out.below hb BT4a.out.lt).cell, (XB4.out.below hb XB4.out.lt).cell⟩)
    have HS4a := Lib.hid (HS4.out.below hX4)
    have l4 := BA4a.out.lt
    have m4 := BT4a.out.lt
    have W4A := Lib.hid hw4a
    go_upto_region 7 with fail
    rw [← W4A.out]
    clear hw4a
    go_cut [11, 12] (fun s1 s2 wx => s2 = .int .i64 ac ∧ PutB w4a ae ai s1 wx)
    case first =>
      go_region_held3 (fun w' => Below w4a.heap.size w4a w' ∧ (∀ o, w'.cell? ⟨w.heap.size, o, none⟩ = (#[.int .i64 ep, .slice A l.length c] : Array Value)[o]?) ∧ (∀ o, w'.cell? ⟨w.heap.size + 1, o, none⟩ = (#[.int .i64 m.k, .int .i64 m.e, .int .i64 m.i, .int .i64 m.p] : Array Value)[o]?) ∧ (∀ o, w'.cell? ⟨w4.heap.size, o, none⟩ = (#[.int .i64 ep, .slice (some ⟨g4, 0, none⟩) l.length l.length] : Array Value)[o]?))
        (exact HK4.out _ (by repeat' (first | exact Below.refl _ _ | refine Below.alloc ?_ ?_ _ | refine Below.setCell ?_ ?_ _ | refine Below.drew ?_ | (apply below_step; assumption) | (simp; done) | (simp; omega) | omega)))
        (first
          | (go_at_call 28; refine (toMsg_any m _).mono ?_; rintro e u6 ⟨rfl, hb6⟩; have hz6 := hb6.size; (try simp at hz6))
          | (go_at_call 14; refine (HID.out _ _ (HS4a.out.below (by repeat' (first | exact Below.refl _ _ | refine Below.alloc ?_ ?_ _ | refine Below.setCell ?_ ?_ _ | refine Below.drew ?_ | (apply below_step; assumption) | (simp; done) | (simp; omega) | omega)))).mono ?_; rintro e u7 ⟨v7, rfl, ho7, hb7⟩; have hz7 := hb7.size; (try simp at hz7); obtain ⟨A7, c7, rfl⟩ := ho7.len; have HO7 := Lib.hid ho7; clear ho7; (first | (have q0 := BlockIs.new w4a.drew 26 #[.int .i64 0, .slice none 0 0]; have q1 := q0.below hb6 q0.lt; have BBa := q1.below hb7 q1.lt) | (have q0 := BlockIs.new u6 26 #[.int .i64 0, .slice none 0 0]; have BBa := q0.below hb7 q0.lt) | have BBa := True.intro); (first | (have bx0 := BBa.cell 0; have bx1 := BBa.cell 1; have bxf := BBa.frozen; simp at bx0 bx1; (try simp at bxf); have BBL := BBa.lt; have HBB := Lib.hid BBa; clear BBa) | skip)))
      all_goals
        go_wp2_with fail
        go_meet
        refine ⟨rfl, _, .slice A7 ai.length c7, rfl, ?_, ?_, ?_, ?_, ?_⟩
        · first | (simp; done) | (simp; omega) | omega
        · first
            | exact BlockIs.new' (by simp; done)
            | exact st_put HBB.out _ _
            | exact st_put (BlockIs.drew HBB.out) _ _
        · first
            | exact OwnsN.low (HO7.out.alloc _) (by first | (simp; done) | (simp; omega) | omega)
            | exact OwnsN.low (OwnsN.setCell (OwnsN.setCell HO7.out (by first | (simp; done) | (simp; omega) | omega) _) (by first | (simp; done) | (simp; omega) | omega) _) (by first | (simp; done) | (simp; omega) | omega)
        · intro k hk
          have h1 := HO7.out.lt k hk
          (try simp at h1)
          (first | omega | (simp; omega))
        · exact (by repeat' (first | exact Below.refl _ _ | refine Below.alloc ?_ ?_ _ | refine Below.setCell ?_ ?_ _ | refine Below.drew ?_ | (apply below_step; assumption) | (simp; done) | (simp; omega) | omega))
    case rest =>
      obtain ⟨rfl, gi, v5, rfl, hgi, hib5, ho5, hin, hb5⟩ := hcut
      obtain ⟨w5, rfl⟩ : ∃ x : World, x = wc := ⟨wc, rfl⟩
      have hD5 := below_of hX4 hb5
      have hC5 := below_of hC4 hD5
      obtain ⟨A5, c5, rfl⟩ := ho5.len
      have BA5 := Lib.hid (BA4.out.below hD5 BA4.out.lt)
      have SB5 := Lib.hid (SB4.out.below hD5 SB4.out.lt)
      have XB5 := Lib.hid (XB4.out.below hb5 XB4.out.lt)
      have BT5 := Lib.hid (BT4.out.below hD5 BT4.out.lt)
      have IB5 := Lib.hid hib5
      have IN5 := Lib.hid hin
      have SO5 := Lib.hid (SO4.out.below hD5 (Nat.le_refl _))
      have XO5 := Lib.hid (XO4.out.below hD5 (Nat.le_refl _))
      have IO5 := Lib.hid (OwnsN.low (base' := w4.heap.size + 1) ho5 (by omega))
      have HS5 := Lib.hid (HS4.out.below hD5)
      have z5 := hb5.size
      have igl := hib5.lt
      have r5 := SB5.out.cell
      have r5l := SB5.out.lt
      have j5 := IB5.out.cell
      clear hA4 hX4 hb5 hD5 HS4 HS4a BA4 BT4 BA4a BT4a XB4 SB4 XO4 SO4 ho5 hib5 hin HK4
      go_wp2_with fail
      refine (eqProv_same ae _ _ ai _ IO5.out.sl SO5.out.sl HIL.out).mono ?_
      rintro e w6 ⟨rfl, hb6⟩
      have hD6 := hb6
      have hC6 := below_of hC5 hD6
      have BA6 := Lib.hid (BA5.out.below hD6 BA5.out.lt)
      have SB6 := Lib.hid (SB5.out.below hD6 SB5.out.lt)
      have XB6 := Lib.hid (XB5.out.below hD6 XB5.out.lt)
      have IB6 := Lib.hid (IB5.out.below hb6 IB5.out.lt)
      have BT6 := Lib.hid (BT5.out.below hb6 BT5.out.lt)
      have SO6 := Lib.hid (SO5.out.below hD6 (Nat.le_refl _))
      have XO6 := Lib.hid (XO5.out.below hD6 (Nat.le_refl _))
      have IO6 := Lib.hid (IO5.out.below hD6 (Nat.le_refl _))
      have HS6 := Lib.hid (HS5.out.below hD6)
      have z6 := hb6.size
      have b6 := BA6.out.cell
      have x6 := XB6.out.cell
      have HK := Lib.hid (show ∀ w', Below w6.heap.size w6 w' → Below w6.heap.size w6 w' ∧ (∀ o, w'.cell? ⟨w.heap.size, o, none⟩ = (#[.int .i64 ep, .slice A l.length c] : Array Value)[o]?) ∧ (∀ o, w'.cell? ⟨w4.heap.size, o, none⟩ = (#[.int .i64 ep, .slice (some ⟨g4, 0, none⟩) l.length l.length] : Array Value)[o]?) from
        fun w' hb => ⟨hb, (BA6.out.below hb BA6.out.lt).cell, (XB6.out.below hb XB6.out.lt).cell⟩)
      have LT := Lib.hid (And.intro BA6.out.lt XB6.out.lt)
      have v5l := Lib.hid (fun k hk => And.intro (IO5.out.lt k hk).1 (IO5.out.lt k hk).2)
      have v3l := Lib.hid SO3.out.lt
      clear hb6 hD6 HS5 BA5 BT5 SB5 XB5 IB5 SO5 XO5 IO5 r5 r5l j5
      go_wp2_with fail
      go_region_held3 (fun w' => Below w6.heap.size w6 w' ∧ (∀ o, w'.cell? ⟨w.heap.size, o, none⟩ = (#[.int .i64 ep, .slice A l.length c] : Array Value)[o]?) ∧ (∀ o, w'.cell? ⟨w4.heap.size, o, none⟩ = (#[.int .i64 ep, .slice (some ⟨g4, 0, none⟩) l.length l.length] : Array Value)[o]?))
        (exact HK.out _ (by repeat' (first | exact Below.refl _ _ | refine Below.alloc ?_ ?_ _ | refine Below.setCell ?_ ?_ _ | refine Below.drew ?_ | (apply below_step; assumption) | (simp; done) | (simp; omega) | omega)))
        (first
          | (go_at_call 24; refine (HTO.out _ (HV.out.below (below_of hC6 (by repeat' (first | exact Below.refl _ _ | refine Below.alloc ?_ ?_ _ | refine Below.setCell ?_ ?_ _ | refine Below.drew ?_ | (apply below_step; assumption) | (simp; done) | (simp; omega) | omega))))).mono ?_; rintro e w7 ⟨g7, rfl, _, hg7, hs7, _, hb7⟩; have HS7 := Lib.hid hs7; clear hs7; have hz7 := hb7.size; try simp at hz7)
          | (go_at_call 26; refine (eqProv_same ep _ _ l _ (HS6.out.below (by repeat' (first | exact Below.refl _ _ | refine Below.alloc ?_ ?_ _ | refine Below.setCell ?_ ?_ _ | refine Below.drew ?_ | (apply below_step; assumption) | (simp; done) | (simp; omega) | omega))) HS7.out HL.out).mono ?_; rintro e w8 ⟨rfl, hb8⟩; have hz8 := hb8.size; try simp at hz8))
      have hD8 : Below w6.heap.size w6 w8 := (by repeat' (first | exact Below.refl _ _ | refine Below.alloc ?_ ?_ _ | refine Below.setCell ?_ ?_ _ | refine Below.drew ?_ | (apply below_step; assumption) | (simp; done) | (simp; omega) | omega))
      have hC8 := below_of hC6 hD8
      have BA8 := Lib.hid (BA6.out.below hD8 BA6.out.lt)
      have BT8 := Lib.hid (BT6.out.below hD8 BT6.out.lt)
      have SB8 := Lib.hid (SB6.out.below hD8 SB6.out.lt)
      have XB8 := Lib.hid (XB6.out.below hD8 XB6.out.lt)
      have IB8 := Lib.hid (IB6.out.below hD8 IB6.out.lt)
      have SO8 := Lib.hid (SO6.out.below hD8 (Nat.le_refl _))
      have XO8 := Lib.hid (XO6.out.below hD8 (Nat.le_refl _))
      have IO8 := Lib.hid (IO6.out.below hD8 (Nat.le_refl _))
      have x8 := XB8.out.cell
      have z8 := hD8.size
      clear hb7 hb8 hD8 BA6 SB6 XB6 IB6 SO6 XO6 IO6 HS6 HS7 b6 x6 HK LT hz7 hz8
      go_wp2_with fail
      refine (markProv_any ep _ _ _ l XO8.out HL.out).mono ?_
      rintro e w9 ⟨rfl, _, hgr9⟩
      have hgr9 : w8.grownBy w9 (some g4) := hgr9
      have z9 := hgr9.size
      have hC9 : Below w.heap.size w w9 := hC8.grown hgr9 (by have := hC8.size; omega) (fun k hk => by cases hk; omega)
      have BA9 := Lib.hid (BA8.out.turned hgr9 (by intro e; cases e; omega))
      have BT9 := Lib.hid (BT8.out.turned hgr9 (by intro e; cases e; omega))
      have SB9 := Lib.hid (SB8.out.turned hgr9 (by intro e; cases e; omega))
      have IB9 := Lib.hid (IB8.out.turned hgr9 (by intro e; cases e; omega))
      have SO9 := Lib.hid (SO8.out.turned hgr9 (by intro k hk e; cases e; have := (v3l.out _ hk).2; omega))
      have IO9 := Lib.hid (IO8.out.turned hgr9 (by intro k hk e; cases e; have := (v5l.out _ hk).1; omega))
      have s9 := SB9.out.cell
      have i9 := IB9.out.cell
      have hk9 : decide ((1 : Int) + 3 * l.length < 0) = false := decide_eq_false (by omega)
      generalize (1 + 3 * (l.length : Int)) = kz at *
      clear hgr9 BA8 SB8 XB8 IB8 SO8 XO8 IO8 x8
      go_wp2_with fail
      refine (eqProv_same ae _ _ ai _ IO9.out.sl SO9.out.sl HIL.out).mono ?_
      rintro e w10 ⟨rfl, hb10⟩
      have hC10 := below_of hC9 hb10
      have BA10 := Lib.hid (BA9.out.below hb10 BA9.out.lt)
      have BT10 := Lib.hid (BT9.out.below hb10 BT9.out.lt)
      have SB10 := Lib.hid (SB9.out.below hb10 SB9.out.lt)
      have IB10 := Lib.hid (IB9.out.below hb10 IB9.out.lt)
      have SO10 := Lib.hid (SO9.out.below hb10 (Nat.le_refl _))
      have IO10 := Lib.hid (IO9.out.below hb10 (Nat.le_refl _))
      have i10 := IB10.out.cell
      have z10 := hb10.size
      clear hb10 BA9 SB9 IB9 SO9 IO9 s9 i9
      go_wp2_with fail
      refine (markProv_any ae _ _ _ ai IO10.out HIL.out).mono ?_
      rintro e w11 ⟨rfl, hm11, hgr11⟩
      have z11 := hgr11.size
      have hC11 : Below w.heap.size w w11 := hC10.grown hgr11 (by have := hC10.size; omega) (fun k hk => by have := (v5l.out k hk).1; have := hC4.size; omega)
      have BA11 := Lib.hid (BA10.out.turned hgr11 (fun e => by have := (v5l.out _ e).1; have := hC4.size; omega))
      have BT11 := Lib.hid (BT10.out.turned hgr11 (fun e => by have := (v5l.out _ e).1; have := hC4.size; omega))
      have SB11 := Lib.hid (SB10.out.turned hgr11 (fun e => by have := (v5l.out _ e).1; omega))
      have IB11 := Lib.hid (IB10.out.turned hgr11 (fun e => IN5.out _ e rfl))
      have SO11 := Lib.hid (SO10.out.turned hgr11 (fun k hk e => by have := (v5l.out _ e).1; have := (v3l.out _ hk).2; omega))
      have M11 := Lib.hid hm11
      have i11 := IB11.out.cell
      have hm9 : decide ((1 : Int) + 3 * ai.length < 0) = false := decide_eq_false (by omega)
      clear hgr11 hm11 BA10 SB10 IB10 SO10 IO10 i10
      go_wp2_with fail
      refine (heldProv_any ae _ _ _ _ M11.out HIL.out).mono ?_
      rintro e w12 ⟨rfl, hb12⟩
      have hC12 := below_of hC11 hb12
      have BA12 := Lib.hid (BA11.out.below hb12 BA11.out.lt)
      have BT12 := Lib.hid (BT11.out.below hb12 BT11.out.lt)
      have SB12 := Lib.hid (SB11.out.below hb12 SB11.out.lt)
      have IB12 := Lib.hid (IB11.out.below hb12 IB11.out.lt)
      have SO12 := Lib.hid (SO11.out.below hb12 (Nat.le_refl _))
      have M12 := Lib.hid (M11.out.below hb12 (Nat.le_refl _))
      have a12 := BA12.out.cell
      have hmm : (((1 : Int) + 3 * ai.length) != ((1 : Int) + 3 * ai.length)) = false := by simp
      have HHE := Lib.hid (fun bs w h => heldProv_any ae w bs (.slice A5 ai.length c5) ai.length h HIL.out)
      generalize (1 + 3 * (ai.length : Int)) = mz at *
      clear hb12 BA11 SB11 IB11 SO11 M11 i11
      have HK12 := Lib.hid (show ∀ w', Below w12.heap.size w12 w' → Below w12.heap.size w12 w' ∧ (∀ o, w'.cell? ⟨w.heap.size, o, none⟩ = (#[.int .i64 ep, .slice A l.length c] : Array Value)[o]?) ∧ (∀ o, w'.cell? ⟨w.heap.size + 1, o, none⟩ = (#[.int .i64 m.k, .int .i64 m.e, .int .i64 m.i, .int .i64 m.p] : Array Value)[o]?) from fun w' hb => ⟨hb, (BA12.out.below hb BA12.out.lt).cell, (BT12.out.below hb BT12.out.lt).cell⟩)
      have l12 := BA12.out.lt
      have m12 := BT12.out.lt
      go_upto_region 24 with fail
      go_cut [16, 17] (fun s1 s2 wx => s2 = .int .i64 ac ∧ PutB w12 ae ai s1 wx)
      case first =>
        go_region_held3 (fun w' => Below w12.heap.size w12 w' ∧ (∀ o, w'.cell? ⟨w.heap.size, o, none⟩ = (#[.int .i64 ep, .slice A l.length c] : Array Value)[o]?) ∧ (∀ o, w'.cell? ⟨w.heap.size + 1, o, none⟩ = (#[.int .i64 m.k, .int .i64 m.e, .int .i64 m.i, .int .i64 m.p] : Array Value)[o]?))
          (exact HK12.out _ (by repeat' (first | exact Below.refl _ _ | refine Below.alloc ?_ ?_ _ | refine Below.setCell ?_ ?_ _ | refine Below.drew ?_ | (apply below_step; assumption) | (simp; done) | (simp; omega) | omega)))
          (first
            | (go_at_call 24; refine (HTO.out _ (HV.out.below (below_of hC12 (by repeat' (first | exact Below.refl _ _ | refine Below.alloc ?_ ?_ _ | refine Below.setCell ?_ ?_ _ | refine Below.drew ?_ | (apply below_step; assumption) | (simp; done) | (simp; omega) | omega))))).mono ?_; rintro e u5 ⟨g5, rfl, _, hgl5, hs5, _, hb5⟩; have hz5 := hb5.size; (try simp at hz5); have HS5 := Lib.hid hs5; clear hs5)
            | (go_at_call 28; refine (toMsg_any m _).mono ?_; rintro e u6 ⟨rfl, hb6⟩; have hz6 := hb6.size; (try simp at hz6))
            | (go_at_call 14; refine (HID.out _ _ (HS5.out.below (by repeat' (first | exact Below.refl _ _ | refine Below.alloc ?_ ?_ _ | refine Below.setCell ?_ ?_ _ | refine Below.drew ?_ | (apply below_step; assumption) | (simp; done) | (simp; omega) | omega)))).mono ?_; rintro e u7 ⟨v7, rfl, ho7, hb7⟩; have hz7 := hb7.size; (try simp at hz7); obtain ⟨A7, c7, rfl⟩ := ho7.len; have HO7 := Lib.hid ho7; clear ho7; (first | (have q0 := BlockIs.new w12.drew 26 #[.int .i64 0, .slice none 0 0]; have q1 := q0.below hb5 q0.lt; have q2 := q1.below hb6 q1.lt; have BBa := q2.below hb7 q2.lt) | (have q0 := BlockIs.new w12.drew 26 #[.int .i64 0, .slice none 0 0]; have q1 := q0.below hb6 q0.lt; have q2 := q1.below hb5 q1.lt; have BBa := q2.below hb7 q2.lt) | (have q0 := BlockIs.new u5 26 #[.int .i64 0, .slice none 0 0]; have q1 := q0.below hb6 q0.lt; have BBa := q1.below hb7 q1.lt) | (have q0 := BlockIs.new u6 26 #[.int .i64 0, .slice none 0 0]; have q1 := q0.below hb5 q0.lt; have BBa := q1.below hb7 q1.lt) | (have q0 := BlockIs.new u6 26 #[.int .i64 0, .slice none 0 0]; have BBa := q0.below hb7 q0.lt) | (have q0 := BlockIs.new u5 26 #[.int .i64 0, .slice none 0 0]; have BBa := q0.below hb7 q0.lt) | have BBa := True.intro); (first | (have bx0 := BBa.cell 0; have bx1 := BBa.cell 1; have bxf := BBa.frozen; simp at bx0 bx1; (try simp at bxf); have BBL := BBa.lt; have HBB := Lib.hid BBa; clear BBa) | skip)))
        all_goals
          go_wp2_with fail
          go_meet
          refine ⟨rfl, _, .slice A7 ai.length c7, rfl, ?_, ?_, ?_, ?_, ?_⟩
          · first | (simp; done) | (simp; omega) | omega
          · first
              | exact BlockIs.new' (by simp; done)
              | exact st_put HBB.out _ _
              | exact st_put (BlockIs.drew HBB.out) _ _
          · first
              | exact OwnsN.low (HO7.out.alloc _) (by first | (simp; done) | (simp; omega) | omega)
              | exact OwnsN.low (OwnsN.setCell (OwnsN.setCell HO7.out (by first | (simp; done) | (simp; omega) | omega) _) (by first | (simp; done) | (simp; omega) | omega) _) (by first | (simp; done) | (simp; omega) | omega)
          · intro k hk
            have h1 := HO7.out.lt k hk
            (try simp at h1)
            (first | omega | (simp; omega))
          · exact (by repeat' (first | exact Below.refl _ _ | refine Below.alloc ?_ ?_ _ | refine Below.setCell ?_ ?_ _ | refine Below.drew ?_ | (apply below_step; assumption) | (simp; done) | (simp; omega) | omega))
      case rest =>
        obtain ⟨rfl, gh, v14, rfl, hgh, hhb14, ho14, _, hb14⟩ := hcut
        obtain ⟨w14, rfl⟩ : ∃ x : World, x = wc := ⟨wc, rfl⟩
        have hC14 := below_of hC12 hb14
        obtain ⟨A14, c14, rfl⟩ := ho14.len
        have h14 := hhb14.cell
        have SB14 := Lib.hid (SB12.out.below hb14 SB12.out.lt)
        have IB14 := Lib.hid (IB12.out.below hb14 IB12.out.lt)
        have SO14 := Lib.hid (SO12.out.below hb14 (Nat.le_refl _))
        have M14 := Lib.hid (M12.out.below hb14 (Nat.le_refl _))
        have HO14 := Lib.hid ho14
        have s14 := SB14.out.cell
        have s14l := SB14.out.lt
        clear ho14 hb14 SB12 IB12 SO12 M12 HK12 hhb14
        go_wp2_with fail
        refine (eqProv_same ae _ _ ai _ HO14.out.sl SO14.out.sl HIL.out).mono ?_
        rintro e w15 ⟨rfl, hb15⟩
        have hD15 := hb15
        have hC15 := below_of hC14 hD15
        have IB15 := Lib.hid (IB14.out.below hD15 IB14.out.lt)
        have M15 := Lib.hid (M14.out.below hD15 (Nat.le_refl _))
        have i15 := IB15.out.cell
        clear hb15 hD15 SB14 IB14 SO14 M14 HO14 s14 s14l h14
        go_wp2_with fail
        refine (HHE.out _ _ M15.out).mono ?_
        rintro e w16 ⟨rfl, hb16⟩
        go_wp2_with fail
        go_ret
        exact ⟨rfl, below_of hC15 hb16⟩

theorem rowVars : ∀ n ∈ Rows.fnExactProvDoSpec.vars, ∃ g t ms, Try.prog.globalNamed n = some g ∧ (Try.prog.globals[g]?).map (·.type) = some t ∧ Try.prog.underlying t = some (.interface ms) := fun n hn => by cases hn
set_option maxRecDepth 100000 in
theorem contract (H : Type) (enc : TypeId × Value → H) (W : World) (base : Nat) (args : Array Value) (ds gs : List (DataW H)) (before : List MemPlace)
    (hval : ∀ (j : Nat) t v, Try.f7.params[j]? = some t → args[j]? = some v → Value.okWide Try.prog W .any base t v)
    (hW : DataW.Whole enc Try.prog Try.f7.params.toList Rows.fnExactProvDoSpec.vars false W args.toList ds gs before) (_hL : laidMetH Try.prog Rows.fnExactProvDoRow.laid W) :
    Calls Try.prog 7 args W fun e W' => ∃ v, e = .returned v ∧ Rows.fnExactProvDoSpec.post enc Try.prog Try.f7 false true false false W args v W' := by
  have hW' := hW
  obtain ⟨p, q, hA0, hV, rfl, hfz, hnd⟩ := hW
  have hA : DataW.TrodAll enc Try.prog W 0 (fun _ => true) true Try.f7.params.toList args.toList ds p := hA0
  rw [Try.params7] at hA hval
  obtain ⟨v0, vs0, d0, ds0, p0, q0, hargs, rfl, rfl, h0, r0⟩ := trodAll_cons hA
  obtain ⟨v1, vs1, d1, ds1, p1, q1, rfl, rfl, rfl, h1, r1⟩ := trodAll_cons r0
  obtain ⟨v2, vs2, d2, ds2, p2, q2, rfl, rfl, rfl, h2, r2⟩ := trodAll_cons r1
  obtain ⟨rfl, rfl, rfl⟩ := trodAll_nil r2
  obtain rfl : args = #[v0, v1, v2] := by cases args; simp_all
  obtain rfl : gs = [] := by cases gs with | nil => rfl | cons _ _ => exact (show False from hV).elim
  obtain ⟨a0, x0, n0, rfl, wn0, q0⟩ := open_prov (hval 0 _ v0 rfl rfl) h0
  obtain ⟨a1, rfl, wi1⟩ := open_msg (hval 1 _ v1 rfl rfl) h1
  obtain ⟨a2, rfl, rfl, rfl⟩ := open_bool Try.underlying4 (hval 2 _ v2 rfl rfl) h2
  have fin : Calls Try.prog 7 #[.agg #[.int .i64 a0, x0], .agg #[.int .i64 a1.k, .int .i64 a1.e, .int .i64 a1.i, .int .i64 a1.p], .bool a2] W fun e w' => e = .returned (.bool true) ∧ Below W.heap.size W w' := by
    obtain ⟨A, c, rfl, _⟩ := q0.1.form
    by_cases hlong : n0.length ≤ 1048576
    · exact walk a0 A c n0 a1 a2 W q0.1 hlong
    · exact walk_long a0 A n0.length c a1 a2 W (by omega) q0.2
  refine fin.mono fun e W' ⟨he, hb⟩ => ?_
  subst he
  exact ⟨_, rfl, law_post Try.laidOut (by rw [Try.params7]; intro t ht; have k0 : Try.prog.readableRec 41 = true ∧ 41 < Try.prog.types.size := ⟨by kernel_rfl, of_decide_eq_true (by kernel_rfl)⟩; have k1 : Try.prog.readableRec 46 = true ∧ 46 < Try.prog.types.size := ⟨by kernel_rfl, of_decide_eq_true (by kernel_rfl)⟩; have k2 : Try.prog.readableRec 4 = true ∧ 4 < Try.prog.types.size := ⟨by kernel_rfl, of_decide_eq_true (by kernel_rfl)⟩; simp at ht; rcases ht with rfl | rfl | rfl; all_goals (first | with_reducible exact k0 | with_reducible exact k1 | with_reducible exact k2)) rowVars (tb := 4) rfl Try.underlying4 hW' rfl hb⟩

theorem door_met (os : Os) (args : Array Value) : laidMet Try.prog Rows.fnExactProvDoRow.laid ((World.doorLaid Try.prog 400 os).forCall (fun _ _ => 0) ⟨#[], args, []⟩).memory :=
  laidMet_of_run' 8 (by kernel_rfl) (by kernel_rfl)
set_option maxRecDepth 100000 in
theorem lifted (os : Os) (started : os.Started) (H : Type) (enc : TypeId × Value → H) (F : Stop.Interp) :
    ReturnsInHanded {} Try.checked os 7 .any ((OpenSpec.ofChange Rows.fnExactProvDoSpec).preRow enc Try.prog Try.f7 Rows.fnExactProvDoRow.domain false Rows.fnExactProvDoRow.laid) (((OpenSpec.ofChange Rows.fnExactProvDoSpec).at F).post enc Try.prog Try.f7 false true false false) := by
  refine returnsInHanded_of_row (C := Try.checked) (s := OpenSpec.ofChange Rows.fnExactProvDoSpec) Try.own started (by kernel_rfl) Try.func7
    (witness_row_atRef (enc := enc) (C := Try.checked) false (World.doorLaid Try.prog 400 os) #[.agg #[.int .i64 0, .slice none 0 0], .agg #[.int .i64 0, .int .i64 0, .int .i64 0, .int .i64 0], .bool false] rfl (by kernel_rfl) (by kernel_rfl) (by kernel_rfl)
      (OpenSpec.preRow_of_B rfl 8 (by kernel_rfl) (by kernel_rfl) (door_met os _))) ?_
  intro W base args ds gs before hval hW _ _ _ hL _ _
  exact contract H enc W base args ds gs before hval hW hL

theorem jIn : (Rows.fnExactProvDoRow.inPlace == Try.prog.inPlace 7) = true := by kernel_rfl
theorem jUn : (Rows.fnExactProvDoRow.unfollowed == Try.prog.unfollowed 7) = true := by kernel_rfl
theorem jRe : (Rows.fnExactProvDoRow.recurses == Try.prog.recurses 7) = true := by kernel_rfl
theorem jNa : (Rows.fnExactProvDoRow.named == Try.prog.varsNamed 7) = true := by kernel_rfl
theorem joined : joinedFacts Try.prog 7 Try.f7 (OpenSpec.ofChange Rows.fnExactProvDoSpec).bare Rows.fnExactProvDoRow = true :=
  joined_mk (by kernel_rfl) Try.laidOut pRowed (by kernel_rfl) (by kernel_rfl) rfl pStops rfl pKnobs jIn jUn jRe jNa (by kernel_rfl) (by kernel_rfl) (by kernel_rfl) (by kernel_rfl) (by kernel_rfl) (by kernel_rfl) (by kernel_rfl) (by kernel_rfl) (by kernel_rfl) pKeys (by kernel_rfl) pHeard pEnter pLifts pMake (by kernel_rfl) (by kernel_rfl) (by kernel_rfl) (by kernel_rfl)
theorem said : Rows.FnExactProvDoSaid :=
  OpenClaim.holds_of_cond 7 Try.f7 rfl rfl rfl rfl rfl rfl rfl ⟨rfl, rfl, rfl, rfl, rfl⟩ rfl rfl rfl rfl rfl (by kernel_rfl) Try.func7 joined
    (of_decide_eq_true (by kernel_rfl)) (by unfold Func.isWrapper; first | (rw [if_pos (by decide +kernel)]; kernel_rfl) | (rw [if_neg (by decide +kernel)]; exact ⟨rfl, rfl⟩))
    (fun os started H enc _ F => by rw [OpenClaim.pre_eq_preRow]; exact lifted os started H enc F)

end Go.Proofs.Ytbmiefhgkagcgaa.fnExactProvDo
