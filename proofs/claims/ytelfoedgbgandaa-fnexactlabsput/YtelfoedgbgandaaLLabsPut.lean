/- FnExactLabsPut answers true at every list of labels and every label: LabsPut and its model agree, the list is left as it was, and what LabsPut returns shares no memory with its argument or with another result. No condition. -/
import Derived.Test.YtelfoedgbgandaaLabRow
import Derived.Test.YtelfoedgbgandaaPutS
import Derived.Test.YtelfoedgbgandaaMark
namespace Go.Proofs.Ytelfoedgbgandaa.fnExactLabsPut
open Go.ChangeShapes Go.WideShapes Go.ChangeAt Go.RowKit Go.Joins

theorem walk_long (A : Option Addr) (n c : Nat) (x : LV) (w : World) (h : 1048576 < n) (hm : n ≤ maxLen) :
    Calls Try.prog 8 #[.slice A n c, .agg #[.int .i64 x.k, .int .i64 x.v]] w fun e w' => e = .returned (.bool true) ∧ Below w.heap.size w w' := by
  go_enter Try.func8, Try.ntmps8
  go_wp2_with fail
  refine (szLabS_no A n c 1048576 _ (by omega) (by omega) hm).mono ?_
  rintro e w1 ⟨rfl, rfl⟩
  go_wp2_with fail
  go_ret
  exact ⟨rfl, (by repeat' (first | exact Below.refl _ _ | refine Below.alloc ?_ ?_ _ | refine Below.setCell ?_ ?_ _ | refine Below.drew ?_ | (apply below_step; assumption) | (simp; done) | (simp; omega) | omega))⟩

/-- What the box of x is, in whatever world comes behind X. -/
def BoxIn (X : World) (g : Nat) (x : LV) (w' : World) : Prop := Below X.heap.size X w' ∧ w'.cell? ⟨g, 0, none⟩ = some (.int .i64 x.k) ∧ w'.cell? ⟨g, 1, none⟩ = some (.int .i64 x.v)
theorem box_keep {X : World} {g : Nat} {t : TypeId} {x : LV} (h : BlockIs X g t #[.int .i64 x.k, .int .i64 x.v]) : ∀ w' : World, Below X.heap.size X w' → Below X.heap.size X w' ∧ w'.cell? ⟨g, 0, none⟩ = some (.int .i64 x.k) ∧ w'.cell? ⟨g, 1, none⟩ = some (.int .i64 x.v) := fun w' hb => by
  have h' := h.below hb h.lt
  exact ⟨hb, h'.cell 0, h'.cell 1⟩

theorem own_ne {w : World} {base : Nat} {v : Value} {l : List LV} {g : Nat} (h : Owns w base v l) (hg : w.heap.size ≤ g) : v.ownBlock = none ∨ v.ownBlock ≠ some g := .inr fun e => by
  have := (World.ownsRow.lt h g e).2; omega
theorem own_ne' {w : World} {base : Nat} {v : Value} {l : List LV} {g : Nat} (h : Owns w base v l) (hg : g < base) : v.ownBlock = none ∨ v.ownBlock ≠ some g := .inr fun e => by
  have := (World.ownsRow.lt h g e).1; omega
theorem own_sep {w1 w2 : World} {b1 b2 : Nat} {v1 v2 : Value} {l1 l2 : List LV} (h1 : Owns w1 b1 v1 l1) (h2 : Owns w2 b2 v2 l2) (hg : w1.heap.size ≤ b2) : v1.ownBlock = none ∨ v1.ownBlock ≠ v2.ownBlock := by
  cases e : v1.ownBlock with
  | none => exact .inl rfl
  | some g =>
    refine .inr fun e2 => ?_
    have a1 := (World.ownsRow.lt h1 g e).2
    have a2 := (World.ownsRow.lt h2 g e2.symm).1
    omega
theorem own_new {w : World} {base g : Nat} {l : List LV} (hb : BlockIs w g 26 (labL l).toArray) (hg : base ≤ g) (hl : l.length ≤ 1048576) : Owns w base (.slice (some ⟨g, 0, none⟩) l.length l.length) l :=
  ⟨labL_len l, .inr ⟨g, l.length, _, rfl, hg, hb, Nat.le_refl _, by unfold maxLen; omega, by simp [labL_len], by rw [List.take_of_length_le]; simp [labL_len]⟩⟩

set_option maxRecDepth 100000 in
set_option maxHeartbeats 3200000 in
theorem walk (v : Value) (l : List LV) (x : LV) (w : World) (hv : LabSl w v l) (hlen : l.length ≤ 1048576) :
    Calls Try.prog 8 #[v, .agg #[.int .i64 x.k, .int .i64 x.v]] w fun e w' => e = .returned (.bool true) ∧ Below w.heap.size w w' := by
  have hs := fun v w hv => sLabsPut_any v l x w hv hlen
  have hi := fun v w hv => LabsPut_any v l x w hv hlen
  have hpl : (putList l x).length ≤ 1048576 := by
    cases e : putOk l x
    · have : putList l x = [] := by
        simp only [putOk] at e; simp [putList, e]
      simp [this]
    · have h1 : labsOk (ins x l) = true := by simp only [putOk, Bool.and_eq_true] at e; exact e.2
      have h2 : putList l x = ins x l := by simp only [putOk] at e; simp [putList, e]
      have := labsOk_len h1
      rw [h2]; omega
  generalize putOk l x = ok at hs hi
  generalize putList l x = pl at hs hi hpl
  have hne : (ok != ok) = false := by simp
  have HS := Lib.hid hs
  have HI := Lib.hid hi
  have HVX : Hid (LabSl (w.alloc (.cells #[.int .i64 x.k, .int .i64 x.v] 46)) v l) := hv.below ((Below.refl _ _).alloc (Nat.le_refl _) _)
  clear hs hi
  obtain ⟨A, c, rfl, _⟩ := hv.form
  clear hv
  have hl0 : (l.length : Int) ≤ 1048576 := by omega
  have HKX := Lib.hid (box_keep (BlockIs.new w 46 #[.int .i64 x.k, .int .i64 x.v]))
  go_enter Try.func8, Try.ntmps8
  go_wp2_with fail
  refine (szLabS_yes A l.length c 1048576 _ (by omega) hl0).mono ?_
  rintro e w1 ⟨rfl, rfl⟩
  go_upto_region 5 with fail
  go_cut [6, 7] (fun s6 s7 wx => s7 = .bool ok ∧ Owns wx w.heap.size s6 pl ∧ Below (w.alloc (.cells #[.int .i64 x.k, .int .i64 x.v] 46)).heap.size (w.alloc (.cells #[.int .i64 x.k, .int .i64 x.v] 46)) wx)
  case first =>
    go_region_held3 (fun w' => Below (w.alloc (.cells #[.int .i64 x.k, .int .i64 x.v] 46)).heap.size (w.alloc (.cells #[.int .i64 x.k, .int .i64 x.v] 46)) w' ∧ w'.cell? ⟨w.heap.size, 0, none⟩ = some (.int .i64 x.k) ∧ w'.cell? ⟨w.heap.size, 1, none⟩ = some (.int .i64 x.v))
      (exact HKX.out _ (by repeat' (first | exact Below.refl _ _ | refine Below.alloc ?_ ?_ _ | refine Below.setCell ?_ ?_ _ | refine Below.drew ?_ | (apply below_step; assumption) | (simp; done) | (simp; omega) | omega)))
      (first | (go_at_call 25; refine (toLabS_any _ l _ (HVX.out.below (by repeat' (first | exact Below.refl _ _ | refine Below.alloc ?_ ?_ _ | refine Below.setCell ?_ ?_ _ | refine Below.drew ?_ | (apply below_step; assumption) | (simp; done) | (simp; omega) | omega))) hlen).mono ?_; rintro e w3 ⟨g3, rfl, hg3, hb3, hB3⟩; have SL3 := Lib.hid (show LabSl w3 (.slice (some ⟨g3, 0, none⟩) l.length l.length) l from .inr ⟨g3, 0, _, rfl, hb3.lt, LabAt.of_cells hb3⟩); clear hb3; have hz3 := hB3.size; try simp at hz3) | (go_at_call 29; refine (toLab_any x _).mono ?_; rintro e w4 ⟨rfl, hB4⟩; have hz4 := hB4.size; try simp at hz4) | (go_at_call 13; refine (HS.out _ _ (SL3.out.below (by repeat' (first | exact Below.refl _ _ | refine Below.alloc ?_ ?_ _ | refine Below.setCell ?_ ?_ _ | refine Below.drew ?_ | (apply below_step; assumption) | (simp; done) | (simp; omega) | omega)))).mono ?_; rintro e w5 ⟨v5, rfl, ho5, hB5⟩; have HO5 := Lib.hid ho5; clear ho5; have hz5 := hB5.size; try simp at hz5))
    all_goals
      go_wp2_with fail
      go_meet
      exact ⟨rfl, HO5.out.lower (by omega), (by repeat' (first | exact Below.refl _ _ | refine Below.alloc ?_ ?_ _ | refine Below.setCell ?_ ?_ _ | refine Below.drew ?_ | (apply below_step; assumption) | (simp; done) | (simp; omega) | omega))⟩
  case rest =>
    obtain ⟨rfl, ho0, hBX⟩ := hcut
    have hXw : Below w.heap.size w (w.alloc (.cells #[.int .i64 x.k, .int .i64 x.v] 46)) := (by repeat' (first | exact Below.refl _ _ | refine Below.alloc ?_ ?_ _ | refine Below.setCell ?_ ?_ _ | refine Below.drew ?_ | (apply below_step; assumption) | (simp; done) | (simp; omega) | omega))
    have hXs : w.heap.size < (w.alloc (.cells #[.int .i64 x.k, .int .i64 x.v] 46)).heap.size := by simp
    generalize (w.alloc (.cells #[.int .i64 x.k, .int .i64 x.v] 46)) = X at hBX hXw hXs HVX HKX
    have HO0 := Lib.hid ho0
    have hzc := hBX.size
    clear ho0
    go_wp2_with fail
    refine (toLabS_any _ l _ (HVX.out.below hBX) hlen).mono ?_
    rintro e w6 ⟨g6, rfl, hg6, hb6, hB6⟩
    have hz6 := hB6.size
    have hX6 : Below X.heap.size X w6 := hBX.trans (hB6.mono hzc)
    have HB6 := Lib.hid hb6
    have hl6 := hb6.lt
    obtain ⟨_, t0, t1⟩ := HKX.out w6 hX6
    clear hb6
    go_wp2_with fail
    refine (toLab_any x _).mono ?_
    rintro e w7 ⟨rfl, hB7⟩
    have hz7 := hB7.size
    have hX7 : Below X.heap.size X w7 := hX6.trans (hB7.mono hX6.size)
    have hb7 := HB6.out.below hB7 hl6
    have SL7 := Lib.hid (own_new hb7 hg6 hlen).sl
    clear hb7 t0 t1
    go_wp2_with fail
    refine (HI.out _ _ SL7.out).mono ?_
    rintro e w8 ⟨v8, rfl, ho8, hB8⟩
    have hz8 := hB8.size
    have hX8 : Below X.heap.size X w8 := hX7.trans (hB8.mono hX7.size)
    have HO8 := Lib.hid ho8
    have HO08 := Lib.hid (((HO0.out.below hB6 (Nat.le_refl _)).below hB7 (Nat.le_refl _)).below hB8 (Nat.le_refl _))
    clear ho8
    go_wp2_with fail
    refine (eqLabS_same _ _ pl _ HO8.out.sl HO08.out.sl hpl).mono ?_
    rintro e w9 ⟨rfl, hB9⟩
    have hz9 := hB9.size
    have hX9 : Below X.heap.size X w9 := hX8.trans (hB9.mono hX8.size)
    go_wp2_with fail
    refine (toLabS_any _ l _ (HVX.out.below hX9) hlen).mono ?_
    rintro e w10 ⟨g10, rfl, hg10, hb10, hB10⟩
    have hz10 := hB10.size
    have hX10 : Below X.heap.size X w10 := hX9.trans (hB10.mono hX9.size)
    have h6_10 := (((HB6.out.below hB7 hl6).below hB8 (by omega)).below hB9 (by omega)).below hB10 (by omega)
    have H610 := Lib.hid h6_10
    have SL10 := Lib.hid (own_new hb10 (Nat.zero_le _) hlen).sl
    have SL610 := Lib.hid (own_new h6_10 hg6 hlen).sl
    clear hb10 h6_10
    go_wp2_with fail
    refine (eqLabS_same _ _ l _ SL610.out SL10.out hlen).mono ?_
    rintro e w11 ⟨rfl, hB11⟩
    have hz11 := hB11.size
    have hX11 : Below X.heap.size X w11 := hX10.trans (hB11.mono hX10.size)
    have HM11 := Lib.hid (own_new (H610.out.below hB11 (by omega)) hg6 hlen)
    have HO8' := Lib.hid (((HO8.out.below hB9 (Nat.le_refl _)).below hB10 (Nat.le_refl _)).below hB11 (Nat.le_refl _))
    have HO0' := Lib.hid (((HO08.out.below hB9 (Nat.le_refl _)).below hB10 (Nat.le_refl _)).below hB11 (Nat.le_refl _))
    have hk0 : decide (1 + 2 * (l.length : Int) < 0) = false := by simp; omega
    go_wp2_with fail
    refine (mark_any _ _ _ l HM11.out hlen).mono ?_
    rintro e w12 ⟨rfl, _, hG12⟩
    have hz12 := hG12.size
    have hX12 : Below X.heap.size X w12 := hX11.grown hG12 hX11.size (fun k hk => by have := (World.ownsRow.lt HM11.out k hk).1; omega)
    have HO8b := Lib.hid (show Owns w12 _ _ _ from World.ownsRow.kept HO8'.out hG12 (own_ne' (g := g6) HO8'.out (by omega)))
    have HO0b := Lib.hid (show Owns w12 _ _ _ from World.ownsRow.kept HO0'.out hG12 (own_ne HO0.out hg6))
    go_wp2_with fail
    refine (eqLabS_same _ _ pl _ HO8b.out.sl HO0b.out.sl hpl).mono ?_
    rintro e w13 ⟨rfl, hB13⟩
    have hz13 := hB13.size
    have hX13 : Below X.heap.size X w13 := hX12.trans (hB13.mono hX12.size)
    have HO8c := Lib.hid (HO8b.out.below hB13 (Nat.le_refl _))
    have HO0c := Lib.hid (HO0b.out.below hB13 (Nat.le_refl _))
    have hk1 : decide (1 + 2 * (pl.length : Int) < 0) = false := by simp; omega
    have hk2 : ((1 + 2 * (pl.length : Int)) != (1 + 2 * (pl.length : Int))) = false := by simp
    go_wp2_with fail
    refine (mark_any _ _ _ pl HO8c.out hpl).mono ?_
    rintro e w14 ⟨rfl, hm14, hG14⟩
    have HM14 := Lib.hid hm14
    clear hm14
    have hz14 := hG14.size
    have hX14 : Below X.heap.size X w14 := hX13.grown hG14 hX13.size (fun k hk => by have := (World.ownsRow.lt HO8c.out k hk).1; have := hX7.size; omega)
    have HO0d := Lib.hid (show Owns w14 _ _ _ from World.ownsRow.kept HO0c.out hG14 (own_sep HO0.out HO8c.out (by omega)))
    go_wp2_with fail
    refine (held_any _ _ _ _ HM14.out hpl).mono ?_
    rintro e w15 ⟨rfl, rfl⟩
    have HKY : Hid (∀ w' : World, Below w14.heap.size w14 w' → Below w14.heap.size w14 w' ∧ w'.cell? ⟨w.heap.size, 0, none⟩ = some (.int .i64 x.k) ∧ w'.cell? ⟨w.heap.size, 1, none⟩ = some (.int .i64 x.v)) := fun w' hb => ⟨hb, (HKX.out w' (hX14.trans (hb.mono hX14.size))).2⟩
    have HVY := Lib.hid (HVX.out.below hX14)
    clear hB6 hB7 hB8 hB9 hB10 hB11 hB13 hX6 hX7 hX8 hX9 hX10 hX11 hX12 hX13 hBX hG12 hG14
    go_upto_region 24 with fail
    go_cut [14, 15] (fun s14 s15 wx => s15 = .bool ok ∧ Owns wx w14.heap.size s14 pl ∧ Below w14.heap.size w14 wx)
    case first =>
      go_region_held3 (fun w' => Below w14.heap.size w14 w' ∧ w'.cell? ⟨w.heap.size, 0, none⟩ = some (.int .i64 x.k) ∧ w'.cell? ⟨w.heap.size, 1, none⟩ = some (.int .i64 x.v))
        (exact HKY.out _ (by repeat' (first | exact Below.refl _ _ | refine Below.alloc ?_ ?_ _ | refine Below.setCell ?_ ?_ _ | refine Below.drew ?_ | (apply below_step; assumption) | (simp; done) | (simp; omega) | omega)))
        (first | (go_at_call 25; refine (toLabS_any _ l _ (HVY.out.below (by repeat' (first | exact Below.refl _ _ | refine Below.alloc ?_ ?_ _ | refine Below.setCell ?_ ?_ _ | refine Below.drew ?_ | (apply below_step; assumption) | (simp; done) | (simp; omega) | omega))) hlen).mono ?_; rintro e w3 ⟨g3, rfl, hg3, hb3, hB3⟩; have SL3 := Lib.hid (show LabSl w3 (.slice (some ⟨g3, 0, none⟩) l.length l.length) l from .inr ⟨g3, 0, _, rfl, hb3.lt, LabAt.of_cells hb3⟩); clear hb3; have hz3 := hB3.size; try simp at hz3) | (go_at_call 29; refine (toLab_any x _).mono ?_; rintro e w4 ⟨rfl, hB4⟩; have hz4 := hB4.size; try simp at hz4) | (go_at_call 14; refine (HI.out _ _ (SL3.out.below (by repeat' (first | exact Below.refl _ _ | refine Below.alloc ?_ ?_ _ | refine Below.setCell ?_ ?_ _ | refine Below.drew ?_ | (apply below_step; assumption) | (simp; done) | (simp; omega) | omega)))).mono ?_; rintro e w5 ⟨v5, rfl, ho5, hB5⟩; have HO5 := Lib.hid ho5; clear ho5; have hz5 := hB5.size; try simp at hz5))
      all_goals
        go_wp2_with fail
        go_meet
        exact ⟨rfl, HO5.out.lower (by omega), (by repeat' (first | exact Below.refl _ _ | refine Below.alloc ?_ ?_ _ | refine Below.setCell ?_ ?_ _ | refine Below.drew ?_ | (apply below_step; assumption) | (simp; done) | (simp; omega) | omega))⟩
    case rest =>
      obtain ⟨rfl, ho9, hBc⟩ := hcut
      have HO9 := Lib.hid ho9
      have hzc2 := hBc.size
      clear ho9
      have HM16 := Lib.hid (HM14.out.below hBc (Nat.le_refl _))
      have HO0e := Lib.hid (HO0d.out.below hBc (Nat.le_refl _))
      have hXc : Below X.heap.size X wc := hX14.trans (hBc.mono hX14.size)
      go_wp2_with fail
      refine (eqLabS_same _ _ pl _ HO9.out.sl HO0e.out.sl hpl).mono ?_
      rintro e w17 ⟨rfl, hB17⟩
      have HM17 := Lib.hid (HM16.out.below hB17 (Nat.le_refl _))
      have hX17 : Below X.heap.size X w17 := hXc.trans (hB17.mono hXc.size)
      go_wp2_with fail
      refine (held_any _ _ _ _ HM17.out hpl).mono ?_
      rintro e w18 ⟨rfl, rfl⟩
      go_wp2_with fail
      go_ret
      exact ⟨rfl, hXw.trans (hX17.mono (by omega))⟩

theorem rowVars : ∀ n ∈ Rows.fnExactLabsPutSpec.vars, ∃ g t ms, Try.prog.globalNamed n = some g ∧ (Try.prog.globals[g]?).map (·.type) = some t ∧ Try.prog.underlying t = some (.interface ms) := fun n hn => by cases hn
set_option maxRecDepth 100000 in
theorem contract (H : Type) (enc : TypeId × Value → H) (W : World) (base : Nat) (args : Array Value) (ds gs : List (DataW H)) (before : List MemPlace)
    (hval : ∀ (j : Nat) t v, Try.f8.params[j]? = some t → args[j]? = some v → Value.okWide Try.prog W .any base t v)
    (hW : DataW.Whole enc Try.prog Try.f8.params.toList Rows.fnExactLabsPutSpec.vars false W args.toList ds gs before) (hL : laidMetH Try.prog Rows.fnExactLabsPutRow.laid W) :
    Calls Try.prog 8 args W fun e W' => ∃ v, e = .returned v ∧ Rows.fnExactLabsPutSpec.post enc Try.prog Try.f8 false true false false W args v W' := by
  have hW' := hW
  obtain ⟨p, q, hA0, hV, rfl, hfz, hnd⟩ := hW
  have hA : DataW.TrodAll enc Try.prog W 0 (fun _ => true) true Try.f8.params.toList args.toList ds p := hA0
  rw [Try.params8] at hA hval
  obtain ⟨v0, vs0, d0, ds0, p0, q0, hargs, rfl, rfl, h0, r0⟩ := trodAll_cons hA
  obtain ⟨v1, vs1, d1, ds1, p1, q1, rfl, rfl, rfl, h1, r1⟩ := trodAll_cons r0
  obtain ⟨rfl, rfl, rfl⟩ := trodAll_nil r1
  obtain rfl : args = #[v0, v1] := by cases args; simp_all
  obtain rfl : gs = [] := by cases gs with | nil => rfl | cons _ _ => exact (show False from hV).elim
  rw [MakeChecks.laidMetH_plain _ _ _ (by kernel_rfl)] at hL
  have hs0 := hval 0 _ v0 rfl rfl
  obtain ⟨a1, rfl, wk1, wv1⟩ := open_lab (hval 1 _ v1 rfl rfl) h1
  have fin : Calls Try.prog 8 #[v0, .agg #[.int .i64 a1.k, .int .i64 a1.v]] W fun e w' => e = .returned (.bool true) ∧ Below W.heap.size W w' := by
    obtain ⟨fu, hf⟩ := h0
    obtain ⟨A, n, c, rfl, hn, l, hl, hsl⟩ := open_labS hs0 hf
    by_cases hlong : n ≤ 1048576
    · exact walk _ l a1 W hsl (by omega)
    · exact walk_long A n c a1 W (by omega) hn
  refine fin.mono fun e W' ⟨he, hb⟩ => ?_
  subst he
  exact ⟨_, rfl, law_post Try.laidOut (by rw [Try.params8]; intro t ht; have k0 : Try.prog.readableRec 40 = true ∧ 40 < Try.prog.types.size := ⟨by kernel_rfl, of_decide_eq_true (by kernel_rfl)⟩; have k1 : Try.prog.readableRec 46 = true ∧ 46 < Try.prog.types.size := ⟨by kernel_rfl, of_decide_eq_true (by kernel_rfl)⟩; simp at ht; rcases ht with rfl | rfl; all_goals (first | with_reducible exact k0 | with_reducible exact k1)) rowVars (tb := 4) rfl Try.underlying4 hW' rfl hb⟩

theorem door_met (os : Os) (args : Array Value) : laidMet Try.prog Rows.fnExactLabsPutRow.laid ((World.doorLaid Try.prog 400 os).forCall (fun _ _ => 0) ⟨#[], args, []⟩).memory :=
  laidMet_of_run' 8 (by kernel_rfl) (by kernel_rfl)
set_option maxRecDepth 100000 in
theorem lifted (os : Os) (started : os.Started) (H : Type) (enc : TypeId × Value → H) (F : Stop.Interp) :
    ReturnsInHanded {} Try.checked os 8 .any ((OpenSpec.ofChange Rows.fnExactLabsPutSpec).preRow enc Try.prog Try.f8 Rows.fnExactLabsPutRow.domain false Rows.fnExactLabsPutRow.laid) (((OpenSpec.ofChange Rows.fnExactLabsPutSpec).at F).post enc Try.prog Try.f8 false true false false) := by
  refine returnsInHanded_of_row (C := Try.checked) (s := OpenSpec.ofChange Rows.fnExactLabsPutSpec) Try.own started (by kernel_rfl) Try.func8
    (witness_row_atRef (enc := enc) (C := Try.checked) false (World.doorLaid Try.prog 400 os) #[.slice none 0 0, .agg #[.int .i64 0, .int .i64 0]] rfl (by kernel_rfl) (by kernel_rfl) (by kernel_rfl)
      (OpenSpec.preRow_of_B rfl 8 (by kernel_rfl) (by kernel_rfl) (door_met os _))) ?_
  intro W base args ds gs before hval hW _ _ _ hL _ _
  exact contract H enc W base args ds gs before hval hW hL

theorem said : Rows.FnExactLabsPutSaid :=
  OpenClaim.holds_of_cond 8 Try.f8 rfl rfl rfl rfl rfl rfl rfl ⟨rfl, rfl, rfl, rfl, rfl⟩ rfl rfl rfl rfl rfl (by kernel_rfl) Try.func8 (by kernel_rfl)
    (of_decide_eq_true (by kernel_rfl)) (by unfold Func.isWrapper; first | (rw [if_pos (by decide +kernel)]; kernel_rfl) | (rw [if_neg (by decide +kernel)]; exact ⟨rfl, rfl⟩))
    (fun os started H enc _ F => by rw [OpenClaim.pre_eq_preRow]; exact lifted os started H enc F)

end Go.Proofs.Ytelfoedgbgandaa.fnExactLabsPut
