/- FnLease answers true at every code: the holder of the lease keeps its Epoch, a new holder gets one more, and no other replica gets the lease before it expires. No condition. -/
import Derived.Test.YtjammpcfihlfaaaCodeRowB
import Derived.Test.YtjammpcfihlfaaaDrawLe
import Derived.Test.YtjammpcfihlfaaaLPick
namespace Go.Proofs.Ytjammpcfihlfaaa.fnLease
open Go.ChangeShapes Go.WideShapes Go.ChangeAt Go.RowKit Go.Joins

theorem neq_lease (a b : RV) (w : World) : (binOp .neq 25 (.agg #[.int .i64 a.c, .int .i64 a.m, .int .i64 a.p]) (.agg #[.int .i64 b.c, .int .i64 b.m, .int .i64 b.p])).run Try.prog w = .ok (.bool !(a.c == b.c && (a.m == b.m && a.p == b.p))) w := by
  rw [run_neq_struct, eqIn_lease]; rfl
/-- What an accepted request says. -/
theorem accepted {l a : RV} {p q r : Int} (h : leaseTry l p q r = (a, 0)) : leaseOk l = true ∧ (1 ≤ p ∧ p ≤ 4) ∧ (0 ≤ q ∧ q ≤ 100000) ∧ (1 ≤ r ∧ r ≤ 1000) ∧ a.c = p ∧ a.p = q + r ∧ ((l.p ≤ q ∧ l.m < 1000 ∧ a.m = l.m + 1) ∨ (q < l.p ∧ l.c = p ∧ a.m = l.m)) := by
  unfold leaseTry at h
  split at h
  · rename_i hv
    simp only [Bool.and_eq_true, lWithin_iff] at hv
    obtain ⟨⟨⟨v0, v1⟩, v2⟩, v3⟩ := hv
    have hb := leaseOk_bounds v0
    refine ⟨v0, v1, v2, v3, ?_⟩
    unfold leaseGot at h
    split at h
    · split at h
      · simp at h
      · simp only [Prod.mk.injEq, and_true] at h
        subst h
        exact ⟨rfl, rfl, .inl ⟨by omega, by omega, rfl⟩⟩
    · split at h
      · simp only [Prod.mk.injEq, and_true] at h
        subst h
        exact ⟨rfl, rfl, .inr ⟨by omega, by omega, rfl⟩⟩
      · simp at h
  · simp at h
theorem epoch_in {l a : RV} {p q r : Int} (h : leaseTry l p q r = (a, 0)) : 1 ≤ a.m ∧ a.m ≤ 1000 := by
  obtain ⟨h0, h1, h2, h3, h4, h5, h6⟩ := accepted h
  have hb := leaseOk_bounds h0
  rcases h6 with h6 | ⟨_, h7, h8⟩
  · omega
  · simp [leaseOk, leaseZero, lWithin] at h0
    omega
theorem new_ok {l a : RV} {p q r : Int} (h : leaseTry l p q r = (a, 0)) : leaseOk a = true := by
  obtain ⟨h0, h1, h2, h3, h4, h5, _⟩ := accepted h
  have he := epoch_in h
  have e1 : lWithin a.c 1 4 = true := lWithin_iff.2 (by omega)
  have e2 : lWithin a.m 1 1000 = true := lWithin_iff.2 (by omega)
  have e3 : lWithin a.p 0 200000 = true := lWithin_iff.2 (by omega)
  simp [leaseOk, e1, e2, e3]
theorem held_by {l a : RV} {p q r : Int} (h : leaseTry l p q r = (a, 0)) {o t : Int} (ho : 1 ≤ o ∧ o ≤ 4 ∧ o ≠ p) (ht : 0 ≤ t ∧ t ≤ 100000 ∧ t < q + r) : leaseTry a o t 5 = (RV.zero, 2) := by
  obtain ⟨h0, h1, h2, h3, h4, h5, _⟩ := accepted h
  have e1 : lWithin o 1 4 = true := lWithin_iff.2 (by omega)
  have e2 : lWithin t 0 100000 = true := lWithin_iff.2 (by omega)
  have e3 : lWithin 5 1 1000 = true := lWithin_iff.2 (by omega)
  unfold leaseTry leaseGot
  rw [new_ok h, e1, e2, e3]
  simp only [Bool.and_self, if_true]
  rw [if_neg (by omega), if_neg (by omega)]
theorem again_same {l a : RV} {p q r : Int} (h : leaseTry l p q r = (a, 0)) : leaseTry a p q r = (a, 0) := by
  obtain ⟨h0, h1, h2, h3, h4, h5, _⟩ := accepted h
  have e1 : lWithin p 1 4 = true := lWithin_iff.2 (by omega)
  have e2 : lWithin q 0 100000 = true := lWithin_iff.2 (by omega)
  have e3 : lWithin r 1 1000 = true := lWithin_iff.2 (by omega)
  unfold leaseTry leaseGot
  rw [new_ok h, e1, e2, e3]
  simp only [Bool.and_self, if_true]
  rw [if_neg (by omega), if_pos h4]
  obtain ⟨ac, am, ap⟩ := a
  dsimp only at h4 h5
  rw [h4, h5]
theorem holds_now {l a : RV} {p q r : Int} (h : leaseTry l p q r = (a, 0)) : leaseHolds a p a.m q = true ∧ leaseHolds a p a.m a.p = false := by
  obtain ⟨h0, h1, h2, h3, h4, h5, _⟩ := accepted h
  have he := epoch_in h
  unfold leaseHolds
  rw [new_ok h]
  constructor
  · simp [h4]; omega
  · simp
theorem kept_is {l a : RV} {p q r : Int} (h : leaseTry l p q r = (a, 0)) : ((a.m == l.m) == leaseHolds l p l.m q) = true ∧ (leaseHolds l p l.m q = false → (a.m == l.m + 1) = true) := by
  obtain ⟨h0, h1, h2, h3, h4, h5, h6⟩ := accepted h
  have he := epoch_in h
  unfold leaseHolds
  rw [h0]
  rcases h6 with ⟨i1, i2, i3⟩ | ⟨i1, i2, i3⟩
  · have d1 : (a.m == l.m) = false := by simp; omega
    have d2 : decide (l.p ≤ q) = true := decide_eq_true i1
    refine ⟨by rw [d1]; simp [d2], fun _ => by simp [i3]⟩
  · have d1 : (a.m == l.m) = true := by simp [i3]
    have d2 : decide (l.p ≤ q) = false := decide_eq_false (by omega)
    have d3 : (l.m != 0) = true := by simp; omega
    refine ⟨by rw [d1]; simp [d2, d3, i2], fun hh => ?_⟩
    simp [d2, d3, i2] at hh

theorem walk_big (A : Option Addr) (n c : Nat) (w : World) (h : 1048576 < n) :
    Calls Try.prog 3 #[.slice A n c] w fun e w' => e = .returned (.bool true) ∧ Below w.heap.size w w' := by
  go_enter Try.func3, Try.ntmps3
  go_wp2_with fail
  refine (big_yes A n c _ h).mono ?_
  rintro e w1 ⟨rfl, rfl⟩
  go_wp2_with fail
  go_ret
  exact ⟨rfl, (by repeat' (first | exact Below.refl _ _ | refine Below.alloc ?_ ?_ _ | refine Below.setCell ?_ ?_ _ | refine Below.drew ?_ | (apply below_step; assumption) | (simp; done) | (simp; omega) | omega))⟩

set_option maxRecDepth 100000 in
set_option maxHeartbeats 6400000 in
theorem walk (A : Option Addr) (n c : Nat) (w : World) (hn : n ≤ 1048576) (hc : CodeAt w A n) :
    Calls Try.prog 3 #[.slice A n c] w fun e w' => e = .returned (.bool true) ∧ Below w.heap.size w w' := by
  have HD := Lib.hid (DrawLeaseTry_any A n c w hn hc)
  have HCO := Lib.hid hc
  have hneq := neq_lease
  have heq := eq_lease
  have hgd := guard_lease
  clear hc
  go_enter Try.func3, Try.ntmps3
  go_wp2_with fail
  refine (big_no A n c _ hn).mono ?_
  rintro e w0 ⟨rfl, rfl⟩
  go_wp2_with fail
  refine HD.out.mono ?_
  rintro e w1 ⟨l, p, q, r, rfl, hb1⟩
  have hz1 := hb1.size
  have hs := fun w => sLeaseTry_any l p q r w
  have hi := fun w => LeaseTry_any l p q r w
  have HF : Hid (∀ a k, leaseTry l p q r = (a, k) → k = 0 → leaseTry l p q r = (a, 0)) := fun a k h e => by rw [h, e]
  generalize hans : leaseTry l p q r = ans at hs hi
  obtain ⟨a, k⟩ := ans
  have HANS := Lib.hid hans
  unfold RetL at hs hi
  dsimp only at hs hi
  have hne : (k != k) = false := by simp
  have hee : (k == k) = true := by simp
  have c1 : (a.c == a.c) = true := by simp
  have c2 : (a.m == a.m) = true := by simp
  have c3 : (a.p == a.p) = true := by simp
  have HS := Lib.hid hs
  have HI := Lib.hid hi
  clear hs hi hans HD
  go_wp2_with fail
  have hX1 : Below w.heap.size w (w1.alloc (.cells #[.int .i64 l.c, .int .i64 l.m, .int .i64 l.p] 25)) := (by repeat' (first | exact Below.refl _ _ | refine Below.alloc ?_ ?_ _ | refine Below.setCell ?_ ?_ _ | refine Below.drew ?_ | (apply below_step; assumption) | (simp; done) | (simp; omega) | omega))
  refine (HS.out _).mono ?_
  rintro e w2 ⟨rfl, hb2⟩
  have hC2 := below_of hX1 hb2
  have L2 := Lib.hid ((BlockIs.new w1 25 #[.int .i64 l.c, .int .i64 l.m, .int .i64 l.p]).below hb2 (by simp))
  have l20 := L2.out.cell 0
  have l21 := L2.out.cell 1
  have l22 := L2.out.cell 2
  have l2l := L2.out.lt
  simp at l20 l21 l22
  clear hX1 hb2 hb1
  go_wp2_with fail
  have hA2 : Below w2.heap.size w2 (w2.alloc (.cells #[.int .i64 a.c, .int .i64 a.m, .int .i64 a.p] 25)) := (by repeat' (first | exact Below.refl _ _ | refine Below.alloc ?_ ?_ _ | refine Below.setCell ?_ ?_ _ | refine Below.drew ?_ | (apply below_step; assumption) | (simp; done) | (simp; omega) | omega))
  refine (HI.out _).mono ?_
  rintro e w3 ⟨rfl, hb3⟩
  have hD3 := below_of hA2 hb3
  have hC3 := below_of hC2 hD3
  have L3 := Lib.hid (L2.out.below hD3 L2.out.lt)
  have S3 := Lib.hid ((BlockIs.new w2 25 #[.int .i64 a.c, .int .i64 a.m, .int .i64 a.p]).below hb3 (by simp))
  have s30 := S3.out.cell 0
  have s31 := S3.out.cell 1
  have s32 := S3.out.cell 2
  have s3l := S3.out.lt
  have z3 := hD3.size
  have zC := hC3.size
  simp at s30 s31 s32
  clear l20 l21 l22 l2l hA2 hb3 hD3 L2
  generalize e0 : (k != 0) = bk
  cases bk
  rotate_left
  · go_wp2_with fail
    go_ret
    exact ⟨rfl, (by repeat' (first | exact Below.refl _ _ | refine Below.alloc ?_ ?_ _ | refine Below.setCell ?_ ?_ _ | refine Below.drew ?_ | (apply below_step; assumption) | (simp; done) | (simp; omega) | omega))⟩
  have hk0 : k = 0 := by simpa using e0
  have HACC := Lib.hid (HF.out a k HANS.out hk0)
  have p1 := (accepted HACC.out).2.1.1
  have p2 := (accepted HACC.out).2.1.2
  have q1 := (accepted HACC.out).2.2.1.1
  have q2 := (accepted HACC.out).2.2.1.2
  have r1 := (accepted HACC.out).2.2.2.1.1
  have r2 := (accepted HACC.out).2.2.2.1.2
  have lb := leaseOk_bounds (accepted HACC.out).1
  have HK0 := Lib.hid hk0
  have htm : Int.tmod p 4 = p % 4 := Int.tmod_eq_emod_of_nonneg (by omega)
  clear hk0 HF
  have hX3 : Below w.heap.size w (w3.alloc (.cells #[.int .i64 a.c, .int .i64 a.m, .int .i64 a.p] 25)) := (by repeat' (first | exact Below.refl _ _ | refine Below.alloc ?_ ?_ _ | refine Below.setCell ?_ ?_ _ | refine Below.drew ?_ | (apply below_step; assumption) | (simp; done) | (simp; omega) | omega))
  have HHELD : Hid (∀ (o t : Int) (w : World), (1 ≤ o ∧ o ≤ 4 ∧ o ≠ p) → (0 ≤ t ∧ t ≤ 100000 ∧ t < q + r) → Calls Try.prog 15 #[.agg #[.int .i64 a.c, .int .i64 a.m, .int .i64 a.p], .int .i64 o, .int .i64 t, .int .i64 5] w fun e w' => e = .returned (.tuple #[.agg #[.int .i64 0, .int .i64 0, .int .i64 0], .int .i64 2]) ∧ Below w.heap.size w w') := fun o t w ho ht => by
    have h := LeaseTry_any a o t 5 w
    rw [held_by HACC.out ho ht] at h
    exact h
  have HAGAIN : Hid (∀ w : World, Calls Try.prog 15 #[.agg #[.int .i64 a.c, .int .i64 a.m, .int .i64 a.p], .int .i64 p, .int .i64 q, .int .i64 r] w fun e w' => e = .returned (.tuple #[.agg #[.int .i64 a.c, .int .i64 a.m, .int .i64 a.p], .int .i64 0]) ∧ Below w.heap.size w w') := fun w => by
    have h := LeaseTry_any a p q r w
    rw [again_same HACC.out] at h
    exact h
  have HNOW : Hid (∀ w : World, Calls Try.prog 17 #[.agg #[.int .i64 a.c, .int .i64 a.m, .int .i64 a.p], .int .i64 p, .int .i64 a.m, .int .i64 q] w fun e w' => e = .returned (.bool true) ∧ Below w.heap.size w w') := fun w => by
    have h := LeaseHolds_any a p a.m q w
    rw [(holds_now HACC.out).1] at h
    exact h
  have HEND : Hid (∀ w : World, Calls Try.prog 17 #[.agg #[.int .i64 a.c, .int .i64 a.m, .int .i64 a.p], .int .i64 p, .int .i64 a.m, .int .i64 a.p] w fun e w' => e = .returned (.bool false) ∧ Below w.heap.size w w') := fun w => by
    have h := LeaseHolds_any a p a.m a.p w
    rw [(holds_now HACC.out).2] at h
    exact h
  have hkeep := fun w => LeaseHolds_any l p l.m q w
  have HKI := Lib.hid (kept_is HACC.out)
  generalize leaseHolds l p l.m q = kept at hkeep HKI
  have HKEEP := Lib.hid hkeep
  obtain ⟨X, hX⟩ : ∃ x, x = w3.alloc (.cells #[.int .i64 a.c, .int .i64 a.m, .int .i64 a.p] 25) := ⟨_, rfl⟩
  have HXE := Lib.hid hX
  have hCX : Below w.heap.size w X := by rw [hX]; exact hX3
  have LX := Lib.hid (show BlockIs X w1.heap.size 25 #[.int .i64 l.c, .int .i64 l.m, .int .i64 l.p] by rw [hX]; exact L3.out.alloc _)
  have MX := Lib.hid (show BlockIs X w3.heap.size 25 #[.int .i64 a.c, .int .i64 a.m, .int .i64 a.p] by rw [hX]; exact BlockIs.new _ _ _)
  have HK := Lib.hid (show ∀ w', Below X.heap.size X w' → Below X.heap.size X w' ∧ (∀ o, w'.cell? ⟨w3.heap.size, o, none⟩ = (#[.int .i64 a.c, .int .i64 a.m, .int .i64 a.p] : Array Value)[o]?) from fun w' hb => ⟨hb, (MX.out.below hb MX.out.lt).cell⟩)
  have mxl := MX.out.lt
  clear hX hkeep
  go_upto_region 9 with fail
  rw [← HXE.out]
  clear s30 s31 s32 s3l S3 L3 hX3
  go_cut [12, 13] (fun s12 s13 wx => s13 = .int .i64 2 ∧ Below X.heap.size X wx)
  case first =>
    have mx0 := MX.out.cell 0
    have mx1 := MX.out.cell 1
    have mx2 := MX.out.cell 2
    simp at mx0 mx1 mx2
    go_region_with
      (first
        | (go_at_call 16; refine (lpick_all A n c 5 r _ hn (HCO.out.below (below_of hCX (by repeat' (first | exact Below.refl _ _ | refine Below.alloc ?_ ?_ _ | refine Below.setCell ?_ ?_ _ | refine Below.drew ?_ | (apply below_step; assumption) | (simp; done) | (simp; omega) | omega)))) (by omega) (by omega) r1 (by omega)).mono ?_; rintro e u1 ⟨z, z0, z1, rfl, hu1⟩; subst hu1; have hwz : IntKind.i64.wrap (q + z) = q + z := (by rw [IntKind.wrap_i64]; omega); obtain ⟨t, htt⟩ : ∃ t : Int, t = (if q + z < 100000 then q + z else 100000) := ⟨_, rfl⟩; have T0 := Lib.hid (show 0 ≤ t ∧ t ≤ 100000 ∧ t < q + r by rw [htt]; split <;> omega); have htt' := htt.symm; clear htt)
        | (go_at_call 15; refine (HHELD.out _ _ _ ?_ ?_).mono ?_; (refine ⟨?_, ?_, ?_⟩ <;> omega); (exact T0.out); rintro e u2 ⟨rfl, hb2⟩; have hz2' := hb2.size; (try simp at hz2'); (first | (have q0 := BlockIs.new X.drew 25 #[.int .i64 0, .int .i64 0, .int .i64 0]; have BBa := q0.below hb2 q0.lt; have bx0 := BBa.cell 0; have bx1 := BBa.cell 1; have bx2 := BBa.cell 2; have bxf := BBa.frozen; simp at bx0 bx1 bx2; (try simp at bxf); clear BBa) | skip)))
    all_goals go_wp2_with fail
    all_goals
      go_meet
      exact ⟨rfl, (by repeat' (first | exact Below.refl _ _ | refine Below.alloc ?_ ?_ _ | refine Below.setCell ?_ ?_ _ | refine Below.drew ?_ | (apply below_step; assumption) | (simp; done) | (simp; omega) | omega))⟩
  case rest =>
    obtain ⟨rfl, hbx⟩ := hcut
    obtain ⟨w4, rfl⟩ : ∃ x : World, x = wc := ⟨wc, rfl⟩
    have hC4 := below_of hCX hbx
    have L4 := Lib.hid (LX.out.below hbx LX.out.lt)
    have M4 := Lib.hid (MX.out.below hbx MX.out.lt)
    have l40 := L4.out.cell 0
    have l41 := L4.out.cell 1
    have l42 := L4.out.cell 2
    simp at l40 l41 l42
    clear hbx LX MX HK mxl hCX
    go_wp2_with fail
    refine (HKEEP.out _).mono ?_
    rintro e w5 ⟨rfl, hb5⟩
    have hC5 := below_of hC4 hb5
    have L5 := Lib.hid (L4.out.below hb5 L4.out.lt)
    have M5 := Lib.hid (M4.out.below hb5 M4.out.lt)
    have m50 := M5.out.cell 0
    have m51 := M5.out.cell 1
    have m52 := M5.out.cell 2
    simp at m50 m51 m52
    clear hb5 L4 M4 l40 l41 l42
    go_wp2_with fail
    refine (HAGAIN.out _).mono ?_
    rintro e w6 ⟨rfl, hb6⟩
    have hC6 := below_of hC5 hb6
    have L6 := Lib.hid (L5.out.below hb6 L5.out.lt)
    have M6 := Lib.hid (M5.out.below hb6 M5.out.lt)
    have m60 := M6.out.cell 0
    have m61 := M6.out.cell 1
    have m62 := M6.out.cell 2
    have m6l := M6.out.lt
    simp at m60 m61 m62
    clear hb6 L5 M5 m50 m51 m52
    go_wp2_with fail
    have hA6 : Below w6.heap.size w6 (w6.alloc (.cells #[.int .i64 a.c, .int .i64 a.m, .int .i64 a.p] 25)) := (by repeat' (first | exact Below.refl _ _ | refine Below.alloc ?_ ?_ _ | refine Below.setCell ?_ ?_ _ | refine Below.drew ?_ | (apply below_step; assumption) | (simp; done) | (simp; omega) | omega))
    refine (HNOW.out _).mono ?_
    rintro e w7 ⟨rfl, hb7⟩
    have hD7 := below_of hA6 hb7
    have hC7 := below_of hC6 hD7
    have L7 := Lib.hid (L6.out.below hD7 L6.out.lt)
    have M7 := Lib.hid (M6.out.below hD7 M6.out.lt)
    have N7 := Lib.hid ((BlockIs.new w6 25 #[.int .i64 a.c, .int .i64 a.m, .int .i64 a.p]).below hb7 (by simp))
    have m70 := M7.out.cell 0
    have m71 := M7.out.cell 1
    have m72 := M7.out.cell 2
    simp at m70 m71 m72
    clear hb7 hD7 hA6 L6 M6 m60 m61 m62 m6l
    go_wp2_with fail
    refine (HEND.out _).mono ?_
    rintro e w8 ⟨rfl, hb8⟩
    have hC8 := below_of hC7 hb8
    have L8 := L7.out.below hb8 L7.out.lt
    have M8 := M7.out.below hb8 M7.out.lt
    have N8 := N7.out.below hb8 N7.out.lt
    have l80 := L8.cell 0
    have l81 := L8.cell 1
    have l82 := L8.cell 2
    have m80 := M8.cell 0
    have m81 := M8.cell 1
    have m82 := M8.cell 2
    have n80 := N8.cell 0
    have n81 := N8.cell 1
    have n82 := N8.cell 2
    simp at l80 l81 l82 m80 m81 m82 n80 n81 n82
    clear hb8 L7 M7 N7 L8 M8 N8 m70 m71 m72
    obtain ⟨k1, k2⟩ := HKI.out
    cases kept
    · have k3 := k2 rfl
      clear k2
      go_wp2_with fail
      go_ret
      exact ⟨rfl, (by repeat' (first | exact Below.refl _ _ | refine Below.alloc ?_ ?_ _ | refine Below.setCell ?_ ?_ _ | refine Below.drew ?_ | (apply below_step; assumption) | (simp; done) | (simp; omega) | omega))⟩
    · clear k2
      go_wp2_with fail
      go_ret
      exact ⟨rfl, (by repeat' (first | exact Below.refl _ _ | refine Below.alloc ?_ ?_ _ | refine Below.setCell ?_ ?_ _ | refine Below.drew ?_ | (apply below_step; assumption) | (simp; done) | (simp; omega) | omega))⟩

theorem rowVars : ∀ n ∈ Rows.fnLeaseSpec.vars, ∃ g t ms, Try.prog.globalNamed n = some g ∧ (Try.prog.globals[g]?).map (·.type) = some t ∧ Try.prog.underlying t = some (.interface ms) := fun n hn => by cases hn
set_option maxRecDepth 100000 in
theorem contract (H : Type) (enc : TypeId × Value → H) (W : World) (base : Nat) (args : Array Value) (ds gs : List (DataW H)) (before : List MemPlace)
    (hval : ∀ (j : Nat) t v, Try.f3.params[j]? = some t → args[j]? = some v → Value.okWide Try.prog W .any base t v)
    (hW : DataW.Whole enc Try.prog Try.f3.params.toList Rows.fnLeaseSpec.vars false W args.toList ds gs before) (_hL : laidMetH Try.prog Rows.fnLeaseRow.laid W) :
    Calls Try.prog 3 args W fun e W' => ∃ v, e = .returned v ∧ Rows.fnLeaseSpec.post enc Try.prog Try.f3 false true false false W args v W' := by
  have hW' := hW
  obtain ⟨p, q, hA0, hV, rfl, hfz, hnd⟩ := hW
  have hA : DataW.TrodAll enc Try.prog W 0 (fun _ => true) true Try.f3.params.toList args.toList ds p := hA0
  rw [Try.params3] at hA hval
  obtain ⟨v0, vs0, d0, ds0, p0, q0, hargs, rfl, rfl, h0, r0⟩ := trodAll_cons hA
  obtain ⟨rfl, rfl, rfl⟩ := trodAll_nil r0
  obtain rfl : args = #[v0] := by cases args; simp_all
  obtain rfl : gs = [] := by cases gs with | nil => rfl | cons _ _ => exact (show False from hV).elim
  have hs0 := hval 0 _ v0 rfl rfl
  have fin : Calls Try.prog 3 #[v0] W fun e w' => e = .returned (.bool true) ∧ Below W.heap.size W w' := by
    obtain ⟨A, n, c, rfl, hn, _, hcode⟩ := open_code hs0 h0
    by_cases hlong : n ≤ 1048576
    · exact walk A n c W hlong hcode
    · exact walk_big A n c W (by omega)
  refine fin.mono fun e W' ⟨he, hb⟩ => ?_
  subst he
  exact ⟨_, rfl, law_post Try.laidOut (by rw [Try.params3]; intro t ht; have k0 : Try.prog.readableRec 22 = true ∧ 22 < Try.prog.types.size := ⟨by kernel_rfl, of_decide_eq_true (by kernel_rfl)⟩; simp at ht; subst ht; exact k0) rowVars (tb := 4) rfl Try.underlying4 hW' rfl hb⟩

theorem door_met (os : Os) (args : Array Value) : laidMet Try.prog Rows.fnLeaseRow.laid ((World.doorLaid Try.prog 400 os).forCall (fun _ _ => 0) ⟨#[], args, []⟩).memory :=
  laidMet_of_run' 8 (by kernel_rfl) (by kernel_rfl)
set_option maxRecDepth 100000 in
theorem lifted (os : Os) (started : os.Started) (H : Type) (enc : TypeId × Value → H) (F : Stop.Interp) :
    ReturnsInHanded {} Try.checked os 3 .any ((OpenSpec.ofChange Rows.fnLeaseSpec).preRow enc Try.prog Try.f3 Rows.fnLeaseRow.domain false Rows.fnLeaseRow.laid) (((OpenSpec.ofChange Rows.fnLeaseSpec).at F).post enc Try.prog Try.f3 false true false false) := by
  refine returnsInHanded_of_row (C := Try.checked) (s := OpenSpec.ofChange Rows.fnLeaseSpec) Try.own started (by kernel_rfl) Try.func3
    (witness_row_atRef (enc := enc) (C := Try.checked) false (World.doorLaid Try.prog 400 os) #[.slice none 0 0] rfl (by kernel_rfl) (by kernel_rfl) (by kernel_rfl)
      (OpenSpec.preRow_of_B rfl 8 (by kernel_rfl) (by kernel_rfl) (door_met os _))) ?_
  intro W base args ds gs before hval hW _ _ _ hL _ _
  exact contract H enc W base args ds gs before hval hW hL

theorem jIn : (Rows.fnLeaseRow.inPlace == Try.prog.inPlace 3) = true := by kernel_rfl
theorem jUn : (Rows.fnLeaseRow.unfollowed == Try.prog.unfollowed 3) = true := by kernel_rfl
theorem jRe : (Rows.fnLeaseRow.recurses == Try.prog.recurses 3) = true := by kernel_rfl
theorem jNa : (Rows.fnLeaseRow.named == Try.prog.varsNamed 3) = true := by kernel_rfl
theorem joined : joinedFacts Try.prog 3 Try.f3 (OpenSpec.ofChange Rows.fnLeaseSpec).bare Rows.fnLeaseRow = true :=
  joined_mk (by kernel_rfl) Try.laidOut pRowed (by kernel_rfl) (by kernel_rfl) rfl pStops rfl pKnobs jIn jUn jRe jNa (by kernel_rfl) (by kernel_rfl) (by kernel_rfl) (by kernel_rfl) (by kernel_rfl) (by kernel_rfl) (by kernel_rfl) (by kernel_rfl) (by kernel_rfl) pKeys (by kernel_rfl) pHeard pEnter pLifts pMake (by kernel_rfl) (by kernel_rfl) (by kernel_rfl) (by kernel_rfl)
theorem said : Rows.FnLeaseSaid :=
  OpenClaim.holds_of_cond 3 Try.f3 rfl rfl rfl rfl rfl rfl rfl ⟨rfl, rfl, rfl, rfl, rfl⟩ rfl rfl rfl rfl rfl (by kernel_rfl) Try.func3 joined
    (of_decide_eq_true (by kernel_rfl)) (by unfold Func.isWrapper; first | (rw [if_pos (by decide +kernel)]; kernel_rfl) | (rw [if_neg (by decide +kernel)]; exact ⟨rfl, rfl⟩))
    (fun os started H enc _ F => by rw [OpenClaim.pre_eq_preRow]; exact lifted os started H enc F)

end Go.Proofs.Ytjammpcfihlfaaa.fnLease
