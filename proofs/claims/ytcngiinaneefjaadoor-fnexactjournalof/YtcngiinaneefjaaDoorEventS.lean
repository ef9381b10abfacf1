/- The contract of the model's EventOk. (mkevent.py) -/
import Derived.Test.YtcngiinaneefjaaDoorEventI
namespace Go.Proofs.YtcngiinaneefjaaDoor
open Go.RowKit

theorem within_two (n a b : Int) : lWithin n a b = (decide (a ≤ n) && decide (n ≤ b)) := rfl
theorem within_lt (n a b : Int) : lWithin n a b = (decide (a ≤ n) && decide (n < b + 1)) := by unfold lWithin; congr 1; rw [Bool.eq_iff_iff]; simp only [decide_eq_true_eq]; omega
set_option maxHeartbeats 1600000 in
theorem sEventOk1_any (who n : Int) (works keep : Bool) (t : TV) (A1 A2 : Option Addr) (c1 c2 : Nat) (w : World) :
    Calls Tryd.prog 60 #[.agg #[.int .i64 1, .int .i64 who, .int .i64 n, .bool works, .bool keep, .int .i64 t.id, .int .i64 t.prio, .int .i64 t.need.c, .int .i64 t.need.m, .int .i64 t.need.p, .slice A1 t.want.length c1, .slice A2 t.tols.length c2]] w fun e w' => e = .returned (.bool (eventOk ⟨1, who, n, works, keep, t⟩)) ∧ Below w.heap.size w w' := by
  have HE : eventOk ⟨1, who, n, works, keep, t⟩ = ((lWithin n 1 1000) && (who == 0) && !works && !keep && noTask t) := rfl
  rw [within_two n 1 1000] at HE
  generalize ec1 : decide ((1 : Int) ≤ n) = c1b at *
  generalize ec2 : decide (n ≤ 1000) = c2b at *
  have hnt := fun w => sNoTask_any t A1 A2 c1 c2 w
  generalize noTask t = nt at *
  generalize ew : (who == 0) = bw at *
  generalize en : (n == 0) = bn at *
  have HE := Lib.hid HE
  have HN := Lib.hid hnt
  clear hnt
  go_enter Tryd.func60, Tryd.ntmps60
  go_wp2_with fail
  refine (HN.out _).mono ?_
  rintro e w1 ⟨rfl, hb1⟩
  have hX : Below w.heap.size w (w.alloc (.cells #[.int .i64 1, .int .i64 who, .int .i64 n, .bool works, .bool keep, .int .i64 t.id, .int .i64 t.prio, .int .i64 t.need.c, .int .i64 t.need.m, .int .i64 t.need.p, .slice A1 t.want.length c1, .slice A2 t.tols.length c2] 50)) := (by repeat' (first | exact Below.refl _ _ | refine Below.alloc ?_ ?_ _ | refine Below.setCell ?_ ?_ _ | refine Below.drew ?_ | (apply below_step; assumption) | (simp; done) | (simp; omega) | omega))
  have hC1 := below_of hX hb1
  have B1 := (BlockIs.new w 50 #[.int .i64 1, .int .i64 who, .int .i64 n, .bool works, .bool keep, .int .i64 t.id, .int .i64 t.prio, .int .i64 t.need.c, .int .i64 t.need.m, .int .i64 t.need.p, .slice A1 t.want.length c1, .slice A2 t.tols.length c2]).below hb1 (by simp)
  have g0 := B1.cell 0
  have g1 := B1.cell 1
  have g2 := B1.cell 2
  have g3 := B1.cell 3
  have g4 := B1.cell 4
  have g5 := B1.cell 5
  have g6 := B1.cell 6
  have g7 := B1.cell 7
  have g8 := B1.cell 8
  have g9 := B1.cell 9
  have g10 := B1.cell 10
  have g11 := B1.cell 11
  simp at g0 g1 g2 g3 g4 g5 g6 g7 g8 g9 g10 g11
  have hz1 := hC1.size
  clear B1 hb1 hX
  cases works <;> cases keep
  all_goals
    try clear e
    cases bw
    · go_wp2_with fail
      go_ret
      exact ⟨by rw [HE.out]; simp, (by repeat' (first | exact Below.refl _ _ | refine Below.alloc ?_ ?_ _ | refine Below.setCell ?_ ?_ _ | refine Below.drew ?_ | (apply below_step; assumption) | (simp; done) | (simp; omega) | omega))⟩
    cases c1b
    · go_wp2_with fail
      go_ret
      exact ⟨by rw [HE.out]; simp, (by repeat' (first | exact Below.refl _ _ | refine Below.alloc ?_ ?_ _ | refine Below.setCell ?_ ?_ _ | refine Below.drew ?_ | (apply below_step; assumption) | (simp; done) | (simp; omega) | omega))⟩
    cases c2b
    · go_wp2_with fail
      go_ret
      exact ⟨by rw [HE.out]; simp, (by repeat' (first | exact Below.refl _ _ | refine Below.alloc ?_ ?_ _ | refine Below.setCell ?_ ?_ _ | refine Below.drew ?_ | (apply below_step; assumption) | (simp; done) | (simp; omega) | omega))⟩
    go_wp2_with fail
    go_ret
    exact ⟨by rw [HE.out]; simp, (by repeat' (first | exact Below.refl _ _ | refine Below.alloc ?_ ?_ _ | refine Below.setCell ?_ ?_ _ | refine Below.drew ?_ | (apply below_step; assumption) | (simp; done) | (simp; omega) | omega))⟩
set_option maxHeartbeats 1600000 in
theorem sEventOk2_any (who n : Int) (works keep : Bool) (t : TV) (A1 A2 : Option Addr) (c1 c2 : Nat) (w : World) :
    Calls Tryd.prog 60 #[.agg #[.int .i64 2, .int .i64 who, .int .i64 n, .bool works, .bool keep, .int .i64 t.id, .int .i64 t.prio, .int .i64 t.need.c, .int .i64 t.need.m, .int .i64 t.need.p, .slice A1 t.want.length c1, .slice A2 t.tols.length c2]] w fun e w' => e = .returned (.bool (eventOk ⟨2, who, n, works, keep, t⟩)) ∧ Below w.heap.size w w' := by
  have HE : eventOk ⟨2, who, n, works, keep, t⟩ = ((lWithin who 1 4) && (n == 0) && !works && !keep && noTask t) := rfl
  have h1 := fun w => l06Who_any who w
  generalize lWithin who 1 4 = b1 at *
  have H1 := Lib.hid h1
  clear h1
  have hnt := fun w => sNoTask_any t A1 A2 c1 c2 w
  generalize noTask t = nt at *
  generalize ew : (who == 0) = bw at *
  generalize en : (n == 0) = bn at *
  have HE := Lib.hid HE
  have HN := Lib.hid hnt
  clear hnt
  go_enter Tryd.func60, Tryd.ntmps60
  go_wp2_with fail
  refine (HN.out _).mono ?_
  rintro e w1 ⟨rfl, hb1⟩
  have hX : Below w.heap.size w (w.alloc (.cells #[.int .i64 2, .int .i64 who, .int .i64 n, .bool works, .bool keep, .int .i64 t.id, .int .i64 t.prio, .int .i64 t.need.c, .int .i64 t.need.m, .int .i64 t.need.p, .slice A1 t.want.length c1, .slice A2 t.tols.length c2] 50)) := (by repeat' (first | exact Below.refl _ _ | refine Below.alloc ?_ ?_ _ | refine Below.setCell ?_ ?_ _ | refine Below.drew ?_ | (apply below_step; assumption) | (simp; done) | (simp; omega) | omega))
  have hC1 := below_of hX hb1
  have B1 := (BlockIs.new w 50 #[.int .i64 2, .int .i64 who, .int .i64 n, .bool works, .bool keep, .int .i64 t.id, .int .i64 t.prio, .int .i64 t.need.c, .int .i64 t.need.m, .int .i64 t.need.p, .slice A1 t.want.length c1, .slice A2 t.tols.length c2]).below hb1 (by simp)
  have g0 := B1.cell 0
  have g1 := B1.cell 1
  have g2 := B1.cell 2
  have g3 := B1.cell 3
  have g4 := B1.cell 4
  have g5 := B1.cell 5
  have g6 := B1.cell 6
  have g7 := B1.cell 7
  have g8 := B1.cell 8
  have g9 := B1.cell 9
  have g10 := B1.cell 10
  have g11 := B1.cell 11
  simp at g0 g1 g2 g3 g4 g5 g6 g7 g8 g9 g10 g11
  have hz1 := hC1.size
  clear B1 hb1 hX
  cases works <;> cases keep
  all_goals
    try clear e
    go_wp2_with fail
    refine (H1.out _).mono ?_
    rintro e wz ⟨rfl, rfl⟩
    cases b1
    · go_wp2_with fail
      go_ret
      exact ⟨by rw [HE.out]; simp, (by repeat' (first | exact Below.refl _ _ | refine Below.alloc ?_ ?_ _ | refine Below.setCell ?_ ?_ _ | refine Below.drew ?_ | (apply below_step; assumption) | (simp; done) | (simp; omega) | omega))⟩
    cases bn
    · go_wp2_with fail
      go_ret
      exact ⟨by rw [HE.out]; simp, (by repeat' (first | exact Below.refl _ _ | refine Below.alloc ?_ ?_ _ | refine Below.setCell ?_ ?_ _ | refine Below.drew ?_ | (apply below_step; assumption) | (simp; done) | (simp; omega) | omega))⟩
    go_wp2_with fail
    go_ret
    exact ⟨by rw [HE.out]; simp, (by repeat' (first | exact Below.refl _ _ | refine Below.alloc ?_ ?_ _ | refine Below.setCell ?_ ?_ _ | refine Below.drew ?_ | (apply below_step; assumption) | (simp; done) | (simp; omega) | omega))⟩
set_option maxHeartbeats 1600000 in
theorem sEventOk3_any (who n : Int) (works keep : Bool) (t : TV) (A1 A2 : Option Addr) (c1 c2 : Nat) (w : World) :
    Calls Tryd.prog 60 #[.agg #[.int .i64 3, .int .i64 who, .int .i64 n, .bool works, .bool keep, .int .i64 t.id, .int .i64 t.prio, .int .i64 t.need.c, .int .i64 t.need.m, .int .i64 t.need.p, .slice A1 t.want.length c1, .slice A2 t.tols.length c2]] w fun e w' => e = .returned (.bool (eventOk ⟨3, who, n, works, keep, t⟩)) ∧ Below w.heap.size w w' := by
  have HE : eventOk ⟨3, who, n, works, keep, t⟩ = ((lWithin who 1 4) && (n == 0) && !works && !keep && noTask t) := rfl
  have h1 := fun w => l06Who_any who w
  generalize lWithin who 1 4 = b1 at *
  have H1 := Lib.hid h1
  clear h1
  have hnt := fun w => sNoTask_any t A1 A2 c1 c2 w
  generalize noTask t = nt at *
  generalize ew : (who == 0) = bw at *
  generalize en : (n == 0) = bn at *
  have HE := Lib.hid HE
  have HN := Lib.hid hnt
  clear hnt
  go_enter Tryd.func60, Tryd.ntmps60
  go_wp2_with fail
  refine (HN.out _).mono ?_
  rintro e w1 ⟨rfl, hb1⟩
  have hX : Below w.heap.size w (w.alloc (.cells #[.int .i64 3, .int .i64 who, .int .i64 n, .bool works, .bool keep, .int .i64 t.id, .int .i64 t.prio, .int .i64 t.need.c, .int .i64 t.need.m, .int .i64 t.need.p, .slice A1 t.want.length c1, .slice A2 t.tols.length c2] 50)) := (by repeat' (first | exact Below.refl _ _ | refine Below.alloc ?_ ?_ _ | refine Below.setCell ?_ ?_ _ | refine Below.drew ?_ | (apply below_step; assumption) | (simp; done) | (simp; omega) | omega))
  have hC1 := below_of hX hb1
  have B1 := (BlockIs.new w 50 #[.int .i64 3, .int .i64 who, .int .i64 n, .bool works, .bool keep, .int .i64 t.id, .int .i64 t.prio, .int .i64 t.need.c, .int .i64 t.need.m, .int .i64 t.need.p, .slice A1 t.want.length c1, .slice A2 t.tols.length c2]).below hb1 (by simp)
  have g0 := B1.cell 0
  have g1 := B1.cell 1
  have g2 := B1.cell 2
  have g3 := B1.cell 3
  have g4 := B1.cell 4
  have g5 := B1.cell 5
  have g6 := B1.cell 6
  have g7 := B1.cell 7
  have g8 := B1.cell 8
  have g9 := B1.cell 9
  have g10 := B1.cell 10
  have g11 := B1.cell 11
  simp at g0 g1 g2 g3 g4 g5 g6 g7 g8 g9 g10 g11
  have hz1 := hC1.size
  clear B1 hb1 hX
  cases works <;> cases keep
  all_goals
    try clear e
    go_wp2_with fail
    refine (H1.out _).mono ?_
    rintro e wz ⟨rfl, rfl⟩
    cases b1
    · go_wp2_with fail
      go_ret
      exact ⟨by rw [HE.out]; simp, (by repeat' (first | exact Below.refl _ _ | refine Below.alloc ?_ ?_ _ | refine Below.setCell ?_ ?_ _ | refine Below.drew ?_ | (apply below_step; assumption) | (simp; done) | (simp; omega) | omega))⟩
    cases bn
    · go_wp2_with fail
      go_ret
      exact ⟨by rw [HE.out]; simp, (by repeat' (first | exact Below.refl _ _ | refine Below.alloc ?_ ?_ _ | refine Below.setCell ?_ ?_ _ | refine Below.drew ?_ | (apply below_step; assumption) | (simp; done) | (simp; omega) | omega))⟩
    go_wp2_with fail
    go_ret
    exact ⟨by rw [HE.out]; simp, (by repeat' (first | exact Below.refl _ _ | refine Below.alloc ?_ ?_ _ | refine Below.setCell ?_ ?_ _ | refine Below.drew ?_ | (apply below_step; assumption) | (simp; done) | (simp; omega) | omega))⟩
set_option maxHeartbeats 1600000 in
theorem sEventOk4_any (who n : Int) (works keep : Bool) (t : TV) (A1 A2 : Option Addr) (c1 c2 : Nat) (w : World) (h1 : LabSl w (.slice A1 t.want.length c1) t.want) (h2 : IntSl w (.slice A2 t.tols.length c2) t.tols) (l1 : t.want.length ≤ 1048576) (l2 : t.tols.length ≤ 1048576) :
    Calls Tryd.prog 60 #[.agg #[.int .i64 4, .int .i64 who, .int .i64 n, .bool works, .bool keep, .int .i64 t.id, .int .i64 t.prio, .int .i64 t.need.c, .int .i64 t.need.m, .int .i64 t.need.p, .slice A1 t.want.length c1, .slice A2 t.tols.length c2]] w fun e w' => e = .returned (.bool (eventOk ⟨4, who, n, works, keep, t⟩)) ∧ Below w.heap.size w w' := by
  have HE : eventOk ⟨4, who, n, works, keep, t⟩ = ((t.ok) && (who == 0) && (n == 0) && !works && !keep) := rfl
  have h1 := fun w h1 h2 => sTaskOk_any t (.slice A1 t.want.length c1) (.slice A2 t.tols.length c2) w h1 h2 l1 l2
  generalize t.ok = b1 at *
  have HL := Lib.hid ‹LabSl w (.slice A1 t.want.length c1) t.want›
  have HI := Lib.hid h2
  have H1 := Lib.hid h1
  clear h1 h2 l1 l2
  have hnt := fun w => sNoTask_any t A1 A2 c1 c2 w
  generalize noTask t = nt at *
  generalize ew : (who == 0) = bw at *
  generalize en : (n == 0) = bn at *
  have HE := Lib.hid HE
  have HN := Lib.hid hnt
  clear hnt
  go_enter Tryd.func60, Tryd.ntmps60
  go_wp2_with fail
  refine (HN.out _).mono ?_
  rintro e w1 ⟨rfl, hb1⟩
  have hX : Below w.heap.size w (w.alloc (.cells #[.int .i64 4, .int .i64 who, .int .i64 n, .bool works, .bool keep, .int .i64 t.id, .int .i64 t.prio, .int .i64 t.need.c, .int .i64 t.need.m, .int .i64 t.need.p, .slice A1 t.want.length c1, .slice A2 t.tols.length c2] 50)) := (by repeat' (first | exact Below.refl _ _ | refine Below.alloc ?_ ?_ _ | refine Below.setCell ?_ ?_ _ | refine Below.drew ?_ | (apply below_step; assumption) | (simp; done) | (simp; omega) | omega))
  have hC1 := below_of hX hb1
  have B1 := (BlockIs.new w 50 #[.int .i64 4, .int .i64 who, .int .i64 n, .bool works, .bool keep, .int .i64 t.id, .int .i64 t.prio, .int .i64 t.need.c, .int .i64 t.need.m, .int .i64 t.need.p, .slice A1 t.want.length c1, .slice A2 t.tols.length c2]).below hb1 (by simp)
  have g0 := B1.cell 0
  have g1 := B1.cell 1
  have g2 := B1.cell 2
  have g3 := B1.cell 3
  have g4 := B1.cell 4
  have g5 := B1.cell 5
  have g6 := B1.cell 6
  have g7 := B1.cell 7
  have g8 := B1.cell 8
  have g9 := B1.cell 9
  have g10 := B1.cell 10
  have g11 := B1.cell 11
  simp at g0 g1 g2 g3 g4 g5 g6 g7 g8 g9 g10 g11
  have hz1 := hC1.size
  clear B1 hb1 hX
  cases works <;> cases keep
  all_goals
    try clear e
    cases bw
    · go_wp2_with fail
      go_ret
      exact ⟨by rw [HE.out]; simp, (by repeat' (first | exact Below.refl _ _ | refine Below.alloc ?_ ?_ _ | refine Below.setCell ?_ ?_ _ | refine Below.drew ?_ | (apply below_step; assumption) | (simp; done) | (simp; omega) | omega))⟩
    cases bn
    · go_wp2_with fail
      go_ret
      exact ⟨by rw [HE.out]; simp, (by repeat' (first | exact Below.refl _ _ | refine Below.alloc ?_ ?_ _ | refine Below.setCell ?_ ?_ _ | refine Below.drew ?_ | (apply below_step; assumption) | (simp; done) | (simp; omega) | omega))⟩
    first
      | (go_wp2_with fail; go_ret; exact ⟨by rw [HE.out]; simp, (by repeat' (first | exact Below.refl _ _ | refine Below.alloc ?_ ?_ _ | refine Below.setCell ?_ ?_ _ | refine Below.drew ?_ | (apply below_step; assumption) | (simp; done) | (simp; omega) | omega))⟩)
      | (go_wp2_with fail; refine (H1.out _ (HL.out.below hC1) (HI.out.below hC1)).mono ?_; rintro e wz ⟨rfl, hbz⟩; have hzz := hbz.size; go_wp2_with fail; go_ret; exact ⟨by rw [HE.out]; simp, below_of hC1 hbz⟩)
set_option maxHeartbeats 1600000 in
theorem sEventOk5_any (who n : Int) (works keep : Bool) (t : TV) (A1 A2 : Option Addr) (c1 c2 : Nat) (w : World) :
    Calls Tryd.prog 60 #[.agg #[.int .i64 5, .int .i64 who, .int .i64 n, .bool works, .bool keep, .int .i64 t.id, .int .i64 t.prio, .int .i64 t.need.c, .int .i64 t.need.m, .int .i64 t.need.p, .slice A1 t.want.length c1, .slice A2 t.tols.length c2]] w fun e w' => e = .returned (.bool (eventOk ⟨5, who, n, works, keep, t⟩)) ∧ Below w.heap.size w w' := by
  have HE : eventOk ⟨5, who, n, works, keep, t⟩ = ((lWithin n 1 99) && (who == 0) && !works && !keep && noTask t) := rfl
  have h1 := fun w => idE_any n w
  generalize lWithin n 1 99 = b1 at *
  have H1 := Lib.hid h1
  clear h1
  have hnt := fun w => sNoTask_any t A1 A2 c1 c2 w
  generalize noTask t = nt at *
  generalize ew : (who == 0) = bw at *
  generalize en : (n == 0) = bn at *
  have HE := Lib.hid HE
  have HN := Lib.hid hnt
  clear hnt
  go_enter Tryd.func60, Tryd.ntmps60
  go_wp2_with fail
  refine (HN.out _).mono ?_
  rintro e w1 ⟨rfl, hb1⟩
  have hX : Below w.heap.size w (w.alloc (.cells #[.int .i64 5, .int .i64 who, .int .i64 n, .bool works, .bool keep, .int .i64 t.id, .int .i64 t.prio, .int .i64 t.need.c, .int .i64 t.need.m, .int .i64 t.need.p, .slice A1 t.want.length c1, .slice A2 t.tols.length c2] 50)) := (by repeat' (first | exact Below.refl _ _ | refine Below.alloc ?_ ?_ _ | refine Below.setCell ?_ ?_ _ | refine Below.drew ?_ | (apply below_step; assumption) | (simp; done) | (simp; omega) | omega))
  have hC1 := below_of hX hb1
  have B1 := (BlockIs.new w 50 #[.int .i64 5, .int .i64 who, .int .i64 n, .bool works, .bool keep, .int .i64 t.id, .int .i64 t.prio, .int .i64 t.need.c, .int .i64 t.need.m, .int .i64 t.need.p, .slice A1 t.want.length c1, .slice A2 t.tols.length c2]).below hb1 (by simp)
  have g0 := B1.cell 0
  have g1 := B1.cell 1
  have g2 := B1.cell 2
  have g3 := B1.cell 3
  have g4 := B1.cell 4
  have g5 := B1.cell 5
  have g6 := B1.cell 6
  have g7 := B1.cell 7
  have g8 := B1.cell 8
  have g9 := B1.cell 9
  have g10 := B1.cell 10
  have g11 := B1.cell 11
  simp at g0 g1 g2 g3 g4 g5 g6 g7 g8 g9 g10 g11
  have hz1 := hC1.size
  clear B1 hb1 hX
  cases works <;> cases keep
  all_goals
    try clear e
    cases bw
    · go_wp2_with fail
      go_ret
      exact ⟨by rw [HE.out]; simp, (by repeat' (first | exact Below.refl _ _ | refine Below.alloc ?_ ?_ _ | refine Below.setCell ?_ ?_ _ | refine Below.drew ?_ | (apply below_step; assumption) | (simp; done) | (simp; omega) | omega))⟩
    go_wp2_with fail
    refine (H1.out _).mono ?_
    rintro e wz ⟨rfl, rfl⟩
    cases b1
    · go_wp2_with fail
      go_ret
      exact ⟨by rw [HE.out]; simp, (by repeat' (first | exact Below.refl _ _ | refine Below.alloc ?_ ?_ _ | refine Below.setCell ?_ ?_ _ | refine Below.drew ?_ | (apply below_step; assumption) | (simp; done) | (simp; omega) | omega))⟩
    go_wp2_with fail
    go_ret
    exact ⟨by rw [HE.out]; simp, (by repeat' (first | exact Below.refl _ _ | refine Below.alloc ?_ ?_ _ | refine Below.setCell ?_ ?_ _ | refine Below.drew ?_ | (apply below_step; assumption) | (simp; done) | (simp; omega) | omega))⟩
set_option maxHeartbeats 1600000 in
theorem sEventOk6_any (who n : Int) (works keep : Bool) (t : TV) (A1 A2 : Option Addr) (c1 c2 : Nat) (w : World) :
    Calls Tryd.prog 60 #[.agg #[.int .i64 6, .int .i64 who, .int .i64 n, .bool works, .bool keep, .int .i64 t.id, .int .i64 t.prio, .int .i64 t.need.c, .int .i64 t.need.m, .int .i64 t.need.p, .slice A1 t.want.length c1, .slice A2 t.tols.length c2]] w fun e w' => e = .returned (.bool (eventOk ⟨6, who, n, works, keep, t⟩)) ∧ Below w.heap.size w w' := by
  have HE : eventOk ⟨6, who, n, works, keep, t⟩ = ((lWithin who 1 4) && (n == 0) && !works && !keep && noTask t) := rfl
  have h1 := fun w => l06Who_any who w
  generalize lWithin who 1 4 = b1 at *
  have H1 := Lib.hid h1
  clear h1
  have hnt := fun w => sNoTask_any t A1 A2 c1 c2 w
  generalize noTask t = nt at *
  generalize ew : (who == 0) = bw at *
  generalize en : (n == 0) = bn at *
  have HE := Lib.hid HE
  have HN := Lib.hid hnt
  clear hnt
  go_enter Tryd.func60, Tryd.ntmps60
  go_wp2_with fail
  refine (HN.out _).mono ?_
  rintro e w1 ⟨rfl, hb1⟩
  have hX : Below w.heap.size w (w.alloc (.cells #[.int .i64 6, .int .i64 who, .int .i64 n, .bool works, .bool keep, .int .i64 t.id, .int .i64 t.prio, .int .i64 t.need.c, .int .i64 t.need.m, .int .i64 t.need.p, .slice A1 t.want.length c1, .slice A2 t.tols.length c2] 50)) := (by repeat' (first | exact Below.refl _ _ | refine Below.alloc ?_ ?_ _ | refine Below.setCell ?_ ?_ _ | refine Below.drew ?_ | (apply below_step; assumption) | (simp; done) | (simp; omega) | omega))
  have hC1 := below_of hX hb1
  have B1 := (BlockIs.new w 50 #[.int .i64 6, .int .i64 who, .int .i64 n, .bool works, .bool keep, .int .i64 t.id, .int .i64 t.prio, .int .i64 t.need.c, .int .i64 t.need.m, .int .i64 t.need.p, .slice A1 t.want.length c1, .slice A2 t.tols.length c2]).below hb1 (by simp)
  have g0 := B1.cell 0
  have g1 := B1.cell 1
  have g2 := B1.cell 2
  have g3 := B1.cell 3
  have g4 := B1.cell 4
  have g5 := B1.cell 5
  have g6 := B1.cell 6
  have g7 := B1.cell 7
  have g8 := B1.cell 8
  have g9 := B1.cell 9
  have g10 := B1.cell 10
  have g11 := B1.cell 11
  simp at g0 g1 g2 g3 g4 g5 g6 g7 g8 g9 g10 g11
  have hz1 := hC1.size
  clear B1 hb1 hX
  cases works <;> cases keep
  all_goals
    try clear e
    go_wp2_with fail
    refine (H1.out _).mono ?_
    rintro e wz ⟨rfl, rfl⟩
    cases b1
    · go_wp2_with fail
      go_ret
      exact ⟨by rw [HE.out]; simp, (by repeat' (first | exact Below.refl _ _ | refine Below.alloc ?_ ?_ _ | refine Below.setCell ?_ ?_ _ | refine Below.drew ?_ | (apply below_step; assumption) | (simp; done) | (simp; omega) | omega))⟩
    cases bn
    · go_wp2_with fail
      go_ret
      exact ⟨by rw [HE.out]; simp, (by repeat' (first | exact Below.refl _ _ | refine Below.alloc ?_ ?_ _ | refine Below.setCell ?_ ?_ _ | refine Below.drew ?_ | (apply below_step; assumption) | (simp; done) | (simp; omega) | omega))⟩
    go_wp2_with fail
    go_ret
    exact ⟨by rw [HE.out]; simp, (by repeat' (first | exact Below.refl _ _ | refine Below.alloc ?_ ?_ _ | refine Below.setCell ?_ ?_ _ | refine Below.drew ?_ | (apply below_step; assumption) | (simp; done) | (simp; omega) | omega))⟩
set_option maxHeartbeats 1600000 in
theorem sEventOk7_any (who n : Int) (works keep : Bool) (t : TV) (A1 A2 : Option Addr) (c1 c2 : Nat) (w : World) :
    Calls Tryd.prog 60 #[.agg #[.int .i64 7, .int .i64 who, .int .i64 n, .bool works, .bool keep, .int .i64 t.id, .int .i64 t.prio, .int .i64 t.need.c, .int .i64 t.need.m, .int .i64 t.need.p, .slice A1 t.want.length c1, .slice A2 t.tols.length c2]] w fun e w' => e = .returned (.bool (eventOk ⟨7, who, n, works, keep, t⟩)) ∧ Below w.heap.size w w' := by
  have HE : eventOk ⟨7, who, n, works, keep, t⟩ = ((lWithin n 0 39) && (who == 0) && noTask t) := rfl
  rw [within_lt n 0 39, show ((39 : Int) + 1) = 40 from rfl] at HE
  generalize ec1 : decide ((0 : Int) ≤ n) = c1b at *
  generalize ec2 : decide (n < 40) = c2b at *
  have hnt := fun w => sNoTask_any t A1 A2 c1 c2 w
  generalize noTask t = nt at *
  generalize ew : (who == 0) = bw at *
  generalize en : (n == 0) = bn at *
  have HE := Lib.hid HE
  have HN := Lib.hid hnt
  clear hnt
  go_enter Tryd.func60, Tryd.ntmps60
  go_wp2_with fail
  refine (HN.out _).mono ?_
  rintro e w1 ⟨rfl, hb1⟩
  have hX : Below w.heap.size w (w.alloc (.cells #[.int .i64 7, .int .i64 who, .int .i64 n, .bool works, .bool keep, .int .i64 t.id, .int .i64 t.prio, .int .i64 t.need.c, .int .i64 t.need.m, .int .i64 t.need.p, .slice A1 t.want.length c1, .slice A2 t.tols.length c2] 50)) := (by repeat' (first | exact Below.refl _ _ | refine Below.alloc ?_ ?_ _ | refine Below.setCell ?_ ?_ _ | refine Below.drew ?_ | (apply below_step; assumption) | (simp; done) | (simp; omega) | omega))
  have hC1 := below_of hX hb1
  have B1 := (BlockIs.new w 50 #[.int .i64 7, .int .i64 who, .int .i64 n, .bool works, .bool keep, .int .i64 t.id, .int .i64 t.prio, .int .i64 t.need.c, .int .i64 t.need.m, .int .i64 t.need.p, .slice A1 t.want.length c1, .slice A2 t.tols.length c2]).below hb1 (by simp)
  have g0 := B1.cell 0
  have g1 := B1.cell 1
  have g2 := B1.cell 2
  have g3 := B1.cell 3
  have g4 := B1.cell 4
  have g5 := B1.cell 5
  have g6 := B1.cell 6
  have g7 := B1.cell 7
  have g8 := B1.cell 8
  have g9 := B1.cell 9
  have g10 := B1.cell 10
  have g11 := B1.cell 11
  simp at g0 g1 g2 g3 g4 g5 g6 g7 g8 g9 g10 g11
  have hz1 := hC1.size
  clear B1 hb1 hX
  cases works <;> cases keep
  all_goals
    try clear e
    cases bw
    · go_wp2_with fail
      go_ret
      exact ⟨by rw [HE.out]; simp, (by repeat' (first | exact Below.refl _ _ | refine Below.alloc ?_ ?_ _ | refine Below.setCell ?_ ?_ _ | refine Below.drew ?_ | (apply below_step; assumption) | (simp; done) | (simp; omega) | omega))⟩
    cases c1b
    · go_wp2_with fail
      go_ret
      exact ⟨by rw [HE.out]; simp, (by repeat' (first | exact Below.refl _ _ | refine Below.alloc ?_ ?_ _ | refine Below.setCell ?_ ?_ _ | refine Below.drew ?_ | (apply below_step; assumption) | (simp; done) | (simp; omega) | omega))⟩
    cases c2b
    · go_wp2_with fail
      go_ret
      exact ⟨by rw [HE.out]; simp, (by repeat' (first | exact Below.refl _ _ | refine Below.alloc ?_ ?_ _ | refine Below.setCell ?_ ?_ _ | refine Below.drew ?_ | (apply below_step; assumption) | (simp; done) | (simp; omega) | omega))⟩
    go_wp2_with fail
    go_ret
    exact ⟨by rw [HE.out]; simp, (by repeat' (first | exact Below.refl _ _ | refine Below.alloc ?_ ?_ _ | refine Below.setCell ?_ ?_ _ | refine Below.drew ?_ | (apply below_step; assumption) | (simp; done) | (simp; omega) | omega))⟩
set_option maxHeartbeats 1600000 in
theorem sEventOk8_any (who n : Int) (works keep : Bool) (t : TV) (A1 A2 : Option Addr) (c1 c2 : Nat) (w : World) :
    Calls Tryd.prog 60 #[.agg #[.int .i64 8, .int .i64 who, .int .i64 n, .bool works, .bool keep, .int .i64 t.id, .int .i64 t.prio, .int .i64 t.need.c, .int .i64 t.need.m, .int .i64 t.need.p, .slice A1 t.want.length c1, .slice A2 t.tols.length c2]] w fun e w' => e = .returned (.bool (eventOk ⟨8, who, n, works, keep, t⟩)) ∧ Below w.heap.size w w' := by
  have HE : eventOk ⟨8, who, n, works, keep, t⟩ = ((lWithin n 0 39) && (who == 0) && !works && !keep && noTask t) := rfl
  rw [within_lt n 0 39, show ((39 : Int) + 1) = 40 from rfl] at HE
  generalize ec1 : decide ((0 : Int) ≤ n) = c1b at *
  generalize ec2 : decide (n < 40) = c2b at *
  have hnt := fun w => sNoTask_any t A1 A2 c1 c2 w
  generalize noTask t = nt at *
  generalize ew : (who == 0) = bw at *
  generalize en : (n == 0) = bn at *
  have HE := Lib.hid HE
  have HN := Lib.hid hnt
  clear hnt
  go_enter Tryd.func60, Tryd.ntmps60
  go_wp2_with fail
  refine (HN.out _).mono ?_
  rintro e w1 ⟨rfl, hb1⟩
  have hX : Below w.heap.size w (w.alloc (.cells #[.int .i64 8, .int .i64 who, .int .i64 n, .bool works, .bool keep, .int .i64 t.id, .int .i64 t.prio, .int .i64 t.need.c, .int .i64 t.need.m, .int .i64 t.need.p, .slice A1 t.want.length c1, .slice A2 t.tols.length c2] 50)) := (by repeat' (first | exact Below.refl _ _ | refine Below.alloc ?_ ?_ _ | refine Below.setCell ?_ ?_ _ | refine Below.drew ?_ | (apply below_step; assumption) | (simp; done) | (simp; omega) | omega))
  have hC1 := below_of hX hb1
  have B1 := (BlockIs.new w 50 #[.int .i64 8, .int .i64 who, .int .i64 n, .bool works, .bool keep, .int .i64 t.id, .int .i64 t.prio, .int .i64 t.need.c, .int .i64 t.need.m, .int .i64 t.need.p, .slice A1 t.want.length c1, .slice A2 t.tols.length c2]).below hb1 (by simp)
  have g0 := B1.cell 0
  have g1 := B1.cell 1
  have g2 := B1.cell 2
  have g3 := B1.cell 3
  have g4 := B1.cell 4
  have g5 := B1.cell 5
  have g6 := B1.cell 6
  have g7 := B1.cell 7
  have g8 := B1.cell 8
  have g9 := B1.cell 9
  have g10 := B1.cell 10
  have g11 := B1.cell 11
  simp at g0 g1 g2 g3 g4 g5 g6 g7 g8 g9 g10 g11
  have hz1 := hC1.size
  clear B1 hb1 hX
  cases works <;> cases keep
  all_goals
    try clear e
    cases bw
    · go_wp2_with fail
      go_ret
      exact ⟨by rw [HE.out]; simp, (by repeat' (first | exact Below.refl _ _ | refine Below.alloc ?_ ?_ _ | refine Below.setCell ?_ ?_ _ | refine Below.drew ?_ | (apply below_step; assumption) | (simp; done) | (simp; omega) | omega))⟩
    cases c1b
    · go_wp2_with fail
      go_ret
      exact ⟨by rw [HE.out]; simp, (by repeat' (first | exact Below.refl _ _ | refine Below.alloc ?_ ?_ _ | refine Below.setCell ?_ ?_ _ | refine Below.drew ?_ | (apply below_step; assumption) | (simp; done) | (simp; omega) | omega))⟩
    cases c2b
    · go_wp2_with fail
      go_ret
      exact ⟨by rw [HE.out]; simp, (by repeat' (first | exact Below.refl _ _ | refine Below.alloc ?_ ?_ _ | refine Below.setCell ?_ ?_ _ | refine Below.drew ?_ | (apply below_step; assumption) | (simp; done) | (simp; omega) | omega))⟩
    go_wp2_with fail
    go_ret
    exact ⟨by rw [HE.out]; simp, (by repeat' (first | exact Below.refl _ _ | refine Below.alloc ?_ ?_ _ | refine Below.setCell ?_ ?_ _ | refine Below.drew ?_ | (apply below_step; assumption) | (simp; done) | (simp; omega) | omega))⟩
set_option maxHeartbeats 1600000 in
theorem sEventOk9_any (who n : Int) (works keep : Bool) (t : TV) (A1 A2 : Option Addr) (c1 c2 : Nat) (w : World) :
    Calls Tryd.prog 60 #[.agg #[.int .i64 9, .int .i64 who, .int .i64 n, .bool works, .bool keep, .int .i64 t.id, .int .i64 t.prio, .int .i64 t.need.c, .int .i64 t.need.m, .int .i64 t.need.p, .slice A1 t.want.length c1, .slice A2 t.tols.length c2]] w fun e w' => e = .returned (.bool (eventOk ⟨9, who, n, works, keep, t⟩)) ∧ Below w.heap.size w w' := by
  have HE : eventOk ⟨9, who, n, works, keep, t⟩ = ((lWithin n 1 99) && (who == 0) && !works && !keep && noTask t) := rfl
  have h1 := fun w => idE_any n w
  generalize lWithin n 1 99 = b1 at *
  have H1 := Lib.hid h1
  clear h1
  have hnt := fun w => sNoTask_any t A1 A2 c1 c2 w
  generalize noTask t = nt at *
  generalize ew : (who == 0) = bw at *
  generalize en : (n == 0) = bn at *
  have HE := Lib.hid HE
  have HN := Lib.hid hnt
  clear hnt
  go_enter Tryd.func60, Tryd.ntmps60
  go_wp2_with fail
  refine (HN.out _).mono ?_
  rintro e w1 ⟨rfl, hb1⟩
  have hX : Below w.heap.size w (w.alloc (.cells #[.int .i64 9, .int .i64 who, .int .i64 n, .bool works, .bool keep, .int .i64 t.id, .int .i64 t.prio, .int .i64 t.need.c, .int .i64 t.need.m, .int .i64 t.need.p, .slice A1 t.want.length c1, .slice A2 t.tols.length c2] 50)) := (by repeat' (first | exact Below.refl _ _ | refine Below.alloc ?_ ?_ _ | refine Below.setCell ?_ ?_ _ | refine Below.drew ?_ | (apply below_step; assumption) | (simp; done) | (simp; omega) | omega))
  have hC1 := below_of hX hb1
  have B1 := (BlockIs.new w 50 #[.int .i64 9, .int .i64 who, .int .i64 n, .bool works, .bool keep, .int .i64 t.id, .int .i64 t.prio, .int .i64 t.need.c, .int .i64 t.need.m, .int .i64 t.need.p, .slice A1 t.want.length c1, .slice A2 t.tols.length c2]).below hb1 (by simp)
  have g0 := B1.cell 0
  have g1 := B1.cell 1
  have g2 := B1.cell 2
  have g3 := B1.cell 3
  have g4 := B1.cell 4
  have g5 := B1.cell 5
  have g6 := B1.cell 6
  have g7 := B1.cell 7
  have g8 := B1.cell 8
  have g9 := B1.cell 9
  have g10 := B1.cell 10
  have g11 := B1.cell 11
  simp at g0 g1 g2 g3 g4 g5 g6 g7 g8 g9 g10 g11
  have hz1 := hC1.size
  clear B1 hb1 hX
  cases works <;> cases keep
  all_goals
    try clear e
    cases bw
    · go_wp2_with fail
      go_ret
      exact ⟨by rw [HE.out]; simp, (by repeat' (first | exact Below.refl _ _ | refine Below.alloc ?_ ?_ _ | refine Below.setCell ?_ ?_ _ | refine Below.drew ?_ | (apply below_step; assumption) | (simp; done) | (simp; omega) | omega))⟩
    go_wp2_with fail
    refine (H1.out _).mono ?_
    rintro e wz ⟨rfl, rfl⟩
    cases b1
    · go_wp2_with fail
      go_ret
      exact ⟨by rw [HE.out]; simp, (by repeat' (first | exact Below.refl _ _ | refine Below.alloc ?_ ?_ _ | refine Below.setCell ?_ ?_ _ | refine Below.drew ?_ | (apply below_step; assumption) | (simp; done) | (simp; omega) | omega))⟩
    go_wp2_with fail
    go_ret
    exact ⟨by rw [HE.out]; simp, (by repeat' (first | exact Below.refl _ _ | refine Below.alloc ?_ ?_ _ | refine Below.setCell ?_ ?_ _ | refine Below.drew ?_ | (apply below_step; assumption) | (simp; done) | (simp; omega) | omega))⟩
set_option maxHeartbeats 1600000 in
theorem sEventOkX_any (k : Int) (who n : Int) (works keep : Bool) (t : TV) (A1 A2 : Option Addr) (c1 c2 : Nat) (w : World) (h : (k == 1) = false ∧ (k == 2) = false ∧ (k == 3) = false ∧ (k == 4) = false ∧ (k == 5) = false ∧ (k == 6) = false ∧ (k == 7) = false ∧ (k == 8) = false ∧ (k == 9) = false) :
    Calls Tryd.prog 60 #[.agg #[.int .i64 k, .int .i64 who, .int .i64 n, .bool works, .bool keep, .int .i64 t.id, .int .i64 t.prio, .int .i64 t.need.c, .int .i64 t.need.m, .int .i64 t.need.p, .slice A1 t.want.length c1, .slice A2 t.tols.length c2]] w fun e w' => e = .returned (.bool (eventOk ⟨k, who, n, works, keep, t⟩)) ∧ Below w.heap.size w w' := by
  have HE := eventOk_other (who := who) (n := n) (works := works) (keep := keep) (t := t) h
  obtain ⟨k1, k2, k3, k4, k5, k6, k7, k8, k9⟩ := h
  have hnt := fun w => sNoTask_any t A1 A2 c1 c2 w
  generalize noTask t = nt at *
  generalize ew : (who == 0) = bw at *
  generalize en : (n == 0) = bn at *
  have HE := Lib.hid HE
  have HN := Lib.hid hnt
  clear hnt
  go_enter Tryd.func60, Tryd.ntmps60
  go_wp2_with fail
  refine (HN.out _).mono ?_
  rintro e w1 ⟨rfl, hb1⟩
  have hX : Below w.heap.size w (w.alloc (.cells #[.int .i64 k, .int .i64 who, .int .i64 n, .bool works, .bool keep, .int .i64 t.id, .int .i64 t.prio, .int .i64 t.need.c, .int .i64 t.need.m, .int .i64 t.need.p, .slice A1 t.want.length c1, .slice A2 t.tols.length c2] 50)) := (by repeat' (first | exact Below.refl _ _ | refine Below.alloc ?_ ?_ _ | refine Below.setCell ?_ ?_ _ | refine Below.drew ?_ | (apply below_step; assumption) | (simp; done) | (simp; omega) | omega))
  have hC1 := below_of hX hb1
  have B1 := (BlockIs.new w 50 #[.int .i64 k, .int .i64 who, .int .i64 n, .bool works, .bool keep, .int .i64 t.id, .int .i64 t.prio, .int .i64 t.need.c, .int .i64 t.need.m, .int .i64 t.need.p, .slice A1 t.want.length c1, .slice A2 t.tols.length c2]).below hb1 (by simp)
  have g0 := B1.cell 0
  have g1 := B1.cell 1
  have g2 := B1.cell 2
  have g3 := B1.cell 3
  have g4 := B1.cell 4
  have g5 := B1.cell 5
  have g6 := B1.cell 6
  have g7 := B1.cell 7
  have g8 := B1.cell 8
  have g9 := B1.cell 9
  have g10 := B1.cell 10
  have g11 := B1.cell 11
  simp at g0 g1 g2 g3 g4 g5 g6 g7 g8 g9 g10 g11
  have hz1 := hC1.size
  clear B1 hb1 hX
  cases works <;> cases keep
  all_goals
    go_wp2_with fail
    go_ret
    exact ⟨by rw [HE.out]; simp, (by repeat' (first | exact Below.refl _ _ | refine Below.alloc ?_ ?_ _ | refine Below.setCell ?_ ?_ _ | refine Below.drew ?_ | (apply below_step; assumption) | (simp; done) | (simp; omega) | omega))⟩
theorem sEventOk_any (e : EV) (v1 v2 : Value) (w : World) (h1 : LabSl w v1 e.task.want) (h2 : IntSl w v2 e.task.tols) (l1 : e.task.want.length ≤ 1048576) (l2 : e.task.tols.length ≤ 1048576) :
    Calls Tryd.prog 60 #[.agg #[.int .i64 e.kind, .int .i64 e.who, .int .i64 e.n, .bool e.works, .bool e.keep, .int .i64 e.task.id, .int .i64 e.task.prio, .int .i64 e.task.need.c, .int .i64 e.task.need.m, .int .i64 e.task.need.p, v1, v2]] w fun r w' => r = .returned (.bool (eventOk e)) ∧ Below w.heap.size w w' := by
  obtain ⟨A1, c1, rfl, _⟩ := h1.form
  obtain ⟨A2, c2, rfl, _⟩ := h2.form
  obtain ⟨k, who, n, works, keep, t⟩ := e
  rcases kind_cases k with rfl | rfl | rfl | rfl | rfl | rfl | rfl | rfl | rfl | h
  · exact sEventOk1_any who n works keep t A1 A2 c1 c2 w
  · exact sEventOk2_any who n works keep t A1 A2 c1 c2 w
  · exact sEventOk3_any who n works keep t A1 A2 c1 c2 w
  · exact sEventOk4_any who n works keep t A1 A2 c1 c2 w h1 h2 l1 l2
  · exact sEventOk5_any who n works keep t A1 A2 c1 c2 w
  · exact sEventOk6_any who n works keep t A1 A2 c1 c2 w
  · exact sEventOk7_any who n works keep t A1 A2 c1 c2 w
  · exact sEventOk8_any who n works keep t A1 A2 c1 c2 w
  · exact sEventOk9_any who n works keep t A1 A2 c1 c2 w
  · exact sEventOkX_any k who n works keep t A1 A2 c1 c2 w h
end Go.Proofs.YtcngiinaneefjaaDoor
