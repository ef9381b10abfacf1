/- The contract of marks.hasAll. -/
import Derived.Test.YtocfgejceoenmaaGreatDoorLabB
namespace Go.Proofs.YtocfgejceoenmaaGreatDoor
open Go.RowKit

/-- Ten cells stored at once into a block that is known whole. -/
theorem put10 {w : World} {g : Nat} {t : TypeId} {m : Nat → Int} (m' : Nat → Int) (h : BlockIs w g t #[.int .i64 (m 0), .int .i64 (m 1), .int .i64 (m 2), .int .i64 (m 3), .int .i64 (m 4), .int .i64 (m 5), .int .i64 (m 6), .int .i64 (m 7), .int .i64 (m 8), .int .i64 (m 9)]) : BlockIs ((((((((((w.setCell ⟨g, 0, none⟩ (.int .i64 (m' 0))).setCell ⟨g, 1, none⟩ (.int .i64 (m' 1))).setCell ⟨g, 2, none⟩ (.int .i64 (m' 2))).setCell ⟨g, 3, none⟩ (.int .i64 (m' 3))).setCell ⟨g, 4, none⟩ (.int .i64 (m' 4))).setCell ⟨g, 5, none⟩ (.int .i64 (m' 5))).setCell ⟨g, 6, none⟩ (.int .i64 (m' 6))).setCell ⟨g, 7, none⟩ (.int .i64 (m' 7))).setCell ⟨g, 8, none⟩ (.int .i64 (m' 8))).setCell ⟨g, 9, none⟩ (.int .i64 (m' 9))) g t #[.int .i64 (m' 0), .int .i64 (m' 1), .int .i64 (m' 2), .int .i64 (m' 3), .int .i64 (m' 4), .int .i64 (m' 5), .int .i64 (m' 6), .int .i64 (m' 7), .int .i64 (m' 8), .int .i64 (m' 9)] := by
  have := (((((((((h.put 0 (.int .i64 (m' 0))).put 1 (.int .i64 (m' 1))).put 2 (.int .i64 (m' 2))).put 3 (.int .i64 (m' 3))).put 4 (.int .i64 (m' 4))).put 5 (.int .i64 (m' 5))).put 6 (.int .i64 (m' 6))).put 7 (.int .i64 (m' 7))).put 8 (.int .i64 (m' 8))).put 9 (.int .i64 (m' 9))
  simpa using this
theorem below10 {B : Nat} {a w : World} {g : Nat} (m' : Nat → Int) (h : Below B a w) (hg : B ≤ g) : Below B a ((((((((((w.setCell ⟨g, 0, none⟩ (.int .i64 (m' 0))).setCell ⟨g, 1, none⟩ (.int .i64 (m' 1))).setCell ⟨g, 2, none⟩ (.int .i64 (m' 2))).setCell ⟨g, 3, none⟩ (.int .i64 (m' 3))).setCell ⟨g, 4, none⟩ (.int .i64 (m' 4))).setCell ⟨g, 5, none⟩ (.int .i64 (m' 5))).setCell ⟨g, 6, none⟩ (.int .i64 (m' 6))).setCell ⟨g, 7, none⟩ (.int .i64 (m' 7))).setCell ⟨g, 8, none⟩ (.int .i64 (m' 8))).setCell ⟨g, 9, none⟩ (.int .i64 (m' 9))) :=
  (((((((((h.setCell hg _).setCell hg _).setCell hg _).setCell hg _).setCell hg _).setCell hg _).setCell hg _).setCell hg _).setCell hg _).setCell hg _
theorem far10 {w : World} {b g : Nat} {t : TypeId} {cs : Array Value} (m' : Nat → Int) (h : BlockIs w b t cs) (hne : b ≠ g) : BlockIs ((((((((((w.setCell ⟨g, 0, none⟩ (.int .i64 (m' 0))).setCell ⟨g, 1, none⟩ (.int .i64 (m' 1))).setCell ⟨g, 2, none⟩ (.int .i64 (m' 2))).setCell ⟨g, 3, none⟩ (.int .i64 (m' 3))).setCell ⟨g, 4, none⟩ (.int .i64 (m' 4))).setCell ⟨g, 5, none⟩ (.int .i64 (m' 5))).setCell ⟨g, 6, none⟩ (.int .i64 (m' 6))).setCell ⟨g, 7, none⟩ (.int .i64 (m' 7))).setCell ⟨g, 8, none⟩ (.int .i64 (m' 8))).setCell ⟨g, 9, none⟩ (.int .i64 (m' 9))) b t cs :=
  (((((((((h.far hne _).far hne _).far hne _).far hne _).far hne _).far hne _).far hne _).far hne _).far hne _).far hne _
theorem size10 (w : World) (g : Nat) (m' : Nat → Int) : ((((((((((w.setCell ⟨g, 0, none⟩ (.int .i64 (m' 0))).setCell ⟨g, 1, none⟩ (.int .i64 (m' 1))).setCell ⟨g, 2, none⟩ (.int .i64 (m' 2))).setCell ⟨g, 3, none⟩ (.int .i64 (m' 3))).setCell ⟨g, 4, none⟩ (.int .i64 (m' 4))).setCell ⟨g, 5, none⟩ (.int .i64 (m' 5))).setCell ⟨g, 6, none⟩ (.int .i64 (m' 6))).setCell ⟨g, 7, none⟩ (.int .i64 (m' 7))).setCell ⟨g, 8, none⟩ (.int .i64 (m' 8))).setCell ⟨g, 9, none⟩ (.int .i64 (m' 9))).heap.size = w.heap.size := by simp [World.setCell]

/-- The first k places of p laid over m. -/
def laidM (m p : Nat → Int) (k : Nat) : Nat → Int := fun i => if i < k ∧ 0 < p i then p i else m i
theorem laid_put (m p : Nat → Int) (k : Nat) (hk : k < 10) (h : 0 < p k) : (#[.int .i64 (laidM m p k 0), .int .i64 (laidM m p k 1), .int .i64 (laidM m p k 2), .int .i64 (laidM m p k 3), .int .i64 (laidM m p k 4), .int .i64 (laidM m p k 5), .int .i64 (laidM m p k 6), .int .i64 (laidM m p k 7), .int .i64 (laidM m p k 8), .int .i64 (laidM m p k 9)] : Array Value).setIfInBounds k (.int .i64 (p k)) = #[.int .i64 (laidM m p (k + 1) 0), .int .i64 (laidM m p (k + 1) 1), .int .i64 (laidM m p (k + 1) 2), .int .i64 (laidM m p (k + 1) 3), .int .i64 (laidM m p (k + 1) 4), .int .i64 (laidM m p (k + 1) 5), .int .i64 (laidM m p (k + 1) 6), .int .i64 (laidM m p (k + 1) 7), .int .i64 (laidM m p (k + 1) 8), .int .i64 (laidM m p (k + 1) 9)] := by
  match k, hk with
  | 0, _ => simp [laidM, h]
  | 1, _ => simp [laidM, h]
  | 2, _ => simp [laidM, h]
  | 3, _ => simp [laidM, h]
  | 4, _ => simp [laidM, h]
  | 5, _ => simp [laidM, h]
  | 6, _ => simp [laidM, h]
  | 7, _ => simp [laidM, h]
  | 8, _ => simp [laidM, h]
  | 9, _ => simp [laidM, h]
theorem laid_skip (m p : Nat → Int) (k : Nat) (h : ¬ 0 < p k) : laidM m p (k + 1) = laidM m p k := by
  funext i
  unfold laidM
  by_cases e : i = k
  · subst e; simp [h]
  · by_cases hi : i < k
    · simp [hi, Nat.lt_succ_of_lt hi]
    · have : ¬ i < k + 1 := by omega
      simp [hi, this]
def hasAllM (m p : Nat → Int) : Bool := eqMarks (laidM m p 10) m

set_option maxHeartbeats 1600000 in
theorem hasAll_any (m p : Nat → Int) (w : World) :
    Calls Tryz.prog 196 #[.agg #[.int .i64 (m 0), .int .i64 (m 1), .int .i64 (m 2), .int .i64 (m 3), .int .i64 (m 4), .int .i64 (m 5), .int .i64 (m 6), .int .i64 (m 7), .int .i64 (m 8), .int .i64 (m 9)], .agg #[.int .i64 (p 0), .int .i64 (p 1), .int .i64 (p 2), .int .i64 (p 3), .int .i64 (p 4), .int .i64 (p 5), .int .i64 (p 6), .int .i64 (p 7), .int .i64 (p 8), .int .i64 (p 9)]] w fun e w' => e = .returned (.bool (hasAllM m p)) ∧ Below w.heap.size w w' := by
  have hix := Tryz.mix p
  have HIX := Lib.hid hix
  clear hix
  go_enter Tryz.func196, Tryz.ntmps196
  go_wp2_with fail
  go_loopw [10] (fun s10 wr => ∃ k : Nat, k ≤ 10 ∧ s10 = .int .i64 k ∧ Below w.heap.size w wr ∧ BlockIs wr w.heap.size 200 #[.int .i64 (m 0), .int .i64 (m 1), .int .i64 (m 2), .int .i64 (m 3), .int .i64 (m 4), .int .i64 (m 5), .int .i64 (m 6), .int .i64 (m 7), .int .i64 (m 8), .int .i64 (m 9)] ∧ BlockIs wr (w.heap.size + 2) 200 #[.int .i64 (laidM m p k 0), .int .i64 (laidM m p k 1), .int .i64 (laidM m p k 2), .int .i64 (laidM m p k 3), .int .i64 (laidM m p k 4), .int .i64 (laidM m p k 5), .int .i64 (laidM m p k 6), .int .i64 (laidM m p k 7), .int .i64 (laidM m p k 8), .int .i64 (laidM m p k 9)]) (fun s10 _ => (10 - intOf s10).toNat)
  case atStart =>
    refine ⟨0, by omega, rfl, (by repeat' (first | exact Below.refl _ _ | refine Below.alloc ?_ ?_ _ | refine Below.setCell ?_ ?_ _ | refine Below.drew ?_ | (apply below_step; assumption) | (simp; done) | (simp; omega) | omega)), ?_, ?_⟩
    · exact ((BlockIs.new w _ _).alloc _).alloc _
    · have h0 : laidM m p 0 = m := by funext i; simp [laidM]
      rw [h0]
      exact BlockIs.new' (by simp)
  case round =>
    obtain ⟨k, hk, rfl, hB, hm, hl⟩ := hrel
    have HM := Lib.hid hm
    have HL := Lib.hid hl
    have hzr := hB.size
    have hgl := hl.lt
    by_cases hlt : k < 10
    · have hx := fun w => HIX.out k hlt w
      have c5 := (hl.cell k).trans (mcell _ k hlt)
      have f5 := hl.frozen k
      have hlti : (k : Int) < 10 := by omega
      clear hm hl
      by_cases hp : 0 < p k
      · have HP := Lib.hid hp
        go_wp2_with fail
        go_roundw
        case rel =>
          refine ⟨k + 1, by omega, by go_num, (by repeat' (first | exact Below.refl _ _ | refine Below.alloc ?_ ?_ _ | refine Below.setCell ?_ ?_ _ | refine Below.drew ?_ | (apply below_step; assumption) | (simp; done) | (simp; omega) | omega)), HM.out.far (by simp; omega) _, ?_⟩
          rw [← laid_put m p k hlt HP.out]
          exact HL.out.put k _
        case measure => simp [intOf]; omega
      · have HP := Lib.hid hp
        have hp' : p k ≤ 0 := by omega
        clear hp
        go_wp2_with fail
        go_roundw
        case rel =>
          refine ⟨k + 1, by omega, by go_num, hB, HM.out, ?_⟩
          rw [laid_skip m p k HP.out]
          exact HL.out
        case measure => simp [intOf]; omega
    · obtain rfl : k = 10 := by omega
      have heq := eql_marks (laidM m p 10) m
      have hgu := guard_marks
      have m0 := hm.cell 0
      have m1 := hm.cell 1
      have m2 := hm.cell 2
      have m3 := hm.cell 3
      have m4 := hm.cell 4
      have m5 := hm.cell 5
      have m6 := hm.cell 6
      have m7 := hm.cell 7
      have m8 := hm.cell 8
      have m9 := hm.cell 9
      have l0 := hl.cell 0
      have l1 := hl.cell 1
      have l2 := hl.cell 2
      have l3 := hl.cell 3
      have l4 := hl.cell 4
      have l5 := hl.cell 5
      have l6 := hl.cell 6
      have l7 := hl.cell 7
      have l8 := hl.cell 8
      have l9 := hl.cell 9
      simp at m0 m1 m2 m3 m4 m5 m6 m7 m8 m9 l0 l1 l2 l3 l4 l5 l6 l7 l8 l9
      clear hm hl HM HL HIX
      go_wp2_with fail
      go_ret
      exact ⟨rfl, hB⟩
end Go.Proofs.YtocfgejceoenmaaGreatDoor
