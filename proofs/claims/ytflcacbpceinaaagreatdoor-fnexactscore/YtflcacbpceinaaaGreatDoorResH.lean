/- The contracts of ResShare and of its model. -/
import Derived.Test.YtflcacbpceinaaaGreatDoorMgPure
import Derived.Test.YtflcacbpceinaaaGreatDoorMgRes
import Derived.Test.YtflcacbpceinaaaGreatDoorResS
import Derived.Deep.RegionHeld3
import Derived.Deep.QuietTactic
import Derived.BigQuiet
import Derived.WalkSmall
namespace Go.Proofs.YtflcacbpceinaaaGreatDoor
open Go.RowKit

/-- The variable errNoCap holds a pointer to an errorString. -/
def CapAt (a : Addr) (w : World) : Prop := w.cell? ⟨0, 0, none⟩ = some (.iface 235 (.pointer (some a)))
theorem CapAt.lt {a : Addr} {w : World} (h : CapAt a w) : 0 < w.heap.size := World.block_lt_of_cell? _ _ h
theorem CapAt.below {a : Addr} {w w' : World} {B : Nat} (h : CapAt a w) (hb : Below B w w') (hB : w.heap.size ≤ B) : CapAt a w' := by
  have hl := h.lt
  unfold CapAt at *
  rw [hb.cell (p := ⟨0, 0, none⟩) (Nat.lt_of_lt_of_le hl hB)]; exact h
theorem CapAt.alloc {a : Addr} {w : World} (h : CapAt a w) (o : Obj) : CapAt a (w.alloc o) := h.below ((Below.refl _ _).alloc (Nat.le_refl _) o) (Nat.le_refl _)

theorem ret_int {a b : Int} (h : a = b) : Ending.returned (.int .i64 a) = .returned (.int .i64 b) := by rw [h]
theorem l01Share_any (u c : Int) (w : World) (u0 : 0 ≤ u) (u1 : u ≤ 1000000) (c0 : 0 ≤ c) (c1 : c ≤ 1000000) :
    Calls Tryz.prog 157 #[.int .i64 u, .int .i64 c] w fun e w' => e = .returned (.int .i64 (shr u c)) ∧ w = w' := by
  by_cases h : 0 < c
  · have H := Lib.hid (shr_pos (u := u) h)
    go_enter Tryz.func157, Tryz.ntmps157
    go_wp2
    go_ret
    exact ⟨by rw [H.out]; rfl, rfl⟩
  · by_cases hu : 0 < u
    · have H := Lib.hid (shr_over h hu)
      go_enter Tryz.func157, Tryz.ntmps157
      go_wp2
      go_ret
      exact ⟨by rw [H.out]; rfl, rfl⟩
    · have H := Lib.hid (shr_none h hu)
      go_enter Tryz.func157, Tryz.ntmps157
      go_wp2
      go_ret
      exact ⟨by rw [H.out]; rfl, rfl⟩

theorem l01Share_q (u c : Int) (w : World) (u0 : 0 ≤ u) (u1 : u ≤ 1000000) (c0 : 0 ≤ c) (c1 : c ≤ 1000000) :
    Calls Tryz.prog 157 #[.int .i64 u, .int .i64 c] w fun e w' => e = .returned (.int .i64 (shr u c)) ∧ w' = w :=
  (l01Share_any u c w u0 u1 c0 c1).mono fun _ _ h => ⟨h.1, h.2.symm⟩

theorem fieldShare_pos (s : ByteArray) (u c : Int) (w : World) (u0 : 0 ≤ u) (u1 : u ≤ 1000000) (c0 : 0 < c) (c1 : c ≤ 1000000) :
    Calls Tryz.prog 161 #[.agg #[.string s, .int .i64 u], .int .i64 c] w fun e w' => e = .returned (.tuple #[.int .i64 (shr u c), .nilIface]) ∧ Below w.heap.size w w' := by
  have H := Lib.hid (shr_pos (u := u) c0)
  go_enter Tryz.func161, Tryz.ntmps161
  go_wp2
  go_ret2
  exact ⟨by rw [H.out]; rfl, (by repeat' (first | exact Below.refl _ _ | refine Below.alloc ?_ ?_ _ | refine Below.setCell ?_ ?_ _ | refine Below.drew ?_ | (apply below_step; assumption) | (simp; done) | (simp; omega) | omega))⟩
theorem fieldShare_none (s : ByteArray) (u c : Int) (w : World) (hc : ¬ 0 < c) (hu : ¬ 0 < u) :
    Calls Tryz.prog 161 #[.agg #[.string s, .int .i64 u], .int .i64 c] w fun e w' => e = .returned (.tuple #[.int .i64 0, .nilIface]) ∧ Below w.heap.size w w' := by
  go_enter Tryz.func161, Tryz.ntmps161
  go_wp2
  go_ret2
  exact ⟨rfl, (by repeat' (first | exact Below.refl _ _ | refine Below.alloc ?_ ?_ _ | refine Below.setCell ?_ ?_ _ | refine Below.drew ?_ | (apply below_step; assumption) | (simp; done) | (simp; omega) | omega))⟩
theorem fieldShare_over (s : ByteArray) (u c : Int) (w : World) (y : Addr) (hy : CapAt y w) (hc : ¬ 0 < c) (hu : 0 < u) :
    Calls Tryz.prog 161 #[.agg #[.string s, .int .i64 u], .int .i64 c] w fun e w' => e = .returned (.tuple #[.int .i64 0, .iface 204 (.agg #[.string s, .iface 235 (.pointer (some y))])]) ∧ Below w.heap.size w w' := by
  have hl := hy.lt
  unfold CapAt at hy
  go_enter Tryz.func161, Tryz.ntmps161
  go_wp2
  go_quiet (fail)
  go_wp2
  go_ret2
  exact ⟨rfl, (by repeat' (first | exact Below.refl _ _ | refine Below.alloc ?_ ?_ _ | refine Below.setCell ?_ ?_ _ | refine Below.drew ?_ | refine below_drewN ?_ _ | (apply below_step; assumption) | (simp; done) | (simp; omega) | omega))⟩

theorem sResShare_out1 (u c : RV) (w : World) (hu : u.ok = false) :
    Calls Tryz.prog 112 #[.agg #[.int .i64 u.c, .int .i64 u.m, .int .i64 u.p], .agg #[.int .i64 c.c, .int .i64 c.m, .int .i64 c.p]] w fun e w' => e = .returned (.int .i64 (-1)) ∧ Below w.heap.size w w' := by
  have HU := Lib.hid hu
  clear hu
  go_enter Tryz.func112, Tryz.ntmps112
  go_wp2_with fail
  refine (sResOk_at u false HU.out _).mono ?_
  rintro e w1 ⟨rfl, hb1⟩
  have hz1 := hb1.size
  simp at hz1
  go_wp2_with fail
  go_ret
  exact ⟨rfl, (by repeat' (first | exact Below.refl _ _ | refine Below.alloc ?_ ?_ _ | refine Below.setCell ?_ ?_ _ | refine Below.drew ?_ | (apply below_step; assumption) | (simp; done) | (simp; omega) | omega))⟩
theorem sResShare_out2 (u c : RV) (w : World) (hu : u.ok = true) (hc : c.ok = false) :
    Calls Tryz.prog 112 #[.agg #[.int .i64 u.c, .int .i64 u.m, .int .i64 u.p], .agg #[.int .i64 c.c, .int .i64 c.m, .int .i64 c.p]] w fun e w' => e = .returned (.int .i64 (-1)) ∧ Below w.heap.size w w' := by
  have HU := Lib.hid hu
  have HC := Lib.hid hc
  clear hu hc
  go_enter Tryz.func112, Tryz.ntmps112
  go_wp2_with fail
  refine (sResOk_at u true HU.out _).mono ?_
  rintro e w1 ⟨rfl, hb1⟩
  have hz1 := hb1.size
  simp at hz1
  obtain ⟨hc1, hf1⟩ := bcell hb1
  go_wp2_with fail
  refine (sResOk_at c false HC.out _).mono ?_
  rintro e w2 ⟨rfl, hb2⟩
  have hz2 := hb2.size
  go_wp2_with fail
  go_ret
  exact ⟨rfl, (by repeat' (first | exact Below.refl _ _ | refine Below.alloc ?_ ?_ _ | refine Below.setCell ?_ ?_ _ | refine Below.drew ?_ | (apply below_step; assumption) | (simp; done) | (simp; omega) | omega))⟩
theorem sResShare_in (u c : RV) (w : World) (hu : u.ok = true) (hc : c.ok = true) :
    Calls Tryz.prog 112 #[.agg #[.int .i64 u.c, .int .i64 u.m, .int .i64 u.p], .agg #[.int .i64 c.c, .int .i64 c.m, .int .i64 c.p]] w fun e w' => e = .returned (.int .i64 (shareTo u c 3)) ∧ Below w.heap.size w w' := by
  have HF := Lib.hid (shareTo_three (c := c) hu)
  obtain ⟨a1, a2, a3, a4, a5, a6⟩ := RV.ok_iff.1 hu
  obtain ⟨b1, b2, b3, b4, b5, b6⟩ := RV.ok_iff.1 hc
  have HU := Lib.hid hu
  have HC := Lib.hid hc
  clear hu hc
  go_enter Tryz.func112, Tryz.ntmps112
  go_wp2_with fail
  refine (sResOk_at u true HU.out _).mono ?_
  rintro e w1 ⟨rfl, hb1⟩
  have hz1 := hb1.size
  simp at hz1
  obtain ⟨hc1, hf1⟩ := bcell hb1
  go_wp2_with fail
  refine (sResOk_at c true HC.out _).mono ?_
  rintro e w2 ⟨rfl, hb2⟩
  have hz2 := hb2.size
  obtain ⟨hc2, hf2⟩ := bcell hb2
  have hs0 : w.heap.size < w1.heap.size := by omega
  have hs1 : w.heap.size + 1 < w1.heap.size := by omega
  go_wp2_with fail
  go_quiet ((go_at_call 157; exact Calls.quiet_of_same (l01Share_q _ _ _ (by assumption) (by assumption) (by assumption) (by assumption))))
  go_wp2_with fail
  all_goals
    go_ret
    exact ⟨by rw [HF.out]; exact ret_int (by omega), (by repeat' (first | exact Below.refl _ _ | refine Below.alloc ?_ ?_ _ | refine Below.setCell ?_ ?_ _ | refine Below.drew ?_ | refine below_drewN ?_ _ | (apply below_step; assumption) | (simp; done) | (simp; omega) | omega))⟩
end Go.Proofs.YtflcacbpceinaaaGreatDoor
