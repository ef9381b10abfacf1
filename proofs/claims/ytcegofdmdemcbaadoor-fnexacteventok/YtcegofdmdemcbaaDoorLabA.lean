/- The contracts of chapter 2's helpers: markInRange, labInRange, with. -/
import Derived.Test.YtcegofdmdemcbaaDoorBase
import Derived.Test.YtcegofdmdemcbaaDoorLabPure
import Derived.DeepKeys
import Derived.Laws.StructEq
namespace Go.Proofs.YtcegofdmdemcbaaDoor
open Go.RowKit

theorem markInRange_yes (n : Int) (w : World) (h1 : 0 ≤ n) (h2 : n ≤ 9) :
    Calls Tryd.prog 48 #[.int .i64 n] w fun e w' => e = .returned (.bool true) ∧ w = w' := by
  have h3 : n < 10 := by omega
  go_enter Tryd.func48, Tryd.ntmps48
  go_wp2
  go_ret
  exact ⟨by simp, rfl⟩
theorem markInRange_no (n : Int) (w : World) (h : ¬ (0 ≤ n ∧ n ≤ 9)) :
    Calls Tryd.prog 48 #[.int .i64 n] w fun e w' => e = .returned (.bool false) ∧ w = w' := by
  by_cases h1 : 0 ≤ n
  · have h2 : 10 ≤ n := by omega
    clear h
    go_enter Tryd.func48, Tryd.ntmps48
    go_wp2
    go_ret
    exact ⟨by simp; omega, rfl⟩
  · have h2 : n < 0 := by omega
    clear h h1
    go_enter Tryd.func48, Tryd.ntmps48
    go_wp2
    go_ret
    exact ⟨by simp, rfl⟩

theorem labInRange_yes (l : LV) (w : World) (h : l.ok = true) :
    Calls Tryd.prog 44 #[.agg #[.int .i64 l.k, .int .i64 l.v]] w fun e w' => e = .returned (.bool true) ∧ Below w.heap.size w w' := by
  have H := Lib.hid (LV.ok_iff.1 h)
  clear h
  go_enter Tryd.func44, Tryd.ntmps44
  go_wp2_with fail
  refine (markInRange_yes l.k _ H.out.1 H.out.2.1).mono ?_
  rintro e w1 ⟨rfl, rfl⟩
  go_wp2_with fail
  refine (markInRange_yes l.v _ H.out.2.2.1 H.out.2.2.2).mono ?_
  rintro e w1 ⟨rfl, rfl⟩
  go_wp2_with fail
  go_ret
  exact ⟨rfl, (by repeat' (first | exact Below.refl _ _ | refine Below.alloc ?_ ?_ _ | refine Below.setCell ?_ ?_ _ | refine Below.drew ?_ | (apply below_step; assumption) | (simp; done) | (simp; omega) | omega))⟩
theorem labInRange_no (l : LV) (w : World) (h : l.ok = false) :
    Calls Tryd.prog 44 #[.agg #[.int .i64 l.k, .int .i64 l.v]] w fun e w' => e = .returned (.bool false) ∧ Below w.heap.size w w' := by
  have h0 := LV.bad_iff.1 h
  clear h
  by_cases hk : 0 ≤ l.k ∧ l.k ≤ 9
  · have H := Lib.hid (show ¬ (0 ≤ l.v ∧ l.v ≤ 9) by omega)
    have HK := Lib.hid hk
    clear h0 hk
    go_enter Tryd.func44, Tryd.ntmps44
    go_wp2_with fail
    refine (markInRange_yes l.k _ HK.out.1 HK.out.2).mono ?_
    rintro e w1 ⟨rfl, rfl⟩
    go_wp2_with fail
    refine (markInRange_no l.v _ H.out).mono ?_
    rintro e w1 ⟨rfl, rfl⟩
    go_wp2_with fail
    go_ret
    exact ⟨rfl, (by repeat' (first | exact Below.refl _ _ | refine Below.alloc ?_ ?_ _ | refine Below.setCell ?_ ?_ _ | refine Below.drew ?_ | (apply below_step; assumption) | (simp; done) | (simp; omega) | omega))⟩
  · have HK := Lib.hid hk
    clear h0 hk
    go_enter Tryd.func44, Tryd.ntmps44
    go_wp2_with fail
    refine (markInRange_no l.k _ HK.out).mono ?_
    rintro e w1 ⟨rfl, rfl⟩
    go_wp2_with fail
    go_ret
    exact ⟨rfl, (by repeat' (first | exact Below.refl _ _ | refine Below.alloc ?_ ?_ _ | refine Below.setCell ?_ ?_ _ | refine Below.drew ?_ | (apply below_step; assumption) | (simp; done) | (simp; omega) | omega))⟩

theorem Tryd.mix0 (p : Nat → Int) (w : World) : (Instr.index 67 (.agg #[.int .i64 (p 0), .int .i64 (p 1), .int .i64 (p 2), .int .i64 (p 3), .int .i64 (p 4), .int .i64 (p 5), .int .i64 (p 6), .int .i64 (p 7), .int .i64 (p 8), .int .i64 (p 9)]) (.int .i64 0)).run Tryd.prog w = .ok (.int .i64 (p 0)) w := by kernel_rfl
theorem Tryd.mix1 (p : Nat → Int) (w : World) : (Instr.index 67 (.agg #[.int .i64 (p 0), .int .i64 (p 1), .int .i64 (p 2), .int .i64 (p 3), .int .i64 (p 4), .int .i64 (p 5), .int .i64 (p 6), .int .i64 (p 7), .int .i64 (p 8), .int .i64 (p 9)]) (.int .i64 1)).run Tryd.prog w = .ok (.int .i64 (p 1)) w := by kernel_rfl
theorem Tryd.mix2 (p : Nat → Int) (w : World) : (Instr.index 67 (.agg #[.int .i64 (p 0), .int .i64 (p 1), .int .i64 (p 2), .int .i64 (p 3), .int .i64 (p 4), .int .i64 (p 5), .int .i64 (p 6), .int .i64 (p 7), .int .i64 (p 8), .int .i64 (p 9)]) (.int .i64 2)).run Tryd.prog w = .ok (.int .i64 (p 2)) w := by kernel_rfl
theorem Tryd.mix3 (p : Nat → Int) (w : World) : (Instr.index 67 (.agg #[.int .i64 (p 0), .int .i64 (p 1), .int .i64 (p 2), .int .i64 (p 3), .int .i64 (p 4), .int .i64 (p 5), .int .i64 (p 6), .int .i64 (p 7), .int .i64 (p 8), .int .i64 (p 9)]) (.int .i64 3)).run Tryd.prog w = .ok (.int .i64 (p 3)) w := by kernel_rfl
theorem Tryd.mix4 (p : Nat → Int) (w : World) : (Instr.index 67 (.agg #[.int .i64 (p 0), .int .i64 (p 1), .int .i64 (p 2), .int .i64 (p 3), .int .i64 (p 4), .int .i64 (p 5), .int .i64 (p 6), .int .i64 (p 7), .int .i64 (p 8), .int .i64 (p 9)]) (.int .i64 4)).run Tryd.prog w = .ok (.int .i64 (p 4)) w := by kernel_rfl
theorem Tryd.mix5 (p : Nat → Int) (w : World) : (Instr.index 67 (.agg #[.int .i64 (p 0), .int .i64 (p 1), .int .i64 (p 2), .int .i64 (p 3), .int .i64 (p 4), .int .i64 (p 5), .int .i64 (p 6), .int .i64 (p 7), .int .i64 (p 8), .int .i64 (p 9)]) (.int .i64 5)).run Tryd.prog w = .ok (.int .i64 (p 5)) w := by kernel_rfl
theorem Tryd.mix6 (p : Nat → Int) (w : World) : (Instr.index 67 (.agg #[.int .i64 (p 0), .int .i64 (p 1), .int .i64 (p 2), .int .i64 (p 3), .int .i64 (p 4), .int .i64 (p 5), .int .i64 (p 6), .int .i64 (p 7), .int .i64 (p 8), .int .i64 (p 9)]) (.int .i64 6)).run Tryd.prog w = .ok (.int .i64 (p 6)) w := by kernel_rfl
theorem Tryd.mix7 (p : Nat → Int) (w : World) : (Instr.index 67 (.agg #[.int .i64 (p 0), .int .i64 (p 1), .int .i64 (p 2), .int .i64 (p 3), .int .i64 (p 4), .int .i64 (p 5), .int .i64 (p 6), .int .i64 (p 7), .int .i64 (p 8), .int .i64 (p 9)]) (.int .i64 7)).run Tryd.prog w = .ok (.int .i64 (p 7)) w := by kernel_rfl
theorem Tryd.mix8 (p : Nat → Int) (w : World) : (Instr.index 67 (.agg #[.int .i64 (p 0), .int .i64 (p 1), .int .i64 (p 2), .int .i64 (p 3), .int .i64 (p 4), .int .i64 (p 5), .int .i64 (p 6), .int .i64 (p 7), .int .i64 (p 8), .int .i64 (p 9)]) (.int .i64 8)).run Tryd.prog w = .ok (.int .i64 (p 8)) w := by kernel_rfl
theorem Tryd.mix9 (p : Nat → Int) (w : World) : (Instr.index 67 (.agg #[.int .i64 (p 0), .int .i64 (p 1), .int .i64 (p 2), .int .i64 (p 3), .int .i64 (p 4), .int .i64 (p 5), .int .i64 (p 6), .int .i64 (p 7), .int .i64 (p 8), .int .i64 (p 9)]) (.int .i64 9)).run Tryd.prog w = .ok (.int .i64 (p 9)) w := by kernel_rfl
theorem Tryd.mix (p : Nat → Int) (k : Nat) (hk : k < 10) (w : World) : (Instr.index 67 (.agg #[.int .i64 (p 0), .int .i64 (p 1), .int .i64 (p 2), .int .i64 (p 3), .int .i64 (p 4), .int .i64 (p 5), .int .i64 (p 6), .int .i64 (p 7), .int .i64 (p 8), .int .i64 (p 9)]) (.int .i64 (k : Int))).run Tryd.prog w = .ok (.int .i64 (p k)) w := by
  match k, hk with
  | 0, _ => exact Tryd.mix0 p w
  | 1, _ => exact Tryd.mix1 p w
  | 2, _ => exact Tryd.mix2 p w
  | 3, _ => exact Tryd.mix3 p w
  | 4, _ => exact Tryd.mix4 p w
  | 5, _ => exact Tryd.mix5 p w
  | 6, _ => exact Tryd.mix6 p w
  | 7, _ => exact Tryd.mix7 p w
  | 8, _ => exact Tryd.mix8 p w
  | 9, _ => exact Tryd.mix9 p w
theorem mput (m : Nat → Int) (l : LV) (k : Nat) (hk : k < 10) (e : l.k = (k : Int)) : (#[.int .i64 (m 0), .int .i64 (m 1), .int .i64 (m 2), .int .i64 (m 3), .int .i64 (m 4), .int .i64 (m 5), .int .i64 (m 6), .int .i64 (m 7), .int .i64 (m 8), .int .i64 (m 9)] : Array Value).setIfInBounds k (.int .i64 (l.v + 1)) = #[.int .i64 (mwith m l 0), .int .i64 (mwith m l 1), .int .i64 (mwith m l 2), .int .i64 (mwith m l 3), .int .i64 (mwith m l 4), .int .i64 (mwith m l 5), .int .i64 (mwith m l 6), .int .i64 (mwith m l 7), .int .i64 (mwith m l 8), .int .i64 (mwith m l 9)] := by
  match k, hk with
  | 0, _ => simp [mwith, e]
  | 1, _ => simp [mwith, e]
  | 2, _ => simp [mwith, e]
  | 3, _ => simp [mwith, e]
  | 4, _ => simp [mwith, e]
  | 5, _ => simp [mwith, e]
  | 6, _ => simp [mwith, e]
  | 7, _ => simp [mwith, e]
  | 8, _ => simp [mwith, e]
  | 9, _ => simp [mwith, e]
theorem mcell (m : Nat → Int) (k : Nat) (hk : k < 10) : (#[.int .i64 (m 0), .int .i64 (m 1), .int .i64 (m 2), .int .i64 (m 3), .int .i64 (m 4), .int .i64 (m 5), .int .i64 (m 6), .int .i64 (m 7), .int .i64 (m 8), .int .i64 (m 9)] : Array Value)[k]? = some (.int .i64 (m k)) := by
  match k, hk with
  | 0, _ => rfl
  | 1, _ => rfl
  | 2, _ => rfl
  | 3, _ => rfl
  | 4, _ => rfl
  | 5, _ => rfl
  | 6, _ => rfl
  | 7, _ => rfl
  | 8, _ => rfl
  | 9, _ => rfl
end Go.Proofs.YtcegofdmdemcbaaDoor
