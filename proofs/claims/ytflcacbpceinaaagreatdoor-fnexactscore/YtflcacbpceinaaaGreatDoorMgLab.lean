/- The contracts of chapter 2's helpers: markInRange, labInRange, with. The contracts of marks.with and marks.hasAll. The contract of marks.hasAll. Slices of labels; the contract of readLabs. The contracts of LabsOk, LabsGet, LabsMatch. -/
import Derived.Test.YtflcacbpceinaaaGreatDoorBase
import Derived.Test.YtflcacbpceinaaaGreatDoorMgPure
import Derived.DeepKeys
import Derived.Laws.StructEq
namespace Go.Proofs.YtflcacbpceinaaaGreatDoor
open Go.RowKit

theorem markInRange_yes (n : Int) (w : World) (h1 : 0 ≤ n) (h2 : n ≤ 9) :
    Calls Tryz.prog 212 #[.int .i64 n] w fun e w' => e = .returned (.bool true) ∧ w = w' := by
  have h3 : n < 10 := by omega
  go_enter Tryz.func212, Tryz.ntmps212
  go_wp2
  go_ret
  exact ⟨by simp, rfl⟩
theorem markInRange_no (n : Int) (w : World) (h : ¬ (0 ≤ n ∧ n ≤ 9)) :
    Calls Tryz.prog 212 #[.int .i64 n] w fun e w' => e = .returned (.bool false) ∧ w = w' := by
  by_cases h1 : 0 ≤ n
  · have h2 : 10 ≤ n := by omega
    clear h
    go_enter Tryz.func212, Tryz.ntmps212
    go_wp2
    go_ret
    exact ⟨by simp; omega, rfl⟩
  · have h2 : n < 0 := by omega
    clear h h1
    go_enter Tryz.func212, Tryz.ntmps212
    go_wp2
    go_ret
    exact ⟨by simp, rfl⟩

theorem labInRange_yes (l : LV) (w : World) (h : l.ok = true) :
    Calls Tryz.prog 208 #[.agg #[.int .i64 l.k, .int .i64 l.v]] w fun e w' => e = .returned (.bool true) ∧ Below w.heap.size w w' := by
  have H := Lib.hid (LV.ok_iff.1 h)
  clear h
  go_enter Tryz.func208, Tryz.ntmps208
  go_wp2_with fail
  refine (markInRange_yes l.k _ H.out.1 H.out.2.1).mono ?_
  rintro e w1 ⟨rfl, rfl⟩
  go_wp2_with fail
  refine (markInRange_yes l.v _ H.out.2.2.1 H.out.2.2.2).mono ?_
  rintro e w1 ⟨rfl, rfl⟩
  go_wp2_with fail
  go_ret
  exact ⟨rfl, (by repeat' (first | exact Below.refl _ _ | refine Below.alloc ?_ ?_ _ | refine Below.setCell ?_ ?_ _ | refine Below.drew ?_ | (apply below_step; assumption) | (simp; done) | (simp; omega) | omega))⟩
theorem labInRange_no (l : LV) (w : World) (h : l.ok = false) :
    Calls Tryz.prog 208 #[.agg #[.int .i64 l.k, .int .i64 l.v]] w fun e w' => e = .returned (.bool false) ∧ Below w.heap.size w w' := by
  have h0 := LV.bad_iff.1 h
  clear h
  by_cases hk : 0 ≤ l.k ∧ l.k ≤ 9
  · have H := Lib.hid (show ¬ (0 ≤ l.v ∧ l.v ≤ 9) by omega)
    have HK := Lib.hid hk
    clear h0 hk
    go_enter Tryz.func208, Tryz.ntmps208
    go_wp2_with fail
    refine (markInRange_yes l.k _ HK.out.1 HK.out.2).mono ?_
    rintro e w1 ⟨rfl, rfl⟩
    go_wp2_with fail
    refine (markInRange_no l.v _ H.out).mono ?_
    rintro e w1 ⟨rfl, rfl⟩
    go_wp2_with fail
    go_ret
    exact ⟨rfl, (by repeat' (first | exact Below.refl _ _ | refine Below.alloc ?_ ?_ _ | refine Below.setCell ?_ ?_ _ | refine Below.drew ?_ | (apply below_step; assumption) | (simp; done) | (simp; omega) | omega))⟩
  · have HK := Lib.hid hk
    clear h0 hk
    go_enter Tryz.func208, Tryz.ntmps208
    go_wp2_with fail
    refine (markInRange_no l.k _ HK.out).mono ?_
    rintro e w1 ⟨rfl, rfl⟩
    go_wp2_with fail
    go_ret
    exact ⟨rfl, (by repeat' (first | exact Below.refl _ _ | refine Below.alloc ?_ ?_ _ | refine Below.setCell ?_ ?_ _ | refine Below.drew ?_ | (apply below_step; assumption) | (simp; done) | (simp; omega) | omega))⟩

theorem Tryz.mix0 (p : Nat → Int) (w : World) : (Instr.index 221 (.agg #[.int .i64 (p 0), .int .i64 (p 1), .int .i64 (p 2), .int .i64 (p 3), .int .i64 (p 4), .int .i64 (p 5), .int .i64 (p 6), .int .i64 (p 7), .int .i64 (p 8), .int .i64 (p 9)]) (.int .i64 0)).run Tryz.prog w = .ok (.int .i64 (p 0)) w := by kernel_rfl
theorem Tryz.mix1 (p : Nat → Int) (w : World) : (Instr.index 221 (.agg #[.int .i64 (p 0), .int .i64 (p 1), .int .i64 (p 2), .int .i64 (p 3), .int .i64 (p 4), .int .i64 (p 5), .int .i64 (p 6), .int .i64 (p 7), .int .i64 (p 8), .int .i64 (p 9)]) (.int .i64 1)).run Tryz.prog w = .ok (.int .i64 (p 1)) w := by kernel_rfl
theorem Tryz.mix2 (p : Nat → Int) (w : World) : (Instr.index 221 (.agg #[.int .i64 (p 0), .int .i64 (p 1), .int .i64 (p 2), .int .i64 (p 3), .int .i64 (p 4), .int .i64 (p 5), .int .i64 (p 6), .int .i64 (p 7), .int .i64 (p 8), .int .i64 (p 9)]) (.int .i64 2)).run Tryz.prog w = .ok (.int .i64 (p 2)) w := by kernel_rfl
theorem Tryz.mix3 (p : Nat → Int) (w : World) : (Instr.index 221 (.agg #[.int .i64 (p 0), .int .i64 (p 1), .int .i64 (p 2), .int .i64 (p 3), .int .i64 (p 4), .int .i64 (p 5), .int .i64 (p 6), .int .i64 (p 7), .int .i64 (p 8), .int .i64 (p 9)]) (.int .i64 3)).run Tryz.prog w = .ok (.int .i64 (p 3)) w := by kernel_rfl
theorem Tryz.mix4 (p : Nat → Int) (w : World) : (Instr.index 221 (.agg #[.int .i64 (p 0), .int .i64 (p 1), .int .i64 (p 2), .int .i64 (p 3), .int .i64 (p 4), .int .i64 (p 5), .int .i64 (p 6), .int .i64 (p 7), .int .i64 (p 8), .int .i64 (p 9)]) (.int .i64 4)).run Tryz.prog w = .ok (.int .i64 (p 4)) w := by kernel_rfl
theorem Tryz.mix5 (p : Nat → Int) (w : World) : (Instr.index 221 (.agg #[.int .i64 (p 0), .int .i64 (p 1), .int .i64 (p 2), .int .i64 (p 3), .int .i64 (p 4), .int .i64 (p 5), .int .i64 (p 6), .int .i64 (p 7), .int .i64 (p 8), .int .i64 (p 9)]) (.int .i64 5)).run Tryz.prog w = .ok (.int .i64 (p 5)) w := by kernel_rfl
theorem Tryz.mix6 (p : Nat → Int) (w : World) : (Instr.index 221 (.agg #[.int .i64 (p 0), .int .i64 (p 1), .int .i64 (p 2), .int .i64 (p 3), .int .i64 (p 4), .int .i64 (p 5), .int .i64 (p 6), .int .i64 (p 7), .int .i64 (p 8), .int .i64 (p 9)]) (.int .i64 6)).run Tryz.prog w = .ok (.int .i64 (p 6)) w := by kernel_rfl
theorem Tryz.mix7 (p : Nat → Int) (w : World) : (Instr.index 221 (.agg #[.int .i64 (p 0), .int .i64 (p 1), .int .i64 (p 2), .int .i64 (p 3), .int .i64 (p 4), .int .i64 (p 5), .int .i64 (p 6), .int .i64 (p 7), .int .i64 (p 8), .int .i64 (p 9)]) (.int .i64 7)).run Tryz.prog w = .ok (.int .i64 (p 7)) w := by kernel_rfl
theorem Tryz.mix8 (p : Nat → Int) (w : World) : (Instr.index 221 (.agg #[.int .i64 (p 0), .int .i64 (p 1), .int .i64 (p 2), .int .i64 (p 3), .int .i64 (p 4), .int .i64 (p 5), .int .i64 (p 6), .int .i64 (p 7), .int .i64 (p 8), .int .i64 (p 9)]) (.int .i64 8)).run Tryz.prog w = .ok (.int .i64 (p 8)) w := by kernel_rfl
theorem Tryz.mix9 (p : Nat → Int) (w : World) : (Instr.index 221 (.agg #[.int .i64 (p 0), .int .i64 (p 1), .int .i64 (p 2), .int .i64 (p 3), .int .i64 (p 4), .int .i64 (p 5), .int .i64 (p 6), .int .i64 (p 7), .int .i64 (p 8), .int .i64 (p 9)]) (.int .i64 9)).run Tryz.prog w = .ok (.int .i64 (p 9)) w := by kernel_rfl
theorem Tryz.mix (p : Nat → Int) (k : Nat) (hk : k < 10) (w : World) : (Instr.index 221 (.agg #[.int .i64 (p 0), .int .i64 (p 1), .int .i64 (p 2), .int .i64 (p 3), .int .i64 (p 4), .int .i64 (p 5), .int .i64 (p 6), .int .i64 (p 7), .int .i64 (p 8), .int .i64 (p 9)]) (.int .i64 (k : Int))).run Tryz.prog w = .ok (.int .i64 (p k)) w := by
  match k, hk with
  | 0, _ => exact Tryz.mix0 p w
  | 1, _ => exact Tryz.mix1 p w
  | 2, _ => exact Tryz.mix2 p w
  | 3, _ => exact Tryz.mix3 p w
  | 4, _ => exact Tryz.mix4 p w
  | 5, _ => exact Tryz.mix5 p w
  | 6, _ => exact Tryz.mix6 p w
  | 7, _ => exact Tryz.mix7 p w
  | 8, _ => exact Tryz.mix8 p w
  | 9, _ => exact Tryz.mix9 p w
theorem mput (m : Nat → Int) (l : LV) (k : Nat) (hk : k < 10) (e : l.k = (k : Int)) : (#[.int .i64 (m 0), .int .i64 (m 1), .int .i64 (m 2), .int .i64 (m 3), .int .i64 (m 4), .int .i64 (m 5), .int .i64 (m 6), .int .i64 (m 7), .int .i64 (m 8), .int .i64 (m 9)] : Array Value).setIfInBounds k (.int .i64 (l.v + 1)) = #[.int .i64 (mwith m l 0), .int .i64 (mwith m l 1), .int .i64 (mwith m l 2), .int .i64 (mwith m l 3), .int .i64 (mwith m l 4), .int .i64 (mwith m l 5), .int .i64 (mwith m l 6), .int .i64 (mwith m l 7), .int .i64 (mwith m l 8), .int .i64 (mwith m l 9)] := by
  match k, hk with
  | 0, _ => simp [mwith, e]
  | 1, _ => simp [mwith, e]
  | 2, _ => simp [mwith, e]
  | 3, _ => simp [mwith, e]
  | 4, _ => simp [mwith, e]
  | 5, _ => simp [mwith, e]
  | 6, _ => simp [mwith, e]
  | 7, _ => simp [mwith, e]
  | 8, _ => simp [mwith, e]
  | 9, _ => simp [mwith, e]
theorem mcell (m : Nat → Int) (k : Nat) (hk : k < 10) : (#[.int .i64 (m 0), .int .i64 (m 1), .int .i64 (m 2), .int .i64 (m 3), .int .i64 (m 4), .int .i64 (m 5), .int .i64 (m 6), .int .i64 (m 7), .int .i64 (m 8), .int .i64 (m 9)] : Array Value)[k]? = some (.int .i64 (m k)) := by
  match k, hk with
  | 0, _ => rfl
  | 1, _ => rfl
  | 2, _ => rfl
  | 3, _ => rfl
  | 4, _ => rfl
  | 5, _ => rfl
  | 6, _ => rfl
  | 7, _ => rfl
  | 8, _ => rfl
  | 9, _ => rfl
end Go.Proofs.YtflcacbpceinaaaGreatDoor

namespace Go.Proofs.YtflcacbpceinaaaGreatDoor
open Go.RowKit

set_option maxHeartbeats 1600000 in
theorem with_any (m : Nat → Int) (l : LV) (w : World) (h : l.ok = true) :
    Calls Tryz.prog 209 #[.agg #[.int .i64 (m 0), .int .i64 (m 1), .int .i64 (m 2), .int .i64 (m 3), .int .i64 (m 4), .int .i64 (m 5), .int .i64 (m 6), .int .i64 (m 7), .int .i64 (m 8), .int .i64 (m 9)], .agg #[.int .i64 l.k, .int .i64 l.v]] w fun e w' => e = .returned (.agg #[.int .i64 (mwith m l 0), .int .i64 (mwith m l 1), .int .i64 (mwith m l 2), .int .i64 (mwith m l 3), .int .i64 (mwith m l 4), .int .i64 (mwith m l 5), .int .i64 (mwith m l 6), .int .i64 (mwith m l 7), .int .i64 (mwith m l 8), .int .i64 (mwith m l 9)]) ∧ Below w.heap.size w w' := by
  obtain ⟨k0, k9, v0, v9⟩ := LV.ok_iff.1 h
  clear h
  obtain ⟨kk, vv⟩ := l
  simp only at k0 k9 v0 v9
  rcases (show kk = 0 ∨ kk = 1 ∨ kk = 2 ∨ kk = 3 ∨ kk = 4 ∨ kk = 5 ∨ kk = 6 ∨ kk = 7 ∨ kk = 8 ∨ kk = 9 by omega) with rfl | rfl | rfl | rfl | rfl | rfl | rfl | rfl | rfl | rfl
  all_goals
    clear k0 k9
    go_enter Tryz.func209, Tryz.ntmps209
    go_wp2_with fail
    refine bodyPost_ret (v := .agg #[.int .i64 (mwith m ⟨_, vv⟩ 0), .int .i64 (mwith m ⟨_, vv⟩ 1), .int .i64 (mwith m ⟨_, vv⟩ 2), .int .i64 (mwith m ⟨_, vv⟩ 3), .int .i64 (mwith m ⟨_, vv⟩ 4), .int .i64 (mwith m ⟨_, vv⟩ 5), .int .i64 (mwith m ⟨_, vv⟩ 6), .int .i64 (mwith m ⟨_, vv⟩ 7), .int .i64 (mwith m ⟨_, vv⟩ 8), .int .i64 (mwith m ⟨_, vv⟩ 9)]) (by simp [results, Tryz.results209, go_sem, mwith]) rfl ⟨rfl, ?_⟩
    exact (by repeat' (first | exact Below.refl _ _ | refine Below.alloc ?_ ?_ _ | refine Below.setCell ?_ ?_ _ | refine Below.drew ?_ | (apply below_step; assumption) | (simp; done) | (simp; omega) | omega))

theorem Tryz.infoInt : ∃ i, Tryz.prog.info? 3 = some i := ⟨_, (Option.eq_some_of_isSome (show (Tryz.prog.info? 3).isSome = true by kernel_rfl))⟩
theorem Tryz.cellsInt : Tryz.prog.cellsOf 3 = 1 := by kernel_rfl
theorem part_int (xs : Array Value) (off : Nat) (v : Value) (h : xs[off]? = some v) (w : World) : (part 3 xs off).run Tryz.prog w = .ok v w := by
  have : (isAgg 3).run Tryz.prog w = .ok false w := by kernel_rfl
  simp [part, this, h]
def eqMarks (a b : Nat → Int) : Bool := (List.range 10).all fun i => a i == b i
theorem equal_marks (a b : Nat → Int) (w : World) : (Op.equalIn 10000 221 (.agg #[.int .i64 (a 0), .int .i64 (a 1), .int .i64 (a 2), .int .i64 (a 3), .int .i64 (a 4), .int .i64 (a 5), .int .i64 (a 6), .int .i64 (a 7), .int .i64 (a 8), .int .i64 (a 9)]) (.agg #[.int .i64 (b 0), .int .i64 (b 1), .int .i64 (b 2), .int .i64 (b 3), .int .i64 (b 4), .int .i64 (b 5), .int .i64 (b 6), .int .i64 (b 7), .int .i64 (b 8), .int .i64 (b 9)])).run Tryz.prog w = .ok (eqMarks a b) w := by
  obtain ⟨i, hi⟩ := Tryz.infoInt
  rw [run_equalIn_array w 9999 _ _ Tryz.underlying221 hi, Tryz.cellsInt]
  have : ∀ is : List Nat, (∀ i ∈ is, i < 10) → (Op.eqItems 9999 3 1 #[.int .i64 (a 0), .int .i64 (a 1), .int .i64 (a 2), .int .i64 (a 3), .int .i64 (a 4), .int .i64 (a 5), .int .i64 (a 6), .int .i64 (a 7), .int .i64 (a 8), .int .i64 (a 9)] #[.int .i64 (b 0), .int .i64 (b 1), .int .i64 (b 2), .int .i64 (b 3), .int .i64 (b 4), .int .i64 (b 5), .int .i64 (b 6), .int .i64 (b 7), .int .i64 (b 8), .int .i64 (b 9)] is).run Tryz.prog w = .ok (is.all fun i => a i == b i) w := by
    intro is
    induction is with
    | nil => intro _; simp [Op.eqItems]
    | cons x r ih =>
      intro h
      have hx := h x (by simp)
      have e1 := part_int #[.int .i64 (a 0), .int .i64 (a 1), .int .i64 (a 2), .int .i64 (a 3), .int .i64 (a 4), .int .i64 (a 5), .int .i64 (a 6), .int .i64 (a 7), .int .i64 (a 8), .int .i64 (a 9)] x _ (mcell a x hx) w
      have e2 := part_int #[.int .i64 (b 0), .int .i64 (b 1), .int .i64 (b 2), .int .i64 (b 3), .int .i64 (b 4), .int .i64 (b 5), .int .i64 (b 6), .int .i64 (b 7), .int .i64 (b 8), .int .i64 (b 9)] x _ (mcell b x hx) w
      have e3 := run_equalIn_int (P := Tryz.prog) w 9998 3 .i64 .i64 (a x) (b x) Tryz.underlying3
      simp only [Op.eqItems, Nat.mul_one, Sem.run_bind, e1, e2, e3, Result.andThen_ok, List.all_cons]
      cases a x == b x
      · simp
      · simpa using ih (fun i hi => h i (by simp [hi]))
  exact this (List.range 10) (by simp)
theorem eql_marks (a b : Nat → Int) (w : World) : (binOp .eql 221 (.agg #[.int .i64 (a 0), .int .i64 (a 1), .int .i64 (a 2), .int .i64 (a 3), .int .i64 (a 4), .int .i64 (a 5), .int .i64 (a 6), .int .i64 (a 7), .int .i64 (a 8), .int .i64 (a 9)]) (.agg #[.int .i64 (b 0), .int .i64 (b 1), .int .i64 (b 2), .int .i64 (b 3), .int .i64 (b 4), .int .i64 (b 5), .int .i64 (b 6), .int .i64 (b 7), .int .i64 (b 8), .int .i64 (b 9)])).run Tryz.prog w = .ok (.bool (eqMarks a b)) w := by
  rw [run_eql_struct, equal_marks]; rfl
theorem guard_marks (a b : Array Value) (x y : Operand) (w : World) : (eqGuard .eql 221 x y (.agg a) (.agg b)).run Tryz.prog w = .ok () w := run_eqGuard_agg w .eql _ x y a b (by kernel_rfl)
end Go.Proofs.YtflcacbpceinaaaGreatDoor

namespace Go.Proofs.YtflcacbpceinaaaGreatDoor
open Go.RowKit

/-- Ten cells stored at once into a block that is known whole. -/
theorem put10 {w : World} {g : Nat} {t : TypeId} {m : Nat → Int} (m' : Nat → Int) (h : BlockIs w g t #[.int .i64 (m 0), .int .i64 (m 1), .int .i64 (m 2), .int .i64 (m 3), .int .i64 (m 4), .int .i64 (m 5), .int .i64 (m 6), .int .i64 (m 7), .int .i64 (m 8), .int .i64 (m 9)]) : BlockIs ((((((((((w.setCell ⟨g, 0, none⟩ (.int .i64 (m' 0))).setCell ⟨g, 1, none⟩ (.int .i64 (m' 1))).setCell ⟨g, 2, none⟩ (.int .i64 (m' 2))).setCell ⟨g, 3, none⟩ (.int .i64 (m' 3))).setCell ⟨g, 4, none⟩ (.int .i64 (m' 4))).setCell ⟨g, 5, none⟩ (.int .i64 (m' 5))).setCell ⟨g, 6, none⟩ (.int .i64 (m' 6))).setCell ⟨g, 7, none⟩ (.int .i64 (m' 7))).setCell ⟨g, 8, none⟩ (.int .i64 (m' 8))).setCell ⟨g, 9, none⟩ (.int .i64 (m' 9))) g t #[.int .i64 (m' 0), .int .i64 (m' 1), .int .i64 (m' 2), .int .i64 (m' 3), .int .i64 (m' 4), .int .i64 (m' 5), .int .i64 (m' 6), .int .i64 (m' 7), .int .i64 (m' 8), .int .i64 (m' 9)] := by
  have := (((((((((h.put 0 (.int .i64 (m' 0))).put 1 (.int .i64 (m' 1))).put 2 (.int .i64 (m' 2))).put 3 (.int .i64 (m' 3))).put 4 (.int .i64 (m' 4))).put 5 (.int .i64 (m' 5))).put 6 (.int .i64 (m' 6))).put 7 (.int .i64 (m' 7))).put 8 (.int .i64 (m' 8))).put 9 (.int .i64 (m' 9))
  simpa using this
theorem below10 {B : Nat} {a w : World} {g : Nat} (m' : Nat → Int) (h : Below B a w) (hg : B ≤ g) : Below B a ((((((((((w.setCell ⟨g, 0, none⟩ (.int .i64 (m' 0))).setCell ⟨g, 1, none⟩ (.int .i64 (m' 1))).setCell ⟨g, 2, none⟩ (.int .i64 (m' 2))).setCell ⟨g, 3, none⟩ (.int .i64 (m' 3))).setCell ⟨g, 4, none⟩ (.int .i64 (m' 4))).setCell ⟨g, 5, none⟩ (.int .i64 (m' 5))).setCell ⟨g, 6, none⟩ (.int .i64 (m' 6))).setCell ⟨g, 7, none⟩ (.int .i64 (m' 7))).setCell ⟨g, 8, none⟩ (.int .i64 (m' 8))).setCell ⟨g, 9, none⟩ (.int .i64 (m' 9))) :=
  (((((((((h.setCell hg _).setCell hg _).setCell hg _).setCell hg _).setCell hg _).setCell hg _).setCell hg _).setCell hg _).setCell hg _).setCell hg _
theorem far10 {w : World} {b g : Nat} {t : TypeId} {cs : Array Value} (m' : Nat → Int) (h : BlockIs w b t cs) (hne : b ≠ g) : BlockIs ((((((((((w.setCell ⟨g, 0, none⟩ (.int .i64 (m' 0))).setCell ⟨g, 1, none⟩ (.int .i64 (m' 1))).setCell ⟨g, 2, none⟩ (.int .i64 (m' 2))).setCell ⟨g, 3, none⟩ (.int .i64 (m' 3))).setCell ⟨g, 4, none⟩ (.int .i64 (m' 4))).setCell ⟨g, 5, none⟩ (.int .i64 (m' 5))).setCell ⟨g, 6, none⟩ (.int .i64 (m' 6))).setCell ⟨g, 7, none⟩ (.int .i64 (m' 7))).setCell ⟨g, 8, none⟩ (.int .i64 (m' 8))).setCell ⟨g, 9, none⟩ (.int .i64 (m' 9))) b t cs :=
  (((((((((h.far hne _).far hne _).far hne _).far hne _).far hne _).far hne _).far hne _).far hne _).far hne _).far hne _
theorem size10 (w : World) (g : Nat) (m' : Nat → Int) : ((((((((((w.setCell ⟨g, 0, none⟩ (.int .i64 (m' 0))).setCell ⟨g, 1, none⟩ (.int .i64 (m' 1))).setCell ⟨g, 2, none⟩ (.int .i64 (m' 2))).setCell ⟨g, 3, none⟩ (.int .i64 (m' 3))).setCell ⟨g, 4, none⟩ (.int .i64 (m' 4))).setCell ⟨g, 5, none⟩ (.int .i64 (m' 5))).setCell ⟨g, 6, none⟩ (.int .i64 (m' 6))).setCell ⟨g, 7, none⟩ (.int .i64 (m' 7))).setCell ⟨g, 8, none⟩ (.int .i64 (m' 8))).setCell ⟨g, 9, none⟩ (.int .i64 (m' 9))).heap.size = w.heap.size := by simp [World.setCell]

/-- The first k places of p laid over m. -/
def laidM (m p : Nat → Int) (k : Nat) : Nat → Int := fun i => if i < k ∧ 0 < p i then p i else m i
theorem laid_put (m p : Nat → Int) (k : Nat) (hk : k < 10) (h : 0 < p k) : (#[.int .i64 (laidM m p k 0), .int .i64 (laidM m p k 1), .int .i64 (laidM m p k 2), .int .i64 (laidM m p k 3), .int .i64 (laidM m p k 4), .int .i64 (laidM m p k 5), .int .i64 (laidM m p k 6), .int .i64 (laidM m p k 7), .int .i64 (laidM m p k 8), .int .i64 (laidM m p k 9)] : Array Value).setIfInBounds k (.int .i64 (p k)) = #[.int .i64 (laidM m p (k + 1) 0), .int .i64 (laidM m p (k + 1) 1), .int .i64 (laidM m p (k + 1) 2), .int .i64 (laidM m p (k + 1) 3), .int .i64 (laidM m p (k + 1) 4), .int .i64 (laidM m p (k + 1) 5), .int .i64 (laidM m p (k + 1) 6), .int .i64 (laidM m p (k + 1) 7), .int .i64 (laidM m p (k + 1) 8), .int .i64 (laidM m p (k + 1) 9)] := by
  match k, hk with
  | 0, _ => simp [laidM, h]
  | 1, _ => simp [laidM, h]
  | 2, _ => simp [laidM, h]
  | 3, _ => simp [laidM, h]
  | 4, _ => simp [laidM, h]
  | 5, _ => simp [laidM, h]
  | 6, _ => simp [laidM, h]
  | 7, _ => simp [laidM, h]
  | 8, _ => simp [laidM, h]
  | 9, _ => simp [laidM, h]
theorem laid_skip (m p : Nat → Int) (k : Nat) (h : ¬ 0 < p k) : laidM m p (k + 1) = laidM m p k := by
  funext i
  unfold laidM
  by_cases e : i = k
  · subst e; simp [h]
  · by_cases hi : i < k
    · simp [hi, Nat.lt_succ_of_lt hi]
    · have : ¬ i < k + 1 := by omega
      simp [hi, this]
def hasAllM (m p : Nat → Int) : Bool := eqMarks (laidM m p 10) m

set_option maxHeartbeats 1600000 in
theorem hasAll_any (m p : Nat → Int) (w : World) :
    Calls Tryz.prog 207 #[.agg #[.int .i64 (m 0), .int .i64 (m 1), .int .i64 (m 2), .int .i64 (m 3), .int .i64 (m 4), .int .i64 (m 5), .int .i64 (m 6), .int .i64 (m 7), .int .i64 (m 8), .int .i64 (m 9)], .agg #[.int .i64 (p 0), .int .i64 (p 1), .int .i64 (p 2), .int .i64 (p 3), .int .i64 (p 4), .int .i64 (p 5), .int .i64 (p 6), .int .i64 (p 7), .int .i64 (p 8), .int .i64 (p 9)]] w fun e w' => e = .returned (.bool (hasAllM m p)) ∧ Below w.heap.size w w' := by
  have hix := Tryz.mix p
  have HIX := Lib.hid hix
  clear hix
  go_enter Tryz.func207, Tryz.ntmps207
  go_wp2_with fail
  go_loopw [10] (fun s10 wr => ∃ k : Nat, k ≤ 10 ∧ s10 = .int .i64 k ∧ Below w.heap.size w wr ∧ BlockIs wr w.heap.size 221 #[.int .i64 (m 0), .int .i64 (m 1), .int .i64 (m 2), .int .i64 (m 3), .int .i64 (m 4), .int .i64 (m 5), .int .i64 (m 6), .int .i64 (m 7), .int .i64 (m 8), .int .i64 (m 9)] ∧ BlockIs wr (w.heap.size + 2) 221 #[.int .i64 (laidM m p k 0), .int .i64 (laidM m p k 1), .int .i64 (laidM m p k 2), .int .i64 (laidM m p k 3), .int .i64 (laidM m p k 4), .int .i64 (laidM m p k 5), .int .i64 (laidM m p k 6), .int .i64 (laidM m p k 7), .int .i64 (laidM m p k 8), .int .i64 (laidM m p k 9)]) (fun s10 _ => (10 - intOf s10).toNat)
  case atStart =>
    refine ⟨0, by omega, rfl, (by repeat' (first | exact Below.refl _ _ | refine Below.alloc ?_ ?_ _ | refine Below.setCell ?_ ?_ _ | refine Below.drew ?_ | (apply below_step; assumption) | (simp; done) | (simp; omega) | omega)), ?_, ?_⟩
    · exact ((BlockIs.new w _ _).alloc _).alloc _
    · have h0 : laidM m p 0 = m := by funext i; simp [laidM]
      rw [h0]
      exact BlockIs.new' (by simp)
  case round =>
    obtain ⟨k, hk, rfl, hB, hm, hl⟩ := hrel
    have HM := Lib.hid hm
    have HL := Lib.hid hl
    have hzr := hB.size
    have hgl := hl.lt
    by_cases hlt : k < 10
    · have hx := fun w => HIX.out k hlt w
      have c5 := (hl.cell k).trans (mcell _ k hlt)
      have f5 := hl.frozen k
      have hlti : (k : Int) < 10 := by omega
      clear hm hl
      by_cases hp : 0 < p k
      · have HP := Lib.hid hp
        go_wp2_with fail
        go_roundw
        case rel =>
          refine ⟨k + 1, by omega, by go_num, (by repeat' (first | exact Below.refl _ _ | refine Below.alloc ?_ ?_ _ | refine Below.setCell ?_ ?_ _ | refine Below.drew ?_ | (apply below_step; assumption) | (simp; done) | (simp; omega) | omega)), HM.out.far (by simp; omega) _, ?_⟩
          rw [← laid_put m p k hlt HP.out]
          exact HL.out.put k _
        case measure => simp [intOf]; omega
      · have HP := Lib.hid hp
        have hp' : p k ≤ 0 := by omega
        clear hp
        go_wp2_with fail
        go_roundw
        case rel =>
          refine ⟨k + 1, by omega, by go_num, hB, HM.out, ?_⟩
          rw [laid_skip m p k HP.out]
          exact HL.out
        case measure => simp [intOf]; omega
    · obtain rfl : k = 10 := by omega
      have heq := eql_marks (laidM m p 10) m
      have hgu := guard_marks
      have m0 := hm.cell 0
      have m1 := hm.cell 1
      have m2 := hm.cell 2
      have m3 := hm.cell 3
      have m4 := hm.cell 4
      have m5 := hm.cell 5
      have m6 := hm.cell 6
      have m7 := hm.cell 7
      have m8 := hm.cell 8
      have m9 := hm.cell 9
      have l0 := hl.cell 0
      have l1 := hl.cell 1
      have l2 := hl.cell 2
      have l3 := hl.cell 3
      have l4 := hl.cell 4
      have l5 := hl.cell 5
      have l6 := hl.cell 6
      have l7 := hl.cell 7
      have l8 := hl.cell 8
      have l9 := hl.cell 9
      simp at m0 m1 m2 m3 m4 m5 m6 m7 m8 m9 l0 l1 l2 l3 l4 l5 l6 l7 l8 l9
      clear hm hl HM HL HIX
      go_wp2_with fail
      go_ret
      exact ⟨rfl, hB⟩
end Go.Proofs.YtflcacbpceinaaaGreatDoor

namespace Go.Proofs.YtflcacbpceinaaaGreatDoor
open Go.RowKit

/-- From block b, place off on, the cells are those of the list's labels. -/
def LabAt (w : World) (b off : Nat) (l : List LV) : Prop :=
  ∀ i r, l[i]? = some r → w.cell? ⟨b, off + i * 2, none⟩ = some (.int .i64 r.k) ∧ w.cell? ⟨b, off + i * 2 + 1, none⟩ = some (.int .i64 r.v)
/-- A slice value that reads as the list. -/
def LabSl (w : World) (v : Value) (l : List LV) : Prop := (l = [] ∧ ∃ A c, v = .slice A 0 c) ∨ ∃ b off c, v = .slice (some ⟨b, off, none⟩) l.length c ∧ b < w.heap.size ∧ LabAt w b off l
theorem LabAt.below {w w' : World} {b off B : Nat} {l : List LV} (h : LabAt w b off l) (hb : Below B w w') (hB : b < B) : LabAt w' b off l := fun i r hr => by
  obtain ⟨h1, h2⟩ := h i r hr
  exact ⟨(hb.cell (p := ⟨b, _, none⟩) hB).trans h1, (hb.cell (p := ⟨b, _, none⟩) hB).trans h2⟩
theorem LabSl.below {w w' : World} {v : Value} {l : List LV} (h : LabSl w v l) (hb : Below w.heap.size w w') : LabSl w' v l := by
  rcases h with h | ⟨b, off, c, rfl, hlt, h⟩
  · exact .inl h
  · exact .inr ⟨b, off, c, rfl, Nat.lt_of_lt_of_le hlt hb.size, h.below hb hlt⟩
theorem LabSl.form {w : World} {v : Value} {l : List LV} (h : LabSl w v l) : ∃ A c, v = .slice A l.length c ∧ (0 < l.length → ∃ b off, A = some ⟨b, off, none⟩ ∧ b < w.heap.size ∧ LabAt w b off l) := by
  rcases h with ⟨rfl, A, c, rfl⟩ | ⟨b, off, c, rfl, hlt, h⟩
  · exact ⟨A, c, rfl, fun h => absurd h (by simp)⟩
  · exact ⟨_, c, rfl, fun _ => ⟨b, off, rfl, hlt, h⟩⟩
/-- The ending 'an array of ten and a bool'. -/
def RetM (m : Nat → Int) (b : Bool) (w : World) (e : Ending) (w' : World) : Prop := e = .returned (.tuple #[.agg #[.int .i64 (m 0), .int .i64 (m 1), .int .i64 (m 2), .int .i64 (m 3), .int .i64 (m 4), .int .i64 (m 5), .int .i64 (m 6), .int .i64 (m 7), .int .i64 (m 8), .int .i64 (m 9)], .bool b]) ∧ Below w.heap.size w w'
theorem readOf_no {l : List LV} (h : labsOk l = false) : readOf l = mzero := by simp [readOf, h]
theorem readOf_yes {l : List LV} (h : labsOk l = true) : readOf l = marksOf mzero l := by simp [readOf, h]

set_option maxHeartbeats 1600000 in
theorem readLabs_long (A : Option Addr) (n c : Nat) (w : World) (h : 6 < n) (hm : n ≤ 1048576) :
    Calls Tryz.prog 200 #[.slice A n c] w (RetM mzero false w) := by
  have h6 : (6 : Int) < (n : Int) := by omega
  go_enter Tryz.func200, Tryz.ntmps200
  go_wp2_with fail
  exact bodyPost_ret (v := .tuple #[.agg #[.int .i64 (mzero 0), .int .i64 (mzero 1), .int .i64 (mzero 2), .int .i64 (mzero 3), .int .i64 (mzero 4), .int .i64 (mzero 5), .int .i64 (mzero 6), .int .i64 (mzero 7), .int .i64 (mzero 8), .int .i64 (mzero 9)], .bool false]) (by simp [results, Tryz.results200, go_sem, mzero]) rfl ⟨rfl, (by repeat' (first | exact Below.refl _ _ | refine Below.alloc ?_ ?_ _ | refine Below.setCell ?_ ?_ _ | refine Below.drew ?_ | (apply below_step; assumption) | (simp; done) | (simp; omega) | omega))⟩

set_option maxHeartbeats 3200000 in
theorem readLabs_short (v : Value) (l : List LV) (w : World) (hv : LabSl w v l) (hlen : l.length ≤ 6) :
    Calls Tryz.prog 200 #[v] w (RetM (readOf l) (labsOk l) w) := by
  obtain ⟨A, c, rfl, hA⟩ := hv.form
  have HA := Lib.hid hA
  have HO := Lib.hid (labsOk_short hlen)
  clear hA hv
  go_enter Tryz.func200, Tryz.ntmps200
  go_wp2_with fail
  go_loopw [5, 15] (fun s5 s15 wr => ∃ (k : Nat) (p : Int) (m : Nat → Int), k ≤ l.length ∧ s15 = .int .i64 k ∧ s5 = .int .i64 p ∧ -1 ≤ p ∧ p ≤ 9 ∧ labsFrom (-1) l = labsFrom p (l.drop k) ∧ marksOf mzero l = marksOf m (l.drop k) ∧ Below w.heap.size w wr ∧ BlockIs wr w.heap.size 221 #[.int .i64 (mzero 0), .int .i64 (mzero 1), .int .i64 (mzero 2), .int .i64 (mzero 3), .int .i64 (mzero 4), .int .i64 (mzero 5), .int .i64 (mzero 6), .int .i64 (mzero 7), .int .i64 (mzero 8), .int .i64 (mzero 9)] ∧ BlockIs wr (w.heap.size + 1) 221 #[.int .i64 (m 0), .int .i64 (m 1), .int .i64 (m 2), .int .i64 (m 3), .int .i64 (m 4), .int .i64 (m 5), .int .i64 (m 6), .int .i64 (m 7), .int .i64 (m 8), .int .i64 (m 9)]) (fun _ s15 _ => (l.length - intOf s15).toNat)
  case atStart =>
    refine ⟨0, -1, mzero, by omega, rfl, rfl, by omega, by omega, by rw [List.drop_zero], by rw [List.drop_zero], (by repeat' (first | exact Below.refl _ _ | refine Below.alloc ?_ ?_ _ | refine Below.setCell ?_ ?_ _ | refine Below.drew ?_ | (apply below_step; assumption) | (simp; done) | (simp; omega) | omega)), ?_, ?_⟩
    · exact (BlockIs.new w _ _).alloc _
    · exact BlockIs.new' (by simp)
  case round =>
    obtain ⟨k, p, m, hk, rfl, rfl, hp1, hp9, hF, hM, hB, hz, hm⟩ := hrel
    have HF := Lib.hid hF
    have HM := Lib.hid hM
    have HZ := Lib.hid hz
    have HMB := Lib.hid hm
    have hzr := hB.size
    have hgl := hm.lt
    clear hF hM
    by_cases hlt : k < l.length
    · obtain ⟨b, off, rfl, hbw, hat⟩ := HA.out (by omega)
      obtain ⟨r, hr⟩ : ∃ r, l[k]? = some r := ⟨_, List.getElem?_eq_getElem hlt⟩
      have HD := Lib.hid (drop_at hr)
      obtain ⟨q0, q1⟩ := (hat.below hB hbw) k r hr
      have hlti : (k : Int) < (l.length : Int) := by omega
      have hbr : b < wr.heap.size := by omega
      clear hat hr hz hm
      cases hro : r.ok
      · have HR := Lib.hid hro
        clear hro
        go_wp2_with fail
        refine (labInRange_no r _ HR.out).mono ?_
        rintro e w3 ⟨rfl, hb3⟩
        have hz3 := hb3.size
        simp at hz3
        have hZ3 := (HZ.out.alloc _).below hb3 (by simp; omega)
        have z0 := (hZ3).cell 0; have z1 := (hZ3).cell 1; have z2 := (hZ3).cell 2; have z3 := (hZ3).cell 3; have z4 := (hZ3).cell 4; have z5 := (hZ3).cell 5; have z6 := (hZ3).cell 6; have z7 := (hZ3).cell 7; have z8 := (hZ3).cell 8; have z9 := (hZ3).cell 9; simp at z0 z1 z2 z3 z4 z5 z6 z7 z8 z9
        have zf := hZ3.frozen
        have HZ3 := Lib.hid hZ3
        clear hZ3
        have hB3 : Below w.heap.size w w3 := (by repeat' (first | exact Below.refl _ _ | refine Below.alloc ?_ ?_ _ | refine Below.setCell ?_ ?_ _ | refine Below.drew ?_ | (apply below_step; assumption) | (simp; done) | (simp; omega) | omega))
        go_wp2_with fail
        have HX : Hid (labsOk l = false) := by
          show _ = _
          rw [HO.out, HF.out, HD.out, labsFrom_bad HR.out]
        rw [readOf_no HX.out, HX.out]
        have hX : BlockIs ((((((((((w3.setCell ⟨w.heap.size, 0, none⟩ (.int .i64 0)).setCell ⟨w.heap.size, 1, none⟩ (.int .i64 0)).setCell ⟨w.heap.size, 2, none⟩ (.int .i64 0)).setCell ⟨w.heap.size, 3, none⟩ (.int .i64 0)).setCell ⟨w.heap.size, 4, none⟩ (.int .i64 0)).setCell ⟨w.heap.size, 5, none⟩ (.int .i64 0)).setCell ⟨w.heap.size, 6, none⟩ (.int .i64 0)).setCell ⟨w.heap.size, 7, none⟩ (.int .i64 0)).setCell ⟨w.heap.size, 8, none⟩ (.int .i64 0)).setCell ⟨w.heap.size, 9, none⟩ (.int .i64 0)) w.heap.size 221 #[.int .i64 (mzero 0), .int .i64 (mzero 1), .int .i64 (mzero 2), .int .i64 (mzero 3), .int .i64 (mzero 4), .int .i64 (mzero 5), .int .i64 (mzero 6), .int .i64 (mzero 7), .int .i64 (mzero 8), .int .i64 (mzero 9)] := put10 mzero HZ3.out
        have hBX : Below w.heap.size w ((((((((((w3.setCell ⟨w.heap.size, 0, none⟩ (.int .i64 0)).setCell ⟨w.heap.size, 1, none⟩ (.int .i64 0)).setCell ⟨w.heap.size, 2, none⟩ (.int .i64 0)).setCell ⟨w.heap.size, 3, none⟩ (.int .i64 0)).setCell ⟨w.heap.size, 4, none⟩ (.int .i64 0)).setCell ⟨w.heap.size, 5, none⟩ (.int .i64 0)).setCell ⟨w.heap.size, 6, none⟩ (.int .i64 0)).setCell ⟨w.heap.size, 7, none⟩ (.int .i64 0)).setCell ⟨w.heap.size, 8, none⟩ (.int .i64 0)).setCell ⟨w.heap.size, 9, none⟩ (.int .i64 0)) := below10 mzero hB3 (Nat.le_refl _)
        generalize ((((((((((w3.setCell ⟨w.heap.size, 0, none⟩ (.int .i64 0)).setCell ⟨w.heap.size, 1, none⟩ (.int .i64 0)).setCell ⟨w.heap.size, 2, none⟩ (.int .i64 0)).setCell ⟨w.heap.size, 3, none⟩ (.int .i64 0)).setCell ⟨w.heap.size, 4, none⟩ (.int .i64 0)).setCell ⟨w.heap.size, 5, none⟩ (.int .i64 0)).setCell ⟨w.heap.size, 6, none⟩ (.int .i64 0)).setCell ⟨w.heap.size, 7, none⟩ (.int .i64 0)).setCell ⟨w.heap.size, 8, none⟩ (.int .i64 0)).setCell ⟨w.heap.size, 9, none⟩ (.int .i64 0)) = X at hX hBX ⊢
        clear z0 z1 z2 z3 z4 z5 z6 z7 z8 z9
        have z0 := (hX).cell 0; have z1 := (hX).cell 1; have z2 := (hX).cell 2; have z3 := (hX).cell 3; have z4 := (hX).cell 4; have z5 := (hX).cell 5; have z6 := (hX).cell 6; have z7 := (hX).cell 7; have z8 := (hX).cell 8; have z9 := (hX).cell 9; simp at z0 z1 z2 z3 z4 z5 z6 z7 z8 z9
        refine bodyPost_ret (v := .tuple #[.agg #[.int .i64 (mzero 0), .int .i64 (mzero 1), .int .i64 (mzero 2), .int .i64 (mzero 3), .int .i64 (mzero 4), .int .i64 (mzero 5), .int .i64 (mzero 6), .int .i64 (mzero 7), .int .i64 (mzero 8), .int .i64 (mzero 9)], .bool false]) (by simp [results, Tryz.results200, go_sem, z0, z1, z2, z3, z4, z5, z6, z7, z8, z9]) rfl ⟨rfl, hBX⟩
      · have HR := Lib.hid hro
        have hkr := LV.ok_iff.1 hro
        have hk0 : 0 ≤ r.k := hkr.1
        have hk9 : r.k ≤ 9 := hkr.2.1
        clear hro hkr
        by_cases hpk : p < r.k
        · have HP := Lib.hid hpk
          go_wp2_with fail
          refine (labInRange_yes r _ HR.out).mono ?_
          rintro e w3 ⟨rfl, hb3⟩
          have hz3 := hb3.size
          simp at hz3
          have hM3 := (HMB.out.alloc _).below hb3 (by simp; omega)
          have hT3 := (BlockIs.new wr 133 #[.int .i64 r.k, .int .i64 r.v]).below hb3 (by simp)
          have z0 := (hM3).cell 0; have z1 := (hM3).cell 1; have z2 := (hM3).cell 2; have z3 := (hM3).cell 3; have z4 := (hM3).cell 4; have z5 := (hM3).cell 5; have z6 := (hM3).cell 6; have z7 := (hM3).cell 7; have z8 := (hM3).cell 8; have z9 := (hM3).cell 9; simp at z0 z1 z2 z3 z4 z5 z6 z7 z8 z9
          have t0 := hT3.cell 0
          have t1 := hT3.cell 1
          simp at t0 t1
          have hw3 : wr.heap.size < w3.heap.size := by omega
          have HM3 := Lib.hid hM3
          have HT3 := Lib.hid hT3
          clear hM3 hT3
          go_wp2_with fail
          refine (with_any m r _ HR.out).mono ?_
          rintro e w4 ⟨rfl, hb4⟩
          have hz4 := hb4.size
          have hM4 := HM3.out.below hb4 (by omega)
          have hT4 := HT3.out.below hb4 (by omega)
          have HM4 := Lib.hid hM4
          clear z0 z1 z2 z3 z4 z5 z6 z7 z8 z9 t0 t1
          have z0 := (hM4).cell 0; have z1 := (hM4).cell 1; have z2 := (hM4).cell 2; have z3 := (hM4).cell 3; have z4 := (hM4).cell 4; have z5 := (hM4).cell 5; have z6 := (hM4).cell 6; have z7 := (hM4).cell 7; have z8 := (hM4).cell 8; have z9 := (hM4).cell 9; simp at z0 z1 z2 z3 z4 z5 z6 z7 z8 z9
          have zf := hM4.frozen
          have t0 := hT4.cell 0
          simp at t0
          have hne : w.heap.size + 1 ≠ wr.heap.size := by omega
          have hB4 : Below w.heap.size w w4 := (by repeat' (first | exact Below.refl _ _ | refine Below.alloc ?_ ?_ _ | refine Below.setCell ?_ ?_ _ | refine Below.drew ?_ | (apply below_step; assumption) | (simp; done) | (simp; omega) | omega))
          have HZ4 := Lib.hid (((HZ.out.alloc _).below hb3 (by simp; omega)).below hb4 (by omega))
          clear hM4 hT4
          go_wp2_with fail
          go_roundw
          case rel =>
            refine ⟨k + 1, r.k, mwith m r, by omega, by go_num, rfl, by omega, by omega, ?_, ?_, ?_, ?_, ?_⟩
            · rw [HF.out, HD.out, labsFrom_yes HR.out HP.out]
            · rw [HM.out, HD.out]; rfl
            · exact below10 (mwith m r) hB4 (by omega)
            · exact far10 (mwith m r) HZ4.out (by omega)
            · exact put10 (mwith m r) HM4.out
          case measure => simp [intOf]; omega
        · have HP := Lib.hid (show r.k ≤ p by omega)
          have hpk' : r.k ≤ p := by omega
          go_wp2_with fail
          refine (labInRange_yes r _ HR.out).mono ?_
          rintro e w3 ⟨rfl, hb3⟩
          have hz3 := hb3.size
          simp at hz3
          have hZ3 := (HZ.out.alloc _).below hb3 (by simp; omega)
          have hT3 := (BlockIs.new wr 133 #[.int .i64 r.k, .int .i64 r.v]).below hb3 (by simp)
          have z0 := (hZ3).cell 0; have z1 := (hZ3).cell 1; have z2 := (hZ3).cell 2; have z3 := (hZ3).cell 3; have z4 := (hZ3).cell 4; have z5 := (hZ3).cell 5; have z6 := (hZ3).cell 6; have z7 := (hZ3).cell 7; have z8 := (hZ3).cell 8; have z9 := (hZ3).cell 9; simp at z0 z1 z2 z3 z4 z5 z6 z7 z8 z9
          have zf := hZ3.frozen
          have t0 := hT3.cell 0
          simp at t0
          have HZ3 := Lib.hid hZ3
          clear hZ3 hT3
          have hB3 : Below w.heap.size w w3 := (by repeat' (first | exact Below.refl _ _ | refine Below.alloc ?_ ?_ _ | refine Below.setCell ?_ ?_ _ | refine Below.drew ?_ | (apply below_step; assumption) | (simp; done) | (simp; omega) | omega))
          go_wp2_with fail
          have HX : Hid (labsOk l = false) := by
            show _ = _
            rw [HO.out, HF.out, HD.out, labsFrom_low HP.out]
          rw [readOf_no HX.out, HX.out]
          have hX : BlockIs ((((((((((w3.setCell ⟨w.heap.size, 0, none⟩ (.int .i64 0)).setCell ⟨w.heap.size, 1, none⟩ (.int .i64 0)).setCell ⟨w.heap.size, 2, none⟩ (.int .i64 0)).setCell ⟨w.heap.size, 3, none⟩ (.int .i64 0)).setCell ⟨w.heap.size, 4, none⟩ (.int .i64 0)).setCell ⟨w.heap.size, 5, none⟩ (.int .i64 0)).setCell ⟨w.heap.size, 6, none⟩ (.int .i64 0)).setCell ⟨w.heap.size, 7, none⟩ (.int .i64 0)).setCell ⟨w.heap.size, 8, none⟩ (.int .i64 0)).setCell ⟨w.heap.size, 9, none⟩ (.int .i64 0)) w.heap.size 221 #[.int .i64 (mzero 0), .int .i64 (mzero 1), .int .i64 (mzero 2), .int .i64 (mzero 3), .int .i64 (mzero 4), .int .i64 (mzero 5), .int .i64 (mzero 6), .int .i64 (mzero 7), .int .i64 (mzero 8), .int .i64 (mzero 9)] := put10 mzero HZ3.out
          have hBX : Below w.heap.size w ((((((((((w3.setCell ⟨w.heap.size, 0, none⟩ (.int .i64 0)).setCell ⟨w.heap.size, 1, none⟩ (.int .i64 0)).setCell ⟨w.heap.size, 2, none⟩ (.int .i64 0)).setCell ⟨w.heap.size, 3, none⟩ (.int .i64 0)).setCell ⟨w.heap.size, 4, none⟩ (.int .i64 0)).setCell ⟨w.heap.size, 5, none⟩ (.int .i64 0)).setCell ⟨w.heap.size, 6, none⟩ (.int .i64 0)).setCell ⟨w.heap.size, 7, none⟩ (.int .i64 0)).setCell ⟨w.heap.size, 8, none⟩ (.int .i64 0)).setCell ⟨w.heap.size, 9, none⟩ (.int .i64 0)) := below10 mzero hB3 (Nat.le_refl _)
          generalize ((((((((((w3.setCell ⟨w.heap.size, 0, none⟩ (.int .i64 0)).setCell ⟨w.heap.size, 1, none⟩ (.int .i64 0)).setCell ⟨w.heap.size, 2, none⟩ (.int .i64 0)).setCell ⟨w.heap.size, 3, none⟩ (.int .i64 0)).setCell ⟨w.heap.size, 4, none⟩ (.int .i64 0)).setCell ⟨w.heap.size, 5, none⟩ (.int .i64 0)).setCell ⟨w.heap.size, 6, none⟩ (.int .i64 0)).setCell ⟨w.heap.size, 7, none⟩ (.int .i64 0)).setCell ⟨w.heap.size, 8, none⟩ (.int .i64 0)).setCell ⟨w.heap.size, 9, none⟩ (.int .i64 0)) = X at hX hBX ⊢
          clear z0 z1 z2 z3 z4 z5 z6 z7 z8 z9
          have z0 := (hX).cell 0; have z1 := (hX).cell 1; have z2 := (hX).cell 2; have z3 := (hX).cell 3; have z4 := (hX).cell 4; have z5 := (hX).cell 5; have z6 := (hX).cell 6; have z7 := (hX).cell 7; have z8 := (hX).cell 8; have z9 := (hX).cell 9; simp at z0 z1 z2 z3 z4 z5 z6 z7 z8 z9
          refine bodyPost_ret (v := .tuple #[.agg #[.int .i64 (mzero 0), .int .i64 (mzero 1), .int .i64 (mzero 2), .int .i64 (mzero 3), .int .i64 (mzero 4), .int .i64 (mzero 5), .int .i64 (mzero 6), .int .i64 (mzero 7), .int .i64 (mzero 8), .int .i64 (mzero 9)], .bool false]) (by simp [results, Tryz.results200, go_sem, z0, z1, z2, z3, z4, z5, z6, z7, z8, z9]) rfl ⟨rfl, hBX⟩
    · have hkl : k = l.length := by omega
      have HF' : Hid (labsOk l = true) := by
        show _ = _
        rw [HO.out, HF.out, hkl, List.drop_length]; rfl
      have HM' : Hid (marksOf mzero l = m) := by
        show _ = _
        rw [HM.out, hkl, List.drop_length]; rfl
      clear hkl
      have z0 := (hz).cell 0; have z1 := (hz).cell 1; have z2 := (hz).cell 2; have z3 := (hz).cell 3; have z4 := (hz).cell 4; have z5 := (hz).cell 5; have z6 := (hz).cell 6; have z7 := (hz).cell 7; have z8 := (hz).cell 8; have z9 := (hz).cell 9; simp at z0 z1 z2 z3 z4 z5 z6 z7 z8 z9
      have y0 := (hm).cell 0; have y1 := (hm).cell 1; have y2 := (hm).cell 2; have y3 := (hm).cell 3; have y4 := (hm).cell 4; have y5 := (hm).cell 5; have y6 := (hm).cell 6; have y7 := (hm).cell 7; have y8 := (hm).cell 8; have y9 := (hm).cell 9; simp at y0 y1 y2 y3 y4 y5 y6 y7 y8 y9
      have zf := hz.frozen
      clear hz hm
      go_wp2_with fail
      rw [readOf_yes HF'.out, HF'.out, HM'.out]
      have hX : BlockIs ((((((((((wr.setCell ⟨w.heap.size, 0, none⟩ (.int .i64 (m 0))).setCell ⟨w.heap.size, 1, none⟩ (.int .i64 (m 1))).setCell ⟨w.heap.size, 2, none⟩ (.int .i64 (m 2))).setCell ⟨w.heap.size, 3, none⟩ (.int .i64 (m 3))).setCell ⟨w.heap.size, 4, none⟩ (.int .i64 (m 4))).setCell ⟨w.heap.size, 5, none⟩ (.int .i64 (m 5))).setCell ⟨w.heap.size, 6, none⟩ (.int .i64 (m 6))).setCell ⟨w.heap.size, 7, none⟩ (.int .i64 (m 7))).setCell ⟨w.heap.size, 8, none⟩ (.int .i64 (m 8))).setCell ⟨w.heap.size, 9, none⟩ (.int .i64 (m 9))) w.heap.size 221 #[.int .i64 (m 0), .int .i64 (m 1), .int .i64 (m 2), .int .i64 (m 3), .int .i64 (m 4), .int .i64 (m 5), .int .i64 (m 6), .int .i64 (m 7), .int .i64 (m 8), .int .i64 (m 9)] := put10 m HZ.out
      have hBX : Below w.heap.size w ((((((((((wr.setCell ⟨w.heap.size, 0, none⟩ (.int .i64 (m 0))).setCell ⟨w.heap.size, 1, none⟩ (.int .i64 (m 1))).setCell ⟨w.heap.size, 2, none⟩ (.int .i64 (m 2))).setCell ⟨w.heap.size, 3, none⟩ (.int .i64 (m 3))).setCell ⟨w.heap.size, 4, none⟩ (.int .i64 (m 4))).setCell ⟨w.heap.size, 5, none⟩ (.int .i64 (m 5))).setCell ⟨w.heap.size, 6, none⟩ (.int .i64 (m 6))).setCell ⟨w.heap.size, 7, none⟩ (.int .i64 (m 7))).setCell ⟨w.heap.size, 8, none⟩ (.int .i64 (m 8))).setCell ⟨w.heap.size, 9, none⟩ (.int .i64 (m 9))) := below10 m hB (Nat.le_refl _)
      generalize ((((((((((wr.setCell ⟨w.heap.size, 0, none⟩ (.int .i64 (m 0))).setCell ⟨w.heap.size, 1, none⟩ (.int .i64 (m 1))).setCell ⟨w.heap.size, 2, none⟩ (.int .i64 (m 2))).setCell ⟨w.heap.size, 3, none⟩ (.int .i64 (m 3))).setCell ⟨w.heap.size, 4, none⟩ (.int .i64 (m 4))).setCell ⟨w.heap.size, 5, none⟩ (.int .i64 (m 5))).setCell ⟨w.heap.size, 6, none⟩ (.int .i64 (m 6))).setCell ⟨w.heap.size, 7, none⟩ (.int .i64 (m 7))).setCell ⟨w.heap.size, 8, none⟩ (.int .i64 (m 8))).setCell ⟨w.heap.size, 9, none⟩ (.int .i64 (m 9))) = X at hX hBX ⊢
      clear z0 z1 z2 z3 z4 z5 z6 z7 z8 z9
      have z0 := (hX).cell 0; have z1 := (hX).cell 1; have z2 := (hX).cell 2; have z3 := (hX).cell 3; have z4 := (hX).cell 4; have z5 := (hX).cell 5; have z6 := (hX).cell 6; have z7 := (hX).cell 7; have z8 := (hX).cell 8; have z9 := (hX).cell 9; simp at z0 z1 z2 z3 z4 z5 z6 z7 z8 z9
      refine bodyPost_ret (v := .tuple #[.agg #[.int .i64 (m 0), .int .i64 (m 1), .int .i64 (m 2), .int .i64 (m 3), .int .i64 (m 4), .int .i64 (m 5), .int .i64 (m 6), .int .i64 (m 7), .int .i64 (m 8), .int .i64 (m 9)], .bool true]) (by simp [results, Tryz.results200, go_sem, z0, z1, z2, z3, z4, z5, z6, z7, z8, z9]) rfl ⟨rfl, hBX⟩

theorem readLabs_any (v : Value) (l : List LV) (w : World) (hv : LabSl w v l) (hlen : l.length ≤ 1048576) :
    Calls Tryz.prog 200 #[v] w (RetM (readOf l) (labsOk l) w) := by
  by_cases h : l.length ≤ 6
  · exact readLabs_short v l w hv h
  · obtain ⟨A, c, rfl, _⟩ := hv.form
    rw [readOf_no (labsOk_long (by omega)), labsOk_long (by omega)]
    exact readLabs_long A l.length c w (by omega) hlen
end Go.Proofs.YtflcacbpceinaaaGreatDoor

namespace Go.Proofs.YtflcacbpceinaaaGreatDoor
open Go.RowKit

theorem LabsOk_any (v : Value) (l : List LV) (w : World) (hv : LabSl w v l) (hlen : l.length ≤ 1048576) :
    Calls Tryz.prog 170 #[v] w fun e w' => e = .returned (.bool (labsOk l)) ∧ Below w.heap.size w w' := by
  have H := Lib.hid (readLabs_any v l w hv hlen)
  clear hv
  go_enter Tryz.func170, Tryz.ntmps170
  go_wp2_with fail
  refine H.out.mono ?_
  rintro e w1 ⟨rfl, hb1⟩
  have hz1 := hb1.size
  go_wp2_with fail
  go_ret
  exact ⟨rfl, (by repeat' (first | exact Below.refl _ _ | refine Below.alloc ?_ ?_ _ | refine Below.setCell ?_ ?_ _ | refine Below.drew ?_ | (apply below_step; assumption) | (simp; done) | (simp; omega) | omega))⟩

theorem getOf_no {l : List LV} {k : Int} (h : labsOk l = false) : getOf l k = (0, false) := by simp [getOf, h]
theorem getOf_yes {l : List LV} {k : Int} (h : labsOk l = true) : getOf l k = findK l k := by simp [getOf, h]
theorem labsOk_from {l : List LV} (h : labsOk l = true) : labsFrom (-1) l = true := by
  simp only [labsOk, Bool.and_eq_true] at h; exact h.2
theorem labsOk_len {l : List LV} (h : labsOk l = true) : l.length ≤ 6 := by
  simp only [labsOk, Bool.and_eq_true, decide_eq_true_eq] at h; exact h.1
theorem readOf_none {l : List LV} (h : labsOk l = true) {k : Nat} (h0 : readOf l k = 0) : getOf l k = (0, false) := by
  rw [readOf_yes h] at h0
  have h1 := (mark_zero (labsOk_from h) k).1 h0
  rw [getOf_yes h]
  have h2 := findK_none h1
  rw [← h1, ← h2]
theorem readOf_some {l : List LV} (h : labsOk l = true) {k : Nat} (h0 : readOf l k ≠ 0) : getOf l k = (readOf l k - 1, true) := by
  rw [readOf_yes h] at h0 ⊢
  have h1 : ¬ (findK l k).2 = false := fun e => h0 ((mark_zero (labsOk_from h) k).2 e)
  have h2 : (findK l k).2 = true := by simpa using h1
  rw [getOf_yes h, mark_at (labsOk_from h), h2]
  simp
  rw [← h2]
theorem readOf_in {l : List LV} (h : labsOk l = true) (k : Nat) : 0 ≤ readOf l k ∧ readOf l k ≤ 10 := by
  rw [readOf_yes h]; exact mark_in (labsOk_from h) k
theorem getOf_out {l : List LV} {k : Int} (h : ¬ (0 ≤ k ∧ k ≤ 9)) : getOf l k = (0, false) := by
  cases e : labsOk l
  · exact getOf_no e
  · rw [getOf_yes e]; exact findK_out (labsOk_from e) (by omega)

/-- The ending 'a number and a bool'. -/
def RetI (z : Int × Bool) (w : World) (e : Ending) (w' : World) : Prop := e = .returned (.tuple #[.int .i64 z.1, .bool z.2]) ∧ Below w.heap.size w w'

theorem hasAll_iff {m p : Nat → Int} : hasAllM m p = true ↔ ∀ i, i < 10 → 0 < p i → p i = m i := by
  unfold hasAllM eqMarks
  simp only [List.all_eq_true, List.mem_range, beq_iff_eq]
  constructor
  · intro h i hi hp
    have := h i hi
    simpa [laidM, hi, hp] using this
  · intro h i hi
    unfold laidM
    by_cases hp : 0 < p i
    · rw [if_pos ⟨hi, hp⟩]; exact h i hi hp
    · rw [if_neg (fun x => hp x.2)]
theorem hasAllOf_iff {a b : List LV} : hasAllOf a b = true ↔ ∀ x ∈ b, findK a x.k = (x.v, true) := by
  induction b with
  | nil => simp [hasAllOf]
  | cons x r ih =>
    simp only [hasAllOf, Bool.and_eq_true, decide_eq_true_eq, ih, List.mem_cons, forall_eq_or_imp]
    constructor
    · rintro ⟨⟨h1, h2⟩, h3⟩
      exact ⟨by rw [← h1, ← h2], h3⟩
    · rintro ⟨h1, h3⟩
      rw [h1]
      exact ⟨⟨rfl, rfl⟩, h3⟩
theorem findK_mem {p : Int} {l : List LV} (h : labsFrom p l = true) {x : LV} (hx : x ∈ l) : findK l x.k = (x.v, true) := by
  induction l generalizing p with
  | nil => cases hx
  | cons y r ih =>
    simp only [labsFrom, Bool.and_eq_true, decide_eq_true_eq] at h
    rcases List.mem_cons.1 hx with rfl | hx
    · simp [findK]
    · have h1 := ih h.2 hx
      have hne : ¬ y.k = x.k := by
        intro e
        rw [findK_above h.2 (k := x.k) (by omega)] at h1
        simp at h1
      simp only [findK, if_neg hne]; exact h1
theorem mem_findK {l : List LV} {k v : Int} (h : findK l k = (v, true)) : ⟨k, v⟩ ∈ l := by
  induction l with
  | nil => simp [findK] at h
  | cons y r ih =>
    unfold findK at h
    split at h
    · rename_i e
      injection h with h1 h2
      subst e; subst h1
      exact List.mem_cons.2 (.inl rfl)
    · exact List.mem_cons.2 (.inr (ih h))
theorem mem_ok {p : Int} {l : List LV} (h : labsFrom p l = true) {x : LV} (hx : x ∈ l) : x.ok = true := by
  induction l generalizing p with
  | nil => cases hx
  | cons y r ih =>
    simp only [labsFrom, Bool.and_eq_true, decide_eq_true_eq] at h
    rcases List.mem_cons.1 hx with rfl | hx
    · exact h.1.1
    · exact ih h.2 hx
/-- What hasAll says of two valid lists. -/
theorem hasAll_of {a b : List LV} (ha : labsOk a = true) (hb : labsOk b = true) : hasAllM (readOf a) (readOf b) = hasAllOf a b := by
  rw [Bool.eq_iff_iff, hasAll_iff, hasAllOf_iff, readOf_yes ha, readOf_yes hb]
  have fa := labsOk_from ha
  have fb := labsOk_from hb
  constructor
  · intro h x hx
    obtain ⟨k0, k9, v0, v9⟩ := LV.ok_iff.1 (mem_ok fb hx)
    obtain ⟨k, hk⟩ := Int.eq_ofNat_of_zero_le k0
    have hf := findK_mem fb hx
    have hm := mark_at fb k
    have hma := mark_at fa k
    have hz := findK_val fa (k := (k : Int))
    rw [hk] at hf
    rw [hf] at hm
    simp at hm
    have := h k (by omega) (by omega)
    rw [hk]
    cases e : (findK a k).2
    · rw [e] at hma; simp at hma; omega
    · rw [e] at hma; simp at hma
      have e1 : (findK a k).1 = x.v := by omega
      rw [← e, ← e1]
  · intro h i hi hp
    have hm := mark_at fb i
    have hma := mark_at fa i
    cases e : (findK b i).2
    · rw [e] at hm; simp at hm; omega
    · rw [e] at hm; simp at hm
      have e' : findK b i = ((findK b i).1, true) := by rw [← e]
      have hx := h _ (mem_findK e')
      simp only at hx
      rw [hx] at hma
      simp at hma
      omega
theorem matchOf_no1 {a b : List LV} (h : labsOk a = false) : matchOf a b = false := by simp [matchOf, h]
theorem matchOf_no2 {a b : List LV} (h : labsOk b = false) : matchOf a b = false := by simp [matchOf, h]
theorem matchOf_yes {a b : List LV} (ha : labsOk a = true) (hb : labsOk b = true) : matchOf a b = hasAllM (readOf a) (readOf b) := by
  rw [hasAll_of ha hb]; simp [matchOf, ha, hb]

set_option maxHeartbeats 1600000 in
theorem LabsMatch_any (v1 v2 : Value) (a b : List LV) (w : World) (h1 : LabSl w v1 a) (h2 : LabSl w v2 b) (hl1 : a.length ≤ 1048576) (hl2 : b.length ≤ 1048576) :
    Calls Tryz.prog 190 #[v1, v2] w fun e w' => e = .returned (.bool (matchOf a b)) ∧ Below w.heap.size w w' := by
  have r1 := readLabs_any v1 a w h1 hl1
  have r2 := fun w1 (hb : Below w.heap.size w w1) => readLabs_any v2 b (w1.alloc (.cells #[.int .i64 (readOf a 0), .int .i64 (readOf a 1), .int .i64 (readOf a 2), .int .i64 (readOf a 3), .int .i64 (readOf a 4), .int .i64 (readOf a 5), .int .i64 (readOf a 6), .int .i64 (readOf a 7), .int .i64 (readOf a 8), .int .i64 (readOf a 9)] 221)) ((h2.below hb).below ((Below.refl _ _).alloc (Nat.le_refl _) _)) hl2
  clear h1 h2
  cases ha : labsOk a
  · rw [ha] at r1
    have R1 := Lib.hid r1
    have HM := Lib.hid (matchOf_no1 (b := b) ha)
    clear r1 r2 ha
    go_enter Tryz.func190, Tryz.ntmps190
    go_wp2_with fail
    refine R1.out.mono ?_
    rintro e w1 ⟨rfl, hb1⟩
    have hz1 := hb1.size
    go_wp2_with fail
    go_ret
    rw [HM.out]
    exact ⟨rfl, (by repeat' (first | exact Below.refl _ _ | refine Below.alloc ?_ ?_ _ | refine Below.setCell ?_ ?_ _ | refine Below.drew ?_ | (apply below_step; assumption) | (simp; done) | (simp; omega) | omega))⟩
  · rw [ha] at r1
    cases hb : labsOk b
    · rw [hb] at r2
      have R1 := Lib.hid r1
      have R2 := Lib.hid r2
      have HM := Lib.hid (matchOf_no2 (a := a) hb)
      clear r1 r2 ha hb
      generalize readOf a = m1 at R1 R2
      go_enter Tryz.func190, Tryz.ntmps190
      go_wp2_with fail
      refine R1.out.mono ?_
      rintro e w1 ⟨rfl, hb1⟩
      have hz1 := hb1.size
      go_wp2_with fail
      refine (R2.out w1 hb1).mono ?_
      rintro e w2 ⟨rfl, hb2⟩
      have hz2 := hb2.size
      simp at hz2
      go_wp2_with fail
      go_ret
      rw [HM.out]
      exact ⟨rfl, (by repeat' (first | exact Below.refl _ _ | refine Below.alloc ?_ ?_ _ | refine Below.setCell ?_ ?_ _ | refine Below.drew ?_ | (apply below_step; assumption) | (simp; done) | (simp; omega) | omega))⟩
    · rw [hb] at r2
      have R1 := Lib.hid r1
      have R2 := Lib.hid r2
      have HM := Lib.hid (matchOf_yes ha hb)
      clear r1 r2 ha hb
      generalize readOf a = m1 at R1 R2 HM
      generalize readOf b = m2 at R2 HM
      go_enter Tryz.func190, Tryz.ntmps190
      go_wp2_with fail
      refine R1.out.mono ?_
      rintro e w1 ⟨rfl, hb1⟩
      have hz1 := hb1.size
      go_wp2_with fail
      refine (R2.out w1 hb1).mono ?_
      rintro e w2 ⟨rfl, hb2⟩
      have hz2 := hb2.size
      simp at hz2
      have hM1 := ((BlockIs.new w1 221 #[.int .i64 (m1 0), .int .i64 (m1 1), .int .i64 (m1 2), .int .i64 (m1 3), .int .i64 (m1 4), .int .i64 (m1 5), .int .i64 (m1 6), .int .i64 (m1 7), .int .i64 (m1 8), .int .i64 (m1 9)]).below hb2 (by simp)).alloc (.cells #[.int .i64 (m2 0), .int .i64 (m2 1), .int .i64 (m2 2), .int .i64 (m2 3), .int .i64 (m2 4), .int .i64 (m2 5), .int .i64 (m2 6), .int .i64 (m2 7), .int .i64 (m2 8), .int .i64 (m2 9)] 221)
      have z0 := (hM1).cell 0; have z1 := (hM1).cell 1; have z2 := (hM1).cell 2; have z3 := (hM1).cell 3; have z4 := (hM1).cell 4; have z5 := (hM1).cell 5; have z6 := (hM1).cell 6; have z7 := (hM1).cell 7; have z8 := (hM1).cell 8; have z9 := (hM1).cell 9; simp at z0 z1 z2 z3 z4 z5 z6 z7 z8 z9
      clear hM1
      go_wp2_with fail
      refine (hasAll_any m1 m2 _).mono ?_
      rintro e w3 ⟨rfl, hb3⟩
      have hz3 := hb3.size
      simp at hz3
      go_wp2_with fail
      go_ret
      rw [HM.out]
      exact ⟨rfl, (by repeat' (first | exact Below.refl _ _ | refine Below.alloc ?_ ?_ _ | refine Below.setCell ?_ ?_ _ | refine Below.drew ?_ | (apply below_step; assumption) | (simp; done) | (simp; omega) | omega))⟩
end Go.Proofs.YtflcacbpceinaaaGreatDoor
