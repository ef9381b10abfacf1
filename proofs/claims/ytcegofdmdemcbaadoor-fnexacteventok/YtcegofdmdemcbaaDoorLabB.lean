/- The contracts of marks.with and marks.hasAll. -/
import Derived.Test.YtcegofdmdemcbaaDoorLabA
namespace Go.Proofs.YtcegofdmdemcbaaDoor
open Go.RowKit

set_option maxHeartbeats 1600000 in
theorem with_any (m : Nat → Int) (l : LV) (w : World) (h : l.ok = true) :
    Calls Tryd.prog 45 #[.agg #[.int .i64 (m 0), .int .i64 (m 1), .int .i64 (m 2), .int .i64 (m 3), .int .i64 (m 4), .int .i64 (m 5), .int .i64 (m 6), .int .i64 (m 7), .int .i64 (m 8), .int .i64 (m 9)], .agg #[.int .i64 l.k, .int .i64 l.v]] w fun e w' => e = .returned (.agg #[.int .i64 (mwith m l 0), .int .i64 (mwith m l 1), .int .i64 (mwith m l 2), .int .i64 (mwith m l 3), .int .i64 (mwith m l 4), .int .i64 (mwith m l 5), .int .i64 (mwith m l 6), .int .i64 (mwith m l 7), .int .i64 (mwith m l 8), .int .i64 (mwith m l 9)]) ∧ Below w.heap.size w w' := by
  obtain ⟨k0, k9, v0, v9⟩ := LV.ok_iff.1 h
  clear h
  obtain ⟨kk, vv⟩ := l
  simp only at k0 k9 v0 v9
  rcases (show kk = 0 ∨ kk = 1 ∨ kk = 2 ∨ kk = 3 ∨ kk = 4 ∨ kk = 5 ∨ kk = 6 ∨ kk = 7 ∨ kk = 8 ∨ kk = 9 by omega) with rfl | rfl | rfl | rfl | rfl | rfl | rfl | rfl | rfl | rfl
  all_goals
    clear k0 k9
    go_enter Tryd.func45, Tryd.ntmps45
    go_wp2_with fail
    refine bodyPost_ret (v := .agg #[.int .i64 (mwith m ⟨_, vv⟩ 0), .int .i64 (mwith m ⟨_, vv⟩ 1), .int .i64 (mwith m ⟨_, vv⟩ 2), .int .i64 (mwith m ⟨_, vv⟩ 3), .int .i64 (mwith m ⟨_, vv⟩ 4), .int .i64 (mwith m ⟨_, vv⟩ 5), .int .i64 (mwith m ⟨_, vv⟩ 6), .int .i64 (mwith m ⟨_, vv⟩ 7), .int .i64 (mwith m ⟨_, vv⟩ 8), .int .i64 (mwith m ⟨_, vv⟩ 9)]) (by simp [results, Tryd.results45, go_sem, mwith]) rfl ⟨rfl, ?_⟩
    exact (by repeat' (first | exact Below.refl _ _ | refine Below.alloc ?_ ?_ _ | refine Below.setCell ?_ ?_ _ | refine Below.drew ?_ | (apply below_step; assumption) | (simp; done) | (simp; omega) | omega))

theorem Tryd.infoInt : ∃ i, Tryd.prog.info? 3 = some i := ⟨_, (Option.eq_some_of_isSome (show (Tryd.prog.info? 3).isSome = true by kernel_rfl))⟩
theorem Tryd.cellsInt : Tryd.prog.cellsOf 3 = 1 := by kernel_rfl
theorem part_int (xs : Array Value) (off : Nat) (v : Value) (h : xs[off]? = some v) (w : World) : (part 3 xs off).run Tryd.prog w = .ok v w := by
  have : (isAgg 3).run Tryd.prog w = .ok false w := by kernel_rfl
  simp [part, this, h]
def eqMarks (a b : Nat → Int) : Bool := (List.range 10).all fun i => a i == b i
theorem equal_marks (a b : Nat → Int) (w : World) : (Op.equalIn 10000 67 (.agg #[.int .i64 (a 0), .int .i64 (a 1), .int .i64 (a 2), .int .i64 (a 3), .int .i64 (a 4), .int .i64 (a 5), .int .i64 (a 6), .int .i64 (a 7), .int .i64 (a 8), .int .i64 (a 9)]) (.agg #[.int .i64 (b 0), .int .i64 (b 1), .int .i64 (b 2), .int .i64 (b 3), .int .i64 (b 4), .int .i64 (b 5), .int .i64 (b 6), .int .i64 (b 7), .int .i64 (b 8), .int .i64 (b 9)])).run Tryd.prog w = .ok (eqMarks a b) w := by
  obtain ⟨i, hi⟩ := Tryd.infoInt
  rw [run_equalIn_array w 9999 _ _ Tryd.underlying67 hi, Tryd.cellsInt]
  have : ∀ is : List Nat, (∀ i ∈ is, i < 10) → (Op.eqItems 9999 3 1 #[.int .i64 (a 0), .int .i64 (a 1), .int .i64 (a 2), .int .i64 (a 3), .int .i64 (a 4), .int .i64 (a 5), .int .i64 (a 6), .int .i64 (a 7), .int .i64 (a 8), .int .i64 (a 9)] #[.int .i64 (b 0), .int .i64 (b 1), .int .i64 (b 2), .int .i64 (b 3), .int .i64 (b 4), .int .i64 (b 5), .int .i64 (b 6), .int .i64 (b 7), .int .i64 (b 8), .int .i64 (b 9)] is).run Tryd.prog w = .ok (is.all fun i => a i == b i) w := by
    intro is
    induction is with
    | nil => intro _; simp [Op.eqItems]
    | cons x r ih =>
      intro h
      have hx := h x (by simp)
      have e1 := part_int #[.int .i64 (a 0), .int .i64 (a 1), .int .i64 (a 2), .int .i64 (a 3), .int .i64 (a 4), .int .i64 (a 5), .int .i64 (a 6), .int .i64 (a 7), .int .i64 (a 8), .int .i64 (a 9)] x _ (mcell a x hx) w
      have e2 := part_int #[.int .i64 (b 0), .int .i64 (b 1), .int .i64 (b 2), .int .i64 (b 3), .int .i64 (b 4), .int .i64 (b 5), .int .i64 (b 6), .int .i64 (b 7), .int .i64 (b 8), .int .i64 (b 9)] x _ (mcell b x hx) w
      have e3 := run_equalIn_int (P := Tryd.prog) w 9998 3 .i64 .i64 (a x) (b x) Tryd.underlying3
      simp only [Op.eqItems, Nat.mul_one, Sem.run_bind, e1, e2, e3, Result.andThen_ok, List.all_cons]
      cases a x == b x
      · simp
      · simpa using ih (fun i hi => h i (by simp [hi]))
  exact this (List.range 10) (by simp)
theorem eql_marks (a b : Nat → Int) (w : World) : (binOp .eql 67 (.agg #[.int .i64 (a 0), .int .i64 (a 1), .int .i64 (a 2), .int .i64 (a 3), .int .i64 (a 4), .int .i64 (a 5), .int .i64 (a 6), .int .i64 (a 7), .int .i64 (a 8), .int .i64 (a 9)]) (.agg #[.int .i64 (b 0), .int .i64 (b 1), .int .i64 (b 2), .int .i64 (b 3), .int .i64 (b 4), .int .i64 (b 5), .int .i64 (b 6), .int .i64 (b 7), .int .i64 (b 8), .int .i64 (b 9)])).run Tryd.prog w = .ok (.bool (eqMarks a b)) w := by
  rw [run_eql_struct, equal_marks]; rfl
theorem guard_marks (a b : Array Value) (x y : Operand) (w : World) : (eqGuard .eql 67 x y (.agg a) (.agg b)).run Tryd.prog w = .ok () w := run_eqGuard_agg w .eql _ x y a b (by kernel_rfl)
end Go.Proofs.YtcegofdmdemcbaaDoor
