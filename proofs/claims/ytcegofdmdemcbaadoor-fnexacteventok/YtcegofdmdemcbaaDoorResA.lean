/- The contracts of chapter 1's functions: checkRes, checkBoth, outOfRange, keepValid. -/
import Derived.Test.YtcegofdmdemcbaaDoorBase
import Derived.Test.YtcegofdmdemcbaaDoorIs
import Derived.Test.YtcegofdmdemcbaaDoorResPure
namespace Go.Proofs.YtcegofdmdemcbaaDoor
open Go.RowKit

/-- The variable errRange holds a pointer to an errorString. -/
def ErrAt (a : Addr) (w : World) : Prop := w.cell? ⟨0, 0, none⟩ = some (.iface 96 (.pointer (some a)))
theorem ErrAt.lt {a : Addr} {w : World} (h : ErrAt a w) : 0 < w.heap.size := by
  rcases Nat.lt_or_ge 0 w.heap.size with h' | h'
  · exact h'
  · simp [ErrAt, World.cell?, Array.getElem?_eq_none h'] at h
theorem ErrAt.below {a : Addr} {w w' : World} {B : Nat} (h : ErrAt a w) (hb : Below B w w') (hB : w.heap.size ≤ B) : ErrAt a w' := by
  have hl := h.lt
  unfold ErrAt at *
  rw [hb.cell (p := ⟨0, 0, none⟩) (Nat.lt_of_lt_of_le hl hB)]; exact h
theorem ErrAt.alloc {a : Addr} {w : World} (h : ErrAt a w) (o : Obj) : ErrAt a (w.alloc o) := h.below ((Below.refl _ _).alloc (Nat.le_refl _) o) (Nat.le_refl _)

/-- The ending of a check that failed: a fieldError around the sentinel. -/
def BadAt (a : Addr) (w : World) (e : Ending) (w' : World) : Prop := ∃ s : ByteArray, e = .returned (.iface 78 (.agg #[.string s, .iface 96 (.pointer (some a))])) ∧ Below w.heap.size w w'

theorem Tryd.ix0 (x0 x1 x2 x3 x4 x5 : Value) (w : World) : (Instr.index 75 (.agg #[x0, x1, x2, x3, x4, x5]) (.int .i64 0)).run Tryd.prog w = .ok (.agg #[x0, x1]) w := by kernel_rfl
theorem Tryd.ix1 (x0 x1 x2 x3 x4 x5 : Value) (w : World) : (Instr.index 75 (.agg #[x0, x1, x2, x3, x4, x5]) (.int .i64 1)).run Tryd.prog w = .ok (.agg #[x2, x3]) w := by kernel_rfl
theorem Tryd.ix2 (x0 x1 x2 x3 x4 x5 : Value) (w : World) : (Instr.index 75 (.agg #[x0, x1, x2, x3, x4, x5]) (.int .i64 2)).run Tryd.prog w = .ok (.agg #[x4, x5]) w := by kernel_rfl

theorem fieldsOf_any (r : RV) (w : World) :
    Calls Tryd.prog 43 #[.agg #[.int .i64 r.c, .int .i64 r.m, .int .i64 r.p]] w fun e w' => e = .returned (.agg #[.string ⟨#[67, 112, 117]⟩, .int .i64 r.c, .string ⟨#[77, 101, 109]⟩, .int .i64 r.m, .string ⟨#[80, 111, 100, 115]⟩, .int .i64 r.p]) ∧ Below w.heap.size w w' := by
  go_enter Tryd.func43, Tryd.ntmps43
  go_wp2
  exact bodyPost_ret (v := .agg #[.string ⟨#[67, 112, 117]⟩, .int .i64 r.c, .string ⟨#[77, 101, 109]⟩, .int .i64 r.m, .string ⟨#[80, 111, 100, 115]⟩, .int .i64 r.p]) (by simp [results, Tryd.results43, go_sem]) rfl ⟨rfl, (by repeat' (first | exact Below.refl _ _ | refine Below.alloc ?_ ?_ _ | refine Below.setCell ?_ ?_ _ | refine Below.drew ?_ | (apply below_step; assumption) | (simp; done) | (simp; omega) | omega))⟩

theorem checkRes_ok (r : RV) (w : World) (h1 : 0 ≤ r.c) (h2 : r.c ≤ 1000000) (h3 : 0 ≤ r.m) (h4 : r.m ≤ 1000000) (h5 : 0 ≤ r.p) (h6 : r.p ≤ 1000000) :
    Calls Tryd.prog 38 #[.agg #[.int .i64 r.c, .int .i64 r.m, .int .i64 r.p]] w fun e w' => e = .returned .nilIface ∧ Below w.heap.size w w' := by
  have i0 := Tryd.ix0
  have i1 := Tryd.ix1
  have i2 := Tryd.ix2
  go_enter Tryd.func38, Tryd.ntmps38
  go_wp2_with (go_at_call 43; refine (fieldsOf_any r _).mono ?_; rintro e w1 ⟨rfl, hb⟩)
  have hz := hb.size
  simp at hz
  refine wp_loop_rounds 4 ?_
  rw [rounds_succ]
  go_wp2
  rw [rounds_succ]
  go_wp2
  rw [rounds_succ]
  go_wp2
  rw [rounds_succ]
  go_wp2
  go_ret
  exact ⟨rfl, (by repeat' (first | exact Below.refl _ _ | refine Below.alloc ?_ ?_ _ | refine Below.setCell ?_ ?_ _ | refine Below.drew ?_ | (apply below_step; assumption) | (simp; done) | (simp; omega) | omega))⟩

theorem checkRes_bad1 (r : RV) (w : World) (a : Addr) (hg : ErrAt a w) (h : r.c < 0 ∨ 1000000 < r.c) :
    Calls Tryd.prog 38 #[.agg #[.int .i64 r.c, .int .i64 r.m, .int .i64 r.p]] w (BadAt a w) := by
  have hl := hg.lt
  have i0 := Tryd.ix0
  rcases h with h | h
  all_goals
    go_enter Tryd.func38, Tryd.ntmps38
    go_wp2_with (go_at_call 43; refine (fieldsOf_any r _).mono ?_; rintro e w1 ⟨rfl, hb⟩)
    have hz := hb.size
    simp at hz
    have hg1 := (hg.alloc _).below hb (Nat.le_refl _)
    have hl1 := hg1.lt
    have hl0 : 0 < w1.heap.size := by omega
    unfold ErrAt at hg1
    refine wp_loop_rounds 1 ?_
    rw [rounds_succ]
    go_wp2
    go_ret
    exact ⟨_, rfl, (by repeat' (first | exact Below.refl _ _ | refine Below.alloc ?_ ?_ _ | refine Below.setCell ?_ ?_ _ | refine Below.drew ?_ | (apply below_step; assumption) | (simp; done) | (simp; omega) | omega))⟩

theorem checkRes_bad2 (r : RV) (w : World) (a : Addr) (hg : ErrAt a w) (h1 : 0 ≤ r.c) (h2 : r.c ≤ 1000000) (h : r.m < 0 ∨ 1000000 < r.m) :
    Calls Tryd.prog 38 #[.agg #[.int .i64 r.c, .int .i64 r.m, .int .i64 r.p]] w (BadAt a w) := by
  have hl := hg.lt
  have i0 := Tryd.ix0
  have i1 := Tryd.ix1
  rcases h with h | h
  all_goals
    go_enter Tryd.func38, Tryd.ntmps38
    go_wp2_with (go_at_call 43; refine (fieldsOf_any r _).mono ?_; rintro e w1 ⟨rfl, hb⟩)
    have hz := hb.size
    simp at hz
    have hg1 := (hg.alloc _).below hb (Nat.le_refl _)
    have hl1 := hg1.lt
    have hl0 : 0 < w1.heap.size := by omega
    unfold ErrAt at hg1
    refine wp_loop_rounds 2 ?_
    rw [rounds_succ]
    go_wp2
    rw [rounds_succ]
    go_wp2
    go_ret
    exact ⟨_, rfl, (by repeat' (first | exact Below.refl _ _ | refine Below.alloc ?_ ?_ _ | refine Below.setCell ?_ ?_ _ | refine Below.drew ?_ | (apply below_step; assumption) | (simp; done) | (simp; omega) | omega))⟩

theorem checkRes_bad3 (r : RV) (w : World) (a : Addr) (hg : ErrAt a w) (h1 : 0 ≤ r.c) (h2 : r.c ≤ 1000000) (h3 : 0 ≤ r.m) (h4 : r.m ≤ 1000000) (h : r.p < 0 ∨ 1000000 < r.p) :
    Calls Tryd.prog 38 #[.agg #[.int .i64 r.c, .int .i64 r.m, .int .i64 r.p]] w (BadAt a w) := by
  have hl := hg.lt
  have i0 := Tryd.ix0
  have i1 := Tryd.ix1
  have i2 := Tryd.ix2
  rcases h with h | h
  all_goals
    go_enter Tryd.func38, Tryd.ntmps38
    go_wp2_with (go_at_call 43; refine (fieldsOf_any r _).mono ?_; rintro e w1 ⟨rfl, hb⟩)
    have hz := hb.size
    simp at hz
    have hg1 := (hg.alloc _).below hb (Nat.le_refl _)
    have hl1 := hg1.lt
    have hl0 : 0 < w1.heap.size := by omega
    unfold ErrAt at hg1
    refine wp_loop_rounds 3 ?_
    rw [rounds_succ]
    go_wp2
    rw [rounds_succ]
    go_wp2
    rw [rounds_succ]
    go_wp2
    go_ret
    exact ⟨_, rfl, (by repeat' (first | exact Below.refl _ _ | refine Below.alloc ?_ ?_ _ | refine Below.setCell ?_ ?_ _ | refine Below.drew ?_ | (apply below_step; assumption) | (simp; done) | (simp; omega) | omega))⟩

theorem checkRes_yes (r : RV) (w : World) (h : r.ok = true) :
    Calls Tryd.prog 38 #[.agg #[.int .i64 r.c, .int .i64 r.m, .int .i64 r.p]] w fun e w' => e = .returned .nilIface ∧ Below w.heap.size w w' := by
  obtain ⟨h1, h2, h3, h4, h5, h6⟩ := RV.ok_iff.1 h
  exact checkRes_ok r w h1 h2 h3 h4 h5 h6
theorem checkRes_no (r : RV) (w : World) (a : Addr) (hg : ErrAt a w) (h : r.ok = false) : Calls Tryd.prog 38 #[.agg #[.int .i64 r.c, .int .i64 r.m, .int .i64 r.p]] w (BadAt a w) := by
  have h' := RV.bad_iff.1 h
  by_cases hc : 0 ≤ r.c ∧ r.c ≤ 1000000
  · by_cases hm : 0 ≤ r.m ∧ r.m ≤ 1000000
    · exact checkRes_bad3 r w a hg hc.1 hc.2 hm.1 hm.2 (by omega)
    · exact checkRes_bad2 r w a hg hc.1 hc.2 (by omega)
  · exact checkRes_bad1 r w a hg (by omega)
end Go.Proofs.YtcegofdmdemcbaaDoor
