/- The contracts of chapter 1's functions: checkRes, checkBoth, outOfRange, keepValid. The contracts of chapter 1's functions: outOfRange, checkBoth, keepValid, ResOk, ResAdd, ResSub, ResFits. The contracts of ResOk, ResAdd, ResSub, ResFits. -/
import Derived.Test.YtflcacbpceinaaaGreatDoorBase
import Derived.Test.YtflcacbpceinaaaGreatDoorIs
import Derived.Test.YtflcacbpceinaaaGreatDoorMgPure
namespace Go.Proofs.YtflcacbpceinaaaGreatDoor
open Go.RowKit

/-- The variable errRange holds a pointer to an errorString. -/
def ErrAt (a : Addr) (w : World) : Prop := w.cell? ⟨2, 0, none⟩ = some (.iface 235 (.pointer (some a)))
theorem ErrAt.lt {a : Addr} {w : World} (h : ErrAt a w) : 2 < w.heap.size := by
  rcases Nat.lt_or_ge 2 w.heap.size with h' | h'
  · exact h'
  · simp [ErrAt, World.cell?, Array.getElem?_eq_none h'] at h
theorem ErrAt.below {a : Addr} {w w' : World} {B : Nat} (h : ErrAt a w) (hb : Below B w w') (hB : w.heap.size ≤ B) : ErrAt a w' := by
  have hl := h.lt
  unfold ErrAt at *
  rw [hb.cell (p := ⟨2, 0, none⟩) (Nat.lt_of_lt_of_le hl hB)]; exact h
theorem ErrAt.alloc {a : Addr} {w : World} (h : ErrAt a w) (o : Obj) : ErrAt a (w.alloc o) := h.below ((Below.refl _ _).alloc (Nat.le_refl _) o) (Nat.le_refl _)

/-- The ending of a check that failed: a fieldError around the sentinel. -/
def BadAt (a : Addr) (w : World) (e : Ending) (w' : World) : Prop := ∃ s : ByteArray, e = .returned (.iface 204 (.agg #[.string s, .iface 235 (.pointer (some a))])) ∧ Below w.heap.size w w'

theorem Tryz.ix0 (x0 x1 x2 x3 x4 x5 : Value) (w : World) : (Instr.index 170 (.agg #[x0, x1, x2, x3, x4, x5]) (.int .i64 0)).run Tryz.prog w = .ok (.agg #[x0, x1]) w := by kernel_rfl
theorem Tryz.ix1 (x0 x1 x2 x3 x4 x5 : Value) (w : World) : (Instr.index 170 (.agg #[x0, x1, x2, x3, x4, x5]) (.int .i64 1)).run Tryz.prog w = .ok (.agg #[x2, x3]) w := by kernel_rfl
theorem Tryz.ix2 (x0 x1 x2 x3 x4 x5 : Value) (w : World) : (Instr.index 170 (.agg #[x0, x1, x2, x3, x4, x5]) (.int .i64 2)).run Tryz.prog w = .ok (.agg #[x4, x5]) w := by kernel_rfl

theorem fieldsOf_any (r : RV) (w : World) :
    Calls Tryz.prog 160 #[.agg #[.int .i64 r.c, .int .i64 r.m, .int .i64 r.p]] w fun e w' => e = .returned (.agg #[.string ⟨#[67, 112, 117]⟩, .int .i64 r.c, .string ⟨#[77, 101, 109]⟩, .int .i64 r.m, .string ⟨#[80, 111, 100, 115]⟩, .int .i64 r.p]) ∧ Below w.heap.size w w' := by
  go_enter Tryz.func160, Tryz.ntmps160
  go_wp2
  exact bodyPost_ret (v := .agg #[.string ⟨#[67, 112, 117]⟩, .int .i64 r.c, .string ⟨#[77, 101, 109]⟩, .int .i64 r.m, .string ⟨#[80, 111, 100, 115]⟩, .int .i64 r.p]) (by simp [results, Tryz.results160, go_sem]) rfl ⟨rfl, (by repeat' (first | exact Below.refl _ _ | refine Below.alloc ?_ ?_ _ | refine Below.setCell ?_ ?_ _ | refine Below.drew ?_ | (apply below_step; assumption) | (simp; done) | (simp; omega) | omega))⟩

theorem checkRes_ok (r : RV) (w : World) (h1 : 0 ≤ r.c) (h2 : r.c ≤ 1000000) (h3 : 0 ≤ r.m) (h4 : r.m ≤ 1000000) (h5 : 0 ≤ r.p) (h6 : r.p ≤ 1000000) :
    Calls Tryz.prog 195 #[.agg #[.int .i64 r.c, .int .i64 r.m, .int .i64 r.p]] w fun e w' => e = .returned .nilIface ∧ Below w.heap.size w w' := by
  have i0 := Tryz.ix0
  have i1 := Tryz.ix1
  have i2 := Tryz.ix2
  go_enter Tryz.func195, Tryz.ntmps195
  go_wp2_with (go_at_call 160; refine (fieldsOf_any r _).mono ?_; rintro e w1 ⟨rfl, hb⟩)
  have hz := hb.size
  simp at hz
  refine wp_loop_rounds 4 ?_
  rw [rounds_succ]
  go_wp2
  rw [rounds_succ]
  go_wp2
  rw [rounds_succ]
  go_wp2
  rw [rounds_succ]
  go_wp2
  go_ret
  exact ⟨rfl, (by repeat' (first | exact Below.refl _ _ | refine Below.alloc ?_ ?_ _ | refine Below.setCell ?_ ?_ _ | refine Below.drew ?_ | (apply below_step; assumption) | (simp; done) | (simp; omega) | omega))⟩

theorem checkRes_bad1 (r : RV) (w : World) (a : Addr) (hg : ErrAt a w) (h : r.c < 0 ∨ 1000000 < r.c) :
    Calls Tryz.prog 195 #[.agg #[.int .i64 r.c, .int .i64 r.m, .int .i64 r.p]] w (BadAt a w) := by
  have hl := hg.lt
  have i0 := Tryz.ix0
  rcases h with h | h
  all_goals
    go_enter Tryz.func195, Tryz.ntmps195
    go_wp2_with (go_at_call 160; refine (fieldsOf_any r _).mono ?_; rintro e w1 ⟨rfl, hb⟩)
    have hz := hb.size
    simp at hz
    have hg1 := (hg.alloc _).below hb (Nat.le_refl _)
    have hl1 := hg1.lt
    have hl0 : 0 < w1.heap.size := by omega
    unfold ErrAt at hg1
    refine wp_loop_rounds 1 ?_
    rw [rounds_succ]
    go_wp2
    go_ret
    exact ⟨_, rfl, (by repeat' (first | exact Below.refl _ _ | refine Below.alloc ?_ ?_ _ | refine Below.setCell ?_ ?_ _ | refine Below.drew ?_ | (apply below_step; assumption) | (simp; done) | (simp; omega) | omega))⟩

theorem checkRes_bad2 (r : RV) (w : World) (a : Addr) (hg : ErrAt a w) (h1 : 0 ≤ r.c) (h2 : r.c ≤ 1000000) (h : r.m < 0 ∨ 1000000 < r.m) :
    Calls Tryz.prog 195 #[.agg #[.int .i64 r.c, .int .i64 r.m, .int .i64 r.p]] w (BadAt a w) := by
  have hl := hg.lt
  have i0 := Tryz.ix0
  have i1 := Tryz.ix1
  rcases h with h | h
  all_goals
    go_enter Tryz.func195, Tryz.ntmps195
    go_wp2_with (go_at_call 160; refine (fieldsOf_any r _).mono ?_; rintro e w1 ⟨rfl, hb⟩)
    have hz := hb.size
    simp at hz
    have hg1 := (hg.alloc _).below hb (Nat.le_refl _)
    have hl1 := hg1.lt
    have hl0 : 0 < w1.heap.size := by omega
    unfold ErrAt at hg1
    refine wp_loop_rounds 2 ?_
    rw [rounds_succ]
    go_wp2
    rw [rounds_succ]
    go_wp2
    go_ret
    exact ⟨_, rfl, (by repeat' (first | exact Below.refl _ _ | refine Below.alloc ?_ ?_ _ | refine Below.setCell ?_ ?_ _ | refine Below.drew ?_ | (apply below_step; assumption) | (simp; done) | (simp; omega) | omega))⟩

theorem checkRes_bad3 (r : RV) (w : World) (a : Addr) (hg : ErrAt a w) (h1 : 0 ≤ r.c) (h2 : r.c ≤ 1000000) (h3 : 0 ≤ r.m) (h4 : r.m ≤ 1000000) (h : r.p < 0 ∨ 1000000 < r.p) :
    Calls Tryz.prog 195 #[.agg #[.int .i64 r.c, .int .i64 r.m, .int .i64 r.p]] w (BadAt a w) := by
  have hl := hg.lt
  have i0 := Tryz.ix0
  have i1 := Tryz.ix1
  have i2 := Tryz.ix2
  rcases h with h | h
  all_goals
    go_enter Tryz.func195, Tryz.ntmps195
    go_wp2_with (go_at_call 160; refine (fieldsOf_any r _).mono ?_; rintro e w1 ⟨rfl, hb⟩)
    have hz := hb.size
    simp at hz
    have hg1 := (hg.alloc _).below hb (Nat.le_refl _)
    have hl1 := hg1.lt
    have hl0 : 0 < w1.heap.size := by omega
    unfold ErrAt at hg1
    refine wp_loop_rounds 3 ?_
    rw [rounds_succ]
    go_wp2
    rw [rounds_succ]
    go_wp2
    rw [rounds_succ]
    go_wp2
    go_ret
    exact ⟨_, rfl, (by repeat' (first | exact Below.refl _ _ | refine Below.alloc ?_ ?_ _ | refine Below.setCell ?_ ?_ _ | refine Below.drew ?_ | (apply below_step; assumption) | (simp; done) | (simp; omega) | omega))⟩

theorem checkRes_yes (r : RV) (w : World) (h : r.ok = true) :
    Calls Tryz.prog 195 #[.agg #[.int .i64 r.c, .int .i64 r.m, .int .i64 r.p]] w fun e w' => e = .returned .nilIface ∧ Below w.heap.size w w' := by
  obtain ⟨h1, h2, h3, h4, h5, h6⟩ := RV.ok_iff.1 h
  exact checkRes_ok r w h1 h2 h3 h4 h5 h6
theorem checkRes_no (r : RV) (w : World) (a : Addr) (hg : ErrAt a w) (h : r.ok = false) : Calls Tryz.prog 195 #[.agg #[.int .i64 r.c, .int .i64 r.m, .int .i64 r.p]] w (BadAt a w) := by
  have h' := RV.bad_iff.1 h
  by_cases hc : 0 ≤ r.c ∧ r.c ≤ 1000000
  · by_cases hm : 0 ≤ r.m ∧ r.m ≤ 1000000
    · exact checkRes_bad3 r w a hg hc.1 hc.2 hm.1 hm.2 (by omega)
    · exact checkRes_bad2 r w a hg hc.1 hc.2 (by omega)
  · exact checkRes_bad1 r w a hg (by omega)
end Go.Proofs.YtflcacbpceinaaaGreatDoor

namespace Go.Proofs.YtflcacbpceinaaaGreatDoor
open Go.RowKit

theorem outOfRange_nil (w : World) (a : Addr) (hg : ErrAt a w) :
    Calls Tryz.prog 158 #[.nilIface] w fun e w' => e = .returned (.bool false) ∧ w = w' := by
  unfold ErrAt at hg
  go_enter Tryz.func158, Tryz.ntmps158
  go_wp2_with (go_at_call 162; refine (is_nil a _).mono ?_; rintro e w1 ⟨rfl, rfl⟩)
  go_ret
  exact ⟨rfl, rfl⟩
theorem outOfRange_bad (s : ByteArray) (w : World) (a : Addr) (hg : ErrAt a w) :
    Calls Tryz.prog 158 #[.iface 204 (.agg #[.string s, .iface 235 (.pointer (some a))])] w fun e w' => e = .returned (.bool true) ∧ Below w.heap.size w w' := by
  unfold ErrAt at hg
  go_enter Tryz.func158, Tryz.ntmps158
  go_wp2_with (go_at_call 162; refine (is_field s a _).mono ?_; rintro e w1 ⟨rfl, hb⟩)
  go_ret
  exact ⟨rfl, hb⟩

theorem checkBoth_yes (a b : RV) (w : World) (ha : a.ok = true) (hb : b.ok = true) :
    Calls Tryz.prog 159 #[.agg #[.int .i64 a.c, .int .i64 a.m, .int .i64 a.p], .agg #[.int .i64 b.c, .int .i64 b.m, .int .i64 b.p]] w fun e w' => e = .returned .nilIface ∧ Below w.heap.size w w' := by
  have HA := Lib.hid ha
  have HB := Lib.hid hb
  clear ha hb
  go_enter Tryz.func159, Tryz.ntmps159
  go_wp2_with fail
  refine (checkRes_yes a _ HA.out).mono ?_
  rintro e w1 ⟨rfl, hb1⟩
  have hz1 := hb1.size
  simp at hz1
  obtain ⟨hc1, hf1⟩ := bcell hb1
  go_wp2_with fail
  refine (checkRes_yes b _ HB.out).mono ?_
  rintro e w2 ⟨rfl, hb2⟩
  have hz2 := hb2.size
  go_wp2_with fail
  go_ret
  exact ⟨rfl, (by repeat' (first | exact Below.refl _ _ | refine Below.alloc ?_ ?_ _ | refine Below.setCell ?_ ?_ _ | refine Below.drew ?_ | (apply below_step; assumption) | (simp; done) | (simp; omega) | omega))⟩

theorem checkBoth_no1 (a b : RV) (w : World) (x : Addr) (hg : ErrAt x w) (ha : a.ok = false) :
    Calls Tryz.prog 159 #[.agg #[.int .i64 a.c, .int .i64 a.m, .int .i64 a.p], .agg #[.int .i64 b.c, .int .i64 b.m, .int .i64 b.p]] w (BadAt x w) := by
  have HA := Lib.hid ha
  clear ha
  go_enter Tryz.func159, Tryz.ntmps159
  go_wp2_with fail
  refine (checkRes_no a _ x ((hg.alloc _).alloc _) HA.out).mono ?_
  rintro e w1 ⟨s, rfl, hb1⟩
  have hz1 := hb1.size
  simp at hz1
  go_wp2_with fail
  go_ret
  exact ⟨_, rfl, (by repeat' (first | exact Below.refl _ _ | refine Below.alloc ?_ ?_ _ | refine Below.setCell ?_ ?_ _ | refine Below.drew ?_ | (apply below_step; assumption) | (simp; done) | (simp; omega) | omega))⟩

theorem checkBoth_no2 (a b : RV) (w : World) (x : Addr) (hg : ErrAt x w) (ha : a.ok = true) (hb : b.ok = false) :
    Calls Tryz.prog 159 #[.agg #[.int .i64 a.c, .int .i64 a.m, .int .i64 a.p], .agg #[.int .i64 b.c, .int .i64 b.m, .int .i64 b.p]] w (BadAt x w) := by
  have HA := Lib.hid ha
  have HB := Lib.hid hb
  clear ha hb
  go_enter Tryz.func159, Tryz.ntmps159
  go_wp2_with fail
  refine (checkRes_yes a _ HA.out).mono ?_
  rintro e w1 ⟨rfl, hb1⟩
  have hz1 := hb1.size
  simp at hz1
  obtain ⟨hc1, hf1⟩ := bcell hb1
  go_wp2_with fail
  refine (checkRes_no b _ x (((hg.alloc _).alloc _).below hb1 (Nat.le_refl _)) HB.out).mono ?_
  rintro e w2 ⟨s, rfl, hb2⟩
  have hz2 := hb2.size
  go_wp2_with fail
  go_ret
  exact ⟨_, rfl, (by repeat' (first | exact Below.refl _ _ | refine Below.alloc ?_ ?_ _ | refine Below.setCell ?_ ?_ _ | refine Below.drew ?_ | (apply below_step; assumption) | (simp; done) | (simp; omega) | omega))⟩
theorem keepValid_yes (r : RV) (w : World) (x : Addr) (hg : ErrAt x w) (h : r.ok = true) :
    Calls Tryz.prog 193 #[.agg #[.int .i64 r.c, .int .i64 r.m, .int .i64 r.p]] w fun e w' => e = .returned (.tuple #[.agg #[.int .i64 r.c, .int .i64 r.m, .int .i64 r.p], .bool true]) ∧ Below w.heap.size w w' := by
  have H := Lib.hid h
  clear h
  go_enter Tryz.func193, Tryz.ntmps193
  go_wp2_with fail
  refine (checkRes_yes r _ H.out).mono ?_
  rintro e w1 ⟨rfl, hb1⟩
  have hz1 := hb1.size
  simp at hz1
  obtain ⟨hc1, hf1⟩ := bcell hb1
  go_wp2_with fail
  refine (outOfRange_nil _ x (((hg.alloc _).alloc _).below hb1 (Nat.le_refl _))).mono ?_
  rintro e w2 ⟨rfl, rfl⟩
  go_wp2_with fail
  exact bodyPost_ret (v := .tuple #[.agg #[.int .i64 r.c, .int .i64 r.m, .int .i64 r.p], .bool true]) (by simp [results, Tryz.results193, go_sem, hc1]) rfl ⟨rfl, (by repeat' (first | exact Below.refl _ _ | refine Below.alloc ?_ ?_ _ | refine Below.setCell ?_ ?_ _ | refine Below.drew ?_ | (apply below_step; assumption) | (simp; done) | (simp; omega) | omega))⟩

theorem keepValid_no (r : RV) (w : World) (x : Addr) (hg : ErrAt x w) (h : r.ok = false) :
    Calls Tryz.prog 193 #[.agg #[.int .i64 r.c, .int .i64 r.m, .int .i64 r.p]] w fun e w' => e = .returned (.tuple #[.agg #[.int .i64 0, .int .i64 0, .int .i64 0], .bool false]) ∧ Below w.heap.size w w' := by
  have H := Lib.hid h
  clear h
  go_enter Tryz.func193, Tryz.ntmps193
  go_wp2_with fail
  refine (checkRes_no r _ x ((hg.alloc _).alloc _) H.out).mono ?_
  rintro e w1 ⟨s, rfl, hb1⟩
  have hz1 := hb1.size
  simp at hz1
  obtain ⟨hc1, hf1⟩ := bcell hb1
  go_wp2_with fail
  refine (outOfRange_bad s _ x (((hg.alloc _).alloc _).below hb1 (Nat.le_refl _))).mono ?_
  rintro e w2 ⟨rfl, hb2⟩
  have hz2 := hb2.size
  obtain ⟨hc2, hf2⟩ := bcell hb2
  have hs1 : w.heap.size + 1 < w1.heap.size := by omega
  go_wp2_with fail
  exact bodyPost_ret (v := .tuple #[.agg #[.int .i64 0, .int .i64 0, .int .i64 0], .bool false]) (by simp [results, Tryz.results193, go_sem, hc1, hc2, hs1]) rfl ⟨rfl, (by repeat' (first | exact Below.refl _ _ | refine Below.alloc ?_ ?_ _ | refine Below.setCell ?_ ?_ _ | refine Below.drew ?_ | (apply below_step; assumption) | (simp; done) | (simp; omega) | omega))⟩
end Go.Proofs.YtflcacbpceinaaaGreatDoor

namespace Go.Proofs.YtflcacbpceinaaaGreatDoor
open Go.RowKit

theorem keepValid_any (r : RV) (w : World) (x : Addr) (hg : ErrAt x w) : Calls Tryz.prog 193 #[.agg #[.int .i64 r.c, .int .i64 r.m, .int .i64 r.p]] w (RetR r.kept r.ok w) := by
  cases h : r.ok
  · rw [RV.kept_no h]; exact keepValid_no r w x hg h
  · rw [RV.kept_yes h]; exact keepValid_yes r w x hg h
theorem ResOk_any (r : RV) (w : World) (x : Addr) (hg : ErrAt x w) :
    Calls Tryz.prog 169 #[.agg #[.int .i64 r.c, .int .i64 r.m, .int .i64 r.p]] w fun e w' => e = .returned (.bool r.ok) ∧ Below w.heap.size w w' := by
  cases h : r.ok
  · have H := Lib.hid h
    clear h
    go_enter Tryz.func169, Tryz.ntmps169
    go_wp2_with fail
    refine (checkRes_no r _ x (hg.alloc _) H.out).mono ?_
    rintro e w1 ⟨s, rfl, hb1⟩
    have hz1 := hb1.size
    simp at hz1
    go_wp2_with fail
    refine (outOfRange_bad s _ x ((hg.alloc _).below hb1 (Nat.le_refl _))).mono ?_
    rintro e w2 ⟨rfl, hb2⟩
    have hz2 := hb2.size
    go_wp2_with fail
    go_ret
    exact ⟨rfl, (by repeat' (first | exact Below.refl _ _ | refine Below.alloc ?_ ?_ _ | refine Below.setCell ?_ ?_ _ | refine Below.drew ?_ | (apply below_step; assumption) | (simp; done) | (simp; omega) | omega))⟩
  · have H := Lib.hid h
    clear h
    go_enter Tryz.func169, Tryz.ntmps169
    go_wp2_with fail
    refine (checkRes_yes r _ H.out).mono ?_
    rintro e w1 ⟨rfl, hb1⟩
    have hz1 := hb1.size
    simp at hz1
    go_wp2_with fail
    refine (outOfRange_nil _ x ((hg.alloc _).below hb1 (Nat.le_refl _))).mono ?_
    rintro e w2 ⟨rfl, rfl⟩
    go_wp2_with fail
    go_ret
    exact ⟨rfl, (by repeat' (first | exact Below.refl _ _ | refine Below.alloc ?_ ?_ _ | refine Below.setCell ?_ ?_ _ | refine Below.drew ?_ | (apply below_step; assumption) | (simp; done) | (simp; omega) | omega))⟩

theorem ResAdd_in (a b : RV) (w : World) (x : Addr) (hg : ErrAt x w) (ha : a.ok = true) (hb : b.ok = true) :
    Calls Tryz.prog 156 #[.agg #[.int .i64 a.c, .int .i64 a.m, .int .i64 a.p], .agg #[.int .i64 b.c, .int .i64 b.m, .int .i64 b.p]] w (RetR (a.add b).kept (a.add b).ok w) := by
  have hA := RV.ok_iff.1 ha
  have hB := RV.ok_iff.1 hb
  have HA := Lib.hid ha
  have HB := Lib.hid hb
  clear ha hb
  obtain ⟨a1, a2, a3, a4, a5, a6⟩ := hA
  obtain ⟨b1, b2, b3, b4, b5, b6⟩ := hB
  go_enter Tryz.func156, Tryz.ntmps156
  go_wp2_with fail
  refine (checkBoth_yes a b _ HA.out HB.out).mono ?_
  rintro e w1 ⟨rfl, hb1⟩
  have hz1 := hb1.size
  simp at hz1
  obtain ⟨hc1, hf1⟩ := bcell hb1
  have hg1 := (((hg.alloc _).alloc _).alloc _).below hb1 (Nat.le_refl _)
  go_wp2_with fail
  refine (outOfRange_nil _ x hg1).mono ?_
  rintro e w2 ⟨rfl, rfl⟩
  go_wp2_with fail
  refine (keepValid_any ⟨a.c + b.c, a.m + b.m, a.p + b.p⟩ _ x hg1).mono ?_
  rintro e w2 ⟨rfl, hb2⟩
  have hz2 := hb2.size
  obtain ⟨hc2, hf2⟩ := bcell hb2
  have hs1 : w.heap.size + 1 + 1 < w1.heap.size := by omega
  go_wp2_with fail
  refine bodyPost_ret (v := .tuple #[.agg #[.int .i64 (a.add b).kept.c, .int .i64 (a.add b).kept.m, .int .i64 (a.add b).kept.p], .bool (a.add b).ok]) (by simp [results, Tryz.results156, go_sem, hc1, hc2, hs1]; exact ⟨⟨rfl, rfl, rfl⟩, rfl⟩) rfl ⟨rfl, (by repeat' (first | exact Below.refl _ _ | refine Below.alloc ?_ ?_ _ | refine Below.setCell ?_ ?_ _ | refine Below.drew ?_ | (apply below_step; assumption) | (simp; done) | (simp; omega) | omega))⟩

theorem ResAdd_out (a b : RV) (w : World) (x : Addr) (hg : ErrAt x w) (h : a.ok = false ∨ b.ok = false) :
    Calls Tryz.prog 156 #[.agg #[.int .i64 a.c, .int .i64 a.m, .int .i64 a.p], .agg #[.int .i64 b.c, .int .i64 b.m, .int .i64 b.p]] w (RetR RV.zero false w) := by
  have hcb : ∀ w, ErrAt x w → Calls Tryz.prog 159 #[.agg #[.int .i64 a.c, .int .i64 a.m, .int .i64 a.p], .agg #[.int .i64 b.c, .int .i64 b.m, .int .i64 b.p]] w (BadAt x w) := by
    intro w hg
    cases ha : a.ok
    · exact checkBoth_no1 a b w x hg ha
    · exact checkBoth_no2 a b w x hg ha (by rcases h with h | h; (rw [ha] at h; cases h); exact h)
  have HC := Lib.hid hcb
  clear hcb h
  go_enter Tryz.func156, Tryz.ntmps156
  go_wp2_with fail
  refine (HC.out _ (((hg.alloc _).alloc _).alloc _)).mono ?_
  rintro e w1 ⟨s, rfl, hb1⟩
  have hz1 := hb1.size
  simp at hz1
  obtain ⟨hc1, hf1⟩ := bcell hb1
  have hg1 := (((hg.alloc _).alloc _).alloc _).below hb1 (Nat.le_refl _)
  go_wp2_with fail
  refine (outOfRange_bad s _ x hg1).mono ?_
  rintro e w2 ⟨rfl, hb2⟩
  have hz2 := hb2.size
  obtain ⟨hc2, hf2⟩ := bcell hb2
  have hs1 : w.heap.size + 1 + 1 < w1.heap.size := by omega
  go_wp2_with fail
  refine bodyPost_ret (v := .tuple #[.agg #[.int .i64 RV.zero.c, .int .i64 RV.zero.m, .int .i64 RV.zero.p], .bool false]) (by simp [results, Tryz.results156, go_sem, hc1, hc2, hs1, RV.zero]) rfl ⟨rfl, (by repeat' (first | exact Below.refl _ _ | refine Below.alloc ?_ ?_ _ | refine Below.setCell ?_ ?_ _ | refine Below.drew ?_ | (apply below_step; assumption) | (simp; done) | (simp; omega) | omega))⟩

theorem ResAdd_any (a b : RV) (w : World) (x : Addr) (hg : ErrAt x w) : Calls Tryz.prog 156 #[.agg #[.int .i64 a.c, .int .i64 a.m, .int .i64 a.p], .agg #[.int .i64 b.c, .int .i64 b.m, .int .i64 b.p]] w (RetR (resAdd a b) (resAddOk a b) w) := by
  by_cases h : a.ok = true ∧ b.ok = true
  · rw [(resAdd_in h.1 h.2).1, (resAdd_in h.1 h.2).2]; exact ResAdd_in a b w x hg h.1 h.2
  · have h' : a.ok = false ∨ b.ok = false := by
      cases ha : a.ok
      · exact Or.inl rfl
      · cases hb : b.ok
        · exact Or.inr rfl
        · exact absurd ⟨ha, hb⟩ h
    rw [(resAdd_out h').1, (resAdd_out h').2]; exact ResAdd_out a b w x hg h'
theorem ResSub_in (a b : RV) (w : World) (x : Addr) (hg : ErrAt x w) (ha : a.ok = true) (hb : b.ok = true) :
    Calls Tryz.prog 151 #[.agg #[.int .i64 a.c, .int .i64 a.m, .int .i64 a.p], .agg #[.int .i64 b.c, .int .i64 b.m, .int .i64 b.p]] w (RetR (a.sub b).kept (a.sub b).ok w) := by
  have hA := RV.ok_iff.1 ha
  have hB := RV.ok_iff.1 hb
  have HA := Lib.hid ha
  have HB := Lib.hid hb
  clear ha hb
  obtain ⟨a1, a2, a3, a4, a5, a6⟩ := hA
  obtain ⟨b1, b2, b3, b4, b5, b6⟩ := hB
  go_enter Tryz.func151, Tryz.ntmps151
  go_wp2_with fail
  refine (checkBoth_yes a b _ HA.out HB.out).mono ?_
  rintro e w1 ⟨rfl, hb1⟩
  have hz1 := hb1.size
  simp at hz1
  obtain ⟨hc1, hf1⟩ := bcell hb1
  have hg1 := (((hg.alloc _).alloc _).alloc _).below hb1 (Nat.le_refl _)
  go_wp2_with fail
  refine (outOfRange_nil _ x hg1).mono ?_
  rintro e w2 ⟨rfl, rfl⟩
  go_wp2_with fail
  refine (keepValid_any ⟨a.c - b.c, a.m - b.m, a.p - b.p⟩ _ x hg1).mono ?_
  rintro e w2 ⟨rfl, hb2⟩
  have hz2 := hb2.size
  obtain ⟨hc2, hf2⟩ := bcell hb2
  have hs1 : w.heap.size + 1 + 1 < w1.heap.size := by omega
  go_wp2_with fail
  refine bodyPost_ret (v := .tuple #[.agg #[.int .i64 (a.sub b).kept.c, .int .i64 (a.sub b).kept.m, .int .i64 (a.sub b).kept.p], .bool (a.sub b).ok]) (by simp [results, Tryz.results151, go_sem, hc1, hc2, hs1]; exact ⟨⟨rfl, rfl, rfl⟩, rfl⟩) rfl ⟨rfl, (by repeat' (first | exact Below.refl _ _ | refine Below.alloc ?_ ?_ _ | refine Below.setCell ?_ ?_ _ | refine Below.drew ?_ | (apply below_step; assumption) | (simp; done) | (simp; omega) | omega))⟩

theorem ResSub_out (a b : RV) (w : World) (x : Addr) (hg : ErrAt x w) (h : a.ok = false ∨ b.ok = false) :
    Calls Tryz.prog 151 #[.agg #[.int .i64 a.c, .int .i64 a.m, .int .i64 a.p], .agg #[.int .i64 b.c, .int .i64 b.m, .int .i64 b.p]] w (RetR RV.zero false w) := by
  have hcb : ∀ w, ErrAt x w → Calls Tryz.prog 159 #[.agg #[.int .i64 a.c, .int .i64 a.m, .int .i64 a.p], .agg #[.int .i64 b.c, .int .i64 b.m, .int .i64 b.p]] w (BadAt x w) := by
    intro w hg
    cases ha : a.ok
    · exact checkBoth_no1 a b w x hg ha
    · exact checkBoth_no2 a b w x hg ha (by rcases h with h | h; (rw [ha] at h; cases h); exact h)
  have HC := Lib.hid hcb
  clear hcb h
  go_enter Tryz.func151, Tryz.ntmps151
  go_wp2_with fail
  refine (HC.out _ (((hg.alloc _).alloc _).alloc _)).mono ?_
  rintro e w1 ⟨s, rfl, hb1⟩
  have hz1 := hb1.size
  simp at hz1
  obtain ⟨hc1, hf1⟩ := bcell hb1
  have hg1 := (((hg.alloc _).alloc _).alloc _).below hb1 (Nat.le_refl _)
  go_wp2_with fail
  refine (outOfRange_bad s _ x hg1).mono ?_
  rintro e w2 ⟨rfl, hb2⟩
  have hz2 := hb2.size
  obtain ⟨hc2, hf2⟩ := bcell hb2
  have hs1 : w.heap.size + 1 + 1 < w1.heap.size := by omega
  go_wp2_with fail
  refine bodyPost_ret (v := .tuple #[.agg #[.int .i64 RV.zero.c, .int .i64 RV.zero.m, .int .i64 RV.zero.p], .bool false]) (by simp [results, Tryz.results151, go_sem, hc1, hc2, hs1, RV.zero]) rfl ⟨rfl, (by repeat' (first | exact Below.refl _ _ | refine Below.alloc ?_ ?_ _ | refine Below.setCell ?_ ?_ _ | refine Below.drew ?_ | (apply below_step; assumption) | (simp; done) | (simp; omega) | omega))⟩

theorem ResSub_any (a b : RV) (w : World) (x : Addr) (hg : ErrAt x w) : Calls Tryz.prog 151 #[.agg #[.int .i64 a.c, .int .i64 a.m, .int .i64 a.p], .agg #[.int .i64 b.c, .int .i64 b.m, .int .i64 b.p]] w (RetR (resSub a b) (resSubOk a b) w) := by
  by_cases h : a.ok = true ∧ b.ok = true
  · rw [(resSub_in h.1 h.2).1, (resSub_in h.1 h.2).2]; exact ResSub_in a b w x hg h.1 h.2
  · have h' : a.ok = false ∨ b.ok = false := by
      cases ha : a.ok
      · exact Or.inl rfl
      · cases hb : b.ok
        · exact Or.inr rfl
        · exact absurd ⟨ha, hb⟩ h
    rw [(resSub_out h').1, (resSub_out h').2]; exact ResSub_out a b w x hg h'
theorem ResFits_any (a b : RV) (w : World) (x : Addr) (hg : ErrAt x w) :
    Calls Tryz.prog 194 #[.agg #[.int .i64 a.c, .int .i64 a.m, .int .i64 a.p], .agg #[.int .i64 b.c, .int .i64 b.m, .int .i64 b.p]] w fun e w' => e = .returned (.bool (resSubOk b a)) ∧ Below w.heap.size w w' := by
  go_enter Tryz.func194, Tryz.ntmps194
  go_wp2_with fail
  refine (ResSub_any b a _ x ((hg.alloc _).alloc _)).mono ?_
  rintro e w1 ⟨rfl, hb1⟩
  have hz1 := hb1.size
  simp at hz1
  go_wp2_with fail
  go_ret
  exact ⟨rfl, (by repeat' (first | exact Below.refl _ _ | refine Below.alloc ?_ ?_ _ | refine Below.setCell ?_ ?_ _ | refine Below.drew ?_ | (apply below_step; assumption) | (simp; done) | (simp; omega) | omega))⟩
end Go.Proofs.YtflcacbpceinaaaGreatDoor
