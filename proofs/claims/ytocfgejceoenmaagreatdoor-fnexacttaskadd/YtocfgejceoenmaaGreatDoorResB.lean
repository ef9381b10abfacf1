/- The contracts of chapter 1's functions: outOfRange, checkBoth, keepValid, ResOk, ResAdd, ResSub, ResFits. -/
import Derived.Test.YtocfgejceoenmaaGreatDoorResA
namespace Go.Proofs.YtocfgejceoenmaaGreatDoor
open Go.RowKit

theorem outOfRange_nil (w : World) (a : Addr) (hg : ErrAt a w) :
    Calls Tryz.prog 169 #[.nilIface] w fun e w' => e = .returned (.bool false) ∧ w = w' := by
  unfold ErrAt at hg
  go_enter Tryz.func169, Tryz.ntmps169
  go_wp2_with (go_at_call 182; refine (is_nil a _).mono ?_; rintro e w1 ⟨rfl, rfl⟩)
  go_ret
  exact ⟨rfl, rfl⟩
theorem outOfRange_bad (s : ByteArray) (w : World) (a : Addr) (hg : ErrAt a w) :
    Calls Tryz.prog 169 #[.iface 213 (.agg #[.string s, .iface 227 (.pointer (some a))])] w fun e w' => e = .returned (.bool true) ∧ Below w.heap.size w w' := by
  unfold ErrAt at hg
  go_enter Tryz.func169, Tryz.ntmps169
  go_wp2_with (go_at_call 182; refine (is_field s a _).mono ?_; rintro e w1 ⟨rfl, hb⟩)
  go_ret
  exact ⟨rfl, hb⟩

theorem checkBoth_yes (a b : RV) (w : World) (ha : a.ok = true) (hb : b.ok = true) :
    Calls Tryz.prog 192 #[.agg #[.int .i64 a.c, .int .i64 a.m, .int .i64 a.p], .agg #[.int .i64 b.c, .int .i64 b.m, .int .i64 b.p]] w fun e w' => e = .returned .nilIface ∧ Below w.heap.size w w' := by
  have HA := Lib.hid ha
  have HB := Lib.hid hb
  clear ha hb
  go_enter Tryz.func192, Tryz.ntmps192
  go_wp2_with fail
  refine (checkRes_yes a _ HA.out).mono ?_
  rintro e w1 ⟨rfl, hb1⟩
  have hz1 := hb1.size
  simp at hz1
  obtain ⟨hc1, hf1⟩ := bcell hb1
  go_wp2_with fail
  refine (checkRes_yes b _ HB.out).mono ?_
  rintro e w2 ⟨rfl, hb2⟩
  have hz2 := hb2.size
  go_wp2_with fail
  go_ret
  exact ⟨rfl, (by repeat' (first | exact Below.refl _ _ | refine Below.alloc ?_ ?_ _ | refine Below.setCell ?_ ?_ _ | refine Below.drew ?_ | (apply below_step; assumption) | (simp; done) | (simp; omega) | omega))⟩

theorem checkBoth_no1 (a b : RV) (w : World) (x : Addr) (hg : ErrAt x w) (ha : a.ok = false) :
    Calls Tryz.prog 192 #[.agg #[.int .i64 a.c, .int .i64 a.m, .int .i64 a.p], .agg #[.int .i64 b.c, .int .i64 b.m, .int .i64 b.p]] w (BadAt x w) := by
  have HA := Lib.hid ha
  clear ha
  go_enter Tryz.func192, Tryz.ntmps192
  go_wp2_with fail
  refine (checkRes_no a _ x ((hg.alloc _).alloc _) HA.out).mono ?_
  rintro e w1 ⟨s, rfl, hb1⟩
  have hz1 := hb1.size
  simp at hz1
  go_wp2_with fail
  go_ret
  exact ⟨_, rfl, (by repeat' (first | exact Below.refl _ _ | refine Below.alloc ?_ ?_ _ | refine Below.setCell ?_ ?_ _ | refine Below.drew ?_ | (apply below_step; assumption) | (simp; done) | (simp; omega) | omega))⟩

theorem checkBoth_no2 (a b : RV) (w : World) (x : Addr) (hg : ErrAt x w) (ha : a.ok = true) (hb : b.ok = false) :
    Calls Tryz.prog 192 #[.agg #[.int .i64 a.c, .int .i64 a.m, .int .i64 a.p], .agg #[.int .i64 b.c, .int .i64 b.m, .int .i64 b.p]] w (BadAt x w) := by
  have HA := Lib.hid ha
  have HB := Lib.hid hb
  clear ha hb
  go_enter Tryz.func192, Tryz.ntmps192
  go_wp2_with fail
  refine (checkRes_yes a _ HA.out).mono ?_
  rintro e w1 ⟨rfl, hb1⟩
  have hz1 := hb1.size
  simp at hz1
  obtain ⟨hc1, hf1⟩ := bcell hb1
  go_wp2_with fail
  refine (checkRes_no b _ x (((hg.alloc _).alloc _).below hb1 (Nat.le_refl _)) HB.out).mono ?_
  rintro e w2 ⟨s, rfl, hb2⟩
  have hz2 := hb2.size
  go_wp2_with fail
  go_ret
  exact ⟨_, rfl, (by repeat' (first | exact Below.refl _ _ | refine Below.alloc ?_ ?_ _ | refine Below.setCell ?_ ?_ _ | refine Below.drew ?_ | (apply below_step; assumption) | (simp; done) | (simp; omega) | omega))⟩
theorem keepValid_yes (r : RV) (w : World) (x : Addr) (hg : ErrAt x w) (h : r.ok = true) :
    Calls Tryz.prog 193 #[.agg #[.int .i64 r.c, .int .i64 r.m, .int .i64 r.p]] w fun e w' => e = .returned (.tuple #[.agg #[.int .i64 r.c, .int .i64 r.m, .int .i64 r.p], .bool true]) ∧ Below w.heap.size w w' := by
  have H := Lib.hid h
  clear h
  go_enter Tryz.func193, Tryz.ntmps193
  go_wp2_with fail
  refine (checkRes_yes r _ H.out).mono ?_
  rintro e w1 ⟨rfl, hb1⟩
  have hz1 := hb1.size
  simp at hz1
  obtain ⟨hc1, hf1⟩ := bcell hb1
  go_wp2_with fail
  refine (outOfRange_nil _ x (((hg.alloc _).alloc _).below hb1 (Nat.le_refl _))).mono ?_
  rintro e w2 ⟨rfl, rfl⟩
  go_wp2_with fail
  exact bodyPost_ret (v := .tuple #[.agg #[.int .i64 r.c, .int .i64 r.m, .int .i64 r.p], .bool true]) (by simp [results, Tryz.results193, go_sem, hc1]) rfl ⟨rfl, (by repeat' (first | exact Below.refl _ _ | refine Below.alloc ?_ ?_ _ | refine Below.setCell ?_ ?_ _ | refine Below.drew ?_ | (apply below_step; assumption) | (simp; done) | (simp; omega) | omega))⟩

theorem keepValid_no (r : RV) (w : World) (x : Addr) (hg : ErrAt x w) (h : r.ok = false) :
    Calls Tryz.prog 193 #[.agg #[.int .i64 r.c, .int .i64 r.m, .int .i64 r.p]] w fun e w' => e = .returned (.tuple #[.agg #[.int .i64 0, .int .i64 0, .int .i64 0], .bool false]) ∧ Below w.heap.size w w' := by
  have H := Lib.hid h
  clear h
  go_enter Tryz.func193, Tryz.ntmps193
  go_wp2_with fail
  refine (checkRes_no r _ x ((hg.alloc _).alloc _) H.out).mono ?_
  rintro e w1 ⟨s, rfl, hb1⟩
  have hz1 := hb1.size
  simp at hz1
  obtain ⟨hc1, hf1⟩ := bcell hb1
  go_wp2_with fail
  refine (outOfRange_bad s _ x (((hg.alloc _).alloc _).below hb1 (Nat.le_refl _))).mono ?_
  rintro e w2 ⟨rfl, hb2⟩
  have hz2 := hb2.size
  obtain ⟨hc2, hf2⟩ := bcell hb2
  have hs1 : w.heap.size + 1 < w1.heap.size := by omega
  go_wp2_with fail
  exact bodyPost_ret (v := .tuple #[.agg #[.int .i64 0, .int .i64 0, .int .i64 0], .bool false]) (by simp [results, Tryz.results193, go_sem, hc1, hc2, hs1]) rfl ⟨rfl, (by repeat' (first | exact Below.refl _ _ | refine Below.alloc ?_ ?_ _ | refine Below.setCell ?_ ?_ _ | refine Below.drew ?_ | (apply below_step; assumption) | (simp; done) | (simp; omega) | omega))⟩
end Go.Proofs.YtocfgejceoenmaaGreatDoor
