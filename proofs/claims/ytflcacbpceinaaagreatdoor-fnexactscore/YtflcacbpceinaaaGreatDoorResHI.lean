/- The contract of ResShare. -/
import Derived.Test.YtflcacbpceinaaaGreatDoorResH
namespace Go.Proofs.YtflcacbpceinaaaGreatDoor
open Go.RowKit

theorem val_int {a b : Int} (h : a = b) : Value.int .i64 a = .int .i64 b := by rw [h]
theorem ResShare_out (u c : RV) (w : World) (x : Addr) (hg : ErrAt x w) (h : u.ok = false ∨ c.ok = false) :
    Calls Tryz.prog 113 #[.agg #[.int .i64 u.c, .int .i64 u.m, .int .i64 u.p], .agg #[.int .i64 c.c, .int .i64 c.m, .int .i64 c.p]] w fun e w' => e = .returned (.int .i64 (-1)) ∧ Below w.heap.size w w' := by
  have hcb : ∀ w, ErrAt x w → Calls Tryz.prog 159 #[.agg #[.int .i64 u.c, .int .i64 u.m, .int .i64 u.p], .agg #[.int .i64 c.c, .int .i64 c.m, .int .i64 c.p]] w (BadAt x w) := by
    intro w hg
    cases ha : u.ok
    · exact checkBoth_no1 u c w x hg ha
    · exact checkBoth_no2 u c w x hg ha (by rcases h with h | h; (rw [ha] at h; cases h); exact h)
  have HC := Lib.hid hcb
  clear hcb h
  go_enter Tryz.func113, Tryz.ntmps113
  go_wp2_with fail
  refine (HC.out _ ((hg.alloc _).alloc _)).mono ?_
  rintro e w1 ⟨s, rfl, hb1⟩
  have hz1 := hb1.size
  simp at hz1
  have hg1 := ((hg.alloc _).alloc _).below hb1 (Nat.le_refl _)
  go_wp2_with fail
  refine (outOfRange_bad s _ x hg1).mono ?_
  rintro e w2 ⟨rfl, hb2⟩
  have hz2 := hb2.size
  go_wp2_with fail
  go_ret
  exact ⟨rfl, (by repeat' (first | exact Below.refl _ _ | refine Below.alloc ?_ ?_ _ | refine Below.setCell ?_ ?_ _ | refine Below.drew ?_ | (apply below_step; assumption) | (simp; done) | (simp; omega) | omega))⟩

set_option maxHeartbeats 4000000 in
theorem ResShare_in (u c : RV) (w : World) (x y : Addr) (hg : ErrAt x w) (hy : CapAt y w) (hu : u.ok = true) (hc : c.ok = true) :
    Calls Tryz.prog 113 #[.agg #[.int .i64 u.c, .int .i64 u.m, .int .i64 u.p], .agg #[.int .i64 c.c, .int .i64 c.m, .int .i64 c.p]] w fun e w' => e = .returned (.int .i64 (shareTo u c 3)) ∧ Below w.heap.size w w' := by
  have i0 := Tryz.ix0
  have i1 := Tryz.ix1
  have i2 := Tryz.ix2
  obtain ⟨a1, a2, a3, a4, a5, a6⟩ := RV.ok_iff.1 hu
  obtain ⟨b1, b2, b3, b4, b5, b6⟩ := RV.ok_iff.1 hc
  have HU := Lib.hid hu
  have HC := Lib.hid hc
  clear hu hc
  go_enter Tryz.func113, Tryz.ntmps113
  go_wp2_with fail
  refine (checkBoth_yes u c _ HU.out HC.out).mono ?_
  rintro e w1 ⟨rfl, hb1⟩
  have hz1 := hb1.size
  simp at hz1
  obtain ⟨hc1, hf1⟩ := bcell hb1
  have hg1 := ((hg.alloc _).alloc _).below hb1 (Nat.le_refl _)
  have hy1 := ((hy.alloc _).alloc _).below hb1 (Nat.le_refl _)
  go_wp2_with fail
  refine (outOfRange_nil _ x hg1).mono ?_
  rintro e w2 ⟨rfl, rfl⟩
  go_wp2_with fail
  refine (fieldsOf_any c _).mono ?_
  rintro e w2 ⟨rfl, hb2⟩
  have hz2 := hb2.size
  obtain ⟨hc2, hf2⟩ := bcell hb2
  have hs0 : w.heap.size < w1.heap.size := by omega
  have hq0 : w.heap.size < w2.heap.size := by omega
  have hy2 := (hy1.below hb2 (Nat.le_refl _)).alloc (.cells #[.string ⟨#[67, 112, 117]⟩, .int .i64 c.c, .string ⟨#[77, 101, 109]⟩, .int .i64 c.m, .string ⟨#[80, 111, 100, 115]⟩, .int .i64 c.p] 170)
  go_wp2_with fail
  refine (fieldsOf_any u _).mono ?_
  rintro e w3 ⟨rfl, hb3⟩
  have hz3 := hb3.size
  simp at hz3
  obtain ⟨hc3, hf3⟩ := bcell hb3
  have hy3 := hy2.below hb3 (Nat.le_refl _)
  have k1 : w3.cell? ⟨w2.heap.size, 1, none⟩ = some (.int .i64 c.c) := by rw [hc3 _ _ (by simp)]; simp
  have k3 : w3.cell? ⟨w2.heap.size, 3, none⟩ = some (.int .i64 c.m) := by rw [hc3 _ _ (by simp)]; simp
  have k5 : w3.cell? ⟨w2.heap.size, 5, none⟩ = some (.int .i64 c.p) := by rw [hc3 _ _ (by simp)]; simp
  have hBw : Below w.heap.size w w3 := (by repeat' (first | exact Below.refl _ _ | refine Below.alloc ?_ ?_ _ | refine Below.setCell ?_ ?_ _ | refine Below.drew ?_ | (apply below_step; assumption) | (simp; done) | (simp; omega) | omega))
  have hzw := hBw.size
  clear hc1 hf1 hc2 hf2 hc3 hf3
  have hs5 : w2.heap.size < w3.heap.size := by omega
  generalize hg5 : w2.heap.size = g5 at *
  clear hb1 hb2 hb3 hz1 hz2 hz3 hg5 hs0 hq0 hg1 hy1 hy2
  go_wp2_with fail
  go_loopw [6, 19] (fun s6 s19 wr => ∃ k : Nat, k ≤ 3 ∧ s19 = .int .i64 k ∧ s6 = .int .i64 (shareTo u c k) ∧ Below w3.heap.size w3 wr) (fun _ s19 _ => (3 - intOf s19).toNat)
  case atStart => exact ⟨0, by omega, rfl, rfl, Below.refl _ _⟩
  case round =>
    obtain ⟨k, hk, rfl, rfl, hB⟩ := hrel
    have hzr := hB.size
    have hyr := hy3.below hB (Nat.le_refl _)
    have hs5r : g5 < wr.heap.size := by omega
    have hlr := hyr.lt
    have k1r : wr.cell? ⟨g5, 1, none⟩ = some (.int .i64 c.c) := (hB.cell (p := ⟨g5, 1, none⟩) hs5).trans k1
    have k3r : wr.cell? ⟨g5, 3, none⟩ = some (.int .i64 c.m) := (hB.cell (p := ⟨g5, 3, none⟩) hs5).trans k3
    have k5r : wr.cell? ⟨g5, 5, none⟩ = some (.int .i64 c.p) := (hB.cell (p := ⟨g5, 5, none⟩) hs5).trans k5
    match k, hk with
    | 3, _ =>
      go_wp2_with fail
      go_ret
      exact ⟨rfl, (by repeat' (first | exact Below.refl _ _ | refine Below.alloc ?_ ?_ _ | refine Below.setCell ?_ ?_ _ | refine Below.drew ?_ | (apply below_step; assumption) | (simp; done) | (simp; omega) | omega))⟩
    | 0, _ =>
      have HP := Lib.hid (show shareTo u c 1 = max (shareTo u c 0) (shr u.c c.c) from rfl)
      have hsb := shr_bounds (u := u.c) (c := c.c) (by assumption) (by assumption)
      generalize shareTo u c 0 = G at *
      by_cases hcap : 0 < c.c
      · skip
        go_wp2_with fail
        go_region_held3 (fun w' => Below wr.heap.size wr w' ∧ wr.heap.size < w'.heap.size ∧ w'.cell? ⟨wr.heap.size, 0, none⟩ = some (.string ⟨#[67, 112, 117]⟩) ∧ w'.cell? ⟨wr.heap.size, 1, none⟩ = some (.int .i64 u.c) ∧ w'.cell? ⟨g5, 1, none⟩ = some (.int .i64 c.c))
          (first | exact ⟨(by repeat' (first | exact Below.refl _ _ | refine Below.alloc ?_ ?_ _ | refine Below.setCell ?_ ?_ _ | refine Below.drew ?_ | (apply below_step; assumption) | (simp; done) | (simp; omega) | omega)), by simp, by simp, by simp, by go_simp⟩ | exact ⟨(by repeat' (first | exact Below.refl _ _ | refine Below.alloc ?_ ?_ _ | refine Below.setCell ?_ ?_ _ | refine Below.drew ?_ | (apply below_step; assumption) | (simp; done) | (simp; omega) | omega)), by omega, by go_simp, by go_simp, by go_simp⟩)
          (first | (go_at_call 161; refine (fieldShare_pos ⟨#[67, 112, 117]⟩ u.c c.c _ (by assumption) (by assumption) (by assumption) (by assumption)).mono ?_; rintro e w4 ⟨rfl, hb4⟩; obtain ⟨hc4, hf4⟩ := bcell hb4; have hz4 := hb4.size; simp at hz4; have hs54 : g5 < w4.heap.size := by omega))
        have hy4 : CapAt y w4 := hyr.below (by repeat' (first | exact Below.refl _ _ | refine Below.alloc ?_ ?_ _ | refine Below.setCell ?_ ?_ _ | refine Below.drew ?_ | (apply below_step; assumption) | (simp; done) | (simp; omega) | omega)) (Nat.le_refl _)
        have hl4 := hy4.lt
        unfold CapAt at hy4
        clear hc4 hf4
        go_wp2_with fail
        refine (is_nil y _).mono ?_
        rintro e w5 ⟨rfl, rfl⟩
        go_wp2_with fail
        all_goals
          go_roundw
          case rel => exact ⟨1, by omega, rfl, val_int (by rw [HP.out]; omega), (by repeat' (first | exact Below.refl _ _ | refine Below.alloc ?_ ?_ _ | refine Below.setCell ?_ ?_ _ | refine Below.drew ?_ | (apply below_step; assumption) | (simp; done) | (simp; omega) | omega))⟩
          case measure => simp [intOf]
      · by_cases huse : 0 < u.c
        · have HV := Lib.hid (shr_over hcap huse)
          have HC0 := Lib.hid hcap
          clear hcap
          go_wp2_with fail
          go_region_held3 (fun w' => Below wr.heap.size wr w' ∧ wr.heap.size < w'.heap.size ∧ w'.cell? ⟨wr.heap.size, 0, none⟩ = some (.string ⟨#[67, 112, 117]⟩) ∧ w'.cell? ⟨wr.heap.size, 1, none⟩ = some (.int .i64 u.c) ∧ w'.cell? ⟨g5, 1, none⟩ = some (.int .i64 c.c))
            (first | exact ⟨(by repeat' (first | exact Below.refl _ _ | refine Below.alloc ?_ ?_ _ | refine Below.setCell ?_ ?_ _ | refine Below.drew ?_ | (apply below_step; assumption) | (simp; done) | (simp; omega) | omega)), by simp, by simp, by simp, by go_simp⟩ | exact ⟨(by repeat' (first | exact Below.refl _ _ | refine Below.alloc ?_ ?_ _ | refine Below.setCell ?_ ?_ _ | refine Below.drew ?_ | (apply below_step; assumption) | (simp; done) | (simp; omega) | omega)), by omega, by go_simp, by go_simp, by go_simp⟩)
            (first | (go_at_call 161; refine (fieldShare_over ⟨#[67, 112, 117]⟩ u.c c.c _ y ?_ (by have hh := HC0.out; omega) (by assumption)).mono ?_; (exact hyr.below (by repeat' (first | exact Below.refl _ _ | refine Below.alloc ?_ ?_ _ | refine Below.setCell ?_ ?_ _ | refine Below.drew ?_ | (apply below_step; assumption) | (simp; done) | (simp; omega) | omega)) (Nat.le_refl _)); rintro e w4 ⟨rfl, hb4⟩; obtain ⟨hc4, hf4⟩ := bcell hb4; have hz4 := hb4.size; simp at hz4; have hs54 : g5 < w4.heap.size := by omega))
          have hy4 : CapAt y w4 := hyr.below (by repeat' (first | exact Below.refl _ _ | refine Below.alloc ?_ ?_ _ | refine Below.setCell ?_ ?_ _ | refine Below.drew ?_ | (apply below_step; assumption) | (simp; done) | (simp; omega) | omega)) (Nat.le_refl _)
          have hl4 := hy4.lt
          unfold CapAt at hy4
          clear hc4 hf4
          go_wp2_with fail
          refine (is_field ⟨#[67, 112, 117]⟩ y _).mono ?_
          rintro e w5 ⟨rfl, hb5⟩
          have hz5 := hb5.size
          go_wp2_with fail
          all_goals
            go_roundw
            case rel => exact ⟨1, by omega, rfl, val_int (by rw [HP.out, HV.out]; omega), (by repeat' (first | exact Below.refl _ _ | refine Below.alloc ?_ ?_ _ | refine Below.setCell ?_ ?_ _ | refine Below.drew ?_ | (apply below_step; assumption) | (simp; done) | (simp; omega) | omega))⟩
            case measure => simp [intOf]
        · have HV := Lib.hid (shr_none hcap huse)
          have HC0 := Lib.hid hcap
          have HU0 := Lib.hid huse
          clear hcap huse
          go_wp2_with fail
          go_region_held3 (fun w' => Below wr.heap.size wr w' ∧ wr.heap.size < w'.heap.size ∧ w'.cell? ⟨wr.heap.size, 0, none⟩ = some (.string ⟨#[67, 112, 117]⟩) ∧ w'.cell? ⟨wr.heap.size, 1, none⟩ = some (.int .i64 u.c) ∧ w'.cell? ⟨g5, 1, none⟩ = some (.int .i64 c.c))
            (first | exact ⟨(by repeat' (first | exact Below.refl _ _ | refine Below.alloc ?_ ?_ _ | refine Below.setCell ?_ ?_ _ | refine Below.drew ?_ | (apply below_step; assumption) | (simp; done) | (simp; omega) | omega)), by simp, by simp, by simp, by go_simp⟩ | exact ⟨(by repeat' (first | exact Below.refl _ _ | refine Below.alloc ?_ ?_ _ | refine Below.setCell ?_ ?_ _ | refine Below.drew ?_ | (apply below_step; assumption) | (simp; done) | (simp; omega) | omega)), by omega, by go_simp, by go_simp, by go_simp⟩)
            (first | (go_at_call 161; refine (fieldShare_none ⟨#[67, 112, 117]⟩ u.c c.c _ (by have hh := HC0.out; omega) (by have hh := HU0.out; omega)).mono ?_; rintro e w4 ⟨rfl, hb4⟩; obtain ⟨hc4, hf4⟩ := bcell hb4; have hz4 := hb4.size; simp at hz4; have hs54 : g5 < w4.heap.size := by omega))
          have hy4 : CapAt y w4 := hyr.below (by repeat' (first | exact Below.refl _ _ | refine Below.alloc ?_ ?_ _ | refine Below.setCell ?_ ?_ _ | refine Below.drew ?_ | (apply below_step; assumption) | (simp; done) | (simp; omega) | omega)) (Nat.le_refl _)
          have hl4 := hy4.lt
          unfold CapAt at hy4
          clear hc4 hf4
          go_wp2_with fail
          refine (is_nil y _).mono ?_
          rintro e w5 ⟨rfl, rfl⟩
          go_wp2_with fail
          all_goals
            go_roundw
            case rel => exact ⟨1, by omega, rfl, val_int (by rw [HP.out, HV.out]; omega), (by repeat' (first | exact Below.refl _ _ | refine Below.alloc ?_ ?_ _ | refine Below.setCell ?_ ?_ _ | refine Below.drew ?_ | (apply below_step; assumption) | (simp; done) | (simp; omega) | omega))⟩
            case measure => simp [intOf]
    | 1, _ =>
      have HP := Lib.hid (show shareTo u c 2 = max (shareTo u c 1) (shr u.m c.m) from rfl)
      have hsb := shr_bounds (u := u.m) (c := c.m) (by assumption) (by assumption)
      generalize shareTo u c 1 = G at *
      by_cases hcap : 0 < c.m
      · skip
        go_wp2_with fail
        go_region_held3 (fun w' => Below wr.heap.size wr w' ∧ wr.heap.size < w'.heap.size ∧ w'.cell? ⟨wr.heap.size, 0, none⟩ = some (.string ⟨#[77, 101, 109]⟩) ∧ w'.cell? ⟨wr.heap.size, 1, none⟩ = some (.int .i64 u.m) ∧ w'.cell? ⟨g5, 3, none⟩ = some (.int .i64 c.m))
          (first | exact ⟨(by repeat' (first | exact Below.refl _ _ | refine Below.alloc ?_ ?_ _ | refine Below.setCell ?_ ?_ _ | refine Below.drew ?_ | (apply below_step; assumption) | (simp; done) | (simp; omega) | omega)), by simp, by simp, by simp, by go_simp⟩ | exact ⟨(by repeat' (first | exact Below.refl _ _ | refine Below.alloc ?_ ?_ _ | refine Below.setCell ?_ ?_ _ | refine Below.drew ?_ | (apply below_step; assumption) | (simp; done) | (simp; omega) | omega)), by omega, by go_simp, by go_simp, by go_simp⟩)
          (first | (go_at_call 161; refine (fieldShare_pos ⟨#[77, 101, 109]⟩ u.m c.m _ (by assumption) (by assumption) (by assumption) (by assumption)).mono ?_; rintro e w4 ⟨rfl, hb4⟩; obtain ⟨hc4, hf4⟩ := bcell hb4; have hz4 := hb4.size; simp at hz4; have hs54 : g5 < w4.heap.size := by omega))
        have hy4 : CapAt y w4 := hyr.below (by repeat' (first | exact Below.refl _ _ | refine Below.alloc ?_ ?_ _ | refine Below.setCell ?_ ?_ _ | refine Below.drew ?_ | (apply below_step; assumption) | (simp; done) | (simp; omega) | omega)) (Nat.le_refl _)
        have hl4 := hy4.lt
        unfold CapAt at hy4
        clear hc4 hf4
        go_wp2_with fail
        refine (is_nil y _).mono ?_
        rintro e w5 ⟨rfl, rfl⟩
        go_wp2_with fail
        all_goals
          go_roundw
          case rel => exact ⟨2, by omega, rfl, val_int (by rw [HP.out]; omega), (by repeat' (first | exact Below.refl _ _ | refine Below.alloc ?_ ?_ _ | refine Below.setCell ?_ ?_ _ | refine Below.drew ?_ | (apply below_step; assumption) | (simp; done) | (simp; omega) | omega))⟩
          case measure => simp [intOf]
      · by_cases huse : 0 < u.m
        · have HV := Lib.hid (shr_over hcap huse)
          have HC0 := Lib.hid hcap
          clear hcap
          go_wp2_with fail
          go_region_held3 (fun w' => Below wr.heap.size wr w' ∧ wr.heap.size < w'.heap.size ∧ w'.cell? ⟨wr.heap.size, 0, none⟩ = some (.string ⟨#[77, 101, 109]⟩) ∧ w'.cell? ⟨wr.heap.size, 1, none⟩ = some (.int .i64 u.m) ∧ w'.cell? ⟨g5, 3, none⟩ = some (.int .i64 c.m))
            (first | exact ⟨(by repeat' (first | exact Below.refl _ _ | refine Below.alloc ?_ ?_ _ | refine Below.setCell ?_ ?_ _ | refine Below.drew ?_ | (apply below_step; assumption) | (simp; done) | (simp; omega) | omega)), by simp, by simp, by simp, by go_simp⟩ | exact ⟨(by repeat' (first | exact Below.refl _ _ | refine Below.alloc ?_ ?_ _ | refine Below.setCell ?_ ?_ _ | refine Below.drew ?_ | (apply below_step; assumption) | (simp; done) | (simp; omega) | omega)), by omega, by go_simp, by go_simp, by go_simp⟩)
            (first | (go_at_call 161; refine (fieldShare_over ⟨#[77, 101, 109]⟩ u.m c.m _ y ?_ (by have hh := HC0.out; omega) (by assumption)).mono ?_; (exact hyr.below (by repeat' (first | exact Below.refl _ _ | refine Below.alloc ?_ ?_ _ | refine Below.setCell ?_ ?_ _ | refine Below.drew ?_ | (apply below_step; assumption) | (simp; done) | (simp; omega) | omega)) (Nat.le_refl _)); rintro e w4 ⟨rfl, hb4⟩; obtain ⟨hc4, hf4⟩ := bcell hb4; have hz4 := hb4.size; simp at hz4; have hs54 : g5 < w4.heap.size := by omega))
          have hy4 : CapAt y w4 := hyr.below (by repeat' (first | exact Below.refl _ _ | refine Below.alloc ?_ ?_ _ | refine Below.setCell ?_ ?_ _ | refine Below.drew ?_ | (apply below_step; assumption) | (simp; done) | (simp; omega) | omega)) (Nat.le_refl _)
          have hl4 := hy4.lt
          unfold CapAt at hy4
          clear hc4 hf4
          go_wp2_with fail
          refine (is_field ⟨#[77, 101, 109]⟩ y _).mono ?_
          rintro e w5 ⟨rfl, hb5⟩
          have hz5 := hb5.size
          go_wp2_with fail
          all_goals
            go_roundw
            case rel => exact ⟨2, by omega, rfl, val_int (by rw [HP.out, HV.out]; omega), (by repeat' (first | exact Below.refl _ _ | refine Below.alloc ?_ ?_ _ | refine Below.setCell ?_ ?_ _ | refine Below.drew ?_ | (apply below_step; assumption) | (simp; done) | (simp; omega) | omega))⟩
            case measure => simp [intOf]
        · have HV := Lib.hid (shr_none hcap huse)
          have HC0 := Lib.hid hcap
          have HU0 := Lib.hid huse
          clear hcap huse
          go_wp2_with fail
          go_region_held3 (fun w' => Below wr.heap.size wr w' ∧ wr.heap.size < w'.heap.size ∧ w'.cell? ⟨wr.heap.size, 0, none⟩ = some (.string ⟨#[77, 101, 109]⟩) ∧ w'.cell? ⟨wr.heap.size, 1, none⟩ = some (.int .i64 u.m) ∧ w'.cell? ⟨g5, 3, none⟩ = some (.int .i64 c.m))
            (first | exact ⟨(by repeat' (first | exact Below.refl _ _ | refine Below.alloc ?_ ?_ _ | refine Below.setCell ?_ ?_ _ | refine Below.drew ?_ | (apply below_step; assumption) | (simp; done) | (simp; omega) | omega)), by simp, by simp, by simp, by go_simp⟩ | exact ⟨(by repeat' (first | exact Below.refl _ _ | refine Below.alloc ?_ ?_ _ | refine Below.setCell ?_ ?_ _ | refine Below.drew ?_ | (apply below_step; assumption) | (simp; done) | (simp; omega) | omega)), by omega, by go_simp, by go_simp, by go_simp⟩)
            (first | (go_at_call 161; refine (fieldShare_none ⟨#[77, 101, 109]⟩ u.m c.m _ (by have hh := HC0.out; omega) (by have hh := HU0.out; omega)).mono ?_; rintro e w4 ⟨rfl, hb4⟩; obtain ⟨hc4, hf4⟩ := bcell hb4; have hz4 := hb4.size; simp at hz4; have hs54 : g5 < w4.heap.size := by omega))
          have hy4 : CapAt y w4 := hyr.below (by repeat' (first | exact Below.refl _ _ | refine Below.alloc ?_ ?_ _ | refine Below.setCell ?_ ?_ _ | refine Below.drew ?_ | (apply below_step; assumption) | (simp; done) | (simp; omega) | omega)) (Nat.le_refl _)
          have hl4 := hy4.lt
          unfold CapAt at hy4
          clear hc4 hf4
          go_wp2_with fail
          refine (is_nil y _).mono ?_
          rintro e w5 ⟨rfl, rfl⟩
          go_wp2_with fail
          all_goals
            go_roundw
            case rel => exact ⟨2, by omega, rfl, val_int (by rw [HP.out, HV.out]; omega), (by repeat' (first | exact Below.refl _ _ | refine Below.alloc ?_ ?_ _ | refine Below.setCell ?_ ?_ _ | refine Below.drew ?_ | (apply below_step; assumption) | (simp; done) | (simp; omega) | omega))⟩
            case measure => simp [intOf]
    | 2, _ =>
      have HP := Lib.hid (show shareTo u c 3 = max (shareTo u c 2) (shr u.p c.p) from rfl)
      have hsb := shr_bounds (u := u.p) (c := c.p) (by assumption) (by assumption)
      generalize shareTo u c 2 = G at *
      by_cases hcap : 0 < c.p
      · skip
        go_wp2_with fail
        go_region_held3 (fun w' => Below wr.heap.size wr w' ∧ wr.heap.size < w'.heap.size ∧ w'.cell? ⟨wr.heap.size, 0, none⟩ = some (.string ⟨#[80, 111, 100, 115]⟩) ∧ w'.cell? ⟨wr.heap.size, 1, none⟩ = some (.int .i64 u.p) ∧ w'.cell? ⟨g5, 5, none⟩ = some (.int .i64 c.p))
          (first | exact ⟨(by repeat' (first | exact Below.refl _ _ | refine Below.alloc ?_ ?_ _ | refine Below.setCell ?_ ?_ _ | refine Below.drew ?_ | (apply below_step; assumption) | (simp; done) | (simp; omega) | omega)), by simp, by simp, by simp, by go_simp⟩ | exact ⟨(by repeat' (first | exact Below.refl _ _ | refine Below.alloc ?_ ?_ _ | refine Below.setCell ?_ ?_ _ | refine Below.drew ?_ | (apply below_step; assumption) | (simp; done) | (simp; omega) | omega)), by omega, by go_simp, by go_simp, by go_simp⟩)
          (first | (go_at_call 161; refine (fieldShare_pos ⟨#[80, 111, 100, 115]⟩ u.p c.p _ (by assumption) (by assumption) (by assumption) (by assumption)).mono ?_; rintro e w4 ⟨rfl, hb4⟩; obtain ⟨hc4, hf4⟩ := bcell hb4; have hz4 := hb4.size; simp at hz4; have hs54 : g5 < w4.heap.size := by omega))
        have hy4 : CapAt y w4 := hyr.below (by repeat' (first | exact Below.refl _ _ | refine Below.alloc ?_ ?_ _ | refine Below.setCell ?_ ?_ _ | refine Below.drew ?_ | (apply below_step; assumption) | (simp; done) | (simp; omega) | omega)) (Nat.le_refl _)
        have hl4 := hy4.lt
        unfold CapAt at hy4
        clear hc4 hf4
        go_wp2_with fail
        refine (is_nil y _).mono ?_
        rintro e w5 ⟨rfl, rfl⟩
        go_wp2_with fail
        all_goals
          go_roundw
          case rel => exact ⟨3, by omega, rfl, val_int (by rw [HP.out]; omega), (by repeat' (first | exact Below.refl _ _ | refine Below.alloc ?_ ?_ _ | refine Below.setCell ?_ ?_ _ | refine Below.drew ?_ | (apply below_step; assumption) | (simp; done) | (simp; omega) | omega))⟩
          case measure => simp [intOf]
      · by_cases huse : 0 < u.p
        · have HV := Lib.hid (shr_over hcap huse)
          have HC0 := Lib.hid hcap
          clear hcap
          go_wp2_with fail
          go_region_held3 (fun w' => Below wr.heap.size wr w' ∧ wr.heap.size < w'.heap.size ∧ w'.cell? ⟨wr.heap.size, 0, none⟩ = some (.string ⟨#[80, 111, 100, 115]⟩) ∧ w'.cell? ⟨wr.heap.size, 1, none⟩ = some (.int .i64 u.p) ∧ w'.cell? ⟨g5, 5, none⟩ = some (.int .i64 c.p))
            (first | exact ⟨(by repeat' (first | exact Below.refl _ _ | refine Below.alloc ?_ ?_ _ | refine Below.setCell ?_ ?_ _ | refine Below.drew ?_ | (apply below_step; assumption) | (simp; done) | (simp; omega) | omega)), by simp, by simp, by simp, by go_simp⟩ | exact ⟨(by repeat' (first | exact Below.refl _ _ | refine Below.alloc ?_ ?_ _ | refine Below.setCell ?_ ?_ _ | refine Below.drew ?_ | (apply below_step; assumption) | (simp; done) | (simp; omega) | omega)), by omega, by go_simp, by go_simp, by go_simp⟩)
            (first | (go_at_call 161; refine (fieldShare_over ⟨#[80, 111, 100, 115]⟩ u.p c.p _ y ?_ (by have hh := HC0.out; omega) (by assumption)).mono ?_; (exact hyr.below (by repeat' (first | exact Below.refl _ _ | refine Below.alloc ?_ ?_ _ | refine Below.setCell ?_ ?_ _ | refine Below.drew ?_ | (apply below_step; assumption) | (simp; done) | (simp; omega) | omega)) (Nat.le_refl _)); rintro e w4 ⟨rfl, hb4⟩; obtain ⟨hc4, hf4⟩ := bcell hb4; have hz4 := hb4.size; simp at hz4; have hs54 : g5 < w4.heap.size := by omega))
          have hy4 : CapAt y w4 := hyr.below (by repeat' (first | exact Below.refl _ _ | refine Below.alloc ?_ ?_ _ | refine Below.setCell ?_ ?_ _ | refine Below.drew ?_ | (apply below_step; assumption) | (simp; done) | (simp; omega) | omega)) (Nat.le_refl _)
          have hl4 := hy4.lt
          unfold CapAt at hy4
          clear hc4 hf4
          go_wp2_with fail
          refine (is_field ⟨#[80, 111, 100, 115]⟩ y _).mono ?_
          rintro e w5 ⟨rfl, hb5⟩
          have hz5 := hb5.size
          go_wp2_with fail
          all_goals
            go_roundw
            case rel => exact ⟨3, by omega, rfl, val_int (by rw [HP.out, HV.out]; omega), (by repeat' (first | exact Below.refl _ _ | refine Below.alloc ?_ ?_ _ | refine Below.setCell ?_ ?_ _ | refine Below.drew ?_ | (apply below_step; assumption) | (simp; done) | (simp; omega) | omega))⟩
            case measure => simp [intOf]
        · have HV := Lib.hid (shr_none hcap huse)
          have HC0 := Lib.hid hcap
          have HU0 := Lib.hid huse
          clear hcap huse
          go_wp2_with fail
          go_region_held3 (fun w' => Below wr.heap.size wr w' ∧ wr.heap.size < w'.heap.size ∧ w'.cell? ⟨wr.heap.size, 0, none⟩ = some (.string ⟨#[80, 111, 100, 115]⟩) ∧ w'.cell? ⟨wr.heap.size, 1, none⟩ = some (.int .i64 u.p) ∧ w'.cell? ⟨g5, 5, none⟩ = some (.int .i64 c.p))
            (first | exact ⟨(by repeat' (first | exact Below.refl _ _ | refine Below.alloc ?_ ?_ _ | refine Below.setCell ?_ ?_ _ | refine Below.drew ?_ | (apply below_step; assumption) | (simp; done) | (simp; omega) | omega)), by simp, by simp, by simp, by go_simp⟩ | exact ⟨(by repeat' (first | exact Below.refl _ _ | refine Below.alloc ?_ ?_ _ | refine Below.setCell ?_ ?_ _ | refine Below.drew ?_ | (apply below_step; assumption) | (simp; done) | (simp; omega) | omega)), by omega, by go_simp, by go_simp, by go_simp⟩)
            (first | (go_at_call 161; refine (fieldShare_none ⟨#[80, 111, 100, 115]⟩ u.p c.p _ (by have hh := HC0.out; omega) (by have hh := HU0.out; omega)).mono ?_; rintro e w4 ⟨rfl, hb4⟩; obtain ⟨hc4, hf4⟩ := bcell hb4; have hz4 := hb4.size; simp at hz4; have hs54 : g5 < w4.heap.size := by omega))
          have hy4 : CapAt y w4 := hyr.below (by repeat' (first | exact Below.refl _ _ | refine Below.alloc ?_ ?_ _ | refine Below.setCell ?_ ?_ _ | refine Below.drew ?_ | (apply below_step; assumption) | (simp; done) | (simp; omega) | omega)) (Nat.le_refl _)
          have hl4 := hy4.lt
          unfold CapAt at hy4
          clear hc4 hf4
          go_wp2_with fail
          refine (is_nil y _).mono ?_
          rintro e w5 ⟨rfl, rfl⟩
          go_wp2_with fail
          all_goals
            go_roundw
            case rel => exact ⟨3, by omega, rfl, val_int (by rw [HP.out, HV.out]; omega), (by repeat' (first | exact Below.refl _ _ | refine Below.alloc ?_ ?_ _ | refine Below.setCell ?_ ?_ _ | refine Below.drew ?_ | (apply below_step; assumption) | (simp; done) | (simp; omega) | omega))⟩
            case measure => simp [intOf]

theorem ResShare_any (u c : RV) (w : World) (x y : Addr) (hg : ErrAt x w) (hy : CapAt y w) :
    Calls Tryz.prog 113 #[.agg #[.int .i64 u.c, .int .i64 u.m, .int .i64 u.p], .agg #[.int .i64 c.c, .int .i64 c.m, .int .i64 c.p]] w fun e w' => e = .returned (.int .i64 (resShare u c)) ∧ Below w.heap.size w w' := by
  by_cases h : u.ok = true ∧ c.ok = true
  · rw [resShare_in h.1 h.2]; exact ResShare_in u c w x y hg hy h.1 h.2
  · have h' : u.ok = false ∨ c.ok = false := by
      cases ha : u.ok
      · exact Or.inl rfl
      · cases hb : c.ok
        · exact Or.inr rfl
        · exact absurd ⟨ha, hb⟩ h
    rw [resShare_out h']; exact ResShare_out u c w x hg h'
theorem sResShare_any (u c : RV) (w : World) :
    Calls Tryz.prog 112 #[.agg #[.int .i64 u.c, .int .i64 u.m, .int .i64 u.p], .agg #[.int .i64 c.c, .int .i64 c.m, .int .i64 c.p]] w fun e w' => e = .returned (.int .i64 (resShare u c)) ∧ Below w.heap.size w w' := by
  cases hu : u.ok
  · rw [resShare_out (.inl hu)]; exact sResShare_out1 u c w hu
  · cases hc : c.ok
    · rw [resShare_out (.inr hc)]; exact sResShare_out2 u c w hu hc
    · rw [resShare_in hu hc]; exact sResShare_in u c w hu hc
end Go.Proofs.YtflcacbpceinaaaGreatDoor
