/- Amounts in plain Lean: shares. The contracts of ResShare and of its model. The contract of ResShare. The contracts of takes, hasRoom, scoreOn, Score. append of an int to a slice of the call's own. The contract of Shares. The contracts of the model's l04Score and Score. The contract of the model's Shares. The second sentinel's cell out of 'laid'. -/
import Derived.Test.YtflcacbpceinaaaGreatDoorResPure
import Derived.Test.YtflcacbpceinaaaGreatDoorResC
import Derived.Test.YtflcacbpceinaaaGreatDoorResS
import Derived.Deep.RegionHeld3
import Derived.Deep.QuietTactic
import Derived.BigQuiet
import Derived.WalkSmall
import Derived.Test.YtflcacbpceinaaaGreatDoorCluUsed
import Derived.Test.YtflcacbpceinaaaGreatDoorMgMark
import Derived.OwnWalk
import Derived.Test.YtflcacbpceinaaaGreatDoorCluGet
import Derived.Test.YtflcacbpceinaaaGreatDoorResRow
namespace Go.Proofs.YtflcacbpceinaaaGreatDoor

def shr (u c : Int) : Int := if 0 < c then 1000 * u / c else if 0 < u then 1001 else 0
theorem shr_pos {u c : Int} (h : 0 < c) : shr u c = 1000 * u / c := by unfold shr; rw [if_pos h]
theorem shr_over {u c : Int} (h : ¬ 0 < c) (hu : 0 < u) : shr u c = 1001 := by unfold shr; rw [if_neg h, if_pos hu]
theorem shr_none {u c : Int} (h : ¬ 0 < c) (hu : ¬ 0 < u) : shr u c = 0 := by unfold shr; rw [if_neg h, if_neg hu]
theorem shr_bounds {u c : Int} (h0 : 0 ≤ u) (h1 : u ≤ 1000000) : 0 ≤ shr u c ∧ shr u c ≤ 1000000000 := by
  unfold shr
  split
  · next h =>
    refine ⟨Int.ediv_nonneg (by omega) (by omega), ?_⟩
    refine Int.le_trans (Int.ediv_le_self _ (by omega)) (by omega)
  · split <;> omega
/-- The greatest share of the first k fields. -/
def shareTo (u c : RV) : Nat → Int
  | 0 => 0
  | 1 => max 0 (shr u.c c.c)
  | 2 => max (max 0 (shr u.c c.c)) (shr u.m c.m)
  | _ => max (max (max 0 (shr u.c c.c)) (shr u.m c.m)) (shr u.p c.p)
def resShare (u c : RV) : Int := if u.ok && c.ok then shareTo u c 3 else -1
theorem resShare_in {u c : RV} (hu : u.ok = true) (hc : c.ok = true) : resShare u c = shareTo u c 3 := by unfold resShare; simp [hu, hc]
theorem resShare_out {u c : RV} (h : u.ok = false ∨ c.ok = false) : resShare u c = -1 := by
  unfold resShare; rcases h with h | h <;> simp [h]
theorem shareTo_three {u c : RV} (hu : u.ok = true) : shareTo u c 3 = max (shr u.c c.c) (max (shr u.m c.m) (shr u.p c.p)) := by
  obtain ⟨a1, a2, a3, a4, a5, a6⟩ := RV.ok_iff.1 hu
  have b1 := shr_bounds (c := c.c) a1 a2
  have b2 := shr_bounds (c := c.m) a3 a4
  have b3 := shr_bounds (c := c.p) a5 a6
  have e : shareTo u c 3 = max (max (max 0 (shr u.c c.c)) (shr u.m c.m)) (shr u.p c.p) := rfl
  rw [e]
  omega
end Go.Proofs.YtflcacbpceinaaaGreatDoor

namespace Go.Proofs.YtflcacbpceinaaaGreatDoor
open Go.RowKit

/-- The variable errNoCap holds a pointer to an errorString. -/
def CapAt (a : Addr) (w : World) : Prop := w.cell? ⟨0, 0, none⟩ = some (.iface 235 (.pointer (some a)))
theorem CapAt.lt {a : Addr} {w : World} (h : CapAt a w) : 0 < w.heap.size := World.block_lt_of_cell? _ _ h
theorem CapAt.below {a : Addr} {w w' : World} {B : Nat} (h : CapAt a w) (hb : Below B w w') (hB : w.heap.size ≤ B) : CapAt a w' := by
  have hl := h.lt
  unfold CapAt at *
  rw [hb.cell (p := ⟨0, 0, none⟩) (Nat.lt_of_lt_of_le hl hB)]; exact h
theorem CapAt.alloc {a : Addr} {w : World} (h : CapAt a w) (o : Obj) : CapAt a (w.alloc o) := h.below ((Below.refl _ _).alloc (Nat.le_refl _) o) (Nat.le_refl _)

theorem ret_int {a b : Int} (h : a = b) : Ending.returned (.int .i64 a) = .returned (.int .i64 b) := by rw [h]
theorem l01Share_any (u c : Int) (w : World) (u0 : 0 ≤ u) (u1 : u ≤ 1000000) (c0 : 0 ≤ c) (c1 : c ≤ 1000000) :
    Calls Tryz.prog 157 #[.int .i64 u, .int .i64 c] w fun e w' => e = .returned (.int .i64 (shr u c)) ∧ w = w' := by
  by_cases h : 0 < c
  · have H := Lib.hid (shr_pos (u := u) h)
    go_enter Tryz.func157, Tryz.ntmps157
    go_wp2
    go_ret
    exact ⟨by rw [H.out]; rfl, rfl⟩
  · by_cases hu : 0 < u
    · have H := Lib.hid (shr_over h hu)
      go_enter Tryz.func157, Tryz.ntmps157
      go_wp2
      go_ret
      exact ⟨by rw [H.out]; rfl, rfl⟩
    · have H := Lib.hid (shr_none h hu)
      go_enter Tryz.func157, Tryz.ntmps157
      go_wp2
      go_ret
      exact ⟨by rw [H.out]; rfl, rfl⟩

theorem l01Share_q (u c : Int) (w : World) (u0 : 0 ≤ u) (u1 : u ≤ 1000000) (c0 : 0 ≤ c) (c1 : c ≤ 1000000) :
    Calls Tryz.prog 157 #[.int .i64 u, .int .i64 c] w fun e w' => e = .returned (.int .i64 (shr u c)) ∧ w' = w :=
  (l01Share_any u c w u0 u1 c0 c1).mono fun _ _ h => ⟨h.1, h.2.symm⟩

theorem fieldShare_pos (s : ByteArray) (u c : Int) (w : World) (u0 : 0 ≤ u) (u1 : u ≤ 1000000) (c0 : 0 < c) (c1 : c ≤ 1000000) :
    Calls Tryz.prog 161 #[.agg #[.string s, .int .i64 u], .int .i64 c] w fun e w' => e = .returned (.tuple #[.int .i64 (shr u c), .nilIface]) ∧ Below w.heap.size w w' := by
  have H := Lib.hid (shr_pos (u := u) c0)
  go_enter Tryz.func161, Tryz.ntmps161
  go_wp2
  go_ret2
  exact ⟨by rw [H.out]; rfl, (by repeat' (first | exact Below.refl _ _ | refine Below.alloc ?_ ?_ _ | refine Below.setCell ?_ ?_ _ | refine Below.drew ?_ | (apply below_step; assumption) | (simp; done) | (simp; omega) | omega))⟩
theorem fieldShare_none (s : ByteArray) (u c : Int) (w : World) (hc : ¬ 0 < c) (hu : ¬ 0 < u) :
    Calls Tryz.prog 161 #[.agg #[.string s, .int .i64 u], .int .i64 c] w fun e w' => e = .returned (.tuple #[.int .i64 0, .nilIface]) ∧ Below w.heap.size w w' := by
  go_enter Tryz.func161, Tryz.ntmps161
  go_wp2
  go_ret2
  exact ⟨rfl, (by repeat' (first | exact Below.refl _ _ | refine Below.alloc ?_ ?_ _ | refine Below.setCell ?_ ?_ _ | refine Below.drew ?_ | (apply below_step; assumption) | (simp; done) | (simp; omega) | omega))⟩
theorem fieldShare_over (s : ByteArray) (u c : Int) (w : World) (y : Addr) (hy : CapAt y w) (hc : ¬ 0 < c) (hu : 0 < u) :
    Calls Tryz.prog 161 #[.agg #[.string s, .int .i64 u], .int .i64 c] w fun e w' => e = .returned (.tuple #[.int .i64 0, .iface 204 (.agg #[.string s, .iface 235 (.pointer (some y))])]) ∧ Below w.heap.size w w' := by
  have hl := hy.lt
  unfold CapAt at hy
  go_enter Tryz.func161, Tryz.ntmps161
  go_wp2
  go_quiet (fail)
  go_wp2
  go_ret2
  exact ⟨rfl, (by repeat' (first | exact Below.refl _ _ | refine Below.alloc ?_ ?_ _ | refine Below.setCell ?_ ?_ _ | refine Below.drew ?_ | refine below_drewN ?_ _ | (apply below_step; assumption) | (simp; done) | (simp; omega) | omega))⟩

theorem sResShare_out1 (u c : RV) (w : World) (hu : u.ok = false) :
    Calls Tryz.prog 112 #[.agg #[.int .i64 u.c, .int .i64 u.m, .int .i64 u.p], .agg #[.int .i64 c.c, .int .i64 c.m, .int .i64 c.p]] w fun e w' => e = .returned (.int .i64 (-1)) ∧ Below w.heap.size w w' := by
  have HU := Lib.hid hu
  clear hu
  go_enter Tryz.func112, Tryz.ntmps112
  go_wp2_with fail
  refine (sResOk_at u false HU.out _).mono ?_
  rintro e w1 ⟨rfl, hb1⟩
  have hz1 := hb1.size
  simp at hz1
  go_wp2_with fail
  go_ret
  exact ⟨rfl, (by repeat' (first | exact Below.refl _ _ | refine Below.alloc ?_ ?_ _ | refine Below.setCell ?_ ?_ _ | refine Below.drew ?_ | (apply below_step; assumption) | (simp; done) | (simp; omega) | omega))⟩
theorem sResShare_out2 (u c : RV) (w : World) (hu : u.ok = true) (hc : c.ok = false) :
    Calls Tryz.prog 112 #[.agg #[.int .i64 u.c, .int .i64 u.m, .int .i64 u.p], .agg #[.int .i64 c.c, .int .i64 c.m, .int .i64 c.p]] w fun e w' => e = .returned (.int .i64 (-1)) ∧ Below w.heap.size w w' := by
  have HU := Lib.hid hu
  have HC := Lib.hid hc
  clear hu hc
  go_enter Tryz.func112, Tryz.ntmps112
  go_wp2_with fail
  refine (sResOk_at u true HU.out _).mono ?_
  rintro e w1 ⟨rfl, hb1⟩
  have hz1 := hb1.size
  simp at hz1
  obtain ⟨hc1, hf1⟩ := bcell hb1
  go_wp2_with fail
  refine (sResOk_at c false HC.out _).mono ?_
  rintro e w2 ⟨rfl, hb2⟩
  have hz2 := hb2.size
  go_wp2_with fail
  go_ret
  exact ⟨rfl, (by repeat' (first | exact Below.refl _ _ | refine Below.alloc ?_ ?_ _ | refine Below.setCell ?_ ?_ _ | refine Below.drew ?_ | (apply below_step; assumption) | (simp; done) | (simp; omega) | omega))⟩
theorem sResShare_in (u c : RV) (w : World) (hu : u.ok = true) (hc : c.ok = true) :
    Calls Tryz.prog 112 #[.agg #[.int .i64 u.c, .int .i64 u.m, .int .i64 u.p], .agg #[.int .i64 c.c, .int .i64 c.m, .int .i64 c.p]] w fun e w' => e = .returned (.int .i64 (shareTo u c 3)) ∧ Below w.heap.size w w' := by
  have HF := Lib.hid (shareTo_three (c := c) hu)
  obtain ⟨a1, a2, a3, a4, a5, a6⟩ := RV.ok_iff.1 hu
  obtain ⟨b1, b2, b3, b4, b5, b6⟩ := RV.ok_iff.1 hc
  have HU := Lib.hid hu
  have HC := Lib.hid hc
  clear hu hc
  go_enter Tryz.func112, Tryz.ntmps112
  go_wp2_with fail
  refine (sResOk_at u true HU.out _).mono ?_
  rintro e w1 ⟨rfl, hb1⟩
  have hz1 := hb1.size
  simp at hz1
  obtain ⟨hc1, hf1⟩ := bcell hb1
  go_wp2_with fail
  refine (sResOk_at c true HC.out _).mono ?_
  rintro e w2 ⟨rfl, hb2⟩
  have hz2 := hb2.size
  obtain ⟨hc2, hf2⟩ := bcell hb2
  have hs0 : w.heap.size < w1.heap.size := by omega
  have hs1 : w.heap.size + 1 < w1.heap.size := by omega
  go_wp2_with fail
  go_quiet ((go_at_call 157; exact Calls.quiet_of_same (l01Share_q _ _ _ (by assumption) (by assumption) (by assumption) (by assumption))))
  go_wp2_with fail
  all_goals
    go_ret
    exact ⟨by rw [HF.out]; exact ret_int (by omega), (by repeat' (first | exact Below.refl _ _ | refine Below.alloc ?_ ?_ _ | refine Below.setCell ?_ ?_ _ | refine Below.drew ?_ | refine below_drewN ?_ _ | (apply below_step; assumption) | (simp; done) | (simp; omega) | omega))⟩
end Go.Proofs.YtflcacbpceinaaaGreatDoor

namespace Go.Proofs.YtflcacbpceinaaaGreatDoor
open Go.RowKit

theorem val_int {a b : Int} (h : a = b) : Value.int .i64 a = .int .i64 b := by rw [h]
theorem ResShare_out (u c : RV) (w : World) (x : Addr) (hg : ErrAt x w) (h : u.ok = false ∨ c.ok = false) :
    Calls Tryz.prog 113 #[.agg #[.int .i64 u.c, .int .i64 u.m, .int .i64 u.p], .agg #[.int .i64 c.c, .int .i64 c.m, .int .i64 c.p]] w fun e w' => e = .returned (.int .i64 (-1)) ∧ Below w.heap.size w w' := by
  have hcb : ∀ w, ErrAt x w → Calls Tryz.prog 159 #[.agg #[.int .i64 u.c, .int .i64 u.m, .int .i64 u.p], .agg #[.int .i64 c.c, .int .i64 c.m, .int .i64 c.p]] w (BadAt x w) := by
    intro w hg
    cases ha : u.ok
    · exact checkBoth_no1 u c w x hg ha
    · exact checkBoth_no2 u c w x hg ha (by rcases h with h | h; (rw [ha] at h; cases h); exact h)
  have HC := Lib.hid hcb
  clear hcb h
  go_enter Tryz.func113, Tryz.ntmps113
  go_wp2_with fail
  refine (HC.out _ ((hg.alloc _).alloc _)).mono ?_
  rintro e w1 ⟨s, rfl, hb1⟩
  have hz1 := hb1.size
  simp at hz1
  have hg1 := ((hg.alloc _).alloc _).below hb1 (Nat.le_refl _)
  go_wp2_with fail
  refine (outOfRange_bad s _ x hg1).mono ?_
  rintro e w2 ⟨rfl, hb2⟩
  have hz2 := hb2.size
  go_wp2_with fail
  go_ret
  exact ⟨rfl, (by repeat' (first | exact Below.refl _ _ | refine Below.alloc ?_ ?_ _ | refine Below.setCell ?_ ?_ _ | refine Below.drew ?_ | (apply below_step; assumption) | (simp; done) | (simp; omega) | omega))⟩

set_option maxHeartbeats 4000000 in
theorem ResShare_in (u c : RV) (w : World) (x y : Addr) (hg : ErrAt x w) (hy : CapAt y w) (hu : u.ok = true) (hc : c.ok = true) :
    Calls Tryz.prog 113 #[.agg #[.int .i64 u.c, .int .i64 u.m, .int .i64 u.p], .agg #[.int .i64 c.c, .int .i64 c.m, .int .i64 c.p]] w fun e w' => e = .returned (.int .i64 (shareTo u c 3)) ∧ Below w.heap.size w w' := by
  have i0 := Tryz.ix0
  have i1 := Tryz.ix1
  have i2 := Tryz.ix2
  obtain ⟨a1, a2, a3, a4, a5, a6⟩ := RV.ok_iff.1 hu
  obtain ⟨b1, b2, b3, b4, b5, b6⟩ := RV.ok_iff.1 hc
  have HU := Lib.hid hu
  have HC := Lib.hid hc
  clear hu hc
  go_enter Tryz.func113, Tryz.ntmps113
  go_wp2_with fail
  refine (checkBoth_yes u c _ HU.out HC.out).mono ?_
  rintro e w1 ⟨rfl, hb1⟩
  have hz1 := hb1.size
  simp at hz1
  obtain ⟨hc1, hf1⟩ := bcell hb1
  have hg1 := ((hg.alloc _).alloc _).below hb1 (Nat.le_refl _)
  have hy1 := ((hy.alloc _).alloc _).below hb1 (Nat.le_refl _)
  go_wp2_with fail
  refine (outOfRange_nil _ x hg1).mono ?_
  rintro e w2 ⟨rfl, rfl⟩
  go_wp2_with fail
  refine (fieldsOf_any c _).mono ?_
  rintro e w2 ⟨rfl, hb2⟩
  have hz2 := hb2.size
  obtain ⟨hc2, hf2⟩ := bcell hb2
  have hs0 : w.heap.size < w1.heap.size := by omega
  have hq0 : w.heap.size < w2.heap.size := by omega
  have hy2 := (hy1.below hb2 (Nat.le_refl _)).alloc (.cells #[.string ⟨#[67, 112, 117]⟩, .int .i64 c.c, .string ⟨#[77, 101, 109]⟩, .int .i64 c.m, .string ⟨#[80, 111, 100, 115]⟩, .int .i64 c.p] 170)
  go_wp2_with fail
  refine (fieldsOf_any u _).mono ?_
  rintro e w3 ⟨rfl, hb3⟩
  have hz3 := hb3.size
  simp at hz3
  obtain ⟨hc3, hf3⟩ := bcell hb3
  have hy3 := hy2.below hb3 (Nat.le_refl _)
  have k1 : w3.cell? ⟨w2.heap.size, 1, none⟩ = some (.int .i64 c.c) := by rw [hc3 _ _ (by simp)]; simp
  have k3 : w3.cell? ⟨w2.heap.size, 3, none⟩ = some (.int .i64 c.m) := by rw [hc3 _ _ (by simp)]; simp
  have k5 : w3.cell? ⟨w2.heap.size, 5, none⟩ = some (.int .i64 c.p) := by rw [hc3 _ _ (by simp)]; simp
  have hBw : Below w.heap.size w w3 := (by repeat' (first | exact Below.refl _ _ | refine Below.alloc ?_ ?_ _ | refine Below.setCell ?_ ?_ _ | refine Below.drew ?_ | (apply below_step; assumption) | (simp; done) | (simp; omega) | omega))
  have hzw := hBw.size
  clear hc1 hf1 hc2 hf2 hc3 hf3
  have hs5 : w2.heap.size < w3.heap.size := by omega
  generalize hg5 : w2.heap.size = g5 at *
  clear hb1 hb2 hb3 hz1 hz2 hz3 hg5 hs0 hq0 hg1 hy1 hy2
  go_wp2_with fail
  go_loopw [6, 19] (fun s6 s19 wr => ∃ k : Nat, k ≤ 3 ∧ s19 = .int .i64 k ∧ s6 = .int .i64 (shareTo u c k) ∧ Below w3.heap.size w3 wr) (fun _ s19 _ => (3 - intOf s19).toNat)
  case atStart => exact ⟨0, by omega, rfl, rfl, Below.refl _ _⟩
  case round =>
    obtain ⟨k, hk, rfl, rfl, hB⟩ := hrel
    have hzr := hB.size
    have hyr := hy3.below hB (Nat.le_refl _)
    have hs5r : g5 < wr.heap.size := by omega
    have hlr := hyr.lt
    have k1r : wr.cell? ⟨g5, 1, none⟩ = some (.int .i64 c.c) := (hB.cell (p := ⟨g5, 1, none⟩) hs5).trans k1
    have k3r : wr.cell? ⟨g5, 3, none⟩ = some (.int .i64 c.m) := (hB.cell (p := ⟨g5, 3, none⟩) hs5).trans k3
    have k5r : wr.cell? ⟨g5, 5, none⟩ = some (.int .i64 c.p) := (hB.cell (p := ⟨g5, 5, none⟩) hs5).trans k5
    match k, hk with
    | 3, _ =>
      go_wp2_with fail
      go_ret
      exact ⟨rfl, (by repeat' (first | exact Below.refl _ _ | refine Below.alloc ?_ ?_ _ | refine Below.setCell ?_ ?_ _ | refine Below.drew ?_ | (apply below_step; assumption) | (simp; done) | (simp; omega) | omega))⟩
    | 0, _ =>
      have HP := Lib.hid (show shareTo u c 1 = max (shareTo u c 0) (shr u.c c.c) from rfl)
      have hsb := shr_bounds (u := u.c) (c := c.c) (by assumption) (by assumption)
      generalize shareTo u c 0 = G at *
      by_cases hcap : 0 < c.c
      · skip
        go_wp2_with fail
        go_region_held3 (fun w' => Below wr.heap.size wr w' ∧ wr.heap.size < w'.heap.size ∧ w'.cell? ⟨wr.heap.size, 0, none⟩ = some (.string ⟨#[67, 112, 117]⟩) ∧ w'.cell? ⟨wr.heap.size, 1, none⟩ = some (.int .i64 u.c) ∧ w'.cell? ⟨g5, 1, none⟩ = some (.int .i64 c.c))
          (first | exact ⟨(by repeat' (first | exact Below.refl _ _ | refine Below.alloc ?_ ?_ _ | refine Below.setCell ?_ ?_ _ | refine Below.drew ?_ | (apply below_step; assumption) | (simp; done) | (simp; omega) | omega)), by simp, by simp, by simp, by go_simp⟩ | exact ⟨(by repeat' (first | exact Below.refl _ _ | refine Below.alloc ?_ ?_ _ | refine Below.setCell ?_ ?_ _ | refine Below.drew ?_ | (apply below_step; assumption) | (simp; done) | (simp; omega) | omega)), by omega, by go_simp, by go_simp, by go_simp⟩)
          (first | (go_at_call 161; refine (fieldShare_pos ⟨#[67, 112, 117]⟩ u.c c.c _ (by assumption) (by assumption) (by assumption) (by assumption)).mono ?_; rintro e w4 ⟨rfl, hb4⟩; obtain ⟨hc4, hf4⟩ := bcell hb4; have hz4 := hb4.size; simp at hz4; have hs54 : g5 < w4.heap.size := by omega))
        have hy4 : CapAt y w4 := hyr.below (by repeat' (first | exact Below.refl _ _ | refine Below.alloc ?_ ?_ _ | refine Below.setCell ?_ ?_ _ | refine Below.drew ?_ | (apply below_step; assumption) | (simp; done) | (simp; omega) | omega)) (Nat.le_refl _)
        have hl4 := hy4.lt
        unfold CapAt at hy4
        clear hc4 hf4
        go_wp2_with fail
        refine (is_nil y _).mono ?_
        rintro e w5 ⟨rfl, rfl⟩
        go_wp2_with fail
        all_goals
          go_roundw
          case rel => exact ⟨1, by omega, rfl, val_int (by rw [HP.out]; omega), (by repeat' (first | exact Below.refl _ _ | refine Below.alloc ?_ ?_ _ | refine Below.setCell ?_ ?_ _ | refine Below.drew ?_ | (apply below_step; assumption) | (simp; done) | (simp; omega) | omega))⟩
          case measure => simp [intOf]
      · by_cases huse : 0 < u.c
        · have HV := Lib.hid (shr_over hcap huse)
          have HC0 := Lib.hid hcap
          clear hcap
          go_wp2_with fail
          go_region_held3 (fun w' => Below wr.heap.size wr w' ∧ wr.heap.size < w'.heap.size ∧ w'.cell? ⟨wr.heap.size, 0, none⟩ = some (.string ⟨#[67, 112, 117]⟩) ∧ w'.cell? ⟨wr.heap.size, 1, none⟩ = some (.int .i64 u.c) ∧ w'.cell? ⟨g5, 1, none⟩ = some (.int .i64 c.c))
            (first | exact ⟨(by repeat' (first | exact Below.refl _ _ | refine Below.alloc ?_ ?_ _ | refine Below.setCell ?_ ?_ _ | refine Below.drew ?_ | (apply below_step; assumption) | (simp; done) | (simp; omega) | omega)), by simp, by simp, by simp, by go_simp⟩ | exact ⟨(by repeat' (first | exact Below.refl _ _ | refine Below.alloc ?_ ?_ _ | refine Below.setCell ?_ ?_ _ | refine Below.drew ?_ | (apply below_step; assumption) | (simp; done) | (simp; omega) | omega)), by omega, by go_simp, by go_simp, by go_simp⟩)
            (first | (go_at_call 161; refine (fieldShare_over ⟨#[67, 112, 117]⟩ u.c c.c _ y ?_ (by have hh := HC0.out; omega) (by assumption)).mono ?_; (exact hyr.below (by repeat' (first | exact Below.refl _ _ | refine Below.alloc ?_ ?_ _ | refine Below.setCell ?_ ?_ _ | refine Below.drew ?_ | (apply below_step; assumption) | (simp; done) | (simp; omega) | omega)) (Nat.le_refl _)); rintro e w4 ⟨rfl, hb4⟩; obtain ⟨hc4, hf4⟩ := bcell hb4; have hz4 := hb4.size; simp at hz4; have hs54 : g5 < w4.heap.size := by omega))
          have hy4 : CapAt y w4 := hyr.below (by repeat' (first | exact Below.refl _ _ | refine Below.alloc ?_ ?_ _ | refine Below.setCell ?_ ?_ _ | refine Below.drew ?_ | (apply below_step; assumption) | (simp; done) | (simp; omega) | omega)) (Nat.le_refl _)
          have hl4 := hy4.lt
          unfold CapAt at hy4
          clear hc4 hf4
          go_wp2_with fail
          refine (is_field ⟨#[67, 112, 117]⟩ y _).mono ?_
          rintro e w5 ⟨rfl, hb5⟩
          have hz5 := hb5.size
          go_wp2_with fail
          all_goals
            go_roundw
            case rel => exact ⟨1, by omega, rfl, val_int (by rw [HP.out, HV.out]; omega), (by repeat' (first | exact Below.refl _ _ | refine Below.alloc ?_ ?_ _ | refine Below.setCell ?_ ?_ _ | refine Below.drew ?_ | (apply below_step; assumption) | (simp; done) | (simp; omega) | omega))⟩
            case measure => simp [intOf]
        · have HV := Lib.hid (shr_none hcap huse)
          have HC0 := Lib.hid hcap
          have HU0 := Lib.hid huse
          clear hcap huse
          go_wp2_with fail
          go_region_held3 (fun w' => Below wr.heap.size wr w' ∧ wr.heap.size < w'.heap.size ∧ w'.cell? ⟨wr.heap.size, 0, none⟩ = some (.string ⟨#[67, 112, 117]⟩) ∧ w'.cell? ⟨wr.heap.size, 1, none⟩ = some (.int .i64 u.c) ∧ w'.cell? ⟨g5, 1, none⟩ = some (.int .i64 c.c))
            (first | exact ⟨(by repeat' (first | exact Below.refl _ _ | refine Below.alloc ?_ ?_ _ | refine Below.setCell ?_ ?_ _ | refine Below.drew ?_ | (apply below_step; assumption) | (simp; done) | (simp; omega) | omega)), by simp, by simp, by simp, by go_simp⟩ | exact ⟨(by repeat' (first | exact Below.refl _ _ | refine Below.alloc ?_ ?_ _ | refine Below.setCell ?_ ?_ _ | refine Below.drew ?_ | (apply below_step; assumption) | (simp; done) | (simp; omega) | omega)), by omega, by go_simp, by go_simp, by go_simp⟩)
            (first | (go_at_call 161; refine (fieldShare_none ⟨#[67, 112, 117]⟩ u.c c.c _ (by have hh := HC0.out; omega) (by have hh := HU0.out; omega)).mono ?_; rintro e w4 ⟨rfl, hb4⟩; obtain ⟨hc4, hf4⟩ := bcell hb4; have hz4 := hb4.size; simp at hz4; have hs54 : g5 < w4.heap.size := by omega))
          have hy4 : CapAt y w4 := hyr.below (by repeat' (first | exact Below.refl _ _ | refine Below.alloc ?_ ?_ _ | refine Below.setCell ?_ ?_ _ | refine Below.drew ?_ | (apply below_step; assumption) | (simp; done) | (simp; omega) | omega)) (Nat.le_refl _)
          have hl4 := hy4.lt
          unfold CapAt at hy4
          clear hc4 hf4
          go_wp2_with fail
          refine (is_nil y _).mono ?_
          rintro e w5 ⟨rfl, rfl⟩
          go_wp2_with fail
          all_goals
            go_roundw
            case rel => exact ⟨1, by omega, rfl, val_int (by rw [HP.out, HV.out]; omega), (by repeat' (first | exact Below.refl _ _ | refine Below.alloc ?_ ?_ _ | refine Below.setCell ?_ ?_ _ | refine Below.drew ?_ | (apply below_step; assumption) | (simp; done) | (simp; omega) | omega))⟩
            case measure => simp [intOf]
    | 1, _ =>
      have HP := Lib.hid (show shareTo u c 2 = max (shareTo u c 1) (shr u.m c.m) from rfl)
      have hsb := shr_bounds (u := u.m) (c := c.m) (by assumption) (by assumption)
      generalize shareTo u c 1 = G at *
      by_cases hcap : 0 < c.m
      · skip
        go_wp2_with fail
        go_region_held3 (fun w' => Below wr.heap.size wr w' ∧ wr.heap.size < w'.heap.size ∧ w'.cell? ⟨wr.heap.size, 0, none⟩ = some (.string ⟨#[77, 101, 109]⟩) ∧ w'.cell? ⟨wr.heap.size, 1, none⟩ = some (.int .i64 u.m) ∧ w'.cell? ⟨g5, 3, none⟩ = some (.int .i64 c.m))
          (first | exact ⟨(by repeat' (first | exact Below.refl _ _ | refine Below.alloc ?_ ?_ _ | refine Below.setCell ?_ ?_ _ | refine Below.drew ?_ | (apply below_step; assumption) | (simp; done) | (simp; omega) | omega)), by simp, by simp, by simp, by go_simp⟩ | exact ⟨(by repeat' (first | exact Below.refl _ _ | refine Below.alloc ?_ ?_ _ | refine Below.setCell ?_ ?_ _ | refine Below.drew ?_ | (apply below_step; assumption) | (simp; done) | (simp; omega) | omega)), by omega, by go_simp, by go_simp, by go_simp⟩)
          (first | (go_at_call 161; refine (fieldShare_pos ⟨#[77, 101, 109]⟩ u.m c.m _ (by assumption) (by assumption) (by assumption) (by assumption)).mono ?_; rintro e w4 ⟨rfl, hb4⟩; obtain ⟨hc4, hf4⟩ := bcell hb4; have hz4 := hb4.size; simp at hz4; have hs54 : g5 < w4.heap.size := by omega))
        have hy4 : CapAt y w4 := hyr.below (by repeat' (first | exact Below.refl _ _ | refine Below.alloc ?_ ?_ _ | refine Below.setCell ?_ ?_ _ | refine Below.drew ?_ | (apply below_step; assumption) | (simp; done) | (simp; omega) | omega)) (Nat.le_refl _)
        have hl4 := hy4.lt
        unfold CapAt at hy4
        clear hc4 hf4
        go_wp2_with fail
        refine (is_nil y _).mono ?_
        rintro e w5 ⟨rfl, rfl⟩
        go_wp2_with fail
        all_goals
          go_roundw
          case rel => exact ⟨2, by omega, rfl, val_int (by rw [HP.out]; omega), (by repeat' (first | exact Below.refl _ _ | refine Below.alloc ?_ ?_ _ | refine Below.setCell ?_ ?_ _ | refine Below.drew ?_ | (apply below_step; assumption) | (simp; done) | (simp; omega) | omega))⟩
          case measure => simp [intOf]
      · by_cases huse : 0 < u.m
        · have HV := Lib.hid (shr_over hcap huse)
          have HC0 := Lib.hid hcap
          clear hcap
          go_wp2_with fail
          go_region_held3 (fun w' => Below wr.heap.size wr w' ∧ wr.heap.size < w'.heap.size ∧ w'.cell? ⟨wr.heap.size, 0, none⟩ = some (.string ⟨#[77, 101, 109]⟩) ∧ w'.cell? ⟨wr.heap.size, 1, none⟩ = some (.int .i64 u.m) ∧ w'.cell? ⟨g5, 3, none⟩ = some (.int .i64 c.m))
            (first | exact ⟨(by repeat' (first | exact Below.refl _ _ | refine Below.alloc ?_ ?_ _ | refine Below.setCell ?_ ?_ _ | refine Below.drew ?_ | (apply below_step; assumption) | (simp; done) | (simp; omega) | omega)), by simp, by simp, by simp, by go_simp⟩ | exact ⟨(by repeat' (first | exact Below.refl _ _ | refine Below.alloc ?_ ?_ _ | refine Below.setCell ?_ ?_ _ | refine Below.drew ?_ | (apply below_step; assumption) | (simp; done) | (simp; omega) | omega)), by omega, by go_simp, by go_simp, by go_simp⟩)
            (first | (go_at_call 161; refine (fieldShare_over ⟨#[77, 101, 109]⟩ u.m c.m _ y ?_ (by have hh := HC0.out; omega) (by assumption)).mono ?_; (exact hyr.below (by repeat' (first | exact Below.refl _ _ | refine Below.alloc ?_ ?_ _ | refine Below.setCell ?_ ?_ _ | refine Below.drew ?_ | (apply below_step; assumption) | (simp; done) | (simp; omega) | omega)) (Nat.le_refl _)); rintro e w4 ⟨rfl, hb4⟩; obtain ⟨hc4, hf4⟩ := bcell hb4; have hz4 := hb4.size; simp at hz4; have hs54 : g5 < w4.heap.size := by omega))
          have hy4 : CapAt y w4 := hyr.below (by repeat' (first | exact Below.refl _ _ | refine Below.alloc ?_ ?_ _ | refine Below.setCell ?_ ?_ _ | refine Below.drew ?_ | (apply below_step; assumption) | (simp; done) | (simp; omega) | omega)) (Nat.le_refl _)
          have hl4 := hy4.lt
          unfold CapAt at hy4
          clear hc4 hf4
          go_wp2_with fail
          refine (is_field ⟨#[77, 101, 109]⟩ y _).mono ?_
          rintro e w5 ⟨rfl, hb5⟩
          have hz5 := hb5.size
          go_wp2_with fail
          all_goals
            go_roundw
            case rel => exact ⟨2, by omega, rfl, val_int (by rw [HP.out, HV.out]; omega), (by repeat' (first | exact Below.refl _ _ | refine Below.alloc ?_ ?_ _ | refine Below.setCell ?_ ?_ _ | refine Below.drew ?_ | (apply below_step; assumption) | (simp; done) | (simp; omega) | omega))⟩
            case measure => simp [intOf]
        · have HV := Lib.hid (shr_none hcap huse)
          have HC0 := Lib.hid hcap
          have HU0 := Lib.hid huse
          clear hcap huse
          go_wp2_with fail
          go_region_held3 (fun w' => Below wr.heap.size wr w' ∧ wr.heap.size < w'.heap.size ∧ w'.cell? ⟨wr.heap.size, 0, none⟩ = some (.string ⟨#[77, 101, 109]⟩) ∧ w'.cell? ⟨wr.heap.size, 1, none⟩ = some (.int .i64 u.m) ∧ w'.cell? ⟨g5, 3, none⟩ = some (.int .i64 c.m))
            (first | exact ⟨(by repeat' (first | exact Below.refl _ _ | refine Below.alloc ?_ ?_ _ | refine Below.setCell ?_ ?_ _ | refine Below.drew ?_ | (apply below_step; assumption) | (simp; done) | (simp; omega) | omega)), by simp, by simp, by simp, by go_simp⟩ | exact ⟨(by repeat' (first | exact Below.refl _ _ | refine Below.alloc ?_ ?_ _ | refine Below.setCell ?_ ?_ _ | refine Below.drew ?_ | (apply below_step; assumption) | (simp; done) | (simp; omega) | omega)), by omega, by go_simp, by go_simp, by go_simp⟩)
            (first | (go_at_call 161; refine (fieldShare_none ⟨#[77, 101, 109]⟩ u.m c.m _ (by have hh := HC0.out; omega) (by have hh := HU0.out; omega)).mono ?_; rintro e w4 ⟨rfl, hb4⟩; obtain ⟨hc4, hf4⟩ := bcell hb4; have hz4 := hb4.size; simp at hz4; have hs54 : g5 < w4.heap.size := by omega))
          have hy4 : CapAt y w4 := hyr.below (by repeat' (first | exact Below.refl _ _ | refine Below.alloc ?_ ?_ _ | refine Below.setCell ?_ ?_ _ | refine Below.drew ?_ | (apply below_step; assumption) | (simp; done) | (simp; omega) | omega)) (Nat.le_refl _)
          have hl4 := hy4.lt
          unfold CapAt at hy4
          clear hc4 hf4
          go_wp2_with fail
          refine (is_nil y _).mono ?_
          rintro e w5 ⟨rfl, rfl⟩
          go_wp2_with fail
          all_goals
            go_roundw
            case rel => exact ⟨2, by omega, rfl, val_int (by rw [HP.out, HV.out]; omega), (by repeat' (first | exact Below.refl _ _ | refine Below.alloc ?_ ?_ _ | refine Below.setCell ?_ ?_ _ | refine Below.drew ?_ | (apply below_step; assumption) | (simp; done) | (simp; omega) | omega))⟩
            case measure => simp [intOf]
    | 2, _ =>
      have HP := Lib.hid (show shareTo u c 3 = max (shareTo u c 2) (shr u.p c.p) from rfl)
      have hsb := shr_bounds (u := u.p) (c := c.p) (by assumption) (by assumption)
      generalize shareTo u c 2 = G at *
      by_cases hcap : 0 < c.p
      · skip
        go_wp2_with fail
        go_region_held3 (fun w' => Below wr.heap.size wr w' ∧ wr.heap.size < w'.heap.size ∧ w'.cell? ⟨wr.heap.size, 0, none⟩ = some (.string ⟨#[80, 111, 100, 115]⟩) ∧ w'.cell? ⟨wr.heap.size, 1, none⟩ = some (.int .i64 u.p) ∧ w'.cell? ⟨g5, 5, none⟩ = some (.int .i64 c.p))
          (first | exact ⟨(by repeat' (first | exact Below.refl _ _ | refine Below.alloc ?_ ?_ _ | refine Below.setCell ?_ ?_ _ | refine Below.drew ?_ | (apply below_step; assumption) | (simp; done) | (simp; omega) | omega)), by simp, by simp, by simp, by go_simp⟩ | exact ⟨(by repeat' (first | exact Below.refl _ _ | refine Below.alloc ?_ ?_ _ | refine Below.setCell ?_ ?_ _ | refine Below.drew ?_ | (apply below_step; assumption) | (simp; done) | (simp; omega) | omega)), by omega, by go_simp, by go_simp, by go_simp⟩)
          (first | (go_at_call 161; refine (fieldShare_pos ⟨#[80, 111, 100, 115]⟩ u.p c.p _ (by assumption) (by assumption) (by assumption) (by assumption)).mono ?_; rintro e w4 ⟨rfl, hb4⟩; obtain ⟨hc4, hf4⟩ := bcell hb4; have hz4 := hb4.size; simp at hz4; have hs54 : g5 < w4.heap.size := by omega))
        have hy4 : CapAt y w4 := hyr.below (by repeat' (first | exact Below.refl _ _ | refine Below.alloc ?_ ?_ _ | refine Below.setCell ?_ ?_ _ | refine Below.drew ?_ | (apply below_step; assumption) | (simp; done) | (simp; omega) | omega)) (Nat.le_refl _)
        have hl4 := hy4.lt
        unfold CapAt at hy4
        clear hc4 hf4
        go_wp2_with fail
        refine (is_nil y _).mono ?_
        rintro e w5 ⟨rfl, rfl⟩
        go_wp2_with fail
        all_goals
          go_roundw
          case rel => exact ⟨3, by omega, rfl, val_int (by rw [HP.out]; omega), (by repeat' (first | exact Below.refl _ _ | refine Below.alloc ?_ ?_ _ | refine Below.setCell ?_ ?_ _ | refine Below.drew ?_ | (apply below_step; assumption) | (simp; done) | (simp; omega) | omega))⟩
          case measure => simp [intOf]
      · by_cases huse : 0 < u.p
        · have HV := Lib.hid (shr_over hcap huse)
          have HC0 := Lib.hid hcap
          clear hcap
          go_wp2_with fail
          go_region_held3 (fun w' => Below wr.heap.size wr w' ∧ wr.heap.size < w'.heap.size ∧ w'.cell? ⟨wr.heap.size, 0, none⟩ = some (.string ⟨#[80, 111, 100, 115]⟩) ∧ w'.cell? ⟨wr.heap.size, 1, none⟩ = some (.int .i64 u.p) ∧ w'.cell? ⟨g5, 5, none⟩ = some (.int .i64 c.p))
            (first | exact ⟨(by repeat' (first | exact Below.refl _ _ | refine Below.alloc ?_ ?_ _ | refine Below.setCell ?_ ?_ _ | refine Below.drew ?_ | (apply below_step; assumption) | (simp; done) | (simp; omega) | omega)), by simp, by simp, by simp, by go_simp⟩ | exact ⟨(by repeat' (first | exact Below.refl _ _ | refine Below.alloc ?_ ?_ _ | refine Below.setCell ?_ ?_ _ | refine Below.drew ?_ | (apply below_step; assumption) | (simp; done) | (simp; omega) | omega)), by omega, by go_simp, by go_simp, by go_simp⟩)
            (first | (go_at_call 161; refine (fieldShare_over ⟨#[80, 111, 100, 115]⟩ u.p c.p _ y ?_ (by have hh := HC0.out; omega) (by assumption)).mono ?_; (exact hyr.below (by repeat' (first | exact Below.refl _ _ | refine Below.alloc ?_ ?_ _ | refine Below.setCell ?_ ?_ _ | refine Below.drew ?_ | (apply below_step; assumption) | (simp; done) | (simp; omega) | omega)) (Nat.le_refl _)); rintro e w4 ⟨rfl, hb4⟩; obtain ⟨hc4, hf4⟩ := bcell hb4; have hz4 := hb4.size; simp at hz4; have hs54 : g5 < w4.heap.size := by omega))
          have hy4 : CapAt y w4 := hyr.below (by repeat' (first | exact Below.refl _ _ | refine Below.alloc ?_ ?_ _ | refine Below.setCell ?_ ?_ _ | refine Below.drew ?_ | (apply below_step; assumption) | (simp; done) | (simp; omega) | omega)) (Nat.le_refl _)
          have hl4 := hy4.lt
          unfold CapAt at hy4
          clear hc4 hf4
          go_wp2_with fail
          refine (is_field ⟨#[80, 111, 100, 115]⟩ y _).mono ?_
          rintro e w5 ⟨rfl, hb5⟩
          have hz5 := hb5.size
          go_wp2_with fail
          all_goals
            go_roundw
            case rel => exact ⟨3, by omega, rfl, val_int (by rw [HP.out, HV.out]; omega), (by repeat' (first | exact Below.refl _ _ | refine Below.alloc ?_ ?_ _ | refine Below.setCell ?_ ?_ _ | refine Below.drew ?_ | (apply below_step; assumption) | (simp; done) | (simp; omega) | omega))⟩
            case measure => simp [intOf]
        · have HV := Lib.hid (shr_none hcap huse)
          have HC0 := Lib.hid hcap
          have HU0 := Lib.hid huse
          clear hcap huse
          go_wp2_with fail
          go_region_held3 (fun w' => Below wr.heap.size wr w' ∧ wr.heap.size < w'.heap.size ∧ w'.cell? ⟨wr.heap.size, 0, none⟩ = some (.string ⟨#[80, 111, 100, 115]⟩) ∧ w'.cell? ⟨wr.heap.size, 1, none⟩ = some (.int .i64 u.p) ∧ w'.cell? ⟨g5, 5, none⟩ = some (.int .i64 c.p))
            (first | exact ⟨(by repeat' (first | exact Below.refl _ _ | refine Below.alloc ?_ ?_ _ | refine Below.setCell ?_ ?_ _ | refine Below.drew ?_ | (apply below_step; assumption) | (simp; done) | (simp; omega) | omega)), by simp, by simp, by simp, by go_simp⟩ | exact ⟨(by repeat' (first | exact Below.refl _ _ | refine Below.alloc ?_ ?_ _ | refine Below.setCell ?_ ?_ _ | refine Below.drew ?_ | (apply below_step; assumption) | (simp; done) | (simp; omega) | omega)), by omega, by go_simp, by go_simp, by go_simp⟩)
            (first | (go_at_call 161; refine (fieldShare_none ⟨#[80, 111, 100, 115]⟩ u.p c.p _ (by have hh := HC0.out; omega) (by have hh := HU0.out; omega)).mono ?_; rintro e w4 ⟨rfl, hb4⟩; obtain ⟨hc4, hf4⟩ := bcell hb4; have hz4 := hb4.size; simp at hz4; have hs54 : g5 < w4.heap.size := by omega))
          have hy4 : CapAt y w4 := hyr.below (by repeat' (first | exact Below.refl _ _ | refine Below.alloc ?_ ?_ _ | refine Below.setCell ?_ ?_ _ | refine Below.drew ?_ | (apply below_step; assumption) | (simp; done) | (simp; omega) | omega)) (Nat.le_refl _)
          have hl4 := hy4.lt
          unfold CapAt at hy4
          clear hc4 hf4
          go_wp2_with fail
          refine (is_nil y _).mono ?_
          rintro e w5 ⟨rfl, rfl⟩
          go_wp2_with fail
          all_goals
            go_roundw
            case rel => exact ⟨3, by omega, rfl, val_int (by rw [HP.out, HV.out]; omega), (by repeat' (first | exact Below.refl _ _ | refine Below.alloc ?_ ?_ _ | refine Below.setCell ?_ ?_ _ | refine Below.drew ?_ | (apply below_step; assumption) | (simp; done) | (simp; omega) | omega))⟩
            case measure => simp [intOf]

theorem ResShare_any (u c : RV) (w : World) (x y : Addr) (hg : ErrAt x w) (hy : CapAt y w) :
    Calls Tryz.prog 113 #[.agg #[.int .i64 u.c, .int .i64 u.m, .int .i64 u.p], .agg #[.int .i64 c.c, .int .i64 c.m, .int .i64 c.p]] w fun e w' => e = .returned (.int .i64 (resShare u c)) ∧ Below w.heap.size w w' := by
  by_cases h : u.ok = true ∧ c.ok = true
  · rw [resShare_in h.1 h.2]; exact ResShare_in u c w x y hg hy h.1 h.2
  · have h' : u.ok = false ∨ c.ok = false := by
      cases ha : u.ok
      · exact Or.inl rfl
      · cases hb : c.ok
        · exact Or.inr rfl
        · exact absurd ⟨ha, hb⟩ h
    rw [resShare_out h']; exact ResShare_out u c w x hg h'
theorem sResShare_any (u c : RV) (w : World) :
    Calls Tryz.prog 112 #[.agg #[.int .i64 u.c, .int .i64 u.m, .int .i64 u.p], .agg #[.int .i64 c.c, .int .i64 c.m, .int .i64 c.p]] w fun e w' => e = .returned (.int .i64 (resShare u c)) ∧ Below w.heap.size w w' := by
  cases hu : u.ok
  · rw [resShare_out (.inl hu)]; exact sResShare_out1 u c w hu
  · cases hc : c.ok
    · rw [resShare_out (.inr hc)]; exact sResShare_out2 u c w hu hc
    · rw [resShare_in hu hc]; exact sResShare_in u c w hu hc
end Go.Proofs.YtflcacbpceinaaaGreatDoor

namespace Go.Proofs.YtflcacbpceinaaaGreatDoor
open Go.RowKit

/-- Could a task be placed on a node if there were room? -/
def takesV (n : NV) (t : TV) : Bool := !n.cordon && canHost n t
def roomV (c : CV) (n : NV) (t : TV) : Bool := (freeOf c n).2 && resSubOk (freeOf c n).1 t.need
def scoreV (c : CV) (n : NV) (t : TV) : Int := if roomV c n t then resShare (resAdd (usedOf c n.id).1 t.need) n.cap else -1
def scoreG (c : CV) (nz tz : Int) : Int := match fstBy NV.id c.nodes nz, fstBy TV.id c.tasks tz with
  | some n, some t => if clusterOk c && takesV n t then scoreV c n t else -1
  | _, _ => -1
set_option maxHeartbeats 1600000 in
theorem takes_any (n : NV) (t : TV) (ns ts : List Value) (w0 w : World) (hw : Below w0.heap.size w0 w) (x : Addr) (hg : ErrAt x w) (hn : NodeR w0 n ns) (ht : TaskR w0 t ts) :
    Calls Tryz.prog 110 #[.agg ns.toArray, .agg ts.toArray] w fun e w' => e = .returned (.bool (takesV n t)) ∧ Below w.heap.size w w' := by
  obtain ⟨u1, u2, rfl, k1, k2, m1, m2⟩ := hn
  obtain ⟨v1, v2, rfl, h1, h2, l1, l2⟩ := ht
  have hch := fun w1 hw1 hg1 => CanHost_any n t u1 u2 v1 v2 w1 x hg1 (k1.below hw1) (k2.below hw1) (h1.below hw1) (h2.below hw1) m1 m2 l1 l2
  obtain ⟨A1, c1, rfl, _⟩ := k1.form
  obtain ⟨A2, c2, rfl, _⟩ := k2.form
  obtain ⟨B1, d1, rfl, _⟩ := h1.form
  obtain ⟨B2, d2, rfl, _⟩ := h2.form
  have hE : takesV n t = (!n.cordon && canHost n t) := rfl
  generalize canHost n t = b at hch hE
  generalize takesV n t = r at hE ⊢
  have HE := Lib.hid hE
  have HW := Lib.hid hw
  have HG := Lib.hid hg
  clear k1 k2 h1 h2 hE hw hg
  cases hcd : n.cordon
  all_goals
    rw [hcd] at hch
    have HCD := Lib.hid hcd
    have HCH := Lib.hid hch
    clear hcd hch
    go_enter Tryz.func110, Tryz.ntmps110
    go_wp2_with fail
  · have hX : Below w.heap.size w ((w.alloc (.cells #[.int .i64 n.id, .int .i64 n.pool, .int .i64 n.cap.c, .int .i64 n.cap.m, .int .i64 n.cap.p, .slice A1 n.labs.length c1, .slice A2 n.taints.length c2, .bool false] 60)).alloc (.cells #[.int .i64 t.id, .int .i64 t.prio, .int .i64 t.need.c, .int .i64 t.need.m, .int .i64 t.need.p, .slice B1 t.want.length d1, .slice B2 t.tols.length d2] 46)) := (by repeat' (first | exact Below.refl _ _ | refine Below.alloc ?_ ?_ _ | refine Below.setCell ?_ ?_ _ | refine Below.drew ?_ | (apply below_step; assumption) | (simp; done) | (simp; omega) | omega))
    refine (HCH.out _ (below_of HW.out hX) (HG.out.below hX (Nat.le_refl _))).mono ?_
    rintro e w2 ⟨rfl, hb2⟩
    have hC2 := below_of hX hb2
    go_wp2_with fail
    go_ret
    exact ⟨by rw [HE.out, HCD.out]; rfl, hC2⟩
  · go_ret
    exact ⟨by rw [HE.out, HCD.out]; rfl, (by repeat' (first | exact Below.refl _ _ | refine Below.alloc ?_ ?_ _ | refine Below.setCell ?_ ?_ _ | refine Below.drew ?_ | (apply below_step; assumption) | (simp; done) | (simp; omega) | omega))⟩

set_option maxHeartbeats 3200000 in
theorem hasRoom_any (c : CV) (n : NV) (t : TV) (a0 a1 a2 : Value) (ns ts : List Value) (w0 w : World) (hw : Below w0.heap.size w0 w) (x : Addr) (hg : ErrAt x w) (hc : CluR w0 c a0 a1 a2) (hn : NodeR w0 n ns) (ht : TaskR w0 t ts) :
    Calls Tryz.prog 155 #[.agg #[a0, a1, a2], .agg ns.toArray, .agg ts.toArray] w fun e w' => e = .returned (.bool (roomV c n t)) ∧ Below w.heap.size w w' := by
  obtain ⟨u1, u2, rfl, k1, k2, m1, m2⟩ := hn
  obtain ⟨v1, v2, rfl, h1, h2, l1, l2⟩ := ht
  have hfr := fun w1 hw1 hg1 => freeOn_any c n a0 a1 a2 u1 u2 w0 w1 hw1 x hg1 hc k1 k2
  obtain ⟨D0, e0, rfl, _⟩ := hc.1.form
  obtain ⟨D1, e1, rfl, _⟩ := hc.2.1.form
  obtain ⟨D2, e2, rfl, _⟩ := hc.2.2.1.form
  obtain ⟨A1, c1, rfl, _⟩ := k1.form
  obtain ⟨A2, c2, rfl, _⟩ := k2.form
  obtain ⟨B1, d1, rfl, _⟩ := h1.form
  obtain ⟨B2, d2, rfl, _⟩ := h2.form
  have hE : roomV c n t = ((freeOf c n).2 && resSubOk (freeOf c n).1 t.need) := rfl
  generalize (freeOf c n).2 = ok at hfr hE
  generalize (freeOf c n).1 = f at hfr hE
  have hfit := fun w1 hg1 => ResFits_any t.need f w1 x hg1
  generalize resSubOk f t.need = fit at hfit hE
  generalize roomV c n t = r at hE ⊢
  have HE := Lib.hid hE
  have HFR := Lib.hid hfr
  have HFI := Lib.hid hfit
  have HW := Lib.hid hw
  have HG := Lib.hid hg
  clear k1 k2 h1 h2 hE hw hg hfr hfit hc m1 m2 l1 l2
  go_enter Tryz.func155, Tryz.ntmps155
  go_wp2_with fail
  have hX : Below w.heap.size w (((w.alloc (.cells #[.slice D0 c.tasks.length e0, .slice D1 c.nodes.length e1, .slice D2 c.binds.length e2] 39)).alloc (.cells #[.int .i64 n.id, .int .i64 n.pool, .int .i64 n.cap.c, .int .i64 n.cap.m, .int .i64 n.cap.p, .slice A1 n.labs.length c1, .slice A2 n.taints.length c2, .bool n.cordon] 60)).alloc (.cells #[.int .i64 t.id, .int .i64 t.prio, .int .i64 t.need.c, .int .i64 t.need.m, .int .i64 t.need.p, .slice B1 t.want.length d1, .slice B2 t.tols.length d2] 46)) := (by repeat' (first | exact Below.refl _ _ | refine Below.alloc ?_ ?_ _ | refine Below.setCell ?_ ?_ _ | refine Below.drew ?_ | (apply below_step; assumption) | (simp; done) | (simp; omega) | omega))
  refine (HFR.out _ (below_of HW.out hX) (HG.out.below hX (Nat.le_refl _))).mono ?_
  rintro e w2 ⟨rfl, hb2⟩
  have hC2 := below_of hX hb2
  obtain ⟨-, -, BT⟩ := boxes3 _ _ _ _ _ _ _ hb2
  have t2 := BT.cell 2
  have t3 := BT.cell 3
  have t4 := BT.cell 4
  have tl := BT.lt
  simp at t2 t3 t4
  clear hb2 hX BT
  cases ok
  · go_wp2_with fail
    go_ret
    exact ⟨by rw [HE.out]; rfl, (by repeat' (first | exact Below.refl _ _ | refine Below.alloc ?_ ?_ _ | refine Below.setCell ?_ ?_ _ | refine Below.drew ?_ | (apply below_step; assumption) | (simp; done) | (simp; omega) | omega))⟩
  · go_wp2_with fail
    have hX2 : Below w2.heap.size w2 (w2.alloc (.cells #[.int .i64 f.c, .int .i64 f.m, .int .i64 f.p] 43)) := (by repeat' (first | exact Below.refl _ _ | refine Below.alloc ?_ ?_ _ | refine Below.setCell ?_ ?_ _ | refine Below.drew ?_ | (apply below_step; assumption) | (simp; done) | (simp; omega) | omega))
    have hCX := below_of hC2 hX2
    refine (HFI.out _ (HG.out.below hCX (Nat.le_refl _))).mono ?_
    rintro e w3 ⟨rfl, hb3⟩
    have hC3 := below_of hCX hb3
    go_wp2_with fail
    go_ret
    exact ⟨by rw [HE.out]; rfl, hC3⟩

set_option maxHeartbeats 3200000 in
theorem scoreOn_any (c : CV) (n : NV) (t : TV) (a0 a1 a2 : Value) (ns ts : List Value) (w0 w : World) (hw : Below w0.heap.size w0 w) (x y : Addr) (hg : ErrAt x w) (hy : CapAt y w) (hc : CluR w0 c a0 a1 a2) (hn : NodeR w0 n ns) (ht : TaskR w0 t ts) :
    Calls Tryz.prog 111 #[.agg #[a0, a1, a2], .agg ns.toArray, .agg ts.toArray] w fun e w' => e = .returned (.int .i64 (scoreV c n t)) ∧ Below w.heap.size w w' := by
  have hro := fun w1 hw1 hg1 => hasRoom_any c n t a0 a1 a2 ns ts w0 w1 hw1 x hg1 hc hn ht
  have hus := fun w1 hw1 hg1 => usedOn_any c a0 a1 a2 n.id w0 w1 hw1 x hg1 hc
  obtain ⟨u1, u2, rfl, k1, k2, m1, m2⟩ := hn
  obtain ⟨v1, v2, rfl, h1, h2, l1, l2⟩ := ht
  obtain ⟨D0, e0, rfl, _⟩ := hc.1.form
  obtain ⟨D1, e1, rfl, _⟩ := hc.2.1.form
  obtain ⟨D2, e2, rfl, _⟩ := hc.2.2.1.form
  obtain ⟨A1, c1, rfl, _⟩ := k1.form
  obtain ⟨A2, c2, rfl, _⟩ := k2.form
  obtain ⟨B1, d1, rfl, _⟩ := h1.form
  obtain ⟨B2, d2, rfl, _⟩ := h2.form
  have hE : scoreV c n t = if roomV c n t then resShare (resAdd (usedOf c n.id).1 t.need) n.cap else -1 := rfl
  generalize roomV c n t = ro at hro hE
  generalize (usedOf c n.id).1 = u at hus hE
  generalize (usedOf c n.id).2 = uo at hus
  have had := fun w1 hg1 => ResAdd_any u t.need w1 x hg1
  generalize resAdd u t.need = s at had hE
  generalize resAddOk u t.need = so at had
  have hsh := fun w1 hg1 hy1 => ResShare_any s n.cap w1 x y hg1 hy1
  generalize resShare s n.cap = sh at hsh hE
  generalize scoreV c n t = r at hE ⊢
  have HE := Lib.hid hE
  have HRO := Lib.hid hro
  have HUS := Lib.hid hus
  have HAD := Lib.hid had
  have HSH := Lib.hid hsh
  have HW := Lib.hid hw
  have HG := Lib.hid hg
  have HY := Lib.hid hy
  clear k1 k2 h1 h2 hE hw hg hy hro hus had hsh hc m1 m2 l1 l2
  go_enter Tryz.func111, Tryz.ntmps111
  go_wp2_with fail
  have hX : Below w.heap.size w (((w.alloc (.cells #[.slice D0 c.tasks.length e0, .slice D1 c.nodes.length e1, .slice D2 c.binds.length e2] 39)).alloc (.cells #[.int .i64 n.id, .int .i64 n.pool, .int .i64 n.cap.c, .int .i64 n.cap.m, .int .i64 n.cap.p, .slice A1 n.labs.length c1, .slice A2 n.taints.length c2, .bool n.cordon] 60)).alloc (.cells #[.int .i64 t.id, .int .i64 t.prio, .int .i64 t.need.c, .int .i64 t.need.m, .int .i64 t.need.p, .slice B1 t.want.length d1, .slice B2 t.tols.length d2] 46)) := (by repeat' (first | exact Below.refl _ _ | refine Below.alloc ?_ ?_ _ | refine Below.setCell ?_ ?_ _ | refine Below.drew ?_ | (apply below_step; assumption) | (simp; done) | (simp; omega) | omega))
  refine (HRO.out _ (below_of HW.out hX) (HG.out.below hX (Nat.le_refl _))).mono ?_
  rintro e w2 ⟨rfl, hb2⟩
  have hC2 := below_of hX hb2
  obtain ⟨BC, BN, BT⟩ := boxes3 _ _ _ _ _ _ _ hb2
  have g0 := BC.cell 0
  have g1 := BC.cell 1
  have g2 := BC.cell 2
  have n0 := BN.cell 0
  have cl := BC.lt
  have nl := BN.lt
  simp at g0 g1 g2 n0
  have HBN := Lib.hid BN
  have HBT := Lib.hid BT
  clear hb2 hX BC BN BT
  cases ro
  · go_wp2_with fail
    go_ret
    exact ⟨by rw [HE.out]; rfl, hC2⟩
  · go_wp2_with fail
    refine (HUS.out _ (below_of HW.out hC2) (HG.out.below hC2 (Nat.le_refl _))).mono ?_
    rintro e w3 ⟨rfl, hb3⟩
    have hC3 := below_of hC2 hb3
    have BN := HBN.out.below hb3 HBN.out.lt
    have BT := HBT.out.below hb3 HBT.out.lt
    have t2 := BT.cell 2
    have t3 := BT.cell 3
    have t4 := BT.cell 4
    have tl := BT.lt
    simp at t2 t3 t4
    have HBN3 := Lib.hid BN
    clear hb3 g0 g1 g2 n0 BT BN HBN HBT
    go_wp2_with fail
    have hX3 : Below w3.heap.size w3 (w3.alloc (.cells #[.int .i64 u.c, .int .i64 u.m, .int .i64 u.p] 43)) := (by repeat' (first | exact Below.refl _ _ | refine Below.alloc ?_ ?_ _ | refine Below.setCell ?_ ?_ _ | refine Below.drew ?_ | (apply below_step; assumption) | (simp; done) | (simp; omega) | omega))
    have hCX := below_of hC3 hX3
    refine (HAD.out _ (HG.out.below hCX (Nat.le_refl _))).mono ?_
    rintro e w4 ⟨rfl, hb4⟩
    have hD4 := below_of hX3 hb4
    have hC4 := below_of hC3 hD4
    have BN := HBN3.out.below hD4 HBN3.out.lt
    have n2 := BN.cell 2
    have n3 := BN.cell 3
    have n4 := BN.cell 4
    have nl := BN.lt
    simp at n2 n3 n4
    clear hb4 t2 t3 t4 BN HBN3 hX3 hCX
    go_wp2_with fail
    have hX4 : Below w4.heap.size w4 (w4.alloc (.cells #[.int .i64 s.c, .int .i64 s.m, .int .i64 s.p] 43)) := (by repeat' (first | exact Below.refl _ _ | refine Below.alloc ?_ ?_ _ | refine Below.setCell ?_ ?_ _ | refine Below.drew ?_ | (apply below_step; assumption) | (simp; done) | (simp; omega) | omega))
    have hCX := below_of hC4 hX4
    refine (HSH.out _ (HG.out.below hCX (Nat.le_refl _)) (HY.out.below hCX (Nat.le_refl _))).mono ?_
    rintro e w5 ⟨rfl, hb5⟩
    have hC5 := below_of hCX hb5
    go_wp2_with fail
    go_ret
    exact ⟨by rw [HE.out]; rfl, hC5⟩

set_option maxHeartbeats 6400000 in
theorem Score_any (c : CV) (a0 a1 a2 : Value) (nz tz : Int) (w : World) (x y : Addr) (hg : ErrAt x w) (hy : CapAt y w) (hc : CluR w c a0 a1 a2) :
    Calls Tryz.prog 51 #[.agg #[a0, a1, a2], .int .i64 nz, .int .i64 tz] w fun e w' => e = .returned (.int .i64 (scoreG c nz tz)) ∧ Below w.heap.size w w' := by
  have hfn := fun w1 hw1 => findNode_any c a0 a1 a2 nz w w1 hw1 hc
  have hft := fun w1 hw1 => findTask_any c a0 a1 a2 tz w w1 hw1 hc
  have hok := fun w1 hg1 hw1 => ClusterOk_any c a0 a1 a2 w1 x hg1 (hc.below hw1)
  have htk := fun n t ns ts w1 hw1 hg1 hn ht => takes_any n t ns ts w w1 hw1 x hg1 hn ht
  have hso := fun n t ns ts w1 hw1 hg1 hy1 hn ht => scoreOn_any c n t a0 a1 a2 ns ts w w1 hw1 x y hg1 hy1 hc hn ht
  have hE : scoreG c nz tz = match fstBy NV.id c.nodes nz, fstBy TV.id c.tasks tz with
    | some n, some t => if clusterOk c && takesV n t then scoreV c n t else -1
    | _, _ => -1 := rfl
  obtain ⟨D0, e0, rfl, _⟩ := hc.1.form
  obtain ⟨D1, e1, rfl, _⟩ := hc.2.1.form
  obtain ⟨D2, e2, rfl, _⟩ := hc.2.2.1.form
  generalize fstBy NV.id c.nodes nz = o1 at hfn hE
  generalize fstBy TV.id c.tasks tz = o2 at hft hE
  generalize clusterOk c = ok at hok hE
  generalize scoreG c nz tz = r at hE ⊢
  have HE := Lib.hid hE
  have HFN := Lib.hid hfn
  have HFT := Lib.hid hft
  have HOK := Lib.hid hok
  have HTK := Lib.hid htk
  have HSO := Lib.hid hso
  have HG := Lib.hid hg
  have HY := Lib.hid hy
  clear hE hfn hft hok htk hso hg hy hc
  go_enter Tryz.func51, Tryz.ntmps51
  go_wp2_with fail
  have hX : Below w.heap.size w (w.alloc (.cells #[.slice D0 c.tasks.length e0, .slice D1 c.nodes.length e1, .slice D2 c.binds.length e2] 39)) := (by repeat' (first | exact Below.refl _ _ | refine Below.alloc ?_ ?_ _ | refine Below.setCell ?_ ?_ _ | refine Below.drew ?_ | (apply below_step; assumption) | (simp; done) | (simp; omega) | omega))
  refine (HFN.out _ hX).mono ?_
  rintro e w2 ⟨ns, rfl, hn, hb2⟩
  have hC2 := below_of hX hb2
  have BC := (BlockIs.new w 39 #[.slice D0 c.tasks.length e0, .slice D1 c.nodes.length e1, .slice D2 c.binds.length e2]).below hb2 (by simp)
  have g0 := BC.cell 0
  have g1 := BC.cell 1
  have g2 := BC.cell 2
  have cl := BC.lt
  simp at g0 g1 g2
  have HN := Lib.hid hn
  have HBC := Lib.hid BC
  generalize hgn : o1.getD NV.zero = n at hn HN
  have HGN := Lib.hid hgn
  obtain ⟨u1, u2, rfl, k1, k2, m1, m2⟩ := hn
  obtain ⟨A1, c1, rfl, _⟩ := k1.form
  obtain ⟨A2, c2, rfl, _⟩ := k2.form
  clear k1 k2 m1 m2 hb2 BC hgn hX
  go_wp2_with fail
  have hX2 : Below w2.heap.size w2 (w2.alloc (.cells #[.int .i64 n.id, .int .i64 n.pool, .int .i64 n.cap.c, .int .i64 n.cap.m, .int .i64 n.cap.p, .slice A1 n.labs.length c1, .slice A2 n.taints.length c2, .bool n.cordon] 60)) := (by repeat' (first | exact Below.refl _ _ | refine Below.alloc ?_ ?_ _ | refine Below.setCell ?_ ?_ _ | refine Below.drew ?_ | (apply below_step; assumption) | (simp; done) | (simp; omega) | omega))
  have hCX2 := below_of hC2 hX2
  refine (HFT.out _ hCX2).mono ?_
  rintro e w3 ⟨ts, rfl, ht, hb3⟩
  have hD3 := below_of hX2 hb3
  have hC3 := below_of hC2 hD3
  have BN := (BlockIs.new w2 60 #[.int .i64 n.id, .int .i64 n.pool, .int .i64 n.cap.c, .int .i64 n.cap.m, .int .i64 n.cap.p, .slice A1 n.labs.length c1, .slice A2 n.taints.length c2, .bool n.cordon]).below hb3 (by simp)
  have BC := HBC.out.below hD3 HBC.out.lt
  have g0 := BC.cell 0
  have g1 := BC.cell 1
  have g2 := BC.cell 2
  have cl := BC.lt
  simp at g0 g1 g2
  have HT := Lib.hid ht
  have HBC3 := Lib.hid BC
  have HBN3 := Lib.hid BN
  generalize hgt : o2.getD TV.zero = t at ht HT
  have HGT := Lib.hid hgt
  obtain ⟨v1, v2, rfl, h1, h2, l1, l2⟩ := ht
  obtain ⟨B1, d1, rfl, _⟩ := h1.form
  obtain ⟨B2, d2, rfl, _⟩ := h2.form
  clear h1 h2 l1 l2 hb3 BC BN hgt hX2 hCX2 hD3 HBC
  have hX3 : Below w3.heap.size w3 (w3.alloc (.cells #[.int .i64 t.id, .int .i64 t.prio, .int .i64 t.need.c, .int .i64 t.need.m, .int .i64 t.need.p, .slice B1 t.want.length d1, .slice B2 t.tols.length d2] 46)) := (by repeat' (first | exact Below.refl _ _ | refine Below.alloc ?_ ?_ _ | refine Below.setCell ?_ ?_ _ | refine Below.drew ?_ | (apply below_step; assumption) | (simp; done) | (simp; omega) | omega))
  have hCX3 := below_of hC3 hX3
  cases o1 with
  | none =>
    go_wp2_with fail
    go_ret
    exact ⟨by rw [HE.out] <;> rfl, hCX3⟩
  | some n' =>
    cases o2 with
    | none =>
      go_wp2_with fail
      go_ret
      exact ⟨by rw [HE.out] <;> rfl, hCX3⟩
    | some t' =>
      obtain rfl : n = n' := HGN.out.symm
      obtain rfl : t = t' := HGT.out.symm
      go_wp2_with fail
      refine (HOK.out _ (HG.out.below hCX3 (Nat.le_refl _)) hCX3).mono ?_
      rintro e w4 ⟨rfl, hb4⟩
      have hD4 := below_of hX3 hb4
      have hC4 := below_of hC3 hD4
      have BC := HBC3.out.below hD4 HBC3.out.lt
      have BN := HBN3.out.below hD4 HBN3.out.lt
      have BT := (BlockIs.new w3 46 #[.int .i64 t.id, .int .i64 t.prio, .int .i64 t.need.c, .int .i64 t.need.m, .int .i64 t.need.p, .slice B1 t.want.length d1, .slice B2 t.tols.length d2]).below hb4 (by simp)
      have HBC4 := Lib.hid BC
      have HBN4 := Lib.hid BN
      have HBT4 := Lib.hid BT
      have n0 := BN.cell 0; have n1 := BN.cell 1; have n2 := BN.cell 2; have n3 := BN.cell 3; have n4 := BN.cell 4; have n5 := BN.cell 5; have n6 := BN.cell 6; have n7 := BN.cell 7
      have t0 := BT.cell 0; have t1 := BT.cell 1; have t2 := BT.cell 2; have t3 := BT.cell 3; have t4 := BT.cell 4; have t5 := BT.cell 5; have t6 := BT.cell 6
      have nl := BN.lt
      have tl := BT.lt
      simp at n0 n1 n2 n3 n4 n5 n6 n7 t0 t1 t2 t3 t4 t5 t6
      clear hb4 hX3 hCX3 hD4 HBC3 HBN3 BC BN BT g0 g1 g2
      cases ok
      · go_wp2_with fail
        go_ret
        exact ⟨by rw [HE.out]; rfl, hC4⟩
      · go_wp2_with fail
        refine (HTK.out n t _ _ _ hC4 (HG.out.below hC4 (Nat.le_refl _)) HN.out HT.out).mono ?_
        rintro e w5 ⟨rfl, hb5⟩
        have hC5 := below_of hC4 hb5
        have BC := HBC4.out.below hb5 HBC4.out.lt
        have BN := HBN4.out.below hb5 HBN4.out.lt
        have BT := HBT4.out.below hb5 HBT4.out.lt
        have g0 := BC.cell 0; have g1 := BC.cell 1; have g2 := BC.cell 2
        have n0 := BN.cell 0; have n1 := BN.cell 1; have n2 := BN.cell 2; have n3 := BN.cell 3; have n4 := BN.cell 4; have n5 := BN.cell 5; have n6 := BN.cell 6; have n7 := BN.cell 7
        have t0 := BT.cell 0; have t1 := BT.cell 1; have t2 := BT.cell 2; have t3 := BT.cell 3; have t4 := BT.cell 4; have t5 := BT.cell 5; have t6 := BT.cell 6
        have cl := BC.lt
        have nl := BN.lt
        have tl := BT.lt
        simp at g0 g1 g2 n0 n1 n2 n3 n4 n5 n6 n7 t0 t1 t2 t3 t4 t5 t6
        clear hb5 BC BN BT HBC4 HBN4 HBT4
        have HR := Lib.hid (show r = if takesV n t then scoreV c n t else -1 by rw [HE.out]; simp)
        generalize takesV n t = tk at HR
        cases tk
        · go_wp2_with fail
          go_ret
          exact ⟨by rw [HR.out]; rfl, hC5⟩
        · go_wp2_with fail
          refine (HSO.out n t _ _ _ hC5 (HG.out.below hC5 (Nat.le_refl _)) (HY.out.below hC5 (Nat.le_refl _)) HN.out HT.out).mono ?_
          rintro e w6 ⟨rfl, hb6⟩
          have hC6 := below_of hC5 hb6
          go_wp2_with fail
          go_ret
          exact ⟨by rw [HR.out]; rfl, hC6⟩
end Go.Proofs.YtflcacbpceinaaaGreatDoor

namespace Go.Proofs.YtflcacbpceinaaaGreatDoor
open Go.RowKit

/-- The slice value v owns the ints l, in blocks from base on. -/
def OwnsJ (w : World) (base : Nat) (v : Value) (l : List Int) : Prop := w.ownsRow base 3 1 v l.length (intL l)
section
variable {w w' : World} {base : Nat} {v : Value} {l : List Int}
theorem OwnsJ.alloc (h : OwnsJ w base v l) (o : Obj) : OwnsJ (w.alloc o) base v l := World.ownsRow.alloc h o
theorem OwnsJ.nil (w : World) (base : Nat) : OwnsJ w base (.slice none 0 0) [] := World.ownsRow_nil w base _ _
theorem OwnsJ.o (h : OwnsJ w base v l) : IntO w v l := by
  obtain ⟨h1, h2⟩ := h
  refine ⟨h1, ?_⟩
  rcases h2 with h | ⟨g, cap, cur, hv, hg, h⟩
  · exact .inl h
  · exact .inr ⟨g, cap, cur, hv, Nat.zero_le _, h⟩
theorem OwnsJ.low (h : OwnsJ w base v l) : ∀ b ∈ blk v, base ≤ b := by
  rcases h.2 with ⟨rfl, _⟩ | ⟨g, cap, cur, rfl, hg, _⟩
  · intro b hb; simp [blk, Value.ownBlock] at hb
  · intro b hb
    simp [blk, Value.ownBlock] at hb
    omega
theorem OwnsJ.below {B : Nat} (h : OwnsJ w base v l) (hb : Below B w w') (hB : w.heap.size ≤ B) : OwnsJ w' base v l := by
  obtain ⟨h1, h2⟩ := h
  refine ⟨h1, ?_⟩
  rcases h2 with h | ⟨g, cap, cur, hv, hg, hh, h⟩
  · exact .inl h
  · have hlt : g < w.heap.size := (Array.getElem?_eq_some_iff.1 hh).1
    exact .inr ⟨g, cap, cur, hv, hg, (hb.block g (by omega)).trans hh, h⟩
theorem OwnsJ.lower {b : Nat} (h : OwnsJ w base v l) (hb : b ≤ base) : OwnsJ w b v l := by
  obtain ⟨h1, h2⟩ := h
  refine ⟨h1, ?_⟩
  rcases h2 with h | ⟨g, cap, cur, hv, hg, h⟩
  · exact .inl h
  · exact .inr ⟨g, cap, cur, hv, Nat.le_trans hb hg, h⟩
end
theorem intL_snoc (l : List Int) (r : Int) : intL (l ++ [r]) = intL l ++ [.int .i64 r] := by simp [intL]
theorem wpList_append_i {ops : Array Oper} {rest : List Oper} {o : Oper} {a : Act} {Q : Exit → Act → World → Prop} (w : World) (hgd : o.guard = none) (s x : Operand)
    (ho : o.op = .call { callee := .builtin .append, args := #[s, x], argTypes := #[30, 30] })
    (base : Nat) (v : Value) (l : List Int) (r : Int) (g : Nat) (hs : a.eval s = v) (hown : OwnsJ w base v l) (hx : a.eval x = .slice (some ⟨g, 0, none⟩) 1 1)
    (h0 : w.cell? ⟨g, 0, none⟩ = some (.int .i64 r)) (hl : l.length ≤ 2000000) (hbase : base ≤ w.heap.size)
    (h : ∀ v' w', OwnsJ w' base v' (l ++ [r]) → Below base w w' → wpList Tryz.prog ops Q rest (a.put o.dst v') w') : wpList Tryz.prog ops Q (o :: rest) a w := by
  obtain ⟨i0, hi0, hz0, hz1, hz2⟩ := info_parts Tryz.infoI
  refine wpList_append_own w hgd s x 30 ho base 3 i0 _ 1 8 Tryz.underlying30 hi0 hz0 hz1 hz2 rfl (by omega) v l.length (intL l) hs hown ⟨g, 0, none⟩ 1 1 [.int .i64 r] hx rfl ?_ ?_ (by simp only [maxLen]; omega) (by omega) hbase ?_
  · intro j u hj
    match j, hj with
    | 0, hj => simp at hj; subst hj; simpa [Addr.add] using h0
  · intro u hu
    simp at hu
    subst hu; rfl
  · intro v' w' hown' hgrow _
    refine h v' w' ?_ ((Below.refl _ _).grown hgrow hbase (fun k hk => (World.ownsRow.lt hown k hk).1))
    unfold OwnsJ
    rw [intL_snoc, List.length_append]
    exact hown'
/-- The same as one step of a region that draws. -/
theorem step_append_i {ops : Array Oper} {o : Oper} {a : Act} {K : Act → World → Prop} {Q : Exit → Act → World → Prop} {E : Prop} (w : World) (hgd : o.guard = none) (s x : Operand)
    (ho : o.op = .call { callee := .builtin .append, args := #[s, x], argTypes := #[30, 30] })
    (base : Nat) (v : Value) (l : List Int) (r : Int) (g : Nat) (hs : a.eval s = v) (hown : OwnsJ w base v l) (hx : a.eval x = .slice (some ⟨g, 0, none⟩) 1 1)
    (h0 : w.cell? ⟨g, 0, none⟩ = some (.int .i64 r)) (hl : l.length ≤ 2000000) (hbase : base ≤ w.heap.size)
    (h : ∀ v' w', OwnsJ w' base v' (l ++ [r]) → Below base w w' → K (a.put o.dst v') w') : if Region.wanted o (yielded ops a.tmps) = true then Oper.wp Tryz.prog o a w K Q else E := by
  have hw : Region.wanted o (yielded ops a.tmps) = true := by simp [Region.wanted, hgd]
  rw [if_pos hw]
  obtain ⟨i0, hi0, hz0, hz1, hz2⟩ := info_parts Tryz.infoI
  refine wp_append_own w s x 30 ho base 3 i0 _ 1 8 Tryz.underlying30 hi0 hz0 hz1 hz2 rfl (by omega) v l.length (intL l) hs hown ⟨g, 0, none⟩ 1 1 [.int .i64 r] hx rfl ?_ ?_ (by simp only [maxLen]; omega) (by omega) hbase ?_
  · intro j u hj
    match j, hj with
    | 0, hj => simp at hj; subst hj; simpa [Addr.add] using h0
  · intro u hu
    simp at hu
    subst hu; rfl
  · intro v' w' hown' hgrow _
    refine h v' w' ?_ ((Below.refl _ _).grown hgrow hbase (fun k hk => (World.ownsRow.lt hown k hk).1))
    unfold OwnsJ
    rw [intL_snoc, List.length_append]
    exact hown'
/-- The same, and which block may have turned. -/
theorem step_append_i2 {ops : Array Oper} {o : Oper} {a : Act} {K : Act → World → Prop} {Q : Exit → Act → World → Prop} {E : Prop} (w : World) (hgd : o.guard = none) (s x : Operand)
    (ho : o.op = .call { callee := .builtin .append, args := #[s, x], argTypes := #[30, 30] })
    (base : Nat) (v : Value) (l : List Int) (r : Int) (g : Nat) (hs : a.eval s = v) (hown : OwnsJ w base v l) (hx : a.eval x = .slice (some ⟨g, 0, none⟩) 1 1)
    (h0 : w.cell? ⟨g, 0, none⟩ = some (.int .i64 r)) (hl : l.length ≤ 2000000) (hbase : base ≤ w.heap.size)
    (h : ∀ v' w', OwnsJ w' base v' (l ++ [r]) → Below base w w' → w.grownBy w' v.ownBlock → K (a.put o.dst v') w') : if Region.wanted o (yielded ops a.tmps) = true then Oper.wp Tryz.prog o a w K Q else E := by
  have hw : Region.wanted o (yielded ops a.tmps) = true := by simp [Region.wanted, hgd]
  rw [if_pos hw]
  obtain ⟨i0, hi0, hz0, hz1, hz2⟩ := info_parts Tryz.infoI
  refine wp_append_own w s x 30 ho base 3 i0 _ 1 8 Tryz.underlying30 hi0 hz0 hz1 hz2 rfl (by omega) v l.length (intL l) hs hown ⟨g, 0, none⟩ 1 1 [.int .i64 r] hx rfl ?_ ?_ (by simp only [maxLen]; omega) (by omega) hbase ?_
  · intro j u hj
    match j, hj with
    | 0, hj => simp at hj; subst hj; simpa [Addr.add] using h0
  · intro u hu
    simp at hu
    subst hu; rfl
  · intro v' w' hown' hgrow _
    refine h v' w' ?_ ((Below.refl _ _).grown hgrow hbase (fun k hk => (World.ownsRow.lt hown k hk).1)) hgrow
    unfold OwnsJ
    rw [intL_snoc, List.length_append]
    exact hown'
end Go.Proofs.YtflcacbpceinaaaGreatDoor

namespace Go.Proofs.YtflcacbpceinaaaGreatDoor
open Go.RowKit

def shareN (c : CV) (n : NV) : Int := resShare (usedOf c n.id).1 n.cap
def sharesV (c : CV) : List Int := if clusterOk c then c.nodes.map (shareN c) else []
/-- The ending 'ints of the call's own'. -/
def RetInts (w : World) (l : List Int) (e : Ending) (w' : World) : Prop := ∃ v, e = .returned v ∧ OwnsJ w' w.heap.size v l ∧ Below w.heap.size w w'
theorem map_take_snoc {α β : Type} (f : α → β) {l : List α} {k : Nat} {x : α} (h : l[k]? = some x) : (l.take (k + 1)).map f = (l.take k).map f ++ [f x] := by rw [take_at h]; simp

set_option maxHeartbeats 3200000 in
theorem Shares_any (c : CV) (a0 a1 a2 : Value) (w : World) (x y : Addr) (hg : ErrAt x w) (hy : CapAt y w) (hc : CluR w c a0 a1 a2) :
    Calls Tryz.prog 53 #[.agg #[a0, a1, a2]] w (RetInts w (sharesV c)) := by
  have hok := fun w1 hg1 hw1 => ClusterOk_any c a0 a1 a2 w1 x hg1 (hc.below hw1)
  have hus := fun z w1 hw1 hg1 => usedOn_any c a0 a1 a2 z w w1 hw1 x hg1 hc
  have hE : sharesV c = if clusterOk c then c.nodes.map (shareN c) else [] := rfl
  obtain ⟨D0, e0, rfl, _⟩ := hc.1.form
  obtain ⟨D1, e1, rfl, hA⟩ := hc.2.1.form
  obtain ⟨D2, e2, rfl, _⟩ := hc.2.2.1.form
  have l1 := hc.2.2.2.2.1
  generalize clusterOk c = ok at hok hE
  have HE := Lib.hid hE
  have HOK := Lib.hid hok
  have HUS := Lib.hid hus
  have HA := Lib.hid hA
  have HG := Lib.hid hg
  have HY := Lib.hid hy
  clear hE hok hus hA hg hy hc
  go_enter Tryz.func53, Tryz.ntmps53
  go_wp2_with fail
  have hX : Below w.heap.size w (w.alloc (.cells #[.slice D0 c.tasks.length e0, .slice D1 c.nodes.length e1, .slice D2 c.binds.length e2] 39)) := (by repeat' (first | exact Below.refl _ _ | refine Below.alloc ?_ ?_ _ | refine Below.setCell ?_ ?_ _ | refine Below.drew ?_ | (apply below_step; assumption) | (simp; done) | (simp; omega) | omega))
  refine (HOK.out _ (HG.out.below hX (Nat.le_refl _)) hX).mono ?_
  rintro e X ⟨rfl, hb2⟩
  have hCX := below_of hX hb2
  have BC := (BlockIs.new w 39 #[.slice D0 c.tasks.length e0, .slice D1 c.nodes.length e1, .slice D2 c.binds.length e2]).below hb2 (by simp)
  have g0 := BC.cell 0
  have g1 := BC.cell 1
  have g2 := BC.cell 2
  have cl := BC.lt
  simp at g0 g1 g2
  have HBC := Lib.hid BC
  clear hb2 hX BC
  cases ok
  · go_wp2_with fail
    go_ret
    exact ⟨_, rfl, by rw [HE.out]; exact OwnsJ.nil _ _, hCX⟩
  · go_wp2_with fail
    go_loopw [3, 14] (fun s3 s14 wr => ∃ k : Nat, k ≤ c.nodes.length ∧ s14 = .int .i64 k ∧ OwnsJ wr X.heap.size s3 ((c.nodes.take k).map (shareN c)) ∧ Below X.heap.size X wr) (fun _ s14 _ => (c.nodes.length - intOf s14).toNat)
    case atStart => exact ⟨0, by omega, rfl, by simpa using OwnsJ.nil _ _, Below.refl _ _⟩
    case round =>
      obtain ⟨k, hk, rfl, hown, hB⟩ := hrel
      have HOW := Lib.hid hown
      have hCB := below_of hCX hB
      have BC := HBC.out.below hB HBC.out.lt
      have q0 := BC.cell 0
      have q1 := BC.cell 1
      have q2 := BC.cell 2
      have cl := BC.lt
      have hzr := hB.size
      simp at q0 q1 q2
      clear hown BC g0 g1 g2
      by_cases hlt : k < c.nodes.length
      · obtain ⟨b, off, rfl, hbw, hat⟩ := HA.out (by omega)
        obtain ⟨n, hn⟩ : ∃ n, c.nodes[k]? = some n := ⟨_, List.getElem?_eq_getElem hlt⟩
        obtain ⟨cs, hR, hC⟩ := (hat.below NodeR.kept hCB hbw) k n hn
        obtain ⟨u1, u2, rfl, k1, k2, m1, m2⟩ := hR
        obtain ⟨A1, c1, rfl, _⟩ := k1.form
        obtain ⟨A2, c2, rfl, _⟩ := k2.form
        obtain ⟨n0, n1, n2, n3, n4, n5, n6, n7⟩ := node_cells hC
        have HNT := Lib.hid (map_take_snoc (shareN c) hn)
        have hlti : (k : Int) < (c.nodes.length : Int) := by omega
        have hus := fun w1 hw1 hg1 => HUS.out n.id w1 hw1 hg1
        have hSV : shareN c n = resShare (usedOf c n.id).1 n.cap := rfl
        generalize (usedOf c n.id).1 = u at hus hSV
        generalize (usedOf c n.id).2 = uo at hus
        have hsh := fun w1 hg1 hy1 => ResShare_any u n.cap w1 x y hg1 hy1
        generalize resShare u n.cap = sh at hsh hSV
        have HUN := Lib.hid hus
        have HSH := Lib.hid hsh
        have HSV := Lib.hid hSV
        have HLN := Lib.hid (show ((c.nodes.take k).map (shareN c)).length ≤ 1048576 by rw [List.length_map, List.length_take]; omega)
        clear hat hC hn k1 k2 m1 m2 hus hsh hSV
        go_wp2_with fail
        have hX3 : Below wr.heap.size wr (wr.alloc (.cells #[.int .i64 n.id, .int .i64 n.pool, .int .i64 n.cap.c, .int .i64 n.cap.m, .int .i64 n.cap.p, .slice A1 n.labs.length c1, .slice A2 n.taints.length c2, .bool n.cordon] 60)) := (by repeat' (first | exact Below.refl _ _ | refine Below.alloc ?_ ?_ _ | refine Below.setCell ?_ ?_ _ | refine Below.drew ?_ | (apply below_step; assumption) | (simp; done) | (simp; omega) | omega))
        have hCX3 := below_of hCB hX3
        refine (HUN.out _ hCX3 (HG.out.below hCX3 (Nat.le_refl _))).mono ?_
        rintro e w3 ⟨rfl, hb3⟩
        have hD3 := below_of hX3 hb3
        have hC3 := below_of hCB hD3
        have BN := (BlockIs.new wr 60 #[.int .i64 n.id, .int .i64 n.pool, .int .i64 n.cap.c, .int .i64 n.cap.m, .int .i64 n.cap.p, .slice A1 n.labs.length c1, .slice A2 n.taints.length c2, .bool n.cordon]).below hb3 (by simp)
        have z2 := BN.cell 2
        have z3 := BN.cell 3
        have z4 := BN.cell 4
        have zl := BN.lt
        have hz3 := hD3.size
        simp at z2 z3 z4
        have HO3 := Lib.hid (HOW.out.below hD3 (Nat.le_refl _))
        clear BN hb3 hX3 hCX3 q0 q1 q2 n0 n1 n2 n3 n4 n5 n6 n7
        go_wp2_with fail
        have hX4 : Below w3.heap.size w3 (w3.alloc (.cells #[.int .i64 u.c, .int .i64 u.m, .int .i64 u.p] 43)) := (by repeat' (first | exact Below.refl _ _ | refine Below.alloc ?_ ?_ _ | refine Below.setCell ?_ ?_ _ | refine Below.drew ?_ | (apply below_step; assumption) | (simp; done) | (simp; omega) | omega))
        have hCX4 := below_of hC3 hX4
        refine (HSH.out _ (HG.out.below hCX4 (Nat.le_refl _)) (HY.out.below hCX4 (Nat.le_refl _))).mono ?_
        rintro e w5 ⟨rfl, hb5⟩
        have hD5 := below_of hX4 hb5
        have hz5 := hD5.size
        have HO5 := Lib.hid (HO3.out.below hD5 (Nat.le_refl _))
        have hE5 := below_of hD3 hD5
        have HE5 := Lib.hid (below_of hB hE5)
        clear hb5 hX4 hCX4 hD5 hD3 HO3 z2 z3 z4
        go_wp2_with (at_builtin; refine wpList_append_i _ rfl (.tmp 25) (.tmp 30) rfl X.heap.size _ ((c.nodes.take k).map (shareN c)) sh w5.heap.size rfl (HO5.out.alloc _) rfl (by simp) (by have := HLN.out; omega) (by simp; omega) ?_; intro v' w6 hown6 hb6)
        have hz6 := hb6.size
        simp at hz6
        go_roundw
        case rel =>
          refine ⟨k + 1, by omega, by go_num, ?_, ?_⟩
          · rw [HNT.out, HSV.out]; exact hown6
          · exact (HE5.out.alloc (by omega) _).trans hb6
        case measure => simp [intOf]; omega
      · have hkl : k = c.nodes.length := by omega
        have HF := Lib.hid (show OwnsJ wr X.heap.size _ (c.nodes.map (shareN c)) by have := HOW.out; rw [hkl, List.take_length] at this; exact this)
        clear hkl
        go_wp2_with fail
        go_ret
        exact ⟨_, rfl, by rw [HE.out]; exact HF.out.lower hCX.size, hCB⟩
end Go.Proofs.YtflcacbpceinaaaGreatDoor

namespace Go.Proofs.YtflcacbpceinaaaGreatDoor
open Go.RowKit

theorem nodesFrom_ok {p : Int} {l : List NV} (h : nodesFrom p l = true) : ∀ n ∈ l, n.ok = true := by
  induction l generalizing p with
  | nil => intro n hn; cases hn
  | cons x r ih =>
    simp only [nodesFrom, Bool.and_eq_true] at h
    intro n hn
    rcases List.mem_cons.1 hn with rfl | hn
    · exact h.1.1
    · exact ih h.2 n hn
theorem tasksFrom_ok {s : List Int} {l : List TV} (h : tasksFrom s l = true) : ∀ t ∈ l, t.ok = true := by
  induction l generalizing s with
  | nil => intro n hn; cases hn
  | cons x r ih =>
    simp only [tasksFrom, Bool.and_eq_true] at h
    intro n hn
    rcases List.mem_cons.1 hn with rfl | hn
    · exact h.1.1
    · exact ih h.2 n hn
theorem clusterOk_node {c : CV} (h : clusterOk c = true) {z : Int} {n : NV} (hn : fstBy NV.id c.nodes z = some n) : n.ok = true := by
  simp only [clusterOk, nodesOk, Bool.and_eq_true] at h
  exact nodesFrom_ok h.1.1.2.2 n (fstBy_mem hn)
theorem clusterOk_task {c : CV} (h : clusterOk c = true) {z : Int} {t : TV} (ht : fstBy TV.id c.tasks z = some t) : t.ok = true := by
  simp only [clusterOk, tasksOk, Bool.and_eq_true] at h
  exact tasksFrom_ok h.1.1.1.2 t (fstBy_mem ht)
def scoreM (c : CV) (nz tz : Int) : Int := match fstBy NV.id c.nodes nz, fstBy TV.id c.tasks tz with
  | some n, some t => if n.cordon || !hosts n t || !resSubOk (resSub n.cap (usedOf c nz).1) t.need then -1 else resShare (resAdd (usedOf c nz).1 t.need) n.cap
  | _, _ => -1
theorem scoreM_eq {c : CV} (h : clusterOk c = true) (nz tz : Int) : scoreM c nz tz = scoreG c nz tz := by
  unfold scoreM scoreG
  cases hn : fstBy NV.id c.nodes nz with
  | none => rfl
  | some n =>
    cases ht : fstBy TV.id c.tasks tz with
    | none => rfl
    | some t =>
      have hz := fstBy_key hn
      have hf := freeOf_ok (fitsAll_mem (clusterOk_fits h) (fstBy_mem hn))
      simp only [h, takesV, canHost, clusterOk_node h hn, clusterOk_task h ht, scoreV, roomV, hf, hz, Bool.true_and]
      cases n.cordon <;> cases hosts n t <;> cases resSubOk (resSub n.cap (usedOf c nz).1) t.need <;> simp
theorem cellK {X w' : World} {p : Addr} {v : Value} (hb : Below X.heap.size X w') (h : X.cell? p = some v) : w'.cell? p = some v := (hb.cell (World.block_lt_of_cell? _ _ h)).trans h

set_option maxHeartbeats 6400000 in
set_option maxRecDepth 20000 in
theorem l04Score_any (c : CV) (a0 a1 a2 : Value) (nz tz : Int) (w : World) (hc : CluR w c a0 a1 a2) (hok : clusterOk c = true) :
    Calls Tryz.prog 108 #[.agg #[a0, a1, a2], .int .i64 nz, .int .i64 tz] w fun e w' => e = .returned (.int .i64 (scoreM c nz tz)) ∧ Below w.heap.size w w' := by
  have hall := bindsFrom_all (clusterOk_binds hok)
  have hin := fun w1 hw1 => sNode_any c a0 a1 a2 nz w w1 hw1 hc
  have hit := fun w1 hw1 => sTask_any c a0 a1 a2 tz w w1 hw1 hc
  have hus := fun w1 hw1 => sUsed_any c a0 a1 a2 nz w w1 hw1 hc hall
  have hfr := fun n hn w1 hw1 => l03Free_any c a0 a1 a2 nz n w1 (hc.below hw1) hall hn
  have hE : scoreM c nz tz = match fstBy NV.id c.nodes nz, fstBy TV.id c.tasks tz with
    | some n, some t => if n.cordon || !hosts n t || !resSubOk (resSub n.cap (usedOf c nz).1) t.need then -1 else resShare (resAdd (usedOf c nz).1 t.need) n.cap
    | _, _ => -1 := rfl
  obtain ⟨D0, D1, D2, e0, e1, e2, rfl, rfl, rfl, hF⟩ := hc.full
  generalize (usedOf c nz).1 = u at hus hfr hE
  generalize (usedOf c nz).2 = uo at hus
  generalize scoreM c nz tz = r at hE ⊢
  have l0 := hF.l0
  have l1 := hF.l1
  have HF := Lib.hid hF
  have HUS := Lib.hid hus
  have HFR := Lib.hid hfr
  have HE := Lib.hid hE
  generalize hjn : idxBy NV.id c.nodes nz = jn at hin
  generalize hjt : idxBy TV.id c.tasks tz = jt at hit
  have HJN := Lib.hid hjn
  have HJT := Lib.hid hjt
  have HIN := Lib.hid hin
  have HIT := Lib.hid hit
  clear hin hit hus hfr hE hF hc hall hjn hjt
  have hnn : ∀ m : Nat, decide ((m : Int) < 0) = false := fun m => by simp
  go_enter Tryz.func108, Tryz.ntmps108
  go_wp2_with fail
  have hX : Below w.heap.size w (w.alloc (.cells #[.slice D0 c.tasks.length e0, .slice D1 c.nodes.length e1, .slice D2 c.binds.length e2] 39)) := (by repeat' (first | exact Below.refl _ _ | refine Below.alloc ?_ ?_ _ | refine Below.setCell ?_ ?_ _ | refine Below.drew ?_ | (apply below_step; assumption) | (simp; done) | (simp; omega) | omega))
  refine (HIN.out _ hX).mono ?_
  rintro e w2 ⟨rfl, hb2⟩
  have hC2 := below_of hX hb2
  have BC := (BlockIs.new w 39 #[.slice D0 c.tasks.length e0, .slice D1 c.nodes.length e1, .slice D2 c.binds.length e2]).below hb2 (by simp)
  have g0 := BC.cell 0
  have g1 := BC.cell 1
  have g2 := BC.cell 2
  have cl := BC.lt
  simp at g0 g1 g2
  have HBC := Lib.hid BC
  clear hb2 BC hX
  go_wp2_with fail
  refine (HIT.out _ hC2).mono ?_
  rintro e w3 ⟨rfl, hb3⟩
  have hC3 := below_of hC2 hb3
  have HBC3 := Lib.hid (HBC.out.below hb3 HBC.out.lt)
  have cl := HBC3.out.lt
  clear hb3 HBC g0 g1 g2 hC2
  cases hfn : fstBy NV.id c.nodes nz with
  | none =>
    obtain rfl : jn = -1 := by rw [← HJN.out]; exact idxBy_none hfn
    have HR := Lib.hid (show r = -1 by rw [HE.out, hfn])
    clear hfn HJN HJT hnn
    go_wp2_with fail
    refine wp_region_held_drew (S := (fun w' => Below w3.heap.size w3 w')) (by kernel_rfl) (by (try dsimp only); exact (by repeat' (first | exact Below.refl _ _ | refine Below.alloc ?_ ?_ _ | refine Below.setCell ?_ ?_ _ | refine Below.drew ?_ | (apply below_step; assumption) | (simp; done) | (simp; omega) | omega))) (fun hHeld => ?_)
    refine hTake (i := 0) (oi := ?a2) (v := ?f2) (d := ?g2) ?b2 ?c2 (by kernel_rfl) ?d2 ?e2 ?h2 (by assumption) ?_; (case b2 => simp only [rhN]; try rfl); (case c2 => (try dsimp only); rfl); (case e2 => rfl); (case d2 => exact fun _ _ _ h => h); (case h2 => intro w hSw; (try dsimp only at hSw); go_simp <;> with_reducible rfl); simp only [Act.put, rhA, rhS, rhT]
    refine hTake (i := 1) (oi := ?a4) (v := ?f4) (d := ?g4) ?b4 ?c4 (by kernel_rfl) ?d4 ?e4 ?h4 (by assumption) ?_; (case b4 => simp only [rhN, rhM]; try rfl); (case c4 => (try dsimp only); rfl); (case e4 => rfl); (case d4 => exact fun _ _ _ h => h); (case h4 => intro w hSw; (try dsimp only at hSw); go_simp <;> with_reducible rfl); simp only [Act.put, rhA, rhS, rhT]
    refine hTake (i := 2) (oi := ?a6) (v := ?f6) (d := ?g6) ?b6 ?c6 (by kernel_rfl) ?d6 ?e6 ?h6 (by assumption) ?_; (case b6 => simp only [rhN, rhM]; try rfl); (case c6 => (try dsimp only); rfl); (case e6 => rfl); (case d6 => exact fun _ _ _ h => h); (case h6 => intro w hSw; (try dsimp only at hSw); go_simp <;> with_reducible rfl); simp only [Act.put, rhA, rhS, rhT]
    refine hSkip (i := 3) (oi := ?a8) (d := ?g8) ?b8 ?c8 (by kernel_rfl) ?d8 ?e8 (by assumption) ?_; (case b8 => simp only [rhN, rhM]; try rfl); (case c8 => (try dsimp only); rfl); (case e8 => rfl); (case d8 => exact fun _ _ _ h => h); simp only [Act.put, rhA, rhS, rhT]
    refine hSkip (i := 4) (oi := ?a9) (d := ?g9) ?b9 ?c9 (by kernel_rfl) ?d9 ?e9 (by assumption) ?_; (case b9 => simp only [rhN, rhM]; try rfl); (case c9 => (try dsimp only); rfl); (case e9 => rfl); (case d9 => exact fun _ _ _ h => h); simp only [Act.put, rhA, rhS, rhT]
    refine hTake (i := 5) (oi := ?a11) (v := ?f11) (d := ?g11) ?b11 ?c11 (by kernel_rfl) ?d11 ?e11 ?h11 (by assumption) ?_; (case b11 => simp only [rhN, rhM]; try rfl); (case c11 => (try dsimp only); rfl); (case e11 => rfl); (case d11 => exact fun _ _ _ h => h); (case h11 => intro w hSw; (try dsimp only at hSw); go_simp <;> with_reducible rfl); simp only [Act.put, rhA, rhS, rhT]
    refine hTake (i := 6) (oi := ?a13) (v := ?f13) (d := ?g13) ?b13 ?c13 (by kernel_rfl) ?d13 ?e13 ?h13 (by assumption) ?_; (case b13 => simp only [rhN, rhM]; try rfl); (case c13 => (try dsimp only); rfl); (case e13 => rfl); (case d13 => exact fun _ _ _ h => h); (case h13 => intro w hSw; (try dsimp only at hSw); go_simp <;> with_reducible rfl); simp only [Act.put, rhA, rhS, rhT]
    refine hSkip (i := 7) (oi := ?a15) (d := ?g15) ?b15 ?c15 (by kernel_rfl) ?d15 ?e15 (by assumption) ?_; (case b15 => simp only [rhN, rhM]; try rfl); (case c15 => (try dsimp only); rfl); (case e15 => rfl); (case d15 => exact fun _ _ _ h => h); simp only [Act.put, rhA, rhS, rhT]
    refine hSkip (i := 8) (oi := ?a16) (d := ?g16) ?b16 ?c16 (by kernel_rfl) ?d16 ?e16 (by assumption) ?_; (case b16 => simp only [rhN, rhM]; try rfl); (case c16 => (try dsimp only); rfl); (case e16 => rfl); (case d16 => exact fun _ _ _ h => h); simp only [Act.put, rhA, rhS, rhT]
    refine hSkip (i := 9) (oi := ?a17) (d := ?g17) ?b17 ?c17 (by kernel_rfl) ?d17 ?e17 (by assumption) ?_; (case b17 => simp only [rhN, rhM]; try rfl); (case c17 => (try dsimp only); rfl); (case e17 => rfl); (case d17 => exact fun _ _ _ h => h); simp only [Act.put, rhA, rhS, rhT]
    refine hSkip (i := 10) (oi := ?a18) (d := ?g18) ?b18 ?c18 (by kernel_rfl) ?d18 ?e18 (by assumption) ?_; (case b18 => simp only [rhN, rhM]; try rfl); (case c18 => (try dsimp only); rfl); (case e18 => rfl); (case d18 => exact fun _ _ _ h => h); simp only [Act.put, rhA, rhS, rhT]
    refine hSkip (i := 11) (oi := ?a19) (d := ?g19) ?b19 ?c19 (by kernel_rfl) ?d19 ?e19 (by assumption) ?_; (case b19 => simp only [rhN, rhM]; try rfl); (case c19 => (try dsimp only); rfl); (case e19 => rfl); (case d19 => exact fun _ _ _ h => h); simp only [Act.put, rhA, rhS, rhT]
    refine hSkip (i := 12) (oi := ?a20) (d := ?g20) ?b20 ?c20 (by kernel_rfl) ?d20 ?e20 (by assumption) ?_; (case b20 => simp only [rhN, rhM]; try rfl); (case c20 => (try dsimp only); rfl); (case e20 => rfl); (case d20 => exact fun _ _ _ h => h); simp only [Act.put, rhA, rhS, rhT]
    refine hTake (i := 13) (oi := ?a22) (v := ?f22) (d := ?g22) ?b22 ?c22 (by kernel_rfl) ?d22 ?e22 ?h22 (by assumption) ?_; (case b22 => simp only [rhN, rhM]; try rfl); (case c22 => (try dsimp only); rfl); (case e22 => rfl); (case d22 => exact fun _ _ _ h => h); (case h22 => intro w hSw; (try dsimp only at hSw); go_simp <;> with_reducible rfl); simp only [Act.put, rhA, rhS, rhT]
    refine hTake (i := 14) (oi := ?a24) (v := ?f24) (d := ?g24) ?b24 ?c24 (by kernel_rfl) ?d24 ?e24 ?h24 (by assumption) ?_; (case b24 => simp only [rhN, rhM]; try rfl); (case c24 => (try dsimp only); rfl); (case e24 => rfl); (case d24 => exact fun _ _ _ h => h); (case h24 => intro w hSw; (try dsimp only at hSw); go_simp <;> with_reducible rfl); simp only [Act.put, rhA, rhS, rhT]
    refine hSkip (i := 15) (oi := ?a26) (d := ?g26) ?b26 ?c26 (by kernel_rfl) ?d26 ?e26 (by assumption) ?_; (case b26 => simp only [rhN, rhM]; try rfl); (case c26 => (try dsimp only); rfl); (case e26 => rfl); (case d26 => exact fun _ _ _ h => h); simp only [Act.put, rhA, rhS, rhT]
    refine hSkip (i := 16) (oi := ?a27) (d := ?g27) ?b27 ?c27 (by kernel_rfl) ?d27 ?e27 (by assumption) ?_; (case b27 => simp only [rhN, rhM]; try rfl); (case c27 => (try dsimp only); rfl); (case e27 => rfl); (case d27 => exact fun _ _ _ h => h); simp only [Act.put, rhA, rhS, rhT]
    refine hSkip (i := 17) (oi := ?a28) (d := ?g28) ?b28 ?c28 (by kernel_rfl) ?d28 ?e28 (by assumption) ?_; (case b28 => simp only [rhN, rhM]; try rfl); (case c28 => (try dsimp only); rfl); (case e28 => rfl); (case d28 => exact fun _ _ _ h => h); simp only [Act.put, rhA, rhS, rhT]
    refine hSkip (i := 18) (oi := ?a29) (d := ?g29) ?b29 ?c29 (by kernel_rfl) ?d29 ?e29 (by assumption) ?_; (case b29 => simp only [rhN, rhM]; try rfl); (case c29 => (try dsimp only); rfl); (case e29 => rfl); (case d29 => exact fun _ _ _ h => h); simp only [Act.put, rhA, rhS, rhT]
    refine hSkip (i := 19) (oi := ?a30) (d := ?g30) ?b30 ?c30 (by kernel_rfl) ?d30 ?e30 (by assumption) ?_; (case b30 => simp only [rhN, rhM]; try rfl); (case c30 => (try dsimp only); rfl); (case e30 => rfl); (case d30 => exact fun _ _ _ h => h); simp only [Act.put, rhA, rhS, rhT]
    refine hSkip (i := 20) (oi := ?a31) (d := ?g31) ?b31 ?c31 (by kernel_rfl) ?d31 ?e31 (by assumption) ?_; (case b31 => simp only [rhN, rhM]; try rfl); (case c31 => (try dsimp only); rfl); (case e31 => rfl); (case d31 => exact fun _ _ _ h => h); simp only [Act.put, rhA, rhS, rhT]
    refine hSkip (i := 21) (oi := ?a32) (d := ?g32) ?b32 ?c32 (by kernel_rfl) ?d32 ?e32 (by assumption) ?_; (case b32 => simp only [rhN, rhM]; try rfl); (case c32 => (try dsimp only); rfl); (case e32 => rfl); (case d32 => exact fun _ _ _ h => h); simp only [Act.put, rhA, rhS, rhT]
    refine hSkip (i := 22) (oi := ?a33) (d := ?g33) ?b33 ?c33 (by kernel_rfl) ?d33 ?e33 (by assumption) ?_; (case b33 => simp only [rhN, rhM]; try rfl); (case c33 => (try dsimp only); rfl); (case e33 => rfl); (case d33 => exact fun _ _ _ h => h); simp only [Act.put, rhA, rhS, rhT]
    refine hSkip (i := 23) (oi := ?a34) (d := ?g34) ?b34 ?c34 (by kernel_rfl) ?d34 ?e34 (by assumption) ?_; (case b34 => simp only [rhN, rhM]; try rfl); (case c34 => (try dsimp only); rfl); (case e34 => rfl); (case d34 => exact fun _ _ _ h => h); simp only [Act.put, rhA, rhS, rhT]
    refine hSkip (i := 24) (oi := ?a35) (d := ?g35) ?b35 ?c35 (by kernel_rfl) ?d35 ?e35 (by assumption) ?_; (case b35 => simp only [rhN, rhM]; try rfl); (case c35 => (try dsimp only); rfl); (case e35 => rfl); (case d35 => exact fun _ _ _ h => h); simp only [Act.put, rhA, rhS, rhT]
    refine hSkip (i := 25) (oi := ?a36) (d := ?g36) ?b36 ?c36 (by kernel_rfl) ?d36 ?e36 (by assumption) ?_; (case b36 => simp only [rhN, rhM]; try rfl); (case c36 => (try dsimp only); rfl); (case e36 => rfl); (case d36 => exact fun _ _ _ h => h); simp only [Act.put, rhA, rhS, rhT]
    refine hSkip (i := 26) (oi := ?a37) (d := ?g37) ?b37 ?c37 (by kernel_rfl) ?d37 ?e37 (by assumption) ?_; (case b37 => simp only [rhN, rhM]; try rfl); (case c37 => (try dsimp only); rfl); (case e37 => rfl); (case d37 => exact fun _ _ _ h => h); simp only [Act.put, rhA, rhS, rhT]
    refine hTake (i := 27) (oi := ?a39) (v := ?f39) (d := ?g39) ?b39 ?c39 (by kernel_rfl) ?d39 ?e39 ?h39 (by assumption) ?_; (case b39 => simp only [rhN, rhM]; try rfl); (case c39 => (try dsimp only); rfl); (case e39 => rfl); (case d39 => exact fun _ _ _ h => h); (case h39 => intro w hSw; (try dsimp only at hSw); go_simp <;> with_reducible rfl); simp only [Act.put, rhA, rhS, rhT]
    refine hTake (i := 28) (oi := ?a41) (v := ?f41) (d := ?g41) ?b41 ?c41 (by kernel_rfl) ?d41 ?e41 ?h41 (by assumption) ?_; (case b41 => simp only [rhN, rhM]; try rfl); (case c41 => (try dsimp only); rfl); (case e41 => rfl); (case d41 => exact fun _ _ _ h => h); (case h41 => intro w hSw; (try dsimp only at hSw); go_simp <;> with_reducible rfl); simp only [Act.put, rhA, rhS, rhT]
    refine hSkip (i := 29) (oi := ?a43) (d := ?g43) ?b43 ?c43 (by kernel_rfl) ?d43 ?e43 (by assumption) ?_; (case b43 => simp only [rhN, rhM]; try rfl); (case c43 => (try dsimp only); rfl); (case e43 => rfl); (case d43 => exact fun _ _ _ h => h); simp only [Act.put, rhA, rhS, rhT]
    refine hSkip (i := 30) (oi := ?a44) (d := ?g44) ?b44 ?c44 (by kernel_rfl) ?d44 ?e44 (by assumption) ?_; (case b44 => simp only [rhN, rhM]; try rfl); (case c44 => (try dsimp only); rfl); (case e44 => rfl); (case d44 => exact fun _ _ _ h => h); simp only [Act.put, rhA, rhS, rhT]
    refine hSkip (i := 31) (oi := ?a45) (d := ?g45) ?b45 ?c45 (by kernel_rfl) ?d45 ?e45 (by assumption) ?_; (case b45 => simp only [rhN, rhM]; try rfl); (case c45 => (try dsimp only); rfl); (case e45 => rfl); (case d45 => exact fun _ _ _ h => h); simp only [Act.put, rhA, rhS, rhT]
    refine hSkip (i := 32) (oi := ?a46) (d := ?g46) ?b46 ?c46 (by kernel_rfl) ?d46 ?e46 (by assumption) ?_; (case b46 => simp only [rhN, rhM]; try rfl); (case c46 => (try dsimp only); rfl); (case e46 => rfl); (case d46 => exact fun _ _ _ h => h); simp only [Act.put, rhA, rhS, rhT]
    refine hSkip (i := 33) (oi := ?a47) (d := ?g47) ?b47 ?c47 (by kernel_rfl) ?d47 ?e47 (by assumption) ?_; (case b47 => simp only [rhN, rhM]; try rfl); (case c47 => (try dsimp only); rfl); (case e47 => rfl); (case d47 => exact fun _ _ _ h => h); simp only [Act.put, rhA, rhS, rhT]
    refine hSkip (i := 34) (oi := ?a48) (d := ?g48) ?b48 ?c48 (by kernel_rfl) ?d48 ?e48 (by assumption) ?_; (case b48 => simp only [rhN, rhM]; try rfl); (case c48 => (try dsimp only); rfl); (case e48 => rfl); (case d48 => exact fun _ _ _ h => h); simp only [Act.put, rhA, rhS, rhT]
    refine hSkip (i := 35) (oi := ?a49) (d := ?g49) ?b49 ?c49 (by kernel_rfl) ?d49 ?e49 (by assumption) ?_; (case b49 => simp only [rhN, rhM]; try rfl); (case c49 => (try dsimp only); rfl); (case e49 => rfl); (case d49 => exact fun _ _ _ h => h); simp only [Act.put, rhA, rhS, rhT]
    refine hSkip (i := 36) (oi := ?a50) (d := ?g50) ?b50 ?c50 (by kernel_rfl) ?d50 ?e50 (by assumption) ?_; (case b50 => simp only [rhN, rhM]; try rfl); (case c50 => (try dsimp only); rfl); (case e50 => rfl); (case d50 => exact fun _ _ _ h => h); simp only [Act.put, rhA, rhS, rhT]
    refine hSkip (i := 37) (oi := ?a51) (d := ?g51) ?b51 ?c51 (by kernel_rfl) ?d51 ?e51 (by assumption) ?_; (case b51 => simp only [rhN, rhM]; try rfl); (case c51 => (try dsimp only); rfl); (case e51 => rfl); (case d51 => exact fun _ _ _ h => h); simp only [Act.put, rhA, rhS, rhT]
    refine hSkip (i := 38) (oi := ?a52) (d := ?g52) ?b52 ?c52 (by kernel_rfl) ?d52 ?e52 (by assumption) ?_; (case b52 => simp only [rhN, rhM]; try rfl); (case c52 => (try dsimp only); rfl); (case e52 => rfl); (case d52 => exact fun _ _ _ h => h); simp only [Act.put, rhA, rhS, rhT]
    refine hSkip (i := 39) (oi := ?a53) (d := ?g53) ?b53 ?c53 (by kernel_rfl) ?d53 ?e53 (by assumption) ?_; (case b53 => simp only [rhN, rhM]; try rfl); (case c53 => (try dsimp only); rfl); (case e53 => rfl); (case d53 => exact fun _ _ _ h => h); simp only [Act.put, rhA, rhS, rhT]
    refine hTake (i := 40) (oi := ?a55) (v := ?f55) (d := ?g55) ?b55 ?c55 (by kernel_rfl) ?d55 ?e55 ?h55 (by assumption) ?_; (case b55 => simp only [rhN, rhM]; try rfl); (case c55 => (try dsimp only); rfl); (case e55 => rfl); (case d55 => exact fun _ _ _ h => h); (case h55 => intro w hSw; (try dsimp only at hSw); go_simp <;> with_reducible rfl); simp only [Act.put, rhA, rhS, rhT]
    refine wpAnyH_done (by kernel_rfl) ?_ _
    go_wp2_with fail
    go_ret
    exact ⟨by rw [HR.out]; rfl, below_of hC3 (by repeat' (first | exact Below.refl _ _ | refine Below.alloc ?_ ?_ _ | refine Below.setCell ?_ ?_ _ | refine Below.drew ?_ | (apply below_step; assumption) | (simp; done) | (simp; omega) | omega))⟩
  | some n =>
    obtain ⟨j, hj, hjt', -, -⟩ := idxBy_some hfn
    obtain rfl : jn = j := by rw [← HJN.out]; exact hj
    cases hft : fstBy TV.id c.tasks tz with
    | none =>
      obtain rfl : jt = -1 := by rw [← HJT.out]; exact idxBy_none hft
      have HR := Lib.hid (show r = -1 by rw [HE.out, hfn, hft])
      have hnj := hnn j
      clear hfn hft HJN HJT hj hjt' hnn
      go_wp2_with fail
      refine wp_region_held_drew (S := (fun w' => Below w3.heap.size w3 w')) (by kernel_rfl) (by (try dsimp only); exact (by repeat' (first | exact Below.refl _ _ | refine Below.alloc ?_ ?_ _ | refine Below.setCell ?_ ?_ _ | refine Below.drew ?_ | (apply below_step; assumption) | (simp; done) | (simp; omega) | omega))) (fun hHeld => ?_)
      refine hTake (i := 0) (oi := ?a57) (v := ?f57) (d := ?g57) ?b57 ?c57 (by kernel_rfl) ?d57 ?e57 ?h57 (by assumption) ?_; (case b57 => simp only [rhN]; try rfl); (case c57 => (try dsimp only); rfl); (case e57 => rfl); (case d57 => exact fun _ _ _ h => h); (case h57 => intro w hSw; (try dsimp only at hSw); go_simp <;> with_reducible rfl); simp only [Act.put, rhA, rhS, rhT]
      refine hTake (i := 1) (oi := ?a58) (v := ?f58) (d := ?g58) ?b58 ?c58 (by kernel_rfl) ?d58 ?e58 ?h58 (by assumption) ?_; (case b58 => simp only [rhN, rhM]; try rfl); (case c58 => (try dsimp only); rfl); (case e58 => rfl); (case d58 => exact fun _ _ _ h => h); (case h58 => intro w hSw; (try dsimp only at hSw); go_simp <;> with_reducible rfl); simp only [Act.put, rhA, rhS, rhT]
      refine hTake (i := 2) (oi := ?a59) (v := ?f59) (d := ?g59) ?b59 ?c59 (by kernel_rfl) ?d59 ?e59 ?h59 (by assumption) ?_; (case b59 => simp only [rhN, rhM]; try rfl); (case c59 => (try dsimp only); rfl); (case e59 => rfl); (case d59 => exact fun _ _ _ h => h); (case h59 => intro w hSw; (try dsimp only at hSw); go_simp <;> with_reducible rfl); simp only [Act.put, rhA, rhS, rhT]
      refine hTake (i := 3) (oi := ?a60) (v := ?f60) (d := ?g60) ?b60 ?c60 (by kernel_rfl) ?d60 ?e60 ?h60 (by assumption) ?_; (case b60 => simp only [rhN, rhM]; try rfl); (case c60 => (try dsimp only); rfl); (case e60 => rfl); (case d60 => exact fun _ _ _ h => h); (case h60 => intro w hSw; (try dsimp only at hSw); go_simp <;> with_reducible rfl); simp only [Act.put, rhA, rhS, rhT]
      refine hTake (i := 4) (oi := ?a61) (v := ?f61) (d := ?g61) ?b61 ?c61 (by kernel_rfl) ?d61 ?e61 ?h61 (by assumption) ?_; (case b61 => simp only [rhN, rhM]; try rfl); (case c61 => (try dsimp only); rfl); (case e61 => rfl); (case d61 => exact fun _ _ _ h => h); (case h61 => intro w hSw; (try dsimp only at hSw); go_simp <;> with_reducible rfl); simp only [Act.put, rhA, rhS, rhT]
      refine hTake (i := 5) (oi := ?a62) (v := ?f62) (d := ?g62) ?b62 ?c62 (by kernel_rfl) ?d62 ?e62 ?h62 (by assumption) ?_; (case b62 => simp only [rhN, rhM]; try rfl); (case c62 => (try dsimp only); rfl); (case e62 => rfl); (case d62 => exact fun _ _ _ h => h); (case h62 => intro w hSw; (try dsimp only at hSw); go_simp <;> with_reducible rfl); simp only [Act.put, rhA, rhS, rhT]
      refine hTake (i := 6) (oi := ?a63) (v := ?f63) (d := ?g63) ?b63 ?c63 (by kernel_rfl) ?d63 ?e63 ?h63 (by assumption) ?_; (case b63 => simp only [rhN, rhM]; try rfl); (case c63 => (try dsimp only); rfl); (case e63 => rfl); (case d63 => exact fun _ _ _ h => h); (case h63 => intro w hSw; (try dsimp only at hSw); go_simp <;> with_reducible rfl); simp only [Act.put, rhA, rhS, rhT]
      refine hSkip (i := 7) (oi := ?a65) (d := ?g65) ?b65 ?c65 (by kernel_rfl) ?d65 ?e65 (by assumption) ?_; (case b65 => simp only [rhN, rhM]; try rfl); (case c65 => (try dsimp only); rfl); (case e65 => rfl); (case d65 => exact fun _ _ _ h => h); simp only [Act.put, rhA, rhS, rhT]
      refine hSkip (i := 8) (oi := ?a66) (d := ?g66) ?b66 ?c66 (by kernel_rfl) ?d66 ?e66 (by assumption) ?_; (case b66 => simp only [rhN, rhM]; try rfl); (case c66 => (try dsimp only); rfl); (case e66 => rfl); (case d66 => exact fun _ _ _ h => h); simp only [Act.put, rhA, rhS, rhT]
      refine hSkip (i := 9) (oi := ?a67) (d := ?g67) ?b67 ?c67 (by kernel_rfl) ?d67 ?e67 (by assumption) ?_; (case b67 => simp only [rhN, rhM]; try rfl); (case c67 => (try dsimp only); rfl); (case e67 => rfl); (case d67 => exact fun _ _ _ h => h); simp only [Act.put, rhA, rhS, rhT]
      refine hSkip (i := 10) (oi := ?a68) (d := ?g68) ?b68 ?c68 (by kernel_rfl) ?d68 ?e68 (by assumption) ?_; (case b68 => simp only [rhN, rhM]; try rfl); (case c68 => (try dsimp only); rfl); (case e68 => rfl); (case d68 => exact fun _ _ _ h => h); simp only [Act.put, rhA, rhS, rhT]
      refine hSkip (i := 11) (oi := ?a69) (d := ?g69) ?b69 ?c69 (by kernel_rfl) ?d69 ?e69 (by assumption) ?_; (case b69 => simp only [rhN, rhM]; try rfl); (case c69 => (try dsimp only); rfl); (case e69 => rfl); (case d69 => exact fun _ _ _ h => h); simp only [Act.put, rhA, rhS, rhT]
      refine hSkip (i := 12) (oi := ?a70) (d := ?g70) ?b70 ?c70 (by kernel_rfl) ?d70 ?e70 (by assumption) ?_; (case b70 => simp only [rhN, rhM]; try rfl); (case c70 => (try dsimp only); rfl); (case e70 => rfl); (case d70 => exact fun _ _ _ h => h); simp only [Act.put, rhA, rhS, rhT]
      refine hTake (i := 13) (oi := ?a72) (v := ?f72) (d := ?g72) ?b72 ?c72 (by kernel_rfl) ?d72 ?e72 ?h72 (by assumption) ?_; (case b72 => simp only [rhN, rhM]; try rfl); (case c72 => (try dsimp only); rfl); (case e72 => rfl); (case d72 => exact fun _ _ _ h => h); (case h72 => intro w hSw; (try dsimp only at hSw); go_simp <;> with_reducible rfl); simp only [Act.put, rhA, rhS, rhT]
      refine hTake (i := 14) (oi := ?a74) (v := ?f74) (d := ?g74) ?b74 ?c74 (by kernel_rfl) ?d74 ?e74 ?h74 (by assumption) ?_; (case b74 => simp only [rhN, rhM]; try rfl); (case c74 => (try dsimp only); rfl); (case e74 => rfl); (case d74 => exact fun _ _ _ h => h); (case h74 => intro w hSw; (try dsimp only at hSw); go_simp <;> with_reducible rfl); simp only [Act.put, rhA, rhS, rhT]
      refine hSkip (i := 15) (oi := ?a76) (d := ?g76) ?b76 ?c76 (by kernel_rfl) ?d76 ?e76 (by assumption) ?_; (case b76 => simp only [rhN, rhM]; try rfl); (case c76 => (try dsimp only); rfl); (case e76 => rfl); (case d76 => exact fun _ _ _ h => h); simp only [Act.put, rhA, rhS, rhT]
      refine hSkip (i := 16) (oi := ?a77) (d := ?g77) ?b77 ?c77 (by kernel_rfl) ?d77 ?e77 (by assumption) ?_; (case b77 => simp only [rhN, rhM]; try rfl); (case c77 => (try dsimp only); rfl); (case e77 => rfl); (case d77 => exact fun _ _ _ h => h); simp only [Act.put, rhA, rhS, rhT]
      refine hSkip (i := 17) (oi := ?a78) (d := ?g78) ?b78 ?c78 (by kernel_rfl) ?d78 ?e78 (by assumption) ?_; (case b78 => simp only [rhN, rhM]; try rfl); (case c78 => (try dsimp only); rfl); (case e78 => rfl); (case d78 => exact fun _ _ _ h => h); simp only [Act.put, rhA, rhS, rhT]
      refine hSkip (i := 18) (oi := ?a79) (d := ?g79) ?b79 ?c79 (by kernel_rfl) ?d79 ?e79 (by assumption) ?_; (case b79 => simp only [rhN, rhM]; try rfl); (case c79 => (try dsimp only); rfl); (case e79 => rfl); (case d79 => exact fun _ _ _ h => h); simp only [Act.put, rhA, rhS, rhT]
      refine hSkip (i := 19) (oi := ?a80) (d := ?g80) ?b80 ?c80 (by kernel_rfl) ?d80 ?e80 (by assumption) ?_; (case b80 => simp only [rhN, rhM]; try rfl); (case c80 => (try dsimp only); rfl); (case e80 => rfl); (case d80 => exact fun _ _ _ h => h); simp only [Act.put, rhA, rhS, rhT]
      refine hSkip (i := 20) (oi := ?a81) (d := ?g81) ?b81 ?c81 (by kernel_rfl) ?d81 ?e81 (by assumption) ?_; (case b81 => simp only [rhN, rhM]; try rfl); (case c81 => (try dsimp only); rfl); (case e81 => rfl); (case d81 => exact fun _ _ _ h => h); simp only [Act.put, rhA, rhS, rhT]
      refine hSkip (i := 21) (oi := ?a82) (d := ?g82) ?b82 ?c82 (by kernel_rfl) ?d82 ?e82 (by assumption) ?_; (case b82 => simp only [rhN, rhM]; try rfl); (case c82 => (try dsimp only); rfl); (case e82 => rfl); (case d82 => exact fun _ _ _ h => h); simp only [Act.put, rhA, rhS, rhT]
      refine hSkip (i := 22) (oi := ?a83) (d := ?g83) ?b83 ?c83 (by kernel_rfl) ?d83 ?e83 (by assumption) ?_; (case b83 => simp only [rhN, rhM]; try rfl); (case c83 => (try dsimp only); rfl); (case e83 => rfl); (case d83 => exact fun _ _ _ h => h); simp only [Act.put, rhA, rhS, rhT]
      refine hSkip (i := 23) (oi := ?a84) (d := ?g84) ?b84 ?c84 (by kernel_rfl) ?d84 ?e84 (by assumption) ?_; (case b84 => simp only [rhN, rhM]; try rfl); (case c84 => (try dsimp only); rfl); (case e84 => rfl); (case d84 => exact fun _ _ _ h => h); simp only [Act.put, rhA, rhS, rhT]
      refine hSkip (i := 24) (oi := ?a85) (d := ?g85) ?b85 ?c85 (by kernel_rfl) ?d85 ?e85 (by assumption) ?_; (case b85 => simp only [rhN, rhM]; try rfl); (case c85 => (try dsimp only); rfl); (case e85 => rfl); (case d85 => exact fun _ _ _ h => h); simp only [Act.put, rhA, rhS, rhT]
      refine hSkip (i := 25) (oi := ?a86) (d := ?g86) ?b86 ?c86 (by kernel_rfl) ?d86 ?e86 (by assumption) ?_; (case b86 => simp only [rhN, rhM]; try rfl); (case c86 => (try dsimp only); rfl); (case e86 => rfl); (case d86 => exact fun _ _ _ h => h); simp only [Act.put, rhA, rhS, rhT]
      refine hSkip (i := 26) (oi := ?a87) (d := ?g87) ?b87 ?c87 (by kernel_rfl) ?d87 ?e87 (by assumption) ?_; (case b87 => simp only [rhN, rhM]; try rfl); (case c87 => (try dsimp only); rfl); (case e87 => rfl); (case d87 => exact fun _ _ _ h => h); simp only [Act.put, rhA, rhS, rhT]
      refine hTake (i := 27) (oi := ?a89) (v := ?f89) (d := ?g89) ?b89 ?c89 (by kernel_rfl) ?d89 ?e89 ?h89 (by assumption) ?_; (case b89 => simp only [rhN, rhM]; try rfl); (case c89 => (try dsimp only); rfl); (case e89 => rfl); (case d89 => exact fun _ _ _ h => h); (case h89 => intro w hSw; (try dsimp only at hSw); go_simp <;> with_reducible rfl); simp only [Act.put, rhA, rhS, rhT]
      refine hTake (i := 28) (oi := ?a91) (v := ?f91) (d := ?g91) ?b91 ?c91 (by kernel_rfl) ?d91 ?e91 ?h91 (by assumption) ?_; (case b91 => simp only [rhN, rhM]; try rfl); (case c91 => (try dsimp only); rfl); (case e91 => rfl); (case d91 => exact fun _ _ _ h => h); (case h91 => intro w hSw; (try dsimp only at hSw); go_simp <;> with_reducible rfl); simp only [Act.put, rhA, rhS, rhT]
      refine hSkip (i := 29) (oi := ?a93) (d := ?g93) ?b93 ?c93 (by kernel_rfl) ?d93 ?e93 (by assumption) ?_; (case b93 => simp only [rhN, rhM]; try rfl); (case c93 => (try dsimp only); rfl); (case e93 => rfl); (case d93 => exact fun _ _ _ h => h); simp only [Act.put, rhA, rhS, rhT]
      refine hSkip (i := 30) (oi := ?a94) (d := ?g94) ?b94 ?c94 (by kernel_rfl) ?d94 ?e94 (by assumption) ?_; (case b94 => simp only [rhN, rhM]; try rfl); (case c94 => (try dsimp only); rfl); (case e94 => rfl); (case d94 => exact fun _ _ _ h => h); simp only [Act.put, rhA, rhS, rhT]
      refine hSkip (i := 31) (oi := ?a95) (d := ?g95) ?b95 ?c95 (by kernel_rfl) ?d95 ?e95 (by assumption) ?_; (case b95 => simp only [rhN, rhM]; try rfl); (case c95 => (try dsimp only); rfl); (case e95 => rfl); (case d95 => exact fun _ _ _ h => h); simp only [Act.put, rhA, rhS, rhT]
      refine hSkip (i := 32) (oi := ?a96) (d := ?g96) ?b96 ?c96 (by kernel_rfl) ?d96 ?e96 (by assumption) ?_; (case b96 => simp only [rhN, rhM]; try rfl); (case c96 => (try dsimp only); rfl); (case e96 => rfl); (case d96 => exact fun _ _ _ h => h); simp only [Act.put, rhA, rhS, rhT]
      refine hSkip (i := 33) (oi := ?a97) (d := ?g97) ?b97 ?c97 (by kernel_rfl) ?d97 ?e97 (by assumption) ?_; (case b97 => simp only [rhN, rhM]; try rfl); (case c97 => (try dsimp only); rfl); (case e97 => rfl); (case d97 => exact fun _ _ _ h => h); simp only [Act.put, rhA, rhS, rhT]
      refine hSkip (i := 34) (oi := ?a98) (d := ?g98) ?b98 ?c98 (by kernel_rfl) ?d98 ?e98 (by assumption) ?_; (case b98 => simp only [rhN, rhM]; try rfl); (case c98 => (try dsimp only); rfl); (case e98 => rfl); (case d98 => exact fun _ _ _ h => h); simp only [Act.put, rhA, rhS, rhT]
      refine hSkip (i := 35) (oi := ?a99) (d := ?g99) ?b99 ?c99 (by kernel_rfl) ?d99 ?e99 (by assumption) ?_; (case b99 => simp only [rhN, rhM]; try rfl); (case c99 => (try dsimp only); rfl); (case e99 => rfl); (case d99 => exact fun _ _ _ h => h); simp only [Act.put, rhA, rhS, rhT]
      refine hSkip (i := 36) (oi := ?a100) (d := ?g100) ?b100 ?c100 (by kernel_rfl) ?d100 ?e100 (by assumption) ?_; (case b100 => simp only [rhN, rhM]; try rfl); (case c100 => (try dsimp only); rfl); (case e100 => rfl); (case d100 => exact fun _ _ _ h => h); simp only [Act.put, rhA, rhS, rhT]
      refine hSkip (i := 37) (oi := ?a101) (d := ?g101) ?b101 ?c101 (by kernel_rfl) ?d101 ?e101 (by assumption) ?_; (case b101 => simp only [rhN, rhM]; try rfl); (case c101 => (try dsimp only); rfl); (case e101 => rfl); (case d101 => exact fun _ _ _ h => h); simp only [Act.put, rhA, rhS, rhT]
      refine hSkip (i := 38) (oi := ?a102) (d := ?g102) ?b102 ?c102 (by kernel_rfl) ?d102 ?e102 (by assumption) ?_; (case b102 => simp only [rhN, rhM]; try rfl); (case c102 => (try dsimp only); rfl); (case e102 => rfl); (case d102 => exact fun _ _ _ h => h); simp only [Act.put, rhA, rhS, rhT]
      refine hSkip (i := 39) (oi := ?a103) (d := ?g103) ?b103 ?c103 (by kernel_rfl) ?d103 ?e103 (by assumption) ?_; (case b103 => simp only [rhN, rhM]; try rfl); (case c103 => (try dsimp only); rfl); (case e103 => rfl); (case d103 => exact fun _ _ _ h => h); simp only [Act.put, rhA, rhS, rhT]
      refine hTake (i := 40) (oi := ?a105) (v := ?f105) (d := ?g105) ?b105 ?c105 (by kernel_rfl) ?d105 ?e105 ?h105 (by assumption) ?_; (case b105 => simp only [rhN, rhM]; try rfl); (case c105 => (try dsimp only); rfl); (case e105 => rfl); (case d105 => exact fun _ _ _ h => h); (case h105 => intro w hSw; (try dsimp only at hSw); go_simp <;> with_reducible rfl); simp only [Act.put, rhA, rhS, rhT]
      refine wpAnyH_done (by kernel_rfl) ?_ _
      go_wp2_with fail
      go_ret
      exact ⟨by rw [HR.out]; rfl, below_of hC3 (by repeat' (first | exact Below.refl _ _ | refine Below.alloc ?_ ?_ _ | refine Below.setCell ?_ ?_ _ | refine Below.drew ?_ | (apply below_step; assumption) | (simp; done) | (simp; omega) | omega))⟩
    | some t =>
      obtain ⟨i, hi, hit', -, -⟩ := idxBy_some hft
      obtain rfl : jt = i := by rw [← HJT.out]; exact hi
      have HFRN := Lib.hid (fun w1 hw1 => HFR.out n hfn w1 hw1)
      have HR := Lib.hid (show r = if n.cordon || !hosts n t || !resSubOk (resSub n.cap u) t.need then -1 else resShare (resAdd u t.need) n.cap by rw [HE.out, hfn, hft])
      have hjl : j < c.nodes.length := (List.getElem?_eq_some_iff.1 hjt').1
      have hil : i < c.tasks.length := (List.getElem?_eq_some_iff.1 hit').1
      obtain ⟨bn, on, rfl, hbn, hatn⟩ := HF.out.hn (by omega)
      obtain ⟨bt, ot, rfl, hbt, hatt⟩ := HF.out.ht (by omega)
      obtain ⟨ns, hRn, hCn⟩ := (hatn.below NodeR.kept hC3 hbn) j n hjt'
      obtain ⟨ts, hRt, hCt⟩ := (hatt.below TaskR.kept hC3 hbt) i t hit'
      obtain ⟨u1, u2, rfl, k1, k2, m1, m2⟩ := hRn
      obtain ⟨v1, v2, rfl, h1, h2, l1', l2'⟩ := hRt
      have hho := fun w1 hw1 => sHosts_any n t u1 u2 v1 v2 w1 (k1.below hw1) (k2.below hw1) (h1.below hw1) (h2.below hw1) m1 m2 l1' l2'
      obtain ⟨A1, c1, rfl, _⟩ := k1.form
      obtain ⟨A2, c2, rfl, _⟩ := k2.form
      obtain ⟨B1, d1, rfl, _⟩ := h1.form
      obtain ⟨B2, d2, rfl, _⟩ := h2.form
      obtain ⟨q0, q1, q2, q3, q4, q5, q6, q7⟩ := node_cells hCn
      obtain ⟨p0, p1, p2, p3, p4, p5, p6⟩ := task_cells hCt
      have hnj := hnn j
      have hni := hnn i
      have hji : (j : Int) < (c.nodes.length : Int) := by omega
      have hj0 : (0 : Int) ≤ (j : Int) := by omega
      have hii : (i : Int) < (c.tasks.length : Int) := by omega
      have hi0 : (0 : Int) ≤ (i : Int) := by omega
      have hft' := fun w1 => sResFits_any t.need (resSub n.cap u) w1
      generalize hosts n t = ho at hho HR
      generalize resSubOk (resSub n.cap u) t.need = fit at hft' HR
      generalize resSub n.cap u = f at hft' HFRN
      generalize n.cordon = cd at q7 HR hho
      have HHO := Lib.hid hho
      have HFT := Lib.hid hft'
      have HK := Lib.hid (show ∀ w', Below w3.heap.size w3 w' → (fun w' => Below w3.heap.size w3 w' ∧ (∀ o, w'.cell? ⟨w.heap.size, o, none⟩ = (#[.slice (some ⟨bt, ot, none⟩) c.tasks.length e0, .slice (some ⟨bn, on, none⟩) c.nodes.length e1, .slice D2 c.binds.length e2] : Array Value)[o]?) ∧ (w'.cell? ⟨bn, on + j * 8, none⟩ = some (.int .i64 n.id) ∧ w'.cell? ⟨bn, on + j * 8 + 1, none⟩ = some (.int .i64 n.pool) ∧ w'.cell? ⟨bn, on + j * 8 + 2, none⟩ = some (.int .i64 n.cap.c) ∧ w'.cell? ⟨bn, on + j * 8 + 3, none⟩ = some (.int .i64 n.cap.m) ∧ w'.cell? ⟨bn, on + j * 8 + 4, none⟩ = some (.int .i64 n.cap.p) ∧ w'.cell? ⟨bn, on + j * 8 + 5, none⟩ = some (.slice A1 n.labs.length c1) ∧ w'.cell? ⟨bn, on + j * 8 + 6, none⟩ = some (.slice A2 n.taints.length c2) ∧ w'.cell? ⟨bn, on + j * 8 + 7, none⟩ = some (.bool cd)) ∧ w'.cell? ⟨bt, ot + i * 7, none⟩ = some (.int .i64 t.id) ∧ w'.cell? ⟨bt, ot + i * 7 + 1, none⟩ = some (.int .i64 t.prio) ∧ w'.cell? ⟨bt, ot + i * 7 + 2, none⟩ = some (.int .i64 t.need.c) ∧ w'.cell? ⟨bt, ot + i * 7 + 3, none⟩ = some (.int .i64 t.need.m) ∧ w'.cell? ⟨bt, ot + i * 7 + 4, none⟩ = some (.int .i64 t.need.p) ∧ w'.cell? ⟨bt, ot + i * 7 + 5, none⟩ = some (.slice B1 t.want.length d1) ∧ w'.cell? ⟨bt, ot + i * 7 + 6, none⟩ = some (.slice B2 t.tols.length d2)) w' from
        fun w' hb => ⟨hb, fun o => (hb.cell (p := ⟨_, _, none⟩) cl).trans (HBC3.out.cell o), ⟨cellK hb q0, cellK hb q1, cellK hb q2, cellK hb q3, cellK hb q4, cellK hb q5, cellK hb q6, cellK hb q7⟩, cellK hb p0, cellK hb p1, cellK hb p2, cellK hb p3, cellK hb p4, cellK hb p5, cellK hb p6⟩)
      clear hfn hft HJN HJT hj hjt' hi hit' hnn hatn hatt hCn hCt k1 k2 h1 h2 m1 m2 l1' l2' hho hft' HIN HIT HE HF HFR q0 q1 q2 q3 q4 q5 q6 p0 p1 p2 p3 p4 p5 p6
      cases cd
      · cases ho
        · go_wp2_with fail
          refine wp_region_held_drew (S := (fun w' => Below w3.heap.size w3 w' ∧ (∀ o, w'.cell? ⟨w.heap.size, o, none⟩ = (#[.slice (some ⟨bt, ot, none⟩) c.tasks.length e0, .slice (some ⟨bn, on, none⟩) c.nodes.length e1, .slice D2 c.binds.length e2] : Array Value)[o]?) ∧ (w'.cell? ⟨bn, on + j * 8, none⟩ = some (.int .i64 n.id) ∧ w'.cell? ⟨bn, on + j * 8 + 1, none⟩ = some (.int .i64 n.pool) ∧ w'.cell? ⟨bn, on + j * 8 + 2, none⟩ = some (.int .i64 n.cap.c) ∧ w'.cell? ⟨bn, on + j * 8 + 3, none⟩ = some (.int .i64 n.cap.m) ∧ w'.cell? ⟨bn, on + j * 8 + 4, none⟩ = some (.int .i64 n.cap.p) ∧ w'.cell? ⟨bn, on + j * 8 + 5, none⟩ = some (.slice A1 n.labs.length c1) ∧ w'.cell? ⟨bn, on + j * 8 + 6, none⟩ = some (.slice A2 n.taints.length c2) ∧ w'.cell? ⟨bn, on + j * 8 + 7, none⟩ = some (.bool false)) ∧ w'.cell? ⟨bt, ot + i * 7, none⟩ = some (.int .i64 t.id) ∧ w'.cell? ⟨bt, ot + i * 7 + 1, none⟩ = some (.int .i64 t.prio) ∧ w'.cell? ⟨bt, ot + i * 7 + 2, none⟩ = some (.int .i64 t.need.c) ∧ w'.cell? ⟨bt, ot + i * 7 + 3, none⟩ = some (.int .i64 t.need.m) ∧ w'.cell? ⟨bt, ot + i * 7 + 4, none⟩ = some (.int .i64 t.need.p) ∧ w'.cell? ⟨bt, ot + i * 7 + 5, none⟩ = some (.slice B1 t.want.length d1) ∧ w'.cell? ⟨bt, ot + i * 7 + 6, none⟩ = some (.slice B2 t.tols.length d2))) (by kernel_rfl) (by (try dsimp only); exact HK.out _ (by repeat' (first | exact Below.refl _ _ | refine Below.alloc ?_ ?_ _ | refine Below.setCell ?_ ?_ _ | refine Below.drew ?_ | (apply below_step; assumption) | (simp; done) | (simp; omega) | omega))) (fun hHeld => ?_)
          refine hTake (i := 0) (oi := ?a107) (v := ?f107) (d := ?g107) ?b107 ?c107 (by kernel_rfl) ?d107 ?e107 ?h107 (by assumption) ?_; (case b107 => simp only [rhN]; try rfl); (case c107 => (try dsimp only); rfl); (case e107 => rfl); (case d107 => exact fun _ _ _ h => h); (case h107 => intro w hSw; (try dsimp only at hSw); go_simp <;> with_reducible rfl); simp only [Act.put, rhA, rhS, rhT]
          refine hTake (i := 1) (oi := ?a108) (v := ?f108) (d := ?g108) ?b108 ?c108 (by kernel_rfl) ?d108 ?e108 ?h108 (by assumption) ?_; (case b108 => simp only [rhN, rhM]; try rfl); (case c108 => (try dsimp only); rfl); (case e108 => rfl); (case d108 => exact fun _ _ _ h => h); (case h108 => intro w hSw; (try dsimp only at hSw); go_simp <;> with_reducible rfl); simp only [Act.put, rhA, rhS, rhT]
          refine hTake (i := 2) (oi := ?a109) (v := ?f109) (d := ?g109) ?b109 ?c109 (by kernel_rfl) ?d109 ?e109 ?h109 (by assumption) ?_; (case b109 => simp only [rhN, rhM]; try rfl); (case c109 => (try dsimp only); rfl); (case e109 => rfl); (case d109 => exact fun _ _ _ h => h); (case h109 => intro w hSw; (try dsimp only at hSw); go_simp <;> with_reducible rfl); simp only [Act.put, rhA, rhS, rhT]
          refine hTake (i := 3) (oi := ?a110) (v := ?f110) (d := ?g110) ?b110 ?c110 (by kernel_rfl) ?d110 ?e110 ?h110 (by assumption) ?_; (case b110 => simp only [rhN, rhM]; try rfl); (case c110 => (try dsimp only); rfl); (case e110 => rfl); (case d110 => exact fun _ _ _ h => h); (case h110 => intro w hSw; (try dsimp only at hSw); go_simp <;> with_reducible rfl); simp only [Act.put, rhA, rhS, rhT]
          refine hTake (i := 4) (oi := ?a111) (v := ?f111) (d := ?g111) ?b111 ?c111 (by kernel_rfl) ?d111 ?e111 ?h111 (by assumption) ?_; (case b111 => simp only [rhN, rhM]; try rfl); (case c111 => (try dsimp only); rfl); (case e111 => rfl); (case d111 => exact fun _ _ _ h => h); (case h111 => intro w hSw; (try dsimp only at hSw); go_simp <;> with_reducible rfl); simp only [Act.put, rhA, rhS, rhT]
          refine hTake (i := 5) (oi := ?a112) (v := ?f112) (d := ?g112) ?b112 ?c112 (by kernel_rfl) ?d112 ?e112 ?h112 (by assumption) ?_; (case b112 => simp only [rhN, rhM]; try rfl); (case c112 => (try dsimp only); rfl); (case e112 => rfl); (case d112 => exact fun _ _ _ h => h); (case h112 => intro w hSw; (try dsimp only at hSw); go_simp <;> with_reducible rfl); simp only [Act.put, rhA, rhS, rhT]
          refine hTake (i := 6) (oi := ?a113) (v := ?f113) (d := ?g113) ?b113 ?c113 (by kernel_rfl) ?d113 ?e113 ?h113 (by assumption) ?_; (case b113 => simp only [rhN, rhM]; try rfl); (case c113 => (try dsimp only); rfl); (case e113 => rfl); (case d113 => exact fun _ _ _ h => h); (case h113 => intro w hSw; (try dsimp only at hSw); go_simp <;> with_reducible rfl); simp only [Act.put, rhA, rhS, rhT]
          refine hTake (i := 7) (oi := ?a114) (v := ?f114) (d := ?g114) ?b114 ?c114 (by kernel_rfl) ?d114 ?e114 ?h114 (by assumption) ?_; (case b114 => simp only [rhN, rhM]; try rfl); (case c114 => (try dsimp only); rfl); (case e114 => rfl); (case d114 => exact fun _ _ _ h => h); (case h114 => intro w hSw; (try dsimp only at hSw); go_simp <;> with_reducible rfl); simp only [Act.put, rhA, rhS, rhT]
          refine hTake (i := 8) (oi := ?a115) (v := ?f115) (d := ?g115) ?b115 ?c115 (by kernel_rfl) ?d115 ?e115 ?h115 (by assumption) ?_; (case b115 => simp only [rhN, rhM]; try rfl); (case c115 => (try dsimp only); rfl); (case e115 => rfl); (case d115 => exact fun _ _ _ h => h); (case h115 => intro w hSw; (try dsimp only at hSw); go_simp <;> with_reducible rfl); simp only [Act.put, rhA, rhS, rhT]
          refine hTake (i := 9) (oi := ?a116) (v := ?f116) (d := ?g116) ?b116 ?c116 (by kernel_rfl) ?d116 ?e116 ?h116 (by assumption) ?_; (case b116 => simp only [rhN, rhM]; try rfl); (case c116 => (try dsimp only); rfl); (case e116 => rfl); (case d116 => exact fun _ _ _ h => h); (case h116 => intro w hSw; (try dsimp only at hSw); go_simp <;> with_reducible rfl); simp only [Act.put, rhA, rhS, rhT]
          refine hTake (i := 10) (oi := ?a117) (v := ?f117) (d := ?g117) ?b117 ?c117 (by kernel_rfl) ?d117 ?e117 ?h117 (by assumption) ?_; (case b117 => simp only [rhN, rhM]; try rfl); (case c117 => (try dsimp only); rfl); (case e117 => rfl); (case d117 => exact fun _ _ _ h => h); (case h117 => intro w hSw; (try dsimp only at hSw); go_simp <;> with_reducible rfl); simp only [Act.put, rhA, rhS, rhT]
          refine hTake (i := 11) (oi := ?a118) (v := ?f118) (d := ?g118) ?b118 ?c118 (by kernel_rfl) ?d118 ?e118 ?h118 (by assumption) ?_; (case b118 => simp only [rhN, rhM]; try rfl); (case c118 => (try dsimp only); rfl); (case e118 => rfl); (case d118 => exact fun _ _ _ h => h); (case h118 => intro w hSw; (try dsimp only at hSw); go_simp <;> with_reducible rfl); simp only [Act.put, rhA, rhS, rhT]
          refine hTake (i := 12) (oi := ?a119) (v := ?f119) (d := ?g119) ?b119 ?c119 (by kernel_rfl) ?d119 ?e119 ?h119 (by assumption) ?_; (case b119 => simp only [rhN, rhM]; try rfl); (case c119 => (try dsimp only); rfl); (case e119 => rfl); (case d119 => exact fun _ _ _ h => h); (case h119 => intro w hSw; (try dsimp only at hSw); go_simp <;> with_reducible rfl); simp only [Act.put, rhA, rhS, rhT]
          refine hTake (i := 13) (oi := ?a120) (v := ?f120) (d := ?g120) ?b120 ?c120 (by kernel_rfl) ?d120 ?e120 ?h120 (by assumption) ?_; (case b120 => simp only [rhN, rhM]; try rfl); (case c120 => (try dsimp only); rfl); (case e120 => rfl); (case d120 => exact fun _ _ _ h => h); (case h120 => intro w hSw; (try dsimp only at hSw); go_simp <;> with_reducible rfl); simp only [Act.put, rhA, rhS, rhT]
          refine hTake (i := 14) (oi := ?a121) (v := ?f121) (d := ?g121) ?b121 ?c121 (by kernel_rfl) ?d121 ?e121 ?h121 (by assumption) ?_; (case b121 => simp only [rhN, rhM]; try rfl); (case c121 => (try dsimp only); rfl); (case e121 => rfl); (case d121 => exact fun _ _ _ h => h); (case h121 => intro w hSw; (try dsimp only at hSw); go_simp <;> with_reducible rfl); simp only [Act.put, rhA, rhS, rhT]
          refine hTake (i := 15) (oi := ?a122) (v := ?f122) (d := ?g122) ?b122 ?c122 (by kernel_rfl) ?d122 ?e122 ?h122 (by assumption) ?_; (case b122 => simp only [rhN, rhM]; try rfl); (case c122 => (try dsimp only); rfl); (case e122 => rfl); (case d122 => exact fun _ _ _ h => h); (case h122 => intro w hSw; (try dsimp only at hSw); go_simp <;> with_reducible rfl); simp only [Act.put, rhA, rhS, rhT]
          refine hTake (i := 16) (oi := ?a123) (v := ?f123) (d := ?g123) ?b123 ?c123 (by kernel_rfl) ?d123 ?e123 ?h123 (by assumption) ?_; (case b123 => simp only [rhN, rhM]; try rfl); (case c123 => (try dsimp only); rfl); (case e123 => rfl); (case d123 => exact fun _ _ _ h => h); (case h123 => intro w hSw; (try dsimp only at hSw); go_simp <;> with_reducible rfl); simp only [Act.put, rhA, rhS, rhT]
          refine hTake (i := 17) (oi := ?a124) (v := ?f124) (d := ?g124) ?b124 ?c124 (by kernel_rfl) ?d124 ?e124 ?h124 (by assumption) ?_; (case b124 => simp only [rhN, rhM]; try rfl); (case c124 => (try dsimp only); rfl); (case e124 => rfl); (case d124 => exact fun _ _ _ h => h); (case h124 => intro w hSw; (try dsimp only at hSw); go_simp <;> with_reducible rfl); simp only [Act.put, rhA, rhS, rhT]
          refine hTake (i := 18) (oi := ?a125) (v := ?f125) (d := ?g125) ?b125 ?c125 (by kernel_rfl) ?d125 ?e125 ?h125 (by assumption) ?_; (case b125 => simp only [rhN, rhM]; try rfl); (case c125 => (try dsimp only); rfl); (case e125 => rfl); (case d125 => exact fun _ _ _ h => h); (case h125 => intro w hSw; (try dsimp only at hSw); go_simp <;> with_reducible rfl); simp only [Act.put, rhA, rhS, rhT]
          refine hTake (i := 19) (oi := ?a126) (v := ?f126) (d := ?g126) ?b126 ?c126 (by kernel_rfl) ?d126 ?e126 ?h126 (by assumption) ?_; (case b126 => simp only [rhN, rhM]; try rfl); (case c126 => (try dsimp only); rfl); (case e126 => rfl); (case d126 => exact fun _ _ _ h => h); (case h126 => intro w hSw; (try dsimp only at hSw); go_simp <;> with_reducible rfl); simp only [Act.put, rhA, rhS, rhT]
          refine hTake (i := 20) (oi := ?a127) (v := ?f127) (d := ?g127) ?b127 ?c127 (by kernel_rfl) ?d127 ?e127 ?h127 (by assumption) ?_; (case b127 => simp only [rhN, rhM]; try rfl); (case c127 => (try dsimp only); rfl); (case e127 => rfl); (case d127 => exact fun _ _ _ h => h); (case h127 => intro w hSw; (try dsimp only at hSw); go_simp <;> with_reducible rfl); simp only [Act.put, rhA, rhS, rhT]
          refine hTake (i := 21) (oi := ?a128) (v := ?f128) (d := ?g128) ?b128 ?c128 (by kernel_rfl) ?d128 ?e128 ?h128 (by assumption) ?_; (case b128 => simp only [rhN, rhM]; try rfl); (case c128 => (try dsimp only); rfl); (case e128 => rfl); (case d128 => exact fun _ _ _ h => h); (case h128 => intro w hSw; (try dsimp only at hSw); go_simp <;> with_reducible rfl); simp only [Act.put, rhA, rhS, rhT]
          refine hTake (i := 22) (oi := ?a129) (v := ?f129) (d := ?g129) ?b129 ?c129 (by kernel_rfl) ?d129 ?e129 ?h129 (by assumption) ?_; (case b129 => simp only [rhN, rhM]; try rfl); (case c129 => (try dsimp only); rfl); (case e129 => rfl); (case d129 => exact fun _ _ _ h => h); (case h129 => intro w hSw; (try dsimp only at hSw); go_simp <;> with_reducible rfl); simp only [Act.put, rhA, rhS, rhT]
          refine hTake (i := 23) (oi := ?a130) (v := ?f130) (d := ?g130) ?b130 ?c130 (by kernel_rfl) ?d130 ?e130 ?h130 (by assumption) ?_; (case b130 => simp only [rhN, rhM]; try rfl); (case c130 => (try dsimp only); rfl); (case e130 => rfl); (case d130 => exact fun _ _ _ h => h); (case h130 => intro w hSw; (try dsimp only at hSw); go_simp <;> with_reducible rfl); simp only [Act.put, rhA, rhS, rhT]
          refine hTake (i := 24) (oi := ?a131) (v := ?f131) (d := ?g131) ?b131 ?c131 (by kernel_rfl) ?d131 ?e131 ?h131 (by assumption) ?_; (case b131 => simp only [rhN, rhM]; try rfl); (case c131 => (try dsimp only); rfl); (case e131 => rfl); (case d131 => exact fun _ _ _ h => h); (case h131 => intro w hSw; (try dsimp only at hSw); go_simp <;> with_reducible rfl); simp only [Act.put, rhA, rhS, rhT]
          refine hCall (i := 25) (o := ?a132) ?b132 (by kernel_rfl) ?c132 (fun K hK => ?d132)
          case b132 => simp only [rhN, rhM]; try rfl
          case c132 => rfl
          go_simp
          refine (HHO.out _ (by repeat' (first | exact Below.refl _ _ | refine Below.alloc ?_ ?_ _ | refine Below.setCell ?_ ?_ _ | refine Below.drew ?_ | (apply below_step; assumption) | (simp; done) | (simp; omega) | omega))).mono ?_
          rintro e w4 ⟨rfl, hb4⟩
          have hz4 := hb4.size
          (try simp at hz4)
          go_wp2_with fail
          refine hK.out _ _ (by (try dsimp only); exact HK.out _ (by repeat' (first | exact Below.refl _ _ | refine Below.alloc ?_ ?_ _ | refine Below.setCell ?_ ?_ _ | refine Below.drew ?_ | (apply below_step; assumption) | (simp; done) | (simp; omega) | omega))) (fun hHeld => ?_)
          clear hK K
          try simp only [Act.put, rhA, rhS, rhT]
          refine hTake (i := 26) (oi := ?a134) (v := ?f134) (d := ?g134) ?b134 ?c134 (by kernel_rfl) ?d134 ?e134 ?h134 (by assumption) ?_; (case b134 => simp only [rhN, rhM]; try rfl); (case c134 => (try dsimp only); rfl); (case e134 => rfl); (case d134 => exact fun _ _ _ h => h); (case h134 => intro w hSw; (try dsimp only at hSw); go_simp <;> with_reducible rfl); simp only [Act.put, rhA, rhS, rhT]
          refine hTake (i := 27) (oi := ?a136) (v := ?f136) (d := ?g136) ?b136 ?c136 (by kernel_rfl) ?d136 ?e136 ?h136 (by assumption) ?_; (case b136 => simp only [rhN, rhM]; try rfl); (case c136 => (try dsimp only); rfl); (case e136 => rfl); (case d136 => exact fun _ _ _ h => h); (case h136 => intro w hSw; (try dsimp only at hSw); go_simp <;> with_reducible rfl); simp only [Act.put, rhA, rhS, rhT]
          refine hTake (i := 28) (oi := ?a138) (v := ?f138) (d := ?g138) ?b138 ?c138 (by kernel_rfl) ?d138 ?e138 ?h138 (by assumption) ?_; (case b138 => simp only [rhN, rhM]; try rfl); (case c138 => (try dsimp only); rfl); (case e138 => rfl); (case d138 => exact fun _ _ _ h => h); (case h138 => intro w hSw; (try dsimp only at hSw); go_simp <;> with_reducible rfl); simp only [Act.put, rhA, rhS, rhT]
          refine hSkip (i := 29) (oi := ?a140) (d := ?g140) ?b140 ?c140 (by kernel_rfl) ?d140 ?e140 (by assumption) ?_; (case b140 => simp only [rhN, rhM]; try rfl); (case c140 => (try dsimp only); rfl); (case e140 => rfl); (case d140 => exact fun _ _ _ h => h); simp only [Act.put, rhA, rhS, rhT]
          refine hSkip (i := 30) (oi := ?a141) (d := ?g141) ?b141 ?c141 (by kernel_rfl) ?d141 ?e141 (by assumption) ?_; (case b141 => simp only [rhN, rhM]; try rfl); (case c141 => (try dsimp only); rfl); (case e141 => rfl); (case d141 => exact fun _ _ _ h => h); simp only [Act.put, rhA, rhS, rhT]
          refine hSkip (i := 31) (oi := ?a142) (d := ?g142) ?b142 ?c142 (by kernel_rfl) ?d142 ?e142 (by assumption) ?_; (case b142 => simp only [rhN, rhM]; try rfl); (case c142 => (try dsimp only); rfl); (case e142 => rfl); (case d142 => exact fun _ _ _ h => h); simp only [Act.put, rhA, rhS, rhT]
          refine hSkip (i := 32) (oi := ?a143) (d := ?g143) ?b143 ?c143 (by kernel_rfl) ?d143 ?e143 (by assumption) ?_; (case b143 => simp only [rhN, rhM]; try rfl); (case c143 => (try dsimp only); rfl); (case e143 => rfl); (case d143 => exact fun _ _ _ h => h); simp only [Act.put, rhA, rhS, rhT]
          refine hSkip (i := 33) (oi := ?a144) (d := ?g144) ?b144 ?c144 (by kernel_rfl) ?d144 ?e144 (by assumption) ?_; (case b144 => simp only [rhN, rhM]; try rfl); (case c144 => (try dsimp only); rfl); (case e144 => rfl); (case d144 => exact fun _ _ _ h => h); simp only [Act.put, rhA, rhS, rhT]
          refine hSkip (i := 34) (oi := ?a145) (d := ?g145) ?b145 ?c145 (by kernel_rfl) ?d145 ?e145 (by assumption) ?_; (case b145 => simp only [rhN, rhM]; try rfl); (case c145 => (try dsimp only); rfl); (case e145 => rfl); (case d145 => exact fun _ _ _ h => h); simp only [Act.put, rhA, rhS, rhT]
          refine hSkip (i := 35) (oi := ?a146) (d := ?g146) ?b146 ?c146 (by kernel_rfl) ?d146 ?e146 (by assumption) ?_; (case b146 => simp only [rhN, rhM]; try rfl); (case c146 => (try dsimp only); rfl); (case e146 => rfl); (case d146 => exact fun _ _ _ h => h); simp only [Act.put, rhA, rhS, rhT]
          refine hSkip (i := 36) (oi := ?a147) (d := ?g147) ?b147 ?c147 (by kernel_rfl) ?d147 ?e147 (by assumption) ?_; (case b147 => simp only [rhN, rhM]; try rfl); (case c147 => (try dsimp only); rfl); (case e147 => rfl); (case d147 => exact fun _ _ _ h => h); simp only [Act.put, rhA, rhS, rhT]
          refine hSkip (i := 37) (oi := ?a148) (d := ?g148) ?b148 ?c148 (by kernel_rfl) ?d148 ?e148 (by assumption) ?_; (case b148 => simp only [rhN, rhM]; try rfl); (case c148 => (try dsimp only); rfl); (case e148 => rfl); (case d148 => exact fun _ _ _ h => h); simp only [Act.put, rhA, rhS, rhT]
          refine hSkip (i := 38) (oi := ?a149) (d := ?g149) ?b149 ?c149 (by kernel_rfl) ?d149 ?e149 (by assumption) ?_; (case b149 => simp only [rhN, rhM]; try rfl); (case c149 => (try dsimp only); rfl); (case e149 => rfl); (case d149 => exact fun _ _ _ h => h); simp only [Act.put, rhA, rhS, rhT]
          refine hSkip (i := 39) (oi := ?a150) (d := ?g150) ?b150 ?c150 (by kernel_rfl) ?d150 ?e150 (by assumption) ?_; (case b150 => simp only [rhN, rhM]; try rfl); (case c150 => (try dsimp only); rfl); (case e150 => rfl); (case d150 => exact fun _ _ _ h => h); simp only [Act.put, rhA, rhS, rhT]
          refine hTake (i := 40) (oi := ?a152) (v := ?f152) (d := ?g152) ?b152 ?c152 (by kernel_rfl) ?d152 ?e152 ?h152 (by assumption) ?_; (case b152 => simp only [rhN, rhM]; try rfl); (case c152 => (try dsimp only); rfl); (case e152 => rfl); (case d152 => exact fun _ _ _ h => h); (case h152 => intro w hSw; (try dsimp only at hSw); go_simp <;> with_reducible rfl); simp only [Act.put, rhA, rhS, rhT]
          refine wpAnyH_done (by kernel_rfl) ?_ _
          go_wp2_with fail
          go_ret
          exact ⟨by rw [HR.out]; rfl, below_of hC3 (by repeat' (first | exact Below.refl _ _ | refine Below.alloc ?_ ?_ _ | refine Below.setCell ?_ ?_ _ | refine Below.drew ?_ | (apply below_step; assumption) | (simp; done) | (simp; omega) | omega))⟩
        · go_wp2_with fail
          refine wp_region_held_drew (S := (fun w' => Below w3.heap.size w3 w' ∧ (∀ o, w'.cell? ⟨w.heap.size, o, none⟩ = (#[.slice (some ⟨bt, ot, none⟩) c.tasks.length e0, .slice (some ⟨bn, on, none⟩) c.nodes.length e1, .slice D2 c.binds.length e2] : Array Value)[o]?) ∧ (w'.cell? ⟨bn, on + j * 8, none⟩ = some (.int .i64 n.id) ∧ w'.cell? ⟨bn, on + j * 8 + 1, none⟩ = some (.int .i64 n.pool) ∧ w'.cell? ⟨bn, on + j * 8 + 2, none⟩ = some (.int .i64 n.cap.c) ∧ w'.cell? ⟨bn, on + j * 8 + 3, none⟩ = some (.int .i64 n.cap.m) ∧ w'.cell? ⟨bn, on + j * 8 + 4, none⟩ = some (.int .i64 n.cap.p) ∧ w'.cell? ⟨bn, on + j * 8 + 5, none⟩ = some (.slice A1 n.labs.length c1) ∧ w'.cell? ⟨bn, on + j * 8 + 6, none⟩ = some (.slice A2 n.taints.length c2) ∧ w'.cell? ⟨bn, on + j * 8 + 7, none⟩ = some (.bool false)) ∧ w'.cell? ⟨bt, ot + i * 7, none⟩ = some (.int .i64 t.id) ∧ w'.cell? ⟨bt, ot + i * 7 + 1, none⟩ = some (.int .i64 t.prio) ∧ w'.cell? ⟨bt, ot + i * 7 + 2, none⟩ = some (.int .i64 t.need.c) ∧ w'.cell? ⟨bt, ot + i * 7 + 3, none⟩ = some (.int .i64 t.need.m) ∧ w'.cell? ⟨bt, ot + i * 7 + 4, none⟩ = some (.int .i64 t.need.p) ∧ w'.cell? ⟨bt, ot + i * 7 + 5, none⟩ = some (.slice B1 t.want.length d1) ∧ w'.cell? ⟨bt, ot + i * 7 + 6, none⟩ = some (.slice B2 t.tols.length d2))) (by kernel_rfl) (by (try dsimp only); exact HK.out _ (by repeat' (first | exact Below.refl _ _ | refine Below.alloc ?_ ?_ _ | refine Below.setCell ?_ ?_ _ | refine Below.drew ?_ | (apply below_step; assumption) | (simp; done) | (simp; omega) | omega))) (fun hHeld => ?_)
          refine hTake (i := 0) (oi := ?a154) (v := ?f154) (d := ?g154) ?b154 ?c154 (by kernel_rfl) ?d154 ?e154 ?h154 (by assumption) ?_; (case b154 => simp only [rhN]; try rfl); (case c154 => (try dsimp only); rfl); (case e154 => rfl); (case d154 => exact fun _ _ _ h => h); (case h154 => intro w hSw; (try dsimp only at hSw); go_simp <;> with_reducible rfl); simp only [Act.put, rhA, rhS, rhT]
          refine hTake (i := 1) (oi := ?a155) (v := ?f155) (d := ?g155) ?b155 ?c155 (by kernel_rfl) ?d155 ?e155 ?h155 (by assumption) ?_; (case b155 => simp only [rhN, rhM]; try rfl); (case c155 => (try dsimp only); rfl); (case e155 => rfl); (case d155 => exact fun _ _ _ h => h); (case h155 => intro w hSw; (try dsimp only at hSw); go_simp <;> with_reducible rfl); simp only [Act.put, rhA, rhS, rhT]
          refine hTake (i := 2) (oi := ?a156) (v := ?f156) (d := ?g156) ?b156 ?c156 (by kernel_rfl) ?d156 ?e156 ?h156 (by assumption) ?_; (case b156 => simp only [rhN, rhM]; try rfl); (case c156 => (try dsimp only); rfl); (case e156 => rfl); (case d156 => exact fun _ _ _ h => h); (case h156 => intro w hSw; (try dsimp only at hSw); go_simp <;> with_reducible rfl); simp only [Act.put, rhA, rhS, rhT]
          refine hTake (i := 3) (oi := ?a157) (v := ?f157) (d := ?g157) ?b157 ?c157 (by kernel_rfl) ?d157 ?e157 ?h157 (by assumption) ?_; (case b157 => simp only [rhN, rhM]; try rfl); (case c157 => (try dsimp only); rfl); (case e157 => rfl); (case d157 => exact fun _ _ _ h => h); (case h157 => intro w hSw; (try dsimp only at hSw); go_simp <;> with_reducible rfl); simp only [Act.put, rhA, rhS, rhT]
          refine hTake (i := 4) (oi := ?a158) (v := ?f158) (d := ?g158) ?b158 ?c158 (by kernel_rfl) ?d158 ?e158 ?h158 (by assumption) ?_; (case b158 => simp only [rhN, rhM]; try rfl); (case c158 => (try dsimp only); rfl); (case e158 => rfl); (case d158 => exact fun _ _ _ h => h); (case h158 => intro w hSw; (try dsimp only at hSw); go_simp <;> with_reducible rfl); simp only [Act.put, rhA, rhS, rhT]
          refine hTake (i := 5) (oi := ?a159) (v := ?f159) (d := ?g159) ?b159 ?c159 (by kernel_rfl) ?d159 ?e159 ?h159 (by assumption) ?_; (case b159 => simp only [rhN, rhM]; try rfl); (case c159 => (try dsimp only); rfl); (case e159 => rfl); (case d159 => exact fun _ _ _ h => h); (case h159 => intro w hSw; (try dsimp only at hSw); go_simp <;> with_reducible rfl); simp only [Act.put, rhA, rhS, rhT]
          refine hTake (i := 6) (oi := ?a160) (v := ?f160) (d := ?g160) ?b160 ?c160 (by kernel_rfl) ?d160 ?e160 ?h160 (by assumption) ?_; (case b160 => simp only [rhN, rhM]; try rfl); (case c160 => (try dsimp only); rfl); (case e160 => rfl); (case d160 => exact fun _ _ _ h => h); (case h160 => intro w hSw; (try dsimp only at hSw); go_simp <;> with_reducible rfl); simp only [Act.put, rhA, rhS, rhT]
          refine hTake (i := 7) (oi := ?a161) (v := ?f161) (d := ?g161) ?b161 ?c161 (by kernel_rfl) ?d161 ?e161 ?h161 (by assumption) ?_; (case b161 => simp only [rhN, rhM]; try rfl); (case c161 => (try dsimp only); rfl); (case e161 => rfl); (case d161 => exact fun _ _ _ h => h); (case h161 => intro w hSw; (try dsimp only at hSw); go_simp <;> with_reducible rfl); simp only [Act.put, rhA, rhS, rhT]
          refine hTake (i := 8) (oi := ?a162) (v := ?f162) (d := ?g162) ?b162 ?c162 (by kernel_rfl) ?d162 ?e162 ?h162 (by assumption) ?_; (case b162 => simp only [rhN, rhM]; try rfl); (case c162 => (try dsimp only); rfl); (case e162 => rfl); (case d162 => exact fun _ _ _ h => h); (case h162 => intro w hSw; (try dsimp only at hSw); go_simp <;> with_reducible rfl); simp only [Act.put, rhA, rhS, rhT]
          refine hTake (i := 9) (oi := ?a163) (v := ?f163) (d := ?g163) ?b163 ?c163 (by kernel_rfl) ?d163 ?e163 ?h163 (by assumption) ?_; (case b163 => simp only [rhN, rhM]; try rfl); (case c163 => (try dsimp only); rfl); (case e163 => rfl); (case d163 => exact fun _ _ _ h => h); (case h163 => intro w hSw; (try dsimp only at hSw); go_simp <;> with_reducible rfl); simp only [Act.put, rhA, rhS, rhT]
          refine hTake (i := 10) (oi := ?a164) (v := ?f164) (d := ?g164) ?b164 ?c164 (by kernel_rfl) ?d164 ?e164 ?h164 (by assumption) ?_; (case b164 => simp only [rhN, rhM]; try rfl); (case c164 => (try dsimp only); rfl); (case e164 => rfl); (case d164 => exact fun _ _ _ h => h); (case h164 => intro w hSw; (try dsimp only at hSw); go_simp <;> with_reducible rfl); simp only [Act.put, rhA, rhS, rhT]
          refine hTake (i := 11) (oi := ?a165) (v := ?f165) (d := ?g165) ?b165 ?c165 (by kernel_rfl) ?d165 ?e165 ?h165 (by assumption) ?_; (case b165 => simp only [rhN, rhM]; try rfl); (case c165 => (try dsimp only); rfl); (case e165 => rfl); (case d165 => exact fun _ _ _ h => h); (case h165 => intro w hSw; (try dsimp only at hSw); go_simp <;> with_reducible rfl); simp only [Act.put, rhA, rhS, rhT]
          refine hTake (i := 12) (oi := ?a166) (v := ?f166) (d := ?g166) ?b166 ?c166 (by kernel_rfl) ?d166 ?e166 ?h166 (by assumption) ?_; (case b166 => simp only [rhN, rhM]; try rfl); (case c166 => (try dsimp only); rfl); (case e166 => rfl); (case d166 => exact fun _ _ _ h => h); (case h166 => intro w hSw; (try dsimp only at hSw); go_simp <;> with_reducible rfl); simp only [Act.put, rhA, rhS, rhT]
          refine hTake (i := 13) (oi := ?a167) (v := ?f167) (d := ?g167) ?b167 ?c167 (by kernel_rfl) ?d167 ?e167 ?h167 (by assumption) ?_; (case b167 => simp only [rhN, rhM]; try rfl); (case c167 => (try dsimp only); rfl); (case e167 => rfl); (case d167 => exact fun _ _ _ h => h); (case h167 => intro w hSw; (try dsimp only at hSw); go_simp <;> with_reducible rfl); simp only [Act.put, rhA, rhS, rhT]
          refine hTake (i := 14) (oi := ?a168) (v := ?f168) (d := ?g168) ?b168 ?c168 (by kernel_rfl) ?d168 ?e168 ?h168 (by assumption) ?_; (case b168 => simp only [rhN, rhM]; try rfl); (case c168 => (try dsimp only); rfl); (case e168 => rfl); (case d168 => exact fun _ _ _ h => h); (case h168 => intro w hSw; (try dsimp only at hSw); go_simp <;> with_reducible rfl); simp only [Act.put, rhA, rhS, rhT]
          refine hTake (i := 15) (oi := ?a169) (v := ?f169) (d := ?g169) ?b169 ?c169 (by kernel_rfl) ?d169 ?e169 ?h169 (by assumption) ?_; (case b169 => simp only [rhN, rhM]; try rfl); (case c169 => (try dsimp only); rfl); (case e169 => rfl); (case d169 => exact fun _ _ _ h => h); (case h169 => intro w hSw; (try dsimp only at hSw); go_simp <;> with_reducible rfl); simp only [Act.put, rhA, rhS, rhT]
          refine hTake (i := 16) (oi := ?a170) (v := ?f170) (d := ?g170) ?b170 ?c170 (by kernel_rfl) ?d170 ?e170 ?h170 (by assumption) ?_; (case b170 => simp only [rhN, rhM]; try rfl); (case c170 => (try dsimp only); rfl); (case e170 => rfl); (case d170 => exact fun _ _ _ h => h); (case h170 => intro w hSw; (try dsimp only at hSw); go_simp <;> with_reducible rfl); simp only [Act.put, rhA, rhS, rhT]
          refine hTake (i := 17) (oi := ?a171) (v := ?f171) (d := ?g171) ?b171 ?c171 (by kernel_rfl) ?d171 ?e171 ?h171 (by assumption) ?_; (case b171 => simp only [rhN, rhM]; try rfl); (case c171 => (try dsimp only); rfl); (case e171 => rfl); (case d171 => exact fun _ _ _ h => h); (case h171 => intro w hSw; (try dsimp only at hSw); go_simp <;> with_reducible rfl); simp only [Act.put, rhA, rhS, rhT]
          refine hTake (i := 18) (oi := ?a172) (v := ?f172) (d := ?g172) ?b172 ?c172 (by kernel_rfl) ?d172 ?e172 ?h172 (by assumption) ?_; (case b172 => simp only [rhN, rhM]; try rfl); (case c172 => (try dsimp only); rfl); (case e172 => rfl); (case d172 => exact fun _ _ _ h => h); (case h172 => intro w hSw; (try dsimp only at hSw); go_simp <;> with_reducible rfl); simp only [Act.put, rhA, rhS, rhT]
          refine hTake (i := 19) (oi := ?a173) (v := ?f173) (d := ?g173) ?b173 ?c173 (by kernel_rfl) ?d173 ?e173 ?h173 (by assumption) ?_; (case b173 => simp only [rhN, rhM]; try rfl); (case c173 => (try dsimp only); rfl); (case e173 => rfl); (case d173 => exact fun _ _ _ h => h); (case h173 => intro w hSw; (try dsimp only at hSw); go_simp <;> with_reducible rfl); simp only [Act.put, rhA, rhS, rhT]
          refine hTake (i := 20) (oi := ?a174) (v := ?f174) (d := ?g174) ?b174 ?c174 (by kernel_rfl) ?d174 ?e174 ?h174 (by assumption) ?_; (case b174 => simp only [rhN, rhM]; try rfl); (case c174 => (try dsimp only); rfl); (case e174 => rfl); (case d174 => exact fun _ _ _ h => h); (case h174 => intro w hSw; (try dsimp only at hSw); go_simp <;> with_reducible rfl); simp only [Act.put, rhA, rhS, rhT]
          refine hTake (i := 21) (oi := ?a175) (v := ?f175) (d := ?g175) ?b175 ?c175 (by kernel_rfl) ?d175 ?e175 ?h175 (by assumption) ?_; (case b175 => simp only [rhN, rhM]; try rfl); (case c175 => (try dsimp only); rfl); (case e175 => rfl); (case d175 => exact fun _ _ _ h => h); (case h175 => intro w hSw; (try dsimp only at hSw); go_simp <;> with_reducible rfl); simp only [Act.put, rhA, rhS, rhT]
          refine hTake (i := 22) (oi := ?a176) (v := ?f176) (d := ?g176) ?b176 ?c176 (by kernel_rfl) ?d176 ?e176 ?h176 (by assumption) ?_; (case b176 => simp only [rhN, rhM]; try rfl); (case c176 => (try dsimp only); rfl); (case e176 => rfl); (case d176 => exact fun _ _ _ h => h); (case h176 => intro w hSw; (try dsimp only at hSw); go_simp <;> with_reducible rfl); simp only [Act.put, rhA, rhS, rhT]
          refine hTake (i := 23) (oi := ?a177) (v := ?f177) (d := ?g177) ?b177 ?c177 (by kernel_rfl) ?d177 ?e177 ?h177 (by assumption) ?_; (case b177 => simp only [rhN, rhM]; try rfl); (case c177 => (try dsimp only); rfl); (case e177 => rfl); (case d177 => exact fun _ _ _ h => h); (case h177 => intro w hSw; (try dsimp only at hSw); go_simp <;> with_reducible rfl); simp only [Act.put, rhA, rhS, rhT]
          refine hTake (i := 24) (oi := ?a178) (v := ?f178) (d := ?g178) ?b178 ?c178 (by kernel_rfl) ?d178 ?e178 ?h178 (by assumption) ?_; (case b178 => simp only [rhN, rhM]; try rfl); (case c178 => (try dsimp only); rfl); (case e178 => rfl); (case d178 => exact fun _ _ _ h => h); (case h178 => intro w hSw; (try dsimp only at hSw); go_simp <;> with_reducible rfl); simp only [Act.put, rhA, rhS, rhT]
          refine hCall (i := 25) (o := ?a179) ?b179 (by kernel_rfl) ?c179 (fun K hK => ?d179)
          case b179 => simp only [rhN, rhM]; try rfl
          case c179 => rfl
          go_simp
          refine (HHO.out _ (by repeat' (first | exact Below.refl _ _ | refine Below.alloc ?_ ?_ _ | refine Below.setCell ?_ ?_ _ | refine Below.drew ?_ | (apply below_step; assumption) | (simp; done) | (simp; omega) | omega))).mono ?_
          rintro e w4 ⟨rfl, hb4⟩
          have hz4 := hb4.size
          (try simp at hz4)
          go_wp2_with fail
          refine hK.out _ _ (by (try dsimp only); exact HK.out _ (by repeat' (first | exact Below.refl _ _ | refine Below.alloc ?_ ?_ _ | refine Below.setCell ?_ ?_ _ | refine Below.drew ?_ | (apply below_step; assumption) | (simp; done) | (simp; omega) | omega))) (fun hHeld => ?_)
          clear hK K
          try simp only [Act.put, rhA, rhS, rhT]
          refine hTake (i := 26) (oi := ?a181) (v := ?f181) (d := ?g181) ?b181 ?c181 (by kernel_rfl) ?d181 ?e181 ?h181 (by assumption) ?_; (case b181 => simp only [rhN, rhM]; try rfl); (case c181 => (try dsimp only); rfl); (case e181 => rfl); (case d181 => exact fun _ _ _ h => h); (case h181 => intro w hSw; (try dsimp only at hSw); go_simp <;> with_reducible rfl); simp only [Act.put, rhA, rhS, rhT]
          refine hTake (i := 27) (oi := ?a183) (v := ?f183) (d := ?g183) ?b183 ?c183 (by kernel_rfl) ?d183 ?e183 ?h183 (by assumption) ?_; (case b183 => simp only [rhN, rhM]; try rfl); (case c183 => (try dsimp only); rfl); (case e183 => rfl); (case d183 => exact fun _ _ _ h => h); (case h183 => intro w hSw; (try dsimp only at hSw); go_simp <;> with_reducible rfl); simp only [Act.put, rhA, rhS, rhT]
          refine hTake (i := 28) (oi := ?a185) (v := ?f185) (d := ?g185) ?b185 ?c185 (by kernel_rfl) ?d185 ?e185 ?h185 (by assumption) ?_; (case b185 => simp only [rhN, rhM]; try rfl); (case c185 => (try dsimp only); rfl); (case e185 => rfl); (case d185 => exact fun _ _ _ h => h); (case h185 => intro w hSw; (try dsimp only at hSw); go_simp <;> with_reducible rfl); simp only [Act.put, rhA, rhS, rhT]
          refine hTake (i := 29) (oi := ?a187) (v := ?f187) (d := ?g187) ?b187 ?c187 (by kernel_rfl) ?d187 ?e187 ?h187 (by assumption) ?_; (case b187 => simp only [rhN, rhM]; try rfl); (case c187 => (try dsimp only); rfl); (case e187 => rfl); (case d187 => exact fun _ _ _ h => h); (case h187 => intro w hSw; (try dsimp only at hSw); go_simp <;> with_reducible rfl); simp only [Act.put, rhA, rhS, rhT]
          refine hTake (i := 30) (oi := ?a188) (v := ?f188) (d := ?g188) ?b188 ?c188 (by kernel_rfl) ?d188 ?e188 ?h188 (by assumption) ?_; (case b188 => simp only [rhN, rhM]; try rfl); (case c188 => (try dsimp only); rfl); (case e188 => rfl); (case d188 => exact fun _ _ _ h => h); (case h188 => intro w hSw; (try dsimp only at hSw); go_simp <;> with_reducible rfl); simp only [Act.put, rhA, rhS, rhT]
          refine hTake (i := 31) (oi := ?a189) (v := ?f189) (d := ?g189) ?b189 ?c189 (by kernel_rfl) ?d189 ?e189 ?h189 (by assumption) ?_; (case b189 => simp only [rhN, rhM]; try rfl); (case c189 => (try dsimp only); rfl); (case e189 => rfl); (case d189 => exact fun _ _ _ h => h); (case h189 => intro w hSw; (try dsimp only at hSw); go_simp <;> with_reducible rfl); simp only [Act.put, rhA, rhS, rhT]
          refine hTake (i := 32) (oi := ?a190) (v := ?f190) (d := ?g190) ?b190 ?c190 (by kernel_rfl) ?d190 ?e190 ?h190 (by assumption) ?_; (case b190 => simp only [rhN, rhM]; try rfl); (case c190 => (try dsimp only); rfl); (case e190 => rfl); (case d190 => exact fun _ _ _ h => h); (case h190 => intro w hSw; (try dsimp only at hSw); go_simp <;> with_reducible rfl); simp only [Act.put, rhA, rhS, rhT]
          refine hTake (i := 33) (oi := ?a191) (v := ?f191) (d := ?g191) ?b191 ?c191 (by kernel_rfl) ?d191 ?e191 ?h191 (by assumption) ?_; (case b191 => simp only [rhN, rhM]; try rfl); (case c191 => (try dsimp only); rfl); (case e191 => rfl); (case d191 => exact fun _ _ _ h => h); (case h191 => intro w hSw; (try dsimp only at hSw); go_simp <;> with_reducible rfl); simp only [Act.put, rhA, rhS, rhT]
          refine hTake (i := 34) (oi := ?a192) (v := ?f192) (d := ?g192) ?b192 ?c192 (by kernel_rfl) ?d192 ?e192 ?h192 (by assumption) ?_; (case b192 => simp only [rhN, rhM]; try rfl); (case c192 => (try dsimp only); rfl); (case e192 => rfl); (case d192 => exact fun _ _ _ h => h); (case h192 => intro w hSw; (try dsimp only at hSw); go_simp <;> with_reducible rfl); simp only [Act.put, rhA, rhS, rhT]
          refine hTake (i := 35) (oi := ?a193) (v := ?f193) (d := ?g193) ?b193 ?c193 (by kernel_rfl) ?d193 ?e193 ?h193 (by assumption) ?_; (case b193 => simp only [rhN, rhM]; try rfl); (case c193 => (try dsimp only); rfl); (case e193 => rfl); (case d193 => exact fun _ _ _ h => h); (case h193 => intro w hSw; (try dsimp only at hSw); go_simp <;> with_reducible rfl); simp only [Act.put, rhA, rhS, rhT]
          refine hTake (i := 36) (oi := ?a194) (v := ?f194) (d := ?g194) ?b194 ?c194 (by kernel_rfl) ?d194 ?e194 ?h194 (by assumption) ?_; (case b194 => simp only [rhN, rhM]; try rfl); (case c194 => (try dsimp only); rfl); (case e194 => rfl); (case d194 => exact fun _ _ _ h => h); (case h194 => intro w hSw; (try dsimp only at hSw); go_simp <;> with_reducible rfl); simp only [Act.put, rhA, rhS, rhT]
          refine hCall (i := 37) (o := ?a195) ?b195 (by kernel_rfl) ?c195 (fun K hK => ?d195)
          case b195 => simp only [rhN, rhM]; try rfl
          case c195 => rfl
          go_simp
          refine (HFRN.out _ (below_of hC3 (by repeat' (first | exact Below.refl _ _ | refine Below.alloc ?_ ?_ _ | refine Below.setCell ?_ ?_ _ | refine Below.drew ?_ | (apply below_step; assumption) | (simp; done) | (simp; omega) | omega)))).mono ?_
          rintro e w5 ⟨rfl, hb5⟩
          have hz5 := hb5.size
          (try simp at hz5)
          go_wp2_with fail
          refine hK.out _ _ (by (try dsimp only); exact HK.out _ (by repeat' (first | exact Below.refl _ _ | refine Below.alloc ?_ ?_ _ | refine Below.setCell ?_ ?_ _ | refine Below.drew ?_ | (apply below_step; assumption) | (simp; done) | (simp; omega) | omega))) (fun hHeld => ?_)
          clear hK K
          try simp only [Act.put, rhA, rhS, rhT]
          refine hCall (i := 38) (o := ?a196) ?b196 (by kernel_rfl) ?c196 (fun K hK => ?d196)
          case b196 => simp only [rhN, rhM]; try rfl
          case c196 => rfl
          go_simp
          refine (HFT.out _).mono ?_
          rintro e w6 ⟨rfl, hb6⟩
          have hz6 := hb6.size
          (try simp at hz6)
          go_wp2_with fail
          refine hK.out _ _ (by (try dsimp only); exact HK.out _ (by repeat' (first | exact Below.refl _ _ | refine Below.alloc ?_ ?_ _ | refine Below.setCell ?_ ?_ _ | refine Below.drew ?_ | (apply below_step; assumption) | (simp; done) | (simp; omega) | omega))) (fun hHeld => ?_)
          clear hK K
          try simp only [Act.put, rhA, rhS, rhT]
          refine hTake (i := 39) (oi := ?a198) (v := ?f198) (d := ?g198) ?b198 ?c198 (by kernel_rfl) ?d198 ?e198 ?h198 (by assumption) ?_; (case b198 => simp only [rhN, rhM]; try rfl); (case c198 => (try dsimp only); rfl); (case e198 => rfl); (case d198 => exact fun _ _ _ h => h); (case h198 => intro w hSw; (try dsimp only at hSw); go_simp <;> with_reducible rfl); simp only [Act.put, rhA, rhS, rhT]
          refine hTake (i := 40) (oi := ?a200) (v := ?f200) (d := ?g200) ?b200 ?c200 (by kernel_rfl) ?d200 ?e200 ?h200 (by assumption) ?_; (case b200 => simp only [rhN, rhM]; try rfl); (case c200 => (try dsimp only); rfl); (case e200 => rfl); (case d200 => exact fun _ _ _ h => h); (case h200 => intro w hSw; (try dsimp only at hSw); go_simp <;> with_reducible rfl); simp only [Act.put, rhA, rhS, rhT]
          refine wpAnyH_done (by kernel_rfl) ?_ _
          have hD6 : Below w3.heap.size w3 w6 := (by repeat' (first | exact Below.refl _ _ | refine Below.alloc ?_ ?_ _ | refine Below.setCell ?_ ?_ _ | refine Below.drew ?_ | (apply below_step; assumption) | (simp; done) | (simp; omega) | omega))
          have hC6 := below_of hC3 hD6
          have HBC6 := Lib.hid (HBC3.out.below hD6 cl)
          have g0 := HBC6.out.cell 0
          have g1 := HBC6.out.cell 1
          have g2 := HBC6.out.cell 2
          have cl6 := HBC6.out.lt
          simp at g0 g1 g2
          have HS6 := Lib.hid (HK.out _ hD6)
          clear hb4 hb5 hb6 hz4 hz5 hz6 HK HHO HFRN HFT HBC3 cl hHeld hD6 hC3
          cases fit
          · go_wp2_with fail
            go_ret
            exact ⟨by rw [HR.out]; rfl, hC6⟩
          · go_wp2_with fail
            refine (HUS.out _ hC6).mono ?_
            rintro e w7 ⟨rfl, hb7⟩
            have hC7 := below_of hC6 hb7
            have HBC7 := Lib.hid (HBC6.out.below hb7 HBC6.out.lt)
            have HS7 := Lib.hid (And.intro hb7 HS6.out)
            clear hb7 HS6 HBC6 g0 g1 g2 cl6 hC6
            go_upto_region 6 with fail
            have hX3 : Below w7.heap.size w7 (w7.alloc (.cells #[.int .i64 u.c, .int .i64 u.m, .int .i64 u.p] 43)) := (by repeat' (first | exact Below.refl _ _ | refine Below.alloc ?_ ?_ _ | refine Below.setCell ?_ ?_ _ | refine Below.drew ?_ | (apply below_step; assumption) | (simp; done) | (simp; omega) | omega))
            have hC8 := below_of hC7 hX3
            have BC := HBC7.out.alloc (.cells #[.int .i64 u.c, .int .i64 u.m, .int .i64 u.p] 43)
            have BU := BlockIs.new w7 43 #[.int .i64 u.c, .int .i64 u.m, .int .i64 u.p]
            generalize w7.alloc (.cells #[.int .i64 u.c, .int .i64 u.m, .int .i64 u.p] 43) = X at hX3 hC8 BC BU ⊢
            obtain ⟨hb7, -, -, ⟨-, -, q2, q3, q4, -, -, -⟩, -, -, p2, p3, p4, -, -⟩ := HS7.out
            have hX6 := below_of hb7 hX3
            have HN8 := Lib.hid (And.intro (cellK hX6 q2) (And.intro (cellK hX6 q3) (cellK hX6 q4)))
            have HK := Lib.hid (show ∀ w', Below X.heap.size X w' → (fun w' => Below X.heap.size X w' ∧ (∀ o, w'.cell? ⟨w.heap.size, o, none⟩ = (#[.slice (some ⟨bt, ot, none⟩) c.tasks.length e0, .slice (some ⟨bn, on, none⟩) c.nodes.length e1, .slice D2 c.binds.length e2] : Array Value)[o]?) ∧ (∀ o, w'.cell? ⟨w7.heap.size, o, none⟩ = (#[.int .i64 u.c, .int .i64 u.m, .int .i64 u.p] : Array Value)[o]?) ∧ w'.cell? ⟨bt, ot + i * 7 + 2, none⟩ = some (.int .i64 t.need.c) ∧ w'.cell? ⟨bt, ot + i * 7 + 3, none⟩ = some (.int .i64 t.need.m) ∧ w'.cell? ⟨bt, ot + i * 7 + 4, none⟩ = some (.int .i64 t.need.p)) w' from
              fun w' hb => ⟨hb, (BC.below hb BC.lt).cell, (BU.below hb BU.lt).cell, cellK hb (cellK hX6 p2), cellK hb (cellK hX6 p3), cellK hb (cellK hX6 p4)⟩)
            have HBC8 := Lib.hid BC
            have had := fun w1 => sResAdd_any u t.need w1
            have hR2 : r = resShare (resAdd u t.need) n.cap := by rw [HR.out]; rfl
            generalize resAdd u t.need = sm at had hR2
            generalize resAddOk u t.need = so at had
            have hsh := fun w1 => sResShare_any sm n.cap w1
            generalize resShare sm n.cap = sh at hsh hR2
            have HAD := Lib.hid had
            have HSH := Lib.hid hsh
            have HR2 := Lib.hid hR2
            clear had hsh hR2 HS7 HBC7 hC7 hb7 q2 q3 q4 p2 p3 p4 hX6 hX3 BC BU HR HUS
            go_cut [11] (fun s11 wx => PutAt X sm s11 wx)
            case first =>
              go_region_held3 (fun w' => Below X.heap.size X w' ∧ (∀ o, w'.cell? ⟨w.heap.size, o, none⟩ = (#[.slice (some ⟨bt, ot, none⟩) c.tasks.length e0, .slice (some ⟨bn, on, none⟩) c.nodes.length e1, .slice D2 c.binds.length e2] : Array Value)[o]?) ∧ (∀ o, w'.cell? ⟨w7.heap.size, o, none⟩ = (#[.int .i64 u.c, .int .i64 u.m, .int .i64 u.p] : Array Value)[o]?) ∧ w'.cell? ⟨bt, ot + i * 7 + 2, none⟩ = some (.int .i64 t.need.c) ∧ w'.cell? ⟨bt, ot + i * 7 + 3, none⟩ = some (.int .i64 t.need.m) ∧ w'.cell? ⟨bt, ot + i * 7 + 4, none⟩ = some (.int .i64 t.need.p))
                (exact HK.out _ (by repeat' (first | exact Below.refl _ _ | refine Below.alloc ?_ ?_ _ | refine Below.setCell ?_ ?_ _ | refine Below.drew ?_ | (apply below_step; assumption) | (simp; done) | (simp; omega) | omega)))
                (first | (go_at_call 152; refine (HAD.out _).mono ?_; rintro e w9 ⟨rfl, hb9⟩; obtain ⟨hc9, hf9⟩ := bcell hb9; have hl9 := blt hb9; (first | have hm9 := (blast hb9).2.2 | have hm9 := (blastd hb9).2.2 | have hm9 := True.intro); (try simp at hm9); have hz9 := hb9.size; try simp at hz9))
              all_goals
                go_wp2_with fail
                go_meet
                exact ⟨_, rfl, by (first | (simp; done) | (go_simp; done)), by (first | (simp; done) | (go_simp; done)), by (first | (simp; done) | (go_simp; done)), (by repeat' (first | exact Below.refl _ _ | refine Below.alloc ?_ ?_ _ | refine Below.setCell ?_ ?_ _ | refine Below.drew ?_ | (apply below_step; assumption) | (simp; done) | (simp; omega) | omega))⟩
            case rest =>
              obtain ⟨g11, rfl, y0, y1, y2, hD⟩ := hcut
              have hC9 := below_of hC8 hD
              have BC := HBC8.out.below hD HBC8.out.lt
              have HK9 := Lib.hid (show ∀ w', Below wc.heap.size wc w' → (fun w' => Below wc.heap.size wc w' ∧ (∀ o, w'.cell? ⟨w.heap.size, o, none⟩ = (#[.slice (some ⟨bt, ot, none⟩) c.tasks.length e0, .slice (some ⟨bn, on, none⟩) c.nodes.length e1, .slice D2 c.binds.length e2] : Array Value)[o]?) ∧ w'.cell? ⟨g11, 0, none⟩ = some (.int .i64 sm.c) ∧ w'.cell? ⟨g11, 1, none⟩ = some (.int .i64 sm.m) ∧ w'.cell? ⟨g11, 2, none⟩ = some (.int .i64 sm.p) ∧ w'.cell? ⟨bn, on + j * 8 + 2, none⟩ = some (.int .i64 n.cap.c) ∧ w'.cell? ⟨bn, on + j * 8 + 3, none⟩ = some (.int .i64 n.cap.m) ∧ w'.cell? ⟨bn, on + j * 8 + 4, none⟩ = some (.int .i64 n.cap.p)) w' from
                fun w' hb => ⟨hb, (BC.below hb BC.lt).cell, cellK hb y0, cellK hb y1, cellK hb y2, cellK hb (cellK hD HN8.out.1), cellK hb (cellK hD HN8.out.2.1), cellK hb (cellK hD HN8.out.2.2)⟩)
              clear HK HBC8 BC y0 y1 y2 HAD HN8
              go_wp2_with fail
              refine wp_region_held_drew (S := (fun w' => Below wc.heap.size wc w' ∧ (∀ o, w'.cell? ⟨w.heap.size, o, none⟩ = (#[.slice (some ⟨bt, ot, none⟩) c.tasks.length e0, .slice (some ⟨bn, on, none⟩) c.nodes.length e1, .slice D2 c.binds.length e2] : Array Value)[o]?) ∧ w'.cell? ⟨g11, 0, none⟩ = some (.int .i64 sm.c) ∧ w'.cell? ⟨g11, 1, none⟩ = some (.int .i64 sm.m) ∧ w'.cell? ⟨g11, 2, none⟩ = some (.int .i64 sm.p) ∧ w'.cell? ⟨bn, on + j * 8 + 2, none⟩ = some (.int .i64 n.cap.c) ∧ w'.cell? ⟨bn, on + j * 8 + 3, none⟩ = some (.int .i64 n.cap.m) ∧ w'.cell? ⟨bn, on + j * 8 + 4, none⟩ = some (.int .i64 n.cap.p))) (by kernel_rfl) (by (try dsimp only); exact HK9.out _ (by repeat' (first | exact Below.refl _ _ | refine Below.alloc ?_ ?_ _ | refine Below.setCell ?_ ?_ _ | refine Below.drew ?_ | (apply below_step; assumption) | (simp; done) | (simp; omega) | omega))) (fun hHeld => ?_)
              refine hTake (i := 0) (oi := ?a202) (v := ?f202) (d := ?g202) ?b202 ?c202 (by kernel_rfl) ?d202 ?e202 ?h202 (by assumption) ?_; (case b202 => simp only [rhN]; try rfl); (case c202 => (try dsimp only); rfl); (case e202 => rfl); (case d202 => exact fun _ _ _ h => h); (case h202 => intro w hSw; (try dsimp only at hSw); go_simp <;> with_reducible rfl); simp only [Act.put, rhA, rhS, rhT]
              refine hTake (i := 1) (oi := ?a203) (v := ?f203) (d := ?g203) ?b203 ?c203 (by kernel_rfl) ?d203 ?e203 ?h203 (by assumption) ?_; (case b203 => simp only [rhN, rhM]; try rfl); (case c203 => (try dsimp only); rfl); (case e203 => rfl); (case d203 => exact fun _ _ _ h => h); (case h203 => intro w hSw; (try dsimp only at hSw); go_simp <;> with_reducible rfl); simp only [Act.put, rhA, rhS, rhT]
              refine hTake (i := 2) (oi := ?a204) (v := ?f204) (d := ?g204) ?b204 ?c204 (by kernel_rfl) ?d204 ?e204 ?h204 (by assumption) ?_; (case b204 => simp only [rhN, rhM]; try rfl); (case c204 => (try dsimp only); rfl); (case e204 => rfl); (case d204 => exact fun _ _ _ h => h); (case h204 => intro w hSw; (try dsimp only at hSw); go_simp <;> with_reducible rfl); simp only [Act.put, rhA, rhS, rhT]
              refine hTake (i := 3) (oi := ?a205) (v := ?f205) (d := ?g205) ?b205 ?c205 (by kernel_rfl) ?d205 ?e205 ?h205 (by assumption) ?_; (case b205 => simp only [rhN, rhM]; try rfl); (case c205 => (try dsimp only); rfl); (case e205 => rfl); (case d205 => exact fun _ _ _ h => h); (case h205 => intro w hSw; (try dsimp only at hSw); go_simp <;> with_reducible rfl); simp only [Act.put, rhA, rhS, rhT]
              refine hTake (i := 4) (oi := ?a206) (v := ?f206) (d := ?g206) ?b206 ?c206 (by kernel_rfl) ?d206 ?e206 ?h206 (by assumption) ?_; (case b206 => simp only [rhN, rhM]; try rfl); (case c206 => (try dsimp only); rfl); (case e206 => rfl); (case d206 => exact fun _ _ _ h => h); (case h206 => intro w hSw; (try dsimp only at hSw); go_simp <;> with_reducible rfl); simp only [Act.put, rhA, rhS, rhT]
              refine hTake (i := 5) (oi := ?a207) (v := ?f207) (d := ?g207) ?b207 ?c207 (by kernel_rfl) ?d207 ?e207 ?h207 (by assumption) ?_; (case b207 => simp only [rhN, rhM]; try rfl); (case c207 => (try dsimp only); rfl); (case e207 => rfl); (case d207 => exact fun _ _ _ h => h); (case h207 => intro w hSw; (try dsimp only at hSw); go_simp <;> with_reducible rfl); simp only [Act.put, rhA, rhS, rhT]
              refine hTake (i := 6) (oi := ?a208) (v := ?f208) (d := ?g208) ?b208 ?c208 (by kernel_rfl) ?d208 ?e208 ?h208 (by assumption) ?_; (case b208 => simp only [rhN, rhM]; try rfl); (case c208 => (try dsimp only); rfl); (case e208 => rfl); (case d208 => exact fun _ _ _ h => h); (case h208 => intro w hSw; (try dsimp only at hSw); go_simp <;> with_reducible rfl); simp only [Act.put, rhA, rhS, rhT]
              refine hCall (i := 7) (o := ?a209) ?b209 (by kernel_rfl) ?c209 (fun K hK => ?d209)
              case b209 => simp only [rhN, rhM]; try rfl
              case c209 => rfl
              go_simp
              refine (HSH.out _).mono ?_
              rintro e w10 ⟨rfl, hb10⟩
              have hz10 := hb10.size
              (try simp at hz10)
              go_wp2_with fail
              refine hK.out _ _ (by (try dsimp only); exact HK9.out _ (by repeat' (first | exact Below.refl _ _ | refine Below.alloc ?_ ?_ _ | refine Below.setCell ?_ ?_ _ | refine Below.drew ?_ | (apply below_step; assumption) | (simp; done) | (simp; omega) | omega))) (fun hHeld => ?_)
              clear hK K
              try simp only [Act.put, rhA, rhS, rhT]
              refine hTake (i := 8) (oi := ?a211) (v := ?f211) (d := ?g211) ?b211 ?c211 (by kernel_rfl) ?d211 ?e211 ?h211 (by assumption) ?_; (case b211 => simp only [rhN, rhM]; try rfl); (case c211 => (try dsimp only); rfl); (case e211 => rfl); (case d211 => exact fun _ _ _ h => h); (case h211 => intro w hSw; (try dsimp only at hSw); go_simp <;> with_reducible rfl); simp only [Act.put, rhA, rhS, rhT]
              refine wpAnyH_done (by kernel_rfl) ?_ _
              go_wp2_with fail
              go_ret
              exact ⟨by rw [HR2.out]; rfl, below_of hC9 (by repeat' (first | exact Below.refl _ _ | refine Below.alloc ?_ ?_ _ | refine Below.setCell ?_ ?_ _ | refine Below.drew ?_ | (apply below_step; assumption) | (simp; done) | (simp; omega) | omega))⟩
      · go_wp2_with fail
        refine wp_region_held_drew (S := (fun w' => Below w3.heap.size w3 w' ∧ (∀ o, w'.cell? ⟨w.heap.size, o, none⟩ = (#[.slice (some ⟨bt, ot, none⟩) c.tasks.length e0, .slice (some ⟨bn, on, none⟩) c.nodes.length e1, .slice D2 c.binds.length e2] : Array Value)[o]?) ∧ (w'.cell? ⟨bn, on + j * 8, none⟩ = some (.int .i64 n.id) ∧ w'.cell? ⟨bn, on + j * 8 + 1, none⟩ = some (.int .i64 n.pool) ∧ w'.cell? ⟨bn, on + j * 8 + 2, none⟩ = some (.int .i64 n.cap.c) ∧ w'.cell? ⟨bn, on + j * 8 + 3, none⟩ = some (.int .i64 n.cap.m) ∧ w'.cell? ⟨bn, on + j * 8 + 4, none⟩ = some (.int .i64 n.cap.p) ∧ w'.cell? ⟨bn, on + j * 8 + 5, none⟩ = some (.slice A1 n.labs.length c1) ∧ w'.cell? ⟨bn, on + j * 8 + 6, none⟩ = some (.slice A2 n.taints.length c2) ∧ w'.cell? ⟨bn, on + j * 8 + 7, none⟩ = some (.bool true)) ∧ w'.cell? ⟨bt, ot + i * 7, none⟩ = some (.int .i64 t.id) ∧ w'.cell? ⟨bt, ot + i * 7 + 1, none⟩ = some (.int .i64 t.prio) ∧ w'.cell? ⟨bt, ot + i * 7 + 2, none⟩ = some (.int .i64 t.need.c) ∧ w'.cell? ⟨bt, ot + i * 7 + 3, none⟩ = some (.int .i64 t.need.m) ∧ w'.cell? ⟨bt, ot + i * 7 + 4, none⟩ = some (.int .i64 t.need.p) ∧ w'.cell? ⟨bt, ot + i * 7 + 5, none⟩ = some (.slice B1 t.want.length d1) ∧ w'.cell? ⟨bt, ot + i * 7 + 6, none⟩ = some (.slice B2 t.tols.length d2))) (by kernel_rfl) (by (try dsimp only); exact HK.out _ (by repeat' (first | exact Below.refl _ _ | refine Below.alloc ?_ ?_ _ | refine Below.setCell ?_ ?_ _ | refine Below.drew ?_ | (apply below_step; assumption) | (simp; done) | (simp; omega) | omega))) (fun hHeld => ?_)
        refine hTake (i := 0) (oi := ?a213) (v := ?f213) (d := ?g213) ?b213 ?c213 (by kernel_rfl) ?d213 ?e213 ?h213 (by assumption) ?_; (case b213 => simp only [rhN]; try rfl); (case c213 => (try dsimp only); rfl); (case e213 => rfl); (case d213 => exact fun _ _ _ h => h); (case h213 => intro w hSw; (try dsimp only at hSw); go_simp <;> with_reducible rfl); simp only [Act.put, rhA, rhS, rhT]
        refine hTake (i := 1) (oi := ?a214) (v := ?f214) (d := ?g214) ?b214 ?c214 (by kernel_rfl) ?d214 ?e214 ?h214 (by assumption) ?_; (case b214 => simp only [rhN, rhM]; try rfl); (case c214 => (try dsimp only); rfl); (case e214 => rfl); (case d214 => exact fun _ _ _ h => h); (case h214 => intro w hSw; (try dsimp only at hSw); go_simp <;> with_reducible rfl); simp only [Act.put, rhA, rhS, rhT]
        refine hTake (i := 2) (oi := ?a215) (v := ?f215) (d := ?g215) ?b215 ?c215 (by kernel_rfl) ?d215 ?e215 ?h215 (by assumption) ?_; (case b215 => simp only [rhN, rhM]; try rfl); (case c215 => (try dsimp only); rfl); (case e215 => rfl); (case d215 => exact fun _ _ _ h => h); (case h215 => intro w hSw; (try dsimp only at hSw); go_simp <;> with_reducible rfl); simp only [Act.put, rhA, rhS, rhT]
        refine hTake (i := 3) (oi := ?a216) (v := ?f216) (d := ?g216) ?b216 ?c216 (by kernel_rfl) ?d216 ?e216 ?h216 (by assumption) ?_; (case b216 => simp only [rhN, rhM]; try rfl); (case c216 => (try dsimp only); rfl); (case e216 => rfl); (case d216 => exact fun _ _ _ h => h); (case h216 => intro w hSw; (try dsimp only at hSw); go_simp <;> with_reducible rfl); simp only [Act.put, rhA, rhS, rhT]
        refine hTake (i := 4) (oi := ?a217) (v := ?f217) (d := ?g217) ?b217 ?c217 (by kernel_rfl) ?d217 ?e217 ?h217 (by assumption) ?_; (case b217 => simp only [rhN, rhM]; try rfl); (case c217 => (try dsimp only); rfl); (case e217 => rfl); (case d217 => exact fun _ _ _ h => h); (case h217 => intro w hSw; (try dsimp only at hSw); go_simp <;> with_reducible rfl); simp only [Act.put, rhA, rhS, rhT]
        refine hTake (i := 5) (oi := ?a218) (v := ?f218) (d := ?g218) ?b218 ?c218 (by kernel_rfl) ?d218 ?e218 ?h218 (by assumption) ?_; (case b218 => simp only [rhN, rhM]; try rfl); (case c218 => (try dsimp only); rfl); (case e218 => rfl); (case d218 => exact fun _ _ _ h => h); (case h218 => intro w hSw; (try dsimp only at hSw); go_simp <;> with_reducible rfl); simp only [Act.put, rhA, rhS, rhT]
        refine hTake (i := 6) (oi := ?a219) (v := ?f219) (d := ?g219) ?b219 ?c219 (by kernel_rfl) ?d219 ?e219 ?h219 (by assumption) ?_; (case b219 => simp only [rhN, rhM]; try rfl); (case c219 => (try dsimp only); rfl); (case e219 => rfl); (case d219 => exact fun _ _ _ h => h); (case h219 => intro w hSw; (try dsimp only at hSw); go_simp <;> with_reducible rfl); simp only [Act.put, rhA, rhS, rhT]
        refine hTake (i := 7) (oi := ?a220) (v := ?f220) (d := ?g220) ?b220 ?c220 (by kernel_rfl) ?d220 ?e220 ?h220 (by assumption) ?_; (case b220 => simp only [rhN, rhM]; try rfl); (case c220 => (try dsimp only); rfl); (case e220 => rfl); (case d220 => exact fun _ _ _ h => h); (case h220 => intro w hSw; (try dsimp only at hSw); go_simp <;> with_reducible rfl); simp only [Act.put, rhA, rhS, rhT]
        refine hTake (i := 8) (oi := ?a221) (v := ?f221) (d := ?g221) ?b221 ?c221 (by kernel_rfl) ?d221 ?e221 ?h221 (by assumption) ?_; (case b221 => simp only [rhN, rhM]; try rfl); (case c221 => (try dsimp only); rfl); (case e221 => rfl); (case d221 => exact fun _ _ _ h => h); (case h221 => intro w hSw; (try dsimp only at hSw); go_simp <;> with_reducible rfl); simp only [Act.put, rhA, rhS, rhT]
        refine hTake (i := 9) (oi := ?a222) (v := ?f222) (d := ?g222) ?b222 ?c222 (by kernel_rfl) ?d222 ?e222 ?h222 (by assumption) ?_; (case b222 => simp only [rhN, rhM]; try rfl); (case c222 => (try dsimp only); rfl); (case e222 => rfl); (case d222 => exact fun _ _ _ h => h); (case h222 => intro w hSw; (try dsimp only at hSw); go_simp <;> with_reducible rfl); simp only [Act.put, rhA, rhS, rhT]
        refine hTake (i := 10) (oi := ?a223) (v := ?f223) (d := ?g223) ?b223 ?c223 (by kernel_rfl) ?d223 ?e223 ?h223 (by assumption) ?_; (case b223 => simp only [rhN, rhM]; try rfl); (case c223 => (try dsimp only); rfl); (case e223 => rfl); (case d223 => exact fun _ _ _ h => h); (case h223 => intro w hSw; (try dsimp only at hSw); go_simp <;> with_reducible rfl); simp only [Act.put, rhA, rhS, rhT]
        refine hTake (i := 11) (oi := ?a224) (v := ?f224) (d := ?g224) ?b224 ?c224 (by kernel_rfl) ?d224 ?e224 ?h224 (by assumption) ?_; (case b224 => simp only [rhN, rhM]; try rfl); (case c224 => (try dsimp only); rfl); (case e224 => rfl); (case d224 => exact fun _ _ _ h => h); (case h224 => intro w hSw; (try dsimp only at hSw); go_simp <;> with_reducible rfl); simp only [Act.put, rhA, rhS, rhT]
        refine hTake (i := 12) (oi := ?a225) (v := ?f225) (d := ?g225) ?b225 ?c225 (by kernel_rfl) ?d225 ?e225 ?h225 (by assumption) ?_; (case b225 => simp only [rhN, rhM]; try rfl); (case c225 => (try dsimp only); rfl); (case e225 => rfl); (case d225 => exact fun _ _ _ h => h); (case h225 => intro w hSw; (try dsimp only at hSw); go_simp <;> with_reducible rfl); simp only [Act.put, rhA, rhS, rhT]
        refine hTake (i := 13) (oi := ?a226) (v := ?f226) (d := ?g226) ?b226 ?c226 (by kernel_rfl) ?d226 ?e226 ?h226 (by assumption) ?_; (case b226 => simp only [rhN, rhM]; try rfl); (case c226 => (try dsimp only); rfl); (case e226 => rfl); (case d226 => exact fun _ _ _ h => h); (case h226 => intro w hSw; (try dsimp only at hSw); go_simp <;> with_reducible rfl); simp only [Act.put, rhA, rhS, rhT]
        refine hTake (i := 14) (oi := ?a227) (v := ?f227) (d := ?g227) ?b227 ?c227 (by kernel_rfl) ?d227 ?e227 ?h227 (by assumption) ?_; (case b227 => simp only [rhN, rhM]; try rfl); (case c227 => (try dsimp only); rfl); (case e227 => rfl); (case d227 => exact fun _ _ _ h => h); (case h227 => intro w hSw; (try dsimp only at hSw); go_simp <;> with_reducible rfl); simp only [Act.put, rhA, rhS, rhT]
        refine hSkip (i := 15) (oi := ?a229) (d := ?g229) ?b229 ?c229 (by kernel_rfl) ?d229 ?e229 (by assumption) ?_; (case b229 => simp only [rhN, rhM]; try rfl); (case c229 => (try dsimp only); rfl); (case e229 => rfl); (case d229 => exact fun _ _ _ h => h); simp only [Act.put, rhA, rhS, rhT]
        refine hSkip (i := 16) (oi := ?a230) (d := ?g230) ?b230 ?c230 (by kernel_rfl) ?d230 ?e230 (by assumption) ?_; (case b230 => simp only [rhN, rhM]; try rfl); (case c230 => (try dsimp only); rfl); (case e230 => rfl); (case d230 => exact fun _ _ _ h => h); simp only [Act.put, rhA, rhS, rhT]
        refine hSkip (i := 17) (oi := ?a231) (d := ?g231) ?b231 ?c231 (by kernel_rfl) ?d231 ?e231 (by assumption) ?_; (case b231 => simp only [rhN, rhM]; try rfl); (case c231 => (try dsimp only); rfl); (case e231 => rfl); (case d231 => exact fun _ _ _ h => h); simp only [Act.put, rhA, rhS, rhT]
        refine hSkip (i := 18) (oi := ?a232) (d := ?g232) ?b232 ?c232 (by kernel_rfl) ?d232 ?e232 (by assumption) ?_; (case b232 => simp only [rhN, rhM]; try rfl); (case c232 => (try dsimp only); rfl); (case e232 => rfl); (case d232 => exact fun _ _ _ h => h); simp only [Act.put, rhA, rhS, rhT]
        refine hSkip (i := 19) (oi := ?a233) (d := ?g233) ?b233 ?c233 (by kernel_rfl) ?d233 ?e233 (by assumption) ?_; (case b233 => simp only [rhN, rhM]; try rfl); (case c233 => (try dsimp only); rfl); (case e233 => rfl); (case d233 => exact fun _ _ _ h => h); simp only [Act.put, rhA, rhS, rhT]
        refine hSkip (i := 20) (oi := ?a234) (d := ?g234) ?b234 ?c234 (by kernel_rfl) ?d234 ?e234 (by assumption) ?_; (case b234 => simp only [rhN, rhM]; try rfl); (case c234 => (try dsimp only); rfl); (case e234 => rfl); (case d234 => exact fun _ _ _ h => h); simp only [Act.put, rhA, rhS, rhT]
        refine hSkip (i := 21) (oi := ?a235) (d := ?g235) ?b235 ?c235 (by kernel_rfl) ?d235 ?e235 (by assumption) ?_; (case b235 => simp only [rhN, rhM]; try rfl); (case c235 => (try dsimp only); rfl); (case e235 => rfl); (case d235 => exact fun _ _ _ h => h); simp only [Act.put, rhA, rhS, rhT]
        refine hSkip (i := 22) (oi := ?a236) (d := ?g236) ?b236 ?c236 (by kernel_rfl) ?d236 ?e236 (by assumption) ?_; (case b236 => simp only [rhN, rhM]; try rfl); (case c236 => (try dsimp only); rfl); (case e236 => rfl); (case d236 => exact fun _ _ _ h => h); simp only [Act.put, rhA, rhS, rhT]
        refine hSkip (i := 23) (oi := ?a237) (d := ?g237) ?b237 ?c237 (by kernel_rfl) ?d237 ?e237 (by assumption) ?_; (case b237 => simp only [rhN, rhM]; try rfl); (case c237 => (try dsimp only); rfl); (case e237 => rfl); (case d237 => exact fun _ _ _ h => h); simp only [Act.put, rhA, rhS, rhT]
        refine hSkip (i := 24) (oi := ?a238) (d := ?g238) ?b238 ?c238 (by kernel_rfl) ?d238 ?e238 (by assumption) ?_; (case b238 => simp only [rhN, rhM]; try rfl); (case c238 => (try dsimp only); rfl); (case e238 => rfl); (case d238 => exact fun _ _ _ h => h); simp only [Act.put, rhA, rhS, rhT]
        refine hSkip (i := 25) (oi := ?a239) (d := ?g239) ?b239 ?c239 (by kernel_rfl) ?d239 ?e239 (by assumption) ?_; (case b239 => simp only [rhN, rhM]; try rfl); (case c239 => (try dsimp only); rfl); (case e239 => rfl); (case d239 => exact fun _ _ _ h => h); simp only [Act.put, rhA, rhS, rhT]
        refine hSkip (i := 26) (oi := ?a240) (d := ?g240) ?b240 ?c240 (by kernel_rfl) ?d240 ?e240 (by assumption) ?_; (case b240 => simp only [rhN, rhM]; try rfl); (case c240 => (try dsimp only); rfl); (case e240 => rfl); (case d240 => exact fun _ _ _ h => h); simp only [Act.put, rhA, rhS, rhT]
        refine hTake (i := 27) (oi := ?a242) (v := ?f242) (d := ?g242) ?b242 ?c242 (by kernel_rfl) ?d242 ?e242 ?h242 (by assumption) ?_; (case b242 => simp only [rhN, rhM]; try rfl); (case c242 => (try dsimp only); rfl); (case e242 => rfl); (case d242 => exact fun _ _ _ h => h); (case h242 => intro w hSw; (try dsimp only at hSw); go_simp <;> with_reducible rfl); simp only [Act.put, rhA, rhS, rhT]
        refine hTake (i := 28) (oi := ?a244) (v := ?f244) (d := ?g244) ?b244 ?c244 (by kernel_rfl) ?d244 ?e244 ?h244 (by assumption) ?_; (case b244 => simp only [rhN, rhM]; try rfl); (case c244 => (try dsimp only); rfl); (case e244 => rfl); (case d244 => exact fun _ _ _ h => h); (case h244 => intro w hSw; (try dsimp only at hSw); go_simp <;> with_reducible rfl); simp only [Act.put, rhA, rhS, rhT]
        refine hSkip (i := 29) (oi := ?a246) (d := ?g246) ?b246 ?c246 (by kernel_rfl) ?d246 ?e246 (by assumption) ?_; (case b246 => simp only [rhN, rhM]; try rfl); (case c246 => (try dsimp only); rfl); (case e246 => rfl); (case d246 => exact fun _ _ _ h => h); simp only [Act.put, rhA, rhS, rhT]
        refine hSkip (i := 30) (oi := ?a247) (d := ?g247) ?b247 ?c247 (by kernel_rfl) ?d247 ?e247 (by assumption) ?_; (case b247 => simp only [rhN, rhM]; try rfl); (case c247 => (try dsimp only); rfl); (case e247 => rfl); (case d247 => exact fun _ _ _ h => h); simp only [Act.put, rhA, rhS, rhT]
        refine hSkip (i := 31) (oi := ?a248) (d := ?g248) ?b248 ?c248 (by kernel_rfl) ?d248 ?e248 (by assumption) ?_; (case b248 => simp only [rhN, rhM]; try rfl); (case c248 => (try dsimp only); rfl); (case e248 => rfl); (case d248 => exact fun _ _ _ h => h); simp only [Act.put, rhA, rhS, rhT]
        refine hSkip (i := 32) (oi := ?a249) (d := ?g249) ?b249 ?c249 (by kernel_rfl) ?d249 ?e249 (by assumption) ?_; (case b249 => simp only [rhN, rhM]; try rfl); (case c249 => (try dsimp only); rfl); (case e249 => rfl); (case d249 => exact fun _ _ _ h => h); simp only [Act.put, rhA, rhS, rhT]
        refine hSkip (i := 33) (oi := ?a250) (d := ?g250) ?b250 ?c250 (by kernel_rfl) ?d250 ?e250 (by assumption) ?_; (case b250 => simp only [rhN, rhM]; try rfl); (case c250 => (try dsimp only); rfl); (case e250 => rfl); (case d250 => exact fun _ _ _ h => h); simp only [Act.put, rhA, rhS, rhT]
        refine hSkip (i := 34) (oi := ?a251) (d := ?g251) ?b251 ?c251 (by kernel_rfl) ?d251 ?e251 (by assumption) ?_; (case b251 => simp only [rhN, rhM]; try rfl); (case c251 => (try dsimp only); rfl); (case e251 => rfl); (case d251 => exact fun _ _ _ h => h); simp only [Act.put, rhA, rhS, rhT]
        refine hSkip (i := 35) (oi := ?a252) (d := ?g252) ?b252 ?c252 (by kernel_rfl) ?d252 ?e252 (by assumption) ?_; (case b252 => simp only [rhN, rhM]; try rfl); (case c252 => (try dsimp only); rfl); (case e252 => rfl); (case d252 => exact fun _ _ _ h => h); simp only [Act.put, rhA, rhS, rhT]
        refine hSkip (i := 36) (oi := ?a253) (d := ?g253) ?b253 ?c253 (by kernel_rfl) ?d253 ?e253 (by assumption) ?_; (case b253 => simp only [rhN, rhM]; try rfl); (case c253 => (try dsimp only); rfl); (case e253 => rfl); (case d253 => exact fun _ _ _ h => h); simp only [Act.put, rhA, rhS, rhT]
        refine hSkip (i := 37) (oi := ?a254) (d := ?g254) ?b254 ?c254 (by kernel_rfl) ?d254 ?e254 (by assumption) ?_; (case b254 => simp only [rhN, rhM]; try rfl); (case c254 => (try dsimp only); rfl); (case e254 => rfl); (case d254 => exact fun _ _ _ h => h); simp only [Act.put, rhA, rhS, rhT]
        refine hSkip (i := 38) (oi := ?a255) (d := ?g255) ?b255 ?c255 (by kernel_rfl) ?d255 ?e255 (by assumption) ?_; (case b255 => simp only [rhN, rhM]; try rfl); (case c255 => (try dsimp only); rfl); (case e255 => rfl); (case d255 => exact fun _ _ _ h => h); simp only [Act.put, rhA, rhS, rhT]
        refine hSkip (i := 39) (oi := ?a256) (d := ?g256) ?b256 ?c256 (by kernel_rfl) ?d256 ?e256 (by assumption) ?_; (case b256 => simp only [rhN, rhM]; try rfl); (case c256 => (try dsimp only); rfl); (case e256 => rfl); (case d256 => exact fun _ _ _ h => h); simp only [Act.put, rhA, rhS, rhT]
        refine hTake (i := 40) (oi := ?a258) (v := ?f258) (d := ?g258) ?b258 ?c258 (by kernel_rfl) ?d258 ?e258 ?h258 (by assumption) ?_; (case b258 => simp only [rhN, rhM]; try rfl); (case c258 => (try dsimp only); rfl); (case e258 => rfl); (case d258 => exact fun _ _ _ h => h); (case h258 => intro w hSw; (try dsimp only at hSw); go_simp <;> with_reducible rfl); simp only [Act.put, rhA, rhS, rhT]
        refine wpAnyH_done (by kernel_rfl) ?_ _
        go_wp2_with fail
        go_ret
        exact ⟨by rw [HR.out]; rfl, below_of hC3 (by repeat' (first | exact Below.refl _ _ | refine Below.alloc ?_ ?_ _ | refine Below.setCell ?_ ?_ _ | refine Below.drew ?_ | (apply below_step; assumption) | (simp; done) | (simp; omega) | omega))⟩

set_option maxHeartbeats 1600000 in
theorem sScore_any (c : CV) (a0 a1 a2 : Value) (nz tz : Int) (w : World) (hc : CluR w c a0 a1 a2) :
    Calls Tryz.prog 50 #[.agg #[a0, a1, a2], .int .i64 nz, .int .i64 tz] w fun e w' => e = .returned (.int .i64 (scoreG c nz tz)) ∧ Below w.heap.size w w' := by
  have hok := fun w1 hw1 => sClusterOk_any c a0 a1 a2 w1 (hc.below hw1)
  have hso := fun (h : clusterOk c = true) w1 hw1 => l04Score_any c a0 a1 a2 nz tz w1 (hc.below hw1) h
  have hno : clusterOk c = false → scoreG c nz tz = -1 := fun h => by
    unfold scoreG
    cases fstBy NV.id c.nodes nz with
    | none => rfl
    | some n => cases fstBy TV.id c.tasks tz with
      | none => rfl
      | some t => simp [h]
  have heq := fun (h : clusterOk c = true) => scoreM_eq h nz tz
  obtain ⟨D0, D1, D2, e0, e1, e2, rfl, rfl, rfl, _⟩ := hc.full
  cases ho : clusterOk c
  all_goals
    rw [ho] at hok
    have HOK := Lib.hid hok
    have HSO := Lib.hid (hso)
    have HO := Lib.hid ho
    have HNO := Lib.hid hno
    have HEQ := Lib.hid heq
    clear hok hso ho hno heq hc
    go_enter Tryz.func50, Tryz.ntmps50
    go_wp2_with fail
    have hX : Below w.heap.size w (w.alloc (.cells #[.slice D0 c.tasks.length e0, .slice D1 c.nodes.length e1, .slice D2 c.binds.length e2] 39)) := (by repeat' (first | exact Below.refl _ _ | refine Below.alloc ?_ ?_ _ | refine Below.setCell ?_ ?_ _ | refine Below.drew ?_ | (apply below_step; assumption) | (simp; done) | (simp; omega) | omega))
    refine (HOK.out _ hX).mono ?_
    rintro e w2 ⟨rfl, hb2⟩
    have hC2 := below_of hX hb2
    have BC := (BlockIs.new w 39 #[.slice D0 c.tasks.length e0, .slice D1 c.nodes.length e1, .slice D2 c.binds.length e2]).below hb2 (by simp)
    have g0 := BC.cell 0
    have g1 := BC.cell 1
    have g2 := BC.cell 2
    have cl := BC.lt
    simp at g0 g1 g2
    clear BC hb2 hX
    go_wp2_with fail
  · go_ret
    exact ⟨by rw [HNO.out HO.out]; rfl, hC2⟩
  · refine (HSO.out HO.out _ hC2).mono ?_
    rintro e w3 ⟨rfl, hb3⟩
    have hC3 := below_of hC2 hb3
    go_wp2_with fail
    go_ret
    exact ⟨by rw [← HEQ.out HO.out]; rfl, hC3⟩
end Go.Proofs.YtflcacbpceinaaaGreatDoor

namespace Go.Proofs.YtflcacbpceinaaaGreatDoor
open Go.RowKit

/-- PutAt, and the block is a new one. -/
def PutAtL (X : World) (r : RV) (s5 : Value) (w' : World) : Prop := ∃ g5 : Nat, X.heap.size ≤ g5 ∧ s5 = .pointer (some ⟨g5, 0, none⟩) ∧ w'.cell? ⟨g5, 0, none⟩ = some (.int .i64 r.c) ∧ w'.cell? ⟨g5, 1, none⟩ = some (.int .i64 r.m) ∧ w'.cell? ⟨g5, 2, none⟩ = some (.int .i64 r.p) ∧ Below X.heap.size X w'
set_option maxHeartbeats 6400000 in
set_option maxRecDepth 20000 in
theorem sShares_any (c : CV) (a0 a1 a2 : Value) (w : World) (hc : CluR w c a0 a1 a2) :
    Calls Tryz.prog 52 #[.agg #[a0, a1, a2]] w (RetInts w (sharesV c)) := by
  have hok := fun w1 hw1 => sClusterOk_any c a0 a1 a2 w1 (hc.below hw1)
  have hus := fun (h : clusterOk c = true) z w1 hw1 => sUsed_any c a0 a1 a2 z w w1 hw1 hc (bindsFrom_all (clusterOk_binds h))
  have hE : sharesV c = if clusterOk c then c.nodes.map (shareN c) else [] := rfl
  obtain ⟨D0, D1, D2, e0, e1, e2, rfl, rfl, rfl, hF⟩ := hc.full
  have l1 := hF.l1
  have HF := Lib.hid hF
  have HUS := Lib.hid hus
  generalize hO : clusterOk c = ok at hok hE
  have HOO := Lib.hid hO
  have HE := Lib.hid hE
  have HOK := Lib.hid hok
  clear hok hus hE hF hc hO
  go_enter Tryz.func52, Tryz.ntmps52
  go_wp2_with fail
  have hX : Below w.heap.size w (w.alloc (.cells #[.slice D0 c.tasks.length e0, .slice D1 c.nodes.length e1, .slice D2 c.binds.length e2] 39)) := (by repeat' (first | exact Below.refl _ _ | refine Below.alloc ?_ ?_ _ | refine Below.setCell ?_ ?_ _ | refine Below.drew ?_ | (apply below_step; assumption) | (simp; done) | (simp; omega) | omega))
  have BX := BlockIs.new w 39 #[.slice D0 c.tasks.length e0, .slice D1 c.nodes.length e1, .slice D2 c.binds.length e2]
  have hXz' : w.heap.size + 1 = (w.alloc (.cells #[.slice D0 c.tasks.length e0, .slice D1 c.nodes.length e1, .slice D2 c.binds.length e2] 39)).heap.size := by simp
  generalize w.alloc (.cells #[.slice D0 c.tasks.length e0, .slice D1 c.nodes.length e1, .slice D2 c.binds.length e2] 39) = X at hX BX hXz' ⊢
  have HO : Hid (OwnsJ (X.alloc (.cells #[] 3)) X.heap.size (.slice (some ⟨w.heap.size + 1, 0, none⟩) 0 0) []) := by
    rw [hXz']
    exact World.ownsRow_made X #[] 0 (Nat.le_refl _) (by unfold maxLen; omega) rfl
  have HBX := Lib.hid BX
  clear BX hXz'
  go_loopw [3, 4] (fun s3 s4 wr => ∃ (k : Nat) (vl : Value), k ≤ c.nodes.length ∧ (ok = false → k = 0) ∧ s4 = .int .i64 k ∧ vl = s3 ∧ OwnsJ wr X.heap.size vl ((c.nodes.take k).map (shareN c)) ∧ Below X.heap.size X wr) (fun _ s4 _ => (c.nodes.length - intOf s4).toNat)
  case atStart => exact ⟨0, _, by omega, fun _ => rfl, rfl, rfl, by simpa using HO.out, (by repeat' (first | exact Below.refl _ _ | refine Below.alloc ?_ ?_ _ | refine Below.setCell ?_ ?_ _ | refine Below.drew ?_ | (apply below_step; assumption) | (simp; done) | (simp; omega) | omega))⟩
  case round =>
    obtain ⟨k, vl, hk, hk0, rfl, rfl, hown, hB⟩ := hrel
    have HOW := Lib.hid hown
    have HK0 := Lib.hid hk0
    have hCB := below_of hX hB
    have BC := HBX.out.below hB HBX.out.lt
    have q0 := BC.cell 0
    have q1 := BC.cell 1
    have q2 := BC.cell 2
    have cl := BC.lt
    have hzr := hB.size
    simp at q0 q1 q2
    have HBC := Lib.hid BC
    clear hown BC HO hk0
    go_wp2_with fail
    refine (HOK.out _ hCB).mono ?_
    rintro e w3 ⟨rfl, hb3⟩
    have hC3 := below_of hCB hb3
    have hX3 := below_of hB hb3
    have BC := HBC.out.below hb3 HBC.out.lt
    have q0 := BC.cell 0
    have q1 := BC.cell 1
    have q2 := BC.cell 2
    have cl := BC.lt
    have hz3 := hb3.size
    simp at q0 q1 q2
    have HBC3 := Lib.hid BC
    have HO3 := Lib.hid (HOW.out.below hb3 (Nat.le_refl _))
    clear BC hb3 HBC HOW hB hCB
    cases ok
    · go_wp2_with fail
      go_ret
      obtain rfl : k = 0 := by have := HK0.out; simpa using this
      exact ⟨_, rfl, by rw [HE.out]; simpa using HO3.out.lower hX.size, hC3⟩
    · by_cases hlt : k < c.nodes.length
      · obtain ⟨bn, on, rfl, hbn, hat⟩ := HF.out.hn (by omega)
        obtain ⟨n, hn⟩ : ∃ n, c.nodes[k]? = some n := ⟨_, List.getElem?_eq_getElem hlt⟩
        obtain ⟨cs, hR, hC⟩ := (hat.below NodeR.kept hC3 hbn) k n hn
        obtain ⟨u1, u2, rfl, k1, k2, m1, m2⟩ := hR
        obtain ⟨n0, n1, n2, n3, n4, n5, n6, n7⟩ := node_cells hC
        have HNT := Lib.hid (map_take_snoc (shareN c) hn)
        have hki : (k : Int) < (c.nodes.length : Int) := by omega
        have hk0 : (0 : Int) ≤ (k : Int) := by omega
        have hus := fun w1 hw1 => HUS.out HOO.out n.id w1 hw1
        have hSV : shareN c n = resShare (usedOf c n.id).1 n.cap := rfl
        generalize (usedOf c n.id).1 = u at hus hSV
        generalize (usedOf c n.id).2 = uo at hus
        have hsh := fun w1 => sResShare_any u n.cap w1
        generalize resShare u n.cap = sh at hsh hSV
        have HUN := Lib.hid hus
        have HSH := Lib.hid hsh
        have HSV := Lib.hid hSV
        have HN := Lib.hid (And.intro n2 (And.intro n3 n4))
        have HLN := Lib.hid (show ((c.nodes.take k).map (shareN c)).length ≤ 1048576 by rw [List.length_map, List.length_take]; omega)
        have HK := Lib.hid (show ∀ w', Below w3.heap.size w3 w' → (fun w' => Below w3.heap.size w3 w' ∧ (∀ o, w'.cell? ⟨w.heap.size, o, none⟩ = (#[.slice D0 c.tasks.length e0, .slice (some ⟨bn, on, none⟩) c.nodes.length e1, .slice D2 c.binds.length e2] : Array Value)[o]?) ∧ w'.cell? ⟨bn, on + k * 8, none⟩ = some (.int .i64 n.id)) w' from
          fun w' hb => ⟨hb, fun o => (hb.cell (p := ⟨_, _, none⟩) cl).trans (HBC3.out.cell o), cellK hb n0⟩)
        clear hat hC hn k1 k2 m1 m2 hus hsh hSV n0 n1 n2 n3 n4 n5 n6 n7
        go_upto_region 5 with fail
        clear q0 q1 q2
        go_cut [5] (fun s5 wx => PutAtL w3 u s5 wx)
        case first =>
          go_region_held3 (fun w' => Below w3.heap.size w3 w' ∧ (∀ o, w'.cell? ⟨w.heap.size, o, none⟩ = (#[.slice D0 c.tasks.length e0, .slice (some ⟨bn, on, none⟩) c.nodes.length e1, .slice D2 c.binds.length e2] : Array Value)[o]?) ∧ w'.cell? ⟨bn, on + k * 8, none⟩ = some (.int .i64 n.id))
            (exact HK.out _ (by repeat' (first | exact Below.refl _ _ | refine Below.alloc ?_ ?_ _ | refine Below.setCell ?_ ?_ _ | refine Below.drew ?_ | (apply below_step; assumption) | (simp; done) | (simp; omega) | omega)))
            (first | (go_at_call 100; refine (HUN.out _ (below_of hC3 (by repeat' (first | exact Below.refl _ _ | refine Below.alloc ?_ ?_ _ | refine Below.setCell ?_ ?_ _ | refine Below.drew ?_ | (apply below_step; assumption) | (simp; done) | (simp; omega) | omega)))).mono ?_; rintro e w9 ⟨rfl, hb9⟩; obtain ⟨hc9, hf9⟩ := bcell hb9; have hl9 := blt hb9; (first | have hm9 := (blast hb9).2.2 | have hm9 := (blastd hb9).2.2 | have hm9 := True.intro); (try simp at hm9); have hz9 := hb9.size; try simp at hz9))
          all_goals
            go_wp2_with fail
            go_meet
            exact ⟨_, by (first | (simp; done) | (simp; omega) | omega), rfl, by (first | (simp; done) | (go_simp; done)), by (first | (simp; done) | (go_simp; done)), by (first | (simp; done) | (go_simp; done)), (by repeat' (first | exact Below.refl _ _ | refine Below.alloc ?_ ?_ _ | refine Below.setCell ?_ ?_ _ | refine Below.drew ?_ | (apply below_step; assumption) | (simp; done) | (simp; omega) | omega))⟩
        case rest =>
          obtain ⟨g5, hg5, rfl, y0, y1, y2, hD⟩ := hcut
          have hC9 := below_of hC3 hD
          have hX9 := below_of hX3 hD
          have hzX := hX9.size
          have HO9 := Lib.hid (HO3.out.below hD (Nat.le_refl _))
          have BC := HBC3.out.below hD HBC3.out.lt
          have hwX : w.heap.size < X.heap.size := HBX.out.lt
          have HKW := Lib.hid (show ∀ w', Below wc.heap.size wc w' → (fun w' => Below X.heap.size wc w' ∧ (∀ o, w'.cell? ⟨w.heap.size, o, none⟩ = (#[.slice D0 c.tasks.length e0, .slice (some ⟨bn, on, none⟩) c.nodes.length e1, .slice D2 c.binds.length e2] : Array Value)[o]?) ∧ w'.cell? ⟨g5, 0, none⟩ = some (.int .i64 u.c) ∧ w'.cell? ⟨g5, 1, none⟩ = some (.int .i64 u.m) ∧ w'.cell? ⟨g5, 2, none⟩ = some (.int .i64 u.p) ∧ w'.cell? ⟨bn, on + k * 8 + 2, none⟩ = some (.int .i64 n.cap.c) ∧ w'.cell? ⟨bn, on + k * 8 + 3, none⟩ = some (.int .i64 n.cap.m) ∧ w'.cell? ⟨bn, on + k * 8 + 4, none⟩ = some (.int .i64 n.cap.p)) w' from fun w' hb => ⟨hb.mono hzX, fun o => (hb.cell (p := ⟨_, _, none⟩) (Nat.lt_of_lt_of_le hwX hzX)).trans (BC.cell o), cellK hb y0, cellK hb y1, cellK hb y2, cellK hb (cellK hD HN.out.1), cellK hb (cellK hD HN.out.2.1), cellK hb (cellK hD HN.out.2.2)⟩)
          have hbX : bn < X.heap.size := Nat.lt_of_lt_of_le hbn hX.size
          have hown := HO3.out.o
          have HKA := Lib.hid (show ∀ Y w' : World, Below wc.heap.size wc Y → Below X.heap.size Y w' → Y.grownBy w' (Value.ownBlock vl) → (fun w' => Below X.heap.size wc w' ∧ (∀ o, w'.cell? ⟨w.heap.size, o, none⟩ = (#[.slice D0 c.tasks.length e0, .slice (some ⟨bn, on, none⟩) c.nodes.length e1, .slice D2 c.binds.length e2] : Array Value)[o]?) ∧ w'.cell? ⟨g5, 0, none⟩ = some (.int .i64 u.c) ∧ w'.cell? ⟨g5, 1, none⟩ = some (.int .i64 u.m) ∧ w'.cell? ⟨g5, 2, none⟩ = some (.int .i64 u.p) ∧ w'.cell? ⟨bn, on + k * 8 + 2, none⟩ = some (.int .i64 n.cap.c) ∧ w'.cell? ⟨bn, on + k * 8 + 3, none⟩ = some (.int .i64 n.cap.m) ∧ w'.cell? ⟨bn, on + k * 8 + 4, none⟩ = some (.int .i64 n.cap.p)) w' from fun Y w' hY hb hg => by
            obtain ⟨-, s1, s2, s3', s4, s5, s6, s7⟩ := HKW.out Y hY
            have hne : some g5 ≠ Value.ownBlock vl := fun e => by have := own_lt hown g5 (by simp [blk, ← e]); omega
            exact ⟨(hY.mono hzX).trans hb, fun o => (hb.cell (p := ⟨_, _, none⟩) hwX).trans (s1 o), hg.cell s2 hne, hg.cell s3' hne, hg.cell s4 hne, (hb.cell (p := ⟨_, _, none⟩) hbX).trans s5, (hb.cell (p := ⟨_, _, none⟩) hbX).trans s6, (hb.cell (p := ⟨_, _, none⟩) hbX).trans s7⟩)
          clear HK HBC3 BC y0 y1 y2 HUN HN hown
          go_wp2_with fail
          go_region_held3 (fun w' => Below X.heap.size wc w' ∧ (∀ o, w'.cell? ⟨w.heap.size, o, none⟩ = (#[.slice D0 c.tasks.length e0, .slice (some ⟨bn, on, none⟩) c.nodes.length e1, .slice D2 c.binds.length e2] : Array Value)[o]?) ∧ w'.cell? ⟨g5, 0, none⟩ = some (.int .i64 u.c) ∧ w'.cell? ⟨g5, 1, none⟩ = some (.int .i64 u.m) ∧ w'.cell? ⟨g5, 2, none⟩ = some (.int .i64 u.p) ∧ w'.cell? ⟨bn, on + k * 8 + 2, none⟩ = some (.int .i64 n.cap.c) ∧ w'.cell? ⟨bn, on + k * 8 + 3, none⟩ = some (.int .i64 n.cap.m) ∧ w'.cell? ⟨bn, on + k * 8 + 4, none⟩ = some (.int .i64 n.cap.p))
            (first | exact HS4.out | exact HKW.out _ (by repeat' (first | exact Below.refl _ _ | refine Below.alloc ?_ ?_ _ | refine Below.setCell ?_ ?_ _ | refine Below.drew ?_ | (apply below_step; assumption) | (simp; done) | (simp; omega) | omega)))
            (first
              | (go_at_call 112; refine (HSH.out _).mono ?_; rintro e w10 ⟨rfl, hb10⟩; have hz10 := hb10.size; (try simp at hz10); have HO10 := Lib.hid ((HO9.out.below (B := wc.heap.size) (by repeat' (first | exact Below.refl _ _ | refine Below.alloc ?_ ?_ _ | refine Below.setCell ?_ ?_ _ | refine Below.drew ?_ | (apply below_step; assumption) | (simp; done) | (simp; omega) | omega)) (Nat.le_refl _)).below hb10 (Nat.le_refl _)))
              | (refine step_append_i2 _ (by rfl) (.tmp 30) (.tmp 39) (by rfl) X.heap.size _ ((c.nodes.take k).map (shareN c)) sh _ (by rfl) (by first | exact HO10.out.alloc _ | exact (HO10.out.below (B := w10.heap.size) (by repeat' (first | exact Below.refl _ _ | refine Below.alloc ?_ ?_ _ | refine Below.setCell ?_ ?_ _ | refine Below.drew ?_ | (apply below_step; assumption) | (simp; done) | (simp; omega) | omega)) (Nat.le_refl _))) (by rfl) (by simp) (by have := HLN.out; omega) (by simp; omega) ?_; intro v' w4 hown4 hb4 hg4; have HS4 := Lib.hid (HKA.out _ _ (by repeat' (first | exact Below.refl _ _ | refine Below.alloc ?_ ?_ _ | refine Below.setCell ?_ ?_ _ | refine Below.drew ?_ | (apply below_step; assumption) | (simp; done) | (simp; omega) | omega)) hb4 hg4); have hz4 := hb4.size; (try simp at hz4)))
          all_goals
            go_wp2_with fail
            go_roundw
            case rel =>
              refine ⟨k + 1, _, by omega, by simp, by go_num, rfl, ?_, ?_⟩
              · rw [HNT.out, HSV.out]; exact hown4
              · have h3 : Below X.heap.size wc w10 := (Below.refl X.heap.size wc).drew.trans (hb10.mono (by simpa using hzX))
                exact hX9.trans ((h3.alloc (by omega) _).trans hb4)
            case measure => simp [intOf]; omega
      · have hkl : k = c.nodes.length := by omega
        have HFF := Lib.hid (show OwnsJ w3 X.heap.size _ (c.nodes.map (shareN c)) by have := HO3.out; rw [hkl, List.take_length] at this; exact this)
        clear hkl
        go_wp2_with fail
        go_ret
        exact ⟨_, rfl, by rw [HE.out]; exact HFF.out.lower hX.size, hC3⟩
end Go.Proofs.YtflcacbpceinaaaGreatDoor

namespace Go.Proofs.YtflcacbpceinaaaGreatDoor
open Go.ChangeShapes Go.WideShapes Go.ChangeAt Go.RowKit Go.Joins

theorem Tryz.capG : Tryz.prog.globalNamed "loop.example/g00718/impl.errNoCap" = some 0 := by kernel_rfl
theorem Tryz.capT : (Tryz.prog.globals[0]?).map (·.type) = some 98 := by kernel_rfl
theorem capAt_of_laid {r : List (String × DataW Unit)} {W : World} (h : laidMet Tryz.prog (("loop.example/g00718/impl.errNoCap", Rows.laid_loop_example_g00718_impl_errNoCap) :: r) W) : ∃ a, CapAt a W := by
  obtain ⟨a, s, hv, _⟩ := laid_sentinel h Tryz.capG Tryz.capT Tryz.underlying98 Tryz.rowPtr Tryz.underlying235 Tryz.underlying258 rfl rfl Tryz.underlying9 Tryz.cellsEs Tryz.cellsStr
  exact ⟨a, by simpa [CapAt] using World.var?_cell Tryz.capG hv 0⟩
theorem capVars : ∀ n ∈ ["loop.example/g00718/impl.errRange", "loop.example/g00718/impl.errNoCap"], ∃ g t ms, Tryz.prog.globalNamed n = some g ∧ (Tryz.prog.globals[g]?).map (·.type) = some t ∧ Tryz.prog.underlying t = some (.interface ms) := fun n hn => by
  rcases List.mem_cons.1 hn with rfl | hn
  · exact ⟨_, _, _, Tryz.errG, Tryz.errT, Tryz.underlying98⟩
  · obtain rfl := List.mem_singleton.1 hn
    exact ⟨_, _, _, Tryz.capG, Tryz.capT, Tryz.underlying98⟩
end Go.Proofs.YtflcacbpceinaaaGreatDoor
