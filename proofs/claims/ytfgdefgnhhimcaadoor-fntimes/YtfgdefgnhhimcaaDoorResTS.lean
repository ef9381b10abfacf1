/- The contract of the model's ResTimes: a loop of sums. -/
import Derived.Test.YtfgdefgnhhimcaaDoorResT
namespace Go.Proofs.YtfgdefgnhhimcaaDoor
open Go.RowKit

theorem sResTimes_bad (a : RV) (n : Int) (w : World) (h : a.ok = false) :
    Calls Tryd.prog 37 #[.agg #[.int .i64 a.c, .int .i64 a.m, .int .i64 a.p], .int .i64 n] w (RetR RV.zero false w) := by
  have H := Lib.hid h
  clear h
  go_enter Tryd.func37, Tryd.ntmps37
  go_wp2_with fail
  refine (sResOk_at a false H.out _).mono ?_
  rintro e w1 ⟨rfl, hb1⟩
  have hz1 := hb1.size
  simp at hz1
  obtain ⟨hc1, hf1⟩ := bcell hb1
  go_wp2_with fail
  refine bodyPost_ret (v := .tuple #[.agg #[.int .i64 RV.zero.c, .int .i64 RV.zero.m, .int .i64 RV.zero.p], .bool false]) (by simp [results, Tryd.results37, go_sem, hc1, RV.zero]) rfl ⟨rfl, (by repeat' (first | exact Below.refl _ _ | refine Below.alloc ?_ ?_ _ | refine Below.setCell ?_ ?_ _ | refine Below.drew ?_ | (apply below_step; assumption) | (simp; done) | (simp; omega) | omega))⟩
theorem sResTimes_neg (a : RV) (n : Int) (w : World) (h : a.ok = true) (h0 : n < 0) :
    Calls Tryd.prog 37 #[.agg #[.int .i64 a.c, .int .i64 a.m, .int .i64 a.p], .int .i64 n] w (RetR RV.zero false w) := by
  have H := Lib.hid h
  clear h
  go_enter Tryd.func37, Tryd.ntmps37
  go_wp2_with fail
  refine (sResOk_at a true H.out _).mono ?_
  rintro e w1 ⟨rfl, hb1⟩
  have hz1 := hb1.size
  simp at hz1
  obtain ⟨hc1, hf1⟩ := bcell hb1
  go_wp2_with fail
  refine bodyPost_ret (v := .tuple #[.agg #[.int .i64 RV.zero.c, .int .i64 RV.zero.m, .int .i64 RV.zero.p], .bool false]) (by simp [results, Tryd.results37, go_sem, hc1, RV.zero]) rfl ⟨rfl, (by repeat' (first | exact Below.refl _ _ | refine Below.alloc ?_ ?_ _ | refine Below.setCell ?_ ?_ _ | refine Below.drew ?_ | (apply below_step; assumption) | (simp; done) | (simp; omega) | omega))⟩

/-- What holds at the loop's head after k rounds: the block g holds k times a; nothing else has turned since X. -/
def TimesAt (a : RV) (X : World) (k : Nat) (wr : World) : Prop :=
  Below X.heap.size X wr ∧ X.heap.size < wr.heap.size ∧ wr.cell? ⟨X.heap.size, 0, none⟩ = some (.int .i64 (a.times k).c) ∧ wr.cell? ⟨X.heap.size, 1, none⟩ = some (.int .i64 (a.times k).m) ∧ wr.cell? ⟨X.heap.size, 2, none⟩ = some (.int .i64 (a.times k).p) ∧ ∀ o, wr.frozen? ⟨X.heap.size, o, none⟩ = false
theorem res_zero_iff (a : RV) : (a.c == 0 && (a.m == 0 && a.p == 0)) = true ↔ a = RV.zero := by
  cases a; simp [RV.zero]

set_option maxHeartbeats 1600000 in
theorem sResTimes_in (a : RV) (n : Int) (w : World) (h : a.ok = true) (h0 : 0 ≤ n) :
    Calls Tryd.prog 37 #[.agg #[.int .i64 a.c, .int .i64 a.m, .int .i64 a.p], .int .i64 n] w (RetR (a.times (min n 1000001)).kept (a.times (min n 1000001)).ok w) := by
  have H := Lib.hid h
  have heq := fun w => eq_res a ⟨0, 0, 0⟩ w
  have hgd := guard_res
  dsimp only at heq
  obtain ⟨a1, a2, a3, a4, a5, a6⟩ := RV.ok_iff.1 h
  clear h
  go_enter Tryd.func37, Tryd.ntmps37
  go_wp2_with fail
  refine (sResOk_at a true H.out _).mono ?_
  rintro e w1 ⟨rfl, hb1⟩
  have hz1 := hb1.size
  simp at hz1
  obtain ⟨hc1, hf1⟩ := bcell hb1
  go_wp2_with fail
  go_loopw [7] (fun s7 wr => ∃ k : Nat, s7 = .int .i64 k ∧ (k : Int) ≤ min n 1000001 ∧ (a.times k).ok = true ∧ (a = RV.zero → k = 0) ∧ TimesAt a w1 k wr) (fun s7 _ => (min n 1000001 - intOf s7).toNat)
  case atStart =>
    refine ⟨0, rfl, by omega, ?_, fun _ => rfl, ?_⟩
    · rw [show ((0 : Nat) : Int) = 0 from rfl, RV.times_zero]; decide
    · refine ⟨(by repeat' (first | exact Below.refl _ _ | refine Below.alloc ?_ ?_ _ | refine Below.setCell ?_ ?_ _ | refine Below.drew ?_ | (apply below_step; assumption) | (simp; done) | (simp; omega) | omega)), by simp, ?_, ?_, ?_, ?_⟩
      all_goals simp [RV.times]
  case round =>
    obtain ⟨k, rfl, hk, hok, hz0, hT⟩ := hrel
    obtain ⟨hB, hlt, t0, t1, t2, hfz⟩ := hT
    obtain ⟨hcr, hfr⟩ := bcell hB
    have hzr := hB.size
    have hs0 : w.heap.size < w1.heap.size := by omega
    have hs1 : w.heap.size + 1 < w1.heap.size := by omega
    have HO := Lib.hid hok
    have HT0 := Lib.hid hz0
    clear hok hz0
    by_cases hn : (k : Int) < n
    · by_cases hm : (k : Int) ≤ 1000000
      · by_cases hz : a = RV.zero
        · have hk0 := HT0.out hz
          have HF : Hid (RetR (a.times (min n 1000001)).kept (a.times (min n 1000001)).ok w = RetR (a.times k) true w) := by
            have e : a.times (min n 1000001) = a.times k := by subst hz; unfold RV.times RV.zero; simp
            show _ = _
            rw [e, HO.out, RV.kept_yes HO.out]
          have hb : (a.c == 0 && (a.m == 0 && a.p == 0)) = true := (res_zero_iff a).2 hz
          rw [hb] at heq
          clear hb hz hk0
          go_wp2_with fail
          refine bodyPost_ret (v := .tuple #[.agg #[.int .i64 (a.times k).c, .int .i64 (a.times k).m, .int .i64 (a.times k).p], .bool true]) (by simp [results, Tryd.results37, go_sem, hcr, hc1, hs0, hs1, t0, t1, t2]) rfl ?_
          rw [HF.out]
          exact ⟨rfl, (by repeat' (first | exact Below.refl _ _ | refine Below.alloc ?_ ?_ _ | refine Below.setCell ?_ ?_ _ | refine Below.drew ?_ | (apply below_step; assumption) | (simp; done) | (simp; omega) | omega))⟩
        · have hb : (a.c == 0 && (a.m == 0 && a.p == 0)) = false := by
            cases hq : (a.c == 0 && (a.m == 0 && a.p == 0))
            · rfl
            · exact absurd ((res_zero_iff a).1 hq) hz
          rw [hb] at heq
          have HZ := Lib.hid hz
          clear hb hz
          have hadd := fun w => sResAdd_any (a.times k) a w
          have e1 := (resAdd_in HO.out H.out).1
          have e2 := (resAdd_in HO.out H.out).2
          rw [RV.times_succ] at e1 e2
          simp only [e1, e2] at hadd
          cases hs : (a.times ((k : Int) + 1)).ok
          · rw [hs, RV.kept_no hs] at hadd
            have HF : Hid (RetR (a.times (min n 1000001)).kept (a.times (min n 1000001)).ok w = RetR RV.zero false w) := by
              have e : (a.times (min n 1000001)).ok = false := by
                cases hq : (a.times (min n 1000001)).ok
                · rfl
                · have := RV.times_mono (k := (k : Int) + 1) H.out (by omega) (by omega) hq
                  rw [hs] at this; cases this
              show _ = _
              rw [e, RV.kept_no e]
            have HA := Lib.hid hadd
            clear hadd e1 e2 hs
            go_wp2_with fail
            refine (HA.out _).mono ?_
            rintro e w3 ⟨rfl, hb3⟩
            obtain ⟨hc3, hf3⟩ := bcell hb3
            have hz3 := hb3.size
            have hr1 : w.heap.size + 1 < wr.heap.size := by omega
            have hq1 : w.heap.size + 1 < w3.heap.size := by omega
            go_wp2_with fail
            refine bodyPost_ret (v := .tuple #[.agg #[.int .i64 RV.zero.c, .int .i64 RV.zero.m, .int .i64 RV.zero.p], .bool false]) (by simp [results, Tryd.results37, go_sem, hc3, hcr, hc1, hs1, hr1, hq1, RV.zero]) rfl ?_
            rw [HF.out]
            exact ⟨rfl, (by repeat' (first | exact Below.refl _ _ | refine Below.alloc ?_ ?_ _ | refine Below.setCell ?_ ?_ _ | refine Below.drew ?_ | (apply below_step; assumption) | (simp; done) | (simp; omega) | omega))⟩
          · rw [hs, RV.kept_yes hs] at hadd
            have HA := Lib.hid hadd
            have HS := Lib.hid hs
            clear hadd e1 e2 hs
            go_wp2_with fail
            refine (HA.out _).mono ?_
            rintro e w3 ⟨rfl, hb3⟩
            obtain ⟨hc3, hf3⟩ := bcell hb3
            have hz3 := hb3.size
            have hq1 : w1.heap.size < w3.heap.size := by omega
            go_wp2_with fail
            go_roundw
            case rel =>
              have ec : ((k + 1 : Nat) : Int) = (k : Int) + 1 := by omega
              refine ⟨k + 1, by rw [ec], by omega, by rw [ec]; exact HS.out, fun hz => absurd hz HZ.out, ?_⟩
              unfold TimesAt
              rw [ec]
              refine ⟨(by repeat' (first | exact Below.refl _ _ | refine Below.alloc ?_ ?_ _ | refine Below.setCell ?_ ?_ _ | refine Below.drew ?_ | (apply below_step; assumption) | (simp; done) | (simp; omega) | omega)), by simp; omega, ?_, ?_, ?_, ?_⟩
              · go_simp
              · go_simp
              · go_simp
              · intro o
                go_simp
            case measure => simp [intOf]; omega
      · have HF : Hid (RetR (a.times (min n 1000001)).kept (a.times (min n 1000001)).ok w = RetR (a.times k) true w) := by
          have e : min n 1000001 = (k : Int) := by omega
          show _ = _
          rw [e, HO.out, RV.kept_yes HO.out]
        go_wp2_with fail
        refine bodyPost_ret (v := .tuple #[.agg #[.int .i64 (a.times k).c, .int .i64 (a.times k).m, .int .i64 (a.times k).p], .bool true]) (by simp [results, Tryd.results37, go_sem, hcr, hc1, hs0, hs1, t0, t1, t2]) rfl ?_
        rw [HF.out]
        exact ⟨rfl, (by repeat' (first | exact Below.refl _ _ | refine Below.alloc ?_ ?_ _ | refine Below.setCell ?_ ?_ _ | refine Below.drew ?_ | (apply below_step; assumption) | (simp; done) | (simp; omega) | omega))⟩
    · have HF : Hid (RetR (a.times (min n 1000001)).kept (a.times (min n 1000001)).ok w = RetR (a.times k) true w) := by
        have e : min n 1000001 = (k : Int) := by omega
        show _ = _
        rw [e, HO.out, RV.kept_yes HO.out]
      go_wp2_with fail
      refine bodyPost_ret (v := .tuple #[.agg #[.int .i64 (a.times k).c, .int .i64 (a.times k).m, .int .i64 (a.times k).p], .bool true]) (by simp [results, Tryd.results37, go_sem, hcr, hc1, hs0, hs1, t0, t1, t2]) rfl ?_
      rw [HF.out]
      exact ⟨rfl, (by repeat' (first | exact Below.refl _ _ | refine Below.alloc ?_ ?_ _ | refine Below.setCell ?_ ?_ _ | refine Below.drew ?_ | (apply below_step; assumption) | (simp; done) | (simp; omega) | omega))⟩

theorem sResTimes_any (a : RV) (n : Int) (w : World) : Calls Tryd.prog 37 #[.agg #[.int .i64 a.c, .int .i64 a.m, .int .i64 a.p], .int .i64 n] w (RetR (resTimes a n) (resTimesOk a n) w) := by
  cases ha : a.ok
  · rw [(resTimes_out (.inr ha)).1, (resTimes_out (.inr ha)).2]; exact sResTimes_bad a n w ha
  · by_cases h0 : 0 ≤ n
    · rw [(resTimes_in h0 ha).1, (resTimes_in h0 ha).2]; exact sResTimes_in a n w ha h0
    · rw [(resTimes_out (.inl (by omega))).1, (resTimes_out (.inl (by omega))).2]; exact sResTimes_neg a n w ha (by omega)
end Go.Proofs.YtfgdefgnhhimcaaDoor
