/- The contracts of the model's ResOk, ResAdd, ResSub, ResFits, and of the laws' toRes, eqRes. -/
import Derived.Test.YtocfgejceoenmaaGreatDoorResA
namespace Go.Proofs.YtocfgejceoenmaaGreatDoor
open Go.RowKit

theorem l01Amount_yes (n : Int) (w : World) (h1 : 0 ≤ n) (h2 : n ≤ 1000000) :
    Calls Tryz.prog 131 #[.int .i64 n] w fun e w' => e = .returned (.bool true) ∧ w = w' := by
  go_enter Tryz.func131, Tryz.ntmps131
  go_wp2
  go_ret
  exact ⟨by simp, rfl⟩
theorem l01Amount_no (n : Int) (w : World) (h : ¬ (0 ≤ n ∧ n ≤ 1000000)) :
    Calls Tryz.prog 131 #[.int .i64 n] w fun e w' => e = .returned (.bool false) ∧ w = w' := by
  by_cases h1 : 0 ≤ n
  · have h2 : 1000000 < n := by omega
    clear h
    go_enter Tryz.func131, Tryz.ntmps131
    go_wp2
    go_ret
    exact ⟨by simp; omega, rfl⟩
  · have h2 : n < 0 := by omega
    clear h h1
    go_enter Tryz.func131, Tryz.ntmps131
    go_wp2
    go_ret
    exact ⟨by simp, rfl⟩

theorem sResOk_any (r : RV) (w : World) :
    Calls Tryz.prog 93 #[.agg #[.int .i64 r.c, .int .i64 r.m, .int .i64 r.p]] w fun e w' => e = .returned (.bool r.ok) ∧ Below w.heap.size w w' := by
  by_cases hc : 0 ≤ r.c ∧ r.c ≤ 1000000
  · by_cases hm : 0 ≤ r.m ∧ r.m ≤ 1000000
    · by_cases hp : 0 ≤ r.p ∧ r.p ≤ 1000000
      · have H := Lib.hid (RV.ok_iff.2 ⟨hc.1, hc.2, hm.1, hm.2, hp.1, hp.2⟩)
        have HC := Lib.hid hc
        have HM := Lib.hid hm
        have HP := Lib.hid hp
        clear hc hm hp
        go_enter Tryz.func93, Tryz.ntmps93
        go_wp2_with fail
        refine (l01Amount_yes r.c _ HC.out.1 HC.out.2).mono ?_
        rintro e w1 ⟨rfl, rfl⟩
        go_wp2_with fail
        refine (l01Amount_yes r.m _ HM.out.1 HM.out.2).mono ?_
        rintro e w1 ⟨rfl, rfl⟩
        go_wp2_with fail
        refine (l01Amount_yes r.p _ HP.out.1 HP.out.2).mono ?_
        rintro e w1 ⟨rfl, rfl⟩
        go_wp2_with fail
        go_ret
        exact ⟨by rw [H.out]; rfl, (by repeat' (first | exact Below.refl _ _ | refine Below.alloc ?_ ?_ _ | refine Below.setCell ?_ ?_ _ | refine Below.drew ?_ | (apply below_step; assumption) | (simp; done) | (simp; omega) | omega))⟩
      · have H := Lib.hid (RV.bad_iff.2 (fun h => hp ⟨h.2.2.2.2.1, h.2.2.2.2.2⟩))
        have HC := Lib.hid hc
        have HM := Lib.hid hm
        have HP := Lib.hid hp
        clear hc hm hp
        go_enter Tryz.func93, Tryz.ntmps93
        go_wp2_with fail
        refine (l01Amount_yes r.c _ HC.out.1 HC.out.2).mono ?_
        rintro e w1 ⟨rfl, rfl⟩
        go_wp2_with fail
        refine (l01Amount_yes r.m _ HM.out.1 HM.out.2).mono ?_
        rintro e w1 ⟨rfl, rfl⟩
        go_wp2_with fail
        refine (l01Amount_no r.p _ HP.out).mono ?_
        rintro e w1 ⟨rfl, rfl⟩
        go_wp2_with fail
        go_ret
        exact ⟨by rw [H.out]; rfl, (by repeat' (first | exact Below.refl _ _ | refine Below.alloc ?_ ?_ _ | refine Below.setCell ?_ ?_ _ | refine Below.drew ?_ | (apply below_step; assumption) | (simp; done) | (simp; omega) | omega))⟩
    · have H := Lib.hid (RV.bad_iff.2 (fun h => hm ⟨h.2.2.1, h.2.2.2.1⟩))
      have HC := Lib.hid hc
      have HM := Lib.hid hm
      clear hc hm
      go_enter Tryz.func93, Tryz.ntmps93
      go_wp2_with fail
      refine (l01Amount_yes r.c _ HC.out.1 HC.out.2).mono ?_
      rintro e w1 ⟨rfl, rfl⟩
      go_wp2_with fail
      refine (l01Amount_no r.m _ HM.out).mono ?_
      rintro e w1 ⟨rfl, rfl⟩
      go_wp2_with fail
      go_ret
      exact ⟨by rw [H.out]; rfl, (by repeat' (first | exact Below.refl _ _ | refine Below.alloc ?_ ?_ _ | refine Below.setCell ?_ ?_ _ | refine Below.drew ?_ | (apply below_step; assumption) | (simp; done) | (simp; omega) | omega))⟩
  · have H := Lib.hid (RV.bad_iff.2 (fun h => hc ⟨h.1, h.2.1⟩))
    have HC := Lib.hid hc
    clear hc
    go_enter Tryz.func93, Tryz.ntmps93
    go_wp2_with fail
    refine (l01Amount_no r.c _ HC.out).mono ?_
    rintro e w1 ⟨rfl, rfl⟩
    go_wp2_with fail
    go_ret
    exact ⟨by rw [H.out]; rfl, (by repeat' (first | exact Below.refl _ _ | refine Below.alloc ?_ ?_ _ | refine Below.setCell ?_ ?_ _ | refine Below.drew ?_ | (apply below_step; assumption) | (simp; done) | (simp; omega) | omega))⟩

/-- toRes: a copy. -/
theorem toRes_any (r : RV) (w : World) :
    Calls Tryz.prog 54 #[.agg #[.int .i64 r.c, .int .i64 r.m, .int .i64 r.p]] w fun e w' => e = .returned (.agg #[.int .i64 r.c, .int .i64 r.m, .int .i64 r.p]) ∧ Below w.heap.size w w' := by
  go_enter Tryz.func54, Tryz.ntmps54
  go_wp2
  exact bodyPost_ret (v := .agg #[.int .i64 r.c, .int .i64 r.m, .int .i64 r.p]) (by simp [results, Tryz.results54, go_sem]) rfl ⟨rfl, (by repeat' (first | exact Below.refl _ _ | refine Below.alloc ?_ ?_ _ | refine Below.setCell ?_ ?_ _ | refine Below.drew ?_ | (apply below_step; assumption) | (simp; done) | (simp; omega) | omega))⟩
/-- eqRes of two equal amounts. -/
theorem eqRes_same (r : RV) (w : World) :
    Calls Tryz.prog 62 #[.agg #[.int .i64 r.c, .int .i64 r.m, .int .i64 r.p], .agg #[.int .i64 r.c, .int .i64 r.m, .int .i64 r.p]] w fun e w' => e = .returned (.bool true) ∧ Below w.heap.size w w' := by
  have h1 : (r.c != r.c) = false := by simp
  have h2 : (r.m != r.m) = false := by simp
  have h3 : (r.p != r.p) = false := by simp
  go_enter Tryz.func62, Tryz.ntmps62
  go_wp2
  go_ret
  exact ⟨rfl, (by repeat' (first | exact Below.refl _ _ | refine Below.alloc ?_ ?_ _ | refine Below.setCell ?_ ?_ _ | refine Below.drew ?_ | (apply below_step; assumption) | (simp; done) | (simp; omega) | omega))⟩

theorem sResOk_at (a : RV) (b : Bool) (h : a.ok = b) (w : World) : Calls Tryz.prog 93 #[.agg #[.int .i64 a.c, .int .i64 a.m, .int .i64 a.p]] w fun e w' => e = .returned (.bool b) ∧ Below w.heap.size w w' := by
  have := sResOk_any a w; rwa [h] at this

theorem sResAdd_in (a b : RV) (w : World) (ha : a.ok = true) (hb : b.ok = true) :
    Calls Tryz.prog 165 #[.agg #[.int .i64 a.c, .int .i64 a.m, .int .i64 a.p], .agg #[.int .i64 b.c, .int .i64 b.m, .int .i64 b.p]] w (RetR (a.add b).kept (a.add b).ok w) := by
  have hA := RV.ok_iff.1 ha
  have hB := RV.ok_iff.1 hb
  have ra : ∀ w, Calls Tryz.prog 93 #[.agg #[.int .i64 a.c, .int .i64 a.m, .int .i64 a.p]] w fun e w' => e = .returned (.bool true) ∧ Below w.heap.size w w' := fun w => by have := sResOk_any a w; rwa [ha] at this
  have rb : ∀ w, Calls Tryz.prog 93 #[.agg #[.int .i64 b.c, .int .i64 b.m, .int .i64 b.p]] w fun e w' => e = .returned (.bool true) ∧ Below w.heap.size w w' := fun w => by have := sResOk_any b w; rwa [hb] at this
  have RA := Lib.hid ra
  have RB := Lib.hid rb
  clear ha hb ra rb
  obtain ⟨a1, a2, a3, a4, a5, a6⟩ := hA
  obtain ⟨b1, b2, b3, b4, b5, b6⟩ := hB
  cases hs : (a.add b).ok
  all_goals
    have rs : ∀ w, Calls Tryz.prog 93 #[.agg #[.int .i64 (a.add b).c, .int .i64 (a.add b).m, .int .i64 (a.add b).p]] w fun e w' => e = .returned (.bool (a.add b).ok) ∧ Below w.heap.size w w' := fun w => sResOk_any (a.add b) w
    rw [hs] at rs
    have RS := Lib.hid rs
    have HS := Lib.hid hs
    clear rs hs
    go_enter Tryz.func165, Tryz.ntmps165
    go_wp2_with fail
    refine (RA.out _).mono ?_
    rintro e w1 ⟨rfl, hb1⟩
    have hz1 := hb1.size
    simp at hz1
    obtain ⟨hc1, hf1⟩ := bcell hb1
    go_wp2_with fail
    refine (RB.out _).mono ?_
    rintro e w2 ⟨rfl, hb2⟩
    have hz2 := hb2.size
    obtain ⟨hc2, hf2⟩ := bcell hb2
    have hs0 : w.heap.size < w1.heap.size := by omega
    have hs1 : w.heap.size + 1 < w1.heap.size := by omega
    have hs2 : w.heap.size + 1 + 1 < w1.heap.size := by omega
    go_wp2_with fail
    refine (RS.out _).mono ?_
    rintro e w3 ⟨rfl, hb3⟩
    have hz3 := hb3.size
    simp at hz3
    obtain ⟨hc3, hf3⟩ := bcell hb3
    have ht0 : w.heap.size < w2.heap.size := by omega
    have ht1 : w.heap.size + 1 < w2.heap.size := by omega
    have ht2 : w.heap.size + 1 + 1 < w2.heap.size := by omega
    go_wp2_with fail
  · rw [RV.kept_no HS.out]
    refine bodyPost_ret (v := .tuple #[.agg #[.int .i64 RV.zero.c, .int .i64 RV.zero.m, .int .i64 RV.zero.p], .bool false]) (by simp [results, Tryz.results165, go_sem, hc1, hc2, hc3, hs2, ht1, ht2, RV.zero]) rfl ⟨rfl, (by repeat' (first | exact Below.refl _ _ | refine Below.alloc ?_ ?_ _ | refine Below.setCell ?_ ?_ _ | refine Below.drew ?_ | (apply below_step; assumption) | (simp; done) | (simp; omega) | omega))⟩
  · rw [RV.kept_yes HS.out]
    refine bodyPost_ret (v := .tuple #[.agg #[.int .i64 (a.add b).c, .int .i64 (a.add b).m, .int .i64 (a.add b).p], .bool true]) (by simp [results, Tryz.results165, go_sem, hc1, hc2, hc3, hs2, ht1, ht2, RV.add]) rfl ⟨rfl, (by repeat' (first | exact Below.refl _ _ | refine Below.alloc ?_ ?_ _ | refine Below.setCell ?_ ?_ _ | refine Below.drew ?_ | (apply below_step; assumption) | (simp; done) | (simp; omega) | omega))⟩

theorem sResAdd_out1 (a b : RV) (w : World) (ha : a.ok = false) :
    Calls Tryz.prog 165 #[.agg #[.int .i64 a.c, .int .i64 a.m, .int .i64 a.p], .agg #[.int .i64 b.c, .int .i64 b.m, .int .i64 b.p]] w (RetR RV.zero false w) := by
  have HA := Lib.hid ha
  clear ha
  go_enter Tryz.func165, Tryz.ntmps165
  go_wp2_with fail
  refine (sResOk_at a false HA.out _).mono ?_
  rintro e w1 ⟨rfl, hb1⟩
  have hz1 := hb1.size
  simp at hz1
  obtain ⟨hc1, hf1⟩ := bcell hb1
  go_wp2_with fail
  refine bodyPost_ret (v := .tuple #[.agg #[.int .i64 RV.zero.c, .int .i64 RV.zero.m, .int .i64 RV.zero.p], .bool false]) (by simp [results, Tryz.results165, go_sem, hc1, RV.zero]) rfl ⟨rfl, (by repeat' (first | exact Below.refl _ _ | refine Below.alloc ?_ ?_ _ | refine Below.setCell ?_ ?_ _ | refine Below.drew ?_ | (apply below_step; assumption) | (simp; done) | (simp; omega) | omega))⟩

theorem sResAdd_out2 (a b : RV) (w : World) (ha : a.ok = true) (hb : b.ok = false) :
    Calls Tryz.prog 165 #[.agg #[.int .i64 a.c, .int .i64 a.m, .int .i64 a.p], .agg #[.int .i64 b.c, .int .i64 b.m, .int .i64 b.p]] w (RetR RV.zero false w) := by
  have HA := Lib.hid ha
  have HB := Lib.hid hb
  clear ha hb
  go_enter Tryz.func165, Tryz.ntmps165
  go_wp2_with fail
  refine (sResOk_at a true HA.out _).mono ?_
  rintro e w1 ⟨rfl, hb1⟩
  have hz1 := hb1.size
  simp at hz1
  obtain ⟨hc1, hf1⟩ := bcell hb1
  go_wp2_with fail
  refine (sResOk_at b false HB.out _).mono ?_
  rintro e w2 ⟨rfl, hb2⟩
  have hz2 := hb2.size
  obtain ⟨hc2, hf2⟩ := bcell hb2
  have hs2 : w.heap.size + 1 + 1 < w1.heap.size := by omega
  go_wp2_with fail
  refine bodyPost_ret (v := .tuple #[.agg #[.int .i64 RV.zero.c, .int .i64 RV.zero.m, .int .i64 RV.zero.p], .bool false]) (by simp [results, Tryz.results165, go_sem, hc1, hc2, hs2, RV.zero]) rfl ⟨rfl, (by repeat' (first | exact Below.refl _ _ | refine Below.alloc ?_ ?_ _ | refine Below.setCell ?_ ?_ _ | refine Below.drew ?_ | (apply below_step; assumption) | (simp; done) | (simp; omega) | omega))⟩

theorem sResAdd_any (a b : RV) (w : World) : Calls Tryz.prog 165 #[.agg #[.int .i64 a.c, .int .i64 a.m, .int .i64 a.p], .agg #[.int .i64 b.c, .int .i64 b.m, .int .i64 b.p]] w (RetR (resAdd a b) (resAddOk a b) w) := by
  cases ha : a.ok
  · rw [(resAdd_out (.inl ha)).1, (resAdd_out (.inl ha)).2]; exact sResAdd_out1 a b w ha
  · cases hb : b.ok
    · rw [(resAdd_out (.inr hb)).1, (resAdd_out (.inr hb)).2]; exact sResAdd_out2 a b w ha hb
    · rw [(resAdd_in ha hb).1, (resAdd_in ha hb).2]; exact sResAdd_in a b w ha hb
theorem sResFits_any (a b : RV) (w : World) :
    Calls Tryz.prog 83 #[.agg #[.int .i64 a.c, .int .i64 a.m, .int .i64 a.p], .agg #[.int .i64 b.c, .int .i64 b.m, .int .i64 b.p]] w fun e w' => e = .returned (.bool (resSubOk b a)) ∧ Below w.heap.size w w' := by
  cases ha : a.ok
  · have HF := Lib.hid (resSub_out (a := b) (.inr ha)).2
    have HA := Lib.hid ha
    clear ha
    go_enter Tryz.func83, Tryz.ntmps83
    go_wp2_with fail
    refine (sResOk_at a false HA.out _).mono ?_
    rintro e w1 ⟨rfl, hb1⟩
    have hz1 := hb1.size
    simp at hz1
    go_wp2_with fail
    go_ret
    exact ⟨by rw [HF.out]; rfl, (by repeat' (first | exact Below.refl _ _ | refine Below.alloc ?_ ?_ _ | refine Below.setCell ?_ ?_ _ | refine Below.drew ?_ | (apply below_step; assumption) | (simp; done) | (simp; omega) | omega))⟩
  · cases hb : b.ok
    · have HF := Lib.hid (resSub_out (b := a) (.inl hb)).2
      have HA := Lib.hid ha
      have HB := Lib.hid hb
      clear ha hb
      go_enter Tryz.func83, Tryz.ntmps83
      go_wp2_with fail
      refine (sResOk_at a true HA.out _).mono ?_
      rintro e w1 ⟨rfl, hb1⟩
      have hz1 := hb1.size
      simp at hz1
      obtain ⟨hc1, hf1⟩ := bcell hb1
      go_wp2_with fail
      refine (sResOk_at b false HB.out _).mono ?_
      rintro e w2 ⟨rfl, hb2⟩
      have hz2 := hb2.size
      go_wp2_with fail
      go_ret
      exact ⟨by rw [HF.out]; rfl, (by repeat' (first | exact Below.refl _ _ | refine Below.alloc ?_ ?_ _ | refine Below.setCell ?_ ?_ _ | refine Below.drew ?_ | (apply below_step; assumption) | (simp; done) | (simp; omega) | omega))⟩
    · have hi := resSubOk_in ha hb
      have HA := Lib.hid ha
      have HB := Lib.hid hb
      clear ha hb
      have fin : ∀ t, t = (decide (a.c ≤ b.c) && decide (a.m ≤ b.m) && decide (a.p ≤ b.p)) → t = resSubOk b a := by
        intro t ht
        rw [ht, Bool.eq_iff_iff, hi]; simp [and_assoc]
      have HF := Lib.hid fin
      clear fin hi
      by_cases hc : a.c ≤ b.c
      · by_cases hm : a.m ≤ b.m
        · go_enter Tryz.func83, Tryz.ntmps83
          go_wp2_with fail
          refine (sResOk_at a true HA.out _).mono ?_
          rintro e w1 ⟨rfl, hb1⟩
          have hz1 := hb1.size
          simp at hz1
          obtain ⟨hc1, hf1⟩ := bcell hb1
          go_wp2_with fail
          refine (sResOk_at b true HB.out _).mono ?_
          rintro e w2 ⟨rfl, hb2⟩
          have hz2 := hb2.size
          obtain ⟨hc2, hf2⟩ := bcell hb2
          have hs0 : w.heap.size < w1.heap.size := by omega
          have hs1 : w.heap.size + 1 < w1.heap.size := by omega
          go_wp2_with fail
          go_ret
          exact ⟨by rw [← HF.out _ rfl]; simp [hc, hm], (by repeat' (first | exact Below.refl _ _ | refine Below.alloc ?_ ?_ _ | refine Below.setCell ?_ ?_ _ | refine Below.drew ?_ | (apply below_step; assumption) | (simp; done) | (simp; omega) | omega))⟩
        · go_enter Tryz.func83, Tryz.ntmps83
          go_wp2_with fail
          refine (sResOk_at a true HA.out _).mono ?_
          rintro e w1 ⟨rfl, hb1⟩
          have hz1 := hb1.size
          simp at hz1
          obtain ⟨hc1, hf1⟩ := bcell hb1
          go_wp2_with fail
          refine (sResOk_at b true HB.out _).mono ?_
          rintro e w2 ⟨rfl, hb2⟩
          have hz2 := hb2.size
          obtain ⟨hc2, hf2⟩ := bcell hb2
          have hs0 : w.heap.size < w1.heap.size := by omega
          have hs1 : w.heap.size + 1 < w1.heap.size := by omega
          go_wp2_with fail
          go_ret
          exact ⟨by rw [← HF.out _ rfl]; simp; omega, (by repeat' (first | exact Below.refl _ _ | refine Below.alloc ?_ ?_ _ | refine Below.setCell ?_ ?_ _ | refine Below.drew ?_ | (apply below_step; assumption) | (simp; done) | (simp; omega) | omega))⟩
      · go_enter Tryz.func83, Tryz.ntmps83
        go_wp2_with fail
        refine (sResOk_at a true HA.out _).mono ?_
        rintro e w1 ⟨rfl, hb1⟩
        have hz1 := hb1.size
        simp at hz1
        obtain ⟨hc1, hf1⟩ := bcell hb1
        go_wp2_with fail
        refine (sResOk_at b true HB.out _).mono ?_
        rintro e w2 ⟨rfl, hb2⟩
        have hz2 := hb2.size
        obtain ⟨hc2, hf2⟩ := bcell hb2
        have hs0 : w.heap.size < w1.heap.size := by omega
        have hs1 : w.heap.size + 1 < w1.heap.size := by omega
        go_wp2_with fail
        go_ret
        exact ⟨by rw [← HF.out _ rfl]; simp; omega, (by repeat' (first | exact Below.refl _ _ | refine Below.alloc ?_ ?_ _ | refine Below.setCell ?_ ?_ _ | refine Below.drew ?_ | (apply below_step; assumption) | (simp; done) | (simp; omega) | omega))⟩

theorem sResFits_at (a b : RV) (t : Bool) (h : resSubOk b a = t) (w : World) :
    Calls Tryz.prog 83 #[.agg #[.int .i64 a.c, .int .i64 a.m, .int .i64 a.p], .agg #[.int .i64 b.c, .int .i64 b.m, .int .i64 b.p]] w fun e w' => e = .returned (.bool t) ∧ Below w.heap.size w w' := by
  have := sResFits_any a b w; rwa [h] at this
theorem sResSub_any (a b : RV) (w : World) : Calls Tryz.prog 122 #[.agg #[.int .i64 a.c, .int .i64 a.m, .int .i64 a.p], .agg #[.int .i64 b.c, .int .i64 b.m, .int .i64 b.p]] w (RetR (resSub a b) (resSubOk a b) w) := by
  cases h : resSubOk a b
  · have hv : resSub a b = RV.zero := by unfold resSub; rw [h]; rfl
    rw [hv]
    have H := Lib.hid h
    clear h hv
    go_enter Tryz.func122, Tryz.ntmps122
    go_wp2_with fail
    refine (sResFits_at b a false H.out _).mono ?_
    rintro e w1 ⟨rfl, hb1⟩
    have hz1 := hb1.size
    simp at hz1
    obtain ⟨hc1, hf1⟩ := bcell hb1
    go_wp2_with fail
    refine bodyPost_ret (v := .tuple #[.agg #[.int .i64 RV.zero.c, .int .i64 RV.zero.m, .int .i64 RV.zero.p], .bool false]) (by simp [results, Tryz.results122, go_sem, hc1, RV.zero]) rfl ⟨rfl, (by repeat' (first | exact Below.refl _ _ | refine Below.alloc ?_ ?_ _ | refine Below.setCell ?_ ?_ _ | refine Below.drew ?_ | (apply below_step; assumption) | (simp; done) | (simp; omega) | omega))⟩
  · have hv : resSub a b = a.sub b := by unfold resSub; rw [h]; rfl
    rw [hv]
    have hab : a.ok = true ∧ b.ok = true := by
      unfold resSubOk at h; simp at h; exact h.1
    have hA := RV.ok_iff.1 hab.1
    have hB := RV.ok_iff.1 hab.2
    obtain ⟨a1, a2, a3, a4, a5, a6⟩ := hA
    obtain ⟨b1, b2, b3, b4, b5, b6⟩ := hB
    have H := Lib.hid h
    clear h hv hab
    go_enter Tryz.func122, Tryz.ntmps122
    go_wp2_with fail
    refine (sResFits_at b a true H.out _).mono ?_
    rintro e w1 ⟨rfl, hb1⟩
    have hz1 := hb1.size
    simp at hz1
    obtain ⟨hc1, hf1⟩ := bcell hb1
    go_wp2_with fail
    refine bodyPost_ret (v := .tuple #[.agg #[.int .i64 (a.sub b).c, .int .i64 (a.sub b).m, .int .i64 (a.sub b).p], .bool true]) (by simp [results, Tryz.results122, go_sem, hc1, RV.sub]) rfl ⟨rfl, (by repeat' (first | exact Below.refl _ _ | refine Below.alloc ?_ ?_ _ | refine Below.setCell ?_ ?_ _ | refine Below.drew ?_ | (apply below_step; assumption) | (simp; done) | (simp; omega) | omega))⟩
end Go.Proofs.YtocfgejceoenmaaGreatDoor
