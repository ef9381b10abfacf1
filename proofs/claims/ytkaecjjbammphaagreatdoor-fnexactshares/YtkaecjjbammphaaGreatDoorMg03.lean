/- The contracts of the model's ResOk, ResAdd, ResSub, ResFits, and of the laws' toRes, eqRes. The laws' helpers over tasks and nodes: szTask, toTask, eqTask, szNode, toNode, eqNode. The contracts of find, findTask, findNode, findBind. A region that draws its order, op by op: what is wanted is taken first, what is not wanted is passed. The laws' helpers over clusters: szCluster; toTaskS, toNodeS, toBindS, toCluster. A cluster as an argument, opened. What this seat's rows share: the closed facts, the sentinel's cell out of 'laid', a world for the witness. -/
import Derived.Test.YtkaecjjbammphaaGreatDoorMg02
import Derived.WalkKit
import Derived.Deep.RegionHeld3
import Derived.Test.YtkaecjjbammphaaGreatDoorCards
import Derived.Test.YtkaecjjbammphaaGreatDoorTie
import Derived.Test.YtkaecjjbammphaaGreatDoorRowBase
namespace Go.Proofs.YtkaecjjbammphaaGreatDoor
open Go.RowKit

theorem l01Amount_yes (n : Int) (w : World) (h1 : 0 ≤ n) (h2 : n ≤ 1000000) :
    Calls Tryz.prog 61 #[.int .i64 n] w fun e w' => e = .returned (.bool true) ∧ w = w' := by
  go_enter Tryz.func61, Tryz.ntmps61
  go_wp2
  go_ret
  exact ⟨by simp, rfl⟩
theorem l01Amount_no (n : Int) (w : World) (h : ¬ (0 ≤ n ∧ n ≤ 1000000)) :
    Calls Tryz.prog 61 #[.int .i64 n] w fun e w' => e = .returned (.bool false) ∧ w = w' := by
  by_cases h1 : 0 ≤ n
  · have h2 : 1000000 < n := by omega
    clear h
    go_enter Tryz.func61, Tryz.ntmps61
    go_wp2
    go_ret
    exact ⟨by simp; omega, rfl⟩
  · have h2 : n < 0 := by omega
    clear h h1
    go_enter Tryz.func61, Tryz.ntmps61
    go_wp2
    go_ret
    exact ⟨by simp, rfl⟩

theorem sResOk_any (r : RV) (w : World) :
    Calls Tryz.prog 39 #[.agg #[.int .i64 r.c, .int .i64 r.m, .int .i64 r.p]] w fun e w' => e = .returned (.bool r.ok) ∧ Below w.heap.size w w' := by
  by_cases hc : 0 ≤ r.c ∧ r.c ≤ 1000000
  · by_cases hm : 0 ≤ r.m ∧ r.m ≤ 1000000
    · by_cases hp : 0 ≤ r.p ∧ r.p ≤ 1000000
      · have H := Lib.hid (RV.ok_iff.2 ⟨hc.1, hc.2, hm.1, hm.2, hp.1, hp.2⟩)
        have HC := Lib.hid hc
        have HM := Lib.hid hm
        have HP := Lib.hid hp
        clear hc hm hp
        go_enter Tryz.func39, Tryz.ntmps39
        go_wp2_with fail
        refine (l01Amount_yes r.c _ HC.out.1 HC.out.2).mono ?_
        rintro e w1 ⟨rfl, rfl⟩
        go_wp2_with fail
        refine (l01Amount_yes r.m _ HM.out.1 HM.out.2).mono ?_
        rintro e w1 ⟨rfl, rfl⟩
        go_wp2_with fail
        refine (l01Amount_yes r.p _ HP.out.1 HP.out.2).mono ?_
        rintro e w1 ⟨rfl, rfl⟩
        go_wp2_with fail
        go_ret
        exact ⟨by rw [H.out]; rfl, (by repeat' (first | exact Below.refl _ _ | refine Below.alloc ?_ ?_ _ | refine Below.setCell ?_ ?_ _ | refine Below.drew ?_ | (apply below_step; assumption) | (simp; done) | (simp; omega) | omega))⟩
      · have H := Lib.hid (RV.bad_iff.2 (fun h => hp ⟨h.2.2.2.2.1, h.2.2.2.2.2⟩))
        have HC := Lib.hid hc
        have HM := Lib.hid hm
        have HP := Lib.hid hp
        clear hc hm hp
        go_enter Tryz.func39, Tryz.ntmps39
        go_wp2_with fail
        refine (l01Amount_yes r.c _ HC.out.1 HC.out.2).mono ?_
        rintro e w1 ⟨rfl, rfl⟩
        go_wp2_with fail
        refine (l01Amount_yes r.m _ HM.out.1 HM.out.2).mono ?_
        rintro e w1 ⟨rfl, rfl⟩
        go_wp2_with fail
        refine (l01Amount_no r.p _ HP.out).mono ?_
        rintro e w1 ⟨rfl, rfl⟩
        go_wp2_with fail
        go_ret
        exact ⟨by rw [H.out]; rfl, (by repeat' (first | exact Below.refl _ _ | refine Below.alloc ?_ ?_ _ | refine Below.setCell ?_ ?_ _ | refine Below.drew ?_ | (apply below_step; assumption) | (simp; done) | (simp; omega) | omega))⟩
    · have H := Lib.hid (RV.bad_iff.2 (fun h => hm ⟨h.2.2.1, h.2.2.2.1⟩))
      have HC := Lib.hid hc
      have HM := Lib.hid hm
      clear hc hm
      go_enter Tryz.func39, Tryz.ntmps39
      go_wp2_with fail
      refine (l01Amount_yes r.c _ HC.out.1 HC.out.2).mono ?_
      rintro e w1 ⟨rfl, rfl⟩
      go_wp2_with fail
      refine (l01Amount_no r.m _ HM.out).mono ?_
      rintro e w1 ⟨rfl, rfl⟩
      go_wp2_with fail
      go_ret
      exact ⟨by rw [H.out]; rfl, (by repeat' (first | exact Below.refl _ _ | refine Below.alloc ?_ ?_ _ | refine Below.setCell ?_ ?_ _ | refine Below.drew ?_ | (apply below_step; assumption) | (simp; done) | (simp; omega) | omega))⟩
  · have H := Lib.hid (RV.bad_iff.2 (fun h => hc ⟨h.1, h.2.1⟩))
    have HC := Lib.hid hc
    clear hc
    go_enter Tryz.func39, Tryz.ntmps39
    go_wp2_with fail
    refine (l01Amount_no r.c _ HC.out).mono ?_
    rintro e w1 ⟨rfl, rfl⟩
    go_wp2_with fail
    go_ret
    exact ⟨by rw [H.out]; rfl, (by repeat' (first | exact Below.refl _ _ | refine Below.alloc ?_ ?_ _ | refine Below.setCell ?_ ?_ _ | refine Below.drew ?_ | (apply below_step; assumption) | (simp; done) | (simp; omega) | omega))⟩

theorem toRes_any (r : RV) (w : World) :
    Calls Tryz.prog 62 #[.agg #[.int .i64 r.c, .int .i64 r.m, .int .i64 r.p]] w fun e w' => e = .returned (.agg #[.int .i64 r.c, .int .i64 r.m, .int .i64 r.p]) ∧ Below w.heap.size w w' := by
  go_enter Tryz.func62, Tryz.ntmps62
  go_wp2
  exact bodyPost_ret (v := .agg #[.int .i64 r.c, .int .i64 r.m, .int .i64 r.p]) (by simp [results, Tryz.results62, go_sem]) rfl ⟨rfl, (by repeat' (first | exact Below.refl _ _ | refine Below.alloc ?_ ?_ _ | refine Below.setCell ?_ ?_ _ | refine Below.drew ?_ | (apply below_step; assumption) | (simp; done) | (simp; omega) | omega))⟩
theorem eqRes_same (r : RV) (w : World) :
    Calls Tryz.prog 78 #[.agg #[.int .i64 r.c, .int .i64 r.m, .int .i64 r.p], .agg #[.int .i64 r.c, .int .i64 r.m, .int .i64 r.p]] w fun e w' => e = .returned (.bool true) ∧ Below w.heap.size w w' := by
  have h1 : (r.c != r.c) = false := by simp
  have h2 : (r.m != r.m) = false := by simp
  have h3 : (r.p != r.p) = false := by simp
  go_enter Tryz.func78, Tryz.ntmps78
  go_wp2
  go_ret
  exact ⟨rfl, (by repeat' (first | exact Below.refl _ _ | refine Below.alloc ?_ ?_ _ | refine Below.setCell ?_ ?_ _ | refine Below.drew ?_ | (apply below_step; assumption) | (simp; done) | (simp; omega) | omega))⟩

theorem sResOk_at (a : RV) (b : Bool) (h : a.ok = b) (w : World) : Calls Tryz.prog 39 #[.agg #[.int .i64 a.c, .int .i64 a.m, .int .i64 a.p]] w fun e w' => e = .returned (.bool b) ∧ Below w.heap.size w w' := by
  have := sResOk_any a w; rwa [h] at this

theorem sResAdd_in (a b : RV) (w : World) (ha : a.ok = true) (hb : b.ok = true) :
    Calls Tryz.prog 60 #[.agg #[.int .i64 a.c, .int .i64 a.m, .int .i64 a.p], .agg #[.int .i64 b.c, .int .i64 b.m, .int .i64 b.p]] w (RetR (a.add b).kept (a.add b).ok w) := by
  have hA := RV.ok_iff.1 ha
  have hB := RV.ok_iff.1 hb
  have ra : ∀ w, Calls Tryz.prog 39 #[.agg #[.int .i64 a.c, .int .i64 a.m, .int .i64 a.p]] w fun e w' => e = .returned (.bool true) ∧ Below w.heap.size w w' := fun w => by have := sResOk_any a w; rwa [ha] at this
  have rb : ∀ w, Calls Tryz.prog 39 #[.agg #[.int .i64 b.c, .int .i64 b.m, .int .i64 b.p]] w fun e w' => e = .returned (.bool true) ∧ Below w.heap.size w w' := fun w => by have := sResOk_any b w; rwa [hb] at this
  have RA := Lib.hid ra
  have RB := Lib.hid rb
  clear ha hb ra rb
  obtain ⟨a1, a2, a3, a4, a5, a6⟩ := hA
  obtain ⟨b1, b2, b3, b4, b5, b6⟩ := hB
  cases hs : (a.add b).ok
  all_goals
    have rs : ∀ w, Calls Tryz.prog 39 #[.agg #[.int .i64 (a.add b).c, .int .i64 (a.add b).m, .int .i64 (a.add b).p]] w fun e w' => e = .returned (.bool (a.add b).ok) ∧ Below w.heap.size w w' := fun w => sResOk_any (a.add b) w
    rw [hs] at rs
    have RS := Lib.hid rs
    have HS := Lib.hid hs
    clear rs hs
    go_enter Tryz.func60, Tryz.ntmps60
    go_wp2_with fail
    refine (RA.out _).mono ?_
    rintro e w1 ⟨rfl, hb1⟩
    have hz1 := hb1.size
    simp at hz1
    obtain ⟨hc1, hf1⟩ := bcell hb1
    go_wp2_with fail
    refine (RB.out _).mono ?_
    rintro e w2 ⟨rfl, hb2⟩
    have hz2 := hb2.size
    obtain ⟨hc2, hf2⟩ := bcell hb2
    have hs0 : w.heap.size < w1.heap.size := by omega
    have hs1 : w.heap.size + 1 < w1.heap.size := by omega
    have hs2 : w.heap.size + 1 + 1 < w1.heap.size := by omega
    go_wp2_with fail
    refine (RS.out _).mono ?_
    rintro e w3 ⟨rfl, hb3⟩
    have hz3 := hb3.size
    simp at hz3
    obtain ⟨hc3, hf3⟩ := bcell hb3
    have ht0 : w.heap.size < w2.heap.size := by omega
    have ht1 : w.heap.size + 1 < w2.heap.size := by omega
    have ht2 : w.heap.size + 1 + 1 < w2.heap.size := by omega
    go_wp2_with fail
  · rw [RV.kept_no HS.out]
    refine bodyPost_ret (v := .tuple #[.agg #[.int .i64 RV.zero.c, .int .i64 RV.zero.m, .int .i64 RV.zero.p], .bool false]) (by simp [results, Tryz.results60, go_sem, hc1, hc2, hc3, hs2, ht1, ht2, RV.zero]) rfl ⟨rfl, (by repeat' (first | exact Below.refl _ _ | refine Below.alloc ?_ ?_ _ | refine Below.setCell ?_ ?_ _ | refine Below.drew ?_ | (apply below_step; assumption) | (simp; done) | (simp; omega) | omega))⟩
  · rw [RV.kept_yes HS.out]
    refine bodyPost_ret (v := .tuple #[.agg #[.int .i64 (a.add b).c, .int .i64 (a.add b).m, .int .i64 (a.add b).p], .bool true]) (by simp [results, Tryz.results60, go_sem, hc1, hc2, hc3, hs2, ht1, ht2, RV.add]) rfl ⟨rfl, (by repeat' (first | exact Below.refl _ _ | refine Below.alloc ?_ ?_ _ | refine Below.setCell ?_ ?_ _ | refine Below.drew ?_ | (apply below_step; assumption) | (simp; done) | (simp; omega) | omega))⟩

theorem sResAdd_out1 (a b : RV) (w : World) (ha : a.ok = false) :
    Calls Tryz.prog 60 #[.agg #[.int .i64 a.c, .int .i64 a.m, .int .i64 a.p], .agg #[.int .i64 b.c, .int .i64 b.m, .int .i64 b.p]] w (RetR RV.zero false w) := by
  have HA := Lib.hid ha
  clear ha
  go_enter Tryz.func60, Tryz.ntmps60
  go_wp2_with fail
  refine (sResOk_at a false HA.out _).mono ?_
  rintro e w1 ⟨rfl, hb1⟩
  have hz1 := hb1.size
  simp at hz1
  obtain ⟨hc1, hf1⟩ := bcell hb1
  go_wp2_with fail
  refine bodyPost_ret (v := .tuple #[.agg #[.int .i64 RV.zero.c, .int .i64 RV.zero.m, .int .i64 RV.zero.p], .bool false]) (by simp [results, Tryz.results60, go_sem, hc1, RV.zero]) rfl ⟨rfl, (by repeat' (first | exact Below.refl _ _ | refine Below.alloc ?_ ?_ _ | refine Below.setCell ?_ ?_ _ | refine Below.drew ?_ | (apply below_step; assumption) | (simp; done) | (simp; omega) | omega))⟩

theorem sResAdd_out2 (a b : RV) (w : World) (ha : a.ok = true) (hb : b.ok = false) :
    Calls Tryz.prog 60 #[.agg #[.int .i64 a.c, .int .i64 a.m, .int .i64 a.p], .agg #[.int .i64 b.c, .int .i64 b.m, .int .i64 b.p]] w (RetR RV.zero false w) := by
  have HA := Lib.hid ha
  have HB := Lib.hid hb
  clear ha hb
  go_enter Tryz.func60, Tryz.ntmps60
  go_wp2_with fail
  refine (sResOk_at a true HA.out _).mono ?_
  rintro e w1 ⟨rfl, hb1⟩
  have hz1 := hb1.size
  simp at hz1
  obtain ⟨hc1, hf1⟩ := bcell hb1
  go_wp2_with fail
  refine (sResOk_at b false HB.out _).mono ?_
  rintro e w2 ⟨rfl, hb2⟩
  have hz2 := hb2.size
  obtain ⟨hc2, hf2⟩ := bcell hb2
  have hs2 : w.heap.size + 1 + 1 < w1.heap.size := by omega
  go_wp2_with fail
  refine bodyPost_ret (v := .tuple #[.agg #[.int .i64 RV.zero.c, .int .i64 RV.zero.m, .int .i64 RV.zero.p], .bool false]) (by simp [results, Tryz.results60, go_sem, hc1, hc2, hs2, RV.zero]) rfl ⟨rfl, (by repeat' (first | exact Below.refl _ _ | refine Below.alloc ?_ ?_ _ | refine Below.setCell ?_ ?_ _ | refine Below.drew ?_ | (apply below_step; assumption) | (simp; done) | (simp; omega) | omega))⟩

theorem sResAdd_any (a b : RV) (w : World) : Calls Tryz.prog 60 #[.agg #[.int .i64 a.c, .int .i64 a.m, .int .i64 a.p], .agg #[.int .i64 b.c, .int .i64 b.m, .int .i64 b.p]] w (RetR (resAdd a b) (resAddOk a b) w) := by
  cases ha : a.ok
  · rw [(resAdd_out (.inl ha)).1, (resAdd_out (.inl ha)).2]; exact sResAdd_out1 a b w ha
  · cases hb : b.ok
    · rw [(resAdd_out (.inr hb)).1, (resAdd_out (.inr hb)).2]; exact sResAdd_out2 a b w ha hb
    · rw [(resAdd_in ha hb).1, (resAdd_in ha hb).2]; exact sResAdd_in a b w ha hb
theorem sResFits_any (a b : RV) (w : World) :
    Calls Tryz.prog 37 #[.agg #[.int .i64 a.c, .int .i64 a.m, .int .i64 a.p], .agg #[.int .i64 b.c, .int .i64 b.m, .int .i64 b.p]] w fun e w' => e = .returned (.bool (resSubOk b a)) ∧ Below w.heap.size w w' := by
  cases ha : a.ok
  · have HF := Lib.hid (resSub_out (a := b) (.inr ha)).2
    have HA := Lib.hid ha
    clear ha
    go_enter Tryz.func37, Tryz.ntmps37
    go_wp2_with fail
    refine (sResOk_at a false HA.out _).mono ?_
    rintro e w1 ⟨rfl, hb1⟩
    have hz1 := hb1.size
    simp at hz1
    go_wp2_with fail
    go_ret
    exact ⟨by rw [HF.out]; rfl, (by repeat' (first | exact Below.refl _ _ | refine Below.alloc ?_ ?_ _ | refine Below.setCell ?_ ?_ _ | refine Below.drew ?_ | (apply below_step; assumption) | (simp; done) | (simp; omega) | omega))⟩
  · cases hb : b.ok
    · have HF := Lib.hid (resSub_out (b := a) (.inl hb)).2
      have HA := Lib.hid ha
      have HB := Lib.hid hb
      clear ha hb
      go_enter Tryz.func37, Tryz.ntmps37
      go_wp2_with fail
      refine (sResOk_at a true HA.out _).mono ?_
      rintro e w1 ⟨rfl, hb1⟩
      have hz1 := hb1.size
      simp at hz1
      obtain ⟨hc1, hf1⟩ := bcell hb1
      go_wp2_with fail
      refine (sResOk_at b false HB.out _).mono ?_
      rintro e w2 ⟨rfl, hb2⟩
      have hz2 := hb2.size
      go_wp2_with fail
      go_ret
      exact ⟨by rw [HF.out]; rfl, (by repeat' (first | exact Below.refl _ _ | refine Below.alloc ?_ ?_ _ | refine Below.setCell ?_ ?_ _ | refine Below.drew ?_ | (apply below_step; assumption) | (simp; done) | (simp; omega) | omega))⟩
    · have hi := resSubOk_in ha hb
      have HA := Lib.hid ha
      have HB := Lib.hid hb
      clear ha hb
      have fin : ∀ t, t = (decide (a.c ≤ b.c) && decide (a.m ≤ b.m) && decide (a.p ≤ b.p)) → t = resSubOk b a := by
        intro t ht
        rw [ht, Bool.eq_iff_iff, hi]; simp [and_assoc]
      have HF := Lib.hid fin
      clear fin hi
      by_cases hc : a.c ≤ b.c
      · by_cases hm : a.m ≤ b.m
        · go_enter Tryz.func37, Tryz.ntmps37
          go_wp2_with fail
          refine (sResOk_at a true HA.out _).mono ?_
          rintro e w1 ⟨rfl, hb1⟩
          have hz1 := hb1.size
          simp at hz1
          obtain ⟨hc1, hf1⟩ := bcell hb1
          go_wp2_with fail
          refine (sResOk_at b true HB.out _).mono ?_
          rintro e w2 ⟨rfl, hb2⟩
          have hz2 := hb2.size
          obtain ⟨hc2, hf2⟩ := bcell hb2
          have hs0 : w.heap.size < w1.heap.size := by omega
          have hs1 : w.heap.size + 1 < w1.heap.size := by omega
          go_wp2_with fail
          go_ret
          exact ⟨by rw [← HF.out _ rfl]; simp [hc, hm], (by repeat' (first | exact Below.refl _ _ | refine Below.alloc ?_ ?_ _ | refine Below.setCell ?_ ?_ _ | refine Below.drew ?_ | (apply below_step; assumption) | (simp; done) | (simp; omega) | omega))⟩
        · go_enter Tryz.func37, Tryz.ntmps37
          go_wp2_with fail
          refine (sResOk_at a true HA.out _).mono ?_
          rintro e w1 ⟨rfl, hb1⟩
          have hz1 := hb1.size
          simp at hz1
          obtain ⟨hc1, hf1⟩ := bcell hb1
          go_wp2_with fail
          refine (sResOk_at b true HB.out _).mono ?_
          rintro e w2 ⟨rfl, hb2⟩
          have hz2 := hb2.size
          obtain ⟨hc2, hf2⟩ := bcell hb2
          have hs0 : w.heap.size < w1.heap.size := by omega
          have hs1 : w.heap.size + 1 < w1.heap.size := by omega
          go_wp2_with fail
          go_ret
          exact ⟨by rw [← HF.out _ rfl]; simp; omega, (by repeat' (first | exact Below.refl _ _ | refine Below.alloc ?_ ?_ _ | refine Below.setCell ?_ ?_ _ | refine Below.drew ?_ | (apply below_step; assumption) | (simp; done) | (simp; omega) | omega))⟩
      · go_enter Tryz.func37, Tryz.ntmps37
        go_wp2_with fail
        refine (sResOk_at a true HA.out _).mono ?_
        rintro e w1 ⟨rfl, hb1⟩
        have hz1 := hb1.size
        simp at hz1
        obtain ⟨hc1, hf1⟩ := bcell hb1
        go_wp2_with fail
        refine (sResOk_at b true HB.out _).mono ?_
        rintro e w2 ⟨rfl, hb2⟩
        have hz2 := hb2.size
        obtain ⟨hc2, hf2⟩ := bcell hb2
        have hs0 : w.heap.size < w1.heap.size := by omega
        have hs1 : w.heap.size + 1 < w1.heap.size := by omega
        go_wp2_with fail
        go_ret
        exact ⟨by rw [← HF.out _ rfl]; simp; omega, (by repeat' (first | exact Below.refl _ _ | refine Below.alloc ?_ ?_ _ | refine Below.setCell ?_ ?_ _ | refine Below.drew ?_ | (apply below_step; assumption) | (simp; done) | (simp; omega) | omega))⟩

end Go.Proofs.YtkaecjjbammphaaGreatDoor

namespace Go.Proofs.YtkaecjjbammphaaGreatDoor
open Go.RowKit

theorem szIntS_yes (A : Option Addr) (n c : Nat) (z : Int) (w : World) (hz : z ≤ 1048576) (h : (n : Int) ≤ z) :
    Calls Tryz.prog 55 #[.slice A n c, .int .i64 z] w fun e w' => e = .returned (.int .i64 (z - n)) ∧ w = w' := by
  go_enter Tryz.func55, Tryz.ntmps55
  go_wp2
  go_ret
  exact ⟨rfl, rfl⟩
theorem szIntS_no (A : Option Addr) (n c : Nat) (z : Int) (w : World) (h0 : 0 ≤ z) (h : z < n) (hm : n ≤ maxLen) :
    Calls Tryz.prog 55 #[.slice A n c, .int .i64 z] w fun e w' => e = .returned (.int .i64 (-1)) ∧ w = w' := by
  unfold maxLen at hm
  go_enter Tryz.func55, Tryz.ntmps55
  go_wp2
  go_ret
  exact ⟨rfl, rfl⟩

def szLeft (z : Int) (n : Nat) : Int := if (n : Int) ≤ z then z - n else -1
def szTV (z : Int) (a b : Nat) : Int := if (a : Int) ≤ z then szLeft (z - a) b else -1

set_option maxHeartbeats 800000 in
theorem szTask_any (c0 c1 c2 c3 c4 : Value) (A1 A2 : Option Addr) (n1 k1 n2 k2 : Nat) (z : Int) (w : World) (h0 : 0 ≤ z) (hz : z ≤ 1048576) (hm1 : n1 ≤ maxLen) (hm2 : n2 ≤ maxLen) :
    Calls Tryz.prog 30 #[.agg #[c0, c1, c2, c3, c4, .slice A1 n1 k1, .slice A2 n2 k2], .int .i64 z] w fun e w' => e = .returned (.int .i64 (szTV z n1 n2)) ∧ Below w.heap.size w w' := by
  by_cases h1 : (n1 : Int) ≤ z
  · by_cases h2 : (n2 : Int) ≤ z - n1
    · have HE := Lib.hid (show szTV z n1 n2 = z - n1 - n2 by simp [szTV, h1, szLeft, h2])
      have HM := Lib.hid (And.intro hm1 hm2)
      clear hm1 hm2
      go_enter Tryz.func30, Tryz.ntmps30
      go_wp2_with fail
      refine (szLabS_yes A1 n1 k1 z _ hz h1).mono ?_
      rintro e w1 ⟨rfl, rfl⟩
      go_wp2_with fail
      refine (szIntS_yes A2 n2 k2 (z - n1) _ (by omega) h2).mono ?_
      rintro e w1 ⟨rfl, rfl⟩
      go_wp2_with fail
      go_ret
      rw [HE.out]
      exact ⟨rfl, (by repeat' (first | exact Below.refl _ _ | refine Below.alloc ?_ ?_ _ | refine Below.setCell ?_ ?_ _ | refine Below.drew ?_ | (apply below_step; assumption) | (simp; done) | (simp; omega) | omega))⟩
    · have HE := Lib.hid (show szTV z n1 n2 = -1 by simp [szTV, h1, szLeft, h2])
      have HM := Lib.hid (And.intro hm1 hm2)
      have h2' : z - n1 < n2 := by omega
      clear hm1 hm2 h2
      go_enter Tryz.func30, Tryz.ntmps30
      go_wp2_with fail
      refine (szLabS_yes A1 n1 k1 z _ hz h1).mono ?_
      rintro e w1 ⟨rfl, rfl⟩
      go_wp2_with fail
      refine (szIntS_no A2 n2 k2 (z - n1) _ (by omega) h2' HM.out.2).mono ?_
      rintro e w1 ⟨rfl, rfl⟩
      go_wp2_with fail
      go_ret
      rw [HE.out]
      exact ⟨rfl, (by repeat' (first | exact Below.refl _ _ | refine Below.alloc ?_ ?_ _ | refine Below.setCell ?_ ?_ _ | refine Below.drew ?_ | (apply below_step; assumption) | (simp; done) | (simp; omega) | omega))⟩
  · have HE := Lib.hid (show szTV z n1 n2 = -1 by simp [szTV, h1])
    have HM := Lib.hid (And.intro hm1 hm2)
    have h1' : z < n1 := by omega
    clear hm1 hm2 h1
    go_enter Tryz.func30, Tryz.ntmps30
    go_wp2_with fail
    refine (szLabS_no A1 n1 k1 z _ h0 h1' HM.out.1).mono ?_
    rintro e w1 ⟨rfl, rfl⟩
    go_wp2_with fail
    go_ret
    rw [HE.out]
    exact ⟨rfl, (by repeat' (first | exact Below.refl _ _ | refine Below.alloc ?_ ?_ _ | refine Below.setCell ?_ ?_ _ | refine Below.drew ?_ | (apply below_step; assumption) | (simp; done) | (simp; omega) | omega))⟩

theorem arr7 {α : Type} {cs : Array α} (h : cs.size = 7) : ∃ a b c d e f g, cs = #[a, b, c, d, e, f, g] := by
  obtain ⟨l⟩ := cs
  match l, h with
  | [a, b, c, d, e, f, g], _ => exact ⟨a, b, c, d, e, f, g, rfl⟩
theorem arr8 {α : Type} {cs : Array α} (h : cs.size = 8) : ∃ a b c d e f g i, cs = #[a, b, c, d, e, f, g, i] := by
  obtain ⟨l⟩ := cs
  match l, h with
  | [a, b, c, d, e, f, g, i], _ => exact ⟨a, b, c, d, e, f, g, i, rfl⟩
theorem put7 {w : World} {g : Nat} {t : TypeId} {cs : Array Value} (a0 a1 a2 a3 a4 a5 a6 : Value) (h : BlockIs w g t cs) (hs : cs.size = 7) : BlockIs (((((((w.setCell ⟨g, 0, none⟩ (a0)).setCell ⟨g, 1, none⟩ (a1)).setCell ⟨g, 2, none⟩ (a2)).setCell ⟨g, 3, none⟩ (a3)).setCell ⟨g, 4, none⟩ (a4)).setCell ⟨g, 5, none⟩ (a5)).setCell ⟨g, 6, none⟩ (a6)) g t #[a0, a1, a2, a3, a4, a5, a6] := by
  obtain ⟨b0, b1, b2, b3, b4, b5, b6, rfl⟩ := arr7 hs
  have := ((((((h.put 0 a0).put 1 a1).put 2 a2).put 3 a3).put 4 a4).put 5 a5).put 6 a6
  simpa using this
theorem put8 {w : World} {g : Nat} {t : TypeId} {cs : Array Value} (a0 a1 a2 a3 a4 a5 a6 a7 : Value) (h : BlockIs w g t cs) (hs : cs.size = 8) : BlockIs ((((((((w.setCell ⟨g, 0, none⟩ (a0)).setCell ⟨g, 1, none⟩ (a1)).setCell ⟨g, 2, none⟩ (a2)).setCell ⟨g, 3, none⟩ (a3)).setCell ⟨g, 4, none⟩ (a4)).setCell ⟨g, 5, none⟩ (a5)).setCell ⟨g, 6, none⟩ (a6)).setCell ⟨g, 7, none⟩ (a7)) g t #[a0, a1, a2, a3, a4, a5, a6, a7] := by
  obtain ⟨b0, b1, b2, b3, b4, b5, b6, b7, rfl⟩ := arr8 hs
  have := (((((((h.put 0 a0).put 1 a1).put 2 a2).put 3 a3).put 4 a4).put 5 a5).put 6 a6).put 7 a7
  simpa using this

theorem cell_far {w : World} {b o : Nat} {p : Addr} (h : b ≠ p.block) (u : Value) : (w.setCell p u).cell? ⟨b, o, none⟩ = w.cell? ⟨b, o, none⟩ := by
  have := Below.heap_setCell w p u b h
  simp only [World.cell?, this]
theorem far7 {w : World} {g b : Nat} {t : TypeId} {cs : Array Value} {a0 a1 a2 a3 a4 a5 a6 : Value} (h : BlockIs w b t cs) (hne : b ≠ g) : BlockIs (((((((w.setCell ⟨g, 0, none⟩ (a0)).setCell ⟨g, 1, none⟩ (a1)).setCell ⟨g, 2, none⟩ (a2)).setCell ⟨g, 3, none⟩ (a3)).setCell ⟨g, 4, none⟩ (a4)).setCell ⟨g, 5, none⟩ (a5)).setCell ⟨g, 6, none⟩ (a6)) b t cs :=
  ((((((h.far hne _).far hne _).far hne _).far hne _).far hne _).far hne _).far hne _
theorem below7 {B : Nat} {a w : World} {g : Nat} {a0 a1 a2 a3 a4 a5 a6 : Value} (h : Below B a w) (hg : B ≤ g) : Below B a (((((((w.setCell ⟨g, 0, none⟩ (a0)).setCell ⟨g, 1, none⟩ (a1)).setCell ⟨g, 2, none⟩ (a2)).setCell ⟨g, 3, none⟩ (a3)).setCell ⟨g, 4, none⟩ (a4)).setCell ⟨g, 5, none⟩ (a5)).setCell ⟨g, 6, none⟩ (a6)) :=
  ((((((h.setCell hg _).setCell hg _).setCell hg _).setCell hg _).setCell hg _).setCell hg _).setCell hg _
theorem IntAt.far {w : World} {b off : Nat} {l : List Int} {p : Addr} (h : IntAt w b off l) (hne : b ≠ p.block) (u : Value) : IntAt (w.setCell p u) b off l := fun i r hr => (cell_far hne _).trans (h i r hr)
theorem IntAt.far7 {w : World} {g b off : Nat} {l : List Int} {a0 a1 a2 a3 a4 a5 a6 : Value} (h : IntAt w b off l) (hne : b ≠ g) : IntAt (((((((w.setCell ⟨g, 0, none⟩ (a0)).setCell ⟨g, 1, none⟩ (a1)).setCell ⟨g, 2, none⟩ (a2)).setCell ⟨g, 3, none⟩ (a3)).setCell ⟨g, 4, none⟩ (a4)).setCell ⟨g, 5, none⟩ (a5)).setCell ⟨g, 6, none⟩ (a6)) b off l :=
  ((((((h.far hne _).far hne _).far hne _).far hne _).far hne _).far hne _).far hne _
theorem far8 {w : World} {g b : Nat} {t : TypeId} {cs : Array Value} {a0 a1 a2 a3 a4 a5 a6 a7 : Value} (h : BlockIs w b t cs) (hne : b ≠ g) : BlockIs ((((((((w.setCell ⟨g, 0, none⟩ (a0)).setCell ⟨g, 1, none⟩ (a1)).setCell ⟨g, 2, none⟩ (a2)).setCell ⟨g, 3, none⟩ (a3)).setCell ⟨g, 4, none⟩ (a4)).setCell ⟨g, 5, none⟩ (a5)).setCell ⟨g, 6, none⟩ (a6)).setCell ⟨g, 7, none⟩ (a7)) b t cs :=
  (((((((h.far hne _).far hne _).far hne _).far hne _).far hne _).far hne _).far hne _).far hne _
theorem below8 {B : Nat} {a w : World} {g : Nat} {a0 a1 a2 a3 a4 a5 a6 a7 : Value} (h : Below B a w) (hg : B ≤ g) : Below B a ((((((((w.setCell ⟨g, 0, none⟩ (a0)).setCell ⟨g, 1, none⟩ (a1)).setCell ⟨g, 2, none⟩ (a2)).setCell ⟨g, 3, none⟩ (a3)).setCell ⟨g, 4, none⟩ (a4)).setCell ⟨g, 5, none⟩ (a5)).setCell ⟨g, 6, none⟩ (a6)).setCell ⟨g, 7, none⟩ (a7)) :=
  (((((((h.setCell hg _).setCell hg _).setCell hg _).setCell hg _).setCell hg _).setCell hg _).setCell hg _).setCell hg _
theorem IntAt.far8 {w : World} {g b off : Nat} {l : List Int} {a0 a1 a2 a3 a4 a5 a6 a7 : Value} (h : IntAt w b off l) (hne : b ≠ g) : IntAt ((((((((w.setCell ⟨g, 0, none⟩ (a0)).setCell ⟨g, 1, none⟩ (a1)).setCell ⟨g, 2, none⟩ (a2)).setCell ⟨g, 3, none⟩ (a3)).setCell ⟨g, 4, none⟩ (a4)).setCell ⟨g, 5, none⟩ (a5)).setCell ⟨g, 6, none⟩ (a6)).setCell ⟨g, 7, none⟩ (a7)) b off l :=
  (((((((h.far hne _).far hne _).far hne _).far hne _).far hne _).far hne _).far hne _).far hne _

def NewTask (w : World) (t : TV) (e : Ending) (w' : World) : Prop := ∃ g1 g2, e = .returned (.agg #[.int .i64 t.id, .int .i64 t.prio, .int .i64 t.need.c, .int .i64 t.need.m, .int .i64 t.need.p, .slice (some ⟨g1, 0, none⟩) t.want.length t.want.length, .slice (some ⟨g2, 0, none⟩) t.tols.length t.tols.length]) ∧
  w.heap.size ≤ g1 ∧ w.heap.size ≤ g2 ∧ g2 < w'.heap.size ∧ BlockIs w' g1 123 (labL t.want).toArray ∧ IntAt w' g2 0 t.tols ∧ Below w.heap.size w w'
set_option maxHeartbeats 1600000 in
theorem toTask_any (t : TV) (v1 v2 : Value) (w : World) (h1 : LabSl w v1 t.want) (h2 : IntSl w v2 t.tols) (l1 : t.want.length ≤ 1048576) (l2 : t.tols.length ≤ 1048576) :
    Calls Tryz.prog 41 #[.agg #[.int .i64 t.id, .int .i64 t.prio, .int .i64 t.need.c, .int .i64 t.need.m, .int .i64 t.need.p, v1, v2]] w (NewTask w t) := by
  have H1 := Lib.hid h1
  have H2 := Lib.hid h2
  have L1 := Lib.hid l1
  have L2 := Lib.hid l2
  clear h1 h2 l1 l2
  go_enter Tryz.func41, Tryz.ntmps41
  go_wp2_with fail
  refine (toRes_any t.need _).mono ?_
  rintro e w1 ⟨rfl, hb1⟩
  have hz1 := hb1.size
  simp at hz1
  have B0 : BlockIs w1 w.heap.size 67 #[.int .i64 t.id, .int .i64 t.prio, .int .i64 t.need.c, .int .i64 t.need.m, .int .i64 t.need.p, v1, v2] := (((BlockIs.new w _ _).alloc _).alloc _).below hb1 (by simp; omega)
  have B1 : BlockIs w1 (w.heap.size + 1) 73 #[.int .i64 0, .int .i64 0, .int .i64 0, .int .i64 0, .int .i64 0, .slice none 0 0, .slice none 0 0] := (BlockIs.alloc (BlockIs.new' (by simp)) _).below hb1 (by simp)
  have B2 : BlockIs w1 (w.heap.size + 1 + 1) 73 #[.int .i64 t.id, .int .i64 t.prio, .int .i64 0, .int .i64 0, .int .i64 0, .slice none 0 0, .slice none 0 0] := (BlockIs.new' (by simp)).below hb1 (by simp)
  have hC1 : Below w.heap.size w w1 := (by repeat' (first | exact Below.refl _ _ | refine Below.alloc ?_ ?_ _ | refine Below.setCell ?_ ?_ _ | refine Below.drew ?_ | (apply below_step; assumption) | (simp; done) | (simp; omega) | omega))
  have c5 := B0.cell 5
  have c2 := B2.cell 2
  have c3 := B2.cell 3
  have c4 := B2.cell 4
  have f2 := B2.frozen
  simp at c5 c2 c3 c4
  have HB0 := Lib.hid B0
  have HB1 := Lib.hid B1
  have HB2 := Lib.hid B2
  clear B0 B1 B2 hb1
  go_wp2_with fail
  have hC2 : Below w.heap.size w (((w1.setCell ⟨w.heap.size + 1 + 1, 2, none⟩ (.int .i64 t.need.c)).setCell ⟨w.heap.size + 1 + 1, 2 + 1, none⟩ (.int .i64 t.need.m)).setCell ⟨w.heap.size + 1 + 1, 2 + 2, none⟩ (.int .i64 t.need.p)) := (by repeat' (first | exact Below.refl _ _ | refine Below.alloc ?_ ?_ _ | refine Below.setCell ?_ ?_ _ | refine Below.drew ?_ | (apply below_step; assumption) | (simp; done) | (simp; omega) | omega))
  have A0 : BlockIs (((w1.setCell ⟨w.heap.size + 1 + 1, 2, none⟩ (.int .i64 t.need.c)).setCell ⟨w.heap.size + 1 + 1, 2 + 1, none⟩ (.int .i64 t.need.m)).setCell ⟨w.heap.size + 1 + 1, 2 + 2, none⟩ (.int .i64 t.need.p)) w.heap.size 67 #[.int .i64 t.id, .int .i64 t.prio, .int .i64 t.need.c, .int .i64 t.need.m, .int .i64 t.need.p, v1, v2] := ((HB0.out.far (by dsimp only; omega) _).far (by dsimp only; omega) _).far (by dsimp only; omega) _
  have A1 : BlockIs (((w1.setCell ⟨w.heap.size + 1 + 1, 2, none⟩ (.int .i64 t.need.c)).setCell ⟨w.heap.size + 1 + 1, 2 + 1, none⟩ (.int .i64 t.need.m)).setCell ⟨w.heap.size + 1 + 1, 2 + 2, none⟩ (.int .i64 t.need.p)) (w.heap.size + 1) 73 #[.int .i64 0, .int .i64 0, .int .i64 0, .int .i64 0, .int .i64 0, .slice none 0 0, .slice none 0 0] := ((HB1.out.far (by dsimp only; omega) _).far (by dsimp only; omega) _).far (by dsimp only; omega) _
  have A2 : BlockIs (((w1.setCell ⟨w.heap.size + 1 + 1, 2, none⟩ (.int .i64 t.need.c)).setCell ⟨w.heap.size + 1 + 1, 2 + 1, none⟩ (.int .i64 t.need.m)).setCell ⟨w.heap.size + 1 + 1, 2 + 2, none⟩ (.int .i64 t.need.p)) (w.heap.size + 1 + 1) 73 #[.int .i64 t.id, .int .i64 t.prio, .int .i64 t.need.c, .int .i64 t.need.m, .int .i64 t.need.p, .slice none 0 0, .slice none 0 0] := by simpa using ((HB2.out.put 2 _).put 3 _).put 4 _
  generalize (((w1.setCell ⟨w.heap.size + 1 + 1, 2, none⟩ (.int .i64 t.need.c)).setCell ⟨w.heap.size + 1 + 1, 2 + 1, none⟩ (.int .i64 t.need.m)).setCell ⟨w.heap.size + 1 + 1, 2 + 2, none⟩ (.int .i64 t.need.p)) = X2 at hC2 A0 A1 A2 ⊢
  clear HB0 HB1 HB2 hC1 hz1 c5 c2 c3 c4 f2
  refine (toLabS_any v1 t.want _ (H1.out.below hC2) L1.out).mono ?_
  rintro e w3 ⟨g1, rfl, hg1, hblk1, hb3⟩
  have l2 := A2.lt
  have hz3 := hb3.size
  have hC3 : Below w.heap.size w w3 := hC2.trans (hb3.mono hC2.size)
  have B0 := A0.below hb3 A0.lt
  have B1 := A1.below hb3 A1.lt
  have B2 := A2.below hb3 A2.lt
  have c6 := B0.cell 6
  have c5 := B2.cell 5
  have f2 := B2.frozen
  simp at c6 c5
  have HB1 := Lib.hid B1
  have HB2 := Lib.hid B2
  have HG1 := Lib.hid hblk1
  clear A0 A1 A2 B0 B1 B2 hblk1
  go_wp2_with fail
  have hC4 : Below w.heap.size w (w3.setCell ⟨w.heap.size + 1 + 1, 5, none⟩ (.slice (some ⟨g1, 0, none⟩) t.want.length t.want.length)) := (by repeat' (first | exact Below.refl _ _ | refine Below.alloc ?_ ?_ _ | refine Below.setCell ?_ ?_ _ | refine Below.drew ?_ | (apply below_step; assumption) | (simp; done) | (simp; omega) | omega))
  have A1 : BlockIs (w3.setCell ⟨w.heap.size + 1 + 1, 5, none⟩ (.slice (some ⟨g1, 0, none⟩) t.want.length t.want.length)) (w.heap.size + 1) 73 #[.int .i64 0, .int .i64 0, .int .i64 0, .int .i64 0, .int .i64 0, .slice none 0 0, .slice none 0 0] := HB1.out.far (by dsimp only; omega) _
  have A2 : BlockIs (w3.setCell ⟨w.heap.size + 1 + 1, 5, none⟩ (.slice (some ⟨g1, 0, none⟩) t.want.length t.want.length)) (w.heap.size + 1 + 1) 73 #[.int .i64 t.id, .int .i64 t.prio, .int .i64 t.need.c, .int .i64 t.need.m, .int .i64 t.need.p, .slice (some ⟨g1, 0, none⟩) t.want.length t.want.length, .slice none 0 0] := by simpa using HB2.out.put 5 _
  have AG : BlockIs (w3.setCell ⟨w.heap.size + 1 + 1, 5, none⟩ (.slice (some ⟨g1, 0, none⟩) t.want.length t.want.length)) g1 123 (labL t.want).toArray := HG1.out.far (by dsimp only; omega) _
  generalize (w3.setCell ⟨w.heap.size + 1 + 1, 5, none⟩ (.slice (some ⟨g1, 0, none⟩) t.want.length t.want.length)) = X4 at hC4 A1 A2 AG ⊢
  clear HB1 HB2 HG1 hC3 hz3 c5 c6 f2 hb3
  refine (toIntS_any v2 t.tols _ (H2.out.below hC4) L2.out).mono ?_
  rintro e w5 ⟨g2, rfl, hg2, hlt2, hat2, hb5⟩
  have l4 := A2.lt
  have hz5 := hb5.size
  have hC5 : Below w.heap.size w w5 := hC4.trans (hb5.mono hC4.size)
  have B1 := A1.below hb5 A1.lt
  have B2 := A2.below hb5 A2.lt
  have BG := AG.below hb5 AG.lt
  have c0 := B2.cell 0
  have c1 := B2.cell 1
  have c2 := B2.cell 2
  have c3 := B2.cell 3
  have c4 := B2.cell 4
  have c5 := B2.cell 5
  have c6 := B2.cell 6
  have f2 := B2.frozen
  have d0 := B1.cell 0
  have d1 := B1.cell 1
  have d2 := B1.cell 2
  have d3 := B1.cell 3
  have d4 := B1.cell 4
  have d5 := B1.cell 5
  have d6 := B1.cell 6
  have f1 := B1.frozen
  simp at c0 c1 c2 c3 c4 c5 c6 d0 d1 d2 d3 d4 d5 d6
  have HB1 := Lib.hid B1
  have HB2 := Lib.hid B2
  have HG1 := Lib.hid BG
  have HG2 := Lib.hid hat2
  clear A1 A2 AG B1 B2 BG hat2
  go_wp2_with fail
  have hZ : BlockIs ((((((((w5.setCell ⟨w.heap.size + 1 + 1, 6, none⟩ (.slice (some ⟨g2, 0, none⟩) t.tols.length t.tols.length)).setCell ⟨w.heap.size + 1, 0, none⟩ (.int .i64 t.id)).setCell ⟨w.heap.size + 1, 1, none⟩ (.int .i64 t.prio)).setCell ⟨w.heap.size + 1, 2, none⟩ (.int .i64 t.need.c)).setCell ⟨w.heap.size + 1, 3, none⟩ (.int .i64 t.need.m)).setCell ⟨w.heap.size + 1, 4, none⟩ (.int .i64 t.need.p)).setCell ⟨w.heap.size + 1, 5, none⟩ (.slice (some ⟨g1, 0, none⟩) t.want.length t.want.length)).setCell ⟨w.heap.size + 1, 6, none⟩ (.slice (some ⟨g2, 0, none⟩) t.tols.length t.tols.length)) (w.heap.size + 1) 73 #[.int .i64 t.id, .int .i64 t.prio, .int .i64 t.need.c, .int .i64 t.need.m, .int .i64 t.need.p, .slice (some ⟨g1, 0, none⟩) t.want.length t.want.length, .slice (some ⟨g2, 0, none⟩) t.tols.length t.tols.length] := put7 _ _ _ _ _ _ _ (HB1.out.far (by dsimp only; omega) _) rfl
  have hG : BlockIs ((((((((w5.setCell ⟨w.heap.size + 1 + 1, 6, none⟩ (.slice (some ⟨g2, 0, none⟩) t.tols.length t.tols.length)).setCell ⟨w.heap.size + 1, 0, none⟩ (.int .i64 t.id)).setCell ⟨w.heap.size + 1, 1, none⟩ (.int .i64 t.prio)).setCell ⟨w.heap.size + 1, 2, none⟩ (.int .i64 t.need.c)).setCell ⟨w.heap.size + 1, 3, none⟩ (.int .i64 t.need.m)).setCell ⟨w.heap.size + 1, 4, none⟩ (.int .i64 t.need.p)).setCell ⟨w.heap.size + 1, 5, none⟩ (.slice (some ⟨g1, 0, none⟩) t.want.length t.want.length)).setCell ⟨w.heap.size + 1, 6, none⟩ (.slice (some ⟨g2, 0, none⟩) t.tols.length t.tols.length)) g1 123 (labL t.want).toArray := far7 (HG1.out.far (by dsimp only; omega) _) (by omega)
  have hI : IntAt ((((((((w5.setCell ⟨w.heap.size + 1 + 1, 6, none⟩ (.slice (some ⟨g2, 0, none⟩) t.tols.length t.tols.length)).setCell ⟨w.heap.size + 1, 0, none⟩ (.int .i64 t.id)).setCell ⟨w.heap.size + 1, 1, none⟩ (.int .i64 t.prio)).setCell ⟨w.heap.size + 1, 2, none⟩ (.int .i64 t.need.c)).setCell ⟨w.heap.size + 1, 3, none⟩ (.int .i64 t.need.m)).setCell ⟨w.heap.size + 1, 4, none⟩ (.int .i64 t.need.p)).setCell ⟨w.heap.size + 1, 5, none⟩ (.slice (some ⟨g1, 0, none⟩) t.want.length t.want.length)).setCell ⟨w.heap.size + 1, 6, none⟩ (.slice (some ⟨g2, 0, none⟩) t.tols.length t.tols.length)) g2 0 t.tols := IntAt.far7 (HG2.out.far (by dsimp only; omega) _) (by omega)
  have hB : Below w.heap.size w ((((((((w5.setCell ⟨w.heap.size + 1 + 1, 6, none⟩ (.slice (some ⟨g2, 0, none⟩) t.tols.length t.tols.length)).setCell ⟨w.heap.size + 1, 0, none⟩ (.int .i64 t.id)).setCell ⟨w.heap.size + 1, 1, none⟩ (.int .i64 t.prio)).setCell ⟨w.heap.size + 1, 2, none⟩ (.int .i64 t.need.c)).setCell ⟨w.heap.size + 1, 3, none⟩ (.int .i64 t.need.m)).setCell ⟨w.heap.size + 1, 4, none⟩ (.int .i64 t.need.p)).setCell ⟨w.heap.size + 1, 5, none⟩ (.slice (some ⟨g1, 0, none⟩) t.want.length t.want.length)).setCell ⟨w.heap.size + 1, 6, none⟩ (.slice (some ⟨g2, 0, none⟩) t.tols.length t.tols.length)) := below7 (hC5.setCell (by dsimp only; omega) _) (by omega)
  have hs : ((((((((w5.setCell ⟨w.heap.size + 1 + 1, 6, none⟩ (.slice (some ⟨g2, 0, none⟩) t.tols.length t.tols.length)).setCell ⟨w.heap.size + 1, 0, none⟩ (.int .i64 t.id)).setCell ⟨w.heap.size + 1, 1, none⟩ (.int .i64 t.prio)).setCell ⟨w.heap.size + 1, 2, none⟩ (.int .i64 t.need.c)).setCell ⟨w.heap.size + 1, 3, none⟩ (.int .i64 t.need.m)).setCell ⟨w.heap.size + 1, 4, none⟩ (.int .i64 t.need.p)).setCell ⟨w.heap.size + 1, 5, none⟩ (.slice (some ⟨g1, 0, none⟩) t.want.length t.want.length)).setCell ⟨w.heap.size + 1, 6, none⟩ (.slice (some ⟨g2, 0, none⟩) t.tols.length t.tols.length)).heap.size = w5.heap.size := by simp [World.setCell]
  generalize ((((((((w5.setCell ⟨w.heap.size + 1 + 1, 6, none⟩ (.slice (some ⟨g2, 0, none⟩) t.tols.length t.tols.length)).setCell ⟨w.heap.size + 1, 0, none⟩ (.int .i64 t.id)).setCell ⟨w.heap.size + 1, 1, none⟩ (.int .i64 t.prio)).setCell ⟨w.heap.size + 1, 2, none⟩ (.int .i64 t.need.c)).setCell ⟨w.heap.size + 1, 3, none⟩ (.int .i64 t.need.m)).setCell ⟨w.heap.size + 1, 4, none⟩ (.int .i64 t.need.p)).setCell ⟨w.heap.size + 1, 5, none⟩ (.slice (some ⟨g1, 0, none⟩) t.want.length t.want.length)).setCell ⟨w.heap.size + 1, 6, none⟩ (.slice (some ⟨g2, 0, none⟩) t.tols.length t.tols.length)) = X at hZ hG hI hB hs ⊢
  have z0 := hZ.cell 0
  have z1 := hZ.cell 1
  have z2 := hZ.cell 2
  have z3 := hZ.cell 3
  have z4 := hZ.cell 4
  have z5 := hZ.cell 5
  have z6 := hZ.cell 6
  simp at z0 z1 z2 z3 z4 z5 z6
  exact bodyPost_ret (v := .agg #[.int .i64 t.id, .int .i64 t.prio, .int .i64 t.need.c, .int .i64 t.need.m, .int .i64 t.need.p, .slice (some ⟨g1, 0, none⟩) t.want.length t.want.length, .slice (some ⟨g2, 0, none⟩) t.tols.length t.tols.length]) (by simp [results, Tryz.results41, go_sem, z0, z1, z2, z3, z4, z5, z6]) rfl ⟨g1, g2, rfl, by omega, by omega, by omega, hG, hI, hB⟩

set_option maxHeartbeats 1600000 in
theorem eqTask_same (t : TV) (v1 v2 u1 u2 : Value) (w : World) (h1 : LabSl w v1 t.want) (h2 : IntSl w v2 t.tols) (k1 : LabSl w u1 t.want) (k2 : IntSl w u2 t.tols) (l1 : t.want.length ≤ 1048576) (l2 : t.tols.length ≤ 1048576) :
    Calls Tryz.prog 50 #[.agg #[.int .i64 t.id, .int .i64 t.prio, .int .i64 t.need.c, .int .i64 t.need.m, .int .i64 t.need.p, v1, v2], .agg #[.int .i64 t.id, .int .i64 t.prio, .int .i64 t.need.c, .int .i64 t.need.m, .int .i64 t.need.p, u1, u2]] w fun e w' => e = .returned (.bool true) ∧ Below w.heap.size w w' := by
  have H1 := Lib.hid h1
  have H2 := Lib.hid h2
  have K1 := Lib.hid k1
  have K2 := Lib.hid k2
  have L1 := Lib.hid l1
  have L2 := Lib.hid l2
  have e1 : (t.id != t.id) = false := by simp
  have e2 : (t.prio != t.prio) = false := by simp
  clear h1 h2 k1 k2 l1 l2
  go_enter Tryz.func50, Tryz.ntmps50
  go_wp2_with fail
  refine (eqRes_same t.need _).mono ?_
  rintro e w1 ⟨rfl, hb1⟩
  have hz1 := hb1.size
  simp at hz1
  obtain ⟨hc1, hf1⟩ := bcell hb1
  have hC1 : Below w.heap.size w w1 := (by repeat' (first | exact Below.refl _ _ | refine Below.alloc ?_ ?_ _ | refine Below.setCell ?_ ?_ _ | refine Below.drew ?_ | (apply below_step; assumption) | (simp; done) | (simp; omega) | omega))
  go_wp2_with fail
  refine (eqLabS_same v1 u1 t.want _ (H1.out.below hC1) (K1.out.below hC1) L1.out).mono ?_
  rintro e w2 ⟨rfl, hb2⟩
  have hz2 := hb2.size
  obtain ⟨hc2, hf2⟩ := bcell hb2
  have hs1 : w.heap.size < w1.heap.size := by omega
  have hs1' : w.heap.size + 1 < w1.heap.size := by omega
  have hC2 : Below w.heap.size w w2 := hC1.trans (hb2.mono hC1.size)
  go_wp2_with fail
  refine (eqIntS_same v2 u2 t.tols _ (H2.out.below hC2) (K2.out.below hC2) L2.out).mono ?_
  rintro e w3 ⟨rfl, hb3⟩
  have hC3 : Below w.heap.size w w3 := hC2.trans (hb3.mono hC2.size)
  go_wp2_with fail
  go_ret
  exact ⟨rfl, hC3⟩
set_option maxHeartbeats 800000 in
theorem szNode_any (c0 c1 c2 c3 c4 c7 : Value) (A1 A2 : Option Addr) (n1 k1 n2 k2 : Nat) (z : Int) (w : World) (h0 : 0 ≤ z) (hz : z ≤ 1048576) (hm1 : n1 ≤ maxLen) (hm2 : n2 ≤ maxLen) :
    Calls Tryz.prog 31 #[.agg #[c0, c1, c2, c3, c4, .slice A1 n1 k1, .slice A2 n2 k2, c7], .int .i64 z] w fun e w' => e = .returned (.int .i64 (szTV z n1 n2)) ∧ Below w.heap.size w w' := by
  by_cases h1 : (n1 : Int) ≤ z
  · by_cases h2 : (n2 : Int) ≤ z - n1
    · have HE := Lib.hid (show szTV z n1 n2 = z - n1 - n2 by simp [szTV, h1, szLeft, h2])
      have HM := Lib.hid (And.intro hm1 hm2)
      clear hm1 hm2
      go_enter Tryz.func31, Tryz.ntmps31
      go_wp2_with fail
      refine (szLabS_yes A1 n1 k1 z _ hz h1).mono ?_
      rintro e w1 ⟨rfl, rfl⟩
      go_wp2_with fail
      refine (szIntS_yes A2 n2 k2 (z - n1) _ (by omega) h2).mono ?_
      rintro e w1 ⟨rfl, rfl⟩
      go_wp2_with fail
      go_ret
      rw [HE.out]
      exact ⟨rfl, (by repeat' (first | exact Below.refl _ _ | refine Below.alloc ?_ ?_ _ | refine Below.setCell ?_ ?_ _ | refine Below.drew ?_ | (apply below_step; assumption) | (simp; done) | (simp; omega) | omega))⟩
    · have HE := Lib.hid (show szTV z n1 n2 = -1 by simp [szTV, h1, szLeft, h2])
      have HM := Lib.hid (And.intro hm1 hm2)
      have h2' : z - n1 < n2 := by omega
      clear hm1 hm2 h2
      go_enter Tryz.func31, Tryz.ntmps31
      go_wp2_with fail
      refine (szLabS_yes A1 n1 k1 z _ hz h1).mono ?_
      rintro e w1 ⟨rfl, rfl⟩
      go_wp2_with fail
      refine (szIntS_no A2 n2 k2 (z - n1) _ (by omega) h2' HM.out.2).mono ?_
      rintro e w1 ⟨rfl, rfl⟩
      go_wp2_with fail
      go_ret
      rw [HE.out]
      exact ⟨rfl, (by repeat' (first | exact Below.refl _ _ | refine Below.alloc ?_ ?_ _ | refine Below.setCell ?_ ?_ _ | refine Below.drew ?_ | (apply below_step; assumption) | (simp; done) | (simp; omega) | omega))⟩
  · have HE := Lib.hid (show szTV z n1 n2 = -1 by simp [szTV, h1])
    have HM := Lib.hid (And.intro hm1 hm2)
    have h1' : z < n1 := by omega
    clear hm1 hm2 h1
    go_enter Tryz.func31, Tryz.ntmps31
    go_wp2_with fail
    refine (szLabS_no A1 n1 k1 z _ h0 h1' HM.out.1).mono ?_
    rintro e w1 ⟨rfl, rfl⟩
    go_wp2_with fail
    go_ret
    rw [HE.out]
    exact ⟨rfl, (by repeat' (first | exact Below.refl _ _ | refine Below.alloc ?_ ?_ _ | refine Below.setCell ?_ ?_ _ | refine Below.drew ?_ | (apply below_step; assumption) | (simp; done) | (simp; omega) | omega))⟩

def NewNode (w : World) (t : NV) (e : Ending) (w' : World) : Prop := ∃ g1 g2, e = .returned (.agg #[.int .i64 t.id, .int .i64 t.pool, .int .i64 t.cap.c, .int .i64 t.cap.m, .int .i64 t.cap.p, .slice (some ⟨g1, 0, none⟩) t.labs.length t.labs.length, .slice (some ⟨g2, 0, none⟩) t.taints.length t.taints.length, .bool t.cordon]) ∧
  w.heap.size ≤ g1 ∧ w.heap.size ≤ g2 ∧ g2 < w'.heap.size ∧ BlockIs w' g1 123 (labL t.labs).toArray ∧ IntAt w' g2 0 t.taints ∧ Below w.heap.size w w'
set_option maxHeartbeats 1600000 in
theorem toNode_any (t : NV) (v1 v2 : Value) (w : World) (h1 : LabSl w v1 t.labs) (h2 : IntSl w v2 t.taints) (l1 : t.labs.length ≤ 1048576) (l2 : t.taints.length ≤ 1048576) :
    Calls Tryz.prog 42 #[.agg #[.int .i64 t.id, .int .i64 t.pool, .int .i64 t.cap.c, .int .i64 t.cap.m, .int .i64 t.cap.p, v1, v2, .bool t.cordon]] w (NewNode w t) := by
  have H1 := Lib.hid h1
  have H2 := Lib.hid h2
  have L1 := Lib.hid l1
  have L2 := Lib.hid l2
  clear h1 h2 l1 l2
  go_enter Tryz.func42, Tryz.ntmps42
  go_wp2_with fail
  refine (toRes_any t.cap _).mono ?_
  rintro e w1 ⟨rfl, hb1⟩
  have hz1 := hb1.size
  simp at hz1
  have B0 : BlockIs w1 w.heap.size 70 #[.int .i64 t.id, .int .i64 t.pool, .int .i64 t.cap.c, .int .i64 t.cap.m, .int .i64 t.cap.p, v1, v2, .bool t.cordon] := (((BlockIs.new w _ _).alloc _).alloc _).below hb1 (by simp; omega)
  have B1 : BlockIs w1 (w.heap.size + 1) 51 #[.int .i64 0, .int .i64 0, .int .i64 0, .int .i64 0, .int .i64 0, .slice none 0 0, .slice none 0 0, .bool false] := (BlockIs.alloc (BlockIs.new' (by simp)) _).below hb1 (by simp)
  have B2 : BlockIs w1 (w.heap.size + 1 + 1) 51 #[.int .i64 t.id, .int .i64 t.pool, .int .i64 0, .int .i64 0, .int .i64 0, .slice none 0 0, .slice none 0 0, .bool false] := (BlockIs.new' (by simp)).below hb1 (by simp)
  have hC1 : Below w.heap.size w w1 := (by repeat' (first | exact Below.refl _ _ | refine Below.alloc ?_ ?_ _ | refine Below.setCell ?_ ?_ _ | refine Below.drew ?_ | (apply below_step; assumption) | (simp; done) | (simp; omega) | omega))
  have c5 := B0.cell 5
  have c2 := B2.cell 2
  have c3 := B2.cell 3
  have c4 := B2.cell 4
  have f2 := B2.frozen
  simp at c5 c2 c3 c4
  have HB0 := Lib.hid B0
  have HB1 := Lib.hid B1
  have HB2 := Lib.hid B2
  clear B0 B1 B2 hb1
  go_wp2_with fail
  have hC2 : Below w.heap.size w (((w1.setCell ⟨w.heap.size + 1 + 1, 2, none⟩ (.int .i64 t.cap.c)).setCell ⟨w.heap.size + 1 + 1, 2 + 1, none⟩ (.int .i64 t.cap.m)).setCell ⟨w.heap.size + 1 + 1, 2 + 2, none⟩ (.int .i64 t.cap.p)) := (by repeat' (first | exact Below.refl _ _ | refine Below.alloc ?_ ?_ _ | refine Below.setCell ?_ ?_ _ | refine Below.drew ?_ | (apply below_step; assumption) | (simp; done) | (simp; omega) | omega))
  have A0 : BlockIs (((w1.setCell ⟨w.heap.size + 1 + 1, 2, none⟩ (.int .i64 t.cap.c)).setCell ⟨w.heap.size + 1 + 1, 2 + 1, none⟩ (.int .i64 t.cap.m)).setCell ⟨w.heap.size + 1 + 1, 2 + 2, none⟩ (.int .i64 t.cap.p)) w.heap.size 70 #[.int .i64 t.id, .int .i64 t.pool, .int .i64 t.cap.c, .int .i64 t.cap.m, .int .i64 t.cap.p, v1, v2, .bool t.cordon] := ((HB0.out.far (by dsimp only; omega) _).far (by dsimp only; omega) _).far (by dsimp only; omega) _
  have A1 : BlockIs (((w1.setCell ⟨w.heap.size + 1 + 1, 2, none⟩ (.int .i64 t.cap.c)).setCell ⟨w.heap.size + 1 + 1, 2 + 1, none⟩ (.int .i64 t.cap.m)).setCell ⟨w.heap.size + 1 + 1, 2 + 2, none⟩ (.int .i64 t.cap.p)) (w.heap.size + 1) 51 #[.int .i64 0, .int .i64 0, .int .i64 0, .int .i64 0, .int .i64 0, .slice none 0 0, .slice none 0 0, .bool false] := ((HB1.out.far (by dsimp only; omega) _).far (by dsimp only; omega) _).far (by dsimp only; omega) _
  have A2 : BlockIs (((w1.setCell ⟨w.heap.size + 1 + 1, 2, none⟩ (.int .i64 t.cap.c)).setCell ⟨w.heap.size + 1 + 1, 2 + 1, none⟩ (.int .i64 t.cap.m)).setCell ⟨w.heap.size + 1 + 1, 2 + 2, none⟩ (.int .i64 t.cap.p)) (w.heap.size + 1 + 1) 51 #[.int .i64 t.id, .int .i64 t.pool, .int .i64 t.cap.c, .int .i64 t.cap.m, .int .i64 t.cap.p, .slice none 0 0, .slice none 0 0, .bool false] := by simpa using ((HB2.out.put 2 _).put 3 _).put 4 _
  generalize (((w1.setCell ⟨w.heap.size + 1 + 1, 2, none⟩ (.int .i64 t.cap.c)).setCell ⟨w.heap.size + 1 + 1, 2 + 1, none⟩ (.int .i64 t.cap.m)).setCell ⟨w.heap.size + 1 + 1, 2 + 2, none⟩ (.int .i64 t.cap.p)) = X2 at hC2 A0 A1 A2 ⊢
  clear HB0 HB1 HB2 hC1 hz1 c5 c2 c3 c4 f2
  refine (toLabS_any v1 t.labs _ (H1.out.below hC2) L1.out).mono ?_
  rintro e w3 ⟨g1, rfl, hg1, hblk1, hb3⟩
  have l2 := A2.lt
  have hz3 := hb3.size
  have hC3 : Below w.heap.size w w3 := hC2.trans (hb3.mono hC2.size)
  have B0 := A0.below hb3 A0.lt
  have B1 := A1.below hb3 A1.lt
  have B2 := A2.below hb3 A2.lt
  have c6 := B0.cell 6
  have c5 := B2.cell 5
  have f2 := B2.frozen
  simp at c6 c5
  have HB1 := Lib.hid B1
  have HB2 := Lib.hid B2
  have HG1 := Lib.hid hblk1
  have HB0 := Lib.hid B0
  clear A0 A1 A2 B0 B1 B2 hblk1
  go_wp2_with fail
  have hC4 : Below w.heap.size w (w3.setCell ⟨w.heap.size + 1 + 1, 5, none⟩ (.slice (some ⟨g1, 0, none⟩) t.labs.length t.labs.length)) := (by repeat' (first | exact Below.refl _ _ | refine Below.alloc ?_ ?_ _ | refine Below.setCell ?_ ?_ _ | refine Below.drew ?_ | (apply below_step; assumption) | (simp; done) | (simp; omega) | omega))
  have A1 : BlockIs (w3.setCell ⟨w.heap.size + 1 + 1, 5, none⟩ (.slice (some ⟨g1, 0, none⟩) t.labs.length t.labs.length)) (w.heap.size + 1) 51 #[.int .i64 0, .int .i64 0, .int .i64 0, .int .i64 0, .int .i64 0, .slice none 0 0, .slice none 0 0, .bool false] := HB1.out.far (by dsimp only; omega) _
  have A2 : BlockIs (w3.setCell ⟨w.heap.size + 1 + 1, 5, none⟩ (.slice (some ⟨g1, 0, none⟩) t.labs.length t.labs.length)) (w.heap.size + 1 + 1) 51 #[.int .i64 t.id, .int .i64 t.pool, .int .i64 t.cap.c, .int .i64 t.cap.m, .int .i64 t.cap.p, .slice (some ⟨g1, 0, none⟩) t.labs.length t.labs.length, .slice none 0 0, .bool false] := by simpa using HB2.out.put 5 _
  have A0 : BlockIs (w3.setCell ⟨w.heap.size + 1 + 1, 5, none⟩ (.slice (some ⟨g1, 0, none⟩) t.labs.length t.labs.length)) w.heap.size 70 #[.int .i64 t.id, .int .i64 t.pool, .int .i64 t.cap.c, .int .i64 t.cap.m, .int .i64 t.cap.p, v1, v2, .bool t.cordon] := HB0.out.far (by dsimp only; omega) _
  have AG : BlockIs (w3.setCell ⟨w.heap.size + 1 + 1, 5, none⟩ (.slice (some ⟨g1, 0, none⟩) t.labs.length t.labs.length)) g1 123 (labL t.labs).toArray := HG1.out.far (by dsimp only; omega) _
  generalize (w3.setCell ⟨w.heap.size + 1 + 1, 5, none⟩ (.slice (some ⟨g1, 0, none⟩) t.labs.length t.labs.length)) = X4 at hC4 A0 A1 A2 AG ⊢
  clear HB0 HB1 HB2 HG1 hC3 hz3 c5 c6 f2 hb3
  refine (toIntS_any v2 t.taints _ (H2.out.below hC4) L2.out).mono ?_
  rintro e w5 ⟨g2, rfl, hg2, hlt2, hat2, hb5⟩
  have l4 := A2.lt
  have hz5 := hb5.size
  have hC5 : Below w.heap.size w w5 := hC4.trans (hb5.mono hC4.size)
  have B1 := A1.below hb5 A1.lt
  have B2 := A2.below hb5 A2.lt
  have BG := AG.below hb5 AG.lt
  have B0 := A0.below hb5 A0.lt
  have b7 := B0.cell 7
  have f0 := B0.frozen
  have c7 := B2.cell 7
  have d7 := B1.cell 7
  have c0 := B2.cell 0
  have c1 := B2.cell 1
  have c2 := B2.cell 2
  have c3 := B2.cell 3
  have c4 := B2.cell 4
  have c5 := B2.cell 5
  have c6 := B2.cell 6
  have f2 := B2.frozen
  have d0 := B1.cell 0
  have d1 := B1.cell 1
  have d2 := B1.cell 2
  have d3 := B1.cell 3
  have d4 := B1.cell 4
  have d5 := B1.cell 5
  have d6 := B1.cell 6
  have f1 := B1.frozen
  simp at b7 c7 d7 c0 c1 c2 c3 c4 c5 c6 d0 d1 d2 d3 d4 d5 d6
  have HB1 := Lib.hid B1
  have HB2 := Lib.hid B2
  have HG1 := Lib.hid BG
  have HG2 := Lib.hid hat2
  clear A0 A1 A2 AG B0 B1 B2 BG hat2
  go_wp2_with fail
  have hZ : BlockIs ((((((((((w5.setCell ⟨w.heap.size + 1 + 1, 6, none⟩ (.slice (some ⟨g2, 0, none⟩) t.taints.length t.taints.length)).setCell ⟨w.heap.size + 1 + 1, 7, none⟩ (.bool t.cordon)).setCell ⟨w.heap.size + 1, 0, none⟩ (.int .i64 t.id)).setCell ⟨w.heap.size + 1, 1, none⟩ (.int .i64 t.pool)).setCell ⟨w.heap.size + 1, 2, none⟩ (.int .i64 t.cap.c)).setCell ⟨w.heap.size + 1, 3, none⟩ (.int .i64 t.cap.m)).setCell ⟨w.heap.size + 1, 4, none⟩ (.int .i64 t.cap.p)).setCell ⟨w.heap.size + 1, 5, none⟩ (.slice (some ⟨g1, 0, none⟩) t.labs.length t.labs.length)).setCell ⟨w.heap.size + 1, 6, none⟩ (.slice (some ⟨g2, 0, none⟩) t.taints.length t.taints.length)).setCell ⟨w.heap.size + 1, 7, none⟩ (.bool t.cordon)) (w.heap.size + 1) 51 #[.int .i64 t.id, .int .i64 t.pool, .int .i64 t.cap.c, .int .i64 t.cap.m, .int .i64 t.cap.p, .slice (some ⟨g1, 0, none⟩) t.labs.length t.labs.length, .slice (some ⟨g2, 0, none⟩) t.taints.length t.taints.length, .bool t.cordon] := put8 _ _ _ _ _ _ _ _ ((HB1.out.far (by dsimp only; omega) _).far (by dsimp only; omega) _) rfl
  have hG : BlockIs ((((((((((w5.setCell ⟨w.heap.size + 1 + 1, 6, none⟩ (.slice (some ⟨g2, 0, none⟩) t.taints.length t.taints.length)).setCell ⟨w.heap.size + 1 + 1, 7, none⟩ (.bool t.cordon)).setCell ⟨w.heap.size + 1, 0, none⟩ (.int .i64 t.id)).setCell ⟨w.heap.size + 1, 1, none⟩ (.int .i64 t.pool)).setCell ⟨w.heap.size + 1, 2, none⟩ (.int .i64 t.cap.c)).setCell ⟨w.heap.size + 1, 3, none⟩ (.int .i64 t.cap.m)).setCell ⟨w.heap.size + 1, 4, none⟩ (.int .i64 t.cap.p)).setCell ⟨w.heap.size + 1, 5, none⟩ (.slice (some ⟨g1, 0, none⟩) t.labs.length t.labs.length)).setCell ⟨w.heap.size + 1, 6, none⟩ (.slice (some ⟨g2, 0, none⟩) t.taints.length t.taints.length)).setCell ⟨w.heap.size + 1, 7, none⟩ (.bool t.cordon)) g1 123 (labL t.labs).toArray := far8 ((HG1.out.far (by dsimp only; omega) _).far (by dsimp only; omega) _) (by omega)
  have hI : IntAt ((((((((((w5.setCell ⟨w.heap.size + 1 + 1, 6, none⟩ (.slice (some ⟨g2, 0, none⟩) t.taints.length t.taints.length)).setCell ⟨w.heap.size + 1 + 1, 7, none⟩ (.bool t.cordon)).setCell ⟨w.heap.size + 1, 0, none⟩ (.int .i64 t.id)).setCell ⟨w.heap.size + 1, 1, none⟩ (.int .i64 t.pool)).setCell ⟨w.heap.size + 1, 2, none⟩ (.int .i64 t.cap.c)).setCell ⟨w.heap.size + 1, 3, none⟩ (.int .i64 t.cap.m)).setCell ⟨w.heap.size + 1, 4, none⟩ (.int .i64 t.cap.p)).setCell ⟨w.heap.size + 1, 5, none⟩ (.slice (some ⟨g1, 0, none⟩) t.labs.length t.labs.length)).setCell ⟨w.heap.size + 1, 6, none⟩ (.slice (some ⟨g2, 0, none⟩) t.taints.length t.taints.length)).setCell ⟨w.heap.size + 1, 7, none⟩ (.bool t.cordon)) g2 0 t.taints := IntAt.far8 ((HG2.out.far (by dsimp only; omega) _).far (by dsimp only; omega) _) (by omega)
  have hB : Below w.heap.size w ((((((((((w5.setCell ⟨w.heap.size + 1 + 1, 6, none⟩ (.slice (some ⟨g2, 0, none⟩) t.taints.length t.taints.length)).setCell ⟨w.heap.size + 1 + 1, 7, none⟩ (.bool t.cordon)).setCell ⟨w.heap.size + 1, 0, none⟩ (.int .i64 t.id)).setCell ⟨w.heap.size + 1, 1, none⟩ (.int .i64 t.pool)).setCell ⟨w.heap.size + 1, 2, none⟩ (.int .i64 t.cap.c)).setCell ⟨w.heap.size + 1, 3, none⟩ (.int .i64 t.cap.m)).setCell ⟨w.heap.size + 1, 4, none⟩ (.int .i64 t.cap.p)).setCell ⟨w.heap.size + 1, 5, none⟩ (.slice (some ⟨g1, 0, none⟩) t.labs.length t.labs.length)).setCell ⟨w.heap.size + 1, 6, none⟩ (.slice (some ⟨g2, 0, none⟩) t.taints.length t.taints.length)).setCell ⟨w.heap.size + 1, 7, none⟩ (.bool t.cordon)) := below8 ((hC5.setCell (by dsimp only; omega) _).setCell (by dsimp only; omega) _) (by omega)
  have hs : ((((((((((w5.setCell ⟨w.heap.size + 1 + 1, 6, none⟩ (.slice (some ⟨g2, 0, none⟩) t.taints.length t.taints.length)).setCell ⟨w.heap.size + 1 + 1, 7, none⟩ (.bool t.cordon)).setCell ⟨w.heap.size + 1, 0, none⟩ (.int .i64 t.id)).setCell ⟨w.heap.size + 1, 1, none⟩ (.int .i64 t.pool)).setCell ⟨w.heap.size + 1, 2, none⟩ (.int .i64 t.cap.c)).setCell ⟨w.heap.size + 1, 3, none⟩ (.int .i64 t.cap.m)).setCell ⟨w.heap.size + 1, 4, none⟩ (.int .i64 t.cap.p)).setCell ⟨w.heap.size + 1, 5, none⟩ (.slice (some ⟨g1, 0, none⟩) t.labs.length t.labs.length)).setCell ⟨w.heap.size + 1, 6, none⟩ (.slice (some ⟨g2, 0, none⟩) t.taints.length t.taints.length)).setCell ⟨w.heap.size + 1, 7, none⟩ (.bool t.cordon)).heap.size = w5.heap.size := by simp [World.setCell]
  generalize ((((((((((w5.setCell ⟨w.heap.size + 1 + 1, 6, none⟩ (.slice (some ⟨g2, 0, none⟩) t.taints.length t.taints.length)).setCell ⟨w.heap.size + 1 + 1, 7, none⟩ (.bool t.cordon)).setCell ⟨w.heap.size + 1, 0, none⟩ (.int .i64 t.id)).setCell ⟨w.heap.size + 1, 1, none⟩ (.int .i64 t.pool)).setCell ⟨w.heap.size + 1, 2, none⟩ (.int .i64 t.cap.c)).setCell ⟨w.heap.size + 1, 3, none⟩ (.int .i64 t.cap.m)).setCell ⟨w.heap.size + 1, 4, none⟩ (.int .i64 t.cap.p)).setCell ⟨w.heap.size + 1, 5, none⟩ (.slice (some ⟨g1, 0, none⟩) t.labs.length t.labs.length)).setCell ⟨w.heap.size + 1, 6, none⟩ (.slice (some ⟨g2, 0, none⟩) t.taints.length t.taints.length)).setCell ⟨w.heap.size + 1, 7, none⟩ (.bool t.cordon)) = X at hZ hG hI hB hs ⊢
  have z0 := hZ.cell 0
  have z1 := hZ.cell 1
  have z2 := hZ.cell 2
  have z3 := hZ.cell 3
  have z4 := hZ.cell 4
  have z5 := hZ.cell 5
  have z6 := hZ.cell 6
  have z7 := hZ.cell 7
  simp at z7 z0 z1 z2 z3 z4 z5 z6
  exact bodyPost_ret (v := .agg #[.int .i64 t.id, .int .i64 t.pool, .int .i64 t.cap.c, .int .i64 t.cap.m, .int .i64 t.cap.p, .slice (some ⟨g1, 0, none⟩) t.labs.length t.labs.length, .slice (some ⟨g2, 0, none⟩) t.taints.length t.taints.length, .bool t.cordon]) (by simp [results, Tryz.results42, go_sem, z0, z1, z2, z3, z4, z5, z6, z7]) rfl ⟨g1, g2, rfl, by omega, by omega, by omega, hG, hI, hB⟩

set_option maxHeartbeats 1600000 in
theorem eqNode_same (t : NV) (v1 v2 u1 u2 : Value) (w : World) (h1 : LabSl w v1 t.labs) (h2 : IntSl w v2 t.taints) (k1 : LabSl w u1 t.labs) (k2 : IntSl w u2 t.taints) (l1 : t.labs.length ≤ 1048576) (l2 : t.taints.length ≤ 1048576) :
    Calls Tryz.prog 51 #[.agg #[.int .i64 t.id, .int .i64 t.pool, .int .i64 t.cap.c, .int .i64 t.cap.m, .int .i64 t.cap.p, v1, v2, .bool t.cordon], .agg #[.int .i64 t.id, .int .i64 t.pool, .int .i64 t.cap.c, .int .i64 t.cap.m, .int .i64 t.cap.p, u1, u2, .bool t.cordon]] w fun e w' => e = .returned (.bool true) ∧ Below w.heap.size w w' := by
  have H1 := Lib.hid h1
  have H2 := Lib.hid h2
  have K1 := Lib.hid k1
  have K2 := Lib.hid k2
  have L1 := Lib.hid l1
  have L2 := Lib.hid l2
  have e1 : (t.id != t.id) = false := by simp
  have e3 : (t.cordon != t.cordon) = false := by simp
  have e2 : (t.pool != t.pool) = false := by simp
  clear h1 h2 k1 k2 l1 l2
  go_enter Tryz.func51, Tryz.ntmps51
  go_wp2_with fail
  refine (eqRes_same t.cap _).mono ?_
  rintro e w1 ⟨rfl, hb1⟩
  have hz1 := hb1.size
  simp at hz1
  obtain ⟨hc1, hf1⟩ := bcell hb1
  have hC1 : Below w.heap.size w w1 := (by repeat' (first | exact Below.refl _ _ | refine Below.alloc ?_ ?_ _ | refine Below.setCell ?_ ?_ _ | refine Below.drew ?_ | (apply below_step; assumption) | (simp; done) | (simp; omega) | omega))
  go_wp2_with fail
  refine (eqLabS_same v1 u1 t.labs _ (H1.out.below hC1) (K1.out.below hC1) L1.out).mono ?_
  rintro e w2 ⟨rfl, hb2⟩
  have hz2 := hb2.size
  obtain ⟨hc2, hf2⟩ := bcell hb2
  have hs1 : w.heap.size < w1.heap.size := by omega
  have hs1' : w.heap.size + 1 < w1.heap.size := by omega
  have hC2 : Below w.heap.size w w2 := hC1.trans (hb2.mono hC1.size)
  go_wp2_with fail
  refine (eqIntS_same v2 u2 t.taints _ (H2.out.below hC2) (K2.out.below hC2) L2.out).mono ?_
  rintro e w3 ⟨rfl, hb3⟩
  obtain ⟨hc3, hf3⟩ := bcell hb3
  have hs2 : w.heap.size < w2.heap.size := by omega
  have hs2' : w.heap.size + 1 < w2.heap.size := by omega
  have hC3 : Below w.heap.size w w3 := hC2.trans (hb3.mono hC2.size)
  go_wp2_with fail
  go_ret
  exact ⟨rfl, hC3⟩
end Go.Proofs.YtkaecjjbammphaaGreatDoor
namespace Go.Proofs.YtkaecjjbammphaaGreatDoor
open Go.RowKit

end Go.Proofs.YtkaecjjbammphaaGreatDoor

namespace Go.Proofs.YtkaecjjbammphaaGreatDoor
open Go.RowKit

set_option maxHeartbeats 800000 in
theorem isTask_any (t : TV) (cs : List Value) (B : Nat) (z : Int) (w : World) (ok : Bool) (hR : TaskR w t cs) (hz : w.cell? ⟨B, 0, none⟩ = some (.int .i64 z)) (hok : decide (t.id = z) = ok) :
    Calls Tryz.prog 88 #[.agg cs.toArray, .pointer (some ⟨B, 0, none⟩)] w fun e w' => e = .returned (.bool ok) ∧ Below w.heap.size w w' := by
  obtain ⟨v1, v2, rfl, sl, si, m1, m2⟩ := hR; obtain ⟨A1, c1, rfl, _⟩ := sl.form; obtain ⟨A2, c2, rfl, _⟩ := si.form
  clear sl si m1 m2
  have hB := World.block_lt_of_cell? _ _ hz
  simp only at hB
  have HE := Lib.hid (show (t.id == z) = ok by rw [← hok]; rfl)
  clear hok
  go_enter Tryz.func88, Tryz.ntmps88
  go_wp2_with fail
  go_ret
  exact ⟨by rw [HE.out]; simp, (by repeat' (first | exact Below.refl _ _ | refine Below.alloc ?_ ?_ _ | refine Below.setCell ?_ ?_ _ | refine Below.drew ?_ | (apply below_step; assumption) | (simp; done) | (simp; omega) | omega))⟩

set_option maxHeartbeats 1600000 in
theorem indexTask_any (B : Nat) (z : Int) (v : Value) (l : List TV) (w : World) (hv : TaskSl w v l) (hlen : l.length ≤ 1048576) (hz : w.cell? ⟨B, 0, none⟩ = some (.int .i64 z)) :
    Calls Tryz.prog 103 #[v, .func (.func 88) #[] #[.pointer (some ⟨B, 0, none⟩)]] w fun e w' => e = .returned (.int .i64 (idxBy TV.id l z)) ∧ Below w.heap.size w w' := by
  obtain ⟨A, c, rfl, hA⟩ := hv.form
  have HA := Lib.hid hA
  have hB := World.block_lt_of_cell? _ _ hz
  simp only at hB
  have HZ := Lib.hid hz
  clear hA hv hz
  go_enter Tryz.func103, Tryz.ntmps103
  go_wp2_with fail
  go_loopw [8] (fun s8 wr => ∃ k : Nat, k ≤ l.length ∧ s8 = .int .i64 k ∧ idxBy TV.id l z = idxGo TV.id k (l.drop k) z ∧ Below w.heap.size w wr) (fun s8 _ => (l.length - intOf s8).toNat)
  case atStart => exact ⟨0, by omega, rfl, by simp [idxBy], Below.refl _ _⟩
  case round =>
    obtain ⟨k, hk, rfl, hidx, hBr⟩ := hrel
    have HI := Lib.hid hidx
    have hzr := hBr.size
    have HZR := Lib.hid ((hBr.cell (p := ⟨B, 0, none⟩) hB).trans HZ.out)
    clear hidx
    by_cases hlt : k < l.length
    · obtain ⟨b, off, rfl, hbw, hat⟩ := HA.out (by omega)
      obtain ⟨t, ht⟩ : ∃ t, l[k]? = some t := ⟨_, List.getElem?_eq_getElem hlt⟩
      obtain ⟨cs, hR, hC⟩ := (hat.below TaskR.kept hBr hbw) k t ht
      have HR := Lib.hid hR
      have HD := Lib.hid (drop_at ht)
      obtain ⟨v1, v2, rfl, sl, si, m1, m2⟩ := hR; obtain ⟨A1, c1, rfl, _⟩ := sl.form; obtain ⟨A2, c2, rfl, _⟩ := si.form
      clear sl si m1 m2
      obtain ⟨q0, q1, q2, q3, q4, q5, q6⟩ := task_cells hC
      clear hat hC ht
      by_cases e : t.id = z
      · have HE := Lib.hid e
        clear e
        go_wp2_with fail
        refine (isTask_any t _ B z _ true HR.out HZR.out (by simpa using HE.out)).mono ?_
        rintro e w2 ⟨rfl, hb2⟩
        go_wp2_with fail
        go_ret
        refine ⟨?_, (by repeat' (first | exact Below.refl _ _ | refine Below.alloc ?_ ?_ _ | refine Below.setCell ?_ ?_ _ | refine Below.drew ?_ | (apply below_step; assumption) | (simp; done) | (simp; omega) | omega))⟩
        rw [HI.out, HD.out, idxGo_hit HE.out]; rfl
      · have HE := Lib.hid e
        clear e
        go_wp2_with fail
        refine (isTask_any t _ B z _ false HR.out HZR.out (by simpa using HE.out)).mono ?_
        rintro e w2 ⟨rfl, hb2⟩
        go_wp2_with fail
        go_roundw
        case rel => exact ⟨k + 1, by omega, by go_num, by rw [HI.out, HD.out, idxGo_miss HE.out]; simp, (by repeat' (first | exact Below.refl _ _ | refine Below.alloc ?_ ?_ _ | refine Below.setCell ?_ ?_ _ | refine Below.drew ?_ | (apply below_step; assumption) | (simp; done) | (simp; omega) | omega))⟩
        case measure => simp [intOf]; omega
    · have hkl : k = l.length := by omega
      have HF := Lib.hid (show idxBy TV.id l z = -1 by rw [HI.out, hkl, List.drop_length]; rfl)
      clear hkl
      go_wp2_with fail
      go_ret
      exact ⟨by rw [HF.out]; rfl, hBr⟩

set_option maxHeartbeats 1600000 in
theorem findGTask_any (B : Nat) (z : Int) (v : Value) (l : List TV) (w0 w : World) (hw : Below w0.heap.size w0 w) (hv : TaskSl w0 v l) (hlen : l.length ≤ 1048576) (hz : w.cell? ⟨B, 0, none⟩ = some (.int .i64 z)) :
    Calls Tryz.prog 87 #[v, .func (.func 88) #[] #[.pointer (some ⟨B, 0, none⟩)]] w (RetFTask w0 w (fstBy TV.id l z)) := by
  have hv' := hv.below hw
  obtain ⟨A, c, rfl, hA⟩ := hv.form
  have hB := World.block_lt_of_cell? _ _ hz
  simp only at hB
  have HV := Lib.hid hv'
  have HZ := Lib.hid hz
  have HW := Lib.hid hw
  have hi := fun w hv hz => indexTask_any B z (.slice A l.length c) l w hv hlen hz
  cases hf : fstBy TV.id l z with
  | none =>
    rw [idxBy_none hf] at hi
    have HI := Lib.hid hi
    clear hi hf hv hv' hw hz hA
    go_enter Tryz.func87, Tryz.ntmps87
    go_wp2_with fail
    refine (HI.out _ (HV.out.below (by repeat' (first | exact Below.refl _ _ | refine Below.alloc ?_ ?_ _ | refine Below.setCell ?_ ?_ _ | refine Below.drew ?_ | (apply below_step; assumption) | (simp; done) | (simp; omega) | omega))) ((World.cell?_alloc_lt _ _ _ hB).trans HZ.out)).mono ?_
    rintro e w2 ⟨rfl, hb2⟩
    have hz2 := hb2.size
    simp at hz2
    have B1 : BlockIs w2 w.heap.size 73 #[.int .i64 0, .int .i64 0, .int .i64 0, .int .i64 0, .int .i64 0, .slice none 0 0, .slice none 0 0] := (BlockIs.new w _ _).below hb2 (by simp)
    have hC2 : Below w.heap.size w w2 := (by repeat' (first | exact Below.refl _ _ | refine Below.alloc ?_ ?_ _ | refine Below.setCell ?_ ?_ _ | refine Below.drew ?_ | (apply below_step; assumption) | (simp; done) | (simp; omega) | omega))
    have d0 := B1.cell 0; have d1 := B1.cell 1; have d2 := B1.cell 2; have d3 := B1.cell 3; have d4 := B1.cell 4; have d5 := B1.cell 5; have d6 := B1.cell 6
    have f1 := B1.frozen
    simp at d0 d1 d2 d3 d4 d5 d6
    have HB1 := Lib.hid B1
    have hl2 : w.heap.size < w2.heap.size := by omega
    clear B1
    go_wp2_with fail
    have hZ : BlockIs (World.alloc (((((((w2.setCell ⟨w.heap.size, 0, none⟩ (.int .i64 0)).setCell ⟨w.heap.size, 1, none⟩ (.int .i64 0)).setCell ⟨w.heap.size, 2, none⟩ (.int .i64 0)).setCell ⟨w.heap.size, 3, none⟩ (.int .i64 0)).setCell ⟨w.heap.size, 4, none⟩ (.int .i64 0)).setCell ⟨w.heap.size, 5, none⟩ (.slice none 0 0)).setCell ⟨w.heap.size, 6, none⟩ (.slice none 0 0)) (.cells #[.int .i64 0, .int .i64 0, .int .i64 0, .int .i64 0, .int .i64 0, .slice none 0 0, .slice none 0 0] 73)) w.heap.size 73 #[.int .i64 0, .int .i64 0, .int .i64 0, .int .i64 0, .int .i64 0, .slice none 0 0, .slice none 0 0] := (put7 _ _ _ _ _ _ _ HB1.out rfl).alloc _
    have hX : Below w.heap.size w (World.alloc (((((((w2.setCell ⟨w.heap.size, 0, none⟩ (.int .i64 0)).setCell ⟨w.heap.size, 1, none⟩ (.int .i64 0)).setCell ⟨w.heap.size, 2, none⟩ (.int .i64 0)).setCell ⟨w.heap.size, 3, none⟩ (.int .i64 0)).setCell ⟨w.heap.size, 4, none⟩ (.int .i64 0)).setCell ⟨w.heap.size, 5, none⟩ (.slice none 0 0)).setCell ⟨w.heap.size, 6, none⟩ (.slice none 0 0)) (.cells #[.int .i64 0, .int .i64 0, .int .i64 0, .int .i64 0, .int .i64 0, .slice none 0 0, .slice none 0 0] 73)) := (below7 hC2 (Nat.le_refl _)).alloc (by simp [World.setCell]; omega) _
    generalize (World.alloc (((((((w2.setCell ⟨w.heap.size, 0, none⟩ (.int .i64 0)).setCell ⟨w.heap.size, 1, none⟩ (.int .i64 0)).setCell ⟨w.heap.size, 2, none⟩ (.int .i64 0)).setCell ⟨w.heap.size, 3, none⟩ (.int .i64 0)).setCell ⟨w.heap.size, 4, none⟩ (.int .i64 0)).setCell ⟨w.heap.size, 5, none⟩ (.slice none 0 0)).setCell ⟨w.heap.size, 6, none⟩ (.slice none 0 0)) (.cells #[.int .i64 0, .int .i64 0, .int .i64 0, .int .i64 0, .int .i64 0, .slice none 0 0, .slice none 0 0] 73)) = X at hZ hX ⊢
    have z0 := hZ.cell 0; have z1 := hZ.cell 1; have z2 := hZ.cell 2; have z3 := hZ.cell 3; have z4 := hZ.cell 4; have z5 := hZ.cell 5; have z6 := hZ.cell 6
    simp at z0 z1 z2 z3 z4 z5 z6
    exact bodyPost_ret (v := .tuple #[.agg #[.int .i64 0, .int .i64 0, .int .i64 0, .int .i64 0, .int .i64 0, .slice none 0 0, .slice none 0 0], .bool false]) (by simp [results, Tryz.results87, go_sem, z0, z1, z2, z3, z4, z5, z6]) rfl ⟨_, rfl, TaskR.zero _, hX⟩
  | some t =>
    obtain ⟨j, hj, hjt, hkz, hmn⟩ := idxBy_some hf
    clear hkz hmn
    rw [hj] at hi
    have HI := Lib.hid hi
    have hjl : j < l.length := (List.getElem?_eq_some_iff.1 hjt).1
    obtain ⟨b, off, rfl, hbw, hat⟩ := hA (by omega)
    obtain ⟨cs, hR, hC⟩ := hat j t hjt
    have HR := Lib.hid hR
    have HC := Lib.hid hC
    have hbw' : b < w.heap.size := Nat.lt_of_lt_of_le hbw hw.size
    have HC' := Lib.hid (hC.below hw hbw)
    clear hi hf hv hv' hw hz hj hjt hat hC hA
    obtain ⟨v1, v2, rfl, sl, si, m1, m2⟩ := hR; obtain ⟨A1, c1, rfl, _⟩ := sl.form; obtain ⟨A2, c2, rfl, _⟩ := si.form
    clear sl si m1 m2
    go_enter Tryz.func87, Tryz.ntmps87
    go_wp2_with fail
    refine (HI.out _ (HV.out.below (by repeat' (first | exact Below.refl _ _ | refine Below.alloc ?_ ?_ _ | refine Below.setCell ?_ ?_ _ | refine Below.drew ?_ | (apply below_step; assumption) | (simp; done) | (simp; omega) | omega))) ((World.cell?_alloc_lt _ _ _ hB).trans HZ.out)).mono ?_
    rintro e w2 ⟨rfl, hb2⟩
    have hz2 := hb2.size
    simp at hz2
    have B1 : BlockIs w2 w.heap.size 73 #[.int .i64 0, .int .i64 0, .int .i64 0, .int .i64 0, .int .i64 0, .slice none 0 0, .slice none 0 0] := (BlockIs.new w _ _).below hb2 (by simp)
    have hC2 : Below w.heap.size w w2 := (by repeat' (first | exact Below.refl _ _ | refine Below.alloc ?_ ?_ _ | refine Below.setCell ?_ ?_ _ | refine Below.drew ?_ | (apply below_step; assumption) | (simp; done) | (simp; omega) | omega))
    obtain ⟨q0, q1, q2, q3, q4, q5, q6⟩ := task_cells (HC'.out.below hC2 hbw')
    have d0 := B1.cell 0; have d1 := B1.cell 1; have d2 := B1.cell 2; have d3 := B1.cell 3; have d4 := B1.cell 4; have d5 := B1.cell 5; have d6 := B1.cell 6
    have f1 := B1.frozen
    simp at d0 d1 d2 d3 d4 d5 d6
    have HB1 := Lib.hid B1
    have hji : (j : Int) < (l.length : Int) := by omega
    have hj0 : (0 : Int) ≤ (j : Int) := by omega
    clear B1
    go_wp2_with fail
    have hZ : BlockIs (((((((w2.setCell ⟨w.heap.size, 0, none⟩ (.int .i64 t.id)).setCell ⟨w.heap.size, 1, none⟩ (.int .i64 t.prio)).setCell ⟨w.heap.size, 2, none⟩ (.int .i64 t.need.c)).setCell ⟨w.heap.size, 3, none⟩ (.int .i64 t.need.m)).setCell ⟨w.heap.size, 4, none⟩ (.int .i64 t.need.p)).setCell ⟨w.heap.size, 5, none⟩ (.slice A1 t.want.length c1)).setCell ⟨w.heap.size, 6, none⟩ (.slice A2 t.tols.length c2)) w.heap.size 73 #[.int .i64 t.id, .int .i64 t.prio, .int .i64 t.need.c, .int .i64 t.need.m, .int .i64 t.need.p, .slice A1 t.want.length c1, .slice A2 t.tols.length c2] := put7 _ _ _ _ _ _ _ HB1.out rfl
    have hX : Below w.heap.size w (((((((w2.setCell ⟨w.heap.size, 0, none⟩ (.int .i64 t.id)).setCell ⟨w.heap.size, 1, none⟩ (.int .i64 t.prio)).setCell ⟨w.heap.size, 2, none⟩ (.int .i64 t.need.c)).setCell ⟨w.heap.size, 3, none⟩ (.int .i64 t.need.m)).setCell ⟨w.heap.size, 4, none⟩ (.int .i64 t.need.p)).setCell ⟨w.heap.size, 5, none⟩ (.slice A1 t.want.length c1)).setCell ⟨w.heap.size, 6, none⟩ (.slice A2 t.tols.length c2)) := below7 hC2 (Nat.le_refl _)
    generalize (((((((w2.setCell ⟨w.heap.size, 0, none⟩ (.int .i64 t.id)).setCell ⟨w.heap.size, 1, none⟩ (.int .i64 t.prio)).setCell ⟨w.heap.size, 2, none⟩ (.int .i64 t.need.c)).setCell ⟨w.heap.size, 3, none⟩ (.int .i64 t.need.m)).setCell ⟨w.heap.size, 4, none⟩ (.int .i64 t.need.p)).setCell ⟨w.heap.size, 5, none⟩ (.slice A1 t.want.length c1)).setCell ⟨w.heap.size, 6, none⟩ (.slice A2 t.tols.length c2)) = X at hZ hX ⊢
    have z0 := hZ.cell 0; have z1 := hZ.cell 1; have z2 := hZ.cell 2; have z3 := hZ.cell 3; have z4 := hZ.cell 4; have z5 := hZ.cell 5; have z6 := hZ.cell 6
    simp at z0 z1 z2 z3 z4 z5 z6
    exact bodyPost_ret (v := .tuple #[.agg #[.int .i64 t.id, .int .i64 t.prio, .int .i64 t.need.c, .int .i64 t.need.m, .int .i64 t.need.p, .slice A1 t.want.length c1, .slice A2 t.tols.length c2], .bool true]) (by simp [results, Tryz.results87, go_sem, z0, z1, z2, z3, z4, z5, z6]) rfl ⟨_, rfl, HR.out, hX⟩
set_option maxHeartbeats 800000 in
theorem isNode_any (t : NV) (cs : List Value) (B : Nat) (z : Int) (w : World) (ok : Bool) (hR : NodeR w t cs) (hz : w.cell? ⟨B, 0, none⟩ = some (.int .i64 z)) (hok : decide (t.id = z) = ok) :
    Calls Tryz.prog 90 #[.agg cs.toArray, .pointer (some ⟨B, 0, none⟩)] w fun e w' => e = .returned (.bool ok) ∧ Below w.heap.size w w' := by
  obtain ⟨v1, v2, rfl, sl, si, m1, m2⟩ := hR; obtain ⟨A1, c1, rfl, _⟩ := sl.form; obtain ⟨A2, c2, rfl, _⟩ := si.form
  clear sl si m1 m2
  have hB := World.block_lt_of_cell? _ _ hz
  simp only at hB
  have HE := Lib.hid (show (t.id == z) = ok by rw [← hok]; rfl)
  clear hok
  go_enter Tryz.func90, Tryz.ntmps90
  go_wp2_with fail
  go_ret
  exact ⟨by rw [HE.out]; simp, (by repeat' (first | exact Below.refl _ _ | refine Below.alloc ?_ ?_ _ | refine Below.setCell ?_ ?_ _ | refine Below.drew ?_ | (apply below_step; assumption) | (simp; done) | (simp; omega) | omega))⟩

set_option maxHeartbeats 1600000 in
theorem indexNode_any (B : Nat) (z : Int) (v : Value) (l : List NV) (w : World) (hv : NodeSl w v l) (hlen : l.length ≤ 1048576) (hz : w.cell? ⟨B, 0, none⟩ = some (.int .i64 z)) :
    Calls Tryz.prog 104 #[v, .func (.func 90) #[] #[.pointer (some ⟨B, 0, none⟩)]] w fun e w' => e = .returned (.int .i64 (idxBy NV.id l z)) ∧ Below w.heap.size w w' := by
  obtain ⟨A, c, rfl, hA⟩ := hv.form
  have HA := Lib.hid hA
  have hB := World.block_lt_of_cell? _ _ hz
  simp only at hB
  have HZ := Lib.hid hz
  clear hA hv hz
  go_enter Tryz.func104, Tryz.ntmps104
  go_wp2_with fail
  go_loopw [8] (fun s8 wr => ∃ k : Nat, k ≤ l.length ∧ s8 = .int .i64 k ∧ idxBy NV.id l z = idxGo NV.id k (l.drop k) z ∧ Below w.heap.size w wr) (fun s8 _ => (l.length - intOf s8).toNat)
  case atStart => exact ⟨0, by omega, rfl, by simp [idxBy], Below.refl _ _⟩
  case round =>
    obtain ⟨k, hk, rfl, hidx, hBr⟩ := hrel
    have HI := Lib.hid hidx
    have hzr := hBr.size
    have HZR := Lib.hid ((hBr.cell (p := ⟨B, 0, none⟩) hB).trans HZ.out)
    clear hidx
    by_cases hlt : k < l.length
    · obtain ⟨b, off, rfl, hbw, hat⟩ := HA.out (by omega)
      obtain ⟨t, ht⟩ : ∃ t, l[k]? = some t := ⟨_, List.getElem?_eq_getElem hlt⟩
      obtain ⟨cs, hR, hC⟩ := (hat.below NodeR.kept hBr hbw) k t ht
      have HR := Lib.hid hR
      have HD := Lib.hid (drop_at ht)
      obtain ⟨v1, v2, rfl, sl, si, m1, m2⟩ := hR; obtain ⟨A1, c1, rfl, _⟩ := sl.form; obtain ⟨A2, c2, rfl, _⟩ := si.form
      clear sl si m1 m2
      obtain ⟨q0, q1, q2, q3, q4, q5, q6, q7⟩ := node_cells hC
      clear hat hC ht
      by_cases e : t.id = z
      · have HE := Lib.hid e
        clear e
        go_wp2_with fail
        refine (isNode_any t _ B z _ true HR.out HZR.out (by simpa using HE.out)).mono ?_
        rintro e w2 ⟨rfl, hb2⟩
        go_wp2_with fail
        go_ret
        refine ⟨?_, (by repeat' (first | exact Below.refl _ _ | refine Below.alloc ?_ ?_ _ | refine Below.setCell ?_ ?_ _ | refine Below.drew ?_ | (apply below_step; assumption) | (simp; done) | (simp; omega) | omega))⟩
        rw [HI.out, HD.out, idxGo_hit HE.out]; rfl
      · have HE := Lib.hid e
        clear e
        go_wp2_with fail
        refine (isNode_any t _ B z _ false HR.out HZR.out (by simpa using HE.out)).mono ?_
        rintro e w2 ⟨rfl, hb2⟩
        go_wp2_with fail
        go_roundw
        case rel => exact ⟨k + 1, by omega, by go_num, by rw [HI.out, HD.out, idxGo_miss HE.out]; simp, (by repeat' (first | exact Below.refl _ _ | refine Below.alloc ?_ ?_ _ | refine Below.setCell ?_ ?_ _ | refine Below.drew ?_ | (apply below_step; assumption) | (simp; done) | (simp; omega) | omega))⟩
        case measure => simp [intOf]; omega
    · have hkl : k = l.length := by omega
      have HF := Lib.hid (show idxBy NV.id l z = -1 by rw [HI.out, hkl, List.drop_length]; rfl)
      clear hkl
      go_wp2_with fail
      go_ret
      exact ⟨by rw [HF.out]; rfl, hBr⟩

set_option maxHeartbeats 1600000 in
theorem findGNode_any (B : Nat) (z : Int) (v : Value) (l : List NV) (w0 w : World) (hw : Below w0.heap.size w0 w) (hv : NodeSl w0 v l) (hlen : l.length ≤ 1048576) (hz : w.cell? ⟨B, 0, none⟩ = some (.int .i64 z)) :
    Calls Tryz.prog 89 #[v, .func (.func 90) #[] #[.pointer (some ⟨B, 0, none⟩)]] w (RetFNode w0 w (fstBy NV.id l z)) := by
  have hv' := hv.below hw
  obtain ⟨A, c, rfl, hA⟩ := hv.form
  have hB := World.block_lt_of_cell? _ _ hz
  simp only at hB
  have HV := Lib.hid hv'
  have HZ := Lib.hid hz
  have HW := Lib.hid hw
  have hi := fun w hv hz => indexNode_any B z (.slice A l.length c) l w hv hlen hz
  cases hf : fstBy NV.id l z with
  | none =>
    rw [idxBy_none hf] at hi
    have HI := Lib.hid hi
    clear hi hf hv hv' hw hz hA
    go_enter Tryz.func89, Tryz.ntmps89
    go_wp2_with fail
    refine (HI.out _ (HV.out.below (by repeat' (first | exact Below.refl _ _ | refine Below.alloc ?_ ?_ _ | refine Below.setCell ?_ ?_ _ | refine Below.drew ?_ | (apply below_step; assumption) | (simp; done) | (simp; omega) | omega))) ((World.cell?_alloc_lt _ _ _ hB).trans HZ.out)).mono ?_
    rintro e w2 ⟨rfl, hb2⟩
    have hz2 := hb2.size
    simp at hz2
    have B1 : BlockIs w2 w.heap.size 51 #[.int .i64 0, .int .i64 0, .int .i64 0, .int .i64 0, .int .i64 0, .slice none 0 0, .slice none 0 0, .bool false] := (BlockIs.new w _ _).below hb2 (by simp)
    have hC2 : Below w.heap.size w w2 := (by repeat' (first | exact Below.refl _ _ | refine Below.alloc ?_ ?_ _ | refine Below.setCell ?_ ?_ _ | refine Below.drew ?_ | (apply below_step; assumption) | (simp; done) | (simp; omega) | omega))
    have d0 := B1.cell 0; have d1 := B1.cell 1; have d2 := B1.cell 2; have d3 := B1.cell 3; have d4 := B1.cell 4; have d5 := B1.cell 5; have d6 := B1.cell 6; have d7 := B1.cell 7
    have f1 := B1.frozen
    simp at d0 d1 d2 d3 d4 d5 d6 d7
    have HB1 := Lib.hid B1
    have hl2 : w.heap.size < w2.heap.size := by omega
    clear B1
    go_wp2_with fail
    have hZ : BlockIs (World.alloc ((((((((w2.setCell ⟨w.heap.size, 0, none⟩ (.int .i64 0)).setCell ⟨w.heap.size, 1, none⟩ (.int .i64 0)).setCell ⟨w.heap.size, 2, none⟩ (.int .i64 0)).setCell ⟨w.heap.size, 3, none⟩ (.int .i64 0)).setCell ⟨w.heap.size, 4, none⟩ (.int .i64 0)).setCell ⟨w.heap.size, 5, none⟩ (.slice none 0 0)).setCell ⟨w.heap.size, 6, none⟩ (.slice none 0 0)).setCell ⟨w.heap.size, 7, none⟩ (.bool false)) (.cells #[.int .i64 0, .int .i64 0, .int .i64 0, .int .i64 0, .int .i64 0, .slice none 0 0, .slice none 0 0, .bool false] 51)) w.heap.size 51 #[.int .i64 0, .int .i64 0, .int .i64 0, .int .i64 0, .int .i64 0, .slice none 0 0, .slice none 0 0, .bool false] := (put8 _ _ _ _ _ _ _ _ HB1.out rfl).alloc _
    have hX : Below w.heap.size w (World.alloc ((((((((w2.setCell ⟨w.heap.size, 0, none⟩ (.int .i64 0)).setCell ⟨w.heap.size, 1, none⟩ (.int .i64 0)).setCell ⟨w.heap.size, 2, none⟩ (.int .i64 0)).setCell ⟨w.heap.size, 3, none⟩ (.int .i64 0)).setCell ⟨w.heap.size, 4, none⟩ (.int .i64 0)).setCell ⟨w.heap.size, 5, none⟩ (.slice none 0 0)).setCell ⟨w.heap.size, 6, none⟩ (.slice none 0 0)).setCell ⟨w.heap.size, 7, none⟩ (.bool false)) (.cells #[.int .i64 0, .int .i64 0, .int .i64 0, .int .i64 0, .int .i64 0, .slice none 0 0, .slice none 0 0, .bool false] 51)) := (below8 hC2 (Nat.le_refl _)).alloc (by simp [World.setCell]; omega) _
    generalize (World.alloc ((((((((w2.setCell ⟨w.heap.size, 0, none⟩ (.int .i64 0)).setCell ⟨w.heap.size, 1, none⟩ (.int .i64 0)).setCell ⟨w.heap.size, 2, none⟩ (.int .i64 0)).setCell ⟨w.heap.size, 3, none⟩ (.int .i64 0)).setCell ⟨w.heap.size, 4, none⟩ (.int .i64 0)).setCell ⟨w.heap.size, 5, none⟩ (.slice none 0 0)).setCell ⟨w.heap.size, 6, none⟩ (.slice none 0 0)).setCell ⟨w.heap.size, 7, none⟩ (.bool false)) (.cells #[.int .i64 0, .int .i64 0, .int .i64 0, .int .i64 0, .int .i64 0, .slice none 0 0, .slice none 0 0, .bool false] 51)) = X at hZ hX ⊢
    have z0 := hZ.cell 0; have z1 := hZ.cell 1; have z2 := hZ.cell 2; have z3 := hZ.cell 3; have z4 := hZ.cell 4; have z5 := hZ.cell 5; have z6 := hZ.cell 6; have z7 := hZ.cell 7
    simp at z0 z1 z2 z3 z4 z5 z6 z7
    exact bodyPost_ret (v := .tuple #[.agg #[.int .i64 0, .int .i64 0, .int .i64 0, .int .i64 0, .int .i64 0, .slice none 0 0, .slice none 0 0, .bool false], .bool false]) (by simp [results, Tryz.results89, go_sem, z0, z1, z2, z3, z4, z5, z6, z7]) rfl ⟨_, rfl, NodeR.zero _, hX⟩
  | some t =>
    obtain ⟨j, hj, hjt, hkz, hmn⟩ := idxBy_some hf
    clear hkz hmn
    rw [hj] at hi
    have HI := Lib.hid hi
    have hjl : j < l.length := (List.getElem?_eq_some_iff.1 hjt).1
    obtain ⟨b, off, rfl, hbw, hat⟩ := hA (by omega)
    obtain ⟨cs, hR, hC⟩ := hat j t hjt
    have HR := Lib.hid hR
    have HC := Lib.hid hC
    have hbw' : b < w.heap.size := Nat.lt_of_lt_of_le hbw hw.size
    have HC' := Lib.hid (hC.below hw hbw)
    clear hi hf hv hv' hw hz hj hjt hat hC hA
    obtain ⟨v1, v2, rfl, sl, si, m1, m2⟩ := hR; obtain ⟨A1, c1, rfl, _⟩ := sl.form; obtain ⟨A2, c2, rfl, _⟩ := si.form
    clear sl si m1 m2
    go_enter Tryz.func89, Tryz.ntmps89
    go_wp2_with fail
    refine (HI.out _ (HV.out.below (by repeat' (first | exact Below.refl _ _ | refine Below.alloc ?_ ?_ _ | refine Below.setCell ?_ ?_ _ | refine Below.drew ?_ | (apply below_step; assumption) | (simp; done) | (simp; omega) | omega))) ((World.cell?_alloc_lt _ _ _ hB).trans HZ.out)).mono ?_
    rintro e w2 ⟨rfl, hb2⟩
    have hz2 := hb2.size
    simp at hz2
    have B1 : BlockIs w2 w.heap.size 51 #[.int .i64 0, .int .i64 0, .int .i64 0, .int .i64 0, .int .i64 0, .slice none 0 0, .slice none 0 0, .bool false] := (BlockIs.new w _ _).below hb2 (by simp)
    have hC2 : Below w.heap.size w w2 := (by repeat' (first | exact Below.refl _ _ | refine Below.alloc ?_ ?_ _ | refine Below.setCell ?_ ?_ _ | refine Below.drew ?_ | (apply below_step; assumption) | (simp; done) | (simp; omega) | omega))
    obtain ⟨q0, q1, q2, q3, q4, q5, q6, q7⟩ := node_cells (HC'.out.below hC2 hbw')
    have d0 := B1.cell 0; have d1 := B1.cell 1; have d2 := B1.cell 2; have d3 := B1.cell 3; have d4 := B1.cell 4; have d5 := B1.cell 5; have d6 := B1.cell 6; have d7 := B1.cell 7
    have f1 := B1.frozen
    simp at d0 d1 d2 d3 d4 d5 d6 d7
    have HB1 := Lib.hid B1
    have hji : (j : Int) < (l.length : Int) := by omega
    have hj0 : (0 : Int) ≤ (j : Int) := by omega
    clear B1
    go_wp2_with fail
    have hZ : BlockIs ((((((((w2.setCell ⟨w.heap.size, 0, none⟩ (.int .i64 t.id)).setCell ⟨w.heap.size, 1, none⟩ (.int .i64 t.pool)).setCell ⟨w.heap.size, 2, none⟩ (.int .i64 t.cap.c)).setCell ⟨w.heap.size, 3, none⟩ (.int .i64 t.cap.m)).setCell ⟨w.heap.size, 4, none⟩ (.int .i64 t.cap.p)).setCell ⟨w.heap.size, 5, none⟩ (.slice A1 t.labs.length c1)).setCell ⟨w.heap.size, 6, none⟩ (.slice A2 t.taints.length c2)).setCell ⟨w.heap.size, 7, none⟩ (.bool t.cordon)) w.heap.size 51 #[.int .i64 t.id, .int .i64 t.pool, .int .i64 t.cap.c, .int .i64 t.cap.m, .int .i64 t.cap.p, .slice A1 t.labs.length c1, .slice A2 t.taints.length c2, .bool t.cordon] := put8 _ _ _ _ _ _ _ _ HB1.out rfl
    have hX : Below w.heap.size w ((((((((w2.setCell ⟨w.heap.size, 0, none⟩ (.int .i64 t.id)).setCell ⟨w.heap.size, 1, none⟩ (.int .i64 t.pool)).setCell ⟨w.heap.size, 2, none⟩ (.int .i64 t.cap.c)).setCell ⟨w.heap.size, 3, none⟩ (.int .i64 t.cap.m)).setCell ⟨w.heap.size, 4, none⟩ (.int .i64 t.cap.p)).setCell ⟨w.heap.size, 5, none⟩ (.slice A1 t.labs.length c1)).setCell ⟨w.heap.size, 6, none⟩ (.slice A2 t.taints.length c2)).setCell ⟨w.heap.size, 7, none⟩ (.bool t.cordon)) := below8 hC2 (Nat.le_refl _)
    generalize ((((((((w2.setCell ⟨w.heap.size, 0, none⟩ (.int .i64 t.id)).setCell ⟨w.heap.size, 1, none⟩ (.int .i64 t.pool)).setCell ⟨w.heap.size, 2, none⟩ (.int .i64 t.cap.c)).setCell ⟨w.heap.size, 3, none⟩ (.int .i64 t.cap.m)).setCell ⟨w.heap.size, 4, none⟩ (.int .i64 t.cap.p)).setCell ⟨w.heap.size, 5, none⟩ (.slice A1 t.labs.length c1)).setCell ⟨w.heap.size, 6, none⟩ (.slice A2 t.taints.length c2)).setCell ⟨w.heap.size, 7, none⟩ (.bool t.cordon)) = X at hZ hX ⊢
    have z0 := hZ.cell 0; have z1 := hZ.cell 1; have z2 := hZ.cell 2; have z3 := hZ.cell 3; have z4 := hZ.cell 4; have z5 := hZ.cell 5; have z6 := hZ.cell 6; have z7 := hZ.cell 7
    simp at z0 z1 z2 z3 z4 z5 z6 z7
    exact bodyPost_ret (v := .tuple #[.agg #[.int .i64 t.id, .int .i64 t.pool, .int .i64 t.cap.c, .int .i64 t.cap.m, .int .i64 t.cap.p, .slice A1 t.labs.length c1, .slice A2 t.taints.length c2, .bool t.cordon], .bool true]) (by simp [results, Tryz.results89, go_sem, z0, z1, z2, z3, z4, z5, z6, z7]) rfl ⟨_, rfl, HR.out, hX⟩
end Go.Proofs.YtkaecjjbammphaaGreatDoor
namespace Go.Proofs.YtkaecjjbammphaaGreatDoor
open Go.RowKit

def CluR (w : World) (c : CV) (a0 a1 a2 : Value) : Prop := TaskSl w a0 c.tasks ∧ NodeSl w a1 c.nodes ∧ BindSl w a2 c.binds ∧ c.tasks.length ≤ 1048576 ∧ c.nodes.length ≤ 1048576 ∧ c.binds.length ≤ 1048576
theorem CluR.below {w w' : World} {c : CV} {a0 a1 a2 : Value} (h : CluR w c a0 a1 a2) (hb : Below w.heap.size w w') : CluR w' c a0 a1 a2 := by
  obtain ⟨h0, h1, h2, h3⟩ := h
  exact ⟨h0.below hb, h1.below hb, h2.below hb, h3⟩

set_option maxHeartbeats 1600000 in
theorem findTask_any (c : CV) (a0 a1 a2 : Value) (z : Int) (w0 w : World) (hw : Below w0.heap.size w0 w) (hc : CluR w0 c a0 a1 a2) :
    Calls Tryz.prog 67 #[.agg #[a0, a1, a2], .int .i64 z] w (RetFTask w0 w (fstBy TV.id c.tasks z)) := by
  obtain ⟨h0, h1, h2, l0, l1, l2⟩ := hc
  obtain ⟨D0, e0, rfl, r0⟩ := h0.form
  obtain ⟨D1, e1, rfl, r1⟩ := h1.form
  obtain ⟨D2, e2, rfl, r2⟩ := h2.form
  have hf := fun B w1 hw1 hz => findGTask_any B z (.slice D0 c.tasks.length e0) c.tasks w0 w1 hw1 h0 l0 hz
  generalize fstBy TV.id c.tasks z = o at hf ⊢
  have HF := Lib.hid hf
  have HW := Lib.hid hw
  have hmf : ∀ (fn : Fn) (first cap : Array Value) (w : World), (Instr.makeFunc fn first cap).run Tryz.prog w = .ok (.func fn first cap) w := fun _ _ _ _ => rfl
  clear hf hw h0 h1 h2 l0 l1 l2 r0 r1 r2
  go_enter Tryz.func67, Tryz.ntmps67
  go_wp2_with fail
  have hX3 : Below w.heap.size w (((w.alloc (.cells #[.slice D0 c.tasks.length e0, .slice D1 c.nodes.length e1, .slice D2 c.binds.length e2] 34)).alloc (.cells #[.int .i64 z] 3)).alloc (.cells #[.int .i64 0, .int .i64 0, .int .i64 0, .int .i64 0, .int .i64 0, .slice none 0 0, .slice none 0 0] 73)) := (by repeat' (first | exact Below.refl _ _ | refine Below.alloc ?_ ?_ _ | refine Below.setCell ?_ ?_ _ | refine Below.drew ?_ | (apply below_step; assumption) | (simp; done) | (simp; omega) | omega))
  refine (HF.out (w.heap.size + 1) _ (below_of HW.out hX3) ((BlockIs.alloc (BlockIs.new' (g := w.heap.size + 1) (by simp)) _).cell 0)).mono ?_
  rintro e w3 ⟨cs, rfl, hR, hb3⟩
  have hz3 := hb3.size
  simp at hz3
  have hC3 := below_of hX3 hb3
  have B2 : BlockIs w3 (w.heap.size + 1 + 1) 73 #[.int .i64 0, .int .i64 0, .int .i64 0, .int .i64 0, .int .i64 0, .slice none 0 0, .slice none 0 0] := (BlockIs.new' (by simp)).below hb3 (by simp)
  have HR := Lib.hid hR
  generalize hgt : o.getD TV.zero = t at hR HR
  have HG := Lib.hid hgt
  clear hgt
  obtain ⟨v1, v2, rfl, sl, si, m1, m2⟩ := hR; obtain ⟨A1, c1, rfl, _⟩ := sl.form; obtain ⟨A2, c2, rfl, _⟩ := si.form
  clear sl si m1 m2
  have d0 := B2.cell 0; have d1 := B2.cell 1; have d2 := B2.cell 2; have d3 := B2.cell 3; have d4 := B2.cell 4; have d5 := B2.cell 5; have d6 := B2.cell 6
  have f1 := B2.frozen
  simp at d0 d1 d2 d3 d4 d5 d6
  have HB2 := Lib.hid B2
  clear B2 hX3 hb3
  go_wp2_with fail
  have hZ : BlockIs (((((((w3.setCell ⟨w.heap.size + 1 + 1, 0, none⟩ (.int .i64 t.id)).setCell ⟨w.heap.size + 1 + 1, 1, none⟩ (.int .i64 t.prio)).setCell ⟨w.heap.size + 1 + 1, 2, none⟩ (.int .i64 t.need.c)).setCell ⟨w.heap.size + 1 + 1, 3, none⟩ (.int .i64 t.need.m)).setCell ⟨w.heap.size + 1 + 1, 4, none⟩ (.int .i64 t.need.p)).setCell ⟨w.heap.size + 1 + 1, 5, none⟩ (.slice A1 t.want.length c1)).setCell ⟨w.heap.size + 1 + 1, 6, none⟩ (.slice A2 t.tols.length c2)) (w.heap.size + 1 + 1) 73 #[.int .i64 t.id, .int .i64 t.prio, .int .i64 t.need.c, .int .i64 t.need.m, .int .i64 t.need.p, .slice A1 t.want.length c1, .slice A2 t.tols.length c2] := put7 _ _ _ _ _ _ _ HB2.out rfl
  have hX : Below w.heap.size w (((((((w3.setCell ⟨w.heap.size + 1 + 1, 0, none⟩ (.int .i64 t.id)).setCell ⟨w.heap.size + 1 + 1, 1, none⟩ (.int .i64 t.prio)).setCell ⟨w.heap.size + 1 + 1, 2, none⟩ (.int .i64 t.need.c)).setCell ⟨w.heap.size + 1 + 1, 3, none⟩ (.int .i64 t.need.m)).setCell ⟨w.heap.size + 1 + 1, 4, none⟩ (.int .i64 t.need.p)).setCell ⟨w.heap.size + 1 + 1, 5, none⟩ (.slice A1 t.want.length c1)).setCell ⟨w.heap.size + 1 + 1, 6, none⟩ (.slice A2 t.tols.length c2)) := below7 hC3 (by omega)
  generalize (((((((w3.setCell ⟨w.heap.size + 1 + 1, 0, none⟩ (.int .i64 t.id)).setCell ⟨w.heap.size + 1 + 1, 1, none⟩ (.int .i64 t.prio)).setCell ⟨w.heap.size + 1 + 1, 2, none⟩ (.int .i64 t.need.c)).setCell ⟨w.heap.size + 1 + 1, 3, none⟩ (.int .i64 t.need.m)).setCell ⟨w.heap.size + 1 + 1, 4, none⟩ (.int .i64 t.need.p)).setCell ⟨w.heap.size + 1 + 1, 5, none⟩ (.slice A1 t.want.length c1)).setCell ⟨w.heap.size + 1 + 1, 6, none⟩ (.slice A2 t.tols.length c2)) = X at hZ hX ⊢
  have z0 := hZ.cell 0; have z1 := hZ.cell 1; have z2 := hZ.cell 2; have z3 := hZ.cell 3; have z4 := hZ.cell 4; have z5 := hZ.cell 5; have z6 := hZ.cell 6
  simp at z0 z1 z2 z3 z4 z5 z6
  exact bodyPost_ret (v := .tuple #[.agg #[.int .i64 t.id, .int .i64 t.prio, .int .i64 t.need.c, .int .i64 t.need.m, .int .i64 t.need.p, .slice A1 t.want.length c1, .slice A2 t.tols.length c2], .bool o.isSome]) (by simp [results, Tryz.results67, go_sem, z0, z1, z2, z3, z4, z5, z6]) rfl ⟨_, rfl, by rw [HG.out]; exact HR.out, hX⟩
set_option maxHeartbeats 1600000 in
theorem findNode_any (c : CV) (a0 a1 a2 : Value) (z : Int) (w0 w : World) (hw : Below w0.heap.size w0 w) (hc : CluR w0 c a0 a1 a2) :
    Calls Tryz.prog 68 #[.agg #[a0, a1, a2], .int .i64 z] w (RetFNode w0 w (fstBy NV.id c.nodes z)) := by
  obtain ⟨h0, h1, h2, l0, l1, l2⟩ := hc
  obtain ⟨D0, e0, rfl, r0⟩ := h0.form
  obtain ⟨D1, e1, rfl, r1⟩ := h1.form
  obtain ⟨D2, e2, rfl, r2⟩ := h2.form
  have hf := fun B w1 hw1 hz => findGNode_any B z (.slice D1 c.nodes.length e1) c.nodes w0 w1 hw1 h1 l1 hz
  generalize fstBy NV.id c.nodes z = o at hf ⊢
  have HF := Lib.hid hf
  have HW := Lib.hid hw
  have hmf : ∀ (fn : Fn) (first cap : Array Value) (w : World), (Instr.makeFunc fn first cap).run Tryz.prog w = .ok (.func fn first cap) w := fun _ _ _ _ => rfl
  clear hf hw h0 h1 h2 l0 l1 l2 r0 r1 r2
  go_enter Tryz.func68, Tryz.ntmps68
  go_wp2_with fail
  have hX3 : Below w.heap.size w (((w.alloc (.cells #[.slice D0 c.tasks.length e0, .slice D1 c.nodes.length e1, .slice D2 c.binds.length e2] 34)).alloc (.cells #[.int .i64 z] 3)).alloc (.cells #[.int .i64 0, .int .i64 0, .int .i64 0, .int .i64 0, .int .i64 0, .slice none 0 0, .slice none 0 0, .bool false] 51)) := (by repeat' (first | exact Below.refl _ _ | refine Below.alloc ?_ ?_ _ | refine Below.setCell ?_ ?_ _ | refine Below.drew ?_ | (apply below_step; assumption) | (simp; done) | (simp; omega) | omega))
  refine (HF.out (w.heap.size + 1) _ (below_of HW.out hX3) ((BlockIs.alloc (BlockIs.new' (g := w.heap.size + 1) (by simp)) _).cell 0)).mono ?_
  rintro e w3 ⟨cs, rfl, hR, hb3⟩
  have hz3 := hb3.size
  simp at hz3
  have hC3 := below_of hX3 hb3
  have B2 : BlockIs w3 (w.heap.size + 1 + 1) 51 #[.int .i64 0, .int .i64 0, .int .i64 0, .int .i64 0, .int .i64 0, .slice none 0 0, .slice none 0 0, .bool false] := (BlockIs.new' (by simp)).below hb3 (by simp)
  have HR := Lib.hid hR
  generalize hgt : o.getD NV.zero = t at hR HR
  have HG := Lib.hid hgt
  clear hgt
  obtain ⟨v1, v2, rfl, sl, si, m1, m2⟩ := hR; obtain ⟨A1, c1, rfl, _⟩ := sl.form; obtain ⟨A2, c2, rfl, _⟩ := si.form
  clear sl si m1 m2
  have d0 := B2.cell 0; have d1 := B2.cell 1; have d2 := B2.cell 2; have d3 := B2.cell 3; have d4 := B2.cell 4; have d5 := B2.cell 5; have d6 := B2.cell 6; have d7 := B2.cell 7
  have f1 := B2.frozen
  simp at d0 d1 d2 d3 d4 d5 d6 d7
  have HB2 := Lib.hid B2
  clear B2 hX3 hb3
  go_wp2_with fail
  have hZ : BlockIs ((((((((w3.setCell ⟨w.heap.size + 1 + 1, 0, none⟩ (.int .i64 t.id)).setCell ⟨w.heap.size + 1 + 1, 1, none⟩ (.int .i64 t.pool)).setCell ⟨w.heap.size + 1 + 1, 2, none⟩ (.int .i64 t.cap.c)).setCell ⟨w.heap.size + 1 + 1, 3, none⟩ (.int .i64 t.cap.m)).setCell ⟨w.heap.size + 1 + 1, 4, none⟩ (.int .i64 t.cap.p)).setCell ⟨w.heap.size + 1 + 1, 5, none⟩ (.slice A1 t.labs.length c1)).setCell ⟨w.heap.size + 1 + 1, 6, none⟩ (.slice A2 t.taints.length c2)).setCell ⟨w.heap.size + 1 + 1, 7, none⟩ (.bool t.cordon)) (w.heap.size + 1 + 1) 51 #[.int .i64 t.id, .int .i64 t.pool, .int .i64 t.cap.c, .int .i64 t.cap.m, .int .i64 t.cap.p, .slice A1 t.labs.length c1, .slice A2 t.taints.length c2, .bool t.cordon] := put8 _ _ _ _ _ _ _ _ HB2.out rfl
  have hX : Below w.heap.size w ((((((((w3.setCell ⟨w.heap.size + 1 + 1, 0, none⟩ (.int .i64 t.id)).setCell ⟨w.heap.size + 1 + 1, 1, none⟩ (.int .i64 t.pool)).setCell ⟨w.heap.size + 1 + 1, 2, none⟩ (.int .i64 t.cap.c)).setCell ⟨w.heap.size + 1 + 1, 3, none⟩ (.int .i64 t.cap.m)).setCell ⟨w.heap.size + 1 + 1, 4, none⟩ (.int .i64 t.cap.p)).setCell ⟨w.heap.size + 1 + 1, 5, none⟩ (.slice A1 t.labs.length c1)).setCell ⟨w.heap.size + 1 + 1, 6, none⟩ (.slice A2 t.taints.length c2)).setCell ⟨w.heap.size + 1 + 1, 7, none⟩ (.bool t.cordon)) := below8 hC3 (by omega)
  generalize ((((((((w3.setCell ⟨w.heap.size + 1 + 1, 0, none⟩ (.int .i64 t.id)).setCell ⟨w.heap.size + 1 + 1, 1, none⟩ (.int .i64 t.pool)).setCell ⟨w.heap.size + 1 + 1, 2, none⟩ (.int .i64 t.cap.c)).setCell ⟨w.heap.size + 1 + 1, 3, none⟩ (.int .i64 t.cap.m)).setCell ⟨w.heap.size + 1 + 1, 4, none⟩ (.int .i64 t.cap.p)).setCell ⟨w.heap.size + 1 + 1, 5, none⟩ (.slice A1 t.labs.length c1)).setCell ⟨w.heap.size + 1 + 1, 6, none⟩ (.slice A2 t.taints.length c2)).setCell ⟨w.heap.size + 1 + 1, 7, none⟩ (.bool t.cordon)) = X at hZ hX ⊢
  have z0 := hZ.cell 0; have z1 := hZ.cell 1; have z2 := hZ.cell 2; have z3 := hZ.cell 3; have z4 := hZ.cell 4; have z5 := hZ.cell 5; have z6 := hZ.cell 6; have z7 := hZ.cell 7
  simp at z0 z1 z2 z3 z4 z5 z6 z7
  exact bodyPost_ret (v := .tuple #[.agg #[.int .i64 t.id, .int .i64 t.pool, .int .i64 t.cap.c, .int .i64 t.cap.m, .int .i64 t.cap.p, .slice A1 t.labs.length c1, .slice A2 t.taints.length c2, .bool t.cordon], .bool o.isSome]) (by simp [results, Tryz.results68, go_sem, z0, z1, z2, z3, z4, z5, z6, z7]) rfl ⟨_, rfl, by rw [HG.out]; exact HR.out, hX⟩
end Go.Proofs.YtkaecjjbammphaaGreatDoor

namespace Go.Proofs.YtkaecjjbammphaaGreatDoor
open Go.RowKit

theorem rhN {α : Type} (a : α) (l : List α) : (a :: l).toArray[0]? = some a := rfl
theorem rhM {α : Type} (a : α) (l : List α) (n : Nat) : (a :: l).toArray[n + 1]? = l.toArray[n]? := by simp
theorem rhA {α : Type} (l : List α) (i : Nat) (a : α) : l.toArray.setIfInBounds i a = (l.set i a).toArray := by simp
theorem rhS {α : Type} (x a : α) (l : List α) : (x :: l).set 0 a = a :: l := rfl
theorem rhT {α : Type} (x a : α) (l : List α) (n : Nat) : (x :: l).set (n + 1) a = x :: l.set n a := rfl
section
variable {P : Program} {ops : Array Oper} {Q : Exit → Act → World → Prop} {md : Region.Mode} {S : World → Prop}
theorem hTake {i : Nat} {oi : Oper} {v : Value} {d : Option Tmp} {fuel : Nat} {listed : Array Bool} {a : Act} {w : World} (hi : ops[i]? = some oi) (hd : oi.dst = d)
    (hb : (Region.noSelect ops && (Region.free md ops listed i && (Region.ready md ops listed).contains i)) = true)
    (hQ : ∀ c a w, Q (.panic c) (a.put d v) w → Q (.panic c) a w) (hw : Region.wanted oi (yielded ops a.tmps) = true) (hy : ∀ w, S w → (execOp a.eval oi).run P w = .ok (.value v) w) (hS : S w)
    (h : wpAnyH P md ops Q S fuel (listed.setIfInBounds i true) (a.put d v) w) : wpAnyH P md ops Q S (fuel + 1) listed a w := by
  subst hd
  simp only [Bool.and_eq_true] at hb
  exact wpAnyH_take hi hb.1 hb.2.1 hb.2.2 hQ (.inl ⟨hw, hy⟩) hS h
theorem hSkip {i : Nat} {oi : Oper} {d : Option Tmp} {fuel : Nat} {listed : Array Bool} {a : Act} {w : World} (hi : ops[i]? = some oi) (hd : oi.dst = d)
    (hb : (Region.noSelect ops && (Region.free md ops listed i && (Region.ready md ops listed).contains i)) = true)
    (hQ : ∀ c a w, Q (.panic c) (a.put d undef) w → Q (.panic c) a w) (hw : Region.wanted oi (yielded ops a.tmps) = false) (hS : S w)
    (h : wpAnyH P md ops Q S fuel (listed.setIfInBounds i true) (a.put d undef) w) : wpAnyH P md ops Q S (fuel + 1) listed a w := by
  subst hd
  simp only [Bool.and_eq_true] at hb
  exact wpAnyH_take hi hb.1 hb.2.1 hb.2.2 hQ (.inr ⟨hw, rfl⟩) hS h
theorem hT (i : Nat) {oi : Oper} {v : Value} {d : Option Tmp} {fuel : Nat} {listed : Array Bool} {a : Act} {w : World} (h : wpAnyH P md ops Q S fuel (listed.setIfInBounds i true) (a.put d v) w)
    (hi : ops[i]? = some oi := by (simp only [rhN, rhM]; try rfl)) (hd : oi.dst = d := by first | rfl | (dsimp only; rfl)) (hw : Region.wanted oi (yielded ops a.tmps) = true := by rfl)
    (hQ : ∀ c a w, Q (.panic c) (a.put d v) w → Q (.panic c) a w := by exact fun _ _ _ h => h) (hy : ∀ w, S w → (execOp a.eval oi).run P w = .ok (.value v) w := by (intro w hSw; (try dsimp only at hSw); go_simp <;> with_reducible rfl))
    (hS : S w := by assumption) (hb : (Region.noSelect ops && (Region.free md ops listed i && (Region.ready md ops listed).contains i)) = true := by kernel_rfl) : wpAnyH P md ops Q S (fuel + 1) listed a w := hTake hi hd hb hQ hw hy hS h
theorem hP (i : Nat) {oi : Oper} {d : Option Tmp} {fuel : Nat} {listed : Array Bool} {a : Act} {w : World} (h : wpAnyH P md ops Q S fuel (listed.setIfInBounds i true) (a.put d undef) w)
    (hi : ops[i]? = some oi := by (simp only [rhN, rhM]; try rfl)) (hd : oi.dst = d := by first | rfl | (dsimp only; rfl)) (hw : Region.wanted oi (yielded ops a.tmps) = false := by rfl)
    (hQ : ∀ c a w, Q (.panic c) (a.put d undef) w → Q (.panic c) a w := by exact fun _ _ _ h => h) (hS : S w := by assumption)
    (hb : (Region.noSelect ops && (Region.free md ops listed i && (Region.ready md ops listed).contains i)) = true := by kernel_rfl) : wpAnyH P md ops Q S (fuel + 1) listed a w := hSkip hi hd hb hQ hw hS h
theorem hCall {i : Nat} {o : Oper} {fuel : Nat} {listed : Array Bool} {a : Act} {w : World} (ho : ops[i]? = some o) (hr : Region.ready md ops listed = [i]) (hw : Region.wanted o (yielded ops a.tmps) = true)
    (h : ∀ K' : Act → World → Prop, Shut (∀ a w, S w → (S w → wpAnyH P md ops Q S fuel (listed.setIfInBounds i true) a w) → K' a w) → Oper.wp P o a w K' Q) : wpAnyH P md ops Q S (fuel + 1) listed a w :=
  wpAnyH_ready hr (by simp) (AllReadyH.cons ho (fun K' hK => by rw [if_pos hw]; exact h K' hK) AllReadyH.nil)
end
end Go.Proofs.YtkaecjjbammphaaGreatDoor

namespace Go.Proofs.YtkaecjjbammphaaGreatDoor
open Go.RowKit

theorem szTV_ok {z : Int} {a b : Nat} {y : Int} (h : szTV z a b = y) : y = -1 ∨ (0 ≤ z → 0 ≤ y ∧ y ≤ z ∧ (a : Int) ≤ z ∧ (b : Int) ≤ z) := by
  unfold szTV szLeft at h
  split at h
  · split at h
    · right; intro; omega
    · left; omega
  · left; omega
def TaskQ (w : World) (t : TV) (cs : List Value) : Prop := ∃ v1 v2, cs = [.int .i64 t.id, .int .i64 t.prio, .int .i64 t.need.c, .int .i64 t.need.m, .int .i64 t.need.p, v1, v2] ∧ LabSl w v1 t.want ∧ IntSl w v2 t.tols ∧ t.want.length ≤ maxLen ∧ t.tols.length ≤ maxLen
def NodeQ (w : World) (t : NV) (cs : List Value) : Prop := ∃ v1 v2, cs = [.int .i64 t.id, .int .i64 t.pool, .int .i64 t.cap.c, .int .i64 t.cap.m, .int .i64 t.cap.p, v1, v2, .bool t.cordon] ∧ LabSl w v1 t.labs ∧ IntSl w v2 t.taints ∧ t.labs.length ≤ maxLen ∧ t.taints.length ≤ maxLen
theorem TaskQ.kept : Kept TaskQ := fun _ _ _ _ hb ⟨v1, v2, e, h1, h2, h3⟩ => ⟨v1, v2, e, h1.below hb, h2.below hb, h3⟩
theorem NodeQ.kept : Kept NodeQ := fun _ _ _ _ hb ⟨v1, v2, e, h1, h2, h3⟩ => ⟨v1, v2, e, h1.below hb, h2.below hb, h3⟩
def TV.small (t : TV) : Prop := t.want.length ≤ 1048576 ∧ t.tols.length ≤ 1048576
def NV.small (t : NV) : Prop := t.labs.length ≤ 1048576 ∧ t.taints.length ≤ 1048576

set_option maxHeartbeats 1600000 in
theorem szTaskS_any (v : Value) (l : List TV) (z : Int) (w : World) (hv : GSl TaskQ 7 w v l) (hl : l.length ≤ maxLen) (h0 : 0 ≤ z) (hz : z ≤ 1048576) :
    Calls Tryz.prog 13 #[v, .int .i64 z] w fun e w' => (∃ y : Int, e = .returned (.int .i64 y) ∧ (y = -1 ∨ (0 ≤ y ∧ y ≤ 1048576 ∧ l.length ≤ 1048576 ∧ ∀ t ∈ l, t.small))) ∧ Below w.heap.size w w' := by
  obtain ⟨A, c, rfl, hA⟩ := hv.form
  have HA := Lib.hid hA
  unfold maxLen at hl
  clear hA hv
  by_cases h1 : (l.length : Int) ≤ z
  · go_enter Tryz.func13, Tryz.ntmps13
    go_wp2_with fail
    go_loopw [1, 5] (fun s1 s5 wr => ∃ (k : Nat) (y : Int), k ≤ l.length ∧ s5 = .int .i64 k ∧ s1 = .int .i64 y ∧ 0 ≤ y ∧ y ≤ 1048576 ∧ (∀ t ∈ l.take k, t.small) ∧ Below w.heap.size w wr) (fun _ s5 _ => (l.length - intOf s5).toNat)
    case atStart => exact ⟨0, z - l.length, by omega, rfl, by first | rfl | go_num, by omega, by omega, by simp, Below.refl _ _⟩
    case round =>
      obtain ⟨k, y, hk, rfl, rfl, y0, y1, hall, hB⟩ := hrel
      have HALL := Lib.hid hall
      have hzr := hB.size
      clear hall
      by_cases hlt : k < l.length
      · obtain ⟨b, off, rfl, hbw, hat⟩ := HA.out (by omega)
        obtain ⟨t, ht⟩ : ∃ t, l[k]? = some t := ⟨_, List.getElem?_eq_getElem hlt⟩
        obtain ⟨cs, hR, hC⟩ := (hat.below TaskQ.kept hB hbw) k t ht
        have HTK := Lib.hid (take_at ht)
        obtain ⟨v1, v2, rfl, sl, si, m1, m2⟩ := hR; obtain ⟨A1, c1, rfl, _⟩ := sl.form; obtain ⟨A2, c2, rfl, _⟩ := si.form
        obtain ⟨q0, q1, q2, q3, q4, q5, q6⟩ := task_cells hC
        have hsz := fun w => szTask_any (.int .i64 t.id) (.int .i64 t.prio) (.int .i64 t.need.c) (.int .i64 t.need.m) (.int .i64 t.need.p) A1 A2 t.want.length c1 t.tols.length c2 y w y0 y1 m1 m2
        generalize hy : szTV y t.want.length t.tols.length = y' at hsz
        have HY := Lib.hid (szTV_ok hy)
        have HSZ := Lib.hid hsz
        have hki : (k : Int) < (l.length : Int) := by omega
        clear hat hC ht sl si m1 m2 hsz hy
        go_wp2_with fail
        refine (HSZ.out _).mono ?_
        rintro e w2 ⟨rfl, hb2⟩
        have hC2 := below_of hB hb2
        rcases HY.out with rfl | hy2
        · go_wp2_with fail
          go_ret
          exact ⟨⟨-1, rfl, .inl rfl⟩, hC2⟩
        · obtain ⟨a1, a2, a3, a4⟩ := hy2 y0
          go_wp2_with fail
          go_roundw
          case rel =>
            refine ⟨k + 1, y', by omega, by go_num, rfl, a1, by omega, ?_, hC2⟩
            rw [HTK.out]
            intro s hs
            rcases List.mem_append.1 hs with h | h
            · exact HALL.out s h
            · simp at h; subst h; exact ⟨by omega, by omega⟩
          case measure => simp [intOf]; omega
      · have hkl : k = l.length := by omega
        go_wp2_with fail
        go_ret
        refine ⟨⟨y, rfl, .inr ⟨y0, y1, by omega, ?_⟩⟩, hB⟩
        have := HALL.out
        rwa [hkl, List.take_length] at this
  · have h1' : z < l.length := by omega
    clear h1
    go_enter Tryz.func13, Tryz.ntmps13
    go_wp2_with fail
    go_ret
    exact ⟨⟨-1, rfl, .inl rfl⟩, (by repeat' (first | exact Below.refl _ _ | refine Below.alloc ?_ ?_ _ | refine Below.setCell ?_ ?_ _ | refine Below.drew ?_ | (apply below_step; assumption) | (simp; done) | (simp; omega) | omega))⟩
set_option maxHeartbeats 1600000 in
theorem szNodeS_any (v : Value) (l : List NV) (z : Int) (w : World) (hv : GSl NodeQ 8 w v l) (hl : l.length ≤ maxLen) (h0 : 0 ≤ z) (hz : z ≤ 1048576) :
    Calls Tryz.prog 14 #[v, .int .i64 z] w fun e w' => (∃ y : Int, e = .returned (.int .i64 y) ∧ (y = -1 ∨ (0 ≤ y ∧ y ≤ 1048576 ∧ l.length ≤ 1048576 ∧ ∀ t ∈ l, t.small))) ∧ Below w.heap.size w w' := by
  obtain ⟨A, c, rfl, hA⟩ := hv.form
  have HA := Lib.hid hA
  unfold maxLen at hl
  clear hA hv
  by_cases h1 : (l.length : Int) ≤ z
  · go_enter Tryz.func14, Tryz.ntmps14
    go_wp2_with fail
    go_loopw [1, 5] (fun s1 s5 wr => ∃ (k : Nat) (y : Int), k ≤ l.length ∧ s5 = .int .i64 k ∧ s1 = .int .i64 y ∧ 0 ≤ y ∧ y ≤ 1048576 ∧ (∀ t ∈ l.take k, t.small) ∧ Below w.heap.size w wr) (fun _ s5 _ => (l.length - intOf s5).toNat)
    case atStart => exact ⟨0, z - l.length, by omega, rfl, by first | rfl | go_num, by omega, by omega, by simp, Below.refl _ _⟩
    case round =>
      obtain ⟨k, y, hk, rfl, rfl, y0, y1, hall, hB⟩ := hrel
      have HALL := Lib.hid hall
      have hzr := hB.size
      clear hall
      by_cases hlt : k < l.length
      · obtain ⟨b, off, rfl, hbw, hat⟩ := HA.out (by omega)
        obtain ⟨t, ht⟩ : ∃ t, l[k]? = some t := ⟨_, List.getElem?_eq_getElem hlt⟩
        obtain ⟨cs, hR, hC⟩ := (hat.below NodeQ.kept hB hbw) k t ht
        have HTK := Lib.hid (take_at ht)
        obtain ⟨v1, v2, rfl, sl, si, m1, m2⟩ := hR; obtain ⟨A1, c1, rfl, _⟩ := sl.form; obtain ⟨A2, c2, rfl, _⟩ := si.form
        obtain ⟨q0, q1, q2, q3, q4, q5, q6, q7⟩ := node_cells hC
        have hsz := fun w => szNode_any (.int .i64 t.id) (.int .i64 t.pool) (.int .i64 t.cap.c) (.int .i64 t.cap.m) (.int .i64 t.cap.p) (.bool t.cordon) A1 A2 t.labs.length c1 t.taints.length c2 y w y0 y1 m1 m2
        generalize hy : szTV y t.labs.length t.taints.length = y' at hsz
        have HY := Lib.hid (szTV_ok hy)
        have HSZ := Lib.hid hsz
        have hki : (k : Int) < (l.length : Int) := by omega
        clear hat hC ht sl si m1 m2 hsz hy
        go_wp2_with fail
        refine (HSZ.out _).mono ?_
        rintro e w2 ⟨rfl, hb2⟩
        have hC2 := below_of hB hb2
        rcases HY.out with rfl | hy2
        · go_wp2_with fail
          go_ret
          exact ⟨⟨-1, rfl, .inl rfl⟩, hC2⟩
        · obtain ⟨a1, a2, a3, a4⟩ := hy2 y0
          go_wp2_with fail
          go_roundw
          case rel =>
            refine ⟨k + 1, y', by omega, by go_num, rfl, a1, by omega, ?_, hC2⟩
            rw [HTK.out]
            intro s hs
            rcases List.mem_append.1 hs with h | h
            · exact HALL.out s h
            · simp at h; subst h; exact ⟨by omega, by omega⟩
          case measure => simp [intOf]; omega
      · have hkl : k = l.length := by omega
        go_wp2_with fail
        go_ret
        refine ⟨⟨y, rfl, .inr ⟨y0, y1, by omega, ?_⟩⟩, hB⟩
        have := HALL.out
        rwa [hkl, List.take_length] at this
  · have h1' : z < l.length := by omega
    clear h1
    go_enter Tryz.func14, Tryz.ntmps14
    go_wp2_with fail
    go_ret
    exact ⟨⟨-1, rfl, .inl rfl⟩, (by repeat' (first | exact Below.refl _ _ | refine Below.alloc ?_ ?_ _ | refine Below.setCell ?_ ?_ _ | refine Below.drew ?_ | (apply below_step; assumption) | (simp; done) | (simp; omega) | omega))⟩
theorem szBindS_any (v : Value) (l : List BV) (z : Int) (w : World) (hv : BindSl w v l) (hl : l.length ≤ maxLen) (h0 : 0 ≤ z) (hz : z ≤ 1048576) :
    Calls Tryz.prog 15 #[v, .int .i64 z] w fun e w' => (∃ y : Int, e = .returned (.int .i64 y) ∧ (y = -1 ∨ (0 ≤ y ∧ y ≤ 1048576 ∧ l.length ≤ 1048576))) ∧ Below w.heap.size w w' := by
  obtain ⟨A, c, rfl, hA⟩ := hv.form
  unfold maxLen at hl
  clear hA hv
  by_cases h1 : (l.length : Int) ≤ z
  · go_enter Tryz.func15, Tryz.ntmps15
    go_wp2_with fail
    go_ret
    exact ⟨⟨z - l.length, by first | rfl | simp, .inr ⟨by omega, by omega, by omega⟩⟩, (by repeat' (first | exact Below.refl _ _ | refine Below.alloc ?_ ?_ _ | refine Below.setCell ?_ ?_ _ | refine Below.drew ?_ | (apply below_step; assumption) | (simp; done) | (simp; omega) | omega))⟩
  · have h1' : z < l.length := by omega
    clear h1
    go_enter Tryz.func15, Tryz.ntmps15
    go_wp2_with fail
    go_ret
    exact ⟨⟨-1, rfl, .inl rfl⟩, (by repeat' (first | exact Below.refl _ _ | refine Below.alloc ?_ ?_ _ | refine Below.setCell ?_ ?_ _ | refine Below.drew ?_ | (apply below_step; assumption) | (simp; done) | (simp; omega) | omega))⟩
def CluQ (w : World) (c : CV) (a0 a1 a2 : Value) : Prop := GSl TaskQ 7 w a0 c.tasks ∧ GSl NodeQ 8 w a1 c.nodes ∧ BindSl w a2 c.binds ∧ c.tasks.length ≤ maxLen ∧ c.nodes.length ≤ maxLen ∧ c.binds.length ≤ maxLen
theorem CluQ.below {w w' : World} {c : CV} {a0 a1 a2 : Value} (h : CluQ w c a0 a1 a2) (hb : Below w.heap.size w w') : CluQ w' c a0 a1 a2 := by
  obtain ⟨h0, h1, h2, h3⟩ := h
  exact ⟨h0.below TaskQ.kept hb, h1.below NodeQ.kept hb, h2.below hb, h3⟩
def CV.small (c : CV) : Prop := c.tasks.length ≤ 1048576 ∧ (∀ t ∈ c.tasks, t.small) ∧ c.nodes.length ≤ 1048576 ∧ (∀ t ∈ c.nodes, t.small) ∧ c.binds.length ≤ 1048576
theorem GSl.small {α : Type} {R S : World → α → List Value → Prop} {n : Nat} {w : World} {v : Value} {l : List α} (h : GSl R n w v l) (hRS : ∀ x ∈ l, ∀ cs, R w x cs → S w x cs) : GSl S n w v l := by
  rcases h with h | ⟨b, off, c, rfl, hlt, h⟩
  · exact .inl h
  · refine .inr ⟨b, off, c, rfl, hlt, fun i x hx => ?_⟩
    obtain ⟨cs, h1, h2⟩ := h i x hx
    exact ⟨cs, hRS x (List.mem_of_getElem? hx) _ h1, h2⟩
theorem CluQ.clu {w : World} {c : CV} {a0 a1 a2 : Value} (h : CluQ w c a0 a1 a2) (hs : c.small) : CluR w c a0 a1 a2 := by
  obtain ⟨h0, h1, h2, h3⟩ := h
  obtain ⟨s0, s1, s2, s3, s4⟩ := hs
  exact ⟨h0.small fun x hx cs ⟨v1, v2, e, a, b, _⟩ => ⟨v1, v2, e, a, b, s1 x hx⟩, h1.small fun x hx cs ⟨v1, v2, e, a, b, _⟩ => ⟨v1, v2, e, a, b, s3 x hx⟩, h2, s0, s2, s4⟩

set_option maxHeartbeats 800000 in
theorem szCluster_any (c : CV) (a0 a1 a2 : Value) (z : Int) (w : World) (hc : CluQ w c a0 a1 a2) (h0 : 0 ≤ z) (hz : z ≤ 1048576) :
    Calls Tryz.prog 4 #[.agg #[a0, a1, a2], .int .i64 z] w fun e w' => (∃ y : Int, e = .returned (.int .i64 y) ∧ (y = -1 ∨ (0 ≤ y ∧ y ≤ 1048576 ∧ c.small))) ∧ Below w.heap.size w w' := by
  have HC := Lib.hid hc
  obtain ⟨k0, k1, k2, l0, l1, l2⟩ := hc
  obtain ⟨D0, e0, rfl, _⟩ := k0.form
  obtain ⟨D1, e1, rfl, _⟩ := k1.form
  obtain ⟨D2, e2, rfl, _⟩ := k2.form
  have L := Lib.hid (And.intro l0 (And.intro l1 l2))
  clear k0 k1 k2 l0 l1 l2
  go_enter Tryz.func4, Tryz.ntmps4
  go_wp2_with fail
  have hX : Below w.heap.size w (w.alloc (.cells #[.slice D0 c.tasks.length e0, .slice D1 c.nodes.length e1, .slice D2 c.binds.length e2] 26)) := (by repeat' (first | exact Below.refl _ _ | refine Below.alloc ?_ ?_ _ | refine Below.setCell ?_ ?_ _ | refine Below.drew ?_ | (apply below_step; assumption) | (simp; done) | (simp; omega) | omega))
  refine (szTaskS_any _ c.tasks z _ (HC.out.below hX).1 L.out.1 h0 hz).mono ?_
  rintro e w1 ⟨⟨y, rfl, hy⟩, hb1⟩
  have hC1 := below_of hX hb1
  have B1 := (BlockIs.new w 26 #[.slice D0 c.tasks.length e0, .slice D1 c.nodes.length e1, .slice D2 c.binds.length e2]).below hb1 (by simp)
  have HB1 := Lib.hid B1
  have g0 := B1.cell 0
  have g1 := B1.cell 1
  have g2 := B1.cell 2
  simp at g0 g1 g2
  clear B1 hb1
  rcases hy with rfl | ⟨y0, y1, s0, s1⟩
  · go_wp2_with fail
    go_ret
    exact ⟨⟨-1, rfl, .inl rfl⟩, hC1⟩
  have S1 := Lib.hid (And.intro s0 s1)
  clear s0 s1
  go_wp2_with fail
  refine (szNodeS_any _ c.nodes y _ (HC.out.below hC1).2.1 L.out.2.1 y0 y1).mono ?_
  rintro e w2 ⟨⟨y', rfl, hy'⟩, hb2⟩
  have hC2 := below_of hC1 hb2
  have B2 := HB1.out.below hb2 HB1.out.lt
  have g0 := B2.cell 0
  have g1 := B2.cell 1
  have g2 := B2.cell 2
  simp at g0 g1 g2
  clear B2 hb2
  rcases hy' with rfl | ⟨y0', y1', s0, s1⟩
  · go_wp2_with fail
    go_ret
    exact ⟨⟨-1, rfl, .inl rfl⟩, hC2⟩
  have S2 := Lib.hid (And.intro s0 s1)
  clear s0 s1
  go_wp2_with fail
  refine (szBindS_any _ c.binds y' _ (HC.out.below hC2).2.2.1 L.out.2.2 y0' y1').mono ?_
  rintro e w3 ⟨⟨y'', rfl, hy''⟩, hb3⟩
  have hC3 := below_of hC2 hb3
  rcases hy'' with rfl | ⟨y0'', y1'', s0⟩
  · go_wp2_with fail
    go_ret
    exact ⟨⟨-1, rfl, .inl rfl⟩, hC3⟩
  go_wp2_with fail
  go_ret
  exact ⟨⟨y'', rfl, .inr ⟨y0'', y1'', S1.out.1, S1.out.2, S2.out.1, S2.out.2, s0⟩⟩, hC3⟩
end Go.Proofs.YtkaecjjbammphaaGreatDoor

namespace Go.Proofs.YtkaecjjbammphaaGreatDoor
open Go.ChangeShapes Go.WideShapes Go.ChangeAt Go.RowKit Go.Joins

section
variable {H : Type} {enc : TypeId × Value → H} {W : World}
theorem open_gslice {α : Type} {R : World → α → List Value → Prop} {n : Nat} {T E : TypeId} (z : α) (hn : 0 < n) (hu : Tryz.prog.underlying T = some (.slice E)) (hcE : Tryz.prog.cellsOf E = n)
    (hop : ∀ (fuel : Nat) (cs : List Value) (x : DataW H × List MemPlace), DataW.trod enc Tryz.prog W 0 (fun _ => true) true fuel E cs = some x → ∃ t, R W t cs)
    {fuel : Nat} {v : Value} {x : DataW H × List MemPlace} (h : DataW.trod enc Tryz.prog W 0 (fun _ => true) true fuel T [v] = some x) : ∃ l : List α, l.length ≤ maxLen ∧ GSl R n W v l := by
  rcases Go.Deep.open_slice hu h with ⟨hcs, _⟩ | ⟨a, len, cap, m, n', D, Pl, hcs, hb, hl, hm, hmm, hx, hi⟩
  · simp at hcs
    subst hcs
    exact ⟨[], by simp, .inl ⟨rfl, _, _, rfl⟩⟩
  · simp at hcs
    subst hcs
    rw [if_pos rfl] at hmm
    subst hmm
    have hel : ∀ i, i < len → ∃ (t : α) (cs : List Value), R W t cs ∧ cs.length = n ∧ ∀ (j : Nat) (u : Value), cs[j]? = some u → W.cell? (a.add (i * n + j)) = some u := by
      intro i hin
      obtain ⟨cs', hc, ht⟩ := hi i (by omega)
      rw [hcE] at hc
      obtain ⟨t, hR⟩ := hop _ _ _ ht
      obtain ⟨_, hlen, hat⟩ := World.cells?_some hc
      refine ⟨t, cs', hR, hlen, fun j u hj => ?_⟩
      have hjn : j < n := by rw [← hlen]; exact (List.getElem?_eq_some_iff.1 hj).1
      have := hat j hjn
      rw [Go.Deep.add_add] at this
      exact this.trans hj
    obtain ⟨f, hf⟩ : ∃ f : Nat → α, ∀ i, i < len → ∃ cs : List Value, R W (f i) cs ∧ cs.length = n ∧ ∀ (j : Nat) (u : Value), cs[j]? = some u → W.cell? (a.add (i * n + j)) = some u := by
      classical
      refine ⟨fun i => if hi : i < len then Classical.choose (hel i hi) else z, fun i hi => ?_⟩
      simp only [dif_pos hi]
      exact Classical.choose_spec (hel i hi)
    refine ⟨(List.range len).map f, by simp; omega, ?_⟩
    rcases Nat.eq_zero_or_pos len with rfl | hp
    · exact .inl ⟨rfl, _, _, rfl⟩
    · obtain ⟨b, off, spot⟩ := a
      obtain ⟨cs0, _, hl0, h0⟩ := hf 0 hp
      obtain ⟨u0, hu0⟩ : ∃ u, cs0[0]? = some u := ⟨_, List.getElem?_eq_getElem (by omega)⟩
      have h0 := h0 0 u0 hu0
      have hspot : spot = none := by simpa [Addr.add] using World.cell?_spot h0
      subst hspot
      have hlt := World.block_lt_of_cell? _ _ h0
      refine .inr ⟨b, off, m, by simp, by simpa [Addr.add] using hlt, fun i r hr => ?_⟩
      have hi : i < len := by
        have := (List.getElem?_eq_some_iff.1 hr).1
        simpa using this
      have hri : f i = r := by simpa [hi] using hr
      obtain ⟨cs, hR, _, hc⟩ := hf i hi
      rw [hri] at hR
      refine ⟨cs, hR, fun j u hj => ?_⟩
      have := hc j u hj
      rw [add_plain, ← Nat.add_assoc] at this
      exact this
theorem Tryz.c_bind : Tryz.prog.cellsOf 86 = 2 := by kernel_rfl
theorem Tryz.c_tasks : Tryz.prog.cellsOf 22 = 1 := by kernel_rfl
theorem Tryz.c_nodes : Tryz.prog.cellsOf 23 = 1 := by kernel_rfl
theorem Tryz.c_binds : Tryz.prog.cellsOf 24 = 1 := by kernel_rfl
theorem Tryz.c_clu : Tryz.prog.cellsOf 26 = 3 := by kernel_rfl
set_option maxRecDepth 100000 in
theorem open_bindC {fuel : Nat} {cs : List Value} {x : DataW H × List MemPlace} (h : DataW.trod enc Tryz.prog W 0 (fun _ => true) true fuel 86 cs = some x) : ∃ t : BV, BindR W t cs := by
  obtain ⟨y0, y1, k, _, hlen, g0, g1⟩ := trod_struct2 Tryz.underlying86 h
  rw [Tryz.c_bind] at hlen
  match cs, hlen with
  | [c0, c1], _ =>
    obtain ⟨r0, e0, _, _⟩ := DataW.trod_int Tryz.underlying3 g0
    obtain ⟨r1, e1, _, _⟩ := DataW.trod_int Tryz.underlying3 g1
    simp [Tryz.c_int] at e0 e1
    subst e0 e1
    exact ⟨⟨r0, r1⟩, rfl⟩
set_option maxRecDepth 100000 in
theorem open_cluster {base : Nat} {v : Value} {d : DataW H} {p : List MemPlace} (hv : Value.okWide Tryz.prog W .any base 26 v) (h : DataW.Trod enc Tryz.prog W 0 (fun _ => true) true 26 v d p) :
    ∃ (c : CV) (a0 a1 a2 : Value), v = .agg #[a0, a1, a2] ∧ CluQ W c a0 a1 a2 := by
  obtain ⟨cs, rfl, _⟩ := okWide_struct Tryz.underlying26 hv
  obtain ⟨fuel, hf⟩ := h
  obtain ⟨r0, r1, r2, m, _, hl, g0, g1, g2⟩ := Go.Deep.trod_struct3 Tryz.underlying26 hf
  rw [Tryz.c_clu] at hl
  simp only [Value.cells] at hl g0 g1 g2
  obtain ⟨l⟩ := cs
  match l, hl with
  | [a, b, c], _ =>
    simp only [Tryz.c_tasks, Tryz.c_nodes, Tryz.c_binds] at g0 g1 g2
    simp at g0 g1 g2
    obtain ⟨l0, m0, s0⟩ := open_gslice (R := TaskQ) TV.zero (by omega) Tryz.underlying22 Tryz.c_task (fun fuel cs x h => by
      obtain ⟨t, v1, v2, e, h1, h2, h3, h4⟩ := open_taskC h
      exact ⟨t, v1, v2, e, h1, h2, h3, h4⟩) g0
    obtain ⟨l1, m1, s1⟩ := open_gslice (R := NodeQ) NV.zero (by omega) Tryz.underlying23 Tryz.c_node (fun fuel cs x h => by
      obtain ⟨t, v1, v2, e, h1, h2, h3, h4⟩ := open_nodeC h
      exact ⟨t, v1, v2, e, h1, h2, h3, h4⟩) g1
    obtain ⟨l2, m2, s2⟩ := open_gslice (R := BindR) BV.zero (by omega) Tryz.underlying24 Tryz.c_bind (fun fuel cs x h => open_bindC h) g2
    exact ⟨⟨l0, l1, l2⟩, a, b, c, rfl, s0, s1, s2, m0, m1, m2⟩
end
end Go.Proofs.YtkaecjjbammphaaGreatDoor

namespace Go.Proofs.YtkaecjjbammphaaGreatDoor
open Go.ChangeShapes Go.WideShapes Go.ChangeAt Go.RowKit Go.Joins

theorem Tryz.errG : Tryz.prog.globalNamed "loop.example/g00718/impl.errRange" = some 1 := by kernel_rfl
theorem Tryz.errT : (Tryz.prog.globals[1]?).map (·.type) = some 112 := by kernel_rfl
theorem Tryz.cellsEs : Tryz.prog.cellsOf 188 = 1 := by kernel_rfl
theorem Tryz.cellsStr : Tryz.prog.cellsOf 9 = 1 := by kernel_rfl
theorem Tryz.star : "*" ++ "errors.errorString" = "*errors.errorString" := by decide
theorem Tryz.rowPtr : ∀ u, Tryz.prog.typeName? 3 u = some "*errors.errorString" → u = 161 := fun u h =>
  typeName_ptr_named (nm := "errors.errorString") (by rw [Tryz.star]; kernel_rfl) (by kernel_rfl) (by decide) u (by rw [Tryz.star]; exact h)
theorem errAt_of_laid {r : List (String × DataW Unit)} {W : World} (h : laidMet Tryz.prog (("loop.example/g00718/impl.errRange", Rows.laid_loop_example_g00718_impl_errRange) :: r) W) : ∃ a, ErrAt a W := by
  obtain ⟨a, s, hv, _⟩ := laid_sentinel h Tryz.errG Tryz.errT Tryz.underlying112 Tryz.rowPtr Tryz.underlying161 Tryz.underlying188 rfl rfl Tryz.underlying9 Tryz.cellsEs Tryz.cellsStr
  exact ⟨a, by simpa [ErrAt] using World.var?_cell Tryz.errG hv 0⟩

end Go.Proofs.YtkaecjjbammphaaGreatDoor
