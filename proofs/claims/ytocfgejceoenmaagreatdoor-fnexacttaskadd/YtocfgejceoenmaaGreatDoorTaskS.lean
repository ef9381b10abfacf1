/- The contracts of the model's TaskOk, NodeOk, CanHost. -/
import Derived.Test.YtocfgejceoenmaaGreatDoorTaskI
import Derived.Test.YtocfgejceoenmaaGreatDoorResS
import Derived.Test.YtocfgejceoenmaaGreatDoorTaintS
namespace Go.Proofs.YtocfgejceoenmaaGreatDoor
open Go.RowKit

theorem sId_any (n : Int) (w : World) : Calls Tryz.prog 92 #[.int .i64 n] w fun e w' => e = .returned (.bool (idOk n)) ∧ w = w' := by
  by_cases h1 : 1 ≤ n
  · by_cases h2 : n ≤ 99
    · have H := Lib.hid (idOk_iff.2 ⟨h1, h2⟩)
      go_enter Tryz.func92, Tryz.ntmps92
      go_wp2
      go_ret
      exact ⟨by rw [H.out]; simp, rfl⟩
    · have H := Lib.hid (idBad_iff.2 (fun h => h2 h.2))
      have h3 : 99 < n := by omega
      clear h2
      go_enter Tryz.func92, Tryz.ntmps92
      go_wp2
      go_ret
      exact ⟨by rw [H.out]; simp; omega, rfl⟩
  · have H := Lib.hid (idBad_iff.2 (fun h => h1 h.1))
    have h2 : n < 1 := by omega
    clear h1
    go_enter Tryz.func92, Tryz.ntmps92
    go_wp2
    go_ret
    exact ⟨by rw [H.out]; rfl, rfl⟩

set_option maxHeartbeats 1600000 in
theorem sTaskOk_any (t : TV) (v1 v2 : Value) (w : World) (h1 : LabSl w v1 t.want) (h2 : IntSl w v2 t.tols) (l1 : t.want.length ≤ 1048576) (l2 : t.tols.length ≤ 1048576) :
    Calls Tryz.prog 47 #[.agg #[.int .i64 t.id, .int .i64 t.prio, .int .i64 t.need.c, .int .i64 t.need.m, .int .i64 t.need.p, v1, v2]] w fun e w' => e = .returned (.bool t.ok) ∧ Below w.heap.size w w' := by
  have HL := Lib.hid h1
  have HI := Lib.hid h2
  have HE := Lib.hid (tv_ok_eq t)
  have hid := sId_any t.id
  have hne : ∀ w, Calls Tryz.prog 93 #[.agg #[.int .i64 t.need.c, .int .i64 t.need.m, .int .i64 t.need.p]] w fun e w' => e = .returned (.bool t.need.ok) ∧ Below w.heap.size w w' := fun w => sResOk_any t.need w
  have hla : ∀ w (h : LabSl w v1 t.want), Calls Tryz.prog 94 #[v1] w fun e w' => e = .returned (.bool (labsOk t.want)) ∧ Below w.heap.size w w' := fun w h => sLabsOk_any v1 t.want w h l1
  have hta : ∀ w (h : IntSl w v2 t.tols), Calls Tryz.prog 95 #[v2] w fun e w' => e = .returned (.bool (labsOk (tl t.tols))) ∧ Below w.heap.size w w' := fun w h => sTaintsOk_any v2 t.tols w h l2
  generalize t.ok = ok at *
  generalize e1 : idOk t.id = b1 at hid
  generalize e2 : decide (0 ≤ t.prio) = b2
  generalize e3 : decide (t.prio ≤ 9) = b3
  generalize e4 : t.need.ok = b4 at hne
  generalize e5 : labsOk t.want = b5 at hla
  generalize e6 : labsOk (tl t.tols) = b6 at hta
  have HE' := Lib.hid (HE.out _ _ _ _ _ _ e1 e2 e3 e4 e5 e6)
  have HID := Lib.hid hid
  have HNE := Lib.hid hne
  have HLA := Lib.hid hla
  have HTA := Lib.hid hta
  clear h1 h2 hid hne hla hta e1 e4 e5 e6 HE l1 l2
  go_enter Tryz.func47, Tryz.ntmps47
  go_wp2_with fail
  refine (HID.out _).mono ?_
  rintro e w1 ⟨rfl, rfl⟩
  cases b1
  · go_wp2_with fail
    go_ret
    exact ⟨by rw [HE'.out]; simp, (by repeat' (first | exact Below.refl _ _ | refine Below.alloc ?_ ?_ _ | refine Below.setCell ?_ ?_ _ | refine Below.drew ?_ | (apply below_step; assumption) | (simp; done) | (simp; omega) | omega))⟩
  cases b2
  · go_wp2_with fail
    go_ret
    exact ⟨by rw [HE'.out]; simp, (by repeat' (first | exact Below.refl _ _ | refine Below.alloc ?_ ?_ _ | refine Below.setCell ?_ ?_ _ | refine Below.drew ?_ | (apply below_step; assumption) | (simp; done) | (simp; omega) | omega))⟩
  cases b3
  · go_wp2_with fail
    go_ret
    exact ⟨by rw [HE'.out]; simp, (by repeat' (first | exact Below.refl _ _ | refine Below.alloc ?_ ?_ _ | refine Below.setCell ?_ ?_ _ | refine Below.drew ?_ | (apply below_step; assumption) | (simp; done) | (simp; omega) | omega))⟩
  go_wp2_with fail
  refine (HNE.out _).mono ?_
  rintro e w2 ⟨rfl, hb2⟩
  have hz2 := hb2.size
  simp at hz2
  obtain ⟨hc2, hf2⟩ := bcell hb2
  have hC2 : Below w.heap.size w w2 := ((Below.refl _ _).alloc (Nat.le_refl _) _).trans (hb2.mono (by simp))
  cases b4
  · go_wp2_with fail
    go_ret
    exact ⟨by rw [HE'.out]; simp, hC2⟩
  go_wp2_with fail
  refine (HLA.out _ (HL.out.below hC2)).mono ?_
  rintro e w3 ⟨rfl, hb3⟩
  have hz3 := hb3.size
  obtain ⟨hc3, hf3⟩ := bcell hb3
  have hs2 : w.heap.size < w2.heap.size := by omega
  have hC3 : Below w.heap.size w w3 := hC2.trans (hb3.mono hC2.size)
  cases b5
  · go_wp2_with fail
    go_ret
    exact ⟨by rw [HE'.out]; simp, hC3⟩
  go_wp2_with fail
  refine (HTA.out _ (HI.out.below hC3)).mono ?_
  rintro e w4 ⟨rfl, hb4⟩
  have hC4 : Below w.heap.size w w4 := hC3.trans (hb4.mono hC3.size)
  go_wp2_with fail
  go_ret
  exact ⟨by rw [HE'.out]; simp, hC4⟩
set_option maxHeartbeats 1600000 in
theorem sNodeOk_any (t : NV) (v1 v2 : Value) (w : World) (h1 : LabSl w v1 t.labs) (h2 : IntSl w v2 t.taints) (l1 : t.labs.length ≤ 1048576) (l2 : t.taints.length ≤ 1048576) :
    Calls Tryz.prog 75 #[.agg #[.int .i64 t.id, .int .i64 t.pool, .int .i64 t.cap.c, .int .i64 t.cap.m, .int .i64 t.cap.p, v1, v2, .bool t.cordon]] w fun e w' => e = .returned (.bool t.ok) ∧ Below w.heap.size w w' := by
  have HL := Lib.hid h1
  have HI := Lib.hid h2
  have HE := Lib.hid (nv_ok_eq t)
  have hid := sId_any t.id
  have hne : ∀ w, Calls Tryz.prog 93 #[.agg #[.int .i64 t.cap.c, .int .i64 t.cap.m, .int .i64 t.cap.p]] w fun e w' => e = .returned (.bool t.cap.ok) ∧ Below w.heap.size w w' := fun w => sResOk_any t.cap w
  have hla : ∀ w (h : LabSl w v1 t.labs), Calls Tryz.prog 94 #[v1] w fun e w' => e = .returned (.bool (labsOk t.labs)) ∧ Below w.heap.size w w' := fun w h => sLabsOk_any v1 t.labs w h l1
  have hta : ∀ w (h : IntSl w v2 t.taints), Calls Tryz.prog 95 #[v2] w fun e w' => e = .returned (.bool (labsOk (tl t.taints))) ∧ Below w.heap.size w w' := fun w h => sTaintsOk_any v2 t.taints w h l2
  generalize t.ok = ok at *
  generalize e1 : idOk t.id = b1 at hid
  generalize e2 : decide (0 ≤ t.pool) = b2
  generalize e3 : decide (t.pool < 5) = b3
  generalize e4 : t.cap.ok = b4 at hne
  generalize e5 : labsOk t.labs = b5 at hla
  generalize e6 : labsOk (tl t.taints) = b6 at hta
  have HE' := Lib.hid (HE.out _ _ _ _ _ _ e1 e2 e3 e4 e5 e6)
  have HID := Lib.hid hid
  have HNE := Lib.hid hne
  have HLA := Lib.hid hla
  have HTA := Lib.hid hta
  clear h1 h2 hid hne hla hta e1 e4 e5 e6 HE l1 l2
  go_enter Tryz.func75, Tryz.ntmps75
  go_wp2_with fail
  refine (HID.out _).mono ?_
  rintro e w1 ⟨rfl, rfl⟩
  cases b1
  · go_wp2_with fail
    go_ret
    exact ⟨by rw [HE'.out]; simp, (by repeat' (first | exact Below.refl _ _ | refine Below.alloc ?_ ?_ _ | refine Below.setCell ?_ ?_ _ | refine Below.drew ?_ | (apply below_step; assumption) | (simp; done) | (simp; omega) | omega))⟩
  cases b2
  · go_wp2_with fail
    go_ret
    exact ⟨by rw [HE'.out]; simp, (by repeat' (first | exact Below.refl _ _ | refine Below.alloc ?_ ?_ _ | refine Below.setCell ?_ ?_ _ | refine Below.drew ?_ | (apply below_step; assumption) | (simp; done) | (simp; omega) | omega))⟩
  cases b3
  · go_wp2_with fail
    go_ret
    exact ⟨by rw [HE'.out]; simp, (by repeat' (first | exact Below.refl _ _ | refine Below.alloc ?_ ?_ _ | refine Below.setCell ?_ ?_ _ | refine Below.drew ?_ | (apply below_step; assumption) | (simp; done) | (simp; omega) | omega))⟩
  go_wp2_with fail
  refine (HNE.out _).mono ?_
  rintro e w2 ⟨rfl, hb2⟩
  have hz2 := hb2.size
  simp at hz2
  obtain ⟨hc2, hf2⟩ := bcell hb2
  have hC2 : Below w.heap.size w w2 := ((Below.refl _ _).alloc (Nat.le_refl _) _).trans (hb2.mono (by simp))
  cases b4
  · go_wp2_with fail
    go_ret
    exact ⟨by rw [HE'.out]; simp, hC2⟩
  go_wp2_with fail
  refine (HLA.out _ (HL.out.below hC2)).mono ?_
  rintro e w3 ⟨rfl, hb3⟩
  have hz3 := hb3.size
  obtain ⟨hc3, hf3⟩ := bcell hb3
  have hs2 : w.heap.size < w2.heap.size := by omega
  have hC3 : Below w.heap.size w w3 := hC2.trans (hb3.mono hC2.size)
  cases b5
  · go_wp2_with fail
    go_ret
    exact ⟨by rw [HE'.out]; simp, hC3⟩
  go_wp2_with fail
  refine (HTA.out _ (HI.out.below hC3)).mono ?_
  rintro e w4 ⟨rfl, hb4⟩
  have hC4 : Below w.heap.size w w4 := hC3.trans (hb4.mono hC3.size)
  go_wp2_with fail
  go_ret
  exact ⟨by rw [HE'.out]; simp, hC4⟩


theorem hosts_eq (n : NV) (t : TV) (b3 b4 : Bool) (h3 : matchOf n.labs t.want = b3) (h4 : tolOf n.taints t.tols = b4) : hosts n t = (b3 && b4) := by
  subst h3 h4; rfl
set_option maxHeartbeats 1600000 in
theorem sHosts_any (n : NV) (t : TV) (u1 u2 v1 v2 : Value) (w : World) (k1 : LabSl w u1 n.labs) (k2 : IntSl w u2 n.taints) (h1 : LabSl w v1 t.want) (h2 : IntSl w v2 t.tols)
    (m1 : n.labs.length ≤ 1048576) (m2 : n.taints.length ≤ 1048576) (l1 : t.want.length ≤ 1048576) (l2 : t.tols.length ≤ 1048576) :
    Calls Tryz.prog 121 #[.agg #[.int .i64 n.id, .int .i64 n.pool, .int .i64 n.cap.c, .int .i64 n.cap.m, .int .i64 n.cap.p, u1, u2, .bool n.cordon], .agg #[.int .i64 t.id, .int .i64 t.prio, .int .i64 t.need.c, .int .i64 t.need.m, .int .i64 t.need.p, v1, v2]] w fun e w' => e = .returned (.bool (hosts n t)) ∧ Below w.heap.size w w' := by
  have K1 := Lib.hid k1
  have K2 := Lib.hid k2
  have H1 := Lib.hid h1
  have H2 := Lib.hid h2
  have hla : ∀ w (k : LabSl w u1 n.labs) (h : LabSl w v1 t.want), Calls Tryz.prog 157 #[u1, v1] w fun e w' => e = .returned (.bool (matchOf n.labs t.want)) ∧ Below w.heap.size w w' := fun w k h => sLabsMatch_any u1 v1 n.labs t.want w k h m1 l1
  have hta : ∀ w (k : IntSl w u2 n.taints) (h : IntSl w v2 t.tols), Calls Tryz.prog 158 #[u2, v2] w fun e w' => e = .returned (.bool (tolOf n.taints t.tols)) ∧ Below w.heap.size w w' := fun w k h => sTolerates_any u2 v2 n.taints t.tols w k h m2 l2
  have HE := Lib.hid (hosts_eq n t)
  generalize hosts n t = ok at *
  generalize e3 : matchOf n.labs t.want = b3 at hla
  generalize e4 : tolOf n.taints t.tols = b4 at hta
  have HE' := Lib.hid (HE.out _ _ e3 e4)
  have HLA := Lib.hid hla
  have HTA := Lib.hid hta
  clear k1 k2 h1 h2 hla hta e3 e4 HE m1 m2 l1 l2
  go_enter Tryz.func121, Tryz.ntmps121
  go_wp2_with fail
  have hC0 : Below w.heap.size w ((w.alloc (.cells #[.int .i64 n.id, .int .i64 n.pool, .int .i64 n.cap.c, .int .i64 n.cap.m, .int .i64 n.cap.p, u1, u2, .bool n.cordon] 60)).alloc (.cells #[.int .i64 t.id, .int .i64 t.prio, .int .i64 t.need.c, .int .i64 t.need.m, .int .i64 t.need.p, v1, v2] 46)) := (by repeat' (first | exact Below.refl _ _ | refine Below.alloc ?_ ?_ _ | refine Below.setCell ?_ ?_ _ | refine Below.drew ?_ | (apply below_step; assumption) | (simp; done) | (simp; omega) | omega))
  refine (HLA.out _ (K1.out.below hC0) (H1.out.below hC0)).mono ?_
  rintro e w1 ⟨rfl, hb1⟩
  have hz1 := hb1.size
  simp at hz1
  obtain ⟨hc1, hf1⟩ := bcell hb1
  have hC1 : Below w.heap.size w w1 := hC0.trans (hb1.mono hC0.size)
  cases b3
  · go_wp2_with fail
    go_ret
    exact ⟨by rw [HE'.out]; simp, hC1⟩
  go_wp2_with fail
  refine (HTA.out _ (K2.out.below hC1) (H2.out.below hC1)).mono ?_
  rintro e w2 ⟨rfl, hb2⟩
  have hC2 : Below w.heap.size w w2 := hC1.trans (hb2.mono hC1.size)
  go_wp2_with fail
  go_ret
  exact ⟨by rw [HE'.out]; simp, hC2⟩

theorem sch_eq (n : NV) (t : TV) (b1 b2 b3 : Bool) (h1 : n.ok = b1) (h2 : t.ok = b2) (h3 : hosts n t = b3) : canHost n t = (b1 && b2 && b3) := by
  subst h1 h2 h3; rfl
set_option maxHeartbeats 1600000 in
theorem sCanHost_any (n : NV) (t : TV) (u1 u2 v1 v2 : Value) (w : World) (k1 : LabSl w u1 n.labs) (k2 : IntSl w u2 n.taints) (h1 : LabSl w v1 t.want) (h2 : IntSl w v2 t.tols)
    (m1 : n.labs.length ≤ 1048576) (m2 : n.taints.length ≤ 1048576) (l1 : t.want.length ≤ 1048576) (l2 : t.tols.length ≤ 1048576) :
    Calls Tryz.prog 82 #[.agg #[.int .i64 n.id, .int .i64 n.pool, .int .i64 n.cap.c, .int .i64 n.cap.m, .int .i64 n.cap.p, u1, u2, .bool n.cordon], .agg #[.int .i64 t.id, .int .i64 t.prio, .int .i64 t.need.c, .int .i64 t.need.m, .int .i64 t.need.p, v1, v2]] w fun e w' => e = .returned (.bool (canHost n t)) ∧ Below w.heap.size w w' := by
  have K1 := Lib.hid k1
  have K2 := Lib.hid k2
  have H1 := Lib.hid h1
  have H2 := Lib.hid h2
  have hn : ∀ w (h1 : LabSl w u1 n.labs) (h2 : IntSl w u2 n.taints), Calls Tryz.prog 75 #[.agg #[.int .i64 n.id, .int .i64 n.pool, .int .i64 n.cap.c, .int .i64 n.cap.m, .int .i64 n.cap.p, u1, u2, .bool n.cordon]] w fun e w' => e = .returned (.bool n.ok) ∧ Below w.heap.size w w' := fun w h1 h2 => sNodeOk_any n u1 u2 w h1 h2 m1 m2
  have ht : ∀ w (h1 : LabSl w v1 t.want) (h2 : IntSl w v2 t.tols), Calls Tryz.prog 47 #[.agg #[.int .i64 t.id, .int .i64 t.prio, .int .i64 t.need.c, .int .i64 t.need.m, .int .i64 t.need.p, v1, v2]] w fun e w' => e = .returned (.bool t.ok) ∧ Below w.heap.size w w' := fun w h1 h2 => sTaskOk_any t v1 v2 w h1 h2 l1 l2
  have hh : ∀ w (k1 : LabSl w u1 n.labs) (k2 : IntSl w u2 n.taints) (h1 : LabSl w v1 t.want) (h2 : IntSl w v2 t.tols), Calls Tryz.prog 121 #[.agg #[.int .i64 n.id, .int .i64 n.pool, .int .i64 n.cap.c, .int .i64 n.cap.m, .int .i64 n.cap.p, u1, u2, .bool n.cordon], .agg #[.int .i64 t.id, .int .i64 t.prio, .int .i64 t.need.c, .int .i64 t.need.m, .int .i64 t.need.p, v1, v2]] w fun e w' => e = .returned (.bool (hosts n t)) ∧ Below w.heap.size w w' := fun w k1 k2 h1 h2 => sHosts_any n t u1 u2 v1 v2 w k1 k2 h1 h2 m1 m2 l1 l2
  have HE := Lib.hid (sch_eq n t)
  generalize canHost n t = ok at *
  generalize e1 : n.ok = b1 at hn
  generalize e2 : t.ok = b2 at ht
  generalize e3 : hosts n t = b3 at hh
  have HE' := Lib.hid (HE.out _ _ _ e1 e2 e3)
  have HN := Lib.hid hn
  have HT := Lib.hid ht
  have HH := Lib.hid hh
  clear k1 k2 h1 h2 hn ht hh e1 e2 e3 HE m1 m2 l1 l2
  go_enter Tryz.func82, Tryz.ntmps82
  go_wp2_with fail
  have hC0 : Below w.heap.size w ((w.alloc (.cells #[.int .i64 n.id, .int .i64 n.pool, .int .i64 n.cap.c, .int .i64 n.cap.m, .int .i64 n.cap.p, u1, u2, .bool n.cordon] 60)).alloc (.cells #[.int .i64 t.id, .int .i64 t.prio, .int .i64 t.need.c, .int .i64 t.need.m, .int .i64 t.need.p, v1, v2] 46)) := (by repeat' (first | exact Below.refl _ _ | refine Below.alloc ?_ ?_ _ | refine Below.setCell ?_ ?_ _ | refine Below.drew ?_ | (apply below_step; assumption) | (simp; done) | (simp; omega) | omega))
  refine (HT.out _ (H1.out.below hC0) (H2.out.below hC0)).mono ?_
  rintro e w1 ⟨rfl, hb1⟩
  have hz1 := hb1.size
  simp at hz1
  obtain ⟨hc1, hf1⟩ := bcell hb1
  have hC1 : Below w.heap.size w w1 := hC0.trans (hb1.mono hC0.size)
  cases b2
  · go_wp2_with fail
    go_ret
    exact ⟨by rw [HE'.out]; simp, hC1⟩
  go_wp2_with fail
  refine (HN.out _ (K1.out.below hC1) (K2.out.below hC1)).mono ?_
  rintro e w2 ⟨rfl, hb2⟩
  have hz2 := hb2.size
  obtain ⟨hc2, hf2⟩ := bcell hb2
  have hs1 : w.heap.size < w1.heap.size := by omega
  have hs1' : w.heap.size + 1 < w1.heap.size := by omega
  have hC2 : Below w.heap.size w w2 := hC1.trans (hb2.mono hC1.size)
  cases b1
  · go_wp2_with fail
    go_ret
    exact ⟨by rw [HE'.out]; simp, hC2⟩
  go_wp2_with fail
  refine (HH.out _ (K1.out.below hC2) (K2.out.below hC2) (H1.out.below hC2) (H2.out.below hC2)).mono ?_
  rintro e w3 ⟨rfl, hb3⟩
  have hC3 : Below w.heap.size w w3 := hC2.trans (hb3.mono hC2.size)
  go_wp2_with fail
  go_ret
  exact ⟨by rw [HE'.out]; simp, hC3⟩
end Go.Proofs.YtocfgejceoenmaaGreatDoor
