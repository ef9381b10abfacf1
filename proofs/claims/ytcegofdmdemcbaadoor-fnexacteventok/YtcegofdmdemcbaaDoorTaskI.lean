/- The contracts of idOk, TaskOk, NodeOk, CanHost. -/
import Derived.Test.YtcegofdmdemcbaaDoorCluPure
import Derived.Test.YtcegofdmdemcbaaDoorResC
import Derived.Test.YtcegofdmdemcbaaDoorTaintI
namespace Go.Proofs.YtcegofdmdemcbaaDoor
open Go.RowKit

theorem idOk_any (n : Int) (w : World) : Calls Tryd.prog 18 #[.int .i64 n] w fun e w' => e = .returned (.bool (idOk n)) ∧ w = w' := by
  by_cases h1 : 1 ≤ n
  · by_cases h2 : n ≤ 99
    · have H := Lib.hid (idOk_iff.2 ⟨h1, h2⟩)
      go_enter Tryd.func18, Tryd.ntmps18
      go_wp2
      go_ret
      exact ⟨by rw [H.out]; simp, rfl⟩
    · have H := Lib.hid (idBad_iff.2 (fun h => h2 h.2))
      have h3 : 99 < n := by omega
      clear h2
      go_enter Tryd.func18, Tryd.ntmps18
      go_wp2
      go_ret
      exact ⟨by rw [H.out]; simp; omega, rfl⟩
  · have H := Lib.hid (idBad_iff.2 (fun h => h1 h.1))
    have h2 : n < 1 := by omega
    clear h1
    go_enter Tryd.func18, Tryd.ntmps18
    go_wp2
    go_ret
    exact ⟨by rw [H.out]; rfl, rfl⟩

theorem tv_ok_eq (t : TV) (b1 b2 b3 b4 b5 b6 : Bool) (h1 : idOk t.id = b1) (h2 : decide (0 ≤ t.prio) = b2) (h3 : decide (t.prio ≤ 9) = b3) (h4 : t.need.ok = b4) (h5 : labsOk t.want = b5) (h6 : labsOk (tl t.tols) = b6) : t.ok = (b1 && b2 && b3 && b4 && b5 && b6) := by
  subst h1 h2 h3 h4 h5 h6; rfl
theorem nv_ok_eq (t : NV) (b1 b2 b3 b4 b5 b6 : Bool) (h1 : idOk t.id = b1) (h2 : decide (0 ≤ t.pool) = b2) (h3 : decide (t.pool < 5) = b3) (h4 : t.cap.ok = b4) (h5 : labsOk t.labs = b5) (h6 : labsOk (tl t.taints) = b6) : t.ok = (b1 && b2 && b3 && b4 && b5 && b6) := by
  subst h1 h2 h3 h4 h5 h6; rfl

set_option maxHeartbeats 1600000 in
theorem TaskOk_any (t : TV) (v1 v2 : Value) (w : World) (x : Addr) (hg : ErrAt x w) (h1 : LabSl w v1 t.want) (h2 : IntSl w v2 t.tols) (l1 : t.want.length ≤ 1048576) (l2 : t.tols.length ≤ 1048576) :
    Calls Tryd.prog 17 #[.agg #[.int .i64 t.id, .int .i64 t.prio, .int .i64 t.need.c, .int .i64 t.need.m, .int .i64 t.need.p, v1, v2]] w fun e w' => e = .returned (.bool t.ok) ∧ Below w.heap.size w w' := by
  have HG := Lib.hid hg
  have HL := Lib.hid h1
  have HI := Lib.hid h2
  have HE := Lib.hid (tv_ok_eq t)
  have hid := idOk_any t.id
  have hne : ∀ w x (hg : ErrAt x w), Calls Tryd.prog 29 #[.agg #[.int .i64 t.need.c, .int .i64 t.need.m, .int .i64 t.need.p]] w fun e w' => e = .returned (.bool t.need.ok) ∧ Below w.heap.size w w' := fun w x hg => ResOk_any t.need w x hg
  have hla : ∀ w (h : LabSl w v1 t.want), Calls Tryd.prog 30 #[v1] w fun e w' => e = .returned (.bool (labsOk t.want)) ∧ Below w.heap.size w w' := fun w h => LabsOk_any v1 t.want w h l1
  have hta : ∀ w (h : IntSl w v2 t.tols), Calls Tryd.prog 31 #[v2] w fun e w' => e = .returned (.bool (labsOk (tl t.tols))) ∧ Below w.heap.size w w' := fun w h => TaintsOk_any v2 t.tols w h l2
  generalize t.ok = ok at *
  generalize e1 : idOk t.id = b1 at hid
  generalize e2 : decide (0 ≤ t.prio) = b2
  generalize e3 : decide (t.prio ≤ 9) = b3
  generalize e4 : t.need.ok = b4 at hne
  generalize e5 : labsOk t.want = b5 at hla
  generalize e6 : labsOk (tl t.tols) = b6 at hta
  have HE' := Lib.hid (HE.out _ _ _ _ _ _ e1 e2 e3 e4 e5 e6)
  have HID := Lib.hid hid
  have HNE := Lib.hid hne
  have HLA := Lib.hid hla
  have HTA := Lib.hid hta
  clear hg h1 h2 hid hne hla hta e1 e4 e5 e6 HE l1 l2
  go_enter Tryd.func17, Tryd.ntmps17
  go_wp2_with fail
  refine (HID.out _).mono ?_
  rintro e w1 ⟨rfl, rfl⟩
  cases b1
  · go_wp2_with fail
    go_ret
    exact ⟨by rw [HE'.out]; simp, (by repeat' (first | exact Below.refl _ _ | refine Below.alloc ?_ ?_ _ | refine Below.setCell ?_ ?_ _ | refine Below.drew ?_ | (apply below_step; assumption) | (simp; done) | (simp; omega) | omega))⟩
  cases b2
  · go_wp2_with fail
    go_ret
    exact ⟨by rw [HE'.out]; simp, (by repeat' (first | exact Below.refl _ _ | refine Below.alloc ?_ ?_ _ | refine Below.setCell ?_ ?_ _ | refine Below.drew ?_ | (apply below_step; assumption) | (simp; done) | (simp; omega) | omega))⟩
  cases b3
  · go_wp2_with fail
    go_ret
    exact ⟨by rw [HE'.out]; simp, (by repeat' (first | exact Below.refl _ _ | refine Below.alloc ?_ ?_ _ | refine Below.setCell ?_ ?_ _ | refine Below.drew ?_ | (apply below_step; assumption) | (simp; done) | (simp; omega) | omega))⟩
  go_wp2_with fail
  refine (HNE.out _ x (HG.out.alloc _)).mono ?_
  rintro e w2 ⟨rfl, hb2⟩
  have hz2 := hb2.size
  simp at hz2
  obtain ⟨hc2, hf2⟩ := bcell hb2
  have hC2 : Below w.heap.size w w2 := ((Below.refl _ _).alloc (Nat.le_refl _) _).trans (hb2.mono (by simp))
  cases b4
  · go_wp2_with fail
    go_ret
    exact ⟨by rw [HE'.out]; simp, hC2⟩
  go_wp2_with fail
  refine (HLA.out _ (HL.out.below hC2)).mono ?_
  rintro e w3 ⟨rfl, hb3⟩
  have hz3 := hb3.size
  obtain ⟨hc3, hf3⟩ := bcell hb3
  have hs2 : w.heap.size < w2.heap.size := by omega
  have hC3 : Below w.heap.size w w3 := hC2.trans (hb3.mono hC2.size)
  cases b5
  · go_wp2_with fail
    go_ret
    exact ⟨by rw [HE'.out]; simp, hC3⟩
  go_wp2_with fail
  refine (HTA.out _ (HI.out.below hC3)).mono ?_
  rintro e w4 ⟨rfl, hb4⟩
  have hC4 : Below w.heap.size w w4 := hC3.trans (hb4.mono hC3.size)
  go_wp2_with fail
  go_ret
  exact ⟨by rw [HE'.out]; simp, hC4⟩
theorem canHost_no1 {n : NV} {t : TV} (h : n.ok = false) : canHost n t = false := by simp [canHost, h]
theorem canHost_no2 {n : NV} {t : TV} (h : t.ok = false) : canHost n t = false := by simp [canHost, h]
theorem canHost_no3 {n : NV} {t : TV} (h : matchOf n.labs t.want = false) : canHost n t = false := by simp [canHost, hosts, h]
theorem canHost_yes {n : NV} {t : TV} (h1 : n.ok = true) (h2 : t.ok = true) (h3 : matchOf n.labs t.want = true) : canHost n t = tolOf n.taints t.tols := by simp [canHost, hosts, h1, h2, h3]
theorem ma_eq (n : NV) (t : TV) (b3 b4 : Bool) (h3 : matchOf n.labs t.want = b3) (h4 : tolOf n.taints t.tols = b4) : hosts n t = (b3 && b4) := by
  subst h3 h4; rfl
theorem ch_eq (n : NV) (t : TV) (b1 b2 b3 : Bool) (h1 : n.ok = b1) (h2 : t.ok = b2) (h3 : hosts n t = b3) : canHost n t = (b1 && b2 && b3) := by
  subst h1 h2 h3; rfl

end Go.Proofs.YtcegofdmdemcbaaDoor
