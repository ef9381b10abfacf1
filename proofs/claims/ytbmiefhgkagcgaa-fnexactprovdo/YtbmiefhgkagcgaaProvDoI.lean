/- The contract of ProvDo. -/
import Derived.Test.YtbmiefhgkagcgaaProvX
namespace Go.Proofs.Ytbmiefhgkagcgaa
open Go.RowKit

theorem provDo_bad {ep : Int} {l : List RV} {m : MV} {works : Bool} (h : provOk ep l = false) : provDo ep l m works = .bad 1 := by unfold provDo; rw [h]; rfl
theorem provDo_badM {ep : Int} {l : List RV} {m : MV} {works : Bool} (h : msgOk m = false) : provDo ep l m works = .bad 1 := by unfold provDo; rw [h, Bool.and_false]; rfl
theorem provDo_got {ep : Int} {l : List RV} {m : MV} {works : Bool} (h : provOk ep l = true) (hm : msgOk m = true) : provDo ep l m works = doGot ep l m works := by unfold provDo; rw [h, hm]; rfl
set_option maxRecDepth 20000 in
set_option maxHeartbeats 6400000 in
theorem ProvDo_any (ep : Int) (v : Value) (l : List RV) (m : MV) (works : Bool) (w : World) (hv : InSl w v l) (hlen : l.length ≤ 1048576) : Calls Try.prog 14 #[.agg #[.int .i64 ep, v], .agg #[.int .i64 m.k, .int .i64 m.e, .int .i64 m.i, .int .i64 m.p], .bool works] w (RetPA (provDo ep l m works) w) := by
  obtain ⟨A, c, rfl, hA⟩ := hv.form
  have HA := Lib.hid hA
  have HV := Lib.hid hv
  clear hA hv
  have HP := Lib.hid (fun w h => ProvOk_any ep (.slice A l.length c) l w h)
  have HM := Lib.hid (fun w => MsgOk_any m w)
  have HCP := Lib.hid (fun w h => copyInst_any (.slice A l.length c) l w h hlen)
  have HB := Lib.hid (@provDo_bad ep l m works)
  have HBM := Lib.hid (@provDo_badM ep l m works)
  have HG := Lib.hid (@provDo_got ep l m works)
  have HOK := Lib.hid (@provOk_all ep l)
  have HMK := Lib.hid (@msgOk_iff m)
  generalize provDo ep l m works = ans at *
  generalize provOk ep l = ok at *
  generalize msgOk m = mok at *
  go_enter Try.func14, Try.ntmps14
  go_wp2_with fail
  have hX : Below w.heap.size w (((w.alloc (.cells #[.int .i64 ep, .slice A l.length c] 26)).alloc (.cells #[.int .i64 m.k, .int .i64 m.e, .int .i64 m.i, .int .i64 m.p] 28)).alloc (.cells #[.int .i64 0, .slice none 0 0] 26)) := (by repeat' (first | exact Below.refl _ _ | refine Below.alloc ?_ ?_ _ | refine Below.setCell ?_ ?_ _ | refine Below.drew ?_ | (apply below_step; assumption) | (simp; done) | (simp; omega) | omega))
  refine (HP.out _ (HV.out.below hX)).mono ?_
  rintro e w1 ⟨rfl, hb1⟩
  have hC1 := below_of hX hb1
  have SB1 := Lib.hid ((((BlockIs.new w 26 #[.int .i64 ep, .slice A l.length c]).alloc (.cells #[.int .i64 m.k, .int .i64 m.e, .int .i64 m.i, .int .i64 m.p] 28)).alloc (.cells #[.int .i64 0, .slice none 0 0] 26)).below hb1 (by simp; omega))
  have MB1 := Lib.hid (((BlockIs.new' (w := w.alloc (.cells #[.int .i64 ep, .slice A l.length c] 26)) (t := 28) (cs := #[.int .i64 m.k, .int .i64 m.e, .int .i64 m.i, .int .i64 m.p]) (g := w.heap.size + 1) (by simp)).alloc (.cells #[.int .i64 0, .slice none 0 0] 26)).below hb1 (by simp))
  have OB1 := Lib.hid ((BlockIs.new' (w := (w.alloc (.cells #[.int .i64 ep, .slice A l.length c] 26)).alloc (.cells #[.int .i64 m.k, .int .i64 m.e, .int .i64 m.i, .int .i64 m.p] 28)) (t := 26) (cs := #[.int .i64 0, .slice none 0 0]) (g := w.heap.size + 1 + 1) (by simp)).below hb1 (by simp))
  have m1 := MB1.out.cell
  have d0 := OB1.out.cell 0
  have d1 := OB1.out.cell 1
  have df := OB1.out.frozen
  have dl := OB1.out.lt
  simp at d0 d1
  clear hX hb1
  cases ok
  · have HE := Lib.hid (HB.out rfl)
    clear HB HBM HG HOK HMK
    go_wp2_with fail
    refine bodyPost_ret (v := .tuple #[.agg #[.int .i64 0, .slice none 0 0], .int .i64 1]) (by simp [results, Try.results14, go_sem, d0, d1]) rfl ?_
    exact RetPA_bad HE.out (by repeat' (first | exact Below.refl _ _ | refine Below.alloc ?_ ?_ _ | refine Below.setCell ?_ ?_ _ | refine Below.drew ?_ | (apply below_step; assumption) | (simp; done) | (simp; omega) | omega))
  obtain ⟨_, hl60, _, hrise⟩ := HOK.out rfl
  have HR := Lib.hid hrise
  have HG1 := Lib.hid (HG.out rfl)
  clear hrise HOK HB HG
  go_wp2_with fail
  refine (HM.out _).mono ?_
  rintro e w2 ⟨rfl, hb2⟩
  have hC2 := below_of hC1 hb2
  clear m1
  have SB2 := Lib.hid (SB1.out.below hb2 SB1.out.lt)
  have MB2 := Lib.hid (MB1.out.below hb2 MB1.out.lt)
  have OB2 := Lib.hid (OB1.out.below hb2 OB1.out.lt)
  clear SB1 MB1 OB1
  have g2 := SB2.out.cell
  have m2 := MB2.out.cell
  have d0 := OB2.out.cell 0
  have d1 := OB2.out.cell 1
  have df := OB2.out.frozen
  have dl := OB2.out.lt
  simp at d0 d1
  clear hb2
  cases mok
  · have HE := Lib.hid (HBM.out rfl)
    clear HBM HG1 HMK
    go_wp2_with fail
    refine bodyPost_ret (v := .tuple #[.agg #[.int .i64 0, .slice none 0 0], .int .i64 1]) (by simp [results, Try.results14, go_sem, d0, d1]) rfl ?_
    exact RetPA_bad HE.out (by repeat' (first | exact Below.refl _ _ | refine Below.alloc ?_ ?_ _ | refine Below.setCell ?_ ?_ _ | refine Below.drew ?_ | (apply below_step; assumption) | (simp; done) | (simp; omega) | omega))
  have HE := Lib.hid (HG1.out rfl)
  obtain ⟨⟨n1, n2⟩, ⟨n3, n4⟩, hk⟩ := HMK.out.1 rfl
  clear HG1 HBM HMK
  by_cases hold : m.e < ep
  · have HE := Lib.hid (HE.out.trans (doGot_old hold))
    go_wp2_with fail
    refine bodyPost_ret (v := .tuple #[.agg #[.int .i64 0, .slice none 0 0], .int .i64 3]) (by simp [results, Try.results14, go_sem, d0, d1]) rfl ?_
    exact RetPA_bad HE.out (by repeat' (first | exact Below.refl _ _ | refine Below.alloc ?_ ?_ _ | refine Below.setCell ?_ ?_ _ | refine Below.drew ?_ | (apply below_step; assumption) | (simp; done) | (simp; omega) | omega))
  have HOLD := Lib.hid (show m.e < ep → False from hold)
  have HORD := Lib.hid (fun w => orderOf_any m works w)
  have HSK := Lib.hid (fun w h => seek_any ep (.slice A l.length c) l m.i w h hlen)
  obtain ⟨st, hst⟩ : ∃ st : Int, st = if works then 1 else 2 := ⟨_, rfl⟩
  have HST := Lib.hid hst
  have hmc := methodC
  have hmt := methodT
  have hac := assertC
  have hat := assertT
  have hatt := assertTT
  rcases hk with ⟨hk, _, _⟩ | ⟨hk, hp0⟩
  · have HK := Lib.hid hk
    have HORD1 := Lib.hid (fun w => show Calls Try.prog 39 #[.agg #[.int .i64 m.k, .int .i64 m.e, .int .i64 m.i, .int .i64 m.p], .bool works] w fun e w' => e = .returned (.iface 66 (.agg #[.int .i64 m.i, .int .i64 m.p, .int .i64 st])) ∧ Below w.heap.size w w' from by have h := HORD.out w; unfold orderV at h; simpa [hk, ← hst] using h)
    clear hst
    clear hk HORD
    go_wp2_with fail
    clear hold
    refine (HORD1.out _).mono ?_
    rintro e w3 ⟨rfl, hb3⟩
    have hC3 := below_of hC2 hb3
    clear g2 m2 d0 d1 df dl
    have SB3 := Lib.hid (SB2.out.below hb3 SB2.out.lt)
    have MB3 := Lib.hid (MB2.out.below hb3 MB2.out.lt)
    have OB3 := Lib.hid (OB2.out.below hb3 OB2.out.lt)
    clear SB2 MB2 OB2
    have g3 := SB3.out.cell
    have m3 := MB3.out.cell
    have d0 := OB3.out.cell 0
    have d1 := OB3.out.cell 1
    have df := OB3.out.frozen
    have dl := OB3.out.lt
    simp at d0 d1
    clear hb3 HORD1
    go_wp2_with fail
    refine (HSK.out _ (HV.out.below hC3)).mono ?_
    rintro e w4 ⟨i, b, rfl, hs, hb4⟩
    obtain ⟨rfl, hb⟩ := hs.2 HR.out
    have HBB := Lib.hid hb
    have hC4 := below_of hC3 hb4
    clear g3 m3 d0 d1 df dl
    have SB4 := Lib.hid (SB3.out.below hb4 SB3.out.lt)
    have MB4 := Lib.hid (MB3.out.below hb4 MB3.out.lt)
    have OB4 := Lib.hid (OB3.out.below hb4 OB3.out.lt)
    clear SB3 MB3 OB3
    have g4 := SB4.out.cell
    have m4 := MB4.out.cell
    have d0 := OB4.out.cell 0
    have d1 := OB4.out.cell 1
    have df := OB4.out.frozen
    have dl := OB4.out.lt
    simp at d0 d1
    clear hb4 hb hs HSK
    go_wp2_with fail
    cases b
    rotate_left
    · have hlen60 : True := trivial
      have HRF := Lib.hid (fun w => show Calls Try.prog 84 #[.agg #[.int .i64 m.i, .int .i64 m.p, .int .i64 st], .agg #[.int .i64 ep, .slice A l.length c], .bool true] w fun e w' => e = .returned (.int .i64 0) ∧ Below w.heap.size w w' from by have h := (fun w => refusalC_any ⟨m.i, m.p, st⟩ ep A l.length c true w) w; simpa [refC, refT, hlen60] using h)
      refine (HRF.out _).mono ?_
      rintro e w5 ⟨rfl, hb5⟩
      have hC5 := below_of hC4 hb5
      clear g4 m4 d0 d1 df dl
      have SB5 := Lib.hid (SB4.out.below hb5 SB4.out.lt)
      have MB5 := Lib.hid (MB4.out.below hb5 MB4.out.lt)
      have OB5 := Lib.hid (OB4.out.below hb5 OB4.out.lt)
      clear SB4 MB4 OB4
      have g5 := SB5.out.cell
      have m5 := MB5.out.cell
      have d0 := OB5.out.cell 0
      have d1 := OB5.out.cell 1
      have df := OB5.out.frozen
      have dl := OB5.out.lt
      simp at d0 d1
      clear hb5 HRF
      have HE2 := Lib.hid (HE.out.trans (doGot_here HOLD.out HK.out HBB.out.symm))
      go_upto_region 10 with fail
      have HKP := Lib.hid (show ∀ w', Below w5.heap.size w5 w' → Below w5.heap.size w5 w' ∧ (∀ o, w'.cell? ⟨w.heap.size, o, none⟩ = (#[.int .i64 ep, .slice A l.length c] : Array Value)[o]?) ∧ (∀ o, w'.cell? ⟨w.heap.size + 1, o, none⟩ = (#[.int .i64 m.k, .int .i64 m.e, .int .i64 m.i, .int .i64 m.p] : Array Value)[o]?) from
        fun w' hb => ⟨hb, (SB5.out.below hb SB5.out.lt).cell, (MB5.out.below hb MB5.out.lt).cell⟩)
      go_cut [12] (fun s12 wx => CutPv w5 m.e l s12 wx)
      case first =>
        go_region_held3 (fun w' => Below w5.heap.size w5 w' ∧ (∀ o, w'.cell? ⟨w.heap.size, o, none⟩ = (#[.int .i64 ep, .slice A l.length c] : Array Value)[o]?) ∧ (∀ o, w'.cell? ⟨w.heap.size + 1, o, none⟩ = (#[.int .i64 m.k, .int .i64 m.e, .int .i64 m.i, .int .i64 m.p] : Array Value)[o]?))
          (exact HKP.out _ (by repeat' (first | exact Below.refl _ _ | refine Below.alloc ?_ ?_ _ | refine Below.setCell ?_ ?_ _ | refine Below.drew ?_ | (apply below_step; assumption) | (simp; done) | (simp; omega) | omega)))
          (first
            | (go_at_call 41; refine (HCP.out _ (HV.out.below (below_of hC5 (by repeat' (first | exact Below.refl _ _ | refine Below.alloc ?_ ?_ _ | refine Below.setCell ?_ ?_ _ | refine Below.drew ?_ | (apply below_step; assumption) | (simp; done) | (simp; omega) | omega))))).mono ?_; rintro e w6 ⟨v6, rfl, ho6, hb6⟩; obtain ⟨A6, c6, rfl⟩ := ho6.len; have HO6 := Lib.hid ho6; clear ho6; obtain ⟨hc6, hf6⟩ := bcell hb6; have hz6 := hb6.size; (try simp at hz6); (first | have hn6 : w5.heap.size < w6.heap.size := by omega | skip)))
        all_goals
          go_wp2_with fail
          go_meet
          first
            | exact cutPv_late (by repeat' (first | exact Below.refl _ _ | refine Below.alloc ?_ ?_ _ | refine Below.setCell ?_ ?_ _ | refine Below.drew ?_ | (apply below_step; assumption) | (simp; done) | (simp; omega) | omega)) HO6.out
            | exact cutPv_early (by repeat' (first | exact Below.refl _ _ | refine Below.alloc ?_ ?_ _ | refine Below.setCell ?_ ?_ _ | refine Below.drew ?_ | (apply below_step; assumption) | (simp; done) | (simp; omega) | omega)) (((BlockIs.new w5 26 #[.int .i64 0, .slice none 0 0]).drew).below hb6 (by simp)) (HO6.out.low (by simp))
      case rest =>
        obtain ⟨g, v7, rfl, hg, hbk, ho, hne, hBx⟩ := hcut
        have hC7 := below_of hC5 hBx
        have MB7 := Lib.hid (MB5.out.below hBx MB5.out.lt)
        have OB7 := Lib.hid (OB5.out.below hBx OB5.out.lt)
        have hz5 := hC5.size
        have hzx := hBx.size
        have e0 := hbk.cell 0
        have e1 := hbk.cell 1
        have ef := hbk.frozen
        have eg := hbk.lt
        have k0 := OB7.out.cell 0
        have k1 := OB7.out.cell 1
        have kf := OB7.out.frozen
        have kl := OB7.out.lt
        simp at e0 e1 k0 k1
        have dlX := dl
        have hgr : g ≠ w.heap.size + 1 + 1 := by omega
        clear d0 d1 df dl OB5 SB5 MB5
        obtain ⟨A7, c7, rfl⟩ := ho.len
        have HO := Lib.hid ho
        have hrow : ∀ q, (Value.slice A7 l.length c7).ownBlock = some q → w.heap.size + 1 + 1 ≠ q := fun q e => by have := (World.ownsRow.lt ho q e).1; have := dlX; omega
        have HROW := Lib.hid hrow
        clear ho hbk hne hrow
        go_wp2_with fail
        have B2 := ((OB7.out.put 0 (.int .i64 m.e)).put 1 (.slice A7 l.length c7)).alloc (.cells #[.int .i64 m.i, .int .i64 m.p, .int .i64 st] 66)
        have z0 := B2.cell 0
        have z1 := B2.cell 1
        simp at z0 z1
        refine bodyPost_ret (v := .tuple #[.agg #[.int .i64 m.e, .slice A7 l.length c7], .int .i64 0]) (by simp [results, Try.results14, go_sem, z0, z1]) rfl ?_
        refine RetPA_fine HE2.out ?_ ?_
        · have h2 := ((HO.out.far (p := ⟨w.heap.size + 1 + 1, 0, none⟩) (fun e => HROW.out _ e rfl) (.int .i64 m.e)).far (p := ⟨w.heap.size + 1 + 1, 1, none⟩) (fun e => HROW.out _ e rfl) (.slice A7 l.length c7)).alloc (.cells #[.int .i64 m.i, .int .i64 m.p, .int .i64 st] 66)
          exact h2.low (base' := w.heap.size) (by omega)
        · exact ((hC7.setCell (by simp; omega) _).setCell (by simp; omega) _).alloc (by simp; omega) _
    by_cases hlen60 : l.length = 60
    · have HRF := Lib.hid (fun w => show Calls Try.prog 84 #[.agg #[.int .i64 m.i, .int .i64 m.p, .int .i64 st], .agg #[.int .i64 ep, .slice A l.length c], .bool false] w fun e w' => e = .returned (.int .i64 5) ∧ Below w.heap.size w w' from by have h := (fun w => refusalC_any ⟨m.i, m.p, st⟩ ep A l.length c false w) w; simpa [refC, refT, hlen60] using h)
      refine (HRF.out _).mono ?_
      rintro e w5 ⟨rfl, hb5⟩
      have hC5 := below_of hC4 hb5
      clear g4 m4 d0 d1 df dl
      have SB5 := Lib.hid (SB4.out.below hb5 SB4.out.lt)
      have MB5 := Lib.hid (MB4.out.below hb5 MB4.out.lt)
      have OB5 := Lib.hid (OB4.out.below hb5 OB4.out.lt)
      clear SB4 MB4 OB4
      have g5 := SB5.out.cell
      have m5 := MB5.out.cell
      have d0 := OB5.out.cell 0
      have d1 := OB5.out.cell 1
      have df := OB5.out.frozen
      have dl := OB5.out.lt
      simp at d0 d1
      clear hb5 HRF
      have HE := Lib.hid (HE.out.trans (doGot_full HOLD.out HK.out HBB.out.symm hlen60))
      go_wp2_with fail
      refine bodyPost_ret (v := .tuple #[.agg #[.int .i64 0, .slice none 0 0], .int .i64 5]) (by simp [results, Try.results14, go_sem, d0, d1]) rfl ?_
      exact RetPA_bad HE.out (by repeat' (first | exact Below.refl _ _ | refine Below.alloc ?_ ?_ _ | refine Below.setCell ?_ ?_ _ | refine Below.drew ?_ | (apply below_step; assumption) | (simp; done) | (simp; omega) | omega))
    · have HRF := Lib.hid (fun w => show Calls Try.prog 84 #[.agg #[.int .i64 m.i, .int .i64 m.p, .int .i64 st], .agg #[.int .i64 ep, .slice A l.length c], .bool false] w fun e w' => e = .returned (.int .i64 0) ∧ Below w.heap.size w w' from by have h := (fun w => refusalC_any ⟨m.i, m.p, st⟩ ep A l.length c false w) w; simpa [refC, refT, hlen60] using h)
      refine (HRF.out _).mono ?_
      rintro e w5 ⟨rfl, hb5⟩
      have hC5 := below_of hC4 hb5
      clear g4 m4 d0 d1 df dl
      have SB5 := Lib.hid (SB4.out.below hb5 SB4.out.lt)
      have MB5 := Lib.hid (MB4.out.below hb5 MB4.out.lt)
      have OB5 := Lib.hid (OB4.out.below hb5 OB4.out.lt)
      clear SB4 MB4 OB4
      have g5 := SB5.out.cell
      have m5 := MB5.out.cell
      have d0 := OB5.out.cell 0
      have d1 := OB5.out.cell 1
      have df := OB5.out.frozen
      have dl := OB5.out.lt
      simp at d0 d1
      clear hb5 HRF
      have HE2 := Lib.hid (HE.out.trans ((doGot_new HOLD.out HK.out HBB.out.symm hlen60).trans (by rw [← HST.out])))
      have hiln := lowAt_le m.i l
      generalize lowAt m.i l = i at *
      go_upto_region 10 with fail
      have HKP := Lib.hid (show ∀ w', Below w5.heap.size w5 w' → Below w5.heap.size w5 w' ∧ (∀ o, w'.cell? ⟨w.heap.size, o, none⟩ = (#[.int .i64 ep, .slice A l.length c] : Array Value)[o]?) ∧ (∀ o, w'.cell? ⟨w.heap.size + 1, o, none⟩ = (#[.int .i64 m.k, .int .i64 m.e, .int .i64 m.i, .int .i64 m.p] : Array Value)[o]?) from
        fun w' hb => ⟨hb, (SB5.out.below hb SB5.out.lt).cell, (MB5.out.below hb MB5.out.lt).cell⟩)
      go_cut [12] (fun s12 wx => CutPv w5 m.e l s12 wx)
      case first =>
        go_region_held3 (fun w' => Below w5.heap.size w5 w' ∧ (∀ o, w'.cell? ⟨w.heap.size, o, none⟩ = (#[.int .i64 ep, .slice A l.length c] : Array Value)[o]?) ∧ (∀ o, w'.cell? ⟨w.heap.size + 1, o, none⟩ = (#[.int .i64 m.k, .int .i64 m.e, .int .i64 m.i, .int .i64 m.p] : Array Value)[o]?))
          (exact HKP.out _ (by repeat' (first | exact Below.refl _ _ | refine Below.alloc ?_ ?_ _ | refine Below.setCell ?_ ?_ _ | refine Below.drew ?_ | (apply below_step; assumption) | (simp; done) | (simp; omega) | omega)))
          (first
            | (go_at_call 41; refine (HCP.out _ (HV.out.below (below_of hC5 (by repeat' (first | exact Below.refl _ _ | refine Below.alloc ?_ ?_ _ | refine Below.setCell ?_ ?_ _ | refine Below.drew ?_ | (apply below_step; assumption) | (simp; done) | (simp; omega) | omega))))).mono ?_; rintro e w6 ⟨v6, rfl, ho6, hb6⟩; obtain ⟨A6, c6, rfl⟩ := ho6.len; have HO6 := Lib.hid ho6; clear ho6; obtain ⟨hc6, hf6⟩ := bcell hb6; have hz6 := hb6.size; (try simp at hz6); (first | have hn6 : w5.heap.size < w6.heap.size := by omega | skip)))
        all_goals
          go_wp2_with fail
          go_meet
          first
            | exact cutPv_late (by repeat' (first | exact Below.refl _ _ | refine Below.alloc ?_ ?_ _ | refine Below.setCell ?_ ?_ _ | refine Below.drew ?_ | (apply below_step; assumption) | (simp; done) | (simp; omega) | omega)) HO6.out
            | exact cutPv_early (by repeat' (first | exact Below.refl _ _ | refine Below.alloc ?_ ?_ _ | refine Below.setCell ?_ ?_ _ | refine Below.drew ?_ | (apply below_step; assumption) | (simp; done) | (simp; omega) | omega)) (((BlockIs.new w5 26 #[.int .i64 0, .slice none 0 0]).drew).below hb6 (by simp)) (HO6.out.low (by simp))
      case rest =>
        obtain ⟨g, v7, rfl, hg, hbk, ho, hne, hBx⟩ := hcut
        have hC7 := below_of hC5 hBx
        have MB7 := Lib.hid (MB5.out.below hBx MB5.out.lt)
        have OB7 := Lib.hid (OB5.out.below hBx OB5.out.lt)
        have hz5 := hC5.size
        have hzx := hBx.size
        have e0 := hbk.cell 0
        have e1 := hbk.cell 1
        have ef := hbk.frozen
        have eg := hbk.lt
        have k0 := OB7.out.cell 0
        have k1 := OB7.out.cell 1
        have kf := OB7.out.frozen
        have kl := OB7.out.lt
        simp at e0 e1 k0 k1
        have dlX := dl
        have hgr : g ≠ w.heap.size + 1 + 1 := by omega
        clear d0 d1 df dl OB5 SB5 MB5
        obtain ⟨A7, c7, rfl⟩ := ho.len
        have HO := Lib.hid ho
        have hrow : ∀ q, (Value.slice A7 l.length c7).ownBlock = some q → w5.heap.size ≤ q ∧ q < wc.heap.size := fun q e => World.ownsRow.lt ho q e
        have HROW := Lib.hid (And.intro hrow hne)
        have HBK := Lib.hid hbk
        clear ho hbk hne hrow
        go_wp2_with fail
        have hC8a := (hC7.alloc (by have := hC7.size; omega) (.cells #[.int .i64 m.i, .int .i64 m.p, .int .i64 st] 66)).alloc (by simp; omega) (.cells #[.int .i64 m.i, .int .i64 m.p, .int .i64 st] 38)
        refine (insInst_any (.slice A7 l.length c7) l ⟨m.i, m.p, st⟩ i (wc.heap.size + 1) w5.heap.size _ ((HO.out.alloc _).alloc _) hiln hlen (BlockIs.new' (by simp)) (fun e => by have := (HROW.out.1 _ e).2; omega) (by simp; omega)).mono ?_
        rintro e w8 ⟨v8, rfl, ho8, hk8, ht8⟩
        generalize l.take i ++ (⟨m.i, m.p, st⟩ : RV) :: l.drop i = L at ho8 HE2
        have PB8 := Lib.hid (((HBK.out.alloc _).alloc _).turn ht8 (fun e => HROW.out.2 (by simpa [blk, Option.mem_toList] using e)))
        have OB8 := Lib.hid (((OB7.out.alloc _).alloc _).turn ht8 (fun e => by have := (HROW.out.1 _ (by simpa [blk, Option.mem_toList] using e)).1; have := dlX; omega))
        have hC8 := hC8a.trans (ht8.below (B := w.heap.size) (by simp; omega) (fun b hb => by have := (HROW.out.1 b (by simpa [blk, Option.mem_toList] using hb)).1; omega))
        have hv8 : ∀ q, v8.ownBlock = some q → w5.heap.size ≤ q ∧ q ≠ g := fun q e => by
          refine ⟨(World.ownsRow.lt ho8 q e).1, ?_⟩
          rcases hk8 with h | h
          · intro e'; subst e'; exact HROW.out.2 (h ▸ e)
          · rw [h] at e; simp at e; omega
        obtain ⟨A8, c8, rfl⟩ := ho8.len
        have HO8 := Lib.hid ho8
        have HV8 := Lib.hid hv8
        have e0 := PB8.out.cell 0
        have e1 := PB8.out.cell 1
        have ef := PB8.out.frozen
        have eg := PB8.out.lt
        have k0 := OB8.out.cell 0
        have k1 := OB8.out.cell 1
        have kf := OB8.out.frozen
        have kl := OB8.out.lt
        simp at e0 e1 k0 k1
        clear ho8 hk8 ht8 hv8 hC8a HO HROW HBK OB7
        go_wp2_with fail
        have B2 := (((OB8.out.far (p := ⟨g, 1, none⟩) (fun e => hgr e.symm) (.slice A8 L.length c8)).put 0 (.int .i64 m.e)).put 1 (.slice A8 L.length c8))
        have z0 := B2.cell 0
        have z1 := B2.cell 1
        simp at z0 z1
        refine bodyPost_ret (v := .tuple #[.agg #[.int .i64 m.e, .slice A8 L.length c8], .int .i64 0]) (by simp [results, Try.results14, go_sem, z0, z1]) rfl ?_
        refine RetPA_fine HE2.out ?_ ?_
        · have h2 := ((HO8.out.far (p := ⟨g, 1, none⟩) (fun e => (HV8.out _ e).2 rfl) (.slice A8 L.length c8)).far (p := ⟨w.heap.size + 1 + 1, 0, none⟩) (fun e => absurd (HV8.out _ e).1 (by have := dlX; simp; omega)) (.int .i64 m.e)).far (p := ⟨w.heap.size + 1 + 1, 1, none⟩) (fun e => absurd (HV8.out _ e).1 (by have := dlX; simp; omega)) (.slice A8 L.length c8)
          exact h2.low (base' := w.heap.size) (by omega)
        · exact ((hC8.setCell (by simp; omega) _).setCell (by simp; omega) _).setCell (by simp; omega) _

  · clear hp0
    have HK := Lib.hid hk
    have HORD1 := Lib.hid (fun w => show Calls Try.prog 39 #[.agg #[.int .i64 m.k, .int .i64 m.e, .int .i64 m.i, .int .i64 m.p], .bool works] w fun e w' => e = .returned (.iface 69 (.agg #[])) ∧ Below w.heap.size w w' from by have h := HORD.out w; unfold orderV at h; simpa [hk, ← hst] using h)
    clear hst
    clear hk HORD
    go_wp2_with fail
    clear hold
    refine (HORD1.out _).mono ?_
    rintro e w3 ⟨rfl, hb3⟩
    have hC3 := below_of hC2 hb3
    clear g2 m2 d0 d1 df dl
    have SB3 := Lib.hid (SB2.out.below hb3 SB2.out.lt)
    have MB3 := Lib.hid (MB2.out.below hb3 MB2.out.lt)
    have OB3 := Lib.hid (OB2.out.below hb3 OB2.out.lt)
    clear SB2 MB2 OB2
    have g3 := SB3.out.cell
    have m3 := MB3.out.cell
    have d0 := OB3.out.cell 0
    have d1 := OB3.out.cell 1
    have df := OB3.out.frozen
    have dl := OB3.out.lt
    simp at d0 d1
    clear hb3 HORD1
    go_wp2_with fail
    refine (HSK.out _ (HV.out.below hC3)).mono ?_
    rintro e w4 ⟨i, b, rfl, hs, hb4⟩
    obtain ⟨rfl, hb⟩ := hs.2 HR.out
    have HBB := Lib.hid hb
    have hC4 := below_of hC3 hb4
    clear g3 m3 d0 d1 df dl
    have SB4 := Lib.hid (SB3.out.below hb4 SB3.out.lt)
    have MB4 := Lib.hid (MB3.out.below hb4 MB3.out.lt)
    have OB4 := Lib.hid (OB3.out.below hb4 OB3.out.lt)
    clear SB3 MB3 OB3
    have g4 := SB4.out.cell
    have m4 := MB4.out.cell
    have d0 := OB4.out.cell 0
    have d1 := OB4.out.cell 1
    have df := OB4.out.frozen
    have dl := OB4.out.lt
    simp at d0 d1
    clear hb4 hb hs HSK
    go_wp2_with fail
    cases b
    · have hlen60 : True := trivial
      have HRF := Lib.hid (fun w => show Calls Try.prog 85 #[.agg #[], .agg #[.int .i64 ep, .slice A l.length c], .bool false] w fun e w' => e = .returned (.int .i64 6) ∧ Below w.heap.size w w' from by have h := (fun w => refusalT_any ep (.slice A l.length c) false w) w; simpa [refC, refT, hlen60] using h)
      refine (HRF.out _).mono ?_
      rintro e w5 ⟨rfl, hb5⟩
      have hC5 := below_of hC4 hb5
      clear g4 m4 d0 d1 df dl
      have SB5 := Lib.hid (SB4.out.below hb5 SB4.out.lt)
      have MB5 := Lib.hid (MB4.out.below hb5 MB4.out.lt)
      have OB5 := Lib.hid (OB4.out.below hb5 OB4.out.lt)
      clear SB4 MB4 OB4
      have g5 := SB5.out.cell
      have m5 := MB5.out.cell
      have d0 := OB5.out.cell 0
      have d1 := OB5.out.cell 1
      have df := OB5.out.frozen
      have dl := OB5.out.lt
      simp at d0 d1
      clear hb5 HRF
      have HE := Lib.hid (HE.out.trans (doGot_none HOLD.out HK.out HBB.out.symm))
      go_wp2_with fail
      refine bodyPost_ret (v := .tuple #[.agg #[.int .i64 0, .slice none 0 0], .int .i64 6]) (by simp [results, Try.results14, go_sem, d0, d1]) rfl ?_
      exact RetPA_bad HE.out (by repeat' (first | exact Below.refl _ _ | refine Below.alloc ?_ ?_ _ | refine Below.setCell ?_ ?_ _ | refine Below.drew ?_ | (apply below_step; assumption) | (simp; done) | (simp; omega) | omega))
    have hlen60 : True := trivial
    have HRF := Lib.hid (fun w => show Calls Try.prog 85 #[.agg #[], .agg #[.int .i64 ep, .slice A l.length c], .bool true] w fun e w' => e = .returned (.int .i64 0) ∧ Below w.heap.size w w' from by have h := (fun w => refusalT_any ep (.slice A l.length c) true w) w; simpa [refC, refT, hlen60] using h)
    refine (HRF.out _).mono ?_
    rintro e w5 ⟨rfl, hb5⟩
    have hC5 := below_of hC4 hb5
    clear g4 m4 d0 d1 df dl
    have SB5 := Lib.hid (SB4.out.below hb5 SB4.out.lt)
    have MB5 := Lib.hid (MB4.out.below hb5 MB4.out.lt)
    have OB5 := Lib.hid (OB4.out.below hb5 OB4.out.lt)
    clear SB4 MB4 OB4
    have g5 := SB5.out.cell
    have m5 := MB5.out.cell
    have d0 := OB5.out.cell 0
    have d1 := OB5.out.cell 1
    have df := OB5.out.frozen
    have dl := OB5.out.lt
    simp at d0 d1
    clear hb5 HRF
    obtain ⟨x, hx, hxz⟩ := (lowAt_has HR.out m.i).1 HBB.out.symm
    have HE2 := Lib.hid (HE.out.trans (doGot_gone HR.out HOLD.out HK.out hx hxz))
    have hlt : lowAt m.i l < l.length := (List.getElem?_eq_some_iff.1 hx).1
    have hlti : ((lowAt m.i l : Nat) : Int) < (l.length : Int) := by omega
    have HX := Lib.hid hx
    clear hx hxz HBB
    generalize lowAt m.i l = i at *
    go_upto_region 10 with fail
    have HKP := Lib.hid (show ∀ w', Below w5.heap.size w5 w' → Below w5.heap.size w5 w' ∧ (∀ o, w'.cell? ⟨w.heap.size, o, none⟩ = (#[.int .i64 ep, .slice A l.length c] : Array Value)[o]?) ∧ (∀ o, w'.cell? ⟨w.heap.size + 1, o, none⟩ = (#[.int .i64 m.k, .int .i64 m.e, .int .i64 m.i, .int .i64 m.p] : Array Value)[o]?) from
      fun w' hb => ⟨hb, (SB5.out.below hb SB5.out.lt).cell, (MB5.out.below hb MB5.out.lt).cell⟩)
    go_cut [12] (fun s12 wx => CutPv w5 m.e l s12 wx)
    case first =>
      go_region_held3 (fun w' => Below w5.heap.size w5 w' ∧ (∀ o, w'.cell? ⟨w.heap.size, o, none⟩ = (#[.int .i64 ep, .slice A l.length c] : Array Value)[o]?) ∧ (∀ o, w'.cell? ⟨w.heap.size + 1, o, none⟩ = (#[.int .i64 m.k, .int .i64 m.e, .int .i64 m.i, .int .i64 m.p] : Array Value)[o]?))
        (exact HKP.out _ (by repeat' (first | exact Below.refl _ _ | refine Below.alloc ?_ ?_ _ | refine Below.setCell ?_ ?_ _ | refine Below.drew ?_ | (apply below_step; assumption) | (simp; done) | (simp; omega) | omega)))
        (first
          | (go_at_call 41; refine (HCP.out _ (HV.out.below (below_of hC5 (by repeat' (first | exact Below.refl _ _ | refine Below.alloc ?_ ?_ _ | refine Below.setCell ?_ ?_ _ | refine Below.drew ?_ | (apply below_step; assumption) | (simp; done) | (simp; omega) | omega))))).mono ?_; rintro e w6 ⟨v6, rfl, ho6, hb6⟩; obtain ⟨A6, c6, rfl⟩ := ho6.len; have HO6 := Lib.hid ho6; clear ho6; obtain ⟨hc6, hf6⟩ := bcell hb6; have hz6 := hb6.size; (try simp at hz6); (first | have hn6 : w5.heap.size < w6.heap.size := by omega | skip)))
      all_goals
        go_wp2_with fail
        go_meet
        first
          | exact cutPv_late (by repeat' (first | exact Below.refl _ _ | refine Below.alloc ?_ ?_ _ | refine Below.setCell ?_ ?_ _ | refine Below.drew ?_ | (apply below_step; assumption) | (simp; done) | (simp; omega) | omega)) HO6.out
          | exact cutPv_early (by repeat' (first | exact Below.refl _ _ | refine Below.alloc ?_ ?_ _ | refine Below.setCell ?_ ?_ _ | refine Below.drew ?_ | (apply below_step; assumption) | (simp; done) | (simp; omega) | omega)) (((BlockIs.new w5 26 #[.int .i64 0, .slice none 0 0]).drew).below hb6 (by simp)) (HO6.out.low (by simp))
    case rest =>
      obtain ⟨g, v7, rfl, hg, hbk, ho, hne, hBx⟩ := hcut
      have hC7 := below_of hC5 hBx
      have MB7 := Lib.hid (MB5.out.below hBx MB5.out.lt)
      have OB7 := Lib.hid (OB5.out.below hBx OB5.out.lt)
      have hz5 := hC5.size
      have hzx := hBx.size
      have e0 := hbk.cell 0
      have e1 := hbk.cell 1
      have ef := hbk.frozen
      have eg := hbk.lt
      have k0 := OB7.out.cell 0
      have k1 := OB7.out.cell 1
      have kf := OB7.out.frozen
      have kl := OB7.out.lt
      simp at e0 e1 k0 k1
      have dlX := dl
      have hgr : g ≠ w.heap.size + 1 + 1 := by omega
      clear d0 d1 df dl OB5 SB5 MB5
      obtain ⟨gv, cv, rfl, hgv, hgvl, p0, p1, p2, pf⟩ := ho.at_ HX.out
      have hne' : gv ≠ g := fun e => hne (by rw [← e]; rfl)
      have HO := Lib.hid ho
      have hgr2 : gv ≠ w.heap.size + 1 + 1 := by omega
      clear ho hbk hne
      go_wp2_with fail
      have B2 := (((OB7.out.far (p := ⟨gv, i * 3 + 2, none⟩) (fun e => hgr2 e.symm) (.int .i64 2)).put 0 (.int .i64 m.e)).put 1 (.slice (some ⟨gv, 0, none⟩) l.length cv)).alloc (.cells #[] 69)
      have z0 := B2.cell 0
      have z1 := B2.cell 1
      simp at z0 z1
      refine bodyPost_ret (v := .tuple #[.agg #[.int .i64 m.e, .slice (some ⟨gv, 0, none⟩) l.length cv], .int .i64 0]) (by simp [results, Try.results14, go_sem, z0, z1]) rfl ?_
      refine RetPA_fine HE2.out ?_ ?_
      · have h1 := HO.out.gone HX.out
        have h2 := ((h1.far (p := ⟨w.heap.size + 1 + 1, 0, none⟩) (by simp [Value.ownBlock]; omega) (.int .i64 m.e)).far (p := ⟨w.heap.size + 1 + 1, 1, none⟩) (by simp [Value.ownBlock]; omega) (.slice (some ⟨gv, 0, none⟩) l.length cv)).alloc (.cells #[] 69)
        have h3 := h2.low (base' := w.heap.size) (by omega)
        simpa using h3
      · exact (((hC7.setCell (by simp; omega) _).setCell (by simp; omega) _).setCell (by simp; omega) _).alloc (by simp; omega) _

end Go.Proofs.Ytbmiefhgkagcgaa
