/- The contracts of the model's WorldOk, l08Leader, Leader. (mkworlds.py) -/
import Derived.Test.YtmkpajjnjgnmkabGreatDoorMg07
import Derived.Test.YtmkpajjnjgnmkabGreatDoorMg02
import Derived.Test.YtmkpajjnjgnmkabGreatDoorMg06
namespace Go.Proofs.YtmkpajjnjgnmkabGreatDoor
open Go.RowKit

theorem settings_eq9 (t : WV) (b0 d1 d2 d3 d4 d5 d6 d7 d8 : Bool) (h0 : lWithin t.now 0 100000 = b0) (h1 : decide (t.span < 1) = d1) (h2 : decide (1000 < t.span) = d2) (h3 : decide (t.kind < 1) = d3) (h4 : decide (3 < t.kind) = d4) (h5 : decide (t.limit < 0) = d5) (h6 : decide (1001 < t.limit) = d6) (h7 : decide (t.next < 1) = d7) (h8 : decide (100 < t.next) = d8) :
    settingsOk t = (b0 && !d1 && !d2 && !d3 && !d4 && !d5 && !d6 && !d7 && !d8) := by
  subst h0 h1 h2 h3 h4 h5 h6 h7 h8
  rw [Bool.eq_iff_iff]
  simp only [settingsOk, Bool.and_eq_true, lWithin_iff, Bool.not_eq_true', decide_eq_false_iff_not]
  omega
theorem worldOk_parts (t : WV) (f1 f2 f3 g1 g2 : Bool) (h1 : ((t.epochs.length : Int) != 4) = f1) (h2 : decide (40 < (t.msgs.length : Int)) = f2) (h3 : decide (t.lease.m < t.seen) = f3) (k1 : decide (20 < (t.wants.length : Int)) = g1) (k2 : decide (20 < (t.ends.length : Int)) = g2) :
    worldOk t = (settingsOk t && leaseOk t.lease && poolsOk t.pools && clusterOk t.clu && provOk t.seen t.insts && !f1 && !f2 && !f3 &&
      t.epochs.all (fun e => lWithin e 0 t.lease.m) && t.msgs.all (fun m => msgIn t m && decide (m.i < t.next)) && !g1 && !g2 && idsIn t.next (t.wants.map BV.task) && idsIn t.next t.ends &&
      t.wants.all (fun v => hasPool t.pools v.node && !hasNode t.clu v.task) && t.ends.all (fun z => hasNode t.clu z) &&
      lastLt t.next (t.clu.nodes.map NV.id) && lastLt t.next (t.insts.map RV.c)) := by
  subst h1 h2 h3 k1 k2
  rw [← worldOk_model]
  unfold worldOkS
  have e1 : decide (t.epochs.length = 4) = !((t.epochs.length : Int) != 4) := by rw [Bool.eq_iff_iff]; simp; omega
  have e2 : decide (t.msgs.length ≤ 40) = !decide (40 < (t.msgs.length : Int)) := by rw [Bool.eq_iff_iff]; simp; omega
  have e3 : decide (t.wants.length ≤ 20) = !decide (20 < (t.wants.length : Int)) := by rw [Bool.eq_iff_iff]; simp; omega
  have e4 : decide (t.ends.length ≤ 20) = !decide (20 < (t.ends.length : Int)) := by rw [Bool.eq_iff_iff]; simp; omega
  rw [e1, e2, e3, e4]
theorem epIn_eq (r m : Int) (c1 c2 : Bool) (h1 : decide (r < 0) = c1) (h2 : decide (m < r) = c2) : lWithin r 0 m = (!c1 && !c2) := by
  subst h1 h2; rw [Bool.eq_iff_iff]; simp only [lWithin_iff, Bool.and_eq_true, Bool.not_eq_true', decide_eq_false_iff_not]; omega
theorem msgIn_eq3 (t : WV) (m : MV) (b c2 c3 : Bool) (h0 : msgOk m = b) (h1 : decide (t.lease.m < m.e) = c2) (h2 : decide (t.next ≤ m.i) = c3) : (msgIn t m && decide (m.i < t.next)) = (b && !c2 && !c3) := by
  subst h0 h1 h2
  unfold msgIn
  congr 1
  rw [Bool.eq_iff_iff]; simp
theorem node_geq (c : CV) (z : Int) : decide (0 ≤ idxBy NV.id c.nodes z) = hasNode c z := by
  unfold hasNode
  cases h : fstBy NV.id c.nodes z with
  | none => rw [idxBy_none h]; rfl
  | some x => obtain ⟨j, e, _⟩ := idxBy_some h; rw [e]; simp
theorem node_lss (c : CV) (z : Int) : decide (idxBy NV.id c.nodes z < 0) = !hasNode c z := by
  rw [← node_geq, Bool.eq_iff_iff]; simp
theorem lastLt_nil (n : Int) {l : List Int} (h : l.length = 0) : lastLt n l = true := by
  obtain rfl := List.eq_nil_of_length_eq_zero h; rfl
theorem lastLt_at (n : Int) {l : List Int} {m : Nat} {z : Int} (h : l.length = m + 1) (hz : l[m]? = some z) : lastLt n l = decide (z < n) := by
  unfold lastLt
  rw [List.getLast?_eq_getElem?, h, Nat.add_sub_cancel, hz]
set_option maxHeartbeats 12800000 in
set_option maxRecDepth 20000 in
theorem sWorldOk_any (t : WV) (s : WS) (w : World) (hw : WldR w t s) : Calls Tryz.prog 15 #[.agg #[.int .i64 t.now, .int .i64 t.span, .int .i64 t.kind, .int .i64 t.limit, .int .i64 t.next, .int .i64 t.lease.c, .int .i64 t.lease.m, .int .i64 t.lease.p, s.ep, s.po, s.ta, s.no, s.bi, s.wa, s.en, .int .i64 t.seen, s.ins, s.ms]] w fun e w' => e = .returned (.bool (worldOk t)) ∧ Below w.heap.size w w' := by
  obtain ⟨A0, A1, A2, A3, A4, A5, A6, A7, A8, c0, c1, c2, c3, c4, c5, c6, c7, c8, rfl⟩ := hw.form
  have HW := Lib.hid hw
  have l0 := hw.small.1
  have l1 := hw.small.2.1
  have l2 := hw.small.2.2.1
  have l3 := hw.small.2.2.2.1
  have l4 := hw.small.2.2.2.2.1
  have l5 := hw.small.2.2.2.2.2
  have l6 := hw.clu.2.2.2.2.1
  have h0 := fun w => l06Time_any t.now w
  have h1 := fun w => sLeaseOk_any t.lease w
  have h2 := fun v w hv => sPoolsOk_any v t.pools w hv hw.small.2.1
  have h3 := fun a0 a1 a2 w hc => sClusterOk_any t.clu a0 a1 a2 w hc
  have h4 := fun v w hv => sProvOk_any t.seen v t.insts w hv
  have h5 := fun v w hv => l08WantIds_any v t.wants w hv hw.small.2.2.1
  have h6 := fun v w hv => l08Ids_any v (t.wants.map BV.task) t.next w hv (by rw [List.length_map]; exact hw.small.2.2.1)
  have h7 := fun v w hv => l08Ids_any v t.ends t.next w hv hw.small.2.2.2.1
  have hE := worldOk_parts t
  have hS := settings_eq9 t
  generalize worldOk t = ok at *
  generalize settingsOk t = bs at *
  generalize e0 : lWithin t.now 0 100000 = b0 at *
  generalize e1 : decide (t.span < 1) = d1 at *
  generalize e2 : decide (1000 < t.span) = d2 at *
  generalize e3 : decide (t.kind < 1) = d3 at *
  generalize e4 : decide (3 < t.kind) = d4 at *
  generalize e5 : decide (t.limit < 0) = d5 at *
  generalize e6 : decide (1001 < t.limit) = d6 at *
  generalize e7 : decide (t.next < 1) = d7 at *
  generalize e8 : decide (100 < t.next) = d8 at *
  have hS := hS _ _ _ _ _ _ _ _ _ rfl rfl rfl rfl rfl rfl rfl rfl rfl
  generalize leaseOk t.lease = b1 at *
  generalize poolsOk t.pools = b2 at *
  generalize clusterOk t.clu = b3 at *
  generalize provOk t.seen t.insts = b4 at *
  generalize f1h : ((t.epochs.length : Int) != 4) = f1 at *
  generalize f2h : decide (40 < (t.msgs.length : Int)) = f2 at *
  generalize f3h : decide (t.lease.m < t.seen) = f3 at *
  generalize g1h : decide (20 < (t.wants.length : Int)) = g1 at *
  generalize g2h : decide (20 < (t.ends.length : Int)) = g2 at *
  have hE := hE _ _ _ _ _ rfl rfl rfl rfl rfl
  generalize idsIn t.next (t.wants.map BV.task) = bw at *
  generalize idsIn t.next t.ends = be at *
  rw [hS] at hE
  have HE := Lib.hid hE
  have H0 := Lib.hid h0
  have H1 := Lib.hid h1
  have H2 := Lib.hid h2
  have H3 := Lib.hid h3
  have H4 := Lib.hid h4
  have H5 := Lib.hid h5
  have H6 := Lib.hid h6
  have H7 := Lib.hid h7
  clear h0 h1 h2 h3 h4 h5 h6 h7 hE hS hw e0
  go_enter Tryz.func15, Tryz.ntmps15
  have HB := Lib.hid (BlockIs.new w 39 #[.int .i64 t.now, .int .i64 t.span, .int .i64 t.kind, .int .i64 t.limit, .int .i64 t.next, .int .i64 t.lease.c, .int .i64 t.lease.m, .int .i64 t.lease.p, .slice A0 t.epochs.length c0, .slice A1 t.pools.length c1, .slice A2 t.clu.tasks.length c2, .slice A3 t.clu.nodes.length c3, .slice A4 t.clu.binds.length c4, .slice A5 t.wants.length c5, .slice A6 t.ends.length c6, .int .i64 t.seen, .slice A7 t.insts.length c7, .slice A8 t.msgs.length c8])
  have hX : Below w.heap.size w (w.alloc (.cells #[.int .i64 t.now, .int .i64 t.span, .int .i64 t.kind, .int .i64 t.limit, .int .i64 t.next, .int .i64 t.lease.c, .int .i64 t.lease.m, .int .i64 t.lease.p, .slice A0 t.epochs.length c0, .slice A1 t.pools.length c1, .slice A2 t.clu.tasks.length c2, .slice A3 t.clu.nodes.length c3, .slice A4 t.clu.binds.length c4, .slice A5 t.wants.length c5, .slice A6 t.ends.length c6, .int .i64 t.seen, .slice A7 t.insts.length c7, .slice A8 t.msgs.length c8] 39)) := (by repeat' (first | exact Below.refl _ _ | refine Below.alloc ?_ ?_ _ | refine Below.setCell ?_ ?_ _ | refine Below.drew ?_ | (apply below_step; assumption) | (simp; done) | (simp; omega) | omega))
  go_wp2_with fail
  refine (H0.out _).mono ?_
  rintro e wz ⟨rfl, rfl⟩
  cases b0
  · go_wp2_with fail
    go_ret
    exact ⟨by rw [HE.out]; simp, (by repeat' (first | exact Below.refl _ _ | refine Below.alloc ?_ ?_ _ | refine Below.setCell ?_ ?_ _ | refine Below.drew ?_ | (apply below_step; assumption) | (simp; done) | (simp; omega) | omega))⟩
  cases d1
  rotate_left
  · go_wp2_with fail
    go_ret
    exact ⟨by rw [HE.out]; simp, (by repeat' (first | exact Below.refl _ _ | refine Below.alloc ?_ ?_ _ | refine Below.setCell ?_ ?_ _ | refine Below.drew ?_ | (apply below_step; assumption) | (simp; done) | (simp; omega) | omega))⟩
  cases d2
  rotate_left
  · go_wp2_with fail
    go_ret
    exact ⟨by rw [HE.out]; simp, (by repeat' (first | exact Below.refl _ _ | refine Below.alloc ?_ ?_ _ | refine Below.setCell ?_ ?_ _ | refine Below.drew ?_ | (apply below_step; assumption) | (simp; done) | (simp; omega) | omega))⟩
  cases d3
  rotate_left
  · go_wp2_with fail
    go_ret
    exact ⟨by rw [HE.out]; simp, (by repeat' (first | exact Below.refl _ _ | refine Below.alloc ?_ ?_ _ | refine Below.setCell ?_ ?_ _ | refine Below.drew ?_ | (apply below_step; assumption) | (simp; done) | (simp; omega) | omega))⟩
  cases d4
  rotate_left
  · go_wp2_with fail
    go_ret
    exact ⟨by rw [HE.out]; simp, (by repeat' (first | exact Below.refl _ _ | refine Below.alloc ?_ ?_ _ | refine Below.setCell ?_ ?_ _ | refine Below.drew ?_ | (apply below_step; assumption) | (simp; done) | (simp; omega) | omega))⟩
  cases d5
  rotate_left
  · go_wp2_with fail
    go_ret
    exact ⟨by rw [HE.out]; simp, (by repeat' (first | exact Below.refl _ _ | refine Below.alloc ?_ ?_ _ | refine Below.setCell ?_ ?_ _ | refine Below.drew ?_ | (apply below_step; assumption) | (simp; done) | (simp; omega) | omega))⟩
  cases d6
  rotate_left
  · go_wp2_with fail
    go_ret
    exact ⟨by rw [HE.out]; simp, (by repeat' (first | exact Below.refl _ _ | refine Below.alloc ?_ ?_ _ | refine Below.setCell ?_ ?_ _ | refine Below.drew ?_ | (apply below_step; assumption) | (simp; done) | (simp; omega) | omega))⟩
  cases d7
  rotate_left
  · go_wp2_with fail
    go_ret
    exact ⟨by rw [HE.out]; simp, (by repeat' (first | exact Below.refl _ _ | refine Below.alloc ?_ ?_ _ | refine Below.setCell ?_ ?_ _ | refine Below.drew ?_ | (apply below_step; assumption) | (simp; done) | (simp; omega) | omega))⟩
  cases d8
  rotate_left
  · go_wp2_with fail
    go_ret
    exact ⟨by rw [HE.out]; simp, (by repeat' (first | exact Below.refl _ _ | refine Below.alloc ?_ ?_ _ | refine Below.setCell ?_ ?_ _ | refine Below.drew ?_ | (apply below_step; assumption) | (simp; done) | (simp; omega) | omega))⟩
  go_wp2_with fail
  refine (H1.out _).mono ?_
  rintro e w1 ⟨rfl, hb1⟩
  have hC1 := below_of hX hb1
  have B := HB.out.below hb1 HB.out.lt
  have x9 := B.cell 9
  simp at x9
  have HB := Lib.hid B
  clear B hb1 hX
  cases b1
  · go_wp2_with fail
    go_ret
    exact ⟨by rw [HE.out]; simp, hC1⟩
  go_wp2_with fail
  refine (H2.out _ _ (HW.out.below hC1).po).mono ?_
  rintro e w2 ⟨rfl, hb2⟩
  have hC2 := below_of hC1 hb2
  have B := HB.out.below hb2 HB.out.lt
  have x10 := B.cell 10
  have x11 := B.cell 11
  have x12 := B.cell 12
  simp at x10 x11 x12
  have HB := Lib.hid B
  clear B hb2 hC1
  cases b2
  · go_wp2_with fail
    go_ret
    exact ⟨by rw [HE.out]; simp, hC2⟩
  go_wp2_with fail
  refine (H3.out _ _ _ _ (HW.out.below hC2).clu).mono ?_
  rintro e w3 ⟨rfl, hb3⟩
  have hC3 := below_of hC2 hb3
  have B := HB.out.below hb3 HB.out.lt
  have x15 := B.cell 15
  have x16 := B.cell 16
  simp at x15 x16
  have HB := Lib.hid B
  clear B hb3 hC2
  cases b3
  · go_wp2_with fail
    go_ret
    exact ⟨by rw [HE.out]; simp, hC3⟩
  go_wp2_with fail
  refine (H4.out _ _ (HW.out.below hC3).ins).mono ?_
  rintro e w4 ⟨rfl, hb4⟩
  have hC4 := below_of hC3 hb4
  have B := HB.out.below hb4 HB.out.lt
  have x8 := B.cell 8
  have x17 := B.cell 17
  have x15 := B.cell 15
  have x6 := B.cell 6
  simp at x8 x17 x15 x6
  have HB := Lib.hid B
  clear B hb4 hC3
  cases b4
  · go_wp2_with fail
    go_ret
    exact ⟨by rw [HE.out]; simp, hC4⟩
  cases f1
  rotate_left
  · go_wp2_with fail
    go_ret
    exact ⟨by rw [HE.out]; simp, hC4⟩
  cases f2
  rotate_left
  · go_wp2_with fail
    go_ret
    exact ⟨by rw [HE.out]; simp, hC4⟩
  cases f3
  rotate_left
  · go_wp2_with fail
    go_ret
    exact ⟨by rw [HE.out]; simp, hC4⟩
  go_wp2_with fail
  clear x8 x17 x15 x6
  go_loopw [3] (fun s3 wr => ∃ k : Nat, k ≤ t.epochs.length ∧ s3 = .int .i64 k ∧ t.epochs.all (fun e => lWithin e 0 t.lease.m) = (t.epochs.drop k).all (fun e => lWithin e 0 t.lease.m) ∧ BlockIs wr w.heap.size 39 #[.int .i64 t.now, .int .i64 t.span, .int .i64 t.kind, .int .i64 t.limit, .int .i64 t.next, .int .i64 t.lease.c, .int .i64 t.lease.m, .int .i64 t.lease.p, .slice A0 t.epochs.length c0, .slice A1 t.pools.length c1, .slice A2 t.clu.tasks.length c2, .slice A3 t.clu.nodes.length c3, .slice A4 t.clu.binds.length c4, .slice A5 t.wants.length c5, .slice A6 t.ends.length c6, .int .i64 t.seen, .slice A7 t.insts.length c7, .slice A8 t.msgs.length c8] ∧ Below w.heap.size w wr) (fun s3 _ => (t.epochs.length - RowKit.intOf s3).toNat)
  case atStart => exact ⟨0, by omega, rfl, by rw [List.drop_zero], HB.out, hC4⟩
  case round =>
    clear HB hC4
    obtain ⟨k, hk, rfl, hall, hblk, hB⟩ := hrel
    have HBK := Lib.hid hblk
    have hzr := hB.size
    have x8 := hblk.cell 8
    have x6 := hblk.cell 6
    simp at x8 x6
    clear hblk
    by_cases hlt : k < t.epochs.length
    · skip
      obtain ⟨A, c, e0, hA⟩ := (HW.out.ep).form
      obtain ⟨b, off, rfl, hbw, hat⟩ := hA (by omega)
      simp only [Value.slice.injEq] at e0
      obtain ⟨rfl, -, rfl⟩ := e0
      obtain ⟨r, hr⟩ : ∃ r, t.epochs[k]? = some r := ⟨_, List.getElem?_eq_getElem hlt⟩
      have hki : (k : Int) < (t.epochs.length : Int) := by omega
      have hk0 : (0 : Int) ≤ (k : Int) := by omega
      have q0 := (hat.below hB hbw) k r hr
      generalize e1 : decide (r < 0) = cq1
      generalize e2 : decide (t.lease.m < r) = cq2
      have HST := Lib.hid ((all_step hall hr).trans (by rw [epIn_eq r _ _ _ e1 e2]))
      clear hat hr hall hA
      cases cq1
      rotate_left
      · go_wp2_with fail
        go_quiet (fail)
        go_wp2_with fail
        go_ret
        exact ⟨by rw [HE.out, HST.out]; simp, (by repeat' (first | exact Below.refl _ _ | refine Below.alloc ?_ ?_ _ | refine Below.setCell ?_ ?_ _ | refine Below.drew ?_ | refine below_drewN ?_ _ | (apply below_step; assumption) | (simp; done) | (simp; omega) | omega))⟩
      cases cq2
      rotate_left
      · go_wp2_with fail
        go_quiet (fail)
        go_wp2_with fail
        go_ret
        exact ⟨by rw [HE.out, HST.out]; simp, (by repeat' (first | exact Below.refl _ _ | refine Below.alloc ?_ ?_ _ | refine Below.setCell ?_ ?_ _ | refine Below.drew ?_ | refine below_drewN ?_ _ | (apply below_step; assumption) | (simp; done) | (simp; omega) | omega))⟩
      go_wp2_with fail
      go_quiet (fail)
      go_wp2_with fail
      go_roundw
      case rel => exact ⟨k + 1, by omega, by go_num, by rw [HST.out]; simp, HBK.out, (by repeat' (first | exact Below.refl _ _ | refine Below.alloc ?_ ?_ _ | refine Below.setCell ?_ ?_ _ | refine Below.drew ?_ | refine below_drewN ?_ _ | (apply below_step; assumption) | (simp; done) | (simp; omega) | omega))⟩
      case measure => simp [RowKit.intOf]; omega
    · obtain rfl : k = t.epochs.length := by omega
      have HEp := Lib.hid (hall.trans (by rw [List.drop_length, List.all_nil]))
      clear hall
      go_wp2_with fail
      clear hlt
      go_loopw [4] (fun s4 wr => ∃ k : Nat, k ≤ t.msgs.length ∧ s4 = .int .i64 k ∧ t.msgs.all (fun m => msgIn t m && decide (m.i < t.next)) = (t.msgs.drop k).all (fun m => msgIn t m && decide (m.i < t.next)) ∧ BlockIs wr w.heap.size 39 #[.int .i64 t.now, .int .i64 t.span, .int .i64 t.kind, .int .i64 t.limit, .int .i64 t.next, .int .i64 t.lease.c, .int .i64 t.lease.m, .int .i64 t.lease.p, .slice A0 t.epochs.length c0, .slice A1 t.pools.length c1, .slice A2 t.clu.tasks.length c2, .slice A3 t.clu.nodes.length c3, .slice A4 t.clu.binds.length c4, .slice A5 t.wants.length c5, .slice A6 t.ends.length c6, .int .i64 t.seen, .slice A7 t.insts.length c7, .slice A8 t.msgs.length c8] ∧ Below w.heap.size w wr) (fun s4 _ => (t.msgs.length - RowKit.intOf s4).toNat)
      case atStart => exact ⟨0, by omega, rfl, by rw [List.drop_zero], HBK.out, hB⟩
      case round =>
        clear HBK hB hzr x8 x6
        obtain ⟨k, hk, rfl, hall, hblk, hB⟩ := hrel
        have HBK := Lib.hid hblk
        have hzr := hB.size
        have x17 := hblk.cell 17
        have x4 := hblk.cell 4
        have x6 := hblk.cell 6
        simp at x17 x4 x6
        have gc := hblk.cell
        have gl := hblk.lt
        clear hblk
        by_cases hlt : k < t.msgs.length
        · skip
          obtain ⟨A, c, e0, hA⟩ := (HW.out.ms).form
          obtain ⟨b, off, rfl, hbw, hat⟩ := hA (by omega)
          simp only [Value.slice.injEq] at e0
          obtain ⟨rfl, -, rfl⟩ := e0
          obtain ⟨r, hr⟩ : ∃ r, t.msgs[k]? = some r := ⟨_, List.getElem?_eq_getElem hlt⟩
          have hki : (k : Int) < (t.msgs.length : Int) := by omega
          have hk0 : (0 : Int) ≤ (k : Int) := by omega
          obtain ⟨cs, hR, hC⟩ := (hat.below MsgR.kept hB hbw) k r hr
          obtain rfl := hR
          obtain ⟨q0, q1, q2, q3⟩ := msg_cells hC
          have hbr : b < wr.heap.size := by omega
          have HK := Lib.hid (show ∀ w', Below wr.heap.size wr w' → (fun w' => Below wr.heap.size wr w' ∧ (∀ o, w'.cell? ⟨w.heap.size, o, none⟩ = (#[.int .i64 t.now, .int .i64 t.span, .int .i64 t.kind, .int .i64 t.limit, .int .i64 t.next, .int .i64 t.lease.c, .int .i64 t.lease.m, .int .i64 t.lease.p, .slice A0 t.epochs.length c0, .slice A1 t.pools.length c1, .slice A2 t.clu.tasks.length c2, .slice A3 t.clu.nodes.length c3, .slice A4 t.clu.binds.length c4, .slice A5 t.wants.length c5, .slice A6 t.ends.length c6, .int .i64 t.seen, .slice A7 t.insts.length c7, .slice (some ⟨b, off, none⟩) t.msgs.length c8] : Array Value)[o]?) ∧ w'.cell? ⟨b, off + k * 4, none⟩ = some (.int .i64 r.k) ∧ w'.cell? ⟨b, off + k * 4 + 1, none⟩ = some (.int .i64 r.e) ∧ w'.cell? ⟨b, off + k * 4 + 2, none⟩ = some (.int .i64 r.i) ∧ w'.cell? ⟨b, off + k * 4 + 3, none⟩ = some (.int .i64 r.p)) w' from fun w' hb => ⟨hb, fun o => (hb.cell (p := ⟨_, _, none⟩) gl).trans (gc o), (hb.cell (p := ⟨_, _, none⟩) hbr).trans q0, (hb.cell (p := ⟨_, _, none⟩) hbr).trans q1, (hb.cell (p := ⟨_, _, none⟩) hbr).trans q2, (hb.cell (p := ⟨_, _, none⟩) hbr).trans q3⟩)
          have hmo := fun w => sMsgOk_any r w
          have hst := msgIn_eq3 t r
          generalize msgOk r = bm at *
          generalize e1 : decide (t.lease.m < r.e) = cq2 at *
          generalize e2 : decide (t.next ≤ r.i) = cq3 at *
          have HST := Lib.hid ((all_step hall hr).trans (by rw [hst _ _ _ rfl rfl rfl]))
          have HMO := Lib.hid hmo
          clear hat hr hall hA hC hmo hst
          cases bm
          · go_wp2_with fail
            refine wp_region_held_drew (S := (fun w' => Below wr.heap.size wr w' ∧ (∀ o, w'.cell? ⟨w.heap.size, o, none⟩ = (#[.int .i64 t.now, .int .i64 t.span, .int .i64 t.kind, .int .i64 t.limit, .int .i64 t.next, .int .i64 t.lease.c, .int .i64 t.lease.m, .int .i64 t.lease.p, .slice A0 t.epochs.length c0, .slice A1 t.pools.length c1, .slice A2 t.clu.tasks.length c2, .slice A3 t.clu.nodes.length c3, .slice A4 t.clu.binds.length c4, .slice A5 t.wants.length c5, .slice A6 t.ends.length c6, .int .i64 t.seen, .slice A7 t.insts.length c7, .slice (some ⟨b, off, none⟩) t.msgs.length c8] : Array Value)[o]?) ∧ w'.cell? ⟨b, off + k * 4, none⟩ = some (.int .i64 r.k) ∧ w'.cell? ⟨b, off + k * 4 + 1, none⟩ = some (.int .i64 r.e) ∧ w'.cell? ⟨b, off + k * 4 + 2, none⟩ = some (.int .i64 r.i) ∧ w'.cell? ⟨b, off + k * 4 + 3, none⟩ = some (.int .i64 r.p))) (by kernel_rfl) (by (try dsimp only); exact HK.out _ (by repeat' (first | exact Below.refl _ _ | refine Below.alloc ?_ ?_ _ | refine Below.setCell ?_ ?_ _ | refine Below.drew ?_ | (apply below_step; assumption) | (simp; done) | (simp; omega) | omega))) (fun hHeld => ?_)
            refine hT 0 ?_; simp only [Act.put, rhA, rhS, rhT]
            refine hT 1 ?_; simp only [Act.put, rhA, rhS, rhT]
            refine hT 2 ?_; simp only [Act.put, rhA, rhS, rhT]
            refine hT 3 ?_; simp only [Act.put, rhA, rhS, rhT]
            refine hT 4 ?_; simp only [Act.put, rhA, rhS, rhT]
            refine hCall (i := 5) (o := ?a7) ?b7 (by kernel_rfl) ?c7 (fun K hK => ?d7)
            case b7 => simp only [rhN, rhM]; try rfl
            case c7 => rfl
            go_simp
            refine (HMO.out _).mono ?_
            rintro e w3 ⟨rfl, hb3⟩
            have hz3 := hb3.size
            (try simp at hz3)
            go_wp2_with fail
            refine hK.out _ _ (by (try dsimp only); exact HK.out _ (by repeat' (first | exact Below.refl _ _ | refine Below.alloc ?_ ?_ _ | refine Below.setCell ?_ ?_ _ | refine Below.drew ?_ | (apply below_step; assumption) | (simp; done) | (simp; omega) | omega))) (fun hHeld => ?_)
            clear hK K
            try simp only [Act.put, rhA, rhS, rhT]
            refine hT 6 ?_; simp only [Act.put, rhA, rhS, rhT]
            refine hT 7 ?_; simp only [Act.put, rhA, rhS, rhT]
            refine hP 8 ?_; simp only [Act.put, rhA, rhS, rhT]
            refine hP 9 ?_; simp only [Act.put, rhA, rhS, rhT]
            refine hP 10 ?_; simp only [Act.put, rhA, rhS, rhT]
            refine hP 11 ?_; simp only [Act.put, rhA, rhS, rhT]
            refine hP 12 ?_; simp only [Act.put, rhA, rhS, rhT]
            refine hP 13 ?_; simp only [Act.put, rhA, rhS, rhT]
            refine hP 14 ?_; simp only [Act.put, rhA, rhS, rhT]
            refine hP 15 ?_; simp only [Act.put, rhA, rhS, rhT]
            refine hP 16 ?_; simp only [Act.put, rhA, rhS, rhT]
            refine hP 17 ?_; simp only [Act.put, rhA, rhS, rhT]
            refine hT 18 ?_; simp only [Act.put, rhA, rhS, rhT]
            refine hT 19 ?_; simp only [Act.put, rhA, rhS, rhT]
            refine hP 20 ?_; simp only [Act.put, rhA, rhS, rhT]
            refine hP 21 ?_; simp only [Act.put, rhA, rhS, rhT]
            refine hP 22 ?_; simp only [Act.put, rhA, rhS, rhT]
            refine hP 23 ?_; simp only [Act.put, rhA, rhS, rhT]
            refine hP 24 ?_; simp only [Act.put, rhA, rhS, rhT]
            refine hP 25 ?_; simp only [Act.put, rhA, rhS, rhT]
            refine hP 26 ?_; simp only [Act.put, rhA, rhS, rhT]
            refine hP 27 ?_; simp only [Act.put, rhA, rhS, rhT]
            refine hP 28 ?_; simp only [Act.put, rhA, rhS, rhT]
            refine hT 29 ?_; simp only [Act.put, rhA, rhS, rhT]
            refine wpAnyH_done (by kernel_rfl) ?_ _
            go_wp2_with fail
            go_ret
            exact ⟨by rw [HE.out, HEp.out, HST.out]; simp, below_of hB (by repeat' (first | exact Below.refl _ _ | refine Below.alloc ?_ ?_ _ | refine Below.setCell ?_ ?_ _ | refine Below.drew ?_ | (apply below_step; assumption) | (simp; done) | (simp; omega) | omega))⟩
          cases cq2
          rotate_left
          · go_wp2_with fail
            refine wp_region_held_drew (S := (fun w' => Below wr.heap.size wr w' ∧ (∀ o, w'.cell? ⟨w.heap.size, o, none⟩ = (#[.int .i64 t.now, .int .i64 t.span, .int .i64 t.kind, .int .i64 t.limit, .int .i64 t.next, .int .i64 t.lease.c, .int .i64 t.lease.m, .int .i64 t.lease.p, .slice A0 t.epochs.length c0, .slice A1 t.pools.length c1, .slice A2 t.clu.tasks.length c2, .slice A3 t.clu.nodes.length c3, .slice A4 t.clu.binds.length c4, .slice A5 t.wants.length c5, .slice A6 t.ends.length c6, .int .i64 t.seen, .slice A7 t.insts.length c7, .slice (some ⟨b, off, none⟩) t.msgs.length c8] : Array Value)[o]?) ∧ w'.cell? ⟨b, off + k * 4, none⟩ = some (.int .i64 r.k) ∧ w'.cell? ⟨b, off + k * 4 + 1, none⟩ = some (.int .i64 r.e) ∧ w'.cell? ⟨b, off + k * 4 + 2, none⟩ = some (.int .i64 r.i) ∧ w'.cell? ⟨b, off + k * 4 + 3, none⟩ = some (.int .i64 r.p))) (by kernel_rfl) (by (try dsimp only); exact HK.out _ (by repeat' (first | exact Below.refl _ _ | refine Below.alloc ?_ ?_ _ | refine Below.setCell ?_ ?_ _ | refine Below.drew ?_ | (apply below_step; assumption) | (simp; done) | (simp; omega) | omega))) (fun hHeld => ?_)
            refine hT 0 ?_; simp only [Act.put, rhA, rhS, rhT]
            refine hT 1 ?_; simp only [Act.put, rhA, rhS, rhT]
            refine hT 2 ?_; simp only [Act.put, rhA, rhS, rhT]
            refine hT 3 ?_; simp only [Act.put, rhA, rhS, rhT]
            refine hT 4 ?_; simp only [Act.put, rhA, rhS, rhT]
            refine hCall (i := 5) (o := ?a45) ?b45 (by kernel_rfl) ?c45 (fun K hK => ?d45)
            case b45 => simp only [rhN, rhM]; try rfl
            case c45 => rfl
            go_simp
            refine (HMO.out _).mono ?_
            rintro e w3 ⟨rfl, hb3⟩
            have hz3 := hb3.size
            (try simp at hz3)
            go_wp2_with fail
            refine hK.out _ _ (by (try dsimp only); exact HK.out _ (by repeat' (first | exact Below.refl _ _ | refine Below.alloc ?_ ?_ _ | refine Below.setCell ?_ ?_ _ | refine Below.drew ?_ | (apply below_step; assumption) | (simp; done) | (simp; omega) | omega))) (fun hHeld => ?_)
            clear hK K
            try simp only [Act.put, rhA, rhS, rhT]
            refine hT 6 ?_; simp only [Act.put, rhA, rhS, rhT]
            refine hT 7 ?_; simp only [Act.put, rhA, rhS, rhT]
            refine hT 8 ?_; simp only [Act.put, rhA, rhS, rhT]
            refine hT 9 ?_; simp only [Act.put, rhA, rhS, rhT]
            refine hT 10 ?_; simp only [Act.put, rhA, rhS, rhT]
            refine hT 11 ?_; simp only [Act.put, rhA, rhS, rhT]
            refine hT 12 ?_; simp only [Act.put, rhA, rhS, rhT]
            refine hT 13 ?_; simp only [Act.put, rhA, rhS, rhT]
            refine hT 14 ?_; simp only [Act.put, rhA, rhS, rhT]
            refine hT 15 ?_; simp only [Act.put, rhA, rhS, rhT]
            refine hT 16 ?_; simp only [Act.put, rhA, rhS, rhT]
            refine hT 17 ?_; simp only [Act.put, rhA, rhS, rhT]
            refine hT 18 ?_; simp only [Act.put, rhA, rhS, rhT]
            refine hT 19 ?_; simp only [Act.put, rhA, rhS, rhT]
            refine hP 20 ?_; simp only [Act.put, rhA, rhS, rhT]
            refine hP 21 ?_; simp only [Act.put, rhA, rhS, rhT]
            refine hP 22 ?_; simp only [Act.put, rhA, rhS, rhT]
            refine hP 23 ?_; simp only [Act.put, rhA, rhS, rhT]
            refine hP 24 ?_; simp only [Act.put, rhA, rhS, rhT]
            refine hP 25 ?_; simp only [Act.put, rhA, rhS, rhT]
            refine hP 26 ?_; simp only [Act.put, rhA, rhS, rhT]
            refine hP 27 ?_; simp only [Act.put, rhA, rhS, rhT]
            refine hP 28 ?_; simp only [Act.put, rhA, rhS, rhT]
            refine hT 29 ?_; simp only [Act.put, rhA, rhS, rhT]
            refine wpAnyH_done (by kernel_rfl) ?_ _
            go_wp2_with fail
            go_ret
            exact ⟨by rw [HE.out, HEp.out, HST.out]; simp, below_of hB (by repeat' (first | exact Below.refl _ _ | refine Below.alloc ?_ ?_ _ | refine Below.setCell ?_ ?_ _ | refine Below.drew ?_ | (apply below_step; assumption) | (simp; done) | (simp; omega) | omega))⟩
          cases cq3
          rotate_left
          · go_wp2_with fail
            refine wp_region_held_drew (S := (fun w' => Below wr.heap.size wr w' ∧ (∀ o, w'.cell? ⟨w.heap.size, o, none⟩ = (#[.int .i64 t.now, .int .i64 t.span, .int .i64 t.kind, .int .i64 t.limit, .int .i64 t.next, .int .i64 t.lease.c, .int .i64 t.lease.m, .int .i64 t.lease.p, .slice A0 t.epochs.length c0, .slice A1 t.pools.length c1, .slice A2 t.clu.tasks.length c2, .slice A3 t.clu.nodes.length c3, .slice A4 t.clu.binds.length c4, .slice A5 t.wants.length c5, .slice A6 t.ends.length c6, .int .i64 t.seen, .slice A7 t.insts.length c7, .slice (some ⟨b, off, none⟩) t.msgs.length c8] : Array Value)[o]?) ∧ w'.cell? ⟨b, off + k * 4, none⟩ = some (.int .i64 r.k) ∧ w'.cell? ⟨b, off + k * 4 + 1, none⟩ = some (.int .i64 r.e) ∧ w'.cell? ⟨b, off + k * 4 + 2, none⟩ = some (.int .i64 r.i) ∧ w'.cell? ⟨b, off + k * 4 + 3, none⟩ = some (.int .i64 r.p))) (by kernel_rfl) (by (try dsimp only); exact HK.out _ (by repeat' (first | exact Below.refl _ _ | refine Below.alloc ?_ ?_ _ | refine Below.setCell ?_ ?_ _ | refine Below.drew ?_ | (apply below_step; assumption) | (simp; done) | (simp; omega) | omega))) (fun hHeld => ?_)
            refine hT 0 ?_; simp only [Act.put, rhA, rhS, rhT]
            refine hT 1 ?_; simp only [Act.put, rhA, rhS, rhT]
            refine hT 2 ?_; simp only [Act.put, rhA, rhS, rhT]
            refine hT 3 ?_; simp only [Act.put, rhA, rhS, rhT]
            refine hT 4 ?_; simp only [Act.put, rhA, rhS, rhT]
            refine hCall (i := 5) (o := ?a79) ?b79 (by kernel_rfl) ?c79 (fun K hK => ?d79)
            case b79 => simp only [rhN, rhM]; try rfl
            case c79 => rfl
            go_simp
            refine (HMO.out _).mono ?_
            rintro e w3 ⟨rfl, hb3⟩
            have hz3 := hb3.size
            (try simp at hz3)
            go_wp2_with fail
            refine hK.out _ _ (by (try dsimp only); exact HK.out _ (by repeat' (first | exact Below.refl _ _ | refine Below.alloc ?_ ?_ _ | refine Below.setCell ?_ ?_ _ | refine Below.drew ?_ | (apply below_step; assumption) | (simp; done) | (simp; omega) | omega))) (fun hHeld => ?_)
            clear hK K
            try simp only [Act.put, rhA, rhS, rhT]
            refine hT 6 ?_; simp only [Act.put, rhA, rhS, rhT]
            refine hT 7 ?_; simp only [Act.put, rhA, rhS, rhT]
            refine hT 8 ?_; simp only [Act.put, rhA, rhS, rhT]
            refine hT 9 ?_; simp only [Act.put, rhA, rhS, rhT]
            refine hT 10 ?_; simp only [Act.put, rhA, rhS, rhT]
            refine hT 11 ?_; simp only [Act.put, rhA, rhS, rhT]
            refine hT 12 ?_; simp only [Act.put, rhA, rhS, rhT]
            refine hT 13 ?_; simp only [Act.put, rhA, rhS, rhT]
            refine hT 14 ?_; simp only [Act.put, rhA, rhS, rhT]
            refine hT 15 ?_; simp only [Act.put, rhA, rhS, rhT]
            refine hT 16 ?_; simp only [Act.put, rhA, rhS, rhT]
            refine hT 17 ?_; simp only [Act.put, rhA, rhS, rhT]
            refine hT 18 ?_; simp only [Act.put, rhA, rhS, rhT]
            refine hT 19 ?_; simp only [Act.put, rhA, rhS, rhT]
            refine hT 20 ?_; simp only [Act.put, rhA, rhS, rhT]
            refine hT 21 ?_; simp only [Act.put, rhA, rhS, rhT]
            refine hT 22 ?_; simp only [Act.put, rhA, rhS, rhT]
            refine hT 23 ?_; simp only [Act.put, rhA, rhS, rhT]
            refine hT 24 ?_; simp only [Act.put, rhA, rhS, rhT]
            refine hT 25 ?_; simp only [Act.put, rhA, rhS, rhT]
            refine hT 26 ?_; simp only [Act.put, rhA, rhS, rhT]
            refine hT 27 ?_; simp only [Act.put, rhA, rhS, rhT]
            refine hT 28 ?_; simp only [Act.put, rhA, rhS, rhT]
            refine hT 29 ?_; simp only [Act.put, rhA, rhS, rhT]
            refine wpAnyH_done (by kernel_rfl) ?_ _
            go_wp2_with fail
            go_ret
            exact ⟨by rw [HE.out, HEp.out, HST.out]; simp, below_of hB (by repeat' (first | exact Below.refl _ _ | refine Below.alloc ?_ ?_ _ | refine Below.setCell ?_ ?_ _ | refine Below.drew ?_ | (apply below_step; assumption) | (simp; done) | (simp; omega) | omega))⟩
          go_wp2_with fail
          refine wp_region_held_drew (S := (fun w' => Below wr.heap.size wr w' ∧ (∀ o, w'.cell? ⟨w.heap.size, o, none⟩ = (#[.int .i64 t.now, .int .i64 t.span, .int .i64 t.kind, .int .i64 t.limit, .int .i64 t.next, .int .i64 t.lease.c, .int .i64 t.lease.m, .int .i64 t.lease.p, .slice A0 t.epochs.length c0, .slice A1 t.pools.length c1, .slice A2 t.clu.tasks.length c2, .slice A3 t.clu.nodes.length c3, .slice A4 t.clu.binds.length c4, .slice A5 t.wants.length c5, .slice A6 t.ends.length c6, .int .i64 t.seen, .slice A7 t.insts.length c7, .slice (some ⟨b, off, none⟩) t.msgs.length c8] : Array Value)[o]?) ∧ w'.cell? ⟨b, off + k * 4, none⟩ = some (.int .i64 r.k) ∧ w'.cell? ⟨b, off + k * 4 + 1, none⟩ = some (.int .i64 r.e) ∧ w'.cell? ⟨b, off + k * 4 + 2, none⟩ = some (.int .i64 r.i) ∧ w'.cell? ⟨b, off + k * 4 + 3, none⟩ = some (.int .i64 r.p))) (by kernel_rfl) (by (try dsimp only); exact HK.out _ (by repeat' (first | exact Below.refl _ _ | refine Below.alloc ?_ ?_ _ | refine Below.setCell ?_ ?_ _ | refine Below.drew ?_ | (apply below_step; assumption) | (simp; done) | (simp; omega) | omega))) (fun hHeld => ?_)
          refine hT 0 ?_; simp only [Act.put, rhA, rhS, rhT]
          refine hT 1 ?_; simp only [Act.put, rhA, rhS, rhT]
          refine hT 2 ?_; simp only [Act.put, rhA, rhS, rhT]
          refine hT 3 ?_; simp only [Act.put, rhA, rhS, rhT]
          refine hT 4 ?_; simp only [Act.put, rhA, rhS, rhT]
          refine hCall (i := 5) (o := ?a111) ?b111 (by kernel_rfl) ?c111 (fun K hK => ?d111)
          case b111 => simp only [rhN, rhM]; try rfl
          case c111 => rfl
          go_simp
          refine (HMO.out _).mono ?_
          rintro e w3 ⟨rfl, hb3⟩
          have hz3 := hb3.size
          (try simp at hz3)
          go_wp2_with fail
          refine hK.out _ _ (by (try dsimp only); exact HK.out _ (by repeat' (first | exact Below.refl _ _ | refine Below.alloc ?_ ?_ _ | refine Below.setCell ?_ ?_ _ | refine Below.drew ?_ | (apply below_step; assumption) | (simp; done) | (simp; omega) | omega))) (fun hHeld => ?_)
          clear hK K
          try simp only [Act.put, rhA, rhS, rhT]
          refine hT 6 ?_; simp only [Act.put, rhA, rhS, rhT]
          refine hT 7 ?_; simp only [Act.put, rhA, rhS, rhT]
          refine hT 8 ?_; simp only [Act.put, rhA, rhS, rhT]
          refine hT 9 ?_; simp only [Act.put, rhA, rhS, rhT]
          refine hT 10 ?_; simp only [Act.put, rhA, rhS, rhT]
          refine hT 11 ?_; simp only [Act.put, rhA, rhS, rhT]
          refine hT 12 ?_; simp only [Act.put, rhA, rhS, rhT]
          refine hT 13 ?_; simp only [Act.put, rhA, rhS, rhT]
          refine hT 14 ?_; simp only [Act.put, rhA, rhS, rhT]
          refine hT 15 ?_; simp only [Act.put, rhA, rhS, rhT]
          refine hT 16 ?_; simp only [Act.put, rhA, rhS, rhT]
          refine hT 17 ?_; simp only [Act.put, rhA, rhS, rhT]
          refine hT 18 ?_; simp only [Act.put, rhA, rhS, rhT]
          refine hT 19 ?_; simp only [Act.put, rhA, rhS, rhT]
          refine hT 20 ?_; simp only [Act.put, rhA, rhS, rhT]
          refine hT 21 ?_; simp only [Act.put, rhA, rhS, rhT]
          refine hT 22 ?_; simp only [Act.put, rhA, rhS, rhT]
          refine hT 23 ?_; simp only [Act.put, rhA, rhS, rhT]
          refine hT 24 ?_; simp only [Act.put, rhA, rhS, rhT]
          refine hT 25 ?_; simp only [Act.put, rhA, rhS, rhT]
          refine hT 26 ?_; simp only [Act.put, rhA, rhS, rhT]
          refine hT 27 ?_; simp only [Act.put, rhA, rhS, rhT]
          refine hT 28 ?_; simp only [Act.put, rhA, rhS, rhT]
          refine hT 29 ?_; simp only [Act.put, rhA, rhS, rhT]
          refine wpAnyH_done (by kernel_rfl) ?_ _
          go_wp2_with fail
          go_roundw
          case rel => exact ⟨k + 1, by omega, by go_num, by rw [HST.out]; simp, HBK.out.below (by repeat' (first | exact Below.refl _ _ | refine Below.alloc ?_ ?_ _ | refine Below.setCell ?_ ?_ _ | refine Below.drew ?_ | (apply below_step; assumption) | (simp; done) | (simp; omega) | omega)) gl, below_of hB (by repeat' (first | exact Below.refl _ _ | refine Below.alloc ?_ ?_ _ | refine Below.setCell ?_ ?_ _ | refine Below.drew ?_ | (apply below_step; assumption) | (simp; done) | (simp; omega) | omega))⟩
          case measure => simp [RowKit.intOf]; omega
        · obtain rfl : k = t.msgs.length := by omega
          have HMs := Lib.hid (hall.trans (by rw [List.drop_length, List.all_nil]))
          clear hall
          have HK := Lib.hid (show ∀ w', Below wr.heap.size wr w' → (fun w' => Below wr.heap.size wr w' ∧ (∀ o, w'.cell? ⟨w.heap.size, o, none⟩ = (#[.int .i64 t.now, .int .i64 t.span, .int .i64 t.kind, .int .i64 t.limit, .int .i64 t.next, .int .i64 t.lease.c, .int .i64 t.lease.m, .int .i64 t.lease.p, .slice A0 t.epochs.length c0, .slice A1 t.pools.length c1, .slice A2 t.clu.tasks.length c2, .slice A3 t.clu.nodes.length c3, .slice A4 t.clu.binds.length c4, .slice A5 t.wants.length c5, .slice A6 t.ends.length c6, .int .i64 t.seen, .slice A7 t.insts.length c7, .slice A8 t.msgs.length c8] : Array Value)[o]?)) w' from fun w' hb => ⟨hb, fun o => (hb.cell (p := ⟨_, _, none⟩) gl).trans (gc o)⟩)
          cases g1
          rotate_left
          · go_wp2_with fail
            refine wp_region_held_drew (S := (fun w' => Below wr.heap.size wr w' ∧ (∀ o, w'.cell? ⟨w.heap.size, o, none⟩ = (#[.int .i64 t.now, .int .i64 t.span, .int .i64 t.kind, .int .i64 t.limit, .int .i64 t.next, .int .i64 t.lease.c, .int .i64 t.lease.m, .int .i64 t.lease.p, .slice A0 t.epochs.length c0, .slice A1 t.pools.length c1, .slice A2 t.clu.tasks.length c2, .slice A3 t.clu.nodes.length c3, .slice A4 t.clu.binds.length c4, .slice A5 t.wants.length c5, .slice A6 t.ends.length c6, .int .i64 t.seen, .slice A7 t.insts.length c7, .slice A8 t.msgs.length c8] : Array Value)[o]?))) (by kernel_rfl) (by (try dsimp only); exact HK.out _ (by repeat' (first | exact Below.refl _ _ | refine Below.alloc ?_ ?_ _ | refine Below.setCell ?_ ?_ _ | refine Below.drew ?_ | (apply below_step; assumption) | (simp; done) | (simp; omega) | omega))) (fun hHeld => ?_)
            refine hT 0 ?_; simp only [Act.put, rhA, rhS, rhT]
            refine hT 1 ?_; simp only [Act.put, rhA, rhS, rhT]
            refine hT 2 ?_; simp only [Act.put, rhA, rhS, rhT]
            refine hT 3 ?_; simp only [Act.put, rhA, rhS, rhT]
            refine hT 4 ?_; simp only [Act.put, rhA, rhS, rhT]
            refine hP 5 ?_; simp only [Act.put, rhA, rhS, rhT]
            refine hP 6 ?_; simp only [Act.put, rhA, rhS, rhT]
            refine hP 7 ?_; simp only [Act.put, rhA, rhS, rhT]
            refine hP 8 ?_; simp only [Act.put, rhA, rhS, rhT]
            refine hT 9 ?_; simp only [Act.put, rhA, rhS, rhT]
            refine hT 10 ?_; simp only [Act.put, rhA, rhS, rhT]
            refine hP 11 ?_; simp only [Act.put, rhA, rhS, rhT]
            refine hP 12 ?_; simp only [Act.put, rhA, rhS, rhT]
            refine hP 13 ?_; simp only [Act.put, rhA, rhS, rhT]
            refine hP 14 ?_; simp only [Act.put, rhA, rhS, rhT]
            refine hP 15 ?_; simp only [Act.put, rhA, rhS, rhT]
            refine hP 16 ?_; simp only [Act.put, rhA, rhS, rhT]
            refine hP 17 ?_; simp only [Act.put, rhA, rhS, rhT]
            refine hT 18 ?_; simp only [Act.put, rhA, rhS, rhT]
            refine hT 19 ?_; simp only [Act.put, rhA, rhS, rhT]
            refine hP 20 ?_; simp only [Act.put, rhA, rhS, rhT]
            refine hP 21 ?_; simp only [Act.put, rhA, rhS, rhT]
            refine hP 22 ?_; simp only [Act.put, rhA, rhS, rhT]
            refine hP 23 ?_; simp only [Act.put, rhA, rhS, rhT]
            refine hP 24 ?_; simp only [Act.put, rhA, rhS, rhT]
            refine hP 25 ?_; simp only [Act.put, rhA, rhS, rhT]
            refine hT 26 ?_; simp only [Act.put, rhA, rhS, rhT]
            refine wpAnyH_done (by kernel_rfl) ?_ _
            go_wp2_with fail
            go_ret
            exact ⟨by rw [HE.out, HEp.out, HMs.out]; simp, below_of hB (by repeat' (first | exact Below.refl _ _ | refine Below.alloc ?_ ?_ _ | refine Below.setCell ?_ ?_ _ | refine Below.drew ?_ | (apply below_step; assumption) | (simp; done) | (simp; omega) | omega))⟩
          cases g2
          rotate_left
          · go_wp2_with fail
            refine wp_region_held_drew (S := (fun w' => Below wr.heap.size wr w' ∧ (∀ o, w'.cell? ⟨w.heap.size, o, none⟩ = (#[.int .i64 t.now, .int .i64 t.span, .int .i64 t.kind, .int .i64 t.limit, .int .i64 t.next, .int .i64 t.lease.c, .int .i64 t.lease.m, .int .i64 t.lease.p, .slice A0 t.epochs.length c0, .slice A1 t.pools.length c1, .slice A2 t.clu.tasks.length c2, .slice A3 t.clu.nodes.length c3, .slice A4 t.clu.binds.length c4, .slice A5 t.wants.length c5, .slice A6 t.ends.length c6, .int .i64 t.seen, .slice A7 t.insts.length c7, .slice A8 t.msgs.length c8] : Array Value)[o]?))) (by kernel_rfl) (by (try dsimp only); exact HK.out _ (by repeat' (first | exact Below.refl _ _ | refine Below.alloc ?_ ?_ _ | refine Below.setCell ?_ ?_ _ | refine Below.drew ?_ | (apply below_step; assumption) | (simp; done) | (simp; omega) | omega))) (fun hHeld => ?_)
            refine hT 0 ?_; simp only [Act.put, rhA, rhS, rhT]
            refine hT 1 ?_; simp only [Act.put, rhA, rhS, rhT]
            refine hT 2 ?_; simp only [Act.put, rhA, rhS, rhT]
            refine hT 3 ?_; simp only [Act.put, rhA, rhS, rhT]
            refine hT 4 ?_; simp only [Act.put, rhA, rhS, rhT]
            refine hT 5 ?_; simp only [Act.put, rhA, rhS, rhT]
            refine hT 6 ?_; simp only [Act.put, rhA, rhS, rhT]
            refine hT 7 ?_; simp only [Act.put, rhA, rhS, rhT]
            refine hT 8 ?_; simp only [Act.put, rhA, rhS, rhT]
            refine hT 9 ?_; simp only [Act.put, rhA, rhS, rhT]
            refine hT 10 ?_; simp only [Act.put, rhA, rhS, rhT]
            refine hP 11 ?_; simp only [Act.put, rhA, rhS, rhT]
            refine hP 12 ?_; simp only [Act.put, rhA, rhS, rhT]
            refine hP 13 ?_; simp only [Act.put, rhA, rhS, rhT]
            refine hP 14 ?_; simp only [Act.put, rhA, rhS, rhT]
            refine hP 15 ?_; simp only [Act.put, rhA, rhS, rhT]
            refine hP 16 ?_; simp only [Act.put, rhA, rhS, rhT]
            refine hP 17 ?_; simp only [Act.put, rhA, rhS, rhT]
            refine hT 18 ?_; simp only [Act.put, rhA, rhS, rhT]
            refine hT 19 ?_; simp only [Act.put, rhA, rhS, rhT]
            refine hP 20 ?_; simp only [Act.put, rhA, rhS, rhT]
            refine hP 21 ?_; simp only [Act.put, rhA, rhS, rhT]
            refine hP 22 ?_; simp only [Act.put, rhA, rhS, rhT]
            refine hP 23 ?_; simp only [Act.put, rhA, rhS, rhT]
            refine hP 24 ?_; simp only [Act.put, rhA, rhS, rhT]
            refine hP 25 ?_; simp only [Act.put, rhA, rhS, rhT]
            refine hT 26 ?_; simp only [Act.put, rhA, rhS, rhT]
            refine wpAnyH_done (by kernel_rfl) ?_ _
            go_wp2_with fail
            go_ret
            exact ⟨by rw [HE.out, HEp.out, HMs.out]; simp, below_of hB (by repeat' (first | exact Below.refl _ _ | refine Below.alloc ?_ ?_ _ | refine Below.setCell ?_ ?_ _ | refine Below.drew ?_ | (apply below_step; assumption) | (simp; done) | (simp; omega) | omega))⟩
          cases bw
          · go_wp2_with fail
            refine wp_region_held_drew (S := (fun w' => Below wr.heap.size wr w' ∧ (∀ o, w'.cell? ⟨w.heap.size, o, none⟩ = (#[.int .i64 t.now, .int .i64 t.span, .int .i64 t.kind, .int .i64 t.limit, .int .i64 t.next, .int .i64 t.lease.c, .int .i64 t.lease.m, .int .i64 t.lease.p, .slice A0 t.epochs.length c0, .slice A1 t.pools.length c1, .slice A2 t.clu.tasks.length c2, .slice A3 t.clu.nodes.length c3, .slice A4 t.clu.binds.length c4, .slice A5 t.wants.length c5, .slice A6 t.ends.length c6, .int .i64 t.seen, .slice A7 t.insts.length c7, .slice A8 t.msgs.length c8] : Array Value)[o]?))) (by kernel_rfl) (by (try dsimp only); exact HK.out _ (by repeat' (first | exact Below.refl _ _ | refine Below.alloc ?_ ?_ _ | refine Below.setCell ?_ ?_ _ | refine Below.drew ?_ | (apply below_step; assumption) | (simp; done) | (simp; omega) | omega))) (fun hHeld => ?_)
            refine hT 0 ?_; simp only [Act.put, rhA, rhS, rhT]
            refine hT 1 ?_; simp only [Act.put, rhA, rhS, rhT]
            refine hT 2 ?_; simp only [Act.put, rhA, rhS, rhT]
            refine hT 3 ?_; simp only [Act.put, rhA, rhS, rhT]
            refine hT 4 ?_; simp only [Act.put, rhA, rhS, rhT]
            refine hT 5 ?_; simp only [Act.put, rhA, rhS, rhT]
            refine hT 6 ?_; simp only [Act.put, rhA, rhS, rhT]
            refine hT 7 ?_; simp only [Act.put, rhA, rhS, rhT]
            refine hT 8 ?_; simp only [Act.put, rhA, rhS, rhT]
            refine hT 9 ?_; simp only [Act.put, rhA, rhS, rhT]
            refine hT 10 ?_; simp only [Act.put, rhA, rhS, rhT]
            refine hT 11 ?_; simp only [Act.put, rhA, rhS, rhT]
            refine hT 12 ?_; simp only [Act.put, rhA, rhS, rhT]
            refine hT 14 ?_; simp only [Act.put, rhA, rhS, rhT]
            refine hT 15 ?_; simp only [Act.put, rhA, rhS, rhT]
            refine hCall (i := 13) (o := ?a224) ?b224 (by kernel_rfl) ?c224 (fun K hK => ?d224)
            case b224 => simp only [rhN, rhM]; try rfl
            case c224 => rfl
            go_simp
            refine (H5.out _ _ (HW.out.below (below_of hB (by repeat' (first | exact Below.refl _ _ | refine Below.alloc ?_ ?_ _ | refine Below.setCell ?_ ?_ _ | refine Below.drew ?_ | (apply below_step; assumption) | (simp; done) | (simp; omega) | omega)))).wa).mono ?_
            rintro e w3 ⟨v3, rfl, how, hb3⟩
            have HSL := Lib.hid (IntO.sl (OwnsJ.o how))
            have hz3 := hb3.size
            (try simp at hz3)
            clear how
            go_wp2_with fail
            refine hK.out _ _ (by (try dsimp only); exact HK.out _ (by repeat' (first | exact Below.refl _ _ | refine Below.alloc ?_ ?_ _ | refine Below.setCell ?_ ?_ _ | refine Below.drew ?_ | (apply below_step; assumption) | (simp; done) | (simp; omega) | omega))) (fun hHeld => ?_)
            clear hK K
            try simp only [Act.put, rhA, rhS, rhT]
            refine hCall (i := 16) (o := ?a225) ?b225 (by kernel_rfl) ?c225 (fun K hK => ?d225)
            case b225 => simp only [rhN, rhM]; try rfl
            case c225 => rfl
            go_simp
            refine (H6.out _ _ (HSL.out.below (by repeat' (first | exact Below.refl _ _ | refine Below.alloc ?_ ?_ _ | refine Below.setCell ?_ ?_ _ | refine Below.drew ?_ | (apply below_step; assumption) | (simp; done) | (simp; omega) | omega)))).mono ?_
            rintro e w4 ⟨rfl, hb4⟩
            have hz4 := hb4.size
            (try simp at hz4)
            go_wp2_with fail
            refine hK.out _ _ (by (try dsimp only); exact HK.out _ (by repeat' (first | exact Below.refl _ _ | refine Below.alloc ?_ ?_ _ | refine Below.setCell ?_ ?_ _ | refine Below.drew ?_ | (apply below_step; assumption) | (simp; done) | (simp; omega) | omega))) (fun hHeld => ?_)
            clear hK K
            try simp only [Act.put, rhA, rhS, rhT]
            refine hT 17 ?_; simp only [Act.put, rhA, rhS, rhT]
            refine hT 18 ?_; simp only [Act.put, rhA, rhS, rhT]
            refine hT 19 ?_; simp only [Act.put, rhA, rhS, rhT]
            refine hP 20 ?_; simp only [Act.put, rhA, rhS, rhT]
            refine hP 21 ?_; simp only [Act.put, rhA, rhS, rhT]
            refine hP 22 ?_; simp only [Act.put, rhA, rhS, rhT]
            refine hP 23 ?_; simp only [Act.put, rhA, rhS, rhT]
            refine hP 24 ?_; simp only [Act.put, rhA, rhS, rhT]
            refine hP 25 ?_; simp only [Act.put, rhA, rhS, rhT]
            refine hT 26 ?_; simp only [Act.put, rhA, rhS, rhT]
            refine wpAnyH_done (by kernel_rfl) ?_ _
            go_wp2_with fail
            go_ret
            exact ⟨by rw [HE.out, HEp.out, HMs.out]; simp, below_of hB (by repeat' (first | exact Below.refl _ _ | refine Below.alloc ?_ ?_ _ | refine Below.setCell ?_ ?_ _ | refine Below.drew ?_ | (apply below_step; assumption) | (simp; done) | (simp; omega) | omega))⟩
          cases be
          · go_wp2_with fail
            refine wp_region_held_drew (S := (fun w' => Below wr.heap.size wr w' ∧ (∀ o, w'.cell? ⟨w.heap.size, o, none⟩ = (#[.int .i64 t.now, .int .i64 t.span, .int .i64 t.kind, .int .i64 t.limit, .int .i64 t.next, .int .i64 t.lease.c, .int .i64 t.lease.m, .int .i64 t.lease.p, .slice A0 t.epochs.length c0, .slice A1 t.pools.length c1, .slice A2 t.clu.tasks.length c2, .slice A3 t.clu.nodes.length c3, .slice A4 t.clu.binds.length c4, .slice A5 t.wants.length c5, .slice A6 t.ends.length c6, .int .i64 t.seen, .slice A7 t.insts.length c7, .slice A8 t.msgs.length c8] : Array Value)[o]?))) (by kernel_rfl) (by (try dsimp only); exact HK.out _ (by repeat' (first | exact Below.refl _ _ | refine Below.alloc ?_ ?_ _ | refine Below.setCell ?_ ?_ _ | refine Below.drew ?_ | (apply below_step; assumption) | (simp; done) | (simp; omega) | omega))) (fun hHeld => ?_)
            refine hT 0 ?_; simp only [Act.put, rhA, rhS, rhT]
            refine hT 1 ?_; simp only [Act.put, rhA, rhS, rhT]
            refine hT 2 ?_; simp only [Act.put, rhA, rhS, rhT]
            refine hT 3 ?_; simp only [Act.put, rhA, rhS, rhT]
            refine hT 4 ?_; simp only [Act.put, rhA, rhS, rhT]
            refine hT 5 ?_; simp only [Act.put, rhA, rhS, rhT]
            refine hT 6 ?_; simp only [Act.put, rhA, rhS, rhT]
            refine hT 7 ?_; simp only [Act.put, rhA, rhS, rhT]
            refine hT 8 ?_; simp only [Act.put, rhA, rhS, rhT]
            refine hT 9 ?_; simp only [Act.put, rhA, rhS, rhT]
            refine hT 10 ?_; simp only [Act.put, rhA, rhS, rhT]
            refine hT 11 ?_; simp only [Act.put, rhA, rhS, rhT]
            refine hT 12 ?_; simp only [Act.put, rhA, rhS, rhT]
            refine hT 14 ?_; simp only [Act.put, rhA, rhS, rhT]
            refine hT 15 ?_; simp only [Act.put, rhA, rhS, rhT]
            refine hCall (i := 13) (o := ?a257) ?b257 (by kernel_rfl) ?c257 (fun K hK => ?d257)
            case b257 => simp only [rhN, rhM]; try rfl
            case c257 => rfl
            go_simp
            refine (H5.out _ _ (HW.out.below (below_of hB (by repeat' (first | exact Below.refl _ _ | refine Below.alloc ?_ ?_ _ | refine Below.setCell ?_ ?_ _ | refine Below.drew ?_ | (apply below_step; assumption) | (simp; done) | (simp; omega) | omega)))).wa).mono ?_
            rintro e w3 ⟨v3, rfl, how, hb3⟩
            have HSL := Lib.hid (IntO.sl (OwnsJ.o how))
            have hz3 := hb3.size
            (try simp at hz3)
            clear how
            go_wp2_with fail
            refine hK.out _ _ (by (try dsimp only); exact HK.out _ (by repeat' (first | exact Below.refl _ _ | refine Below.alloc ?_ ?_ _ | refine Below.setCell ?_ ?_ _ | refine Below.drew ?_ | (apply below_step; assumption) | (simp; done) | (simp; omega) | omega))) (fun hHeld => ?_)
            clear hK K
            try simp only [Act.put, rhA, rhS, rhT]
            refine hCall (i := 16) (o := ?a258) ?b258 (by kernel_rfl) ?c258 (fun K hK => ?d258)
            case b258 => simp only [rhN, rhM]; try rfl
            case c258 => rfl
            go_simp
            refine (H6.out _ _ (HSL.out.below (by repeat' (first | exact Below.refl _ _ | refine Below.alloc ?_ ?_ _ | refine Below.setCell ?_ ?_ _ | refine Below.drew ?_ | (apply below_step; assumption) | (simp; done) | (simp; omega) | omega)))).mono ?_
            rintro e w4 ⟨rfl, hb4⟩
            have hz4 := hb4.size
            (try simp at hz4)
            go_wp2_with fail
            refine hK.out _ _ (by (try dsimp only); exact HK.out _ (by repeat' (first | exact Below.refl _ _ | refine Below.alloc ?_ ?_ _ | refine Below.setCell ?_ ?_ _ | refine Below.drew ?_ | (apply below_step; assumption) | (simp; done) | (simp; omega) | omega))) (fun hHeld => ?_)
            clear hK K
            try simp only [Act.put, rhA, rhS, rhT]
            refine hT 17 ?_; simp only [Act.put, rhA, rhS, rhT]
            refine hT 18 ?_; simp only [Act.put, rhA, rhS, rhT]
            refine hT 19 ?_; simp only [Act.put, rhA, rhS, rhT]
            refine hT 20 ?_; simp only [Act.put, rhA, rhS, rhT]
            refine hT 21 ?_; simp only [Act.put, rhA, rhS, rhT]
            refine hT 22 ?_; simp only [Act.put, rhA, rhS, rhT]
            refine hT 23 ?_; simp only [Act.put, rhA, rhS, rhT]
            refine hCall (i := 24) (o := ?a267) ?b267 (by kernel_rfl) ?c267 (fun K hK => ?d267)
            case b267 => simp only [rhN, rhM]; try rfl
            case c267 => rfl
            go_simp
            refine (H7.out _ _ (HW.out.below (below_of hB (by repeat' (first | exact Below.refl _ _ | refine Below.alloc ?_ ?_ _ | refine Below.setCell ?_ ?_ _ | refine Below.drew ?_ | (apply below_step; assumption) | (simp; done) | (simp; omega) | omega)))).en).mono ?_
            rintro e w5 ⟨rfl, hb5⟩
            have hz5 := hb5.size
            (try simp at hz5)
            go_wp2_with fail
            refine hK.out _ _ (by (try dsimp only); exact HK.out _ (by repeat' (first | exact Below.refl _ _ | refine Below.alloc ?_ ?_ _ | refine Below.setCell ?_ ?_ _ | refine Below.drew ?_ | (apply below_step; assumption) | (simp; done) | (simp; omega) | omega))) (fun hHeld => ?_)
            clear hK K
            try simp only [Act.put, rhA, rhS, rhT]
            refine hT 25 ?_; simp only [Act.put, rhA, rhS, rhT]
            refine hT 26 ?_; simp only [Act.put, rhA, rhS, rhT]
            refine wpAnyH_done (by kernel_rfl) ?_ _
            go_wp2_with fail
            go_ret
            exact ⟨by rw [HE.out, HEp.out, HMs.out]; simp, below_of hB (by repeat' (first | exact Below.refl _ _ | refine Below.alloc ?_ ?_ _ | refine Below.setCell ?_ ?_ _ | refine Below.drew ?_ | (apply below_step; assumption) | (simp; done) | (simp; omega) | omega))⟩
          go_wp2_with fail
          refine wp_region_held_drew (S := (fun w' => Below wr.heap.size wr w' ∧ (∀ o, w'.cell? ⟨w.heap.size, o, none⟩ = (#[.int .i64 t.now, .int .i64 t.span, .int .i64 t.kind, .int .i64 t.limit, .int .i64 t.next, .int .i64 t.lease.c, .int .i64 t.lease.m, .int .i64 t.lease.p, .slice A0 t.epochs.length c0, .slice A1 t.pools.length c1, .slice A2 t.clu.tasks.length c2, .slice A3 t.clu.nodes.length c3, .slice A4 t.clu.binds.length c4, .slice A5 t.wants.length c5, .slice A6 t.ends.length c6, .int .i64 t.seen, .slice A7 t.insts.length c7, .slice A8 t.msgs.length c8] : Array Value)[o]?))) (by kernel_rfl) (by (try dsimp only); exact HK.out _ (by repeat' (first | exact Below.refl _ _ | refine Below.alloc ?_ ?_ _ | refine Below.setCell ?_ ?_ _ | refine Below.drew ?_ | (apply below_step; assumption) | (simp; done) | (simp; omega) | omega))) (fun hHeld => ?_)
          refine hT 0 ?_; simp only [Act.put, rhA, rhS, rhT]
          refine hT 1 ?_; simp only [Act.put, rhA, rhS, rhT]
          refine hT 2 ?_; simp only [Act.put, rhA, rhS, rhT]
          refine hT 3 ?_; simp only [Act.put, rhA, rhS, rhT]
          refine hT 4 ?_; simp only [Act.put, rhA, rhS, rhT]
          refine hT 5 ?_; simp only [Act.put, rhA, rhS, rhT]
          refine hT 6 ?_; simp only [Act.put, rhA, rhS, rhT]
          refine hT 7 ?_; simp only [Act.put, rhA, rhS, rhT]
          refine hT 8 ?_; simp only [Act.put, rhA, rhS, rhT]
          refine hT 9 ?_; simp only [Act.put, rhA, rhS, rhT]
          refine hT 10 ?_; simp only [Act.put, rhA, rhS, rhT]
          refine hT 11 ?_; simp only [Act.put, rhA, rhS, rhT]
          refine hT 12 ?_; simp only [Act.put, rhA, rhS, rhT]
          refine hT 14 ?_; simp only [Act.put, rhA, rhS, rhT]
          refine hT 15 ?_; simp only [Act.put, rhA, rhS, rhT]
          refine hCall (i := 13) (o := ?a290) ?b290 (by kernel_rfl) ?c290 (fun K hK => ?d290)
          case b290 => simp only [rhN, rhM]; try rfl
          case c290 => rfl
          go_simp
          refine (H5.out _ _ (HW.out.below (below_of hB (by repeat' (first | exact Below.refl _ _ | refine Below.alloc ?_ ?_ _ | refine Below.setCell ?_ ?_ _ | refine Below.drew ?_ | (apply below_step; assumption) | (simp; done) | (simp; omega) | omega)))).wa).mono ?_
          rintro e w3 ⟨v3, rfl, how, hb3⟩
          have HSL := Lib.hid (IntO.sl (OwnsJ.o how))
          have hz3 := hb3.size
          (try simp at hz3)
          clear how
          go_wp2_with fail
          refine hK.out _ _ (by (try dsimp only); exact HK.out _ (by repeat' (first | exact Below.refl _ _ | refine Below.alloc ?_ ?_ _ | refine Below.setCell ?_ ?_ _ | refine Below.drew ?_ | (apply below_step; assumption) | (simp; done) | (simp; omega) | omega))) (fun hHeld => ?_)
          clear hK K
          try simp only [Act.put, rhA, rhS, rhT]
          refine hCall (i := 16) (o := ?a291) ?b291 (by kernel_rfl) ?c291 (fun K hK => ?d291)
          case b291 => simp only [rhN, rhM]; try rfl
          case c291 => rfl
          go_simp
          refine (H6.out _ _ (HSL.out.below (by repeat' (first | exact Below.refl _ _ | refine Below.alloc ?_ ?_ _ | refine Below.setCell ?_ ?_ _ | refine Below.drew ?_ | (apply below_step; assumption) | (simp; done) | (simp; omega) | omega)))).mono ?_
          rintro e w4 ⟨rfl, hb4⟩
          have hz4 := hb4.size
          (try simp at hz4)
          go_wp2_with fail
          refine hK.out _ _ (by (try dsimp only); exact HK.out _ (by repeat' (first | exact Below.refl _ _ | refine Below.alloc ?_ ?_ _ | refine Below.setCell ?_ ?_ _ | refine Below.drew ?_ | (apply below_step; assumption) | (simp; done) | (simp; omega) | omega))) (fun hHeld => ?_)
          clear hK K
          try simp only [Act.put, rhA, rhS, rhT]
          refine hT 17 ?_; simp only [Act.put, rhA, rhS, rhT]
          refine hT 18 ?_; simp only [Act.put, rhA, rhS, rhT]
          refine hT 19 ?_; simp only [Act.put, rhA, rhS, rhT]
          refine hT 20 ?_; simp only [Act.put, rhA, rhS, rhT]
          refine hT 21 ?_; simp only [Act.put, rhA, rhS, rhT]
          refine hT 22 ?_; simp only [Act.put, rhA, rhS, rhT]
          refine hT 23 ?_; simp only [Act.put, rhA, rhS, rhT]
          refine hCall (i := 24) (o := ?a300) ?b300 (by kernel_rfl) ?c300 (fun K hK => ?d300)
          case b300 => simp only [rhN, rhM]; try rfl
          case c300 => rfl
          go_simp
          refine (H7.out _ _ (HW.out.below (below_of hB (by repeat' (first | exact Below.refl _ _ | refine Below.alloc ?_ ?_ _ | refine Below.setCell ?_ ?_ _ | refine Below.drew ?_ | (apply below_step; assumption) | (simp; done) | (simp; omega) | omega)))).en).mono ?_
          rintro e w5 ⟨rfl, hb5⟩
          have hz5 := hb5.size
          (try simp at hz5)
          go_wp2_with fail
          refine hK.out _ _ (by (try dsimp only); exact HK.out _ (by repeat' (first | exact Below.refl _ _ | refine Below.alloc ?_ ?_ _ | refine Below.setCell ?_ ?_ _ | refine Below.drew ?_ | (apply below_step; assumption) | (simp; done) | (simp; omega) | omega))) (fun hHeld => ?_)
          clear hK K
          try simp only [Act.put, rhA, rhS, rhT]
          refine hT 25 ?_; simp only [Act.put, rhA, rhS, rhT]
          refine hT 26 ?_; simp only [Act.put, rhA, rhS, rhT]
          refine wpAnyH_done (by kernel_rfl) ?_ _
          go_wp2_with fail
          clear hlt
          go_loopw [5] (fun s5 wr => ∃ k : Nat, k ≤ t.wants.length ∧ s5 = .int .i64 k ∧ t.wants.all (fun v => hasPool t.pools v.node && !hasNode t.clu v.task) = (t.wants.drop k).all (fun v => hasPool t.pools v.node && !hasNode t.clu v.task) ∧ BlockIs wr w.heap.size 39 #[.int .i64 t.now, .int .i64 t.span, .int .i64 t.kind, .int .i64 t.limit, .int .i64 t.next, .int .i64 t.lease.c, .int .i64 t.lease.m, .int .i64 t.lease.p, .slice A0 t.epochs.length c0, .slice A1 t.pools.length c1, .slice A2 t.clu.tasks.length c2, .slice A3 t.clu.nodes.length c3, .slice A4 t.clu.binds.length c4, .slice A5 t.wants.length c5, .slice A6 t.ends.length c6, .int .i64 t.seen, .slice A7 t.insts.length c7, .slice A8 t.msgs.length c8] ∧ Below w.heap.size w wr) (fun s5 _ => (t.wants.length - RowKit.intOf s5).toNat)
          case atStart => exact ⟨0, by omega, rfl, by rw [List.drop_zero], HBK.out.below (by repeat' (first | exact Below.refl _ _ | refine Below.alloc ?_ ?_ _ | refine Below.setCell ?_ ?_ _ | refine Below.drew ?_ | (apply below_step; assumption) | (simp; done) | (simp; omega) | omega)) gl, below_of hB (by repeat' (first | exact Below.refl _ _ | refine Below.alloc ?_ ?_ _ | refine Below.setCell ?_ ?_ _ | refine Below.drew ?_ | (apply below_step; assumption) | (simp; done) | (simp; omega) | omega))⟩
          case round =>
            clear HBK hB hzr x17 x4 x6 gc gl HK
            obtain ⟨k, hk, rfl, hall, hblk, hB⟩ := hrel
            have HBK := Lib.hid hblk
            have hzr := hB.size
            have x13 := hblk.cell 13
            simp at x13
            have gc := hblk.cell
            have gl := hblk.lt
            clear hblk
            by_cases hlt : k < t.wants.length
            · skip
              obtain ⟨A, c, e0, hA⟩ := (HW.out.wa).form
              obtain ⟨b, off, rfl, hbw, hat⟩ := hA (by omega)
              simp only [Value.slice.injEq] at e0
              obtain ⟨rfl, -, rfl⟩ := e0
              obtain ⟨r, hr⟩ : ∃ r, t.wants[k]? = some r := ⟨_, List.getElem?_eq_getElem hlt⟩
              have hki : (k : Int) < (t.wants.length : Int) := by omega
              have hk0 : (0 : Int) ≤ (k : Int) := by omega
              obtain ⟨cs, hR, hC⟩ := (hat.below WantR.kept hB hbw) k r hr
              obtain rfl := hR
              obtain ⟨q0, q1⟩ := want_cells hC
              have hbr : b < wr.heap.size := by omega
              have HK := Lib.hid (show ∀ w', Below wr.heap.size wr w' → (fun w' => Below wr.heap.size wr w' ∧ (∀ o, w'.cell? ⟨w.heap.size, o, none⟩ = (#[.int .i64 t.now, .int .i64 t.span, .int .i64 t.kind, .int .i64 t.limit, .int .i64 t.next, .int .i64 t.lease.c, .int .i64 t.lease.m, .int .i64 t.lease.p, .slice A0 t.epochs.length c0, .slice A1 t.pools.length c1, .slice A2 t.clu.tasks.length c2, .slice A3 t.clu.nodes.length c3, .slice A4 t.clu.binds.length c4, .slice (some ⟨b, off, none⟩) t.wants.length c5, .slice A6 t.ends.length c6, .int .i64 t.seen, .slice A7 t.insts.length c7, .slice A8 t.msgs.length c8] : Array Value)[o]?) ∧ w'.cell? ⟨b, off + k * 2, none⟩ = some (.int .i64 r.task) ∧ w'.cell? ⟨b, off + k * 2 + 1, none⟩ = some (.int .i64 r.node)) w' from fun w' hb => ⟨hb, fun o => (hb.cell (p := ⟨_, _, none⟩) gl).trans (gc o), (hb.cell (p := ⟨_, _, none⟩) hbr).trans q0, (hb.cell (p := ⟨_, _, none⟩) hbr).trans q1⟩)
              have hhp := fun v w hv => l08Has_any v t.pools r.node w hv l1
              have hsn := fun w1 h1 => sNode_any t.clu _ _ _ r.task w w1 h1 HW.out.clu
              have hng := node_geq t.clu r.task
              have hst := all_step hall hr
              generalize hasPool t.pools r.node = bp at *
              generalize hasNode t.clu r.task = bn at *
              generalize idxBy NV.id t.clu.nodes r.task = j at *
              have HST := Lib.hid hst
              have HHP := Lib.hid hhp
              have HSN := Lib.hid hsn
              clear hat hr hall hA hC hhp hsn hst
              cases bp
              · go_wp2_with fail
                refine wp_region_held_drew (S := (fun w' => Below wr.heap.size wr w' ∧ (∀ o, w'.cell? ⟨w.heap.size, o, none⟩ = (#[.int .i64 t.now, .int .i64 t.span, .int .i64 t.kind, .int .i64 t.limit, .int .i64 t.next, .int .i64 t.lease.c, .int .i64 t.lease.m, .int .i64 t.lease.p, .slice A0 t.epochs.length c0, .slice A1 t.pools.length c1, .slice A2 t.clu.tasks.length c2, .slice A3 t.clu.nodes.length c3, .slice A4 t.clu.binds.length c4, .slice (some ⟨b, off, none⟩) t.wants.length c5, .slice A6 t.ends.length c6, .int .i64 t.seen, .slice A7 t.insts.length c7, .slice A8 t.msgs.length c8] : Array Value)[o]?) ∧ w'.cell? ⟨b, off + k * 2, none⟩ = some (.int .i64 r.task) ∧ w'.cell? ⟨b, off + k * 2 + 1, none⟩ = some (.int .i64 r.node))) (by kernel_rfl) (by (try dsimp only); exact HK.out _ (by repeat' (first | exact Below.refl _ _ | refine Below.alloc ?_ ?_ _ | refine Below.setCell ?_ ?_ _ | refine Below.drew ?_ | (apply below_step; assumption) | (simp; done) | (simp; omega) | omega))) (fun hHeld => ?_)
                refine hT 0 ?_; simp only [Act.put, rhA, rhS, rhT]
                refine hT 1 ?_; simp only [Act.put, rhA, rhS, rhT]
                refine hT 2 ?_; simp only [Act.put, rhA, rhS, rhT]
                refine hT 3 ?_; simp only [Act.put, rhA, rhS, rhT]
                refine hT 4 ?_; simp only [Act.put, rhA, rhS, rhT]
                refine hT 5 ?_; simp only [Act.put, rhA, rhS, rhT]
                refine hT 6 ?_; simp only [Act.put, rhA, rhS, rhT]
                refine hT 7 ?_; simp only [Act.put, rhA, rhS, rhT]
                refine hCall (i := 8) (o := ?a314) ?b314 (by kernel_rfl) ?c314 (fun K hK => ?d314)
                case b314 => simp only [rhN, rhM]; try rfl
                case c314 => rfl
                go_simp
                refine (HHP.out _ _ (HW.out.below (below_of hB (by repeat' (first | exact Below.refl _ _ | refine Below.alloc ?_ ?_ _ | refine Below.setCell ?_ ?_ _ | refine Below.drew ?_ | (apply below_step; assumption) | (simp; done) | (simp; omega) | omega)))).po).mono ?_
                rintro e w3 ⟨rfl, hb3⟩
                have hz3 := hb3.size
                (try simp at hz3)
                go_wp2_with fail
                refine hK.out _ _ (by (try dsimp only); exact HK.out _ (by repeat' (first | exact Below.refl _ _ | refine Below.alloc ?_ ?_ _ | refine Below.setCell ?_ ?_ _ | refine Below.drew ?_ | (apply below_step; assumption) | (simp; done) | (simp; omega) | omega))) (fun hHeld => ?_)
                clear hK K
                try simp only [Act.put, rhA, rhS, rhT]
                refine hT 9 ?_; simp only [Act.put, rhA, rhS, rhT]
                refine hT 10 ?_; simp only [Act.put, rhA, rhS, rhT]
                refine hP 11 ?_; simp only [Act.put, rhA, rhS, rhT]
                refine hP 12 ?_; simp only [Act.put, rhA, rhS, rhT]
                refine hP 13 ?_; simp only [Act.put, rhA, rhS, rhT]
                refine hP 14 ?_; simp only [Act.put, rhA, rhS, rhT]
                refine hP 15 ?_; simp only [Act.put, rhA, rhS, rhT]
                refine hP 16 ?_; simp only [Act.put, rhA, rhS, rhT]
                refine hP 17 ?_; simp only [Act.put, rhA, rhS, rhT]
                refine hP 18 ?_; simp only [Act.put, rhA, rhS, rhT]
                refine hP 19 ?_; simp only [Act.put, rhA, rhS, rhT]
                refine hP 20 ?_; simp only [Act.put, rhA, rhS, rhT]
                refine hT 21 ?_; simp only [Act.put, rhA, rhS, rhT]
                refine wpAnyH_done (by kernel_rfl) ?_ _
                go_wp2_with fail
                go_ret
                exact ⟨by rw [HE.out, HEp.out, HMs.out, HST.out]; simp, below_of hB (by repeat' (first | exact Below.refl _ _ | refine Below.alloc ?_ ?_ _ | refine Below.setCell ?_ ?_ _ | refine Below.drew ?_ | (apply below_step; assumption) | (simp; done) | (simp; omega) | omega))⟩
              cases bn
              rotate_left
              · go_wp2_with fail
                refine wp_region_held_drew (S := (fun w' => Below wr.heap.size wr w' ∧ (∀ o, w'.cell? ⟨w.heap.size, o, none⟩ = (#[.int .i64 t.now, .int .i64 t.span, .int .i64 t.kind, .int .i64 t.limit, .int .i64 t.next, .int .i64 t.lease.c, .int .i64 t.lease.m, .int .i64 t.lease.p, .slice A0 t.epochs.length c0, .slice A1 t.pools.length c1, .slice A2 t.clu.tasks.length c2, .slice A3 t.clu.nodes.length c3, .slice A4 t.clu.binds.length c4, .slice (some ⟨b, off, none⟩) t.wants.length c5, .slice A6 t.ends.length c6, .int .i64 t.seen, .slice A7 t.insts.length c7, .slice A8 t.msgs.length c8] : Array Value)[o]?) ∧ w'.cell? ⟨b, off + k * 2, none⟩ = some (.int .i64 r.task) ∧ w'.cell? ⟨b, off + k * 2 + 1, none⟩ = some (.int .i64 r.node))) (by kernel_rfl) (by (try dsimp only); exact HK.out _ (by repeat' (first | exact Below.refl _ _ | refine Below.alloc ?_ ?_ _ | refine Below.setCell ?_ ?_ _ | refine Below.drew ?_ | (apply below_step; assumption) | (simp; done) | (simp; omega) | omega))) (fun hHeld => ?_)
                refine hT 0 ?_; simp only [Act.put, rhA, rhS, rhT]
                refine hT 1 ?_; simp only [Act.put, rhA, rhS, rhT]
                refine hT 2 ?_; simp only [Act.put, rhA, rhS, rhT]
                refine hT 3 ?_; simp only [Act.put, rhA, rhS, rhT]
                refine hT 4 ?_; simp only [Act.put, rhA, rhS, rhT]
                refine hT 5 ?_; simp only [Act.put, rhA, rhS, rhT]
                refine hT 6 ?_; simp only [Act.put, rhA, rhS, rhT]
                refine hT 7 ?_; simp only [Act.put, rhA, rhS, rhT]
                refine hCall (i := 8) (o := ?a341) ?b341 (by kernel_rfl) ?c341 (fun K hK => ?d341)
                case b341 => simp only [rhN, rhM]; try rfl
                case c341 => rfl
                go_simp
                refine (HHP.out _ _ (HW.out.below (below_of hB (by repeat' (first | exact Below.refl _ _ | refine Below.alloc ?_ ?_ _ | refine Below.setCell ?_ ?_ _ | refine Below.drew ?_ | (apply below_step; assumption) | (simp; done) | (simp; omega) | omega)))).po).mono ?_
                rintro e w3 ⟨rfl, hb3⟩
                have hz3 := hb3.size
                (try simp at hz3)
                go_wp2_with fail
                refine hK.out _ _ (by (try dsimp only); exact HK.out _ (by repeat' (first | exact Below.refl _ _ | refine Below.alloc ?_ ?_ _ | refine Below.setCell ?_ ?_ _ | refine Below.drew ?_ | (apply below_step; assumption) | (simp; done) | (simp; omega) | omega))) (fun hHeld => ?_)
                clear hK K
                try simp only [Act.put, rhA, rhS, rhT]
                refine hT 9 ?_; simp only [Act.put, rhA, rhS, rhT]
                refine hT 10 ?_; simp only [Act.put, rhA, rhS, rhT]
                refine hT 11 ?_; simp only [Act.put, rhA, rhS, rhT]
                refine hT 12 ?_; simp only [Act.put, rhA, rhS, rhT]
                refine hT 13 ?_; simp only [Act.put, rhA, rhS, rhT]
                refine hT 14 ?_; simp only [Act.put, rhA, rhS, rhT]
                refine hT 15 ?_; simp only [Act.put, rhA, rhS, rhT]
                refine hT 16 ?_; simp only [Act.put, rhA, rhS, rhT]
                refine hT 17 ?_; simp only [Act.put, rhA, rhS, rhT]
                refine hT 18 ?_; simp only [Act.put, rhA, rhS, rhT]
                refine hCall (i := 19) (o := ?a353) ?b353 (by kernel_rfl) ?c353 (fun K hK => ?d353)
                case b353 => simp only [rhN, rhM]; try rfl
                case c353 => rfl
                go_simp
                refine (HSN.out _ (below_of hB (by repeat' (first | exact Below.refl _ _ | refine Below.alloc ?_ ?_ _ | refine Below.setCell ?_ ?_ _ | refine Below.drew ?_ | (apply below_step; assumption) | (simp; done) | (simp; omega) | omega)))).mono ?_
                rintro e w4 ⟨rfl, hb4⟩
                have hz4 := hb4.size
                (try simp at hz4)
                go_wp2_with fail
                refine hK.out _ _ (by (try dsimp only); exact HK.out _ (by repeat' (first | exact Below.refl _ _ | refine Below.alloc ?_ ?_ _ | refine Below.setCell ?_ ?_ _ | refine Below.drew ?_ | (apply below_step; assumption) | (simp; done) | (simp; omega) | omega))) (fun hHeld => ?_)
                clear hK K
                try simp only [Act.put, rhA, rhS, rhT]
                refine hT 20 ?_; simp only [Act.put, rhA, rhS, rhT]
                refine hT 21 ?_; simp only [Act.put, rhA, rhS, rhT]
                refine wpAnyH_done (by kernel_rfl) ?_ _
                go_wp2_with fail
                go_ret
                exact ⟨by rw [HE.out, HEp.out, HMs.out, HST.out]; simp, below_of hB (by repeat' (first | exact Below.refl _ _ | refine Below.alloc ?_ ?_ _ | refine Below.setCell ?_ ?_ _ | refine Below.drew ?_ | (apply below_step; assumption) | (simp; done) | (simp; omega) | omega))⟩
              go_wp2_with fail
              refine wp_region_held_drew (S := (fun w' => Below wr.heap.size wr w' ∧ (∀ o, w'.cell? ⟨w.heap.size, o, none⟩ = (#[.int .i64 t.now, .int .i64 t.span, .int .i64 t.kind, .int .i64 t.limit, .int .i64 t.next, .int .i64 t.lease.c, .int .i64 t.lease.m, .int .i64 t.lease.p, .slice A0 t.epochs.length c0, .slice A1 t.pools.length c1, .slice A2 t.clu.tasks.length c2, .slice A3 t.clu.nodes.length c3, .slice A4 t.clu.binds.length c4, .slice (some ⟨b, off, none⟩) t.wants.length c5, .slice A6 t.ends.length c6, .int .i64 t.seen, .slice A7 t.insts.length c7, .slice A8 t.msgs.length c8] : Array Value)[o]?) ∧ w'.cell? ⟨b, off + k * 2, none⟩ = some (.int .i64 r.task) ∧ w'.cell? ⟨b, off + k * 2 + 1, none⟩ = some (.int .i64 r.node))) (by kernel_rfl) (by (try dsimp only); exact HK.out _ (by repeat' (first | exact Below.refl _ _ | refine Below.alloc ?_ ?_ _ | refine Below.setCell ?_ ?_ _ | refine Below.drew ?_ | (apply below_step; assumption) | (simp; done) | (simp; omega) | omega))) (fun hHeld => ?_)
              refine hT 0 ?_; simp only [Act.put, rhA, rhS, rhT]
              refine hT 1 ?_; simp only [Act.put, rhA, rhS, rhT]
              refine hT 2 ?_; simp only [Act.put, rhA, rhS, rhT]
              refine hT 3 ?_; simp only [Act.put, rhA, rhS, rhT]
              refine hT 4 ?_; simp only [Act.put, rhA, rhS, rhT]
              refine hT 5 ?_; simp only [Act.put, rhA, rhS, rhT]
              refine hT 6 ?_; simp only [Act.put, rhA, rhS, rhT]
              refine hT 7 ?_; simp only [Act.put, rhA, rhS, rhT]
              refine hCall (i := 8) (o := ?a367) ?b367 (by kernel_rfl) ?c367 (fun K hK => ?d367)
              case b367 => simp only [rhN, rhM]; try rfl
              case c367 => rfl
              go_simp
              refine (HHP.out _ _ (HW.out.below (below_of hB (by repeat' (first | exact Below.refl _ _ | refine Below.alloc ?_ ?_ _ | refine Below.setCell ?_ ?_ _ | refine Below.drew ?_ | (apply below_step; assumption) | (simp; done) | (simp; omega) | omega)))).po).mono ?_
              rintro e w3 ⟨rfl, hb3⟩
              have hz3 := hb3.size
              (try simp at hz3)
              go_wp2_with fail
              refine hK.out _ _ (by (try dsimp only); exact HK.out _ (by repeat' (first | exact Below.refl _ _ | refine Below.alloc ?_ ?_ _ | refine Below.setCell ?_ ?_ _ | refine Below.drew ?_ | (apply below_step; assumption) | (simp; done) | (simp; omega) | omega))) (fun hHeld => ?_)
              clear hK K
              try simp only [Act.put, rhA, rhS, rhT]
              refine hT 9 ?_; simp only [Act.put, rhA, rhS, rhT]
              refine hT 10 ?_; simp only [Act.put, rhA, rhS, rhT]
              refine hT 11 ?_; simp only [Act.put, rhA, rhS, rhT]
              refine hT 12 ?_; simp only [Act.put, rhA, rhS, rhT]
              refine hT 13 ?_; simp only [Act.put, rhA, rhS, rhT]
              refine hT 14 ?_; simp only [Act.put, rhA, rhS, rhT]
              refine hT 15 ?_; simp only [Act.put, rhA, rhS, rhT]
              refine hT 16 ?_; simp only [Act.put, rhA, rhS, rhT]
              refine hT 17 ?_; simp only [Act.put, rhA, rhS, rhT]
              refine hT 18 ?_; simp only [Act.put, rhA, rhS, rhT]
              refine hCall (i := 19) (o := ?a379) ?b379 (by kernel_rfl) ?c379 (fun K hK => ?d379)
              case b379 => simp only [rhN, rhM]; try rfl
              case c379 => rfl
              go_simp
              refine (HSN.out _ (below_of hB (by repeat' (first | exact Below.refl _ _ | refine Below.alloc ?_ ?_ _ | refine Below.setCell ?_ ?_ _ | refine Below.drew ?_ | (apply below_step; assumption) | (simp; done) | (simp; omega) | omega)))).mono ?_
              rintro e w4 ⟨rfl, hb4⟩
              have hz4 := hb4.size
              (try simp at hz4)
              go_wp2_with fail
              refine hK.out _ _ (by (try dsimp only); exact HK.out _ (by repeat' (first | exact Below.refl _ _ | refine Below.alloc ?_ ?_ _ | refine Below.setCell ?_ ?_ _ | refine Below.drew ?_ | (apply below_step; assumption) | (simp; done) | (simp; omega) | omega))) (fun hHeld => ?_)
              clear hK K
              try simp only [Act.put, rhA, rhS, rhT]
              refine hT 20 ?_; simp only [Act.put, rhA, rhS, rhT]
              refine hT 21 ?_; simp only [Act.put, rhA, rhS, rhT]
              refine wpAnyH_done (by kernel_rfl) ?_ _
              go_wp2_with fail
              go_roundw
              case rel => exact ⟨k + 1, by omega, by go_num, by rw [HST.out]; simp, HBK.out.below (by repeat' (first | exact Below.refl _ _ | refine Below.alloc ?_ ?_ _ | refine Below.setCell ?_ ?_ _ | refine Below.drew ?_ | (apply below_step; assumption) | (simp; done) | (simp; omega) | omega)) gl, below_of hB (by repeat' (first | exact Below.refl _ _ | refine Below.alloc ?_ ?_ _ | refine Below.setCell ?_ ?_ _ | refine Below.drew ?_ | (apply below_step; assumption) | (simp; done) | (simp; omega) | omega))⟩
              case measure => simp [RowKit.intOf]; omega
            · obtain rfl : k = t.wants.length := by omega
              have HWn := Lib.hid (hall.trans (by rw [List.drop_length, List.all_nil]))
              clear hall
              go_wp2_with fail
              clear hlt
              go_loopw [6] (fun s6 wr => ∃ k : Nat, k ≤ t.ends.length ∧ s6 = .int .i64 k ∧ t.ends.all (fun z => hasNode t.clu z) = (t.ends.drop k).all (fun z => hasNode t.clu z) ∧ BlockIs wr w.heap.size 39 #[.int .i64 t.now, .int .i64 t.span, .int .i64 t.kind, .int .i64 t.limit, .int .i64 t.next, .int .i64 t.lease.c, .int .i64 t.lease.m, .int .i64 t.lease.p, .slice A0 t.epochs.length c0, .slice A1 t.pools.length c1, .slice A2 t.clu.tasks.length c2, .slice A3 t.clu.nodes.length c3, .slice A4 t.clu.binds.length c4, .slice A5 t.wants.length c5, .slice A6 t.ends.length c6, .int .i64 t.seen, .slice A7 t.insts.length c7, .slice A8 t.msgs.length c8] ∧ Below w.heap.size w wr) (fun s6 _ => (t.ends.length - RowKit.intOf s6).toNat)
              case atStart => exact ⟨0, by omega, rfl, by rw [List.drop_zero], HBK.out, hB⟩
              case round =>
                clear HBK hB hzr x13 gc gl
                obtain ⟨k, hk, rfl, hall, hblk, hB⟩ := hrel
                have HBK := Lib.hid hblk
                have hzr := hB.size
                have x14 := hblk.cell 14
                simp at x14
                have gc := hblk.cell
                have gl := hblk.lt
                by_cases hlt : k < t.ends.length
                · skip
                  clear hblk
                  obtain ⟨A, c, e0, hA⟩ := (HW.out.en).form
                  obtain ⟨b, off, rfl, hbw, hat⟩ := hA (by omega)
                  simp only [Value.slice.injEq] at e0
                  obtain ⟨rfl, -, rfl⟩ := e0
                  obtain ⟨r, hr⟩ : ∃ r, t.ends[k]? = some r := ⟨_, List.getElem?_eq_getElem hlt⟩
                  have hki : (k : Int) < (t.ends.length : Int) := by omega
                  have hk0 : (0 : Int) ≤ (k : Int) := by omega
                  have q0 := (hat.below hB hbw) k r hr
                  have hbr : b < wr.heap.size := by omega
                  have HK := Lib.hid (show ∀ w', Below wr.heap.size wr w' → (fun w' => Below wr.heap.size wr w' ∧ (∀ o, w'.cell? ⟨w.heap.size, o, none⟩ = (#[.int .i64 t.now, .int .i64 t.span, .int .i64 t.kind, .int .i64 t.limit, .int .i64 t.next, .int .i64 t.lease.c, .int .i64 t.lease.m, .int .i64 t.lease.p, .slice A0 t.epochs.length c0, .slice A1 t.pools.length c1, .slice A2 t.clu.tasks.length c2, .slice A3 t.clu.nodes.length c3, .slice A4 t.clu.binds.length c4, .slice A5 t.wants.length c5, .slice (some ⟨b, off, none⟩) t.ends.length c6, .int .i64 t.seen, .slice A7 t.insts.length c7, .slice A8 t.msgs.length c8] : Array Value)[o]?) ∧ w'.cell? ⟨b, off + k, none⟩ = some (.int .i64 r)) w' from fun w' hb => ⟨hb, fun o => (hb.cell (p := ⟨_, _, none⟩) gl).trans (gc o), (hb.cell (p := ⟨_, _, none⟩) hbr).trans q0⟩)
                  have hsn := fun w1 h1 => sNode_any t.clu _ _ _ r w w1 h1 HW.out.clu
                  have hng := node_lss t.clu r
                  have hst := all_step hall hr
                  generalize hasNode t.clu r = bn at *
                  generalize idxBy NV.id t.clu.nodes r = j at *
                  have HST := Lib.hid hst
                  have HSN := Lib.hid hsn
                  clear hat hr hall hA hsn hst
                  cases bn
                  · go_wp2_with fail
                    refine wp_region_held_drew (S := (fun w' => Below wr.heap.size wr w' ∧ (∀ o, w'.cell? ⟨w.heap.size, o, none⟩ = (#[.int .i64 t.now, .int .i64 t.span, .int .i64 t.kind, .int .i64 t.limit, .int .i64 t.next, .int .i64 t.lease.c, .int .i64 t.lease.m, .int .i64 t.lease.p, .slice A0 t.epochs.length c0, .slice A1 t.pools.length c1, .slice A2 t.clu.tasks.length c2, .slice A3 t.clu.nodes.length c3, .slice A4 t.clu.binds.length c4, .slice A5 t.wants.length c5, .slice (some ⟨b, off, none⟩) t.ends.length c6, .int .i64 t.seen, .slice A7 t.insts.length c7, .slice A8 t.msgs.length c8] : Array Value)[o]?) ∧ w'.cell? ⟨b, off + k, none⟩ = some (.int .i64 r))) (by kernel_rfl) (by (try dsimp only); exact HK.out _ (by repeat' (first | exact Below.refl _ _ | refine Below.alloc ?_ ?_ _ | refine Below.setCell ?_ ?_ _ | refine Below.drew ?_ | (apply below_step; assumption) | (simp; done) | (simp; omega) | omega))) (fun hHeld => ?_)
                    refine hT 0 ?_; simp only [Act.put, rhA, rhS, rhT]
                    refine hT 1 ?_; simp only [Act.put, rhA, rhS, rhT]
                    refine hT 2 ?_; simp only [Act.put, rhA, rhS, rhT]
                    refine hT 3 ?_; simp only [Act.put, rhA, rhS, rhT]
                    refine hT 4 ?_; simp only [Act.put, rhA, rhS, rhT]
                    refine hT 5 ?_; simp only [Act.put, rhA, rhS, rhT]
                    refine hT 6 ?_; simp only [Act.put, rhA, rhS, rhT]
                    refine hCall (i := 7) (o := ?a392) ?b392 (by kernel_rfl) ?c392 (fun K hK => ?d392)
                    case b392 => simp only [rhN, rhM]; try rfl
                    case c392 => rfl
                    go_simp
                    refine (HSN.out _ (below_of hB (by repeat' (first | exact Below.refl _ _ | refine Below.alloc ?_ ?_ _ | refine Below.setCell ?_ ?_ _ | refine Below.drew ?_ | (apply below_step; assumption) | (simp; done) | (simp; omega) | omega)))).mono ?_
                    rintro e w4 ⟨rfl, hb4⟩
                    have hz4 := hb4.size
                    (try simp at hz4)
                    go_wp2_with fail
                    refine hK.out _ _ (by (try dsimp only); exact HK.out _ (by repeat' (first | exact Below.refl _ _ | refine Below.alloc ?_ ?_ _ | refine Below.setCell ?_ ?_ _ | refine Below.drew ?_ | (apply below_step; assumption) | (simp; done) | (simp; omega) | omega))) (fun hHeld => ?_)
                    clear hK K
                    try simp only [Act.put, rhA, rhS, rhT]
                    refine hT 8 ?_; simp only [Act.put, rhA, rhS, rhT]
                    refine wpAnyH_done (by kernel_rfl) ?_ _
                    go_wp2_with fail
                    go_ret
                    exact ⟨by rw [HE.out, HEp.out, HMs.out, HWn.out, HST.out]; simp, below_of hB (by repeat' (first | exact Below.refl _ _ | refine Below.alloc ?_ ?_ _ | refine Below.setCell ?_ ?_ _ | refine Below.drew ?_ | (apply below_step; assumption) | (simp; done) | (simp; omega) | omega))⟩
                  go_wp2_with fail
                  refine wp_region_held_drew (S := (fun w' => Below wr.heap.size wr w' ∧ (∀ o, w'.cell? ⟨w.heap.size, o, none⟩ = (#[.int .i64 t.now, .int .i64 t.span, .int .i64 t.kind, .int .i64 t.limit, .int .i64 t.next, .int .i64 t.lease.c, .int .i64 t.lease.m, .int .i64 t.lease.p, .slice A0 t.epochs.length c0, .slice A1 t.pools.length c1, .slice A2 t.clu.tasks.length c2, .slice A3 t.clu.nodes.length c3, .slice A4 t.clu.binds.length c4, .slice A5 t.wants.length c5, .slice (some ⟨b, off, none⟩) t.ends.length c6, .int .i64 t.seen, .slice A7 t.insts.length c7, .slice A8 t.msgs.length c8] : Array Value)[o]?) ∧ w'.cell? ⟨b, off + k, none⟩ = some (.int .i64 r))) (by kernel_rfl) (by (try dsimp only); exact HK.out _ (by repeat' (first | exact Below.refl _ _ | refine Below.alloc ?_ ?_ _ | refine Below.setCell ?_ ?_ _ | refine Below.drew ?_ | (apply below_step; assumption) | (simp; done) | (simp; omega) | omega))) (fun hHeld => ?_)
                  refine hT 0 ?_; simp only [Act.put, rhA, rhS, rhT]
                  refine hT 1 ?_; simp only [Act.put, rhA, rhS, rhT]
                  refine hT 2 ?_; simp only [Act.put, rhA, rhS, rhT]
                  refine hT 3 ?_; simp only [Act.put, rhA, rhS, rhT]
                  refine hT 4 ?_; simp only [Act.put, rhA, rhS, rhT]
                  refine hT 5 ?_; simp only [Act.put, rhA, rhS, rhT]
                  refine hT 6 ?_; simp only [Act.put, rhA, rhS, rhT]
                  refine hCall (i := 7) (o := ?a403) ?b403 (by kernel_rfl) ?c403 (fun K hK => ?d403)
                  case b403 => simp only [rhN, rhM]; try rfl
                  case c403 => rfl
                  go_simp
                  refine (HSN.out _ (below_of hB (by repeat' (first | exact Below.refl _ _ | refine Below.alloc ?_ ?_ _ | refine Below.setCell ?_ ?_ _ | refine Below.drew ?_ | (apply below_step; assumption) | (simp; done) | (simp; omega) | omega)))).mono ?_
                  rintro e w4 ⟨rfl, hb4⟩
                  have hz4 := hb4.size
                  (try simp at hz4)
                  go_wp2_with fail
                  refine hK.out _ _ (by (try dsimp only); exact HK.out _ (by repeat' (first | exact Below.refl _ _ | refine Below.alloc ?_ ?_ _ | refine Below.setCell ?_ ?_ _ | refine Below.drew ?_ | (apply below_step; assumption) | (simp; done) | (simp; omega) | omega))) (fun hHeld => ?_)
                  clear hK K
                  try simp only [Act.put, rhA, rhS, rhT]
                  refine hT 8 ?_; simp only [Act.put, rhA, rhS, rhT]
                  refine wpAnyH_done (by kernel_rfl) ?_ _
                  go_wp2_with fail
                  go_roundw
                  case rel => exact ⟨k + 1, by omega, by go_num, by rw [HST.out]; simp, HBK.out.below (by repeat' (first | exact Below.refl _ _ | refine Below.alloc ?_ ?_ _ | refine Below.setCell ?_ ?_ _ | refine Below.drew ?_ | (apply below_step; assumption) | (simp; done) | (simp; omega) | omega)) gl, below_of hB (by repeat' (first | exact Below.refl _ _ | refine Below.alloc ?_ ?_ _ | refine Below.setCell ?_ ?_ _ | refine Below.drew ?_ | (apply below_step; assumption) | (simp; done) | (simp; omega) | omega))⟩
                  case measure => simp [RowKit.intOf]; omega
                · obtain rfl : k = t.ends.length := by omega
                  have HDn := Lib.hid (hall.trans (by rw [List.drop_length, List.all_nil]))
                  have x4 := hblk.cell 4
                  have x11 := hblk.cell 11
                  have x16 := hblk.cell 16
                  simp at x4 x11 x16
                  clear hall hblk gc gl hlt
                  have hn := fun m z => lastLt_at (l := t.clu.nodes.map NV.id) (m := m) (z := z) t.next
                  have hi := fun m z => lastLt_at (l := t.insts.map RV.c) (m := m) (z := z) t.next
                  rcases Nat.eq_zero_or_pos t.clu.nodes.length with hn0 | hn0
                  · have HN := Lib.hid (lastLt_nil t.next (l := t.clu.nodes.map NV.id) (by rw [List.length_map]; exact hn0))
                    have v1 : ((t.clu.nodes.length : Int) == 0) = true := by simp [hn0]
                    clear hn0
                    rcases Nat.eq_zero_or_pos t.insts.length with hi0 | hi0
                    · have HI := Lib.hid (lastLt_nil t.next (l := t.insts.map RV.c) (by rw [List.length_map]; exact hi0))
                      have u1 : ((t.insts.length : Int) == 0) = true := by simp [hi0]
                      clear hn hi hi0
                      go_wp2_with fail
                      go_quiet (fail)
                      go_wp2_with fail
                      go_ret
                      exact ⟨by rw [HE.out, HEp.out, HMs.out, HWn.out, HDn.out, HN.out, HI.out]; simp, (by repeat' (first | exact Below.refl _ _ | refine Below.alloc ?_ ?_ _ | refine Below.setCell ?_ ?_ _ | refine Below.drew ?_ | refine below_drewN ?_ _ | (apply below_step; assumption) | (simp; done) | (simp; omega) | omega))⟩
                    · obtain ⟨m, hm⟩ : ∃ m, t.insts.length = m + 1 := ⟨t.insts.length - 1, by omega⟩
                      obtain ⟨r2, hr2⟩ : ∃ r, t.insts[m]? = some r := ⟨_, List.getElem?_eq_getElem (by omega)⟩
                      have HI := Lib.hid (hi m r2.c (by rw [List.length_map]; exact hm) (by rw [List.getElem?_map, hr2]; rfl))
                      obtain ⟨A, c, e0, hA⟩ := (HW.out.ins).form
                      obtain ⟨b2, off2, rfl, hbw2, hat2⟩ := hA (by omega)
                      simp only [Value.slice.injEq] at e0
                      obtain ⟨rfl, -, rfl⟩ := e0
                      obtain ⟨y0, y1, y2⟩ := (hat2.below hB hbw2) m r2 hr2
                      have u1 : ((t.insts.length : Int) == 0) = false := beq_eq_false_iff_ne.2 (by omega)
                      have u2 : IntKind.i64.wrap ((t.insts.length : Int) - 1) = (m : Int) := by rw [IntKind.wrap_i64]; omega
                      have u3 : (m : Int) < (t.insts.length : Int) := by omega
                      have u4 : (0 : Int) ≤ (m : Int) := by omega
                      generalize e9 : decide (r2.c < t.next) = ci at *
                      clear hn hi hi0 hm hr2 hA hat2
                      cases ci
                      all_goals
                        go_wp2_with fail
                        go_quiet (fail)
                        go_wp2_with fail
                        go_ret
                        exact ⟨by rw [HE.out, HEp.out, HMs.out, HWn.out, HDn.out, HN.out, HI.out]; simp, (by repeat' (first | exact Below.refl _ _ | refine Below.alloc ?_ ?_ _ | refine Below.setCell ?_ ?_ _ | refine Below.drew ?_ | refine below_drewN ?_ _ | (apply below_step; assumption) | (simp; done) | (simp; omega) | omega))⟩
                  · obtain ⟨p, hp⟩ : ∃ p, t.clu.nodes.length = p + 1 := ⟨t.clu.nodes.length - 1, by omega⟩
                    obtain ⟨r1, hr1⟩ : ∃ r, t.clu.nodes[p]? = some r := ⟨_, List.getElem?_eq_getElem (by omega)⟩
                    have HN := Lib.hid (hn p r1.id (by rw [List.length_map]; exact hp) (by rw [List.getElem?_map, hr1]; rfl))
                    obtain ⟨A, c, e0, hA⟩ := (HW.out.clu.2.1).form
                    obtain ⟨b1, off1, rfl, hbw1, hat1⟩ := hA (by omega)
                    simp only [Value.slice.injEq] at e0
                    obtain ⟨rfl, -, rfl⟩ := e0
                    obtain ⟨cs1, hR1, hC1⟩ := (hat1.below NodeR.kept hB hbw1) p r1 hr1
                    obtain ⟨n1, n2, rfl, s1, s2, _, _⟩ := hR1
                    obtain ⟨N1, k1, rfl, _⟩ := s1.form
                    obtain ⟨N2, k2, rfl, _⟩ := s2.form
                    obtain ⟨z0, z1, z2, z3, z4, z5, z6, z7⟩ := node_cells hC1
                    have v1 : ((t.clu.nodes.length : Int) == 0) = false := beq_eq_false_iff_ne.2 (by omega)
                    have v2 : IntKind.i64.wrap ((t.clu.nodes.length : Int) - 1) = (p : Int) := by rw [IntKind.wrap_i64]; omega
                    have v3 : (p : Int) < (t.clu.nodes.length : Int) := by omega
                    have v4 : (0 : Int) ≤ (p : Int) := by omega
                    generalize ea : decide (r1.id < t.next) = cn at *
                    clear hp hr1 hA hat1 hC1 s1 s2 hn0
                    cases cn
                    · clear hn hi
                      go_wp2_with fail
                      go_quiet (fail)
                      go_wp2_with fail
                      go_ret
                      exact ⟨by rw [HE.out, HEp.out, HMs.out, HWn.out, HDn.out, HN.out]; simp, (by repeat' (first | exact Below.refl _ _ | refine Below.alloc ?_ ?_ _ | refine Below.setCell ?_ ?_ _ | refine Below.drew ?_ | refine below_drewN ?_ _ | (apply below_step; assumption) | (simp; done) | (simp; omega) | omega))⟩
                    rcases Nat.eq_zero_or_pos t.insts.length with hi0 | hi0
                    · have HI := Lib.hid (lastLt_nil t.next (l := t.insts.map RV.c) (by rw [List.length_map]; exact hi0))
                      have u1 : ((t.insts.length : Int) == 0) = true := by simp [hi0]
                      clear hn hi hi0
                      go_wp2_with fail
                      go_quiet (fail)
                      go_wp2_with fail
                      go_ret
                      exact ⟨by rw [HE.out, HEp.out, HMs.out, HWn.out, HDn.out, HN.out, HI.out]; simp, (by repeat' (first | exact Below.refl _ _ | refine Below.alloc ?_ ?_ _ | refine Below.setCell ?_ ?_ _ | refine Below.drew ?_ | refine below_drewN ?_ _ | (apply below_step; assumption) | (simp; done) | (simp; omega) | omega))⟩
                    · obtain ⟨m, hm⟩ : ∃ m, t.insts.length = m + 1 := ⟨t.insts.length - 1, by omega⟩
                      obtain ⟨r2, hr2⟩ : ∃ r, t.insts[m]? = some r := ⟨_, List.getElem?_eq_getElem (by omega)⟩
                      have HI := Lib.hid (hi m r2.c (by rw [List.length_map]; exact hm) (by rw [List.getElem?_map, hr2]; rfl))
                      obtain ⟨A, c, e0, hA⟩ := (HW.out.ins).form
                      obtain ⟨b2, off2, rfl, hbw2, hat2⟩ := hA (by omega)
                      simp only [Value.slice.injEq] at e0
                      obtain ⟨rfl, -, rfl⟩ := e0
                      obtain ⟨y0, y1, y2⟩ := (hat2.below hB hbw2) m r2 hr2
                      have u1 : ((t.insts.length : Int) == 0) = false := beq_eq_false_iff_ne.2 (by omega)
                      have u2 : IntKind.i64.wrap ((t.insts.length : Int) - 1) = (m : Int) := by rw [IntKind.wrap_i64]; omega
                      have u3 : (m : Int) < (t.insts.length : Int) := by omega
                      have u4 : (0 : Int) ≤ (m : Int) := by omega
                      generalize e9 : decide (r2.c < t.next) = ci at *
                      clear hn hi hi0 hm hr2 hA hat2
                      cases ci
                      all_goals
                        go_wp2_with fail
                        go_quiet (fail)
                        go_wp2_with fail
                        go_ret
                        exact ⟨by rw [HE.out, HEp.out, HMs.out, HWn.out, HDn.out, HN.out, HI.out]; simp, (by repeat' (first | exact Below.refl _ _ | refine Below.alloc ?_ ?_ _ | refine Below.setCell ?_ ?_ _ | refine Below.drew ?_ | refine below_drewN ?_ _ | (apply below_step; assumption) | (simp; done) | (simp; omega) | omega))⟩
end Go.Proofs.YtmkpajjnjgnmkabGreatDoor
