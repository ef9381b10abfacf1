/- The contracts of the model's WorldOk, l08Leader, Leader. (mkworlds.py) -/
import Derived.Test.YtcegofdmdemcbaaGreatDoorMg07
import Derived.Test.YtcegofdmdemcbaaGreatDoorMg00
import Derived.Test.YtcegofdmdemcbaaGreatDoorMg05
namespace Go.Proofs.YtcegofdmdemcbaaGreatDoor
open Go.RowKit

theorem settings_eq9 (t : WV) (b0 d1 d2 d3 d4 d5 d6 d7 d8 : Bool) (h0 : lWithin t.now 0 100000 = b0) (h1 : decide (t.span < 1) = d1) (h2 : decide (1000 < t.span) = d2) (h3 : decide (t.kind < 1) = d3) (h4 : decide (3 < t.kind) = d4) (h5 : decide (t.limit < 0) = d5) (h6 : decide (1001 < t.limit) = d6) (h7 : decide (t.next < 1) = d7) (h8 : decide (100 < t.next) = d8) :
    settingsOk t = (b0 && !d1 && !d2 && !d3 && !d4 && !d5 && !d6 && !d7 && !d8) := by
  subst h0 h1 h2 h3 h4 h5 h6 h7 h8
  rw [Bool.eq_iff_iff]
  simp only [settingsOk, Bool.and_eq_true, lWithin_iff, Bool.not_eq_true', decide_eq_false_iff_not]
  omega
theorem worldOk_parts (t : WV) (f1 f2 f3 g1 g2 : Bool) (h1 : ((t.epochs.length : Int) != 4) = f1) (h2 : decide (40 < (t.msgs.length : Int)) = f2) (h3 : decide (t.lease.m < t.seen) = f3) (k1 : decide (20 < (t.wants.length : Int)) = g1) (k2 : decide (20 < (t.ends.length : Int)) = g2) :
    worldOk t = (settingsOk t && leaseOk t.lease && poolsOk t.pools && clusterOk t.clu && provOk t.seen t.insts && !f1 && !f2 && !f3 &&
      t.epochs.all (fun e => lWithin e 0 t.lease.m) && t.msgs.all (fun m => msgIn t m && decide (m.i < t.next)) && !g1 && !g2 && idsIn t.next (t.wants.map BV.task) && idsIn t.next t.ends &&
      t.wants.all (fun v => hasPool t.pools v.node && !hasNode t.clu v.task) && t.ends.all (fun z => hasNode t.clu z) &&
      lastLt t.next (t.clu.nodes.map NV.id) && lastLt t.next (t.insts.map RV.c)) := by
  subst h1 h2 h3 k1 k2
  rw [← worldOk_model]
  unfold worldOkS
  have e1 : decide (t.epochs.length = 4) = !((t.epochs.length : Int) != 4) := by rw [Bool.eq_iff_iff]; simp; omega
  have e2 : decide (t.msgs.length ≤ 40) = !decide (40 < (t.msgs.length : Int)) := by rw [Bool.eq_iff_iff]; simp; omega
  have e3 : decide (t.wants.length ≤ 20) = !decide (20 < (t.wants.length : Int)) := by rw [Bool.eq_iff_iff]; simp; omega
  have e4 : decide (t.ends.length ≤ 20) = !decide (20 < (t.ends.length : Int)) := by rw [Bool.eq_iff_iff]; simp; omega
  rw [e1, e2, e3, e4]
theorem epIn_eq (r m : Int) (c1 c2 : Bool) (h1 : decide (r < 0) = c1) (h2 : decide (m < r) = c2) : lWithin r 0 m = (!c1 && !c2) := by
  subst h1 h2; rw [Bool.eq_iff_iff]; simp only [lWithin_iff, Bool.and_eq_true, Bool.not_eq_true', decide_eq_false_iff_not]; omega
theorem msgIn_eq3 (t : WV) (m : MV) (b c2 c3 : Bool) (h0 : msgOk m = b) (h1 : decide (t.lease.m < m.e) = c2) (h2 : decide (t.next ≤ m.i) = c3) : (msgIn t m && decide (m.i < t.next)) = (b && !c2 && !c3) := by
  subst h0 h1 h2
  unfold msgIn
  congr 1
  rw [Bool.eq_iff_iff]; simp
theorem node_geq (c : CV) (z : Int) : decide (0 ≤ idxBy NV.id c.nodes z) = hasNode c z := by
  unfold hasNode
  cases h : fstBy NV.id c.nodes z with
  | none => rw [idxBy_none h]; rfl
  | some x => obtain ⟨j, e, _⟩ := idxBy_some h; rw [e]; simp
theorem node_lss (c : CV) (z : Int) : decide (idxBy NV.id c.nodes z < 0) = !hasNode c z := by
  rw [← node_geq, Bool.eq_iff_iff]; simp
theorem lastLt_nil (n : Int) {l : List Int} (h : l.length = 0) : lastLt n l = true := by
  obtain rfl := List.eq_nil_of_length_eq_zero h; rfl
theorem lastLt_at (n : Int) {l : List Int} {m : Nat} {z : Int} (h : l.length = m + 1) (hz : l[m]? = some z) : lastLt n l = decide (z < n) := by
  unfold lastLt
  rw [List.getLast?_eq_getElem?, h, Nat.add_sub_cancel, hz]
set_option maxHeartbeats 12800000 in
set_option maxRecDepth 20000 in
theorem sWorldOk_any (t : WV) (s : WS) (w : World) (hw : WldR w t s) : Calls Tryz.prog 17 #[.agg #[.int .i64 t.now, .int .i64 t.span, .int .i64 t.kind, .int .i64 t.limit, .int .i64 t.next, .int .i64 t.lease.c, .int .i64 t.lease.m, .int .i64 t.lease.p, s.ep, s.po, s.ta, s.no, s.bi, s.wa, s.en, .int .i64 t.seen, s.ins, s.ms]] w fun e w' => e = .returned (.bool (worldOk t)) ∧ Below w.heap.size w w' := by
  obtain ⟨A0, A1, A2, A3, A4, A5, A6, A7, A8, c0, c1, c2, c3, c4, c5, c6, c7, c8, rfl⟩ := hw.form
  have HW := Lib.hid hw
  have l0 := hw.small.1
  have l1 := hw.small.2.1
  have l2 := hw.small.2.2.1
  have l3 := hw.small.2.2.2.1
  have l4 := hw.small.2.2.2.2.1
  have l5 := hw.small.2.2.2.2.2
  have l6 := hw.clu.2.2.2.2.1
  have h0 := fun w => l06Time_any t.now w
  have h1 := fun w => sLeaseOk_any t.lease w
  have h2 := fun v w hv => sPoolsOk_any v t.pools w hv hw.small.2.1
  have h3 := fun a0 a1 a2 w hc => sClusterOk_any t.clu a0 a1 a2 w hc
  have h4 := fun v w hv => sProvOk_any t.seen v t.insts w hv
  have h5 := fun v w hv => l08WantIds_any v t.wants w hv hw.small.2.2.1
  have h6 := fun v w hv => l08Ids_any v (t.wants.map BV.task) t.next w hv (by rw [List.length_map]; exact hw.small.2.2.1)
  have h7 := fun v w hv => l08Ids_any v t.ends t.next w hv hw.small.2.2.2.1
  have hE := worldOk_parts t
  have hS := settings_eq9 t
  generalize worldOk t = ok at *
  generalize settingsOk t = bs at *
  generalize e0 : lWithin t.now 0 100000 = b0 at *
  generalize e1 : decide (t.span < 1) = d1 at *
  generalize e2 : decide (1000 < t.span) = d2 at *
  generalize e3 : decide (t.kind < 1) = d3 at *
  generalize e4 : decide (3 < t.kind) = d4 at *
  generalize e5 : decide (t.limit < 0) = d5 at *
  generalize e6 : decide (1001 < t.limit) = d6 at *
  generalize e7 : decide (t.next < 1) = d7 at *
  generalize e8 : decide (100 < t.next) = d8 at *
  have hS := hS _ _ _ _ _ _ _ _ _ rfl rfl rfl rfl rfl rfl rfl rfl rfl
  generalize leaseOk t.lease = b1 at *
  generalize poolsOk t.pools = b2 at *
  generalize clusterOk t.clu = b3 at *
  generalize provOk t.seen t.insts = b4 at *
  generalize f1h : ((t.epochs.length : Int) != 4) = f1 at *
  generalize f2h : decide (40 < (t.msgs.length : Int)) = f2 at *
  generalize f3h : decide (t.lease.m < t.seen) = f3 at *
  generalize g1h : decide (20 < (t.wants.length : Int)) = g1 at *
  generalize g2h : decide (20 < (t.ends.length : Int)) = g2 at *
  have hE := hE _ _ _ _ _ rfl rfl rfl rfl rfl
  generalize idsIn t.next (t.wants.map BV.task) = bw at *
  generalize idsIn t.next t.ends = be at *
  rw [hS] at hE
  have HE := Lib.hid hE
  have H0 := Lib.hid h0
  have H1 := Lib.hid h1
  have H2 := Lib.hid h2
  have H3 := Lib.hid h3
  have H4 := Lib.hid h4
  have H5 := Lib.hid h5
  have H6 := Lib.hid h6
  have H7 := Lib.hid h7
  clear h0 h1 h2 h3 h4 h5 h6 h7 hE hS hw e0
  go_enter Tryz.func17, Tryz.ntmps17
  have HB := Lib.hid (BlockIs.new w 39 #[.int .i64 t.now, .int .i64 t.span, .int .i64 t.kind, .int .i64 t.limit, .int .i64 t.next, .int .i64 t.lease.c, .int .i64 t.lease.m, .int .i64 t.lease.p, .slice A0 t.epochs.length c0, .slice A1 t.pools.length c1, .slice A2 t.clu.tasks.length c2, .slice A3 t.clu.nodes.length c3, .slice A4 t.clu.binds.length c4, .slice A5 t.wants.length c5, .slice A6 t.ends.length c6, .int .i64 t.seen, .slice A7 t.insts.length c7, .slice A8 t.msgs.length c8])
  have hX : Below w.heap.size w (w.alloc (.cells #[.int .i64 t.now, .int .i64 t.span, .int .i64 t.kind, .int .i64 t.limit, .int .i64 t.next, .int .i64 t.lease.c, .int .i64 t.lease.m, .int .i64 t.lease.p, .slice A0 t.epochs.length c0, .slice A1 t.pools.length c1, .slice A2 t.clu.tasks.length c2, .slice A3 t.clu.nodes.length c3, .slice A4 t.clu.binds.length c4, .slice A5 t.wants.length c5, .slice A6 t.ends.length c6, .int .i64 t.seen, .slice A7 t.insts.length c7, .slice A8 t.msgs.length c8] 39)) := (by repeat' (first | exact Below.refl _ _ | refine Below.alloc ?_ ?_ _ | refine Below.setCell ?_ ?_ _ | refine Below.drew ?_ | (apply below_step; assumption) | (simp; done) | (simp; omega) | omega))
  go_wp2_with fail
  refine (H0.out _).mono ?_
  rintro e wz ⟨rfl, rfl⟩
  cases b0
  · go_wp2_with fail
    go_ret
    exact ⟨by rw [HE.out]; simp, (by repeat' (first | exact Below.refl _ _ | refine Below.alloc ?_ ?_ _ | refine Below.setCell ?_ ?_ _ | refine Below.drew ?_ | (apply below_step; assumption) | (simp; done) | (simp; omega) | omega))⟩
  cases d1
  rotate_left
  · go_wp2_with fail
    go_ret
    exact ⟨by rw [HE.out]; simp, (by repeat' (first | exact Below.refl _ _ | refine Below.alloc ?_ ?_ _ | refine Below.setCell ?_ ?_ _ | refine Below.drew ?_ | (apply below_step; assumption) | (simp; done) | (simp; omega) | omega))⟩
  cases d2
  rotate_left
  · go_wp2_with fail
    go_ret
    exact ⟨by rw [HE.out]; simp, (by repeat' (first | exact Below.refl _ _ | refine Below.alloc ?_ ?_ _ | refine Below.setCell ?_ ?_ _ | refine Below.drew ?_ | (apply below_step; assumption) | (simp; done) | (simp; omega) | omega))⟩
  cases d3
  rotate_left
  · go_wp2_with fail
    go_ret
    exact ⟨by rw [HE.out]; simp, (by repeat' (first | exact Below.refl _ _ | refine Below.alloc ?_ ?_ _ | refine Below.setCell ?_ ?_ _ | refine Below.drew ?_ | (apply below_step; assumption) | (simp; done) | (simp; omega) | omega))⟩
  cases d4
  rotate_left
  · go_wp2_with fail
    go_ret
    exact ⟨by rw [HE.out]; simp, (by repeat' (first | exact Below.refl _ _ | refine Below.alloc ?_ ?_ _ | refine Below.setCell ?_ ?_ _ | refine Below.drew ?_ | (apply below_step; assumption) | (simp; done) | (simp; omega) | omega))⟩
  cases d5
  rotate_left
  · go_wp2_with fail
    go_ret
    exact ⟨by rw [HE.out]; simp, (by repeat' (first | exact Below.refl _ _ | refine Below.alloc ?_ ?_ _ | refine Below.setCell ?_ ?_ _ | refine Below.drew ?_ | (apply below_step; assumption) | (simp; done) | (simp; omega) | omega))⟩
  cases d6
  rotate_left
  · go_wp2_with fail
    go_ret
    exact ⟨by rw [HE.out]; simp, (by repeat' (first | exact Below.refl _ _ | refine Below.alloc ?_ ?_ _ | refine Below.setCell ?_ ?_ _ | refine Below.drew ?_ | (apply below_step; assumption) | (simp; done) | (simp; omega) | omega))⟩
  cases d7
  rotate_left
  · go_wp2_with fail
    go_ret
    exact ⟨by rw [HE.out]; simp, (by repeat' (first | exact Below.refl _ _ | refine Below.alloc ?_ ?_ _ | refine Below.setCell ?_ ?_ _ | refine Below.drew ?_ | (apply below_step; assumption) | (simp; done) | (simp; omega) | omega))⟩
  cases d8
  rotate_left
  · go_wp2_with fail
    go_ret
    exact ⟨by rw [HE.out]; simp, (by repeat' (first | exact Below.refl _ _ | refine Below.alloc ?_ ?_ _ | refine Below.setCell ?_ ?_ _ | refine Below.drew ?_ | (apply below_step; assumption) | (simp; done) | (simp; omega) | omega))⟩
  go_wp2_with fail
  refine (H1.out _).mono ?_
  rintro e w1 ⟨rfl, hb1⟩
  have hC1 := below_of hX hb1
  have B := HB.out.below hb1 HB.out.lt
  have x9 := B.cell 9
  simp at x9
  have HB := Lib.hid B
  clear B hb1 hX
  cases b1
  · go_wp2_with fail
    go_ret
    exact ⟨by rw [HE.out]; simp, hC1⟩
  go_wp2_with fail
  refine (H2.out _ _ (HW.out.below hC1).po).mono ?_
  rintro e w2 ⟨rfl, hb2⟩
  have hC2 := below_of hC1 hb2
  have B := HB.out.below hb2 HB.out.lt
  have x10 := B.cell 10
  have x11 := B.cell 11
  have x12 := B.cell 12
  simp at x10 x11 x12
  have HB := Lib.hid B
  clear B hb2 hC1
  cases b2
  · go_wp2_with fail
    go_ret
    exact ⟨by rw [HE.out]; simp, hC2⟩
  go_wp2_with fail
  refine (H3.out _ _ _ _ (HW.out.below hC2).clu).mono ?_
  rintro e w3 ⟨rfl, hb3⟩
  have hC3 := below_of hC2 hb3
  have B := HB.out.below hb3 HB.out.lt
  have x15 := B.cell 15
  have x16 := B.cell 16
  simp at x15 x16
  have HB := Lib.hid B
  clear B hb3 hC2
  cases b3
  · go_wp2_with fail
    go_ret
    exact ⟨by rw [HE.out]; simp, hC3⟩
  go_wp2_with fail
  refine (H4.out _ _ (HW.out.below hC3).ins).mono ?_
  rintro e w4 ⟨rfl, hb4⟩
  have hC4 := below_of hC3 hb4
  have B := HB.out.below hb4 HB.out.lt
  have x8 := B.cell 8
  have x17 := B.cell 17
  have x15 := B.cell 15
  have x6 := B.cell 6
  simp at x8 x17 x15 x6
  have HB := Lib.hid B
  clear B hb4 hC3
  cases b4
  · go_wp2_with fail
    go_ret
    exact ⟨by rw [HE.out]; simp, hC4⟩
  cases f1
  rotate_left
  · go_wp2_with fail
    go_ret
    exact ⟨by rw [HE.out]; simp, hC4⟩
  cases f2
  rotate_left
  · go_wp2_with fail
    go_ret
    exact ⟨by rw [HE.out]; simp, hC4⟩
  cases f3
  rotate_left
  · go_wp2_with fail
    go_ret
    exact ⟨by rw [HE.out]; simp, hC4⟩
  go_wp2_with fail
  clear x8 x17 x15 x6
  go_loopw [3] (fun s3 wr => ∃ k : Nat, k ≤ t.epochs.length ∧ s3 = .int .i64 k ∧ t.epochs.all (fun e => lWithin e 0 t.lease.m) = (t.epochs.drop k).all (fun e => lWithin e 0 t.lease.m) ∧ BlockIs wr w.heap.size 39 #[.int .i64 t.now, .int .i64 t.span, .int .i64 t.kind, .int .i64 t.limit, .int .i64 t.next, .int .i64 t.lease.c, .int .i64 t.lease.m, .int .i64 t.lease.p, .slice A0 t.epochs.length c0, .slice A1 t.pools.length c1, .slice A2 t.clu.tasks.length c2, .slice A3 t.clu.nodes.length c3, .slice A4 t.clu.binds.length c4, .slice A5 t.wants.length c5, .slice A6 t.ends.length c6, .int .i64 t.seen, .slice A7 t.insts.length c7, .slice A8 t.msgs.length c8] ∧ Below w.heap.size w wr) (fun s3 _ => (t.epochs.length - RowKit.intOf s3).toNat)
  case atStart => exact ⟨0, by omega, rfl, by rw [List.drop_zero], HB.out, hC4⟩
  case round =>
    clear HB hC4
    obtain ⟨k, hk, rfl, hall, hblk, hB⟩ := hrel
    have HBK := Lib.hid hblk
    have hzr := hB.size
    have x8 := hblk.cell 8
    have x6 := hblk.cell 6
    simp at x8 x6
    clear hblk
    by_cases hlt : k < t.epochs.length
    · skip
      obtain ⟨A, c, e0, hA⟩ := (HW.out.ep).form
      obtain ⟨b, off, rfl, hbw, hat⟩ := hA (by omega)
      simp only [Value.slice.injEq] at e0
      obtain ⟨rfl, -, rfl⟩ := e0
      obtain ⟨r, hr⟩ : ∃ r, t.epochs[k]? = some r := ⟨_, List.getElem?_eq_getElem hlt⟩
      have hki : (k : Int) < (t.epochs.length : Int) := by omega
      have hk0 : (0 : Int) ≤ (k : Int) := by omega
      have q0 := (hat.below hB hbw) k r hr
      generalize e1 : decide (r < 0) = cq1
      generalize e2 : decide (t.lease.m < r) = cq2
      have HST := Lib.hid ((all_step hall hr).trans (by rw [epIn_eq r _ _ _ e1 e2]))
      clear hat hr hall hA
      cases cq1
      rotate_left
      · go_wp2_with fail
        go_quiet (fail)
        go_wp2_with fail
        go_ret
        exact ⟨by rw [HE.out, HST.out]; simp, (by repeat' (first | exact Below.refl _ _ | refine Below.alloc ?_ ?_ _ | refine Below.setCell ?_ ?_ _ | refine Below.drew ?_ | refine below_drewN ?_ _ | (apply below_step; assumption) | (simp; done) | (simp; omega) | omega))⟩
      cases cq2
      rotate_left
      · go_wp2_with fail
        go_quiet (fail)
        go_wp2_with fail
        go_ret
        exact ⟨by rw [HE.out, HST.out]; simp, (by repeat' (first | exact Below.refl _ _ | refine Below.alloc ?_ ?_ _ | refine Below.setCell ?_ ?_ _ | refine Below.drew ?_ | refine below_drewN ?_ _ | (apply below_step; assumption) | (simp; done) | (simp; omega) | omega))⟩
      go_wp2_with fail
      go_quiet (fail)
      go_wp2_with fail
      go_roundw
      case rel => exact ⟨k + 1, by omega, by go_num, by rw [HST.out]; simp, HBK.out, (by repeat' (first | exact Below.refl _ _ | refine Below.alloc ?_ ?_ _ | refine Below.setCell ?_ ?_ _ | refine Below.drew ?_ | refine below_drewN ?_ _ | (apply below_step; assumption) | (simp; done) | (simp; omega) | omega))⟩
      case measure => simp [RowKit.intOf]; omega
    · obtain rfl : k = t.epochs.length := by omega
      have HEp := Lib.hid (hall.trans (by rw [List.drop_length, List.all_nil]))
      clear hall
      go_wp2_with fail
      clear hlt
      go_loopw [4] (fun s4 wr => ∃ k : Nat, k ≤ t.msgs.length ∧ s4 = .int .i64 k ∧ t.msgs.all (fun m => msgIn t m && decide (m.i < t.next)) = (t.msgs.drop k).all (fun m => msgIn t m && decide (m.i < t.next)) ∧ BlockIs wr w.heap.size 39 #[.int .i64 t.now, .int .i64 t.span, .int .i64 t.kind, .int .i64 t.limit, .int .i64 t.next, .int .i64 t.lease.c, .int .i64 t.lease.m, .int .i64 t.lease.p, .slice A0 t.epochs.length c0, .slice A1 t.pools.length c1, .slice A2 t.clu.tasks.length c2, .slice A3 t.clu.nodes.length c3, .slice A4 t.clu.binds.length c4, .slice A5 t.wants.length c5, .slice A6 t.ends.length c6, .int .i64 t.seen, .slice A7 t.insts.length c7, .slice A8 t.msgs.length c8] ∧ Below w.heap.size w wr) (fun s4 _ => (t.msgs.length - RowKit.intOf s4).toNat)
      case atStart => exact ⟨0, by omega, rfl, by rw [List.drop_zero], HBK.out, hB⟩
      case round =>
        clear HBK hB hzr x8 x6
        obtain ⟨k, hk, rfl, hall, hblk, hB⟩ := hrel
        have HBK := Lib.hid hblk
        have hzr := hB.size
        have x17 := hblk.cell 17
        have x4 := hblk.cell 4
        have x6 := hblk.cell 6
        simp at x17 x4 x6
        have gc := hblk.cell
        have gl := hblk.lt
        clear hblk
        by_cases hlt : k < t.msgs.length
        · skip
          obtain ⟨A, c, e0, hA⟩ := (HW.out.ms).form
          obtain ⟨b, off, rfl, hbw, hat⟩ := hA (by omega)
          simp only [Value.slice.injEq] at e0
          obtain ⟨rfl, -, rfl⟩ := e0
          obtain ⟨r, hr⟩ : ∃ r, t.msgs[k]? = some r := ⟨_, List.getElem?_eq_getElem hlt⟩
          have hki : (k : Int) < (t.msgs.length : Int) := by omega
          have hk0 : (0 : Int) ≤ (k : Int) := by omega
          obtain ⟨cs, hR, hC⟩ := (hat.below MsgR.kept hB hbw) k r hr
          obtain rfl := hR
          obtain ⟨q0, q1, q2, q3⟩ := msg_cells hC
          have hbr : b < wr.heap.size := by omega
          have HK := Lib.hid (show ∀ w', Below wr.heap.size wr w' → (fun w' => Below wr.heap.size wr w' ∧ (∀ o, w'.cell? ⟨w.heap.size, o, none⟩ = (#[.int .i64 t.now, .int .i64 t.span, .int .i64 t.kind, .int .i64 t.limit, .int .i64 t.next, .int .i64 t.lease.c, .int .i64 t.lease.m, .int .i64 t.lease.p, .slice A0 t.epochs.length c0, .slice A1 t.pools.length c1, .slice A2 t.clu.tasks.length c2, .slice A3 t.clu.nodes.length c3, .slice A4 t.clu.binds.length c4, .slice A5 t.wants.length c5, .slice A6 t.ends.length c6, .int .i64 t.seen, .slice A7 t.insts.length c7, .slice (some ⟨b, off, none⟩) t.msgs.length c8] : Array Value)[o]?) ∧ w'.cell? ⟨b, off + k * 4, none⟩ = some (.int .i64 r.k) ∧ w'.cell? ⟨b, off + k * 4 + 1, none⟩ = some (.int .i64 r.e) ∧ w'.cell? ⟨b, off + k * 4 + 2, none⟩ = some (.int .i64 r.i) ∧ w'.cell? ⟨b, off + k * 4 + 3, none⟩ = some (.int .i64 r.p)) w' from fun w' hb => ⟨hb, fun o => (hb.cell (p := ⟨_, _, none⟩) gl).trans (gc o), (hb.cell (p := ⟨_, _, none⟩) hbr).trans q0, (hb.cell (p := ⟨_, _, none⟩) hbr).trans q1, (hb.cell (p := ⟨_, _, none⟩) hbr).trans q2, (hb.cell (p := ⟨_, _, none⟩) hbr).trans q3⟩)
          have hmo := fun w => sMsgOk_any r w
          have hst := msgIn_eq3 t r
          generalize msgOk r = bm at *
          generalize e1 : decide (t.lease.m < r.e) = cq2 at *
          generalize e2 : decide (t.next ≤ r.i) = cq3 at *
          have HST := Lib.hid ((all_step hall hr).trans (by rw [hst _ _ _ rfl rfl rfl]))
          have HMO := Lib.hid hmo
          clear hat hr hall hA hC hmo hst
          cases bm
          · go_wp2_with fail
            refine wp_region_held_drew (S := (fun w' => Below wr.heap.size wr w' ∧ (∀ o, w'.cell? ⟨w.heap.size, o, none⟩ = (#[.int .i64 t.now, .int .i64 t.span, .int .i64 t.kind, .int .i64 t.limit, .int .i64 t.next, .int .i64 t.lease.c, .int .i64 t.lease.m, .int .i64 t.lease.p, .slice A0 t.epochs.length c0, .slice A1 t.pools.length c1, .slice A2 t.clu.tasks.length c2, .slice A3 t.clu.nodes.length c3, .slice A4 t.clu.binds.length c4, .slice A5 t.wants.length c5, .slice A6 t.ends.length c6, .int .i64 t.seen, .slice A7 t.insts.length c7, .slice (some ⟨b, off, none⟩) t.msgs.length c8] : Array Value)[o]?) ∧ w'.cell? ⟨b, off + k * 4, none⟩ = some (.int .i64 r.k) ∧ w'.cell? ⟨b, off + k * 4 + 1, none⟩ = some (.int .i64 r.e) ∧ w'.cell? ⟨b, off + k * 4 + 2, none⟩ = some (.int .i64 r.i) ∧ w'.cell? ⟨b, off + k * 4 + 3, none⟩ = some (.int .i64 r.p))) (by kernel_rfl) (by (try dsimp only); exact HK.out _ (by repeat' (first | exact Below.refl _ _ | refine Below.alloc ?_ ?_ _ | refine Below.setCell ?_ ?_ _ | refine Below.drew ?_ | (apply below_step; assumption) | (simp; done) | (simp; omega) | omega))) (fun hHeld => ?_)
            refine hT 0 ?a2 ?f2 ?g2 ?b2 ?c2 ?d2 ?e2 ?h2 ?_;(case b2=>simp only [rhN];try rfl);(case c2=>(try dsimp only);rfl);(case e2=>rfl);(case d2=>exact hq);(case h2=>intro w hSw;(try dsimp only at hSw);go_simp <;> with_reducible rfl);simp only [Act.put,rhA,rhS,rhT];refine hT 1 ?a3 ?f3 ?g3 ?b3 ?c3 ?d3 ?e3 ?h3 ?_;(case b3=>simp only [rhN,rhM];try rfl);(case c3=>(try dsimp only);rfl);(case e3=>rfl);(case d3=>exact hq);(case h3=>intro w hSw;(try dsimp only at hSw);go_simp <;> with_reducible rfl);simp only [Act.put,rhA,rhS,rhT];refine hT 2 ?a4 ?f4 ?g4 ?b4 ?c4 ?d4 ?e4 ?h4 ?_;(case b4=>simp only [rhN,rhM];try rfl);(case c4=>(try dsimp only);rfl);(case e4=>rfl);(case d4=>exact hq);(case h4=>intro w hSw;(try dsimp only at hSw);go_simp <;> with_reducible rfl);simp only [Act.put,rhA,rhS,rhT];refine hT 3 ?a5 ?f5 ?g5 ?b5 ?c5 ?d5 ?e5 ?h5 ?_;(case b5=>simp only [rhN,rhM];try rfl);(case c5=>(try dsimp only);rfl);(case e5=>rfl);(case d5=>exact hq);(case h5=>intro w hSw;(try dsimp only at hSw);go_simp <;> with_reducible rfl);simp only [Act.put,rhA,rhS,rhT];refine hT 4 ?a6 ?f6 ?g6 ?b6 ?c6 ?d6 ?e6 ?h6 ?_;(case b6=>simp only [rhN,rhM];try rfl);(case c6=>(try dsimp only);rfl);(case e6=>rfl);(case d6=>exact hq);(case h6=>intro w hSw;(try dsimp only at hSw);go_simp <;> with_reducible rfl);simp only [Act.put,rhA,rhS,rhT]
            refine hCall (i := 5) (o := ?a7) ?b7 (by kernel_rfl) ?c7 (fun K hK => ?d7)
            case b7 => simp only [rhN, rhM]; try rfl
            case c7 => rfl
            go_simp
            refine (HMO.out _).mono ?_
            rintro e w3 ⟨rfl, hb3⟩
            have hz3 := hb3.size
            (try simp at hz3)
            go_wp2_with fail
            refine hK.out _ _ (by (try dsimp only); exact HK.out _ (by repeat' (first | exact Below.refl _ _ | refine Below.alloc ?_ ?_ _ | refine Below.setCell ?_ ?_ _ | refine Below.drew ?_ | (apply below_step; assumption) | (simp; done) | (simp; omega) | omega))) (fun hHeld => ?_)
            clear hK K
            try simp only [Act.put, rhA, rhS, rhT]
            refine hT 6 ?a9 ?f9 ?g9 ?b9 ?c9 ?d9 ?e9 ?h9 ?_;(case b9=>simp only [rhN,rhM];try rfl);(case c9=>(try dsimp only);rfl);(case e9=>rfl);(case d9=>exact hq);(case h9=>intro w hSw;(try dsimp only at hSw);go_simp <;> with_reducible rfl);simp only [Act.put,rhA,rhS,rhT];refine hT 7 ?a11 ?f11 ?g11 ?b11 ?c11 ?d11 ?e11 ?h11 ?_;(case b11=>simp only [rhN,rhM];try rfl);(case c11=>(try dsimp only);rfl);(case e11=>rfl);(case d11=>exact hq);(case h11=>intro w hSw;(try dsimp only at hSw);go_simp <;> with_reducible rfl);simp only [Act.put,rhA,rhS,rhT];refine hP 8 ?a13 ?g13 ?b13 ?c13 ?d13 ?e13 ?_;(case b13=>simp only [rhN,rhM];try rfl);(case c13=>(try dsimp only);rfl);(case e13=>rfl);(case d13=>exact hq);simp only [Act.put,rhA,rhS,rhT];refine hP 9 ?a14 ?g14 ?b14 ?c14 ?d14 ?e14 ?_;(case b14=>simp only [rhN,rhM];try rfl);(case c14=>(try dsimp only);rfl);(case e14=>rfl);(case d14=>exact hq);simp only [Act.put,rhA,rhS,rhT];refine hP 10 ?a15 ?g15 ?b15 ?c15 ?d15 ?e15 ?_;(case b15=>simp only [rhN,rhM];try rfl);(case c15=>(try dsimp only);rfl);(case e15=>rfl);(case d15=>exact hq);simp only [Act.put,rhA,rhS,rhT];refine hP 11 ?a16 ?g16 ?b16 ?c16 ?d16 ?e16 ?_;(case b16=>simp only [rhN,rhM];try rfl);(case c16=>(try dsimp only);rfl);(case e16=>rfl);(case d16=>exact hq);simp only [Act.put,rhA,rhS,rhT];refine hP 12 ?a17 ?g17 ?b17 ?c17 ?d17 ?e17 ?_;(case b17=>simp only [rhN,rhM];try rfl);(case c17=>(try dsimp only);rfl);(case e17=>rfl);(case d17=>exact hq);simp only [Act.put,rhA,rhS,rhT];refine hP 13 ?a18 ?g18 ?b18 ?c18 ?d18 ?e18 ?_;(case b18=>simp only [rhN,rhM];try rfl);(case c18=>(try dsimp only);rfl);(case e18=>rfl);(case d18=>exact hq);simp only [Act.put,rhA,rhS,rhT];refine hP 14 ?a19 ?g19 ?b19 ?c19 ?d19 ?e19 ?_;(case b19=>simp only [rhN,rhM];try rfl);(case c19=>(try dsimp only);rfl);(case e19=>rfl);(case d19=>exact hq);simp only [Act.put,rhA,rhS,rhT];refine hP 15 ?a20 ?g20 ?b20 ?c20 ?d20 ?e20 ?_;(case b20=>simp only [rhN,rhM];try rfl);(case c20=>(try dsimp only);rfl);(case e20=>rfl);(case d20=>exact hq);simp only [Act.put,rhA,rhS,rhT];refine hP 16 ?a21 ?g21 ?b21 ?c21 ?d21 ?e21 ?_;(case b21=>simp only [rhN,rhM];try rfl);(case c21=>(try dsimp only);rfl);(case e21=>rfl);(case d21=>exact hq);simp only [Act.put,rhA,rhS,rhT];refine hP 17 ?a22 ?g22 ?b22 ?c22 ?d22 ?e22 ?_;(case b22=>simp only [rhN,rhM];try rfl);(case c22=>(try dsimp only);rfl);(case e22=>rfl);(case d22=>exact hq);simp only [Act.put,rhA,rhS,rhT];refine hT 18 ?a24 ?f24 ?g24 ?b24 ?c24 ?d24 ?e24 ?h24 ?_;(case b24=>simp only [rhN,rhM];try rfl);(case c24=>(try dsimp only);rfl);(case e24=>rfl);(case d24=>exact hq);(case h24=>intro w hSw;(try dsimp only at hSw);go_simp <;> with_reducible rfl);simp only [Act.put,rhA,rhS,rhT];refine hT 19 ?a26 ?f26 ?g26 ?b26 ?c26 ?d26 ?e26 ?h26 ?_;(case b26=>simp only [rhN,rhM];try rfl);(case c26=>(try dsimp only);rfl);(case e26=>rfl);(case d26=>exact hq);(case h26=>intro w hSw;(try dsimp only at hSw);go_simp <;> with_reducible rfl);simp only [Act.put,rhA,rhS,rhT];refine hP 20 ?a28 ?g28 ?b28 ?c28 ?d28 ?e28 ?_;(case b28=>simp only [rhN,rhM];try rfl);(case c28=>(try dsimp only);rfl);(case e28=>rfl);(case d28=>exact hq);simp only [Act.put,rhA,rhS,rhT];refine hP 21 ?a29 ?g29 ?b29 ?c29 ?d29 ?e29 ?_;(case b29=>simp only [rhN,rhM];try rfl);(case c29=>(try dsimp only);rfl);(case e29=>rfl);(case d29=>exact hq);simp only [Act.put,rhA,rhS,rhT];refine hP 22 ?a30 ?g30 ?b30 ?c30 ?d30 ?e30 ?_;(case b30=>simp only [rhN,rhM];try rfl);(case c30=>(try dsimp only);rfl);(case e30=>rfl);(case d30=>exact hq);simp only [Act.put,rhA,rhS,rhT];refine hP 23 ?a31 ?g31 ?b31 ?c31 ?d31 ?e31 ?_;(case b31=>simp only [rhN,rhM];try rfl);(case c31=>(try dsimp only);rfl);(case e31=>rfl);(case d31=>exact hq);simp only [Act.put,rhA,rhS,rhT];refine hP 24 ?a32 ?g32 ?b32 ?c32 ?d32 ?e32 ?_;(case b32=>simp only [rhN,rhM];try rfl);(case c32=>(try dsimp only);rfl);(case e32=>rfl);(case d32=>exact hq);simp only [Act.put,rhA,rhS,rhT];refine hP 25 ?a33 ?g33 ?b33 ?c33 ?d33 ?e33 ?_;(case b33=>simp only [rhN,rhM];try rfl);(case c33=>(try dsimp only);rfl);(case e33=>rfl);(case d33=>exact hq);simp only [Act.put,rhA,rhS,rhT];refine hP 26 ?a34 ?g34 ?b34 ?c34 ?d34 ?e34 ?_;(case b34=>simp only [rhN,rhM];try rfl);(case c34=>(try dsimp only);rfl);(case e34=>rfl);(case d34=>exact hq);simp only [Act.put,rhA,rhS,rhT];refine hP 27 ?a35 ?g35 ?b35 ?c35 ?d35 ?e35 ?_;(case b35=>simp only [rhN,rhM];try rfl);(case c35=>(try dsimp only);rfl);(case e35=>rfl);(case d35=>exact hq);simp only [Act.put,rhA,rhS,rhT];refine hP 28 ?a36 ?g36 ?b36 ?c36 ?d36 ?e36 ?_;(case b36=>simp only [rhN,rhM];try rfl);(case c36=>(try dsimp only);rfl);(case e36=>rfl);(case d36=>exact hq);simp only [Act.put,rhA,rhS,rhT];refine hT 29 ?a38 ?f38 ?g38 ?b38 ?c38 ?d38 ?e38 ?h38 ?_;(case b38=>simp only [rhN,rhM];try rfl);(case c38=>(try dsimp only);rfl);(case e38=>rfl);(case d38=>exact hq);(case h38=>intro w hSw;(try dsimp only at hSw);go_simp <;> with_reducible rfl);simp only [Act.put,rhA,rhS,rhT]
            refine wpAnyH_done (by kernel_rfl) ?_ _
            go_wp2_with fail
            go_ret
            exact ⟨by rw [HE.out, HEp.out, HST.out]; simp, below_of hB (by repeat' (first | exact Below.refl _ _ | refine Below.alloc ?_ ?_ _ | refine Below.setCell ?_ ?_ _ | refine Below.drew ?_ | (apply below_step; assumption) | (simp; done) | (simp; omega) | omega))⟩
          cases cq2
          rotate_left
          · go_wp2_with fail
            refine wp_region_held_drew (S := (fun w' => Below wr.heap.size wr w' ∧ (∀ o, w'.cell? ⟨w.heap.size, o, none⟩ = (#[.int .i64 t.now, .int .i64 t.span, .int .i64 t.kind, .int .i64 t.limit, .int .i64 t.next, .int .i64 t.lease.c, .int .i64 t.lease.m, .int .i64 t.lease.p, .slice A0 t.epochs.length c0, .slice A1 t.pools.length c1, .slice A2 t.clu.tasks.length c2, .slice A3 t.clu.nodes.length c3, .slice A4 t.clu.binds.length c4, .slice A5 t.wants.length c5, .slice A6 t.ends.length c6, .int .i64 t.seen, .slice A7 t.insts.length c7, .slice (some ⟨b, off, none⟩) t.msgs.length c8] : Array Value)[o]?) ∧ w'.cell? ⟨b, off + k * 4, none⟩ = some (.int .i64 r.k) ∧ w'.cell? ⟨b, off + k * 4 + 1, none⟩ = some (.int .i64 r.e) ∧ w'.cell? ⟨b, off + k * 4 + 2, none⟩ = some (.int .i64 r.i) ∧ w'.cell? ⟨b, off + k * 4 + 3, none⟩ = some (.int .i64 r.p))) (by kernel_rfl) (by (try dsimp only); exact HK.out _ (by repeat' (first | exact Below.refl _ _ | refine Below.alloc ?_ ?_ _ | refine Below.setCell ?_ ?_ _ | refine Below.drew ?_ | (apply below_step; assumption) | (simp; done) | (simp; omega) | omega))) (fun hHeld => ?_)
            refine hT 0 ?a40 ?f40 ?g40 ?b40 ?c40 ?d40 ?e40 ?h40 ?_;(case b40=>simp only [rhN];try rfl);(case c40=>(try dsimp only);rfl);(case e40=>rfl);(case d40=>exact hq);(case h40=>intro w hSw;(try dsimp only at hSw);go_simp <;> with_reducible rfl);simp only [Act.put,rhA,rhS,rhT];refine hT 1 ?a41 ?f41 ?g41 ?b41 ?c41 ?d41 ?e41 ?h41 ?_;(case b41=>simp only [rhN,rhM];try rfl);(case c41=>(try dsimp only);rfl);(case e41=>rfl);(case d41=>exact hq);(case h41=>intro w hSw;(try dsimp only at hSw);go_simp <;> with_reducible rfl);simp only [Act.put,rhA,rhS,rhT];refine hT 2 ?a42 ?f42 ?g42 ?b42 ?c42 ?d42 ?e42 ?h42 ?_;(case b42=>simp only [rhN,rhM];try rfl);(case c42=>(try dsimp only);rfl);(case e42=>rfl);(case d42=>exact hq);(case h42=>intro w hSw;(try dsimp only at hSw);go_simp <;> with_reducible rfl);simp only [Act.put,rhA,rhS,rhT];refine hT 3 ?a43 ?f43 ?g43 ?b43 ?c43 ?d43 ?e43 ?h43 ?_;(case b43=>simp only [rhN,rhM];try rfl);(case c43=>(try dsimp only);rfl);(case e43=>rfl);(case d43=>exact hq);(case h43=>intro w hSw;(try dsimp only at hSw);go_simp <;> with_reducible rfl);simp only [Act.put,rhA,rhS,rhT];refine hT 4 ?a44 ?f44 ?g44 ?b44 ?c44 ?d44 ?e44 ?h44 ?_;(case b44=>simp only [rhN,rhM];try rfl);(case c44=>(try dsimp only);rfl);(case e44=>rfl);(case d44=>exact hq);(case h44=>intro w hSw;(try dsimp only at hSw);go_simp <;> with_reducible rfl);simp only [Act.put,rhA,rhS,rhT]
            refine hCall (i := 5) (o := ?a45) ?b45 (by kernel_rfl) ?c45 (fun K hK => ?d45)
            case b45 => simp only [rhN, rhM]; try rfl
            case c45 => rfl
            go_simp
            refine (HMO.out _).mono ?_
            rintro e w3 ⟨rfl, hb3⟩
            have hz3 := hb3.size
            (try simp at hz3)
            go_wp2_with fail
            refine hK.out _ _ (by (try dsimp only); exact HK.out _ (by repeat' (first | exact Below.refl _ _ | refine Below.alloc ?_ ?_ _ | refine Below.setCell ?_ ?_ _ | refine Below.drew ?_ | (apply below_step; assumption) | (simp; done) | (simp; omega) | omega))) (fun hHeld => ?_)
            clear hK K
            try simp only [Act.put, rhA, rhS, rhT]
            refine hT 6 ?a47 ?f47 ?g47 ?b47 ?c47 ?d47 ?e47 ?h47 ?_;(case b47=>simp only [rhN,rhM];try rfl);(case c47=>(try dsimp only);rfl);(case e47=>rfl);(case d47=>exact hq);(case h47=>intro w hSw;(try dsimp only at hSw);go_simp <;> with_reducible rfl);simp only [Act.put,rhA,rhS,rhT];refine hT 7 ?a48 ?f48 ?g48 ?b48 ?c48 ?d48 ?e48 ?h48 ?_;(case b48=>simp only [rhN,rhM];try rfl);(case c48=>(try dsimp only);rfl);(case e48=>rfl);(case d48=>exact hq);(case h48=>intro w hSw;(try dsimp only at hSw);go_simp <;> with_reducible rfl);simp only [Act.put,rhA,rhS,rhT];refine hT 8 ?a49 ?f49 ?g49 ?b49 ?c49 ?d49 ?e49 ?h49 ?_;(case b49=>simp only [rhN,rhM];try rfl);(case c49=>(try dsimp only);rfl);(case e49=>rfl);(case d49=>exact hq);(case h49=>intro w hSw;(try dsimp only at hSw);go_simp <;> with_reducible rfl);simp only [Act.put,rhA,rhS,rhT];refine hT 9 ?a50 ?f50 ?g50 ?b50 ?c50 ?d50 ?e50 ?h50 ?_;(case b50=>simp only [rhN,rhM];try rfl);(case c50=>(try dsimp only);rfl);(case e50=>rfl);(case d50=>exact hq);(case h50=>intro w hSw;(try dsimp only at hSw);go_simp <;> with_reducible rfl);simp only [Act.put,rhA,rhS,rhT];refine hT 10 ?a51 ?f51 ?g51 ?b51 ?c51 ?d51 ?e51 ?h51 ?_;(case b51=>simp only [rhN,rhM];try rfl);(case c51=>(try dsimp only);rfl);(case e51=>rfl);(case d51=>exact hq);(case h51=>intro w hSw;(try dsimp only at hSw);go_simp <;> with_reducible rfl);simp only [Act.put,rhA,rhS,rhT];refine hT 11 ?a52 ?f52 ?g52 ?b52 ?c52 ?d52 ?e52 ?h52 ?_;(case b52=>simp only [rhN,rhM];try rfl);(case c52=>(try dsimp only);rfl);(case e52=>rfl);(case d52=>exact hq);(case h52=>intro w hSw;(try dsimp only at hSw);go_simp <;> with_reducible rfl);simp only [Act.put,rhA,rhS,rhT];refine hT 12 ?a53 ?f53 ?g53 ?b53 ?c53 ?d53 ?e53 ?h53 ?_;(case b53=>simp only [rhN,rhM];try rfl);(case c53=>(try dsimp only);rfl);(case e53=>rfl);(case d53=>exact hq);(case h53=>intro w hSw;(try dsimp only at hSw);go_simp <;> with_reducible rfl);simp only [Act.put,rhA,rhS,rhT];refine hT 13 ?a54 ?f54 ?g54 ?b54 ?c54 ?d54 ?e54 ?h54 ?_;(case b54=>simp only [rhN,rhM];try rfl);(case c54=>(try dsimp only);rfl);(case e54=>rfl);(case d54=>exact hq);(case h54=>intro w hSw;(try dsimp only at hSw);go_simp <;> with_reducible rfl);simp only [Act.put,rhA,rhS,rhT];refine hT 14 ?a55 ?f55 ?g55 ?b55 ?c55 ?d55 ?e55 ?h55 ?_;(case b55=>simp only [rhN,rhM];try rfl);(case c55=>(try dsimp only);rfl);(case e55=>rfl);(case d55=>exact hq);(case h55=>intro w hSw;(try dsimp only at hSw);go_simp <;> with_reducible rfl);simp only [Act.put,rhA,rhS,rhT];refine hT 15 ?a56 ?f56 ?g56 ?b56 ?c56 ?d56 ?e56 ?h56 ?_;(case b56=>simp only [rhN,rhM];try rfl);(case c56=>(try dsimp only);rfl);(case e56=>rfl);(case d56=>exact hq);(case h56=>intro w hSw;(try dsimp only at hSw);go_simp <;> with_reducible rfl);simp only [Act.put,rhA,rhS,rhT];refine hT 16 ?a57 ?f57 ?g57 ?b57 ?c57 ?d57 ?e57 ?h57 ?_;(case b57=>simp only [rhN,rhM];try rfl);(case c57=>(try dsimp only);rfl);(case e57=>rfl);(case d57=>exact hq);(case h57=>intro w hSw;(try dsimp only at hSw);go_simp <;> with_reducible rfl);simp only [Act.put,rhA,rhS,rhT];refine hT 17 ?a58 ?f58 ?g58 ?b58 ?c58 ?d58 ?e58 ?h58 ?_;(case b58=>simp only [rhN,rhM];try rfl);(case c58=>(try dsimp only);rfl);(case e58=>rfl);(case d58=>exact hq);(case h58=>intro w hSw;(try dsimp only at hSw);go_simp <;> with_reducible rfl);simp only [Act.put,rhA,rhS,rhT];refine hT 18 ?a59 ?f59 ?g59 ?b59 ?c59 ?d59 ?e59 ?h59 ?_;(case b59=>simp only [rhN,rhM];try rfl);(case c59=>(try dsimp only);rfl);(case e59=>rfl);(case d59=>exact hq);(case h59=>intro w hSw;(try dsimp only at hSw);go_simp <;> with_reducible rfl);simp only [Act.put,rhA,rhS,rhT];refine hT 19 ?a60 ?f60 ?g60 ?b60 ?c60 ?d60 ?e60 ?h60 ?_;(case b60=>simp only [rhN,rhM];try rfl);(case c60=>(try dsimp only);rfl);(case e60=>rfl);(case d60=>exact hq);(case h60=>intro w hSw;(try dsimp only at hSw);go_simp <;> with_reducible rfl);simp only [Act.put,rhA,rhS,rhT];refine hP 20 ?a62 ?g62 ?b62 ?c62 ?d62 ?e62 ?_;(case b62=>simp only [rhN,rhM];try rfl);(case c62=>(try dsimp only);rfl);(case e62=>rfl);(case d62=>exact hq);simp only [Act.put,rhA,rhS,rhT];refine hP 21 ?a63 ?g63 ?b63 ?c63 ?d63 ?e63 ?_;(case b63=>simp only [rhN,rhM];try rfl);(case c63=>(try dsimp only);rfl);(case e63=>rfl);(case d63=>exact hq);simp only [Act.put,rhA,rhS,rhT];refine hP 22 ?a64 ?g64 ?b64 ?c64 ?d64 ?e64 ?_;(case b64=>simp only [rhN,rhM];try rfl);(case c64=>(try dsimp only);rfl);(case e64=>rfl);(case d64=>exact hq);simp only [Act.put,rhA,rhS,rhT];refine hP 23 ?a65 ?g65 ?b65 ?c65 ?d65 ?e65 ?_;(case b65=>simp only [rhN,rhM];try rfl);(case c65=>(try dsimp only);rfl);(case e65=>rfl);(case d65=>exact hq);simp only [Act.put,rhA,rhS,rhT];refine hP 24 ?a66 ?g66 ?b66 ?c66 ?d66 ?e66 ?_;(case b66=>simp only [rhN,rhM];try rfl);(case c66=>(try dsimp only);rfl);(case e66=>rfl);(case d66=>exact hq);simp only [Act.put,rhA,rhS,rhT];refine hP 25 ?a67 ?g67 ?b67 ?c67 ?d67 ?e67 ?_;(case b67=>simp only [rhN,rhM];try rfl);(case c67=>(try dsimp only);rfl);(case e67=>rfl);(case d67=>exact hq);simp only [Act.put,rhA,rhS,rhT];refine hP 26 ?a68 ?g68 ?b68 ?c68 ?d68 ?e68 ?_;(case b68=>simp only [rhN,rhM];try rfl);(case c68=>(try dsimp only);rfl);(case e68=>rfl);(case d68=>exact hq);simp only [Act.put,rhA,rhS,rhT];refine hP 27 ?a69 ?g69 ?b69 ?c69 ?d69 ?e69 ?_;(case b69=>simp only [rhN,rhM];try rfl);(case c69=>(try dsimp only);rfl);(case e69=>rfl);(case d69=>exact hq);simp only [Act.put,rhA,rhS,rhT];refine hP 28 ?a70 ?g70 ?b70 ?c70 ?d70 ?e70 ?_;(case b70=>simp only [rhN,rhM];try rfl);(case c70=>(try dsimp only);rfl);(case e70=>rfl);(case d70=>exact hq);simp only [Act.put,rhA,rhS,rhT];refine hT 29 ?a72 ?f72 ?g72 ?b72 ?c72 ?d72 ?e72 ?h72 ?_;(case b72=>simp only [rhN,rhM];try rfl);(case c72=>(try dsimp only);rfl);(case e72=>rfl);(case d72=>exact hq);(case h72=>intro w hSw;(try dsimp only at hSw);go_simp <;> with_reducible rfl);simp only [Act.put,rhA,rhS,rhT]
            refine wpAnyH_done (by kernel_rfl) ?_ _
            go_wp2_with fail
            go_ret
            exact ⟨by rw [HE.out, HEp.out, HST.out]; simp, below_of hB (by repeat' (first | exact Below.refl _ _ | refine Below.alloc ?_ ?_ _ | refine Below.setCell ?_ ?_ _ | refine Below.drew ?_ | (apply below_step; assumption) | (simp; done) | (simp; omega) | omega))⟩
          cases cq3
          rotate_left
          · go_wp2_with fail
            refine wp_region_held_drew (S := (fun w' => Below wr.heap.size wr w' ∧ (∀ o, w'.cell? ⟨w.heap.size, o, none⟩ = (#[.int .i64 t.now, .int .i64 t.span, .int .i64 t.kind, .int .i64 t.limit, .int .i64 t.next, .int .i64 t.lease.c, .int .i64 t.lease.m, .int .i64 t.lease.p, .slice A0 t.epochs.length c0, .slice A1 t.pools.length c1, .slice A2 t.clu.tasks.length c2, .slice A3 t.clu.nodes.length c3, .slice A4 t.clu.binds.length c4, .slice A5 t.wants.length c5, .slice A6 t.ends.length c6, .int .i64 t.seen, .slice A7 t.insts.length c7, .slice (some ⟨b, off, none⟩) t.msgs.length c8] : Array Value)[o]?) ∧ w'.cell? ⟨b, off + k * 4, none⟩ = some (.int .i64 r.k) ∧ w'.cell? ⟨b, off + k * 4 + 1, none⟩ = some (.int .i64 r.e) ∧ w'.cell? ⟨b, off + k * 4 + 2, none⟩ = some (.int .i64 r.i) ∧ w'.cell? ⟨b, off + k * 4 + 3, none⟩ = some (.int .i64 r.p))) (by kernel_rfl) (by (try dsimp only); exact HK.out _ (by repeat' (first | exact Below.refl _ _ | refine Below.alloc ?_ ?_ _ | refine Below.setCell ?_ ?_ _ | refine Below.drew ?_ | (apply below_step; assumption) | (simp; done) | (simp; omega) | omega))) (fun hHeld => ?_)
            refine hT 0 ?a74 ?f74 ?g74 ?b74 ?c74 ?d74 ?e74 ?h74 ?_;(case b74=>simp only [rhN];try rfl);(case c74=>(try dsimp only);rfl);(case e74=>rfl);(case d74=>exact hq);(case h74=>intro w hSw;(try dsimp only at hSw);go_simp <;> with_reducible rfl);simp only [Act.put,rhA,rhS,rhT];refine hT 1 ?a75 ?f75 ?g75 ?b75 ?c75 ?d75 ?e75 ?h75 ?_;(case b75=>simp only [rhN,rhM];try rfl);(case c75=>(try dsimp only);rfl);(case e75=>rfl);(case d75=>exact hq);(case h75=>intro w hSw;(try dsimp only at hSw);go_simp <;> with_reducible rfl);simp only [Act.put,rhA,rhS,rhT];refine hT 2 ?a76 ?f76 ?g76 ?b76 ?c76 ?d76 ?e76 ?h76 ?_;(case b76=>simp only [rhN,rhM];try rfl);(case c76=>(try dsimp only);rfl);(case e76=>rfl);(case d76=>exact hq);(case h76=>intro w hSw;(try dsimp only at hSw);go_simp <;> with_reducible rfl);simp only [Act.put,rhA,rhS,rhT];refine hT 3 ?a77 ?f77 ?g77 ?b77 ?c77 ?d77 ?e77 ?h77 ?_;(case b77=>simp only [rhN,rhM];try rfl);(case c77=>(try dsimp only);rfl);(case e77=>rfl);(case d77=>exact hq);(case h77=>intro w hSw;(try dsimp only at hSw);go_simp <;> with_reducible rfl);simp only [Act.put,rhA,rhS,rhT];refine hT 4 ?a78 ?f78 ?g78 ?b78 ?c78 ?d78 ?e78 ?h78 ?_;(case b78=>simp only [rhN,rhM];try rfl);(case c78=>(try dsimp only);rfl);(case e78=>rfl);(case d78=>exact hq);(case h78=>intro w hSw;(try dsimp only at hSw);go_simp <;> with_reducible rfl);simp only [Act.put,rhA,rhS,rhT]
            refine hCall (i := 5) (o := ?a79) ?b79 (by kernel_rfl) ?c79 (fun K hK => ?d79)
            case b79 => simp only [rhN, rhM]; try rfl
            case c79 => rfl
            go_simp
            refine (HMO.out _).mono ?_
            rintro e w3 ⟨rfl, hb3⟩
            have hz3 := hb3.size
            (try simp at hz3)
            go_wp2_with fail
            refine hK.out _ _ (by (try dsimp only); exact HK.out _ (by repeat' (first | exact Below.refl _ _ | refine Below.alloc ?_ ?_ _ | refine Below.setCell ?_ ?_ _ | refine Below.drew ?_ | (apply below_step; assumption) | (simp; done) | (simp; omega) | omega))) (fun hHeld => ?_)
            clear hK K
            try simp only [Act.put, rhA, rhS, rhT]
            refine hT 6 ?a81 ?f81 ?g81 ?b81 ?c81 ?d81 ?e81 ?h81 ?_;(case b81=>simp only [rhN,rhM];try rfl);(case c81=>(try dsimp only);rfl);(case e81=>rfl);(case d81=>exact hq);(case h81=>intro w hSw;(try dsimp only at hSw);go_simp <;> with_reducible rfl);simp only [Act.put,rhA,rhS,rhT];refine hT 7 ?a82 ?f82 ?g82 ?b82 ?c82 ?d82 ?e82 ?h82 ?_;(case b82=>simp only [rhN,rhM];try rfl);(case c82=>(try dsimp only);rfl);(case e82=>rfl);(case d82=>exact hq);(case h82=>intro w hSw;(try dsimp only at hSw);go_simp <;> with_reducible rfl);simp only [Act.put,rhA,rhS,rhT];refine hT 8 ?a83 ?f83 ?g83 ?b83 ?c83 ?d83 ?e83 ?h83 ?_;(case b83=>simp only [rhN,rhM];try rfl);(case c83=>(try dsimp only);rfl);(case e83=>rfl);(case d83=>exact hq);(case h83=>intro w hSw;(try dsimp only at hSw);go_simp <;> with_reducible rfl);simp only [Act.put,rhA,rhS,rhT];refine hT 9 ?a84 ?f84 ?g84 ?b84 ?c84 ?d84 ?e84 ?h84 ?_;(case b84=>simp only [rhN,rhM];try rfl);(case c84=>(try dsimp only);rfl);(case e84=>rfl);(case d84=>exact hq);(case h84=>intro w hSw;(try dsimp only at hSw);go_simp <;> with_reducible rfl);simp only [Act.put,rhA,rhS,rhT];refine hT 10 ?a85 ?f85 ?g85 ?b85 ?c85 ?d85 ?e85 ?h85 ?_;(case b85=>simp only [rhN,rhM];try rfl);(case c85=>(try dsimp only);rfl);(case e85=>rfl);(case d85=>exact hq);(case h85=>intro w hSw;(try dsimp only at hSw);go_simp <;> with_reducible rfl);simp only [Act.put,rhA,rhS,rhT];refine hT 11 ?a86 ?f86 ?g86 ?b86 ?c86 ?d86 ?e86 ?h86 ?_;(case b86=>simp only [rhN,rhM];try rfl);(case c86=>(try dsimp only);rfl);(case e86=>rfl);(case d86=>exact hq);(case h86=>intro w hSw;(try dsimp only at hSw);go_simp <;> with_reducible rfl);simp only [Act.put,rhA,rhS,rhT];refine hT 12 ?a87 ?f87 ?g87 ?b87 ?c87 ?d87 ?e87 ?h87 ?_;(case b87=>simp only [rhN,rhM];try rfl);(case c87=>(try dsimp only);rfl);(case e87=>rfl);(case d87=>exact hq);(case h87=>intro w hSw;(try dsimp only at hSw);go_simp <;> with_reducible rfl);simp only [Act.put,rhA,rhS,rhT];refine hT 13 ?a88 ?f88 ?g88 ?b88 ?c88 ?d88 ?e88 ?h88 ?_;(case b88=>simp only [rhN,rhM];try rfl);(case c88=>(try dsimp only);rfl);(case e88=>rfl);(case d88=>exact hq);(case h88=>intro w hSw;(try dsimp only at hSw);go_simp <;> with_reducible rfl);simp only [Act.put,rhA,rhS,rhT];refine hT 14 ?a89 ?f89 ?g89 ?b89 ?c89 ?d89 ?e89 ?h89 ?_;(case b89=>simp only [rhN,rhM];try rfl);(case c89=>(try dsimp only);rfl);(case e89=>rfl);(case d89=>exact hq);(case h89=>intro w hSw;(try dsimp only at hSw);go_simp <;> with_reducible rfl);simp only [Act.put,rhA,rhS,rhT];refine hT 15 ?a90 ?f90 ?g90 ?b90 ?c90 ?d90 ?e90 ?h90 ?_;(case b90=>simp only [rhN,rhM];try rfl);(case c90=>(try dsimp only);rfl);(case e90=>rfl);(case d90=>exact hq);(case h90=>intro w hSw;(try dsimp only at hSw);go_simp <;> with_reducible rfl);simp only [Act.put,rhA,rhS,rhT];refine hT 16 ?a91 ?f91 ?g91 ?b91 ?c91 ?d91 ?e91 ?h91 ?_;(case b91=>simp only [rhN,rhM];try rfl);(case c91=>(try dsimp only);rfl);(case e91=>rfl);(case d91=>exact hq);(case h91=>intro w hSw;(try dsimp only at hSw);go_simp <;> with_reducible rfl);simp only [Act.put,rhA,rhS,rhT];refine hT 17 ?a92 ?f92 ?g92 ?b92 ?c92 ?d92 ?e92 ?h92 ?_;(case b92=>simp only [rhN,rhM];try rfl);(case c92=>(try dsimp only);rfl);(case e92=>rfl);(case d92=>exact hq);(case h92=>intro w hSw;(try dsimp only at hSw);go_simp <;> with_reducible rfl);simp only [Act.put,rhA,rhS,rhT];refine hT 18 ?a93 ?f93 ?g93 ?b93 ?c93 ?d93 ?e93 ?h93 ?_;(case b93=>simp only [rhN,rhM];try rfl);(case c93=>(try dsimp only);rfl);(case e93=>rfl);(case d93=>exact hq);(case h93=>intro w hSw;(try dsimp only at hSw);go_simp <;> with_reducible rfl);simp only [Act.put,rhA,rhS,rhT];refine hT 19 ?a94 ?f94 ?g94 ?b94 ?c94 ?d94 ?e94 ?h94 ?_;(case b94=>simp only [rhN,rhM];try rfl);(case c94=>(try dsimp only);rfl);(case e94=>rfl);(case d94=>exact hq);(case h94=>intro w hSw;(try dsimp only at hSw);go_simp <;> with_reducible rfl);simp only [Act.put,rhA,rhS,rhT];refine hT 20 ?a95 ?f95 ?g95 ?b95 ?c95 ?d95 ?e95 ?h95 ?_;(case b95=>simp only [rhN,rhM];try rfl);(case c95=>(try dsimp only);rfl);(case e95=>rfl);(case d95=>exact hq);(case h95=>intro w hSw;(try dsimp only at hSw);go_simp <;> with_reducible rfl);simp only [Act.put,rhA,rhS,rhT];refine hT 21 ?a96 ?f96 ?g96 ?b96 ?c96 ?d96 ?e96 ?h96 ?_;(case b96=>simp only [rhN,rhM];try rfl);(case c96=>(try dsimp only);rfl);(case e96=>rfl);(case d96=>exact hq);(case h96=>intro w hSw;(try dsimp only at hSw);go_simp <;> with_reducible rfl);simp only [Act.put,rhA,rhS,rhT];refine hT 22 ?a97 ?f97 ?g97 ?b97 ?c97 ?d97 ?e97 ?h97 ?_;(case b97=>simp only [rhN,rhM];try rfl);(case c97=>(try dsimp only);rfl);(case e97=>rfl);(case d97=>exact hq);(case h97=>intro w hSw;(try dsimp only at hSw);go_simp <;> with_reducible rfl);simp only [Act.put,rhA,rhS,rhT];refine hT 23 ?a98 ?f98 ?g98 ?b98 ?c98 ?d98 ?e98 ?h98 ?_;(case b98=>simp only [rhN,rhM];try rfl);(case c98=>(try dsimp only);rfl);(case e98=>rfl);(case d98=>exact hq);(case h98=>intro w hSw;(try dsimp only at hSw);go_simp <;> with_reducible rfl);simp only [Act.put,rhA,rhS,rhT];refine hT 24 ?a99 ?f99 ?g99 ?b99 ?c99 ?d99 ?e99 ?h99 ?_;(case b99=>simp only [rhN,rhM];try rfl);(case c99=>(try dsimp only);rfl);(case e99=>rfl);(case d99=>exact hq);(case h99=>intro w hSw;(try dsimp only at hSw);go_simp <;> with_reducible rfl);simp only [Act.put,rhA,rhS,rhT];refine hT 25 ?a100 ?f100 ?g100 ?b100 ?c100 ?d100 ?e100 ?h100 ?_;(case b100=>simp only [rhN,rhM];try rfl);(case c100=>(try dsimp only);rfl);(case e100=>rfl);(case d100=>exact hq);(case h100=>intro w hSw;(try dsimp only at hSw);go_simp <;> with_reducible rfl);simp only [Act.put,rhA,rhS,rhT];refine hT 26 ?a101 ?f101 ?g101 ?b101 ?c101 ?d101 ?e101 ?h101 ?_;(case b101=>simp only [rhN,rhM];try rfl);(case c101=>(try dsimp only);rfl);(case e101=>rfl);(case d101=>exact hq);(case h101=>intro w hSw;(try dsimp only at hSw);go_simp <;> with_reducible rfl);simp only [Act.put,rhA,rhS,rhT];refine hT 27 ?a102 ?f102 ?g102 ?b102 ?c102 ?d102 ?e102 ?h102 ?_;(case b102=>simp only [rhN,rhM];try rfl);(case c102=>(try dsimp only);rfl);(case e102=>rfl);(case d102=>exact hq);(case h102=>intro w hSw;(try dsimp only at hSw);go_simp <;> with_reducible rfl);simp only [Act.put,rhA,rhS,rhT];refine hT 28 ?a103 ?f103 ?g103 ?b103 ?c103 ?d103 ?e103 ?h103 ?_;(case b103=>simp only [rhN,rhM];try rfl);(case c103=>(try dsimp only);rfl);(case e103=>rfl);(case d103=>exact hq);(case h103=>intro w hSw;(try dsimp only at hSw);go_simp <;> with_reducible rfl);simp only [Act.put,rhA,rhS,rhT];refine hT 29 ?a104 ?f104 ?g104 ?b104 ?c104 ?d104 ?e104 ?h104 ?_;(case b104=>simp only [rhN,rhM];try rfl);(case c104=>(try dsimp only);rfl);(case e104=>rfl);(case d104=>exact hq);(case h104=>intro w hSw;(try dsimp only at hSw);go_simp <;> with_reducible rfl);simp only [Act.put,rhA,rhS,rhT]
            refine wpAnyH_done (by kernel_rfl) ?_ _
            go_wp2_with fail
            go_ret
            exact ⟨by rw [HE.out, HEp.out, HST.out]; simp, below_of hB (by repeat' (first | exact Below.refl _ _ | refine Below.alloc ?_ ?_ _ | refine Below.setCell ?_ ?_ _ | refine Below.drew ?_ | (apply below_step; assumption) | (simp; done) | (simp; omega) | omega))⟩
          go_wp2_with fail
          refine wp_region_held_drew (S := (fun w' => Below wr.heap.size wr w' ∧ (∀ o, w'.cell? ⟨w.heap.size, o, none⟩ = (#[.int .i64 t.now, .int .i64 t.span, .int .i64 t.kind, .int .i64 t.limit, .int .i64 t.next, .int .i64 t.lease.c, .int .i64 t.lease.m, .int .i64 t.lease.p, .slice A0 t.epochs.length c0, .slice A1 t.pools.length c1, .slice A2 t.clu.tasks.length c2, .slice A3 t.clu.nodes.length c3, .slice A4 t.clu.binds.length c4, .slice A5 t.wants.length c5, .slice A6 t.ends.length c6, .int .i64 t.seen, .slice A7 t.insts.length c7, .slice (some ⟨b, off, none⟩) t.msgs.length c8] : Array Value)[o]?) ∧ w'.cell? ⟨b, off + k * 4, none⟩ = some (.int .i64 r.k) ∧ w'.cell? ⟨b, off + k * 4 + 1, none⟩ = some (.int .i64 r.e) ∧ w'.cell? ⟨b, off + k * 4 + 2, none⟩ = some (.int .i64 r.i) ∧ w'.cell? ⟨b, off + k * 4 + 3, none⟩ = some (.int .i64 r.p))) (by kernel_rfl) (by (try dsimp only); exact HK.out _ (by repeat' (first | exact Below.refl _ _ | refine Below.alloc ?_ ?_ _ | refine Below.setCell ?_ ?_ _ | refine Below.drew ?_ | (apply below_step; assumption) | (simp; done) | (simp; omega) | omega))) (fun hHeld => ?_)
          refine hT 0 ?a106 ?f106 ?g106 ?b106 ?c106 ?d106 ?e106 ?h106 ?_;(case b106=>simp only [rhN];try rfl);(case c106=>(try dsimp only);rfl);(case e106=>rfl);(case d106=>exact hq);(case h106=>intro w hSw;(try dsimp only at hSw);go_simp <;> with_reducible rfl);simp only [Act.put,rhA,rhS,rhT];refine hT 1 ?a107 ?f107 ?g107 ?b107 ?c107 ?d107 ?e107 ?h107 ?_;(case b107=>simp only [rhN,rhM];try rfl);(case c107=>(try dsimp only);rfl);(case e107=>rfl);(case d107=>exact hq);(case h107=>intro w hSw;(try dsimp only at hSw);go_simp <;> with_reducible rfl);simp only [Act.put,rhA,rhS,rhT];refine hT 2 ?a108 ?f108 ?g108 ?b108 ?c108 ?d108 ?e108 ?h108 ?_;(case b108=>simp only [rhN,rhM];try rfl);(case c108=>(try dsimp only);rfl);(case e108=>rfl);(case d108=>exact hq);(case h108=>intro w hSw;(try dsimp only at hSw);go_simp <;> with_reducible rfl);simp only [Act.put,rhA,rhS,rhT];refine hT 3 ?a109 ?f109 ?g109 ?b109 ?c109 ?d109 ?e109 ?h109 ?_;(case b109=>simp only [rhN,rhM];try rfl);(case c109=>(try dsimp only);rfl);(case e109=>rfl);(case d109=>exact hq);(case h109=>intro w hSw;(try dsimp only at hSw);go_simp <;> with_reducible rfl);simp only [Act.put,rhA,rhS,rhT];refine hT 4 ?a110 ?f110 ?g110 ?b110 ?c110 ?d110 ?e110 ?h110 ?_;(case b110=>simp only [rhN,rhM];try rfl);(case c110=>(try dsimp only);rfl);(case e110=>rfl);(case d110=>exact hq);(case h110=>intro w hSw;(try dsimp only at hSw);go_simp <;> with_reducible rfl);simp only [Act.put,rhA,rhS,rhT]
          refine hCall (i := 5) (o := ?a111) ?b111 (by kernel_rfl) ?c111 (fun K hK => ?d111)
          case b111 => simp only [rhN, rhM]; try rfl
          case c111 => rfl
          go_simp
          refine (HMO.out _).mono ?_
          rintro e w3 ⟨rfl, hb3⟩
          have hz3 := hb3.size
          (try simp at hz3)
          go_wp2_with fail
          refine hK.out _ _ (by (try dsimp only); exact HK.out _ (by repeat' (first | exact Below.refl _ _ | refine Below.alloc ?_ ?_ _ | refine Below.setCell ?_ ?_ _ | refine Below.drew ?_ | (apply below_step; assumption) | (simp; done) | (simp; omega) | omega))) (fun hHeld => ?_)
          clear hK K
          try simp only [Act.put, rhA, rhS, rhT]
          refine hT 6 ?a113 ?f113 ?g113 ?b113 ?c113 ?d113 ?e113 ?h113 ?_;(case b113=>simp only [rhN,rhM];try rfl);(case c113=>(try dsimp only);rfl);(case e113=>rfl);(case d113=>exact hq);(case h113=>intro w hSw;(try dsimp only at hSw);go_simp <;> with_reducible rfl);simp only [Act.put,rhA,rhS,rhT];refine hT 7 ?a114 ?f114 ?g114 ?b114 ?c114 ?d114 ?e114 ?h114 ?_;(case b114=>simp only [rhN,rhM];try rfl);(case c114=>(try dsimp only);rfl);(case e114=>rfl);(case d114=>exact hq);(case h114=>intro w hSw;(try dsimp only at hSw);go_simp <;> with_reducible rfl);simp only [Act.put,rhA,rhS,rhT];refine hT 8 ?a115 ?f115 ?g115 ?b115 ?c115 ?d115 ?e115 ?h115 ?_;(case b115=>simp only [rhN,rhM];try rfl);(case c115=>(try dsimp only);rfl);(case e115=>rfl);(case d115=>exact hq);(case h115=>intro w hSw;(try dsimp only at hSw);go_simp <;> with_reducible rfl);simp only [Act.put,rhA,rhS,rhT];refine hT 9 ?a116 ?f116 ?g116 ?b116 ?c116 ?d116 ?e116 ?h116 ?_;(case b116=>simp only [rhN,rhM];try rfl);(case c116=>(try dsimp only);rfl);(case e116=>rfl);(case d116=>exact hq);(case h116=>intro w hSw;(try dsimp only at hSw);go_simp <;> with_reducible rfl);simp only [Act.put,rhA,rhS,rhT];refine hT 10 ?a117 ?f117 ?g117 ?b117 ?c117 ?d117 ?e117 ?h117 ?_;(case b117=>simp only [rhN,rhM];try rfl);(case c117=>(try dsimp only);rfl);(case e117=>rfl);(case d117=>exact hq);(case h117=>intro w hSw;(try dsimp only at hSw);go_simp <;> with_reducible rfl);simp only [Act.put,rhA,rhS,rhT];refine hT 11 ?a118 ?f118 ?g118 ?b118 ?c118 ?d118 ?e118 ?h118 ?_;(case b118=>simp only [rhN,rhM];try rfl);(case c118=>(try dsimp only);rfl);(case e118=>rfl);(case d118=>exact hq);(case h118=>intro w hSw;(try dsimp only at hSw);go_simp <;> with_reducible rfl);simp only [Act.put,rhA,rhS,rhT];refine hT 12 ?a119 ?f119 ?g119 ?b119 ?c119 ?d119 ?e119 ?h119 ?_;(case b119=>simp only [rhN,rhM];try rfl);(case c119=>(try dsimp only);rfl);(case e119=>rfl);(case d119=>exact hq);(case h119=>intro w hSw;(try dsimp only at hSw);go_simp <;> with_reducible rfl);simp only [Act.put,rhA,rhS,rhT];refine hT 13 ?a120 ?f120 ?g120 ?b120 ?c120 ?d120 ?e120 ?h120 ?_;(case b120=>simp only [rhN,rhM];try rfl);(case c120=>(try dsimp only);rfl);(case e120=>rfl);(case d120=>exact hq);(case h120=>intro w hSw;(try dsimp only at hSw);go_simp <;> with_reducible rfl);simp only [Act.put,rhA,rhS,rhT];refine hT 14 ?a121 ?f121 ?g121 ?b121 ?c121 ?d121 ?e121 ?h121 ?_;(case b121=>simp only [rhN,rhM];try rfl);(case c121=>(try dsimp only);rfl);(case e121=>rfl);(case d121=>exact hq);(case h121=>intro w hSw;(try dsimp only at hSw);go_simp <;> with_reducible rfl);simp only [Act.put,rhA,rhS,rhT];refine hT 15 ?a122 ?f122 ?g122 ?b122 ?c122 ?d122 ?e122 ?h122 ?_;(case b122=>simp only [rhN,rhM];try rfl);(case c122=>(try dsimp only);rfl);(case e122=>rfl);(case d122=>exact hq);(case h122=>intro w hSw;(try dsimp only at hSw);go_simp <;> with_reducible rfl);simp only [Act.put,rhA,rhS,rhT];refine hT 16 ?a123 ?f123 ?g123 ?b123 ?c123 ?d123 ?e123 ?h123 ?_;(case b123=>simp only [rhN,rhM];try rfl);(case c123=>(try dsimp only);rfl);(case e123=>rfl);(case d123=>exact hq);(case h123=>intro w hSw;(try dsimp only at hSw);go_simp <;> with_reducible rfl);simp only [Act.put,rhA,rhS,rhT];refine hT 17 ?a124 ?f124 ?g124 ?b124 ?c124 ?d124 ?e124 ?h124 ?_;(case b124=>simp only [rhN,rhM];try rfl);(case c124=>(try dsimp only);rfl);(case e124=>rfl);(case d124=>exact hq);(case h124=>intro w hSw;(try dsimp only at hSw);go_simp <;> with_reducible rfl);simp only [Act.put,rhA,rhS,rhT];refine hT 18 ?a125 ?f125 ?g125 ?b125 ?c125 ?d125 ?e125 ?h125 ?_;(case b125=>simp only [rhN,rhM];try rfl);(case c125=>(try dsimp only);rfl);(case e125=>rfl);(case d125=>exact hq);(case h125=>intro w hSw;(try dsimp only at hSw);go_simp <;> with_reducible rfl);simp only [Act.put,rhA,rhS,rhT];refine hT 19 ?a126 ?f126 ?g126 ?b126 ?c126 ?d126 ?e126 ?h126 ?_;(case b126=>simp only [rhN,rhM];try rfl);(case c126=>(try dsimp only);rfl);(case e126=>rfl);(case d126=>exact hq);(case h126=>intro w hSw;(try dsimp only at hSw);go_simp <;> with_reducible rfl);simp only [Act.put,rhA,rhS,rhT];refine hT 20 ?a127 ?f127 ?g127 ?b127 ?c127 ?d127 ?e127 ?h127 ?_;(case b127=>simp only [rhN,rhM];try rfl);(case c127=>(try dsimp only);rfl);(case e127=>rfl);(case d127=>exact hq);(case h127=>intro w hSw;(try dsimp only at hSw);go_simp <;> with_reducible rfl);simp only [Act.put,rhA,rhS,rhT];refine hT 21 ?a128 ?f128 ?g128 ?b128 ?c128 ?d128 ?e128 ?h128 ?_;(case b128=>simp only [rhN,rhM];try rfl);(case c128=>(try dsimp only);rfl);(case e128=>rfl);(case d128=>exact hq);(case h128=>intro w hSw;(try dsimp only at hSw);go_simp <;> with_reducible rfl);simp only [Act.put,rhA,rhS,rhT];refine hT 22 ?a129 ?f129 ?g129 ?b129 ?c129 ?d129 ?e129 ?h129 ?_;(case b129=>simp only [rhN,rhM];try rfl);(case c129=>(try dsimp only);rfl);(case e129=>rfl);(case d129=>exact hq);(case h129=>intro w hSw;(try dsimp only at hSw);go_simp <;> with_reducible rfl);simp only [Act.put,rhA,rhS,rhT];refine hT 23 ?a130 ?f130 ?g130 ?b130 ?c130 ?d130 ?e130 ?h130 ?_;(case b130=>simp only [rhN,rhM];try rfl);(case c130=>(try dsimp only);rfl);(case e130=>rfl);(case d130=>exact hq);(case h130=>intro w hSw;(try dsimp only at hSw);go_simp <;> with_reducible rfl);simp only [Act.put,rhA,rhS,rhT];refine hT 24 ?a131 ?f131 ?g131 ?b131 ?c131 ?d131 ?e131 ?h131 ?_;(case b131=>simp only [rhN,rhM];try rfl);(case c131=>(try dsimp only);rfl);(case e131=>rfl);(case d131=>exact hq);(case h131=>intro w hSw;(try dsimp only at hSw);go_simp <;> with_reducible rfl);simp only [Act.put,rhA,rhS,rhT];refine hT 25 ?a132 ?f132 ?g132 ?b132 ?c132 ?d132 ?e132 ?h132 ?_;(case b132=>simp only [rhN,rhM];try rfl);(case c132=>(try dsimp only);rfl);(case e132=>rfl);(case d132=>exact hq);(case h132=>intro w hSw;(try dsimp only at hSw);go_simp <;> with_reducible rfl);simp only [Act.put,rhA,rhS,rhT];refine hT 26 ?a133 ?f133 ?g133 ?b133 ?c133 ?d133 ?e133 ?h133 ?_;(case b133=>simp only [rhN,rhM];try rfl);(case c133=>(try dsimp only);rfl);(case e133=>rfl);(case d133=>exact hq);(case h133=>intro w hSw;(try dsimp only at hSw);go_simp <;> with_reducible rfl);simp only [Act.put,rhA,rhS,rhT];refine hT 27 ?a134 ?f134 ?g134 ?b134 ?c134 ?d134 ?e134 ?h134 ?_;(case b134=>simp only [rhN,rhM];try rfl);(case c134=>(try dsimp only);rfl);(case e134=>rfl);(case d134=>exact hq);(case h134=>intro w hSw;(try dsimp only at hSw);go_simp <;> with_reducible rfl);simp only [Act.put,rhA,rhS,rhT];refine hT 28 ?a135 ?f135 ?g135 ?b135 ?c135 ?d135 ?e135 ?h135 ?_;(case b135=>simp only [rhN,rhM];try rfl);(case c135=>(try dsimp only);rfl);(case e135=>rfl);(case d135=>exact hq);(case h135=>intro w hSw;(try dsimp only at hSw);go_simp <;> with_reducible rfl);simp only [Act.put,rhA,rhS,rhT];refine hT 29 ?a136 ?f136 ?g136 ?b136 ?c136 ?d136 ?e136 ?h136 ?_;(case b136=>simp only [rhN,rhM];try rfl);(case c136=>(try dsimp only);rfl);(case e136=>rfl);(case d136=>exact hq);(case h136=>intro w hSw;(try dsimp only at hSw);go_simp <;> with_reducible rfl);simp only [Act.put,rhA,rhS,rhT]
          refine wpAnyH_done (by kernel_rfl) ?_ _
          go_wp2_with fail
          go_roundw
          case rel => exact ⟨k + 1, by omega, by go_num, by rw [HST.out]; simp, HBK.out.below (by repeat' (first | exact Below.refl _ _ | refine Below.alloc ?_ ?_ _ | refine Below.setCell ?_ ?_ _ | refine Below.drew ?_ | (apply below_step; assumption) | (simp; done) | (simp; omega) | omega)) gl, below_of hB (by repeat' (first | exact Below.refl _ _ | refine Below.alloc ?_ ?_ _ | refine Below.setCell ?_ ?_ _ | refine Below.drew ?_ | (apply below_step; assumption) | (simp; done) | (simp; omega) | omega))⟩
          case measure => simp [RowKit.intOf]; omega
        · obtain rfl : k = t.msgs.length := by omega
          have HMs := Lib.hid (hall.trans (by rw [List.drop_length, List.all_nil]))
          clear hall
          have HK := Lib.hid (show ∀ w', Below wr.heap.size wr w' → (fun w' => Below wr.heap.size wr w' ∧ (∀ o, w'.cell? ⟨w.heap.size, o, none⟩ = (#[.int .i64 t.now, .int .i64 t.span, .int .i64 t.kind, .int .i64 t.limit, .int .i64 t.next, .int .i64 t.lease.c, .int .i64 t.lease.m, .int .i64 t.lease.p, .slice A0 t.epochs.length c0, .slice A1 t.pools.length c1, .slice A2 t.clu.tasks.length c2, .slice A3 t.clu.nodes.length c3, .slice A4 t.clu.binds.length c4, .slice A5 t.wants.length c5, .slice A6 t.ends.length c6, .int .i64 t.seen, .slice A7 t.insts.length c7, .slice A8 t.msgs.length c8] : Array Value)[o]?)) w' from fun w' hb => ⟨hb, fun o => (hb.cell (p := ⟨_, _, none⟩) gl).trans (gc o)⟩)
          cases g1
          rotate_left
          · go_wp2_with fail
            refine wp_region_held_drew (S := (fun w' => Below wr.heap.size wr w' ∧ (∀ o, w'.cell? ⟨w.heap.size, o, none⟩ = (#[.int .i64 t.now, .int .i64 t.span, .int .i64 t.kind, .int .i64 t.limit, .int .i64 t.next, .int .i64 t.lease.c, .int .i64 t.lease.m, .int .i64 t.lease.p, .slice A0 t.epochs.length c0, .slice A1 t.pools.length c1, .slice A2 t.clu.tasks.length c2, .slice A3 t.clu.nodes.length c3, .slice A4 t.clu.binds.length c4, .slice A5 t.wants.length c5, .slice A6 t.ends.length c6, .int .i64 t.seen, .slice A7 t.insts.length c7, .slice A8 t.msgs.length c8] : Array Value)[o]?))) (by kernel_rfl) (by (try dsimp only); exact HK.out _ (by repeat' (first | exact Below.refl _ _ | refine Below.alloc ?_ ?_ _ | refine Below.setCell ?_ ?_ _ | refine Below.drew ?_ | (apply below_step; assumption) | (simp; done) | (simp; omega) | omega))) (fun hHeld => ?_)
            refine hT 0 ?a138 ?f138 ?g138 ?b138 ?c138 ?d138 ?e138 ?h138 ?_;(case b138=>simp only [rhN];try rfl);(case c138=>(try dsimp only);rfl);(case e138=>rfl);(case d138=>exact hq);(case h138=>intro w hSw;(try dsimp only at hSw);go_simp <;> with_reducible rfl);simp only [Act.put,rhA,rhS,rhT];refine hT 1 ?a139 ?f139 ?g139 ?b139 ?c139 ?d139 ?e139 ?h139 ?_;(case b139=>simp only [rhN,rhM];try rfl);(case c139=>(try dsimp only);rfl);(case e139=>rfl);(case d139=>exact hq);(case h139=>intro w hSw;(try dsimp only at hSw);go_simp <;> with_reducible rfl);simp only [Act.put,rhA,rhS,rhT];refine hT 2 ?a140 ?f140 ?g140 ?b140 ?c140 ?d140 ?e140 ?h140 ?_;(case b140=>simp only [rhN,rhM];try rfl);(case c140=>(try dsimp only);rfl);(case e140=>rfl);(case d140=>exact hq);(case h140=>intro w hSw;(try dsimp only at hSw);go_simp <;> with_reducible rfl);simp only [Act.put,rhA,rhS,rhT];refine hT 3 ?a141 ?f141 ?g141 ?b141 ?c141 ?d141 ?e141 ?h141 ?_;(case b141=>simp only [rhN,rhM];try rfl);(case c141=>(try dsimp only);rfl);(case e141=>rfl);(case d141=>exact hq);(case h141=>intro w hSw;(try dsimp only at hSw);go_simp <;> with_reducible rfl);simp only [Act.put,rhA,rhS,rhT];refine hT 4 ?a142 ?f142 ?g142 ?b142 ?c142 ?d142 ?e142 ?h142 ?_;(case b142=>simp only [rhN,rhM];try rfl);(case c142=>(try dsimp only);rfl);(case e142=>rfl);(case d142=>exact hq);(case h142=>intro w hSw;(try dsimp only at hSw);go_simp <;> with_reducible rfl);simp only [Act.put,rhA,rhS,rhT];refine hP 5 ?a144 ?g144 ?b144 ?c144 ?d144 ?e144 ?_;(case b144=>simp only [rhN,rhM];try rfl);(case c144=>(try dsimp only);rfl);(case e144=>rfl);(case d144=>exact hq);simp only [Act.put,rhA,rhS,rhT];refine hP 6 ?a145 ?g145 ?b145 ?c145 ?d145 ?e145 ?_;(case b145=>simp only [rhN,rhM];try rfl);(case c145=>(try dsimp only);rfl);(case e145=>rfl);(case d145=>exact hq);simp only [Act.put,rhA,rhS,rhT];refine hP 7 ?a146 ?g146 ?b146 ?c146 ?d146 ?e146 ?_;(case b146=>simp only [rhN,rhM];try rfl);(case c146=>(try dsimp only);rfl);(case e146=>rfl);(case d146=>exact hq);simp only [Act.put,rhA,rhS,rhT];refine hP 8 ?a147 ?g147 ?b147 ?c147 ?d147 ?e147 ?_;(case b147=>simp only [rhN,rhM];try rfl);(case c147=>(try dsimp only);rfl);(case e147=>rfl);(case d147=>exact hq);simp only [Act.put,rhA,rhS,rhT];refine hT 9 ?a149 ?f149 ?g149 ?b149 ?c149 ?d149 ?e149 ?h149 ?_;(case b149=>simp only [rhN,rhM];try rfl);(case c149=>(try dsimp only);rfl);(case e149=>rfl);(case d149=>exact hq);(case h149=>intro w hSw;(try dsimp only at hSw);go_simp <;> with_reducible rfl);simp only [Act.put,rhA,rhS,rhT];refine hT 10 ?a151 ?f151 ?g151 ?b151 ?c151 ?d151 ?e151 ?h151 ?_;(case b151=>simp only [rhN,rhM];try rfl);(case c151=>(try dsimp only);rfl);(case e151=>rfl);(case d151=>exact hq);(case h151=>intro w hSw;(try dsimp only at hSw);go_simp <;> with_reducible rfl);simp only [Act.put,rhA,rhS,rhT];refine hP 11 ?a153 ?g153 ?b153 ?c153 ?d153 ?e153 ?_;(case b153=>simp only [rhN,rhM];try rfl);(case c153=>(try dsimp only);rfl);(case e153=>rfl);(case d153=>exact hq);simp only [Act.put,rhA,rhS,rhT];refine hP 12 ?a154 ?g154 ?b154 ?c154 ?d154 ?e154 ?_;(case b154=>simp only [rhN,rhM];try rfl);(case c154=>(try dsimp only);rfl);(case e154=>rfl);(case d154=>exact hq);simp only [Act.put,rhA,rhS,rhT];refine hP 13 ?a155 ?g155 ?b155 ?c155 ?d155 ?e155 ?_;(case b155=>simp only [rhN,rhM];try rfl);(case c155=>(try dsimp only);rfl);(case e155=>rfl);(case d155=>exact hq);simp only [Act.put,rhA,rhS,rhT];refine hP 14 ?a156 ?g156 ?b156 ?c156 ?d156 ?e156 ?_;(case b156=>simp only [rhN,rhM];try rfl);(case c156=>(try dsimp only);rfl);(case e156=>rfl);(case d156=>exact hq);simp only [Act.put,rhA,rhS,rhT];refine hP 15 ?a157 ?g157 ?b157 ?c157 ?d157 ?e157 ?_;(case b157=>simp only [rhN,rhM];try rfl);(case c157=>(try dsimp only);rfl);(case e157=>rfl);(case d157=>exact hq);simp only [Act.put,rhA,rhS,rhT];refine hP 16 ?a158 ?g158 ?b158 ?c158 ?d158 ?e158 ?_;(case b158=>simp only [rhN,rhM];try rfl);(case c158=>(try dsimp only);rfl);(case e158=>rfl);(case d158=>exact hq);simp only [Act.put,rhA,rhS,rhT];refine hP 17 ?a159 ?g159 ?b159 ?c159 ?d159 ?e159 ?_;(case b159=>simp only [rhN,rhM];try rfl);(case c159=>(try dsimp only);rfl);(case e159=>rfl);(case d159=>exact hq);simp only [Act.put,rhA,rhS,rhT];refine hT 18 ?a161 ?f161 ?g161 ?b161 ?c161 ?d161 ?e161 ?h161 ?_;(case b161=>simp only [rhN,rhM];try rfl);(case c161=>(try dsimp only);rfl);(case e161=>rfl);(case d161=>exact hq);(case h161=>intro w hSw;(try dsimp only at hSw);go_simp <;> with_reducible rfl);simp only [Act.put,rhA,rhS,rhT];refine hT 19 ?a163 ?f163 ?g163 ?b163 ?c163 ?d163 ?e163 ?h163 ?_;(case b163=>simp only [rhN,rhM];try rfl);(case c163=>(try dsimp only);rfl);(case e163=>rfl);(case d163=>exact hq);(case h163=>intro w hSw;(try dsimp only at hSw);go_simp <;> with_reducible rfl);simp only [Act.put,rhA,rhS,rhT];refine hP 20 ?a165 ?g165 ?b165 ?c165 ?d165 ?e165 ?_;(case b165=>simp only [rhN,rhM];try rfl);(case c165=>(try dsimp only);rfl);(case e165=>rfl);(case d165=>exact hq);simp only [Act.put,rhA,rhS,rhT];refine hP 21 ?a166 ?g166 ?b166 ?c166 ?d166 ?e166 ?_;(case b166=>simp only [rhN,rhM];try rfl);(case c166=>(try dsimp only);rfl);(case e166=>rfl);(case d166=>exact hq);simp only [Act.put,rhA,rhS,rhT];refine hP 22 ?a167 ?g167 ?b167 ?c167 ?d167 ?e167 ?_;(case b167=>simp only [rhN,rhM];try rfl);(case c167=>(try dsimp only);rfl);(case e167=>rfl);(case d167=>exact hq);simp only [Act.put,rhA,rhS,rhT];refine hP 23 ?a168 ?g168 ?b168 ?c168 ?d168 ?e168 ?_;(case b168=>simp only [rhN,rhM];try rfl);(case c168=>(try dsimp only);rfl);(case e168=>rfl);(case d168=>exact hq);simp only [Act.put,rhA,rhS,rhT];refine hP 24 ?a169 ?g169 ?b169 ?c169 ?d169 ?e169 ?_;(case b169=>simp only [rhN,rhM];try rfl);(case c169=>(try dsimp only);rfl);(case e169=>rfl);(case d169=>exact hq);simp only [Act.put,rhA,rhS,rhT];refine hP 25 ?a170 ?g170 ?b170 ?c170 ?d170 ?e170 ?_;(case b170=>simp only [rhN,rhM];try rfl);(case c170=>(try dsimp only);rfl);(case e170=>rfl);(case d170=>exact hq);simp only [Act.put,rhA,rhS,rhT];refine hT 26 ?a172 ?f172 ?g172 ?b172 ?c172 ?d172 ?e172 ?h172 ?_;(case b172=>simp only [rhN,rhM];try rfl);(case c172=>(try dsimp only);rfl);(case e172=>rfl);(case d172=>exact hq);(case h172=>intro w hSw;(try dsimp only at hSw);go_simp <;> with_reducible rfl);simp only [Act.put,rhA,rhS,rhT]
            refine wpAnyH_done (by kernel_rfl) ?_ _
            go_wp2_with fail
            go_ret
            exact ⟨by rw [HE.out, HEp.out, HMs.out]; simp, below_of hB (by repeat' (first | exact Below.refl _ _ | refine Below.alloc ?_ ?_ _ | refine Below.setCell ?_ ?_ _ | refine Below.drew ?_ | (apply below_step; assumption) | (simp; done) | (simp; omega) | omega))⟩
          cases g2
          rotate_left
          · go_wp2_with fail
            refine wp_region_held_drew (S := (fun w' => Below wr.heap.size wr w' ∧ (∀ o, w'.cell? ⟨w.heap.size, o, none⟩ = (#[.int .i64 t.now, .int .i64 t.span, .int .i64 t.kind, .int .i64 t.limit, .int .i64 t.next, .int .i64 t.lease.c, .int .i64 t.lease.m, .int .i64 t.lease.p, .slice A0 t.epochs.length c0, .slice A1 t.pools.length c1, .slice A2 t.clu.tasks.length c2, .slice A3 t.clu.nodes.length c3, .slice A4 t.clu.binds.length c4, .slice A5 t.wants.length c5, .slice A6 t.ends.length c6, .int .i64 t.seen, .slice A7 t.insts.length c7, .slice A8 t.msgs.length c8] : Array Value)[o]?))) (by kernel_rfl) (by (try dsimp only); exact HK.out _ (by repeat' (first | exact Below.refl _ _ | refine Below.alloc ?_ ?_ _ | refine Below.setCell ?_ ?_ _ | refine Below.drew ?_ | (apply below_step; assumption) | (simp; done) | (simp; omega) | omega))) (fun hHeld => ?_)
            refine hT 0 ?a174 ?f174 ?g174 ?b174 ?c174 ?d174 ?e174 ?h174 ?_;(case b174=>simp only [rhN];try rfl);(case c174=>(try dsimp only);rfl);(case e174=>rfl);(case d174=>exact hq);(case h174=>intro w hSw;(try dsimp only at hSw);go_simp <;> with_reducible rfl);simp only [Act.put,rhA,rhS,rhT];refine hT 1 ?a175 ?f175 ?g175 ?b175 ?c175 ?d175 ?e175 ?h175 ?_;(case b175=>simp only [rhN,rhM];try rfl);(case c175=>(try dsimp only);rfl);(case e175=>rfl);(case d175=>exact hq);(case h175=>intro w hSw;(try dsimp only at hSw);go_simp <;> with_reducible rfl);simp only [Act.put,rhA,rhS,rhT];refine hT 2 ?a176 ?f176 ?g176 ?b176 ?c176 ?d176 ?e176 ?h176 ?_;(case b176=>simp only [rhN,rhM];try rfl);(case c176=>(try dsimp only);rfl);(case e176=>rfl);(case d176=>exact hq);(case h176=>intro w hSw;(try dsimp only at hSw);go_simp <;> with_reducible rfl);simp only [Act.put,rhA,rhS,rhT];refine hT 3 ?a177 ?f177 ?g177 ?b177 ?c177 ?d177 ?e177 ?h177 ?_;(case b177=>simp only [rhN,rhM];try rfl);(case c177=>(try dsimp only);rfl);(case e177=>rfl);(case d177=>exact hq);(case h177=>intro w hSw;(try dsimp only at hSw);go_simp <;> with_reducible rfl);simp only [Act.put,rhA,rhS,rhT];refine hT 4 ?a178 ?f178 ?g178 ?b178 ?c178 ?d178 ?e178 ?h178 ?_;(case b178=>simp only [rhN,rhM];try rfl);(case c178=>(try dsimp only);rfl);(case e178=>rfl);(case d178=>exact hq);(case h178=>intro w hSw;(try dsimp only at hSw);go_simp <;> with_reducible rfl);simp only [Act.put,rhA,rhS,rhT];refine hT 5 ?a179 ?f179 ?g179 ?b179 ?c179 ?d179 ?e179 ?h179 ?_;(case b179=>simp only [rhN,rhM];try rfl);(case c179=>(try dsimp only);rfl);(case e179=>rfl);(case d179=>exact hq);(case h179=>intro w hSw;(try dsimp only at hSw);go_simp <;> with_reducible rfl);simp only [Act.put,rhA,rhS,rhT];refine hT 6 ?a180 ?f180 ?g180 ?b180 ?c180 ?d180 ?e180 ?h180 ?_;(case b180=>simp only [rhN,rhM];try rfl);(case c180=>(try dsimp only);rfl);(case e180=>rfl);(case d180=>exact hq);(case h180=>intro w hSw;(try dsimp only at hSw);go_simp <;> with_reducible rfl);simp only [Act.put,rhA,rhS,rhT];refine hT 7 ?a181 ?f181 ?g181 ?b181 ?c181 ?d181 ?e181 ?h181 ?_;(case b181=>simp only [rhN,rhM];try rfl);(case c181=>(try dsimp only);rfl);(case e181=>rfl);(case d181=>exact hq);(case h181=>intro w hSw;(try dsimp only at hSw);go_simp <;> with_reducible rfl);simp only [Act.put,rhA,rhS,rhT];refine hT 8 ?a182 ?f182 ?g182 ?b182 ?c182 ?d182 ?e182 ?h182 ?_;(case b182=>simp only [rhN,rhM];try rfl);(case c182=>(try dsimp only);rfl);(case e182=>rfl);(case d182=>exact hq);(case h182=>intro w hSw;(try dsimp only at hSw);go_simp <;> with_reducible rfl);simp only [Act.put,rhA,rhS,rhT];refine hT 9 ?a183 ?f183 ?g183 ?b183 ?c183 ?d183 ?e183 ?h183 ?_;(case b183=>simp only [rhN,rhM];try rfl);(case c183=>(try dsimp only);rfl);(case e183=>rfl);(case d183=>exact hq);(case h183=>intro w hSw;(try dsimp only at hSw);go_simp <;> with_reducible rfl);simp only [Act.put,rhA,rhS,rhT];refine hT 10 ?a184 ?f184 ?g184 ?b184 ?c184 ?d184 ?e184 ?h184 ?_;(case b184=>simp only [rhN,rhM];try rfl);(case c184=>(try dsimp only);rfl);(case e184=>rfl);(case d184=>exact hq);(case h184=>intro w hSw;(try dsimp only at hSw);go_simp <;> with_reducible rfl);simp only [Act.put,rhA,rhS,rhT];refine hP 11 ?a186 ?g186 ?b186 ?c186 ?d186 ?e186 ?_;(case b186=>simp only [rhN,rhM];try rfl);(case c186=>(try dsimp only);rfl);(case e186=>rfl);(case d186=>exact hq);simp only [Act.put,rhA,rhS,rhT];refine hP 12 ?a187 ?g187 ?b187 ?c187 ?d187 ?e187 ?_;(case b187=>simp only [rhN,rhM];try rfl);(case c187=>(try dsimp only);rfl);(case e187=>rfl);(case d187=>exact hq);simp only [Act.put,rhA,rhS,rhT];refine hP 13 ?a188 ?g188 ?b188 ?c188 ?d188 ?e188 ?_;(case b188=>simp only [rhN,rhM];try rfl);(case c188=>(try dsimp only);rfl);(case e188=>rfl);(case d188=>exact hq);simp only [Act.put,rhA,rhS,rhT];refine hP 14 ?a189 ?g189 ?b189 ?c189 ?d189 ?e189 ?_;(case b189=>simp only [rhN,rhM];try rfl);(case c189=>(try dsimp only);rfl);(case e189=>rfl);(case d189=>exact hq);simp only [Act.put,rhA,rhS,rhT];refine hP 15 ?a190 ?g190 ?b190 ?c190 ?d190 ?e190 ?_;(case b190=>simp only [rhN,rhM];try rfl);(case c190=>(try dsimp only);rfl);(case e190=>rfl);(case d190=>exact hq);simp only [Act.put,rhA,rhS,rhT];refine hP 16 ?a191 ?g191 ?b191 ?c191 ?d191 ?e191 ?_;(case b191=>simp only [rhN,rhM];try rfl);(case c191=>(try dsimp only);rfl);(case e191=>rfl);(case d191=>exact hq);simp only [Act.put,rhA,rhS,rhT];refine hP 17 ?a192 ?g192 ?b192 ?c192 ?d192 ?e192 ?_;(case b192=>simp only [rhN,rhM];try rfl);(case c192=>(try dsimp only);rfl);(case e192=>rfl);(case d192=>exact hq);simp only [Act.put,rhA,rhS,rhT];refine hT 18 ?a194 ?f194 ?g194 ?b194 ?c194 ?d194 ?e194 ?h194 ?_;(case b194=>simp only [rhN,rhM];try rfl);(case c194=>(try dsimp only);rfl);(case e194=>rfl);(case d194=>exact hq);(case h194=>intro w hSw;(try dsimp only at hSw);go_simp <;> with_reducible rfl);simp only [Act.put,rhA,rhS,rhT];refine hT 19 ?a196 ?f196 ?g196 ?b196 ?c196 ?d196 ?e196 ?h196 ?_;(case b196=>simp only [rhN,rhM];try rfl);(case c196=>(try dsimp only);rfl);(case e196=>rfl);(case d196=>exact hq);(case h196=>intro w hSw;(try dsimp only at hSw);go_simp <;> with_reducible rfl);simp only [Act.put,rhA,rhS,rhT];refine hP 20 ?a198 ?g198 ?b198 ?c198 ?d198 ?e198 ?_;(case b198=>simp only [rhN,rhM];try rfl);(case c198=>(try dsimp only);rfl);(case e198=>rfl);(case d198=>exact hq);simp only [Act.put,rhA,rhS,rhT];refine hP 21 ?a199 ?g199 ?b199 ?c199 ?d199 ?e199 ?_;(case b199=>simp only [rhN,rhM];try rfl);(case c199=>(try dsimp only);rfl);(case e199=>rfl);(case d199=>exact hq);simp only [Act.put,rhA,rhS,rhT];refine hP 22 ?a200 ?g200 ?b200 ?c200 ?d200 ?e200 ?_;(case b200=>simp only [rhN,rhM];try rfl);(case c200=>(try dsimp only);rfl);(case e200=>rfl);(case d200=>exact hq);simp only [Act.put,rhA,rhS,rhT];refine hP 23 ?a201 ?g201 ?b201 ?c201 ?d201 ?e201 ?_;(case b201=>simp only [rhN,rhM];try rfl);(case c201=>(try dsimp only);rfl);(case e201=>rfl);(case d201=>exact hq);simp only [Act.put,rhA,rhS,rhT];refine hP 24 ?a202 ?g202 ?b202 ?c202 ?d202 ?e202 ?_;(case b202=>simp only [rhN,rhM];try rfl);(case c202=>(try dsimp only);rfl);(case e202=>rfl);(case d202=>exact hq);simp only [Act.put,rhA,rhS,rhT];refine hP 25 ?a203 ?g203 ?b203 ?c203 ?d203 ?e203 ?_;(case b203=>simp only [rhN,rhM];try rfl);(case c203=>(try dsimp only);rfl);(case e203=>rfl);(case d203=>exact hq);simp only [Act.put,rhA,rhS,rhT];refine hT 26 ?a205 ?f205 ?g205 ?b205 ?c205 ?d205 ?e205 ?h205 ?_;(case b205=>simp only [rhN,rhM];try rfl);(case c205=>(try dsimp only);rfl);(case e205=>rfl);(case d205=>exact hq);(case h205=>intro w hSw;(try dsimp only at hSw);go_simp <;> with_reducible rfl);simp only [Act.put,rhA,rhS,rhT]
            refine wpAnyH_done (by kernel_rfl) ?_ _
            go_wp2_with fail
            go_ret
            exact ⟨by rw [HE.out, HEp.out, HMs.out]; simp, below_of hB (by repeat' (first | exact Below.refl _ _ | refine Below.alloc ?_ ?_ _ | refine Below.setCell ?_ ?_ _ | refine Below.drew ?_ | (apply below_step; assumption) | (simp; done) | (simp; omega) | omega))⟩
          cases bw
          · go_wp2_with fail
            refine wp_region_held_drew (S := (fun w' => Below wr.heap.size wr w' ∧ (∀ o, w'.cell? ⟨w.heap.size, o, none⟩ = (#[.int .i64 t.now, .int .i64 t.span, .int .i64 t.kind, .int .i64 t.limit, .int .i64 t.next, .int .i64 t.lease.c, .int .i64 t.lease.m, .int .i64 t.lease.p, .slice A0 t.epochs.length c0, .slice A1 t.pools.length c1, .slice A2 t.clu.tasks.length c2, .slice A3 t.clu.nodes.length c3, .slice A4 t.clu.binds.length c4, .slice A5 t.wants.length c5, .slice A6 t.ends.length c6, .int .i64 t.seen, .slice A7 t.insts.length c7, .slice A8 t.msgs.length c8] : Array Value)[o]?))) (by kernel_rfl) (by (try dsimp only); exact HK.out _ (by repeat' (first | exact Below.refl _ _ | refine Below.alloc ?_ ?_ _ | refine Below.setCell ?_ ?_ _ | refine Below.drew ?_ | (apply below_step; assumption) | (simp; done) | (simp; omega) | omega))) (fun hHeld => ?_)
            refine hT 0 ?a207 ?f207 ?g207 ?b207 ?c207 ?d207 ?e207 ?h207 ?_;(case b207=>simp only [rhN];try rfl);(case c207=>(try dsimp only);rfl);(case e207=>rfl);(case d207=>exact hq);(case h207=>intro w hSw;(try dsimp only at hSw);go_simp <;> with_reducible rfl);simp only [Act.put,rhA,rhS,rhT];refine hT 1 ?a208 ?f208 ?g208 ?b208 ?c208 ?d208 ?e208 ?h208 ?_;(case b208=>simp only [rhN,rhM];try rfl);(case c208=>(try dsimp only);rfl);(case e208=>rfl);(case d208=>exact hq);(case h208=>intro w hSw;(try dsimp only at hSw);go_simp <;> with_reducible rfl);simp only [Act.put,rhA,rhS,rhT];refine hT 2 ?a209 ?f209 ?g209 ?b209 ?c209 ?d209 ?e209 ?h209 ?_;(case b209=>simp only [rhN,rhM];try rfl);(case c209=>(try dsimp only);rfl);(case e209=>rfl);(case d209=>exact hq);(case h209=>intro w hSw;(try dsimp only at hSw);go_simp <;> with_reducible rfl);simp only [Act.put,rhA,rhS,rhT];refine hT 3 ?a210 ?f210 ?g210 ?b210 ?c210 ?d210 ?e210 ?h210 ?_;(case b210=>simp only [rhN,rhM];try rfl);(case c210=>(try dsimp only);rfl);(case e210=>rfl);(case d210=>exact hq);(case h210=>intro w hSw;(try dsimp only at hSw);go_simp <;> with_reducible rfl);simp only [Act.put,rhA,rhS,rhT];refine hT 4 ?a211 ?f211 ?g211 ?b211 ?c211 ?d211 ?e211 ?h211 ?_;(case b211=>simp only [rhN,rhM];try rfl);(case c211=>(try dsimp only);rfl);(case e211=>rfl);(case d211=>exact hq);(case h211=>intro w hSw;(try dsimp only at hSw);go_simp <;> with_reducible rfl);simp only [Act.put,rhA,rhS,rhT];refine hT 5 ?a212 ?f212 ?g212 ?b212 ?c212 ?d212 ?e212 ?h212 ?_;(case b212=>simp only [rhN,rhM];try rfl);(case c212=>(try dsimp only);rfl);(case e212=>rfl);(case d212=>exact hq);(case h212=>intro w hSw;(try dsimp only at hSw);go_simp <;> with_reducible rfl);simp only [Act.put,rhA,rhS,rhT];refine hT 6 ?a213 ?f213 ?g213 ?b213 ?c213 ?d213 ?e213 ?h213 ?_;(case b213=>simp only [rhN,rhM];try rfl);(case c213=>(try dsimp only);rfl);(case e213=>rfl);(case d213=>exact hq);(case h213=>intro w hSw;(try dsimp only at hSw);go_simp <;> with_reducible rfl);simp only [Act.put,rhA,rhS,rhT];refine hT 7 ?a214 ?f214 ?g214 ?b214 ?c214 ?d214 ?e214 ?h214 ?_;(case b214=>simp only [rhN,rhM];try rfl);(case c214=>(try dsimp only);rfl);(case e214=>rfl);(case d214=>exact hq);(case h214=>intro w hSw;(try dsimp only at hSw);go_simp <;> with_reducible rfl);simp only [Act.put,rhA,rhS,rhT];refine hT 8 ?a215 ?f215 ?g215 ?b215 ?c215 ?d215 ?e215 ?h215 ?_;(case b215=>simp only [rhN,rhM];try rfl);(case c215=>(try dsimp only);rfl);(case e215=>rfl);(case d215=>exact hq);(case h215=>intro w hSw;(try dsimp only at hSw);go_simp <;> with_reducible rfl);simp only [Act.put,rhA,rhS,rhT];refine hT 9 ?a216 ?f216 ?g216 ?b216 ?c216 ?d216 ?e216 ?h216 ?_;(case b216=>simp only [rhN,rhM];try rfl);(case c216=>(try dsimp only);rfl);(case e216=>rfl);(case d216=>exact hq);(case h216=>intro w hSw;(try dsimp only at hSw);go_simp <;> with_reducible rfl);simp only [Act.put,rhA,rhS,rhT];refine hT 10 ?a217 ?f217 ?g217 ?b217 ?c217 ?d217 ?e217 ?h217 ?_;(case b217=>simp only [rhN,rhM];try rfl);(case c217=>(try dsimp only);rfl);(case e217=>rfl);(case d217=>exact hq);(case h217=>intro w hSw;(try dsimp only at hSw);go_simp <;> with_reducible rfl);simp only [Act.put,rhA,rhS,rhT];refine hT 11 ?a218 ?f218 ?g218 ?b218 ?c218 ?d218 ?e218 ?h218 ?_;(case b218=>simp only [rhN,rhM];try rfl);(case c218=>(try dsimp only);rfl);(case e218=>rfl);(case d218=>exact hq);(case h218=>intro w hSw;(try dsimp only at hSw);go_simp <;> with_reducible rfl);simp only [Act.put,rhA,rhS,rhT];refine hT 12 ?a219 ?f219 ?g219 ?b219 ?c219 ?d219 ?e219 ?h219 ?_;(case b219=>simp only [rhN,rhM];try rfl);(case c219=>(try dsimp only);rfl);(case e219=>rfl);(case d219=>exact hq);(case h219=>intro w hSw;(try dsimp only at hSw);go_simp <;> with_reducible rfl);simp only [Act.put,rhA,rhS,rhT];refine hT 14 ?a221 ?f221 ?g221 ?b221 ?c221 ?d221 ?e221 ?h221 ?_;(case b221=>simp only [rhN,rhM];try rfl);(case c221=>(try dsimp only);rfl);(case e221=>rfl);(case d221=>exact hq);(case h221=>intro w hSw;(try dsimp only at hSw);go_simp <;> with_reducible rfl);simp only [Act.put,rhA,rhS,rhT];refine hT 15 ?a223 ?f223 ?g223 ?b223 ?c223 ?d223 ?e223 ?h223 ?_;(case b223=>simp only [rhN,rhM];try rfl);(case c223=>(try dsimp only);rfl);(case e223=>rfl);(case d223=>exact hq);(case h223=>intro w hSw;(try dsimp only at hSw);go_simp <;> with_reducible rfl);simp only [Act.put,rhA,rhS,rhT]
            refine hCall (i := 13) (o := ?a224) ?b224 (by kernel_rfl) ?c224 (fun K hK => ?d224)
            case b224 => simp only [rhN, rhM]; try rfl
            case c224 => rfl
            go_simp
            refine (H5.out _ _ (HW.out.below (below_of hB (by repeat' (first | exact Below.refl _ _ | refine Below.alloc ?_ ?_ _ | refine Below.setCell ?_ ?_ _ | refine Below.drew ?_ | (apply below_step; assumption) | (simp; done) | (simp; omega) | omega)))).wa).mono ?_
            rintro e w3 ⟨v3, rfl, how, hb3⟩
            have HSL := Lib.hid (IntO.sl (OwnsJ.o how))
            have hz3 := hb3.size
            (try simp at hz3)
            clear how
            go_wp2_with fail
            refine hK.out _ _ (by (try dsimp only); exact HK.out _ (by repeat' (first | exact Below.refl _ _ | refine Below.alloc ?_ ?_ _ | refine Below.setCell ?_ ?_ _ | refine Below.drew ?_ | (apply below_step; assumption) | (simp; done) | (simp; omega) | omega))) (fun hHeld => ?_)
            clear hK K
            try simp only [Act.put, rhA, rhS, rhT]
            refine hCall (i := 16) (o := ?a225) ?b225 (by kernel_rfl) ?c225 (fun K hK => ?d225)
            case b225 => simp only [rhN, rhM]; try rfl
            case c225 => rfl
            go_simp
            refine (H6.out _ _ (HSL.out.below (by repeat' (first | exact Below.refl _ _ | refine Below.alloc ?_ ?_ _ | refine Below.setCell ?_ ?_ _ | refine Below.drew ?_ | (apply below_step; assumption) | (simp; done) | (simp; omega) | omega)))).mono ?_
            rintro e w4 ⟨rfl, hb4⟩
            have hz4 := hb4.size
            (try simp at hz4)
            go_wp2_with fail
            refine hK.out _ _ (by (try dsimp only); exact HK.out _ (by repeat' (first | exact Below.refl _ _ | refine Below.alloc ?_ ?_ _ | refine Below.setCell ?_ ?_ _ | refine Below.drew ?_ | (apply below_step; assumption) | (simp; done) | (simp; omega) | omega))) (fun hHeld => ?_)
            clear hK K
            try simp only [Act.put, rhA, rhS, rhT]
            refine hT 17 ?a227 ?f227 ?g227 ?b227 ?c227 ?d227 ?e227 ?h227 ?_;(case b227=>simp only [rhN,rhM];try rfl);(case c227=>(try dsimp only);rfl);(case e227=>rfl);(case d227=>exact hq);(case h227=>intro w hSw;(try dsimp only at hSw);go_simp <;> with_reducible rfl);simp only [Act.put,rhA,rhS,rhT];refine hT 18 ?a228 ?f228 ?g228 ?b228 ?c228 ?d228 ?e228 ?h228 ?_;(case b228=>simp only [rhN,rhM];try rfl);(case c228=>(try dsimp only);rfl);(case e228=>rfl);(case d228=>exact hq);(case h228=>intro w hSw;(try dsimp only at hSw);go_simp <;> with_reducible rfl);simp only [Act.put,rhA,rhS,rhT];refine hT 19 ?a229 ?f229 ?g229 ?b229 ?c229 ?d229 ?e229 ?h229 ?_;(case b229=>simp only [rhN,rhM];try rfl);(case c229=>(try dsimp only);rfl);(case e229=>rfl);(case d229=>exact hq);(case h229=>intro w hSw;(try dsimp only at hSw);go_simp <;> with_reducible rfl);simp only [Act.put,rhA,rhS,rhT];refine hP 20 ?a231 ?g231 ?b231 ?c231 ?d231 ?e231 ?_;(case b231=>simp only [rhN,rhM];try rfl);(case c231=>(try dsimp only);rfl);(case e231=>rfl);(case d231=>exact hq);simp only [Act.put,rhA,rhS,rhT];refine hP 21 ?a232 ?g232 ?b232 ?c232 ?d232 ?e232 ?_;(case b232=>simp only [rhN,rhM];try rfl);(case c232=>(try dsimp only);rfl);(case e232=>rfl);(case d232=>exact hq);simp only [Act.put,rhA,rhS,rhT];refine hP 22 ?a233 ?g233 ?b233 ?c233 ?d233 ?e233 ?_;(case b233=>simp only [rhN,rhM];try rfl);(case c233=>(try dsimp only);rfl);(case e233=>rfl);(case d233=>exact hq);simp only [Act.put,rhA,rhS,rhT];refine hP 23 ?a234 ?g234 ?b234 ?c234 ?d234 ?e234 ?_;(case b234=>simp only [rhN,rhM];try rfl);(case c234=>(try dsimp only);rfl);(case e234=>rfl);(case d234=>exact hq);simp only [Act.put,rhA,rhS,rhT];refine hP 24 ?a235 ?g235 ?b235 ?c235 ?d235 ?e235 ?_;(case b235=>simp only [rhN,rhM];try rfl);(case c235=>(try dsimp only);rfl);(case e235=>rfl);(case d235=>exact hq);simp only [Act.put,rhA,rhS,rhT];refine hP 25 ?a236 ?g236 ?b236 ?c236 ?d236 ?e236 ?_;(case b236=>simp only [rhN,rhM];try rfl);(case c236=>(try dsimp only);rfl);(case e236=>rfl);(case d236=>exact hq);simp only [Act.put,rhA,rhS,rhT];refine hT 26 ?a238 ?f238 ?g238 ?b238 ?c238 ?d238 ?e238 ?h238 ?_;(case b238=>simp only [rhN,rhM];try rfl);(case c238=>(try dsimp only);rfl);(case e238=>rfl);(case d238=>exact hq);(case h238=>intro w hSw;(try dsimp only at hSw);go_simp <;> with_reducible rfl);simp only [Act.put,rhA,rhS,rhT]
            refine wpAnyH_done (by kernel_rfl) ?_ _
            go_wp2_with fail
            go_ret
            exact ⟨by rw [HE.out, HEp.out, HMs.out]; simp, below_of hB (by repeat' (first | exact Below.refl _ _ | refine Below.alloc ?_ ?_ _ | refine Below.setCell ?_ ?_ _ | refine Below.drew ?_ | (apply below_step; assumption) | (simp; done) | (simp; omega) | omega))⟩
          cases be
          · go_wp2_with fail
            refine wp_region_held_drew (S := (fun w' => Below wr.heap.size wr w' ∧ (∀ o, w'.cell? ⟨w.heap.size, o, none⟩ = (#[.int .i64 t.now, .int .i64 t.span, .int .i64 t.kind, .int .i64 t.limit, .int .i64 t.next, .int .i64 t.lease.c, .int .i64 t.lease.m, .int .i64 t.lease.p, .slice A0 t.epochs.length c0, .slice A1 t.pools.length c1, .slice A2 t.clu.tasks.length c2, .slice A3 t.clu.nodes.length c3, .slice A4 t.clu.binds.length c4, .slice A5 t.wants.length c5, .slice A6 t.ends.length c6, .int .i64 t.seen, .slice A7 t.insts.length c7, .slice A8 t.msgs.length c8] : Array Value)[o]?))) (by kernel_rfl) (by (try dsimp only); exact HK.out _ (by repeat' (first | exact Below.refl _ _ | refine Below.alloc ?_ ?_ _ | refine Below.setCell ?_ ?_ _ | refine Below.drew ?_ | (apply below_step; assumption) | (simp; done) | (simp; omega) | omega))) (fun hHeld => ?_)
            refine hT 0 ?a240 ?f240 ?g240 ?b240 ?c240 ?d240 ?e240 ?h240 ?_;(case b240=>simp only [rhN];try rfl);(case c240=>(try dsimp only);rfl);(case e240=>rfl);(case d240=>exact hq);(case h240=>intro w hSw;(try dsimp only at hSw);go_simp <;> with_reducible rfl);simp only [Act.put,rhA,rhS,rhT];refine hT 1 ?a241 ?f241 ?g241 ?b241 ?c241 ?d241 ?e241 ?h241 ?_;(case b241=>simp only [rhN,rhM];try rfl);(case c241=>(try dsimp only);rfl);(case e241=>rfl);(case d241=>exact hq);(case h241=>intro w hSw;(try dsimp only at hSw);go_simp <;> with_reducible rfl);simp only [Act.put,rhA,rhS,rhT];refine hT 2 ?a242 ?f242 ?g242 ?b242 ?c242 ?d242 ?e242 ?h242 ?_;(case b242=>simp only [rhN,rhM];try rfl);(case c242=>(try dsimp only);rfl);(case e242=>rfl);(case d242=>exact hq);(case h242=>intro w hSw;(try dsimp only at hSw);go_simp <;> with_reducible rfl);simp only [Act.put,rhA,rhS,rhT];refine hT 3 ?a243 ?f243 ?g243 ?b243 ?c243 ?d243 ?e243 ?h243 ?_;(case b243=>simp only [rhN,rhM];try rfl);(case c243=>(try dsimp only);rfl);(case e243=>rfl);(case d243=>exact hq);(case h243=>intro w hSw;(try dsimp only at hSw);go_simp <;> with_reducible rfl);simp only [Act.put,rhA,rhS,rhT];refine hT 4 ?a244 ?f244 ?g244 ?b244 ?c244 ?d244 ?e244 ?h244 ?_;(case b244=>simp only [rhN,rhM];try rfl);(case c244=>(try dsimp only);rfl);(case e244=>rfl);(case d244=>exact hq);(case h244=>intro w hSw;(try dsimp only at hSw);go_simp <;> with_reducible rfl);simp only [Act.put,rhA,rhS,rhT];refine hT 5 ?a245 ?f245 ?g245 ?b245 ?c245 ?d245 ?e245 ?h245 ?_;(case b245=>simp only [rhN,rhM];try rfl);(case c245=>(try dsimp only);rfl);(case e245=>rfl);(case d245=>exact hq);(case h245=>intro w hSw;(try dsimp only at hSw);go_simp <;> with_reducible rfl);simp only [Act.put,rhA,rhS,rhT];refine hT 6 ?a246 ?f246 ?g246 ?b246 ?c246 ?d246 ?e246 ?h246 ?_;(case b246=>simp only [rhN,rhM];try rfl);(case c246=>(try dsimp only);rfl);(case e246=>rfl);(case d246=>exact hq);(case h246=>intro w hSw;(try dsimp only at hSw);go_simp <;> with_reducible rfl);simp only [Act.put,rhA,rhS,rhT];refine hT 7 ?a247 ?f247 ?g247 ?b247 ?c247 ?d247 ?e247 ?h247 ?_;(case b247=>simp only [rhN,rhM];try rfl);(case c247=>(try dsimp only);rfl);(case e247=>rfl);(case d247=>exact hq);(case h247=>intro w hSw;(try dsimp only at hSw);go_simp <;> with_reducible rfl);simp only [Act.put,rhA,rhS,rhT];refine hT 8 ?a248 ?f248 ?g248 ?b248 ?c248 ?d248 ?e248 ?h248 ?_;(case b248=>simp only [rhN,rhM];try rfl);(case c248=>(try dsimp only);rfl);(case e248=>rfl);(case d248=>exact hq);(case h248=>intro w hSw;(try dsimp only at hSw);go_simp <;> with_reducible rfl);simp only [Act.put,rhA,rhS,rhT];refine hT 9 ?a249 ?f249 ?g249 ?b249 ?c249 ?d249 ?e249 ?h249 ?_;(case b249=>simp only [rhN,rhM];try rfl);(case c249=>(try dsimp only);rfl);(case e249=>rfl);(case d249=>exact hq);(case h249=>intro w hSw;(try dsimp only at hSw);go_simp <;> with_reducible rfl);simp only [Act.put,rhA,rhS,rhT];refine hT 10 ?a250 ?f250 ?g250 ?b250 ?c250 ?d250 ?e250 ?h250 ?_;(case b250=>simp only [rhN,rhM];try rfl);(case c250=>(try dsimp only);rfl);(case e250=>rfl);(case d250=>exact hq);(case h250=>intro w hSw;(try dsimp only at hSw);go_simp <;> with_reducible rfl);simp only [Act.put,rhA,rhS,rhT];refine hT 11 ?a251 ?f251 ?g251 ?b251 ?c251 ?d251 ?e251 ?h251 ?_;(case b251=>simp only [rhN,rhM];try rfl);(case c251=>(try dsimp only);rfl);(case e251=>rfl);(case d251=>exact hq);(case h251=>intro w hSw;(try dsimp only at hSw);go_simp <;> with_reducible rfl);simp only [Act.put,rhA,rhS,rhT];refine hT 12 ?a252 ?f252 ?g252 ?b252 ?c252 ?d252 ?e252 ?h252 ?_;(case b252=>simp only [rhN,rhM];try rfl);(case c252=>(try dsimp only);rfl);(case e252=>rfl);(case d252=>exact hq);(case h252=>intro w hSw;(try dsimp only at hSw);go_simp <;> with_reducible rfl);simp only [Act.put,rhA,rhS,rhT];refine hT 14 ?a254 ?f254 ?g254 ?b254 ?c254 ?d254 ?e254 ?h254 ?_;(case b254=>simp only [rhN,rhM];try rfl);(case c254=>(try dsimp only);rfl);(case e254=>rfl);(case d254=>exact hq);(case h254=>intro w hSw;(try dsimp only at hSw);go_simp <;> with_reducible rfl);simp only [Act.put,rhA,rhS,rhT];refine hT 15 ?a256 ?f256 ?g256 ?b256 ?c256 ?d256 ?e256 ?h256 ?_;(case b256=>simp only [rhN,rhM];try rfl);(case c256=>(try dsimp only);rfl);(case e256=>rfl);(case d256=>exact hq);(case h256=>intro w hSw;(try dsimp only at hSw);go_simp <;> with_reducible rfl);simp only [Act.put,rhA,rhS,rhT]
            refine hCall (i := 13) (o := ?a257) ?b257 (by kernel_rfl) ?c257 (fun K hK => ?d257)
            case b257 => simp only [rhN, rhM]; try rfl
            case c257 => rfl
            go_simp
            refine (H5.out _ _ (HW.out.below (below_of hB (by repeat' (first | exact Below.refl _ _ | refine Below.alloc ?_ ?_ _ | refine Below.setCell ?_ ?_ _ | refine Below.drew ?_ | (apply below_step; assumption) | (simp; done) | (simp; omega) | omega)))).wa).mono ?_
            rintro e w3 ⟨v3, rfl, how, hb3⟩
            have HSL := Lib.hid (IntO.sl (OwnsJ.o how))
            have hz3 := hb3.size
            (try simp at hz3)
            clear how
            go_wp2_with fail
            refine hK.out _ _ (by (try dsimp only); exact HK.out _ (by repeat' (first | exact Below.refl _ _ | refine Below.alloc ?_ ?_ _ | refine Below.setCell ?_ ?_ _ | refine Below.drew ?_ | (apply below_step; assumption) | (simp; done) | (simp; omega) | omega))) (fun hHeld => ?_)
            clear hK K
            try simp only [Act.put, rhA, rhS, rhT]
            refine hCall (i := 16) (o := ?a258) ?b258 (by kernel_rfl) ?c258 (fun K hK => ?d258)
            case b258 => simp only [rhN, rhM]; try rfl
            case c258 => rfl
            go_simp
            refine (H6.out _ _ (HSL.out.below (by repeat' (first | exact Below.refl _ _ | refine Below.alloc ?_ ?_ _ | refine Below.setCell ?_ ?_ _ | refine Below.drew ?_ | (apply below_step; assumption) | (simp; done) | (simp; omega) | omega)))).mono ?_
            rintro e w4 ⟨rfl, hb4⟩
            have hz4 := hb4.size
            (try simp at hz4)
            go_wp2_with fail
            refine hK.out _ _ (by (try dsimp only); exact HK.out _ (by repeat' (first | exact Below.refl _ _ | refine Below.alloc ?_ ?_ _ | refine Below.setCell ?_ ?_ _ | refine Below.drew ?_ | (apply below_step; assumption) | (simp; done) | (simp; omega) | omega))) (fun hHeld => ?_)
            clear hK K
            try simp only [Act.put, rhA, rhS, rhT]
            refine hT 17 ?a260 ?f260 ?g260 ?b260 ?c260 ?d260 ?e260 ?h260 ?_;(case b260=>simp only [rhN,rhM];try rfl);(case c260=>(try dsimp only);rfl);(case e260=>rfl);(case d260=>exact hq);(case h260=>intro w hSw;(try dsimp only at hSw);go_simp <;> with_reducible rfl);simp only [Act.put,rhA,rhS,rhT];refine hT 18 ?a261 ?f261 ?g261 ?b261 ?c261 ?d261 ?e261 ?h261 ?_;(case b261=>simp only [rhN,rhM];try rfl);(case c261=>(try dsimp only);rfl);(case e261=>rfl);(case d261=>exact hq);(case h261=>intro w hSw;(try dsimp only at hSw);go_simp <;> with_reducible rfl);simp only [Act.put,rhA,rhS,rhT];refine hT 19 ?a262 ?f262 ?g262 ?b262 ?c262 ?d262 ?e262 ?h262 ?_;(case b262=>simp only [rhN,rhM];try rfl);(case c262=>(try dsimp only);rfl);(case e262=>rfl);(case d262=>exact hq);(case h262=>intro w hSw;(try dsimp only at hSw);go_simp <;> with_reducible rfl);simp only [Act.put,rhA,rhS,rhT];refine hT 20 ?a263 ?f263 ?g263 ?b263 ?c263 ?d263 ?e263 ?h263 ?_;(case b263=>simp only [rhN,rhM];try rfl);(case c263=>(try dsimp only);rfl);(case e263=>rfl);(case d263=>exact hq);(case h263=>intro w hSw;(try dsimp only at hSw);go_simp <;> with_reducible rfl);simp only [Act.put,rhA,rhS,rhT];refine hT 21 ?a264 ?f264 ?g264 ?b264 ?c264 ?d264 ?e264 ?h264 ?_;(case b264=>simp only [rhN,rhM];try rfl);(case c264=>(try dsimp only);rfl);(case e264=>rfl);(case d264=>exact hq);(case h264=>intro w hSw;(try dsimp only at hSw);go_simp <;> with_reducible rfl);simp only [Act.put,rhA,rhS,rhT];refine hT 22 ?a265 ?f265 ?g265 ?b265 ?c265 ?d265 ?e265 ?h265 ?_;(case b265=>simp only [rhN,rhM];try rfl);(case c265=>(try dsimp only);rfl);(case e265=>rfl);(case d265=>exact hq);(case h265=>intro w hSw;(try dsimp only at hSw);go_simp <;> with_reducible rfl);simp only [Act.put,rhA,rhS,rhT];refine hT 23 ?a266 ?f266 ?g266 ?b266 ?c266 ?d266 ?e266 ?h266 ?_;(case b266=>simp only [rhN,rhM];try rfl);(case c266=>(try dsimp only);rfl);(case e266=>rfl);(case d266=>exact hq);(case h266=>intro w hSw;(try dsimp only at hSw);go_simp <;> with_reducible rfl);simp only [Act.put,rhA,rhS,rhT]
            refine hCall (i := 24) (o := ?a267) ?b267 (by kernel_rfl) ?c267 (fun K hK => ?d267)
            case b267 => simp only [rhN, rhM]; try rfl
            case c267 => rfl
            go_simp
            refine (H7.out _ _ (HW.out.below (below_of hB (by repeat' (first | exact Below.refl _ _ | refine Below.alloc ?_ ?_ _ | refine Below.setCell ?_ ?_ _ | refine Below.drew ?_ | (apply below_step; assumption) | (simp; done) | (simp; omega) | omega)))).en).mono ?_
            rintro e w5 ⟨rfl, hb5⟩
            have hz5 := hb5.size
            (try simp at hz5)
            go_wp2_with fail
            refine hK.out _ _ (by (try dsimp only); exact HK.out _ (by repeat' (first | exact Below.refl _ _ | refine Below.alloc ?_ ?_ _ | refine Below.setCell ?_ ?_ _ | refine Below.drew ?_ | (apply below_step; assumption) | (simp; done) | (simp; omega) | omega))) (fun hHeld => ?_)
            clear hK K
            try simp only [Act.put, rhA, rhS, rhT]
            refine hT 25 ?a269 ?f269 ?g269 ?b269 ?c269 ?d269 ?e269 ?h269 ?_;(case b269=>simp only [rhN,rhM];try rfl);(case c269=>(try dsimp only);rfl);(case e269=>rfl);(case d269=>exact hq);(case h269=>intro w hSw;(try dsimp only at hSw);go_simp <;> with_reducible rfl);simp only [Act.put,rhA,rhS,rhT];refine hT 26 ?a271 ?f271 ?g271 ?b271 ?c271 ?d271 ?e271 ?h271 ?_;(case b271=>simp only [rhN,rhM];try rfl);(case c271=>(try dsimp only);rfl);(case e271=>rfl);(case d271=>exact hq);(case h271=>intro w hSw;(try dsimp only at hSw);go_simp <;> with_reducible rfl);simp only [Act.put,rhA,rhS,rhT]
            refine wpAnyH_done (by kernel_rfl) ?_ _
            go_wp2_with fail
            go_ret
            exact ⟨by rw [HE.out, HEp.out, HMs.out]; simp, below_of hB (by repeat' (first | exact Below.refl _ _ | refine Below.alloc ?_ ?_ _ | refine Below.setCell ?_ ?_ _ | refine Below.drew ?_ | (apply below_step; assumption) | (simp; done) | (simp; omega) | omega))⟩
          go_wp2_with fail
          refine wp_region_held_drew (S := (fun w' => Below wr.heap.size wr w' ∧ (∀ o, w'.cell? ⟨w.heap.size, o, none⟩ = (#[.int .i64 t.now, .int .i64 t.span, .int .i64 t.kind, .int .i64 t.limit, .int .i64 t.next, .int .i64 t.lease.c, .int .i64 t.lease.m, .int .i64 t.lease.p, .slice A0 t.epochs.length c0, .slice A1 t.pools.length c1, .slice A2 t.clu.tasks.length c2, .slice A3 t.clu.nodes.length c3, .slice A4 t.clu.binds.length c4, .slice A5 t.wants.length c5, .slice A6 t.ends.length c6, .int .i64 t.seen, .slice A7 t.insts.length c7, .slice A8 t.msgs.length c8] : Array Value)[o]?))) (by kernel_rfl) (by (try dsimp only); exact HK.out _ (by repeat' (first | exact Below.refl _ _ | refine Below.alloc ?_ ?_ _ | refine Below.setCell ?_ ?_ _ | refine Below.drew ?_ | (apply below_step; assumption) | (simp; done) | (simp; omega) | omega))) (fun hHeld => ?_)
          refine hT 0 ?a273 ?f273 ?g273 ?b273 ?c273 ?d273 ?e273 ?h273 ?_;(case b273=>simp only [rhN];try rfl);(case c273=>(try dsimp only);rfl);(case e273=>rfl);(case d273=>exact hq);(case h273=>intro w hSw;(try dsimp only at hSw);go_simp <;> with_reducible rfl);simp only [Act.put,rhA,rhS,rhT];refine hT 1 ?a274 ?f274 ?g274 ?b274 ?c274 ?d274 ?e274 ?h274 ?_;(case b274=>simp only [rhN,rhM];try rfl);(case c274=>(try dsimp only);rfl);(case e274=>rfl);(case d274=>exact hq);(case h274=>intro w hSw;(try dsimp only at hSw);go_simp <;> with_reducible rfl);simp only [Act.put,rhA,rhS,rhT];refine hT 2 ?a275 ?f275 ?g275 ?b275 ?c275 ?d275 ?e275 ?h275 ?_;(case b275=>simp only [rhN,rhM];try rfl);(case c275=>(try dsimp only);rfl);(case e275=>rfl);(case d275=>exact hq);(case h275=>intro w hSw;(try dsimp only at hSw);go_simp <;> with_reducible rfl);simp only [Act.put,rhA,rhS,rhT];refine hT 3 ?a276 ?f276 ?g276 ?b276 ?c276 ?d276 ?e276 ?h276 ?_;(case b276=>simp only [rhN,rhM];try rfl);(case c276=>(try dsimp only);rfl);(case e276=>rfl);(case d276=>exact hq);(case h276=>intro w hSw;(try dsimp only at hSw);go_simp <;> with_reducible rfl);simp only [Act.put,rhA,rhS,rhT];refine hT 4 ?a277 ?f277 ?g277 ?b277 ?c277 ?d277 ?e277 ?h277 ?_;(case b277=>simp only [rhN,rhM];try rfl);(case c277=>(try dsimp only);rfl);(case e277=>rfl);(case d277=>exact hq);(case h277=>intro w hSw;(try dsimp only at hSw);go_simp <;> with_reducible rfl);simp only [Act.put,rhA,rhS,rhT];refine hT 5 ?a278 ?f278 ?g278 ?b278 ?c278 ?d278 ?e278 ?h278 ?_;(case b278=>simp only [rhN,rhM];try rfl);(case c278=>(try dsimp only);rfl);(case e278=>rfl);(case d278=>exact hq);(case h278=>intro w hSw;(try dsimp only at hSw);go_simp <;> with_reducible rfl);simp only [Act.put,rhA,rhS,rhT];refine hT 6 ?a279 ?f279 ?g279 ?b279 ?c279 ?d279 ?e279 ?h279 ?_;(case b279=>simp only [rhN,rhM];try rfl);(case c279=>(try dsimp only);rfl);(case e279=>rfl);(case d279=>exact hq);(case h279=>intro w hSw;(try dsimp only at hSw);go_simp <;> with_reducible rfl);simp only [Act.put,rhA,rhS,rhT];refine hT 7 ?a280 ?f280 ?g280 ?b280 ?c280 ?d280 ?e280 ?h280 ?_;(case b280=>simp only [rhN,rhM];try rfl);(case c280=>(try dsimp only);rfl);(case e280=>rfl);(case d280=>exact hq);(case h280=>intro w hSw;(try dsimp only at hSw);go_simp <;> with_reducible rfl);simp only [Act.put,rhA,rhS,rhT];refine hT 8 ?a281 ?f281 ?g281 ?b281 ?c281 ?d281 ?e281 ?h281 ?_;(case b281=>simp only [rhN,rhM];try rfl);(case c281=>(try dsimp only);rfl);(case e281=>rfl);(case d281=>exact hq);(case h281=>intro w hSw;(try dsimp only at hSw);go_simp <;> with_reducible rfl);simp only [Act.put,rhA,rhS,rhT];refine hT 9 ?a282 ?f282 ?g282 ?b282 ?c282 ?d282 ?e282 ?h282 ?_;(case b282=>simp only [rhN,rhM];try rfl);(case c282=>(try dsimp only);rfl);(case e282=>rfl);(case d282=>exact hq);(case h282=>intro w hSw;(try dsimp only at hSw);go_simp <;> with_reducible rfl);simp only [Act.put,rhA,rhS,rhT];refine hT 10 ?a283 ?f283 ?g283 ?b283 ?c283 ?d283 ?e283 ?h283 ?_;(case b283=>simp only [rhN,rhM];try rfl);(case c283=>(try dsimp only);rfl);(case e283=>rfl);(case d283=>exact hq);(case h283=>intro w hSw;(try dsimp only at hSw);go_simp <;> with_reducible rfl);simp only [Act.put,rhA,rhS,rhT];refine hT 11 ?a284 ?f284 ?g284 ?b284 ?c284 ?d284 ?e284 ?h284 ?_;(case b284=>simp only [rhN,rhM];try rfl);(case c284=>(try dsimp only);rfl);(case e284=>rfl);(case d284=>exact hq);(case h284=>intro w hSw;(try dsimp only at hSw);go_simp <;> with_reducible rfl);simp only [Act.put,rhA,rhS,rhT];refine hT 12 ?a285 ?f285 ?g285 ?b285 ?c285 ?d285 ?e285 ?h285 ?_;(case b285=>simp only [rhN,rhM];try rfl);(case c285=>(try dsimp only);rfl);(case e285=>rfl);(case d285=>exact hq);(case h285=>intro w hSw;(try dsimp only at hSw);go_simp <;> with_reducible rfl);simp only [Act.put,rhA,rhS,rhT];refine hT 14 ?a287 ?f287 ?g287 ?b287 ?c287 ?d287 ?e287 ?h287 ?_;(case b287=>simp only [rhN,rhM];try rfl);(case c287=>(try dsimp only);rfl);(case e287=>rfl);(case d287=>exact hq);(case h287=>intro w hSw;(try dsimp only at hSw);go_simp <;> with_reducible rfl);simp only [Act.put,rhA,rhS,rhT];refine hT 15 ?a289 ?f289 ?g289 ?b289 ?c289 ?d289 ?e289 ?h289 ?_;(case b289=>simp only [rhN,rhM];try rfl);(case c289=>(try dsimp only);rfl);(case e289=>rfl);(case d289=>exact hq);(case h289=>intro w hSw;(try dsimp only at hSw);go_simp <;> with_reducible rfl);simp only [Act.put,rhA,rhS,rhT]
          refine hCall (i := 13) (o := ?a290) ?b290 (by kernel_rfl) ?c290 (fun K hK => ?d290)
          case b290 => simp only [rhN, rhM]; try rfl
          case c290 => rfl
          go_simp
          refine (H5.out _ _ (HW.out.below (below_of hB (by repeat' (first | exact Below.refl _ _ | refine Below.alloc ?_ ?_ _ | refine Below.setCell ?_ ?_ _ | refine Below.drew ?_ | (apply below_step; assumption) | (simp; done) | (simp; omega) | omega)))).wa).mono ?_
          rintro e w3 ⟨v3, rfl, how, hb3⟩
          have HSL := Lib.hid (IntO.sl (OwnsJ.o how))
          have hz3 := hb3.size
          (try simp at hz3)
          clear how
          go_wp2_with fail
          refine hK.out _ _ (by (try dsimp only); exact HK.out _ (by repeat' (first | exact Below.refl _ _ | refine Below.alloc ?_ ?_ _ | refine Below.setCell ?_ ?_ _ | refine Below.drew ?_ | (apply below_step; assumption) | (simp; done) | (simp; omega) | omega))) (fun hHeld => ?_)
          clear hK K
          try simp only [Act.put, rhA, rhS, rhT]
          refine hCall (i := 16) (o := ?a291) ?b291 (by kernel_rfl) ?c291 (fun K hK => ?d291)
          case b291 => simp only [rhN, rhM]; try rfl
          case c291 => rfl
          go_simp
          refine (H6.out _ _ (HSL.out.below (by repeat' (first | exact Below.refl _ _ | refine Below.alloc ?_ ?_ _ | refine Below.setCell ?_ ?_ _ | refine Below.drew ?_ | (apply below_step; assumption) | (simp; done) | (simp; omega) | omega)))).mono ?_
          rintro e w4 ⟨rfl, hb4⟩
          have hz4 := hb4.size
          (try simp at hz4)
          go_wp2_with fail
          refine hK.out _ _ (by (try dsimp only); exact HK.out _ (by repeat' (first | exact Below.refl _ _ | refine Below.alloc ?_ ?_ _ | refine Below.setCell ?_ ?_ _ | refine Below.drew ?_ | (apply below_step; assumption) | (simp; done) | (simp; omega) | omega))) (fun hHeld => ?_)
          clear hK K
          try simp only [Act.put, rhA, rhS, rhT]
          refine hT 17 ?a293 ?f293 ?g293 ?b293 ?c293 ?d293 ?e293 ?h293 ?_;(case b293=>simp only [rhN,rhM];try rfl);(case c293=>(try dsimp only);rfl);(case e293=>rfl);(case d293=>exact hq);(case h293=>intro w hSw;(try dsimp only at hSw);go_simp <;> with_reducible rfl);simp only [Act.put,rhA,rhS,rhT];refine hT 18 ?a294 ?f294 ?g294 ?b294 ?c294 ?d294 ?e294 ?h294 ?_;(case b294=>simp only [rhN,rhM];try rfl);(case c294=>(try dsimp only);rfl);(case e294=>rfl);(case d294=>exact hq);(case h294=>intro w hSw;(try dsimp only at hSw);go_simp <;> with_reducible rfl);simp only [Act.put,rhA,rhS,rhT];refine hT 19 ?a295 ?f295 ?g295 ?b295 ?c295 ?d295 ?e295 ?h295 ?_;(case b295=>simp only [rhN,rhM];try rfl);(case c295=>(try dsimp only);rfl);(case e295=>rfl);(case d295=>exact hq);(case h295=>intro w hSw;(try dsimp only at hSw);go_simp <;> with_reducible rfl);simp only [Act.put,rhA,rhS,rhT];refine hT 20 ?a296 ?f296 ?g296 ?b296 ?c296 ?d296 ?e296 ?h296 ?_;(case b296=>simp only [rhN,rhM];try rfl);(case c296=>(try dsimp only);rfl);(case e296=>rfl);(case d296=>exact hq);(case h296=>intro w hSw;(try dsimp only at hSw);go_simp <;> with_reducible rfl);simp only [Act.put,rhA,rhS,rhT];refine hT 21 ?a297 ?f297 ?g297 ?b297 ?c297 ?d297 ?e297 ?h297 ?_;(case b297=>simp only [rhN,rhM];try rfl);(case c297=>(try dsimp only);rfl);(case e297=>rfl);(case d297=>exact hq);(case h297=>intro w hSw;(try dsimp only at hSw);go_simp <;> with_reducible rfl);simp only [Act.put,rhA,rhS,rhT];refine hT 22 ?a298 ?f298 ?g298 ?b298 ?c298 ?d298 ?e298 ?h298 ?_;(case b298=>simp only [rhN,rhM];try rfl);(case c298=>(try dsimp only);rfl);(case e298=>rfl);(case d298=>exact hq);(case h298=>intro w hSw;(try dsimp only at hSw);go_simp <;> with_reducible rfl);simp only [Act.put,rhA,rhS,rhT];refine hT 23 ?a299 ?f299 ?g299 ?b299 ?c299 ?d299 ?e299 ?h299 ?_;(case b299=>simp only [rhN,rhM];try rfl);(case c299=>(try dsimp only);rfl);(case e299=>rfl);(case d299=>exact hq);(case h299=>intro w hSw;(try dsimp only at hSw);go_simp <;> with_reducible rfl);simp only [Act.put,rhA,rhS,rhT]
          refine hCall (i := 24) (o := ?a300) ?b300 (by kernel_rfl) ?c300 (fun K hK => ?d300)
          case b300 => simp only [rhN, rhM]; try rfl
          case c300 => rfl
          go_simp
          refine (H7.out _ _ (HW.out.below (below_of hB (by repeat' (first | exact Below.refl _ _ | refine Below.alloc ?_ ?_ _ | refine Below.setCell ?_ ?_ _ | refine Below.drew ?_ | (apply below_step; assumption) | (simp; done) | (simp; omega) | omega)))).en).mono ?_
          rintro e w5 ⟨rfl, hb5⟩
          have hz5 := hb5.size
          (try simp at hz5)
          go_wp2_with fail
          refine hK.out _ _ (by (try dsimp only); exact HK.out _ (by repeat' (first | exact Below.refl _ _ | refine Below.alloc ?_ ?_ _ | refine Below.setCell ?_ ?_ _ | refine Below.drew ?_ | (apply below_step; assumption) | (simp; done) | (simp; omega) | omega))) (fun hHeld => ?_)
          clear hK K
          try simp only [Act.put, rhA, rhS, rhT]
          refine hT 25 ?a302 ?f302 ?g302 ?b302 ?c302 ?d302 ?e302 ?h302 ?_;(case b302=>simp only [rhN,rhM];try rfl);(case c302=>(try dsimp only);rfl);(case e302=>rfl);(case d302=>exact hq);(case h302=>intro w hSw;(try dsimp only at hSw);go_simp <;> with_reducible rfl);simp only [Act.put,rhA,rhS,rhT];refine hT 26 ?a304 ?f304 ?g304 ?b304 ?c304 ?d304 ?e304 ?h304 ?_;(case b304=>simp only [rhN,rhM];try rfl);(case c304=>(try dsimp only);rfl);(case e304=>rfl);(case d304=>exact hq);(case h304=>intro w hSw;(try dsimp only at hSw);go_simp <;> with_reducible rfl);simp only [Act.put,rhA,rhS,rhT]
          refine wpAnyH_done (by kernel_rfl) ?_ _
          go_wp2_with fail
          clear hlt
          go_loopw [5] (fun s5 wr => ∃ k : Nat, k ≤ t.wants.length ∧ s5 = .int .i64 k ∧ t.wants.all (fun v => hasPool t.pools v.node && !hasNode t.clu v.task) = (t.wants.drop k).all (fun v => hasPool t.pools v.node && !hasNode t.clu v.task) ∧ BlockIs wr w.heap.size 39 #[.int .i64 t.now, .int .i64 t.span, .int .i64 t.kind, .int .i64 t.limit, .int .i64 t.next, .int .i64 t.lease.c, .int .i64 t.lease.m, .int .i64 t.lease.p, .slice A0 t.epochs.length c0, .slice A1 t.pools.length c1, .slice A2 t.clu.tasks.length c2, .slice A3 t.clu.nodes.length c3, .slice A4 t.clu.binds.length c4, .slice A5 t.wants.length c5, .slice A6 t.ends.length c6, .int .i64 t.seen, .slice A7 t.insts.length c7, .slice A8 t.msgs.length c8] ∧ Below w.heap.size w wr) (fun s5 _ => (t.wants.length - RowKit.intOf s5).toNat)
          case atStart => exact ⟨0, by omega, rfl, by rw [List.drop_zero], HBK.out.below (by repeat' (first | exact Below.refl _ _ | refine Below.alloc ?_ ?_ _ | refine Below.setCell ?_ ?_ _ | refine Below.drew ?_ | (apply below_step; assumption) | (simp; done) | (simp; omega) | omega)) gl, below_of hB (by repeat' (first | exact Below.refl _ _ | refine Below.alloc ?_ ?_ _ | refine Below.setCell ?_ ?_ _ | refine Below.drew ?_ | (apply below_step; assumption) | (simp; done) | (simp; omega) | omega))⟩
          case round =>
            clear HBK hB hzr x17 x4 x6 gc gl HK
            obtain ⟨k, hk, rfl, hall, hblk, hB⟩ := hrel
            have HBK := Lib.hid hblk
            have hzr := hB.size
            have x13 := hblk.cell 13
            simp at x13
            have gc := hblk.cell
            have gl := hblk.lt
            clear hblk
            by_cases hlt : k < t.wants.length
            · skip
              obtain ⟨A, c, e0, hA⟩ := (HW.out.wa).form
              obtain ⟨b, off, rfl, hbw, hat⟩ := hA (by omega)
              simp only [Value.slice.injEq] at e0
              obtain ⟨rfl, -, rfl⟩ := e0
              obtain ⟨r, hr⟩ : ∃ r, t.wants[k]? = some r := ⟨_, List.getElem?_eq_getElem hlt⟩
              have hki : (k : Int) < (t.wants.length : Int) := by omega
              have hk0 : (0 : Int) ≤ (k : Int) := by omega
              obtain ⟨cs, hR, hC⟩ := (hat.below WantR.kept hB hbw) k r hr
              obtain rfl := hR
              obtain ⟨q0, q1⟩ := want_cells hC
              have hbr : b < wr.heap.size := by omega
              have HK := Lib.hid (show ∀ w', Below wr.heap.size wr w' → (fun w' => Below wr.heap.size wr w' ∧ (∀ o, w'.cell? ⟨w.heap.size, o, none⟩ = (#[.int .i64 t.now, .int .i64 t.span, .int .i64 t.kind, .int .i64 t.limit, .int .i64 t.next, .int .i64 t.lease.c, .int .i64 t.lease.m, .int .i64 t.lease.p, .slice A0 t.epochs.length c0, .slice A1 t.pools.length c1, .slice A2 t.clu.tasks.length c2, .slice A3 t.clu.nodes.length c3, .slice A4 t.clu.binds.length c4, .slice (some ⟨b, off, none⟩) t.wants.length c5, .slice A6 t.ends.length c6, .int .i64 t.seen, .slice A7 t.insts.length c7, .slice A8 t.msgs.length c8] : Array Value)[o]?) ∧ w'.cell? ⟨b, off + k * 2, none⟩ = some (.int .i64 r.task) ∧ w'.cell? ⟨b, off + k * 2 + 1, none⟩ = some (.int .i64 r.node)) w' from fun w' hb => ⟨hb, fun o => (hb.cell (p := ⟨_, _, none⟩) gl).trans (gc o), (hb.cell (p := ⟨_, _, none⟩) hbr).trans q0, (hb.cell (p := ⟨_, _, none⟩) hbr).trans q1⟩)
              have hhp := fun v w hv => l08Has_any v t.pools r.node w hv l1
              have hsn := fun w1 h1 => sNode_any t.clu _ _ _ r.task w w1 h1 HW.out.clu
              have hng := node_geq t.clu r.task
              have hst := all_step hall hr
              generalize hasPool t.pools r.node = bp at *
              generalize hasNode t.clu r.task = bn at *
              generalize idxBy NV.id t.clu.nodes r.task = j at *
              have HST := Lib.hid hst
              have HHP := Lib.hid hhp
              have HSN := Lib.hid hsn
              clear hat hr hall hA hC hhp hsn hst
              cases bp
              · go_wp2_with fail
                refine wp_region_held_drew (S := (fun w' => Below wr.heap.size wr w' ∧ (∀ o, w'.cell? ⟨w.heap.size, o, none⟩ = (#[.int .i64 t.now, .int .i64 t.span, .int .i64 t.kind, .int .i64 t.limit, .int .i64 t.next, .int .i64 t.lease.c, .int .i64 t.lease.m, .int .i64 t.lease.p, .slice A0 t.epochs.length c0, .slice A1 t.pools.length c1, .slice A2 t.clu.tasks.length c2, .slice A3 t.clu.nodes.length c3, .slice A4 t.clu.binds.length c4, .slice (some ⟨b, off, none⟩) t.wants.length c5, .slice A6 t.ends.length c6, .int .i64 t.seen, .slice A7 t.insts.length c7, .slice A8 t.msgs.length c8] : Array Value)[o]?) ∧ w'.cell? ⟨b, off + k * 2, none⟩ = some (.int .i64 r.task) ∧ w'.cell? ⟨b, off + k * 2 + 1, none⟩ = some (.int .i64 r.node))) (by kernel_rfl) (by (try dsimp only); exact HK.out _ (by repeat' (first | exact Below.refl _ _ | refine Below.alloc ?_ ?_ _ | refine Below.setCell ?_ ?_ _ | refine Below.drew ?_ | (apply below_step; assumption) | (simp; done) | (simp; omega) | omega))) (fun hHeld => ?_)
                refine hT 0 ?a306 ?f306 ?g306 ?b306 ?c306 ?d306 ?e306 ?h306 ?_;(case b306=>simp only [rhN];try rfl);(case c306=>(try dsimp only);rfl);(case e306=>rfl);(case d306=>exact hq);(case h306=>intro w hSw;(try dsimp only at hSw);go_simp <;> with_reducible rfl);simp only [Act.put,rhA,rhS,rhT];refine hT 1 ?a307 ?f307 ?g307 ?b307 ?c307 ?d307 ?e307 ?h307 ?_;(case b307=>simp only [rhN,rhM];try rfl);(case c307=>(try dsimp only);rfl);(case e307=>rfl);(case d307=>exact hq);(case h307=>intro w hSw;(try dsimp only at hSw);go_simp <;> with_reducible rfl);simp only [Act.put,rhA,rhS,rhT];refine hT 2 ?a308 ?f308 ?g308 ?b308 ?c308 ?d308 ?e308 ?h308 ?_;(case b308=>simp only [rhN,rhM];try rfl);(case c308=>(try dsimp only);rfl);(case e308=>rfl);(case d308=>exact hq);(case h308=>intro w hSw;(try dsimp only at hSw);go_simp <;> with_reducible rfl);simp only [Act.put,rhA,rhS,rhT];refine hT 3 ?a309 ?f309 ?g309 ?b309 ?c309 ?d309 ?e309 ?h309 ?_;(case b309=>simp only [rhN,rhM];try rfl);(case c309=>(try dsimp only);rfl);(case e309=>rfl);(case d309=>exact hq);(case h309=>intro w hSw;(try dsimp only at hSw);go_simp <;> with_reducible rfl);simp only [Act.put,rhA,rhS,rhT];refine hT 4 ?a310 ?f310 ?g310 ?b310 ?c310 ?d310 ?e310 ?h310 ?_;(case b310=>simp only [rhN,rhM];try rfl);(case c310=>(try dsimp only);rfl);(case e310=>rfl);(case d310=>exact hq);(case h310=>intro w hSw;(try dsimp only at hSw);go_simp <;> with_reducible rfl);simp only [Act.put,rhA,rhS,rhT];refine hT 5 ?a311 ?f311 ?g311 ?b311 ?c311 ?d311 ?e311 ?h311 ?_;(case b311=>simp only [rhN,rhM];try rfl);(case c311=>(try dsimp only);rfl);(case e311=>rfl);(case d311=>exact hq);(case h311=>intro w hSw;(try dsimp only at hSw);go_simp <;> with_reducible rfl);simp only [Act.put,rhA,rhS,rhT];refine hT 6 ?a312 ?f312 ?g312 ?b312 ?c312 ?d312 ?e312 ?h312 ?_;(case b312=>simp only [rhN,rhM];try rfl);(case c312=>(try dsimp only);rfl);(case e312=>rfl);(case d312=>exact hq);(case h312=>intro w hSw;(try dsimp only at hSw);go_simp <;> with_reducible rfl);simp only [Act.put,rhA,rhS,rhT];refine hT 7 ?a313 ?f313 ?g313 ?b313 ?c313 ?d313 ?e313 ?h313 ?_;(case b313=>simp only [rhN,rhM];try rfl);(case c313=>(try dsimp only);rfl);(case e313=>rfl);(case d313=>exact hq);(case h313=>intro w hSw;(try dsimp only at hSw);go_simp <;> with_reducible rfl);simp only [Act.put,rhA,rhS,rhT]
                refine hCall (i := 8) (o := ?a314) ?b314 (by kernel_rfl) ?c314 (fun K hK => ?d314)
                case b314 => simp only [rhN, rhM]; try rfl
                case c314 => rfl
                go_simp
                refine (HHP.out _ _ (HW.out.below (below_of hB (by repeat' (first | exact Below.refl _ _ | refine Below.alloc ?_ ?_ _ | refine Below.setCell ?_ ?_ _ | refine Below.drew ?_ | (apply below_step; assumption) | (simp; done) | (simp; omega) | omega)))).po).mono ?_
                rintro e w3 ⟨rfl, hb3⟩
                have hz3 := hb3.size
                (try simp at hz3)
                go_wp2_with fail
                refine hK.out _ _ (by (try dsimp only); exact HK.out _ (by repeat' (first | exact Below.refl _ _ | refine Below.alloc ?_ ?_ _ | refine Below.setCell ?_ ?_ _ | refine Below.drew ?_ | (apply below_step; assumption) | (simp; done) | (simp; omega) | omega))) (fun hHeld => ?_)
                clear hK K
                try simp only [Act.put, rhA, rhS, rhT]
                refine hT 9 ?a316 ?f316 ?g316 ?b316 ?c316 ?d316 ?e316 ?h316 ?_;(case b316=>simp only [rhN,rhM];try rfl);(case c316=>(try dsimp only);rfl);(case e316=>rfl);(case d316=>exact hq);(case h316=>intro w hSw;(try dsimp only at hSw);go_simp <;> with_reducible rfl);simp only [Act.put,rhA,rhS,rhT];refine hT 10 ?a318 ?f318 ?g318 ?b318 ?c318 ?d318 ?e318 ?h318 ?_;(case b318=>simp only [rhN,rhM];try rfl);(case c318=>(try dsimp only);rfl);(case e318=>rfl);(case d318=>exact hq);(case h318=>intro w hSw;(try dsimp only at hSw);go_simp <;> with_reducible rfl);simp only [Act.put,rhA,rhS,rhT];refine hP 11 ?a320 ?g320 ?b320 ?c320 ?d320 ?e320 ?_;(case b320=>simp only [rhN,rhM];try rfl);(case c320=>(try dsimp only);rfl);(case e320=>rfl);(case d320=>exact hq);simp only [Act.put,rhA,rhS,rhT];refine hP 12 ?a321 ?g321 ?b321 ?c321 ?d321 ?e321 ?_;(case b321=>simp only [rhN,rhM];try rfl);(case c321=>(try dsimp only);rfl);(case e321=>rfl);(case d321=>exact hq);simp only [Act.put,rhA,rhS,rhT];refine hP 13 ?a322 ?g322 ?b322 ?c322 ?d322 ?e322 ?_;(case b322=>simp only [rhN,rhM];try rfl);(case c322=>(try dsimp only);rfl);(case e322=>rfl);(case d322=>exact hq);simp only [Act.put,rhA,rhS,rhT];refine hP 14 ?a323 ?g323 ?b323 ?c323 ?d323 ?e323 ?_;(case b323=>simp only [rhN,rhM];try rfl);(case c323=>(try dsimp only);rfl);(case e323=>rfl);(case d323=>exact hq);simp only [Act.put,rhA,rhS,rhT];refine hP 15 ?a324 ?g324 ?b324 ?c324 ?d324 ?e324 ?_;(case b324=>simp only [rhN,rhM];try rfl);(case c324=>(try dsimp only);rfl);(case e324=>rfl);(case d324=>exact hq);simp only [Act.put,rhA,rhS,rhT];refine hP 16 ?a325 ?g325 ?b325 ?c325 ?d325 ?e325 ?_;(case b325=>simp only [rhN,rhM];try rfl);(case c325=>(try dsimp only);rfl);(case e325=>rfl);(case d325=>exact hq);simp only [Act.put,rhA,rhS,rhT];refine hP 17 ?a326 ?g326 ?b326 ?c326 ?d326 ?e326 ?_;(case b326=>simp only [rhN,rhM];try rfl);(case c326=>(try dsimp only);rfl);(case e326=>rfl);(case d326=>exact hq);simp only [Act.put,rhA,rhS,rhT];refine hP 18 ?a327 ?g327 ?b327 ?c327 ?d327 ?e327 ?_;(case b327=>simp only [rhN,rhM];try rfl);(case c327=>(try dsimp only);rfl);(case e327=>rfl);(case d327=>exact hq);simp only [Act.put,rhA,rhS,rhT];refine hP 19 ?a328 ?g328 ?b328 ?c328 ?d328 ?e328 ?_;(case b328=>simp only [rhN,rhM];try rfl);(case c328=>(try dsimp only);rfl);(case e328=>rfl);(case d328=>exact hq);simp only [Act.put,rhA,rhS,rhT];refine hP 20 ?a329 ?g329 ?b329 ?c329 ?d329 ?e329 ?_;(case b329=>simp only [rhN,rhM];try rfl);(case c329=>(try dsimp only);rfl);(case e329=>rfl);(case d329=>exact hq);simp only [Act.put,rhA,rhS,rhT];refine hT 21 ?a331 ?f331 ?g331 ?b331 ?c331 ?d331 ?e331 ?h331 ?_;(case b331=>simp only [rhN,rhM];try rfl);(case c331=>(try dsimp only);rfl);(case e331=>rfl);(case d331=>exact hq);(case h331=>intro w hSw;(try dsimp only at hSw);go_simp <;> with_reducible rfl);simp only [Act.put,rhA,rhS,rhT]
                refine wpAnyH_done (by kernel_rfl) ?_ _
                go_wp2_with fail
                go_ret
                exact ⟨by rw [HE.out, HEp.out, HMs.out, HST.out]; simp, below_of hB (by repeat' (first | exact Below.refl _ _ | refine Below.alloc ?_ ?_ _ | refine Below.setCell ?_ ?_ _ | refine Below.drew ?_ | (apply below_step; assumption) | (simp; done) | (simp; omega) | omega))⟩
              cases bn
              rotate_left
              · go_wp2_with fail
                refine wp_region_held_drew (S := (fun w' => Below wr.heap.size wr w' ∧ (∀ o, w'.cell? ⟨w.heap.size, o, none⟩ = (#[.int .i64 t.now, .int .i64 t.span, .int .i64 t.kind, .int .i64 t.limit, .int .i64 t.next, .int .i64 t.lease.c, .int .i64 t.lease.m, .int .i64 t.lease.p, .slice A0 t.epochs.length c0, .slice A1 t.pools.length c1, .slice A2 t.clu.tasks.length c2, .slice A3 t.clu.nodes.length c3, .slice A4 t.clu.binds.length c4, .slice (some ⟨b, off, none⟩) t.wants.length c5, .slice A6 t.ends.length c6, .int .i64 t.seen, .slice A7 t.insts.length c7, .slice A8 t.msgs.length c8] : Array Value)[o]?) ∧ w'.cell? ⟨b, off + k * 2, none⟩ = some (.int .i64 r.task) ∧ w'.cell? ⟨b, off + k * 2 + 1, none⟩ = some (.int .i64 r.node))) (by kernel_rfl) (by (try dsimp only); exact HK.out _ (by repeat' (first | exact Below.refl _ _ | refine Below.alloc ?_ ?_ _ | refine Below.setCell ?_ ?_ _ | refine Below.drew ?_ | (apply below_step; assumption) | (simp; done) | (simp; omega) | omega))) (fun hHeld => ?_)
                refine hT 0 ?a333 ?f333 ?g333 ?b333 ?c333 ?d333 ?e333 ?h333 ?_;(case b333=>simp only [rhN];try rfl);(case c333=>(try dsimp only);rfl);(case e333=>rfl);(case d333=>exact hq);(case h333=>intro w hSw;(try dsimp only at hSw);go_simp <;> with_reducible rfl);simp only [Act.put,rhA,rhS,rhT];refine hT 1 ?a334 ?f334 ?g334 ?b334 ?c334 ?d334 ?e334 ?h334 ?_;(case b334=>simp only [rhN,rhM];try rfl);(case c334=>(try dsimp only);rfl);(case e334=>rfl);(case d334=>exact hq);(case h334=>intro w hSw;(try dsimp only at hSw);go_simp <;> with_reducible rfl);simp only [Act.put,rhA,rhS,rhT];refine hT 2 ?a335 ?f335 ?g335 ?b335 ?c335 ?d335 ?e335 ?h335 ?_;(case b335=>simp only [rhN,rhM];try rfl);(case c335=>(try dsimp only);rfl);(case e335=>rfl);(case d335=>exact hq);(case h335=>intro w hSw;(try dsimp only at hSw);go_simp <;> with_reducible rfl);simp only [Act.put,rhA,rhS,rhT];refine hT 3 ?a336 ?f336 ?g336 ?b336 ?c336 ?d336 ?e336 ?h336 ?_;(case b336=>simp only [rhN,rhM];try rfl);(case c336=>(try dsimp only);rfl);(case e336=>rfl);(case d336=>exact hq);(case h336=>intro w hSw;(try dsimp only at hSw);go_simp <;> with_reducible rfl);simp only [Act.put,rhA,rhS,rhT];refine hT 4 ?a337 ?f337 ?g337 ?b337 ?c337 ?d337 ?e337 ?h337 ?_;(case b337=>simp only [rhN,rhM];try rfl);(case c337=>(try dsimp only);rfl);(case e337=>rfl);(case d337=>exact hq);(case h337=>intro w hSw;(try dsimp only at hSw);go_simp <;> with_reducible rfl);simp only [Act.put,rhA,rhS,rhT];refine hT 5 ?a338 ?f338 ?g338 ?b338 ?c338 ?d338 ?e338 ?h338 ?_;(case b338=>simp only [rhN,rhM];try rfl);(case c338=>(try dsimp only);rfl);(case e338=>rfl);(case d338=>exact hq);(case h338=>intro w hSw;(try dsimp only at hSw);go_simp <;> with_reducible rfl);simp only [Act.put,rhA,rhS,rhT];refine hT 6 ?a339 ?f339 ?g339 ?b339 ?c339 ?d339 ?e339 ?h339 ?_;(case b339=>simp only [rhN,rhM];try rfl);(case c339=>(try dsimp only);rfl);(case e339=>rfl);(case d339=>exact hq);(case h339=>intro w hSw;(try dsimp only at hSw);go_simp <;> with_reducible rfl);simp only [Act.put,rhA,rhS,rhT];refine hT 7 ?a340 ?f340 ?g340 ?b340 ?c340 ?d340 ?e340 ?h340 ?_;(case b340=>simp only [rhN,rhM];try rfl);(case c340=>(try dsimp only);rfl);(case e340=>rfl);(case d340=>exact hq);(case h340=>intro w hSw;(try dsimp only at hSw);go_simp <;> with_reducible rfl);simp only [Act.put,rhA,rhS,rhT]
                refine hCall (i := 8) (o := ?a341) ?b341 (by kernel_rfl) ?c341 (fun K hK => ?d341)
                case b341 => simp only [rhN, rhM]; try rfl
                case c341 => rfl
                go_simp
                refine (HHP.out _ _ (HW.out.below (below_of hB (by repeat' (first | exact Below.refl _ _ | refine Below.alloc ?_ ?_ _ | refine Below.setCell ?_ ?_ _ | refine Below.drew ?_ | (apply below_step; assumption) | (simp; done) | (simp; omega) | omega)))).po).mono ?_
                rintro e w3 ⟨rfl, hb3⟩
                have hz3 := hb3.size
                (try simp at hz3)
                go_wp2_with fail
                refine hK.out _ _ (by (try dsimp only); exact HK.out _ (by repeat' (first | exact Below.refl _ _ | refine Below.alloc ?_ ?_ _ | refine Below.setCell ?_ ?_ _ | refine Below.drew ?_ | (apply below_step; assumption) | (simp; done) | (simp; omega) | omega))) (fun hHeld => ?_)
                clear hK K
                try simp only [Act.put, rhA, rhS, rhT]
                refine hT 9 ?a343 ?f343 ?g343 ?b343 ?c343 ?d343 ?e343 ?h343 ?_;(case b343=>simp only [rhN,rhM];try rfl);(case c343=>(try dsimp only);rfl);(case e343=>rfl);(case d343=>exact hq);(case h343=>intro w hSw;(try dsimp only at hSw);go_simp <;> with_reducible rfl);simp only [Act.put,rhA,rhS,rhT];refine hT 10 ?a344 ?f344 ?g344 ?b344 ?c344 ?d344 ?e344 ?h344 ?_;(case b344=>simp only [rhN,rhM];try rfl);(case c344=>(try dsimp only);rfl);(case e344=>rfl);(case d344=>exact hq);(case h344=>intro w hSw;(try dsimp only at hSw);go_simp <;> with_reducible rfl);simp only [Act.put,rhA,rhS,rhT];refine hT 11 ?a345 ?f345 ?g345 ?b345 ?c345 ?d345 ?e345 ?h345 ?_;(case b345=>simp only [rhN,rhM];try rfl);(case c345=>(try dsimp only);rfl);(case e345=>rfl);(case d345=>exact hq);(case h345=>intro w hSw;(try dsimp only at hSw);go_simp <;> with_reducible rfl);simp only [Act.put,rhA,rhS,rhT];refine hT 12 ?a346 ?f346 ?g346 ?b346 ?c346 ?d346 ?e346 ?h346 ?_;(case b346=>simp only [rhN,rhM];try rfl);(case c346=>(try dsimp only);rfl);(case e346=>rfl);(case d346=>exact hq);(case h346=>intro w hSw;(try dsimp only at hSw);go_simp <;> with_reducible rfl);simp only [Act.put,rhA,rhS,rhT];refine hT 13 ?a347 ?f347 ?g347 ?b347 ?c347 ?d347 ?e347 ?h347 ?_;(case b347=>simp only [rhN,rhM];try rfl);(case c347=>(try dsimp only);rfl);(case e347=>rfl);(case d347=>exact hq);(case h347=>intro w hSw;(try dsimp only at hSw);go_simp <;> with_reducible rfl);simp only [Act.put,rhA,rhS,rhT];refine hT 14 ?a348 ?f348 ?g348 ?b348 ?c348 ?d348 ?e348 ?h348 ?_;(case b348=>simp only [rhN,rhM];try rfl);(case c348=>(try dsimp only);rfl);(case e348=>rfl);(case d348=>exact hq);(case h348=>intro w hSw;(try dsimp only at hSw);go_simp <;> with_reducible rfl);simp only [Act.put,rhA,rhS,rhT];refine hT 15 ?a349 ?f349 ?g349 ?b349 ?c349 ?d349 ?e349 ?h349 ?_;(case b349=>simp only [rhN,rhM];try rfl);(case c349=>(try dsimp only);rfl);(case e349=>rfl);(case d349=>exact hq);(case h349=>intro w hSw;(try dsimp only at hSw);go_simp <;> with_reducible rfl);simp only [Act.put,rhA,rhS,rhT];refine hT 16 ?a350 ?f350 ?g350 ?b350 ?c350 ?d350 ?e350 ?h350 ?_;(case b350=>simp only [rhN,rhM];try rfl);(case c350=>(try dsimp only);rfl);(case e350=>rfl);(case d350=>exact hq);(case h350=>intro w hSw;(try dsimp only at hSw);go_simp <;> with_reducible rfl);simp only [Act.put,rhA,rhS,rhT];refine hT 17 ?a351 ?f351 ?g351 ?b351 ?c351 ?d351 ?e351 ?h351 ?_;(case b351=>simp only [rhN,rhM];try rfl);(case c351=>(try dsimp only);rfl);(case e351=>rfl);(case d351=>exact hq);(case h351=>intro w hSw;(try dsimp only at hSw);go_simp <;> with_reducible rfl);simp only [Act.put,rhA,rhS,rhT];refine hT 18 ?a352 ?f352 ?g352 ?b352 ?c352 ?d352 ?e352 ?h352 ?_;(case b352=>simp only [rhN,rhM];try rfl);(case c352=>(try dsimp only);rfl);(case e352=>rfl);(case d352=>exact hq);(case h352=>intro w hSw;(try dsimp only at hSw);go_simp <;> with_reducible rfl);simp only [Act.put,rhA,rhS,rhT]
                refine hCall (i := 19) (o := ?a353) ?b353 (by kernel_rfl) ?c353 (fun K hK => ?d353)
                case b353 => simp only [rhN, rhM]; try rfl
                case c353 => rfl
                go_simp
                refine (HSN.out _ (below_of hB (by repeat' (first | exact Below.refl _ _ | refine Below.alloc ?_ ?_ _ | refine Below.setCell ?_ ?_ _ | refine Below.drew ?_ | (apply below_step; assumption) | (simp; done) | (simp; omega) | omega)))).mono ?_
                rintro e w4 ⟨rfl, hb4⟩
                have hz4 := hb4.size
                (try simp at hz4)
                go_wp2_with fail
                refine hK.out _ _ (by (try dsimp only); exact HK.out _ (by repeat' (first | exact Below.refl _ _ | refine Below.alloc ?_ ?_ _ | refine Below.setCell ?_ ?_ _ | refine Below.drew ?_ | (apply below_step; assumption) | (simp; done) | (simp; omega) | omega))) (fun hHeld => ?_)
                clear hK K
                try simp only [Act.put, rhA, rhS, rhT]
                refine hT 20 ?a355 ?f355 ?g355 ?b355 ?c355 ?d355 ?e355 ?h355 ?_;(case b355=>simp only [rhN,rhM];try rfl);(case c355=>(try dsimp only);rfl);(case e355=>rfl);(case d355=>exact hq);(case h355=>intro w hSw;(try dsimp only at hSw);go_simp <;> with_reducible rfl);simp only [Act.put,rhA,rhS,rhT];refine hT 21 ?a357 ?f357 ?g357 ?b357 ?c357 ?d357 ?e357 ?h357 ?_;(case b357=>simp only [rhN,rhM];try rfl);(case c357=>(try dsimp only);rfl);(case e357=>rfl);(case d357=>exact hq);(case h357=>intro w hSw;(try dsimp only at hSw);go_simp <;> with_reducible rfl);simp only [Act.put,rhA,rhS,rhT]
                refine wpAnyH_done (by kernel_rfl) ?_ _
                go_wp2_with fail
                go_ret
                exact ⟨by rw [HE.out, HEp.out, HMs.out, HST.out]; simp, below_of hB (by repeat' (first | exact Below.refl _ _ | refine Below.alloc ?_ ?_ _ | refine Below.setCell ?_ ?_ _ | refine Below.drew ?_ | (apply below_step; assumption) | (simp; done) | (simp; omega) | omega))⟩
              go_wp2_with fail
              refine wp_region_held_drew (S := (fun w' => Below wr.heap.size wr w' ∧ (∀ o, w'.cell? ⟨w.heap.size, o, none⟩ = (#[.int .i64 t.now, .int .i64 t.span, .int .i64 t.kind, .int .i64 t.limit, .int .i64 t.next, .int .i64 t.lease.c, .int .i64 t.lease.m, .int .i64 t.lease.p, .slice A0 t.epochs.length c0, .slice A1 t.pools.length c1, .slice A2 t.clu.tasks.length c2, .slice A3 t.clu.nodes.length c3, .slice A4 t.clu.binds.length c4, .slice (some ⟨b, off, none⟩) t.wants.length c5, .slice A6 t.ends.length c6, .int .i64 t.seen, .slice A7 t.insts.length c7, .slice A8 t.msgs.length c8] : Array Value)[o]?) ∧ w'.cell? ⟨b, off + k * 2, none⟩ = some (.int .i64 r.task) ∧ w'.cell? ⟨b, off + k * 2 + 1, none⟩ = some (.int .i64 r.node))) (by kernel_rfl) (by (try dsimp only); exact HK.out _ (by repeat' (first | exact Below.refl _ _ | refine Below.alloc ?_ ?_ _ | refine Below.setCell ?_ ?_ _ | refine Below.drew ?_ | (apply below_step; assumption) | (simp; done) | (simp; omega) | omega))) (fun hHeld => ?_)
              refine hT 0 ?a359 ?f359 ?g359 ?b359 ?c359 ?d359 ?e359 ?h359 ?_;(case b359=>simp only [rhN];try rfl);(case c359=>(try dsimp only);rfl);(case e359=>rfl);(case d359=>exact hq);(case h359=>intro w hSw;(try dsimp only at hSw);go_simp <;> with_reducible rfl);simp only [Act.put,rhA,rhS,rhT];refine hT 1 ?a360 ?f360 ?g360 ?b360 ?c360 ?d360 ?e360 ?h360 ?_;(case b360=>simp only [rhN,rhM];try rfl);(case c360=>(try dsimp only);rfl);(case e360=>rfl);(case d360=>exact hq);(case h360=>intro w hSw;(try dsimp only at hSw);go_simp <;> with_reducible rfl);simp only [Act.put,rhA,rhS,rhT];refine hT 2 ?a361 ?f361 ?g361 ?b361 ?c361 ?d361 ?e361 ?h361 ?_;(case b361=>simp only [rhN,rhM];try rfl);(case c361=>(try dsimp only);rfl);(case e361=>rfl);(case d361=>exact hq);(case h361=>intro w hSw;(try dsimp only at hSw);go_simp <;> with_reducible rfl);simp only [Act.put,rhA,rhS,rhT];refine hT 3 ?a362 ?f362 ?g362 ?b362 ?c362 ?d362 ?e362 ?h362 ?_;(case b362=>simp only [rhN,rhM];try rfl);(case c362=>(try dsimp only);rfl);(case e362=>rfl);(case d362=>exact hq);(case h362=>intro w hSw;(try dsimp only at hSw);go_simp <;> with_reducible rfl);simp only [Act.put,rhA,rhS,rhT];refine hT 4 ?a363 ?f363 ?g363 ?b363 ?c363 ?d363 ?e363 ?h363 ?_;(case b363=>simp only [rhN,rhM];try rfl);(case c363=>(try dsimp only);rfl);(case e363=>rfl);(case d363=>exact hq);(case h363=>intro w hSw;(try dsimp only at hSw);go_simp <;> with_reducible rfl);simp only [Act.put,rhA,rhS,rhT];refine hT 5 ?a364 ?f364 ?g364 ?b364 ?c364 ?d364 ?e364 ?h364 ?_;(case b364=>simp only [rhN,rhM];try rfl);(case c364=>(try dsimp only);rfl);(case e364=>rfl);(case d364=>exact hq);(case h364=>intro w hSw;(try dsimp only at hSw);go_simp <;> with_reducible rfl);simp only [Act.put,rhA,rhS,rhT];refine hT 6 ?a365 ?f365 ?g365 ?b365 ?c365 ?d365 ?e365 ?h365 ?_;(case b365=>simp only [rhN,rhM];try rfl);(case c365=>(try dsimp only);rfl);(case e365=>rfl);(case d365=>exact hq);(case h365=>intro w hSw;(try dsimp only at hSw);go_simp <;> with_reducible rfl);simp only [Act.put,rhA,rhS,rhT];refine hT 7 ?a366 ?f366 ?g366 ?b366 ?c366 ?d366 ?e366 ?h366 ?_;(case b366=>simp only [rhN,rhM];try rfl);(case c366=>(try dsimp only);rfl);(case e366=>rfl);(case d366=>exact hq);(case h366=>intro w hSw;(try dsimp only at hSw);go_simp <;> with_reducible rfl);simp only [Act.put,rhA,rhS,rhT]
              refine hCall (i := 8) (o := ?a367) ?b367 (by kernel_rfl) ?c367 (fun K hK => ?d367)
              case b367 => simp only [rhN, rhM]; try rfl
              case c367 => rfl
              go_simp
              refine (HHP.out _ _ (HW.out.below (below_of hB (by repeat' (first | exact Below.refl _ _ | refine Below.alloc ?_ ?_ _ | refine Below.setCell ?_ ?_ _ | refine Below.drew ?_ | (apply below_step; assumption) | (simp; done) | (simp; omega) | omega)))).po).mono ?_
              rintro e w3 ⟨rfl, hb3⟩
              have hz3 := hb3.size
              (try simp at hz3)
              go_wp2_with fail
              refine hK.out _ _ (by (try dsimp only); exact HK.out _ (by repeat' (first | exact Below.refl _ _ | refine Below.alloc ?_ ?_ _ | refine Below.setCell ?_ ?_ _ | refine Below.drew ?_ | (apply below_step; assumption) | (simp; done) | (simp; omega) | omega))) (fun hHeld => ?_)
              clear hK K
              try simp only [Act.put, rhA, rhS, rhT]
              refine hT 9 ?a369 ?f369 ?g369 ?b369 ?c369 ?d369 ?e369 ?h369 ?_;(case b369=>simp only [rhN,rhM];try rfl);(case c369=>(try dsimp only);rfl);(case e369=>rfl);(case d369=>exact hq);(case h369=>intro w hSw;(try dsimp only at hSw);go_simp <;> with_reducible rfl);simp only [Act.put,rhA,rhS,rhT];refine hT 10 ?a370 ?f370 ?g370 ?b370 ?c370 ?d370 ?e370 ?h370 ?_;(case b370=>simp only [rhN,rhM];try rfl);(case c370=>(try dsimp only);rfl);(case e370=>rfl);(case d370=>exact hq);(case h370=>intro w hSw;(try dsimp only at hSw);go_simp <;> with_reducible rfl);simp only [Act.put,rhA,rhS,rhT];refine hT 11 ?a371 ?f371 ?g371 ?b371 ?c371 ?d371 ?e371 ?h371 ?_;(case b371=>simp only [rhN,rhM];try rfl);(case c371=>(try dsimp only);rfl);(case e371=>rfl);(case d371=>exact hq);(case h371=>intro w hSw;(try dsimp only at hSw);go_simp <;> with_reducible rfl);simp only [Act.put,rhA,rhS,rhT];refine hT 12 ?a372 ?f372 ?g372 ?b372 ?c372 ?d372 ?e372 ?h372 ?_;(case b372=>simp only [rhN,rhM];try rfl);(case c372=>(try dsimp only);rfl);(case e372=>rfl);(case d372=>exact hq);(case h372=>intro w hSw;(try dsimp only at hSw);go_simp <;> with_reducible rfl);simp only [Act.put,rhA,rhS,rhT];refine hT 13 ?a373 ?f373 ?g373 ?b373 ?c373 ?d373 ?e373 ?h373 ?_;(case b373=>simp only [rhN,rhM];try rfl);(case c373=>(try dsimp only);rfl);(case e373=>rfl);(case d373=>exact hq);(case h373=>intro w hSw;(try dsimp only at hSw);go_simp <;> with_reducible rfl);simp only [Act.put,rhA,rhS,rhT];refine hT 14 ?a374 ?f374 ?g374 ?b374 ?c374 ?d374 ?e374 ?h374 ?_;(case b374=>simp only [rhN,rhM];try rfl);(case c374=>(try dsimp only);rfl);(case e374=>rfl);(case d374=>exact hq);(case h374=>intro w hSw;(try dsimp only at hSw);go_simp <;> with_reducible rfl);simp only [Act.put,rhA,rhS,rhT];refine hT 15 ?a375 ?f375 ?g375 ?b375 ?c375 ?d375 ?e375 ?h375 ?_;(case b375=>simp only [rhN,rhM];try rfl);(case c375=>(try dsimp only);rfl);(case e375=>rfl);(case d375=>exact hq);(case h375=>intro w hSw;(try dsimp only at hSw);go_simp <;> with_reducible rfl);simp only [Act.put,rhA,rhS,rhT];refine hT 16 ?a376 ?f376 ?g376 ?b376 ?c376 ?d376 ?e376 ?h376 ?_;(case b376=>simp only [rhN,rhM];try rfl);(case c376=>(try dsimp only);rfl);(case e376=>rfl);(case d376=>exact hq);(case h376=>intro w hSw;(try dsimp only at hSw);go_simp <;> with_reducible rfl);simp only [Act.put,rhA,rhS,rhT];refine hT 17 ?a377 ?f377 ?g377 ?b377 ?c377 ?d377 ?e377 ?h377 ?_;(case b377=>simp only [rhN,rhM];try rfl);(case c377=>(try dsimp only);rfl);(case e377=>rfl);(case d377=>exact hq);(case h377=>intro w hSw;(try dsimp only at hSw);go_simp <;> with_reducible rfl);simp only [Act.put,rhA,rhS,rhT];refine hT 18 ?a378 ?f378 ?g378 ?b378 ?c378 ?d378 ?e378 ?h378 ?_;(case b378=>simp only [rhN,rhM];try rfl);(case c378=>(try dsimp only);rfl);(case e378=>rfl);(case d378=>exact hq);(case h378=>intro w hSw;(try dsimp only at hSw);go_simp <;> with_reducible rfl);simp only [Act.put,rhA,rhS,rhT]
              refine hCall (i := 19) (o := ?a379) ?b379 (by kernel_rfl) ?c379 (fun K hK => ?d379)
              case b379 => simp only [rhN, rhM]; try rfl
              case c379 => rfl
              go_simp
              refine (HSN.out _ (below_of hB (by repeat' (first | exact Below.refl _ _ | refine Below.alloc ?_ ?_ _ | refine Below.setCell ?_ ?_ _ | refine Below.drew ?_ | (apply below_step; assumption) | (simp; done) | (simp; omega) | omega)))).mono ?_
              rintro e w4 ⟨rfl, hb4⟩
              have hz4 := hb4.size
              (try simp at hz4)
              go_wp2_with fail
              refine hK.out _ _ (by (try dsimp only); exact HK.out _ (by repeat' (first | exact Below.refl _ _ | refine Below.alloc ?_ ?_ _ | refine Below.setCell ?_ ?_ _ | refine Below.drew ?_ | (apply below_step; assumption) | (simp; done) | (simp; omega) | omega))) (fun hHeld => ?_)
              clear hK K
              try simp only [Act.put, rhA, rhS, rhT]
              refine hT 20 ?a381 ?f381 ?g381 ?b381 ?c381 ?d381 ?e381 ?h381 ?_;(case b381=>simp only [rhN,rhM];try rfl);(case c381=>(try dsimp only);rfl);(case e381=>rfl);(case d381=>exact hq);(case h381=>intro w hSw;(try dsimp only at hSw);go_simp <;> with_reducible rfl);simp only [Act.put,rhA,rhS,rhT];refine hT 21 ?a383 ?f383 ?g383 ?b383 ?c383 ?d383 ?e383 ?h383 ?_;(case b383=>simp only [rhN,rhM];try rfl);(case c383=>(try dsimp only);rfl);(case e383=>rfl);(case d383=>exact hq);(case h383=>intro w hSw;(try dsimp only at hSw);go_simp <;> with_reducible rfl);simp only [Act.put,rhA,rhS,rhT]
              refine wpAnyH_done (by kernel_rfl) ?_ _
              go_wp2_with fail
              go_roundw
              case rel => exact ⟨k + 1, by omega, by go_num, by rw [HST.out]; simp, HBK.out.below (by repeat' (first | exact Below.refl _ _ | refine Below.alloc ?_ ?_ _ | refine Below.setCell ?_ ?_ _ | refine Below.drew ?_ | (apply below_step; assumption) | (simp; done) | (simp; omega) | omega)) gl, below_of hB (by repeat' (first | exact Below.refl _ _ | refine Below.alloc ?_ ?_ _ | refine Below.setCell ?_ ?_ _ | refine Below.drew ?_ | (apply below_step; assumption) | (simp; done) | (simp; omega) | omega))⟩
              case measure => simp [RowKit.intOf]; omega
            · obtain rfl : k = t.wants.length := by omega
              have HWn := Lib.hid (hall.trans (by rw [List.drop_length, List.all_nil]))
              clear hall
              go_wp2_with fail
              clear hlt
              go_loopw [6] (fun s6 wr => ∃ k : Nat, k ≤ t.ends.length ∧ s6 = .int .i64 k ∧ t.ends.all (fun z => hasNode t.clu z) = (t.ends.drop k).all (fun z => hasNode t.clu z) ∧ BlockIs wr w.heap.size 39 #[.int .i64 t.now, .int .i64 t.span, .int .i64 t.kind, .int .i64 t.limit, .int .i64 t.next, .int .i64 t.lease.c, .int .i64 t.lease.m, .int .i64 t.lease.p, .slice A0 t.epochs.length c0, .slice A1 t.pools.length c1, .slice A2 t.clu.tasks.length c2, .slice A3 t.clu.nodes.length c3, .slice A4 t.clu.binds.length c4, .slice A5 t.wants.length c5, .slice A6 t.ends.length c6, .int .i64 t.seen, .slice A7 t.insts.length c7, .slice A8 t.msgs.length c8] ∧ Below w.heap.size w wr) (fun s6 _ => (t.ends.length - RowKit.intOf s6).toNat)
              case atStart => exact ⟨0, by omega, rfl, by rw [List.drop_zero], HBK.out, hB⟩
              case round =>
                clear HBK hB hzr x13 gc gl
                obtain ⟨k, hk, rfl, hall, hblk, hB⟩ := hrel
                have HBK := Lib.hid hblk
                have hzr := hB.size
                have x14 := hblk.cell 14
                simp at x14
                have gc := hblk.cell
                have gl := hblk.lt
                by_cases hlt : k < t.ends.length
                · skip
                  clear hblk
                  obtain ⟨A, c, e0, hA⟩ := (HW.out.en).form
                  obtain ⟨b, off, rfl, hbw, hat⟩ := hA (by omega)
                  simp only [Value.slice.injEq] at e0
                  obtain ⟨rfl, -, rfl⟩ := e0
                  obtain ⟨r, hr⟩ : ∃ r, t.ends[k]? = some r := ⟨_, List.getElem?_eq_getElem hlt⟩
                  have hki : (k : Int) < (t.ends.length : Int) := by omega
                  have hk0 : (0 : Int) ≤ (k : Int) := by omega
                  have q0 := (hat.below hB hbw) k r hr
                  have hbr : b < wr.heap.size := by omega
                  have HK := Lib.hid (show ∀ w', Below wr.heap.size wr w' → (fun w' => Below wr.heap.size wr w' ∧ (∀ o, w'.cell? ⟨w.heap.size, o, none⟩ = (#[.int .i64 t.now, .int .i64 t.span, .int .i64 t.kind, .int .i64 t.limit, .int .i64 t.next, .int .i64 t.lease.c, .int .i64 t.lease.m, .int .i64 t.lease.p, .slice A0 t.epochs.length c0, .slice A1 t.pools.length c1, .slice A2 t.clu.tasks.length c2, .slice A3 t.clu.nodes.length c3, .slice A4 t.clu.binds.length c4, .slice A5 t.wants.length c5, .slice (some ⟨b, off, none⟩) t.ends.length c6, .int .i64 t.seen, .slice A7 t.insts.length c7, .slice A8 t.msgs.length c8] : Array Value)[o]?) ∧ w'.cell? ⟨b, off + k, none⟩ = some (.int .i64 r)) w' from fun w' hb => ⟨hb, fun o => (hb.cell (p := ⟨_, _, none⟩) gl).trans (gc o), (hb.cell (p := ⟨_, _, none⟩) hbr).trans q0⟩)
                  have hsn := fun w1 h1 => sNode_any t.clu _ _ _ r w w1 h1 HW.out.clu
                  have hng := node_lss t.clu r
                  have hst := all_step hall hr
                  generalize hasNode t.clu r = bn at *
                  generalize idxBy NV.id t.clu.nodes r = j at *
                  have HST := Lib.hid hst
                  have HSN := Lib.hid hsn
                  clear hat hr hall hA hsn hst
                  cases bn
                  · go_wp2_with fail
                    refine wp_region_held_drew (S := (fun w' => Below wr.heap.size wr w' ∧ (∀ o, w'.cell? ⟨w.heap.size, o, none⟩ = (#[.int .i64 t.now, .int .i64 t.span, .int .i64 t.kind, .int .i64 t.limit, .int .i64 t.next, .int .i64 t.lease.c, .int .i64 t.lease.m, .int .i64 t.lease.p, .slice A0 t.epochs.length c0, .slice A1 t.pools.length c1, .slice A2 t.clu.tasks.length c2, .slice A3 t.clu.nodes.length c3, .slice A4 t.clu.binds.length c4, .slice A5 t.wants.length c5, .slice (some ⟨b, off, none⟩) t.ends.length c6, .int .i64 t.seen, .slice A7 t.insts.length c7, .slice A8 t.msgs.length c8] : Array Value)[o]?) ∧ w'.cell? ⟨b, off + k, none⟩ = some (.int .i64 r))) (by kernel_rfl) (by (try dsimp only); exact HK.out _ (by repeat' (first | exact Below.refl _ _ | refine Below.alloc ?_ ?_ _ | refine Below.setCell ?_ ?_ _ | refine Below.drew ?_ | (apply below_step; assumption) | (simp; done) | (simp; omega) | omega))) (fun hHeld => ?_)
                    refine hT 0 ?a385 ?f385 ?g385 ?b385 ?c385 ?d385 ?e385 ?h385 ?_;(case b385=>simp only [rhN];try rfl);(case c385=>(try dsimp only);rfl);(case e385=>rfl);(case d385=>exact hq);(case h385=>intro w hSw;(try dsimp only at hSw);go_simp <;> with_reducible rfl);simp only [Act.put,rhA,rhS,rhT];refine hT 1 ?a386 ?f386 ?g386 ?b386 ?c386 ?d386 ?e386 ?h386 ?_;(case b386=>simp only [rhN,rhM];try rfl);(case c386=>(try dsimp only);rfl);(case e386=>rfl);(case d386=>exact hq);(case h386=>intro w hSw;(try dsimp only at hSw);go_simp <;> with_reducible rfl);simp only [Act.put,rhA,rhS,rhT];refine hT 2 ?a387 ?f387 ?g387 ?b387 ?c387 ?d387 ?e387 ?h387 ?_;(case b387=>simp only [rhN,rhM];try rfl);(case c387=>(try dsimp only);rfl);(case e387=>rfl);(case d387=>exact hq);(case h387=>intro w hSw;(try dsimp only at hSw);go_simp <;> with_reducible rfl);simp only [Act.put,rhA,rhS,rhT];refine hT 3 ?a388 ?f388 ?g388 ?b388 ?c388 ?d388 ?e388 ?h388 ?_;(case b388=>simp only [rhN,rhM];try rfl);(case c388=>(try dsimp only);rfl);(case e388=>rfl);(case d388=>exact hq);(case h388=>intro w hSw;(try dsimp only at hSw);go_simp <;> with_reducible rfl);simp only [Act.put,rhA,rhS,rhT];refine hT 4 ?a389 ?f389 ?g389 ?b389 ?c389 ?d389 ?e389 ?h389 ?_;(case b389=>simp only [rhN,rhM];try rfl);(case c389=>(try dsimp only);rfl);(case e389=>rfl);(case d389=>exact hq);(case h389=>intro w hSw;(try dsimp only at hSw);go_simp <;> with_reducible rfl);simp only [Act.put,rhA,rhS,rhT];refine hT 5 ?a390 ?f390 ?g390 ?b390 ?c390 ?d390 ?e390 ?h390 ?_;(case b390=>simp only [rhN,rhM];try rfl);(case c390=>(try dsimp only);rfl);(case e390=>rfl);(case d390=>exact hq);(case h390=>intro w hSw;(try dsimp only at hSw);go_simp <;> with_reducible rfl);simp only [Act.put,rhA,rhS,rhT];refine hT 6 ?a391 ?f391 ?g391 ?b391 ?c391 ?d391 ?e391 ?h391 ?_;(case b391=>simp only [rhN,rhM];try rfl);(case c391=>(try dsimp only);rfl);(case e391=>rfl);(case d391=>exact hq);(case h391=>intro w hSw;(try dsimp only at hSw);go_simp <;> with_reducible rfl);simp only [Act.put,rhA,rhS,rhT]
                    refine hCall (i := 7) (o := ?a392) ?b392 (by kernel_rfl) ?c392 (fun K hK => ?d392)
                    case b392 => simp only [rhN, rhM]; try rfl
                    case c392 => rfl
                    go_simp
                    refine (HSN.out _ (below_of hB (by repeat' (first | exact Below.refl _ _ | refine Below.alloc ?_ ?_ _ | refine Below.setCell ?_ ?_ _ | refine Below.drew ?_ | (apply below_step; assumption) | (simp; done) | (simp; omega) | omega)))).mono ?_
                    rintro e w4 ⟨rfl, hb4⟩
                    have hz4 := hb4.size
                    (try simp at hz4)
                    go_wp2_with fail
                    refine hK.out _ _ (by (try dsimp only); exact HK.out _ (by repeat' (first | exact Below.refl _ _ | refine Below.alloc ?_ ?_ _ | refine Below.setCell ?_ ?_ _ | refine Below.drew ?_ | (apply below_step; assumption) | (simp; done) | (simp; omega) | omega))) (fun hHeld => ?_)
                    clear hK K
                    try simp only [Act.put, rhA, rhS, rhT]
                    refine hT 8 ?a394 ?f394 ?g394 ?b394 ?c394 ?d394 ?e394 ?h394 ?_;(case b394=>simp only [rhN,rhM];try rfl);(case c394=>(try dsimp only);rfl);(case e394=>rfl);(case d394=>exact hq);(case h394=>intro w hSw;(try dsimp only at hSw);go_simp <;> with_reducible rfl);simp only [Act.put,rhA,rhS,rhT]
                    refine wpAnyH_done (by kernel_rfl) ?_ _
                    go_wp2_with fail
                    go_ret
                    exact ⟨by rw [HE.out, HEp.out, HMs.out, HWn.out, HST.out]; simp, below_of hB (by repeat' (first | exact Below.refl _ _ | refine Below.alloc ?_ ?_ _ | refine Below.setCell ?_ ?_ _ | refine Below.drew ?_ | (apply below_step; assumption) | (simp; done) | (simp; omega) | omega))⟩
                  go_wp2_with fail
                  refine wp_region_held_drew (S := (fun w' => Below wr.heap.size wr w' ∧ (∀ o, w'.cell? ⟨w.heap.size, o, none⟩ = (#[.int .i64 t.now, .int .i64 t.span, .int .i64 t.kind, .int .i64 t.limit, .int .i64 t.next, .int .i64 t.lease.c, .int .i64 t.lease.m, .int .i64 t.lease.p, .slice A0 t.epochs.length c0, .slice A1 t.pools.length c1, .slice A2 t.clu.tasks.length c2, .slice A3 t.clu.nodes.length c3, .slice A4 t.clu.binds.length c4, .slice A5 t.wants.length c5, .slice (some ⟨b, off, none⟩) t.ends.length c6, .int .i64 t.seen, .slice A7 t.insts.length c7, .slice A8 t.msgs.length c8] : Array Value)[o]?) ∧ w'.cell? ⟨b, off + k, none⟩ = some (.int .i64 r))) (by kernel_rfl) (by (try dsimp only); exact HK.out _ (by repeat' (first | exact Below.refl _ _ | refine Below.alloc ?_ ?_ _ | refine Below.setCell ?_ ?_ _ | refine Below.drew ?_ | (apply below_step; assumption) | (simp; done) | (simp; omega) | omega))) (fun hHeld => ?_)
                  refine hT 0 ?a396 ?f396 ?g396 ?b396 ?c396 ?d396 ?e396 ?h396 ?_;(case b396=>simp only [rhN];try rfl);(case c396=>(try dsimp only);rfl);(case e396=>rfl);(case d396=>exact hq);(case h396=>intro w hSw;(try dsimp only at hSw);go_simp <;> with_reducible rfl);simp only [Act.put,rhA,rhS,rhT];refine hT 1 ?a397 ?f397 ?g397 ?b397 ?c397 ?d397 ?e397 ?h397 ?_;(case b397=>simp only [rhN,rhM];try rfl);(case c397=>(try dsimp only);rfl);(case e397=>rfl);(case d397=>exact hq);(case h397=>intro w hSw;(try dsimp only at hSw);go_simp <;> with_reducible rfl);simp only [Act.put,rhA,rhS,rhT];refine hT 2 ?a398 ?f398 ?g398 ?b398 ?c398 ?d398 ?e398 ?h398 ?_;(case b398=>simp only [rhN,rhM];try rfl);(case c398=>(try dsimp only);rfl);(case e398=>rfl);(case d398=>exact hq);(case h398=>intro w hSw;(try dsimp only at hSw);go_simp <;> with_reducible rfl);simp only [Act.put,rhA,rhS,rhT];refine hT 3 ?a399 ?f399 ?g399 ?b399 ?c399 ?d399 ?e399 ?h399 ?_;(case b399=>simp only [rhN,rhM];try rfl);(case c399=>(try dsimp only);rfl);(case e399=>rfl);(case d399=>exact hq);(case h399=>intro w hSw;(try dsimp only at hSw);go_simp <;> with_reducible rfl);simp only [Act.put,rhA,rhS,rhT];refine hT 4 ?a400 ?f400 ?g400 ?b400 ?c400 ?d400 ?e400 ?h400 ?_;(case b400=>simp only [rhN,rhM];try rfl);(case c400=>(try dsimp only);rfl);(case e400=>rfl);(case d400=>exact hq);(case h400=>intro w hSw;(try dsimp only at hSw);go_simp <;> with_reducible rfl);simp only [Act.put,rhA,rhS,rhT];refine hT 5 ?a401 ?f401 ?g401 ?b401 ?c401 ?d401 ?e401 ?h401 ?_;(case b401=>simp only [rhN,rhM];try rfl);(case c401=>(try dsimp only);rfl);(case e401=>rfl);(case d401=>exact hq);(case h401=>intro w hSw;(try dsimp only at hSw);go_simp <;> with_reducible rfl);simp only [Act.put,rhA,rhS,rhT];refine hT 6 ?a402 ?f402 ?g402 ?b402 ?c402 ?d402 ?e402 ?h402 ?_;(case b402=>simp only [rhN,rhM];try rfl);(case c402=>(try dsimp only);rfl);(case e402=>rfl);(case d402=>exact hq);(case h402=>intro w hSw;(try dsimp only at hSw);go_simp <;> with_reducible rfl);simp only [Act.put,rhA,rhS,rhT]
                  refine hCall (i := 7) (o := ?a403) ?b403 (by kernel_rfl) ?c403 (fun K hK => ?d403)
                  case b403 => simp only [rhN, rhM]; try rfl
                  case c403 => rfl
                  go_simp
                  refine (HSN.out _ (below_of hB (by repeat' (first | exact Below.refl _ _ | refine Below.alloc ?_ ?_ _ | refine Below.setCell ?_ ?_ _ | refine Below.drew ?_ | (apply below_step; assumption) | (simp; done) | (simp; omega) | omega)))).mono ?_
                  rintro e w4 ⟨rfl, hb4⟩
                  have hz4 := hb4.size
                  (try simp at hz4)
                  go_wp2_with fail
                  refine hK.out _ _ (by (try dsimp only); exact HK.out _ (by repeat' (first | exact Below.refl _ _ | refine Below.alloc ?_ ?_ _ | refine Below.setCell ?_ ?_ _ | refine Below.drew ?_ | (apply below_step; assumption) | (simp; done) | (simp; omega) | omega))) (fun hHeld => ?_)
                  clear hK K
                  try simp only [Act.put, rhA, rhS, rhT]
                  refine hT 8 ?a405 ?f405 ?g405 ?b405 ?c405 ?d405 ?e405 ?h405 ?_;(case b405=>simp only [rhN,rhM];try rfl);(case c405=>(try dsimp only);rfl);(case e405=>rfl);(case d405=>exact hq);(case h405=>intro w hSw;(try dsimp only at hSw);go_simp <;> with_reducible rfl);simp only [Act.put,rhA,rhS,rhT]
                  refine wpAnyH_done (by kernel_rfl) ?_ _
                  go_wp2_with fail
                  go_roundw
                  case rel => exact ⟨k + 1, by omega, by go_num, by rw [HST.out]; simp, HBK.out.below (by repeat' (first | exact Below.refl _ _ | refine Below.alloc ?_ ?_ _ | refine Below.setCell ?_ ?_ _ | refine Below.drew ?_ | (apply below_step; assumption) | (simp; done) | (simp; omega) | omega)) gl, below_of hB (by repeat' (first | exact Below.refl _ _ | refine Below.alloc ?_ ?_ _ | refine Below.setCell ?_ ?_ _ | refine Below.drew ?_ | (apply below_step; assumption) | (simp; done) | (simp; omega) | omega))⟩
                  case measure => simp [RowKit.intOf]; omega
                · obtain rfl : k = t.ends.length := by omega
                  have HDn := Lib.hid (hall.trans (by rw [List.drop_length, List.all_nil]))
                  have x4 := hblk.cell 4
                  have x11 := hblk.cell 11
                  have x16 := hblk.cell 16
                  simp at x4 x11 x16
                  clear hall hblk gc gl hlt
                  have hn := fun m z => lastLt_at (l := t.clu.nodes.map NV.id) (m := m) (z := z) t.next
                  have hi := fun m z => lastLt_at (l := t.insts.map RV.c) (m := m) (z := z) t.next
                  rcases Nat.eq_zero_or_pos t.clu.nodes.length with hn0 | hn0
                  · have HN := Lib.hid (lastLt_nil t.next (l := t.clu.nodes.map NV.id) (by rw [List.length_map]; exact hn0))
                    have v1 : ((t.clu.nodes.length : Int) == 0) = true := by simp [hn0]
                    clear hn0
                    rcases Nat.eq_zero_or_pos t.insts.length with hi0 | hi0
                    · have HI := Lib.hid (lastLt_nil t.next (l := t.insts.map RV.c) (by rw [List.length_map]; exact hi0))
                      have u1 : ((t.insts.length : Int) == 0) = true := by simp [hi0]
                      clear hn hi hi0
                      go_wp2_with fail
                      go_quiet (fail)
                      go_wp2_with fail
                      go_ret
                      exact ⟨by rw [HE.out, HEp.out, HMs.out, HWn.out, HDn.out, HN.out, HI.out]; simp, (by repeat' (first | exact Below.refl _ _ | refine Below.alloc ?_ ?_ _ | refine Below.setCell ?_ ?_ _ | refine Below.drew ?_ | refine below_drewN ?_ _ | (apply below_step; assumption) | (simp; done) | (simp; omega) | omega))⟩
                    · obtain ⟨m, hm⟩ : ∃ m, t.insts.length = m + 1 := ⟨t.insts.length - 1, by omega⟩
                      obtain ⟨r2, hr2⟩ : ∃ r, t.insts[m]? = some r := ⟨_, List.getElem?_eq_getElem (by omega)⟩
                      have HI := Lib.hid (hi m r2.c (by rw [List.length_map]; exact hm) (by rw [List.getElem?_map, hr2]; rfl))
                      obtain ⟨A, c, e0, hA⟩ := (HW.out.ins).form
                      obtain ⟨b2, off2, rfl, hbw2, hat2⟩ := hA (by omega)
                      simp only [Value.slice.injEq] at e0
                      obtain ⟨rfl, -, rfl⟩ := e0
                      obtain ⟨y0, y1, y2⟩ := (hat2.below hB hbw2) m r2 hr2
                      have u1 : ((t.insts.length : Int) == 0) = false := beq_eq_false_iff_ne.2 (by omega)
                      have u2 : IntKind.i64.wrap ((t.insts.length : Int) - 1) = (m : Int) := by rw [IntKind.wrap_i64]; omega
                      have u3 : (m : Int) < (t.insts.length : Int) := by omega
                      have u4 : (0 : Int) ≤ (m : Int) := by omega
                      generalize e9 : decide (r2.c < t.next) = ci at *
                      clear hn hi hi0 hm hr2 hA hat2
                      cases ci
                      all_goals
                        go_wp2_with fail
                        go_quiet (fail)
                        go_wp2_with fail
                        go_ret
                        exact ⟨by rw [HE.out, HEp.out, HMs.out, HWn.out, HDn.out, HN.out, HI.out]; simp, (by repeat' (first | exact Below.refl _ _ | refine Below.alloc ?_ ?_ _ | refine Below.setCell ?_ ?_ _ | refine Below.drew ?_ | refine below_drewN ?_ _ | (apply below_step; assumption) | (simp; done) | (simp; omega) | omega))⟩
                  · obtain ⟨p, hp⟩ : ∃ p, t.clu.nodes.length = p + 1 := ⟨t.clu.nodes.length - 1, by omega⟩
                    obtain ⟨r1, hr1⟩ : ∃ r, t.clu.nodes[p]? = some r := ⟨_, List.getElem?_eq_getElem (by omega)⟩
                    have HN := Lib.hid (hn p r1.id (by rw [List.length_map]; exact hp) (by rw [List.getElem?_map, hr1]; rfl))
                    obtain ⟨A, c, e0, hA⟩ := (HW.out.clu.2.1).form
                    obtain ⟨b1, off1, rfl, hbw1, hat1⟩ := hA (by omega)
                    simp only [Value.slice.injEq] at e0
                    obtain ⟨rfl, -, rfl⟩ := e0
                    obtain ⟨cs1, hR1, hC1⟩ := (hat1.below NodeR.kept hB hbw1) p r1 hr1
                    obtain ⟨n1, n2, rfl, s1, s2, _, _⟩ := hR1
                    obtain ⟨N1, k1, rfl, _⟩ := s1.form
                    obtain ⟨N2, k2, rfl, _⟩ := s2.form
                    obtain ⟨z0, z1, z2, z3, z4, z5, z6, z7⟩ := node_cells hC1
                    have v1 : ((t.clu.nodes.length : Int) == 0) = false := beq_eq_false_iff_ne.2 (by omega)
                    have v2 : IntKind.i64.wrap ((t.clu.nodes.length : Int) - 1) = (p : Int) := by rw [IntKind.wrap_i64]; omega
                    have v3 : (p : Int) < (t.clu.nodes.length : Int) := by omega
                    have v4 : (0 : Int) ≤ (p : Int) := by omega
                    generalize ea : decide (r1.id < t.next) = cn at *
                    clear hp hr1 hA hat1 hC1 s1 s2 hn0
                    cases cn
                    · clear hn hi
                      go_wp2_with fail
                      go_quiet (fail)
                      go_wp2_with fail
                      go_ret
                      exact ⟨by rw [HE.out, HEp.out, HMs.out, HWn.out, HDn.out, HN.out]; simp, (by repeat' (first | exact Below.refl _ _ | refine Below.alloc ?_ ?_ _ | refine Below.setCell ?_ ?_ _ | refine Below.drew ?_ | refine below_drewN ?_ _ | (apply below_step; assumption) | (simp; done) | (simp; omega) | omega))⟩
                    rcases Nat.eq_zero_or_pos t.insts.length with hi0 | hi0
                    · have HI := Lib.hid (lastLt_nil t.next (l := t.insts.map RV.c) (by rw [List.length_map]; exact hi0))
                      have u1 : ((t.insts.length : Int) == 0) = true := by simp [hi0]
                      clear hn hi hi0
                      go_wp2_with fail
                      go_quiet (fail)
                      go_wp2_with fail
                      go_ret
                      exact ⟨by rw [HE.out, HEp.out, HMs.out, HWn.out, HDn.out, HN.out, HI.out]; simp, (by repeat' (first | exact Below.refl _ _ | refine Below.alloc ?_ ?_ _ | refine Below.setCell ?_ ?_ _ | refine Below.drew ?_ | refine below_drewN ?_ _ | (apply below_step; assumption) | (simp; done) | (simp; omega) | omega))⟩
                    · obtain ⟨m, hm⟩ : ∃ m, t.insts.length = m + 1 := ⟨t.insts.length - 1, by omega⟩
                      obtain ⟨r2, hr2⟩ : ∃ r, t.insts[m]? = some r := ⟨_, List.getElem?_eq_getElem (by omega)⟩
                      have HI := Lib.hid (hi m r2.c (by rw [List.length_map]; exact hm) (by rw [List.getElem?_map, hr2]; rfl))
                      obtain ⟨A, c, e0, hA⟩ := (HW.out.ins).form
                      obtain ⟨b2, off2, rfl, hbw2, hat2⟩ := hA (by omega)
                      simp only [Value.slice.injEq] at e0
                      obtain ⟨rfl, -, rfl⟩ := e0
                      obtain ⟨y0, y1, y2⟩ := (hat2.below hB hbw2) m r2 hr2
                      have u1 : ((t.insts.length : Int) == 0) = false := beq_eq_false_iff_ne.2 (by omega)
                      have u2 : IntKind.i64.wrap ((t.insts.length : Int) - 1) = (m : Int) := by rw [IntKind.wrap_i64]; omega
                      have u3 : (m : Int) < (t.insts.length : Int) := by omega
                      have u4 : (0 : Int) ≤ (m : Int) := by omega
                      generalize e9 : decide (r2.c < t.next) = ci at *
                      clear hn hi hi0 hm hr2 hA hat2
                      cases ci
                      all_goals
                        go_wp2_with fail
                        go_quiet (fail)
                        go_wp2_with fail
                        go_ret
                        exact ⟨by rw [HE.out, HEp.out, HMs.out, HWn.out, HDn.out, HN.out, HI.out]; simp, (by repeat' (first | exact Below.refl _ _ | refine Below.alloc ?_ ?_ _ | refine Below.setCell ?_ ?_ _ | refine Below.drew ?_ | refine below_drewN ?_ _ | (apply below_step; assumption) | (simp; done) | (simp; omega) | omega))⟩
end Go.Proofs.YtcegofdmdemcbaaGreatDoor
