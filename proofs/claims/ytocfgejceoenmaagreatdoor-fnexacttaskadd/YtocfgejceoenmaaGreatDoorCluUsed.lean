/- The contracts of usedOn, freeOn, needsFit, ClusterOk. -/
import Derived.Test.YtocfgejceoenmaaGreatDoorCluOnU
namespace Go.Proofs.YtocfgejceoenmaaGreatDoor
open Go.RowKit

theorem needsIn_take_yes {c : CV} {n : Int} {k : Nat} {b : BV} (h : c.binds[k]? = some b) (e : b.node = n) : needsIn c n (c.binds.take (k + 1)) = needsIn c n (c.binds.take k) ++ [needOf c b.task] := by
  rw [take_at h, needsIn_append, needsIn_yes e]; rfl
theorem needsIn_take_no {c : CV} {n : Int} {k : Nat} {b : BV} (h : c.binds[k]? = some b) (e : b.node ≠ n) : needsIn c n (c.binds.take (k + 1)) = needsIn c n (c.binds.take k) := by
  rw [take_at h, needsIn_append, needsIn_no e]; simp [needsIn]
theorem needsIn_take_len (c : CV) (n : Int) (k : Nat) : (needsIn c n (c.binds.take k)).length ≤ c.binds.length := by
  have h1 := needsIn_len c n (c.binds.take k)
  rw [List.length_take] at h1
  omega

set_option maxHeartbeats 1600000 in
theorem freeOn_any (c : CV) (n : NV) (a0 a1 a2 u1 u2 : Value) (w0 w : World) (hw : Below w0.heap.size w0 w) (x : Addr) (hg : ErrAt x w) (hc : CluR w0 c a0 a1 a2) (hn1 : LabSl w0 u1 n.labs) (hn2 : IntSl w0 u2 n.taints) :
    Calls Tryz.prog 164 #[.agg #[a0, a1, a2], .agg #[.int .i64 n.id, .int .i64 n.pool, .int .i64 n.cap.c, .int .i64 n.cap.m, .int .i64 n.cap.p, u1, u2, .bool n.cordon]] w (RetR (freeOf c n).1 (freeOf c n).2 w) := by
  have hus := fun w hw hg => usedOn_any c a0 a1 a2 n.id w0 w hw x hg hc
  obtain ⟨h0, h1, h2, l0, l1, l2⟩ := hc
  obtain ⟨D0, e0, rfl, r0⟩ := h0.form
  obtain ⟨D1, e1, rfl, r1⟩ := h1.form
  obtain ⟨D2, e2, rfl, r2⟩ := h2.form
  obtain ⟨A1, c1, rfl, r3⟩ := hn1.form
  obtain ⟨A2, c2, rfl, r4⟩ := hn2.form
  have hfr : freeOf c n = if (usedOf c n.id).2 then (resSub n.cap (usedOf c n.id).1, resSubOk n.cap (usedOf c n.id).1) else (RV.zero, false) := rfl
  generalize (usedOf c n.id).1 = u at hus hfr
  generalize (usedOf c n.id).2 = ok at hus hfr
  have hsub := fun w hg => ResSub_any n.cap u w x hg
  have HUS := Lib.hid hus
  have HFR := Lib.hid hfr
  have HSUB := Lib.hid hsub
  have HG := Lib.hid hg
  have HW := Lib.hid hw
  clear hus hfr hsub h0 h1 h2 l0 l1 l2 r0 r1 r2 r3 r4 hn1 hn2 hg hw
  go_enter Tryz.func164, Tryz.ntmps164
  go_wp2_with fail
  have hX : Below w.heap.size w (((w.alloc (.cells #[.slice D0 c.tasks.length e0, .slice D1 c.nodes.length e1, .slice D2 c.binds.length e2] 39)).alloc (.cells #[.int .i64 n.id, .int .i64 n.pool, .int .i64 n.cap.c, .int .i64 n.cap.m, .int .i64 n.cap.p, .slice A1 n.labs.length c1, .slice A2 n.taints.length c2, .bool n.cordon] 60)).alloc (.cells #[.int .i64 0, .int .i64 0, .int .i64 0] 43)) := (by repeat' (first | exact Below.refl _ _ | refine Below.alloc ?_ ?_ _ | refine Below.setCell ?_ ?_ _ | refine Below.drew ?_ | (apply below_step; assumption) | (simp; done) | (simp; omega) | omega))
  refine (HUS.out _ (below_of HW.out hX) (HG.out.below hX (Nat.le_refl _))).mono ?_
  rintro e w2 ⟨rfl, hb2⟩
  have hz2 := hb2.size
  simp at hz2
  have hC2 := below_of hX hb2
  have BN : BlockIs w2 (w.heap.size + 1) 60 #[.int .i64 n.id, .int .i64 n.pool, .int .i64 n.cap.c, .int .i64 n.cap.m, .int .i64 n.cap.p, .slice A1 n.labs.length c1, .slice A2 n.taints.length c2, .bool n.cordon] := (BlockIs.alloc (BlockIs.new' (by simp)) _).below hb2 (by simp)
  have BR : BlockIs w2 (w.heap.size + 1 + 1) 43 #[.int .i64 0, .int .i64 0, .int .i64 0] := (BlockIs.new' (by simp)).below hb2 (by simp)
  have r0 := BR.cell 0
  have r1 := BR.cell 1
  have r2 := BR.cell 2
  have rf := BR.frozen
  have rl := BR.lt
  have n2 := BN.cell 2
  have n3 := BN.cell 3
  have n4 := BN.cell 4
  have nl := BN.lt
  simp at r0 r1 r2 n2 n3 n4
  have HBR := Lib.hid BR
  clear BN BR hb2 hX
  cases ok
  · go_wp2_with fail
    have hZ : BlockIs (World.alloc (((w2.setCell ⟨w.heap.size + 1 + 1, 0, none⟩ (.int .i64 0)).setCell ⟨w.heap.size + 1 + 1, 1, none⟩ (.int .i64 0)).setCell ⟨w.heap.size + 1 + 1, 2, none⟩ (.int .i64 0)) (.cells #[.int .i64 u.c, .int .i64 u.m, .int .i64 u.p] 43)) (w.heap.size + 1 + 1) 43 #[.int .i64 0, .int .i64 0, .int .i64 0] := by
      have := (((HBR.out.put 0 (.int .i64 0)).put 1 (.int .i64 0)).put 2 (.int .i64 0)).alloc (.cells #[.int .i64 u.c, .int .i64 u.m, .int .i64 u.p] 43)
      simpa using this
    have hX' : Below w.heap.size w (World.alloc (((w2.setCell ⟨w.heap.size + 1 + 1, 0, none⟩ (.int .i64 0)).setCell ⟨w.heap.size + 1 + 1, 1, none⟩ (.int .i64 0)).setCell ⟨w.heap.size + 1 + 1, 2, none⟩ (.int .i64 0)) (.cells #[.int .i64 u.c, .int .i64 u.m, .int .i64 u.p] 43)) := ((((hC2.setCell (by dsimp only; omega) _).setCell (by dsimp only; omega) _).setCell (by dsimp only; omega) _)).alloc (by simp [World.setCell]; omega) _
    generalize World.alloc (((w2.setCell ⟨w.heap.size + 1 + 1, 0, none⟩ (.int .i64 0)).setCell ⟨w.heap.size + 1 + 1, 1, none⟩ (.int .i64 0)).setCell ⟨w.heap.size + 1 + 1, 2, none⟩ (.int .i64 0)) (.cells #[.int .i64 u.c, .int .i64 u.m, .int .i64 u.p] 43) = Y at hZ hX' ⊢
    have z0 := hZ.cell 0
    have z1 := hZ.cell 1
    have z2 := hZ.cell 2
    simp at z0 z1 z2
    exact bodyPost_ret (v := .tuple #[.agg #[.int .i64 RV.zero.c, .int .i64 RV.zero.m, .int .i64 RV.zero.p], .bool false]) (by simp [results, Tryz.results164, go_sem, z0, z1, z2, RV.zero]) rfl ⟨by rw [HFR.out]; rfl, hX'⟩
  · go_wp2_with fail
    refine (HSUB.out _ (HG.out.below (hC2.alloc (by omega) _) (Nat.le_refl _))).mono ?_
    rintro e w3 ⟨rfl, hb3⟩
    have hz3 := hb3.size
    simp at hz3
    have hC3 : Below w.heap.size w w3 := below_of (hC2.alloc (by omega) _) hb3
    have BR := (HBR.out.alloc (.cells #[.int .i64 u.c, .int .i64 u.m, .int .i64 u.p] 43)).below hb3 (by simp; omega)
    have r0 := BR.cell 0
    have r1 := BR.cell 1
    have r2 := BR.cell 2
    have rf := BR.frozen
    have rl := BR.lt
    simp at r0 r1 r2
    have HB3 := Lib.hid BR
    clear BR hb3
    generalize hs1 : resSub n.cap u = s
    generalize hs2 : resSubOk n.cap u = sok
    have HS := Lib.hid (And.intro hs1 hs2)
    clear hs1 hs2
    go_wp2_with fail
    have hZ : BlockIs (((w3.setCell ⟨w.heap.size + 1 + 1, 0, none⟩ (.int .i64 s.c)).setCell ⟨w.heap.size + 1 + 1, 1, none⟩ (.int .i64 s.m)).setCell ⟨w.heap.size + 1 + 1, 2, none⟩ (.int .i64 s.p)) (w.heap.size + 1 + 1) 43 #[.int .i64 s.c, .int .i64 s.m, .int .i64 s.p] := by simpa using ((HB3.out.put 0 _).put 1 _).put 2 _
    have hX' : Below w.heap.size w (((w3.setCell ⟨w.heap.size + 1 + 1, 0, none⟩ (.int .i64 s.c)).setCell ⟨w.heap.size + 1 + 1, 1, none⟩ (.int .i64 s.m)).setCell ⟨w.heap.size + 1 + 1, 2, none⟩ (.int .i64 s.p)) := (((hC3).setCell (by dsimp only; omega) _).setCell (by dsimp only; omega) _).setCell (by dsimp only; omega) _
    generalize (((w3.setCell ⟨w.heap.size + 1 + 1, 0, none⟩ (.int .i64 s.c)).setCell ⟨w.heap.size + 1 + 1, 1, none⟩ (.int .i64 s.m)).setCell ⟨w.heap.size + 1 + 1, 2, none⟩ (.int .i64 s.p)) = Y at hZ hX' ⊢
    have z0 := hZ.cell 0
    have z1 := hZ.cell 1
    have z2 := hZ.cell 2
    simp at z0 z1 z2
    exact bodyPost_ret (v := .tuple #[.agg #[.int .i64 s.c, .int .i64 s.m, .int .i64 s.p], .bool sok]) (by simp [results, Tryz.results164, go_sem, z0, z1, z2]) rfl ⟨by rw [HFR.out]; simp [HS.out.1, HS.out.2], hX'⟩

theorem fitsAll_yes {c : CV} {n : NV} {r : List NV} (h : (freeOf c n).2 = true) : fitsAll c (n :: r) = fitsAll c r := by simp [fitsAll, h]
theorem fitsAll_no {c : CV} {n : NV} {r : List NV} (h : (freeOf c n).2 = false) : fitsAll c (n :: r) = false := by simp [fitsAll, h]
set_option maxHeartbeats 1600000 in
theorem needsFit_any (c : CV) (a0 a1 a2 : Value) (w : World) (x : Addr) (hg : ErrAt x w) (hc : CluR w c a0 a1 a2) :
    Calls Tryz.prog 129 #[.agg #[a0, a1, a2]] w fun e w' => e = .returned (.bool (fitsAll c c.nodes)) ∧ Below w.heap.size w w' := by
  have HC := Lib.hid hc
  obtain ⟨h0, h1, h2, l0, l1, l2⟩ := hc
  obtain ⟨D0, e0, rfl, r0⟩ := h0.form
  obtain ⟨D1, e1, rfl, hA⟩ := h1.form
  obtain ⟨D2, e2, rfl, r2⟩ := h2.form
  have HA := Lib.hid hA
  have HG := Lib.hid hg
  clear hA h0 h1 h2 l0 l2 r0 r2 hg
  go_enter Tryz.func129, Tryz.ntmps129
  go_wp2_with fail
  go_loopw [10] (fun s10 wr => ∃ k : Nat, k ≤ c.nodes.length ∧ s10 = .int .i64 k ∧ fitsAll c c.nodes = fitsAll c (c.nodes.drop k) ∧ BlockIs wr w.heap.size 39 #[.slice D0 c.tasks.length e0, .slice D1 c.nodes.length e1, .slice D2 c.binds.length e2] ∧ Below w.heap.size w wr) (fun s10 _ => (c.nodes.length - intOf s10).toNat)
  case atStart => exact ⟨0, by omega, rfl, by simp, BlockIs.new _ _ _, (by repeat' (first | exact Below.refl _ _ | refine Below.alloc ?_ ?_ _ | refine Below.setCell ?_ ?_ _ | refine Below.drew ?_ | (apply below_step; assumption) | (simp; done) | (simp; omega) | omega))⟩
  case round =>
    obtain ⟨k, hk, rfl, hts, hblk, hB⟩ := hrel
    have HTS := Lib.hid hts
    have HBK := Lib.hid hblk
    have hzr := hB.size
    have hgl := hblk.lt
    clear hts
    by_cases hlt : k < c.nodes.length
    · obtain ⟨b, off, rfl, hbw, hat⟩ := HA.out (by omega)
      obtain ⟨t, ht⟩ : ∃ t, c.nodes[k]? = some t := ⟨_, List.getElem?_eq_getElem hlt⟩
      obtain ⟨cs, hR, hC0⟩ := hat k t ht
      have hC := hC0.below hB hbw
      have HD := Lib.hid (drop_at ht)
      obtain ⟨v1, v2, rfl, sl, si, m1, m2⟩ := hR
      have hfr := fun w1 hw1 hg1 => freeOn_any c t (.slice D0 c.tasks.length e0) (.slice (some ⟨b, off, none⟩) c.nodes.length e1) (.slice D2 c.binds.length e2) v1 v2 w w1 hw1 x hg1 HC.out sl si
      obtain ⟨A1, c1, rfl, _⟩ := sl.form
      obtain ⟨A2, c2, rfl, _⟩ := si.form
      obtain ⟨q0, q1, q2, q3, q4, q5, q6, q7⟩ := node_cells hC
      generalize (freeOf c t).1 = u at hfr
      generalize ho : (freeOf c t).2 = ok at hfr
      have HFR := Lib.hid hfr
      have HO := Lib.hid ho
      have g0 := hblk.cell 0
      have g1 := hblk.cell 1
      have g2 := hblk.cell 2
      simp at g0 g1 g2
      have hbr : b < wr.heap.size := by omega
      clear hat hC hC0 ht hblk sl si m1 m2 hfr ho
      go_wp2_with fail
      have hX : Below wr.heap.size wr (wr.alloc (.cells #[.int .i64 t.id, .int .i64 t.pool, .int .i64 t.cap.c, .int .i64 t.cap.m, .int .i64 t.cap.p, .slice A1 t.labs.length c1, .slice A2 t.taints.length c2, .bool t.cordon] 60)) := (by repeat' (first | exact Below.refl _ _ | refine Below.alloc ?_ ?_ _ | refine Below.setCell ?_ ?_ _ | refine Below.drew ?_ | (apply below_step; assumption) | (simp; done) | (simp; omega) | omega))
      have hCX := below_of hB hX
      refine (HFR.out _ hCX (HG.out.below hCX (Nat.le_refl _))).mono ?_
      rintro e w2 ⟨rfl, hb2⟩
      have hD2 := below_of hX hb2
      have hC2 := below_of hB hD2
      have HBK2 := Lib.hid (HBK.out.below hD2 HBK.out.lt)
      have hz2 := hD2.size
      clear hb2
      cases ok
      · go_wp2_with fail
        go_ret
        exact ⟨by rw [HTS.out, HD.out, fitsAll_no HO.out]; rfl, (by repeat' (first | exact Below.refl _ _ | refine Below.alloc ?_ ?_ _ | refine Below.setCell ?_ ?_ _ | refine Below.drew ?_ | (apply below_step; assumption) | (simp; done) | (simp; omega) | omega))⟩
      · go_wp2_with fail
        go_roundw
        case rel => exact ⟨k + 1, by omega, by go_num, by rw [HTS.out, HD.out, fitsAll_yes HO.out], HBK2.out.alloc _, hC2.alloc (by omega) _⟩
        case measure => simp [intOf]; omega
    · have hkl : k = c.nodes.length := by omega
      have HF := Lib.hid (show fitsAll c c.nodes = true by rw [HTS.out, hkl, List.drop_length]; rfl)
      clear hkl
      go_wp2_with fail
      go_ret
      exact ⟨by rw [HF.out]; rfl, hB⟩

theorem clusterOk_eq (c : CV) (b1 b2 b3 b4 : Bool) (h1 : tasksOk c.tasks = b1) (h2 : nodesOk c.nodes = b2) (h3 : bindsFrom c 0 c.binds = b3) (h4 : fitsAll c c.nodes = b4) : clusterOk c = (b1 && b2 && b3 && b4) := by
  subst h1 h2 h3 h4; rfl
set_option maxHeartbeats 1600000 in
theorem ClusterOk_any (c : CV) (a0 a1 a2 : Value) (w : World) (x : Addr) (hg : ErrAt x w) (hc : CluR w c a0 a1 a2) :
    Calls Tryz.prog 89 #[.agg #[a0, a1, a2]] w fun e w' => e = .returned (.bool (clusterOk c)) ∧ Below w.heap.size w w' := by
  have HC := Lib.hid hc
  obtain ⟨h0, h1, h2, l0, l1, l2⟩ := hc
  have ht := fun w hg h => tasksOk_any a0 c.tasks w x hg h l0
  have hn := fun w hg h => nodesOk_any a1 c.nodes w x hg h l1
  have hb := fun w hg h => bindsOk_any c a0 a1 a2 w x hg h
  have hf := fun w hg h => needsFit_any c a0 a1 a2 w x hg h
  generalize e1 : tasksOk c.tasks = b1 at ht
  generalize e2 : nodesOk c.nodes = b2 at hn
  generalize e3 : bindsFrom c 0 c.binds = b3 at hb
  generalize e4 : fitsAll c c.nodes = b4 at hf
  have HE := Lib.hid (clusterOk_eq c _ _ _ _ e1 e2 e3 e4)
  have HT := Lib.hid ht
  have HN := Lib.hid hn
  have HB := Lib.hid hb
  have HF := Lib.hid hf
  have HG := Lib.hid hg
  obtain ⟨D0, d0, rfl, _⟩ := h0.form
  obtain ⟨D1, d1, rfl, _⟩ := h1.form
  obtain ⟨D2, d2, rfl, _⟩ := h2.form
  clear h0 h1 h2 l0 l1 l2 ht hn hb hf hg e1 e2 e3 e4
  go_enter Tryz.func89, Tryz.ntmps89
  go_wp2_with fail
  have hX : Below w.heap.size w (w.alloc (.cells #[.slice D0 c.tasks.length d0, .slice D1 c.nodes.length d1, .slice D2 c.binds.length d2] 39)) := (by repeat' (first | exact Below.refl _ _ | refine Below.alloc ?_ ?_ _ | refine Below.setCell ?_ ?_ _ | refine Below.drew ?_ | (apply below_step; assumption) | (simp; done) | (simp; omega) | omega))
  refine (HT.out _ (HG.out.below hX (Nat.le_refl _)) (HC.out.below hX).1).mono ?_
  rintro e w1 ⟨rfl, hb1⟩
  have hC1 := below_of hX hb1
  have B1 := (BlockIs.new w 39 #[.slice D0 c.tasks.length d0, .slice D1 c.nodes.length d1, .slice D2 c.binds.length d2]).below hb1 (by simp)
  have HB1 := Lib.hid B1
  have g0 := B1.cell 0
  have g1 := B1.cell 1
  have g2 := B1.cell 2
  simp at g0 g1 g2
  clear B1 hb1
  cases b1
  · go_wp2_with fail
    go_ret
    exact ⟨by rw [HE.out]; simp, hC1⟩
  go_wp2_with fail
  refine (HN.out _ (HG.out.below hC1 (Nat.le_refl _)) (HC.out.below hC1).2.1).mono ?_
  rintro e w2 ⟨rfl, hb2⟩
  have hC2 := below_of hC1 hb2
  have B2 := HB1.out.below hb2 HB1.out.lt
  have HB2 := Lib.hid B2
  have g0 := B2.cell 0
  have g1 := B2.cell 1
  have g2 := B2.cell 2
  simp at g0 g1 g2
  clear B2 hb2
  cases b2
  · go_wp2_with fail
    go_ret
    exact ⟨by rw [HE.out]; simp, hC2⟩
  go_wp2_with fail
  refine (HB.out _ (HG.out.below hC2 (Nat.le_refl _)) (HC.out.below hC2)).mono ?_
  rintro e w3 ⟨rfl, hb3⟩
  have hC3 := below_of hC2 hb3
  have B3 := HB2.out.below hb3 HB2.out.lt
  have g0 := B3.cell 0
  have g1 := B3.cell 1
  have g2 := B3.cell 2
  simp at g0 g1 g2
  clear B3 hb3
  cases b3
  · go_wp2_with fail
    go_ret
    exact ⟨by rw [HE.out]; simp, hC3⟩
  go_wp2_with fail
  refine (HF.out _ (HG.out.below hC3 (Nat.le_refl _)) (HC.out.below hC3)).mono ?_
  rintro e w4 ⟨rfl, hb4⟩
  have hC4 := below_of hC3 hb4
  go_wp2_with fail
  go_ret
  exact ⟨by rw [HE.out]; simp, hC4⟩
end Go.Proofs.YtocfgejceoenmaaGreatDoor
