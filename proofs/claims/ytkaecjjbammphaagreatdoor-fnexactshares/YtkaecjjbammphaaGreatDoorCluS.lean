/- The contracts of the model's l03Task, l03Node, l03Bind, l03Used. -/
import Derived.Test.YtkaecjjbammphaaGreatDoorMg07
import Derived.Test.YtkaecjjbammphaaGreatDoorMg08
import Derived.Deep.RegionHeld3
namespace Go.Proofs.YtkaecjjbammphaaGreatDoor
open Go.RowKit

set_option maxHeartbeats 1600000 in
theorem sTask_any (c : CV) (a0 a1 a2 : Value) (z : Int) (w0 w : World) (hw : Below w0.heap.size w0 w) (hc : CluR w0 c a0 a1 a2) :
    Calls Tryz.prog 33 #[.agg #[a0, a1, a2], .int .i64 z] w fun e w' => e = .returned (.int .i64 (idxBy TV.id c.tasks z)) ∧ Below w.heap.size w w' := by
  obtain ⟨h0, h1, h2, l0, l1, l2⟩ := hc
  obtain ⟨D0, e0, rfl, r0⟩ := h0.form
  obtain ⟨D1, e1, rfl, r1⟩ := h1.form
  obtain ⟨D2, e2, rfl, r2⟩ := h2.form
  have HA := Lib.hid r0
  have hlen := l0
  have HW := Lib.hid hw
  have hwz := hw.size
  clear h0 h1 h2 l0 l1 l2 r0 r1 r2 hw
  go_enter Tryz.func33, Tryz.ntmps33
  go_wp2_with fail
  go_loopw [5] (fun s5 wr => ∃ k : Nat, k ≤ c.tasks.length ∧ s5 = .int .i64 k ∧ idxBy TV.id c.tasks z = idxGo TV.id k (c.tasks.drop k) z ∧ BlockIs wr w.heap.size 34 #[.slice D0 c.tasks.length e0, .slice D1 c.nodes.length e1, .slice D2 c.binds.length e2] ∧ Below w.heap.size w wr) (fun s5 _ => (c.tasks.length - intOf s5).toNat)
  case atStart => exact ⟨0, by omega, rfl, by simp [idxBy], BlockIs.new _ _ _, (by repeat' (first | exact Below.refl _ _ | refine Below.alloc ?_ ?_ _ | refine Below.setCell ?_ ?_ _ | refine Below.drew ?_ | (apply below_step; assumption) | (simp; done) | (simp; omega) | omega))⟩
  case round =>
    obtain ⟨k, hk, rfl, hidx, hblk, hB⟩ := hrel
    have HI := Lib.hid hidx
    have HBK := Lib.hid hblk
    have hzr := hB.size
    have g0 := hblk.cell 0
    simp at g0
    clear hidx hblk
    by_cases hlt : k < c.tasks.length
    · obtain ⟨b, off, rfl, hbw, hat⟩ := HA.out (by omega)
      obtain ⟨t, ht⟩ : ∃ t, c.tasks[k]? = some t := ⟨_, List.getElem?_eq_getElem hlt⟩
      obtain ⟨cs, hR, hC⟩ := (hat.below TaskR.kept (below_of HW.out hB) hbw) k t ht
      have HD := Lib.hid (drop_at ht)
      obtain ⟨v1, v2, rfl, sl, si, m1, m2⟩ := hR; obtain ⟨A1, c1, rfl, _⟩ := sl.form; obtain ⟨A2, c2, rfl, _⟩ := si.form
      clear sl si m1 m2
      obtain ⟨q0, q1, q2, q3, q4, q5, q6⟩ := task_cells hC
      have hki : (k : Int) < (c.tasks.length : Int) := by omega
      have hk0 : (0 : Int) ≤ (k : Int) := by omega
      clear hat hC ht
      by_cases e : t.id = z
      · have HE := Lib.hid e
        have he' : (t.id == z) = true := by simpa using HE.out
        clear e
        go_wp2_with fail
        go_ret
        refine ⟨?_, hB⟩
        rw [HI.out, HD.out, idxGo_hit HE.out]; rfl
      · have HE := Lib.hid e
        have he' : (t.id == z) = false := by simpa using HE.out
        clear e
        go_wp2_with fail
        go_roundw
        case rel => exact ⟨k + 1, by omega, by go_num, by rw [HI.out, HD.out, idxGo_miss HE.out]; simp, HBK.out, hB⟩
        case measure => simp [intOf]; omega
    · have hkl : k = c.tasks.length := by omega
      have HF := Lib.hid (show idxBy TV.id c.tasks z = -1 by rw [HI.out, hkl, List.drop_length]; rfl)
      clear hkl
      go_wp2_with fail
      go_ret
      exact ⟨by rw [HF.out]; rfl, hB⟩
set_option maxHeartbeats 1600000 in
theorem sNode_any (c : CV) (a0 a1 a2 : Value) (z : Int) (w0 w : World) (hw : Below w0.heap.size w0 w) (hc : CluR w0 c a0 a1 a2) :
    Calls Tryz.prog 35 #[.agg #[a0, a1, a2], .int .i64 z] w fun e w' => e = .returned (.int .i64 (idxBy NV.id c.nodes z)) ∧ Below w.heap.size w w' := by
  obtain ⟨h0, h1, h2, l0, l1, l2⟩ := hc
  obtain ⟨D0, e0, rfl, r0⟩ := h0.form
  obtain ⟨D1, e1, rfl, r1⟩ := h1.form
  obtain ⟨D2, e2, rfl, r2⟩ := h2.form
  have HA := Lib.hid r1
  have hlen := l1
  have HW := Lib.hid hw
  have hwz := hw.size
  clear h0 h1 h2 l0 l1 l2 r0 r1 r2 hw
  go_enter Tryz.func35, Tryz.ntmps35
  go_wp2_with fail
  go_loopw [5] (fun s5 wr => ∃ k : Nat, k ≤ c.nodes.length ∧ s5 = .int .i64 k ∧ idxBy NV.id c.nodes z = idxGo NV.id k (c.nodes.drop k) z ∧ BlockIs wr w.heap.size 34 #[.slice D0 c.tasks.length e0, .slice D1 c.nodes.length e1, .slice D2 c.binds.length e2] ∧ Below w.heap.size w wr) (fun s5 _ => (c.nodes.length - intOf s5).toNat)
  case atStart => exact ⟨0, by omega, rfl, by simp [idxBy], BlockIs.new _ _ _, (by repeat' (first | exact Below.refl _ _ | refine Below.alloc ?_ ?_ _ | refine Below.setCell ?_ ?_ _ | refine Below.drew ?_ | (apply below_step; assumption) | (simp; done) | (simp; omega) | omega))⟩
  case round =>
    obtain ⟨k, hk, rfl, hidx, hblk, hB⟩ := hrel
    have HI := Lib.hid hidx
    have HBK := Lib.hid hblk
    have hzr := hB.size
    have g1 := hblk.cell 1
    simp at g1
    clear hidx hblk
    by_cases hlt : k < c.nodes.length
    · obtain ⟨b, off, rfl, hbw, hat⟩ := HA.out (by omega)
      obtain ⟨t, ht⟩ : ∃ t, c.nodes[k]? = some t := ⟨_, List.getElem?_eq_getElem hlt⟩
      obtain ⟨cs, hR, hC⟩ := (hat.below NodeR.kept (below_of HW.out hB) hbw) k t ht
      have HD := Lib.hid (drop_at ht)
      obtain ⟨v1, v2, rfl, sl, si, m1, m2⟩ := hR; obtain ⟨A1, c1, rfl, _⟩ := sl.form; obtain ⟨A2, c2, rfl, _⟩ := si.form
      clear sl si m1 m2
      obtain ⟨q0, q1, q2, q3, q4, q5, q6, q7⟩ := node_cells hC
      have hki : (k : Int) < (c.nodes.length : Int) := by omega
      have hk0 : (0 : Int) ≤ (k : Int) := by omega
      clear hat hC ht
      by_cases e : t.id = z
      · have HE := Lib.hid e
        have he' : (t.id == z) = true := by simpa using HE.out
        clear e
        go_wp2_with fail
        go_ret
        refine ⟨?_, hB⟩
        rw [HI.out, HD.out, idxGo_hit HE.out]; rfl
      · have HE := Lib.hid e
        have he' : (t.id == z) = false := by simpa using HE.out
        clear e
        go_wp2_with fail
        go_roundw
        case rel => exact ⟨k + 1, by omega, by go_num, by rw [HI.out, HD.out, idxGo_miss HE.out]; simp, HBK.out, hB⟩
        case measure => simp [intOf]; omega
    · have hkl : k = c.nodes.length := by omega
      have HF := Lib.hid (show idxBy NV.id c.nodes z = -1 by rw [HI.out, hkl, List.drop_length]; rfl)
      clear hkl
      go_wp2_with fail
      go_ret
      exact ⟨by rw [HF.out]; rfl, hB⟩
end Go.Proofs.YtkaecjjbammphaaGreatDoor
namespace Go.Proofs.YtkaecjjbammphaaGreatDoor
open Go.RowKit

set_option maxHeartbeats 3200000 in
set_option maxRecDepth 20000 in
theorem sUsed_any (c : CV) (a0 a1 a2 : Value) (z : Int) (w0 w : World) (hw : Below w0.heap.size w0 w) (hc : CluR w0 c a0 a1 a2) (hall : ∀ b ∈ c.binds, ∃ t, fstBy TV.id c.tasks b.task = some t) :
    Calls Tryz.prog 17 #[.agg #[a0, a1, a2], .int .i64 z] w (RetR (usedOf c z).1 (usedOf c z).2 w) := by
  have HC := Lib.hid hc
  obtain ⟨h0, h1, h2, l0, l1, l2⟩ := hc
  obtain ⟨D0, e0, rfl, hT⟩ := h0.form
  obtain ⟨D1, e1, rfl, r1⟩ := h1.form
  obtain ⟨D2, e2, rfl, hA⟩ := h2.form
  have HA := Lib.hid hA
  have HT := Lib.hid hT
  have HW := Lib.hid hw
  have HALL := Lib.hid hall
  have hwz := hw.size
  clear hA hT h0 h1 h2 l1 r1 hw hall
  go_enter Tryz.func17, Tryz.ntmps17
  go_wp2_with fail
  have hX : Below w.heap.size w ((w.alloc (.cells #[.slice D0 c.tasks.length e0, .slice D1 c.nodes.length e1, .slice D2 c.binds.length e2] 34)).alloc (.cells #[.int .i64 0, .int .i64 0, .int .i64 0] 46)) := (by repeat' (first | exact Below.refl _ _ | refine Below.alloc ?_ ?_ _ | refine Below.setCell ?_ ?_ _ | refine Below.drew ?_ | (apply below_step; assumption) | (simp; done) | (simp; omega) | omega))
  have hXz : ((w.alloc (.cells #[.slice D0 c.tasks.length e0, .slice D1 c.nodes.length e1, .slice D2 c.binds.length e2] 34)).alloc (.cells #[.int .i64 0, .int .i64 0, .int .i64 0] 46)).heap.size = w.heap.size + 2 := by simp
  have hXz' : w.heap.size + 1 + 1 = ((w.alloc (.cells #[.slice D0 c.tasks.length e0, .slice D1 c.nodes.length e1, .slice D2 c.binds.length e2] 34)).alloc (.cells #[.int .i64 0, .int .i64 0, .int .i64 0] 46)).heap.size := by simp
  have BC : BlockIs ((w.alloc (.cells #[.slice D0 c.tasks.length e0, .slice D1 c.nodes.length e1, .slice D2 c.binds.length e2] 34)).alloc (.cells #[.int .i64 0, .int .i64 0, .int .i64 0] 46)) w.heap.size 34 #[.slice D0 c.tasks.length e0, .slice D1 c.nodes.length e1, .slice D2 c.binds.length e2] := (BlockIs.new _ _ _).alloc _
  have BR : BlockIs ((w.alloc (.cells #[.slice D0 c.tasks.length e0, .slice D1 c.nodes.length e1, .slice D2 c.binds.length e2] 34)).alloc (.cells #[.int .i64 0, .int .i64 0, .int .i64 0] 46)) (w.heap.size + 1) 46 #[.int .i64 0, .int .i64 0, .int .i64 0] := BlockIs.new' (by simp)
  generalize ((w.alloc (.cells #[.slice D0 c.tasks.length e0, .slice D1 c.nodes.length e1, .slice D2 c.binds.length e2] 34)).alloc (.cells #[.int .i64 0, .int .i64 0, .int .i64 0] 46)) = X at hX hXz hXz' BC BR ⊢
  have HBC := Lib.hid BC
  have HBR := Lib.hid BR
  have HO : Hid (OwnsR (X.alloc (.cells #[] 46)) X.heap.size (.slice (some ⟨w.heap.size + 1 + 1, 0, none⟩) 0 0) []) := by
    rw [hXz']
    exact World.ownsRow_made X #[] 0 (Nat.le_refl _) (by unfold maxLen; omega) rfl
  clear BC BR hXz'
  go_loopw [6, 7] (fun s6 s7 wr => ∃ k : Nat, k ≤ c.binds.length ∧ s7 = .int .i64 k ∧ OwnsR wr X.heap.size s6 (needsIn c z (c.binds.take k)) ∧ Below X.heap.size X wr) (fun _ s7 _ => (c.binds.length - intOf s7).toNat)
  case atStart => exact ⟨0, by omega, rfl, by simpa [needsIn] using HO.out, (by repeat' (first | exact Below.refl _ _ | refine Below.alloc ?_ ?_ _ | refine Below.setCell ?_ ?_ _ | refine Below.drew ?_ | (apply below_step; assumption) | (simp; done) | (simp; omega) | omega))⟩
  case round =>
    obtain ⟨k, hk, rfl, hown, hB⟩ := hrel
    have HOW := Lib.hid hown
    have hCB := below_of hX hB
    have hzr := hB.size
    have BC := HBC.out.below hB HBC.out.lt
    have g0 := BC.cell 0
    have g1 := BC.cell 1
    have g2 := BC.cell 2
    have gl := BC.lt
    simp at g0 g1 g2
    clear hown HO
    by_cases hlt : k < c.binds.length
    · obtain ⟨b, off, rfl, hbw, hat⟩ := HA.out (by omega)
      obtain ⟨t, ht⟩ : ∃ t, c.binds[k]? = some t := ⟨_, List.getElem?_eq_getElem hlt⟩
      obtain ⟨cs, hR, hC⟩ := (hat.below BindR.kept (below_of HW.out hCB) hbw) k t ht
      have HBT := Lib.hid ht
      obtain rfl := hR
      obtain ⟨q0, q1⟩ := bind_cells hC
      have hbr : b < wr.heap.size := by omega
      have hki : (k : Int) < (c.binds.length : Int) := by omega
      have hk0 : (0 : Int) ≤ (k : Int) := by omega
      clear hat hC BC
      by_cases e : t.node = z
      · have HE := Lib.hid e
        have HLN := Lib.hid (needsIn_take_len c z k)
        clear e
        have he' : (t.node == z) = true := by simpa using HE.out
        obtain ⟨t1, ht1⟩ := HALL.out t (List.mem_of_getElem? ht)
        obtain ⟨j, hj, hjt, _, _⟩ := idxBy_some ht1
        have HN := Lib.hid (show needOf c t.task = t1.need by unfold needOf; rw [ht1]; rfl)
        have hjl : j < c.tasks.length := (List.getElem?_eq_some_iff.1 hjt).1
        obtain ⟨b0, off0, rfl, hbw0, hat0⟩ := HT.out (by omega)
        obtain ⟨cs0, hR0, hC0⟩ := (hat0.below TaskR.kept (below_of HW.out hCB) hbw0) j t1 hjt
        obtain ⟨v1, v2, rfl, sl, si, m1, m2⟩ := hR0
        obtain ⟨p0, p1, p2, p3, p4, p5, p6⟩ := task_cells hC0
        have hst := fun w1 hw1 => sTask_any c (.slice (some ⟨b0, off0, none⟩) c.tasks.length e0) (.slice D1 c.nodes.length e1) (.slice (some ⟨b, off, none⟩) c.binds.length e2) t.task w0 w1 hw1 HC.out
        rw [hj] at hst
        have HST := Lib.hid hst
        have hji : (j : Int) < (c.tasks.length : Int) := by omega
        have hj0 : (0 : Int) ≤ (j : Int) := by omega
        have hb0r : b0 < X.heap.size := by omega
        have hbX : b < X.heap.size := by omega
        have hwX : w.heap.size < X.heap.size := by omega
        have HK := Lib.hid (show ∀ w', Below X.heap.size wr w' → Below X.heap.size wr w' ∧ w'.cell? ⟨w.heap.size, 0, none⟩ = some (.slice (some ⟨b0, off0, none⟩) c.tasks.length e0) ∧ w'.cell? ⟨w.heap.size, 1, none⟩ = some (.slice D1 c.nodes.length e1) ∧ w'.cell? ⟨w.heap.size, 2, none⟩ = some (.slice (some ⟨b, off, none⟩) c.binds.length e2) ∧ w'.cell? ⟨b, off + k * 2, none⟩ = some (.int .i64 t.task) ∧
            w'.cell? ⟨b0, off0 + j * 7 + 2, none⟩ = some (.int .i64 t1.need.c) ∧ w'.cell? ⟨b0, off0 + j * 7 + 3, none⟩ = some (.int .i64 t1.need.m) ∧ w'.cell? ⟨b0, off0 + j * 7 + 4, none⟩ = some (.int .i64 t1.need.p) from
          fun w' hb => ⟨hb, (hb.cell (p := ⟨_, _, none⟩) hwX).trans g0, (hb.cell (p := ⟨_, _, none⟩) hwX).trans g1, (hb.cell (p := ⟨_, _, none⟩) hwX).trans g2, (hb.cell (p := ⟨_, _, none⟩) hbX).trans q0, (hb.cell (p := ⟨_, _, none⟩) hb0r).trans p2, (hb.cell (p := ⟨_, _, none⟩) hb0r).trans p3, (hb.cell (p := ⟨_, _, none⟩) hb0r).trans p4⟩)
        clear ht ht1 hj hjt hat0 hC0 sl si m1 m2 hst p0 p1 p5 p6
        go_wp2_with fail
        go_region_held3 (fun w' => Below X.heap.size wr w' ∧ w'.cell? ⟨w.heap.size, 0, none⟩ = some (.slice (some ⟨b0, off0, none⟩) c.tasks.length e0) ∧ w'.cell? ⟨w.heap.size, 1, none⟩ = some (.slice D1 c.nodes.length e1) ∧ w'.cell? ⟨w.heap.size, 2, none⟩ = some (.slice (some ⟨b, off, none⟩) c.binds.length e2) ∧ w'.cell? ⟨b, off + k * 2, none⟩ = some (.int .i64 t.task) ∧
            w'.cell? ⟨b0, off0 + j * 7 + 2, none⟩ = some (.int .i64 t1.need.c) ∧ w'.cell? ⟨b0, off0 + j * 7 + 3, none⟩ = some (.int .i64 t1.need.m) ∧ w'.cell? ⟨b0, off0 + j * 7 + 4, none⟩ = some (.int .i64 t1.need.p))
          (exact HK.out _ (by repeat' (first | exact Below.refl _ _ | refine Below.alloc ?_ ?_ _ | refine Below.setCell ?_ ?_ _ | refine Below.drew ?_ | (apply below_step; assumption) | (simp; done) | (simp; omega) | omega)))
          (first
            | (go_at_call 33; refine (HST.out _ (below_of HW.out (below_of hCB (by repeat' (first | exact Below.refl _ _ | refine Below.alloc ?_ ?_ _ | refine Below.setCell ?_ ?_ _ | refine Below.drew ?_ | (apply below_step; assumption) | (simp; done) | (simp; omega) | omega))))).mono ?_; rintro e w3 ⟨rfl, hb3⟩; have hz3 := hb3.size; (try simp at hz3); have HO3 := Lib.hid ((HOW.out.below (B := wr.heap.size) (by repeat' (first | exact Below.refl _ _ | refine Below.alloc ?_ ?_ _ | refine Below.setCell ?_ ?_ _ | refine Below.drew ?_ | (apply below_step; assumption) | (simp; done) | (simp; omega) | omega)) (Nat.le_refl _)).below hb3 (Nat.le_refl _)))
            | (refine step_append_res _ (by rfl) (.tmp 24) (.tmp 38) (by rfl) X.heap.size _ (needsIn c z (c.binds.take k)) t1.need _ (by rfl) (by first | exact HO3.out.alloc _ | exact (HO3.out.below (B := w3.heap.size) (by repeat' (first | exact Below.refl _ _ | refine Below.alloc ?_ ?_ _ | refine Below.setCell ?_ ?_ _ | refine Below.drew ?_ | (apply below_step; assumption) | (simp; done) | (simp; omega) | omega)) (Nat.le_refl _))) (by rfl) (by simp) (by simp) (by simp) (by have := HLN.out; omega) (by simp; omega) ?_; intro v' w4 hown4 hb4; have hz4 := hb4.size; (try simp at hz4)))
        all_goals
          go_wp2_with fail
          go_roundw
          case rel =>
            refine ⟨k + 1, by omega, by go_num, ?_, ?_⟩
            · rw [needsIn_take_yes HBT.out HE.out, HN.out]; exact hown4
            · have h3 : Below X.heap.size wr w3 := (Below.refl X.heap.size wr).drew.trans (hb3.mono (by simpa using hzr))
              exact hB.trans ((h3.alloc (by omega) _).trans hb4)
          case measure => simp [intOf]; omega
      · have HE := Lib.hid e
        have he' : (t.node == z) = false := by simpa using HE.out
        clear e
        go_wp2_with fail
        go_roundw
        case rel =>
          refine ⟨k + 1, by omega, by go_num, ?_, hB⟩
          rw [needsIn_take_no HBT.out HE.out]; exact HOW.out
        case measure => simp [intOf]; omega
    · have hkl : k = c.binds.length := by omega
      have hU : usedOf c z = sumGo RV.zero (needsIn c z (c.binds.take k)) := by rw [hkl, List.take_length]; rfl
      have hlen : (needsIn c z (c.binds.take k)).length ≤ 1048576 := Nat.le_trans (needsIn_take_len c z k) l2
      obtain ⟨A5, c5, rfl⟩ := HOW.out.len
      have hsum := fun w hv => sResSum_any (.slice A5 (needsIn c z (c.binds.take k)).length c5) (needsIn c z (c.binds.take k)) w hv hlen
      rw [← hU] at hsum
      generalize hu1 : (usedOf c z).1 = u at hsum
      generalize hu2 : (usedOf c z).2 = ok at hsum
      have HU := Lib.hid (And.intro hu1 hu2)
      clear hu1 hu2
      have HSUM := Lib.hid hsum
      clear hkl hU hsum hlen g0 g1 BC
      go_wp2_with fail
      refine (HSUM.out _ HOW.out.sl).mono ?_
      rintro e w2 ⟨rfl, hb2⟩
      have hz2 := hb2.size
      have BR := (HBR.out.below hB HBR.out.lt).below hb2 (by omega)
      have r0 := BR.cell 0
      have r1 := BR.cell 1
      have r2 := BR.cell 2
      have rf := BR.frozen
      simp at r0 r1 r2
      have HB2 := Lib.hid BR
      clear BR
      go_wp2_with fail
      have hZ : BlockIs (((w2.setCell ⟨w.heap.size + 1, 0, none⟩ (.int .i64 u.c)).setCell ⟨w.heap.size + 1, 1, none⟩ (.int .i64 u.m)).setCell ⟨w.heap.size + 1, 2, none⟩ (.int .i64 u.p)) (w.heap.size + 1) 46 #[.int .i64 u.c, .int .i64 u.m, .int .i64 u.p] := by simpa using ((HB2.out.put 0 _).put 1 _).put 2 _
      have hX' : Below w.heap.size w (((w2.setCell ⟨w.heap.size + 1, 0, none⟩ (.int .i64 u.c)).setCell ⟨w.heap.size + 1, 1, none⟩ (.int .i64 u.m)).setCell ⟨w.heap.size + 1, 2, none⟩ (.int .i64 u.p)) := (((below_of hCB hb2).setCell (by dsimp only; omega) _).setCell (by dsimp only; omega) _).setCell (by dsimp only; omega) _
      generalize (((w2.setCell ⟨w.heap.size + 1, 0, none⟩ (.int .i64 u.c)).setCell ⟨w.heap.size + 1, 1, none⟩ (.int .i64 u.m)).setCell ⟨w.heap.size + 1, 2, none⟩ (.int .i64 u.p)) = Y at hZ hX' ⊢
      have z0 := hZ.cell 0
      have z1 := hZ.cell 1
      have z2 := hZ.cell 2
      simp at z0 z1 z2
      exact bodyPost_ret (v := .tuple #[.agg #[.int .i64 u.c, .int .i64 u.m, .int .i64 u.p], .bool ok]) (by simp [results, Tryz.results17, go_sem, z0, z1, z2]) rfl ⟨by rw [HU.out.1, HU.out.2], hX'⟩
end Go.Proofs.YtkaecjjbammphaaGreatDoor
