/- The contracts of withoutTask, withoutNode, withoutBind, and of TaskDrop, NodeDrop, BindDrop. A row of the call's own with one element taken out by append(s[:j], s[j+1:]...); append of a binding; the model's l03Unbound. The contracts of the model's TaskDrop, NodeDrop, BindDrop. -/
import Derived.Test.YtocfgejceoenmaaGreatDoorMgOp
import Derived.Test.YtocfgejceoenmaaGreatDoorMgMark
import Derived.OwnWalk
import Derived.Test.YtocfgejceoenmaaGreatDoorRegHeld
namespace Go.Proofs.YtocfgejceoenmaaGreatDoor
open Go.RowKit

set_option maxHeartbeats 6400000 in
set_option maxRecDepth 20000 in
theorem withoutTask_any (c : CV) (a0 a1 a2 : Value) (z : Int) (w : World) (x : Addr) (hg : ErrAt x w) (hc : CluR w c a0 a1 a2) :
    Calls Tryz.prog 74 #[.agg #[a0, a1, a2], .int .i64 z] w (RetCluE w (taskDropG c z).1 (taskDropG c z).2) := by
  have hfi := fun w1 hw1 => findTask_any c a0 a1 a2 z w w1 hw1 hc
  have hcp := fun w1 h => copyCluster_any c a0 a1 a2 w1 h
  obtain ⟨D0, D1, D2, e0, e1, e2, rfl, rfl, rfl, -⟩ := hc.full
  have hck := fun ex w1 hg1 h => checkNone_any c D0 D1 D2 e0 e1 e2 false ex false w1 x hg1 h
  unfold taskDropG
  obtain ⟨ex, hex⟩ : ∃ b, b = (fstBy TV.id c.tasks z).isSome := ⟨_, rfl⟩
  rw [← hex]
  have HC := Lib.hid hc
  have HG := Lib.hid hg
  have HEX := Lib.hid hex
  have HFI := Lib.hid hfi
  have HCP := Lib.hid hcp
  have HCK := Lib.hid hck
  clear hfi hcp hck hc hg hex
  go_enter Tryz.func74, Tryz.ntmps74
  go_wp2_with fail
  have hX0 : Below w.heap.size w (((w.alloc (.cells #[.slice D0 c.tasks.length e0, .slice D1 c.nodes.length e1, .slice D2 c.binds.length e2] 39)).alloc (.cells #[.int .i64 z] 3)).alloc (.cells #[.slice none 0 0, .slice none 0 0, .slice none 0 0] 39)) := (by repeat' (first | exact Below.refl _ _ | refine Below.alloc ?_ ?_ _ | refine Below.setCell ?_ ?_ _ | refine Below.drew ?_ | (apply below_step; assumption) | (simp; done) | (simp; omega) | omega))
  refine (HFI.out _ hX0).mono ?_
  rintro e w1 ⟨fs, rfl, hRF, hb1⟩
  have hC1 := below_of hX0 hb1
  have hz1 := hb1.size
  simp at hz1
  have BC : BlockIs w1 w.heap.size 39 #[.slice D0 c.tasks.length e0, .slice D1 c.nodes.length e1, .slice D2 c.binds.length e2] := (((BlockIs.new w _ _).alloc _).alloc _).below hb1 (by simp; omega)
  have BI : BlockIs w1 (w.heap.size + 1) 3 #[.int .i64 z] := (BlockIs.alloc (BlockIs.new' (by simp)) _).below hb1 (by simp)
  have BR : BlockIs w1 (w.heap.size + 1 + 1) 39 #[.slice none 0 0, .slice none 0 0, .slice none 0 0] := (BlockIs.new' (by simp)).below hb1 (by simp)
  rw [← HEX.out]
  generalize (fstBy TV.id c.tasks z).getD TV.zero = t at hRF
  obtain ⟨v1, v2, rfl, sf, sg, _, _⟩ := hRF
  obtain ⟨A1, c1, rfl, _⟩ := sf.form
  obtain ⟨A2, c2, rfl, _⟩ := sg.form
  clear sf sg
  have hX : Below w1.heap.size w1 (w1.alloc (.cells #[.int .i64 t.id, .int .i64 t.prio, .int .i64 t.need.c, .int .i64 t.need.m, .int .i64 t.need.p, .slice A1 t.want.length c1, .slice A2 t.tols.length c2] 46)) := (by repeat' (first | exact Below.refl _ _ | refine Below.alloc ?_ ?_ _ | refine Below.setCell ?_ ?_ _ | refine Below.drew ?_ | (apply below_step; assumption) | (simp; done) | (simp; omega) | omega))
  have BC := BC.alloc (.cells #[.int .i64 t.id, .int .i64 t.prio, .int .i64 t.need.c, .int .i64 t.need.m, .int .i64 t.need.p, .slice A1 t.want.length c1, .slice A2 t.tols.length c2] 46)
  have BI := BI.alloc (.cells #[.int .i64 t.id, .int .i64 t.prio, .int .i64 t.need.c, .int .i64 t.need.m, .int .i64 t.need.p, .slice A1 t.want.length c1, .slice A2 t.tols.length c2] 46)
  have BR := BR.alloc (.cells #[.int .i64 t.id, .int .i64 t.prio, .int .i64 t.need.c, .int .i64 t.need.m, .int .i64 t.need.p, .slice A1 t.want.length c1, .slice A2 t.tols.length c2] 46)
  have hXl : w.heap.size + 3 < (w1.alloc (.cells #[.int .i64 t.id, .int .i64 t.prio, .int .i64 t.need.c, .int .i64 t.need.m, .int .i64 t.need.p, .slice A1 t.want.length c1, .slice A2 t.tols.length c2] 46)).heap.size := by simp; omega
  have hCX := below_of hC1 hX
  have g0 := BC.cell 0
  have g1 := BC.cell 1
  have g2 := BC.cell 2
  simp at g0 g1 g2
  have HBX := Lib.hid (And.intro BC (And.intro BI BR))
  clear hb1 hX0 BC BI BR
  go_wp2_with fail
  refine (HCK.out ex _ (HG.out.below hCX (Nat.le_refl _)) (HC.out.below hCX)).mono ?_
  rintro e w3 ⟨rfl, hb3⟩
  have hC3 := below_of hCX hb3
  have hz3 := hb3.size
  have BC := HBX.out.1.below hb3 HBX.out.1.lt
  have BI := HBX.out.2.1.below hb3 HBX.out.2.1.lt
  have BR := HBX.out.2.2.below hb3 HBX.out.2.2.lt
  have HBI := Lib.hid BI
  have HBR := Lib.hid BR
  have r0 := BR.cell 0
  have r1 := BR.cell 1
  have r2 := BR.cell 2
  have rf := BR.frozen
  have g0 := BC.cell 0
  have g1 := BC.cell 1
  have g2 := BC.cell 2
  simp at r0 r1 r2 g0 g1 g2
  have HBAD := Lib.hid (fun r => @none_bad c r ex)
  have HGOOD := Lib.hid (@none_good c ex)
  generalize codeNone false (clusterOk c) ex = q at HBAD HGOOD ⊢
  clear BC BI BR hb3 HBX hX
  by_cases h0 : q = 0
  · subst h0
    rw [errV_zero]
    obtain ⟨hok, rfl⟩ := HGOOD.out rfl
    have HOK := Lib.hid hok
    clear hok
    go_wp2_with fail
    refine (HCP.out _ (HC.out.below hC3)).mono ?_
    rintro e w4 ⟨b0, b1, b2, bs, rfl, hCO, hlo, hb4⟩
    obtain ⟨F0, F1, F2, f0, f1, f2, rfl, rfl, rfl, -⟩ := hCO.clu.full
    have hC4 := below_of hC3 hb4
    have hz4 := hb4.size
    have hY : Below w4.heap.size w4 (w4.alloc (.cells #[.slice F0 c.tasks.length f0, .slice F1 c.nodes.length f1, .slice F2 c.binds.length f2] 39)) := (by repeat' (first | exact Below.refl _ _ | refine Below.alloc ?_ ?_ _ | refine Below.setCell ?_ ?_ _ | refine Below.drew ?_ | (apply below_step; assumption) | (simp; done) | (simp; omega) | omega))
    have BO : BlockIs (w4.alloc (.cells #[.slice F0 c.tasks.length f0, .slice F1 c.nodes.length f1, .slice F2 c.binds.length f2] 39)) w4.heap.size 39 #[.slice F0 c.tasks.length f0, .slice F1 c.nodes.length f1, .slice F2 c.binds.length f2] := BlockIs.new _ _ _
    have BI := (HBI.out.below hb4 HBI.out.lt).alloc (.cells #[.slice F0 c.tasks.length f0, .slice F1 c.nodes.length f1, .slice F2 c.binds.length f2] 39)
    have BR := (HBR.out.below hb4 HBR.out.lt).alloc (.cells #[.slice F0 c.tasks.length f0, .slice F1 c.nodes.length f1, .slice F2 c.binds.length f2] 39)
    have hCY := below_of hC4 hY
    have hlt := hCO.lt
    have hCY0 := hCO.agree (Agree.of_below hY hlt)
    have hYz : w4.heap.size < (w4.alloc (.cells #[.slice F0 c.tasks.length f0, .slice F1 c.nodes.length f1, .slice F2 c.binds.length f2] 39)).heap.size := by simp
    have HLO := Lib.hid hlo
    have HLT := Lib.hid hlt
    clear hCO hlo hb4 hlt r0 r1 r2 rf g0 g1 g2 hY
    go_wp2_with fail
    generalize w4.alloc (.cells #[.slice F0 c.tasks.length f0, .slice F1 c.nodes.length f1, .slice F2 c.binds.length f2] 39) = Y at BO BI BR hCY hCY0 hYz ⊢
    have o0 := BO.cell 0
    have o1 := BO.cell 1
    have o2 := BO.cell 2
    simp at o0 o1 o2
    have HBO := Lib.hid BO
    have HBI := Lib.hid BI
    have HBR := Lib.hid BR
    have HCO := Lib.hid hCY0
    have HBW := Lib.hid hCY
    have HSB := Lib.hid (show ∀ b ∈ bs, w3.heap.size ≤ b ∧ b < w4.heap.size from fun b hb => ⟨HLO.out b hb, HLT.out b hb⟩)
    clear BO BI BR hCY hCY0 HLO HLT
    go_wp2_with fail
    refine (CluO.delTask 108 #[.pointer (some ⟨w.heap.size + 1, 0, none⟩)] (fun t => decide (t.id = z)) (fun w' => w'.cell? ⟨w.heap.size + 1, 0, none⟩ = some (.int .i64 z)) withoutTask1_eg (withoutTask1_tells (w.heap.size + 1) z) HCO.out (fun _ _ ht hi => ht.cell hi (fun hb => by have := HSB.out _ hb; dsimp only at this; omega)) (by simpa using HBI.out.cell 0)).mono ?_
    rintro e w5 ⟨n5, bs5, rfl, hCO, hsb, htn⟩
    have hzt := htn.size
    have hne := HSB.out
    have BO := HBO.out.turn htn (fun hb => by have := hne _ hb; omega)
    have BI := HBI.out.turn htn (fun hb => by have := hne _ hb; omega)
    have BR := HBR.out.turn htn (fun hb => by have := hne _ hb; omega)
    obtain ⟨⟨N5, L5, m5, rfl⟩, -, -⟩ := hCO.forms
    have hsb' : ∀ b ∈ bs5, w3.heap.size ≤ b ∧ b < w4.heap.size := fun b hb => hne b (hsb b hb)
    have BO2 : BlockIs (w5.setCell ⟨w4.heap.size, 0, none⟩ (.slice N5 L5 m5)) w4.heap.size 39 #[.slice N5 L5 m5, .slice F1 c.nodes.length f1, .slice F2 c.binds.length f2] := by simpa using BO.put 0 (.slice N5 L5 m5)
    have BI2 := BI.far (p := ⟨w4.heap.size, 0, none⟩) (by dsimp only; omega) (.slice N5 L5 m5)
    have BR2 := BR.far (p := ⟨w4.heap.size, 0, none⟩) (by dsimp only; omega) (.slice N5 L5 m5)
    have hCO2 := hCO.agree (w' := (w5.setCell ⟨w4.heap.size, 0, none⟩ (.slice N5 L5 m5))) (fun b hb => Below.heap_setCell _ _ _ b (by have := hsb' b hb; dsimp only; omega))
    have hBW2 := (HBW.out.trans (htn.below HBW.out.size (fun b hb => by have := hne b hb; omega))).setCell (p := ⟨w4.heap.size, 0, none⟩) (by dsimp only; omega) (.slice N5 L5 m5)
    have o0 := BO.cell 0
    have o1 := BO.cell 1
    have o2 := BO.cell 2
    have of := BO.frozen
    have ol := BO.lt
    have r0 := BR.cell 0
    have r1 := BR.cell 1
    have r2 := BR.cell 2
    have rf := BR.frozen
    have hor : w4.heap.size ≠ w.heap.size + 1 + 1 := by omega
    simp at o0 o1 o2 r0 r1 r2
    clear HBO HBI HBR HCO HBW HSB BO BI BR hCO hsb htn hne
    have HBO := Lib.hid BO2
    have HBI := Lib.hid BI2
    have HBR := Lib.hid BR2
    have HCO := Lib.hid hCO2
    have HBW := Lib.hid hBW2
    have HSB := Lib.hid hsb'
    clear BO2 BI2 BR2 hCO2 hBW2 hsb' hzt
    go_wp2_with fail
    refine (CluO.delBind 110 #[.pointer (some ⟨w.heap.size + 1, 0, none⟩)] (fun t => decide (t.task = z)) (fun w' => w'.cell? ⟨w.heap.size + 1, 0, none⟩ = some (.int .i64 z)) withoutTask2_eg (withoutTask2_tells (w.heap.size + 1) z) HCO.out (fun _ _ ht hi => ht.cell hi (fun hb => by have := HSB.out _ hb; dsimp only at this; omega)) (by simpa using HBI.out.cell 0)).mono ?_
    rintro e w6 ⟨n6, bs6, rfl, hCO, hsb, htn⟩
    have hzt := htn.size
    have hne := HSB.out
    have BO := HBO.out.turn htn (fun hb => by have := hne _ hb; omega)
    have BI := HBI.out.turn htn (fun hb => by have := hne _ hb; omega)
    have BR := HBR.out.turn htn (fun hb => by have := hne _ hb; omega)
    obtain ⟨-, -, ⟨N6, L6, m6, rfl⟩⟩ := hCO.forms
    have hsb' : ∀ b ∈ bs6, w3.heap.size ≤ b ∧ b < w4.heap.size := fun b hb => hne b (hsb b hb)
    have BO2 : BlockIs (w6.setCell ⟨w4.heap.size, 2, none⟩ (.slice N6 L6 m6)) w4.heap.size 39 #[.slice N5 L5 m5, .slice F1 c.nodes.length f1, .slice N6 L6 m6] := by simpa using BO.put 2 (.slice N6 L6 m6)
    have BI2 := BI.far (p := ⟨w4.heap.size, 2, none⟩) (by dsimp only; omega) (.slice N6 L6 m6)
    have BR2 := BR.far (p := ⟨w4.heap.size, 2, none⟩) (by dsimp only; omega) (.slice N6 L6 m6)
    have hCO2 := hCO.agree (w' := (w6.setCell ⟨w4.heap.size, 2, none⟩ (.slice N6 L6 m6))) (fun b hb => Below.heap_setCell _ _ _ b (by have := hsb' b hb; dsimp only; omega))
    have hBW2 := (HBW.out.trans (htn.below HBW.out.size (fun b hb => by have := hne b hb; omega))).setCell (p := ⟨w4.heap.size, 2, none⟩) (by dsimp only; omega) (.slice N6 L6 m6)
    have o0 := BO.cell 0
    have o1 := BO.cell 1
    have o2 := BO.cell 2
    have of := BO.frozen
    have ol := BO.lt
    have r0 := BR.cell 0
    have r1 := BR.cell 1
    have r2 := BR.cell 2
    have rf := BR.frozen
    have hor : w4.heap.size ≠ w.heap.size + 1 + 1 := by omega
    simp at o0 o1 o2 r0 r1 r2
    clear HBO HBI HBR HCO HBW HSB BO BI BR hCO hsb htn hne
    have HBO := Lib.hid BO2
    have HBI := Lib.hid BI2
    have HBR := Lib.hid BR2
    have HCO := Lib.hid hCO2
    have HBW := Lib.hid hBW2
    have HSB := Lib.hid hsb'
    clear BO2 BI2 BR2 hCO2 hBW2 hsb' hzt
    go_wp2_with fail
    have hZ := clu_put HBR.out (.slice N5 L5 m5) (.slice F1 c.nodes.length f1) (.slice N6 L6 m6)
    have hA := HCO.out.agree (w' := ((((w6.setCell ⟨w4.heap.size, 2, none⟩ (.slice N6 L6 m6)).setCell ⟨w.heap.size + 1 + 1, 0, none⟩ (.slice N5 L5 m5)).setCell ⟨w.heap.size + 1 + 1, 1, none⟩ (.slice F1 c.nodes.length f1)).setCell ⟨w.heap.size + 1 + 1, 2, none⟩ (.slice N6 L6 m6))) (fun b hb => putAll_block (o := 0) (ds := [.slice N5 L5 m5, .slice F1 c.nodes.length f1, .slice N6 L6 m6]) (by have := HSB.out b hb; omega))
    have hB := clu_below (g := w.heap.size + 1 + 1) HBW.out (by omega) (.slice N5 L5 m5) (.slice F1 c.nodes.length f1) (.slice N6 L6 m6)
    generalize ((((w6.setCell ⟨w4.heap.size, 2, none⟩ (.slice N6 L6 m6)).setCell ⟨w.heap.size + 1 + 1, 0, none⟩ (.slice N5 L5 m5)).setCell ⟨w.heap.size + 1 + 1, 1, none⟩ (.slice F1 c.nodes.length f1)).setCell ⟨w.heap.size + 1 + 1, 2, none⟩ (.slice N6 L6 m6)) = V at hZ hA hB ⊢
    have x0 := hZ.cell 0
    have x1 := hZ.cell 1
    have x2 := hZ.cell 2
    simp at x0 x1 x2
    exact bodyPost_ret (v := .tuple #[.agg #[.slice N5 L5 m5, .slice F1 c.nodes.length f1, .slice N6 L6 m6], .nilIface]) (by simp [results, Tryz.results74, go_sem, x0, x1, x2]) rfl (by rw [needG_fine HOK.out]; exact ⟨_, _, _, _, rfl, hA, fun b hb => by have := HSB.out b hb; omega, hB⟩)
  · rw [errV_ne h0]
    have HZ0 := Lib.hid h0
    clear h0
    go_wp2_with fail
    have hZ := clu_put HBR.out (.slice none 0 0) (.slice none 0 0) (.slice none 0 0)
    have hB := clu_below (g := w.heap.size + 1 + 1) hC3 (by omega) (.slice none 0 0) (.slice none 0 0) (.slice none 0 0)
    generalize (((w3.setCell ⟨w.heap.size + 1 + 1, 0, none⟩ (.slice none 0 0)).setCell ⟨w.heap.size + 1 + 1, 1, none⟩ (.slice none 0 0)).setCell ⟨w.heap.size + 1 + 1, 2, none⟩ (.slice none 0 0)) = V at hZ hB ⊢
    have x0 := hZ.cell 0
    have x1 := hZ.cell 1
    have x2 := hZ.cell 2
    simp at x0 x1 x2
    exact bodyPost_ret (v := .tuple #[.agg #[.slice none 0 0, .slice none 0 0, .slice none 0 0], .iface 124 (.agg #[.int .i64 q])]) (by simp [results, Tryz.results74, go_sem, x0, x1, x2]) rfl (by rw [HBAD.out _ HZ0.out]; exact ⟨_, _, _, [], by rw [errV_ne HZ0.out], CluO.zero _, by simp, hB⟩)
set_option maxHeartbeats 3200000 in
theorem TaskDrop_any (c : CV) (a0 a1 a2 : Value) (z : Int) (w : World) (x : Addr) (hg : ErrAt x w) (hT : TypAt w) (hc : CluR w c a0 a1 a2) :
    Calls Tryz.prog 23 #[.agg #[a0, a1, a2], .int .i64 z] w (RetCluI w (taskDropG c z).1 (taskDropG c z).2) := by
  have hw := fun w1 hb => withoutTask_any c a0 a1 a2 z w1 x (hg.below hb (Nat.le_refl _)) (hc.below hb)
  have hzz : (taskDropG c z).2 ≠ 0 → (taskDropG c z).1 = CV.zero := needG_zero
  obtain ⟨D0, D1, D2, e0, e1, e2, rfl, rfl, rfl, _⟩ := hc.full
  generalize (taskDropG c z).1 = r at hw hzz ⊢
  generalize (taskDropG c z).2 = n at hw hzz ⊢
  have HW := Lib.hid hw
  have HZ := Lib.hid hzz
  have HT := Lib.hid hT
  clear hw hzz hT hc hg
  go_enter Tryz.func23, Tryz.ntmps23
  go_wp2_with fail
  have hX : Below w.heap.size w ((w.alloc (.cells #[.slice D0 c.tasks.length e0, .slice D1 c.nodes.length e1, .slice D2 c.binds.length e2] 39)).alloc (.cells #[.slice none 0 0, .slice none 0 0, .slice none 0 0] 39)) := (by repeat' (first | exact Below.refl _ _ | refine Below.alloc ?_ ?_ _ | refine Below.setCell ?_ ?_ _ | refine Below.drew ?_ | (apply below_step; assumption) | (simp; done) | (simp; omega) | omega))
  refine (HW.out _ hX).mono ?_
  rintro e w1 ⟨b0, b1, b2, bs, rfl, hCO, hlo, hb1⟩
  have hC1 := below_of hX hb1
  have hz1 := hb1.size
  simp at hz1
  have BR : BlockIs w1 (w.heap.size + 1) 39 #[.slice none 0 0, .slice none 0 0, .slice none 0 0] := (BlockIs.new' (by simp)).below hb1 (by simp)
  have hlo' : ∀ b ∈ bs, w.heap.size + 2 ≤ b := fun b hb => by have := hlo b hb; simpa using this
  have HCO := Lib.hid (And.intro hCO hlo')
  have HBR := Lib.hid BR
  clear hb1 hX BR hlo hlo' hCO
  go_wp2_with fail
  refine (answer_any r n b0 b1 b2 bs w1 HCO.out.1 HZ.out (HT.out.below hC1 (Nat.le_refl _))).mono ?_
  rintro e w2 ⟨f0, f1, f2, ds, rfl, hCO2, hds, hb2⟩
  obtain ⟨F0, F1, F2, g0, g1, g2, rfl, rfl, rfl, _⟩ := hCO2.clu.full
  have hC2 := below_of hC1 hb2
  have BR := HBR.out.below hb2 HBR.out.lt
  have r0 := BR.cell 0
  have r1 := BR.cell 1
  have r2 := BR.cell 2
  have rf := BR.frozen
  simp at r0 r1 r2
  have HBR2 := Lib.hid BR
  have HCO2 := Lib.hid (And.intro hCO2 hds)
  clear BR hb2 hCO2 hds
  go_wp2_with fail
  have hZ := clu_put HBR2.out (.slice F0 r.tasks.length g0) (.slice F1 r.nodes.length g1) (.slice F2 r.binds.length g2)
  have hB := clu_below (g := w.heap.size + 1) hC2 (by omega) (.slice F0 r.tasks.length g0) (.slice F1 r.nodes.length g1) (.slice F2 r.binds.length g2)
  have hA := HCO2.out.1.agree (w' := (((w2.setCell ⟨w.heap.size + 1, 0, none⟩ (.slice F0 r.tasks.length g0)).setCell ⟨w.heap.size + 1, 1, none⟩ (.slice F1 r.nodes.length g1)).setCell ⟨w.heap.size + 1, 2, none⟩ (.slice F2 r.binds.length g2))) (fun b hb => putAll_block (o := 0) (ds := [.slice F0 r.tasks.length g0, .slice F1 r.nodes.length g1, .slice F2 r.binds.length g2]) (by have := HCO.out.2 b (HCO2.out.2 b hb); omega))
  generalize (((w2.setCell ⟨w.heap.size + 1, 0, none⟩ (.slice F0 r.tasks.length g0)).setCell ⟨w.heap.size + 1, 1, none⟩ (.slice F1 r.nodes.length g1)).setCell ⟨w.heap.size + 1, 2, none⟩ (.slice F2 r.binds.length g2)) = V at hZ hB hA ⊢
  have x0 := hZ.cell 0
  have x1 := hZ.cell 1
  have x2 := hZ.cell 2
  simp at x0 x1 x2
  exact bodyPost_ret (v := .tuple #[.agg #[.slice F0 r.tasks.length g0, .slice F1 r.nodes.length g1, .slice F2 r.binds.length g2], .int .i64 n]) (by simp [results, Tryz.results23, go_sem, x0, x1, x2]) rfl ⟨_, _, _, _, rfl, hA, fun b hb => by have := HCO.out.2 b (HCO2.out.2 b hb); omega, hB⟩
set_option maxHeartbeats 6400000 in
set_option maxRecDepth 20000 in
theorem withoutNode_any (c : CV) (a0 a1 a2 : Value) (z : Int) (w : World) (x : Addr) (hg : ErrAt x w) (hc : CluR w c a0 a1 a2) :
    Calls Tryz.prog 79 #[.agg #[a0, a1, a2], .int .i64 z] w (RetCluE w (nodeDropG c z).1 (nodeDropG c z).2) := by
  have hfi := fun w1 hw1 => findNode_any c a0 a1 a2 z w w1 hw1 hc
  have hcp := fun w1 h => copyCluster_any c a0 a1 a2 w1 h
  obtain ⟨D0, D1, D2, e0, e1, e2, rfl, rfl, rfl, -⟩ := hc.full
  have hck := fun ex w1 hg1 h => checkNone_any c D0 D1 D2 e0 e1 e2 false ex false w1 x hg1 h
  unfold nodeDropG
  obtain ⟨ex, hex⟩ : ∃ b, b = (fstBy NV.id c.nodes z).isSome := ⟨_, rfl⟩
  rw [← hex]
  have HC := Lib.hid hc
  have HG := Lib.hid hg
  have HEX := Lib.hid hex
  have HFI := Lib.hid hfi
  have HCP := Lib.hid hcp
  have HCK := Lib.hid hck
  clear hfi hcp hck hc hg hex
  go_enter Tryz.func79, Tryz.ntmps79
  go_wp2_with fail
  have hX0 : Below w.heap.size w (((w.alloc (.cells #[.slice D0 c.tasks.length e0, .slice D1 c.nodes.length e1, .slice D2 c.binds.length e2] 39)).alloc (.cells #[.int .i64 z] 3)).alloc (.cells #[.slice none 0 0, .slice none 0 0, .slice none 0 0] 39)) := (by repeat' (first | exact Below.refl _ _ | refine Below.alloc ?_ ?_ _ | refine Below.setCell ?_ ?_ _ | refine Below.drew ?_ | (apply below_step; assumption) | (simp; done) | (simp; omega) | omega))
  refine (HFI.out _ hX0).mono ?_
  rintro e w1 ⟨fs, rfl, hRF, hb1⟩
  have hC1 := below_of hX0 hb1
  have hz1 := hb1.size
  simp at hz1
  have BC : BlockIs w1 w.heap.size 39 #[.slice D0 c.tasks.length e0, .slice D1 c.nodes.length e1, .slice D2 c.binds.length e2] := (((BlockIs.new w _ _).alloc _).alloc _).below hb1 (by simp; omega)
  have BI : BlockIs w1 (w.heap.size + 1) 3 #[.int .i64 z] := (BlockIs.alloc (BlockIs.new' (by simp)) _).below hb1 (by simp)
  have BR : BlockIs w1 (w.heap.size + 1 + 1) 39 #[.slice none 0 0, .slice none 0 0, .slice none 0 0] := (BlockIs.new' (by simp)).below hb1 (by simp)
  rw [← HEX.out]
  generalize (fstBy NV.id c.nodes z).getD NV.zero = t at hRF
  obtain ⟨v1, v2, rfl, sf, sg, _, _⟩ := hRF
  obtain ⟨A1, c1, rfl, _⟩ := sf.form
  obtain ⟨A2, c2, rfl, _⟩ := sg.form
  clear sf sg
  have hX : Below w1.heap.size w1 (w1.alloc (.cells #[.int .i64 t.id, .int .i64 t.pool, .int .i64 t.cap.c, .int .i64 t.cap.m, .int .i64 t.cap.p, .slice A1 t.labs.length c1, .slice A2 t.taints.length c2, .bool t.cordon] 60)) := (by repeat' (first | exact Below.refl _ _ | refine Below.alloc ?_ ?_ _ | refine Below.setCell ?_ ?_ _ | refine Below.drew ?_ | (apply below_step; assumption) | (simp; done) | (simp; omega) | omega))
  have BC := BC.alloc (.cells #[.int .i64 t.id, .int .i64 t.pool, .int .i64 t.cap.c, .int .i64 t.cap.m, .int .i64 t.cap.p, .slice A1 t.labs.length c1, .slice A2 t.taints.length c2, .bool t.cordon] 60)
  have BI := BI.alloc (.cells #[.int .i64 t.id, .int .i64 t.pool, .int .i64 t.cap.c, .int .i64 t.cap.m, .int .i64 t.cap.p, .slice A1 t.labs.length c1, .slice A2 t.taints.length c2, .bool t.cordon] 60)
  have BR := BR.alloc (.cells #[.int .i64 t.id, .int .i64 t.pool, .int .i64 t.cap.c, .int .i64 t.cap.m, .int .i64 t.cap.p, .slice A1 t.labs.length c1, .slice A2 t.taints.length c2, .bool t.cordon] 60)
  have hXl : w.heap.size + 3 < (w1.alloc (.cells #[.int .i64 t.id, .int .i64 t.pool, .int .i64 t.cap.c, .int .i64 t.cap.m, .int .i64 t.cap.p, .slice A1 t.labs.length c1, .slice A2 t.taints.length c2, .bool t.cordon] 60)).heap.size := by simp; omega
  have hCX := below_of hC1 hX
  have g0 := BC.cell 0
  have g1 := BC.cell 1
  have g2 := BC.cell 2
  simp at g0 g1 g2
  have HBX := Lib.hid (And.intro BC (And.intro BI BR))
  clear hb1 hX0 BC BI BR
  go_wp2_with fail
  refine (HCK.out ex _ (HG.out.below hCX (Nat.le_refl _)) (HC.out.below hCX)).mono ?_
  rintro e w3 ⟨rfl, hb3⟩
  have hC3 := below_of hCX hb3
  have hz3 := hb3.size
  have BC := HBX.out.1.below hb3 HBX.out.1.lt
  have BI := HBX.out.2.1.below hb3 HBX.out.2.1.lt
  have BR := HBX.out.2.2.below hb3 HBX.out.2.2.lt
  have HBI := Lib.hid BI
  have HBR := Lib.hid BR
  have r0 := BR.cell 0
  have r1 := BR.cell 1
  have r2 := BR.cell 2
  have rf := BR.frozen
  have g0 := BC.cell 0
  have g1 := BC.cell 1
  have g2 := BC.cell 2
  simp at r0 r1 r2 g0 g1 g2
  have HBAD := Lib.hid (fun r => @none_bad c r ex)
  have HGOOD := Lib.hid (@none_good c ex)
  generalize codeNone false (clusterOk c) ex = q at HBAD HGOOD ⊢
  clear BC BI BR hb3 HBX hX
  by_cases h0 : q = 0
  · subst h0
    rw [errV_zero]
    obtain ⟨hok, rfl⟩ := HGOOD.out rfl
    have HOK := Lib.hid hok
    clear hok
    go_wp2_with fail
    refine (HCP.out _ (HC.out.below hC3)).mono ?_
    rintro e w4 ⟨b0, b1, b2, bs, rfl, hCO, hlo, hb4⟩
    obtain ⟨F0, F1, F2, f0, f1, f2, rfl, rfl, rfl, -⟩ := hCO.clu.full
    have hC4 := below_of hC3 hb4
    have hz4 := hb4.size
    have hY : Below w4.heap.size w4 (w4.alloc (.cells #[.slice F0 c.tasks.length f0, .slice F1 c.nodes.length f1, .slice F2 c.binds.length f2] 39)) := (by repeat' (first | exact Below.refl _ _ | refine Below.alloc ?_ ?_ _ | refine Below.setCell ?_ ?_ _ | refine Below.drew ?_ | (apply below_step; assumption) | (simp; done) | (simp; omega) | omega))
    have BO : BlockIs (w4.alloc (.cells #[.slice F0 c.tasks.length f0, .slice F1 c.nodes.length f1, .slice F2 c.binds.length f2] 39)) w4.heap.size 39 #[.slice F0 c.tasks.length f0, .slice F1 c.nodes.length f1, .slice F2 c.binds.length f2] := BlockIs.new _ _ _
    have BI := (HBI.out.below hb4 HBI.out.lt).alloc (.cells #[.slice F0 c.tasks.length f0, .slice F1 c.nodes.length f1, .slice F2 c.binds.length f2] 39)
    have BR := (HBR.out.below hb4 HBR.out.lt).alloc (.cells #[.slice F0 c.tasks.length f0, .slice F1 c.nodes.length f1, .slice F2 c.binds.length f2] 39)
    have hCY := below_of hC4 hY
    have hlt := hCO.lt
    have hCY0 := hCO.agree (Agree.of_below hY hlt)
    have hYz : w4.heap.size < (w4.alloc (.cells #[.slice F0 c.tasks.length f0, .slice F1 c.nodes.length f1, .slice F2 c.binds.length f2] 39)).heap.size := by simp
    have HLO := Lib.hid hlo
    have HLT := Lib.hid hlt
    clear hCO hlo hb4 hlt r0 r1 r2 rf g0 g1 g2 hY
    go_wp2_with fail
    generalize w4.alloc (.cells #[.slice F0 c.tasks.length f0, .slice F1 c.nodes.length f1, .slice F2 c.binds.length f2] 39) = Y at BO BI BR hCY hCY0 hYz ⊢
    have o0 := BO.cell 0
    have o1 := BO.cell 1
    have o2 := BO.cell 2
    simp at o0 o1 o2
    have HBO := Lib.hid BO
    have HBI := Lib.hid BI
    have HBR := Lib.hid BR
    have HCO := Lib.hid hCY0
    have HBW := Lib.hid hCY
    have HSB := Lib.hid (show ∀ b ∈ bs, w3.heap.size ≤ b ∧ b < w4.heap.size from fun b hb => ⟨HLO.out b hb, HLT.out b hb⟩)
    clear BO BI BR hCY hCY0 HLO HLT
    go_wp2_with fail
    refine (CluO.delNode 119 #[.pointer (some ⟨w.heap.size + 1, 0, none⟩)] (fun t => decide (t.id = z)) (fun w' => w'.cell? ⟨w.heap.size + 1, 0, none⟩ = some (.int .i64 z)) withoutNode1_eg (withoutNode1_tells (w.heap.size + 1) z) HCO.out (fun _ _ ht hi => ht.cell hi (fun hb => by have := HSB.out _ hb; dsimp only at this; omega)) (by simpa using HBI.out.cell 0)).mono ?_
    rintro e w5 ⟨n5, bs5, rfl, hCO, hsb, htn⟩
    have hzt := htn.size
    have hne := HSB.out
    have BO := HBO.out.turn htn (fun hb => by have := hne _ hb; omega)
    have BI := HBI.out.turn htn (fun hb => by have := hne _ hb; omega)
    have BR := HBR.out.turn htn (fun hb => by have := hne _ hb; omega)
    obtain ⟨-, ⟨N5, L5, m5, rfl⟩, -⟩ := hCO.forms
    have hsb' : ∀ b ∈ bs5, w3.heap.size ≤ b ∧ b < w4.heap.size := fun b hb => hne b (hsb b hb)
    have BO2 : BlockIs (w5.setCell ⟨w4.heap.size, 1, none⟩ (.slice N5 L5 m5)) w4.heap.size 39 #[.slice F0 c.tasks.length f0, .slice N5 L5 m5, .slice F2 c.binds.length f2] := by simpa using BO.put 1 (.slice N5 L5 m5)
    have BI2 := BI.far (p := ⟨w4.heap.size, 1, none⟩) (by dsimp only; omega) (.slice N5 L5 m5)
    have BR2 := BR.far (p := ⟨w4.heap.size, 1, none⟩) (by dsimp only; omega) (.slice N5 L5 m5)
    have hCO2 := hCO.agree (w' := (w5.setCell ⟨w4.heap.size, 1, none⟩ (.slice N5 L5 m5))) (fun b hb => Below.heap_setCell _ _ _ b (by have := hsb' b hb; dsimp only; omega))
    have hBW2 := (HBW.out.trans (htn.below HBW.out.size (fun b hb => by have := hne b hb; omega))).setCell (p := ⟨w4.heap.size, 1, none⟩) (by dsimp only; omega) (.slice N5 L5 m5)
    have o0 := BO.cell 0
    have o1 := BO.cell 1
    have o2 := BO.cell 2
    have of := BO.frozen
    have ol := BO.lt
    have r0 := BR.cell 0
    have r1 := BR.cell 1
    have r2 := BR.cell 2
    have rf := BR.frozen
    have hor : w4.heap.size ≠ w.heap.size + 1 + 1 := by omega
    simp at o0 o1 o2 r0 r1 r2
    clear HBO HBI HBR HCO HBW HSB BO BI BR hCO hsb htn hne
    have HBO := Lib.hid BO2
    have HBI := Lib.hid BI2
    have HBR := Lib.hid BR2
    have HCO := Lib.hid hCO2
    have HBW := Lib.hid hBW2
    have HSB := Lib.hid hsb'
    clear BO2 BI2 BR2 hCO2 hBW2 hsb' hzt
    go_wp2_with fail
    refine (CluO.delBind 120 #[.pointer (some ⟨w.heap.size + 1, 0, none⟩)] (fun t => decide (t.node = z)) (fun w' => w'.cell? ⟨w.heap.size + 1, 0, none⟩ = some (.int .i64 z)) withoutNode2_eg (withoutNode2_tells (w.heap.size + 1) z) HCO.out (fun _ _ ht hi => ht.cell hi (fun hb => by have := HSB.out _ hb; dsimp only at this; omega)) (by simpa using HBI.out.cell 0)).mono ?_
    rintro e w6 ⟨n6, bs6, rfl, hCO, hsb, htn⟩
    have hzt := htn.size
    have hne := HSB.out
    have BO := HBO.out.turn htn (fun hb => by have := hne _ hb; omega)
    have BI := HBI.out.turn htn (fun hb => by have := hne _ hb; omega)
    have BR := HBR.out.turn htn (fun hb => by have := hne _ hb; omega)
    obtain ⟨-, -, ⟨N6, L6, m6, rfl⟩⟩ := hCO.forms
    have hsb' : ∀ b ∈ bs6, w3.heap.size ≤ b ∧ b < w4.heap.size := fun b hb => hne b (hsb b hb)
    have BO2 : BlockIs (w6.setCell ⟨w4.heap.size, 2, none⟩ (.slice N6 L6 m6)) w4.heap.size 39 #[.slice F0 c.tasks.length f0, .slice N5 L5 m5, .slice N6 L6 m6] := by simpa using BO.put 2 (.slice N6 L6 m6)
    have BI2 := BI.far (p := ⟨w4.heap.size, 2, none⟩) (by dsimp only; omega) (.slice N6 L6 m6)
    have BR2 := BR.far (p := ⟨w4.heap.size, 2, none⟩) (by dsimp only; omega) (.slice N6 L6 m6)
    have hCO2 := hCO.agree (w' := (w6.setCell ⟨w4.heap.size, 2, none⟩ (.slice N6 L6 m6))) (fun b hb => Below.heap_setCell _ _ _ b (by have := hsb' b hb; dsimp only; omega))
    have hBW2 := (HBW.out.trans (htn.below HBW.out.size (fun b hb => by have := hne b hb; omega))).setCell (p := ⟨w4.heap.size, 2, none⟩) (by dsimp only; omega) (.slice N6 L6 m6)
    have o0 := BO.cell 0
    have o1 := BO.cell 1
    have o2 := BO.cell 2
    have of := BO.frozen
    have ol := BO.lt
    have r0 := BR.cell 0
    have r1 := BR.cell 1
    have r2 := BR.cell 2
    have rf := BR.frozen
    have hor : w4.heap.size ≠ w.heap.size + 1 + 1 := by omega
    simp at o0 o1 o2 r0 r1 r2
    clear HBO HBI HBR HCO HBW HSB BO BI BR hCO hsb htn hne
    have HBO := Lib.hid BO2
    have HBI := Lib.hid BI2
    have HBR := Lib.hid BR2
    have HCO := Lib.hid hCO2
    have HBW := Lib.hid hBW2
    have HSB := Lib.hid hsb'
    clear BO2 BI2 BR2 hCO2 hBW2 hsb' hzt
    go_wp2_with fail
    have hZ := clu_put HBR.out (.slice F0 c.tasks.length f0) (.slice N5 L5 m5) (.slice N6 L6 m6)
    have hA := HCO.out.agree (w' := ((((w6.setCell ⟨w4.heap.size, 2, none⟩ (.slice N6 L6 m6)).setCell ⟨w.heap.size + 1 + 1, 0, none⟩ (.slice F0 c.tasks.length f0)).setCell ⟨w.heap.size + 1 + 1, 1, none⟩ (.slice N5 L5 m5)).setCell ⟨w.heap.size + 1 + 1, 2, none⟩ (.slice N6 L6 m6))) (fun b hb => putAll_block (o := 0) (ds := [.slice F0 c.tasks.length f0, .slice N5 L5 m5, .slice N6 L6 m6]) (by have := HSB.out b hb; omega))
    have hB := clu_below (g := w.heap.size + 1 + 1) HBW.out (by omega) (.slice F0 c.tasks.length f0) (.slice N5 L5 m5) (.slice N6 L6 m6)
    generalize ((((w6.setCell ⟨w4.heap.size, 2, none⟩ (.slice N6 L6 m6)).setCell ⟨w.heap.size + 1 + 1, 0, none⟩ (.slice F0 c.tasks.length f0)).setCell ⟨w.heap.size + 1 + 1, 1, none⟩ (.slice N5 L5 m5)).setCell ⟨w.heap.size + 1 + 1, 2, none⟩ (.slice N6 L6 m6)) = V at hZ hA hB ⊢
    have x0 := hZ.cell 0
    have x1 := hZ.cell 1
    have x2 := hZ.cell 2
    simp at x0 x1 x2
    exact bodyPost_ret (v := .tuple #[.agg #[.slice F0 c.tasks.length f0, .slice N5 L5 m5, .slice N6 L6 m6], .nilIface]) (by simp [results, Tryz.results79, go_sem, x0, x1, x2]) rfl (by rw [needG_fine HOK.out]; exact ⟨_, _, _, _, rfl, hA, fun b hb => by have := HSB.out b hb; omega, hB⟩)
  · rw [errV_ne h0]
    have HZ0 := Lib.hid h0
    clear h0
    go_wp2_with fail
    have hZ := clu_put HBR.out (.slice none 0 0) (.slice none 0 0) (.slice none 0 0)
    have hB := clu_below (g := w.heap.size + 1 + 1) hC3 (by omega) (.slice none 0 0) (.slice none 0 0) (.slice none 0 0)
    generalize (((w3.setCell ⟨w.heap.size + 1 + 1, 0, none⟩ (.slice none 0 0)).setCell ⟨w.heap.size + 1 + 1, 1, none⟩ (.slice none 0 0)).setCell ⟨w.heap.size + 1 + 1, 2, none⟩ (.slice none 0 0)) = V at hZ hB ⊢
    have x0 := hZ.cell 0
    have x1 := hZ.cell 1
    have x2 := hZ.cell 2
    simp at x0 x1 x2
    exact bodyPost_ret (v := .tuple #[.agg #[.slice none 0 0, .slice none 0 0, .slice none 0 0], .iface 124 (.agg #[.int .i64 q])]) (by simp [results, Tryz.results79, go_sem, x0, x1, x2]) rfl (by rw [HBAD.out _ HZ0.out]; exact ⟨_, _, _, [], by rw [errV_ne HZ0.out], CluO.zero _, by simp, hB⟩)
set_option maxHeartbeats 3200000 in
theorem NodeDrop_any (c : CV) (a0 a1 a2 : Value) (z : Int) (w : World) (x : Addr) (hg : ErrAt x w) (hT : TypAt w) (hc : CluR w c a0 a1 a2) :
    Calls Tryz.prog 31 #[.agg #[a0, a1, a2], .int .i64 z] w (RetCluI w (nodeDropG c z).1 (nodeDropG c z).2) := by
  have hw := fun w1 hb => withoutNode_any c a0 a1 a2 z w1 x (hg.below hb (Nat.le_refl _)) (hc.below hb)
  have hzz : (nodeDropG c z).2 ≠ 0 → (nodeDropG c z).1 = CV.zero := needG_zero
  obtain ⟨D0, D1, D2, e0, e1, e2, rfl, rfl, rfl, _⟩ := hc.full
  generalize (nodeDropG c z).1 = r at hw hzz ⊢
  generalize (nodeDropG c z).2 = n at hw hzz ⊢
  have HW := Lib.hid hw
  have HZ := Lib.hid hzz
  have HT := Lib.hid hT
  clear hw hzz hT hc hg
  go_enter Tryz.func31, Tryz.ntmps31
  go_wp2_with fail
  have hX : Below w.heap.size w ((w.alloc (.cells #[.slice D0 c.tasks.length e0, .slice D1 c.nodes.length e1, .slice D2 c.binds.length e2] 39)).alloc (.cells #[.slice none 0 0, .slice none 0 0, .slice none 0 0] 39)) := (by repeat' (first | exact Below.refl _ _ | refine Below.alloc ?_ ?_ _ | refine Below.setCell ?_ ?_ _ | refine Below.drew ?_ | (apply below_step; assumption) | (simp; done) | (simp; omega) | omega))
  refine (HW.out _ hX).mono ?_
  rintro e w1 ⟨b0, b1, b2, bs, rfl, hCO, hlo, hb1⟩
  have hC1 := below_of hX hb1
  have hz1 := hb1.size
  simp at hz1
  have BR : BlockIs w1 (w.heap.size + 1) 39 #[.slice none 0 0, .slice none 0 0, .slice none 0 0] := (BlockIs.new' (by simp)).below hb1 (by simp)
  have hlo' : ∀ b ∈ bs, w.heap.size + 2 ≤ b := fun b hb => by have := hlo b hb; simpa using this
  have HCO := Lib.hid (And.intro hCO hlo')
  have HBR := Lib.hid BR
  clear hb1 hX BR hlo hlo' hCO
  go_wp2_with fail
  refine (answer_any r n b0 b1 b2 bs w1 HCO.out.1 HZ.out (HT.out.below hC1 (Nat.le_refl _))).mono ?_
  rintro e w2 ⟨f0, f1, f2, ds, rfl, hCO2, hds, hb2⟩
  obtain ⟨F0, F1, F2, g0, g1, g2, rfl, rfl, rfl, _⟩ := hCO2.clu.full
  have hC2 := below_of hC1 hb2
  have BR := HBR.out.below hb2 HBR.out.lt
  have r0 := BR.cell 0
  have r1 := BR.cell 1
  have r2 := BR.cell 2
  have rf := BR.frozen
  simp at r0 r1 r2
  have HBR2 := Lib.hid BR
  have HCO2 := Lib.hid (And.intro hCO2 hds)
  clear BR hb2 hCO2 hds
  go_wp2_with fail
  have hZ := clu_put HBR2.out (.slice F0 r.tasks.length g0) (.slice F1 r.nodes.length g1) (.slice F2 r.binds.length g2)
  have hB := clu_below (g := w.heap.size + 1) hC2 (by omega) (.slice F0 r.tasks.length g0) (.slice F1 r.nodes.length g1) (.slice F2 r.binds.length g2)
  have hA := HCO2.out.1.agree (w' := (((w2.setCell ⟨w.heap.size + 1, 0, none⟩ (.slice F0 r.tasks.length g0)).setCell ⟨w.heap.size + 1, 1, none⟩ (.slice F1 r.nodes.length g1)).setCell ⟨w.heap.size + 1, 2, none⟩ (.slice F2 r.binds.length g2))) (fun b hb => putAll_block (o := 0) (ds := [.slice F0 r.tasks.length g0, .slice F1 r.nodes.length g1, .slice F2 r.binds.length g2]) (by have := HCO.out.2 b (HCO2.out.2 b hb); omega))
  generalize (((w2.setCell ⟨w.heap.size + 1, 0, none⟩ (.slice F0 r.tasks.length g0)).setCell ⟨w.heap.size + 1, 1, none⟩ (.slice F1 r.nodes.length g1)).setCell ⟨w.heap.size + 1, 2, none⟩ (.slice F2 r.binds.length g2)) = V at hZ hB hA ⊢
  have x0 := hZ.cell 0
  have x1 := hZ.cell 1
  have x2 := hZ.cell 2
  simp at x0 x1 x2
  exact bodyPost_ret (v := .tuple #[.agg #[.slice F0 r.tasks.length g0, .slice F1 r.nodes.length g1, .slice F2 r.binds.length g2], .int .i64 n]) (by simp [results, Tryz.results31, go_sem, x0, x1, x2]) rfl ⟨_, _, _, _, rfl, hA, fun b hb => by have := HCO.out.2 b (HCO2.out.2 b hb); omega, hB⟩
set_option maxHeartbeats 6400000 in
set_option maxRecDepth 20000 in
theorem withoutBind_any (c : CV) (a0 a1 a2 : Value) (z : Int) (w : World) (x : Addr) (hg : ErrAt x w) (hc : CluR w c a0 a1 a2) :
    Calls Tryz.prog 87 #[.agg #[a0, a1, a2], .int .i64 z] w (RetCluE w (bindDropG c z).1 (bindDropG c z).2) := by
  have hfi := fun w1 hw1 => findBind_any c a0 a1 a2 z w w1 hw1 hc
  have hcp := fun w1 h => copyCluster_any c a0 a1 a2 w1 h
  obtain ⟨D0, D1, D2, e0, e1, e2, rfl, rfl, rfl, -⟩ := hc.full
  have hck := fun ex w1 hg1 h => checkNone_any c D0 D1 D2 e0 e1 e2 false ex false w1 x hg1 h
  unfold bindDropG
  obtain ⟨ex, hex⟩ : ∃ b, b = (fstBy BV.task c.binds z).isSome := ⟨_, rfl⟩
  rw [← hex]
  have HC := Lib.hid hc
  have HG := Lib.hid hg
  have HEX := Lib.hid hex
  have HFI := Lib.hid hfi
  have HCP := Lib.hid hcp
  have HCK := Lib.hid hck
  clear hfi hcp hck hc hg hex
  go_enter Tryz.func87, Tryz.ntmps87
  go_wp2_with fail
  have hX0 : Below w.heap.size w (((w.alloc (.cells #[.slice D0 c.tasks.length e0, .slice D1 c.nodes.length e1, .slice D2 c.binds.length e2] 39)).alloc (.cells #[.int .i64 z] 3)).alloc (.cells #[.slice none 0 0, .slice none 0 0, .slice none 0 0] 39)) := (by repeat' (first | exact Below.refl _ _ | refine Below.alloc ?_ ?_ _ | refine Below.setCell ?_ ?_ _ | refine Below.drew ?_ | (apply below_step; assumption) | (simp; done) | (simp; omega) | omega))
  refine (HFI.out _ hX0).mono ?_
  rintro e w1 ⟨fs, rfl, hRF, hb1⟩
  have hC1 := below_of hX0 hb1
  have hz1 := hb1.size
  simp at hz1
  have BC : BlockIs w1 w.heap.size 39 #[.slice D0 c.tasks.length e0, .slice D1 c.nodes.length e1, .slice D2 c.binds.length e2] := (((BlockIs.new w _ _).alloc _).alloc _).below hb1 (by simp; omega)
  have BI : BlockIs w1 (w.heap.size + 1) 3 #[.int .i64 z] := (BlockIs.alloc (BlockIs.new' (by simp)) _).below hb1 (by simp)
  have BR : BlockIs w1 (w.heap.size + 1 + 1) 39 #[.slice none 0 0, .slice none 0 0, .slice none 0 0] := (BlockIs.new' (by simp)).below hb1 (by simp)
  rw [← HEX.out]
  generalize (fstBy BV.task c.binds z).getD BV.zero = t at hRF
  obtain rfl := hRF
  have hX : Below w1.heap.size w1 (w1.alloc (.cells #[.int .i64 t.task, .int .i64 t.node] 70)) := (by repeat' (first | exact Below.refl _ _ | refine Below.alloc ?_ ?_ _ | refine Below.setCell ?_ ?_ _ | refine Below.drew ?_ | (apply below_step; assumption) | (simp; done) | (simp; omega) | omega))
  have BC := BC.alloc (.cells #[.int .i64 t.task, .int .i64 t.node] 70)
  have BI := BI.alloc (.cells #[.int .i64 t.task, .int .i64 t.node] 70)
  have BR := BR.alloc (.cells #[.int .i64 t.task, .int .i64 t.node] 70)
  have hXl : w.heap.size + 3 < (w1.alloc (.cells #[.int .i64 t.task, .int .i64 t.node] 70)).heap.size := by simp; omega
  have hCX := below_of hC1 hX
  have g0 := BC.cell 0
  have g1 := BC.cell 1
  have g2 := BC.cell 2
  simp at g0 g1 g2
  have HBX := Lib.hid (And.intro BC (And.intro BI BR))
  clear hb1 hX0 BC BI BR
  go_wp2_with fail
  refine (HCK.out ex _ (HG.out.below hCX (Nat.le_refl _)) (HC.out.below hCX)).mono ?_
  rintro e w3 ⟨rfl, hb3⟩
  have hC3 := below_of hCX hb3
  have hz3 := hb3.size
  have BC := HBX.out.1.below hb3 HBX.out.1.lt
  have BI := HBX.out.2.1.below hb3 HBX.out.2.1.lt
  have BR := HBX.out.2.2.below hb3 HBX.out.2.2.lt
  have HBI := Lib.hid BI
  have HBR := Lib.hid BR
  have r0 := BR.cell 0
  have r1 := BR.cell 1
  have r2 := BR.cell 2
  have rf := BR.frozen
  have g0 := BC.cell 0
  have g1 := BC.cell 1
  have g2 := BC.cell 2
  simp at r0 r1 r2 g0 g1 g2
  have HBAD := Lib.hid (fun r => @none_bad c r ex)
  have HGOOD := Lib.hid (@none_good c ex)
  generalize codeNone false (clusterOk c) ex = q at HBAD HGOOD ⊢
  clear BC BI BR hb3 HBX hX
  by_cases h0 : q = 0
  · subst h0
    rw [errV_zero]
    obtain ⟨hok, rfl⟩ := HGOOD.out rfl
    have HOK := Lib.hid hok
    clear hok
    go_wp2_with fail
    refine (HCP.out _ (HC.out.below hC3)).mono ?_
    rintro e w4 ⟨b0, b1, b2, bs, rfl, hCO, hlo, hb4⟩
    obtain ⟨F0, F1, F2, f0, f1, f2, rfl, rfl, rfl, -⟩ := hCO.clu.full
    have hC4 := below_of hC3 hb4
    have hz4 := hb4.size
    have hY : Below w4.heap.size w4 (w4.alloc (.cells #[.slice F0 c.tasks.length f0, .slice F1 c.nodes.length f1, .slice F2 c.binds.length f2] 39)) := (by repeat' (first | exact Below.refl _ _ | refine Below.alloc ?_ ?_ _ | refine Below.setCell ?_ ?_ _ | refine Below.drew ?_ | (apply below_step; assumption) | (simp; done) | (simp; omega) | omega))
    have BO : BlockIs (w4.alloc (.cells #[.slice F0 c.tasks.length f0, .slice F1 c.nodes.length f1, .slice F2 c.binds.length f2] 39)) w4.heap.size 39 #[.slice F0 c.tasks.length f0, .slice F1 c.nodes.length f1, .slice F2 c.binds.length f2] := BlockIs.new _ _ _
    have BI := (HBI.out.below hb4 HBI.out.lt).alloc (.cells #[.slice F0 c.tasks.length f0, .slice F1 c.nodes.length f1, .slice F2 c.binds.length f2] 39)
    have BR := (HBR.out.below hb4 HBR.out.lt).alloc (.cells #[.slice F0 c.tasks.length f0, .slice F1 c.nodes.length f1, .slice F2 c.binds.length f2] 39)
    have hCY := below_of hC4 hY
    have hlt := hCO.lt
    have hCY0 := hCO.agree (Agree.of_below hY hlt)
    have hYz : w4.heap.size < (w4.alloc (.cells #[.slice F0 c.tasks.length f0, .slice F1 c.nodes.length f1, .slice F2 c.binds.length f2] 39)).heap.size := by simp
    have HLO := Lib.hid hlo
    have HLT := Lib.hid hlt
    clear hCO hlo hb4 hlt r0 r1 r2 rf g0 g1 g2 hY
    go_wp2_with fail
    generalize w4.alloc (.cells #[.slice F0 c.tasks.length f0, .slice F1 c.nodes.length f1, .slice F2 c.binds.length f2] 39) = Y at BO BI BR hCY hCY0 hYz ⊢
    have o0 := BO.cell 0
    have o1 := BO.cell 1
    have o2 := BO.cell 2
    simp at o0 o1 o2
    have HBO := Lib.hid BO
    have HBI := Lib.hid BI
    have HBR := Lib.hid BR
    have HCO := Lib.hid hCY0
    have HBW := Lib.hid hCY
    have HSB := Lib.hid (show ∀ b ∈ bs, w3.heap.size ≤ b ∧ b < w4.heap.size from fun b hb => ⟨HLO.out b hb, HLT.out b hb⟩)
    clear BO BI BR hCY hCY0 HLO HLT
    go_wp2_with fail
    refine (CluO.delBind 125 #[.pointer (some ⟨w.heap.size + 1, 0, none⟩)] (fun t => decide (t.task = z)) (fun w' => w'.cell? ⟨w.heap.size + 1, 0, none⟩ = some (.int .i64 z)) withoutBind1_eg (withoutBind1_tells (w.heap.size + 1) z) HCO.out (fun _ _ ht hi => ht.cell hi (fun hb => by have := HSB.out _ hb; dsimp only at this; omega)) (by simpa using HBI.out.cell 0)).mono ?_
    rintro e w5 ⟨n5, bs5, rfl, hCO, hsb, htn⟩
    have hzt := htn.size
    have hne := HSB.out
    have BO := HBO.out.turn htn (fun hb => by have := hne _ hb; omega)
    have BI := HBI.out.turn htn (fun hb => by have := hne _ hb; omega)
    have BR := HBR.out.turn htn (fun hb => by have := hne _ hb; omega)
    obtain ⟨-, -, ⟨N5, L5, m5, rfl⟩⟩ := hCO.forms
    have hsb' : ∀ b ∈ bs5, w3.heap.size ≤ b ∧ b < w4.heap.size := fun b hb => hne b (hsb b hb)
    have BO2 : BlockIs (w5.setCell ⟨w4.heap.size, 2, none⟩ (.slice N5 L5 m5)) w4.heap.size 39 #[.slice F0 c.tasks.length f0, .slice F1 c.nodes.length f1, .slice N5 L5 m5] := by simpa using BO.put 2 (.slice N5 L5 m5)
    have BI2 := BI.far (p := ⟨w4.heap.size, 2, none⟩) (by dsimp only; omega) (.slice N5 L5 m5)
    have BR2 := BR.far (p := ⟨w4.heap.size, 2, none⟩) (by dsimp only; omega) (.slice N5 L5 m5)
    have hCO2 := hCO.agree (w' := (w5.setCell ⟨w4.heap.size, 2, none⟩ (.slice N5 L5 m5))) (fun b hb => Below.heap_setCell _ _ _ b (by have := hsb' b hb; dsimp only; omega))
    have hBW2 := (HBW.out.trans (htn.below HBW.out.size (fun b hb => by have := hne b hb; omega))).setCell (p := ⟨w4.heap.size, 2, none⟩) (by dsimp only; omega) (.slice N5 L5 m5)
    have o0 := BO.cell 0
    have o1 := BO.cell 1
    have o2 := BO.cell 2
    have of := BO.frozen
    have ol := BO.lt
    have r0 := BR.cell 0
    have r1 := BR.cell 1
    have r2 := BR.cell 2
    have rf := BR.frozen
    have hor : w4.heap.size ≠ w.heap.size + 1 + 1 := by omega
    simp at o0 o1 o2 r0 r1 r2
    clear HBO HBI HBR HCO HBW HSB BO BI BR hCO hsb htn hne
    have HBO := Lib.hid BO2
    have HBI := Lib.hid BI2
    have HBR := Lib.hid BR2
    have HCO := Lib.hid hCO2
    have HBW := Lib.hid hBW2
    have HSB := Lib.hid hsb'
    clear BO2 BI2 BR2 hCO2 hBW2 hsb' hzt
    go_wp2_with fail
    have hZ := clu_put HBR.out (.slice F0 c.tasks.length f0) (.slice F1 c.nodes.length f1) (.slice N5 L5 m5)
    have hA := HCO.out.agree (w' := ((((w5.setCell ⟨w4.heap.size, 2, none⟩ (.slice N5 L5 m5)).setCell ⟨w.heap.size + 1 + 1, 0, none⟩ (.slice F0 c.tasks.length f0)).setCell ⟨w.heap.size + 1 + 1, 1, none⟩ (.slice F1 c.nodes.length f1)).setCell ⟨w.heap.size + 1 + 1, 2, none⟩ (.slice N5 L5 m5))) (fun b hb => putAll_block (o := 0) (ds := [.slice F0 c.tasks.length f0, .slice F1 c.nodes.length f1, .slice N5 L5 m5]) (by have := HSB.out b hb; omega))
    have hB := clu_below (g := w.heap.size + 1 + 1) HBW.out (by omega) (.slice F0 c.tasks.length f0) (.slice F1 c.nodes.length f1) (.slice N5 L5 m5)
    generalize ((((w5.setCell ⟨w4.heap.size, 2, none⟩ (.slice N5 L5 m5)).setCell ⟨w.heap.size + 1 + 1, 0, none⟩ (.slice F0 c.tasks.length f0)).setCell ⟨w.heap.size + 1 + 1, 1, none⟩ (.slice F1 c.nodes.length f1)).setCell ⟨w.heap.size + 1 + 1, 2, none⟩ (.slice N5 L5 m5)) = V at hZ hA hB ⊢
    have x0 := hZ.cell 0
    have x1 := hZ.cell 1
    have x2 := hZ.cell 2
    simp at x0 x1 x2
    exact bodyPost_ret (v := .tuple #[.agg #[.slice F0 c.tasks.length f0, .slice F1 c.nodes.length f1, .slice N5 L5 m5], .nilIface]) (by simp [results, Tryz.results87, go_sem, x0, x1, x2]) rfl (by rw [needG_fine HOK.out]; exact ⟨_, _, _, _, rfl, hA, fun b hb => by have := HSB.out b hb; omega, hB⟩)
  · rw [errV_ne h0]
    have HZ0 := Lib.hid h0
    clear h0
    go_wp2_with fail
    have hZ := clu_put HBR.out (.slice none 0 0) (.slice none 0 0) (.slice none 0 0)
    have hB := clu_below (g := w.heap.size + 1 + 1) hC3 (by omega) (.slice none 0 0) (.slice none 0 0) (.slice none 0 0)
    generalize (((w3.setCell ⟨w.heap.size + 1 + 1, 0, none⟩ (.slice none 0 0)).setCell ⟨w.heap.size + 1 + 1, 1, none⟩ (.slice none 0 0)).setCell ⟨w.heap.size + 1 + 1, 2, none⟩ (.slice none 0 0)) = V at hZ hB ⊢
    have x0 := hZ.cell 0
    have x1 := hZ.cell 1
    have x2 := hZ.cell 2
    simp at x0 x1 x2
    exact bodyPost_ret (v := .tuple #[.agg #[.slice none 0 0, .slice none 0 0, .slice none 0 0], .iface 124 (.agg #[.int .i64 q])]) (by simp [results, Tryz.results87, go_sem, x0, x1, x2]) rfl (by rw [HBAD.out _ HZ0.out]; exact ⟨_, _, _, [], by rw [errV_ne HZ0.out], CluO.zero _, by simp, hB⟩)
set_option maxHeartbeats 3200000 in
theorem BindDrop_any (c : CV) (a0 a1 a2 : Value) (z : Int) (w : World) (x : Addr) (hg : ErrAt x w) (hT : TypAt w) (hc : CluR w c a0 a1 a2) :
    Calls Tryz.prog 38 #[.agg #[a0, a1, a2], .int .i64 z] w (RetCluI w (bindDropG c z).1 (bindDropG c z).2) := by
  have hw := fun w1 hb => withoutBind_any c a0 a1 a2 z w1 x (hg.below hb (Nat.le_refl _)) (hc.below hb)
  have hzz : (bindDropG c z).2 ≠ 0 → (bindDropG c z).1 = CV.zero := needG_zero
  obtain ⟨D0, D1, D2, e0, e1, e2, rfl, rfl, rfl, _⟩ := hc.full
  generalize (bindDropG c z).1 = r at hw hzz ⊢
  generalize (bindDropG c z).2 = n at hw hzz ⊢
  have HW := Lib.hid hw
  have HZ := Lib.hid hzz
  have HT := Lib.hid hT
  clear hw hzz hT hc hg
  go_enter Tryz.func38, Tryz.ntmps38
  go_wp2_with fail
  have hX : Below w.heap.size w ((w.alloc (.cells #[.slice D0 c.tasks.length e0, .slice D1 c.nodes.length e1, .slice D2 c.binds.length e2] 39)).alloc (.cells #[.slice none 0 0, .slice none 0 0, .slice none 0 0] 39)) := (by repeat' (first | exact Below.refl _ _ | refine Below.alloc ?_ ?_ _ | refine Below.setCell ?_ ?_ _ | refine Below.drew ?_ | (apply below_step; assumption) | (simp; done) | (simp; omega) | omega))
  refine (HW.out _ hX).mono ?_
  rintro e w1 ⟨b0, b1, b2, bs, rfl, hCO, hlo, hb1⟩
  have hC1 := below_of hX hb1
  have hz1 := hb1.size
  simp at hz1
  have BR : BlockIs w1 (w.heap.size + 1) 39 #[.slice none 0 0, .slice none 0 0, .slice none 0 0] := (BlockIs.new' (by simp)).below hb1 (by simp)
  have hlo' : ∀ b ∈ bs, w.heap.size + 2 ≤ b := fun b hb => by have := hlo b hb; simpa using this
  have HCO := Lib.hid (And.intro hCO hlo')
  have HBR := Lib.hid BR
  clear hb1 hX BR hlo hlo' hCO
  go_wp2_with fail
  refine (answer_any r n b0 b1 b2 bs w1 HCO.out.1 HZ.out (HT.out.below hC1 (Nat.le_refl _))).mono ?_
  rintro e w2 ⟨f0, f1, f2, ds, rfl, hCO2, hds, hb2⟩
  obtain ⟨F0, F1, F2, g0, g1, g2, rfl, rfl, rfl, _⟩ := hCO2.clu.full
  have hC2 := below_of hC1 hb2
  have BR := HBR.out.below hb2 HBR.out.lt
  have r0 := BR.cell 0
  have r1 := BR.cell 1
  have r2 := BR.cell 2
  have rf := BR.frozen
  simp at r0 r1 r2
  have HBR2 := Lib.hid BR
  have HCO2 := Lib.hid (And.intro hCO2 hds)
  clear BR hb2 hCO2 hds
  go_wp2_with fail
  have hZ := clu_put HBR2.out (.slice F0 r.tasks.length g0) (.slice F1 r.nodes.length g1) (.slice F2 r.binds.length g2)
  have hB := clu_below (g := w.heap.size + 1) hC2 (by omega) (.slice F0 r.tasks.length g0) (.slice F1 r.nodes.length g1) (.slice F2 r.binds.length g2)
  have hA := HCO2.out.1.agree (w' := (((w2.setCell ⟨w.heap.size + 1, 0, none⟩ (.slice F0 r.tasks.length g0)).setCell ⟨w.heap.size + 1, 1, none⟩ (.slice F1 r.nodes.length g1)).setCell ⟨w.heap.size + 1, 2, none⟩ (.slice F2 r.binds.length g2))) (fun b hb => putAll_block (o := 0) (ds := [.slice F0 r.tasks.length g0, .slice F1 r.nodes.length g1, .slice F2 r.binds.length g2]) (by have := HCO.out.2 b (HCO2.out.2 b hb); omega))
  generalize (((w2.setCell ⟨w.heap.size + 1, 0, none⟩ (.slice F0 r.tasks.length g0)).setCell ⟨w.heap.size + 1, 1, none⟩ (.slice F1 r.nodes.length g1)).setCell ⟨w.heap.size + 1, 2, none⟩ (.slice F2 r.binds.length g2)) = V at hZ hB hA ⊢
  have x0 := hZ.cell 0
  have x1 := hZ.cell 1
  have x2 := hZ.cell 2
  simp at x0 x1 x2
  exact bodyPost_ret (v := .tuple #[.agg #[.slice F0 r.tasks.length g0, .slice F1 r.nodes.length g1, .slice F2 r.binds.length g2], .int .i64 n]) (by simp [results, Tryz.results38, go_sem, x0, x1, x2]) rfl ⟨_, _, _, _, rfl, hA, fun b hb => by have := HCO.out.2 b (HCO2.out.2 b hb); omega, hB⟩
end Go.Proofs.YtocfgejceoenmaaGreatDoor

namespace Go.Proofs.YtocfgejceoenmaaGreatDoor
open Go.RowKit

section
variable {α : Type} {R : World → α → List Value → List Nat → Prop} {ty : TypeId} {n : Nat} {W w4 : World} {v v' : Value} {l1 l2 l : List α} {x1 x2 : List Value} {b1 b2 bs : List Nat}
theorem joined_row (hR : Framed R) (h1 : Elems R W l1 x1 b1) (h2 : Elems R W l2 x2 b2) (hnd : (blk v ++ (b1 ++ b2)).Nodup) (hlt : ∀ c ∈ b1 ++ b2, c < W.heap.size) (_hlv : ∀ c ∈ blk v, c < W.heap.size)
    (hown : w4.ownsRow 0 ty n v' (l1.length + l2.length) (x1 ++ x2)) (hg : W.grownBy w4 v.ownBlock) (hk : v'.ownBlock = v.ownBlock ∨ v'.ownBlock = some W.heap.size) :
    RowO R ty n w4 v' (l1 ++ l2) (blk v' ++ (b1 ++ b2)) ∧ (blk v' ++ (b1 ++ b2)).Nodup := by
  rw [List.nodup_append] at hnd
  obtain ⟨n1, n2, n3⟩ := hnd
  have ha : Agree (b1 ++ b2) W w4 := Agree.of_grown hg (fun c hc => ⟨hlt c hc, fun e => n3 c (by simp [blk, ← e]) c hc rfl⟩)
  refine ⟨⟨x1 ++ x2, b1 ++ b2, by simpa using hown, (h1.join h2).agree hR ha, rfl⟩, ?_⟩
  rw [List.nodup_append]
  rcases hk with e | e
  · have : blk v' = blk v := by simp [blk, e]
    rw [this]; exact ⟨n1, n2, n3⟩
  · have : blk v' = [W.heap.size] := by simp [blk, e]
    rw [this]
    refine ⟨by simp, n2, fun a ha b hb e => ?_⟩
    simp at ha; subst ha
    have := hlt b hb; omega
theorem elems_one (hone : ∀ x cs b, R W x cs b → ∀ u ∈ cs, u.oneCell' = true) (h : Elems R W l x1 b1) : ∀ u ∈ x1, u.oneCell' = true := by
  induction l generalizing x1 b1 with
  | nil => obtain ⟨rfl, _⟩ := h; simp
  | cons y r ih =>
    obtain ⟨c1, c2, d1, d2, rfl, rfl, k1, k2⟩ := h
    intro u hu
    rcases List.mem_append.1 hu with hu | hu
    · exact hone _ _ _ k1 u hu
    · exact ih k2 u hu
/-- What append(s[:j], s[j+1:]...) is given, and what it leaves. -/
theorem RowO.cut (hR : Framed R) (hlen : ∀ (w : World) x cs b, R w x cs b → cs.length = n) (hRlt : ∀ (w : World) x cs b, R w x cs b → ∀ c ∈ b, c < w.heap.size) (hone : ∀ (w : World) x cs b, R w x cs b → ∀ u ∈ cs, u.oneCell' = true)
    (h : RowO R ty n W v l bs) (hnd : bs.Nodup) {j : Nat} {x : α} (hx : l[j]? = some x) :
    ∃ gr cap xa ys, v = .slice (some ⟨gr, 0, none⟩) l.length cap ∧ gr ∈ bs ∧ l.length ≤ cap ∧ W.ownsRow 0 ty n (.slice (some ⟨gr, 0, none⟩) j cap) j xa ∧ ys.length = (l.length - (j + 1)) * n ∧ CellsAt W gr ((j + 1) * n) ys ∧ (∀ u ∈ ys, u.oneCell' = true) ∧
      ∀ v' w', w'.ownsRow 0 ty n v' (j + (l.length - (j + 1))) (xa ++ ys) → W.grownBy w' (some gr) → (v'.ownBlock = some gr ∨ v'.ownBlock = some W.heap.size) → ∃ bs', RowO R ty n w' v' (l.take j ++ l.drop (j + 1)) bs' ∧ bs'.Nodup ∧ ∀ b ∈ bs', b ∈ bs ∨ b = W.heap.size := by
  obtain ⟨xs, bi, ho, he, rfl⟩ := h
  have hj : j < l.length := (List.getElem?_eq_some_iff.1 hx).1
  have hlt := elems_lt (fun x cs b h => hRlt _ x cs b h) he
  have hl : l = l.take j ++ (x :: l.drop (j + 1)) := by rw [← drop_at hx, List.take_append_drop]
  have he' := he
  rw [hl] at he'
  obtain ⟨xa, xr, ba, br, e1, e2, h1, h2⟩ := he'.split
  obtain ⟨cs, ys, bx, b2, e3, e4, h3, h4⟩ := h2
  subst e1 e2 e3 e4
  have hxa : xa.length = j * n := by rw [Elems.len (fun x cs b h => hlen _ x cs b h) h1, List.length_take, Nat.min_eq_left (by omega)]
  have hcs := hlen _ _ _ _ h3
  have hys : ys.length = (l.length - (j + 1)) * n := by rw [Elems.len (fun x cs b h => hlen _ x cs b h) h4, List.length_drop]
  obtain ⟨gr, cap, e, hgl, hcell, -⟩ := own_cells ho (by omega)
  obtain ⟨hlx, h2'⟩ := ho
  rcases h2' with ⟨rfl, h0⟩ | ⟨g', cap', cur, e', hg, hh, hnc, hcm, hs, ht⟩
  · omega
  subst e
  simp only [Value.slice.injEq, Option.some.injEq, Addr.mk.injEq] at e'
  obtain ⟨⟨rfl, -, -⟩, -, rfl⟩ := e'
  have hone4 : ∀ u ∈ ys, u.oneCell' = true := elems_one (fun x cs b h => hone _ x cs b h) h4
  refine ⟨gr, cap, xa, ys, rfl, List.mem_append_left _ (by simp [blk, Value.ownBlock]), hnc, ⟨hxa, .inr ⟨gr, cap, cur, rfl, hg, hh, by omega, hcm, hs, ?_⟩⟩, hys, ?_, hone4, ?_⟩
  · have hle : j * n ≤ l.length * n := Nat.mul_le_mul_right n (by omega)
    have := congrArg (List.take (j * n)) ht
    rw [List.take_take, Nat.min_eq_left hle, ← hxa, List.take_left'] at this
    · rw [← hxa]; exact this
    · rfl
  · intro q u hu
    refine hcell _ _ ?_
    rw [List.getElem?_append_right (by rw [Nat.add_mul, Nat.one_mul]; omega), List.getElem?_append_right (by rw [Nat.add_mul, Nat.one_mul]; omega)]
    rw [show (j + 1) * n + q - xa.length - cs.length = q by rw [Nat.add_mul, Nat.one_mul]; omega]; exact hu
  · intro v' w' hown hg hk
    have hsubl : ∀ b ∈ ba ++ b2, b ∈ ba ++ (bx ++ b2) := fun b hb => by
      rcases List.mem_append.1 hb with h | h
      · exact List.mem_append_left _ h
      · exact List.mem_append_right _ (List.mem_append_right _ h)
    have hnd2 : (blk (.slice (some ⟨gr, 0, none⟩) l.length cap) ++ (ba ++ b2)).Nodup := by
      simp only [List.nodup_append, List.mem_append] at hnd ⊢
      obtain ⟨q0, ⟨q1, ⟨q2, q3, q4⟩, q5⟩, q6⟩ := hnd
      exact ⟨q0, ⟨q1, q3, fun a ha b hb => q5 a ha b (.inr hb)⟩, fun a ha b hb => q6 a ha b (hb.imp id .inr)⟩
    have hjr := joined_row (ty := ty) (n := n) (v := .slice (some ⟨gr, 0, none⟩) l.length cap) hR h1 h4 hnd2 (fun b hb => hlt b (hsubl b hb)) (fun b hb => by simp [blk, Value.ownBlock] at hb; omega) (by rw [List.length_take, List.length_drop, Nat.min_eq_left (by omega)]; exact hown) hg hk
    refine ⟨_, hjr.1, hjr.2, fun b hb => ?_⟩
    rcases List.mem_append.1 hb with h | h
    · rcases hk with e | e
      · simp [blk, e] at h; subst h; exact .inl (List.mem_append_left _ (by simp [blk, Value.ownBlock]))
      · simp [blk, e] at h; exact .inr h
    · exact .inl (List.mem_append_right _ (hsubl b h))
end
theorem TaskO.one (w : World) (t : TV) (cs : List Value) (b : List Nat) (h : TaskO w t cs b) : ∀ u ∈ cs, u.oneCell' = true := by
  obtain ⟨v1, v2, rfl, h1, h2, -⟩ := h
  obtain ⟨A1, c1, rfl, -⟩ := own_form h1
  obtain ⟨A2, c2, rfl, -⟩ := own_form h2
  exact List.all_eq_true.1 (by rfl)
theorem NodeO.one (w : World) (t : NV) (cs : List Value) (b : List Nat) (h : NodeO w t cs b) : ∀ u ∈ cs, u.oneCell' = true := by
  obtain ⟨v1, v2, rfl, h1, h2, -⟩ := h
  obtain ⟨A1, c1, rfl, -⟩ := own_form h1
  obtain ⟨A2, c2, rfl, -⟩ := own_form h2
  exact List.all_eq_true.1 (by rfl)

/-- The slice value v owns the bindings l, in blocks from base on. -/
def OwnsB (w : World) (base : Nat) (v : Value) (l : List BV) : Prop := w.ownsRow base 70 2 v l.length (bindL l)
section
variable {w w' : World} {base : Nat} {v : Value} {l : List BV}
theorem OwnsB.alloc (h : OwnsB w base v l) (o : Obj) : OwnsB (w.alloc o) base v l := World.ownsRow.alloc h o
theorem OwnsB.row (h : OwnsB w base v l) : RowO BindO 70 2 w v l (blk v) := by
  obtain ⟨h1, h2⟩ := h
  refine ⟨bindL l, [], ⟨h1, ?_⟩, bind_elems _ _, by simp⟩
  rcases h2 with h | ⟨g, cap, cur, hv, hg, h⟩
  · exact .inl h
  · exact .inr ⟨g, cap, cur, hv, Nat.zero_le _, h⟩
theorem OwnsB.low (h : OwnsB w base v l) : ∀ b ∈ blk v, base ≤ b := by
  rcases h.2 with ⟨rfl, _⟩ | ⟨g, cap, cur, rfl, hg, _⟩
  · intro b hb; simp [blk, Value.ownBlock] at hb
  · intro b hb
    simp [blk, Value.ownBlock] at hb
    omega
theorem OwnsB.nodup (_h : OwnsB w base v l) : (blk v).Nodup := by
  unfold blk
  cases v.ownBlock <;> simp
theorem OwnsB.below {B : Nat} (h : OwnsB w base v l) (hb : Below B w w') (hB : w.heap.size ≤ B) : OwnsB w' base v l := by
  obtain ⟨h1, h2⟩ := h
  refine ⟨h1, ?_⟩
  rcases h2 with h | ⟨g, cap, cur, hv, hg, hh, h⟩
  · exact .inl h
  · have hlt : g < w.heap.size := (Array.getElem?_eq_some_iff.1 hh).1
    exact .inr ⟨g, cap, cur, hv, hg, (hb.block g (by omega)).trans hh, h⟩
end
theorem bindL_snoc' (a : List BV) (x : BV) : bindL (a ++ [x]) = bindL a ++ [.int .i64 x.task, .int .i64 x.node] := by simp [bindL]
theorem wpList_append_b {ops : Array Oper} {rest : List Oper} {o : Oper} {a : Act} {Q : Exit → Act → World → Prop} (w : World) (hgd : o.guard = none) (s x : Operand)
    (ho : o.op = .call { callee := .builtin .append, args := #[s, x], argTypes := #[37, 37] })
    (base : Nat) (v : Value) (l : List BV) (r : BV) (g : Nat) (hs : a.eval s = v) (hown : OwnsB w base v l) (hx : a.eval x = .slice (some ⟨g, 0, none⟩) 1 1)
    (h0 : w.cell? ⟨g, 0, none⟩ = some (.int .i64 r.task)) (h1 : w.cell? ⟨g, 1, none⟩ = some (.int .i64 r.node)) (hl : l.length ≤ 2000000) (hbase : base ≤ w.heap.size)
    (h : ∀ v' w', OwnsB w' base v' (l ++ [r]) → Below base w w' → wpList Tryz.prog ops Q rest (a.put o.dst v') w') : wpList Tryz.prog ops Q (o :: rest) a w := by
  obtain ⟨i0, hi0, hz0, hz1, hz2⟩ := info_parts Tryz.infoBind
  refine wpList_append_own w hgd s x 37 ho base 70 i0 _ 2 16 Tryz.underlying37 hi0 hz0 hz1 hz2 rfl (by omega) v l.length (bindL l) hs hown ⟨g, 0, none⟩ 1 1 [.int .i64 r.task, .int .i64 r.node] hx rfl ?_ ?_ (by simp only [maxLen]; omega) (by omega) hbase ?_
  · intro j u hj
    match j, hj with
    | 0, hj => simp at hj; subst hj; simpa [Addr.add] using h0
    | 1, hj => simp at hj; subst hj; simpa [Addr.add] using h1
  · exact List.all_eq_true.1 (by rfl)
  · intro v' w' hown' hgrow _
    refine h v' w' ?_ ((Below.refl _ _).grown hgrow hbase (fun k hk => (World.ownsRow.lt hown k hk).1))
    unfold OwnsB
    rw [bindL_snoc', List.length_append]
    exact hown'
theorem unbound_take {t n : Int} {l : List BV} {k : Nat} {b : BV} (h : l[k]? = some b) : unbound t n (l.take (k + 1)) = unbound t n (l.take k) ++ (if (!decide (b.task = t) && !decide (b.node = n)) = true then [b] else []) := by
  unfold unbound
  rw [take_at h, List.filter_append]
  simp only [List.filter_cons, List.filter_nil]
theorem CluO.cutTask {W : World} {c : CV} {a0 a1 a2 : Value} {bs : List Nat} (h : CluO W c a0 a1 a2 bs) {j : Nat} {x : TV} (hx : c.tasks[j]? = some x) :
    ∃ gr cap xa ys, a0 = .slice (some ⟨gr, 0, none⟩) c.tasks.length cap ∧ gr ∈ bs ∧ c.tasks.length ≤ cap ∧ W.ownsRow 0 46 7 (.slice (some ⟨gr, 0, none⟩) j cap) j xa ∧ ys.length = (c.tasks.length - (j + 1)) * 7 ∧ CellsAt W gr ((j + 1) * 7) ys ∧ (∀ u ∈ ys, u.oneCell' = true) ∧
      ∀ v' w', w'.ownsRow 0 46 7 v' (j + (c.tasks.length - (j + 1))) (xa ++ ys) → W.grownBy w' (some gr) → (v'.ownBlock = some gr ∨ v'.ownBlock = some W.heap.size) → ∃ bs', CluO w' { c with tasks := c.tasks.take j ++ c.tasks.drop (j + 1) } v' a1 a2 bs' ∧ ∀ b ∈ bs', b ∈ bs ∨ b = W.heap.size := by
  obtain ⟨b0, b1, b2, h0, h1, h2, rfl, hnd, l0, l1, l2⟩ := h
  obtain ⟨n0, n1, n2, d0, d1, d2⟩ := nd3 hnd
  have t0 := rowO_lt (fun _ _ _ h => h.lt) h0
  have t1 := rowO_lt (fun _ _ _ h => h.lt) h1
  have t2 := rowO_lt (fun _ _ _ h => h.lt) h2
  obtain ⟨gr, cap, xa, ys, e, hgm, hcap, ho, hyl, hys, hone, hfin⟩ := h0.cut TaskO.framed (fun _ _ _ _ h => h.len) (fun _ _ _ _ h => h.lt) TaskO.one n0 hx
  refine ⟨gr, cap, xa, ys, e, by simp [hgm], hcap, ho, hyl, hys, hone, fun v' w' hown hg hk => ?_⟩
  obtain ⟨bs', r1, r2, r3⟩ := hfin v' w' hown hg hk
  have hlen : (c.tasks.take j ++ c.tasks.drop (j + 1)).length ≤ 1048576 := by rw [List.length_append, List.length_take, List.length_drop]; omega
  have k1 := h1.agree NodeO.framed (Agree.of_grown hg (fun b hb => ⟨t1 b hb, fun e => (d1 b hb).1 (by rw [Option.some.inj e]; exact hgm)⟩))
  have k2 := h2.agree BindO.framed (Agree.of_grown hg (fun b hb => ⟨t2 b hb, fun e => (d2 b hb).1 (by rw [Option.some.inj e]; exact hgm)⟩))
  refine ⟨bs' ++ (b1 ++ b2), ⟨bs', b1, b2, r1, k1, k2, rfl, ?_, hlen, l1, l2⟩, ?_⟩
  · simp only [List.nodup_append, List.mem_append] at hnd ⊢
    obtain ⟨q0, q1, q4⟩ := hnd
    refine ⟨r2, q1, fun x hx y hy e => ?_⟩
    rcases r3 x hx with h | h
    · exact q4 x h y hy e
    · rcases hy with hy | hy
      · have := t1 y hy; omega
      · have := t2 y hy; omega
  · intro b hb
    simp only [List.mem_append] at hb ⊢
    rcases hb with hb | hb
    · rcases r3 b hb with h | h
      · exact .inl (.inl h)
      · exact .inr h
    · exact .inl (.inr hb)

theorem CluO.cutNode {W : World} {c : CV} {a0 a1 a2 : Value} {bs : List Nat} (h : CluO W c a0 a1 a2 bs) {j : Nat} {x : NV} (hx : c.nodes[j]? = some x) :
    ∃ gr cap xa ys, a1 = .slice (some ⟨gr, 0, none⟩) c.nodes.length cap ∧ gr ∈ bs ∧ c.nodes.length ≤ cap ∧ W.ownsRow 0 60 8 (.slice (some ⟨gr, 0, none⟩) j cap) j xa ∧ ys.length = (c.nodes.length - (j + 1)) * 8 ∧ CellsAt W gr ((j + 1) * 8) ys ∧ (∀ u ∈ ys, u.oneCell' = true) ∧
      ∀ v' w', w'.ownsRow 0 60 8 v' (j + (c.nodes.length - (j + 1))) (xa ++ ys) → W.grownBy w' (some gr) → (v'.ownBlock = some gr ∨ v'.ownBlock = some W.heap.size) → ∃ bs', CluO w' { c with nodes := c.nodes.take j ++ c.nodes.drop (j + 1) } a0 v' a2 bs' ∧ ∀ b ∈ bs', b ∈ bs ∨ b = W.heap.size := by
  obtain ⟨b0, b1, b2, h0, h1, h2, rfl, hnd, l0, l1, l2⟩ := h
  obtain ⟨n0, n1, n2, d0, d1, d2⟩ := nd3 hnd
  have t0 := rowO_lt (fun _ _ _ h => h.lt) h0
  have t1 := rowO_lt (fun _ _ _ h => h.lt) h1
  have t2 := rowO_lt (fun _ _ _ h => h.lt) h2
  obtain ⟨gr, cap, xa, ys, e, hgm, hcap, ho, hyl, hys, hone, hfin⟩ := h1.cut NodeO.framed (fun _ _ _ _ h => h.len) (fun _ _ _ _ h => h.lt) NodeO.one n1 hx
  refine ⟨gr, cap, xa, ys, e, by simp [hgm], hcap, ho, hyl, hys, hone, fun v' w' hown hg hk => ?_⟩
  obtain ⟨bs', r1, r2, r3⟩ := hfin v' w' hown hg hk
  have hlen : (c.nodes.take j ++ c.nodes.drop (j + 1)).length ≤ 1048576 := by rw [List.length_append, List.length_take, List.length_drop]; omega
  have k0 := h0.agree TaskO.framed (Agree.of_grown hg (fun b hb => ⟨t0 b hb, fun e => (d0 b hb).1 (by rw [Option.some.inj e]; exact hgm)⟩))
  have k2 := h2.agree BindO.framed (Agree.of_grown hg (fun b hb => ⟨t2 b hb, fun e => (d2 b hb).2 (by rw [Option.some.inj e]; exact hgm)⟩))
  refine ⟨b0 ++ (bs' ++ b2), ⟨b0, bs', b2, k0, r1, k2, rfl, ?_, l0, hlen, l2⟩, ?_⟩
  · simp only [List.nodup_append, List.mem_append] at hnd ⊢
    obtain ⟨q0, ⟨q1, q2, q3⟩, q4⟩ := hnd
    refine ⟨q0, ⟨r2, q2, fun x hx y hy e => ?_⟩, fun x hx y hy e => ?_⟩
    · rcases r3 x hx with h | h
      · exact q3 x h y hy e
      · have := t2 y hy; omega
    · rcases hy with hy | hy
      · rcases r3 y hy with h | h
        · exact q4 x hx y (.inl h) e
        · have := t0 x hx; omega
      · exact q4 x hx y (.inr hy) e
  · intro b hb
    simp only [List.mem_append] at hb ⊢
    rcases hb with hb | hb | hb
    · exact .inl (.inl hb)
    · rcases r3 b hb with h | h
      · exact .inl (.inr (.inl h))
      · exact .inr h
    · exact .inl (.inr (.inr hb))

/-- Other bindings in a cluster that a call owns. -/
theorem CluO.setB {w : World} {c : CV} {a0 a1 a2 v : Value} {bs b2' : List Nat} {l : List BV} (h : CluO w c a0 a1 a2 bs) (hb : RowO BindO 70 2 w v l b2') (hn : b2'.Nodup) (hd : ∀ b ∈ b2', b ∉ bs) (hl : l.length ≤ 1048576) :
    ∃ bs', CluO w { c with binds := l } a0 a1 v bs' ∧ ∀ b ∈ bs', b ∈ bs ∨ b ∈ b2' := by
  obtain ⟨b0, b1, b2, h0, h1, h2, rfl, hnd, l0, l1, l2⟩ := h
  refine ⟨b0 ++ (b1 ++ b2'), ⟨b0, b1, b2', h0, h1, hb, rfl, ?_, l0, l1, hl⟩, ?_⟩
  · simp only [List.nodup_append, List.mem_append] at hnd hd ⊢
    obtain ⟨q0, ⟨q1, q2, q3⟩, q4⟩ := hnd
    refine ⟨q0, ⟨q1, hn, fun x hx y hy e => hd y hy (.inr (.inl (e ▸ hx)))⟩, fun x hx y hy e => ?_⟩
    rcases hy with hy | hy
    · exact q4 x hx y (.inl hy) e
    · exact hd y hy (.inl (e ▸ hx))
  · intro b hb
    simp only [List.mem_append] at hb ⊢
    rcases hb with hb | hb | hb
    · exact .inl (.inl hb)
    · exact .inl (.inr (.inl hb))
    · exact .inr hb
theorem unbound_le (t n : Int) (l : List BV) : (unbound t n l).length ≤ l.length := List.length_filter_le _ _
set_option maxHeartbeats 1600000 in
theorem sUnbound_any (v : Value) (l : List BV) (t n : Int) (w : World) (hv : BindSl w v l) (hlen : l.length ≤ 1048576) :
    Calls Tryz.prog 73 #[v, .int .i64 t, .int .i64 n] w fun e w' => ∃ v', e = .returned v' ∧ OwnsB w' w.heap.size v' (unbound t n l) ∧ Below w.heap.size w w' := by
  obtain ⟨A, c, rfl, hA⟩ := hv.form
  have HA := Lib.hid hA
  clear hA hv
  go_enter Tryz.func73, Tryz.ntmps73
  go_wp2_with fail
  go_loopw [7, 8] (fun s7 s8 wr => ∃ k : Nat, k ≤ l.length ∧ s8 = .int .i64 k ∧ OwnsB wr w.heap.size s7 (unbound t n (l.take k)) ∧ Below w.heap.size w wr) (fun _ s8 _ => (l.length - intOf s8).toNat)
  case atStart => exact ⟨0, by omega, rfl, ⟨by simp [unbound, bindL], .inr ⟨w.heap.size, 0, #[], rfl, Nat.le_refl _, by first | exact BlockIs.new w _ _ | simp, by simp [unbound], by simp only [maxLen]; omega, by simp, by simp [unbound, bindL]⟩⟩, (by repeat' (first | exact Below.refl _ _ | refine Below.alloc ?_ ?_ _ | refine Below.setCell ?_ ?_ _ | refine Below.drew ?_ | (apply below_step; assumption) | (simp; done) | (simp; omega) | omega))⟩
  case round =>
    obtain ⟨k, hk, rfl, hown, hB⟩ := hrel
    have hzr := hB.size
    have HOW := Lib.hid hown
    obtain ⟨F, f, hs7, -⟩ := own_form hown
    subst hs7
    clear hown
    by_cases hlt : k < l.length
    · obtain ⟨b, off, rfl, hbw, hat⟩ := HA.out (by omega)
      obtain ⟨r, hr⟩ : ∃ r, l[k]? = some r := ⟨_, List.getElem?_eq_getElem hlt⟩
      obtain ⟨cs, hR, hC⟩ := (hat.below BindR.kept hB hbw) k r hr
      obtain rfl := hR
      obtain ⟨q0, q1⟩ := bind_cells hC
      have HT := Lib.hid (unbound_take (t := t) (n := n) hr)
      have HLN := Lib.hid (show (unbound t n (l.take k)).length ≤ 1048576 by
        have h1 := List.length_filter_le (fun b : BV => !decide (b.task = t) && !decide (b.node = n)) (l.take k)
        rw [List.length_take] at h1
        unfold unbound; omega)
      have hbr : b < wr.heap.size := by omega
      clear hat hC hr
      generalize unbound t n (l.take k) = u at HOW HT HLN ⊢
      by_cases e1 : r.task = t
      · have e1' : (r.task != t) = false := by simp [e1]
        have HU := Lib.hid (show unbound t n (l.take (k + 1)) = u by rw [HT.out]; simp [e1])
        clear e1
        go_wp2_with fail
        go_roundw
        case rel => exact ⟨k + 1, by omega, by go_num, by rw [HU.out]; exact HOW.out, hB⟩
        case measure => simp [intOf]; omega
      · have e1' : (r.task != t) = true := by simp [e1]
        by_cases e2 : r.node = n
        · have e2' : (r.node != n) = false := by simp [e2]
          have HU := Lib.hid (show unbound t n (l.take (k + 1)) = u by rw [HT.out]; simp [e2])
          clear e1 e2
          go_wp2_with fail
          go_roundw
          case rel => exact ⟨k + 1, by omega, by go_num, by rw [HU.out]; exact HOW.out, hB⟩
          case measure => simp [intOf]; omega
        · have e2' : (r.node != n) = true := by simp [e2]
          have HU := Lib.hid (show unbound t n (l.take (k + 1)) = u ++ [r] by rw [HT.out]; simp [e1, e2])
          clear e1 e2
          go_wp2_with (refine wpList_append_b _ rfl (.tmp 32) (.tmp 37) rfl w.heap.size _ u r wr.heap.size rfl (HOW.out.alloc _) rfl (by simp) (by simp) (by have := HLN.out; omega) (by simp; omega) ?_; intro v' w3 hown3 hb3)
          go_roundw
          case rel => exact ⟨k + 1, by omega, by go_num, by rw [HU.out]; exact hown3, (hB.alloc (by omega) _).trans hb3⟩
          case measure => simp [intOf]; omega
    · have hkl : k = l.length := by omega
      have HF := Lib.hid (show OwnsB wr w.heap.size (.slice F (unbound t n (l.take k)).length f) (unbound t n l) by have := HOW.out; rwa [hkl, List.take_length] at this ⊢)
      clear hkl
      go_wp2_with fail
      go_ret
      exact ⟨_, rfl, HF.out, hB⟩
end Go.Proofs.YtocfgejceoenmaaGreatDoor

namespace Go.Proofs.YtocfgejceoenmaaGreatDoor
open Go.RowKit

set_option maxHeartbeats 6400000 in
set_option maxRecDepth 20000 in
theorem sTaskDrop_any (c : CV) (a0 a1 a2 : Value) (z : Int) (w : World) (hc : CluR w c a0 a1 a2) :
    Calls Tryz.prog 22 #[.agg #[a0, a1, a2], .int .i64 z] w (RetCluI w (taskDropG c z).1 (taskDropG c z).2) := by
  have hok := fun w1 h => sClusterOk_any c a0 a1 a2 w1 h
  have hix := fun w1 hw1 => sTask_any c a0 a1 a2 z w w1 hw1 hc
  have hcp := fun w1 h => sCopy_any c a0 a1 a2 w1 h
  have hub := fun w1 h => sUnbound_any a2 c.binds z 0 w1 h hc.2.2.2.2.2
  obtain ⟨D0, D1, D2, e0, e1, e2, rfl, rfl, rfl, -⟩ := hc.full
  unfold taskDropG
  generalize hq1 : clusterOk c = ok at hok
  generalize hq3 : idxBy TV.id c.tasks z = j at hix
  have HQ := Lib.hid (And.intro hq1 hq3)
  have HC := Lib.hid hc
  have HOK := Lib.hid hok
  have HIX := Lib.hid hix
  have HCP := Lib.hid hcp
  have HUB := Lib.hid hub
  clear hok hix hcp hub hc hq1 hq3
  go_enter Tryz.func22, Tryz.ntmps22
  go_wp2_with fail
  have hX : Below w.heap.size w ((w.alloc (.cells #[.slice D0 c.tasks.length e0, .slice D1 c.nodes.length e1, .slice D2 c.binds.length e2] 39)).alloc (.cells #[.slice none 0 0, .slice none 0 0, .slice none 0 0] 39)) := (by repeat' (first | exact Below.refl _ _ | refine Below.alloc ?_ ?_ _ | refine Below.setCell ?_ ?_ _ | refine Below.drew ?_ | (apply below_step; assumption) | (simp; done) | (simp; omega) | omega))
  refine (HOK.out _ (HC.out.below hX)).mono ?_
  rintro e w1 ⟨rfl, hb1⟩
  have hC1 := below_of hX hb1
  have hz1 := hb1.size
  simp at hz1
  have BC : BlockIs w1 w.heap.size 39 #[.slice D0 c.tasks.length e0, .slice D1 c.nodes.length e1, .slice D2 c.binds.length e2] := ((BlockIs.new w _ _).alloc _).below hb1 (by simp; omega)
  have BR : BlockIs w1 (w.heap.size + 1) 39 #[.slice none 0 0, .slice none 0 0, .slice none 0 0] := (BlockIs.new' (by simp)).below hb1 (by simp)
  have HBC1 := Lib.hid BC
  have HBR1 := Lib.hid BR
  have r0 := BR.cell 0
  have r1 := BR.cell 1
  have r2 := BR.cell 2
  have rf := BR.frozen
  have g0 := BC.cell 0
  have g1 := BC.cell 1
  have g2 := BC.cell 2
  simp at r0 r1 r2 g0 g1 g2
  clear BC BR hb1 hX
  cases ok
  · go_wp2_with fail
    have hZ := clu_put HBR1.out (.slice none 0 0) (.slice none 0 0) (.slice none 0 0)
    have hB := clu_below (g := w.heap.size + 1) hC1 (by omega) (.slice none 0 0) (.slice none 0 0) (.slice none 0 0)
    generalize (((w1.setCell ⟨w.heap.size + 1, 0, none⟩ (.slice none 0 0)).setCell ⟨w.heap.size + 1, 1, none⟩ (.slice none 0 0)).setCell ⟨w.heap.size + 1, 2, none⟩ (.slice none 0 0)) = V at hZ hB ⊢
    have x0 := hZ.cell 0
    have x1 := hZ.cell 1
    have x2 := hZ.cell 2
    simp at x0 x1 x2
    exact bodyPost_ret (v := .tuple #[.agg #[.slice none 0 0, .slice none 0 0, .slice none 0 0], .int .i64 1]) (by simp [results, Tryz.results22, go_sem, x0, x1, x2]) rfl (by rw [needG_form HQ.out.1]; exact ⟨_, _, _, [], rfl, CluO.zero _, by simp, hB⟩)
  go_wp2_with fail
  refine (HIX.out _ hC1).mono ?_
  rintro e w3 ⟨rfl, hb3⟩
  have hC3 := below_of hC1 hb3
  have hz3 := hb3.size
  have BC := HBC1.out.below hb3 HBC1.out.lt
  have BR := HBR1.out.below hb3 HBR1.out.lt
  have HBC3 := Lib.hid BC
  have HBR3 := Lib.hid BR
  have r0 := BR.cell 0
  have r1 := BR.cell 1
  have r2 := BR.cell 2
  have rf := BR.frozen
  have g0 := BC.cell 0
  have g1 := BC.cell 1
  have g2 := BC.cell 2
  simp at r0 r1 r2 g0 g1 g2
  clear BC BR hb3 HBC1 HBR1
  cases hf : fstBy TV.id c.tasks z with
  | none =>
    obtain rfl : j = -1 := by rw [← HQ.out.2]; exact idxBy_none hf
    have HFS := Lib.hid (show (fstBy TV.id c.tasks z).isSome = false by rw [hf]; rfl)
    clear hf
    go_wp2_with fail
    have hZ := clu_put HBR3.out (.slice none 0 0) (.slice none 0 0) (.slice none 0 0)
    have hB := clu_below (g := w.heap.size + 1) hC3 (by omega) (.slice none 0 0) (.slice none 0 0) (.slice none 0 0)
    generalize (((w3.setCell ⟨w.heap.size + 1, 0, none⟩ (.slice none 0 0)).setCell ⟨w.heap.size + 1, 1, none⟩ (.slice none 0 0)).setCell ⟨w.heap.size + 1, 2, none⟩ (.slice none 0 0)) = V at hZ hB ⊢
    have x0 := hZ.cell 0
    have x1 := hZ.cell 1
    have x2 := hZ.cell 2
    simp at x0 x1 x2
    exact bodyPost_ret (v := .tuple #[.agg #[.slice none 0 0, .slice none 0 0, .slice none 0 0], .int .i64 3]) (by simp [results, Tryz.results22, go_sem, x0, x1, x2]) rfl (by rw [HFS.out, needG_none HQ.out.1]; exact ⟨_, _, _, [], rfl, CluO.zero _, by simp, hB⟩)
  | some x =>
    obtain ⟨jn, hj, hjt, hkz, -⟩ := idxBy_some hf
    obtain rfl : j = (jn : Int) := by rw [← HQ.out.2, hj]
    have HFS := Lib.hid (show (fstBy TV.id c.tasks z).isSome = true by rw [hf]; rfl)
    have hjl : jn < c.tasks.length := (List.getElem?_eq_some_iff.1 hjt).1
    obtain ⟨pT, pN, pB⟩ := clusterOk_parts HQ.out.1
    have HUN := Lib.hid (unbound_task (t := z) (l := c.binds) pB)
    have HHIT := Lib.hid (And.intro hjt hkz)
    have HDIS := Lib.hid (And.intro pT pN)
    clear hkz hj hjt hf pT pN pB
    have hnn : (0 : Int) ≤ (jn : Int) := by omega
    have hnn' : decide ((jn : Int) < 0) = false := by simp
    go_wp2_with fail
    refine (HCP.out _ (HC.out.below hC3)).mono ?_
    rintro e w4 ⟨b0, b1, b2, bs, rfl, hCO, hlo, hb4⟩
    obtain ⟨F0, F1, F2, f0, f1, f2, rfl, rfl, rfl, -⟩ := hCO.clu.full
    have hC4 := below_of hC3 hb4
    have hz4 := hb4.size
    have hY : Below w4.heap.size w4 (w4.alloc (.cells #[.slice F0 c.tasks.length f0, .slice F1 c.nodes.length f1, .slice F2 c.binds.length f2] 39)) := (by repeat' (first | exact Below.refl _ _ | refine Below.alloc ?_ ?_ _ | refine Below.setCell ?_ ?_ _ | refine Below.drew ?_ | (apply below_step; assumption) | (simp; done) | (simp; omega) | omega))
    have BO : BlockIs (w4.alloc (.cells #[.slice F0 c.tasks.length f0, .slice F1 c.nodes.length f1, .slice F2 c.binds.length f2] 39)) w4.heap.size 39 #[.slice F0 c.tasks.length f0, .slice F1 c.nodes.length f1, .slice F2 c.binds.length f2] := BlockIs.new _ _ _
    have BC := (HBC3.out.below hb4 HBC3.out.lt).alloc (.cells #[.slice F0 c.tasks.length f0, .slice F1 c.nodes.length f1, .slice F2 c.binds.length f2] 39)
    have BR := (HBR3.out.below hb4 HBR3.out.lt).alloc (.cells #[.slice F0 c.tasks.length f0, .slice F1 c.nodes.length f1, .slice F2 c.binds.length f2] 39)
    have hCY := below_of hC4 hY
    have hlt := hCO.lt
    have hCY0 := hCO.agree (Agree.of_below hY hlt)
    have hYz : w4.heap.size < (w4.alloc (.cells #[.slice F0 c.tasks.length f0, .slice F1 c.nodes.length f1, .slice F2 c.binds.length f2] 39)).heap.size := by simp
    have HSB := Lib.hid (show ∀ b ∈ bs, w3.heap.size ≤ b ∧ b < w4.heap.size from fun b hb => ⟨hlo b hb, hlt b hb⟩)
    clear hCO hlo hb4 hlt r0 r1 r2 rf g0 g1 g2 hY
    have HBO := Lib.hid BO
    have HBC := Lib.hid BC
    have HBR := Lib.hid BR
    have HCY := Lib.hid hCY
    obtain ⟨i0, hi0, hz0, hs0, hy0⟩ := info_parts Tryz.infoTask
    have hlen : c.tasks.length ≤ 1048576 := HC.out.2.2.2.1
    obtain ⟨gr, cap, xa, ys, hv, hgm, hcap, hown, hyl, hys, hone, hfin⟩ := hCY0.cutTask HHIT.out.1
    simp only [Value.slice.injEq] at hv
    obtain ⟨rfl, -, rfl⟩ := hv
    have hgb := HSB.out gr hgm
    go_wp2_with fail
    generalize w4.alloc (.cells #[.slice (some ⟨gr, 0, none⟩) c.tasks.length f0, .slice F1 c.nodes.length f1, .slice F2 c.binds.length f2] 39) = Y at BO BC BR hCY hCY0 hYz hown hys hfin HBO HBC HBR HCY ⊢
    have o0 := BO.cell 0
    simp at o0
    have HOWN := Lib.hid (And.intro hown (And.intro hyl (And.intro hys (And.intro hone hfin))))
    have h1j : (jn : Int) ≤ (c.tasks.length : Int) := by omega
    have h2j : (jn : Int) + 1 ≤ (c.tasks.length : Int) := by omega
    have h3j : jn ≤ f0 := by omega
    have h3i : (jn : Int) ≤ (f0 : Int) := by omega
    have h4j : jn + 1 ≤ c.tasks.length := by omega
    have h5j : ((jn : Int) + 1).toNat = jn + 1 := by omega
    have h6j : IntKind.i64.wrap ((jn : Int) + 1) = (jn : Int) + 1 := by rw [IntKind.wrap_i64]; omega
    have h7j : (0 : Int) ≤ (jn : Int) + 1 := by omega
    clear hown hyl hys hone hfin BO BC BR hCY hCY0 hgm
    go_region_law
      (refine step_spread_if _ (by rfl) (.tmp 23) (.tmp 28) 35 (by rfl) 46 i0 _ 7 88 Tryz.underlying35 hi0 hz0 hs0 hy0 (by rfl) (by omega) (.slice (some ⟨gr, 0, none⟩) jn f0) jn xa (by rfl) (own_agree HOWN.out.1 (fun b hb => rfl)) (if f0 = jn + 1 then some ⟨gr, 0, none⟩ else some ⟨gr, (jn + 1) * 7, none⟩) (c.tasks.length - (jn + 1)) (f0 - (jn + 1)) ys (by rfl) HOWN.out.2.1 (fun hm => ⟨_, _, if_neg (by omega), fun q u hu => HOWN.out.2.2.1 q u hu⟩) HOWN.out.2.2.2.1 (by unfold maxLen; omega) (by omega) ?_; intro v6 w6 hown6 hg6 hk6; obtain ⟨N6, m6, rfl, _⟩ := own_form hown6; have hg7 : Y.grownBy w6 (some gr) := ⟨hg6.os, hg6.tape, hg6.output, hg6.size, hg6.block⟩; have BO6 := (hg7.block w4.heap.size HBO.out.lt (fun e => by have := Option.some.inj e; omega)).trans HBO.out; have BC6 := (hg7.block w.heap.size HBC.out.lt (fun e => by have := Option.some.inj e; omega)).trans HBC.out; have BR6 := (hg7.block (w.heap.size + 1) HBR.out.lt (fun e => by have := Option.some.inj e; omega)).trans HBR.out; have o6 := BlockIs.cell BO6 0; have of6 := BlockIs.frozen BO6; have ol6 := BlockIs.lt BO6; have p6 := BlockIs.cell BC6 2; simp at o6 p6; have HG6 := Lib.hid (And.intro hg7 (And.intro hk6 (And.intro hown6 (And.intro BO6 (And.intro BC6 BR6))))); have hwg : w4.heap.size ≠ w.heap.size := (by omega); clear hg6 hg7 hk6 hown6 BO6 BC6 BR6)
    all_goals go_wp2_with fail
    all_goals
      obtain ⟨hg6, hk6, hown6, BO6, BC6, BR6⟩ := HG6.out
      obtain ⟨bs6, hCO6, hsb6⟩ := HOWN.out.2.2.2.2 _ _ hown6 hg6 hk6
      have hYs := hYz
      have hB6 : Below w.heap.size w w6 := HCY.out.grown hg6 HCY.out.size (fun k hk => by have := Option.some.inj hk; omega)
      have hs6 := hg6.size
      have hn6 : ∀ b ∈ bs6, w3.heap.size ≤ b ∧ b ≠ w4.heap.size := fun b hb => by
        rcases hsb6 b hb with h | h
        · have := HSB.out b h; omega
        · omega
      have hCW : Below w.heap.size w (w6.setCell ⟨w4.heap.size, 0, none⟩ (.slice N6 (jn + (c.tasks.length - (jn + 1))) m6)) := hB6.setCell (p := ⟨w4.heap.size, 0, none⟩) (by dsimp only; omega) _
      have hCO := hCO6.agree (w' := (w6.setCell ⟨w4.heap.size, 0, none⟩ (.slice N6 (jn + (c.tasks.length - (jn + 1))) m6))) (fun b hb => Below.heap_setCell _ _ _ b (by have := hn6 b hb; dsimp only; omega))
      have BO : BlockIs (w6.setCell ⟨w4.heap.size, 0, none⟩ (.slice N6 (jn + (c.tasks.length - (jn + 1))) m6)) w4.heap.size 39 #[.slice N6 (jn + (c.tasks.length - (jn + 1))) m6, .slice F1 c.nodes.length f1, .slice F2 c.binds.length f2] := by simpa using BlockIs.put BO6 0 (.slice N6 (jn + (c.tasks.length - (jn + 1))) m6)
      have BR := BlockIs.far BR6 (p := ⟨w4.heap.size, 0, none⟩) (by dsimp only; omega) (.slice N6 (jn + (c.tasks.length - (jn + 1))) m6)
      generalize (w6.setCell ⟨w4.heap.size, 0, none⟩ (.slice N6 (jn + (c.tasks.length - (jn + 1))) m6)) = X at hCW hCO BO BR ⊢
      have HX := Lib.hid (And.intro hCO (And.intro BO BR))
      have HN6 := Lib.hid hn6
      clear hg6 hk6 hown6 BO6 BC6 BR6 hCO6 hsb6 hB6 hs6 hn6 hCO BO BR HG6 HOWN HBO HBC HBR HCY o6 p6 of6 ol6
      refine (HUB.out _ (HC.out.below hCW).2.2.1).mono ?_
      rintro e w8 ⟨u8, rfl, hOB, hb8⟩
      obtain ⟨hCO, BO, BR⟩ := HX.out
      have hC8 := below_of hCW hb8
      have hz8 := hb8.size
      have hlX := hCO.lt
      have hCO8 := hCO.agree (Agree.of_below hb8 hlX)
      have BO8 := BO.below hb8 BO.lt
      have BR8 := BR.below hb8 BR.lt
      have hOX := BO.lt
      obtain ⟨N8, m8, hu8, -⟩ := own_form hOB
      obtain ⟨L8, hL8⟩ : ∃ L, L = (unbound z 0 c.binds).length := ⟨_, rfl⟩
      rw [← hL8] at hu8
      subst hu8
      obtain ⟨bs8, hCO9, hsb8⟩ := hCO8.setB hOB.row hOB.nodup (fun b hb hx => by have := hOB.low b hb; have := hlX b hx; omega) (Nat.le_trans (unbound_le _ _ _) HC.out.2.2.2.2.2)
      have hn8 : ∀ b ∈ bs8, w3.heap.size ≤ b ∧ b ≠ w4.heap.size := fun b hb => by
        rcases hsb8 b hb with h | h
        · exact HN6.out b h
        · have := hOB.low b h; omega
      have hCOA := hCO9.agree (w' := (w8.setCell ⟨w4.heap.size, 2, none⟩ (.slice N8 L8 m8))) (fun b hb => Below.heap_setCell _ _ _ b (by have := hn8 b hb; dsimp only; omega))
      have BOA : BlockIs (w8.setCell ⟨w4.heap.size, 2, none⟩ (.slice N8 L8 m8)) w4.heap.size 39 #[.slice N6 (jn + (c.tasks.length - (jn + 1))) m6, .slice F1 c.nodes.length f1, .slice N8 L8 m8] := by simpa using BO8.put 2 (.slice N8 L8 m8)
      have BRA := BR8.far (p := ⟨w4.heap.size, 2, none⟩) (by dsimp only; omega) (.slice N8 L8 m8)
      have hBA := hC8.setCell (p := ⟨w4.heap.size, 2, none⟩) (by dsimp only; omega) (.slice N8 L8 m8)
      have o0 := BO8.cell 0
      have o1 := BO8.cell 1
      have o2 := BO8.cell 2
      have of := BO8.frozen
      have r0 := BR8.cell 0
      have r1 := BR8.cell 1
      have r2 := BR8.cell 2
      have rf := BR8.frozen
      have hor : w4.heap.size ≠ w.heap.size + 1 := by omega
      simp at o0 o1 o2 r0 r1 r2
      have HF := Lib.hid (And.intro hCOA (And.intro BRA (And.intro hBA hn8)))
      clear hCO BO BR hCO8 BO8 BR8 hOB hb8 hCO9 hsb8 hCOA BOA BRA hBA hn8 hL8 hlX HX HN6
      go_wp2_with fail
      obtain ⟨hCOA, BRA, hBA, hn8⟩ := HF.out
      have hZ := clu_put BRA (.slice N6 (jn + (c.tasks.length - (jn + 1))) m6) (.slice F1 c.nodes.length f1) (.slice N8 L8 m8)
      have hA := hCOA.agree (w' := ((((w8.setCell ⟨w4.heap.size, 2, none⟩ (.slice N8 L8 m8)).setCell ⟨w.heap.size + 1, 0, none⟩ (.slice N6 (jn + (c.tasks.length - (jn + 1))) m6)).setCell ⟨w.heap.size + 1, 1, none⟩ (.slice F1 c.nodes.length f1)).setCell ⟨w.heap.size + 1, 2, none⟩ (.slice N8 L8 m8))) (fun b hb => putAll_block (o := 0) (ds := [.slice N6 (jn + (c.tasks.length - (jn + 1))) m6, .slice F1 c.nodes.length f1, .slice N8 L8 m8]) (by have := hn8 b hb; omega))
      have hB := clu_below (g := w.heap.size + 1) hBA (by omega) (.slice N6 (jn + (c.tasks.length - (jn + 1))) m6) (.slice F1 c.nodes.length f1) (.slice N8 L8 m8)
      generalize ((((w8.setCell ⟨w4.heap.size, 2, none⟩ (.slice N8 L8 m8)).setCell ⟨w.heap.size + 1, 0, none⟩ (.slice N6 (jn + (c.tasks.length - (jn + 1))) m6)).setCell ⟨w.heap.size + 1, 1, none⟩ (.slice F1 c.nodes.length f1)).setCell ⟨w.heap.size + 1, 2, none⟩ (.slice N8 L8 m8)) = V at hZ hA hB ⊢
      have x0 := hZ.cell 0
      have x1 := hZ.cell 1
      have x2 := hZ.cell 2
      simp at x0 x1 x2
      have hR := dropBy_one (key := TV.id) HHIT.out.1 HHIT.out.2 HDIS.out.1
      exact bodyPost_ret (v := .tuple #[.agg #[.slice N6 (jn + (c.tasks.length - (jn + 1))) m6, .slice F1 c.nodes.length f1, .slice N8 L8 m8], .int .i64 0]) (by simp [results, Tryz.results22, go_sem, x0, x1, x2]) rfl (by rw [HFS.out, needG_fine HQ.out.1, ← hR, ← HUN.out]; exact ⟨_, _, _, _, rfl, hA, fun b hb => by have := hn8 b hb; omega, hB⟩)
set_option maxHeartbeats 6400000 in
set_option maxRecDepth 20000 in
theorem sNodeDrop_any (c : CV) (a0 a1 a2 : Value) (z : Int) (w : World) (hc : CluR w c a0 a1 a2) :
    Calls Tryz.prog 30 #[.agg #[a0, a1, a2], .int .i64 z] w (RetCluI w (nodeDropG c z).1 (nodeDropG c z).2) := by
  have hok := fun w1 h => sClusterOk_any c a0 a1 a2 w1 h
  have hix := fun w1 hw1 => sNode_any c a0 a1 a2 z w w1 hw1 hc
  have hcp := fun w1 h => sCopy_any c a0 a1 a2 w1 h
  have hub := fun w1 h => sUnbound_any a2 c.binds 0 z w1 h hc.2.2.2.2.2
  obtain ⟨D0, D1, D2, e0, e1, e2, rfl, rfl, rfl, -⟩ := hc.full
  unfold nodeDropG
  generalize hq1 : clusterOk c = ok at hok
  generalize hq3 : idxBy NV.id c.nodes z = j at hix
  have HQ := Lib.hid (And.intro hq1 hq3)
  have HC := Lib.hid hc
  have HOK := Lib.hid hok
  have HIX := Lib.hid hix
  have HCP := Lib.hid hcp
  have HUB := Lib.hid hub
  clear hok hix hcp hub hc hq1 hq3
  go_enter Tryz.func30, Tryz.ntmps30
  go_wp2_with fail
  have hX : Below w.heap.size w ((w.alloc (.cells #[.slice D0 c.tasks.length e0, .slice D1 c.nodes.length e1, .slice D2 c.binds.length e2] 39)).alloc (.cells #[.slice none 0 0, .slice none 0 0, .slice none 0 0] 39)) := (by repeat' (first | exact Below.refl _ _ | refine Below.alloc ?_ ?_ _ | refine Below.setCell ?_ ?_ _ | refine Below.drew ?_ | (apply below_step; assumption) | (simp; done) | (simp; omega) | omega))
  refine (HOK.out _ (HC.out.below hX)).mono ?_
  rintro e w1 ⟨rfl, hb1⟩
  have hC1 := below_of hX hb1
  have hz1 := hb1.size
  simp at hz1
  have BC : BlockIs w1 w.heap.size 39 #[.slice D0 c.tasks.length e0, .slice D1 c.nodes.length e1, .slice D2 c.binds.length e2] := ((BlockIs.new w _ _).alloc _).below hb1 (by simp; omega)
  have BR : BlockIs w1 (w.heap.size + 1) 39 #[.slice none 0 0, .slice none 0 0, .slice none 0 0] := (BlockIs.new' (by simp)).below hb1 (by simp)
  have HBC1 := Lib.hid BC
  have HBR1 := Lib.hid BR
  have r0 := BR.cell 0
  have r1 := BR.cell 1
  have r2 := BR.cell 2
  have rf := BR.frozen
  have g0 := BC.cell 0
  have g1 := BC.cell 1
  have g2 := BC.cell 2
  simp at r0 r1 r2 g0 g1 g2
  clear BC BR hb1 hX
  cases ok
  · go_wp2_with fail
    have hZ := clu_put HBR1.out (.slice none 0 0) (.slice none 0 0) (.slice none 0 0)
    have hB := clu_below (g := w.heap.size + 1) hC1 (by omega) (.slice none 0 0) (.slice none 0 0) (.slice none 0 0)
    generalize (((w1.setCell ⟨w.heap.size + 1, 0, none⟩ (.slice none 0 0)).setCell ⟨w.heap.size + 1, 1, none⟩ (.slice none 0 0)).setCell ⟨w.heap.size + 1, 2, none⟩ (.slice none 0 0)) = V at hZ hB ⊢
    have x0 := hZ.cell 0
    have x1 := hZ.cell 1
    have x2 := hZ.cell 2
    simp at x0 x1 x2
    exact bodyPost_ret (v := .tuple #[.agg #[.slice none 0 0, .slice none 0 0, .slice none 0 0], .int .i64 1]) (by simp [results, Tryz.results30, go_sem, x0, x1, x2]) rfl (by rw [needG_form HQ.out.1]; exact ⟨_, _, _, [], rfl, CluO.zero _, by simp, hB⟩)
  go_wp2_with fail
  refine (HIX.out _ hC1).mono ?_
  rintro e w3 ⟨rfl, hb3⟩
  have hC3 := below_of hC1 hb3
  have hz3 := hb3.size
  have BC := HBC1.out.below hb3 HBC1.out.lt
  have BR := HBR1.out.below hb3 HBR1.out.lt
  have HBC3 := Lib.hid BC
  have HBR3 := Lib.hid BR
  have r0 := BR.cell 0
  have r1 := BR.cell 1
  have r2 := BR.cell 2
  have rf := BR.frozen
  have g0 := BC.cell 0
  have g1 := BC.cell 1
  have g2 := BC.cell 2
  simp at r0 r1 r2 g0 g1 g2
  clear BC BR hb3 HBC1 HBR1
  cases hf : fstBy NV.id c.nodes z with
  | none =>
    obtain rfl : j = -1 := by rw [← HQ.out.2]; exact idxBy_none hf
    have HFS := Lib.hid (show (fstBy NV.id c.nodes z).isSome = false by rw [hf]; rfl)
    clear hf
    go_wp2_with fail
    have hZ := clu_put HBR3.out (.slice none 0 0) (.slice none 0 0) (.slice none 0 0)
    have hB := clu_below (g := w.heap.size + 1) hC3 (by omega) (.slice none 0 0) (.slice none 0 0) (.slice none 0 0)
    generalize (((w3.setCell ⟨w.heap.size + 1, 0, none⟩ (.slice none 0 0)).setCell ⟨w.heap.size + 1, 1, none⟩ (.slice none 0 0)).setCell ⟨w.heap.size + 1, 2, none⟩ (.slice none 0 0)) = V at hZ hB ⊢
    have x0 := hZ.cell 0
    have x1 := hZ.cell 1
    have x2 := hZ.cell 2
    simp at x0 x1 x2
    exact bodyPost_ret (v := .tuple #[.agg #[.slice none 0 0, .slice none 0 0, .slice none 0 0], .int .i64 3]) (by simp [results, Tryz.results30, go_sem, x0, x1, x2]) rfl (by rw [HFS.out, needG_none HQ.out.1]; exact ⟨_, _, _, [], rfl, CluO.zero _, by simp, hB⟩)
  | some x =>
    obtain ⟨jn, hj, hjt, hkz, -⟩ := idxBy_some hf
    obtain rfl : j = (jn : Int) := by rw [← HQ.out.2, hj]
    have HFS := Lib.hid (show (fstBy NV.id c.nodes z).isSome = true by rw [hf]; rfl)
    have hjl : jn < c.nodes.length := (List.getElem?_eq_some_iff.1 hjt).1
    obtain ⟨pT, pN, pB⟩ := clusterOk_parts HQ.out.1
    have HUN := Lib.hid (unbound_node (n := z) (l := c.binds) pB)
    have HHIT := Lib.hid (And.intro hjt hkz)
    have HDIS := Lib.hid (And.intro pT pN)
    clear hkz hj hjt hf pT pN pB
    have hnn : (0 : Int) ≤ (jn : Int) := by omega
    have hnn' : decide ((jn : Int) < 0) = false := by simp
    go_wp2_with fail
    refine (HCP.out _ (HC.out.below hC3)).mono ?_
    rintro e w4 ⟨b0, b1, b2, bs, rfl, hCO, hlo, hb4⟩
    obtain ⟨F0, F1, F2, f0, f1, f2, rfl, rfl, rfl, -⟩ := hCO.clu.full
    have hC4 := below_of hC3 hb4
    have hz4 := hb4.size
    have hY : Below w4.heap.size w4 (w4.alloc (.cells #[.slice F0 c.tasks.length f0, .slice F1 c.nodes.length f1, .slice F2 c.binds.length f2] 39)) := (by repeat' (first | exact Below.refl _ _ | refine Below.alloc ?_ ?_ _ | refine Below.setCell ?_ ?_ _ | refine Below.drew ?_ | (apply below_step; assumption) | (simp; done) | (simp; omega) | omega))
    have BO : BlockIs (w4.alloc (.cells #[.slice F0 c.tasks.length f0, .slice F1 c.nodes.length f1, .slice F2 c.binds.length f2] 39)) w4.heap.size 39 #[.slice F0 c.tasks.length f0, .slice F1 c.nodes.length f1, .slice F2 c.binds.length f2] := BlockIs.new _ _ _
    have BC := (HBC3.out.below hb4 HBC3.out.lt).alloc (.cells #[.slice F0 c.tasks.length f0, .slice F1 c.nodes.length f1, .slice F2 c.binds.length f2] 39)
    have BR := (HBR3.out.below hb4 HBR3.out.lt).alloc (.cells #[.slice F0 c.tasks.length f0, .slice F1 c.nodes.length f1, .slice F2 c.binds.length f2] 39)
    have hCY := below_of hC4 hY
    have hlt := hCO.lt
    have hCY0 := hCO.agree (Agree.of_below hY hlt)
    have hYz : w4.heap.size < (w4.alloc (.cells #[.slice F0 c.tasks.length f0, .slice F1 c.nodes.length f1, .slice F2 c.binds.length f2] 39)).heap.size := by simp
    have HSB := Lib.hid (show ∀ b ∈ bs, w3.heap.size ≤ b ∧ b < w4.heap.size from fun b hb => ⟨hlo b hb, hlt b hb⟩)
    clear hCO hlo hb4 hlt r0 r1 r2 rf g0 g1 g2 hY
    have HBO := Lib.hid BO
    have HBC := Lib.hid BC
    have HBR := Lib.hid BR
    have HCY := Lib.hid hCY
    obtain ⟨i0, hi0, hz0, hs0, hy0⟩ := info_parts Tryz.infoNode
    have hlen : c.nodes.length ≤ 1048576 := HC.out.2.2.2.2.1
    obtain ⟨gr, cap, xa, ys, hv, hgm, hcap, hown, hyl, hys, hone, hfin⟩ := hCY0.cutNode HHIT.out.1
    simp only [Value.slice.injEq] at hv
    obtain ⟨rfl, -, rfl⟩ := hv
    have hgb := HSB.out gr hgm
    go_wp2_with fail
    generalize w4.alloc (.cells #[.slice F0 c.tasks.length f0, .slice (some ⟨gr, 0, none⟩) c.nodes.length f1, .slice F2 c.binds.length f2] 39) = Y at BO BC BR hCY hCY0 hYz hown hys hfin HBO HBC HBR HCY ⊢
    have o1 := BO.cell 1
    simp at o1
    have HOWN := Lib.hid (And.intro hown (And.intro hyl (And.intro hys (And.intro hone hfin))))
    have h1j : (jn : Int) ≤ (c.nodes.length : Int) := by omega
    have h2j : (jn : Int) + 1 ≤ (c.nodes.length : Int) := by omega
    have h3j : jn ≤ f1 := by omega
    have h3i : (jn : Int) ≤ (f1 : Int) := by omega
    have h4j : jn + 1 ≤ c.nodes.length := by omega
    have h5j : ((jn : Int) + 1).toNat = jn + 1 := by omega
    have h6j : IntKind.i64.wrap ((jn : Int) + 1) = (jn : Int) + 1 := by rw [IntKind.wrap_i64]; omega
    have h7j : (0 : Int) ≤ (jn : Int) + 1 := by omega
    clear hown hyl hys hone hfin BO BC BR hCY hCY0 hgm
    go_region_law
      (refine step_spread_if _ (by rfl) (.tmp 23) (.tmp 28) 36 (by rfl) 60 i0 _ 8 96 Tryz.underlying36 hi0 hz0 hs0 hy0 (by rfl) (by omega) (.slice (some ⟨gr, 0, none⟩) jn f1) jn xa (by rfl) (own_agree HOWN.out.1 (fun b hb => rfl)) (if f1 = jn + 1 then some ⟨gr, 0, none⟩ else some ⟨gr, (jn + 1) * 8, none⟩) (c.nodes.length - (jn + 1)) (f1 - (jn + 1)) ys (by rfl) HOWN.out.2.1 (fun hm => ⟨_, _, if_neg (by omega), fun q u hu => HOWN.out.2.2.1 q u hu⟩) HOWN.out.2.2.2.1 (by unfold maxLen; omega) (by omega) ?_; intro v6 w6 hown6 hg6 hk6; obtain ⟨N6, m6, rfl, _⟩ := own_form hown6; have hg7 : Y.grownBy w6 (some gr) := ⟨hg6.os, hg6.tape, hg6.output, hg6.size, hg6.block⟩; have BO6 := (hg7.block w4.heap.size HBO.out.lt (fun e => by have := Option.some.inj e; omega)).trans HBO.out; have BC6 := (hg7.block w.heap.size HBC.out.lt (fun e => by have := Option.some.inj e; omega)).trans HBC.out; have BR6 := (hg7.block (w.heap.size + 1) HBR.out.lt (fun e => by have := Option.some.inj e; omega)).trans HBR.out; have o6 := BlockIs.cell BO6 1; have of6 := BlockIs.frozen BO6; have ol6 := BlockIs.lt BO6; have p6 := BlockIs.cell BC6 2; simp at o6 p6; have HG6 := Lib.hid (And.intro hg7 (And.intro hk6 (And.intro hown6 (And.intro BO6 (And.intro BC6 BR6))))); have hwg : w4.heap.size ≠ w.heap.size := (by omega); clear hg6 hg7 hk6 hown6 BO6 BC6 BR6)
    all_goals go_wp2_with fail
    all_goals
      obtain ⟨hg6, hk6, hown6, BO6, BC6, BR6⟩ := HG6.out
      obtain ⟨bs6, hCO6, hsb6⟩ := HOWN.out.2.2.2.2 _ _ hown6 hg6 hk6
      have hYs := hYz
      have hB6 : Below w.heap.size w w6 := HCY.out.grown hg6 HCY.out.size (fun k hk => by have := Option.some.inj hk; omega)
      have hs6 := hg6.size
      have hn6 : ∀ b ∈ bs6, w3.heap.size ≤ b ∧ b ≠ w4.heap.size := fun b hb => by
        rcases hsb6 b hb with h | h
        · have := HSB.out b h; omega
        · omega
      have hCW : Below w.heap.size w (w6.setCell ⟨w4.heap.size, 1, none⟩ (.slice N6 (jn + (c.nodes.length - (jn + 1))) m6)) := hB6.setCell (p := ⟨w4.heap.size, 1, none⟩) (by dsimp only; omega) _
      have hCO := hCO6.agree (w' := (w6.setCell ⟨w4.heap.size, 1, none⟩ (.slice N6 (jn + (c.nodes.length - (jn + 1))) m6))) (fun b hb => Below.heap_setCell _ _ _ b (by have := hn6 b hb; dsimp only; omega))
      have BO : BlockIs (w6.setCell ⟨w4.heap.size, 1, none⟩ (.slice N6 (jn + (c.nodes.length - (jn + 1))) m6)) w4.heap.size 39 #[.slice F0 c.tasks.length f0, .slice N6 (jn + (c.nodes.length - (jn + 1))) m6, .slice F2 c.binds.length f2] := by simpa using BlockIs.put BO6 1 (.slice N6 (jn + (c.nodes.length - (jn + 1))) m6)
      have BR := BlockIs.far BR6 (p := ⟨w4.heap.size, 1, none⟩) (by dsimp only; omega) (.slice N6 (jn + (c.nodes.length - (jn + 1))) m6)
      generalize (w6.setCell ⟨w4.heap.size, 1, none⟩ (.slice N6 (jn + (c.nodes.length - (jn + 1))) m6)) = X at hCW hCO BO BR ⊢
      have HX := Lib.hid (And.intro hCO (And.intro BO BR))
      have HN6 := Lib.hid hn6
      clear hg6 hk6 hown6 BO6 BC6 BR6 hCO6 hsb6 hB6 hs6 hn6 hCO BO BR HG6 HOWN HBO HBC HBR HCY o6 p6 of6 ol6
      refine (HUB.out _ (HC.out.below hCW).2.2.1).mono ?_
      rintro e w8 ⟨u8, rfl, hOB, hb8⟩
      obtain ⟨hCO, BO, BR⟩ := HX.out
      have hC8 := below_of hCW hb8
      have hz8 := hb8.size
      have hlX := hCO.lt
      have hCO8 := hCO.agree (Agree.of_below hb8 hlX)
      have BO8 := BO.below hb8 BO.lt
      have BR8 := BR.below hb8 BR.lt
      have hOX := BO.lt
      obtain ⟨N8, m8, hu8, -⟩ := own_form hOB
      obtain ⟨L8, hL8⟩ : ∃ L, L = (unbound 0 z c.binds).length := ⟨_, rfl⟩
      rw [← hL8] at hu8
      subst hu8
      obtain ⟨bs8, hCO9, hsb8⟩ := hCO8.setB hOB.row hOB.nodup (fun b hb hx => by have := hOB.low b hb; have := hlX b hx; omega) (Nat.le_trans (unbound_le _ _ _) HC.out.2.2.2.2.2)
      have hn8 : ∀ b ∈ bs8, w3.heap.size ≤ b ∧ b ≠ w4.heap.size := fun b hb => by
        rcases hsb8 b hb with h | h
        · exact HN6.out b h
        · have := hOB.low b h; omega
      have hCOA := hCO9.agree (w' := (w8.setCell ⟨w4.heap.size, 2, none⟩ (.slice N8 L8 m8))) (fun b hb => Below.heap_setCell _ _ _ b (by have := hn8 b hb; dsimp only; omega))
      have BOA : BlockIs (w8.setCell ⟨w4.heap.size, 2, none⟩ (.slice N8 L8 m8)) w4.heap.size 39 #[.slice F0 c.tasks.length f0, .slice N6 (jn + (c.nodes.length - (jn + 1))) m6, .slice N8 L8 m8] := by simpa using BO8.put 2 (.slice N8 L8 m8)
      have BRA := BR8.far (p := ⟨w4.heap.size, 2, none⟩) (by dsimp only; omega) (.slice N8 L8 m8)
      have hBA := hC8.setCell (p := ⟨w4.heap.size, 2, none⟩) (by dsimp only; omega) (.slice N8 L8 m8)
      have o0 := BO8.cell 0
      have o1 := BO8.cell 1
      have o2 := BO8.cell 2
      have of := BO8.frozen
      have r0 := BR8.cell 0
      have r1 := BR8.cell 1
      have r2 := BR8.cell 2
      have rf := BR8.frozen
      have hor : w4.heap.size ≠ w.heap.size + 1 := by omega
      simp at o0 o1 o2 r0 r1 r2
      have HF := Lib.hid (And.intro hCOA (And.intro BRA (And.intro hBA hn8)))
      clear hCO BO BR hCO8 BO8 BR8 hOB hb8 hCO9 hsb8 hCOA BOA BRA hBA hn8 hL8 hlX HX HN6
      go_wp2_with fail
      obtain ⟨hCOA, BRA, hBA, hn8⟩ := HF.out
      have hZ := clu_put BRA (.slice F0 c.tasks.length f0) (.slice N6 (jn + (c.nodes.length - (jn + 1))) m6) (.slice N8 L8 m8)
      have hA := hCOA.agree (w' := ((((w8.setCell ⟨w4.heap.size, 2, none⟩ (.slice N8 L8 m8)).setCell ⟨w.heap.size + 1, 0, none⟩ (.slice F0 c.tasks.length f0)).setCell ⟨w.heap.size + 1, 1, none⟩ (.slice N6 (jn + (c.nodes.length - (jn + 1))) m6)).setCell ⟨w.heap.size + 1, 2, none⟩ (.slice N8 L8 m8))) (fun b hb => putAll_block (o := 0) (ds := [.slice F0 c.tasks.length f0, .slice N6 (jn + (c.nodes.length - (jn + 1))) m6, .slice N8 L8 m8]) (by have := hn8 b hb; omega))
      have hB := clu_below (g := w.heap.size + 1) hBA (by omega) (.slice F0 c.tasks.length f0) (.slice N6 (jn + (c.nodes.length - (jn + 1))) m6) (.slice N8 L8 m8)
      generalize ((((w8.setCell ⟨w4.heap.size, 2, none⟩ (.slice N8 L8 m8)).setCell ⟨w.heap.size + 1, 0, none⟩ (.slice F0 c.tasks.length f0)).setCell ⟨w.heap.size + 1, 1, none⟩ (.slice N6 (jn + (c.nodes.length - (jn + 1))) m6)).setCell ⟨w.heap.size + 1, 2, none⟩ (.slice N8 L8 m8)) = V at hZ hA hB ⊢
      have x0 := hZ.cell 0
      have x1 := hZ.cell 1
      have x2 := hZ.cell 2
      simp at x0 x1 x2
      have hR := dropBy_one (key := NV.id) HHIT.out.1 HHIT.out.2 HDIS.out.2
      exact bodyPost_ret (v := .tuple #[.agg #[.slice F0 c.tasks.length f0, .slice N6 (jn + (c.nodes.length - (jn + 1))) m6, .slice N8 L8 m8], .int .i64 0]) (by simp [results, Tryz.results30, go_sem, x0, x1, x2]) rfl (by rw [HFS.out, needG_fine HQ.out.1, ← hR, ← HUN.out]; exact ⟨_, _, _, _, rfl, hA, fun b hb => by have := hn8 b hb; omega, hB⟩)
set_option maxHeartbeats 6400000 in
set_option maxRecDepth 20000 in
theorem sBindDrop_any (c : CV) (a0 a1 a2 : Value) (z : Int) (w : World) (hc : CluR w c a0 a1 a2) :
    Calls Tryz.prog 37 #[.agg #[a0, a1, a2], .int .i64 z] w (RetCluI w (bindDropG c z).1 (bindDropG c z).2) := by
  have hok := fun w1 h => sClusterOk_any c a0 a1 a2 w1 h
  have hix := fun w1 hw1 => sBind_any c a0 a1 a2 z w w1 hw1 hc
  have hcp := fun w1 h => sCopy_any c a0 a1 a2 w1 h
  have hub := fun w1 h => sUnbound_any a2 c.binds z 0 w1 h hc.2.2.2.2.2
  obtain ⟨D0, D1, D2, e0, e1, e2, rfl, rfl, rfl, -⟩ := hc.full
  unfold bindDropG
  generalize hq1 : clusterOk c = ok at hok
  generalize hq3 : idxBy BV.task c.binds z = j at hix
  have HQ := Lib.hid (And.intro hq1 hq3)
  have HC := Lib.hid hc
  have HOK := Lib.hid hok
  have HIX := Lib.hid hix
  have HCP := Lib.hid hcp
  have HUB := Lib.hid hub
  clear hok hix hcp hub hc hq1 hq3
  go_enter Tryz.func37, Tryz.ntmps37
  go_wp2_with fail
  have hX : Below w.heap.size w ((w.alloc (.cells #[.slice D0 c.tasks.length e0, .slice D1 c.nodes.length e1, .slice D2 c.binds.length e2] 39)).alloc (.cells #[.slice none 0 0, .slice none 0 0, .slice none 0 0] 39)) := (by repeat' (first | exact Below.refl _ _ | refine Below.alloc ?_ ?_ _ | refine Below.setCell ?_ ?_ _ | refine Below.drew ?_ | (apply below_step; assumption) | (simp; done) | (simp; omega) | omega))
  refine (HOK.out _ (HC.out.below hX)).mono ?_
  rintro e w1 ⟨rfl, hb1⟩
  have hC1 := below_of hX hb1
  have hz1 := hb1.size
  simp at hz1
  have BC : BlockIs w1 w.heap.size 39 #[.slice D0 c.tasks.length e0, .slice D1 c.nodes.length e1, .slice D2 c.binds.length e2] := ((BlockIs.new w _ _).alloc _).below hb1 (by simp; omega)
  have BR : BlockIs w1 (w.heap.size + 1) 39 #[.slice none 0 0, .slice none 0 0, .slice none 0 0] := (BlockIs.new' (by simp)).below hb1 (by simp)
  have HBC1 := Lib.hid BC
  have HBR1 := Lib.hid BR
  have r0 := BR.cell 0
  have r1 := BR.cell 1
  have r2 := BR.cell 2
  have rf := BR.frozen
  have g0 := BC.cell 0
  have g1 := BC.cell 1
  have g2 := BC.cell 2
  simp at r0 r1 r2 g0 g1 g2
  clear BC BR hb1 hX
  cases ok
  · go_wp2_with fail
    have hZ := clu_put HBR1.out (.slice none 0 0) (.slice none 0 0) (.slice none 0 0)
    have hB := clu_below (g := w.heap.size + 1) hC1 (by omega) (.slice none 0 0) (.slice none 0 0) (.slice none 0 0)
    generalize (((w1.setCell ⟨w.heap.size + 1, 0, none⟩ (.slice none 0 0)).setCell ⟨w.heap.size + 1, 1, none⟩ (.slice none 0 0)).setCell ⟨w.heap.size + 1, 2, none⟩ (.slice none 0 0)) = V at hZ hB ⊢
    have x0 := hZ.cell 0
    have x1 := hZ.cell 1
    have x2 := hZ.cell 2
    simp at x0 x1 x2
    exact bodyPost_ret (v := .tuple #[.agg #[.slice none 0 0, .slice none 0 0, .slice none 0 0], .int .i64 1]) (by simp [results, Tryz.results37, go_sem, x0, x1, x2]) rfl (by rw [needG_form HQ.out.1]; exact ⟨_, _, _, [], rfl, CluO.zero _, by simp, hB⟩)
  go_wp2_with fail
  refine (HIX.out _ hC1).mono ?_
  rintro e w3 ⟨rfl, hb3⟩
  have hC3 := below_of hC1 hb3
  have hz3 := hb3.size
  have BC := HBC1.out.below hb3 HBC1.out.lt
  have BR := HBR1.out.below hb3 HBR1.out.lt
  have HBC3 := Lib.hid BC
  have HBR3 := Lib.hid BR
  have r0 := BR.cell 0
  have r1 := BR.cell 1
  have r2 := BR.cell 2
  have rf := BR.frozen
  have g0 := BC.cell 0
  have g1 := BC.cell 1
  have g2 := BC.cell 2
  simp at r0 r1 r2 g0 g1 g2
  clear BC BR hb3 HBC1 HBR1
  cases hf : fstBy BV.task c.binds z with
  | none =>
    obtain rfl : j = -1 := by rw [← HQ.out.2]; exact idxBy_none hf
    have HFS := Lib.hid (show (fstBy BV.task c.binds z).isSome = false by rw [hf]; rfl)
    clear hf
    go_wp2_with fail
    have hZ := clu_put HBR3.out (.slice none 0 0) (.slice none 0 0) (.slice none 0 0)
    have hB := clu_below (g := w.heap.size + 1) hC3 (by omega) (.slice none 0 0) (.slice none 0 0) (.slice none 0 0)
    generalize (((w3.setCell ⟨w.heap.size + 1, 0, none⟩ (.slice none 0 0)).setCell ⟨w.heap.size + 1, 1, none⟩ (.slice none 0 0)).setCell ⟨w.heap.size + 1, 2, none⟩ (.slice none 0 0)) = V at hZ hB ⊢
    have x0 := hZ.cell 0
    have x1 := hZ.cell 1
    have x2 := hZ.cell 2
    simp at x0 x1 x2
    exact bodyPost_ret (v := .tuple #[.agg #[.slice none 0 0, .slice none 0 0, .slice none 0 0], .int .i64 3]) (by simp [results, Tryz.results37, go_sem, x0, x1, x2]) rfl (by rw [HFS.out, needG_none HQ.out.1]; exact ⟨_, _, _, [], rfl, CluO.zero _, by simp, hB⟩)
  | some x =>
    obtain ⟨jn, hj, hjt, hkz, -⟩ := idxBy_some hf
    obtain rfl : j = (jn : Int) := by rw [← HQ.out.2, hj]
    have HFS := Lib.hid (show (fstBy BV.task c.binds z).isSome = true by rw [hf]; rfl)
    have hjl : jn < c.binds.length := (List.getElem?_eq_some_iff.1 hjt).1
    obtain ⟨pT, pN, pB⟩ := clusterOk_parts HQ.out.1
    have HUN := Lib.hid (unbound_task (t := z) (l := c.binds) pB)
    have HHIT := Lib.hid (And.intro hjt hkz)
    have HDIS := Lib.hid (And.intro pT pN)
    clear hkz hj hjt hf pT pN pB
    have hnn : (0 : Int) ≤ (jn : Int) := by omega
    have hnn' : decide ((jn : Int) < 0) = false := by simp
    go_wp2_with fail
    refine (HCP.out _ (HC.out.below hC3)).mono ?_
    rintro e w4 ⟨b0, b1, b2, bs, rfl, hCO, hlo, hb4⟩
    obtain ⟨F0, F1, F2, f0, f1, f2, rfl, rfl, rfl, -⟩ := hCO.clu.full
    have hC4 := below_of hC3 hb4
    have hz4 := hb4.size
    have hY : Below w4.heap.size w4 (w4.alloc (.cells #[.slice F0 c.tasks.length f0, .slice F1 c.nodes.length f1, .slice F2 c.binds.length f2] 39)) := (by repeat' (first | exact Below.refl _ _ | refine Below.alloc ?_ ?_ _ | refine Below.setCell ?_ ?_ _ | refine Below.drew ?_ | (apply below_step; assumption) | (simp; done) | (simp; omega) | omega))
    have BO : BlockIs (w4.alloc (.cells #[.slice F0 c.tasks.length f0, .slice F1 c.nodes.length f1, .slice F2 c.binds.length f2] 39)) w4.heap.size 39 #[.slice F0 c.tasks.length f0, .slice F1 c.nodes.length f1, .slice F2 c.binds.length f2] := BlockIs.new _ _ _
    have BC := (HBC3.out.below hb4 HBC3.out.lt).alloc (.cells #[.slice F0 c.tasks.length f0, .slice F1 c.nodes.length f1, .slice F2 c.binds.length f2] 39)
    have BR := (HBR3.out.below hb4 HBR3.out.lt).alloc (.cells #[.slice F0 c.tasks.length f0, .slice F1 c.nodes.length f1, .slice F2 c.binds.length f2] 39)
    have hCY := below_of hC4 hY
    have hlt := hCO.lt
    have hCY0 := hCO.agree (Agree.of_below hY hlt)
    have hYz : w4.heap.size < (w4.alloc (.cells #[.slice F0 c.tasks.length f0, .slice F1 c.nodes.length f1, .slice F2 c.binds.length f2] 39)).heap.size := by simp
    have HSB := Lib.hid (show ∀ b ∈ bs, w3.heap.size ≤ b ∧ b < w4.heap.size from fun b hb => ⟨hlo b hb, hlt b hb⟩)
    clear hCO hlo hb4 hlt r0 r1 r2 rf g0 g1 g2 hY
    have HBO := Lib.hid BO
    have HBC := Lib.hid BC
    have HBR := Lib.hid BR
    have HCY := Lib.hid hCY
    have g2 := BC.cell 2
    simp at g2
    clear BO BC BR
    go_wp2_with fail
    generalize w4.alloc (.cells #[.slice F0 c.tasks.length f0, .slice F1 c.nodes.length f1, .slice F2 c.binds.length f2] 39) = X at hCY hCY0 hYz HBO HBC HBR HCY ⊢
    have hCW := hCY
    have HX := Lib.hid (And.intro hCY0 (And.intro HBO.out HBR.out))
    have HN6 := Lib.hid (show ∀ b ∈ bs, w3.heap.size ≤ b ∧ b ≠ w4.heap.size from fun b hb => by have := HSB.out b hb; omega)
    clear hCY hCY0 HBO HBC HBR HCY g2
    refine (HUB.out _ (HC.out.below hCW).2.2.1).mono ?_
    rintro e w8 ⟨u8, rfl, hOB, hb8⟩
    obtain ⟨hCO, BO, BR⟩ := HX.out
    have hC8 := below_of hCW hb8
    have hz8 := hb8.size
    have hlX := hCO.lt
    have hCO8 := hCO.agree (Agree.of_below hb8 hlX)
    have BO8 := BO.below hb8 BO.lt
    have BR8 := BR.below hb8 BR.lt
    have hOX := BO.lt
    obtain ⟨N8, m8, hu8, -⟩ := own_form hOB
    obtain ⟨L8, hL8⟩ : ∃ L, L = (unbound z 0 c.binds).length := ⟨_, rfl⟩
    rw [← hL8] at hu8
    subst hu8
    obtain ⟨bs8, hCO9, hsb8⟩ := hCO8.setB hOB.row hOB.nodup (fun b hb hx => by have := hOB.low b hb; have := hlX b hx; omega) (Nat.le_trans (unbound_le _ _ _) HC.out.2.2.2.2.2)
    have hn8 : ∀ b ∈ bs8, w3.heap.size ≤ b ∧ b ≠ w4.heap.size := fun b hb => by
      rcases hsb8 b hb with h | h
      · exact HN6.out b h
      · have := hOB.low b h; omega
    have hCOA := hCO9.agree (w' := (w8.setCell ⟨w4.heap.size, 2, none⟩ (.slice N8 L8 m8))) (fun b hb => Below.heap_setCell _ _ _ b (by have := hn8 b hb; dsimp only; omega))
    have BOA : BlockIs (w8.setCell ⟨w4.heap.size, 2, none⟩ (.slice N8 L8 m8)) w4.heap.size 39 #[.slice F0 c.tasks.length f0, .slice F1 c.nodes.length f1, .slice N8 L8 m8] := by simpa using BO8.put 2 (.slice N8 L8 m8)
    have BRA := BR8.far (p := ⟨w4.heap.size, 2, none⟩) (by dsimp only; omega) (.slice N8 L8 m8)
    have hBA := hC8.setCell (p := ⟨w4.heap.size, 2, none⟩) (by dsimp only; omega) (.slice N8 L8 m8)
    have o0 := BO8.cell 0
    have o1 := BO8.cell 1
    have o2 := BO8.cell 2
    have of := BO8.frozen
    have r0 := BR8.cell 0
    have r1 := BR8.cell 1
    have r2 := BR8.cell 2
    have rf := BR8.frozen
    have hor : w4.heap.size ≠ w.heap.size + 1 := by omega
    simp at o0 o1 o2 r0 r1 r2
    have HF := Lib.hid (And.intro hCOA (And.intro BRA (And.intro hBA hn8)))
    clear hCO BO BR hCO8 BO8 BR8 hOB hb8 hCO9 hsb8 hCOA BOA BRA hBA hn8 hL8 hlX HX HN6
    go_wp2_with fail
    obtain ⟨hCOA, BRA, hBA, hn8⟩ := HF.out
    have hZ := clu_put BRA (.slice F0 c.tasks.length f0) (.slice F1 c.nodes.length f1) (.slice N8 L8 m8)
    have hA := hCOA.agree (w' := ((((w8.setCell ⟨w4.heap.size, 2, none⟩ (.slice N8 L8 m8)).setCell ⟨w.heap.size + 1, 0, none⟩ (.slice F0 c.tasks.length f0)).setCell ⟨w.heap.size + 1, 1, none⟩ (.slice F1 c.nodes.length f1)).setCell ⟨w.heap.size + 1, 2, none⟩ (.slice N8 L8 m8))) (fun b hb => putAll_block (o := 0) (ds := [.slice F0 c.tasks.length f0, .slice F1 c.nodes.length f1, .slice N8 L8 m8]) (by have := hn8 b hb; omega))
    have hB := clu_below (g := w.heap.size + 1) hBA (by omega) (.slice F0 c.tasks.length f0) (.slice F1 c.nodes.length f1) (.slice N8 L8 m8)
    generalize ((((w8.setCell ⟨w4.heap.size, 2, none⟩ (.slice N8 L8 m8)).setCell ⟨w.heap.size + 1, 0, none⟩ (.slice F0 c.tasks.length f0)).setCell ⟨w.heap.size + 1, 1, none⟩ (.slice F1 c.nodes.length f1)).setCell ⟨w.heap.size + 1, 2, none⟩ (.slice N8 L8 m8)) = V at hZ hA hB ⊢
    have x0 := hZ.cell 0
    have x1 := hZ.cell 1
    have x2 := hZ.cell 2
    simp at x0 x1 x2
    have hR := trivial
    exact bodyPost_ret (v := .tuple #[.agg #[.slice F0 c.tasks.length f0, .slice F1 c.nodes.length f1, .slice N8 L8 m8], .int .i64 0]) (by simp [results, Tryz.results37, go_sem, x0, x1, x2]) rfl (by rw [HFS.out, needG_fine HQ.out.1, ← HUN.out]; exact ⟨_, _, _, _, rfl, hA, fun b hb => by have := hn8 b hb; omega, hB⟩)
end Go.Proofs.YtocfgejceoenmaaGreatDoor
