/- The contracts of find, findTask, findNode, findBind. -/
import Derived.Test.YtocfgejceoenmaaGreatDoorCluMem
import Derived.Test.YtocfgejceoenmaaGreatDoorSlTask
namespace Go.Proofs.YtocfgejceoenmaaGreatDoor
open Go.RowKit

theorem put2 {w : World} {g : Nat} {t : TypeId} {cs : Array Value} (a0 a1 : Value) (h : BlockIs w g t cs) (hs : cs.size = 2) : BlockIs ((w.setCell ⟨g, 0, none⟩ (a0)).setCell ⟨g, 1, none⟩ (a1)) g t #[a0, a1] := by
  obtain ⟨l⟩ := cs
  match l, hs with
  | [b0, b1], _ => simpa using (h.put 0 a0).put 1 a1
theorem below2 {B : Nat} {a w : World} {g : Nat} {a0 a1 : Value} (h : Below B a w) (hg : B ≤ g) : Below B a ((w.setCell ⟨g, 0, none⟩ (a0)).setCell ⟨g, 1, none⟩ (a1)) := (h.setCell hg _).setCell hg _
set_option maxHeartbeats 800000 in
theorem isTask_any (t : TV) (cs : List Value) (B : Nat) (z : Int) (w : World) (ok : Bool) (hR : TaskR w t cs) (hz : w.cell? ⟨B, 0, none⟩ = some (.int .i64 z)) (hok : decide (t.id = z) = ok) :
    Calls Tryz.prog 137 #[.agg cs.toArray, .pointer (some ⟨B, 0, none⟩)] w fun e w' => e = .returned (.bool ok) ∧ Below w.heap.size w w' := by
  obtain ⟨v1, v2, rfl, sl, si, m1, m2⟩ := hR; obtain ⟨A1, c1, rfl, _⟩ := sl.form; obtain ⟨A2, c2, rfl, _⟩ := si.form
  clear sl si m1 m2
  have hB := World.block_lt_of_cell? _ _ hz
  simp only at hB
  have HE := Lib.hid (show (t.id == z) = ok by rw [← hok]; rfl)
  clear hok
  go_enter Tryz.func137, Tryz.ntmps137
  go_wp2_with fail
  go_ret
  exact ⟨by rw [HE.out]; simp, (by repeat' (first | exact Below.refl _ _ | refine Below.alloc ?_ ?_ _ | refine Below.setCell ?_ ?_ _ | refine Below.drew ?_ | (apply below_step; assumption) | (simp; done) | (simp; omega) | omega))⟩

set_option maxHeartbeats 1600000 in
theorem indexTask_any (B : Nat) (z : Int) (v : Value) (l : List TV) (w : World) (hv : TaskSl w v l) (hlen : l.length ≤ 1048576) (hz : w.cell? ⟨B, 0, none⟩ = some (.int .i64 z)) :
    Calls Tryz.prog 149 #[v, .func (.func 137) #[] #[.pointer (some ⟨B, 0, none⟩)]] w fun e w' => e = .returned (.int .i64 (idxBy TV.id l z)) ∧ Below w.heap.size w w' := by
  obtain ⟨A, c, rfl, hA⟩ := hv.form
  have HA := Lib.hid hA
  have hB := World.block_lt_of_cell? _ _ hz
  simp only at hB
  have HZ := Lib.hid hz
  clear hA hv hz
  go_enter Tryz.func149, Tryz.ntmps149
  go_wp2_with fail
  go_loopw [8] (fun s8 wr => ∃ k : Nat, k ≤ l.length ∧ s8 = .int .i64 k ∧ idxBy TV.id l z = idxGo TV.id k (l.drop k) z ∧ Below w.heap.size w wr) (fun s8 _ => (l.length - intOf s8).toNat)
  case atStart => exact ⟨0, by omega, rfl, by simp [idxBy], Below.refl _ _⟩
  case round =>
    obtain ⟨k, hk, rfl, hidx, hBr⟩ := hrel
    have HI := Lib.hid hidx
    have hzr := hBr.size
    have HZR := Lib.hid ((hBr.cell (p := ⟨B, 0, none⟩) hB).trans HZ.out)
    clear hidx
    by_cases hlt : k < l.length
    · obtain ⟨b, off, rfl, hbw, hat⟩ := HA.out (by omega)
      obtain ⟨t, ht⟩ : ∃ t, l[k]? = some t := ⟨_, List.getElem?_eq_getElem hlt⟩
      obtain ⟨cs, hR, hC⟩ := (hat.below TaskR.kept hBr hbw) k t ht
      have HR := Lib.hid hR
      have HD := Lib.hid (drop_at ht)
      obtain ⟨v1, v2, rfl, sl, si, m1, m2⟩ := hR; obtain ⟨A1, c1, rfl, _⟩ := sl.form; obtain ⟨A2, c2, rfl, _⟩ := si.form
      clear sl si m1 m2
      obtain ⟨q0, q1, q2, q3, q4, q5, q6⟩ := task_cells hC
      clear hat hC ht
      by_cases e : t.id = z
      · have HE := Lib.hid e
        clear e
        go_wp2_with fail
        refine (isTask_any t _ B z _ true HR.out HZR.out (by simpa using HE.out)).mono ?_
        rintro e w2 ⟨rfl, hb2⟩
        go_wp2_with fail
        go_ret
        refine ⟨?_, (by repeat' (first | exact Below.refl _ _ | refine Below.alloc ?_ ?_ _ | refine Below.setCell ?_ ?_ _ | refine Below.drew ?_ | (apply below_step; assumption) | (simp; done) | (simp; omega) | omega))⟩
        rw [HI.out, HD.out, idxGo_hit HE.out]; rfl
      · have HE := Lib.hid e
        clear e
        go_wp2_with fail
        refine (isTask_any t _ B z _ false HR.out HZR.out (by simpa using HE.out)).mono ?_
        rintro e w2 ⟨rfl, hb2⟩
        go_wp2_with fail
        go_roundw
        case rel => exact ⟨k + 1, by omega, by go_num, by rw [HI.out, HD.out, idxGo_miss HE.out]; simp, (by repeat' (first | exact Below.refl _ _ | refine Below.alloc ?_ ?_ _ | refine Below.setCell ?_ ?_ _ | refine Below.drew ?_ | (apply below_step; assumption) | (simp; done) | (simp; omega) | omega))⟩
        case measure => simp [intOf]; omega
    · have hkl : k = l.length := by omega
      have HF := Lib.hid (show idxBy TV.id l z = -1 by rw [HI.out, hkl, List.drop_length]; rfl)
      clear hkl
      go_wp2_with fail
      go_ret
      exact ⟨by rw [HF.out]; rfl, hBr⟩

set_option maxHeartbeats 1600000 in
theorem findGTask_any (B : Nat) (z : Int) (v : Value) (l : List TV) (w0 w : World) (hw : Below w0.heap.size w0 w) (hv : TaskSl w0 v l) (hlen : l.length ≤ 1048576) (hz : w.cell? ⟨B, 0, none⟩ = some (.int .i64 z)) :
    Calls Tryz.prog 136 #[v, .func (.func 137) #[] #[.pointer (some ⟨B, 0, none⟩)]] w (RetFTask w0 w (fstBy TV.id l z)) := by
  have hv' := hv.below hw
  obtain ⟨A, c, rfl, hA⟩ := hv.form
  have hB := World.block_lt_of_cell? _ _ hz
  simp only at hB
  have HV := Lib.hid hv'
  have HZ := Lib.hid hz
  have HW := Lib.hid hw
  have hi := fun w hv hz => indexTask_any B z (.slice A l.length c) l w hv hlen hz
  cases hf : fstBy TV.id l z with
  | none =>
    rw [idxBy_none hf] at hi
    have HI := Lib.hid hi
    clear hi hf hv hv' hw hz hA
    go_enter Tryz.func136, Tryz.ntmps136
    go_wp2_with fail
    refine (HI.out _ (HV.out.below (by repeat' (first | exact Below.refl _ _ | refine Below.alloc ?_ ?_ _ | refine Below.setCell ?_ ?_ _ | refine Below.drew ?_ | (apply below_step; assumption) | (simp; done) | (simp; omega) | omega))) ((World.cell?_alloc_lt _ _ _ hB).trans HZ.out)).mono ?_
    rintro e w2 ⟨rfl, hb2⟩
    have hz2 := hb2.size
    simp at hz2
    have B1 : BlockIs w2 w.heap.size 46 #[.int .i64 0, .int .i64 0, .int .i64 0, .int .i64 0, .int .i64 0, .slice none 0 0, .slice none 0 0] := (BlockIs.new w _ _).below hb2 (by simp)
    have hC2 : Below w.heap.size w w2 := (by repeat' (first | exact Below.refl _ _ | refine Below.alloc ?_ ?_ _ | refine Below.setCell ?_ ?_ _ | refine Below.drew ?_ | (apply below_step; assumption) | (simp; done) | (simp; omega) | omega))
    have d0 := B1.cell 0; have d1 := B1.cell 1; have d2 := B1.cell 2; have d3 := B1.cell 3; have d4 := B1.cell 4; have d5 := B1.cell 5; have d6 := B1.cell 6
    have f1 := B1.frozen
    simp at d0 d1 d2 d3 d4 d5 d6
    have HB1 := Lib.hid B1
    have hl2 : w.heap.size < w2.heap.size := by omega
    clear B1
    go_wp2_with fail
    have hZ : BlockIs (World.alloc (((((((w2.setCell ⟨w.heap.size, 0, none⟩ (.int .i64 0)).setCell ⟨w.heap.size, 1, none⟩ (.int .i64 0)).setCell ⟨w.heap.size, 2, none⟩ (.int .i64 0)).setCell ⟨w.heap.size, 3, none⟩ (.int .i64 0)).setCell ⟨w.heap.size, 4, none⟩ (.int .i64 0)).setCell ⟨w.heap.size, 5, none⟩ (.slice none 0 0)).setCell ⟨w.heap.size, 6, none⟩ (.slice none 0 0)) (.cells #[.int .i64 0, .int .i64 0, .int .i64 0, .int .i64 0, .int .i64 0, .slice none 0 0, .slice none 0 0] 46)) w.heap.size 46 #[.int .i64 0, .int .i64 0, .int .i64 0, .int .i64 0, .int .i64 0, .slice none 0 0, .slice none 0 0] := (put7 _ _ _ _ _ _ _ HB1.out rfl).alloc _
    have hX : Below w.heap.size w (World.alloc (((((((w2.setCell ⟨w.heap.size, 0, none⟩ (.int .i64 0)).setCell ⟨w.heap.size, 1, none⟩ (.int .i64 0)).setCell ⟨w.heap.size, 2, none⟩ (.int .i64 0)).setCell ⟨w.heap.size, 3, none⟩ (.int .i64 0)).setCell ⟨w.heap.size, 4, none⟩ (.int .i64 0)).setCell ⟨w.heap.size, 5, none⟩ (.slice none 0 0)).setCell ⟨w.heap.size, 6, none⟩ (.slice none 0 0)) (.cells #[.int .i64 0, .int .i64 0, .int .i64 0, .int .i64 0, .int .i64 0, .slice none 0 0, .slice none 0 0] 46)) := (below7 hC2 (Nat.le_refl _)).alloc (by simp [World.setCell]; omega) _
    generalize (World.alloc (((((((w2.setCell ⟨w.heap.size, 0, none⟩ (.int .i64 0)).setCell ⟨w.heap.size, 1, none⟩ (.int .i64 0)).setCell ⟨w.heap.size, 2, none⟩ (.int .i64 0)).setCell ⟨w.heap.size, 3, none⟩ (.int .i64 0)).setCell ⟨w.heap.size, 4, none⟩ (.int .i64 0)).setCell ⟨w.heap.size, 5, none⟩ (.slice none 0 0)).setCell ⟨w.heap.size, 6, none⟩ (.slice none 0 0)) (.cells #[.int .i64 0, .int .i64 0, .int .i64 0, .int .i64 0, .int .i64 0, .slice none 0 0, .slice none 0 0] 46)) = X at hZ hX ⊢
    have z0 := hZ.cell 0; have z1 := hZ.cell 1; have z2 := hZ.cell 2; have z3 := hZ.cell 3; have z4 := hZ.cell 4; have z5 := hZ.cell 5; have z6 := hZ.cell 6
    simp at z0 z1 z2 z3 z4 z5 z6
    exact bodyPost_ret (v := .tuple #[.agg #[.int .i64 0, .int .i64 0, .int .i64 0, .int .i64 0, .int .i64 0, .slice none 0 0, .slice none 0 0], .bool false]) (by simp [results, Tryz.results136, go_sem, z0, z1, z2, z3, z4, z5, z6]) rfl ⟨_, rfl, TaskR.zero _, hX⟩
  | some t =>
    obtain ⟨j, hj, hjt, hkz, hmn⟩ := idxBy_some hf
    clear hkz hmn
    rw [hj] at hi
    have HI := Lib.hid hi
    have hjl : j < l.length := (List.getElem?_eq_some_iff.1 hjt).1
    obtain ⟨b, off, rfl, hbw, hat⟩ := hA (by omega)
    obtain ⟨cs, hR, hC⟩ := hat j t hjt
    have HR := Lib.hid hR
    have HC := Lib.hid hC
    have hbw' : b < w.heap.size := Nat.lt_of_lt_of_le hbw hw.size
    have HC' := Lib.hid (hC.below hw hbw)
    clear hi hf hv hv' hw hz hj hjt hat hC hA
    obtain ⟨v1, v2, rfl, sl, si, m1, m2⟩ := hR; obtain ⟨A1, c1, rfl, _⟩ := sl.form; obtain ⟨A2, c2, rfl, _⟩ := si.form
    clear sl si m1 m2
    go_enter Tryz.func136, Tryz.ntmps136
    go_wp2_with fail
    refine (HI.out _ (HV.out.below (by repeat' (first | exact Below.refl _ _ | refine Below.alloc ?_ ?_ _ | refine Below.setCell ?_ ?_ _ | refine Below.drew ?_ | (apply below_step; assumption) | (simp; done) | (simp; omega) | omega))) ((World.cell?_alloc_lt _ _ _ hB).trans HZ.out)).mono ?_
    rintro e w2 ⟨rfl, hb2⟩
    have hz2 := hb2.size
    simp at hz2
    have B1 : BlockIs w2 w.heap.size 46 #[.int .i64 0, .int .i64 0, .int .i64 0, .int .i64 0, .int .i64 0, .slice none 0 0, .slice none 0 0] := (BlockIs.new w _ _).below hb2 (by simp)
    have hC2 : Below w.heap.size w w2 := (by repeat' (first | exact Below.refl _ _ | refine Below.alloc ?_ ?_ _ | refine Below.setCell ?_ ?_ _ | refine Below.drew ?_ | (apply below_step; assumption) | (simp; done) | (simp; omega) | omega))
    obtain ⟨q0, q1, q2, q3, q4, q5, q6⟩ := task_cells (HC'.out.below hC2 hbw')
    have d0 := B1.cell 0; have d1 := B1.cell 1; have d2 := B1.cell 2; have d3 := B1.cell 3; have d4 := B1.cell 4; have d5 := B1.cell 5; have d6 := B1.cell 6
    have f1 := B1.frozen
    simp at d0 d1 d2 d3 d4 d5 d6
    have HB1 := Lib.hid B1
    have hji : (j : Int) < (l.length : Int) := by omega
    have hj0 : (0 : Int) ≤ (j : Int) := by omega
    clear B1
    go_wp2_with fail
    have hZ : BlockIs (((((((w2.setCell ⟨w.heap.size, 0, none⟩ (.int .i64 t.id)).setCell ⟨w.heap.size, 1, none⟩ (.int .i64 t.prio)).setCell ⟨w.heap.size, 2, none⟩ (.int .i64 t.need.c)).setCell ⟨w.heap.size, 3, none⟩ (.int .i64 t.need.m)).setCell ⟨w.heap.size, 4, none⟩ (.int .i64 t.need.p)).setCell ⟨w.heap.size, 5, none⟩ (.slice A1 t.want.length c1)).setCell ⟨w.heap.size, 6, none⟩ (.slice A2 t.tols.length c2)) w.heap.size 46 #[.int .i64 t.id, .int .i64 t.prio, .int .i64 t.need.c, .int .i64 t.need.m, .int .i64 t.need.p, .slice A1 t.want.length c1, .slice A2 t.tols.length c2] := put7 _ _ _ _ _ _ _ HB1.out rfl
    have hX : Below w.heap.size w (((((((w2.setCell ⟨w.heap.size, 0, none⟩ (.int .i64 t.id)).setCell ⟨w.heap.size, 1, none⟩ (.int .i64 t.prio)).setCell ⟨w.heap.size, 2, none⟩ (.int .i64 t.need.c)).setCell ⟨w.heap.size, 3, none⟩ (.int .i64 t.need.m)).setCell ⟨w.heap.size, 4, none⟩ (.int .i64 t.need.p)).setCell ⟨w.heap.size, 5, none⟩ (.slice A1 t.want.length c1)).setCell ⟨w.heap.size, 6, none⟩ (.slice A2 t.tols.length c2)) := below7 hC2 (Nat.le_refl _)
    generalize (((((((w2.setCell ⟨w.heap.size, 0, none⟩ (.int .i64 t.id)).setCell ⟨w.heap.size, 1, none⟩ (.int .i64 t.prio)).setCell ⟨w.heap.size, 2, none⟩ (.int .i64 t.need.c)).setCell ⟨w.heap.size, 3, none⟩ (.int .i64 t.need.m)).setCell ⟨w.heap.size, 4, none⟩ (.int .i64 t.need.p)).setCell ⟨w.heap.size, 5, none⟩ (.slice A1 t.want.length c1)).setCell ⟨w.heap.size, 6, none⟩ (.slice A2 t.tols.length c2)) = X at hZ hX ⊢
    have z0 := hZ.cell 0; have z1 := hZ.cell 1; have z2 := hZ.cell 2; have z3 := hZ.cell 3; have z4 := hZ.cell 4; have z5 := hZ.cell 5; have z6 := hZ.cell 6
    simp at z0 z1 z2 z3 z4 z5 z6
    exact bodyPost_ret (v := .tuple #[.agg #[.int .i64 t.id, .int .i64 t.prio, .int .i64 t.need.c, .int .i64 t.need.m, .int .i64 t.need.p, .slice A1 t.want.length c1, .slice A2 t.tols.length c2], .bool true]) (by simp [results, Tryz.results136, go_sem, z0, z1, z2, z3, z4, z5, z6]) rfl ⟨_, rfl, HR.out, hX⟩
set_option maxHeartbeats 800000 in
theorem isNode_any (t : NV) (cs : List Value) (B : Nat) (z : Int) (w : World) (ok : Bool) (hR : NodeR w t cs) (hz : w.cell? ⟨B, 0, none⟩ = some (.int .i64 z)) (hok : decide (t.id = z) = ok) :
    Calls Tryz.prog 152 #[.agg cs.toArray, .pointer (some ⟨B, 0, none⟩)] w fun e w' => e = .returned (.bool ok) ∧ Below w.heap.size w w' := by
  obtain ⟨v1, v2, rfl, sl, si, m1, m2⟩ := hR; obtain ⟨A1, c1, rfl, _⟩ := sl.form; obtain ⟨A2, c2, rfl, _⟩ := si.form
  clear sl si m1 m2
  have hB := World.block_lt_of_cell? _ _ hz
  simp only at hB
  have HE := Lib.hid (show (t.id == z) = ok by rw [← hok]; rfl)
  clear hok
  go_enter Tryz.func152, Tryz.ntmps152
  go_wp2_with fail
  go_ret
  exact ⟨by rw [HE.out]; simp, (by repeat' (first | exact Below.refl _ _ | refine Below.alloc ?_ ?_ _ | refine Below.setCell ?_ ?_ _ | refine Below.drew ?_ | (apply below_step; assumption) | (simp; done) | (simp; omega) | omega))⟩

set_option maxHeartbeats 1600000 in
theorem indexNode_any (B : Nat) (z : Int) (v : Value) (l : List NV) (w : World) (hv : NodeSl w v l) (hlen : l.length ≤ 1048576) (hz : w.cell? ⟨B, 0, none⟩ = some (.int .i64 z)) :
    Calls Tryz.prog 156 #[v, .func (.func 152) #[] #[.pointer (some ⟨B, 0, none⟩)]] w fun e w' => e = .returned (.int .i64 (idxBy NV.id l z)) ∧ Below w.heap.size w w' := by
  obtain ⟨A, c, rfl, hA⟩ := hv.form
  have HA := Lib.hid hA
  have hB := World.block_lt_of_cell? _ _ hz
  simp only at hB
  have HZ := Lib.hid hz
  clear hA hv hz
  go_enter Tryz.func156, Tryz.ntmps156
  go_wp2_with fail
  go_loopw [8] (fun s8 wr => ∃ k : Nat, k ≤ l.length ∧ s8 = .int .i64 k ∧ idxBy NV.id l z = idxGo NV.id k (l.drop k) z ∧ Below w.heap.size w wr) (fun s8 _ => (l.length - intOf s8).toNat)
  case atStart => exact ⟨0, by omega, rfl, by simp [idxBy], Below.refl _ _⟩
  case round =>
    obtain ⟨k, hk, rfl, hidx, hBr⟩ := hrel
    have HI := Lib.hid hidx
    have hzr := hBr.size
    have HZR := Lib.hid ((hBr.cell (p := ⟨B, 0, none⟩) hB).trans HZ.out)
    clear hidx
    by_cases hlt : k < l.length
    · obtain ⟨b, off, rfl, hbw, hat⟩ := HA.out (by omega)
      obtain ⟨t, ht⟩ : ∃ t, l[k]? = some t := ⟨_, List.getElem?_eq_getElem hlt⟩
      obtain ⟨cs, hR, hC⟩ := (hat.below NodeR.kept hBr hbw) k t ht
      have HR := Lib.hid hR
      have HD := Lib.hid (drop_at ht)
      obtain ⟨v1, v2, rfl, sl, si, m1, m2⟩ := hR; obtain ⟨A1, c1, rfl, _⟩ := sl.form; obtain ⟨A2, c2, rfl, _⟩ := si.form
      clear sl si m1 m2
      obtain ⟨q0, q1, q2, q3, q4, q5, q6, q7⟩ := node_cells hC
      clear hat hC ht
      by_cases e : t.id = z
      · have HE := Lib.hid e
        clear e
        go_wp2_with fail
        refine (isNode_any t _ B z _ true HR.out HZR.out (by simpa using HE.out)).mono ?_
        rintro e w2 ⟨rfl, hb2⟩
        go_wp2_with fail
        go_ret
        refine ⟨?_, (by repeat' (first | exact Below.refl _ _ | refine Below.alloc ?_ ?_ _ | refine Below.setCell ?_ ?_ _ | refine Below.drew ?_ | (apply below_step; assumption) | (simp; done) | (simp; omega) | omega))⟩
        rw [HI.out, HD.out, idxGo_hit HE.out]; rfl
      · have HE := Lib.hid e
        clear e
        go_wp2_with fail
        refine (isNode_any t _ B z _ false HR.out HZR.out (by simpa using HE.out)).mono ?_
        rintro e w2 ⟨rfl, hb2⟩
        go_wp2_with fail
        go_roundw
        case rel => exact ⟨k + 1, by omega, by go_num, by rw [HI.out, HD.out, idxGo_miss HE.out]; simp, (by repeat' (first | exact Below.refl _ _ | refine Below.alloc ?_ ?_ _ | refine Below.setCell ?_ ?_ _ | refine Below.drew ?_ | (apply below_step; assumption) | (simp; done) | (simp; omega) | omega))⟩
        case measure => simp [intOf]; omega
    · have hkl : k = l.length := by omega
      have HF := Lib.hid (show idxBy NV.id l z = -1 by rw [HI.out, hkl, List.drop_length]; rfl)
      clear hkl
      go_wp2_with fail
      go_ret
      exact ⟨by rw [HF.out]; rfl, hBr⟩

set_option maxHeartbeats 1600000 in
theorem findGNode_any (B : Nat) (z : Int) (v : Value) (l : List NV) (w0 w : World) (hw : Below w0.heap.size w0 w) (hv : NodeSl w0 v l) (hlen : l.length ≤ 1048576) (hz : w.cell? ⟨B, 0, none⟩ = some (.int .i64 z)) :
    Calls Tryz.prog 151 #[v, .func (.func 152) #[] #[.pointer (some ⟨B, 0, none⟩)]] w (RetFNode w0 w (fstBy NV.id l z)) := by
  have hv' := hv.below hw
  obtain ⟨A, c, rfl, hA⟩ := hv.form
  have hB := World.block_lt_of_cell? _ _ hz
  simp only at hB
  have HV := Lib.hid hv'
  have HZ := Lib.hid hz
  have HW := Lib.hid hw
  have hi := fun w hv hz => indexNode_any B z (.slice A l.length c) l w hv hlen hz
  cases hf : fstBy NV.id l z with
  | none =>
    rw [idxBy_none hf] at hi
    have HI := Lib.hid hi
    clear hi hf hv hv' hw hz hA
    go_enter Tryz.func151, Tryz.ntmps151
    go_wp2_with fail
    refine (HI.out _ (HV.out.below (by repeat' (first | exact Below.refl _ _ | refine Below.alloc ?_ ?_ _ | refine Below.setCell ?_ ?_ _ | refine Below.drew ?_ | (apply below_step; assumption) | (simp; done) | (simp; omega) | omega))) ((World.cell?_alloc_lt _ _ _ hB).trans HZ.out)).mono ?_
    rintro e w2 ⟨rfl, hb2⟩
    have hz2 := hb2.size
    simp at hz2
    have B1 : BlockIs w2 w.heap.size 60 #[.int .i64 0, .int .i64 0, .int .i64 0, .int .i64 0, .int .i64 0, .slice none 0 0, .slice none 0 0, .bool false] := (BlockIs.new w _ _).below hb2 (by simp)
    have hC2 : Below w.heap.size w w2 := (by repeat' (first | exact Below.refl _ _ | refine Below.alloc ?_ ?_ _ | refine Below.setCell ?_ ?_ _ | refine Below.drew ?_ | (apply below_step; assumption) | (simp; done) | (simp; omega) | omega))
    have d0 := B1.cell 0; have d1 := B1.cell 1; have d2 := B1.cell 2; have d3 := B1.cell 3; have d4 := B1.cell 4; have d5 := B1.cell 5; have d6 := B1.cell 6; have d7 := B1.cell 7
    have f1 := B1.frozen
    simp at d0 d1 d2 d3 d4 d5 d6 d7
    have HB1 := Lib.hid B1
    have hl2 : w.heap.size < w2.heap.size := by omega
    clear B1
    go_wp2_with fail
    have hZ : BlockIs (World.alloc ((((((((w2.setCell ⟨w.heap.size, 0, none⟩ (.int .i64 0)).setCell ⟨w.heap.size, 1, none⟩ (.int .i64 0)).setCell ⟨w.heap.size, 2, none⟩ (.int .i64 0)).setCell ⟨w.heap.size, 3, none⟩ (.int .i64 0)).setCell ⟨w.heap.size, 4, none⟩ (.int .i64 0)).setCell ⟨w.heap.size, 5, none⟩ (.slice none 0 0)).setCell ⟨w.heap.size, 6, none⟩ (.slice none 0 0)).setCell ⟨w.heap.size, 7, none⟩ (.bool false)) (.cells #[.int .i64 0, .int .i64 0, .int .i64 0, .int .i64 0, .int .i64 0, .slice none 0 0, .slice none 0 0, .bool false] 60)) w.heap.size 60 #[.int .i64 0, .int .i64 0, .int .i64 0, .int .i64 0, .int .i64 0, .slice none 0 0, .slice none 0 0, .bool false] := (put8 _ _ _ _ _ _ _ _ HB1.out rfl).alloc _
    have hX : Below w.heap.size w (World.alloc ((((((((w2.setCell ⟨w.heap.size, 0, none⟩ (.int .i64 0)).setCell ⟨w.heap.size, 1, none⟩ (.int .i64 0)).setCell ⟨w.heap.size, 2, none⟩ (.int .i64 0)).setCell ⟨w.heap.size, 3, none⟩ (.int .i64 0)).setCell ⟨w.heap.size, 4, none⟩ (.int .i64 0)).setCell ⟨w.heap.size, 5, none⟩ (.slice none 0 0)).setCell ⟨w.heap.size, 6, none⟩ (.slice none 0 0)).setCell ⟨w.heap.size, 7, none⟩ (.bool false)) (.cells #[.int .i64 0, .int .i64 0, .int .i64 0, .int .i64 0, .int .i64 0, .slice none 0 0, .slice none 0 0, .bool false] 60)) := (below8 hC2 (Nat.le_refl _)).alloc (by simp [World.setCell]; omega) _
    generalize (World.alloc ((((((((w2.setCell ⟨w.heap.size, 0, none⟩ (.int .i64 0)).setCell ⟨w.heap.size, 1, none⟩ (.int .i64 0)).setCell ⟨w.heap.size, 2, none⟩ (.int .i64 0)).setCell ⟨w.heap.size, 3, none⟩ (.int .i64 0)).setCell ⟨w.heap.size, 4, none⟩ (.int .i64 0)).setCell ⟨w.heap.size, 5, none⟩ (.slice none 0 0)).setCell ⟨w.heap.size, 6, none⟩ (.slice none 0 0)).setCell ⟨w.heap.size, 7, none⟩ (.bool false)) (.cells #[.int .i64 0, .int .i64 0, .int .i64 0, .int .i64 0, .int .i64 0, .slice none 0 0, .slice none 0 0, .bool false] 60)) = X at hZ hX ⊢
    have z0 := hZ.cell 0; have z1 := hZ.cell 1; have z2 := hZ.cell 2; have z3 := hZ.cell 3; have z4 := hZ.cell 4; have z5 := hZ.cell 5; have z6 := hZ.cell 6; have z7 := hZ.cell 7
    simp at z0 z1 z2 z3 z4 z5 z6 z7
    exact bodyPost_ret (v := .tuple #[.agg #[.int .i64 0, .int .i64 0, .int .i64 0, .int .i64 0, .int .i64 0, .slice none 0 0, .slice none 0 0, .bool false], .bool false]) (by simp [results, Tryz.results151, go_sem, z0, z1, z2, z3, z4, z5, z6, z7]) rfl ⟨_, rfl, NodeR.zero _, hX⟩
  | some t =>
    obtain ⟨j, hj, hjt, hkz, hmn⟩ := idxBy_some hf
    clear hkz hmn
    rw [hj] at hi
    have HI := Lib.hid hi
    have hjl : j < l.length := (List.getElem?_eq_some_iff.1 hjt).1
    obtain ⟨b, off, rfl, hbw, hat⟩ := hA (by omega)
    obtain ⟨cs, hR, hC⟩ := hat j t hjt
    have HR := Lib.hid hR
    have HC := Lib.hid hC
    have hbw' : b < w.heap.size := Nat.lt_of_lt_of_le hbw hw.size
    have HC' := Lib.hid (hC.below hw hbw)
    clear hi hf hv hv' hw hz hj hjt hat hC hA
    obtain ⟨v1, v2, rfl, sl, si, m1, m2⟩ := hR; obtain ⟨A1, c1, rfl, _⟩ := sl.form; obtain ⟨A2, c2, rfl, _⟩ := si.form
    clear sl si m1 m2
    go_enter Tryz.func151, Tryz.ntmps151
    go_wp2_with fail
    refine (HI.out _ (HV.out.below (by repeat' (first | exact Below.refl _ _ | refine Below.alloc ?_ ?_ _ | refine Below.setCell ?_ ?_ _ | refine Below.drew ?_ | (apply below_step; assumption) | (simp; done) | (simp; omega) | omega))) ((World.cell?_alloc_lt _ _ _ hB).trans HZ.out)).mono ?_
    rintro e w2 ⟨rfl, hb2⟩
    have hz2 := hb2.size
    simp at hz2
    have B1 : BlockIs w2 w.heap.size 60 #[.int .i64 0, .int .i64 0, .int .i64 0, .int .i64 0, .int .i64 0, .slice none 0 0, .slice none 0 0, .bool false] := (BlockIs.new w _ _).below hb2 (by simp)
    have hC2 : Below w.heap.size w w2 := (by repeat' (first | exact Below.refl _ _ | refine Below.alloc ?_ ?_ _ | refine Below.setCell ?_ ?_ _ | refine Below.drew ?_ | (apply below_step; assumption) | (simp; done) | (simp; omega) | omega))
    obtain ⟨q0, q1, q2, q3, q4, q5, q6, q7⟩ := node_cells (HC'.out.below hC2 hbw')
    have d0 := B1.cell 0; have d1 := B1.cell 1; have d2 := B1.cell 2; have d3 := B1.cell 3; have d4 := B1.cell 4; have d5 := B1.cell 5; have d6 := B1.cell 6; have d7 := B1.cell 7
    have f1 := B1.frozen
    simp at d0 d1 d2 d3 d4 d5 d6 d7
    have HB1 := Lib.hid B1
    have hji : (j : Int) < (l.length : Int) := by omega
    have hj0 : (0 : Int) ≤ (j : Int) := by omega
    clear B1
    go_wp2_with fail
    have hZ : BlockIs ((((((((w2.setCell ⟨w.heap.size, 0, none⟩ (.int .i64 t.id)).setCell ⟨w.heap.size, 1, none⟩ (.int .i64 t.pool)).setCell ⟨w.heap.size, 2, none⟩ (.int .i64 t.cap.c)).setCell ⟨w.heap.size, 3, none⟩ (.int .i64 t.cap.m)).setCell ⟨w.heap.size, 4, none⟩ (.int .i64 t.cap.p)).setCell ⟨w.heap.size, 5, none⟩ (.slice A1 t.labs.length c1)).setCell ⟨w.heap.size, 6, none⟩ (.slice A2 t.taints.length c2)).setCell ⟨w.heap.size, 7, none⟩ (.bool t.cordon)) w.heap.size 60 #[.int .i64 t.id, .int .i64 t.pool, .int .i64 t.cap.c, .int .i64 t.cap.m, .int .i64 t.cap.p, .slice A1 t.labs.length c1, .slice A2 t.taints.length c2, .bool t.cordon] := put8 _ _ _ _ _ _ _ _ HB1.out rfl
    have hX : Below w.heap.size w ((((((((w2.setCell ⟨w.heap.size, 0, none⟩ (.int .i64 t.id)).setCell ⟨w.heap.size, 1, none⟩ (.int .i64 t.pool)).setCell ⟨w.heap.size, 2, none⟩ (.int .i64 t.cap.c)).setCell ⟨w.heap.size, 3, none⟩ (.int .i64 t.cap.m)).setCell ⟨w.heap.size, 4, none⟩ (.int .i64 t.cap.p)).setCell ⟨w.heap.size, 5, none⟩ (.slice A1 t.labs.length c1)).setCell ⟨w.heap.size, 6, none⟩ (.slice A2 t.taints.length c2)).setCell ⟨w.heap.size, 7, none⟩ (.bool t.cordon)) := below8 hC2 (Nat.le_refl _)
    generalize ((((((((w2.setCell ⟨w.heap.size, 0, none⟩ (.int .i64 t.id)).setCell ⟨w.heap.size, 1, none⟩ (.int .i64 t.pool)).setCell ⟨w.heap.size, 2, none⟩ (.int .i64 t.cap.c)).setCell ⟨w.heap.size, 3, none⟩ (.int .i64 t.cap.m)).setCell ⟨w.heap.size, 4, none⟩ (.int .i64 t.cap.p)).setCell ⟨w.heap.size, 5, none⟩ (.slice A1 t.labs.length c1)).setCell ⟨w.heap.size, 6, none⟩ (.slice A2 t.taints.length c2)).setCell ⟨w.heap.size, 7, none⟩ (.bool t.cordon)) = X at hZ hX ⊢
    have z0 := hZ.cell 0; have z1 := hZ.cell 1; have z2 := hZ.cell 2; have z3 := hZ.cell 3; have z4 := hZ.cell 4; have z5 := hZ.cell 5; have z6 := hZ.cell 6; have z7 := hZ.cell 7
    simp at z0 z1 z2 z3 z4 z5 z6 z7
    exact bodyPost_ret (v := .tuple #[.agg #[.int .i64 t.id, .int .i64 t.pool, .int .i64 t.cap.c, .int .i64 t.cap.m, .int .i64 t.cap.p, .slice A1 t.labs.length c1, .slice A2 t.taints.length c2, .bool t.cordon], .bool true]) (by simp [results, Tryz.results151, go_sem, z0, z1, z2, z3, z4, z5, z6, z7]) rfl ⟨_, rfl, HR.out, hX⟩
set_option maxHeartbeats 800000 in
theorem isBind_any (t : BV) (cs : List Value) (B : Nat) (z : Int) (w : World) (ok : Bool) (hR : BindR w t cs) (hz : w.cell? ⟨B, 0, none⟩ = some (.int .i64 z)) (hok : decide (t.task = z) = ok) :
    Calls Tryz.prog 163 #[.agg cs.toArray, .pointer (some ⟨B, 0, none⟩)] w fun e w' => e = .returned (.bool ok) ∧ Below w.heap.size w w' := by
  obtain rfl := hR
  skip
  have hB := World.block_lt_of_cell? _ _ hz
  simp only at hB
  have HE := Lib.hid (show (t.task == z) = ok by rw [← hok]; rfl)
  clear hok
  go_enter Tryz.func163, Tryz.ntmps163
  go_wp2_with fail
  go_ret
  exact ⟨by rw [HE.out]; simp, (by repeat' (first | exact Below.refl _ _ | refine Below.alloc ?_ ?_ _ | refine Below.setCell ?_ ?_ _ | refine Below.drew ?_ | (apply below_step; assumption) | (simp; done) | (simp; omega) | omega))⟩

set_option maxHeartbeats 1600000 in
theorem indexBind_any (B : Nat) (z : Int) (v : Value) (l : List BV) (w : World) (hv : BindSl w v l) (hlen : l.length ≤ 1048576) (hz : w.cell? ⟨B, 0, none⟩ = some (.int .i64 z)) :
    Calls Tryz.prog 150 #[v, .func (.func 163) #[] #[.pointer (some ⟨B, 0, none⟩)]] w fun e w' => e = .returned (.int .i64 (idxBy BV.task l z)) ∧ Below w.heap.size w w' := by
  obtain ⟨A, c, rfl, hA⟩ := hv.form
  have HA := Lib.hid hA
  have hB := World.block_lt_of_cell? _ _ hz
  simp only at hB
  have HZ := Lib.hid hz
  clear hA hv hz
  go_enter Tryz.func150, Tryz.ntmps150
  go_wp2_with fail
  go_loopw [8] (fun s8 wr => ∃ k : Nat, k ≤ l.length ∧ s8 = .int .i64 k ∧ idxBy BV.task l z = idxGo BV.task k (l.drop k) z ∧ Below w.heap.size w wr) (fun s8 _ => (l.length - intOf s8).toNat)
  case atStart => exact ⟨0, by omega, rfl, by simp [idxBy], Below.refl _ _⟩
  case round =>
    obtain ⟨k, hk, rfl, hidx, hBr⟩ := hrel
    have HI := Lib.hid hidx
    have hzr := hBr.size
    have HZR := Lib.hid ((hBr.cell (p := ⟨B, 0, none⟩) hB).trans HZ.out)
    clear hidx
    by_cases hlt : k < l.length
    · obtain ⟨b, off, rfl, hbw, hat⟩ := HA.out (by omega)
      obtain ⟨t, ht⟩ : ∃ t, l[k]? = some t := ⟨_, List.getElem?_eq_getElem hlt⟩
      obtain ⟨cs, hR, hC⟩ := (hat.below BindR.kept hBr hbw) k t ht
      have HR := Lib.hid hR
      have HD := Lib.hid (drop_at ht)
      obtain rfl := hR
      skip
      obtain ⟨q0, q1⟩ := bind_cells hC
      clear hat hC ht
      by_cases e : t.task = z
      · have HE := Lib.hid e
        clear e
        go_wp2_with fail
        refine (isBind_any t _ B z _ true HR.out HZR.out (by simpa using HE.out)).mono ?_
        rintro e w2 ⟨rfl, hb2⟩
        go_wp2_with fail
        go_ret
        refine ⟨?_, (by repeat' (first | exact Below.refl _ _ | refine Below.alloc ?_ ?_ _ | refine Below.setCell ?_ ?_ _ | refine Below.drew ?_ | (apply below_step; assumption) | (simp; done) | (simp; omega) | omega))⟩
        rw [HI.out, HD.out, idxGo_hit HE.out]; rfl
      · have HE := Lib.hid e
        clear e
        go_wp2_with fail
        refine (isBind_any t _ B z _ false HR.out HZR.out (by simpa using HE.out)).mono ?_
        rintro e w2 ⟨rfl, hb2⟩
        go_wp2_with fail
        go_roundw
        case rel => exact ⟨k + 1, by omega, by go_num, by rw [HI.out, HD.out, idxGo_miss HE.out]; simp, (by repeat' (first | exact Below.refl _ _ | refine Below.alloc ?_ ?_ _ | refine Below.setCell ?_ ?_ _ | refine Below.drew ?_ | (apply below_step; assumption) | (simp; done) | (simp; omega) | omega))⟩
        case measure => simp [intOf]; omega
    · have hkl : k = l.length := by omega
      have HF := Lib.hid (show idxBy BV.task l z = -1 by rw [HI.out, hkl, List.drop_length]; rfl)
      clear hkl
      go_wp2_with fail
      go_ret
      exact ⟨by rw [HF.out]; rfl, hBr⟩

set_option maxHeartbeats 1600000 in
theorem findGBind_any (B : Nat) (z : Int) (v : Value) (l : List BV) (w0 w : World) (hw : Below w0.heap.size w0 w) (hv : BindSl w0 v l) (hlen : l.length ≤ 1048576) (hz : w.cell? ⟨B, 0, none⟩ = some (.int .i64 z)) :
    Calls Tryz.prog 162 #[v, .func (.func 163) #[] #[.pointer (some ⟨B, 0, none⟩)]] w (RetFBind w0 w (fstBy BV.task l z)) := by
  have hv' := hv.below hw
  obtain ⟨A, c, rfl, hA⟩ := hv.form
  have hB := World.block_lt_of_cell? _ _ hz
  simp only at hB
  have HV := Lib.hid hv'
  have HZ := Lib.hid hz
  have HW := Lib.hid hw
  have hi := fun w hv hz => indexBind_any B z (.slice A l.length c) l w hv hlen hz
  cases hf : fstBy BV.task l z with
  | none =>
    rw [idxBy_none hf] at hi
    have HI := Lib.hid hi
    clear hi hf hv hv' hw hz hA
    go_enter Tryz.func162, Tryz.ntmps162
    go_wp2_with fail
    refine (HI.out _ (HV.out.below (by repeat' (first | exact Below.refl _ _ | refine Below.alloc ?_ ?_ _ | refine Below.setCell ?_ ?_ _ | refine Below.drew ?_ | (apply below_step; assumption) | (simp; done) | (simp; omega) | omega))) ((World.cell?_alloc_lt _ _ _ hB).trans HZ.out)).mono ?_
    rintro e w2 ⟨rfl, hb2⟩
    have hz2 := hb2.size
    simp at hz2
    have B1 : BlockIs w2 w.heap.size 70 #[.int .i64 0, .int .i64 0] := (BlockIs.new w _ _).below hb2 (by simp)
    have hC2 : Below w.heap.size w w2 := (by repeat' (first | exact Below.refl _ _ | refine Below.alloc ?_ ?_ _ | refine Below.setCell ?_ ?_ _ | refine Below.drew ?_ | (apply below_step; assumption) | (simp; done) | (simp; omega) | omega))
    have d0 := B1.cell 0; have d1 := B1.cell 1
    have f1 := B1.frozen
    simp at d0 d1
    have HB1 := Lib.hid B1
    have hl2 : w.heap.size < w2.heap.size := by omega
    clear B1
    go_wp2_with fail
    have hZ : BlockIs (World.alloc ((w2.setCell ⟨w.heap.size, 0, none⟩ (.int .i64 0)).setCell ⟨w.heap.size, 1, none⟩ (.int .i64 0)) (.cells #[.int .i64 0, .int .i64 0] 70)) w.heap.size 70 #[.int .i64 0, .int .i64 0] := (put2 _ _ HB1.out rfl).alloc _
    have hX : Below w.heap.size w (World.alloc ((w2.setCell ⟨w.heap.size, 0, none⟩ (.int .i64 0)).setCell ⟨w.heap.size, 1, none⟩ (.int .i64 0)) (.cells #[.int .i64 0, .int .i64 0] 70)) := (below2 hC2 (Nat.le_refl _)).alloc (by simp [World.setCell]; omega) _
    generalize (World.alloc ((w2.setCell ⟨w.heap.size, 0, none⟩ (.int .i64 0)).setCell ⟨w.heap.size, 1, none⟩ (.int .i64 0)) (.cells #[.int .i64 0, .int .i64 0] 70)) = X at hZ hX ⊢
    have z0 := hZ.cell 0; have z1 := hZ.cell 1
    simp at z0 z1
    exact bodyPost_ret (v := .tuple #[.agg #[.int .i64 0, .int .i64 0], .bool false]) (by simp [results, Tryz.results162, go_sem, z0, z1]) rfl ⟨_, rfl, BindR.zero _, hX⟩
  | some t =>
    obtain ⟨j, hj, hjt, hkz, hmn⟩ := idxBy_some hf
    clear hkz hmn
    rw [hj] at hi
    have HI := Lib.hid hi
    have hjl : j < l.length := (List.getElem?_eq_some_iff.1 hjt).1
    obtain ⟨b, off, rfl, hbw, hat⟩ := hA (by omega)
    obtain ⟨cs, hR, hC⟩ := hat j t hjt
    have HR := Lib.hid hR
    have HC := Lib.hid hC
    have hbw' : b < w.heap.size := Nat.lt_of_lt_of_le hbw hw.size
    have HC' := Lib.hid (hC.below hw hbw)
    clear hi hf hv hv' hw hz hj hjt hat hC hA
    obtain rfl := hR
    skip
    go_enter Tryz.func162, Tryz.ntmps162
    go_wp2_with fail
    refine (HI.out _ (HV.out.below (by repeat' (first | exact Below.refl _ _ | refine Below.alloc ?_ ?_ _ | refine Below.setCell ?_ ?_ _ | refine Below.drew ?_ | (apply below_step; assumption) | (simp; done) | (simp; omega) | omega))) ((World.cell?_alloc_lt _ _ _ hB).trans HZ.out)).mono ?_
    rintro e w2 ⟨rfl, hb2⟩
    have hz2 := hb2.size
    simp at hz2
    have B1 : BlockIs w2 w.heap.size 70 #[.int .i64 0, .int .i64 0] := (BlockIs.new w _ _).below hb2 (by simp)
    have hC2 : Below w.heap.size w w2 := (by repeat' (first | exact Below.refl _ _ | refine Below.alloc ?_ ?_ _ | refine Below.setCell ?_ ?_ _ | refine Below.drew ?_ | (apply below_step; assumption) | (simp; done) | (simp; omega) | omega))
    obtain ⟨q0, q1⟩ := bind_cells (HC'.out.below hC2 hbw')
    have d0 := B1.cell 0; have d1 := B1.cell 1
    have f1 := B1.frozen
    simp at d0 d1
    have HB1 := Lib.hid B1
    have hji : (j : Int) < (l.length : Int) := by omega
    have hj0 : (0 : Int) ≤ (j : Int) := by omega
    clear B1
    go_wp2_with fail
    have hZ : BlockIs ((w2.setCell ⟨w.heap.size, 0, none⟩ (.int .i64 t.task)).setCell ⟨w.heap.size, 1, none⟩ (.int .i64 t.node)) w.heap.size 70 #[.int .i64 t.task, .int .i64 t.node] := put2 _ _ HB1.out rfl
    have hX : Below w.heap.size w ((w2.setCell ⟨w.heap.size, 0, none⟩ (.int .i64 t.task)).setCell ⟨w.heap.size, 1, none⟩ (.int .i64 t.node)) := below2 hC2 (Nat.le_refl _)
    generalize ((w2.setCell ⟨w.heap.size, 0, none⟩ (.int .i64 t.task)).setCell ⟨w.heap.size, 1, none⟩ (.int .i64 t.node)) = X at hZ hX ⊢
    have z0 := hZ.cell 0; have z1 := hZ.cell 1
    simp at z0 z1
    exact bodyPost_ret (v := .tuple #[.agg #[.int .i64 t.task, .int .i64 t.node], .bool true]) (by simp [results, Tryz.results162, go_sem, z0, z1]) rfl ⟨_, rfl, HR.out, hX⟩
end Go.Proofs.YtocfgejceoenmaaGreatDoor
namespace Go.Proofs.YtocfgejceoenmaaGreatDoor
open Go.RowKit

/-- Three slices that read as a cluster's lists. -/
def CluR (w : World) (c : CV) (a0 a1 a2 : Value) : Prop := TaskSl w a0 c.tasks ∧ NodeSl w a1 c.nodes ∧ BindSl w a2 c.binds ∧ c.tasks.length ≤ 1048576 ∧ c.nodes.length ≤ 1048576 ∧ c.binds.length ≤ 1048576
theorem CluR.below {w w' : World} {c : CV} {a0 a1 a2 : Value} (h : CluR w c a0 a1 a2) (hb : Below w.heap.size w w') : CluR w' c a0 a1 a2 := by
  obtain ⟨h0, h1, h2, h3⟩ := h
  exact ⟨h0.below hb, h1.below hb, h2.below hb, h3⟩

set_option maxHeartbeats 1600000 in
theorem findTask_any (c : CV) (a0 a1 a2 : Value) (z : Int) (w0 w : World) (hw : Below w0.heap.size w0 w) (hc : CluR w0 c a0 a1 a2) :
    Calls Tryz.prog 98 #[.agg #[a0, a1, a2], .int .i64 z] w (RetFTask w0 w (fstBy TV.id c.tasks z)) := by
  obtain ⟨h0, h1, h2, l0, l1, l2⟩ := hc
  obtain ⟨D0, e0, rfl, r0⟩ := h0.form
  obtain ⟨D1, e1, rfl, r1⟩ := h1.form
  obtain ⟨D2, e2, rfl, r2⟩ := h2.form
  have hf := fun B w1 hw1 hz => findGTask_any B z (.slice D0 c.tasks.length e0) c.tasks w0 w1 hw1 h0 l0 hz
  generalize fstBy TV.id c.tasks z = o at hf ⊢
  have HF := Lib.hid hf
  have HW := Lib.hid hw
  have hmf : ∀ (fn : Fn) (first cap : Array Value) (w : World), (Instr.makeFunc fn first cap).run Tryz.prog w = .ok (.func fn first cap) w := fun _ _ _ _ => rfl
  clear hf hw h0 h1 h2 l0 l1 l2 r0 r1 r2
  go_enter Tryz.func98, Tryz.ntmps98
  go_wp2_with fail
  have hX3 : Below w.heap.size w (((w.alloc (.cells #[.slice D0 c.tasks.length e0, .slice D1 c.nodes.length e1, .slice D2 c.binds.length e2] 39)).alloc (.cells #[.int .i64 z] 3)).alloc (.cells #[.int .i64 0, .int .i64 0, .int .i64 0, .int .i64 0, .int .i64 0, .slice none 0 0, .slice none 0 0] 46)) := (by repeat' (first | exact Below.refl _ _ | refine Below.alloc ?_ ?_ _ | refine Below.setCell ?_ ?_ _ | refine Below.drew ?_ | (apply below_step; assumption) | (simp; done) | (simp; omega) | omega))
  refine (HF.out (w.heap.size + 1) _ (below_of HW.out hX3) ((BlockIs.alloc (BlockIs.new' (g := w.heap.size + 1) (by simp)) _).cell 0)).mono ?_
  rintro e w3 ⟨cs, rfl, hR, hb3⟩
  have hz3 := hb3.size
  simp at hz3
  have hC3 := below_of hX3 hb3
  have B2 : BlockIs w3 (w.heap.size + 1 + 1) 46 #[.int .i64 0, .int .i64 0, .int .i64 0, .int .i64 0, .int .i64 0, .slice none 0 0, .slice none 0 0] := (BlockIs.new' (by simp)).below hb3 (by simp)
  have HR := Lib.hid hR
  generalize hgt : o.getD TV.zero = t at hR HR
  have HG := Lib.hid hgt
  clear hgt
  obtain ⟨v1, v2, rfl, sl, si, m1, m2⟩ := hR; obtain ⟨A1, c1, rfl, _⟩ := sl.form; obtain ⟨A2, c2, rfl, _⟩ := si.form
  clear sl si m1 m2
  have d0 := B2.cell 0; have d1 := B2.cell 1; have d2 := B2.cell 2; have d3 := B2.cell 3; have d4 := B2.cell 4; have d5 := B2.cell 5; have d6 := B2.cell 6
  have f1 := B2.frozen
  simp at d0 d1 d2 d3 d4 d5 d6
  have HB2 := Lib.hid B2
  clear B2 hX3 hb3
  go_wp2_with fail
  have hZ : BlockIs (((((((w3.setCell ⟨w.heap.size + 1 + 1, 0, none⟩ (.int .i64 t.id)).setCell ⟨w.heap.size + 1 + 1, 1, none⟩ (.int .i64 t.prio)).setCell ⟨w.heap.size + 1 + 1, 2, none⟩ (.int .i64 t.need.c)).setCell ⟨w.heap.size + 1 + 1, 3, none⟩ (.int .i64 t.need.m)).setCell ⟨w.heap.size + 1 + 1, 4, none⟩ (.int .i64 t.need.p)).setCell ⟨w.heap.size + 1 + 1, 5, none⟩ (.slice A1 t.want.length c1)).setCell ⟨w.heap.size + 1 + 1, 6, none⟩ (.slice A2 t.tols.length c2)) (w.heap.size + 1 + 1) 46 #[.int .i64 t.id, .int .i64 t.prio, .int .i64 t.need.c, .int .i64 t.need.m, .int .i64 t.need.p, .slice A1 t.want.length c1, .slice A2 t.tols.length c2] := put7 _ _ _ _ _ _ _ HB2.out rfl
  have hX : Below w.heap.size w (((((((w3.setCell ⟨w.heap.size + 1 + 1, 0, none⟩ (.int .i64 t.id)).setCell ⟨w.heap.size + 1 + 1, 1, none⟩ (.int .i64 t.prio)).setCell ⟨w.heap.size + 1 + 1, 2, none⟩ (.int .i64 t.need.c)).setCell ⟨w.heap.size + 1 + 1, 3, none⟩ (.int .i64 t.need.m)).setCell ⟨w.heap.size + 1 + 1, 4, none⟩ (.int .i64 t.need.p)).setCell ⟨w.heap.size + 1 + 1, 5, none⟩ (.slice A1 t.want.length c1)).setCell ⟨w.heap.size + 1 + 1, 6, none⟩ (.slice A2 t.tols.length c2)) := below7 hC3 (by omega)
  generalize (((((((w3.setCell ⟨w.heap.size + 1 + 1, 0, none⟩ (.int .i64 t.id)).setCell ⟨w.heap.size + 1 + 1, 1, none⟩ (.int .i64 t.prio)).setCell ⟨w.heap.size + 1 + 1, 2, none⟩ (.int .i64 t.need.c)).setCell ⟨w.heap.size + 1 + 1, 3, none⟩ (.int .i64 t.need.m)).setCell ⟨w.heap.size + 1 + 1, 4, none⟩ (.int .i64 t.need.p)).setCell ⟨w.heap.size + 1 + 1, 5, none⟩ (.slice A1 t.want.length c1)).setCell ⟨w.heap.size + 1 + 1, 6, none⟩ (.slice A2 t.tols.length c2)) = X at hZ hX ⊢
  have z0 := hZ.cell 0; have z1 := hZ.cell 1; have z2 := hZ.cell 2; have z3 := hZ.cell 3; have z4 := hZ.cell 4; have z5 := hZ.cell 5; have z6 := hZ.cell 6
  simp at z0 z1 z2 z3 z4 z5 z6
  exact bodyPost_ret (v := .tuple #[.agg #[.int .i64 t.id, .int .i64 t.prio, .int .i64 t.need.c, .int .i64 t.need.m, .int .i64 t.need.p, .slice A1 t.want.length c1, .slice A2 t.tols.length c2], .bool o.isSome]) (by simp [results, Tryz.results98, go_sem, z0, z1, z2, z3, z4, z5, z6]) rfl ⟨_, rfl, by rw [HG.out]; exact HR.out, hX⟩
set_option maxHeartbeats 1600000 in
theorem findNode_any (c : CV) (a0 a1 a2 : Value) (z : Int) (w0 w : World) (hw : Below w0.heap.size w0 w) (hc : CluR w0 c a0 a1 a2) :
    Calls Tryz.prog 111 #[.agg #[a0, a1, a2], .int .i64 z] w (RetFNode w0 w (fstBy NV.id c.nodes z)) := by
  obtain ⟨h0, h1, h2, l0, l1, l2⟩ := hc
  obtain ⟨D0, e0, rfl, r0⟩ := h0.form
  obtain ⟨D1, e1, rfl, r1⟩ := h1.form
  obtain ⟨D2, e2, rfl, r2⟩ := h2.form
  have hf := fun B w1 hw1 hz => findGNode_any B z (.slice D1 c.nodes.length e1) c.nodes w0 w1 hw1 h1 l1 hz
  generalize fstBy NV.id c.nodes z = o at hf ⊢
  have HF := Lib.hid hf
  have HW := Lib.hid hw
  have hmf : ∀ (fn : Fn) (first cap : Array Value) (w : World), (Instr.makeFunc fn first cap).run Tryz.prog w = .ok (.func fn first cap) w := fun _ _ _ _ => rfl
  clear hf hw h0 h1 h2 l0 l1 l2 r0 r1 r2
  go_enter Tryz.func111, Tryz.ntmps111
  go_wp2_with fail
  have hX3 : Below w.heap.size w (((w.alloc (.cells #[.slice D0 c.tasks.length e0, .slice D1 c.nodes.length e1, .slice D2 c.binds.length e2] 39)).alloc (.cells #[.int .i64 z] 3)).alloc (.cells #[.int .i64 0, .int .i64 0, .int .i64 0, .int .i64 0, .int .i64 0, .slice none 0 0, .slice none 0 0, .bool false] 60)) := (by repeat' (first | exact Below.refl _ _ | refine Below.alloc ?_ ?_ _ | refine Below.setCell ?_ ?_ _ | refine Below.drew ?_ | (apply below_step; assumption) | (simp; done) | (simp; omega) | omega))
  refine (HF.out (w.heap.size + 1) _ (below_of HW.out hX3) ((BlockIs.alloc (BlockIs.new' (g := w.heap.size + 1) (by simp)) _).cell 0)).mono ?_
  rintro e w3 ⟨cs, rfl, hR, hb3⟩
  have hz3 := hb3.size
  simp at hz3
  have hC3 := below_of hX3 hb3
  have B2 : BlockIs w3 (w.heap.size + 1 + 1) 60 #[.int .i64 0, .int .i64 0, .int .i64 0, .int .i64 0, .int .i64 0, .slice none 0 0, .slice none 0 0, .bool false] := (BlockIs.new' (by simp)).below hb3 (by simp)
  have HR := Lib.hid hR
  generalize hgt : o.getD NV.zero = t at hR HR
  have HG := Lib.hid hgt
  clear hgt
  obtain ⟨v1, v2, rfl, sl, si, m1, m2⟩ := hR; obtain ⟨A1, c1, rfl, _⟩ := sl.form; obtain ⟨A2, c2, rfl, _⟩ := si.form
  clear sl si m1 m2
  have d0 := B2.cell 0; have d1 := B2.cell 1; have d2 := B2.cell 2; have d3 := B2.cell 3; have d4 := B2.cell 4; have d5 := B2.cell 5; have d6 := B2.cell 6; have d7 := B2.cell 7
  have f1 := B2.frozen
  simp at d0 d1 d2 d3 d4 d5 d6 d7
  have HB2 := Lib.hid B2
  clear B2 hX3 hb3
  go_wp2_with fail
  have hZ : BlockIs ((((((((w3.setCell ⟨w.heap.size + 1 + 1, 0, none⟩ (.int .i64 t.id)).setCell ⟨w.heap.size + 1 + 1, 1, none⟩ (.int .i64 t.pool)).setCell ⟨w.heap.size + 1 + 1, 2, none⟩ (.int .i64 t.cap.c)).setCell ⟨w.heap.size + 1 + 1, 3, none⟩ (.int .i64 t.cap.m)).setCell ⟨w.heap.size + 1 + 1, 4, none⟩ (.int .i64 t.cap.p)).setCell ⟨w.heap.size + 1 + 1, 5, none⟩ (.slice A1 t.labs.length c1)).setCell ⟨w.heap.size + 1 + 1, 6, none⟩ (.slice A2 t.taints.length c2)).setCell ⟨w.heap.size + 1 + 1, 7, none⟩ (.bool t.cordon)) (w.heap.size + 1 + 1) 60 #[.int .i64 t.id, .int .i64 t.pool, .int .i64 t.cap.c, .int .i64 t.cap.m, .int .i64 t.cap.p, .slice A1 t.labs.length c1, .slice A2 t.taints.length c2, .bool t.cordon] := put8 _ _ _ _ _ _ _ _ HB2.out rfl
  have hX : Below w.heap.size w ((((((((w3.setCell ⟨w.heap.size + 1 + 1, 0, none⟩ (.int .i64 t.id)).setCell ⟨w.heap.size + 1 + 1, 1, none⟩ (.int .i64 t.pool)).setCell ⟨w.heap.size + 1 + 1, 2, none⟩ (.int .i64 t.cap.c)).setCell ⟨w.heap.size + 1 + 1, 3, none⟩ (.int .i64 t.cap.m)).setCell ⟨w.heap.size + 1 + 1, 4, none⟩ (.int .i64 t.cap.p)).setCell ⟨w.heap.size + 1 + 1, 5, none⟩ (.slice A1 t.labs.length c1)).setCell ⟨w.heap.size + 1 + 1, 6, none⟩ (.slice A2 t.taints.length c2)).setCell ⟨w.heap.size + 1 + 1, 7, none⟩ (.bool t.cordon)) := below8 hC3 (by omega)
  generalize ((((((((w3.setCell ⟨w.heap.size + 1 + 1, 0, none⟩ (.int .i64 t.id)).setCell ⟨w.heap.size + 1 + 1, 1, none⟩ (.int .i64 t.pool)).setCell ⟨w.heap.size + 1 + 1, 2, none⟩ (.int .i64 t.cap.c)).setCell ⟨w.heap.size + 1 + 1, 3, none⟩ (.int .i64 t.cap.m)).setCell ⟨w.heap.size + 1 + 1, 4, none⟩ (.int .i64 t.cap.p)).setCell ⟨w.heap.size + 1 + 1, 5, none⟩ (.slice A1 t.labs.length c1)).setCell ⟨w.heap.size + 1 + 1, 6, none⟩ (.slice A2 t.taints.length c2)).setCell ⟨w.heap.size + 1 + 1, 7, none⟩ (.bool t.cordon)) = X at hZ hX ⊢
  have z0 := hZ.cell 0; have z1 := hZ.cell 1; have z2 := hZ.cell 2; have z3 := hZ.cell 3; have z4 := hZ.cell 4; have z5 := hZ.cell 5; have z6 := hZ.cell 6; have z7 := hZ.cell 7
  simp at z0 z1 z2 z3 z4 z5 z6 z7
  exact bodyPost_ret (v := .tuple #[.agg #[.int .i64 t.id, .int .i64 t.pool, .int .i64 t.cap.c, .int .i64 t.cap.m, .int .i64 t.cap.p, .slice A1 t.labs.length c1, .slice A2 t.taints.length c2, .bool t.cordon], .bool o.isSome]) (by simp [results, Tryz.results111, go_sem, z0, z1, z2, z3, z4, z5, z6, z7]) rfl ⟨_, rfl, by rw [HG.out]; exact HR.out, hX⟩
set_option maxHeartbeats 1600000 in
theorem findBind_any (c : CV) (a0 a1 a2 : Value) (z : Int) (w0 w : World) (hw : Below w0.heap.size w0 w) (hc : CluR w0 c a0 a1 a2) :
    Calls Tryz.prog 124 #[.agg #[a0, a1, a2], .int .i64 z] w (RetFBind w0 w (fstBy BV.task c.binds z)) := by
  obtain ⟨h0, h1, h2, l0, l1, l2⟩ := hc
  obtain ⟨D0, e0, rfl, r0⟩ := h0.form
  obtain ⟨D1, e1, rfl, r1⟩ := h1.form
  obtain ⟨D2, e2, rfl, r2⟩ := h2.form
  have hf := fun B w1 hw1 hz => findGBind_any B z (.slice D2 c.binds.length e2) c.binds w0 w1 hw1 h2 l2 hz
  generalize fstBy BV.task c.binds z = o at hf ⊢
  have HF := Lib.hid hf
  have HW := Lib.hid hw
  have hmf : ∀ (fn : Fn) (first cap : Array Value) (w : World), (Instr.makeFunc fn first cap).run Tryz.prog w = .ok (.func fn first cap) w := fun _ _ _ _ => rfl
  clear hf hw h0 h1 h2 l0 l1 l2 r0 r1 r2
  go_enter Tryz.func124, Tryz.ntmps124
  go_wp2_with fail
  have hX3 : Below w.heap.size w (((w.alloc (.cells #[.slice D0 c.tasks.length e0, .slice D1 c.nodes.length e1, .slice D2 c.binds.length e2] 39)).alloc (.cells #[.int .i64 z] 3)).alloc (.cells #[.int .i64 0, .int .i64 0] 70)) := (by repeat' (first | exact Below.refl _ _ | refine Below.alloc ?_ ?_ _ | refine Below.setCell ?_ ?_ _ | refine Below.drew ?_ | (apply below_step; assumption) | (simp; done) | (simp; omega) | omega))
  refine (HF.out (w.heap.size + 1) _ (below_of HW.out hX3) ((BlockIs.alloc (BlockIs.new' (g := w.heap.size + 1) (by simp)) _).cell 0)).mono ?_
  rintro e w3 ⟨cs, rfl, hR, hb3⟩
  have hz3 := hb3.size
  simp at hz3
  have hC3 := below_of hX3 hb3
  have B2 : BlockIs w3 (w.heap.size + 1 + 1) 70 #[.int .i64 0, .int .i64 0] := (BlockIs.new' (by simp)).below hb3 (by simp)
  have HR := Lib.hid hR
  generalize hgt : o.getD BV.zero = t at hR HR
  have HG := Lib.hid hgt
  clear hgt
  obtain rfl := hR
  skip
  have d0 := B2.cell 0; have d1 := B2.cell 1
  have f1 := B2.frozen
  simp at d0 d1
  have HB2 := Lib.hid B2
  clear B2 hX3 hb3
  go_wp2_with fail
  have hZ : BlockIs ((w3.setCell ⟨w.heap.size + 1 + 1, 0, none⟩ (.int .i64 t.task)).setCell ⟨w.heap.size + 1 + 1, 1, none⟩ (.int .i64 t.node)) (w.heap.size + 1 + 1) 70 #[.int .i64 t.task, .int .i64 t.node] := put2 _ _ HB2.out rfl
  have hX : Below w.heap.size w ((w3.setCell ⟨w.heap.size + 1 + 1, 0, none⟩ (.int .i64 t.task)).setCell ⟨w.heap.size + 1 + 1, 1, none⟩ (.int .i64 t.node)) := below2 hC3 (by omega)
  generalize ((w3.setCell ⟨w.heap.size + 1 + 1, 0, none⟩ (.int .i64 t.task)).setCell ⟨w.heap.size + 1 + 1, 1, none⟩ (.int .i64 t.node)) = X at hZ hX ⊢
  have z0 := hZ.cell 0; have z1 := hZ.cell 1
  simp at z0 z1
  exact bodyPost_ret (v := .tuple #[.agg #[.int .i64 t.task, .int .i64 t.node], .bool o.isSome]) (by simp [results, Tryz.results124, go_sem, z0, z1]) rfl ⟨_, rfl, by rw [HG.out]; exact HR.out, hX⟩
end Go.Proofs.YtocfgejceoenmaaGreatDoor
