/- The contract of the model's ClusterOk. -/
import Derived.Test.YtkaecjjbammphaaGreatDoorCluS
import Derived.Test.YtkaecjjbammphaaGreatDoorMg03
namespace Go.Proofs.YtkaecjjbammphaaGreatDoor

def seenK (l : List TV) (k : Nat) : List Int := ((l.take k).map TV.id).reverse
theorem seenK_zero (l : List TV) : seenK l 0 = [] := by simp [seenK]
theorem seenK_succ {l : List TV} {k : Nat} {t : TV} (h : l[k]? = some t) : seenK l (k + 1) = t.id :: seenK l k := by simp [seenK, take_at h]
theorem seenK_no {l : List TV} {k : Nat} {t : TV} (h : l[k]? = some t) (e : idxBy TV.id l t.id = k) : (seenK l k).contains t.id = false := by
  have h1 := (idxBy_at h).1 e
  cases hc : (seenK l k).contains t.id with
  | false => rfl
  | true =>
    rw [List.contains_iff_mem, seenK, List.mem_reverse, List.mem_map] at hc
    obtain ⟨y, hy, e⟩ := hc
    exact absurd e (h1 y hy)
theorem seenK_yes {l : List TV} {k : Nat} {t : TV} (h : l[k]? = some t) (e : idxBy TV.id l t.id ≠ k) : (seenK l k).contains t.id = true := by
  cases hc : (seenK l k).contains t.id with
  | true => rfl
  | false =>
    refine absurd ((idxBy_at h).2 fun y hy e' => ?_) e
    have : (seenK l k).contains t.id = true := by
      rw [List.contains_iff_mem, seenK, List.mem_reverse, List.mem_map]
      exact ⟨y, hy, e'⟩
    rw [hc] at this; cases this
theorem bindOk_task {c : CV} {b : BV} (h : bindOk c b = true) : ∃ t, fstBy TV.id c.tasks b.task = some t ∧ 0 < b.task := by
  unfold bindOk at h
  split at h
  · rename_i t n h1 h2
    refine ⟨t, h1, ?_⟩
    simp only [canHost, Bool.and_eq_true] at h
    have := TV.ok_id h.1.2
    have := fstBy_key h1
    omega
  · cases h
theorem bindsFrom_all {c : CV} {p : Int} {l : List BV} (h : bindsFrom c p l = true) : ∀ b ∈ l, ∃ t, fstBy TV.id c.tasks b.task = some t := by
  induction l generalizing p with
  | nil => intro b hb; cases hb
  | cons x r ih =>
    simp only [bindsFrom, Bool.and_eq_true] at h
    intro b hb
    rcases List.mem_cons.1 hb with rfl | hb
    · obtain ⟨t, ht, _⟩ := bindOk_task h.1.2; exact ⟨t, ht⟩
    · exact ih h.2 b hb
theorem bindsFrom_first {c : CV} {b : BV} {r : List BV} (h : bindOk c b = true) : bindsFrom c 0 (b :: r) = bindsFrom c b.task r := bindsFrom_yes h (bindOk_task h).choose_spec.2
theorem nodesFrom_first {n : NV} {r : List NV} (h : n.ok = true) : nodesFrom 0 (n :: r) = nodesFrom n.id r := nodesFrom_yes h (by have := NV.ok_id h; omega)
theorem bindOk_none1 {c : CV} {b : BV} (h : fstBy TV.id c.tasks b.task = none) : bindOk c b = false := by simp [bindOk, h]
theorem bindOk_none2 {c : CV} {b : BV} (h : fstBy NV.id c.nodes b.node = none) : bindOk c b = false := by
  unfold bindOk; rw [h]; cases fstBy TV.id c.tasks b.task <;> rfl
theorem bindOk_both {c : CV} {b : BV} {t : TV} {n : NV} (h1 : fstBy TV.id c.tasks b.task = some t) (h2 : fstBy NV.id c.nodes b.node = some n) : bindOk c b = canHost n t := by simp [bindOk, h1, h2]
end Go.Proofs.YtkaecjjbammphaaGreatDoor
namespace Go.Proofs.YtkaecjjbammphaaGreatDoor
open Go.RowKit

structure CluF (w : World) (c : CV) (D0 D1 D2 : Option Addr) (e0 e1 e2 : Nat) : Prop where
  clu : CluR w c (.slice D0 c.tasks.length e0) (.slice D1 c.nodes.length e1) (.slice D2 c.binds.length e2)
  ht : 0 < c.tasks.length → ∃ b off, D0 = some ⟨b, off, none⟩ ∧ b < w.heap.size ∧ SeqAt TaskR 7 w b off c.tasks
  hn : 0 < c.nodes.length → ∃ b off, D1 = some ⟨b, off, none⟩ ∧ b < w.heap.size ∧ SeqAt NodeR 8 w b off c.nodes
  hb : 0 < c.binds.length → ∃ b off, D2 = some ⟨b, off, none⟩ ∧ b < w.heap.size ∧ SeqAt BindR 2 w b off c.binds
  l0 : c.tasks.length ≤ 1048576
  l1 : c.nodes.length ≤ 1048576
  l2 : c.binds.length ≤ 1048576
theorem CluR.full {w : World} {c : CV} {a0 a1 a2 : Value} (h : CluR w c a0 a1 a2) : ∃ D0 D1 D2 e0 e1 e2, a0 = .slice D0 c.tasks.length e0 ∧ a1 = .slice D1 c.nodes.length e1 ∧ a2 = .slice D2 c.binds.length e2 ∧ CluF w c D0 D1 D2 e0 e1 e2 := by
  have hc := h
  obtain ⟨h0, h1, h2, l0, l1, l2⟩ := h
  obtain ⟨D0, e0, rfl, r0⟩ := h0.form
  obtain ⟨D1, e1, rfl, r1⟩ := h1.form
  obtain ⟨D2, e2, rfl, r2⟩ := h2.form
  exact ⟨D0, D1, D2, e0, e1, e2, rfl, rfl, rfl, hc, r0, r1, r2, l0, l1, l2⟩

set_option maxHeartbeats 25600000 in
set_option maxRecDepth 20000 in
theorem sClusterOk_any (c : CV) (a0 a1 a2 : Value) (w : World) (hc : CluR w c a0 a1 a2) :
    Calls Tryz.prog 16 #[.agg #[a0, a1, a2]] w fun e w' => e = .returned (.bool (clusterOk c)) ∧ Below w.heap.size w w' := by
  obtain ⟨D0, D1, D2, e0, e1, e2, rfl, rfl, rfl, hF⟩ := hc.full
  have HF := Lib.hid hF
  have l0 := hF.l0
  have l1 := hF.l1
  have l2 := hF.l2
  clear hc hF
  by_cases h30 : c.tasks.length ≤ 30
  · by_cases h20 : c.nodes.length ≤ 20
    · have HE := Lib.hid (show clusterOk c = (tasksFrom [] c.tasks && nodesFrom 0 c.nodes && bindsFrom c 0 c.binds && fitsAll c c.nodes) by simp [clusterOk, tasksOk, nodesOk, h30, h20])
      have hd30 : decide ((30 : Int) < (c.tasks.length : Int)) = false := by simp; omega
      have hd20 : decide ((20 : Int) < (c.nodes.length : Int)) = false := by simp; omega
      clear h30 h20
      go_enter Tryz.func16, Tryz.ntmps16
      go_wp2_with fail
      go_loopw [3] (fun s3 wr => ∃ k : Nat, k ≤ c.tasks.length ∧ s3 = .int .i64 k ∧ tasksFrom [] c.tasks = tasksFrom (seenK c.tasks k) (c.tasks.drop k) ∧ BlockIs wr w.heap.size 34 #[.slice D0 c.tasks.length e0, .slice D1 c.nodes.length e1, .slice D2 c.binds.length e2] ∧ Below w.heap.size w wr) (fun s3 _ => (c.tasks.length - intOf s3).toNat)
      case atStart => exact ⟨0, by omega, rfl, by simp [seenK_zero], BlockIs.new _ _ _, (by repeat' (first | exact Below.refl _ _ | refine Below.alloc ?_ ?_ _ | refine Below.setCell ?_ ?_ _ | refine Below.drew ?_ | (apply below_step; assumption) | (simp; done) | (simp; omega) | omega))⟩
      case round =>
        obtain ⟨k, hk, rfl, hts, hblk, hB⟩ := hrel
        have HTS := Lib.hid hts
        have HBK := Lib.hid hblk
        have hzr := hB.size
        have gc := hblk.cell
        have gl := hblk.lt
        have g0 := gc 0
        simp at g0
        clear hts hblk
        by_cases hlt : k < c.tasks.length
        · obtain ⟨bt, ot, rfl, hbw, hat⟩ := HF.out.ht (by omega)
          obtain ⟨t, ht⟩ : ∃ t, c.tasks[k]? = some t := ⟨_, List.getElem?_eq_getElem hlt⟩
          obtain ⟨cs, hR, hC⟩ := (hat.below TaskR.kept hB hbw) k t ht
          have HD := Lib.hid (drop_at ht)
          have HTK := Lib.hid ht
          obtain ⟨v1, v2, rfl, sl, si, m1, m2⟩ := hR
          obtain ⟨A1, c1, rfl, _⟩ := sl.form
          obtain ⟨A2, c2, rfl, _⟩ := si.form
          obtain ⟨q0, q1, q2, q3, q4, q5, q6⟩ := task_cells hC
          have hki : (k : Int) < (c.tasks.length : Int) := by omega
          have hk0 : (0 : Int) ≤ (k : Int) := by omega
          have hbr : bt < wr.heap.size := by omega
          have hok := fun w h1 h2 => sTaskOk_any t (.slice A1 t.want.length c1) (.slice A2 t.tols.length c2) w h1 h2 m1 m2
          have hix := fun w1 hw1 => sTask_any c _ _ _ t.id w w1 hw1 HF.out.clu
          have SL := Lib.hid sl
          have SI := Lib.hid si
          have HK := Lib.hid (show ∀ w', Below wr.heap.size wr w' → Below wr.heap.size wr w' ∧ (∀ o, w'.cell? ⟨w.heap.size, o, none⟩ = (#[.slice (some ⟨bt, ot, none⟩) c.tasks.length e0, .slice D1 c.nodes.length e1, .slice D2 c.binds.length e2] : Array Value)[o]?) ∧ w'.cell? ⟨bt, ot + k * 7, none⟩ = some (.int .i64 t.id) ∧ w'.cell? ⟨bt, ot + k * 7 + 1, none⟩ = some (.int .i64 t.prio) ∧ w'.cell? ⟨bt, ot + k * 7 + 2, none⟩ = some (.int .i64 t.need.c) ∧ w'.cell? ⟨bt, ot + k * 7 + 3, none⟩ = some (.int .i64 t.need.m) ∧ w'.cell? ⟨bt, ot + k * 7 + 4, none⟩ = some (.int .i64 t.need.p) ∧ w'.cell? ⟨bt, ot + k * 7 + 5, none⟩ = some (.slice A1 t.want.length c1) ∧ w'.cell? ⟨bt, ot + k * 7 + 6, none⟩ = some (.slice A2 t.tols.length c2) from
            fun w' hb => ⟨hb, fun o => (hb.cell (p := ⟨_, _, none⟩) gl).trans (gc o), (hb.cell (p := ⟨_, _, none⟩) hbr).trans q0, (hb.cell (p := ⟨_, _, none⟩) hbr).trans q1, (hb.cell (p := ⟨_, _, none⟩) hbr).trans q2, (hb.cell (p := ⟨_, _, none⟩) hbr).trans q3, (hb.cell (p := ⟨_, _, none⟩) hbr).trans q4, (hb.cell (p := ⟨_, _, none⟩) hbr).trans q5, (hb.cell (p := ⟨_, _, none⟩) hbr).trans q6⟩)
          generalize hj : idxBy TV.id c.tasks t.id = j at hix
          have HJ := Lib.hid hj
          have HIX := Lib.hid hix
          cases ho : t.ok
          · rw [ho] at hok
            have HO := Lib.hid ho
            have HOK := Lib.hid hok
            clear ho hok hix hat hC ht sl si m1 m2 hj
            go_wp2_with fail
            refine wp_region_held_drew (S := (fun w' => Below wr.heap.size wr w' ∧ (∀ o, w'.cell? ⟨w.heap.size, o, none⟩ = (#[.slice (some ⟨bt, ot, none⟩) c.tasks.length e0, .slice D1 c.nodes.length e1, .slice D2 c.binds.length e2] : Array Value)[o]?) ∧ w'.cell? ⟨bt, ot + k * 7, none⟩ = some (.int .i64 t.id) ∧ w'.cell? ⟨bt, ot + k * 7 + 1, none⟩ = some (.int .i64 t.prio) ∧ w'.cell? ⟨bt, ot + k * 7 + 2, none⟩ = some (.int .i64 t.need.c) ∧ w'.cell? ⟨bt, ot + k * 7 + 3, none⟩ = some (.int .i64 t.need.m) ∧ w'.cell? ⟨bt, ot + k * 7 + 4, none⟩ = some (.int .i64 t.need.p) ∧ w'.cell? ⟨bt, ot + k * 7 + 5, none⟩ = some (.slice A1 t.want.length c1) ∧ w'.cell? ⟨bt, ot + k * 7 + 6, none⟩ = some (.slice A2 t.tols.length c2))) (by kernel_rfl) (by (try dsimp only); exact HK.out _ (by repeat' (first | exact Below.refl _ _ | refine Below.alloc ?_ ?_ _ | refine Below.setCell ?_ ?_ _ | refine Below.drew ?_ | (apply below_step; assumption) | (simp; done) | (simp; omega) | omega))) (fun hHeld => ?_)
            refine hT 0 ?_; simp only [Act.put, rhA, rhS, rhT]
            refine hT 1 ?_; simp only [Act.put, rhA, rhS, rhT]
            refine hT 2 ?_; simp only [Act.put, rhA, rhS, rhT]
            refine hT 3 ?_; simp only [Act.put, rhA, rhS, rhT]
            refine hT 4 ?_; simp only [Act.put, rhA, rhS, rhT]
            refine hCall (i := 5) (o := ?a7) ?b7 (by kernel_rfl) ?c7 (fun K hK => ?d7)
            case b7 => simp only [rhN, rhM]; try rfl
            case c7 => rfl
            go_simp
            refine (HOK.out _ (SL.out.below (by repeat' (first | exact Below.refl _ _ | refine Below.alloc ?_ ?_ _ | refine Below.setCell ?_ ?_ _ | refine Below.drew ?_ | (apply below_step; assumption) | (simp; done) | (simp; omega) | omega))) (SI.out.below (by repeat' (first | exact Below.refl _ _ | refine Below.alloc ?_ ?_ _ | refine Below.setCell ?_ ?_ _ | refine Below.drew ?_ | (apply below_step; assumption) | (simp; done) | (simp; omega) | omega)))).mono ?_
            rintro e w3 ⟨rfl, hb_w3⟩
            have hz_w3 := hb_w3.size
            try simp at hz_w3
            go_wp2_with fail
            refine hK.out _ _ (by (try dsimp only); exact HK.out _ (by repeat' (first | exact Below.refl _ _ | refine Below.alloc ?_ ?_ _ | refine Below.setCell ?_ ?_ _ | refine Below.drew ?_ | (apply below_step; assumption) | (simp; done) | (simp; omega) | omega))) (fun hHeld => ?_)
            clear hK K
            try simp only [Act.put, rhA, rhS, rhT]
            refine hT 6 ?_; simp only [Act.put, rhA, rhS, rhT]
            refine hT 7 ?_; simp only [Act.put, rhA, rhS, rhT]
            refine hP 8 ?_; simp only [Act.put, rhA, rhS, rhT]
            refine hP 9 ?_; simp only [Act.put, rhA, rhS, rhT]
            refine hP 10 ?_; simp only [Act.put, rhA, rhS, rhT]
            refine hP 11 ?_; simp only [Act.put, rhA, rhS, rhT]
            refine hP 12 ?_; simp only [Act.put, rhA, rhS, rhT]
            refine hP 13 ?_; simp only [Act.put, rhA, rhS, rhT]
            refine hP 14 ?_; simp only [Act.put, rhA, rhS, rhT]
            refine hP 15 ?_; simp only [Act.put, rhA, rhS, rhT]
            refine hP 16 ?_; simp only [Act.put, rhA, rhS, rhT]
            refine hP 17 ?_; simp only [Act.put, rhA, rhS, rhT]
            refine hT 18 ?_; simp only [Act.put, rhA, rhS, rhT]
            refine wpAnyH_done (by kernel_rfl) ?_ _
            go_wp2_with fail
            go_ret
            exact ⟨by rw [HE.out, HTS.out, HD.out, tasksFrom_bad HO.out]; rfl, below_of hB (by repeat' (first | exact Below.refl _ _ | refine Below.alloc ?_ ?_ _ | refine Below.setCell ?_ ?_ _ | refine Below.drew ?_ | (apply below_step; assumption) | (simp; done) | (simp; omega) | omega))⟩
          · rw [ho] at hok
            have HO := Lib.hid ho
            have HOK := Lib.hid hok
            clear ho hok hix hat hC ht sl si m1 m2 hj
            cases hjk : (j != (k : Int))
            · have HJK := Lib.hid (show idxBy TV.id c.tasks t.id = (k : Int) by rw [HJ.out]; simpa using hjk)
              go_wp2_with fail
              refine wp_region_held_drew (S := (fun w' => Below wr.heap.size wr w' ∧ (∀ o, w'.cell? ⟨w.heap.size, o, none⟩ = (#[.slice (some ⟨bt, ot, none⟩) c.tasks.length e0, .slice D1 c.nodes.length e1, .slice D2 c.binds.length e2] : Array Value)[o]?) ∧ w'.cell? ⟨bt, ot + k * 7, none⟩ = some (.int .i64 t.id) ∧ w'.cell? ⟨bt, ot + k * 7 + 1, none⟩ = some (.int .i64 t.prio) ∧ w'.cell? ⟨bt, ot + k * 7 + 2, none⟩ = some (.int .i64 t.need.c) ∧ w'.cell? ⟨bt, ot + k * 7 + 3, none⟩ = some (.int .i64 t.need.m) ∧ w'.cell? ⟨bt, ot + k * 7 + 4, none⟩ = some (.int .i64 t.need.p) ∧ w'.cell? ⟨bt, ot + k * 7 + 5, none⟩ = some (.slice A1 t.want.length c1) ∧ w'.cell? ⟨bt, ot + k * 7 + 6, none⟩ = some (.slice A2 t.tols.length c2))) (by kernel_rfl) (by (try dsimp only); exact HK.out _ (by repeat' (first | exact Below.refl _ _ | refine Below.alloc ?_ ?_ _ | refine Below.setCell ?_ ?_ _ | refine Below.drew ?_ | (apply below_step; assumption) | (simp; done) | (simp; omega) | omega))) (fun hHeld => ?_)
              refine hT 0 ?_; simp only [Act.put, rhA, rhS, rhT]
              refine hT 1 ?_; simp only [Act.put, rhA, rhS, rhT]
              refine hT 2 ?_; simp only [Act.put, rhA, rhS, rhT]
              refine hT 3 ?_; simp only [Act.put, rhA, rhS, rhT]
              refine hT 4 ?_; simp only [Act.put, rhA, rhS, rhT]
              refine hCall (i := 5) (o := ?a31) ?b31 (by kernel_rfl) ?c31 (fun K hK => ?d31)
              case b31 => simp only [rhN, rhM]; try rfl
              case c31 => rfl
              go_simp
              refine (HOK.out _ (SL.out.below (by repeat' (first | exact Below.refl _ _ | refine Below.alloc ?_ ?_ _ | refine Below.setCell ?_ ?_ _ | refine Below.drew ?_ | (apply below_step; assumption) | (simp; done) | (simp; omega) | omega))) (SI.out.below (by repeat' (first | exact Below.refl _ _ | refine Below.alloc ?_ ?_ _ | refine Below.setCell ?_ ?_ _ | refine Below.drew ?_ | (apply below_step; assumption) | (simp; done) | (simp; omega) | omega)))).mono ?_
              rintro e w3 ⟨rfl, hb_w3⟩
              have hz_w3 := hb_w3.size
              try simp at hz_w3
              go_wp2_with fail
              refine hK.out _ _ (by (try dsimp only); exact HK.out _ (by repeat' (first | exact Below.refl _ _ | refine Below.alloc ?_ ?_ _ | refine Below.setCell ?_ ?_ _ | refine Below.drew ?_ | (apply below_step; assumption) | (simp; done) | (simp; omega) | omega))) (fun hHeld => ?_)
              clear hK K
              try simp only [Act.put, rhA, rhS, rhT]
              refine hT 6 ?_; simp only [Act.put, rhA, rhS, rhT]
              refine hT 7 ?_; simp only [Act.put, rhA, rhS, rhT]
              refine hT 8 ?_; simp only [Act.put, rhA, rhS, rhT]
              refine hT 9 ?_; simp only [Act.put, rhA, rhS, rhT]
              refine hT 10 ?_; simp only [Act.put, rhA, rhS, rhT]
              refine hT 11 ?_; simp only [Act.put, rhA, rhS, rhT]
              refine hT 12 ?_; simp only [Act.put, rhA, rhS, rhT]
              refine hT 13 ?_; simp only [Act.put, rhA, rhS, rhT]
              refine hT 14 ?_; simp only [Act.put, rhA, rhS, rhT]
              refine hT 16 ?_; simp only [Act.put, rhA, rhS, rhT]
              refine hCall (i := 15) (o := ?a46) ?b46 (by kernel_rfl) ?c46 (fun K hK => ?d46)
              case b46 => simp only [rhN, rhM]; try rfl
              case c46 => rfl
              go_simp
              refine (HIX.out _ (below_of hB (by repeat' (first | exact Below.refl _ _ | refine Below.alloc ?_ ?_ _ | refine Below.setCell ?_ ?_ _ | refine Below.drew ?_ | (apply below_step; assumption) | (simp; done) | (simp; omega) | omega)))).mono ?_
              rintro e w4 ⟨rfl, hb_w4⟩
              have hz_w4 := hb_w4.size
              try simp at hz_w4
              go_wp2_with fail
              refine hK.out _ _ (by (try dsimp only); exact HK.out _ (by repeat' (first | exact Below.refl _ _ | refine Below.alloc ?_ ?_ _ | refine Below.setCell ?_ ?_ _ | refine Below.drew ?_ | (apply below_step; assumption) | (simp; done) | (simp; omega) | omega))) (fun hHeld => ?_)
              clear hK K
              try simp only [Act.put, rhA, rhS, rhT]
              refine hT 17 ?_; simp only [Act.put, rhA, rhS, rhT]
              refine hT 18 ?_; simp only [Act.put, rhA, rhS, rhT]
              refine wpAnyH_done (by kernel_rfl) ?_ _
              clear hjk
              go_wp2_with fail
              go_roundw
              case rel =>
                have hD4 : Below wr.heap.size wr w4 := (by repeat' (first | exact Below.refl _ _ | refine Below.alloc ?_ ?_ _ | refine Below.setCell ?_ ?_ _ | refine Below.drew ?_ | (apply below_step; assumption) | (simp; done) | (simp; omega) | omega))
                refine ⟨k + 1, by omega, by go_num, ?_, HBK.out.below hD4 gl, below_of hB hD4⟩
                rw [HTS.out, HD.out, tasksFrom_yes HO.out (seenK_no HTK.out HJK.out), seenK_succ HTK.out]
              case measure => simp [intOf]; omega
            · have HJK := Lib.hid (show idxBy TV.id c.tasks t.id ≠ (k : Int) by rw [HJ.out]; simpa using hjk)
              go_wp2_with fail
              refine wp_region_held_drew (S := (fun w' => Below wr.heap.size wr w' ∧ (∀ o, w'.cell? ⟨w.heap.size, o, none⟩ = (#[.slice (some ⟨bt, ot, none⟩) c.tasks.length e0, .slice D1 c.nodes.length e1, .slice D2 c.binds.length e2] : Array Value)[o]?) ∧ w'.cell? ⟨bt, ot + k * 7, none⟩ = some (.int .i64 t.id) ∧ w'.cell? ⟨bt, ot + k * 7 + 1, none⟩ = some (.int .i64 t.prio) ∧ w'.cell? ⟨bt, ot + k * 7 + 2, none⟩ = some (.int .i64 t.need.c) ∧ w'.cell? ⟨bt, ot + k * 7 + 3, none⟩ = some (.int .i64 t.need.m) ∧ w'.cell? ⟨bt, ot + k * 7 + 4, none⟩ = some (.int .i64 t.need.p) ∧ w'.cell? ⟨bt, ot + k * 7 + 5, none⟩ = some (.slice A1 t.want.length c1) ∧ w'.cell? ⟨bt, ot + k * 7 + 6, none⟩ = some (.slice A2 t.tols.length c2))) (by kernel_rfl) (by (try dsimp only); exact HK.out _ (by repeat' (first | exact Below.refl _ _ | refine Below.alloc ?_ ?_ _ | refine Below.setCell ?_ ?_ _ | refine Below.drew ?_ | (apply below_step; assumption) | (simp; done) | (simp; omega) | omega))) (fun hHeld => ?_)
              refine hT 0 ?_; simp only [Act.put, rhA, rhS, rhT]
              refine hT 1 ?_; simp only [Act.put, rhA, rhS, rhT]
              refine hT 2 ?_; simp only [Act.put, rhA, rhS, rhT]
              refine hT 3 ?_; simp only [Act.put, rhA, rhS, rhT]
              refine hT 4 ?_; simp only [Act.put, rhA, rhS, rhT]
              refine hCall (i := 5) (o := ?a57) ?b57 (by kernel_rfl) ?c57 (fun K hK => ?d57)
              case b57 => simp only [rhN, rhM]; try rfl
              case c57 => rfl
              go_simp
              refine (HOK.out _ (SL.out.below (by repeat' (first | exact Below.refl _ _ | refine Below.alloc ?_ ?_ _ | refine Below.setCell ?_ ?_ _ | refine Below.drew ?_ | (apply below_step; assumption) | (simp; done) | (simp; omega) | omega))) (SI.out.below (by repeat' (first | exact Below.refl _ _ | refine Below.alloc ?_ ?_ _ | refine Below.setCell ?_ ?_ _ | refine Below.drew ?_ | (apply below_step; assumption) | (simp; done) | (simp; omega) | omega)))).mono ?_
              rintro e w3 ⟨rfl, hb_w3⟩
              have hz_w3 := hb_w3.size
              try simp at hz_w3
              go_wp2_with fail
              refine hK.out _ _ (by (try dsimp only); exact HK.out _ (by repeat' (first | exact Below.refl _ _ | refine Below.alloc ?_ ?_ _ | refine Below.setCell ?_ ?_ _ | refine Below.drew ?_ | (apply below_step; assumption) | (simp; done) | (simp; omega) | omega))) (fun hHeld => ?_)
              clear hK K
              try simp only [Act.put, rhA, rhS, rhT]
              refine hT 6 ?_; simp only [Act.put, rhA, rhS, rhT]
              refine hT 7 ?_; simp only [Act.put, rhA, rhS, rhT]
              refine hT 8 ?_; simp only [Act.put, rhA, rhS, rhT]
              refine hT 9 ?_; simp only [Act.put, rhA, rhS, rhT]
              refine hT 10 ?_; simp only [Act.put, rhA, rhS, rhT]
              refine hT 11 ?_; simp only [Act.put, rhA, rhS, rhT]
              refine hT 12 ?_; simp only [Act.put, rhA, rhS, rhT]
              refine hT 13 ?_; simp only [Act.put, rhA, rhS, rhT]
              refine hT 14 ?_; simp only [Act.put, rhA, rhS, rhT]
              refine hT 16 ?_; simp only [Act.put, rhA, rhS, rhT]
              refine hCall (i := 15) (o := ?a72) ?b72 (by kernel_rfl) ?c72 (fun K hK => ?d72)
              case b72 => simp only [rhN, rhM]; try rfl
              case c72 => rfl
              go_simp
              refine (HIX.out _ (below_of hB (by repeat' (first | exact Below.refl _ _ | refine Below.alloc ?_ ?_ _ | refine Below.setCell ?_ ?_ _ | refine Below.drew ?_ | (apply below_step; assumption) | (simp; done) | (simp; omega) | omega)))).mono ?_
              rintro e w4 ⟨rfl, hb_w4⟩
              have hz_w4 := hb_w4.size
              try simp at hz_w4
              go_wp2_with fail
              refine hK.out _ _ (by (try dsimp only); exact HK.out _ (by repeat' (first | exact Below.refl _ _ | refine Below.alloc ?_ ?_ _ | refine Below.setCell ?_ ?_ _ | refine Below.drew ?_ | (apply below_step; assumption) | (simp; done) | (simp; omega) | omega))) (fun hHeld => ?_)
              clear hK K
              try simp only [Act.put, rhA, rhS, rhT]
              refine hT 17 ?_; simp only [Act.put, rhA, rhS, rhT]
              refine hT 18 ?_; simp only [Act.put, rhA, rhS, rhT]
              refine wpAnyH_done (by kernel_rfl) ?_ _
              clear hjk
              go_wp2_with fail
              go_ret
              exact ⟨by rw [HE.out, HTS.out, HD.out, tasksFrom_twice (seenK_yes HTK.out HJK.out)]; rfl, below_of hB (by repeat' (first | exact Below.refl _ _ | refine Below.alloc ?_ ?_ _ | refine Below.setCell ?_ ?_ _ | refine Below.drew ?_ | (apply below_step; assumption) | (simp; done) | (simp; omega) | omega))⟩
        · have hkl : k = c.tasks.length := by omega
          have HE1 := Lib.hid (show tasksFrom [] c.tasks = true by rw [HTS.out, hkl, List.drop_length]; rfl)
          clear hkl HTS
          go_wp2_with fail
          clear hlt
          go_loopw [4] (fun s4 wr => ∃ k : Nat, k ≤ c.nodes.length ∧ s4 = .int .i64 k ∧ (∃ p : Int, nodesFrom 0 c.nodes = nodesFrom p (c.nodes.drop k) ∧ ((k = 0 ∧ p = 0) ∨ ∃ m n0, k = m + 1 ∧ c.nodes[m]? = some n0 ∧ p = n0.id)) ∧ BlockIs wr w.heap.size 34 #[.slice D0 c.tasks.length e0, .slice D1 c.nodes.length e1, .slice D2 c.binds.length e2] ∧ Below w.heap.size w wr) (fun s4 _ => (c.nodes.length - intOf s4).toNat)
          case atStart => exact ⟨0, by omega, rfl, ⟨0, by simp, .inl ⟨rfl, rfl⟩⟩, HBK.out, hB⟩
          case round =>
            clear HBK hB hzr gc gl g0 hk
            obtain ⟨k, hk, rfl, hts, hblk, hB⟩ := hrel
            have HTS := Lib.hid hts
            have HBK := Lib.hid hblk
            have hzr := hB.size
            have gc := hblk.cell
            have gl := hblk.lt
            have g1 := gc 1
            simp at g1
            clear hts hblk
            by_cases hlt : k < c.nodes.length
            · obtain ⟨bn, on, rfl, hbw, hat⟩ := HF.out.hn (by omega)
              obtain ⟨n, ht⟩ : ∃ t, c.nodes[k]? = some t := ⟨_, List.getElem?_eq_getElem hlt⟩
              obtain ⟨cs, hR, hC⟩ := (hat.below NodeR.kept hB hbw) k n ht
              have HD := Lib.hid (drop_at ht)
              have HTK := Lib.hid ht
              obtain ⟨v1, v2, rfl, sl, si, m1, m2⟩ := hR
              obtain ⟨A3, c3, rfl, _⟩ := sl.form
              obtain ⟨A4, c4, rfl, _⟩ := si.form
              obtain ⟨q0, q1, q2, q3, q4, q5, q6, q7⟩ := node_cells hC
              have hki : (k : Int) < (c.nodes.length : Int) := by omega
              have hk0 : (0 : Int) ≤ (k : Int) := by omega
              have hbr : bn < wr.heap.size := by omega
              have hok := fun w h1 h2 => sNodeOk_any n (.slice A3 n.labs.length c3) (.slice A4 n.taints.length c4) w h1 h2 m1 m2
              have SL := Lib.hid sl
              have SI := Lib.hid si
              have HK := Lib.hid (show ∀ w', Below wr.heap.size wr w' → Below wr.heap.size wr w' ∧ (∀ o, w'.cell? ⟨w.heap.size, o, none⟩ = (#[.slice D0 c.tasks.length e0, .slice (some ⟨bn, on, none⟩) c.nodes.length e1, .slice D2 c.binds.length e2] : Array Value)[o]?) ∧ w'.cell? ⟨bn, on + k * 8, none⟩ = some (.int .i64 n.id) ∧ w'.cell? ⟨bn, on + k * 8 + 1, none⟩ = some (.int .i64 n.pool) ∧ w'.cell? ⟨bn, on + k * 8 + 2, none⟩ = some (.int .i64 n.cap.c) ∧ w'.cell? ⟨bn, on + k * 8 + 3, none⟩ = some (.int .i64 n.cap.m) ∧ w'.cell? ⟨bn, on + k * 8 + 4, none⟩ = some (.int .i64 n.cap.p) ∧ w'.cell? ⟨bn, on + k * 8 + 5, none⟩ = some (.slice A3 n.labs.length c3) ∧ w'.cell? ⟨bn, on + k * 8 + 6, none⟩ = some (.slice A4 n.taints.length c4) ∧ w'.cell? ⟨bn, on + k * 8 + 7, none⟩ = some (.bool n.cordon) from
            fun w' hb => ⟨hb, fun o => (hb.cell (p := ⟨_, _, none⟩) gl).trans (gc o), (hb.cell (p := ⟨_, _, none⟩) hbr).trans q0, (hb.cell (p := ⟨_, _, none⟩) hbr).trans q1, (hb.cell (p := ⟨_, _, none⟩) hbr).trans q2, (hb.cell (p := ⟨_, _, none⟩) hbr).trans q3, (hb.cell (p := ⟨_, _, none⟩) hbr).trans q4, (hb.cell (p := ⟨_, _, none⟩) hbr).trans q5, (hb.cell (p := ⟨_, _, none⟩) hbr).trans q6, (hb.cell (p := ⟨_, _, none⟩) hbr).trans q7⟩)
              have HAT := Lib.hid hat
              cases ho : n.ok
              · rw [ho] at hok
                have HO := Lib.hid ho
                have HOK := Lib.hid hok
                clear ho hok hat hC ht sl si m1 m2
                go_wp2_with fail
                refine wp_region_held_drew (S := (fun w' => Below wr.heap.size wr w' ∧ (∀ o, w'.cell? ⟨w.heap.size, o, none⟩ = (#[.slice D0 c.tasks.length e0, .slice (some ⟨bn, on, none⟩) c.nodes.length e1, .slice D2 c.binds.length e2] : Array Value)[o]?) ∧ w'.cell? ⟨bn, on + k * 8, none⟩ = some (.int .i64 n.id) ∧ w'.cell? ⟨bn, on + k * 8 + 1, none⟩ = some (.int .i64 n.pool) ∧ w'.cell? ⟨bn, on + k * 8 + 2, none⟩ = some (.int .i64 n.cap.c) ∧ w'.cell? ⟨bn, on + k * 8 + 3, none⟩ = some (.int .i64 n.cap.m) ∧ w'.cell? ⟨bn, on + k * 8 + 4, none⟩ = some (.int .i64 n.cap.p) ∧ w'.cell? ⟨bn, on + k * 8 + 5, none⟩ = some (.slice A3 n.labs.length c3) ∧ w'.cell? ⟨bn, on + k * 8 + 6, none⟩ = some (.slice A4 n.taints.length c4) ∧ w'.cell? ⟨bn, on + k * 8 + 7, none⟩ = some (.bool n.cordon))) (by kernel_rfl) (by (try dsimp only); exact HK.out _ (by repeat' (first | exact Below.refl _ _ | refine Below.alloc ?_ ?_ _ | refine Below.setCell ?_ ?_ _ | refine Below.drew ?_ | (apply below_step; assumption) | (simp; done) | (simp; omega) | omega))) (fun hHeld => ?_)
                refine hT 0 ?_; simp only [Act.put, rhA, rhS, rhT]
                refine hT 1 ?_; simp only [Act.put, rhA, rhS, rhT]
                refine hT 2 ?_; simp only [Act.put, rhA, rhS, rhT]
                refine hT 3 ?_; simp only [Act.put, rhA, rhS, rhT]
                refine hT 4 ?_; simp only [Act.put, rhA, rhS, rhT]
                refine hCall (i := 5) (o := ?a83) ?b83 (by kernel_rfl) ?c83 (fun K hK => ?d83)
                case b83 => simp only [rhN, rhM]; try rfl
                case c83 => rfl
                go_simp
                refine (HOK.out _ (SL.out.below (by repeat' (first | exact Below.refl _ _ | refine Below.alloc ?_ ?_ _ | refine Below.setCell ?_ ?_ _ | refine Below.drew ?_ | (apply below_step; assumption) | (simp; done) | (simp; omega) | omega))) (SI.out.below (by repeat' (first | exact Below.refl _ _ | refine Below.alloc ?_ ?_ _ | refine Below.setCell ?_ ?_ _ | refine Below.drew ?_ | (apply below_step; assumption) | (simp; done) | (simp; omega) | omega)))).mono ?_
                rintro e w3 ⟨rfl, hb_w3⟩
                have hz_w3 := hb_w3.size
                try simp at hz_w3
                go_wp2_with fail
                refine hK.out _ _ (by (try dsimp only); exact HK.out _ (by repeat' (first | exact Below.refl _ _ | refine Below.alloc ?_ ?_ _ | refine Below.setCell ?_ ?_ _ | refine Below.drew ?_ | (apply below_step; assumption) | (simp; done) | (simp; omega) | omega))) (fun hHeld => ?_)
                clear hK K
                try simp only [Act.put, rhA, rhS, rhT]
                refine hT 6 ?_; simp only [Act.put, rhA, rhS, rhT]
                refine hT 7 ?_; simp only [Act.put, rhA, rhS, rhT]
                refine hP 8 ?_; simp only [Act.put, rhA, rhS, rhT]
                refine hP 9 ?_; simp only [Act.put, rhA, rhS, rhT]
                refine hP 10 ?_; simp only [Act.put, rhA, rhS, rhT]
                refine hP 11 ?_; simp only [Act.put, rhA, rhS, rhT]
                refine hP 12 ?_; simp only [Act.put, rhA, rhS, rhT]
                refine hP 13 ?_; simp only [Act.put, rhA, rhS, rhT]
                refine hP 14 ?_; simp only [Act.put, rhA, rhS, rhT]
                refine hP 15 ?_; simp only [Act.put, rhA, rhS, rhT]
                refine hP 16 ?_; simp only [Act.put, rhA, rhS, rhT]
                refine hP 17 ?_; simp only [Act.put, rhA, rhS, rhT]
                refine hP 18 ?_; simp only [Act.put, rhA, rhS, rhT]
                refine hP 19 ?_; simp only [Act.put, rhA, rhS, rhT]
                refine hP 20 ?_; simp only [Act.put, rhA, rhS, rhT]
                refine hP 21 ?_; simp only [Act.put, rhA, rhS, rhT]
                refine hP 22 ?_; simp only [Act.put, rhA, rhS, rhT]
                refine hP 23 ?_; simp only [Act.put, rhA, rhS, rhT]
                refine hP 24 ?_; simp only [Act.put, rhA, rhS, rhT]
                refine hP 25 ?_; simp only [Act.put, rhA, rhS, rhT]
                refine hT 26 ?_; simp only [Act.put, rhA, rhS, rhT]
                refine wpAnyH_done (by kernel_rfl) ?_ _
                go_wp2_with fail
                go_ret
                refine ⟨?_, below_of hB (by repeat' (first | exact Below.refl _ _ | refine Below.alloc ?_ ?_ _ | refine Below.setCell ?_ ?_ _ | refine Below.drew ?_ | (apply below_step; assumption) | (simp; done) | (simp; omega) | omega))⟩
                obtain ⟨p, hp, _⟩ := HTS.out
                rw [HE.out, HE1.out, hp, HD.out, nodesFrom_bad HO.out]; rfl
              · rw [ho] at hok
                have HO := Lib.hid ho
                have HOK := Lib.hid hok
                clear ho hok hat hC ht sl si m1 m2
                obtain ⟨p, hp, hcase⟩ := HTS.out
                have HP := Lib.hid hp
                clear hp HTS
                rcases hcase with ⟨rfl, rfl⟩ | ⟨m, n0, hkm, hm0, rfl⟩
                · simp only [Nat.zero_mul, Nat.add_zero] at q0 q1 q2 q3 q4 q5 q6 q7 HK
                  go_wp2_with fail
                  refine wp_region_held_drew (S := (fun w' => Below wr.heap.size wr w' ∧ (∀ o, w'.cell? ⟨w.heap.size, o, none⟩ = (#[.slice D0 c.tasks.length e0, .slice (some ⟨bn, on, none⟩) c.nodes.length e1, .slice D2 c.binds.length e2] : Array Value)[o]?) ∧ w'.cell? ⟨bn, on, none⟩ = some (.int .i64 n.id) ∧ w'.cell? ⟨bn, on + 1, none⟩ = some (.int .i64 n.pool) ∧ w'.cell? ⟨bn, on + 2, none⟩ = some (.int .i64 n.cap.c) ∧ w'.cell? ⟨bn, on + 3, none⟩ = some (.int .i64 n.cap.m) ∧ w'.cell? ⟨bn, on + 4, none⟩ = some (.int .i64 n.cap.p) ∧ w'.cell? ⟨bn, on + 5, none⟩ = some (.slice A3 n.labs.length c3) ∧ w'.cell? ⟨bn, on + 6, none⟩ = some (.slice A4 n.taints.length c4) ∧ w'.cell? ⟨bn, on + 7, none⟩ = some (.bool n.cordon))) (by kernel_rfl) (by (try dsimp only); exact HK.out _ (by repeat' (first | exact Below.refl _ _ | refine Below.alloc ?_ ?_ _ | refine Below.setCell ?_ ?_ _ | refine Below.drew ?_ | (apply below_step; assumption) | (simp; done) | (simp; omega) | omega))) (fun hHeld => ?_)
                  refine hT 0 ?_; simp only [Act.put, rhA, rhS, rhT]
                  refine hT 1 ?_; simp only [Act.put, rhA, rhS, rhT]
                  refine hT 2 ?_; simp only [Act.put, rhA, rhS, rhT]
                  refine hT 3 ?_; simp only [Act.put, rhA, rhS, rhT]
                  refine hT 4 ?_; simp only [Act.put, rhA, rhS, rhT]
                  refine hCall (i := 5) (o := ?a115) ?b115 (by kernel_rfl) ?c115 (fun K hK => ?d115)
                  case b115 => simp only [rhN, rhM]; try rfl
                  case c115 => rfl
                  go_simp
                  refine (HOK.out _ (SL.out.below (by repeat' (first | exact Below.refl _ _ | refine Below.alloc ?_ ?_ _ | refine Below.setCell ?_ ?_ _ | refine Below.drew ?_ | (apply below_step; assumption) | (simp; done) | (simp; omega) | omega))) (SI.out.below (by repeat' (first | exact Below.refl _ _ | refine Below.alloc ?_ ?_ _ | refine Below.setCell ?_ ?_ _ | refine Below.drew ?_ | (apply below_step; assumption) | (simp; done) | (simp; omega) | omega)))).mono ?_
                  rintro e w3 ⟨rfl, hb_w3⟩
                  have hz_w3 := hb_w3.size
                  try simp at hz_w3
                  go_wp2_with fail
                  refine hK.out _ _ (by (try dsimp only); exact HK.out _ (by repeat' (first | exact Below.refl _ _ | refine Below.alloc ?_ ?_ _ | refine Below.setCell ?_ ?_ _ | refine Below.drew ?_ | (apply below_step; assumption) | (simp; done) | (simp; omega) | omega))) (fun hHeld => ?_)
                  clear hK K
                  try simp only [Act.put, rhA, rhS, rhT]
                  refine hT 6 ?_; simp only [Act.put, rhA, rhS, rhT]
                  refine hT 7 ?_; simp only [Act.put, rhA, rhS, rhT]
                  refine hT 8 ?_; simp only [Act.put, rhA, rhS, rhT]
                  refine hT 9 ?_; simp only [Act.put, rhA, rhS, rhT]
                  refine hT 10 ?_; simp only [Act.put, rhA, rhS, rhT]
                  refine hP 11 ?_; simp only [Act.put, rhA, rhS, rhT]
                  refine hP 12 ?_; simp only [Act.put, rhA, rhS, rhT]
                  refine hP 13 ?_; simp only [Act.put, rhA, rhS, rhT]
                  refine hP 14 ?_; simp only [Act.put, rhA, rhS, rhT]
                  refine hP 15 ?_; simp only [Act.put, rhA, rhS, rhT]
                  refine hP 16 ?_; simp only [Act.put, rhA, rhS, rhT]
                  refine hP 17 ?_; simp only [Act.put, rhA, rhS, rhT]
                  refine hP 18 ?_; simp only [Act.put, rhA, rhS, rhT]
                  refine hP 19 ?_; simp only [Act.put, rhA, rhS, rhT]
                  refine hP 20 ?_; simp only [Act.put, rhA, rhS, rhT]
                  refine hP 21 ?_; simp only [Act.put, rhA, rhS, rhT]
                  refine hP 22 ?_; simp only [Act.put, rhA, rhS, rhT]
                  refine hP 23 ?_; simp only [Act.put, rhA, rhS, rhT]
                  refine hP 24 ?_; simp only [Act.put, rhA, rhS, rhT]
                  refine hT 25 ?_; simp only [Act.put, rhA, rhS, rhT]
                  refine hT 26 ?_; simp only [Act.put, rhA, rhS, rhT]
                  refine wpAnyH_done (by kernel_rfl) ?_ _
                  go_wp2_with fail
                  go_roundw
                  case rel =>
                    have hD4 : Below wr.heap.size wr w3 := (by repeat' (first | exact Below.refl _ _ | refine Below.alloc ?_ ?_ _ | refine Below.setCell ?_ ?_ _ | refine Below.drew ?_ | (apply below_step; assumption) | (simp; done) | (simp; omega) | omega))
                    refine ⟨1, by omega, by go_num, ⟨n.id, ?_, .inr ⟨0, n, rfl, HTK.out, rfl⟩⟩, HBK.out.below hD4 gl, below_of hB hD4⟩
                    rw [HP.out, HD.out, nodesFrom_first HO.out]
                  case measure => simp [intOf]; omega
                · obtain ⟨cs0, hR0, hC0⟩ := (HAT.out.below NodeR.kept hB hbw) m n0 hm0
                  obtain ⟨y1, y2, rfl, _, _, _, _⟩ := hR0
                  have p0 := (node_cells hC0).1
                  have hgt : 0 < k := by omega
                  have hgti : (0 : Int) < (k : Int) := by omega
                  have hwr : IntKind.i64.wrap ((k : Int) - 1) = (m : Int) := by rw [IntWalk.i64_in _ (by omega)]; omega
                  have hmi : (m : Int) < (c.nodes.length : Int) := by omega
                  have hm0' : (0 : Int) ≤ (m : Int) := by omega
                  have HKM := Lib.hid hkm
                  have HM0 := Lib.hid hm0
                  have HK := Lib.hid (show ∀ w', Below wr.heap.size wr w' → Below wr.heap.size wr w' ∧ (∀ o, w'.cell? ⟨w.heap.size, o, none⟩ = (#[.slice D0 c.tasks.length e0, .slice (some ⟨bn, on, none⟩) c.nodes.length e1, .slice D2 c.binds.length e2] : Array Value)[o]?) ∧ w'.cell? ⟨bn, on + k * 8, none⟩ = some (.int .i64 n.id) ∧ w'.cell? ⟨bn, on + k * 8 + 1, none⟩ = some (.int .i64 n.pool) ∧ w'.cell? ⟨bn, on + k * 8 + 2, none⟩ = some (.int .i64 n.cap.c) ∧ w'.cell? ⟨bn, on + k * 8 + 3, none⟩ = some (.int .i64 n.cap.m) ∧ w'.cell? ⟨bn, on + k * 8 + 4, none⟩ = some (.int .i64 n.cap.p) ∧ w'.cell? ⟨bn, on + k * 8 + 5, none⟩ = some (.slice A3 n.labs.length c3) ∧ w'.cell? ⟨bn, on + k * 8 + 6, none⟩ = some (.slice A4 n.taints.length c4) ∧ w'.cell? ⟨bn, on + k * 8 + 7, none⟩ = some (.bool n.cordon) ∧ w'.cell? ⟨bn, on + m * 8, none⟩ = some (.int .i64 n0.id) from fun w' hb => ⟨hb, fun o => (hb.cell (p := ⟨_, _, none⟩) gl).trans (gc o), (hb.cell (p := ⟨_, _, none⟩) hbr).trans q0, (hb.cell (p := ⟨_, _, none⟩) hbr).trans q1, (hb.cell (p := ⟨_, _, none⟩) hbr).trans q2, (hb.cell (p := ⟨_, _, none⟩) hbr).trans q3, (hb.cell (p := ⟨_, _, none⟩) hbr).trans q4, (hb.cell (p := ⟨_, _, none⟩) hbr).trans q5, (hb.cell (p := ⟨_, _, none⟩) hbr).trans q6, (hb.cell (p := ⟨_, _, none⟩) hbr).trans q7, (hb.cell (p := ⟨_, _, none⟩) hbr).trans p0⟩)
                  clear hC0 hkm hm0
                  cases hge : decide (n.id ≤ n0.id)
                  · have HGE := Lib.hid (show n0.id < n.id by simpa using hge)
                    go_wp2_with fail
                    refine wp_region_held_drew (S := (fun w' => Below wr.heap.size wr w' ∧ (∀ o, w'.cell? ⟨w.heap.size, o, none⟩ = (#[.slice D0 c.tasks.length e0, .slice (some ⟨bn, on, none⟩) c.nodes.length e1, .slice D2 c.binds.length e2] : Array Value)[o]?) ∧ w'.cell? ⟨bn, on + k * 8, none⟩ = some (.int .i64 n.id) ∧ w'.cell? ⟨bn, on + k * 8 + 1, none⟩ = some (.int .i64 n.pool) ∧ w'.cell? ⟨bn, on + k * 8 + 2, none⟩ = some (.int .i64 n.cap.c) ∧ w'.cell? ⟨bn, on + k * 8 + 3, none⟩ = some (.int .i64 n.cap.m) ∧ w'.cell? ⟨bn, on + k * 8 + 4, none⟩ = some (.int .i64 n.cap.p) ∧ w'.cell? ⟨bn, on + k * 8 + 5, none⟩ = some (.slice A3 n.labs.length c3) ∧ w'.cell? ⟨bn, on + k * 8 + 6, none⟩ = some (.slice A4 n.taints.length c4) ∧ w'.cell? ⟨bn, on + k * 8 + 7, none⟩ = some (.bool n.cordon) ∧ w'.cell? ⟨bn, on + m * 8, none⟩ = some (.int .i64 n0.id))) (by kernel_rfl) (by (try dsimp only); exact HK.out _ (by repeat' (first | exact Below.refl _ _ | refine Below.alloc ?_ ?_ _ | refine Below.setCell ?_ ?_ _ | refine Below.drew ?_ | (apply below_step; assumption) | (simp; done) | (simp; omega) | omega))) (fun hHeld => ?_)
                    refine hT 0 ?_; simp only [Act.put, rhA, rhS, rhT]
                    refine hT 1 ?_; simp only [Act.put, rhA, rhS, rhT]
                    refine hT 2 ?_; simp only [Act.put, rhA, rhS, rhT]
                    refine hT 3 ?_; simp only [Act.put, rhA, rhS, rhT]
                    refine hT 4 ?_; simp only [Act.put, rhA, rhS, rhT]
                    refine hCall (i := 5) (o := ?a151) ?b151 (by kernel_rfl) ?c151 (fun K hK => ?d151)
                    case b151 => simp only [rhN, rhM]; try rfl
                    case c151 => rfl
                    go_simp
                    refine (HOK.out _ (SL.out.below (by repeat' (first | exact Below.refl _ _ | refine Below.alloc ?_ ?_ _ | refine Below.setCell ?_ ?_ _ | refine Below.drew ?_ | (apply below_step; assumption) | (simp; done) | (simp; omega) | omega))) (SI.out.below (by repeat' (first | exact Below.refl _ _ | refine Below.alloc ?_ ?_ _ | refine Below.setCell ?_ ?_ _ | refine Below.drew ?_ | (apply below_step; assumption) | (simp; done) | (simp; omega) | omega)))).mono ?_
                    rintro e w3 ⟨rfl, hb_w3⟩
                    have hz_w3 := hb_w3.size
                    try simp at hz_w3
                    go_wp2_with fail
                    refine hK.out _ _ (by (try dsimp only); exact HK.out _ (by repeat' (first | exact Below.refl _ _ | refine Below.alloc ?_ ?_ _ | refine Below.setCell ?_ ?_ _ | refine Below.drew ?_ | (apply below_step; assumption) | (simp; done) | (simp; omega) | omega))) (fun hHeld => ?_)
                    clear hK K
                    try simp only [Act.put, rhA, rhS, rhT]
                    refine hT 6 ?_; simp only [Act.put, rhA, rhS, rhT]
                    refine hT 7 ?_; simp only [Act.put, rhA, rhS, rhT]
                    refine hT 8 ?_; simp only [Act.put, rhA, rhS, rhT]
                    refine hT 9 ?_; simp only [Act.put, rhA, rhS, rhT]
                    refine hT 10 ?_; simp only [Act.put, rhA, rhS, rhT]
                    refine hT 11 ?_; simp only [Act.put, rhA, rhS, rhT]
                    refine hT 12 ?_; simp only [Act.put, rhA, rhS, rhT]
                    refine hT 13 ?_; simp only [Act.put, rhA, rhS, rhT]
                    refine hT 14 ?_; simp only [Act.put, rhA, rhS, rhT]
                    refine hT 15 ?_; simp only [Act.put, rhA, rhS, rhT]
                    refine hT 16 ?_; simp only [Act.put, rhA, rhS, rhT]
                    refine hT 17 ?_; simp only [Act.put, rhA, rhS, rhT]
                    refine hT 18 ?_; simp only [Act.put, rhA, rhS, rhT]
                    refine hT 19 ?_; simp only [Act.put, rhA, rhS, rhT]
                    refine hT 20 ?_; simp only [Act.put, rhA, rhS, rhT]
                    refine hT 21 ?_; simp only [Act.put, rhA, rhS, rhT]
                    refine hT 22 ?_; simp only [Act.put, rhA, rhS, rhT]
                    refine hT 23 ?_; simp only [Act.put, rhA, rhS, rhT]
                    refine hT 24 ?_; simp only [Act.put, rhA, rhS, rhT]
                    refine hT 25 ?_; simp only [Act.put, rhA, rhS, rhT]
                    refine hT 26 ?_; simp only [Act.put, rhA, rhS, rhT]
                    refine wpAnyH_done (by kernel_rfl) ?_ _
                    clear hwr hge
                    go_wp2_with fail
                    go_roundw
                    case rel =>
                      have hD4 : Below wr.heap.size wr w3 := (by repeat' (first | exact Below.refl _ _ | refine Below.alloc ?_ ?_ _ | refine Below.setCell ?_ ?_ _ | refine Below.drew ?_ | (apply below_step; assumption) | (simp; done) | (simp; omega) | omega))
                      refine ⟨k + 1, by omega, by go_num, ⟨n.id, ?_, .inr ⟨k, n, rfl, HTK.out, rfl⟩⟩, HBK.out.below hD4 gl, below_of hB hD4⟩
                      rw [HP.out, HD.out, nodesFrom_yes HO.out HGE.out]
                    case measure => simp [intOf]; omega
                  · have HGE := Lib.hid (show n.id ≤ n0.id by simpa using hge)
                    go_wp2_with fail
                    refine wp_region_held_drew (S := (fun w' => Below wr.heap.size wr w' ∧ (∀ o, w'.cell? ⟨w.heap.size, o, none⟩ = (#[.slice D0 c.tasks.length e0, .slice (some ⟨bn, on, none⟩) c.nodes.length e1, .slice D2 c.binds.length e2] : Array Value)[o]?) ∧ w'.cell? ⟨bn, on + k * 8, none⟩ = some (.int .i64 n.id) ∧ w'.cell? ⟨bn, on + k * 8 + 1, none⟩ = some (.int .i64 n.pool) ∧ w'.cell? ⟨bn, on + k * 8 + 2, none⟩ = some (.int .i64 n.cap.c) ∧ w'.cell? ⟨bn, on + k * 8 + 3, none⟩ = some (.int .i64 n.cap.m) ∧ w'.cell? ⟨bn, on + k * 8 + 4, none⟩ = some (.int .i64 n.cap.p) ∧ w'.cell? ⟨bn, on + k * 8 + 5, none⟩ = some (.slice A3 n.labs.length c3) ∧ w'.cell? ⟨bn, on + k * 8 + 6, none⟩ = some (.slice A4 n.taints.length c4) ∧ w'.cell? ⟨bn, on + k * 8 + 7, none⟩ = some (.bool n.cordon) ∧ w'.cell? ⟨bn, on + m * 8, none⟩ = some (.int .i64 n0.id))) (by kernel_rfl) (by (try dsimp only); exact HK.out _ (by repeat' (first | exact Below.refl _ _ | refine Below.alloc ?_ ?_ _ | refine Below.setCell ?_ ?_ _ | refine Below.drew ?_ | (apply below_step; assumption) | (simp; done) | (simp; omega) | omega))) (fun hHeld => ?_)
                    refine hT 0 ?_; simp only [Act.put, rhA, rhS, rhT]
                    refine hT 1 ?_; simp only [Act.put, rhA, rhS, rhT]
                    refine hT 2 ?_; simp only [Act.put, rhA, rhS, rhT]
                    refine hT 3 ?_; simp only [Act.put, rhA, rhS, rhT]
                    refine hT 4 ?_; simp only [Act.put, rhA, rhS, rhT]
                    refine hCall (i := 5) (o := ?a182) ?b182 (by kernel_rfl) ?c182 (fun K hK => ?d182)
                    case b182 => simp only [rhN, rhM]; try rfl
                    case c182 => rfl
                    go_simp
                    refine (HOK.out _ (SL.out.below (by repeat' (first | exact Below.refl _ _ | refine Below.alloc ?_ ?_ _ | refine Below.setCell ?_ ?_ _ | refine Below.drew ?_ | (apply below_step; assumption) | (simp; done) | (simp; omega) | omega))) (SI.out.below (by repeat' (first | exact Below.refl _ _ | refine Below.alloc ?_ ?_ _ | refine Below.setCell ?_ ?_ _ | refine Below.drew ?_ | (apply below_step; assumption) | (simp; done) | (simp; omega) | omega)))).mono ?_
                    rintro e w3 ⟨rfl, hb_w3⟩
                    have hz_w3 := hb_w3.size
                    try simp at hz_w3
                    go_wp2_with fail
                    refine hK.out _ _ (by (try dsimp only); exact HK.out _ (by repeat' (first | exact Below.refl _ _ | refine Below.alloc ?_ ?_ _ | refine Below.setCell ?_ ?_ _ | refine Below.drew ?_ | (apply below_step; assumption) | (simp; done) | (simp; omega) | omega))) (fun hHeld => ?_)
                    clear hK K
                    try simp only [Act.put, rhA, rhS, rhT]
                    refine hT 6 ?_; simp only [Act.put, rhA, rhS, rhT]
                    refine hT 7 ?_; simp only [Act.put, rhA, rhS, rhT]
                    refine hT 8 ?_; simp only [Act.put, rhA, rhS, rhT]
                    refine hT 9 ?_; simp only [Act.put, rhA, rhS, rhT]
                    refine hT 10 ?_; simp only [Act.put, rhA, rhS, rhT]
                    refine hT 11 ?_; simp only [Act.put, rhA, rhS, rhT]
                    refine hT 12 ?_; simp only [Act.put, rhA, rhS, rhT]
                    refine hT 13 ?_; simp only [Act.put, rhA, rhS, rhT]
                    refine hT 14 ?_; simp only [Act.put, rhA, rhS, rhT]
                    refine hT 15 ?_; simp only [Act.put, rhA, rhS, rhT]
                    refine hT 16 ?_; simp only [Act.put, rhA, rhS, rhT]
                    refine hT 17 ?_; simp only [Act.put, rhA, rhS, rhT]
                    refine hT 18 ?_; simp only [Act.put, rhA, rhS, rhT]
                    refine hT 19 ?_; simp only [Act.put, rhA, rhS, rhT]
                    refine hT 20 ?_; simp only [Act.put, rhA, rhS, rhT]
                    refine hT 21 ?_; simp only [Act.put, rhA, rhS, rhT]
                    refine hT 22 ?_; simp only [Act.put, rhA, rhS, rhT]
                    refine hT 23 ?_; simp only [Act.put, rhA, rhS, rhT]
                    refine hT 24 ?_; simp only [Act.put, rhA, rhS, rhT]
                    refine hT 25 ?_; simp only [Act.put, rhA, rhS, rhT]
                    refine hT 26 ?_; simp only [Act.put, rhA, rhS, rhT]
                    refine wpAnyH_done (by kernel_rfl) ?_ _
                    clear hwr hge
                    go_wp2_with fail
                    go_ret
                    exact ⟨by rw [HE.out, HE1.out, HP.out, HD.out, nodesFrom_low HGE.out]; rfl, below_of hB (by repeat' (first | exact Below.refl _ _ | refine Below.alloc ?_ ?_ _ | refine Below.setCell ?_ ?_ _ | refine Below.drew ?_ | (apply below_step; assumption) | (simp; done) | (simp; omega) | omega))⟩
            · have hkl : k = c.nodes.length := by omega
              have HE2 := Lib.hid (show nodesFrom 0 c.nodes = true by obtain ⟨p, hp, _⟩ := HTS.out; rw [hp, hkl, List.drop_length]; rfl)
              clear hkl HTS
              go_wp2_with fail
              clear hlt
              go_loopw [5] (fun s5 wr => ∃ k : Nat, k ≤ c.binds.length ∧ s5 = .int .i64 k ∧ (∃ p : Int, bindsFrom c 0 c.binds = bindsFrom c p (c.binds.drop k) ∧ ((k = 0 ∧ p = 0) ∨ ∃ m x0, k = m + 1 ∧ c.binds[m]? = some x0 ∧ p = x0.task)) ∧ BlockIs wr w.heap.size 34 #[.slice D0 c.tasks.length e0, .slice D1 c.nodes.length e1, .slice D2 c.binds.length e2] ∧ Below w.heap.size w wr) (fun s5 _ => (c.binds.length - intOf s5).toNat)
              case atStart => exact ⟨0, by omega, rfl, ⟨0, by simp, .inl ⟨rfl, rfl⟩⟩, HBK.out, hB⟩
              case round =>
                clear HBK hB hzr gc gl g1 hk
                obtain ⟨k, hk, rfl, hts, hblk, hB⟩ := hrel
                have HTS := Lib.hid hts
                have HBK := Lib.hid hblk
                have hzr := hB.size
                have gc := hblk.cell
                have gl := hblk.lt
                have g2 := gc 2
                simp at g2
                clear hts hblk
                by_cases hlt : k < c.binds.length
                · obtain ⟨bb, ob, rfl, hbw, hat⟩ := HF.out.hb (by omega)
                  obtain ⟨x, ht⟩ : ∃ t, c.binds[k]? = some t := ⟨_, List.getElem?_eq_getElem hlt⟩
                  obtain ⟨cs, hR, hC⟩ := (hat.below BindR.kept hB hbw) k x ht
                  have HD := Lib.hid (drop_at ht)
                  have HTK := Lib.hid ht
                  obtain rfl := hR
                  obtain ⟨q0, q1⟩ := bind_cells hC
                  have hki : (k : Int) < (c.binds.length : Int) := by omega
                  have hk0 : (0 : Int) ≤ (k : Int) := by omega
                  have hbr : bb < wr.heap.size := by omega
                  have hix := fun w1 hw1 => sTask_any c _ _ _ x.task w w1 hw1 HF.out.clu
                  have hin := fun w1 hw1 => sNode_any c _ _ _ x.node w w1 hw1 HF.out.clu
                  have HK := Lib.hid (show ∀ w', Below wr.heap.size wr w' → Below wr.heap.size wr w' ∧ (∀ o, w'.cell? ⟨w.heap.size, o, none⟩ = (#[.slice D0 c.tasks.length e0, .slice D1 c.nodes.length e1, .slice (some ⟨bb, ob, none⟩) c.binds.length e2] : Array Value)[o]?) ∧ w'.cell? ⟨bb, ob + k * 2, none⟩ = some (.int .i64 x.task) ∧ w'.cell? ⟨bb, ob + k * 2 + 1, none⟩ = some (.int .i64 x.node) from
            fun w' hb => ⟨hb, fun o => (hb.cell (p := ⟨_, _, none⟩) gl).trans (gc o), (hb.cell (p := ⟨_, _, none⟩) hbr).trans q0, (hb.cell (p := ⟨_, _, none⟩) hbr).trans q1⟩)
                  have HAT := Lib.hid hat
                  generalize hj : idxBy TV.id c.tasks x.task = j at hix
                  generalize hi : idxBy NV.id c.nodes x.node = i at hin
                  have HJ := Lib.hid hj
                  have HI := Lib.hid hi
                  have HIX := Lib.hid hix
                  have HIN := Lib.hid hin
                  clear hix hin hat hC ht hj hi
                  go_wp2_with fail
                  refine wp_region_held_drew (S := (fun w' => Below wr.heap.size wr w' ∧ (∀ o, w'.cell? ⟨w.heap.size, o, none⟩ = (#[.slice D0 c.tasks.length e0, .slice D1 c.nodes.length e1, .slice (some ⟨bb, ob, none⟩) c.binds.length e2] : Array Value)[o]?) ∧ w'.cell? ⟨bb, ob + k * 2, none⟩ = some (.int .i64 x.task) ∧ w'.cell? ⟨bb, ob + k * 2 + 1, none⟩ = some (.int .i64 x.node))) (by kernel_rfl) (by (try dsimp only); exact HK.out _ (by repeat' (first | exact Below.refl _ _ | refine Below.alloc ?_ ?_ _ | refine Below.setCell ?_ ?_ _ | refine Below.drew ?_ | (apply below_step; assumption) | (simp; done) | (simp; omega) | omega))) (fun hHeld => ?_)
                  refine hT 0 ?_; simp only [Act.put, rhA, rhS, rhT]
                  refine hT 1 ?_; simp only [Act.put, rhA, rhS, rhT]
                  refine hT 2 ?_; simp only [Act.put, rhA, rhS, rhT]
                  refine hT 3 ?_; simp only [Act.put, rhA, rhS, rhT]
                  refine hT 4 ?_; simp only [Act.put, rhA, rhS, rhT]
                  refine hT 5 ?_; simp only [Act.put, rhA, rhS, rhT]
                  refine hT 6 ?_; simp only [Act.put, rhA, rhS, rhT]
                  refine hCall (i := 7) (o := ?a215) ?b215 (by kernel_rfl) ?c215 (fun K hK => ?d215)
                  case b215 => simp only [rhN, rhM]; try rfl
                  case c215 => rfl
                  go_simp
                  refine (HIX.out _ (below_of hB (by repeat' (first | exact Below.refl _ _ | refine Below.alloc ?_ ?_ _ | refine Below.setCell ?_ ?_ _ | refine Below.drew ?_ | (apply below_step; assumption) | (simp; done) | (simp; omega) | omega)))).mono ?_
                  rintro e w3 ⟨rfl, hb_w3⟩
                  have hz_w3 := hb_w3.size
                  try simp at hz_w3
                  go_wp2_with fail
                  refine hK.out _ _ (by (try dsimp only); exact HK.out _ (by repeat' (first | exact Below.refl _ _ | refine Below.alloc ?_ ?_ _ | refine Below.setCell ?_ ?_ _ | refine Below.drew ?_ | (apply below_step; assumption) | (simp; done) | (simp; omega) | omega))) (fun hHeld => ?_)
                  clear hK K
                  try simp only [Act.put, rhA, rhS, rhT]
                  refine hT 8 ?_; simp only [Act.put, rhA, rhS, rhT]
                  refine wpAnyH_done (by kernel_rfl) ?_ _
                  go_wp2_with fail
                  refine wp_region_held_drew (S := (fun w' => Below wr.heap.size wr w' ∧ (∀ o, w'.cell? ⟨w.heap.size, o, none⟩ = (#[.slice D0 c.tasks.length e0, .slice D1 c.nodes.length e1, .slice (some ⟨bb, ob, none⟩) c.binds.length e2] : Array Value)[o]?) ∧ w'.cell? ⟨bb, ob + k * 2, none⟩ = some (.int .i64 x.task) ∧ w'.cell? ⟨bb, ob + k * 2 + 1, none⟩ = some (.int .i64 x.node))) (by kernel_rfl) (by (try dsimp only); exact HK.out _ (by repeat' (first | exact Below.refl _ _ | refine Below.alloc ?_ ?_ _ | refine Below.setCell ?_ ?_ _ | refine Below.drew ?_ | (apply below_step; assumption) | (simp; done) | (simp; omega) | omega))) (fun hHeld => ?_)
                  refine hT 0 ?_; simp only [Act.put, rhA, rhS, rhT]
                  refine hT 1 ?_; simp only [Act.put, rhA, rhS, rhT]
                  refine hT 2 ?_; simp only [Act.put, rhA, rhS, rhT]
                  refine hT 3 ?_; simp only [Act.put, rhA, rhS, rhT]
                  refine hT 4 ?_; simp only [Act.put, rhA, rhS, rhT]
                  refine hT 5 ?_; simp only [Act.put, rhA, rhS, rhT]
                  refine hT 6 ?_; simp only [Act.put, rhA, rhS, rhT]
                  refine hCall (i := 7) (o := ?a226) ?b226 (by kernel_rfl) ?c226 (fun K hK => ?d226)
                  case b226 => simp only [rhN, rhM]; try rfl
                  case c226 => rfl
                  go_simp
                  refine (HIN.out _ (below_of hB (by repeat' (first | exact Below.refl _ _ | refine Below.alloc ?_ ?_ _ | refine Below.setCell ?_ ?_ _ | refine Below.drew ?_ | (apply below_step; assumption) | (simp; done) | (simp; omega) | omega)))).mono ?_
                  rintro e w4 ⟨rfl, hb_w4⟩
                  have hz_w4 := hb_w4.size
                  try simp at hz_w4
                  go_wp2_with fail
                  refine hK.out _ _ (by (try dsimp only); exact HK.out _ (by repeat' (first | exact Below.refl _ _ | refine Below.alloc ?_ ?_ _ | refine Below.setCell ?_ ?_ _ | refine Below.drew ?_ | (apply below_step; assumption) | (simp; done) | (simp; omega) | omega))) (fun hHeld => ?_)
                  clear hK K
                  try simp only [Act.put, rhA, rhS, rhT]
                  refine hT 8 ?_; simp only [Act.put, rhA, rhS, rhT]
                  refine wpAnyH_done (by kernel_rfl) ?_ _
                  have hD4 : Below wr.heap.size wr w4 := (by repeat' (first | exact Below.refl _ _ | refine Below.alloc ?_ ?_ _ | refine Below.setCell ?_ ?_ _ | refine Below.drew ?_ | (apply below_step; assumption) | (simp; done) | (simp; omega) | omega))
                  have hC4 := below_of hB hD4
                  have HBK4 := Lib.hid (HBK.out.below hD4 gl)
                  have gc4 := HBK4.out.cell
                  have gl4 := HBK4.out.lt
                  have p0 := (hD4.cell (p := ⟨bb, ob + k * 2, none⟩) hbr).trans q0
                  have hz4 := hC4.size
                  have hzw4 := hD4.size
                  clear gc HBK HIX HIN hb_w3 hb_w4 hz_w3 hz_w4 HK
                  have hnn : ∀ m : Nat, decide ((m : Int) < 0) = false := fun m => by simp
                  cases hft : fstBy TV.id c.tasks x.task with
                  | none =>
                    have HFT := Lib.hid hft
                    obtain rfl : j = -1 := by rw [← HJ.out]; exact idxBy_none hft
                    clear hft HJ HI hnn gc4
                    go_wp2_with fail
                    refine wp_region_held_drew (S := (fun w' => Below w4.heap.size w4 w')) (by kernel_rfl) (by (try dsimp only); exact (by repeat' (first | exact Below.refl _ _ | refine Below.alloc ?_ ?_ _ | refine Below.setCell ?_ ?_ _ | refine Below.drew ?_ | (apply below_step; assumption) | (simp; done) | (simp; omega) | omega))) (fun hHeld => ?_)
                    refine hT 0 ?_; simp only [Act.put, rhA, rhS, rhT]
                    refine hT 1 ?_; simp only [Act.put, rhA, rhS, rhT]
                    refine hT 2 ?_; simp only [Act.put, rhA, rhS, rhT]
                    refine hP 3 ?_; simp only [Act.put, rhA, rhS, rhT]
                    refine hP 4 ?_; simp only [Act.put, rhA, rhS, rhT]
                    refine hT 5 ?_; simp only [Act.put, rhA, rhS, rhT]
                    refine hT 6 ?_; simp only [Act.put, rhA, rhS, rhT]
                    refine hP 7 ?_; simp only [Act.put, rhA, rhS, rhT]
                    refine hP 8 ?_; simp only [Act.put, rhA, rhS, rhT]
                    refine hP 9 ?_; simp only [Act.put, rhA, rhS, rhT]
                    refine hP 10 ?_; simp only [Act.put, rhA, rhS, rhT]
                    refine hP 11 ?_; simp only [Act.put, rhA, rhS, rhT]
                    refine hP 12 ?_; simp only [Act.put, rhA, rhS, rhT]
                    refine hP 13 ?_; simp only [Act.put, rhA, rhS, rhT]
                    refine hP 14 ?_; simp only [Act.put, rhA, rhS, rhT]
                    refine hP 15 ?_; simp only [Act.put, rhA, rhS, rhT]
                    refine hP 16 ?_; simp only [Act.put, rhA, rhS, rhT]
                    refine hP 17 ?_; simp only [Act.put, rhA, rhS, rhT]
                    refine hP 18 ?_; simp only [Act.put, rhA, rhS, rhT]
                    refine hP 19 ?_; simp only [Act.put, rhA, rhS, rhT]
                    refine hP 20 ?_; simp only [Act.put, rhA, rhS, rhT]
                    refine hP 21 ?_; simp only [Act.put, rhA, rhS, rhT]
                    refine hP 22 ?_; simp only [Act.put, rhA, rhS, rhT]
                    refine hP 23 ?_; simp only [Act.put, rhA, rhS, rhT]
                    refine hP 24 ?_; simp only [Act.put, rhA, rhS, rhT]
                    refine hT 25 ?_; simp only [Act.put, rhA, rhS, rhT]
                    refine hT 26 ?_; simp only [Act.put, rhA, rhS, rhT]
                    refine hP 27 ?_; simp only [Act.put, rhA, rhS, rhT]
                    refine hP 28 ?_; simp only [Act.put, rhA, rhS, rhT]
                    refine hP 29 ?_; simp only [Act.put, rhA, rhS, rhT]
                    refine hP 30 ?_; simp only [Act.put, rhA, rhS, rhT]
                    refine hP 31 ?_; simp only [Act.put, rhA, rhS, rhT]
                    refine hP 32 ?_; simp only [Act.put, rhA, rhS, rhT]
                    refine hP 33 ?_; simp only [Act.put, rhA, rhS, rhT]
                    refine hP 34 ?_; simp only [Act.put, rhA, rhS, rhT]
                    refine hP 35 ?_; simp only [Act.put, rhA, rhS, rhT]
                    refine hP 36 ?_; simp only [Act.put, rhA, rhS, rhT]
                    refine hP 37 ?_; simp only [Act.put, rhA, rhS, rhT]
                    refine hP 38 ?_; simp only [Act.put, rhA, rhS, rhT]
                    refine hT 39 ?_; simp only [Act.put, rhA, rhS, rhT]
                    refine wpAnyH_done (by kernel_rfl) ?_ _
                    go_wp2_with fail
                    go_ret
                    refine ⟨?_, below_of hC4 (by repeat' (first | exact Below.refl _ _ | refine Below.alloc ?_ ?_ _ | refine Below.setCell ?_ ?_ _ | refine Below.drew ?_ | (apply below_step; assumption) | (simp; done) | (simp; omega) | omega))⟩
                    obtain ⟨p, hp, _⟩ := HTS.out
                    rw [HE.out, HE1.out, HE2.out, hp, HD.out, bindsFrom_bad (bindOk_none1 HFT.out)]; rfl
                  | some t =>
                    obtain ⟨jt, hjt, hjg, hkz, hmn⟩ := idxBy_some hft
                    clear hkz hmn
                    obtain rfl : j = (jt : Int) := by rw [← HJ.out, hjt]
                    have hj0 := hnn jt
                    cases hfn : fstBy NV.id c.nodes x.node with
                    | none =>
                      have HFN := Lib.hid hfn
                      obtain rfl : i = -1 := by rw [← HI.out]; exact idxBy_none hfn
                      clear hft hfn HJ HI hjt hjg hnn gc4
                      go_wp2_with fail
                      refine wp_region_held_drew (S := (fun w' => Below w4.heap.size w4 w')) (by kernel_rfl) (by (try dsimp only); exact (by repeat' (first | exact Below.refl _ _ | refine Below.alloc ?_ ?_ _ | refine Below.setCell ?_ ?_ _ | refine Below.drew ?_ | (apply below_step; assumption) | (simp; done) | (simp; omega) | omega))) (fun hHeld => ?_)
                      refine hT 0 ?_; simp only [Act.put, rhA, rhS, rhT]
                      refine hT 1 ?_; simp only [Act.put, rhA, rhS, rhT]
                      refine hT 2 ?_; simp only [Act.put, rhA, rhS, rhT]
                      refine hT 3 ?_; simp only [Act.put, rhA, rhS, rhT]
                      refine hT 4 ?_; simp only [Act.put, rhA, rhS, rhT]
                      refine hT 5 ?_; simp only [Act.put, rhA, rhS, rhT]
                      refine hT 6 ?_; simp only [Act.put, rhA, rhS, rhT]
                      refine hP 7 ?_; simp only [Act.put, rhA, rhS, rhT]
                      refine hP 8 ?_; simp only [Act.put, rhA, rhS, rhT]
                      refine hP 9 ?_; simp only [Act.put, rhA, rhS, rhT]
                      refine hP 10 ?_; simp only [Act.put, rhA, rhS, rhT]
                      refine hP 11 ?_; simp only [Act.put, rhA, rhS, rhT]
                      refine hP 12 ?_; simp only [Act.put, rhA, rhS, rhT]
                      refine hP 13 ?_; simp only [Act.put, rhA, rhS, rhT]
                      refine hP 14 ?_; simp only [Act.put, rhA, rhS, rhT]
                      refine hP 15 ?_; simp only [Act.put, rhA, rhS, rhT]
                      refine hP 16 ?_; simp only [Act.put, rhA, rhS, rhT]
                      refine hP 17 ?_; simp only [Act.put, rhA, rhS, rhT]
                      refine hP 18 ?_; simp only [Act.put, rhA, rhS, rhT]
                      refine hP 19 ?_; simp only [Act.put, rhA, rhS, rhT]
                      refine hP 20 ?_; simp only [Act.put, rhA, rhS, rhT]
                      refine hP 21 ?_; simp only [Act.put, rhA, rhS, rhT]
                      refine hP 22 ?_; simp only [Act.put, rhA, rhS, rhT]
                      refine hP 23 ?_; simp only [Act.put, rhA, rhS, rhT]
                      refine hP 24 ?_; simp only [Act.put, rhA, rhS, rhT]
                      refine hT 25 ?_; simp only [Act.put, rhA, rhS, rhT]
                      refine hT 26 ?_; simp only [Act.put, rhA, rhS, rhT]
                      refine hP 27 ?_; simp only [Act.put, rhA, rhS, rhT]
                      refine hP 28 ?_; simp only [Act.put, rhA, rhS, rhT]
                      refine hP 29 ?_; simp only [Act.put, rhA, rhS, rhT]
                      refine hP 30 ?_; simp only [Act.put, rhA, rhS, rhT]
                      refine hP 31 ?_; simp only [Act.put, rhA, rhS, rhT]
                      refine hP 32 ?_; simp only [Act.put, rhA, rhS, rhT]
                      refine hP 33 ?_; simp only [Act.put, rhA, rhS, rhT]
                      refine hP 34 ?_; simp only [Act.put, rhA, rhS, rhT]
                      refine hP 35 ?_; simp only [Act.put, rhA, rhS, rhT]
                      refine hP 36 ?_; simp only [Act.put, rhA, rhS, rhT]
                      refine hP 37 ?_; simp only [Act.put, rhA, rhS, rhT]
                      refine hP 38 ?_; simp only [Act.put, rhA, rhS, rhT]
                      refine hT 39 ?_; simp only [Act.put, rhA, rhS, rhT]
                      refine wpAnyH_done (by kernel_rfl) ?_ _
                      go_wp2_with fail
                      go_ret
                      refine ⟨?_, below_of hC4 (by repeat' (first | exact Below.refl _ _ | refine Below.alloc ?_ ?_ _ | refine Below.setCell ?_ ?_ _ | refine Below.drew ?_ | (apply below_step; assumption) | (simp; done) | (simp; omega) | omega))⟩
                      obtain ⟨p, hp, _⟩ := HTS.out
                      rw [HE.out, HE1.out, HE2.out, hp, HD.out, bindsFrom_bad (bindOk_none2 HFN.out)]; rfl
                    | some n =>
                      obtain ⟨im, him, hig, hkz, hmn⟩ := idxBy_some hfn
                      clear hkz hmn
                      obtain rfl : i = (im : Int) := by rw [← HI.out, him]
                      have hi0 := hnn im
                      have hjl : jt < c.tasks.length := (List.getElem?_eq_some_iff.1 hjg).1
                      have hil : im < c.nodes.length := (List.getElem?_eq_some_iff.1 hig).1
                      obtain ⟨bt, ot, rfl, hbt, hat0⟩ := HF.out.ht (by omega)
                      obtain ⟨bn, on, rfl, hbn, hat1⟩ := HF.out.hn (by omega)
                      obtain ⟨cs0, hR0, hC0⟩ := (hat0.below TaskR.kept hC4 hbt) jt t hjg
                      obtain ⟨cs1, hR1, hC1⟩ := (hat1.below NodeR.kept hC4 hbn) im n hig
                      obtain ⟨v1, v2, rfl, sl, si, m1, m2⟩ := hR0
                      obtain ⟨u1, u2, rfl, sk, sj, m3, m4⟩ := hR1
                      obtain ⟨A1, c1, rfl, _⟩ := sl.form
                      obtain ⟨A2, c2, rfl, _⟩ := si.form
                      obtain ⟨A3, c3, rfl, _⟩ := sk.form
                      obtain ⟨A4, c4, rfl, _⟩ := sj.form
                      obtain ⟨r0, r1, r2, r3, r4, r5, r6⟩ := task_cells hC0
                      obtain ⟨y0, y1, y2, y3, y4, y5, y6, y7⟩ := node_cells hC1
                      have hch := fun w h1 h2 h3 h4 => sCanHost_any n t (.slice A3 n.labs.length c3) (.slice A4 n.taints.length c4) (.slice A1 t.want.length c1) (.slice A2 t.tols.length c2) w h1 h2 h3 h4 m3 m4 m1 m2
                      have hbo := bindOk_both hft hfn
                      generalize canHost n t = ok at hch hbo
                      have HCH := Lib.hid hch
                      have HBO := Lib.hid hbo
                      have SL := Lib.hid sl
                      have SI := Lib.hid si
                      have SK := Lib.hid sk
                      have SJ := Lib.hid sj
                      have hjti : (jt : Int) < (c.tasks.length : Int) := by omega
                      have hjt0 : (0 : Int) ≤ (jt : Int) := by omega
                      have himi : (im : Int) < (c.nodes.length : Int) := by omega
                      have him0 : (0 : Int) ≤ (im : Int) := by omega
                      have hbt4 : bt < w4.heap.size := by omega
                      have hbn4 : bn < w4.heap.size := by omega
                      have hbb4 : bb < w4.heap.size := by omega
                      obtain ⟨p, hp, hcase⟩ := HTS.out
                      have HP := Lib.hid hp
                      clear hft hfn HJ HI hjt hjg him hig hnn hat0 hat1 hC0 hC1 sl si sk sj m1 m2 m3 m4 hch hbo hp HTS
                      rcases hcase with ⟨rfl, rfl⟩ | ⟨m, x0, hkm, hm0, rfl⟩
                      · have HK := Lib.hid (show ∀ w', Below w4.heap.size w4 w' → Below w4.heap.size w4 w' ∧ (∀ o, w'.cell? ⟨w.heap.size, o, none⟩ = (#[.slice (some ⟨bt, ot, none⟩) c.tasks.length e0, .slice (some ⟨bn, on, none⟩) c.nodes.length e1, .slice (some ⟨bb, ob, none⟩) c.binds.length e2] : Array Value)[o]?) ∧ w'.cell? ⟨bt, ot + jt * 7, none⟩ = some (.int .i64 t.id) ∧ w'.cell? ⟨bt, ot + jt * 7 + 1, none⟩ = some (.int .i64 t.prio) ∧ w'.cell? ⟨bt, ot + jt * 7 + 2, none⟩ = some (.int .i64 t.need.c) ∧ w'.cell? ⟨bt, ot + jt * 7 + 3, none⟩ = some (.int .i64 t.need.m) ∧ w'.cell? ⟨bt, ot + jt * 7 + 4, none⟩ = some (.int .i64 t.need.p) ∧ w'.cell? ⟨bt, ot + jt * 7 + 5, none⟩ = some (.slice A1 t.want.length c1) ∧ w'.cell? ⟨bt, ot + jt * 7 + 6, none⟩ = some (.slice A2 t.tols.length c2) ∧ w'.cell? ⟨bn, on + im * 8, none⟩ = some (.int .i64 n.id) ∧ w'.cell? ⟨bn, on + im * 8 + 1, none⟩ = some (.int .i64 n.pool) ∧ w'.cell? ⟨bn, on + im * 8 + 2, none⟩ = some (.int .i64 n.cap.c) ∧ w'.cell? ⟨bn, on + im * 8 + 3, none⟩ = some (.int .i64 n.cap.m) ∧ w'.cell? ⟨bn, on + im * 8 + 4, none⟩ = some (.int .i64 n.cap.p) ∧ w'.cell? ⟨bn, on + im * 8 + 5, none⟩ = some (.slice A3 n.labs.length c3) ∧ w'.cell? ⟨bn, on + im * 8 + 6, none⟩ = some (.slice A4 n.taints.length c4) ∧ w'.cell? ⟨bn, on + im * 8 + 7, none⟩ = some (.bool n.cordon) from fun w' hb => ⟨hb, fun o => (hb.cell (p := ⟨_, _, none⟩) gl4).trans (gc4 o), (hb.cell (p := ⟨_, _, none⟩) hbt4).trans r0, (hb.cell (p := ⟨_, _, none⟩) hbt4).trans r1, (hb.cell (p := ⟨_, _, none⟩) hbt4).trans r2, (hb.cell (p := ⟨_, _, none⟩) hbt4).trans r3, (hb.cell (p := ⟨_, _, none⟩) hbt4).trans r4, (hb.cell (p := ⟨_, _, none⟩) hbt4).trans r5, (hb.cell (p := ⟨_, _, none⟩) hbt4).trans r6, (hb.cell (p := ⟨_, _, none⟩) hbn4).trans y0, (hb.cell (p := ⟨_, _, none⟩) hbn4).trans y1, (hb.cell (p := ⟨_, _, none⟩) hbn4).trans y2, (hb.cell (p := ⟨_, _, none⟩) hbn4).trans y3, (hb.cell (p := ⟨_, _, none⟩) hbn4).trans y4, (hb.cell (p := ⟨_, _, none⟩) hbn4).trans y5, (hb.cell (p := ⟨_, _, none⟩) hbn4).trans y6, (hb.cell (p := ⟨_, _, none⟩) hbn4).trans y7⟩)
                        clear r0 r1 r2 r3 r4 r5 r6 y0 y1 y2 y3 y4 y5 y6 y7 p0 q0 q1 gc4
                        go_wp2_with fail
                        refine wp_region_held_drew (S := (fun w' => Below w4.heap.size w4 w' ∧ (∀ o, w'.cell? ⟨w.heap.size, o, none⟩ = (#[.slice (some ⟨bt, ot, none⟩) c.tasks.length e0, .slice (some ⟨bn, on, none⟩) c.nodes.length e1, .slice (some ⟨bb, ob, none⟩) c.binds.length e2] : Array Value)[o]?) ∧ w'.cell? ⟨bt, ot + jt * 7, none⟩ = some (.int .i64 t.id) ∧ w'.cell? ⟨bt, ot + jt * 7 + 1, none⟩ = some (.int .i64 t.prio) ∧ w'.cell? ⟨bt, ot + jt * 7 + 2, none⟩ = some (.int .i64 t.need.c) ∧ w'.cell? ⟨bt, ot + jt * 7 + 3, none⟩ = some (.int .i64 t.need.m) ∧ w'.cell? ⟨bt, ot + jt * 7 + 4, none⟩ = some (.int .i64 t.need.p) ∧ w'.cell? ⟨bt, ot + jt * 7 + 5, none⟩ = some (.slice A1 t.want.length c1) ∧ w'.cell? ⟨bt, ot + jt * 7 + 6, none⟩ = some (.slice A2 t.tols.length c2) ∧ w'.cell? ⟨bn, on + im * 8, none⟩ = some (.int .i64 n.id) ∧ w'.cell? ⟨bn, on + im * 8 + 1, none⟩ = some (.int .i64 n.pool) ∧ w'.cell? ⟨bn, on + im * 8 + 2, none⟩ = some (.int .i64 n.cap.c) ∧ w'.cell? ⟨bn, on + im * 8 + 3, none⟩ = some (.int .i64 n.cap.m) ∧ w'.cell? ⟨bn, on + im * 8 + 4, none⟩ = some (.int .i64 n.cap.p) ∧ w'.cell? ⟨bn, on + im * 8 + 5, none⟩ = some (.slice A3 n.labs.length c3) ∧ w'.cell? ⟨bn, on + im * 8 + 6, none⟩ = some (.slice A4 n.taints.length c4) ∧ w'.cell? ⟨bn, on + im * 8 + 7, none⟩ = some (.bool n.cordon))) (by kernel_rfl) (by (try dsimp only); exact HK.out _ (by repeat' (first | exact Below.refl _ _ | refine Below.alloc ?_ ?_ _ | refine Below.setCell ?_ ?_ _ | refine Below.drew ?_ | (apply below_step; assumption) | (simp; done) | (simp; omega) | omega))) (fun hHeld => ?_)
                        refine hT 0 ?_; simp only [Act.put, rhA, rhS, rhT]
                        refine hT 1 ?_; simp only [Act.put, rhA, rhS, rhT]
                        refine hT 2 ?_; simp only [Act.put, rhA, rhS, rhT]
                        refine hT 3 ?_; simp only [Act.put, rhA, rhS, rhT]
                        refine hT 4 ?_; simp only [Act.put, rhA, rhS, rhT]
                        refine hT 5 ?_; simp only [Act.put, rhA, rhS, rhT]
                        refine hT 6 ?_; simp only [Act.put, rhA, rhS, rhT]
                        refine hT 7 ?_; simp only [Act.put, rhA, rhS, rhT]
                        refine hT 8 ?_; simp only [Act.put, rhA, rhS, rhT]
                        refine hT 9 ?_; simp only [Act.put, rhA, rhS, rhT]
                        refine hP 10 ?_; simp only [Act.put, rhA, rhS, rhT]
                        refine hP 11 ?_; simp only [Act.put, rhA, rhS, rhT]
                        refine hP 12 ?_; simp only [Act.put, rhA, rhS, rhT]
                        refine hP 13 ?_; simp only [Act.put, rhA, rhS, rhT]
                        refine hP 14 ?_; simp only [Act.put, rhA, rhS, rhT]
                        refine hP 15 ?_; simp only [Act.put, rhA, rhS, rhT]
                        refine hP 16 ?_; simp only [Act.put, rhA, rhS, rhT]
                        refine hP 17 ?_; simp only [Act.put, rhA, rhS, rhT]
                        refine hP 18 ?_; simp only [Act.put, rhA, rhS, rhT]
                        refine hP 19 ?_; simp only [Act.put, rhA, rhS, rhT]
                        refine hP 20 ?_; simp only [Act.put, rhA, rhS, rhT]
                        refine hP 21 ?_; simp only [Act.put, rhA, rhS, rhT]
                        refine hP 22 ?_; simp only [Act.put, rhA, rhS, rhT]
                        refine hP 23 ?_; simp only [Act.put, rhA, rhS, rhT]
                        refine hT 24 ?_; simp only [Act.put, rhA, rhS, rhT]
                        refine hT 25 ?_; simp only [Act.put, rhA, rhS, rhT]
                        refine hT 26 ?_; simp only [Act.put, rhA, rhS, rhT]
                        refine hT 27 ?_; simp only [Act.put, rhA, rhS, rhT]
                        refine hT 28 ?_; simp only [Act.put, rhA, rhS, rhT]
                        refine hT 29 ?_; simp only [Act.put, rhA, rhS, rhT]
                        refine hT 30 ?_; simp only [Act.put, rhA, rhS, rhT]
                        refine hT 31 ?_; simp only [Act.put, rhA, rhS, rhT]
                        refine hT 32 ?_; simp only [Act.put, rhA, rhS, rhT]
                        refine hT 33 ?_; simp only [Act.put, rhA, rhS, rhT]
                        refine hT 34 ?_; simp only [Act.put, rhA, rhS, rhT]
                        refine hT 35 ?_; simp only [Act.put, rhA, rhS, rhT]
                        refine hT 36 ?_; simp only [Act.put, rhA, rhS, rhT]
                        refine hCall (i := 37) (o := ?a369) ?b369 (by kernel_rfl) ?c369 (fun K hK => ?d369)
                        case b369 => simp only [rhN, rhM]; try rfl
                        case c369 => rfl
                        go_simp
                        refine (HCH.out _ (SK.out.below (by repeat' (first | exact Below.refl _ _ | refine Below.alloc ?_ ?_ _ | refine Below.setCell ?_ ?_ _ | refine Below.drew ?_ | (apply below_step; assumption) | (simp; done) | (simp; omega) | omega))) (SJ.out.below (by repeat' (first | exact Below.refl _ _ | refine Below.alloc ?_ ?_ _ | refine Below.setCell ?_ ?_ _ | refine Below.drew ?_ | (apply below_step; assumption) | (simp; done) | (simp; omega) | omega))) (SL.out.below (by repeat' (first | exact Below.refl _ _ | refine Below.alloc ?_ ?_ _ | refine Below.setCell ?_ ?_ _ | refine Below.drew ?_ | (apply below_step; assumption) | (simp; done) | (simp; omega) | omega))) (SI.out.below (by repeat' (first | exact Below.refl _ _ | refine Below.alloc ?_ ?_ _ | refine Below.setCell ?_ ?_ _ | refine Below.drew ?_ | (apply below_step; assumption) | (simp; done) | (simp; omega) | omega)))).mono ?_
                        rintro e w5 ⟨rfl, hb_w5⟩
                        have hz_w5 := hb_w5.size
                        try simp at hz_w5
                        go_wp2_with fail
                        refine hK.out _ _ (by (try dsimp only); exact HK.out _ (by repeat' (first | exact Below.refl _ _ | refine Below.alloc ?_ ?_ _ | refine Below.setCell ?_ ?_ _ | refine Below.drew ?_ | (apply below_step; assumption) | (simp; done) | (simp; omega) | omega))) (fun hHeld => ?_)
                        clear hK K
                        try simp only [Act.put, rhA, rhS, rhT]
                        refine hT 38 ?_; simp only [Act.put, rhA, rhS, rhT]
                        refine hT 39 ?_; simp only [Act.put, rhA, rhS, rhT]
                        refine wpAnyH_done (by kernel_rfl) ?_ _
                        cases ok
                        · go_wp2_with fail
                          go_ret
                          exact ⟨by rw [HE.out, HE1.out, HE2.out, HP.out, HD.out, bindsFrom_bad HBO.out]; rfl, below_of hC4 (by repeat' (first | exact Below.refl _ _ | refine Below.alloc ?_ ?_ _ | refine Below.setCell ?_ ?_ _ | refine Below.drew ?_ | (apply below_step; assumption) | (simp; done) | (simp; omega) | omega))⟩
                        · go_wp2_with fail
                          go_roundw
                          case rel =>
                            have hD5 : Below w4.heap.size w4 w5 := (by repeat' (first | exact Below.refl _ _ | refine Below.alloc ?_ ?_ _ | refine Below.setCell ?_ ?_ _ | refine Below.drew ?_ | (apply below_step; assumption) | (simp; done) | (simp; omega) | omega))
                            exact ⟨1, by omega, by go_num, ⟨x.task, by rw [HP.out, HD.out, bindsFrom_first HBO.out], .inr ⟨0, x, rfl, HTK.out, rfl⟩⟩, HBK4.out.below hD5 gl4, below_of hC4 hD5⟩
                          case measure => simp [intOf]; omega
                      · obtain ⟨cs3, hR3, hC3⟩ := (HAT.out.below BindR.kept hC4 hbw) m x0 hm0
                        obtain rfl := hR3
                        have p1 := (bind_cells hC3).1
                        have hgt : 0 < k := by omega
                        have hgti : (0 : Int) < (k : Int) := by omega
                        have hwr : IntKind.i64.wrap ((k : Int) - 1) = (m : Int) := by rw [IntWalk.i64_in _ (by omega)]; omega
                        have hmi : (m : Int) < (c.binds.length : Int) := by omega
                        have hm0' : (0 : Int) ≤ (m : Int) := by omega
                        have HK := Lib.hid (show ∀ w', Below w4.heap.size w4 w' → Below w4.heap.size w4 w' ∧ (∀ o, w'.cell? ⟨w.heap.size, o, none⟩ = (#[.slice (some ⟨bt, ot, none⟩) c.tasks.length e0, .slice (some ⟨bn, on, none⟩) c.nodes.length e1, .slice (some ⟨bb, ob, none⟩) c.binds.length e2] : Array Value)[o]?) ∧ w'.cell? ⟨bt, ot + jt * 7, none⟩ = some (.int .i64 t.id) ∧ w'.cell? ⟨bt, ot + jt * 7 + 1, none⟩ = some (.int .i64 t.prio) ∧ w'.cell? ⟨bt, ot + jt * 7 + 2, none⟩ = some (.int .i64 t.need.c) ∧ w'.cell? ⟨bt, ot + jt * 7 + 3, none⟩ = some (.int .i64 t.need.m) ∧ w'.cell? ⟨bt, ot + jt * 7 + 4, none⟩ = some (.int .i64 t.need.p) ∧ w'.cell? ⟨bt, ot + jt * 7 + 5, none⟩ = some (.slice A1 t.want.length c1) ∧ w'.cell? ⟨bt, ot + jt * 7 + 6, none⟩ = some (.slice A2 t.tols.length c2) ∧ w'.cell? ⟨bn, on + im * 8, none⟩ = some (.int .i64 n.id) ∧ w'.cell? ⟨bn, on + im * 8 + 1, none⟩ = some (.int .i64 n.pool) ∧ w'.cell? ⟨bn, on + im * 8 + 2, none⟩ = some (.int .i64 n.cap.c) ∧ w'.cell? ⟨bn, on + im * 8 + 3, none⟩ = some (.int .i64 n.cap.m) ∧ w'.cell? ⟨bn, on + im * 8 + 4, none⟩ = some (.int .i64 n.cap.p) ∧ w'.cell? ⟨bn, on + im * 8 + 5, none⟩ = some (.slice A3 n.labs.length c3) ∧ w'.cell? ⟨bn, on + im * 8 + 6, none⟩ = some (.slice A4 n.taints.length c4) ∧ w'.cell? ⟨bn, on + im * 8 + 7, none⟩ = some (.bool n.cordon) ∧ w'.cell? ⟨bb, ob + k * 2, none⟩ = some (.int .i64 x.task) ∧ w'.cell? ⟨bb, ob + m * 2, none⟩ = some (.int .i64 x0.task) from fun w' hb => ⟨hb, fun o => (hb.cell (p := ⟨_, _, none⟩) gl4).trans (gc4 o), (hb.cell (p := ⟨_, _, none⟩) hbt4).trans r0, (hb.cell (p := ⟨_, _, none⟩) hbt4).trans r1, (hb.cell (p := ⟨_, _, none⟩) hbt4).trans r2, (hb.cell (p := ⟨_, _, none⟩) hbt4).trans r3, (hb.cell (p := ⟨_, _, none⟩) hbt4).trans r4, (hb.cell (p := ⟨_, _, none⟩) hbt4).trans r5, (hb.cell (p := ⟨_, _, none⟩) hbt4).trans r6, (hb.cell (p := ⟨_, _, none⟩) hbn4).trans y0, (hb.cell (p := ⟨_, _, none⟩) hbn4).trans y1, (hb.cell (p := ⟨_, _, none⟩) hbn4).trans y2, (hb.cell (p := ⟨_, _, none⟩) hbn4).trans y3, (hb.cell (p := ⟨_, _, none⟩) hbn4).trans y4, (hb.cell (p := ⟨_, _, none⟩) hbn4).trans y5, (hb.cell (p := ⟨_, _, none⟩) hbn4).trans y6, (hb.cell (p := ⟨_, _, none⟩) hbn4).trans y7, (hb.cell (p := ⟨_, _, none⟩) hbb4).trans p0, (hb.cell (p := ⟨_, _, none⟩) hbb4).trans p1⟩)
                        clear hC3 hkm hm0
                        clear r0 r1 r2 r3 r4 r5 r6 y0 y1 y2 y3 y4 y5 y6 y7 p0 p1 q0 q1 gc4
                        cases hge : decide (x.task ≤ x0.task)
                        · have HGE := Lib.hid (show x0.task < x.task by simpa using hge)
                          go_wp2_with fail
                          refine wp_region_held_drew (S := (fun w' => Below w4.heap.size w4 w' ∧ (∀ o, w'.cell? ⟨w.heap.size, o, none⟩ = (#[.slice (some ⟨bt, ot, none⟩) c.tasks.length e0, .slice (some ⟨bn, on, none⟩) c.nodes.length e1, .slice (some ⟨bb, ob, none⟩) c.binds.length e2] : Array Value)[o]?) ∧ w'.cell? ⟨bt, ot + jt * 7, none⟩ = some (.int .i64 t.id) ∧ w'.cell? ⟨bt, ot + jt * 7 + 1, none⟩ = some (.int .i64 t.prio) ∧ w'.cell? ⟨bt, ot + jt * 7 + 2, none⟩ = some (.int .i64 t.need.c) ∧ w'.cell? ⟨bt, ot + jt * 7 + 3, none⟩ = some (.int .i64 t.need.m) ∧ w'.cell? ⟨bt, ot + jt * 7 + 4, none⟩ = some (.int .i64 t.need.p) ∧ w'.cell? ⟨bt, ot + jt * 7 + 5, none⟩ = some (.slice A1 t.want.length c1) ∧ w'.cell? ⟨bt, ot + jt * 7 + 6, none⟩ = some (.slice A2 t.tols.length c2) ∧ w'.cell? ⟨bn, on + im * 8, none⟩ = some (.int .i64 n.id) ∧ w'.cell? ⟨bn, on + im * 8 + 1, none⟩ = some (.int .i64 n.pool) ∧ w'.cell? ⟨bn, on + im * 8 + 2, none⟩ = some (.int .i64 n.cap.c) ∧ w'.cell? ⟨bn, on + im * 8 + 3, none⟩ = some (.int .i64 n.cap.m) ∧ w'.cell? ⟨bn, on + im * 8 + 4, none⟩ = some (.int .i64 n.cap.p) ∧ w'.cell? ⟨bn, on + im * 8 + 5, none⟩ = some (.slice A3 n.labs.length c3) ∧ w'.cell? ⟨bn, on + im * 8 + 6, none⟩ = some (.slice A4 n.taints.length c4) ∧ w'.cell? ⟨bn, on + im * 8 + 7, none⟩ = some (.bool n.cordon) ∧ w'.cell? ⟨bb, ob + k * 2, none⟩ = some (.int .i64 x.task) ∧ w'.cell? ⟨bb, ob + m * 2, none⟩ = some (.int .i64 x0.task))) (by kernel_rfl) (by (try dsimp only); exact HK.out _ (by repeat' (first | exact Below.refl _ _ | refine Below.alloc ?_ ?_ _ | refine Below.setCell ?_ ?_ _ | refine Below.drew ?_ | (apply below_step; assumption) | (simp; done) | (simp; omega) | omega))) (fun hHeld => ?_)
                          refine hT 0 ?_; simp only [Act.put, rhA, rhS, rhT]
                          refine hT 1 ?_; simp only [Act.put, rhA, rhS, rhT]
                          refine hT 2 ?_; simp only [Act.put, rhA, rhS, rhT]
                          refine hT 3 ?_; simp only [Act.put, rhA, rhS, rhT]
                          refine hT 4 ?_; simp only [Act.put, rhA, rhS, rhT]
                          refine hT 5 ?_; simp only [Act.put, rhA, rhS, rhT]
                          refine hT 6 ?_; simp only [Act.put, rhA, rhS, rhT]
                          refine hT 7 ?_; simp only [Act.put, rhA, rhS, rhT]
                          refine hT 8 ?_; simp only [Act.put, rhA, rhS, rhT]
                          refine hT 9 ?_; simp only [Act.put, rhA, rhS, rhT]
                          refine hT 10 ?_; simp only [Act.put, rhA, rhS, rhT]
                          refine hT 11 ?_; simp only [Act.put, rhA, rhS, rhT]
                          refine hT 12 ?_; simp only [Act.put, rhA, rhS, rhT]
                          refine hT 13 ?_; simp only [Act.put, rhA, rhS, rhT]
                          refine hT 14 ?_; simp only [Act.put, rhA, rhS, rhT]
                          refine hT 15 ?_; simp only [Act.put, rhA, rhS, rhT]
                          refine hT 16 ?_; simp only [Act.put, rhA, rhS, rhT]
                          refine hT 17 ?_; simp only [Act.put, rhA, rhS, rhT]
                          refine hT 18 ?_; simp only [Act.put, rhA, rhS, rhT]
                          refine hT 19 ?_; simp only [Act.put, rhA, rhS, rhT]
                          refine hT 20 ?_; simp only [Act.put, rhA, rhS, rhT]
                          refine hT 21 ?_; simp only [Act.put, rhA, rhS, rhT]
                          refine hT 22 ?_; simp only [Act.put, rhA, rhS, rhT]
                          refine hT 23 ?_; simp only [Act.put, rhA, rhS, rhT]
                          refine hT 24 ?_; simp only [Act.put, rhA, rhS, rhT]
                          refine hT 25 ?_; simp only [Act.put, rhA, rhS, rhT]
                          refine hT 26 ?_; simp only [Act.put, rhA, rhS, rhT]
                          refine hT 27 ?_; simp only [Act.put, rhA, rhS, rhT]
                          refine hT 28 ?_; simp only [Act.put, rhA, rhS, rhT]
                          refine hT 29 ?_; simp only [Act.put, rhA, rhS, rhT]
                          refine hT 30 ?_; simp only [Act.put, rhA, rhS, rhT]
                          refine hT 31 ?_; simp only [Act.put, rhA, rhS, rhT]
                          refine hT 32 ?_; simp only [Act.put, rhA, rhS, rhT]
                          refine hT 33 ?_; simp only [Act.put, rhA, rhS, rhT]
                          refine hT 34 ?_; simp only [Act.put, rhA, rhS, rhT]
                          refine hT 35 ?_; simp only [Act.put, rhA, rhS, rhT]
                          refine hT 36 ?_; simp only [Act.put, rhA, rhS, rhT]
                          refine hCall (i := 37) (o := ?a412) ?b412 (by kernel_rfl) ?c412 (fun K hK => ?d412)
                          case b412 => simp only [rhN, rhM]; try rfl
                          case c412 => rfl
                          go_simp
                          refine (HCH.out _ (SK.out.below (by repeat' (first | exact Below.refl _ _ | refine Below.alloc ?_ ?_ _ | refine Below.setCell ?_ ?_ _ | refine Below.drew ?_ | (apply below_step; assumption) | (simp; done) | (simp; omega) | omega))) (SJ.out.below (by repeat' (first | exact Below.refl _ _ | refine Below.alloc ?_ ?_ _ | refine Below.setCell ?_ ?_ _ | refine Below.drew ?_ | (apply below_step; assumption) | (simp; done) | (simp; omega) | omega))) (SL.out.below (by repeat' (first | exact Below.refl _ _ | refine Below.alloc ?_ ?_ _ | refine Below.setCell ?_ ?_ _ | refine Below.drew ?_ | (apply below_step; assumption) | (simp; done) | (simp; omega) | omega))) (SI.out.below (by repeat' (first | exact Below.refl _ _ | refine Below.alloc ?_ ?_ _ | refine Below.setCell ?_ ?_ _ | refine Below.drew ?_ | (apply below_step; assumption) | (simp; done) | (simp; omega) | omega)))).mono ?_
                          rintro e w5 ⟨rfl, hb_w5⟩
                          have hz_w5 := hb_w5.size
                          try simp at hz_w5
                          go_wp2_with fail
                          refine hK.out _ _ (by (try dsimp only); exact HK.out _ (by repeat' (first | exact Below.refl _ _ | refine Below.alloc ?_ ?_ _ | refine Below.setCell ?_ ?_ _ | refine Below.drew ?_ | (apply below_step; assumption) | (simp; done) | (simp; omega) | omega))) (fun hHeld => ?_)
                          clear hK K
                          try simp only [Act.put, rhA, rhS, rhT]
                          refine hT 38 ?_; simp only [Act.put, rhA, rhS, rhT]
                          refine hT 39 ?_; simp only [Act.put, rhA, rhS, rhT]
                          refine wpAnyH_done (by kernel_rfl) ?_ _
                          clear hwr hge
                          cases ok
                          · go_wp2_with fail
                            go_ret
                            exact ⟨by rw [HE.out, HE1.out, HE2.out, HP.out, HD.out, bindsFrom_bad HBO.out]; rfl, below_of hC4 (by repeat' (first | exact Below.refl _ _ | refine Below.alloc ?_ ?_ _ | refine Below.setCell ?_ ?_ _ | refine Below.drew ?_ | (apply below_step; assumption) | (simp; done) | (simp; omega) | omega))⟩
                          · go_wp2_with fail
                            go_roundw
                            case rel =>
                              have hD5 : Below w4.heap.size w4 w5 := (by repeat' (first | exact Below.refl _ _ | refine Below.alloc ?_ ?_ _ | refine Below.setCell ?_ ?_ _ | refine Below.drew ?_ | (apply below_step; assumption) | (simp; done) | (simp; omega) | omega))
                              exact ⟨k + 1, by omega, by go_num, ⟨x.task, by rw [HP.out, HD.out, bindsFrom_yes HBO.out HGE.out], .inr ⟨k, x, rfl, HTK.out, rfl⟩⟩, HBK4.out.below hD5 gl4, below_of hC4 hD5⟩
                            case measure => simp [intOf]; omega
                        · have HGE := Lib.hid (show x.task ≤ x0.task by simpa using hge)
                          go_wp2_with fail
                          refine wp_region_held_drew (S := (fun w' => Below w4.heap.size w4 w' ∧ (∀ o, w'.cell? ⟨w.heap.size, o, none⟩ = (#[.slice (some ⟨bt, ot, none⟩) c.tasks.length e0, .slice (some ⟨bn, on, none⟩) c.nodes.length e1, .slice (some ⟨bb, ob, none⟩) c.binds.length e2] : Array Value)[o]?) ∧ w'.cell? ⟨bt, ot + jt * 7, none⟩ = some (.int .i64 t.id) ∧ w'.cell? ⟨bt, ot + jt * 7 + 1, none⟩ = some (.int .i64 t.prio) ∧ w'.cell? ⟨bt, ot + jt * 7 + 2, none⟩ = some (.int .i64 t.need.c) ∧ w'.cell? ⟨bt, ot + jt * 7 + 3, none⟩ = some (.int .i64 t.need.m) ∧ w'.cell? ⟨bt, ot + jt * 7 + 4, none⟩ = some (.int .i64 t.need.p) ∧ w'.cell? ⟨bt, ot + jt * 7 + 5, none⟩ = some (.slice A1 t.want.length c1) ∧ w'.cell? ⟨bt, ot + jt * 7 + 6, none⟩ = some (.slice A2 t.tols.length c2) ∧ w'.cell? ⟨bn, on + im * 8, none⟩ = some (.int .i64 n.id) ∧ w'.cell? ⟨bn, on + im * 8 + 1, none⟩ = some (.int .i64 n.pool) ∧ w'.cell? ⟨bn, on + im * 8 + 2, none⟩ = some (.int .i64 n.cap.c) ∧ w'.cell? ⟨bn, on + im * 8 + 3, none⟩ = some (.int .i64 n.cap.m) ∧ w'.cell? ⟨bn, on + im * 8 + 4, none⟩ = some (.int .i64 n.cap.p) ∧ w'.cell? ⟨bn, on + im * 8 + 5, none⟩ = some (.slice A3 n.labs.length c3) ∧ w'.cell? ⟨bn, on + im * 8 + 6, none⟩ = some (.slice A4 n.taints.length c4) ∧ w'.cell? ⟨bn, on + im * 8 + 7, none⟩ = some (.bool n.cordon) ∧ w'.cell? ⟨bb, ob + k * 2, none⟩ = some (.int .i64 x.task) ∧ w'.cell? ⟨bb, ob + m * 2, none⟩ = some (.int .i64 x0.task))) (by kernel_rfl) (by (try dsimp only); exact HK.out _ (by repeat' (first | exact Below.refl _ _ | refine Below.alloc ?_ ?_ _ | refine Below.setCell ?_ ?_ _ | refine Below.drew ?_ | (apply below_step; assumption) | (simp; done) | (simp; omega) | omega))) (fun hHeld => ?_)
                          refine hT 0 ?_; simp only [Act.put, rhA, rhS, rhT]
                          refine hT 1 ?_; simp only [Act.put, rhA, rhS, rhT]
                          refine hT 2 ?_; simp only [Act.put, rhA, rhS, rhT]
                          refine hT 3 ?_; simp only [Act.put, rhA, rhS, rhT]
                          refine hT 4 ?_; simp only [Act.put, rhA, rhS, rhT]
                          refine hT 5 ?_; simp only [Act.put, rhA, rhS, rhT]
                          refine hT 6 ?_; simp only [Act.put, rhA, rhS, rhT]
                          refine hT 7 ?_; simp only [Act.put, rhA, rhS, rhT]
                          refine hT 8 ?_; simp only [Act.put, rhA, rhS, rhT]
                          refine hT 9 ?_; simp only [Act.put, rhA, rhS, rhT]
                          refine hT 10 ?_; simp only [Act.put, rhA, rhS, rhT]
                          refine hT 11 ?_; simp only [Act.put, rhA, rhS, rhT]
                          refine hT 12 ?_; simp only [Act.put, rhA, rhS, rhT]
                          refine hT 13 ?_; simp only [Act.put, rhA, rhS, rhT]
                          refine hT 14 ?_; simp only [Act.put, rhA, rhS, rhT]
                          refine hT 15 ?_; simp only [Act.put, rhA, rhS, rhT]
                          refine hT 16 ?_; simp only [Act.put, rhA, rhS, rhT]
                          refine hT 17 ?_; simp only [Act.put, rhA, rhS, rhT]
                          refine hT 18 ?_; simp only [Act.put, rhA, rhS, rhT]
                          refine hT 19 ?_; simp only [Act.put, rhA, rhS, rhT]
                          refine hT 20 ?_; simp only [Act.put, rhA, rhS, rhT]
                          refine hT 21 ?_; simp only [Act.put, rhA, rhS, rhT]
                          refine hT 22 ?_; simp only [Act.put, rhA, rhS, rhT]
                          refine hT 23 ?_; simp only [Act.put, rhA, rhS, rhT]
                          refine hT 24 ?_; simp only [Act.put, rhA, rhS, rhT]
                          refine hT 25 ?_; simp only [Act.put, rhA, rhS, rhT]
                          refine hT 26 ?_; simp only [Act.put, rhA, rhS, rhT]
                          refine hP 27 ?_; simp only [Act.put, rhA, rhS, rhT]
                          refine hP 28 ?_; simp only [Act.put, rhA, rhS, rhT]
                          refine hP 29 ?_; simp only [Act.put, rhA, rhS, rhT]
                          refine hP 30 ?_; simp only [Act.put, rhA, rhS, rhT]
                          refine hP 31 ?_; simp only [Act.put, rhA, rhS, rhT]
                          refine hP 32 ?_; simp only [Act.put, rhA, rhS, rhT]
                          refine hP 33 ?_; simp only [Act.put, rhA, rhS, rhT]
                          refine hP 34 ?_; simp only [Act.put, rhA, rhS, rhT]
                          refine hP 35 ?_; simp only [Act.put, rhA, rhS, rhT]
                          refine hP 36 ?_; simp only [Act.put, rhA, rhS, rhT]
                          refine hP 37 ?_; simp only [Act.put, rhA, rhS, rhT]
                          refine hP 38 ?_; simp only [Act.put, rhA, rhS, rhT]
                          refine hT 39 ?_; simp only [Act.put, rhA, rhS, rhT]
                          refine wpAnyH_done (by kernel_rfl) ?_ _
                          clear hwr hge
                          go_wp2_with fail
                          go_ret
                          exact ⟨by rw [HE.out, HE1.out, HE2.out, HP.out, HD.out, bindsFrom_low HGE.out]; rfl, below_of hC4 (by repeat' (first | exact Below.refl _ _ | refine Below.alloc ?_ ?_ _ | refine Below.setCell ?_ ?_ _ | refine Below.drew ?_ | (apply below_step; assumption) | (simp; done) | (simp; omega) | omega))⟩
                · have hkl : k = c.binds.length := by omega
                  have HE3 := Lib.hid (show bindsFrom c 0 c.binds = true by obtain ⟨p, hp, _⟩ := HTS.out; rw [hp, hkl, List.drop_length]; rfl)
                  clear hkl HTS
                  go_wp2_with fail
                  clear hlt
                  go_loopw [8] (fun s8 wr => ∃ k : Nat, k ≤ c.nodes.length ∧ s8 = .int .i64 k ∧ fitsAll c c.nodes = fitsAll c (c.nodes.drop k) ∧ BlockIs wr w.heap.size 34 #[.slice D0 c.tasks.length e0, .slice D1 c.nodes.length e1, .slice D2 c.binds.length e2] ∧ Below w.heap.size w wr) (fun s8 _ => (c.nodes.length - intOf s8).toNat)
                  case atStart => exact ⟨0, by omega, rfl, by simp, HBK.out, hB⟩
                  case round =>
                    clear HBK hB hzr gc gl g2 hk
                    obtain ⟨k, hk, rfl, hts, hblk, hB⟩ := hrel
                    have HTS := Lib.hid hts
                    have HBK := Lib.hid hblk
                    have hzr := hB.size
                    have gc := hblk.cell
                    have gl := hblk.lt
                    have g1 := gc 1
                    simp at g1
                    clear hts hblk
                    by_cases hlt : k < c.nodes.length
                    · obtain ⟨bn, on, rfl, hbw, hat⟩ := HF.out.hn (by omega)
                      obtain ⟨n, ht⟩ : ∃ t, c.nodes[k]? = some t := ⟨_, List.getElem?_eq_getElem hlt⟩
                      obtain ⟨cs, hR, hC⟩ := (hat.below NodeR.kept hB hbw) k n ht
                      have HD := Lib.hid (drop_at ht)
                      obtain ⟨v1, v2, rfl, sl, si, m1, m2⟩ := hR
                      obtain ⟨q0, q1, q2, q3, q4, q5, q6, q7⟩ := node_cells hC
                      have hki : (k : Int) < (c.nodes.length : Int) := by omega
                      have hk0 : (0 : Int) ≤ (k : Int) := by omega
                      have hbr : bn < wr.heap.size := by omega
                      have hus := fun w1 hw1 => sUsed_any c _ _ _ n.id w w1 hw1 HF.out.clu (bindsFrom_all HE3.out)
                      have hfr : (freeOf c n).2 = if (usedOf c n.id).2 then resSubOk n.cap (usedOf c n.id).1 else false := by unfold freeOf; split <;> rfl
                      generalize (usedOf c n.id).1 = u at hus hfr
                      generalize (usedOf c n.id).2 = ok at hus hfr
                      have HUS := Lib.hid hus
                      have HFR := Lib.hid hfr
                      have HK := Lib.hid (show ∀ w', Below wr.heap.size wr w' → Below wr.heap.size wr w' ∧ (∀ o, w'.cell? ⟨w.heap.size, o, none⟩ = (#[.slice D0 c.tasks.length e0, .slice (some ⟨bn, on, none⟩) c.nodes.length e1, .slice D2 c.binds.length e2] : Array Value)[o]?) ∧ w'.cell? ⟨bn, on + k * 8, none⟩ = some (.int .i64 n.id) from fun w' hb => ⟨hb, fun o => (hb.cell (p := ⟨_, _, none⟩) gl).trans (gc o), (hb.cell (p := ⟨_, _, none⟩) hbr).trans q0⟩)
                      have HQ := Lib.hid (And.intro q2 (And.intro q3 q4))
                      clear hat hC ht sl si m1 m2 hus hfr q1 q2 q3 q4 q5 q6 q7
                      go_upto_region 23 with fail
                      go_cut [9, 10] (fun s9 s10 wx => s10 = .bool ok ∧ PutAt wr u s9 wx)
                      case first =>
                        go_region_held3 (fun w' => Below wr.heap.size wr w' ∧ (∀ o, w'.cell? ⟨w.heap.size, o, none⟩ = (#[.slice D0 c.tasks.length e0, .slice (some ⟨bn, on, none⟩) c.nodes.length e1, .slice D2 c.binds.length e2] : Array Value)[o]?) ∧ w'.cell? ⟨bn, on + k * 8, none⟩ = some (.int .i64 n.id))
                          (exact HK.out _ (by repeat' (first | exact Below.refl _ _ | refine Below.alloc ?_ ?_ _ | refine Below.setCell ?_ ?_ _ | refine Below.drew ?_ | (apply below_step; assumption) | (simp; done) | (simp; omega) | omega)))
                          (first | (go_at_call 17; refine (HUS.out _ (below_of hB (by repeat' (first | exact Below.refl _ _ | refine Below.alloc ?_ ?_ _ | refine Below.setCell ?_ ?_ _ | refine Below.drew ?_ | (apply below_step; assumption) | (simp; done) | (simp; omega) | omega)))).mono ?_; rintro e w3 ⟨rfl, hb3⟩; obtain ⟨hc3, hf3⟩ := bcell hb3; have hl3 := blt hb3; (first | have hm3 := (blast hb3).2.2 | have hm3 := (blastd hb3).2.2 | have hm3 := True.intro); (try simp at hm3); have hz3 := hb3.size; try simp at hz3))
                        all_goals
                          go_wp2_with fail
                          go_meet
                          exact ⟨rfl, _, rfl, by (first | (simp; done) | (go_simp; done)), by (first | (simp; done) | (go_simp; done)), by (first | (simp; done) | (go_simp; done)), (by repeat' (first | exact Below.refl _ _ | refine Below.alloc ?_ ?_ _ | refine Below.setCell ?_ ?_ _ | refine Below.drew ?_ | (apply below_step; assumption) | (simp; done) | (simp; omega) | omega))⟩
                      case rest =>
                        obtain ⟨rfl, g9, rfl, z0, z1, z2, hD2⟩ := hcut
                        have hC2 := below_of hB hD2
                        have hz2 := hD2.size
                        have HBK2 := Lib.hid (HBK.out.below hD2 gl)
                        have gc2 := HBK2.out.cell
                        have gl2 := HBK2.out.lt
                        have hbr2 : bn < wc.heap.size := by omega
                        have hg9 : g9 < wc.heap.size := World.block_lt_of_cell? _ _ z0
                        obtain ⟨q2, q3, q4⟩ := HQ.out
                        have HK := Lib.hid (show ∀ w', Below wc.heap.size wc w' → Below wc.heap.size wc w' ∧ (∀ o, w'.cell? ⟨w.heap.size, o, none⟩ = (#[.slice D0 c.tasks.length e0, .slice (some ⟨bn, on, none⟩) c.nodes.length e1, .slice D2 c.binds.length e2] : Array Value)[o]?) ∧ w'.cell? ⟨g9, 0, none⟩ = some (.int .i64 u.c) ∧ w'.cell? ⟨g9, 1, none⟩ = some (.int .i64 u.m) ∧ w'.cell? ⟨g9, 2, none⟩ = some (.int .i64 u.p) ∧ w'.cell? ⟨bn, on + k * 8 + 2, none⟩ = some (.int .i64 n.cap.c) ∧ w'.cell? ⟨bn, on + k * 8 + 3, none⟩ = some (.int .i64 n.cap.m) ∧ w'.cell? ⟨bn, on + k * 8 + 4, none⟩ = some (.int .i64 n.cap.p) from fun w' hb => ⟨hb, fun o => (hb.cell (p := ⟨_, _, none⟩) gl2).trans (gc2 o), (hb.cell (p := ⟨_, _, none⟩) hg9).trans z0, (hb.cell (p := ⟨_, _, none⟩) hg9).trans z1, (hb.cell (p := ⟨_, _, none⟩) hg9).trans z2,
                          (hb.cell (p := ⟨_, _, none⟩) hbr2).trans ((hD2.cell (p := ⟨_, _, none⟩) hbr).trans q2), (hb.cell (p := ⟨_, _, none⟩) hbr2).trans ((hD2.cell (p := ⟨_, _, none⟩) hbr).trans q3), (hb.cell (p := ⟨_, _, none⟩) hbr2).trans ((hD2.cell (p := ⟨_, _, none⟩) hbr).trans q4)⟩)
                        clear gc gc2 z0 z1 z2 q0 q2 q3 q4 g1 HUS
                        cases ok
                        · go_wp2_with fail
                          refine wp_region_held_drew (S := (fun w' => Below wc.heap.size wc w' ∧ (∀ o, w'.cell? ⟨w.heap.size, o, none⟩ = (#[.slice D0 c.tasks.length e0, .slice (some ⟨bn, on, none⟩) c.nodes.length e1, .slice D2 c.binds.length e2] : Array Value)[o]?) ∧ w'.cell? ⟨g9, 0, none⟩ = some (.int .i64 u.c) ∧ w'.cell? ⟨g9, 1, none⟩ = some (.int .i64 u.m) ∧ w'.cell? ⟨g9, 2, none⟩ = some (.int .i64 u.p) ∧ w'.cell? ⟨bn, on + k * 8 + 2, none⟩ = some (.int .i64 n.cap.c) ∧ w'.cell? ⟨bn, on + k * 8 + 3, none⟩ = some (.int .i64 n.cap.m) ∧ w'.cell? ⟨bn, on + k * 8 + 4, none⟩ = some (.int .i64 n.cap.p))) (by kernel_rfl) (by (try dsimp only); exact HK.out _ (by repeat' (first | exact Below.refl _ _ | refine Below.alloc ?_ ?_ _ | refine Below.setCell ?_ ?_ _ | refine Below.drew ?_ | (apply below_step; assumption) | (simp; done) | (simp; omega) | omega))) (fun hHeld => ?_)
                          refine hT 0 ?_; simp only [Act.put, rhA, rhS, rhT]
                          refine hT 1 ?_; simp only [Act.put, rhA, rhS, rhT]
                          refine hT 2 ?_; simp only [Act.put, rhA, rhS, rhT]
                          refine hP 3 ?_; simp only [Act.put, rhA, rhS, rhT]
                          refine hP 4 ?_; simp only [Act.put, rhA, rhS, rhT]
                          refine hP 5 ?_; simp only [Act.put, rhA, rhS, rhT]
                          refine hP 6 ?_; simp only [Act.put, rhA, rhS, rhT]
                          refine hP 7 ?_; simp only [Act.put, rhA, rhS, rhT]
                          refine hP 8 ?_; simp only [Act.put, rhA, rhS, rhT]
                          refine hP 9 ?_; simp only [Act.put, rhA, rhS, rhT]
                          refine hP 10 ?_; simp only [Act.put, rhA, rhS, rhT]
                          refine hP 11 ?_; simp only [Act.put, rhA, rhS, rhT]
                          refine hT 12 ?_; simp only [Act.put, rhA, rhS, rhT]
                          refine wpAnyH_done (by kernel_rfl) ?_ _
                          go_wp2_with fail
                          go_ret
                          exact ⟨by rw [HE.out, HE1.out, HE2.out, HE3.out, HTS.out, HD.out, fitsAll_no HFR.out]; rfl, below_of hC2 (by repeat' (first | exact Below.refl _ _ | refine Below.alloc ?_ ?_ _ | refine Below.setCell ?_ ?_ _ | refine Below.drew ?_ | (apply below_step; assumption) | (simp; done) | (simp; omega) | omega))⟩
                        · have hfit := fun w => sResFits_any u n.cap w
                          generalize hfo : resSubOk n.cap u = fo at hfit
                          have HFO := Lib.hid hfo
                          have HFIT := Lib.hid hfit
                          clear hfo hfit
                          go_wp2_with fail
                          refine wp_region_held_drew (S := (fun w' => Below wc.heap.size wc w' ∧ (∀ o, w'.cell? ⟨w.heap.size, o, none⟩ = (#[.slice D0 c.tasks.length e0, .slice (some ⟨bn, on, none⟩) c.nodes.length e1, .slice D2 c.binds.length e2] : Array Value)[o]?) ∧ w'.cell? ⟨g9, 0, none⟩ = some (.int .i64 u.c) ∧ w'.cell? ⟨g9, 1, none⟩ = some (.int .i64 u.m) ∧ w'.cell? ⟨g9, 2, none⟩ = some (.int .i64 u.p) ∧ w'.cell? ⟨bn, on + k * 8 + 2, none⟩ = some (.int .i64 n.cap.c) ∧ w'.cell? ⟨bn, on + k * 8 + 3, none⟩ = some (.int .i64 n.cap.m) ∧ w'.cell? ⟨bn, on + k * 8 + 4, none⟩ = some (.int .i64 n.cap.p))) (by kernel_rfl) (by (try dsimp only); exact HK.out _ (by repeat' (first | exact Below.refl _ _ | refine Below.alloc ?_ ?_ _ | refine Below.setCell ?_ ?_ _ | refine Below.drew ?_ | (apply below_step; assumption) | (simp; done) | (simp; omega) | omega))) (fun hHeld => ?_)
                          refine hT 0 ?_; simp only [Act.put, rhA, rhS, rhT]
                          refine hT 1 ?_; simp only [Act.put, rhA, rhS, rhT]
                          refine hT 2 ?_; simp only [Act.put, rhA, rhS, rhT]
                          refine hT 3 ?_; simp only [Act.put, rhA, rhS, rhT]
                          refine hT 4 ?_; simp only [Act.put, rhA, rhS, rhT]
                          refine hT 5 ?_; simp only [Act.put, rhA, rhS, rhT]
                          refine hT 6 ?_; simp only [Act.put, rhA, rhS, rhT]
                          refine hT 7 ?_; simp only [Act.put, rhA, rhS, rhT]
                          refine hT 8 ?_; simp only [Act.put, rhA, rhS, rhT]
                          refine hT 9 ?_; simp only [Act.put, rhA, rhS, rhT]
                          refine hCall (i := 10) (o := ?a487) ?b487 (by kernel_rfl) ?c487 (fun K hK => ?d487)
                          case b487 => simp only [rhN, rhM]; try rfl
                          case c487 => rfl
                          go_simp
                          refine (HFIT.out _).mono ?_
                          rintro e w5 ⟨rfl, hb_w5⟩
                          have hz_w5 := hb_w5.size
                          try simp at hz_w5
                          go_wp2_with fail
                          refine hK.out _ _ (by (try dsimp only); exact HK.out _ (by repeat' (first | exact Below.refl _ _ | refine Below.alloc ?_ ?_ _ | refine Below.setCell ?_ ?_ _ | refine Below.drew ?_ | (apply below_step; assumption) | (simp; done) | (simp; omega) | omega))) (fun hHeld => ?_)
                          clear hK K
                          try simp only [Act.put, rhA, rhS, rhT]
                          refine hT 11 ?_; simp only [Act.put, rhA, rhS, rhT]
                          refine hT 12 ?_; simp only [Act.put, rhA, rhS, rhT]
                          refine wpAnyH_done (by kernel_rfl) ?_ _
                          cases fo
                          · go_wp2_with fail
                            go_ret
                            exact ⟨by rw [HE.out, HE1.out, HE2.out, HE3.out, HTS.out, HD.out, fitsAll_no (HFR.out.trans HFO.out)]; rfl, below_of hC2 (by repeat' (first | exact Below.refl _ _ | refine Below.alloc ?_ ?_ _ | refine Below.setCell ?_ ?_ _ | refine Below.drew ?_ | (apply below_step; assumption) | (simp; done) | (simp; omega) | omega))⟩
                          · go_wp2_with fail
                            go_roundw
                            case rel =>
                              have hD5 : Below wc.heap.size wc w5 := (by repeat' (first | exact Below.refl _ _ | refine Below.alloc ?_ ?_ _ | refine Below.setCell ?_ ?_ _ | refine Below.drew ?_ | (apply below_step; assumption) | (simp; done) | (simp; omega) | omega))
                              exact ⟨k + 1, by omega, by go_num, by rw [HTS.out, HD.out, fitsAll_yes (HFR.out.trans HFO.out)], HBK2.out.below hD5 gl2, below_of hC2 hD5⟩
                            case measure => simp [intOf]; omega
                    · have hkl : k = c.nodes.length := by omega
                      have HE4 := Lib.hid (show fitsAll c c.nodes = true by rw [HTS.out, hkl, List.drop_length]; rfl)
                      clear hkl HTS
                      go_wp2_with fail
                      go_ret
                      exact ⟨by rw [HE.out, HE1.out, HE2.out, HE3.out, HE4.out]; rfl, hB⟩
    · have HE := Lib.hid (show clusterOk c = false by simp [clusterOk, nodesOk, h20])
      have hd30 : decide ((30 : Int) < (c.tasks.length : Int)) = false := by simp; omega
      have hd20 : decide ((20 : Int) < (c.nodes.length : Int)) = true := by simp; omega
      clear h30 h20
      go_enter Tryz.func16, Tryz.ntmps16
      go_wp2_with fail
      go_ret
      exact ⟨by rw [HE.out]; rfl, (by repeat' (first | exact Below.refl _ _ | refine Below.alloc ?_ ?_ _ | refine Below.setCell ?_ ?_ _ | refine Below.drew ?_ | (apply below_step; assumption) | (simp; done) | (simp; omega) | omega))⟩
  · have HE := Lib.hid (show clusterOk c = false by simp [clusterOk, tasksOk, h30])
    have hd30 : decide ((30 : Int) < (c.tasks.length : Int)) = true := by simp; omega
    clear h30
    go_enter Tryz.func16, Tryz.ntmps16
    go_wp2_with fail
    go_ret
    exact ⟨by rw [HE.out]; rfl, (by repeat' (first | exact Below.refl _ _ | refine Below.alloc ?_ ?_ _ | refine Below.setCell ?_ ?_ _ | refine Below.drew ?_ | (apply below_step; assumption) | (simp; done) | (simp; omega) | omega))⟩
end Go.Proofs.YtkaecjjbammphaaGreatDoor
