/- The contract of the model's ResSum. -/
import Derived.Test.YtocfgejceoenmaaGreatDoorSumI
import Derived.Test.YtocfgejceoenmaaGreatDoorTwo
namespace Go.Proofs.YtocfgejceoenmaaGreatDoor
open Go.RowKit

theorem six_keep (X : World) {b0 o0 b1 o1 b2 o2 b3 o3 b4 o4 b5 o5 : Nat} {v0 v1 v2 v3 v4 v5 : Value} (h : X.cell? ⟨b0, o0, none⟩ = some v0 ∧ X.cell? ⟨b1, o1, none⟩ = some v1 ∧ X.cell? ⟨b2, o2, none⟩ = some v2 ∧ X.cell? ⟨b3, o3, none⟩ = some v3 ∧ X.cell? ⟨b4, o4, none⟩ = some v4 ∧ X.cell? ⟨b5, o5, none⟩ = some v5) : ∀ w' : World, Below X.heap.size X w' → Below X.heap.size X w' ∧ w'.cell? ⟨b0, o0, none⟩ = some v0 ∧ w'.cell? ⟨b1, o1, none⟩ = some v1 ∧ w'.cell? ⟨b2, o2, none⟩ = some v2 ∧ w'.cell? ⟨b3, o3, none⟩ = some v3 ∧ w'.cell? ⟨b4, o4, none⟩ = some v4 ∧ w'.cell? ⟨b5, o5, none⟩ = some v5 := by
  intro w' hb
  obtain ⟨h0, h1, h2, h3, h4, h5⟩ := h
  refine ⟨hb, ?_, ?_, ?_, ?_, ?_, ?_⟩
  · exact (hb.cell (p := ⟨b0, o0, none⟩) (World.block_lt_of_cell? _ _ h0)).trans h0
  · exact (hb.cell (p := ⟨b1, o1, none⟩) (World.block_lt_of_cell? _ _ h1)).trans h1
  · exact (hb.cell (p := ⟨b2, o2, none⟩) (World.block_lt_of_cell? _ _ h2)).trans h2
  · exact (hb.cell (p := ⟨b3, o3, none⟩) (World.block_lt_of_cell? _ _ h3)).trans h3
  · exact (hb.cell (p := ⟨b4, o4, none⟩) (World.block_lt_of_cell? _ _ h4)).trans h4
  · exact (hb.cell (p := ⟨b5, o5, none⟩) (World.block_lt_of_cell? _ _ h5)).trans h5

set_option maxHeartbeats 1600000 in
theorem sResSum_any (v : Value) (l : List RV) (w : World) (hv : ResSl w v l) (hlen : l.length ≤ 1048576) :
    Calls Tryz.prog 130 #[v] w (RetR (sumGo RV.zero l).1 (sumGo RV.zero l).2 w) := by
  obtain ⟨A, c, rfl, hA⟩ := hv.form
  have HA := Lib.hid hA
  clear hA hv
  go_enter Tryz.func130, Tryz.ntmps130
  go_wp2_with fail
  go_loopw [5] (fun s5 wr => ∃ (k : Nat) (s : RV), k ≤ l.length ∧ s5 = .int .i64 k ∧ sumGo RV.zero l = sumGo s (l.drop k) ∧ SumAt ((w.alloc (.cells #[.int .i64 0, .int .i64 0, .int .i64 0] 43)).alloc (.cells #[.int .i64 0, .int .i64 0, .int .i64 0] 43)) (w.heap.size + 1) s wr) (fun s5 _ => (l.length - intOf s5).toNat)
  case atStart =>
    refine ⟨0, RV.zero, by omega, rfl, by rw [List.drop_zero], (by repeat' (first | exact Below.refl _ _ | refine Below.alloc ?_ ?_ _ | refine Below.setCell ?_ ?_ _ | refine Below.drew ?_ | (apply below_step; assumption) | (simp; done) | (simp; omega) | omega)), by simp, ?_⟩
    have := BlockIs.new (w.alloc (.cells #[.int .i64 0, .int .i64 0, .int .i64 0] 43)) 43 #[.int .i64 0, .int .i64 0, .int .i64 0]
    simpa [RV.zero] using this
  case round =>
    obtain ⟨k, s, hk, rfl, hsum, hB, hzr, hblk⟩ := hrel
    have HS := Lib.hid hsum
    clear hsum
    simp at hzr
    have t0 := hblk.cell 0
    have t1 := hblk.cell 1
    have t2 := hblk.cell 2
    have tf := hblk.frozen
    simp at t0 t1 t2
    have hBL := Lib.hid hblk
    clear hblk
    have hcr : ∀ b o, b < w.heap.size + 1 → wr.cell? ⟨b, o, none⟩ = ((w.alloc (.cells #[.int .i64 0, .int .i64 0, .int .i64 0] 43)).alloc (.cells #[.int .i64 0, .int .i64 0, .int .i64 0] 43)).cell? ⟨b, o, none⟩ := fun b o h => hB.cell (p := ⟨b, o, none⟩) h
    have hfr : ∀ b o, b < w.heap.size + 1 → wr.frozen? ⟨b, o, none⟩ = ((w.alloc (.cells #[.int .i64 0, .int .i64 0, .int .i64 0] 43)).alloc (.cells #[.int .i64 0, .int .i64 0, .int .i64 0] 43)).frozen? ⟨b, o, none⟩ := fun b o h => hB.frozen (p := ⟨b, o, none⟩) h
    by_cases hlt : k < l.length
    · obtain ⟨b, off, rfl, hbw, hat⟩ := HA.out (by omega)
      obtain ⟨r, hr⟩ : ∃ r, l[k]? = some r := ⟨_, List.getElem?_eq_getElem hlt⟩
      have hd := drop_at hr
      obtain ⟨q0, q1, q2⟩ := hat k r hr
      have hbn : b < w.heap.size + 1 := by omega
      have HSD := Lib.hid (HS.out.trans (congrArg (sumGo s) hd))
      have hr1 : w.heap.size + 1 < wr.heap.size := by omega
      clear hd hr hat
      have hadd := fun w => sResAdd_any s r w
      have hbr : b < wr.heap.size := by omega
      have e0 : wr.cell? ⟨b, off + k * 3, none⟩ = some (.int .i64 r.c) := by rw [hcr _ _ hbn, World.cell?_alloc_lt _ _ _ (by simp; omega), World.cell?_alloc_lt _ _ _ hbw]; exact q0
      have e1 : wr.cell? ⟨b, off + k * 3 + 1, none⟩ = some (.int .i64 r.m) := by rw [hcr _ _ hbn, World.cell?_alloc_lt _ _ _ (by simp; omega), World.cell?_alloc_lt _ _ _ hbw]; exact q1
      have e2 : wr.cell? ⟨b, off + k * 3 + 2, none⟩ = some (.int .i64 r.p) := by rw [hcr _ _ hbn, World.cell?_alloc_lt _ _ _ (by simp; omega), World.cell?_alloc_lt _ _ _ hbw]; exact q2
      have HK := Lib.hid (six_keep wr ⟨t0, t1, t2, e0, e1, e2⟩)
      have hlti : (k : Int) < (l.length : Int) := by omega
      have hk0 : (0 : Int) ≤ (k : Int) := by omega
      generalize ho : resAddOk s r = ok at hadd
      have HADD := Lib.hid hadd
      have HO := Lib.hid ho
      clear hadd ho e0 e1 e2
      go_upto_region 5 with fail
      go_cut [6, 7] (fun s6 s7 wx => s7 = .bool ok ∧ PutAt wr (resAdd s r) s6 wx)
      case first =>
        go_region_held3 (fun w' => Below wr.heap.size wr w' ∧ w'.cell? ⟨w.heap.size + 1, 0, none⟩ = some (.int .i64 s.c) ∧ w'.cell? ⟨w.heap.size + 1, 1, none⟩ = some (.int .i64 s.m) ∧ w'.cell? ⟨w.heap.size + 1, 2, none⟩ = some (.int .i64 s.p) ∧ w'.cell? ⟨b, off + k * 3, none⟩ = some (.int .i64 r.c) ∧ w'.cell? ⟨b, off + k * 3 + 1, none⟩ = some (.int .i64 r.m) ∧ w'.cell? ⟨b, off + k * 3 + 2, none⟩ = some (.int .i64 r.p))
          (exact HK.out _ (by repeat' (first | exact Below.refl _ _ | refine Below.alloc ?_ ?_ _ | refine Below.setCell ?_ ?_ _ | refine Below.drew ?_ | (apply below_step; assumption) | (simp; done) | (simp; omega) | omega)))
          (first | (go_at_call 165; refine (HADD.out _).mono ?_; rintro e w3 ⟨rfl, hb3⟩; obtain ⟨hc3, hf3⟩ := bcell hb3; have hl3 := blt hb3; (first | have hm3 := (blast hb3).2.2 | have hm3 := (blastd hb3).2.2 | have hm3 := True.intro); (try simp at hm3); have hz3 := hb3.size; try simp at hz3))
        all_goals
          go_wp2_with fail
          go_meet
          exact ⟨rfl, _, rfl, by (first | (simp; done) | (go_simp; done)), by (first | (simp; done) | (go_simp; done)), by (first | (simp; done) | (go_simp; done)), (by repeat' (first | exact Below.refl _ _ | refine Below.alloc ?_ ?_ _ | refine Below.setCell ?_ ?_ _ | refine Below.drew ?_ | (apply below_step; assumption) | (simp; done) | (simp; omega) | omega))⟩
      case rest =>
        obtain ⟨rfl, g6, rfl, m0, m1, m2, hB2⟩ := hcut
        have hz2 := hB2.size
        obtain ⟨hc2, hf2⟩ := bcell hB2
        have hq0 : w.heap.size < wc.heap.size := by omega
        have hq1 : w.heap.size + 1 < wc.heap.size := by omega
        have hq2 : w.heap.size < wr.heap.size := by omega
        cases ok
        · have HF : Hid (sumGo RV.zero l = (RV.zero, false)) := HSD.out.trans (sumGo_cons_no HO.out)
          have hz : ∀ o, wc.cell? ⟨w.heap.size, o, none⟩ = wr.cell? ⟨w.heap.size, o, none⟩ := fun o => hc2 _ _ hq2
          go_wp2_with fail
          refine bodyPost_ret (v := .tuple #[.agg #[.int .i64 RV.zero.c, .int .i64 RV.zero.m, .int .i64 RV.zero.p], .bool false]) (by first | (simp [results, Tryz.results130, go_sem, hz]; done) | (simp [results, Tryz.results130, go_sem, hz, hcr]; done) | (simp [results, Tryz.results130, go_sem, hz, hcr, RV.zero]; done) | simp [results, Tryz.results130, go_sem, hz, hcr, hq0, RV.zero]) rfl ?_
          rw [HF.out]
          exact ⟨rfl, (by repeat' (first | exact Below.refl _ _ | refine Below.alloc ?_ ?_ _ | refine Below.setCell ?_ ?_ _ | refine Below.drew ?_ | (apply below_step; assumption) | (simp; done) | (simp; omega) | omega))⟩
        · go_wp2_with fail
          go_roundw
          case rel =>
            refine ⟨k + 1, resAdd s r, by omega, by go_num, HSD.out.trans (sumGo_cons_yes HO.out), (by repeat' (first | exact Below.refl _ _ | refine Below.alloc ?_ ?_ _ | refine Below.setCell ?_ ?_ _ | refine Below.drew ?_ | (apply below_step; assumption) | (simp; done) | (simp; omega) | omega)), by simp; omega, ?_⟩
            have hb4 := (((hBL.out.below hB2 (by omega)).put 0 (.int .i64 (resAdd s r).c)).put 1 (.int .i64 (resAdd s r).m)).put 2 (.int .i64 (resAdd s r).p)
            simpa using hb4
          case measure => simp [intOf]; omega
    · have hkl : k = l.length := by omega
      have HF : Hid (sumGo RV.zero l = (s, true)) := by
        show _ = _
        rw [HS.out, hkl, List.drop_length]; rfl
      clear hkl
      have hr0 : w.heap.size < wr.heap.size := by omega
      go_wp2_with fail
      refine bodyPost_ret (v := .tuple #[.agg #[.int .i64 s.c, .int .i64 s.m, .int .i64 s.p], .bool true]) (by first | (simp [results, Tryz.results130, go_sem, hcr]; done) | simp [results, Tryz.results130, go_sem, hcr, t0, t1, t2]) rfl ?_
      rw [HF.out]
      exact ⟨rfl, (by repeat' (first | exact Below.refl _ _ | refine Below.alloc ?_ ?_ _ | refine Below.setCell ?_ ?_ _ | refine Below.drew ?_ | (apply below_step; assumption) | (simp; done) | (simp; omega) | omega))⟩
end Go.Proofs.YtocfgejceoenmaaGreatDoor
