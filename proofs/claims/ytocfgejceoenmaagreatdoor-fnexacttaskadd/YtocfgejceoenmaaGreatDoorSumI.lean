/- The contract of ResSum. -/
import Derived.Test.YtocfgejceoenmaaGreatDoorBlocks
import Derived.Test.YtocfgejceoenmaaGreatDoorSumPure
import Derived.Test.YtocfgejceoenmaaGreatDoorResC
namespace Go.Proofs.YtocfgejceoenmaaGreatDoor
open Go.RowKit

theorem ResSl.form {w : World} {v : Value} {l : List RV} (h : ResSl w v l) : ∃ A c, v = .slice A l.length c ∧ (0 < l.length → ∃ b off, A = some ⟨b, off, none⟩ ∧ b < w.heap.size ∧ ResAt w b off l) := by
  rcases h with ⟨rfl, A, c, rfl⟩ | ⟨b, off, c, rfl, hlt, h⟩
  · exact ⟨A, c, rfl, fun h => absurd h (by simp)⟩
  · exact ⟨_, c, rfl, fun _ => ⟨b, off, rfl, hlt, h⟩⟩
/-- Block g holds the sum so far; below it nothing has turned since X. -/
def SumAt (X : World) (g : Nat) (s : RV) (wr : World) : Prop := Below g X wr ∧ X.heap.size ≤ wr.heap.size ∧ BlockIs wr g 43 #[.int .i64 s.c, .int .i64 s.m, .int .i64 s.p]

set_option maxHeartbeats 1600000 in
theorem ResSum_any (v : Value) (l : List RV) (w : World) (x : Addr) (hg : ErrAt x w) (hv : ResSl w v l) (hlen : l.length ≤ 1048576) :
    Calls Tryz.prog 191 #[v] w (RetR (sumGo RV.zero l).1 (sumGo RV.zero l).2 w) := by
  obtain ⟨A, c, rfl, hA⟩ := hv.form
  have HA := Lib.hid hA
  clear hA hv
  have hgw := hg.lt
  go_enter Tryz.func191, Tryz.ntmps191
  go_wp2_with fail
  go_loopw [12] (fun s12 wr => ∃ (k : Nat) (s : RV), k ≤ l.length ∧ s12 = .int .i64 k ∧ sumGo RV.zero l = sumGo s (l.drop k) ∧ SumAt ((w.alloc (.cells #[.int .i64 0, .int .i64 0, .int .i64 0] 43)).alloc (.cells #[.int .i64 0, .int .i64 0, .int .i64 0] 43)) (w.heap.size + 1) s wr) (fun s12 _ => (l.length - intOf s12).toNat)
  case atStart =>
    refine ⟨0, RV.zero, by omega, rfl, by rw [List.drop_zero], (by repeat' (first | exact Below.refl _ _ | refine Below.alloc ?_ ?_ _ | refine Below.setCell ?_ ?_ _ | refine Below.drew ?_ | (apply below_step; assumption) | (simp; done) | (simp; omega) | omega)), by simp, ?_⟩
    have := BlockIs.new (w.alloc (.cells #[.int .i64 0, .int .i64 0, .int .i64 0] 43)) 43 #[.int .i64 0, .int .i64 0, .int .i64 0]
    simpa [RV.zero] using this
  case round =>
    obtain ⟨k, s, hk, rfl, hsum, hB, hzr, hblk⟩ := hrel
    have HS := Lib.hid hsum
    clear hsum
    simp at hzr
    have t0 := hblk.cell 0
    have t1 := hblk.cell 1
    have t2 := hblk.cell 2
    have tf := hblk.frozen
    simp at t0 t1 t2
    have hBL := Lib.hid hblk
    clear hblk
    have hcr : ∀ b o, b < w.heap.size + 1 → wr.cell? ⟨b, o, none⟩ = ((w.alloc (.cells #[.int .i64 0, .int .i64 0, .int .i64 0] 43)).alloc (.cells #[.int .i64 0, .int .i64 0, .int .i64 0] 43)).cell? ⟨b, o, none⟩ := fun b o h => hB.cell (p := ⟨b, o, none⟩) h
    have hfr : ∀ b o, b < w.heap.size + 1 → wr.frozen? ⟨b, o, none⟩ = ((w.alloc (.cells #[.int .i64 0, .int .i64 0, .int .i64 0] 43)).alloc (.cells #[.int .i64 0, .int .i64 0, .int .i64 0] 43)).frozen? ⟨b, o, none⟩ := fun b o h => hB.frozen (p := ⟨b, o, none⟩) h
    by_cases hlt : k < l.length
    · obtain ⟨b, off, rfl, hbw, hat⟩ := HA.out (by omega)
      obtain ⟨r, hr⟩ : ∃ r, l[k]? = some r := ⟨_, List.getElem?_eq_getElem hlt⟩
      have hd := drop_at hr
      obtain ⟨q0, q1, q2⟩ := hat k r hr
      have hbn : b < w.heap.size + 1 := by omega
      have HSD := Lib.hid (HS.out.trans (congrArg (sumGo s) hd))
      have hg1 : ErrAt x wr := by
        unfold ErrAt at *
        rw [hcr _ _ (by omega), World.cell?_alloc_lt _ _ _ (by simp <;> omega), World.cell?_alloc_lt _ _ _ hgw]; exact hg
      have hr1 : w.heap.size + 1 < wr.heap.size := by omega
      clear hd hr hat
      have hadd := fun w hg => ResAdd_any s r w x hg
      cases ho : resAddOk s r
      all_goals
        simp only [ho] at hadd
        have HADD := Lib.hid hadd
        have HO := Lib.hid ho
        clear hadd ho
        go_wp2_with fail
        refine (HADD.out _ (hg1.alloc _)).mono ?_
        rintro e w3 ⟨rfl, hb3⟩
        obtain ⟨hc3, hf3⟩ := bcell hb3
        have hz3 := hb3.size
        simp at hz3
        have hq0 : w.heap.size < w3.heap.size := by omega
        have hq1 : w.heap.size + 1 < w3.heap.size := by omega
        have hq2 : w.heap.size < wr.heap.size := by omega
        go_wp2_with fail
      · have HF : Hid (sumGo RV.zero l = (RV.zero, false)) := HSD.out.trans (sumGo_cons_no HO.out)
        have hz : ∀ o, w3.cell? ⟨w.heap.size, o, none⟩ = wr.cell? ⟨w.heap.size, o, none⟩ := fun o => by rw [hc3 _ _ (by simp; omega), World.cell?_alloc_lt _ _ _ hq2]
        refine bodyPost_ret (v := .tuple #[.agg #[.int .i64 RV.zero.c, .int .i64 RV.zero.m, .int .i64 RV.zero.p], .bool false]) (by simp [results, Tryz.results191, go_sem, hz, hcr, hq0, RV.zero]) rfl ?_
        rw [HF.out]
        exact ⟨rfl, (by repeat' (first | exact Below.refl _ _ | refine Below.alloc ?_ ?_ _ | refine Below.setCell ?_ ?_ _ | refine Below.drew ?_ | (apply below_step; assumption) | (simp; done) | (simp; omega) | omega))⟩
      · go_roundw
        case rel =>
          refine ⟨k + 1, resAdd s r, by omega, by go_num, HSD.out.trans (sumGo_cons_yes HO.out), (by repeat' (first | exact Below.refl _ _ | refine Below.alloc ?_ ?_ _ | refine Below.setCell ?_ ?_ _ | refine Below.drew ?_ | (apply below_step; assumption) | (simp; done) | (simp; omega) | omega)), by simp; omega, ?_⟩
          have hb4 := ((((((hBL.out.alloc _).below hb3 (by simp; omega)).put 0 (.int .i64 (resAdd s r).c)).put 1 (.int .i64 (resAdd s r).m)).put 2 (.int .i64 (resAdd s r).p))).alloc (.cells #[.int .i64 (resAdd s r).c, .int .i64 (resAdd s r).m, .int .i64 (resAdd s r).p] 43)
          simpa using hb4
        case measure => simp [intOf]; omega
    · have hkl : k = l.length := by omega
      have HF : Hid (sumGo RV.zero l = (s, true)) := by
        show _ = _
        rw [HS.out, hkl, List.drop_length]; rfl
      clear hkl
      have hr0 : w.heap.size < wr.heap.size := by omega
      go_wp2_with fail
      refine bodyPost_ret (v := .tuple #[.agg #[.int .i64 s.c, .int .i64 s.m, .int .i64 s.p], .bool true]) (by first | (simp [results, Tryz.results191, go_sem, hcr]; done) | simp [results, Tryz.results191, go_sem, hcr, t0, t1, t2]) rfl ?_
      rw [HF.out]
      exact ⟨rfl, (by repeat' (first | exact Below.refl _ _ | refine Below.alloc ?_ ?_ _ | refine Below.setCell ?_ ?_ _ | refine Below.drew ?_ | (apply below_step; assumption) | (simp; done) | (simp; omega) | omega))⟩
end Go.Proofs.YtocfgejceoenmaaGreatDoor
