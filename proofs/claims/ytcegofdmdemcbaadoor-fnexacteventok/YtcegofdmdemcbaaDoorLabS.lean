/- The contracts of the model's LabsOk, LabsGet, LabsMatch. -/
import Derived.Test.YtcegofdmdemcbaaDoorLabE
import Derived.IntWalk
namespace Go.Proofs.YtcegofdmdemcbaaDoor
open Go.RowKit

theorem sLabsOk_long (A : Option Addr) (n c : Nat) (w : World) (h : 6 < n) (hm : n ≤ 1048576) :
    Calls Tryd.prog 24 #[.slice A n c] w fun e w' => e = .returned (.bool false) ∧ Below w.heap.size w w' := by
  have h6 : (6 : Int) < (n : Int) := by omega
  go_enter Tryd.func24, Tryd.ntmps24
  go_wp2_with fail
  go_ret
  exact ⟨rfl, (by repeat' (first | exact Below.refl _ _ | refine Below.alloc ?_ ?_ _ | refine Below.setCell ?_ ?_ _ | refine Below.drew ?_ | (apply below_step; assumption) | (simp; done) | (simp; omega) | omega))⟩

/-- The Key ahead of place k. -/
def lastK (l : List LV) (k : Nat) : Int := if k = 0 then -1 else (l.getD (k - 1) ⟨0, 0⟩).k

set_option maxHeartbeats 3200000 in
theorem sLabsOk_short (v : Value) (l : List LV) (w : World) (hv : LabSl w v l) (hlen : l.length ≤ 6) :
    Calls Tryd.prog 24 #[v] w fun e w' => e = .returned (.bool (labsOk l)) ∧ Below w.heap.size w w' := by
  obtain ⟨A, c, rfl, hA⟩ := hv.form
  have HA := Lib.hid hA
  have HO := Lib.hid (labsOk_short hlen)
  clear hA hv
  have hl6 : (l.length : Int) ≤ 6 := by omega
  go_enter Tryd.func24, Tryd.ntmps24
  go_wp2_with fail
  go_loopw [3] (fun s3 wr => ∃ (k : Nat), k ≤ l.length ∧ s3 = .int .i64 k ∧ labsFrom (-1) l = labsFrom (lastK l k) (l.drop k) ∧ Below w.heap.size w wr) (fun s3 _ => (l.length - intOf s3).toNat)
  case atStart => exact ⟨0, by omega, rfl, by rw [List.drop_zero]; rfl, Below.refl _ _⟩
  case round =>
    obtain ⟨k, hk, rfl, hF, hB⟩ := hrel
    have HF := Lib.hid hF
    have hzr := hB.size
    clear hF
    by_cases hlt : k < l.length
    · obtain ⟨b, off, rfl, hbw, hat⟩ := HA.out (by omega)
      obtain ⟨r, hr⟩ : ∃ r, l[k]? = some r := ⟨_, List.getElem?_eq_getElem hlt⟩
      have HD := Lib.hid (drop_at hr)
      have HN : Hid (lastK l (k + 1) = r.k) := by
        show _ = _
        simp [lastK, List.getD, hr]
      obtain ⟨q0, q1⟩ := (hat.below hB hbw) k r hr
      have hlti : (k : Int) < (l.length : Int) := by omega
      have hbr : b < wr.heap.size := by omega
      rcases (show r.k < 0 ∨ (0 ≤ r.k ∧ 9 < r.k) ∨ (0 ≤ r.k ∧ r.k ≤ 9 ∧ r.v < 0) ∨ (0 ≤ r.k ∧ r.k ≤ 9 ∧ 0 ≤ r.v ∧ 9 < r.v) ∨ (0 ≤ r.k ∧ r.k ≤ 9 ∧ 0 ≤ r.v ∧ r.v ≤ 9) by omega) with g | g | g | g | g
      case inr.inr.inr.inr => 
        obtain ⟨g0, g1, g2, g3⟩ := g
        have HR := Lib.hid (LV.ok_iff.2 ⟨g0, g1, g2, g3⟩)
        by_cases hk0 : k = 0
        · have HL : Hid (lastK l k < r.k) := by
            show _ < _
            rw [hk0]; simp [lastK]; omega
          have HK0 := Lib.hid hk0
          have hkb : decide (0 < k) = false := by simp; omega
          have b0 : decide (r.k < 0) = false := by simp; omega
          have b1 : decide (9 < r.k) = false := by simp; omega
          have b2 : decide (r.v < 0) = false := by simp; omega
          have b3 : decide (9 < r.v) = false := by simp; omega
          clear hat hr hk0 g0 g1 g2 g3
          go_wp2_with fail
          go_quiet (fail)
          go_wp2_with fail
          go_roundw
          case rel =>
            refine ⟨k + 1, by omega, by go_num, ?_, (by repeat' (first | exact Below.refl _ _ | refine Below.alloc ?_ ?_ _ | refine Below.setCell ?_ ?_ _ | refine Below.drew ?_ | refine below_drewN ?_ _ | (apply below_step; assumption) | (simp; done) | (simp; omega) | omega))⟩
            rw [HF.out, HD.out, HN.out, labsFrom_yes HR.out HL.out]
          case measure => simp [intOf]; omega
        · obtain ⟨q, hq⟩ : ∃ q, l[k - 1]? = some q := ⟨_, List.getElem?_eq_getElem (by omega)⟩
          obtain ⟨p0, _⟩ := (hat.below hB hbw) (k - 1) q hq
          have HL : Hid (lastK l k = q.k) := by
            show _ = _
            simp [lastK, List.getD, hq, hk0]
          have hkb : decide (0 < k) = true := by simp; omega
          have b0 : decide (r.k < 0) = false := by simp; omega
          have b1 : decide (9 < r.k) = false := by simp; omega
          have b2 : decide (r.v < 0) = false := by simp; omega
          have b3 : decide (9 < r.v) = false := by simp; omega
          have n1 : (0 : Int) ≤ (k : Int) - 1 := by omega
          have n2 : (1 : Int) ≤ (k : Int) := by omega
          have n3 : (k : Int) - 1 < (l.length : Int) := by omega
          have n4 : ((k : Int) - 1).toNat = k - 1 := by omega
          have n5 : IntKind.i64.wrap ((k : Int) - 1) = (k : Int) - 1 := IntWalk.i64_in _ (by omega)
          by_cases hle : r.k ≤ q.k
          · have HLE := Lib.hid hle
            have b4 : decide (r.k ≤ q.k) = true := by simpa using hle
            clear hat hr hk0 g0 g1 g2 g3 hq hle
            go_wp2_with fail
            go_quiet (fail)
            go_wp2_with fail
            have HX : Hid (labsOk l = false) := by
              show _ = _
              rw [HO.out, HF.out, HD.out, labsFrom_low (by rw [HL.out]; exact HLE.out)]
            go_ret
            rw [HX.out]
            exact ⟨rfl, (by repeat' (first | exact Below.refl _ _ | refine Below.alloc ?_ ?_ _ | refine Below.setCell ?_ ?_ _ | refine Below.drew ?_ | refine below_drewN ?_ _ | (apply below_step; assumption) | (simp; done) | (simp; omega) | omega))⟩
          · have HLE := Lib.hid (show q.k < r.k by omega)
            have b4 : decide (r.k ≤ q.k) = false := by simp; omega
            clear hat hr hk0 g0 g1 g2 g3 hq hle
            go_wp2_with fail
            go_quiet (fail)
            go_wp2_with fail
            clear n4 n5
            go_roundw
            case rel =>
              refine ⟨k + 1, by omega, by go_num, ?_, (by repeat' (first | exact Below.refl _ _ | refine Below.alloc ?_ ?_ _ | refine Below.setCell ?_ ?_ _ | refine Below.drew ?_ | refine below_drewN ?_ _ | (apply below_step; assumption) | (simp; done) | (simp; omega) | omega))⟩
              rw [HF.out, HD.out, HN.out, labsFrom_yes HR.out (by rw [HL.out]; exact HLE.out)]
            case measure => simp [intOf]; omega
      · have HR := Lib.hid (LV.bad_iff.2 (show ¬ (0 ≤ r.k ∧ r.k ≤ 9 ∧ 0 ≤ r.v ∧ r.v ≤ 9) by omega))
        have b0 : decide (r.k < 0) = true := by simp; omega
        clear hat hr g
        go_wp2_with fail
        go_quiet (fail)
        go_wp2_with fail
        have HX : Hid (labsOk l = false) := by
          show _ = _
          rw [HO.out, HF.out, HD.out, labsFrom_bad HR.out]
        go_ret
        rw [HX.out]
        exact ⟨rfl, (by repeat' (first | exact Below.refl _ _ | refine Below.alloc ?_ ?_ _ | refine Below.setCell ?_ ?_ _ | refine Below.drew ?_ | refine below_drewN ?_ _ | (apply below_step; assumption) | (simp; done) | (simp; omega) | omega))⟩
      · have HR := Lib.hid (LV.bad_iff.2 (show ¬ (0 ≤ r.k ∧ r.k ≤ 9 ∧ 0 ≤ r.v ∧ r.v ≤ 9) by omega))
        have b0 : decide (r.k < 0) = false := by simp; omega
        have b1 : decide (9 < r.k) = true := by simp; omega
        clear hat hr g
        go_wp2_with fail
        go_quiet (fail)
        go_wp2_with fail
        have HX : Hid (labsOk l = false) := by
          show _ = _
          rw [HO.out, HF.out, HD.out, labsFrom_bad HR.out]
        go_ret
        rw [HX.out]
        exact ⟨rfl, (by repeat' (first | exact Below.refl _ _ | refine Below.alloc ?_ ?_ _ | refine Below.setCell ?_ ?_ _ | refine Below.drew ?_ | refine below_drewN ?_ _ | (apply below_step; assumption) | (simp; done) | (simp; omega) | omega))⟩
      · have HR := Lib.hid (LV.bad_iff.2 (show ¬ (0 ≤ r.k ∧ r.k ≤ 9 ∧ 0 ≤ r.v ∧ r.v ≤ 9) by omega))
        have b0 : decide (r.k < 0) = false := by simp; omega
        have b1 : decide (9 < r.k) = false := by simp; omega
        have b2 : decide (r.v < 0) = true := by simp; omega
        clear hat hr g
        go_wp2_with fail
        go_quiet (fail)
        go_wp2_with fail
        have HX : Hid (labsOk l = false) := by
          show _ = _
          rw [HO.out, HF.out, HD.out, labsFrom_bad HR.out]
        go_ret
        rw [HX.out]
        exact ⟨rfl, (by repeat' (first | exact Below.refl _ _ | refine Below.alloc ?_ ?_ _ | refine Below.setCell ?_ ?_ _ | refine Below.drew ?_ | refine below_drewN ?_ _ | (apply below_step; assumption) | (simp; done) | (simp; omega) | omega))⟩
      · have HR := Lib.hid (LV.bad_iff.2 (show ¬ (0 ≤ r.k ∧ r.k ≤ 9 ∧ 0 ≤ r.v ∧ r.v ≤ 9) by omega))
        have b0 : decide (r.k < 0) = false := by simp; omega
        have b1 : decide (9 < r.k) = false := by simp; omega
        have b2 : decide (r.v < 0) = false := by simp; omega
        have b3 : decide (9 < r.v) = true := by simp; omega
        clear hat hr g
        go_wp2_with fail
        go_quiet (fail)
        go_wp2_with fail
        have HX : Hid (labsOk l = false) := by
          show _ = _
          rw [HO.out, HF.out, HD.out, labsFrom_bad HR.out]
        go_ret
        rw [HX.out]
        exact ⟨rfl, (by repeat' (first | exact Below.refl _ _ | refine Below.alloc ?_ ?_ _ | refine Below.setCell ?_ ?_ _ | refine Below.drew ?_ | refine below_drewN ?_ _ | (apply below_step; assumption) | (simp; done) | (simp; omega) | omega))⟩
    · have hkl : k = l.length := by omega
      have HX : Hid (labsOk l = true) := by
        show _ = _
        rw [HO.out, HF.out, hkl, List.drop_length]; rfl
      clear hkl
      go_wp2_with fail
      go_ret
      rw [HX.out]
      exact ⟨rfl, hB⟩
end Go.Proofs.YtcegofdmdemcbaaDoor
