/- The contracts of the model's TaintsOk, l02In, Tolerates. -/
import Derived.Test.YtcegofdmdemcbaaDoorTaintI
import Derived.Test.YtcegofdmdemcbaaDoorLabS2
namespace Go.Proofs.YtcegofdmdemcbaaDoor
open Go.RowKit

theorem sTaintsOk_long (A : Option Addr) (n c : Nat) (w : World) (h : 6 < n) (hm : n ≤ 1048576) :
    Calls Tryd.prog 25 #[.slice A n c] w fun e w' => e = .returned (.bool false) ∧ Below w.heap.size w w' := by
  have h6 : (6 : Int) < (n : Int) := by omega
  go_enter Tryd.func25, Tryd.ntmps25
  go_wp2_with fail
  go_ret
  exact ⟨rfl, (by repeat' (first | exact Below.refl _ _ | refine Below.alloc ?_ ?_ _ | refine Below.setCell ?_ ?_ _ | refine Below.drew ?_ | (apply below_step; assumption) | (simp; done) | (simp; omega) | omega))⟩

/-- The taint ahead of place k. -/
def lastT (l : List Int) (k : Nat) : Int := if k = 0 then -1 else l.getD (k - 1) 0
theorem tl_cons (z : Int) (r : List Int) : tl (z :: r) = ⟨z, 0⟩ :: tl r := rfl

set_option maxHeartbeats 3200000 in
theorem sTaintsOk_short (v : Value) (l : List Int) (w : World) (hv : IntSl w v l) (hlen : l.length ≤ 6) :
    Calls Tryd.prog 25 #[v] w fun e w' => e = .returned (.bool (labsOk (tl l))) ∧ Below w.heap.size w w' := by
  obtain ⟨A, c, rfl, hA⟩ := hv.form
  have HA := Lib.hid hA
  have HO := Lib.hid (labsOk_short (l := tl l) (by rw [tl_len]; exact hlen))
  clear hA hv
  have hl6 : (l.length : Int) ≤ 6 := by omega
  go_enter Tryd.func25, Tryd.ntmps25
  go_wp2_with fail
  go_loopw [3] (fun s3 wr => ∃ (k : Nat), k ≤ l.length ∧ s3 = .int .i64 k ∧ labsFrom (-1) (tl l) = labsFrom (lastT l k) (tl (l.drop k)) ∧ Below w.heap.size w wr) (fun s3 _ => (l.length - intOf s3).toNat)
  case atStart => exact ⟨0, by omega, rfl, by rw [List.drop_zero]; rfl, Below.refl _ _⟩
  case round =>
    obtain ⟨k, hk, rfl, hF, hB⟩ := hrel
    have HF := Lib.hid hF
    have hzr := hB.size
    clear hF
    by_cases hlt : k < l.length
    · obtain ⟨b, off, rfl, hbw, hat⟩ := HA.out (by omega)
      obtain ⟨r, hr⟩ : ∃ r, l[k]? = some r := ⟨_, List.getElem?_eq_getElem hlt⟩
      have HD := Lib.hid ((congrArg tl (dropI_at hr)).trans (tl_cons r _))
      have HN : Hid (lastT l (k + 1) = r) := by
        show _ = _
        simp [lastT, List.getD, hr]
      have q0 := (hat.below hB hbw) k r hr
      have hlti : (k : Int) < (l.length : Int) := by omega
      have hbr : b < wr.heap.size := by omega
      rcases (show r < 0 ∨ (0 ≤ r ∧ 9 < r) ∨ (0 ≤ r ∧ r ≤ 9) by omega) with g | g | g
      case inr.inr =>
        obtain ⟨g0, g1⟩ := g
        have HR : Hid (LV.ok ⟨r, 0⟩ = true) := LV.ok_iff.2 ⟨g0, g1, by simp, by simp⟩
        have b0 : decide (r < 0) = false := by simp; omega
        have b1 : decide (9 < r) = false := by simp; omega
        by_cases hk0 : k = 0
        · have HL : Hid (lastT l k < r) := by
            show _ < _
            rw [hk0]; simp [lastT]; omega
          have hkb : decide (0 < k) = false := by simp; omega
          clear hat hr hk0 g0 g1
          go_wp2_with fail
          go_quiet (fail)
          go_wp2_with fail
          go_roundw
          case rel =>
            refine ⟨k + 1, by omega, by go_num, ?_, (by repeat' (first | exact Below.refl _ _ | refine Below.alloc ?_ ?_ _ | refine Below.setCell ?_ ?_ _ | refine Below.drew ?_ | refine below_drewN ?_ _ | (apply below_step; assumption) | (simp; done) | (simp; omega) | omega))⟩
            rw [HF.out, HD.out, HN.out, labsFrom_yes HR.out HL.out]
          case measure => simp [intOf]; omega
        · obtain ⟨q, hq⟩ : ∃ q, l[k - 1]? = some q := ⟨_, List.getElem?_eq_getElem (by omega)⟩
          have p0 := (hat.below hB hbw) (k - 1) q hq
          have HL : Hid (lastT l k = q) := by
            show _ = _
            simp [lastT, List.getD, hq, hk0]
          have hkb : decide (0 < k) = true := by simp; omega
          have n1 : (0 : Int) ≤ (k : Int) - 1 := by omega
          have n2 : (1 : Int) ≤ (k : Int) := by omega
          have n3 : (k : Int) - 1 < (l.length : Int) := by omega
          have n4 : ((k : Int) - 1).toNat = k - 1 := by omega
          have n5 : IntKind.i64.wrap ((k : Int) - 1) = (k : Int) - 1 := IntWalk.i64_in _ (by omega)
          by_cases hle : r ≤ q
          · have HLE := Lib.hid hle
            have b4 : decide (r ≤ q) = true := by simpa using hle
            clear hat hr hk0 g0 g1 hq hle
            go_wp2_with fail
            go_quiet (fail)
            go_wp2_with fail
            have HX : Hid (labsOk (tl l) = false) := by
              show _ = _
              rw [HO.out, HF.out, HD.out, labsFrom_low (by rw [HL.out]; exact HLE.out)]
            go_ret
            rw [HX.out]
            exact ⟨rfl, (by repeat' (first | exact Below.refl _ _ | refine Below.alloc ?_ ?_ _ | refine Below.setCell ?_ ?_ _ | refine Below.drew ?_ | refine below_drewN ?_ _ | (apply below_step; assumption) | (simp; done) | (simp; omega) | omega))⟩
          · have HLE := Lib.hid (show q < r by omega)
            have b4 : decide (r ≤ q) = false := by simp; omega
            clear hat hr hk0 g0 g1 hq hle
            go_wp2_with fail
            go_quiet (fail)
            go_wp2_with fail
            clear n4 n5
            go_roundw
            case rel =>
              refine ⟨k + 1, by omega, by go_num, ?_, (by repeat' (first | exact Below.refl _ _ | refine Below.alloc ?_ ?_ _ | refine Below.setCell ?_ ?_ _ | refine Below.drew ?_ | refine below_drewN ?_ _ | (apply below_step; assumption) | (simp; done) | (simp; omega) | omega))⟩
              rw [HF.out, HD.out, HN.out, labsFrom_yes HR.out (by rw [HL.out]; exact HLE.out)]
            case measure => simp [intOf]; omega
      · have HR : Hid (LV.ok ⟨r, 0⟩ = false) := LV.bad_iff.2 (fun h => by have := h.1; simp at this; omega)
        have b0 : decide (r < 0) = true := by simp; omega
        clear hat hr g
        go_wp2_with fail
        go_quiet (fail)
        go_wp2_with fail
        have HX : Hid (labsOk (tl l) = false) := by
          show _ = _
          rw [HO.out, HF.out, HD.out, labsFrom_bad HR.out]
        go_ret
        rw [HX.out]
        exact ⟨rfl, (by repeat' (first | exact Below.refl _ _ | refine Below.alloc ?_ ?_ _ | refine Below.setCell ?_ ?_ _ | refine Below.drew ?_ | refine below_drewN ?_ _ | (apply below_step; assumption) | (simp; done) | (simp; omega) | omega))⟩
      · have HR : Hid (LV.ok ⟨r, 0⟩ = false) := LV.bad_iff.2 (fun h => by have := h.2.1; simp at this; omega)
        have b0 : decide (r < 0) = false := by simp; omega
        have b1 : decide (9 < r) = true := by simp; omega
        clear hat hr g
        go_wp2_with fail
        go_quiet (fail)
        go_wp2_with fail
        have HX : Hid (labsOk (tl l) = false) := by
          show _ = _
          rw [HO.out, HF.out, HD.out, labsFrom_bad HR.out]
        go_ret
        rw [HX.out]
        exact ⟨rfl, (by repeat' (first | exact Below.refl _ _ | refine Below.alloc ?_ ?_ _ | refine Below.setCell ?_ ?_ _ | refine Below.drew ?_ | refine below_drewN ?_ _ | (apply below_step; assumption) | (simp; done) | (simp; omega) | omega))⟩
    · have hkl : k = l.length := by omega
      have HX : Hid (labsOk (tl l) = true) := by
        show _ = _
        rw [HO.out, HF.out, hkl, List.drop_length]; rfl
      clear hkl
      go_wp2_with fail
      go_ret
      rw [HX.out]
      exact ⟨rfl, hB⟩
theorem sTaintsOk_any (v : Value) (l : List Int) (w : World) (hv : IntSl w v l) (hlen : l.length ≤ 1048576) :
    Calls Tryd.prog 25 #[v] w fun e w' => e = .returned (.bool (labsOk (tl l))) ∧ Below w.heap.size w w' := by
  by_cases h : l.length ≤ 6
  · exact sTaintsOk_short v l w hv h
  · obtain ⟨A, c, rfl, _⟩ := hv.form
    rw [labsOk_long (by rw [tl_len]; omega)]
    exact sTaintsOk_long A l.length c w (by omega) hlen

/-- Whether z is in the list. -/
def inL : List Int → Int → Bool
  | [], _ => false
  | y :: r, z => if y = z then true else inL r z
theorem inL_hit {y z : Int} {r : List Int} (h : y = z) : inL (y :: r) z = true := by simp [inL, h]
theorem inL_miss {y z : Int} {r : List Int} (h : y ≠ z) : inL (y :: r) z = inL r z := by simp [inL, h]
theorem find_tl (b : List Int) (z : Int) : findK (tl b) z = (0, inL b z) := by
  induction b with
  | nil => rfl
  | cons y r ih =>
    rw [tl_cons]
    by_cases h : y = z
    · rw [findK_hit h, inL_hit h]
    · rw [findK_miss h, inL_miss h, ih]

theorem tolHas_yes {b r : List Int} {z : Int} (h : inL b z = true) : hasAllOf (tl b) (tl (z :: r)) = hasAllOf (tl b) (tl r) := by
  rw [tl_cons, hasAllOf_yes (by rw [find_tl]; exact h) (by rw [find_tl])]
theorem tolHas_no {b r : List Int} {z : Int} (h : inL b z = false) : hasAllOf (tl b) (tl (z :: r)) = false := by
  rw [tl_cons, hasAllOf_no1 (by rw [find_tl]; exact h)]

end Go.Proofs.YtcegofdmdemcbaaDoor
