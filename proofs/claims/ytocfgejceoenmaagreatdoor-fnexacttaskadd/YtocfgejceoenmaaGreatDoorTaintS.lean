/- The contracts of the model's TaintsOk, l02In, Tolerates. -/
import Derived.Test.YtocfgejceoenmaaGreatDoorTaintI
import Derived.Test.YtocfgejceoenmaaGreatDoorLabS2
namespace Go.Proofs.YtocfgejceoenmaaGreatDoor
open Go.RowKit

theorem sTaintsOk_long (A : Option Addr) (n c : Nat) (w : World) (h : 6 < n) (hm : n ≤ 1048576) :
    Calls Tryz.prog 95 #[.slice A n c] w fun e w' => e = .returned (.bool false) ∧ Below w.heap.size w w' := by
  have h6 : (6 : Int) < (n : Int) := by omega
  go_enter Tryz.func95, Tryz.ntmps95
  go_wp2_with fail
  go_ret
  exact ⟨rfl, (by repeat' (first | exact Below.refl _ _ | refine Below.alloc ?_ ?_ _ | refine Below.setCell ?_ ?_ _ | refine Below.drew ?_ | (apply below_step; assumption) | (simp; done) | (simp; omega) | omega))⟩

/-- The taint ahead of place k. -/
def lastT (l : List Int) (k : Nat) : Int := if k = 0 then -1 else l.getD (k - 1) 0
theorem tl_cons (z : Int) (r : List Int) : tl (z :: r) = ⟨z, 0⟩ :: tl r := rfl

set_option maxHeartbeats 3200000 in
theorem sTaintsOk_short (v : Value) (l : List Int) (w : World) (hv : IntSl w v l) (hlen : l.length ≤ 6) :
    Calls Tryz.prog 95 #[v] w fun e w' => e = .returned (.bool (labsOk (tl l))) ∧ Below w.heap.size w w' := by
  obtain ⟨A, c, rfl, hA⟩ := hv.form
  have HA := Lib.hid hA
  have HO := Lib.hid (labsOk_short (l := tl l) (by rw [tl_len]; exact hlen))
  clear hA hv
  have hl6 : (l.length : Int) ≤ 6 := by omega
  go_enter Tryz.func95, Tryz.ntmps95
  go_wp2_with fail
  go_loopw [3] (fun s3 wr => ∃ (k : Nat), k ≤ l.length ∧ s3 = .int .i64 k ∧ labsFrom (-1) (tl l) = labsFrom (lastT l k) (tl (l.drop k)) ∧ Below w.heap.size w wr) (fun s3 _ => (l.length - intOf s3).toNat)
  case atStart => exact ⟨0, by omega, rfl, by rw [List.drop_zero]; rfl, Below.refl _ _⟩
  case round =>
    obtain ⟨k, hk, rfl, hF, hB⟩ := hrel
    have HF := Lib.hid hF
    have hzr := hB.size
    clear hF
    by_cases hlt : k < l.length
    · obtain ⟨b, off, rfl, hbw, hat⟩ := HA.out (by omega)
      obtain ⟨r, hr⟩ : ∃ r, l[k]? = some r := ⟨_, List.getElem?_eq_getElem hlt⟩
      have HD := Lib.hid ((congrArg tl (dropI_at hr)).trans (tl_cons r _))
      have HN : Hid (lastT l (k + 1) = r) := by
        show _ = _
        simp [lastT, List.getD, hr]
      have q0 := (hat.below hB hbw) k r hr
      have hlti : (k : Int) < (l.length : Int) := by omega
      have hbr : b < wr.heap.size := by omega
      rcases (show r < 0 ∨ (0 ≤ r ∧ 9 < r) ∨ (0 ≤ r ∧ r ≤ 9) by omega) with g | g | g
      case inr.inr =>
        obtain ⟨g0, g1⟩ := g
        have HR : Hid (LV.ok ⟨r, 0⟩ = true) := LV.ok_iff.2 ⟨g0, g1, by simp, by simp⟩
        have b0 : decide (r < 0) = false := by simp; omega
        have b1 : decide (9 < r) = false := by simp; omega
        by_cases hk0 : k = 0
        · have HL : Hid (lastT l k < r) := by
            show _ < _
            rw [hk0]; simp [lastT]; omega
          have hkb : decide (0 < k) = false := by simp; omega
          clear hat hr hk0 g0 g1
          go_wp2_with fail
          go_quiet (fail)
          go_wp2_with fail
          go_roundw
          case rel =>
            refine ⟨k + 1, by omega, by go_num, ?_, (by repeat' (first | exact Below.refl _ _ | refine Below.alloc ?_ ?_ _ | refine Below.setCell ?_ ?_ _ | refine Below.drew ?_ | refine below_drewN ?_ _ | (apply below_step; assumption) | (simp; done) | (simp; omega) | omega))⟩
            rw [HF.out, HD.out, HN.out, labsFrom_yes HR.out HL.out]
          case measure => simp [intOf]; omega
        · obtain ⟨q, hq⟩ : ∃ q, l[k - 1]? = some q := ⟨_, List.getElem?_eq_getElem (by omega)⟩
          have p0 := (hat.below hB hbw) (k - 1) q hq
          have HL : Hid (lastT l k = q) := by
            show _ = _
            simp [lastT, List.getD, hq, hk0]
          have hkb : decide (0 < k) = true := by simp; omega
          have n1 : (0 : Int) ≤ (k : Int) - 1 := by omega
          have n2 : (1 : Int) ≤ (k : Int) := by omega
          have n3 : (k : Int) - 1 < (l.length : Int) := by omega
          have n4 : ((k : Int) - 1).toNat = k - 1 := by omega
          have n5 : IntKind.i64.wrap ((k : Int) - 1) = (k : Int) - 1 := IntWalk.i64_in _ (by omega)
          by_cases hle : r ≤ q
          · have HLE := Lib.hid hle
            have b4 : decide (r ≤ q) = true := by simpa using hle
            clear hat hr hk0 g0 g1 hq hle
            go_wp2_with fail
            go_quiet (fail)
            go_wp2_with fail
            have HX : Hid (labsOk (tl l) = false) := by
              show _ = _
              rw [HO.out, HF.out, HD.out, labsFrom_low (by rw [HL.out]; exact HLE.out)]
            go_ret
            rw [HX.out]
            exact ⟨rfl, (by repeat' (first | exact Below.refl _ _ | refine Below.alloc ?_ ?_ _ | refine Below.setCell ?_ ?_ _ | refine Below.drew ?_ | refine below_drewN ?_ _ | (apply below_step; assumption) | (simp; done) | (simp; omega) | omega))⟩
          · have HLE := Lib.hid (show q < r by omega)
            have b4 : decide (r ≤ q) = false := by simp; omega
            clear hat hr hk0 g0 g1 hq hle
            go_wp2_with fail
            go_quiet (fail)
            go_wp2_with fail
            clear n4 n5
            go_roundw
            case rel =>
              refine ⟨k + 1, by omega, by go_num, ?_, (by repeat' (first | exact Below.refl _ _ | refine Below.alloc ?_ ?_ _ | refine Below.setCell ?_ ?_ _ | refine Below.drew ?_ | refine below_drewN ?_ _ | (apply below_step; assumption) | (simp; done) | (simp; omega) | omega))⟩
              rw [HF.out, HD.out, HN.out, labsFrom_yes HR.out (by rw [HL.out]; exact HLE.out)]
            case measure => simp [intOf]; omega
      · have HR : Hid (LV.ok ⟨r, 0⟩ = false) := LV.bad_iff.2 (fun h => by have := h.1; simp at this; omega)
        have b0 : decide (r < 0) = true := by simp; omega
        clear hat hr g
        go_wp2_with fail
        go_quiet (fail)
        go_wp2_with fail
        have HX : Hid (labsOk (tl l) = false) := by
          show _ = _
          rw [HO.out, HF.out, HD.out, labsFrom_bad HR.out]
        go_ret
        rw [HX.out]
        exact ⟨rfl, (by repeat' (first | exact Below.refl _ _ | refine Below.alloc ?_ ?_ _ | refine Below.setCell ?_ ?_ _ | refine Below.drew ?_ | refine below_drewN ?_ _ | (apply below_step; assumption) | (simp; done) | (simp; omega) | omega))⟩
      · have HR : Hid (LV.ok ⟨r, 0⟩ = false) := LV.bad_iff.2 (fun h => by have := h.2.1; simp at this; omega)
        have b0 : decide (r < 0) = false := by simp; omega
        have b1 : decide (9 < r) = true := by simp; omega
        clear hat hr g
        go_wp2_with fail
        go_quiet (fail)
        go_wp2_with fail
        have HX : Hid (labsOk (tl l) = false) := by
          show _ = _
          rw [HO.out, HF.out, HD.out, labsFrom_bad HR.out]
        go_ret
        rw [HX.out]
        exact ⟨rfl, (by repeat' (first | exact Below.refl _ _ | refine Below.alloc ?_ ?_ _ | refine Below.setCell ?_ ?_ _ | refine Below.drew ?_ | refine below_drewN ?_ _ | (apply below_step; assumption) | (simp; done) | (simp; omega) | omega))⟩
    · have hkl : k = l.length := by omega
      have HX : Hid (labsOk (tl l) = true) := by
        show _ = _
        rw [HO.out, HF.out, hkl, List.drop_length]; rfl
      clear hkl
      go_wp2_with fail
      go_ret
      rw [HX.out]
      exact ⟨rfl, hB⟩
theorem sTaintsOk_any (v : Value) (l : List Int) (w : World) (hv : IntSl w v l) (hlen : l.length ≤ 1048576) :
    Calls Tryz.prog 95 #[v] w fun e w' => e = .returned (.bool (labsOk (tl l))) ∧ Below w.heap.size w w' := by
  by_cases h : l.length ≤ 6
  · exact sTaintsOk_short v l w hv h
  · obtain ⟨A, c, rfl, _⟩ := hv.form
    rw [labsOk_long (by rw [tl_len]; omega)]
    exact sTaintsOk_long A l.length c w (by omega) hlen

/-- Whether z is in the list. -/
def inL : List Int → Int → Bool
  | [], _ => false
  | y :: r, z => if y = z then true else inL r z
theorem inL_hit {y z : Int} {r : List Int} (h : y = z) : inL (y :: r) z = true := by simp [inL, h]
theorem inL_miss {y z : Int} {r : List Int} (h : y ≠ z) : inL (y :: r) z = inL r z := by simp [inL, h]
theorem find_tl (b : List Int) (z : Int) : findK (tl b) z = (0, inL b z) := by
  induction b with
  | nil => rfl
  | cons y r ih =>
    rw [tl_cons]
    by_cases h : y = z
    · rw [findK_hit h, inL_hit h]
    · rw [findK_miss h, inL_miss h, ih]

set_option maxHeartbeats 1600000 in
theorem l02In_any (v : Value) (l : List Int) (z : Int) (w : World) (hv : IntSl w v l) (hlen : l.length ≤ 1048576) :
    Calls Tryz.prog 177 #[v, .int .i64 z] w fun e w' => e = .returned (.bool (inL l z)) ∧ Below w.heap.size w w' := by
  obtain ⟨A, c, rfl, hA⟩ := hv.form
  have HA := Lib.hid hA
  clear hA hv
  go_enter Tryz.func177, Tryz.ntmps177
  go_wp2_with fail
  go_loopw [5] (fun s5 wr => ∃ (k : Nat), k ≤ l.length ∧ s5 = .int .i64 k ∧ inL l z = inL (l.drop k) z ∧ Below w.heap.size w wr) (fun s5 _ => (l.length - intOf s5).toNat)
  case atStart => exact ⟨0, by omega, rfl, by rw [List.drop_zero], Below.refl _ _⟩
  case round =>
    obtain ⟨k, hk, rfl, hF, hB⟩ := hrel
    have HF := Lib.hid hF
    have hzr := hB.size
    clear hF
    by_cases hlt : k < l.length
    · obtain ⟨b, off, rfl, hbw, hat⟩ := HA.out (by omega)
      obtain ⟨r, hr⟩ : ∃ r, l[k]? = some r := ⟨_, List.getElem?_eq_getElem hlt⟩
      have HD := Lib.hid (dropI_at hr)
      have hlti : (k : Int) < (l.length : Int) := by omega
      have q0 := (hat.below hB hbw) k r hr
      clear hat hr
      by_cases hkk : r = z
      · have HK := Lib.hid hkk
        have hkb : (r == z) = true := by simpa using hkk
        clear hkk
        go_wp2_with fail
        go_ret
        rw [HF.out, HD.out, inL_hit HK.out]
        exact ⟨rfl, hB⟩
      · have HK := Lib.hid hkk
        have hkb : (r == z) = false := by simpa using hkk
        clear hkk
        go_wp2_with fail
        go_roundw
        case rel =>
          refine ⟨k + 1, by omega, by go_num, ?_, hB⟩
          rw [HF.out, HD.out, inL_miss HK.out]
        case measure => simp [intOf]; omega
    · have hkl : k = l.length := by omega
      have HX : Hid (inL l z = false) := by
        show _ = _
        rw [HF.out, hkl, List.drop_length]; rfl
      clear hkl
      go_wp2_with fail
      go_ret
      rw [HX.out]
      exact ⟨rfl, hB⟩

theorem tolHas_yes {b r : List Int} {z : Int} (h : inL b z = true) : hasAllOf (tl b) (tl (z :: r)) = hasAllOf (tl b) (tl r) := by
  rw [tl_cons, hasAllOf_yes (by rw [find_tl]; exact h) (by rw [find_tl])]
theorem tolHas_no {b r : List Int} {z : Int} (h : inL b z = false) : hasAllOf (tl b) (tl (z :: r)) = false := by
  rw [tl_cons, hasAllOf_no1 (by rw [find_tl]; exact h)]

set_option maxHeartbeats 1600000 in
theorem sTolerates_any (v1 v2 : Value) (a b : List Int) (w : World) (h1 : IntSl w v1 a) (h2 : IntSl w v2 b) (hl1 : a.length ≤ 1048576) (hl2 : b.length ≤ 1048576) :
    Calls Tryz.prog 158 #[v1, v2] w fun e w' => e = .returned (.bool (tolOf a b)) ∧ Below w.heap.size w w' := by
  have r1 := sTaintsOk_any v1 a w h1 hl1
  have r2 := fun w1 (hb : Below w.heap.size w w1) => sTaintsOk_any v2 b w1 (h2.below hb) hl2
  have r3 := fun z w1 (hb : Below w.heap.size w w1) => l02In_any v2 b z w1 (h2.below hb) hl2
  unfold tolOf
  cases ha : labsOk (tl a)
  · rw [ha] at r1
    have R1 := Lib.hid r1
    have HM := Lib.hid (matchOf_no2 (a := tl b) ha)
    clear r1 r2 r3 ha h1 h2
    go_enter Tryz.func158, Tryz.ntmps158
    go_wp2_with fail
    refine R1.out.mono ?_
    rintro e w1 ⟨rfl, hb1⟩
    have hz1 := hb1.size
    go_wp2_with fail
    go_ret
    rw [HM.out]
    exact ⟨rfl, hb1⟩
  · rw [ha] at r1
    cases hb : labsOk (tl b)
    · rw [hb] at r2
      have R1 := Lib.hid r1
      have R2 := Lib.hid r2
      have HM := Lib.hid (matchOf_no1 (b := tl a) hb)
      clear r1 r2 r3 ha hb h1 h2
      go_enter Tryz.func158, Tryz.ntmps158
      go_wp2_with fail
      refine R1.out.mono ?_
      rintro e w1 ⟨rfl, hb1⟩
      have hz1 := hb1.size
      go_wp2_with fail
      refine (R2.out w1 hb1).mono ?_
      rintro e w2 ⟨rfl, hb2⟩
      have hz2 := hb2.size
      go_wp2_with fail
      go_ret
      rw [HM.out]
      exact ⟨rfl, (by repeat' (first | exact Below.refl _ _ | refine Below.alloc ?_ ?_ _ | refine Below.setCell ?_ ?_ _ | refine Below.drew ?_ | (apply below_step; assumption) | (simp; done) | (simp; omega) | omega))⟩
    · rw [hb] at r2
      have R1 := Lib.hid r1
      have R2 := Lib.hid r2
      have R3 := Lib.hid r3
      have HM := Lib.hid (matchOf_both hb ha)
      obtain ⟨A, c, rfl, hA⟩ := h1.form
      have HA := Lib.hid hA
      clear r1 r2 r3 ha hb hA h1 h2
      go_enter Tryz.func158, Tryz.ntmps158
      go_wp2_with fail
      refine R1.out.mono ?_
      rintro e w1 ⟨rfl, hb1⟩
      have hz1 := hb1.size
      go_wp2_with fail
      refine (R2.out w1 hb1).mono ?_
      rintro e w2 ⟨rfl, hb2⟩
      have hz2 := hb2.size
      have hB2 : Below w.heap.size w w2 := (by repeat' (first | exact Below.refl _ _ | refine Below.alloc ?_ ?_ _ | refine Below.setCell ?_ ?_ _ | refine Below.drew ?_ | (apply below_step; assumption) | (simp; done) | (simp; omega) | omega))
      go_wp2_with fail
      go_loopw [5] (fun s5 wr => ∃ (k : Nat), k ≤ a.length ∧ s5 = .int .i64 k ∧ hasAllOf (tl b) (tl a) = hasAllOf (tl b) (tl (a.drop k)) ∧ Below w.heap.size w wr) (fun s5 _ => (a.length - intOf s5).toNat)
      case atStart => exact ⟨0, by omega, rfl, by rw [List.drop_zero], hB2⟩
      case round =>
        obtain ⟨k, hk, rfl, hF, hB⟩ := hrel
        have HF := Lib.hid hF
        have hzr := hB.size
        clear hF
        by_cases hlt : k < a.length
        · obtain ⟨g, off, rfl, hbw, hat⟩ := HA.out (by omega)
          obtain ⟨r, hr⟩ : ∃ r, a[k]? = some r := ⟨_, List.getElem?_eq_getElem hlt⟩
          have HD := Lib.hid (dropI_at hr)
          have hlti : (k : Int) < (a.length : Int) := by omega
          have q0 := (hat.below hB hbw) k r hr
          clear hat hr
          have r3 := R3.out r
          cases hf : inL b r
          · rw [hf] at r3
            have HN := Lib.hid (tolHas_no (r := a.drop (k + 1)) hf)
            have R := Lib.hid r3
            clear r3 hf
            go_wp2_with fail
            refine (R.out wr hB).mono ?_
            rintro e w3 ⟨rfl, hb3⟩
            have hz3 := hb3.size
            go_wp2_with fail
            go_ret
            rw [HM.out, HF.out, HD.out, HN.out]
            exact ⟨rfl, (by repeat' (first | exact Below.refl _ _ | refine Below.alloc ?_ ?_ _ | refine Below.setCell ?_ ?_ _ | refine Below.drew ?_ | (apply below_step; assumption) | (simp; done) | (simp; omega) | omega))⟩
          · rw [hf] at r3
            have HN := Lib.hid (tolHas_yes (r := a.drop (k + 1)) hf)
            have R := Lib.hid r3
            clear r3 hf
            go_wp2_with fail
            refine (R.out wr hB).mono ?_
            rintro e w3 ⟨rfl, hb3⟩
            have hz3 := hb3.size
            have hB3 : Below w.heap.size w w3 := (by repeat' (first | exact Below.refl _ _ | refine Below.alloc ?_ ?_ _ | refine Below.setCell ?_ ?_ _ | refine Below.drew ?_ | (apply below_step; assumption) | (simp; done) | (simp; omega) | omega))
            go_wp2_with fail
            go_roundw
            case rel =>
              refine ⟨k + 1, by omega, by go_num, ?_, hB3⟩
              rw [HF.out, HD.out, HN.out]
            case measure => simp [intOf]; omega
        · have hkl : k = a.length := by omega
          have HX : Hid (hasAllOf (tl b) (tl a) = true) := by
            show _ = _
            rw [HF.out, hkl, List.drop_length]; rfl
          clear hkl
          go_wp2_with fail
          go_ret
          rw [HM.out, HX.out]
          exact ⟨rfl, hB⟩
end Go.Proofs.YtocfgejceoenmaaGreatDoor
