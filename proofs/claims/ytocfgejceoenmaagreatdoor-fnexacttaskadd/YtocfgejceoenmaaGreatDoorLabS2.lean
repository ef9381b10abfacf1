/- The contracts of the model's LabsGet and LabsMatch. -/
import Derived.Test.YtocfgejceoenmaaGreatDoorLabS
namespace Go.Proofs.YtocfgejceoenmaaGreatDoor
open Go.RowKit

theorem sLabsOk_any (v : Value) (l : List LV) (w : World) (hv : LabSl w v l) (hlen : l.length ≤ 1048576) :
    Calls Tryz.prog 94 #[v] w fun e w' => e = .returned (.bool (labsOk l)) ∧ Below w.heap.size w w' := by
  by_cases h : l.length ≤ 6
  · exact sLabsOk_short v l w hv h
  · obtain ⟨A, c, rfl, _⟩ := hv.form
    rw [labsOk_long (by omega)]
    exact sLabsOk_long A l.length c w (by omega) hlen




set_option maxHeartbeats 1600000 in
theorem sLabsGet_any (v : Value) (l : List LV) (key : Int) (w : World) (hv : LabSl w v l) (hlen : l.length ≤ 1048576) :
    Calls Tryz.prog 176 #[v, .int .i64 key] w (RetI (getOf l key) w) := by
  have hok := fun w1 (hb : Below w.heap.size w w1) => sLabsOk_any v l w1 (hv.below hb) hlen
  cases ho : labsOk l
  · rw [ho] at hok
    have HG := Lib.hid (getOf_no (k := key) ho)
    have HOK := Lib.hid hok
    obtain ⟨A, c, rfl, _⟩ := hv.form
    clear hok ho hv
    go_enter Tryz.func176, Tryz.ntmps176
    go_wp2_with fail
    refine wp_loop_rounds 1 ?_
    rw [rounds_succ]
    go_wp2_with fail
    refine (HOK.out w (Below.refl _ _)).mono ?_
    rintro e w1 ⟨rfl, hb1⟩
    have hz1 := hb1.size
    go_wp2_with fail
    go_ret2
    rw [HG.out]
    exact ⟨rfl, hb1⟩
  · rw [ho] at hok
    have HG := Lib.hid (getOf_yes (k := key) ho)
    have HOK := Lib.hid hok
    obtain ⟨A, c, rfl, hA⟩ := hv.form
    have HA := Lib.hid hA
    clear hok ho hv hA
    go_enter Tryz.func176, Tryz.ntmps176
    go_wp2_with fail
    go_loopw [6] (fun s6 wr => ∃ (k : Nat), k ≤ l.length ∧ s6 = .int .i64 k ∧ findK l key = findK (l.drop k) key ∧ Below w.heap.size w wr) (fun s6 _ => (l.length - intOf s6).toNat)
    case atStart => exact ⟨0, by omega, rfl, by rw [List.drop_zero], Below.refl _ _⟩
    case round =>
      obtain ⟨k, hk, rfl, hF, hB⟩ := hrel
      have HF := Lib.hid hF
      have hzr := hB.size
      clear hF
      by_cases hlt : k < l.length
      · obtain ⟨b, off, rfl, hbw, hat⟩ := HA.out (by omega)
        obtain ⟨r, hr⟩ : ∃ r, l[k]? = some r := ⟨_, List.getElem?_eq_getElem hlt⟩
        have HD := Lib.hid (drop_at hr)
        have hlti : (k : Int) < (l.length : Int) := by omega
        go_wp2_with fail
        refine (HOK.out wr hB).mono ?_
        rintro e w1 ⟨rfl, hb1⟩
        have hz1 := hb1.size
        have hB1 : Below w.heap.size w w1 := (by repeat' (first | exact Below.refl _ _ | refine Below.alloc ?_ ?_ _ | refine Below.setCell ?_ ?_ _ | refine Below.drew ?_ | (apply below_step; assumption) | (simp; done) | (simp; omega) | omega))
        obtain ⟨q0, q1⟩ := (hat.below hB1 hbw) k r hr
        clear hat hr
        by_cases hkk : r.k = key
        · have HK := Lib.hid hkk
          have hkb : (r.k == key) = true := by simpa using hkk
          clear hkk
          go_wp2_with fail
          go_ret2
          rw [HG.out, HF.out, HD.out, findK_hit HK.out]
          exact ⟨rfl, hB1⟩
        · have HK := Lib.hid hkk
          have hkb : (r.k == key) = false := by simpa using hkk
          clear hkk
          go_wp2_with fail
          go_roundw
          case rel =>
            refine ⟨k + 1, by omega, by go_num, ?_, hB1⟩
            rw [HF.out, HD.out, findK_miss HK.out]
          case measure => simp [intOf]; omega
      · have hkl : k = l.length := by omega
        have HX : Hid (findK l key = (0, false)) := by
          show _ = _
          rw [HF.out, hkl, List.drop_length]; rfl
        clear hkl
        have hlti : ¬ (k : Int) < (l.length : Int) := by omega
        go_wp2_with fail
        refine (HOK.out wr hB).mono ?_
        rintro e w1 ⟨rfl, hb1⟩
        have hz1 := hb1.size
        have hB1 : Below w.heap.size w w1 := (by repeat' (first | exact Below.refl _ _ | refine Below.alloc ?_ ?_ _ | refine Below.setCell ?_ ?_ _ | refine Below.drew ?_ | (apply below_step; assumption) | (simp; done) | (simp; omega) | omega))
        go_wp2_with fail
        go_ret2
        rw [HG.out, HX.out]
        exact ⟨rfl, hB1⟩

theorem hasAllOf_yes {a r : List LV} {x : LV} (h1 : (findK a x.k).2 = true) (h2 : (findK a x.k).1 = x.v) : hasAllOf a (x :: r) = hasAllOf a r := by simp [hasAllOf, h1, h2]
theorem hasAllOf_no1 {a r : List LV} {x : LV} (h1 : (findK a x.k).2 = false) : hasAllOf a (x :: r) = false := by simp [hasAllOf, h1]
theorem hasAllOf_no2 {a r : List LV} {x : LV} (h2 : (findK a x.k).1 ≠ x.v) : hasAllOf a (x :: r) = false := by simp [hasAllOf, h2]
theorem matchOf_both {a b : List LV} (ha : labsOk a = true) (hb : labsOk b = true) : matchOf a b = hasAllOf a b := by simp [matchOf, ha, hb]

set_option maxHeartbeats 1600000 in
theorem sLabsMatch_any (v1 v2 : Value) (a b : List LV) (w : World) (h1 : LabSl w v1 a) (h2 : LabSl w v2 b) (hl1 : a.length ≤ 1048576) (hl2 : b.length ≤ 1048576) :
    Calls Tryz.prog 157 #[v1, v2] w fun e w' => e = .returned (.bool (matchOf a b)) ∧ Below w.heap.size w w' := by
  have r1 := sLabsOk_any v1 a w h1 hl1
  have r2 := fun w1 (hb : Below w.heap.size w w1) => sLabsOk_any v2 b w1 (h2.below hb) hl2
  have r3 := fun key w1 (hb : Below w.heap.size w w1) => sLabsGet_any v1 a key w1 (h1.below hb) hl1
  cases ha : labsOk a
  · rw [ha] at r1
    have R1 := Lib.hid r1
    have HM := Lib.hid (matchOf_no1 (b := b) ha)
    clear r1 r2 r3 ha h1 h2
    go_enter Tryz.func157, Tryz.ntmps157
    go_wp2_with fail
    refine R1.out.mono ?_
    rintro e w1 ⟨rfl, hb1⟩
    have hz1 := hb1.size
    go_wp2_with fail
    go_ret
    rw [HM.out]
    exact ⟨rfl, hb1⟩
  · rw [ha] at r1
    cases hb : labsOk b
    · rw [hb] at r2
      have R1 := Lib.hid r1
      have R2 := Lib.hid r2
      have HM := Lib.hid (matchOf_no2 (a := a) hb)
      clear r1 r2 r3 ha hb h1 h2
      go_enter Tryz.func157, Tryz.ntmps157
      go_wp2_with fail
      refine R1.out.mono ?_
      rintro e w1 ⟨rfl, hb1⟩
      have hz1 := hb1.size
      go_wp2_with fail
      refine (R2.out w1 hb1).mono ?_
      rintro e w2 ⟨rfl, hb2⟩
      have hz2 := hb2.size
      go_wp2_with fail
      go_ret
      rw [HM.out]
      exact ⟨rfl, (by repeat' (first | exact Below.refl _ _ | refine Below.alloc ?_ ?_ _ | refine Below.setCell ?_ ?_ _ | refine Below.drew ?_ | (apply below_step; assumption) | (simp; done) | (simp; omega) | omega))⟩
    · rw [hb] at r2
      have R1 := Lib.hid r1
      have R2 := Lib.hid r2
      have R3 := Lib.hid r3
      have HM := Lib.hid (matchOf_both ha hb)
      have HG := Lib.hid (fun k => getOf_yes (k := k) ha)
      obtain ⟨A, c, rfl, hA⟩ := h2.form
      have HA := Lib.hid hA
      clear r1 r2 r3 ha hb hA h1 h2
      go_enter Tryz.func157, Tryz.ntmps157
      go_wp2_with fail
      refine R1.out.mono ?_
      rintro e w1 ⟨rfl, hb1⟩
      have hz1 := hb1.size
      go_wp2_with fail
      refine (R2.out w1 hb1).mono ?_
      rintro e w2 ⟨rfl, hb2⟩
      have hz2 := hb2.size
      have hB2 : Below w.heap.size w w2 := (by repeat' (first | exact Below.refl _ _ | refine Below.alloc ?_ ?_ _ | refine Below.setCell ?_ ?_ _ | refine Below.drew ?_ | (apply below_step; assumption) | (simp; done) | (simp; omega) | omega))
      go_wp2_with fail
      go_loopw [5] (fun s5 wr => ∃ (k : Nat), k ≤ b.length ∧ s5 = .int .i64 k ∧ hasAllOf a b = hasAllOf a (b.drop k) ∧ Below w.heap.size w wr) (fun s5 _ => (b.length - intOf s5).toNat)
      case atStart => exact ⟨0, by omega, rfl, by rw [List.drop_zero], hB2⟩
      case round =>
        obtain ⟨k, hk, rfl, hF, hB⟩ := hrel
        have HF := Lib.hid hF
        have hzr := hB.size
        clear hF
        by_cases hlt : k < b.length
        · obtain ⟨g, off, rfl, hbw, hat⟩ := HA.out (by omega)
          obtain ⟨r, hr⟩ : ∃ r, b[k]? = some r := ⟨_, List.getElem?_eq_getElem hlt⟩
          have HD := Lib.hid (drop_at hr)
          have hlti : (k : Int) < (b.length : Int) := by omega
          obtain ⟨q0, q1⟩ := (hat.below hB hbw) k r hr
          have HAT := Lib.hid hat
          have HRR := Lib.hid hr
          clear hat hr
          have r3 := R3.out r.k
          rw [HG.out] at r3
          cases hf : (findK a r.k).2
          · have HN := Lib.hid (hasAllOf_no1 (r := b.drop (k + 1)) hf)
            rw [show findK a r.k = ((findK a r.k).1, false) by rw [← hf]] at r3
            have R := Lib.hid r3
            generalize (findK a r.k).1 = z at R
            clear r3 hf
            go_wp2_with fail
            refine (R.out wr hB).mono ?_
            rintro e w3 ⟨rfl, hb3⟩
            have hz3 := hb3.size
            go_wp2_with fail
            go_ret
            rw [HM.out, HF.out, HD.out, HN.out]
            exact ⟨rfl, (by repeat' (first | exact Below.refl _ _ | refine Below.alloc ?_ ?_ _ | refine Below.setCell ?_ ?_ _ | refine Below.drew ?_ | (apply below_step; assumption) | (simp; done) | (simp; omega) | omega))⟩
          · by_cases hv : (findK a r.k).1 = r.v
            · have HN := Lib.hid (hasAllOf_yes (r := b.drop (k + 1)) hf hv)
              rw [show findK a r.k = (r.v, true) by rw [← hf, ← hv]] at r3
              have R := Lib.hid r3
              clear r3 hf hv
              go_wp2_with fail
              refine (R.out wr hB).mono ?_
              rintro e w3 ⟨rfl, hb3⟩
              have hz3 := hb3.size
              have hB3 : Below w.heap.size w w3 := (by repeat' (first | exact Below.refl _ _ | refine Below.alloc ?_ ?_ _ | refine Below.setCell ?_ ?_ _ | refine Below.drew ?_ | (apply below_step; assumption) | (simp; done) | (simp; omega) | omega))
              obtain ⟨p0, p1⟩ := (HAT.out.below hB3 hbw) k r HRR.out
              have hne : (r.v != r.v) = false := by simp
              go_wp2_with fail
              go_roundw
              case rel =>
                refine ⟨k + 1, by omega, by go_num, ?_, hB3⟩
                rw [HF.out, HD.out, HN.out]
              case measure => simp [intOf]; omega
            · have HN := Lib.hid (hasAllOf_no2 (r := b.drop (k + 1)) hv)
              rw [show findK a r.k = ((findK a r.k).1, true) by rw [← hf]] at r3
              have R := Lib.hid r3
              have HV := Lib.hid hv
              generalize (findK a r.k).1 = z at R HV
              clear r3 hf hv
              go_wp2_with fail
              refine (R.out wr hB).mono ?_
              rintro e w3 ⟨rfl, hb3⟩
              have hz3 := hb3.size
              have hB3 : Below w.heap.size w w3 := (by repeat' (first | exact Below.refl _ _ | refine Below.alloc ?_ ?_ _ | refine Below.setCell ?_ ?_ _ | refine Below.drew ?_ | (apply below_step; assumption) | (simp; done) | (simp; omega) | omega))
              obtain ⟨p0, p1⟩ := (HAT.out.below hB3 hbw) k r HRR.out
              have hne : (z != r.v) = true := by simpa using HV.out
              go_wp2_with fail
              go_ret
              rw [HM.out, HF.out, HD.out, HN.out]
              exact ⟨rfl, hB3⟩
        · have hkl : k = b.length := by omega
          have HX : Hid (hasAllOf a b = true) := by
            show _ = _
            rw [HF.out, hkl, List.drop_length]; rfl
          clear hkl
          go_wp2_with fail
          go_ret
          rw [HM.out, HX.out]
          exact ⟨rfl, hB⟩
end Go.Proofs.YtocfgejceoenmaaGreatDoor
