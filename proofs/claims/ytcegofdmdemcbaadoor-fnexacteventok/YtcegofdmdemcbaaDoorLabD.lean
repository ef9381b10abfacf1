/- Slices of labels; the contract of readLabs. -/
import Derived.Test.YtcegofdmdemcbaaDoorLabC
namespace Go.Proofs.YtcegofdmdemcbaaDoor
open Go.RowKit

/-- From block b, place off on, the cells are those of the list's labels. -/
def LabAt (w : World) (b off : Nat) (l : List LV) : Prop :=
  ∀ i r, l[i]? = some r → w.cell? ⟨b, off + i * 2, none⟩ = some (.int .i64 r.k) ∧ w.cell? ⟨b, off + i * 2 + 1, none⟩ = some (.int .i64 r.v)
/-- A slice value that reads as the list. -/
def LabSl (w : World) (v : Value) (l : List LV) : Prop := (l = [] ∧ ∃ A c, v = .slice A 0 c) ∨ ∃ b off c, v = .slice (some ⟨b, off, none⟩) l.length c ∧ b < w.heap.size ∧ LabAt w b off l
theorem LabAt.below {w w' : World} {b off B : Nat} {l : List LV} (h : LabAt w b off l) (hb : Below B w w') (hB : b < B) : LabAt w' b off l := fun i r hr => by
  obtain ⟨h1, h2⟩ := h i r hr
  exact ⟨(hb.cell (p := ⟨b, _, none⟩) hB).trans h1, (hb.cell (p := ⟨b, _, none⟩) hB).trans h2⟩
theorem LabSl.below {w w' : World} {v : Value} {l : List LV} (h : LabSl w v l) (hb : Below w.heap.size w w') : LabSl w' v l := by
  rcases h with h | ⟨b, off, c, rfl, hlt, h⟩
  · exact .inl h
  · exact .inr ⟨b, off, c, rfl, Nat.lt_of_lt_of_le hlt hb.size, h.below hb hlt⟩
theorem LabSl.form {w : World} {v : Value} {l : List LV} (h : LabSl w v l) : ∃ A c, v = .slice A l.length c ∧ (0 < l.length → ∃ b off, A = some ⟨b, off, none⟩ ∧ b < w.heap.size ∧ LabAt w b off l) := by
  rcases h with ⟨rfl, A, c, rfl⟩ | ⟨b, off, c, rfl, hlt, h⟩
  · exact ⟨A, c, rfl, fun h => absurd h (by simp)⟩
  · exact ⟨_, c, rfl, fun _ => ⟨b, off, rfl, hlt, h⟩⟩
/-- The ending 'an array of ten and a bool'. -/
def RetM (m : Nat → Int) (b : Bool) (w : World) (e : Ending) (w' : World) : Prop := e = .returned (.tuple #[.agg #[.int .i64 (m 0), .int .i64 (m 1), .int .i64 (m 2), .int .i64 (m 3), .int .i64 (m 4), .int .i64 (m 5), .int .i64 (m 6), .int .i64 (m 7), .int .i64 (m 8), .int .i64 (m 9)], .bool b]) ∧ Below w.heap.size w w'
theorem readOf_no {l : List LV} (h : labsOk l = false) : readOf l = mzero := by simp [readOf, h]
theorem readOf_yes {l : List LV} (h : labsOk l = true) : readOf l = marksOf mzero l := by simp [readOf, h]

set_option maxHeartbeats 1600000 in
theorem readLabs_long (A : Option Addr) (n c : Nat) (w : World) (h : 6 < n) (hm : n ≤ 1048576) :
    Calls Tryd.prog 39 #[.slice A n c] w (RetM mzero false w) := by
  have h6 : (6 : Int) < (n : Int) := by omega
  go_enter Tryd.func39, Tryd.ntmps39
  go_wp2_with fail
  exact bodyPost_ret (v := .tuple #[.agg #[.int .i64 (mzero 0), .int .i64 (mzero 1), .int .i64 (mzero 2), .int .i64 (mzero 3), .int .i64 (mzero 4), .int .i64 (mzero 5), .int .i64 (mzero 6), .int .i64 (mzero 7), .int .i64 (mzero 8), .int .i64 (mzero 9)], .bool false]) (by simp [results, Tryd.results39, go_sem, mzero]) rfl ⟨rfl, (by repeat' (first | exact Below.refl _ _ | refine Below.alloc ?_ ?_ _ | refine Below.setCell ?_ ?_ _ | refine Below.drew ?_ | (apply below_step; assumption) | (simp; done) | (simp; omega) | omega))⟩

set_option maxHeartbeats 3200000 in
theorem readLabs_short (v : Value) (l : List LV) (w : World) (hv : LabSl w v l) (hlen : l.length ≤ 6) :
    Calls Tryd.prog 39 #[v] w (RetM (readOf l) (labsOk l) w) := by
  obtain ⟨A, c, rfl, hA⟩ := hv.form
  have HA := Lib.hid hA
  have HO := Lib.hid (labsOk_short hlen)
  clear hA hv
  go_enter Tryd.func39, Tryd.ntmps39
  go_wp2_with fail
  go_loopw [5, 15] (fun s5 s15 wr => ∃ (k : Nat) (p : Int) (m : Nat → Int), k ≤ l.length ∧ s15 = .int .i64 k ∧ s5 = .int .i64 p ∧ -1 ≤ p ∧ p ≤ 9 ∧ labsFrom (-1) l = labsFrom p (l.drop k) ∧ marksOf mzero l = marksOf m (l.drop k) ∧ Below w.heap.size w wr ∧ BlockIs wr w.heap.size 67 #[.int .i64 (mzero 0), .int .i64 (mzero 1), .int .i64 (mzero 2), .int .i64 (mzero 3), .int .i64 (mzero 4), .int .i64 (mzero 5), .int .i64 (mzero 6), .int .i64 (mzero 7), .int .i64 (mzero 8), .int .i64 (mzero 9)] ∧ BlockIs wr (w.heap.size + 1) 67 #[.int .i64 (m 0), .int .i64 (m 1), .int .i64 (m 2), .int .i64 (m 3), .int .i64 (m 4), .int .i64 (m 5), .int .i64 (m 6), .int .i64 (m 7), .int .i64 (m 8), .int .i64 (m 9)]) (fun _ s15 _ => (l.length - intOf s15).toNat)
  case atStart =>
    refine ⟨0, -1, mzero, by omega, rfl, rfl, by omega, by omega, by rw [List.drop_zero], by rw [List.drop_zero], (by repeat' (first | exact Below.refl _ _ | refine Below.alloc ?_ ?_ _ | refine Below.setCell ?_ ?_ _ | refine Below.drew ?_ | (apply below_step; assumption) | (simp; done) | (simp; omega) | omega)), ?_, ?_⟩
    · exact (BlockIs.new w _ _).alloc _
    · exact BlockIs.new' (by simp)
  case round =>
    obtain ⟨k, p, m, hk, rfl, rfl, hp1, hp9, hF, hM, hB, hz, hm⟩ := hrel
    have HF := Lib.hid hF
    have HM := Lib.hid hM
    have HZ := Lib.hid hz
    have HMB := Lib.hid hm
    have hzr := hB.size
    have hgl := hm.lt
    clear hF hM
    by_cases hlt : k < l.length
    · obtain ⟨b, off, rfl, hbw, hat⟩ := HA.out (by omega)
      obtain ⟨r, hr⟩ : ∃ r, l[k]? = some r := ⟨_, List.getElem?_eq_getElem hlt⟩
      have HD := Lib.hid (drop_at hr)
      obtain ⟨q0, q1⟩ := (hat.below hB hbw) k r hr
      have hlti : (k : Int) < (l.length : Int) := by omega
      have hbr : b < wr.heap.size := by omega
      clear hat hr hz hm
      cases hro : r.ok
      · have HR := Lib.hid hro
        clear hro
        go_wp2_with fail
        refine (labInRange_no r _ HR.out).mono ?_
        rintro e w3 ⟨rfl, hb3⟩
        have hz3 := hb3.size
        simp at hz3
        have hZ3 := (HZ.out.alloc _).below hb3 (by simp; omega)
        have z0 := (hZ3).cell 0; have z1 := (hZ3).cell 1; have z2 := (hZ3).cell 2; have z3 := (hZ3).cell 3; have z4 := (hZ3).cell 4; have z5 := (hZ3).cell 5; have z6 := (hZ3).cell 6; have z7 := (hZ3).cell 7; have z8 := (hZ3).cell 8; have z9 := (hZ3).cell 9; simp at z0 z1 z2 z3 z4 z5 z6 z7 z8 z9
        have zf := hZ3.frozen
        have HZ3 := Lib.hid hZ3
        clear hZ3
        have hB3 : Below w.heap.size w w3 := (by repeat' (first | exact Below.refl _ _ | refine Below.alloc ?_ ?_ _ | refine Below.setCell ?_ ?_ _ | refine Below.drew ?_ | (apply below_step; assumption) | (simp; done) | (simp; omega) | omega))
        go_wp2_with fail
        have HX : Hid (labsOk l = false) := by
          show _ = _
          rw [HO.out, HF.out, HD.out, labsFrom_bad HR.out]
        rw [readOf_no HX.out, HX.out]
        have hX : BlockIs ((((((((((w3.setCell ⟨w.heap.size, 0, none⟩ (.int .i64 0)).setCell ⟨w.heap.size, 1, none⟩ (.int .i64 0)).setCell ⟨w.heap.size, 2, none⟩ (.int .i64 0)).setCell ⟨w.heap.size, 3, none⟩ (.int .i64 0)).setCell ⟨w.heap.size, 4, none⟩ (.int .i64 0)).setCell ⟨w.heap.size, 5, none⟩ (.int .i64 0)).setCell ⟨w.heap.size, 6, none⟩ (.int .i64 0)).setCell ⟨w.heap.size, 7, none⟩ (.int .i64 0)).setCell ⟨w.heap.size, 8, none⟩ (.int .i64 0)).setCell ⟨w.heap.size, 9, none⟩ (.int .i64 0)) w.heap.size 67 #[.int .i64 (mzero 0), .int .i64 (mzero 1), .int .i64 (mzero 2), .int .i64 (mzero 3), .int .i64 (mzero 4), .int .i64 (mzero 5), .int .i64 (mzero 6), .int .i64 (mzero 7), .int .i64 (mzero 8), .int .i64 (mzero 9)] := put10 mzero HZ3.out
        have hBX : Below w.heap.size w ((((((((((w3.setCell ⟨w.heap.size, 0, none⟩ (.int .i64 0)).setCell ⟨w.heap.size, 1, none⟩ (.int .i64 0)).setCell ⟨w.heap.size, 2, none⟩ (.int .i64 0)).setCell ⟨w.heap.size, 3, none⟩ (.int .i64 0)).setCell ⟨w.heap.size, 4, none⟩ (.int .i64 0)).setCell ⟨w.heap.size, 5, none⟩ (.int .i64 0)).setCell ⟨w.heap.size, 6, none⟩ (.int .i64 0)).setCell ⟨w.heap.size, 7, none⟩ (.int .i64 0)).setCell ⟨w.heap.size, 8, none⟩ (.int .i64 0)).setCell ⟨w.heap.size, 9, none⟩ (.int .i64 0)) := below10 mzero hB3 (Nat.le_refl _)
        generalize ((((((((((w3.setCell ⟨w.heap.size, 0, none⟩ (.int .i64 0)).setCell ⟨w.heap.size, 1, none⟩ (.int .i64 0)).setCell ⟨w.heap.size, 2, none⟩ (.int .i64 0)).setCell ⟨w.heap.size, 3, none⟩ (.int .i64 0)).setCell ⟨w.heap.size, 4, none⟩ (.int .i64 0)).setCell ⟨w.heap.size, 5, none⟩ (.int .i64 0)).setCell ⟨w.heap.size, 6, none⟩ (.int .i64 0)).setCell ⟨w.heap.size, 7, none⟩ (.int .i64 0)).setCell ⟨w.heap.size, 8, none⟩ (.int .i64 0)).setCell ⟨w.heap.size, 9, none⟩ (.int .i64 0)) = X at hX hBX ⊢
        clear z0 z1 z2 z3 z4 z5 z6 z7 z8 z9
        have z0 := (hX).cell 0; have z1 := (hX).cell 1; have z2 := (hX).cell 2; have z3 := (hX).cell 3; have z4 := (hX).cell 4; have z5 := (hX).cell 5; have z6 := (hX).cell 6; have z7 := (hX).cell 7; have z8 := (hX).cell 8; have z9 := (hX).cell 9; simp at z0 z1 z2 z3 z4 z5 z6 z7 z8 z9
        refine bodyPost_ret (v := .tuple #[.agg #[.int .i64 (mzero 0), .int .i64 (mzero 1), .int .i64 (mzero 2), .int .i64 (mzero 3), .int .i64 (mzero 4), .int .i64 (mzero 5), .int .i64 (mzero 6), .int .i64 (mzero 7), .int .i64 (mzero 8), .int .i64 (mzero 9)], .bool false]) (by simp [results, Tryd.results39, go_sem, z0, z1, z2, z3, z4, z5, z6, z7, z8, z9]) rfl ⟨rfl, hBX⟩
      · have HR := Lib.hid hro
        have hkr := LV.ok_iff.1 hro
        have hk0 : 0 ≤ r.k := hkr.1
        have hk9 : r.k ≤ 9 := hkr.2.1
        clear hro hkr
        by_cases hpk : p < r.k
        · have HP := Lib.hid hpk
          go_wp2_with fail
          refine (labInRange_yes r _ HR.out).mono ?_
          rintro e w3 ⟨rfl, hb3⟩
          have hz3 := hb3.size
          simp at hz3
          have hM3 := (HMB.out.alloc _).below hb3 (by simp; omega)
          have hT3 := (BlockIs.new wr 59 #[.int .i64 r.k, .int .i64 r.v]).below hb3 (by simp)
          have z0 := (hM3).cell 0; have z1 := (hM3).cell 1; have z2 := (hM3).cell 2; have z3 := (hM3).cell 3; have z4 := (hM3).cell 4; have z5 := (hM3).cell 5; have z6 := (hM3).cell 6; have z7 := (hM3).cell 7; have z8 := (hM3).cell 8; have z9 := (hM3).cell 9; simp at z0 z1 z2 z3 z4 z5 z6 z7 z8 z9
          have t0 := hT3.cell 0
          have t1 := hT3.cell 1
          simp at t0 t1
          have hw3 : wr.heap.size < w3.heap.size := by omega
          have HM3 := Lib.hid hM3
          have HT3 := Lib.hid hT3
          clear hM3 hT3
          go_wp2_with fail
          refine (with_any m r _ HR.out).mono ?_
          rintro e w4 ⟨rfl, hb4⟩
          have hz4 := hb4.size
          have hM4 := HM3.out.below hb4 (by omega)
          have hT4 := HT3.out.below hb4 (by omega)
          have HM4 := Lib.hid hM4
          clear z0 z1 z2 z3 z4 z5 z6 z7 z8 z9 t0 t1
          have z0 := (hM4).cell 0; have z1 := (hM4).cell 1; have z2 := (hM4).cell 2; have z3 := (hM4).cell 3; have z4 := (hM4).cell 4; have z5 := (hM4).cell 5; have z6 := (hM4).cell 6; have z7 := (hM4).cell 7; have z8 := (hM4).cell 8; have z9 := (hM4).cell 9; simp at z0 z1 z2 z3 z4 z5 z6 z7 z8 z9
          have zf := hM4.frozen
          have t0 := hT4.cell 0
          simp at t0
          have hne : w.heap.size + 1 ≠ wr.heap.size := by omega
          have hB4 : Below w.heap.size w w4 := (by repeat' (first | exact Below.refl _ _ | refine Below.alloc ?_ ?_ _ | refine Below.setCell ?_ ?_ _ | refine Below.drew ?_ | (apply below_step; assumption) | (simp; done) | (simp; omega) | omega))
          have HZ4 := Lib.hid (((HZ.out.alloc _).below hb3 (by simp; omega)).below hb4 (by omega))
          clear hM4 hT4
          go_wp2_with fail
          go_roundw
          case rel =>
            refine ⟨k + 1, r.k, mwith m r, by omega, by go_num, rfl, by omega, by omega, ?_, ?_, ?_, ?_, ?_⟩
            · rw [HF.out, HD.out, labsFrom_yes HR.out HP.out]
            · rw [HM.out, HD.out]; rfl
            · exact below10 (mwith m r) hB4 (by omega)
            · exact far10 (mwith m r) HZ4.out (by omega)
            · exact put10 (mwith m r) HM4.out
          case measure => simp [intOf]; omega
        · have HP := Lib.hid (show r.k ≤ p by omega)
          have hpk' : r.k ≤ p := by omega
          go_wp2_with fail
          refine (labInRange_yes r _ HR.out).mono ?_
          rintro e w3 ⟨rfl, hb3⟩
          have hz3 := hb3.size
          simp at hz3
          have hZ3 := (HZ.out.alloc _).below hb3 (by simp; omega)
          have hT3 := (BlockIs.new wr 59 #[.int .i64 r.k, .int .i64 r.v]).below hb3 (by simp)
          have z0 := (hZ3).cell 0; have z1 := (hZ3).cell 1; have z2 := (hZ3).cell 2; have z3 := (hZ3).cell 3; have z4 := (hZ3).cell 4; have z5 := (hZ3).cell 5; have z6 := (hZ3).cell 6; have z7 := (hZ3).cell 7; have z8 := (hZ3).cell 8; have z9 := (hZ3).cell 9; simp at z0 z1 z2 z3 z4 z5 z6 z7 z8 z9
          have zf := hZ3.frozen
          have t0 := hT3.cell 0
          simp at t0
          have HZ3 := Lib.hid hZ3
          clear hZ3 hT3
          have hB3 : Below w.heap.size w w3 := (by repeat' (first | exact Below.refl _ _ | refine Below.alloc ?_ ?_ _ | refine Below.setCell ?_ ?_ _ | refine Below.drew ?_ | (apply below_step; assumption) | (simp; done) | (simp; omega) | omega))
          go_wp2_with fail
          have HX : Hid (labsOk l = false) := by
            show _ = _
            rw [HO.out, HF.out, HD.out, labsFrom_low HP.out]
          rw [readOf_no HX.out, HX.out]
          have hX : BlockIs ((((((((((w3.setCell ⟨w.heap.size, 0, none⟩ (.int .i64 0)).setCell ⟨w.heap.size, 1, none⟩ (.int .i64 0)).setCell ⟨w.heap.size, 2, none⟩ (.int .i64 0)).setCell ⟨w.heap.size, 3, none⟩ (.int .i64 0)).setCell ⟨w.heap.size, 4, none⟩ (.int .i64 0)).setCell ⟨w.heap.size, 5, none⟩ (.int .i64 0)).setCell ⟨w.heap.size, 6, none⟩ (.int .i64 0)).setCell ⟨w.heap.size, 7, none⟩ (.int .i64 0)).setCell ⟨w.heap.size, 8, none⟩ (.int .i64 0)).setCell ⟨w.heap.size, 9, none⟩ (.int .i64 0)) w.heap.size 67 #[.int .i64 (mzero 0), .int .i64 (mzero 1), .int .i64 (mzero 2), .int .i64 (mzero 3), .int .i64 (mzero 4), .int .i64 (mzero 5), .int .i64 (mzero 6), .int .i64 (mzero 7), .int .i64 (mzero 8), .int .i64 (mzero 9)] := put10 mzero HZ3.out
          have hBX : Below w.heap.size w ((((((((((w3.setCell ⟨w.heap.size, 0, none⟩ (.int .i64 0)).setCell ⟨w.heap.size, 1, none⟩ (.int .i64 0)).setCell ⟨w.heap.size, 2, none⟩ (.int .i64 0)).setCell ⟨w.heap.size, 3, none⟩ (.int .i64 0)).setCell ⟨w.heap.size, 4, none⟩ (.int .i64 0)).setCell ⟨w.heap.size, 5, none⟩ (.int .i64 0)).setCell ⟨w.heap.size, 6, none⟩ (.int .i64 0)).setCell ⟨w.heap.size, 7, none⟩ (.int .i64 0)).setCell ⟨w.heap.size, 8, none⟩ (.int .i64 0)).setCell ⟨w.heap.size, 9, none⟩ (.int .i64 0)) := below10 mzero hB3 (Nat.le_refl _)
          generalize ((((((((((w3.setCell ⟨w.heap.size, 0, none⟩ (.int .i64 0)).setCell ⟨w.heap.size, 1, none⟩ (.int .i64 0)).setCell ⟨w.heap.size, 2, none⟩ (.int .i64 0)).setCell ⟨w.heap.size, 3, none⟩ (.int .i64 0)).setCell ⟨w.heap.size, 4, none⟩ (.int .i64 0)).setCell ⟨w.heap.size, 5, none⟩ (.int .i64 0)).setCell ⟨w.heap.size, 6, none⟩ (.int .i64 0)).setCell ⟨w.heap.size, 7, none⟩ (.int .i64 0)).setCell ⟨w.heap.size, 8, none⟩ (.int .i64 0)).setCell ⟨w.heap.size, 9, none⟩ (.int .i64 0)) = X at hX hBX ⊢
          clear z0 z1 z2 z3 z4 z5 z6 z7 z8 z9
          have z0 := (hX).cell 0; have z1 := (hX).cell 1; have z2 := (hX).cell 2; have z3 := (hX).cell 3; have z4 := (hX).cell 4; have z5 := (hX).cell 5; have z6 := (hX).cell 6; have z7 := (hX).cell 7; have z8 := (hX).cell 8; have z9 := (hX).cell 9; simp at z0 z1 z2 z3 z4 z5 z6 z7 z8 z9
          refine bodyPost_ret (v := .tuple #[.agg #[.int .i64 (mzero 0), .int .i64 (mzero 1), .int .i64 (mzero 2), .int .i64 (mzero 3), .int .i64 (mzero 4), .int .i64 (mzero 5), .int .i64 (mzero 6), .int .i64 (mzero 7), .int .i64 (mzero 8), .int .i64 (mzero 9)], .bool false]) (by simp [results, Tryd.results39, go_sem, z0, z1, z2, z3, z4, z5, z6, z7, z8, z9]) rfl ⟨rfl, hBX⟩
    · have hkl : k = l.length := by omega
      have HF' : Hid (labsOk l = true) := by
        show _ = _
        rw [HO.out, HF.out, hkl, List.drop_length]; rfl
      have HM' : Hid (marksOf mzero l = m) := by
        show _ = _
        rw [HM.out, hkl, List.drop_length]; rfl
      clear hkl
      have z0 := (hz).cell 0; have z1 := (hz).cell 1; have z2 := (hz).cell 2; have z3 := (hz).cell 3; have z4 := (hz).cell 4; have z5 := (hz).cell 5; have z6 := (hz).cell 6; have z7 := (hz).cell 7; have z8 := (hz).cell 8; have z9 := (hz).cell 9; simp at z0 z1 z2 z3 z4 z5 z6 z7 z8 z9
      have y0 := (hm).cell 0; have y1 := (hm).cell 1; have y2 := (hm).cell 2; have y3 := (hm).cell 3; have y4 := (hm).cell 4; have y5 := (hm).cell 5; have y6 := (hm).cell 6; have y7 := (hm).cell 7; have y8 := (hm).cell 8; have y9 := (hm).cell 9; simp at y0 y1 y2 y3 y4 y5 y6 y7 y8 y9
      have zf := hz.frozen
      clear hz hm
      go_wp2_with fail
      rw [readOf_yes HF'.out, HF'.out, HM'.out]
      have hX : BlockIs ((((((((((wr.setCell ⟨w.heap.size, 0, none⟩ (.int .i64 (m 0))).setCell ⟨w.heap.size, 1, none⟩ (.int .i64 (m 1))).setCell ⟨w.heap.size, 2, none⟩ (.int .i64 (m 2))).setCell ⟨w.heap.size, 3, none⟩ (.int .i64 (m 3))).setCell ⟨w.heap.size, 4, none⟩ (.int .i64 (m 4))).setCell ⟨w.heap.size, 5, none⟩ (.int .i64 (m 5))).setCell ⟨w.heap.size, 6, none⟩ (.int .i64 (m 6))).setCell ⟨w.heap.size, 7, none⟩ (.int .i64 (m 7))).setCell ⟨w.heap.size, 8, none⟩ (.int .i64 (m 8))).setCell ⟨w.heap.size, 9, none⟩ (.int .i64 (m 9))) w.heap.size 67 #[.int .i64 (m 0), .int .i64 (m 1), .int .i64 (m 2), .int .i64 (m 3), .int .i64 (m 4), .int .i64 (m 5), .int .i64 (m 6), .int .i64 (m 7), .int .i64 (m 8), .int .i64 (m 9)] := put10 m HZ.out
      have hBX : Below w.heap.size w ((((((((((wr.setCell ⟨w.heap.size, 0, none⟩ (.int .i64 (m 0))).setCell ⟨w.heap.size, 1, none⟩ (.int .i64 (m 1))).setCell ⟨w.heap.size, 2, none⟩ (.int .i64 (m 2))).setCell ⟨w.heap.size, 3, none⟩ (.int .i64 (m 3))).setCell ⟨w.heap.size, 4, none⟩ (.int .i64 (m 4))).setCell ⟨w.heap.size, 5, none⟩ (.int .i64 (m 5))).setCell ⟨w.heap.size, 6, none⟩ (.int .i64 (m 6))).setCell ⟨w.heap.size, 7, none⟩ (.int .i64 (m 7))).setCell ⟨w.heap.size, 8, none⟩ (.int .i64 (m 8))).setCell ⟨w.heap.size, 9, none⟩ (.int .i64 (m 9))) := below10 m hB (Nat.le_refl _)
      generalize ((((((((((wr.setCell ⟨w.heap.size, 0, none⟩ (.int .i64 (m 0))).setCell ⟨w.heap.size, 1, none⟩ (.int .i64 (m 1))).setCell ⟨w.heap.size, 2, none⟩ (.int .i64 (m 2))).setCell ⟨w.heap.size, 3, none⟩ (.int .i64 (m 3))).setCell ⟨w.heap.size, 4, none⟩ (.int .i64 (m 4))).setCell ⟨w.heap.size, 5, none⟩ (.int .i64 (m 5))).setCell ⟨w.heap.size, 6, none⟩ (.int .i64 (m 6))).setCell ⟨w.heap.size, 7, none⟩ (.int .i64 (m 7))).setCell ⟨w.heap.size, 8, none⟩ (.int .i64 (m 8))).setCell ⟨w.heap.size, 9, none⟩ (.int .i64 (m 9))) = X at hX hBX ⊢
      clear z0 z1 z2 z3 z4 z5 z6 z7 z8 z9
      have z0 := (hX).cell 0; have z1 := (hX).cell 1; have z2 := (hX).cell 2; have z3 := (hX).cell 3; have z4 := (hX).cell 4; have z5 := (hX).cell 5; have z6 := (hX).cell 6; have z7 := (hX).cell 7; have z8 := (hX).cell 8; have z9 := (hX).cell 9; simp at z0 z1 z2 z3 z4 z5 z6 z7 z8 z9
      refine bodyPost_ret (v := .tuple #[.agg #[.int .i64 (m 0), .int .i64 (m 1), .int .i64 (m 2), .int .i64 (m 3), .int .i64 (m 4), .int .i64 (m 5), .int .i64 (m 6), .int .i64 (m 7), .int .i64 (m 8), .int .i64 (m 9)], .bool true]) (by simp [results, Tryd.results39, go_sem, z0, z1, z2, z3, z4, z5, z6, z7, z8, z9]) rfl ⟨rfl, hBX⟩

theorem readLabs_any (v : Value) (l : List LV) (w : World) (hv : LabSl w v l) (hlen : l.length ≤ 1048576) :
    Calls Tryd.prog 39 #[v] w (RetM (readOf l) (labsOk l) w) := by
  by_cases h : l.length ≤ 6
  · exact readLabs_short v l w hv h
  · obtain ⟨A, c, rfl, _⟩ := hv.form
    rw [readOf_no (labsOk_long (by omega)), labsOk_long (by omega)]
    exact readLabs_long A l.length c w (by omega) hlen
end Go.Proofs.YtcegofdmdemcbaaDoor
