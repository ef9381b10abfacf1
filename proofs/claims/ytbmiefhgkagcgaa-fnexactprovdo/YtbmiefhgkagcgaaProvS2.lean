/- The contracts of the model's MsgOk, l07At, l07State, ProvState, ProvCount. -/
import Derived.Test.YtbmiefhgkagcgaaProvS
namespace Go.Proofs.Ytbmiefhgkagcgaa
open Go.RowKit

theorem msgOk_eq7 (m : MV) (b1 b2 k1 c1 c2 k2 b4 : Bool) (h1 : lWithin m.e 1 1000 = b1) (h2 : lWithin m.i 1 99 = b2) (e1 : (m.k == 1) = k1) (e2 : decide (0 ≤ m.p) = c1) (e3 : decide (m.p < 5) = c2) (e4 : (m.k == 2) = k2) (h4 : (m.p == 0) = b4) : msgOk m = (b1 && b2 && ((k1 && c1 && c2) || (k2 && b4))) := by
  subst h1 h2 h4 e1 e2 e3 e4
  rw [Bool.eq_iff_iff, msgOk_iff]
  simp only [Bool.and_eq_true, Bool.or_eq_true, lWithin_iff, decide_eq_true_eq, beq_iff_eq]
  omega
set_option maxHeartbeats 1600000 in
theorem sMsgOk_any (m : MV) (w : World) : Calls Try.prog 27 #[.agg #[.int .i64 m.k, .int .i64 m.e, .int .i64 m.i, .int .i64 m.p]] w fun e w' => e = .returned (.bool (msgOk m)) ∧ Below w.heap.size w w' := by
  have h1 := fun w => l06Epoch_any m.e w
  have h2 := fun w => l03IdP_any m.i w
  have HE := Lib.hid (msgOk_eq7 m)
  generalize msgOk m = ok at *
  generalize lWithin m.e 1 1000 = b1 at *
  generalize lWithin m.i 1 99 = b2 at *
  generalize e1 : (m.k == 1) = k1 at *
  generalize e2 : decide (0 ≤ m.p) = c1 at *
  generalize e3 : decide (m.p < 5) = c2 at *
  generalize e4 : (m.k == 2) = k2 at *
  generalize e5 : (m.p == 0) = b4 at *
  have HE' := Lib.hid (HE.out _ _ _ _ _ _ _ rfl rfl rfl rfl rfl rfl rfl)
  have H1 := Lib.hid h1
  have H2 := Lib.hid h2
  clear h1 h2 HE
  go_enter Try.func27, Try.ntmps27
  go_wp2_with fail
  refine (H1.out _).mono ?_
  rintro e w1 ⟨rfl, rfl⟩
  cases b1
  · go_wp2_with fail
    go_ret
    exact ⟨by rw [HE'.out]; simp, (by repeat' (first | exact Below.refl _ _ | refine Below.alloc ?_ ?_ _ | refine Below.setCell ?_ ?_ _ | refine Below.drew ?_ | (apply below_step; assumption) | (simp; done) | (simp; omega) | omega))⟩
  go_wp2_with fail
  refine (H2.out _).mono ?_
  rintro e w1 ⟨rfl, rfl⟩
  cases b2
  · go_wp2_with fail
    go_ret
    exact ⟨by rw [HE'.out]; simp, (by repeat' (first | exact Below.refl _ _ | refine Below.alloc ?_ ?_ _ | refine Below.setCell ?_ ?_ _ | refine Below.drew ?_ | (apply below_step; assumption) | (simp; done) | (simp; omega) | omega))⟩
  cases k1 <;> cases k2 <;> cases c1 <;> cases c2
  all_goals
    go_wp2_with fail
    go_ret
    exact ⟨by rw [HE'.out]; simp, (by repeat' (first | exact Below.refl _ _ | refine Below.alloc ?_ ?_ _ | refine Below.setCell ?_ ?_ _ | refine Below.drew ?_ | (apply below_step; assumption) | (simp; done) | (simp; omega) | omega))⟩

/-- The place of the first instance with an Id, from k on; -1 if there is none. -/
def insFrom (key : Int) : List RV → Nat → Int
  | [], _ => -1
  | x :: xs, k => if x.c = key then (k : Int) else insFrom key xs (k + 1)
theorem ins_spec (key : Int) (l : List RV) (k0 : Nat) : (insFrom key l k0 = -1 ∧ l.any (fun r => r.c == key) = false) ∨ ∃ (j : Nat) (r : RV), insFrom key l k0 = ((k0 + j : Nat) : Int) ∧ l[j]? = some r ∧ r.c = key ∧ itemAt l key = (r, true) := by
  induction l generalizing k0 with
  | nil => exact .inl ⟨rfl, rfl⟩
  | cons x xs ih =>
    by_cases hx : x.c = key
    · refine .inr ⟨0, x, ?_, rfl, hx, ?_⟩
      · simp [insFrom, hx]
      · simp [itemAt, hx]
    · have hb : (x.c == key) = false := by simpa using hx
      rcases ih (k0 + 1) with ⟨h1, h2⟩ | ⟨j, r, h1, h2, h3, h4⟩
      · exact .inl ⟨by simp [insFrom, hx, h1], by simp [hb]; simpa using h2⟩
      · refine .inr ⟨j + 1, r, ?_, by simpa using h2, h3, ?_⟩
        · rw [show k0 + (j + 1) = k0 + 1 + j by omega]
          simp only [insFrom, if_neg hx]; exact h1
        · unfold itemAt at h4 ⊢
          rw [List.find?_cons, hb]; exact h4
theorem ins_step {key : Int} {l : List RV} {k : Nat} {r : RV} (hr : l[k]? = some r) : insFrom key (l.drop k) k = if r.c = key then (k : Int) else insFrom key (l.drop (k + 1)) (k + 1) := by
  have hk : k < l.length := (List.getElem?_eq_some_iff.1 hr).1
  rw [List.drop_eq_getElem_cons hk, (List.getElem?_eq_some_iff.1 hr).2]; rfl
set_option maxHeartbeats 1600000 in
theorem l07At_any (ep : Int) (v : Value) (l : List RV) (key : Int) (w : World) (hv : InSl w v l) (hlen : l.length ≤ 2000000) : Calls Try.prog 37 #[.agg #[.int .i64 ep, v], .int .i64 key] w fun e w' => e = .returned (.int .i64 (insFrom key l 0)) ∧ Below w.heap.size w w' := by
  obtain ⟨A, c, rfl, hA⟩ := hv.form
  have HA := Lib.hid hA
  clear hA hv
  go_enter Try.func37, Try.ntmps37
  go_wp2_with fail
  go_loopw [5] (fun s5 wr => ∃ k : Nat, k ≤ l.length ∧ s5 = .int .i64 k ∧ insFrom key l 0 = insFrom key (l.drop k) k ∧ BlockIs wr w.heap.size 26 #[.int .i64 ep, .slice A l.length c] ∧ Below w.heap.size w wr) (fun s5 _ => (l.length - RowKit.intOf s5).toNat)
  case atStart => exact ⟨0, by omega, rfl, by simp, BlockIs.new _ _ _, (by repeat' (first | exact Below.refl _ _ | refine Below.alloc ?_ ?_ _ | refine Below.setCell ?_ ?_ _ | refine Below.drew ?_ | (apply below_step; assumption) | (simp; done) | (simp; omega) | omega))⟩
  case round =>
    obtain ⟨k, hk, rfl, hix, hblk, hB⟩ := hrel
    have HBK := Lib.hid hblk
    have HIX := Lib.hid hix
    have hzr := hB.size
    have gl := hblk.lt
    have g1 := hblk.cell 1
    simp at g1
    clear hblk hix
    by_cases hlt : k < l.length
    · obtain ⟨b, off, rfl, hbw, hat⟩ := HA.out (by omega)
      obtain ⟨r, hr⟩ : ∃ r, l[k]? = some r := ⟨_, List.getElem?_eq_getElem hlt⟩
      obtain ⟨q0, q1, q2⟩ := (hat.below hB hbw) k r hr
      have HST := Lib.hid (HIX.out.trans (ins_step hr))
      have hlti : (k : Int) < (l.length : Int) := by omega
      clear hr hat
      generalize e1 : (r.c == key) = be
      cases be
      · go_wp2_with fail
        go_roundw
        case rel => exact ⟨k + 1, by omega, by go_num, by rw [HST.out, if_neg (by simpa using e1)], HBK.out, hB⟩
        case measure => simp [RowKit.intOf]; omega
      · go_wp2_with fail
        go_ret
        exact ⟨by rw [HST.out, if_pos (by simpa using e1)]; rfl, hB⟩
    · have HEND := Lib.hid (show insFrom key l 0 = -1 by rw [HIX.out, show k = l.length by omega, List.drop_length]; rfl)
      go_wp2_with fail
      go_ret
      exact ⟨by rw [HEND.out]; rfl, hB⟩
set_option maxHeartbeats 1600000 in
theorem l07State_any (ep : Int) (v : Value) (l : List RV) (key : Int) (w : World) (hv : InSl w v l) (hlen : l.length ≤ 1048576) : Calls Try.prog 43 #[.agg #[.int .i64 ep, v], .int .i64 key] w fun e w' => e = .returned (.int .i64 (itemAt l key).1.p) ∧ Below w.heap.size w w' := by
  obtain ⟨A, c, rfl, hA⟩ := hv.form
  have HA := Lib.hid hA
  have HV := Lib.hid hv
  have hsp := ins_spec key l 0
  have hat := fun w hv => l07At_any ep (.slice A l.length c) l key w hv (by omega)
  have HN := Lib.hid (show l.any (fun r => r.c == key) = false → (itemAt l key).1.p = 0 from fun h => by rw [itemAt_no h]; rfl)
  generalize insFrom key l 0 = ix at *
  have HAT := Lib.hid hat
  have HSP := Lib.hid hsp
  clear hA hv hat hsp
  go_enter Try.func43, Try.ntmps43
  go_wp2_with fail
  have hX : Below w.heap.size w (w.alloc (.cells #[.int .i64 ep, .slice A l.length c] 26)) := (by repeat' (first | exact Below.refl _ _ | refine Below.alloc ?_ ?_ _ | refine Below.setCell ?_ ?_ _ | refine Below.drew ?_ | (apply below_step; assumption) | (simp; done) | (simp; omega) | omega))
  refine (HAT.out _ (HV.out.below hX)).mono ?_
  rintro e w1 ⟨rfl, hb1⟩
  have hC1 := below_of hX hb1
  have B1 := Lib.hid ((BlockIs.new w 26 #[.int .i64 ep, .slice A l.length c]).below hb1 (by simp))
  have g1 := B1.out.cell 1
  simp at g1
  rcases HSP.out with ⟨rfl, ha⟩ | ⟨j, r, rfl, hj, hk, hr⟩
  · have HE := Lib.hid (HN.out ha)
    clear ha HN
    go_wp2_with fail
    go_ret
    exact ⟨by rw [HE.out]; rfl, hC1⟩
  · have hlt : j < l.length := (List.getElem?_eq_some_iff.1 hj).1
    obtain ⟨b, off, rfl, hbw, hat⟩ := HA.out (by omega)
    obtain ⟨q0, q1, q2⟩ := (hat.below hC1 hbw) j r hj
    have HE := Lib.hid (show (itemAt l key).1.p = r.p by rw [hr])
    have hlti : ((0 + j : Nat) : Int) < (l.length : Int) := by omega
    simp only [Nat.zero_add] at hlti ⊢
    clear hat hj hk hr HN
    go_wp2_with fail
    go_ret
    exact ⟨by rw [HE.out]; rfl, hC1⟩
theorem sProvState_any (ep : Int) (v : Value) (l : List RV) (z : Int) (w : World) (hv : InSl w v l) (hlen : l.length ≤ 1048576) : Calls Try.prog 17 #[.agg #[.int .i64 ep, v], .int .i64 z] w fun e w' => e = .returned (.int .i64 (provState ep l z)) ∧ Below w.heap.size w w' := by
  obtain ⟨A, c, rfl, hA⟩ := hv.form
  have HV := Lib.hid hv
  have hP := fun w h => sProvOk_any ep (.slice A l.length c) l w h
  have HS := Lib.hid (fun w h => l07State_any ep (.slice A l.length c) l z w h hlen)
  have HE := Lib.hid (show provState ep l z = if provOk ep l then (itemAt l z).1.p else 0 from rfl)
  generalize provState ep l z = ans at *
  generalize provOk ep l = ok at *
  have HP := Lib.hid hP
  clear hA hv hP
  go_enter Try.func17, Try.ntmps17
  go_wp2_with fail
  have hX : Below w.heap.size w (w.alloc (.cells #[.int .i64 ep, .slice A l.length c] 26)) := (by repeat' (first | exact Below.refl _ _ | refine Below.alloc ?_ ?_ _ | refine Below.setCell ?_ ?_ _ | refine Below.drew ?_ | (apply below_step; assumption) | (simp; done) | (simp; omega) | omega))
  refine (HP.out _ (HV.out.below hX)).mono ?_
  rintro e w1 ⟨rfl, hb1⟩
  have hC1 := below_of hX hb1
  have B1 := Lib.hid ((BlockIs.new w 26 #[.int .i64 ep, .slice A l.length c]).below hb1 (by simp))
  have g1 := B1.out.cell
  cases ok
  · have HE1 := Lib.hid (show ans = 0 by rw [HE.out]; rfl)
    clear HE
    go_wp2_with fail
    go_ret
    exact ⟨by rw [HE1.out]; rfl, hC1⟩
  have HE1 := Lib.hid (show ans = (itemAt l z).1.p by rw [HE.out]; rfl)
  clear HE
  go_wp2_with fail
  refine (HS.out _ (HV.out.below hC1)).mono ?_
  rintro e w2 ⟨rfl, hb2⟩
  have hC2 := below_of hC1 hb2
  generalize (itemAt l z).1.p = y at *
  go_wp2_with fail
  go_ret
  exact ⟨by rw [HE1.out]; rfl, hC2⟩
set_option maxHeartbeats 1600000 in
theorem sProvCount_any (ep : Int) (v : Value) (l : List RV) (pool : Int) (w : World) (hv : InSl w v l) (hlen : l.length ≤ 1048576) : Calls Try.prog 32 #[.agg #[.int .i64 ep, v], .int .i64 pool] w fun e w' => e = .returned (.int .i64 (provCount ep l pool)) ∧ Below w.heap.size w w' := by
  obtain ⟨A, c, rfl, hA⟩ := hv.form
  have HA := Lib.hid hA
  have HV := Lib.hid hv
  clear hA hv
  have hP := fun w h => sProvOk_any ep (.slice A l.length c) l w h
  have HE := Lib.hid (show provCount ep l pool = if provOk ep l then (upIn pool l : Int) else -1 from rfl)
  generalize provCount ep l pool = ans at *
  generalize provOk ep l = ok at *
  have HP := Lib.hid hP
  clear hP
  go_enter Try.func32, Try.ntmps32
  go_wp2_with fail
  have hX : Below w.heap.size w (w.alloc (.cells #[.int .i64 ep, .slice A l.length c] 26)) := (by repeat' (first | exact Below.refl _ _ | refine Below.alloc ?_ ?_ _ | refine Below.setCell ?_ ?_ _ | refine Below.drew ?_ | (apply below_step; assumption) | (simp; done) | (simp; omega) | omega))
  refine (HP.out _ (HV.out.below hX)).mono ?_
  rintro e w1 ⟨rfl, hb1⟩
  have hC1 := below_of hX hb1
  have HB1 := Lib.hid ((BlockIs.new w 26 #[.int .i64 ep, .slice A l.length c]).below hb1 (by simp))
  have g1 := HB1.out.cell
  cases ok
  · have HE1 := Lib.hid (show ans = -1 by rw [HE.out]; rfl)
    clear HE
    go_wp2_with fail
    go_ret
    exact ⟨by rw [HE1.out]; rfl, hC1⟩
  have HE' := Lib.hid (show ans = (upIn pool l : Int) by rw [HE.out]; rfl)
  clear HE
  go_wp2_with fail
  go_loopw [6, 5] (fun s6 s5 wr => ∃ k : Nat, k ≤ l.length ∧ s6 = .int .i64 k ∧ s5 = .int .i64 (upIn pool (l.take k) : Nat) ∧ Below w1.heap.size w1 wr) (fun s6 _ _ => (l.length - RowKit.intOf s6).toNat)
  case atStart => exact ⟨0, by omega, rfl, by simp [upIn], Below.refl _ _⟩
  case round =>
    obtain ⟨k, hk, rfl, rfl, hB⟩ := hrel
    have hzr := hB.size
    have hC := below_of hC1 hB
    have HBr := Lib.hid (HB1.out.below hB HB1.out.lt)
    have g2 := HBr.out.cell
    by_cases hlt : k < l.length
    · obtain ⟨b, off, rfl, hbw, hat⟩ := HA.out (by omega)
      obtain ⟨r, hr⟩ : ∃ r, l[k]? = some r := ⟨_, List.getElem?_eq_getElem hlt⟩
      obtain ⟨q0, q1, q2⟩ := (hat.below hC hbw) k r hr
      have hlti : (k : Int) < (l.length : Int) := by omega
      have HST := Lib.hid (upIn_step pool hr)
      have hule := upIn_le pool (l.take k)
      have hul2 : upIn pool (l.take k) ≤ 1048576 := by rw [List.length_take] at hule; omega
      generalize upIn pool (l.take k) = u at *
      generalize e1 : (r.m == pool) = b1 at *
      generalize e2 : (r.p == 1) = b2 at *
      clear hat hr hule
      cases b1
      · go_wp2_with fail
        go_roundw
        case rel => exact ⟨k + 1, by omega, by go_num, by rw [HST.out]; rfl, hB⟩
        case measure => simp [RowKit.intOf]; omega
      cases b2
      · go_wp2_with fail
        go_roundw
        case rel => exact ⟨k + 1, by omega, by go_num, by rw [HST.out]; rfl, hB⟩
        case measure => simp [RowKit.intOf]; omega
      · go_wp2_with fail
        go_roundw
        case rel => exact ⟨k + 1, by omega, by go_num, by rw [HST.out]; go_num, hB⟩
        case measure => simp [RowKit.intOf]; omega
    · obtain rfl : k = l.length := by omega
      have HT := Lib.hid (List.take_length (l := l))
      go_wp2_with fail
      go_ret
      refine ⟨?_, hC⟩
      rw [HE'.out, HT.out]; rfl
end Go.Proofs.Ytbmiefhgkagcgaa
