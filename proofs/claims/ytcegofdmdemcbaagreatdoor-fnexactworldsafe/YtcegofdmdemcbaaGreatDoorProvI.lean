/- The contracts of instOk, ProvOk, MsgOk, seek, ProvState, ProvCount. -/
import Derived.Test.YtcegofdmdemcbaaGreatDoorMg05
import Derived.Test.YtcegofdmdemcbaaGreatDoorMg02
namespace Go.Proofs.YtcegofdmdemcbaaGreatDoor
open Go.RowKit

theorem instId_any (n : Int) (w : World) : Calls Tryz.prog 182 #[.int .i64 n] w fun e w' => e = .returned (.bool (lWithin n 1 99)) ∧ w = w' := by
  unfold lWithin
  generalize e1 : decide ((1 : Int) ≤ n) = b1
  cases b1
  all_goals
    go_enter Tryz.func182, Tryz.ntmps182
    go_wp2
    go_ret
    exact ⟨by simp, rfl⟩
theorem instIn_eq (r : RV) (b1 b2 b3 b4 : Bool) (h1 : lWithin r.c 1 99 = b1) (h2 : lWithin r.m 0 4 = b2) (h3 : (r.p == 1) = b3) (h4 : (r.p == 2) = b4) : instIn r = (b1 && b2 && (b3 || b4)) := by
  subst h1 h2 h3 h4; rfl
theorem instOk_any (r : RV) (w : World) : Calls Tryz.prog 144 #[.agg #[.int .i64 r.c, .int .i64 r.m, .int .i64 r.p]] w fun e w' => e = .returned (.bool (instIn r)) ∧ Below w.heap.size w w' := by
  have h1 := fun w => instId_any r.c w
  have h2 := fun w => within_any r.m 0 4 w
  have HE := Lib.hid (instIn_eq r)
  generalize instIn r = ok at *
  generalize lWithin r.c 1 99 = b1 at *
  generalize lWithin r.m 0 4 = b2 at *
  generalize e3 : (r.p == 1) = b3
  generalize e4 : (r.p == 2) = b4
  have HE' := Lib.hid (HE.out _ _ _ _ rfl rfl e3 e4)
  have H1 := Lib.hid h1
  have H2 := Lib.hid h2
  clear h1 h2 HE
  go_enter Tryz.func144, Tryz.ntmps144
  go_wp2_with fail
  refine (H1.out _).mono ?_
  rintro e w1 ⟨rfl, rfl⟩
  cases b1
  · go_wp2_with fail
    go_ret
    exact ⟨by rw [HE'.out]; simp, (by repeat' (first | exact Below.refl _ _ | refine Below.alloc ?_ ?_ _ | refine Below.setCell ?_ ?_ _ | refine Below.drew ?_ | (apply below_step; assumption) | (simp; done) | (simp; omega) | omega))⟩
  go_wp2_with fail
  refine (H2.out _).mono ?_
  rintro e w1 ⟨rfl, rfl⟩
  cases b2
  · go_wp2_with fail
    go_ret
    exact ⟨by rw [HE'.out]; simp, (by repeat' (first | exact Below.refl _ _ | refine Below.alloc ?_ ?_ _ | refine Below.setCell ?_ ?_ _ | refine Below.drew ?_ | (apply below_step; assumption) | (simp; done) | (simp; omega) | omega))⟩
  cases b3
  · go_wp2_with fail
    go_ret
    exact ⟨by rw [HE'.out]; simp, (by repeat' (first | exact Below.refl _ _ | refine Below.alloc ?_ ?_ _ | refine Below.setCell ?_ ?_ _ | refine Below.drew ?_ | (apply below_step; assumption) | (simp; done) | (simp; omega) | omega))⟩
  · go_wp2_with fail
    go_ret
    exact ⟨by rw [HE'.out]; simp, (by repeat' (first | exact Below.refl _ _ | refine Below.alloc ?_ ?_ _ | refine Below.setCell ?_ ?_ _ | refine Below.drew ?_ | (apply below_step; assumption) | (simp; done) | (simp; omega) | omega))⟩

theorem provFrom_step {last : Int} {l : List RV} {k : Nat} {r : RV} (hr : l[k]? = some r) : provFrom last (l.drop k) = (instIn r && decide (last < r.c) && provFrom r.c (l.drop (k + 1))) := by
  have hk : k < l.length := (List.getElem?_eq_some_iff.1 hr).1
  rw [List.drop_eq_getElem_cons hk, (List.getElem?_eq_some_iff.1 hr).2]
  rfl
theorem provOk_eq (ep : Int) (l : List RV) (b1 b2 b3 : Bool) (h1 : lWithin ep 0 1000 = b1) (h2 : decide (60 < (l.length : Int)) = b2) (h3 : provFrom 0 l = b3) : provOk ep l = (b1 && !b2 && b3) := by
  subst h1 h2 h3
  unfold provOk
  congr 2
  by_cases h : l.length ≤ 60
  · simp [h]; omega
  · simp [h]; omega
set_option maxHeartbeats 3200000 in
theorem ProvOk_any (ep : Int) (v : Value) (l : List RV) (w : World) (hv : InSl w v l) : Calls Tryz.prog 72 #[.agg #[.int .i64 ep, v]] w fun e w' => e = .returned (.bool (provOk ep l)) ∧ Below w.heap.size w w' := by
  obtain ⟨A, c, rfl, hA⟩ := hv.form
  have HA := Lib.hid hA
  clear hA hv
  have h1 := fun w => within_any ep 0 1000 w
  have HE := Lib.hid (provOk_eq ep l)
  generalize lWithin ep 0 1000 = b1 at *
  generalize e2 : decide (60 < (l.length : Int)) = b2 at *
  have H1 := Lib.hid h1
  clear h1
  go_enter Tryz.func72, Tryz.ntmps72
  go_wp2_with fail
  refine (H1.out _).mono ?_
  rintro e w1 ⟨rfl, rfl⟩
  cases b1
  · go_wp2_with fail
    go_ret
    exact ⟨by rw [HE.out _ _ _ rfl rfl rfl]; simp, (by repeat' (first | exact Below.refl _ _ | refine Below.alloc ?_ ?_ _ | refine Below.setCell ?_ ?_ _ | refine Below.drew ?_ | (apply below_step; assumption) | (simp; done) | (simp; omega) | omega))⟩
  cases b2
  rotate_left
  · go_wp2_with fail
    go_ret
    exact ⟨by rw [HE.out _ _ _ rfl rfl rfl]; simp, (by repeat' (first | exact Below.refl _ _ | refine Below.alloc ?_ ?_ _ | refine Below.setCell ?_ ?_ _ | refine Below.drew ?_ | (apply below_step; assumption) | (simp; done) | (simp; omega) | omega))⟩
  have hl60 : l.length ≤ 60 := by have := of_decide_eq_false e2; omega
  have HOK := Lib.hid (show provOk ep l = provFrom 0 l by rw [HE.out _ _ _ rfl rfl rfl]; simp)
  clear HE e2
  go_wp2_with fail
  go_loopw [19, 3] (fun s19 s3 wr => ∃ (k : Nat) (last : Int), k ≤ l.length ∧ s19 = .int .i64 k ∧ s3 = .int .i64 last ∧ provFrom 0 l = provFrom last (l.drop k) ∧ (0 ≤ last ∧ last ≤ 99) ∧ Below w.heap.size w wr) (fun s19 _ _ => (l.length - RowKit.intOf s19).toNat)
  case atStart => exact ⟨0, 0, by omega, rfl, rfl, by rw [List.drop_zero], by omega, (by repeat' (first | exact Below.refl _ _ | refine Below.alloc ?_ ?_ _ | refine Below.setCell ?_ ?_ _ | refine Below.drew ?_ | (apply below_step; assumption) | (simp; done) | (simp; omega) | omega))⟩
  case round =>
    obtain ⟨k, last, hk, rfl, rfl, hfrom, hlast, hB⟩ := hrel
    have hzr := hB.size
    by_cases hlt : k < l.length
    · obtain ⟨b, off, rfl, hbw, hat⟩ := HA.out (by omega)
      obtain ⟨r, hr⟩ : ∃ r, l[k]? = some r := ⟨_, List.getElem?_eq_getElem hlt⟩
      obtain ⟨q0, q1, q2⟩ := (hat.below hB hbw) k r hr
      have hlti : (k : Int) < (l.length : Int) := by omega
      have HST := Lib.hid (hfrom.trans (provFrom_step hr))
      have HR := Lib.hid hr
      have hio := fun w => instOk_any r w
      have HIN := Lib.hid (instIn_iff (r := r)).1
      generalize instIn r = bi at *
      generalize e4 : decide (r.c ≤ last) = bl
      have HIO := Lib.hid hio
      clear hat hr hfrom hio
      go_wp2_with fail
      refine (HIO.out _).mono ?_
      rintro e w3 ⟨rfl, hb3⟩
      have hz3 := hb3.size
      simp at hz3
      have hB3 : Below w.heap.size w w3 := (by repeat' (first | exact Below.refl _ _ | refine Below.alloc ?_ ?_ _ | refine Below.setCell ?_ ?_ _ | refine Below.drew ?_ | (apply below_step; assumption) | (simp; done) | (simp; omega) | omega))
      have HB3 := Lib.hid ((BlockIs.new wr 114 #[.int .i64 r.c, .int .i64 r.m, .int .i64 r.p]).below hb3 (by simp))
      have q3 := HB3.out.cell 0
      simp at q3
      cases bi
      · go_wp2_with fail
        go_ret
        refine ⟨?_, hB3⟩
        rw [HOK.out, HST.out]; rfl
      cases bl
      rotate_left
      · go_wp2_with fail
        go_ret
        refine ⟨?_, hB3⟩
        have := of_decide_eq_true e4
        rw [HOK.out, HST.out, show decide (last < r.c) = false by simp; omega]; simp
      obtain ⟨⟨i1, i2⟩, _⟩ := HIN.out (by simp)
      have hlr : last < r.c := by have := of_decide_eq_false e4; omega
      go_wp2_with fail
      go_roundw
      case rel =>
        refine ⟨k + 1, r.c, by omega, by go_num, rfl, ?_, by omega, hB3⟩
        rw [HST.out, show decide (last < r.c) = true by simp; omega]; rfl
      case measure => simp [RowKit.intOf]; omega
    · obtain rfl : k = l.length := by omega
      have HF := Lib.hid hfrom
      clear hfrom
      go_wp2_with fail
      go_ret
      refine ⟨?_, hB⟩
      rw [HOK.out, HF.out, List.drop_length]; rfl

theorem msgOk_eq (m : MV) (b1 b2 k1 k2 b3 b4 : Bool) (h1 : lWithin m.e 1 1000 = b1) (h2 : lWithin m.i 1 99 = b2) (e1 : (m.k == 1) = k1) (e2 : (m.k == 2) = k2) (h3 : lWithin m.p 0 4 = b3) (h4 : (m.p == 0) = b4) : msgOk m = (b1 && b2 && ((k1 && b3) || (k2 && b4))) := by
  subst h1 h2 h3 h4 e1 e2; rfl
set_option maxHeartbeats 800000 in
theorem MsgOk_any (m : MV) (w : World) : Calls Tryz.prog 147 #[.agg #[.int .i64 m.k, .int .i64 m.e, .int .i64 m.i, .int .i64 m.p]] w fun e w' => e = .returned (.bool (msgOk m)) ∧ Below w.heap.size w w' := by
  have h1 := fun w => epochOk_any m.e w
  have h2 := fun w => instId_any m.i w
  have h3 := fun w => within_any m.p 0 4 w
  have HE := Lib.hid (msgOk_eq m)
  have HX : (m.k == 1) = true → (m.k == 2) = false := by simp; omega
  generalize msgOk m = ok at *
  generalize lWithin m.e 1 1000 = b1 at *
  generalize lWithin m.i 1 99 = b2 at *
  generalize lWithin m.p 0 4 = b3 at *
  generalize e4 : (m.p == 0) = b4 at *
  generalize e1 : (m.k == 1) = k1 at *
  generalize e2 : (m.k == 2) = k2 at *
  have HE' := Lib.hid (HE.out _ _ _ _ _ _ rfl rfl rfl rfl rfl rfl)
  have H1 := Lib.hid h1
  have H2 := Lib.hid h2
  have H3 := Lib.hid h3
  have HX := Lib.hid HX
  clear h1 h2 h3 HE
  go_enter Tryz.func147, Tryz.ntmps147
  go_wp2_with fail
  refine (H1.out _).mono ?_
  rintro e w1 ⟨rfl, rfl⟩
  cases b1
  · go_wp2_with fail
    go_ret
    exact ⟨by rw [HE'.out]; simp, (by repeat' (first | exact Below.refl _ _ | refine Below.alloc ?_ ?_ _ | refine Below.setCell ?_ ?_ _ | refine Below.drew ?_ | (apply below_step; assumption) | (simp; done) | (simp; omega) | omega))⟩
  go_wp2_with fail
  refine (H2.out _).mono ?_
  rintro e w1 ⟨rfl, rfl⟩
  cases b2
  · go_wp2_with fail
    go_ret
    exact ⟨by rw [HE'.out]; simp, (by repeat' (first | exact Below.refl _ _ | refine Below.alloc ?_ ?_ _ | refine Below.setCell ?_ ?_ _ | refine Below.drew ?_ | (apply below_step; assumption) | (simp; done) | (simp; omega) | omega))⟩
  cases k1
  · cases k2
    · go_wp2_with fail
      go_ret
      exact ⟨by rw [HE'.out]; simp, (by repeat' (first | exact Below.refl _ _ | refine Below.alloc ?_ ?_ _ | refine Below.setCell ?_ ?_ _ | refine Below.drew ?_ | (apply below_step; assumption) | (simp; done) | (simp; omega) | omega))⟩
    · go_wp2_with fail
      go_ret
      exact ⟨by rw [HE'.out]; simp, (by repeat' (first | exact Below.refl _ _ | refine Below.alloc ?_ ?_ _ | refine Below.setCell ?_ ?_ _ | refine Below.drew ?_ | (apply below_step; assumption) | (simp; done) | (simp; omega) | omega))⟩
  · obtain rfl : k2 = false := HX.out rfl
    go_wp2_with fail
    refine (H3.out _).mono ?_
    rintro e w1 ⟨rfl, rfl⟩
    go_wp2_with fail
    go_ret
    exact ⟨by rw [HE'.out]; simp, (by repeat' (first | exact Below.refl _ _ | refine Below.alloc ?_ ?_ _ | refine Below.setCell ?_ ?_ _ | refine Below.drew ?_ | (apply below_step; assumption) | (simp; done) | (simp; omega) | omega))⟩

end Go.Proofs.YtcegofdmdemcbaaGreatDoor
