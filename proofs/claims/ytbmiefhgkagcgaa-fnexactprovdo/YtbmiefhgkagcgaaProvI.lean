/- The contracts of instOk, ProvOk, MsgOk, seek, ProvState, ProvCount. -/
import Derived.Test.YtbmiefhgkagcgaaLeaseI
import Derived.Test.YtbmiefhgkagcgaaInstSl
import Derived.Test.YtbmiefhgkagcgaaProvP
import Derived.Test.YtbmiefhgkagcgaaMgMark
namespace Go.Proofs.Ytbmiefhgkagcgaa
open Go.RowKit

theorem instId_any (n : Int) (w : World) : Calls Try.prog 54 #[.int .i64 n] w fun e w' => e = .returned (.bool (lWithin n 1 99)) ∧ w = w' := by
  unfold lWithin
  generalize e1 : decide ((1 : Int) ≤ n) = b1
  cases b1
  all_goals
    go_enter Try.func54, Try.ntmps54
    go_wp2
    go_ret
    exact ⟨by simp, rfl⟩
theorem instIn_eq (r : RV) (b1 b2 b3 b4 : Bool) (h1 : lWithin r.c 1 99 = b1) (h2 : lWithin r.m 0 4 = b2) (h3 : (r.p == 1) = b3) (h4 : (r.p == 2) = b4) : instIn r = (b1 && b2 && (b3 || b4)) := by
  subst h1 h2 h3 h4; rfl
theorem instOk_any (r : RV) (w : World) : Calls Try.prog 50 #[.agg #[.int .i64 r.c, .int .i64 r.m, .int .i64 r.p]] w fun e w' => e = .returned (.bool (instIn r)) ∧ Below w.heap.size w w' := by
  have h1 := fun w => instId_any r.c w
  have h2 := fun w => within_any r.m 0 4 w
  have HE := Lib.hid (instIn_eq r)
  generalize instIn r = ok at *
  generalize lWithin r.c 1 99 = b1 at *
  generalize lWithin r.m 0 4 = b2 at *
  generalize e3 : (r.p == 1) = b3
  generalize e4 : (r.p == 2) = b4
  have HE' := Lib.hid (HE.out _ _ _ _ rfl rfl e3 e4)
  have H1 := Lib.hid h1
  have H2 := Lib.hid h2
  clear h1 h2 HE
  go_enter Try.func50, Try.ntmps50
  go_wp2_with fail
  refine (H1.out _).mono ?_
  rintro e w1 ⟨rfl, rfl⟩
  cases b1
  · go_wp2_with fail
    go_ret
    exact ⟨by rw [HE'.out]; simp, (by repeat' (first | exact Below.refl _ _ | refine Below.alloc ?_ ?_ _ | refine Below.setCell ?_ ?_ _ | refine Below.drew ?_ | (apply below_step; assumption) | (simp; done) | (simp; omega) | omega))⟩
  go_wp2_with fail
  refine (H2.out _).mono ?_
  rintro e w1 ⟨rfl, rfl⟩
  cases b2
  · go_wp2_with fail
    go_ret
    exact ⟨by rw [HE'.out]; simp, (by repeat' (first | exact Below.refl _ _ | refine Below.alloc ?_ ?_ _ | refine Below.setCell ?_ ?_ _ | refine Below.drew ?_ | (apply below_step; assumption) | (simp; done) | (simp; omega) | omega))⟩
  cases b3
  · go_wp2_with fail
    go_ret
    exact ⟨by rw [HE'.out]; simp, (by repeat' (first | exact Below.refl _ _ | refine Below.alloc ?_ ?_ _ | refine Below.setCell ?_ ?_ _ | refine Below.drew ?_ | (apply below_step; assumption) | (simp; done) | (simp; omega) | omega))⟩
  · go_wp2_with fail
    go_ret
    exact ⟨by rw [HE'.out]; simp, (by repeat' (first | exact Below.refl _ _ | refine Below.alloc ?_ ?_ _ | refine Below.setCell ?_ ?_ _ | refine Below.drew ?_ | (apply below_step; assumption) | (simp; done) | (simp; omega) | omega))⟩

theorem provFrom_step {last : Int} {l : List RV} {k : Nat} {r : RV} (hr : l[k]? = some r) : provFrom last (l.drop k) = (instIn r && decide (last < r.c) && provFrom r.c (l.drop (k + 1))) := by
  have hk : k < l.length := (List.getElem?_eq_some_iff.1 hr).1
  rw [List.drop_eq_getElem_cons hk, (List.getElem?_eq_some_iff.1 hr).2]
  rfl
theorem provOk_eq (ep : Int) (l : List RV) (b1 b2 b3 : Bool) (h1 : lWithin ep 0 1000 = b1) (h2 : decide (60 < (l.length : Int)) = b2) (h3 : provFrom 0 l = b3) : provOk ep l = (b1 && !b2 && b3) := by
  subst h1 h2 h3
  unfold provOk
  congr 2
  by_cases h : l.length ≤ 60
  · simp [h]; omega
  · simp [h]; omega
set_option maxHeartbeats 3200000 in
theorem ProvOk_any (ep : Int) (v : Value) (l : List RV) (w : World) (hv : InSl w v l) : Calls Try.prog 25 #[.agg #[.int .i64 ep, v]] w fun e w' => e = .returned (.bool (provOk ep l)) ∧ Below w.heap.size w w' := by
  obtain ⟨A, c, rfl, hA⟩ := hv.form
  have HA := Lib.hid hA
  clear hA hv
  have h1 := fun w => within_any ep 0 1000 w
  have HE := Lib.hid (provOk_eq ep l)
  generalize lWithin ep 0 1000 = b1 at *
  generalize e2 : decide (60 < (l.length : Int)) = b2 at *
  have H1 := Lib.hid h1
  clear h1
  go_enter Try.func25, Try.ntmps25
  go_wp2_with fail
  refine (H1.out _).mono ?_
  rintro e w1 ⟨rfl, rfl⟩
  cases b1
  · go_wp2_with fail
    go_ret
    exact ⟨by rw [HE.out _ _ _ rfl rfl rfl]; simp, (by repeat' (first | exact Below.refl _ _ | refine Below.alloc ?_ ?_ _ | refine Below.setCell ?_ ?_ _ | refine Below.drew ?_ | (apply below_step; assumption) | (simp; done) | (simp; omega) | omega))⟩
  cases b2
  rotate_left
  · go_wp2_with fail
    go_ret
    exact ⟨by rw [HE.out _ _ _ rfl rfl rfl]; simp, (by repeat' (first | exact Below.refl _ _ | refine Below.alloc ?_ ?_ _ | refine Below.setCell ?_ ?_ _ | refine Below.drew ?_ | (apply below_step; assumption) | (simp; done) | (simp; omega) | omega))⟩
  have hl60 : l.length ≤ 60 := by have := of_decide_eq_false e2; omega
  have HOK := Lib.hid (show provOk ep l = provFrom 0 l by rw [HE.out _ _ _ rfl rfl rfl]; simp)
  clear HE e2
  go_wp2_with fail
  go_loopw [19, 3] (fun s19 s3 wr => ∃ (k : Nat) (last : Int), k ≤ l.length ∧ s19 = .int .i64 k ∧ s3 = .int .i64 last ∧ provFrom 0 l = provFrom last (l.drop k) ∧ (0 ≤ last ∧ last ≤ 99) ∧ Below w.heap.size w wr) (fun s19 _ _ => (l.length - RowKit.intOf s19).toNat)
  case atStart => exact ⟨0, 0, by omega, rfl, rfl, by rw [List.drop_zero], by omega, (by repeat' (first | exact Below.refl _ _ | refine Below.alloc ?_ ?_ _ | refine Below.setCell ?_ ?_ _ | refine Below.drew ?_ | (apply below_step; assumption) | (simp; done) | (simp; omega) | omega))⟩
  case round =>
    obtain ⟨k, last, hk, rfl, rfl, hfrom, hlast, hB⟩ := hrel
    have hzr := hB.size
    by_cases hlt : k < l.length
    · obtain ⟨b, off, rfl, hbw, hat⟩ := HA.out (by omega)
      obtain ⟨r, hr⟩ : ∃ r, l[k]? = some r := ⟨_, List.getElem?_eq_getElem hlt⟩
      obtain ⟨q0, q1, q2⟩ := (hat.below hB hbw) k r hr
      have hlti : (k : Int) < (l.length : Int) := by omega
      have HST := Lib.hid (hfrom.trans (provFrom_step hr))
      have HR := Lib.hid hr
      have hio := fun w => instOk_any r w
      have HIN := Lib.hid (instIn_iff (r := r)).1
      generalize instIn r = bi at *
      generalize e4 : decide (r.c ≤ last) = bl
      have HIO := Lib.hid hio
      clear hat hr hfrom hio
      go_wp2_with fail
      refine (HIO.out _).mono ?_
      rintro e w3 ⟨rfl, hb3⟩
      have hz3 := hb3.size
      simp at hz3
      have hB3 : Below w.heap.size w w3 := (by repeat' (first | exact Below.refl _ _ | refine Below.alloc ?_ ?_ _ | refine Below.setCell ?_ ?_ _ | refine Below.drew ?_ | (apply below_step; assumption) | (simp; done) | (simp; omega) | omega))
      have HB3 := Lib.hid ((BlockIs.new wr 38 #[.int .i64 r.c, .int .i64 r.m, .int .i64 r.p]).below hb3 (by simp))
      have q3 := HB3.out.cell 0
      simp at q3
      cases bi
      · go_wp2_with fail
        go_ret
        refine ⟨?_, hB3⟩
        rw [HOK.out, HST.out]; rfl
      cases bl
      rotate_left
      · go_wp2_with fail
        go_ret
        refine ⟨?_, hB3⟩
        have := of_decide_eq_true e4
        rw [HOK.out, HST.out, show decide (last < r.c) = false by simp; omega]; simp
      obtain ⟨⟨i1, i2⟩, _⟩ := HIN.out (by simp)
      have hlr : last < r.c := by have := of_decide_eq_false e4; omega
      go_wp2_with fail
      go_roundw
      case rel =>
        refine ⟨k + 1, r.c, by omega, by go_num, rfl, ?_, by omega, hB3⟩
        rw [HST.out, show decide (last < r.c) = true by simp; omega]; rfl
      case measure => simp [RowKit.intOf]; omega
    · obtain rfl : k = l.length := by omega
      have HF := Lib.hid hfrom
      clear hfrom
      go_wp2_with fail
      go_ret
      refine ⟨?_, hB⟩
      rw [HOK.out, HF.out, List.drop_length]; rfl

theorem msgOk_eq (m : MV) (b1 b2 k1 k2 b3 b4 : Bool) (h1 : lWithin m.e 1 1000 = b1) (h2 : lWithin m.i 1 99 = b2) (e1 : (m.k == 1) = k1) (e2 : (m.k == 2) = k2) (h3 : lWithin m.p 0 4 = b3) (h4 : (m.p == 0) = b4) : msgOk m = (b1 && b2 && ((k1 && b3) || (k2 && b4))) := by
  subst h1 h2 h3 h4 e1 e2; rfl
set_option maxHeartbeats 800000 in
theorem MsgOk_any (m : MV) (w : World) : Calls Try.prog 29 #[.agg #[.int .i64 m.k, .int .i64 m.e, .int .i64 m.i, .int .i64 m.p]] w fun e w' => e = .returned (.bool (msgOk m)) ∧ Below w.heap.size w w' := by
  have h1 := fun w => epochOk_any m.e w
  have h2 := fun w => instId_any m.i w
  have h3 := fun w => within_any m.p 0 4 w
  have HE := Lib.hid (msgOk_eq m)
  have HX : (m.k == 1) = true → (m.k == 2) = false := by simp; omega
  generalize msgOk m = ok at *
  generalize lWithin m.e 1 1000 = b1 at *
  generalize lWithin m.i 1 99 = b2 at *
  generalize lWithin m.p 0 4 = b3 at *
  generalize e4 : (m.p == 0) = b4 at *
  generalize e1 : (m.k == 1) = k1 at *
  generalize e2 : (m.k == 2) = k2 at *
  have HE' := Lib.hid (HE.out _ _ _ _ _ _ rfl rfl rfl rfl rfl rfl)
  have H1 := Lib.hid h1
  have H2 := Lib.hid h2
  have H3 := Lib.hid h3
  have HX := Lib.hid HX
  clear h1 h2 h3 HE
  go_enter Try.func29, Try.ntmps29
  go_wp2_with fail
  refine (H1.out _).mono ?_
  rintro e w1 ⟨rfl, rfl⟩
  cases b1
  · go_wp2_with fail
    go_ret
    exact ⟨by rw [HE'.out]; simp, (by repeat' (first | exact Below.refl _ _ | refine Below.alloc ?_ ?_ _ | refine Below.setCell ?_ ?_ _ | refine Below.drew ?_ | (apply below_step; assumption) | (simp; done) | (simp; omega) | omega))⟩
  go_wp2_with fail
  refine (H2.out _).mono ?_
  rintro e w1 ⟨rfl, rfl⟩
  cases b2
  · go_wp2_with fail
    go_ret
    exact ⟨by rw [HE'.out]; simp, (by repeat' (first | exact Below.refl _ _ | refine Below.alloc ?_ ?_ _ | refine Below.setCell ?_ ?_ _ | refine Below.drew ?_ | (apply below_step; assumption) | (simp; done) | (simp; omega) | omega))⟩
  cases k1
  · cases k2
    · go_wp2_with fail
      go_ret
      exact ⟨by rw [HE'.out]; simp, (by repeat' (first | exact Below.refl _ _ | refine Below.alloc ?_ ?_ _ | refine Below.setCell ?_ ?_ _ | refine Below.drew ?_ | (apply below_step; assumption) | (simp; done) | (simp; omega) | omega))⟩
    · go_wp2_with fail
      go_ret
      exact ⟨by rw [HE'.out]; simp, (by repeat' (first | exact Below.refl _ _ | refine Below.alloc ?_ ?_ _ | refine Below.setCell ?_ ?_ _ | refine Below.drew ?_ | (apply below_step; assumption) | (simp; done) | (simp; omega) | omega))⟩
  · obtain rfl : k2 = false := HX.out rfl
    go_wp2_with fail
    refine (H3.out _).mono ?_
    rintro e w1 ⟨rfl, rfl⟩
    go_wp2_with fail
    go_ret
    exact ⟨by rw [HE'.out]; simp, (by repeat' (first | exact Below.refl _ _ | refine Below.alloc ?_ ?_ _ | refine Below.setCell ?_ ?_ _ | refine Below.drew ?_ | (apply below_step; assumption) | (simp; done) | (simp; omega) | omega))⟩

def cmpZ (x y : Int) : Int := if x < y then -1 else if y < x then 1 else 0
theorem isNaN_any (x : Int) (w : World) : Calls Try.prog 65 #[.int .i64 x] w fun e w' => e = .returned (.bool false) ∧ w = w' := by
  have h : (x != x) = false := by simp
  go_enter Try.func65, Try.ntmps65
  go_wp2
  go_ret
  exact ⟨rfl, rfl⟩
theorem compare_any (x y : Int) (w : World) : Calls Try.prog 60 #[.int .i64 x, .int .i64 y] w fun e w' => e = .returned (.int .i64 (cmpZ x y)) ∧ w = w' := by
  have HX := Lib.hid (fun w => isNaN_any x w)
  have HY := Lib.hid (fun w => isNaN_any y w)
  have HZ := Lib.hid (show cmpZ x y = if x < y then -1 else if y < x then 1 else 0 from rfl)
  go_enter Try.func60, Try.ntmps60
  go_wp2_with fail
  refine (HX.out _).mono ?_
  rintro e w1 ⟨rfl, rfl⟩
  go_wp2_with fail
  refine (HY.out _).mono ?_
  rintro e w1 ⟨rfl, rfl⟩
  by_cases h1 : x < y
  · have E := Lib.hid (show cmpZ x y = -1 by rw [HZ.out, if_pos h1])
    go_wp2_with fail
    go_ret
    exact ⟨by rw [E.out]; first | rfl | simp, rfl⟩
  · by_cases h2 : y < x
    · have E := Lib.hid (show cmpZ x y = 1 by rw [HZ.out, if_neg h1, if_pos h2])
      go_wp2_with fail
      go_ret
      exact ⟨by rw [E.out]; first | rfl | simp, rfl⟩
    · have E := Lib.hid (show cmpZ x y = 0 by rw [HZ.out, if_neg h1, if_neg h2])
      go_wp2_with fail
      go_ret
      exact ⟨by rw [E.out]; first | rfl | simp, rfl⟩
theorem cmpZ_neg {x y : Int} : cmpZ x y < 0 ↔ x < y := by unfold cmpZ; split <;> (try split) <;> omega
theorem cmpZ_zero {x y : Int} : cmpZ x y = 0 ↔ x = y := by unfold cmpZ; split <;> (try split) <;> omega
theorem cmpInst_any (r : RV) (z : Int) (w : World) : Calls Try.prog 59 #[.agg #[.int .i64 r.c, .int .i64 r.m, .int .i64 r.p], .int .i64 z] w fun e w' => e = .returned (.int .i64 (cmpZ r.c z)) ∧ Below w.heap.size w w' := by
  have HC := Lib.hid (fun w => compare_any r.c z w)
  go_enter Try.func59, Try.ntmps59
  go_wp2_with fail
  refine (HC.out _).mono ?_
  rintro e w1 ⟨rfl, rfl⟩
  go_wp2_with fail
  go_ret
  exact ⟨rfl, (by repeat' (first | exact Below.refl _ _ | refine Below.alloc ?_ ?_ _ | refine Below.setCell ?_ ?_ _ | refine Below.drew ?_ | (apply below_step; assumption) | (simp; done) | (simp; omega) | omega))⟩
/-- What a search answers: a place, and in a rising list the right one. -/
def Sought (l : List RV) (z : Int) (i : Nat) (b : Bool) : Prop := i ≤ l.length ∧ (Rise l → i = lowAt z l ∧ b = l.any (fun x => x.c == z))
theorem sought_of {l : List RV} {z : Int} {i : Nat} {b : Bool} (hi : i ≤ l.length) (h1 : Rise l → ∀ (k : Nat) (x : RV), k < i → l[k]? = some x → x.c < z) (h2 : Rise l → ∀ (k : Nat) (x : RV), i ≤ k → l[k]? = some x → z ≤ x.c)
    (hb : b = true ↔ ∃ x, l[i]? = some x ∧ x.c = z) : Sought l z i b := by
  refine ⟨hi, fun hr => ?_⟩
  have e := lowAt_of hi (h1 hr) (fun x hx => h2 hr i x (Nat.le_refl _) hx)
  refine ⟨e.symm, ?_⟩
  rw [Bool.eq_iff_iff, hb, lowAt_has hr, e]
/-- The ending of a search. -/
def RetSeek (l : List RV) (z : Int) (w : World) (e : Ending) (w' : World) : Prop := ∃ i b, e = .returned (.tuple #[.int .i64 (i : Nat), .bool b]) ∧ Sought l z i b ∧ Below w.heap.size w w'
set_option maxHeartbeats 3200000 in
theorem binInst_any (v : Value) (l : List RV) (z : Int) (w : World) (hv : InSl w v l) (hlen : l.length ≤ 1048576) :
    Calls Try.prog 58 #[v, .int .i64 z, .func (.func 59) #[] #[]] w (RetSeek l z w) := by
  obtain ⟨A, c, rfl, hA⟩ := hv.form
  have HA := Lib.hid hA
  clear hA hv
  go_enter Try.func58, Try.ntmps58
  go_wp2_with fail
  go_loopw [9, 10] (fun s9 s10 wr => ∃ lo hi : Nat, s9 = .int .i64 lo ∧ s10 = .int .i64 hi ∧ lo ≤ hi ∧ hi ≤ l.length ∧ (Rise l → ∀ (k : Nat) (x : RV), k < lo → l[k]? = some x → x.c < z) ∧ (Rise l → ∀ (k : Nat) (x : RV), hi ≤ k → l[k]? = some x → z ≤ x.c) ∧ Below w.heap.size w wr) (fun s9 s10 _ => (intOf s10 - intOf s9).toNat)
  case atStart => exact ⟨0, l.length, rfl, rfl, by omega, Nat.le_refl _, fun _ k x hk => absurd hk (by omega), fun _ k x hk hx => absurd (List.getElem?_eq_some_iff.1 hx).1 (by omega), Below.refl _ _⟩
  case round =>
    obtain ⟨lo, hi, rfl, rfl, hlh, hhl, h1, h2, hB⟩ := hrel
    have HI := Lib.hid (And.intro h1 h2)
    have hzr := hB.size
    clear h1 h2
    by_cases hlt : lo < hi
    · obtain ⟨m, hm⟩ : ∃ m, m = (lo + hi) / 2 := ⟨_, rfl⟩
      have hml : lo ≤ m := by omega
      have hmh : m < hi := by omega
      obtain ⟨b, off, rfl, hbw, hat⟩ := HA.out (by omega)
      obtain ⟨t, ht⟩ : ∃ t, l[m]? = some t := ⟨_, List.getElem?_eq_getElem (by omega)⟩
      obtain ⟨q0, q1, q2⟩ := (hat.below hB hbw) m t ht
      have HCM := Lib.hid (cmpInst_any t z wr)
      have HTM := Lib.hid ht
      have hmi : ((lo : Int) + (hi : Int)) / 2 = (m : Int) := by omega
      have hml' : (m : Int) < (l.length : Int) := by omega
      have hm0 : (0 : Int) ≤ (m : Int) := by omega
      have hlti : (lo : Int) < (hi : Int) := by omega
      clear hat ht hm
      by_cases hk : t.c < z
      · have hkn : decide (cmpZ t.c z < 0) = true := by simp [cmpZ_neg, hk]
        have HK := Lib.hid hk
        clear hk
        generalize cmpZ t.c z = q at hkn HCM
        go_wp2_with fail
        refine HCM.out.mono ?_
        rintro e w2 ⟨rfl, hb2⟩
        have hC2 := below_of hB hb2
        go_wp2_with fail
        go_roundw
        case rel =>
          refine ⟨m + 1, hi, by go_num, rfl, by omega, hhl, fun hr k x hkm hx => ?_, HI.out.2, hC2⟩
          rcases Nat.lt_or_ge k m with h | h
          · have := rise_at hr h hx HTM.out
            have := HK.out
            omega
          · obtain rfl : k = m := by omega
            obtain rfl := Option.some.inj (hx.symm.trans HTM.out)
            exact HK.out
        case measure => simp [intOf]; omega
      · have hkn : decide (cmpZ t.c z < 0) = false := by simp only [decide_eq_false_iff_not, cmpZ_neg]; exact hk
        have HK := Lib.hid (show z ≤ t.c by omega)
        clear hk
        generalize cmpZ t.c z = q at hkn HCM
        go_wp2_with fail
        refine HCM.out.mono ?_
        rintro e w2 ⟨rfl, hb2⟩
        have hC2 := below_of hB hb2
        go_wp2_with fail
        go_roundw
        case rel =>
          refine ⟨lo, m, rfl, by first | rfl | go_num, by omega, by omega, HI.out.1, fun hr k x hkm hx => ?_, hC2⟩
          rcases Nat.lt_or_ge m k with h | h
          · have := rise_at hr h HTM.out hx
            have := HK.out
            omega
          · obtain rfl : k = m := by omega
            obtain rfl := Option.some.inj (hx.symm.trans HTM.out)
            exact HK.out
        case measure => simp [intOf]; omega
    · obtain rfl : lo = hi := by omega
      by_cases hin : lo < l.length
      · obtain ⟨b, off, rfl, hbw, hat⟩ := HA.out (by omega)
        obtain ⟨t, ht⟩ : ∃ t, l[lo]? = some t := ⟨_, List.getElem?_eq_getElem (by omega)⟩
        obtain ⟨q0, q1, q2⟩ := (hat.below hB hbw) lo t ht
        have HCM := Lib.hid (cmpInst_any t z wr)
        have HZ := Lib.hid (cmpZ_zero (x := t.c) (y := z))
        have HTM := Lib.hid ht
        have hini : (lo : Int) < (l.length : Int) := by omega
        clear hat ht
        generalize cmpZ t.c z = q at HCM HZ
        go_wp2_with fail
        refine HCM.out.mono ?_
        rintro e w2 ⟨rfl, hb2⟩
        have hC2 := below_of hB hb2
        go_wp2_with fail
        go_ret2
        refine ⟨lo, q == 0, rfl, sought_of hhl HI.out.1 HI.out.2 ?_, hC2⟩
        rw [beq_iff_eq, HZ.out, HTM.out]
        simp
      · have hini : ¬ (lo : Int) < (l.length : Int) := by omega
        go_wp2_with fail
        go_ret2
        refine ⟨lo, false, rfl, sought_of hhl HI.out.1 HI.out.2 ?_, hB⟩
        rw [List.getElem?_eq_none (by omega)]
        simp
theorem seek_any (ep : Int) (v : Value) (l : List RV) (z : Int) (w : World) (hv : InSl w v l) (hlen : l.length ≤ 1048576) :
    Calls Try.prog 40 #[.agg #[.int .i64 ep, v], .int .i64 z] w (RetSeek l z w) := by
  have HV := Lib.hid hv
  clear hv
  go_enter Try.func40, Try.ntmps40
  go_wp2_with fail
  have hX : Below w.heap.size w (w.alloc (.cells #[.int .i64 ep, v] 26)) := (by repeat' (first | exact Below.refl _ _ | refine Below.alloc ?_ ?_ _ | refine Below.setCell ?_ ?_ _ | refine Below.drew ?_ | (apply below_step; assumption) | (simp; done) | (simp; omega) | omega))
  refine (binInst_any v l z _ (HV.out.below hX) hlen).mono ?_
  rintro e w1 ⟨i, b, rfl, hs, hb1⟩
  have HS := Lib.hid hs
  clear hs
  go_wp2_with fail
  go_ret2
  exact ⟨i, b, rfl, HS.out, below_of hX hb1⟩

theorem provState_yes {ep : Int} {l : List RV} {z : Int} (hok : provOk ep l = true) {x : RV} (hx : l[lowAt z l]? = some x) (hz : x.c = z) : provState ep l z = x.p := by
  unfold provState
  rw [hok, if_pos rfl, itemAt_low (provOk_all hok).2.2.2 hx hz]
theorem provState_none {ep : Int} {l : List RV} {z : Int} (ha : l.any (fun x => x.c == z) = false) : provState ep l z = 0 := by
  unfold provState
  rw [itemAt_no ha]
  split <;> rfl
set_option maxHeartbeats 1600000 in
theorem ProvState_any (ep : Int) (v : Value) (l : List RV) (z : Int) (w : World) (hv : InSl w v l) (hlen : l.length ≤ 1048576) : Calls Try.prog 16 #[.agg #[.int .i64 ep, v], .int .i64 z] w fun e w' => e = .returned (.int .i64 (provState ep l z)) ∧ Below w.heap.size w w' := by
  obtain ⟨A, c, rfl, hA⟩ := hv.form
  have HA := Lib.hid hA
  have HV := Lib.hid hv
  clear hA hv
  have HP := Lib.hid (fun w h => ProvOk_any ep (.slice A l.length c) l w h)
  have HE := Lib.hid (show provOk ep l = false → provState ep l z = 0 from fun h => by unfold provState; rw [h]; rfl)
  have HY := Lib.hid (@provState_yes ep l z)
  have HN := Lib.hid (@provState_none ep l z)
  have HOK := Lib.hid (@provOk_all ep l)
  generalize provState ep l z = ans at *
  generalize provOk ep l = ok at *
  go_enter Try.func16, Try.ntmps16
  go_wp2_with fail
  have hX : Below w.heap.size w (w.alloc (.cells #[.int .i64 ep, .slice A l.length c] 26)) := (by repeat' (first | exact Below.refl _ _ | refine Below.alloc ?_ ?_ _ | refine Below.setCell ?_ ?_ _ | refine Below.drew ?_ | (apply below_step; assumption) | (simp; done) | (simp; omega) | omega))
  refine (seek_any ep _ l z _ (HV.out.below hX) hlen).mono ?_
  rintro e w1 ⟨i, b, rfl, hs, hb1⟩
  have HS := Lib.hid hs
  have hC1 := below_of hX hb1
  have HB1 := Lib.hid ((BlockIs.new w 26 #[.int .i64 ep, .slice A l.length c]).below hb1 (by simp))
  have g1 := HB1.out.cell
  clear hs hb1
  go_wp2_with fail
  refine (HP.out _ (HV.out.below hC1)).mono ?_
  rintro e w2 ⟨rfl, hb2⟩
  have hC2 := below_of hC1 hb2
  have HB2 := Lib.hid (HB1.out.below hb2 HB1.out.lt)
  have g2 := HB2.out.cell
  clear g1 HB1 hb2
  cases ok
  · have HE' := Lib.hid (HE.out rfl)
    clear HE HY HN HOK
    go_wp2_with fail
    go_ret
    exact ⟨by rw [HE'.out]; rfl, hC2⟩
  obtain ⟨_, _, _, hrise⟩ := HOK.out rfl
  obtain ⟨rfl, hb⟩ := HS.out.2 hrise
  have HR := Lib.hid hrise
  have HBB := Lib.hid hb
  clear hrise hb HE
  cases b
  · have HE' := Lib.hid (HN.out HBB.out.symm)
    clear HY HN HS HBB
    go_wp2_with fail
    go_ret
    exact ⟨by rw [HE'.out]; rfl, hC2⟩
  obtain ⟨x, hx, hxz⟩ := (lowAt_has HR.out z).1 HBB.out.symm
  have hlt : lowAt z l < l.length := (List.getElem?_eq_some_iff.1 hx).1
  obtain ⟨b, off, rfl, hbw, hat⟩ := HA.out (by omega)
  obtain ⟨q0, q1, q2⟩ := (hat.below hC2 hbw) _ x hx
  have HE := Lib.hid (HY.out rfl hx hxz)
  have hlti : ((lowAt z l : Nat) : Int) < (l.length : Int) := by omega
  generalize lowAt z l = i at *
  clear hat hx hxz HY HN HS HBB
  go_wp2_with fail
  go_ret
  exact ⟨by rw [HE.out]; rfl, hC2⟩

theorem upIn_step {l : List RV} {k : Nat} {r : RV} (pool : Int) (hr : l[k]? = some r) : upIn pool (l.take (k + 1)) = upIn pool (l.take k) + (if (r.m == pool && r.p == 1) = true then 1 else 0) := by
  have : l.take (k + 1) = l.take k ++ [r] := by rw [List.take_add_one, hr]; rfl
  rw [this, upIn, List.countP_append]
  simp only [List.countP_cons, List.countP_nil, upIn]
  omega
theorem upIn_le (pool : Int) (l : List RV) : upIn pool l ≤ l.length := List.countP_le_length
set_option maxHeartbeats 1600000 in
theorem ProvCount_any (ep : Int) (v : Value) (l : List RV) (pool : Int) (w : World) (hv : InSl w v l) (hlen : l.length ≤ 1048576) : Calls Try.prog 21 #[.agg #[.int .i64 ep, v], .int .i64 pool] w fun e w' => e = .returned (.int .i64 (provCount ep l pool)) ∧ Below w.heap.size w w' := by
  obtain ⟨A, c, rfl, hA⟩ := hv.form
  have HA := Lib.hid hA
  have HV := Lib.hid hv
  clear hA hv
  have HP := Lib.hid (fun w h => ProvOk_any ep (.slice A l.length c) l w h)
  have HE := Lib.hid (show provCount ep l pool = if provOk ep l then (upIn pool l : Int) else -1 from rfl)
  generalize provCount ep l pool = ans at *
  generalize provOk ep l = ok at *
  go_enter Try.func21, Try.ntmps21
  go_wp2_with fail
  have hX : Below w.heap.size w (w.alloc (.cells #[.int .i64 ep, .slice A l.length c] 26)) := (by repeat' (first | exact Below.refl _ _ | refine Below.alloc ?_ ?_ _ | refine Below.setCell ?_ ?_ _ | refine Below.drew ?_ | (apply below_step; assumption) | (simp; done) | (simp; omega) | omega))
  refine (HP.out _ (HV.out.below hX)).mono ?_
  rintro e w1 ⟨rfl, hb1⟩
  have hC1 := below_of hX hb1
  have HB1 := Lib.hid ((BlockIs.new w 26 #[.int .i64 ep, .slice A l.length c]).below hb1 (by simp))
  have g1 := HB1.out.cell
  clear hb1
  cases ok
  · go_wp2_with fail
    go_ret
    exact ⟨by rw [HE.out]; rfl, hC1⟩
  have HE' := Lib.hid (show ans = (upIn pool l : Int) by rw [HE.out]; rfl)
  clear HE
  go_wp2_with fail
  go_loopw [14, 5] (fun s14 s5 wr => ∃ k : Nat, k ≤ l.length ∧ s14 = .int .i64 k ∧ s5 = .int .i64 (upIn pool (l.take k) : Nat) ∧ Below w.heap.size w wr) (fun s14 _ _ => (l.length - RowKit.intOf s14).toNat)
  case atStart => exact ⟨0, by omega, rfl, by simp [upIn], hC1⟩
  case round =>
    obtain ⟨k, hk, rfl, rfl, hB⟩ := hrel
    have hzr := hB.size
    by_cases hlt : k < l.length
    · obtain ⟨b, off, rfl, hbw, hat⟩ := HA.out (by omega)
      obtain ⟨r, hr⟩ : ∃ r, l[k]? = some r := ⟨_, List.getElem?_eq_getElem hlt⟩
      obtain ⟨q0, q1, q2⟩ := (hat.below hB hbw) k r hr
      have hlti : (k : Int) < (l.length : Int) := by omega
      have HST := Lib.hid (upIn_step pool hr)
      have hule := upIn_le pool (l.take k)
      have hul2 : upIn pool (l.take k) ≤ 1048576 := by rw [List.length_take] at hule; omega
      generalize upIn pool (l.take k) = u at *
      generalize e1 : (r.m == pool) = b1 at *
      generalize e2 : (r.p == 1) = b2 at *
      clear hat hr hule
      cases b1
      · go_wp2_with fail
        go_roundw
        case rel => exact ⟨k + 1, by omega, by go_num, by rw [HST.out]; rfl, (by repeat' (first | exact Below.refl _ _ | refine Below.alloc ?_ ?_ _ | refine Below.setCell ?_ ?_ _ | refine Below.drew ?_ | (apply below_step; assumption) | (simp; done) | (simp; omega) | omega))⟩
        case measure => simp [RowKit.intOf]; omega
      cases b2
      · go_wp2_with fail
        go_roundw
        case rel => exact ⟨k + 1, by omega, by go_num, by rw [HST.out]; rfl, (by repeat' (first | exact Below.refl _ _ | refine Below.alloc ?_ ?_ _ | refine Below.setCell ?_ ?_ _ | refine Below.drew ?_ | (apply below_step; assumption) | (simp; done) | (simp; omega) | omega))⟩
        case measure => simp [RowKit.intOf]; omega
      · go_wp2_with fail
        go_roundw
        case rel => exact ⟨k + 1, by omega, by go_num, by rw [HST.out]; go_num, (by repeat' (first | exact Below.refl _ _ | refine Below.alloc ?_ ?_ _ | refine Below.setCell ?_ ?_ _ | refine Below.drew ?_ | (apply below_step; assumption) | (simp; done) | (simp; omega) | omega))⟩
        case measure => simp [RowKit.intOf]; omega
    · obtain rfl : k = l.length := by omega
      have HT := Lib.hid (List.take_length (l := l))
      go_wp2_with fail
      go_ret
      refine ⟨?_, hB⟩
      rw [HE'.out, HT.out]; rfl
end Go.Proofs.Ytbmiefhgkagcgaa
