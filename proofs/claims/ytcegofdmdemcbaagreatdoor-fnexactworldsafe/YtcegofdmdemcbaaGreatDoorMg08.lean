/- The contracts of the model's MsgOk, l07At, l07State, ProvState, ProvCount. The contracts of the model's l08Has, l08Ids, l08WantIds. The contract of findPool. (mkwant.py) The contracts of chapter 8's WorldOk, of what it calls, of leads and Leader. (mkworldi.py) The contracts of chapter 8's idsGiven, WorldOk, leads, Leader. (mkworldi2.py) -/
import Derived.Test.YtcegofdmdemcbaaGreatDoorProvS
import Derived.Test.YtcegofdmdemcbaaGreatDoorMg05
import Derived.Test.YtcegofdmdemcbaaGreatDoorMg03
import Derived.Test.YtcegofdmdemcbaaGreatDoorMg00
import Derived.Test.YtcegofdmdemcbaaGreatDoorMg02
import Derived.Test.YtcegofdmdemcbaaGreatDoorProvI
import Derived.Test.YtcegofdmdemcbaaGreatDoorMg01
namespace Go.Proofs.YtcegofdmdemcbaaGreatDoor
open Go.RowKit

theorem msgOk_eq7 (m : MV) (b1 b2 k1 c1 c2 k2 b4 : Bool) (h1 : lWithin m.e 1 1000 = b1) (h2 : lWithin m.i 1 99 = b2) (e1 : (m.k == 1) = k1) (e2 : decide (0 ≤ m.p) = c1) (e3 : decide (m.p < 5) = c2) (e4 : (m.k == 2) = k2) (h4 : (m.p == 0) = b4) : msgOk m = (b1 && b2 && ((k1 && c1 && c2) || (k2 && b4))) := by
  subst h1 h2 h4 e1 e2 e3 e4
  rw [Bool.eq_iff_iff, msgOk_iff]
  simp only [Bool.and_eq_true, Bool.or_eq_true, lWithin_iff, decide_eq_true_eq, beq_iff_eq]
  omega
set_option maxHeartbeats 1600000 in
theorem sMsgOk_any (m : MV) (w : World) : Calls Tryz.prog 57 #[.agg #[.int .i64 m.k, .int .i64 m.e, .int .i64 m.i, .int .i64 m.p]] w fun e w' => e = .returned (.bool (msgOk m)) ∧ Below w.heap.size w w' := by
  have h1 := fun w => l06Epoch_any m.e w
  have h2 := fun w => l03IdP_any m.i w
  have HE := Lib.hid (msgOk_eq7 m)
  generalize msgOk m = ok at *
  generalize lWithin m.e 1 1000 = b1 at *
  generalize lWithin m.i 1 99 = b2 at *
  generalize e1 : (m.k == 1) = k1 at *
  generalize e2 : decide (0 ≤ m.p) = c1 at *
  generalize e3 : decide (m.p < 5) = c2 at *
  generalize e4 : (m.k == 2) = k2 at *
  generalize e5 : (m.p == 0) = b4 at *
  have HE' := Lib.hid (HE.out _ _ _ _ _ _ _ rfl rfl rfl rfl rfl rfl rfl)
  have H1 := Lib.hid h1
  have H2 := Lib.hid h2
  clear h1 h2 HE
  go_enter Tryz.func57, Tryz.ntmps57
  go_wp2_with fail
  refine (H1.out _).mono ?_
  rintro e w1 ⟨rfl, rfl⟩
  cases b1
  · go_wp2_with fail
    go_ret
    exact ⟨by rw [HE'.out]; simp, (by repeat' (first | exact Below.refl _ _ | refine Below.alloc ?_ ?_ _ | refine Below.setCell ?_ ?_ _ | refine Below.drew ?_ | (apply below_step; assumption) | (simp; done) | (simp; omega) | omega))⟩
  go_wp2_with fail
  refine (H2.out _).mono ?_
  rintro e w1 ⟨rfl, rfl⟩
  cases b2
  · go_wp2_with fail
    go_ret
    exact ⟨by rw [HE'.out]; simp, (by repeat' (first | exact Below.refl _ _ | refine Below.alloc ?_ ?_ _ | refine Below.setCell ?_ ?_ _ | refine Below.drew ?_ | (apply below_step; assumption) | (simp; done) | (simp; omega) | omega))⟩
  cases k1 <;> cases k2 <;> cases c1 <;> cases c2
  all_goals
    go_wp2_with fail
    go_ret
    exact ⟨by rw [HE'.out]; simp, (by repeat' (first | exact Below.refl _ _ | refine Below.alloc ?_ ?_ _ | refine Below.setCell ?_ ?_ _ | refine Below.drew ?_ | (apply below_step; assumption) | (simp; done) | (simp; omega) | omega))⟩

end Go.Proofs.YtcegofdmdemcbaaGreatDoor

namespace Go.Proofs.YtcegofdmdemcbaaGreatDoor
open Go.RowKit

theorem hasPool_hit {l : List PV} {k : Nat} {p : PV} {z : Int} (h : l[k]? = some p) (e : p.id = z) : hasPool (l.drop k) z = true := by
  have hk : k < l.length := (List.getElem?_eq_some_iff.1 h).1
  rw [List.drop_eq_getElem_cons hk, (List.getElem?_eq_some_iff.1 h).2, hasPool, fstBy_hit e]; rfl
theorem hasPool_miss {l : List PV} {k : Nat} {p : PV} {z : Int} (h : l[k]? = some p) (e : p.id ≠ z) : hasPool (l.drop k) z = hasPool (l.drop (k + 1)) z := by
  have hk : k < l.length := (List.getElem?_eq_some_iff.1 h).1
  rw [List.drop_eq_getElem_cons hk, (List.getElem?_eq_some_iff.1 h).2, hasPool, fstBy_miss e]; rfl
set_option maxHeartbeats 1600000 in
theorem l08Has_any (v : Value) (l : List PV) (z : Int) (w : World) (hv : PoolSl w v l) (hlen : l.length ≤ 1048576) :
    Calls Tryz.prog 60 #[v, .int .i64 z] w fun e w' => e = .returned (.bool (hasPool l z)) ∧ Below w.heap.size w w' := by
  obtain ⟨A, c, rfl, hA⟩ := hv.form
  have HA := Lib.hid hA
  clear hA hv
  go_enter Tryz.func60, Tryz.ntmps60
  go_wp2_with fail
  go_loopw [5] (fun s5 wr => ∃ k : Nat, k ≤ l.length ∧ s5 = .int .i64 k ∧ hasPool l z = hasPool (l.drop k) z ∧ Below w.heap.size w wr) (fun s5 _ => (l.length - intOf s5).toNat)
  case atStart => exact ⟨0, by omega, rfl, by rw [List.drop_zero], Below.refl _ _⟩
  case round =>
    obtain ⟨k, hk, rfl, hall, hB⟩ := hrel
    have hzr := hB.size
    by_cases hlt : k < l.length
    · obtain ⟨b, off, rfl, hbw, hat⟩ := HA.out (by omega)
      obtain ⟨t, ht⟩ : ∃ t, l[k]? = some t := ⟨_, List.getElem?_eq_getElem hlt⟩
      obtain ⟨cs, hR, hC⟩ := (hat.below PoolR.kept hB hbw) k t ht
      obtain ⟨v1, v2, rfl, sl, si, m1, m2⟩ := hR
      obtain ⟨A1, c1, rfl, _⟩ := sl.form
      obtain ⟨A2, c2, rfl, _⟩ := si.form
      obtain ⟨q0, q1, q2, q3, q4, q5, q6, q7, q8, q9, q10, q11⟩ := pool_cells hC
      have hki : (k : Int) < (l.length : Int) := by omega
      have hk0 : (0 : Int) ≤ (k : Int) := by omega
      by_cases e : t.id = z
      · have HF := Lib.hid (hall.trans (hasPool_hit ht e))
        have he' : (t.id == z) = true := by simpa using e
        clear hat hC ht sl si m1 m2 hall e
        go_wp2_with fail
        go_ret
        exact ⟨by rw [HF.out]; rfl, hB⟩
      · have HF := Lib.hid (hall.trans (hasPool_miss ht e))
        have he' : (t.id == z) = false := by simpa using e
        clear hat hC ht sl si m1 m2 hall e
        go_wp2_with fail
        go_roundw
        case rel => exact ⟨k + 1, by omega, by go_num, HF.out, hB⟩
        case measure => simp [intOf]; omega
    · obtain rfl : k = l.length := by omega
      have HF := Lib.hid (show hasPool l z = false by rw [hall, List.drop_length]; rfl)
      clear hall
      go_wp2_with fail
      go_ret
      exact ⟨by rw [HF.out]; rfl, hB⟩

def idsFrom (stop : Int) : Int → List Int → Bool
  | _, [] => true
  | last, z :: r => !decide (z < 1) && !decide (stop ≤ z) && !decide (z ≤ last) && idsFrom stop z r
theorem idsFrom_all {stop last : Int} {l : List Int} : idsFrom stop last l = true ↔ (∀ z ∈ l, 1 ≤ z ∧ z < stop ∧ last < z) ∧ l.Pairwise (fun a b => a < b) := by
  induction l generalizing last with
  | nil => simp [idsFrom]
  | cons z r ih =>
    simp only [idsFrom, Bool.and_eq_true, Bool.not_eq_true', decide_eq_false_iff_not, ih, List.mem_cons, forall_eq_or_imp, List.pairwise_cons]
    constructor
    · rintro ⟨⟨⟨h1, h2⟩, h3⟩, h4, h5⟩
      exact ⟨⟨⟨by omega, by omega, by omega⟩, fun x hx => ⟨(h4 x hx).1, (h4 x hx).2.1, by have := (h4 x hx).2.2; omega⟩⟩, fun x hx => (h4 x hx).2.2, h5⟩
    · rintro ⟨⟨⟨h1, h2, h3⟩, h4⟩, h5, h6⟩
      exact ⟨⟨⟨by omega, by omega⟩, by omega⟩, fun x hx => ⟨(h4 x hx).1, (h4 x hx).2.1, h5 x hx⟩, h6⟩
theorem idsIn_from (stop : Int) (l : List Int) : idsIn stop l = idsFrom stop 0 l := by
  rw [Bool.eq_iff_iff, idsIn_iff, idsFrom_all]
  constructor
  · rintro ⟨h, h2⟩; exact ⟨fun z hz => ⟨(h z hz).1, (h z hz).2, by have := (h z hz).1; omega⟩, h2⟩
  · rintro ⟨h, h2⟩; exact ⟨fun z hz => ⟨(h z hz).1, (h z hz).2.1⟩, h2⟩
theorem idsFrom_step {stop last : Int} {l : List Int} {k : Nat} {r : Int} (h : l[k]? = some r) (c1 c2 c3 : Bool) (h1 : decide (r < 1) = c1) (h2 : decide (stop ≤ r) = c2) (h3 : decide (r ≤ last) = c3) : idsFrom stop last (l.drop k) = (!c1 && !c2 && !c3 && idsFrom stop r (l.drop (k + 1))) := by
  have hk : k < l.length := (List.getElem?_eq_some_iff.1 h).1
  subst h1 h2 h3
  rw [List.drop_eq_getElem_cons hk, (List.getElem?_eq_some_iff.1 h).2]; rfl
set_option maxHeartbeats 3200000 in
theorem l08Ids_any (v : Value) (l : List Int) (stop : Int) (w : World) (hv : IntSl w v l) (hlen : l.length ≤ 1048576) :
    Calls Tryz.prog 58 #[v, .int .i64 stop] w fun e w' => e = .returned (.bool (idsIn stop l)) ∧ Below w.heap.size w w' := by
  obtain ⟨A, c, rfl, hA⟩ := hv.form
  have HA := Lib.hid hA
  have HO := Lib.hid (idsIn_from stop l)
  generalize idsIn stop l = ok at *
  clear hA hv
  go_enter Tryz.func58, Tryz.ntmps58
  go_wp2_with fail
  go_loopw [5] (fun s5 wr => ∃ (k : Nat) (last : Int), k ≤ l.length ∧ s5 = .int .i64 k ∧ idsFrom stop 0 l = idsFrom stop last (l.drop k) ∧ ((k = 0 ∧ last = 0) ∨ ∃ m, k = m + 1 ∧ l[m]? = some last) ∧ Below w.heap.size w wr) (fun s5 _ => (l.length - intOf s5).toNat)
  case atStart => exact ⟨0, 0, by omega, rfl, by rw [List.drop_zero], .inl ⟨rfl, rfl⟩, Below.refl _ _⟩
  case round =>
    obtain ⟨k, last, hk, rfl, hall, hlast, hB⟩ := hrel
    have hzr := hB.size
    by_cases hlt : k < l.length
    · obtain ⟨b, off, rfl, hbw, hat⟩ := HA.out (by omega)
      obtain ⟨r, hr⟩ : ∃ r, l[k]? = some r := ⟨_, List.getElem?_eq_getElem hlt⟩
      have q0 := (hat.below hB hbw) k r hr
      have hki : (k : Int) < (l.length : Int) := by omega
      have hk0 : (0 : Int) ≤ (k : Int) := by omega
      have hst := idsFrom_step (stop := stop) (last := last) hr
      have HRR := Lib.hid hr
      generalize e1 : decide (r < 1) = c1
      generalize e2 : decide (stop ≤ r) = c2
      generalize e3 : decide (r ≤ last) = c3
      have HST := Lib.hid (hall.trans (hst _ _ _ e1 e2 e3))
      clear hst hall hr
      cases c1
      rotate_left
      · clear hat hlast e3
        go_wp2_with fail
        go_quiet (fail)
        go_wp2_with fail
        go_ret
        exact ⟨by rw [HO.out, HST.out]; simp, (by repeat' (first | exact Below.refl _ _ | refine Below.alloc ?_ ?_ _ | refine Below.setCell ?_ ?_ _ | refine Below.drew ?_ | refine below_drewN ?_ _ | (apply below_step; assumption) | (simp; done) | (simp; omega) | omega))⟩
      cases c2
      rotate_left
      · clear hat hlast e3
        go_wp2_with fail
        go_quiet (fail)
        go_wp2_with fail
        go_ret
        exact ⟨by rw [HO.out, HST.out]; simp, (by repeat' (first | exact Below.refl _ _ | refine Below.alloc ?_ ?_ _ | refine Below.setCell ?_ ?_ _ | refine Below.drew ?_ | refine below_drewN ?_ _ | (apply below_step; assumption) | (simp; done) | (simp; omega) | omega))⟩
      rcases hlast with ⟨rfl, rfl⟩ | ⟨m, rfl, hm⟩
      · obtain rfl : c3 = false := by have := of_decide_eq_false e1; rw [← e3]; simp; omega
        clear hat e3
        simp only [Nat.add_zero] at q0
        have e4 : decide ((0 : Int) < ((0 : Nat) : Int)) = false := by simp
        go_wp2_with fail
        go_quiet (fail)
        go_wp2_with fail
        go_roundw
        case rel => exact ⟨1, r, by omega, by go_num, by rw [HST.out]; simp, .inr ⟨0, rfl, HRR.out⟩, (by repeat' (first | exact Below.refl _ _ | refine Below.alloc ?_ ?_ _ | refine Below.setCell ?_ ?_ _ | refine Below.drew ?_ | refine below_drewN ?_ _ | (apply below_step; assumption) | (simp; done) | (simp; omega) | omega))⟩
        case measure => simp [intOf]; omega
      · have q1 := (hat.below hB hbw) m last hm
        have e4 : decide ((0 : Int) < ((m + 1 : Nat) : Int)) = true := decide_eq_true (by omega)
        have hm0 : (0 : Int) ≤ (m : Int) := by omega
        have hm1 : (m : Int) < (l.length : Int) := by omega
        have hwr : IntKind.i64.wrap (((m + 1 : Nat) : Int) - 1) = (m : Int) := by rw [IntKind.wrap_i64]; omega
        clear hat hm
        cases c3
        rotate_left
        · go_wp2_with fail
          go_quiet (fail)
          go_wp2_with fail
          go_ret
          exact ⟨by rw [HO.out, HST.out]; simp, (by repeat' (first | exact Below.refl _ _ | refine Below.alloc ?_ ?_ _ | refine Below.setCell ?_ ?_ _ | refine Below.drew ?_ | refine below_drewN ?_ _ | (apply below_step; assumption) | (simp; done) | (simp; omega) | omega))⟩
        · go_wp2_with fail
          go_quiet (fail)
          go_wp2_with fail
          go_roundw
          case rel => exact ⟨m + 1 + 1, r, by omega, by go_num, by rw [HST.out]; simp, .inr ⟨m + 1, rfl, HRR.out⟩, (by repeat' (first | exact Below.refl _ _ | refine Below.alloc ?_ ?_ _ | refine Below.setCell ?_ ?_ _ | refine Below.drew ?_ | refine below_drewN ?_ _ | (apply below_step; assumption) | (simp; done) | (simp; omega) | omega))⟩
          case measure => simp [intOf]; omega
    · obtain rfl : k = l.length := by omega
      have HF := Lib.hid (show ok = true by rw [HO.out, hall, List.drop_length]; rfl)
      clear hall
      go_wp2_with fail
      go_ret
      exact ⟨by rw [HF.out]; rfl, hB⟩

set_option maxHeartbeats 1600000 in
theorem l08WantIds_any (v : Value) (l : List BV) (w : World) (hv : WantSl w v l) (hlen : l.length ≤ 1048576) :
    Calls Tryz.prog 59 #[v] w fun e w' => ∃ v', e = .returned v' ∧ OwnsJ w' w.heap.size v' (l.map BV.task) ∧ Below w.heap.size w w' := by
  obtain ⟨A, c, rfl, hA⟩ := hv.form
  have HA := Lib.hid hA
  clear hA hv
  go_enter Tryz.func59, Tryz.ntmps59
  go_wp2_with fail
  have HO : Hid (OwnsJ (w.alloc (.cells #[] 3)) w.heap.size (.slice (some ⟨w.heap.size, 0, none⟩) 0 0) []) := World.ownsRow_made w #[] 0 (Nat.le_refl _) (by unfold maxLen; omega) rfl
  go_loopw [3, 4] (fun s3 s4 wr => ∃ (k : Nat) (vl : Value), k ≤ l.length ∧ s4 = .int .i64 k ∧ vl = s3 ∧ OwnsJ wr w.heap.size vl ((l.take k).map BV.task) ∧ Below w.heap.size w wr) (fun _ s4 _ => (l.length - intOf s4).toNat)
  case atStart => exact ⟨0, _, by omega, rfl, rfl, by simpa using HO.out, (by repeat' (first | exact Below.refl _ _ | refine Below.alloc ?_ ?_ _ | refine Below.setCell ?_ ?_ _ | refine Below.drew ?_ | (apply below_step; assumption) | (simp; done) | (simp; omega) | omega))⟩
  case round =>
    obtain ⟨k, vl, hk, rfl, rfl, hown, hB⟩ := hrel
    have HOW := Lib.hid hown
    have hzr := hB.size
    clear hown HO
    by_cases hlt : k < l.length
    · obtain ⟨b, off, rfl, hbw, hat⟩ := HA.out (by omega)
      obtain ⟨r, hr⟩ : ∃ r, l[k]? = some r := ⟨_, List.getElem?_eq_getElem hlt⟩
      obtain ⟨cs, hR, hC⟩ := (hat.below WantR.kept hB hbw) k r hr
      obtain rfl := hR
      obtain ⟨q0, q1⟩ := want_cells hC
      have hki : (k : Int) < (l.length : Int) := by omega
      have hk0 : (0 : Int) ≤ (k : Int) := by omega
      have HNT := Lib.hid (show (l.take (k + 1)).map BV.task = (l.take k).map BV.task ++ [r.task] by rw [List.take_add_one, hr]; simp)
      have HLN := Lib.hid (show ((l.take k).map BV.task).length ≤ 2000000 by rw [List.length_map, List.length_take]; omega)
      clear hat hC hr
      go_wp2_with (at_builtin; refine wpList_append_i _ rfl (.tmp 12) (.tmp 18) rfl w.heap.size vl _ r.task wr.heap.size rfl (HOW.out.alloc _) rfl (by simp) HLN.out (by simp; omega) ?_; intro v' w' hown' hb')
      have hz' := hb'.size
      go_roundw
      case rel => exact ⟨k + 1, v', by omega, by go_num, rfl, by rw [HNT.out]; exact hown', hB.trans ((Below.alloc (Below.refl _ _) hzr _).trans hb')⟩
      case measure => simp [intOf]; omega
    · obtain rfl : k = l.length := by omega
      rw [List.take_length] at HOW
      go_wp2_with fail
      go_ret
      exact ⟨vl, rfl, HOW.out, hB⟩
end Go.Proofs.YtcegofdmdemcbaaGreatDoor

namespace Go.Proofs.YtcegofdmdemcbaaGreatDoor
open Go.RowKit

theorem put12 {w : World} {g : Nat} {t : TypeId} {cs : Array Value} (a0 a1 a2 a3 a4 a5 a6 a7 a8 a9 aa ab : Value) (h : BlockIs w g t cs) (hs : cs.size = 12) : BlockIs ((((((((((((w.setCell ⟨g, 0, none⟩ (a0)).setCell ⟨g, 1, none⟩ (a1)).setCell ⟨g, 2, none⟩ (a2)).setCell ⟨g, 3, none⟩ (a3)).setCell ⟨g, 4, none⟩ (a4)).setCell ⟨g, 5, none⟩ (a5)).setCell ⟨g, 6, none⟩ (a6)).setCell ⟨g, 7, none⟩ (a7)).setCell ⟨g, 8, none⟩ (a8)).setCell ⟨g, 9, none⟩ (a9)).setCell ⟨g, 10, none⟩ (aa)).setCell ⟨g, 11, none⟩ (ab)) g t #[a0, a1, a2, a3, a4, a5, a6, a7, a8, a9, aa, ab] := by
  obtain ⟨l⟩ := cs
  match l, hs with
  | [b0, b1, b2, b3, b4, b5, b6, b7, b8, b9, ba, bb], _ => simpa using (((((((((((h.put 0 a0).put 1 a1).put 2 a2).put 3 a3).put 4 a4).put 5 a5).put 6 a6).put 7 a7).put 8 a8).put 9 a9).put 10 aa).put 11 ab
theorem below12 {B : Nat} {a w : World} {g : Nat} {a0 a1 a2 a3 a4 a5 a6 a7 a8 a9 aa ab : Value} (h : Below B a w) (hg : B ≤ g) : Below B a ((((((((((((w.setCell ⟨g, 0, none⟩ (a0)).setCell ⟨g, 1, none⟩ (a1)).setCell ⟨g, 2, none⟩ (a2)).setCell ⟨g, 3, none⟩ (a3)).setCell ⟨g, 4, none⟩ (a4)).setCell ⟨g, 5, none⟩ (a5)).setCell ⟨g, 6, none⟩ (a6)).setCell ⟨g, 7, none⟩ (a7)).setCell ⟨g, 8, none⟩ (a8)).setCell ⟨g, 9, none⟩ (a9)).setCell ⟨g, 10, none⟩ (aa)).setCell ⟨g, 11, none⟩ (ab)) := (((((((((((h.setCell hg _).setCell hg _).setCell hg _).setCell hg _).setCell hg _).setCell hg _).setCell hg _).setCell hg _).setCell hg _).setCell hg _).setCell hg _).setCell hg _
theorem PoolR.zero (w : World) : PoolR w PV.zero [.int .i64 0, .int .i64 0, .int .i64 0, .int .i64 0, .int .i64 0, .int .i64 0, .int .i64 0, .int .i64 0, .int .i64 0, .slice none 0 0, .slice none 0 0, .bool false] := ⟨_, _, rfl, .inl ⟨rfl, _, _, rfl⟩, .inl ⟨rfl, _, _, rfl⟩, by simp [PV.zero, NV.zero], by simp [PV.zero, NV.zero]⟩
def RetFPool (w0 w : World) (o : Option PV) (e : Ending) (w' : World) : Prop := ∃ cs : List Value, e = .returned (.tuple #[.agg cs.toArray, .bool o.isSome]) ∧ PoolR w0 (o.getD PV.zero) cs ∧ Below w.heap.size w w'
set_option maxHeartbeats 800000 in
theorem isPool_any (t : PV) (cs : List Value) (B : Nat) (z : Int) (w : World) (ok : Bool) (hR : PoolR w t cs) (hz : w.cell? ⟨B, 0, none⟩ = some (.int .i64 z)) (hok : decide (t.id = z) = ok) :
    Calls Tryz.prog 184 #[.agg cs.toArray, .pointer (some ⟨B, 0, none⟩)] w fun e w' => e = .returned (.bool ok) ∧ Below w.heap.size w w' := by
  obtain ⟨v1, v2, rfl, sl, si, m1, m2⟩ := hR; obtain ⟨A1, c1, rfl, _⟩ := sl.form; obtain ⟨A2, c2, rfl, _⟩ := si.form
  clear sl si m1 m2
  have hB := World.block_lt_of_cell? _ _ hz
  simp only at hB
  have HE := Lib.hid (show (t.id == z) = ok by rw [← hok]; rfl)
  clear hok
  go_enter Tryz.func184, Tryz.ntmps184
  go_wp2_with fail
  go_ret
  exact ⟨by rw [HE.out]; simp, (by repeat' (first | exact Below.refl _ _ | refine Below.alloc ?_ ?_ _ | refine Below.setCell ?_ ?_ _ | refine Below.drew ?_ | (apply below_step; assumption) | (simp; done) | (simp; omega) | omega))⟩

set_option maxHeartbeats 1600000 in
theorem indexPool_any (B : Nat) (z : Int) (v : Value) (l : List PV) (w : World) (hv : PoolSl w v l) (hlen : l.length ≤ 1048576) (hz : w.cell? ⟨B, 0, none⟩ = some (.int .i64 z)) :
    Calls Tryz.prog 150 #[v, .func (.func 184) #[] #[.pointer (some ⟨B, 0, none⟩)]] w fun e w' => e = .returned (.int .i64 (idxBy PV.id l z)) ∧ Below w.heap.size w w' := by
  obtain ⟨A, c, rfl, hA⟩ := hv.form
  have HA := Lib.hid hA
  have hB := World.block_lt_of_cell? _ _ hz
  simp only at hB
  have HZ := Lib.hid hz
  clear hA hv hz
  go_enter Tryz.func150, Tryz.ntmps150
  go_wp2_with fail
  go_loopw [8] (fun s8 wr => ∃ k : Nat, k ≤ l.length ∧ s8 = .int .i64 k ∧ idxBy PV.id l z = idxGo PV.id k (l.drop k) z ∧ Below w.heap.size w wr) (fun s8 _ => (l.length - intOf s8).toNat)
  case atStart => exact ⟨0, by omega, rfl, by simp [idxBy], Below.refl _ _⟩
  case round =>
    obtain ⟨k, hk, rfl, hidx, hBr⟩ := hrel
    have HI := Lib.hid hidx
    have hzr := hBr.size
    have HZR := Lib.hid ((hBr.cell (p := ⟨B, 0, none⟩) hB).trans HZ.out)
    clear hidx
    by_cases hlt : k < l.length
    · obtain ⟨b, off, rfl, hbw, hat⟩ := HA.out (by omega)
      obtain ⟨t, ht⟩ : ∃ t, l[k]? = some t := ⟨_, List.getElem?_eq_getElem hlt⟩
      obtain ⟨cs, hR, hC⟩ := (hat.below PoolR.kept hBr hbw) k t ht
      have HR := Lib.hid hR
      have HD := Lib.hid (drop_at ht)
      obtain ⟨v1, v2, rfl, sl, si, m1, m2⟩ := hR; obtain ⟨A1, c1, rfl, _⟩ := sl.form; obtain ⟨A2, c2, rfl, _⟩ := si.form
      clear sl si m1 m2
      obtain ⟨q0, q1, q2, q3, q4, q5, q6, q7, q8, q9, q10, q11⟩ := pool_cells hC
      clear hat hC ht
      by_cases e : t.id = z
      · have HE := Lib.hid e
        clear e
        go_wp2_with fail
        refine (isPool_any t _ B z _ true HR.out HZR.out (by simpa using HE.out)).mono ?_
        rintro e w2 ⟨rfl, hb2⟩
        go_wp2_with fail
        go_ret
        refine ⟨?_, (by repeat' (first | exact Below.refl _ _ | refine Below.alloc ?_ ?_ _ | refine Below.setCell ?_ ?_ _ | refine Below.drew ?_ | (apply below_step; assumption) | (simp; done) | (simp; omega) | omega))⟩
        rw [HI.out, HD.out, idxGo_hit HE.out]; rfl
      · have HE := Lib.hid e
        clear e
        go_wp2_with fail
        refine (isPool_any t _ B z _ false HR.out HZR.out (by simpa using HE.out)).mono ?_
        rintro e w2 ⟨rfl, hb2⟩
        go_wp2_with fail
        go_roundw
        case rel => exact ⟨k + 1, by omega, by go_num, by rw [HI.out, HD.out, idxGo_miss HE.out]; simp, (by repeat' (first | exact Below.refl _ _ | refine Below.alloc ?_ ?_ _ | refine Below.setCell ?_ ?_ _ | refine Below.drew ?_ | (apply below_step; assumption) | (simp; done) | (simp; omega) | omega))⟩
        case measure => simp [intOf]; omega
    · have hkl : k = l.length := by omega
      have HF := Lib.hid (show idxBy PV.id l z = -1 by rw [HI.out, hkl, List.drop_length]; rfl)
      clear hkl
      go_wp2_with fail
      go_ret
      exact ⟨by rw [HF.out]; rfl, hBr⟩

set_option maxHeartbeats 1600000 in
theorem findGPool_any (B : Nat) (z : Int) (v : Value) (l : List PV) (w0 w : World) (hw : Below w0.heap.size w0 w) (hv : PoolSl w0 v l) (hlen : l.length ≤ 1048576) (hz : w.cell? ⟨B, 0, none⟩ = some (.int .i64 z)) :
    Calls Tryz.prog 183 #[v, .func (.func 184) #[] #[.pointer (some ⟨B, 0, none⟩)]] w (RetFPool w0 w (fstBy PV.id l z)) := by
  have hv' := hv.below hw
  obtain ⟨A, c, rfl, hA⟩ := hv.form
  have hB := World.block_lt_of_cell? _ _ hz
  simp only at hB
  have HV := Lib.hid hv'
  have HZ := Lib.hid hz
  have HW := Lib.hid hw
  have hi := fun w hv hz => indexPool_any B z (.slice A l.length c) l w hv hlen hz
  cases hf : fstBy PV.id l z with
  | none =>
    rw [idxBy_none hf] at hi
    have HI := Lib.hid hi
    clear hi hf hv hv' hw hz hA
    go_enter Tryz.func183, Tryz.ntmps183
    go_wp2_with fail
    refine (HI.out _ (HV.out.below (by repeat' (first | exact Below.refl _ _ | refine Below.alloc ?_ ?_ _ | refine Below.setCell ?_ ?_ _ | refine Below.drew ?_ | (apply below_step; assumption) | (simp; done) | (simp; omega) | omega))) ((World.cell?_alloc_lt _ _ _ hB).trans HZ.out)).mono ?_
    rintro e w2 ⟨rfl, hb2⟩
    have hz2 := hb2.size
    simp at hz2
    have B1 : BlockIs w2 w.heap.size 80 #[.int .i64 0, .int .i64 0, .int .i64 0, .int .i64 0, .int .i64 0, .int .i64 0, .int .i64 0, .int .i64 0, .int .i64 0, .slice none 0 0, .slice none 0 0, .bool false] := (BlockIs.new w _ _).below hb2 (by simp)
    have hC2 : Below w.heap.size w w2 := (by repeat' (first | exact Below.refl _ _ | refine Below.alloc ?_ ?_ _ | refine Below.setCell ?_ ?_ _ | refine Below.drew ?_ | (apply below_step; assumption) | (simp; done) | (simp; omega) | omega))
    have d0 := B1.cell 0; have d1 := B1.cell 1; have d2 := B1.cell 2; have d3 := B1.cell 3; have d4 := B1.cell 4; have d5 := B1.cell 5; have d6 := B1.cell 6; have d7 := B1.cell 7; have d8 := B1.cell 8; have d9 := B1.cell 9; have d10 := B1.cell 10; have d11 := B1.cell 11
    have f1 := B1.frozen
    simp at d0 d1 d2 d3 d4 d5 d6 d7 d8 d9 d10 d11
    have HB1 := Lib.hid B1
    have hl2 : w.heap.size < w2.heap.size := by omega
    clear B1
    go_wp2_with fail
    have hZ : BlockIs (World.alloc ((((((((((((w2.setCell ⟨w.heap.size, 0, none⟩ (.int .i64 0)).setCell ⟨w.heap.size, 1, none⟩ (.int .i64 0)).setCell ⟨w.heap.size, 2, none⟩ (.int .i64 0)).setCell ⟨w.heap.size, 3, none⟩ (.int .i64 0)).setCell ⟨w.heap.size, 4, none⟩ (.int .i64 0)).setCell ⟨w.heap.size, 5, none⟩ (.int .i64 0)).setCell ⟨w.heap.size, 6, none⟩ (.int .i64 0)).setCell ⟨w.heap.size, 7, none⟩ (.int .i64 0)).setCell ⟨w.heap.size, 8, none⟩ (.int .i64 0)).setCell ⟨w.heap.size, 9, none⟩ (.slice none 0 0)).setCell ⟨w.heap.size, 10, none⟩ (.slice none 0 0)).setCell ⟨w.heap.size, 11, none⟩ (.bool false)) (.cells #[.int .i64 0, .int .i64 0, .int .i64 0, .int .i64 0, .int .i64 0, .int .i64 0, .int .i64 0, .int .i64 0, .int .i64 0, .slice none 0 0, .slice none 0 0, .bool false] 80)) w.heap.size 80 #[.int .i64 0, .int .i64 0, .int .i64 0, .int .i64 0, .int .i64 0, .int .i64 0, .int .i64 0, .int .i64 0, .int .i64 0, .slice none 0 0, .slice none 0 0, .bool false] := (put12 _ _ _ _ _ _ _ _ _ _ _ _ HB1.out rfl).alloc _
    have hX : Below w.heap.size w (World.alloc ((((((((((((w2.setCell ⟨w.heap.size, 0, none⟩ (.int .i64 0)).setCell ⟨w.heap.size, 1, none⟩ (.int .i64 0)).setCell ⟨w.heap.size, 2, none⟩ (.int .i64 0)).setCell ⟨w.heap.size, 3, none⟩ (.int .i64 0)).setCell ⟨w.heap.size, 4, none⟩ (.int .i64 0)).setCell ⟨w.heap.size, 5, none⟩ (.int .i64 0)).setCell ⟨w.heap.size, 6, none⟩ (.int .i64 0)).setCell ⟨w.heap.size, 7, none⟩ (.int .i64 0)).setCell ⟨w.heap.size, 8, none⟩ (.int .i64 0)).setCell ⟨w.heap.size, 9, none⟩ (.slice none 0 0)).setCell ⟨w.heap.size, 10, none⟩ (.slice none 0 0)).setCell ⟨w.heap.size, 11, none⟩ (.bool false)) (.cells #[.int .i64 0, .int .i64 0, .int .i64 0, .int .i64 0, .int .i64 0, .int .i64 0, .int .i64 0, .int .i64 0, .int .i64 0, .slice none 0 0, .slice none 0 0, .bool false] 80)) := (below12 hC2 (Nat.le_refl _)).alloc (by simp [World.setCell]; omega) _
    generalize (World.alloc ((((((((((((w2.setCell ⟨w.heap.size, 0, none⟩ (.int .i64 0)).setCell ⟨w.heap.size, 1, none⟩ (.int .i64 0)).setCell ⟨w.heap.size, 2, none⟩ (.int .i64 0)).setCell ⟨w.heap.size, 3, none⟩ (.int .i64 0)).setCell ⟨w.heap.size, 4, none⟩ (.int .i64 0)).setCell ⟨w.heap.size, 5, none⟩ (.int .i64 0)).setCell ⟨w.heap.size, 6, none⟩ (.int .i64 0)).setCell ⟨w.heap.size, 7, none⟩ (.int .i64 0)).setCell ⟨w.heap.size, 8, none⟩ (.int .i64 0)).setCell ⟨w.heap.size, 9, none⟩ (.slice none 0 0)).setCell ⟨w.heap.size, 10, none⟩ (.slice none 0 0)).setCell ⟨w.heap.size, 11, none⟩ (.bool false)) (.cells #[.int .i64 0, .int .i64 0, .int .i64 0, .int .i64 0, .int .i64 0, .int .i64 0, .int .i64 0, .int .i64 0, .int .i64 0, .slice none 0 0, .slice none 0 0, .bool false] 80)) = X at hZ hX ⊢
    have z0 := hZ.cell 0; have z1 := hZ.cell 1; have z2 := hZ.cell 2; have z3 := hZ.cell 3; have z4 := hZ.cell 4; have z5 := hZ.cell 5; have z6 := hZ.cell 6; have z7 := hZ.cell 7; have z8 := hZ.cell 8; have z9 := hZ.cell 9; have z10 := hZ.cell 10; have z11 := hZ.cell 11
    simp at z0 z1 z2 z3 z4 z5 z6 z7 z8 z9 z10 z11
    exact bodyPost_ret (v := .tuple #[.agg #[.int .i64 0, .int .i64 0, .int .i64 0, .int .i64 0, .int .i64 0, .int .i64 0, .int .i64 0, .int .i64 0, .int .i64 0, .slice none 0 0, .slice none 0 0, .bool false], .bool false]) (by simp [results, Tryz.results183, go_sem, z0, z1, z2, z3, z4, z5, z6, z7, z8, z9, z10, z11]) rfl ⟨_, rfl, PoolR.zero _, hX⟩
  | some t =>
    obtain ⟨j, hj, hjt, hkz, hmn⟩ := idxBy_some hf
    clear hkz hmn
    rw [hj] at hi
    have HI := Lib.hid hi
    have hjl : j < l.length := (List.getElem?_eq_some_iff.1 hjt).1
    obtain ⟨b, off, rfl, hbw, hat⟩ := hA (by omega)
    obtain ⟨cs, hR, hC⟩ := hat j t hjt
    have HR := Lib.hid hR
    have HC := Lib.hid hC
    have hbw' : b < w.heap.size := Nat.lt_of_lt_of_le hbw hw.size
    have HC' := Lib.hid (hC.below hw hbw)
    clear hi hf hv hv' hw hz hj hjt hat hC hA
    obtain ⟨v1, v2, rfl, sl, si, m1, m2⟩ := hR; obtain ⟨A1, c1, rfl, _⟩ := sl.form; obtain ⟨A2, c2, rfl, _⟩ := si.form
    clear sl si m1 m2
    go_enter Tryz.func183, Tryz.ntmps183
    go_wp2_with fail
    refine (HI.out _ (HV.out.below (by repeat' (first | exact Below.refl _ _ | refine Below.alloc ?_ ?_ _ | refine Below.setCell ?_ ?_ _ | refine Below.drew ?_ | (apply below_step; assumption) | (simp; done) | (simp; omega) | omega))) ((World.cell?_alloc_lt _ _ _ hB).trans HZ.out)).mono ?_
    rintro e w2 ⟨rfl, hb2⟩
    have hz2 := hb2.size
    simp at hz2
    have B1 : BlockIs w2 w.heap.size 80 #[.int .i64 0, .int .i64 0, .int .i64 0, .int .i64 0, .int .i64 0, .int .i64 0, .int .i64 0, .int .i64 0, .int .i64 0, .slice none 0 0, .slice none 0 0, .bool false] := (BlockIs.new w _ _).below hb2 (by simp)
    have hC2 : Below w.heap.size w w2 := (by repeat' (first | exact Below.refl _ _ | refine Below.alloc ?_ ?_ _ | refine Below.setCell ?_ ?_ _ | refine Below.drew ?_ | (apply below_step; assumption) | (simp; done) | (simp; omega) | omega))
    obtain ⟨q0, q1, q2, q3, q4, q5, q6, q7, q8, q9, q10, q11⟩ := pool_cells (HC'.out.below hC2 hbw')
    have d0 := B1.cell 0; have d1 := B1.cell 1; have d2 := B1.cell 2; have d3 := B1.cell 3; have d4 := B1.cell 4; have d5 := B1.cell 5; have d6 := B1.cell 6; have d7 := B1.cell 7; have d8 := B1.cell 8; have d9 := B1.cell 9; have d10 := B1.cell 10; have d11 := B1.cell 11
    have f1 := B1.frozen
    simp at d0 d1 d2 d3 d4 d5 d6 d7 d8 d9 d10 d11
    have HB1 := Lib.hid B1
    have hji : (j : Int) < (l.length : Int) := by omega
    have hj0 : (0 : Int) ≤ (j : Int) := by omega
    clear B1
    go_wp2_with fail
    have hZ : BlockIs ((((((((((((w2.setCell ⟨w.heap.size, 0, none⟩ (.int .i64 t.id)).setCell ⟨w.heap.size, 1, none⟩ (.int .i64 t.min)).setCell ⟨w.heap.size, 2, none⟩ (.int .i64 t.max)).setCell ⟨w.heap.size, 3, none⟩ (.int .i64 t.prio)).setCell ⟨w.heap.size, 4, none⟩ (.int .i64 t.shape.id)).setCell ⟨w.heap.size, 5, none⟩ (.int .i64 t.shape.pool)).setCell ⟨w.heap.size, 6, none⟩ (.int .i64 t.shape.cap.c)).setCell ⟨w.heap.size, 7, none⟩ (.int .i64 t.shape.cap.m)).setCell ⟨w.heap.size, 8, none⟩ (.int .i64 t.shape.cap.p)).setCell ⟨w.heap.size, 9, none⟩ (.slice A1 t.shape.labs.length c1)).setCell ⟨w.heap.size, 10, none⟩ (.slice A2 t.shape.taints.length c2)).setCell ⟨w.heap.size, 11, none⟩ (.bool t.shape.cordon)) w.heap.size 80 #[.int .i64 t.id, .int .i64 t.min, .int .i64 t.max, .int .i64 t.prio, .int .i64 t.shape.id, .int .i64 t.shape.pool, .int .i64 t.shape.cap.c, .int .i64 t.shape.cap.m, .int .i64 t.shape.cap.p, .slice A1 t.shape.labs.length c1, .slice A2 t.shape.taints.length c2, .bool t.shape.cordon] := put12 _ _ _ _ _ _ _ _ _ _ _ _ HB1.out rfl
    have hX : Below w.heap.size w ((((((((((((w2.setCell ⟨w.heap.size, 0, none⟩ (.int .i64 t.id)).setCell ⟨w.heap.size, 1, none⟩ (.int .i64 t.min)).setCell ⟨w.heap.size, 2, none⟩ (.int .i64 t.max)).setCell ⟨w.heap.size, 3, none⟩ (.int .i64 t.prio)).setCell ⟨w.heap.size, 4, none⟩ (.int .i64 t.shape.id)).setCell ⟨w.heap.size, 5, none⟩ (.int .i64 t.shape.pool)).setCell ⟨w.heap.size, 6, none⟩ (.int .i64 t.shape.cap.c)).setCell ⟨w.heap.size, 7, none⟩ (.int .i64 t.shape.cap.m)).setCell ⟨w.heap.size, 8, none⟩ (.int .i64 t.shape.cap.p)).setCell ⟨w.heap.size, 9, none⟩ (.slice A1 t.shape.labs.length c1)).setCell ⟨w.heap.size, 10, none⟩ (.slice A2 t.shape.taints.length c2)).setCell ⟨w.heap.size, 11, none⟩ (.bool t.shape.cordon)) := below12 hC2 (Nat.le_refl _)
    generalize ((((((((((((w2.setCell ⟨w.heap.size, 0, none⟩ (.int .i64 t.id)).setCell ⟨w.heap.size, 1, none⟩ (.int .i64 t.min)).setCell ⟨w.heap.size, 2, none⟩ (.int .i64 t.max)).setCell ⟨w.heap.size, 3, none⟩ (.int .i64 t.prio)).setCell ⟨w.heap.size, 4, none⟩ (.int .i64 t.shape.id)).setCell ⟨w.heap.size, 5, none⟩ (.int .i64 t.shape.pool)).setCell ⟨w.heap.size, 6, none⟩ (.int .i64 t.shape.cap.c)).setCell ⟨w.heap.size, 7, none⟩ (.int .i64 t.shape.cap.m)).setCell ⟨w.heap.size, 8, none⟩ (.int .i64 t.shape.cap.p)).setCell ⟨w.heap.size, 9, none⟩ (.slice A1 t.shape.labs.length c1)).setCell ⟨w.heap.size, 10, none⟩ (.slice A2 t.shape.taints.length c2)).setCell ⟨w.heap.size, 11, none⟩ (.bool t.shape.cordon)) = X at hZ hX ⊢
    have z0 := hZ.cell 0; have z1 := hZ.cell 1; have z2 := hZ.cell 2; have z3 := hZ.cell 3; have z4 := hZ.cell 4; have z5 := hZ.cell 5; have z6 := hZ.cell 6; have z7 := hZ.cell 7; have z8 := hZ.cell 8; have z9 := hZ.cell 9; have z10 := hZ.cell 10; have z11 := hZ.cell 11
    simp at z0 z1 z2 z3 z4 z5 z6 z7 z8 z9 z10 z11
    exact bodyPost_ret (v := .tuple #[.agg #[.int .i64 t.id, .int .i64 t.min, .int .i64 t.max, .int .i64 t.prio, .int .i64 t.shape.id, .int .i64 t.shape.pool, .int .i64 t.shape.cap.c, .int .i64 t.shape.cap.m, .int .i64 t.shape.cap.p, .slice A1 t.shape.labs.length c1, .slice A2 t.shape.taints.length c2, .bool t.shape.cordon], .bool true]) (by simp [results, Tryz.results183, go_sem, z0, z1, z2, z3, z4, z5, z6, z7, z8, z9, z10, z11]) rfl ⟨_, rfl, HR.out, hX⟩
set_option maxHeartbeats 1600000 in
theorem findPool_any (v : Value) (l : List PV) (z : Int) (w0 w : World) (hw : Below w0.heap.size w0 w) (hv : PoolSl w0 v l) (hlen : l.length ≤ 1048576) :
    Calls Tryz.prog 145 #[v, .int .i64 z] w (RetFPool w0 w (fstBy PV.id l z)) := by
  have hf := fun B w1 hw1 hz => findGPool_any B z v l w0 w1 hw1 hv hlen hz
  generalize fstBy PV.id l z = o at hf ⊢
  have HF := Lib.hid hf
  have HW := Lib.hid hw
  have hmf : ∀ (fn : Fn) (first cap : Array Value) (w : World), (Instr.makeFunc fn first cap).run Tryz.prog w = .ok (.func fn first cap) w := fun _ _ _ _ => rfl
  clear hf hw hv hlen
  go_enter Tryz.func145, Tryz.ntmps145
  go_wp2_with fail
  have hX3 : Below w.heap.size w ((w.alloc (.cells #[.int .i64 z] 3)).alloc (.cells #[.int .i64 0, .int .i64 0, .int .i64 0, .int .i64 0, .int .i64 0, .int .i64 0, .int .i64 0, .int .i64 0, .int .i64 0, .slice none 0 0, .slice none 0 0, .bool false] 80)) := (by repeat' (first | exact Below.refl _ _ | refine Below.alloc ?_ ?_ _ | refine Below.setCell ?_ ?_ _ | refine Below.drew ?_ | (apply below_step; assumption) | (simp; done) | (simp; omega) | omega))
  refine (HF.out w.heap.size _ (below_of HW.out hX3) ((BlockIs.alloc (BlockIs.new w _ _) _).cell 0)).mono ?_
  rintro e w3 ⟨cs, rfl, hR, hb3⟩
  have hz3 := hb3.size
  simp at hz3
  have hC3 := below_of hX3 hb3
  have B2 : BlockIs w3 (w.heap.size + 1) 80 #[.int .i64 0, .int .i64 0, .int .i64 0, .int .i64 0, .int .i64 0, .int .i64 0, .int .i64 0, .int .i64 0, .int .i64 0, .slice none 0 0, .slice none 0 0, .bool false] := (BlockIs.new' (by simp)).below hb3 (by simp)
  have HR := Lib.hid hR
  generalize hgt : o.getD PV.zero = t at hR HR
  have HG := Lib.hid hgt
  clear hgt
  obtain ⟨v1, v2, rfl, sl, si, m1, m2⟩ := hR; obtain ⟨A1, c1, rfl, _⟩ := sl.form; obtain ⟨A2, c2, rfl, _⟩ := si.form
  clear sl si m1 m2
  have d0 := B2.cell 0; have d1 := B2.cell 1; have d2 := B2.cell 2; have d3 := B2.cell 3; have d4 := B2.cell 4; have d5 := B2.cell 5; have d6 := B2.cell 6; have d7 := B2.cell 7; have d8 := B2.cell 8; have d9 := B2.cell 9; have d10 := B2.cell 10; have d11 := B2.cell 11
  have f1 := B2.frozen
  simp at d0 d1 d2 d3 d4 d5 d6 d7 d8 d9 d10 d11
  have HB2 := Lib.hid B2
  clear B2 hX3 hb3
  go_wp2_with fail
  have hZ : BlockIs ((((((((((((w3.setCell ⟨w.heap.size + 1, 0, none⟩ (.int .i64 t.id)).setCell ⟨w.heap.size + 1, 1, none⟩ (.int .i64 t.min)).setCell ⟨w.heap.size + 1, 2, none⟩ (.int .i64 t.max)).setCell ⟨w.heap.size + 1, 3, none⟩ (.int .i64 t.prio)).setCell ⟨w.heap.size + 1, 4, none⟩ (.int .i64 t.shape.id)).setCell ⟨w.heap.size + 1, 5, none⟩ (.int .i64 t.shape.pool)).setCell ⟨w.heap.size + 1, 6, none⟩ (.int .i64 t.shape.cap.c)).setCell ⟨w.heap.size + 1, 7, none⟩ (.int .i64 t.shape.cap.m)).setCell ⟨w.heap.size + 1, 8, none⟩ (.int .i64 t.shape.cap.p)).setCell ⟨w.heap.size + 1, 9, none⟩ (.slice A1 t.shape.labs.length c1)).setCell ⟨w.heap.size + 1, 10, none⟩ (.slice A2 t.shape.taints.length c2)).setCell ⟨w.heap.size + 1, 11, none⟩ (.bool t.shape.cordon)) (w.heap.size + 1) 80 #[.int .i64 t.id, .int .i64 t.min, .int .i64 t.max, .int .i64 t.prio, .int .i64 t.shape.id, .int .i64 t.shape.pool, .int .i64 t.shape.cap.c, .int .i64 t.shape.cap.m, .int .i64 t.shape.cap.p, .slice A1 t.shape.labs.length c1, .slice A2 t.shape.taints.length c2, .bool t.shape.cordon] := put12 _ _ _ _ _ _ _ _ _ _ _ _ HB2.out rfl
  have hX : Below w.heap.size w ((((((((((((w3.setCell ⟨w.heap.size + 1, 0, none⟩ (.int .i64 t.id)).setCell ⟨w.heap.size + 1, 1, none⟩ (.int .i64 t.min)).setCell ⟨w.heap.size + 1, 2, none⟩ (.int .i64 t.max)).setCell ⟨w.heap.size + 1, 3, none⟩ (.int .i64 t.prio)).setCell ⟨w.heap.size + 1, 4, none⟩ (.int .i64 t.shape.id)).setCell ⟨w.heap.size + 1, 5, none⟩ (.int .i64 t.shape.pool)).setCell ⟨w.heap.size + 1, 6, none⟩ (.int .i64 t.shape.cap.c)).setCell ⟨w.heap.size + 1, 7, none⟩ (.int .i64 t.shape.cap.m)).setCell ⟨w.heap.size + 1, 8, none⟩ (.int .i64 t.shape.cap.p)).setCell ⟨w.heap.size + 1, 9, none⟩ (.slice A1 t.shape.labs.length c1)).setCell ⟨w.heap.size + 1, 10, none⟩ (.slice A2 t.shape.taints.length c2)).setCell ⟨w.heap.size + 1, 11, none⟩ (.bool t.shape.cordon)) := below12 hC3 (by omega)
  generalize ((((((((((((w3.setCell ⟨w.heap.size + 1, 0, none⟩ (.int .i64 t.id)).setCell ⟨w.heap.size + 1, 1, none⟩ (.int .i64 t.min)).setCell ⟨w.heap.size + 1, 2, none⟩ (.int .i64 t.max)).setCell ⟨w.heap.size + 1, 3, none⟩ (.int .i64 t.prio)).setCell ⟨w.heap.size + 1, 4, none⟩ (.int .i64 t.shape.id)).setCell ⟨w.heap.size + 1, 5, none⟩ (.int .i64 t.shape.pool)).setCell ⟨w.heap.size + 1, 6, none⟩ (.int .i64 t.shape.cap.c)).setCell ⟨w.heap.size + 1, 7, none⟩ (.int .i64 t.shape.cap.m)).setCell ⟨w.heap.size + 1, 8, none⟩ (.int .i64 t.shape.cap.p)).setCell ⟨w.heap.size + 1, 9, none⟩ (.slice A1 t.shape.labs.length c1)).setCell ⟨w.heap.size + 1, 10, none⟩ (.slice A2 t.shape.taints.length c2)).setCell ⟨w.heap.size + 1, 11, none⟩ (.bool t.shape.cordon)) = X at hZ hX ⊢
  have z0 := hZ.cell 0; have z1 := hZ.cell 1; have z2 := hZ.cell 2; have z3 := hZ.cell 3; have z4 := hZ.cell 4; have z5 := hZ.cell 5; have z6 := hZ.cell 6; have z7 := hZ.cell 7; have z8 := hZ.cell 8; have z9 := hZ.cell 9; have z10 := hZ.cell 10; have z11 := hZ.cell 11
  simp at z0 z1 z2 z3 z4 z5 z6 z7 z8 z9 z10 z11
  exact bodyPost_ret (v := .tuple #[.agg #[.int .i64 t.id, .int .i64 t.min, .int .i64 t.max, .int .i64 t.prio, .int .i64 t.shape.id, .int .i64 t.shape.pool, .int .i64 t.shape.cap.c, .int .i64 t.shape.cap.m, .int .i64 t.shape.cap.p, .slice A1 t.shape.labs.length c1, .slice A2 t.shape.taints.length c2, .bool t.shape.cordon], .bool o.isSome]) (by simp [results, Tryz.results145, go_sem, z0, z1, z2, z3, z4, z5, z6, z7, z8, z9, z10, z11]) rfl ⟨_, rfl, by rw [HG.out]; exact HR.out, hX⟩
end Go.Proofs.YtcegofdmdemcbaaGreatDoor

namespace Go.Proofs.YtcegofdmdemcbaaGreatDoor
open Go.RowKit

theorem kindOk_any (n : Int) (w : World) : Calls Tryz.prog 135 #[.int .i64 n] w fun e w' => e = .returned (.bool (lWithin n 1 3)) ∧ w = w' := by
  unfold lWithin
  generalize e1 : decide ((1 : Int) ≤ n) = b1
  cases b1
  all_goals
    go_enter Tryz.func135, Tryz.ntmps135
    go_wp2
    go_ret
    exact ⟨by simp, rfl⟩
set_option maxHeartbeats 1600000 in
theorem settingsOk_any (t : WV) (s : WS) (w : World) : Calls Tryz.prog 68 #[.agg #[.int .i64 t.now, .int .i64 t.span, .int .i64 t.kind, .int .i64 t.limit, .int .i64 t.next, .int .i64 t.lease.c, .int .i64 t.lease.m, .int .i64 t.lease.p, s.ep, s.po, s.ta, s.no, s.bi, s.wa, s.en, .int .i64 t.seen, s.ins, s.ms]] w fun e w' => e = .returned (.bool (settingsOk t)) ∧ Below w.heap.size w w' := by
  obtain ⟨v0, v1, v2, v3, v4, v5, v6, v7, v8⟩ := s
  have h1 := fun w => timeOk_any t.now w
  have h2 := fun w => spanOk_any t.span w
  have h3 := fun w => kindOk_any t.kind w
  have h4 := fun w => within_any t.limit 0 1001 w
  have h5 := fun w => within_any t.next 1 100 w
  have HE : settingsOk t = (lWithin t.now 0 100000 && lWithin t.span 1 1000 && lWithin t.kind 1 3 && lWithin t.limit 0 1001 && lWithin t.next 1 100) := rfl
  generalize settingsOk t = ok at *
  generalize lWithin t.now 0 100000 = b1 at *
  generalize lWithin t.span 1 1000 = b2 at *
  generalize lWithin t.kind 1 3 = b3 at *
  generalize lWithin t.limit 0 1001 = b4 at *
  generalize lWithin t.next 1 100 = b5 at *
  have HE := Lib.hid HE
  have H1 := Lib.hid h1
  have H2 := Lib.hid h2
  have H3 := Lib.hid h3
  have H4 := Lib.hid h4
  have H5 := Lib.hid h5
  clear h1 h2 h3 h4 h5
  go_enter Tryz.func68, Tryz.ntmps68
  go_wp2_with fail
  refine (H1.out _).mono ?_
  rintro e w1 ⟨rfl, rfl⟩
  cases b1
  · go_wp2_with fail
    go_ret
    exact ⟨by rw [HE.out]; simp, (by repeat' (first | exact Below.refl _ _ | refine Below.alloc ?_ ?_ _ | refine Below.setCell ?_ ?_ _ | refine Below.drew ?_ | (apply below_step; assumption) | (simp; done) | (simp; omega) | omega))⟩
  go_wp2_with fail
  refine (H2.out _).mono ?_
  rintro e w1 ⟨rfl, rfl⟩
  cases b2
  · go_wp2_with fail
    go_ret
    exact ⟨by rw [HE.out]; simp, (by repeat' (first | exact Below.refl _ _ | refine Below.alloc ?_ ?_ _ | refine Below.setCell ?_ ?_ _ | refine Below.drew ?_ | (apply below_step; assumption) | (simp; done) | (simp; omega) | omega))⟩
  go_wp2_with fail
  refine (H3.out _).mono ?_
  rintro e w1 ⟨rfl, rfl⟩
  cases b3
  · go_wp2_with fail
    go_ret
    exact ⟨by rw [HE.out]; simp, (by repeat' (first | exact Below.refl _ _ | refine Below.alloc ?_ ?_ _ | refine Below.setCell ?_ ?_ _ | refine Below.drew ?_ | (apply below_step; assumption) | (simp; done) | (simp; omega) | omega))⟩
  go_wp2_with fail
  refine (H4.out _).mono ?_
  rintro e w1 ⟨rfl, rfl⟩
  cases b4
  · go_wp2_with fail
    go_ret
    exact ⟨by rw [HE.out]; simp, (by repeat' (first | exact Below.refl _ _ | refine Below.alloc ?_ ?_ _ | refine Below.setCell ?_ ?_ _ | refine Below.drew ?_ | (apply below_step; assumption) | (simp; done) | (simp; omega) | omega))⟩
  go_wp2_with fail
  refine (H5.out _).mono ?_
  rintro e w1 ⟨rfl, rfl⟩
  cases b5
  · go_wp2_with fail
    go_ret
    exact ⟨by rw [HE.out]; simp, (by repeat' (first | exact Below.refl _ _ | refine Below.alloc ?_ ?_ _ | refine Below.setCell ?_ ?_ _ | refine Below.drew ?_ | (apply below_step; assumption) | (simp; done) | (simp; omega) | omega))⟩
  go_wp2_with fail
  go_ret
  exact ⟨by rw [HE.out]; simp, (by repeat' (first | exact Below.refl _ _ | refine Below.alloc ?_ ?_ _ | refine Below.setCell ?_ ?_ _ | refine Below.drew ?_ | (apply below_step; assumption) | (simp; done) | (simp; omega) | omega))⟩
set_option maxHeartbeats 1600000 in
theorem isNodeW_any (t : WV) (s : WS) (z : Int) (w : World) (hw : WldR w t s) : Calls Tryz.prog 146 #[.agg #[.int .i64 t.now, .int .i64 t.span, .int .i64 t.kind, .int .i64 t.limit, .int .i64 t.next, .int .i64 t.lease.c, .int .i64 t.lease.m, .int .i64 t.lease.p, s.ep, s.po, s.ta, s.no, s.bi, s.wa, s.en, .int .i64 t.seen, s.ins, s.ms], .int .i64 z] w fun e w' => e = .returned (.bool (hasNode t.clu z)) ∧ Below w.heap.size w w' := by
  obtain ⟨A0, A1, A2, A3, A4, A5, A6, A7, A8, c0, c1, c2, c3, c4, c5, c6, c7, c8, rfl⟩ := hw.form
  have hf := fun w1 h1 => findNode_any t.clu _ _ _ z w w1 h1 hw.clu
  have hE : hasNode t.clu z = (fstBy NV.id t.clu.nodes z).isSome := rfl
  generalize fstBy NV.id t.clu.nodes z = o at hf hE
  have HF := Lib.hid hf
  have HE := Lib.hid hE
  clear hw hf hE
  go_enter Tryz.func146, Tryz.ntmps146
  go_wp2_with fail
  have hX : Below w.heap.size w (w.alloc (.cells #[.int .i64 t.now, .int .i64 t.span, .int .i64 t.kind, .int .i64 t.limit, .int .i64 t.next, .int .i64 t.lease.c, .int .i64 t.lease.m, .int .i64 t.lease.p, .slice A0 t.epochs.length c0, .slice A1 t.pools.length c1, .slice A2 t.clu.tasks.length c2, .slice A3 t.clu.nodes.length c3, .slice A4 t.clu.binds.length c4, .slice A5 t.wants.length c5, .slice A6 t.ends.length c6, .int .i64 t.seen, .slice A7 t.insts.length c7, .slice A8 t.msgs.length c8] 39)) := (by repeat' (first | exact Below.refl _ _ | refine Below.alloc ?_ ?_ _ | refine Below.setCell ?_ ?_ _ | refine Below.drew ?_ | (apply below_step; assumption) | (simp; done) | (simp; omega) | omega))
  refine (HF.out _ hX).mono ?_
  rintro e w1 ⟨cs, rfl, hR, hb1⟩
  have hC1 := below_of hX hb1
  generalize o.getD NV.zero = n at hR
  obtain ⟨u1, u2, rfl, s1, s2, _, _⟩ := hR
  obtain ⟨E1, d1, rfl, _⟩ := s1.form
  obtain ⟨E2, d2, rfl, _⟩ := s2.form
  clear hX hb1 s1 s2
  have hz1 := hC1.size
  go_wp2_with fail
  go_ret
  exact ⟨by rw [HE.out]; simp, (by repeat' (first | exact Below.refl _ _ | refine Below.alloc ?_ ?_ _ | refine Below.setCell ?_ ?_ _ | refine Below.drew ?_ | (apply below_step; assumption) | (simp; done) | (simp; omega) | omega))⟩
theorem epochsOk_eq (t : WV) (b1 b2 : Bool) (h1 : ((t.epochs.length : Int) != 4) = b1) (h2 : decide (t.lease.m < t.seen) = b2) : epochsOk t = (!b1 && !b2 && t.epochs.all (fun e => lWithin e 0 t.lease.m)) := by
  subst h1 h2
  unfold epochsOk
  congr 2
  rw [Bool.eq_iff_iff]; simp; omega
theorem all_step {α : Type} {p : α → Bool} {l : List α} {k : Nat} {x : α} (h : l.all p = (l.drop k).all p) (hx : l[k]? = some x) : l.all p = (p x && (l.drop (k + 1)).all p) := by
  have hk : k < l.length := (List.getElem?_eq_some_iff.1 hx).1
  rw [h, List.drop_eq_getElem_cons hk, (List.getElem?_eq_some_iff.1 hx).2]; rfl
set_option maxHeartbeats 3200000 in
theorem epochsOk_any (t : WV) (s : WS) (w : World) (hw : WldR w t s) : Calls Tryz.prog 73 #[.agg #[.int .i64 t.now, .int .i64 t.span, .int .i64 t.kind, .int .i64 t.limit, .int .i64 t.next, .int .i64 t.lease.c, .int .i64 t.lease.m, .int .i64 t.lease.p, s.ep, s.po, s.ta, s.no, s.bi, s.wa, s.en, .int .i64 t.seen, s.ins, s.ms]] w fun e w' => e = .returned (.bool (epochsOk t)) ∧ Below w.heap.size w w' := by
  obtain ⟨A0, A1, A2, A3, A4, A5, A6, A7, A8, c0, c1, c2, c3, c4, c5, c6, c7, c8, rfl⟩ := hw.form
  have HA := Lib.hid hw.ep
  have hlen := hw.small.1
  have HE := Lib.hid (epochsOk_eq t)
  generalize e1 : ((t.epochs.length : Int) != 4) = b1 at *
  generalize e2 : decide (t.lease.m < t.seen) = b2 at *
  have HE := Lib.hid (HE.out _ _ rfl rfl)
  generalize epochsOk t = ok at *
  have hgl : t.epochs.all (fun e => lWithin e 0 t.lease.m) = (t.epochs.drop 0).all (fun e => lWithin e 0 t.lease.m) := by rw [List.drop_zero]
  have HG := Lib.hid hgl
  clear hw hgl
  go_enter Tryz.func73, Tryz.ntmps73
  cases b1
  rotate_left
  · go_wp2_with fail
    go_ret
    exact ⟨by rw [HE.out]; simp, (by repeat' (first | exact Below.refl _ _ | refine Below.alloc ?_ ?_ _ | refine Below.setCell ?_ ?_ _ | refine Below.drew ?_ | (apply below_step; assumption) | (simp; done) | (simp; omega) | omega))⟩
  cases b2
  rotate_left
  · go_wp2_with fail
    go_ret
    exact ⟨by rw [HE.out]; simp, (by repeat' (first | exact Below.refl _ _ | refine Below.alloc ?_ ?_ _ | refine Below.setCell ?_ ?_ _ | refine Below.drew ?_ | (apply below_step; assumption) | (simp; done) | (simp; omega) | omega))⟩
  go_wp2_with fail
  go_loopw [21] (fun s21 wr => ∃ k : Nat, k ≤ t.epochs.length ∧ s21 = .int .i64 k ∧ t.epochs.all (fun e => lWithin e 0 t.lease.m) = (t.epochs.drop k).all (fun e => lWithin e 0 t.lease.m) ∧ wr.cell? ⟨w.heap.size, 6, none⟩ = some (.int .i64 t.lease.m) ∧ Below w.heap.size w wr) (fun s21 _ => (t.epochs.length - RowKit.intOf s21).toNat)
  case atStart => exact ⟨0, by omega, rfl, HG.out, by simp, (by repeat' (first | exact Below.refl _ _ | refine Below.alloc ?_ ?_ _ | refine Below.setCell ?_ ?_ _ | refine Below.drew ?_ | (apply below_step; assumption) | (simp; done) | (simp; omega) | omega))⟩
  case round =>
    obtain ⟨k, hk, rfl, hall, hcell, hB⟩ := hrel
    have hzr := hB.size
    by_cases hlt : k < t.epochs.length
    · obtain ⟨A, c, e0, hA⟩ := HA.out.form
      obtain ⟨b, off, rfl, hbw, hat⟩ := hA (by omega)
      simp only [Value.slice.injEq] at e0
      obtain ⟨rfl, -, rfl⟩ := e0
      obtain ⟨r, hr⟩ : ∃ r, t.epochs[k]? = some r := ⟨_, List.getElem?_eq_getElem hlt⟩
      have q0 := (hat.below hB hbw) k r hr
      have hlti : (k : Int) < (t.epochs.length : Int) := by omega
      have HST := Lib.hid (all_step hall hr)
      have hin := fun w => within_any r 0 t.lease.m w
      generalize lWithin r 0 t.lease.m = bi at *
      have HIN := Lib.hid hin
      clear hat hr hall hin hA
      go_wp2_with fail
      refine (HIN.out _).mono ?_
      rintro e w3 ⟨rfl, rfl⟩
      cases bi
      · go_wp2_with fail
        go_ret
        exact ⟨by rw [HE.out, HST.out]; simp, hB⟩
      go_wp2_with fail
      go_roundw
      case rel => exact ⟨k + 1, by omega, by go_num, by rw [HST.out]; simp, hcell, hB⟩
      case measure => simp [RowKit.intOf]; omega
    · obtain rfl : k = t.epochs.length := by omega
      have HF := Lib.hid hall
      clear hall
      go_wp2_with fail
      go_ret
      exact ⟨by rw [HE.out, HF.out, List.drop_length]; rfl, hB⟩
theorem msgsOk_eq (t : WV) (b1 : Bool) (h1 : decide (40 < (t.msgs.length : Int)) = b1) : msgsOk t = (!b1 && t.msgs.all (msgIn t)) := by
  subst h1
  unfold msgsOk
  congr 1
  rw [Bool.eq_iff_iff]; simp; omega
theorem msgIn_eq (t : WV) (m : MV) (b1 b2 : Bool) (h1 : msgOk m = b1) (h2 : decide (t.lease.m < m.e) = b2) : msgIn t m = (b1 && !b2) := by subst h1 h2; rfl
set_option maxHeartbeats 3200000 in
theorem msgsOk_any (t : WV) (s : WS) (w : World) (hw : WldR w t s) : Calls Tryz.prog 76 #[.agg #[.int .i64 t.now, .int .i64 t.span, .int .i64 t.kind, .int .i64 t.limit, .int .i64 t.next, .int .i64 t.lease.c, .int .i64 t.lease.m, .int .i64 t.lease.p, s.ep, s.po, s.ta, s.no, s.bi, s.wa, s.en, .int .i64 t.seen, s.ins, s.ms]] w fun e w' => e = .returned (.bool (msgsOk t)) ∧ Below w.heap.size w w' := by
  obtain ⟨A0, A1, A2, A3, A4, A5, A6, A7, A8, c0, c1, c2, c3, c4, c5, c6, c7, c8, rfl⟩ := hw.form
  have HA := Lib.hid hw.ms
  have hlen := hw.small.2.2.2.2.2
  have HE := Lib.hid (msgsOk_eq t)
  generalize e1 : decide (40 < (t.msgs.length : Int)) = b1 at *
  have HE := Lib.hid (HE.out _ rfl)
  generalize msgsOk t = ok at *
  have hgl : t.msgs.all (msgIn t) = (t.msgs.drop 0).all (msgIn t) := by rw [List.drop_zero]
  have HG := Lib.hid hgl
  clear hw hgl
  go_enter Tryz.func76, Tryz.ntmps76
  cases b1
  rotate_left
  · go_wp2_with fail
    go_ret
    exact ⟨by rw [HE.out]; simp, (by repeat' (first | exact Below.refl _ _ | refine Below.alloc ?_ ?_ _ | refine Below.setCell ?_ ?_ _ | refine Below.drew ?_ | (apply below_step; assumption) | (simp; done) | (simp; omega) | omega))⟩
  go_wp2_with fail
  go_loopw [12] (fun s12 wr => ∃ k : Nat, k ≤ t.msgs.length ∧ s12 = .int .i64 k ∧ t.msgs.all (msgIn t) = (t.msgs.drop k).all (msgIn t) ∧ wr.cell? ⟨w.heap.size, 6, none⟩ = some (.int .i64 t.lease.m) ∧ Below w.heap.size w wr) (fun s12 _ => (t.msgs.length - RowKit.intOf s12).toNat)
  case atStart => exact ⟨0, by omega, rfl, HG.out, by simp, (by repeat' (first | exact Below.refl _ _ | refine Below.alloc ?_ ?_ _ | refine Below.setCell ?_ ?_ _ | refine Below.drew ?_ | (apply below_step; assumption) | (simp; done) | (simp; omega) | omega))⟩
  case round =>
    obtain ⟨k, hk, rfl, hall, hcell, hB⟩ := hrel
    have hzr := hB.size
    by_cases hlt : k < t.msgs.length
    · obtain ⟨A, c, e0, hA⟩ := HA.out.form
      obtain ⟨b, off, rfl, hbw, hat⟩ := hA (by omega)
      simp only [Value.slice.injEq] at e0
      obtain ⟨rfl, -, rfl⟩ := e0
      obtain ⟨r, hr⟩ : ∃ r, t.msgs[k]? = some r := ⟨_, List.getElem?_eq_getElem hlt⟩
      obtain ⟨cs, hR, hC⟩ := (hat.below MsgR.kept hB hbw) k r hr
      obtain rfl := hR
      obtain ⟨q0, q1, q2, q3⟩ := msg_cells hC
      have hlti : (k : Int) < (t.msgs.length : Int) := by omega
      have HST := Lib.hid (all_step hall hr)
      have HIE := Lib.hid (msgIn_eq t r)
      have hin := fun w => MsgOk_any r w
      generalize msgOk r = bi at *
      generalize e4 : decide (t.lease.m < r.e) = bl
      have HIE := Lib.hid (HIE.out _ _ rfl e4)
      have HIN := Lib.hid hin
      have hbl := World.block_lt_of_cell? _ _ hcell
      simp only at hbl
      have HCC := Lib.hid hcell
      clear hat hr hall hin hA hC
      go_wp2_with fail
      have hX : Below wr.heap.size wr (wr.alloc (.cells #[.int .i64 r.k, .int .i64 r.e, .int .i64 r.i, .int .i64 r.p] 107)) := (by repeat' (first | exact Below.refl _ _ | refine Below.alloc ?_ ?_ _ | refine Below.setCell ?_ ?_ _ | refine Below.drew ?_ | (apply below_step; assumption) | (simp; done) | (simp; omega) | omega))
      refine (HIN.out _).mono ?_
      rintro e w3 ⟨rfl, hb3⟩
      have hB3 := below_of hX hb3
      have hD3 := hB.trans (hB3.mono hzr)
      have B3 := (BlockIs.new wr 107 #[.int .i64 r.k, .int .i64 r.e, .int .i64 r.i, .int .i64 r.p]).below hb3 (by simp)
      have g1 := B3.cell 1
      simp at g1
      have hc6 := (hB3.cell (p := ⟨w.heap.size, 6, none⟩) hbl).trans HCC.out
      clear hX hb3 hB3 B3 hcell q0 q1 q2 q3 hB
      cases bi
      · go_wp2_with fail
        go_ret
        exact ⟨by rw [HE.out, HST.out, HIE.out]; simp, hD3⟩
      cases bl
      rotate_left
      · go_wp2_with fail
        go_ret
        exact ⟨by rw [HE.out, HST.out, HIE.out]; simp, hD3⟩
      go_wp2_with fail
      go_roundw
      case rel => exact ⟨k + 1, by omega, by go_num, by rw [HST.out, HIE.out]; simp, hc6, hD3⟩
      case measure => simp [RowKit.intOf]; omega
    · obtain rfl : k = t.msgs.length := by omega
      have HF := Lib.hid hall
      clear hall
      go_wp2_with fail
      go_ret
      exact ⟨by rw [HE.out, HF.out, List.drop_length]; rfl, hB⟩
theorem endsOk_eq (t : WV) (b1 : Bool) (h1 : decide (20 < (t.ends.length : Int)) = b1) : endsOk t = (!b1 && endsFrom t 0 t.ends) := by
  subst h1
  unfold endsOk
  congr 1
  rw [Bool.eq_iff_iff]; simp; omega
theorem endsFrom_step {t : WV} {last : Int} {l : List Int} {k : Nat} {r : Int} (hr : l[k]? = some r) (b1 b2 : Bool) (h1 : decide (r ≤ last) = b1) (h2 : hasNode t.clu r = b2) : endsFrom t last (l.drop k) = (!b1 && b2 && endsFrom t r (l.drop (k + 1))) := by
  have hk : k < l.length := (List.getElem?_eq_some_iff.1 hr).1
  subst h1 h2
  rw [List.drop_eq_getElem_cons hk, (List.getElem?_eq_some_iff.1 hr).2, endsFrom]
  congr 2
  rw [Bool.eq_iff_iff]; simp
set_option maxHeartbeats 3200000 in
theorem endsOk_any (t : WV) (s : WS) (w : World) (hw : WldR w t s) : Calls Tryz.prog 75 #[.agg #[.int .i64 t.now, .int .i64 t.span, .int .i64 t.kind, .int .i64 t.limit, .int .i64 t.next, .int .i64 t.lease.c, .int .i64 t.lease.m, .int .i64 t.lease.p, s.ep, s.po, s.ta, s.no, s.bi, s.wa, s.en, .int .i64 t.seen, s.ins, s.ms]] w fun e w' => e = .returned (.bool (endsOk t)) ∧ Below w.heap.size w w' := by
  obtain ⟨A0, A1, A2, A3, A4, A5, A6, A7, A8, c0, c1, c2, c3, c4, c5, c6, c7, c8, rfl⟩ := hw.form
  have HW := Lib.hid hw
  have HA := Lib.hid hw.en
  have hlen := hw.small.2.2.2.1
  have HE := Lib.hid (endsOk_eq t)
  generalize e1 : decide (20 < (t.ends.length : Int)) = b1 at *
  have HE := Lib.hid (HE.out _ rfl)
  generalize endsOk t = ok at *
  have hgl : endsFrom t 0 t.ends = endsFrom t 0 (t.ends.drop 0) := by rw [List.drop_zero]
  have HG := Lib.hid hgl
  clear hw hgl
  go_enter Tryz.func75, Tryz.ntmps75
  cases b1
  rotate_left
  · go_wp2_with fail
    go_ret
    exact ⟨by rw [HE.out]; simp, (by repeat' (first | exact Below.refl _ _ | refine Below.alloc ?_ ?_ _ | refine Below.setCell ?_ ?_ _ | refine Below.drew ?_ | (apply below_step; assumption) | (simp; done) | (simp; omega) | omega))⟩
  go_wp2_with fail
  go_loopw [3, 13] (fun s3 s13 wr => ∃ (k : Nat) (last : Int), k ≤ t.ends.length ∧ s13 = .int .i64 k ∧ s3 = .int .i64 last ∧ endsFrom t 0 t.ends = endsFrom t last (t.ends.drop k) ∧ BlockIs wr w.heap.size 39 #[.int .i64 t.now, .int .i64 t.span, .int .i64 t.kind, .int .i64 t.limit, .int .i64 t.next, .int .i64 t.lease.c, .int .i64 t.lease.m, .int .i64 t.lease.p, .slice A0 t.epochs.length c0, .slice A1 t.pools.length c1, .slice A2 t.clu.tasks.length c2, .slice A3 t.clu.nodes.length c3, .slice A4 t.clu.binds.length c4, .slice A5 t.wants.length c5, .slice A6 t.ends.length c6, .int .i64 t.seen, .slice A7 t.insts.length c7, .slice A8 t.msgs.length c8] ∧ Below w.heap.size w wr) (fun _ s13 _ => (t.ends.length - RowKit.intOf s13).toNat)
  case atStart => exact ⟨0, 0, by omega, rfl, rfl, HG.out, BlockIs.new w _ _, (by repeat' (first | exact Below.refl _ _ | refine Below.alloc ?_ ?_ _ | refine Below.setCell ?_ ?_ _ | refine Below.drew ?_ | (apply below_step; assumption) | (simp; done) | (simp; omega) | omega))⟩
  case round =>
    obtain ⟨k, last, hk, rfl, rfl, hall, hblk, hB⟩ := hrel
    have HBK := Lib.hid hblk
    have hbl := hblk.lt
    have hzr := hB.size
    clear hblk
    by_cases hlt : k < t.ends.length
    · obtain ⟨A, c, e0, hA⟩ := HA.out.form
      obtain ⟨b, off, rfl, hbw, hat⟩ := hA (by omega)
      simp only [Value.slice.injEq] at e0
      obtain ⟨rfl, -, rfl⟩ := e0
      obtain ⟨r, hr⟩ : ∃ r, t.ends[k]? = some r := ⟨_, List.getElem?_eq_getElem hlt⟩
      have q0 := (hat.below hB hbw) k r hr
      have hlti : (k : Int) < (t.ends.length : Int) := by omega
      have hst := fun b1 b2 => endsFrom_step (t := t) (last := last) hr b1 b2
      have hin := fun s w hw => isNodeW_any t s r w hw
      generalize e3 : decide (r ≤ last) = bl at *
      generalize hasNode t.clu r = bn at *
      have HST := Lib.hid (hall.trans (hst _ _ rfl rfl))
      have HIN := Lib.hid hin
      clear hat hr hall hin hA hst
      cases bl
      rotate_left
      · go_wp2_with fail
        go_ret
        exact ⟨by rw [HE.out, HST.out]; simp, hB⟩
      go_wp2_with (refine wpList_load_rowG rfl 39 _ rfl _ rfl 39 _ (0, 0) _ HBK.out Tryz.underlying39 rfl (by kernel_rfl) ?_)
      refine (HIN.out _ _ (HW.out.below hB)).mono ?_
      rintro e w3 ⟨rfl, hb3⟩
      have hD3 := hB.trans (hb3.mono hzr)
      have HB3 := Lib.hid (HBK.out.below hb3 HBK.out.lt)
      clear hb3 HBK
      cases bn
      · go_wp2_with fail
        go_ret
        exact ⟨by rw [HE.out, HST.out]; simp, hD3⟩
      go_wp2_with fail
      go_roundw
      case rel => exact ⟨k + 1, r, by omega, by go_num, rfl, by rw [HST.out]; simp, HB3.out, hD3⟩
      case measure => simp [RowKit.intOf]; omega
    · obtain rfl : k = t.ends.length := by omega
      have HF := Lib.hid hall
      clear hall
      go_wp2_with fail
      go_ret
      exact ⟨by rw [HE.out, HF.out, List.drop_length]; rfl, hB⟩
theorem wantsOk_eq (t : WV) (b1 : Bool) (h1 : decide (20 < (t.wants.length : Int)) = b1) : wantsOk t = (!b1 && wantsFrom t 0 t.wants) := by
  subst h1
  unfold wantsOk
  congr 1
  rw [Bool.eq_iff_iff]; simp; omega
theorem wantsFrom_step {t : WV} {last : Int} {l : List BV} {k : Nat} {r : BV} (hr : l[k]? = some r) (b1 b2 b3 : Bool) (h1 : decide (r.task ≤ last) = b1) (h2 : hasNode t.clu r.task = b2) (h3 : hasPool t.pools r.node = b3) : wantsFrom t last (l.drop k) = (!b1 && !b2 && b3 && wantsFrom t r.task (l.drop (k + 1))) := by
  have hk : k < l.length := (List.getElem?_eq_some_iff.1 hr).1
  subst h1 h2 h3
  rw [List.drop_eq_getElem_cons hk, (List.getElem?_eq_some_iff.1 hr).2, wantsFrom]
  congr 3
  rw [Bool.eq_iff_iff]; simp
set_option maxHeartbeats 6400000 in
theorem wantsOk_any (t : WV) (s : WS) (w : World) (hw : WldR w t s) : Calls Tryz.prog 74 #[.agg #[.int .i64 t.now, .int .i64 t.span, .int .i64 t.kind, .int .i64 t.limit, .int .i64 t.next, .int .i64 t.lease.c, .int .i64 t.lease.m, .int .i64 t.lease.p, s.ep, s.po, s.ta, s.no, s.bi, s.wa, s.en, .int .i64 t.seen, s.ins, s.ms]] w fun e w' => e = .returned (.bool (wantsOk t)) ∧ Below w.heap.size w w' := by
  obtain ⟨A0, A1, A2, A3, A4, A5, A6, A7, A8, c0, c1, c2, c3, c4, c5, c6, c7, c8, rfl⟩ := hw.form
  have HW := Lib.hid hw
  have HA := Lib.hid hw.wa
  have hlen := hw.small.2.2.1
  have HE := Lib.hid (wantsOk_eq t)
  generalize e1 : decide (20 < (t.wants.length : Int)) = b1 at *
  have HE := Lib.hid (HE.out _ rfl)
  generalize wantsOk t = ok at *
  have hgl : wantsFrom t 0 t.wants = wantsFrom t 0 (t.wants.drop 0) := by rw [List.drop_zero]
  have HG := Lib.hid hgl
  clear hw hgl
  go_enter Tryz.func74, Tryz.ntmps74
  cases b1
  rotate_left
  · go_wp2_with fail
    go_ret
    exact ⟨by rw [HE.out]; simp, (by repeat' (first | exact Below.refl _ _ | refine Below.alloc ?_ ?_ _ | refine Below.setCell ?_ ?_ _ | refine Below.drew ?_ | (apply below_step; assumption) | (simp; done) | (simp; omega) | omega))⟩
  go_wp2_with fail
  go_loopw [3, 15] (fun s3 s15 wr => ∃ (k : Nat) (last : Int), k ≤ t.wants.length ∧ s15 = .int .i64 k ∧ s3 = .int .i64 last ∧ wantsFrom t 0 t.wants = wantsFrom t last (t.wants.drop k) ∧ BlockIs wr w.heap.size 39 #[.int .i64 t.now, .int .i64 t.span, .int .i64 t.kind, .int .i64 t.limit, .int .i64 t.next, .int .i64 t.lease.c, .int .i64 t.lease.m, .int .i64 t.lease.p, .slice A0 t.epochs.length c0, .slice A1 t.pools.length c1, .slice A2 t.clu.tasks.length c2, .slice A3 t.clu.nodes.length c3, .slice A4 t.clu.binds.length c4, .slice A5 t.wants.length c5, .slice A6 t.ends.length c6, .int .i64 t.seen, .slice A7 t.insts.length c7, .slice A8 t.msgs.length c8] ∧ Below w.heap.size w wr) (fun _ s15 _ => (t.wants.length - RowKit.intOf s15).toNat)
  case atStart => exact ⟨0, 0, by omega, rfl, rfl, HG.out, BlockIs.new w _ _, (by repeat' (first | exact Below.refl _ _ | refine Below.alloc ?_ ?_ _ | refine Below.setCell ?_ ?_ _ | refine Below.drew ?_ | (apply below_step; assumption) | (simp; done) | (simp; omega) | omega))⟩
  case round =>
    obtain ⟨k, last, hk, rfl, rfl, hall, hblk, hB⟩ := hrel
    have HBK := Lib.hid hblk
    have hbl := hblk.lt
    have w9 := hblk.cell 9
    simp at w9
    have hzr := hB.size
    clear hblk
    by_cases hlt : k < t.wants.length
    · obtain ⟨A, c, e0, hA⟩ := HA.out.form
      obtain ⟨b, off, rfl, hbw, hat⟩ := hA (by omega)
      simp only [Value.slice.injEq] at e0
      obtain ⟨rfl, -, rfl⟩ := e0
      obtain ⟨r, hr⟩ : ∃ r, t.wants[k]? = some r := ⟨_, List.getElem?_eq_getElem hlt⟩
      obtain ⟨cs, hR, hC⟩ := (hat.below WantR.kept hB hbw) k r hr
      obtain rfl := hR
      obtain ⟨q0, q1⟩ := want_cells hC
      have hlti : (k : Int) < (t.wants.length : Int) := by omega
      have hst := fun b1 b2 b3 => wantsFrom_step (t := t) (last := last) hr b1 b2 b3
      have hin := fun s w hw => isNodeW_any t s r.task w hw
      have hfp := fun w1 h1 => findPool_any _ t.pools r.node w w1 h1 HW.out.po HW.out.small.2.1
      generalize e3 : decide (r.task ≤ last) = bl at *
      generalize hasNode t.clu r.task = bn at *
      generalize hbp : hasPool t.pools r.node = bp at *
      unfold hasPool at hbp
      generalize fstBy PV.id t.pools r.node = o at hfp hbp
      have HST := Lib.hid (hall.trans (hst _ _ _ rfl rfl rfl))
      have HIN := Lib.hid hin
      have HFP := Lib.hid hfp
      clear hat hr hall hin hA hst hC hfp
      go_wp2_with fail
      have hX : Below wr.heap.size wr (wr.alloc (.cells #[.int .i64 r.task, .int .i64 r.node] 112)) := (by repeat' (first | exact Below.refl _ _ | refine Below.alloc ?_ ?_ _ | refine Below.setCell ?_ ?_ _ | refine Below.drew ?_ | (apply below_step; assumption) | (simp; done) | (simp; omega) | omega))
      refine (HFP.out _ (hB.trans (hX.mono hzr))).mono ?_
      rintro e w2 ⟨cs, rfl, hR, hb2⟩
      have hB2 := below_of hX hb2
      have B2 := (BlockIs.new wr 112 #[.int .i64 r.task, .int .i64 r.node]).below hb2 (by simp)
      generalize o.getD PV.zero = u at hR
      obtain ⟨u1, u2, rfl, s1, s2, _, _⟩ := hR
      obtain ⟨E1, d1, rfl, _⟩ := s1.form
      obtain ⟨E2, d2, rfl, _⟩ := s2.form
      subst hbp
      have g0 := B2.cell 0
      simp at g0
      have hX2 : Below w2.heap.size w2 (w2.alloc (.cells #[.int .i64 u.id, .int .i64 u.min, .int .i64 u.max, .int .i64 u.prio, .int .i64 u.shape.id, .int .i64 u.shape.pool, .int .i64 u.shape.cap.c, .int .i64 u.shape.cap.m, .int .i64 u.shape.cap.p, .slice E1 u.shape.labs.length d1, .slice E2 u.shape.taints.length d2, .bool u.shape.cordon] 80)) := (by repeat' (first | exact Below.refl _ _ | refine Below.alloc ?_ ?_ _ | refine Below.setCell ?_ ?_ _ | refine Below.drew ?_ | (apply below_step; assumption) | (simp; done) | (simp; omega) | omega))
      have hB2x := below_of hB2 hX2
      have hD2 := hB.trans (hB2x.mono hzr)
      have HB2 := Lib.hid (HBK.out.below hB2x HBK.out.lt)
      have BV2 := Lib.hid (B2.below hX2 B2.lt)
      have hzv := B2.lt
      clear hX hb2 hB2 B2 s1 s2 HBK hB2x hX2 q0 q1 w9
      cases bl
      rotate_left
      · go_wp2_with fail
        go_ret
        exact ⟨by rw [HE.out, HST.out]; simp, hD2⟩
      go_wp2_with (refine wpList_load_rowG rfl 39 _ rfl _ rfl 39 _ (0, 0) _ HB2.out Tryz.underlying39 rfl (by kernel_rfl) ?_)
      refine (HIN.out _ _ (HW.out.below hD2)).mono ?_
      rintro e w3 ⟨rfl, hb3⟩
      have hD3 := hD2.trans (hb3.mono hD2.size)
      have HB3 := Lib.hid (HB2.out.below hb3 HB2.out.lt)
      have B3 := BV2.out.below hb3 BV2.out.lt
      have g0 := B3.cell 0
      simp at g0
      clear hb3 HB2 B3
      cases bn
      rotate_left
      · go_wp2_with fail
        go_ret
        exact ⟨by rw [HE.out, HST.out]; simp, hD3⟩
      generalize o.isSome = bp at *
      cases bp
      · go_wp2_with fail
        go_ret
        exact ⟨by rw [HE.out, HST.out]; simp, hD3⟩
      go_wp2_with fail
      go_roundw
      case rel => exact ⟨k + 1, r.task, by omega, by go_num, rfl, by rw [HST.out]; simp, HB3.out, hD3⟩
      case measure => simp [RowKit.intOf]; omega
    · obtain rfl : k = t.wants.length := by omega
      have HF := Lib.hid hall
      clear hall
      go_wp2_with fail
      go_ret
      exact ⟨by rw [HE.out, HF.out, List.drop_length]; rfl, hB⟩
end Go.Proofs.YtcegofdmdemcbaaGreatDoor

namespace Go.Proofs.YtcegofdmdemcbaaGreatDoor
open Go.RowKit

theorem topOf_step {g : Int} {l : List Int} {k : Nat} {r : Int} (hr : l[k]? = some r) : topOf g (l.drop k) = topOf (max g r) (l.drop (k + 1)) := by
  have hk : k < l.length := (List.getElem?_eq_some_iff.1 hr).1
  rw [List.drop_eq_getElem_cons hk, (List.getElem?_eq_some_iff.1 hr).2]; rfl
set_option maxHeartbeats 6400000 in
theorem idsGiven_any (t : WV) (s : WS) (w : World) (hw : WldR w t s) : Calls Tryz.prog 77 #[.agg #[.int .i64 t.now, .int .i64 t.span, .int .i64 t.kind, .int .i64 t.limit, .int .i64 t.next, .int .i64 t.lease.c, .int .i64 t.lease.m, .int .i64 t.lease.p, s.ep, s.po, s.ta, s.no, s.bi, s.wa, s.en, .int .i64 t.seen, s.ins, s.ms]] w fun e w' => e = .returned (.bool (idsGiven t)) ∧ Below w.heap.size w w' := by
  obtain ⟨A0, A1, A2, A3, A4, A5, A6, A7, A8, c0, c1, c2, c3, c4, c5, c6, c7, c8, rfl⟩ := hw.form
  have HW := Lib.hid hw
  have hl0 := hw.clu.2.2.2.2.1
  have hl1 := hw.small.2.2.1
  have hl2 := hw.small.2.2.2.2.1
  have hl3 := hw.small.2.2.2.2.2
  have HE := Lib.hid (show idsGiven t = decide (topOf (topOf (topOf (topOf 0 (t.clu.nodes.map NV.id)) (t.wants.map BV.task)) (t.insts.map RV.c)) (t.msgs.map MV.i) < t.next) from rfl)
  generalize idsGiven t = ok at *
  clear hw
  go_enter Tryz.func77, Tryz.ntmps77
  go_wp2_with fail
  go_loopw [3, 16] (fun s3 s16 wr => ∃ (k : Nat) (g : Int), k ≤ t.clu.nodes.length ∧ s16 = .int .i64 k ∧ s3 = .int .i64 g ∧ topOf 0 (t.clu.nodes.map NV.id) = topOf g ((t.clu.nodes.map NV.id).drop k) ∧ BlockIs wr w.heap.size 39 #[.int .i64 t.now, .int .i64 t.span, .int .i64 t.kind, .int .i64 t.limit, .int .i64 t.next, .int .i64 t.lease.c, .int .i64 t.lease.m, .int .i64 t.lease.p, .slice A0 t.epochs.length c0, .slice A1 t.pools.length c1, .slice A2 t.clu.tasks.length c2, .slice A3 t.clu.nodes.length c3, .slice A4 t.clu.binds.length c4, .slice A5 t.wants.length c5, .slice A6 t.ends.length c6, .int .i64 t.seen, .slice A7 t.insts.length c7, .slice A8 t.msgs.length c8] ∧ Below w.heap.size w wr) (fun _ s16 _ => (t.clu.nodes.length - RowKit.intOf s16).toNat)
  case atStart => exact ⟨0, 0, by omega, rfl, rfl, by rw [List.drop_zero], BlockIs.new w _ _, (by repeat' (first | exact Below.refl _ _ | refine Below.alloc ?_ ?_ _ | refine Below.setCell ?_ ?_ _ | refine Below.drew ?_ | (apply below_step; assumption) | (simp; done) | (simp; omega) | omega))⟩
  case round =>
    obtain ⟨k, g0, hk, rfl, rfl, hall, hblk, hB⟩ := hrel
    have HBK := Lib.hid hblk
    have hbl := hblk.lt
    have hzr := hB.size
    have wx := hblk.cell 13
    simp at wx
    clear hblk
    by_cases hlt : k < t.clu.nodes.length
    · obtain ⟨A, c, e0, hA⟩ := (HW.out.clu.2.1).form
      obtain ⟨b, off, rfl, hbw, hat⟩ := hA (by omega)
      simp only [Value.slice.injEq] at e0
      obtain ⟨rfl, -, rfl⟩ := e0
      obtain ⟨r, hr⟩ : ∃ r, t.clu.nodes[k]? = some r := ⟨_, List.getElem?_eq_getElem hlt⟩
      obtain ⟨cs, hR, hC⟩ := (hat.below NodeR.kept hB hbw) k r hr
      obtain ⟨u1, u2, rfl, s1, s2, _, _⟩ := hR
      obtain ⟨E1, d1, rfl, _⟩ := s1.form
      obtain ⟨E2, d2, rfl, _⟩ := s2.form
      obtain ⟨q0, q1, q2, q3, q4, q5, q6, q7⟩ := node_cells hC
      clear s1 s2
      have hlti : (k : Int) < (t.clu.nodes.length : Int) := by omega
      have HST := Lib.hid (hall.trans (topOf_step (r := r.id) (by rw [List.getElem?_map, hr]; rfl)))
      clear hat hr hall hA hC
      have hX : Below wr.heap.size wr (wr.alloc (.cells #[.int .i64 r.id, .int .i64 r.pool, .int .i64 r.cap.c, .int .i64 r.cap.m, .int .i64 r.cap.p, .slice E1 r.labs.length d1, .slice E2 r.taints.length d2, .bool r.cordon] 78)) := (by repeat' (first | exact Below.refl _ _ | refine Below.alloc ?_ ?_ _ | refine Below.setCell ?_ ?_ _ | refine Below.drew ?_ | (apply below_step; assumption) | (simp; done) | (simp; omega) | omega))
      have HX := Lib.hid hX
      clear hX
      go_wp2_with fail
      go_roundw
      case rel => exact ⟨k + 1, _, by omega, by go_num, rfl, by rw [HST.out]; first | rfl | (congr 1; omega), HBK.out.below HX.out HBK.out.lt, hB.trans (HX.out.mono hzr)⟩
      case measure => simp [RowKit.intOf]; omega
    · obtain rfl : k = t.clu.nodes.length := by omega
      have hgq : topOf 0 (t.clu.nodes.map NV.id) = g0 := by rw [hall, List.drop_of_length_le (by simp)]; rfl
      have HGQ0 := Lib.hid hgq
      have HBX := HBK
      have hBX := hB
      clear hall hgq
      go_wp2_with fail
      go_loopw [3, 28] (fun s3 s28 wr => ∃ (k : Nat) (g : Int), k ≤ t.wants.length ∧ s28 = .int .i64 k ∧ s3 = .int .i64 g ∧ topOf g0 (t.wants.map BV.task) = topOf g ((t.wants.map BV.task).drop k) ∧ BlockIs wr w.heap.size 39 #[.int .i64 t.now, .int .i64 t.span, .int .i64 t.kind, .int .i64 t.limit, .int .i64 t.next, .int .i64 t.lease.c, .int .i64 t.lease.m, .int .i64 t.lease.p, .slice A0 t.epochs.length c0, .slice A1 t.pools.length c1, .slice A2 t.clu.tasks.length c2, .slice A3 t.clu.nodes.length c3, .slice A4 t.clu.binds.length c4, .slice A5 t.wants.length c5, .slice A6 t.ends.length c6, .int .i64 t.seen, .slice A7 t.insts.length c7, .slice A8 t.msgs.length c8] ∧ Below w.heap.size w wr) (fun _ s28 _ => (t.wants.length - RowKit.intOf s28).toNat)
      case atStart => exact ⟨0, g0, by omega, rfl, rfl, by rw [List.drop_zero], HBX.out, hBX⟩
      case round =>
        obtain ⟨k, g1, hk, rfl, rfl, hall, hblk, hB⟩ := hrel
        have HBK := Lib.hid hblk
        have hbl := hblk.lt
        have hzr := hB.size
        have wx := hblk.cell 16
        simp at wx
        clear hblk
        by_cases hlt : k < t.wants.length
        · obtain ⟨A, c, e0, hA⟩ := (HW.out.wa).form
          obtain ⟨b, off, rfl, hbw, hat⟩ := hA (by omega)
          simp only [Value.slice.injEq] at e0
          obtain ⟨rfl, -, rfl⟩ := e0
          obtain ⟨r, hr⟩ : ∃ r, t.wants[k]? = some r := ⟨_, List.getElem?_eq_getElem hlt⟩
          obtain ⟨cs, hR, hC⟩ := (hat.below WantR.kept hB hbw) k r hr
          obtain rfl := hR
          obtain ⟨q0, q1⟩ := want_cells hC
          have hlti : (k : Int) < (t.wants.length : Int) := by omega
          have HST := Lib.hid (hall.trans (topOf_step (r := r.task) (by rw [List.getElem?_map, hr]; rfl)))
          clear hat hr hall hA hC
          have hX : Below wr.heap.size wr (wr.alloc (.cells #[.int .i64 r.task, .int .i64 r.node] 112)) := (by repeat' (first | exact Below.refl _ _ | refine Below.alloc ?_ ?_ _ | refine Below.setCell ?_ ?_ _ | refine Below.drew ?_ | (apply below_step; assumption) | (simp; done) | (simp; omega) | omega))
          have HX := Lib.hid hX
          clear hX
          go_wp2_with fail
          go_roundw
          case rel => exact ⟨k + 1, _, by omega, by go_num, rfl, by rw [HST.out]; first | rfl | (congr 1; omega), HBK.out.below HX.out HBK.out.lt, hB.trans (HX.out.mono hzr)⟩
          case measure => simp [RowKit.intOf]; omega
        · obtain rfl : k = t.wants.length := by omega
          have hgq : topOf g0 (t.wants.map BV.task) = g1 := by rw [hall, List.drop_of_length_le (by simp)]; rfl
          have HGQ1 := Lib.hid hgq
          have HBX := HBK
          have hBX := hB
          clear hall hgq
          go_wp2_with fail
          go_loopw [3, 41] (fun s3 s41 wr => ∃ (k : Nat) (g : Int), k ≤ t.insts.length ∧ s41 = .int .i64 k ∧ s3 = .int .i64 g ∧ topOf g1 (t.insts.map RV.c) = topOf g ((t.insts.map RV.c).drop k) ∧ BlockIs wr w.heap.size 39 #[.int .i64 t.now, .int .i64 t.span, .int .i64 t.kind, .int .i64 t.limit, .int .i64 t.next, .int .i64 t.lease.c, .int .i64 t.lease.m, .int .i64 t.lease.p, .slice A0 t.epochs.length c0, .slice A1 t.pools.length c1, .slice A2 t.clu.tasks.length c2, .slice A3 t.clu.nodes.length c3, .slice A4 t.clu.binds.length c4, .slice A5 t.wants.length c5, .slice A6 t.ends.length c6, .int .i64 t.seen, .slice A7 t.insts.length c7, .slice A8 t.msgs.length c8] ∧ Below w.heap.size w wr) (fun _ s41 _ => (t.insts.length - RowKit.intOf s41).toNat)
          case atStart => exact ⟨0, g1, by omega, rfl, rfl, by rw [List.drop_zero], HBX.out, hBX⟩
          case round =>
            obtain ⟨k, g2, hk, rfl, rfl, hall, hblk, hB⟩ := hrel
            have HBK := Lib.hid hblk
            have hbl := hblk.lt
            have hzr := hB.size
            have wx := hblk.cell 17
            simp at wx
            clear hblk
            by_cases hlt : k < t.insts.length
            · obtain ⟨A, c, e0, hA⟩ := (HW.out.ins).form
              obtain ⟨b, off, rfl, hbw, hat⟩ := hA (by omega)
              simp only [Value.slice.injEq] at e0
              obtain ⟨rfl, -, rfl⟩ := e0
              obtain ⟨r, hr⟩ : ∃ r, t.insts[k]? = some r := ⟨_, List.getElem?_eq_getElem hlt⟩
              obtain ⟨q0, q1, q2⟩ := (hat.below hB hbw) k r hr
              have hlti : (k : Int) < (t.insts.length : Int) := by omega
              have HST := Lib.hid (hall.trans (topOf_step (r := r.c) (by rw [List.getElem?_map, hr]; rfl)))
              clear hat hr hall hA 
              have hX : Below wr.heap.size wr (wr.alloc (.cells #[.int .i64 r.c, .int .i64 r.m, .int .i64 r.p] 114)) := (by repeat' (first | exact Below.refl _ _ | refine Below.alloc ?_ ?_ _ | refine Below.setCell ?_ ?_ _ | refine Below.drew ?_ | (apply below_step; assumption) | (simp; done) | (simp; omega) | omega))
              have HX := Lib.hid hX
              clear hX
              go_wp2_with fail
              go_roundw
              case rel => exact ⟨k + 1, _, by omega, by go_num, rfl, by rw [HST.out]; first | rfl | (congr 1; omega), HBK.out.below HX.out HBK.out.lt, hB.trans (HX.out.mono hzr)⟩
              case measure => simp [RowKit.intOf]; omega
            · obtain rfl : k = t.insts.length := by omega
              have hgq : topOf g1 (t.insts.map RV.c) = g2 := by rw [hall, List.drop_of_length_le (by simp)]; rfl
              have HGQ2 := Lib.hid hgq
              have HBX := HBK
              have hBX := hB
              clear hall hgq
              go_wp2_with fail
              go_loopw [3, 53] (fun s3 s53 wr => ∃ (k : Nat) (g : Int), k ≤ t.msgs.length ∧ s53 = .int .i64 k ∧ s3 = .int .i64 g ∧ topOf g2 (t.msgs.map MV.i) = topOf g ((t.msgs.map MV.i).drop k) ∧ BlockIs wr w.heap.size 39 #[.int .i64 t.now, .int .i64 t.span, .int .i64 t.kind, .int .i64 t.limit, .int .i64 t.next, .int .i64 t.lease.c, .int .i64 t.lease.m, .int .i64 t.lease.p, .slice A0 t.epochs.length c0, .slice A1 t.pools.length c1, .slice A2 t.clu.tasks.length c2, .slice A3 t.clu.nodes.length c3, .slice A4 t.clu.binds.length c4, .slice A5 t.wants.length c5, .slice A6 t.ends.length c6, .int .i64 t.seen, .slice A7 t.insts.length c7, .slice A8 t.msgs.length c8] ∧ Below w.heap.size w wr) (fun _ s53 _ => (t.msgs.length - RowKit.intOf s53).toNat)
              case atStart => exact ⟨0, g2, by omega, rfl, rfl, by rw [List.drop_zero], HBX.out, hBX⟩
              case round =>
                obtain ⟨k, g3, hk, rfl, rfl, hall, hblk, hB⟩ := hrel
                have HBK := Lib.hid hblk
                have hbl := hblk.lt
                have hzr := hB.size
                have wx := hblk.cell 4
                simp at wx
                clear hblk
                by_cases hlt : k < t.msgs.length
                · obtain ⟨A, c, e0, hA⟩ := (HW.out.ms).form
                  obtain ⟨b, off, rfl, hbw, hat⟩ := hA (by omega)
                  simp only [Value.slice.injEq] at e0
                  obtain ⟨rfl, -, rfl⟩ := e0
                  obtain ⟨r, hr⟩ : ∃ r, t.msgs[k]? = some r := ⟨_, List.getElem?_eq_getElem hlt⟩
                  obtain ⟨cs, hR, hC⟩ := (hat.below MsgR.kept hB hbw) k r hr
                  obtain rfl := hR
                  obtain ⟨q0, q1, q2, q3⟩ := msg_cells hC
                  have hlti : (k : Int) < (t.msgs.length : Int) := by omega
                  have HST := Lib.hid (hall.trans (topOf_step (r := r.i) (by rw [List.getElem?_map, hr]; rfl)))
                  clear hat hr hall hA hC
                  have hX : Below wr.heap.size wr (wr.alloc (.cells #[.int .i64 r.k, .int .i64 r.e, .int .i64 r.i, .int .i64 r.p] 107)) := (by repeat' (first | exact Below.refl _ _ | refine Below.alloc ?_ ?_ _ | refine Below.setCell ?_ ?_ _ | refine Below.drew ?_ | (apply below_step; assumption) | (simp; done) | (simp; omega) | omega))
                  have HX := Lib.hid hX
                  clear hX
                  go_wp2_with fail
                  go_roundw
                  case rel => exact ⟨k + 1, _, by omega, by go_num, rfl, by rw [HST.out]; first | rfl | (congr 1; omega), HBK.out.below HX.out HBK.out.lt, hB.trans (HX.out.mono hzr)⟩
                  case measure => simp [RowKit.intOf]; omega
                · obtain rfl : k = t.msgs.length := by omega
                  have hgq : topOf g2 (t.msgs.map MV.i) = g3 := by rw [hall, List.drop_of_length_le (by simp)]; rfl
                  have HGQ3 := Lib.hid hgq
                  have HBX := HBK
                  have hBX := hB
                  clear hall hgq
                  go_wp2_with fail
                  go_ret
                  refine ⟨?_, hBX⟩
                  rw [HE.out, HGQ0.out, HGQ1.out, HGQ2.out, HGQ3.out]; simp
set_option maxHeartbeats 6400000 in
theorem WorldOk_any (t : WV) (s : WS) (w : World) (x : Addr) (hg : ErrAt x w) (hw : WldR w t s) : Calls Tryz.prog 19 #[.agg #[.int .i64 t.now, .int .i64 t.span, .int .i64 t.kind, .int .i64 t.limit, .int .i64 t.next, .int .i64 t.lease.c, .int .i64 t.lease.m, .int .i64 t.lease.p, s.ep, s.po, s.ta, s.no, s.bi, s.wa, s.en, .int .i64 t.seen, s.ins, s.ms]] w fun e w' => e = .returned (.bool (worldOk t)) ∧ Below w.heap.size w w' := by
  obtain ⟨A0, A1, A2, A3, A4, A5, A6, A7, A8, c0, c1, c2, c3, c4, c5, c6, c7, c8, rfl⟩ := hw.form
  have HW := Lib.hid hw
  have HG := Lib.hid hg
  have h1 := fun s w => settingsOk_any t s w
  have h2 := fun w => LeaseOk_any t.lease w
  have h3 := fun v w hg hv => PoolsOk_any v t.pools w x hg hv hw.small.2.1
  have h4 := fun a0 a1 a2 w hg hc => ClusterOk_any t.clu a0 a1 a2 w x hg hc
  have h5 := fun v w hv => ProvOk_any t.seen v t.insts w hv
  have h6 := fun s w hw => epochsOk_any t s w hw
  have h7 := fun s w hw => wantsOk_any t s w hw
  have h8 := fun s w hw => endsOk_any t s w hw
  have h9 := fun s w hw => msgsOk_any t s w hw
  have ha := fun s w hw => idsGiven_any t s w hw
  have hE : worldOk t = (settingsOk t && leaseOk t.lease && poolsOk t.pools && clusterOk t.clu && provOk t.seen t.insts && epochsOk t && wantsOk t && endsOk t && msgsOk t && idsGiven t) := rfl
  generalize worldOk t = ok at *
  generalize settingsOk t = b1 at *
  generalize leaseOk t.lease = b2 at *
  generalize poolsOk t.pools = b3 at *
  generalize clusterOk t.clu = b4 at *
  generalize provOk t.seen t.insts = b5 at *
  generalize epochsOk t = b6 at *
  generalize wantsOk t = b7 at *
  generalize endsOk t = b8 at *
  generalize msgsOk t = b9 at *
  generalize idsGiven t = ba at *
  have HE := Lib.hid hE
  have H1 := Lib.hid h1
  have H2 := Lib.hid h2
  have H3 := Lib.hid h3
  have H4 := Lib.hid h4
  have H5 := Lib.hid h5
  have H6 := Lib.hid h6
  have H7 := Lib.hid h7
  have H8 := Lib.hid h8
  have H9 := Lib.hid h9
  have Ha := Lib.hid ha
  clear h1 h2 h3 h4 h5 h6 h7 h8 h9 ha hE hw hg
  go_enter Tryz.func19, Tryz.ntmps19
  have HB := Lib.hid (BlockIs.new w 39 #[.int .i64 t.now, .int .i64 t.span, .int .i64 t.kind, .int .i64 t.limit, .int .i64 t.next, .int .i64 t.lease.c, .int .i64 t.lease.m, .int .i64 t.lease.p, .slice A0 t.epochs.length c0, .slice A1 t.pools.length c1, .slice A2 t.clu.tasks.length c2, .slice A3 t.clu.nodes.length c3, .slice A4 t.clu.binds.length c4, .slice A5 t.wants.length c5, .slice A6 t.ends.length c6, .int .i64 t.seen, .slice A7 t.insts.length c7, .slice A8 t.msgs.length c8])
  have hX : Below w.heap.size w (w.alloc (.cells #[.int .i64 t.now, .int .i64 t.span, .int .i64 t.kind, .int .i64 t.limit, .int .i64 t.next, .int .i64 t.lease.c, .int .i64 t.lease.m, .int .i64 t.lease.p, .slice A0 t.epochs.length c0, .slice A1 t.pools.length c1, .slice A2 t.clu.tasks.length c2, .slice A3 t.clu.nodes.length c3, .slice A4 t.clu.binds.length c4, .slice A5 t.wants.length c5, .slice A6 t.ends.length c6, .int .i64 t.seen, .slice A7 t.insts.length c7, .slice A8 t.msgs.length c8] 39)) := (by repeat' (first | exact Below.refl _ _ | refine Below.alloc ?_ ?_ _ | refine Below.setCell ?_ ?_ _ | refine Below.drew ?_ | (apply below_step; assumption) | (simp; done) | (simp; omega) | omega))
  go_wp2_with (refine wpList_load_row rfl 39 _ rfl _ rfl 39 _ (0, 0) _ HB.out Tryz.underlying39 rfl (by kernel_rfl) ?_)
  refine (H1.out ⟨.slice A0 t.epochs.length c0, .slice A1 t.pools.length c1, .slice A2 t.clu.tasks.length c2, .slice A3 t.clu.nodes.length c3, .slice A4 t.clu.binds.length c4, .slice A5 t.wants.length c5, .slice A6 t.ends.length c6, .slice A7 t.insts.length c7, .slice A8 t.msgs.length c8⟩ _).mono ?_
  rintro e w1 ⟨rfl, hb1⟩
  have hC1 := below_of hX hb1
  have B1 := HB.out.below hb1 HB.out.lt
  have x5 := B1.cell 5
  have x6 := B1.cell 6
  have x7 := B1.cell 7
  simp at x5 x6 x7
  have HB := Lib.hid B1
  clear B1 hb1
  cases b1
  · go_wp2_with fail
    go_ret
    exact ⟨by rw [HE.out]; simp, hC1⟩
  go_wp2_with fail
  refine (H2.out _).mono ?_
  rintro e w2 ⟨rfl, hb2⟩
  have hC2 := below_of hC1 hb2
  have B2 := HB.out.below hb2 HB.out.lt
  have x9 := B2.cell 9
  simp at x9
  have HB := Lib.hid B2
  clear B2 hb2
  cases b2
  · go_wp2_with fail
    go_ret
    exact ⟨by rw [HE.out]; simp, hC2⟩
  go_wp2_with fail
  refine (H3.out _ _ (HG.out.below hC2 (Nat.le_refl _)) (HW.out.below hC2).po).mono ?_
  rintro e w3 ⟨rfl, hb3⟩
  have hC3 := below_of hC2 hb3
  have B3 := HB.out.below hb3 HB.out.lt
  have x10 := B3.cell 10
  have x11 := B3.cell 11
  have x12 := B3.cell 12
  simp at x10 x11 x12
  have HB := Lib.hid B3
  clear B3 hb3
  cases b3
  · go_wp2_with fail
    go_ret
    exact ⟨by rw [HE.out]; simp, hC3⟩
  go_wp2_with fail
  refine (H4.out _ _ _ _ (HG.out.below hC3 (Nat.le_refl _)) (HW.out.below hC3).clu).mono ?_
  rintro e w4 ⟨rfl, hb4⟩
  have hC4 := below_of hC3 hb4
  have B4 := HB.out.below hb4 HB.out.lt
  have x15 := B4.cell 15
  have x16 := B4.cell 16
  simp at x15 x16
  have HB := Lib.hid B4
  clear B4 hb4
  cases b4
  · go_wp2_with fail
    go_ret
    exact ⟨by rw [HE.out]; simp, hC4⟩
  go_wp2_with fail
  refine (H5.out _ _ (HW.out.below hC4).ins).mono ?_
  rintro e w5 ⟨rfl, hb5⟩
  have hC5 := below_of hC4 hb5
  have B5 := HB.out.below hb5 HB.out.lt
  have HB := Lib.hid B5
  clear B5 hb5
  cases b5
  · go_wp2_with fail
    go_ret
    exact ⟨by rw [HE.out]; simp, hC5⟩
  go_wp2_with (refine wpList_load_rowG rfl 39 _ rfl _ rfl 39 _ (0, 0) _ HB.out Tryz.underlying39 rfl (by kernel_rfl) ?_)
  refine (H6.out _ _ (HW.out.below hC5)).mono ?_
  rintro e w6 ⟨rfl, hb6⟩
  have hC6 := below_of hC5 hb6
  have B6 := HB.out.below hb6 HB.out.lt
  have HB := Lib.hid B6
  clear B6 hb6
  cases b6
  · go_wp2_with fail
    go_ret
    exact ⟨by rw [HE.out]; simp, hC6⟩
  go_wp2_with (refine wpList_load_rowG rfl 39 _ rfl _ rfl 39 _ (0, 0) _ HB.out Tryz.underlying39 rfl (by kernel_rfl) ?_)
  refine (H7.out _ _ (HW.out.below hC6)).mono ?_
  rintro e w7 ⟨rfl, hb7⟩
  have hC7 := below_of hC6 hb7
  have B7 := HB.out.below hb7 HB.out.lt
  have HB := Lib.hid B7
  clear B7 hb7
  cases b7
  · go_wp2_with fail
    go_ret
    exact ⟨by rw [HE.out]; simp, hC7⟩
  go_wp2_with (refine wpList_load_rowG rfl 39 _ rfl _ rfl 39 _ (0, 0) _ HB.out Tryz.underlying39 rfl (by kernel_rfl) ?_)
  refine (H8.out _ _ (HW.out.below hC7)).mono ?_
  rintro e w8 ⟨rfl, hb8⟩
  have hC8 := below_of hC7 hb8
  have B8 := HB.out.below hb8 HB.out.lt
  have HB := Lib.hid B8
  clear B8 hb8
  cases b8
  · go_wp2_with fail
    go_ret
    exact ⟨by rw [HE.out]; simp, hC8⟩
  go_wp2_with (refine wpList_load_rowG rfl 39 _ rfl _ rfl 39 _ (0, 0) _ HB.out Tryz.underlying39 rfl (by kernel_rfl) ?_)
  refine (H9.out _ _ (HW.out.below hC8)).mono ?_
  rintro e w9 ⟨rfl, hb9⟩
  have hC9 := below_of hC8 hb9
  have B9 := HB.out.below hb9 HB.out.lt
  have HB := Lib.hid B9
  clear B9 hb9
  cases b9
  · go_wp2_with fail
    go_ret
    exact ⟨by rw [HE.out]; simp, hC9⟩
  go_wp2_with (refine wpList_load_rowG rfl 39 _ rfl _ rfl 39 _ (0, 0) _ HB.out Tryz.underlying39 rfl (by kernel_rfl) ?_)
  refine (Ha.out _ _ (HW.out.below hC9)).mono ?_
  rintro e wa ⟨rfl, hba⟩
  have hCa := below_of hC9 hba
  have Ba := HB.out.below hba HB.out.lt
  have HB := Lib.hid Ba
  clear Ba hba
  go_wp2_with fail
  go_ret
  exact ⟨by rw [HE.out]; simp, hCa⟩
def leadFrom (t : WV) : Nat → List Int → Int
  | _, [] => 0
  | k, e :: r => if leaseHolds t.lease (k + 1) e t.now then k + 1 else leadFrom t (k + 1) r
def leaderB (t : WV) : Int := leadFrom t 0 t.epochs
def leaderG (t : WV) : Int := if worldOk t then leaderB t else 0
theorem leadFrom_step {t : WV} {k : Nat} {e : Int} (h : t.epochs[k]? = some e) : leadFrom t k (t.epochs.drop k) = if leaseHolds t.lease (k + 1) e t.now then (k : Int) + 1 else leadFrom t (k + 1) (t.epochs.drop (k + 1)) := by
  have hk : k < t.epochs.length := (List.getElem?_eq_some_iff.1 h).1
  rw [List.drop_eq_getElem_cons hk, (List.getElem?_eq_some_iff.1 h).2]; rfl
set_option maxHeartbeats 3200000 in
theorem leads_any (t : WV) (s : WS) (k : Nat) (z r : Int) (w : World) (hw : WldR w t s) (hr : t.epochs[k]? = some r) (hsub : z - 1 = (k : Int)) : Calls Tryz.prog 79 #[.agg #[.int .i64 t.now, .int .i64 t.span, .int .i64 t.kind, .int .i64 t.limit, .int .i64 t.next, .int .i64 t.lease.c, .int .i64 t.lease.m, .int .i64 t.lease.p, s.ep, s.po, s.ta, s.no, s.bi, s.wa, s.en, .int .i64 t.seen, s.ins, s.ms], .int .i64 z] w fun e w' => e = .returned (.bool (leaseHolds t.lease z r t.now)) ∧ Below w.heap.size w w' := by
  obtain ⟨A0, A1, A2, A3, A4, A5, A6, A7, A8, c0, c1, c2, c3, c4, c5, c6, c7, c8, rfl⟩ := hw.form
  have hk : k < t.epochs.length := (List.getElem?_eq_some_iff.1 hr).1
  have hlen := hw.small.1
  obtain ⟨A, c, e0, hA⟩ := hw.ep.form
  obtain ⟨b, off, rfl, hbw, hat⟩ := hA (by omega)
  simp only [Value.slice.injEq] at e0
  obtain ⟨rfl, -, rfl⟩ := e0
  have q0 := hat k r hr
  have hh := fun w => LeaseHolds_any t.lease z r t.now w
  generalize leaseHolds t.lease z r t.now = ok at *
  have HH := Lib.hid hh
  have hki : (k : Int) < (t.epochs.length : Int) := by omega
  have hk0 : (0 : Int) ≤ (k : Int) := by omega
  have hwr : IntKind.i64.wrap (z - 1) = (k : Int) := by rw [IntKind.wrap_i64]; omega
  clear hw hA hat hr hh hk hsub
  go_enter Tryz.func79, Tryz.ntmps79
  go_wp2_with fail
  have hX : Below w.heap.size w (w.alloc (.cells #[.int .i64 t.now, .int .i64 t.span, .int .i64 t.kind, .int .i64 t.limit, .int .i64 t.next, .int .i64 t.lease.c, .int .i64 t.lease.m, .int .i64 t.lease.p, .slice (some ⟨b, off, none⟩) t.epochs.length c0, .slice A1 t.pools.length c1, .slice A2 t.clu.tasks.length c2, .slice A3 t.clu.nodes.length c3, .slice A4 t.clu.binds.length c4, .slice A5 t.wants.length c5, .slice A6 t.ends.length c6, .int .i64 t.seen, .slice A7 t.insts.length c7, .slice A8 t.msgs.length c8] 39)) := (by repeat' (first | exact Below.refl _ _ | refine Below.alloc ?_ ?_ _ | refine Below.setCell ?_ ?_ _ | refine Below.drew ?_ | (apply below_step; assumption) | (simp; done) | (simp; omega) | omega))
  have B := (BlockIs.new w 39 #[.int .i64 t.now, .int .i64 t.span, .int .i64 t.kind, .int .i64 t.limit, .int .i64 t.next, .int .i64 t.lease.c, .int .i64 t.lease.m, .int .i64 t.lease.p, .slice (some ⟨b, off, none⟩) t.epochs.length c0, .slice A1 t.pools.length c1, .slice A2 t.clu.tasks.length c2, .slice A3 t.clu.nodes.length c3, .slice A4 t.clu.binds.length c4, .slice A5 t.wants.length c5, .slice A6 t.ends.length c6, .int .i64 t.seen, .slice A7 t.insts.length c7, .slice A8 t.msgs.length c8])
  have q1 : (w.alloc (.cells #[.int .i64 t.now, .int .i64 t.span, .int .i64 t.kind, .int .i64 t.limit, .int .i64 t.next, .int .i64 t.lease.c, .int .i64 t.lease.m, .int .i64 t.lease.p, .slice (some ⟨b, off, none⟩) t.epochs.length c0, .slice A1 t.pools.length c1, .slice A2 t.clu.tasks.length c2, .slice A3 t.clu.nodes.length c3, .slice A4 t.clu.binds.length c4, .slice A5 t.wants.length c5, .slice A6 t.ends.length c6, .int .i64 t.seen, .slice A7 t.insts.length c7, .slice A8 t.msgs.length c8] 39)).cell? ⟨b, off + k, none⟩ = some (.int .i64 r) := (World.cell?_alloc_lt _ _ _ hbw).trans q0
  have hY := World.block_lt_of_cell? _ _ q1
  have HX := Lib.hid hX
  clear hX q0
  generalize (w.alloc (.cells #[.int .i64 t.now, .int .i64 t.span, .int .i64 t.kind, .int .i64 t.limit, .int .i64 t.next, .int .i64 t.lease.c, .int .i64 t.lease.m, .int .i64 t.lease.p, .slice (some ⟨b, off, none⟩) t.epochs.length c0, .slice A1 t.pools.length c1, .slice A2 t.clu.tasks.length c2, .slice A3 t.clu.nodes.length c3, .slice A4 t.clu.binds.length c4, .slice A5 t.wants.length c5, .slice A6 t.ends.length c6, .int .i64 t.seen, .slice A7 t.insts.length c7, .slice A8 t.msgs.length c8] 39)) = Y at *
  have hwb := B.lt
  have x0 := B.cell 0
  have x5 := B.cell 5
  have x6 := B.cell 6
  have x7 := B.cell 7
  have x8 := B.cell 8
  simp at x0 x5 x6 x7 x8
  clear B
  have HK := Lib.hid (show ∀ w', Below Y.heap.size Y w' → Below Y.heap.size Y w' ∧ w'.cell? ⟨b, off + k, none⟩ = some (.int .i64 r) ∧ w'.cell? ⟨w.heap.size, 0, none⟩ = some (.int .i64 t.now) ∧ w'.cell? ⟨w.heap.size, 5, none⟩ = some (.int .i64 t.lease.c) ∧ w'.cell? ⟨w.heap.size, 6, none⟩ = some (.int .i64 t.lease.m) ∧ w'.cell? ⟨w.heap.size, 7, none⟩ = some (.int .i64 t.lease.p) ∧ w'.cell? ⟨w.heap.size, 8, none⟩ = some (.slice (some ⟨b, off, none⟩) t.epochs.length c0) from
    fun w' hb => ⟨hb, (hb.cell (p := ⟨b, _, none⟩) hY).trans q1, (hb.cell (p := ⟨w.heap.size, _, none⟩) hwb).trans x0, (hb.cell (p := ⟨w.heap.size, _, none⟩) hwb).trans x5, (hb.cell (p := ⟨w.heap.size, _, none⟩) hwb).trans x6, (hb.cell (p := ⟨w.heap.size, _, none⟩) hwb).trans x7, (hb.cell (p := ⟨w.heap.size, _, none⟩) hwb).trans x8⟩)
  clear hY x0 x5 x6 x7 x8 q1
  refine wp_region_held_drew (S := (fun w' => Below Y.heap.size Y w' ∧ w'.cell? ⟨b, off + k, none⟩ = some (.int .i64 r) ∧ w'.cell? ⟨w.heap.size, 0, none⟩ = some (.int .i64 t.now) ∧ w'.cell? ⟨w.heap.size, 5, none⟩ = some (.int .i64 t.lease.c) ∧ w'.cell? ⟨w.heap.size, 6, none⟩ = some (.int .i64 t.lease.m) ∧ w'.cell? ⟨w.heap.size, 7, none⟩ = some (.int .i64 t.lease.p) ∧ w'.cell? ⟨w.heap.size, 8, none⟩ = some (.slice (some ⟨b, off, none⟩) t.epochs.length c0))) (by kernel_rfl) (by (try dsimp only); exact HK.out _ (by repeat' (first | exact Below.refl _ _ | refine Below.alloc ?_ ?_ _ | refine Below.setCell ?_ ?_ _ | refine Below.drew ?_ | (apply below_step; assumption) | (simp; done) | (simp; omega) | omega))) (fun hHeld => ?_)
  refine hT 0 ?_; simp only [Act.put, rhA, rhS, rhT]
  refine hT 1 ?_; simp only [Act.put, rhA, rhS, rhT]
  refine hT 2 ?_; simp only [Act.put, rhA, rhS, rhT]
  refine hT 3 ?_; simp only [Act.put, rhA, rhS, rhT]
  refine hT 4 ?_; simp only [Act.put, rhA, rhS, rhT]
  refine hT 5 ?_; simp only [Act.put, rhA, rhS, rhT]
  refine hT 6 ?_; simp only [Act.put, rhA, rhS, rhT]
  refine hT 7 ?_; simp only [Act.put, rhA, rhS, rhT]
  refine hT 8 ?_; simp only [Act.put, rhA, rhS, rhT]
  refine hT 9 ?_; simp only [Act.put, rhA, rhS, rhT]
  refine hT 10 ?_; simp only [Act.put, rhA, rhS, rhT]
  refine hCall (i := 11) (o := ?a13) ?b13 (by kernel_rfl) ?c13 (fun K hK => ?d13)
  case b13 => simp only [rhN, rhM]; try rfl
  case c13 => rfl
  go_simp
  refine (HH.out _).mono ?_
  rintro e w3 ⟨rfl, hb3⟩
  have hz3 := hb3.size
  (try simp at hz3)
  go_wp2_with fail
  refine hK.out _ _ (by (try dsimp only); exact HK.out _ (by repeat' (first | exact Below.refl _ _ | refine Below.alloc ?_ ?_ _ | refine Below.setCell ?_ ?_ _ | refine Below.drew ?_ | (apply below_step; assumption) | (simp; done) | (simp; omega) | omega))) (fun hHeld => ?_)
  clear hK K
  try simp only [Act.put, rhA, rhS, rhT]
  refine hT 12 ?_; simp only [Act.put, rhA, rhS, rhT]
  refine wpAnyH_done (by kernel_rfl) ?_ _
  all_goals
    go_wp2_with fail
    go_ret
    exact ⟨rfl, below_of HX.out (by repeat' (first | exact Below.refl _ _ | refine Below.alloc ?_ ?_ _ | refine Below.setCell ?_ ?_ _ | refine Below.drew ?_ | (apply below_step; assumption) | (simp; done) | (simp; omega) | omega))⟩
set_option maxHeartbeats 3200000 in
theorem Leader_any (t : WV) (s : WS) (w : World) (x : Addr) (hg : ErrAt x w) (hw : WldR w t s) : Calls Tryz.prog 21 #[.agg #[.int .i64 t.now, .int .i64 t.span, .int .i64 t.kind, .int .i64 t.limit, .int .i64 t.next, .int .i64 t.lease.c, .int .i64 t.lease.m, .int .i64 t.lease.p, s.ep, s.po, s.ta, s.no, s.bi, s.wa, s.en, .int .i64 t.seen, s.ins, s.ms]] w fun e w' => e = .returned (.int .i64 (leaderG t)) ∧ Below w.heap.size w w' := by
  obtain ⟨A0, A1, A2, A3, A4, A5, A6, A7, A8, c0, c1, c2, c3, c4, c5, c6, c7, c8, rfl⟩ := hw.form
  have HW := Lib.hid hw
  have HG := Lib.hid hg
  have hlen := hw.small.1
  have h1 := fun s w hg hw => WorldOk_any t s w x hg hw
  have hE : leaderG t = if worldOk t then leaderB t else 0 := rfl
  generalize leaderG t = ans at *
  generalize worldOk t = ok at *
  have HE := Lib.hid hE
  have H1 := Lib.hid h1
  clear h1 hE hw hg
  go_enter Tryz.func21, Tryz.ntmps21
  have HB := Lib.hid (BlockIs.new w 39 #[.int .i64 t.now, .int .i64 t.span, .int .i64 t.kind, .int .i64 t.limit, .int .i64 t.next, .int .i64 t.lease.c, .int .i64 t.lease.m, .int .i64 t.lease.p, .slice A0 t.epochs.length c0, .slice A1 t.pools.length c1, .slice A2 t.clu.tasks.length c2, .slice A3 t.clu.nodes.length c3, .slice A4 t.clu.binds.length c4, .slice A5 t.wants.length c5, .slice A6 t.ends.length c6, .int .i64 t.seen, .slice A7 t.insts.length c7, .slice A8 t.msgs.length c8])
  have hX : Below w.heap.size w (w.alloc (.cells #[.int .i64 t.now, .int .i64 t.span, .int .i64 t.kind, .int .i64 t.limit, .int .i64 t.next, .int .i64 t.lease.c, .int .i64 t.lease.m, .int .i64 t.lease.p, .slice A0 t.epochs.length c0, .slice A1 t.pools.length c1, .slice A2 t.clu.tasks.length c2, .slice A3 t.clu.nodes.length c3, .slice A4 t.clu.binds.length c4, .slice A5 t.wants.length c5, .slice A6 t.ends.length c6, .int .i64 t.seen, .slice A7 t.insts.length c7, .slice A8 t.msgs.length c8] 39)) := (by repeat' (first | exact Below.refl _ _ | refine Below.alloc ?_ ?_ _ | refine Below.setCell ?_ ?_ _ | refine Below.drew ?_ | (apply below_step; assumption) | (simp; done) | (simp; omega) | omega))
  go_wp2_with (refine wpList_load_row rfl 39 _ rfl _ rfl 39 _ (0, 0) _ HB.out Tryz.underlying39 rfl (by kernel_rfl) ?_)
  refine (H1.out _ _ (HG.out.below hX (Nat.le_refl _)) (HW.out.below hX)).mono ?_
  rintro e w1 ⟨rfl, hb1⟩
  have hC1 := below_of hX hb1
  have B1 := HB.out.below hb1 HB.out.lt
  have x8 := B1.cell 8
  simp at x8
  have HB1 := Lib.hid B1
  clear B1 hb1 HB hX
  cases ok
  · go_wp2_with fail
    go_ret
    exact ⟨by rw [HE.out]; rfl, hC1⟩
  have HE2 := Lib.hid (show ans = leaderB t from HE.out.trans (if_pos rfl))
  go_wp2_with fail
  go_loopw [10] (fun s10 wr => ∃ k : Nat, k ≤ t.epochs.length ∧ s10 = .int .i64 k ∧ leaderB t = leadFrom t k (t.epochs.drop k) ∧ BlockIs wr w.heap.size 39 #[.int .i64 t.now, .int .i64 t.span, .int .i64 t.kind, .int .i64 t.limit, .int .i64 t.next, .int .i64 t.lease.c, .int .i64 t.lease.m, .int .i64 t.lease.p, .slice A0 t.epochs.length c0, .slice A1 t.pools.length c1, .slice A2 t.clu.tasks.length c2, .slice A3 t.clu.nodes.length c3, .slice A4 t.clu.binds.length c4, .slice A5 t.wants.length c5, .slice A6 t.ends.length c6, .int .i64 t.seen, .slice A7 t.insts.length c7, .slice A8 t.msgs.length c8] ∧ Below w.heap.size w wr) (fun s10 _ => (t.epochs.length - RowKit.intOf s10).toNat)
  case atStart => exact ⟨0, by omega, rfl, by rw [List.drop_zero]; rfl, HB1.out, hC1⟩
  case round =>
    obtain ⟨k, hk, rfl, hall, hblk, hB⟩ := hrel
    have HBK := Lib.hid hblk
    have hzr := hB.size
    clear hblk
    by_cases hlt : k < t.epochs.length
    · obtain ⟨r, hr⟩ : ∃ r, t.epochs[k]? = some r := ⟨_, List.getElem?_eq_getElem hlt⟩
      have hlti : (k : Int) < (t.epochs.length : Int) := by omega
      have HL := Lib.hid (fun s w hw => leads_any t s k ((k : Int) + 1) r w hw hr (by omega))
      have HST := Lib.hid (hall.trans (leadFrom_step hr))
      have hwr : IntKind.i64.wrap ((k : Int) + 1) = (k : Int) + 1 := by rw [IntKind.wrap_i64]; omega
      clear hall hr
      go_wp2_with (refine wpList_load_row rfl 39 _ rfl _ rfl 39 _ (0, 0) _ HBK.out Tryz.underlying39 rfl (by kernel_rfl) ?_)
      refine (HL.out _ _ (HW.out.below hB)).mono ?_
      rintro e w3 ⟨rfl, hb3⟩
      have hD3 := hB.trans (hb3.mono hzr)
      have HB3 := Lib.hid (HBK.out.below hb3 HBK.out.lt)
      clear hb3 HBK
      generalize hq : leaseHolds t.lease ((k : Int) + 1) r t.now = q
      have HQ := Lib.hid hq
      clear hq
      cases q
      · go_wp2_with fail
        go_roundw
        case rel => exact ⟨k + 1, by omega, by go_num, by rw [HST.out, HQ.out]; rfl, HB3.out, hD3⟩
        case measure => simp [RowKit.intOf]; omega
      · go_wp2_with fail
        go_ret
        exact ⟨by rw [HE2.out, HST.out, HQ.out]; rfl, hD3⟩
    · obtain rfl : k = t.epochs.length := by omega
      have HF := Lib.hid hall
      clear hall
      go_wp2_with fail
      go_ret
      exact ⟨by rw [HE2.out, HF.out, List.drop_length]; rfl, hB⟩
end Go.Proofs.YtcegofdmdemcbaaGreatDoor
