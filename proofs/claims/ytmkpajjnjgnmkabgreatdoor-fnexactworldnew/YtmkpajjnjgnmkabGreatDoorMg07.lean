/- The contracts of chapter 8's WorldOk, of what it calls, of leads and Leader. (mkworldi.py) The contracts of chapter 8's idsGiven, WorldOk, leads, Leader. (mkworldi2.py) impl.WorldNew: the world that it hands back owns its memory. append of an int to a slice of the call's own. The contracts of the model's ProvOk, MsgOk, l07At, l07State, ProvState, ProvCount. The contracts of the model's MsgOk, l07At, l07State, ProvState, ProvCount. The contracts of the model's l08Has, l08Ids, l08WantIds. -/
import Derived.Test.YtmkpajjnjgnmkabGreatDoorMg06
import Derived.Test.YtmkpajjnjgnmkabGreatDoorMg02
import Derived.Test.YtmkpajjnjgnmkabGreatDoorMg04
import Derived.OwnWalk
import Derived.Deep.RegionHeld3
namespace Go.Proofs.YtmkpajjnjgnmkabGreatDoor
open Go.RowKit

theorem kindOk_any (n : Int) (w : World) : Calls Tryz.prog 101 #[.int .i64 n] w fun e w' => e = .returned (.bool (lWithin n 1 3)) ∧ w = w' := by
  unfold lWithin
  generalize e1 : decide ((1 : Int) ≤ n) = b1
  cases b1
  all_goals
    go_enter Tryz.func101, Tryz.ntmps101
    go_wp2
    go_ret
    exact ⟨by simp, rfl⟩
set_option maxHeartbeats 1600000 in
theorem settingsOk_any (t : WV) (s : WS) (w : World) : Calls Tryz.prog 51 #[.agg #[.int .i64 t.now, .int .i64 t.span, .int .i64 t.kind, .int .i64 t.limit, .int .i64 t.next, .int .i64 t.lease.c, .int .i64 t.lease.m, .int .i64 t.lease.p, s.ep, s.po, s.ta, s.no, s.bi, s.wa, s.en, .int .i64 t.seen, s.ins, s.ms]] w fun e w' => e = .returned (.bool (settingsOk t)) ∧ Below w.heap.size w w' := by
  obtain ⟨v0, v1, v2, v3, v4, v5, v6, v7, v8⟩ := s
  have h1 := fun w => timeOk_any t.now w
  have h2 := fun w => spanOk_any t.span w
  have h3 := fun w => kindOk_any t.kind w
  have h4 := fun w => within_any t.limit 0 1001 w
  have h5 := fun w => within_any t.next 1 100 w
  have HE : settingsOk t = (lWithin t.now 0 100000 && lWithin t.span 1 1000 && lWithin t.kind 1 3 && lWithin t.limit 0 1001 && lWithin t.next 1 100) := rfl
  generalize settingsOk t = ok at *
  generalize lWithin t.now 0 100000 = b1 at *
  generalize lWithin t.span 1 1000 = b2 at *
  generalize lWithin t.kind 1 3 = b3 at *
  generalize lWithin t.limit 0 1001 = b4 at *
  generalize lWithin t.next 1 100 = b5 at *
  have HE := Lib.hid HE
  have H1 := Lib.hid h1
  have H2 := Lib.hid h2
  have H3 := Lib.hid h3
  have H4 := Lib.hid h4
  have H5 := Lib.hid h5
  clear h1 h2 h3 h4 h5
  go_enter Tryz.func51, Tryz.ntmps51
  go_wp2_with fail
  refine (H1.out _).mono ?_
  rintro e w1 ⟨rfl, rfl⟩
  cases b1
  · go_wp2_with fail
    go_ret
    exact ⟨by rw [HE.out]; simp, (by repeat' (first | exact Below.refl _ _ | refine Below.alloc ?_ ?_ _ | refine Below.setCell ?_ ?_ _ | refine Below.drew ?_ | (apply below_step; assumption) | (simp; done) | (simp; omega) | omega))⟩
  go_wp2_with fail
  refine (H2.out _).mono ?_
  rintro e w1 ⟨rfl, rfl⟩
  cases b2
  · go_wp2_with fail
    go_ret
    exact ⟨by rw [HE.out]; simp, (by repeat' (first | exact Below.refl _ _ | refine Below.alloc ?_ ?_ _ | refine Below.setCell ?_ ?_ _ | refine Below.drew ?_ | (apply below_step; assumption) | (simp; done) | (simp; omega) | omega))⟩
  go_wp2_with fail
  refine (H3.out _).mono ?_
  rintro e w1 ⟨rfl, rfl⟩
  cases b3
  · go_wp2_with fail
    go_ret
    exact ⟨by rw [HE.out]; simp, (by repeat' (first | exact Below.refl _ _ | refine Below.alloc ?_ ?_ _ | refine Below.setCell ?_ ?_ _ | refine Below.drew ?_ | (apply below_step; assumption) | (simp; done) | (simp; omega) | omega))⟩
  go_wp2_with fail
  refine (H4.out _).mono ?_
  rintro e w1 ⟨rfl, rfl⟩
  cases b4
  · go_wp2_with fail
    go_ret
    exact ⟨by rw [HE.out]; simp, (by repeat' (first | exact Below.refl _ _ | refine Below.alloc ?_ ?_ _ | refine Below.setCell ?_ ?_ _ | refine Below.drew ?_ | (apply below_step; assumption) | (simp; done) | (simp; omega) | omega))⟩
  go_wp2_with fail
  refine (H5.out _).mono ?_
  rintro e w1 ⟨rfl, rfl⟩
  cases b5
  · go_wp2_with fail
    go_ret
    exact ⟨by rw [HE.out]; simp, (by repeat' (first | exact Below.refl _ _ | refine Below.alloc ?_ ?_ _ | refine Below.setCell ?_ ?_ _ | refine Below.drew ?_ | (apply below_step; assumption) | (simp; done) | (simp; omega) | omega))⟩
  go_wp2_with fail
  go_ret
  exact ⟨by rw [HE.out]; simp, (by repeat' (first | exact Below.refl _ _ | refine Below.alloc ?_ ?_ _ | refine Below.setCell ?_ ?_ _ | refine Below.drew ?_ | (apply below_step; assumption) | (simp; done) | (simp; omega) | omega))⟩
set_option maxHeartbeats 1600000 in
theorem isNodeW_any (t : WV) (s : WS) (z : Int) (w : World) (hw : WldR w t s) : Calls Tryz.prog 112 #[.agg #[.int .i64 t.now, .int .i64 t.span, .int .i64 t.kind, .int .i64 t.limit, .int .i64 t.next, .int .i64 t.lease.c, .int .i64 t.lease.m, .int .i64 t.lease.p, s.ep, s.po, s.ta, s.no, s.bi, s.wa, s.en, .int .i64 t.seen, s.ins, s.ms], .int .i64 z] w fun e w' => e = .returned (.bool (hasNode t.clu z)) ∧ Below w.heap.size w w' := by
  obtain ⟨A0, A1, A2, A3, A4, A5, A6, A7, A8, c0, c1, c2, c3, c4, c5, c6, c7, c8, rfl⟩ := hw.form
  have hf := fun w1 h1 => findNode_any t.clu _ _ _ z w w1 h1 hw.clu
  have hE : hasNode t.clu z = (fstBy NV.id t.clu.nodes z).isSome := rfl
  generalize fstBy NV.id t.clu.nodes z = o at hf hE
  have HF := Lib.hid hf
  have HE := Lib.hid hE
  clear hw hf hE
  go_enter Tryz.func112, Tryz.ntmps112
  go_wp2_with fail
  have hX : Below w.heap.size w (w.alloc (.cells #[.int .i64 t.now, .int .i64 t.span, .int .i64 t.kind, .int .i64 t.limit, .int .i64 t.next, .int .i64 t.lease.c, .int .i64 t.lease.m, .int .i64 t.lease.p, .slice A0 t.epochs.length c0, .slice A1 t.pools.length c1, .slice A2 t.clu.tasks.length c2, .slice A3 t.clu.nodes.length c3, .slice A4 t.clu.binds.length c4, .slice A5 t.wants.length c5, .slice A6 t.ends.length c6, .int .i64 t.seen, .slice A7 t.insts.length c7, .slice A8 t.msgs.length c8] 39)) := (by repeat' (first | exact Below.refl _ _ | refine Below.alloc ?_ ?_ _ | refine Below.setCell ?_ ?_ _ | refine Below.drew ?_ | (apply below_step; assumption) | (simp; done) | (simp; omega) | omega))
  refine (HF.out _ hX).mono ?_
  rintro e w1 ⟨cs, rfl, hR, hb1⟩
  have hC1 := below_of hX hb1
  generalize o.getD NV.zero = n at hR
  obtain ⟨u1, u2, rfl, s1, s2, _, _⟩ := hR
  obtain ⟨E1, d1, rfl, _⟩ := s1.form
  obtain ⟨E2, d2, rfl, _⟩ := s2.form
  clear hX hb1 s1 s2
  have hz1 := hC1.size
  go_wp2_with fail
  go_ret
  exact ⟨by rw [HE.out]; simp, (by repeat' (first | exact Below.refl _ _ | refine Below.alloc ?_ ?_ _ | refine Below.setCell ?_ ?_ _ | refine Below.drew ?_ | (apply below_step; assumption) | (simp; done) | (simp; omega) | omega))⟩
theorem epochsOk_eq (t : WV) (b1 b2 : Bool) (h1 : ((t.epochs.length : Int) != 4) = b1) (h2 : decide (t.lease.m < t.seen) = b2) : epochsOk t = (!b1 && !b2 && t.epochs.all (fun e => lWithin e 0 t.lease.m)) := by
  subst h1 h2
  unfold epochsOk
  congr 2
  rw [Bool.eq_iff_iff]; simp; omega
theorem all_step {α : Type} {p : α → Bool} {l : List α} {k : Nat} {x : α} (h : l.all p = (l.drop k).all p) (hx : l[k]? = some x) : l.all p = (p x && (l.drop (k + 1)).all p) := by
  have hk : k < l.length := (List.getElem?_eq_some_iff.1 hx).1
  rw [h, List.drop_eq_getElem_cons hk, (List.getElem?_eq_some_iff.1 hx).2]; rfl
set_option maxHeartbeats 3200000 in
theorem epochsOk_any (t : WV) (s : WS) (w : World) (hw : WldR w t s) : Calls Tryz.prog 56 #[.agg #[.int .i64 t.now, .int .i64 t.span, .int .i64 t.kind, .int .i64 t.limit, .int .i64 t.next, .int .i64 t.lease.c, .int .i64 t.lease.m, .int .i64 t.lease.p, s.ep, s.po, s.ta, s.no, s.bi, s.wa, s.en, .int .i64 t.seen, s.ins, s.ms]] w fun e w' => e = .returned (.bool (epochsOk t)) ∧ Below w.heap.size w w' := by
  obtain ⟨A0, A1, A2, A3, A4, A5, A6, A7, A8, c0, c1, c2, c3, c4, c5, c6, c7, c8, rfl⟩ := hw.form
  have HA := Lib.hid hw.ep
  have hlen := hw.small.1
  have HE := Lib.hid (epochsOk_eq t)
  generalize e1 : ((t.epochs.length : Int) != 4) = b1 at *
  generalize e2 : decide (t.lease.m < t.seen) = b2 at *
  have HE := Lib.hid (HE.out _ _ rfl rfl)
  generalize epochsOk t = ok at *
  have hgl : t.epochs.all (fun e => lWithin e 0 t.lease.m) = (t.epochs.drop 0).all (fun e => lWithin e 0 t.lease.m) := by rw [List.drop_zero]
  have HG := Lib.hid hgl
  clear hw hgl
  go_enter Tryz.func56, Tryz.ntmps56
  cases b1
  rotate_left
  · go_wp2_with fail
    go_ret
    exact ⟨by rw [HE.out]; simp, (by repeat' (first | exact Below.refl _ _ | refine Below.alloc ?_ ?_ _ | refine Below.setCell ?_ ?_ _ | refine Below.drew ?_ | (apply below_step; assumption) | (simp; done) | (simp; omega) | omega))⟩
  cases b2
  rotate_left
  · go_wp2_with fail
    go_ret
    exact ⟨by rw [HE.out]; simp, (by repeat' (first | exact Below.refl _ _ | refine Below.alloc ?_ ?_ _ | refine Below.setCell ?_ ?_ _ | refine Below.drew ?_ | (apply below_step; assumption) | (simp; done) | (simp; omega) | omega))⟩
  go_wp2_with fail
  go_loopw [21] (fun s21 wr => ∃ k : Nat, k ≤ t.epochs.length ∧ s21 = .int .i64 k ∧ t.epochs.all (fun e => lWithin e 0 t.lease.m) = (t.epochs.drop k).all (fun e => lWithin e 0 t.lease.m) ∧ wr.cell? ⟨w.heap.size, 6, none⟩ = some (.int .i64 t.lease.m) ∧ Below w.heap.size w wr) (fun s21 _ => (t.epochs.length - RowKit.intOf s21).toNat)
  case atStart => exact ⟨0, by omega, rfl, HG.out, by simp, (by repeat' (first | exact Below.refl _ _ | refine Below.alloc ?_ ?_ _ | refine Below.setCell ?_ ?_ _ | refine Below.drew ?_ | (apply below_step; assumption) | (simp; done) | (simp; omega) | omega))⟩
  case round =>
    obtain ⟨k, hk, rfl, hall, hcell, hB⟩ := hrel
    have hzr := hB.size
    by_cases hlt : k < t.epochs.length
    · obtain ⟨A, c, e0, hA⟩ := HA.out.form
      obtain ⟨b, off, rfl, hbw, hat⟩ := hA (by omega)
      simp only [Value.slice.injEq] at e0
      obtain ⟨rfl, -, rfl⟩ := e0
      obtain ⟨r, hr⟩ : ∃ r, t.epochs[k]? = some r := ⟨_, List.getElem?_eq_getElem hlt⟩
      have q0 := (hat.below hB hbw) k r hr
      have hlti : (k : Int) < (t.epochs.length : Int) := by omega
      have HST := Lib.hid (all_step hall hr)
      have hin := fun w => within_any r 0 t.lease.m w
      generalize lWithin r 0 t.lease.m = bi at *
      have HIN := Lib.hid hin
      clear hat hr hall hin hA
      go_wp2_with fail
      refine (HIN.out _).mono ?_
      rintro e w3 ⟨rfl, rfl⟩
      cases bi
      · go_wp2_with fail
        go_ret
        exact ⟨by rw [HE.out, HST.out]; simp, hB⟩
      go_wp2_with fail
      go_roundw
      case rel => exact ⟨k + 1, by omega, by go_num, by rw [HST.out]; simp, hcell, hB⟩
      case measure => simp [RowKit.intOf]; omega
    · obtain rfl : k = t.epochs.length := by omega
      have HF := Lib.hid hall
      clear hall
      go_wp2_with fail
      go_ret
      exact ⟨by rw [HE.out, HF.out, List.drop_length]; rfl, hB⟩
theorem msgsOk_eq (t : WV) (b1 : Bool) (h1 : decide (40 < (t.msgs.length : Int)) = b1) : msgsOk t = (!b1 && t.msgs.all (msgIn t)) := by
  subst h1
  unfold msgsOk
  congr 1
  rw [Bool.eq_iff_iff]; simp; omega
theorem msgIn_eq (t : WV) (m : MV) (b1 b2 : Bool) (h1 : msgOk m = b1) (h2 : decide (t.lease.m < m.e) = b2) : msgIn t m = (b1 && !b2) := by subst h1 h2; rfl
set_option maxHeartbeats 3200000 in
theorem msgsOk_any (t : WV) (s : WS) (w : World) (hw : WldR w t s) : Calls Tryz.prog 59 #[.agg #[.int .i64 t.now, .int .i64 t.span, .int .i64 t.kind, .int .i64 t.limit, .int .i64 t.next, .int .i64 t.lease.c, .int .i64 t.lease.m, .int .i64 t.lease.p, s.ep, s.po, s.ta, s.no, s.bi, s.wa, s.en, .int .i64 t.seen, s.ins, s.ms]] w fun e w' => e = .returned (.bool (msgsOk t)) ∧ Below w.heap.size w w' := by
  obtain ⟨A0, A1, A2, A3, A4, A5, A6, A7, A8, c0, c1, c2, c3, c4, c5, c6, c7, c8, rfl⟩ := hw.form
  have HA := Lib.hid hw.ms
  have hlen := hw.small.2.2.2.2.2
  have HE := Lib.hid (msgsOk_eq t)
  generalize e1 : decide (40 < (t.msgs.length : Int)) = b1 at *
  have HE := Lib.hid (HE.out _ rfl)
  generalize msgsOk t = ok at *
  have hgl : t.msgs.all (msgIn t) = (t.msgs.drop 0).all (msgIn t) := by rw [List.drop_zero]
  have HG := Lib.hid hgl
  clear hw hgl
  go_enter Tryz.func59, Tryz.ntmps59
  cases b1
  rotate_left
  · go_wp2_with fail
    go_ret
    exact ⟨by rw [HE.out]; simp, (by repeat' (first | exact Below.refl _ _ | refine Below.alloc ?_ ?_ _ | refine Below.setCell ?_ ?_ _ | refine Below.drew ?_ | (apply below_step; assumption) | (simp; done) | (simp; omega) | omega))⟩
  go_wp2_with fail
  go_loopw [12] (fun s12 wr => ∃ k : Nat, k ≤ t.msgs.length ∧ s12 = .int .i64 k ∧ t.msgs.all (msgIn t) = (t.msgs.drop k).all (msgIn t) ∧ wr.cell? ⟨w.heap.size, 6, none⟩ = some (.int .i64 t.lease.m) ∧ Below w.heap.size w wr) (fun s12 _ => (t.msgs.length - RowKit.intOf s12).toNat)
  case atStart => exact ⟨0, by omega, rfl, HG.out, by simp, (by repeat' (first | exact Below.refl _ _ | refine Below.alloc ?_ ?_ _ | refine Below.setCell ?_ ?_ _ | refine Below.drew ?_ | (apply below_step; assumption) | (simp; done) | (simp; omega) | omega))⟩
  case round =>
    obtain ⟨k, hk, rfl, hall, hcell, hB⟩ := hrel
    have hzr := hB.size
    by_cases hlt : k < t.msgs.length
    · obtain ⟨A, c, e0, hA⟩ := HA.out.form
      obtain ⟨b, off, rfl, hbw, hat⟩ := hA (by omega)
      simp only [Value.slice.injEq] at e0
      obtain ⟨rfl, -, rfl⟩ := e0
      obtain ⟨r, hr⟩ : ∃ r, t.msgs[k]? = some r := ⟨_, List.getElem?_eq_getElem hlt⟩
      obtain ⟨cs, hR, hC⟩ := (hat.below MsgR.kept hB hbw) k r hr
      obtain rfl := hR
      obtain ⟨q0, q1, q2, q3⟩ := msg_cells hC
      have hlti : (k : Int) < (t.msgs.length : Int) := by omega
      have HST := Lib.hid (all_step hall hr)
      have HIE := Lib.hid (msgIn_eq t r)
      have hin := fun w => MsgOk_any r w
      generalize msgOk r = bi at *
      generalize e4 : decide (t.lease.m < r.e) = bl
      have HIE := Lib.hid (HIE.out _ _ rfl e4)
      have HIN := Lib.hid hin
      have hbl := World.block_lt_of_cell? _ _ hcell
      simp only at hbl
      have HCC := Lib.hid hcell
      clear hat hr hall hin hA hC
      go_wp2_with fail
      have hX : Below wr.heap.size wr (wr.alloc (.cells #[.int .i64 r.k, .int .i64 r.e, .int .i64 r.i, .int .i64 r.p] 88)) := (by repeat' (first | exact Below.refl _ _ | refine Below.alloc ?_ ?_ _ | refine Below.setCell ?_ ?_ _ | refine Below.drew ?_ | (apply below_step; assumption) | (simp; done) | (simp; omega) | omega))
      refine (HIN.out _).mono ?_
      rintro e w3 ⟨rfl, hb3⟩
      have hB3 := below_of hX hb3
      have hD3 := hB.trans (hB3.mono hzr)
      have B3 := (BlockIs.new wr 88 #[.int .i64 r.k, .int .i64 r.e, .int .i64 r.i, .int .i64 r.p]).below hb3 (by simp)
      have g1 := B3.cell 1
      simp at g1
      have hc6 := (hB3.cell (p := ⟨w.heap.size, 6, none⟩) hbl).trans HCC.out
      clear hX hb3 hB3 B3 hcell q0 q1 q2 q3 hB
      cases bi
      · go_wp2_with fail
        go_ret
        exact ⟨by rw [HE.out, HST.out, HIE.out]; simp, hD3⟩
      cases bl
      rotate_left
      · go_wp2_with fail
        go_ret
        exact ⟨by rw [HE.out, HST.out, HIE.out]; simp, hD3⟩
      go_wp2_with fail
      go_roundw
      case rel => exact ⟨k + 1, by omega, by go_num, by rw [HST.out, HIE.out]; simp, hc6, hD3⟩
      case measure => simp [RowKit.intOf]; omega
    · obtain rfl : k = t.msgs.length := by omega
      have HF := Lib.hid hall
      clear hall
      go_wp2_with fail
      go_ret
      exact ⟨by rw [HE.out, HF.out, List.drop_length]; rfl, hB⟩
theorem endsOk_eq (t : WV) (b1 : Bool) (h1 : decide (20 < (t.ends.length : Int)) = b1) : endsOk t = (!b1 && endsFrom t 0 t.ends) := by
  subst h1
  unfold endsOk
  congr 1
  rw [Bool.eq_iff_iff]; simp; omega
theorem endsFrom_step {t : WV} {last : Int} {l : List Int} {k : Nat} {r : Int} (hr : l[k]? = some r) (b1 b2 : Bool) (h1 : decide (r ≤ last) = b1) (h2 : hasNode t.clu r = b2) : endsFrom t last (l.drop k) = (!b1 && b2 && endsFrom t r (l.drop (k + 1))) := by
  have hk : k < l.length := (List.getElem?_eq_some_iff.1 hr).1
  subst h1 h2
  rw [List.drop_eq_getElem_cons hk, (List.getElem?_eq_some_iff.1 hr).2, endsFrom]
  congr 2
  rw [Bool.eq_iff_iff]; simp
set_option maxHeartbeats 3200000 in
theorem endsOk_any (t : WV) (s : WS) (w : World) (hw : WldR w t s) : Calls Tryz.prog 58 #[.agg #[.int .i64 t.now, .int .i64 t.span, .int .i64 t.kind, .int .i64 t.limit, .int .i64 t.next, .int .i64 t.lease.c, .int .i64 t.lease.m, .int .i64 t.lease.p, s.ep, s.po, s.ta, s.no, s.bi, s.wa, s.en, .int .i64 t.seen, s.ins, s.ms]] w fun e w' => e = .returned (.bool (endsOk t)) ∧ Below w.heap.size w w' := by
  obtain ⟨A0, A1, A2, A3, A4, A5, A6, A7, A8, c0, c1, c2, c3, c4, c5, c6, c7, c8, rfl⟩ := hw.form
  have HW := Lib.hid hw
  have HA := Lib.hid hw.en
  have hlen := hw.small.2.2.2.1
  have HE := Lib.hid (endsOk_eq t)
  generalize e1 : decide (20 < (t.ends.length : Int)) = b1 at *
  have HE := Lib.hid (HE.out _ rfl)
  generalize endsOk t = ok at *
  have hgl : endsFrom t 0 t.ends = endsFrom t 0 (t.ends.drop 0) := by rw [List.drop_zero]
  have HG := Lib.hid hgl
  clear hw hgl
  go_enter Tryz.func58, Tryz.ntmps58
  cases b1
  rotate_left
  · go_wp2_with fail
    go_ret
    exact ⟨by rw [HE.out]; simp, (by repeat' (first | exact Below.refl _ _ | refine Below.alloc ?_ ?_ _ | refine Below.setCell ?_ ?_ _ | refine Below.drew ?_ | (apply below_step; assumption) | (simp; done) | (simp; omega) | omega))⟩
  go_wp2_with fail
  go_loopw [3, 13] (fun s3 s13 wr => ∃ (k : Nat) (last : Int), k ≤ t.ends.length ∧ s13 = .int .i64 k ∧ s3 = .int .i64 last ∧ endsFrom t 0 t.ends = endsFrom t last (t.ends.drop k) ∧ BlockIs wr w.heap.size 39 #[.int .i64 t.now, .int .i64 t.span, .int .i64 t.kind, .int .i64 t.limit, .int .i64 t.next, .int .i64 t.lease.c, .int .i64 t.lease.m, .int .i64 t.lease.p, .slice A0 t.epochs.length c0, .slice A1 t.pools.length c1, .slice A2 t.clu.tasks.length c2, .slice A3 t.clu.nodes.length c3, .slice A4 t.clu.binds.length c4, .slice A5 t.wants.length c5, .slice A6 t.ends.length c6, .int .i64 t.seen, .slice A7 t.insts.length c7, .slice A8 t.msgs.length c8] ∧ Below w.heap.size w wr) (fun _ s13 _ => (t.ends.length - RowKit.intOf s13).toNat)
  case atStart => exact ⟨0, 0, by omega, rfl, rfl, HG.out, BlockIs.new w _ _, (by repeat' (first | exact Below.refl _ _ | refine Below.alloc ?_ ?_ _ | refine Below.setCell ?_ ?_ _ | refine Below.drew ?_ | (apply below_step; assumption) | (simp; done) | (simp; omega) | omega))⟩
  case round =>
    obtain ⟨k, last, hk, rfl, rfl, hall, hblk, hB⟩ := hrel
    have HBK := Lib.hid hblk
    have hbl := hblk.lt
    have hzr := hB.size
    clear hblk
    by_cases hlt : k < t.ends.length
    · obtain ⟨A, c, e0, hA⟩ := HA.out.form
      obtain ⟨b, off, rfl, hbw, hat⟩ := hA (by omega)
      simp only [Value.slice.injEq] at e0
      obtain ⟨rfl, -, rfl⟩ := e0
      obtain ⟨r, hr⟩ : ∃ r, t.ends[k]? = some r := ⟨_, List.getElem?_eq_getElem hlt⟩
      have q0 := (hat.below hB hbw) k r hr
      have hlti : (k : Int) < (t.ends.length : Int) := by omega
      have hst := fun b1 b2 => endsFrom_step (t := t) (last := last) hr b1 b2
      have hin := fun s w hw => isNodeW_any t s r w hw
      generalize e3 : decide (r ≤ last) = bl at *
      generalize hasNode t.clu r = bn at *
      have HST := Lib.hid (hall.trans (hst _ _ rfl rfl))
      have HIN := Lib.hid hin
      clear hat hr hall hin hA hst
      cases bl
      rotate_left
      · go_wp2_with fail
        go_ret
        exact ⟨by rw [HE.out, HST.out]; simp, hB⟩
      go_wp2_with (refine wpList_load_rowG rfl 39 _ rfl _ rfl 39 _ (0, 0) _ HBK.out Tryz.underlying39 rfl (by kernel_rfl) ?_)
      refine (HIN.out _ _ (HW.out.below hB)).mono ?_
      rintro e w3 ⟨rfl, hb3⟩
      have hD3 := hB.trans (hb3.mono hzr)
      have HB3 := Lib.hid (HBK.out.below hb3 HBK.out.lt)
      clear hb3 HBK
      cases bn
      · go_wp2_with fail
        go_ret
        exact ⟨by rw [HE.out, HST.out]; simp, hD3⟩
      go_wp2_with fail
      go_roundw
      case rel => exact ⟨k + 1, r, by omega, by go_num, rfl, by rw [HST.out]; simp, HB3.out, hD3⟩
      case measure => simp [RowKit.intOf]; omega
    · obtain rfl : k = t.ends.length := by omega
      have HF := Lib.hid hall
      clear hall
      go_wp2_with fail
      go_ret
      exact ⟨by rw [HE.out, HF.out, List.drop_length]; rfl, hB⟩
theorem wantsOk_eq (t : WV) (b1 : Bool) (h1 : decide (20 < (t.wants.length : Int)) = b1) : wantsOk t = (!b1 && wantsFrom t 0 t.wants) := by
  subst h1
  unfold wantsOk
  congr 1
  rw [Bool.eq_iff_iff]; simp; omega
theorem wantsFrom_step {t : WV} {last : Int} {l : List BV} {k : Nat} {r : BV} (hr : l[k]? = some r) (b1 b2 b3 : Bool) (h1 : decide (r.task ≤ last) = b1) (h2 : hasNode t.clu r.task = b2) (h3 : hasPool t.pools r.node = b3) : wantsFrom t last (l.drop k) = (!b1 && !b2 && b3 && wantsFrom t r.task (l.drop (k + 1))) := by
  have hk : k < l.length := (List.getElem?_eq_some_iff.1 hr).1
  subst h1 h2 h3
  rw [List.drop_eq_getElem_cons hk, (List.getElem?_eq_some_iff.1 hr).2, wantsFrom]
  congr 3
  rw [Bool.eq_iff_iff]; simp
set_option maxHeartbeats 6400000 in
theorem wantsOk_any (t : WV) (s : WS) (w : World) (hw : WldR w t s) : Calls Tryz.prog 57 #[.agg #[.int .i64 t.now, .int .i64 t.span, .int .i64 t.kind, .int .i64 t.limit, .int .i64 t.next, .int .i64 t.lease.c, .int .i64 t.lease.m, .int .i64 t.lease.p, s.ep, s.po, s.ta, s.no, s.bi, s.wa, s.en, .int .i64 t.seen, s.ins, s.ms]] w fun e w' => e = .returned (.bool (wantsOk t)) ∧ Below w.heap.size w w' := by
  obtain ⟨A0, A1, A2, A3, A4, A5, A6, A7, A8, c0, c1, c2, c3, c4, c5, c6, c7, c8, rfl⟩ := hw.form
  have HW := Lib.hid hw
  have HA := Lib.hid hw.wa
  have hlen := hw.small.2.2.1
  have HE := Lib.hid (wantsOk_eq t)
  generalize e1 : decide (20 < (t.wants.length : Int)) = b1 at *
  have HE := Lib.hid (HE.out _ rfl)
  generalize wantsOk t = ok at *
  have hgl : wantsFrom t 0 t.wants = wantsFrom t 0 (t.wants.drop 0) := by rw [List.drop_zero]
  have HG := Lib.hid hgl
  clear hw hgl
  go_enter Tryz.func57, Tryz.ntmps57
  cases b1
  rotate_left
  · go_wp2_with fail
    go_ret
    exact ⟨by rw [HE.out]; simp, (by repeat' (first | exact Below.refl _ _ | refine Below.alloc ?_ ?_ _ | refine Below.setCell ?_ ?_ _ | refine Below.drew ?_ | (apply below_step; assumption) | (simp; done) | (simp; omega) | omega))⟩
  go_wp2_with fail
  go_loopw [3, 15] (fun s3 s15 wr => ∃ (k : Nat) (last : Int), k ≤ t.wants.length ∧ s15 = .int .i64 k ∧ s3 = .int .i64 last ∧ wantsFrom t 0 t.wants = wantsFrom t last (t.wants.drop k) ∧ BlockIs wr w.heap.size 39 #[.int .i64 t.now, .int .i64 t.span, .int .i64 t.kind, .int .i64 t.limit, .int .i64 t.next, .int .i64 t.lease.c, .int .i64 t.lease.m, .int .i64 t.lease.p, .slice A0 t.epochs.length c0, .slice A1 t.pools.length c1, .slice A2 t.clu.tasks.length c2, .slice A3 t.clu.nodes.length c3, .slice A4 t.clu.binds.length c4, .slice A5 t.wants.length c5, .slice A6 t.ends.length c6, .int .i64 t.seen, .slice A7 t.insts.length c7, .slice A8 t.msgs.length c8] ∧ Below w.heap.size w wr) (fun _ s15 _ => (t.wants.length - RowKit.intOf s15).toNat)
  case atStart => exact ⟨0, 0, by omega, rfl, rfl, HG.out, BlockIs.new w _ _, (by repeat' (first | exact Below.refl _ _ | refine Below.alloc ?_ ?_ _ | refine Below.setCell ?_ ?_ _ | refine Below.drew ?_ | (apply below_step; assumption) | (simp; done) | (simp; omega) | omega))⟩
  case round =>
    obtain ⟨k, last, hk, rfl, rfl, hall, hblk, hB⟩ := hrel
    have HBK := Lib.hid hblk
    have hbl := hblk.lt
    have w9 := hblk.cell 9
    simp at w9
    have hzr := hB.size
    clear hblk
    by_cases hlt : k < t.wants.length
    · obtain ⟨A, c, e0, hA⟩ := HA.out.form
      obtain ⟨b, off, rfl, hbw, hat⟩ := hA (by omega)
      simp only [Value.slice.injEq] at e0
      obtain ⟨rfl, -, rfl⟩ := e0
      obtain ⟨r, hr⟩ : ∃ r, t.wants[k]? = some r := ⟨_, List.getElem?_eq_getElem hlt⟩
      obtain ⟨cs, hR, hC⟩ := (hat.below WantR.kept hB hbw) k r hr
      obtain rfl := hR
      obtain ⟨q0, q1⟩ := want_cells hC
      have hlti : (k : Int) < (t.wants.length : Int) := by omega
      have hst := fun b1 b2 b3 => wantsFrom_step (t := t) (last := last) hr b1 b2 b3
      have hin := fun s w hw => isNodeW_any t s r.task w hw
      have hfp := fun w1 h1 => findPool_any _ t.pools r.node w w1 h1 HW.out.po HW.out.small.2.1
      generalize e3 : decide (r.task ≤ last) = bl at *
      generalize hasNode t.clu r.task = bn at *
      generalize hbp : hasPool t.pools r.node = bp at *
      unfold hasPool at hbp
      generalize fstBy PV.id t.pools r.node = o at hfp hbp
      have HST := Lib.hid (hall.trans (hst _ _ _ rfl rfl rfl))
      have HIN := Lib.hid hin
      have HFP := Lib.hid hfp
      clear hat hr hall hin hA hst hC hfp
      go_wp2_with fail
      have hX : Below wr.heap.size wr (wr.alloc (.cells #[.int .i64 r.task, .int .i64 r.node] 93)) := (by repeat' (first | exact Below.refl _ _ | refine Below.alloc ?_ ?_ _ | refine Below.setCell ?_ ?_ _ | refine Below.drew ?_ | (apply below_step; assumption) | (simp; done) | (simp; omega) | omega))
      refine (HFP.out _ (hB.trans (hX.mono hzr))).mono ?_
      rintro e w2 ⟨cs, rfl, hR, hb2⟩
      have hB2 := below_of hX hb2
      have B2 := (BlockIs.new wr 93 #[.int .i64 r.task, .int .i64 r.node]).below hb2 (by simp)
      generalize o.getD PV.zero = u at hR
      obtain ⟨u1, u2, rfl, s1, s2, _, _⟩ := hR
      obtain ⟨E1, d1, rfl, _⟩ := s1.form
      obtain ⟨E2, d2, rfl, _⟩ := s2.form
      subst hbp
      have g0 := B2.cell 0
      simp at g0
      have hX2 : Below w2.heap.size w2 (w2.alloc (.cells #[.int .i64 u.id, .int .i64 u.min, .int .i64 u.max, .int .i64 u.prio, .int .i64 u.shape.id, .int .i64 u.shape.pool, .int .i64 u.shape.cap.c, .int .i64 u.shape.cap.m, .int .i64 u.shape.cap.p, .slice E1 u.shape.labs.length d1, .slice E2 u.shape.taints.length d2, .bool u.shape.cordon] 63)) := (by repeat' (first | exact Below.refl _ _ | refine Below.alloc ?_ ?_ _ | refine Below.setCell ?_ ?_ _ | refine Below.drew ?_ | (apply below_step; assumption) | (simp; done) | (simp; omega) | omega))
      have hB2x := below_of hB2 hX2
      have hD2 := hB.trans (hB2x.mono hzr)
      have HB2 := Lib.hid (HBK.out.below hB2x HBK.out.lt)
      have BV2 := Lib.hid (B2.below hX2 B2.lt)
      have hzv := B2.lt
      clear hX hb2 hB2 B2 s1 s2 HBK hB2x hX2 q0 q1 w9
      cases bl
      rotate_left
      · go_wp2_with fail
        go_ret
        exact ⟨by rw [HE.out, HST.out]; simp, hD2⟩
      go_wp2_with (refine wpList_load_rowG rfl 39 _ rfl _ rfl 39 _ (0, 0) _ HB2.out Tryz.underlying39 rfl (by kernel_rfl) ?_)
      refine (HIN.out _ _ (HW.out.below hD2)).mono ?_
      rintro e w3 ⟨rfl, hb3⟩
      have hD3 := hD2.trans (hb3.mono hD2.size)
      have HB3 := Lib.hid (HB2.out.below hb3 HB2.out.lt)
      have B3 := BV2.out.below hb3 BV2.out.lt
      have g0 := B3.cell 0
      simp at g0
      clear hb3 HB2 B3
      cases bn
      rotate_left
      · go_wp2_with fail
        go_ret
        exact ⟨by rw [HE.out, HST.out]; simp, hD3⟩
      generalize o.isSome = bp at *
      cases bp
      · go_wp2_with fail
        go_ret
        exact ⟨by rw [HE.out, HST.out]; simp, hD3⟩
      go_wp2_with fail
      go_roundw
      case rel => exact ⟨k + 1, r.task, by omega, by go_num, rfl, by rw [HST.out]; simp, HB3.out, hD3⟩
      case measure => simp [RowKit.intOf]; omega
    · obtain rfl : k = t.wants.length := by omega
      have HF := Lib.hid hall
      clear hall
      go_wp2_with fail
      go_ret
      exact ⟨by rw [HE.out, HF.out, List.drop_length]; rfl, hB⟩
end Go.Proofs.YtmkpajjnjgnmkabGreatDoor

namespace Go.Proofs.YtmkpajjnjgnmkabGreatDoor
open Go.RowKit

theorem topOf_step {g : Int} {l : List Int} {k : Nat} {r : Int} (hr : l[k]? = some r) : topOf g (l.drop k) = topOf (max g r) (l.drop (k + 1)) := by
  have hk : k < l.length := (List.getElem?_eq_some_iff.1 hr).1
  rw [List.drop_eq_getElem_cons hk, (List.getElem?_eq_some_iff.1 hr).2]; rfl
set_option maxHeartbeats 6400000 in
theorem idsGiven_any (t : WV) (s : WS) (w : World) (hw : WldR w t s) : Calls Tryz.prog 60 #[.agg #[.int .i64 t.now, .int .i64 t.span, .int .i64 t.kind, .int .i64 t.limit, .int .i64 t.next, .int .i64 t.lease.c, .int .i64 t.lease.m, .int .i64 t.lease.p, s.ep, s.po, s.ta, s.no, s.bi, s.wa, s.en, .int .i64 t.seen, s.ins, s.ms]] w fun e w' => e = .returned (.bool (idsGiven t)) ∧ Below w.heap.size w w' := by
  obtain ⟨A0, A1, A2, A3, A4, A5, A6, A7, A8, c0, c1, c2, c3, c4, c5, c6, c7, c8, rfl⟩ := hw.form
  have HW := Lib.hid hw
  have hl0 := hw.clu.2.2.2.2.1
  have hl1 := hw.small.2.2.1
  have hl2 := hw.small.2.2.2.2.1
  have hl3 := hw.small.2.2.2.2.2
  have HE := Lib.hid (show idsGiven t = decide (topOf (topOf (topOf (topOf 0 (t.clu.nodes.map NV.id)) (t.wants.map BV.task)) (t.insts.map RV.c)) (t.msgs.map MV.i) < t.next) from rfl)
  generalize idsGiven t = ok at *
  clear hw
  go_enter Tryz.func60, Tryz.ntmps60
  go_wp2_with fail
  go_loopw [3, 16] (fun s3 s16 wr => ∃ (k : Nat) (g : Int), k ≤ t.clu.nodes.length ∧ s16 = .int .i64 k ∧ s3 = .int .i64 g ∧ topOf 0 (t.clu.nodes.map NV.id) = topOf g ((t.clu.nodes.map NV.id).drop k) ∧ BlockIs wr w.heap.size 39 #[.int .i64 t.now, .int .i64 t.span, .int .i64 t.kind, .int .i64 t.limit, .int .i64 t.next, .int .i64 t.lease.c, .int .i64 t.lease.m, .int .i64 t.lease.p, .slice A0 t.epochs.length c0, .slice A1 t.pools.length c1, .slice A2 t.clu.tasks.length c2, .slice A3 t.clu.nodes.length c3, .slice A4 t.clu.binds.length c4, .slice A5 t.wants.length c5, .slice A6 t.ends.length c6, .int .i64 t.seen, .slice A7 t.insts.length c7, .slice A8 t.msgs.length c8] ∧ Below w.heap.size w wr) (fun _ s16 _ => (t.clu.nodes.length - RowKit.intOf s16).toNat)
  case atStart => exact ⟨0, 0, by omega, rfl, rfl, by rw [List.drop_zero], BlockIs.new w _ _, (by repeat' (first | exact Below.refl _ _ | refine Below.alloc ?_ ?_ _ | refine Below.setCell ?_ ?_ _ | refine Below.drew ?_ | (apply below_step; assumption) | (simp; done) | (simp; omega) | omega))⟩
  case round =>
    obtain ⟨k, g0, hk, rfl, rfl, hall, hblk, hB⟩ := hrel
    have HBK := Lib.hid hblk
    have hbl := hblk.lt
    have hzr := hB.size
    have wx := hblk.cell 13
    simp at wx
    clear hblk
    by_cases hlt : k < t.clu.nodes.length
    · obtain ⟨A, c, e0, hA⟩ := (HW.out.clu.2.1).form
      obtain ⟨b, off, rfl, hbw, hat⟩ := hA (by omega)
      simp only [Value.slice.injEq] at e0
      obtain ⟨rfl, -, rfl⟩ := e0
      obtain ⟨r, hr⟩ : ∃ r, t.clu.nodes[k]? = some r := ⟨_, List.getElem?_eq_getElem hlt⟩
      obtain ⟨cs, hR, hC⟩ := (hat.below NodeR.kept hB hbw) k r hr
      obtain ⟨u1, u2, rfl, s1, s2, _, _⟩ := hR
      obtain ⟨E1, d1, rfl, _⟩ := s1.form
      obtain ⟨E2, d2, rfl, _⟩ := s2.form
      obtain ⟨q0, q1, q2, q3, q4, q5, q6, q7⟩ := node_cells hC
      clear s1 s2
      have hlti : (k : Int) < (t.clu.nodes.length : Int) := by omega
      have HST := Lib.hid (hall.trans (topOf_step (r := r.id) (by rw [List.getElem?_map, hr]; rfl)))
      clear hat hr hall hA hC
      have hX : Below wr.heap.size wr (wr.alloc (.cells #[.int .i64 r.id, .int .i64 r.pool, .int .i64 r.cap.c, .int .i64 r.cap.m, .int .i64 r.cap.p, .slice E1 r.labs.length d1, .slice E2 r.taints.length d2, .bool r.cordon] 61)) := (by repeat' (first | exact Below.refl _ _ | refine Below.alloc ?_ ?_ _ | refine Below.setCell ?_ ?_ _ | refine Below.drew ?_ | (apply below_step; assumption) | (simp; done) | (simp; omega) | omega))
      have HX := Lib.hid hX
      clear hX
      go_wp2_with fail
      go_roundw
      case rel => exact ⟨k + 1, _, by omega, by go_num, rfl, by rw [HST.out]; first | rfl | (congr 1; omega), HBK.out.below HX.out HBK.out.lt, hB.trans (HX.out.mono hzr)⟩
      case measure => simp [RowKit.intOf]; omega
    · obtain rfl : k = t.clu.nodes.length := by omega
      have hgq : topOf 0 (t.clu.nodes.map NV.id) = g0 := by rw [hall, List.drop_of_length_le (by simp)]; rfl
      have HGQ0 := Lib.hid hgq
      have HBX := HBK
      have hBX := hB
      clear hall hgq
      go_wp2_with fail
      go_loopw [3, 28] (fun s3 s28 wr => ∃ (k : Nat) (g : Int), k ≤ t.wants.length ∧ s28 = .int .i64 k ∧ s3 = .int .i64 g ∧ topOf g0 (t.wants.map BV.task) = topOf g ((t.wants.map BV.task).drop k) ∧ BlockIs wr w.heap.size 39 #[.int .i64 t.now, .int .i64 t.span, .int .i64 t.kind, .int .i64 t.limit, .int .i64 t.next, .int .i64 t.lease.c, .int .i64 t.lease.m, .int .i64 t.lease.p, .slice A0 t.epochs.length c0, .slice A1 t.pools.length c1, .slice A2 t.clu.tasks.length c2, .slice A3 t.clu.nodes.length c3, .slice A4 t.clu.binds.length c4, .slice A5 t.wants.length c5, .slice A6 t.ends.length c6, .int .i64 t.seen, .slice A7 t.insts.length c7, .slice A8 t.msgs.length c8] ∧ Below w.heap.size w wr) (fun _ s28 _ => (t.wants.length - RowKit.intOf s28).toNat)
      case atStart => exact ⟨0, g0, by omega, rfl, rfl, by rw [List.drop_zero], HBX.out, hBX⟩
      case round =>
        obtain ⟨k, g1, hk, rfl, rfl, hall, hblk, hB⟩ := hrel
        have HBK := Lib.hid hblk
        have hbl := hblk.lt
        have hzr := hB.size
        have wx := hblk.cell 16
        simp at wx
        clear hblk
        by_cases hlt : k < t.wants.length
        · obtain ⟨A, c, e0, hA⟩ := (HW.out.wa).form
          obtain ⟨b, off, rfl, hbw, hat⟩ := hA (by omega)
          simp only [Value.slice.injEq] at e0
          obtain ⟨rfl, -, rfl⟩ := e0
          obtain ⟨r, hr⟩ : ∃ r, t.wants[k]? = some r := ⟨_, List.getElem?_eq_getElem hlt⟩
          obtain ⟨cs, hR, hC⟩ := (hat.below WantR.kept hB hbw) k r hr
          obtain rfl := hR
          obtain ⟨q0, q1⟩ := want_cells hC
          have hlti : (k : Int) < (t.wants.length : Int) := by omega
          have HST := Lib.hid (hall.trans (topOf_step (r := r.task) (by rw [List.getElem?_map, hr]; rfl)))
          clear hat hr hall hA hC
          have hX : Below wr.heap.size wr (wr.alloc (.cells #[.int .i64 r.task, .int .i64 r.node] 93)) := (by repeat' (first | exact Below.refl _ _ | refine Below.alloc ?_ ?_ _ | refine Below.setCell ?_ ?_ _ | refine Below.drew ?_ | (apply below_step; assumption) | (simp; done) | (simp; omega) | omega))
          have HX := Lib.hid hX
          clear hX
          go_wp2_with fail
          go_roundw
          case rel => exact ⟨k + 1, _, by omega, by go_num, rfl, by rw [HST.out]; first | rfl | (congr 1; omega), HBK.out.below HX.out HBK.out.lt, hB.trans (HX.out.mono hzr)⟩
          case measure => simp [RowKit.intOf]; omega
        · obtain rfl : k = t.wants.length := by omega
          have hgq : topOf g0 (t.wants.map BV.task) = g1 := by rw [hall, List.drop_of_length_le (by simp)]; rfl
          have HGQ1 := Lib.hid hgq
          have HBX := HBK
          have hBX := hB
          clear hall hgq
          go_wp2_with fail
          go_loopw [3, 41] (fun s3 s41 wr => ∃ (k : Nat) (g : Int), k ≤ t.insts.length ∧ s41 = .int .i64 k ∧ s3 = .int .i64 g ∧ topOf g1 (t.insts.map RV.c) = topOf g ((t.insts.map RV.c).drop k) ∧ BlockIs wr w.heap.size 39 #[.int .i64 t.now, .int .i64 t.span, .int .i64 t.kind, .int .i64 t.limit, .int .i64 t.next, .int .i64 t.lease.c, .int .i64 t.lease.m, .int .i64 t.lease.p, .slice A0 t.epochs.length c0, .slice A1 t.pools.length c1, .slice A2 t.clu.tasks.length c2, .slice A3 t.clu.nodes.length c3, .slice A4 t.clu.binds.length c4, .slice A5 t.wants.length c5, .slice A6 t.ends.length c6, .int .i64 t.seen, .slice A7 t.insts.length c7, .slice A8 t.msgs.length c8] ∧ Below w.heap.size w wr) (fun _ s41 _ => (t.insts.length - RowKit.intOf s41).toNat)
          case atStart => exact ⟨0, g1, by omega, rfl, rfl, by rw [List.drop_zero], HBX.out, hBX⟩
          case round =>
            obtain ⟨k, g2, hk, rfl, rfl, hall, hblk, hB⟩ := hrel
            have HBK := Lib.hid hblk
            have hbl := hblk.lt
            have hzr := hB.size
            have wx := hblk.cell 17
            simp at wx
            clear hblk
            by_cases hlt : k < t.insts.length
            · obtain ⟨A, c, e0, hA⟩ := (HW.out.ins).form
              obtain ⟨b, off, rfl, hbw, hat⟩ := hA (by omega)
              simp only [Value.slice.injEq] at e0
              obtain ⟨rfl, -, rfl⟩ := e0
              obtain ⟨r, hr⟩ : ∃ r, t.insts[k]? = some r := ⟨_, List.getElem?_eq_getElem hlt⟩
              obtain ⟨q0, q1, q2⟩ := (hat.below hB hbw) k r hr
              have hlti : (k : Int) < (t.insts.length : Int) := by omega
              have HST := Lib.hid (hall.trans (topOf_step (r := r.c) (by rw [List.getElem?_map, hr]; rfl)))
              clear hat hr hall hA 
              have hX : Below wr.heap.size wr (wr.alloc (.cells #[.int .i64 r.c, .int .i64 r.m, .int .i64 r.p] 95)) := (by repeat' (first | exact Below.refl _ _ | refine Below.alloc ?_ ?_ _ | refine Below.setCell ?_ ?_ _ | refine Below.drew ?_ | (apply below_step; assumption) | (simp; done) | (simp; omega) | omega))
              have HX := Lib.hid hX
              clear hX
              go_wp2_with fail
              go_roundw
              case rel => exact ⟨k + 1, _, by omega, by go_num, rfl, by rw [HST.out]; first | rfl | (congr 1; omega), HBK.out.below HX.out HBK.out.lt, hB.trans (HX.out.mono hzr)⟩
              case measure => simp [RowKit.intOf]; omega
            · obtain rfl : k = t.insts.length := by omega
              have hgq : topOf g1 (t.insts.map RV.c) = g2 := by rw [hall, List.drop_of_length_le (by simp)]; rfl
              have HGQ2 := Lib.hid hgq
              have HBX := HBK
              have hBX := hB
              clear hall hgq
              go_wp2_with fail
              go_loopw [3, 53] (fun s3 s53 wr => ∃ (k : Nat) (g : Int), k ≤ t.msgs.length ∧ s53 = .int .i64 k ∧ s3 = .int .i64 g ∧ topOf g2 (t.msgs.map MV.i) = topOf g ((t.msgs.map MV.i).drop k) ∧ BlockIs wr w.heap.size 39 #[.int .i64 t.now, .int .i64 t.span, .int .i64 t.kind, .int .i64 t.limit, .int .i64 t.next, .int .i64 t.lease.c, .int .i64 t.lease.m, .int .i64 t.lease.p, .slice A0 t.epochs.length c0, .slice A1 t.pools.length c1, .slice A2 t.clu.tasks.length c2, .slice A3 t.clu.nodes.length c3, .slice A4 t.clu.binds.length c4, .slice A5 t.wants.length c5, .slice A6 t.ends.length c6, .int .i64 t.seen, .slice A7 t.insts.length c7, .slice A8 t.msgs.length c8] ∧ Below w.heap.size w wr) (fun _ s53 _ => (t.msgs.length - RowKit.intOf s53).toNat)
              case atStart => exact ⟨0, g2, by omega, rfl, rfl, by rw [List.drop_zero], HBX.out, hBX⟩
              case round =>
                obtain ⟨k, g3, hk, rfl, rfl, hall, hblk, hB⟩ := hrel
                have HBK := Lib.hid hblk
                have hbl := hblk.lt
                have hzr := hB.size
                have wx := hblk.cell 4
                simp at wx
                clear hblk
                by_cases hlt : k < t.msgs.length
                · obtain ⟨A, c, e0, hA⟩ := (HW.out.ms).form
                  obtain ⟨b, off, rfl, hbw, hat⟩ := hA (by omega)
                  simp only [Value.slice.injEq] at e0
                  obtain ⟨rfl, -, rfl⟩ := e0
                  obtain ⟨r, hr⟩ : ∃ r, t.msgs[k]? = some r := ⟨_, List.getElem?_eq_getElem hlt⟩
                  obtain ⟨cs, hR, hC⟩ := (hat.below MsgR.kept hB hbw) k r hr
                  obtain rfl := hR
                  obtain ⟨q0, q1, q2, q3⟩ := msg_cells hC
                  have hlti : (k : Int) < (t.msgs.length : Int) := by omega
                  have HST := Lib.hid (hall.trans (topOf_step (r := r.i) (by rw [List.getElem?_map, hr]; rfl)))
                  clear hat hr hall hA hC
                  have hX : Below wr.heap.size wr (wr.alloc (.cells #[.int .i64 r.k, .int .i64 r.e, .int .i64 r.i, .int .i64 r.p] 88)) := (by repeat' (first | exact Below.refl _ _ | refine Below.alloc ?_ ?_ _ | refine Below.setCell ?_ ?_ _ | refine Below.drew ?_ | (apply below_step; assumption) | (simp; done) | (simp; omega) | omega))
                  have HX := Lib.hid hX
                  clear hX
                  go_wp2_with fail
                  go_roundw
                  case rel => exact ⟨k + 1, _, by omega, by go_num, rfl, by rw [HST.out]; first | rfl | (congr 1; omega), HBK.out.below HX.out HBK.out.lt, hB.trans (HX.out.mono hzr)⟩
                  case measure => simp [RowKit.intOf]; omega
                · obtain rfl : k = t.msgs.length := by omega
                  have hgq : topOf g2 (t.msgs.map MV.i) = g3 := by rw [hall, List.drop_of_length_le (by simp)]; rfl
                  have HGQ3 := Lib.hid hgq
                  have HBX := HBK
                  have hBX := hB
                  clear hall hgq
                  go_wp2_with fail
                  go_ret
                  refine ⟨?_, hBX⟩
                  rw [HE.out, HGQ0.out, HGQ1.out, HGQ2.out, HGQ3.out]; simp
set_option maxHeartbeats 6400000 in
theorem WorldOk_any (t : WV) (s : WS) (w : World) (x : Addr) (hg : ErrAt x w) (hw : WldR w t s) : Calls Tryz.prog 17 #[.agg #[.int .i64 t.now, .int .i64 t.span, .int .i64 t.kind, .int .i64 t.limit, .int .i64 t.next, .int .i64 t.lease.c, .int .i64 t.lease.m, .int .i64 t.lease.p, s.ep, s.po, s.ta, s.no, s.bi, s.wa, s.en, .int .i64 t.seen, s.ins, s.ms]] w fun e w' => e = .returned (.bool (worldOk t)) ∧ Below w.heap.size w w' := by
  obtain ⟨A0, A1, A2, A3, A4, A5, A6, A7, A8, c0, c1, c2, c3, c4, c5, c6, c7, c8, rfl⟩ := hw.form
  have HW := Lib.hid hw
  have HG := Lib.hid hg
  have h1 := fun s w => settingsOk_any t s w
  have h2 := fun w => LeaseOk_any t.lease w
  have h3 := fun v w hg hv => PoolsOk_any v t.pools w x hg hv hw.small.2.1
  have h4 := fun a0 a1 a2 w hg hc => ClusterOk_any t.clu a0 a1 a2 w x hg hc
  have h5 := fun v w hv => ProvOk_any t.seen v t.insts w hv
  have h6 := fun s w hw => epochsOk_any t s w hw
  have h7 := fun s w hw => wantsOk_any t s w hw
  have h8 := fun s w hw => endsOk_any t s w hw
  have h9 := fun s w hw => msgsOk_any t s w hw
  have ha := fun s w hw => idsGiven_any t s w hw
  have hE : worldOk t = (settingsOk t && leaseOk t.lease && poolsOk t.pools && clusterOk t.clu && provOk t.seen t.insts && epochsOk t && wantsOk t && endsOk t && msgsOk t && idsGiven t) := rfl
  generalize worldOk t = ok at *
  generalize settingsOk t = b1 at *
  generalize leaseOk t.lease = b2 at *
  generalize poolsOk t.pools = b3 at *
  generalize clusterOk t.clu = b4 at *
  generalize provOk t.seen t.insts = b5 at *
  generalize epochsOk t = b6 at *
  generalize wantsOk t = b7 at *
  generalize endsOk t = b8 at *
  generalize msgsOk t = b9 at *
  generalize idsGiven t = ba at *
  have HE := Lib.hid hE
  have H1 := Lib.hid h1
  have H2 := Lib.hid h2
  have H3 := Lib.hid h3
  have H4 := Lib.hid h4
  have H5 := Lib.hid h5
  have H6 := Lib.hid h6
  have H7 := Lib.hid h7
  have H8 := Lib.hid h8
  have H9 := Lib.hid h9
  have Ha := Lib.hid ha
  clear h1 h2 h3 h4 h5 h6 h7 h8 h9 ha hE hw hg
  go_enter Tryz.func17, Tryz.ntmps17
  have HB := Lib.hid (BlockIs.new w 39 #[.int .i64 t.now, .int .i64 t.span, .int .i64 t.kind, .int .i64 t.limit, .int .i64 t.next, .int .i64 t.lease.c, .int .i64 t.lease.m, .int .i64 t.lease.p, .slice A0 t.epochs.length c0, .slice A1 t.pools.length c1, .slice A2 t.clu.tasks.length c2, .slice A3 t.clu.nodes.length c3, .slice A4 t.clu.binds.length c4, .slice A5 t.wants.length c5, .slice A6 t.ends.length c6, .int .i64 t.seen, .slice A7 t.insts.length c7, .slice A8 t.msgs.length c8])
  have hX : Below w.heap.size w (w.alloc (.cells #[.int .i64 t.now, .int .i64 t.span, .int .i64 t.kind, .int .i64 t.limit, .int .i64 t.next, .int .i64 t.lease.c, .int .i64 t.lease.m, .int .i64 t.lease.p, .slice A0 t.epochs.length c0, .slice A1 t.pools.length c1, .slice A2 t.clu.tasks.length c2, .slice A3 t.clu.nodes.length c3, .slice A4 t.clu.binds.length c4, .slice A5 t.wants.length c5, .slice A6 t.ends.length c6, .int .i64 t.seen, .slice A7 t.insts.length c7, .slice A8 t.msgs.length c8] 39)) := (by repeat' (first | exact Below.refl _ _ | refine Below.alloc ?_ ?_ _ | refine Below.setCell ?_ ?_ _ | refine Below.drew ?_ | (apply below_step; assumption) | (simp; done) | (simp; omega) | omega))
  go_wp2_with (refine wpList_load_row rfl 39 _ rfl _ rfl 39 _ (0, 0) _ HB.out Tryz.underlying39 rfl (by kernel_rfl) ?_)
  refine (H1.out ⟨.slice A0 t.epochs.length c0, .slice A1 t.pools.length c1, .slice A2 t.clu.tasks.length c2, .slice A3 t.clu.nodes.length c3, .slice A4 t.clu.binds.length c4, .slice A5 t.wants.length c5, .slice A6 t.ends.length c6, .slice A7 t.insts.length c7, .slice A8 t.msgs.length c8⟩ _).mono ?_
  rintro e w1 ⟨rfl, hb1⟩
  have hC1 := below_of hX hb1
  have B1 := HB.out.below hb1 HB.out.lt
  have x5 := B1.cell 5
  have x6 := B1.cell 6
  have x7 := B1.cell 7
  simp at x5 x6 x7
  have HB := Lib.hid B1
  clear B1 hb1
  cases b1
  · go_wp2_with fail
    go_ret
    exact ⟨by rw [HE.out]; simp, hC1⟩
  go_wp2_with fail
  refine (H2.out _).mono ?_
  rintro e w2 ⟨rfl, hb2⟩
  have hC2 := below_of hC1 hb2
  have B2 := HB.out.below hb2 HB.out.lt
  have x9 := B2.cell 9
  simp at x9
  have HB := Lib.hid B2
  clear B2 hb2
  cases b2
  · go_wp2_with fail
    go_ret
    exact ⟨by rw [HE.out]; simp, hC2⟩
  go_wp2_with fail
  refine (H3.out _ _ (HG.out.below hC2 (Nat.le_refl _)) (HW.out.below hC2).po).mono ?_
  rintro e w3 ⟨rfl, hb3⟩
  have hC3 := below_of hC2 hb3
  have B3 := HB.out.below hb3 HB.out.lt
  have x10 := B3.cell 10
  have x11 := B3.cell 11
  have x12 := B3.cell 12
  simp at x10 x11 x12
  have HB := Lib.hid B3
  clear B3 hb3
  cases b3
  · go_wp2_with fail
    go_ret
    exact ⟨by rw [HE.out]; simp, hC3⟩
  go_wp2_with fail
  refine (H4.out _ _ _ _ (HG.out.below hC3 (Nat.le_refl _)) (HW.out.below hC3).clu).mono ?_
  rintro e w4 ⟨rfl, hb4⟩
  have hC4 := below_of hC3 hb4
  have B4 := HB.out.below hb4 HB.out.lt
  have x15 := B4.cell 15
  have x16 := B4.cell 16
  simp at x15 x16
  have HB := Lib.hid B4
  clear B4 hb4
  cases b4
  · go_wp2_with fail
    go_ret
    exact ⟨by rw [HE.out]; simp, hC4⟩
  go_wp2_with fail
  refine (H5.out _ _ (HW.out.below hC4).ins).mono ?_
  rintro e w5 ⟨rfl, hb5⟩
  have hC5 := below_of hC4 hb5
  have B5 := HB.out.below hb5 HB.out.lt
  have HB := Lib.hid B5
  clear B5 hb5
  cases b5
  · go_wp2_with fail
    go_ret
    exact ⟨by rw [HE.out]; simp, hC5⟩
  go_wp2_with (refine wpList_load_rowG rfl 39 _ rfl _ rfl 39 _ (0, 0) _ HB.out Tryz.underlying39 rfl (by kernel_rfl) ?_)
  refine (H6.out _ _ (HW.out.below hC5)).mono ?_
  rintro e w6 ⟨rfl, hb6⟩
  have hC6 := below_of hC5 hb6
  have B6 := HB.out.below hb6 HB.out.lt
  have HB := Lib.hid B6
  clear B6 hb6
  cases b6
  · go_wp2_with fail
    go_ret
    exact ⟨by rw [HE.out]; simp, hC6⟩
  go_wp2_with (refine wpList_load_rowG rfl 39 _ rfl _ rfl 39 _ (0, 0) _ HB.out Tryz.underlying39 rfl (by kernel_rfl) ?_)
  refine (H7.out _ _ (HW.out.below hC6)).mono ?_
  rintro e w7 ⟨rfl, hb7⟩
  have hC7 := below_of hC6 hb7
  have B7 := HB.out.below hb7 HB.out.lt
  have HB := Lib.hid B7
  clear B7 hb7
  cases b7
  · go_wp2_with fail
    go_ret
    exact ⟨by rw [HE.out]; simp, hC7⟩
  go_wp2_with (refine wpList_load_rowG rfl 39 _ rfl _ rfl 39 _ (0, 0) _ HB.out Tryz.underlying39 rfl (by kernel_rfl) ?_)
  refine (H8.out _ _ (HW.out.below hC7)).mono ?_
  rintro e w8 ⟨rfl, hb8⟩
  have hC8 := below_of hC7 hb8
  have B8 := HB.out.below hb8 HB.out.lt
  have HB := Lib.hid B8
  clear B8 hb8
  cases b8
  · go_wp2_with fail
    go_ret
    exact ⟨by rw [HE.out]; simp, hC8⟩
  go_wp2_with (refine wpList_load_rowG rfl 39 _ rfl _ rfl 39 _ (0, 0) _ HB.out Tryz.underlying39 rfl (by kernel_rfl) ?_)
  refine (H9.out _ _ (HW.out.below hC8)).mono ?_
  rintro e w9 ⟨rfl, hb9⟩
  have hC9 := below_of hC8 hb9
  have B9 := HB.out.below hb9 HB.out.lt
  have HB := Lib.hid B9
  clear B9 hb9
  cases b9
  · go_wp2_with fail
    go_ret
    exact ⟨by rw [HE.out]; simp, hC9⟩
  go_wp2_with (refine wpList_load_rowG rfl 39 _ rfl _ rfl 39 _ (0, 0) _ HB.out Tryz.underlying39 rfl (by kernel_rfl) ?_)
  refine (Ha.out _ _ (HW.out.below hC9)).mono ?_
  rintro e wa ⟨rfl, hba⟩
  have hCa := below_of hC9 hba
  have Ba := HB.out.below hba HB.out.lt
  have HB := Lib.hid Ba
  clear Ba hba
  go_wp2_with fail
  go_ret
  exact ⟨by rw [HE.out]; simp, hCa⟩
end Go.Proofs.YtmkpajjnjgnmkabGreatDoor

namespace Go.Proofs.YtmkpajjnjgnmkabGreatDoor
open Go.RowKit

def worldNew (l : List PV) (kind limit span : Int) : WV := ⟨0, span, kind, limit, 1, ⟨0, 0, 0⟩, [0, 0, 0, 0], l, CV.zero, [], [], 0, [], []⟩
def WV.zero : WV := ⟨0, 0, 0, 0, 0, ⟨0, 0, 0⟩, [], [], CV.zero, [], [], 0, [], []⟩
theorem results_cell_two {fn : Func} {p q : Tmp} {ty : TypeId} (h : fn.results = #[.cell p ty, .tmp q]) (tmps : Array Value) (w : World) (g : Nat) (cs : Array Value) (u : Value)
    (hp : tmps.getD p undef = .pointer (some ⟨g, 0, none⟩)) (hq : tmps.getD q undef = u) (hl : (loadVar ty ⟨g, 0, none⟩).run Tryz.prog w = .ok (.agg cs) w) :
    (results fn tmps).run Tryz.prog w = .ok (.tuple #[.agg cs, u]) w := by
  have hp' : tmps[p]?.getD undef = .pointer (some ⟨g, 0, none⟩) := by simpa using hp
  have hq' : tmps[q]?.getD undef = u := by simpa using hq
  simp [results, h, hp', hq', asAddr, hl]
def RetWldB (w : World) (t : WV) (b : Bool) (e : Ending) (w' : World) : Prop := ∃ s b1 b2 b3 b6, e = .returned (.tuple #[.agg #[.int .i64 t.now, .int .i64 t.span, .int .i64 t.kind, .int .i64 t.limit, .int .i64 t.next, .int .i64 t.lease.c, .int .i64 t.lease.m, .int .i64 t.lease.p, s.ep, s.po, s.ta, s.no, s.bi, s.wa, s.en, .int .i64 t.seen, s.ins, s.ms], .bool b]) ∧ WldO w' t s b1 b2 b3 b6 ∧ (wldB s b1 b2 b3 b6).Nodup ∧ (∀ b ∈ wldB s b1 b2 b3 b6, w.heap.size ≤ b) ∧ Below w.heap.size w w'
theorem WldO.zero (w : World) : WldO w WV.zero ⟨.slice none 0 0, .slice none 0 0, .slice none 0 0, .slice none 0 0, .slice none 0 0, .slice none 0 0, .slice none 0 0, .slice none 0 0, .slice none 0 0⟩ [] [] [] [] := by
  have r : ∀ (T : TypeId) (n : Nat), w.ownsRow 0 T n (.slice none 0 0) 0 [] := fun T n => World.ownsRow_nil w 0 T n
  refine ⟨r _ _, ⟨[], [], r _ _, ⟨rfl, rfl⟩, rfl⟩, ⟨[], [], [], ⟨[], [], r _ _, ⟨rfl, rfl⟩, rfl⟩, ⟨[], [], r _ _, ⟨rfl, rfl⟩, rfl⟩, ⟨[], [], r _ _, ⟨rfl, rfl⟩, rfl⟩, rfl, List.nodup_nil, ?_⟩, ⟨[], [], r _ _, ⟨rfl, rfl⟩, rfl⟩, r _ _, r _ _, ⟨[], [], r _ _, ⟨rfl, rfl⟩, rfl⟩, ?_⟩
  · simp [WV.zero, CV.zero]
  · simp [WV.zero, WV.small]
set_option maxRecDepth 20000 in
set_option maxHeartbeats 6400000 in
theorem WorldNew_any (v : Value) (l : List PV) (kind limit span : Int) (w : World) (x : Addr) (hg : ErrAt x w) (hv : PoolSl w v l) (hl : l.length ≤ 1048576) :
    Calls Tryz.prog 7 #[v, .int .i64 kind, .int .i64 limit, .int .i64 span] w (RetWldB w (if worldOk (worldNew l kind limit span) then worldNew l kind limit span else WV.zero) (worldOk (worldNew l kind limit span))) := by
  have HV := Lib.hid hv
  have HG := Lib.hid hg
  obtain ⟨A, c, rfl, _⟩ := hv.form
  have hmk : ∀ w : World, (Instr.makeSlice 26 (.int .i64 4) (.int .i64 4)).run Tryz.prog w = .ok (.slice (some ⟨w.heap.size, 0, none⟩) 4 4) (w.alloc (.cells #[.int .i64 0, .int .i64 0, .int .i64 0, .int .i64 0] 3)) := fun w => by
    have h := make_int 4 (by omega) w
    rw [show madeCells #[Value.int .i64 0] 4 = #[.int .i64 0, .int .i64 0, .int .i64 0, .int .i64 0] from by kernel_rfl] at h
    exact h
  generalize hok : worldOk (worldNew l kind limit span) = ok
  have HOK := Lib.hid hok
  generalize ht : (if ok = true then worldNew l kind limit span else WV.zero) = t'
  have HT := Lib.hid ht
  clear hv hok ht hg
  have hX3 : Below w.heap.size w (((w.alloc (.cells #[.int .i64 0, .int .i64 0, .int .i64 0, .int .i64 0, .int .i64 0, .int .i64 0, .int .i64 0, .int .i64 0, .slice none 0 0, .slice none 0 0, .slice none 0 0, .slice none 0 0, .slice none 0 0, .slice none 0 0, .slice none 0 0, .int .i64 0, .slice none 0 0, .slice none 0 0] 39)).alloc (.cells #[.int .i64 0, .int .i64 0, .int .i64 0, .int .i64 0] 3)).alloc (.cells #[.int .i64 0, .int .i64 0, .int .i64 0, .int .i64 0, .int .i64 0, .int .i64 0, .int .i64 0, .int .i64 0, .slice none 0 0, .slice none 0 0, .slice none 0 0, .slice none 0 0, .slice none 0 0, .slice none 0 0, .slice none 0 0, .int .i64 0, .slice none 0 0, .slice none 0 0] 39)) := (by repeat' (first | exact Below.refl _ _ | refine Below.alloc ?_ ?_ _ | refine Below.setCell ?_ ?_ _ | refine Below.drew ?_ | (apply below_step; assumption) | (simp; done) | (simp; omega) | omega))
  have B3 : BlockIs (((w.alloc (.cells #[.int .i64 0, .int .i64 0, .int .i64 0, .int .i64 0, .int .i64 0, .int .i64 0, .int .i64 0, .int .i64 0, .slice none 0 0, .slice none 0 0, .slice none 0 0, .slice none 0 0, .slice none 0 0, .slice none 0 0, .slice none 0 0, .int .i64 0, .slice none 0 0, .slice none 0 0] 39)).alloc (.cells #[.int .i64 0, .int .i64 0, .int .i64 0, .int .i64 0] 3)).alloc (.cells #[.int .i64 0, .int .i64 0, .int .i64 0, .int .i64 0, .int .i64 0, .int .i64 0, .int .i64 0, .int .i64 0, .slice none 0 0, .slice none 0 0, .slice none 0 0, .slice none 0 0, .slice none 0 0, .slice none 0 0, .slice none 0 0, .int .i64 0, .slice none 0 0, .slice none 0 0] 39)) (w.heap.size + 1 + 1) 39 #[.int .i64 0, .int .i64 0, .int .i64 0, .int .i64 0, .int .i64 0, .int .i64 0, .int .i64 0, .int .i64 0, .slice none 0 0, .slice none 0 0, .slice none 0 0, .slice none 0 0, .slice none 0 0, .slice none 0 0, .slice none 0 0, .int .i64 0, .slice none 0 0, .slice none 0 0] := BlockIs.new' (by simp)
  have BR3 : BlockIs (((w.alloc (.cells #[.int .i64 0, .int .i64 0, .int .i64 0, .int .i64 0, .int .i64 0, .int .i64 0, .int .i64 0, .int .i64 0, .slice none 0 0, .slice none 0 0, .slice none 0 0, .slice none 0 0, .slice none 0 0, .slice none 0 0, .slice none 0 0, .int .i64 0, .slice none 0 0, .slice none 0 0] 39)).alloc (.cells #[.int .i64 0, .int .i64 0, .int .i64 0, .int .i64 0] 3)).alloc (.cells #[.int .i64 0, .int .i64 0, .int .i64 0, .int .i64 0, .int .i64 0, .int .i64 0, .int .i64 0, .int .i64 0, .slice none 0 0, .slice none 0 0, .slice none 0 0, .slice none 0 0, .slice none 0 0, .slice none 0 0, .slice none 0 0, .int .i64 0, .slice none 0 0, .slice none 0 0] 39)) w.heap.size 39 #[.int .i64 0, .int .i64 0, .int .i64 0, .int .i64 0, .int .i64 0, .int .i64 0, .int .i64 0, .int .i64 0, .slice none 0 0, .slice none 0 0, .slice none 0 0, .slice none 0 0, .slice none 0 0, .slice none 0 0, .slice none 0 0, .int .i64 0, .slice none 0 0, .slice none 0 0] := ((BlockIs.new w _ _).alloc _).alloc _
  have BI3 : BlockIs (((w.alloc (.cells #[.int .i64 0, .int .i64 0, .int .i64 0, .int .i64 0, .int .i64 0, .int .i64 0, .int .i64 0, .int .i64 0, .slice none 0 0, .slice none 0 0, .slice none 0 0, .slice none 0 0, .slice none 0 0, .slice none 0 0, .slice none 0 0, .int .i64 0, .slice none 0 0, .slice none 0 0] 39)).alloc (.cells #[.int .i64 0, .int .i64 0, .int .i64 0, .int .i64 0] 3)).alloc (.cells #[.int .i64 0, .int .i64 0, .int .i64 0, .int .i64 0, .int .i64 0, .int .i64 0, .int .i64 0, .int .i64 0, .slice none 0 0, .slice none 0 0, .slice none 0 0, .slice none 0 0, .slice none 0 0, .slice none 0 0, .slice none 0 0, .int .i64 0, .slice none 0 0, .slice none 0 0] 39)) (w.heap.size + 1) 3 #[.int .i64 0, .int .i64 0, .int .i64 0, .int .i64 0] := (BlockIs.new' (by simp)).alloc _
  have hT3 : TurnB [w.heap.size + 1 + 1] (((w.alloc (.cells #[.int .i64 0, .int .i64 0, .int .i64 0, .int .i64 0, .int .i64 0, .int .i64 0, .int .i64 0, .int .i64 0, .slice none 0 0, .slice none 0 0, .slice none 0 0, .slice none 0 0, .slice none 0 0, .slice none 0 0, .slice none 0 0, .int .i64 0, .slice none 0 0, .slice none 0 0] 39)).alloc (.cells #[.int .i64 0, .int .i64 0, .int .i64 0, .int .i64 0] 3)).alloc (.cells #[.int .i64 0, .int .i64 0, .int .i64 0, .int .i64 0, .int .i64 0, .int .i64 0, .int .i64 0, .int .i64 0, .slice none 0 0, .slice none 0 0, .slice none 0 0, .slice none 0 0, .slice none 0 0, .slice none 0 0, .slice none 0 0, .int .i64 0, .slice none 0 0, .slice none 0 0] 39)) ((((w.alloc (.cells #[.int .i64 0, .int .i64 0, .int .i64 0, .int .i64 0, .int .i64 0, .int .i64 0, .int .i64 0, .int .i64 0, .slice none 0 0, .slice none 0 0, .slice none 0 0, .slice none 0 0, .slice none 0 0, .slice none 0 0, .slice none 0 0, .int .i64 0, .slice none 0 0, .slice none 0 0] 39)).alloc (.cells #[.int .i64 0, .int .i64 0, .int .i64 0, .int .i64 0] 3)).alloc (.cells #[.int .i64 0, .int .i64 0, .int .i64 0, .int .i64 0, .int .i64 0, .int .i64 0, .int .i64 0, .int .i64 0, .slice none 0 0, .slice none 0 0, .slice none 0 0, .slice none 0 0, .slice none 0 0, .slice none 0 0, .slice none 0 0, .int .i64 0, .slice none 0 0, .slice none 0 0] 39)).setRow (w.heap.size + 1 + 1) #[.int .i64 0, .int .i64 span, .int .i64 kind, .int .i64 limit, .int .i64 1, .int .i64 0, .int .i64 0, .int .i64 0, .slice (some ⟨w.heap.size + 1, 0, none⟩) 4 4, .slice A l.length c, .slice none 0 0, .slice none 0 0, .slice none 0 0, .slice none 0 0, .slice none 0 0, .int .i64 0, .slice none 0 0, .slice none 0 0]) := TurnB.setRow (TurnB.refl _ _) (by simp) _
  have BO : BlockIs ((((w.alloc (.cells #[.int .i64 0, .int .i64 0, .int .i64 0, .int .i64 0, .int .i64 0, .int .i64 0, .int .i64 0, .int .i64 0, .slice none 0 0, .slice none 0 0, .slice none 0 0, .slice none 0 0, .slice none 0 0, .slice none 0 0, .slice none 0 0, .int .i64 0, .slice none 0 0, .slice none 0 0] 39)).alloc (.cells #[.int .i64 0, .int .i64 0, .int .i64 0, .int .i64 0] 3)).alloc (.cells #[.int .i64 0, .int .i64 0, .int .i64 0, .int .i64 0, .int .i64 0, .int .i64 0, .int .i64 0, .int .i64 0, .slice none 0 0, .slice none 0 0, .slice none 0 0, .slice none 0 0, .slice none 0 0, .slice none 0 0, .slice none 0 0, .int .i64 0, .slice none 0 0, .slice none 0 0] 39)).setRow (w.heap.size + 1 + 1) #[.int .i64 0, .int .i64 span, .int .i64 kind, .int .i64 limit, .int .i64 1, .int .i64 0, .int .i64 0, .int .i64 0, .slice (some ⟨w.heap.size + 1, 0, none⟩) 4 4, .slice A l.length c, .slice none 0 0, .slice none 0 0, .slice none 0 0, .slice none 0 0, .slice none 0 0, .int .i64 0, .slice none 0 0, .slice none 0 0]) (w.heap.size + 1 + 1) 39 #[.int .i64 0, .int .i64 span, .int .i64 kind, .int .i64 limit, .int .i64 1, .int .i64 0, .int .i64 0, .int .i64 0, .slice (some ⟨w.heap.size + 1, 0, none⟩) 4 4, .slice A l.length c, .slice none 0 0, .slice none 0 0, .slice none 0 0, .slice none 0 0, .slice none 0 0, .int .i64 0, .slice none 0 0, .slice none 0 0] := setRow_heap _ _ _ _ _ _ B3
  have BR := BR3.turn hT3 (by simp; omega)
  have BI := BI3.turn hT3 (by simp)
  have hX := hX3.trans (hT3.below (B := w.heap.size) hX3.size (by simp; omega))
  have HB3 := Lib.hid B3
  have HXX := Lib.hid (And.intro BO (And.intro BR (And.intro BI hX)))
  clear B3 BR3 BI3 hT3 BO BR BI hX hX3
  go_enter Tryz.func7, Tryz.ntmps7
  go_upto_region 2 with (refine wpList_store_row rfl 39 _ _ rfl _ _ rfl rfl 39 _ HB3.out (by kernel_rfl) rfl (by simp [Value.oneCell']) ?_)
  obtain ⟨BO, BR, BI, hX⟩ := HXX.out
  clear HXX HB3
  generalize ((((w.alloc (.cells #[.int .i64 0, .int .i64 0, .int .i64 0, .int .i64 0, .int .i64 0, .int .i64 0, .int .i64 0, .int .i64 0, .slice none 0 0, .slice none 0 0, .slice none 0 0, .slice none 0 0, .slice none 0 0, .slice none 0 0, .slice none 0 0, .int .i64 0, .slice none 0 0, .slice none 0 0] 39)).alloc (.cells #[.int .i64 0, .int .i64 0, .int .i64 0, .int .i64 0] 3)).alloc (.cells #[.int .i64 0, .int .i64 0, .int .i64 0, .int .i64 0, .int .i64 0, .int .i64 0, .int .i64 0, .int .i64 0, .slice none 0 0, .slice none 0 0, .slice none 0 0, .slice none 0 0, .slice none 0 0, .slice none 0 0, .slice none 0 0, .int .i64 0, .slice none 0 0, .slice none 0 0] 39)).setRow (w.heap.size + 1 + 1) #[.int .i64 0, .int .i64 span, .int .i64 kind, .int .i64 limit, .int .i64 1, .int .i64 0, .int .i64 0, .int .i64 0, .slice (some ⟨w.heap.size + 1, 0, none⟩) 4 4, .slice A l.length c, .slice none 0 0, .slice none 0 0, .slice none 0 0, .slice none 0 0, .slice none 0 0, .int .i64 0, .slice none 0 0, .slice none 0 0]) = X at hX BR BI BO ⊢
  have hZ := (WldO.zero X).wld
  have hWX : WldR X (worldNew l kind limit span) ⟨.slice (some ⟨w.heap.size + 1, 0, none⟩) 4 4, .slice A l.length c, .slice none 0 0, .slice none 0 0, .slice none 0 0, .slice none 0 0, .slice none 0 0, .slice none 0 0, .slice none 0 0⟩ := ⟨IntO.sl (intO_of (l := [0, 0, 0, 0]) BI (by decide)), HV.out.below hX, hZ.clu, hZ.wa, hZ.en, hZ.ins, hZ.ms, ⟨by simp [worldNew], hl, by simp [worldNew], by simp [worldNew], by simp [worldNew], by simp [worldNew]⟩⟩
  have hWO := WorldOk_any (worldNew l kind limit span) ⟨.slice (some ⟨w.heap.size + 1, 0, none⟩) 4 4, .slice A l.length c, .slice none 0 0, .slice none 0 0, .slice none 0 0, .slice none 0 0, .slice none 0 0, .slice none 0 0, .slice none 0 0⟩ X x (HG.out.below hX (Nat.le_refl _)) hWX
  rw [HOK.out] at hWO
  have HWO := Lib.hid hWO
  have HBO := Lib.hid BO
  have HBR := Lib.hid BR
  have HWX := Lib.hid hWX
  have lr := BR.lt
  clear BO BR BI hZ hWX hWO hmk
  go_wp2_with (refine wpList_load_row rfl 39 _ rfl _ rfl 39 _ (0, 0) _ HBO.out Tryz.underlying39 rfl (by kernel_rfl) ?_)
  refine HWO.out.mono ?_
  rintro e w1 ⟨rfl, hb1⟩
  have hC1 := below_of hX hb1
  have BO1 := Lib.hid (HBO.out.below hb1 HBO.out.lt)
  have BR1 := Lib.hid (HBR.out.below hb1 HBR.out.lt)
  have HW1 := Lib.hid (HWX.out.below hb1)
  have lr1 := BR1.out.lt
  have hz1 := hb1.size
  clear hb1 HBO HBR HWX HWO
  cases ok
  · have et := HT.out
    simp only [Bool.false_eq_true, if_false] at et
    subst et
    have hF : BlockIs (w1.setRow w.heap.size #[.int .i64 0, .int .i64 0, .int .i64 0, .int .i64 0, .int .i64 0, .int .i64 0, .int .i64 0, .int .i64 0, .slice none 0 0, .slice none 0 0, .slice none 0 0, .slice none 0 0, .slice none 0 0, .slice none 0 0, .slice none 0 0, .int .i64 0, .slice none 0 0, .slice none 0 0]) w.heap.size 39 #[.int .i64 0, .int .i64 0, .int .i64 0, .int .i64 0, .int .i64 0, .int .i64 0, .int .i64 0, .int .i64 0, .slice none 0 0, .slice none 0 0, .slice none 0 0, .slice none 0 0, .slice none 0 0, .slice none 0 0, .slice none 0 0, .int .i64 0, .slice none 0 0, .slice none 0 0] := setRow_heap _ _ _ _ _ _ BR1.out
    have hT : TurnB [w.heap.size] w1 (w1.setRow w.heap.size #[.int .i64 0, .int .i64 0, .int .i64 0, .int .i64 0, .int .i64 0, .int .i64 0, .int .i64 0, .int .i64 0, .slice none 0 0, .slice none 0 0, .slice none 0 0, .slice none 0 0, .slice none 0 0, .slice none 0 0, .slice none 0 0, .int .i64 0, .slice none 0 0, .slice none 0 0]) := TurnB.setRow (TurnB.refl _ _) (by simp) _
    have HF := Lib.hid hF
    have HTT := Lib.hid hT
    clear hF hT
    go_wp2_with (refine wpList_store_row rfl 39 _ _ rfl _ _ rfl rfl 39 _ BR1.out (by kernel_rfl) rfl (by simp [Value.oneCell']) ?_)
    generalize (w1.setRow w.heap.size #[.int .i64 0, .int .i64 0, .int .i64 0, .int .i64 0, .int .i64 0, .int .i64 0, .int .i64 0, .int .i64 0, .slice none 0 0, .slice none 0 0, .slice none 0 0, .slice none 0 0, .slice none 0 0, .slice none 0 0, .slice none 0 0, .int .i64 0, .slice none 0 0, .slice none 0 0]) = wf at HF HTT ⊢
    refine bodyPost_ret (v := .tuple #[.agg #[.int .i64 0, .int .i64 0, .int .i64 0, .int .i64 0, .int .i64 0, .int .i64 0, .int .i64 0, .int .i64 0, .slice none 0 0, .slice none 0 0, .slice none 0 0, .slice none 0 0, .slice none 0 0, .slice none 0 0, .slice none 0 0, .int .i64 0, .slice none 0 0, .slice none 0 0], .bool false]) (results_cell_two Tryz.results7 _ _ w.heap.size _ _ rfl rfl (run_loadVar_row _ w.heap.size 39 39 _ (0, 0) _ HF.out Tryz.underlying39 rfl (by kernel_rfl))) rfl ?_
    exact ⟨⟨.slice none 0 0, .slice none 0 0, .slice none 0 0, .slice none 0 0, .slice none 0 0, .slice none 0 0, .slice none 0 0, .slice none 0 0, .slice none 0 0⟩, [], [], [], [], rfl, WldO.zero _, by simp [wldB, blk, Value.ownBlock], by simp [wldB, blk, Value.ownBlock], hC1.trans (HTT.out.below (B := w.heap.size) hC1.size (by simp))⟩
  · have et := HT.out
    simp only [if_true] at et
    subst et
    go_wp2_with (refine wpList_load_row rfl 39 _ rfl _ rfl 39 _ (0, 0) _ BO1.out Tryz.underlying39 rfl (by kernel_rfl) ?_)
    refine (copyWorld_any _ _ _ HW1.out).mono ?_
    rintro e w2 ⟨s, b1, b2, b3, b6, rfl, hO, hnd, hlo, hb2⟩
    obtain ⟨E0, E1, E2, E3, E4, E5, E6, E7, E8, e0, e1, e2, e3, e4, e5, e6, e7, e8, rfl⟩ := hO.wld.form
    have BR2 := Lib.hid (BR1.out.below hb2 BR1.out.lt)
    have HO := Lib.hid (And.intro hO (And.intro hnd hlo))
    have hC2 := below_of hC1 hb2
    have hF : BlockIs (w2.setRow w.heap.size #[.int .i64 (worldNew l kind limit span).now, .int .i64 (worldNew l kind limit span).span, .int .i64 (worldNew l kind limit span).kind, .int .i64 (worldNew l kind limit span).limit, .int .i64 (worldNew l kind limit span).next, .int .i64 (worldNew l kind limit span).lease.c, .int .i64 (worldNew l kind limit span).lease.m, .int .i64 (worldNew l kind limit span).lease.p, .slice E0 (worldNew l kind limit span).epochs.length e0, .slice E1 (worldNew l kind limit span).pools.length e1, .slice E2 (worldNew l kind limit span).clu.tasks.length e2, .slice E3 (worldNew l kind limit span).clu.nodes.length e3, .slice E4 (worldNew l kind limit span).clu.binds.length e4, .slice E5 (worldNew l kind limit span).wants.length e5, .slice E6 (worldNew l kind limit span).ends.length e6, .int .i64 (worldNew l kind limit span).seen, .slice E7 (worldNew l kind limit span).insts.length e7, .slice E8 (worldNew l kind limit span).msgs.length e8]) w.heap.size 39 #[.int .i64 (worldNew l kind limit span).now, .int .i64 (worldNew l kind limit span).span, .int .i64 (worldNew l kind limit span).kind, .int .i64 (worldNew l kind limit span).limit, .int .i64 (worldNew l kind limit span).next, .int .i64 (worldNew l kind limit span).lease.c, .int .i64 (worldNew l kind limit span).lease.m, .int .i64 (worldNew l kind limit span).lease.p, .slice E0 (worldNew l kind limit span).epochs.length e0, .slice E1 (worldNew l kind limit span).pools.length e1, .slice E2 (worldNew l kind limit span).clu.tasks.length e2, .slice E3 (worldNew l kind limit span).clu.nodes.length e3, .slice E4 (worldNew l kind limit span).clu.binds.length e4, .slice E5 (worldNew l kind limit span).wants.length e5, .slice E6 (worldNew l kind limit span).ends.length e6, .int .i64 (worldNew l kind limit span).seen, .slice E7 (worldNew l kind limit span).insts.length e7, .slice E8 (worldNew l kind limit span).msgs.length e8] := setRow_heap _ _ _ _ _ _ BR2.out
    have hT : TurnB [w.heap.size] w2 (w2.setRow w.heap.size #[.int .i64 (worldNew l kind limit span).now, .int .i64 (worldNew l kind limit span).span, .int .i64 (worldNew l kind limit span).kind, .int .i64 (worldNew l kind limit span).limit, .int .i64 (worldNew l kind limit span).next, .int .i64 (worldNew l kind limit span).lease.c, .int .i64 (worldNew l kind limit span).lease.m, .int .i64 (worldNew l kind limit span).lease.p, .slice E0 (worldNew l kind limit span).epochs.length e0, .slice E1 (worldNew l kind limit span).pools.length e1, .slice E2 (worldNew l kind limit span).clu.tasks.length e2, .slice E3 (worldNew l kind limit span).clu.nodes.length e3, .slice E4 (worldNew l kind limit span).clu.binds.length e4, .slice E5 (worldNew l kind limit span).wants.length e5, .slice E6 (worldNew l kind limit span).ends.length e6, .int .i64 (worldNew l kind limit span).seen, .slice E7 (worldNew l kind limit span).insts.length e7, .slice E8 (worldNew l kind limit span).msgs.length e8]) := TurnB.setRow (TurnB.refl _ _) (by simp) _
    have HF := Lib.hid hF
    have HTT := Lib.hid hT
    clear hF hT hO hnd hlo hb2
    go_wp2_with (refine wpList_store_row rfl 39 _ _ rfl _ _ rfl rfl 39 _ BR2.out (by kernel_rfl) rfl (by simp [Value.oneCell']) ?_)
    generalize (w2.setRow w.heap.size #[.int .i64 (worldNew l kind limit span).now, .int .i64 (worldNew l kind limit span).span, .int .i64 (worldNew l kind limit span).kind, .int .i64 (worldNew l kind limit span).limit, .int .i64 (worldNew l kind limit span).next, .int .i64 (worldNew l kind limit span).lease.c, .int .i64 (worldNew l kind limit span).lease.m, .int .i64 (worldNew l kind limit span).lease.p, .slice E0 (worldNew l kind limit span).epochs.length e0, .slice E1 (worldNew l kind limit span).pools.length e1, .slice E2 (worldNew l kind limit span).clu.tasks.length e2, .slice E3 (worldNew l kind limit span).clu.nodes.length e3, .slice E4 (worldNew l kind limit span).clu.binds.length e4, .slice E5 (worldNew l kind limit span).wants.length e5, .slice E6 (worldNew l kind limit span).ends.length e6, .int .i64 (worldNew l kind limit span).seen, .slice E7 (worldNew l kind limit span).insts.length e7, .slice E8 (worldNew l kind limit span).msgs.length e8]) = wf at HF HTT ⊢
    refine bodyPost_ret (v := .tuple #[.agg #[.int .i64 (worldNew l kind limit span).now, .int .i64 (worldNew l kind limit span).span, .int .i64 (worldNew l kind limit span).kind, .int .i64 (worldNew l kind limit span).limit, .int .i64 (worldNew l kind limit span).next, .int .i64 (worldNew l kind limit span).lease.c, .int .i64 (worldNew l kind limit span).lease.m, .int .i64 (worldNew l kind limit span).lease.p, .slice E0 (worldNew l kind limit span).epochs.length e0, .slice E1 (worldNew l kind limit span).pools.length e1, .slice E2 (worldNew l kind limit span).clu.tasks.length e2, .slice E3 (worldNew l kind limit span).clu.nodes.length e3, .slice E4 (worldNew l kind limit span).clu.binds.length e4, .slice E5 (worldNew l kind limit span).wants.length e5, .slice E6 (worldNew l kind limit span).ends.length e6, .int .i64 (worldNew l kind limit span).seen, .slice E7 (worldNew l kind limit span).insts.length e7, .slice E8 (worldNew l kind limit span).msgs.length e8], .bool true]) (results_cell_two Tryz.results7 _ _ w.heap.size _ _ rfl rfl (run_loadVar_row _ w.heap.size 39 39 _ (0, 0) _ HF.out Tryz.underlying39 rfl (by kernel_rfl))) rfl ?_
    exact ⟨_, b1, b2, b3, b6, rfl, HO.out.1.agree (HTT.out.agree (fun b hb => ⟨HO.out.1.lt b hb, by have := HO.out.2.2 b hb; simp; omega⟩)), HO.out.2.1, fun b hb => by have := HO.out.2.2 b hb; omega, hC2.trans (HTT.out.below (B := w.heap.size) hC2.size (by simp))⟩
end Go.Proofs.YtmkpajjnjgnmkabGreatDoor

namespace Go.Proofs.YtmkpajjnjgnmkabGreatDoor
open Go.RowKit

def OwnsJ (w : World) (base : Nat) (v : Value) (l : List Int) : Prop := w.ownsRow base 3 1 v l.length (intL l)
section
variable {w w' : World} {base : Nat} {v : Value} {l : List Int}
theorem OwnsJ.alloc (h : OwnsJ w base v l) (o : Obj) : OwnsJ (w.alloc o) base v l := World.ownsRow.alloc h o
theorem OwnsJ.nil (w : World) (base : Nat) : OwnsJ w base (.slice none 0 0) [] := World.ownsRow_nil w base _ _
theorem OwnsJ.o (h : OwnsJ w base v l) : IntO w v l := by
  obtain ⟨h1, h2⟩ := h
  refine ⟨h1, ?_⟩
  rcases h2 with h | ⟨g, cap, cur, hv, hg, h⟩
  · exact .inl h
  · exact .inr ⟨g, cap, cur, hv, Nat.zero_le _, h⟩
theorem OwnsJ.below {B : Nat} (h : OwnsJ w base v l) (hb : Below B w w') (hB : w.heap.size ≤ B) : OwnsJ w' base v l := by
  obtain ⟨h1, h2⟩ := h
  refine ⟨h1, ?_⟩
  rcases h2 with h | ⟨g, cap, cur, hv, hg, hh, h⟩
  · exact .inl h
  · have hlt : g < w.heap.size := (Array.getElem?_eq_some_iff.1 hh).1
    exact .inr ⟨g, cap, cur, hv, hg, (hb.block g (by omega)).trans hh, h⟩
end
theorem intL_snoc (l : List Int) (r : Int) : intL (l ++ [r]) = intL l ++ [.int .i64 r] := by simp [intL]
theorem wpList_append_i {ops : Array Oper} {rest : List Oper} {o : Oper} {a : Act} {Q : Exit → Act → World → Prop} (w : World) (hgd : o.guard = none) (s x : Operand)
    (ho : o.op = .call { callee := .builtin .append, args := #[s, x], argTypes := #[26, 26] })
    (base : Nat) (v : Value) (l : List Int) (r : Int) (g : Nat) (hs : a.eval s = v) (hown : OwnsJ w base v l) (hx : a.eval x = .slice (some ⟨g, 0, none⟩) 1 1)
    (h0 : w.cell? ⟨g, 0, none⟩ = some (.int .i64 r)) (hl : l.length ≤ 2000000) (hbase : base ≤ w.heap.size)
    (h : ∀ v' w', OwnsJ w' base v' (l ++ [r]) → Below base w w' → wpList Tryz.prog ops Q rest (a.put o.dst v') w') : wpList Tryz.prog ops Q (o :: rest) a w := by
  obtain ⟨i0, hi0, hz0, hz1, hz2⟩ := info_parts Tryz.infoI
  refine wpList_append_own w hgd s x 26 ho base 3 i0 _ 1 8 Tryz.underlying26 hi0 hz0 hz1 hz2 rfl (by omega) v l.length (intL l) hs hown ⟨g, 0, none⟩ 1 1 [.int .i64 r] hx rfl ?_ ?_ (by simp only [maxLen]; omega) (by omega) hbase ?_
  · intro j u hj
    match j, hj with
    | 0, hj => simp at hj; subst hj; simpa [Addr.add] using h0
  · intro u hu
    simp at hu
    subst hu; rfl
  · intro v' w' hown' hgrow _
    refine h v' w' ?_ ((Below.refl _ _).grown hgrow hbase (fun k hk => (World.ownsRow.lt hown k hk).1))
    unfold OwnsJ
    rw [intL_snoc, List.length_append]
    exact hown'
end Go.Proofs.YtmkpajjnjgnmkabGreatDoor

namespace Go.Proofs.YtmkpajjnjgnmkabGreatDoor
open Go.RowKit

theorem l03IdP_any (n : Int) (w : World) : Calls Tryz.prog 94 #[.int .i64 n] w fun e w' => e = .returned (.bool (lWithin n 1 99)) ∧ w = w' := by
  unfold lWithin
  generalize e1 : decide ((1 : Int) ≤ n) = b1
  cases b1
  all_goals
    go_enter Tryz.func94, Tryz.ntmps94
    go_wp2
    go_ret
    exact ⟨by simp, rfl⟩
theorem instIn_eq6 (r : RV) (b1 b2 b3 b4 b5 : Bool) (h1 : lWithin r.c 1 99 = b1) (h2 : decide (r.m < 0) = b2) (h3 : decide (5 ≤ r.m) = b3) (h4 : (r.p != 1) = b4) (h5 : (r.p != 2) = b5) : instIn r = (b1 && (!b2 && !b3) && !(b4 && b5)) := by
  subst h1 h2 h3 h4 h5
  unfold instIn lWithin
  rw [Bool.eq_iff_iff]
  simp
  omega
theorem provOk_eq4 (ep : Int) (l : List RV) (b0 b1 b2 b3 : Bool) (h0 : decide (ep < 0) = b0) (h1 : decide (1000 < ep) = b1) (h2 : decide (60 < (l.length : Int)) = b2) (h3 : provFrom 0 l = b3) : provOk ep l = (!b0 && !b1 && !b2 && b3) := by
  rw [provOk_eq ep l (!b0 && !b1) b2 b3 ?_ h2 h3]
  subst h0 h1
  unfold lWithin
  by_cases h : ep < 0 <;> by_cases h' : 1000 < ep <;> simp [h, h'] <;> omega
theorem pfrom_step {last : Int} {l : List RV} {k : Nat} {r : RV} (h : provFrom 0 l = provFrom last (l.drop k)) (hr : l[k]? = some r) : provFrom 0 l = (instIn r && decide (last < r.c) && provFrom r.c (l.drop (k + 1))) := h.trans (provFrom_step hr)
set_option maxRecDepth 20000 in
set_option maxHeartbeats 6400000 in
theorem sProvOk_any (ep : Int) (v : Value) (l : List RV) (w : World) (hv : InSl w v l) : Calls Tryz.prog 44 #[.agg #[.int .i64 ep, v]] w fun e w' => e = .returned (.bool (provOk ep l)) ∧ Below w.heap.size w w' := by
  obtain ⟨A, c, rfl, hA⟩ := hv.form
  have HA := Lib.hid hA
  clear hA hv
  have HE := Lib.hid (provOk_eq4 ep l)
  generalize e0 : decide (ep < 0) = b0
  generalize e1 : decide (1000 < ep) = b1
  generalize e2 : decide (60 < (l.length : Int)) = b2
  have HE' := Lib.hid (fun b3 => HE.out _ _ _ b3 e0 e1 e2)
  clear HE
  go_enter Tryz.func44, Tryz.ntmps44
  cases b0
  rotate_left
  · go_wp2_with fail
    go_ret
    exact ⟨by rw [HE'.out _ rfl]; simp, (by repeat' (first | exact Below.refl _ _ | refine Below.alloc ?_ ?_ _ | refine Below.setCell ?_ ?_ _ | refine Below.drew ?_ | (apply below_step; assumption) | (simp; done) | (simp; omega) | omega))⟩
  cases b1
  rotate_left
  · go_wp2_with fail
    go_ret
    exact ⟨by rw [HE'.out _ rfl]; simp, (by repeat' (first | exact Below.refl _ _ | refine Below.alloc ?_ ?_ _ | refine Below.setCell ?_ ?_ _ | refine Below.drew ?_ | (apply below_step; assumption) | (simp; done) | (simp; omega) | omega))⟩
  cases b2
  rotate_left
  · go_wp2_with fail
    go_ret
    exact ⟨by rw [HE'.out _ rfl]; simp, (by repeat' (first | exact Below.refl _ _ | refine Below.alloc ?_ ?_ _ | refine Below.setCell ?_ ?_ _ | refine Below.drew ?_ | (apply below_step; assumption) | (simp; done) | (simp; omega) | omega))⟩
  have hl60 : l.length ≤ 60 := by have := of_decide_eq_false e2; omega
  have HS := Lib.hid (show provOk ep l = provFrom 0 l by rw [HE'.out _ rfl]; simp)
  clear HE'
  go_wp2_with fail
  go_loopw [3] (fun s3 wr => ∃ k : Nat, k ≤ l.length ∧ s3 = .int .i64 k ∧ (∃ p : Int, provFrom 0 l = provFrom p (l.drop k) ∧ ((k = 0 ∧ p = 0) ∨ ∃ m r0, k = m + 1 ∧ l[m]? = some r0 ∧ p = r0.c)) ∧ BlockIs wr w.heap.size 36 #[.int .i64 ep, .slice A l.length c] ∧ Below w.heap.size w wr) (fun s3 _ => (l.length - RowKit.intOf s3).toNat)
  case atStart => exact ⟨0, by omega, rfl, ⟨0, by simp, .inl ⟨rfl, rfl⟩⟩, BlockIs.new _ _ _, (by repeat' (first | exact Below.refl _ _ | refine Below.alloc ?_ ?_ _ | refine Below.setCell ?_ ?_ _ | refine Below.drew ?_ | (apply below_step; assumption) | (simp; done) | (simp; omega) | omega))⟩
  case round =>
    obtain ⟨k, hk, rfl, hts, hblk, hB⟩ := hrel
    have HTS := Lib.hid hts
    have HBK := Lib.hid hblk
    have hzr := hB.size
    have gc := hblk.cell
    have gl := hblk.lt
    have g1 := gc 1
    simp at g1
    clear hts hblk
    by_cases hlt : k < l.length
    · obtain ⟨b, off, rfl, hbw, hat⟩ := HA.out (by omega)
      obtain ⟨r, hr⟩ : ∃ r, l[k]? = some r := ⟨_, List.getElem?_eq_getElem hlt⟩
      obtain ⟨q0, q1, q2⟩ := (hat.below hB hbw) k r hr
      have HR := Lib.hid hr
      have hki : (k : Int) < (l.length : Int) := by omega
      have hk0 : (0 : Int) ≤ (k : Int) := by omega
      have hbr : b < wr.heap.size := by omega
      have hid := fun w => l03IdP_any r.c w
      have HAT := Lib.hid hat
      have HII := Lib.hid (instIn_eq6 r)
      have HI1 := Lib.hid (lWithin_iff (n := r.c) (a := 1) (b := 99)).1
      clear hat hr
      go_upto_region 7 with fail
      have hAX : Below wr.heap.size wr (wr.alloc (.cells #[.int .i64 r.c, .int .i64 r.m, .int .i64 r.p] 95)) := (Below.refl _ _).alloc (Nat.le_refl _) _
      have hBX : Below w.heap.size w (wr.alloc (.cells #[.int .i64 r.c, .int .i64 r.m, .int .i64 r.p] 95)) := below_of hB hAX
      have BX : BlockIs (wr.alloc (.cells #[.int .i64 r.c, .int .i64 r.m, .int .i64 r.p] 95)) wr.heap.size 95 #[.int .i64 r.c, .int .i64 r.m, .int .i64 r.p] := BlockIs.new _ _ _
      have AX := HBK.out.below hAX gl
      generalize (wr.alloc (.cells #[.int .i64 r.c, .int .i64 r.m, .int .i64 r.p] 95)) = X at hAX hBX BX AX ⊢
      have hzX := hAX.size
      have hbX : b < X.heap.size := by omega
      have HK := Lib.hid (show ∀ w', Below X.heap.size X w' → Below X.heap.size X w' ∧ (∀ o, w'.cell? ⟨w.heap.size, o, none⟩ = (#[.int .i64 ep, .slice (some ⟨b, off, none⟩) l.length c] : Array Value)[o]?) ∧ (∀ o, w'.cell? ⟨wr.heap.size, o, none⟩ = (#[.int .i64 r.c, .int .i64 r.m, .int .i64 r.p] : Array Value)[o]?) from fun w' hb => ⟨hb, (AX.below hb AX.lt).cell, (BX.below hb BX.lt).cell⟩)
      have hXl := BX.lt
      clear BX AX q0 q1 q2 gc g1
      generalize lWithin r.c 1 99 = b1 at *
      have HID := Lib.hid hid
      clear hid
      cases b1
      · have HIE := Lib.hid (HII.out _ _ _ _ _ rfl rfl rfl rfl rfl)
        have HBI := Lib.hid (show instIn r = false by rw [HIE.out]; simp)
        refine wp_region_held_drew (S := (fun w' => Below X.heap.size X w' ∧ (∀ o, w'.cell? ⟨w.heap.size, o, none⟩ = (#[.int .i64 ep, .slice (some ⟨b, off, none⟩) l.length c] : Array Value)[o]?) ∧ (∀ o, w'.cell? ⟨wr.heap.size, o, none⟩ = (#[.int .i64 r.c, .int .i64 r.m, .int .i64 r.p] : Array Value)[o]?))) (by kernel_rfl) (by (try dsimp only); exact HK.out _ (by repeat' (first | exact Below.refl _ _ | refine Below.alloc ?_ ?_ _ | refine Below.setCell ?_ ?_ _ | refine Below.drew ?_ | (apply below_step; assumption) | (simp; done) | (simp; omega) | omega))) (fun hHeld => ?_)
        refine hT 0 ?_; simp only [Act.put, rhA, rhS, rhT]
        refine hT 1 ?_; simp only [Act.put, rhA, rhS, rhT]
        refine hCall (i := 2) (o := ?a4) ?b4 (by kernel_rfl) ?c4 (fun K hK => ?d4)
        case b4 => simp only [rhN, rhM]; try rfl
        case c4 => rfl
        go_simp
        refine (HID.out _).mono ?_
        rintro e w3 ⟨rfl, rfl⟩
        go_wp2_with fail
        refine hK.out _ _ (by (try dsimp only); exact HK.out _ (by repeat' (first | exact Below.refl _ _ | refine Below.alloc ?_ ?_ _ | refine Below.setCell ?_ ?_ _ | refine Below.drew ?_ | (apply below_step; assumption) | (simp; done) | (simp; omega) | omega))) (fun hHeld => ?_)
        clear hK K
        try simp only [Act.put, rhA, rhS, rhT]
        refine hT 3 ?_; simp only [Act.put, rhA, rhS, rhT]
        refine hT 4 ?_; simp only [Act.put, rhA, rhS, rhT]
        refine hP 5 ?_; simp only [Act.put, rhA, rhS, rhT]
        refine hP 6 ?_; simp only [Act.put, rhA, rhS, rhT]
        refine hP 7 ?_; simp only [Act.put, rhA, rhS, rhT]
        refine hT 8 ?_; simp only [Act.put, rhA, rhS, rhT]
        refine hT 9 ?_; simp only [Act.put, rhA, rhS, rhT]
        refine hP 10 ?_; simp only [Act.put, rhA, rhS, rhT]
        refine hP 11 ?_; simp only [Act.put, rhA, rhS, rhT]
        refine hP 12 ?_; simp only [Act.put, rhA, rhS, rhT]
        refine hT 13 ?_; simp only [Act.put, rhA, rhS, rhT]
        refine hT 14 ?_; simp only [Act.put, rhA, rhS, rhT]
        refine hP 15 ?_; simp only [Act.put, rhA, rhS, rhT]
        refine hP 16 ?_; simp only [Act.put, rhA, rhS, rhT]
        refine hP 17 ?_; simp only [Act.put, rhA, rhS, rhT]
        refine hP 18 ?_; simp only [Act.put, rhA, rhS, rhT]
        refine hP 19 ?_; simp only [Act.put, rhA, rhS, rhT]
        refine hP 20 ?_; simp only [Act.put, rhA, rhS, rhT]
        refine hP 21 ?_; simp only [Act.put, rhA, rhS, rhT]
        refine hP 22 ?_; simp only [Act.put, rhA, rhS, rhT]
        refine hT 23 ?_; simp only [Act.put, rhA, rhS, rhT]
        refine hT 24 ?_; simp only [Act.put, rhA, rhS, rhT]
        refine hP 25 ?_; simp only [Act.put, rhA, rhS, rhT]
        refine hP 26 ?_; simp only [Act.put, rhA, rhS, rhT]
        refine hP 27 ?_; simp only [Act.put, rhA, rhS, rhT]
        refine hP 28 ?_; simp only [Act.put, rhA, rhS, rhT]
        refine hP 29 ?_; simp only [Act.put, rhA, rhS, rhT]
        refine hP 30 ?_; simp only [Act.put, rhA, rhS, rhT]
        refine hP 31 ?_; simp only [Act.put, rhA, rhS, rhT]
        refine hP 32 ?_; simp only [Act.put, rhA, rhS, rhT]
        refine hP 33 ?_; simp only [Act.put, rhA, rhS, rhT]
        refine hP 34 ?_; simp only [Act.put, rhA, rhS, rhT]
        refine hP 35 ?_; simp only [Act.put, rhA, rhS, rhT]
        refine hP 36 ?_; simp only [Act.put, rhA, rhS, rhT]
        refine hP 37 ?_; simp only [Act.put, rhA, rhS, rhT]
        refine hP 38 ?_; simp only [Act.put, rhA, rhS, rhT]
        refine hT 39 ?_; simp only [Act.put, rhA, rhS, rhT]
        refine wpAnyH_done (by kernel_rfl) ?_ _
        go_wp2_with fail
        go_ret
        refine ⟨?_, below_of hBX (by repeat' (first | exact Below.refl _ _ | refine Below.alloc ?_ ?_ _ | refine Below.setCell ?_ ?_ _ | refine Below.drew ?_ | (apply below_step; assumption) | (simp; done) | (simp; omega) | omega))⟩
        obtain ⟨p, hp, _⟩ := HTS.out
        rw [HS.out, pfrom_step hp HR.out, HBI.out]; rfl
      obtain ⟨i1, i2⟩ := HI1.out rfl
      generalize e4 : decide (r.m < 0) = b2
      cases b2
      rotate_left
      · have HIE := Lib.hid (HII.out _ _ _ _ _ rfl e4 rfl rfl rfl)
        have HBI := Lib.hid (show instIn r = false by rw [HIE.out]; simp)
        refine wp_region_held_drew (S := (fun w' => Below X.heap.size X w' ∧ (∀ o, w'.cell? ⟨w.heap.size, o, none⟩ = (#[.int .i64 ep, .slice (some ⟨b, off, none⟩) l.length c] : Array Value)[o]?) ∧ (∀ o, w'.cell? ⟨wr.heap.size, o, none⟩ = (#[.int .i64 r.c, .int .i64 r.m, .int .i64 r.p] : Array Value)[o]?))) (by kernel_rfl) (by (try dsimp only); exact HK.out _ (by repeat' (first | exact Below.refl _ _ | refine Below.alloc ?_ ?_ _ | refine Below.setCell ?_ ?_ _ | refine Below.drew ?_ | (apply below_step; assumption) | (simp; done) | (simp; omega) | omega))) (fun hHeld => ?_)
        refine hT 0 ?_; simp only [Act.put, rhA, rhS, rhT]
        refine hT 1 ?_; simp only [Act.put, rhA, rhS, rhT]
        refine hCall (i := 2) (o := ?a58) ?b58 (by kernel_rfl) ?c58 (fun K hK => ?d58)
        case b58 => simp only [rhN, rhM]; try rfl
        case c58 => rfl
        go_simp
        refine (HID.out _).mono ?_
        rintro e w3 ⟨rfl, rfl⟩
        go_wp2_with fail
        refine hK.out _ _ (by (try dsimp only); exact HK.out _ (by repeat' (first | exact Below.refl _ _ | refine Below.alloc ?_ ?_ _ | refine Below.setCell ?_ ?_ _ | refine Below.drew ?_ | (apply below_step; assumption) | (simp; done) | (simp; omega) | omega))) (fun hHeld => ?_)
        clear hK K
        try simp only [Act.put, rhA, rhS, rhT]
        refine hT 3 ?_; simp only [Act.put, rhA, rhS, rhT]
        refine hT 4 ?_; simp only [Act.put, rhA, rhS, rhT]
        refine hT 5 ?_; simp only [Act.put, rhA, rhS, rhT]
        refine hT 6 ?_; simp only [Act.put, rhA, rhS, rhT]
        refine hT 7 ?_; simp only [Act.put, rhA, rhS, rhT]
        refine hT 8 ?_; simp only [Act.put, rhA, rhS, rhT]
        refine hT 9 ?_; simp only [Act.put, rhA, rhS, rhT]
        refine hP 10 ?_; simp only [Act.put, rhA, rhS, rhT]
        refine hP 11 ?_; simp only [Act.put, rhA, rhS, rhT]
        refine hP 12 ?_; simp only [Act.put, rhA, rhS, rhT]
        refine hT 13 ?_; simp only [Act.put, rhA, rhS, rhT]
        refine hT 14 ?_; simp only [Act.put, rhA, rhS, rhT]
        refine hP 15 ?_; simp only [Act.put, rhA, rhS, rhT]
        refine hP 16 ?_; simp only [Act.put, rhA, rhS, rhT]
        refine hP 17 ?_; simp only [Act.put, rhA, rhS, rhT]
        refine hP 18 ?_; simp only [Act.put, rhA, rhS, rhT]
        refine hP 19 ?_; simp only [Act.put, rhA, rhS, rhT]
        refine hP 20 ?_; simp only [Act.put, rhA, rhS, rhT]
        refine hP 21 ?_; simp only [Act.put, rhA, rhS, rhT]
        refine hP 22 ?_; simp only [Act.put, rhA, rhS, rhT]
        refine hT 23 ?_; simp only [Act.put, rhA, rhS, rhT]
        refine hT 24 ?_; simp only [Act.put, rhA, rhS, rhT]
        refine hP 25 ?_; simp only [Act.put, rhA, rhS, rhT]
        refine hP 26 ?_; simp only [Act.put, rhA, rhS, rhT]
        refine hP 27 ?_; simp only [Act.put, rhA, rhS, rhT]
        refine hP 28 ?_; simp only [Act.put, rhA, rhS, rhT]
        refine hP 29 ?_; simp only [Act.put, rhA, rhS, rhT]
        refine hP 30 ?_; simp only [Act.put, rhA, rhS, rhT]
        refine hP 31 ?_; simp only [Act.put, rhA, rhS, rhT]
        refine hP 32 ?_; simp only [Act.put, rhA, rhS, rhT]
        refine hP 33 ?_; simp only [Act.put, rhA, rhS, rhT]
        refine hP 34 ?_; simp only [Act.put, rhA, rhS, rhT]
        refine hP 35 ?_; simp only [Act.put, rhA, rhS, rhT]
        refine hP 36 ?_; simp only [Act.put, rhA, rhS, rhT]
        refine hP 37 ?_; simp only [Act.put, rhA, rhS, rhT]
        refine hP 38 ?_; simp only [Act.put, rhA, rhS, rhT]
        refine hT 39 ?_; simp only [Act.put, rhA, rhS, rhT]
        refine wpAnyH_done (by kernel_rfl) ?_ _
        go_wp2_with fail
        go_ret
        refine ⟨?_, below_of hBX (by repeat' (first | exact Below.refl _ _ | refine Below.alloc ?_ ?_ _ | refine Below.setCell ?_ ?_ _ | refine Below.drew ?_ | (apply below_step; assumption) | (simp; done) | (simp; omega) | omega))⟩
        obtain ⟨p, hp, _⟩ := HTS.out
        rw [HS.out, pfrom_step hp HR.out, HBI.out]; rfl
      generalize e5 : decide (5 ≤ r.m) = b3
      cases b3
      rotate_left
      · have HIE := Lib.hid (HII.out _ _ _ _ _ rfl e4 e5 rfl rfl)
        have HBI := Lib.hid (show instIn r = false by rw [HIE.out]; simp)
        refine wp_region_held_drew (S := (fun w' => Below X.heap.size X w' ∧ (∀ o, w'.cell? ⟨w.heap.size, o, none⟩ = (#[.int .i64 ep, .slice (some ⟨b, off, none⟩) l.length c] : Array Value)[o]?) ∧ (∀ o, w'.cell? ⟨wr.heap.size, o, none⟩ = (#[.int .i64 r.c, .int .i64 r.m, .int .i64 r.p] : Array Value)[o]?))) (by kernel_rfl) (by (try dsimp only); exact HK.out _ (by repeat' (first | exact Below.refl _ _ | refine Below.alloc ?_ ?_ _ | refine Below.setCell ?_ ?_ _ | refine Below.drew ?_ | (apply below_step; assumption) | (simp; done) | (simp; omega) | omega))) (fun hHeld => ?_)
        refine hT 0 ?_; simp only [Act.put, rhA, rhS, rhT]
        refine hT 1 ?_; simp only [Act.put, rhA, rhS, rhT]
        refine hCall (i := 2) (o := ?a112) ?b112 (by kernel_rfl) ?c112 (fun K hK => ?d112)
        case b112 => simp only [rhN, rhM]; try rfl
        case c112 => rfl
        go_simp
        refine (HID.out _).mono ?_
        rintro e w3 ⟨rfl, rfl⟩
        go_wp2_with fail
        refine hK.out _ _ (by (try dsimp only); exact HK.out _ (by repeat' (first | exact Below.refl _ _ | refine Below.alloc ?_ ?_ _ | refine Below.setCell ?_ ?_ _ | refine Below.drew ?_ | (apply below_step; assumption) | (simp; done) | (simp; omega) | omega))) (fun hHeld => ?_)
        clear hK K
        try simp only [Act.put, rhA, rhS, rhT]
        refine hT 3 ?_; simp only [Act.put, rhA, rhS, rhT]
        refine hT 4 ?_; simp only [Act.put, rhA, rhS, rhT]
        refine hT 5 ?_; simp only [Act.put, rhA, rhS, rhT]
        refine hT 6 ?_; simp only [Act.put, rhA, rhS, rhT]
        refine hT 7 ?_; simp only [Act.put, rhA, rhS, rhT]
        refine hT 8 ?_; simp only [Act.put, rhA, rhS, rhT]
        refine hT 9 ?_; simp only [Act.put, rhA, rhS, rhT]
        refine hT 10 ?_; simp only [Act.put, rhA, rhS, rhT]
        refine hT 11 ?_; simp only [Act.put, rhA, rhS, rhT]
        refine hT 12 ?_; simp only [Act.put, rhA, rhS, rhT]
        refine hT 13 ?_; simp only [Act.put, rhA, rhS, rhT]
        refine hT 14 ?_; simp only [Act.put, rhA, rhS, rhT]
        refine hP 15 ?_; simp only [Act.put, rhA, rhS, rhT]
        refine hP 16 ?_; simp only [Act.put, rhA, rhS, rhT]
        refine hP 17 ?_; simp only [Act.put, rhA, rhS, rhT]
        refine hP 18 ?_; simp only [Act.put, rhA, rhS, rhT]
        refine hP 19 ?_; simp only [Act.put, rhA, rhS, rhT]
        refine hP 20 ?_; simp only [Act.put, rhA, rhS, rhT]
        refine hP 21 ?_; simp only [Act.put, rhA, rhS, rhT]
        refine hP 22 ?_; simp only [Act.put, rhA, rhS, rhT]
        refine hT 23 ?_; simp only [Act.put, rhA, rhS, rhT]
        refine hT 24 ?_; simp only [Act.put, rhA, rhS, rhT]
        refine hP 25 ?_; simp only [Act.put, rhA, rhS, rhT]
        refine hP 26 ?_; simp only [Act.put, rhA, rhS, rhT]
        refine hP 27 ?_; simp only [Act.put, rhA, rhS, rhT]
        refine hP 28 ?_; simp only [Act.put, rhA, rhS, rhT]
        refine hP 29 ?_; simp only [Act.put, rhA, rhS, rhT]
        refine hP 30 ?_; simp only [Act.put, rhA, rhS, rhT]
        refine hP 31 ?_; simp only [Act.put, rhA, rhS, rhT]
        refine hP 32 ?_; simp only [Act.put, rhA, rhS, rhT]
        refine hP 33 ?_; simp only [Act.put, rhA, rhS, rhT]
        refine hP 34 ?_; simp only [Act.put, rhA, rhS, rhT]
        refine hP 35 ?_; simp only [Act.put, rhA, rhS, rhT]
        refine hP 36 ?_; simp only [Act.put, rhA, rhS, rhT]
        refine hP 37 ?_; simp only [Act.put, rhA, rhS, rhT]
        refine hP 38 ?_; simp only [Act.put, rhA, rhS, rhT]
        refine hT 39 ?_; simp only [Act.put, rhA, rhS, rhT]
        refine wpAnyH_done (by kernel_rfl) ?_ _
        go_wp2_with fail
        go_ret
        refine ⟨?_, below_of hBX (by repeat' (first | exact Below.refl _ _ | refine Below.alloc ?_ ?_ _ | refine Below.setCell ?_ ?_ _ | refine Below.drew ?_ | (apply below_step; assumption) | (simp; done) | (simp; omega) | omega))⟩
        obtain ⟨p, hp, _⟩ := HTS.out
        rw [HS.out, pfrom_step hp HR.out, HBI.out]; rfl
      generalize e6 : (r.p != 1) = b4
      cases b4
      · have HBI := Lib.hid (show instIn r = true by rw [HII.out _ _ _ _ _ rfl e4 e5 e6 rfl]; simp)
        obtain ⟨p, hp, hcase⟩ := HTS.out
        have HP := Lib.hid hp
        clear hp HTS
        rcases hcase with ⟨rfl, rfl⟩ | ⟨m, r0, hkm, hm0, rfl⟩
        · skip
          refine wp_region_held_drew (S := (fun w' => Below X.heap.size X w' ∧ (∀ o, w'.cell? ⟨w.heap.size, o, none⟩ = (#[.int .i64 ep, .slice (some ⟨b, off, none⟩) l.length c] : Array Value)[o]?) ∧ (∀ o, w'.cell? ⟨wr.heap.size, o, none⟩ = (#[.int .i64 r.c, .int .i64 r.m, .int .i64 r.p] : Array Value)[o]?))) (by kernel_rfl) (by (try dsimp only); exact HK.out _ (by repeat' (first | exact Below.refl _ _ | refine Below.alloc ?_ ?_ _ | refine Below.setCell ?_ ?_ _ | refine Below.drew ?_ | (apply below_step; assumption) | (simp; done) | (simp; omega) | omega))) (fun hHeld => ?_)
          refine hT 0 ?_; simp only [Act.put, rhA, rhS, rhT]
          refine hT 1 ?_; simp only [Act.put, rhA, rhS, rhT]
          refine hCall (i := 2) (o := ?a166) ?b166 (by kernel_rfl) ?c166 (fun K hK => ?d166)
          case b166 => simp only [rhN, rhM]; try rfl
          case c166 => rfl
          go_simp
          refine (HID.out _).mono ?_
          rintro e w3 ⟨rfl, rfl⟩
          go_wp2_with fail
          refine hK.out _ _ (by (try dsimp only); exact HK.out _ (by repeat' (first | exact Below.refl _ _ | refine Below.alloc ?_ ?_ _ | refine Below.setCell ?_ ?_ _ | refine Below.drew ?_ | (apply below_step; assumption) | (simp; done) | (simp; omega) | omega))) (fun hHeld => ?_)
          clear hK K
          try simp only [Act.put, rhA, rhS, rhT]
          refine hT 3 ?_; simp only [Act.put, rhA, rhS, rhT]
          refine hT 4 ?_; simp only [Act.put, rhA, rhS, rhT]
          refine hT 5 ?_; simp only [Act.put, rhA, rhS, rhT]
          refine hT 6 ?_; simp only [Act.put, rhA, rhS, rhT]
          refine hT 7 ?_; simp only [Act.put, rhA, rhS, rhT]
          refine hT 8 ?_; simp only [Act.put, rhA, rhS, rhT]
          refine hT 9 ?_; simp only [Act.put, rhA, rhS, rhT]
          refine hT 10 ?_; simp only [Act.put, rhA, rhS, rhT]
          refine hT 11 ?_; simp only [Act.put, rhA, rhS, rhT]
          refine hT 12 ?_; simp only [Act.put, rhA, rhS, rhT]
          refine hT 13 ?_; simp only [Act.put, rhA, rhS, rhT]
          refine hT 14 ?_; simp only [Act.put, rhA, rhS, rhT]
          refine hT 15 ?_; simp only [Act.put, rhA, rhS, rhT]
          refine hT 16 ?_; simp only [Act.put, rhA, rhS, rhT]
          refine hT 17 ?_; simp only [Act.put, rhA, rhS, rhT]
          refine hT 18 ?_; simp only [Act.put, rhA, rhS, rhT]
          refine hP 19 ?_; simp only [Act.put, rhA, rhS, rhT]
          refine hP 20 ?_; simp only [Act.put, rhA, rhS, rhT]
          refine hP 21 ?_; simp only [Act.put, rhA, rhS, rhT]
          refine hT 22 ?_; simp only [Act.put, rhA, rhS, rhT]
          refine hT 23 ?_; simp only [Act.put, rhA, rhS, rhT]
          refine hT 24 ?_; simp only [Act.put, rhA, rhS, rhT]
          refine hT 25 ?_; simp only [Act.put, rhA, rhS, rhT]
          refine hT 26 ?_; simp only [Act.put, rhA, rhS, rhT]
          refine hT 27 ?_; simp only [Act.put, rhA, rhS, rhT]
          refine hP 28 ?_; simp only [Act.put, rhA, rhS, rhT]
          refine hP 29 ?_; simp only [Act.put, rhA, rhS, rhT]
          refine hP 30 ?_; simp only [Act.put, rhA, rhS, rhT]
          refine hP 31 ?_; simp only [Act.put, rhA, rhS, rhT]
          refine hP 32 ?_; simp only [Act.put, rhA, rhS, rhT]
          refine hP 33 ?_; simp only [Act.put, rhA, rhS, rhT]
          refine hP 34 ?_; simp only [Act.put, rhA, rhS, rhT]
          refine hP 35 ?_; simp only [Act.put, rhA, rhS, rhT]
          refine hP 36 ?_; simp only [Act.put, rhA, rhS, rhT]
          refine hP 37 ?_; simp only [Act.put, rhA, rhS, rhT]
          refine hT 38 ?_; simp only [Act.put, rhA, rhS, rhT]
          refine hT 39 ?_; simp only [Act.put, rhA, rhS, rhT]
          refine wpAnyH_done (by kernel_rfl) ?_ _
          go_wp2_with fail
          go_roundw
          case rel =>
            refine ⟨1, by omega, by go_num, ⟨r.c, ?_, .inr ⟨0, r, rfl, HR.out, rfl⟩⟩, HBK.out.below (below_of hAX (by repeat' (first | exact Below.refl _ _ | refine Below.alloc ?_ ?_ _ | refine Below.setCell ?_ ?_ _ | refine Below.drew ?_ | (apply below_step; assumption) | (simp; done) | (simp; omega) | omega))) gl, below_of hBX (by repeat' (first | exact Below.refl _ _ | refine Below.alloc ?_ ?_ _ | refine Below.setCell ?_ ?_ _ | refine Below.drew ?_ | (apply below_step; assumption) | (simp; done) | (simp; omega) | omega))⟩
            rw [pfrom_step HP.out HR.out, HBI.out, show decide (0 < r.c) = true by simp; omega]; rfl
          case measure => simp [RowKit.intOf]; omega
        · have p0 := ((HAT.out.below hB hbw) m r0 hm0).1
          have hgt : 0 < k := by omega
          have hgti : (0 : Int) < (k : Int) := by omega
          have hwr : IntKind.i64.wrap ((k : Int) - 1) = (m : Int) := by rw [IntWalk.i64_in _ (by omega)]; omega
          have hmi : (m : Int) < (l.length : Int) := by omega
          have hm0' : (0 : Int) ≤ (m : Int) := by omega
          have HKM := Lib.hid hkm
          have HM0 := Lib.hid hm0
          have pX : X.cell? ⟨b, off + m * 3, none⟩ = some (.int .i64 r0.c) := (hAX.cell (p := ⟨_, _, none⟩) hbr).trans p0
          have HK1 := Lib.hid (show ∀ w', Below X.heap.size X w' → Below X.heap.size X w' ∧ (∀ o, w'.cell? ⟨w.heap.size, o, none⟩ = (#[.int .i64 ep, .slice (some ⟨b, off, none⟩) l.length c] : Array Value)[o]?) ∧ (∀ o, w'.cell? ⟨wr.heap.size, o, none⟩ = (#[.int .i64 r.c, .int .i64 r.m, .int .i64 r.p] : Array Value)[o]?) ∧ w'.cell? ⟨b, off + m * 3, none⟩ = some (.int .i64 r0.c) from fun w' hb => ⟨(HK.out w' hb).1, (HK.out w' hb).2.1, (HK.out w' hb).2.2, (hb.cell (p := ⟨b, off + m * 3, none⟩) hbX).trans pX⟩)
          clear hkm hm0 p0
          cases hge : decide (r.c ≤ r0.c)
          · have HGE := Lib.hid (show r0.c < r.c by simpa using hge)
            refine wp_region_held_drew (S := (fun w' => Below X.heap.size X w' ∧ (∀ o, w'.cell? ⟨w.heap.size, o, none⟩ = (#[.int .i64 ep, .slice (some ⟨b, off, none⟩) l.length c] : Array Value)[o]?) ∧ (∀ o, w'.cell? ⟨wr.heap.size, o, none⟩ = (#[.int .i64 r.c, .int .i64 r.m, .int .i64 r.p] : Array Value)[o]?) ∧ w'.cell? ⟨b, off + m * 3, none⟩ = some (.int .i64 r0.c))) (by kernel_rfl) (by (try dsimp only); exact HK1.out _ (by repeat' (first | exact Below.refl _ _ | refine Below.alloc ?_ ?_ _ | refine Below.setCell ?_ ?_ _ | refine Below.drew ?_ | (apply below_step; assumption) | (simp; done) | (simp; omega) | omega))) (fun hHeld => ?_)
            refine hT 0 ?_; simp only [Act.put, rhA, rhS, rhT]
            refine hT 1 ?_; simp only [Act.put, rhA, rhS, rhT]
            refine hCall (i := 2) (o := ?a224) ?b224 (by kernel_rfl) ?c224 (fun K hK => ?d224)
            case b224 => simp only [rhN, rhM]; try rfl
            case c224 => rfl
            go_simp
            refine (HID.out _).mono ?_
            rintro e w3 ⟨rfl, rfl⟩
            go_wp2_with fail
            refine hK.out _ _ (by (try dsimp only); exact HK1.out _ (by repeat' (first | exact Below.refl _ _ | refine Below.alloc ?_ ?_ _ | refine Below.setCell ?_ ?_ _ | refine Below.drew ?_ | (apply below_step; assumption) | (simp; done) | (simp; omega) | omega))) (fun hHeld => ?_)
            clear hK K
            try simp only [Act.put, rhA, rhS, rhT]
            refine hT 3 ?_; simp only [Act.put, rhA, rhS, rhT]
            refine hT 4 ?_; simp only [Act.put, rhA, rhS, rhT]
            refine hT 5 ?_; simp only [Act.put, rhA, rhS, rhT]
            refine hT 6 ?_; simp only [Act.put, rhA, rhS, rhT]
            refine hT 7 ?_; simp only [Act.put, rhA, rhS, rhT]
            refine hT 8 ?_; simp only [Act.put, rhA, rhS, rhT]
            refine hT 9 ?_; simp only [Act.put, rhA, rhS, rhT]
            refine hT 10 ?_; simp only [Act.put, rhA, rhS, rhT]
            refine hT 11 ?_; simp only [Act.put, rhA, rhS, rhT]
            refine hT 12 ?_; simp only [Act.put, rhA, rhS, rhT]
            refine hT 13 ?_; simp only [Act.put, rhA, rhS, rhT]
            refine hT 14 ?_; simp only [Act.put, rhA, rhS, rhT]
            refine hT 15 ?_; simp only [Act.put, rhA, rhS, rhT]
            refine hT 16 ?_; simp only [Act.put, rhA, rhS, rhT]
            refine hT 17 ?_; simp only [Act.put, rhA, rhS, rhT]
            refine hT 18 ?_; simp only [Act.put, rhA, rhS, rhT]
            refine hP 19 ?_; simp only [Act.put, rhA, rhS, rhT]
            refine hP 20 ?_; simp only [Act.put, rhA, rhS, rhT]
            refine hP 21 ?_; simp only [Act.put, rhA, rhS, rhT]
            refine hT 22 ?_; simp only [Act.put, rhA, rhS, rhT]
            refine hT 23 ?_; simp only [Act.put, rhA, rhS, rhT]
            refine hT 24 ?_; simp only [Act.put, rhA, rhS, rhT]
            refine hT 25 ?_; simp only [Act.put, rhA, rhS, rhT]
            refine hT 26 ?_; simp only [Act.put, rhA, rhS, rhT]
            refine hT 27 ?_; simp only [Act.put, rhA, rhS, rhT]
            refine hT 28 ?_; simp only [Act.put, rhA, rhS, rhT]
            refine hT 29 ?_; simp only [Act.put, rhA, rhS, rhT]
            refine hT 30 ?_; simp only [Act.put, rhA, rhS, rhT]
            refine hT 31 ?_; simp only [Act.put, rhA, rhS, rhT]
            refine hT 32 ?_; simp only [Act.put, rhA, rhS, rhT]
            refine hT 33 ?_; simp only [Act.put, rhA, rhS, rhT]
            refine hT 34 ?_; simp only [Act.put, rhA, rhS, rhT]
            refine hT 35 ?_; simp only [Act.put, rhA, rhS, rhT]
            refine hT 36 ?_; simp only [Act.put, rhA, rhS, rhT]
            refine hT 37 ?_; simp only [Act.put, rhA, rhS, rhT]
            refine hT 38 ?_; simp only [Act.put, rhA, rhS, rhT]
            refine hT 39 ?_; simp only [Act.put, rhA, rhS, rhT]
            refine wpAnyH_done (by kernel_rfl) ?_ _
            go_wp2_with fail
            go_roundw
            case rel =>
              refine ⟨k + 1, by omega, by go_num, ⟨r.c, ?_, .inr ⟨k, r, rfl, HR.out, rfl⟩⟩, HBK.out.below (below_of hAX (by repeat' (first | exact Below.refl _ _ | refine Below.alloc ?_ ?_ _ | refine Below.setCell ?_ ?_ _ | refine Below.drew ?_ | (apply below_step; assumption) | (simp; done) | (simp; omega) | omega))) gl, below_of hBX (by repeat' (first | exact Below.refl _ _ | refine Below.alloc ?_ ?_ _ | refine Below.setCell ?_ ?_ _ | refine Below.drew ?_ | (apply below_step; assumption) | (simp; done) | (simp; omega) | omega))⟩
              rw [pfrom_step HP.out HR.out, HBI.out, show decide (r0.c < r.c) = true by simpa using HGE.out]; rfl
            case measure => simp [RowKit.intOf]; omega
          · have HGE := Lib.hid (show ¬ r0.c < r.c by have := of_decide_eq_true hge; omega)
            refine wp_region_held_drew (S := (fun w' => Below X.heap.size X w' ∧ (∀ o, w'.cell? ⟨w.heap.size, o, none⟩ = (#[.int .i64 ep, .slice (some ⟨b, off, none⟩) l.length c] : Array Value)[o]?) ∧ (∀ o, w'.cell? ⟨wr.heap.size, o, none⟩ = (#[.int .i64 r.c, .int .i64 r.m, .int .i64 r.p] : Array Value)[o]?) ∧ w'.cell? ⟨b, off + m * 3, none⟩ = some (.int .i64 r0.c))) (by kernel_rfl) (by (try dsimp only); exact HK1.out _ (by repeat' (first | exact Below.refl _ _ | refine Below.alloc ?_ ?_ _ | refine Below.setCell ?_ ?_ _ | refine Below.drew ?_ | (apply below_step; assumption) | (simp; done) | (simp; omega) | omega))) (fun hHeld => ?_)
            refine hT 0 ?_; simp only [Act.put, rhA, rhS, rhT]
            refine hT 1 ?_; simp only [Act.put, rhA, rhS, rhT]
            refine hCall (i := 2) (o := ?a282) ?b282 (by kernel_rfl) ?c282 (fun K hK => ?d282)
            case b282 => simp only [rhN, rhM]; try rfl
            case c282 => rfl
            go_simp
            refine (HID.out _).mono ?_
            rintro e w3 ⟨rfl, rfl⟩
            go_wp2_with fail
            refine hK.out _ _ (by (try dsimp only); exact HK1.out _ (by repeat' (first | exact Below.refl _ _ | refine Below.alloc ?_ ?_ _ | refine Below.setCell ?_ ?_ _ | refine Below.drew ?_ | (apply below_step; assumption) | (simp; done) | (simp; omega) | omega))) (fun hHeld => ?_)
            clear hK K
            try simp only [Act.put, rhA, rhS, rhT]
            refine hT 3 ?_; simp only [Act.put, rhA, rhS, rhT]
            refine hT 4 ?_; simp only [Act.put, rhA, rhS, rhT]
            refine hT 5 ?_; simp only [Act.put, rhA, rhS, rhT]
            refine hT 6 ?_; simp only [Act.put, rhA, rhS, rhT]
            refine hT 7 ?_; simp only [Act.put, rhA, rhS, rhT]
            refine hT 8 ?_; simp only [Act.put, rhA, rhS, rhT]
            refine hT 9 ?_; simp only [Act.put, rhA, rhS, rhT]
            refine hT 10 ?_; simp only [Act.put, rhA, rhS, rhT]
            refine hT 11 ?_; simp only [Act.put, rhA, rhS, rhT]
            refine hT 12 ?_; simp only [Act.put, rhA, rhS, rhT]
            refine hT 13 ?_; simp only [Act.put, rhA, rhS, rhT]
            refine hT 14 ?_; simp only [Act.put, rhA, rhS, rhT]
            refine hT 15 ?_; simp only [Act.put, rhA, rhS, rhT]
            refine hT 16 ?_; simp only [Act.put, rhA, rhS, rhT]
            refine hT 17 ?_; simp only [Act.put, rhA, rhS, rhT]
            refine hT 18 ?_; simp only [Act.put, rhA, rhS, rhT]
            refine hP 19 ?_; simp only [Act.put, rhA, rhS, rhT]
            refine hP 20 ?_; simp only [Act.put, rhA, rhS, rhT]
            refine hP 21 ?_; simp only [Act.put, rhA, rhS, rhT]
            refine hT 22 ?_; simp only [Act.put, rhA, rhS, rhT]
            refine hT 23 ?_; simp only [Act.put, rhA, rhS, rhT]
            refine hT 24 ?_; simp only [Act.put, rhA, rhS, rhT]
            refine hT 25 ?_; simp only [Act.put, rhA, rhS, rhT]
            refine hT 26 ?_; simp only [Act.put, rhA, rhS, rhT]
            refine hT 27 ?_; simp only [Act.put, rhA, rhS, rhT]
            refine hT 28 ?_; simp only [Act.put, rhA, rhS, rhT]
            refine hT 29 ?_; simp only [Act.put, rhA, rhS, rhT]
            refine hT 30 ?_; simp only [Act.put, rhA, rhS, rhT]
            refine hT 31 ?_; simp only [Act.put, rhA, rhS, rhT]
            refine hT 32 ?_; simp only [Act.put, rhA, rhS, rhT]
            refine hT 33 ?_; simp only [Act.put, rhA, rhS, rhT]
            refine hT 34 ?_; simp only [Act.put, rhA, rhS, rhT]
            refine hT 35 ?_; simp only [Act.put, rhA, rhS, rhT]
            refine hT 36 ?_; simp only [Act.put, rhA, rhS, rhT]
            refine hT 37 ?_; simp only [Act.put, rhA, rhS, rhT]
            refine hT 38 ?_; simp only [Act.put, rhA, rhS, rhT]
            refine hT 39 ?_; simp only [Act.put, rhA, rhS, rhT]
            refine wpAnyH_done (by kernel_rfl) ?_ _
            go_wp2_with fail
            go_ret
            refine ⟨?_, below_of hBX (by repeat' (first | exact Below.refl _ _ | refine Below.alloc ?_ ?_ _ | refine Below.setCell ?_ ?_ _ | refine Below.drew ?_ | (apply below_step; assumption) | (simp; done) | (simp; omega) | omega))⟩
            rw [HS.out, pfrom_step HP.out HR.out, HBI.out, show decide (r0.c < r.c) = false by simpa using HGE.out]; rfl
      generalize e7 : (r.p != 2) = b5
      cases b5
      rotate_left
      · have HIE := Lib.hid (HII.out _ _ _ _ _ rfl e4 e5 e6 e7)
        have HBI := Lib.hid (show instIn r = false by rw [HIE.out]; simp)
        refine wp_region_held_drew (S := (fun w' => Below X.heap.size X w' ∧ (∀ o, w'.cell? ⟨w.heap.size, o, none⟩ = (#[.int .i64 ep, .slice (some ⟨b, off, none⟩) l.length c] : Array Value)[o]?) ∧ (∀ o, w'.cell? ⟨wr.heap.size, o, none⟩ = (#[.int .i64 r.c, .int .i64 r.m, .int .i64 r.p] : Array Value)[o]?))) (by kernel_rfl) (by (try dsimp only); exact HK.out _ (by repeat' (first | exact Below.refl _ _ | refine Below.alloc ?_ ?_ _ | refine Below.setCell ?_ ?_ _ | refine Below.drew ?_ | (apply below_step; assumption) | (simp; done) | (simp; omega) | omega))) (fun hHeld => ?_)
        refine hT 0 ?_; simp only [Act.put, rhA, rhS, rhT]
        refine hT 1 ?_; simp only [Act.put, rhA, rhS, rhT]
        refine hCall (i := 2) (o := ?a340) ?b340 (by kernel_rfl) ?c340 (fun K hK => ?d340)
        case b340 => simp only [rhN, rhM]; try rfl
        case c340 => rfl
        go_simp
        refine (HID.out _).mono ?_
        rintro e w3 ⟨rfl, rfl⟩
        go_wp2_with fail
        refine hK.out _ _ (by (try dsimp only); exact HK.out _ (by repeat' (first | exact Below.refl _ _ | refine Below.alloc ?_ ?_ _ | refine Below.setCell ?_ ?_ _ | refine Below.drew ?_ | (apply below_step; assumption) | (simp; done) | (simp; omega) | omega))) (fun hHeld => ?_)
        clear hK K
        try simp only [Act.put, rhA, rhS, rhT]
        refine hT 3 ?_; simp only [Act.put, rhA, rhS, rhT]
        refine hT 4 ?_; simp only [Act.put, rhA, rhS, rhT]
        refine hT 5 ?_; simp only [Act.put, rhA, rhS, rhT]
        refine hT 6 ?_; simp only [Act.put, rhA, rhS, rhT]
        refine hT 7 ?_; simp only [Act.put, rhA, rhS, rhT]
        refine hT 8 ?_; simp only [Act.put, rhA, rhS, rhT]
        refine hT 9 ?_; simp only [Act.put, rhA, rhS, rhT]
        refine hT 10 ?_; simp only [Act.put, rhA, rhS, rhT]
        refine hT 11 ?_; simp only [Act.put, rhA, rhS, rhT]
        refine hT 12 ?_; simp only [Act.put, rhA, rhS, rhT]
        refine hT 13 ?_; simp only [Act.put, rhA, rhS, rhT]
        refine hT 14 ?_; simp only [Act.put, rhA, rhS, rhT]
        refine hT 15 ?_; simp only [Act.put, rhA, rhS, rhT]
        refine hT 16 ?_; simp only [Act.put, rhA, rhS, rhT]
        refine hT 17 ?_; simp only [Act.put, rhA, rhS, rhT]
        refine hT 18 ?_; simp only [Act.put, rhA, rhS, rhT]
        refine hT 19 ?_; simp only [Act.put, rhA, rhS, rhT]
        refine hT 20 ?_; simp only [Act.put, rhA, rhS, rhT]
        refine hT 21 ?_; simp only [Act.put, rhA, rhS, rhT]
        refine hT 22 ?_; simp only [Act.put, rhA, rhS, rhT]
        refine hT 23 ?_; simp only [Act.put, rhA, rhS, rhT]
        refine hT 24 ?_; simp only [Act.put, rhA, rhS, rhT]
        refine hP 25 ?_; simp only [Act.put, rhA, rhS, rhT]
        refine hP 26 ?_; simp only [Act.put, rhA, rhS, rhT]
        refine hP 27 ?_; simp only [Act.put, rhA, rhS, rhT]
        refine hP 28 ?_; simp only [Act.put, rhA, rhS, rhT]
        refine hP 29 ?_; simp only [Act.put, rhA, rhS, rhT]
        refine hP 30 ?_; simp only [Act.put, rhA, rhS, rhT]
        refine hP 31 ?_; simp only [Act.put, rhA, rhS, rhT]
        refine hP 32 ?_; simp only [Act.put, rhA, rhS, rhT]
        refine hP 33 ?_; simp only [Act.put, rhA, rhS, rhT]
        refine hP 34 ?_; simp only [Act.put, rhA, rhS, rhT]
        refine hP 35 ?_; simp only [Act.put, rhA, rhS, rhT]
        refine hP 36 ?_; simp only [Act.put, rhA, rhS, rhT]
        refine hP 37 ?_; simp only [Act.put, rhA, rhS, rhT]
        refine hP 38 ?_; simp only [Act.put, rhA, rhS, rhT]
        refine hT 39 ?_; simp only [Act.put, rhA, rhS, rhT]
        refine wpAnyH_done (by kernel_rfl) ?_ _
        go_wp2_with fail
        go_ret
        refine ⟨?_, below_of hBX (by repeat' (first | exact Below.refl _ _ | refine Below.alloc ?_ ?_ _ | refine Below.setCell ?_ ?_ _ | refine Below.drew ?_ | (apply below_step; assumption) | (simp; done) | (simp; omega) | omega))⟩
        obtain ⟨p, hp, _⟩ := HTS.out
        rw [HS.out, pfrom_step hp HR.out, HBI.out]; rfl
      · have HBI := Lib.hid (show instIn r = true by rw [HII.out _ _ _ _ _ rfl e4 e5 e6 e7]; simp)
        obtain ⟨p, hp, hcase⟩ := HTS.out
        have HP := Lib.hid hp
        clear hp HTS
        rcases hcase with ⟨rfl, rfl⟩ | ⟨m, r0, hkm, hm0, rfl⟩
        · skip
          refine wp_region_held_drew (S := (fun w' => Below X.heap.size X w' ∧ (∀ o, w'.cell? ⟨w.heap.size, o, none⟩ = (#[.int .i64 ep, .slice (some ⟨b, off, none⟩) l.length c] : Array Value)[o]?) ∧ (∀ o, w'.cell? ⟨wr.heap.size, o, none⟩ = (#[.int .i64 r.c, .int .i64 r.m, .int .i64 r.p] : Array Value)[o]?))) (by kernel_rfl) (by (try dsimp only); exact HK.out _ (by repeat' (first | exact Below.refl _ _ | refine Below.alloc ?_ ?_ _ | refine Below.setCell ?_ ?_ _ | refine Below.drew ?_ | (apply below_step; assumption) | (simp; done) | (simp; omega) | omega))) (fun hHeld => ?_)
          refine hT 0 ?_; simp only [Act.put, rhA, rhS, rhT]
          refine hT 1 ?_; simp only [Act.put, rhA, rhS, rhT]
          refine hCall (i := 2) (o := ?a396) ?b396 (by kernel_rfl) ?c396 (fun K hK => ?d396)
          case b396 => simp only [rhN, rhM]; try rfl
          case c396 => rfl
          go_simp
          refine (HID.out _).mono ?_
          rintro e w3 ⟨rfl, rfl⟩
          go_wp2_with fail
          refine hK.out _ _ (by (try dsimp only); exact HK.out _ (by repeat' (first | exact Below.refl _ _ | refine Below.alloc ?_ ?_ _ | refine Below.setCell ?_ ?_ _ | refine Below.drew ?_ | (apply below_step; assumption) | (simp; done) | (simp; omega) | omega))) (fun hHeld => ?_)
          clear hK K
          try simp only [Act.put, rhA, rhS, rhT]
          refine hT 3 ?_; simp only [Act.put, rhA, rhS, rhT]
          refine hT 4 ?_; simp only [Act.put, rhA, rhS, rhT]
          refine hT 5 ?_; simp only [Act.put, rhA, rhS, rhT]
          refine hT 6 ?_; simp only [Act.put, rhA, rhS, rhT]
          refine hT 7 ?_; simp only [Act.put, rhA, rhS, rhT]
          refine hT 8 ?_; simp only [Act.put, rhA, rhS, rhT]
          refine hT 9 ?_; simp only [Act.put, rhA, rhS, rhT]
          refine hT 10 ?_; simp only [Act.put, rhA, rhS, rhT]
          refine hT 11 ?_; simp only [Act.put, rhA, rhS, rhT]
          refine hT 12 ?_; simp only [Act.put, rhA, rhS, rhT]
          refine hT 13 ?_; simp only [Act.put, rhA, rhS, rhT]
          refine hT 14 ?_; simp only [Act.put, rhA, rhS, rhT]
          refine hT 15 ?_; simp only [Act.put, rhA, rhS, rhT]
          refine hT 16 ?_; simp only [Act.put, rhA, rhS, rhT]
          refine hT 17 ?_; simp only [Act.put, rhA, rhS, rhT]
          refine hT 18 ?_; simp only [Act.put, rhA, rhS, rhT]
          refine hT 19 ?_; simp only [Act.put, rhA, rhS, rhT]
          refine hT 20 ?_; simp only [Act.put, rhA, rhS, rhT]
          refine hT 21 ?_; simp only [Act.put, rhA, rhS, rhT]
          refine hT 22 ?_; simp only [Act.put, rhA, rhS, rhT]
          refine hT 23 ?_; simp only [Act.put, rhA, rhS, rhT]
          refine hT 24 ?_; simp only [Act.put, rhA, rhS, rhT]
          refine hT 25 ?_; simp only [Act.put, rhA, rhS, rhT]
          refine hT 26 ?_; simp only [Act.put, rhA, rhS, rhT]
          refine hT 27 ?_; simp only [Act.put, rhA, rhS, rhT]
          refine hP 28 ?_; simp only [Act.put, rhA, rhS, rhT]
          refine hP 29 ?_; simp only [Act.put, rhA, rhS, rhT]
          refine hP 30 ?_; simp only [Act.put, rhA, rhS, rhT]
          refine hP 31 ?_; simp only [Act.put, rhA, rhS, rhT]
          refine hP 32 ?_; simp only [Act.put, rhA, rhS, rhT]
          refine hP 33 ?_; simp only [Act.put, rhA, rhS, rhT]
          refine hP 34 ?_; simp only [Act.put, rhA, rhS, rhT]
          refine hP 35 ?_; simp only [Act.put, rhA, rhS, rhT]
          refine hP 36 ?_; simp only [Act.put, rhA, rhS, rhT]
          refine hP 37 ?_; simp only [Act.put, rhA, rhS, rhT]
          refine hT 38 ?_; simp only [Act.put, rhA, rhS, rhT]
          refine hT 39 ?_; simp only [Act.put, rhA, rhS, rhT]
          refine wpAnyH_done (by kernel_rfl) ?_ _
          go_wp2_with fail
          go_roundw
          case rel =>
            refine ⟨1, by omega, by go_num, ⟨r.c, ?_, .inr ⟨0, r, rfl, HR.out, rfl⟩⟩, HBK.out.below (below_of hAX (by repeat' (first | exact Below.refl _ _ | refine Below.alloc ?_ ?_ _ | refine Below.setCell ?_ ?_ _ | refine Below.drew ?_ | (apply below_step; assumption) | (simp; done) | (simp; omega) | omega))) gl, below_of hBX (by repeat' (first | exact Below.refl _ _ | refine Below.alloc ?_ ?_ _ | refine Below.setCell ?_ ?_ _ | refine Below.drew ?_ | (apply below_step; assumption) | (simp; done) | (simp; omega) | omega))⟩
            rw [pfrom_step HP.out HR.out, HBI.out, show decide (0 < r.c) = true by simp; omega]; rfl
          case measure => simp [RowKit.intOf]; omega
        · have p0 := ((HAT.out.below hB hbw) m r0 hm0).1
          have hgt : 0 < k := by omega
          have hgti : (0 : Int) < (k : Int) := by omega
          have hwr : IntKind.i64.wrap ((k : Int) - 1) = (m : Int) := by rw [IntWalk.i64_in _ (by omega)]; omega
          have hmi : (m : Int) < (l.length : Int) := by omega
          have hm0' : (0 : Int) ≤ (m : Int) := by omega
          have HKM := Lib.hid hkm
          have HM0 := Lib.hid hm0
          have pX : X.cell? ⟨b, off + m * 3, none⟩ = some (.int .i64 r0.c) := (hAX.cell (p := ⟨_, _, none⟩) hbr).trans p0
          have HK1 := Lib.hid (show ∀ w', Below X.heap.size X w' → Below X.heap.size X w' ∧ (∀ o, w'.cell? ⟨w.heap.size, o, none⟩ = (#[.int .i64 ep, .slice (some ⟨b, off, none⟩) l.length c] : Array Value)[o]?) ∧ (∀ o, w'.cell? ⟨wr.heap.size, o, none⟩ = (#[.int .i64 r.c, .int .i64 r.m, .int .i64 r.p] : Array Value)[o]?) ∧ w'.cell? ⟨b, off + m * 3, none⟩ = some (.int .i64 r0.c) from fun w' hb => ⟨(HK.out w' hb).1, (HK.out w' hb).2.1, (HK.out w' hb).2.2, (hb.cell (p := ⟨b, off + m * 3, none⟩) hbX).trans pX⟩)
          clear hkm hm0 p0
          cases hge : decide (r.c ≤ r0.c)
          · have HGE := Lib.hid (show r0.c < r.c by simpa using hge)
            refine wp_region_held_drew (S := (fun w' => Below X.heap.size X w' ∧ (∀ o, w'.cell? ⟨w.heap.size, o, none⟩ = (#[.int .i64 ep, .slice (some ⟨b, off, none⟩) l.length c] : Array Value)[o]?) ∧ (∀ o, w'.cell? ⟨wr.heap.size, o, none⟩ = (#[.int .i64 r.c, .int .i64 r.m, .int .i64 r.p] : Array Value)[o]?) ∧ w'.cell? ⟨b, off + m * 3, none⟩ = some (.int .i64 r0.c))) (by kernel_rfl) (by (try dsimp only); exact HK1.out _ (by repeat' (first | exact Below.refl _ _ | refine Below.alloc ?_ ?_ _ | refine Below.setCell ?_ ?_ _ | refine Below.drew ?_ | (apply below_step; assumption) | (simp; done) | (simp; omega) | omega))) (fun hHeld => ?_)
            refine hT 0 ?_; simp only [Act.put, rhA, rhS, rhT]
            refine hT 1 ?_; simp only [Act.put, rhA, rhS, rhT]
            refine hCall (i := 2) (o := ?a454) ?b454 (by kernel_rfl) ?c454 (fun K hK => ?d454)
            case b454 => simp only [rhN, rhM]; try rfl
            case c454 => rfl
            go_simp
            refine (HID.out _).mono ?_
            rintro e w3 ⟨rfl, rfl⟩
            go_wp2_with fail
            refine hK.out _ _ (by (try dsimp only); exact HK1.out _ (by repeat' (first | exact Below.refl _ _ | refine Below.alloc ?_ ?_ _ | refine Below.setCell ?_ ?_ _ | refine Below.drew ?_ | (apply below_step; assumption) | (simp; done) | (simp; omega) | omega))) (fun hHeld => ?_)
            clear hK K
            try simp only [Act.put, rhA, rhS, rhT]
            refine hT 3 ?_; simp only [Act.put, rhA, rhS, rhT]
            refine hT 4 ?_; simp only [Act.put, rhA, rhS, rhT]
            refine hT 5 ?_; simp only [Act.put, rhA, rhS, rhT]
            refine hT 6 ?_; simp only [Act.put, rhA, rhS, rhT]
            refine hT 7 ?_; simp only [Act.put, rhA, rhS, rhT]
            refine hT 8 ?_; simp only [Act.put, rhA, rhS, rhT]
            refine hT 9 ?_; simp only [Act.put, rhA, rhS, rhT]
            refine hT 10 ?_; simp only [Act.put, rhA, rhS, rhT]
            refine hT 11 ?_; simp only [Act.put, rhA, rhS, rhT]
            refine hT 12 ?_; simp only [Act.put, rhA, rhS, rhT]
            refine hT 13 ?_; simp only [Act.put, rhA, rhS, rhT]
            refine hT 14 ?_; simp only [Act.put, rhA, rhS, rhT]
            refine hT 15 ?_; simp only [Act.put, rhA, rhS, rhT]
            refine hT 16 ?_; simp only [Act.put, rhA, rhS, rhT]
            refine hT 17 ?_; simp only [Act.put, rhA, rhS, rhT]
            refine hT 18 ?_; simp only [Act.put, rhA, rhS, rhT]
            refine hT 19 ?_; simp only [Act.put, rhA, rhS, rhT]
            refine hT 20 ?_; simp only [Act.put, rhA, rhS, rhT]
            refine hT 21 ?_; simp only [Act.put, rhA, rhS, rhT]
            refine hT 22 ?_; simp only [Act.put, rhA, rhS, rhT]
            refine hT 23 ?_; simp only [Act.put, rhA, rhS, rhT]
            refine hT 24 ?_; simp only [Act.put, rhA, rhS, rhT]
            refine hT 25 ?_; simp only [Act.put, rhA, rhS, rhT]
            refine hT 26 ?_; simp only [Act.put, rhA, rhS, rhT]
            refine hT 27 ?_; simp only [Act.put, rhA, rhS, rhT]
            refine hT 28 ?_; simp only [Act.put, rhA, rhS, rhT]
            refine hT 29 ?_; simp only [Act.put, rhA, rhS, rhT]
            refine hT 30 ?_; simp only [Act.put, rhA, rhS, rhT]
            refine hT 31 ?_; simp only [Act.put, rhA, rhS, rhT]
            refine hT 32 ?_; simp only [Act.put, rhA, rhS, rhT]
            refine hT 33 ?_; simp only [Act.put, rhA, rhS, rhT]
            refine hT 34 ?_; simp only [Act.put, rhA, rhS, rhT]
            refine hT 35 ?_; simp only [Act.put, rhA, rhS, rhT]
            refine hT 36 ?_; simp only [Act.put, rhA, rhS, rhT]
            refine hT 37 ?_; simp only [Act.put, rhA, rhS, rhT]
            refine hT 38 ?_; simp only [Act.put, rhA, rhS, rhT]
            refine hT 39 ?_; simp only [Act.put, rhA, rhS, rhT]
            refine wpAnyH_done (by kernel_rfl) ?_ _
            go_wp2_with fail
            go_roundw
            case rel =>
              refine ⟨k + 1, by omega, by go_num, ⟨r.c, ?_, .inr ⟨k, r, rfl, HR.out, rfl⟩⟩, HBK.out.below (below_of hAX (by repeat' (first | exact Below.refl _ _ | refine Below.alloc ?_ ?_ _ | refine Below.setCell ?_ ?_ _ | refine Below.drew ?_ | (apply below_step; assumption) | (simp; done) | (simp; omega) | omega))) gl, below_of hBX (by repeat' (first | exact Below.refl _ _ | refine Below.alloc ?_ ?_ _ | refine Below.setCell ?_ ?_ _ | refine Below.drew ?_ | (apply below_step; assumption) | (simp; done) | (simp; omega) | omega))⟩
              rw [pfrom_step HP.out HR.out, HBI.out, show decide (r0.c < r.c) = true by simpa using HGE.out]; rfl
            case measure => simp [RowKit.intOf]; omega
          · have HGE := Lib.hid (show ¬ r0.c < r.c by have := of_decide_eq_true hge; omega)
            refine wp_region_held_drew (S := (fun w' => Below X.heap.size X w' ∧ (∀ o, w'.cell? ⟨w.heap.size, o, none⟩ = (#[.int .i64 ep, .slice (some ⟨b, off, none⟩) l.length c] : Array Value)[o]?) ∧ (∀ o, w'.cell? ⟨wr.heap.size, o, none⟩ = (#[.int .i64 r.c, .int .i64 r.m, .int .i64 r.p] : Array Value)[o]?) ∧ w'.cell? ⟨b, off + m * 3, none⟩ = some (.int .i64 r0.c))) (by kernel_rfl) (by (try dsimp only); exact HK1.out _ (by repeat' (first | exact Below.refl _ _ | refine Below.alloc ?_ ?_ _ | refine Below.setCell ?_ ?_ _ | refine Below.drew ?_ | (apply below_step; assumption) | (simp; done) | (simp; omega) | omega))) (fun hHeld => ?_)
            refine hT 0 ?_; simp only [Act.put, rhA, rhS, rhT]
            refine hT 1 ?_; simp only [Act.put, rhA, rhS, rhT]
            refine hCall (i := 2) (o := ?a512) ?b512 (by kernel_rfl) ?c512 (fun K hK => ?d512)
            case b512 => simp only [rhN, rhM]; try rfl
            case c512 => rfl
            go_simp
            refine (HID.out _).mono ?_
            rintro e w3 ⟨rfl, rfl⟩
            go_wp2_with fail
            refine hK.out _ _ (by (try dsimp only); exact HK1.out _ (by repeat' (first | exact Below.refl _ _ | refine Below.alloc ?_ ?_ _ | refine Below.setCell ?_ ?_ _ | refine Below.drew ?_ | (apply below_step; assumption) | (simp; done) | (simp; omega) | omega))) (fun hHeld => ?_)
            clear hK K
            try simp only [Act.put, rhA, rhS, rhT]
            refine hT 3 ?_; simp only [Act.put, rhA, rhS, rhT]
            refine hT 4 ?_; simp only [Act.put, rhA, rhS, rhT]
            refine hT 5 ?_; simp only [Act.put, rhA, rhS, rhT]
            refine hT 6 ?_; simp only [Act.put, rhA, rhS, rhT]
            refine hT 7 ?_; simp only [Act.put, rhA, rhS, rhT]
            refine hT 8 ?_; simp only [Act.put, rhA, rhS, rhT]
            refine hT 9 ?_; simp only [Act.put, rhA, rhS, rhT]
            refine hT 10 ?_; simp only [Act.put, rhA, rhS, rhT]
            refine hT 11 ?_; simp only [Act.put, rhA, rhS, rhT]
            refine hT 12 ?_; simp only [Act.put, rhA, rhS, rhT]
            refine hT 13 ?_; simp only [Act.put, rhA, rhS, rhT]
            refine hT 14 ?_; simp only [Act.put, rhA, rhS, rhT]
            refine hT 15 ?_; simp only [Act.put, rhA, rhS, rhT]
            refine hT 16 ?_; simp only [Act.put, rhA, rhS, rhT]
            refine hT 17 ?_; simp only [Act.put, rhA, rhS, rhT]
            refine hT 18 ?_; simp only [Act.put, rhA, rhS, rhT]
            refine hT 19 ?_; simp only [Act.put, rhA, rhS, rhT]
            refine hT 20 ?_; simp only [Act.put, rhA, rhS, rhT]
            refine hT 21 ?_; simp only [Act.put, rhA, rhS, rhT]
            refine hT 22 ?_; simp only [Act.put, rhA, rhS, rhT]
            refine hT 23 ?_; simp only [Act.put, rhA, rhS, rhT]
            refine hT 24 ?_; simp only [Act.put, rhA, rhS, rhT]
            refine hT 25 ?_; simp only [Act.put, rhA, rhS, rhT]
            refine hT 26 ?_; simp only [Act.put, rhA, rhS, rhT]
            refine hT 27 ?_; simp only [Act.put, rhA, rhS, rhT]
            refine hT 28 ?_; simp only [Act.put, rhA, rhS, rhT]
            refine hT 29 ?_; simp only [Act.put, rhA, rhS, rhT]
            refine hT 30 ?_; simp only [Act.put, rhA, rhS, rhT]
            refine hT 31 ?_; simp only [Act.put, rhA, rhS, rhT]
            refine hT 32 ?_; simp only [Act.put, rhA, rhS, rhT]
            refine hT 33 ?_; simp only [Act.put, rhA, rhS, rhT]
            refine hT 34 ?_; simp only [Act.put, rhA, rhS, rhT]
            refine hT 35 ?_; simp only [Act.put, rhA, rhS, rhT]
            refine hT 36 ?_; simp only [Act.put, rhA, rhS, rhT]
            refine hT 37 ?_; simp only [Act.put, rhA, rhS, rhT]
            refine hT 38 ?_; simp only [Act.put, rhA, rhS, rhT]
            refine hT 39 ?_; simp only [Act.put, rhA, rhS, rhT]
            refine wpAnyH_done (by kernel_rfl) ?_ _
            go_wp2_with fail
            go_ret
            refine ⟨?_, below_of hBX (by repeat' (first | exact Below.refl _ _ | refine Below.alloc ?_ ?_ _ | refine Below.setCell ?_ ?_ _ | refine Below.drew ?_ | (apply below_step; assumption) | (simp; done) | (simp; omega) | omega))⟩
            rw [HS.out, pfrom_step HP.out HR.out, HBI.out, show decide (r0.c < r.c) = false by simpa using HGE.out]; rfl
    · obtain rfl : k = l.length := by omega
      obtain ⟨p, hp, _⟩ := HTS.out
      have HE2 := Lib.hid hp
      clear hp HTS
      have HTD := Lib.hid (List.drop_length (l := l))
      go_wp2_with fail
      go_ret
      exact ⟨by rw [HS.out, HE2.out, HTD.out]; rfl, hB⟩
end Go.Proofs.YtmkpajjnjgnmkabGreatDoor

namespace Go.Proofs.YtmkpajjnjgnmkabGreatDoor
open Go.RowKit

theorem msgOk_eq7 (m : MV) (b1 b2 k1 c1 c2 k2 b4 : Bool) (h1 : lWithin m.e 1 1000 = b1) (h2 : lWithin m.i 1 99 = b2) (e1 : (m.k == 1) = k1) (e2 : decide (0 ≤ m.p) = c1) (e3 : decide (m.p < 5) = c2) (e4 : (m.k == 2) = k2) (h4 : (m.p == 0) = b4) : msgOk m = (b1 && b2 && ((k1 && c1 && c2) || (k2 && b4))) := by
  subst h1 h2 h4 e1 e2 e3 e4
  rw [Bool.eq_iff_iff, msgOk_iff]
  simp only [Bool.and_eq_true, Bool.or_eq_true, lWithin_iff, decide_eq_true_eq, beq_iff_eq]
  omega
set_option maxHeartbeats 1600000 in
theorem sMsgOk_any (m : MV) (w : World) : Calls Tryz.prog 45 #[.agg #[.int .i64 m.k, .int .i64 m.e, .int .i64 m.i, .int .i64 m.p]] w fun e w' => e = .returned (.bool (msgOk m)) ∧ Below w.heap.size w w' := by
  have h1 := fun w => l06Epoch_any m.e w
  have h2 := fun w => l03IdP_any m.i w
  have HE := Lib.hid (msgOk_eq7 m)
  generalize msgOk m = ok at *
  generalize lWithin m.e 1 1000 = b1 at *
  generalize lWithin m.i 1 99 = b2 at *
  generalize e1 : (m.k == 1) = k1 at *
  generalize e2 : decide (0 ≤ m.p) = c1 at *
  generalize e3 : decide (m.p < 5) = c2 at *
  generalize e4 : (m.k == 2) = k2 at *
  generalize e5 : (m.p == 0) = b4 at *
  have HE' := Lib.hid (HE.out _ _ _ _ _ _ _ rfl rfl rfl rfl rfl rfl rfl)
  have H1 := Lib.hid h1
  have H2 := Lib.hid h2
  clear h1 h2 HE
  go_enter Tryz.func45, Tryz.ntmps45
  go_wp2_with fail
  refine (H1.out _).mono ?_
  rintro e w1 ⟨rfl, rfl⟩
  cases b1
  · go_wp2_with fail
    go_ret
    exact ⟨by rw [HE'.out]; simp, (by repeat' (first | exact Below.refl _ _ | refine Below.alloc ?_ ?_ _ | refine Below.setCell ?_ ?_ _ | refine Below.drew ?_ | (apply below_step; assumption) | (simp; done) | (simp; omega) | omega))⟩
  go_wp2_with fail
  refine (H2.out _).mono ?_
  rintro e w1 ⟨rfl, rfl⟩
  cases b2
  · go_wp2_with fail
    go_ret
    exact ⟨by rw [HE'.out]; simp, (by repeat' (first | exact Below.refl _ _ | refine Below.alloc ?_ ?_ _ | refine Below.setCell ?_ ?_ _ | refine Below.drew ?_ | (apply below_step; assumption) | (simp; done) | (simp; omega) | omega))⟩
  cases k1 <;> cases k2 <;> cases c1 <;> cases c2
  all_goals
    go_wp2_with fail
    go_ret
    exact ⟨by rw [HE'.out]; simp, (by repeat' (first | exact Below.refl _ _ | refine Below.alloc ?_ ?_ _ | refine Below.setCell ?_ ?_ _ | refine Below.drew ?_ | (apply below_step; assumption) | (simp; done) | (simp; omega) | omega))⟩

end Go.Proofs.YtmkpajjnjgnmkabGreatDoor

namespace Go.Proofs.YtmkpajjnjgnmkabGreatDoor
open Go.RowKit

theorem hasPool_hit {l : List PV} {k : Nat} {p : PV} {z : Int} (h : l[k]? = some p) (e : p.id = z) : hasPool (l.drop k) z = true := by
  have hk : k < l.length := (List.getElem?_eq_some_iff.1 h).1
  rw [List.drop_eq_getElem_cons hk, (List.getElem?_eq_some_iff.1 h).2, hasPool, fstBy_hit e]; rfl
theorem hasPool_miss {l : List PV} {k : Nat} {p : PV} {z : Int} (h : l[k]? = some p) (e : p.id ≠ z) : hasPool (l.drop k) z = hasPool (l.drop (k + 1)) z := by
  have hk : k < l.length := (List.getElem?_eq_some_iff.1 h).1
  rw [List.drop_eq_getElem_cons hk, (List.getElem?_eq_some_iff.1 h).2, hasPool, fstBy_miss e]; rfl
set_option maxHeartbeats 1600000 in
theorem l08Has_any (v : Value) (l : List PV) (z : Int) (w : World) (hv : PoolSl w v l) (hlen : l.length ≤ 1048576) :
    Calls Tryz.prog 48 #[v, .int .i64 z] w fun e w' => e = .returned (.bool (hasPool l z)) ∧ Below w.heap.size w w' := by
  obtain ⟨A, c, rfl, hA⟩ := hv.form
  have HA := Lib.hid hA
  clear hA hv
  go_enter Tryz.func48, Tryz.ntmps48
  go_wp2_with fail
  go_loopw [5] (fun s5 wr => ∃ k : Nat, k ≤ l.length ∧ s5 = .int .i64 k ∧ hasPool l z = hasPool (l.drop k) z ∧ Below w.heap.size w wr) (fun s5 _ => (l.length - intOf s5).toNat)
  case atStart => exact ⟨0, by omega, rfl, by rw [List.drop_zero], Below.refl _ _⟩
  case round =>
    obtain ⟨k, hk, rfl, hall, hB⟩ := hrel
    have hzr := hB.size
    by_cases hlt : k < l.length
    · obtain ⟨b, off, rfl, hbw, hat⟩ := HA.out (by omega)
      obtain ⟨t, ht⟩ : ∃ t, l[k]? = some t := ⟨_, List.getElem?_eq_getElem hlt⟩
      obtain ⟨cs, hR, hC⟩ := (hat.below PoolR.kept hB hbw) k t ht
      obtain ⟨v1, v2, rfl, sl, si, m1, m2⟩ := hR
      obtain ⟨A1, c1, rfl, _⟩ := sl.form
      obtain ⟨A2, c2, rfl, _⟩ := si.form
      obtain ⟨q0, q1, q2, q3, q4, q5, q6, q7, q8, q9, q10, q11⟩ := pool_cells hC
      have hki : (k : Int) < (l.length : Int) := by omega
      have hk0 : (0 : Int) ≤ (k : Int) := by omega
      by_cases e : t.id = z
      · have HF := Lib.hid (hall.trans (hasPool_hit ht e))
        have he' : (t.id == z) = true := by simpa using e
        clear hat hC ht sl si m1 m2 hall e
        go_wp2_with fail
        go_ret
        exact ⟨by rw [HF.out]; rfl, hB⟩
      · have HF := Lib.hid (hall.trans (hasPool_miss ht e))
        have he' : (t.id == z) = false := by simpa using e
        clear hat hC ht sl si m1 m2 hall e
        go_wp2_with fail
        go_roundw
        case rel => exact ⟨k + 1, by omega, by go_num, HF.out, hB⟩
        case measure => simp [intOf]; omega
    · obtain rfl : k = l.length := by omega
      have HF := Lib.hid (show hasPool l z = false by rw [hall, List.drop_length]; rfl)
      clear hall
      go_wp2_with fail
      go_ret
      exact ⟨by rw [HF.out]; rfl, hB⟩

def idsFrom (stop : Int) : Int → List Int → Bool
  | _, [] => true
  | last, z :: r => !decide (z < 1) && !decide (stop ≤ z) && !decide (z ≤ last) && idsFrom stop z r
theorem idsFrom_all {stop last : Int} {l : List Int} : idsFrom stop last l = true ↔ (∀ z ∈ l, 1 ≤ z ∧ z < stop ∧ last < z) ∧ l.Pairwise (fun a b => a < b) := by
  induction l generalizing last with
  | nil => simp [idsFrom]
  | cons z r ih =>
    simp only [idsFrom, Bool.and_eq_true, Bool.not_eq_true', decide_eq_false_iff_not, ih, List.mem_cons, forall_eq_or_imp, List.pairwise_cons]
    constructor
    · rintro ⟨⟨⟨h1, h2⟩, h3⟩, h4, h5⟩
      exact ⟨⟨⟨by omega, by omega, by omega⟩, fun x hx => ⟨(h4 x hx).1, (h4 x hx).2.1, by have := (h4 x hx).2.2; omega⟩⟩, fun x hx => (h4 x hx).2.2, h5⟩
    · rintro ⟨⟨⟨h1, h2, h3⟩, h4⟩, h5, h6⟩
      exact ⟨⟨⟨by omega, by omega⟩, by omega⟩, fun x hx => ⟨(h4 x hx).1, (h4 x hx).2.1, h5 x hx⟩, h6⟩
theorem idsIn_from (stop : Int) (l : List Int) : idsIn stop l = idsFrom stop 0 l := by
  rw [Bool.eq_iff_iff, idsIn_iff, idsFrom_all]
  constructor
  · rintro ⟨h, h2⟩; exact ⟨fun z hz => ⟨(h z hz).1, (h z hz).2, by have := (h z hz).1; omega⟩, h2⟩
  · rintro ⟨h, h2⟩; exact ⟨fun z hz => ⟨(h z hz).1, (h z hz).2.1⟩, h2⟩
theorem idsFrom_step {stop last : Int} {l : List Int} {k : Nat} {r : Int} (h : l[k]? = some r) (c1 c2 c3 : Bool) (h1 : decide (r < 1) = c1) (h2 : decide (stop ≤ r) = c2) (h3 : decide (r ≤ last) = c3) : idsFrom stop last (l.drop k) = (!c1 && !c2 && !c3 && idsFrom stop r (l.drop (k + 1))) := by
  have hk : k < l.length := (List.getElem?_eq_some_iff.1 h).1
  subst h1 h2 h3
  rw [List.drop_eq_getElem_cons hk, (List.getElem?_eq_some_iff.1 h).2]; rfl
set_option maxHeartbeats 3200000 in
theorem l08Ids_any (v : Value) (l : List Int) (stop : Int) (w : World) (hv : IntSl w v l) (hlen : l.length ≤ 1048576) :
    Calls Tryz.prog 46 #[v, .int .i64 stop] w fun e w' => e = .returned (.bool (idsIn stop l)) ∧ Below w.heap.size w w' := by
  obtain ⟨A, c, rfl, hA⟩ := hv.form
  have HA := Lib.hid hA
  have HO := Lib.hid (idsIn_from stop l)
  generalize idsIn stop l = ok at *
  clear hA hv
  go_enter Tryz.func46, Tryz.ntmps46
  go_wp2_with fail
  go_loopw [5] (fun s5 wr => ∃ (k : Nat) (last : Int), k ≤ l.length ∧ s5 = .int .i64 k ∧ idsFrom stop 0 l = idsFrom stop last (l.drop k) ∧ ((k = 0 ∧ last = 0) ∨ ∃ m, k = m + 1 ∧ l[m]? = some last) ∧ Below w.heap.size w wr) (fun s5 _ => (l.length - intOf s5).toNat)
  case atStart => exact ⟨0, 0, by omega, rfl, by rw [List.drop_zero], .inl ⟨rfl, rfl⟩, Below.refl _ _⟩
  case round =>
    obtain ⟨k, last, hk, rfl, hall, hlast, hB⟩ := hrel
    have hzr := hB.size
    by_cases hlt : k < l.length
    · obtain ⟨b, off, rfl, hbw, hat⟩ := HA.out (by omega)
      obtain ⟨r, hr⟩ : ∃ r, l[k]? = some r := ⟨_, List.getElem?_eq_getElem hlt⟩
      have q0 := (hat.below hB hbw) k r hr
      have hki : (k : Int) < (l.length : Int) := by omega
      have hk0 : (0 : Int) ≤ (k : Int) := by omega
      have hst := idsFrom_step (stop := stop) (last := last) hr
      have HRR := Lib.hid hr
      generalize e1 : decide (r < 1) = c1
      generalize e2 : decide (stop ≤ r) = c2
      generalize e3 : decide (r ≤ last) = c3
      have HST := Lib.hid (hall.trans (hst _ _ _ e1 e2 e3))
      clear hst hall hr
      cases c1
      rotate_left
      · clear hat hlast e3
        go_wp2_with fail
        go_quiet (fail)
        go_wp2_with fail
        go_ret
        exact ⟨by rw [HO.out, HST.out]; simp, (by repeat' (first | exact Below.refl _ _ | refine Below.alloc ?_ ?_ _ | refine Below.setCell ?_ ?_ _ | refine Below.drew ?_ | refine below_drewN ?_ _ | (apply below_step; assumption) | (simp; done) | (simp; omega) | omega))⟩
      cases c2
      rotate_left
      · clear hat hlast e3
        go_wp2_with fail
        go_quiet (fail)
        go_wp2_with fail
        go_ret
        exact ⟨by rw [HO.out, HST.out]; simp, (by repeat' (first | exact Below.refl _ _ | refine Below.alloc ?_ ?_ _ | refine Below.setCell ?_ ?_ _ | refine Below.drew ?_ | refine below_drewN ?_ _ | (apply below_step; assumption) | (simp; done) | (simp; omega) | omega))⟩
      rcases hlast with ⟨rfl, rfl⟩ | ⟨m, rfl, hm⟩
      · obtain rfl : c3 = false := by have := of_decide_eq_false e1; rw [← e3]; simp; omega
        clear hat e3
        simp only [Nat.add_zero] at q0
        have e4 : decide ((0 : Int) < ((0 : Nat) : Int)) = false := by simp
        go_wp2_with fail
        go_quiet (fail)
        go_wp2_with fail
        go_roundw
        case rel => exact ⟨1, r, by omega, by go_num, by rw [HST.out]; simp, .inr ⟨0, rfl, HRR.out⟩, (by repeat' (first | exact Below.refl _ _ | refine Below.alloc ?_ ?_ _ | refine Below.setCell ?_ ?_ _ | refine Below.drew ?_ | refine below_drewN ?_ _ | (apply below_step; assumption) | (simp; done) | (simp; omega) | omega))⟩
        case measure => simp [intOf]; omega
      · have q1 := (hat.below hB hbw) m last hm
        have e4 : decide ((0 : Int) < ((m + 1 : Nat) : Int)) = true := decide_eq_true (by omega)
        have hm0 : (0 : Int) ≤ (m : Int) := by omega
        have hm1 : (m : Int) < (l.length : Int) := by omega
        have hwr : IntKind.i64.wrap (((m + 1 : Nat) : Int) - 1) = (m : Int) := by rw [IntKind.wrap_i64]; omega
        clear hat hm
        cases c3
        rotate_left
        · go_wp2_with fail
          go_quiet (fail)
          go_wp2_with fail
          go_ret
          exact ⟨by rw [HO.out, HST.out]; simp, (by repeat' (first | exact Below.refl _ _ | refine Below.alloc ?_ ?_ _ | refine Below.setCell ?_ ?_ _ | refine Below.drew ?_ | refine below_drewN ?_ _ | (apply below_step; assumption) | (simp; done) | (simp; omega) | omega))⟩
        · go_wp2_with fail
          go_quiet (fail)
          go_wp2_with fail
          go_roundw
          case rel => exact ⟨m + 1 + 1, r, by omega, by go_num, by rw [HST.out]; simp, .inr ⟨m + 1, rfl, HRR.out⟩, (by repeat' (first | exact Below.refl _ _ | refine Below.alloc ?_ ?_ _ | refine Below.setCell ?_ ?_ _ | refine Below.drew ?_ | refine below_drewN ?_ _ | (apply below_step; assumption) | (simp; done) | (simp; omega) | omega))⟩
          case measure => simp [intOf]; omega
    · obtain rfl : k = l.length := by omega
      have HF := Lib.hid (show ok = true by rw [HO.out, hall, List.drop_length]; rfl)
      clear hall
      go_wp2_with fail
      go_ret
      exact ⟨by rw [HF.out]; rfl, hB⟩

set_option maxHeartbeats 1600000 in
theorem l08WantIds_any (v : Value) (l : List BV) (w : World) (hv : WantSl w v l) (hlen : l.length ≤ 1048576) :
    Calls Tryz.prog 47 #[v] w fun e w' => ∃ v', e = .returned v' ∧ OwnsJ w' w.heap.size v' (l.map BV.task) ∧ Below w.heap.size w w' := by
  obtain ⟨A, c, rfl, hA⟩ := hv.form
  have HA := Lib.hid hA
  clear hA hv
  go_enter Tryz.func47, Tryz.ntmps47
  go_wp2_with fail
  have HO : Hid (OwnsJ (w.alloc (.cells #[] 3)) w.heap.size (.slice (some ⟨w.heap.size, 0, none⟩) 0 0) []) := World.ownsRow_made w #[] 0 (Nat.le_refl _) (by unfold maxLen; omega) rfl
  go_loopw [3, 4] (fun s3 s4 wr => ∃ (k : Nat) (vl : Value), k ≤ l.length ∧ s4 = .int .i64 k ∧ vl = s3 ∧ OwnsJ wr w.heap.size vl ((l.take k).map BV.task) ∧ Below w.heap.size w wr) (fun _ s4 _ => (l.length - intOf s4).toNat)
  case atStart => exact ⟨0, _, by omega, rfl, rfl, by simpa using HO.out, (by repeat' (first | exact Below.refl _ _ | refine Below.alloc ?_ ?_ _ | refine Below.setCell ?_ ?_ _ | refine Below.drew ?_ | (apply below_step; assumption) | (simp; done) | (simp; omega) | omega))⟩
  case round =>
    obtain ⟨k, vl, hk, rfl, rfl, hown, hB⟩ := hrel
    have HOW := Lib.hid hown
    have hzr := hB.size
    clear hown HO
    by_cases hlt : k < l.length
    · obtain ⟨b, off, rfl, hbw, hat⟩ := HA.out (by omega)
      obtain ⟨r, hr⟩ : ∃ r, l[k]? = some r := ⟨_, List.getElem?_eq_getElem hlt⟩
      obtain ⟨cs, hR, hC⟩ := (hat.below WantR.kept hB hbw) k r hr
      obtain rfl := hR
      obtain ⟨q0, q1⟩ := want_cells hC
      have hki : (k : Int) < (l.length : Int) := by omega
      have hk0 : (0 : Int) ≤ (k : Int) := by omega
      have HNT := Lib.hid (show (l.take (k + 1)).map BV.task = (l.take k).map BV.task ++ [r.task] by rw [List.take_add_one, hr]; simp)
      have HLN := Lib.hid (show ((l.take k).map BV.task).length ≤ 2000000 by rw [List.length_map, List.length_take]; omega)
      clear hat hC hr
      go_wp2_with (at_builtin; refine wpList_append_i _ rfl (.tmp 12) (.tmp 18) rfl w.heap.size vl _ r.task wr.heap.size rfl (HOW.out.alloc _) rfl (by simp) HLN.out (by simp; omega) ?_; intro v' w' hown' hb')
      have hz' := hb'.size
      go_roundw
      case rel => exact ⟨k + 1, v', by omega, by go_num, rfl, by rw [HNT.out]; exact hown', hB.trans ((Below.alloc (Below.refl _ _) hzr _).trans hb')⟩
      case measure => simp [intOf]; omega
    · obtain rfl : k = l.length := by omega
      rw [List.take_length] at HOW
      go_wp2_with fail
      go_ret
      exact ⟨vl, rfl, HOW.out, hB⟩
end Go.Proofs.YtmkpajjnjgnmkabGreatDoor
