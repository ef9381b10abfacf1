/- The contracts of the model's ProvOk, MsgOk, l07At, l07State, ProvState, ProvCount. -/
import Derived.Test.YtcegofdmdemcbaaGreatDoorProvI
import Derived.Test.YtcegofdmdemcbaaGreatDoorMg00
namespace Go.Proofs.YtcegofdmdemcbaaGreatDoor
open Go.RowKit

theorem l03IdP_any (n : Int) (w : World) : Calls Tryz.prog 125 #[.int .i64 n] w fun e w' => e = .returned (.bool (lWithin n 1 99)) ∧ w = w' := by
  unfold lWithin
  generalize e1 : decide ((1 : Int) ≤ n) = b1
  cases b1
  all_goals
    go_enter Tryz.func125, Tryz.ntmps125
    go_wp2
    go_ret
    exact ⟨by simp, rfl⟩
theorem instIn_eq6 (r : RV) (b1 b2 b3 b4 b5 : Bool) (h1 : lWithin r.c 1 99 = b1) (h2 : decide (r.m < 0) = b2) (h3 : decide (5 ≤ r.m) = b3) (h4 : (r.p != 1) = b4) (h5 : (r.p != 2) = b5) : instIn r = (b1 && (!b2 && !b3) && !(b4 && b5)) := by
  subst h1 h2 h3 h4 h5
  unfold instIn lWithin
  rw [Bool.eq_iff_iff]
  simp
  omega
theorem provOk_eq4 (ep : Int) (l : List RV) (b0 b1 b2 b3 : Bool) (h0 : decide (ep < 0) = b0) (h1 : decide (1000 < ep) = b1) (h2 : decide (60 < (l.length : Int)) = b2) (h3 : provFrom 0 l = b3) : provOk ep l = (!b0 && !b1 && !b2 && b3) := by
  rw [provOk_eq ep l (!b0 && !b1) b2 b3 ?_ h2 h3]
  subst h0 h1
  unfold lWithin
  by_cases h : ep < 0 <;> by_cases h' : 1000 < ep <;> simp [h, h'] <;> omega
theorem pfrom_step {last : Int} {l : List RV} {k : Nat} {r : RV} (h : provFrom 0 l = provFrom last (l.drop k)) (hr : l[k]? = some r) : provFrom 0 l = (instIn r && decide (last < r.c) && provFrom r.c (l.drop (k + 1))) := h.trans (provFrom_step hr)
set_option maxRecDepth 20000 in
set_option maxHeartbeats 6400000 in
theorem sProvOk_any (ep : Int) (v : Value) (l : List RV) (w : World) (hv : InSl w v l) : Calls Tryz.prog 56 #[.agg #[.int .i64 ep, v]] w fun e w' => e = .returned (.bool (provOk ep l)) ∧ Below w.heap.size w w' := by
  obtain ⟨A, c, rfl, hA⟩ := hv.form
  have HA := Lib.hid hA
  clear hA hv
  have HE := Lib.hid (provOk_eq4 ep l)
  generalize e0 : decide (ep < 0) = b0
  generalize e1 : decide (1000 < ep) = b1
  generalize e2 : decide (60 < (l.length : Int)) = b2
  have HE' := Lib.hid (fun b3 => HE.out _ _ _ b3 e0 e1 e2)
  clear HE
  go_enter Tryz.func56, Tryz.ntmps56
  cases b0
  rotate_left
  · go_wp2_with fail
    go_ret
    exact ⟨by rw [HE'.out _ rfl]; simp, (by repeat' (first | exact Below.refl _ _ | refine Below.alloc ?_ ?_ _ | refine Below.setCell ?_ ?_ _ | refine Below.drew ?_ | (apply below_step; assumption) | (simp; done) | (simp; omega) | omega))⟩
  cases b1
  rotate_left
  · go_wp2_with fail
    go_ret
    exact ⟨by rw [HE'.out _ rfl]; simp, (by repeat' (first | exact Below.refl _ _ | refine Below.alloc ?_ ?_ _ | refine Below.setCell ?_ ?_ _ | refine Below.drew ?_ | (apply below_step; assumption) | (simp; done) | (simp; omega) | omega))⟩
  cases b2
  rotate_left
  · go_wp2_with fail
    go_ret
    exact ⟨by rw [HE'.out _ rfl]; simp, (by repeat' (first | exact Below.refl _ _ | refine Below.alloc ?_ ?_ _ | refine Below.setCell ?_ ?_ _ | refine Below.drew ?_ | (apply below_step; assumption) | (simp; done) | (simp; omega) | omega))⟩
  have hl60 : l.length ≤ 60 := by have := of_decide_eq_false e2; omega
  have HS := Lib.hid (show provOk ep l = provFrom 0 l by rw [HE'.out _ rfl]; simp)
  clear HE'
  go_wp2_with fail
  go_loopw [3] (fun s3 wr => ∃ k : Nat, k ≤ l.length ∧ s3 = .int .i64 k ∧ (∃ p : Int, provFrom 0 l = provFrom p (l.drop k) ∧ ((k = 0 ∧ p = 0) ∨ ∃ m r0, k = m + 1 ∧ l[m]? = some r0 ∧ p = r0.c)) ∧ BlockIs wr w.heap.size 36 #[.int .i64 ep, .slice A l.length c] ∧ Below w.heap.size w wr) (fun s3 _ => (l.length - RowKit.intOf s3).toNat)
  case atStart => exact ⟨0, by omega, rfl, ⟨0, by simp, .inl ⟨rfl, rfl⟩⟩, BlockIs.new _ _ _, (by repeat' (first | exact Below.refl _ _ | refine Below.alloc ?_ ?_ _ | refine Below.setCell ?_ ?_ _ | refine Below.drew ?_ | (apply below_step; assumption) | (simp; done) | (simp; omega) | omega))⟩
  case round =>
    obtain ⟨k, hk, rfl, hts, hblk, hB⟩ := hrel
    have HTS := Lib.hid hts
    have HBK := Lib.hid hblk
    have hzr := hB.size
    have gc := hblk.cell
    have gl := hblk.lt
    have g1 := gc 1
    simp at g1
    clear hts hblk
    by_cases hlt : k < l.length
    · obtain ⟨b, off, rfl, hbw, hat⟩ := HA.out (by omega)
      obtain ⟨r, hr⟩ : ∃ r, l[k]? = some r := ⟨_, List.getElem?_eq_getElem hlt⟩
      obtain ⟨q0, q1, q2⟩ := (hat.below hB hbw) k r hr
      have HR := Lib.hid hr
      have hki : (k : Int) < (l.length : Int) := by omega
      have hk0 : (0 : Int) ≤ (k : Int) := by omega
      have hbr : b < wr.heap.size := by omega
      have hid := fun w => l03IdP_any r.c w
      have HAT := Lib.hid hat
      have HII := Lib.hid (instIn_eq6 r)
      have HI1 := Lib.hid (lWithin_iff (n := r.c) (a := 1) (b := 99)).1
      clear hat hr
      go_upto_region 7 with fail
      have hAX : Below wr.heap.size wr (wr.alloc (.cells #[.int .i64 r.c, .int .i64 r.m, .int .i64 r.p] 114)) := (Below.refl _ _).alloc (Nat.le_refl _) _
      have hBX : Below w.heap.size w (wr.alloc (.cells #[.int .i64 r.c, .int .i64 r.m, .int .i64 r.p] 114)) := below_of hB hAX
      have BX : BlockIs (wr.alloc (.cells #[.int .i64 r.c, .int .i64 r.m, .int .i64 r.p] 114)) wr.heap.size 114 #[.int .i64 r.c, .int .i64 r.m, .int .i64 r.p] := BlockIs.new _ _ _
      have AX := HBK.out.below hAX gl
      generalize (wr.alloc (.cells #[.int .i64 r.c, .int .i64 r.m, .int .i64 r.p] 114)) = X at hAX hBX BX AX ⊢
      have hzX := hAX.size
      have hbX : b < X.heap.size := by omega
      have HK := Lib.hid (show ∀ w', Below X.heap.size X w' → Below X.heap.size X w' ∧ (∀ o, w'.cell? ⟨w.heap.size, o, none⟩ = (#[.int .i64 ep, .slice (some ⟨b, off, none⟩) l.length c] : Array Value)[o]?) ∧ (∀ o, w'.cell? ⟨wr.heap.size, o, none⟩ = (#[.int .i64 r.c, .int .i64 r.m, .int .i64 r.p] : Array Value)[o]?) from fun w' hb => ⟨hb, (AX.below hb AX.lt).cell, (BX.below hb BX.lt).cell⟩)
      have hXl := BX.lt
      clear BX AX q0 q1 q2 gc g1
      generalize lWithin r.c 1 99 = b1 at *
      have HID := Lib.hid hid
      clear hid
      cases b1
      · have HIE := Lib.hid (HII.out _ _ _ _ _ rfl rfl rfl rfl rfl)
        have HBI := Lib.hid (show instIn r = false by rw [HIE.out]; simp)
        refine wp_region_held_drew (S := (fun w' => Below X.heap.size X w' ∧ (∀ o, w'.cell? ⟨w.heap.size, o, none⟩ = (#[.int .i64 ep, .slice (some ⟨b, off, none⟩) l.length c] : Array Value)[o]?) ∧ (∀ o, w'.cell? ⟨wr.heap.size, o, none⟩ = (#[.int .i64 r.c, .int .i64 r.m, .int .i64 r.p] : Array Value)[o]?))) (by kernel_rfl) (by (try dsimp only); exact HK.out _ (by repeat' (first | exact Below.refl _ _ | refine Below.alloc ?_ ?_ _ | refine Below.setCell ?_ ?_ _ | refine Below.drew ?_ | (apply below_step; assumption) | (simp; done) | (simp; omega) | omega))) (fun hHeld => ?_)
        refine hT 0 ?_; simp only [Act.put, rhA, rhS, rhT]
        refine hT 1 ?_; simp only [Act.put, rhA, rhS, rhT]
        refine hCall (i := 2) (o := ?a4) ?b4 (by kernel_rfl) ?c4 (fun K hK => ?d4)
        case b4 => simp only [rhN, rhM]; try rfl
        case c4 => rfl
        go_simp
        refine (HID.out _).mono ?_
        rintro e w3 ⟨rfl, rfl⟩
        go_wp2_with fail
        refine hK.out _ _ (by (try dsimp only); exact HK.out _ (by repeat' (first | exact Below.refl _ _ | refine Below.alloc ?_ ?_ _ | refine Below.setCell ?_ ?_ _ | refine Below.drew ?_ | (apply below_step; assumption) | (simp; done) | (simp; omega) | omega))) (fun hHeld => ?_)
        clear hK K
        try simp only [Act.put, rhA, rhS, rhT]
        refine hT 3 ?_; simp only [Act.put, rhA, rhS, rhT]
        refine hT 4 ?_; simp only [Act.put, rhA, rhS, rhT]
        refine hP 5 ?_; simp only [Act.put, rhA, rhS, rhT]
        refine hP 6 ?_; simp only [Act.put, rhA, rhS, rhT]
        refine hP 7 ?_; simp only [Act.put, rhA, rhS, rhT]
        refine hT 8 ?_; simp only [Act.put, rhA, rhS, rhT]
        refine hT 9 ?_; simp only [Act.put, rhA, rhS, rhT]
        refine hP 10 ?_; simp only [Act.put, rhA, rhS, rhT]
        refine hP 11 ?_; simp only [Act.put, rhA, rhS, rhT]
        refine hP 12 ?_; simp only [Act.put, rhA, rhS, rhT]
        refine hT 13 ?_; simp only [Act.put, rhA, rhS, rhT]
        refine hT 14 ?_; simp only [Act.put, rhA, rhS, rhT]
        refine hP 15 ?_; simp only [Act.put, rhA, rhS, rhT]
        refine hP 16 ?_; simp only [Act.put, rhA, rhS, rhT]
        refine hP 17 ?_; simp only [Act.put, rhA, rhS, rhT]
        refine hP 18 ?_; simp only [Act.put, rhA, rhS, rhT]
        refine hP 19 ?_; simp only [Act.put, rhA, rhS, rhT]
        refine hP 20 ?_; simp only [Act.put, rhA, rhS, rhT]
        refine hP 21 ?_; simp only [Act.put, rhA, rhS, rhT]
        refine hP 22 ?_; simp only [Act.put, rhA, rhS, rhT]
        refine hT 23 ?_; simp only [Act.put, rhA, rhS, rhT]
        refine hT 24 ?_; simp only [Act.put, rhA, rhS, rhT]
        refine hP 25 ?_; simp only [Act.put, rhA, rhS, rhT]
        refine hP 26 ?_; simp only [Act.put, rhA, rhS, rhT]
        refine hP 27 ?_; simp only [Act.put, rhA, rhS, rhT]
        refine hP 28 ?_; simp only [Act.put, rhA, rhS, rhT]
        refine hP 29 ?_; simp only [Act.put, rhA, rhS, rhT]
        refine hP 30 ?_; simp only [Act.put, rhA, rhS, rhT]
        refine hP 31 ?_; simp only [Act.put, rhA, rhS, rhT]
        refine hP 32 ?_; simp only [Act.put, rhA, rhS, rhT]
        refine hP 33 ?_; simp only [Act.put, rhA, rhS, rhT]
        refine hP 34 ?_; simp only [Act.put, rhA, rhS, rhT]
        refine hP 35 ?_; simp only [Act.put, rhA, rhS, rhT]
        refine hP 36 ?_; simp only [Act.put, rhA, rhS, rhT]
        refine hP 37 ?_; simp only [Act.put, rhA, rhS, rhT]
        refine hP 38 ?_; simp only [Act.put, rhA, rhS, rhT]
        refine hT 39 ?_; simp only [Act.put, rhA, rhS, rhT]
        refine wpAnyH_done (by kernel_rfl) ?_ _
        go_wp2_with fail
        go_ret
        refine ⟨?_, below_of hBX (by repeat' (first | exact Below.refl _ _ | refine Below.alloc ?_ ?_ _ | refine Below.setCell ?_ ?_ _ | refine Below.drew ?_ | (apply below_step; assumption) | (simp; done) | (simp; omega) | omega))⟩
        obtain ⟨p, hp, _⟩ := HTS.out
        rw [HS.out, pfrom_step hp HR.out, HBI.out]; rfl
      obtain ⟨i1, i2⟩ := HI1.out rfl
      generalize e4 : decide (r.m < 0) = b2
      cases b2
      rotate_left
      · have HIE := Lib.hid (HII.out _ _ _ _ _ rfl e4 rfl rfl rfl)
        have HBI := Lib.hid (show instIn r = false by rw [HIE.out]; simp)
        refine wp_region_held_drew (S := (fun w' => Below X.heap.size X w' ∧ (∀ o, w'.cell? ⟨w.heap.size, o, none⟩ = (#[.int .i64 ep, .slice (some ⟨b, off, none⟩) l.length c] : Array Value)[o]?) ∧ (∀ o, w'.cell? ⟨wr.heap.size, o, none⟩ = (#[.int .i64 r.c, .int .i64 r.m, .int .i64 r.p] : Array Value)[o]?))) (by kernel_rfl) (by (try dsimp only); exact HK.out _ (by repeat' (first | exact Below.refl _ _ | refine Below.alloc ?_ ?_ _ | refine Below.setCell ?_ ?_ _ | refine Below.drew ?_ | (apply below_step; assumption) | (simp; done) | (simp; omega) | omega))) (fun hHeld => ?_)
        refine hT 0 ?_; simp only [Act.put, rhA, rhS, rhT]
        refine hT 1 ?_; simp only [Act.put, rhA, rhS, rhT]
        refine hCall (i := 2) (o := ?a58) ?b58 (by kernel_rfl) ?c58 (fun K hK => ?d58)
        case b58 => simp only [rhN, rhM]; try rfl
        case c58 => rfl
        go_simp
        refine (HID.out _).mono ?_
        rintro e w3 ⟨rfl, rfl⟩
        go_wp2_with fail
        refine hK.out _ _ (by (try dsimp only); exact HK.out _ (by repeat' (first | exact Below.refl _ _ | refine Below.alloc ?_ ?_ _ | refine Below.setCell ?_ ?_ _ | refine Below.drew ?_ | (apply below_step; assumption) | (simp; done) | (simp; omega) | omega))) (fun hHeld => ?_)
        clear hK K
        try simp only [Act.put, rhA, rhS, rhT]
        refine hT 3 ?_; simp only [Act.put, rhA, rhS, rhT]
        refine hT 4 ?_; simp only [Act.put, rhA, rhS, rhT]
        refine hT 5 ?_; simp only [Act.put, rhA, rhS, rhT]
        refine hT 6 ?_; simp only [Act.put, rhA, rhS, rhT]
        refine hT 7 ?_; simp only [Act.put, rhA, rhS, rhT]
        refine hT 8 ?_; simp only [Act.put, rhA, rhS, rhT]
        refine hT 9 ?_; simp only [Act.put, rhA, rhS, rhT]
        refine hP 10 ?_; simp only [Act.put, rhA, rhS, rhT]
        refine hP 11 ?_; simp only [Act.put, rhA, rhS, rhT]
        refine hP 12 ?_; simp only [Act.put, rhA, rhS, rhT]
        refine hT 13 ?_; simp only [Act.put, rhA, rhS, rhT]
        refine hT 14 ?_; simp only [Act.put, rhA, rhS, rhT]
        refine hP 15 ?_; simp only [Act.put, rhA, rhS, rhT]
        refine hP 16 ?_; simp only [Act.put, rhA, rhS, rhT]
        refine hP 17 ?_; simp only [Act.put, rhA, rhS, rhT]
        refine hP 18 ?_; simp only [Act.put, rhA, rhS, rhT]
        refine hP 19 ?_; simp only [Act.put, rhA, rhS, rhT]
        refine hP 20 ?_; simp only [Act.put, rhA, rhS, rhT]
        refine hP 21 ?_; simp only [Act.put, rhA, rhS, rhT]
        refine hP 22 ?_; simp only [Act.put, rhA, rhS, rhT]
        refine hT 23 ?_; simp only [Act.put, rhA, rhS, rhT]
        refine hT 24 ?_; simp only [Act.put, rhA, rhS, rhT]
        refine hP 25 ?_; simp only [Act.put, rhA, rhS, rhT]
        refine hP 26 ?_; simp only [Act.put, rhA, rhS, rhT]
        refine hP 27 ?_; simp only [Act.put, rhA, rhS, rhT]
        refine hP 28 ?_; simp only [Act.put, rhA, rhS, rhT]
        refine hP 29 ?_; simp only [Act.put, rhA, rhS, rhT]
        refine hP 30 ?_; simp only [Act.put, rhA, rhS, rhT]
        refine hP 31 ?_; simp only [Act.put, rhA, rhS, rhT]
        refine hP 32 ?_; simp only [Act.put, rhA, rhS, rhT]
        refine hP 33 ?_; simp only [Act.put, rhA, rhS, rhT]
        refine hP 34 ?_; simp only [Act.put, rhA, rhS, rhT]
        refine hP 35 ?_; simp only [Act.put, rhA, rhS, rhT]
        refine hP 36 ?_; simp only [Act.put, rhA, rhS, rhT]
        refine hP 37 ?_; simp only [Act.put, rhA, rhS, rhT]
        refine hP 38 ?_; simp only [Act.put, rhA, rhS, rhT]
        refine hT 39 ?_; simp only [Act.put, rhA, rhS, rhT]
        refine wpAnyH_done (by kernel_rfl) ?_ _
        go_wp2_with fail
        go_ret
        refine ⟨?_, below_of hBX (by repeat' (first | exact Below.refl _ _ | refine Below.alloc ?_ ?_ _ | refine Below.setCell ?_ ?_ _ | refine Below.drew ?_ | (apply below_step; assumption) | (simp; done) | (simp; omega) | omega))⟩
        obtain ⟨p, hp, _⟩ := HTS.out
        rw [HS.out, pfrom_step hp HR.out, HBI.out]; rfl
      generalize e5 : decide (5 ≤ r.m) = b3
      cases b3
      rotate_left
      · have HIE := Lib.hid (HII.out _ _ _ _ _ rfl e4 e5 rfl rfl)
        have HBI := Lib.hid (show instIn r = false by rw [HIE.out]; simp)
        refine wp_region_held_drew (S := (fun w' => Below X.heap.size X w' ∧ (∀ o, w'.cell? ⟨w.heap.size, o, none⟩ = (#[.int .i64 ep, .slice (some ⟨b, off, none⟩) l.length c] : Array Value)[o]?) ∧ (∀ o, w'.cell? ⟨wr.heap.size, o, none⟩ = (#[.int .i64 r.c, .int .i64 r.m, .int .i64 r.p] : Array Value)[o]?))) (by kernel_rfl) (by (try dsimp only); exact HK.out _ (by repeat' (first | exact Below.refl _ _ | refine Below.alloc ?_ ?_ _ | refine Below.setCell ?_ ?_ _ | refine Below.drew ?_ | (apply below_step; assumption) | (simp; done) | (simp; omega) | omega))) (fun hHeld => ?_)
        refine hT 0 ?_; simp only [Act.put, rhA, rhS, rhT]
        refine hT 1 ?_; simp only [Act.put, rhA, rhS, rhT]
        refine hCall (i := 2) (o := ?a112) ?b112 (by kernel_rfl) ?c112 (fun K hK => ?d112)
        case b112 => simp only [rhN, rhM]; try rfl
        case c112 => rfl
        go_simp
        refine (HID.out _).mono ?_
        rintro e w3 ⟨rfl, rfl⟩
        go_wp2_with fail
        refine hK.out _ _ (by (try dsimp only); exact HK.out _ (by repeat' (first | exact Below.refl _ _ | refine Below.alloc ?_ ?_ _ | refine Below.setCell ?_ ?_ _ | refine Below.drew ?_ | (apply below_step; assumption) | (simp; done) | (simp; omega) | omega))) (fun hHeld => ?_)
        clear hK K
        try simp only [Act.put, rhA, rhS, rhT]
        refine hT 3 ?_; simp only [Act.put, rhA, rhS, rhT]
        refine hT 4 ?_; simp only [Act.put, rhA, rhS, rhT]
        refine hT 5 ?_; simp only [Act.put, rhA, rhS, rhT]
        refine hT 6 ?_; simp only [Act.put, rhA, rhS, rhT]
        refine hT 7 ?_; simp only [Act.put, rhA, rhS, rhT]
        refine hT 8 ?_; simp only [Act.put, rhA, rhS, rhT]
        refine hT 9 ?_; simp only [Act.put, rhA, rhS, rhT]
        refine hT 10 ?_; simp only [Act.put, rhA, rhS, rhT]
        refine hT 11 ?_; simp only [Act.put, rhA, rhS, rhT]
        refine hT 12 ?_; simp only [Act.put, rhA, rhS, rhT]
        refine hT 13 ?_; simp only [Act.put, rhA, rhS, rhT]
        refine hT 14 ?_; simp only [Act.put, rhA, rhS, rhT]
        refine hP 15 ?_; simp only [Act.put, rhA, rhS, rhT]
        refine hP 16 ?_; simp only [Act.put, rhA, rhS, rhT]
        refine hP 17 ?_; simp only [Act.put, rhA, rhS, rhT]
        refine hP 18 ?_; simp only [Act.put, rhA, rhS, rhT]
        refine hP 19 ?_; simp only [Act.put, rhA, rhS, rhT]
        refine hP 20 ?_; simp only [Act.put, rhA, rhS, rhT]
        refine hP 21 ?_; simp only [Act.put, rhA, rhS, rhT]
        refine hP 22 ?_; simp only [Act.put, rhA, rhS, rhT]
        refine hT 23 ?_; simp only [Act.put, rhA, rhS, rhT]
        refine hT 24 ?_; simp only [Act.put, rhA, rhS, rhT]
        refine hP 25 ?_; simp only [Act.put, rhA, rhS, rhT]
        refine hP 26 ?_; simp only [Act.put, rhA, rhS, rhT]
        refine hP 27 ?_; simp only [Act.put, rhA, rhS, rhT]
        refine hP 28 ?_; simp only [Act.put, rhA, rhS, rhT]
        refine hP 29 ?_; simp only [Act.put, rhA, rhS, rhT]
        refine hP 30 ?_; simp only [Act.put, rhA, rhS, rhT]
        refine hP 31 ?_; simp only [Act.put, rhA, rhS, rhT]
        refine hP 32 ?_; simp only [Act.put, rhA, rhS, rhT]
        refine hP 33 ?_; simp only [Act.put, rhA, rhS, rhT]
        refine hP 34 ?_; simp only [Act.put, rhA, rhS, rhT]
        refine hP 35 ?_; simp only [Act.put, rhA, rhS, rhT]
        refine hP 36 ?_; simp only [Act.put, rhA, rhS, rhT]
        refine hP 37 ?_; simp only [Act.put, rhA, rhS, rhT]
        refine hP 38 ?_; simp only [Act.put, rhA, rhS, rhT]
        refine hT 39 ?_; simp only [Act.put, rhA, rhS, rhT]
        refine wpAnyH_done (by kernel_rfl) ?_ _
        go_wp2_with fail
        go_ret
        refine ⟨?_, below_of hBX (by repeat' (first | exact Below.refl _ _ | refine Below.alloc ?_ ?_ _ | refine Below.setCell ?_ ?_ _ | refine Below.drew ?_ | (apply below_step; assumption) | (simp; done) | (simp; omega) | omega))⟩
        obtain ⟨p, hp, _⟩ := HTS.out
        rw [HS.out, pfrom_step hp HR.out, HBI.out]; rfl
      generalize e6 : (r.p != 1) = b4
      cases b4
      · have HBI := Lib.hid (show instIn r = true by rw [HII.out _ _ _ _ _ rfl e4 e5 e6 rfl]; simp)
        obtain ⟨p, hp, hcase⟩ := HTS.out
        have HP := Lib.hid hp
        clear hp HTS
        rcases hcase with ⟨rfl, rfl⟩ | ⟨m, r0, hkm, hm0, rfl⟩
        · skip
          refine wp_region_held_drew (S := (fun w' => Below X.heap.size X w' ∧ (∀ o, w'.cell? ⟨w.heap.size, o, none⟩ = (#[.int .i64 ep, .slice (some ⟨b, off, none⟩) l.length c] : Array Value)[o]?) ∧ (∀ o, w'.cell? ⟨wr.heap.size, o, none⟩ = (#[.int .i64 r.c, .int .i64 r.m, .int .i64 r.p] : Array Value)[o]?))) (by kernel_rfl) (by (try dsimp only); exact HK.out _ (by repeat' (first | exact Below.refl _ _ | refine Below.alloc ?_ ?_ _ | refine Below.setCell ?_ ?_ _ | refine Below.drew ?_ | (apply below_step; assumption) | (simp; done) | (simp; omega) | omega))) (fun hHeld => ?_)
          refine hT 0 ?_; simp only [Act.put, rhA, rhS, rhT]
          refine hT 1 ?_; simp only [Act.put, rhA, rhS, rhT]
          refine hCall (i := 2) (o := ?a166) ?b166 (by kernel_rfl) ?c166 (fun K hK => ?d166)
          case b166 => simp only [rhN, rhM]; try rfl
          case c166 => rfl
          go_simp
          refine (HID.out _).mono ?_
          rintro e w3 ⟨rfl, rfl⟩
          go_wp2_with fail
          refine hK.out _ _ (by (try dsimp only); exact HK.out _ (by repeat' (first | exact Below.refl _ _ | refine Below.alloc ?_ ?_ _ | refine Below.setCell ?_ ?_ _ | refine Below.drew ?_ | (apply below_step; assumption) | (simp; done) | (simp; omega) | omega))) (fun hHeld => ?_)
          clear hK K
          try simp only [Act.put, rhA, rhS, rhT]
          refine hT 3 ?_; simp only [Act.put, rhA, rhS, rhT]
          refine hT 4 ?_; simp only [Act.put, rhA, rhS, rhT]
          refine hT 5 ?_; simp only [Act.put, rhA, rhS, rhT]
          refine hT 6 ?_; simp only [Act.put, rhA, rhS, rhT]
          refine hT 7 ?_; simp only [Act.put, rhA, rhS, rhT]
          refine hT 8 ?_; simp only [Act.put, rhA, rhS, rhT]
          refine hT 9 ?_; simp only [Act.put, rhA, rhS, rhT]
          refine hT 10 ?_; simp only [Act.put, rhA, rhS, rhT]
          refine hT 11 ?_; simp only [Act.put, rhA, rhS, rhT]
          refine hT 12 ?_; simp only [Act.put, rhA, rhS, rhT]
          refine hT 13 ?_; simp only [Act.put, rhA, rhS, rhT]
          refine hT 14 ?_; simp only [Act.put, rhA, rhS, rhT]
          refine hT 15 ?_; simp only [Act.put, rhA, rhS, rhT]
          refine hT 16 ?_; simp only [Act.put, rhA, rhS, rhT]
          refine hT 17 ?_; simp only [Act.put, rhA, rhS, rhT]
          refine hT 18 ?_; simp only [Act.put, rhA, rhS, rhT]
          refine hP 19 ?_; simp only [Act.put, rhA, rhS, rhT]
          refine hP 20 ?_; simp only [Act.put, rhA, rhS, rhT]
          refine hP 21 ?_; simp only [Act.put, rhA, rhS, rhT]
          refine hT 22 ?_; simp only [Act.put, rhA, rhS, rhT]
          refine hT 23 ?_; simp only [Act.put, rhA, rhS, rhT]
          refine hT 24 ?_; simp only [Act.put, rhA, rhS, rhT]
          refine hT 25 ?_; simp only [Act.put, rhA, rhS, rhT]
          refine hT 26 ?_; simp only [Act.put, rhA, rhS, rhT]
          refine hT 27 ?_; simp only [Act.put, rhA, rhS, rhT]
          refine hP 28 ?_; simp only [Act.put, rhA, rhS, rhT]
          refine hP 29 ?_; simp only [Act.put, rhA, rhS, rhT]
          refine hP 30 ?_; simp only [Act.put, rhA, rhS, rhT]
          refine hP 31 ?_; simp only [Act.put, rhA, rhS, rhT]
          refine hP 32 ?_; simp only [Act.put, rhA, rhS, rhT]
          refine hP 33 ?_; simp only [Act.put, rhA, rhS, rhT]
          refine hP 34 ?_; simp only [Act.put, rhA, rhS, rhT]
          refine hP 35 ?_; simp only [Act.put, rhA, rhS, rhT]
          refine hP 36 ?_; simp only [Act.put, rhA, rhS, rhT]
          refine hP 37 ?_; simp only [Act.put, rhA, rhS, rhT]
          refine hT 38 ?_; simp only [Act.put, rhA, rhS, rhT]
          refine hT 39 ?_; simp only [Act.put, rhA, rhS, rhT]
          refine wpAnyH_done (by kernel_rfl) ?_ _
          go_wp2_with fail
          go_roundw
          case rel =>
            refine ⟨1, by omega, by go_num, ⟨r.c, ?_, .inr ⟨0, r, rfl, HR.out, rfl⟩⟩, HBK.out.below (below_of hAX (by repeat' (first | exact Below.refl _ _ | refine Below.alloc ?_ ?_ _ | refine Below.setCell ?_ ?_ _ | refine Below.drew ?_ | (apply below_step; assumption) | (simp; done) | (simp; omega) | omega))) gl, below_of hBX (by repeat' (first | exact Below.refl _ _ | refine Below.alloc ?_ ?_ _ | refine Below.setCell ?_ ?_ _ | refine Below.drew ?_ | (apply below_step; assumption) | (simp; done) | (simp; omega) | omega))⟩
            rw [pfrom_step HP.out HR.out, HBI.out, show decide (0 < r.c) = true by simp; omega]; rfl
          case measure => simp [RowKit.intOf]; omega
        · have p0 := ((HAT.out.below hB hbw) m r0 hm0).1
          have hgt : 0 < k := by omega
          have hgti : (0 : Int) < (k : Int) := by omega
          have hwr : IntKind.i64.wrap ((k : Int) - 1) = (m : Int) := by rw [IntWalk.i64_in _ (by omega)]; omega
          have hmi : (m : Int) < (l.length : Int) := by omega
          have hm0' : (0 : Int) ≤ (m : Int) := by omega
          have HKM := Lib.hid hkm
          have HM0 := Lib.hid hm0
          have pX : X.cell? ⟨b, off + m * 3, none⟩ = some (.int .i64 r0.c) := (hAX.cell (p := ⟨_, _, none⟩) hbr).trans p0
          have HK1 := Lib.hid (show ∀ w', Below X.heap.size X w' → Below X.heap.size X w' ∧ (∀ o, w'.cell? ⟨w.heap.size, o, none⟩ = (#[.int .i64 ep, .slice (some ⟨b, off, none⟩) l.length c] : Array Value)[o]?) ∧ (∀ o, w'.cell? ⟨wr.heap.size, o, none⟩ = (#[.int .i64 r.c, .int .i64 r.m, .int .i64 r.p] : Array Value)[o]?) ∧ w'.cell? ⟨b, off + m * 3, none⟩ = some (.int .i64 r0.c) from fun w' hb => ⟨(HK.out w' hb).1, (HK.out w' hb).2.1, (HK.out w' hb).2.2, (hb.cell (p := ⟨b, off + m * 3, none⟩) hbX).trans pX⟩)
          clear hkm hm0 p0
          cases hge : decide (r.c ≤ r0.c)
          · have HGE := Lib.hid (show r0.c < r.c by simpa using hge)
            refine wp_region_held_drew (S := (fun w' => Below X.heap.size X w' ∧ (∀ o, w'.cell? ⟨w.heap.size, o, none⟩ = (#[.int .i64 ep, .slice (some ⟨b, off, none⟩) l.length c] : Array Value)[o]?) ∧ (∀ o, w'.cell? ⟨wr.heap.size, o, none⟩ = (#[.int .i64 r.c, .int .i64 r.m, .int .i64 r.p] : Array Value)[o]?) ∧ w'.cell? ⟨b, off + m * 3, none⟩ = some (.int .i64 r0.c))) (by kernel_rfl) (by (try dsimp only); exact HK1.out _ (by repeat' (first | exact Below.refl _ _ | refine Below.alloc ?_ ?_ _ | refine Below.setCell ?_ ?_ _ | refine Below.drew ?_ | (apply below_step; assumption) | (simp; done) | (simp; omega) | omega))) (fun hHeld => ?_)
            refine hT 0 ?_; simp only [Act.put, rhA, rhS, rhT]
            refine hT 1 ?_; simp only [Act.put, rhA, rhS, rhT]
            refine hCall (i := 2) (o := ?a224) ?b224 (by kernel_rfl) ?c224 (fun K hK => ?d224)
            case b224 => simp only [rhN, rhM]; try rfl
            case c224 => rfl
            go_simp
            refine (HID.out _).mono ?_
            rintro e w3 ⟨rfl, rfl⟩
            go_wp2_with fail
            refine hK.out _ _ (by (try dsimp only); exact HK1.out _ (by repeat' (first | exact Below.refl _ _ | refine Below.alloc ?_ ?_ _ | refine Below.setCell ?_ ?_ _ | refine Below.drew ?_ | (apply below_step; assumption) | (simp; done) | (simp; omega) | omega))) (fun hHeld => ?_)
            clear hK K
            try simp only [Act.put, rhA, rhS, rhT]
            refine hT 3 ?_; simp only [Act.put, rhA, rhS, rhT]
            refine hT 4 ?_; simp only [Act.put, rhA, rhS, rhT]
            refine hT 5 ?_; simp only [Act.put, rhA, rhS, rhT]
            refine hT 6 ?_; simp only [Act.put, rhA, rhS, rhT]
            refine hT 7 ?_; simp only [Act.put, rhA, rhS, rhT]
            refine hT 8 ?_; simp only [Act.put, rhA, rhS, rhT]
            refine hT 9 ?_; simp only [Act.put, rhA, rhS, rhT]
            refine hT 10 ?_; simp only [Act.put, rhA, rhS, rhT]
            refine hT 11 ?_; simp only [Act.put, rhA, rhS, rhT]
            refine hT 12 ?_; simp only [Act.put, rhA, rhS, rhT]
            refine hT 13 ?_; simp only [Act.put, rhA, rhS, rhT]
            refine hT 14 ?_; simp only [Act.put, rhA, rhS, rhT]
            refine hT 15 ?_; simp only [Act.put, rhA, rhS, rhT]
            refine hT 16 ?_; simp only [Act.put, rhA, rhS, rhT]
            refine hT 17 ?_; simp only [Act.put, rhA, rhS, rhT]
            refine hT 18 ?_; simp only [Act.put, rhA, rhS, rhT]
            refine hP 19 ?_; simp only [Act.put, rhA, rhS, rhT]
            refine hP 20 ?_; simp only [Act.put, rhA, rhS, rhT]
            refine hP 21 ?_; simp only [Act.put, rhA, rhS, rhT]
            refine hT 22 ?_; simp only [Act.put, rhA, rhS, rhT]
            refine hT 23 ?_; simp only [Act.put, rhA, rhS, rhT]
            refine hT 24 ?_; simp only [Act.put, rhA, rhS, rhT]
            refine hT 25 ?_; simp only [Act.put, rhA, rhS, rhT]
            refine hT 26 ?_; simp only [Act.put, rhA, rhS, rhT]
            refine hT 27 ?_; simp only [Act.put, rhA, rhS, rhT]
            refine hT 28 ?_; simp only [Act.put, rhA, rhS, rhT]
            refine hT 29 ?_; simp only [Act.put, rhA, rhS, rhT]
            refine hT 30 ?_; simp only [Act.put, rhA, rhS, rhT]
            refine hT 31 ?_; simp only [Act.put, rhA, rhS, rhT]
            refine hT 32 ?_; simp only [Act.put, rhA, rhS, rhT]
            refine hT 33 ?_; simp only [Act.put, rhA, rhS, rhT]
            refine hT 34 ?_; simp only [Act.put, rhA, rhS, rhT]
            refine hT 35 ?_; simp only [Act.put, rhA, rhS, rhT]
            refine hT 36 ?_; simp only [Act.put, rhA, rhS, rhT]
            refine hT 37 ?_; simp only [Act.put, rhA, rhS, rhT]
            refine hT 38 ?_; simp only [Act.put, rhA, rhS, rhT]
            refine hT 39 ?_; simp only [Act.put, rhA, rhS, rhT]
            refine wpAnyH_done (by kernel_rfl) ?_ _
            go_wp2_with fail
            go_roundw
            case rel =>
              refine ⟨k + 1, by omega, by go_num, ⟨r.c, ?_, .inr ⟨k, r, rfl, HR.out, rfl⟩⟩, HBK.out.below (below_of hAX (by repeat' (first | exact Below.refl _ _ | refine Below.alloc ?_ ?_ _ | refine Below.setCell ?_ ?_ _ | refine Below.drew ?_ | (apply below_step; assumption) | (simp; done) | (simp; omega) | omega))) gl, below_of hBX (by repeat' (first | exact Below.refl _ _ | refine Below.alloc ?_ ?_ _ | refine Below.setCell ?_ ?_ _ | refine Below.drew ?_ | (apply below_step; assumption) | (simp; done) | (simp; omega) | omega))⟩
              rw [pfrom_step HP.out HR.out, HBI.out, show decide (r0.c < r.c) = true by simpa using HGE.out]; rfl
            case measure => simp [RowKit.intOf]; omega
          · have HGE := Lib.hid (show ¬ r0.c < r.c by have := of_decide_eq_true hge; omega)
            refine wp_region_held_drew (S := (fun w' => Below X.heap.size X w' ∧ (∀ o, w'.cell? ⟨w.heap.size, o, none⟩ = (#[.int .i64 ep, .slice (some ⟨b, off, none⟩) l.length c] : Array Value)[o]?) ∧ (∀ o, w'.cell? ⟨wr.heap.size, o, none⟩ = (#[.int .i64 r.c, .int .i64 r.m, .int .i64 r.p] : Array Value)[o]?) ∧ w'.cell? ⟨b, off + m * 3, none⟩ = some (.int .i64 r0.c))) (by kernel_rfl) (by (try dsimp only); exact HK1.out _ (by repeat' (first | exact Below.refl _ _ | refine Below.alloc ?_ ?_ _ | refine Below.setCell ?_ ?_ _ | refine Below.drew ?_ | (apply below_step; assumption) | (simp; done) | (simp; omega) | omega))) (fun hHeld => ?_)
            refine hT 0 ?_; simp only [Act.put, rhA, rhS, rhT]
            refine hT 1 ?_; simp only [Act.put, rhA, rhS, rhT]
            refine hCall (i := 2) (o := ?a282) ?b282 (by kernel_rfl) ?c282 (fun K hK => ?d282)
            case b282 => simp only [rhN, rhM]; try rfl
            case c282 => rfl
            go_simp
            refine (HID.out _).mono ?_
            rintro e w3 ⟨rfl, rfl⟩
            go_wp2_with fail
            refine hK.out _ _ (by (try dsimp only); exact HK1.out _ (by repeat' (first | exact Below.refl _ _ | refine Below.alloc ?_ ?_ _ | refine Below.setCell ?_ ?_ _ | refine Below.drew ?_ | (apply below_step; assumption) | (simp; done) | (simp; omega) | omega))) (fun hHeld => ?_)
            clear hK K
            try simp only [Act.put, rhA, rhS, rhT]
            refine hT 3 ?_; simp only [Act.put, rhA, rhS, rhT]
            refine hT 4 ?_; simp only [Act.put, rhA, rhS, rhT]
            refine hT 5 ?_; simp only [Act.put, rhA, rhS, rhT]
            refine hT 6 ?_; simp only [Act.put, rhA, rhS, rhT]
            refine hT 7 ?_; simp only [Act.put, rhA, rhS, rhT]
            refine hT 8 ?_; simp only [Act.put, rhA, rhS, rhT]
            refine hT 9 ?_; simp only [Act.put, rhA, rhS, rhT]
            refine hT 10 ?_; simp only [Act.put, rhA, rhS, rhT]
            refine hT 11 ?_; simp only [Act.put, rhA, rhS, rhT]
            refine hT 12 ?_; simp only [Act.put, rhA, rhS, rhT]
            refine hT 13 ?_; simp only [Act.put, rhA, rhS, rhT]
            refine hT 14 ?_; simp only [Act.put, rhA, rhS, rhT]
            refine hT 15 ?_; simp only [Act.put, rhA, rhS, rhT]
            refine hT 16 ?_; simp only [Act.put, rhA, rhS, rhT]
            refine hT 17 ?_; simp only [Act.put, rhA, rhS, rhT]
            refine hT 18 ?_; simp only [Act.put, rhA, rhS, rhT]
            refine hP 19 ?_; simp only [Act.put, rhA, rhS, rhT]
            refine hP 20 ?_; simp only [Act.put, rhA, rhS, rhT]
            refine hP 21 ?_; simp only [Act.put, rhA, rhS, rhT]
            refine hT 22 ?_; simp only [Act.put, rhA, rhS, rhT]
            refine hT 23 ?_; simp only [Act.put, rhA, rhS, rhT]
            refine hT 24 ?_; simp only [Act.put, rhA, rhS, rhT]
            refine hT 25 ?_; simp only [Act.put, rhA, rhS, rhT]
            refine hT 26 ?_; simp only [Act.put, rhA, rhS, rhT]
            refine hT 27 ?_; simp only [Act.put, rhA, rhS, rhT]
            refine hT 28 ?_; simp only [Act.put, rhA, rhS, rhT]
            refine hT 29 ?_; simp only [Act.put, rhA, rhS, rhT]
            refine hT 30 ?_; simp only [Act.put, rhA, rhS, rhT]
            refine hT 31 ?_; simp only [Act.put, rhA, rhS, rhT]
            refine hT 32 ?_; simp only [Act.put, rhA, rhS, rhT]
            refine hT 33 ?_; simp only [Act.put, rhA, rhS, rhT]
            refine hT 34 ?_; simp only [Act.put, rhA, rhS, rhT]
            refine hT 35 ?_; simp only [Act.put, rhA, rhS, rhT]
            refine hT 36 ?_; simp only [Act.put, rhA, rhS, rhT]
            refine hT 37 ?_; simp only [Act.put, rhA, rhS, rhT]
            refine hT 38 ?_; simp only [Act.put, rhA, rhS, rhT]
            refine hT 39 ?_; simp only [Act.put, rhA, rhS, rhT]
            refine wpAnyH_done (by kernel_rfl) ?_ _
            go_wp2_with fail
            go_ret
            refine ⟨?_, below_of hBX (by repeat' (first | exact Below.refl _ _ | refine Below.alloc ?_ ?_ _ | refine Below.setCell ?_ ?_ _ | refine Below.drew ?_ | (apply below_step; assumption) | (simp; done) | (simp; omega) | omega))⟩
            rw [HS.out, pfrom_step HP.out HR.out, HBI.out, show decide (r0.c < r.c) = false by simpa using HGE.out]; rfl
      generalize e7 : (r.p != 2) = b5
      cases b5
      rotate_left
      · have HIE := Lib.hid (HII.out _ _ _ _ _ rfl e4 e5 e6 e7)
        have HBI := Lib.hid (show instIn r = false by rw [HIE.out]; simp)
        refine wp_region_held_drew (S := (fun w' => Below X.heap.size X w' ∧ (∀ o, w'.cell? ⟨w.heap.size, o, none⟩ = (#[.int .i64 ep, .slice (some ⟨b, off, none⟩) l.length c] : Array Value)[o]?) ∧ (∀ o, w'.cell? ⟨wr.heap.size, o, none⟩ = (#[.int .i64 r.c, .int .i64 r.m, .int .i64 r.p] : Array Value)[o]?))) (by kernel_rfl) (by (try dsimp only); exact HK.out _ (by repeat' (first | exact Below.refl _ _ | refine Below.alloc ?_ ?_ _ | refine Below.setCell ?_ ?_ _ | refine Below.drew ?_ | (apply below_step; assumption) | (simp; done) | (simp; omega) | omega))) (fun hHeld => ?_)
        refine hT 0 ?_; simp only [Act.put, rhA, rhS, rhT]
        refine hT 1 ?_; simp only [Act.put, rhA, rhS, rhT]
        refine hCall (i := 2) (o := ?a340) ?b340 (by kernel_rfl) ?c340 (fun K hK => ?d340)
        case b340 => simp only [rhN, rhM]; try rfl
        case c340 => rfl
        go_simp
        refine (HID.out _).mono ?_
        rintro e w3 ⟨rfl, rfl⟩
        go_wp2_with fail
        refine hK.out _ _ (by (try dsimp only); exact HK.out _ (by repeat' (first | exact Below.refl _ _ | refine Below.alloc ?_ ?_ _ | refine Below.setCell ?_ ?_ _ | refine Below.drew ?_ | (apply below_step; assumption) | (simp; done) | (simp; omega) | omega))) (fun hHeld => ?_)
        clear hK K
        try simp only [Act.put, rhA, rhS, rhT]
        refine hT 3 ?_; simp only [Act.put, rhA, rhS, rhT]
        refine hT 4 ?_; simp only [Act.put, rhA, rhS, rhT]
        refine hT 5 ?_; simp only [Act.put, rhA, rhS, rhT]
        refine hT 6 ?_; simp only [Act.put, rhA, rhS, rhT]
        refine hT 7 ?_; simp only [Act.put, rhA, rhS, rhT]
        refine hT 8 ?_; simp only [Act.put, rhA, rhS, rhT]
        refine hT 9 ?_; simp only [Act.put, rhA, rhS, rhT]
        refine hT 10 ?_; simp only [Act.put, rhA, rhS, rhT]
        refine hT 11 ?_; simp only [Act.put, rhA, rhS, rhT]
        refine hT 12 ?_; simp only [Act.put, rhA, rhS, rhT]
        refine hT 13 ?_; simp only [Act.put, rhA, rhS, rhT]
        refine hT 14 ?_; simp only [Act.put, rhA, rhS, rhT]
        refine hT 15 ?_; simp only [Act.put, rhA, rhS, rhT]
        refine hT 16 ?_; simp only [Act.put, rhA, rhS, rhT]
        refine hT 17 ?_; simp only [Act.put, rhA, rhS, rhT]
        refine hT 18 ?_; simp only [Act.put, rhA, rhS, rhT]
        refine hT 19 ?_; simp only [Act.put, rhA, rhS, rhT]
        refine hT 20 ?_; simp only [Act.put, rhA, rhS, rhT]
        refine hT 21 ?_; simp only [Act.put, rhA, rhS, rhT]
        refine hT 22 ?_; simp only [Act.put, rhA, rhS, rhT]
        refine hT 23 ?_; simp only [Act.put, rhA, rhS, rhT]
        refine hT 24 ?_; simp only [Act.put, rhA, rhS, rhT]
        refine hP 25 ?_; simp only [Act.put, rhA, rhS, rhT]
        refine hP 26 ?_; simp only [Act.put, rhA, rhS, rhT]
        refine hP 27 ?_; simp only [Act.put, rhA, rhS, rhT]
        refine hP 28 ?_; simp only [Act.put, rhA, rhS, rhT]
        refine hP 29 ?_; simp only [Act.put, rhA, rhS, rhT]
        refine hP 30 ?_; simp only [Act.put, rhA, rhS, rhT]
        refine hP 31 ?_; simp only [Act.put, rhA, rhS, rhT]
        refine hP 32 ?_; simp only [Act.put, rhA, rhS, rhT]
        refine hP 33 ?_; simp only [Act.put, rhA, rhS, rhT]
        refine hP 34 ?_; simp only [Act.put, rhA, rhS, rhT]
        refine hP 35 ?_; simp only [Act.put, rhA, rhS, rhT]
        refine hP 36 ?_; simp only [Act.put, rhA, rhS, rhT]
        refine hP 37 ?_; simp only [Act.put, rhA, rhS, rhT]
        refine hP 38 ?_; simp only [Act.put, rhA, rhS, rhT]
        refine hT 39 ?_; simp only [Act.put, rhA, rhS, rhT]
        refine wpAnyH_done (by kernel_rfl) ?_ _
        go_wp2_with fail
        go_ret
        refine ⟨?_, below_of hBX (by repeat' (first | exact Below.refl _ _ | refine Below.alloc ?_ ?_ _ | refine Below.setCell ?_ ?_ _ | refine Below.drew ?_ | (apply below_step; assumption) | (simp; done) | (simp; omega) | omega))⟩
        obtain ⟨p, hp, _⟩ := HTS.out
        rw [HS.out, pfrom_step hp HR.out, HBI.out]; rfl
      · have HBI := Lib.hid (show instIn r = true by rw [HII.out _ _ _ _ _ rfl e4 e5 e6 e7]; simp)
        obtain ⟨p, hp, hcase⟩ := HTS.out
        have HP := Lib.hid hp
        clear hp HTS
        rcases hcase with ⟨rfl, rfl⟩ | ⟨m, r0, hkm, hm0, rfl⟩
        · skip
          refine wp_region_held_drew (S := (fun w' => Below X.heap.size X w' ∧ (∀ o, w'.cell? ⟨w.heap.size, o, none⟩ = (#[.int .i64 ep, .slice (some ⟨b, off, none⟩) l.length c] : Array Value)[o]?) ∧ (∀ o, w'.cell? ⟨wr.heap.size, o, none⟩ = (#[.int .i64 r.c, .int .i64 r.m, .int .i64 r.p] : Array Value)[o]?))) (by kernel_rfl) (by (try dsimp only); exact HK.out _ (by repeat' (first | exact Below.refl _ _ | refine Below.alloc ?_ ?_ _ | refine Below.setCell ?_ ?_ _ | refine Below.drew ?_ | (apply below_step; assumption) | (simp; done) | (simp; omega) | omega))) (fun hHeld => ?_)
          refine hT 0 ?_; simp only [Act.put, rhA, rhS, rhT]
          refine hT 1 ?_; simp only [Act.put, rhA, rhS, rhT]
          refine hCall (i := 2) (o := ?a396) ?b396 (by kernel_rfl) ?c396 (fun K hK => ?d396)
          case b396 => simp only [rhN, rhM]; try rfl
          case c396 => rfl
          go_simp
          refine (HID.out _).mono ?_
          rintro e w3 ⟨rfl, rfl⟩
          go_wp2_with fail
          refine hK.out _ _ (by (try dsimp only); exact HK.out _ (by repeat' (first | exact Below.refl _ _ | refine Below.alloc ?_ ?_ _ | refine Below.setCell ?_ ?_ _ | refine Below.drew ?_ | (apply below_step; assumption) | (simp; done) | (simp; omega) | omega))) (fun hHeld => ?_)
          clear hK K
          try simp only [Act.put, rhA, rhS, rhT]
          refine hT 3 ?_; simp only [Act.put, rhA, rhS, rhT]
          refine hT 4 ?_; simp only [Act.put, rhA, rhS, rhT]
          refine hT 5 ?_; simp only [Act.put, rhA, rhS, rhT]
          refine hT 6 ?_; simp only [Act.put, rhA, rhS, rhT]
          refine hT 7 ?_; simp only [Act.put, rhA, rhS, rhT]
          refine hT 8 ?_; simp only [Act.put, rhA, rhS, rhT]
          refine hT 9 ?_; simp only [Act.put, rhA, rhS, rhT]
          refine hT 10 ?_; simp only [Act.put, rhA, rhS, rhT]
          refine hT 11 ?_; simp only [Act.put, rhA, rhS, rhT]
          refine hT 12 ?_; simp only [Act.put, rhA, rhS, rhT]
          refine hT 13 ?_; simp only [Act.put, rhA, rhS, rhT]
          refine hT 14 ?_; simp only [Act.put, rhA, rhS, rhT]
          refine hT 15 ?_; simp only [Act.put, rhA, rhS, rhT]
          refine hT 16 ?_; simp only [Act.put, rhA, rhS, rhT]
          refine hT 17 ?_; simp only [Act.put, rhA, rhS, rhT]
          refine hT 18 ?_; simp only [Act.put, rhA, rhS, rhT]
          refine hT 19 ?_; simp only [Act.put, rhA, rhS, rhT]
          refine hT 20 ?_; simp only [Act.put, rhA, rhS, rhT]
          refine hT 21 ?_; simp only [Act.put, rhA, rhS, rhT]
          refine hT 22 ?_; simp only [Act.put, rhA, rhS, rhT]
          refine hT 23 ?_; simp only [Act.put, rhA, rhS, rhT]
          refine hT 24 ?_; simp only [Act.put, rhA, rhS, rhT]
          refine hT 25 ?_; simp only [Act.put, rhA, rhS, rhT]
          refine hT 26 ?_; simp only [Act.put, rhA, rhS, rhT]
          refine hT 27 ?_; simp only [Act.put, rhA, rhS, rhT]
          refine hP 28 ?_; simp only [Act.put, rhA, rhS, rhT]
          refine hP 29 ?_; simp only [Act.put, rhA, rhS, rhT]
          refine hP 30 ?_; simp only [Act.put, rhA, rhS, rhT]
          refine hP 31 ?_; simp only [Act.put, rhA, rhS, rhT]
          refine hP 32 ?_; simp only [Act.put, rhA, rhS, rhT]
          refine hP 33 ?_; simp only [Act.put, rhA, rhS, rhT]
          refine hP 34 ?_; simp only [Act.put, rhA, rhS, rhT]
          refine hP 35 ?_; simp only [Act.put, rhA, rhS, rhT]
          refine hP 36 ?_; simp only [Act.put, rhA, rhS, rhT]
          refine hP 37 ?_; simp only [Act.put, rhA, rhS, rhT]
          refine hT 38 ?_; simp only [Act.put, rhA, rhS, rhT]
          refine hT 39 ?_; simp only [Act.put, rhA, rhS, rhT]
          refine wpAnyH_done (by kernel_rfl) ?_ _
          go_wp2_with fail
          go_roundw
          case rel =>
            refine ⟨1, by omega, by go_num, ⟨r.c, ?_, .inr ⟨0, r, rfl, HR.out, rfl⟩⟩, HBK.out.below (below_of hAX (by repeat' (first | exact Below.refl _ _ | refine Below.alloc ?_ ?_ _ | refine Below.setCell ?_ ?_ _ | refine Below.drew ?_ | (apply below_step; assumption) | (simp; done) | (simp; omega) | omega))) gl, below_of hBX (by repeat' (first | exact Below.refl _ _ | refine Below.alloc ?_ ?_ _ | refine Below.setCell ?_ ?_ _ | refine Below.drew ?_ | (apply below_step; assumption) | (simp; done) | (simp; omega) | omega))⟩
            rw [pfrom_step HP.out HR.out, HBI.out, show decide (0 < r.c) = true by simp; omega]; rfl
          case measure => simp [RowKit.intOf]; omega
        · have p0 := ((HAT.out.below hB hbw) m r0 hm0).1
          have hgt : 0 < k := by omega
          have hgti : (0 : Int) < (k : Int) := by omega
          have hwr : IntKind.i64.wrap ((k : Int) - 1) = (m : Int) := by rw [IntWalk.i64_in _ (by omega)]; omega
          have hmi : (m : Int) < (l.length : Int) := by omega
          have hm0' : (0 : Int) ≤ (m : Int) := by omega
          have HKM := Lib.hid hkm
          have HM0 := Lib.hid hm0
          have pX : X.cell? ⟨b, off + m * 3, none⟩ = some (.int .i64 r0.c) := (hAX.cell (p := ⟨_, _, none⟩) hbr).trans p0
          have HK1 := Lib.hid (show ∀ w', Below X.heap.size X w' → Below X.heap.size X w' ∧ (∀ o, w'.cell? ⟨w.heap.size, o, none⟩ = (#[.int .i64 ep, .slice (some ⟨b, off, none⟩) l.length c] : Array Value)[o]?) ∧ (∀ o, w'.cell? ⟨wr.heap.size, o, none⟩ = (#[.int .i64 r.c, .int .i64 r.m, .int .i64 r.p] : Array Value)[o]?) ∧ w'.cell? ⟨b, off + m * 3, none⟩ = some (.int .i64 r0.c) from fun w' hb => ⟨(HK.out w' hb).1, (HK.out w' hb).2.1, (HK.out w' hb).2.2, (hb.cell (p := ⟨b, off + m * 3, none⟩) hbX).trans pX⟩)
          clear hkm hm0 p0
          cases hge : decide (r.c ≤ r0.c)
          · have HGE := Lib.hid (show r0.c < r.c by simpa using hge)
            refine wp_region_held_drew (S := (fun w' => Below X.heap.size X w' ∧ (∀ o, w'.cell? ⟨w.heap.size, o, none⟩ = (#[.int .i64 ep, .slice (some ⟨b, off, none⟩) l.length c] : Array Value)[o]?) ∧ (∀ o, w'.cell? ⟨wr.heap.size, o, none⟩ = (#[.int .i64 r.c, .int .i64 r.m, .int .i64 r.p] : Array Value)[o]?) ∧ w'.cell? ⟨b, off + m * 3, none⟩ = some (.int .i64 r0.c))) (by kernel_rfl) (by (try dsimp only); exact HK1.out _ (by repeat' (first | exact Below.refl _ _ | refine Below.alloc ?_ ?_ _ | refine Below.setCell ?_ ?_ _ | refine Below.drew ?_ | (apply below_step; assumption) | (simp; done) | (simp; omega) | omega))) (fun hHeld => ?_)
            refine hT 0 ?_; simp only [Act.put, rhA, rhS, rhT]
            refine hT 1 ?_; simp only [Act.put, rhA, rhS, rhT]
            refine hCall (i := 2) (o := ?a454) ?b454 (by kernel_rfl) ?c454 (fun K hK => ?d454)
            case b454 => simp only [rhN, rhM]; try rfl
            case c454 => rfl
            go_simp
            refine (HID.out _).mono ?_
            rintro e w3 ⟨rfl, rfl⟩
            go_wp2_with fail
            refine hK.out _ _ (by (try dsimp only); exact HK1.out _ (by repeat' (first | exact Below.refl _ _ | refine Below.alloc ?_ ?_ _ | refine Below.setCell ?_ ?_ _ | refine Below.drew ?_ | (apply below_step; assumption) | (simp; done) | (simp; omega) | omega))) (fun hHeld => ?_)
            clear hK K
            try simp only [Act.put, rhA, rhS, rhT]
            refine hT 3 ?_; simp only [Act.put, rhA, rhS, rhT]
            refine hT 4 ?_; simp only [Act.put, rhA, rhS, rhT]
            refine hT 5 ?_; simp only [Act.put, rhA, rhS, rhT]
            refine hT 6 ?_; simp only [Act.put, rhA, rhS, rhT]
            refine hT 7 ?_; simp only [Act.put, rhA, rhS, rhT]
            refine hT 8 ?_; simp only [Act.put, rhA, rhS, rhT]
            refine hT 9 ?_; simp only [Act.put, rhA, rhS, rhT]
            refine hT 10 ?_; simp only [Act.put, rhA, rhS, rhT]
            refine hT 11 ?_; simp only [Act.put, rhA, rhS, rhT]
            refine hT 12 ?_; simp only [Act.put, rhA, rhS, rhT]
            refine hT 13 ?_; simp only [Act.put, rhA, rhS, rhT]
            refine hT 14 ?_; simp only [Act.put, rhA, rhS, rhT]
            refine hT 15 ?_; simp only [Act.put, rhA, rhS, rhT]
            refine hT 16 ?_; simp only [Act.put, rhA, rhS, rhT]
            refine hT 17 ?_; simp only [Act.put, rhA, rhS, rhT]
            refine hT 18 ?_; simp only [Act.put, rhA, rhS, rhT]
            refine hT 19 ?_; simp only [Act.put, rhA, rhS, rhT]
            refine hT 20 ?_; simp only [Act.put, rhA, rhS, rhT]
            refine hT 21 ?_; simp only [Act.put, rhA, rhS, rhT]
            refine hT 22 ?_; simp only [Act.put, rhA, rhS, rhT]
            refine hT 23 ?_; simp only [Act.put, rhA, rhS, rhT]
            refine hT 24 ?_; simp only [Act.put, rhA, rhS, rhT]
            refine hT 25 ?_; simp only [Act.put, rhA, rhS, rhT]
            refine hT 26 ?_; simp only [Act.put, rhA, rhS, rhT]
            refine hT 27 ?_; simp only [Act.put, rhA, rhS, rhT]
            refine hT 28 ?_; simp only [Act.put, rhA, rhS, rhT]
            refine hT 29 ?_; simp only [Act.put, rhA, rhS, rhT]
            refine hT 30 ?_; simp only [Act.put, rhA, rhS, rhT]
            refine hT 31 ?_; simp only [Act.put, rhA, rhS, rhT]
            refine hT 32 ?_; simp only [Act.put, rhA, rhS, rhT]
            refine hT 33 ?_; simp only [Act.put, rhA, rhS, rhT]
            refine hT 34 ?_; simp only [Act.put, rhA, rhS, rhT]
            refine hT 35 ?_; simp only [Act.put, rhA, rhS, rhT]
            refine hT 36 ?_; simp only [Act.put, rhA, rhS, rhT]
            refine hT 37 ?_; simp only [Act.put, rhA, rhS, rhT]
            refine hT 38 ?_; simp only [Act.put, rhA, rhS, rhT]
            refine hT 39 ?_; simp only [Act.put, rhA, rhS, rhT]
            refine wpAnyH_done (by kernel_rfl) ?_ _
            go_wp2_with fail
            go_roundw
            case rel =>
              refine ⟨k + 1, by omega, by go_num, ⟨r.c, ?_, .inr ⟨k, r, rfl, HR.out, rfl⟩⟩, HBK.out.below (below_of hAX (by repeat' (first | exact Below.refl _ _ | refine Below.alloc ?_ ?_ _ | refine Below.setCell ?_ ?_ _ | refine Below.drew ?_ | (apply below_step; assumption) | (simp; done) | (simp; omega) | omega))) gl, below_of hBX (by repeat' (first | exact Below.refl _ _ | refine Below.alloc ?_ ?_ _ | refine Below.setCell ?_ ?_ _ | refine Below.drew ?_ | (apply below_step; assumption) | (simp; done) | (simp; omega) | omega))⟩
              rw [pfrom_step HP.out HR.out, HBI.out, show decide (r0.c < r.c) = true by simpa using HGE.out]; rfl
            case measure => simp [RowKit.intOf]; omega
          · have HGE := Lib.hid (show ¬ r0.c < r.c by have := of_decide_eq_true hge; omega)
            refine wp_region_held_drew (S := (fun w' => Below X.heap.size X w' ∧ (∀ o, w'.cell? ⟨w.heap.size, o, none⟩ = (#[.int .i64 ep, .slice (some ⟨b, off, none⟩) l.length c] : Array Value)[o]?) ∧ (∀ o, w'.cell? ⟨wr.heap.size, o, none⟩ = (#[.int .i64 r.c, .int .i64 r.m, .int .i64 r.p] : Array Value)[o]?) ∧ w'.cell? ⟨b, off + m * 3, none⟩ = some (.int .i64 r0.c))) (by kernel_rfl) (by (try dsimp only); exact HK1.out _ (by repeat' (first | exact Below.refl _ _ | refine Below.alloc ?_ ?_ _ | refine Below.setCell ?_ ?_ _ | refine Below.drew ?_ | (apply below_step; assumption) | (simp; done) | (simp; omega) | omega))) (fun hHeld => ?_)
            refine hT 0 ?_; simp only [Act.put, rhA, rhS, rhT]
            refine hT 1 ?_; simp only [Act.put, rhA, rhS, rhT]
            refine hCall (i := 2) (o := ?a512) ?b512 (by kernel_rfl) ?c512 (fun K hK => ?d512)
            case b512 => simp only [rhN, rhM]; try rfl
            case c512 => rfl
            go_simp
            refine (HID.out _).mono ?_
            rintro e w3 ⟨rfl, rfl⟩
            go_wp2_with fail
            refine hK.out _ _ (by (try dsimp only); exact HK1.out _ (by repeat' (first | exact Below.refl _ _ | refine Below.alloc ?_ ?_ _ | refine Below.setCell ?_ ?_ _ | refine Below.drew ?_ | (apply below_step; assumption) | (simp; done) | (simp; omega) | omega))) (fun hHeld => ?_)
            clear hK K
            try simp only [Act.put, rhA, rhS, rhT]
            refine hT 3 ?_; simp only [Act.put, rhA, rhS, rhT]
            refine hT 4 ?_; simp only [Act.put, rhA, rhS, rhT]
            refine hT 5 ?_; simp only [Act.put, rhA, rhS, rhT]
            refine hT 6 ?_; simp only [Act.put, rhA, rhS, rhT]
            refine hT 7 ?_; simp only [Act.put, rhA, rhS, rhT]
            refine hT 8 ?_; simp only [Act.put, rhA, rhS, rhT]
            refine hT 9 ?_; simp only [Act.put, rhA, rhS, rhT]
            refine hT 10 ?_; simp only [Act.put, rhA, rhS, rhT]
            refine hT 11 ?_; simp only [Act.put, rhA, rhS, rhT]
            refine hT 12 ?_; simp only [Act.put, rhA, rhS, rhT]
            refine hT 13 ?_; simp only [Act.put, rhA, rhS, rhT]
            refine hT 14 ?_; simp only [Act.put, rhA, rhS, rhT]
            refine hT 15 ?_; simp only [Act.put, rhA, rhS, rhT]
            refine hT 16 ?_; simp only [Act.put, rhA, rhS, rhT]
            refine hT 17 ?_; simp only [Act.put, rhA, rhS, rhT]
            refine hT 18 ?_; simp only [Act.put, rhA, rhS, rhT]
            refine hT 19 ?_; simp only [Act.put, rhA, rhS, rhT]
            refine hT 20 ?_; simp only [Act.put, rhA, rhS, rhT]
            refine hT 21 ?_; simp only [Act.put, rhA, rhS, rhT]
            refine hT 22 ?_; simp only [Act.put, rhA, rhS, rhT]
            refine hT 23 ?_; simp only [Act.put, rhA, rhS, rhT]
            refine hT 24 ?_; simp only [Act.put, rhA, rhS, rhT]
            refine hT 25 ?_; simp only [Act.put, rhA, rhS, rhT]
            refine hT 26 ?_; simp only [Act.put, rhA, rhS, rhT]
            refine hT 27 ?_; simp only [Act.put, rhA, rhS, rhT]
            refine hT 28 ?_; simp only [Act.put, rhA, rhS, rhT]
            refine hT 29 ?_; simp only [Act.put, rhA, rhS, rhT]
            refine hT 30 ?_; simp only [Act.put, rhA, rhS, rhT]
            refine hT 31 ?_; simp only [Act.put, rhA, rhS, rhT]
            refine hT 32 ?_; simp only [Act.put, rhA, rhS, rhT]
            refine hT 33 ?_; simp only [Act.put, rhA, rhS, rhT]
            refine hT 34 ?_; simp only [Act.put, rhA, rhS, rhT]
            refine hT 35 ?_; simp only [Act.put, rhA, rhS, rhT]
            refine hT 36 ?_; simp only [Act.put, rhA, rhS, rhT]
            refine hT 37 ?_; simp only [Act.put, rhA, rhS, rhT]
            refine hT 38 ?_; simp only [Act.put, rhA, rhS, rhT]
            refine hT 39 ?_; simp only [Act.put, rhA, rhS, rhT]
            refine wpAnyH_done (by kernel_rfl) ?_ _
            go_wp2_with fail
            go_ret
            refine ⟨?_, below_of hBX (by repeat' (first | exact Below.refl _ _ | refine Below.alloc ?_ ?_ _ | refine Below.setCell ?_ ?_ _ | refine Below.drew ?_ | (apply below_step; assumption) | (simp; done) | (simp; omega) | omega))⟩
            rw [HS.out, pfrom_step HP.out HR.out, HBI.out, show decide (r0.c < r.c) = false by simpa using HGE.out]; rfl
    · obtain rfl : k = l.length := by omega
      obtain ⟨p, hp, _⟩ := HTS.out
      have HE2 := Lib.hid hp
      clear hp HTS
      have HTD := Lib.hid (List.drop_length (l := l))
      go_wp2_with fail
      go_ret
      exact ⟨by rw [HS.out, HE2.out, HTD.out]; rfl, hB⟩
end Go.Proofs.YtcegofdmdemcbaaGreatDoor
