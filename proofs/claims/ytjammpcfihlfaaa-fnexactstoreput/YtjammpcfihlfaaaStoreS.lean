/- The contracts of the model's l06Item, StoreOk, l06At, StoreGet. -/
import Derived.Test.YtjammpcfihlfaaaStoreI
import Derived.Test.YtjammpcfihlfaaaRegHeld
namespace Go.Proofs.Ytjammpcfihlfaaa
open Go.RowKit Go.Maps

theorem itemIn_eq5 (r : RV) (least : Int) (b1 b2 b3 b4 b5 : Bool) (h1 : decide (1 ≤ r.c) = b1) (h2 : decide (r.c ≤ 1000) = b2) (h3 : lWithin r.m 0 1000000 = b3) (h4 : decide (least ≤ r.p) = b4) (h5 : decide (r.p ≤ 1000000) = b5) : itemIn r least = ((b1 && b2) && b3 && (b4 && b5)) := by
  subst h1 h2 h3 h4 h5; rfl
theorem l06Item_any (r : RV) (least : Int) (w : World) : Calls Try.prog 53 #[.agg #[.int .i64 r.c, .int .i64 r.m, .int .i64 r.p], .int .i64 least] w fun e w' => e = .returned (.bool (itemIn r least)) ∧ Below w.heap.size w w' := by
  have h3 := fun w => l01Amt_any r.m w
  have HE := Lib.hid (itemIn_eq5 r least)
  generalize itemIn r least = ok at *
  generalize e1 : decide (1 ≤ r.c) = b1
  generalize e2 : decide (r.c ≤ 1000) = b2
  generalize lWithin r.m 0 1000000 = b3 at *
  generalize e4 : decide (least ≤ r.p) = b4
  generalize e5 : decide (r.p ≤ 1000000) = b5
  have HE' := Lib.hid (HE.out _ _ _ _ _ e1 e2 rfl e4 e5)
  have H3 := Lib.hid h3
  clear h3 HE
  go_enter Try.func53, Try.ntmps53
  cases b1
  · go_wp2_with fail
    go_ret
    exact ⟨by rw [HE'.out]; simp, (by repeat' (first | exact Below.refl _ _ | refine Below.alloc ?_ ?_ _ | refine Below.setCell ?_ ?_ _ | refine Below.drew ?_ | (apply below_step; assumption) | (simp; done) | (simp; omega) | omega))⟩
  cases b2
  · go_wp2_with fail
    go_ret
    exact ⟨by rw [HE'.out]; simp, (by repeat' (first | exact Below.refl _ _ | refine Below.alloc ?_ ?_ _ | refine Below.setCell ?_ ?_ _ | refine Below.drew ?_ | (apply below_step; assumption) | (simp; done) | (simp; omega) | omega))⟩
  go_wp2_with fail
  refine (H3.out _).mono ?_
  rintro e w1 ⟨rfl, rfl⟩
  cases b3
  · go_wp2_with fail
    go_ret
    exact ⟨by rw [HE'.out]; simp, (by repeat' (first | exact Below.refl _ _ | refine Below.alloc ?_ ?_ _ | refine Below.setCell ?_ ?_ _ | refine Below.drew ?_ | (apply below_step; assumption) | (simp; done) | (simp; omega) | omega))⟩
  cases b4
  · go_wp2_with fail
    go_ret
    exact ⟨by rw [HE'.out]; simp, (by repeat' (first | exact Below.refl _ _ | refine Below.alloc ?_ ?_ _ | refine Below.setCell ?_ ?_ _ | refine Below.drew ?_ | (apply below_step; assumption) | (simp; done) | (simp; omega) | omega))⟩
  go_wp2_with fail
  go_ret
  exact ⟨by rw [HE'.out]; simp, (by repeat' (first | exact Below.refl _ _ | refine Below.alloc ?_ ?_ _ | refine Below.setCell ?_ ?_ _ | refine Below.drew ?_ | (apply below_step; assumption) | (simp; done) | (simp; omega) | omega))⟩

theorem storeOk_eq4 (ep : Int) (l : List RV) (b0 b1 b2 b3 : Bool) (h0 : decide (ep < 0) = b0) (h1 : decide (1000 < ep) = b1) (h2 : decide (20 < (l.length : Int)) = b2) (h3 : storeFrom 0 l = b3) : storeOk ep l = (!b0 && !b1 && !b2 && b3) := by
  rw [storeOk_eq ep l (!b0 && !b1) b2 b3 ?_ h2 h3]
  subst h0 h1
  unfold lWithin
  by_cases h : ep < 0 <;> by_cases h' : 1000 < ep <;> simp [h, h'] <;> omega
theorem from_step {last : Int} {l : List RV} {k : Nat} {r : RV} (h : storeFrom 0 l = storeFrom last (l.drop k)) (hr : l[k]? = some r) : storeFrom 0 l = (itemIn r 1 && decide (last < r.c) && storeFrom r.c (l.drop (k + 1))) := h.trans (storeFrom_step hr)
set_option maxHeartbeats 3200000 in
theorem sStoreOk_any (ep : Int) (v : Value) (l : List RV) (w : World) (hv : ItSl w v l) : Calls Try.prog 31 #[.agg #[.int .i64 ep, v]] w fun e w' => e = .returned (.bool (storeOk ep l)) ∧ Below w.heap.size w w' := by
  obtain ⟨A, c, rfl, hA⟩ := hv.form
  have HA := Lib.hid hA
  clear hA hv
  have HE := Lib.hid (storeOk_eq4 ep l)
  generalize e0 : decide (ep < 0) = b0
  generalize e1 : decide (1000 < ep) = b1
  generalize e2 : decide (20 < (l.length : Int)) = b2
  have HE' := Lib.hid (fun b3 => HE.out _ _ _ b3 e0 e1 e2)
  clear HE
  go_enter Try.func31, Try.ntmps31
  cases b0
  rotate_left
  · go_wp2_with fail
    go_ret
    exact ⟨by rw [HE'.out _ rfl]; simp, (by repeat' (first | exact Below.refl _ _ | refine Below.alloc ?_ ?_ _ | refine Below.setCell ?_ ?_ _ | refine Below.drew ?_ | (apply below_step; assumption) | (simp; done) | (simp; omega) | omega))⟩
  cases b1
  rotate_left
  · go_wp2_with fail
    go_ret
    exact ⟨by rw [HE'.out _ rfl]; simp, (by repeat' (first | exact Below.refl _ _ | refine Below.alloc ?_ ?_ _ | refine Below.setCell ?_ ?_ _ | refine Below.drew ?_ | (apply below_step; assumption) | (simp; done) | (simp; omega) | omega))⟩
  cases b2
  rotate_left
  · go_wp2_with fail
    go_ret
    exact ⟨by rw [HE'.out _ rfl]; simp, (by repeat' (first | exact Below.refl _ _ | refine Below.alloc ?_ ?_ _ | refine Below.setCell ?_ ?_ _ | refine Below.drew ?_ | (apply below_step; assumption) | (simp; done) | (simp; omega) | omega))⟩
  have hl20 : l.length ≤ 20 := by have := of_decide_eq_false e2; omega
  have HS := Lib.hid (show storeOk ep l = storeFrom 0 l by rw [HE'.out _ rfl]; simp)
  clear HE'
  go_wp2_with fail
  go_loopw [3] (fun s3 wr => ∃ k : Nat, k ≤ l.length ∧ s3 = .int .i64 k ∧ (∃ p : Int, storeFrom 0 l = storeFrom p (l.drop k) ∧ ((k = 0 ∧ p = 0) ∨ ∃ m r0, k = m + 1 ∧ l[m]? = some r0 ∧ p = r0.c)) ∧ BlockIs wr w.heap.size 34 #[.int .i64 ep, .slice A l.length c] ∧ Below w.heap.size w wr) (fun s3 _ => (l.length - RowKit.intOf s3).toNat)
  case atStart => exact ⟨0, by omega, rfl, ⟨0, by simp, .inl ⟨rfl, rfl⟩⟩, BlockIs.new _ _ _, (by repeat' (first | exact Below.refl _ _ | refine Below.alloc ?_ ?_ _ | refine Below.setCell ?_ ?_ _ | refine Below.drew ?_ | (apply below_step; assumption) | (simp; done) | (simp; omega) | omega))⟩
  case round =>
    obtain ⟨k, hk, rfl, hts, hblk, hB⟩ := hrel
    have HTS := Lib.hid hts
    have HBK := Lib.hid hblk
    have hzr := hB.size
    have gc := hblk.cell
    have gl := hblk.lt
    have g1 := gc 1
    simp at g1
    clear hts hblk
    by_cases hlt : k < l.length
    · obtain ⟨b, off, rfl, hbw, hat⟩ := HA.out (by omega)
      obtain ⟨r, hr⟩ : ∃ r, l[k]? = some r := ⟨_, List.getElem?_eq_getElem hlt⟩
      obtain ⟨q0, q1, q2⟩ := (hat.below hB hbw) k r hr
      have HR := Lib.hid hr
      have hki : (k : Int) < (l.length : Int) := by omega
      have hk0 : (0 : Int) ≤ (k : Int) := by omega
      have hbr : b < wr.heap.size := by omega
      have hok := fun w => l06Item_any r 1 w
      have HK := Lib.hid (show ∀ w', Below wr.heap.size wr w' → Below wr.heap.size wr w' ∧ (∀ o, w'.cell? ⟨w.heap.size, o, none⟩ = (#[.int .i64 ep, .slice (some ⟨b, off, none⟩) l.length c] : Array Value)[o]?) ∧ w'.cell? ⟨b, off + k * 3, none⟩ = some (.int .i64 r.c) ∧ w'.cell? ⟨b, off + k * 3 + 1, none⟩ = some (.int .i64 r.m) ∧ w'.cell? ⟨b, off + k * 3 + 2, none⟩ = some (.int .i64 r.p) from fun w' hb => ⟨hb, fun o => (hb.cell (p := ⟨_, _, none⟩) gl).trans (gc o), (hb.cell (p := ⟨_, _, none⟩) hbr).trans q0, (hb.cell (p := ⟨_, _, none⟩) hbr).trans q1, (hb.cell (p := ⟨_, _, none⟩) hbr).trans q2⟩)
      have HAT := Lib.hid hat
      have HI1 := Lib.hid (itemIn_iff (r := r) (least := 1)).1
      cases ho : itemIn r 1
      · rw [ho] at hok
        have HO := Lib.hid ho
        have HOK := Lib.hid hok
        clear ho hok hat hr
        go_wp2_with fail
        refine wp_region_held_drew (S := (fun w' => Below wr.heap.size wr w' ∧ (∀ o, w'.cell? ⟨w.heap.size, o, none⟩ = (#[.int .i64 ep, .slice (some ⟨b, off, none⟩) l.length c] : Array Value)[o]?) ∧ w'.cell? ⟨b, off + k * 3, none⟩ = some (.int .i64 r.c) ∧ w'.cell? ⟨b, off + k * 3 + 1, none⟩ = some (.int .i64 r.m) ∧ w'.cell? ⟨b, off + k * 3 + 2, none⟩ = some (.int .i64 r.p))) (by kernel_rfl) (by (try dsimp only); exact HK.out _ (by repeat' (first | exact Below.refl _ _ | refine Below.alloc ?_ ?_ _ | refine Below.setCell ?_ ?_ _ | refine Below.drew ?_ | (apply below_step; assumption) | (simp; done) | (simp; omega) | omega))) (fun hHeld => ?_)
        refine hTake (i := 0) (oi := ?a2) (v := ?f2) (d := ?g2) ?b2 ?c2 (by kernel_rfl) ?d2 ?e2 ?h2 (by assumption) ?_; (case b2 => simp only [rhN]; try rfl); (case c2 => (try dsimp only); rfl); (case e2 => rfl); (case d2 => exact fun _ _ _ h => h); (case h2 => intro w hSw; (try dsimp only at hSw); go_simp <;> with_reducible rfl); simp only [Act.put, rhA, rhS, rhT]
        refine hTake (i := 1) (oi := ?a3) (v := ?f3) (d := ?g3) ?b3 ?c3 (by kernel_rfl) ?d3 ?e3 ?h3 (by assumption) ?_; (case b3 => simp only [rhN, rhM]; try rfl); (case c3 => (try dsimp only); rfl); (case e3 => rfl); (case d3 => exact fun _ _ _ h => h); (case h3 => intro w hSw; (try dsimp only at hSw); go_simp <;> with_reducible rfl); simp only [Act.put, rhA, rhS, rhT]
        refine hTake (i := 2) (oi := ?a4) (v := ?f4) (d := ?g4) ?b4 ?c4 (by kernel_rfl) ?d4 ?e4 ?h4 (by assumption) ?_; (case b4 => simp only [rhN, rhM]; try rfl); (case c4 => (try dsimp only); rfl); (case e4 => rfl); (case d4 => exact fun _ _ _ h => h); (case h4 => intro w hSw; (try dsimp only at hSw); go_simp <;> with_reducible rfl); simp only [Act.put, rhA, rhS, rhT]
        refine hTake (i := 3) (oi := ?a5) (v := ?f5) (d := ?g5) ?b5 ?c5 (by kernel_rfl) ?d5 ?e5 ?h5 (by assumption) ?_; (case b5 => simp only [rhN, rhM]; try rfl); (case c5 => (try dsimp only); rfl); (case e5 => rfl); (case d5 => exact fun _ _ _ h => h); (case h5 => intro w hSw; (try dsimp only at hSw); go_simp <;> with_reducible rfl); simp only [Act.put, rhA, rhS, rhT]
        refine hTake (i := 4) (oi := ?a6) (v := ?f6) (d := ?g6) ?b6 ?c6 (by kernel_rfl) ?d6 ?e6 ?h6 (by assumption) ?_; (case b6 => simp only [rhN, rhM]; try rfl); (case c6 => (try dsimp only); rfl); (case e6 => rfl); (case d6 => exact fun _ _ _ h => h); (case h6 => intro w hSw; (try dsimp only at hSw); go_simp <;> with_reducible rfl); simp only [Act.put, rhA, rhS, rhT]
        refine hCall (i := 5) (o := ?a7) ?b7 (by kernel_rfl) ?c7 (fun K hK => ?d7)
        case b7 => simp only [rhN, rhM]; try rfl
        case c7 => rfl
        go_simp
        refine (HOK.out _).mono ?_
        rintro e w3 ⟨rfl, hb_w3⟩
        have hz_w3 := hb_w3.size
        try simp at hz_w3
        go_wp2_with fail
        refine hK.out _ _ (by (try dsimp only); exact HK.out _ (by repeat' (first | exact Below.refl _ _ | refine Below.alloc ?_ ?_ _ | refine Below.setCell ?_ ?_ _ | refine Below.drew ?_ | (apply below_step; assumption) | (simp; done) | (simp; omega) | omega))) (fun hHeld => ?_)
        clear hK K
        try simp only [Act.put, rhA, rhS, rhT]
        refine hTake (i := 6) (oi := ?a9) (v := ?f9) (d := ?g9) ?b9 ?c9 (by kernel_rfl) ?d9 ?e9 ?h9 (by assumption) ?_; (case b9 => simp only [rhN, rhM]; try rfl); (case c9 => (try dsimp only); rfl); (case e9 => rfl); (case d9 => exact fun _ _ _ h => h); (case h9 => intro w hSw; (try dsimp only at hSw); go_simp <;> with_reducible rfl); simp only [Act.put, rhA, rhS, rhT]
        refine hTake (i := 7) (oi := ?a11) (v := ?f11) (d := ?g11) ?b11 ?c11 (by kernel_rfl) ?d11 ?e11 ?h11 (by assumption) ?_; (case b11 => simp only [rhN, rhM]; try rfl); (case c11 => (try dsimp only); rfl); (case e11 => rfl); (case d11 => exact fun _ _ _ h => h); (case h11 => intro w hSw; (try dsimp only at hSw); go_simp <;> with_reducible rfl); simp only [Act.put, rhA, rhS, rhT]
        refine hSkip (i := 8) (oi := ?a13) (d := ?g13) ?b13 ?c13 (by kernel_rfl) ?d13 ?e13 (by assumption) ?_; (case b13 => simp only [rhN, rhM]; try rfl); (case c13 => (try dsimp only); rfl); (case e13 => rfl); (case d13 => exact fun _ _ _ h => h); simp only [Act.put, rhA, rhS, rhT]
        refine hSkip (i := 9) (oi := ?a14) (d := ?g14) ?b14 ?c14 (by kernel_rfl) ?d14 ?e14 (by assumption) ?_; (case b14 => simp only [rhN, rhM]; try rfl); (case c14 => (try dsimp only); rfl); (case e14 => rfl); (case d14 => exact fun _ _ _ h => h); simp only [Act.put, rhA, rhS, rhT]
        refine hSkip (i := 10) (oi := ?a15) (d := ?g15) ?b15 ?c15 (by kernel_rfl) ?d15 ?e15 (by assumption) ?_; (case b15 => simp only [rhN, rhM]; try rfl); (case c15 => (try dsimp only); rfl); (case e15 => rfl); (case d15 => exact fun _ _ _ h => h); simp only [Act.put, rhA, rhS, rhT]
        refine hSkip (i := 11) (oi := ?a16) (d := ?g16) ?b16 ?c16 (by kernel_rfl) ?d16 ?e16 (by assumption) ?_; (case b16 => simp only [rhN, rhM]; try rfl); (case c16 => (try dsimp only); rfl); (case e16 => rfl); (case d16 => exact fun _ _ _ h => h); simp only [Act.put, rhA, rhS, rhT]
        refine hSkip (i := 12) (oi := ?a17) (d := ?g17) ?b17 ?c17 (by kernel_rfl) ?d17 ?e17 (by assumption) ?_; (case b17 => simp only [rhN, rhM]; try rfl); (case c17 => (try dsimp only); rfl); (case e17 => rfl); (case d17 => exact fun _ _ _ h => h); simp only [Act.put, rhA, rhS, rhT]
        refine hSkip (i := 13) (oi := ?a18) (d := ?g18) ?b18 ?c18 (by kernel_rfl) ?d18 ?e18 (by assumption) ?_; (case b18 => simp only [rhN, rhM]; try rfl); (case c18 => (try dsimp only); rfl); (case e18 => rfl); (case d18 => exact fun _ _ _ h => h); simp only [Act.put, rhA, rhS, rhT]
        refine hSkip (i := 14) (oi := ?a19) (d := ?g19) ?b19 ?c19 (by kernel_rfl) ?d19 ?e19 (by assumption) ?_; (case b19 => simp only [rhN, rhM]; try rfl); (case c19 => (try dsimp only); rfl); (case e19 => rfl); (case d19 => exact fun _ _ _ h => h); simp only [Act.put, rhA, rhS, rhT]
        refine hSkip (i := 15) (oi := ?a20) (d := ?g20) ?b20 ?c20 (by kernel_rfl) ?d20 ?e20 (by assumption) ?_; (case b20 => simp only [rhN, rhM]; try rfl); (case c20 => (try dsimp only); rfl); (case e20 => rfl); (case d20 => exact fun _ _ _ h => h); simp only [Act.put, rhA, rhS, rhT]
        refine hSkip (i := 16) (oi := ?a21) (d := ?g21) ?b21 ?c21 (by kernel_rfl) ?d21 ?e21 (by assumption) ?_; (case b21 => simp only [rhN, rhM]; try rfl); (case c21 => (try dsimp only); rfl); (case e21 => rfl); (case d21 => exact fun _ _ _ h => h); simp only [Act.put, rhA, rhS, rhT]
        refine hSkip (i := 17) (oi := ?a22) (d := ?g22) ?b22 ?c22 (by kernel_rfl) ?d22 ?e22 (by assumption) ?_; (case b22 => simp only [rhN, rhM]; try rfl); (case c22 => (try dsimp only); rfl); (case e22 => rfl); (case d22 => exact fun _ _ _ h => h); simp only [Act.put, rhA, rhS, rhT]
        refine hSkip (i := 18) (oi := ?a23) (d := ?g23) ?b23 ?c23 (by kernel_rfl) ?d23 ?e23 (by assumption) ?_; (case b23 => simp only [rhN, rhM]; try rfl); (case c23 => (try dsimp only); rfl); (case e23 => rfl); (case d23 => exact fun _ _ _ h => h); simp only [Act.put, rhA, rhS, rhT]
        refine hSkip (i := 19) (oi := ?a24) (d := ?g24) ?b24 ?c24 (by kernel_rfl) ?d24 ?e24 (by assumption) ?_; (case b24 => simp only [rhN, rhM]; try rfl); (case c24 => (try dsimp only); rfl); (case e24 => rfl); (case d24 => exact fun _ _ _ h => h); simp only [Act.put, rhA, rhS, rhT]
        refine hSkip (i := 20) (oi := ?a25) (d := ?g25) ?b25 ?c25 (by kernel_rfl) ?d25 ?e25 (by assumption) ?_; (case b25 => simp only [rhN, rhM]; try rfl); (case c25 => (try dsimp only); rfl); (case e25 => rfl); (case d25 => exact fun _ _ _ h => h); simp only [Act.put, rhA, rhS, rhT]
        refine hSkip (i := 21) (oi := ?a26) (d := ?g26) ?b26 ?c26 (by kernel_rfl) ?d26 ?e26 (by assumption) ?_; (case b26 => simp only [rhN, rhM]; try rfl); (case c26 => (try dsimp only); rfl); (case e26 => rfl); (case d26 => exact fun _ _ _ h => h); simp only [Act.put, rhA, rhS, rhT]
        refine hSkip (i := 22) (oi := ?a27) (d := ?g27) ?b27 ?c27 (by kernel_rfl) ?d27 ?e27 (by assumption) ?_; (case b27 => simp only [rhN, rhM]; try rfl); (case c27 => (try dsimp only); rfl); (case e27 => rfl); (case d27 => exact fun _ _ _ h => h); simp only [Act.put, rhA, rhS, rhT]
        refine hSkip (i := 23) (oi := ?a28) (d := ?g28) ?b28 ?c28 (by kernel_rfl) ?d28 ?e28 (by assumption) ?_; (case b28 => simp only [rhN, rhM]; try rfl); (case c28 => (try dsimp only); rfl); (case e28 => rfl); (case d28 => exact fun _ _ _ h => h); simp only [Act.put, rhA, rhS, rhT]
        refine hSkip (i := 24) (oi := ?a29) (d := ?g29) ?b29 ?c29 (by kernel_rfl) ?d29 ?e29 (by assumption) ?_; (case b29 => simp only [rhN, rhM]; try rfl); (case c29 => (try dsimp only); rfl); (case e29 => rfl); (case d29 => exact fun _ _ _ h => h); simp only [Act.put, rhA, rhS, rhT]
        refine hSkip (i := 25) (oi := ?a30) (d := ?g30) ?b30 ?c30 (by kernel_rfl) ?d30 ?e30 (by assumption) ?_; (case b30 => simp only [rhN, rhM]; try rfl); (case c30 => (try dsimp only); rfl); (case e30 => rfl); (case d30 => exact fun _ _ _ h => h); simp only [Act.put, rhA, rhS, rhT]
        refine hTake (i := 26) (oi := ?a32) (v := ?f32) (d := ?g32) ?b32 ?c32 (by kernel_rfl) ?d32 ?e32 ?h32 (by assumption) ?_; (case b32 => simp only [rhN, rhM]; try rfl); (case c32 => (try dsimp only); rfl); (case e32 => rfl); (case d32 => exact fun _ _ _ h => h); (case h32 => intro w hSw; (try dsimp only at hSw); go_simp <;> with_reducible rfl); simp only [Act.put, rhA, rhS, rhT]
        refine wpAnyH_done (by kernel_rfl) ?_ _
        go_wp2_with fail
        go_ret
        refine ⟨?_, below_of hB (by repeat' (first | exact Below.refl _ _ | refine Below.alloc ?_ ?_ _ | refine Below.setCell ?_ ?_ _ | refine Below.drew ?_ | (apply below_step; assumption) | (simp; done) | (simp; omega) | omega))⟩
        obtain ⟨p, hp, _⟩ := HTS.out
        rw [HS.out, from_step hp HR.out, HO.out]; rfl
      · rw [ho] at hok
        obtain ⟨⟨i1, i2⟩, _⟩ := HI1.out ho
        have HO := Lib.hid ho
        have HOK := Lib.hid hok
        clear ho hok hat hr HI1
        obtain ⟨p, hp, hcase⟩ := HTS.out
        have HP := Lib.hid hp
        clear hp HTS
        rcases hcase with ⟨rfl, rfl⟩ | ⟨m, r0, hkm, hm0, rfl⟩
        · simp only [Nat.zero_mul, Nat.add_zero] at q0 q1 q2 HK
          go_wp2_with fail
          refine wp_region_held_drew (S := (fun w' => Below wr.heap.size wr w' ∧ (∀ o, w'.cell? ⟨w.heap.size, o, none⟩ = (#[.int .i64 ep, .slice (some ⟨b, off, none⟩) l.length c] : Array Value)[o]?) ∧ w'.cell? ⟨b, off, none⟩ = some (.int .i64 r.c) ∧ w'.cell? ⟨b, off + 1, none⟩ = some (.int .i64 r.m) ∧ w'.cell? ⟨b, off + 2, none⟩ = some (.int .i64 r.p))) (by kernel_rfl) (by (try dsimp only); exact HK.out _ (by repeat' (first | exact Below.refl _ _ | refine Below.alloc ?_ ?_ _ | refine Below.setCell ?_ ?_ _ | refine Below.drew ?_ | (apply below_step; assumption) | (simp; done) | (simp; omega) | omega))) (fun hHeld => ?_)
          refine hTake (i := 0) (oi := ?a34) (v := ?f34) (d := ?g34) ?b34 ?c34 (by kernel_rfl) ?d34 ?e34 ?h34 (by assumption) ?_; (case b34 => simp only [rhN]; try rfl); (case c34 => (try dsimp only); rfl); (case e34 => rfl); (case d34 => exact fun _ _ _ h => h); (case h34 => intro w hSw; (try dsimp only at hSw); go_simp <;> with_reducible rfl); simp only [Act.put, rhA, rhS, rhT]
          refine hTake (i := 1) (oi := ?a35) (v := ?f35) (d := ?g35) ?b35 ?c35 (by kernel_rfl) ?d35 ?e35 ?h35 (by assumption) ?_; (case b35 => simp only [rhN, rhM]; try rfl); (case c35 => (try dsimp only); rfl); (case e35 => rfl); (case d35 => exact fun _ _ _ h => h); (case h35 => intro w hSw; (try dsimp only at hSw); go_simp <;> with_reducible rfl); simp only [Act.put, rhA, rhS, rhT]
          refine hTake (i := 2) (oi := ?a36) (v := ?f36) (d := ?g36) ?b36 ?c36 (by kernel_rfl) ?d36 ?e36 ?h36 (by assumption) ?_; (case b36 => simp only [rhN, rhM]; try rfl); (case c36 => (try dsimp only); rfl); (case e36 => rfl); (case d36 => exact fun _ _ _ h => h); (case h36 => intro w hSw; (try dsimp only at hSw); go_simp <;> with_reducible rfl); simp only [Act.put, rhA, rhS, rhT]
          refine hTake (i := 3) (oi := ?a37) (v := ?f37) (d := ?g37) ?b37 ?c37 (by kernel_rfl) ?d37 ?e37 ?h37 (by assumption) ?_; (case b37 => simp only [rhN, rhM]; try rfl); (case c37 => (try dsimp only); rfl); (case e37 => rfl); (case d37 => exact fun _ _ _ h => h); (case h37 => intro w hSw; (try dsimp only at hSw); go_simp <;> with_reducible rfl); simp only [Act.put, rhA, rhS, rhT]
          refine hTake (i := 4) (oi := ?a38) (v := ?f38) (d := ?g38) ?b38 ?c38 (by kernel_rfl) ?d38 ?e38 ?h38 (by assumption) ?_; (case b38 => simp only [rhN, rhM]; try rfl); (case c38 => (try dsimp only); rfl); (case e38 => rfl); (case d38 => exact fun _ _ _ h => h); (case h38 => intro w hSw; (try dsimp only at hSw); go_simp <;> with_reducible rfl); simp only [Act.put, rhA, rhS, rhT]
          refine hCall (i := 5) (o := ?a39) ?b39 (by kernel_rfl) ?c39 (fun K hK => ?d39)
          case b39 => simp only [rhN, rhM]; try rfl
          case c39 => rfl
          go_simp
          refine (HOK.out _).mono ?_
          rintro e w3 ⟨rfl, hb_w3⟩
          have hz_w3 := hb_w3.size
          try simp at hz_w3
          go_wp2_with fail
          refine hK.out _ _ (by (try dsimp only); exact HK.out _ (by repeat' (first | exact Below.refl _ _ | refine Below.alloc ?_ ?_ _ | refine Below.setCell ?_ ?_ _ | refine Below.drew ?_ | (apply below_step; assumption) | (simp; done) | (simp; omega) | omega))) (fun hHeld => ?_)
          clear hK K
          try simp only [Act.put, rhA, rhS, rhT]
          refine hTake (i := 6) (oi := ?a41) (v := ?f41) (d := ?g41) ?b41 ?c41 (by kernel_rfl) ?d41 ?e41 ?h41 (by assumption) ?_; (case b41 => simp only [rhN, rhM]; try rfl); (case c41 => (try dsimp only); rfl); (case e41 => rfl); (case d41 => exact fun _ _ _ h => h); (case h41 => intro w hSw; (try dsimp only at hSw); go_simp <;> with_reducible rfl); simp only [Act.put, rhA, rhS, rhT]
          refine hTake (i := 7) (oi := ?a43) (v := ?f43) (d := ?g43) ?b43 ?c43 (by kernel_rfl) ?d43 ?e43 ?h43 (by assumption) ?_; (case b43 => simp only [rhN, rhM]; try rfl); (case c43 => (try dsimp only); rfl); (case e43 => rfl); (case d43 => exact fun _ _ _ h => h); (case h43 => intro w hSw; (try dsimp only at hSw); go_simp <;> with_reducible rfl); simp only [Act.put, rhA, rhS, rhT]
          refine hTake (i := 8) (oi := ?a45) (v := ?f45) (d := ?g45) ?b45 ?c45 (by kernel_rfl) ?d45 ?e45 ?h45 (by assumption) ?_; (case b45 => simp only [rhN, rhM]; try rfl); (case c45 => (try dsimp only); rfl); (case e45 => rfl); (case d45 => exact fun _ _ _ h => h); (case h45 => intro w hSw; (try dsimp only at hSw); go_simp <;> with_reducible rfl); simp only [Act.put, rhA, rhS, rhT]
          refine hTake (i := 9) (oi := ?a47) (v := ?f47) (d := ?g47) ?b47 ?c47 (by kernel_rfl) ?d47 ?e47 ?h47 (by assumption) ?_; (case b47 => simp only [rhN, rhM]; try rfl); (case c47 => (try dsimp only); rfl); (case e47 => rfl); (case d47 => exact fun _ _ _ h => h); (case h47 => intro w hSw; (try dsimp only at hSw); go_simp <;> with_reducible rfl); simp only [Act.put, rhA, rhS, rhT]
          refine hTake (i := 10) (oi := ?a49) (v := ?f49) (d := ?g49) ?b49 ?c49 (by kernel_rfl) ?d49 ?e49 ?h49 (by assumption) ?_; (case b49 => simp only [rhN, rhM]; try rfl); (case c49 => (try dsimp only); rfl); (case e49 => rfl); (case d49 => exact fun _ _ _ h => h); (case h49 => intro w hSw; (try dsimp only at hSw); go_simp <;> with_reducible rfl); simp only [Act.put, rhA, rhS, rhT]
          refine hSkip (i := 11) (oi := ?a51) (d := ?g51) ?b51 ?c51 (by kernel_rfl) ?d51 ?e51 (by assumption) ?_; (case b51 => simp only [rhN, rhM]; try rfl); (case c51 => (try dsimp only); rfl); (case e51 => rfl); (case d51 => exact fun _ _ _ h => h); simp only [Act.put, rhA, rhS, rhT]
          refine hSkip (i := 12) (oi := ?a52) (d := ?g52) ?b52 ?c52 (by kernel_rfl) ?d52 ?e52 (by assumption) ?_; (case b52 => simp only [rhN, rhM]; try rfl); (case c52 => (try dsimp only); rfl); (case e52 => rfl); (case d52 => exact fun _ _ _ h => h); simp only [Act.put, rhA, rhS, rhT]
          refine hSkip (i := 13) (oi := ?a53) (d := ?g53) ?b53 ?c53 (by kernel_rfl) ?d53 ?e53 (by assumption) ?_; (case b53 => simp only [rhN, rhM]; try rfl); (case c53 => (try dsimp only); rfl); (case e53 => rfl); (case d53 => exact fun _ _ _ h => h); simp only [Act.put, rhA, rhS, rhT]
          refine hSkip (i := 14) (oi := ?a54) (d := ?g54) ?b54 ?c54 (by kernel_rfl) ?d54 ?e54 (by assumption) ?_; (case b54 => simp only [rhN, rhM]; try rfl); (case c54 => (try dsimp only); rfl); (case e54 => rfl); (case d54 => exact fun _ _ _ h => h); simp only [Act.put, rhA, rhS, rhT]
          refine hSkip (i := 15) (oi := ?a55) (d := ?g55) ?b55 ?c55 (by kernel_rfl) ?d55 ?e55 (by assumption) ?_; (case b55 => simp only [rhN, rhM]; try rfl); (case c55 => (try dsimp only); rfl); (case e55 => rfl); (case d55 => exact fun _ _ _ h => h); simp only [Act.put, rhA, rhS, rhT]
          refine hSkip (i := 16) (oi := ?a56) (d := ?g56) ?b56 ?c56 (by kernel_rfl) ?d56 ?e56 (by assumption) ?_; (case b56 => simp only [rhN, rhM]; try rfl); (case c56 => (try dsimp only); rfl); (case e56 => rfl); (case d56 => exact fun _ _ _ h => h); simp only [Act.put, rhA, rhS, rhT]
          refine hSkip (i := 17) (oi := ?a57) (d := ?g57) ?b57 ?c57 (by kernel_rfl) ?d57 ?e57 (by assumption) ?_; (case b57 => simp only [rhN, rhM]; try rfl); (case c57 => (try dsimp only); rfl); (case e57 => rfl); (case d57 => exact fun _ _ _ h => h); simp only [Act.put, rhA, rhS, rhT]
          refine hSkip (i := 18) (oi := ?a58) (d := ?g58) ?b58 ?c58 (by kernel_rfl) ?d58 ?e58 (by assumption) ?_; (case b58 => simp only [rhN, rhM]; try rfl); (case c58 => (try dsimp only); rfl); (case e58 => rfl); (case d58 => exact fun _ _ _ h => h); simp only [Act.put, rhA, rhS, rhT]
          refine hSkip (i := 19) (oi := ?a59) (d := ?g59) ?b59 ?c59 (by kernel_rfl) ?d59 ?e59 (by assumption) ?_; (case b59 => simp only [rhN, rhM]; try rfl); (case c59 => (try dsimp only); rfl); (case e59 => rfl); (case d59 => exact fun _ _ _ h => h); simp only [Act.put, rhA, rhS, rhT]
          refine hSkip (i := 20) (oi := ?a60) (d := ?g60) ?b60 ?c60 (by kernel_rfl) ?d60 ?e60 (by assumption) ?_; (case b60 => simp only [rhN, rhM]; try rfl); (case c60 => (try dsimp only); rfl); (case e60 => rfl); (case d60 => exact fun _ _ _ h => h); simp only [Act.put, rhA, rhS, rhT]
          refine hSkip (i := 21) (oi := ?a61) (d := ?g61) ?b61 ?c61 (by kernel_rfl) ?d61 ?e61 (by assumption) ?_; (case b61 => simp only [rhN, rhM]; try rfl); (case c61 => (try dsimp only); rfl); (case e61 => rfl); (case d61 => exact fun _ _ _ h => h); simp only [Act.put, rhA, rhS, rhT]
          refine hSkip (i := 22) (oi := ?a62) (d := ?g62) ?b62 ?c62 (by kernel_rfl) ?d62 ?e62 (by assumption) ?_; (case b62 => simp only [rhN, rhM]; try rfl); (case c62 => (try dsimp only); rfl); (case e62 => rfl); (case d62 => exact fun _ _ _ h => h); simp only [Act.put, rhA, rhS, rhT]
          refine hSkip (i := 23) (oi := ?a63) (d := ?g63) ?b63 ?c63 (by kernel_rfl) ?d63 ?e63 (by assumption) ?_; (case b63 => simp only [rhN, rhM]; try rfl); (case c63 => (try dsimp only); rfl); (case e63 => rfl); (case d63 => exact fun _ _ _ h => h); simp only [Act.put, rhA, rhS, rhT]
          refine hSkip (i := 24) (oi := ?a64) (d := ?g64) ?b64 ?c64 (by kernel_rfl) ?d64 ?e64 (by assumption) ?_; (case b64 => simp only [rhN, rhM]; try rfl); (case c64 => (try dsimp only); rfl); (case e64 => rfl); (case d64 => exact fun _ _ _ h => h); simp only [Act.put, rhA, rhS, rhT]
          refine hTake (i := 25) (oi := ?a66) (v := ?f66) (d := ?g66) ?b66 ?c66 (by kernel_rfl) ?d66 ?e66 ?h66 (by assumption) ?_; (case b66 => simp only [rhN, rhM]; try rfl); (case c66 => (try dsimp only); rfl); (case e66 => rfl); (case d66 => exact fun _ _ _ h => h); (case h66 => intro w hSw; (try dsimp only at hSw); go_simp <;> with_reducible rfl); simp only [Act.put, rhA, rhS, rhT]
          refine hTake (i := 26) (oi := ?a68) (v := ?f68) (d := ?g68) ?b68 ?c68 (by kernel_rfl) ?d68 ?e68 ?h68 (by assumption) ?_; (case b68 => simp only [rhN, rhM]; try rfl); (case c68 => (try dsimp only); rfl); (case e68 => rfl); (case d68 => exact fun _ _ _ h => h); (case h68 => intro w hSw; (try dsimp only at hSw); go_simp <;> with_reducible rfl); simp only [Act.put, rhA, rhS, rhT]
          refine wpAnyH_done (by kernel_rfl) ?_ _
          go_wp2_with fail
          go_roundw
          case rel =>
            have hD4 : Below wr.heap.size wr w3 := (by repeat' (first | exact Below.refl _ _ | refine Below.alloc ?_ ?_ _ | refine Below.setCell ?_ ?_ _ | refine Below.drew ?_ | (apply below_step; assumption) | (simp; done) | (simp; omega) | omega))
            refine ⟨1, by omega, by go_num, ⟨r.c, ?_, .inr ⟨0, r, rfl, HR.out, rfl⟩⟩, HBK.out.below hD4 gl, below_of hB hD4⟩
            rw [from_step HP.out HR.out, HO.out, show decide (0 < r.c) = true by simp; omega]; rfl
          case measure => simp [RowKit.intOf]; omega
        · have p0 := ((HAT.out.below hB hbw) m r0 hm0).1
          have hgt : 0 < k := by omega
          have hgti : (0 : Int) < (k : Int) := by omega
          have hwr : IntKind.i64.wrap ((k : Int) - 1) = (m : Int) := by rw [IntWalk.i64_in _ (by omega)]; omega
          have hmi : (m : Int) < (l.length : Int) := by omega
          have hm0' : (0 : Int) ≤ (m : Int) := by omega
          have HKM := Lib.hid hkm
          have HM0 := Lib.hid hm0
          have HK := Lib.hid (show ∀ w', Below wr.heap.size wr w' → Below wr.heap.size wr w' ∧ (∀ o, w'.cell? ⟨w.heap.size, o, none⟩ = (#[.int .i64 ep, .slice (some ⟨b, off, none⟩) l.length c] : Array Value)[o]?) ∧ w'.cell? ⟨b, off + k * 3, none⟩ = some (.int .i64 r.c) ∧ w'.cell? ⟨b, off + k * 3 + 1, none⟩ = some (.int .i64 r.m) ∧ w'.cell? ⟨b, off + k * 3 + 2, none⟩ = some (.int .i64 r.p) ∧ w'.cell? ⟨b, off + m * 3, none⟩ = some (.int .i64 r0.c) from fun w' hb => ⟨hb, fun o => (hb.cell (p := ⟨_, _, none⟩) gl).trans (gc o), (hb.cell (p := ⟨_, _, none⟩) hbr).trans q0, (hb.cell (p := ⟨_, _, none⟩) hbr).trans q1, (hb.cell (p := ⟨_, _, none⟩) hbr).trans q2, (hb.cell (p := ⟨_, _, none⟩) hbr).trans p0⟩)
          clear hkm hm0
          cases hge : decide (r.c ≤ r0.c)
          · have HGE := Lib.hid (show r0.c < r.c by simpa using hge)
            go_wp2_with fail
            refine wp_region_held_drew (S := (fun w' => Below wr.heap.size wr w' ∧ (∀ o, w'.cell? ⟨w.heap.size, o, none⟩ = (#[.int .i64 ep, .slice (some ⟨b, off, none⟩) l.length c] : Array Value)[o]?) ∧ w'.cell? ⟨b, off + k * 3, none⟩ = some (.int .i64 r.c) ∧ w'.cell? ⟨b, off + k * 3 + 1, none⟩ = some (.int .i64 r.m) ∧ w'.cell? ⟨b, off + k * 3 + 2, none⟩ = some (.int .i64 r.p) ∧ w'.cell? ⟨b, off + m * 3, none⟩ = some (.int .i64 r0.c))) (by kernel_rfl) (by (try dsimp only); exact HK.out _ (by repeat' (first | exact Below.refl _ _ | refine Below.alloc ?_ ?_ _ | refine Below.setCell ?_ ?_ _ | refine Below.drew ?_ | (apply below_step; assumption) | (simp; done) | (simp; omega) | omega))) (fun hHeld => ?_)
            refine hTake (i := 0) (oi := ?a70) (v := ?f70) (d := ?g70) ?b70 ?c70 (by kernel_rfl) ?d70 ?e70 ?h70 (by assumption) ?_; (case b70 => simp only [rhN]; try rfl); (case c70 => (try dsimp only); rfl); (case e70 => rfl); (case d70 => exact fun _ _ _ h => h); (case h70 => intro w hSw; (try dsimp only at hSw); go_simp <;> with_reducible rfl); simp only [Act.put, rhA, rhS, rhT]
            refine hTake (i := 1) (oi := ?a71) (v := ?f71) (d := ?g71) ?b71 ?c71 (by kernel_rfl) ?d71 ?e71 ?h71 (by assumption) ?_; (case b71 => simp only [rhN, rhM]; try rfl); (case c71 => (try dsimp only); rfl); (case e71 => rfl); (case d71 => exact fun _ _ _ h => h); (case h71 => intro w hSw; (try dsimp only at hSw); go_simp <;> with_reducible rfl); simp only [Act.put, rhA, rhS, rhT]
            refine hTake (i := 2) (oi := ?a72) (v := ?f72) (d := ?g72) ?b72 ?c72 (by kernel_rfl) ?d72 ?e72 ?h72 (by assumption) ?_; (case b72 => simp only [rhN, rhM]; try rfl); (case c72 => (try dsimp only); rfl); (case e72 => rfl); (case d72 => exact fun _ _ _ h => h); (case h72 => intro w hSw; (try dsimp only at hSw); go_simp <;> with_reducible rfl); simp only [Act.put, rhA, rhS, rhT]
            refine hTake (i := 3) (oi := ?a73) (v := ?f73) (d := ?g73) ?b73 ?c73 (by kernel_rfl) ?d73 ?e73 ?h73 (by assumption) ?_; (case b73 => simp only [rhN, rhM]; try rfl); (case c73 => (try dsimp only); rfl); (case e73 => rfl); (case d73 => exact fun _ _ _ h => h); (case h73 => intro w hSw; (try dsimp only at hSw); go_simp <;> with_reducible rfl); simp only [Act.put, rhA, rhS, rhT]
            refine hTake (i := 4) (oi := ?a74) (v := ?f74) (d := ?g74) ?b74 ?c74 (by kernel_rfl) ?d74 ?e74 ?h74 (by assumption) ?_; (case b74 => simp only [rhN, rhM]; try rfl); (case c74 => (try dsimp only); rfl); (case e74 => rfl); (case d74 => exact fun _ _ _ h => h); (case h74 => intro w hSw; (try dsimp only at hSw); go_simp <;> with_reducible rfl); simp only [Act.put, rhA, rhS, rhT]
            refine hCall (i := 5) (o := ?a75) ?b75 (by kernel_rfl) ?c75 (fun K hK => ?d75)
            case b75 => simp only [rhN, rhM]; try rfl
            case c75 => rfl
            go_simp
            refine (HOK.out _).mono ?_
            rintro e w3 ⟨rfl, hb_w3⟩
            have hz_w3 := hb_w3.size
            try simp at hz_w3
            go_wp2_with fail
            refine hK.out _ _ (by (try dsimp only); exact HK.out _ (by repeat' (first | exact Below.refl _ _ | refine Below.alloc ?_ ?_ _ | refine Below.setCell ?_ ?_ _ | refine Below.drew ?_ | (apply below_step; assumption) | (simp; done) | (simp; omega) | omega))) (fun hHeld => ?_)
            clear hK K
            try simp only [Act.put, rhA, rhS, rhT]
            refine hTake (i := 6) (oi := ?a77) (v := ?f77) (d := ?g77) ?b77 ?c77 (by kernel_rfl) ?d77 ?e77 ?h77 (by assumption) ?_; (case b77 => simp only [rhN, rhM]; try rfl); (case c77 => (try dsimp only); rfl); (case e77 => rfl); (case d77 => exact fun _ _ _ h => h); (case h77 => intro w hSw; (try dsimp only at hSw); go_simp <;> with_reducible rfl); simp only [Act.put, rhA, rhS, rhT]
            refine hTake (i := 7) (oi := ?a79) (v := ?f79) (d := ?g79) ?b79 ?c79 (by kernel_rfl) ?d79 ?e79 ?h79 (by assumption) ?_; (case b79 => simp only [rhN, rhM]; try rfl); (case c79 => (try dsimp only); rfl); (case e79 => rfl); (case d79 => exact fun _ _ _ h => h); (case h79 => intro w hSw; (try dsimp only at hSw); go_simp <;> with_reducible rfl); simp only [Act.put, rhA, rhS, rhT]
            refine hTake (i := 8) (oi := ?a81) (v := ?f81) (d := ?g81) ?b81 ?c81 (by kernel_rfl) ?d81 ?e81 ?h81 (by assumption) ?_; (case b81 => simp only [rhN, rhM]; try rfl); (case c81 => (try dsimp only); rfl); (case e81 => rfl); (case d81 => exact fun _ _ _ h => h); (case h81 => intro w hSw; (try dsimp only at hSw); go_simp <;> with_reducible rfl); simp only [Act.put, rhA, rhS, rhT]
            refine hTake (i := 9) (oi := ?a82) (v := ?f82) (d := ?g82) ?b82 ?c82 (by kernel_rfl) ?d82 ?e82 ?h82 (by assumption) ?_; (case b82 => simp only [rhN, rhM]; try rfl); (case c82 => (try dsimp only); rfl); (case e82 => rfl); (case d82 => exact fun _ _ _ h => h); (case h82 => intro w hSw; (try dsimp only at hSw); go_simp <;> with_reducible rfl); simp only [Act.put, rhA, rhS, rhT]
            refine hTake (i := 10) (oi := ?a83) (v := ?f83) (d := ?g83) ?b83 ?c83 (by kernel_rfl) ?d83 ?e83 ?h83 (by assumption) ?_; (case b83 => simp only [rhN, rhM]; try rfl); (case c83 => (try dsimp only); rfl); (case e83 => rfl); (case d83 => exact fun _ _ _ h => h); (case h83 => intro w hSw; (try dsimp only at hSw); go_simp <;> with_reducible rfl); simp only [Act.put, rhA, rhS, rhT]
            refine hTake (i := 11) (oi := ?a84) (v := ?f84) (d := ?g84) ?b84 ?c84 (by kernel_rfl) ?d84 ?e84 ?h84 (by assumption) ?_; (case b84 => simp only [rhN, rhM]; try rfl); (case c84 => (try dsimp only); rfl); (case e84 => rfl); (case d84 => exact fun _ _ _ h => h); (case h84 => intro w hSw; (try dsimp only at hSw); go_simp <;> with_reducible rfl); simp only [Act.put, rhA, rhS, rhT]
            refine hTake (i := 12) (oi := ?a85) (v := ?f85) (d := ?g85) ?b85 ?c85 (by kernel_rfl) ?d85 ?e85 ?h85 (by assumption) ?_; (case b85 => simp only [rhN, rhM]; try rfl); (case c85 => (try dsimp only); rfl); (case e85 => rfl); (case d85 => exact fun _ _ _ h => h); (case h85 => intro w hSw; (try dsimp only at hSw); go_simp <;> with_reducible rfl); simp only [Act.put, rhA, rhS, rhT]
            refine hTake (i := 13) (oi := ?a86) (v := ?f86) (d := ?g86) ?b86 ?c86 (by kernel_rfl) ?d86 ?e86 ?h86 (by assumption) ?_; (case b86 => simp only [rhN, rhM]; try rfl); (case c86 => (try dsimp only); rfl); (case e86 => rfl); (case d86 => exact fun _ _ _ h => h); (case h86 => intro w hSw; (try dsimp only at hSw); go_simp <;> with_reducible rfl); simp only [Act.put, rhA, rhS, rhT]
            refine hTake (i := 14) (oi := ?a87) (v := ?f87) (d := ?g87) ?b87 ?c87 (by kernel_rfl) ?d87 ?e87 ?h87 (by assumption) ?_; (case b87 => simp only [rhN, rhM]; try rfl); (case c87 => (try dsimp only); rfl); (case e87 => rfl); (case d87 => exact fun _ _ _ h => h); (case h87 => intro w hSw; (try dsimp only at hSw); go_simp <;> with_reducible rfl); simp only [Act.put, rhA, rhS, rhT]
            refine hTake (i := 15) (oi := ?a88) (v := ?f88) (d := ?g88) ?b88 ?c88 (by kernel_rfl) ?d88 ?e88 ?h88 (by assumption) ?_; (case b88 => simp only [rhN, rhM]; try rfl); (case c88 => (try dsimp only); rfl); (case e88 => rfl); (case d88 => exact fun _ _ _ h => h); (case h88 => intro w hSw; (try dsimp only at hSw); go_simp <;> with_reducible rfl); simp only [Act.put, rhA, rhS, rhT]
            refine hTake (i := 16) (oi := ?a89) (v := ?f89) (d := ?g89) ?b89 ?c89 (by kernel_rfl) ?d89 ?e89 ?h89 (by assumption) ?_; (case b89 => simp only [rhN, rhM]; try rfl); (case c89 => (try dsimp only); rfl); (case e89 => rfl); (case d89 => exact fun _ _ _ h => h); (case h89 => intro w hSw; (try dsimp only at hSw); go_simp <;> with_reducible rfl); simp only [Act.put, rhA, rhS, rhT]
            refine hTake (i := 17) (oi := ?a90) (v := ?f90) (d := ?g90) ?b90 ?c90 (by kernel_rfl) ?d90 ?e90 ?h90 (by assumption) ?_; (case b90 => simp only [rhN, rhM]; try rfl); (case c90 => (try dsimp only); rfl); (case e90 => rfl); (case d90 => exact fun _ _ _ h => h); (case h90 => intro w hSw; (try dsimp only at hSw); go_simp <;> with_reducible rfl); simp only [Act.put, rhA, rhS, rhT]
            refine hTake (i := 18) (oi := ?a91) (v := ?f91) (d := ?g91) ?b91 ?c91 (by kernel_rfl) ?d91 ?e91 ?h91 (by assumption) ?_; (case b91 => simp only [rhN, rhM]; try rfl); (case c91 => (try dsimp only); rfl); (case e91 => rfl); (case d91 => exact fun _ _ _ h => h); (case h91 => intro w hSw; (try dsimp only at hSw); go_simp <;> with_reducible rfl); simp only [Act.put, rhA, rhS, rhT]
            refine hTake (i := 19) (oi := ?a92) (v := ?f92) (d := ?g92) ?b92 ?c92 (by kernel_rfl) ?d92 ?e92 ?h92 (by assumption) ?_; (case b92 => simp only [rhN, rhM]; try rfl); (case c92 => (try dsimp only); rfl); (case e92 => rfl); (case d92 => exact fun _ _ _ h => h); (case h92 => intro w hSw; (try dsimp only at hSw); go_simp <;> with_reducible rfl); simp only [Act.put, rhA, rhS, rhT]
            refine hTake (i := 20) (oi := ?a93) (v := ?f93) (d := ?g93) ?b93 ?c93 (by kernel_rfl) ?d93 ?e93 ?h93 (by assumption) ?_; (case b93 => simp only [rhN, rhM]; try rfl); (case c93 => (try dsimp only); rfl); (case e93 => rfl); (case d93 => exact fun _ _ _ h => h); (case h93 => intro w hSw; (try dsimp only at hSw); go_simp <;> with_reducible rfl); simp only [Act.put, rhA, rhS, rhT]
            refine hTake (i := 21) (oi := ?a94) (v := ?f94) (d := ?g94) ?b94 ?c94 (by kernel_rfl) ?d94 ?e94 ?h94 (by assumption) ?_; (case b94 => simp only [rhN, rhM]; try rfl); (case c94 => (try dsimp only); rfl); (case e94 => rfl); (case d94 => exact fun _ _ _ h => h); (case h94 => intro w hSw; (try dsimp only at hSw); go_simp <;> with_reducible rfl); simp only [Act.put, rhA, rhS, rhT]
            refine hTake (i := 22) (oi := ?a95) (v := ?f95) (d := ?g95) ?b95 ?c95 (by kernel_rfl) ?d95 ?e95 ?h95 (by assumption) ?_; (case b95 => simp only [rhN, rhM]; try rfl); (case c95 => (try dsimp only); rfl); (case e95 => rfl); (case d95 => exact fun _ _ _ h => h); (case h95 => intro w hSw; (try dsimp only at hSw); go_simp <;> with_reducible rfl); simp only [Act.put, rhA, rhS, rhT]
            refine hTake (i := 23) (oi := ?a96) (v := ?f96) (d := ?g96) ?b96 ?c96 (by kernel_rfl) ?d96 ?e96 ?h96 (by assumption) ?_; (case b96 => simp only [rhN, rhM]; try rfl); (case c96 => (try dsimp only); rfl); (case e96 => rfl); (case d96 => exact fun _ _ _ h => h); (case h96 => intro w hSw; (try dsimp only at hSw); go_simp <;> with_reducible rfl); simp only [Act.put, rhA, rhS, rhT]
            refine hTake (i := 24) (oi := ?a97) (v := ?f97) (d := ?g97) ?b97 ?c97 (by kernel_rfl) ?d97 ?e97 ?h97 (by assumption) ?_; (case b97 => simp only [rhN, rhM]; try rfl); (case c97 => (try dsimp only); rfl); (case e97 => rfl); (case d97 => exact fun _ _ _ h => h); (case h97 => intro w hSw; (try dsimp only at hSw); go_simp <;> with_reducible rfl); simp only [Act.put, rhA, rhS, rhT]
            refine hTake (i := 25) (oi := ?a98) (v := ?f98) (d := ?g98) ?b98 ?c98 (by kernel_rfl) ?d98 ?e98 ?h98 (by assumption) ?_; (case b98 => simp only [rhN, rhM]; try rfl); (case c98 => (try dsimp only); rfl); (case e98 => rfl); (case d98 => exact fun _ _ _ h => h); (case h98 => intro w hSw; (try dsimp only at hSw); go_simp <;> with_reducible rfl); simp only [Act.put, rhA, rhS, rhT]
            refine hTake (i := 26) (oi := ?a99) (v := ?f99) (d := ?g99) ?b99 ?c99 (by kernel_rfl) ?d99 ?e99 ?h99 (by assumption) ?_; (case b99 => simp only [rhN, rhM]; try rfl); (case c99 => (try dsimp only); rfl); (case e99 => rfl); (case d99 => exact fun _ _ _ h => h); (case h99 => intro w hSw; (try dsimp only at hSw); go_simp <;> with_reducible rfl); simp only [Act.put, rhA, rhS, rhT]
            refine wpAnyH_done (by kernel_rfl) ?_ _
            clear hwr hge
            go_wp2_with fail
            go_roundw
            case rel =>
              have hD4 : Below wr.heap.size wr w3 := (by repeat' (first | exact Below.refl _ _ | refine Below.alloc ?_ ?_ _ | refine Below.setCell ?_ ?_ _ | refine Below.drew ?_ | (apply below_step; assumption) | (simp; done) | (simp; omega) | omega))
              refine ⟨k + 1, by omega, by go_num, ⟨r.c, ?_, .inr ⟨k, r, rfl, HR.out, rfl⟩⟩, HBK.out.below hD4 gl, below_of hB hD4⟩
              rw [from_step HP.out HR.out, HO.out, decide_eq_true HGE.out]; rfl
            case measure => simp [RowKit.intOf]; omega
          · have HGE := Lib.hid (show r.c ≤ r0.c by simpa using hge)
            go_wp2_with fail
            refine wp_region_held_drew (S := (fun w' => Below wr.heap.size wr w' ∧ (∀ o, w'.cell? ⟨w.heap.size, o, none⟩ = (#[.int .i64 ep, .slice (some ⟨b, off, none⟩) l.length c] : Array Value)[o]?) ∧ w'.cell? ⟨b, off + k * 3, none⟩ = some (.int .i64 r.c) ∧ w'.cell? ⟨b, off + k * 3 + 1, none⟩ = some (.int .i64 r.m) ∧ w'.cell? ⟨b, off + k * 3 + 2, none⟩ = some (.int .i64 r.p) ∧ w'.cell? ⟨b, off + m * 3, none⟩ = some (.int .i64 r0.c))) (by kernel_rfl) (by (try dsimp only); exact HK.out _ (by repeat' (first | exact Below.refl _ _ | refine Below.alloc ?_ ?_ _ | refine Below.setCell ?_ ?_ _ | refine Below.drew ?_ | (apply below_step; assumption) | (simp; done) | (simp; omega) | omega))) (fun hHeld => ?_)
            refine hTake (i := 0) (oi := ?a101) (v := ?f101) (d := ?g101) ?b101 ?c101 (by kernel_rfl) ?d101 ?e101 ?h101 (by assumption) ?_; (case b101 => simp only [rhN]; try rfl); (case c101 => (try dsimp only); rfl); (case e101 => rfl); (case d101 => exact fun _ _ _ h => h); (case h101 => intro w hSw; (try dsimp only at hSw); go_simp <;> with_reducible rfl); simp only [Act.put, rhA, rhS, rhT]
            refine hTake (i := 1) (oi := ?a102) (v := ?f102) (d := ?g102) ?b102 ?c102 (by kernel_rfl) ?d102 ?e102 ?h102 (by assumption) ?_; (case b102 => simp only [rhN, rhM]; try rfl); (case c102 => (try dsimp only); rfl); (case e102 => rfl); (case d102 => exact fun _ _ _ h => h); (case h102 => intro w hSw; (try dsimp only at hSw); go_simp <;> with_reducible rfl); simp only [Act.put, rhA, rhS, rhT]
            refine hTake (i := 2) (oi := ?a103) (v := ?f103) (d := ?g103) ?b103 ?c103 (by kernel_rfl) ?d103 ?e103 ?h103 (by assumption) ?_; (case b103 => simp only [rhN, rhM]; try rfl); (case c103 => (try dsimp only); rfl); (case e103 => rfl); (case d103 => exact fun _ _ _ h => h); (case h103 => intro w hSw; (try dsimp only at hSw); go_simp <;> with_reducible rfl); simp only [Act.put, rhA, rhS, rhT]
            refine hTake (i := 3) (oi := ?a104) (v := ?f104) (d := ?g104) ?b104 ?c104 (by kernel_rfl) ?d104 ?e104 ?h104 (by assumption) ?_; (case b104 => simp only [rhN, rhM]; try rfl); (case c104 => (try dsimp only); rfl); (case e104 => rfl); (case d104 => exact fun _ _ _ h => h); (case h104 => intro w hSw; (try dsimp only at hSw); go_simp <;> with_reducible rfl); simp only [Act.put, rhA, rhS, rhT]
            refine hTake (i := 4) (oi := ?a105) (v := ?f105) (d := ?g105) ?b105 ?c105 (by kernel_rfl) ?d105 ?e105 ?h105 (by assumption) ?_; (case b105 => simp only [rhN, rhM]; try rfl); (case c105 => (try dsimp only); rfl); (case e105 => rfl); (case d105 => exact fun _ _ _ h => h); (case h105 => intro w hSw; (try dsimp only at hSw); go_simp <;> with_reducible rfl); simp only [Act.put, rhA, rhS, rhT]
            refine hCall (i := 5) (o := ?a106) ?b106 (by kernel_rfl) ?c106 (fun K hK => ?d106)
            case b106 => simp only [rhN, rhM]; try rfl
            case c106 => rfl
            go_simp
            refine (HOK.out _).mono ?_
            rintro e w3 ⟨rfl, hb_w3⟩
            have hz_w3 := hb_w3.size
            try simp at hz_w3
            go_wp2_with fail
            refine hK.out _ _ (by (try dsimp only); exact HK.out _ (by repeat' (first | exact Below.refl _ _ | refine Below.alloc ?_ ?_ _ | refine Below.setCell ?_ ?_ _ | refine Below.drew ?_ | (apply below_step; assumption) | (simp; done) | (simp; omega) | omega))) (fun hHeld => ?_)
            clear hK K
            try simp only [Act.put, rhA, rhS, rhT]
            refine hTake (i := 6) (oi := ?a108) (v := ?f108) (d := ?g108) ?b108 ?c108 (by kernel_rfl) ?d108 ?e108 ?h108 (by assumption) ?_; (case b108 => simp only [rhN, rhM]; try rfl); (case c108 => (try dsimp only); rfl); (case e108 => rfl); (case d108 => exact fun _ _ _ h => h); (case h108 => intro w hSw; (try dsimp only at hSw); go_simp <;> with_reducible rfl); simp only [Act.put, rhA, rhS, rhT]
            refine hTake (i := 7) (oi := ?a110) (v := ?f110) (d := ?g110) ?b110 ?c110 (by kernel_rfl) ?d110 ?e110 ?h110 (by assumption) ?_; (case b110 => simp only [rhN, rhM]; try rfl); (case c110 => (try dsimp only); rfl); (case e110 => rfl); (case d110 => exact fun _ _ _ h => h); (case h110 => intro w hSw; (try dsimp only at hSw); go_simp <;> with_reducible rfl); simp only [Act.put, rhA, rhS, rhT]
            refine hTake (i := 8) (oi := ?a112) (v := ?f112) (d := ?g112) ?b112 ?c112 (by kernel_rfl) ?d112 ?e112 ?h112 (by assumption) ?_; (case b112 => simp only [rhN, rhM]; try rfl); (case c112 => (try dsimp only); rfl); (case e112 => rfl); (case d112 => exact fun _ _ _ h => h); (case h112 => intro w hSw; (try dsimp only at hSw); go_simp <;> with_reducible rfl); simp only [Act.put, rhA, rhS, rhT]
            refine hTake (i := 9) (oi := ?a113) (v := ?f113) (d := ?g113) ?b113 ?c113 (by kernel_rfl) ?d113 ?e113 ?h113 (by assumption) ?_; (case b113 => simp only [rhN, rhM]; try rfl); (case c113 => (try dsimp only); rfl); (case e113 => rfl); (case d113 => exact fun _ _ _ h => h); (case h113 => intro w hSw; (try dsimp only at hSw); go_simp <;> with_reducible rfl); simp only [Act.put, rhA, rhS, rhT]
            refine hTake (i := 10) (oi := ?a114) (v := ?f114) (d := ?g114) ?b114 ?c114 (by kernel_rfl) ?d114 ?e114 ?h114 (by assumption) ?_; (case b114 => simp only [rhN, rhM]; try rfl); (case c114 => (try dsimp only); rfl); (case e114 => rfl); (case d114 => exact fun _ _ _ h => h); (case h114 => intro w hSw; (try dsimp only at hSw); go_simp <;> with_reducible rfl); simp only [Act.put, rhA, rhS, rhT]
            refine hTake (i := 11) (oi := ?a115) (v := ?f115) (d := ?g115) ?b115 ?c115 (by kernel_rfl) ?d115 ?e115 ?h115 (by assumption) ?_; (case b115 => simp only [rhN, rhM]; try rfl); (case c115 => (try dsimp only); rfl); (case e115 => rfl); (case d115 => exact fun _ _ _ h => h); (case h115 => intro w hSw; (try dsimp only at hSw); go_simp <;> with_reducible rfl); simp only [Act.put, rhA, rhS, rhT]
            refine hTake (i := 12) (oi := ?a116) (v := ?f116) (d := ?g116) ?b116 ?c116 (by kernel_rfl) ?d116 ?e116 ?h116 (by assumption) ?_; (case b116 => simp only [rhN, rhM]; try rfl); (case c116 => (try dsimp only); rfl); (case e116 => rfl); (case d116 => exact fun _ _ _ h => h); (case h116 => intro w hSw; (try dsimp only at hSw); go_simp <;> with_reducible rfl); simp only [Act.put, rhA, rhS, rhT]
            refine hTake (i := 13) (oi := ?a117) (v := ?f117) (d := ?g117) ?b117 ?c117 (by kernel_rfl) ?d117 ?e117 ?h117 (by assumption) ?_; (case b117 => simp only [rhN, rhM]; try rfl); (case c117 => (try dsimp only); rfl); (case e117 => rfl); (case d117 => exact fun _ _ _ h => h); (case h117 => intro w hSw; (try dsimp only at hSw); go_simp <;> with_reducible rfl); simp only [Act.put, rhA, rhS, rhT]
            refine hTake (i := 14) (oi := ?a118) (v := ?f118) (d := ?g118) ?b118 ?c118 (by kernel_rfl) ?d118 ?e118 ?h118 (by assumption) ?_; (case b118 => simp only [rhN, rhM]; try rfl); (case c118 => (try dsimp only); rfl); (case e118 => rfl); (case d118 => exact fun _ _ _ h => h); (case h118 => intro w hSw; (try dsimp only at hSw); go_simp <;> with_reducible rfl); simp only [Act.put, rhA, rhS, rhT]
            refine hTake (i := 15) (oi := ?a119) (v := ?f119) (d := ?g119) ?b119 ?c119 (by kernel_rfl) ?d119 ?e119 ?h119 (by assumption) ?_; (case b119 => simp only [rhN, rhM]; try rfl); (case c119 => (try dsimp only); rfl); (case e119 => rfl); (case d119 => exact fun _ _ _ h => h); (case h119 => intro w hSw; (try dsimp only at hSw); go_simp <;> with_reducible rfl); simp only [Act.put, rhA, rhS, rhT]
            refine hTake (i := 16) (oi := ?a120) (v := ?f120) (d := ?g120) ?b120 ?c120 (by kernel_rfl) ?d120 ?e120 ?h120 (by assumption) ?_; (case b120 => simp only [rhN, rhM]; try rfl); (case c120 => (try dsimp only); rfl); (case e120 => rfl); (case d120 => exact fun _ _ _ h => h); (case h120 => intro w hSw; (try dsimp only at hSw); go_simp <;> with_reducible rfl); simp only [Act.put, rhA, rhS, rhT]
            refine hTake (i := 17) (oi := ?a121) (v := ?f121) (d := ?g121) ?b121 ?c121 (by kernel_rfl) ?d121 ?e121 ?h121 (by assumption) ?_; (case b121 => simp only [rhN, rhM]; try rfl); (case c121 => (try dsimp only); rfl); (case e121 => rfl); (case d121 => exact fun _ _ _ h => h); (case h121 => intro w hSw; (try dsimp only at hSw); go_simp <;> with_reducible rfl); simp only [Act.put, rhA, rhS, rhT]
            refine hTake (i := 18) (oi := ?a122) (v := ?f122) (d := ?g122) ?b122 ?c122 (by kernel_rfl) ?d122 ?e122 ?h122 (by assumption) ?_; (case b122 => simp only [rhN, rhM]; try rfl); (case c122 => (try dsimp only); rfl); (case e122 => rfl); (case d122 => exact fun _ _ _ h => h); (case h122 => intro w hSw; (try dsimp only at hSw); go_simp <;> with_reducible rfl); simp only [Act.put, rhA, rhS, rhT]
            refine hTake (i := 19) (oi := ?a123) (v := ?f123) (d := ?g123) ?b123 ?c123 (by kernel_rfl) ?d123 ?e123 ?h123 (by assumption) ?_; (case b123 => simp only [rhN, rhM]; try rfl); (case c123 => (try dsimp only); rfl); (case e123 => rfl); (case d123 => exact fun _ _ _ h => h); (case h123 => intro w hSw; (try dsimp only at hSw); go_simp <;> with_reducible rfl); simp only [Act.put, rhA, rhS, rhT]
            refine hTake (i := 20) (oi := ?a124) (v := ?f124) (d := ?g124) ?b124 ?c124 (by kernel_rfl) ?d124 ?e124 ?h124 (by assumption) ?_; (case b124 => simp only [rhN, rhM]; try rfl); (case c124 => (try dsimp only); rfl); (case e124 => rfl); (case d124 => exact fun _ _ _ h => h); (case h124 => intro w hSw; (try dsimp only at hSw); go_simp <;> with_reducible rfl); simp only [Act.put, rhA, rhS, rhT]
            refine hTake (i := 21) (oi := ?a125) (v := ?f125) (d := ?g125) ?b125 ?c125 (by kernel_rfl) ?d125 ?e125 ?h125 (by assumption) ?_; (case b125 => simp only [rhN, rhM]; try rfl); (case c125 => (try dsimp only); rfl); (case e125 => rfl); (case d125 => exact fun _ _ _ h => h); (case h125 => intro w hSw; (try dsimp only at hSw); go_simp <;> with_reducible rfl); simp only [Act.put, rhA, rhS, rhT]
            refine hTake (i := 22) (oi := ?a126) (v := ?f126) (d := ?g126) ?b126 ?c126 (by kernel_rfl) ?d126 ?e126 ?h126 (by assumption) ?_; (case b126 => simp only [rhN, rhM]; try rfl); (case c126 => (try dsimp only); rfl); (case e126 => rfl); (case d126 => exact fun _ _ _ h => h); (case h126 => intro w hSw; (try dsimp only at hSw); go_simp <;> with_reducible rfl); simp only [Act.put, rhA, rhS, rhT]
            refine hTake (i := 23) (oi := ?a127) (v := ?f127) (d := ?g127) ?b127 ?c127 (by kernel_rfl) ?d127 ?e127 ?h127 (by assumption) ?_; (case b127 => simp only [rhN, rhM]; try rfl); (case c127 => (try dsimp only); rfl); (case e127 => rfl); (case d127 => exact fun _ _ _ h => h); (case h127 => intro w hSw; (try dsimp only at hSw); go_simp <;> with_reducible rfl); simp only [Act.put, rhA, rhS, rhT]
            refine hTake (i := 24) (oi := ?a128) (v := ?f128) (d := ?g128) ?b128 ?c128 (by kernel_rfl) ?d128 ?e128 ?h128 (by assumption) ?_; (case b128 => simp only [rhN, rhM]; try rfl); (case c128 => (try dsimp only); rfl); (case e128 => rfl); (case d128 => exact fun _ _ _ h => h); (case h128 => intro w hSw; (try dsimp only at hSw); go_simp <;> with_reducible rfl); simp only [Act.put, rhA, rhS, rhT]
            refine hTake (i := 25) (oi := ?a129) (v := ?f129) (d := ?g129) ?b129 ?c129 (by kernel_rfl) ?d129 ?e129 ?h129 (by assumption) ?_; (case b129 => simp only [rhN, rhM]; try rfl); (case c129 => (try dsimp only); rfl); (case e129 => rfl); (case d129 => exact fun _ _ _ h => h); (case h129 => intro w hSw; (try dsimp only at hSw); go_simp <;> with_reducible rfl); simp only [Act.put, rhA, rhS, rhT]
            refine hTake (i := 26) (oi := ?a130) (v := ?f130) (d := ?g130) ?b130 ?c130 (by kernel_rfl) ?d130 ?e130 ?h130 (by assumption) ?_; (case b130 => simp only [rhN, rhM]; try rfl); (case c130 => (try dsimp only); rfl); (case e130 => rfl); (case d130 => exact fun _ _ _ h => h); (case h130 => intro w hSw; (try dsimp only at hSw); go_simp <;> with_reducible rfl); simp only [Act.put, rhA, rhS, rhT]
            refine wpAnyH_done (by kernel_rfl) ?_ _
            clear hwr hge
            go_wp2_with fail
            go_ret
            exact ⟨by rw [HS.out, from_step HP.out HR.out, HO.out, decide_eq_false (Int.not_lt.2 HGE.out)]; rfl, below_of hB (by repeat' (first | exact Below.refl _ _ | refine Below.alloc ?_ ?_ _ | refine Below.setCell ?_ ?_ _ | refine Below.drew ?_ | (apply below_step; assumption) | (simp; done) | (simp; omega) | omega))⟩
    · have HE2 := Lib.hid (show storeFrom 0 l = true by obtain ⟨p, hp, _⟩ := HTS.out; rw [hp, show k = l.length by omega, List.drop_length]; rfl)
      clear HTS
      go_wp2_with fail
      go_ret
      exact ⟨by rw [HS.out, HE2.out]; rfl, hB⟩

/-- The place of the first item with a Key, from k on; -1 if there is none. -/
def idxFrom (key : Int) : List RV → Nat → Int
  | [], _ => -1
  | x :: xs, k => if x.c = key then (k : Int) else idxFrom key xs (k + 1)
theorem idx_spec (key : Int) (l : List RV) (k0 : Nat) : (idxFrom key l k0 = -1 ∧ l.any (fun r => r.c == key) = false) ∨ ∃ (j : Nat) (r : RV), idxFrom key l k0 = ((k0 + j : Nat) : Int) ∧ l[j]? = some r ∧ itemAt l key = (r, true) := by
  induction l generalizing k0 with
  | nil => exact .inl ⟨rfl, rfl⟩
  | cons x xs ih =>
    by_cases hx : x.c = key
    · refine .inr ⟨0, x, ?_, rfl, ?_⟩
      · simp [idxFrom, hx]
      · simp [itemAt, hx]
    · have hb : (x.c == key) = false := by simpa using hx
      rcases ih (k0 + 1) with ⟨h1, h2⟩ | ⟨j, r, h1, h2, h3⟩
      · exact .inl ⟨by simp [idxFrom, hx, h1], by simp [hb]; simpa using h2⟩
      · refine .inr ⟨j + 1, r, ?_, by simpa using h2, ?_⟩
        · rw [show k0 + (j + 1) = k0 + 1 + j by omega]
          simp only [idxFrom, if_neg hx]; exact h1
        · unfold itemAt at h3 ⊢
          rw [List.find?_cons, hb]; exact h3
theorem idx_step {key : Int} {l : List RV} {k : Nat} {r : RV} (hr : l[k]? = some r) : idxFrom key (l.drop k) k = if r.c = key then (k : Int) else idxFrom key (l.drop (k + 1)) (k + 1) := by
  have hk : k < l.length := (List.getElem?_eq_some_iff.1 hr).1
  rw [List.drop_eq_getElem_cons hk, (List.getElem?_eq_some_iff.1 hr).2]; rfl
set_option maxHeartbeats 1600000 in
theorem l06At_any (ep : Int) (v : Value) (l : List RV) (key : Int) (w : World) (hv : ItSl w v l) (hlen : l.length ≤ 2000000) : Calls Try.prog 54 #[.agg #[.int .i64 ep, v], .int .i64 key] w fun e w' => e = .returned (.int .i64 (idxFrom key l 0)) ∧ Below w.heap.size w w' := by
  obtain ⟨A, c, rfl, hA⟩ := hv.form
  have HA := Lib.hid hA
  clear hA hv
  go_enter Try.func54, Try.ntmps54
  go_wp2_with fail
  go_loopw [5] (fun s5 wr => ∃ k : Nat, k ≤ l.length ∧ s5 = .int .i64 k ∧ idxFrom key l 0 = idxFrom key (l.drop k) k ∧ BlockIs wr w.heap.size 34 #[.int .i64 ep, .slice A l.length c] ∧ Below w.heap.size w wr) (fun s5 _ => (l.length - RowKit.intOf s5).toNat)
  case atStart => exact ⟨0, by omega, rfl, by simp, BlockIs.new _ _ _, (by repeat' (first | exact Below.refl _ _ | refine Below.alloc ?_ ?_ _ | refine Below.setCell ?_ ?_ _ | refine Below.drew ?_ | (apply below_step; assumption) | (simp; done) | (simp; omega) | omega))⟩
  case round =>
    obtain ⟨k, hk, rfl, hix, hblk, hB⟩ := hrel
    have HBK := Lib.hid hblk
    have HIX := Lib.hid hix
    have hzr := hB.size
    have gl := hblk.lt
    have g1 := hblk.cell 1
    simp at g1
    clear hblk hix
    by_cases hlt : k < l.length
    · obtain ⟨b, off, rfl, hbw, hat⟩ := HA.out (by omega)
      obtain ⟨r, hr⟩ : ∃ r, l[k]? = some r := ⟨_, List.getElem?_eq_getElem hlt⟩
      obtain ⟨q0, q1, q2⟩ := (hat.below hB hbw) k r hr
      have HST := Lib.hid (HIX.out.trans (idx_step hr))
      have hlti : (k : Int) < (l.length : Int) := by omega
      clear hr hat
      generalize e1 : (r.c == key) = be
      cases be
      · go_wp2_with fail
        go_roundw
        case rel => exact ⟨k + 1, by omega, by go_num, by rw [HST.out, if_neg (by simpa using e1)], HBK.out, hB⟩
        case measure => simp [RowKit.intOf]; omega
      · go_wp2_with fail
        go_ret
        exact ⟨by rw [HST.out, if_pos (by simpa using e1)]; rfl, hB⟩
    · have HEND := Lib.hid (show idxFrom key l 0 = -1 by rw [HIX.out, show k = l.length by omega, List.drop_length]; rfl)
      go_wp2_with fail
      go_ret
      exact ⟨by rw [HEND.out]; rfl, hB⟩

set_option maxHeartbeats 1600000 in
theorem sStoreGet_any (ep : Int) (v : Value) (l : List RV) (key : Int) (w : World) (hv : ItSl w v l) (hlen : l.length ≤ 2000000) : Calls Try.prog 34 #[.agg #[.int .i64 ep, v], .int .i64 key] w (RetG (storeGet ep l key) w) := by
  obtain ⟨A, c, rfl, hA⟩ := hv.form
  have HA := Lib.hid hA
  have HV := Lib.hid hv
  have HX := Lib.hid (idx_spec key l 0)
  have hat := fun w hv => l06At_any ep (.slice A l.length c) l key w hv hlen
  have hso := fun w hv => sStoreOk_any ep (.slice A l.length c) l w hv
  have HG := Lib.hid (show storeGet ep l key = if storeOk ep l then itemAt l key else (RV.zero, false) from rfl)
  generalize storeGet ep l key = ans at *
  generalize storeOk ep l = ok at *
  generalize idxFrom key l 0 = ix at *
  have HAT := Lib.hid hat
  have HSO := Lib.hid hso
  clear hA hv hat hso
  go_enter Try.func34, Try.ntmps34
  go_wp2_with fail
  have hX : Below w.heap.size w ((w.alloc (.cells #[.int .i64 ep, .slice A l.length c] 34)).alloc (.cells #[.int .i64 0, .int .i64 0, .int .i64 0] 36)) := (by repeat' (first | exact Below.refl _ _ | refine Below.alloc ?_ ?_ _ | refine Below.setCell ?_ ?_ _ | refine Below.drew ?_ | (apply below_step; assumption) | (simp; done) | (simp; omega) | omega))
  refine (HAT.out _ (HV.out.below hX)).mono ?_
  rintro e w1 ⟨rfl, hb1⟩
  have hC1 := below_of hX hb1
  have B1 := ((BlockIs.new w 34 #[.int .i64 ep, .slice A l.length c]).alloc (.cells #[.int .i64 0, .int .i64 0, .int .i64 0] 36)).below hb1 (by simp; omega)
  have D1 := (BlockIs.new (w.alloc (.cells #[.int .i64 ep, .slice A l.length c] 34)) 36 #[.int .i64 0, .int .i64 0, .int .i64 0]).below hb1 (by simp)
  have g0 := B1.cell 0
  have g1 := B1.cell 1
  simp at g0 g1
  have HB1 := Lib.hid B1
  have HD1 := Lib.hid D1
  clear B1 D1
  go_wp2_with fail
  refine (HSO.out _ (HV.out.below hC1)).mono ?_
  rintro e w2 ⟨rfl, hb2⟩
  have hC2 := below_of hC1 hb2
  have hz2 := hC2.size
  have B2 := HB1.out.below hb2 HB1.out.lt
  have D2 := HD1.out.below hb2 HD1.out.lt
  have i1 := B2.cell 1
  have d0 := D2.cell 0
  have d1 := D2.cell 1
  have d2 := D2.cell 2
  have df := D2.frozen
  simp at i1 d0 d1 d2 df
  clear g0 g1 HB1 HD1 hb1 hb2 hX B2 D2
  cases ok
  · go_wp2_with fail
    refine bodyPost_ret (v := .tuple #[.agg #[.int .i64 RV.zero.c, .int .i64 RV.zero.m, .int .i64 RV.zero.p], .bool false]) (by simp [results, Try.results34, go_sem, RV.zero, d0, d1, d2]) rfl ?_
    exact RetG_mk (by rw [HG.out]; rfl) (by repeat' (first | exact Below.refl _ _ | refine Below.alloc ?_ ?_ _ | refine Below.setCell ?_ ?_ _ | refine Below.drew ?_ | (apply below_step; assumption) | (simp; done) | (simp; omega) | omega))
  rcases HX.out with ⟨rfl, hno⟩ | ⟨j, r, hj, hr, hit⟩
  · have HN := Lib.hid (itemAt_no hno)
    clear hno
    go_wp2_with fail
    refine bodyPost_ret (v := .tuple #[.agg #[.int .i64 RV.zero.c, .int .i64 RV.zero.m, .int .i64 RV.zero.p], .bool false]) (by simp [results, Try.results34, go_sem, RV.zero, d0, d1, d2]) rfl ?_
    exact RetG_mk (by rw [HG.out, HN.out]; simp) (by repeat' (first | exact Below.refl _ _ | refine Below.alloc ?_ ?_ _ | refine Below.setCell ?_ ?_ _ | refine Below.drew ?_ | (apply below_step; assumption) | (simp; done) | (simp; omega) | omega))
  · have hjl : j < l.length := (List.getElem?_eq_some_iff.1 hr).1
    obtain ⟨b, off, rfl, hbw, hat⟩ := HA.out (by omega)
    obtain ⟨q0, q1, q2⟩ := (hat.below hC2 hbw) j r hr
    rw [Nat.zero_add] at hj
    subst hj
    have HIT := Lib.hid hit
    have hlti : (j : Int) < (l.length : Int) := by omega
    have hn0 : decide ((j : Int) < 0) = false := decide_eq_false (by omega)
    clear hr hat hit HX
    go_wp2_with fail
    refine bodyPost_ret (v := .tuple #[.agg #[.int .i64 r.c, .int .i64 r.m, .int .i64 r.p], .bool true]) (by simp [results, Try.results34, go_sem, d0, d1, d2]) rfl ?_
    exact RetG_mk (by rw [HG.out, HIT.out]; simp) (by repeat' (first | exact Below.refl _ _ | refine Below.alloc ?_ ?_ _ | refine Below.setCell ?_ ?_ _ | refine Below.drew ?_ | (apply below_step; assumption) | (simp; done) | (simp; omega) | omega))
end Go.Proofs.Ytjammpcfihlfaaa
