/- The model's draws of labels: labs, badLabs. -/
import Derived.Test.YtelfoedgbgandaaCurRB
import Derived.Test.YtelfoedgbgandaaPutS
namespace Go.Proofs.Ytelfoedgbgandaa
open Go.RowKit

theorem Owns.but {w w' : World} {base g : Nat} {v : Value} {l : List LV} (h : Owns w base v l) (hb : But g w w') (hg : g < base) : Owns w' base v l :=
  World.ownsRow.kept h ⟨hb.os, hb.tape, hb.output, hb.size, fun k hk hne => hb.block k hk (fun e => hne (by rw [e]))⟩ (.inr fun e => by have := (World.ownsRow.lt h g e).1; omega)
theorem putOk_len {a : List LV} {x : LV} (h : putOk a x = true) : (putList a x).length ≤ 6 := by
  have h1 : labsOk (ins x a) = true := by simp only [putOk, Bool.and_eq_true] at h; exact h.2
  have h2 : putList a x = ins x a := by simp only [putOk] at h; simp [putList, h]
  rw [h2]; exact labsOk_len h1
theorem But.step {g : Nat} {w w1 w2 : World} (h : But g w w1) (hb : Below w1.heap.size w1 w2) : But g w w2 := But.of_below hb h
theorem CurAt.step_below {g G : Nat} {A : Option Addr} {n c m : Nat} {w w' : World} (hG : G ≤ g) (h : CurAt g G A n c m w) (hb : Below w.heap.size w w') : CurAt g G A n c m w' := by
  obtain ⟨a, s, hk, h0, h1, h2, h3, h4⟩ := h
  exact CurAt.step hG hk.lt (But.of_below hb (But.refl g w)) (hk.below hb hk.lt) h0 h1 h2 h3 h4

/-- The ending of a draw of labels: some list of at most b labels, in memory of its own; of what was there only the cursor has turned. -/
def DrawnL (b g G : Nat) (A : Option Addr) (n c m : Nat) (w : World) (e : Ending) (w' : World) : Prop := ∃ v l, e = .returned v ∧ Owns w' w.heap.size v l ∧ l.length ≤ b ∧ But g w w' ∧ CurAt g G A n c m w'

set_option maxHeartbeats 1600000 in
theorem curLabs_any (g G : Nat) (A : Option Addr) (n c m : Nat) (w : World) (hG : G ≤ g) (hn : n ≤ 1048576) (hm : m + 5 ≤ 1000000000) (h : CurAt g G A n c m w) :
    Calls Try.prog 48 #[.pointer (some ⟨g, 0, none⟩)] w (DrawnL 6 g G A n c (m + 5) w) := by
  have hgw := h.lt
  go_enter Try.func48, Try.ntmps48
  go_wp2_with fail
  refine (pick_any g G A n c m 3 _ hG hn (by omega) (by omega) (by omega) (h.but_alloc hG _)).mono ?_
  rintro e w1 ⟨z, ⟨z0, z1⟩, rfl, hb1, hc1⟩
  have hz1 := hb1.size
  simp at hz1
  have HO1 : Hid (Owns w1 w.heap.size (.slice (some ⟨w.heap.size, 0, none⟩) 0 0) []) := Owns.but (show Owns (w.alloc (.cells #[] 26)) w.heap.size _ [] from World.ownsRow_made w #[] 0 (Nat.le_refl _) (by unfold maxLen; omega) rfl) hb1 hgw
  obtain ⟨j, rfl⟩ := Int.eq_ofNat_of_zero_le z0
  have hB1 : But g w w1 := ((But.refl g w).alloc _).trans hb1
  clear hb1
  go_wp2_with fail
  go_loopw [3, 4] (fun s3 s4 wr => ∃ (k : Nat) (l : List LV), k ≤ 2 ∧ s4 = .int .i64 k ∧ Owns wr w.heap.size s3 l ∧ l.length ≤ 6 ∧ But g w wr ∧ CurAt g G A n c (m + 1 + 2 * (2 - k)) wr) (fun _ s4 _ => (intOf s4).toNat)
  case atStart =>
    exact ⟨j, [], by omega, rfl, HO1.out, by simp, hB1, hc1.more (by omega)⟩
  case round =>
    obtain ⟨k, l, hk, rfl, hown, hl, hB, hc⟩ := hrel
    have HOW := Lib.hid hown
    clear hown HO1
    by_cases hlt : 0 < k
    · have hki : (0 : Int) < (k : Int) := by omega
      go_wp2_with fail
      refine (pick_any g G A n c _ 3 _ hG hn (by omega) (by omega) (by omega) hc).mono ?_
      rintro e w2 ⟨x2, ⟨x20, x21⟩, rfl, hb2, hc2⟩
      go_wp2_with fail
      refine (pick_any g G A n c _ 2 _ hG hn (by omega) (by omega) (by omega) hc2).mono ?_
      rintro e w3 ⟨x3, ⟨x30, x31⟩, rfl, hb3, hc3⟩
      have HO3 := Lib.hid ((HOW.out.but hb2 hgw).but hb3 hgw)
      have hB3 := (hB.trans hb2).trans hb3
      go_wp2_with fail
      refine (sLabsPut_any _ l ⟨x2, x3⟩ _ HO3.out.sl (by omega)).mono ?_
      rintro e w4 ⟨v4, rfl, ho4, hb4⟩
      have hc4 := hc3.step_below hG hb4
      have hB4 := hB3.step hb4
      cases hok : putOk l ⟨x2, x3⟩
      · have HO4 := Lib.hid (HO3.out.below hb4 (Nat.le_refl _))
        clear ho4 hok
        go_wp2_with fail
        go_roundw
        case rel => exact ⟨k - 1, l, by omega, by go_num, HO4.out, hl, hB4, hc4.more (by omega)⟩
        case measure => simp [intOf]; omega
      · have HO4 := Lib.hid (ho4.lower hB3.size)
        have hl4 := putOk_len hok
        clear ho4 hok
        go_wp2_with fail
        go_roundw
        case rel => exact ⟨k - 1, _, by omega, by go_num, HO4.out, hl4, hB4, hc4.more (by omega)⟩
        case measure => simp [intOf]; omega
    · have hki : ¬ (0 : Int) < (k : Int) := by omega
      go_wp2_with fail
      go_ret
      exact ⟨_, l, rfl, HOW.out, hl, hB, hc.more (by omega)⟩
end Go.Proofs.Ytelfoedgbgandaa
