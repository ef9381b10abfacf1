/- The laws' helpers that write marks into a slice of instances and look for them: markInstS, heldInstS. -/
import Derived.Test.YtbmiefhgkagcgaaInstOwn
namespace Go.Proofs.Ytbmiefhgkagcgaa
open Go.RowKit

/-- The slice value v holds the marks 1, 2, .. in its first n instances. -/
def MarkedN (w : World) (base : Nat) (v : Value) (n : Nat) : Prop :=
  (v = .slice none 0 0 ∧ n = 0) ∨ ∃ g cap cur, v = .slice (some ⟨g, 0, none⟩) n cap ∧ base ≤ g ∧ BlockIs w g 38 cur ∧ ∀ i, i < n * 3 → cur[i]? = some (.int .i64 (1 + i))
theorem MarkedN.below {w w' : World} {base : Nat} {v : Value} {n B : Nat} (h : MarkedN w base v n) (hb : Below B w w') (hB : w.heap.size ≤ B) : MarkedN w' base v n := by
  rcases h with h | ⟨g, cap, cur, hv, hg, hblk, hc⟩
  · exact .inl h
  · exact .inr ⟨g, cap, cur, hv, hg, hblk.below hb (Nat.lt_of_lt_of_le hblk.lt hB), hc⟩

/-- The first k instances of block g bear their marks. -/
def MarkIn (w : World) (g : Nat) (sz k : Nat) (wr : World) : Prop := ∃ cur : Array Value, BlockIs wr g 38 cur ∧ cur.size = sz ∧ (∀ i, i < k * 3 → cur[i]? = some (.int .i64 (1 + i))) ∧ w.grownBy wr (some g)
theorem MarkIn.put {w wr : World} {g sz k : Nat} {cur : Array Value} (hs : cur.size = sz) (hk : k * 3 + 2 < sz) (hc : ∀ i, i < k * 3 → cur[i]? = some (.int .i64 (1 + i)))
    (hb : BlockIs wr g 38 (((cur.setIfInBounds (k * 3) (.int .i64 (1 + 3 * k))).setIfInBounds (k * 3 + 1) (.int .i64 (1 + 3 * k + 1))).setIfInBounds (k * 3 + 2) (.int .i64 (1 + 3 * k + 1 + 1)))) (hg : w.grownBy wr (some g)) : MarkIn w g sz (k + 1) wr := by
  refine ⟨_, hb, by simp [hs], fun i hi => ?_, hg⟩
  rcases (show i < k * 3 ∨ i = k * 3 ∨ i = k * 3 + 1 ∨ i = k * 3 + 2 by omega) with h | h | h | h
  · rw [Array.getElem?_setIfInBounds_ne (by omega), Array.getElem?_setIfInBounds_ne (by omega), Array.getElem?_setIfInBounds_ne (by omega)]; exact hc i h
  · subst h
    have e : (1 + 3 * (k : Int)) = 1 + ((k * 3 : Nat) : Int) := by omega
    rw [Array.getElem?_setIfInBounds_ne (by omega), Array.getElem?_setIfInBounds_ne (by omega)]
    simp [Array.getElem?_setIfInBounds, hs, e]; omega
  · subst h
    have e : (1 + 3 * (k : Int) + 1) = 1 + ((k * 3 + 1 : Nat) : Int) := by omega
    rw [Array.getElem?_setIfInBounds_ne (by omega)]
    simp [Array.getElem?_setIfInBounds, hs, e]; omega
  · subst h
    have e : (1 + 3 * (k : Int) + 1 + 1) = 1 + ((k * 3 + 2 : Nat) : Int) := by omega
    simp [Array.getElem?_setIfInBounds, hs, e]; omega
theorem grown_putN {w w' : World} {g : Nat} (h : w.grownBy w' (some g)) (o : Nat) (u : Value) : w.grownBy (w'.setCell ⟨g, o, none⟩ u) (some g) :=
  ⟨h.os, h.tape, h.output, by simpa [World.setCell] using h.size, fun k hk hg => (Below.heap_setCell _ _ _ _ (fun e => hg (by rw [e]))).trans (h.block k hk hg)⟩

/-- The ending of markInstS. -/
def RetMarkN (w : World) (base : Nat) (v : Value) (n : Nat) (e : Ending) (w' : World) : Prop := e = .returned (.int .i64 (1 + 3 * n)) ∧ MarkedN w' base v n ∧ w.grownBy w' v.ownBlock

theorem markN_nil (w : World) (base : Nat) : Calls Try.prog 55 #[.slice none 0 0, .int .i64 1] w (RetMarkN w base (.slice none 0 0) 0) := by
  go_enter Try.func55, Try.ntmps55
  go_wp2_with fail
  refine wp_loop_rounds 1 ?_
  rw [rounds_succ]
  go_wp2_with fail
  go_ret
  exact ⟨rfl, .inl ⟨rfl, rfl⟩, World.grownBy.refl _ _⟩

set_option maxHeartbeats 1600000 in
theorem markN_own (w : World) (base g n cap : Nat) (cur : Array Value) (hg : base ≤ g) (hb : BlockIs w g 38 cur) (hs : n * 3 ≤ cur.size) (hn : n ≤ 1048576) :
    Calls Try.prog 55 #[.slice (some ⟨g, 0, none⟩) n cap, .int .i64 1] w (RetMarkN w base (.slice (some ⟨g, 0, none⟩) n cap) n) := by
  have HB := Lib.hid hb
  clear hb
  go_enter Try.func55, Try.ntmps55
  go_wp2_with fail
  go_loopw [1, 5] (fun s1 s5 wr => ∃ k : Nat, k ≤ n ∧ s5 = .int .i64 k ∧ s1 = .int .i64 (1 + 3 * k) ∧ MarkIn w g cur.size k wr) (fun _ s5 _ => (n - intOf s5).toNat)
  case atStart => exact ⟨0, by omega, rfl, rfl, cur, HB.out, rfl, fun i hi => absurd hi (by omega), World.grownBy.refl _ _⟩
  case round =>
    obtain ⟨k, hk, rfl, rfl, cu, hblk, hsz, hc, hgr⟩ := hrel
    by_cases hlt : k < n
    · have u0 : wr.cell? ⟨g, k * 3, none⟩ = some (cu[k * 3]'(by omega)) := by rw [hblk.cell]; exact Array.getElem?_eq_getElem (by omega)
      have u1 : wr.cell? ⟨g, k * 3 + 1, none⟩ = some (cu[k * 3 + 1]'(by omega)) := by rw [hblk.cell]; exact Array.getElem?_eq_getElem (by omega)
      have u2 : wr.cell? ⟨g, k * 3 + 2, none⟩ = some (cu[k * 3 + 2]'(by omega)) := by rw [hblk.cell]; exact Array.getElem?_eq_getElem (by omega)
      generalize cu[k * 3]'(by omega) = x0 at u0
      generalize cu[k * 3 + 2]'(by omega) = x2 at u2
      generalize cu[k * 3 + 1]'(by omega) = x1 at u1
      have uf := hblk.frozen
      have HBK := Lib.hid hblk
      have HSZ := Lib.hid hsz
      have HC := Lib.hid hc
      have HG := Lib.hid hgr
      have hlti : (k : Int) < (n : Int) := by omega
      clear hblk hsz hc hgr
      go_wp2_with fail
      go_roundw
      case rel =>
        refine ⟨k + 1, by omega, by go_num, by go_num, MarkIn.put HSZ.out (by omega) HC.out ?_ (grown_putN (grown_putN (grown_putN HG.out _ _) _ _) _ _)⟩
        exact ((HBK.out.put _ _).put _ _).put _ _
      case measure => simp [intOf]; omega
    · obtain rfl : k = n := by omega
      have HBK := Lib.hid hblk
      have HC := Lib.hid hc
      have HG := Lib.hid hgr
      clear hblk hsz hc hgr
      go_wp2_with fail
      go_ret
      exact ⟨rfl, .inr ⟨g, cap, cu, rfl, hg, HBK.out, HC.out⟩, HG.out⟩
theorem markN_any (w : World) (base : Nat) (v : Value) (l : List RV) (h : OwnsN w base v l) (hn : l.length ≤ 1048576) : Calls Try.prog 55 #[v, .int .i64 1] w (RetMarkN w base v l.length) := by
  rcases h.form with ⟨rfl, rfl⟩ | ⟨g, cap, cur, rfl, hg, hb, hs, hc⟩
  · exact markN_nil w base
  · exact markN_own w base g _ cap cur hg hb (by omega) hn

set_option maxHeartbeats 1600000 in
theorem heldN_any (w : World) (base : Nat) (v : Value) (n : Nat) (h : MarkedN w base v n) (hn : n ≤ 1048576) :
    Calls Try.prog 56 #[v, .int .i64 1] w fun e w' => e = .returned (.int .i64 (1 + 3 * n)) ∧ w = w' := by
  rcases h with ⟨rfl, rfl⟩ | ⟨g, cap, cur, rfl, hg, hb, hc⟩
  · go_enter Try.func56, Try.ntmps56
    go_wp2_with fail
    refine wp_loop_rounds 1 ?_
    rw [rounds_succ]
    go_wp2_with fail
    go_ret
    exact ⟨rfl, rfl⟩
  · have HB := Lib.hid hb
    have HC := Lib.hid hc
    clear hb hc
    go_enter Try.func56, Try.ntmps56
    go_wp2_with fail
    go_loop [1, 5] (fun s1 s5 => ∃ k : Nat, k ≤ n ∧ s5 = .int .i64 k ∧ s1 = .int .i64 (1 + 3 * k)) (fun _ s5 => (n - intOf s5).toNat)
    case atStart => exact ⟨0, by omega, rfl, rfl⟩
    case round =>
      obtain ⟨k, hk, rfl, rfl⟩ := hrel
      by_cases hlt : k < n
      · have u0 : w.cell? ⟨g, k * 3, none⟩ = some (.int .i64 (1 + 3 * k)) := by rw [HB.out.cell, HC.out _ (by omega)]; congr 2; omega
        have u1 : w.cell? ⟨g, k * 3 + 1, none⟩ = some (.int .i64 (1 + 3 * k + 1)) := by rw [HB.out.cell, HC.out _ (by omega)]; congr 2; omega
        have u2 : w.cell? ⟨g, k * 3 + 2, none⟩ = some (.int .i64 (1 + 3 * k + 1 + 1)) := by rw [HB.out.cell, HC.out _ (by omega)]; congr 2; omega
        have n2 : ((1 + 3 * (k : Int) + 1 + 1) != (1 + 3 * (k : Int) + 1 + 1)) = false := by simp
        have n0 : ((1 + 3 * (k : Int)) != (1 + 3 * (k : Int))) = false := by simp
        have n1 : ((1 + 3 * (k : Int) + 1) != (1 + 3 * (k : Int) + 1)) = false := by simp
        have hlti : (k : Int) < (n : Int) := by omega
        go_wp2_with fail
        go_round
        case rel => exact ⟨k + 1, by omega, by go_num, by go_num⟩
        case measure => simp [intOf]; omega
      · obtain rfl : k = n := by omega
        go_wp2_with fail
        go_ret
        exact ⟨rfl, rfl⟩
end Go.Proofs.Ytbmiefhgkagcgaa
