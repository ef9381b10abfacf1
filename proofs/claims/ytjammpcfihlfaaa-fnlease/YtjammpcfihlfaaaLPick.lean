/- The laws' pick. -/
import Derived.Test.YtjammpcfihlfaaaCur
namespace Go.Proofs.Ytjammpcfihlfaaa
open Go.RowKit

/-- The ending of the laws' pick: a number below k. -/
def PickEnd (k : Int) (w : World) (e : Ending) (w' : World) : Prop := ∃ z : Int, 0 ≤ z ∧ z < k ∧ e = .returned (.int .i64 z) ∧ w = w'
set_option maxHeartbeats 1600000 in
theorem lpick_any (A : Option Addr) (n c : Nat) (at_ k : Int) (w : World) (hn : n ≤ 1048576) (hc : CodeAt w A n) (ha0 : 0 ≤ at_) (ha1 : at_ ≤ 1000000) (hk2 : 2 ≤ k) (hk : k ≤ 1000000) :
    Calls Try.prog 16 #[.slice A n c, .int .i64 at_, .int .i64 k] w (PickEnd k w) := by
  rcases Nat.eq_zero_or_pos n with rfl | hp
  · go_enter Try.func16, Try.ntmps16
    go_wp2
    go_ret
    exact ⟨0, by omega, by omega, rfl, rfl⟩
  · obtain ⟨b, off, rfl, hlt, hcc⟩ := hc hp
    have hm : ∀ j : Int, 0 ≤ j → 0 ≤ (at_ + j) % n ∧ (at_ + j) % n < n := fun j hj => ⟨Int.emod_nonneg _ (by omega), Int.emod_lt_of_pos _ (by omega)⟩
    obtain ⟨d00, d01⟩ := hm 0 (by omega)
    obtain ⟨d10, d11⟩ := hm 1 (by omega)
    obtain ⟨d20, d21⟩ := hm 2 (by omega)
    rw [Int.add_zero] at d00 d01
    obtain ⟨x0, x00, x01, hx0⟩ := hcc (at_ % n).toNat (by omega)
    obtain ⟨x1, x10, x11, hx1⟩ := hcc ((at_ + 1) % n).toNat (by omega)
    obtain ⟨x2, x20, x21, hx2⟩ := hcc ((at_ + 2) % n).toNat (by omega)
    have hn0 : ((n : Int) == 0) = false := by simp; omega
    have hn1 : (0 : Int) < (n : Int) := by omega
    clear hc hcc hm
    go_enter Try.func16, Try.ntmps16
    go_wp2
    refine wp_loop_rounds 4 ?_
    rw [rounds_succ]
    go_wp2
    rw [rounds_succ]
    go_wp2
    rw [rounds_succ]
    go_wp2
    rw [rounds_succ]
    go_wp2
    go_ret
    exact ⟨_, (mod_in hk2).1, (mod_in hk2).2, rfl, rfl⟩

set_option maxHeartbeats 1600000 in
theorem lpick_all (A : Option Addr) (n c : Nat) (at_ k : Int) (w : World) (hn : n ≤ 1048576) (hc : CodeAt w A n) (ha0 : 0 ≤ at_) (ha1 : at_ ≤ 1000000) (hk1 : 1 ≤ k) (hk : k ≤ 1000000) :
    Calls Try.prog 16 #[.slice A n c, .int .i64 at_, .int .i64 k] w (PickEnd k w) := by
  by_cases hk2 : 2 ≤ k
  · exact lpick_any A n c at_ k w hn hc ha0 ha1 hk2 hk
  · have h1 : decide (k < 2) = true := decide_eq_true (by omega)
    have e1 : ((n : Int) == 0) = true ∨ ((n : Int) == 0) = false := by cases ((n : Int) == 0) <;> simp
    rcases e1 with e1 | e1
    all_goals
      go_enter Try.func16, Try.ntmps16
      go_wp2
      go_ret
      exact ⟨0, by omega, by omega, rfl, rfl⟩
end Go.Proofs.Ytjammpcfihlfaaa
