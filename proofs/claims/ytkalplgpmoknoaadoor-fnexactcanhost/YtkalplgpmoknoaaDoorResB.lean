/- The contracts of chapter 1's functions: outOfRange, checkBoth, keepValid, ResOk, ResAdd, ResSub, ResFits. -/
import Derived.Test.YtkalplgpmoknoaaDoorResA
namespace Go.Proofs.YtkalplgpmoknoaaDoor
open Go.RowKit

theorem outOfRange_nil (w : World) (a : Addr) (hg : ErrAt a w) :
    Calls Tryd.prog 39 #[.nilIface] w fun e w' => e = .returned (.bool false) ∧ w = w' := by
  unfold ErrAt at hg
  go_enter Tryd.func39, Tryd.ntmps39
  go_wp2_with (go_at_call 47; refine (is_nil a _).mono ?_; rintro e w1 ⟨rfl, rfl⟩)
  go_ret
  exact ⟨rfl, rfl⟩
theorem outOfRange_bad (s : ByteArray) (w : World) (a : Addr) (hg : ErrAt a w) :
    Calls Tryd.prog 39 #[.iface 81 (.agg #[.string s, .iface 102 (.pointer (some a))])] w fun e w' => e = .returned (.bool true) ∧ Below w.heap.size w w' := by
  unfold ErrAt at hg
  go_enter Tryd.func39, Tryd.ntmps39
  go_wp2_with (go_at_call 47; refine (is_field s a _).mono ?_; rintro e w1 ⟨rfl, hb⟩)
  go_ret
  exact ⟨rfl, hb⟩

end Go.Proofs.YtkalplgpmoknoaaDoor
