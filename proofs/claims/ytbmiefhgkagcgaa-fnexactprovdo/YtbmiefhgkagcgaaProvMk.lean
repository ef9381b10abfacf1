/- The laws' markProv, heldProv; what stays while one row is turned. -/
import Derived.Test.YtbmiefhgkagcgaaInstMark
import Derived.Test.YtbmiefhgkagcgaaProvTo
namespace Go.Proofs.Ytbmiefhgkagcgaa
open Go.RowKit

theorem BlockIs.turned {w w' : World} {g : Nat} {t : TypeId} {cs : Array Value} {row : Option Nat} (h : BlockIs w g t cs) (hg : w.grownBy w' row) (hne : row ≠ some g) : BlockIs w' g t cs := (hg.block g h.lt (fun e => hne e.symm)).trans h
theorem OwnsN.lt {w : World} {base : Nat} {v : Value} {l : List RV} (h : OwnsN w base v l) : ∀ k, v.ownBlock = some k → base ≤ k ∧ k < w.heap.size := World.ownsRow.lt h
theorem OwnsN.turned {w w' : World} {base : Nat} {v : Value} {l : List RV} {row : Option Nat} (h : OwnsN w base v l) (hg : w.grownBy w' row) (hne : ∀ k, v.ownBlock = some k → row ≠ some k) : OwnsN w' base v l := by
  obtain ⟨h1, h2⟩ := h
  refine ⟨h1, ?_⟩
  rcases h2 with h | ⟨g, cap, cur, rfl, hb, hh, h⟩
  · exact .inl h
  · have hlt : g < w.heap.size := (Array.getElem?_eq_some_iff.1 hh).1
    exact .inr ⟨g, cap, cur, rfl, hb, (hg.block g hlt (fun e => hne g rfl e.symm)).trans hh, h⟩
theorem MarkedN.low {w : World} {base base' : Nat} {v : Value} {n : Nat} (h : MarkedN w base v n) (hb : base' ≤ base) : MarkedN w base' v n := by
  rcases h with h | ⟨g, cap, cur, hv, hg, h⟩
  · exact .inl h
  · exact .inr ⟨g, cap, cur, hv, by omega, h⟩
theorem markProv_any (ep : Int) (w : World) (base : Nat) (v : Value) (l : List RV) (h : OwnsN w base v l) (hn : l.length ≤ 1048576) :
    Calls Try.prog 30 #[.agg #[.int .i64 ep, v], .int .i64 1] w (RetMarkN w base v l.length) := by
  have HO := Lib.hid h
  clear h
  go_enter Try.func30, Try.ntmps30
  go_wp2_with fail
  refine (markN_any _ base v l (HO.out.alloc _) hn).mono ?_
  rintro e w1 ⟨rfl, hm, hg⟩
  have HM := Lib.hid hm
  have HG := Lib.hid hg
  clear hm hg
  go_wp2_with fail
  go_ret
  refine ⟨rfl, HM.out, ?_⟩
  exact (World.grownBy_alloc w _ v.ownBlock).trans HG.out
theorem heldProv_any (ep : Int) (w : World) (base : Nat) (v : Value) (n : Nat) (h : MarkedN w base v n) (hn : n ≤ 1048576) :
    Calls Try.prog 31 #[.agg #[.int .i64 ep, v], .int .i64 1] w fun e w' => e = .returned (.int .i64 (1 + 3 * n)) ∧ Below w.heap.size w w' := by
  have HM := Lib.hid h
  have hlt : decide ((1 : Int) + 3 * n < 0) = false := decide_eq_false (by omega)
  clear h
  go_enter Try.func31, Try.ntmps31
  go_wp2_with fail
  refine (heldN_any _ base v n (HM.out.below (B := w.heap.size) (by repeat' (first | exact Below.refl _ _ | refine Below.alloc ?_ ?_ _ | refine Below.setCell ?_ ?_ _ | refine Below.drew ?_ | (apply below_step; assumption) | (simp; done) | (simp; omega) | omega)) (Nat.le_refl _)) hn).mono ?_
  rintro e w1 ⟨rfl, rfl⟩
  generalize hzz : (1 + 3 * (n : Int)) = z at *
  have HZ := Lib.hid hzz
  clear hzz
  go_wp2_with fail
  go_ret
  exact ⟨by rw [HZ.out]; rfl, (by repeat' (first | exact Below.refl _ _ | refine Below.alloc ?_ ?_ _ | refine Below.setCell ?_ ?_ _ | refine Below.drew ?_ | (apply below_step; assumption) | (simp; done) | (simp; omega) | omega))⟩
end Go.Proofs.Ytbmiefhgkagcgaa
