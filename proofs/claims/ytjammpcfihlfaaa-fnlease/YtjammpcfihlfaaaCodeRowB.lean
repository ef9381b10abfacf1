/- A code, opened: the bytes of a []byte argument. -/
import Derived.Test.YtjammpcfihlfaaaLabRow
import Derived.Test.YtjammpcfihlfaaaCur
namespace Go.Proofs.Ytjammpcfihlfaaa
open Go.ChangeShapes Go.WideShapes Go.ChangeAt Go.RowKit Go.Joins

set_option maxRecDepth 100000 in
theorem open_code {H : Type} {enc : TypeId × Value → H} {W : World} {base : Nat} {v : Value} {d : DataW H} {p : List MemPlace} (hv : Value.okWide Try.prog W .any base 22 v) (h : DataW.Trod enc Try.prog W 0 (fun _ => true) true 22 v d p) :
    ∃ A n c, v = .slice A n c ∧ n ≤ maxLen ∧ n ≤ c ∧ CodeAt W A n := by
  have cb : Try.prog.cellsOf 5 = 1 := by kernel_rfl
  obtain ⟨A, n, c, rfl⟩ := okWide_slice Try.underlying22 hv
  obtain ⟨fuel, hf⟩ := h
  rcases open_ints Try.underlying22 Try.underlying5 cb hf with ⟨hcs, hx⟩ | ⟨a, len', cap', zs, hcs, _, hl, hm, hz, hx, hcell, hwz⟩
  · simp [Value.cells] at hcs
    obtain ⟨rfl, rfl, rfl⟩ := hcs
    exact ⟨none, 0, 0, rfl, by unfold maxLen; omega, Nat.le_refl _, fun h => absurd h (by omega)⟩
  · simp [Value.cells] at hcs
    obtain ⟨rfl, rfl, rfl⟩ := hcs
    refine ⟨_, n, c, rfl, by omega, hl, fun hn => ?_⟩
    rw [if_pos rfl] at hz
    obtain ⟨b, off, rfl, hc⟩ := ints_at hcell (by omega)
    refine ⟨b, off, rfl, by simpa using World.block_lt_of_cell? _ _ (hc 0 (by omega)), fun i hi => ?_⟩
    have hm : zs.getD i 0 ∈ zs := by
      have hi' : i < zs.length := by omega
      simp [List.getD, hi']
    exact ⟨zs.getD i 0, (bounds_u8 (hwz _ hm)).1, (bounds_u8 (hwz _ hm)).2, hc i (by omega)⟩
end Go.Proofs.Ytjammpcfihlfaaa
