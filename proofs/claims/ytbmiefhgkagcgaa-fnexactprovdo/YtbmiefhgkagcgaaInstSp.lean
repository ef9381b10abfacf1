/- append of several instances. -/
import Derived.Test.YtbmiefhgkagcgaaProvW
import Derived.Deep.RegionLaw
import Derived.Deep.DrawnRows
namespace Go.Proofs.Ytbmiefhgkagcgaa
open Go.RowKit Go.Maps

theorem run_append_zeroN {P : Program} (w : World) (t ty e : TypeId) (i : TypeInfo) (size : Nat) (ht : P.underlying t = some (.slice e)) (hi : P.info? e = some i)
    (v : Value) (n : Nat) (xs : List Value) (A : Option Addr) (c : Nat) (hown : w.ownsRow 0 e size v n xs) :
    (Builtin.append_ #[t, t] ty #[v, .slice A 0 c]).run P w = .ok v w := by
  rcases hown.2 with ⟨rfl, rfl⟩ | ⟨g, cap, cur, rfl, _, _, hnc, _⟩
  · cases A <;> simp [Builtin.append_, run_underlying ht, sizeOf, typeInfo, hi, Builtin.lenOf, Builtin.firstCells, loadCells, loadCellsFrom]
  · cases A <;> simp [Builtin.append_, run_underlying ht, sizeOf, typeInfo, hi, Builtin.lenOf, Builtin.firstCells, hnc, storeCells, loadCells, loadCellsFrom]
theorem OwnsN.made (w : World) {g base : Nat} (hg : g = w.heap.size) (hb : base ≤ g) : OwnsN (w.alloc (.cells #[] 38)) base (.slice (some ⟨g, 0, none⟩) 0 0) [] :=
  ⟨rfl, .inr ⟨g, 0, #[], rfl, hb, BlockIs.new' hg, Nat.le_refl _, by unfold maxLen; omega, rfl, rfl⟩⟩
theorem InAt.take {w : World} {b off : Nat} {l : List RV} (h : InAt w b off l) (k : Nat) : InAt w b off (l.take k) := fun i r hr => h i r (by
  have hi : i < k := by
    have := (List.getElem?_eq_some_iff.1 hr).1
    rw [List.length_take] at this; omega
  rwa [List.getElem?_take_of_lt hi] at hr)
theorem InAt.drop {w : World} {b off : Nat} {l : List RV} (h : InAt w b off l) (k : Nat) : InAt w b (off + k * 3) (l.drop k) := fun i r hr => by
  rw [List.getElem?_drop] at hr
  have := h (k + i) r hr
  rw [show off + (k + i) * 3 = off + k * 3 + i * 3 by omega] at this
  exact this
theorem InAt.cells {w : World} {b off : Nat} {l : List RV} (h : InAt w b off l) : ∀ j u, (inL l)[j]? = some u → w.cell? ((⟨b, off, none⟩ : Addr).add j) = some u := fun j u hu => by
  rw [Go.WideShapes.add_plain]
  have hj : j < l.length * 3 := by
    have := (List.getElem?_eq_some_iff.1 hu).1
    rwa [inL_length] at this
  obtain ⟨r, hr⟩ : ∃ r, l[j / 3]? = some r := ⟨_, List.getElem?_eq_getElem (by omega)⟩
  obtain ⟨h1, h2, h3⟩ := h (j / 3) r hr
  obtain ⟨k1, k2, k3⟩ := inL_at hr
  rcases (show j = j / 3 * 3 ∨ j = j / 3 * 3 + 1 ∨ j = j / 3 * 3 + 2 by omega) with e | e | e
  · rw [← e] at h1 k1; rw [k1] at hu; cases hu; exact h1
  · rw [← e] at k2; rw [k2] at hu; cases hu; rw [Nat.add_assoc, ← e] at h2; exact h2
  · rw [← e] at k3; rw [k3] at hu; cases hu; rw [Nat.add_assoc, ← e] at h3; exact h3
/-- append of the instances of another slice, as one step of a region that draws. -/
theorem step_spread_inst {ops : Array Oper} {o : Oper} {a : Act} {K : Act → World → Prop} {Q : Exit → Act → World → Prop} {E : Prop} (w : World) (hgd : o.guard = none) (s x : Operand)
    (ho : o.op = .call { callee := .builtin .append, args := #[s, x], argTypes := #[24, 24] })
    (base : Nat) (v : Value) (l : List RV) (hs : a.eval s = v) (hown : OwnsN w base v l) (A : Option Addr) (m c : Nat) (new : List RV) (hx : a.eval x = .slice A m c) (hm : new.length = m)
    (hnew : 0 < m → ∃ b off, A = some ⟨b, off, none⟩ ∧ InAt w b off new) (hl : l.length + m ≤ 2000000) (hbase : base ≤ w.heap.size)
    (h : ∀ v' w', OwnsN w' base v' (l ++ new) → Below base w w' → K (a.put o.dst v') w') : if Region.wanted o (yielded ops a.tmps) = true then Oper.wp Try.prog o a w K Q else E := by
  have hw : Region.wanted o (yielded ops a.tmps) = true := by simp [Region.wanted, hgd]
  rw [if_pos hw]
  obtain ⟨i0, hi0, hz0, hz1, hz2⟩ := info_parts infoN
  rcases Nat.eq_zero_or_pos m with rfl | hp
  · obtain rfl : new = [] := List.eq_nil_of_length_eq_zero hm
    have hrun := run_append_zeroN (P := Try.prog) w 24 o.type 38 i0 3 Try.underlying24 hi0 v l.length (inL l) A c (own_zero hown)
    unfold Oper.wp
    simp [execOp, ho, resolve, invoke, builtin, hs, hx, hrun, Result.andThen]
    exact h v w (by simpa using hown) (Below.refl _ _)
  · obtain ⟨b, off, rfl, hat⟩ := hnew hp
    refine wp_append_own w s x 24 ho base 38 i0 _ 3 24 Try.underlying24 hi0 hz0 hz1 hz2 rfl (by omega) v l.length (inL l) hs hown ⟨b, off, none⟩ m c (inL new) hx (by rw [inL_length, hm]) hat.cells (inL_one new) (by simp only [maxLen]; omega) (by omega) hbase ?_
    intro v' w' hown' hgrow _
    refine h v' w' ?_ ((Below.refl _ _).grown hgrow hbase (fun k hk => (World.ownsRow.lt hown k hk).1))
    unfold OwnsN
    rw [inL_append, List.length_append, hm]
    exact hown'
end Go.Proofs.Ytbmiefhgkagcgaa
