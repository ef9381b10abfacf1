/- slices.Insert of one element into a row of nodes or bindings that a call owns: what it does to the cells. -/
import Derived.Test.YtbmiefhgkagcgaaDel
import Derived.Shelf.RegionOpenPlain
import Derived.Lib.AppendZerosOnto
import Derived.Lib.Overlaps
import Derived.Laws.IdiomCopy
namespace Go.Proofs.Ytbmiefhgkagcgaa
open Go.RowKit

section
variable {P : Program}
theorem wp_copy_by (w : World) {o : Oper} {a : Act} {K : Act → World → Prop} {Q : Exit → Act → World → Prop} (d s : Operand) (t t' : TypeId)
    (ho : o.op = .call { callee := .builtin .copy, args := #[d, s], argTypes := #[t, t'] }) (v u : Value) (hd : a.eval d = v) (hs : a.eval s = u) {v' : Value} {w' : World}
    (hr : (Builtin.copy_ #[t, t'] o.type #[v, u]).run P w = .ok v' w') (h : K (a.put o.dst v') w') : o.wp P a w K Q := by
  unfold Oper.wp execOp
  simp only [ho, resolve, invoke, builtin, Sem.run_bind, Sem.run_pure, Result.andThen_ok, List.map_toArray, List.map_cons, List.map_nil, hd, hs, hr]
  exact h
theorem wpList_copy_by (w : World) {ops : Array Oper} {rest : List Oper} {o : Oper} {a : Act} {Q : Exit → Act → World → Prop} (hgd : o.guard = none) (d s : Operand) (t t' : TypeId)
    (ho : o.op = .call { callee := .builtin .copy, args := #[d, s], argTypes := #[t, t'] }) (v u : Value) (hd : a.eval d = v) (hs : a.eval s = u) {v' : Value} {w' : World}
    (hr : (Builtin.copy_ #[t, t'] o.type #[v, u]).run P w = .ok v' w') (h : wpList P ops Q rest (a.put o.dst v') w') : wpList P ops Q (o :: rest) a w :=
  wpList_plain hgd fun _ hK => wp_copy_by w d s t t' ho v u hd hs hr (hK _ _ h)
theorem step_copy_by {ops : Array Oper} {o : Oper} {a : Act} {w : World} {K : Act → World → Prop} {Q : Exit → Act → World → Prop} {E : Prop}
    (hg : o.guard = none) (d x : Operand) (dT sT : TypeId) (hop : o.op = Op.call { callee := Callee.builtin Builtin.copy, args := #[d, x], argTypes := #[dT, sT] })
    (v u : Value) (hd : a.eval d = v) (hx : a.eval x = u) {v' : Value} {w' : World} (hr : (Builtin.copy_ #[dT, sT] o.type #[v, u]).run P w = .ok v' w') (hK : K (a.put o.dst v') w') :
    if Region.wanted o (yielded ops a.tmps) = true then Oper.wp P o a w K Q else E := by
  have hw : Region.wanted o (yielded ops a.tmps) = true := by simp [Region.wanted, hg]
  rw [if_pos hw]
  exact wp_copy_by w d x dT sT hop v u hd hx hr hK
/-- copy(d, s) of elements of 'size' cells. -/
theorem run_copy_many (w : World) (dT sT ty elem : TypeId) (size : Nat) (b o dLen dCap : Nat) (a : Addr) (sLen sCap : Nat) (cs : List Value)
    (hu : P.underlying dT = some (.slice elem)) (hs : (P.info? elem).map (·.size) = some size) (hn : cs.length = Nat.min sLen dLen * size)
    (hsrc : ∀ j v, cs[j]? = some v → w.cell? (a.add j) = some v) (hc : ∀ j, j < cs.length → (w.cell? ⟨b, o + j, none⟩).isSome = true) (hf : ∀ j, j < cs.length → w.frozen? ⟨b, o + j, none⟩ = false) (h1 : ∀ v ∈ cs, v.oneCell' = true) :
    (Builtin.copy_ #[dT, sT] ty #[.slice (some ⟨b, o, none⟩) dLen dCap, .slice (some a) sLen sCap]).run P w = .ok (goInt (Nat.min sLen dLen)) (w.setCells b o cs) := by
  have hl := run_loadCells_list (P := P) w a cs hsrc
  have hst := run_storeCells_cells (P := P) b o cs 0 w (by simpa using hc) (by simpa using hf) h1
  cases hq : P.info? elem with
  | none => simp [hq] at hs
  | some i =>
    have hi : i.size = size := by simpa [hq] using hs
    simp [Builtin.copy_, run_underlying hu, Builtin.lenOf, Builtin.firstCells, sizeOf, typeInfo, hq, hi, ← hn, hl, hst]
end
theorem isSome_set (b : Nat) (vs : List Value) (o : Nat) (w : World) (h : ∀ j, j < vs.length → (w.cell? ⟨b, o + j, none⟩).isSome = true) (k : Nat) (hk : (w.cell? ⟨b, k, none⟩).isSome = true) : ((w.setCells b o vs).cell? ⟨b, k, none⟩).isSome = true := by
  by_cases hin : o ≤ k ∧ k < o + vs.length
  · have := World.cell?_setCells_in b vs o w h (k - o) (by omega)
    rw [show o + (k - o) = k by omega] at this
    rw [this]; rfl
  · rw [World.cell?_setCells_out b vs o w ⟨b, k, none⟩ (fun _ _ => by show k < o ∨ o + vs.length ≤ k; omega)]
    exact hk

/-- A row with room is a row of one element more, whose cells are the spare ones. -/
theorem own_wider {w : World} {e : TypeId} {size k c g : Nat} {xs : List Value} (h : w.ownsRow 0 e size (.slice (some ⟨g, 0, none⟩) k c) k xs) (hr : k + 1 ≤ c) :
    ∃ sp, sp.length = size ∧ w.ownsRow 0 e size (.slice (some ⟨g, 0, none⟩) (k + 1) c) (k + 1) (xs ++ sp) := by
  obtain ⟨h1, h2⟩ := h
  rcases h2 with ⟨e', _⟩ | ⟨g', cap, cur, e', hb, hh, hnc, hcm, hs, ht⟩
  · cases e'
  · simp only [Value.slice.injEq, Option.some.injEq, Addr.mk.injEq] at e'
    obtain ⟨⟨rfl, -, -⟩, -, rfl⟩ := e'
    have hle : (k + 1) * size ≤ cur.toList.length := by rw [Array.length_toList, hs]; exact Nat.mul_le_mul_right _ hr
    have hm : (k + 1) * size = k * size + size := by rw [Nat.add_mul]; omega
    refine ⟨(cur.toList.drop (k * size)).take size, by rw [List.length_take, List.length_drop]; omega, ?_, .inr ⟨g, c, cur, rfl, hb, hh, hr, hcm, hs, ?_⟩⟩
    · rw [List.length_append, List.length_take, List.length_drop, h1]; omega
    · rw [hm, List.take_add, ht]
/-- What stands from i on is moved up by one element, and the new one is written at i. -/
theorem own_ins {w : World} {e : TypeId} {size k c g i : Nat} {xs vs : List Value} (h : w.ownsRow 0 e size (.slice (some ⟨g, 0, none⟩) k c) k xs) (hr : k + 1 ≤ c) (hi : i < k) (hv : vs.length = size) :
    (putAll (putAll w g ((i + 1) * size) (xs.drop (i * size))) g (i * size) vs).ownsRow 0 e size (.slice (some ⟨g, 0, none⟩) (k + 1) c) (k + 1) (xs.take (i * size) ++ (vs ++ xs.drop (i * size))) := by
  obtain ⟨sp, hsp, h1⟩ := own_wider h hr
  have hl := h.1
  have hm : (i + 1) * size = i * size + size := by rw [Nat.add_mul]; omega
  have hik : (i + 1) * size ≤ k * size := Nat.mul_le_mul_right _ hi
  have e1 : xs ++ sp = xs.take ((i + 1) * size) ++ ((xs.drop ((i + 1) * size) ++ sp) ++ []) := by rw [List.append_nil, ← List.append_assoc, List.take_append_drop]
  rw [e1] at h1
  have h2 := own_put (g := g) (ds := xs.drop (i * size)) h1 (by simp only [List.length_append, List.length_drop]; omega) rfl
  rw [show (xs.take ((i + 1) * size)).length = (i + 1) * size by rw [List.length_take]; omega] at h2
  have e2 : xs.take ((i + 1) * size) = xs.take (i * size) ++ (xs.drop (i * size)).take size := by rw [hm, List.take_add]
  rw [e2, List.append_nil, List.append_assoc] at h2
  have h3 := own_put (g := g) (ds := vs) h2 (by rw [List.length_take, List.length_drop]; omega) rfl
  rw [show (xs.take (i * size)).length = i * size by rw [List.length_take]; omega] at h3
  exact h3

end Go.Proofs.Ytbmiefhgkagcgaa
