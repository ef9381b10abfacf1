/- A map of items by their Keys in memory: 'MapIs w b n l' says that block b is a map of at most n entries, just the items l. -/
import Derived.Test.YtjammpcfihlfaaaStoreP
import Derived.Test.YtjammpcfihlfaaaBase
import Derived.Maps.OwnSet
import Derived.Lib.SlKeysI
namespace Go.Proofs.Ytjammpcfihlfaaa
open Go.RowKit Go.Maps

def itemD (r : RV) : DataW Unit := .agg [.lit (.int .i64 r.c), .lit (.int .i64 r.m), .lit (.int .i64 r.p)]
theorem itemD_inj {r s : RV} (h : itemD r = itemD s) : r = s := by
  simp only [itemD, DataW.agg.injEq, List.cons.injEq, DataW.lit.injEq, Lit.int.injEq, true_and, and_true] at h
  cases r; cases s
  simp_all
/-- How an item reads. -/
def itemElem : Value → Option (DataW Unit × List MemPlace)
  | .agg cs => match cs.toList with
    | [.int .i64 a, .int .i64 b, .int .i64 c] => some (itemD ⟨a, b, c⟩, [])
    | _ => none
  | _ => none
theorem itemElem_mk (r : RV) : itemElem (.agg #[.int .i64 r.c, .int .i64 r.m, .int .i64 r.p]) = some (itemD r, []) := rfl
theorem itemElem_inv {v : Value} {z : DataW Unit × List MemPlace} (h : itemElem v = some z) : ∃ r : RV, v = .agg #[.int .i64 r.c, .int .i64 r.m, .int .i64 r.p] ∧ z = (itemD r, []) := by
  unfold itemElem at h
  split at h
  · rename_i cs
    split at h
    · rename_i a b c hcs
      refine ⟨⟨a, b, c⟩, ?_, (Option.some.inj h).symm⟩
      rw [← Array.toArray_toList (xs := cs), hcs]
    · cases h
  · cases h
theorem keyedI : Keyed Try.prog 3 := int_keyed Try.underlying3
theorem zeroItem (w : World) : (zeroValue 36).run Try.prog w = .ok (.agg #[.int .i64 0, .int .i64 0, .int .i64 0]) w := by kernel_rfl
abbrev Fits (k : Int) : Prop := (Lit.int .i64 k).wf = true
theorem fits_of {k : Int} (h1 : -9223372036854775808 ≤ k) (h2 : k ≤ 9223372036854775807) : Fits k := by
  have e1 : IntKind.i64.min = -9223372036854775808 := by decide
  have e2 : IntKind.i64.max = 9223372036854775807 := by decide
  simp [Fits, Lit.wf, e1, e2]
  omega

def MapIs (w : World) (b n : Nat) (l : List RV) : Prop := ∃ D : DataW Unit, w.ownsMap Try.prog 3 itemElem b n D ∧ (∀ k, has D (.int .i64 k) = l.any (fun r => r.c == k)) ∧ (∀ r ∈ l, ∀ z, D.atKey (.int .i64 r.c) z = itemD r) ∧ Rise l
section
variable {w w' : World} {b n : Nat} {l : List RV}
theorem MapIs.lt (h : MapIs w b n l) : b < w.heap.size := by obtain ⟨D, h, _⟩ := h; exact h.lt
theorem MapIs.rise (h : MapIs w b n l) : Rise l := by obtain ⟨D, _, _, _, h⟩ := h; exact h
theorem MapIs.below {B : Nat} (h : MapIs w b n l) (hb : Below B w w') (hB : b < B) : MapIs w' b n l := by
  obtain ⟨D, ⟨es, clock, hh, h1⟩, h2⟩ := h
  exact ⟨D, ⟨es, clock, (hb.block b hB).trans hh, h1⟩, h2⟩
theorem MapIs.alloc (h : MapIs w b n l) (o : Obj) : MapIs (w.alloc o) b n l := by
  obtain ⟨D, h1, h2⟩ := h
  exact ⟨D, h1.alloc o, h2⟩
theorem MapIs.setCell (h : MapIs w b n l) {a : Addr} (ha : b ≠ a.block) (u : Value) : MapIs (w.setCell a u) b n l := by
  obtain ⟨D, h1, h2⟩ := h
  exact ⟨D, h1.setCell ha u, h2⟩
theorem MapIs.made (w : World) : MapIs (w.alloc (.map #[] 0)) w.heap.size 0 [] :=
  ⟨.map [], World.ownsMap_made w _ _ _, fun k => rfl, ⟨fun r hr => absurd hr (by simp), List.Pairwise.nil⟩⟩
theorem MapIs.look (h : MapIs w b n l) {k : Int} (hk : Fits k) : (Instr.lookup 77 (.map (some b)) (.int .i64 k) true).run Try.prog w = .ok (.tuple #[.agg #[.int .i64 (itemAt l k).1.c, .int .i64 (itemAt l k).1.m, .int .i64 (itemAt l k).1.p], .bool (itemAt l k).2]) w := by
  obtain ⟨D, hown, h1, h2, h3⟩ := h
  obtain ⟨v, ps, hrun, hv⟩ := hown.look_ok keyedI Try.underlying77 (zeroItem w) (itemElem_mk RV.zero) (keyOf_int_mk Try.underlying3 hk)
  rw [hrun, h1, itemAt_has]
  obtain ⟨r, rfl, hr⟩ := itemElem_inv hv
  have e := congrArg Prod.fst hr
  dsimp only at e
  suffices r = (itemAt l k).1 by subst this; rfl
  cases ha : l.any (fun r => r.c == k)
  · rw [itemAt_no ha]
    rw [atKey_of_not_has ((h1 k).trans ha)] at e
    exact (itemD_inj e).symm
  · obtain ⟨m1, m2⟩ := itemAt_yes ha
    have := h2 _ m1 (itemD RV.zero)
    rw [m2] at this
    rw [this] at e
    exact (itemD_inj e).symm
theorem MapIs.look1 (h : MapIs w b n l) {r : RV} (hr : r ∈ l) (hk : Fits r.c) : (Instr.lookup 77 (.map (some b)) (.int .i64 r.c) false).run Try.prog w = .ok (.agg #[.int .i64 r.c, .int .i64 r.m, .int .i64 r.p]) w := by
  obtain ⟨D, hown, h1, h2, h3⟩ := h
  obtain ⟨v, ps, hrun, hv⟩ := hown.lookup keyedI Try.underlying77 (zeroItem w) (itemElem_mk RV.zero) (keyOf_int_mk Try.underlying3 hk)
  obtain ⟨s, rfl, hs⟩ := itemElem_inv hv
  have e := congrArg Prod.fst hs
  dsimp only at e
  rw [h2 _ hr] at e
  rw [hrun, itemD_inj e]
theorem look_nilmap (k : Int) (hk : Fits k) (w : World) : (Instr.lookup 77 (.map none) (.int .i64 k) true).run Try.prog w = .ok (.tuple #[.agg #[.int .i64 0, .int .i64 0, .int .i64 0], .bool false]) w := by
  rw [Maps.look_nil true keyedI Try.underlying77 (zeroItem w) (keyOf_int_mk Try.underlying3 hk)]; rfl
theorem MapIs.keys (h : MapIs w b n l) : ∃ D : DataW Unit, w.ownsMap Try.prog 3 itemElem b n D ∧ (l.map (·.c)).Perm (intKeys D) ∧ Maps.size D = l.length := by
  obtain ⟨D, hown, h1, h2, h3⟩ := h
  have hp : (l.map (·.c)).Perm (intKeys D) := by
    refine CollectedI.perm (left := fun _ => false) ⟨?_, fun x => ?_⟩ hown keyedI Try.underlying3 (fun _ => rfl)
    · exact List.pairwise_map.2 (h3.imp fun h => Int.ne_of_lt h)
    · rw [h1, List.any_eq_true, List.mem_map]
      simp only [and_true]
      constructor
      · rintro ⟨r, hr, rfl⟩; exact ⟨r, hr, by simp⟩
      · rintro ⟨r, hr, hx⟩; exact ⟨r, hr, by simpa using hx⟩
  refine ⟨D, hown, hp, ?_⟩
  have e := hp.length_eq
  rw [List.length_map] at e
  obtain ⟨es, rfl⟩ := hown.isMap
  rw [e]
  simp [Maps.size, intKeys]
theorem MapIs.len (h : MapIs w b n l) (ty : TypeId) : (Builtin.len_ #[77] ty #[.map (some b)]).run Try.prog w = .ok (.int .i64 l.length) w := by
  obtain ⟨D, hown, _, hs⟩ := h.keys
  rw [hown.len Try.underlying77 ty, hs]
theorem MapIs.put (h : MapIs w b n l) (hn : n < 1000) (r : RV) (hk : Fits r.c) : ∃ w', (Instr.mapUpdate 77 (.map (some b)) (.int .i64 r.c) (.agg #[.int .i64 r.c, .int .i64 r.m, .int .i64 r.p])).run Try.prog w = .ok () w' ∧ MapIs w' b (n + 1) (itemPut r l) ∧ w.grownBy w' (some b) := by
  obtain ⟨D, hown, h1, h2, h3⟩ := h
  obtain ⟨w', hrun, hown', hg⟩ := hown.update keyedI Try.underlying77 (by unfold maxLen; omega) (keyOf_int_mk Try.underlying3 hk) (itemElem_mk r)
  have hne : ∀ {k : Int}, k ≠ r.c → (Lit.int .i64 k) ≠ (Lit.int .i64 r.c) := fun h e => h (by injection e)
  refine ⟨w', hrun, ⟨_, hown', fun k => ?_, fun x hx z => ?_, itemPut_rise h3⟩, hg⟩
  · rw [itemPut_any h3]
    by_cases hk : k = r.c
    · subst hk; rw [if_pos rfl]; exact has_put_same hown.isMap (show WideAt.IsKeyLit (Lit.int .i64 r.c) from trivial) _
    · rw [if_neg hk, has_put_other (hne hk), h1]
  · rcases (itemPut_mem h3).1 hx with rfl | ⟨hx, hc⟩
    · exact atKey_put_same hown.isMap (show WideAt.IsKeyLit (Lit.int .i64 x.c) from trivial) _ _
    · rw [atKey_put_other (hne hc)]; exact h2 x hx z
theorem MapIs.del (h : MapIs w b n l) (k : Int) (hk : Fits k) (ty : TypeId) : ∃ w', (Builtin.delete_ #[77, 3] ty #[.map (some b), .int .i64 k]).run Try.prog w = .ok (.tuple #[]) w' ∧ MapIs w' b n (itemDel k l) ∧ w.grownBy w' (some b) := by
  obtain ⟨D, hown, h1, h2, h3⟩ := h
  obtain ⟨w', hrun, hown', hg⟩ := hown.drop keyedI Try.underlying77 (keyOf_int_mk Try.underlying3 hk) ty
  have hne : ∀ {k' : Int}, k' ≠ k → (Lit.int .i64 k') ≠ (Lit.int .i64 k) := fun h e => h (by injection e)
  refine ⟨w', hrun, ⟨_, hown', fun k' => ?_, fun x hx z => ?_, itemDel_rise h3⟩, hg.grown⟩
  · rw [itemDel_any]
    by_cases hk : k' = k
    · subst hk; rw [if_pos rfl]; exact has_del_same
    · rw [if_neg hk, has_del_other (hne hk), h1]
  · obtain ⟨hx, hc⟩ := List.mem_filter.1 hx
    rw [atKey_del_other (hne (by simpa using hc))]; exact h2 x hx z
end
/-- 'm[it.Key] = it' at the operation. -/
theorem wpList_put_item {ops : Array Oper} {rest : List Oper} {o : Oper} {a : Act} {Q : Exit → Act → World → Prop} (w : World) (hg : o.guard = none) (m x v : Operand) (hop : o.op = Op.mapUpdate 77 m x v)
    (b n : Nat) (l : List RV) (r : RV) (hm : a.eval m = .map (some b)) (hx : a.eval x = .int .i64 r.c) (hv : a.eval v = .agg #[.int .i64 r.c, .int .i64 r.m, .int .i64 r.p]) (hown : MapIs w b n l) (hn : n < 1000) (hk : Fits r.c)
    (hK : ∀ w', MapIs w' b (n + 1) (itemPut r l) → w.grownBy w' (some b) → wpList Try.prog ops Q rest (a.put o.dst undef) w') : wpList Try.prog ops Q (o :: rest) a w := by
  refine wpList_plain hg fun K' hK' => ?_
  obtain ⟨w', hrun, r1, r2⟩ := hown.put hn r hk
  unfold Oper.wp
  simp [execOp, hop, hm, hx, hv, hrun, Result.andThen]
  exact hK' _ _ (hK w' r1 r2)
theorem wpList_del_item {ops : Array Oper} {rest : List Oper} {o : Oper} {a : Act} {Q : Exit → Act → World → Prop} (w : World) (hg : o.guard = none) (m x : Operand) (hop : o.op = Op.call { callee := Callee.builtin Builtin.delete, args := #[m, x], argTypes := #[77, 3] })
    (b n : Nat) (l : List RV) (k : Int) (hm : a.eval m = .map (some b)) (hx : a.eval x = .int .i64 k) (hown : MapIs w b n l) (hk : Fits k)
    (hK : ∀ w', MapIs w' b n (itemDel k l) → w.grownBy w' (some b) → wpList Try.prog ops Q rest (a.put o.dst (.tuple #[])) w') : wpList Try.prog ops Q (o :: rest) a w := by
  refine wpList_plain hg fun K' hK' => ?_
  obtain ⟨w', hrun, r1, r2⟩ := hown.del k hk o.type
  unfold Oper.wp
  simp [execOp, hop, resolve, invoke, builtin, hm, hx, hrun, Result.andThen]
  exact hK' _ _ (hK w' r1 r2)
end Go.Proofs.Ytjammpcfihlfaaa
