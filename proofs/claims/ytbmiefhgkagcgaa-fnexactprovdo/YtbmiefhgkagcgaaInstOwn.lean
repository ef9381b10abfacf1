/- append of an instance to a slice of the call's own. -/
import Derived.Test.YtbmiefhgkagcgaaInstSl
import Derived.Deep.AppendLies
import Derived.OwnWalk
import Derived.Laws.OwnMore
import Derived.Deep.RegionHeld3
import Derived.Deep.RegionLaw
import Derived.Deep.DrawnRows
namespace Go.Proofs.Ytbmiefhgkagcgaa
open Go.RowKit

/-- The cells of a list of instances. -/
def inL (l : List RV) : List Value := l.flatMap fun x => [.int .i64 x.c, .int .i64 x.m, .int .i64 x.p]
theorem inL_append (a b : List RV) : inL (a ++ b) = inL a ++ inL b := by simp [inL]
theorem inL_cons (x : RV) (r : List RV) : inL (x :: r) = .int .i64 x.c :: .int .i64 x.m :: .int .i64 x.p :: inL r := rfl
theorem inL_at {l : List RV} {i : Nat} {x : RV} (h : l[i]? = some x) : (inL l)[i * 3]? = some (.int .i64 x.c) ∧ (inL l)[i * 3 + 1]? = some (.int .i64 x.m) ∧ (inL l)[i * 3 + 2]? = some (.int .i64 x.p) := by
  induction l generalizing i with
  | nil => simp at h
  | cons y r ih =>
    cases i with
    | zero => simp at h; subst h; exact ⟨rfl, rfl, rfl⟩
    | succ i =>
      simp at h
      have := ih h
      rw [inL_cons, show (i + 1) * 3 = i * 3 + 1 + 1 + 1 by omega]
      simpa using this
/-- The slice value v owns the instances l, in blocks from base on. -/
def OwnsN (w : World) (base : Nat) (v : Value) (l : List RV) : Prop := w.ownsRow base 38 3 v l.length (inL l)
section
variable {w w' : World} {base : Nat} {v : Value} {l : List RV}
theorem OwnsN.alloc (h : OwnsN w base v l) (o : Obj) : OwnsN (w.alloc o) base v l := World.ownsRow.alloc h o
theorem OwnsN.nil (w : World) (base : Nat) : OwnsN w base (.slice none 0 0) [] := World.ownsRow_nil w base _ _
theorem OwnsN.below {B : Nat} (h : OwnsN w base v l) (hb : Below B w w') (hB : w.heap.size ≤ B) : OwnsN w' base v l := by
  obtain ⟨h1, h2⟩ := h
  refine ⟨h1, ?_⟩
  rcases h2 with h | ⟨g, cap, cur, hv, hg, hh, h⟩
  · exact .inl h
  · have hlt : g < w.heap.size := (Array.getElem?_eq_some_iff.1 hh).1
    exact .inr ⟨g, cap, cur, hv, hg, (hb.block g (by omega)).trans hh, h⟩
theorem OwnsN.form (h : OwnsN w base v l) : (v = .slice none 0 0 ∧ l = []) ∨ ∃ g cap cur, v = .slice (some ⟨g, 0, none⟩) l.length cap ∧ base ≤ g ∧ BlockIs w g 38 cur ∧ l.length * 3 ≤ cur.size ∧ ∀ (j : Nat) (u : Value), (inL l)[j]? = some u → cur[j]? = some u := by
  obtain ⟨h1, h2⟩ := h
  rcases h2 with ⟨hv, hn⟩ | ⟨g, cap, cur, hv, hg, hh, hnc, _, hs, ht⟩
  · exact .inl ⟨hv, List.eq_nil_of_length_eq_zero hn⟩
  · refine .inr ⟨g, cap, cur, hv, hg, hh, by rw [hs]; exact Nat.mul_le_mul_right 3 hnc, fun j u hu => ?_⟩
    rw [← ht] at hu
    have hj : j < l.length * 3 := by
      have := (List.getElem?_eq_some_iff.1 hu).1
      rw [List.length_take] at this; omega
    rw [List.getElem?_take_of_lt hj] at hu
    simpa using hu
theorem OwnsN.sl (h : OwnsN w base v l) : InSl w v l := by
  rcases h.form with ⟨rfl, rfl⟩ | ⟨g, cap, cur, rfl, _, hb, _, hc⟩
  · exact .inl ⟨rfl, _, _, rfl⟩
  · refine .inr ⟨g, 0, cap, rfl, hb.lt, fun i r hr => ?_⟩
    obtain ⟨h1, h2, h3⟩ := inL_at hr
    simp only [Nat.zero_add]
    exact ⟨(hb.cell _).trans (hc _ _ h1), (hb.cell _).trans (hc _ _ h2), (hb.cell _).trans (hc _ _ h3)⟩
theorem OwnsN.len (h : OwnsN w base v l) : ∃ A c, v = .slice A l.length c := by
  rcases h.form with ⟨rfl, rfl⟩ | ⟨g, cap, cur, rfl, _⟩
  · exact ⟨_, _, rfl⟩
  · exact ⟨_, _, rfl⟩
end
theorem infoN : (Try.prog.info? 38).map (fun i => (i.zero, i.size, i.bytes)) = some (some (.agg #[.int .i64 0, .int .i64 0, .int .i64 0]), 3, 24) := by kernel_rfl
theorem wpList_append_inst {ops : Array Oper} {rest : List Oper} {o : Oper} {a : Act} {Q : Exit → Act → World → Prop} (w : World) (hgd : o.guard = none) (s x : Operand)
    (ho : o.op = .call { callee := .builtin .append, args := #[s, x], argTypes := #[24, 24] })
    (base : Nat) (v : Value) (l : List RV) (r : RV) (g : Nat) (hs : a.eval s = v) (hown : OwnsN w base v l) (hx : a.eval x = .slice (some ⟨g, 0, none⟩) 1 1)
    (h0 : w.cell? ⟨g, 0, none⟩ = some (.int .i64 r.c)) (h1 : w.cell? ⟨g, 1, none⟩ = some (.int .i64 r.m)) (h2 : w.cell? ⟨g, 2, none⟩ = some (.int .i64 r.p)) (hl : l.length ≤ 2000000) (hbase : base ≤ w.heap.size)
    (h : ∀ v' w', OwnsN w' base v' (l ++ [r]) → Below base w w' → wpList Try.prog ops Q rest (a.put o.dst v') w') : wpList Try.prog ops Q (o :: rest) a w := by
  obtain ⟨i0, hi0, hz0, hz1, hz2⟩ := info_parts infoN
  refine wpList_append_own w hgd s x 24 ho base 38 i0 _ 3 24 Try.underlying24 hi0 hz0 hz1 hz2 rfl (by omega) v l.length (inL l) hs hown ⟨g, 0, none⟩ 1 1 [.int .i64 r.c, .int .i64 r.m, .int .i64 r.p] hx rfl ?_ ?_ (by simp only [maxLen]; omega) (by omega) hbase ?_
  · intro j u hj
    match j, hj with
    | 0, hj => simp at hj; subst hj; simpa [Addr.add] using h0
    | 1, hj => simp at hj; subst hj; simpa [Addr.add] using h1
    | 2, hj => simp at hj; subst hj; simpa [Addr.add] using h2
  · intro u hu
    simp at hu
    rcases hu with rfl | rfl | rfl <;> rfl
  · intro v' w' hown' hgrow _
    refine h v' w' ?_ ((Below.refl _ _).grown hgrow hbase (fun k hk => (World.ownsRow.lt hown k hk).1))
    unfold OwnsN
    rw [inL_append, List.length_append]
    exact hown'
/-- append of an instance, as one step of a region that draws. -/
theorem step_append_inst {ops : Array Oper} {o : Oper} {a : Act} {K : Act → World → Prop} {Q : Exit → Act → World → Prop} {E : Prop} (w : World) (hgd : o.guard = none) (s x : Operand)
    (ho : o.op = .call { callee := .builtin .append, args := #[s, x], argTypes := #[24, 24] })
    (base : Nat) (v : Value) (l : List RV) (r : RV) (g : Nat) (hs : a.eval s = v) (hown : OwnsN w base v l) (hx : a.eval x = .slice (some ⟨g, 0, none⟩) 1 1)
    (h0 : w.cell? ⟨g, 0, none⟩ = some (.int .i64 r.c)) (h1 : w.cell? ⟨g, 1, none⟩ = some (.int .i64 r.m)) (h2 : w.cell? ⟨g, 2, none⟩ = some (.int .i64 r.p)) (hl : l.length ≤ 2000000) (hbase : base ≤ w.heap.size)
    (h : ∀ v' w', OwnsN w' base v' (l ++ [r]) → Below base w w' → K (a.put o.dst v') w') : if Region.wanted o (yielded ops a.tmps) = true then Oper.wp Try.prog o a w K Q else E := by
  have hw : Region.wanted o (yielded ops a.tmps) = true := by simp [Region.wanted, hgd]
  rw [if_pos hw]
  obtain ⟨i0, hi0, hz0, hz1, hz2⟩ := info_parts infoN
  refine wp_append_own w s x 24 ho base 38 i0 _ 3 24 Try.underlying24 hi0 hz0 hz1 hz2 rfl (by omega) v l.length (inL l) hs hown ⟨g, 0, none⟩ 1 1 [.int .i64 r.c, .int .i64 r.m, .int .i64 r.p] hx rfl ?_ ?_ (by simp only [maxLen]; omega) (by omega) hbase ?_
  · intro j u hj
    match j, hj with
    | 0, hj => simp at hj; subst hj; simpa [Addr.add] using h0
    | 1, hj => simp at hj; subst hj; simpa [Addr.add] using h1
    | 2, hj => simp at hj; subst hj; simpa [Addr.add] using h2
  · intro u hu
    simp at hu
    rcases hu with rfl | rfl | rfl <;> rfl
  · intro v' w' hown' hgrow _
    refine h v' w' ?_ ((Below.refl _ _).grown hgrow hbase (fun k hk => (World.ownsRow.lt hown k hk).1))
    unfold OwnsN
    rw [inL_append, List.length_append]
    exact hown'
theorem inL_length (l : List RV) : (inL l).length = l.length * 3 := by
  induction l with
  | nil => rfl
  | cons x r ih => rw [inL_cons]; simp [ih]; omega
/-- What has been copied whole is owned. -/
theorem CopyIn.own {w wr : World} {g : Nat} {l : List RV} (h : CopyIn w g l l.length wr) (hm : l.length ≤ 2000000) {base : Nat} (hb : base ≤ g) : OwnsN wr base (.slice (some ⟨g, 0, none⟩) l.length l.length) l := by
  obtain ⟨cs, hblk, hs, hc, _⟩ := h
  refine ⟨inL_length l, .inr ⟨g, l.length, cs, rfl, hb, hblk, Nat.le_refl _, by unfold maxLen; omega, hs, ?_⟩⟩
  refine List.ext_getElem? fun j => ?_
  rw [List.take_of_length_le (by rw [Array.length_toList]; omega), Array.getElem?_toList]
  by_cases hj : j < l.length * 3
  · obtain ⟨r, hr⟩ : ∃ r, l[j / 3]? = some r := ⟨_, List.getElem?_eq_getElem (by omega)⟩
    obtain ⟨h1, h2, h3⟩ := hc (j / 3) r (by omega) hr
    obtain ⟨k1, k2, k3⟩ := inL_at hr
    rcases (show j = j / 3 * 3 ∨ j = j / 3 * 3 + 1 ∨ j = j / 3 * 3 + 2 by omega) with e | e | e
    · rw [← e] at h1 k1; rw [h1, k1]
    · rw [← e] at h2 k2; rw [h2, k2]
    · rw [← e] at h3 k3; rw [h3, k3]
  · rw [Array.getElem?_eq_none (by omega), List.getElem?_eq_none (by rw [inL_length]; omega)]
end Go.Proofs.Ytbmiefhgkagcgaa
