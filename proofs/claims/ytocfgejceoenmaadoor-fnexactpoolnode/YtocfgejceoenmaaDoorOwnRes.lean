/- append of an amount to a slice of the call's own. -/
import Derived.Test.YtocfgejceoenmaaDoorSumI
import Derived.Deep.AppendLies
import Derived.OwnWalk
import Derived.Laws.OwnMore
import Derived.Deep.RegionHeld3
import Derived.Deep.RegionLaw
import Derived.Deep.DrawnRows
namespace Go.Proofs.YtocfgejceoenmaaDoor
open Go.RowKit

/-- The cells of a list of amounts. -/
def resL (l : List RV) : List Value := l.flatMap fun x => [.int .i64 x.c, .int .i64 x.m, .int .i64 x.p]
theorem resL_append (a b : List RV) : resL (a ++ b) = resL a ++ resL b := by simp [resL]
theorem resL_cons (x : RV) (r : List RV) : resL (x :: r) = .int .i64 x.c :: .int .i64 x.m :: .int .i64 x.p :: resL r := rfl
theorem resL_at {l : List RV} {i : Nat} {x : RV} (h : l[i]? = some x) : (resL l)[i * 3]? = some (.int .i64 x.c) ∧ (resL l)[i * 3 + 1]? = some (.int .i64 x.m) ∧ (resL l)[i * 3 + 2]? = some (.int .i64 x.p) := by
  induction l generalizing i with
  | nil => simp at h
  | cons y r ih =>
    cases i with
    | zero => simp at h; subst h; exact ⟨rfl, rfl, rfl⟩
    | succ i =>
      simp at h
      have := ih h
      rw [resL_cons, show (i + 1) * 3 = i * 3 + 1 + 1 + 1 by omega]
      simpa using this
/-- The slice value v owns the amounts l, in blocks from base on. -/
def OwnsR (w : World) (base : Nat) (v : Value) (l : List RV) : Prop := w.ownsRow base 32 3 v l.length (resL l)
section
variable {w w' : World} {base : Nat} {v : Value} {l : List RV}
theorem OwnsR.alloc (h : OwnsR w base v l) (o : Obj) : OwnsR (w.alloc o) base v l := World.ownsRow.alloc h o
theorem OwnsR.nil (w : World) (base : Nat) : OwnsR w base (.slice none 0 0) [] := World.ownsRow_nil w base _ _
theorem OwnsR.below {B : Nat} (h : OwnsR w base v l) (hb : Below B w w') (hB : w.heap.size ≤ B) : OwnsR w' base v l := by
  obtain ⟨h1, h2⟩ := h
  refine ⟨h1, ?_⟩
  rcases h2 with h | ⟨g, cap, cur, hv, hg, hh, h⟩
  · exact .inl h
  · have hlt : g < w.heap.size := (Array.getElem?_eq_some_iff.1 hh).1
    exact .inr ⟨g, cap, cur, hv, hg, (hb.block g (by omega)).trans hh, h⟩
theorem OwnsR.form (h : OwnsR w base v l) : (v = .slice none 0 0 ∧ l = []) ∨ ∃ g cap cur, v = .slice (some ⟨g, 0, none⟩) l.length cap ∧ base ≤ g ∧ BlockIs w g 32 cur ∧ ∀ (j : Nat) (u : Value), (resL l)[j]? = some u → cur[j]? = some u := by
  obtain ⟨h1, h2⟩ := h
  rcases h2 with ⟨hv, hn⟩ | ⟨g, cap, cur, hv, hg, hh, hnc, _, hs, ht⟩
  · exact .inl ⟨hv, List.eq_nil_of_length_eq_zero hn⟩
  · refine .inr ⟨g, cap, cur, hv, hg, hh, fun j u hu => ?_⟩
    rw [← ht] at hu
    have hj : j < l.length * 3 := by
      have := (List.getElem?_eq_some_iff.1 hu).1
      rw [List.length_take] at this; omega
    rw [List.getElem?_take_of_lt hj] at hu
    simpa using hu
theorem OwnsR.sl (h : OwnsR w base v l) : ResSl w v l := by
  rcases h.form with ⟨rfl, rfl⟩ | ⟨g, cap, cur, rfl, _, hb, hc⟩
  · exact .inl ⟨rfl, _, _, rfl⟩
  · refine .inr ⟨g, 0, cap, rfl, hb.lt, fun i r hr => ?_⟩
    obtain ⟨h1, h2, h3⟩ := resL_at hr
    simp only [Nat.zero_add]
    exact ⟨(hb.cell _).trans (hc _ _ h1), (hb.cell _).trans (hc _ _ h2), (hb.cell _).trans (hc _ _ h3)⟩
theorem OwnsR.len (h : OwnsR w base v l) : ∃ A c, v = .slice A l.length c := by
  rcases h.form with ⟨rfl, rfl⟩ | ⟨g, cap, cur, rfl, _⟩
  · exact ⟨_, _, rfl⟩
  · exact ⟨_, _, rfl⟩
end
theorem infoR : (Tryd.prog.info? 32).map (fun i => (i.zero, i.size, i.bytes)) = some (some (.agg #[.int .i64 0, .int .i64 0, .int .i64 0]), 3, 24) := by kernel_rfl
end Go.Proofs.YtocfgejceoenmaaDoor
