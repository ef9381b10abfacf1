/- A provider by value, opened. -/
import Derived.Test.YtbmiefhgkagcgaaRowBase
import Derived.Test.YtbmiefhgkagcgaaResPure
import Derived.Test.YtbmiefhgkagcgaaInstSl
import Derived.Deep.Slices
import Derived.Deep.Fields
import Derived.Deep.Strs
import Derived.ChangeSame
namespace Go.Proofs.Ytbmiefhgkagcgaa
open Go.ChangeShapes Go.WideShapes Go.ChangeAt Go.RowKit Go.Joins

theorem Try.cellsInst : Try.prog.cellsOf 86 = 3 := by kernel_rfl
section
variable {H : Type} {enc : TypeId × Value → H} {W : World}
set_option maxRecDepth 100000 in
theorem open_instC {fuel : Nat} {v : Value} {x : DataW H × List MemPlace} (h : DataW.trod enc Try.prog W 0 (fun _ => true) true fuel 39 [v] = some x) :
    ∃ A n c, v = .slice A n c ∧ n ≤ maxLen ∧ ∃ l : List RV, l.length = n ∧ InSl W v l := by
  rcases Go.Deep.open_slice Try.underlying39 h with ⟨hcs, _⟩ | ⟨a, n, m, m', n', D, Pl, hcs, hb, hl, hm, hmm, hx, hi⟩
  · simp at hcs
    subst hcs
    exact ⟨none, 0, 0, rfl, by unfold maxLen; omega, [], rfl, .inl ⟨rfl, _, _, rfl⟩⟩
  · simp at hcs
    subst hcs
    rw [if_pos rfl] at hmm
    subst hmm
    have hel : ∀ i, i < n → ∃ r : RV, W.cell? (a.add (i * 3)) = some (.int .i64 r.c) ∧ W.cell? (a.add (i * 3 + 1)) = some (.int .i64 r.m) ∧ W.cell? (a.add (i * 3 + 2)) = some (.int .i64 r.p) := by
      intro i hin
      obtain ⟨cs', hc, ht⟩ := hi i (by omega)
      rw [Try.cellsInst] at hc
      obtain ⟨y0, y1, y2, k, _, hlen, g0, g1, g2⟩ := Go.Deep.trod_struct3 Try.underlying86 ht
      rw [Try.cellsInst] at hlen
      obtain ⟨_, _, hat⟩ := World.cells?_some hc
      match cs', hlen with
      | [c0, c1, c2], _ =>
        obtain ⟨r0, e0, _, _⟩ := DataW.trod_int Try.underlying3 g0
        obtain ⟨r1, e1, _, _⟩ := DataW.trod_int Try.underlying3 g1
        obtain ⟨r2, e2, _, _⟩ := DataW.trod_int Try.underlying3 g2
        have k3 : Try.prog.cellsOf 3 = 1 := by kernel_rfl
        simp [k3] at e0 e1 e2
        subst e0 e1 e2
        have a0 := hat 0 (by omega)
        have a1 := hat 1 (by omega)
        have a2 := hat 2 (by omega)
        rw [Go.Deep.add_add] at a0 a1 a2
        exact ⟨⟨r0, r1, r2⟩, by simpa using a0, by simpa using a1, by simpa using a2⟩
    have hne : Nonempty RV := ⟨RV.zero⟩
    obtain ⟨f, hf⟩ : ∃ f : Nat → RV, ∀ i, i < n → W.cell? (a.add (i * 3)) = some (.int .i64 (f i).c) ∧ W.cell? (a.add (i * 3 + 1)) = some (.int .i64 (f i).m) ∧ W.cell? (a.add (i * 3 + 2)) = some (.int .i64 (f i).p) := by
      classical
      refine ⟨fun i => if hi : i < n then Classical.choose (hel i hi) else RV.zero, fun i hi => ?_⟩
      simp only [dif_pos hi]
      exact Classical.choose_spec (hel i hi)
    refine ⟨_, n, _, rfl, by omega, (List.range n).map f, by simp, ?_⟩
    rcases Nat.eq_zero_or_pos n with rfl | hp
    · exact .inl ⟨rfl, _, _, rfl⟩
    · obtain ⟨b, off, spot⟩ := a
      have h0 := (hf 0 hp).1
      have hspot : spot = none := by simpa [Addr.add] using World.cell?_spot h0
      subst hspot
      have hlt := World.block_lt_of_cell? _ _ h0
      refine .inr ⟨b, off, m', by simp, by simpa [Addr.add] using hlt, fun i r hr => ?_⟩
      have hi : i < n := by
        have := (List.getElem?_eq_some_iff.1 hr).1
        simpa using this
      have hri : f i = r := by simpa [hi] using hr
      obtain ⟨h1, h2, h3⟩ := hf i hi
      rw [hri] at h1 h2 h3
      rw [add_plain] at h1 h2 h3
      exact ⟨h1, h2, h3⟩
theorem Try.cellsProv : Try.prog.cellsOf 41 = 2 := by kernel_rfl
set_option maxRecDepth 100000 in
theorem open_prov {base : Nat} {v : Value} {d : DataW H} {p : List MemPlace} (hv : Value.okWide Try.prog W .any base 41 v) (h : DataW.Trod enc Try.prog W 0 (fun _ => true) true 41 v d p) :
    ∃ (ep : Int) (x : Value) (l : List RV), v = .agg #[.int .i64 ep, x] ∧ (Lit.int .i64 ep).wf = true ∧ InSl W x l ∧ l.length ≤ maxLen := by
  obtain ⟨c0, c1, y0, y1, m, rfl, rfl, rfl, hy0, hy1⟩ := open_agg2 Try.underlying41 (by kernel_rfl) Try.cellsProv hv h
  obtain ⟨a, e0, rfl, wa⟩ := DataW.trod_int Try.underlying3 hy0
  simp at e0
  subst e0
  obtain ⟨A, n, c, rfl, hn, l, hl, hsl⟩ := open_instC hy1
  exact ⟨a, _, l, rfl, wa, hsl, by omega⟩
end
end Go.Proofs.Ytbmiefhgkagcgaa
