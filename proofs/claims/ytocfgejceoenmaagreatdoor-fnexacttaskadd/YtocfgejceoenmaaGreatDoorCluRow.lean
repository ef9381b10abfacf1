/- A cluster as an argument, opened. -/
import Derived.Test.YtocfgejceoenmaaGreatDoorTaskRow
import Derived.Test.YtocfgejceoenmaaGreatDoorCluLaw
namespace Go.Proofs.YtocfgejceoenmaaGreatDoor
open Go.ChangeShapes Go.WideShapes Go.ChangeAt Go.RowKit Go.Joins

section
variable {H : Type} {enc : TypeId × Value → H} {W : World}
/-- A slice in a cell whose elements can be opened. -/
theorem open_gslice {α : Type} {R : World → α → List Value → Prop} {n : Nat} {T E : TypeId} (z : α) (hn : 0 < n) (hu : Tryz.prog.underlying T = some (.slice E)) (hcE : Tryz.prog.cellsOf E = n)
    (hop : ∀ (fuel : Nat) (cs : List Value) (x : DataW H × List MemPlace), DataW.trod enc Tryz.prog W 0 (fun _ => true) true fuel E cs = some x → ∃ t, R W t cs)
    {fuel : Nat} {v : Value} {x : DataW H × List MemPlace} (h : DataW.trod enc Tryz.prog W 0 (fun _ => true) true fuel T [v] = some x) : ∃ l : List α, l.length ≤ maxLen ∧ GSl R n W v l := by
  rcases Go.Deep.open_slice hu h with ⟨hcs, _⟩ | ⟨a, len, cap, m, n', D, Pl, hcs, hb, hl, hm, hmm, hx, hi⟩
  · simp at hcs
    subst hcs
    exact ⟨[], by simp, .inl ⟨rfl, _, _, rfl⟩⟩
  · simp at hcs
    subst hcs
    rw [if_pos rfl] at hmm
    subst hmm
    have hel : ∀ i, i < len → ∃ (t : α) (cs : List Value), R W t cs ∧ cs.length = n ∧ ∀ (j : Nat) (u : Value), cs[j]? = some u → W.cell? (a.add (i * n + j)) = some u := by
      intro i hin
      obtain ⟨cs', hc, ht⟩ := hi i (by omega)
      rw [hcE] at hc
      obtain ⟨t, hR⟩ := hop _ _ _ ht
      obtain ⟨_, hlen, hat⟩ := World.cells?_some hc
      refine ⟨t, cs', hR, hlen, fun j u hj => ?_⟩
      have hjn : j < n := by rw [← hlen]; exact (List.getElem?_eq_some_iff.1 hj).1
      have := hat j hjn
      rw [Go.Deep.add_add] at this
      exact this.trans hj
    obtain ⟨f, hf⟩ : ∃ f : Nat → α, ∀ i, i < len → ∃ cs : List Value, R W (f i) cs ∧ cs.length = n ∧ ∀ (j : Nat) (u : Value), cs[j]? = some u → W.cell? (a.add (i * n + j)) = some u := by
      classical
      refine ⟨fun i => if hi : i < len then Classical.choose (hel i hi) else z, fun i hi => ?_⟩
      simp only [dif_pos hi]
      exact Classical.choose_spec (hel i hi)
    refine ⟨(List.range len).map f, by simp; omega, ?_⟩
    rcases Nat.eq_zero_or_pos len with rfl | hp
    · exact .inl ⟨rfl, _, _, rfl⟩
    · obtain ⟨b, off, spot⟩ := a
      obtain ⟨cs0, _, hl0, h0⟩ := hf 0 hp
      obtain ⟨u0, hu0⟩ : ∃ u, cs0[0]? = some u := ⟨_, List.getElem?_eq_getElem (by omega)⟩
      have h0 := h0 0 u0 hu0
      have hspot : spot = none := by simpa [Addr.add] using World.cell?_spot h0
      subst hspot
      have hlt := World.block_lt_of_cell? _ _ h0
      refine .inr ⟨b, off, m, by simp, by simpa [Addr.add] using hlt, fun i r hr => ?_⟩
      have hi : i < len := by
        have := (List.getElem?_eq_some_iff.1 hr).1
        simpa using this
      have hri : f i = r := by simpa [hi] using hr
      obtain ⟨cs, hR, _, hc⟩ := hf i hi
      rw [hri] at hR
      refine ⟨cs, hR, fun j u hj => ?_⟩
      have := hc j u hj
      rw [add_plain, ← Nat.add_assoc] at this
      exact this
theorem Tryz.c_bind : Tryz.prog.cellsOf 68 = 2 := by kernel_rfl
theorem Tryz.c_tasks : Tryz.prog.cellsOf 22 = 1 := by kernel_rfl
theorem Tryz.c_nodes : Tryz.prog.cellsOf 23 = 1 := by kernel_rfl
theorem Tryz.c_binds : Tryz.prog.cellsOf 24 = 1 := by kernel_rfl
theorem Tryz.c_clu : Tryz.prog.cellsOf 26 = 3 := by kernel_rfl
set_option maxRecDepth 100000 in
/-- The cells of a binding. -/
theorem open_bindC {fuel : Nat} {cs : List Value} {x : DataW H × List MemPlace} (h : DataW.trod enc Tryz.prog W 0 (fun _ => true) true fuel 68 cs = some x) : ∃ t : BV, BindR W t cs := by
  obtain ⟨y0, y1, k, _, hlen, g0, g1⟩ := trod_struct2 Tryz.underlying68 h
  rw [Tryz.c_bind] at hlen
  match cs, hlen with
  | [c0, c1], _ =>
    obtain ⟨r0, e0, _, _⟩ := DataW.trod_int Tryz.underlying3 g0
    obtain ⟨r1, e1, _, _⟩ := DataW.trod_int Tryz.underlying3 g1
    simp [Tryz.c_int] at e0 e1
    subst e0 e1
    exact ⟨⟨r0, r1⟩, rfl⟩
set_option maxRecDepth 100000 in
/-- A cluster by value, opened. -/
theorem open_cluster {base : Nat} {v : Value} {d : DataW H} {p : List MemPlace} (hv : Value.okWide Tryz.prog W .any base 26 v) (h : DataW.Trod enc Tryz.prog W 0 (fun _ => true) true 26 v d p) :
    ∃ (c : CV) (a0 a1 a2 : Value), v = .agg #[a0, a1, a2] ∧ CluQ W c a0 a1 a2 := by
  obtain ⟨cs, rfl, _⟩ := okWide_struct Tryz.underlying26 hv
  obtain ⟨fuel, hf⟩ := h
  obtain ⟨r0, r1, r2, m, _, hl, g0, g1, g2⟩ := Go.Deep.trod_struct3 Tryz.underlying26 hf
  rw [Tryz.c_clu] at hl
  simp only [Value.cells] at hl g0 g1 g2
  obtain ⟨l⟩ := cs
  match l, hl with
  | [a, b, c], _ =>
    simp only [Tryz.c_tasks, Tryz.c_nodes, Tryz.c_binds] at g0 g1 g2
    simp at g0 g1 g2
    obtain ⟨l0, m0, s0⟩ := open_gslice (R := TaskQ) TV.zero (by omega) Tryz.underlying22 Tryz.c_task (fun fuel cs x h => by
      obtain ⟨t, v1, v2, e, h1, h2, h3, h4⟩ := open_taskC h
      exact ⟨t, v1, v2, e, h1, h2, h3, h4⟩) g0
    obtain ⟨l1, m1, s1⟩ := open_gslice (R := NodeQ) NV.zero (by omega) Tryz.underlying23 Tryz.c_node (fun fuel cs x h => by
      obtain ⟨t, v1, v2, e, h1, h2, h3, h4⟩ := open_nodeC h
      exact ⟨t, v1, v2, e, h1, h2, h3, h4⟩) g1
    obtain ⟨l2, m2, s2⟩ := open_gslice (R := BindR) BV.zero (by omega) Tryz.underlying24 Tryz.c_bind (fun fuel cs x h => open_bindC h) g2
    exact ⟨⟨l0, l1, l2⟩, a, b, c, rfl, s0, s1, s2, m0, m1, m2⟩
end
end Go.Proofs.YtocfgejceoenmaaGreatDoor
