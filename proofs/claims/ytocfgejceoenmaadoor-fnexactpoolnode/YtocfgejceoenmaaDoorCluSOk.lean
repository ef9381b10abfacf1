/- The contract of the model's ClusterOk. -/
import Derived.Test.YtocfgejceoenmaaDoorCluS
import Derived.Test.YtocfgejceoenmaaDoorRegHeld
namespace Go.Proofs.YtocfgejceoenmaaDoor

/-- The Ids of the first k tasks, the last first. -/
def seenK (l : List TV) (k : Nat) : List Int := ((l.take k).map TV.id).reverse
theorem seenK_zero (l : List TV) : seenK l 0 = [] := by simp [seenK]
theorem seenK_succ {l : List TV} {k : Nat} {t : TV} (h : l[k]? = some t) : seenK l (k + 1) = t.id :: seenK l k := by simp [seenK, take_at h]
theorem seenK_no {l : List TV} {k : Nat} {t : TV} (h : l[k]? = some t) (e : idxBy TV.id l t.id = k) : (seenK l k).contains t.id = false := by
  have h1 := (idxBy_at h).1 e
  cases hc : (seenK l k).contains t.id with
  | false => rfl
  | true =>
    rw [List.contains_iff_mem, seenK, List.mem_reverse, List.mem_map] at hc
    obtain ⟨y, hy, e⟩ := hc
    exact absurd e (h1 y hy)
theorem seenK_yes {l : List TV} {k : Nat} {t : TV} (h : l[k]? = some t) (e : idxBy TV.id l t.id ≠ k) : (seenK l k).contains t.id = true := by
  cases hc : (seenK l k).contains t.id with
  | true => rfl
  | false =>
    refine absurd ((idxBy_at h).2 fun y hy e' => ?_) e
    have : (seenK l k).contains t.id = true := by
      rw [List.contains_iff_mem, seenK, List.mem_reverse, List.mem_map]
      exact ⟨y, hy, e'⟩
    rw [hc] at this; cases this
theorem bindOk_task {c : CV} {b : BV} (h : bindOk c b = true) : ∃ t, fstBy TV.id c.tasks b.task = some t ∧ 0 < b.task := by
  unfold bindOk at h
  split at h
  · rename_i t n h1 h2
    refine ⟨t, h1, ?_⟩
    simp only [canHost, Bool.and_eq_true] at h
    have := TV.ok_id h.1.2
    have := fstBy_key h1
    omega
  · cases h
theorem bindsFrom_all {c : CV} {p : Int} {l : List BV} (h : bindsFrom c p l = true) : ∀ b ∈ l, ∃ t, fstBy TV.id c.tasks b.task = some t := by
  induction l generalizing p with
  | nil => intro b hb; cases hb
  | cons x r ih =>
    simp only [bindsFrom, Bool.and_eq_true] at h
    intro b hb
    rcases List.mem_cons.1 hb with rfl | hb
    · obtain ⟨t, ht, _⟩ := bindOk_task h.1.2; exact ⟨t, ht⟩
    · exact ih h.2 b hb
/-- The first bind's task is positive where the bind is right. -/
theorem bindsFrom_first {c : CV} {b : BV} {r : List BV} (h : bindOk c b = true) : bindsFrom c 0 (b :: r) = bindsFrom c b.task r := bindsFrom_yes h (bindOk_task h).choose_spec.2
theorem nodesFrom_first {n : NV} {r : List NV} (h : n.ok = true) : nodesFrom 0 (n :: r) = nodesFrom n.id r := nodesFrom_yes h (by have := NV.ok_id h; omega)
theorem bindOk_none1 {c : CV} {b : BV} (h : fstBy TV.id c.tasks b.task = none) : bindOk c b = false := by simp [bindOk, h]
theorem bindOk_none2 {c : CV} {b : BV} (h : fstBy NV.id c.nodes b.node = none) : bindOk c b = false := by
  unfold bindOk; rw [h]; cases fstBy TV.id c.tasks b.task <;> rfl
theorem bindOk_both {c : CV} {b : BV} {t : TV} {n : NV} (h1 : fstBy TV.id c.tasks b.task = some t) (h2 : fstBy NV.id c.nodes b.node = some n) : bindOk c b = canHost n t := by simp [bindOk, h1, h2]
end Go.Proofs.YtocfgejceoenmaaDoor
namespace Go.Proofs.YtocfgejceoenmaaDoor
open Go.RowKit

/-- The three slices of a cluster, their rows and where they lie. -/
structure CluF (w : World) (c : CV) (D0 D1 D2 : Option Addr) (e0 e1 e2 : Nat) : Prop where
  clu : CluR w c (.slice D0 c.tasks.length e0) (.slice D1 c.nodes.length e1) (.slice D2 c.binds.length e2)
  ht : 0 < c.tasks.length → ∃ b off, D0 = some ⟨b, off, none⟩ ∧ b < w.heap.size ∧ SeqAt TaskR 7 w b off c.tasks
  hn : 0 < c.nodes.length → ∃ b off, D1 = some ⟨b, off, none⟩ ∧ b < w.heap.size ∧ SeqAt NodeR 8 w b off c.nodes
  hb : 0 < c.binds.length → ∃ b off, D2 = some ⟨b, off, none⟩ ∧ b < w.heap.size ∧ SeqAt BindR 2 w b off c.binds
  l0 : c.tasks.length ≤ 1048576
  l1 : c.nodes.length ≤ 1048576
  l2 : c.binds.length ≤ 1048576
theorem CluR.full {w : World} {c : CV} {a0 a1 a2 : Value} (h : CluR w c a0 a1 a2) : ∃ D0 D1 D2 e0 e1 e2, a0 = .slice D0 c.tasks.length e0 ∧ a1 = .slice D1 c.nodes.length e1 ∧ a2 = .slice D2 c.binds.length e2 ∧ CluF w c D0 D1 D2 e0 e1 e2 := by
  have hc := h
  obtain ⟨h0, h1, h2, l0, l1, l2⟩ := h
  obtain ⟨D0, e0, rfl, r0⟩ := h0.form
  obtain ⟨D1, e1, rfl, r1⟩ := h1.form
  obtain ⟨D2, e2, rfl, r2⟩ := h2.form
  exact ⟨D0, D1, D2, e0, e1, e2, rfl, rfl, rfl, hc, r0, r1, r2, l0, l1, l2⟩

end Go.Proofs.YtocfgejceoenmaaDoor
