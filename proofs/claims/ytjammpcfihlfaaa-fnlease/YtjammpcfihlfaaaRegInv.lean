/- A region that draws its order, by an invariant over what has been done: one proof an operation, whatever the order. -/
import Derived.WalkKit
import Derived.RegionTactic
import Derived.Orders
namespace Go.Proofs.Ytjammpcfihlfaaa
open Go.RowKit

/-- How many operations are left. -/
def todo (listed : Array Bool) : Nat := (listed.toList.filter fun b => !b).length
theorem cnt_set {l : List Bool} {i : Nat} (h : l[i]? = some false) : ((l.set i true).filter fun b => !b).length + 1 = (l.filter fun b => !b).length := by
  induction l generalizing i with
  | nil => simp at h
  | cons x r ih =>
    cases i with
    | zero => simp at h; subst h; simp
    | succ i =>
      simp at h
      have := ih h
      cases x <;> simp <;> omega
theorem listed_false {listed : Array Bool} {i : Nat} (h : listed.getD i true = false) : listed[i]? = some false := by
  rcases Nat.lt_or_ge i listed.size with hi | hi
  · simp [hi] at h ⊢; exact h
  · simp [Array.getElem?_eq_none hi] at h
theorem todo_set {listed : Array Bool} {i : Nat} (h : listed.getD i true = false) : todo (listed.setIfInBounds i true) + 1 = todo listed := by
  have := cnt_set (l := listed.toList) (i := i) (by simpa using listed_false h)
  unfold todo
  rw [Array.toList_setIfInBounds]
  exact this
theorem todo_none {listed : Array Bool} (h : todo listed = 0) (j : Nat) (hj : j < listed.size) : listed.getD j false = true := by
  unfold todo at h
  have h0 := List.eq_nil_of_length_eq_zero h
  rw [List.filter_eq_nil_iff] at h0
  have := h0 (listed[j]) (by simp)
  simpa [hj] using this
/-- Each operation waits for earlier ones alone. -/
def ordered (md : Region.Mode) (ops : Array Oper) : Bool := (List.range ops.size).all fun i => ((ops[i]?).map fun o => o.after.all fun e => !Region.binds md e || decide (e.on < i)).getD true

section
variable {P : Program} {ops : Array Oper} {Q : Exit → Act → World → Prop} {md : Region.Mode}
theorem all_of_ready {listed : Array Bool} (ho : ordered md ops = true) (hs : listed.size = ops.size) (hr : Region.ready md ops listed = []) : ∀ j, j < ops.size → listed.getD j false = true := by
  intro j
  induction j using Nat.strongRecOn with
  | _ j ih =>
    intro hj
    cases hl : listed.getD j false with
    | true => rfl
    | false =>
      exfalso
      have hjs : j < listed.size := by omega
      have hl' : listed.getD j true = false := by simpa [hjs] using hl
      have : j ∈ Region.ready md ops listed := by
        rw [mem_ready]
        refine ⟨hl', ops[j], Array.getElem?_eq_getElem hj, fun e he hbd => ?_⟩
        have h1 := List.all_eq_true.1 ho j (List.mem_range.2 hj)
        rw [Array.getElem?_eq_getElem hj] at h1
        simp only [Option.map_some, Option.getD_some, Array.all_eq_true_iff_forall_mem, Bool.or_eq_true, Bool.not_eq_true', decide_eq_true_eq] at h1
        have h2 := (h1 e he).resolve_left (by rw [hbd]; simp)
        exact ih e.on h2 (by omega)
      rw [hr] at this
      cases this

theorem wpAny_inv (ho : ordered md ops = true) (I : Nat → Array Bool → Act → World → Prop)
    (hend : ∀ f listed a w, I f listed a w → (∀ j, j < ops.size → listed.getD j false = true) → Q .normal a w)
    (hstep : ∀ f listed a w i o, I (f + 1) listed a w → i < ops.size → listed.getD i true = false → ops[i]? = some o → (∀ e ∈ o.after, Region.binds md e = true → listed.getD e.on false = true) →
      ∀ K : Act → World → Prop, (∀ a' w', I f (listed.setIfInBounds i true) a' w' → K a' w') → if Region.wanted o (yielded ops a.tmps) = true then Oper.wp P o a w K Q else K (a.put o.dst undef) w) :
    ∀ f listed a w, listed.size = ops.size → todo listed = f → I f listed a w → wpAny P md ops Q f listed a w := by
  intro f
  induction f with
  | zero =>
    intro listed a w hs ht hI
    have hall := fun j (hj : j < ops.size) => todo_none ht j (by omega)
    refine ⟨?_, hend _ _ _ _ hI hall⟩
    cases hr : Region.ready md ops listed with
    | nil => rfl
    | cons x r =>
      exfalso
      have hx : x ∈ Region.ready md ops listed := by rw [hr]; exact List.mem_cons.2 (.inl rfl)
      obtain ⟨h0, o, hox, _⟩ := mem_ready.1 hx
      have hxs : x < ops.size := (Array.getElem?_eq_some_iff.1 hox).1
      have h1 := hall x hxs
      have hxl : x < listed.size := by omega
      simp [hxl] at h0 h1
      rw [h0] at h1; cases h1
  | succ f ih =>
    intro listed a w hs ht hI
    refine ⟨fun hr => hend _ _ _ _ hI (all_of_ready ho hs hr), fun i hi => ?_⟩
    obtain ⟨h0, o, hio, hdep⟩ := mem_ready.1 hi
    refine wpOp_step hio fun K' hK => hstep f listed a w i o hI (Array.getElem?_eq_some_iff.1 hio).1 h0 hio hdep K' fun a' w' h => hK a' w' ?_
    exact ih _ a' w' (by simpa using hs) (by have := todo_set h0; omega) h
end
end Go.Proofs.Ytjammpcfihlfaaa
