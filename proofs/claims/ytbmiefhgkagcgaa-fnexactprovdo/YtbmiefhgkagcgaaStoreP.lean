/- Stores in plain Lean: what chapter 6's store functions compute (Key, Val, Ver are c, m, p of a triple). -/
import Derived.Test.YtbmiefhgkagcgaaLeaseP
namespace Go.Proofs.Ytbmiefhgkagcgaa

def itemIn (r : RV) (least : Int) : Bool := lWithin r.c 1 1000 && lWithin r.m 0 1000000 && lWithin r.p least 1000000
theorem itemIn_iff {r : RV} {least : Int} : itemIn r least = true ↔ (1 ≤ r.c ∧ r.c ≤ 1000) ∧ (0 ≤ r.m ∧ r.m ≤ 1000000) ∧ (least ≤ r.p ∧ r.p ≤ 1000000) := by
  simp only [itemIn, Bool.and_eq_true, lWithin_iff]; exact and_assoc
theorem itemIn_one (r : RV) : (itemIn r 0 && (r.p != 0)) = itemIn r 1 := by
  rw [Bool.eq_iff_iff, Bool.and_eq_true, itemIn_iff, itemIn_iff, bne_iff_ne]
  omega
/-- The items are valid, their Keys rise from above 'last' on. -/
def storeFrom (last : Int) : List RV → Bool
  | [] => true
  | r :: rs => itemIn r 1 && decide (last < r.c) && storeFrom r.c rs
def storeOk (epoch : Int) (l : List RV) : Bool := lWithin epoch 0 1000 && decide (l.length ≤ 20) && storeFrom 0 l
/-- The Keys rise. -/
abbrev Rise (l : List RV) : Prop := l.Pairwise fun a b => a.c < b.c
theorem storeFrom_all {last : Int} {l : List RV} (h : storeFrom last l = true) : (∀ r ∈ l, last < r.c ∧ itemIn r 1 = true) ∧ Rise l := by
  induction l generalizing last with
  | nil => exact ⟨by simp, List.Pairwise.nil⟩
  | cons r rs ih =>
    simp only [storeFrom, Bool.and_eq_true, decide_eq_true_eq] at h
    obtain ⟨⟨h1, h2⟩, h3⟩ := h
    obtain ⟨h4, h5⟩ := ih h3
    refine ⟨fun x hx => ?_, List.pairwise_cons.2 ⟨fun x hx => (h4 x hx).1, h5⟩⟩
    rcases List.mem_cons.1 hx with rfl | hx
    · exact ⟨h2, h1⟩
    · exact ⟨Int.lt_trans h2 (h4 x hx).1, (h4 x hx).2⟩
theorem storeOk_all {epoch : Int} {l : List RV} (h : storeOk epoch l = true) : (0 ≤ epoch ∧ epoch ≤ 1000) ∧ l.length ≤ 20 ∧ (∀ r ∈ l, itemIn r 1 = true) ∧ Rise l := by
  simp only [storeOk, Bool.and_eq_true, decide_eq_true_eq, lWithin_iff] at h
  obtain ⟨⟨h1, h2⟩, h3⟩ := h
  obtain ⟨h4, h5⟩ := storeFrom_all h3
  exact ⟨h1, h2, fun r hr => (h4 r hr).2, h5⟩
/-- The item with a Key, and whether there is one. -/
def itemAt (l : List RV) (k : Int) : RV × Bool := match l.find? (fun r => r.c == k) with | some r => (r, true) | none => (RV.zero, false)
theorem itemAt_has (l : List RV) (k : Int) : (itemAt l k).2 = l.any (fun r => r.c == k) := by
  unfold itemAt
  induction l with
  | nil => rfl
  | cons x xs ih =>
    rw [List.find?_cons, List.any_cons]
    cases h : x.c == k
    · simpa using ih
    · rfl
theorem itemAt_yes {l : List RV} {k : Int} (h : l.any (fun r => r.c == k) = true) : (itemAt l k).1 ∈ l ∧ (itemAt l k).1.c = k := by
  unfold itemAt
  cases hf : l.find? (fun r => r.c == k) with
  | none => rw [List.find?_eq_none] at hf; rw [List.any_eq_true] at h; obtain ⟨x, hx, hk⟩ := h; exact absurd hk (hf x hx)
  | some r => exact ⟨List.mem_of_find?_eq_some hf, by simpa using List.find?_some hf⟩
theorem itemAt_no {l : List RV} {k : Int} (h : l.any (fun r => r.c == k) = false) : itemAt l k = (RV.zero, false) := by
  unfold itemAt
  cases hf : l.find? (fun r => r.c == k) with
  | none => rfl
  | some r =>
    rw [List.any_eq_false] at h
    exact absurd (List.find?_some hf) (h r (List.mem_of_find?_eq_some hf))
theorem rise_inj {l : List RV} (hl : Rise l) {a b : RV} (ha : a ∈ l) (hb : b ∈ l) (h : a.c = b.c) : a = b := by
  induction l with
  | nil => cases ha
  | cons y ys ih =>
    obtain ⟨h1, h2⟩ := List.pairwise_cons.1 hl
    rcases List.mem_cons.1 ha with rfl | ha'
    · rcases List.mem_cons.1 hb with rfl | hb'
      · rfl
      · have := h1 b hb'; omega
    · rcases List.mem_cons.1 hb with rfl | hb'
      · have := h1 a ha'; omega
      · exact ih h2 ha' hb'
theorem itemAt_of {l : List RV} (hl : Rise l) {r : RV} (hr : r ∈ l) : itemAt l r.c = (r, true) := by
  have ha : l.any (fun x => x.c == r.c) = true := List.any_eq_true.2 ⟨r, hr, by simp⟩
  obtain ⟨h1, h2⟩ := itemAt_yes ha
  have h3 : (itemAt l r.c).1 = r := rise_inj hl h1 hr h2
  have h4 := itemAt_has l r.c
  rw [ha] at h4
  exact Prod.ext h3 h4
/-- The items with one put among them. -/
def itemPut (r : RV) : List RV → List RV
  | [] => [r]
  | x :: xs => if r.c < x.c then r :: x :: xs else if r.c = x.c then r :: xs else x :: itemPut r xs
theorem itemPut_mem {r x : RV} {l : List RV} (hl : Rise l) : x ∈ itemPut r l ↔ x = r ∨ (x ∈ l ∧ x.c ≠ r.c) := by
  induction l with
  | nil => simp [itemPut]
  | cons y ys ih =>
    obtain ⟨h1, h2⟩ := List.pairwise_cons.1 hl
    unfold itemPut
    split
    · rename_i hlt
      rw [List.mem_cons]
      refine or_congr_right ⟨fun h => ⟨h, ?_⟩, fun h => h.1⟩
      rcases List.mem_cons.1 h with rfl | h
      · omega
      · have := h1 x h; omega
    · split
      · rename_i hlt heq
        rw [List.mem_cons]
        refine or_congr_right ⟨fun h => ⟨List.mem_cons.2 (.inr h), ?_⟩, fun h => ?_⟩
        · have := h1 x h; omega
        · rcases List.mem_cons.1 h.1 with rfl | h'
          · exact absurd heq.symm h.2
          · exact h'
      · rename_i hlt hne
        rw [List.mem_cons, ih h2, List.mem_cons]
        constructor
        · rintro (rfl | rfl | h)
          · exact .inr ⟨.inl rfl, fun h => hne h.symm⟩
          · exact .inl rfl
          · exact .inr ⟨.inr h.1, h.2⟩
        · rintro (rfl | ⟨rfl | h, h'⟩)
          · exact .inr (.inl rfl)
          · exact .inl rfl
          · exact .inr (.inr ⟨h, h'⟩)
theorem itemPut_rise {r : RV} {l : List RV} (hl : Rise l) : Rise (itemPut r l) := by
  induction l with
  | nil => exact List.pairwise_singleton _ _
  | cons y ys ih =>
    obtain ⟨h1, h2⟩ := List.pairwise_cons.1 hl
    unfold itemPut
    split
    · rename_i hlt
      refine List.pairwise_cons.2 ⟨fun x hx => ?_, hl⟩
      rcases List.mem_cons.1 hx with rfl | hx
      · exact hlt
      · have := h1 x hx; omega
    · split
      · rename_i hlt heq
        refine List.pairwise_cons.2 ⟨fun x hx => ?_, h2⟩
        have := h1 x hx; omega
      · rename_i hlt hne
        refine List.pairwise_cons.2 ⟨fun x hx => ?_, ih h2⟩
        rcases (itemPut_mem h2).1 hx with rfl | ⟨hx, _⟩
        · omega
        · exact h1 x hx
theorem itemPut_last {r : RV} {l : List RV} (h : ∀ x ∈ l, x.c < r.c) : itemPut r l = l ++ [r] := by
  induction l with
  | nil => rfl
  | cons y ys ih =>
    have := h y (List.mem_cons.2 (.inl rfl))
    unfold itemPut
    rw [if_neg (by omega), if_neg (by omega), ih (fun x hx => h x (List.mem_cons.2 (.inr hx)))]
    rfl
theorem itemPut_any {r : RV} {l : List RV} (hl : Rise l) (k : Int) : (itemPut r l).any (fun x => x.c == k) = if k = r.c then true else l.any (fun x => x.c == k) := by
  rw [Bool.eq_iff_iff, List.any_eq_true]
  by_cases hk : k = r.c
  · subst hk
    simp only [if_true, iff_true]
    exact ⟨r, (itemPut_mem hl).2 (.inl rfl), by simp⟩
  · rw [if_neg hk, List.any_eq_true]
    constructor
    · rintro ⟨x, hx, hx'⟩
      have hx' := beq_iff_eq.1 hx'
      rcases (itemPut_mem hl).1 hx with rfl | ⟨hx, _⟩
      · exact absurd hx'.symm hk
      · exact ⟨x, hx, by simpa using hx'⟩
    · rintro ⟨x, hx, hx'⟩
      have hx' := beq_iff_eq.1 hx'
      exact ⟨x, (itemPut_mem hl).2 (.inr ⟨hx, by omega⟩), by simpa using hx'⟩
/-- The items without the one with a Key. -/
def itemDel (k : Int) (l : List RV) : List RV := l.filter fun x => !(x.c == k)
theorem itemDel_rise {k : Int} {l : List RV} (hl : Rise l) : Rise (itemDel k l) := hl.filter _
theorem itemDel_any {l : List RV} (k k' : Int) : (itemDel k l).any (fun x => x.c == k') = if k' = k then false else l.any (fun x => x.c == k') := by
  rw [Bool.eq_iff_iff, List.any_eq_true]
  by_cases hk : k' = k
  · subst hk
    simp [itemDel]
  · rw [if_neg hk, List.any_eq_true]
    simp only [itemDel, List.mem_filter]
    constructor
    · rintro ⟨x, ⟨hx, _⟩, hx'⟩; exact ⟨x, hx, hx'⟩
    · rintro ⟨x, hx, hx'⟩
      have := beq_iff_eq.1 hx'
      exact ⟨x, ⟨hx, by simp; omega⟩, hx'⟩
end Go.Proofs.Ytbmiefhgkagcgaa
