/- Labels in plain Lean: a label put into a valid list. -/
import Derived.Test.YtelfoedgbgandaaLabP
import Derived.Test.YtelfoedgbgandaaLabE
namespace Go.Proofs.Ytelfoedgbgandaa

theorem filter_above {p q : Int} {l : List LV} (h : labsFrom p l = true) (hq : q ≤ p + 1) : l.filter (fun x => decide (x.k < q)) = [] := by
  induction l generalizing p with
  | nil => rfl
  | cons x r ih =>
    simp only [labsFrom, Bool.and_eq_true, decide_eq_true_eq] at h
    have hn : ¬ x.k < q := by omega
    rw [List.filter_cons_of_neg (by simpa using hn)]
    exact ih h.2 (by omega)
theorem filter_step {p : Int} {l : List LV} (h : labsFrom p l = true) (k : Int) :
    l.filter (fun x => decide (x.k < k + 1)) = l.filter (fun x => decide (x.k < k)) ++ if (findK l k).2 then [⟨k, (findK l k).1⟩] else [] := by
  induction l generalizing p with
  | nil => simp [findK]
  | cons x r ih =>
    simp only [labsFrom, Bool.and_eq_true, decide_eq_true_eq] at h
    rcases Int.lt_trichotomy x.k k with hk | hk | hk
    · rw [List.filter_cons_of_pos (by simp; omega), List.filter_cons_of_pos (by simpa using hk), findK_miss (by omega), ih h.2]
      rfl
    · rw [List.filter_cons_of_pos (by simp; omega), List.filter_cons_of_neg (by simp; omega), findK_hit hk, filter_above h.2 (by omega), filter_above h.2 (by omega)]
      simp
      exact LV.ext' hk rfl
    · rw [List.filter_cons_of_neg (by simp; omega), List.filter_cons_of_neg (by simp; omega), filter_above h.2 (by omega), filter_above h.2 (by omega), findK_miss (by omega), findK_above h.2 (by omega)]
      simp
theorem labsUpto_filter {l : List LV} (h : labsFrom (-1) l = true) (m : Nat → Int) (hm : ∀ i, i < 10 → m i = marksOf mzero l i) (k : Nat) (hk : k ≤ 10) : labsUpto m k = l.filter (fun x : LV => decide (x.k < (k : Int))) := by
  induction k with
  | zero => rw [filter_above h (by omega)]; rfl
  | succ k ih =>
    have e : ((k + 1 : Nat) : Int) = (k : Int) + 1 := by omega
    rw [e, filter_step h, labsUpto, ih (by omega), hm k (by omega), mark_at h k]
    congr 1
    have hv := findK_val h (k := (k : Int))
    cases hf : (findK l k).2
    · simp
    · have : 0 < (findK l k).1 + 1 := by omega
      simp [this]
theorem labsUpto_self {l : List LV} (h : labsFrom (-1) l = true) (m : Nat → Int) (hm : ∀ i, i < 10 → m i = marksOf mzero l i) : labsUpto m 10 = l := by
  rw [labsUpto_filter h m hm 10 (by omega), List.filter_eq_self]
  intro x hx
  have := LV.ok_iff.1 (mem_ok h hx)
  simp; omega

theorem ins_from {p : Int} {x : LV} {l : List LV} (h : labsFrom p l = true) (hx : x.ok = true) (hp : p < x.k) : labsFrom p (ins x l) = true := by
  induction l generalizing p with
  | nil => simp [ins, labsFrom, hx, hp]
  | cons y r ih =>
    have h' := h
    simp only [labsFrom, Bool.and_eq_true, decide_eq_true_eq] at h
    unfold ins
    split
    · rename_i hlt
      rw [labsFrom_yes h.1.1 h.1.2]
      exact ih h.2 hlt
    · split
      · rename_i he
        rw [labsFrom_yes hx hp, ← he]; exact h.2
      · rw [labsFrom_yes hx hp, labsFrom_yes h.1.1 (by omega)]; exact h.2
theorem ins_find {p : Int} {x : LV} {l : List LV} (h : labsFrom p l = true) (k : Int) : findK (ins x l) k = if x.k = k then (x.v, true) else findK l k := by
  induction l generalizing p with
  | nil => simp [ins, findK]
  | cons y r ih =>
    simp only [labsFrom, Bool.and_eq_true, decide_eq_true_eq] at h
    unfold ins
    split
    · rename_i hlt
      simp only [findK, ih h.2]
      by_cases e : y.k = k
      · have : ¬ x.k = k := by omega
        simp [e, this]
      · simp [e]
    · split
      · rename_i he
        simp only [findK, he]
        by_cases e : x.k = k <;> simp [e]
      · simp only [findK]
theorem ins_marks {l : List LV} (h : labsFrom (-1) l = true) {x : LV} (hx : x.ok = true) (i : Nat) : mwith (marksOf mzero l) x i = marksOf mzero (ins x l) i := by
  have hk := LV.ok_iff.1 hx
  rw [mark_at (ins_from h hx (by omega)), ins_find h, mwith, mark_at h]
  by_cases e : (i : Int) = x.k
  · simp [e]
  · have e' : ¬ x.k = (i : Int) := fun h => e h.symm
    simp [e, e']
theorem mem_ins (x : LV) (l : List LV) : x ∈ ins x l := by
  induction l with
  | nil => simp [ins]
  | cons y r ih =>
    unfold ins
    split
    · exact List.mem_cons.2 (.inr ih)
    · split <;> exact List.mem_cons.2 (.inl rfl)
theorem ins_len (x : LV) (l : List LV) : (ins x l).length ≤ l.length + 1 := by
  induction l with
  | nil => simp [ins]
  | cons y r ih => unfold ins; split <;> (try split) <;> simp <;> omega

/-- What LabsPut computes. -/
theorem put_bad1 {a : List LV} {x : LV} (h : labsOk a = false) : putOk a x = false ∧ putList a x = [] := by simp [putOk, putList, h]
theorem put_bad2 {a : List LV} {x : LV} (h : x.ok = false) : putOk a x = false ∧ putList a x = [] := by
  have : labsOk (ins x a) = false := by
    cases e : labsOk (ins x a)
    · rfl
    · have := mem_ok (labsOk_from e) (mem_ins x a)
      rw [h] at this; cases this
  simp [putOk, putList, this]
theorem put_good {a : List LV} {x : LV} (h : labsOk a = true) (hx : x.ok = true) : labsUpto (mwith (readOf a) x) 10 = ins x a := by
  have hk := LV.ok_iff.1 hx
  rw [readOf_yes h]
  exact labsUpto_self (ins_from (labsOk_from h) hx (by omega)) _ (fun i _ => ins_marks (labsOk_from h) hx i)
theorem put_ok {a : List LV} {x : LV} (h : labsOk a = true) (hx : x.ok = true) : labsOk (ins x a) = decide ((ins x a).length ≤ 6) := by
  have hk := LV.ok_iff.1 hx
  simp [labsOk, ins_from (labsOk_from h) hx (by omega)]
theorem put_long {a : List LV} {x : LV} (h : labsOk a = true) (hx : x.ok = true) (hl : 6 < (ins x a).length) : putOk a x = false ∧ putList a x = [] := by
  have : labsOk (ins x a) = false := by rw [put_ok h hx]; simp; omega
  simp [putOk, putList, this]
theorem put_fine {a : List LV} {x : LV} (h : labsOk a = true) (hx : x.ok = true) (hl : (ins x a).length ≤ 6) : putOk a x = true ∧ putList a x = ins x a := by
  have : labsOk (ins x a) = true := by rw [put_ok h hx]; simpa using hl
  simp [putOk, putList, this, h]
theorem mwith_le {a : List LV} {x : LV} (h : labsOk a = true) (hx : x.ok = true) (k : Nat) : mwith (readOf a) x k ≤ 10 := by
  have := readOf_in h k
  have hk := LV.ok_iff.1 hx
  unfold mwith
  split <;> omega
end Go.Proofs.Ytelfoedgbgandaa
