/- Labels in plain Lean: what chapter 2's functions compute. -/
import Derived.Test.YtcngiinaneefjaaListPure
namespace Go.Proofs.Ytcngiinaneefjaa

/-- A label. -/
structure LV where
  k : Int
  v : Int
theorem LV.ext' {a b : LV} (h1 : a.k = b.k) (h2 : a.v = b.v) : a = b := by cases a; cases b; cases h1; cases h2; rfl

def LV.ok (l : LV) : Bool := decide (0 ≤ l.k ∧ l.k ≤ 9 ∧ 0 ≤ l.v ∧ l.v ≤ 9)
theorem LV.ok_iff {l : LV} : l.ok = true ↔ (0 ≤ l.k ∧ l.k ≤ 9 ∧ 0 ≤ l.v ∧ l.v ≤ 9) := by
  unfold LV.ok; exact decide_eq_true_iff
theorem LV.bad_iff {l : LV} : l.ok = false ↔ ¬ (0 ≤ l.k ∧ l.k ≤ 9 ∧ 0 ≤ l.v ∧ l.v ≤ 9) := by
  unfold LV.ok; exact decide_eq_false_iff_not

/-- Valid labels with Keys that increase strictly from p on. -/
def labsFrom : Int → List LV → Bool
  | _, [] => true
  | p, l :: r => (l.ok && decide (p < l.k)) && labsFrom l.k r
theorem labsFrom_yes {p : Int} {l : LV} {r : List LV} (h : l.ok = true) (hp : p < l.k) : labsFrom p (l :: r) = labsFrom l.k r := by
  simp [labsFrom, h, hp]
theorem labsFrom_bad {p : Int} {l : LV} {r : List LV} (h : l.ok = false) : labsFrom p (l :: r) = false := by
  simp [labsFrom, h]
theorem labsFrom_low {p : Int} {l : LV} {r : List LV} (h : l.k ≤ p) : labsFrom p (l :: r) = false := by
  have : ¬ p < l.k := by omega
  simp [labsFrom, this]
def labsOk (l : List LV) : Bool := decide (l.length ≤ 6) && labsFrom (-1) l
theorem labsOk_short {l : List LV} (h : l.length ≤ 6) : labsOk l = labsFrom (-1) l := by simp [labsOk, h]
theorem labsOk_long {l : List LV} (h : 6 < l.length) : labsOk l = false := by
  have : ¬ l.length ≤ 6 := by omega
  simp [labsOk, this]

/-- The array of ten. -/
def mzero : Nat → Int := fun _ => 0
def mwith (m : Nat → Int) (l : LV) : Nat → Int := fun i => if (i : Int) = l.k then l.v + 1 else m i
def marksOf : (Nat → Int) → List LV → (Nat → Int)
  | m, [] => m
  | m, l :: r => marksOf (mwith m l) r
def readOf (l : List LV) : Nat → Int := if labsOk l then marksOf mzero l else mzero

/-- The label with a Key. -/
def findK : List LV → Int → Int × Bool
  | [], _ => (0, false)
  | l :: r, k => if l.k = k then (l.v, true) else findK r k
def getOf (l : List LV) (k : Int) : Int × Bool := if labsOk l then findK l k else (0, false)
/-- Every label of the second list is in the first. -/
def hasAllOf (a : List LV) : List LV → Bool
  | [] => true
  | x :: r => (findK a x.k).2 && decide ((findK a x.k).1 = x.v) && hasAllOf a r
def matchOf (a b : List LV) : Bool := labsOk a && labsOk b && hasAllOf a b
/-- A label put into a list. -/
def ins (x : LV) : List LV → List LV
  | [] => [x]
  | l :: r => if l.k < x.k then l :: ins x r else if l.k = x.k then x :: r else x :: l :: r
def putList (a : List LV) (x : LV) : List LV := if labsOk a && labsOk (ins x a) then ins x a else []
def putOk (a : List LV) (x : LV) : Bool := labsOk a && labsOk (ins x a)

theorem findK_hit {x : LV} {r : List LV} {k : Int} (h : x.k = k) : findK (x :: r) k = (x.v, true) := by simp [findK, h]
theorem findK_miss {x : LV} {r : List LV} {k : Int} (h : x.k ≠ k) : findK (x :: r) k = findK r k := by simp [findK, h]
theorem labsFrom_mono {p q : Int} {l : List LV} (hq : q ≤ p) (h : labsFrom p l = true) : labsFrom q l = true := by
  cases l with
  | nil => rfl
  | cons x r =>
    simp only [labsFrom, Bool.and_eq_true, decide_eq_true_eq] at h ⊢
    exact ⟨⟨h.1.1, by omega⟩, h.2⟩
theorem findK_above {p : Int} {l : List LV} (h : labsFrom p l = true) {k : Int} (hk : k ≤ p) : findK l k = (0, false) := by
  induction l generalizing p with
  | nil => rfl
  | cons x r ih =>
    simp only [labsFrom, Bool.and_eq_true, decide_eq_true_eq] at h
    have hne : ¬ x.k = k := by omega
    simp only [findK, if_neg hne]
    exact ih h.2 (by omega)
theorem findK_out {p : Int} {l : List LV} (h : labsFrom p l = true) {k : Int} (hk : 9 < k ∨ k < 0) : findK l k = (0, false) := by
  induction l generalizing p with
  | nil => rfl
  | cons x r ih =>
    simp only [labsFrom, Bool.and_eq_true, decide_eq_true_eq] at h
    have := LV.ok_iff.1 h.1.1
    have hne : ¬ x.k = k := by omega
    simp only [findK, if_neg hne]
    exact ih h.2
theorem findK_val {p : Int} {l : List LV} (h : labsFrom p l = true) {k : Int} : 0 ≤ (findK l k).1 ∧ (findK l k).1 ≤ 9 := by
  induction l generalizing p with
  | nil => simp [findK]
  | cons x r ih =>
    simp only [labsFrom, Bool.and_eq_true, decide_eq_true_eq] at h
    have := LV.ok_iff.1 h.1.1
    unfold findK
    split
    · exact ⟨this.2.2.1, this.2.2.2⟩
    · exact ih h.2
theorem findK_none {l : List LV} {k : Int} (h : (findK l k).2 = false) : (findK l k).1 = 0 := by
  induction l with
  | nil => rfl
  | cons x r ih =>
    unfold findK at h ⊢
    split
    · rename_i e; rw [if_pos e] at h; cases h
    · rename_i e; rw [if_neg e] at h; exact ih h
/-- What the array holds. -/
theorem marksOf_at {p : Int} {l : List LV} (h : labsFrom p l = true) (m : Nat → Int) (i : Nat) :
    marksOf m l i = if (findK l i).2 then (findK l i).1 + 1 else m i := by
  induction l generalizing p m with
  | nil => simp [marksOf, findK]
  | cons x r ih =>
    simp only [labsFrom, Bool.and_eq_true, decide_eq_true_eq] at h
    rw [marksOf, ih h.2]
    by_cases e : x.k = (i : Int)
    · rw [findK_above h.2 (k := (i : Int)) (by omega)]
      simp [mwith, findK, e]
    · have e' : ¬ (i : Int) = x.k := fun h => e h.symm
      simp [mwith, findK, e, e']
theorem mark_at {l : List LV} (h : labsFrom (-1) l = true) (i : Nat) : marksOf mzero l i = if (findK l i).2 then (findK l i).1 + 1 else 0 := marksOf_at h _ _
theorem mark_zero {l : List LV} (h : labsFrom (-1) l = true) (i : Nat) : marksOf mzero l i = 0 ↔ (findK l i).2 = false := by
  rw [mark_at h]
  have := findK_val h (k := (i : Int))
  cases e : (findK l i).2 <;> simp <;> omega
theorem mark_in {l : List LV} (h : labsFrom (-1) l = true) (i : Nat) : 0 ≤ marksOf mzero l i ∧ marksOf mzero l i ≤ 10 := by
  rw [mark_at h]
  have := findK_val h (k := (i : Int))
  cases e : (findK l i).2 <;> simp <;> omega
/-- Taints as labels. -/
def tl (t : List Int) : List LV := t.map fun z => ⟨z, 0⟩
theorem tl_len (t : List Int) : (tl t).length = t.length := by simp [tl]
theorem tl_take {t : List Int} {k : Nat} {z : Int} (h : t[k]? = some z) : tl (t.take (k + 1)) = tl (t.take k) ++ [⟨z, 0⟩] := by
  obtain ⟨hk, rfl⟩ := List.getElem?_eq_some_iff.1 h
  unfold tl
  rw [List.take_succ_eq_append_getElem hk, List.map_append]; rfl
/-- What Tolerates computes. -/
def tolOf (a b : List Int) : Bool := matchOf (tl b) (tl a)
end Go.Proofs.Ytcngiinaneefjaa
