/- Words for lists. Labels in plain Lean: what chapter 2's functions compute. Amounts in plain Lean: what chapter 1's functions compute. Amounts in plain Lean: sums of lists. Tasks, nodes, bindings and clusters in plain Lean: what chapter 3's functions compute. Amounts in plain Lean: shares. -/
import Derived.WalkKit
namespace Go.Proofs.YtflcacbpceinaaaGreatDoor
theorem drop_at {α : Type} {l : List α} {k : Nat} {r : α} (h : l[k]? = some r) : l.drop k = r :: l.drop (k + 1) := by
  obtain ⟨hk, rfl⟩ := List.getElem?_eq_some_iff.1 h
  exact List.drop_eq_getElem_cons hk
theorem take_at {α : Type} {l : List α} {k : Nat} {r : α} (h : l[k]? = some r) : l.take (k + 1) = l.take k ++ [r] := by
  obtain ⟨hk, rfl⟩ := List.getElem?_eq_some_iff.1 h
  exact List.take_succ_eq_append_getElem hk
end Go.Proofs.YtflcacbpceinaaaGreatDoor

namespace Go.Proofs.YtflcacbpceinaaaGreatDoor

/-- A label. -/
structure LV where
  k : Int
  v : Int
theorem LV.ext' {a b : LV} (h1 : a.k = b.k) (h2 : a.v = b.v) : a = b := by cases a; cases b; cases h1; cases h2; rfl

def LV.ok (l : LV) : Bool := decide (0 ≤ l.k ∧ l.k ≤ 9 ∧ 0 ≤ l.v ∧ l.v ≤ 9)
theorem LV.ok_iff {l : LV} : l.ok = true ↔ (0 ≤ l.k ∧ l.k ≤ 9 ∧ 0 ≤ l.v ∧ l.v ≤ 9) := by
  unfold LV.ok; exact decide_eq_true_iff
theorem LV.bad_iff {l : LV} : l.ok = false ↔ ¬ (0 ≤ l.k ∧ l.k ≤ 9 ∧ 0 ≤ l.v ∧ l.v ≤ 9) := by
  unfold LV.ok; exact decide_eq_false_iff_not

/-- Valid labels with Keys that increase strictly from p on. -/
def labsFrom : Int → List LV → Bool
  | _, [] => true
  | p, l :: r => (l.ok && decide (p < l.k)) && labsFrom l.k r
theorem labsFrom_yes {p : Int} {l : LV} {r : List LV} (h : l.ok = true) (hp : p < l.k) : labsFrom p (l :: r) = labsFrom l.k r := by
  simp [labsFrom, h, hp]
theorem labsFrom_bad {p : Int} {l : LV} {r : List LV} (h : l.ok = false) : labsFrom p (l :: r) = false := by
  simp [labsFrom, h]
theorem labsFrom_low {p : Int} {l : LV} {r : List LV} (h : l.k ≤ p) : labsFrom p (l :: r) = false := by
  have : ¬ p < l.k := by omega
  simp [labsFrom, this]
def labsOk (l : List LV) : Bool := decide (l.length ≤ 6) && labsFrom (-1) l
theorem labsOk_short {l : List LV} (h : l.length ≤ 6) : labsOk l = labsFrom (-1) l := by simp [labsOk, h]
theorem labsOk_long {l : List LV} (h : 6 < l.length) : labsOk l = false := by
  have : ¬ l.length ≤ 6 := by omega
  simp [labsOk, this]

/-- The array of ten. -/
def mzero : Nat → Int := fun _ => 0
def mwith (m : Nat → Int) (l : LV) : Nat → Int := fun i => if (i : Int) = l.k then l.v + 1 else m i
def marksOf : (Nat → Int) → List LV → (Nat → Int)
  | m, [] => m
  | m, l :: r => marksOf (mwith m l) r
def readOf (l : List LV) : Nat → Int := if labsOk l then marksOf mzero l else mzero

/-- The label with a Key. -/
def findK : List LV → Int → Int × Bool
  | [], _ => (0, false)
  | l :: r, k => if l.k = k then (l.v, true) else findK r k
def getOf (l : List LV) (k : Int) : Int × Bool := if labsOk l then findK l k else (0, false)
/-- Every label of the second list is in the first. -/
def hasAllOf (a : List LV) : List LV → Bool
  | [] => true
  | x :: r => (findK a x.k).2 && decide ((findK a x.k).1 = x.v) && hasAllOf a r
def matchOf (a b : List LV) : Bool := labsOk a && labsOk b && hasAllOf a b
/-- A label put into a list. -/
def ins (x : LV) : List LV → List LV
  | [] => [x]
  | l :: r => if l.k < x.k then l :: ins x r else if l.k = x.k then x :: r else x :: l :: r
def putList (a : List LV) (x : LV) : List LV := if labsOk a && labsOk (ins x a) then ins x a else []
def putOk (a : List LV) (x : LV) : Bool := labsOk a && labsOk (ins x a)

theorem findK_hit {x : LV} {r : List LV} {k : Int} (h : x.k = k) : findK (x :: r) k = (x.v, true) := by simp [findK, h]
theorem findK_miss {x : LV} {r : List LV} {k : Int} (h : x.k ≠ k) : findK (x :: r) k = findK r k := by simp [findK, h]
theorem labsFrom_mono {p q : Int} {l : List LV} (hq : q ≤ p) (h : labsFrom p l = true) : labsFrom q l = true := by
  cases l with
  | nil => rfl
  | cons x r =>
    simp only [labsFrom, Bool.and_eq_true, decide_eq_true_eq] at h ⊢
    exact ⟨⟨h.1.1, by omega⟩, h.2⟩
theorem findK_above {p : Int} {l : List LV} (h : labsFrom p l = true) {k : Int} (hk : k ≤ p) : findK l k = (0, false) := by
  induction l generalizing p with
  | nil => rfl
  | cons x r ih =>
    simp only [labsFrom, Bool.and_eq_true, decide_eq_true_eq] at h
    have hne : ¬ x.k = k := by omega
    simp only [findK, if_neg hne]
    exact ih h.2 (by omega)
theorem findK_out {p : Int} {l : List LV} (h : labsFrom p l = true) {k : Int} (hk : 9 < k ∨ k < 0) : findK l k = (0, false) := by
  induction l generalizing p with
  | nil => rfl
  | cons x r ih =>
    simp only [labsFrom, Bool.and_eq_true, decide_eq_true_eq] at h
    have := LV.ok_iff.1 h.1.1
    have hne : ¬ x.k = k := by omega
    simp only [findK, if_neg hne]
    exact ih h.2
theorem findK_val {p : Int} {l : List LV} (h : labsFrom p l = true) {k : Int} : 0 ≤ (findK l k).1 ∧ (findK l k).1 ≤ 9 := by
  induction l generalizing p with
  | nil => simp [findK]
  | cons x r ih =>
    simp only [labsFrom, Bool.and_eq_true, decide_eq_true_eq] at h
    have := LV.ok_iff.1 h.1.1
    unfold findK
    split
    · exact ⟨this.2.2.1, this.2.2.2⟩
    · exact ih h.2
theorem findK_none {l : List LV} {k : Int} (h : (findK l k).2 = false) : (findK l k).1 = 0 := by
  induction l with
  | nil => rfl
  | cons x r ih =>
    unfold findK at h ⊢
    split
    · rename_i e; rw [if_pos e] at h; cases h
    · rename_i e; rw [if_neg e] at h; exact ih h
/-- What the array holds. -/
theorem marksOf_at {p : Int} {l : List LV} (h : labsFrom p l = true) (m : Nat → Int) (i : Nat) :
    marksOf m l i = if (findK l i).2 then (findK l i).1 + 1 else m i := by
  induction l generalizing p m with
  | nil => simp [marksOf, findK]
  | cons x r ih =>
    simp only [labsFrom, Bool.and_eq_true, decide_eq_true_eq] at h
    rw [marksOf, ih h.2]
    by_cases e : x.k = (i : Int)
    · rw [findK_above h.2 (k := (i : Int)) (by omega)]
      simp [mwith, findK, e]
    · have e' : ¬ (i : Int) = x.k := fun h => e h.symm
      simp [mwith, findK, e, e']
theorem mark_at {l : List LV} (h : labsFrom (-1) l = true) (i : Nat) : marksOf mzero l i = if (findK l i).2 then (findK l i).1 + 1 else 0 := marksOf_at h _ _
theorem mark_zero {l : List LV} (h : labsFrom (-1) l = true) (i : Nat) : marksOf mzero l i = 0 ↔ (findK l i).2 = false := by
  rw [mark_at h]
  have := findK_val h (k := (i : Int))
  cases e : (findK l i).2 <;> simp <;> omega
theorem mark_in {l : List LV} (h : labsFrom (-1) l = true) (i : Nat) : 0 ≤ marksOf mzero l i ∧ marksOf mzero l i ≤ 10 := by
  rw [mark_at h]
  have := findK_val h (k := (i : Int))
  cases e : (findK l i).2 <;> simp <;> omega
/-- Taints as labels. -/
def tl (t : List Int) : List LV := t.map fun z => ⟨z, 0⟩
theorem tl_len (t : List Int) : (tl t).length = t.length := by simp [tl]
theorem tl_take {t : List Int} {k : Nat} {z : Int} (h : t[k]? = some z) : tl (t.take (k + 1)) = tl (t.take k) ++ [⟨z, 0⟩] := by
  obtain ⟨hk, rfl⟩ := List.getElem?_eq_some_iff.1 h
  unfold tl
  rw [List.take_succ_eq_append_getElem hk, List.map_append]; rfl
/-- What Tolerates computes. -/
def tolOf (a b : List Int) : Bool := matchOf (tl b) (tl a)
end Go.Proofs.YtflcacbpceinaaaGreatDoor

namespace Go.Proofs.YtflcacbpceinaaaGreatDoor

/-- An amount. -/
structure RV where
  c : Int
  m : Int
  p : Int

def RV.ok (r : RV) : Bool := decide (0 ≤ r.c ∧ r.c ≤ 1000000 ∧ 0 ≤ r.m ∧ r.m ≤ 1000000 ∧ 0 ≤ r.p ∧ r.p ≤ 1000000)
theorem RV.ok_iff {r : RV} : r.ok = true ↔ (0 ≤ r.c ∧ r.c ≤ 1000000 ∧ 0 ≤ r.m ∧ r.m ≤ 1000000 ∧ 0 ≤ r.p ∧ r.p ≤ 1000000) := by
  unfold RV.ok; exact decide_eq_true_iff
theorem RV.bad_iff {r : RV} : r.ok = false ↔ ¬ (0 ≤ r.c ∧ r.c ≤ 1000000 ∧ 0 ≤ r.m ∧ r.m ≤ 1000000 ∧ 0 ≤ r.p ∧ r.p ≤ 1000000) := by
  unfold RV.ok; exact decide_eq_false_iff_not
def RV.zero : RV := ⟨0, 0, 0⟩
def RV.add (a b : RV) : RV := ⟨a.c + b.c, a.m + b.m, a.p + b.p⟩
def RV.sub (a b : RV) : RV := ⟨a.c - b.c, a.m - b.m, a.p - b.p⟩

/-- keepValid. -/
def RV.kept (r : RV) : RV := if r.ok then r else RV.zero
theorem RV.kept_yes {r : RV} (h : r.ok = true) : r.kept = r := by unfold RV.kept; rw [if_pos h]
theorem RV.kept_no {r : RV} (h : r.ok = false) : r.kept = RV.zero := by unfold RV.kept; rw [if_neg (by rw [h]; decide)]
/-- ResAdd. -/
def resAddOk (a b : RV) : Bool := a.ok && b.ok && (a.add b).ok
def resAdd (a b : RV) : RV := if resAddOk a b then a.add b else RV.zero
/-- ResSub. -/
def resSubOk (a b : RV) : Bool := a.ok && b.ok && (a.sub b).ok
def resSub (a b : RV) : RV := if resSubOk a b then a.sub b else RV.zero
theorem resAdd_in {a b : RV} (ha : a.ok = true) (hb : b.ok = true) : resAdd a b = (a.add b).kept ∧ resAddOk a b = (a.add b).ok := by
  unfold resAdd resAddOk RV.kept; simp [ha, hb]
theorem resAdd_out {a b : RV} (h : a.ok = false ∨ b.ok = false) : resAdd a b = RV.zero ∧ resAddOk a b = false := by
  unfold resAdd resAddOk; rcases h with h | h <;> simp [h]
theorem resSub_in {a b : RV} (ha : a.ok = true) (hb : b.ok = true) : resSub a b = (a.sub b).kept ∧ resSubOk a b = (a.sub b).ok := by
  unfold resSub resSubOk RV.kept; simp [ha, hb]
theorem resSub_out {a b : RV} (h : a.ok = false ∨ b.ok = false) : resSub a b = RV.zero ∧ resSubOk a b = false := by
  unfold resSub resSubOk; rcases h with h | h <;> simp [h]
theorem resSubOk_in {a b : RV} (ha : a.ok = true) (hb : b.ok = true) : resSubOk b a = true ↔ (a.c ≤ b.c ∧ a.m ≤ b.m ∧ a.p ≤ b.p) := by
  have hA := RV.ok_iff.1 ha
  have hB := RV.ok_iff.1 hb
  rw [(resSub_in hb ha).2, RV.ok_iff]
  unfold RV.sub
  dsimp only
  omega
/-- The ending 'an amount and a bool'. -/
def RetR (r : RV) (b : Bool) (w : World) (e : Ending) (w' : World) : Prop := e = .returned (.tuple #[.agg #[.int .i64 r.c, .int .i64 r.m, .int .i64 r.p], .bool b]) ∧ Go.RowKit.Below w.heap.size w w'
theorem RetR.of {r r' : RV} {b b' : Bool} {w : World} (hr : r' = r) (hb : b' = b) : RetR r b w = RetR r' b' w := by rw [hr, hb]
end Go.Proofs.YtflcacbpceinaaaGreatDoor

namespace Go.Proofs.YtflcacbpceinaaaGreatDoor
/-- ResSum from a sum so far. -/
def sumGo : RV → List RV → RV × Bool
  | s, [] => (s, true)
  | s, r :: l => if resAddOk s r then sumGo (resAdd s r) l else (RV.zero, false)
theorem sumGo_cons_yes {s r : RV} {l : List RV} (h : resAddOk s r = true) : sumGo s (r :: l) = sumGo (resAdd s r) l := by
  rw [sumGo, if_pos h]
theorem sumGo_cons_no {s r : RV} {l : List RV} (h : resAddOk s r = false) : sumGo s (r :: l) = (RV.zero, false) := by
  rw [sumGo, if_neg (by rw [h]; decide)]
end Go.Proofs.YtflcacbpceinaaaGreatDoor

namespace Go.Proofs.YtflcacbpceinaaaGreatDoor

/-- A task. -/
structure TV where
  id : Int
  prio : Int
  need : RV
  want : List LV
  tols : List Int
/-- A node. -/
structure NV where
  id : Int
  pool : Int
  cap : RV
  labs : List LV
  taints : List Int
  cordon : Bool
/-- A binding. -/
structure BV where
  task : Int
  node : Int
/-- A cluster. -/
structure CV where
  tasks : List TV
  nodes : List NV
  binds : List BV
def TV.zero : TV := ⟨0, 0, RV.zero, [], []⟩
def NV.zero : NV := ⟨0, 0, RV.zero, [], [], false⟩
def BV.zero : BV := ⟨0, 0⟩
def CV.zero : CV := ⟨[], [], []⟩

def idOk (n : Int) : Bool := decide (1 ≤ n ∧ n ≤ 99)
theorem idOk_iff {n : Int} : idOk n = true ↔ 1 ≤ n ∧ n ≤ 99 := by unfold idOk; exact decide_eq_true_iff
theorem idBad_iff {n : Int} : idOk n = false ↔ ¬ (1 ≤ n ∧ n ≤ 99) := by unfold idOk; exact decide_eq_false_iff_not
def TV.ok (t : TV) : Bool := idOk t.id && decide (0 ≤ t.prio) && decide (t.prio ≤ 9) && t.need.ok && labsOk t.want && labsOk (tl t.tols)
def NV.ok (n : NV) : Bool := idOk n.id && decide (0 ≤ n.pool) && decide (n.pool < 5) && n.cap.ok && labsOk n.labs && labsOk (tl n.taints)
theorem TV.ok_id {t : TV} (h : t.ok = true) : 1 ≤ t.id ∧ t.id ≤ 99 := by
  simp only [TV.ok, Bool.and_eq_true] at h; exact idOk_iff.1 h.1.1.1.1.1
theorem NV.ok_id {n : NV} (h : n.ok = true) : 1 ≤ n.id ∧ n.id ≤ 99 := by
  simp only [NV.ok, Bool.and_eq_true] at h; exact idOk_iff.1 h.1.1.1.1.1
theorem TV.ok_need {t : TV} (h : t.ok = true) : t.need.ok = true := by
  simp only [TV.ok, Bool.and_eq_true] at h; exact h.1.1.2
theorem NV.ok_cap {n : NV} (h : n.ok = true) : n.cap.ok = true := by
  simp only [NV.ok, Bool.and_eq_true] at h; exact h.1.1.2
/-- The labels match and the taints are tolerated. -/
def hosts (n : NV) (t : TV) : Bool := matchOf n.labs t.want && tolOf n.taints t.tols
def canHost (n : NV) (t : TV) : Bool := n.ok && t.ok && hosts n t

/-- The first element with a key. -/
def fstBy {α : Type} (key : α → Int) : List α → Int → Option α
  | [], _ => none
  | x :: r, z => if key x = z then some x else fstBy key r z
/-- Its place, or -1. -/
def idxGo {α : Type} (key : α → Int) : Int → List α → Int → Int
  | _, [], _ => -1
  | k, x :: r, z => if key x = z then k else idxGo key (k + 1) r z
def idxBy {α : Type} (key : α → Int) (l : List α) (z : Int) : Int := idxGo key 0 l z
section
variable {α : Type} {key : α → Int} {l : List α} {z : Int}
theorem fstBy_hit {x : α} {r : List α} (h : key x = z) : fstBy key (x :: r) z = some x := by rw [fstBy, if_pos h]
theorem fstBy_miss {x : α} {r : List α} (h : key x ≠ z) : fstBy key (x :: r) z = fstBy key r z := by rw [fstBy, if_neg h]
theorem idxGo_hit {k : Int} {x : α} {r : List α} (h : key x = z) : idxGo key k (x :: r) z = k := by rw [idxGo, if_pos h]
theorem idxGo_miss {k : Int} {x : α} {r : List α} (h : key x ≠ z) : idxGo key k (x :: r) z = idxGo key (k + 1) r z := by rw [idxGo, if_neg h]
theorem idxGo_none (k : Int) (h : fstBy key l z = none) : idxGo key k l z = -1 := by
  induction l generalizing k with
  | nil => rfl
  | cons x r ih =>
    by_cases e : key x = z
    · rw [fstBy_hit e] at h; cases h
    · rw [fstBy_miss e] at h; rw [idxGo_miss e]; exact ih _ h
theorem idxGo_some (k : Int) {x : α} (h : fstBy key l z = some x) : ∃ j : Nat, idxGo key k l z = k + j ∧ l[j]? = some x ∧ key x = z ∧ ∀ i y, i < j → l[i]? = some y → key y ≠ z := by
  induction l generalizing k with
  | nil => cases h
  | cons y r ih =>
    by_cases e : key y = z
    · rw [fstBy_hit e] at h
      obtain rfl := Option.some.inj h
      exact ⟨0, by rw [idxGo_hit e]; simp, rfl, e, fun i _ hi => absurd hi (by omega)⟩
    · rw [fstBy_miss e] at h
      obtain ⟨j, h1, h2, h3, h4⟩ := ih (k + 1) h
      refine ⟨j + 1, by rw [idxGo_miss e, h1]; omega, by simpa using h2, h3, fun i y' hi hy => ?_⟩
      cases i with
      | zero => simp at hy; subst hy; exact e
      | succ i => exact h4 i y' (by omega) (by simpa using hy)
theorem idxBy_none (h : fstBy key l z = none) : idxBy key l z = -1 := idxGo_none 0 h
theorem idxBy_some {x : α} (h : fstBy key l z = some x) : ∃ j : Nat, idxBy key l z = j ∧ l[j]? = some x ∧ key x = z ∧ ∀ i y, i < j → l[i]? = some y → key y ≠ z := by
  obtain ⟨j, h1, h2⟩ := idxGo_some 0 h
  exact ⟨j, by unfold idxBy; rw [h1]; omega, h2⟩
theorem fstBy_key {x : α} (h : fstBy key l z = some x) : key x = z := (idxBy_some h).choose_spec.2.2.1
theorem fstBy_mem {x : α} (h : fstBy key l z = some x) : x ∈ l := List.mem_of_getElem? (idxBy_some h).choose_spec.2.1
theorem idxBy_neg : idxBy key l z < 0 ↔ fstBy key l z = none := by
  cases h : fstBy key l z with
  | none => rw [idxBy_none h]; simp
  | some x => obtain ⟨j, e, _⟩ := idxBy_some h; rw [e]; simp
theorem fstBy_none : fstBy key l z = none ↔ ∀ x ∈ l, key x ≠ z := by
  induction l with
  | nil => simp [fstBy]
  | cons x r ih =>
    by_cases e : key x = z
    · rw [fstBy_hit e]; simp [e]
    · rw [fstBy_miss e, ih]; simp [e]
theorem fstBy_isSome : (∃ x ∈ l, key x = z) → ∃ x, fstBy key l z = some x := by
  rintro ⟨x, hx, e⟩
  cases h : fstBy key l z with
  | none => exact absurd e (fstBy_none.1 h x hx)
  | some y => exact ⟨y, rfl⟩
/-- The element at k is the first with its key just where no earlier one has it. -/
theorem idxBy_at {k : Nat} {x : α} (h : l[k]? = some x) : idxBy key l (key x) = k ↔ ∀ y ∈ l.take k, key y ≠ key x := by
  obtain ⟨y, hy⟩ := fstBy_isSome (key := key) ⟨x, List.mem_of_getElem? h, rfl⟩
  obtain ⟨j, e, h2, h3, h4⟩ := idxBy_some hy
  have hj : j < l.length := (List.getElem?_eq_some_iff.1 h2).1
  rw [e]
  constructor
  · intro hjk y' hy'
    obtain ⟨i, hi⟩ := List.mem_iff_getElem?.1 hy'
    have hik : i < k := by
      have := (List.getElem?_eq_some_iff.1 hi).1
      rw [List.length_take] at this; omega
    rw [List.getElem?_take_of_lt hik] at hi
    exact h4 i y' (by omega) hi
  · intro hall
    rcases Nat.lt_trichotomy j k with hlt | heq | hgt
    · exact absurd h3 (hall y (List.mem_iff_getElem?.2 ⟨j, by rw [List.getElem?_take_of_lt hlt]; exact h2⟩))
    · omega
    · exact absurd rfl (h4 k x hgt h)
end

/-- The tasks are valid and their Ids distinct, also from those of s. -/
def tasksFrom : List Int → List TV → Bool
  | _, [] => true
  | s, t :: r => t.ok && !(s.contains t.id) && tasksFrom (t.id :: s) r
/-- The nodes are valid and their Ids increase strictly from p on. -/
def nodesFrom : Int → List NV → Bool
  | _, [] => true
  | p, n :: r => n.ok && decide (p < n.id) && nodesFrom n.id r
def bindOk (c : CV) (b : BV) : Bool :=
  match fstBy TV.id c.tasks b.task, fstBy NV.id c.nodes b.node with
  | some t, some n => canHost n t
  | _, _ => false
/-- The bindings are of tasks and nodes that are there, and their Tasks increase strictly from p on. -/
def bindsFrom (c : CV) : Int → List BV → Bool
  | _, [] => true
  | p, b :: r => decide (p < b.task) && bindOk c b && bindsFrom c b.task r
theorem tasksFrom_yes {s : List Int} {t : TV} {r : List TV} (h : t.ok = true) (hs : s.contains t.id = false) : tasksFrom s (t :: r) = tasksFrom (t.id :: s) r := by
  simp only [tasksFrom, h, hs]; rfl
theorem tasksFrom_bad {s : List Int} {t : TV} {r : List TV} (h : t.ok = false) : tasksFrom s (t :: r) = false := by simp [tasksFrom, h]
theorem tasksFrom_twice {s : List Int} {t : TV} {r : List TV} (h : s.contains t.id = true) : tasksFrom s (t :: r) = false := by simp only [tasksFrom, h]; simp
theorem nodesFrom_yes {p : Int} {n : NV} {r : List NV} (h : n.ok = true) (hp : p < n.id) : nodesFrom p (n :: r) = nodesFrom n.id r := by simp [nodesFrom, h, hp]
theorem nodesFrom_bad {p : Int} {n : NV} {r : List NV} (h : n.ok = false) : nodesFrom p (n :: r) = false := by simp [nodesFrom, h]
theorem nodesFrom_low {p : Int} {n : NV} {r : List NV} (h : n.id ≤ p) : nodesFrom p (n :: r) = false := by
  have : ¬ p < n.id := by omega
  simp [nodesFrom, this]
theorem bindsFrom_yes {c : CV} {p : Int} {b : BV} {r : List BV} (h : bindOk c b = true) (hp : p < b.task) : bindsFrom c p (b :: r) = bindsFrom c b.task r := by simp [bindsFrom, h, hp]
theorem bindsFrom_bad {c : CV} {p : Int} {b : BV} {r : List BV} (h : bindOk c b = false) : bindsFrom c p (b :: r) = false := by simp [bindsFrom, h]
theorem bindsFrom_low {c : CV} {p : Int} {b : BV} {r : List BV} (h : b.task ≤ p) : bindsFrom c p (b :: r) = false := by
  have : ¬ p < b.task := by omega
  simp [bindsFrom, this]

/-- The Need of the task with an Id. -/
def needOf (c : CV) (z : Int) : RV := ((fstBy TV.id c.tasks z).getD TV.zero).need
/-- The Needs of the bindings to a node. -/
def needsIn (c : CV) (n : Int) : List BV → List RV
  | [] => []
  | b :: r => if b.node = n then needOf c b.task :: needsIn c n r else needsIn c n r
def usedOf (c : CV) (n : Int) : RV × Bool := sumGo RV.zero (needsIn c n c.binds)
/-- What is free on a node. -/
def freeOf (c : CV) (n : NV) : RV × Bool := if (usedOf c n.id).2 then (resSub n.cap (usedOf c n.id).1, resSubOk n.cap (usedOf c n.id).1) else (RV.zero, false)
def fitsAll (c : CV) : List NV → Bool
  | [] => true
  | n :: r => (freeOf c n).2 && fitsAll c r
def tasksOk (l : List TV) : Bool := decide (l.length ≤ 30) && tasksFrom [] l
def nodesOk (l : List NV) : Bool := decide (l.length ≤ 20) && nodesFrom 0 l
def clusterOk (c : CV) : Bool := tasksOk c.tasks && nodesOk c.nodes && bindsFrom c 0 c.binds && fitsAll c c.nodes
theorem needsIn_len (c : CV) (n : Int) (l : List BV) : (needsIn c n l).length ≤ l.length := by
  induction l with
  | nil => simp [needsIn]
  | cons b r ih => unfold needsIn; split <;> simp <;> omega
theorem needsIn_yes {c : CV} {n : Int} {b : BV} {r : List BV} (h : b.node = n) : needsIn c n (b :: r) = needOf c b.task :: needsIn c n r := by rw [needsIn, if_pos h]
theorem needsIn_no {c : CV} {n : Int} {b : BV} {r : List BV} (h : b.node ≠ n) : needsIn c n (b :: r) = needsIn c n r := by rw [needsIn, if_neg h]
theorem needsIn_append (c : CV) (n : Int) (a b : List BV) : needsIn c n (a ++ b) = needsIn c n a ++ needsIn c n b := by
  induction a with
  | nil => rfl
  | cons x r ih => simp only [List.cons_append, needsIn, ih]; split <;> rfl
end Go.Proofs.YtflcacbpceinaaaGreatDoor

namespace Go.Proofs.YtflcacbpceinaaaGreatDoor

def shr (u c : Int) : Int := if 0 < c then 1000 * u / c else if 0 < u then 1001 else 0
theorem shr_pos {u c : Int} (h : 0 < c) : shr u c = 1000 * u / c := by unfold shr; rw [if_pos h]
theorem shr_over {u c : Int} (h : ¬ 0 < c) (hu : 0 < u) : shr u c = 1001 := by unfold shr; rw [if_neg h, if_pos hu]
theorem shr_none {u c : Int} (h : ¬ 0 < c) (hu : ¬ 0 < u) : shr u c = 0 := by unfold shr; rw [if_neg h, if_neg hu]
theorem shr_bounds {u c : Int} (h0 : 0 ≤ u) (h1 : u ≤ 1000000) : 0 ≤ shr u c ∧ shr u c ≤ 1000000000 := by
  unfold shr
  split
  · next h =>
    refine ⟨Int.ediv_nonneg (by omega) (by omega), ?_⟩
    refine Int.le_trans (Int.ediv_le_self _ (by omega)) (by omega)
  · split <;> omega
/-- The greatest share of the first k fields. -/
def shareTo (u c : RV) : Nat → Int
  | 0 => 0
  | 1 => max 0 (shr u.c c.c)
  | 2 => max (max 0 (shr u.c c.c)) (shr u.m c.m)
  | _ => max (max (max 0 (shr u.c c.c)) (shr u.m c.m)) (shr u.p c.p)
def resShare (u c : RV) : Int := if u.ok && c.ok then shareTo u c 3 else -1
theorem resShare_in {u c : RV} (hu : u.ok = true) (hc : c.ok = true) : resShare u c = shareTo u c 3 := by unfold resShare; simp [hu, hc]
theorem resShare_out {u c : RV} (h : u.ok = false ∨ c.ok = false) : resShare u c = -1 := by
  unfold resShare; rcases h with h | h <;> simp [h]
theorem shareTo_three {u c : RV} (hu : u.ok = true) : shareTo u c 3 = max (shr u.c c.c) (max (shr u.m c.m) (shr u.p c.p)) := by
  obtain ⟨a1, a2, a3, a4, a5, a6⟩ := RV.ok_iff.1 hu
  have b1 := shr_bounds (c := c.c) a1 a2
  have b2 := shr_bounds (c := c.m) a3 a4
  have b3 := shr_bounds (c := c.p) a5 a6
  have e : shareTo u c 3 = max (max (max 0 (shr u.c c.c)) (shr u.m c.m)) (shr u.p c.p) := rfl
  rw [e]
  omega
end Go.Proofs.YtflcacbpceinaaaGreatDoor
