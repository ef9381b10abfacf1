/- Tasks, nodes, bindings and clusters in plain Lean: what chapter 3's functions compute. -/
import Derived.Test.YtcngiinaneefjaaSumPure
import Derived.Test.YtcngiinaneefjaaLabPure
namespace Go.Proofs.Ytcngiinaneefjaa

/-- A task. -/
structure TV where
  id : Int
  prio : Int
  need : RV
  want : List LV
  tols : List Int
/-- A node. -/
structure NV where
  id : Int
  pool : Int
  cap : RV
  labs : List LV
  taints : List Int
  cordon : Bool
/-- A binding. -/
structure BV where
  task : Int
  node : Int
/-- A cluster. -/
structure CV where
  tasks : List TV
  nodes : List NV
  binds : List BV
def TV.zero : TV := ⟨0, 0, RV.zero, [], []⟩
def NV.zero : NV := ⟨0, 0, RV.zero, [], [], false⟩
def BV.zero : BV := ⟨0, 0⟩
def CV.zero : CV := ⟨[], [], []⟩

def idOk (n : Int) : Bool := decide (1 ≤ n ∧ n ≤ 99)
theorem idOk_iff {n : Int} : idOk n = true ↔ 1 ≤ n ∧ n ≤ 99 := by unfold idOk; exact decide_eq_true_iff
theorem idBad_iff {n : Int} : idOk n = false ↔ ¬ (1 ≤ n ∧ n ≤ 99) := by unfold idOk; exact decide_eq_false_iff_not
def TV.ok (t : TV) : Bool := idOk t.id && decide (0 ≤ t.prio) && decide (t.prio ≤ 9) && t.need.ok && labsOk t.want && labsOk (tl t.tols)
def NV.ok (n : NV) : Bool := idOk n.id && decide (0 ≤ n.pool) && decide (n.pool < 5) && n.cap.ok && labsOk n.labs && labsOk (tl n.taints)
theorem TV.ok_id {t : TV} (h : t.ok = true) : 1 ≤ t.id ∧ t.id ≤ 99 := by
  simp only [TV.ok, Bool.and_eq_true] at h; exact idOk_iff.1 h.1.1.1.1.1
theorem NV.ok_id {n : NV} (h : n.ok = true) : 1 ≤ n.id ∧ n.id ≤ 99 := by
  simp only [NV.ok, Bool.and_eq_true] at h; exact idOk_iff.1 h.1.1.1.1.1
theorem TV.ok_need {t : TV} (h : t.ok = true) : t.need.ok = true := by
  simp only [TV.ok, Bool.and_eq_true] at h; exact h.1.1.2
theorem NV.ok_cap {n : NV} (h : n.ok = true) : n.cap.ok = true := by
  simp only [NV.ok, Bool.and_eq_true] at h; exact h.1.1.2
/-- The labels match and the taints are tolerated. -/
def hosts (n : NV) (t : TV) : Bool := matchOf n.labs t.want && tolOf n.taints t.tols
def canHost (n : NV) (t : TV) : Bool := n.ok && t.ok && hosts n t

/-- The first element with a key. -/
def fstBy {α : Type} (key : α → Int) : List α → Int → Option α
  | [], _ => none
  | x :: r, z => if key x = z then some x else fstBy key r z
/-- Its place, or -1. -/
def idxGo {α : Type} (key : α → Int) : Int → List α → Int → Int
  | _, [], _ => -1
  | k, x :: r, z => if key x = z then k else idxGo key (k + 1) r z
def idxBy {α : Type} (key : α → Int) (l : List α) (z : Int) : Int := idxGo key 0 l z
section
variable {α : Type} {key : α → Int} {l : List α} {z : Int}
theorem fstBy_hit {x : α} {r : List α} (h : key x = z) : fstBy key (x :: r) z = some x := by rw [fstBy, if_pos h]
theorem fstBy_miss {x : α} {r : List α} (h : key x ≠ z) : fstBy key (x :: r) z = fstBy key r z := by rw [fstBy, if_neg h]
theorem idxGo_hit {k : Int} {x : α} {r : List α} (h : key x = z) : idxGo key k (x :: r) z = k := by rw [idxGo, if_pos h]
theorem idxGo_miss {k : Int} {x : α} {r : List α} (h : key x ≠ z) : idxGo key k (x :: r) z = idxGo key (k + 1) r z := by rw [idxGo, if_neg h]
theorem idxGo_none (k : Int) (h : fstBy key l z = none) : idxGo key k l z = -1 := by
  induction l generalizing k with
  | nil => rfl
  | cons x r ih =>
    by_cases e : key x = z
    · rw [fstBy_hit e] at h; cases h
    · rw [fstBy_miss e] at h; rw [idxGo_miss e]; exact ih _ h
theorem idxGo_some (k : Int) {x : α} (h : fstBy key l z = some x) : ∃ j : Nat, idxGo key k l z = k + j ∧ l[j]? = some x ∧ key x = z ∧ ∀ i y, i < j → l[i]? = some y → key y ≠ z := by
  induction l generalizing k with
  | nil => cases h
  | cons y r ih =>
    by_cases e : key y = z
    · rw [fstBy_hit e] at h
      obtain rfl := Option.some.inj h
      exact ⟨0, by rw [idxGo_hit e]; simp, rfl, e, fun i _ hi => absurd hi (by omega)⟩
    · rw [fstBy_miss e] at h
      obtain ⟨j, h1, h2, h3, h4⟩ := ih (k + 1) h
      refine ⟨j + 1, by rw [idxGo_miss e, h1]; omega, by simpa using h2, h3, fun i y' hi hy => ?_⟩
      cases i with
      | zero => simp at hy; subst hy; exact e
      | succ i => exact h4 i y' (by omega) (by simpa using hy)
theorem idxBy_none (h : fstBy key l z = none) : idxBy key l z = -1 := idxGo_none 0 h
theorem idxBy_some {x : α} (h : fstBy key l z = some x) : ∃ j : Nat, idxBy key l z = j ∧ l[j]? = some x ∧ key x = z ∧ ∀ i y, i < j → l[i]? = some y → key y ≠ z := by
  obtain ⟨j, h1, h2⟩ := idxGo_some 0 h
  exact ⟨j, by unfold idxBy; rw [h1]; omega, h2⟩
theorem fstBy_key {x : α} (h : fstBy key l z = some x) : key x = z := (idxBy_some h).choose_spec.2.2.1
theorem fstBy_mem {x : α} (h : fstBy key l z = some x) : x ∈ l := List.mem_of_getElem? (idxBy_some h).choose_spec.2.1
theorem idxBy_neg : idxBy key l z < 0 ↔ fstBy key l z = none := by
  cases h : fstBy key l z with
  | none => rw [idxBy_none h]; simp
  | some x => obtain ⟨j, e, _⟩ := idxBy_some h; rw [e]; simp
theorem fstBy_none : fstBy key l z = none ↔ ∀ x ∈ l, key x ≠ z := by
  induction l with
  | nil => simp [fstBy]
  | cons x r ih =>
    by_cases e : key x = z
    · rw [fstBy_hit e]; simp [e]
    · rw [fstBy_miss e, ih]; simp [e]
theorem fstBy_isSome : (∃ x ∈ l, key x = z) → ∃ x, fstBy key l z = some x := by
  rintro ⟨x, hx, e⟩
  cases h : fstBy key l z with
  | none => exact absurd e (fstBy_none.1 h x hx)
  | some y => exact ⟨y, rfl⟩
/-- The element at k is the first with its key just where no earlier one has it. -/
theorem idxBy_at {k : Nat} {x : α} (h : l[k]? = some x) : idxBy key l (key x) = k ↔ ∀ y ∈ l.take k, key y ≠ key x := by
  obtain ⟨y, hy⟩ := fstBy_isSome (key := key) ⟨x, List.mem_of_getElem? h, rfl⟩
  obtain ⟨j, e, h2, h3, h4⟩ := idxBy_some hy
  have hj : j < l.length := (List.getElem?_eq_some_iff.1 h2).1
  rw [e]
  constructor
  · intro hjk y' hy'
    obtain ⟨i, hi⟩ := List.mem_iff_getElem?.1 hy'
    have hik : i < k := by
      have := (List.getElem?_eq_some_iff.1 hi).1
      rw [List.length_take] at this; omega
    rw [List.getElem?_take_of_lt hik] at hi
    exact h4 i y' (by omega) hi
  · intro hall
    rcases Nat.lt_trichotomy j k with hlt | heq | hgt
    · exact absurd h3 (hall y (List.mem_iff_getElem?.2 ⟨j, by rw [List.getElem?_take_of_lt hlt]; exact h2⟩))
    · omega
    · exact absurd rfl (h4 k x hgt h)
end

/-- The tasks are valid and their Ids distinct, also from those of s. -/
def tasksFrom : List Int → List TV → Bool
  | _, [] => true
  | s, t :: r => t.ok && !(s.contains t.id) && tasksFrom (t.id :: s) r
/-- The nodes are valid and their Ids increase strictly from p on. -/
def nodesFrom : Int → List NV → Bool
  | _, [] => true
  | p, n :: r => n.ok && decide (p < n.id) && nodesFrom n.id r
def bindOk (c : CV) (b : BV) : Bool :=
  match fstBy TV.id c.tasks b.task, fstBy NV.id c.nodes b.node with
  | some t, some n => canHost n t
  | _, _ => false
/-- The bindings are of tasks and nodes that are there, and their Tasks increase strictly from p on. -/
def bindsFrom (c : CV) : Int → List BV → Bool
  | _, [] => true
  | p, b :: r => decide (p < b.task) && bindOk c b && bindsFrom c b.task r
theorem tasksFrom_yes {s : List Int} {t : TV} {r : List TV} (h : t.ok = true) (hs : s.contains t.id = false) : tasksFrom s (t :: r) = tasksFrom (t.id :: s) r := by
  simp only [tasksFrom, h, hs]; rfl
theorem tasksFrom_bad {s : List Int} {t : TV} {r : List TV} (h : t.ok = false) : tasksFrom s (t :: r) = false := by simp [tasksFrom, h]
theorem tasksFrom_twice {s : List Int} {t : TV} {r : List TV} (h : s.contains t.id = true) : tasksFrom s (t :: r) = false := by simp only [tasksFrom, h]; simp
theorem nodesFrom_yes {p : Int} {n : NV} {r : List NV} (h : n.ok = true) (hp : p < n.id) : nodesFrom p (n :: r) = nodesFrom n.id r := by simp [nodesFrom, h, hp]
theorem nodesFrom_bad {p : Int} {n : NV} {r : List NV} (h : n.ok = false) : nodesFrom p (n :: r) = false := by simp [nodesFrom, h]
theorem nodesFrom_low {p : Int} {n : NV} {r : List NV} (h : n.id ≤ p) : nodesFrom p (n :: r) = false := by
  have : ¬ p < n.id := by omega
  simp [nodesFrom, this]
theorem bindsFrom_yes {c : CV} {p : Int} {b : BV} {r : List BV} (h : bindOk c b = true) (hp : p < b.task) : bindsFrom c p (b :: r) = bindsFrom c b.task r := by simp [bindsFrom, h, hp]
theorem bindsFrom_bad {c : CV} {p : Int} {b : BV} {r : List BV} (h : bindOk c b = false) : bindsFrom c p (b :: r) = false := by simp [bindsFrom, h]
theorem bindsFrom_low {c : CV} {p : Int} {b : BV} {r : List BV} (h : b.task ≤ p) : bindsFrom c p (b :: r) = false := by
  have : ¬ p < b.task := by omega
  simp [bindsFrom, this]

/-- The Need of the task with an Id. -/
def needOf (c : CV) (z : Int) : RV := ((fstBy TV.id c.tasks z).getD TV.zero).need
/-- The Needs of the bindings to a node. -/
def needsIn (c : CV) (n : Int) : List BV → List RV
  | [] => []
  | b :: r => if b.node = n then needOf c b.task :: needsIn c n r else needsIn c n r
def usedOf (c : CV) (n : Int) : RV × Bool := sumGo RV.zero (needsIn c n c.binds)
/-- What is free on a node. -/
def freeOf (c : CV) (n : NV) : RV × Bool := if (usedOf c n.id).2 then (resSub n.cap (usedOf c n.id).1, resSubOk n.cap (usedOf c n.id).1) else (RV.zero, false)
def fitsAll (c : CV) : List NV → Bool
  | [] => true
  | n :: r => (freeOf c n).2 && fitsAll c r
def tasksOk (l : List TV) : Bool := decide (l.length ≤ 30) && tasksFrom [] l
def nodesOk (l : List NV) : Bool := decide (l.length ≤ 20) && nodesFrom 0 l
def clusterOk (c : CV) : Bool := tasksOk c.tasks && nodesOk c.nodes && bindsFrom c 0 c.binds && fitsAll c c.nodes
theorem needsIn_len (c : CV) (n : Int) (l : List BV) : (needsIn c n l).length ≤ l.length := by
  induction l with
  | nil => simp [needsIn]
  | cons b r ih => unfold needsIn; split <;> simp <;> omega
theorem needsIn_yes {c : CV} {n : Int} {b : BV} {r : List BV} (h : b.node = n) : needsIn c n (b :: r) = needOf c b.task :: needsIn c n r := by rw [needsIn, if_pos h]
theorem needsIn_no {c : CV} {n : Int} {b : BV} {r : List BV} (h : b.node ≠ n) : needsIn c n (b :: r) = needsIn c n r := by rw [needsIn, if_neg h]
theorem needsIn_append (c : CV) (n : Int) (a b : List BV) : needsIn c n (a ++ b) = needsIn c n a ++ needsIn c n b := by
  induction a with
  | nil => rfl
  | cons x r ih => simp only [List.cons_append, needsIn, ih]; split <;> rfl
end Go.Proofs.Ytcngiinaneefjaa
