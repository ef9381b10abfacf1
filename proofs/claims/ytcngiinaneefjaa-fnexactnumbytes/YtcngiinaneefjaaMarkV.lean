/- What the laws' marks make of a list of labels, ints, tasks, nodes, bindings, in plain Lean. -/
import Derived.Test.YtcngiinaneefjaaCluPure
namespace Go.Proofs.Ytcngiinaneefjaa

def mLabs : Int → Nat → List LV
  | _, 0 => []
  | k, n + 1 => ⟨k, k + 1⟩ :: mLabs (k + 2) n
def mInts : Int → Nat → List Int
  | _, 0 => []
  | k, n + 1 => k :: mInts (k + 1) n
def mBinds : Int → Nat → List BV
  | _, 0 => []
  | k, n + 1 => ⟨k, k + 1⟩ :: mBinds (k + 2) n
theorem mLabs_len (k : Int) (n : Nat) : (mLabs k n).length = n := by
  induction n generalizing k with
  | zero => rfl
  | succ n ih => simp [mLabs, ih]
theorem mInts_len (k : Int) (n : Nat) : (mInts k n).length = n := by
  induction n generalizing k with
  | zero => rfl
  | succ n ih => simp [mInts, ih]
theorem mBinds_len (k : Int) (n : Nat) : (mBinds k n).length = n := by
  induction n generalizing k with
  | zero => rfl
  | succ n ih => simp [mBinds, ih]
theorem mLabs_snoc (k : Int) (n : Nat) : mLabs k (n + 1) = mLabs k n ++ [⟨k + 2 * n, k + 2 * n + 1⟩] := by
  induction n generalizing k with
  | zero => simp [mLabs]
  | succ n ih =>
    rw [mLabs, ih (k + 2)]
    simp only [mLabs, List.cons_append, Int.natCast_add, Int.natCast_one]
    rw [show k + 2 + 2 * (n : Int) = k + 2 * ((n : Int) + 1) by omega]
theorem mInts_snoc (k : Int) (n : Nat) : mInts k (n + 1) = mInts k n ++ [k + n] := by
  induction n generalizing k with
  | zero => simp [mInts]
  | succ n ih =>
    rw [mInts, ih (k + 1)]
    simp only [mInts, List.cons_append, Int.natCast_add, Int.natCast_one]
    rw [show k + 1 + (n : Int) = k + ((n : Int) + 1) by omega]
theorem mBinds_snoc (k : Int) (n : Nat) : mBinds k (n + 1) = mBinds k n ++ [⟨k + 2 * n, k + 2 * n + 1⟩] := by
  induction n generalizing k with
  | zero => simp [mBinds]
  | succ n ih =>
    rw [mBinds, ih (k + 2)]
    simp only [mBinds, List.cons_append, Int.natCast_add, Int.natCast_one]
    rw [show k + 2 + 2 * (n : Int) = k + 2 * ((n : Int) + 1) by omega]
theorem mLabs_at (k : Int) {n i : Nat} (h : i < n) : (mLabs k n)[i]? = some ⟨k + 2 * i, k + 2 * i + 1⟩ := by
  induction n generalizing k i with
  | zero => omega
  | succ n ih =>
    cases i with
    | zero => simp [mLabs]
    | succ i =>
      rw [mLabs, List.getElem?_cons_succ, ih (k + 2) (by omega)]
      congr 2 <;> omega
theorem mInts_at (k : Int) {n i : Nat} (h : i < n) : (mInts k n)[i]? = some (k + i) := by
  induction n generalizing k i with
  | zero => omega
  | succ n ih =>
    cases i with
    | zero => simp [mInts]
    | succ i =>
      rw [mInts, List.getElem?_cons_succ, ih (k + 1) (by omega)]
      congr 1; omega
theorem mBinds_at (k : Int) {n i : Nat} (h : i < n) : (mBinds k n)[i]? = some ⟨k + 2 * i, k + 2 * i + 1⟩ := by
  induction n generalizing k i with
  | zero => omega
  | succ n ih =>
    cases i with
    | zero => simp [mBinds]
    | succ i =>
      rw [mBinds, List.getElem?_cons_succ, ih (k + 2) (by omega)]
      congr 2 <;> omega

def szTask (t : TV) : Int := 5 + 2 * t.want.length + t.tols.length
def szNode (n : NV) : Int := 6 + 2 * n.labs.length + n.taints.length
def mTask (k : Int) (t : TV) : TV := ⟨k, k + 1, ⟨k + 1 + 1, k + 1 + 1 + 1, k + 1 + 1 + 1 + 1⟩, mLabs (k + 1 + 1 + 1 + 1 + 1) t.want.length, mInts (k + 1 + 1 + 1 + 1 + 1 + 2 * t.want.length) t.tols.length⟩
def mNode (k : Int) (t : NV) : NV := ⟨k, k + 1, ⟨k + 1 + 1, k + 1 + 1 + 1, k + 1 + 1 + 1 + 1⟩, mLabs (k + 1 + 1 + 1 + 1 + 1) t.labs.length, mInts (k + 1 + 1 + 1 + 1 + 1 + 2 * t.labs.length) t.taints.length, ((k + 1 + 1 + 1 + 1 + 1 + 2 * t.labs.length + t.taints.length) % 3 == 0)⟩
def sumTask : List TV → Int
  | [] => 0
  | t :: r => szTask t + sumTask r
def sumNode : List NV → Int
  | [] => 0
  | t :: r => szNode t + sumNode r
def mTasks : Int → List TV → List TV
  | _, [] => []
  | k, t :: r => mTask k t :: mTasks (k + szTask t) r
def mNodes : Int → List NV → List NV
  | _, [] => []
  | k, t :: r => mNode k t :: mNodes (k + szNode t) r
theorem sumTask_snoc (l : List TV) (t : TV) : sumTask (l ++ [t]) = sumTask l + szTask t := by
  induction l with
  | nil => simp [sumTask]
  | cons x r ih => simp only [List.cons_append, sumTask, ih]; omega
theorem mTasks_snoc (k : Int) (l : List TV) (t : TV) : mTasks k (l ++ [t]) = mTasks k l ++ [mTask (k + sumTask l) t] := by
  induction l generalizing k with
  | nil => simp [mTasks, sumTask]
  | cons x r ih =>
    simp only [List.cons_append, mTasks, ih, sumTask]
    rw [show k + szTask x + sumTask r = k + (szTask x + sumTask r) by omega]
theorem mTasks_len (k : Int) (l : List TV) : (mTasks k l).length = l.length := by
  induction l generalizing k with
  | nil => rfl
  | cons x r ih => simp [mTasks, ih]
theorem mTasks_at (k : Int) {l : List TV} {i : Nat} {t : TV} (h : l[i]? = some t) : (mTasks k l)[i]? = some (mTask (k + sumTask (l.take i)) t) := by
  induction l generalizing k i with
  | nil => simp at h
  | cons x r ih =>
    cases i with
    | zero => simp at h; subst h; simp [mTasks, sumTask]
    | succ i =>
      simp at h
      rw [mTasks, List.getElem?_cons_succ, ih _ h]
      simp only [List.take_succ_cons, sumTask]
      rw [show k + szTask x + sumTask (r.take i) = k + (szTask x + sumTask (r.take i)) by omega]
theorem sumTask_nonneg (l : List TV) : 0 ≤ sumTask l := by
  induction l with
  | nil => simp [sumTask]
  | cons x r ih => simp only [sumTask, szTask]; omega
/-- All inner lists are at most 1048576 long. -/
def allTask (l : List TV) : Prop := ∀ t ∈ l, t.want.length ≤ 1048576 ∧ t.tols.length ≤ 1048576
theorem sumTask_le {l : List TV} (h : allTask l) : sumTask l ≤ l.length * 3200000 := by
  induction l with
  | nil => simp [sumTask]
  | cons x r ih =>
    have h1 := h x (by simp)
    have h2 := ih (fun t ht => h t (by simp [ht]))
    simp only [sumTask, szTask, List.length_cons, Int.natCast_add, Int.natCast_one]
    omega
theorem sumTask_take {l : List TV} (h : allTask l) (i : Nat) (hl : l.length ≤ 1100000) : 0 ≤ sumTask (l.take i) ∧ sumTask (l.take i) ≤ 3520000000000 := by
  refine ⟨sumTask_nonneg _, ?_⟩
  have h1 := sumTask_le (l := l.take i) (fun t ht => h t (List.mem_of_mem_take ht))
  have h2 : (l.take i).length ≤ l.length := by rw [List.length_take]; omega
  omega
theorem sumNode_snoc (l : List NV) (t : NV) : sumNode (l ++ [t]) = sumNode l + szNode t := by
  induction l with
  | nil => simp [sumNode]
  | cons x r ih => simp only [List.cons_append, sumNode, ih]; omega
theorem mNodes_snoc (k : Int) (l : List NV) (t : NV) : mNodes k (l ++ [t]) = mNodes k l ++ [mNode (k + sumNode l) t] := by
  induction l generalizing k with
  | nil => simp [mNodes, sumNode]
  | cons x r ih =>
    simp only [List.cons_append, mNodes, ih, sumNode]
    rw [show k + szNode x + sumNode r = k + (szNode x + sumNode r) by omega]
theorem mNodes_len (k : Int) (l : List NV) : (mNodes k l).length = l.length := by
  induction l generalizing k with
  | nil => rfl
  | cons x r ih => simp [mNodes, ih]
theorem mNodes_at (k : Int) {l : List NV} {i : Nat} {t : NV} (h : l[i]? = some t) : (mNodes k l)[i]? = some (mNode (k + sumNode (l.take i)) t) := by
  induction l generalizing k i with
  | nil => simp at h
  | cons x r ih =>
    cases i with
    | zero => simp at h; subst h; simp [mNodes, sumNode]
    | succ i =>
      simp at h
      rw [mNodes, List.getElem?_cons_succ, ih _ h]
      simp only [List.take_succ_cons, sumNode]
      rw [show k + szNode x + sumNode (r.take i) = k + (szNode x + sumNode (r.take i)) by omega]
theorem sumNode_nonneg (l : List NV) : 0 ≤ sumNode l := by
  induction l with
  | nil => simp [sumNode]
  | cons x r ih => simp only [sumNode, szNode]; omega
/-- All inner lists are at most 1048576 long. -/
def allNode (l : List NV) : Prop := ∀ t ∈ l, t.labs.length ≤ 1048576 ∧ t.taints.length ≤ 1048576
theorem sumNode_le {l : List NV} (h : allNode l) : sumNode l ≤ l.length * 3200000 := by
  induction l with
  | nil => simp [sumNode]
  | cons x r ih =>
    have h1 := h x (by simp)
    have h2 := ih (fun t ht => h t (by simp [ht]))
    simp only [sumNode, szNode, List.length_cons, Int.natCast_add, Int.natCast_one]
    omega
theorem sumNode_take {l : List NV} (h : allNode l) (i : Nat) (hl : l.length ≤ 1100000) : 0 ≤ sumNode (l.take i) ∧ sumNode (l.take i) ≤ 3520000000000 := by
  refine ⟨sumNode_nonneg _, ?_⟩
  have h1 := sumNode_le (l := l.take i) (fun t ht => h t (List.mem_of_mem_take ht))
  have h2 : (l.take i).length ≤ l.length := by rw [List.length_take]; omega
  omega
def mClu (c : CV) (k : Int) : CV := ⟨mTasks k c.tasks, mNodes (k + sumTask c.tasks) c.nodes, mBinds (k + sumTask c.tasks + sumNode c.nodes) c.binds.length⟩
def szClu (c : CV) : Int := sumTask c.tasks + sumNode c.nodes + 2 * c.binds.length
end Go.Proofs.Ytcngiinaneefjaa
