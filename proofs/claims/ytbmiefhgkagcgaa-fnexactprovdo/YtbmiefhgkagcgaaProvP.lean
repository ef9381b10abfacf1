/- Providers in plain Lean: what chapter 7's functions compute (Id, Pool, State are c, m, p of a triple). -/
import Derived.Test.YtbmiefhgkagcgaaPutD
namespace Go.Proofs.Ytbmiefhgkagcgaa

def instIn (r : RV) : Bool := lWithin r.c 1 99 && lWithin r.m 0 4 && (r.p == 1 || r.p == 2)
theorem instIn_iff {r : RV} : instIn r = true ↔ (1 ≤ r.c ∧ r.c ≤ 99) ∧ (0 ≤ r.m ∧ r.m ≤ 4) ∧ (r.p = 1 ∨ r.p = 2) := by
  simp only [instIn, Bool.and_eq_true, Bool.or_eq_true, lWithin_iff, beq_iff_eq]; exact and_assoc
/-- The instances are valid, their Ids rise from above 'last' on. -/
def provFrom (last : Int) : List RV → Bool
  | [] => true
  | r :: rs => instIn r && decide (last < r.c) && provFrom r.c rs
def provOk (seen : Int) (l : List RV) : Bool := lWithin seen 0 1000 && decide (l.length ≤ 60) && provFrom 0 l
theorem provFrom_all {last : Int} {l : List RV} (h : provFrom last l = true) : (∀ r ∈ l, last < r.c ∧ instIn r = true) ∧ Rise l := by
  induction l generalizing last with
  | nil => exact ⟨by simp, List.Pairwise.nil⟩
  | cons r rs ih =>
    simp only [provFrom, Bool.and_eq_true, decide_eq_true_eq] at h
    obtain ⟨⟨h1, h2⟩, h3⟩ := h
    obtain ⟨h4, h5⟩ := ih h3
    refine ⟨fun x hx => ?_, List.pairwise_cons.2 ⟨fun x hx => (h4 x hx).1, h5⟩⟩
    rcases List.mem_cons.1 hx with rfl | hx
    · exact ⟨h2, h1⟩
    · exact ⟨Int.lt_trans h2 (h4 x hx).1, (h4 x hx).2⟩
theorem provFrom_of {last : Int} {l : List RV} (h : ∀ r ∈ l, last < r.c ∧ instIn r = true) (hr : Rise l) : provFrom last l = true := by
  induction l generalizing last with
  | nil => rfl
  | cons r rs ih =>
    obtain ⟨h1, h2⟩ := List.pairwise_cons.1 hr
    have h3 := h r (List.mem_cons.2 (.inl rfl))
    simp only [provFrom, Bool.and_eq_true, decide_eq_true_eq]
    exact ⟨⟨h3.2, h3.1⟩, ih (fun x hx => ⟨h1 x hx, (h x (List.mem_cons.2 (.inr hx))).2⟩) h2⟩
theorem provOk_all {seen : Int} {l : List RV} (h : provOk seen l = true) : (0 ≤ seen ∧ seen ≤ 1000) ∧ l.length ≤ 60 ∧ (∀ r ∈ l, instIn r = true) ∧ Rise l := by
  simp only [provOk, Bool.and_eq_true, decide_eq_true_eq, lWithin_iff] at h
  obtain ⟨⟨h1, h2⟩, h3⟩ := h
  obtain ⟨h4, h5⟩ := provFrom_all h3
  exact ⟨h1, h2, fun r hr => (h4 r hr).2, h5⟩
theorem provOk_of {seen : Int} {l : List RV} (h1 : 0 ≤ seen ∧ seen ≤ 1000) (h2 : l.length ≤ 60) (h3 : ∀ r ∈ l, instIn r = true) (h4 : Rise l) : provOk seen l = true := by
  simp only [provOk, Bool.and_eq_true, decide_eq_true_eq, lWithin_iff]
  refine ⟨⟨h1, h2⟩, provFrom_of (fun r hr => ⟨?_, h3 r hr⟩) h4⟩
  have := (instIn_iff.1 (h3 r hr)).1.1; omega
/-- A message: Kind, Epoch, Id, Pool. -/
structure MV where
  k : Int
  e : Int
  i : Int
  p : Int
def msgOk (m : MV) : Bool := lWithin m.e 1 1000 && lWithin m.i 1 99 && ((m.k == 1 && lWithin m.p 0 4) || (m.k == 2 && (m.p == 0)))
theorem msgOk_iff {m : MV} : msgOk m = true ↔ (1 ≤ m.e ∧ m.e ≤ 1000) ∧ (1 ≤ m.i ∧ m.i ≤ 99) ∧ ((m.k = 1 ∧ 0 ≤ m.p ∧ m.p ≤ 4) ∨ (m.k = 2 ∧ m.p = 0)) := by
  simp only [msgOk, Bool.and_eq_true, Bool.or_eq_true, lWithin_iff, beq_iff_eq]; exact and_assoc
/-- How many instances at the front have a smaller Id. -/
def lowAt (z : Int) : List RV → Nat
  | [] => 0
  | x :: r => if x.c < z then lowAt z r + 1 else 0
theorem lowAt_le (z : Int) (l : List RV) : lowAt z l ≤ l.length := by
  induction l with
  | nil => simp [lowAt]
  | cons x r ih => unfold lowAt; split <;> simp <;> omega
theorem lowAt_of {z : Int} {l : List RV} {i : Nat} (hi : i ≤ l.length) (h1 : ∀ (k : Nat) (x : RV), k < i → l[k]? = some x → x.c < z) (h2 : ∀ (x : RV), l[i]? = some x → z ≤ x.c) : lowAt z l = i := by
  induction l generalizing i with
  | nil => simp at hi; subst hi; rfl
  | cons x r ih =>
    cases i with
    | zero =>
      have := h2 x rfl
      unfold lowAt
      rw [if_neg (by omega)]
    | succ i =>
      have hx := h1 0 x (by omega) rfl
      unfold lowAt
      rw [if_pos hx]
      congr 1
      exact ih (by simpa using hi) (fun k y hk hy => h1 (k + 1) y (by omega) (by simpa using hy)) (fun y hy => h2 y (by simpa using hy))
theorem lowAt_lt {z : Int} {l : List RV} {k : Nat} {x : RV} (hk : k < lowAt z l) (hx : l[k]? = some x) : x.c < z := by
  induction l generalizing k with
  | nil => simp at hx
  | cons y r ih =>
    unfold lowAt at hk
    split at hk
    · rename_i hy
      cases k with
      | zero => simp at hx; subst hx; exact hy
      | succ k =>
        have hx : r[k]? = some x := by simpa using hx
        exact ih (k := k) (by omega) hx
    · omega
theorem lowAt_ge {z : Int} {l : List RV} {x : RV} (hx : l[lowAt z l]? = some x) : z ≤ x.c := by
  induction l with
  | nil => simp [lowAt] at hx
  | cons y r ih =>
    unfold lowAt at hx
    split at hx
    · exact ih (by simpa using hx)
    · simp at hx; subst hx; omega
theorem rise_at {l : List RV} (hl : Rise l) {i j : Nat} {x y : RV} (hij : i < j) (hx : l[i]? = some x) (hy : l[j]? = some y) : x.c < y.c := by
  obtain ⟨hi, rfl⟩ := List.getElem?_eq_some_iff.1 hx
  obtain ⟨hj, rfl⟩ := List.getElem?_eq_some_iff.1 hy
  exact List.pairwise_iff_getElem.1 hl i j hi hj hij
/-- In a rising list an instance with an Id stands where the smaller ones end. -/
theorem lowAt_is {l : List RV} (hl : Rise l) {k : Nat} {x : RV} (hx : l[k]? = some x) : lowAt x.c l = k := by
  have hk : k < l.length := (List.getElem?_eq_some_iff.1 hx).1
  refine lowAt_of (by omega) (fun j y hj hy => rise_at hl hj hy hx) (fun y hy => ?_)
  obtain rfl := Option.some.inj (hx.symm.trans hy)
  exact Int.le_refl _
theorem lowAt_has {l : List RV} (hl : Rise l) (z : Int) : l.any (fun x => x.c == z) = true ↔ ∃ x, l[lowAt z l]? = some x ∧ x.c = z := by
  rw [List.any_eq_true]
  constructor
  · rintro ⟨x, hx, hz⟩
    obtain ⟨k, hk⟩ := List.mem_iff_getElem?.1 hx
    have hz := beq_iff_eq.1 hz
    have := lowAt_is hl hk
    rw [hz] at this
    exact ⟨x, by rw [this]; exact hk, hz⟩
  · rintro ⟨x, hx, hz⟩
    exact ⟨x, List.mem_of_getElem? hx, by simpa using hz⟩
/-- Where the first instance with an Id stands. -/
theorem itemAt_low {l : List RV} (hl : Rise l) {z : Int} {x : RV} (hx : l[lowAt z l]? = some x) (hz : x.c = z) : itemAt l z = (x, true) := by
  subst hz; exact itemAt_of hl (List.mem_of_getElem? hx)
theorem itemPut_low {r : RV} {l : List RV} (h : l.any (fun x => x.c == r.c) = false) : itemPut r l = l.take (lowAt r.c l) ++ r :: l.drop (lowAt r.c l) := by
  induction l with
  | nil => rfl
  | cons y ys ih =>
    rw [List.any_cons, Bool.or_eq_false_iff] at h
    have hne : y.c ≠ r.c := by simpa using h.1
    unfold itemPut lowAt
    by_cases hlt : y.c < r.c
    · rw [if_neg (by omega), if_neg (by omega), if_pos hlt, ih h.2]
      simp
    · rw [if_pos (by omega), if_neg hlt]
      simp
/-- The instances, the one with an Id gone. -/
def goneAt (z : Int) (l : List RV) : List RV := l.map fun x => if x.c = z then ⟨x.c, x.m, 2⟩ else x
theorem goneAt_length (z : Int) (l : List RV) : (goneAt z l).length = l.length := by simp [goneAt]
theorem goneAt_set {l : List RV} (hl : Rise l) {k : Nat} {x : RV} (hx : l[k]? = some x) : goneAt x.c l = l.set k ⟨x.c, x.m, 2⟩ := by
  refine List.ext_getElem? fun j => ?_
  rw [goneAt, List.getElem?_map, List.getElem?_set]
  have hk : k < l.length := (List.getElem?_eq_some_iff.1 hx).1
  by_cases hj : k = j
  · subst hj
    rw [hx]; simp [hk]
  · rw [if_neg hj]
    cases hy : l[j]? with
    | none => rfl
    | some y =>
      have : y.c ≠ x.c := by
        rcases Nat.lt_or_gt_of_ne hj with h | h
        · have := rise_at hl h hx hy; omega
        · have := rise_at hl h hy hx; omega
      simp [this]
theorem goneAt_mem {z : Int} {l : List RV} {x : RV} (h : x ∈ goneAt z l) : ∃ y ∈ l, x.c = y.c ∧ x.m = y.m ∧ (x.p = 2 ∨ x.p = y.p) := by
  simp only [goneAt, List.mem_map] at h
  obtain ⟨y, hy, rfl⟩ := h
  refine ⟨y, hy, ?_⟩
  split
  · exact ⟨rfl, rfl, .inl rfl⟩
  · exact ⟨rfl, rfl, .inr rfl⟩
theorem goneAt_rise {z : Int} {l : List RV} (h : Rise l) : Rise (goneAt z l) := by
  unfold goneAt
  refine List.pairwise_map.2 (h.imp fun {a b} hab => ?_)
  split <;> split <;> exact hab
theorem goneAt_any (z z' : Int) (l : List RV) : (goneAt z l).any (fun x => x.c == z') = l.any (fun x => x.c == z') := by
  unfold goneAt
  rw [List.any_map]
  congr 1
  funext x
  simp only [Function.comp]
  split <;> rfl
/-- What a valid message gets. -/
def doGot (seen : Int) (l : List RV) (m : MV) (works : Bool) : SA :=
  if m.e < seen then .bad 3
  else if m.k = 1 then (if (itemAt l m.i).2 then ⟨m.e, l, 0⟩ else if l.length = 60 then .bad 5 else ⟨m.e, itemPut ⟨m.i, m.p, if works then 1 else 2⟩ l, 0⟩)
  else if (itemAt l m.i).2 then ⟨m.e, goneAt m.i l, 0⟩ else .bad 6
def provDo (seen : Int) (l : List RV) (m : MV) (works : Bool) : SA := if provOk seen l && msgOk m then doGot seen l m works else .bad 1
theorem provDo_eq (seen : Int) (l : List RV) (m : MV) (works b1 b2 : Bool) (h1 : provOk seen l = b1) (h2 : msgOk m = b2) : provDo seen l m works = if b1 && b2 then doGot seen l m works else .bad 1 := by
  subst h1 h2; rfl
theorem doGot_old {seen : Int} {l : List RV} {m : MV} {works : Bool} (h : m.e < seen) : doGot seen l m works = .bad 3 := by unfold doGot; rw [if_pos h]
theorem doGot_here {seen : Int} {l : List RV} {m : MV} {works : Bool} (h : ¬ m.e < seen) (hk : m.k = 1) (ha : l.any (fun x => x.c == m.i) = true) : doGot seen l m works = ⟨m.e, l, 0⟩ := by
  unfold doGot; rw [if_neg h, if_pos hk, itemAt_has, ha, if_pos rfl]
theorem doGot_full {seen : Int} {l : List RV} {m : MV} {works : Bool} (h : ¬ m.e < seen) (hk : m.k = 1) (ha : l.any (fun x => x.c == m.i) = false) (hl : l.length = 60) : doGot seen l m works = .bad 5 := by
  unfold doGot; rw [if_neg h, if_pos hk, itemAt_has, ha, if_neg (by simp), if_pos hl]
theorem doGot_new {seen : Int} {l : List RV} {m : MV} {works : Bool} (h : ¬ m.e < seen) (hk : m.k = 1) (ha : l.any (fun x => x.c == m.i) = false) (hl : ¬ l.length = 60) : doGot seen l m works = ⟨m.e, l.take (lowAt m.i l) ++ ⟨m.i, m.p, if works then 1 else 2⟩ :: l.drop (lowAt m.i l), 0⟩ := by
  unfold doGot; rw [if_neg h, if_pos hk, itemAt_has, ha, if_neg (by simp), if_neg hl, itemPut_low ha]
theorem doGot_gone {seen : Int} {l : List RV} {m : MV} {works : Bool} {x : RV} {k : Nat} (hr : Rise l) (h : ¬ m.e < seen) (hk : m.k = 2) (hx : l[k]? = some x) (hz : x.c = m.i) : doGot seen l m works = ⟨m.e, l.set k ⟨x.c, x.m, 2⟩, 0⟩ := by
  have ha : l.any (fun x => x.c == m.i) = true := List.any_eq_true.2 ⟨x, List.mem_of_getElem? hx, by simpa using hz⟩
  unfold doGot; rw [if_neg h, if_neg (by omega), itemAt_has, ha, if_pos rfl, ← hz, goneAt_set hr hx]
theorem doGot_none {seen : Int} {l : List RV} {m : MV} {works : Bool} (h : ¬ m.e < seen) (hk : m.k = 2) (ha : l.any (fun x => x.c == m.i) = false) : doGot seen l m works = .bad 6 := by
  unfold doGot; rw [if_neg h, if_neg (by omega), itemAt_has, ha, if_neg (by simp)]
theorem provDo_len (seen : Int) (l : List RV) (m : MV) (works : Bool) : (provDo seen l m works).items.length ≤ 1048576 := by
  unfold provDo
  split
  · rename_i h
    rw [Bool.and_eq_true] at h
    have h60 := (provOk_all h.1).2.1
    have := itemPut_len ⟨m.i, m.p, if works then 1 else 2⟩ l
    have := goneAt_length m.i l
    unfold doGot
    split
    · simp [SA.bad]
    · split
      · split
        · show l.length ≤ _; omega
        · split
          · simp [SA.bad]
          · show (itemPut _ _).length ≤ _; omega
      · split
        · show (goneAt _ _).length ≤ _; omega
        · simp [SA.bad]
  · simp [SA.bad]
def provState (seen : Int) (l : List RV) (id : Int) : Int := if provOk seen l then (itemAt l id).1.p else 0
def upIn (pool : Int) (l : List RV) : Nat := l.countP fun x => x.m == pool && x.p == 1
def provCount (seen : Int) (l : List RV) (pool : Int) : Int := if provOk seen l then (upIn pool l : Int) else -1
def provFail (seen : Int) (l : List RV) (id : Int) : SA := if provOk seen l then (if (itemAt l id).1.p = 1 then ⟨seen, goneAt id l, 0⟩ else .bad 6) else .bad 1
theorem provFail_len (seen : Int) (l : List RV) (id : Int) : (provFail seen l id).items.length ≤ 1048576 := by
  unfold provFail
  split
  · rename_i h
    have h60 := (provOk_all h).2.1
    have := goneAt_length id l
    split
    · show (goneAt _ _).length ≤ _; omega
    · simp [SA.bad]
  · simp [SA.bad]
end Go.Proofs.Ytbmiefhgkagcgaa
