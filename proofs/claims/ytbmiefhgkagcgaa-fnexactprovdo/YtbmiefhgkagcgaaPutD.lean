/- What StorePut and StoreDrop compute, in plain Lean. -/
import Derived.Test.YtbmiefhgkagcgaaStoreP
namespace Go.Proofs.Ytbmiefhgkagcgaa

/-- An answer of StorePut or StoreDrop: an epoch, items and a code. -/
structure SA where
  ep : Int
  items : List RV
  code : Int
def SA.bad (k : Int) : SA := ⟨0, [], k⟩
theorem itemPut_len (r : RV) (l : List RV) : (itemPut r l).length ≤ l.length + 1 := by
  induction l with
  | nil => simp [itemPut]
  | cons y ys ih =>
    unfold itemPut
    split
    · simp
    · split
      · simp
      · simp; omega
/-- What a valid put gets. -/
def putGot (ep : Int) (l : List RV) (epoch : Int) (it : RV) : SA :=
  if epoch < ep then .bad 3 else if it.p = (itemAt l it.c).1.p then (if (!(itemAt l it.c).2 && decide (l.length = 20)) || decide (it.p = 1000000) then .bad 5 else ⟨epoch, itemPut ⟨it.c, it.m, it.p + 1⟩ l, 0⟩) else .bad 4
def storePut (ep : Int) (l : List RV) (epoch : Int) (it : RV) : SA := if storeOk ep l && lWithin epoch 1 1000 && itemIn it 0 then putGot ep l epoch it else .bad 1
theorem storePut_eq (ep : Int) (l : List RV) (epoch : Int) (it : RV) (b1 b2 b3 : Bool) (h1 : storeOk ep l = b1) (h2 : lWithin epoch 1 1000 = b2) (h3 : itemIn it 0 = b3) : storePut ep l epoch it = if b1 && b2 && b3 then putGot ep l epoch it else .bad 1 := by
  subst h1 h2 h3; rfl
theorem putGot_old {ep epoch : Int} {l : List RV} {it : RV} (h : epoch < ep) : putGot ep l epoch it = .bad 3 := by unfold putGot; rw [if_pos h]
theorem putGot_clash {ep epoch : Int} {l : List RV} {it old : RV} {f : Bool} (h : ¬ epoch < ep) (ha : itemAt l it.c = (old, f)) (h2 : ¬ it.p = old.p) : putGot ep l epoch it = .bad 4 := by
  unfold putGot; rw [if_neg h, ha, if_neg h2]
theorem putGot_full {ep epoch : Int} {l : List RV} {it old : RV} {f : Bool} (h : ¬ epoch < ep) (ha : itemAt l it.c = (old, f)) (h2 : it.p = old.p) (h3 : (f = false ∧ l.length = 20) ∨ it.p = 1000000) : putGot ep l epoch it = .bad 5 := by
  unfold putGot
  rw [if_neg h, ha, if_pos h2, if_pos]
  rcases h3 with ⟨rfl, h3⟩ | h3 <;> simp [h3]
theorem putGot_fine {ep epoch : Int} {l : List RV} {it old : RV} {f : Bool} (h : ¬ epoch < ep) (ha : itemAt l it.c = (old, f)) (h2 : it.p = old.p) (h3 : ¬ (f = false ∧ l.length = 20)) (h4 : ¬ it.p = 1000000) : putGot ep l epoch it = ⟨epoch, itemPut ⟨it.c, it.m, it.p + 1⟩ l, 0⟩ := by
  unfold putGot
  rw [if_neg h, ha, if_pos h2, if_neg]
  cases f <;> simp_all
/-- What a valid drop gets. -/
def dropGot (ep : Int) (l : List RV) (epoch key ver : Int) : SA :=
  if epoch < ep then .bad 3 else if (itemAt l key).2 then (if ver = (itemAt l key).1.p then ⟨epoch, itemDel key l, 0⟩ else .bad 4) else .bad 6
def storeDrop (ep : Int) (l : List RV) (epoch key ver : Int) : SA := if storeOk ep l && lWithin epoch 1 1000 then dropGot ep l epoch key ver else .bad 1
theorem storeDrop_eq (ep : Int) (l : List RV) (epoch key ver : Int) (b1 b2 : Bool) (h1 : storeOk ep l = b1) (h2 : lWithin epoch 1 1000 = b2) : storeDrop ep l epoch key ver = if b1 && b2 then dropGot ep l epoch key ver else .bad 1 := by
  subst h1 h2; rfl
theorem dropGot_old {ep epoch key ver : Int} {l : List RV} (h : epoch < ep) : dropGot ep l epoch key ver = .bad 3 := by unfold dropGot; rw [if_pos h]
theorem dropGot_none {ep epoch key ver : Int} {l : List RV} {old : RV} (h : ¬ epoch < ep) (ha : itemAt l key = (old, false)) : dropGot ep l epoch key ver = .bad 6 := by unfold dropGot; rw [if_neg h, ha]; rfl
theorem dropGot_clash {ep epoch key ver : Int} {l : List RV} {old : RV} (h : ¬ epoch < ep) (ha : itemAt l key = (old, true)) (h2 : ¬ ver = old.p) : dropGot ep l epoch key ver = .bad 4 := by unfold dropGot; rw [if_neg h, ha, if_pos rfl, if_neg h2]
theorem dropGot_fine {ep epoch key ver : Int} {l : List RV} {old : RV} (h : ¬ epoch < ep) (ha : itemAt l key = (old, true)) (h2 : ver = old.p) : dropGot ep l epoch key ver = ⟨epoch, itemDel key l, 0⟩ := by unfold dropGot; rw [if_neg h, ha, if_pos rfl, if_pos h2]
theorem storeDrop_len (ep : Int) (l : List RV) (epoch key ver : Int) : (storeDrop ep l epoch key ver).items.length ≤ 1048576 := by
  unfold storeDrop
  split
  · rename_i h
    rw [Bool.and_eq_true] at h
    have h20 := (storeOk_all h.1).2.1
    have := List.length_filter_le (fun x : RV => !(x.c == key)) l
    unfold dropGot itemDel
    split
    · simp [SA.bad]
    · split
      · split
        · show (List.filter _ _).length ≤ _; omega
        · simp [SA.bad]
      · simp [SA.bad]
  · simp [SA.bad]
theorem storePut_len (ep : Int) (l : List RV) (epoch : Int) (it : RV) : (storePut ep l epoch it).items.length ≤ 1048576 := by
  unfold storePut
  split
  · rename_i h
    rw [Bool.and_eq_true, Bool.and_eq_true] at h
    have h20 := (storeOk_all h.1.1).2.1
    have := itemPut_len ⟨it.c, it.m, it.p + 1⟩ l
    unfold putGot
    split
    · simp [SA.bad]
    · split
      · split
        · simp [SA.bad]
        · show (itemPut _ _).length ≤ _; omega
      · simp [SA.bad]
  · simp [SA.bad]
end Go.Proofs.Ytbmiefhgkagcgaa
