/- Memory of a call's own, block by block: rows, tasks, nodes, bindings; append. The contracts of the model's l03CopyTask and l03CopyNode. The contract of the model's l03Copy. -/
import Derived.Test.YtflcacbpceinaaaGreatDoorCluMem
import Derived.Maps.AppendAt
import Derived.Laws.OwnMore
import Derived.OwnWalk
import Derived.Deep.RegionHeld3
import Derived.Test.YtflcacbpceinaaaGreatDoorCluTo
import Derived.Deep.RegionLaw
namespace Go.Proofs.YtflcacbpceinaaaGreatDoor
open Go.RowKit

/-- The block that a slice value owns. -/
def blk (v : Value) : List Nat := v.ownBlock.toList
/-- In w' the blocks bs are as they were in w. -/
def Agree (bs : List Nat) (w w' : World) : Prop := ∀ b ∈ bs, w'.heap[b]? = w.heap[b]?
theorem Agree.left {a b : List Nat} {w w' : World} (h : Agree (a ++ b) w w') : Agree a w w' := fun x hx => h x (List.mem_append_left _ hx)
theorem Agree.right {a b : List Nat} {w w' : World} (h : Agree (a ++ b) w w') : Agree b w w' := fun x hx => h x (List.mem_append_right _ hx)
theorem Agree.trans {bs : List Nat} {w w1 w2 : World} (h : Agree bs w w1) (k : Agree bs w1 w2) : Agree bs w w2 := fun b hb => (k b hb).trans (h b hb)
theorem Agree.of_below {bs : List Nat} {B : Nat} {w w' : World} (hb : Below B w w') (h : ∀ b ∈ bs, b < B) : Agree bs w w' := fun b hx => hb.block b (h b hx)
theorem Agree.of_grown {bs : List Nat} {w w' : World} {row : Option Nat} (hg : w.grownBy w' row) (h : ∀ b ∈ bs, b < w.heap.size ∧ some b ≠ row) : Agree bs w w' := fun b hx => hg.block b (h b hx).1 (h b hx).2

section
variable {w w' : World} {e : TypeId} {size n : Nat} {v : Value} {xs : List Value}
theorem own_agree {base : Nat} (h : w.ownsRow base e size v n xs) (ha : Agree (blk v) w w') : w'.ownsRow base e size v n xs := by
  obtain ⟨h1, h2⟩ := h
  refine ⟨h1, ?_⟩
  rcases h2 with h | ⟨g, cap, cur, rfl, hg, hh, h⟩
  · exact .inl h
  · exact .inr ⟨g, cap, cur, rfl, hg, (ha g (by simp [blk, Value.ownBlock])).trans hh, h⟩
theorem own_lt {base : Nat} (h : w.ownsRow base e size v n xs) : ∀ b ∈ blk v, b < w.heap.size := by
  rcases h.2 with ⟨rfl, _⟩ | ⟨g, cap, cur, rfl, hg, hh, _⟩
  · intro b hb; simp [blk, Value.ownBlock] at hb
  · intro b hb
    simp [blk, Value.ownBlock] at hb
    subst hb
    exact (Array.getElem?_eq_some_iff.1 hh).1
theorem own_form {base : Nat} (h : w.ownsRow base e size v n xs) : ∃ A c, v = .slice A n c ∧ (0 < n → ∃ b, A = some ⟨b, 0, none⟩ ∧ b < w.heap.size ∧ CellsAt w b 0 xs) := by
  obtain ⟨h1, h2⟩ := h
  rcases h2 with ⟨rfl, rfl⟩ | ⟨g, cap, cur, rfl, hg, hh, hnc, _, hs, ht⟩
  · exact ⟨none, 0, rfl, fun h => absurd h (by omega)⟩
  · refine ⟨_, cap, rfl, fun _ => ⟨g, rfl, (Array.getElem?_eq_some_iff.1 hh).1, fun j u hu => ?_⟩⟩
    rw [← ht] at hu
    have hj : j < n * size := by
      have := (List.getElem?_eq_some_iff.1 hu).1
      rw [List.length_take] at this; omega
    rw [List.getElem?_take_of_lt hj] at hu
    simp [World.cell?, hh]
    simpa using hu
end

/-- append of a slice that reads as 'news' (or is empty) onto a row of the call's own. -/
theorem run_append_zero {P : Program} (w : World) (t ty e : TypeId) (i : TypeInfo) (size : Nat) (ht : P.underlying t = some (.slice e)) (hi : P.info? e = some i)
    (v : Value) (n : Nat) (xs : List Value) (A : Option Addr) (c : Nat) (hown : w.ownsRow 0 e size v n xs) :
    (Builtin.append_ #[t, t] ty #[v, .slice A 0 c]).run P w = .ok v w := by
  rcases hown.2 with ⟨rfl, rfl⟩ | ⟨g, cap, cur, rfl, _, _, hnc, _⟩
  · cases A <;> simp [Builtin.append_, run_underlying ht, sizeOf, typeInfo, hi, Builtin.lenOf, Builtin.firstCells, loadCells, loadCellsFrom, storeCells]
  · cases A <;> simp [Builtin.append_, run_underlying ht, sizeOf, typeInfo, hi, Builtin.lenOf, Builtin.firstCells, hnc, storeCells, loadCells, loadCellsFrom]
theorem grownBy_refl (w : World) (row : Option Nat) : w.grownBy w row := ⟨rfl, rfl, rfl, Nat.le_refl _, fun _ _ _ => rfl⟩
theorem cellsAt_add {w : World} {b off : Nat} {news : List Value} (h : CellsAt w b off news) : ∀ j u, news[j]? = some u → w.cell? ((⟨b, off, none⟩ : Addr).add j) = some u := fun j u hu => by
  rw [Go.WideShapes.add_plain]; exact h j u hu
section
variable {P : Program} {ops : Array Oper} {rest : List Oper} {o : Oper} {a : Act} {Q : Exit → Act → World → Prop}
theorem wpList_spread (w : World) (hgd : o.guard = none) (s x : Operand) (t : TypeId)
    (ho : o.op = .call { callee := .builtin .append, args := #[s, x], argTypes := #[t, t] })
    (e : TypeId) (i : TypeInfo) (z : Value) (size bytes : Nat) (ht : P.underlying t = some (.slice e)) (hi : P.info? e = some i) (hz : i.zero = some z)
    (hsize : i.size = size) (hby : i.bytes = bytes) (hzs : z.cells.size = size) (hsz : 0 < size)
    (v : Value) (n : Nat) (xs : List Value) (hs : a.eval s = v) (hown : w.ownsRow 0 e size v n xs)
    (A : Option Addr) (m c : Nat) (news : List Value) (hx : a.eval x = .slice A m c) (hl : news.length = m * size) (hnews : 0 < m → ∃ b off, A = some ⟨b, off, none⟩ ∧ CellsAt w b off news) (h1 : ∀ u ∈ news, u.oneCell' = true)
    (h63 : n + m ≤ maxLen) (hbytes : (n + m) * bytes ≤ 140737488355328)
    (h : ∀ v' w', w'.ownsRow 0 e size v' (n + m) (xs ++ news) → w.grownBy w' v.ownBlock → (v'.ownBlock = v.ownBlock ∨ v'.ownBlock = some w.heap.size) → wpList P ops Q rest (a.put o.dst v') w') :
    wpList P ops Q (o :: rest) a w := by
  rcases Nat.eq_zero_or_pos m with rfl | hm
  · obtain rfl : news = [] := List.eq_nil_of_length_eq_zero (by simpa using hl)
    refine wpList_plain hgd fun K hK => ?_
    have hrun := run_append_zero (P := P) w t o.type e i size ht hi v n xs A c hown
    unfold Oper.wp
    simp [execOp, ho, resolve, invoke, builtin, hs, hx, hrun, Result.andThen]
    exact hK _ _ (h v w (by simpa using hown) (grownBy_refl _ _) (.inl rfl))
  · obtain ⟨b, off, rfl, hc⟩ := hnews hm
    exact wpList_append_own_at w hgd s x t ho 0 e i z size bytes ht hi hz hsize hby hzs hsz v n xs hs hown ⟨b, off, none⟩ m c news hx hl (cellsAt_add hc) h1 h63 hbytes (Nat.zero_le _) (fun v' w' h2 h3 _ h5 => h v' w' h2 h3 h5)
/-- The same as one step of a region that draws. -/
theorem step_spread {K : Act → World → Prop} {E : Prop} (w : World) (hgd : o.guard = none) (s x : Operand) (t : TypeId)
    (ho : o.op = .call { callee := .builtin .append, args := #[s, x], argTypes := #[t, t] })
    (e : TypeId) (i : TypeInfo) (z : Value) (size bytes : Nat) (ht : P.underlying t = some (.slice e)) (hi : P.info? e = some i) (hz : i.zero = some z)
    (hsize : i.size = size) (hby : i.bytes = bytes) (hzs : z.cells.size = size) (hsz : 0 < size)
    (v : Value) (n : Nat) (xs : List Value) (hs : a.eval s = v) (hown : w.ownsRow 0 e size v n xs)
    (A : Option Addr) (m c : Nat) (news : List Value) (hx : a.eval x = .slice A m c) (hl : news.length = m * size) (hnews : 0 < m → ∃ b off, A = some ⟨b, off, none⟩ ∧ CellsAt w b off news) (h1 : ∀ u ∈ news, u.oneCell' = true)
    (h63 : n + m ≤ maxLen) (hbytes : (n + m) * bytes ≤ 140737488355328)
    (h : ∀ v' w', w'.ownsRow 0 e size v' (n + m) (xs ++ news) → w.grownBy w' v.ownBlock → (v'.ownBlock = v.ownBlock ∨ v'.ownBlock = some w.heap.size) → K (a.put o.dst v') w') :
    Oper.wp P o a w K Q := by
  rcases Nat.eq_zero_or_pos m with rfl | hm
  · obtain rfl : news = [] := List.eq_nil_of_length_eq_zero (by simpa using hl)
    have hrun := run_append_zero (P := P) w t o.type e i size ht hi v n xs A c hown
    unfold Oper.wp
    simp [execOp, ho, resolve, invoke, builtin, hs, hx, hrun, Result.andThen]
    exact h v w (by simpa using hown) (grownBy_refl _ _) (.inl rfl)
  · obtain ⟨b, off, rfl, hc⟩ := hnews hm
    obtain ⟨v', w', hr, h2, h3, _, h5⟩ := run_append_own_at (P := P) w 0 t o.type e i z size bytes ht hi hz hsize hby hzs hsz v n xs hown ⟨b, off, none⟩ m c news hl (cellsAt_add hc) h1 h63 hbytes (Nat.zero_le _)
    unfold Oper.wp execOp
    simp only [ho, resolve, invoke, builtin, Sem.run_bind, Sem.run_pure, Result.andThen_ok, List.map_toArray, List.map_cons, List.map_nil, hs, hx, hr]
    exact h v' w' h2 h3 h5
end

/-- The elements l lie one behind the other in the cells xs; bs are the blocks of their inner lists. -/
def Elems {α : Type} (R : World → α → List Value → List Nat → Prop) (w : World) : List α → List Value → List Nat → Prop
  | [], xs, bs => xs = [] ∧ bs = []
  | x :: r, xs, bs => ∃ cs ys b1 b2, xs = cs ++ ys ∧ bs = b1 ++ b2 ∧ R w x cs b1 ∧ Elems R w r ys b2
/-- R depends on its blocks alone. -/
def Framed {α : Type} (R : World → α → List Value → List Nat → Prop) : Prop := ∀ (w w' : World) (x : α) (cs : List Value) (bs : List Nat), R w x cs bs → Agree bs w w' → R w' x cs bs
section
variable {α : Type} {R : World → α → List Value → List Nat → Prop} {w w' : World} {l : List α} {xs : List Value} {bs : List Nat}
theorem Elems.agree (hR : Framed R) (h : Elems R w l xs bs) (ha : Agree bs w w') : Elems R w' l xs bs := by
  induction l generalizing xs bs with
  | nil => exact h
  | cons x r ih =>
    obtain ⟨cs, ys, b1, b2, rfl, rfl, h1, h2⟩ := h
    exact ⟨cs, ys, b1, b2, rfl, rfl, hR _ _ _ _ _ h1 ha.left, ih h2 ha.right⟩
theorem Elems.snoc {x : α} {cs : List Value} {b : List Nat} (h : Elems R w l xs bs) (hx : R w x cs b) : Elems R w (l ++ [x]) (xs ++ cs) (bs ++ b) := by
  induction l generalizing xs bs with
  | nil =>
    obtain ⟨rfl, rfl⟩ := h
    exact ⟨cs, [], b, [], by simp, by simp, hx, rfl, rfl⟩
  | cons y r ih =>
    obtain ⟨ds, ys, b1, b2, rfl, rfl, h1, h2⟩ := h
    exact ⟨ds, ys ++ cs, b1, b2 ++ b, by simp, by simp, h1, ih h2⟩
theorem Elems.at {n : Nat} (hn : ∀ x cs b, R w x cs b → cs.length = n) (h : Elems R w l xs bs) {i : Nat} {x : α} (hx : l[i]? = some x) : ∃ cs b, R w x cs b ∧ (∀ c ∈ b, c ∈ bs) ∧ ∀ (j : Nat) (u : Value), cs[j]? = some u → xs[i * n + j]? = some u := by
  induction l generalizing xs bs i with
  | nil => simp at hx
  | cons y r ih =>
    obtain ⟨ds, ys, b1, b2, rfl, rfl, h1, h2⟩ := h
    cases i with
    | zero =>
      simp at hx; subst hx
      refine ⟨ds, b1, h1, fun c hc => List.mem_append_left _ hc, fun j u hu => ?_⟩
      rw [Nat.zero_mul, Nat.zero_add, List.getElem?_append_left (List.getElem?_eq_some_iff.1 hu).1]; exact hu
    | succ i =>
      obtain ⟨cs, b, a1, a2, a3⟩ := ih h2 (by simpa using hx)
      refine ⟨cs, b, a1, fun c hc => List.mem_append_right _ (a2 c hc), fun j u hu => ?_⟩
      have := hn _ _ _ h1
      rw [List.getElem?_append_right (by rw [this, Nat.add_mul]; omega), this, show (i + 1) * n + j - n = i * n + j by rw [Nat.add_mul]; omega]
      exact a3 j u hu
/-- A row of the call's own with what its elements own; bs are all their blocks. -/
def RowO (R : World → α → List Value → List Nat → Prop) (ty : TypeId) (n : Nat) (w : World) (v : Value) (l : List α) (bs : List Nat) : Prop := ∃ xs b, w.ownsRow 0 ty n v l.length xs ∧ Elems R w l xs b ∧ bs = blk v ++ b
theorem RowO.agree {ty : TypeId} {n : Nat} {v : Value} (hR : Framed R) (h : RowO R ty n w v l bs) (ha : Agree bs w w') : RowO R ty n w' v l bs := by
  obtain ⟨xs, b, h1, h2, rfl⟩ := h
  exact ⟨xs, b, own_agree h1 ha.left, h2.agree hR ha.right, rfl⟩
theorem RowO.sl {ty : TypeId} {n : Nat} {v : Value} {S : World → α → List Value → Prop} (hn : ∀ x cs b, R w x cs b → cs.length = n) (hS : ∀ x cs b, R w x cs b → S w x cs) (h : RowO R ty n w v l bs) : GSl S n w v l := by
  obtain ⟨xs, b, h1, h2, rfl⟩ := h
  obtain ⟨A, c, rfl, hA⟩ := own_form h1
  rcases Nat.eq_zero_or_pos l.length with h0 | hp
  · obtain rfl : l = [] := List.eq_nil_of_length_eq_zero h0
    exact .inl ⟨rfl, _, _, rfl⟩
  · obtain ⟨g, rfl, hlt, hc⟩ := hA hp
    refine .inr ⟨g, 0, c, rfl, hlt, fun i x hx => ?_⟩
    obtain ⟨cs, b', a1, _, a3⟩ := h2.at hn hx
    exact ⟨cs, hS _ _ _ a1, fun j u hu => by rw [show 0 + i * n + j = 0 + (i * n + j) by omega]; exact hc _ _ (a3 j u hu)⟩
end

def intL (l : List Int) : List Value := l.map (Value.int .i64)
def LabO (w : World) (v : Value) (l : List LV) : Prop := w.ownsRow 0 133 2 v l.length (labL l)
def IntO (w : World) (v : Value) (l : List Int) : Prop := w.ownsRow 0 3 1 v l.length (intL l)
theorem LabO.sl {w : World} {v : Value} {l : List LV} (h : LabO w v l) : LabSl w v l := by
  obtain ⟨A, c, rfl, hA⟩ := own_form h
  rcases Nat.eq_zero_or_pos l.length with h0 | hp
  · obtain rfl : l = [] := List.eq_nil_of_length_eq_zero h0
    exact .inl ⟨rfl, _, _, rfl⟩
  · obtain ⟨g, rfl, hlt, hc⟩ := hA hp
    refine .inr ⟨g, 0, c, rfl, hlt, fun i r hr => ?_⟩
    obtain ⟨h1, h2⟩ := labL_at hr
    exact ⟨hc _ _ h1, hc _ _ h2⟩
theorem IntO.sl {w : World} {v : Value} {l : List Int} (h : IntO w v l) : IntSl w v l := by
  obtain ⟨A, c, rfl, hA⟩ := own_form h
  rcases Nat.eq_zero_or_pos l.length with h0 | hp
  · obtain rfl : l = [] := List.eq_nil_of_length_eq_zero h0
    exact .inl ⟨rfl, _, _, rfl⟩
  · obtain ⟨g, rfl, hlt, hc⟩ := hA hp
    exact .inr ⟨g, 0, c, rfl, hlt, fun i r hr => hc _ _ (by simp [intL, hr])⟩
/-- The cells of a task of the call's own, and the blocks of its lists. -/
def TaskO (w : World) (t : TV) (cs : List Value) (bs : List Nat) : Prop := ∃ v1 v2, cs = [.int .i64 t.id, .int .i64 t.prio, .int .i64 t.need.c, .int .i64 t.need.m, .int .i64 t.need.p, v1, v2] ∧ LabO w v1 t.want ∧ IntO w v2 t.tols ∧ bs = blk v1 ++ blk v2 ∧ t.want.length ≤ 1048576 ∧ t.tols.length ≤ 1048576
def NodeO (w : World) (t : NV) (cs : List Value) (bs : List Nat) : Prop := ∃ v1 v2, cs = [.int .i64 t.id, .int .i64 t.pool, .int .i64 t.cap.c, .int .i64 t.cap.m, .int .i64 t.cap.p, v1, v2, .bool t.cordon] ∧ LabO w v1 t.labs ∧ IntO w v2 t.taints ∧ bs = blk v1 ++ blk v2 ∧ t.labs.length ≤ 1048576 ∧ t.taints.length ≤ 1048576
def BindO (_ : World) (t : BV) (cs : List Value) (bs : List Nat) : Prop := cs = [.int .i64 t.task, .int .i64 t.node] ∧ bs = []
theorem TaskO.framed : Framed TaskO := fun _ _ _ _ _ ⟨v1, v2, e, h1, h2, hb, h3⟩ ha => by
  subst hb
  exact ⟨v1, v2, e, own_agree h1 ha.left, own_agree h2 ha.right, rfl, h3⟩
theorem TaskO.r {w : World} {t : TV} {cs : List Value} {bs : List Nat} (h : TaskO w t cs bs) : TaskR w t cs := by
  obtain ⟨v1, v2, e, h1, h2, _, h3⟩ := h
  exact ⟨v1, v2, e, h1.sl, h2.sl, h3⟩
theorem TaskO.len {w : World} {t : TV} {cs : List Value} {bs : List Nat} (h : TaskO w t cs bs) : cs.length = 7 := by
  obtain ⟨v1, v2, e, _⟩ := h; subst e; rfl
theorem TaskO.lt {w : World} {t : TV} {cs : List Value} {bs : List Nat} (h : TaskO w t cs bs) : ∀ b ∈ bs, b < w.heap.size := by
  obtain ⟨v1, v2, _, h1, h2, rfl, _⟩ := h
  intro b hb
  rcases List.mem_append.1 hb with hb | hb
  · exact own_lt h1 b hb
  · exact own_lt h2 b hb
theorem NodeO.framed : Framed NodeO := fun _ _ _ _ _ ⟨v1, v2, e, h1, h2, hb, h3⟩ ha => by
  subst hb
  exact ⟨v1, v2, e, own_agree h1 ha.left, own_agree h2 ha.right, rfl, h3⟩
theorem NodeO.r {w : World} {t : NV} {cs : List Value} {bs : List Nat} (h : NodeO w t cs bs) : NodeR w t cs := by
  obtain ⟨v1, v2, e, h1, h2, _, h3⟩ := h
  exact ⟨v1, v2, e, h1.sl, h2.sl, h3⟩
theorem NodeO.len {w : World} {t : NV} {cs : List Value} {bs : List Nat} (h : NodeO w t cs bs) : cs.length = 8 := by
  obtain ⟨v1, v2, e, _⟩ := h; subst e; rfl
theorem NodeO.lt {w : World} {t : NV} {cs : List Value} {bs : List Nat} (h : NodeO w t cs bs) : ∀ b ∈ bs, b < w.heap.size := by
  obtain ⟨v1, v2, _, h1, h2, rfl, _⟩ := h
  intro b hb
  rcases List.mem_append.1 hb with hb | hb
  · exact own_lt h1 b hb
  · exact own_lt h2 b hb
theorem BindO.framed : Framed BindO := fun _ _ _ _ _ h _ => h
theorem BindO.r {w : World} {t : BV} {cs : List Value} {bs : List Nat} (h : BindO w t cs bs) : BindR w t cs := h.1
theorem BindO.len {w : World} {t : BV} {cs : List Value} {bs : List Nat} (h : BindO w t cs bs) : cs.length = 2 := by rw [h.1]; rfl
theorem BindO.lt {w : World} {t : BV} {cs : List Value} {bs : List Nat} (h : BindO w t cs bs) : ∀ b ∈ bs, b < w.heap.size := by rw [h.2]; simp
theorem elems_lt {α : Type} {R : World → α → List Value → List Nat → Prop} {w : World} {l : List α} {xs : List Value} {bs : List Nat} (hR : ∀ x cs b, R w x cs b → ∀ c ∈ b, c < w.heap.size) (h : Elems R w l xs bs) : ∀ b ∈ bs, b < w.heap.size := by
  induction l generalizing xs bs with
  | nil => obtain ⟨_, rfl⟩ := h; simp
  | cons x r ih =>
    obtain ⟨cs, ys, b1, b2, rfl, rfl, h1, h2⟩ := h
    intro b hb
    rcases List.mem_append.1 hb with hb | hb
    · exact hR _ _ _ h1 b hb
    · exact ih h2 b hb
end Go.Proofs.YtflcacbpceinaaaGreatDoor

namespace Go.Proofs.YtflcacbpceinaaaGreatDoor
open Go.RowKit

/-- The ending 'an element of its own, its blocks all new and distinct'. -/
def RetO {α : Type} (R : World → α → List Value → List Nat → Prop) (w : World) (t : α) (e : Ending) (w' : World) : Prop := ∃ ds bs, e = .returned (.agg ds.toArray) ∧ R w' t ds bs ∧ bs.Nodup ∧ (∀ b ∈ bs, w.heap.size ≤ b) ∧ Below w.heap.size w w'
theorem LabSl.news {w : World} {A : Option Addr} {c : Nat} {l : List LV} (h : LabSl w (.slice A l.length c) l) : 0 < l.length → ∃ b off, A = some ⟨b, off, none⟩ ∧ CellsAt w b off (labL l) := by
  intro hp
  obtain ⟨A', c', e, h'⟩ := h.form
  simp only [Value.slice.injEq] at e
  obtain ⟨rfl, _, _⟩ := e
  obtain ⟨b, off, rfl, _, hat⟩ := h' hp
  refine ⟨b, off, rfl, fun j u hu => ?_⟩
  have hj : j < l.length * 2 := by
    have := (List.getElem?_eq_some_iff.1 hu).1
    rwa [labL_len] at this
  obtain ⟨r, hr⟩ : ∃ r, l[j / 2]? = some r := ⟨_, List.getElem?_eq_getElem (by omega)⟩
  obtain ⟨a1, a2⟩ := hat _ _ hr
  obtain ⟨b1, b2⟩ := labL_at hr
  rcases Nat.mod_two_eq_zero_or_one j with e | e
  · have ej : j / 2 * 2 = j := by omega
    rw [ej] at a1 b1
    rw [b1] at hu
    obtain rfl := Option.some.inj hu
    exact a1
  · have ej : j / 2 * 2 + 1 = j := by omega
    rw [Nat.add_assoc, ej] at a2
    rw [ej] at b2
    rw [b2] at hu
    obtain rfl := Option.some.inj hu
    exact a2
theorem IntSl.news {w : World} {A : Option Addr} {c : Nat} {l : List Int} (h : IntSl w (.slice A l.length c) l) : 0 < l.length → ∃ b off, A = some ⟨b, off, none⟩ ∧ CellsAt w b off (intL l) := by
  intro hp
  obtain ⟨A', c', e, h'⟩ := h.form
  simp only [Value.slice.injEq] at e
  obtain ⟨rfl, _, _⟩ := e
  obtain ⟨b, off, rfl, _, hat⟩ := h' hp
  refine ⟨b, off, rfl, fun j u hu => ?_⟩
  simp [intL] at hu
  obtain ⟨r, hr, rfl⟩ := hu
  exact hat _ _ hr
theorem labL_one (l : List LV) : ∀ u ∈ labL l, u.oneCell' = true := by
  intro u hu
  simp [labL] at hu
  obtain ⟨r, _, h | h⟩ := hu <;> subst h <;> rfl
theorem intL_one (l : List Int) : ∀ u ∈ intL l, u.oneCell' = true := by
  intro u hu
  simp [intL] at hu
  obtain ⟨r, _, h⟩ := hu; subst h; rfl
theorem made_own (w : World) (ty : TypeId) (n : Nat) : (w.alloc (.cells #[] ty)).ownsRow 0 ty n (.slice (some ⟨w.heap.size, 0, none⟩) 0 0) 0 [] := by
  have := World.ownsRow_made (base := 0) (e := ty) (size := n) w #[] 0 (Nat.zero_le _) (by unfold maxLen; omega) (by simp)
  simpa using this
theorem made_own' {w : World} {ty : TypeId} {n g : Nat} (h : g = w.heap.size) : (w.alloc (.cells #[] ty)).ownsRow 0 ty n (.slice (some ⟨g, 0, none⟩) 0 0) 0 [] := h ▸ made_own w ty n
theorem blk_of {v v' : Value} {g : Nat} {k : Nat} (hv : v.ownBlock = some g) (h : v'.ownBlock = v.ownBlock ∨ v'.ownBlock = some k) : blk v' = [g] ∨ blk v' = [k] := by
  rcases h with h | h
  · left; simp [blk, h, hv]
  · right; simp [blk, h]

theorem putAll_block {w : World} {g o b : Nat} {ds : List Value} (h : b ≠ g) : (putAll w g o ds).heap[b]? = w.heap[b]? := by
  induction ds generalizing w o with
  | nil => rfl
  | cons u r ih => rw [putAll, ih]; exact Below.heap_setCell _ _ _ b h
set_option maxHeartbeats 1600000 in
theorem sCopyTask_any (t : TV) (cs : List Value) (w : World) (hR : TaskR w t cs) : Calls Tryz.prog 65 #[.agg cs.toArray] w (RetO TaskO w t) := by
  obtain ⟨i1, hi1, hz1, hs1, hy1⟩ := info_parts Tryz.infoLab
  obtain ⟨i2, hi2, hz2, hs2, hy2⟩ := info_parts Tryz.infoI
  obtain ⟨v1, v2, rfl, sl, si, m1, m2⟩ := hR
  obtain ⟨A1, c1, rfl, _⟩ := sl.form
  obtain ⟨A2, c2, rfl, _⟩ := si.form
  have SL := Lib.hid sl
  have SI := Lib.hid si
  have M := Lib.hid (And.intro m1 m2)
  clear sl si m1 m2
  go_enter Tryz.func65, Tryz.ntmps65
  go_upto_region 1 with fail
  have hX : Below w.heap.size w ((w.alloc (.cells #[.int .i64 t.id, .int .i64 t.prio, .int .i64 t.need.c, .int .i64 t.need.m, .int .i64 t.need.p, .slice A1 t.want.length c1, .slice A2 t.tols.length c2] 46)).alloc (.cells #[.int .i64 0, .int .i64 0, .int .i64 0, .int .i64 0, .int .i64 0, .slice none 0 0, .slice none 0 0] 46)) := (by repeat' (first | exact Below.refl _ _ | refine Below.alloc ?_ ?_ _ | refine Below.setCell ?_ ?_ _ | refine Below.drew ?_ | (apply below_step; assumption) | (simp; done) | (simp; omega) | omega))
  have B0 : BlockIs ((w.alloc (.cells #[.int .i64 t.id, .int .i64 t.prio, .int .i64 t.need.c, .int .i64 t.need.m, .int .i64 t.need.p, .slice A1 t.want.length c1, .slice A2 t.tols.length c2] 46)).alloc (.cells #[.int .i64 0, .int .i64 0, .int .i64 0, .int .i64 0, .int .i64 0, .slice none 0 0, .slice none 0 0] 46)) w.heap.size 46 #[.int .i64 t.id, .int .i64 t.prio, .int .i64 t.need.c, .int .i64 t.need.m, .int .i64 t.need.p, .slice A1 t.want.length c1, .slice A2 t.tols.length c2] := (BlockIs.new w _ _).alloc _
  have B1 : BlockIs ((w.alloc (.cells #[.int .i64 t.id, .int .i64 t.prio, .int .i64 t.need.c, .int .i64 t.need.m, .int .i64 t.need.p, .slice A1 t.want.length c1, .slice A2 t.tols.length c2] 46)).alloc (.cells #[.int .i64 0, .int .i64 0, .int .i64 0, .int .i64 0, .int .i64 0, .slice none 0 0, .slice none 0 0] 46)) (w.heap.size + 1) 46 #[.int .i64 0, .int .i64 0, .int .i64 0, .int .i64 0, .int .i64 0, .slice none 0 0, .slice none 0 0] := BlockIs.new' (by simp)
  have hXz : ((w.alloc (.cells #[.int .i64 t.id, .int .i64 t.prio, .int .i64 t.need.c, .int .i64 t.need.m, .int .i64 t.need.p, .slice A1 t.want.length c1, .slice A2 t.tols.length c2] 46)).alloc (.cells #[.int .i64 0, .int .i64 0, .int .i64 0, .int .i64 0, .int .i64 0, .slice none 0 0, .slice none 0 0] 46)).heap.size = w.heap.size + 2 := by simp
  generalize ((w.alloc (.cells #[.int .i64 t.id, .int .i64 t.prio, .int .i64 t.need.c, .int .i64 t.need.m, .int .i64 t.need.p, .slice A1 t.want.length c1, .slice A2 t.tols.length c2] 46)).alloc (.cells #[.int .i64 0, .int .i64 0, .int .i64 0, .int .i64 0, .int .i64 0, .slice none 0 0, .slice none 0 0] 46)) = X at hX B0 B1 hXz ⊢
  have b5 := B0.cell 5
  simp at b5
  have hl0 : w.heap.size < X.heap.size := by omega
  have hl1 : w.heap.size + 1 < X.heap.size := by omega
  have HX := Lib.hid hX
  have HB0 := Lib.hid B0
  have HB1 := Lib.hid B1
  have hXa : Below X.heap.size X (X.alloc (.cells #[] 133)) := (by repeat' (first | exact Below.refl _ _ | refine Below.alloc ?_ ?_ _ | refine Below.setCell ?_ ?_ _ | refine Below.drew ?_ | (apply below_step; assumption) | (simp; done) | (simp; omega) | omega))
  clear B0 B1 hX hXz
  go_upto_region 2 with (at_builtin; refine wpList_spread _ rfl (.tmp 3) (.tmp 5) 44 rfl 133 i1 _ 2 16 Tryz.underlying44 hi1 hz1 hs1 hy1 rfl (by omega) (.slice (some ⟨X.heap.size, 0, none⟩) 0 0) 0 [] rfl (made_own X _ _) A1 t.want.length c1 (labL t.want) rfl (labL_len _) ((SL.out.below (below_of HX.out hXa)).news) (labL_one _) (by have := M.out.1; unfold maxLen; omega) (by have := M.out.1; omega) ?_; intro u1 w1 hown1 hg1 hk1; rw [Nat.zero_add, List.nil_append] at hown1; obtain ⟨E1, d1, rfl, _⟩ := own_form hown1; have hb1 : Below X.heap.size X w1 := hXa.grown hg1 (by simp) (by intro k hk; simp [Value.ownBlock] at hk; omega); have B0 := HB0.out.below hb1 HB0.out.lt; have x5 := B0.cell 5; have xf := B0.frozen; have xl := B0.lt; simp at x5; clear B0)
  have hbl1 : ∀ b ∈ blk (.slice E1 t.want.length d1), X.heap.size ≤ b := by
    have h2 : (Value.slice (some ⟨X.heap.size, 0, none⟩) 0 0).ownBlock = some X.heap.size := rfl
    rcases blk_of h2 hk1 with e | e <;> rw [e] <;> simp
  have hnd1 : (blk (.slice E1 t.want.length d1)).Nodup := by
    have h2 : (Value.slice (some ⟨X.heap.size, 0, none⟩) 0 0).ownBlock = some X.heap.size := rfl
    rcases blk_of h2 hk1 with e | e <;> rw [e] <;> simp
  have BY0 : BlockIs (w1.setCell ⟨w.heap.size, 5, none⟩ (.slice E1 t.want.length d1)) w.heap.size 46 #[.int .i64 t.id, .int .i64 t.prio, .int .i64 t.need.c, .int .i64 t.need.m, .int .i64 t.need.p, .slice E1 t.want.length d1, .slice A2 t.tols.length c2] := by simpa using (HB0.out.below hb1 hl0).put 5 (.slice E1 t.want.length d1)
  have BY1 : BlockIs (w1.setCell ⟨w.heap.size, 5, none⟩ (.slice E1 t.want.length d1)) (w.heap.size + 1) 46 #[.int .i64 0, .int .i64 0, .int .i64 0, .int .i64 0, .int .i64 0, .slice none 0 0, .slice none 0 0] := (HB1.out.below hb1 hl1).far (by dsimp only; omega) _
  have OY := own_agree hown1 (w' := w1.setCell ⟨w.heap.size, 5, none⟩ (.slice E1 t.want.length d1)) (fun b hb => Below.heap_setCell _ _ _ b (by have := hbl1 b hb; dsimp only; omega))
  have hbY : Below w.heap.size w (w1.setCell ⟨w.heap.size, 5, none⟩ (.slice E1 t.want.length d1)) := (below_of HX.out hb1).setCell (Nat.le_refl _) _
  have hYz : X.heap.size ≤ (w1.setCell ⟨w.heap.size, 5, none⟩ (.slice E1 t.want.length d1)).heap.size := by simpa [World.setCell] using hb1.size
  generalize w1.setCell ⟨w.heap.size, 5, none⟩ (.slice E1 t.want.length d1) = Y at BY0 BY1 OY hbY hYz ⊢
  have OL := Lib.hid (And.intro OY (And.intro hbl1 hnd1))
  have HB0 := Lib.hid BY0
  have HB1 := Lib.hid BY1
  have HY := Lib.hid hbY
  have b6 := BY0.cell 6
  have hl0 := BY0.lt
  have hl1 := BY1.lt
  simp at b6
  have hYa : Below Y.heap.size Y (Y.alloc (.cells #[] 3)) := (by repeat' (first | exact Below.refl _ _ | refine Below.alloc ?_ ?_ _ | refine Below.setCell ?_ ?_ _ | refine Below.drew ?_ | (apply below_step; assumption) | (simp; done) | (simp; omega) | omega))
  clear BY0 BY1 OY hbY hown1 hg1 hk1 hb1 xf xl x5 b5 hbl1 hnd1 hXa
  go_upto_region 3 with (at_builtin; refine wpList_spread _ rfl (.tmp 8) (.tmp 10) 30 rfl 3 i2 _ 1 8 Tryz.underlying30 hi2 hz2 hs2 hy2 rfl (by omega) (.slice (some ⟨Y.heap.size, 0, none⟩) 0 0) 0 [] rfl (made_own Y _ _) A2 t.tols.length c2 (intL t.tols) rfl (by simp [intL]) ((SI.out.below (below_of HY.out hYa)).news) (intL_one _) (by have := M.out.2; unfold maxLen; omega) (by have := M.out.2; omega) ?_; intro u2 w2 hown2 hg2 hk2; rw [Nat.zero_add, List.nil_append] at hown2; obtain ⟨E2, d2, rfl, _⟩ := own_form hown2; have hb2 : Below Y.heap.size Y w2 := hYa.grown hg2 (by simp) (by intro k hk; simp [Value.ownBlock] at hk; omega); have B0 := HB0.out.below hb2 HB0.out.lt; have x6 := B0.cell 6; have xf := B0.frozen; have xl := B0.lt; simp at x6; clear B0)
  have hbl2 : ∀ b ∈ blk (.slice E2 t.tols.length d2), Y.heap.size ≤ b := by
    have h2 : (Value.slice (some ⟨Y.heap.size, 0, none⟩) 0 0).ownBlock = some Y.heap.size := rfl
    rcases blk_of h2 hk2 with e | e <;> rw [e] <;> simp
  have hnd2 : (blk (.slice E2 t.tols.length d2)).Nodup := by
    have h2 : (Value.slice (some ⟨Y.heap.size, 0, none⟩) 0 0).ownBlock = some Y.heap.size := rfl
    rcases blk_of h2 hk2 with e | e <;> rw [e] <;> simp
  obtain ⟨OY, hbl1, hnd1⟩ := OL.out
  have hY1 := own_lt OY
  have O1 := own_agree OY (Agree.of_below hb2 hY1)
  have BZ0 : BlockIs (w2.setCell ⟨w.heap.size, 6, none⟩ (.slice E2 t.tols.length d2)) w.heap.size 46 #[.int .i64 t.id, .int .i64 t.prio, .int .i64 t.need.c, .int .i64 t.need.m, .int .i64 t.need.p, .slice E1 t.want.length d1, .slice E2 t.tols.length d2] := by simpa using (HB0.out.below hb2 hl0).put 6 (.slice E2 t.tols.length d2)
  have BZ1 : BlockIs (w2.setCell ⟨w.heap.size, 6, none⟩ (.slice E2 t.tols.length d2)) (w.heap.size + 1) 46 #[.int .i64 0, .int .i64 0, .int .i64 0, .int .i64 0, .int .i64 0, .slice none 0 0, .slice none 0 0] := (HB1.out.below hb2 hl1).far (by dsimp only; omega) _
  have P1 := own_agree O1 (w' := w2.setCell ⟨w.heap.size, 6, none⟩ (.slice E2 t.tols.length d2)) (fun b hb => Below.heap_setCell _ _ _ b (by have := hbl1 b hb; dsimp only; omega))
  have P2 := own_agree hown2 (w' := w2.setCell ⟨w.heap.size, 6, none⟩ (.slice E2 t.tols.length d2)) (fun b hb => Below.heap_setCell _ _ _ b (by have := hbl2 b hb; dsimp only; omega))
  have hbZ : Below w.heap.size w (w2.setCell ⟨w.heap.size, 6, none⟩ (.slice E2 t.tols.length d2)) := (below_of HY.out hb2).setCell (Nat.le_refl _) _
  generalize w2.setCell ⟨w.heap.size, 6, none⟩ (.slice E2 t.tols.length d2) = Z at BZ0 BZ1 P1 P2 hbZ ⊢
  have y0 := BZ0.cell 0; have y1 := BZ0.cell 1; have y2 := BZ0.cell 2; have y3 := BZ0.cell 3; have y4 := BZ0.cell 4; have y5 := BZ0.cell 5; have y6 := BZ0.cell 6
  have z0 := BZ1.cell 0; have z1 := BZ1.cell 1; have z2 := BZ1.cell 2; have z3 := BZ1.cell 3; have z4 := BZ1.cell 4; have z5 := BZ1.cell 5; have z6 := BZ1.cell 6
  have zf := BZ1.frozen
  simp at y0 y1 y2 y3 y4 y5 y6 z0 z1 z2 z3 z4 z5 z6
  have PP := Lib.hid (And.intro P1 (And.intro P2 (And.intro hbl1 (And.intro hnd1 (And.intro hbl2 (And.intro hnd2 (And.intro hY1 BZ1)))))))
  clear OY O1 P1 P2 hbl1 hnd1 hbl2 hnd2 hY1 BZ0 BZ1 hown2 hg2 hk2 hb2 xf xl x6 b6 hYa OL HB0 HB1
  go_wp2_with fail
  obtain ⟨P1, P2, hbl1, hnd1, hbl2, hnd2, hY1, BZ1⟩ := PP.out
  have hV : BlockIs (((((((Z.setCell ⟨w.heap.size + 1, 0, none⟩ (.int .i64 t.id)).setCell ⟨w.heap.size + 1, 1, none⟩ (.int .i64 t.prio)).setCell ⟨w.heap.size + 1, 2, none⟩ (.int .i64 t.need.c)).setCell ⟨w.heap.size + 1, 3, none⟩ (.int .i64 t.need.m)).setCell ⟨w.heap.size + 1, 4, none⟩ (.int .i64 t.need.p)).setCell ⟨w.heap.size + 1, 5, none⟩ (.slice E1 t.want.length d1)).setCell ⟨w.heap.size + 1, 6, none⟩ (.slice E2 t.tols.length d2)) (w.heap.size + 1) 46 #[.int .i64 t.id, .int .i64 t.prio, .int .i64 t.need.c, .int .i64 t.need.m, .int .i64 t.need.p, .slice E1 t.want.length d1, .slice E2 t.tols.length d2] := put7 _ _ _ _ _ _ _ BZ1 rfl
  have hA1 : Agree (blk (.slice E1 t.want.length d1)) Z (((((((Z.setCell ⟨w.heap.size + 1, 0, none⟩ (.int .i64 t.id)).setCell ⟨w.heap.size + 1, 1, none⟩ (.int .i64 t.prio)).setCell ⟨w.heap.size + 1, 2, none⟩ (.int .i64 t.need.c)).setCell ⟨w.heap.size + 1, 3, none⟩ (.int .i64 t.need.m)).setCell ⟨w.heap.size + 1, 4, none⟩ (.int .i64 t.need.p)).setCell ⟨w.heap.size + 1, 5, none⟩ (.slice E1 t.want.length d1)).setCell ⟨w.heap.size + 1, 6, none⟩ (.slice E2 t.tols.length d2)) := fun b hb => putAll_block (ds := [.int .i64 t.id, .int .i64 t.prio, .int .i64 t.need.c, .int .i64 t.need.m, .int .i64 t.need.p, .slice E1 t.want.length d1, .slice E2 t.tols.length d2]) (by have := hbl1 b hb; omega)
  have hA2 : Agree (blk (.slice E2 t.tols.length d2)) Z (((((((Z.setCell ⟨w.heap.size + 1, 0, none⟩ (.int .i64 t.id)).setCell ⟨w.heap.size + 1, 1, none⟩ (.int .i64 t.prio)).setCell ⟨w.heap.size + 1, 2, none⟩ (.int .i64 t.need.c)).setCell ⟨w.heap.size + 1, 3, none⟩ (.int .i64 t.need.m)).setCell ⟨w.heap.size + 1, 4, none⟩ (.int .i64 t.need.p)).setCell ⟨w.heap.size + 1, 5, none⟩ (.slice E1 t.want.length d1)).setCell ⟨w.heap.size + 1, 6, none⟩ (.slice E2 t.tols.length d2)) := fun b hb => putAll_block (ds := [.int .i64 t.id, .int .i64 t.prio, .int .i64 t.need.c, .int .i64 t.need.m, .int .i64 t.need.p, .slice E1 t.want.length d1, .slice E2 t.tols.length d2]) (by have := hbl2 b hb; omega)
  have hB : Below w.heap.size w (((((((Z.setCell ⟨w.heap.size + 1, 0, none⟩ (.int .i64 t.id)).setCell ⟨w.heap.size + 1, 1, none⟩ (.int .i64 t.prio)).setCell ⟨w.heap.size + 1, 2, none⟩ (.int .i64 t.need.c)).setCell ⟨w.heap.size + 1, 3, none⟩ (.int .i64 t.need.m)).setCell ⟨w.heap.size + 1, 4, none⟩ (.int .i64 t.need.p)).setCell ⟨w.heap.size + 1, 5, none⟩ (.slice E1 t.want.length d1)).setCell ⟨w.heap.size + 1, 6, none⟩ (.slice E2 t.tols.length d2)) := below7 hbZ (by omega)
  have Q1 := own_agree P1 hA1
  have Q2 := own_agree P2 hA2
  generalize (((((((Z.setCell ⟨w.heap.size + 1, 0, none⟩ (.int .i64 t.id)).setCell ⟨w.heap.size + 1, 1, none⟩ (.int .i64 t.prio)).setCell ⟨w.heap.size + 1, 2, none⟩ (.int .i64 t.need.c)).setCell ⟨w.heap.size + 1, 3, none⟩ (.int .i64 t.need.m)).setCell ⟨w.heap.size + 1, 4, none⟩ (.int .i64 t.need.p)).setCell ⟨w.heap.size + 1, 5, none⟩ (.slice E1 t.want.length d1)).setCell ⟨w.heap.size + 1, 6, none⟩ (.slice E2 t.tols.length d2)) = V at hV Q1 Q2 hB ⊢
  have x0 := hV.cell 0; have x1 := hV.cell 1; have x2 := hV.cell 2; have x3 := hV.cell 3; have x4 := hV.cell 4; have x5 := hV.cell 5; have x6 := hV.cell 6
  simp at x0 x1 x2 x3 x4 x5 x6
  refine bodyPost_ret (v := .agg #[.int .i64 t.id, .int .i64 t.prio, .int .i64 t.need.c, .int .i64 t.need.m, .int .i64 t.need.p, .slice E1 t.want.length d1, .slice E2 t.tols.length d2]) (by simp [results, Tryz.results65, go_sem, x0, x1, x2, x3, x4, x5, x6]) rfl ⟨_, _, rfl, ⟨_, _, rfl, Q1, Q2, rfl, M.out⟩, ?_, ?_, hB⟩
  · rw [List.nodup_append]
    exact ⟨hnd1, hnd2, fun a ha b hb e => by have := hY1 a ha; have := hbl2 b hb; omega⟩
  · intro b hb
    rcases List.mem_append.1 hb with h | h
    · have := hbl1 b h; omega
    · have := hbl2 b h; omega
set_option maxHeartbeats 1600000 in
theorem sCopyNode_any (t : NV) (cs : List Value) (w : World) (hR : NodeR w t cs) : Calls Tryz.prog 89 #[.agg cs.toArray] w (RetO NodeO w t) := by
  obtain ⟨i1, hi1, hz1, hs1, hy1⟩ := info_parts Tryz.infoLab
  obtain ⟨i2, hi2, hz2, hs2, hy2⟩ := info_parts Tryz.infoI
  obtain ⟨v1, v2, rfl, sl, si, m1, m2⟩ := hR
  obtain ⟨A1, c1, rfl, _⟩ := sl.form
  obtain ⟨A2, c2, rfl, _⟩ := si.form
  have SL := Lib.hid sl
  have SI := Lib.hid si
  have M := Lib.hid (And.intro m1 m2)
  clear sl si m1 m2
  go_enter Tryz.func89, Tryz.ntmps89
  go_upto_region 1 with fail
  have hX : Below w.heap.size w ((w.alloc (.cells #[.int .i64 t.id, .int .i64 t.pool, .int .i64 t.cap.c, .int .i64 t.cap.m, .int .i64 t.cap.p, .slice A1 t.labs.length c1, .slice A2 t.taints.length c2, .bool t.cordon] 60)).alloc (.cells #[.int .i64 0, .int .i64 0, .int .i64 0, .int .i64 0, .int .i64 0, .slice none 0 0, .slice none 0 0, .bool false] 60)) := (by repeat' (first | exact Below.refl _ _ | refine Below.alloc ?_ ?_ _ | refine Below.setCell ?_ ?_ _ | refine Below.drew ?_ | (apply below_step; assumption) | (simp; done) | (simp; omega) | omega))
  have B0 : BlockIs ((w.alloc (.cells #[.int .i64 t.id, .int .i64 t.pool, .int .i64 t.cap.c, .int .i64 t.cap.m, .int .i64 t.cap.p, .slice A1 t.labs.length c1, .slice A2 t.taints.length c2, .bool t.cordon] 60)).alloc (.cells #[.int .i64 0, .int .i64 0, .int .i64 0, .int .i64 0, .int .i64 0, .slice none 0 0, .slice none 0 0, .bool false] 60)) w.heap.size 60 #[.int .i64 t.id, .int .i64 t.pool, .int .i64 t.cap.c, .int .i64 t.cap.m, .int .i64 t.cap.p, .slice A1 t.labs.length c1, .slice A2 t.taints.length c2, .bool t.cordon] := (BlockIs.new w _ _).alloc _
  have B1 : BlockIs ((w.alloc (.cells #[.int .i64 t.id, .int .i64 t.pool, .int .i64 t.cap.c, .int .i64 t.cap.m, .int .i64 t.cap.p, .slice A1 t.labs.length c1, .slice A2 t.taints.length c2, .bool t.cordon] 60)).alloc (.cells #[.int .i64 0, .int .i64 0, .int .i64 0, .int .i64 0, .int .i64 0, .slice none 0 0, .slice none 0 0, .bool false] 60)) (w.heap.size + 1) 60 #[.int .i64 0, .int .i64 0, .int .i64 0, .int .i64 0, .int .i64 0, .slice none 0 0, .slice none 0 0, .bool false] := BlockIs.new' (by simp)
  have hXz : ((w.alloc (.cells #[.int .i64 t.id, .int .i64 t.pool, .int .i64 t.cap.c, .int .i64 t.cap.m, .int .i64 t.cap.p, .slice A1 t.labs.length c1, .slice A2 t.taints.length c2, .bool t.cordon] 60)).alloc (.cells #[.int .i64 0, .int .i64 0, .int .i64 0, .int .i64 0, .int .i64 0, .slice none 0 0, .slice none 0 0, .bool false] 60)).heap.size = w.heap.size + 2 := by simp
  generalize ((w.alloc (.cells #[.int .i64 t.id, .int .i64 t.pool, .int .i64 t.cap.c, .int .i64 t.cap.m, .int .i64 t.cap.p, .slice A1 t.labs.length c1, .slice A2 t.taints.length c2, .bool t.cordon] 60)).alloc (.cells #[.int .i64 0, .int .i64 0, .int .i64 0, .int .i64 0, .int .i64 0, .slice none 0 0, .slice none 0 0, .bool false] 60)) = X at hX B0 B1 hXz ⊢
  have b5 := B0.cell 5
  simp at b5
  have hl0 : w.heap.size < X.heap.size := by omega
  have hl1 : w.heap.size + 1 < X.heap.size := by omega
  have HX := Lib.hid hX
  have HB0 := Lib.hid B0
  have HB1 := Lib.hid B1
  have hXa : Below X.heap.size X (X.alloc (.cells #[] 133)) := (by repeat' (first | exact Below.refl _ _ | refine Below.alloc ?_ ?_ _ | refine Below.setCell ?_ ?_ _ | refine Below.drew ?_ | (apply below_step; assumption) | (simp; done) | (simp; omega) | omega))
  clear B0 B1 hX hXz
  go_upto_region 2 with (at_builtin; refine wpList_spread _ rfl (.tmp 3) (.tmp 5) 44 rfl 133 i1 _ 2 16 Tryz.underlying44 hi1 hz1 hs1 hy1 rfl (by omega) (.slice (some ⟨X.heap.size, 0, none⟩) 0 0) 0 [] rfl (made_own X _ _) A1 t.labs.length c1 (labL t.labs) rfl (labL_len _) ((SL.out.below (below_of HX.out hXa)).news) (labL_one _) (by have := M.out.1; unfold maxLen; omega) (by have := M.out.1; omega) ?_; intro u1 w1 hown1 hg1 hk1; rw [Nat.zero_add, List.nil_append] at hown1; obtain ⟨E1, d1, rfl, _⟩ := own_form hown1; have hb1 : Below X.heap.size X w1 := hXa.grown hg1 (by simp) (by intro k hk; simp [Value.ownBlock] at hk; omega); have B0 := HB0.out.below hb1 HB0.out.lt; have x5 := B0.cell 5; have xf := B0.frozen; have xl := B0.lt; simp at x5; clear B0)
  have hbl1 : ∀ b ∈ blk (.slice E1 t.labs.length d1), X.heap.size ≤ b := by
    have h2 : (Value.slice (some ⟨X.heap.size, 0, none⟩) 0 0).ownBlock = some X.heap.size := rfl
    rcases blk_of h2 hk1 with e | e <;> rw [e] <;> simp
  have hnd1 : (blk (.slice E1 t.labs.length d1)).Nodup := by
    have h2 : (Value.slice (some ⟨X.heap.size, 0, none⟩) 0 0).ownBlock = some X.heap.size := rfl
    rcases blk_of h2 hk1 with e | e <;> rw [e] <;> simp
  have BY0 : BlockIs (w1.setCell ⟨w.heap.size, 5, none⟩ (.slice E1 t.labs.length d1)) w.heap.size 60 #[.int .i64 t.id, .int .i64 t.pool, .int .i64 t.cap.c, .int .i64 t.cap.m, .int .i64 t.cap.p, .slice E1 t.labs.length d1, .slice A2 t.taints.length c2, .bool t.cordon] := by simpa using (HB0.out.below hb1 hl0).put 5 (.slice E1 t.labs.length d1)
  have BY1 : BlockIs (w1.setCell ⟨w.heap.size, 5, none⟩ (.slice E1 t.labs.length d1)) (w.heap.size + 1) 60 #[.int .i64 0, .int .i64 0, .int .i64 0, .int .i64 0, .int .i64 0, .slice none 0 0, .slice none 0 0, .bool false] := (HB1.out.below hb1 hl1).far (by dsimp only; omega) _
  have OY := own_agree hown1 (w' := w1.setCell ⟨w.heap.size, 5, none⟩ (.slice E1 t.labs.length d1)) (fun b hb => Below.heap_setCell _ _ _ b (by have := hbl1 b hb; dsimp only; omega))
  have hbY : Below w.heap.size w (w1.setCell ⟨w.heap.size, 5, none⟩ (.slice E1 t.labs.length d1)) := (below_of HX.out hb1).setCell (Nat.le_refl _) _
  have hYz : X.heap.size ≤ (w1.setCell ⟨w.heap.size, 5, none⟩ (.slice E1 t.labs.length d1)).heap.size := by simpa [World.setCell] using hb1.size
  generalize w1.setCell ⟨w.heap.size, 5, none⟩ (.slice E1 t.labs.length d1) = Y at BY0 BY1 OY hbY hYz ⊢
  have OL := Lib.hid (And.intro OY (And.intro hbl1 hnd1))
  have HB0 := Lib.hid BY0
  have HB1 := Lib.hid BY1
  have HY := Lib.hid hbY
  have b6 := BY0.cell 6
  have hl0 := BY0.lt
  have hl1 := BY1.lt
  simp at b6
  have hYa : Below Y.heap.size Y (Y.alloc (.cells #[] 3)) := (by repeat' (first | exact Below.refl _ _ | refine Below.alloc ?_ ?_ _ | refine Below.setCell ?_ ?_ _ | refine Below.drew ?_ | (apply below_step; assumption) | (simp; done) | (simp; omega) | omega))
  clear BY0 BY1 OY hbY hown1 hg1 hk1 hb1 xf xl x5 b5 hbl1 hnd1 hXa
  go_upto_region 3 with (at_builtin; refine wpList_spread _ rfl (.tmp 8) (.tmp 10) 30 rfl 3 i2 _ 1 8 Tryz.underlying30 hi2 hz2 hs2 hy2 rfl (by omega) (.slice (some ⟨Y.heap.size, 0, none⟩) 0 0) 0 [] rfl (made_own Y _ _) A2 t.taints.length c2 (intL t.taints) rfl (by simp [intL]) ((SI.out.below (below_of HY.out hYa)).news) (intL_one _) (by have := M.out.2; unfold maxLen; omega) (by have := M.out.2; omega) ?_; intro u2 w2 hown2 hg2 hk2; rw [Nat.zero_add, List.nil_append] at hown2; obtain ⟨E2, d2, rfl, _⟩ := own_form hown2; have hb2 : Below Y.heap.size Y w2 := hYa.grown hg2 (by simp) (by intro k hk; simp [Value.ownBlock] at hk; omega); have B0 := HB0.out.below hb2 HB0.out.lt; have x6 := B0.cell 6; have xf := B0.frozen; have xl := B0.lt; simp at x6; clear B0)
  have hbl2 : ∀ b ∈ blk (.slice E2 t.taints.length d2), Y.heap.size ≤ b := by
    have h2 : (Value.slice (some ⟨Y.heap.size, 0, none⟩) 0 0).ownBlock = some Y.heap.size := rfl
    rcases blk_of h2 hk2 with e | e <;> rw [e] <;> simp
  have hnd2 : (blk (.slice E2 t.taints.length d2)).Nodup := by
    have h2 : (Value.slice (some ⟨Y.heap.size, 0, none⟩) 0 0).ownBlock = some Y.heap.size := rfl
    rcases blk_of h2 hk2 with e | e <;> rw [e] <;> simp
  obtain ⟨OY, hbl1, hnd1⟩ := OL.out
  have hY1 := own_lt OY
  have O1 := own_agree OY (Agree.of_below hb2 hY1)
  have BZ0 : BlockIs (w2.setCell ⟨w.heap.size, 6, none⟩ (.slice E2 t.taints.length d2)) w.heap.size 60 #[.int .i64 t.id, .int .i64 t.pool, .int .i64 t.cap.c, .int .i64 t.cap.m, .int .i64 t.cap.p, .slice E1 t.labs.length d1, .slice E2 t.taints.length d2, .bool t.cordon] := by simpa using (HB0.out.below hb2 hl0).put 6 (.slice E2 t.taints.length d2)
  have BZ1 : BlockIs (w2.setCell ⟨w.heap.size, 6, none⟩ (.slice E2 t.taints.length d2)) (w.heap.size + 1) 60 #[.int .i64 0, .int .i64 0, .int .i64 0, .int .i64 0, .int .i64 0, .slice none 0 0, .slice none 0 0, .bool false] := (HB1.out.below hb2 hl1).far (by dsimp only; omega) _
  have P1 := own_agree O1 (w' := w2.setCell ⟨w.heap.size, 6, none⟩ (.slice E2 t.taints.length d2)) (fun b hb => Below.heap_setCell _ _ _ b (by have := hbl1 b hb; dsimp only; omega))
  have P2 := own_agree hown2 (w' := w2.setCell ⟨w.heap.size, 6, none⟩ (.slice E2 t.taints.length d2)) (fun b hb => Below.heap_setCell _ _ _ b (by have := hbl2 b hb; dsimp only; omega))
  have hbZ : Below w.heap.size w (w2.setCell ⟨w.heap.size, 6, none⟩ (.slice E2 t.taints.length d2)) := (below_of HY.out hb2).setCell (Nat.le_refl _) _
  generalize w2.setCell ⟨w.heap.size, 6, none⟩ (.slice E2 t.taints.length d2) = Z at BZ0 BZ1 P1 P2 hbZ ⊢
  have y0 := BZ0.cell 0; have y1 := BZ0.cell 1; have y2 := BZ0.cell 2; have y3 := BZ0.cell 3; have y4 := BZ0.cell 4; have y5 := BZ0.cell 5; have y6 := BZ0.cell 6; have y7 := BZ0.cell 7
  have z0 := BZ1.cell 0; have z1 := BZ1.cell 1; have z2 := BZ1.cell 2; have z3 := BZ1.cell 3; have z4 := BZ1.cell 4; have z5 := BZ1.cell 5; have z6 := BZ1.cell 6; have z7 := BZ1.cell 7
  have zf := BZ1.frozen
  simp at y0 y1 y2 y3 y4 y5 y6 y7 z0 z1 z2 z3 z4 z5 z6 z7
  have PP := Lib.hid (And.intro P1 (And.intro P2 (And.intro hbl1 (And.intro hnd1 (And.intro hbl2 (And.intro hnd2 (And.intro hY1 BZ1)))))))
  clear OY O1 P1 P2 hbl1 hnd1 hbl2 hnd2 hY1 BZ0 BZ1 hown2 hg2 hk2 hb2 xf xl x6 b6 hYa OL HB0 HB1
  go_wp2_with fail
  obtain ⟨P1, P2, hbl1, hnd1, hbl2, hnd2, hY1, BZ1⟩ := PP.out
  have hV : BlockIs ((((((((Z.setCell ⟨w.heap.size + 1, 0, none⟩ (.int .i64 t.id)).setCell ⟨w.heap.size + 1, 1, none⟩ (.int .i64 t.pool)).setCell ⟨w.heap.size + 1, 2, none⟩ (.int .i64 t.cap.c)).setCell ⟨w.heap.size + 1, 3, none⟩ (.int .i64 t.cap.m)).setCell ⟨w.heap.size + 1, 4, none⟩ (.int .i64 t.cap.p)).setCell ⟨w.heap.size + 1, 5, none⟩ (.slice E1 t.labs.length d1)).setCell ⟨w.heap.size + 1, 6, none⟩ (.slice E2 t.taints.length d2)).setCell ⟨w.heap.size + 1, 7, none⟩ (.bool t.cordon)) (w.heap.size + 1) 60 #[.int .i64 t.id, .int .i64 t.pool, .int .i64 t.cap.c, .int .i64 t.cap.m, .int .i64 t.cap.p, .slice E1 t.labs.length d1, .slice E2 t.taints.length d2, .bool t.cordon] := put8 _ _ _ _ _ _ _ _ BZ1 rfl
  have hA1 : Agree (blk (.slice E1 t.labs.length d1)) Z ((((((((Z.setCell ⟨w.heap.size + 1, 0, none⟩ (.int .i64 t.id)).setCell ⟨w.heap.size + 1, 1, none⟩ (.int .i64 t.pool)).setCell ⟨w.heap.size + 1, 2, none⟩ (.int .i64 t.cap.c)).setCell ⟨w.heap.size + 1, 3, none⟩ (.int .i64 t.cap.m)).setCell ⟨w.heap.size + 1, 4, none⟩ (.int .i64 t.cap.p)).setCell ⟨w.heap.size + 1, 5, none⟩ (.slice E1 t.labs.length d1)).setCell ⟨w.heap.size + 1, 6, none⟩ (.slice E2 t.taints.length d2)).setCell ⟨w.heap.size + 1, 7, none⟩ (.bool t.cordon)) := fun b hb => putAll_block (ds := [.int .i64 t.id, .int .i64 t.pool, .int .i64 t.cap.c, .int .i64 t.cap.m, .int .i64 t.cap.p, .slice E1 t.labs.length d1, .slice E2 t.taints.length d2, .bool t.cordon]) (by have := hbl1 b hb; omega)
  have hA2 : Agree (blk (.slice E2 t.taints.length d2)) Z ((((((((Z.setCell ⟨w.heap.size + 1, 0, none⟩ (.int .i64 t.id)).setCell ⟨w.heap.size + 1, 1, none⟩ (.int .i64 t.pool)).setCell ⟨w.heap.size + 1, 2, none⟩ (.int .i64 t.cap.c)).setCell ⟨w.heap.size + 1, 3, none⟩ (.int .i64 t.cap.m)).setCell ⟨w.heap.size + 1, 4, none⟩ (.int .i64 t.cap.p)).setCell ⟨w.heap.size + 1, 5, none⟩ (.slice E1 t.labs.length d1)).setCell ⟨w.heap.size + 1, 6, none⟩ (.slice E2 t.taints.length d2)).setCell ⟨w.heap.size + 1, 7, none⟩ (.bool t.cordon)) := fun b hb => putAll_block (ds := [.int .i64 t.id, .int .i64 t.pool, .int .i64 t.cap.c, .int .i64 t.cap.m, .int .i64 t.cap.p, .slice E1 t.labs.length d1, .slice E2 t.taints.length d2, .bool t.cordon]) (by have := hbl2 b hb; omega)
  have hB : Below w.heap.size w ((((((((Z.setCell ⟨w.heap.size + 1, 0, none⟩ (.int .i64 t.id)).setCell ⟨w.heap.size + 1, 1, none⟩ (.int .i64 t.pool)).setCell ⟨w.heap.size + 1, 2, none⟩ (.int .i64 t.cap.c)).setCell ⟨w.heap.size + 1, 3, none⟩ (.int .i64 t.cap.m)).setCell ⟨w.heap.size + 1, 4, none⟩ (.int .i64 t.cap.p)).setCell ⟨w.heap.size + 1, 5, none⟩ (.slice E1 t.labs.length d1)).setCell ⟨w.heap.size + 1, 6, none⟩ (.slice E2 t.taints.length d2)).setCell ⟨w.heap.size + 1, 7, none⟩ (.bool t.cordon)) := below8 hbZ (by omega)
  have Q1 := own_agree P1 hA1
  have Q2 := own_agree P2 hA2
  generalize ((((((((Z.setCell ⟨w.heap.size + 1, 0, none⟩ (.int .i64 t.id)).setCell ⟨w.heap.size + 1, 1, none⟩ (.int .i64 t.pool)).setCell ⟨w.heap.size + 1, 2, none⟩ (.int .i64 t.cap.c)).setCell ⟨w.heap.size + 1, 3, none⟩ (.int .i64 t.cap.m)).setCell ⟨w.heap.size + 1, 4, none⟩ (.int .i64 t.cap.p)).setCell ⟨w.heap.size + 1, 5, none⟩ (.slice E1 t.labs.length d1)).setCell ⟨w.heap.size + 1, 6, none⟩ (.slice E2 t.taints.length d2)).setCell ⟨w.heap.size + 1, 7, none⟩ (.bool t.cordon)) = V at hV Q1 Q2 hB ⊢
  have x0 := hV.cell 0; have x1 := hV.cell 1; have x2 := hV.cell 2; have x3 := hV.cell 3; have x4 := hV.cell 4; have x5 := hV.cell 5; have x6 := hV.cell 6; have x7 := hV.cell 7
  simp at x0 x1 x2 x3 x4 x5 x6 x7
  refine bodyPost_ret (v := .agg #[.int .i64 t.id, .int .i64 t.pool, .int .i64 t.cap.c, .int .i64 t.cap.m, .int .i64 t.cap.p, .slice E1 t.labs.length d1, .slice E2 t.taints.length d2, .bool t.cordon]) (by simp [results, Tryz.results89, go_sem, x0, x1, x2, x3, x4, x5, x6, x7]) rfl ⟨_, _, rfl, ⟨_, _, rfl, Q1, Q2, rfl, M.out⟩, ?_, ?_, hB⟩
  · rw [List.nodup_append]
    exact ⟨hnd1, hnd2, fun a ha b hb e => by have := hY1 a ha; have := hbl2 b hb; omega⟩
  · intro b hb
    rcases List.mem_append.1 hb with h | h
    · have := hbl1 b h; omega
    · have := hbl2 b h; omega
end Go.Proofs.YtflcacbpceinaaaGreatDoor

namespace Go.Proofs.YtflcacbpceinaaaGreatDoor
open Go.RowKit

/-- Of what was there in w only block g may have turned. -/
structure KeepB (g : Nat) (w w' : World) : Prop where
  os : w'.os = w.os
  tape : w'.tape = w.tape
  output : w'.output = w.output
  size : w.heap.size ≤ w'.heap.size
  block : ∀ k, k < w.heap.size → k ≠ g → w'.heap[k]? = w.heap[k]?
section
variable {g : Nat} {w w' w'' : World}
theorem KeepB.refl (g : Nat) (w : World) : KeepB g w w := ⟨rfl, rfl, rfl, Nat.le_refl _, fun _ _ _ => rfl⟩
theorem KeepB.trans (h : KeepB g w w') (k : KeepB g w' w'') : KeepB g w w'' :=
  ⟨k.os.trans h.os, k.tape.trans h.tape, k.output.trans h.output, Nat.le_trans h.size k.size, fun b hb hne => (k.block b (Nat.lt_of_lt_of_le hb h.size) hne).trans (h.block b hb hne)⟩
theorem KeepB.step (h : KeepB g w w') (hb : Below w'.heap.size w' w'') : KeepB g w w'' := h.trans ⟨hb.os, hb.tape, hb.output, hb.size, fun k hk _ => hb.block k hk⟩
theorem KeepB.put (h : KeepB g w w') (o : Nat) (u : Value) : KeepB g w (w'.setCell ⟨g, o, none⟩ u) := h.trans ⟨rfl, rfl, rfl, by simp [World.setCell], fun k _ hne => Below.heap_setCell _ _ _ k hne⟩
theorem KeepB.grown (h : KeepB g w w') {row : Option Nat} (hg : w'.grownBy w'' row) (hr : ∀ k, row = some k → w.heap.size ≤ k) : KeepB g w w'' :=
  ⟨hg.os.trans h.os, hg.tape.trans h.tape, hg.output.trans h.output, Nat.le_trans h.size hg.size, fun k hk hne => (hg.block k (Nat.lt_of_lt_of_le hk h.size) (fun e => by have := hr k e.symm; omega)).trans (h.block k hk hne)⟩
theorem KeepB.below {B : Nat} (h : KeepB g w w') (hB : B ≤ w.heap.size) (hg : B ≤ g) : Below B w w' := ⟨h.os, h.tape, h.output, h.size, fun k hk => h.block k (by omega) (by omega)⟩
theorem BlockIs.keep {b : Nat} {t : TypeId} {cs : Array Value} (h : BlockIs w b t cs) (k : KeepB g w w') (hne : b ≠ g) : BlockIs w' b t cs := (k.block b h.lt hne).trans h
end

section
variable {P : Program} {ops : Array Oper} {o : Oper} {a : Act} {Q : Exit → Act → World → Prop}
theorem step_spread_if {K : Act → World → Prop} {E : Prop} (w : World) (hgd : o.guard = none) (s x : Operand) (t : TypeId)
    (ho : o.op = .call { callee := .builtin .append, args := #[s, x], argTypes := #[t, t] })
    (e : TypeId) (i : TypeInfo) (z : Value) (size bytes : Nat) (ht : P.underlying t = some (.slice e)) (hi : P.info? e = some i) (hz : i.zero = some z)
    (hsize : i.size = size) (hby : i.bytes = bytes) (hzs : z.cells.size = size) (hsz : 0 < size)
    (v : Value) (n : Nat) (xs : List Value) (hs : a.eval s = v) (hown : w.ownsRow 0 e size v n xs)
    (A : Option Addr) (m c : Nat) (news : List Value) (hx : a.eval x = .slice A m c) (hl : news.length = m * size) (hnews : 0 < m → ∃ b off, A = some ⟨b, off, none⟩ ∧ CellsAt w b off news) (h1 : ∀ u ∈ news, u.oneCell' = true)
    (h63 : n + m ≤ maxLen) (hbytes : (n + m) * bytes ≤ 140737488355328)
    (h : ∀ v' w', w'.ownsRow 0 e size v' (n + m) (xs ++ news) → w.grownBy w' v.ownBlock → (v'.ownBlock = v.ownBlock ∨ v'.ownBlock = some w.heap.size) → K (a.put o.dst v') w') :
    if Region.wanted o (yielded ops a.tmps) = true then Oper.wp P o a w K Q else E := by
  have hw : Region.wanted o (yielded ops a.tmps) = true := by simp [Region.wanted, hgd]
  rw [if_pos hw]
  exact step_spread (E := E) w hgd s x t ho e i z size bytes ht hi hz hsize hby hzs hsz v n xs hs hown A m c news hx hl hnews h1 h63 hbytes h
end
theorem pushed {α : Type} {R : World → α → List Value → List Nat → Prop} {ty : TypeId} {n : Nat} {W w4 : World} {v v' : Value} {l : List α} {x : α} {xs cs : List Value} {b bx : List Nat} (hR : Framed R) (hel : Elems R W l xs b) (hx : R W x cs bx)
    (hnd : (blk v ++ (b ++ bx)).Nodup) (hlt : ∀ c ∈ b ++ bx, c < W.heap.size) (hlv : ∀ c ∈ blk v, c < W.heap.size) (hown : w4.ownsRow 0 ty n v' (l.length + 1) (xs ++ cs)) (hg : W.grownBy w4 v.ownBlock) (hk : v'.ownBlock = v.ownBlock ∨ v'.ownBlock = some W.heap.size) :
    RowO R ty n w4 v' (l ++ [x]) (blk v' ++ (b ++ bx)) ∧ (blk v' ++ (b ++ bx)).Nodup := by
  rw [List.nodup_append] at hnd
  obtain ⟨n1, n2, n3⟩ := hnd
  have ha : Agree (b ++ bx) W w4 := Agree.of_grown hg (fun c hc => ⟨hlt c hc, fun e => n3 c (by simp [blk, ← e]) c hc rfl⟩)
  refine ⟨⟨xs ++ cs, b ++ bx, by simpa using hown, (hel.snoc hx).agree hR ha, rfl⟩, ?_⟩
  rw [List.nodup_append]
  rcases hk with e | e
  · have : blk v' = blk v := by simp [blk, e]
    rw [this]; exact ⟨n1, n2, n3⟩
  · have : blk v' = [W.heap.size] := by simp [blk, e]
    rw [this]
    exact ⟨by simp, n2, fun a ha b' hb e => by simp at ha; have := hlt b' hb; omega⟩
def bindL (l : List BV) : List Value := l.flatMap fun x => [.int .i64 x.task, .int .i64 x.node]
theorem bindL_cons (x : BV) (r : List BV) : bindL (x :: r) = .int .i64 x.task :: .int .i64 x.node :: bindL r := rfl
theorem bindL_len (l : List BV) : (bindL l).length = l.length * 2 := by
  induction l with
  | nil => rfl
  | cons x r ih => rw [bindL_cons]; simp only [List.length_cons, ih]; omega
theorem bindL_at {l : List BV} {i : Nat} {x : BV} (h : l[i]? = some x) : (bindL l)[i * 2]? = some (.int .i64 x.task) ∧ (bindL l)[i * 2 + 1]? = some (.int .i64 x.node) := by
  induction l generalizing i with
  | nil => simp at h
  | cons y r ih =>
    cases i with
    | zero => simp at h; subst h; exact ⟨rfl, rfl⟩
    | succ i =>
      simp at h
      have := ih h
      rw [bindL_cons, show (i + 1) * 2 = i * 2 + 1 + 1 by omega]
      simpa using this
theorem bindL_one (l : List BV) : ∀ u ∈ bindL l, u.oneCell' = true := by
  intro u hu
  simp [bindL] at hu
  obtain ⟨r, _, h | h⟩ := hu <;> subst h <;> rfl
theorem copy_step {α : Type} {R : World → α → List Value → List Nat → Prop} (hR : Framed R) (hRlt : ∀ (w : World) x cs b, R w x cs b → ∀ c ∈ b, c < w.heap.size) {ty : TypeId} {n G k lim off : Nat} {wr w3 w4 : World} {l : List α} {x : α} {xs cs : List Value} {bi bx : List Nat} {v v' u : Value} {o : Obj}
    (hl : l.length = k) (hown : wr.ownsRow 0 ty n v k xs) (hel : Elems R wr l xs bi) (hnd : (blk v ++ bi).Nodup) (hlo : ∀ b ∈ blk v ++ bi, lim ≤ b) (hlim : lim ≤ wr.heap.size)
    (hb3 : Below wr.heap.size wr w3) (hO3 : R w3 x cs bx) (hnd3 : bx.Nodup) (hlo3 : ∀ b ∈ bx, wr.heap.size ≤ b)
    (hg4 : (w3.alloc o).grownBy w4 v.ownBlock) (hk4 : v'.ownBlock = v.ownBlock ∨ v'.ownBlock = some (w3.alloc o).heap.size) (hown4 : w4.ownsRow 0 ty n v' (k + 1) (xs ++ cs)) (hG : G < lim) :
    ∃ bT, RowO R ty n (w4.setCell ⟨G, off, none⟩ u) v' (l ++ [x]) bT ∧ bT.Nodup ∧ ∀ b ∈ bT, lim ≤ b := by
  have hA : Below w3.heap.size w3 (w3.alloc o) := (Below.refl _ _).alloc (Nat.le_refl _) o
  have hz := hb3.size
  have hza := hA.size
  have hlv := own_lt hown
  have hli := elems_lt (fun x cs b h => hRlt _ x cs b h) hel
  have hlx := hRlt _ _ _ _ hO3
  have hel3 := hel.agree hR (Agree.of_below (below_of hb3 hA) hli)
  have hO3' := hR _ _ _ _ _ hO3 (Agree.of_below hA hlx)
  rw [List.nodup_append] at hnd
  obtain ⟨n1, n2, n3⟩ := hnd
  have hn : (blk v ++ (bi ++ bx)).Nodup := by
    rw [List.nodup_append, List.nodup_append]
    refine ⟨n1, ⟨n2, hnd3, fun a ha b hb e => by have := hli a ha; have := hlo3 b hb; omega⟩, fun a ha b hb e => ?_⟩
    rcases List.mem_append.1 hb with hb | hb
    · exact n3 a ha b hb e
    · have := hlv a ha; have := hlo3 b hb; omega
  obtain ⟨hr4, hnd4⟩ := pushed (ty := ty) (n := n) hR hel3 hO3' hn (by
    intro c hc
    rcases List.mem_append.1 hc with h | h
    · have := hli c h; omega
    · have := hlx c h; omega) (by intro c hc; have := hlv c hc; omega) (by rw [hl]; exact hown4) hg4 hk4
  have hlo4 : ∀ b ∈ blk v' ++ (bi ++ bx), lim ≤ b := by
    intro b hb
    rcases List.mem_append.1 hb with h | h
    · rcases hk4 with e | e
      · exact hlo b (List.mem_append_left _ (by simpa [blk, e] using h))
      · simp [blk, e] at h; simp at hza; omega
    · rcases List.mem_append.1 h with h | h
      · exact hlo b (List.mem_append_right _ h)
      · have := hlo3 b h; omega
  refine ⟨_, hr4.agree hR (fun b hb => Below.heap_setCell _ _ _ b (by have := hlo4 b hb; dsimp only; omega)), hnd4, hlo4⟩
theorem BindSl.news {w : World} {A : Option Addr} {c : Nat} {l : List BV} (h : BindSl w (.slice A l.length c) l) : 0 < l.length → ∃ b off, A = some ⟨b, off, none⟩ ∧ CellsAt w b off (bindL l) := by
  intro hp
  obtain ⟨A', c', e, h'⟩ := h.form
  simp only [Value.slice.injEq] at e
  obtain ⟨rfl, _, _⟩ := e
  obtain ⟨b, off, rfl, _, hat⟩ := h' hp
  refine ⟨b, off, rfl, fun j u hu => ?_⟩
  have hj : j < l.length * 2 := by
    have := (List.getElem?_eq_some_iff.1 hu).1
    rwa [bindL_len] at this
  obtain ⟨r, hr⟩ : ∃ r, l[j / 2]? = some r := ⟨_, List.getElem?_eq_getElem (by omega)⟩
  obtain ⟨cs, hc, a⟩ := hat _ _ hr
  obtain rfl : cs = [.int .i64 r.task, .int .i64 r.node] := hc
  obtain ⟨b1, b2⟩ := bindL_at hr
  obtain ⟨a1, a2⟩ := bind_cells a
  rcases Nat.mod_two_eq_zero_or_one j with e | e
  · have ej : j / 2 * 2 = j := by omega
    rw [ej] at a1 b1
    rw [b1] at hu
    obtain rfl := Option.some.inj hu
    exact a1
  · have ej : j / 2 * 2 + 1 = j := by omega
    rw [Nat.add_assoc, ej] at a2
    rw [ej] at b2
    rw [b2] at hu
    obtain rfl := Option.some.inj hu
    exact a2
theorem bind_elems (w : World) (l : List BV) : Elems BindO w l (bindL l) [] := by
  induction l with
  | nil => exact ⟨rfl, rfl⟩
  | cons x r ih => exact ⟨_, _, [], [], rfl, rfl, ⟨rfl, rfl⟩, ih⟩
/-- A cluster of the call's own; bs are all its blocks, no two of them one. -/
def CluO (w : World) (c : CV) (a0 a1 a2 : Value) (bs : List Nat) : Prop := ∃ b0 b1 b2, RowO TaskO 46 7 w a0 c.tasks b0 ∧ RowO NodeO 60 8 w a1 c.nodes b1 ∧ RowO BindO 70 2 w a2 c.binds b2 ∧ bs = b0 ++ (b1 ++ b2) ∧ bs.Nodup ∧ c.tasks.length ≤ 1048576 ∧ c.nodes.length ≤ 1048576 ∧ c.binds.length ≤ 1048576
theorem CluO.agree {w w' : World} {c : CV} {a0 a1 a2 : Value} {bs : List Nat} (h : CluO w c a0 a1 a2 bs) (ha : Agree bs w w') : CluO w' c a0 a1 a2 bs := by
  obtain ⟨b0, b1, b2, h0, h1, h2, rfl, h3⟩ := h
  exact ⟨b0, b1, b2, h0.agree TaskO.framed ha.left, h1.agree NodeO.framed ha.right.left, h2.agree BindO.framed ha.right.right, rfl, h3⟩
theorem CluO.clu {w : World} {c : CV} {a0 a1 a2 : Value} {bs : List Nat} (h : CluO w c a0 a1 a2 bs) : CluR w c a0 a1 a2 := by
  obtain ⟨b0, b1, b2, h0, h1, h2, _, _, l⟩ := h
  exact ⟨h0.sl (fun _ _ _ h => h.len) (fun _ _ _ h => h.r), h1.sl (fun _ _ _ h => h.len) (fun _ _ _ h => h.r), h2.sl (fun _ _ _ h => h.len) (fun _ _ _ h => h.r), l⟩
theorem rowO_lt {α : Type} {R : World → α → List Value → List Nat → Prop} {ty : TypeId} {n : Nat} {w : World} {v : Value} {l : List α} {bs : List Nat} (hR : ∀ x cs b, R w x cs b → ∀ c ∈ b, c < w.heap.size) (h : RowO R ty n w v l bs) : ∀ b ∈ bs, b < w.heap.size := by
  obtain ⟨xs, b, h1, h2, rfl⟩ := h
  intro c hc
  rcases List.mem_append.1 hc with h | h
  · exact own_lt h1 c h
  · exact elems_lt hR h2 c h
/-- The ending 'a cluster of the call's own'. -/
def RetClu (w : World) (c : CV) (e : Ending) (w' : World) : Prop := ∃ a0 a1 a2 bs, e = .returned (.agg #[a0, a1, a2]) ∧ CluO w' c a0 a1 a2 bs ∧ (∀ b ∈ bs, w.heap.size ≤ b) ∧ Below w.heap.size w w'

set_option maxHeartbeats 6400000 in
set_option maxRecDepth 20000 in
theorem sCopy_any (c : CV) (a0 a1 a2 : Value) (w : World) (hc : CluR w c a0 a1 a2) : Calls Tryz.prog 64 #[.agg #[a0, a1, a2]] w (RetClu w c) := by
  obtain ⟨i0, hi0, hz0, hs0, hy0⟩ := info_parts Tryz.infoTask
  obtain ⟨i1, hi1, hz1, hs1, hy1⟩ := info_parts Tryz.infoNode
  obtain ⟨i2, hi2, hz2, hs2, hy2⟩ := info_parts Tryz.infoBind
  have HC := Lib.hid hc
  obtain ⟨h0, h1, h2, l0, l1, l2⟩ := hc
  obtain ⟨D0, e0, rfl, rT⟩ := h0.form
  obtain ⟨D1, e1, rfl, rN⟩ := h1.form
  obtain ⟨D2, e2, rfl, rB⟩ := h2.form
  have HT := Lib.hid rT
  have HN := Lib.hid rN
  clear h0 h1 h2 rT rN rB
  go_enter Tryz.func64, Tryz.ntmps64
  go_upto_region 1 with fail
  have hX : Below w.heap.size w ((w.alloc (.cells #[.slice D0 c.tasks.length e0, .slice D1 c.nodes.length e1, .slice D2 c.binds.length e2] 39)).alloc (.cells #[.slice none 0 0, .slice none 0 0, .slice none 0 0] 39)) := (by repeat' (first | exact Below.refl _ _ | refine Below.alloc ?_ ?_ _ | refine Below.setCell ?_ ?_ _ | refine Below.drew ?_ | (apply below_step; assumption) | (simp; done) | (simp; omega) | omega))
  have B0 : BlockIs ((w.alloc (.cells #[.slice D0 c.tasks.length e0, .slice D1 c.nodes.length e1, .slice D2 c.binds.length e2] 39)).alloc (.cells #[.slice none 0 0, .slice none 0 0, .slice none 0 0] 39)) w.heap.size 39 #[.slice D0 c.tasks.length e0, .slice D1 c.nodes.length e1, .slice D2 c.binds.length e2] := (BlockIs.new w _ _).alloc _
  have B1 : BlockIs ((w.alloc (.cells #[.slice D0 c.tasks.length e0, .slice D1 c.nodes.length e1, .slice D2 c.binds.length e2] 39)).alloc (.cells #[.slice none 0 0, .slice none 0 0, .slice none 0 0] 39)) (w.heap.size + 1) 39 #[.slice none 0 0, .slice none 0 0, .slice none 0 0] := BlockIs.new' (by simp)
  have hXz : ((w.alloc (.cells #[.slice D0 c.tasks.length e0, .slice D1 c.nodes.length e1, .slice D2 c.binds.length e2] 39)).alloc (.cells #[.slice none 0 0, .slice none 0 0, .slice none 0 0] 39)).heap.size = w.heap.size + 2 := by simp
  generalize ((w.alloc (.cells #[.slice D0 c.tasks.length e0, .slice D1 c.nodes.length e1, .slice D2 c.binds.length e2] 39)).alloc (.cells #[.slice none 0 0, .slice none 0 0, .slice none 0 0] 39)) = X at hX B0 B1 hXz ⊢
  have b2 := B0.cell 2
  simp at b2
  have hl0 : w.heap.size < X.heap.size := by omega
  have hl1 : w.heap.size + 1 < X.heap.size := by omega
  have HX := Lib.hid hX
  have HB0 := Lib.hid B0
  have HB1 := Lib.hid B1
  have hXa : Below X.heap.size X (X.alloc (.cells #[] 70)) := (by repeat' (first | exact Below.refl _ _ | refine Below.alloc ?_ ?_ _ | refine Below.setCell ?_ ?_ _ | refine Below.drew ?_ | (apply below_step; assumption) | (simp; done) | (simp; omega) | omega))
  clear B0 B1 hX hXz
  go_upto_region 2 with (at_builtin; refine wpList_spread _ rfl (.tmp 6) (.tmp 8) 37 rfl 70 i2 _ 2 16 Tryz.underlying37 hi2 hz2 hs2 hy2 rfl (by omega) (.slice (some ⟨X.heap.size, 0, none⟩) 0 0) 0 [] rfl (made_own X _ _) D2 c.binds.length e2 (bindL c.binds) rfl (bindL_len _) (BindSl.news (HC.out.below (below_of HX.out hXa)).2.2.1) (bindL_one _) (by unfold maxLen; omega) (by omega) ?_; intro u1 w1 hown1 hg1 hk1; rw [Nat.zero_add, List.nil_append] at hown1; obtain ⟨E2, d2, rfl, _⟩ := own_form hown1; have hb1 : Below X.heap.size X w1 := hXa.grown hg1 (by simp) (by intro k hk; simp [Value.ownBlock] at hk; omega))
  have hX1 : (X.alloc (.cells #[] 70)).heap.size ≤ w1.heap.size := hg1.size
  have hbl : ∀ b ∈ blk (.slice E2 c.binds.length d2), X.heap.size ≤ b := by
    have h2 : (Value.slice (some ⟨X.heap.size, 0, none⟩) 0 0).ownBlock = some X.heap.size := rfl
    rcases blk_of h2 hk1 with e | e <;> rw [e] <;> simp
  have hnd : (blk (.slice E2 c.binds.length d2)).Nodup := by
    have h2 : (Value.slice (some ⟨X.heap.size, 0, none⟩) 0 0).ownBlock = some X.heap.size := rfl
    rcases blk_of h2 hk1 with e | e <;> rw [e] <;> simp
  have hlt := own_lt hown1
  have hYa : Below w1.heap.size w1 (w1.alloc (.cells #[.slice none 0 0, .slice none 0 0, .slice E2 c.binds.length d2] 39)) := (by repeat' (first | exact Below.refl _ _ | refine Below.alloc ?_ ?_ _ | refine Below.setCell ?_ ?_ _ | refine Below.drew ?_ | (apply below_step; assumption) | (simp; done) | (simp; omega) | omega))
  have BY0 := (HB0.out.below hb1 hl0).below hYa (HB0.out.below hb1 hl0).lt
  have BY1 := (HB1.out.below hb1 hl1).below hYa (HB1.out.below hb1 hl1).lt
  have BYo : BlockIs (w1.alloc (.cells #[.slice none 0 0, .slice none 0 0, .slice E2 c.binds.length d2] 39)) w1.heap.size 39 #[.slice none 0 0, .slice none 0 0, .slice E2 c.binds.length d2] := BlockIs.new _ _ _
  have OB := own_agree hown1 (Agree.of_below hYa hlt)
  have hbY := below_of (below_of HX.out hb1) hYa
  have hYz : w1.heap.size < (w1.alloc (.cells #[.slice none 0 0, .slice none 0 0, .slice E2 c.binds.length d2] 39)).heap.size := by simp
  have hXG : X.heap.size ≤ w1.heap.size := hb1.size
  generalize w1.alloc (.cells #[.slice none 0 0, .slice none 0 0, .slice E2 c.binds.length d2] 39) = Y at BY0 BY1 BYo OB hbY hYz hYa ⊢
  have HBD := Lib.hid (And.intro OB (And.intro hbl (And.intro hnd hlt)))
  clear hown1 hg1 hk1 hb1 hXa hYa HB0 HB1 OB hbl hnd hlt b2 hX1
  generalize w1.heap.size = G at BYo hYz hXG HBD ⊢
  have HB0 := Lib.hid BY0
  have HB1 := Lib.hid BY1
  have HBo := Lib.hid BYo
  have HY := Lib.hid hbY
  have hwY := hbY.size
  clear BY0 BY1 BYo hbY
  go_wp2_with fail
  go_loopw [4] (fun s4 wr => ∃ (k : Nat) (vT : Value) (bT : List Nat), k ≤ c.tasks.length ∧ s4 = .int .i64 k ∧ KeepB G Y wr ∧ BlockIs wr G 39 #[vT, .slice none 0 0, .slice E2 c.binds.length d2] ∧ RowO TaskO 46 7 wr vT (c.tasks.take k) bT ∧ bT.Nodup ∧ ∀ b ∈ bT, Y.heap.size ≤ b) (fun s4 _ => (c.tasks.length - intOf s4).toNat)
  case atStart => exact ⟨0, .slice none 0 0, [], by omega, rfl, KeepB.refl _ _, HBo.out, ⟨[], [], by simpa using World.ownsRow_nil _ _ _ _, ⟨rfl, rfl⟩, by simp [blk, Value.ownBlock]⟩, by simp, by simp⟩
  case round =>
    obtain ⟨k, vT, bT, hk, rfl, hK, hO, hrow, hndT, hloT⟩ := hrel
    have hzr := hK.size
    have BC := HB0.out.keep hK (by omega)
    have g0 := BC.cell 0
    have g1 := BC.cell 1
    have gl := BC.lt
    simp at g0 g1
    have hGl : G < wr.heap.size := by omega
    have hCr := below_of HY.out (show Below Y.heap.size Y Y from Below.refl _ _)
    by_cases hlt : k < c.tasks.length
    · obtain ⟨b, off, rfl, hbw, hat⟩ := HT.out (by omega)
      obtain ⟨t, ht⟩ : ∃ t, c.tasks[k]? = some t := ⟨_, List.getElem?_eq_getElem hlt⟩
      have hwr : Below w.heap.size w wr := HY.out.trans (hK.below (by omega) (by omega))
      obtain ⟨cs, hR, hC⟩ := (hat.below TaskR.kept hwr hbw) k t ht
      have HTK := Lib.hid (take_at ht)
      have HR := Lib.hid hR
      obtain ⟨v1, v2, rfl, sl, si, m1, m2⟩ := hR
      obtain ⟨A1, c1, rfl, _⟩ := sl.form
      obtain ⟨A2, c2, rfl, _⟩ := si.form
      obtain ⟨q0, q1, q2, q3, q4, q5, q6⟩ := task_cells hC
      obtain ⟨xs, bi, hown, hel, rfl⟩ := hrow
      have hlen : (c.tasks.take k).length = k := by rw [List.length_take]; omega
      rw [hlen] at hown
      obtain ⟨F, f, rfl, _⟩ := own_form hown
      have o0 := hO.cell 0
      simp at o0
      have hki : (k : Int) < (c.tasks.length : Int) := by omega
      have hk0 : (0 : Int) ≤ (k : Int) := by omega
      have hbr : b < wr.heap.size := by omega
      have HOW := Lib.hid hown
      have HEL := Lib.hid hel
      have HND := Lib.hid (And.intro hndT hloT)
      have HKP := Lib.hid hK
      have HOO := Lib.hid hO
      have HLN := Lib.hid hlen
      clear hat hC ht sl si m1 m2 hown hel hndT hloT hK hO hlen BC hCr
      go_wp2_with fail
      go_region_law
        (first
          | (go_simp; go_at_call 65; refine (sCopyTask_any t _ _ (TaskR.kept _ _ _ _ (by repeat' (first | exact Below.refl _ _ | refine Below.alloc ?_ ?_ _ | refine Below.setCell ?_ ?_ _ | refine Below.drew ?_ | (apply below_step; assumption) | (simp; done) | (simp; omega) | omega)) HR.out)).mono ?_; rintro e w3 ⟨ds, bx, rfl, hO3, hnd3, hlo3, hb3⟩; have hz3 := hb3.size; (try simp at hz3); have o3 := (hb3.cell (p := ⟨G, 0, none⟩) (by simpa using hGl)).trans o0; have hG3 : G < w3.heap.size := (by omega); have HO3 := Lib.hid (And.intro hO3 (And.intro hnd3 hlo3)); obtain ⟨y1, y2, hdse, hy1, hy2, _, _, _⟩ := hO3; obtain ⟨F1, f1, rfl, _⟩ := own_form hy1; obtain ⟨F2, f2, rfl, _⟩ := own_form hy2; subst hdse; clear hnd3 hlo3 hy1 hy2)
          | (refine step_spread_if _ (by rfl) (.tmp 19) (.tmp 26) 35 (by rfl) 46 i0 _ 7 88 Tryz.underlying35 hi0 hz0 hs0 hy0 (by rfl) (by omega) (.slice F k f) k xs (by rfl) (own_agree HOW.out (Agree.of_below (B := wr.heap.size) (by repeat' (first | exact Below.refl _ _ | refine Below.alloc ?_ ?_ _ | refine Below.setCell ?_ ?_ _ | refine Below.drew ?_ | (apply below_step; assumption) | (simp; done) | (simp; omega) | omega)) (own_lt HOW.out))) (some ⟨w3.heap.size, 0, none⟩) 1 1 [.int .i64 t.id, .int .i64 t.prio, .int .i64 t.need.c, .int .i64 t.need.m, .int .i64 t.need.p, .slice F1 t.want.length f1, .slice F2 t.tols.length f2] (by rfl) (by rfl) (fun _ => ⟨_, 0, rfl, CellsAt.of_block (BlockIs.new w3 _ #[.int .i64 t.id, .int .i64 t.prio, .int .i64 t.need.c, .int .i64 t.need.m, .int .i64 t.need.p, .slice F1 t.want.length f1, .slice F2 t.tols.length f2]) (fun j u hu => by rw [Nat.zero_add]; simpa using hu)⟩) (by intro u hu; simp at hu; rcases hu with rfl | rfl | rfl | rfl | rfl | rfl | rfl <;> rfl) (by unfold maxLen; omega) (by omega) ?_; intro v' w4 hown4 hg4 hk4; obtain ⟨F4, f4, rfl, _⟩ := own_form hown4; have hrow : ∀ q, (Value.slice F k f).ownBlock = some q → Y.heap.size ≤ q := (fun q hq => HND.out.2 q (List.mem_append_left _ (by simp [blk, hq]))); have BO4 : BlockIs w4 G 39 #[.slice F k f, .slice none 0 0, .slice E2 c.binds.length d2] := (hg4.block G (by simp; omega) (fun e => by have := hrow G e.symm; omega)).trans ((HOO.out.below (B := wr.heap.size) (w' := w3) (by repeat' (first | exact Below.refl _ _ | refine Below.alloc ?_ ?_ _ | refine Below.setCell ?_ ?_ _ | refine Below.drew ?_ | (apply below_step; assumption) | (simp; done) | (simp; omega) | omega)) hGl).alloc _); have o4 := BO4.cell 0; have of4 := BO4.frozen; simp at o4; have HG4 := Lib.hid (And.intro hg4 (And.intro hk4 (And.intro hown4 (And.intro BO4 hrow)))); clear hg4 hk4 hown4 BO4 hrow))
      all_goals
        go_wp2_with fail
        go_roundw
        case rel =>
          obtain ⟨hO3, hnd3, hlo3⟩ := HO3.out
          obtain ⟨hg4, hk4, hown4, BO4, hrow⟩ := HG4.out
          have hbw : Below wr.heap.size wr w3 := (by repeat' (first | exact Below.refl _ _ | refine Below.alloc ?_ ?_ _ | refine Below.setCell ?_ ?_ _ | refine Below.drew ?_ | (apply below_step; assumption) | (simp; done) | (simp; omega) | omega))
          obtain ⟨bT', r1, r2, r3⟩ := copy_step (G := G) (off := 0) (lim := Y.heap.size) (u := .slice F4 (k + 1) f4) TaskO.framed (fun _ _ _ _ h => h.lt) HLN.out HOW.out HEL.out HND.out.1 HND.out.2 hzr hbw hO3 hnd3 (by simpa using hlo3) hg4 hk4 hown4 (by omega)
          refine ⟨k + 1, .slice F4 (k + 1) f4, bT', by omega, by go_num, ?_, by simpa using BO4.put 0 (.slice F4 (k + 1) f4), by rw [HTK.out]; exact r1, r2, r3⟩
          exact (((HKP.out.step hbw).step ((Below.refl _ _).alloc (Nat.le_refl _) _)).grown hg4 hrow).put 0 _
        case measure => simp [intOf]; omega
    · have hkl : k = c.tasks.length := by omega
      rw [hkl, List.take_length] at hrow
      obtain ⟨vT', hvT⟩ : ∃ x, x = vT := ⟨_, rfl⟩
      have hlT := rowO_lt (fun _ _ _ h => h.lt) hrow
      have hformT : ∃ F f, vT = .slice F c.tasks.length f := by
        obtain ⟨xs, b, h1, _⟩ := hrow
        obtain ⟨F, f, e, _⟩ := own_form h1
        exact ⟨F, f, e⟩
      have hbY2 : Below w.heap.size w wr := HY.out.trans (hK.below (by omega) (by omega))
      have HROW := Lib.hid (And.intro hrow (And.intro hndT (And.intro hloT hlT)))
      have HKP := Lib.hid hK
      have HB02 := Lib.hid BC
      have HB12 := Lib.hid (HB1.out.keep hK (by omega))
      have HBo2 := Lib.hid hO
      have HY2 := Lib.hid hbY2
      have HBD2 := Lib.hid (And.intro (own_agree HBD.out.1 (fun b hb => hK.block b (by have := HBD.out.2.2.2 b hb; omega) (by have := HBD.out.2.2.2 b hb; omega))) HBD.out.2)
      clear hkl hvT hrow hndT hloT hlT hK BC hO hbY2
      go_wp2_with fail
      clear hlt g0 g1 gl
      generalize hYw : wr = Y2 at HROW HKP HB02 HB12 HBo2 HY2 HBD2 hzr hGl ⊢
      clear hYw
      go_loopw [5] (fun s5 wr => ∃ (k : Nat) (vN : Value) (bN : List Nat), k ≤ c.nodes.length ∧ s5 = .int .i64 k ∧ KeepB G Y2 wr ∧ BlockIs wr G 39 #[vT, vN, .slice E2 c.binds.length d2] ∧ RowO NodeO 60 8 wr vN (c.nodes.take k) bN ∧ bN.Nodup ∧ ∀ b ∈ bN, Y2.heap.size ≤ b) (fun s5 _ => (c.nodes.length - intOf s5).toNat)
      case atStart => exact ⟨0, .slice none 0 0, [], by omega, rfl, KeepB.refl _ _, HBo2.out, ⟨[], [], by simpa using World.ownsRow_nil _ _ _ _, ⟨rfl, rfl⟩, by simp [blk, Value.ownBlock]⟩, by simp, by simp⟩
      case round =>
        clear hk
        obtain ⟨k, vN, bN, hk, rfl, hK, hO, hrow, hndT, hloT⟩ := hrel
        have hzr := hK.size
        have BC := HB02.out.keep hK (by omega)
        have g0 := BC.cell 0
        have g1 := BC.cell 1
        have gl := BC.lt
        simp at g0 g1
        have hGl : G < wr.heap.size := by omega
        by_cases hlt : k < c.nodes.length
        · obtain ⟨b, off, rfl, hbw, hat⟩ := HN.out (by omega)
          obtain ⟨t, ht⟩ : ∃ t, c.nodes[k]? = some t := ⟨_, List.getElem?_eq_getElem hlt⟩
          have hwr : Below w.heap.size w wr := HY2.out.trans (hK.below (by omega) (by omega))
          obtain ⟨cs, hR, hC⟩ := (hat.below NodeR.kept hwr hbw) k t ht
          have HTK := Lib.hid (take_at ht)
          have HR := Lib.hid hR
          obtain ⟨v1, v2, rfl, sl, si, m1, m2⟩ := hR
          obtain ⟨A1, c1, rfl, _⟩ := sl.form
          obtain ⟨A2, c2, rfl, _⟩ := si.form
          obtain ⟨q0, q1, q2, q3, q4, q5, q6, q7⟩ := node_cells hC
          obtain ⟨xs, bi, hown, hel, rfl⟩ := hrow
          have hlen : (c.nodes.take k).length = k := by rw [List.length_take]; omega
          rw [hlen] at hown
          obtain ⟨F, f, rfl, _⟩ := own_form hown
          have o0 := hO.cell 1
          simp at o0
          have hki : (k : Int) < (c.nodes.length : Int) := by omega
          have hk0 : (0 : Int) ≤ (k : Int) := by omega
          have hbr : b < wr.heap.size := by omega
          have HOW := Lib.hid hown
          have HEL := Lib.hid hel
          have HND := Lib.hid (And.intro hndT hloT)
          have HKP := Lib.hid hK
          have HOO := Lib.hid hO
          have HLN := Lib.hid hlen
          clear hat hC ht sl si m1 m2 hown hel hndT hloT hK hO hlen BC hCr
          go_wp2_with fail
          go_region_law
            (first
              | (go_simp; go_at_call 89; refine (sCopyNode_any t _ _ (NodeR.kept _ _ _ _ (by repeat' (first | exact Below.refl _ _ | refine Below.alloc ?_ ?_ _ | refine Below.setCell ?_ ?_ _ | refine Below.drew ?_ | (apply below_step; assumption) | (simp; done) | (simp; omega) | omega)) HR.out)).mono ?_; rintro e w3 ⟨ds, bx, rfl, hO3, hnd3, hlo3, hb3⟩; have hz3 := hb3.size; (try simp at hz3); have o3 := (hb3.cell (p := ⟨G, 1, none⟩) (by simpa using hGl)).trans o0; have hG3 : G < w3.heap.size := (by omega); have HO3 := Lib.hid (And.intro hO3 (And.intro hnd3 hlo3)); obtain ⟨y1, y2, hdse, hy1, hy2, _, _, _⟩ := hO3; obtain ⟨F1, f1, rfl, _⟩ := own_form hy1; obtain ⟨F2, f2, rfl, _⟩ := own_form hy2; subst hdse; clear hnd3 hlo3 hy1 hy2)
              | (refine step_spread_if _ (by rfl) (.tmp 37) (.tmp 44) 36 (by rfl) 60 i1 _ 8 96 Tryz.underlying36 hi1 hz1 hs1 hy1 (by rfl) (by omega) (.slice F k f) k xs (by rfl) (own_agree HOW.out (Agree.of_below (B := wr.heap.size) (by repeat' (first | exact Below.refl _ _ | refine Below.alloc ?_ ?_ _ | refine Below.setCell ?_ ?_ _ | refine Below.drew ?_ | (apply below_step; assumption) | (simp; done) | (simp; omega) | omega)) (own_lt HOW.out))) (some ⟨w3.heap.size, 0, none⟩) 1 1 [.int .i64 t.id, .int .i64 t.pool, .int .i64 t.cap.c, .int .i64 t.cap.m, .int .i64 t.cap.p, .slice F1 t.labs.length f1, .slice F2 t.taints.length f2, .bool t.cordon] (by rfl) (by rfl) (fun _ => ⟨_, 0, rfl, CellsAt.of_block (BlockIs.new w3 _ #[.int .i64 t.id, .int .i64 t.pool, .int .i64 t.cap.c, .int .i64 t.cap.m, .int .i64 t.cap.p, .slice F1 t.labs.length f1, .slice F2 t.taints.length f2, .bool t.cordon]) (fun j u hu => by rw [Nat.zero_add]; simpa using hu)⟩) (by intro u hu; simp at hu; rcases hu with rfl | rfl | rfl | rfl | rfl | rfl | rfl | rfl <;> rfl) (by unfold maxLen; omega) (by omega) ?_; intro v' w4 hown4 hg4 hk4; obtain ⟨F4, f4, rfl, _⟩ := own_form hown4; have hrow : ∀ q, (Value.slice F k f).ownBlock = some q → Y2.heap.size ≤ q := (fun q hq => HND.out.2 q (List.mem_append_left _ (by simp [blk, hq]))); have BO4 : BlockIs w4 G 39 #[vT, .slice F k f, .slice E2 c.binds.length d2] := (hg4.block G (by simp; omega) (fun e => by have := hrow G e.symm; omega)).trans ((HOO.out.below (B := wr.heap.size) (w' := w3) (by repeat' (first | exact Below.refl _ _ | refine Below.alloc ?_ ?_ _ | refine Below.setCell ?_ ?_ _ | refine Below.drew ?_ | (apply below_step; assumption) | (simp; done) | (simp; omega) | omega)) hGl).alloc _); have o4 := BO4.cell 1; have of4 := BO4.frozen; simp at o4; have HG4 := Lib.hid (And.intro hg4 (And.intro hk4 (And.intro hown4 (And.intro BO4 hrow)))); clear hg4 hk4 hown4 BO4 hrow))
          all_goals
            go_wp2_with fail
            go_roundw
            case rel =>
              obtain ⟨hO3, hnd3, hlo3⟩ := HO3.out
              obtain ⟨hg4, hk4, hown4, BO4, hrow⟩ := HG4.out
              have hbw : Below wr.heap.size wr w3 := (by repeat' (first | exact Below.refl _ _ | refine Below.alloc ?_ ?_ _ | refine Below.setCell ?_ ?_ _ | refine Below.drew ?_ | (apply below_step; assumption) | (simp; done) | (simp; omega) | omega))
              obtain ⟨bT', r1, r2, r3⟩ := copy_step (G := G) (off := 1) (lim := Y2.heap.size) (u := .slice F4 (k + 1) f4) NodeO.framed (fun _ _ _ _ h => h.lt) HLN.out HOW.out HEL.out HND.out.1 HND.out.2 hzr hbw hO3 hnd3 (by simpa using hlo3) hg4 hk4 hown4 (by omega)
              refine ⟨k + 1, .slice F4 (k + 1) f4, bT', by omega, by go_num, ?_, by simpa using BO4.put 1 (.slice F4 (k + 1) f4), by rw [HTK.out]; exact r1, r2, r3⟩
              exact (((HKP.out.step hbw).step ((Below.refl _ _).alloc (Nat.le_refl _) _)).grown hg4 hrow).put 1 _
            case measure => simp [intOf]; omega
        · have hkl : k = c.nodes.length := by omega
          rw [hkl, List.take_length] at hrow
          obtain ⟨xs, bi, hown, hel, rfl⟩ := hrow
          obtain ⟨FN, fN, rfl, _⟩ := own_form hown
          obtain ⟨FT, fT, rfl⟩ := hformT
          have BR := HB12.out.keep hK (by omega)
          have o0 := hO.cell 0
          have o1 := hO.cell 1
          have o2 := hO.cell 2
          have r0 := BR.cell 0
          have r1 := BR.cell 1
          have r2 := BR.cell 2
          have rf := BR.frozen
          have rl := BR.lt
          simp at o0 o1 o2 r0 r1 r2
          have HF := Lib.hid (show RowO NodeO 60 8 wr (.slice FN c.nodes.length fN) c.nodes (blk (.slice FN c.nodes.length fN) ++ bi) from ⟨xs, bi, hown, hel, rfl⟩)
          have HG := Lib.hid (And.intro hndT (And.intro hloT (And.intro hK BR)))
          clear hkl hown hel hndT hloT hK hO BR BC
          go_wp2_with fail
          obtain ⟨hndN, hloN, hK, BR⟩ := HG.out
          obtain ⟨hrT, hndT, hloT, hltT⟩ := HROW.out
          obtain ⟨oB, hloB, hndB, hltB⟩ := HBD2.out
          have hrN := HF.out
          have hltN := rowO_lt (fun _ _ _ h => h.lt) hrN
          have tT := hrT.agree TaskO.framed (fun b hb => hK.block b (hltT b hb) (by have := hloT b hb; omega))
          have tB := own_agree oB (fun b hb => hK.block b (by have := hltB b hb; omega) (by have := hltB b hb; omega))
          have hCO : CluO wr c (.slice FT c.tasks.length fT) (.slice FN c.nodes.length fN) (.slice E2 c.binds.length d2) (bT ++ ((blk (.slice FN c.nodes.length fN) ++ bi) ++ blk (.slice E2 c.binds.length d2))) := by
            refine ⟨_, _, _, tT, hrN, ⟨bindL c.binds, [], tB, bind_elems _ _, by simp⟩, rfl, ?_, l0, l1, l2⟩
            rw [List.nodup_append]
            refine ⟨hndT, ?_, fun a ha b hb e => ?_⟩
            · rw [List.nodup_append]
              exact ⟨hndN, hndB, fun a ha b hb e => by have := hloN a ha; have := hltB b hb; omega⟩
            · have h1 := hltT a ha
              have h2 := hloT a ha
              rcases List.mem_append.1 hb with hb | hb
              · have := hloN b hb; omega
              · have := hltB b hb; omega
          have hloC : ∀ b ∈ bT ++ ((blk (.slice FN c.nodes.length fN) ++ bi) ++ blk (.slice E2 c.binds.length d2)), X.heap.size ≤ b := by
            intro b hb
            rcases List.mem_append.1 hb with hb | hb
            · have := hloT b hb; omega
            · rcases List.mem_append.1 hb with hb | hb
              · have := hloN b hb; omega
              · exact hloB b hb
          have hV : BlockIs (((wr.setCell ⟨w.heap.size + 1, 0, none⟩ (.slice FT c.tasks.length fT)).setCell ⟨w.heap.size + 1, 1, none⟩ (.slice FN c.nodes.length fN)).setCell ⟨w.heap.size + 1, 2, none⟩ (.slice E2 c.binds.length d2)) (w.heap.size + 1) 39 #[.slice FT c.tasks.length fT, .slice FN c.nodes.length fN, .slice E2 c.binds.length d2] := by
            have := ((BR.put 0 (.slice FT c.tasks.length fT)).put 1 (.slice FN c.nodes.length fN)).put 2 (.slice E2 c.binds.length d2)
            simpa using this
          have hA := hCO.agree (w' := (((wr.setCell ⟨w.heap.size + 1, 0, none⟩ (.slice FT c.tasks.length fT)).setCell ⟨w.heap.size + 1, 1, none⟩ (.slice FN c.nodes.length fN)).setCell ⟨w.heap.size + 1, 2, none⟩ (.slice E2 c.binds.length d2))) (fun b hb => putAll_block (o := 0) (ds := [.slice FT c.tasks.length fT, .slice FN c.nodes.length fN, .slice E2 c.binds.length d2]) (by have := hloC b hb; omega))
          have hB : Below w.heap.size w (((wr.setCell ⟨w.heap.size + 1, 0, none⟩ (.slice FT c.tasks.length fT)).setCell ⟨w.heap.size + 1, 1, none⟩ (.slice FN c.nodes.length fN)).setCell ⟨w.heap.size + 1, 2, none⟩ (.slice E2 c.binds.length d2)) := (((HY2.out.trans (hK.below (by have := HY2.out.size; omega) (by omega))).setCell (by dsimp only; omega) _).setCell (by dsimp only; omega) _).setCell (by dsimp only; omega) _
          generalize (((wr.setCell ⟨w.heap.size + 1, 0, none⟩ (.slice FT c.tasks.length fT)).setCell ⟨w.heap.size + 1, 1, none⟩ (.slice FN c.nodes.length fN)).setCell ⟨w.heap.size + 1, 2, none⟩ (.slice E2 c.binds.length d2)) = V at hV hA hB ⊢
          have x0 := hV.cell 0
          have x1 := hV.cell 1
          have x2 := hV.cell 2
          simp at x0 x1 x2
          exact bodyPost_ret (v := .agg #[.slice FT c.tasks.length fT, .slice FN c.nodes.length fN, .slice E2 c.binds.length d2]) (by simp [results, Tryz.results64, go_sem, x0, x1, x2]) rfl ⟨_, _, _, _, rfl, hA, fun b hb => by have := hloC b hb; omega, hB⟩
end Go.Proofs.YtflcacbpceinaaaGreatDoor
