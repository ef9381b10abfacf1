/- Memory of a call's own, block by block: rows, tasks, nodes, bindings; append. The contracts of the model's l03CopyTask and l03CopyNode. The contract of the model's l03Copy. Boxes that a call has made, behind another call. Rows of a call's own, element by element: which blocks turn; rows split and joined; cells of one element set anew. What the laws' marks make of a list of labels, ints, tasks, nodes, bindings, in plain Lean. The laws' helpers that write marks and look for them, over flat lists: markLabS, markIntS, markBindS, heldLabS, heldIntS, heldBindS. The laws' helpers that write marks and look for them, over tasks and nodes: markTaskS, markNodeS, heldTaskS, heldNodeS. The laws' helpers that look for marks, over tasks and nodes: heldTaskS, heldNodeS. The laws' helpers that write marks and look for them, over a cluster: markCluster, heldCluster. The laws' helpers toIntS, toTask, toNode, toTaskS, toNodeS, toBindS: their results own their memory, block by block. The laws' helper toCluster: its result owns its memory, block by block. -/
import Derived.Test.YtocfgejceoenmaaGreatDoorCluMem
import Derived.Maps.AppendAt
import Derived.Laws.OwnMore
import Derived.OwnWalk
import Derived.Deep.RegionHeld3
import Derived.Test.YtocfgejceoenmaaGreatDoorCluTo
import Derived.Deep.RegionLaw
import Derived.Test.YtocfgejceoenmaaGreatDoorBase
import Derived.Test.YtocfgejceoenmaaGreatDoorCluPure
namespace Go.Proofs.YtocfgejceoenmaaGreatDoor
open Go.RowKit

/-- The block that a slice value owns. -/
def blk (v : Value) : List Nat := v.ownBlock.toList
/-- In w' the blocks bs are as they were in w. -/
def Agree (bs : List Nat) (w w' : World) : Prop := ∀ b ∈ bs, w'.heap[b]? = w.heap[b]?
theorem Agree.left {a b : List Nat} {w w' : World} (h : Agree (a ++ b) w w') : Agree a w w' := fun x hx => h x (List.mem_append_left _ hx)
theorem Agree.right {a b : List Nat} {w w' : World} (h : Agree (a ++ b) w w') : Agree b w w' := fun x hx => h x (List.mem_append_right _ hx)
theorem Agree.trans {bs : List Nat} {w w1 w2 : World} (h : Agree bs w w1) (k : Agree bs w1 w2) : Agree bs w w2 := fun b hb => (k b hb).trans (h b hb)
theorem Agree.of_below {bs : List Nat} {B : Nat} {w w' : World} (hb : Below B w w') (h : ∀ b ∈ bs, b < B) : Agree bs w w' := fun b hx => hb.block b (h b hx)
theorem Agree.of_grown {bs : List Nat} {w w' : World} {row : Option Nat} (hg : w.grownBy w' row) (h : ∀ b ∈ bs, b < w.heap.size ∧ some b ≠ row) : Agree bs w w' := fun b hx => hg.block b (h b hx).1 (h b hx).2

section
variable {w w' : World} {e : TypeId} {size n : Nat} {v : Value} {xs : List Value}
theorem own_agree {base : Nat} (h : w.ownsRow base e size v n xs) (ha : Agree (blk v) w w') : w'.ownsRow base e size v n xs := by
  obtain ⟨h1, h2⟩ := h
  refine ⟨h1, ?_⟩
  rcases h2 with h | ⟨g, cap, cur, rfl, hg, hh, h⟩
  · exact .inl h
  · exact .inr ⟨g, cap, cur, rfl, hg, (ha g (by simp [blk, Value.ownBlock])).trans hh, h⟩
theorem own_lt {base : Nat} (h : w.ownsRow base e size v n xs) : ∀ b ∈ blk v, b < w.heap.size := by
  rcases h.2 with ⟨rfl, _⟩ | ⟨g, cap, cur, rfl, hg, hh, _⟩
  · intro b hb; simp [blk, Value.ownBlock] at hb
  · intro b hb
    simp [blk, Value.ownBlock] at hb
    subst hb
    exact (Array.getElem?_eq_some_iff.1 hh).1
theorem own_form {base : Nat} (h : w.ownsRow base e size v n xs) : ∃ A c, v = .slice A n c ∧ (0 < n → ∃ b, A = some ⟨b, 0, none⟩ ∧ b < w.heap.size ∧ CellsAt w b 0 xs) := by
  obtain ⟨h1, h2⟩ := h
  rcases h2 with ⟨rfl, rfl⟩ | ⟨g, cap, cur, rfl, hg, hh, hnc, _, hs, ht⟩
  · exact ⟨none, 0, rfl, fun h => absurd h (by omega)⟩
  · refine ⟨_, cap, rfl, fun _ => ⟨g, rfl, (Array.getElem?_eq_some_iff.1 hh).1, fun j u hu => ?_⟩⟩
    rw [← ht] at hu
    have hj : j < n * size := by
      have := (List.getElem?_eq_some_iff.1 hu).1
      rw [List.length_take] at this; omega
    rw [List.getElem?_take_of_lt hj] at hu
    simp [World.cell?, hh]
    simpa using hu
end

/-- append of a slice that reads as 'news' (or is empty) onto a row of the call's own. -/
theorem run_append_zero {P : Program} (w : World) (t ty e : TypeId) (i : TypeInfo) (size : Nat) (ht : P.underlying t = some (.slice e)) (hi : P.info? e = some i)
    (v : Value) (n : Nat) (xs : List Value) (A : Option Addr) (c : Nat) (hown : w.ownsRow 0 e size v n xs) :
    (Builtin.append_ #[t, t] ty #[v, .slice A 0 c]).run P w = .ok v w := by
  rcases hown.2 with ⟨rfl, rfl⟩ | ⟨g, cap, cur, rfl, _, _, hnc, _⟩
  · cases A <;> simp [Builtin.append_, run_underlying ht, sizeOf, typeInfo, hi, Builtin.lenOf, Builtin.firstCells, loadCells, loadCellsFrom]
  · cases A <;> simp [Builtin.append_, run_underlying ht, sizeOf, typeInfo, hi, Builtin.lenOf, Builtin.firstCells, hnc, storeCells, loadCells, loadCellsFrom]
theorem grownBy_refl (w : World) (row : Option Nat) : w.grownBy w row := ⟨rfl, rfl, rfl, Nat.le_refl _, fun _ _ _ => rfl⟩
theorem cellsAt_add {w : World} {b off : Nat} {news : List Value} (h : CellsAt w b off news) : ∀ j u, news[j]? = some u → w.cell? ((⟨b, off, none⟩ : Addr).add j) = some u := fun j u hu => by
  rw [Go.WideShapes.add_plain]; exact h j u hu
section
variable {P : Program} {ops : Array Oper} {rest : List Oper} {o : Oper} {a : Act} {Q : Exit → Act → World → Prop}
theorem wpList_spread (w : World) (hgd : o.guard = none) (s x : Operand) (t : TypeId)
    (ho : o.op = .call { callee := .builtin .append, args := #[s, x], argTypes := #[t, t] })
    (e : TypeId) (i : TypeInfo) (z : Value) (size bytes : Nat) (ht : P.underlying t = some (.slice e)) (hi : P.info? e = some i) (hz : i.zero = some z)
    (hsize : i.size = size) (hby : i.bytes = bytes) (hzs : z.cells.size = size) (hsz : 0 < size)
    (v : Value) (n : Nat) (xs : List Value) (hs : a.eval s = v) (hown : w.ownsRow 0 e size v n xs)
    (A : Option Addr) (m c : Nat) (news : List Value) (hx : a.eval x = .slice A m c) (hl : news.length = m * size) (hnews : 0 < m → ∃ b off, A = some ⟨b, off, none⟩ ∧ CellsAt w b off news) (h1 : ∀ u ∈ news, u.oneCell' = true)
    (h63 : n + m ≤ maxLen) (hbytes : (n + m) * bytes ≤ 140737488355328)
    (h : ∀ v' w', w'.ownsRow 0 e size v' (n + m) (xs ++ news) → w.grownBy w' v.ownBlock → (v'.ownBlock = v.ownBlock ∨ v'.ownBlock = some w.heap.size) → wpList P ops Q rest (a.put o.dst v') w') :
    wpList P ops Q (o :: rest) a w := by
  rcases Nat.eq_zero_or_pos m with rfl | hm
  · obtain rfl : news = [] := List.eq_nil_of_length_eq_zero (by simpa using hl)
    refine wpList_plain hgd fun K hK => ?_
    have hrun := run_append_zero (P := P) w t o.type e i size ht hi v n xs A c hown
    unfold Oper.wp
    simp [execOp, ho, resolve, invoke, builtin, hs, hx, hrun, Result.andThen]
    exact hK _ _ (h v w (by simpa using hown) (grownBy_refl _ _) (.inl rfl))
  · obtain ⟨b, off, rfl, hc⟩ := hnews hm
    exact wpList_append_own_at w hgd s x t ho 0 e i z size bytes ht hi hz hsize hby hzs hsz v n xs hs hown ⟨b, off, none⟩ m c news hx hl (cellsAt_add hc) h1 h63 hbytes (Nat.zero_le _) (fun v' w' h2 h3 _ h5 => h v' w' h2 h3 h5)
/-- The same as one step of a region that draws. -/
theorem step_spread {K : Act → World → Prop} (w : World) (_hgd : o.guard = none) (s x : Operand) (t : TypeId)
    (ho : o.op = .call { callee := .builtin .append, args := #[s, x], argTypes := #[t, t] })
    (e : TypeId) (i : TypeInfo) (z : Value) (size bytes : Nat) (ht : P.underlying t = some (.slice e)) (hi : P.info? e = some i) (hz : i.zero = some z)
    (hsize : i.size = size) (hby : i.bytes = bytes) (hzs : z.cells.size = size) (hsz : 0 < size)
    (v : Value) (n : Nat) (xs : List Value) (hs : a.eval s = v) (hown : w.ownsRow 0 e size v n xs)
    (A : Option Addr) (m c : Nat) (news : List Value) (hx : a.eval x = .slice A m c) (hl : news.length = m * size) (hnews : 0 < m → ∃ b off, A = some ⟨b, off, none⟩ ∧ CellsAt w b off news) (h1 : ∀ u ∈ news, u.oneCell' = true)
    (h63 : n + m ≤ maxLen) (hbytes : (n + m) * bytes ≤ 140737488355328)
    (h : ∀ v' w', w'.ownsRow 0 e size v' (n + m) (xs ++ news) → w.grownBy w' v.ownBlock → (v'.ownBlock = v.ownBlock ∨ v'.ownBlock = some w.heap.size) → K (a.put o.dst v') w') :
    Oper.wp P o a w K Q := by
  rcases Nat.eq_zero_or_pos m with rfl | hm
  · obtain rfl : news = [] := List.eq_nil_of_length_eq_zero (by simpa using hl)
    have hrun := run_append_zero (P := P) w t o.type e i size ht hi v n xs A c hown
    unfold Oper.wp
    simp [execOp, ho, resolve, invoke, builtin, hs, hx, hrun, Result.andThen]
    exact h v w (by simpa using hown) (grownBy_refl _ _) (.inl rfl)
  · obtain ⟨b, off, rfl, hc⟩ := hnews hm
    obtain ⟨v', w', hr, h2, h3, _, h5⟩ := run_append_own_at (P := P) w 0 t o.type e i z size bytes ht hi hz hsize hby hzs hsz v n xs hown ⟨b, off, none⟩ m c news hl (cellsAt_add hc) h1 h63 hbytes (Nat.zero_le _)
    unfold Oper.wp execOp
    simp only [ho, resolve, invoke, builtin, Sem.run_bind, Sem.run_pure, Result.andThen_ok, List.map_toArray, List.map_cons, List.map_nil, hs, hx, hr]
    exact h v' w' h2 h3 h5
end

/-- The elements l lie one behind the other in the cells xs; bs are the blocks of their inner lists. -/
def Elems {α : Type} (R : World → α → List Value → List Nat → Prop) (w : World) : List α → List Value → List Nat → Prop
  | [], xs, bs => xs = [] ∧ bs = []
  | x :: r, xs, bs => ∃ cs ys b1 b2, xs = cs ++ ys ∧ bs = b1 ++ b2 ∧ R w x cs b1 ∧ Elems R w r ys b2
/-- R depends on its blocks alone. -/
def Framed {α : Type} (R : World → α → List Value → List Nat → Prop) : Prop := ∀ (w w' : World) (x : α) (cs : List Value) (bs : List Nat), R w x cs bs → Agree bs w w' → R w' x cs bs
section
variable {α : Type} {R : World → α → List Value → List Nat → Prop} {w w' : World} {l : List α} {xs : List Value} {bs : List Nat}
theorem Elems.agree (hR : Framed R) (h : Elems R w l xs bs) (ha : Agree bs w w') : Elems R w' l xs bs := by
  induction l generalizing xs bs with
  | nil => exact h
  | cons x r ih =>
    obtain ⟨cs, ys, b1, b2, rfl, rfl, h1, h2⟩ := h
    exact ⟨cs, ys, b1, b2, rfl, rfl, hR _ _ _ _ _ h1 ha.left, ih h2 ha.right⟩
theorem Elems.snoc {x : α} {cs : List Value} {b : List Nat} (h : Elems R w l xs bs) (hx : R w x cs b) : Elems R w (l ++ [x]) (xs ++ cs) (bs ++ b) := by
  induction l generalizing xs bs with
  | nil =>
    obtain ⟨rfl, rfl⟩ := h
    exact ⟨cs, [], b, [], by simp, by simp, hx, rfl, rfl⟩
  | cons y r ih =>
    obtain ⟨ds, ys, b1, b2, rfl, rfl, h1, h2⟩ := h
    exact ⟨ds, ys ++ cs, b1, b2 ++ b, by simp, by simp, h1, ih h2⟩
theorem Elems.at {n : Nat} (hn : ∀ x cs b, R w x cs b → cs.length = n) (h : Elems R w l xs bs) {i : Nat} {x : α} (hx : l[i]? = some x) : ∃ cs b, R w x cs b ∧ (∀ c ∈ b, c ∈ bs) ∧ ∀ (j : Nat) (u : Value), cs[j]? = some u → xs[i * n + j]? = some u := by
  induction l generalizing xs bs i with
  | nil => simp at hx
  | cons y r ih =>
    obtain ⟨ds, ys, b1, b2, rfl, rfl, h1, h2⟩ := h
    cases i with
    | zero =>
      simp at hx; subst hx
      refine ⟨ds, b1, h1, fun c hc => List.mem_append_left _ hc, fun j u hu => ?_⟩
      rw [Nat.zero_mul, Nat.zero_add, List.getElem?_append_left (List.getElem?_eq_some_iff.1 hu).1]; exact hu
    | succ i =>
      obtain ⟨cs, b, a1, a2, a3⟩ := ih h2 (by simpa using hx)
      refine ⟨cs, b, a1, fun c hc => List.mem_append_right _ (a2 c hc), fun j u hu => ?_⟩
      have := hn _ _ _ h1
      rw [List.getElem?_append_right (by rw [this, Nat.add_mul]; omega), this, show (i + 1) * n + j - n = i * n + j by rw [Nat.add_mul]; omega]
      exact a3 j u hu
/-- A row of the call's own with what its elements own; bs are all their blocks. -/
def RowO (R : World → α → List Value → List Nat → Prop) (ty : TypeId) (n : Nat) (w : World) (v : Value) (l : List α) (bs : List Nat) : Prop := ∃ xs b, w.ownsRow 0 ty n v l.length xs ∧ Elems R w l xs b ∧ bs = blk v ++ b
theorem RowO.agree {ty : TypeId} {n : Nat} {v : Value} (hR : Framed R) (h : RowO R ty n w v l bs) (ha : Agree bs w w') : RowO R ty n w' v l bs := by
  obtain ⟨xs, b, h1, h2, rfl⟩ := h
  exact ⟨xs, b, own_agree h1 ha.left, h2.agree hR ha.right, rfl⟩
theorem RowO.sl {ty : TypeId} {n : Nat} {v : Value} {S : World → α → List Value → Prop} (hn : ∀ x cs b, R w x cs b → cs.length = n) (hS : ∀ x cs b, R w x cs b → S w x cs) (h : RowO R ty n w v l bs) : GSl S n w v l := by
  obtain ⟨xs, b, h1, h2, rfl⟩ := h
  obtain ⟨A, c, rfl, hA⟩ := own_form h1
  rcases Nat.eq_zero_or_pos l.length with h0 | hp
  · obtain rfl : l = [] := List.eq_nil_of_length_eq_zero h0
    exact .inl ⟨rfl, _, _, rfl⟩
  · obtain ⟨g, rfl, hlt, hc⟩ := hA hp
    refine .inr ⟨g, 0, c, rfl, hlt, fun i x hx => ?_⟩
    obtain ⟨cs, b', a1, _, a3⟩ := h2.at hn hx
    exact ⟨cs, hS _ _ _ a1, fun j u hu => by rw [show 0 + i * n + j = 0 + (i * n + j) by omega]; exact hc _ _ (a3 j u hu)⟩
end

def intL (l : List Int) : List Value := l.map (Value.int .i64)
def LabO (w : World) (v : Value) (l : List LV) : Prop := w.ownsRow 0 120 2 v l.length (labL l)
def IntO (w : World) (v : Value) (l : List Int) : Prop := w.ownsRow 0 3 1 v l.length (intL l)
theorem LabO.sl {w : World} {v : Value} {l : List LV} (h : LabO w v l) : LabSl w v l := by
  obtain ⟨A, c, rfl, hA⟩ := own_form h
  rcases Nat.eq_zero_or_pos l.length with h0 | hp
  · obtain rfl : l = [] := List.eq_nil_of_length_eq_zero h0
    exact .inl ⟨rfl, _, _, rfl⟩
  · obtain ⟨g, rfl, hlt, hc⟩ := hA hp
    refine .inr ⟨g, 0, c, rfl, hlt, fun i r hr => ?_⟩
    obtain ⟨h1, h2⟩ := labL_at hr
    exact ⟨hc _ _ h1, hc _ _ h2⟩
theorem IntO.sl {w : World} {v : Value} {l : List Int} (h : IntO w v l) : IntSl w v l := by
  obtain ⟨A, c, rfl, hA⟩ := own_form h
  rcases Nat.eq_zero_or_pos l.length with h0 | hp
  · obtain rfl : l = [] := List.eq_nil_of_length_eq_zero h0
    exact .inl ⟨rfl, _, _, rfl⟩
  · obtain ⟨g, rfl, hlt, hc⟩ := hA hp
    exact .inr ⟨g, 0, c, rfl, hlt, fun i r hr => hc _ _ (by simp [intL, hr])⟩
/-- The cells of a task of the call's own, and the blocks of its lists. -/
def TaskO (w : World) (t : TV) (cs : List Value) (bs : List Nat) : Prop := ∃ v1 v2, cs = [.int .i64 t.id, .int .i64 t.prio, .int .i64 t.need.c, .int .i64 t.need.m, .int .i64 t.need.p, v1, v2] ∧ LabO w v1 t.want ∧ IntO w v2 t.tols ∧ bs = blk v1 ++ blk v2 ∧ t.want.length ≤ 1048576 ∧ t.tols.length ≤ 1048576
def NodeO (w : World) (t : NV) (cs : List Value) (bs : List Nat) : Prop := ∃ v1 v2, cs = [.int .i64 t.id, .int .i64 t.pool, .int .i64 t.cap.c, .int .i64 t.cap.m, .int .i64 t.cap.p, v1, v2, .bool t.cordon] ∧ LabO w v1 t.labs ∧ IntO w v2 t.taints ∧ bs = blk v1 ++ blk v2 ∧ t.labs.length ≤ 1048576 ∧ t.taints.length ≤ 1048576
def BindO (_ : World) (t : BV) (cs : List Value) (bs : List Nat) : Prop := cs = [.int .i64 t.task, .int .i64 t.node] ∧ bs = []
theorem TaskO.framed : Framed TaskO := fun _ _ _ _ _ ⟨v1, v2, e, h1, h2, hb, h3⟩ ha => by
  subst hb
  exact ⟨v1, v2, e, own_agree h1 ha.left, own_agree h2 ha.right, rfl, h3⟩
theorem TaskO.r {w : World} {t : TV} {cs : List Value} {bs : List Nat} (h : TaskO w t cs bs) : TaskR w t cs := by
  obtain ⟨v1, v2, e, h1, h2, _, h3⟩ := h
  exact ⟨v1, v2, e, h1.sl, h2.sl, h3⟩
theorem TaskO.len {w : World} {t : TV} {cs : List Value} {bs : List Nat} (h : TaskO w t cs bs) : cs.length = 7 := by
  obtain ⟨v1, v2, e, _⟩ := h; subst e; rfl
theorem TaskO.lt {w : World} {t : TV} {cs : List Value} {bs : List Nat} (h : TaskO w t cs bs) : ∀ b ∈ bs, b < w.heap.size := by
  obtain ⟨v1, v2, _, h1, h2, rfl, _⟩ := h
  intro b hb
  rcases List.mem_append.1 hb with hb | hb
  · exact own_lt h1 b hb
  · exact own_lt h2 b hb
theorem NodeO.framed : Framed NodeO := fun _ _ _ _ _ ⟨v1, v2, e, h1, h2, hb, h3⟩ ha => by
  subst hb
  exact ⟨v1, v2, e, own_agree h1 ha.left, own_agree h2 ha.right, rfl, h3⟩
theorem NodeO.r {w : World} {t : NV} {cs : List Value} {bs : List Nat} (h : NodeO w t cs bs) : NodeR w t cs := by
  obtain ⟨v1, v2, e, h1, h2, _, h3⟩ := h
  exact ⟨v1, v2, e, h1.sl, h2.sl, h3⟩
theorem NodeO.len {w : World} {t : NV} {cs : List Value} {bs : List Nat} (h : NodeO w t cs bs) : cs.length = 8 := by
  obtain ⟨v1, v2, e, _⟩ := h; subst e; rfl
theorem NodeO.lt {w : World} {t : NV} {cs : List Value} {bs : List Nat} (h : NodeO w t cs bs) : ∀ b ∈ bs, b < w.heap.size := by
  obtain ⟨v1, v2, _, h1, h2, rfl, _⟩ := h
  intro b hb
  rcases List.mem_append.1 hb with hb | hb
  · exact own_lt h1 b hb
  · exact own_lt h2 b hb
theorem BindO.framed : Framed BindO := fun _ _ _ _ _ h _ => h
theorem BindO.r {w : World} {t : BV} {cs : List Value} {bs : List Nat} (h : BindO w t cs bs) : BindR w t cs := h.1
theorem BindO.len {w : World} {t : BV} {cs : List Value} {bs : List Nat} (h : BindO w t cs bs) : cs.length = 2 := by rw [h.1]; rfl
theorem BindO.lt {w : World} {t : BV} {cs : List Value} {bs : List Nat} (h : BindO w t cs bs) : ∀ b ∈ bs, b < w.heap.size := by rw [h.2]; simp
theorem elems_lt {α : Type} {R : World → α → List Value → List Nat → Prop} {w : World} {l : List α} {xs : List Value} {bs : List Nat} (hR : ∀ x cs b, R w x cs b → ∀ c ∈ b, c < w.heap.size) (h : Elems R w l xs bs) : ∀ b ∈ bs, b < w.heap.size := by
  induction l generalizing xs bs with
  | nil => obtain ⟨_, rfl⟩ := h; simp
  | cons x r ih =>
    obtain ⟨cs, ys, b1, b2, rfl, rfl, h1, h2⟩ := h
    intro b hb
    rcases List.mem_append.1 hb with hb | hb
    · exact hR _ _ _ h1 b hb
    · exact ih h2 b hb
end Go.Proofs.YtocfgejceoenmaaGreatDoor

namespace Go.Proofs.YtocfgejceoenmaaGreatDoor
open Go.RowKit

/-- The ending 'an element of its own, its blocks all new and distinct'. -/
def RetO {α : Type} (R : World → α → List Value → List Nat → Prop) (w : World) (t : α) (e : Ending) (w' : World) : Prop := ∃ ds bs, e = .returned (.agg ds.toArray) ∧ R w' t ds bs ∧ bs.Nodup ∧ (∀ b ∈ bs, w.heap.size ≤ b) ∧ Below w.heap.size w w'
theorem LabSl.news {w : World} {A : Option Addr} {c : Nat} {l : List LV} (h : LabSl w (.slice A l.length c) l) : 0 < l.length → ∃ b off, A = some ⟨b, off, none⟩ ∧ CellsAt w b off (labL l) := by
  intro hp
  obtain ⟨A', c', e, h'⟩ := h.form
  simp only [Value.slice.injEq] at e
  obtain ⟨rfl, _, _⟩ := e
  obtain ⟨b, off, rfl, _, hat⟩ := h' hp
  refine ⟨b, off, rfl, fun j u hu => ?_⟩
  have hj : j < l.length * 2 := by
    have := (List.getElem?_eq_some_iff.1 hu).1
    rwa [labL_len] at this
  obtain ⟨r, hr⟩ : ∃ r, l[j / 2]? = some r := ⟨_, List.getElem?_eq_getElem (by omega)⟩
  obtain ⟨a1, a2⟩ := hat _ _ hr
  obtain ⟨b1, b2⟩ := labL_at hr
  rcases Nat.mod_two_eq_zero_or_one j with e | e
  · have ej : j / 2 * 2 = j := by omega
    rw [ej] at a1 b1
    rw [b1] at hu
    obtain rfl := Option.some.inj hu
    exact a1
  · have ej : j / 2 * 2 + 1 = j := by omega
    rw [Nat.add_assoc, ej] at a2
    rw [ej] at b2
    rw [b2] at hu
    obtain rfl := Option.some.inj hu
    exact a2
theorem IntSl.news {w : World} {A : Option Addr} {c : Nat} {l : List Int} (h : IntSl w (.slice A l.length c) l) : 0 < l.length → ∃ b off, A = some ⟨b, off, none⟩ ∧ CellsAt w b off (intL l) := by
  intro hp
  obtain ⟨A', c', e, h'⟩ := h.form
  simp only [Value.slice.injEq] at e
  obtain ⟨rfl, _, _⟩ := e
  obtain ⟨b, off, rfl, _, hat⟩ := h' hp
  refine ⟨b, off, rfl, fun j u hu => ?_⟩
  simp [intL] at hu
  obtain ⟨r, hr, rfl⟩ := hu
  exact hat _ _ hr
theorem labL_one (l : List LV) : ∀ u ∈ labL l, u.oneCell' = true := by
  intro u hu
  simp [labL] at hu
  obtain ⟨r, _, h | h⟩ := hu <;> subst h <;> rfl
theorem intL_one (l : List Int) : ∀ u ∈ intL l, u.oneCell' = true := by
  intro u hu
  simp [intL] at hu
  obtain ⟨r, _, h⟩ := hu; subst h; rfl
theorem made_own (w : World) (ty : TypeId) (n : Nat) : (w.alloc (.cells #[] ty)).ownsRow 0 ty n (.slice (some ⟨w.heap.size, 0, none⟩) 0 0) 0 [] := by
  have := World.ownsRow_made (base := 0) (e := ty) (size := n) w #[] 0 (Nat.zero_le _) (by unfold maxLen; omega) (by simp)
  simpa using this
theorem made_own' {w : World} {ty : TypeId} {n g : Nat} (h : g = w.heap.size) : (w.alloc (.cells #[] ty)).ownsRow 0 ty n (.slice (some ⟨g, 0, none⟩) 0 0) 0 [] := h ▸ made_own w ty n
theorem blk_of {v v' : Value} {g : Nat} {k : Nat} (hv : v.ownBlock = some g) (h : v'.ownBlock = v.ownBlock ∨ v'.ownBlock = some k) : blk v' = [g] ∨ blk v' = [k] := by
  rcases h with h | h
  · left; simp [blk, h, hv]
  · right; simp [blk, h]

theorem putAll_block {w : World} {g o b : Nat} {ds : List Value} (h : b ≠ g) : (putAll w g o ds).heap[b]? = w.heap[b]? := by
  induction ds generalizing w o with
  | nil => rfl
  | cons u r ih => rw [putAll, ih]; exact Below.heap_setCell _ _ _ b h
set_option maxHeartbeats 1600000 in
theorem sCopyTask_any (t : TV) (cs : List Value) (w : World) (hR : TaskR w t cs) : Calls Tryz.prog 50 #[.agg cs.toArray] w (RetO TaskO w t) := by
  obtain ⟨i1, hi1, hz1, hs1, hy1⟩ := info_parts Tryz.infoLab
  obtain ⟨i2, hi2, hz2, hs2, hy2⟩ := info_parts Tryz.infoI
  obtain ⟨v1, v2, rfl, sl, si, m1, m2⟩ := hR
  obtain ⟨A1, c1, rfl, _⟩ := sl.form
  obtain ⟨A2, c2, rfl, _⟩ := si.form
  have SL := Lib.hid sl
  have SI := Lib.hid si
  have M := Lib.hid (And.intro m1 m2)
  clear sl si m1 m2
  go_enter Tryz.func50, Tryz.ntmps50
  go_upto_region 1 with fail
  have hX : Below w.heap.size w ((w.alloc (.cells #[.int .i64 t.id, .int .i64 t.prio, .int .i64 t.need.c, .int .i64 t.need.m, .int .i64 t.need.p, .slice A1 t.want.length c1, .slice A2 t.tols.length c2] 46)).alloc (.cells #[.int .i64 0, .int .i64 0, .int .i64 0, .int .i64 0, .int .i64 0, .slice none 0 0, .slice none 0 0] 46)) := (by repeat' (first | exact Below.refl _ _ | refine Below.alloc ?_ ?_ _ | refine Below.setCell ?_ ?_ _ | refine Below.drew ?_ | (apply below_step; assumption) | (simp; done) | (simp; omega) | omega))
  have B0 : BlockIs ((w.alloc (.cells #[.int .i64 t.id, .int .i64 t.prio, .int .i64 t.need.c, .int .i64 t.need.m, .int .i64 t.need.p, .slice A1 t.want.length c1, .slice A2 t.tols.length c2] 46)).alloc (.cells #[.int .i64 0, .int .i64 0, .int .i64 0, .int .i64 0, .int .i64 0, .slice none 0 0, .slice none 0 0] 46)) w.heap.size 46 #[.int .i64 t.id, .int .i64 t.prio, .int .i64 t.need.c, .int .i64 t.need.m, .int .i64 t.need.p, .slice A1 t.want.length c1, .slice A2 t.tols.length c2] := (BlockIs.new w _ _).alloc _
  have B1 : BlockIs ((w.alloc (.cells #[.int .i64 t.id, .int .i64 t.prio, .int .i64 t.need.c, .int .i64 t.need.m, .int .i64 t.need.p, .slice A1 t.want.length c1, .slice A2 t.tols.length c2] 46)).alloc (.cells #[.int .i64 0, .int .i64 0, .int .i64 0, .int .i64 0, .int .i64 0, .slice none 0 0, .slice none 0 0] 46)) (w.heap.size + 1) 46 #[.int .i64 0, .int .i64 0, .int .i64 0, .int .i64 0, .int .i64 0, .slice none 0 0, .slice none 0 0] := BlockIs.new' (by simp)
  have hXz : ((w.alloc (.cells #[.int .i64 t.id, .int .i64 t.prio, .int .i64 t.need.c, .int .i64 t.need.m, .int .i64 t.need.p, .slice A1 t.want.length c1, .slice A2 t.tols.length c2] 46)).alloc (.cells #[.int .i64 0, .int .i64 0, .int .i64 0, .int .i64 0, .int .i64 0, .slice none 0 0, .slice none 0 0] 46)).heap.size = w.heap.size + 2 := by simp
  generalize ((w.alloc (.cells #[.int .i64 t.id, .int .i64 t.prio, .int .i64 t.need.c, .int .i64 t.need.m, .int .i64 t.need.p, .slice A1 t.want.length c1, .slice A2 t.tols.length c2] 46)).alloc (.cells #[.int .i64 0, .int .i64 0, .int .i64 0, .int .i64 0, .int .i64 0, .slice none 0 0, .slice none 0 0] 46)) = X at hX B0 B1 hXz ⊢
  have b5 := B0.cell 5
  simp at b5
  have hl0 : w.heap.size < X.heap.size := by omega
  have hl1 : w.heap.size + 1 < X.heap.size := by omega
  have HX := Lib.hid hX
  have HB0 := Lib.hid B0
  have HB1 := Lib.hid B1
  have hXa : Below X.heap.size X (X.alloc (.cells #[] 120)) := (by repeat' (first | exact Below.refl _ _ | refine Below.alloc ?_ ?_ _ | refine Below.setCell ?_ ?_ _ | refine Below.drew ?_ | (apply below_step; assumption) | (simp; done) | (simp; omega) | omega))
  clear B0 B1 hX hXz
  go_upto_region 2 with (at_builtin; refine wpList_spread _ rfl (.tmp 3) (.tmp 5) 44 rfl 120 i1 _ 2 16 Tryz.underlying44 hi1 hz1 hs1 hy1 rfl (by omega) (.slice (some ⟨X.heap.size, 0, none⟩) 0 0) 0 [] rfl (made_own X _ _) A1 t.want.length c1 (labL t.want) rfl (labL_len _) ((SL.out.below (below_of HX.out hXa)).news) (labL_one _) (by have := M.out.1; unfold maxLen; omega) (by have := M.out.1; omega) ?_; intro u1 w1 hown1 hg1 hk1; rw [Nat.zero_add, List.nil_append] at hown1; obtain ⟨E1, d1, rfl, _⟩ := own_form hown1; have hb1 : Below X.heap.size X w1 := hXa.grown hg1 (by simp) (by intro k hk; simp [Value.ownBlock] at hk; omega); have B0 := HB0.out.below hb1 HB0.out.lt; have x5 := B0.cell 5; have xf := B0.frozen; have xl := B0.lt; simp at x5; clear B0)
  have hbl1 : ∀ b ∈ blk (.slice E1 t.want.length d1), X.heap.size ≤ b := by
    have h2 : (Value.slice (some ⟨X.heap.size, 0, none⟩) 0 0).ownBlock = some X.heap.size := rfl
    rcases blk_of h2 hk1 with e | e <;> rw [e] <;> simp
  have hnd1 : (blk (.slice E1 t.want.length d1)).Nodup := by
    have h2 : (Value.slice (some ⟨X.heap.size, 0, none⟩) 0 0).ownBlock = some X.heap.size := rfl
    rcases blk_of h2 hk1 with e | e <;> rw [e] <;> simp
  have BY0 : BlockIs (w1.setCell ⟨w.heap.size, 5, none⟩ (.slice E1 t.want.length d1)) w.heap.size 46 #[.int .i64 t.id, .int .i64 t.prio, .int .i64 t.need.c, .int .i64 t.need.m, .int .i64 t.need.p, .slice E1 t.want.length d1, .slice A2 t.tols.length c2] := by simpa using (HB0.out.below hb1 hl0).put 5 (.slice E1 t.want.length d1)
  have BY1 : BlockIs (w1.setCell ⟨w.heap.size, 5, none⟩ (.slice E1 t.want.length d1)) (w.heap.size + 1) 46 #[.int .i64 0, .int .i64 0, .int .i64 0, .int .i64 0, .int .i64 0, .slice none 0 0, .slice none 0 0] := (HB1.out.below hb1 hl1).far (by dsimp only; omega) _
  have OY := own_agree hown1 (w' := w1.setCell ⟨w.heap.size, 5, none⟩ (.slice E1 t.want.length d1)) (fun b hb => Below.heap_setCell _ _ _ b (by have := hbl1 b hb; dsimp only; omega))
  have hbY : Below w.heap.size w (w1.setCell ⟨w.heap.size, 5, none⟩ (.slice E1 t.want.length d1)) := (below_of HX.out hb1).setCell (Nat.le_refl _) _
  have hYz : X.heap.size ≤ (w1.setCell ⟨w.heap.size, 5, none⟩ (.slice E1 t.want.length d1)).heap.size := by simpa [World.setCell] using hb1.size
  generalize w1.setCell ⟨w.heap.size, 5, none⟩ (.slice E1 t.want.length d1) = Y at BY0 BY1 OY hbY hYz ⊢
  have OL := Lib.hid (And.intro OY (And.intro hbl1 hnd1))
  have HB0 := Lib.hid BY0
  have HB1 := Lib.hid BY1
  have HY := Lib.hid hbY
  have b6 := BY0.cell 6
  have hl0 := BY0.lt
  have hl1 := BY1.lt
  simp at b6
  have hYa : Below Y.heap.size Y (Y.alloc (.cells #[] 3)) := (by repeat' (first | exact Below.refl _ _ | refine Below.alloc ?_ ?_ _ | refine Below.setCell ?_ ?_ _ | refine Below.drew ?_ | (apply below_step; assumption) | (simp; done) | (simp; omega) | omega))
  clear BY0 BY1 OY hbY hown1 hg1 hk1 hb1 xf xl x5 b5 hbl1 hnd1 hXa
  go_upto_region 3 with (at_builtin; refine wpList_spread _ rfl (.tmp 8) (.tmp 10) 30 rfl 3 i2 _ 1 8 Tryz.underlying30 hi2 hz2 hs2 hy2 rfl (by omega) (.slice (some ⟨Y.heap.size, 0, none⟩) 0 0) 0 [] rfl (made_own Y _ _) A2 t.tols.length c2 (intL t.tols) rfl (by simp [intL]) ((SI.out.below (below_of HY.out hYa)).news) (intL_one _) (by have := M.out.2; unfold maxLen; omega) (by have := M.out.2; omega) ?_; intro u2 w2 hown2 hg2 hk2; rw [Nat.zero_add, List.nil_append] at hown2; obtain ⟨E2, d2, rfl, _⟩ := own_form hown2; have hb2 : Below Y.heap.size Y w2 := hYa.grown hg2 (by simp) (by intro k hk; simp [Value.ownBlock] at hk; omega); have B0 := HB0.out.below hb2 HB0.out.lt; have x6 := B0.cell 6; have xf := B0.frozen; have xl := B0.lt; simp at x6; clear B0)
  have hbl2 : ∀ b ∈ blk (.slice E2 t.tols.length d2), Y.heap.size ≤ b := by
    have h2 : (Value.slice (some ⟨Y.heap.size, 0, none⟩) 0 0).ownBlock = some Y.heap.size := rfl
    rcases blk_of h2 hk2 with e | e <;> rw [e] <;> simp
  have hnd2 : (blk (.slice E2 t.tols.length d2)).Nodup := by
    have h2 : (Value.slice (some ⟨Y.heap.size, 0, none⟩) 0 0).ownBlock = some Y.heap.size := rfl
    rcases blk_of h2 hk2 with e | e <;> rw [e] <;> simp
  obtain ⟨OY, hbl1, hnd1⟩ := OL.out
  have hY1 := own_lt OY
  have O1 := own_agree OY (Agree.of_below hb2 hY1)
  have BZ0 : BlockIs (w2.setCell ⟨w.heap.size, 6, none⟩ (.slice E2 t.tols.length d2)) w.heap.size 46 #[.int .i64 t.id, .int .i64 t.prio, .int .i64 t.need.c, .int .i64 t.need.m, .int .i64 t.need.p, .slice E1 t.want.length d1, .slice E2 t.tols.length d2] := by simpa using (HB0.out.below hb2 hl0).put 6 (.slice E2 t.tols.length d2)
  have BZ1 : BlockIs (w2.setCell ⟨w.heap.size, 6, none⟩ (.slice E2 t.tols.length d2)) (w.heap.size + 1) 46 #[.int .i64 0, .int .i64 0, .int .i64 0, .int .i64 0, .int .i64 0, .slice none 0 0, .slice none 0 0] := (HB1.out.below hb2 hl1).far (by dsimp only; omega) _
  have P1 := own_agree O1 (w' := w2.setCell ⟨w.heap.size, 6, none⟩ (.slice E2 t.tols.length d2)) (fun b hb => Below.heap_setCell _ _ _ b (by have := hbl1 b hb; dsimp only; omega))
  have P2 := own_agree hown2 (w' := w2.setCell ⟨w.heap.size, 6, none⟩ (.slice E2 t.tols.length d2)) (fun b hb => Below.heap_setCell _ _ _ b (by have := hbl2 b hb; dsimp only; omega))
  have hbZ : Below w.heap.size w (w2.setCell ⟨w.heap.size, 6, none⟩ (.slice E2 t.tols.length d2)) := (below_of HY.out hb2).setCell (Nat.le_refl _) _
  generalize w2.setCell ⟨w.heap.size, 6, none⟩ (.slice E2 t.tols.length d2) = Z at BZ0 BZ1 P1 P2 hbZ ⊢
  have y0 := BZ0.cell 0; have y1 := BZ0.cell 1; have y2 := BZ0.cell 2; have y3 := BZ0.cell 3; have y4 := BZ0.cell 4; have y5 := BZ0.cell 5; have y6 := BZ0.cell 6
  have z0 := BZ1.cell 0; have z1 := BZ1.cell 1; have z2 := BZ1.cell 2; have z3 := BZ1.cell 3; have z4 := BZ1.cell 4; have z5 := BZ1.cell 5; have z6 := BZ1.cell 6
  have zf := BZ1.frozen
  simp at y0 y1 y2 y3 y4 y5 y6 z0 z1 z2 z3 z4 z5 z6
  have PP := Lib.hid (And.intro P1 (And.intro P2 (And.intro hbl1 (And.intro hnd1 (And.intro hbl2 (And.intro hnd2 (And.intro hY1 BZ1)))))))
  clear OY O1 P1 P2 hbl1 hnd1 hbl2 hnd2 hY1 BZ0 BZ1 hown2 hg2 hk2 hb2 xf xl x6 b6 hYa OL HB0 HB1
  go_wp2_with fail
  obtain ⟨P1, P2, hbl1, hnd1, hbl2, hnd2, hY1, BZ1⟩ := PP.out
  have hV : BlockIs (((((((Z.setCell ⟨w.heap.size + 1, 0, none⟩ (.int .i64 t.id)).setCell ⟨w.heap.size + 1, 1, none⟩ (.int .i64 t.prio)).setCell ⟨w.heap.size + 1, 2, none⟩ (.int .i64 t.need.c)).setCell ⟨w.heap.size + 1, 3, none⟩ (.int .i64 t.need.m)).setCell ⟨w.heap.size + 1, 4, none⟩ (.int .i64 t.need.p)).setCell ⟨w.heap.size + 1, 5, none⟩ (.slice E1 t.want.length d1)).setCell ⟨w.heap.size + 1, 6, none⟩ (.slice E2 t.tols.length d2)) (w.heap.size + 1) 46 #[.int .i64 t.id, .int .i64 t.prio, .int .i64 t.need.c, .int .i64 t.need.m, .int .i64 t.need.p, .slice E1 t.want.length d1, .slice E2 t.tols.length d2] := put7 _ _ _ _ _ _ _ BZ1 rfl
  have hA1 : Agree (blk (.slice E1 t.want.length d1)) Z (((((((Z.setCell ⟨w.heap.size + 1, 0, none⟩ (.int .i64 t.id)).setCell ⟨w.heap.size + 1, 1, none⟩ (.int .i64 t.prio)).setCell ⟨w.heap.size + 1, 2, none⟩ (.int .i64 t.need.c)).setCell ⟨w.heap.size + 1, 3, none⟩ (.int .i64 t.need.m)).setCell ⟨w.heap.size + 1, 4, none⟩ (.int .i64 t.need.p)).setCell ⟨w.heap.size + 1, 5, none⟩ (.slice E1 t.want.length d1)).setCell ⟨w.heap.size + 1, 6, none⟩ (.slice E2 t.tols.length d2)) := fun b hb => putAll_block (ds := [.int .i64 t.id, .int .i64 t.prio, .int .i64 t.need.c, .int .i64 t.need.m, .int .i64 t.need.p, .slice E1 t.want.length d1, .slice E2 t.tols.length d2]) (by have := hbl1 b hb; omega)
  have hA2 : Agree (blk (.slice E2 t.tols.length d2)) Z (((((((Z.setCell ⟨w.heap.size + 1, 0, none⟩ (.int .i64 t.id)).setCell ⟨w.heap.size + 1, 1, none⟩ (.int .i64 t.prio)).setCell ⟨w.heap.size + 1, 2, none⟩ (.int .i64 t.need.c)).setCell ⟨w.heap.size + 1, 3, none⟩ (.int .i64 t.need.m)).setCell ⟨w.heap.size + 1, 4, none⟩ (.int .i64 t.need.p)).setCell ⟨w.heap.size + 1, 5, none⟩ (.slice E1 t.want.length d1)).setCell ⟨w.heap.size + 1, 6, none⟩ (.slice E2 t.tols.length d2)) := fun b hb => putAll_block (ds := [.int .i64 t.id, .int .i64 t.prio, .int .i64 t.need.c, .int .i64 t.need.m, .int .i64 t.need.p, .slice E1 t.want.length d1, .slice E2 t.tols.length d2]) (by have := hbl2 b hb; omega)
  have hB : Below w.heap.size w (((((((Z.setCell ⟨w.heap.size + 1, 0, none⟩ (.int .i64 t.id)).setCell ⟨w.heap.size + 1, 1, none⟩ (.int .i64 t.prio)).setCell ⟨w.heap.size + 1, 2, none⟩ (.int .i64 t.need.c)).setCell ⟨w.heap.size + 1, 3, none⟩ (.int .i64 t.need.m)).setCell ⟨w.heap.size + 1, 4, none⟩ (.int .i64 t.need.p)).setCell ⟨w.heap.size + 1, 5, none⟩ (.slice E1 t.want.length d1)).setCell ⟨w.heap.size + 1, 6, none⟩ (.slice E2 t.tols.length d2)) := below7 hbZ (by omega)
  have Q1 := own_agree P1 hA1
  have Q2 := own_agree P2 hA2
  generalize (((((((Z.setCell ⟨w.heap.size + 1, 0, none⟩ (.int .i64 t.id)).setCell ⟨w.heap.size + 1, 1, none⟩ (.int .i64 t.prio)).setCell ⟨w.heap.size + 1, 2, none⟩ (.int .i64 t.need.c)).setCell ⟨w.heap.size + 1, 3, none⟩ (.int .i64 t.need.m)).setCell ⟨w.heap.size + 1, 4, none⟩ (.int .i64 t.need.p)).setCell ⟨w.heap.size + 1, 5, none⟩ (.slice E1 t.want.length d1)).setCell ⟨w.heap.size + 1, 6, none⟩ (.slice E2 t.tols.length d2)) = V at hV Q1 Q2 hB ⊢
  have x0 := hV.cell 0; have x1 := hV.cell 1; have x2 := hV.cell 2; have x3 := hV.cell 3; have x4 := hV.cell 4; have x5 := hV.cell 5; have x6 := hV.cell 6
  simp at x0 x1 x2 x3 x4 x5 x6
  refine bodyPost_ret (v := .agg #[.int .i64 t.id, .int .i64 t.prio, .int .i64 t.need.c, .int .i64 t.need.m, .int .i64 t.need.p, .slice E1 t.want.length d1, .slice E2 t.tols.length d2]) (by simp [results, Tryz.results50, go_sem, x0, x1, x2, x3, x4, x5, x6]) rfl ⟨_, _, rfl, ⟨_, _, rfl, Q1, Q2, rfl, M.out⟩, ?_, ?_, hB⟩
  · rw [List.nodup_append]
    exact ⟨hnd1, hnd2, fun a ha b hb e => by have := hY1 a ha; have := hbl2 b hb; omega⟩
  · intro b hb
    rcases List.mem_append.1 hb with h | h
    · have := hbl1 b h; omega
    · have := hbl2 b h; omega
set_option maxHeartbeats 1600000 in
theorem sCopyNode_any (t : NV) (cs : List Value) (w : World) (hR : NodeR w t cs) : Calls Tryz.prog 77 #[.agg cs.toArray] w (RetO NodeO w t) := by
  obtain ⟨i1, hi1, hz1, hs1, hy1⟩ := info_parts Tryz.infoLab
  obtain ⟨i2, hi2, hz2, hs2, hy2⟩ := info_parts Tryz.infoI
  obtain ⟨v1, v2, rfl, sl, si, m1, m2⟩ := hR
  obtain ⟨A1, c1, rfl, _⟩ := sl.form
  obtain ⟨A2, c2, rfl, _⟩ := si.form
  have SL := Lib.hid sl
  have SI := Lib.hid si
  have M := Lib.hid (And.intro m1 m2)
  clear sl si m1 m2
  go_enter Tryz.func77, Tryz.ntmps77
  go_upto_region 1 with fail
  have hX : Below w.heap.size w ((w.alloc (.cells #[.int .i64 t.id, .int .i64 t.pool, .int .i64 t.cap.c, .int .i64 t.cap.m, .int .i64 t.cap.p, .slice A1 t.labs.length c1, .slice A2 t.taints.length c2, .bool t.cordon] 60)).alloc (.cells #[.int .i64 0, .int .i64 0, .int .i64 0, .int .i64 0, .int .i64 0, .slice none 0 0, .slice none 0 0, .bool false] 60)) := (by repeat' (first | exact Below.refl _ _ | refine Below.alloc ?_ ?_ _ | refine Below.setCell ?_ ?_ _ | refine Below.drew ?_ | (apply below_step; assumption) | (simp; done) | (simp; omega) | omega))
  have B0 : BlockIs ((w.alloc (.cells #[.int .i64 t.id, .int .i64 t.pool, .int .i64 t.cap.c, .int .i64 t.cap.m, .int .i64 t.cap.p, .slice A1 t.labs.length c1, .slice A2 t.taints.length c2, .bool t.cordon] 60)).alloc (.cells #[.int .i64 0, .int .i64 0, .int .i64 0, .int .i64 0, .int .i64 0, .slice none 0 0, .slice none 0 0, .bool false] 60)) w.heap.size 60 #[.int .i64 t.id, .int .i64 t.pool, .int .i64 t.cap.c, .int .i64 t.cap.m, .int .i64 t.cap.p, .slice A1 t.labs.length c1, .slice A2 t.taints.length c2, .bool t.cordon] := (BlockIs.new w _ _).alloc _
  have B1 : BlockIs ((w.alloc (.cells #[.int .i64 t.id, .int .i64 t.pool, .int .i64 t.cap.c, .int .i64 t.cap.m, .int .i64 t.cap.p, .slice A1 t.labs.length c1, .slice A2 t.taints.length c2, .bool t.cordon] 60)).alloc (.cells #[.int .i64 0, .int .i64 0, .int .i64 0, .int .i64 0, .int .i64 0, .slice none 0 0, .slice none 0 0, .bool false] 60)) (w.heap.size + 1) 60 #[.int .i64 0, .int .i64 0, .int .i64 0, .int .i64 0, .int .i64 0, .slice none 0 0, .slice none 0 0, .bool false] := BlockIs.new' (by simp)
  have hXz : ((w.alloc (.cells #[.int .i64 t.id, .int .i64 t.pool, .int .i64 t.cap.c, .int .i64 t.cap.m, .int .i64 t.cap.p, .slice A1 t.labs.length c1, .slice A2 t.taints.length c2, .bool t.cordon] 60)).alloc (.cells #[.int .i64 0, .int .i64 0, .int .i64 0, .int .i64 0, .int .i64 0, .slice none 0 0, .slice none 0 0, .bool false] 60)).heap.size = w.heap.size + 2 := by simp
  generalize ((w.alloc (.cells #[.int .i64 t.id, .int .i64 t.pool, .int .i64 t.cap.c, .int .i64 t.cap.m, .int .i64 t.cap.p, .slice A1 t.labs.length c1, .slice A2 t.taints.length c2, .bool t.cordon] 60)).alloc (.cells #[.int .i64 0, .int .i64 0, .int .i64 0, .int .i64 0, .int .i64 0, .slice none 0 0, .slice none 0 0, .bool false] 60)) = X at hX B0 B1 hXz ⊢
  have b5 := B0.cell 5
  simp at b5
  have hl0 : w.heap.size < X.heap.size := by omega
  have hl1 : w.heap.size + 1 < X.heap.size := by omega
  have HX := Lib.hid hX
  have HB0 := Lib.hid B0
  have HB1 := Lib.hid B1
  have hXa : Below X.heap.size X (X.alloc (.cells #[] 120)) := (by repeat' (first | exact Below.refl _ _ | refine Below.alloc ?_ ?_ _ | refine Below.setCell ?_ ?_ _ | refine Below.drew ?_ | (apply below_step; assumption) | (simp; done) | (simp; omega) | omega))
  clear B0 B1 hX hXz
  go_upto_region 2 with (at_builtin; refine wpList_spread _ rfl (.tmp 3) (.tmp 5) 44 rfl 120 i1 _ 2 16 Tryz.underlying44 hi1 hz1 hs1 hy1 rfl (by omega) (.slice (some ⟨X.heap.size, 0, none⟩) 0 0) 0 [] rfl (made_own X _ _) A1 t.labs.length c1 (labL t.labs) rfl (labL_len _) ((SL.out.below (below_of HX.out hXa)).news) (labL_one _) (by have := M.out.1; unfold maxLen; omega) (by have := M.out.1; omega) ?_; intro u1 w1 hown1 hg1 hk1; rw [Nat.zero_add, List.nil_append] at hown1; obtain ⟨E1, d1, rfl, _⟩ := own_form hown1; have hb1 : Below X.heap.size X w1 := hXa.grown hg1 (by simp) (by intro k hk; simp [Value.ownBlock] at hk; omega); have B0 := HB0.out.below hb1 HB0.out.lt; have x5 := B0.cell 5; have xf := B0.frozen; have xl := B0.lt; simp at x5; clear B0)
  have hbl1 : ∀ b ∈ blk (.slice E1 t.labs.length d1), X.heap.size ≤ b := by
    have h2 : (Value.slice (some ⟨X.heap.size, 0, none⟩) 0 0).ownBlock = some X.heap.size := rfl
    rcases blk_of h2 hk1 with e | e <;> rw [e] <;> simp
  have hnd1 : (blk (.slice E1 t.labs.length d1)).Nodup := by
    have h2 : (Value.slice (some ⟨X.heap.size, 0, none⟩) 0 0).ownBlock = some X.heap.size := rfl
    rcases blk_of h2 hk1 with e | e <;> rw [e] <;> simp
  have BY0 : BlockIs (w1.setCell ⟨w.heap.size, 5, none⟩ (.slice E1 t.labs.length d1)) w.heap.size 60 #[.int .i64 t.id, .int .i64 t.pool, .int .i64 t.cap.c, .int .i64 t.cap.m, .int .i64 t.cap.p, .slice E1 t.labs.length d1, .slice A2 t.taints.length c2, .bool t.cordon] := by simpa using (HB0.out.below hb1 hl0).put 5 (.slice E1 t.labs.length d1)
  have BY1 : BlockIs (w1.setCell ⟨w.heap.size, 5, none⟩ (.slice E1 t.labs.length d1)) (w.heap.size + 1) 60 #[.int .i64 0, .int .i64 0, .int .i64 0, .int .i64 0, .int .i64 0, .slice none 0 0, .slice none 0 0, .bool false] := (HB1.out.below hb1 hl1).far (by dsimp only; omega) _
  have OY := own_agree hown1 (w' := w1.setCell ⟨w.heap.size, 5, none⟩ (.slice E1 t.labs.length d1)) (fun b hb => Below.heap_setCell _ _ _ b (by have := hbl1 b hb; dsimp only; omega))
  have hbY : Below w.heap.size w (w1.setCell ⟨w.heap.size, 5, none⟩ (.slice E1 t.labs.length d1)) := (below_of HX.out hb1).setCell (Nat.le_refl _) _
  have hYz : X.heap.size ≤ (w1.setCell ⟨w.heap.size, 5, none⟩ (.slice E1 t.labs.length d1)).heap.size := by simpa [World.setCell] using hb1.size
  generalize w1.setCell ⟨w.heap.size, 5, none⟩ (.slice E1 t.labs.length d1) = Y at BY0 BY1 OY hbY hYz ⊢
  have OL := Lib.hid (And.intro OY (And.intro hbl1 hnd1))
  have HB0 := Lib.hid BY0
  have HB1 := Lib.hid BY1
  have HY := Lib.hid hbY
  have b6 := BY0.cell 6
  have hl0 := BY0.lt
  have hl1 := BY1.lt
  simp at b6
  have hYa : Below Y.heap.size Y (Y.alloc (.cells #[] 3)) := (by repeat' (first | exact Below.refl _ _ | refine Below.alloc ?_ ?_ _ | refine Below.setCell ?_ ?_ _ | refine Below.drew ?_ | (apply below_step; assumption) | (simp; done) | (simp; omega) | omega))
  clear BY0 BY1 OY hbY hown1 hg1 hk1 hb1 xf xl x5 b5 hbl1 hnd1 hXa
  go_upto_region 3 with (at_builtin; refine wpList_spread _ rfl (.tmp 8) (.tmp 10) 30 rfl 3 i2 _ 1 8 Tryz.underlying30 hi2 hz2 hs2 hy2 rfl (by omega) (.slice (some ⟨Y.heap.size, 0, none⟩) 0 0) 0 [] rfl (made_own Y _ _) A2 t.taints.length c2 (intL t.taints) rfl (by simp [intL]) ((SI.out.below (below_of HY.out hYa)).news) (intL_one _) (by have := M.out.2; unfold maxLen; omega) (by have := M.out.2; omega) ?_; intro u2 w2 hown2 hg2 hk2; rw [Nat.zero_add, List.nil_append] at hown2; obtain ⟨E2, d2, rfl, _⟩ := own_form hown2; have hb2 : Below Y.heap.size Y w2 := hYa.grown hg2 (by simp) (by intro k hk; simp [Value.ownBlock] at hk; omega); have B0 := HB0.out.below hb2 HB0.out.lt; have x6 := B0.cell 6; have xf := B0.frozen; have xl := B0.lt; simp at x6; clear B0)
  have hbl2 : ∀ b ∈ blk (.slice E2 t.taints.length d2), Y.heap.size ≤ b := by
    have h2 : (Value.slice (some ⟨Y.heap.size, 0, none⟩) 0 0).ownBlock = some Y.heap.size := rfl
    rcases blk_of h2 hk2 with e | e <;> rw [e] <;> simp
  have hnd2 : (blk (.slice E2 t.taints.length d2)).Nodup := by
    have h2 : (Value.slice (some ⟨Y.heap.size, 0, none⟩) 0 0).ownBlock = some Y.heap.size := rfl
    rcases blk_of h2 hk2 with e | e <;> rw [e] <;> simp
  obtain ⟨OY, hbl1, hnd1⟩ := OL.out
  have hY1 := own_lt OY
  have O1 := own_agree OY (Agree.of_below hb2 hY1)
  have BZ0 : BlockIs (w2.setCell ⟨w.heap.size, 6, none⟩ (.slice E2 t.taints.length d2)) w.heap.size 60 #[.int .i64 t.id, .int .i64 t.pool, .int .i64 t.cap.c, .int .i64 t.cap.m, .int .i64 t.cap.p, .slice E1 t.labs.length d1, .slice E2 t.taints.length d2, .bool t.cordon] := by simpa using (HB0.out.below hb2 hl0).put 6 (.slice E2 t.taints.length d2)
  have BZ1 : BlockIs (w2.setCell ⟨w.heap.size, 6, none⟩ (.slice E2 t.taints.length d2)) (w.heap.size + 1) 60 #[.int .i64 0, .int .i64 0, .int .i64 0, .int .i64 0, .int .i64 0, .slice none 0 0, .slice none 0 0, .bool false] := (HB1.out.below hb2 hl1).far (by dsimp only; omega) _
  have P1 := own_agree O1 (w' := w2.setCell ⟨w.heap.size, 6, none⟩ (.slice E2 t.taints.length d2)) (fun b hb => Below.heap_setCell _ _ _ b (by have := hbl1 b hb; dsimp only; omega))
  have P2 := own_agree hown2 (w' := w2.setCell ⟨w.heap.size, 6, none⟩ (.slice E2 t.taints.length d2)) (fun b hb => Below.heap_setCell _ _ _ b (by have := hbl2 b hb; dsimp only; omega))
  have hbZ : Below w.heap.size w (w2.setCell ⟨w.heap.size, 6, none⟩ (.slice E2 t.taints.length d2)) := (below_of HY.out hb2).setCell (Nat.le_refl _) _
  generalize w2.setCell ⟨w.heap.size, 6, none⟩ (.slice E2 t.taints.length d2) = Z at BZ0 BZ1 P1 P2 hbZ ⊢
  have y0 := BZ0.cell 0; have y1 := BZ0.cell 1; have y2 := BZ0.cell 2; have y3 := BZ0.cell 3; have y4 := BZ0.cell 4; have y5 := BZ0.cell 5; have y6 := BZ0.cell 6; have y7 := BZ0.cell 7
  have z0 := BZ1.cell 0; have z1 := BZ1.cell 1; have z2 := BZ1.cell 2; have z3 := BZ1.cell 3; have z4 := BZ1.cell 4; have z5 := BZ1.cell 5; have z6 := BZ1.cell 6; have z7 := BZ1.cell 7
  have zf := BZ1.frozen
  simp at y0 y1 y2 y3 y4 y5 y6 y7 z0 z1 z2 z3 z4 z5 z6 z7
  have PP := Lib.hid (And.intro P1 (And.intro P2 (And.intro hbl1 (And.intro hnd1 (And.intro hbl2 (And.intro hnd2 (And.intro hY1 BZ1)))))))
  clear OY O1 P1 P2 hbl1 hnd1 hbl2 hnd2 hY1 BZ0 BZ1 hown2 hg2 hk2 hb2 xf xl x6 b6 hYa OL HB0 HB1
  go_wp2_with fail
  obtain ⟨P1, P2, hbl1, hnd1, hbl2, hnd2, hY1, BZ1⟩ := PP.out
  have hV : BlockIs ((((((((Z.setCell ⟨w.heap.size + 1, 0, none⟩ (.int .i64 t.id)).setCell ⟨w.heap.size + 1, 1, none⟩ (.int .i64 t.pool)).setCell ⟨w.heap.size + 1, 2, none⟩ (.int .i64 t.cap.c)).setCell ⟨w.heap.size + 1, 3, none⟩ (.int .i64 t.cap.m)).setCell ⟨w.heap.size + 1, 4, none⟩ (.int .i64 t.cap.p)).setCell ⟨w.heap.size + 1, 5, none⟩ (.slice E1 t.labs.length d1)).setCell ⟨w.heap.size + 1, 6, none⟩ (.slice E2 t.taints.length d2)).setCell ⟨w.heap.size + 1, 7, none⟩ (.bool t.cordon)) (w.heap.size + 1) 60 #[.int .i64 t.id, .int .i64 t.pool, .int .i64 t.cap.c, .int .i64 t.cap.m, .int .i64 t.cap.p, .slice E1 t.labs.length d1, .slice E2 t.taints.length d2, .bool t.cordon] := put8 _ _ _ _ _ _ _ _ BZ1 rfl
  have hA1 : Agree (blk (.slice E1 t.labs.length d1)) Z ((((((((Z.setCell ⟨w.heap.size + 1, 0, none⟩ (.int .i64 t.id)).setCell ⟨w.heap.size + 1, 1, none⟩ (.int .i64 t.pool)).setCell ⟨w.heap.size + 1, 2, none⟩ (.int .i64 t.cap.c)).setCell ⟨w.heap.size + 1, 3, none⟩ (.int .i64 t.cap.m)).setCell ⟨w.heap.size + 1, 4, none⟩ (.int .i64 t.cap.p)).setCell ⟨w.heap.size + 1, 5, none⟩ (.slice E1 t.labs.length d1)).setCell ⟨w.heap.size + 1, 6, none⟩ (.slice E2 t.taints.length d2)).setCell ⟨w.heap.size + 1, 7, none⟩ (.bool t.cordon)) := fun b hb => putAll_block (ds := [.int .i64 t.id, .int .i64 t.pool, .int .i64 t.cap.c, .int .i64 t.cap.m, .int .i64 t.cap.p, .slice E1 t.labs.length d1, .slice E2 t.taints.length d2, .bool t.cordon]) (by have := hbl1 b hb; omega)
  have hA2 : Agree (blk (.slice E2 t.taints.length d2)) Z ((((((((Z.setCell ⟨w.heap.size + 1, 0, none⟩ (.int .i64 t.id)).setCell ⟨w.heap.size + 1, 1, none⟩ (.int .i64 t.pool)).setCell ⟨w.heap.size + 1, 2, none⟩ (.int .i64 t.cap.c)).setCell ⟨w.heap.size + 1, 3, none⟩ (.int .i64 t.cap.m)).setCell ⟨w.heap.size + 1, 4, none⟩ (.int .i64 t.cap.p)).setCell ⟨w.heap.size + 1, 5, none⟩ (.slice E1 t.labs.length d1)).setCell ⟨w.heap.size + 1, 6, none⟩ (.slice E2 t.taints.length d2)).setCell ⟨w.heap.size + 1, 7, none⟩ (.bool t.cordon)) := fun b hb => putAll_block (ds := [.int .i64 t.id, .int .i64 t.pool, .int .i64 t.cap.c, .int .i64 t.cap.m, .int .i64 t.cap.p, .slice E1 t.labs.length d1, .slice E2 t.taints.length d2, .bool t.cordon]) (by have := hbl2 b hb; omega)
  have hB : Below w.heap.size w ((((((((Z.setCell ⟨w.heap.size + 1, 0, none⟩ (.int .i64 t.id)).setCell ⟨w.heap.size + 1, 1, none⟩ (.int .i64 t.pool)).setCell ⟨w.heap.size + 1, 2, none⟩ (.int .i64 t.cap.c)).setCell ⟨w.heap.size + 1, 3, none⟩ (.int .i64 t.cap.m)).setCell ⟨w.heap.size + 1, 4, none⟩ (.int .i64 t.cap.p)).setCell ⟨w.heap.size + 1, 5, none⟩ (.slice E1 t.labs.length d1)).setCell ⟨w.heap.size + 1, 6, none⟩ (.slice E2 t.taints.length d2)).setCell ⟨w.heap.size + 1, 7, none⟩ (.bool t.cordon)) := below8 hbZ (by omega)
  have Q1 := own_agree P1 hA1
  have Q2 := own_agree P2 hA2
  generalize ((((((((Z.setCell ⟨w.heap.size + 1, 0, none⟩ (.int .i64 t.id)).setCell ⟨w.heap.size + 1, 1, none⟩ (.int .i64 t.pool)).setCell ⟨w.heap.size + 1, 2, none⟩ (.int .i64 t.cap.c)).setCell ⟨w.heap.size + 1, 3, none⟩ (.int .i64 t.cap.m)).setCell ⟨w.heap.size + 1, 4, none⟩ (.int .i64 t.cap.p)).setCell ⟨w.heap.size + 1, 5, none⟩ (.slice E1 t.labs.length d1)).setCell ⟨w.heap.size + 1, 6, none⟩ (.slice E2 t.taints.length d2)).setCell ⟨w.heap.size + 1, 7, none⟩ (.bool t.cordon)) = V at hV Q1 Q2 hB ⊢
  have x0 := hV.cell 0; have x1 := hV.cell 1; have x2 := hV.cell 2; have x3 := hV.cell 3; have x4 := hV.cell 4; have x5 := hV.cell 5; have x6 := hV.cell 6; have x7 := hV.cell 7
  simp at x0 x1 x2 x3 x4 x5 x6 x7
  refine bodyPost_ret (v := .agg #[.int .i64 t.id, .int .i64 t.pool, .int .i64 t.cap.c, .int .i64 t.cap.m, .int .i64 t.cap.p, .slice E1 t.labs.length d1, .slice E2 t.taints.length d2, .bool t.cordon]) (by simp [results, Tryz.results77, go_sem, x0, x1, x2, x3, x4, x5, x6, x7]) rfl ⟨_, _, rfl, ⟨_, _, rfl, Q1, Q2, rfl, M.out⟩, ?_, ?_, hB⟩
  · rw [List.nodup_append]
    exact ⟨hnd1, hnd2, fun a ha b hb e => by have := hY1 a ha; have := hbl2 b hb; omega⟩
  · intro b hb
    rcases List.mem_append.1 hb with h | h
    · have := hbl1 b h; omega
    · have := hbl2 b h; omega
end Go.Proofs.YtocfgejceoenmaaGreatDoor

namespace Go.Proofs.YtocfgejceoenmaaGreatDoor
open Go.RowKit

/-- Of what was there in w only block g may have turned. -/
structure KeepB (g : Nat) (w w' : World) : Prop where
  os : w'.os = w.os
  tape : w'.tape = w.tape
  output : w'.output = w.output
  size : w.heap.size ≤ w'.heap.size
  block : ∀ k, k < w.heap.size → k ≠ g → w'.heap[k]? = w.heap[k]?
section
variable {g : Nat} {w w' w'' : World}
theorem KeepB.refl (g : Nat) (w : World) : KeepB g w w := ⟨rfl, rfl, rfl, Nat.le_refl _, fun _ _ _ => rfl⟩
theorem KeepB.trans (h : KeepB g w w') (k : KeepB g w' w'') : KeepB g w w'' :=
  ⟨k.os.trans h.os, k.tape.trans h.tape, k.output.trans h.output, Nat.le_trans h.size k.size, fun b hb hne => (k.block b (Nat.lt_of_lt_of_le hb h.size) hne).trans (h.block b hb hne)⟩
theorem KeepB.step (h : KeepB g w w') (hb : Below w'.heap.size w' w'') : KeepB g w w'' := h.trans ⟨hb.os, hb.tape, hb.output, hb.size, fun k hk _ => hb.block k hk⟩
theorem KeepB.put (h : KeepB g w w') (o : Nat) (u : Value) : KeepB g w (w'.setCell ⟨g, o, none⟩ u) := h.trans ⟨rfl, rfl, rfl, by simp [World.setCell], fun k _ hne => Below.heap_setCell _ _ _ k hne⟩
theorem KeepB.grown (h : KeepB g w w') {row : Option Nat} (hg : w'.grownBy w'' row) (hr : ∀ k, row = some k → w.heap.size ≤ k) : KeepB g w w'' :=
  ⟨hg.os.trans h.os, hg.tape.trans h.tape, hg.output.trans h.output, Nat.le_trans h.size hg.size, fun k hk hne => (hg.block k (Nat.lt_of_lt_of_le hk h.size) (fun e => by have := hr k e.symm; omega)).trans (h.block k hk hne)⟩
theorem KeepB.below {B : Nat} (h : KeepB g w w') (hB : B ≤ w.heap.size) (hg : B ≤ g) : Below B w w' := ⟨h.os, h.tape, h.output, h.size, fun k hk => h.block k (by omega) (by omega)⟩
theorem BlockIs.keep {b : Nat} {t : TypeId} {cs : Array Value} (h : BlockIs w b t cs) (k : KeepB g w w') (hne : b ≠ g) : BlockIs w' b t cs := (k.block b h.lt hne).trans h
end

section
variable {P : Program} {ops : Array Oper} {o : Oper} {a : Act} {Q : Exit → Act → World → Prop}
theorem step_spread_if {K : Act → World → Prop} {E : Prop} (w : World) (hgd : o.guard = none) (s x : Operand) (t : TypeId)
    (ho : o.op = .call { callee := .builtin .append, args := #[s, x], argTypes := #[t, t] })
    (e : TypeId) (i : TypeInfo) (z : Value) (size bytes : Nat) (ht : P.underlying t = some (.slice e)) (hi : P.info? e = some i) (hz : i.zero = some z)
    (hsize : i.size = size) (hby : i.bytes = bytes) (hzs : z.cells.size = size) (hsz : 0 < size)
    (v : Value) (n : Nat) (xs : List Value) (hs : a.eval s = v) (hown : w.ownsRow 0 e size v n xs)
    (A : Option Addr) (m c : Nat) (news : List Value) (hx : a.eval x = .slice A m c) (hl : news.length = m * size) (hnews : 0 < m → ∃ b off, A = some ⟨b, off, none⟩ ∧ CellsAt w b off news) (h1 : ∀ u ∈ news, u.oneCell' = true)
    (h63 : n + m ≤ maxLen) (hbytes : (n + m) * bytes ≤ 140737488355328)
    (h : ∀ v' w', w'.ownsRow 0 e size v' (n + m) (xs ++ news) → w.grownBy w' v.ownBlock → (v'.ownBlock = v.ownBlock ∨ v'.ownBlock = some w.heap.size) → K (a.put o.dst v') w') :
    if Region.wanted o (yielded ops a.tmps) = true then Oper.wp P o a w K Q else E := by
  have hw : Region.wanted o (yielded ops a.tmps) = true := by simp [Region.wanted, hgd]
  rw [if_pos hw]
  exact step_spread w hgd s x t ho e i z size bytes ht hi hz hsize hby hzs hsz v n xs hs hown A m c news hx hl hnews h1 h63 hbytes h
end
theorem pushed {α : Type} {R : World → α → List Value → List Nat → Prop} {ty : TypeId} {n : Nat} {W w4 : World} {v v' : Value} {l : List α} {x : α} {xs cs : List Value} {b bx : List Nat} (hR : Framed R) (hel : Elems R W l xs b) (hx : R W x cs bx)
    (hnd : (blk v ++ (b ++ bx)).Nodup) (hlt : ∀ c ∈ b ++ bx, c < W.heap.size) (_hlv : ∀ c ∈ blk v, c < W.heap.size) (hown : w4.ownsRow 0 ty n v' (l.length + 1) (xs ++ cs)) (hg : W.grownBy w4 v.ownBlock) (hk : v'.ownBlock = v.ownBlock ∨ v'.ownBlock = some W.heap.size) :
    RowO R ty n w4 v' (l ++ [x]) (blk v' ++ (b ++ bx)) ∧ (blk v' ++ (b ++ bx)).Nodup := by
  rw [List.nodup_append] at hnd
  obtain ⟨n1, n2, n3⟩ := hnd
  have ha : Agree (b ++ bx) W w4 := Agree.of_grown hg (fun c hc => ⟨hlt c hc, fun e => n3 c (by simp [blk, ← e]) c hc rfl⟩)
  refine ⟨⟨xs ++ cs, b ++ bx, by simpa using hown, (hel.snoc hx).agree hR ha, rfl⟩, ?_⟩
  rw [List.nodup_append]
  rcases hk with e | e
  · have : blk v' = blk v := by simp [blk, e]
    rw [this]; exact ⟨n1, n2, n3⟩
  · have : blk v' = [W.heap.size] := by simp [blk, e]
    rw [this]
    exact ⟨by simp, n2, fun a ha b' hb e => by simp at ha; have := hlt b' hb; omega⟩
def bindL (l : List BV) : List Value := l.flatMap fun x => [.int .i64 x.task, .int .i64 x.node]
theorem bindL_cons (x : BV) (r : List BV) : bindL (x :: r) = .int .i64 x.task :: .int .i64 x.node :: bindL r := rfl
theorem bindL_len (l : List BV) : (bindL l).length = l.length * 2 := by
  induction l with
  | nil => rfl
  | cons x r ih => rw [bindL_cons]; simp only [List.length_cons, ih]; omega
theorem bindL_at {l : List BV} {i : Nat} {x : BV} (h : l[i]? = some x) : (bindL l)[i * 2]? = some (.int .i64 x.task) ∧ (bindL l)[i * 2 + 1]? = some (.int .i64 x.node) := by
  induction l generalizing i with
  | nil => simp at h
  | cons y r ih =>
    cases i with
    | zero => simp at h; subst h; exact ⟨rfl, rfl⟩
    | succ i =>
      simp at h
      have := ih h
      rw [bindL_cons, show (i + 1) * 2 = i * 2 + 1 + 1 by omega]
      simpa using this
theorem bindL_one (l : List BV) : ∀ u ∈ bindL l, u.oneCell' = true := by
  intro u hu
  simp [bindL] at hu
  obtain ⟨r, _, h | h⟩ := hu <;> subst h <;> rfl
theorem copy_step {α : Type} {R : World → α → List Value → List Nat → Prop} (hR : Framed R) (hRlt : ∀ (w : World) x cs b, R w x cs b → ∀ c ∈ b, c < w.heap.size) {ty : TypeId} {n G k lim off : Nat} {wr w3 w4 : World} {l : List α} {x : α} {xs cs : List Value} {bi bx : List Nat} {v v' u : Value} {o : Obj}
    (hl : l.length = k) (hown : wr.ownsRow 0 ty n v k xs) (hel : Elems R wr l xs bi) (hnd : (blk v ++ bi).Nodup) (hlo : ∀ b ∈ blk v ++ bi, lim ≤ b) (hlim : lim ≤ wr.heap.size)
    (hb3 : Below wr.heap.size wr w3) (hO3 : R w3 x cs bx) (hnd3 : bx.Nodup) (hlo3 : ∀ b ∈ bx, wr.heap.size ≤ b)
    (hg4 : (w3.alloc o).grownBy w4 v.ownBlock) (hk4 : v'.ownBlock = v.ownBlock ∨ v'.ownBlock = some (w3.alloc o).heap.size) (hown4 : w4.ownsRow 0 ty n v' (k + 1) (xs ++ cs)) (hG : G < lim) :
    ∃ bT, RowO R ty n (w4.setCell ⟨G, off, none⟩ u) v' (l ++ [x]) bT ∧ bT.Nodup ∧ ∀ b ∈ bT, lim ≤ b := by
  have hA : Below w3.heap.size w3 (w3.alloc o) := (Below.refl _ _).alloc (Nat.le_refl _) o
  have hz := hb3.size
  have hza := hA.size
  have hlv := own_lt hown
  have hli := elems_lt (fun x cs b h => hRlt _ x cs b h) hel
  have hlx := hRlt _ _ _ _ hO3
  have hel3 := hel.agree hR (Agree.of_below (below_of hb3 hA) hli)
  have hO3' := hR _ _ _ _ _ hO3 (Agree.of_below hA hlx)
  rw [List.nodup_append] at hnd
  obtain ⟨n1, n2, n3⟩ := hnd
  have hn : (blk v ++ (bi ++ bx)).Nodup := by
    rw [List.nodup_append, List.nodup_append]
    refine ⟨n1, ⟨n2, hnd3, fun a ha b hb e => by have := hli a ha; have := hlo3 b hb; omega⟩, fun a ha b hb e => ?_⟩
    rcases List.mem_append.1 hb with hb | hb
    · exact n3 a ha b hb e
    · have := hlv a ha; have := hlo3 b hb; omega
  obtain ⟨hr4, hnd4⟩ := pushed (ty := ty) (n := n) hR hel3 hO3' hn (by
    intro c hc
    rcases List.mem_append.1 hc with h | h
    · have := hli c h; omega
    · have := hlx c h; omega) (by intro c hc; have := hlv c hc; omega) (by rw [hl]; exact hown4) hg4 hk4
  have hlo4 : ∀ b ∈ blk v' ++ (bi ++ bx), lim ≤ b := by
    intro b hb
    rcases List.mem_append.1 hb with h | h
    · rcases hk4 with e | e
      · exact hlo b (List.mem_append_left _ (by simpa [blk, e] using h))
      · simp [blk, e] at h; simp at hza; omega
    · rcases List.mem_append.1 h with h | h
      · exact hlo b (List.mem_append_right _ h)
      · have := hlo3 b h; omega
  refine ⟨_, hr4.agree hR (fun b hb => Below.heap_setCell _ _ _ b (by have := hlo4 b hb; dsimp only; omega)), hnd4, hlo4⟩
theorem BindSl.news {w : World} {A : Option Addr} {c : Nat} {l : List BV} (h : BindSl w (.slice A l.length c) l) : 0 < l.length → ∃ b off, A = some ⟨b, off, none⟩ ∧ CellsAt w b off (bindL l) := by
  intro hp
  obtain ⟨A', c', e, h'⟩ := h.form
  simp only [Value.slice.injEq] at e
  obtain ⟨rfl, _, _⟩ := e
  obtain ⟨b, off, rfl, _, hat⟩ := h' hp
  refine ⟨b, off, rfl, fun j u hu => ?_⟩
  have hj : j < l.length * 2 := by
    have := (List.getElem?_eq_some_iff.1 hu).1
    rwa [bindL_len] at this
  obtain ⟨r, hr⟩ : ∃ r, l[j / 2]? = some r := ⟨_, List.getElem?_eq_getElem (by omega)⟩
  obtain ⟨cs, hc, a⟩ := hat _ _ hr
  obtain rfl : cs = [.int .i64 r.task, .int .i64 r.node] := hc
  obtain ⟨b1, b2⟩ := bindL_at hr
  obtain ⟨a1, a2⟩ := bind_cells a
  rcases Nat.mod_two_eq_zero_or_one j with e | e
  · have ej : j / 2 * 2 = j := by omega
    rw [ej] at a1 b1
    rw [b1] at hu
    obtain rfl := Option.some.inj hu
    exact a1
  · have ej : j / 2 * 2 + 1 = j := by omega
    rw [Nat.add_assoc, ej] at a2
    rw [ej] at b2
    rw [b2] at hu
    obtain rfl := Option.some.inj hu
    exact a2
theorem bind_elems (w : World) (l : List BV) : Elems BindO w l (bindL l) [] := by
  induction l with
  | nil => exact ⟨rfl, rfl⟩
  | cons x r ih => exact ⟨_, _, [], [], rfl, rfl, ⟨rfl, rfl⟩, ih⟩
/-- A cluster of the call's own; bs are all its blocks, no two of them one. -/
def CluO (w : World) (c : CV) (a0 a1 a2 : Value) (bs : List Nat) : Prop := ∃ b0 b1 b2, RowO TaskO 46 7 w a0 c.tasks b0 ∧ RowO NodeO 60 8 w a1 c.nodes b1 ∧ RowO BindO 70 2 w a2 c.binds b2 ∧ bs = b0 ++ (b1 ++ b2) ∧ bs.Nodup ∧ c.tasks.length ≤ 1048576 ∧ c.nodes.length ≤ 1048576 ∧ c.binds.length ≤ 1048576
theorem CluO.agree {w w' : World} {c : CV} {a0 a1 a2 : Value} {bs : List Nat} (h : CluO w c a0 a1 a2 bs) (ha : Agree bs w w') : CluO w' c a0 a1 a2 bs := by
  obtain ⟨b0, b1, b2, h0, h1, h2, rfl, h3⟩ := h
  exact ⟨b0, b1, b2, h0.agree TaskO.framed ha.left, h1.agree NodeO.framed ha.right.left, h2.agree BindO.framed ha.right.right, rfl, h3⟩
theorem CluO.clu {w : World} {c : CV} {a0 a1 a2 : Value} {bs : List Nat} (h : CluO w c a0 a1 a2 bs) : CluR w c a0 a1 a2 := by
  obtain ⟨b0, b1, b2, h0, h1, h2, _, _, l⟩ := h
  exact ⟨h0.sl (fun _ _ _ h => h.len) (fun _ _ _ h => h.r), h1.sl (fun _ _ _ h => h.len) (fun _ _ _ h => h.r), h2.sl (fun _ _ _ h => h.len) (fun _ _ _ h => h.r), l⟩
theorem rowO_lt {α : Type} {R : World → α → List Value → List Nat → Prop} {ty : TypeId} {n : Nat} {w : World} {v : Value} {l : List α} {bs : List Nat} (hR : ∀ x cs b, R w x cs b → ∀ c ∈ b, c < w.heap.size) (h : RowO R ty n w v l bs) : ∀ b ∈ bs, b < w.heap.size := by
  obtain ⟨xs, b, h1, h2, rfl⟩ := h
  intro c hc
  rcases List.mem_append.1 hc with h | h
  · exact own_lt h1 c h
  · exact elems_lt hR h2 c h
/-- The ending 'a cluster of the call's own'. -/
def RetClu (w : World) (c : CV) (e : Ending) (w' : World) : Prop := ∃ a0 a1 a2 bs, e = .returned (.agg #[a0, a1, a2]) ∧ CluO w' c a0 a1 a2 bs ∧ (∀ b ∈ bs, w.heap.size ≤ b) ∧ Below w.heap.size w w'

set_option maxHeartbeats 6400000 in
set_option maxRecDepth 20000 in
theorem sCopy_any (c : CV) (a0 a1 a2 : Value) (w : World) (hc : CluR w c a0 a1 a2) : Calls Tryz.prog 49 #[.agg #[a0, a1, a2]] w (RetClu w c) := by
  obtain ⟨i0, hi0, hz0, hs0, hy0⟩ := info_parts Tryz.infoTask
  obtain ⟨i1, hi1, hz1, hs1, hy1⟩ := info_parts Tryz.infoNode
  obtain ⟨i2, hi2, hz2, hs2, hy2⟩ := info_parts Tryz.infoBind
  have HC := Lib.hid hc
  obtain ⟨h0, h1, h2, l0, l1, l2⟩ := hc
  obtain ⟨D0, e0, rfl, rT⟩ := h0.form
  obtain ⟨D1, e1, rfl, rN⟩ := h1.form
  obtain ⟨D2, e2, rfl, rB⟩ := h2.form
  have HT := Lib.hid rT
  have HN := Lib.hid rN
  clear h0 h1 h2 rT rN rB
  go_enter Tryz.func49, Tryz.ntmps49
  go_upto_region 1 with fail
  have hX : Below w.heap.size w ((w.alloc (.cells #[.slice D0 c.tasks.length e0, .slice D1 c.nodes.length e1, .slice D2 c.binds.length e2] 39)).alloc (.cells #[.slice none 0 0, .slice none 0 0, .slice none 0 0] 39)) := (by repeat' (first | exact Below.refl _ _ | refine Below.alloc ?_ ?_ _ | refine Below.setCell ?_ ?_ _ | refine Below.drew ?_ | (apply below_step; assumption) | (simp; done) | (simp; omega) | omega))
  have B0 : BlockIs ((w.alloc (.cells #[.slice D0 c.tasks.length e0, .slice D1 c.nodes.length e1, .slice D2 c.binds.length e2] 39)).alloc (.cells #[.slice none 0 0, .slice none 0 0, .slice none 0 0] 39)) w.heap.size 39 #[.slice D0 c.tasks.length e0, .slice D1 c.nodes.length e1, .slice D2 c.binds.length e2] := (BlockIs.new w _ _).alloc _
  have B1 : BlockIs ((w.alloc (.cells #[.slice D0 c.tasks.length e0, .slice D1 c.nodes.length e1, .slice D2 c.binds.length e2] 39)).alloc (.cells #[.slice none 0 0, .slice none 0 0, .slice none 0 0] 39)) (w.heap.size + 1) 39 #[.slice none 0 0, .slice none 0 0, .slice none 0 0] := BlockIs.new' (by simp)
  have hXz : ((w.alloc (.cells #[.slice D0 c.tasks.length e0, .slice D1 c.nodes.length e1, .slice D2 c.binds.length e2] 39)).alloc (.cells #[.slice none 0 0, .slice none 0 0, .slice none 0 0] 39)).heap.size = w.heap.size + 2 := by simp
  generalize ((w.alloc (.cells #[.slice D0 c.tasks.length e0, .slice D1 c.nodes.length e1, .slice D2 c.binds.length e2] 39)).alloc (.cells #[.slice none 0 0, .slice none 0 0, .slice none 0 0] 39)) = X at hX B0 B1 hXz ⊢
  have b2 := B0.cell 2
  simp at b2
  have hl0 : w.heap.size < X.heap.size := by omega
  have hl1 : w.heap.size + 1 < X.heap.size := by omega
  have HX := Lib.hid hX
  have HB0 := Lib.hid B0
  have HB1 := Lib.hid B1
  have hXa : Below X.heap.size X (X.alloc (.cells #[] 70)) := (by repeat' (first | exact Below.refl _ _ | refine Below.alloc ?_ ?_ _ | refine Below.setCell ?_ ?_ _ | refine Below.drew ?_ | (apply below_step; assumption) | (simp; done) | (simp; omega) | omega))
  clear B0 B1 hX hXz
  go_upto_region 2 with (at_builtin; refine wpList_spread _ rfl (.tmp 6) (.tmp 8) 37 rfl 70 i2 _ 2 16 Tryz.underlying37 hi2 hz2 hs2 hy2 rfl (by omega) (.slice (some ⟨X.heap.size, 0, none⟩) 0 0) 0 [] rfl (made_own X _ _) D2 c.binds.length e2 (bindL c.binds) rfl (bindL_len _) (BindSl.news (HC.out.below (below_of HX.out hXa)).2.2.1) (bindL_one _) (by unfold maxLen; omega) (by omega) ?_; intro u1 w1 hown1 hg1 hk1; rw [Nat.zero_add, List.nil_append] at hown1; obtain ⟨E2, d2, rfl, _⟩ := own_form hown1; have hb1 : Below X.heap.size X w1 := hXa.grown hg1 (by simp) (by intro k hk; simp [Value.ownBlock] at hk; omega))
  have hX1 : (X.alloc (.cells #[] 70)).heap.size ≤ w1.heap.size := hg1.size
  have hbl : ∀ b ∈ blk (.slice E2 c.binds.length d2), X.heap.size ≤ b := by
    have h2 : (Value.slice (some ⟨X.heap.size, 0, none⟩) 0 0).ownBlock = some X.heap.size := rfl
    rcases blk_of h2 hk1 with e | e <;> rw [e] <;> simp
  have hnd : (blk (.slice E2 c.binds.length d2)).Nodup := by
    have h2 : (Value.slice (some ⟨X.heap.size, 0, none⟩) 0 0).ownBlock = some X.heap.size := rfl
    rcases blk_of h2 hk1 with e | e <;> rw [e] <;> simp
  have hlt := own_lt hown1
  have hYa : Below w1.heap.size w1 (w1.alloc (.cells #[.slice none 0 0, .slice none 0 0, .slice E2 c.binds.length d2] 39)) := (by repeat' (first | exact Below.refl _ _ | refine Below.alloc ?_ ?_ _ | refine Below.setCell ?_ ?_ _ | refine Below.drew ?_ | (apply below_step; assumption) | (simp; done) | (simp; omega) | omega))
  have BY0 := (HB0.out.below hb1 hl0).below hYa (HB0.out.below hb1 hl0).lt
  have BY1 := (HB1.out.below hb1 hl1).below hYa (HB1.out.below hb1 hl1).lt
  have BYo : BlockIs (w1.alloc (.cells #[.slice none 0 0, .slice none 0 0, .slice E2 c.binds.length d2] 39)) w1.heap.size 39 #[.slice none 0 0, .slice none 0 0, .slice E2 c.binds.length d2] := BlockIs.new _ _ _
  have OB := own_agree hown1 (Agree.of_below hYa hlt)
  have hbY := below_of (below_of HX.out hb1) hYa
  have hYz : w1.heap.size < (w1.alloc (.cells #[.slice none 0 0, .slice none 0 0, .slice E2 c.binds.length d2] 39)).heap.size := by simp
  have hXG : X.heap.size ≤ w1.heap.size := hb1.size
  generalize w1.alloc (.cells #[.slice none 0 0, .slice none 0 0, .slice E2 c.binds.length d2] 39) = Y at BY0 BY1 BYo OB hbY hYz hYa ⊢
  have HBD := Lib.hid (And.intro OB (And.intro hbl (And.intro hnd hlt)))
  clear hown1 hg1 hk1 hb1 hXa hYa HB0 HB1 OB hbl hnd hlt b2 hX1
  generalize w1.heap.size = G at BYo hYz hXG HBD ⊢
  have HB0 := Lib.hid BY0
  have HB1 := Lib.hid BY1
  have HBo := Lib.hid BYo
  have HY := Lib.hid hbY
  have hwY := hbY.size
  clear BY0 BY1 BYo hbY
  go_wp2_with fail
  go_loopw [4] (fun s4 wr => ∃ (k : Nat) (vT : Value) (bT : List Nat), k ≤ c.tasks.length ∧ s4 = .int .i64 k ∧ KeepB G Y wr ∧ BlockIs wr G 39 #[vT, .slice none 0 0, .slice E2 c.binds.length d2] ∧ RowO TaskO 46 7 wr vT (c.tasks.take k) bT ∧ bT.Nodup ∧ ∀ b ∈ bT, Y.heap.size ≤ b) (fun s4 _ => (c.tasks.length - intOf s4).toNat)
  case atStart => exact ⟨0, .slice none 0 0, [], by omega, rfl, KeepB.refl _ _, HBo.out, ⟨[], [], by simpa using World.ownsRow_nil _ _ _ _, ⟨rfl, rfl⟩, by simp [blk, Value.ownBlock]⟩, by simp, by simp⟩
  case round =>
    obtain ⟨k, vT, bT, hk, rfl, hK, hO, hrow, hndT, hloT⟩ := hrel
    have hzr := hK.size
    have BC := HB0.out.keep hK (by omega)
    have g0 := BC.cell 0
    have g1 := BC.cell 1
    have gl := BC.lt
    simp at g0 g1
    have hGl : G < wr.heap.size := by omega
    have hCr := below_of HY.out (show Below Y.heap.size Y Y from Below.refl _ _)
    by_cases hlt : k < c.tasks.length
    · obtain ⟨b, off, rfl, hbw, hat⟩ := HT.out (by omega)
      obtain ⟨t, ht⟩ : ∃ t, c.tasks[k]? = some t := ⟨_, List.getElem?_eq_getElem hlt⟩
      have hwr : Below w.heap.size w wr := HY.out.trans (hK.below (by omega) (by omega))
      obtain ⟨cs, hR, hC⟩ := (hat.below TaskR.kept hwr hbw) k t ht
      have HTK := Lib.hid (take_at ht)
      have HR := Lib.hid hR
      obtain ⟨v1, v2, rfl, sl, si, m1, m2⟩ := hR
      obtain ⟨A1, c1, rfl, _⟩ := sl.form
      obtain ⟨A2, c2, rfl, _⟩ := si.form
      obtain ⟨q0, q1, q2, q3, q4, q5, q6⟩ := task_cells hC
      obtain ⟨xs, bi, hown, hel, rfl⟩ := hrow
      have hlen : (c.tasks.take k).length = k := by rw [List.length_take]; omega
      rw [hlen] at hown
      obtain ⟨F, f, rfl, _⟩ := own_form hown
      have o0 := hO.cell 0
      simp at o0
      have hki : (k : Int) < (c.tasks.length : Int) := by omega
      have hk0 : (0 : Int) ≤ (k : Int) := by omega
      have hbr : b < wr.heap.size := by omega
      have HOW := Lib.hid hown
      have HEL := Lib.hid hel
      have HND := Lib.hid (And.intro hndT hloT)
      have HKP := Lib.hid hK
      have HOO := Lib.hid hO
      have HLN := Lib.hid hlen
      clear hat hC ht sl si m1 m2 hown hel hndT hloT hK hO hlen BC hCr
      go_wp2_with fail
      go_region_law
        (first
          | (go_simp; go_at_call 50; refine (sCopyTask_any t _ _ (TaskR.kept _ _ _ _ (by repeat' (first | exact Below.refl _ _ | refine Below.alloc ?_ ?_ _ | refine Below.setCell ?_ ?_ _ | refine Below.drew ?_ | (apply below_step; assumption) | (simp; done) | (simp; omega) | omega)) HR.out)).mono ?_; rintro e w3 ⟨ds, bx, rfl, hO3, hnd3, hlo3, hb3⟩; have hz3 := hb3.size; (try simp at hz3); have o3 := (hb3.cell (p := ⟨G, 0, none⟩) (by simpa using hGl)).trans o0; have hG3 : G < w3.heap.size := (by omega); have HO3 := Lib.hid (And.intro hO3 (And.intro hnd3 hlo3)); obtain ⟨y1, y2, hdse, hy1, hy2, _, _, _⟩ := hO3; obtain ⟨F1, f1, rfl, _⟩ := own_form hy1; obtain ⟨F2, f2, rfl, _⟩ := own_form hy2; subst hdse; clear hnd3 hlo3 hy1 hy2)
          | (refine step_spread_if _ (by rfl) (.tmp 19) (.tmp 26) 35 (by rfl) 46 i0 _ 7 88 Tryz.underlying35 hi0 hz0 hs0 hy0 (by rfl) (by omega) (.slice F k f) k xs (by rfl) (own_agree HOW.out (Agree.of_below (B := wr.heap.size) (by repeat' (first | exact Below.refl _ _ | refine Below.alloc ?_ ?_ _ | refine Below.setCell ?_ ?_ _ | refine Below.drew ?_ | (apply below_step; assumption) | (simp; done) | (simp; omega) | omega)) (own_lt HOW.out))) (some ⟨w3.heap.size, 0, none⟩) 1 1 [.int .i64 t.id, .int .i64 t.prio, .int .i64 t.need.c, .int .i64 t.need.m, .int .i64 t.need.p, .slice F1 t.want.length f1, .slice F2 t.tols.length f2] (by rfl) (by rfl) (fun _ => ⟨_, 0, rfl, CellsAt.of_block (BlockIs.new w3 _ #[.int .i64 t.id, .int .i64 t.prio, .int .i64 t.need.c, .int .i64 t.need.m, .int .i64 t.need.p, .slice F1 t.want.length f1, .slice F2 t.tols.length f2]) (fun j u hu => by rw [Nat.zero_add]; simpa using hu)⟩) (by intro u hu; simp at hu; rcases hu with rfl | rfl | rfl | rfl | rfl | rfl | rfl <;> rfl) (by unfold maxLen; omega) (by omega) ?_; intro v' w4 hown4 hg4 hk4; obtain ⟨F4, f4, rfl, _⟩ := own_form hown4; have hrow : ∀ q, (Value.slice F k f).ownBlock = some q → Y.heap.size ≤ q := (fun q hq => HND.out.2 q (List.mem_append_left _ (by simp [blk, hq]))); have BO4 : BlockIs w4 G 39 #[.slice F k f, .slice none 0 0, .slice E2 c.binds.length d2] := (hg4.block G (by simp; omega) (fun e => by have := hrow G e.symm; omega)).trans ((HOO.out.below (B := wr.heap.size) (w' := w3) (by repeat' (first | exact Below.refl _ _ | refine Below.alloc ?_ ?_ _ | refine Below.setCell ?_ ?_ _ | refine Below.drew ?_ | (apply below_step; assumption) | (simp; done) | (simp; omega) | omega)) hGl).alloc _); have o4 := BO4.cell 0; have of4 := BO4.frozen; simp at o4; have HG4 := Lib.hid (And.intro hg4 (And.intro hk4 (And.intro hown4 (And.intro BO4 hrow)))); clear hg4 hk4 hown4 BO4 hrow))
      all_goals
        go_wp2_with fail
        go_roundw
        case rel =>
          obtain ⟨hO3, hnd3, hlo3⟩ := HO3.out
          obtain ⟨hg4, hk4, hown4, BO4, hrow⟩ := HG4.out
          have hbw : Below wr.heap.size wr w3 := (by repeat' (first | exact Below.refl _ _ | refine Below.alloc ?_ ?_ _ | refine Below.setCell ?_ ?_ _ | refine Below.drew ?_ | (apply below_step; assumption) | (simp; done) | (simp; omega) | omega))
          obtain ⟨bT', r1, r2, r3⟩ := copy_step (G := G) (off := 0) (lim := Y.heap.size) (u := .slice F4 (k + 1) f4) TaskO.framed (fun _ _ _ _ h => h.lt) HLN.out HOW.out HEL.out HND.out.1 HND.out.2 hzr hbw hO3 hnd3 (by simpa using hlo3) hg4 hk4 hown4 (by omega)
          refine ⟨k + 1, .slice F4 (k + 1) f4, bT', by omega, by go_num, ?_, by simpa using BO4.put 0 (.slice F4 (k + 1) f4), by rw [HTK.out]; exact r1, r2, r3⟩
          exact (((HKP.out.step hbw).step ((Below.refl _ _).alloc (Nat.le_refl _) _)).grown hg4 hrow).put 0 _
        case measure => simp [intOf]; omega
    · have hkl : k = c.tasks.length := by omega
      rw [hkl, List.take_length] at hrow
      obtain ⟨vT', hvT⟩ : ∃ x, x = vT := ⟨_, rfl⟩
      have hlT := rowO_lt (fun _ _ _ h => h.lt) hrow
      have hformT : ∃ F f, vT = .slice F c.tasks.length f := by
        obtain ⟨xs, b, h1, _⟩ := hrow
        obtain ⟨F, f, e, _⟩ := own_form h1
        exact ⟨F, f, e⟩
      have hbY2 : Below w.heap.size w wr := HY.out.trans (hK.below (by omega) (by omega))
      have HROW := Lib.hid (And.intro hrow (And.intro hndT (And.intro hloT hlT)))
      have HKP := Lib.hid hK
      have HB02 := Lib.hid BC
      have HB12 := Lib.hid (HB1.out.keep hK (by omega))
      have HBo2 := Lib.hid hO
      have HY2 := Lib.hid hbY2
      have HBD2 := Lib.hid (And.intro (own_agree HBD.out.1 (fun b hb => hK.block b (by have := HBD.out.2.2.2 b hb; omega) (by have := HBD.out.2.2.2 b hb; omega))) HBD.out.2)
      clear hkl hvT hrow hndT hloT hlT hK BC hO hbY2
      go_wp2_with fail
      clear hlt g0 g1 gl
      generalize hYw : wr = Y2 at HROW HKP HB02 HB12 HBo2 HY2 HBD2 hzr hGl ⊢
      clear hYw
      go_loopw [5] (fun s5 wr => ∃ (k : Nat) (vN : Value) (bN : List Nat), k ≤ c.nodes.length ∧ s5 = .int .i64 k ∧ KeepB G Y2 wr ∧ BlockIs wr G 39 #[vT, vN, .slice E2 c.binds.length d2] ∧ RowO NodeO 60 8 wr vN (c.nodes.take k) bN ∧ bN.Nodup ∧ ∀ b ∈ bN, Y2.heap.size ≤ b) (fun s5 _ => (c.nodes.length - intOf s5).toNat)
      case atStart => exact ⟨0, .slice none 0 0, [], by omega, rfl, KeepB.refl _ _, HBo2.out, ⟨[], [], by simpa using World.ownsRow_nil _ _ _ _, ⟨rfl, rfl⟩, by simp [blk, Value.ownBlock]⟩, by simp, by simp⟩
      case round =>
        clear hk
        obtain ⟨k, vN, bN, hk, rfl, hK, hO, hrow, hndT, hloT⟩ := hrel
        have hzr := hK.size
        have BC := HB02.out.keep hK (by omega)
        have g0 := BC.cell 0
        have g1 := BC.cell 1
        have gl := BC.lt
        simp at g0 g1
        have hGl : G < wr.heap.size := by omega
        by_cases hlt : k < c.nodes.length
        · obtain ⟨b, off, rfl, hbw, hat⟩ := HN.out (by omega)
          obtain ⟨t, ht⟩ : ∃ t, c.nodes[k]? = some t := ⟨_, List.getElem?_eq_getElem hlt⟩
          have hwr : Below w.heap.size w wr := HY2.out.trans (hK.below (by omega) (by omega))
          obtain ⟨cs, hR, hC⟩ := (hat.below NodeR.kept hwr hbw) k t ht
          have HTK := Lib.hid (take_at ht)
          have HR := Lib.hid hR
          obtain ⟨v1, v2, rfl, sl, si, m1, m2⟩ := hR
          obtain ⟨A1, c1, rfl, _⟩ := sl.form
          obtain ⟨A2, c2, rfl, _⟩ := si.form
          obtain ⟨q0, q1, q2, q3, q4, q5, q6, q7⟩ := node_cells hC
          obtain ⟨xs, bi, hown, hel, rfl⟩ := hrow
          have hlen : (c.nodes.take k).length = k := by rw [List.length_take]; omega
          rw [hlen] at hown
          obtain ⟨F, f, rfl, _⟩ := own_form hown
          have o0 := hO.cell 1
          simp at o0
          have hki : (k : Int) < (c.nodes.length : Int) := by omega
          have hk0 : (0 : Int) ≤ (k : Int) := by omega
          have hbr : b < wr.heap.size := by omega
          have HOW := Lib.hid hown
          have HEL := Lib.hid hel
          have HND := Lib.hid (And.intro hndT hloT)
          have HKP := Lib.hid hK
          have HOO := Lib.hid hO
          have HLN := Lib.hid hlen
          clear hat hC ht sl si m1 m2 hown hel hndT hloT hK hO hlen BC hCr
          go_wp2_with fail
          go_region_law
            (first
              | (go_simp; go_at_call 77; refine (sCopyNode_any t _ _ (NodeR.kept _ _ _ _ (by repeat' (first | exact Below.refl _ _ | refine Below.alloc ?_ ?_ _ | refine Below.setCell ?_ ?_ _ | refine Below.drew ?_ | (apply below_step; assumption) | (simp; done) | (simp; omega) | omega)) HR.out)).mono ?_; rintro e w3 ⟨ds, bx, rfl, hO3, hnd3, hlo3, hb3⟩; have hz3 := hb3.size; (try simp at hz3); have o3 := (hb3.cell (p := ⟨G, 1, none⟩) (by simpa using hGl)).trans o0; have hG3 : G < w3.heap.size := (by omega); have HO3 := Lib.hid (And.intro hO3 (And.intro hnd3 hlo3)); obtain ⟨y1, y2, hdse, hy1, hy2, _, _, _⟩ := hO3; obtain ⟨F1, f1, rfl, _⟩ := own_form hy1; obtain ⟨F2, f2, rfl, _⟩ := own_form hy2; subst hdse; clear hnd3 hlo3 hy1 hy2)
              | (refine step_spread_if _ (by rfl) (.tmp 37) (.tmp 44) 36 (by rfl) 60 i1 _ 8 96 Tryz.underlying36 hi1 hz1 hs1 hy1 (by rfl) (by omega) (.slice F k f) k xs (by rfl) (own_agree HOW.out (Agree.of_below (B := wr.heap.size) (by repeat' (first | exact Below.refl _ _ | refine Below.alloc ?_ ?_ _ | refine Below.setCell ?_ ?_ _ | refine Below.drew ?_ | (apply below_step; assumption) | (simp; done) | (simp; omega) | omega)) (own_lt HOW.out))) (some ⟨w3.heap.size, 0, none⟩) 1 1 [.int .i64 t.id, .int .i64 t.pool, .int .i64 t.cap.c, .int .i64 t.cap.m, .int .i64 t.cap.p, .slice F1 t.labs.length f1, .slice F2 t.taints.length f2, .bool t.cordon] (by rfl) (by rfl) (fun _ => ⟨_, 0, rfl, CellsAt.of_block (BlockIs.new w3 _ #[.int .i64 t.id, .int .i64 t.pool, .int .i64 t.cap.c, .int .i64 t.cap.m, .int .i64 t.cap.p, .slice F1 t.labs.length f1, .slice F2 t.taints.length f2, .bool t.cordon]) (fun j u hu => by rw [Nat.zero_add]; simpa using hu)⟩) (by intro u hu; simp at hu; rcases hu with rfl | rfl | rfl | rfl | rfl | rfl | rfl | rfl <;> rfl) (by unfold maxLen; omega) (by omega) ?_; intro v' w4 hown4 hg4 hk4; obtain ⟨F4, f4, rfl, _⟩ := own_form hown4; have hrow : ∀ q, (Value.slice F k f).ownBlock = some q → Y2.heap.size ≤ q := (fun q hq => HND.out.2 q (List.mem_append_left _ (by simp [blk, hq]))); have BO4 : BlockIs w4 G 39 #[vT, .slice F k f, .slice E2 c.binds.length d2] := (hg4.block G (by simp; omega) (fun e => by have := hrow G e.symm; omega)).trans ((HOO.out.below (B := wr.heap.size) (w' := w3) (by repeat' (first | exact Below.refl _ _ | refine Below.alloc ?_ ?_ _ | refine Below.setCell ?_ ?_ _ | refine Below.drew ?_ | (apply below_step; assumption) | (simp; done) | (simp; omega) | omega)) hGl).alloc _); have o4 := BO4.cell 1; have of4 := BO4.frozen; simp at o4; have HG4 := Lib.hid (And.intro hg4 (And.intro hk4 (And.intro hown4 (And.intro BO4 hrow)))); clear hg4 hk4 hown4 BO4 hrow))
          all_goals
            go_wp2_with fail
            go_roundw
            case rel =>
              obtain ⟨hO3, hnd3, hlo3⟩ := HO3.out
              obtain ⟨hg4, hk4, hown4, BO4, hrow⟩ := HG4.out
              have hbw : Below wr.heap.size wr w3 := (by repeat' (first | exact Below.refl _ _ | refine Below.alloc ?_ ?_ _ | refine Below.setCell ?_ ?_ _ | refine Below.drew ?_ | (apply below_step; assumption) | (simp; done) | (simp; omega) | omega))
              obtain ⟨bT', r1, r2, r3⟩ := copy_step (G := G) (off := 1) (lim := Y2.heap.size) (u := .slice F4 (k + 1) f4) NodeO.framed (fun _ _ _ _ h => h.lt) HLN.out HOW.out HEL.out HND.out.1 HND.out.2 hzr hbw hO3 hnd3 (by simpa using hlo3) hg4 hk4 hown4 (by omega)
              refine ⟨k + 1, .slice F4 (k + 1) f4, bT', by omega, by go_num, ?_, by simpa using BO4.put 1 (.slice F4 (k + 1) f4), by rw [HTK.out]; exact r1, r2, r3⟩
              exact (((HKP.out.step hbw).step ((Below.refl _ _).alloc (Nat.le_refl _) _)).grown hg4 hrow).put 1 _
            case measure => simp [intOf]; omega
        · have hkl : k = c.nodes.length := by omega
          rw [hkl, List.take_length] at hrow
          obtain ⟨xs, bi, hown, hel, rfl⟩ := hrow
          obtain ⟨FN, fN, rfl, _⟩ := own_form hown
          obtain ⟨FT, fT, rfl⟩ := hformT
          have BR := HB12.out.keep hK (by omega)
          have o0 := hO.cell 0
          have o1 := hO.cell 1
          have o2 := hO.cell 2
          have r0 := BR.cell 0
          have r1 := BR.cell 1
          have r2 := BR.cell 2
          have rf := BR.frozen
          have rl := BR.lt
          simp at o0 o1 o2 r0 r1 r2
          have HF := Lib.hid (show RowO NodeO 60 8 wr (.slice FN c.nodes.length fN) c.nodes (blk (.slice FN c.nodes.length fN) ++ bi) from ⟨xs, bi, hown, hel, rfl⟩)
          have HG := Lib.hid (And.intro hndT (And.intro hloT (And.intro hK BR)))
          clear hkl hown hel hndT hloT hK hO BR BC
          go_wp2_with fail
          obtain ⟨hndN, hloN, hK, BR⟩ := HG.out
          obtain ⟨hrT, hndT, hloT, hltT⟩ := HROW.out
          obtain ⟨oB, hloB, hndB, hltB⟩ := HBD2.out
          have hrN := HF.out
          have hltN := rowO_lt (fun _ _ _ h => h.lt) hrN
          have tT := hrT.agree TaskO.framed (fun b hb => hK.block b (hltT b hb) (by have := hloT b hb; omega))
          have tB := own_agree oB (fun b hb => hK.block b (by have := hltB b hb; omega) (by have := hltB b hb; omega))
          have hCO : CluO wr c (.slice FT c.tasks.length fT) (.slice FN c.nodes.length fN) (.slice E2 c.binds.length d2) (bT ++ ((blk (.slice FN c.nodes.length fN) ++ bi) ++ blk (.slice E2 c.binds.length d2))) := by
            refine ⟨_, _, _, tT, hrN, ⟨bindL c.binds, [], tB, bind_elems _ _, by simp⟩, rfl, ?_, l0, l1, l2⟩
            rw [List.nodup_append]
            refine ⟨hndT, ?_, fun a ha b hb e => ?_⟩
            · rw [List.nodup_append]
              exact ⟨hndN, hndB, fun a ha b hb e => by have := hloN a ha; have := hltB b hb; omega⟩
            · have h1 := hltT a ha
              have h2 := hloT a ha
              rcases List.mem_append.1 hb with hb | hb
              · have := hloN b hb; omega
              · have := hltB b hb; omega
          have hloC : ∀ b ∈ bT ++ ((blk (.slice FN c.nodes.length fN) ++ bi) ++ blk (.slice E2 c.binds.length d2)), X.heap.size ≤ b := by
            intro b hb
            rcases List.mem_append.1 hb with hb | hb
            · have := hloT b hb; omega
            · rcases List.mem_append.1 hb with hb | hb
              · have := hloN b hb; omega
              · exact hloB b hb
          have hV : BlockIs (((wr.setCell ⟨w.heap.size + 1, 0, none⟩ (.slice FT c.tasks.length fT)).setCell ⟨w.heap.size + 1, 1, none⟩ (.slice FN c.nodes.length fN)).setCell ⟨w.heap.size + 1, 2, none⟩ (.slice E2 c.binds.length d2)) (w.heap.size + 1) 39 #[.slice FT c.tasks.length fT, .slice FN c.nodes.length fN, .slice E2 c.binds.length d2] := by
            have := ((BR.put 0 (.slice FT c.tasks.length fT)).put 1 (.slice FN c.nodes.length fN)).put 2 (.slice E2 c.binds.length d2)
            simpa using this
          have hA := hCO.agree (w' := (((wr.setCell ⟨w.heap.size + 1, 0, none⟩ (.slice FT c.tasks.length fT)).setCell ⟨w.heap.size + 1, 1, none⟩ (.slice FN c.nodes.length fN)).setCell ⟨w.heap.size + 1, 2, none⟩ (.slice E2 c.binds.length d2))) (fun b hb => putAll_block (o := 0) (ds := [.slice FT c.tasks.length fT, .slice FN c.nodes.length fN, .slice E2 c.binds.length d2]) (by have := hloC b hb; omega))
          have hB : Below w.heap.size w (((wr.setCell ⟨w.heap.size + 1, 0, none⟩ (.slice FT c.tasks.length fT)).setCell ⟨w.heap.size + 1, 1, none⟩ (.slice FN c.nodes.length fN)).setCell ⟨w.heap.size + 1, 2, none⟩ (.slice E2 c.binds.length d2)) := (((HY2.out.trans (hK.below (by have := HY2.out.size; omega) (by omega))).setCell (by dsimp only; omega) _).setCell (by dsimp only; omega) _).setCell (by dsimp only; omega) _
          generalize (((wr.setCell ⟨w.heap.size + 1, 0, none⟩ (.slice FT c.tasks.length fT)).setCell ⟨w.heap.size + 1, 1, none⟩ (.slice FN c.nodes.length fN)).setCell ⟨w.heap.size + 1, 2, none⟩ (.slice E2 c.binds.length d2)) = V at hV hA hB ⊢
          have x0 := hV.cell 0
          have x1 := hV.cell 1
          have x2 := hV.cell 2
          simp at x0 x1 x2
          exact bodyPost_ret (v := .agg #[.slice FT c.tasks.length fT, .slice FN c.nodes.length fN, .slice E2 c.binds.length d2]) (by simp [results, Tryz.results49, go_sem, x0, x1, x2]) rfl ⟨_, _, _, _, rfl, hA, fun b hb => by have := hloC b hb; omega, hB⟩
end Go.Proofs.YtocfgejceoenmaaGreatDoor

namespace Go.Proofs.YtocfgejceoenmaaGreatDoor
open Go.RowKit

theorem boxes2 (w : World) (t0 t1 : TypeId) (c0 c1 : Array Value) {w2 : World} (hb : Below ((w.alloc (.cells c0 t0)).alloc (.cells c1 t1)).heap.size ((w.alloc (.cells c0 t0)).alloc (.cells c1 t1)) w2) :
    BlockIs w2 w.heap.size t0 c0 ∧ BlockIs w2 (w.heap.size + 1) t1 c1 :=
  ⟨((BlockIs.new w t0 c0).alloc _).below hb (by simp; omega), (BlockIs.new' (by simp)).below hb (by simp)⟩
theorem boxes3 (w : World) (t0 t1 t2 : TypeId) (c0 c1 c2 : Array Value) {w2 : World} (hb : Below (((w.alloc (.cells c0 t0)).alloc (.cells c1 t1)).alloc (.cells c2 t2)).heap.size (((w.alloc (.cells c0 t0)).alloc (.cells c1 t1)).alloc (.cells c2 t2)) w2) :
    BlockIs w2 w.heap.size t0 c0 ∧ BlockIs w2 (w.heap.size + 1) t1 c1 ∧ BlockIs w2 (w.heap.size + 1 + 1) t2 c2 :=
  ⟨(((BlockIs.new w t0 c0).alloc _).alloc _).below hb (by simp; omega), (BlockIs.alloc (BlockIs.new' (by simp)) _).below hb (by simp), (BlockIs.new' (by simp)).below hb (by simp)⟩
end Go.Proofs.YtocfgejceoenmaaGreatDoor

namespace Go.Proofs.YtocfgejceoenmaaGreatDoor
open Go.RowKit

/-- Of what was there in w only the blocks bs may have turned. -/
structure TurnB (bs : List Nat) (w w' : World) : Prop where
  os : w'.os = w.os
  tape : w'.tape = w.tape
  output : w'.output = w.output
  size : w.heap.size ≤ w'.heap.size
  block : ∀ k, k < w.heap.size → k ∉ bs → w'.heap[k]? = w.heap[k]?
section
variable {bs cs : List Nat} {w w' w'' : World}
theorem TurnB.refl (bs : List Nat) (w : World) : TurnB bs w w := ⟨rfl, rfl, rfl, Nat.le_refl _, fun _ _ _ => rfl⟩
theorem TurnB.trans (h : TurnB bs w w') (k : TurnB bs w' w'') : TurnB bs w w'' :=
  ⟨k.os.trans h.os, k.tape.trans h.tape, k.output.trans h.output, Nat.le_trans h.size k.size, fun b hb hne => (k.block b (Nat.lt_of_lt_of_le hb h.size) hne).trans (h.block b hb hne)⟩
theorem TurnB.mono (h : TurnB bs w w') (hs : ∀ b ∈ bs, b ∈ cs) : TurnB cs w w' := ⟨h.os, h.tape, h.output, h.size, fun b hb hn => h.block b hb (fun e => hn (hs b e))⟩
theorem TurnB.of_below (hb : Below w.heap.size w w') : TurnB bs w w' := ⟨hb.os, hb.tape, hb.output, hb.size, fun k hk _ => hb.block k hk⟩
theorem TurnB.step (h : TurnB bs w w') (hb : Below w'.heap.size w' w'') : TurnB bs w w'' := h.trans (.of_below hb)
theorem TurnB.of_grown {row : Option Nat} (hg : w.grownBy w' row) (hr : ∀ k, row = some k → k ∈ bs) : TurnB bs w w' := ⟨hg.os, hg.tape, hg.output, hg.size, fun k hk hne => hg.block k hk (fun e => hne (hr k e.symm))⟩
theorem TurnB.put {g : Nat} (h : TurnB bs w w') (hg : g ∈ bs) (o : Nat) (u : Value) : TurnB bs w (w'.setCell ⟨g, o, none⟩ u) :=
  h.trans ⟨rfl, rfl, rfl, by simp [World.setCell], fun k _ hne => Below.heap_setCell _ _ _ k (fun e => hne (by rw [e]; exact hg))⟩
theorem TurnB.putAll {g : Nat} (h : TurnB bs w w') (hg : g ∈ bs) (o : Nat) (ds : List Value) : TurnB bs w (Go.Proofs.YtocfgejceoenmaaGreatDoor.putAll w' g o ds) := by
  induction ds generalizing w' o with
  | nil => exact h
  | cons u r ih => exact ih (h.put hg o u) _
theorem TurnB.agree (h : TurnB bs w w') {ds : List Nat} (hd : ∀ b ∈ ds, b < w.heap.size ∧ b ∉ bs) : Agree ds w w' := fun b hb => h.block b (hd b hb).1 (hd b hb).2
theorem TurnB.below {B : Nat} (h : TurnB bs w w') (hB : B ≤ w.heap.size) (hg : ∀ b ∈ bs, B ≤ b) : Below B w w' :=
  ⟨h.os, h.tape, h.output, h.size, fun k hk => h.block k (by omega) (fun e => by have := hg k e; omega)⟩
/-- New blocks need not be listed. -/
theorem TurnB.old (h : TurnB (bs ++ cs) w w') (hc : ∀ b ∈ cs, w.heap.size ≤ b) : TurnB bs w w' :=
  ⟨h.os, h.tape, h.output, h.size, fun k hk hne => h.block k hk (fun e => by
    rcases List.mem_append.1 e with e | e
    · exact hne e
    · have := hc k e; omega)⟩
theorem BlockIs.turn {g : Nat} {t : TypeId} {c : Array Value} (h : BlockIs w g t c) (k : TurnB bs w w') (hn : g ∉ bs) : BlockIs w' g t c := (k.block g h.lt hn).trans h
end

section
variable {α : Type} {R S : World → α → List Value → List Nat → Prop} {w w' : World} {a b l : List α} {xs xa xb : List Value} {bs ba bb : List Nat}
theorem Elems.split (h : Elems R w (a ++ b) xs bs) : ∃ xa xb ba bb, xs = xa ++ xb ∧ bs = ba ++ bb ∧ Elems R w a xa ba ∧ Elems R w b xb bb := by
  induction a generalizing xs bs with
  | nil => exact ⟨[], xs, [], bs, rfl, rfl, ⟨rfl, rfl⟩, h⟩
  | cons x r ih =>
    obtain ⟨cs, ys, b1, b2, rfl, rfl, h1, h2⟩ := h
    obtain ⟨xa, xb, ba, bb, rfl, rfl, h3, h4⟩ := ih h2
    exact ⟨cs ++ xa, xb, b1 ++ ba, bb, by simp, by simp, ⟨cs, xa, b1, ba, rfl, rfl, h1, h3⟩, h4⟩
theorem Elems.join (ha : Elems R w a xa ba) (hb : Elems R w b xb bb) : Elems R w (a ++ b) (xa ++ xb) (ba ++ bb) := by
  induction a generalizing xa ba with
  | nil => obtain ⟨rfl, rfl⟩ := ha; exact hb
  | cons x r ih =>
    obtain ⟨cs, ys, b1, b2, rfl, rfl, h1, h2⟩ := ha
    exact ⟨cs, ys ++ xb, b1, b2 ++ bb, by simp, by simp, h1, ih h2⟩
theorem Elems.len {n : Nat} (hn : ∀ x cs b, R w x cs b → cs.length = n) (h : Elems R w l xs bs) : xs.length = l.length * n := by
  induction l generalizing xs bs with
  | nil => obtain ⟨rfl, rfl⟩ := h; simp
  | cons x r ih =>
    obtain ⟨cs, ys, b1, b2, rfl, rfl, h1, h2⟩ := h
    rw [List.length_append, ih h2, hn _ _ _ h1, List.length_cons, Nat.add_mul]; omega
theorem Elems.imp (hRS : ∀ x cs b, R w x cs b → S w' x cs b) (h : Elems R w l xs bs) : Elems S w' l xs bs := by
  induction l generalizing xs bs with
  | nil => exact h
  | cons x r ih =>
    obtain ⟨cs, ys, b1, b2, rfl, rfl, h1, h2⟩ := h
    exact ⟨cs, ys, b1, b2, rfl, rfl, hRS _ _ _ h1, ih h2⟩
end
theorem setAll_list {cs : Array Value} {o : Nat} {ds : List Value} (h : o + ds.length ≤ cs.size) : (setAll cs o ds).toList = cs.toList.take o ++ (ds ++ cs.toList.drop (o + ds.length)) := by
  apply List.ext_getElem?
  intro i
  rw [Array.getElem?_toList]
  have hs : (cs.toList.take o).length = o := by simp; omega
  rcases Nat.lt_or_ge i o with h1 | h1
  · rw [setAll_far (.inl h1), List.getElem?_append_left (by omega), List.getElem?_take_of_lt h1, Array.getElem?_toList]
  · rw [List.getElem?_append_right (by omega), hs]
    rcases Nat.lt_or_ge i (o + ds.length) with h2 | h2
    · rw [List.getElem?_append_left (by omega)]
      obtain ⟨u, hu⟩ : ∃ u, ds[i - o]? = some u := ⟨_, List.getElem?_eq_getElem (by omega)⟩
      have := setAll_at (cs := cs) (o := o) hu h
      rw [show o + (i - o) = i by omega] at this
      rw [this, hu]
    · rw [setAll_far (.inr h2), List.getElem?_append_right (by omega), List.getElem?_drop, Array.getElem?_toList]
      congr 1; omega
/-- In a row of the call's own some cells are set anew. -/
theorem own_put {w : World} {e : TypeId} {size n g : Nat} {v : Value} {xa cs xb ds : List Value} (h : w.ownsRow 0 e size v n (xa ++ (cs ++ xb))) (hd : ds.length = cs.length) (hg : v.ownBlock = some g) :
    (putAll w g xa.length ds).ownsRow 0 e size v n (xa ++ (ds ++ xb)) := by
  obtain ⟨h1, h2⟩ := h
  refine ⟨by simpa [hd] using h1, ?_⟩
  rcases h2 with ⟨rfl, _⟩ | ⟨g', cap, cur, rfl, hb, hh, hnc, hcm, hs, ht⟩
  · cases hg
  · obtain rfl : g' = g := by simpa [Value.ownBlock] using hg
    have hlen : (xa ++ (cs ++ xb)).length ≤ cur.toList.length := by rw [← ht, List.length_take]; omega
    have hcur : cur.toList = (xa ++ (cs ++ xb)) ++ cur.toList.drop (n * size) := by rw [← ht, List.take_append_drop]
    simp only [List.length_append, Array.length_toList] at hlen
    refine .inr ⟨g', cap, setAll cur xa.length ds, rfl, hb, BlockIs.putAll hh, hnc, hcm, by rw [setAll_size, hs], ?_⟩
    have e1 : cur.toList.take xa.length = xa := by rw [hcur, List.append_assoc, List.take_left']; rfl
    have e2 : cur.toList.drop (xa.length + ds.length) = xb ++ cur.toList.drop (n * size) := by
      rw [hcur, hd]
      have : (xa ++ (cs ++ xb) ++ cur.toList.drop (n * size)) = (xa ++ cs) ++ (xb ++ cur.toList.drop (n * size)) := by simp
      rw [this, ← List.length_append, List.drop_left']
      · congr 1; rw [← this, ← hcur]
      · rfl
    rw [setAll_list (by omega), e1, e2]
    have e3 : xa ++ (ds ++ (xb ++ cur.toList.drop (n * size))) = (xa ++ (ds ++ xb)) ++ cur.toList.drop (n * size) := by simp
    rw [e3, List.take_left']
    simp only [List.length_append] at h1 ⊢
    omega
theorem own_cells {w : World} {e : TypeId} {size n : Nat} {v : Value} {xs : List Value} (h : w.ownsRow 0 e size v n xs) (hn : 0 < n) : ∃ g cap, v = .slice (some ⟨g, 0, none⟩) n cap ∧ g < w.heap.size ∧ (∀ j u, xs[j]? = some u → w.cell? ⟨g, j, none⟩ = some u) ∧ ∀ o, w.frozen? ⟨g, o, none⟩ = false := by
  obtain ⟨h1, h2⟩ := h
  rcases h2 with ⟨_, rfl⟩ | ⟨g, cap, cur, rfl, hb, hh, hnc, hcm, hs, ht⟩
  · omega
  · refine ⟨g, cap, rfl, (Array.getElem?_eq_some_iff.1 hh).1, fun j u hu => ?_, fun o => BlockIs.frozen hh o⟩
    rw [BlockIs.cell hh]
    rw [← ht] at hu
    have hj : j < n * size := by
      have := (List.getElem?_eq_some_iff.1 hu).1
      rw [List.length_take] at this; omega
    rw [List.getElem?_take_of_lt hj] at hu
    simpa using hu
end Go.Proofs.YtocfgejceoenmaaGreatDoor

namespace Go.Proofs.YtocfgejceoenmaaGreatDoor

def mLabs : Int → Nat → List LV
  | _, 0 => []
  | k, n + 1 => ⟨k, k + 1⟩ :: mLabs (k + 2) n
def mInts : Int → Nat → List Int
  | _, 0 => []
  | k, n + 1 => k :: mInts (k + 1) n
def mBinds : Int → Nat → List BV
  | _, 0 => []
  | k, n + 1 => ⟨k, k + 1⟩ :: mBinds (k + 2) n
theorem mLabs_len (k : Int) (n : Nat) : (mLabs k n).length = n := by
  induction n generalizing k with
  | zero => rfl
  | succ n ih => simp [mLabs, ih]
theorem mInts_len (k : Int) (n : Nat) : (mInts k n).length = n := by
  induction n generalizing k with
  | zero => rfl
  | succ n ih => simp [mInts, ih]
theorem mBinds_len (k : Int) (n : Nat) : (mBinds k n).length = n := by
  induction n generalizing k with
  | zero => rfl
  | succ n ih => simp [mBinds, ih]
theorem mLabs_snoc (k : Int) (n : Nat) : mLabs k (n + 1) = mLabs k n ++ [⟨k + 2 * n, k + 2 * n + 1⟩] := by
  induction n generalizing k with
  | zero => simp [mLabs]
  | succ n ih =>
    rw [mLabs, ih (k + 2)]
    simp only [mLabs, List.cons_append, Int.natCast_add, Int.natCast_one]
    rw [show k + 2 + 2 * (n : Int) = k + 2 * ((n : Int) + 1) by omega]
theorem mInts_snoc (k : Int) (n : Nat) : mInts k (n + 1) = mInts k n ++ [k + n] := by
  induction n generalizing k with
  | zero => simp [mInts]
  | succ n ih =>
    rw [mInts, ih (k + 1)]
    simp only [mInts, List.cons_append, Int.natCast_add, Int.natCast_one]
    rw [show k + 1 + (n : Int) = k + ((n : Int) + 1) by omega]
theorem mBinds_snoc (k : Int) (n : Nat) : mBinds k (n + 1) = mBinds k n ++ [⟨k + 2 * n, k + 2 * n + 1⟩] := by
  induction n generalizing k with
  | zero => simp [mBinds]
  | succ n ih =>
    rw [mBinds, ih (k + 2)]
    simp only [mBinds, List.cons_append, Int.natCast_add, Int.natCast_one]
    rw [show k + 2 + 2 * (n : Int) = k + 2 * ((n : Int) + 1) by omega]
theorem mLabs_at (k : Int) {n i : Nat} (h : i < n) : (mLabs k n)[i]? = some ⟨k + 2 * i, k + 2 * i + 1⟩ := by
  induction n generalizing k i with
  | zero => omega
  | succ n ih =>
    cases i with
    | zero => simp [mLabs]
    | succ i =>
      rw [mLabs, List.getElem?_cons_succ, ih (k + 2) (by omega)]
      congr 2 <;> omega
theorem mInts_at (k : Int) {n i : Nat} (h : i < n) : (mInts k n)[i]? = some (k + i) := by
  induction n generalizing k i with
  | zero => omega
  | succ n ih =>
    cases i with
    | zero => simp [mInts]
    | succ i =>
      rw [mInts, List.getElem?_cons_succ, ih (k + 1) (by omega)]
      congr 1; omega
theorem mBinds_at (k : Int) {n i : Nat} (h : i < n) : (mBinds k n)[i]? = some ⟨k + 2 * i, k + 2 * i + 1⟩ := by
  induction n generalizing k i with
  | zero => omega
  | succ n ih =>
    cases i with
    | zero => simp [mBinds]
    | succ i =>
      rw [mBinds, List.getElem?_cons_succ, ih (k + 2) (by omega)]
      congr 2 <;> omega

def szTask (t : TV) : Int := 5 + 2 * t.want.length + t.tols.length
def szNode (n : NV) : Int := 6 + 2 * n.labs.length + n.taints.length
def mTask (k : Int) (t : TV) : TV := ⟨k, k + 1, ⟨k + 1 + 1, k + 1 + 1 + 1, k + 1 + 1 + 1 + 1⟩, mLabs (k + 1 + 1 + 1 + 1 + 1) t.want.length, mInts (k + 1 + 1 + 1 + 1 + 1 + 2 * t.want.length) t.tols.length⟩
def mNode (k : Int) (t : NV) : NV := ⟨k, k + 1, ⟨k + 1 + 1, k + 1 + 1 + 1, k + 1 + 1 + 1 + 1⟩, mLabs (k + 1 + 1 + 1 + 1 + 1) t.labs.length, mInts (k + 1 + 1 + 1 + 1 + 1 + 2 * t.labs.length) t.taints.length, ((k + 1 + 1 + 1 + 1 + 1 + 2 * t.labs.length + t.taints.length) % 3 == 0)⟩
def sumTask : List TV → Int
  | [] => 0
  | t :: r => szTask t + sumTask r
def sumNode : List NV → Int
  | [] => 0
  | t :: r => szNode t + sumNode r
def mTasks : Int → List TV → List TV
  | _, [] => []
  | k, t :: r => mTask k t :: mTasks (k + szTask t) r
def mNodes : Int → List NV → List NV
  | _, [] => []
  | k, t :: r => mNode k t :: mNodes (k + szNode t) r
theorem sumTask_snoc (l : List TV) (t : TV) : sumTask (l ++ [t]) = sumTask l + szTask t := by
  induction l with
  | nil => simp [sumTask]
  | cons x r ih => simp only [List.cons_append, sumTask, ih]; omega
theorem mTasks_snoc (k : Int) (l : List TV) (t : TV) : mTasks k (l ++ [t]) = mTasks k l ++ [mTask (k + sumTask l) t] := by
  induction l generalizing k with
  | nil => simp [mTasks, sumTask]
  | cons x r ih =>
    simp only [List.cons_append, mTasks, ih, sumTask]
    rw [show k + szTask x + sumTask r = k + (szTask x + sumTask r) by omega]
theorem mTasks_len (k : Int) (l : List TV) : (mTasks k l).length = l.length := by
  induction l generalizing k with
  | nil => rfl
  | cons x r ih => simp [mTasks, ih]
theorem mTasks_at (k : Int) {l : List TV} {i : Nat} {t : TV} (h : l[i]? = some t) : (mTasks k l)[i]? = some (mTask (k + sumTask (l.take i)) t) := by
  induction l generalizing k i with
  | nil => simp at h
  | cons x r ih =>
    cases i with
    | zero => simp at h; subst h; simp [mTasks, sumTask]
    | succ i =>
      simp at h
      rw [mTasks, List.getElem?_cons_succ, ih _ h]
      simp only [List.take_succ_cons, sumTask]
      rw [show k + szTask x + sumTask (r.take i) = k + (szTask x + sumTask (r.take i)) by omega]
theorem sumTask_nonneg (l : List TV) : 0 ≤ sumTask l := by
  induction l with
  | nil => simp [sumTask]
  | cons x r ih => simp only [sumTask, szTask]; omega
/-- All inner lists are at most 1048576 long. -/
def allTask (l : List TV) : Prop := ∀ t ∈ l, t.want.length ≤ 1048576 ∧ t.tols.length ≤ 1048576
theorem sumTask_le {l : List TV} (h : allTask l) : sumTask l ≤ l.length * 3200000 := by
  induction l with
  | nil => simp [sumTask]
  | cons x r ih =>
    have h1 := h x (by simp)
    have h2 := ih (fun t ht => h t (by simp [ht]))
    simp only [sumTask, szTask, List.length_cons, Int.natCast_add, Int.natCast_one]
    omega
theorem sumTask_take {l : List TV} (h : allTask l) (i : Nat) (hl : l.length ≤ 1100000) : 0 ≤ sumTask (l.take i) ∧ sumTask (l.take i) ≤ 3520000000000 := by
  refine ⟨sumTask_nonneg _, ?_⟩
  have h1 := sumTask_le (l := l.take i) (fun t ht => h t (List.mem_of_mem_take ht))
  have h2 : (l.take i).length ≤ l.length := by rw [List.length_take]; omega
  omega
theorem sumNode_snoc (l : List NV) (t : NV) : sumNode (l ++ [t]) = sumNode l + szNode t := by
  induction l with
  | nil => simp [sumNode]
  | cons x r ih => simp only [List.cons_append, sumNode, ih]; omega
theorem mNodes_snoc (k : Int) (l : List NV) (t : NV) : mNodes k (l ++ [t]) = mNodes k l ++ [mNode (k + sumNode l) t] := by
  induction l generalizing k with
  | nil => simp [mNodes, sumNode]
  | cons x r ih =>
    simp only [List.cons_append, mNodes, ih, sumNode]
    rw [show k + szNode x + sumNode r = k + (szNode x + sumNode r) by omega]
theorem mNodes_len (k : Int) (l : List NV) : (mNodes k l).length = l.length := by
  induction l generalizing k with
  | nil => rfl
  | cons x r ih => simp [mNodes, ih]
theorem mNodes_at (k : Int) {l : List NV} {i : Nat} {t : NV} (h : l[i]? = some t) : (mNodes k l)[i]? = some (mNode (k + sumNode (l.take i)) t) := by
  induction l generalizing k i with
  | nil => simp at h
  | cons x r ih =>
    cases i with
    | zero => simp at h; subst h; simp [mNodes, sumNode]
    | succ i =>
      simp at h
      rw [mNodes, List.getElem?_cons_succ, ih _ h]
      simp only [List.take_succ_cons, sumNode]
      rw [show k + szNode x + sumNode (r.take i) = k + (szNode x + sumNode (r.take i)) by omega]
theorem sumNode_nonneg (l : List NV) : 0 ≤ sumNode l := by
  induction l with
  | nil => simp [sumNode]
  | cons x r ih => simp only [sumNode, szNode]; omega
/-- All inner lists are at most 1048576 long. -/
def allNode (l : List NV) : Prop := ∀ t ∈ l, t.labs.length ≤ 1048576 ∧ t.taints.length ≤ 1048576
theorem sumNode_le {l : List NV} (h : allNode l) : sumNode l ≤ l.length * 3200000 := by
  induction l with
  | nil => simp [sumNode]
  | cons x r ih =>
    have h1 := h x (by simp)
    have h2 := ih (fun t ht => h t (by simp [ht]))
    simp only [sumNode, szNode, List.length_cons, Int.natCast_add, Int.natCast_one]
    omega
theorem sumNode_take {l : List NV} (h : allNode l) (i : Nat) (hl : l.length ≤ 1100000) : 0 ≤ sumNode (l.take i) ∧ sumNode (l.take i) ≤ 3520000000000 := by
  refine ⟨sumNode_nonneg _, ?_⟩
  have h1 := sumNode_le (l := l.take i) (fun t ht => h t (List.mem_of_mem_take ht))
  have h2 : (l.take i).length ≤ l.length := by rw [List.length_take]; omega
  omega
def mClu (c : CV) (k : Int) : CV := ⟨mTasks k c.tasks, mNodes (k + sumTask c.tasks) c.nodes, mBinds (k + sumTask c.tasks + sumNode c.nodes) c.binds.length⟩
def szClu (c : CV) : Int := sumTask c.tasks + sumNode c.nodes + 2 * c.binds.length
end Go.Proofs.YtocfgejceoenmaaGreatDoor

namespace Go.Proofs.YtocfgejceoenmaaGreatDoor
open Go.RowKit

theorem grown_set {w w' : World} {g : Nat} {row : Option Nat} (h : w.grownBy w' row) (hr : row = some g) (o : Nat) (u : Value) : w.grownBy (w'.setCell ⟨g, o, none⟩ u) row :=
  ⟨h.os, h.tape, h.output, by simpa [World.setCell] using h.size, fun k hk hg => (Below.heap_setCell _ _ _ _ (fun e => hg (by rw [e, hr]))).trans (h.block k hk hg)⟩
theorem labL_snoc (a : List LV) (x : LV) : labL (a ++ [x]) = labL a ++ [.int .i64 x.k, .int .i64 x.v] := by simp [labL]
theorem bindL_snoc (a : List BV) (x : BV) : bindL (a ++ [x]) = bindL a ++ [.int .i64 x.task, .int .i64 x.node] := by simp [bindL]
theorem bind_xs {w : World} {l : List BV} {xs : List Value} {b : List Nat} (h : Elems BindO w l xs b) : xs = bindL l ∧ b = [] := by
  induction l generalizing xs b with
  | nil => exact h
  | cons x r ih =>
    obtain ⟨cs, ys, b1, b2, rfl, rfl, ⟨rfl, rfl⟩, h2⟩ := h
    obtain ⟨rfl, rfl⟩ := ih h2
    exact ⟨rfl, rfl⟩
/-- A row of two ints an element. -/
def TwoO (ty : TypeId) (w : World) (v : Value) (n : Nat) (xs : List Value) : Prop := w.ownsRow 0 ty 2 v n xs

set_option maxHeartbeats 1600000 in
theorem markLabS_any (v : Value) (l : List LV) (k : Int) (w : World) (h : LabO w v l) (hl : l.length ≤ 1048576) (h0 : 0 ≤ k) (hk : k ≤ 1152921504606846976) :
    Calls Tryz.prog 68 #[v, .int .i64 k] w fun e w' => e = .returned (.int .i64 (k + 2 * l.length)) ∧ LabO w' v (mLabs k l.length) ∧ w.grownBy w' v.ownBlock := by
  obtain ⟨A, c, rfl, _⟩ := own_form h
  have HO := Lib.hid h
  clear h
  go_enter Tryz.func68, Tryz.ntmps68
  go_wp2_with fail
  go_loopw [1, 5] (fun s1 s5 wr => ∃ i : Nat, i ≤ l.length ∧ s5 = .int .i64 i ∧ s1 = .int .i64 (k + 2 * i) ∧ wr.ownsRow 0 120 2 (.slice A l.length c) l.length (labL (mLabs k i) ++ labL (l.drop i)) ∧ w.grownBy wr (Value.slice A l.length c).ownBlock) (fun _ s5 _ => (l.length - intOf s5).toNat)
  case atStart => exact ⟨0, by omega, rfl, by simp, HO.out, grownBy_refl _ _⟩
  case round =>
    obtain ⟨i, hi, rfl, rfl, hown, hg⟩ := hrel
    by_cases hlt : i < l.length
    · obtain ⟨r, hr⟩ : ∃ r, l[i]? = some r := ⟨_, List.getElem?_eq_getElem hlt⟩
      obtain ⟨g, cap, e, hgl, hcell, hfr⟩ := own_cells hown (by omega)
      simp only [Value.slice.injEq] at e
      obtain ⟨rfl, -, rfl⟩ := e
      rw [drop_at hr, labL_cons] at hown hcell
      have hxl : (labL (mLabs k i)).length = i * 2 := by rw [labL_len, mLabs_len]
      have u0 := hcell (i * 2) (.int .i64 r.k) (by rw [List.getElem?_append_right (by omega), hxl]; simp)
      have u1 := hcell (i * 2 + 1) (.int .i64 r.v) (by rw [List.getElem?_append_right (by omega), hxl]; simp)
      have HX := Lib.hid hown
      have HG := Lib.hid hg
      have HXL := Lib.hid hxl
      have hlti : (i : Int) < (l.length : Int) := by omega
      clear hown hg hcell hxl hr
      go_wp2_with fail
      go_roundw
      case rel =>
        refine ⟨i + 1, by omega, by go_num, by go_num, ?_, grown_set (grown_set HG.out rfl _ _) rfl _ _⟩
        have st := own_put (g := g) (xa := labL (mLabs k i)) (cs := [.int .i64 r.k, .int .i64 r.v]) (ds := [.int .i64 (k + 2 * i), .int .i64 (k + 2 * i + 1)]) HX.out rfl rfl
        rw [HXL.out] at st
        rw [mLabs_snoc, labL_snoc, List.append_assoc]
        exact st
      case measure => simp [intOf]; omega
    · obtain rfl : i = l.length := by omega
      have HX := Lib.hid hown
      have HG := Lib.hid hg
      clear hown hg
      go_wp2_with fail
      go_ret
      refine ⟨rfl, ?_, HG.out⟩
      have := HX.out
      rw [List.drop_length] at this
      unfold LabO
      rw [mLabs_len]
      simpa [labL] using this

set_option maxHeartbeats 1600000 in
theorem markIntS_any (v : Value) (l : List Int) (k : Int) (w : World) (h : IntO w v l) (hl : l.length ≤ 1048576) (h0 : 0 ≤ k) (hk : k ≤ 1152921504606846976) :
    Calls Tryz.prog 69 #[v, .int .i64 k] w fun e w' => e = .returned (.int .i64 (k + l.length)) ∧ IntO w' v (mInts k l.length) ∧ w.grownBy w' v.ownBlock := by
  obtain ⟨A, c, rfl, _⟩ := own_form h
  have HO := Lib.hid h
  clear h
  go_enter Tryz.func69, Tryz.ntmps69
  go_wp2_with fail
  go_loopw [1, 5] (fun s1 s5 wr => ∃ i : Nat, i ≤ l.length ∧ s5 = .int .i64 i ∧ s1 = .int .i64 (k + i) ∧ wr.ownsRow 0 3 1 (.slice A l.length c) l.length (intL (mInts k i) ++ intL (l.drop i)) ∧ w.grownBy wr (Value.slice A l.length c).ownBlock) (fun _ s5 _ => (l.length - intOf s5).toNat)
  case atStart => exact ⟨0, by omega, rfl, by simp, HO.out, grownBy_refl _ _⟩
  case round =>
    obtain ⟨i, hi, rfl, rfl, hown, hg⟩ := hrel
    by_cases hlt : i < l.length
    · obtain ⟨r, hr⟩ : ∃ r, l[i]? = some r := ⟨_, List.getElem?_eq_getElem hlt⟩
      obtain ⟨g, cap, e, hgl, hcell, hfr⟩ := own_cells hown (by omega)
      simp only [Value.slice.injEq] at e
      obtain ⟨rfl, -, rfl⟩ := e
      rw [drop_at hr] at hown hcell
      have hxl : (intL (mInts k i)).length = i := by simp [intL, mInts_len]
      have u0 := hcell i (.int .i64 r) (by rw [List.getElem?_append_right (by omega), hxl]; simp [intL])
      have HX := Lib.hid hown
      have HG := Lib.hid hg
      have HXL := Lib.hid hxl
      have hlti : (i : Int) < (l.length : Int) := by omega
      clear hown hg hcell hxl hr
      go_wp2_with fail
      go_roundw
      case rel =>
        refine ⟨i + 1, by omega, by go_num, by go_num, ?_, grown_set HG.out rfl _ _⟩
        have st := own_put (g := g) (xa := intL (mInts k i)) (cs := [.int .i64 r]) (ds := [.int .i64 (k + i)]) (xb := intL (l.drop (i + 1))) HX.out rfl rfl
        rw [HXL.out] at st
        rw [mInts_snoc]
        have e : intL (mInts k i ++ [k + (i : Int)]) = intL (mInts k i) ++ [.int .i64 (k + i)] := by simp [intL]
        rw [e, List.append_assoc]
        exact st
      case measure => simp [intOf]; omega
    · obtain rfl : i = l.length := by omega
      have HX := Lib.hid hown
      have HG := Lib.hid hg
      clear hown hg
      go_wp2_with fail
      go_ret
      refine ⟨rfl, ?_, HG.out⟩
      have := HX.out
      rw [List.drop_length] at this
      unfold IntO
      rw [mInts_len]
      simpa [intL] using this

set_option maxHeartbeats 1600000 in
theorem markBindS_any (v : Value) (l : List BV) (bs : List Nat) (k : Int) (w : World) (h : RowO BindO 70 2 w v l bs) (hl : l.length ≤ 1100000) (h0 : 0 ≤ k) (hk : k ≤ 1152921504606846976) :
    Calls Tryz.prog 67 #[v, .int .i64 k] w fun e w' => e = .returned (.int .i64 (k + 2 * l.length)) ∧ RowO BindO 70 2 w' v (mBinds k l.length) bs ∧ w.grownBy w' v.ownBlock := by
  obtain ⟨xs, b, h, hel, rfl⟩ := h
  obtain ⟨rfl, rfl⟩ := bind_xs hel
  obtain ⟨A, c, rfl, _⟩ := own_form h
  have HO := Lib.hid h
  clear h hel
  go_enter Tryz.func67, Tryz.ntmps67
  go_wp2_with fail
  go_loopw [1, 5] (fun s1 s5 wr => ∃ i : Nat, i ≤ l.length ∧ s5 = .int .i64 i ∧ s1 = .int .i64 (k + 2 * i) ∧ wr.ownsRow 0 70 2 (.slice A l.length c) l.length (bindL (mBinds k i) ++ bindL (l.drop i)) ∧ w.grownBy wr (Value.slice A l.length c).ownBlock) (fun _ s5 _ => (l.length - intOf s5).toNat)
  case atStart => exact ⟨0, by omega, rfl, by simp, HO.out, grownBy_refl _ _⟩
  case round =>
    obtain ⟨i, hi, rfl, rfl, hown, hg⟩ := hrel
    by_cases hlt : i < l.length
    · obtain ⟨r, hr⟩ : ∃ r, l[i]? = some r := ⟨_, List.getElem?_eq_getElem hlt⟩
      obtain ⟨g, cap, e, hgl, hcell, hfr⟩ := own_cells hown (by omega)
      simp only [Value.slice.injEq] at e
      obtain ⟨rfl, -, rfl⟩ := e
      rw [drop_at hr, bindL_cons] at hown hcell
      have hxl : (bindL (mBinds k i)).length = i * 2 := by rw [bindL_len, mBinds_len]
      have u0 := hcell (i * 2) (.int .i64 r.task) (by rw [List.getElem?_append_right (by omega), hxl]; simp)
      have u1 := hcell (i * 2 + 1) (.int .i64 r.node) (by rw [List.getElem?_append_right (by omega), hxl]; simp)
      have HX := Lib.hid hown
      have HG := Lib.hid hg
      have HXL := Lib.hid hxl
      have hlti : (i : Int) < (l.length : Int) := by omega
      clear hown hg hcell hxl hr
      go_wp2_with fail
      go_roundw
      case rel =>
        refine ⟨i + 1, by omega, by go_num, by go_num, ?_, grown_set (grown_set HG.out rfl _ _) rfl _ _⟩
        have st := own_put (g := g) (xa := bindL (mBinds k i)) (cs := [.int .i64 r.task, .int .i64 r.node]) (ds := [.int .i64 (k + 2 * i), .int .i64 (k + 2 * i + 1)]) HX.out rfl rfl
        rw [HXL.out] at st
        rw [mBinds_snoc, bindL_snoc, List.append_assoc]
        exact st
      case measure => simp [intOf]; omega
    · obtain rfl : i = l.length := by omega
      have HX := Lib.hid hown
      have HG := Lib.hid hg
      clear hown hg
      go_wp2_with fail
      go_ret
      refine ⟨rfl, ⟨bindL (mBinds k l.length), [], ?_, bind_elems _ _, rfl⟩, HG.out⟩
      have := HX.out
      rw [List.drop_length] at this
      rw [mBinds_len]
      simpa [bindL] using this

set_option maxHeartbeats 1600000 in
theorem heldLabS_any (v : Value) (n : Nat) (k : Int) (w : World) (h : LabSl w v (mLabs k n)) (hl : n ≤ 1048576) (h0 : 0 ≤ k) (hk : k ≤ 1152921504606846976) :
    Calls Tryz.prog 105 #[v, .int .i64 k] w fun e w' => e = .returned (.int .i64 (k + 2 * n)) ∧ w = w' := by
  obtain ⟨A, c, rfl, hA⟩ := h.form
  rw [mLabs_len] at hA ⊢
  have HA := Lib.hid hA
  clear hA h
  go_enter Tryz.func105, Tryz.ntmps105
  go_wp2_with fail
  go_loop [1, 5] (fun s1 s5 => ∃ i : Nat, i ≤ n ∧ s5 = .int .i64 i ∧ s1 = .int .i64 (k + 2 * i)) (fun _ s5 => (n - intOf s5).toNat)
  case atStart => exact ⟨0, by omega, rfl, by simp⟩
  case round =>
    obtain ⟨i, hi, rfl, rfl⟩ := hrel
    by_cases hlt : i < n
    · obtain ⟨b, off, rfl, hbw, hat⟩ := HA.out (by omega)
      obtain ⟨u0, u1⟩ := hat i _ (mLabs_at k hlt)
      simp only at u0 u1
      have n0 : ((k + 2 * (i : Int)) != (k + 2 * (i : Int))) = false := by simp
      have n1 : ((k + 2 * (i : Int) + 1) != (k + 2 * (i : Int) + 1)) = false := by simp
      have hlti : (i : Int) < (n : Int) := by omega
      clear hat
      go_wp2_with fail
      go_round
      case rel => exact ⟨i + 1, by omega, by go_num, by go_num⟩
      case measure => simp [intOf]; omega
    · obtain rfl : i = n := by omega
      go_wp2_with fail
      go_ret
      exact ⟨rfl, rfl⟩

set_option maxHeartbeats 1600000 in
theorem heldIntS_any (v : Value) (n : Nat) (k : Int) (w : World) (h : IntSl w v (mInts k n)) (hl : n ≤ 1048576) (h0 : 0 ≤ k) (hk : k ≤ 1152921504606846976) :
    Calls Tryz.prog 106 #[v, .int .i64 k] w fun e w' => e = .returned (.int .i64 (k + n)) ∧ w = w' := by
  obtain ⟨A, c, rfl, hA⟩ := h.form
  rw [mInts_len] at hA ⊢
  have HA := Lib.hid hA
  clear hA h
  go_enter Tryz.func106, Tryz.ntmps106
  go_wp2_with fail
  go_loop [1, 5] (fun s1 s5 => ∃ i : Nat, i ≤ n ∧ s5 = .int .i64 i ∧ s1 = .int .i64 (k + i)) (fun _ s5 => (n - intOf s5).toNat)
  case atStart => exact ⟨0, by omega, rfl, by simp⟩
  case round =>
    obtain ⟨i, hi, rfl, rfl⟩ := hrel
    by_cases hlt : i < n
    · obtain ⟨b, off, rfl, hbw, hat⟩ := HA.out (by omega)
      have u0 := hat i _ (mInts_at k hlt)
      have n0 : ((k + (i : Int)) != (k + (i : Int))) = false := by simp
      have hlti : (i : Int) < (n : Int) := by omega
      clear hat
      go_wp2_with fail
      go_round
      case rel => exact ⟨i + 1, by omega, by go_num, by go_num⟩
      case measure => simp [intOf]; omega
    · obtain rfl : i = n := by omega
      go_wp2_with fail
      go_ret
      exact ⟨rfl, rfl⟩

set_option maxHeartbeats 1600000 in
theorem heldBindS_any (v : Value) (n : Nat) (k : Int) (w : World) (h : BindSl w v (mBinds k n)) (hl : n ≤ 1100000) (h0 : 0 ≤ k) (hk : k ≤ 1152921504606846976) :
    Calls Tryz.prog 72 #[v, .int .i64 k] w fun e w' => e = .returned (.int .i64 (k + 2 * n)) ∧ w = w' := by
  obtain ⟨A, c, rfl, hA⟩ := h.form
  rw [mBinds_len] at hA ⊢
  have HA := Lib.hid hA
  clear hA h
  go_enter Tryz.func72, Tryz.ntmps72
  go_wp2_with fail
  go_loop [1, 5] (fun s1 s5 => ∃ i : Nat, i ≤ n ∧ s5 = .int .i64 i ∧ s1 = .int .i64 (k + 2 * i)) (fun _ s5 => (n - intOf s5).toNat)
  case atStart => exact ⟨0, by omega, rfl, by simp⟩
  case round =>
    obtain ⟨i, hi, rfl, rfl⟩ := hrel
    by_cases hlt : i < n
    · obtain ⟨b, off, rfl, hbw, hat⟩ := HA.out (by omega)
      obtain ⟨cs, hR, hC⟩ := hat i _ (mBinds_at k hlt)
      obtain rfl := hR
      obtain ⟨u0, u1⟩ := bind_cells hC
      simp only at u0 u1
      have n0 : ((k + 2 * (i : Int)) != (k + 2 * (i : Int))) = false := by simp
      have n1 : ((k + 2 * (i : Int) + 1) != (k + 2 * (i : Int) + 1)) = false := by simp
      have hlti : (i : Int) < (n : Int) := by omega
      clear hat hC
      go_wp2_with fail
      go_round
      case rel => exact ⟨i + 1, by omega, by go_num, by go_num⟩
      case measure => simp [intOf]; omega
    · obtain rfl : i = n := by omega
      go_wp2_with fail
      go_ret
      exact ⟨rfl, rfl⟩
end Go.Proofs.YtocfgejceoenmaaGreatDoor

namespace Go.Proofs.YtocfgejceoenmaaGreatDoor
open Go.RowKit

theorem own_cell {w : World} {e : TypeId} {size n g c : Nat} {xs : List Value} (h : w.ownsRow 0 e size (.slice (some ⟨g, 0, none⟩) n c) n xs) {j : Nat} {u : Value} (hu : xs[j]? = some u) : w.cell? ⟨g, j, none⟩ = some u := by
  rcases Nat.eq_zero_or_pos n with h0 | hp
  · have := h.1
    rw [h0, Nat.zero_mul] at this
    rw [List.eq_nil_of_length_eq_zero this] at hu; simp at hu
  · obtain ⟨g', cap, e, _, hc, _⟩ := own_cells h hp
    simp only [Value.slice.injEq, Option.some.injEq, Addr.mk.injEq] at e
    obtain ⟨⟨rfl, -, -⟩, -, -⟩ := e
    exact hc j u hu
theorem own_frozen {w : World} {e : TypeId} {size n g c : Nat} {xs : List Value} (h : w.ownsRow 0 e size (.slice (some ⟨g, 0, none⟩) n c) n xs) (hp : 0 < n) (o : Nat) : w.frozen? ⟨g, o, none⟩ = false := by
  obtain ⟨g', cap, e, _, _, hf⟩ := own_cells h hp
  simp only [Value.slice.injEq, Option.some.injEq, Addr.mk.injEq] at e
  obtain ⟨⟨rfl, -, -⟩, -, -⟩ := e
  exact hf o
theorem nd5 {g : Nat} {a x y c : List Nat} (h : (g :: (a ++ ((x ++ y) ++ c))).Nodup) : (∀ b ∈ a, b ≠ g ∧ b ∉ x ∧ b ∉ y) ∧ (∀ b ∈ x, b ≠ g ∧ b ∉ y) ∧ (∀ b ∈ y, b ≠ g ∧ b ∉ x) ∧ (∀ b ∈ c, b ≠ g ∧ b ∉ x ∧ b ∉ y) := by
  rw [List.nodup_cons] at h
  obtain ⟨hg, h⟩ := h
  simp only [List.mem_append, not_or] at hg
  obtain ⟨ga, ⟨gx, gy⟩, gc⟩ := hg
  simp only [List.nodup_append, List.mem_append] at h
  obtain ⟨-, ⟨⟨-, -, hxy⟩, -, hxc⟩, ha⟩ := h
  refine ⟨fun b hb => ⟨fun e => ga (e ▸ hb), fun hx => ha b hb b (.inl (.inl hx)) rfl, fun hy => ha b hb b (.inl (.inr hy)) rfl⟩, fun b hb => ⟨fun e => gx (e ▸ hb), fun hy => hxy b hb b hy rfl⟩,
    fun b hb => ⟨fun e => gy (e ▸ hb), fun hx => hxy b hx b hb rfl⟩, fun b hb => ⟨fun e => gc (e ▸ hb), fun hx => hxc b (.inl hx) b hb rfl, fun hy => hxc b (.inr hy) b hb rfl⟩⟩
theorem blk_mem {v : Value} {k : Nat} (h : v.ownBlock = some k) : k ∈ blk v := by simp [blk, h]

theorem elems_allTask {w : World} {l : List TV} {xs : List Value} {bs : List Nat} (h : Elems TaskO w l xs bs) : allTask l := by
  induction l generalizing xs bs with
  | nil => intro t ht; cases ht
  | cons x r ih =>
    obtain ⟨cs, ys, b1, b2, rfl, rfl, ⟨v1, v2, _, _, _, _, m⟩, h2⟩ := h
    intro t ht
    rcases List.mem_cons.1 ht with rfl | ht
    · exact m
    · exact ih h2 t ht
set_option maxHeartbeats 6400000 in
theorem markTaskS_any (v : Value) (l : List TV) (bs : List Nat) (k : Int) (w : World) (h : RowO TaskO 46 7 w v l bs) (hnd : bs.Nodup) (hl : l.length ≤ 1100000) (h0 : 0 ≤ k) (hk : k ≤ 576460752303423488) :
    Calls Tryz.prog 65 #[v, .int .i64 k] w fun e w' => e = .returned (.int .i64 (k + sumTask l)) ∧ RowO TaskO 46 7 w' v (mTasks k l) bs ∧ TurnB bs w w' := by
  obtain ⟨xs, b, hown, hel, rfl⟩ := h
  have HALL := Lib.hid (elems_allTask hel)
  obtain ⟨A, c, rfl, _⟩ := own_form hown
  have HO := Lib.hid (And.intro hown hel)
  have HND := Lib.hid hnd
  clear hown hel hnd
  go_enter Tryz.func65, Tryz.ntmps65
  go_wp2_with fail
  go_loopw [1, 5] (fun s1 s5 wr => ∃ (i : Nat) (xa xb : List Value) (ba bb : List Nat), i ≤ l.length ∧ s5 = .int .i64 i ∧ s1 = .int .i64 (k + sumTask (l.take i)) ∧ wr.ownsRow 0 46 7 (.slice A l.length c) l.length (xa ++ xb) ∧ Elems TaskO wr (mTasks k (l.take i)) xa ba ∧ Elems TaskO wr (l.drop i) xb bb ∧ b = ba ++ bb ∧ TurnB (blk (.slice A l.length c) ++ b) w wr) (fun _ s5 _ => (l.length - intOf s5).toNat)
  case atStart => exact ⟨0, [], xs, [], b, by omega, rfl, by simp [sumTask], HO.out.1, ⟨rfl, rfl⟩, HO.out.2, rfl, TurnB.refl _ _⟩
  case round =>
    obtain ⟨i, xa, xb, ba, bb, hi, rfl, rfl, hown, hea, heb, hbe, htn⟩ := hrel
    obtain ⟨hs0, hs1⟩ := sumTask_take HALL.out i hl
    by_cases hlt : i < l.length
    · obtain ⟨t, ht⟩ : ∃ t, l[i]? = some t := ⟨_, List.getElem?_eq_getElem hlt⟩
      rw [drop_at ht] at heb
      obtain ⟨cs, ys, b1, b2, rfl, rfl, hR, hel2⟩ := heb
      obtain ⟨v1, v2, rfl, h1, h2, rfl, m1, m2⟩ := hR
      obtain ⟨A1, c1, rfl, _⟩ := own_form h1
      obtain ⟨A2, c2, rfl, _⟩ := own_form h2
      obtain ⟨g, cap, e, hgl, hcell, hfr⟩ := own_cells hown (by omega)
      simp only [Value.slice.injEq] at e
      obtain ⟨rfl, -, rfl⟩ := e
      have hxl : xa.length = i * 7 := by rw [hea.len (fun _ _ _ h => h.len), mTasks_len, List.length_take, Nat.min_eq_left hi]
      have nd := HND.out
      rw [hbe] at nd
      obtain ⟨da, d1, d2, dc⟩ := nd5 nd
      have u0 := hcell (i * 7 + 0) _ (by rw [List.getElem?_append_right (by omega), hxl, Nat.add_sub_cancel_left]; rfl); have u1 := hcell (i * 7 + 1) _ (by rw [List.getElem?_append_right (by omega), hxl, Nat.add_sub_cancel_left]; rfl); have u2 := hcell (i * 7 + 2) _ (by rw [List.getElem?_append_right (by omega), hxl, Nat.add_sub_cancel_left]; rfl); have u3 := hcell (i * 7 + 3) _ (by rw [List.getElem?_append_right (by omega), hxl, Nat.add_sub_cancel_left]; rfl); have u4 := hcell (i * 7 + 4) _ (by rw [List.getElem?_append_right (by omega), hxl, Nat.add_sub_cancel_left]; rfl); have u5 := hcell (i * 7 + 5) _ (by rw [List.getElem?_append_right (by omega), hxl, Nat.add_sub_cancel_left]; rfl); have u6 := hcell (i * 7 + 6) _ (by rw [List.getElem?_append_right (by omega), hxl, Nat.add_sub_cancel_left]; rfl)
      simp only [Nat.add_zero] at u0
      generalize hK : k + sumTask (l.take i) = K
      have hK0 : 0 ≤ K := by omega
      have hK1 : K ≤ 576464272303423488 := by omega
      have HKK := Lib.hid hK
      have HT := Lib.hid (And.intro ht hbe)
      have HX := Lib.hid (And.intro hown (And.intro hea (And.intro hel2 (And.intro h1 h2))))
      have HD := Lib.hid (And.intro da (And.intro d1 (And.intro d2 dc)))
      have HXL := Lib.hid hxl
      have HTN := Lib.hid htn
      have hlti : (i : Int) < (l.length : Int) := by omega
      clear hown hea hel2 h1 h2 hcell hxl htn ht hbe nd da d1 d2 dc hK hs0 hs1
      go_wp2_with fail
      have hT5 : TurnB [g] wr (World.setCell (World.setCell (World.setCell (World.setCell (World.setCell wr ⟨g, i * 7, none⟩ (.int .i64 K)) ⟨g, i * 7 + 1, none⟩ (.int .i64 (K + 1))) ⟨g, i * 7 + 2, none⟩ (.int .i64 (K + 1 + 1))) ⟨g, i * 7 + 2 + 1, none⟩ (.int .i64 (K + 1 + 1 + 1))) ⟨g, i * 7 + 2 + 2, none⟩ (.int .i64 (K + 1 + 1 + 1 + 1))) := TurnB.put (TurnB.put (TurnB.put (TurnB.put (TurnB.put (TurnB.refl _ _) (List.mem_singleton.2 rfl) _ _) (List.mem_singleton.2 rfl) _ _) (List.mem_singleton.2 rfl) _ _) (List.mem_singleton.2 rfl) _ _) (List.mem_singleton.2 rfl) _ _
      have hO5 : World.ownsRow (World.setCell (World.setCell (World.setCell (World.setCell (World.setCell wr ⟨g, i * 7, none⟩ (.int .i64 K)) ⟨g, i * 7 + 1, none⟩ (.int .i64 (K + 1))) ⟨g, i * 7 + 2, none⟩ (.int .i64 (K + 1 + 1))) ⟨g, i * 7 + 2 + 1, none⟩ (.int .i64 (K + 1 + 1 + 1))) ⟨g, i * 7 + 2 + 2, none⟩ (.int .i64 (K + 1 + 1 + 1 + 1))) 0 46 7 (.slice (some ⟨g, 0, none⟩) l.length c) l.length (xa ++ ([.int .i64 K, .int .i64 (K + 1), .int .i64 (K + 1 + 1), .int .i64 (K + 1 + 1 + 1), .int .i64 (K + 1 + 1 + 1 + 1)] ++ ([.slice A1 t.want.length c1, .slice A2 t.tols.length c2] ++ ys))) := by
        have st := own_put (v := .slice (some ⟨g, 0, none⟩) l.length c) (g := g) (xa := xa) (cs := [.int .i64 t.id, .int .i64 t.prio, .int .i64 t.need.c, .int .i64 t.need.m, .int .i64 t.need.p]) (xb := [.slice A1 t.want.length c1, .slice A2 t.tols.length c2] ++ ys) (ds := [.int .i64 K, .int .i64 (K + 1), .int .i64 (K + 1 + 1), .int .i64 (K + 1 + 1 + 1), .int .i64 (K + 1 + 1 + 1 + 1)]) HX.out.1 rfl rfl
        rw [HXL.out] at st
        exact st
      generalize (World.setCell (World.setCell (World.setCell (World.setCell (World.setCell wr ⟨g, i * 7, none⟩ (.int .i64 K)) ⟨g, i * 7 + 1, none⟩ (.int .i64 (K + 1))) ⟨g, i * 7 + 2, none⟩ (.int .i64 (K + 1 + 1))) ⟨g, i * 7 + 2 + 1, none⟩ (.int .i64 (K + 1 + 1 + 1))) ⟨g, i * 7 + 2 + 2, none⟩ (.int .i64 (K + 1 + 1 + 1 + 1))) = W5 at hT5 hO5 ⊢
      obtain ⟨hown, hea, hel2, h1, h2⟩ := HX.out
      obtain ⟨da, d1, d2, dc⟩ := HD.out
      have h15 := own_agree h1 (hT5.agree (fun b hb => ⟨own_lt h1 b hb, by simpa using (d1 b hb).1⟩))
      refine (markLabS_any _ t.want _ _ h15 m1 (by omega) (by omega)).mono ?_
      rintro e w3 ⟨rfl, hL3, hg3⟩
      have hT3 : TurnB (blk (.slice A1 t.want.length c1)) W5 w3 := TurnB.of_grown hg3 (fun k e => blk_mem e)
      have hO3 := own_agree hO5 (hT3.agree (fun b hb => by
        obtain rfl : b = g := by simpa [blk, Value.ownBlock] using hb
        exact ⟨own_lt hO5 b (by simp [blk, Value.ownBlock]), fun hx => (d1 b hx).1 rfl⟩))
      have h25 := own_agree h2 (hT5.agree (fun b hb => ⟨own_lt h2 b hb, by simpa using (d2 b hb).1⟩))
      have h23 := own_agree h25 (hT3.agree (fun b hb => ⟨own_lt h25 b hb, (d2 b hb).2⟩))
      have uf := own_frozen hO3 (by omega)
      have z6 := own_cell hO3 (j := i * 7 + 6) (by rw [List.getElem?_append_right (by rw [HXL.out]; omega), HXL.out, Nat.add_sub_cancel_left]; rfl)
      
      have HO3 := Lib.hid hO3
      have H23 := Lib.hid h23
      have HL3 := Lib.hid hL3
      have HT5 := Lib.hid hT5
      have HT3 := Lib.hid hT3
      clear hown hea hel2 h1 h2 da d1 d2 dc h15 h25 h23 hO3 hL3 hg3 hT3 hT5 hO5 u0 u1 u2 u3 u4 u5 u6 
      go_wp2_with fail
      refine (markIntS_any _ t.tols _ _ H23.out m2 (by omega) (by omega)).mono ?_
      rintro e w4 ⟨rfl, hI4, hg4⟩
      have hT4 : TurnB (blk (.slice A2 t.tols.length c2)) w3 w4 := TurnB.of_grown hg4 (fun k e => blk_mem e)
      obtain ⟨da, d1, d2, dc⟩ := HD.out
      have hO4 := own_agree HO3.out (hT4.agree (fun b hb => by
        obtain rfl : b = g := by simpa [blk, Value.ownBlock] using hb
        exact ⟨own_lt HO3.out b (by simp [blk, Value.ownBlock]), fun hx => (d2 b hx).1 rfl⟩))
      have hL4 : LabO w4 _ _ := own_agree HL3.out (hT4.agree (fun b hb => ⟨own_lt HL3.out b hb, (d1 b hb).2⟩))
      
      
      have HO4 := Lib.hid hO4
      have HL4 := Lib.hid hL4
      have HI4 := Lib.hid (show IntO w4 _ _ from hI4)
      have HT4 := Lib.hid hT4
      clear da d1 d2 dc hO4 hL4 hI4 hg4 hT4 z6 HO3 HL3 H23
      go_wp2_with fail
      go_roundw
      case rel =>
        obtain ⟨hown, hea, hel2, -, -⟩ := HX.out
        obtain ⟨da, d1, d2, dc⟩ := HD.out
        obtain ⟨ht, hbe⟩ := HT.out
        have hT : TurnB (g :: (blk (.slice A1 t.want.length c1) ++ blk (.slice A2 t.tols.length c2))) wr w4 := ((HT5.out.mono (by simp)).trans (HT3.out.mono (fun b hb => by simp [hb]))).trans (HT4.out.mono (fun b hb => by simp [hb]))
        have hO6 := HO4.out
        have hL6 := HL4.out
        have hI6 := HI4.out
        have hT6 := hT
        
        
        
        
        
        have hea6 := hea.agree TaskO.framed (hT6.agree (fun b hb => ⟨elems_lt (fun _ _ _ h => h.lt) hea b hb, by simpa [not_or] using da b hb⟩))
        have hel6 := hel2.agree TaskO.framed (hT6.agree (fun b hb => ⟨elems_lt (fun _ _ _ h => h.lt) hel2 b hb, by simpa [not_or] using dc b hb⟩))
        refine ⟨i + 1, xa ++ [.int .i64 K, .int .i64 (K + 1), .int .i64 (K + 1 + 1), .int .i64 (K + 1 + 1 + 1), .int .i64 (K + 1 + 1 + 1 + 1), .slice A1 t.want.length c1, .slice A2 t.tols.length c2], ys, ba ++ (blk (.slice A1 t.want.length c1) ++ blk (.slice A2 t.tols.length c2)), b2, by omega, by go_num, ?_, ?_, ?_, hel6, by rw [hbe]; simp, HTN.out.trans (hT6.mono (fun b hb => ?_))⟩
        · rw [take_at ht, sumTask_snoc]
          have := HKK.out
          unfold szTask
          congr 1; omega
        · rw [List.append_assoc]; exact hO6
        · rw [take_at ht, mTasks_snoc, HKK.out]
          exact hea6.snoc ⟨_, _, rfl, by simpa [mTask, mLabs_len, LabO] using hL6, by simpa [mTask, mInts_len, IntO] using hI6, rfl, by simpa [mTask, mLabs_len] using m1, by simpa [mTask, mInts_len] using m2⟩
        · rw [hbe]
          rcases List.mem_cons.1 hb with rfl | hb
          · simp [blk, Value.ownBlock]
          · exact List.mem_append_right _ (List.mem_append_right _ (List.mem_append_left _ hb))
      case measure => simp [intOf]; omega
    · obtain rfl : i = l.length := by omega
      have HX := Lib.hid (And.intro hown (And.intro hea (And.intro heb htn)))
      have HBE := Lib.hid hbe
      clear hown hea heb htn hbe
      rw [List.take_length] at hs0 hs1 ⊢
      go_wp2_with fail
      go_ret
      obtain ⟨hown, hea, heb, htn⟩ := HX.out
      rw [List.drop_length] at heb
      obtain ⟨rfl, rfl⟩ := heb
      rw [List.append_nil] at hown
      have hbe := HBE.out
      rw [List.append_nil] at hbe
      subst hbe
      rw [List.take_length] at hea
      exact ⟨rfl, ⟨xa, b, by rw [mTasks_len]; exact hown, hea, rfl⟩, htn⟩
theorem elems_allNode {w : World} {l : List NV} {xs : List Value} {bs : List Nat} (h : Elems NodeO w l xs bs) : allNode l := by
  induction l generalizing xs bs with
  | nil => intro t ht; cases ht
  | cons x r ih =>
    obtain ⟨cs, ys, b1, b2, rfl, rfl, ⟨v1, v2, _, _, _, _, m⟩, h2⟩ := h
    intro t ht
    rcases List.mem_cons.1 ht with rfl | ht
    · exact m
    · exact ih h2 t ht
set_option maxHeartbeats 6400000 in
theorem markNodeS_any (v : Value) (l : List NV) (bs : List Nat) (k : Int) (w : World) (h : RowO NodeO 60 8 w v l bs) (hnd : bs.Nodup) (hl : l.length ≤ 1100000) (h0 : 0 ≤ k) (hk : k ≤ 576460752303423488) :
    Calls Tryz.prog 66 #[v, .int .i64 k] w fun e w' => e = .returned (.int .i64 (k + sumNode l)) ∧ RowO NodeO 60 8 w' v (mNodes k l) bs ∧ TurnB bs w w' := by
  obtain ⟨xs, b, hown, hel, rfl⟩ := h
  have HALL := Lib.hid (elems_allNode hel)
  obtain ⟨A, c, rfl, _⟩ := own_form hown
  have HO := Lib.hid (And.intro hown hel)
  have HND := Lib.hid hnd
  clear hown hel hnd
  go_enter Tryz.func66, Tryz.ntmps66
  go_wp2_with fail
  go_loopw [1, 5] (fun s1 s5 wr => ∃ (i : Nat) (xa xb : List Value) (ba bb : List Nat), i ≤ l.length ∧ s5 = .int .i64 i ∧ s1 = .int .i64 (k + sumNode (l.take i)) ∧ wr.ownsRow 0 60 8 (.slice A l.length c) l.length (xa ++ xb) ∧ Elems NodeO wr (mNodes k (l.take i)) xa ba ∧ Elems NodeO wr (l.drop i) xb bb ∧ b = ba ++ bb ∧ TurnB (blk (.slice A l.length c) ++ b) w wr) (fun _ s5 _ => (l.length - intOf s5).toNat)
  case atStart => exact ⟨0, [], xs, [], b, by omega, rfl, by simp [sumNode], HO.out.1, ⟨rfl, rfl⟩, HO.out.2, rfl, TurnB.refl _ _⟩
  case round =>
    obtain ⟨i, xa, xb, ba, bb, hi, rfl, rfl, hown, hea, heb, hbe, htn⟩ := hrel
    obtain ⟨hs0, hs1⟩ := sumNode_take HALL.out i hl
    by_cases hlt : i < l.length
    · obtain ⟨t, ht⟩ : ∃ t, l[i]? = some t := ⟨_, List.getElem?_eq_getElem hlt⟩
      rw [drop_at ht] at heb
      obtain ⟨cs, ys, b1, b2, rfl, rfl, hR, hel2⟩ := heb
      obtain ⟨v1, v2, rfl, h1, h2, rfl, m1, m2⟩ := hR
      obtain ⟨A1, c1, rfl, _⟩ := own_form h1
      obtain ⟨A2, c2, rfl, _⟩ := own_form h2
      obtain ⟨g, cap, e, hgl, hcell, hfr⟩ := own_cells hown (by omega)
      simp only [Value.slice.injEq] at e
      obtain ⟨rfl, -, rfl⟩ := e
      have hxl : xa.length = i * 8 := by rw [hea.len (fun _ _ _ h => h.len), mNodes_len, List.length_take, Nat.min_eq_left hi]
      have nd := HND.out
      rw [hbe] at nd
      obtain ⟨da, d1, d2, dc⟩ := nd5 nd
      have u0 := hcell (i * 8 + 0) _ (by rw [List.getElem?_append_right (by omega), hxl, Nat.add_sub_cancel_left]; rfl); have u1 := hcell (i * 8 + 1) _ (by rw [List.getElem?_append_right (by omega), hxl, Nat.add_sub_cancel_left]; rfl); have u2 := hcell (i * 8 + 2) _ (by rw [List.getElem?_append_right (by omega), hxl, Nat.add_sub_cancel_left]; rfl); have u3 := hcell (i * 8 + 3) _ (by rw [List.getElem?_append_right (by omega), hxl, Nat.add_sub_cancel_left]; rfl); have u4 := hcell (i * 8 + 4) _ (by rw [List.getElem?_append_right (by omega), hxl, Nat.add_sub_cancel_left]; rfl); have u5 := hcell (i * 8 + 5) _ (by rw [List.getElem?_append_right (by omega), hxl, Nat.add_sub_cancel_left]; rfl); have u6 := hcell (i * 8 + 6) _ (by rw [List.getElem?_append_right (by omega), hxl, Nat.add_sub_cancel_left]; rfl); have u7 := hcell (i * 8 + 7) _ (by rw [List.getElem?_append_right (by omega), hxl, Nat.add_sub_cancel_left]; rfl)
      simp only [Nat.add_zero] at u0
      generalize hK : k + sumNode (l.take i) = K
      have hK0 : 0 ≤ K := by omega
      have hK1 : K ≤ 576464272303423488 := by omega
      have HKK := Lib.hid hK
      have HT := Lib.hid (And.intro ht hbe)
      have HX := Lib.hid (And.intro hown (And.intro hea (And.intro hel2 (And.intro h1 h2))))
      have HD := Lib.hid (And.intro da (And.intro d1 (And.intro d2 dc)))
      have HXL := Lib.hid hxl
      have HTN := Lib.hid htn
      have hlti : (i : Int) < (l.length : Int) := by omega
      clear hown hea hel2 h1 h2 hcell hxl htn ht hbe nd da d1 d2 dc hK hs0 hs1
      go_wp2_with fail
      have hT5 : TurnB [g] wr (World.setCell (World.setCell (World.setCell (World.setCell (World.setCell wr ⟨g, i * 8, none⟩ (.int .i64 K)) ⟨g, i * 8 + 1, none⟩ (.int .i64 (K + 1))) ⟨g, i * 8 + 2, none⟩ (.int .i64 (K + 1 + 1))) ⟨g, i * 8 + 2 + 1, none⟩ (.int .i64 (K + 1 + 1 + 1))) ⟨g, i * 8 + 2 + 2, none⟩ (.int .i64 (K + 1 + 1 + 1 + 1))) := TurnB.put (TurnB.put (TurnB.put (TurnB.put (TurnB.put (TurnB.refl _ _) (List.mem_singleton.2 rfl) _ _) (List.mem_singleton.2 rfl) _ _) (List.mem_singleton.2 rfl) _ _) (List.mem_singleton.2 rfl) _ _) (List.mem_singleton.2 rfl) _ _
      have hO5 : World.ownsRow (World.setCell (World.setCell (World.setCell (World.setCell (World.setCell wr ⟨g, i * 8, none⟩ (.int .i64 K)) ⟨g, i * 8 + 1, none⟩ (.int .i64 (K + 1))) ⟨g, i * 8 + 2, none⟩ (.int .i64 (K + 1 + 1))) ⟨g, i * 8 + 2 + 1, none⟩ (.int .i64 (K + 1 + 1 + 1))) ⟨g, i * 8 + 2 + 2, none⟩ (.int .i64 (K + 1 + 1 + 1 + 1))) 0 60 8 (.slice (some ⟨g, 0, none⟩) l.length c) l.length (xa ++ ([.int .i64 K, .int .i64 (K + 1), .int .i64 (K + 1 + 1), .int .i64 (K + 1 + 1 + 1), .int .i64 (K + 1 + 1 + 1 + 1)] ++ ([.slice A1 t.labs.length c1, .slice A2 t.taints.length c2, .bool t.cordon] ++ ys))) := by
        have st := own_put (v := .slice (some ⟨g, 0, none⟩) l.length c) (g := g) (xa := xa) (cs := [.int .i64 t.id, .int .i64 t.pool, .int .i64 t.cap.c, .int .i64 t.cap.m, .int .i64 t.cap.p]) (xb := [.slice A1 t.labs.length c1, .slice A2 t.taints.length c2, .bool t.cordon] ++ ys) (ds := [.int .i64 K, .int .i64 (K + 1), .int .i64 (K + 1 + 1), .int .i64 (K + 1 + 1 + 1), .int .i64 (K + 1 + 1 + 1 + 1)]) HX.out.1 rfl rfl
        rw [HXL.out] at st
        exact st
      generalize (World.setCell (World.setCell (World.setCell (World.setCell (World.setCell wr ⟨g, i * 8, none⟩ (.int .i64 K)) ⟨g, i * 8 + 1, none⟩ (.int .i64 (K + 1))) ⟨g, i * 8 + 2, none⟩ (.int .i64 (K + 1 + 1))) ⟨g, i * 8 + 2 + 1, none⟩ (.int .i64 (K + 1 + 1 + 1))) ⟨g, i * 8 + 2 + 2, none⟩ (.int .i64 (K + 1 + 1 + 1 + 1))) = W5 at hT5 hO5 ⊢
      obtain ⟨hown, hea, hel2, h1, h2⟩ := HX.out
      obtain ⟨da, d1, d2, dc⟩ := HD.out
      have h15 := own_agree h1 (hT5.agree (fun b hb => ⟨own_lt h1 b hb, by simpa using (d1 b hb).1⟩))
      refine (markLabS_any _ t.labs _ _ h15 m1 (by omega) (by omega)).mono ?_
      rintro e w3 ⟨rfl, hL3, hg3⟩
      have hT3 : TurnB (blk (.slice A1 t.labs.length c1)) W5 w3 := TurnB.of_grown hg3 (fun k e => blk_mem e)
      have hO3 := own_agree hO5 (hT3.agree (fun b hb => by
        obtain rfl : b = g := by simpa [blk, Value.ownBlock] using hb
        exact ⟨own_lt hO5 b (by simp [blk, Value.ownBlock]), fun hx => (d1 b hx).1 rfl⟩))
      have h25 := own_agree h2 (hT5.agree (fun b hb => ⟨own_lt h2 b hb, by simpa using (d2 b hb).1⟩))
      have h23 := own_agree h25 (hT3.agree (fun b hb => ⟨own_lt h25 b hb, (d2 b hb).2⟩))
      have uf := own_frozen hO3 (by omega)
      have z6 := own_cell hO3 (j := i * 8 + 6) (by rw [List.getElem?_append_right (by rw [HXL.out]; omega), HXL.out, Nat.add_sub_cancel_left]; rfl)
      have z7 := own_cell hO3 (j := i * 8 + 7) (by rw [List.getElem?_append_right (by rw [HXL.out]; omega), HXL.out, Nat.add_sub_cancel_left]; rfl)
      have HO3 := Lib.hid hO3
      have H23 := Lib.hid h23
      have HL3 := Lib.hid hL3
      have HT5 := Lib.hid hT5
      have HT3 := Lib.hid hT3
      clear hown hea hel2 h1 h2 da d1 d2 dc h15 h25 h23 hO3 hL3 hg3 hT3 hT5 hO5 u0 u1 u2 u3 u4 u5 u6 u7
      go_wp2_with fail
      refine (markIntS_any _ t.taints _ _ H23.out m2 (by omega) (by omega)).mono ?_
      rintro e w4 ⟨rfl, hI4, hg4⟩
      have hT4 : TurnB (blk (.slice A2 t.taints.length c2)) w3 w4 := TurnB.of_grown hg4 (fun k e => blk_mem e)
      obtain ⟨da, d1, d2, dc⟩ := HD.out
      have hO4 := own_agree HO3.out (hT4.agree (fun b hb => by
        obtain rfl : b = g := by simpa [blk, Value.ownBlock] using hb
        exact ⟨own_lt HO3.out b (by simp [blk, Value.ownBlock]), fun hx => (d2 b hx).1 rfl⟩))
      have hL4 : LabO w4 _ _ := own_agree HL3.out (hT4.agree (fun b hb => ⟨own_lt HL3.out b hb, (d1 b hb).2⟩))
      have uf := own_frozen hO4 (by omega)
      have z7 := own_cell hO4 (j := i * 8 + 7) (by rw [List.getElem?_append_right (by rw [HXL.out]; omega), HXL.out, Nat.add_sub_cancel_left]; rfl)
      have HO4 := Lib.hid hO4
      have HL4 := Lib.hid hL4
      have HI4 := Lib.hid (show IntO w4 _ _ from hI4)
      have HT4 := Lib.hid hT4
      clear da d1 d2 dc hO4 hL4 hI4 hg4 hT4 z6 HO3 HL3 H23
      go_wp2_with fail
      go_roundw
      case rel =>
        obtain ⟨hown, hea, hel2, -, -⟩ := HX.out
        obtain ⟨da, d1, d2, dc⟩ := HD.out
        obtain ⟨ht, hbe⟩ := HT.out
        have hT : TurnB (g :: (blk (.slice A1 t.labs.length c1) ++ blk (.slice A2 t.taints.length c2))) wr w4 := ((HT5.out.mono (by simp)).trans (HT3.out.mono (fun b hb => by simp [hb]))).trans (HT4.out.mono (fun b hb => by simp [hb]))
        
        
        
        
        have hS6 : TurnB [g] w4 (w4.setCell ⟨g, i * 8 + 7, none⟩ (.bool ((K + 1 + 1 + 1 + 1 + 1 + 2 * t.labs.length + t.taints.length) % 3 == 0))) := TurnB.put (TurnB.refl _ _) (List.mem_singleton.2 rfl) _ _
        have hO6 : World.ownsRow (w4.setCell ⟨g, i * 8 + 7, none⟩ (.bool ((K + 1 + 1 + 1 + 1 + 1 + 2 * t.labs.length + t.taints.length) % 3 == 0))) 0 60 8 (.slice (some ⟨g, 0, none⟩) l.length c) l.length (xa ++ ([.int .i64 K, .int .i64 (K + 1), .int .i64 (K + 1 + 1), .int .i64 (K + 1 + 1 + 1), .int .i64 (K + 1 + 1 + 1 + 1)] ++ ([.slice A1 t.labs.length c1, .slice A2 t.taints.length c2, .bool ((K + 1 + 1 + 1 + 1 + 1 + 2 * t.labs.length + t.taints.length) % 3 == 0)] ++ ys))) := by
          have e4 : @Eq (List Value) (xa ++ ([.int .i64 K, .int .i64 (K + 1), .int .i64 (K + 1 + 1), .int .i64 (K + 1 + 1 + 1), .int .i64 (K + 1 + 1 + 1 + 1)] ++ ([.slice A1 t.labs.length c1, .slice A2 t.taints.length c2, .bool t.cordon] ++ ys))) ((xa ++ [.int .i64 K, .int .i64 (K + 1), .int .i64 (K + 1 + 1), .int .i64 (K + 1 + 1 + 1), .int .i64 (K + 1 + 1 + 1 + 1), .slice A1 t.labs.length c1, .slice A2 t.taints.length c2]) ++ ([.bool t.cordon] ++ ys)) := by simp
          have h4 := HO4.out
          rw [e4] at h4
          have st := own_put (v := .slice (some ⟨g, 0, none⟩) l.length c) (g := g) (ds := [.bool ((K + 1 + 1 + 1 + 1 + 1 + 2 * t.labs.length + t.taints.length) % 3 == 0)]) h4 rfl rfl
          have el : List.length (α := Value) (xa ++ [.int .i64 K, .int .i64 (K + 1), .int .i64 (K + 1 + 1), .int .i64 (K + 1 + 1 + 1), .int .i64 (K + 1 + 1 + 1 + 1), .slice A1 t.labs.length c1, .slice A2 t.taints.length c2]) = i * 8 + 7 := by rw [List.length_append, HXL.out]; rfl
          rw [el] at st
          have e5 : @Eq (List Value) ((xa ++ [.int .i64 K, .int .i64 (K + 1), .int .i64 (K + 1 + 1), .int .i64 (K + 1 + 1 + 1), .int .i64 (K + 1 + 1 + 1 + 1), .slice A1 t.labs.length c1, .slice A2 t.taints.length c2]) ++ ([.bool ((K + 1 + 1 + 1 + 1 + 1 + 2 * t.labs.length + t.taints.length) % 3 == 0)] ++ ys)) (xa ++ ([.int .i64 K, .int .i64 (K + 1), .int .i64 (K + 1 + 1), .int .i64 (K + 1 + 1 + 1), .int .i64 (K + 1 + 1 + 1 + 1)] ++ ([.slice A1 t.labs.length c1, .slice A2 t.taints.length c2, .bool ((K + 1 + 1 + 1 + 1 + 1 + 2 * t.labs.length + t.taints.length) % 3 == 0)] ++ ys))) := by simp
          rw [e5] at st
          exact st
        have hL6 : LabO (w4.setCell ⟨g, i * 8 + 7, none⟩ (.bool ((K + 1 + 1 + 1 + 1 + 1 + 2 * t.labs.length + t.taints.length) % 3 == 0))) _ _ := own_agree HL4.out (hS6.agree (fun b hb => ⟨own_lt HL4.out b hb, by simpa using (d1 b hb).1⟩))
        have hI6 : IntO (w4.setCell ⟨g, i * 8 + 7, none⟩ (.bool ((K + 1 + 1 + 1 + 1 + 1 + 2 * t.labs.length + t.taints.length) % 3 == 0))) _ _ := own_agree HI4.out (hS6.agree (fun b hb => ⟨own_lt HI4.out b hb, by simpa using (d2 b hb).1⟩))
        have hT6 := hT.trans (hS6.mono (by simp))
        have hea6 := hea.agree NodeO.framed (hT6.agree (fun b hb => ⟨elems_lt (fun _ _ _ h => h.lt) hea b hb, by simpa [not_or] using da b hb⟩))
        have hel6 := hel2.agree NodeO.framed (hT6.agree (fun b hb => ⟨elems_lt (fun _ _ _ h => h.lt) hel2 b hb, by simpa [not_or] using dc b hb⟩))
        refine ⟨i + 1, xa ++ [.int .i64 K, .int .i64 (K + 1), .int .i64 (K + 1 + 1), .int .i64 (K + 1 + 1 + 1), .int .i64 (K + 1 + 1 + 1 + 1), .slice A1 t.labs.length c1, .slice A2 t.taints.length c2, .bool ((K + 1 + 1 + 1 + 1 + 1 + 2 * t.labs.length + t.taints.length) % 3 == 0)], ys, ba ++ (blk (.slice A1 t.labs.length c1) ++ blk (.slice A2 t.taints.length c2)), b2, by omega, by go_num, ?_, ?_, ?_, hel6, by rw [hbe]; simp, HTN.out.trans (hT6.mono (fun b hb => ?_))⟩
        · rw [take_at ht, sumNode_snoc]
          have := HKK.out
          unfold szNode
          congr 1; omega
        · rw [List.append_assoc]; exact hO6
        · rw [take_at ht, mNodes_snoc, HKK.out]
          exact hea6.snoc ⟨_, _, rfl, by simpa [mNode, mLabs_len, LabO] using hL6, by simpa [mNode, mInts_len, IntO] using hI6, rfl, by simpa [mNode, mLabs_len] using m1, by simpa [mNode, mInts_len] using m2⟩
        · rw [hbe]
          rcases List.mem_cons.1 hb with rfl | hb
          · simp [blk, Value.ownBlock]
          · exact List.mem_append_right _ (List.mem_append_right _ (List.mem_append_left _ hb))
      case measure => simp [intOf]; omega
    · obtain rfl : i = l.length := by omega
      have HX := Lib.hid (And.intro hown (And.intro hea (And.intro heb htn)))
      have HBE := Lib.hid hbe
      clear hown hea heb htn hbe
      rw [List.take_length] at hs0 hs1 ⊢
      go_wp2_with fail
      go_ret
      obtain ⟨hown, hea, heb, htn⟩ := HX.out
      rw [List.drop_length] at heb
      obtain ⟨rfl, rfl⟩ := heb
      rw [List.append_nil] at hown
      have hbe := HBE.out
      rw [List.append_nil] at hbe
      subst hbe
      rw [List.take_length] at hea
      exact ⟨rfl, ⟨xa, b, by rw [mNodes_len]; exact hown, hea, rfl⟩, htn⟩
end Go.Proofs.YtocfgejceoenmaaGreatDoor

namespace Go.Proofs.YtocfgejceoenmaaGreatDoor
open Go.RowKit

theorem neq_self (K : Int) : (K != K) = false := by simp
theorem neq_selfB (b : Bool) : (b != b) = false := by simp
set_option maxRecDepth 20000 in
set_option maxHeartbeats 6400000 in
theorem heldTaskS_any (v : Value) (l : List TV) (k : Int) (w : World) (h : TaskSl w v (mTasks k l)) (hall : allTask l) (hl : l.length ≤ 1100000) (h0 : 0 ≤ k) (hk : k ≤ 576460752303423488) :
    Calls Tryz.prog 70 #[v, .int .i64 k] w fun e w' => e = .returned (.int .i64 (k + sumTask l)) ∧ w = w' := by
  obtain ⟨A, c, rfl, hA⟩ := h.form
  rw [mTasks_len] at hA ⊢
  have HA := Lib.hid hA
  have HALL := Lib.hid hall
  clear hA h hall
  go_enter Tryz.func70, Tryz.ntmps70
  go_wp2_with fail
  go_loop [1, 5] (fun s1 s5 => ∃ i : Nat, i ≤ l.length ∧ s5 = .int .i64 i ∧ s1 = .int .i64 (k + sumTask (l.take i))) (fun _ s5 => (l.length - intOf s5).toNat)
  case atStart => exact ⟨0, by omega, rfl, by simp [sumTask]⟩
  case round =>
    obtain ⟨i, hi, rfl, rfl⟩ := hrel
    obtain ⟨hs0, hs1⟩ := sumTask_take HALL.out i hl
    by_cases hlt : i < l.length
    · obtain ⟨b, off, rfl, hbw, hat⟩ := HA.out (by omega)
      obtain ⟨t, ht⟩ : ∃ t, l[i]? = some t := ⟨_, List.getElem?_eq_getElem hlt⟩
      obtain ⟨cs, hR, hC⟩ := hat i _ (mTasks_at k ht)
      obtain ⟨m1, m2⟩ := HALL.out t (List.mem_of_getElem? ht)
      generalize hK : k + sumTask (l.take i) = K at hR ⊢
      obtain ⟨v1, v2, rfl, h1, h2, -, -⟩ := hR
      have e1 : (mTask K t).want = mLabs (K + 1 + 1 + 1 + 1 + 1) t.want.length := rfl
      have e2 : (mTask K t).tols = mInts (K + 1 + 1 + 1 + 1 + 1 + 2 * t.want.length) t.tols.length := rfl
      rw [e1] at h1
      rw [e2] at h2
      have hL := heldLabS_any v1 t.want.length (K + 1 + 1 + 1 + 1 + 1) w h1 m1 (by omega) (by omega)
      have hI := heldIntS_any v2 t.tols.length (K + 1 + 1 + 1 + 1 + 1 + 2 * t.want.length) w h2 m2 (by omega) (by omega)
      obtain ⟨A1, c1, rfl, _⟩ := h1.form
      obtain ⟨A2, c2, rfl, _⟩ := h2.form
      rw [mLabs_len] at hL hC
      rw [mInts_len] at hI hC
      obtain ⟨q0, q1, q2, q3, q4, q5, q6⟩ := task_cells hC
      simp only [mTask] at q0 q1 q2 q3 q4 
      have HL := Lib.hid hL
      have HI := Lib.hid hI
      have HKK := Lib.hid hK
      have HT := Lib.hid ht
      have hK0 : 0 ≤ K := by omega
      have hK1 : K ≤ 576464272303423488 := by omega
      have n0 := neq_self K
      have n1 := neq_self (K + 1)
      have n2 := neq_self (K + 1 + 1)
      have n3 := neq_self (K + 1 + 1 + 1)
      have n4 := neq_self (K + 1 + 1 + 1 + 1)
      have p1 : decide (K + 1 + 1 + 1 + 1 + 1 + 2 * (t.want.length : Int) < 0) = false := by simp; omega
      have p2 : decide (K + 1 + 1 + 1 + 1 + 1 + 2 * (t.want.length : Int) + (t.tols.length : Int) < 0) = false := by simp; omega
      
      have hlti : (i : Int) < (l.length : Int) := by omega
      clear hat hC h1 h2 hL hI e1 e2 hK ht hs0 hs1
      go_wp2_with fail
      refine HL.out.mono ?_
      rintro e w2 ⟨rfl, rfl⟩
      go_wp2_with fail
      refine HI.out.mono ?_
      rintro e w3 ⟨rfl, rfl⟩
      go_wp2_with fail
      go_round
      case rel =>
        refine ⟨i + 1, by omega, by go_num, ?_⟩
        rw [take_at HT.out, sumTask_snoc]
        have := HKK.out
        unfold szTask
        congr 1; omega
      case measure => simp [intOf]; omega
    · obtain rfl : i = l.length := by omega
      rw [List.take_length] at hs0 hs1 ⊢
      go_wp2_with fail
      go_ret
      exact ⟨rfl, rfl⟩
set_option maxRecDepth 20000 in
set_option maxHeartbeats 6400000 in
theorem heldNodeS_any (v : Value) (l : List NV) (k : Int) (w : World) (h : NodeSl w v (mNodes k l)) (hall : allNode l) (hl : l.length ≤ 1100000) (h0 : 0 ≤ k) (hk : k ≤ 576460752303423488) :
    Calls Tryz.prog 71 #[v, .int .i64 k] w fun e w' => e = .returned (.int .i64 (k + sumNode l)) ∧ w = w' := by
  obtain ⟨A, c, rfl, hA⟩ := h.form
  rw [mNodes_len] at hA ⊢
  have HA := Lib.hid hA
  have HALL := Lib.hid hall
  clear hA h hall
  go_enter Tryz.func71, Tryz.ntmps71
  go_wp2_with fail
  go_loop [1, 5] (fun s1 s5 => ∃ i : Nat, i ≤ l.length ∧ s5 = .int .i64 i ∧ s1 = .int .i64 (k + sumNode (l.take i))) (fun _ s5 => (l.length - intOf s5).toNat)
  case atStart => exact ⟨0, by omega, rfl, by simp [sumNode]⟩
  case round =>
    obtain ⟨i, hi, rfl, rfl⟩ := hrel
    obtain ⟨hs0, hs1⟩ := sumNode_take HALL.out i hl
    by_cases hlt : i < l.length
    · obtain ⟨b, off, rfl, hbw, hat⟩ := HA.out (by omega)
      obtain ⟨t, ht⟩ : ∃ t, l[i]? = some t := ⟨_, List.getElem?_eq_getElem hlt⟩
      obtain ⟨cs, hR, hC⟩ := hat i _ (mNodes_at k ht)
      obtain ⟨m1, m2⟩ := HALL.out t (List.mem_of_getElem? ht)
      generalize hK : k + sumNode (l.take i) = K at hR ⊢
      obtain ⟨v1, v2, rfl, h1, h2, -, -⟩ := hR
      have e1 : (mNode K t).labs = mLabs (K + 1 + 1 + 1 + 1 + 1) t.labs.length := rfl
      have e2 : (mNode K t).taints = mInts (K + 1 + 1 + 1 + 1 + 1 + 2 * t.labs.length) t.taints.length := rfl
      rw [e1] at h1
      rw [e2] at h2
      have hL := heldLabS_any v1 t.labs.length (K + 1 + 1 + 1 + 1 + 1) w h1 m1 (by omega) (by omega)
      have hI := heldIntS_any v2 t.taints.length (K + 1 + 1 + 1 + 1 + 1 + 2 * t.labs.length) w h2 m2 (by omega) (by omega)
      obtain ⟨A1, c1, rfl, _⟩ := h1.form
      obtain ⟨A2, c2, rfl, _⟩ := h2.form
      rw [mLabs_len] at hL hC
      rw [mInts_len] at hI hC
      obtain ⟨q0, q1, q2, q3, q4, q5, q6, q7⟩ := node_cells hC
      simp only [mNode] at q0 q1 q2 q3 q4 q7
      have HL := Lib.hid hL
      have HI := Lib.hid hI
      have HKK := Lib.hid hK
      have HT := Lib.hid ht
      have hK0 : 0 ≤ K := by omega
      have hK1 : K ≤ 576464272303423488 := by omega
      have n0 := neq_self K
      have n1 := neq_self (K + 1)
      have n2 := neq_self (K + 1 + 1)
      have n3 := neq_self (K + 1 + 1 + 1)
      have n4 := neq_self (K + 1 + 1 + 1 + 1)
      have p1 : decide (K + 1 + 1 + 1 + 1 + 1 + 2 * (t.labs.length : Int) < 0) = false := by simp; omega
      have p2 : decide (K + 1 + 1 + 1 + 1 + 1 + 2 * (t.labs.length : Int) + (t.taints.length : Int) < 0) = false := by simp; omega
      have n7 := neq_selfB ((K + 1 + 1 + 1 + 1 + 1 + 2 * (t.labs.length : Int) + (t.taints.length : Int)) % 3 == 0)
      have hlti : (i : Int) < (l.length : Int) := by omega
      clear hat hC h1 h2 hL hI e1 e2 hK ht hs0 hs1
      go_wp2_with fail
      refine HL.out.mono ?_
      rintro e w2 ⟨rfl, rfl⟩
      go_wp2_with fail
      refine HI.out.mono ?_
      rintro e w3 ⟨rfl, rfl⟩
      go_wp2_with fail
      go_round
      case rel =>
        refine ⟨i + 1, by omega, by go_num, ?_⟩
        rw [take_at HT.out, sumNode_snoc]
        have := HKK.out
        unfold szNode
        congr 1; omega
      case measure => simp [intOf]; omega
    · obtain rfl : i = l.length := by omega
      rw [List.take_length] at hs0 hs1 ⊢
      go_wp2_with fail
      go_ret
      exact ⟨rfl, rfl⟩
end Go.Proofs.YtocfgejceoenmaaGreatDoor

namespace Go.Proofs.YtocfgejceoenmaaGreatDoor
open Go.RowKit

theorem nd3 {a b c : List Nat} (h : (a ++ (b ++ c)).Nodup) : a.Nodup ∧ b.Nodup ∧ c.Nodup ∧ (∀ x ∈ a, x ∉ b ∧ x ∉ c) ∧ (∀ x ∈ b, x ∉ a ∧ x ∉ c) ∧ (∀ x ∈ c, x ∉ a ∧ x ∉ b) := by
  simp only [List.nodup_append, List.mem_append] at h
  obtain ⟨ha, ⟨hb, hc, hbc⟩, hd⟩ := h
  exact ⟨ha, hb, hc, fun x hx => ⟨fun h => hd x hx x (.inl h) rfl, fun h => hd x hx x (.inr h) rfl⟩, fun x hx => ⟨fun h => hd x h x (.inl hx) rfl, fun h => hbc x hx x h rfl⟩, fun x hx => ⟨fun h => hd x h x (.inr hx) rfl, fun h => hbc x h x hx rfl⟩⟩
theorem CluO.all {w : World} {c : CV} {a0 a1 a2 : Value} {bs : List Nat} (h : CluO w c a0 a1 a2 bs) : allTask c.tasks ∧ allNode c.nodes ∧ c.tasks.length ≤ 1048576 ∧ c.nodes.length ≤ 1048576 ∧ c.binds.length ≤ 1048576 := by
  obtain ⟨b0, b1, b2, ⟨_, _, _, h0, _⟩, ⟨_, _, _, h1, _⟩, _, _, _, l⟩ := h
  exact ⟨elems_allTask h0, elems_allNode h1, l⟩
theorem CluO.lt {w : World} {c : CV} {a0 a1 a2 : Value} {bs : List Nat} (h : CluO w c a0 a1 a2 bs) : ∀ b ∈ bs, b < w.heap.size := by
  obtain ⟨b0, b1, b2, h0, h1, h2, rfl, _⟩ := h
  intro b hb
  rcases List.mem_append.1 hb with hb | hb
  · exact rowO_lt (fun _ _ _ h => h.lt) h0 b hb
  · rcases List.mem_append.1 hb with hb | hb
    · exact rowO_lt (fun _ _ _ h => h.lt) h1 b hb
    · exact rowO_lt (fun _ _ _ h => h.lt) h2 b hb
theorem rowO_form {α : Type} {R : World → α → List Value → List Nat → Prop} {ty : TypeId} {n : Nat} {w : World} {v : Value} {l : List α} {bs : List Nat} (h : RowO R ty n w v l bs) : ∃ A c, v = .slice A l.length c := by
  obtain ⟨xs, b, h1, _⟩ := h
  obtain ⟨A, c, e, _⟩ := own_form h1
  exact ⟨A, c, e⟩
theorem rowO_blk {α : Type} {R : World → α → List Value → List Nat → Prop} {ty : TypeId} {n : Nat} {w : World} {v : Value} {l : List α} {bs : List Nat} (h : RowO R ty n w v l bs) : ∀ b ∈ blk v, b ∈ bs := by
  obtain ⟨xs, b, _, _, rfl⟩ := h
  exact fun b hb => List.mem_append_left _ hb

theorem szClu_eq (c : CV) (k : Int) : k + szClu c = k + sumTask c.tasks + sumNode c.nodes + 2 * (c.binds.length : Int) := by unfold szClu; omega
set_option maxHeartbeats 3200000 in
theorem markCluster_any (c : CV) (a0 a1 a2 : Value) (bs : List Nat) (k : Int) (w : World) (h : CluO w c a0 a1 a2 bs) (h0 : 0 ≤ k) (hk : k ≤ 1000) :
    Calls Tryz.prog 19 #[.agg #[a0, a1, a2], .int .i64 k] w fun e w' => e = .returned (.int .i64 (k + szClu c)) ∧ CluO w' (mClu c k) a0 a1 a2 bs ∧ TurnB bs w w' := by
  obtain ⟨hT, hN, l0, l1, l2⟩ := h.all
  have hlt := h.lt
  obtain ⟨b0, b1, b2, r0, r1, r2, rfl, hnd, -⟩ := h
  obtain ⟨D0, e0, rfl⟩ := rowO_form r0
  obtain ⟨D1, e1, rfl⟩ := rowO_form r1
  obtain ⟨D2, e2, rfl⟩ := rowO_form r2
  obtain ⟨n0, n1, n2, d0, d1, d2⟩ := nd3 hnd
  have s0 := sumTask_take hT c.tasks.length (by omega)
  have s1 := sumNode_take hN c.nodes.length (by omega)
  rw [List.take_length] at s0 s1
  obtain ⟨s00, s01⟩ := s0
  obtain ⟨s10, s11⟩ := s1
  have hX : Below w.heap.size w (w.alloc (.cells #[.slice D0 c.tasks.length e0, .slice D1 c.nodes.length e1, .slice D2 c.binds.length e2] 39)) := (by repeat' (first | exact Below.refl _ _ | refine Below.alloc ?_ ?_ _ | refine Below.setCell ?_ ?_ _ | refine Below.drew ?_ | (apply below_step; assumption) | (simp; done) | (simp; omega) | omega))
  have H0 := Lib.hid (r0.agree TaskO.framed (Agree.of_below hX (fun b hb => hlt b (by simp [hb]))))
  have H1 := Lib.hid (r1.agree NodeO.framed (Agree.of_below hX (fun b hb => hlt b (by simp [hb]))))
  have H2 := Lib.hid (r2.agree BindO.framed (Agree.of_below hX (fun b hb => hlt b (by simp [hb]))))
  have HD := Lib.hid (And.intro hnd (And.intro hlt (And.intro d0 (And.intro d1 d2))))
  have BX := Lib.hid (BlockIs.new w 39 #[.slice D0 c.tasks.length e0, .slice D1 c.nodes.length e1, .slice D2 c.binds.length e2])
  clear r0 r1 r2 hnd hlt d0 d1 d2 hT hN
  go_enter Tryz.func19, Tryz.ntmps19
  go_wp2_with fail
  refine (markTaskS_any _ c.tasks b0 k _ H0.out n0 (by omega) h0 (by omega)).mono ?_
  rintro e w1 ⟨rfl, hr1, ht1⟩
  obtain ⟨hnd, hlt, d0, d1, d2⟩ := HD.out
  have BC := BX.out.turn ht1 (fun hx => by have := hlt _ (List.mem_append_left _ hx); omega)
  have H11 := H1.out.agree NodeO.framed (ht1.agree (fun b hb => ⟨rowO_lt (fun _ _ _ h => h.lt) H1.out b hb, (d1 b hb).1⟩))
  have H21 := H2.out.agree BindO.framed (ht1.agree (fun b hb => ⟨rowO_lt (fun _ _ _ h => h.lt) H2.out b hb, (d2 b hb).1⟩))
  have g1 := BC.cell 1
  have g2 := BC.cell 2
  have cl := BC.lt
  simp at g1 g2
  have HR1 := Lib.hid hr1
  have HT1 := Lib.hid ht1
  have HH11 := Lib.hid H11
  have HH21 := Lib.hid H21
  have HBC := Lib.hid BC
  clear hnd hlt d0 d1 d2 BC hr1 ht1 H11 H21
  go_wp2_with fail
  refine (markNodeS_any _ c.nodes b1 _ _ HH11.out n1 (by omega) (by omega) (by omega)).mono ?_
  rintro e w2 ⟨rfl, hr2, ht2⟩
  obtain ⟨hnd, hlt, d0, d1, d2⟩ := HD.out
  have BC := HBC.out.turn ht2 (fun hx => by have := hlt _ (List.mem_append_right _ (List.mem_append_left _ hx)); omega)
  have R12 := HR1.out.agree TaskO.framed (ht2.agree (fun b hb => ⟨rowO_lt (fun _ _ _ h => h.lt) HR1.out b hb, (d0 b hb).1⟩))
  have H22 := HH21.out.agree BindO.framed (ht2.agree (fun b hb => ⟨rowO_lt (fun _ _ _ h => h.lt) HH21.out b hb, (d2 b hb).2⟩))
  have g2 := BC.cell 2
  have cl := BC.lt
  simp at g2
  have HR12 := Lib.hid R12
  have HR2 := Lib.hid hr2
  have HT2 := Lib.hid ht2
  have HH22 := Lib.hid H22
  clear hnd hlt d0 d1 d2 BC hr2 ht2 H22 R12 g1 HBC
  go_wp2_with fail
  refine (markBindS_any _ c.binds b2 _ _ HH22.out (by omega) (by omega) (by omega)).mono ?_
  rintro e w3 ⟨rfl, hr3, hg3⟩
  have ht3 : TurnB b2 w2 w3 := TurnB.of_grown hg3 (fun k e => rowO_blk HH22.out k (blk_mem e))
  have HR3 := Lib.hid hr3
  have HT3 := Lib.hid ht3
  clear hr3 ht3 hg3 g2
  go_wp2_with fail
  go_ret
  obtain ⟨hnd, hlt, d0, d1, d2⟩ := HD.out
  refine ⟨by rw [szClu_eq]; rfl, ⟨b0, b1, b2, ?_, ?_, HR3.out, rfl, hnd, ?_⟩, ?_⟩
  · exact HR12.out.agree TaskO.framed (HT3.out.agree (fun b hb => ⟨rowO_lt (fun _ _ _ h => h.lt) HR12.out b hb, (d0 b hb).2⟩))
  · exact HR2.out.agree NodeO.framed (HT3.out.agree (fun b hb => ⟨rowO_lt (fun _ _ _ h => h.lt) HR2.out b hb, (d1 b hb).2⟩))
  · exact ⟨by simp only [mClu, mTasks_len]; exact l0, by simp only [mClu, mNodes_len]; exact l1, by simp only [mClu, mBinds_len]; exact l2⟩
  · exact (((TurnB.of_below hX).trans (HT1.out.mono (fun b hb => by simp [hb]))).trans (HT2.out.mono (fun b hb => by simp [hb]))).trans (HT3.out.mono (fun b hb => by simp [hb]))

set_option maxHeartbeats 3200000 in
theorem heldCluster_any (c : CV) (a0 a1 a2 : Value) (k : Int) (w : World) (h : CluR w (mClu c k) a0 a1 a2) (hT : allTask c.tasks) (hN : allNode c.nodes) (l0 : c.tasks.length ≤ 1048576) (l1 : c.nodes.length ≤ 1048576) (l2 : c.binds.length ≤ 1048576) (h0 : 0 ≤ k) (hk : k ≤ 1000) :
    Calls Tryz.prog 21 #[.agg #[a0, a1, a2], .int .i64 k] w fun e w' => e = .returned (.int .i64 (k + szClu c)) ∧ Below w.heap.size w w' := by
  have s0 := sumTask_take hT c.tasks.length (by omega)
  have s1 := sumNode_take hN c.nodes.length (by omega)
  rw [List.take_length] at s0 s1
  obtain ⟨s00, s01⟩ := s0
  obtain ⟨s10, s11⟩ := s1
  have HC := Lib.hid h
  obtain ⟨D0, e0, rfl, _⟩ := h.1.form
  obtain ⟨D1, e1, rfl, _⟩ := h.2.1.form
  obtain ⟨D2, e2, rfl, _⟩ := h.2.2.1.form
  have hX : Below w.heap.size w (w.alloc (.cells #[.slice D0 (mClu c k).tasks.length e0, .slice D1 (mClu c k).nodes.length e1, .slice D2 (mClu c k).binds.length e2] 39)) := (by repeat' (first | exact Below.refl _ _ | refine Below.alloc ?_ ?_ _ | refine Below.setCell ?_ ?_ _ | refine Below.drew ?_ | (apply below_step; assumption) | (simp; done) | (simp; omega) | omega))
  have HT := Lib.hid (fun w1 (hb : Below w.heap.size w w1) => heldTaskS_any _ c.tasks k w1 (HC.out.below hb).1 hT (by omega) h0 (by omega))
  have HN := Lib.hid (fun w1 (hb : Below w.heap.size w w1) => heldNodeS_any _ c.nodes (k + sumTask c.tasks) w1 (HC.out.below hb).2.1 hN (by omega) (by omega) (by omega))
  have HB := Lib.hid (fun w1 (hb : Below w.heap.size w w1) => heldBindS_any _ c.binds.length (k + sumTask c.tasks + sumNode c.nodes) w1 (HC.out.below hb).2.2.1 (by omega) (by omega) (by omega))
  have p1 : decide (k + sumTask c.tasks < 0) = false := by simp; omega
  have p2 : decide (k + sumTask c.tasks + sumNode c.nodes < 0) = false := by simp; omega
  have p3 : decide (k + sumTask c.tasks + sumNode c.nodes + 2 * (c.binds.length : Int) < 0) = false := by simp; omega
  clear h hT hN
  go_enter Tryz.func21, Tryz.ntmps21
  go_wp2_with fail
  refine (HT.out _ hX).mono ?_
  rintro e w1 ⟨rfl, rfl⟩
  go_wp2_with fail
  refine (HN.out _ hX).mono ?_
  rintro e w2 ⟨rfl, rfl⟩
  go_wp2_with fail
  refine (HB.out _ hX).mono ?_
  rintro e w3 ⟨rfl, rfl⟩
  go_wp2_with fail
  go_ret
  exact ⟨by rw [szClu_eq]; rfl, hX⟩
end Go.Proofs.YtocfgejceoenmaaGreatDoor

namespace Go.Proofs.YtocfgejceoenmaaGreatDoor
open Go.RowKit

theorem labO_of {w : World} {g : Nat} {l : List LV} (h : BlockIs w g 120 (labL l).toArray) (hl : l.length ≤ 1048576) : LabO w (.slice (some ⟨g, 0, none⟩) l.length l.length) l :=
  ⟨labL_len l, .inr ⟨g, l.length, _, rfl, Nat.zero_le _, h, Nat.le_refl _, by simp only [maxLen]; omega, by simp [labL_len], by rw [← labL_len]; simp⟩⟩
theorem intO_of {w : World} {g : Nat} {l : List Int} (h : BlockIs w g 3 (intL l).toArray) (hl : l.length ≤ 1048576) : IntO w (.slice (some ⟨g, 0, none⟩) l.length l.length) l :=
  ⟨by simp [intL], .inr ⟨g, l.length, _, rfl, Nat.zero_le _, h, Nat.le_refl _, by simp only [maxLen]; omega, by simp [intL], by rw [show l.length * 1 = (intL l).length by simp [intL]]; simp⟩⟩
def NewIntO (w : World) (l : List Int) (e : Ending) (w' : World) : Prop := ∃ g, e = .returned (.slice (some ⟨g, 0, none⟩) l.length l.length) ∧ w.heap.size ≤ g ∧ g < w'.heap.size ∧ BlockIs w' g 3 (intL l).toArray ∧ Below w.heap.size w w'
theorem CopyInt.doneO {w wr : World} {g : Nat} {l : List Int} (h : CopyInt w g l l.length wr) : BlockIs wr g 3 (intL l).toArray := by
  obtain ⟨cs, hb, hs, hc, _⟩ := h
  have : cs = (intL l).toArray := by
    apply Array.ext_getElem?
    intro i
    rcases Nat.lt_or_ge i l.length with hi | hi
    · rw [hc i _ hi (List.getElem?_eq_getElem hi)]; simp [intL, hi]
    · rw [Array.getElem?_eq_none (by omega)]; simp [intL, hi]
  rw [← this]; exact hb
set_option maxHeartbeats 1600000 in
theorem toIntS_o (v : Value) (l : List Int) (w : World) (hv : IntSl w v l) (hlen : l.length ≤ 1048576) :
    Calls Tryz.prog 56 #[v] w (NewIntO w l) := by
  obtain ⟨A, c, rfl, hA⟩ := hv.form
  have HA := Lib.hid hA
  clear hA hv
  have hmk := make_int l.length hlen
  go_enter Tryz.func56, Tryz.ntmps56
  go_wp2_with fail
  go_loopw [4] (fun s4 wr => ∃ k : Nat, k ≤ l.length ∧ s4 = .int .i64 k ∧ CopyInt w w.heap.size l k wr) (fun s4 _ => (l.length - intOf s4).toNat)
  case atStart =>
    exact ⟨0, by omega, rfl, _, BlockIs.new _ _ _, by simpa using size_madeCells _ _, fun i r hi => absurd hi (by omega), (by repeat' (first | exact Below.refl _ _ | refine Below.alloc ?_ ?_ _ | refine Below.setCell ?_ ?_ _ | refine Below.drew ?_ | (apply below_step; assumption) | (simp; done) | (simp; omega) | omega))⟩
  case round =>
    obtain ⟨k, hk, rfl, HC⟩ := hrel
    by_cases hlt : k < l.length
    · obtain ⟨b, off, rfl, hbw, hat⟩ := HA.out (by omega)
      obtain ⟨r, hr⟩ : ∃ r, l[k]? = some r := ⟨_, List.getElem?_eq_getElem hlt⟩
      obtain ⟨cs, hblk, hs, hc, hB⟩ := HC
      have q0 := (hat.below hB hbw) k r hr
      have hzr := hB.size
      have hgl := hblk.lt
      have HR := Lib.hid hr
      have HCC := Lib.hid hc
      have HBL := Lib.hid hblk
      have HSZ := Lib.hid hs
      have u0 : wr.cell? ⟨w.heap.size, k, none⟩ = some (cs[k]'(by omega)) := by rw [hblk.cell]; exact Array.getElem?_eq_getElem (by omega)
      generalize cs[k]'(by omega) = x0 at u0
      have uf := hblk.frozen
      clear hat hr hc hblk hs
      go_wp2_with fail
      go_roundw
      case rel =>
        refine ⟨k + 1, by omega, by go_num, CopyInt.put HSZ.out HR.out HCC.out ?_ (by repeat' (first | exact Below.refl _ _ | refine Below.alloc ?_ ?_ _ | refine Below.setCell ?_ ?_ _ | refine Below.drew ?_ | (apply below_step; assumption) | (simp; done) | (simp; omega) | omega))⟩
        exact HBL.out.put _ _
      case measure => simp [intOf]; omega
    · have hkl : k = l.length := by omega
      subst hkl
      have HD := Lib.hid HC.doneO
      obtain ⟨cs, hblk, hs, hc, hB⟩ := HC
      have hgl := hblk.lt
      clear hblk hs hc
      go_wp2_with fail
      go_ret
      exact ⟨w.heap.size, rfl, Nat.le_refl _, hgl, HD.out, hB⟩

/-- The ending 'a task of its own that reads as t'. -/
def NewTaskO (w : World) (t : TV) (e : Ending) (w' : World) : Prop := ∃ g1 g2, e = .returned (.agg #[.int .i64 t.id, .int .i64 t.prio, .int .i64 t.need.c, .int .i64 t.need.m, .int .i64 t.need.p, .slice (some ⟨g1, 0, none⟩) t.want.length t.want.length, .slice (some ⟨g2, 0, none⟩) t.tols.length t.tols.length]) ∧
  w.heap.size ≤ g1 ∧ w.heap.size ≤ g2 ∧ g2 < w'.heap.size ∧ BlockIs w' g1 120 (labL t.want).toArray ∧ BlockIs w' g2 3 (intL t.tols).toArray ∧ Below w.heap.size w w'
set_option maxHeartbeats 1600000 in
theorem toTask_o (t : TV) (v1 v2 : Value) (w : World) (h1 : LabSl w v1 t.want) (h2 : IntSl w v2 t.tols) (l1 : t.want.length ≤ 1048576) (l2 : t.tols.length ≤ 1048576) :
    Calls Tryz.prog 15 #[.agg #[.int .i64 t.id, .int .i64 t.prio, .int .i64 t.need.c, .int .i64 t.need.m, .int .i64 t.need.p, v1, v2]] w (NewTaskO w t) := by
  have H1 := Lib.hid h1
  have H2 := Lib.hid h2
  have L1 := Lib.hid l1
  have L2 := Lib.hid l2
  clear h1 h2 l1 l2
  go_enter Tryz.func15, Tryz.ntmps15
  go_wp2_with fail
  refine (toRes_any t.need _).mono ?_
  rintro e w1 ⟨rfl, hb1⟩
  have hz1 := hb1.size
  simp at hz1
  have B0 : BlockIs w1 w.heap.size 32 #[.int .i64 t.id, .int .i64 t.prio, .int .i64 t.need.c, .int .i64 t.need.m, .int .i64 t.need.p, v1, v2] := (((BlockIs.new w _ _).alloc _).alloc _).below hb1 (by simp; omega)
  have B1 : BlockIs w1 (w.heap.size + 1) 46 #[.int .i64 0, .int .i64 0, .int .i64 0, .int .i64 0, .int .i64 0, .slice none 0 0, .slice none 0 0] := (BlockIs.alloc (BlockIs.new' (by simp)) _).below hb1 (by simp)
  have B2 : BlockIs w1 (w.heap.size + 1 + 1) 46 #[.int .i64 t.id, .int .i64 t.prio, .int .i64 0, .int .i64 0, .int .i64 0, .slice none 0 0, .slice none 0 0] := (BlockIs.new' (by simp)).below hb1 (by simp)
  have hC1 : Below w.heap.size w w1 := (by repeat' (first | exact Below.refl _ _ | refine Below.alloc ?_ ?_ _ | refine Below.setCell ?_ ?_ _ | refine Below.drew ?_ | (apply below_step; assumption) | (simp; done) | (simp; omega) | omega))
  have c5 := B0.cell 5
  have c2 := B2.cell 2
  have c3 := B2.cell 3
  have c4 := B2.cell 4
  have f2 := B2.frozen
  simp at c5 c2 c3 c4
  have HB0 := Lib.hid B0
  have HB1 := Lib.hid B1
  have HB2 := Lib.hid B2
  clear B0 B1 B2 hb1
  go_wp2_with fail
  have hC2 : Below w.heap.size w (((w1.setCell ⟨w.heap.size + 1 + 1, 2, none⟩ (.int .i64 t.need.c)).setCell ⟨w.heap.size + 1 + 1, 2 + 1, none⟩ (.int .i64 t.need.m)).setCell ⟨w.heap.size + 1 + 1, 2 + 2, none⟩ (.int .i64 t.need.p)) := (by repeat' (first | exact Below.refl _ _ | refine Below.alloc ?_ ?_ _ | refine Below.setCell ?_ ?_ _ | refine Below.drew ?_ | (apply below_step; assumption) | (simp; done) | (simp; omega) | omega))
  have A0 : BlockIs (((w1.setCell ⟨w.heap.size + 1 + 1, 2, none⟩ (.int .i64 t.need.c)).setCell ⟨w.heap.size + 1 + 1, 2 + 1, none⟩ (.int .i64 t.need.m)).setCell ⟨w.heap.size + 1 + 1, 2 + 2, none⟩ (.int .i64 t.need.p)) w.heap.size 32 #[.int .i64 t.id, .int .i64 t.prio, .int .i64 t.need.c, .int .i64 t.need.m, .int .i64 t.need.p, v1, v2] := ((HB0.out.far (by dsimp only; omega) _).far (by dsimp only; omega) _).far (by dsimp only; omega) _
  have A1 : BlockIs (((w1.setCell ⟨w.heap.size + 1 + 1, 2, none⟩ (.int .i64 t.need.c)).setCell ⟨w.heap.size + 1 + 1, 2 + 1, none⟩ (.int .i64 t.need.m)).setCell ⟨w.heap.size + 1 + 1, 2 + 2, none⟩ (.int .i64 t.need.p)) (w.heap.size + 1) 46 #[.int .i64 0, .int .i64 0, .int .i64 0, .int .i64 0, .int .i64 0, .slice none 0 0, .slice none 0 0] := ((HB1.out.far (by dsimp only; omega) _).far (by dsimp only; omega) _).far (by dsimp only; omega) _
  have A2 : BlockIs (((w1.setCell ⟨w.heap.size + 1 + 1, 2, none⟩ (.int .i64 t.need.c)).setCell ⟨w.heap.size + 1 + 1, 2 + 1, none⟩ (.int .i64 t.need.m)).setCell ⟨w.heap.size + 1 + 1, 2 + 2, none⟩ (.int .i64 t.need.p)) (w.heap.size + 1 + 1) 46 #[.int .i64 t.id, .int .i64 t.prio, .int .i64 t.need.c, .int .i64 t.need.m, .int .i64 t.need.p, .slice none 0 0, .slice none 0 0] := by simpa using ((HB2.out.put 2 _).put 3 _).put 4 _
  generalize (((w1.setCell ⟨w.heap.size + 1 + 1, 2, none⟩ (.int .i64 t.need.c)).setCell ⟨w.heap.size + 1 + 1, 2 + 1, none⟩ (.int .i64 t.need.m)).setCell ⟨w.heap.size + 1 + 1, 2 + 2, none⟩ (.int .i64 t.need.p)) = X2 at hC2 A0 A1 A2 ⊢
  clear HB0 HB1 HB2 hC1 hz1 c5 c2 c3 c4 f2
  refine (toLabS_any v1 t.want _ (H1.out.below hC2) L1.out).mono ?_
  rintro e w3 ⟨g1, rfl, hg1, hblk1, hb3⟩
  have l2 := A2.lt
  have hz3 := hb3.size
  have hC3 : Below w.heap.size w w3 := hC2.trans (hb3.mono hC2.size)
  have B0 := A0.below hb3 A0.lt
  have B1 := A1.below hb3 A1.lt
  have B2 := A2.below hb3 A2.lt
  have c6 := B0.cell 6
  have c5 := B2.cell 5
  have f2 := B2.frozen
  simp at c6 c5
  have HB1 := Lib.hid B1
  have HB2 := Lib.hid B2
  have HG1 := Lib.hid hblk1
  clear A0 A1 A2 B0 B1 B2 hblk1
  go_wp2_with fail
  have hC4 : Below w.heap.size w (w3.setCell ⟨w.heap.size + 1 + 1, 5, none⟩ (.slice (some ⟨g1, 0, none⟩) t.want.length t.want.length)) := (by repeat' (first | exact Below.refl _ _ | refine Below.alloc ?_ ?_ _ | refine Below.setCell ?_ ?_ _ | refine Below.drew ?_ | (apply below_step; assumption) | (simp; done) | (simp; omega) | omega))
  have A1 : BlockIs (w3.setCell ⟨w.heap.size + 1 + 1, 5, none⟩ (.slice (some ⟨g1, 0, none⟩) t.want.length t.want.length)) (w.heap.size + 1) 46 #[.int .i64 0, .int .i64 0, .int .i64 0, .int .i64 0, .int .i64 0, .slice none 0 0, .slice none 0 0] := HB1.out.far (by dsimp only; omega) _
  have A2 : BlockIs (w3.setCell ⟨w.heap.size + 1 + 1, 5, none⟩ (.slice (some ⟨g1, 0, none⟩) t.want.length t.want.length)) (w.heap.size + 1 + 1) 46 #[.int .i64 t.id, .int .i64 t.prio, .int .i64 t.need.c, .int .i64 t.need.m, .int .i64 t.need.p, .slice (some ⟨g1, 0, none⟩) t.want.length t.want.length, .slice none 0 0] := by simpa using HB2.out.put 5 _
  have AG : BlockIs (w3.setCell ⟨w.heap.size + 1 + 1, 5, none⟩ (.slice (some ⟨g1, 0, none⟩) t.want.length t.want.length)) g1 120 (labL t.want).toArray := HG1.out.far (by dsimp only; omega) _
  generalize (w3.setCell ⟨w.heap.size + 1 + 1, 5, none⟩ (.slice (some ⟨g1, 0, none⟩) t.want.length t.want.length)) = X4 at hC4 A1 A2 AG ⊢
  clear HB1 HB2 HG1 hC3 hz3 c5 c6 f2 hb3
  refine (toIntS_o v2 t.tols _ (H2.out.below hC4) L2.out).mono ?_
  rintro e w5 ⟨g2, rfl, hg2, hlt2, hat2, hb5⟩
  have l4 := A2.lt
  have hz5 := hb5.size
  have hC5 : Below w.heap.size w w5 := hC4.trans (hb5.mono hC4.size)
  have B1 := A1.below hb5 A1.lt
  have B2 := A2.below hb5 A2.lt
  have BG := AG.below hb5 AG.lt
  have c0 := B2.cell 0
  have c1 := B2.cell 1
  have c2 := B2.cell 2
  have c3 := B2.cell 3
  have c4 := B2.cell 4
  have c5 := B2.cell 5
  have c6 := B2.cell 6
  have f2 := B2.frozen
  have d0 := B1.cell 0
  have d1 := B1.cell 1
  have d2 := B1.cell 2
  have d3 := B1.cell 3
  have d4 := B1.cell 4
  have d5 := B1.cell 5
  have d6 := B1.cell 6
  have f1 := B1.frozen
  simp at c0 c1 c2 c3 c4 c5 c6 d0 d1 d2 d3 d4 d5 d6
  have HB1 := Lib.hid B1
  have HB2 := Lib.hid B2
  have HG1 := Lib.hid BG
  have HG2 := Lib.hid hat2
  clear A1 A2 AG B1 B2 BG hat2
  go_wp2_with fail
  have hZ : BlockIs ((((((((w5.setCell ⟨w.heap.size + 1 + 1, 6, none⟩ (.slice (some ⟨g2, 0, none⟩) t.tols.length t.tols.length)).setCell ⟨w.heap.size + 1, 0, none⟩ (.int .i64 t.id)).setCell ⟨w.heap.size + 1, 1, none⟩ (.int .i64 t.prio)).setCell ⟨w.heap.size + 1, 2, none⟩ (.int .i64 t.need.c)).setCell ⟨w.heap.size + 1, 3, none⟩ (.int .i64 t.need.m)).setCell ⟨w.heap.size + 1, 4, none⟩ (.int .i64 t.need.p)).setCell ⟨w.heap.size + 1, 5, none⟩ (.slice (some ⟨g1, 0, none⟩) t.want.length t.want.length)).setCell ⟨w.heap.size + 1, 6, none⟩ (.slice (some ⟨g2, 0, none⟩) t.tols.length t.tols.length)) (w.heap.size + 1) 46 #[.int .i64 t.id, .int .i64 t.prio, .int .i64 t.need.c, .int .i64 t.need.m, .int .i64 t.need.p, .slice (some ⟨g1, 0, none⟩) t.want.length t.want.length, .slice (some ⟨g2, 0, none⟩) t.tols.length t.tols.length] := put7 _ _ _ _ _ _ _ (HB1.out.far (by dsimp only; omega) _) rfl
  have hG : BlockIs ((((((((w5.setCell ⟨w.heap.size + 1 + 1, 6, none⟩ (.slice (some ⟨g2, 0, none⟩) t.tols.length t.tols.length)).setCell ⟨w.heap.size + 1, 0, none⟩ (.int .i64 t.id)).setCell ⟨w.heap.size + 1, 1, none⟩ (.int .i64 t.prio)).setCell ⟨w.heap.size + 1, 2, none⟩ (.int .i64 t.need.c)).setCell ⟨w.heap.size + 1, 3, none⟩ (.int .i64 t.need.m)).setCell ⟨w.heap.size + 1, 4, none⟩ (.int .i64 t.need.p)).setCell ⟨w.heap.size + 1, 5, none⟩ (.slice (some ⟨g1, 0, none⟩) t.want.length t.want.length)).setCell ⟨w.heap.size + 1, 6, none⟩ (.slice (some ⟨g2, 0, none⟩) t.tols.length t.tols.length)) g1 120 (labL t.want).toArray := far7 (HG1.out.far (by dsimp only; omega) _) (by omega)
  have hI : BlockIs ((((((((w5.setCell ⟨w.heap.size + 1 + 1, 6, none⟩ (.slice (some ⟨g2, 0, none⟩) t.tols.length t.tols.length)).setCell ⟨w.heap.size + 1, 0, none⟩ (.int .i64 t.id)).setCell ⟨w.heap.size + 1, 1, none⟩ (.int .i64 t.prio)).setCell ⟨w.heap.size + 1, 2, none⟩ (.int .i64 t.need.c)).setCell ⟨w.heap.size + 1, 3, none⟩ (.int .i64 t.need.m)).setCell ⟨w.heap.size + 1, 4, none⟩ (.int .i64 t.need.p)).setCell ⟨w.heap.size + 1, 5, none⟩ (.slice (some ⟨g1, 0, none⟩) t.want.length t.want.length)).setCell ⟨w.heap.size + 1, 6, none⟩ (.slice (some ⟨g2, 0, none⟩) t.tols.length t.tols.length)) g2 3 (intL t.tols).toArray := far7 (HG2.out.far (by dsimp only; omega) _) (by omega)
  have hB : Below w.heap.size w ((((((((w5.setCell ⟨w.heap.size + 1 + 1, 6, none⟩ (.slice (some ⟨g2, 0, none⟩) t.tols.length t.tols.length)).setCell ⟨w.heap.size + 1, 0, none⟩ (.int .i64 t.id)).setCell ⟨w.heap.size + 1, 1, none⟩ (.int .i64 t.prio)).setCell ⟨w.heap.size + 1, 2, none⟩ (.int .i64 t.need.c)).setCell ⟨w.heap.size + 1, 3, none⟩ (.int .i64 t.need.m)).setCell ⟨w.heap.size + 1, 4, none⟩ (.int .i64 t.need.p)).setCell ⟨w.heap.size + 1, 5, none⟩ (.slice (some ⟨g1, 0, none⟩) t.want.length t.want.length)).setCell ⟨w.heap.size + 1, 6, none⟩ (.slice (some ⟨g2, 0, none⟩) t.tols.length t.tols.length)) := below7 (hC5.setCell (by dsimp only; omega) _) (by omega)
  have hs : ((((((((w5.setCell ⟨w.heap.size + 1 + 1, 6, none⟩ (.slice (some ⟨g2, 0, none⟩) t.tols.length t.tols.length)).setCell ⟨w.heap.size + 1, 0, none⟩ (.int .i64 t.id)).setCell ⟨w.heap.size + 1, 1, none⟩ (.int .i64 t.prio)).setCell ⟨w.heap.size + 1, 2, none⟩ (.int .i64 t.need.c)).setCell ⟨w.heap.size + 1, 3, none⟩ (.int .i64 t.need.m)).setCell ⟨w.heap.size + 1, 4, none⟩ (.int .i64 t.need.p)).setCell ⟨w.heap.size + 1, 5, none⟩ (.slice (some ⟨g1, 0, none⟩) t.want.length t.want.length)).setCell ⟨w.heap.size + 1, 6, none⟩ (.slice (some ⟨g2, 0, none⟩) t.tols.length t.tols.length)).heap.size = w5.heap.size := by simp [World.setCell]
  generalize ((((((((w5.setCell ⟨w.heap.size + 1 + 1, 6, none⟩ (.slice (some ⟨g2, 0, none⟩) t.tols.length t.tols.length)).setCell ⟨w.heap.size + 1, 0, none⟩ (.int .i64 t.id)).setCell ⟨w.heap.size + 1, 1, none⟩ (.int .i64 t.prio)).setCell ⟨w.heap.size + 1, 2, none⟩ (.int .i64 t.need.c)).setCell ⟨w.heap.size + 1, 3, none⟩ (.int .i64 t.need.m)).setCell ⟨w.heap.size + 1, 4, none⟩ (.int .i64 t.need.p)).setCell ⟨w.heap.size + 1, 5, none⟩ (.slice (some ⟨g1, 0, none⟩) t.want.length t.want.length)).setCell ⟨w.heap.size + 1, 6, none⟩ (.slice (some ⟨g2, 0, none⟩) t.tols.length t.tols.length)) = X at hZ hG hI hB hs ⊢
  have z0 := hZ.cell 0
  have z1 := hZ.cell 1
  have z2 := hZ.cell 2
  have z3 := hZ.cell 3
  have z4 := hZ.cell 4
  have z5 := hZ.cell 5
  have z6 := hZ.cell 6
  simp at z0 z1 z2 z3 z4 z5 z6
  exact bodyPost_ret (v := .agg #[.int .i64 t.id, .int .i64 t.prio, .int .i64 t.need.c, .int .i64 t.need.m, .int .i64 t.need.p, .slice (some ⟨g1, 0, none⟩) t.want.length t.want.length, .slice (some ⟨g2, 0, none⟩) t.tols.length t.tols.length]) (by simp [results, Tryz.results15, go_sem, z0, z1, z2, z3, z4, z5, z6]) rfl ⟨g1, g2, rfl, by omega, by omega, by omega, hG, hI, hB⟩

/-- The ending 'a node of its own that reads as t'. -/
def NewNodeO (w : World) (t : NV) (e : Ending) (w' : World) : Prop := ∃ g1 g2, e = .returned (.agg #[.int .i64 t.id, .int .i64 t.pool, .int .i64 t.cap.c, .int .i64 t.cap.m, .int .i64 t.cap.p, .slice (some ⟨g1, 0, none⟩) t.labs.length t.labs.length, .slice (some ⟨g2, 0, none⟩) t.taints.length t.taints.length, .bool t.cordon]) ∧
  w.heap.size ≤ g1 ∧ w.heap.size ≤ g2 ∧ g2 < w'.heap.size ∧ BlockIs w' g1 120 (labL t.labs).toArray ∧ BlockIs w' g2 3 (intL t.taints).toArray ∧ Below w.heap.size w w'
set_option maxHeartbeats 1600000 in
theorem toNode_o (t : NV) (v1 v2 : Value) (w : World) (h1 : LabSl w v1 t.labs) (h2 : IntSl w v2 t.taints) (l1 : t.labs.length ≤ 1048576) (l2 : t.taints.length ≤ 1048576) :
    Calls Tryz.prog 26 #[.agg #[.int .i64 t.id, .int .i64 t.pool, .int .i64 t.cap.c, .int .i64 t.cap.m, .int .i64 t.cap.p, v1, v2, .bool t.cordon]] w (NewNodeO w t) := by
  have H1 := Lib.hid h1
  have H2 := Lib.hid h2
  have L1 := Lib.hid l1
  have L2 := Lib.hid l2
  clear h1 h2 l1 l2
  go_enter Tryz.func26, Tryz.ntmps26
  go_wp2_with fail
  refine (toRes_any t.cap _).mono ?_
  rintro e w1 ⟨rfl, hb1⟩
  have hz1 := hb1.size
  simp at hz1
  have B0 : BlockIs w1 w.heap.size 56 #[.int .i64 t.id, .int .i64 t.pool, .int .i64 t.cap.c, .int .i64 t.cap.m, .int .i64 t.cap.p, v1, v2, .bool t.cordon] := (((BlockIs.new w _ _).alloc _).alloc _).below hb1 (by simp; omega)
  have B1 : BlockIs w1 (w.heap.size + 1) 60 #[.int .i64 0, .int .i64 0, .int .i64 0, .int .i64 0, .int .i64 0, .slice none 0 0, .slice none 0 0, .bool false] := (BlockIs.alloc (BlockIs.new' (by simp)) _).below hb1 (by simp)
  have B2 : BlockIs w1 (w.heap.size + 1 + 1) 60 #[.int .i64 t.id, .int .i64 t.pool, .int .i64 0, .int .i64 0, .int .i64 0, .slice none 0 0, .slice none 0 0, .bool false] := (BlockIs.new' (by simp)).below hb1 (by simp)
  have hC1 : Below w.heap.size w w1 := (by repeat' (first | exact Below.refl _ _ | refine Below.alloc ?_ ?_ _ | refine Below.setCell ?_ ?_ _ | refine Below.drew ?_ | (apply below_step; assumption) | (simp; done) | (simp; omega) | omega))
  have c5 := B0.cell 5
  have c2 := B2.cell 2
  have c3 := B2.cell 3
  have c4 := B2.cell 4
  have f2 := B2.frozen
  simp at c5 c2 c3 c4
  have HB0 := Lib.hid B0
  have HB1 := Lib.hid B1
  have HB2 := Lib.hid B2
  clear B0 B1 B2 hb1
  go_wp2_with fail
  have hC2 : Below w.heap.size w (((w1.setCell ⟨w.heap.size + 1 + 1, 2, none⟩ (.int .i64 t.cap.c)).setCell ⟨w.heap.size + 1 + 1, 2 + 1, none⟩ (.int .i64 t.cap.m)).setCell ⟨w.heap.size + 1 + 1, 2 + 2, none⟩ (.int .i64 t.cap.p)) := (by repeat' (first | exact Below.refl _ _ | refine Below.alloc ?_ ?_ _ | refine Below.setCell ?_ ?_ _ | refine Below.drew ?_ | (apply below_step; assumption) | (simp; done) | (simp; omega) | omega))
  have A0 : BlockIs (((w1.setCell ⟨w.heap.size + 1 + 1, 2, none⟩ (.int .i64 t.cap.c)).setCell ⟨w.heap.size + 1 + 1, 2 + 1, none⟩ (.int .i64 t.cap.m)).setCell ⟨w.heap.size + 1 + 1, 2 + 2, none⟩ (.int .i64 t.cap.p)) w.heap.size 56 #[.int .i64 t.id, .int .i64 t.pool, .int .i64 t.cap.c, .int .i64 t.cap.m, .int .i64 t.cap.p, v1, v2, .bool t.cordon] := ((HB0.out.far (by dsimp only; omega) _).far (by dsimp only; omega) _).far (by dsimp only; omega) _
  have A1 : BlockIs (((w1.setCell ⟨w.heap.size + 1 + 1, 2, none⟩ (.int .i64 t.cap.c)).setCell ⟨w.heap.size + 1 + 1, 2 + 1, none⟩ (.int .i64 t.cap.m)).setCell ⟨w.heap.size + 1 + 1, 2 + 2, none⟩ (.int .i64 t.cap.p)) (w.heap.size + 1) 60 #[.int .i64 0, .int .i64 0, .int .i64 0, .int .i64 0, .int .i64 0, .slice none 0 0, .slice none 0 0, .bool false] := ((HB1.out.far (by dsimp only; omega) _).far (by dsimp only; omega) _).far (by dsimp only; omega) _
  have A2 : BlockIs (((w1.setCell ⟨w.heap.size + 1 + 1, 2, none⟩ (.int .i64 t.cap.c)).setCell ⟨w.heap.size + 1 + 1, 2 + 1, none⟩ (.int .i64 t.cap.m)).setCell ⟨w.heap.size + 1 + 1, 2 + 2, none⟩ (.int .i64 t.cap.p)) (w.heap.size + 1 + 1) 60 #[.int .i64 t.id, .int .i64 t.pool, .int .i64 t.cap.c, .int .i64 t.cap.m, .int .i64 t.cap.p, .slice none 0 0, .slice none 0 0, .bool false] := by simpa using ((HB2.out.put 2 _).put 3 _).put 4 _
  generalize (((w1.setCell ⟨w.heap.size + 1 + 1, 2, none⟩ (.int .i64 t.cap.c)).setCell ⟨w.heap.size + 1 + 1, 2 + 1, none⟩ (.int .i64 t.cap.m)).setCell ⟨w.heap.size + 1 + 1, 2 + 2, none⟩ (.int .i64 t.cap.p)) = X2 at hC2 A0 A1 A2 ⊢
  clear HB0 HB1 HB2 hC1 hz1 c5 c2 c3 c4 f2
  refine (toLabS_any v1 t.labs _ (H1.out.below hC2) L1.out).mono ?_
  rintro e w3 ⟨g1, rfl, hg1, hblk1, hb3⟩
  have l2 := A2.lt
  have hz3 := hb3.size
  have hC3 : Below w.heap.size w w3 := hC2.trans (hb3.mono hC2.size)
  have B0 := A0.below hb3 A0.lt
  have B1 := A1.below hb3 A1.lt
  have B2 := A2.below hb3 A2.lt
  have c6 := B0.cell 6
  have c5 := B2.cell 5
  have f2 := B2.frozen
  simp at c6 c5
  have HB1 := Lib.hid B1
  have HB2 := Lib.hid B2
  have HG1 := Lib.hid hblk1
  have HB0 := Lib.hid B0
  clear A0 A1 A2 B0 B1 B2 hblk1
  go_wp2_with fail
  have hC4 : Below w.heap.size w (w3.setCell ⟨w.heap.size + 1 + 1, 5, none⟩ (.slice (some ⟨g1, 0, none⟩) t.labs.length t.labs.length)) := (by repeat' (first | exact Below.refl _ _ | refine Below.alloc ?_ ?_ _ | refine Below.setCell ?_ ?_ _ | refine Below.drew ?_ | (apply below_step; assumption) | (simp; done) | (simp; omega) | omega))
  have A1 : BlockIs (w3.setCell ⟨w.heap.size + 1 + 1, 5, none⟩ (.slice (some ⟨g1, 0, none⟩) t.labs.length t.labs.length)) (w.heap.size + 1) 60 #[.int .i64 0, .int .i64 0, .int .i64 0, .int .i64 0, .int .i64 0, .slice none 0 0, .slice none 0 0, .bool false] := HB1.out.far (by dsimp only; omega) _
  have A2 : BlockIs (w3.setCell ⟨w.heap.size + 1 + 1, 5, none⟩ (.slice (some ⟨g1, 0, none⟩) t.labs.length t.labs.length)) (w.heap.size + 1 + 1) 60 #[.int .i64 t.id, .int .i64 t.pool, .int .i64 t.cap.c, .int .i64 t.cap.m, .int .i64 t.cap.p, .slice (some ⟨g1, 0, none⟩) t.labs.length t.labs.length, .slice none 0 0, .bool false] := by simpa using HB2.out.put 5 _
  have A0 : BlockIs (w3.setCell ⟨w.heap.size + 1 + 1, 5, none⟩ (.slice (some ⟨g1, 0, none⟩) t.labs.length t.labs.length)) w.heap.size 56 #[.int .i64 t.id, .int .i64 t.pool, .int .i64 t.cap.c, .int .i64 t.cap.m, .int .i64 t.cap.p, v1, v2, .bool t.cordon] := HB0.out.far (by dsimp only; omega) _
  have AG : BlockIs (w3.setCell ⟨w.heap.size + 1 + 1, 5, none⟩ (.slice (some ⟨g1, 0, none⟩) t.labs.length t.labs.length)) g1 120 (labL t.labs).toArray := HG1.out.far (by dsimp only; omega) _
  generalize (w3.setCell ⟨w.heap.size + 1 + 1, 5, none⟩ (.slice (some ⟨g1, 0, none⟩) t.labs.length t.labs.length)) = X4 at hC4 A0 A1 A2 AG ⊢
  clear HB0 HB1 HB2 HG1 hC3 hz3 c5 c6 f2 hb3
  refine (toIntS_o v2 t.taints _ (H2.out.below hC4) L2.out).mono ?_
  rintro e w5 ⟨g2, rfl, hg2, hlt2, hat2, hb5⟩
  have l4 := A2.lt
  have hz5 := hb5.size
  have hC5 : Below w.heap.size w w5 := hC4.trans (hb5.mono hC4.size)
  have B1 := A1.below hb5 A1.lt
  have B2 := A2.below hb5 A2.lt
  have BG := AG.below hb5 AG.lt
  have B0 := A0.below hb5 A0.lt
  have b7 := B0.cell 7
  have f0 := B0.frozen
  have c7 := B2.cell 7
  have d7 := B1.cell 7
  have c0 := B2.cell 0
  have c1 := B2.cell 1
  have c2 := B2.cell 2
  have c3 := B2.cell 3
  have c4 := B2.cell 4
  have c5 := B2.cell 5
  have c6 := B2.cell 6
  have f2 := B2.frozen
  have d0 := B1.cell 0
  have d1 := B1.cell 1
  have d2 := B1.cell 2
  have d3 := B1.cell 3
  have d4 := B1.cell 4
  have d5 := B1.cell 5
  have d6 := B1.cell 6
  have f1 := B1.frozen
  simp at b7 c7 d7 c0 c1 c2 c3 c4 c5 c6 d0 d1 d2 d3 d4 d5 d6
  have HB1 := Lib.hid B1
  have HB2 := Lib.hid B2
  have HG1 := Lib.hid BG
  have HG2 := Lib.hid hat2
  clear A0 A1 A2 AG B0 B1 B2 BG hat2
  go_wp2_with fail
  have hZ : BlockIs ((((((((((w5.setCell ⟨w.heap.size + 1 + 1, 6, none⟩ (.slice (some ⟨g2, 0, none⟩) t.taints.length t.taints.length)).setCell ⟨w.heap.size + 1 + 1, 7, none⟩ (.bool t.cordon)).setCell ⟨w.heap.size + 1, 0, none⟩ (.int .i64 t.id)).setCell ⟨w.heap.size + 1, 1, none⟩ (.int .i64 t.pool)).setCell ⟨w.heap.size + 1, 2, none⟩ (.int .i64 t.cap.c)).setCell ⟨w.heap.size + 1, 3, none⟩ (.int .i64 t.cap.m)).setCell ⟨w.heap.size + 1, 4, none⟩ (.int .i64 t.cap.p)).setCell ⟨w.heap.size + 1, 5, none⟩ (.slice (some ⟨g1, 0, none⟩) t.labs.length t.labs.length)).setCell ⟨w.heap.size + 1, 6, none⟩ (.slice (some ⟨g2, 0, none⟩) t.taints.length t.taints.length)).setCell ⟨w.heap.size + 1, 7, none⟩ (.bool t.cordon)) (w.heap.size + 1) 60 #[.int .i64 t.id, .int .i64 t.pool, .int .i64 t.cap.c, .int .i64 t.cap.m, .int .i64 t.cap.p, .slice (some ⟨g1, 0, none⟩) t.labs.length t.labs.length, .slice (some ⟨g2, 0, none⟩) t.taints.length t.taints.length, .bool t.cordon] := put8 _ _ _ _ _ _ _ _ ((HB1.out.far (by dsimp only; omega) _).far (by dsimp only; omega) _) rfl
  have hG : BlockIs ((((((((((w5.setCell ⟨w.heap.size + 1 + 1, 6, none⟩ (.slice (some ⟨g2, 0, none⟩) t.taints.length t.taints.length)).setCell ⟨w.heap.size + 1 + 1, 7, none⟩ (.bool t.cordon)).setCell ⟨w.heap.size + 1, 0, none⟩ (.int .i64 t.id)).setCell ⟨w.heap.size + 1, 1, none⟩ (.int .i64 t.pool)).setCell ⟨w.heap.size + 1, 2, none⟩ (.int .i64 t.cap.c)).setCell ⟨w.heap.size + 1, 3, none⟩ (.int .i64 t.cap.m)).setCell ⟨w.heap.size + 1, 4, none⟩ (.int .i64 t.cap.p)).setCell ⟨w.heap.size + 1, 5, none⟩ (.slice (some ⟨g1, 0, none⟩) t.labs.length t.labs.length)).setCell ⟨w.heap.size + 1, 6, none⟩ (.slice (some ⟨g2, 0, none⟩) t.taints.length t.taints.length)).setCell ⟨w.heap.size + 1, 7, none⟩ (.bool t.cordon)) g1 120 (labL t.labs).toArray := far8 ((HG1.out.far (by dsimp only; omega) _).far (by dsimp only; omega) _) (by omega)
  have hI : BlockIs ((((((((((w5.setCell ⟨w.heap.size + 1 + 1, 6, none⟩ (.slice (some ⟨g2, 0, none⟩) t.taints.length t.taints.length)).setCell ⟨w.heap.size + 1 + 1, 7, none⟩ (.bool t.cordon)).setCell ⟨w.heap.size + 1, 0, none⟩ (.int .i64 t.id)).setCell ⟨w.heap.size + 1, 1, none⟩ (.int .i64 t.pool)).setCell ⟨w.heap.size + 1, 2, none⟩ (.int .i64 t.cap.c)).setCell ⟨w.heap.size + 1, 3, none⟩ (.int .i64 t.cap.m)).setCell ⟨w.heap.size + 1, 4, none⟩ (.int .i64 t.cap.p)).setCell ⟨w.heap.size + 1, 5, none⟩ (.slice (some ⟨g1, 0, none⟩) t.labs.length t.labs.length)).setCell ⟨w.heap.size + 1, 6, none⟩ (.slice (some ⟨g2, 0, none⟩) t.taints.length t.taints.length)).setCell ⟨w.heap.size + 1, 7, none⟩ (.bool t.cordon)) g2 3 (intL t.taints).toArray := far8 ((HG2.out.far (by dsimp only; omega) _).far (by dsimp only; omega) _) (by omega)
  have hB : Below w.heap.size w ((((((((((w5.setCell ⟨w.heap.size + 1 + 1, 6, none⟩ (.slice (some ⟨g2, 0, none⟩) t.taints.length t.taints.length)).setCell ⟨w.heap.size + 1 + 1, 7, none⟩ (.bool t.cordon)).setCell ⟨w.heap.size + 1, 0, none⟩ (.int .i64 t.id)).setCell ⟨w.heap.size + 1, 1, none⟩ (.int .i64 t.pool)).setCell ⟨w.heap.size + 1, 2, none⟩ (.int .i64 t.cap.c)).setCell ⟨w.heap.size + 1, 3, none⟩ (.int .i64 t.cap.m)).setCell ⟨w.heap.size + 1, 4, none⟩ (.int .i64 t.cap.p)).setCell ⟨w.heap.size + 1, 5, none⟩ (.slice (some ⟨g1, 0, none⟩) t.labs.length t.labs.length)).setCell ⟨w.heap.size + 1, 6, none⟩ (.slice (some ⟨g2, 0, none⟩) t.taints.length t.taints.length)).setCell ⟨w.heap.size + 1, 7, none⟩ (.bool t.cordon)) := below8 ((hC5.setCell (by dsimp only; omega) _).setCell (by dsimp only; omega) _) (by omega)
  have hs : ((((((((((w5.setCell ⟨w.heap.size + 1 + 1, 6, none⟩ (.slice (some ⟨g2, 0, none⟩) t.taints.length t.taints.length)).setCell ⟨w.heap.size + 1 + 1, 7, none⟩ (.bool t.cordon)).setCell ⟨w.heap.size + 1, 0, none⟩ (.int .i64 t.id)).setCell ⟨w.heap.size + 1, 1, none⟩ (.int .i64 t.pool)).setCell ⟨w.heap.size + 1, 2, none⟩ (.int .i64 t.cap.c)).setCell ⟨w.heap.size + 1, 3, none⟩ (.int .i64 t.cap.m)).setCell ⟨w.heap.size + 1, 4, none⟩ (.int .i64 t.cap.p)).setCell ⟨w.heap.size + 1, 5, none⟩ (.slice (some ⟨g1, 0, none⟩) t.labs.length t.labs.length)).setCell ⟨w.heap.size + 1, 6, none⟩ (.slice (some ⟨g2, 0, none⟩) t.taints.length t.taints.length)).setCell ⟨w.heap.size + 1, 7, none⟩ (.bool t.cordon)).heap.size = w5.heap.size := by simp [World.setCell]
  generalize ((((((((((w5.setCell ⟨w.heap.size + 1 + 1, 6, none⟩ (.slice (some ⟨g2, 0, none⟩) t.taints.length t.taints.length)).setCell ⟨w.heap.size + 1 + 1, 7, none⟩ (.bool t.cordon)).setCell ⟨w.heap.size + 1, 0, none⟩ (.int .i64 t.id)).setCell ⟨w.heap.size + 1, 1, none⟩ (.int .i64 t.pool)).setCell ⟨w.heap.size + 1, 2, none⟩ (.int .i64 t.cap.c)).setCell ⟨w.heap.size + 1, 3, none⟩ (.int .i64 t.cap.m)).setCell ⟨w.heap.size + 1, 4, none⟩ (.int .i64 t.cap.p)).setCell ⟨w.heap.size + 1, 5, none⟩ (.slice (some ⟨g1, 0, none⟩) t.labs.length t.labs.length)).setCell ⟨w.heap.size + 1, 6, none⟩ (.slice (some ⟨g2, 0, none⟩) t.taints.length t.taints.length)).setCell ⟨w.heap.size + 1, 7, none⟩ (.bool t.cordon)) = X at hZ hG hI hB hs ⊢
  have z0 := hZ.cell 0
  have z1 := hZ.cell 1
  have z2 := hZ.cell 2
  have z3 := hZ.cell 3
  have z4 := hZ.cell 4
  have z5 := hZ.cell 5
  have z6 := hZ.cell 6
  have z7 := hZ.cell 7
  simp at z7 z0 z1 z2 z3 z4 z5 z6
  exact bodyPost_ret (v := .agg #[.int .i64 t.id, .int .i64 t.pool, .int .i64 t.cap.c, .int .i64 t.cap.m, .int .i64 t.cap.p, .slice (some ⟨g1, 0, none⟩) t.labs.length t.labs.length, .slice (some ⟨g2, 0, none⟩) t.taints.length t.taints.length, .bool t.cordon]) (by simp [results, Tryz.results26, go_sem, z0, z1, z2, z3, z4, z5, z6, z7]) rfl ⟨g1, g2, rfl, by omega, by omega, by omega, hG, hI, hB⟩


theorem blk_ne {w : World} {a b : Nat} {t u : TypeId} {x y : Array Value} (h : BlockIs w a t x) (k : BlockIs w b u y) (hne : t ≠ u) : a ≠ b := fun e => by
  subst e
  have := Option.some.inj (h.symm.trans k)
  simp at this
  exact hne this.2
theorem own_some {w : World} {e : TypeId} {size n g c : Nat} {xs : List Value} (h : w.ownsRow 0 e size (.slice (some ⟨g, 0, none⟩) n c) n xs) {j : Nat} (hj : j < n * size) : ∃ u, w.cell? ⟨g, j, none⟩ = some u := by
  have h1 := h.1
  exact ⟨_, own_cell h (List.getElem?_eq_getElem (by omega))⟩
theorem toTask_ro (t : TV) (cs : List Value) (w : World) (h : TaskR w t cs) : Calls Tryz.prog 15 #[.agg cs.toArray] w (RetO TaskO w t) := by
  obtain ⟨v1, v2, rfl, h1, h2, l1, l2⟩ := h
  refine (toTask_o t v1 v2 w h1 h2 l1 l2).mono fun _ _ ⟨g1, g2, e, k1, k2, k3, bl, it, hb⟩ => ⟨_, [g1, g2], e, ⟨_, _, rfl, labO_of bl l1, intO_of it l2, rfl, l1, l2⟩, ?_, ?_, hb⟩
  · have := blk_ne bl it (by decide)
    simp [this]
  · intro b hb
    simp at hb
    rcases hb with rfl | rfl
    · exact k1
    · exact k2
theorem toNode_ro (t : NV) (cs : List Value) (w : World) (h : NodeR w t cs) : Calls Tryz.prog 26 #[.agg cs.toArray] w (RetO NodeO w t) := by
  obtain ⟨v1, v2, rfl, h1, h2, l1, l2⟩ := h
  refine (toNode_o t v1 v2 w h1 h2 l1 l2).mono fun _ _ ⟨g1, g2, e, k1, k2, k3, bl, it, hb⟩ => ⟨_, [g1, g2], e, ⟨_, _, rfl, labO_of bl l1, intO_of it l2, rfl, l1, l2⟩, ?_, ?_, hb⟩
  · have := blk_ne bl it (by decide)
    simp [this]
  · intro b hb
    simp at hb
    rcases hb with rfl | rfl
    · exact k1
    · exact k2
theorem toBind_ro (t : BV) (cs : List Value) (w : World) (h : BindR w t cs) : Calls Tryz.prog 35 #[.agg cs.toArray] w (RetO BindO w t) := by
  obtain rfl := h
  exact (toBind_any t w).mono fun _ _ ⟨e, hb⟩ => ⟨_, [], e, ⟨rfl, rfl⟩, by simp, by simp, hb⟩
set_option maxHeartbeats 3200000 in
theorem toTaskS_o (v : Value) (l : List TV) (w : World) (hv : TaskSl w v l) (hlen : l.length ≤ 1048576) :
    Calls Tryz.prog 51 #[v] w fun e w' => ∃ bs, e = .returned (.slice (some ⟨w.heap.size, 0, none⟩) l.length l.length) ∧ RowO TaskO 46 7 w' (.slice (some ⟨w.heap.size, 0, none⟩) l.length l.length) l bs ∧ bs.Nodup ∧ (∀ b ∈ bs, w.heap.size ≤ b) ∧ Below w.heap.size w w' := by
  obtain ⟨A, c, rfl, hA⟩ := hv.form
  have HA := Lib.hid hA
  clear hA hv
  have hmk := make_task l.length hlen
  go_enter Tryz.func51, Tryz.ntmps51
  go_wp2_with fail
  go_loopw [4] (fun s4 wr => ∃ (k : Nat) (xa xb : List Value) (ba : List Nat), k ≤ l.length ∧ s4 = .int .i64 k ∧ wr.ownsRow 0 46 7 (.slice (some ⟨w.heap.size, 0, none⟩) l.length l.length) l.length (xa ++ xb) ∧ Elems TaskO wr (l.take k) xa ba ∧ (w.heap.size :: ba).Nodup ∧ (∀ b ∈ ba, w.heap.size < b) ∧ Below w.heap.size w wr) (fun s4 _ => (l.length - intOf s4).toNat)
  case atStart =>
    refine ⟨0, [], (madeCells #[.int .i64 0, .int .i64 0, .int .i64 0, .int .i64 0, .int .i64 0, .slice none 0 0, .slice none 0 0] (l.length * 7)).toList, [], by omega, rfl, ⟨by simp [size_madeCells], .inr ⟨w.heap.size, l.length, _, rfl, Nat.zero_le _, BlockIs.new w _ _, Nat.le_refl _, by simp only [maxLen]; omega, size_madeCells _ _, ?_⟩⟩, ⟨rfl, rfl⟩, by simp, by simp, (by repeat' (first | exact Below.refl _ _ | refine Below.alloc ?_ ?_ _ | refine Below.setCell ?_ ?_ _ | refine Below.drew ?_ | (apply below_step; assumption) | (simp; done) | (simp; omega) | omega))⟩
    rw [List.nil_append, List.take_of_length_le]
    simp [size_madeCells]
  case round =>
    obtain ⟨k, xa, xb, ba, hk, rfl, hown, hel, hnd, hlo, hB⟩ := hrel
    have hzr := hB.size
    by_cases hlt : k < l.length
    · obtain ⟨b, off, rfl, hbw, hat⟩ := HA.out (by omega)
      obtain ⟨t, ht⟩ : ∃ t, l[k]? = some t := ⟨_, List.getElem?_eq_getElem hlt⟩
      obtain ⟨cs, hR, hC⟩ := (hat.below TaskR.kept hB hbw) k t ht
      have HTK := Lib.hid ht
      have HR := Lib.hid (toTask_ro t cs wr hR)
      obtain ⟨v1, v2, rfl, sl, si, m1, m2⟩ := hR; obtain ⟨A1, c1, rfl, _⟩ := sl.form; obtain ⟨A2, c2, rfl, _⟩ := si.form
      clear sl si m1 m2
      obtain ⟨q0, q1, q2, q3, q4, q5, q6⟩ := task_cells hC
      have HO := Lib.hid hown
      have HEL := Lib.hid hel
      have HND := Lib.hid (And.intro hnd hlo)
      have hgl := own_lt hown w.heap.size (by simp [blk, Value.ownBlock])
      clear hat hC ht hown hel hnd hlo
      go_wp2_with fail
      refine HR.out.mono ?_
      rintro e w3 ⟨ds, bx, rfl, hN, hndx, hlox, hb3⟩
      have hz3 := hb3.size
      have hC3 := below_of hB hb3
      have hO3 := own_agree HO.out (Agree.of_below hb3 (own_lt HO.out))
      have hk7 : k * 7 + 7 ≤ l.length * 7 := by
        have := Nat.mul_le_mul_right 7 (show k + 1 ≤ l.length from hlt)
        rw [Nat.add_mul, Nat.one_mul] at this; exact this
      obtain ⟨y0, x0⟩ := own_some hO3 (j := k * 7 + 0) (by omega); obtain ⟨y1, x1⟩ := own_some hO3 (j := k * 7 + 1) (by omega); obtain ⟨y2, x2⟩ := own_some hO3 (j := k * 7 + 2) (by omega); obtain ⟨y3, x3⟩ := own_some hO3 (j := k * 7 + 3) (by omega); obtain ⟨y4, x4⟩ := own_some hO3 (j := k * 7 + 4) (by omega); obtain ⟨y5, x5⟩ := own_some hO3 (j := k * 7 + 5) (by omega); obtain ⟨y6, x6⟩ := own_some hO3 (j := k * 7 + 6) (by omega)
      rw [Nat.add_zero] at x0
      have uf := own_frozen hO3 (by omega)
      have HO3 := Lib.hid hO3
      have HN := Lib.hid (And.intro hN (And.intro hndx hlox))
      obtain ⟨v3, v4, rfl, n1, n2, -, -, -⟩ := hN
      obtain ⟨E1, d1, rfl, -⟩ := own_form n1
      obtain ⟨E2, d2, rfl, -⟩ := own_form n2
      clear hndx hlox hO3 hk7 n1 n2
      go_wp2_with fail
      go_roundw
      case rel =>
        obtain ⟨hN, hndx, hlox⟩ := HN.out
        obtain ⟨hnd, hlo⟩ := HND.out
        have hxl : xa.length = k * 7 := by rw [HEL.out.len (fun _ _ _ h => h.len), List.length_take, Nat.min_eq_left hk]
        have hlx : (xa ++ xb).length = l.length * 7 := HO3.out.1
        rw [List.length_append, hxl] at hlx
        have hx0 : (xb.take 7).length = 7 := by
          rw [List.length_take]
          have := Nat.mul_le_mul_right 7 (show k + 1 ≤ l.length from hlt)
          rw [Nat.add_mul, Nat.one_mul] at this
          omega
        have h3 := HO3.out
        rw [← List.take_append_drop 7 xb] at h3
        have st := own_put (v := .slice (some ⟨w.heap.size, 0, none⟩) l.length l.length) (g := w.heap.size) (ds := [.int .i64 t.id, .int .i64 t.prio, .int .i64 t.need.c, .int .i64 t.need.m, .int .i64 t.need.p, .slice E1 t.want.length d1, .slice E2 t.tols.length d2]) h3 (by rw [hx0]; rfl) rfl
        rw [hxl] at st
        have hEA := HEL.out.agree TaskO.framed (Agree.of_below hb3 (elems_lt (fun _ _ _ h => h.lt) HEL.out))
        have hP : TurnB [w.heap.size] w3 (putAll w3 w.heap.size (k * 7) [.int .i64 t.id, .int .i64 t.prio, .int .i64 t.need.c, .int .i64 t.need.m, .int .i64 t.need.p, .slice E1 t.want.length d1, .slice E2 t.tols.length d2]) := (TurnB.refl _ _).putAll (List.mem_singleton.2 rfl) _ _
        have hEP := hEA.agree TaskO.framed (hP.agree (fun b hb => ⟨elems_lt (fun _ _ _ h => h.lt) hEA b hb, by have := hlo b hb; simp; omega⟩))
        have hNP := TaskO.framed _ _ _ _ _ hN (hP.agree (fun b hb => ⟨hN.lt b hb, by have := hlox b hb; simp; omega⟩))
        refine ⟨k + 1, xa ++ [.int .i64 t.id, .int .i64 t.prio, .int .i64 t.need.c, .int .i64 t.need.m, .int .i64 t.need.p, .slice E1 t.want.length d1, .slice E2 t.tols.length d2], xb.drop 7, ba ++ bx, by omega, by go_num, by rw [List.append_assoc]; exact st, by rw [take_at HTK.out]; exact hEP.snoc hNP, ?_, ?_, hP.below hC3.size (by simp) |> hC3.trans⟩
        · rw [List.nodup_cons] at hnd ⊢
          refine ⟨fun hm => ?_, ?_⟩
          · rcases List.mem_append.1 hm with hm | hm
            · exact hnd.1 hm
            · have := hlox _ hm; omega
          · rw [List.nodup_append]
            exact ⟨hnd.2, hndx, fun a ha b hb e => by have := elems_lt (fun _ _ _ h => h.lt) HEL.out a ha; have := hlox b hb; omega⟩
        · intro b hb
          rcases List.mem_append.1 hb with hb | hb
          · exact hlo b hb
          · have := hlox b hb; omega
      case measure => simp [intOf]; omega
    · have hkl : k = l.length := by omega
      have HF := Lib.hid (And.intro hown (And.intro hel (And.intro hnd hlo)))
      have HKL := Lib.hid hkl
      clear hkl hown hel hnd hlo
      go_wp2_with fail
      go_ret
      obtain ⟨hown, hel, hnd, hlo⟩ := HF.out
      have hkl := HKL.out
      subst hkl
      rw [List.take_length] at hel
      have hxl := hel.len (fun _ _ _ h => h.len)
      have h1 := hown.1
      rw [List.length_append, hxl] at h1
      obtain rfl : xb = [] := List.eq_nil_of_length_eq_zero (by omega)
      rw [List.append_nil] at hown
      exact ⟨w.heap.size :: ba, rfl, ⟨xa, ba, hown, hel, by simp [blk, Value.ownBlock]⟩, hnd, fun b hb => by
        rcases List.mem_cons.1 hb with rfl | hb
        · exact Nat.le_refl _
        · have := hlo b hb; omega, hB⟩
set_option maxHeartbeats 3200000 in
theorem toNodeS_o (v : Value) (l : List NV) (w : World) (hv : NodeSl w v l) (hlen : l.length ≤ 1048576) :
    Calls Tryz.prog 52 #[v] w fun e w' => ∃ bs, e = .returned (.slice (some ⟨w.heap.size, 0, none⟩) l.length l.length) ∧ RowO NodeO 60 8 w' (.slice (some ⟨w.heap.size, 0, none⟩) l.length l.length) l bs ∧ bs.Nodup ∧ (∀ b ∈ bs, w.heap.size ≤ b) ∧ Below w.heap.size w w' := by
  obtain ⟨A, c, rfl, hA⟩ := hv.form
  have HA := Lib.hid hA
  clear hA hv
  have hmk := make_node l.length hlen
  go_enter Tryz.func52, Tryz.ntmps52
  go_wp2_with fail
  go_loopw [4] (fun s4 wr => ∃ (k : Nat) (xa xb : List Value) (ba : List Nat), k ≤ l.length ∧ s4 = .int .i64 k ∧ wr.ownsRow 0 60 8 (.slice (some ⟨w.heap.size, 0, none⟩) l.length l.length) l.length (xa ++ xb) ∧ Elems NodeO wr (l.take k) xa ba ∧ (w.heap.size :: ba).Nodup ∧ (∀ b ∈ ba, w.heap.size < b) ∧ Below w.heap.size w wr) (fun s4 _ => (l.length - intOf s4).toNat)
  case atStart =>
    refine ⟨0, [], (madeCells #[.int .i64 0, .int .i64 0, .int .i64 0, .int .i64 0, .int .i64 0, .slice none 0 0, .slice none 0 0, .bool false] (l.length * 8)).toList, [], by omega, rfl, ⟨by simp [size_madeCells], .inr ⟨w.heap.size, l.length, _, rfl, Nat.zero_le _, BlockIs.new w _ _, Nat.le_refl _, by simp only [maxLen]; omega, size_madeCells _ _, ?_⟩⟩, ⟨rfl, rfl⟩, by simp, by simp, (by repeat' (first | exact Below.refl _ _ | refine Below.alloc ?_ ?_ _ | refine Below.setCell ?_ ?_ _ | refine Below.drew ?_ | (apply below_step; assumption) | (simp; done) | (simp; omega) | omega))⟩
    rw [List.nil_append, List.take_of_length_le]
    simp [size_madeCells]
  case round =>
    obtain ⟨k, xa, xb, ba, hk, rfl, hown, hel, hnd, hlo, hB⟩ := hrel
    have hzr := hB.size
    by_cases hlt : k < l.length
    · obtain ⟨b, off, rfl, hbw, hat⟩ := HA.out (by omega)
      obtain ⟨t, ht⟩ : ∃ t, l[k]? = some t := ⟨_, List.getElem?_eq_getElem hlt⟩
      obtain ⟨cs, hR, hC⟩ := (hat.below NodeR.kept hB hbw) k t ht
      have HTK := Lib.hid ht
      have HR := Lib.hid (toNode_ro t cs wr hR)
      obtain ⟨v1, v2, rfl, sl, si, m1, m2⟩ := hR; obtain ⟨A1, c1, rfl, _⟩ := sl.form; obtain ⟨A2, c2, rfl, _⟩ := si.form
      clear sl si m1 m2
      obtain ⟨q0, q1, q2, q3, q4, q5, q6, q7⟩ := node_cells hC
      have HO := Lib.hid hown
      have HEL := Lib.hid hel
      have HND := Lib.hid (And.intro hnd hlo)
      have hgl := own_lt hown w.heap.size (by simp [blk, Value.ownBlock])
      clear hat hC ht hown hel hnd hlo
      go_wp2_with fail
      refine HR.out.mono ?_
      rintro e w3 ⟨ds, bx, rfl, hN, hndx, hlox, hb3⟩
      have hz3 := hb3.size
      have hC3 := below_of hB hb3
      have hO3 := own_agree HO.out (Agree.of_below hb3 (own_lt HO.out))
      have hk8 : k * 8 + 8 ≤ l.length * 8 := by
        have := Nat.mul_le_mul_right 8 (show k + 1 ≤ l.length from hlt)
        rw [Nat.add_mul, Nat.one_mul] at this; exact this
      obtain ⟨y0, x0⟩ := own_some hO3 (j := k * 8 + 0) (by omega); obtain ⟨y1, x1⟩ := own_some hO3 (j := k * 8 + 1) (by omega); obtain ⟨y2, x2⟩ := own_some hO3 (j := k * 8 + 2) (by omega); obtain ⟨y3, x3⟩ := own_some hO3 (j := k * 8 + 3) (by omega); obtain ⟨y4, x4⟩ := own_some hO3 (j := k * 8 + 4) (by omega); obtain ⟨y5, x5⟩ := own_some hO3 (j := k * 8 + 5) (by omega); obtain ⟨y6, x6⟩ := own_some hO3 (j := k * 8 + 6) (by omega); obtain ⟨y7, x7⟩ := own_some hO3 (j := k * 8 + 7) (by omega)
      rw [Nat.add_zero] at x0
      have uf := own_frozen hO3 (by omega)
      have HO3 := Lib.hid hO3
      have HN := Lib.hid (And.intro hN (And.intro hndx hlox))
      obtain ⟨v3, v4, rfl, n1, n2, -, -, -⟩ := hN
      obtain ⟨E1, d1, rfl, -⟩ := own_form n1
      obtain ⟨E2, d2, rfl, -⟩ := own_form n2
      clear hndx hlox hO3 hk8 n1 n2
      go_wp2_with fail
      go_roundw
      case rel =>
        obtain ⟨hN, hndx, hlox⟩ := HN.out
        obtain ⟨hnd, hlo⟩ := HND.out
        have hxl : xa.length = k * 8 := by rw [HEL.out.len (fun _ _ _ h => h.len), List.length_take, Nat.min_eq_left hk]
        have hlx : (xa ++ xb).length = l.length * 8 := HO3.out.1
        rw [List.length_append, hxl] at hlx
        have hx0 : (xb.take 8).length = 8 := by
          rw [List.length_take]
          have := Nat.mul_le_mul_right 8 (show k + 1 ≤ l.length from hlt)
          rw [Nat.add_mul, Nat.one_mul] at this
          omega
        have h3 := HO3.out
        rw [← List.take_append_drop 8 xb] at h3
        have st := own_put (v := .slice (some ⟨w.heap.size, 0, none⟩) l.length l.length) (g := w.heap.size) (ds := [.int .i64 t.id, .int .i64 t.pool, .int .i64 t.cap.c, .int .i64 t.cap.m, .int .i64 t.cap.p, .slice E1 t.labs.length d1, .slice E2 t.taints.length d2, .bool t.cordon]) h3 (by rw [hx0]; rfl) rfl
        rw [hxl] at st
        have hEA := HEL.out.agree NodeO.framed (Agree.of_below hb3 (elems_lt (fun _ _ _ h => h.lt) HEL.out))
        have hP : TurnB [w.heap.size] w3 (putAll w3 w.heap.size (k * 8) [.int .i64 t.id, .int .i64 t.pool, .int .i64 t.cap.c, .int .i64 t.cap.m, .int .i64 t.cap.p, .slice E1 t.labs.length d1, .slice E2 t.taints.length d2, .bool t.cordon]) := (TurnB.refl _ _).putAll (List.mem_singleton.2 rfl) _ _
        have hEP := hEA.agree NodeO.framed (hP.agree (fun b hb => ⟨elems_lt (fun _ _ _ h => h.lt) hEA b hb, by have := hlo b hb; simp; omega⟩))
        have hNP := NodeO.framed _ _ _ _ _ hN (hP.agree (fun b hb => ⟨hN.lt b hb, by have := hlox b hb; simp; omega⟩))
        refine ⟨k + 1, xa ++ [.int .i64 t.id, .int .i64 t.pool, .int .i64 t.cap.c, .int .i64 t.cap.m, .int .i64 t.cap.p, .slice E1 t.labs.length d1, .slice E2 t.taints.length d2, .bool t.cordon], xb.drop 8, ba ++ bx, by omega, by go_num, by rw [List.append_assoc]; exact st, by rw [take_at HTK.out]; exact hEP.snoc hNP, ?_, ?_, hP.below hC3.size (by simp) |> hC3.trans⟩
        · rw [List.nodup_cons] at hnd ⊢
          refine ⟨fun hm => ?_, ?_⟩
          · rcases List.mem_append.1 hm with hm | hm
            · exact hnd.1 hm
            · have := hlox _ hm; omega
          · rw [List.nodup_append]
            exact ⟨hnd.2, hndx, fun a ha b hb e => by have := elems_lt (fun _ _ _ h => h.lt) HEL.out a ha; have := hlox b hb; omega⟩
        · intro b hb
          rcases List.mem_append.1 hb with hb | hb
          · exact hlo b hb
          · have := hlox b hb; omega
      case measure => simp [intOf]; omega
    · have hkl : k = l.length := by omega
      have HF := Lib.hid (And.intro hown (And.intro hel (And.intro hnd hlo)))
      have HKL := Lib.hid hkl
      clear hkl hown hel hnd hlo
      go_wp2_with fail
      go_ret
      obtain ⟨hown, hel, hnd, hlo⟩ := HF.out
      have hkl := HKL.out
      subst hkl
      rw [List.take_length] at hel
      have hxl := hel.len (fun _ _ _ h => h.len)
      have h1 := hown.1
      rw [List.length_append, hxl] at h1
      obtain rfl : xb = [] := List.eq_nil_of_length_eq_zero (by omega)
      rw [List.append_nil] at hown
      exact ⟨w.heap.size :: ba, rfl, ⟨xa, ba, hown, hel, by simp [blk, Value.ownBlock]⟩, hnd, fun b hb => by
        rcases List.mem_cons.1 hb with rfl | hb
        · exact Nat.le_refl _
        · have := hlo b hb; omega, hB⟩
set_option maxHeartbeats 3200000 in
theorem toBindS_o (v : Value) (l : List BV) (w : World) (hv : BindSl w v l) (hlen : l.length ≤ 1048576) :
    Calls Tryz.prog 53 #[v] w fun e w' => ∃ bs, e = .returned (.slice (some ⟨w.heap.size, 0, none⟩) l.length l.length) ∧ RowO BindO 70 2 w' (.slice (some ⟨w.heap.size, 0, none⟩) l.length l.length) l bs ∧ bs.Nodup ∧ (∀ b ∈ bs, w.heap.size ≤ b) ∧ Below w.heap.size w w' := by
  obtain ⟨A, c, rfl, hA⟩ := hv.form
  have HA := Lib.hid hA
  clear hA hv
  have hmk := make_bind l.length hlen
  go_enter Tryz.func53, Tryz.ntmps53
  go_wp2_with fail
  go_loopw [4] (fun s4 wr => ∃ (k : Nat) (xa xb : List Value) (ba : List Nat), k ≤ l.length ∧ s4 = .int .i64 k ∧ wr.ownsRow 0 70 2 (.slice (some ⟨w.heap.size, 0, none⟩) l.length l.length) l.length (xa ++ xb) ∧ Elems BindO wr (l.take k) xa ba ∧ (w.heap.size :: ba).Nodup ∧ (∀ b ∈ ba, w.heap.size < b) ∧ Below w.heap.size w wr) (fun s4 _ => (l.length - intOf s4).toNat)
  case atStart =>
    refine ⟨0, [], (madeCells #[.int .i64 0, .int .i64 0] (l.length * 2)).toList, [], by omega, rfl, ⟨by simp [size_madeCells], .inr ⟨w.heap.size, l.length, _, rfl, Nat.zero_le _, BlockIs.new w _ _, Nat.le_refl _, by simp only [maxLen]; omega, size_madeCells _ _, ?_⟩⟩, ⟨rfl, rfl⟩, by simp, by simp, (by repeat' (first | exact Below.refl _ _ | refine Below.alloc ?_ ?_ _ | refine Below.setCell ?_ ?_ _ | refine Below.drew ?_ | (apply below_step; assumption) | (simp; done) | (simp; omega) | omega))⟩
    rw [List.nil_append, List.take_of_length_le]
    simp [size_madeCells]
  case round =>
    obtain ⟨k, xa, xb, ba, hk, rfl, hown, hel, hnd, hlo, hB⟩ := hrel
    have hzr := hB.size
    by_cases hlt : k < l.length
    · obtain ⟨b, off, rfl, hbw, hat⟩ := HA.out (by omega)
      obtain ⟨t, ht⟩ : ∃ t, l[k]? = some t := ⟨_, List.getElem?_eq_getElem hlt⟩
      obtain ⟨cs, hR, hC⟩ := (hat.below BindR.kept hB hbw) k t ht
      have HTK := Lib.hid ht
      have HR := Lib.hid (toBind_ro t cs wr hR)
      obtain rfl := hR
      skip
      obtain ⟨q0, q1⟩ := bind_cells hC
      have HO := Lib.hid hown
      have HEL := Lib.hid hel
      have HND := Lib.hid (And.intro hnd hlo)
      have hgl := own_lt hown w.heap.size (by simp [blk, Value.ownBlock])
      clear hat hC ht hown hel hnd hlo
      go_wp2_with fail
      refine HR.out.mono ?_
      rintro e w3 ⟨ds, bx, rfl, hN, hndx, hlox, hb3⟩
      have hz3 := hb3.size
      have hC3 := below_of hB hb3
      have hO3 := own_agree HO.out (Agree.of_below hb3 (own_lt HO.out))
      have hk2 : k * 2 + 2 ≤ l.length * 2 := by
        have := Nat.mul_le_mul_right 2 (show k + 1 ≤ l.length from hlt)
        rw [Nat.add_mul, Nat.one_mul] at this; exact this
      obtain ⟨y0, x0⟩ := own_some hO3 (j := k * 2 + 0) (by omega); obtain ⟨y1, x1⟩ := own_some hO3 (j := k * 2 + 1) (by omega)
      rw [Nat.add_zero] at x0
      have uf := own_frozen hO3 (by omega)
      have HO3 := Lib.hid hO3
      have HN := Lib.hid (And.intro hN (And.intro hndx hlox))
      obtain ⟨rfl, -⟩ := hN
      
      
      clear hndx hlox hO3 hk2 
      go_wp2_with fail
      go_roundw
      case rel =>
        obtain ⟨hN, hndx, hlox⟩ := HN.out
        obtain ⟨hnd, hlo⟩ := HND.out
        have hxl : xa.length = k * 2 := by rw [HEL.out.len (fun _ _ _ h => h.len), List.length_take, Nat.min_eq_left hk]
        have hlx : (xa ++ xb).length = l.length * 2 := HO3.out.1
        rw [List.length_append, hxl] at hlx
        have hx0 : (xb.take 2).length = 2 := by
          rw [List.length_take]
          have := Nat.mul_le_mul_right 2 (show k + 1 ≤ l.length from hlt)
          rw [Nat.add_mul, Nat.one_mul] at this
          omega
        have h3 := HO3.out
        rw [← List.take_append_drop 2 xb] at h3
        have st := own_put (v := .slice (some ⟨w.heap.size, 0, none⟩) l.length l.length) (g := w.heap.size) (ds := [.int .i64 t.task, .int .i64 t.node]) h3 (by rw [hx0]; rfl) rfl
        rw [hxl] at st
        have hEA := HEL.out.agree BindO.framed (Agree.of_below hb3 (elems_lt (fun _ _ _ h => h.lt) HEL.out))
        have hP : TurnB [w.heap.size] w3 (putAll w3 w.heap.size (k * 2) [.int .i64 t.task, .int .i64 t.node]) := (TurnB.refl _ _).putAll (List.mem_singleton.2 rfl) _ _
        have hEP := hEA.agree BindO.framed (hP.agree (fun b hb => ⟨elems_lt (fun _ _ _ h => h.lt) hEA b hb, by have := hlo b hb; simp; omega⟩))
        have hNP := BindO.framed _ _ _ _ _ hN (hP.agree (fun b hb => ⟨hN.lt b hb, by have := hlox b hb; simp; omega⟩))
        refine ⟨k + 1, xa ++ [.int .i64 t.task, .int .i64 t.node], xb.drop 2, ba ++ bx, by omega, by go_num, by rw [List.append_assoc]; exact st, by rw [take_at HTK.out]; exact hEP.snoc hNP, ?_, ?_, hP.below hC3.size (by simp) |> hC3.trans⟩
        · rw [List.nodup_cons] at hnd ⊢
          refine ⟨fun hm => ?_, ?_⟩
          · rcases List.mem_append.1 hm with hm | hm
            · exact hnd.1 hm
            · have := hlox _ hm; omega
          · rw [List.nodup_append]
            exact ⟨hnd.2, hndx, fun a ha b hb e => by have := elems_lt (fun _ _ _ h => h.lt) HEL.out a ha; have := hlox b hb; omega⟩
        · intro b hb
          rcases List.mem_append.1 hb with hb | hb
          · exact hlo b hb
          · have := hlox b hb; omega
      case measure => simp [intOf]; omega
    · have hkl : k = l.length := by omega
      have HF := Lib.hid (And.intro hown (And.intro hel (And.intro hnd hlo)))
      have HKL := Lib.hid hkl
      clear hkl hown hel hnd hlo
      go_wp2_with fail
      go_ret
      obtain ⟨hown, hel, hnd, hlo⟩ := HF.out
      have hkl := HKL.out
      subst hkl
      rw [List.take_length] at hel
      have hxl := hel.len (fun _ _ _ h => h.len)
      have h1 := hown.1
      rw [List.length_append, hxl] at h1
      obtain rfl : xb = [] := List.eq_nil_of_length_eq_zero (by omega)
      rw [List.append_nil] at hown
      exact ⟨w.heap.size :: ba, rfl, ⟨xa, ba, hown, hel, by simp [blk, Value.ownBlock]⟩, hnd, fun b hb => by
        rcases List.mem_cons.1 hb with rfl | hb
        · exact Nat.le_refl _
        · have := hlo b hb; omega, hB⟩
end Go.Proofs.YtocfgejceoenmaaGreatDoor

namespace Go.Proofs.YtocfgejceoenmaaGreatDoor
open Go.RowKit

set_option maxHeartbeats 3200000 in
theorem toCluster_o (c : CV) (a0 a1 a2 : Value) (w : World) (hc : CluR w c a0 a1 a2) :
    Calls Tryz.prog 14 #[.agg #[a0, a1, a2]] w (RetClu w c) := by
  have HC := Lib.hid hc
  obtain ⟨h0, h1, h2, l0, l1, l2⟩ := hc
  obtain ⟨D0, e0, rfl, _⟩ := h0.form
  obtain ⟨D1, e1, rfl, _⟩ := h1.form
  obtain ⟨D2, e2, rfl, _⟩ := h2.form
  have L := Lib.hid (And.intro l0 (And.intro l1 l2))
  clear h0 h1 h2 l0 l1 l2
  go_enter Tryz.func14, Tryz.ntmps14
  go_wp2_with fail
  have hX : Below w.heap.size w (((w.alloc (.cells #[.slice D0 c.tasks.length e0, .slice D1 c.nodes.length e1, .slice D2 c.binds.length e2] 26)).alloc (.cells #[.slice none 0 0, .slice none 0 0, .slice none 0 0] 39)).alloc (.cells #[.slice none 0 0, .slice none 0 0, .slice none 0 0] 39)) := (by repeat' (first | exact Below.refl _ _ | refine Below.alloc ?_ ?_ _ | refine Below.setCell ?_ ?_ _ | refine Below.drew ?_ | (apply below_step; assumption) | (simp; done) | (simp; omega) | omega))
  have hs1 : ((((w.alloc (.cells #[.slice D0 c.tasks.length e0, .slice D1 c.nodes.length e1, .slice D2 c.binds.length e2] 26)).alloc (.cells #[.slice none 0 0, .slice none 0 0, .slice none 0 0] 39)).alloc (.cells #[.slice none 0 0, .slice none 0 0, .slice none 0 0] 39))).heap.size = w.heap.size + 3 := by simp
  refine (toTaskS_o _ c.tasks _ (HC.out.below hX).1 L.out.1).mono ?_
  rintro e w1 ⟨b0, rfl, hr1, hn1, hl1, hb1⟩
  obtain ⟨B0, B1, B2⟩ := boxes3 _ _ _ _ _ _ _ hb1
  have hC1 := below_of hX hb1
  have hz1 := hb1.size
  rw [hs1] at hz1 hr1 hl1 ⊢
  have c1 := B0.cell 1
  have d0 := B2.cell 0
  have f2 := B2.frozen
  simp at c1 d0
  have HB0 := Lib.hid B0
  have HB1 := Lib.hid B1
  have HB2 := Lib.hid B2
  have HR1 := Lib.hid (And.intro hr1 (And.intro hn1 hl1))
  clear B0 B1 B2 hb1 hX hr1 hn1 hl1 hs1
  go_wp2_with fail
  have hC1' : Below w.heap.size w (w1.setCell ⟨w.heap.size + 1 + 1, 0, none⟩ (.slice (some ⟨w.heap.size + 3, 0, none⟩) c.tasks.length c.tasks.length)) := hC1.setCell (by dsimp only; omega) _
  refine (toNodeS_o _ c.nodes _ (HC.out.below hC1').2.1 L.out.2.1).mono ?_
  rintro e w2 ⟨b1, rfl, hr2, hn2, hl2, hb2⟩
  have hsz1 : (w1.setCell ⟨w.heap.size + 1 + 1, 0, none⟩ (.slice (some ⟨w.heap.size + 3, 0, none⟩) c.tasks.length c.tasks.length)).heap.size = w1.heap.size := by simp [World.setCell]
  have hC2 := below_of hC1' hb2
  have B0 := (HB0.out.far (p := ⟨w.heap.size + 1 + 1, 0, none⟩) (by dsimp only; omega) (.slice (some ⟨w.heap.size + 3, 0, none⟩) c.tasks.length c.tasks.length)).below hb2 (by rw [hsz1]; omega)
  have B1 := (HB1.out.far (p := ⟨w.heap.size + 1 + 1, 0, none⟩) (by dsimp only; omega) (.slice (some ⟨w.heap.size + 3, 0, none⟩) c.tasks.length c.tasks.length)).below hb2 (by rw [hsz1]; omega)
  have B2 := (HB2.out.put 0 (.slice (some ⟨w.heap.size + 3, 0, none⟩) c.tasks.length c.tasks.length)).below hb2 (by rw [hsz1]; omega)
  have hT1 : TurnB [w.heap.size + 1 + 1] w1 w2 := (TurnB.put (TurnB.refl _ _) (List.mem_singleton.2 rfl) _ _).step hb2
  have hz2 := hb2.size
  rw [hsz1] at hz2 hr2 hl2 ⊢
  have c2 := B0.cell 2
  have d1 := B2.cell 1
  have f2 := B2.frozen
  simp at c2 d1
  have HB1 := Lib.hid B1
  have HB2 := Lib.hid B2
  have HR2 := Lib.hid (And.intro hr2 (And.intro hn2 hl2))
  have HT1 := Lib.hid hT1
  clear B0 B1 B2 hb2 hr2 hn2 hl2 HB0 hC1 hC1' c1 d0 hsz1 hT1
  go_wp2_with fail
  have hC2' : Below w.heap.size w (w2.setCell ⟨w.heap.size + 1 + 1, 1, none⟩ (.slice (some ⟨w1.heap.size, 0, none⟩) c.nodes.length c.nodes.length)) := hC2.setCell (by dsimp only; omega) _
  refine (toBindS_o _ c.binds _ (HC.out.below hC2').2.2.1 L.out.2.2).mono ?_
  rintro e w3 ⟨b2, rfl, hr3, hn3, hl3, hb3⟩
  have hsz2 : (w2.setCell ⟨w.heap.size + 1 + 1, 1, none⟩ (.slice (some ⟨w1.heap.size, 0, none⟩) c.nodes.length c.nodes.length)).heap.size = w2.heap.size := by simp [World.setCell]
  have hC3 := below_of hC2' hb3
  have B1 := (HB1.out.far (p := ⟨w.heap.size + 1 + 1, 1, none⟩) (by dsimp only; omega) (.slice (some ⟨w1.heap.size, 0, none⟩) c.nodes.length c.nodes.length)).below hb3 (by rw [hsz2]; omega)
  have B2 := (HB2.out.put 1 (.slice (some ⟨w1.heap.size, 0, none⟩) c.nodes.length c.nodes.length)).below hb3 (by rw [hsz2]; omega)
  have hT2 : TurnB [w.heap.size + 1 + 1] w2 w3 := (TurnB.put (TurnB.refl _ _) (List.mem_singleton.2 rfl) _ _).step hb3
  have hz3 := hb3.size
  rw [hsz2] at hz3 hr3 hl3 ⊢
  have d0 := B2.cell 0
  have d1 := B2.cell 1
  have d2 := B2.cell 2
  have f2 := B2.frozen
  have x0 := B1.cell 0
  have x1 := B1.cell 1
  have x2 := B1.cell 2
  have f1 := B1.frozen
  simp at d0 d1 d2 x0 x1 x2
  have HB1 := Lib.hid B1
  have HR3 := Lib.hid (And.intro hr3 (And.intro hn3 hl3))
  have HT2 := Lib.hid hT2
  clear B1 B2 hb3 hr3 hn3 hl3 HB2 hC2 hC2' c2 hsz2 hT2
  go_wp2_with fail
  have hZ : BlockIs ((((w3.setCell ⟨w.heap.size + 1 + 1, 2, none⟩ (.slice (some ⟨w2.heap.size, 0, none⟩) c.binds.length c.binds.length)).setCell ⟨w.heap.size + 1, 0, none⟩ (.slice (some ⟨w.heap.size + 3, 0, none⟩) c.tasks.length c.tasks.length)).setCell ⟨w.heap.size + 1, 1, none⟩ (.slice (some ⟨w1.heap.size, 0, none⟩) c.nodes.length c.nodes.length)).setCell ⟨w.heap.size + 1, 2, none⟩ (.slice (some ⟨w2.heap.size, 0, none⟩) c.binds.length c.binds.length)) (w.heap.size + 1) 39 #[.slice (some ⟨w.heap.size + 3, 0, none⟩) c.tasks.length c.tasks.length, .slice (some ⟨w1.heap.size, 0, none⟩) c.nodes.length c.nodes.length, .slice (some ⟨w2.heap.size, 0, none⟩) c.binds.length c.binds.length] := by
    have := (((HB1.out.far (p := ⟨w.heap.size + 1 + 1, 2, none⟩) (by dsimp only; omega) (.slice (some ⟨w2.heap.size, 0, none⟩) c.binds.length c.binds.length)).put 0 (.slice (some ⟨w.heap.size + 3, 0, none⟩) c.tasks.length c.tasks.length)).put 1 (.slice (some ⟨w1.heap.size, 0, none⟩) c.nodes.length c.nodes.length)).put 2 (.slice (some ⟨w2.heap.size, 0, none⟩) c.binds.length c.binds.length)
    simpa using this
  have hT3 : TurnB [w.heap.size + 1, w.heap.size + 1 + 1] w3 ((((w3.setCell ⟨w.heap.size + 1 + 1, 2, none⟩ (.slice (some ⟨w2.heap.size, 0, none⟩) c.binds.length c.binds.length)).setCell ⟨w.heap.size + 1, 0, none⟩ (.slice (some ⟨w.heap.size + 3, 0, none⟩) c.tasks.length c.tasks.length)).setCell ⟨w.heap.size + 1, 1, none⟩ (.slice (some ⟨w1.heap.size, 0, none⟩) c.nodes.length c.nodes.length)).setCell ⟨w.heap.size + 1, 2, none⟩ (.slice (some ⟨w2.heap.size, 0, none⟩) c.binds.length c.binds.length)) :=
    TurnB.put (TurnB.put (TurnB.put (TurnB.put (TurnB.refl _ _) (by simp) _ _) (by simp) _ _) (by simp) _ _) (by simp) _ _
  have hB : Below w.heap.size w ((((w3.setCell ⟨w.heap.size + 1 + 1, 2, none⟩ (.slice (some ⟨w2.heap.size, 0, none⟩) c.binds.length c.binds.length)).setCell ⟨w.heap.size + 1, 0, none⟩ (.slice (some ⟨w.heap.size + 3, 0, none⟩) c.tasks.length c.tasks.length)).setCell ⟨w.heap.size + 1, 1, none⟩ (.slice (some ⟨w1.heap.size, 0, none⟩) c.nodes.length c.nodes.length)).setCell ⟨w.heap.size + 1, 2, none⟩ (.slice (some ⟨w2.heap.size, 0, none⟩) c.binds.length c.binds.length)) := hC3.trans (hT3.below hC3.size (by simp; omega))
  generalize ((((w3.setCell ⟨w.heap.size + 1 + 1, 2, none⟩ (.slice (some ⟨w2.heap.size, 0, none⟩) c.binds.length c.binds.length)).setCell ⟨w.heap.size + 1, 0, none⟩ (.slice (some ⟨w.heap.size + 3, 0, none⟩) c.tasks.length c.tasks.length)).setCell ⟨w.heap.size + 1, 1, none⟩ (.slice (some ⟨w1.heap.size, 0, none⟩) c.nodes.length c.nodes.length)).setCell ⟨w.heap.size + 1, 2, none⟩ (.slice (some ⟨w2.heap.size, 0, none⟩) c.binds.length c.binds.length)) = Y at hZ hT3 hB ⊢
  have z0 := hZ.cell 0
  have z1 := hZ.cell 1
  have z2 := hZ.cell 2
  simp at z0 z1 z2
  refine bodyPost_ret (v := .agg #[.slice (some ⟨w.heap.size + 3, 0, none⟩) c.tasks.length c.tasks.length, .slice (some ⟨w1.heap.size, 0, none⟩) c.nodes.length c.nodes.length, .slice (some ⟨w2.heap.size, 0, none⟩) c.binds.length c.binds.length]) (by simp [results, Tryz.results14, go_sem, z0, z1, z2]) rfl ⟨_, _, _, b0 ++ (b1 ++ b2), rfl, ⟨b0, b1, b2, ?_, ?_, ?_, rfl, ?_, L.out⟩, ?_, hB⟩
  all_goals
    obtain ⟨r1, n1, k1⟩ := HR1.out
    obtain ⟨r2, n2, k2⟩ := HR2.out
    obtain ⟨r3, n3, k3⟩ := HR3.out
    have t1 := rowO_lt (fun _ _ _ h => h.lt) r1
    have t2 := rowO_lt (fun _ _ _ h => h.lt) r2
    have t3 := rowO_lt (fun _ _ _ h => h.lt) r3
  · have q1 := r1.agree TaskO.framed (HT1.out.agree (fun b hb => ⟨t1 b hb, by have := k1 b hb; simp; omega⟩))
    have q2 := q1.agree TaskO.framed (HT2.out.agree (fun b hb => ⟨by have := t1 b hb; omega, by have := k1 b hb; simp; omega⟩))
    exact q2.agree TaskO.framed (hT3.agree (fun b hb => ⟨by have := t1 b hb; omega, by have := k1 b hb; simp; omega⟩))
  · have q2 := r2.agree NodeO.framed (HT2.out.agree (fun b hb => ⟨t2 b hb, by have := k2 b hb; simp; omega⟩))
    exact q2.agree NodeO.framed (hT3.agree (fun b hb => ⟨by have := t2 b hb; omega, by have := k2 b hb; simp; omega⟩))
  · exact r3.agree BindO.framed (hT3.agree (fun b hb => ⟨t3 b hb, by have := k3 b hb; simp; omega⟩))
  · rw [List.nodup_append, List.nodup_append]
    refine ⟨n1, ⟨n2, n3, fun a ha b hb e => by have := t2 a ha; have := k3 b hb; omega⟩, fun a ha b hb e => ?_⟩
    have := t1 a ha
    rcases List.mem_append.1 hb with hb | hb
    · have := k2 b hb; omega
    · have := k3 b hb; omega
  · intro b hb
    rcases List.mem_append.1 hb with hb | hb
    · have := k1 b hb; omega
    · rcases List.mem_append.1 hb with hb | hb
      · have := k2 b hb; omega
      · have := k3 b hb; omega
end Go.Proofs.YtocfgejceoenmaaGreatDoor
