/- Memory of a call's own, block by block: rows, tasks, nodes, bindings; append. The contracts of the model's l03CopyTask and l03CopyNode. The contract of the model's l03Copy. Boxes that a call has made, behind another call. Rows of a call's own, element by element: which blocks turn; rows split and joined; cells of one element set anew. -/
import Derived.Test.YtbmiefhgkagcgaaCluMem
import Derived.Maps.AppendAt
import Derived.Laws.OwnMore
import Derived.OwnWalk
import Derived.Deep.RegionHeld3
import Derived.Test.YtbmiefhgkagcgaaCluTo
import Derived.Deep.RegionLaw
import Derived.Test.YtbmiefhgkagcgaaBase
namespace Go.Proofs.Ytbmiefhgkagcgaa
open Go.RowKit

/-- The block that a slice value owns. -/
def blk (v : Value) : List Nat := v.ownBlock.toList
/-- In w' the blocks bs are as they were in w. -/
def Agree (bs : List Nat) (w w' : World) : Prop := ∀ b ∈ bs, w'.heap[b]? = w.heap[b]?
theorem Agree.left {a b : List Nat} {w w' : World} (h : Agree (a ++ b) w w') : Agree a w w' := fun x hx => h x (List.mem_append_left _ hx)
theorem Agree.right {a b : List Nat} {w w' : World} (h : Agree (a ++ b) w w') : Agree b w w' := fun x hx => h x (List.mem_append_right _ hx)
theorem Agree.trans {bs : List Nat} {w w1 w2 : World} (h : Agree bs w w1) (k : Agree bs w1 w2) : Agree bs w w2 := fun b hb => (k b hb).trans (h b hb)
theorem Agree.of_below {bs : List Nat} {B : Nat} {w w' : World} (hb : Below B w w') (h : ∀ b ∈ bs, b < B) : Agree bs w w' := fun b hx => hb.block b (h b hx)
theorem Agree.of_grown {bs : List Nat} {w w' : World} {row : Option Nat} (hg : w.grownBy w' row) (h : ∀ b ∈ bs, b < w.heap.size ∧ some b ≠ row) : Agree bs w w' := fun b hx => hg.block b (h b hx).1 (h b hx).2

section
variable {w w' : World} {e : TypeId} {size n : Nat} {v : Value} {xs : List Value}
theorem own_agree {base : Nat} (h : w.ownsRow base e size v n xs) (ha : Agree (blk v) w w') : w'.ownsRow base e size v n xs := by
  obtain ⟨h1, h2⟩ := h
  refine ⟨h1, ?_⟩
  rcases h2 with h | ⟨g, cap, cur, rfl, hg, hh, h⟩
  · exact .inl h
  · exact .inr ⟨g, cap, cur, rfl, hg, (ha g (by simp [blk, Value.ownBlock])).trans hh, h⟩
theorem own_lt {base : Nat} (h : w.ownsRow base e size v n xs) : ∀ b ∈ blk v, b < w.heap.size := by
  rcases h.2 with ⟨rfl, _⟩ | ⟨g, cap, cur, rfl, hg, hh, _⟩
  · intro b hb; simp [blk, Value.ownBlock] at hb
  · intro b hb
    simp [blk, Value.ownBlock] at hb
    subst hb
    exact (Array.getElem?_eq_some_iff.1 hh).1
theorem own_form {base : Nat} (h : w.ownsRow base e size v n xs) : ∃ A c, v = .slice A n c ∧ (0 < n → ∃ b, A = some ⟨b, 0, none⟩ ∧ b < w.heap.size ∧ CellsAt w b 0 xs) := by
  obtain ⟨h1, h2⟩ := h
  rcases h2 with ⟨rfl, rfl⟩ | ⟨g, cap, cur, rfl, hg, hh, hnc, _, hs, ht⟩
  · exact ⟨none, 0, rfl, fun h => absurd h (by omega)⟩
  · refine ⟨_, cap, rfl, fun _ => ⟨g, rfl, (Array.getElem?_eq_some_iff.1 hh).1, fun j u hu => ?_⟩⟩
    rw [← ht] at hu
    have hj : j < n * size := by
      have := (List.getElem?_eq_some_iff.1 hu).1
      rw [List.length_take] at this; omega
    rw [List.getElem?_take_of_lt hj] at hu
    simp [World.cell?, hh]
    simpa using hu
end

/-- append of a slice that reads as 'news' (or is empty) onto a row of the call's own. -/
theorem run_append_zero {P : Program} (w : World) (t ty e : TypeId) (i : TypeInfo) (size : Nat) (ht : P.underlying t = some (.slice e)) (hi : P.info? e = some i)
    (v : Value) (n : Nat) (xs : List Value) (A : Option Addr) (c : Nat) (hown : w.ownsRow 0 e size v n xs) :
    (Builtin.append_ #[t, t] ty #[v, .slice A 0 c]).run P w = .ok v w := by
  rcases hown.2 with ⟨rfl, rfl⟩ | ⟨g, cap, cur, rfl, _, _, hnc, _⟩
  · cases A <;> simp [Builtin.append_, run_underlying ht, sizeOf, typeInfo, hi, Builtin.lenOf, Builtin.firstCells, loadCells, loadCellsFrom]
  · cases A <;> simp [Builtin.append_, run_underlying ht, sizeOf, typeInfo, hi, Builtin.lenOf, Builtin.firstCells, hnc, storeCells, loadCells, loadCellsFrom]
theorem grownBy_refl (w : World) (row : Option Nat) : w.grownBy w row := ⟨rfl, rfl, rfl, Nat.le_refl _, fun _ _ _ => rfl⟩
theorem cellsAt_add {w : World} {b off : Nat} {news : List Value} (h : CellsAt w b off news) : ∀ j u, news[j]? = some u → w.cell? ((⟨b, off, none⟩ : Addr).add j) = some u := fun j u hu => by
  rw [Go.WideShapes.add_plain]; exact h j u hu
section
variable {P : Program} {ops : Array Oper} {rest : List Oper} {o : Oper} {a : Act} {Q : Exit → Act → World → Prop}
theorem wpList_spread (w : World) (hgd : o.guard = none) (s x : Operand) (t : TypeId)
    (ho : o.op = .call { callee := .builtin .append, args := #[s, x], argTypes := #[t, t] })
    (e : TypeId) (i : TypeInfo) (z : Value) (size bytes : Nat) (ht : P.underlying t = some (.slice e)) (hi : P.info? e = some i) (hz : i.zero = some z)
    (hsize : i.size = size) (hby : i.bytes = bytes) (hzs : z.cells.size = size) (hsz : 0 < size)
    (v : Value) (n : Nat) (xs : List Value) (hs : a.eval s = v) (hown : w.ownsRow 0 e size v n xs)
    (A : Option Addr) (m c : Nat) (news : List Value) (hx : a.eval x = .slice A m c) (hl : news.length = m * size) (hnews : 0 < m → ∃ b off, A = some ⟨b, off, none⟩ ∧ CellsAt w b off news) (h1 : ∀ u ∈ news, u.oneCell' = true)
    (h63 : n + m ≤ maxLen) (hbytes : (n + m) * bytes ≤ 140737488355328)
    (h : ∀ v' w', w'.ownsRow 0 e size v' (n + m) (xs ++ news) → w.grownBy w' v.ownBlock → (v'.ownBlock = v.ownBlock ∨ v'.ownBlock = some w.heap.size) → wpList P ops Q rest (a.put o.dst v') w') :
    wpList P ops Q (o :: rest) a w := by
  rcases Nat.eq_zero_or_pos m with rfl | hm
  · obtain rfl : news = [] := List.eq_nil_of_length_eq_zero (by simpa using hl)
    refine wpList_plain hgd fun K hK => ?_
    have hrun := run_append_zero (P := P) w t o.type e i size ht hi v n xs A c hown
    unfold Oper.wp
    simp [execOp, ho, resolve, invoke, builtin, hs, hx, hrun, Result.andThen]
    exact hK _ _ (h v w (by simpa using hown) (grownBy_refl _ _) (.inl rfl))
  · obtain ⟨b, off, rfl, hc⟩ := hnews hm
    exact wpList_append_own_at w hgd s x t ho 0 e i z size bytes ht hi hz hsize hby hzs hsz v n xs hs hown ⟨b, off, none⟩ m c news hx hl (cellsAt_add hc) h1 h63 hbytes (Nat.zero_le _) (fun v' w' h2 h3 _ h5 => h v' w' h2 h3 h5)
/-- The same as one step of a region that draws. -/
theorem step_spread {K : Act → World → Prop} (w : World) (_hgd : o.guard = none) (s x : Operand) (t : TypeId)
    (ho : o.op = .call { callee := .builtin .append, args := #[s, x], argTypes := #[t, t] })
    (e : TypeId) (i : TypeInfo) (z : Value) (size bytes : Nat) (ht : P.underlying t = some (.slice e)) (hi : P.info? e = some i) (hz : i.zero = some z)
    (hsize : i.size = size) (hby : i.bytes = bytes) (hzs : z.cells.size = size) (hsz : 0 < size)
    (v : Value) (n : Nat) (xs : List Value) (hs : a.eval s = v) (hown : w.ownsRow 0 e size v n xs)
    (A : Option Addr) (m c : Nat) (news : List Value) (hx : a.eval x = .slice A m c) (hl : news.length = m * size) (hnews : 0 < m → ∃ b off, A = some ⟨b, off, none⟩ ∧ CellsAt w b off news) (h1 : ∀ u ∈ news, u.oneCell' = true)
    (h63 : n + m ≤ maxLen) (hbytes : (n + m) * bytes ≤ 140737488355328)
    (h : ∀ v' w', w'.ownsRow 0 e size v' (n + m) (xs ++ news) → w.grownBy w' v.ownBlock → (v'.ownBlock = v.ownBlock ∨ v'.ownBlock = some w.heap.size) → K (a.put o.dst v') w') :
    Oper.wp P o a w K Q := by
  rcases Nat.eq_zero_or_pos m with rfl | hm
  · obtain rfl : news = [] := List.eq_nil_of_length_eq_zero (by simpa using hl)
    have hrun := run_append_zero (P := P) w t o.type e i size ht hi v n xs A c hown
    unfold Oper.wp
    simp [execOp, ho, resolve, invoke, builtin, hs, hx, hrun, Result.andThen]
    exact h v w (by simpa using hown) (grownBy_refl _ _) (.inl rfl)
  · obtain ⟨b, off, rfl, hc⟩ := hnews hm
    obtain ⟨v', w', hr, h2, h3, _, h5⟩ := run_append_own_at (P := P) w 0 t o.type e i z size bytes ht hi hz hsize hby hzs hsz v n xs hown ⟨b, off, none⟩ m c news hl (cellsAt_add hc) h1 h63 hbytes (Nat.zero_le _)
    unfold Oper.wp execOp
    simp only [ho, resolve, invoke, builtin, Sem.run_bind, Sem.run_pure, Result.andThen_ok, List.map_toArray, List.map_cons, List.map_nil, hs, hx, hr]
    exact h v' w' h2 h3 h5
end

/-- The elements l lie one behind the other in the cells xs; bs are the blocks of their inner lists. -/
def Elems {α : Type} (R : World → α → List Value → List Nat → Prop) (w : World) : List α → List Value → List Nat → Prop
  | [], xs, bs => xs = [] ∧ bs = []
  | x :: r, xs, bs => ∃ cs ys b1 b2, xs = cs ++ ys ∧ bs = b1 ++ b2 ∧ R w x cs b1 ∧ Elems R w r ys b2
/-- R depends on its blocks alone. -/
def Framed {α : Type} (R : World → α → List Value → List Nat → Prop) : Prop := ∀ (w w' : World) (x : α) (cs : List Value) (bs : List Nat), R w x cs bs → Agree bs w w' → R w' x cs bs
section
variable {α : Type} {R : World → α → List Value → List Nat → Prop} {w w' : World} {l : List α} {xs : List Value} {bs : List Nat}
theorem Elems.agree (hR : Framed R) (h : Elems R w l xs bs) (ha : Agree bs w w') : Elems R w' l xs bs := by
  induction l generalizing xs bs with
  | nil => exact h
  | cons x r ih =>
    obtain ⟨cs, ys, b1, b2, rfl, rfl, h1, h2⟩ := h
    exact ⟨cs, ys, b1, b2, rfl, rfl, hR _ _ _ _ _ h1 ha.left, ih h2 ha.right⟩
theorem Elems.snoc {x : α} {cs : List Value} {b : List Nat} (h : Elems R w l xs bs) (hx : R w x cs b) : Elems R w (l ++ [x]) (xs ++ cs) (bs ++ b) := by
  induction l generalizing xs bs with
  | nil =>
    obtain ⟨rfl, rfl⟩ := h
    exact ⟨cs, [], b, [], by simp, by simp, hx, rfl, rfl⟩
  | cons y r ih =>
    obtain ⟨ds, ys, b1, b2, rfl, rfl, h1, h2⟩ := h
    exact ⟨ds, ys ++ cs, b1, b2 ++ b, by simp, by simp, h1, ih h2⟩
theorem Elems.at {n : Nat} (hn : ∀ x cs b, R w x cs b → cs.length = n) (h : Elems R w l xs bs) {i : Nat} {x : α} (hx : l[i]? = some x) : ∃ cs b, R w x cs b ∧ (∀ c ∈ b, c ∈ bs) ∧ ∀ (j : Nat) (u : Value), cs[j]? = some u → xs[i * n + j]? = some u := by
  induction l generalizing xs bs i with
  | nil => simp at hx
  | cons y r ih =>
    obtain ⟨ds, ys, b1, b2, rfl, rfl, h1, h2⟩ := h
    cases i with
    | zero =>
      simp at hx; subst hx
      refine ⟨ds, b1, h1, fun c hc => List.mem_append_left _ hc, fun j u hu => ?_⟩
      rw [Nat.zero_mul, Nat.zero_add, List.getElem?_append_left (List.getElem?_eq_some_iff.1 hu).1]; exact hu
    | succ i =>
      obtain ⟨cs, b, a1, a2, a3⟩ := ih h2 (by simpa using hx)
      refine ⟨cs, b, a1, fun c hc => List.mem_append_right _ (a2 c hc), fun j u hu => ?_⟩
      have := hn _ _ _ h1
      rw [List.getElem?_append_right (by rw [this, Nat.add_mul]; omega), this, show (i + 1) * n + j - n = i * n + j by rw [Nat.add_mul]; omega]
      exact a3 j u hu
/-- A row of the call's own with what its elements own; bs are all their blocks. -/
def RowO (R : World → α → List Value → List Nat → Prop) (ty : TypeId) (n : Nat) (w : World) (v : Value) (l : List α) (bs : List Nat) : Prop := ∃ xs b, w.ownsRow 0 ty n v l.length xs ∧ Elems R w l xs b ∧ bs = blk v ++ b
theorem RowO.agree {ty : TypeId} {n : Nat} {v : Value} (hR : Framed R) (h : RowO R ty n w v l bs) (ha : Agree bs w w') : RowO R ty n w' v l bs := by
  obtain ⟨xs, b, h1, h2, rfl⟩ := h
  exact ⟨xs, b, own_agree h1 ha.left, h2.agree hR ha.right, rfl⟩
theorem RowO.sl {ty : TypeId} {n : Nat} {v : Value} {S : World → α → List Value → Prop} (hn : ∀ x cs b, R w x cs b → cs.length = n) (hS : ∀ x cs b, R w x cs b → S w x cs) (h : RowO R ty n w v l bs) : GSl S n w v l := by
  obtain ⟨xs, b, h1, h2, rfl⟩ := h
  obtain ⟨A, c, rfl, hA⟩ := own_form h1
  rcases Nat.eq_zero_or_pos l.length with h0 | hp
  · obtain rfl : l = [] := List.eq_nil_of_length_eq_zero h0
    exact .inl ⟨rfl, _, _, rfl⟩
  · obtain ⟨g, rfl, hlt, hc⟩ := hA hp
    refine .inr ⟨g, 0, c, rfl, hlt, fun i x hx => ?_⟩
    obtain ⟨cs, b', a1, _, a3⟩ := h2.at hn hx
    exact ⟨cs, hS _ _ _ a1, fun j u hu => by rw [show 0 + i * n + j = 0 + (i * n + j) by omega]; exact hc _ _ (a3 j u hu)⟩
end

def intL (l : List Int) : List Value := l.map (Value.int .i64)
def IntO (w : World) (v : Value) (l : List Int) : Prop := w.ownsRow 0 3 1 v l.length (intL l)
theorem IntO.sl {w : World} {v : Value} {l : List Int} (h : IntO w v l) : IntSl w v l := by
  obtain ⟨A, c, rfl, hA⟩ := own_form h
  rcases Nat.eq_zero_or_pos l.length with h0 | hp
  · obtain rfl : l = [] := List.eq_nil_of_length_eq_zero h0
    exact .inl ⟨rfl, _, _, rfl⟩
  · obtain ⟨g, rfl, hlt, hc⟩ := hA hp
    exact .inr ⟨g, 0, c, rfl, hlt, fun i r hr => hc _ _ (by simp [intL, hr])⟩
def BindO (_ : World) (t : BV) (cs : List Value) (bs : List Nat) : Prop := cs = [.int .i64 t.task, .int .i64 t.node] ∧ bs = []
theorem BindO.framed : Framed BindO := fun _ _ _ _ _ h _ => h
theorem BindO.r {w : World} {t : BV} {cs : List Value} {bs : List Nat} (h : BindO w t cs bs) : BindR w t cs := h.1
theorem BindO.len {w : World} {t : BV} {cs : List Value} {bs : List Nat} (h : BindO w t cs bs) : cs.length = 2 := by rw [h.1]; rfl
theorem BindO.lt {w : World} {t : BV} {cs : List Value} {bs : List Nat} (h : BindO w t cs bs) : ∀ b ∈ bs, b < w.heap.size := by rw [h.2]; simp
theorem elems_lt {α : Type} {R : World → α → List Value → List Nat → Prop} {w : World} {l : List α} {xs : List Value} {bs : List Nat} (hR : ∀ x cs b, R w x cs b → ∀ c ∈ b, c < w.heap.size) (h : Elems R w l xs bs) : ∀ b ∈ bs, b < w.heap.size := by
  induction l generalizing xs bs with
  | nil => obtain ⟨_, rfl⟩ := h; simp
  | cons x r ih =>
    obtain ⟨cs, ys, b1, b2, rfl, rfl, h1, h2⟩ := h
    intro b hb
    rcases List.mem_append.1 hb with hb | hb
    · exact hR _ _ _ h1 b hb
    · exact ih h2 b hb
end Go.Proofs.Ytbmiefhgkagcgaa

namespace Go.Proofs.Ytbmiefhgkagcgaa
open Go.RowKit

/-- The ending 'an element of its own, its blocks all new and distinct'. -/
def RetO {α : Type} (R : World → α → List Value → List Nat → Prop) (w : World) (t : α) (e : Ending) (w' : World) : Prop := ∃ ds bs, e = .returned (.agg ds.toArray) ∧ R w' t ds bs ∧ bs.Nodup ∧ (∀ b ∈ bs, w.heap.size ≤ b) ∧ Below w.heap.size w w'
theorem LabSl.news {w : World} {A : Option Addr} {c : Nat} {l : List LV} (h : LabSl w (.slice A l.length c) l) : 0 < l.length → ∃ b off, A = some ⟨b, off, none⟩ ∧ CellsAt w b off (labL l) := by
  intro hp
  obtain ⟨A', c', e, h'⟩ := h.form
  simp only [Value.slice.injEq] at e
  obtain ⟨rfl, _, _⟩ := e
  obtain ⟨b, off, rfl, _, hat⟩ := h' hp
  refine ⟨b, off, rfl, fun j u hu => ?_⟩
  have hj : j < l.length * 2 := by
    have := (List.getElem?_eq_some_iff.1 hu).1
    rwa [labL_len] at this
  obtain ⟨r, hr⟩ : ∃ r, l[j / 2]? = some r := ⟨_, List.getElem?_eq_getElem (by omega)⟩
  obtain ⟨a1, a2⟩ := hat _ _ hr
  obtain ⟨b1, b2⟩ := labL_at hr
  rcases Nat.mod_two_eq_zero_or_one j with e | e
  · have ej : j / 2 * 2 = j := by omega
    rw [ej] at a1 b1
    rw [b1] at hu
    obtain rfl := Option.some.inj hu
    exact a1
  · have ej : j / 2 * 2 + 1 = j := by omega
    rw [Nat.add_assoc, ej] at a2
    rw [ej] at b2
    rw [b2] at hu
    obtain rfl := Option.some.inj hu
    exact a2
theorem IntSl.news {w : World} {A : Option Addr} {c : Nat} {l : List Int} (h : IntSl w (.slice A l.length c) l) : 0 < l.length → ∃ b off, A = some ⟨b, off, none⟩ ∧ CellsAt w b off (intL l) := by
  intro hp
  obtain ⟨A', c', e, h'⟩ := h.form
  simp only [Value.slice.injEq] at e
  obtain ⟨rfl, _, _⟩ := e
  obtain ⟨b, off, rfl, _, hat⟩ := h' hp
  refine ⟨b, off, rfl, fun j u hu => ?_⟩
  simp [intL] at hu
  obtain ⟨r, hr, rfl⟩ := hu
  exact hat _ _ hr
theorem labL_one (l : List LV) : ∀ u ∈ labL l, u.oneCell' = true := by
  intro u hu
  simp [labL] at hu
  obtain ⟨r, _, h | h⟩ := hu <;> subst h <;> rfl
theorem intL_one (l : List Int) : ∀ u ∈ intL l, u.oneCell' = true := by
  intro u hu
  simp [intL] at hu
  obtain ⟨r, _, h⟩ := hu; subst h; rfl
theorem made_own (w : World) (ty : TypeId) (n : Nat) : (w.alloc (.cells #[] ty)).ownsRow 0 ty n (.slice (some ⟨w.heap.size, 0, none⟩) 0 0) 0 [] := by
  have := World.ownsRow_made (base := 0) (e := ty) (size := n) w #[] 0 (Nat.zero_le _) (by unfold maxLen; omega) (by simp)
  simpa using this
theorem made_own' {w : World} {ty : TypeId} {n g : Nat} (h : g = w.heap.size) : (w.alloc (.cells #[] ty)).ownsRow 0 ty n (.slice (some ⟨g, 0, none⟩) 0 0) 0 [] := h ▸ made_own w ty n
theorem blk_of {v v' : Value} {g : Nat} {k : Nat} (hv : v.ownBlock = some g) (h : v'.ownBlock = v.ownBlock ∨ v'.ownBlock = some k) : blk v' = [g] ∨ blk v' = [k] := by
  rcases h with h | h
  · left; simp [blk, h, hv]
  · right; simp [blk, h]

theorem putAll_block {w : World} {g o b : Nat} {ds : List Value} (h : b ≠ g) : (putAll w g o ds).heap[b]? = w.heap[b]? := by
  induction ds generalizing w o with
  | nil => rfl
  | cons u r ih => rw [putAll, ih]; exact Below.heap_setCell _ _ _ b h
end Go.Proofs.Ytbmiefhgkagcgaa

namespace Go.Proofs.Ytbmiefhgkagcgaa
open Go.RowKit

/-- Of what was there in w only block g may have turned. -/
structure KeepB (g : Nat) (w w' : World) : Prop where
  os : w'.os = w.os
  tape : w'.tape = w.tape
  output : w'.output = w.output
  size : w.heap.size ≤ w'.heap.size
  block : ∀ k, k < w.heap.size → k ≠ g → w'.heap[k]? = w.heap[k]?
section
variable {g : Nat} {w w' w'' : World}
theorem KeepB.refl (g : Nat) (w : World) : KeepB g w w := ⟨rfl, rfl, rfl, Nat.le_refl _, fun _ _ _ => rfl⟩
theorem KeepB.trans (h : KeepB g w w') (k : KeepB g w' w'') : KeepB g w w'' :=
  ⟨k.os.trans h.os, k.tape.trans h.tape, k.output.trans h.output, Nat.le_trans h.size k.size, fun b hb hne => (k.block b (Nat.lt_of_lt_of_le hb h.size) hne).trans (h.block b hb hne)⟩
theorem KeepB.step (h : KeepB g w w') (hb : Below w'.heap.size w' w'') : KeepB g w w'' := h.trans ⟨hb.os, hb.tape, hb.output, hb.size, fun k hk _ => hb.block k hk⟩
theorem KeepB.put (h : KeepB g w w') (o : Nat) (u : Value) : KeepB g w (w'.setCell ⟨g, o, none⟩ u) := h.trans ⟨rfl, rfl, rfl, by simp [World.setCell], fun k _ hne => Below.heap_setCell _ _ _ k hne⟩
theorem KeepB.grown (h : KeepB g w w') {row : Option Nat} (hg : w'.grownBy w'' row) (hr : ∀ k, row = some k → w.heap.size ≤ k) : KeepB g w w'' :=
  ⟨hg.os.trans h.os, hg.tape.trans h.tape, hg.output.trans h.output, Nat.le_trans h.size hg.size, fun k hk hne => (hg.block k (Nat.lt_of_lt_of_le hk h.size) (fun e => by have := hr k e.symm; omega)).trans (h.block k hk hne)⟩
theorem KeepB.below {B : Nat} (h : KeepB g w w') (hB : B ≤ w.heap.size) (hg : B ≤ g) : Below B w w' := ⟨h.os, h.tape, h.output, h.size, fun k hk => h.block k (by omega) (by omega)⟩
theorem BlockIs.keep {b : Nat} {t : TypeId} {cs : Array Value} (h : BlockIs w b t cs) (k : KeepB g w w') (hne : b ≠ g) : BlockIs w' b t cs := (k.block b h.lt hne).trans h
end

section
variable {P : Program} {ops : Array Oper} {o : Oper} {a : Act} {Q : Exit → Act → World → Prop}
theorem step_spread_if {K : Act → World → Prop} {E : Prop} (w : World) (hgd : o.guard = none) (s x : Operand) (t : TypeId)
    (ho : o.op = .call { callee := .builtin .append, args := #[s, x], argTypes := #[t, t] })
    (e : TypeId) (i : TypeInfo) (z : Value) (size bytes : Nat) (ht : P.underlying t = some (.slice e)) (hi : P.info? e = some i) (hz : i.zero = some z)
    (hsize : i.size = size) (hby : i.bytes = bytes) (hzs : z.cells.size = size) (hsz : 0 < size)
    (v : Value) (n : Nat) (xs : List Value) (hs : a.eval s = v) (hown : w.ownsRow 0 e size v n xs)
    (A : Option Addr) (m c : Nat) (news : List Value) (hx : a.eval x = .slice A m c) (hl : news.length = m * size) (hnews : 0 < m → ∃ b off, A = some ⟨b, off, none⟩ ∧ CellsAt w b off news) (h1 : ∀ u ∈ news, u.oneCell' = true)
    (h63 : n + m ≤ maxLen) (hbytes : (n + m) * bytes ≤ 140737488355328)
    (h : ∀ v' w', w'.ownsRow 0 e size v' (n + m) (xs ++ news) → w.grownBy w' v.ownBlock → (v'.ownBlock = v.ownBlock ∨ v'.ownBlock = some w.heap.size) → K (a.put o.dst v') w') :
    if Region.wanted o (yielded ops a.tmps) = true then Oper.wp P o a w K Q else E := by
  have hw : Region.wanted o (yielded ops a.tmps) = true := by simp [Region.wanted, hgd]
  rw [if_pos hw]
  exact step_spread w hgd s x t ho e i z size bytes ht hi hz hsize hby hzs hsz v n xs hs hown A m c news hx hl hnews h1 h63 hbytes h
end
theorem pushed {α : Type} {R : World → α → List Value → List Nat → Prop} {ty : TypeId} {n : Nat} {W w4 : World} {v v' : Value} {l : List α} {x : α} {xs cs : List Value} {b bx : List Nat} (hR : Framed R) (hel : Elems R W l xs b) (hx : R W x cs bx)
    (hnd : (blk v ++ (b ++ bx)).Nodup) (hlt : ∀ c ∈ b ++ bx, c < W.heap.size) (_hlv : ∀ c ∈ blk v, c < W.heap.size) (hown : w4.ownsRow 0 ty n v' (l.length + 1) (xs ++ cs)) (hg : W.grownBy w4 v.ownBlock) (hk : v'.ownBlock = v.ownBlock ∨ v'.ownBlock = some W.heap.size) :
    RowO R ty n w4 v' (l ++ [x]) (blk v' ++ (b ++ bx)) ∧ (blk v' ++ (b ++ bx)).Nodup := by
  rw [List.nodup_append] at hnd
  obtain ⟨n1, n2, n3⟩ := hnd
  have ha : Agree (b ++ bx) W w4 := Agree.of_grown hg (fun c hc => ⟨hlt c hc, fun e => n3 c (by simp [blk, ← e]) c hc rfl⟩)
  refine ⟨⟨xs ++ cs, b ++ bx, by simpa using hown, (hel.snoc hx).agree hR ha, rfl⟩, ?_⟩
  rw [List.nodup_append]
  rcases hk with e | e
  · have : blk v' = blk v := by simp [blk, e]
    rw [this]; exact ⟨n1, n2, n3⟩
  · have : blk v' = [W.heap.size] := by simp [blk, e]
    rw [this]
    exact ⟨by simp, n2, fun a ha b' hb e => by simp at ha; have := hlt b' hb; omega⟩
def bindL (l : List BV) : List Value := l.flatMap fun x => [.int .i64 x.task, .int .i64 x.node]
theorem bindL_cons (x : BV) (r : List BV) : bindL (x :: r) = .int .i64 x.task :: .int .i64 x.node :: bindL r := rfl
theorem bindL_len (l : List BV) : (bindL l).length = l.length * 2 := by
  induction l with
  | nil => rfl
  | cons x r ih => rw [bindL_cons]; simp only [List.length_cons, ih]; omega
theorem bindL_at {l : List BV} {i : Nat} {x : BV} (h : l[i]? = some x) : (bindL l)[i * 2]? = some (.int .i64 x.task) ∧ (bindL l)[i * 2 + 1]? = some (.int .i64 x.node) := by
  induction l generalizing i with
  | nil => simp at h
  | cons y r ih =>
    cases i with
    | zero => simp at h; subst h; exact ⟨rfl, rfl⟩
    | succ i =>
      simp at h
      have := ih h
      rw [bindL_cons, show (i + 1) * 2 = i * 2 + 1 + 1 by omega]
      simpa using this
theorem bindL_one (l : List BV) : ∀ u ∈ bindL l, u.oneCell' = true := by
  intro u hu
  simp [bindL] at hu
  obtain ⟨r, _, h | h⟩ := hu <;> subst h <;> rfl
theorem copy_step {α : Type} {R : World → α → List Value → List Nat → Prop} (hR : Framed R) (hRlt : ∀ (w : World) x cs b, R w x cs b → ∀ c ∈ b, c < w.heap.size) {ty : TypeId} {n G k lim off : Nat} {wr w3 w4 : World} {l : List α} {x : α} {xs cs : List Value} {bi bx : List Nat} {v v' u : Value} {o : Obj}
    (hl : l.length = k) (hown : wr.ownsRow 0 ty n v k xs) (hel : Elems R wr l xs bi) (hnd : (blk v ++ bi).Nodup) (hlo : ∀ b ∈ blk v ++ bi, lim ≤ b) (hlim : lim ≤ wr.heap.size)
    (hb3 : Below wr.heap.size wr w3) (hO3 : R w3 x cs bx) (hnd3 : bx.Nodup) (hlo3 : ∀ b ∈ bx, wr.heap.size ≤ b)
    (hg4 : (w3.alloc o).grownBy w4 v.ownBlock) (hk4 : v'.ownBlock = v.ownBlock ∨ v'.ownBlock = some (w3.alloc o).heap.size) (hown4 : w4.ownsRow 0 ty n v' (k + 1) (xs ++ cs)) (hG : G < lim) :
    ∃ bT, RowO R ty n (w4.setCell ⟨G, off, none⟩ u) v' (l ++ [x]) bT ∧ bT.Nodup ∧ ∀ b ∈ bT, lim ≤ b := by
  have hA : Below w3.heap.size w3 (w3.alloc o) := (Below.refl _ _).alloc (Nat.le_refl _) o
  have hz := hb3.size
  have hza := hA.size
  have hlv := own_lt hown
  have hli := elems_lt (fun x cs b h => hRlt _ x cs b h) hel
  have hlx := hRlt _ _ _ _ hO3
  have hel3 := hel.agree hR (Agree.of_below (below_of hb3 hA) hli)
  have hO3' := hR _ _ _ _ _ hO3 (Agree.of_below hA hlx)
  rw [List.nodup_append] at hnd
  obtain ⟨n1, n2, n3⟩ := hnd
  have hn : (blk v ++ (bi ++ bx)).Nodup := by
    rw [List.nodup_append, List.nodup_append]
    refine ⟨n1, ⟨n2, hnd3, fun a ha b hb e => by have := hli a ha; have := hlo3 b hb; omega⟩, fun a ha b hb e => ?_⟩
    rcases List.mem_append.1 hb with hb | hb
    · exact n3 a ha b hb e
    · have := hlv a ha; have := hlo3 b hb; omega
  obtain ⟨hr4, hnd4⟩ := pushed (ty := ty) (n := n) hR hel3 hO3' hn (by
    intro c hc
    rcases List.mem_append.1 hc with h | h
    · have := hli c h; omega
    · have := hlx c h; omega) (by intro c hc; have := hlv c hc; omega) (by rw [hl]; exact hown4) hg4 hk4
  have hlo4 : ∀ b ∈ blk v' ++ (bi ++ bx), lim ≤ b := by
    intro b hb
    rcases List.mem_append.1 hb with h | h
    · rcases hk4 with e | e
      · exact hlo b (List.mem_append_left _ (by simpa [blk, e] using h))
      · simp [blk, e] at h; simp at hza; omega
    · rcases List.mem_append.1 h with h | h
      · exact hlo b (List.mem_append_right _ h)
      · have := hlo3 b h; omega
  refine ⟨_, hr4.agree hR (fun b hb => Below.heap_setCell _ _ _ b (by have := hlo4 b hb; dsimp only; omega)), hnd4, hlo4⟩
theorem BindSl.news {w : World} {A : Option Addr} {c : Nat} {l : List BV} (h : BindSl w (.slice A l.length c) l) : 0 < l.length → ∃ b off, A = some ⟨b, off, none⟩ ∧ CellsAt w b off (bindL l) := by
  intro hp
  obtain ⟨A', c', e, h'⟩ := h.form
  simp only [Value.slice.injEq] at e
  obtain ⟨rfl, _, _⟩ := e
  obtain ⟨b, off, rfl, _, hat⟩ := h' hp
  refine ⟨b, off, rfl, fun j u hu => ?_⟩
  have hj : j < l.length * 2 := by
    have := (List.getElem?_eq_some_iff.1 hu).1
    rwa [bindL_len] at this
  obtain ⟨r, hr⟩ : ∃ r, l[j / 2]? = some r := ⟨_, List.getElem?_eq_getElem (by omega)⟩
  obtain ⟨cs, hc, a⟩ := hat _ _ hr
  obtain rfl : cs = [.int .i64 r.task, .int .i64 r.node] := hc
  obtain ⟨b1, b2⟩ := bindL_at hr
  obtain ⟨a1, a2⟩ := bind_cells a
  rcases Nat.mod_two_eq_zero_or_one j with e | e
  · have ej : j / 2 * 2 = j := by omega
    rw [ej] at a1 b1
    rw [b1] at hu
    obtain rfl := Option.some.inj hu
    exact a1
  · have ej : j / 2 * 2 + 1 = j := by omega
    rw [Nat.add_assoc, ej] at a2
    rw [ej] at b2
    rw [b2] at hu
    obtain rfl := Option.some.inj hu
    exact a2
theorem bind_elems (w : World) (l : List BV) : Elems BindO w l (bindL l) [] := by
  induction l with
  | nil => exact ⟨rfl, rfl⟩
  | cons x r ih => exact ⟨_, _, [], [], rfl, rfl, ⟨rfl, rfl⟩, ih⟩
theorem rowO_lt {α : Type} {R : World → α → List Value → List Nat → Prop} {ty : TypeId} {n : Nat} {w : World} {v : Value} {l : List α} {bs : List Nat} (hR : ∀ x cs b, R w x cs b → ∀ c ∈ b, c < w.heap.size) (h : RowO R ty n w v l bs) : ∀ b ∈ bs, b < w.heap.size := by
  obtain ⟨xs, b, h1, h2, rfl⟩ := h
  intro c hc
  rcases List.mem_append.1 hc with h | h
  · exact own_lt h1 c h
  · exact elems_lt hR h2 c h
end Go.Proofs.Ytbmiefhgkagcgaa

namespace Go.Proofs.Ytbmiefhgkagcgaa
open Go.RowKit

theorem boxes2 (w : World) (t0 t1 : TypeId) (c0 c1 : Array Value) {w2 : World} (hb : Below ((w.alloc (.cells c0 t0)).alloc (.cells c1 t1)).heap.size ((w.alloc (.cells c0 t0)).alloc (.cells c1 t1)) w2) :
    BlockIs w2 w.heap.size t0 c0 ∧ BlockIs w2 (w.heap.size + 1) t1 c1 :=
  ⟨((BlockIs.new w t0 c0).alloc _).below hb (by simp; omega), (BlockIs.new' (by simp)).below hb (by simp)⟩
theorem boxes3 (w : World) (t0 t1 t2 : TypeId) (c0 c1 c2 : Array Value) {w2 : World} (hb : Below (((w.alloc (.cells c0 t0)).alloc (.cells c1 t1)).alloc (.cells c2 t2)).heap.size (((w.alloc (.cells c0 t0)).alloc (.cells c1 t1)).alloc (.cells c2 t2)) w2) :
    BlockIs w2 w.heap.size t0 c0 ∧ BlockIs w2 (w.heap.size + 1) t1 c1 ∧ BlockIs w2 (w.heap.size + 1 + 1) t2 c2 :=
  ⟨(((BlockIs.new w t0 c0).alloc _).alloc _).below hb (by simp; omega), (BlockIs.alloc (BlockIs.new' (by simp)) _).below hb (by simp), (BlockIs.new' (by simp)).below hb (by simp)⟩
end Go.Proofs.Ytbmiefhgkagcgaa

namespace Go.Proofs.Ytbmiefhgkagcgaa
open Go.RowKit

/-- Of what was there in w only the blocks bs may have turned. -/
structure TurnB (bs : List Nat) (w w' : World) : Prop where
  os : w'.os = w.os
  tape : w'.tape = w.tape
  output : w'.output = w.output
  size : w.heap.size ≤ w'.heap.size
  block : ∀ k, k < w.heap.size → k ∉ bs → w'.heap[k]? = w.heap[k]?
section
variable {bs cs : List Nat} {w w' w'' : World}
theorem TurnB.refl (bs : List Nat) (w : World) : TurnB bs w w := ⟨rfl, rfl, rfl, Nat.le_refl _, fun _ _ _ => rfl⟩
theorem TurnB.trans (h : TurnB bs w w') (k : TurnB bs w' w'') : TurnB bs w w'' :=
  ⟨k.os.trans h.os, k.tape.trans h.tape, k.output.trans h.output, Nat.le_trans h.size k.size, fun b hb hne => (k.block b (Nat.lt_of_lt_of_le hb h.size) hne).trans (h.block b hb hne)⟩
theorem TurnB.mono (h : TurnB bs w w') (hs : ∀ b ∈ bs, b ∈ cs) : TurnB cs w w' := ⟨h.os, h.tape, h.output, h.size, fun b hb hn => h.block b hb (fun e => hn (hs b e))⟩
theorem TurnB.of_below (hb : Below w.heap.size w w') : TurnB bs w w' := ⟨hb.os, hb.tape, hb.output, hb.size, fun k hk _ => hb.block k hk⟩
theorem TurnB.step (h : TurnB bs w w') (hb : Below w'.heap.size w' w'') : TurnB bs w w'' := h.trans (.of_below hb)
theorem TurnB.of_grown {row : Option Nat} (hg : w.grownBy w' row) (hr : ∀ k, row = some k → k ∈ bs) : TurnB bs w w' := ⟨hg.os, hg.tape, hg.output, hg.size, fun k hk hne => hg.block k hk (fun e => hne (hr k e.symm))⟩
theorem TurnB.put {g : Nat} (h : TurnB bs w w') (hg : g ∈ bs) (o : Nat) (u : Value) : TurnB bs w (w'.setCell ⟨g, o, none⟩ u) :=
  h.trans ⟨rfl, rfl, rfl, by simp [World.setCell], fun k _ hne => Below.heap_setCell _ _ _ k (fun e => hne (by rw [e]; exact hg))⟩
theorem TurnB.putAll {g : Nat} (h : TurnB bs w w') (hg : g ∈ bs) (o : Nat) (ds : List Value) : TurnB bs w (Go.Proofs.Ytbmiefhgkagcgaa.putAll w' g o ds) := by
  induction ds generalizing w' o with
  | nil => exact h
  | cons u r ih => exact ih (h.put hg o u) _
theorem TurnB.agree (h : TurnB bs w w') {ds : List Nat} (hd : ∀ b ∈ ds, b < w.heap.size ∧ b ∉ bs) : Agree ds w w' := fun b hb => h.block b (hd b hb).1 (hd b hb).2
theorem TurnB.below {B : Nat} (h : TurnB bs w w') (hB : B ≤ w.heap.size) (hg : ∀ b ∈ bs, B ≤ b) : Below B w w' :=
  ⟨h.os, h.tape, h.output, h.size, fun k hk => h.block k (by omega) (fun e => by have := hg k e; omega)⟩
/-- New blocks need not be listed. -/
theorem TurnB.old (h : TurnB (bs ++ cs) w w') (hc : ∀ b ∈ cs, w.heap.size ≤ b) : TurnB bs w w' :=
  ⟨h.os, h.tape, h.output, h.size, fun k hk hne => h.block k hk (fun e => by
    rcases List.mem_append.1 e with e | e
    · exact hne e
    · have := hc k e; omega)⟩
theorem BlockIs.turn {g : Nat} {t : TypeId} {c : Array Value} (h : BlockIs w g t c) (k : TurnB bs w w') (hn : g ∉ bs) : BlockIs w' g t c := (k.block g h.lt hn).trans h
end

section
variable {α : Type} {R S : World → α → List Value → List Nat → Prop} {w w' : World} {a b l : List α} {xs xa xb : List Value} {bs ba bb : List Nat}
theorem Elems.split (h : Elems R w (a ++ b) xs bs) : ∃ xa xb ba bb, xs = xa ++ xb ∧ bs = ba ++ bb ∧ Elems R w a xa ba ∧ Elems R w b xb bb := by
  induction a generalizing xs bs with
  | nil => exact ⟨[], xs, [], bs, rfl, rfl, ⟨rfl, rfl⟩, h⟩
  | cons x r ih =>
    obtain ⟨cs, ys, b1, b2, rfl, rfl, h1, h2⟩ := h
    obtain ⟨xa, xb, ba, bb, rfl, rfl, h3, h4⟩ := ih h2
    exact ⟨cs ++ xa, xb, b1 ++ ba, bb, by simp, by simp, ⟨cs, xa, b1, ba, rfl, rfl, h1, h3⟩, h4⟩
theorem Elems.join (ha : Elems R w a xa ba) (hb : Elems R w b xb bb) : Elems R w (a ++ b) (xa ++ xb) (ba ++ bb) := by
  induction a generalizing xa ba with
  | nil => obtain ⟨rfl, rfl⟩ := ha; exact hb
  | cons x r ih =>
    obtain ⟨cs, ys, b1, b2, rfl, rfl, h1, h2⟩ := ha
    exact ⟨cs, ys ++ xb, b1, b2 ++ bb, by simp, by simp, h1, ih h2⟩
theorem Elems.len {n : Nat} (hn : ∀ x cs b, R w x cs b → cs.length = n) (h : Elems R w l xs bs) : xs.length = l.length * n := by
  induction l generalizing xs bs with
  | nil => obtain ⟨rfl, rfl⟩ := h; simp
  | cons x r ih =>
    obtain ⟨cs, ys, b1, b2, rfl, rfl, h1, h2⟩ := h
    rw [List.length_append, ih h2, hn _ _ _ h1, List.length_cons, Nat.add_mul]; omega
theorem Elems.imp (hRS : ∀ x cs b, R w x cs b → S w' x cs b) (h : Elems R w l xs bs) : Elems S w' l xs bs := by
  induction l generalizing xs bs with
  | nil => exact h
  | cons x r ih =>
    obtain ⟨cs, ys, b1, b2, rfl, rfl, h1, h2⟩ := h
    exact ⟨cs, ys, b1, b2, rfl, rfl, hRS _ _ _ h1, ih h2⟩
end
theorem setAll_list {cs : Array Value} {o : Nat} {ds : List Value} (h : o + ds.length ≤ cs.size) : (setAll cs o ds).toList = cs.toList.take o ++ (ds ++ cs.toList.drop (o + ds.length)) := by
  apply List.ext_getElem?
  intro i
  rw [Array.getElem?_toList]
  have hs : (cs.toList.take o).length = o := by simp; omega
  rcases Nat.lt_or_ge i o with h1 | h1
  · rw [setAll_far (.inl h1), List.getElem?_append_left (by omega), List.getElem?_take_of_lt h1, Array.getElem?_toList]
  · rw [List.getElem?_append_right (by omega), hs]
    rcases Nat.lt_or_ge i (o + ds.length) with h2 | h2
    · rw [List.getElem?_append_left (by omega)]
      obtain ⟨u, hu⟩ : ∃ u, ds[i - o]? = some u := ⟨_, List.getElem?_eq_getElem (by omega)⟩
      have := setAll_at (cs := cs) (o := o) hu h
      rw [show o + (i - o) = i by omega] at this
      rw [this, hu]
    · rw [setAll_far (.inr h2), List.getElem?_append_right (by omega), List.getElem?_drop, Array.getElem?_toList]
      congr 1; omega
/-- In a row of the call's own some cells are set anew. -/
theorem own_put {w : World} {e : TypeId} {size n g : Nat} {v : Value} {xa cs xb ds : List Value} (h : w.ownsRow 0 e size v n (xa ++ (cs ++ xb))) (hd : ds.length = cs.length) (hg : v.ownBlock = some g) :
    (putAll w g xa.length ds).ownsRow 0 e size v n (xa ++ (ds ++ xb)) := by
  obtain ⟨h1, h2⟩ := h
  refine ⟨by simpa [hd] using h1, ?_⟩
  rcases h2 with ⟨rfl, _⟩ | ⟨g', cap, cur, rfl, hb, hh, hnc, hcm, hs, ht⟩
  · cases hg
  · obtain rfl : g' = g := by simpa [Value.ownBlock] using hg
    have hlen : (xa ++ (cs ++ xb)).length ≤ cur.toList.length := by rw [← ht, List.length_take]; omega
    have hcur : cur.toList = (xa ++ (cs ++ xb)) ++ cur.toList.drop (n * size) := by rw [← ht, List.take_append_drop]
    simp only [List.length_append, Array.length_toList] at hlen
    refine .inr ⟨g', cap, setAll cur xa.length ds, rfl, hb, BlockIs.putAll hh, hnc, hcm, by rw [setAll_size, hs], ?_⟩
    have e1 : cur.toList.take xa.length = xa := by rw [hcur, List.append_assoc, List.take_left']; rfl
    have e2 : cur.toList.drop (xa.length + ds.length) = xb ++ cur.toList.drop (n * size) := by
      rw [hcur, hd]
      have : (xa ++ (cs ++ xb) ++ cur.toList.drop (n * size)) = (xa ++ cs) ++ (xb ++ cur.toList.drop (n * size)) := by simp
      rw [this, ← List.length_append, List.drop_left']
      · congr 1; rw [← this, ← hcur]
      · rfl
    rw [setAll_list (by omega), e1, e2]
    have e3 : xa ++ (ds ++ (xb ++ cur.toList.drop (n * size))) = (xa ++ (ds ++ xb)) ++ cur.toList.drop (n * size) := by simp
    rw [e3, List.take_left']
    simp only [List.length_append] at h1 ⊢
    omega
theorem own_cells {w : World} {e : TypeId} {size n : Nat} {v : Value} {xs : List Value} (h : w.ownsRow 0 e size v n xs) (hn : 0 < n) : ∃ g cap, v = .slice (some ⟨g, 0, none⟩) n cap ∧ g < w.heap.size ∧ (∀ j u, xs[j]? = some u → w.cell? ⟨g, j, none⟩ = some u) ∧ ∀ o, w.frozen? ⟨g, o, none⟩ = false := by
  obtain ⟨h1, h2⟩ := h
  rcases h2 with ⟨_, rfl⟩ | ⟨g, cap, cur, rfl, hb, hh, hnc, hcm, hs, ht⟩
  · omega
  · refine ⟨g, cap, rfl, (Array.getElem?_eq_some_iff.1 hh).1, fun j u hu => ?_, fun o => BlockIs.frozen hh o⟩
    rw [BlockIs.cell hh]
    rw [← ht] at hu
    have hj : j < n * size := by
      have := (List.getElem?_eq_some_iff.1 hu).1
      rw [List.length_take] at this; omega
    rw [List.getElem?_take_of_lt hj] at hu
    simpa using hu
end Go.Proofs.Ytbmiefhgkagcgaa
