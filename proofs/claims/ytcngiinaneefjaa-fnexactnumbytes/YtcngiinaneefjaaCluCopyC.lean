/- The contract of the model's l03Copy. -/
import Derived.Test.YtcngiinaneefjaaCluCopyS
import Derived.Deep.RegionLaw
namespace Go.Proofs.Ytcngiinaneefjaa
open Go.RowKit

/-- Of what was there in w only block g may have turned. -/
structure KeepB (g : Nat) (w w' : World) : Prop where
  os : w'.os = w.os
  tape : w'.tape = w.tape
  output : w'.output = w.output
  size : w.heap.size ≤ w'.heap.size
  block : ∀ k, k < w.heap.size → k ≠ g → w'.heap[k]? = w.heap[k]?
section
variable {g : Nat} {w w' w'' : World}
theorem KeepB.refl (g : Nat) (w : World) : KeepB g w w := ⟨rfl, rfl, rfl, Nat.le_refl _, fun _ _ _ => rfl⟩
theorem KeepB.trans (h : KeepB g w w') (k : KeepB g w' w'') : KeepB g w w'' :=
  ⟨k.os.trans h.os, k.tape.trans h.tape, k.output.trans h.output, Nat.le_trans h.size k.size, fun b hb hne => (k.block b (Nat.lt_of_lt_of_le hb h.size) hne).trans (h.block b hb hne)⟩
theorem KeepB.step (h : KeepB g w w') (hb : Below w'.heap.size w' w'') : KeepB g w w'' := h.trans ⟨hb.os, hb.tape, hb.output, hb.size, fun k hk _ => hb.block k hk⟩
theorem KeepB.put (h : KeepB g w w') (o : Nat) (u : Value) : KeepB g w (w'.setCell ⟨g, o, none⟩ u) := h.trans ⟨rfl, rfl, rfl, by simp [World.setCell], fun k _ hne => Below.heap_setCell _ _ _ k hne⟩
theorem KeepB.grown (h : KeepB g w w') {row : Option Nat} (hg : w'.grownBy w'' row) (hr : ∀ k, row = some k → w.heap.size ≤ k) : KeepB g w w'' :=
  ⟨hg.os.trans h.os, hg.tape.trans h.tape, hg.output.trans h.output, Nat.le_trans h.size hg.size, fun k hk hne => (hg.block k (Nat.lt_of_lt_of_le hk h.size) (fun e => by have := hr k e.symm; omega)).trans (h.block k hk hne)⟩
theorem KeepB.below {B : Nat} (h : KeepB g w w') (hB : B ≤ w.heap.size) (hg : B ≤ g) : Below B w w' := ⟨h.os, h.tape, h.output, h.size, fun k hk => h.block k (by omega) (by omega)⟩
theorem BlockIs.keep {b : Nat} {t : TypeId} {cs : Array Value} (h : BlockIs w b t cs) (k : KeepB g w w') (hne : b ≠ g) : BlockIs w' b t cs := (k.block b h.lt hne).trans h
end

section
variable {P : Program} {ops : Array Oper} {o : Oper} {a : Act} {Q : Exit → Act → World → Prop}
theorem step_spread_if {K : Act → World → Prop} {E : Prop} (w : World) (hgd : o.guard = none) (s x : Operand) (t : TypeId)
    (ho : o.op = .call { callee := .builtin .append, args := #[s, x], argTypes := #[t, t] })
    (e : TypeId) (i : TypeInfo) (z : Value) (size bytes : Nat) (ht : P.underlying t = some (.slice e)) (hi : P.info? e = some i) (hz : i.zero = some z)
    (hsize : i.size = size) (hby : i.bytes = bytes) (hzs : z.cells.size = size) (hsz : 0 < size)
    (v : Value) (n : Nat) (xs : List Value) (hs : a.eval s = v) (hown : w.ownsRow 0 e size v n xs)
    (A : Option Addr) (m c : Nat) (news : List Value) (hx : a.eval x = .slice A m c) (hl : news.length = m * size) (hnews : 0 < m → ∃ b off, A = some ⟨b, off, none⟩ ∧ CellsAt w b off news) (h1 : ∀ u ∈ news, u.oneCell' = true)
    (h63 : n + m ≤ maxLen) (hbytes : (n + m) * bytes ≤ 140737488355328)
    (h : ∀ v' w', w'.ownsRow 0 e size v' (n + m) (xs ++ news) → w.grownBy w' v.ownBlock → (v'.ownBlock = v.ownBlock ∨ v'.ownBlock = some w.heap.size) → K (a.put o.dst v') w') :
    if Region.wanted o (yielded ops a.tmps) = true then Oper.wp P o a w K Q else E := by
  have hw : Region.wanted o (yielded ops a.tmps) = true := by simp [Region.wanted, hgd]
  rw [if_pos hw]
  exact step_spread w hgd s x t ho e i z size bytes ht hi hz hsize hby hzs hsz v n xs hs hown A m c news hx hl hnews h1 h63 hbytes h
end
theorem pushed {α : Type} {R : World → α → List Value → List Nat → Prop} {ty : TypeId} {n : Nat} {W w4 : World} {v v' : Value} {l : List α} {x : α} {xs cs : List Value} {b bx : List Nat} (hR : Framed R) (hel : Elems R W l xs b) (hx : R W x cs bx)
    (hnd : (blk v ++ (b ++ bx)).Nodup) (hlt : ∀ c ∈ b ++ bx, c < W.heap.size) (_hlv : ∀ c ∈ blk v, c < W.heap.size) (hown : w4.ownsRow 0 ty n v' (l.length + 1) (xs ++ cs)) (hg : W.grownBy w4 v.ownBlock) (hk : v'.ownBlock = v.ownBlock ∨ v'.ownBlock = some W.heap.size) :
    RowO R ty n w4 v' (l ++ [x]) (blk v' ++ (b ++ bx)) ∧ (blk v' ++ (b ++ bx)).Nodup := by
  rw [List.nodup_append] at hnd
  obtain ⟨n1, n2, n3⟩ := hnd
  have ha : Agree (b ++ bx) W w4 := Agree.of_grown hg (fun c hc => ⟨hlt c hc, fun e => n3 c (by simp [blk, ← e]) c hc rfl⟩)
  refine ⟨⟨xs ++ cs, b ++ bx, by simpa using hown, (hel.snoc hx).agree hR ha, rfl⟩, ?_⟩
  rw [List.nodup_append]
  rcases hk with e | e
  · have : blk v' = blk v := by simp [blk, e]
    rw [this]; exact ⟨n1, n2, n3⟩
  · have : blk v' = [W.heap.size] := by simp [blk, e]
    rw [this]
    exact ⟨by simp, n2, fun a ha b' hb e => by simp at ha; have := hlt b' hb; omega⟩
def bindL (l : List BV) : List Value := l.flatMap fun x => [.int .i64 x.task, .int .i64 x.node]
theorem bindL_cons (x : BV) (r : List BV) : bindL (x :: r) = .int .i64 x.task :: .int .i64 x.node :: bindL r := rfl
theorem bindL_len (l : List BV) : (bindL l).length = l.length * 2 := by
  induction l with
  | nil => rfl
  | cons x r ih => rw [bindL_cons]; simp only [List.length_cons, ih]; omega
theorem bindL_at {l : List BV} {i : Nat} {x : BV} (h : l[i]? = some x) : (bindL l)[i * 2]? = some (.int .i64 x.task) ∧ (bindL l)[i * 2 + 1]? = some (.int .i64 x.node) := by
  induction l generalizing i with
  | nil => simp at h
  | cons y r ih =>
    cases i with
    | zero => simp at h; subst h; exact ⟨rfl, rfl⟩
    | succ i =>
      simp at h
      have := ih h
      rw [bindL_cons, show (i + 1) * 2 = i * 2 + 1 + 1 by omega]
      simpa using this
theorem bindL_one (l : List BV) : ∀ u ∈ bindL l, u.oneCell' = true := by
  intro u hu
  simp [bindL] at hu
  obtain ⟨r, _, h | h⟩ := hu <;> subst h <;> rfl
theorem copy_step {α : Type} {R : World → α → List Value → List Nat → Prop} (hR : Framed R) (hRlt : ∀ (w : World) x cs b, R w x cs b → ∀ c ∈ b, c < w.heap.size) {ty : TypeId} {n G k lim off : Nat} {wr w3 w4 : World} {l : List α} {x : α} {xs cs : List Value} {bi bx : List Nat} {v v' u : Value} {o : Obj}
    (hl : l.length = k) (hown : wr.ownsRow 0 ty n v k xs) (hel : Elems R wr l xs bi) (hnd : (blk v ++ bi).Nodup) (hlo : ∀ b ∈ blk v ++ bi, lim ≤ b) (hlim : lim ≤ wr.heap.size)
    (hb3 : Below wr.heap.size wr w3) (hO3 : R w3 x cs bx) (hnd3 : bx.Nodup) (hlo3 : ∀ b ∈ bx, wr.heap.size ≤ b)
    (hg4 : (w3.alloc o).grownBy w4 v.ownBlock) (hk4 : v'.ownBlock = v.ownBlock ∨ v'.ownBlock = some (w3.alloc o).heap.size) (hown4 : w4.ownsRow 0 ty n v' (k + 1) (xs ++ cs)) (hG : G < lim) :
    ∃ bT, RowO R ty n (w4.setCell ⟨G, off, none⟩ u) v' (l ++ [x]) bT ∧ bT.Nodup ∧ ∀ b ∈ bT, lim ≤ b := by
  have hA : Below w3.heap.size w3 (w3.alloc o) := (Below.refl _ _).alloc (Nat.le_refl _) o
  have hz := hb3.size
  have hza := hA.size
  have hlv := own_lt hown
  have hli := elems_lt (fun x cs b h => hRlt _ x cs b h) hel
  have hlx := hRlt _ _ _ _ hO3
  have hel3 := hel.agree hR (Agree.of_below (below_of hb3 hA) hli)
  have hO3' := hR _ _ _ _ _ hO3 (Agree.of_below hA hlx)
  rw [List.nodup_append] at hnd
  obtain ⟨n1, n2, n3⟩ := hnd
  have hn : (blk v ++ (bi ++ bx)).Nodup := by
    rw [List.nodup_append, List.nodup_append]
    refine ⟨n1, ⟨n2, hnd3, fun a ha b hb e => by have := hli a ha; have := hlo3 b hb; omega⟩, fun a ha b hb e => ?_⟩
    rcases List.mem_append.1 hb with hb | hb
    · exact n3 a ha b hb e
    · have := hlv a ha; have := hlo3 b hb; omega
  obtain ⟨hr4, hnd4⟩ := pushed (ty := ty) (n := n) hR hel3 hO3' hn (by
    intro c hc
    rcases List.mem_append.1 hc with h | h
    · have := hli c h; omega
    · have := hlx c h; omega) (by intro c hc; have := hlv c hc; omega) (by rw [hl]; exact hown4) hg4 hk4
  have hlo4 : ∀ b ∈ blk v' ++ (bi ++ bx), lim ≤ b := by
    intro b hb
    rcases List.mem_append.1 hb with h | h
    · rcases hk4 with e | e
      · exact hlo b (List.mem_append_left _ (by simpa [blk, e] using h))
      · simp [blk, e] at h; simp at hza; omega
    · rcases List.mem_append.1 h with h | h
      · exact hlo b (List.mem_append_right _ h)
      · have := hlo3 b h; omega
  refine ⟨_, hr4.agree hR (fun b hb => Below.heap_setCell _ _ _ b (by have := hlo4 b hb; dsimp only; omega)), hnd4, hlo4⟩
theorem BindSl.news {w : World} {A : Option Addr} {c : Nat} {l : List BV} (h : BindSl w (.slice A l.length c) l) : 0 < l.length → ∃ b off, A = some ⟨b, off, none⟩ ∧ CellsAt w b off (bindL l) := by
  intro hp
  obtain ⟨A', c', e, h'⟩ := h.form
  simp only [Value.slice.injEq] at e
  obtain ⟨rfl, _, _⟩ := e
  obtain ⟨b, off, rfl, _, hat⟩ := h' hp
  refine ⟨b, off, rfl, fun j u hu => ?_⟩
  have hj : j < l.length * 2 := by
    have := (List.getElem?_eq_some_iff.1 hu).1
    rwa [bindL_len] at this
  obtain ⟨r, hr⟩ : ∃ r, l[j / 2]? = some r := ⟨_, List.getElem?_eq_getElem (by omega)⟩
  obtain ⟨cs, hc, a⟩ := hat _ _ hr
  obtain rfl : cs = [.int .i64 r.task, .int .i64 r.node] := hc
  obtain ⟨b1, b2⟩ := bindL_at hr
  obtain ⟨a1, a2⟩ := bind_cells a
  rcases Nat.mod_two_eq_zero_or_one j with e | e
  · have ej : j / 2 * 2 = j := by omega
    rw [ej] at a1 b1
    rw [b1] at hu
    obtain rfl := Option.some.inj hu
    exact a1
  · have ej : j / 2 * 2 + 1 = j := by omega
    rw [Nat.add_assoc, ej] at a2
    rw [ej] at b2
    rw [b2] at hu
    obtain rfl := Option.some.inj hu
    exact a2
theorem bind_elems (w : World) (l : List BV) : Elems BindO w l (bindL l) [] := by
  induction l with
  | nil => exact ⟨rfl, rfl⟩
  | cons x r ih => exact ⟨_, _, [], [], rfl, rfl, ⟨rfl, rfl⟩, ih⟩
theorem rowO_lt {α : Type} {R : World → α → List Value → List Nat → Prop} {ty : TypeId} {n : Nat} {w : World} {v : Value} {l : List α} {bs : List Nat} (hR : ∀ x cs b, R w x cs b → ∀ c ∈ b, c < w.heap.size) (h : RowO R ty n w v l bs) : ∀ b ∈ bs, b < w.heap.size := by
  obtain ⟨xs, b, h1, h2, rfl⟩ := h
  intro c hc
  rcases List.mem_append.1 hc with h | h
  · exact own_lt h1 c h
  · exact elems_lt hR h2 c h
end Go.Proofs.Ytcngiinaneefjaa
