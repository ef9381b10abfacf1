/- slices.DeleteFunc over rows of tasks, nodes and bindings that a call owns. -/
import Derived.Test.YtbmiefhgkagcgaaDelP
import Derived.Test.YtbmiefhgkagcgaaMgMark
namespace Go.Proofs.Ytbmiefhgkagcgaa
open Go.RowKit

theorem putAll_setCells (w : World) (g o : Nat) (ds : List Value) : w.setCells g o ds = putAll w g o ds := by
  induction ds generalizing w o with
  | nil => rfl
  | cons u r ih => rw [World.setCells, putAll, ih]
/-- 'clear(s)': its cells hold the zero value's. -/
theorem run_clear_row {P : Program} (w : World) (t e ty : TypeId) (z : Value) (ht : P.underlying t = some (.slice e)) (hv : ∀ w, (zeroValue e).run P w = .ok z w) (h1 : (z.cells.toList.all fun u => u.oneCell') = true) (b o n c : Nat) (hn : 0 < n)
    (hc : ∀ j, j < n * z.cells.size → (w.cell? ⟨b, o + j, none⟩).isSome = true) (hf : ∀ j, w.frozen? ⟨b, o + j, none⟩ = false) :
    (Builtin.clear_ #[t] ty #[.slice (some ⟨b, o, none⟩) n c]).run P w = .ok (.tuple #[]) (putAll w b o (Builtin.zeroCells z.cells n).toList) := by
  have hl : (Builtin.zeroCells z.cells n).toList.length = n * z.cells.size := by simp [Builtin.zeroCells]
  have hst := run_storeCells_cells (P := P) b o (Builtin.zeroCells z.cells n).toList 0 w (fun j hj => by rw [hl] at hj; simpa using hc j hj) (fun j _ => by simpa using hf j) (by
    intro u hu
    simp only [Builtin.zeroCells, Array.toList_map, List.mem_map] at hu
    obtain ⟨i, hi, rfl⟩ := hu
    simp at hi
    have hp : 0 < z.cells.size := Nat.pos_of_ne_zero (fun e => by rw [e] at hi; simp at hi)
    have hm := Nat.mod_lt i hp
    rw [getElem!_pos z.cells (i % z.cells.size) hm]
    exact List.all_eq_true.1 h1 _ (by simp))
  simp only [Nat.add_zero] at hst
  obtain ⟨m, rfl⟩ : ∃ m, n = m + 1 := ⟨n - 1, by omega⟩
  simp [Builtin.clear_, run_underlying ht, hv, hst, putAll_setCells]

section
variable {α : Type} {R : World → α → List Value → List Nat → Prop} {n cap gr : Nat} {ty : TypeId} {p : α → Bool} {w wr : World} {l : List α} {bi : List Nat} {i j : Nat}
/-- Of the first j elements those that stay lie at the front, i of them. -/
def DelInv (R : World → α → List Value → List Nat → Prop) (n : Nat) (ty : TypeId) (p : α → Bool) (w : World) (gr cap : Nat) (l : List α) (bi : List Nat) (i j : Nat) (wr : World) : Prop :=
  ∃ xa xm xb ba bb, i < j ∧ j ≤ l.length ∧ wr.ownsRow 0 ty n (.slice (some ⟨gr, 0, none⟩) l.length cap) l.length (xa ++ (xm ++ xb)) ∧ Elems R wr ((l.take j).filter fun x => !p x) xa ba ∧ ((l.take j).filter fun x => !p x).length = i ∧
    xm.length = (j - i) * n ∧ Elems R wr (l.drop j) xb bb ∧ (ba ++ bb).Nodup ∧ (∀ b ∈ ba ++ bb, b ∈ bi) ∧ TurnB [gr] w wr
theorem DelInv.start {xs : List Value} {x : α} (hR : Framed R) (hlen : ∀ (w : World) x cs b, R w x cs b → cs.length = n) (hRlt : ∀ (w : World) x cs b, R w x cs b → ∀ c ∈ b, c < w.heap.size) (ho : w.ownsRow 0 ty n (.slice (some ⟨gr, 0, none⟩) l.length cap) l.length xs) (he : Elems R w l xs bi) (hnd : bi.Nodup)
    (hx : l[j]? = some x) (hp : p x = true) (ha : ∀ y ∈ l.take j, p y = false) (hb : Below w.heap.size w wr) : DelInv R n ty p w gr cap l bi j (j + 1) wr := by
  have hj : j < l.length := (List.getElem?_eq_some_iff.1 hx).1
  have hl : l = l.take j ++ (x :: l.drop (j + 1)) := by rw [← drop_at hx, List.take_append_drop]
  have he' := he
  rw [hl] at he'
  obtain ⟨xa, xr, ba, br, e1, e2, h1, h2⟩ := he'.split
  obtain ⟨cs, ys, b1, b2, e3, e4, h3, h4⟩ := h2
  subst e1 e2 e3 e4
  have ho2 := own_agree ho (Agree.of_below hb (own_lt ho))
  have hlt := elems_lt (fun x cs b h => hRlt _ x cs b h) he
  have hag : Agree (ba ++ (b1 ++ b2)) w wr := Agree.of_below hb hlt
  have hf : ((l.take (j + 1)).filter fun x => !p x) = l.take j := by
    rw [take_at hx, List.filter_append, filter_none ha]
    simp [hp]
  refine ⟨xa, cs, ys, ba, b2, by omega, by omega, ho2, by rw [hf]; exact h1.agree hR hag.left, by rw [hf, List.length_take]; omega, by rw [hlen _ _ _ _ h3]; simp, h4.agree hR hag.right.right, ?_, ?_, TurnB.of_below hb⟩
  · simp only [List.nodup_append, List.mem_append] at hnd ⊢
    exact ⟨hnd.1, hnd.2.1.2.1, fun a ha b hb => hnd.2.2 a ha b (.inr hb)⟩
  · intro b hb
    rcases List.mem_append.1 hb with h | h
    · exact List.mem_append_left _ h
    · exact List.mem_append_right _ (List.mem_append_right _ h)
theorem DelInv.turn (h : DelInv R n ty p w gr cap l bi i j wr) : TurnB [gr] w wr := by
  obtain ⟨_, _, _, _, _, _, _, _, _, _, _, _, _, _, h⟩ := h; exact h
theorem DelInv.lt (h : DelInv R n ty p w gr cap l bi i j wr) : i < j ∧ j ≤ l.length := by
  obtain ⟨_, _, _, _, _, h1, h2, _⟩ := h; exact ⟨h1, h2⟩
theorem DelInv.capLe (h : DelInv R n ty p w gr cap l bi i j wr) : l.length ≤ cap := by
  obtain ⟨_, _, _, _, _, _, _, ho, _⟩ := h
  rcases ho.2 with ⟨e, _⟩ | ⟨g, cap', cur, e, _, _, hnc, _⟩
  · cases e
  · simp only [Value.slice.injEq] at e
    obtain ⟨_, _, rfl⟩ := e
    exact hnc
theorem DelInv.block (h : DelInv R n ty p w gr cap l bi i j wr) : gr < wr.heap.size ∧ (∀ q, q < l.length * n → ∃ u, wr.cell? ⟨gr, q, none⟩ = some u) ∧ ∀ o, wr.frozen? ⟨gr, o, none⟩ = false := by
  obtain ⟨_, _, _, _, _, h1, h2, ho, _⟩ := h
  have hl := ho.1
  obtain ⟨g, c, e, hg, hc, hf⟩ := own_cells ho (by omega)
  simp only [Value.slice.injEq, Option.some.injEq, Addr.mk.injEq] at e
  obtain ⟨⟨rfl, -, -⟩, -, -⟩ := e
  refine ⟨hg, fun q hq => ?_, hf⟩
  obtain ⟨u, hu⟩ : ∃ u, (_ : List Value)[q]? = some u := ⟨_, List.getElem?_eq_getElem (by rw [hl]; exact hq)⟩
  exact ⟨u, hc q u hu⟩
theorem DelInv.round {u : α} (hR : Framed R) (hlen : ∀ (w : World) x cs b, R w x cs b → cs.length = n) (hRlt : ∀ (w : World) x cs b, R w x cs b → ∀ c ∈ b, c < w.heap.size) (hgi : gr ∉ bi) (h : DelInv R n ty p w gr cap l bi i j wr) (hu : l[j]? = some u) :
    ∃ cs b1, R wr u cs b1 ∧ (∀ q x, cs[q]? = some x → wr.cell? ⟨gr, j * n + q, none⟩ = some x) ∧
      (∀ w2, Below wr.heap.size wr w2 → p u = false → DelInv R n ty p w gr cap l bi (i + 1) (j + 1) (putAll w2 gr (i * n) cs)) ∧
      (∀ w2, Below wr.heap.size wr w2 → p u = true → DelInv R n ty p w gr cap l bi i (j + 1) w2) := by
  obtain ⟨xa, xm, xb, ba, bb, hij, hjl, ho, ha, hi, hm, hb, hnd, hin, ht⟩ := h
  rw [drop_at hu] at hb
  obtain ⟨cs, ys, b1, b2, rfl, rfl, h1, h2⟩ := hb
  have hc := hlen _ _ _ _ h1
  have hxa : xa.length = i * n := by rw [Elems.len (fun x cs b h => hlen _ x cs b h) ha, hi]
  have hj : j < l.length := (List.getElem?_eq_some_iff.1 hu).1
  have hjn : i * n + (j - i) * n = j * n := by rw [← Nat.add_mul]; congr 1; omega
  obtain ⟨g, c, e, hg, hcell, hf⟩ := own_cells ho (by omega)
  simp only [Value.slice.injEq, Option.some.injEq, Addr.mk.injEq] at e
  obtain ⟨⟨rfl, -, -⟩, -, -⟩ := e
  have hlta := elems_lt (fun x cs b h => hRlt _ x cs b h) ha
  have hltb := elems_lt (fun x cs b h => hRlt _ x cs b h) h2
  have hlt1 := hRlt _ _ _ _ h1
  have hgn : ∀ b ∈ ba ++ (b1 ++ b2), b ≠ gr := fun b hb e => hgi (by rw [← e]; exact hin b hb)
  refine ⟨cs, b1, h1, fun q x hx => ?_, fun w2 hb2 hp => ?_, fun w2 hb2 hp => ?_⟩
  · have hq : q < cs.length := (List.getElem?_eq_some_iff.1 hx).1
    refine hcell _ _ ?_
    rw [List.getElem?_append_right (by omega), List.getElem?_append_right (by omega), List.getElem?_append_left (by omega)]
    rw [show j * n + q - xa.length - xm.length = q by omega]; exact hx
  · have hn0 : n ≤ xm.length := by
      rw [hm]
      have := Nat.mul_le_mul_right n (show 1 ≤ j - i by omega)
      omega
    have ho2 := own_agree ho (Agree.of_below hb2 (own_lt ho))
    have hxm : xm = xm.take n ++ xm.drop n := (List.take_append_drop _ _).symm
    rw [hxm, List.append_assoc] at ho2
    have st := own_put (g := gr) (ds := cs) ho2 (by rw [List.length_take]; omega) rfl
    rw [hxa] at st
    have hP : TurnB [gr] w2 (putAll w2 gr (i * n) cs) := (TurnB.refl _ _).putAll (List.mem_singleton.2 rfl) _ _
    have hs2 := hb2.size
    have hE : ∀ bs : List Nat, (∀ b ∈ bs, b < wr.heap.size) → (∀ b ∈ bs, b ≠ gr) → Agree bs wr (putAll w2 gr (i * n) cs) := fun bs hl hne => (Agree.of_below hb2 hl).trans (hP.agree (fun b hb => ⟨by have := hl b hb; omega, by simpa using hne b hb⟩))
    have hfl : ((l.take (j + 1)).filter fun x => !p x) = ((l.take j).filter fun x => !p x) ++ [u] := by
      rw [take_at hu, List.filter_append]
      simp [hp]
    refine ⟨xa ++ cs, xm.drop n ++ cs, ys, ba ++ b1, b2, by omega, by omega, ?_, ?_, by rw [hfl, List.length_append, hi]; rfl, ?_, ?_, by rw [List.append_assoc]; exact hnd, fun b hb => hin b (by rw [List.append_assoc] at hb; exact hb), (ht.step hb2).trans hP⟩
    · simpa [List.append_assoc] using st
    · rw [hfl]
      exact (ha.agree hR (hE ba hlta (fun b hb => hgn b (List.mem_append_left _ hb)))).snoc (hR _ _ _ _ _ h1 (hE b1 hlt1 (fun b hb => hgn b (List.mem_append_right _ (List.mem_append_left _ hb)))))
    · rw [List.length_append, List.length_drop, hm, hc]
      rw [show j + 1 - (i + 1) = j - i by omega]
      rw [hm] at hn0; omega
    · exact h2.agree hR (hE b2 hltb (fun b hb => hgn b (List.mem_append_right _ (List.mem_append_right _ hb))))
  · have hag : Agree (ba ++ (b1 ++ b2)) wr w2 := Agree.of_below hb2 (fun b hb => by
      rcases List.mem_append.1 hb with h | h
      · exact hlta b h
      · rcases List.mem_append.1 h with h | h
        · exact hlt1 b h
        · exact hltb b h)
    have hfl : ((l.take (j + 1)).filter fun x => !p x) = ((l.take j).filter fun x => !p x) := by
      rw [take_at hu, List.filter_append]
      simp [hp]
    refine ⟨xa, xm ++ cs, ys, ba, b2, by omega, by omega, ?_, by rw [hfl]; exact ha.agree hR hag.left, by rw [hfl]; exact hi, ?_, h2.agree hR hag.right.right, ?_, ?_, ht.step hb2⟩
    · rw [List.append_assoc]
      exact own_agree ho (Agree.of_below hb2 (own_lt ho))
    · rw [List.length_append, hm, hc, show j + 1 - i = (j - i) + 1 by omega, Nat.add_mul, Nat.one_mul]
    · simp only [List.nodup_append, List.mem_append] at hnd ⊢
      exact ⟨hnd.1, hnd.2.1.2.1, fun a ha b hb => hnd.2.2 a ha b (.inr hb)⟩
    · intro b hb
      rcases List.mem_append.1 hb with h | h
      · exact hin b (List.mem_append_left _ h)
      · exact hin b (List.mem_append_right _ (List.mem_append_right _ h))
theorem DelInv.done {zs : List Value} (hR : Framed R) (hlen : ∀ (w : World) x cs b, R w x cs b → cs.length = n) (hRlt : ∀ (w : World) x cs b, R w x cs b → ∀ c ∈ b, c < w.heap.size) (hgi : gr ∉ bi) (h : DelInv R n ty p w gr cap l bi i l.length wr) (hz : zs.length = (l.length - i) * n) :
    ∃ bs, RowO R ty n (putAll wr gr (i * n) zs) (.slice (some ⟨gr, 0, none⟩) i cap) (l.filter fun x => !p x) bs ∧ (l.filter fun x => !p x).length = i ∧ bs.Nodup ∧ (∀ b ∈ bs, b ∈ gr :: bi) ∧ TurnB [gr] w (putAll wr gr (i * n) zs) := by
  obtain ⟨xa, xm, xb, ba, bb, hij, hjl, ho, ha, hi, hm, hb, hnd, hin, ht⟩ := h
  rw [List.drop_length] at hb
  obtain ⟨rfl, rfl⟩ := hb
  rw [List.take_length] at ha hi
  rw [List.append_nil] at ho hnd hin
  have hxa : xa.length = i * n := by rw [Elems.len (fun x cs b h => hlen _ x cs b h) ha, hi]
  have ho' : wr.ownsRow 0 ty n (.slice (some ⟨gr, 0, none⟩) l.length cap) l.length (xa ++ (xm ++ [])) := by simpa using ho
  have st := own_put (g := gr) (ds := zs) ho' (by omega) rfl
  rw [hxa] at st
  have hP : TurnB [gr] wr (putAll wr gr (i * n) zs) := (TurnB.refl _ _).putAll (List.mem_singleton.2 rfl) _ _
  have hlta := elems_lt (fun x cs b h => hRlt _ x cs b h) ha
  refine ⟨gr :: ba, ⟨xa, ba, ?_, ha.agree hR (hP.agree (fun b hb => ⟨hlta b hb, by simp; intro e; exact hgi (by rw [← e]; exact hin b hb)⟩)), by simp [blk, Value.ownBlock]⟩, hi, ?_, ?_, ht.trans hP⟩
  · rw [hi]
    obtain ⟨_, h2⟩ := st
    refine ⟨hxa, ?_⟩
    rcases h2 with ⟨e, _⟩ | ⟨g, cap', cur, e, hg, hh, hnc, hcm, hs, ht2⟩
    · cases e
    · simp only [Value.slice.injEq, Option.some.injEq, Addr.mk.injEq] at e
      obtain ⟨⟨rfl, -, -⟩, -, rfl⟩ := e
      refine .inr ⟨gr, cap, cur, rfl, hg, hh, by omega, hcm, hs, ?_⟩
      have hle : i * n ≤ l.length * n := Nat.mul_le_mul_right n (by omega)
      have := congrArg (List.take (i * n)) ht2
      rw [List.take_take, Nat.min_eq_left hle, ← hxa, List.take_left'] at this
      · rw [← hxa]; exact this
      · rfl
  · simp only [List.nodup_cons]
    exact ⟨fun h => hgi (hin gr h), hnd⟩
  · intro b hb
    rcases List.mem_cons.1 hb with h | h
    · exact List.mem_cons.2 (.inl h)
    · exact List.mem_cons.2 (.inr (hin b h))
end

end Go.Proofs.Ytbmiefhgkagcgaa
