/- Rows of a call's own, element by element: which blocks turn; rows split and joined; cells of one element set anew. -/
import Derived.Test.YtcngiinaneefjaaCluOwn
import Derived.Test.YtcngiinaneefjaaCluTo
namespace Go.Proofs.Ytcngiinaneefjaa
open Go.RowKit

/-- Of what was there in w only the blocks bs may have turned. -/
structure TurnB (bs : List Nat) (w w' : World) : Prop where
  os : w'.os = w.os
  tape : w'.tape = w.tape
  output : w'.output = w.output
  size : w.heap.size ≤ w'.heap.size
  block : ∀ k, k < w.heap.size → k ∉ bs → w'.heap[k]? = w.heap[k]?
section
variable {bs cs : List Nat} {w w' w'' : World}
theorem TurnB.refl (bs : List Nat) (w : World) : TurnB bs w w := ⟨rfl, rfl, rfl, Nat.le_refl _, fun _ _ _ => rfl⟩
theorem TurnB.trans (h : TurnB bs w w') (k : TurnB bs w' w'') : TurnB bs w w'' :=
  ⟨k.os.trans h.os, k.tape.trans h.tape, k.output.trans h.output, Nat.le_trans h.size k.size, fun b hb hne => (k.block b (Nat.lt_of_lt_of_le hb h.size) hne).trans (h.block b hb hne)⟩
theorem TurnB.mono (h : TurnB bs w w') (hs : ∀ b ∈ bs, b ∈ cs) : TurnB cs w w' := ⟨h.os, h.tape, h.output, h.size, fun b hb hn => h.block b hb (fun e => hn (hs b e))⟩
theorem TurnB.of_below (hb : Below w.heap.size w w') : TurnB bs w w' := ⟨hb.os, hb.tape, hb.output, hb.size, fun k hk _ => hb.block k hk⟩
theorem TurnB.step (h : TurnB bs w w') (hb : Below w'.heap.size w' w'') : TurnB bs w w'' := h.trans (.of_below hb)
theorem TurnB.of_grown {row : Option Nat} (hg : w.grownBy w' row) (hr : ∀ k, row = some k → k ∈ bs) : TurnB bs w w' := ⟨hg.os, hg.tape, hg.output, hg.size, fun k hk hne => hg.block k hk (fun e => hne (hr k e.symm))⟩
theorem TurnB.put {g : Nat} (h : TurnB bs w w') (hg : g ∈ bs) (o : Nat) (u : Value) : TurnB bs w (w'.setCell ⟨g, o, none⟩ u) :=
  h.trans ⟨rfl, rfl, rfl, by simp [World.setCell], fun k _ hne => Below.heap_setCell _ _ _ k (fun e => hne (by rw [e]; exact hg))⟩
theorem TurnB.putAll {g : Nat} (h : TurnB bs w w') (hg : g ∈ bs) (o : Nat) (ds : List Value) : TurnB bs w (Go.Proofs.Ytcngiinaneefjaa.putAll w' g o ds) := by
  induction ds generalizing w' o with
  | nil => exact h
  | cons u r ih => exact ih (h.put hg o u) _
theorem TurnB.agree (h : TurnB bs w w') {ds : List Nat} (hd : ∀ b ∈ ds, b < w.heap.size ∧ b ∉ bs) : Agree ds w w' := fun b hb => h.block b (hd b hb).1 (hd b hb).2
theorem TurnB.below {B : Nat} (h : TurnB bs w w') (hB : B ≤ w.heap.size) (hg : ∀ b ∈ bs, B ≤ b) : Below B w w' :=
  ⟨h.os, h.tape, h.output, h.size, fun k hk => h.block k (by omega) (fun e => by have := hg k e; omega)⟩
/-- New blocks need not be listed. -/
theorem TurnB.old (h : TurnB (bs ++ cs) w w') (hc : ∀ b ∈ cs, w.heap.size ≤ b) : TurnB bs w w' :=
  ⟨h.os, h.tape, h.output, h.size, fun k hk hne => h.block k hk (fun e => by
    rcases List.mem_append.1 e with e | e
    · exact hne e
    · have := hc k e; omega)⟩
theorem BlockIs.turn {g : Nat} {t : TypeId} {c : Array Value} (h : BlockIs w g t c) (k : TurnB bs w w') (hn : g ∉ bs) : BlockIs w' g t c := (k.block g h.lt hn).trans h
end

section
variable {α : Type} {R S : World → α → List Value → List Nat → Prop} {w w' : World} {a b l : List α} {xs xa xb : List Value} {bs ba bb : List Nat}
theorem Elems.split (h : Elems R w (a ++ b) xs bs) : ∃ xa xb ba bb, xs = xa ++ xb ∧ bs = ba ++ bb ∧ Elems R w a xa ba ∧ Elems R w b xb bb := by
  induction a generalizing xs bs with
  | nil => exact ⟨[], xs, [], bs, rfl, rfl, ⟨rfl, rfl⟩, h⟩
  | cons x r ih =>
    obtain ⟨cs, ys, b1, b2, rfl, rfl, h1, h2⟩ := h
    obtain ⟨xa, xb, ba, bb, rfl, rfl, h3, h4⟩ := ih h2
    exact ⟨cs ++ xa, xb, b1 ++ ba, bb, by simp, by simp, ⟨cs, xa, b1, ba, rfl, rfl, h1, h3⟩, h4⟩
theorem Elems.join (ha : Elems R w a xa ba) (hb : Elems R w b xb bb) : Elems R w (a ++ b) (xa ++ xb) (ba ++ bb) := by
  induction a generalizing xa ba with
  | nil => obtain ⟨rfl, rfl⟩ := ha; exact hb
  | cons x r ih =>
    obtain ⟨cs, ys, b1, b2, rfl, rfl, h1, h2⟩ := ha
    exact ⟨cs, ys ++ xb, b1, b2 ++ bb, by simp, by simp, h1, ih h2⟩
theorem Elems.len {n : Nat} (hn : ∀ x cs b, R w x cs b → cs.length = n) (h : Elems R w l xs bs) : xs.length = l.length * n := by
  induction l generalizing xs bs with
  | nil => obtain ⟨rfl, rfl⟩ := h; simp
  | cons x r ih =>
    obtain ⟨cs, ys, b1, b2, rfl, rfl, h1, h2⟩ := h
    rw [List.length_append, ih h2, hn _ _ _ h1, List.length_cons, Nat.add_mul]; omega
theorem Elems.imp (hRS : ∀ x cs b, R w x cs b → S w' x cs b) (h : Elems R w l xs bs) : Elems S w' l xs bs := by
  induction l generalizing xs bs with
  | nil => exact h
  | cons x r ih =>
    obtain ⟨cs, ys, b1, b2, rfl, rfl, h1, h2⟩ := h
    exact ⟨cs, ys, b1, b2, rfl, rfl, hRS _ _ _ h1, ih h2⟩
end
theorem setAll_list {cs : Array Value} {o : Nat} {ds : List Value} (h : o + ds.length ≤ cs.size) : (setAll cs o ds).toList = cs.toList.take o ++ (ds ++ cs.toList.drop (o + ds.length)) := by
  apply List.ext_getElem?
  intro i
  rw [Array.getElem?_toList]
  have hs : (cs.toList.take o).length = o := by simp; omega
  rcases Nat.lt_or_ge i o with h1 | h1
  · rw [setAll_far (.inl h1), List.getElem?_append_left (by omega), List.getElem?_take_of_lt h1, Array.getElem?_toList]
  · rw [List.getElem?_append_right (by omega), hs]
    rcases Nat.lt_or_ge i (o + ds.length) with h2 | h2
    · rw [List.getElem?_append_left (by omega)]
      obtain ⟨u, hu⟩ : ∃ u, ds[i - o]? = some u := ⟨_, List.getElem?_eq_getElem (by omega)⟩
      have := setAll_at (cs := cs) (o := o) hu h
      rw [show o + (i - o) = i by omega] at this
      rw [this, hu]
    · rw [setAll_far (.inr h2), List.getElem?_append_right (by omega), List.getElem?_drop, Array.getElem?_toList]
      congr 1; omega
/-- In a row of the call's own some cells are set anew. -/
theorem own_put {w : World} {e : TypeId} {size n g : Nat} {v : Value} {xa cs xb ds : List Value} (h : w.ownsRow 0 e size v n (xa ++ (cs ++ xb))) (hd : ds.length = cs.length) (hg : v.ownBlock = some g) :
    (putAll w g xa.length ds).ownsRow 0 e size v n (xa ++ (ds ++ xb)) := by
  obtain ⟨h1, h2⟩ := h
  refine ⟨by simpa [hd] using h1, ?_⟩
  rcases h2 with ⟨rfl, _⟩ | ⟨g', cap, cur, rfl, hb, hh, hnc, hcm, hs, ht⟩
  · cases hg
  · obtain rfl : g' = g := by simpa [Value.ownBlock] using hg
    have hlen : (xa ++ (cs ++ xb)).length ≤ cur.toList.length := by rw [← ht, List.length_take]; omega
    have hcur : cur.toList = (xa ++ (cs ++ xb)) ++ cur.toList.drop (n * size) := by rw [← ht, List.take_append_drop]
    simp only [List.length_append, Array.length_toList] at hlen
    refine .inr ⟨g', cap, setAll cur xa.length ds, rfl, hb, BlockIs.putAll hh, hnc, hcm, by rw [setAll_size, hs], ?_⟩
    have e1 : cur.toList.take xa.length = xa := by rw [hcur, List.append_assoc, List.take_left']; rfl
    have e2 : cur.toList.drop (xa.length + ds.length) = xb ++ cur.toList.drop (n * size) := by
      rw [hcur, hd]
      have : (xa ++ (cs ++ xb) ++ cur.toList.drop (n * size)) = (xa ++ cs) ++ (xb ++ cur.toList.drop (n * size)) := by simp
      rw [this, ← List.length_append, List.drop_left']
      · congr 1; rw [← this, ← hcur]
      · rfl
    rw [setAll_list (by omega), e1, e2]
    have e3 : xa ++ (ds ++ (xb ++ cur.toList.drop (n * size))) = (xa ++ (ds ++ xb)) ++ cur.toList.drop (n * size) := by simp
    rw [e3, List.take_left']
    simp only [List.length_append] at h1 ⊢
    omega
theorem own_cells {w : World} {e : TypeId} {size n : Nat} {v : Value} {xs : List Value} (h : w.ownsRow 0 e size v n xs) (hn : 0 < n) : ∃ g cap, v = .slice (some ⟨g, 0, none⟩) n cap ∧ g < w.heap.size ∧ (∀ j u, xs[j]? = some u → w.cell? ⟨g, j, none⟩ = some u) ∧ ∀ o, w.frozen? ⟨g, o, none⟩ = false := by
  obtain ⟨h1, h2⟩ := h
  rcases h2 with ⟨_, rfl⟩ | ⟨g, cap, cur, rfl, hb, hh, hnc, hcm, hs, ht⟩
  · omega
  · refine ⟨g, cap, rfl, (Array.getElem?_eq_some_iff.1 hh).1, fun j u hu => ?_, fun o => BlockIs.frozen hh o⟩
    rw [BlockIs.cell hh]
    rw [← ht] at hu
    have hj : j < n * size := by
      have := (List.getElem?_eq_some_iff.1 hu).1
      rw [List.length_take] at this; omega
    rw [List.getElem?_take_of_lt hj] at hu
    simpa using hu
end Go.Proofs.Ytcngiinaneefjaa
