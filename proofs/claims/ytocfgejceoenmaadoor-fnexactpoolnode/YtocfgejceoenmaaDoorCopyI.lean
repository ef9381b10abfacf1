/- The contracts of copyList, copyTask, copyNode. -/
import Derived.Test.YtocfgejceoenmaaDoorMgMark
namespace Go.Proofs.YtocfgejceoenmaaDoor
open Go.RowKit

/-- An element that still reads in w0: nothing of it is the call's own. -/
def Bor {α : Type} (R : World → α → List Value → Prop) (w0 : World) (_ : World) (x : α) (cs : List Value) (bs : List Nat) : Prop := R w0 x cs ∧ bs = []
section
variable {α : Type} {R : World → α → List Value → Prop} {n : Nat} {w w' : World}
theorem Bor.framed (w0 : World) : Framed (Bor R w0) := fun _ _ _ _ _ h _ => h
theorem seq_news (hn : ∀ x cs, R w x cs → cs.length = n) (w' : World) {b : Nat} {l : List α} : ∀ {off : Nat}, SeqAt R n w b off l → ∃ xs, Elems (Bor R w) w' l xs [] ∧ CellsAt w b off xs ∧ xs.length = l.length * n := by
  induction l with
  | nil => exact fun _ => ⟨[], ⟨rfl, rfl⟩, fun j u hu => by simp at hu, by simp⟩
  | cons x r ih =>
    intro off h
    obtain ⟨cs, hR, hC⟩ := h 0 x rfl
    have hr : SeqAt R n w b (off + n) r := fun i y hy => by
      obtain ⟨ds, h1, h2⟩ := h (i + 1) y (by simpa using hy)
      exact ⟨ds, h1, by rw [show off + n + i * n = off + (i + 1) * n by rw [Nat.add_mul]; omega]; exact h2⟩
    obtain ⟨xs, h1, h2, h3⟩ := ih hr
    have hl := hn _ _ hR
    refine ⟨cs ++ xs, ⟨cs, xs, [], [], rfl, rfl, ⟨hR, rfl⟩, h1⟩, fun j u hu => ?_, by rw [List.length_append, hl, h3, List.length_cons, Nat.add_mul]; omega⟩
    rcases Nat.lt_or_ge j n with hj | hj
    · rw [List.getElem?_append_left (by omega)] at hu
      have := hC j u hu
      rwa [Nat.zero_mul, Nat.add_zero] at this
    · rw [List.getElem?_append_right (by omega), hl] at hu
      have := h2 _ _ hu
      rwa [show off + n + (j - n) = off + j by omega] at this
theorem bor_one (h1 : ∀ x cs, R w x cs → ∀ u ∈ cs, u.oneCell' = true) {l : List α} {xs : List Value} {bs : List Nat} (h : Elems (Bor R w) w' l xs bs) : ∀ u ∈ xs, u.oneCell' = true := by
  induction l generalizing xs bs with
  | nil => obtain ⟨rfl, _⟩ := h; simp
  | cons x r ih =>
    obtain ⟨cs, ys, b1, b2, rfl, rfl, ⟨hR, _⟩, h2⟩ := h
    intro u hu
    rcases List.mem_append.1 hu with hu | hu
    · exact h1 _ _ hR u hu
    · exact ih h2 u hu
end
theorem taskR_len {w : World} {x : TV} {cs : List Value} (h : TaskR w x cs) : cs.length = 7 := by obtain ⟨v1, v2, rfl, _⟩ := h; rfl
theorem nodeR_len {w : World} {x : NV} {cs : List Value} (h : NodeR w x cs) : cs.length = 8 := by obtain ⟨v1, v2, rfl, _⟩ := h; rfl
theorem bindR_len {w : World} {x : BV} {cs : List Value} (h : BindR w x cs) : cs.length = 2 := by obtain rfl := h; rfl
theorem taskR_one {w : World} {x : TV} {cs : List Value} (h : TaskR w x cs) : ∀ u ∈ cs, u.oneCell' = true := by
  obtain ⟨v1, v2, rfl, h1, h2, _⟩ := h
  obtain ⟨A1, c1, rfl, _⟩ := h1.form
  obtain ⟨A2, c2, rfl, _⟩ := h2.form
  intro u hu
  simp at hu
  rcases hu with rfl | rfl | rfl | rfl | rfl | rfl | rfl <;> rfl
theorem nodeR_one {w : World} {x : NV} {cs : List Value} (h : NodeR w x cs) : ∀ u ∈ cs, u.oneCell' = true := by
  obtain ⟨v1, v2, rfl, h1, h2, _⟩ := h
  obtain ⟨A1, c1, rfl, _⟩ := h1.form
  obtain ⟨A2, c2, rfl, _⟩ := h2.form
  intro u hu
  simp at hu
  rcases hu with rfl | rfl | rfl | rfl | rfl | rfl | rfl | rfl <;> rfl
theorem bindR_one {w : World} {x : BV} {cs : List Value} (h : BindR w x cs) : ∀ u ∈ cs, u.oneCell' = true := by
  obtain rfl := h
  intro u hu
  simp at hu
  rcases hu with rfl | rfl <;> rfl
theorem none_below {w w' : World} (h : w.grownBy w' none) : Below w.heap.size w w' := ⟨h.os, h.tape, h.output, h.size, fun k hk => h.block k hk (by simp)⟩
theorem none_blk {w : World} {v' : Value} (hk : v'.ownBlock = (none : Option Nat) ∨ v'.ownBlock = some w.heap.size) : (∀ b ∈ blk v', w.heap.size ≤ b) ∧ (blk v').Nodup := by
  rcases hk with e | e <;> simp [blk, e]
set_option maxHeartbeats 1600000 in
theorem copyListLab_any (v : Value) (l : List LV) (w : World) (h : LabSl w v l) (hl : l.length ≤ 1048576) :
    Calls Tryd.prog 57 #[v] w fun e w' => ∃ v', e = .returned v' ∧ LabO w' v' l ∧ (∀ b ∈ blk v', w.heap.size ≤ b) ∧ (blk v').Nodup ∧ Below w.heap.size w w' := by
  obtain ⟨i0, hi0, hz0, hs0, hy0⟩ := info_parts Tryd.infoLab
  obtain ⟨A, c, rfl, _⟩ := h.form
  have HN := Lib.hid h.news
  clear h
  go_enter Tryd.func57, Tryd.ntmps57
  go_wp2_with (at_builtin; refine wpList_spread _ rfl (.const (.slice none 0 0)) (.tmp 3) 33 rfl 74 i0 _ 2 16 Tryd.underlying33 hi0 hz0 hs0 hy0 rfl (by omega) (.slice none 0 0) 0 [] rfl (World.ownsRow_nil _ _ _ _) A l.length c (labL l) rfl (labL_len l) HN.out (labL_one l) (by simp only [maxLen]; omega) (by omega) ?_; intro v' w1 hown1 hg1 hk1)
  have hb1 := none_below hg1
  obtain ⟨hlo, hnd⟩ := none_blk hk1
  rw [Nat.zero_add, List.nil_append] at hown1
  go_ret
  exact ⟨v', rfl, hown1, hlo, hnd, hb1⟩
set_option maxHeartbeats 1600000 in
theorem copyListInt_any (v : Value) (l : List Int) (w : World) (h : IntSl w v l) (hl : l.length ≤ 1048576) :
    Calls Tryd.prog 58 #[v] w fun e w' => ∃ v', e = .returned v' ∧ IntO w' v' l ∧ (∀ b ∈ blk v', w.heap.size ≤ b) ∧ (blk v').Nodup ∧ Below w.heap.size w w' := by
  obtain ⟨i0, hi0, hz0, hs0, hy0⟩ := info_parts Tryd.infoI
  obtain ⟨A, c, rfl, _⟩ := h.form
  have HN := Lib.hid h.news
  clear h
  go_enter Tryd.func58, Tryd.ntmps58
  go_wp2_with (at_builtin; refine wpList_spread _ rfl (.const (.slice none 0 0)) (.tmp 3) 25 rfl 3 i0 _ 1 8 Tryd.underlying25 hi0 hz0 hs0 hy0 rfl (by omega) (.slice none 0 0) 0 [] rfl (World.ownsRow_nil _ _ _ _) A l.length c (intL l) rfl (by simp [intL]) HN.out (intL_one l) (by simp only [maxLen]; omega) (by omega) ?_; intro v' w1 hown1 hg1 hk1)
  have hb1 := none_below hg1
  obtain ⟨hlo, hnd⟩ := none_blk hk1
  rw [Nat.zero_add, List.nil_append] at hown1
  go_ret
  exact ⟨v', rfl, hown1, hlo, hnd, hb1⟩

set_option maxHeartbeats 3200000 in
theorem copyNode_any (t : NV) (cs : List Value) (w : World) (hR : NodeR w t cs) : Calls Tryd.prog 49 #[.agg cs.toArray] w (RetO NodeO w t) := by
  obtain ⟨v1, v2, rfl, sl, si, m1, m2⟩ := hR
  have hc1 := fun w1 hb => copyListLab_any v1 t.labs w1 (sl.below hb) m1
  have hc2 := fun w1 hb => copyListInt_any v2 t.taints w1 (si.below hb) m2
  obtain ⟨A1, c1, rfl, _⟩ := sl.form
  obtain ⟨A2, c2, rfl, _⟩ := si.form
  have HC1 := Lib.hid hc1
  have HC2 := Lib.hid hc2
  have M := Lib.hid (And.intro m1 m2)
  clear sl si m1 m2 hc1 hc2
  go_enter Tryd.func49, Tryd.ntmps49
  go_wp2_with fail
  have hX : Below w.heap.size w ((w.alloc (.cells #[.int .i64 t.id, .int .i64 t.pool, .int .i64 t.cap.c, .int .i64 t.cap.m, .int .i64 t.cap.p, .slice A1 t.labs.length c1, .slice A2 t.taints.length c2, .bool t.cordon] 35)).alloc (.cells #[.int .i64 0, .int .i64 0, .int .i64 0, .int .i64 0, .int .i64 0, .slice none 0 0, .slice none 0 0, .bool false] 35)) := (by repeat' (first | exact Below.refl _ _ | refine Below.alloc ?_ ?_ _ | refine Below.setCell ?_ ?_ _ | refine Below.drew ?_ | (apply below_step; assumption) | (simp; done) | (simp; omega) | omega))
  have hXz : ((w.alloc (.cells #[.int .i64 t.id, .int .i64 t.pool, .int .i64 t.cap.c, .int .i64 t.cap.m, .int .i64 t.cap.p, .slice A1 t.labs.length c1, .slice A2 t.taints.length c2, .bool t.cordon] 35)).alloc (.cells #[.int .i64 0, .int .i64 0, .int .i64 0, .int .i64 0, .int .i64 0, .slice none 0 0, .slice none 0 0, .bool false] 35)).heap.size = w.heap.size + 2 := by simp
  refine (HC1.out _ hX).mono ?_
  rintro e w1 ⟨u1, rfl, hL1, hlo1, hnd1, hb1⟩
  obtain ⟨B0, B1⟩ := boxes2 _ _ _ _ _ hb1
  have hC1 := below_of hX hb1
  have hz1 := hb1.size
  rw [hXz] at hz1 hlo1
  obtain ⟨E1, d1, rfl, _⟩ := own_form hL1
  have y5 := B0.cell 5
  have y6 := B0.cell 6
  have yf := B0.frozen
  simp at y5 y6
  have HB0 := Lib.hid B0
  have HB1 := Lib.hid B1
  have HL1 := Lib.hid (And.intro hL1 (And.intro hlo1 hnd1))
  clear B0 B1 hb1 hX hXz hL1 hlo1 hnd1
  go_wp2_with fail
  have hC1' : Below w.heap.size w (w1.setCell ⟨w.heap.size, 5, none⟩ (.slice E1 t.labs.length d1)) := hC1.setCell (Nat.le_refl _) _
  have hsz : (w1.setCell ⟨w.heap.size, 5, none⟩ (.slice E1 t.labs.length d1)).heap.size = w1.heap.size := by simp [World.setCell]
  refine (HC2.out _ hC1').mono ?_
  rintro e w2 ⟨u2, rfl, hI2, hlo2, hnd2, hb2⟩
  have hC2 := below_of hC1' hb2
  have hz2 := hb2.size
  have B0 := (HB0.out.put 5 (.slice E1 t.labs.length d1)).below hb2 (by rw [hsz]; omega)
  have B1 := (HB1.out.far (p := ⟨w.heap.size, 5, none⟩) (by dsimp only; omega) (.slice E1 t.labs.length d1)).below hb2 (by rw [hsz]; omega)
  rw [hsz] at hz2 hlo2
  obtain ⟨hL1, hlo1, hnd1⟩ := HL1.out
  have hT1 : TurnB [w.heap.size] w1 w2 := (TurnB.put (TurnB.refl _ _) (List.mem_singleton.2 rfl) _ _).step hb2
  have hl1 := own_lt hL1
  have hL2 := own_agree hL1 (hT1.agree (fun b hb => ⟨hl1 b hb, by have := hlo1 b hb; simp; omega⟩))
  obtain ⟨E2, d2, rfl, _⟩ := own_form hI2
  have y0 := B0.cell 0; have y1 := B0.cell 1; have y2 := B0.cell 2; have y3 := B0.cell 3; have y4 := B0.cell 4; have y5 := B0.cell 5; have y6 := B0.cell 6; have y7 := B0.cell 7
  have yf := B0.frozen
  have z0 := B1.cell 0; have z1 := B1.cell 1; have z2 := B1.cell 2; have z3 := B1.cell 3; have z4 := B1.cell 4; have z5 := B1.cell 5; have z6 := B1.cell 6; have z7 := B1.cell 7
  have zf := B1.frozen
  simp at y0 y1 y2 y3 y4 y5 y6 y7 z0 z1 z2 z3 z4 z5 z6 z7
  have HB1 := Lib.hid B1
  have HF := Lib.hid (And.intro hL2 (And.intro hI2 (And.intro hlo1 (And.intro hnd1 (And.intro hlo2 (And.intro hnd2 hl1))))))
  clear B0 B1 hb2 hL1 hlo1 hnd1 hT1 hL2 hI2 hlo2 hnd2 HL1 hsz hC1' hl1 HB0
  go_wp2_with fail
  have hZ : BlockIs (((((((((w2.setCell ⟨w.heap.size, 6, none⟩ (.slice E2 t.taints.length d2)).setCell ⟨w.heap.size + 1, 0, none⟩ (.int .i64 t.id)).setCell ⟨w.heap.size + 1, 1, none⟩ (.int .i64 t.pool)).setCell ⟨w.heap.size + 1, 2, none⟩ (.int .i64 t.cap.c)).setCell ⟨w.heap.size + 1, 3, none⟩ (.int .i64 t.cap.m)).setCell ⟨w.heap.size + 1, 4, none⟩ (.int .i64 t.cap.p)).setCell ⟨w.heap.size + 1, 5, none⟩ (.slice E1 t.labs.length d1)).setCell ⟨w.heap.size + 1, 6, none⟩ (.slice E2 t.taints.length d2)).setCell ⟨w.heap.size + 1, 7, none⟩ (.bool t.cordon)) (w.heap.size + 1) 35 #[.int .i64 t.id, .int .i64 t.pool, .int .i64 t.cap.c, .int .i64 t.cap.m, .int .i64 t.cap.p, .slice E1 t.labs.length d1, .slice E2 t.taints.length d2, .bool t.cordon] := put8 _ _ _ _ _ _ _ _ (HB1.out.far (p := ⟨w.heap.size, 6, none⟩) (by dsimp only; omega) _) rfl
  have hT : TurnB [w.heap.size, w.heap.size + 1] w2 (((((((((w2.setCell ⟨w.heap.size, 6, none⟩ (.slice E2 t.taints.length d2)).setCell ⟨w.heap.size + 1, 0, none⟩ (.int .i64 t.id)).setCell ⟨w.heap.size + 1, 1, none⟩ (.int .i64 t.pool)).setCell ⟨w.heap.size + 1, 2, none⟩ (.int .i64 t.cap.c)).setCell ⟨w.heap.size + 1, 3, none⟩ (.int .i64 t.cap.m)).setCell ⟨w.heap.size + 1, 4, none⟩ (.int .i64 t.cap.p)).setCell ⟨w.heap.size + 1, 5, none⟩ (.slice E1 t.labs.length d1)).setCell ⟨w.heap.size + 1, 6, none⟩ (.slice E2 t.taints.length d2)).setCell ⟨w.heap.size + 1, 7, none⟩ (.bool t.cordon)) :=
    TurnB.putAll (g := w.heap.size + 1) (TurnB.put (g := w.heap.size) (TurnB.refl _ _) (by simp) 6 (.slice E2 t.taints.length d2)) (by simp) 0 [.int .i64 t.id, .int .i64 t.pool, .int .i64 t.cap.c, .int .i64 t.cap.m, .int .i64 t.cap.p, .slice E1 t.labs.length d1, .slice E2 t.taints.length d2, .bool t.cordon]
  generalize (((((((((w2.setCell ⟨w.heap.size, 6, none⟩ (.slice E2 t.taints.length d2)).setCell ⟨w.heap.size + 1, 0, none⟩ (.int .i64 t.id)).setCell ⟨w.heap.size + 1, 1, none⟩ (.int .i64 t.pool)).setCell ⟨w.heap.size + 1, 2, none⟩ (.int .i64 t.cap.c)).setCell ⟨w.heap.size + 1, 3, none⟩ (.int .i64 t.cap.m)).setCell ⟨w.heap.size + 1, 4, none⟩ (.int .i64 t.cap.p)).setCell ⟨w.heap.size + 1, 5, none⟩ (.slice E1 t.labs.length d1)).setCell ⟨w.heap.size + 1, 6, none⟩ (.slice E2 t.taints.length d2)).setCell ⟨w.heap.size + 1, 7, none⟩ (.bool t.cordon)) = Y at hZ hT ⊢
  have hB : Below w.heap.size w Y := hC2.trans (hT.below hC2.size (by simp))
  have z0 := hZ.cell 0; have z1 := hZ.cell 1; have z2 := hZ.cell 2; have z3 := hZ.cell 3; have z4 := hZ.cell 4; have z5 := hZ.cell 5; have z6 := hZ.cell 6; have z7 := hZ.cell 7
  simp at z0 z1 z2 z3 z4 z5 z6 z7
  obtain ⟨hL2, hI2, hlo1, hnd1, hlo2, hnd2, hl1⟩ := HF.out
  refine bodyPost_ret (v := .agg #[.int .i64 t.id, .int .i64 t.pool, .int .i64 t.cap.c, .int .i64 t.cap.m, .int .i64 t.cap.p, .slice E1 t.labs.length d1, .slice E2 t.taints.length d2, .bool t.cordon]) (by simp [results, Tryd.results49, go_sem, z0, z1, z2, z3, z4, z5, z6, z7]) rfl ⟨_, _, rfl, ⟨_, _, rfl, own_agree hL2 (hT.agree (fun b hb => ⟨own_lt hL2 b hb, by have := hlo1 b hb; simp; omega⟩)), own_agree hI2 (hT.agree (fun b hb => ⟨own_lt hI2 b hb, by have := hlo2 b hb; simp; omega⟩)), rfl, M.out⟩, ?_, ?_, hB⟩
  · rw [List.nodup_append]
    exact ⟨hnd1, hnd2, fun a ha b hb e => by have := hl1 a ha; have := hlo2 b hb; omega⟩
  · intro b hb
    rcases List.mem_append.1 hb with hb | hb
    · have := hlo1 b hb; omega
    · have := hlo2 b hb; omega
end Go.Proofs.YtocfgejceoenmaaDoor
