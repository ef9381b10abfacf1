/- The model's draw of a list of labels and a label: DrawLabsPut. -/
import Derived.Test.YtelfoedgbgandaaDrawB
import Derived.Test.YtelfoedgbgandaaRegInv
namespace Go.Proofs.Ytelfoedgbgandaa
open Go.RowKit

/-- The ending of a draw of a list of labels and a label. -/
def DrawnLP (w : World) (e : Ending) (w' : World) : Prop := ∃ (v : Value) (l : List LV) (x : LV), e = .returned (.tuple #[v, .agg #[.int .i64 x.k, .int .i64 x.v]]) ∧ Owns w' w.heap.size v l ∧ l.length ≤ 20 ∧ Below w.heap.size w w'

section
variable {P : Program} {ops : Array Oper} {o : Oper} {a : Act} {w w' : World} {K : Act → World → Prop} {Q : Exit → Act → World → Prop} {E : Prop}
theorem step_value (hg : o.guard = none) (v : Value) (h : (execOp a.eval o).run P w = .ok (.value v) w') (hK : K (a.put o.dst v) w') : if Region.wanted o (yielded ops a.tmps) = true then Oper.wp P o a w K Q else E := by
  rw [if_pos (by simp [Region.wanted, hg])]
  unfold Oper.wp; rw [h]; exact hK
theorem step_skip (hg : o.guard = none) (h : (execOp a.eval o).run P w = .ok .skip w') (hK : K (a.put o.dst undef) w') : if Region.wanted o (yielded ops a.tmps) = true then Oper.wp P o a w K Q else E := by
  rw [if_pos (by simp [Region.wanted, hg])]
  unfold Oper.wp; rw [h]; exact hK
theorem step_enter (hg : o.guard = none) (f : FuncId) (args : Array Value) (h : (execOp a.eval o).run P w = .ok (.enter f args) w) (hc : Calls P f args w fun e w' => ∃ v, e = .returned v ∧ K (a.put o.dst v) w') : if Region.wanted o (yielded ops a.tmps) = true then Oper.wp P o a w K Q else E := by
  rw [if_pos (by simp [Region.wanted, hg])]
  unfold Oper.wp; rw [h]
  exact hc.mono fun e w' ⟨v, he, hk⟩ => by subst he; exact hk
end

/-- Of what was there only blocks g and bx may have turned. -/
structure Two (g bx : Nat) (w w' : World) : Prop where
  os : w'.os = w.os
  tape : w'.tape = w.tape
  output : w'.output = w.output
  size : w.heap.size ≤ w'.heap.size
  block : ∀ k, k < w.heap.size → k ≠ g → k ≠ bx → w'.heap[k]? = w.heap[k]?
section
variable {g bx : Nat} {w w' w'' : World}
theorem Two.refl (g bx : Nat) (w : World) : Two g bx w w := ⟨rfl, rfl, rfl, Nat.le_refl _, fun _ _ _ _ => rfl⟩
theorem Two.trans (h : Two g bx w w') (h' : Two g bx w' w'') : Two g bx w w'' :=
  ⟨h'.os.trans h.os, h'.tape.trans h.tape, h'.output.trans h.output, Nat.le_trans h.size h'.size, fun k hk hg hb => (h'.block k (Nat.lt_of_lt_of_le hk h.size) hg hb).trans (h.block k hk hg hb)⟩
theorem Two.of_but (h : But g w w') : Two g bx w w' := ⟨h.os, h.tape, h.output, h.size, fun k hk hg _ => h.block k hk hg⟩
theorem Two.of_box (h : But bx w w') : Two g bx w w' := ⟨h.os, h.tape, h.output, h.size, fun k hk _ hb => h.block k hk hb⟩
theorem BlockIs.two {b : Nat} {t : TypeId} {cs : Array Value} (h : BlockIs w b t cs) (hb : Two g bx w w') (h1 : b ≠ g) (h2 : b ≠ bx) : BlockIs w' b t cs := (hb.block b h.lt h1 h2).trans h
theorem Owns.two {base : Nat} {v : Value} {l : List LV} (h : Owns w base v l) (hb : Two g bx w w') (h1 : g < base) (h2 : bx < base) : Owns w' base v l := by
  obtain ⟨q1, q2⟩ := h
  refine ⟨q1, ?_⟩
  rcases q2 with q | ⟨k, cap, cur, hv, hg, hh, q⟩
  · exact .inl q
  · have hlt : k < w.heap.size := (Array.getElem?_eq_some_iff.1 hh).1
    exact .inr ⟨k, cap, cur, hv, hg, (hb.block k hlt (by omega) (by omega)).trans hh, q⟩
end

/-- The kinds of values that the draw's slots take. -/
inductive Kd where
  | ptr | lst | int | idx | row | loc | lab | any
def Fits (g : Nat) : Kd → World → Value → Prop
  | .ptr, _, v => v = .pointer (some ⟨g, 0, none⟩)
  | .lst, w, v => ∃ l, Owns w (g + 1) v l ∧ l.length ≤ 20
  | .int, _, v => ∃ z : Int, v = .int .i64 z
  | .idx, _, v => ∃ z : Int, (0 ≤ z ∧ z < 3) ∧ v = .int .i64 z
  | .row, w, v => ∃ (b : Nat) (x0 x1 x2 : Int), v = .slice (some ⟨b, 0, none⟩) 3 3 ∧ g < b ∧ BlockIs w b 3 #[.int .i64 x0, .int .i64 x1, .int .i64 x2]
  | .loc, w, v => ∃ (b o : Nat) (z : Int) (cs : Array Value), v = .pointer (some ⟨b, o, none⟩) ∧ g < b ∧ BlockIs w b 3 cs ∧ cs[o]? = some (.int .i64 z)
  | .lab, _, v => ∃ x : LV, v = .agg #[.int .i64 x.k, .int .i64 x.v]
  | .any, _, _ => True
theorem Fits.two {g bx : Nat} {k : Kd} {w w' : World} {v : Value} (hbx : bx < g) (h : Fits g k w v) (hb : Two g bx w w') : Fits g k w' v := by
  cases k with
  | lst => obtain ⟨l, h1, h2⟩ := h; exact ⟨l, h1.two hb (by omega) (by omega), h2⟩
  | row => obtain ⟨b, x0, x1, x2, h1, h2, h3⟩ := h; exact ⟨b, x0, x1, x2, h1, h2, h3.two hb (by omega) (by omega)⟩
  | loc => obtain ⟨b, o, z, cs, h1, h2, h3, h4⟩ := h; exact ⟨b, o, z, cs, h1, h2, h3.two hb (by omega) (by omega), h4⟩
  | _ => exact h

/-- The slot that operation i writes, and the kind of what it writes. -/
def slotOf (i : Nat) : Nat := if i = 25 then 2 else if i = 26 then 1 else i + 7
def kindOf : Nat → Kd
  | 1 => .lst
  | 3 | 5 | 7 | 12 | 14 | 16 | 18 | 23 => .int
  | 10 | 21 => .idx
  | 8 | 19 => .row
  | 11 | 22 => .loc
  | 24 => .lab
  | 25 => .lst
  | 26 => .any
  | _ => .ptr
/-- The draw's invariant. -/
structure Inv (g bx G : Nat) (A : Option Addr) (n c : Nat) (X : World) (f : Nat) (listed : Array Bool) (a : Act) (w : World) : Prop where
  defers : a.defers = []
  size : a.tmps.size = 32
  box : a.eval (.tmp 3) = .pointer (some ⟨bx, 0, none⟩)
  cur : a.eval (.tmp 4) = .pointer (some ⟨g, 0, none⟩)
  curAt : ∃ m, m + 30 * f ≤ 900000000 ∧ CurAt g G A n c m w
  boxAt : ∃ x : LV, BlockIs w bx 26 #[.int .i64 x.k, .int .i64 x.v]
  two : Two g bx X w
  fits : ∀ i, i < 27 → listed.getD i false = true → Fits g (kindOf i) w (a.eval (.tmp (slotOf i)))

theorem eval_put_same {a : Act} {d : Nat} {v : Value} (h : d < a.tmps.size) : (a.put (some d) v).eval (.tmp d) = v := by
  simp [Act.put, Act.eval, h]
theorem eval_put_other {a : Act} {d e : Nat} {v : Value} (h : d ≠ e) : (a.put (some d) v).eval (.tmp e) = a.eval (.tmp e) := by
  simp [Act.put, Act.eval, Array.getElem?_setIfInBounds_ne h]
theorem slot_inj {i j : Nat} (h : i ≠ j) : slotOf i ≠ slotOf j := by
  unfold slotOf
  repeat' split
  all_goals omega
theorem slot_range {i : Nat} (hi : i < 27) : slotOf i < 32 ∧ slotOf i ≠ 3 ∧ slotOf i ≠ 4 := by
  unfold slotOf
  repeat' split
  all_goals omega

/-- An operation that writes its slot leaves the invariant. -/
theorem Inv.put {g bx G : Nat} {A : Option Addr} {n c : Nat} {X : World} {f : Nat} {listed : Array Bool} {a : Act} {w w' : World} (hbx : bx < g) (h : Inv g bx G A n c X (f + 1) listed a w) {i : Nat} (hi : i < 27) {v : Value} (ht : Two g bx w w') (hc : ∃ m, m + 30 * f ≤ 900000000 ∧ CurAt g G A n c m w') (hb : ∃ x : LV, BlockIs w' bx 26 #[.int .i64 x.k, .int .i64 x.v]) (hf : Fits g (kindOf i) w' v) :
    Inv g bx G A n c X f (listed.setIfInBounds i true) (a.put (some (slotOf i)) v) w' := by
  obtain ⟨r1, r2, r3⟩ := slot_range hi
  refine ⟨h.defers, by simpa [Act.put] using h.size, ?_, ?_, hc, hb, h.two.trans ht, fun j hj hl => ?_⟩
  · rw [eval_put_other r2]; exact h.box
  · rw [eval_put_other r3]; exact h.cur
  · by_cases e : i = j
    · subst e
      rw [eval_put_same (by rw [h.size]; exact r1)]; exact hf
    · rw [eval_put_other (slot_inj e)]
      rw [getD_set_ne false e] at hl
      exact (h.fits j hj hl).two hbx ht
theorem Inv.stay {g bx G : Nat} {A : Option Addr} {n c : Nat} {X : World} {f : Nat} {listed : Array Bool} {a : Act} {w : World} (hbx : bx < g) (h : Inv g bx G A n c X (f + 1) listed a w) {i : Nat} (hi : i < 27) {v : Value} (hf : Fits g (kindOf i) w v) : Inv g bx G A n c X f (listed.setIfInBounds i true) (a.put (some (slotOf i)) v) w := by
  obtain ⟨m, hm, hc⟩ := h.curAt
  exact h.put hbx hi (Two.refl _ _ _) ⟨m, by omega, hc⟩ h.boxAt hf

section
variable {o : Oper} {a : Act} {w : World}
theorem r_move {P : Program} {x : Operand} (h : o.op = .move x) : (execOp a.eval o).run P w = .ok (.value (a.eval x)) w := by simp [execOp, h]
theorem r_assign {P : Program} {x : Operand} (h : o.op = .assign x) : (execOp a.eval o).run P w = .ok (.value (a.eval x)) w := by simp [execOp, h]
theorem r_bad {x : Operand} {t : TypeId} {v : Value} (h : o.op = .call { callee := .value (.func 35), args := #[x], argTypes := #[t] }) (h0 : a.eval x = v) : (execOp a.eval o).run Try.prog w = .ok (.enter 35 #[v]) w := by
  subst h0
  unfold execOp
  rw [h]
  go_simp
theorem r_raw {x : Operand} {t : TypeId} {v : Value} (h : o.op = .call { callee := .value (.func 37), args := #[x], argTypes := #[t] }) (h0 : a.eval x = v) : (execOp a.eval o).run Try.prog w = .ok (.enter 37 #[v]) w := by
  subst h0
  unfold execOp
  rw [h]
  go_simp
theorem r_pick {x : Operand} {t u : TypeId} {v k : Value} (h : o.op = .call { callee := .value (.func 36), args := #[x, .const k], argTypes := #[t, u] }) (h0 : a.eval x = v) : (execOp a.eval o).run Try.prog w = .ok (.enter 36 #[v, k]) w := by
  subst h0
  unfold execOp
  rw [h]
  go_simp
theorem r_row {x y z : Operand} {y0 y1 y2 : Int} (h : o.op = .buildSlice 35 3 #[(0, x), (1, y), (2, z)]) (h0 : a.eval x = .int .i64 y0) (h1 : a.eval y = .int .i64 y1) (h2 : a.eval z = .int .i64 y2) :
    (execOp a.eval o).run Try.prog w = .ok (.value (.slice (some ⟨w.heap.size, 0, none⟩) 3 3)) (w.alloc (.cells #[.int .i64 y0, .int .i64 y1, .int .i64 y2] 3)) := by
  unfold execOp
  rw [h]
  simp only [List.map_toArray, List.map_cons, List.map_nil, h0, h1, h2]
  go_simp
theorem r_index {x y : Operand} {b : Nat} {z : Int} (h : o.op = .indexAddr 35 x y) (h0 : a.eval x = .slice (some ⟨b, 0, none⟩) 3 3) (h1 : a.eval y = .int .i64 z) (hz0 : 0 ≤ z) (hz1 : z < 3) :
    (execOp a.eval o).run Try.prog w = .ok (.value (.pointer (some ⟨b, z.toNat, none⟩))) w := by
  unfold execOp
  rw [h]
  simp only [h0, h1]
  go_simp
theorem r_load {x : Operand} {b k : Nat} {z : Int} (h : o.op = .load 3 x) (h0 : a.eval x = .pointer (some ⟨b, k, none⟩)) (hc : w.cell? ⟨b, k, none⟩ = some (.int .i64 z)) :
    (execOp a.eval o).run Try.prog w = .ok (.value (.int .i64 z)) w := by
  unfold execOp
  rw [h]
  simp only [h0]
  go_simp
theorem r_build {x y : Operand} {y0 y1 : Int} (h : o.op = .build 26 #[(0, x), (1, y)]) (h0 : a.eval x = .int .i64 y0) (h1 : a.eval y = .int .i64 y1) :
    (execOp a.eval o).run Try.prog w = .ok (.value (.agg #[.int .i64 y0, .int .i64 y1])) w := by
  unfold execOp
  rw [h]
  simp only [List.map_toArray, List.map_cons, List.map_nil, h0, h1]
  go_simp
theorem r_store {x y : Operand} {b : Nat} {z0 z1 : Value} {y0 y1 : Int} (h : o.op = .store 26 x y) (h0 : a.eval x = .pointer (some ⟨b, 0, none⟩)) (h1 : a.eval y = .agg #[.int .i64 y0, .int .i64 y1]) (hb : BlockIs w b 26 #[z0, z1]) :
    (execOp a.eval o).run Try.prog w = .ok .skip ((w.setCell ⟨b, 0, none⟩ (.int .i64 y0)).setCell ⟨b, 1, none⟩ (.int .i64 y1)) := by
  have c0 := hb.cell 0
  have c1 := hb.cell 1
  have cf := hb.frozen
  simp at c0 c1
  unfold execOp
  rw [h]
  simp only [h0, h1]
  go_simp
end

section
variable {g bx G : Nat} {A : Option Addr} {n c : Nat} {X : World} {f : Nat} {listed : Array Bool} {a : Act} {w : World} {o : Oper} {ops : Array Oper} {K : Act → World → Prop} {Q : Exit → Act → World → Prop} {E : Prop} {i : Nat}
theorem inv_move (hbx : bx < g) (hI : Inv g bx G A n c X (f + 1) listed a w) (hK : ∀ a' w', Inv g bx G A n c X f (listed.setIfInBounds i true) a' w' → K a' w') (hi : i < 27) (hk : kindOf i = .ptr) (hg : o.guard = none) (hd : o.dst = some (slotOf i)) (hop : o.op = .move (.tmp 4)) :
    if Region.wanted o (yielded ops a.tmps) = true then Oper.wp Try.prog o a w K Q else E := by
  refine step_value hg _ (r_move hop) (hK _ _ ?_)
  rw [hd]
  exact hI.stay hbx hi (by rw [hk]; exact hI.cur)
theorem inv_num (hbx : bx < g) (hI : Inv g bx G A n c X (f + 1) listed a w) {w' : World} {z : Int} {m d : Nat} (hm : m + 30 * (f + 1) ≤ 900000000) (hd : d ≤ 30) (hb : But g w w') (hc : CurAt g G A n c (m + d) w') (hi : i < 27) (hf : Fits g (kindOf i) w' (.int .i64 z)) :
    Inv g bx G A n c X f (listed.setIfInBounds i true) (a.put (some (slotOf i)) (.int .i64 z)) w' := by
  obtain ⟨x, hx⟩ := hI.boxAt
  exact hI.put hbx hi (Two.of_but hb) ⟨m + d, by omega, hc⟩ ⟨x, hx.but hb (by omega)⟩ hf
theorem inv_pick (hbx : bx < g) (hG : G ≤ g) (hn : n ≤ 1048576) (hI : Inv g bx G A n c X (f + 1) listed a w) (hK : ∀ a' w', Inv g bx G A n c X f (listed.setIfInBounds i true) a' w' → K a' w') (hi : i < 27) (k : Int) (hk : kindOf i = .int ∨ kindOf i = .idx ∧ k = 3) (hg : o.guard = none) (hd : o.dst = some (slotOf i)) {s : Nat} {t u : TypeId} (hk2 : 2 ≤ k) (hk3 : k ≤ 1000)
    (hop : o.op = .call { callee := .value (.func 36), args := #[.tmp s, .const (.int .i64 k)], argTypes := #[t, u] }) (hs : a.eval (.tmp s) = .pointer (some ⟨g, 0, none⟩)) :
    if Region.wanted o (yielded ops a.tmps) = true then Oper.wp Try.prog o a w K Q else E := by
  obtain ⟨m, hm, hc⟩ := hI.curAt
  refine step_enter hg _ _ (r_pick hop hs) ((pick_any g G A n c m k w hG hn (by omega) hk2 (by omega) hc).mono fun e w' ⟨z, hz, he, hb, hc'⟩ => ⟨_, he, hK _ _ ?_⟩)
  rw [hd]
  refine inv_num hbx hI hm (by omega) hb hc' hi ?_
  rcases hk with hk | ⟨hk, rfl⟩
  · rw [hk]; exact ⟨z, rfl⟩
  · rw [hk]; exact ⟨z, hz, rfl⟩
theorem inv_raw (hbx : bx < g) (hG : G ≤ g) (hn : n ≤ 1048576) (hI : Inv g bx G A n c X (f + 1) listed a w) (hK : ∀ a' w', Inv g bx G A n c X f (listed.setIfInBounds i true) a' w' → K a' w') (hi : i < 27) (hk : kindOf i = .int) (hg : o.guard = none) (hd : o.dst = some (slotOf i)) {s : Nat} {t : TypeId}
    (hop : o.op = .call { callee := .value (.func 37), args := #[.tmp s], argTypes := #[t] }) (hs : a.eval (.tmp s) = .pointer (some ⟨g, 0, none⟩)) :
    if Region.wanted o (yielded ops a.tmps) = true then Oper.wp Try.prog o a w K Q else E := by
  obtain ⟨m, hm, hc⟩ := hI.curAt
  refine step_enter hg _ _ (r_raw hop hs) ((raw_any g G A n c m w hG hn (by omega) hc).mono fun e w' ⟨z, _, he, hb, hc'⟩ => ⟨_, he, hK _ _ ?_⟩)
  rw [hd]
  exact inv_num hbx hI hm (by omega) hb hc' hi (by rw [hk]; exact ⟨z, rfl⟩)
theorem inv_bad (hbx : bx < g) (hG : G ≤ g) (hn : n ≤ 1048576) (hI : Inv g bx G A n c X (f + 1) listed a w) (hK : ∀ a' w', Inv g bx G A n c X f (listed.setIfInBounds i true) a' w' → K a' w') (hi : i < 27) (hk : kindOf i = .lst) (hg : o.guard = none) (hd : o.dst = some (slotOf i)) {s : Nat} {t : TypeId}
    (hop : o.op = .call { callee := .value (.func 35), args := #[.tmp s], argTypes := #[t] }) (hs : a.eval (.tmp s) = .pointer (some ⟨g, 0, none⟩)) :
    if Region.wanted o (yielded ops a.tmps) = true then Oper.wp Try.prog o a w K Q else E := by
  obtain ⟨m, hm, hc⟩ := hI.curAt
  obtain ⟨x, hx⟩ := hI.boxAt
  have hlt := hc.lt
  refine step_enter hg _ _ (r_bad hop hs) ((badLabs_any g G A n c m w hG hn (by omega) hc).mono fun e w' ⟨v, l, he, ho, hl, hb, hc'⟩ => ⟨_, he, hK _ _ ?_⟩)
  rw [hd]
  exact hI.put hbx hi (Two.of_but hb) ⟨m + 20, by omega, hc'⟩ ⟨x, hx.but hb (by omega)⟩ (by rw [hk]; exact ⟨l, ho.lower hlt, hl⟩)
theorem inv_row (hbx : bx < g) (hG : G ≤ g) (hI : Inv g bx G A n c X (f + 1) listed a w) (hK : ∀ a' w', Inv g bx G A n c X f (listed.setIfInBounds i true) a' w' → K a' w') (hi : i < 27) (hk : kindOf i = .row) (hg : o.guard = none) (hd : o.dst = some (slotOf i)) {s0 s1 s2 : Nat}
    (hop : o.op = .buildSlice 35 3 #[(0, .tmp s0), (1, .tmp s1), (2, .tmp s2)]) (h0 : Fits g .int w (a.eval (.tmp s0))) (h1 : Fits g .int w (a.eval (.tmp s1))) (h2 : Fits g .int w (a.eval (.tmp s2))) :
    if Region.wanted o (yielded ops a.tmps) = true then Oper.wp Try.prog o a w K Q else E := by
  obtain ⟨m, hm, hc⟩ := hI.curAt
  obtain ⟨x, hx⟩ := hI.boxAt
  obtain ⟨y0, h0⟩ := h0
  obtain ⟨y1, h1⟩ := h1
  obtain ⟨y2, h2⟩ := h2
  have hlt := hc.lt
  refine step_value hg _ (r_row hop h0 h1 h2) (hK _ _ ?_)
  rw [hd]
  exact hI.put hbx hi (Two.of_but ((But.refl g w).alloc _)) ⟨m, by omega, hc.but_alloc hG _⟩ ⟨x, hx.alloc _⟩ (by rw [hk]; exact ⟨w.heap.size, y0, y1, y2, rfl, hlt, BlockIs.new _ _ _⟩)
theorem inv_index (hbx : bx < g) (hI : Inv g bx G A n c X (f + 1) listed a w) (hK : ∀ a' w', Inv g bx G A n c X f (listed.setIfInBounds i true) a' w' → K a' w') (hi : i < 27) (hk : kindOf i = .loc) (hg : o.guard = none) (hd : o.dst = some (slotOf i)) {s0 s1 : Nat}
    (hop : o.op = .indexAddr 35 (.tmp s0) (.tmp s1)) (h0 : Fits g .row w (a.eval (.tmp s0))) (h1 : Fits g .idx w (a.eval (.tmp s1))) :
    if Region.wanted o (yielded ops a.tmps) = true then Oper.wp Try.prog o a w K Q else E := by
  obtain ⟨b, x0, x1, x2, h0, hgb, hb⟩ := h0
  obtain ⟨z, ⟨z0, z1⟩, h1⟩ := h1
  obtain ⟨q, hq, _⟩ := three' x0 x1 x2 z z0 z1
  refine step_value hg _ (r_index hop h0 h1 z0 z1) (hK _ _ ?_)
  rw [hd]
  exact hI.stay hbx hi (by rw [hk]; exact ⟨b, z.toNat, q, _, rfl, hgb, hb, hq⟩)
theorem inv_load (hbx : bx < g) (hI : Inv g bx G A n c X (f + 1) listed a w) (hK : ∀ a' w', Inv g bx G A n c X f (listed.setIfInBounds i true) a' w' → K a' w') (hi : i < 27) (hk : kindOf i = .int) (hg : o.guard = none) (hd : o.dst = some (slotOf i)) {s0 : Nat}
    (hop : o.op = .load 3 (.tmp s0)) (h0 : Fits g .loc w (a.eval (.tmp s0))) :
    if Region.wanted o (yielded ops a.tmps) = true then Oper.wp Try.prog o a w K Q else E := by
  obtain ⟨b, k, z, cs, h0, hgb, hb, hz⟩ := h0
  refine step_value hg _ (r_load hop h0 ((hb.cell k).trans hz)) (hK _ _ ?_)
  rw [hd]
  exact hI.stay hbx hi (by rw [hk]; exact ⟨z, rfl⟩)
theorem inv_build (hbx : bx < g) (hI : Inv g bx G A n c X (f + 1) listed a w) (hK : ∀ a' w', Inv g bx G A n c X f (listed.setIfInBounds i true) a' w' → K a' w') (hi : i < 27) (hk : kindOf i = .lab) (hg : o.guard = none) (hd : o.dst = some (slotOf i)) {s0 s1 : Nat}
    (hop : o.op = .build 26 #[(0, .tmp s0), (1, .tmp s1)]) (h0 : Fits g .int w (a.eval (.tmp s0))) (h1 : Fits g .int w (a.eval (.tmp s1))) :
    if Region.wanted o (yielded ops a.tmps) = true then Oper.wp Try.prog o a w K Q else E := by
  obtain ⟨y0, h0⟩ := h0
  obtain ⟨y1, h1⟩ := h1
  refine step_value hg _ (r_build hop h0 h1) (hK _ _ ?_)
  rw [hd]
  exact hI.stay hbx hi (by rw [hk]; exact ⟨⟨y0, y1⟩, rfl⟩)
theorem inv_assign (hbx : bx < g) (hI : Inv g bx G A n c X (f + 1) listed a w) (hK : ∀ a' w', Inv g bx G A n c X f (listed.setIfInBounds i true) a' w' → K a' w') (hi : i < 27) (hk : kindOf i = .lst) (hg : o.guard = none) (hd : o.dst = some (slotOf i)) {s0 : Nat}
    (hop : o.op = .assign (.tmp s0)) (h0 : Fits g .lst w (a.eval (.tmp s0))) :
    if Region.wanted o (yielded ops a.tmps) = true then Oper.wp Try.prog o a w K Q else E := by
  refine step_value hg _ (r_assign hop) (hK _ _ ?_)
  rw [hd]
  exact hI.stay hbx hi (by rw [hk]; exact h0)
theorem inv_store (hbx : bx < g) (hGx : G ≤ bx) (hI : Inv g bx G A n c X (f + 1) listed a w) (hK : ∀ a' w', Inv g bx G A n c X f (listed.setIfInBounds 26 true) a' w' → K a' w') (hg : o.guard = none) (hd : o.dst = none) {s0 : Nat}
    (hop : o.op = .store 26 (.tmp 3) (.tmp s0)) (h0 : Fits g .lab w (a.eval (.tmp s0))) :
    if Region.wanted o (yielded ops a.tmps) = true then Oper.wp Try.prog o a w K Q else E := by
  obtain ⟨m, hm, hc⟩ := hI.curAt
  obtain ⟨x, hx⟩ := hI.boxAt
  obtain ⟨y, h0⟩ := h0
  refine step_skip hg (r_store hop hI.box h0 hx) (hK _ _ ?_)
  rw [hd]
  have hb : But bx w ((w.setCell ⟨bx, 0, none⟩ (.int .i64 y.k)).setCell ⟨bx, 1, none⟩ (.int .i64 y.v)) := ((But.refl bx w).put 0 _).put 1 _
  have ht : Two g bx w _ := Two.of_box hb
  obtain ⟨q, s, hk, q0, q1, q2, q3, q4⟩ := hc
  refine ⟨hI.defers, hI.size, hI.box, hI.cur, ⟨m, by omega, q, s, hk.but hb (by omega), q0, q1, q2, q3, fun hn => ?_⟩, ⟨y, ?_⟩, hI.two.trans ht, fun j hj hl => ?_⟩
  · obtain ⟨b, off, rfl, hbG, hcc⟩ := q4 hn
    refine ⟨b, off, rfl, hbG, fun i hi => ?_⟩
    obtain ⟨z, z0, z1, hz⟩ := hcc i hi
    have hbb : b ≠ bx := by omega
    exact ⟨z, z0, z1, (hb.cell (b := b) _ (World.block_lt_of_cell? _ _ hz) hbb).trans hz⟩
  · have := (hx.put 0 (.int .i64 y.k)).put 1 (.int .i64 y.v)
    simpa using this
  · by_cases e : 26 = j
    · subst e; trivial
    · rw [getD_set_ne false e] at hl
      exact (hI.fits j hj hl).two hbx ht
end

set_option maxRecDepth 100000 in
set_option maxHeartbeats 3200000 in
theorem DrawLabsPut_any (A : Option Addr) (n c : Nat) (w : World) (hn : n ≤ 1048576) (hc : CodeAt w A n) :
    Calls Try.prog 12 #[.slice A n c] w (DrawnLP w) := by
  have hb0 : Below w.heap.size w (w.alloc (.cells #[.int .i64 0, .int .i64 0] 26)) := (by repeat' (first | exact Below.refl _ _ | refine Below.alloc ?_ ?_ _ | refine Below.setCell ?_ ?_ _ | refine Below.drew ?_ | (apply below_step; assumption) | (simp; done) | (simp; omega) | omega))
  have HC : Hid (0 < n → ∃ b off, A = some ⟨b, off, none⟩ ∧ b < w.heap.size ∧ ∀ i, i < n → ∃ z : Int, 0 ≤ z ∧ z ≤ 255 ∧ (w.alloc (.cells #[.int .i64 0, .int .i64 0] 26)).cell? ⟨b, off + i, none⟩ = some (.int .u8 z)) := fun h => by
    obtain ⟨b, off, rfl, hlt, hcc⟩ := hc h
    exact ⟨b, off, rfl, hlt, fun i hi => by
      obtain ⟨z, z0, z1, hz⟩ := hcc i hi
      exact ⟨z, z0, z1, (hb0.cell (p := ⟨b, _, none⟩) hlt).trans hz⟩⟩
  have T2 := Lib.hid (BlockIs.new w 26 #[.int .i64 0, .int .i64 0])
  clear hc
  go_enter Try.func12, Try.ntmps12
  go_wp2_with fail
  refine (l01Open_any A n c _ hn w.heap.size (by simp) HC.out).mono ?_
  rintro e w1 ⟨rfl, hb1, hc1⟩
  have T1 := T2.out.below hb1 (by simp)
  have hz1 := hb1.size
  simp at hz1 hc1
  have hB1 : Below w.heap.size w w1 := (by repeat' (first | exact Below.refl _ _ | refine Below.alloc ?_ ?_ _ | refine Below.setCell ?_ ?_ _ | refine Below.drew ?_ | (apply below_step; assumption) | (simp; done) | (simp; omega) | omega))
  clear T2 hb1 hb0 HC
  go_wp2_with fail
  have hbx : w.heap.size < w.heap.size + 1 := by omega
  have hG : w.heap.size ≤ w.heap.size + 1 := by omega
  refine wp_region_any (by kernel_rfl) ?_
  refine wpAny_inv (by decide +kernel) (Inv (w.heap.size + 1) w.heap.size w.heap.size A n c w1) ?_ ?_ _ _ _ _ (by simp) (by decide +kernel) ?_
  · intro f listed a w2 hI hall
    have h2 : Fits (w.heap.size + 1) .lst w2 (a.eval (.tmp 2)) := hI.fits 25 (by omega) (hall 25 (by simp))
    obtain ⟨l, ho, hl⟩ := h2
    obtain ⟨x, hx⟩ := hI.boxAt
    have c0 := hx.cell 0
    have c1 := hx.cell 1
    simp at c0 c1
    obtain ⟨v, hv⟩ : ∃ v, a.eval (.tmp 2) = v := ⟨_, rfl⟩
    rw [hv] at ho
    have e2 : a.tmps[2]?.getD undef = v := by rw [← hv]; simp [Act.eval]
    have e3 : a.tmps[3]?.getD undef = .pointer (some ⟨w.heap.size, 0, none⟩) := by rw [← hI.box]; simp [Act.eval]
    rename_i hcont
    refine hcont a w2 ?_
    have hfin : Below w.heap.size w w2 := hB1.trans (show Below w.heap.size w1 w2 from ⟨hI.two.os, hI.two.tape, hI.two.output, hI.two.size, fun k hk => hI.two.block k (by omega) (by omega) (by omega)⟩)
    apply wp_ret
    refine bodyPost_ret (R := DrawnLP w) (v := .tuple #[v, .agg #[.int .i64 x.k, .int .i64 x.v]]) ?_ hI.defers ⟨_, l, x, rfl, ho.lower (by omega), hl, hfin⟩
    simp [results, Try.results12, go_sem, e2, e3, c0, c1]
  · intro f listed a w2 i o hI hi h0 hio hdep K hK
    have hi' : i < 27 := hi
    match i, hi' with
    | 0, _ =>
      obtain rfl := Option.some.inj (show some _ = some o from hio)
      exact inv_move hbx hI hK (by omega) rfl rfl rfl rfl
    | 1, _ =>
      obtain rfl := Option.some.inj (show some _ = some o from hio)
      exact inv_bad hbx hG hn hI hK (by omega) rfl rfl rfl rfl (hI.fits 0 (by omega) (hdep { on := 0, ground := .data } (by simp) (by rfl)))
    | 2, _ =>
      obtain rfl := Option.some.inj (show some _ = some o from hio)
      exact inv_move hbx hI hK (by omega) rfl rfl rfl rfl
    | 3, _ =>
      obtain rfl := Option.some.inj (show some _ = some o from hio)
      exact inv_pick hbx hG hn hI hK (by omega) 4 (.inl rfl) rfl rfl (by omega) (by omega) rfl (hI.fits 2 (by omega) (hdep { on := 2, ground := .data } (by simp) (by rfl)))
    | 4, _ =>
      obtain rfl := Option.some.inj (show some _ = some o from hio)
      exact inv_move hbx hI hK (by omega) rfl rfl rfl rfl
    | 5, _ =>
      obtain rfl := Option.some.inj (show some _ = some o from hio)
      exact inv_pick hbx hG hn hI hK (by omega) 10 (.inl rfl) rfl rfl (by omega) (by omega) rfl (hI.fits 4 (by omega) (hdep { on := 4, ground := .data } (by simp) (by rfl)))
    | 6, _ =>
      obtain rfl := Option.some.inj (show some _ = some o from hio)
      exact inv_move hbx hI hK (by omega) rfl rfl rfl rfl
    | 7, _ =>
      obtain rfl := Option.some.inj (show some _ = some o from hio)
      exact inv_raw hbx hG hn hI hK (by omega) rfl rfl rfl rfl (hI.fits 6 (by omega) (hdep { on := 6, ground := .data } (by simp) (by rfl)))
    | 8, _ =>
      obtain rfl := Option.some.inj (show some _ = some o from hio)
      exact inv_row hbx hG hI hK (by omega) rfl rfl rfl rfl (hI.fits 3 (by omega) (hdep { on := 3, ground := .data } (by simp) (by rfl))) (hI.fits 5 (by omega) (hdep { on := 5, ground := .data } (by simp) (by rfl))) (hI.fits 7 (by omega) (hdep { on := 7, ground := .data } (by simp) (by rfl)))
    | 9, _ =>
      obtain rfl := Option.some.inj (show some _ = some o from hio)
      exact inv_move hbx hI hK (by omega) rfl rfl rfl rfl
    | 10, _ =>
      obtain rfl := Option.some.inj (show some _ = some o from hio)
      exact inv_pick hbx hG hn hI hK (by omega) 3 (.inr ⟨rfl, rfl⟩) rfl rfl (by omega) (by omega) rfl (hI.fits 9 (by omega) (hdep { on := 9, ground := .data } (by simp) (by rfl)))
    | 11, _ =>
      obtain rfl := Option.some.inj (show some _ = some o from hio)
      exact inv_index hbx hI hK (by omega) rfl rfl rfl rfl (hI.fits 8 (by omega) (hdep { on := 8, ground := .data } (by simp) (by rfl))) (hI.fits 10 (by omega) (hdep { on := 10, ground := .data } (by simp) (by rfl)))
    | 12, _ =>
      obtain rfl := Option.some.inj (show some _ = some o from hio)
      exact inv_load hbx hI hK (by omega) rfl rfl rfl rfl (hI.fits 11 (by omega) (hdep { on := 11, ground := .data } (by simp) (by rfl)))
    | 13, _ =>
      obtain rfl := Option.some.inj (show some _ = some o from hio)
      exact inv_move hbx hI hK (by omega) rfl rfl rfl rfl
    | 14, _ =>
      obtain rfl := Option.some.inj (show some _ = some o from hio)
      exact inv_pick hbx hG hn hI hK (by omega) 3 (.inl rfl) rfl rfl (by omega) (by omega) rfl (hI.fits 13 (by omega) (hdep { on := 13, ground := .data } (by simp) (by rfl)))
    | 15, _ =>
      obtain rfl := Option.some.inj (show some _ = some o from hio)
      exact inv_move hbx hI hK (by omega) rfl rfl rfl rfl
    | 16, _ =>
      obtain rfl := Option.some.inj (show some _ = some o from hio)
      exact inv_pick hbx hG hn hI hK (by omega) 3 (.inl rfl) rfl rfl (by omega) (by omega) rfl (hI.fits 15 (by omega) (hdep { on := 15, ground := .data } (by simp) (by rfl)))
    | 17, _ =>
      obtain rfl := Option.some.inj (show some _ = some o from hio)
      exact inv_move hbx hI hK (by omega) rfl rfl rfl rfl
    | 18, _ =>
      obtain rfl := Option.some.inj (show some _ = some o from hio)
      exact inv_raw hbx hG hn hI hK (by omega) rfl rfl rfl rfl (hI.fits 17 (by omega) (hdep { on := 17, ground := .data } (by simp) (by rfl)))
    | 19, _ =>
      obtain rfl := Option.some.inj (show some _ = some o from hio)
      exact inv_row hbx hG hI hK (by omega) rfl rfl rfl rfl (hI.fits 14 (by omega) (hdep { on := 14, ground := .data } (by simp) (by rfl))) (hI.fits 16 (by omega) (hdep { on := 16, ground := .data } (by simp) (by rfl))) (hI.fits 18 (by omega) (hdep { on := 18, ground := .data } (by simp) (by rfl)))
    | 20, _ =>
      obtain rfl := Option.some.inj (show some _ = some o from hio)
      exact inv_move hbx hI hK (by omega) rfl rfl rfl rfl
    | 21, _ =>
      obtain rfl := Option.some.inj (show some _ = some o from hio)
      exact inv_pick hbx hG hn hI hK (by omega) 3 (.inr ⟨rfl, rfl⟩) rfl rfl (by omega) (by omega) rfl (hI.fits 20 (by omega) (hdep { on := 20, ground := .data } (by simp) (by rfl)))
    | 22, _ =>
      obtain rfl := Option.some.inj (show some _ = some o from hio)
      exact inv_index hbx hI hK (by omega) rfl rfl rfl rfl (hI.fits 19 (by omega) (hdep { on := 19, ground := .data } (by simp) (by rfl))) (hI.fits 21 (by omega) (hdep { on := 21, ground := .data } (by simp) (by rfl)))
    | 23, _ =>
      obtain rfl := Option.some.inj (show some _ = some o from hio)
      exact inv_load hbx hI hK (by omega) rfl rfl rfl rfl (hI.fits 22 (by omega) (hdep { on := 22, ground := .data } (by simp) (by rfl)))
    | 24, _ =>
      obtain rfl := Option.some.inj (show some _ = some o from hio)
      exact inv_build hbx hI hK (by omega) rfl rfl rfl rfl (hI.fits 12 (by omega) (hdep { on := 12, ground := .data } (by simp) (by rfl))) (hI.fits 23 (by omega) (hdep { on := 23, ground := .data } (by simp) (by rfl)))
    | 25, _ =>
      obtain rfl := Option.some.inj (show some _ = some o from hio)
      exact inv_assign hbx hI hK (by omega) rfl rfl rfl rfl (hI.fits 1 (by omega) (hdep { on := 1, ground := .data } (by simp) (by rfl)))
    | 26, _ =>
      obtain rfl := Option.some.inj (show some _ = some o from hio)
      exact inv_store hbx (Nat.le_refl _) hI hK rfl rfl rfl (hI.fits 24 (by omega) (hdep { on := 24, ground := .data } (by simp) (by rfl)))
  · refine ⟨rfl, rfl, rfl, rfl, ⟨0, by decide, hc1⟩, ⟨⟨0, 0⟩, T1⟩, Two.of_but ((But.refl _ _).drew), fun i hi hl => ?_⟩
    simp [hi] at hl
end Go.Proofs.Ytelfoedgbgandaa
