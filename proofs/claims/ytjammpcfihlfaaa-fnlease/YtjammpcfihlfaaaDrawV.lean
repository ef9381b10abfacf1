/- A draw whose region leaves its order open: an invariant over slots of known kinds, one lemma an operation. -/
import Derived.Test.YtjammpcfihlfaaaCurRB
import Derived.Test.YtjammpcfihlfaaaRegInv
import Derived.Test.YtjammpcfihlfaaaResPure
namespace Go.Proofs.Ytjammpcfihlfaaa
open Go.RowKit

section
variable {P : Program} {ops : Array Oper} {o : Oper} {a : Act} {w w' : World} {K : Act → World → Prop} {Q : Exit → Act → World → Prop} {E : Prop}
theorem step_value (hg : o.guard = none) (v : Value) (h : (execOp a.eval o).run P w = .ok (.value v) w') (hK : K (a.put o.dst v) w') : if Region.wanted o (yielded ops a.tmps) = true then Oper.wp P o a w K Q else E := by
  rw [if_pos (by simp [Region.wanted, hg])]
  unfold Oper.wp; rw [h]; exact hK
theorem step_skip (hg : o.guard = none) (h : (execOp a.eval o).run P w = .ok .skip w') (hK : K (a.put o.dst undef) w') : if Region.wanted o (yielded ops a.tmps) = true then Oper.wp P o a w K Q else E := by
  rw [if_pos (by simp [Region.wanted, hg])]
  unfold Oper.wp; rw [h]; exact hK
theorem step_enter (hg : o.guard = none) (f : FuncId) (args : Array Value) (h : (execOp a.eval o).run P w = .ok (.enter f args) w) (hc : Calls P f args w fun e w' => ∃ v, e = .returned v ∧ K (a.put o.dst v) w') : if Region.wanted o (yielded ops a.tmps) = true then Oper.wp P o a w K Q else E := by
  rw [if_pos (by simp [Region.wanted, hg])]
  unfold Oper.wp; rw [h]
  exact hc.mono fun e w' ⟨v, he, hk⟩ => by subst he; exact hk
end

/-- Of what was there only blocks g and bx may have turned. -/
structure Two (g bx : Nat) (w w' : World) : Prop where
  os : w'.os = w.os
  tape : w'.tape = w.tape
  output : w'.output = w.output
  size : w.heap.size ≤ w'.heap.size
  block : ∀ k, k < w.heap.size → k ≠ g → k ≠ bx → w'.heap[k]? = w.heap[k]?
section
variable {g bx : Nat} {w w' w'' : World}
theorem Two.refl (g bx : Nat) (w : World) : Two g bx w w := ⟨rfl, rfl, rfl, Nat.le_refl _, fun _ _ _ _ => rfl⟩
theorem Two.trans (h : Two g bx w w') (h' : Two g bx w' w'') : Two g bx w w'' :=
  ⟨h'.os.trans h.os, h'.tape.trans h.tape, h'.output.trans h.output, Nat.le_trans h.size h'.size, fun k hk hg hb => (h'.block k (Nat.lt_of_lt_of_le hk h.size) hg hb).trans (h.block k hk hg hb)⟩
theorem Two.of_but (h : But g w w') : Two g bx w w' := ⟨h.os, h.tape, h.output, h.size, fun k hk hg _ => h.block k hk hg⟩
theorem Two.of_box (h : But bx w w') : Two g bx w w' := ⟨h.os, h.tape, h.output, h.size, fun k hk _ hb => h.block k hk hb⟩
theorem BlockIs.two {b : Nat} {t : TypeId} {cs : Array Value} (h : BlockIs w b t cs) (hb : Two g bx w w') (h1 : b ≠ g) (h2 : b ≠ bx) : BlockIs w' b t cs := (hb.block b h.lt h1 h2).trans h
end

/-- The kinds of values that a draw's slots take. -/
inductive Kd where
  | ptr | int | idx (k : Nat) | row (k : Nat) | loc | fld | tri | any
def Fit3 (g lb : Nat) : Kd → World → Value → Prop
  | .ptr, _, v => v = .pointer (some ⟨g, 0, none⟩)
  | .int, _, v => ∃ z : Int, v = .int .i64 z
  | .idx k, _, v => ∃ z : Int, (0 ≤ z ∧ z < k) ∧ v = .int .i64 z
  | .row k, w, v => ∃ (b : Nat) (cs : Array Value), v = .slice (some ⟨b, 0, none⟩) k k ∧ g < b ∧ BlockIs w b 3 cs ∧ ∀ o, o < k → ∃ z : Int, cs[o]? = some (.int .i64 z)
  | .loc, w, v => ∃ (b o : Nat) (z : Int) (cs : Array Value), v = .pointer (some ⟨b, o, none⟩) ∧ g < b ∧ BlockIs w b 3 cs ∧ cs[o]? = some (.int .i64 z)
  | .fld, _, v => ∃ o : Nat, o < 3 ∧ v = .pointer (some ⟨lb, o, none⟩)
  | .tri, _, v => ∃ x : RV, v = .agg #[.int .i64 x.c, .int .i64 x.m, .int .i64 x.p]
  | .any, _, _ => True
theorem Fit3.two {g bx lb : Nat} {k : Kd} {w w' : World} {v : Value} (hbx : bx < g) (h : Fit3 g lb k w v) (hb : Two g bx w w') : Fit3 g lb k w' v := by
  cases k with
  | row => obtain ⟨b, cs, h1, h2, h3, h4⟩ := h; exact ⟨b, cs, h1, h2, h3.two hb (by omega) (by omega), h4⟩
  | loc => obtain ⟨b, o, z, cs, h1, h2, h3, h4⟩ := h; exact ⟨b, o, z, cs, h1, h2, h3.two hb (by omega) (by omega), h4⟩
  | _ => exact h
/-- What a draw's region is like: the slot that each operation writes, the kind of what it writes, how many there are, the frame's size, the slots of the result's box, of the cursor and of a box of three numbers. -/
structure Sig where
  sl : Nat → Nat
  kd : Nat → Kd
  N : Nat
  D : Nat
  rs : Nat
  cs : Nat
  ls : Nat
  T : TypeId
/-- The slots lie in the frame, apart. -/
def Sig.good (S : Sig) : Prop := (∀ i, i < S.N → S.sl i < S.D ∧ S.sl i ≠ S.rs ∧ S.sl i ≠ S.cs ∧ S.sl i ≠ S.ls) ∧ ∀ i j, i < S.N → j < S.N → i ≠ j → S.sl i ≠ S.sl j
structure DInv (S : Sig) (g bx lb G : Nat) (A : Option Addr) (n c : Nat) (X : World) (f : Nat) (listed : Array Bool) (a : Act) (w : World) : Prop where
  defers : a.defers = []
  size : a.tmps.size = S.D
  box : a.eval (.tmp S.rs) = .pointer (some ⟨bx, 0, none⟩)
  cur : a.eval (.tmp S.cs) = .pointer (some ⟨g, 0, none⟩)
  lea : a.eval (.tmp S.ls) = .pointer (some ⟨lb, 0, none⟩)
  curAt : ∃ m, m + 30 * f ≤ 900000000 ∧ CurAt g G A n c m w
  boxAt : ∃ x : RV, BlockIs w bx S.T #[.int .i64 x.c, .int .i64 x.m, .int .i64 x.p]
  leaAt : ∃ x : RV, BlockIs w lb S.T #[.int .i64 x.c, .int .i64 x.m, .int .i64 x.p]
  two : Two g bx X w
  fits : ∀ i, i < S.N → listed.getD i false = true → Fit3 g lb (S.kd i) w (a.eval (.tmp (S.sl i)))
theorem eval_put_same {a : Act} {d : Nat} {v : Value} (h : d < a.tmps.size) : (a.put (some d) v).eval (.tmp d) = v := by
  simp [Act.put, Act.eval, h]
theorem eval_put_other {a : Act} {d e : Nat} {v : Value} (h : d ≠ e) : (a.put (some d) v).eval (.tmp e) = a.eval (.tmp e) := by
  simp [Act.put, Act.eval, Array.getElem?_setIfInBounds_ne h]

section
variable {S : Sig} {g bx lb G : Nat} {A : Option Addr} {n c : Nat} {X : World} {f : Nat} {listed : Array Bool} {a : Act} {w w' : World} {o : Oper} {ops : Array Oper} {K : Act → World → Prop} {Q : Exit → Act → World → Prop} {E : Prop} {i : Nat}
/-- An operation that writes its slot leaves the invariant. -/
theorem DInv.put (hS : S.good) (hbx : bx < g) (hlb : g < lb) (h : DInv S g bx lb G A n c X (f + 1) listed a w) (hi : i < S.N) {v : Value} (ht : Two g bx w w') (hc : ∃ m, m + 30 * f ≤ 900000000 ∧ CurAt g G A n c m w') (hb : ∃ x : RV, BlockIs w' bx S.T #[.int .i64 x.c, .int .i64 x.m, .int .i64 x.p]) (hf : Fit3 g lb (S.kd i) w' v) :
    DInv S g bx lb G A n c X f (listed.setIfInBounds i true) (a.put (some (S.sl i)) v) w' := by
  obtain ⟨r1, r2, r3, r4⟩ := hS.1 i hi
  obtain ⟨x, hx⟩ := h.leaAt
  refine ⟨h.defers, by simpa [Act.put] using h.size, ?_, ?_, ?_, hc, hb, ⟨x, hx.two ht (by omega) (by omega)⟩, h.two.trans ht, fun j hj hl => ?_⟩
  · rw [eval_put_other r2]; exact h.box
  · rw [eval_put_other r3]; exact h.cur
  · rw [eval_put_other r4]; exact h.lea
  · by_cases e : i = j
    · subst e
      rw [eval_put_same (by rw [h.size]; exact r1)]; exact hf
    · rw [eval_put_other (hS.2 i j hi hj e)]
      rw [getD_set_ne false e] at hl
      exact (h.fits j hj hl).two hbx ht
theorem DInv.stay (hS : S.good) (hbx : bx < g) (hlb : g < lb) (h : DInv S g bx lb G A n c X (f + 1) listed a w) (hi : i < S.N) {v : Value} (hf : Fit3 g lb (S.kd i) w v) : DInv S g bx lb G A n c X f (listed.setIfInBounds i true) (a.put (some (S.sl i)) v) w := by
  obtain ⟨m, hm, hc⟩ := h.curAt
  exact h.put hS hbx hlb hi (Two.refl _ _ _) ⟨m, by omega, hc⟩ h.boxAt hf
end
section
variable {o : Oper} {a : Act} {w : World}
theorem r_move {P : Program} {x : Operand} (h : o.op = .move x) : (execOp a.eval o).run P w = .ok (.value (a.eval x)) w := by simp [execOp, h]
theorem r_assign {P : Program} {x : Operand} (h : o.op = .assign x) : (execOp a.eval o).run P w = .ok (.value (a.eval x)) w := by simp [execOp, h]
theorem r_raw {x : Operand} {t : TypeId} {v : Value} (h : o.op = .call { callee := .value (.func 43), args := #[x], argTypes := #[t] }) (h0 : a.eval x = v) : (execOp a.eval o).run Try.prog w = .ok (.enter 43 #[v]) w := by
  subst h0
  unfold execOp
  rw [h]
  go_simp
theorem r_pick {x : Operand} {t u : TypeId} {v k : Value} (h : o.op = .call { callee := .value (.func 42), args := #[x, .const k], argTypes := #[t, u] }) (h0 : a.eval x = v) : (execOp a.eval o).run Try.prog w = .ok (.enter 42 #[v, k]) w := by
  subst h0
  unfold execOp
  rw [h]
  go_simp
theorem r_row3 {x y z : Operand} {y0 y1 y2 : Int} (h : o.op = .buildSlice 70 3 #[(0, x), (1, y), (2, z)]) (h0 : a.eval x = .int .i64 y0) (h1 : a.eval y = .int .i64 y1) (h2 : a.eval z = .int .i64 y2) :
    (execOp a.eval o).run Try.prog w = .ok (.value (.slice (some ⟨w.heap.size, 0, none⟩) 3 3)) (w.alloc (.cells #[.int .i64 y0, .int .i64 y1, .int .i64 y2] 3)) := by
  unfold execOp
  rw [h]
  simp only [List.map_toArray, List.map_cons, List.map_nil, h0, h1, h2]
  go_simp
theorem r_row5 {x y z u v : Operand} {y0 y1 y2 y3 y4 : Int} (h : o.op = .buildSlice 70 5 #[(0, x), (1, y), (2, z), (3, u), (4, v)]) (h0 : a.eval x = .int .i64 y0) (h1 : a.eval y = .int .i64 y1) (h2 : a.eval z = .int .i64 y2) (h3 : a.eval u = .int .i64 y3) (h4 : a.eval v = .int .i64 y4) :
    (execOp a.eval o).run Try.prog w = .ok (.value (.slice (some ⟨w.heap.size, 0, none⟩) 5 5)) (w.alloc (.cells #[.int .i64 y0, .int .i64 y1, .int .i64 y2, .int .i64 y3, .int .i64 y4] 3)) := by
  unfold execOp
  rw [h]
  simp only [List.map_toArray, List.map_cons, List.map_nil, h0, h1, h2, h3, h4]
  go_simp
theorem r_indexK {x y : Operand} {b k : Nat} {z : Int} (h : o.op = .indexAddr 70 x y) (h0 : a.eval x = .slice (some ⟨b, 0, none⟩) k k) (h1 : a.eval y = .int .i64 z) (hz0 : 0 ≤ z) (hz1 : z < k) :
    (execOp a.eval o).run Try.prog w = .ok (.value (.pointer (some ⟨b, z.toNat, none⟩))) w := by
  unfold execOp
  rw [h]
  simp only [h0, h1]
  go_simp
theorem r_load {x : Operand} {b k : Nat} {z : Int} (h : o.op = .load 3 x) (h0 : a.eval x = .pointer (some ⟨b, k, none⟩)) (hc : w.cell? ⟨b, k, none⟩ = some (.int .i64 z)) :
    (execOp a.eval o).run Try.prog w = .ok (.value (.int .i64 z)) w := by
  unfold execOp
  rw [h]
  simp only [h0]
  go_simp
theorem r_add {y : Operand} {t u : TypeId} {z : Int} (h : o.op = .binOp .add 3 (.const (.int .i64 1)) y u) (h1 : a.eval y = .int .i64 z) :
    ∃ r : Int, (execOp a.eval o).run Try.prog w = .ok (.value (.int .i64 r)) w := by
  refine ⟨IntKind.i64.wrap (1 + z), ?_⟩
  unfold execOp
  rw [h]
  simp only [h1]
  go_simp
end
end Go.Proofs.Ytjammpcfihlfaaa
