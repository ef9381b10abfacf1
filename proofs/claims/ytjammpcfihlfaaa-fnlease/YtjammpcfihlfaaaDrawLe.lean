/- The draw of a lease and a request: DrawLeaseTry. -/
import Derived.Test.YtjammpcfihlfaaaDrawV
import Derived.Test.YtjammpcfihlfaaaLeaseDraw
namespace Go.Proofs.Ytjammpcfihlfaaa
open Go.RowKit

theorem r_tri {x : Operand} {b : Nat} {x0 x1 x2 : Value} (T : TypeId) {o : Oper} {a : Act} {w : World} (hT : T = 25) (h : o.op = .load 25 x) (h0 : a.eval x = .pointer (some ⟨b, 0, none⟩)) (hb : BlockIs w b T #[x0, x1, x2]) : (execOp a.eval o).run Try.prog w = .ok (.value (.agg #[x0, x1, x2])) w := by
  have c0 := hb.cell 0
  have c1 := hb.cell 1
  have c2 := hb.cell 2
  simp at c0 c1 c2
  unfold execOp
  rw [h]
  simp only [h0]
  go_simp
theorem r_field {x : Operand} {b : Nat} {o : Oper} {a : Act} {w : World} (h : o.op = .fieldAddr 25 x 2) (h0 : a.eval x = .pointer (some ⟨b, 0, none⟩)) : (execOp a.eval o).run Try.prog w = .ok (.value (.pointer (some ⟨b, 2, none⟩))) w := by
  unfold execOp
  rw [h]
  simp only [h0]
  go_simp
theorem r_min {k : Int} {s0 : Nat} {t u : TypeId} {z : Int} {o : Oper} {a : Act} {w : World} (h : o.op = .call { callee := .builtin .min, args := #[.const (.int .i64 k), .tmp s0], argTypes := #[3, 3] }) (ht : o.type = 3) (h1 : a.eval (.tmp s0) = .int .i64 z) : ∃ r : Int, (execOp a.eval o).run Try.prog w = .ok (.value (.int .i64 r)) w := by
  have h2 : a.tmps[s0]?.getD undef = .int .i64 z := by simpa [Act.eval] using h1
  by_cases hlt : z < k
  · refine ⟨z, ?_⟩
    unfold execOp
    rw [h]
    go_simp
  · refine ⟨k, ?_⟩
    unfold execOp
    rw [h]
    go_simp
theorem r_max {k : Int} {s0 : Nat} {t u : TypeId} {z : Int} {o : Oper} {a : Act} {w : World} (h : o.op = .call { callee := .builtin .max, args := #[.const (.int .i64 k), .tmp s0], argTypes := #[3, 3] }) (ht : o.type = 3) (h1 : a.eval (.tmp s0) = .int .i64 z) : ∃ r : Int, (execOp a.eval o).run Try.prog w = .ok (.value (.int .i64 r)) w := by
  have h2 : a.tmps[s0]?.getD undef = .int .i64 z := by simpa [Act.eval] using h1
  by_cases hlt : k < z
  · refine ⟨z, ?_⟩
    unfold execOp
    rw [h]
    go_simp
  · refine ⟨k, ?_⟩
    unfold execOp
    rw [h]
    go_simp
theorem r_put3 {x y : Operand} {b : Nat} {z0 z1 z2 : Value} {r : RV} {T : TypeId} {o : Oper} {a : Act} {w : World} (h : o.op = .store 25 x y) (h0 : a.eval x = .pointer (some ⟨b, 0, none⟩)) (h1 : a.eval y = .agg #[.int .i64 r.c, .int .i64 r.m, .int .i64 r.p]) (hb : BlockIs w b T #[z0, z1, z2]) :
    (execOp a.eval o).run Try.prog w = .ok .skip (((w.setCell ⟨b, 0, none⟩ (.int .i64 r.c)).setCell ⟨b, 1, none⟩ (.int .i64 r.m)).setCell ⟨b, 2, none⟩ (.int .i64 r.p)) := by
  have c0 := hb.cell 0
  have c1 := hb.cell 1
  have c2 := hb.cell 2
  have cf := hb.frozen
  simp at c0 c1 c2
  unfold execOp
  rw [h]
  simp only [h0, h1]
  go_simp
section
variable {S : Sig} {g bx lb G : Nat} {A : Option Addr} {n c : Nat} {X : World} {f : Nat} {listed : Array Bool} {a : Act} {w : World} {o : Oper} {ops : Array Oper} {K : Act → World → Prop} {Q : Exit → Act → World → Prop} {E : Prop} {i : Nat}
theorem inv_move (hS : S.good) (hbx : bx < g) (hlb : g < lb) (hI : DInv S g bx lb G A n c X (f + 1) listed a w) (hK : ∀ a' w', DInv S g bx lb G A n c X f (listed.setIfInBounds i true) a' w' → K a' w') (hi : i < S.N) (hg : o.guard = none) (hd : o.dst = some (S.sl i)) (hk : S.kd i = .ptr) (hop : o.op = .move (.tmp S.cs)) : if Region.wanted o (yielded ops a.tmps) = true then Oper.wp Try.prog o a w K Q else E := by
  refine step_value hg _ (r_move hop) (hK _ _ ?_)
  rw [hd]
  exact hI.stay hS hbx hlb hi (by rw [hk]; exact hI.cur)
theorem inv_num (hS : S.good) (hbx : bx < g) (hlb : g < lb) (hI : DInv S g bx lb G A n c X (f + 1) listed a w) {w' : World} {z : Int} {m d : Nat} (hm : m + 30 * (f + 1) ≤ 900000000) (hd : d ≤ 30) (hb : But g w w') (hc : CurAt g G A n c (m + d) w') (hi : i < S.N) (hf : Fit3 g lb (S.kd i) w' (.int .i64 z)) :
    DInv S g bx lb G A n c X f (listed.setIfInBounds i true) (a.put (some (S.sl i)) (.int .i64 z)) w' := by
  obtain ⟨x, hx⟩ := hI.boxAt
  exact hI.put hS hbx hlb hi (Two.of_but hb) ⟨m + d, by omega, hc⟩ ⟨x, hx.but hb (by omega)⟩ hf
theorem inv_pick (hS : S.good) (hbx : bx < g) (hlb : g < lb) (hI : DInv S g bx lb G A n c X (f + 1) listed a w) (hK : ∀ a' w', DInv S g bx lb G A n c X f (listed.setIfInBounds i true) a' w' → K a' w') (hi : i < S.N) (hg : o.guard = none) (hd : o.dst = some (S.sl i)) (hG : G ≤ g) (hn : n ≤ 1048576) (k : Nat) (hk : S.kd i = .int ∨ S.kd i = .idx k) {s : Nat} {t u : TypeId} (hk2 : 2 ≤ k) (hk3 : k ≤ 1000)
    (hop : o.op = .call { callee := .value (.func 42), args := #[.tmp s, .const (.int .i64 (k : Int))], argTypes := #[t, u] }) (hs : a.eval (.tmp s) = .pointer (some ⟨g, 0, none⟩)) : if Region.wanted o (yielded ops a.tmps) = true then Oper.wp Try.prog o a w K Q else E := by
  obtain ⟨m, hm, hc⟩ := hI.curAt
  refine step_enter hg _ _ (r_pick hop hs) ((pick_any g G A n c m k w hG hn (by omega) (by omega) (by omega) hc).mono fun e w' ⟨z, hz, he, hb, hc'⟩ => ⟨_, he, hK _ _ ?_⟩)
  rw [hd]
  refine inv_num hS hbx hlb hI hm (by omega) hb hc' hi ?_
  rcases hk with hk | hk
  · rw [hk]; exact ⟨z, rfl⟩
  · rw [hk]; exact ⟨z, hz, rfl⟩
theorem inv_raw (hS : S.good) (hbx : bx < g) (hlb : g < lb) (hI : DInv S g bx lb G A n c X (f + 1) listed a w) (hK : ∀ a' w', DInv S g bx lb G A n c X f (listed.setIfInBounds i true) a' w' → K a' w') (hi : i < S.N) (hg : o.guard = none) (hd : o.dst = some (S.sl i)) (hG : G ≤ g) (hn : n ≤ 1048576) (hk : S.kd i = .int) {s : Nat} {t : TypeId}
    (hop : o.op = .call { callee := .value (.func 43), args := #[.tmp s], argTypes := #[t] }) (hs : a.eval (.tmp s) = .pointer (some ⟨g, 0, none⟩)) : if Region.wanted o (yielded ops a.tmps) = true then Oper.wp Try.prog o a w K Q else E := by
  obtain ⟨m, hm, hc⟩ := hI.curAt
  refine step_enter hg _ _ (r_raw hop hs) ((raw_any g G A n c m w hG hn (by omega) hc).mono fun e w' ⟨z, _, he, hb, hc'⟩ => ⟨_, he, hK _ _ ?_⟩)
  rw [hd]
  exact inv_num hS hbx hlb hI hm (by omega) hb hc' hi (by rw [hk]; exact ⟨z, rfl⟩)
theorem inv_row3 (hS : S.good) (hbx : bx < g) (hlb : g < lb) (hI : DInv S g bx lb G A n c X (f + 1) listed a w) (hK : ∀ a' w', DInv S g bx lb G A n c X f (listed.setIfInBounds i true) a' w' → K a' w') (hi : i < S.N) (hg : o.guard = none) (hd : o.dst = some (S.sl i)) (hG : G ≤ g) (hk : S.kd i = .row 3) {x y z : Operand} (hop : o.op = .buildSlice 70 3 #[(0, x), (1, y), (2, z)]) (h0 : Fit3 g lb .int w (a.eval x)) (h1 : Fit3 g lb .int w (a.eval y)) (h2 : Fit3 g lb .int w (a.eval z)) : if Region.wanted o (yielded ops a.tmps) = true then Oper.wp Try.prog o a w K Q else E := by
  obtain ⟨m, hm, hc⟩ := hI.curAt
  obtain ⟨q, hq⟩ := hI.boxAt
  obtain ⟨y0, h0⟩ := h0
  obtain ⟨y1, h1⟩ := h1
  obtain ⟨y2, h2⟩ := h2
  have hlt := hc.lt
  refine step_value hg _ (r_row3 hop h0 h1 h2) (hK _ _ ?_)
  rw [hd]
  refine hI.put hS hbx hlb hi (Two.of_but ((But.refl g w).alloc _)) ⟨m, by omega, hc.but_alloc hG _⟩ ⟨q, hq.alloc _⟩ ?_
  rw [hk]
  refine ⟨w.heap.size, _, rfl, hlt, BlockIs.new _ _ _, fun o ho => ?_⟩
  match o, ho with
  | 0, _ => exact ⟨y0, rfl⟩
  | 1, _ => exact ⟨y1, rfl⟩
  | 2, _ => exact ⟨y2, rfl⟩
theorem inv_row5 (hS : S.good) (hbx : bx < g) (hlb : g < lb) (hI : DInv S g bx lb G A n c X (f + 1) listed a w) (hK : ∀ a' w', DInv S g bx lb G A n c X f (listed.setIfInBounds i true) a' w' → K a' w') (hi : i < S.N) (hg : o.guard = none) (hd : o.dst = some (S.sl i)) (hG : G ≤ g) (hk : S.kd i = .row 5) {x y z u v : Operand} (hop : o.op = .buildSlice 70 5 #[(0, x), (1, y), (2, z), (3, u), (4, v)]) (h0 : Fit3 g lb .int w (a.eval x)) (h1 : Fit3 g lb .int w (a.eval y)) (h2 : Fit3 g lb .int w (a.eval z)) (h3 : Fit3 g lb .int w (a.eval u)) (h4 : Fit3 g lb .int w (a.eval v)) : if Region.wanted o (yielded ops a.tmps) = true then Oper.wp Try.prog o a w K Q else E := by
  obtain ⟨m, hm, hc⟩ := hI.curAt
  obtain ⟨q, hq⟩ := hI.boxAt
  obtain ⟨y0, h0⟩ := h0
  obtain ⟨y1, h1⟩ := h1
  obtain ⟨y2, h2⟩ := h2
  obtain ⟨y3, h3⟩ := h3
  obtain ⟨y4, h4⟩ := h4
  have hlt := hc.lt
  refine step_value hg _ (r_row5 hop h0 h1 h2 h3 h4) (hK _ _ ?_)
  rw [hd]
  refine hI.put hS hbx hlb hi (Two.of_but ((But.refl g w).alloc _)) ⟨m, by omega, hc.but_alloc hG _⟩ ⟨q, hq.alloc _⟩ ?_
  rw [hk]
  refine ⟨w.heap.size, _, rfl, hlt, BlockIs.new _ _ _, fun o ho => ?_⟩
  match o, ho with
  | 0, _ => exact ⟨y0, rfl⟩
  | 1, _ => exact ⟨y1, rfl⟩
  | 2, _ => exact ⟨y2, rfl⟩
  | 3, _ => exact ⟨y3, rfl⟩
  | 4, _ => exact ⟨y4, rfl⟩
theorem inv_index (hS : S.good) (hbx : bx < g) (hlb : g < lb) (hI : DInv S g bx lb G A n c X (f + 1) listed a w) (hK : ∀ a' w', DInv S g bx lb G A n c X f (listed.setIfInBounds i true) a' w' → K a' w') (hi : i < S.N) (hg : o.guard = none) (hd : o.dst = some (S.sl i)) (k : Nat) (hk : S.kd i = .loc) {s0 s1 : Nat} (hop : o.op = .indexAddr 70 (.tmp s0) (.tmp s1)) (h0 : Fit3 g lb (.row k) w (a.eval (.tmp s0))) (h1 : Fit3 g lb (.idx k) w (a.eval (.tmp s1))) : if Region.wanted o (yielded ops a.tmps) = true then Oper.wp Try.prog o a w K Q else E := by
  obtain ⟨b, cs, h0, hgb, hb, hcs⟩ := h0
  obtain ⟨z, ⟨z0, z1⟩, h1⟩ := h1
  obtain ⟨q, hq⟩ := hcs z.toNat (by omega)
  refine step_value hg _ (r_indexK hop h0 h1 z0 z1) (hK _ _ ?_)
  rw [hd]
  exact hI.stay hS hbx hlb hi (by rw [hk]; exact ⟨b, z.toNat, q, _, rfl, hgb, hb, hq⟩)
theorem inv_load (hS : S.good) (hbx : bx < g) (hlb : g < lb) (hI : DInv S g bx lb G A n c X (f + 1) listed a w) (hK : ∀ a' w', DInv S g bx lb G A n c X f (listed.setIfInBounds i true) a' w' → K a' w') (hi : i < S.N) (hg : o.guard = none) (hd : o.dst = some (S.sl i)) (hk : S.kd i = .int) {s0 : Nat} (hop : o.op = .load 3 (.tmp s0)) (h0 : Fit3 g lb .loc w (a.eval (.tmp s0))) : if Region.wanted o (yielded ops a.tmps) = true then Oper.wp Try.prog o a w K Q else E := by
  obtain ⟨b, k, z, cs, h0, hgb, hb, hz⟩ := h0
  refine step_value hg _ (r_load hop h0 ((hb.cell k).trans hz)) (hK _ _ ?_)
  rw [hd]
  exact hI.stay hS hbx hlb hi (by rw [hk]; exact ⟨z, rfl⟩)
theorem inv_add (hS : S.good) (hbx : bx < g) (hlb : g < lb) (hI : DInv S g bx lb G A n c X (f + 1) listed a w) (hK : ∀ a' w', DInv S g bx lb G A n c X f (listed.setIfInBounds i true) a' w' → K a' w') (hi : i < S.N) (hg : o.guard = none) (hd : o.dst = some (S.sl i)) (hk : S.kd i = .int) {s0 : Nat} {u : TypeId} (hop : o.op = .binOp .add 3 (.const (.int .i64 1)) (.tmp s0) u) (h0 : Fit3 g lb .int w (a.eval (.tmp s0))) : if Region.wanted o (yielded ops a.tmps) = true then Oper.wp Try.prog o a w K Q else E := by
  obtain ⟨z, h0⟩ := h0
  obtain ⟨r, hr⟩ := r_add (t := u) (w := w) hop h0
  refine step_value hg _ hr (hK _ _ ?_)
  rw [hd]
  exact hI.stay hS hbx hlb hi (by rw [hk]; exact ⟨r, rfl⟩)
theorem inv_min (hS : S.good) (hbx : bx < g) (hlb : g < lb) (hI : DInv S g bx lb G A n c X (f + 1) listed a w) (hK : ∀ a' w', DInv S g bx lb G A n c X f (listed.setIfInBounds i true) a' w' → K a' w') (hi : i < S.N) (hg : o.guard = none) (hd : o.dst = some (S.sl i)) (hk : S.kd i = .int) {k : Int} {s0 : Nat} (hop : o.op = .call { callee := .builtin .min, args := #[.const (.int .i64 k), .tmp s0], argTypes := #[3, 3] }) (ht : o.type = 3) (h0 : Fit3 g lb .int w (a.eval (.tmp s0))) : if Region.wanted o (yielded ops a.tmps) = true then Oper.wp Try.prog o a w K Q else E := by
  obtain ⟨z, h0⟩ := h0
  obtain ⟨r, hr⟩ := r_min (t := 0) (u := 0) (w := w) hop ht h0
  refine step_value hg _ hr (hK _ _ ?_)
  rw [hd]
  exact hI.stay hS hbx hlb hi (by rw [hk]; exact ⟨r, rfl⟩)
theorem inv_max (hS : S.good) (hbx : bx < g) (hlb : g < lb) (hI : DInv S g bx lb G A n c X (f + 1) listed a w) (hK : ∀ a' w', DInv S g bx lb G A n c X f (listed.setIfInBounds i true) a' w' → K a' w') (hi : i < S.N) (hg : o.guard = none) (hd : o.dst = some (S.sl i)) (hk : S.kd i = .int) {k : Int} {s0 : Nat} (hop : o.op = .call { callee := .builtin .max, args := #[.const (.int .i64 k), .tmp s0], argTypes := #[3, 3] }) (ht : o.type = 3) (h0 : Fit3 g lb .int w (a.eval (.tmp s0))) : if Region.wanted o (yielded ops a.tmps) = true then Oper.wp Try.prog o a w K Q else E := by
  obtain ⟨z, h0⟩ := h0
  obtain ⟨r, hr⟩ := r_max (t := 0) (u := 0) (w := w) hop ht h0
  refine step_value hg _ hr (hK _ _ ?_)
  rw [hd]
  exact hI.stay hS hbx hlb hi (by rw [hk]; exact ⟨r, rfl⟩)
theorem inv_tri (hS : S.good) (hbx : bx < g) (hlb : g < lb) (hI : DInv S g bx lb G A n c X (f + 1) listed a w) (hK : ∀ a' w', DInv S g bx lb G A n c X f (listed.setIfInBounds i true) a' w' → K a' w') (hi : i < S.N) (hg : o.guard = none) (hd : o.dst = some (S.sl i)) (hT : S.T = 25) (hk : S.kd i = .tri) (hop : o.op = .load 25 (.tmp S.ls)) : if Region.wanted o (yielded ops a.tmps) = true then Oper.wp Try.prog o a w K Q else E := by
  obtain ⟨x, hx⟩ := hI.leaAt
  refine step_value hg _ (r_tri S.T hT hop hI.lea hx) (hK _ _ ?_)
  rw [hd]
  exact hI.stay hS hbx hlb hi (by rw [hk]; exact ⟨x, rfl⟩)
theorem inv_field (hS : S.good) (hbx : bx < g) (hlb : g < lb) (hI : DInv S g bx lb G A n c X (f + 1) listed a w) (hK : ∀ a' w', DInv S g bx lb G A n c X f (listed.setIfInBounds i true) a' w' → K a' w') (hi : i < S.N) (hg : o.guard = none) (hd : o.dst = some (S.sl i)) (hk : S.kd i = .fld) (hop : o.op = .fieldAddr 25 (.tmp S.ls) 2) : if Region.wanted o (yielded ops a.tmps) = true then Oper.wp Try.prog o a w K Q else E := by
  refine step_value hg _ (r_field hop hI.lea) (hK _ _ ?_)
  rw [hd]
  exact hI.stay hS hbx hlb hi (by rw [hk]; exact ⟨2, by omega, rfl⟩)
theorem inv_fload (hS : S.good) (hbx : bx < g) (hlb : g < lb) (hI : DInv S g bx lb G A n c X (f + 1) listed a w) (hK : ∀ a' w', DInv S g bx lb G A n c X f (listed.setIfInBounds i true) a' w' → K a' w') (hi : i < S.N) (hg : o.guard = none) (hd : o.dst = some (S.sl i)) (hk : S.kd i = .int) {s0 : Nat} (hop : o.op = .load 3 (.tmp s0)) (h0 : Fit3 g lb .fld w (a.eval (.tmp s0))) : if Region.wanted o (yielded ops a.tmps) = true then Oper.wp Try.prog o a w K Q else E := by
  obtain ⟨k, hk3, h0⟩ := h0
  obtain ⟨x, hx⟩ := hI.leaAt
  obtain ⟨z, hz⟩ : ∃ z : Int, (#[.int .i64 x.c, .int .i64 x.m, .int .i64 x.p] : Array Value)[k]? = some (.int .i64 z) := by
    match k, hk3 with
    | 0, _ => exact ⟨_, rfl⟩
    | 1, _ => exact ⟨_, rfl⟩
    | 2, _ => exact ⟨_, rfl⟩
  refine step_value hg _ (r_load hop h0 ((hx.cell k).trans hz)) (hK _ _ ?_)
  rw [hd]
  exact hI.stay hS hbx hlb hi (by rw [hk]; exact ⟨z, rfl⟩)
theorem inv_assign (hS : S.good) (hbx : bx < g) (hlb : g < lb) (hI : DInv S g bx lb G A n c X (f + 1) listed a w) (hK : ∀ a' w', DInv S g bx lb G A n c X f (listed.setIfInBounds i true) a' w' → K a' w') (hi : i < S.N) (hg : o.guard = none) (hd : o.dst = some (S.sl i)) (hk : S.kd i = .int) {s0 : Nat} (hop : o.op = .assign (.tmp s0)) (h0 : Fit3 g lb .int w (a.eval (.tmp s0))) : if Region.wanted o (yielded ops a.tmps) = true then Oper.wp Try.prog o a w K Q else E := by
  refine step_value hg _ (r_assign hop) (hK _ _ ?_)
  rw [hd]
  exact hI.stay hS hbx hlb hi (by rw [hk]; exact h0)
theorem inv_store (hS : S.good) (hbx : bx < g) (hlb : g < lb) (hGx : G ≤ bx) (hI : DInv S g bx lb G A n c X (f + 1) listed a w) (hK : ∀ a' w', DInv S g bx lb G A n c X f (listed.setIfInBounds i true) a' w' → K a' w') (hg : o.guard = none) (hd : o.dst = none) (hk : S.kd i = .any) {s0 : Nat}
    (hop : o.op = .store 25 (.tmp S.rs) (.tmp s0)) (h0 : Fit3 g lb .tri w (a.eval (.tmp s0))) : if Region.wanted o (yielded ops a.tmps) = true then Oper.wp Try.prog o a w K Q else E := by
  obtain ⟨m, hm, hc⟩ := hI.curAt
  obtain ⟨x, hx⟩ := hI.boxAt
  obtain ⟨l, hl⟩ := hI.leaAt
  obtain ⟨y, h0⟩ := h0
  refine step_skip hg (r_put3 hop hI.box h0 hx) (hK _ _ ?_)
  rw [hd]
  have hb : But bx w (((w.setCell ⟨bx, 0, none⟩ (.int .i64 y.c)).setCell ⟨bx, 1, none⟩ (.int .i64 y.m)).setCell ⟨bx, 2, none⟩ (.int .i64 y.p)) := (((But.refl bx w).put 0 _).put 1 _).put 2 _
  have ht : Two g bx w _ := Two.of_box hb
  obtain ⟨q, s, hkk, q0, q1, q2, q3, q4⟩ := hc
  refine ⟨hI.defers, hI.size, hI.box, hI.cur, hI.lea, ⟨m, by omega, q, s, hkk.but hb (by omega), q0, q1, q2, q3, fun hn => ?_⟩, ⟨y, ?_⟩, ⟨l, hl.two ht (by omega) (by omega)⟩, hI.two.trans ht, fun j hj hl => ?_⟩
  · obtain ⟨b, off, rfl, hbG, hcc⟩ := q4 hn
    refine ⟨b, off, rfl, hbG, fun i hi => ?_⟩
    obtain ⟨z, z0, z1, hz⟩ := hcc i hi
    have hbb : b ≠ bx := by omega
    exact ⟨z, z0, z1, (hb.cell (b := b) _ (World.block_lt_of_cell? _ _ hz) hbb).trans hz⟩
  · have := ((hx.put 0 (.int .i64 y.c)).put 1 (.int .i64 y.m)).put 2 (.int .i64 y.p)
    simpa using this
  · by_cases e : i = j
    · subst e; rw [hk]; trivial
    · rw [getD_set_ne false e] at hl
      exact (hI.fits j hj hl).two hbx ht
end
/-- What the region of DrawLeaseTry is like. -/
def sigLT : Sig where
  sl i := if i = 41 then 3 else if i = 42 then 4 else if i = 43 then 5 else if i = 40 then 1 else i + 12
  kd i := match i with
    | 0 => .tri
    | 2 => .int
    | 3 => .int
    | 5 => .int
    | 6 => .int
    | 8 => .int
    | 9 => .row 3
    | 11 => .idx 3
    | 12 => .loc
    | 13 => .int
    | 14 => .fld
    | 15 => .int
    | 16 => .int
    | 17 => .int
    | 19 => .int
    | 21 => .int
    | 22 => .row 5
    | 24 => .idx 5
    | 25 => .loc
    | 26 => .int
    | 28 => .int
    | 29 => .int
    | 31 => .int
    | 32 => .int
    | 34 => .int
    | 35 => .row 5
    | 37 => .idx 5
    | 38 => .loc
    | 39 => .int
    | 40 => .any
    | 41 => .int
    | 42 => .int
    | 43 => .int
    | _ => .ptr
  N := 44
  D := 52
  rs := 2
  cs := 6
  ls := 7
  T := 25
theorem sigLT_good : sigLT.good := by
  refine ⟨fun i hi => ?_, fun i j hi hj hne => ?_⟩
  · have hi : i < 44 := hi
    simp only [sigLT]
    repeat' split
    all_goals omega
  · have hi : i < 44 := hi
    have hj : j < 44 := hj
    simp only [sigLT]
    repeat' split
    all_goals omega
/-- The ending of the draw. -/
def DrawnLT (w : World) (e : Ending) (w' : World) : Prop := ∃ (l : RV) (p q r : Int), e = .returned (.tuple #[.agg #[.int .i64 l.c, .int .i64 l.m, .int .i64 l.p], .int .i64 p, .int .i64 q, .int .i64 r]) ∧ Below w.heap.size w w'
set_option maxRecDepth 100000 in
set_option maxHeartbeats 6400000 in
theorem DrawLeaseTry_any (A : Option Addr) (n c : Nat) (w : World) (hn : n ≤ 1048576) (hc : CodeAt w A n) :
    Calls Try.prog 13 #[.slice A n c] w (DrawnLT w) := by
  have hb0 : Below w.heap.size w (w.alloc (.cells #[.int .i64 0, .int .i64 0, .int .i64 0] 25)) := (by repeat' (first | exact Below.refl _ _ | refine Below.alloc ?_ ?_ _ | refine Below.setCell ?_ ?_ _ | refine Below.drew ?_ | (apply below_step; assumption) | (simp; done) | (simp; omega) | omega))
  have HC : Hid (0 < n → ∃ b off, A = some ⟨b, off, none⟩ ∧ b < w.heap.size ∧ ∀ i, i < n → ∃ z : Int, 0 ≤ z ∧ z ≤ 255 ∧ (w.alloc (.cells #[.int .i64 0, .int .i64 0, .int .i64 0] 25)).cell? ⟨b, off + i, none⟩ = some (.int .u8 z)) := fun h => by
    obtain ⟨b, off, rfl, hlt, hcc⟩ := hc h
    exact ⟨b, off, rfl, hlt, fun i hi => by
      obtain ⟨z, z0, z1, hz⟩ := hcc i hi
      exact ⟨z, z0, z1, (hb0.cell (p := ⟨b, _, none⟩) hlt).trans hz⟩⟩
  have T2 := Lib.hid (BlockIs.new w 25 #[.int .i64 0, .int .i64 0, .int .i64 0])
  clear hc
  go_enter Try.func13, Try.ntmps13
  go_wp2_with fail
  refine (l01Open_any A n c _ hn w.heap.size (by simp) HC.out).mono ?_
  rintro e w1 ⟨rfl, hb1, hc1⟩
  have T1 := T2.out.below hb1 (by simp)
  have hz1 := hb1.size
  simp at hz1 hc1
  have hB1 : Below w.heap.size w w1 := (by repeat' (first | exact Below.refl _ _ | refine Below.alloc ?_ ?_ _ | refine Below.setCell ?_ ?_ _ | refine Below.drew ?_ | (apply below_step; assumption) | (simp; done) | (simp; omega) | omega))
  have HT1 := Lib.hid T1
  have hlt1 := hc1.lt
  clear T2 hb1 hb0 HC T1
  go_wp2_with fail
  refine (curLease_any (w.heap.size + 1) w.heap.size A n c _ w1 (by omega) hn (by omega) hc1).mono ?_
  rintro e w2 ⟨r, rfl, hb2, hc2⟩
  have T2 := Lib.hid (HT1.out.but hb2 (by omega))
  have hz2 := hb2.size
  have hB2 : Below w.heap.size w w2 := hB1.trans (hb2.below (by omega) (by omega))
  clear hc1 HT1
  go_wp2_with fail
  have hbx : w.heap.size < w.heap.size + 1 := by omega
  have hlb : w.heap.size + 1 < w2.heap.size := by omega
  have hG : w.heap.size ≤ w.heap.size + 1 := by omega
  have hS := sigLT_good
  refine wp_region_any (by kernel_rfl) ?_
  refine wpAny_inv (by decide +kernel) (DInv sigLT (w.heap.size + 1) w.heap.size w2.heap.size w.heap.size A n c (w2.alloc (.cells #[.int .i64 r.c, .int .i64 r.m, .int .i64 r.p] 25))) ?_ ?_ _ _ _ _ (by simp) (by decide +kernel) ?_
  · intro f listed a w3 hI hall
    obtain ⟨p, h1⟩ : Fit3 _ _ .int w3 (a.eval (.tmp 3)) := hI.fits 41 (by decide) (hall 41 (by simp))
    obtain ⟨q, h2⟩ : Fit3 _ _ .int w3 (a.eval (.tmp 4)) := hI.fits 42 (by decide) (hall 42 (by simp))
    obtain ⟨s, h3⟩ : Fit3 _ _ .int w3 (a.eval (.tmp 5)) := hI.fits 43 (by decide) (hall 43 (by simp))
    obtain ⟨x, hx⟩ := hI.boxAt
    have c0 := hx.cell 0
    have c1 := hx.cell 1
    have c2 := hx.cell 2
    simp at c0 c1 c2
    have e1 : a.tmps[3]?.getD undef = .int .i64 p := by rw [← h1]; simp [Act.eval]
    have e2 : a.tmps[4]?.getD undef = .int .i64 q := by rw [← h2]; simp [Act.eval]
    have e3 : a.tmps[5]?.getD undef = .int .i64 s := by rw [← h3]; simp [Act.eval]
    have e4 : a.tmps[2]?.getD undef = .pointer (some ⟨w.heap.size, 0, none⟩) := by rw [← hI.box]; simp [Act.eval, sigLT]
    rename_i hcont
    refine hcont a w3 ?_
    have hfin : Below w.heap.size w w3 := (hB2.alloc (by omega) (.cells #[.int .i64 r.c, .int .i64 r.m, .int .i64 r.p] 25)).trans ⟨hI.two.os, hI.two.tape, hI.two.output, hI.two.size, fun k hk => hI.two.block k (by simp; omega) (by omega) (by omega)⟩
    apply wp_ret
    refine bodyPost_ret (R := DrawnLT w) (v := .tuple #[.agg #[.int .i64 x.c, .int .i64 x.m, .int .i64 x.p], .int .i64 p, .int .i64 q, .int .i64 s]) ?_ hI.defers ⟨x, p, q, s, rfl, hfin⟩
    simp [results, Try.results13, go_sem, e1, e2, e3, e4, c0, c1, c2]
  · intro f listed a w3 i o hI hi h0 hio hdep K hK
    have hi' : i < 44 := hi
    match i, hi' with
    | 0, _ =>
      obtain rfl := Option.some.inj (show some _ = some o from hio)
      exact inv_tri hS hbx hlb hI hK (by decide) rfl rfl rfl rfl rfl
    | 1, _ =>
      obtain rfl := Option.some.inj (show some _ = some o from hio)
      exact inv_move hS hbx hlb hI hK (by decide) rfl rfl rfl rfl
    | 2, _ =>
      obtain rfl := Option.some.inj (show some _ = some o from hio)
      exact inv_pick hS hbx hlb hI hK (by decide) rfl rfl hG hn 4 (.inl rfl) (by omega) (by omega) rfl (hI.fits 1 (by decide) (hdep { on := 1, ground := .data } (by simp) (by rfl)))
    | 3, _ =>
      obtain rfl := Option.some.inj (show some _ = some o from hio)
      exact inv_add hS hbx hlb hI hK (by decide) rfl rfl rfl rfl (hI.fits 2 (by decide) (hdep { on := 2, ground := .data } (by simp) (by rfl)))
    | 4, _ =>
      obtain rfl := Option.some.inj (show some _ = some o from hio)
      exact inv_move hS hbx hlb hI hK (by decide) rfl rfl rfl rfl
    | 5, _ =>
      obtain rfl := Option.some.inj (show some _ = some o from hio)
      exact inv_pick hS hbx hlb hI hK (by decide) rfl rfl hG hn 4 (.inl rfl) (by omega) (by omega) rfl (hI.fits 4 (by decide) (hdep { on := 4, ground := .data } (by simp) (by rfl)))
    | 6, _ =>
      obtain rfl := Option.some.inj (show some _ = some o from hio)
      exact inv_add hS hbx hlb hI hK (by decide) rfl rfl rfl rfl (hI.fits 5 (by decide) (hdep { on := 5, ground := .data } (by simp) (by rfl)))
    | 7, _ =>
      obtain rfl := Option.some.inj (show some _ = some o from hio)
      exact inv_move hS hbx hlb hI hK (by decide) rfl rfl rfl rfl
    | 8, _ =>
      obtain rfl := Option.some.inj (show some _ = some o from hio)
      exact inv_raw hS hbx hlb hI hK (by decide) rfl rfl hG hn rfl rfl (hI.fits 7 (by decide) (hdep { on := 7, ground := .data } (by simp) (by rfl)))
    | 9, _ =>
      obtain rfl := Option.some.inj (show some _ = some o from hio)
      exact inv_row3 hS hbx hlb hI hK (by decide) rfl rfl hG rfl rfl (hI.fits 3 (by decide) (hdep { on := 3, ground := .data } (by simp) (by rfl))) (hI.fits 6 (by decide) (hdep { on := 6, ground := .data } (by simp) (by rfl))) (hI.fits 8 (by decide) (hdep { on := 8, ground := .data } (by simp) (by rfl)))
    | 10, _ =>
      obtain rfl := Option.some.inj (show some _ = some o from hio)
      exact inv_move hS hbx hlb hI hK (by decide) rfl rfl rfl rfl
    | 11, _ =>
      obtain rfl := Option.some.inj (show some _ = some o from hio)
      exact inv_pick hS hbx hlb hI hK (by decide) rfl rfl hG hn 3 (.inr rfl) (by omega) (by omega) rfl (hI.fits 10 (by decide) (hdep { on := 10, ground := .data } (by simp) (by rfl)))
    | 12, _ =>
      obtain rfl := Option.some.inj (show some _ = some o from hio)
      exact inv_index hS hbx hlb hI hK (by decide) rfl rfl 3 rfl rfl (hI.fits 9 (by decide) (hdep { on := 9, ground := .data } (by simp) (by rfl))) (hI.fits 11 (by decide) (hdep { on := 11, ground := .data } (by simp) (by rfl)))
    | 13, _ =>
      obtain rfl := Option.some.inj (show some _ = some o from hio)
      exact inv_load hS hbx hlb hI hK (by decide) rfl rfl rfl rfl (hI.fits 12 (by decide) (hdep { on := 12, ground := .data } (by simp) (by rfl)))
    | 14, _ =>
      obtain rfl := Option.some.inj (show some _ = some o from hio)
      exact inv_field hS hbx hlb hI hK (by decide) rfl rfl rfl rfl
    | 15, _ =>
      obtain rfl := Option.some.inj (show some _ = some o from hio)
      exact inv_fload hS hbx hlb hI hK (by decide) rfl rfl rfl rfl (hI.fits 14 (by decide) (hdep { on := 14, ground := .data } (by simp) (by rfl)))
    | 16, _ =>
      obtain rfl := Option.some.inj (show some _ = some o from hio)
      exact inv_max hS hbx hlb hI hK (by decide) rfl rfl rfl rfl rfl (hI.fits 15 (by decide) (hdep { on := 15, ground := .data } (by simp) (by rfl)))
    | 17, _ =>
      obtain rfl := Option.some.inj (show some _ = some o from hio)
      exact inv_min hS hbx hlb hI hK (by decide) rfl rfl rfl rfl rfl (hI.fits 16 (by decide) (hdep { on := 16, ground := .data } (by simp) (by rfl)))
    | 18, _ =>
      obtain rfl := Option.some.inj (show some _ = some o from hio)
      exact inv_move hS hbx hlb hI hK (by decide) rfl rfl rfl rfl
    | 19, _ =>
      obtain rfl := Option.some.inj (show some _ = some o from hio)
      exact inv_pick hS hbx hlb hI hK (by decide) rfl rfl hG hn 60 (.inl rfl) (by omega) (by omega) rfl (hI.fits 18 (by decide) (hdep { on := 18, ground := .data } (by simp) (by rfl)))
    | 20, _ =>
      obtain rfl := Option.some.inj (show some _ = some o from hio)
      exact inv_move hS hbx hlb hI hK (by decide) rfl rfl rfl rfl
    | 21, _ =>
      obtain rfl := Option.some.inj (show some _ = some o from hio)
      exact inv_raw hS hbx hlb hI hK (by decide) rfl rfl hG hn rfl rfl (hI.fits 20 (by decide) (hdep { on := 20, ground := .data } (by simp) (by rfl)))
    | 22, _ =>
      obtain rfl := Option.some.inj (show some _ = some o from hio)
      exact inv_row5 hS hbx hlb hI hK (by decide) rfl rfl hG rfl rfl (hI.fits 17 (by decide) (hdep { on := 17, ground := .data } (by simp) (by rfl))) (hI.fits 19 (by decide) (hdep { on := 19, ground := .data } (by simp) (by rfl))) (hI.fits 21 (by decide) (hdep { on := 21, ground := .data } (by simp) (by rfl))) ⟨_, rfl⟩ ⟨_, rfl⟩
    | 23, _ =>
      obtain rfl := Option.some.inj (show some _ = some o from hio)
      exact inv_move hS hbx hlb hI hK (by decide) rfl rfl rfl rfl
    | 24, _ =>
      obtain rfl := Option.some.inj (show some _ = some o from hio)
      exact inv_pick hS hbx hlb hI hK (by decide) rfl rfl hG hn 5 (.inr rfl) (by omega) (by omega) rfl (hI.fits 23 (by decide) (hdep { on := 23, ground := .data } (by simp) (by rfl)))
    | 25, _ =>
      obtain rfl := Option.some.inj (show some _ = some o from hio)
      exact inv_index hS hbx hlb hI hK (by decide) rfl rfl 5 rfl rfl (hI.fits 22 (by decide) (hdep { on := 22, ground := .data } (by simp) (by rfl))) (hI.fits 24 (by decide) (hdep { on := 24, ground := .data } (by simp) (by rfl)))
    | 26, _ =>
      obtain rfl := Option.some.inj (show some _ = some o from hio)
      exact inv_load hS hbx hlb hI hK (by decide) rfl rfl rfl rfl (hI.fits 25 (by decide) (hdep { on := 25, ground := .data } (by simp) (by rfl)))
    | 27, _ =>
      obtain rfl := Option.some.inj (show some _ = some o from hio)
      exact inv_move hS hbx hlb hI hK (by decide) rfl rfl rfl rfl
    | 28, _ =>
      obtain rfl := Option.some.inj (show some _ = some o from hio)
      exact inv_pick hS hbx hlb hI hK (by decide) rfl rfl hG hn 9 (.inl rfl) (by omega) (by omega) rfl (hI.fits 27 (by decide) (hdep { on := 27, ground := .data } (by simp) (by rfl)))
    | 29, _ =>
      obtain rfl := Option.some.inj (show some _ = some o from hio)
      exact inv_add hS hbx hlb hI hK (by decide) rfl rfl rfl rfl (hI.fits 28 (by decide) (hdep { on := 28, ground := .data } (by simp) (by rfl)))
    | 30, _ =>
      obtain rfl := Option.some.inj (show some _ = some o from hio)
      exact inv_move hS hbx hlb hI hK (by decide) rfl rfl rfl rfl
    | 31, _ =>
      obtain rfl := Option.some.inj (show some _ = some o from hio)
      exact inv_pick hS hbx hlb hI hK (by decide) rfl rfl hG hn 9 (.inl rfl) (by omega) (by omega) rfl (hI.fits 30 (by decide) (hdep { on := 30, ground := .data } (by simp) (by rfl)))
    | 32, _ =>
      obtain rfl := Option.some.inj (show some _ = some o from hio)
      exact inv_add hS hbx hlb hI hK (by decide) rfl rfl rfl rfl (hI.fits 31 (by decide) (hdep { on := 31, ground := .data } (by simp) (by rfl)))
    | 33, _ =>
      obtain rfl := Option.some.inj (show some _ = some o from hio)
      exact inv_move hS hbx hlb hI hK (by decide) rfl rfl rfl rfl
    | 34, _ =>
      obtain rfl := Option.some.inj (show some _ = some o from hio)
      exact inv_raw hS hbx hlb hI hK (by decide) rfl rfl hG hn rfl rfl (hI.fits 33 (by decide) (hdep { on := 33, ground := .data } (by simp) (by rfl)))
    | 35, _ =>
      obtain rfl := Option.some.inj (show some _ = some o from hio)
      exact inv_row5 hS hbx hlb hI hK (by decide) rfl rfl hG rfl rfl (hI.fits 29 (by decide) (hdep { on := 29, ground := .data } (by simp) (by rfl))) (hI.fits 32 (by decide) (hdep { on := 32, ground := .data } (by simp) (by rfl))) ⟨_, rfl⟩ ⟨_, rfl⟩ (hI.fits 34 (by decide) (hdep { on := 34, ground := .data } (by simp) (by rfl)))
    | 36, _ =>
      obtain rfl := Option.some.inj (show some _ = some o from hio)
      exact inv_move hS hbx hlb hI hK (by decide) rfl rfl rfl rfl
    | 37, _ =>
      obtain rfl := Option.some.inj (show some _ = some o from hio)
      exact inv_pick hS hbx hlb hI hK (by decide) rfl rfl hG hn 5 (.inr rfl) (by omega) (by omega) rfl (hI.fits 36 (by decide) (hdep { on := 36, ground := .data } (by simp) (by rfl)))
    | 38, _ =>
      obtain rfl := Option.some.inj (show some _ = some o from hio)
      exact inv_index hS hbx hlb hI hK (by decide) rfl rfl 5 rfl rfl (hI.fits 35 (by decide) (hdep { on := 35, ground := .data } (by simp) (by rfl))) (hI.fits 37 (by decide) (hdep { on := 37, ground := .data } (by simp) (by rfl)))
    | 39, _ =>
      obtain rfl := Option.some.inj (show some _ = some o from hio)
      exact inv_load hS hbx hlb hI hK (by decide) rfl rfl rfl rfl (hI.fits 38 (by decide) (hdep { on := 38, ground := .data } (by simp) (by rfl)))
    | 40, _ =>
      obtain rfl := Option.some.inj (show some _ = some o from hio)
      exact inv_store hS hbx hlb (Nat.le_refl _) hI hK rfl rfl rfl rfl (hI.fits 0 (by decide) (hdep { on := 0, ground := .data } (by simp) (by rfl)))
    | 41, _ =>
      obtain rfl := Option.some.inj (show some _ = some o from hio)
      exact inv_assign hS hbx hlb hI hK (by decide) rfl rfl rfl rfl (hI.fits 13 (by decide) (hdep { on := 13, ground := .data } (by simp) (by rfl)))
    | 42, _ =>
      obtain rfl := Option.some.inj (show some _ = some o from hio)
      exact inv_assign hS hbx hlb hI hK (by decide) rfl rfl rfl rfl (hI.fits 26 (by decide) (hdep { on := 26, ground := .data } (by simp) (by rfl)))
    | 43, _ =>
      obtain rfl := Option.some.inj (show some _ = some o from hio)
      exact inv_assign hS hbx hlb hI hK (by decide) rfl rfl rfl rfl (hI.fits 39 (by decide) (hdep { on := 39, ground := .data } (by simp) (by rfl)))
  · refine ⟨rfl, rfl, rfl, rfl, rfl, ⟨_, ?_, hc2.but_alloc (by omega) _⟩, ⟨⟨0, 0, 0⟩, T2.out.alloc _⟩, ⟨r, BlockIs.new' (by simp)⟩, Two.of_but ((But.refl _ _).drew), fun i hi hl => ?_⟩
    · decide
    have hi' : i < 44 := hi
    simp [hi'] at hl
end Go.Proofs.Ytjammpcfihlfaaa
