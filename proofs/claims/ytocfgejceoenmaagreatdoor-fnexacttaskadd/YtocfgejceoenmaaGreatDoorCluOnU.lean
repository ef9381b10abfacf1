/- The contract of usedOn. -/
import Derived.Test.YtocfgejceoenmaaGreatDoorCluOnI
namespace Go.Proofs.YtocfgejceoenmaaGreatDoor
open Go.RowKit Go.Shelf
attribute [local go_sem] Oper.semAt_some

/-- What the loop of usedOn holds: the box of the needs so far; the result's cell; nothing that was there has turned. -/
def OnI (w : World) (pre : List RV) (W : World) : Prop :=
  (((∃ v, Boxed W (w.heap.size + 2) 150 v ∧ W.ownsRow (w.heap.size + 5) 43 3 v pre.length (resL pre) ∧ True) ∧ BlockIs W (w.heap.size + 1) 43 #[.int .i64 0, .int .i64 0, .int .i64 0]) ∧ Below w.heap.size w W) ∧ w.heap.size + 5 ≤ W.heap.size
def needsOn {w0 : World} (pre : List (OnT w0)) : List RV := pre.map fun x => x.t.need
theorem needsOn_snoc {w0 : World} (pre : List (OnT w0)) (x : OnT w0) : needsOn (pre ++ [x]) = needsOn pre ++ [x.t.need] := by simp [needsOn]
theorem onI_own (w : World) (B : Nat) (hB : w.heap.size ≤ B) : OwnFrom B (OnI w) :=
  OwnFrom.and (OwnFrom.and (OwnFrom.and (Own.from (holdsRow_own (w.heap.size + 5) (w.heap.size + 2) 150 43 3 (fun pre : List RV => pre.length) (fun pre => resL pre) (fun _ _ => True)) _)
    (fun _ X Y row hs hg hr => (hg.block _ (BlockIs.lt hs) (fun e => by obtain ⟨_, o, ho, hc⟩ := hr _ e.symm; rw [show X.heap[w.heap.size + 1]? = _ from hs] at ho; cases ho; cases hc)).trans hs)) (ownFrom_below (Nat.le_refl _) hB)) (fun _ _ _ _ hs hg _ => Nat.le_trans hs hg.size)
theorem own_form' {w : World} {base : Nat} {e : TypeId} {size n : Nat} {v : Value} {xs : List Value} (h : w.ownsRow base e size v n xs) : ∃ A c, v = .slice A n c ∧ True := by
  rcases h.2 with ⟨rfl, rfl⟩ | ⟨g, cap, cur, rfl, _⟩
  · exact ⟨_, _, rfl, trivial⟩
  · exact ⟨_, _, rfl, trivial⟩
/-- append of an amount in a round. -/
theorem wpListIn_append_res {F : Fence} {n : Nat} {ops : Array Oper} {rest : List Oper} {o : Oper} {a : Act} {Q : Exit → Act → World → Prop} (w : World) (hgd : o.guard = none) (s x : Operand)
    (ho : o.op = .call { callee := .builtin .append, args := #[s, x], argTypes := #[150, 150] })
    (base : Nat) (v : Value) (l : List RV) (r : RV) (g : Nat) (hs : a.eval s = v) (hown : w.ownsRow base 43 3 v l.length (resL l)) (hx : a.eval x = .slice (some ⟨g, 0, none⟩) 1 1)
    (h0 : w.cell? ⟨g, 0, none⟩ = some (.int .i64 r.c)) (h1 : w.cell? ⟨g, 1, none⟩ = some (.int .i64 r.m)) (h2 : w.cell? ⟨g, 2, none⟩ = some (.int .i64 r.p)) (hl : l.length ≤ 2000000) (hbase : base ≤ w.heap.size)
    (h : ∀ v' w', w'.ownsRow base 43 3 v' (l.length + 1) (resL (l ++ [r])) → w.grownBy w' v.ownBlock → wpListIn F n Tryz.prog ops Q rest (a.put o.dst v') w') : wpListIn F n Tryz.prog ops Q (o :: rest) a w := by
  obtain ⟨i0, hi0, hz0, hz1, hz2⟩ := info_parts infoR
  refine wpListIn_append_own w hgd s x 150 ho base 43 i0 _ 3 24 Tryz.underlying150 hi0 hz0 hz1 hz2 rfl (by omega) v l.length (resL l) hs hown ⟨g, 0, none⟩ 1 1 [.int .i64 r.c, .int .i64 r.m, .int .i64 r.p] hx rfl ?_ ?_ (by simp only [maxLen]; omega) (by omega) hbase ?_
  · intro j u hj
    match j, hj with
    | 0, hj => simp at hj; subst hj; simpa [Addr.add] using h0
    | 1, hj => simp at hj; subst hj; simpa [Addr.add] using h1
    | 2, hj => simp at hj; subst hj; simpa [Addr.add] using h2
  · intro u hu
    simp at hu
    rcases hu with rfl | rfl | rfl <;> rfl
  · intro v' w' hown' hgrow _
    exact h v' w' (by rw [resL_append]; exact hown') hgrow
/-- 'out = append(out, ..)' where out lies in a box ahead of the row. -/
theorem boxed_app {W w1 : World} {B base : Nat} {t e : TypeId} {size : Nat} {v v' : Value} {k m : Nat} {xs ys : List Value} {tmp : Obj} (hv : Boxed W B t v) (hrow : W.ownsRow base e size v k xs) (hbase : base ≤ W.heap.size) (hB : B < base)
    (hown' : w1.ownsRow base e size v' m ys) (hgrow : (W.alloc tmp).grownBy w1 v.ownBlock) :
    Boxed w1 B t v ∧ Boxed (w1.setCell ⟨B, 0, none⟩ v') B t v' ∧ (w1.setCell ⟨B, 0, none⟩ v').ownsRow base e size v' m ys ∧ KeepsOthers W (w1.setCell ⟨B, 0, none⟩ v') ∧ (∀ b, b < base → b ≠ B → (w1.setCell ⟨B, 0, none⟩ v').heap[b]? = W.heap[b]?) ∧ Below B W (w1.setCell ⟨B, 0, none⟩ v') := by
  have hb1 : Below base W w1 := ((Below.refl base W).alloc hbase tmp).grown hgrow (by simp; omega) (fun k hk => (World.ownsRow.lt hrow k hk).1)
  have hv1 : Boxed w1 B t v := (hb1.block B hB).trans hv
  refine ⟨hv1, hv1.set v', hown'.kept (grownBy_setCell' w1 B v') (.inr fun e' => ?_), ?_, fun b hb hne => (Below.heap_setCell _ _ _ b hne).trans (hb1.block b hb), Below.setCell (p := ⟨B, 0, none⟩) (hb1.mono (Nat.le_of_lt hB)) (Nat.le_refl _) _⟩
  · have := (World.ownsRow.lt hown' B e').1; omega
  · refine ((KeepsOthers.alloc W tmp).trans (KeepsOthers.of_grownBy hgrow fun j o ej hj => ?_)).trans (KeepsOthers.setCell _ _ _)
    rcases (hrow.alloc tmp).2 with ⟨rfl, _⟩ | ⟨g, cap, cur, rfl, _, hgb, _⟩
    · simp [Value.ownBlock] at ej
    · obtain rfl : g = j := by simpa [Value.ownBlock] using ej
      rw [hgb] at hj; cases hj; rfl
set_option maxRecDepth 100000 in
set_option maxHeartbeats 4000000 in
theorem usedOn_any (c : CV) (a0 a1 a2 : Value) (z : Int) (w0 w : World) (hw : Below w0.heap.size w0 w) (x : Addr) (hg : ErrAt x w) (hc : CluR w0 c a0 a1 a2) :
    Calls Tryz.prog 180 #[.agg #[a0, a1, a2], .int .i64 z] w (RetR (usedOf c z).1 (usedOf c z).2 w) := by
  obtain ⟨D0, e0, rfl, _⟩ := hc.1.form
  obtain ⟨D1, e1, rfl, _⟩ := hc.2.1.form
  obtain ⟨D2, e2, rfl, _⟩ := hc.2.2.1.form
  have HC := Lib.hid hc
  have HG := Lib.hid hg
  have HW := Lib.hid hw
  clear hc hg hw
  refine (callsIn_wide (n := 3)).1 ?_
  refine callsIn_of_wp_marks Tryz.func180 rfl trivial ?_ rfl
  simp only [Tryz.ntmps180, List.size_toArray, List.length_cons, List.length_nil, Nat.reduceAdd, Nat.reduceSub, Array.replicate_succ, Array.replicate_zero, List.push_toArray, List.append_toArray, List.nil_append, List.cons_append]
  gi_wp2
  refine ⟨trivial, (callsIn_wide.2 (tasksOn_any D0 D1 D2 _ _ _ e0 e1 e2 z _)).mono ?_⟩
  rintro e w1 ⟨rfl, rfl⟩
  gi_wp2
  have hX : Below w.heap.size w (((((w.alloc (.cells #[.slice D0 c.tasks.length e0, .slice D1 c.nodes.length e1, .slice D2 c.binds.length e2] 39)).alloc (.cells #[.int .i64 0, .int .i64 0, .int .i64 0] 43)).alloc (.cells #[.slice none 0 0] 150)).alloc (.cells #[.slice D0 c.tasks.length e0, .slice D1 c.nodes.length e1, .slice D2 c.binds.length e2] 39)).alloc (.cells #[.int .i64 z] 3)) := (by repeat' (first | exact Below.refl _ _ | refine Below.alloc ?_ ?_ _ | refine Below.setCell ?_ ?_ _ | refine Below.drew ?_ | (apply below_step; assumption) | (simp; done) | (simp; omega) | omega))
  have hXz : ((((((w.alloc (.cells #[.slice D0 c.tasks.length e0, .slice D1 c.nodes.length e1, .slice D2 c.binds.length e2] 39)).alloc (.cells #[.int .i64 0, .int .i64 0, .int .i64 0] 43)).alloc (.cells #[.slice none 0 0] 150)).alloc (.cells #[.slice D0 c.tasks.length e0, .slice D1 c.nodes.length e1, .slice D2 c.binds.length e2] 39)).alloc (.cells #[.int .i64 z] 3))).heap.size = w.heap.size + 5 := by simp
  have bR : BlockIs (((((w.alloc (.cells #[.slice D0 c.tasks.length e0, .slice D1 c.nodes.length e1, .slice D2 c.binds.length e2] 39)).alloc (.cells #[.int .i64 0, .int .i64 0, .int .i64 0] 43)).alloc (.cells #[.slice none 0 0] 150)).alloc (.cells #[.slice D0 c.tasks.length e0, .slice D1 c.nodes.length e1, .slice D2 c.binds.length e2] 39)).alloc (.cells #[.int .i64 z] 3)) (w.heap.size + 1) 43 #[.int .i64 0, .int .i64 0, .int .i64 0] := (((BlockIs.new' (by simp)).alloc _).alloc _).alloc _
  have bO : Boxed (((((w.alloc (.cells #[.slice D0 c.tasks.length e0, .slice D1 c.nodes.length e1, .slice D2 c.binds.length e2] 39)).alloc (.cells #[.int .i64 0, .int .i64 0, .int .i64 0] 43)).alloc (.cells #[.slice none 0 0] 150)).alloc (.cells #[.slice D0 c.tasks.length e0, .slice D1 c.nodes.length e1, .slice D2 c.binds.length e2] 39)).alloc (.cells #[.int .i64 z] 3)) (w.heap.size + 2) 150 (.slice none 0 0) := ((BlockIs.new' (by simp)).alloc _).alloc _
  have bC : BlockIs (((((w.alloc (.cells #[.slice D0 c.tasks.length e0, .slice D1 c.nodes.length e1, .slice D2 c.binds.length e2] 39)).alloc (.cells #[.int .i64 0, .int .i64 0, .int .i64 0] 43)).alloc (.cells #[.slice none 0 0] 150)).alloc (.cells #[.slice D0 c.tasks.length e0, .slice D1 c.nodes.length e1, .slice D2 c.binds.length e2] 39)).alloc (.cells #[.int .i64 z] 3)) (w.heap.size + 3) 39 #[.slice D0 c.tasks.length e0, .slice D1 c.nodes.length e1, .slice D2 c.binds.length e2] := (BlockIs.new' (by simp)).alloc _
  have bN : BlockIs (((((w.alloc (.cells #[.slice D0 c.tasks.length e0, .slice D1 c.nodes.length e1, .slice D2 c.binds.length e2] 39)).alloc (.cells #[.int .i64 0, .int .i64 0, .int .i64 0] 43)).alloc (.cells #[.slice none 0 0] 150)).alloc (.cells #[.slice D0 c.tasks.length e0, .slice D1 c.nodes.length e1, .slice D2 c.binds.length e2] 39)).alloc (.cells #[.int .i64 z] 3)) (w.heap.size + 4) 3 #[.int .i64 z] := BlockIs.new' (by simp)
  generalize (((((w.alloc (.cells #[.slice D0 c.tasks.length e0, .slice D1 c.nodes.length e1, .slice D2 c.binds.length e2] 39)).alloc (.cells #[.int .i64 0, .int .i64 0, .int .i64 0] 43)).alloc (.cells #[.slice none 0 0] 150)).alloc (.cells #[.slice D0 c.tasks.length e0, .slice D1 c.nodes.length e1, .slice D2 c.binds.length e2] 39)).alloc (.cells #[.int .i64 z] 3)) = X at hX hXz bR bO bC bN ⊢
  refine wpIn_rangeFunc_ownH rfl (by omega) (gf := 198) (lb := #[.pointer (some ⟨w.heap.size + 1 + 1 + 1, 0, none⟩), .pointer (some ⟨w.heap.size + 1 + 1 + 1 + 1, 0, none⟩)]) rfl trivial (enters_of Tryz.func198 (by kernel_rfl) rfl)
    (tasksOn_stops c D0 D1 D2 e0 e1 e2 z w0 X (below_of HW.out hX) HC.out (w.heap.size + 3) (w.heap.size + 4) w.heap.size 2 HW.out.size (by omega) bC bN) KpOn.t (KpOn.b (by omega) (by omega) (by omega)) (Below.refl _ _) (fun _ => rfl)
    (fun (pre : List (OnT w0)) W => OnI w (needsOn pre) W)
    (fun _ _ _ => False)
    (fun s A B row hs hg hr => onI_own w X.heap.size (by omega) _ A B row hs hg hr)
    (fun _ _ _ _ _ hs _ _ => hs)
    ⟨⟨⟨⟨_, bO, World.ownsRow_nil _ _ _ _, trivial⟩, bR⟩, hX⟩, by omega⟩
    (fun x a' W => ∃ Bx, w.heap.size + 5 ≤ Bx ∧ BlockIs W Bx 46 x.1.2.toArray ∧ a' = { tmps := #[.agg #[.slice D0 c.tasks.length e0, .slice D1 c.nodes.length e1, .slice D2 c.binds.length e2], .int .i64 z, .pointer (some ⟨w.heap.size, 0, none⟩), undef, .pointer (some ⟨w.heap.size + 1, 0, none⟩), .bool false, .pointer (some ⟨w.heap.size + 1 + 1, 0, none⟩), .pointer (some ⟨Bx, 0, none⟩), .agg #[.slice D0 c.tasks.length e0, .slice D1 c.nodes.length e1, .slice D2 c.binds.length e2], .int .i64 z, .func (.func 198) #[] #[.pointer (some ⟨w.heap.size + 1 + 1 + 1, 0, none⟩), .pointer (some ⟨w.heap.size + 1 + 1 + 1 + 1, 0, none⟩)], .agg x.1.2.toArray, undef, undef, undef, undef, undef, undef, undef, undef, undef], defers := [] })
    (fun x a' _ Y Z row hs hg hr => by
      obtain ⟨Bx, h1, h2, h3⟩ := hs
      exact ⟨Bx, h1, (hg.block _ (BlockIs.lt h2) (fun e => by obtain ⟨_, o, ho, hc⟩ := hr _ e.symm; rw [show Y.heap[Bx]? = _ from h2] at ho; cases ho; cases hc)).trans h2, h3⟩)
    ?assign ?body ?done ?stop
  case assign =>
    rintro l pre ⟨⟨t, cs⟩, hR⟩ W K hI hK
    change TaskR w0 t cs at hR
    obtain ⟨v1, v2, rfl, sl, si, _⟩ := id hR
    obtain ⟨A1, c1, rfl, _⟩ := sl.form
    obtain ⟨A2, c2, rfl, _⟩ := si.form
    clear sl si
    dsimp only [encT]
    have hBs := hI.1.2.size
    have hB5 := hI.2
    have HI := Lib.hid hI
    have HK := Lib.hid hK
    clear hI hK
    gi_wp2
    have hI := HI.out
    obtain ⟨⟨⟨⟨v, hv, hrow, _⟩, hr⟩, hB⟩, _⟩ := hI
    exact HK.out _ _ ((KeepsOthers.alloc _ _).from _) ⟨(Below.refl _ W).alloc hBs _, Below.heap_alloc W _ _ (by omega), Below.heap_alloc W _ _ (by omega)⟩
      ⟨⟨⟨⟨v, hv.alloc _, hrow.alloc _, trivial⟩, hr.alloc _⟩, hB.alloc hBs _⟩, by simp; omega⟩ ⟨W.heap.size, by omega, BlockIs.new W _ _, rfl⟩
  case body =>
    rintro l pre ⟨⟨t, cs⟩, hR⟩ a' W hl hrl hI ⟨Bx, hBx, bX, rfl⟩ hlt
    change TaskR w0 t cs at hR
    obtain ⟨v1, v2, rfl, sl, si, _⟩ := id hR
    obtain ⟨A1, c1, rfl, _⟩ := sl.form
    obtain ⟨A2, c2, rfl, _⟩ := si.form
    obtain ⟨⟨⟨⟨v, hv, hrow, _⟩, hr⟩, hB⟩, hB5⟩ := hI
    dsimp only at bX
    have x2 := bX.cell 2
    have x3 := bX.cell 3
    have x4 := bX.cell 4
    have hxl := bX.lt
    have hcv : W.cell? ⟨w.heap.size + 1 + 1, 0, none⟩ = some v := hv.cell
    simp at x2 x3 x4
    have HV := Lib.hid hv
    have HRW := Lib.hid hrow
    have HRR := Lib.hid hr
    have HBB := Lib.hid hB
    have HLT := Lib.hid (Nat.lt_of_lt_of_le hlt HC.out.2.2.2.2.2)
    clear sl si hv hrow hr hB bX hrl
    have hnl : (needsOn pre).length = pre.length := by simp [needsOn]
    have HNL := Lib.hid hnl
    clear hnl
    gi_wp2_with (gi_at_builtin; refine wpListIn_append_res _ rfl (.tmp 12) (.tmp 15) rfl (w.heap.size + 5) v (needsOn pre) t.need W.heap.size rfl (HRW.out.alloc _) rfl (by simp) (by simp) (by simp) (by have := HNL.out; have := HLT.out; omega) (by simp; omega) ?_; intro v' w1 hown' hgrow; obtain ⟨g', cap', rfl⟩ := ownsRow_succ hown'; obtain ⟨hv1, hv2, hr2, hk2, hs2, hb2⟩ := boxed_app HV.out HRW.out hB5 (by omega) hown' hgrow; have hc1 : w1.cell? ⟨w.heap.size + 1 + 1, 0, none⟩ = some v := hv1.cell; have hf1 : w1.frozen? ⟨w.heap.size + 1 + 1, 0, none⟩ = false := hv1.frozen)
    refine ⟨hk2.from _, ⟨hb2.mono (by omega), hs2 _ (by omega) (by omega), hs2 _ (by omega) (by omega)⟩, ⟨⟨⟨⟨_, hv2, ?_, trivial⟩, (hs2 _ (by omega) (by omega)).trans HRR.out⟩, HBB.out.trans (hb2.mono (by omega))⟩, ?_⟩⟩
    · rw [needsOn_snoc, List.length_append]; exact hr2
    · exact Nat.le_trans hB5 hb2.size
  case done =>
    rintro D ys W hD hys hI hK
    obtain ⟨⟨⟨⟨v, hv, hrow, _⟩, hr⟩, hB⟩, hB5⟩ := hI
    have hcv : W.cell? ⟨w.heap.size + 1 + 1, 0, none⟩ = some v := hv.cell
    have hne : needsOn ys = (tasksOnL c z c.binds).map TV.need := by rw [← hys, List.map_map]; rfl
    have hU : usedOf c z = sumGo RV.zero (needsOn ys) := by rw [hne, used_on]
    have hlen : (needsOn ys).length ≤ 1048576 := by
      have e1 := tasksOnL_len c z c.binds
      have e2 := HC.out.2.2.2.2.2
      rw [hne, List.length_map]; omega
    obtain ⟨A5, c5, rfl, _⟩ := own_form' hrow
    have hsum := fun w x hg hv => ResSum_any (.slice A5 (needsOn ys).length c5) (needsOn ys) w x hg hv hlen
    rw [← hU] at hsum
    generalize hu1 : (usedOf c z).1 = u at hsum
    generalize hu2 : (usedOf c z).2 = ok at hsum
    have HU := Lib.hid (And.intro hu1 hu2)
    clear hu1 hu2
    have HSUM := Lib.hid hsum
    have HGR := Lib.hid (HG.out.below hB (Nat.le_refl _))
    have HRW := Lib.hid (show OwnsR W (w.heap.size + 5) _ (needsOn ys) from hrow)
    have HRR := Lib.hid hr
    have HBB := Lib.hid hB
    have HK := Lib.hid hK
    clear hU hsum hlen hne hys hv hrow hr hK
    gi_wp2
    refine ⟨trivial, (callsIn_wide.2 (HSUM.out _ x HGR.out HRW.out.sl)).mono ?_⟩
    rintro e w2 ⟨rfl, hb2⟩
    have hz2 := hb2.size
    have BR := HRR.out.below hb2 (by omega)
    have r0 := BR.cell 0
    have r1 := BR.cell 1
    have r2 := BR.cell 2
    have rf := BR.frozen
    simp at r0 r1 r2
    have HB2 := Lib.hid BR
    have HK2 := Lib.hid ((hb2.block D (Array.getElem?_eq_some_iff.1 HK.out).1).trans HK.out)
    clear BR
    gi_wp2
    have hZ : BlockIs (((w2.setCell ⟨w.heap.size + 1, 0, none⟩ (.int .i64 u.c)).setCell ⟨w.heap.size + 1, 1, none⟩ (.int .i64 u.m)).setCell ⟨w.heap.size + 1, 2, none⟩ (.int .i64 u.p)) (w.heap.size + 1) 43 #[.int .i64 u.c, .int .i64 u.m, .int .i64 u.p] := by simpa using ((HB2.out.put 0 _).put 1 _).put 2 _
    have hX' : Below w.heap.size w (((w2.setCell ⟨w.heap.size + 1, 0, none⟩ (.int .i64 u.c)).setCell ⟨w.heap.size + 1, 1, none⟩ (.int .i64 u.m)).setCell ⟨w.heap.size + 1, 2, none⟩ (.int .i64 u.p)) := (((below_of HBB.out hb2).setCell (by dsimp only; omega) _).setCell (by dsimp only; omega) _).setCell (by dsimp only; omega) _
    have hKY : ((((w2.setCell ⟨w.heap.size + 1, 0, none⟩ (.int .i64 u.c)).setCell ⟨w.heap.size + 1, 1, none⟩ (.int .i64 u.m)).setCell ⟨w.heap.size + 1, 2, none⟩ (.int .i64 u.p))).heap[D]? = some (.deferred (some [])) := by
      have hne : D ≠ w.heap.size + 1 := by omega
      exact (Below.heap_setCell _ _ _ D hne).trans ((Below.heap_setCell _ _ _ D hne).trans ((Below.heap_setCell _ _ _ D hne).trans HK2.out))
    generalize (((w2.setCell ⟨w.heap.size + 1, 0, none⟩ (.int .i64 u.c)).setCell ⟨w.heap.size + 1, 1, none⟩ (.int .i64 u.m)).setCell ⟨w.heap.size + 1, 2, none⟩ (.int .i64 u.p)) = Y at hZ hX' hKY ⊢
    refine ⟨by simp, .inl ⟨_, _, rfl, run_takeDeferred hKY, ?_⟩⟩
    have hZ2 : BlockIs (Y.putObj D (.deferred none)) (w.heap.size + 1) 43 #[.int .i64 u.c, .int .i64 u.m, .int .i64 u.p] := (World.putObj_heap_other (by omega)).trans hZ
    have hY2 : Below w.heap.size w (Y.putObj D (.deferred none)) := hX'.trans (belowK_b (w := w) (Nat.le_refl _) Y D _ _ (by omega) hKY rfl rfl)
    generalize Y.putObj D (.deferred none) = Y2 at hZ2 hY2 ⊢
    have z0 := hZ2.cell 0
    have z1 := hZ2.cell 1
    have z2 := hZ2.cell 2
    simp at z0 z1 z2
    exact ⟨.tuple #[.agg #[.int .i64 u.c, .int .i64 u.m, .int .i64 u.p], .bool ok], by simp [results, Tryz.results180, go_sem, z0, z1, z2], by rw [HU.out.1, HU.out.2], hY2⟩
  case stop =>
    rintro D c pre W _ _ h _
    exact h.elim
end Go.Proofs.YtocfgejceoenmaaGreatDoor
