/- The laws' szEvent, toEvent, eqEvent; an event as an argument, opened. -/
import Derived.Test.YtcegofdmdemcbaaDoorEventI
import Derived.Test.YtcegofdmdemcbaaDoorRowLaws
import Derived.Test.YtcegofdmdemcbaaDoorTaskRow
import Derived.Test.YtcegofdmdemcbaaDoorSlTask
import Derived.Test.YtcegofdmdemcbaaDoorCluLaw
namespace Go.Proofs.YtcegofdmdemcbaaDoor
open Go.RowKit

set_option maxHeartbeats 800000 in
theorem szEvent_any (c0 c1 c2 c3 c4 c5 c6 c7 c8 c9 : Value) (A1 A2 : Option Addr) (n1 k1 n2 k2 : Nat) (z : Int) (w : World) (h0 : 0 ≤ z) (hz : z ≤ 1048576) (hm1 : n1 ≤ maxLen) (hm2 : n2 ≤ maxLen) :
    Calls Tryd.prog 4 #[.agg #[c0, c1, c2, c3, c4, c5, c6, c7, c8, c9, .slice A1 n1 k1, .slice A2 n2 k2], .int .i64 z] w fun e w' => e = .returned (.int .i64 (szTV z n1 n2)) ∧ Below w.heap.size w w' := by
  have hs := fun w => szTask_any c5 c6 c7 c8 c9 A1 A2 n1 k1 n2 k2 z w h0 hz hm1 hm2
  generalize hy : szTV z n1 n2 = y at hs
  have HY := Lib.hid (szTV_ok hy)
  have HS := Lib.hid hs
  clear hs hy hm1 hm2
  go_enter Tryd.func4, Tryd.ntmps4
  go_wp2_with fail
  refine (HS.out _).mono ?_
  rintro e w1 ⟨rfl, hb1⟩
  have hz1 := hb1.size
  simp at hz1
  rcases HY.out with rfl | hy
  · go_wp2_with fail
    go_ret
    exact ⟨rfl, (by repeat' (first | exact Below.refl _ _ | refine Below.alloc ?_ ?_ _ | refine Below.setCell ?_ ?_ _ | refine Below.drew ?_ | (apply below_step; assumption) | (simp; done) | (simp; omega) | omega))⟩
  · obtain ⟨a1, -, -, -⟩ := hy h0
    have a1' : decide (y < 0) = false := by simp; omega
    go_wp2_with fail
    go_ret
    exact ⟨rfl, (by repeat' (first | exact Below.refl _ _ | refine Below.alloc ?_ ?_ _ | refine Below.setCell ?_ ?_ _ | refine Below.drew ?_ | (apply below_step; assumption) | (simp; done) | (simp; omega) | omega))⟩
/-- The ending 'an event that reads as e'. -/
def RetEv (w : World) (e : EV) (r : Ending) (w' : World) : Prop := ∃ v1 v2, r = .returned (.agg #[.int .i64 e.kind, .int .i64 e.who, .int .i64 e.n, .bool e.works, .bool e.keep, .int .i64 e.task.id, .int .i64 e.task.prio, .int .i64 e.task.need.c, .int .i64 e.task.need.m, .int .i64 e.task.need.p, v1, v2]) ∧ LabSl w' v1 e.task.want ∧ IntSl w' v2 e.task.tols ∧ Below w.heap.size w w'
set_option maxHeartbeats 3200000 in
theorem toEvent_any (e : EV) (v1 v2 : Value) (w : World) (h1 : LabSl w v1 e.task.want) (h2 : IntSl w v2 e.task.tols) (l1 : e.task.want.length ≤ 1048576) (l2 : e.task.tols.length ≤ 1048576) :
    Calls Tryd.prog 6 #[.agg #[.int .i64 e.kind, .int .i64 e.who, .int .i64 e.n, .bool e.works, .bool e.keep, .int .i64 e.task.id, .int .i64 e.task.prio, .int .i64 e.task.need.c, .int .i64 e.task.need.m, .int .i64 e.task.need.p, v1, v2]] w (RetEv w e) := by
  have H1 := Lib.hid h1
  have H2 := Lib.hid h2
  have L := Lib.hid (And.intro l1 l2)
  clear h1 h2 l1 l2
  go_enter Tryd.func6, Tryd.ntmps6
  go_wp2_with fail
  have hX : Below w.heap.size w (((w.alloc (.cells #[.int .i64 e.kind, .int .i64 e.who, .int .i64 e.n, .bool e.works, .bool e.keep, .int .i64 e.task.id, .int .i64 e.task.prio, .int .i64 e.task.need.c, .int .i64 e.task.need.m, .int .i64 e.task.need.p, v1, v2] 29)).alloc (.cells #[.int .i64 0, .int .i64 0, .int .i64 0, .bool false, .bool false, .int .i64 0, .int .i64 0, .int .i64 0, .int .i64 0, .int .i64 0, .slice none 0 0, .slice none 0 0] 37)).alloc (.cells #[.int .i64 e.kind, .int .i64 e.who, .int .i64 e.n, .bool e.works, .bool e.keep, .int .i64 0, .int .i64 0, .int .i64 0, .int .i64 0, .int .i64 0, .slice none 0 0, .slice none 0 0] 37)) := (by repeat' (first | exact Below.refl _ _ | refine Below.alloc ?_ ?_ _ | refine Below.setCell ?_ ?_ _ | refine Below.drew ?_ | (apply below_step; assumption) | (simp; done) | (simp; omega) | omega))
  refine (toTask_any e.task v1 v2 _ (H1.out.below hX) (H2.out.below hX) L.out.1 L.out.2).mono ?_
  rintro r w1 ⟨g1, g2, rfl, k1, k2, k3, bl, it, hb1⟩
  have B1 : BlockIs w1 (w.heap.size + 1) 37 #[.int .i64 0, .int .i64 0, .int .i64 0, .bool false, .bool false, .int .i64 0, .int .i64 0, .int .i64 0, .int .i64 0, .int .i64 0, .slice none 0 0, .slice none 0 0] := (BlockIs.alloc (BlockIs.new' (by simp)) _).below hb1 (by simp)
  have B2 : BlockIs w1 (w.heap.size + 1 + 1) 37 #[.int .i64 e.kind, .int .i64 e.who, .int .i64 e.n, .bool e.works, .bool e.keep, .int .i64 0, .int .i64 0, .int .i64 0, .int .i64 0, .int .i64 0, .slice none 0 0, .slice none 0 0] := (BlockIs.new' (by simp)).below hb1 (by simp)
  have hC1 := below_of hX hb1
  have hz1 := hb1.size
  simp at hz1 k1 k2
  have d5 := B2.cell 5
  have d6 := B2.cell 6
  have d7 := B2.cell 7
  have d8 := B2.cell 8
  have d9 := B2.cell 9
  have d10 := B2.cell 10
  have d11 := B2.cell 11
  have ff := B2.frozen
  have hl2 := B2.lt
  simp at d5 d6 d7 d8 d9 d10 d11
  have HB1 := Lib.hid B1
  have HB2 := Lib.hid B2
  have BL := Lib.hid bl
  have IT := Lib.hid it
  clear B1 B2 hX hb1 bl it
  go_upto_region 8 with fail
  have hT : TurnB [w.heap.size + 1 + 1] w1 (((((((w1.setCell ⟨w.heap.size + 1 + 1, 5, none⟩ (.int .i64 e.task.id)).setCell ⟨w.heap.size + 1 + 1, 5 + 1, none⟩ (.int .i64 e.task.prio)).setCell ⟨w.heap.size + 1 + 1, 5 + 2, none⟩ (.int .i64 e.task.need.c)).setCell ⟨w.heap.size + 1 + 1, 5 + 3, none⟩ (.int .i64 e.task.need.m)).setCell ⟨w.heap.size + 1 + 1, 5 + 4, none⟩ (.int .i64 e.task.need.p)).setCell ⟨w.heap.size + 1 + 1, 5 + 5, none⟩ (.slice (some ⟨g1, 0, none⟩) e.task.want.length e.task.want.length)).setCell ⟨w.heap.size + 1 + 1, 5 + 6, none⟩ (.slice (some ⟨g2, 0, none⟩) e.task.tols.length e.task.tols.length)) :=
    TurnB.put (TurnB.put (TurnB.put (TurnB.put (TurnB.put (TurnB.put (TurnB.put (TurnB.refl _ _) (by simp) _ _) (by simp) _ _) (by simp) _ _) (by simp) _ _) (by simp) _ _) (by simp) _ _) (by simp) _ _
  have hO : BlockIs (((((((w1.setCell ⟨w.heap.size + 1 + 1, 5, none⟩ (.int .i64 e.task.id)).setCell ⟨w.heap.size + 1 + 1, 5 + 1, none⟩ (.int .i64 e.task.prio)).setCell ⟨w.heap.size + 1 + 1, 5 + 2, none⟩ (.int .i64 e.task.need.c)).setCell ⟨w.heap.size + 1 + 1, 5 + 3, none⟩ (.int .i64 e.task.need.m)).setCell ⟨w.heap.size + 1 + 1, 5 + 4, none⟩ (.int .i64 e.task.need.p)).setCell ⟨w.heap.size + 1 + 1, 5 + 5, none⟩ (.slice (some ⟨g1, 0, none⟩) e.task.want.length e.task.want.length)).setCell ⟨w.heap.size + 1 + 1, 5 + 6, none⟩ (.slice (some ⟨g2, 0, none⟩) e.task.tols.length e.task.tols.length)) (w.heap.size + 1 + 1) 37 #[.int .i64 e.kind, .int .i64 e.who, .int .i64 e.n, .bool e.works, .bool e.keep, .int .i64 e.task.id, .int .i64 e.task.prio, .int .i64 e.task.need.c, .int .i64 e.task.need.m, .int .i64 e.task.need.p, .slice (some ⟨g1, 0, none⟩) e.task.want.length e.task.want.length, .slice (some ⟨g2, 0, none⟩) e.task.tols.length e.task.tols.length] := by
    simpa using (((((((HB2.out.put 5 (.int .i64 e.task.id)).put 6 (.int .i64 e.task.prio)).put 7 (.int .i64 e.task.need.c)).put 8 (.int .i64 e.task.need.m)).put 9 (.int .i64 e.task.need.p)).put 10 (.slice (some ⟨g1, 0, none⟩) e.task.want.length e.task.want.length)).put 11 (.slice (some ⟨g2, 0, none⟩) e.task.tols.length e.task.tols.length))
  have hR : BlockIs (((((((w1.setCell ⟨w.heap.size + 1 + 1, 5, none⟩ (.int .i64 e.task.id)).setCell ⟨w.heap.size + 1 + 1, 5 + 1, none⟩ (.int .i64 e.task.prio)).setCell ⟨w.heap.size + 1 + 1, 5 + 2, none⟩ (.int .i64 e.task.need.c)).setCell ⟨w.heap.size + 1 + 1, 5 + 3, none⟩ (.int .i64 e.task.need.m)).setCell ⟨w.heap.size + 1 + 1, 5 + 4, none⟩ (.int .i64 e.task.need.p)).setCell ⟨w.heap.size + 1 + 1, 5 + 5, none⟩ (.slice (some ⟨g1, 0, none⟩) e.task.want.length e.task.want.length)).setCell ⟨w.heap.size + 1 + 1, 5 + 6, none⟩ (.slice (some ⟨g2, 0, none⟩) e.task.tols.length e.task.tols.length)) (w.heap.size + 1) 37 #[.int .i64 0, .int .i64 0, .int .i64 0, .bool false, .bool false, .int .i64 0, .int .i64 0, .int .i64 0, .int .i64 0, .int .i64 0, .slice none 0 0, .slice none 0 0] := HB1.out.turn hT (by simp)
  clear d5 d6 d7 d8 d9 d10 d11 ff
  generalize (((((((w1.setCell ⟨w.heap.size + 1 + 1, 5, none⟩ (.int .i64 e.task.id)).setCell ⟨w.heap.size + 1 + 1, 5 + 1, none⟩ (.int .i64 e.task.prio)).setCell ⟨w.heap.size + 1 + 1, 5 + 2, none⟩ (.int .i64 e.task.need.c)).setCell ⟨w.heap.size + 1 + 1, 5 + 3, none⟩ (.int .i64 e.task.need.m)).setCell ⟨w.heap.size + 1 + 1, 5 + 4, none⟩ (.int .i64 e.task.need.p)).setCell ⟨w.heap.size + 1 + 1, 5 + 5, none⟩ (.slice (some ⟨g1, 0, none⟩) e.task.want.length e.task.want.length)).setCell ⟨w.heap.size + 1 + 1, 5 + 6, none⟩ (.slice (some ⟨g2, 0, none⟩) e.task.tols.length e.task.tols.length)) = Y at hT hO hR ⊢
  have HO := Lib.hid hO
  have HR := Lib.hid hR
  have HT := Lib.hid hT
  clear hO hR hT
  go_wp2_with (first
    | (refine wpList_store_row rfl 37 _ _ rfl _ _ rfl rfl 37 _ HR.out (by kernel_rfl) rfl (by simp [Value.oneCell']) ?_)
    | (refine wpList_load_row rfl 37 _ rfl _ rfl 37 _ (0, 0) _ HO.out Tryd.underlying37 rfl (by kernel_rfl) ?_))
  have hF := HR.out.row (cs := #[.int .i64 e.kind, .int .i64 e.who, .int .i64 e.n, .bool e.works, .bool e.keep, .int .i64 e.task.id, .int .i64 e.task.prio, .int .i64 e.task.need.c, .int .i64 e.task.need.m, .int .i64 e.task.need.p, .slice (some ⟨g1, 0, none⟩) e.task.want.length e.task.want.length, .slice (some ⟨g2, 0, none⟩) e.task.tols.length e.task.tols.length])
  have hT := (HT.out.mono (cs := [w.heap.size + 1, w.heap.size + 1 + 1]) (by simp)).setRow (g := w.heap.size + 1) (by simp) #[.int .i64 e.kind, .int .i64 e.who, .int .i64 e.n, .bool e.works, .bool e.keep, .int .i64 e.task.id, .int .i64 e.task.prio, .int .i64 e.task.need.c, .int .i64 e.task.need.m, .int .i64 e.task.need.p, .slice (some ⟨g1, 0, none⟩) e.task.want.length e.task.want.length, .slice (some ⟨g2, 0, none⟩) e.task.tols.length e.task.tols.length]
  refine bodyPost_ret (v := .agg #[.int .i64 e.kind, .int .i64 e.who, .int .i64 e.n, .bool e.works, .bool e.keep, .int .i64 e.task.id, .int .i64 e.task.prio, .int .i64 e.task.need.c, .int .i64 e.task.need.m, .int .i64 e.task.need.p, .slice (some ⟨g1, 0, none⟩) e.task.want.length e.task.want.length, .slice (some ⟨g2, 0, none⟩) e.task.tols.length e.task.tols.length]) (results_cell_row Tryd.results6 _ _ (w.heap.size + 1) 37 _ (0, 0) _ rfl hF Tryd.underlying37 rfl (by kernel_rfl)) rfl ?_
  refine ⟨_, _, rfl, ?_, ?_, hC1.trans (hT.below (by omega) (by simp; omega))⟩
  · exact .inr ⟨g1, 0, _, rfl, by have := hT.size; have := BL.out.lt; omega, LabAt.of_cells (BL.out.turn hT (by simp; omega))⟩
  · exact .inr ⟨g2, 0, _, rfl, by have := hT.size; omega, IT.out.turn hT k3 (by simp; omega)⟩
set_option maxHeartbeats 1600000 in
theorem eqEvent_same (e : EV) (v1 v2 u1 u2 : Value) (w : World) (h1 : LabSl w v1 e.task.want) (h2 : IntSl w v2 e.task.tols) (k1 : LabSl w u1 e.task.want) (k2 : IntSl w u2 e.task.tols) (l1 : e.task.want.length ≤ 1048576) (l2 : e.task.tols.length ≤ 1048576) :
    Calls Tryd.prog 8 #[.agg #[.int .i64 e.kind, .int .i64 e.who, .int .i64 e.n, .bool e.works, .bool e.keep, .int .i64 e.task.id, .int .i64 e.task.prio, .int .i64 e.task.need.c, .int .i64 e.task.need.m, .int .i64 e.task.need.p, v1, v2], .agg #[.int .i64 e.kind, .int .i64 e.who, .int .i64 e.n, .bool e.works, .bool e.keep, .int .i64 e.task.id, .int .i64 e.task.prio, .int .i64 e.task.need.c, .int .i64 e.task.need.m, .int .i64 e.task.need.p, u1, u2]] w fun r w' => r = .returned (.bool true) ∧ Below w.heap.size w w' := by
  have HE := Lib.hid (fun w a b c d => eqTask_same e.task v1 v2 u1 u2 w a b c d l1 l2)
  have H1 := Lib.hid h1
  have H2 := Lib.hid h2
  have K1 := Lib.hid k1
  have K2 := Lib.hid k2
  have n1 : (e.kind != e.kind) = false := by simp
  have n2 : (e.who != e.who) = false := by simp
  have n3 : (e.n != e.n) = false := by simp
  have n4 : (e.works != e.works) = false := by simp
  have n5 : (e.keep != e.keep) = false := by simp
  clear h1 h2 k1 k2 l1 l2
  go_enter Tryd.func8, Tryd.ntmps8
  go_wp2_with fail
  have hX : Below w.heap.size w ((w.alloc (.cells #[.int .i64 e.kind, .int .i64 e.who, .int .i64 e.n, .bool e.works, .bool e.keep, .int .i64 e.task.id, .int .i64 e.task.prio, .int .i64 e.task.need.c, .int .i64 e.task.need.m, .int .i64 e.task.need.p, v1, v2] 37)).alloc (.cells #[.int .i64 e.kind, .int .i64 e.who, .int .i64 e.n, .bool e.works, .bool e.keep, .int .i64 e.task.id, .int .i64 e.task.prio, .int .i64 e.task.need.c, .int .i64 e.task.need.m, .int .i64 e.task.need.p, u1, u2] 37)) := (by repeat' (first | exact Below.refl _ _ | refine Below.alloc ?_ ?_ _ | refine Below.setCell ?_ ?_ _ | refine Below.drew ?_ | (apply below_step; assumption) | (simp; done) | (simp; omega) | omega))
  refine (HE.out _ (H1.out.below hX) (H2.out.below hX) (K1.out.below hX) (K2.out.below hX)).mono ?_
  rintro r w1 ⟨rfl, hb1⟩
  have hC1 := below_of hX hb1
  go_wp2_with fail
  go_ret
  exact ⟨rfl, hC1⟩
end Go.Proofs.YtcegofdmdemcbaaDoor
namespace Go.Proofs.YtcegofdmdemcbaaDoor
open Go.ChangeShapes Go.WideShapes Go.ChangeAt Go.RowKit Go.Joins
section
variable {H : Type} {enc : TypeId × Value → H} {W : World}
theorem list12e {α : Type} {l : List α} (h : l.length = 12) : ∃ a b c d e f g i j k m n, l = [a, b, c, d, e, f, g, i, j, k, m, n] := by
  match l, h with
  | [a, b, c, d, e, f, g, i, j, k, m, n], _ => exact ⟨a, b, c, d, e, f, g, i, j, k, m, n, rfl⟩
theorem Tryd.c_event : Tryd.prog.cellsOf 29 = 12 := by kernel_rfl
set_option maxRecDepth 100000 in
/-- The cells of an event. -/
theorem open_eventC {fuel : Nat} {cs : List Value} {x : DataW H × List MemPlace} (h : DataW.trod enc Tryd.prog W 0 (fun _ => true) true fuel 29 cs = some x) :
    ∃ (t : EV) (v1 v2 : Value), cs = [.int .i64 t.kind, .int .i64 t.who, .int .i64 t.n, .bool t.works, .bool t.keep, .int .i64 t.task.id, .int .i64 t.task.prio, .int .i64 t.task.need.c, .int .i64 t.task.need.m, .int .i64 t.task.need.p, v1, v2] ∧ LabSl W v1 t.task.want ∧ IntSl W v2 t.task.tols ∧ t.task.want.length ≤ maxLen ∧ t.task.tols.length ≤ maxLen := by
  obtain ⟨y0, y1, y2, y3, y4, y5, n, hl, h0, h1, h2, h3, h4, h5⟩ := trod_struct6 Tryd.underlying29 h
  rw [Tryd.c_event] at hl
  obtain ⟨a, b, c, d, e, f, g, i, j, k, m, o, rfl⟩ := list12e hl
  simp only [Tryd.c_int, Tryd.c_task, Tryd.c_bool] at h0 h1 h2 h3 h4 h5
  simp at h0 h1 h2 h3 h4 h5
  obtain ⟨z0, e0, _, _⟩ := DataW.trod_int Tryd.underlying3 h0
  obtain ⟨z1, e1, _, _⟩ := DataW.trod_int Tryd.underlying3 h1
  obtain ⟨z2, e2, _, _⟩ := DataW.trod_int Tryd.underlying3 h2
  obtain ⟨z3, e3, _⟩ := DataW.trod_bool Tryd.underlying4 h3
  obtain ⟨z4, e4, _⟩ := DataW.trod_bool Tryd.underlying4 h4
  obtain ⟨t, v1, v2, e5, s1, s2, s3, s4⟩ := open_taskC h5
  simp at e0 e1 e2 e3 e4 e5
  obtain ⟨rfl, rfl, rfl, rfl, rfl, rfl, rfl⟩ := e5
  subst e0 e1 e2 e3 e4
  exact ⟨⟨z0, z1, z2, z3, z4, t⟩, _, _, rfl, s1, s2, s3, s4⟩
set_option maxRecDepth 100000 in
/-- An event by value, opened. -/
theorem open_event {base : Nat} {v : Value} {d : DataW H} {p : List MemPlace} (hv : Value.okWide Tryd.prog W .any base 29 v) (h : DataW.Trod enc Tryd.prog W 0 (fun _ => true) true 29 v d p) :
    ∃ (t : EV) (v1 v2 : Value), v = .agg #[.int .i64 t.kind, .int .i64 t.who, .int .i64 t.n, .bool t.works, .bool t.keep, .int .i64 t.task.id, .int .i64 t.task.prio, .int .i64 t.task.need.c, .int .i64 t.task.need.m, .int .i64 t.task.need.p, v1, v2] ∧ LabSl W v1 t.task.want ∧ IntSl W v2 t.task.tols ∧ t.task.want.length ≤ maxLen ∧ t.task.tols.length ≤ maxLen := by
  obtain ⟨cs, rfl, _⟩ := okWide_struct Tryd.underlying29 hv
  obtain ⟨fuel, hf⟩ := h
  obtain ⟨t, v1, v2, e, h1, h2, h3, h4⟩ := open_eventC hf
  refine ⟨t, v1, v2, ?_, h1, h2, h3, h4⟩
  rw [agg_of_cells e]
end
end Go.Proofs.YtcegofdmdemcbaaDoor
