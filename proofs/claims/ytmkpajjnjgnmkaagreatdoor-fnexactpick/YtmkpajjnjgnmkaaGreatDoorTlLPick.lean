/- The nodes that take a task, one after another (nodesFor), and the best one so far (keepBest). The contract of pickFor. The contracts of findUnbound and Pick. What FnRes says, in plain terms. What FnShare says, in plain terms. The contracts of the model's l04Pick and Pick. -/
import Derived.Test.YtmkpajjnjgnmkaaGreatDoorFrame
import Derived.Test.YtmkpajjnjgnmkaaGreatDoorRowBase
import Derived.Test.YtmkpajjnjgnmkaaGreatDoorMg02
import Derived.Test.YtmkpajjnjgnmkaaGreatDoorMg03
import Derived.Test.YtmkpajjnjgnmkaaGreatDoorCluS
import Derived.Test.YtmkpajjnjgnmkaaGreatDoorCluSOk
import Derived.Test.YtmkpajjnjgnmkaaGreatDoorMg06
import Derived.Test.YtmkpajjnjgnmkaaGreatDoorMg07
import Derived.Laws.EntriesVeiled
namespace Go.Proofs.YtmkpajjnjgnmkaaGreatDoor
open Go.RowKit Go.Shelf
attribute [local go_sem] Oper.semAt_some

abbrev OnN (w0 : World) : Type := { p : NV × List Value // NodeR w0 p.1 p.2 }
def OnN.n {w0 : World} (x : OnN w0) : NV := x.1.1
def encN {w0 : World} (x : OnN w0) : Array Value := #[.agg x.1.2.toArray]
theorem takes_yes {n : NV} {t : TV} {l : List NV} {k : Nat} (h : l[k]? = some n) (e : takesV n t = true) : (l.take (k + 1)).filter (fun n => takesV n t) = (l.take k).filter (fun n => takesV n t) ++ [n] := by
  rw [take_at h, List.filter_append]; simp [e]
theorem takes_no {n : NV} {t : TV} {l : List NV} {k : Nat} (h : l[k]? = some n) (e : takesV n t = false) : (l.take (k + 1)).filter (fun n => takesV n t) = (l.take k).filter (fun n => takesV n t) := by
  rw [take_at h, List.filter_append]; simp [e]
set_option maxHeartbeats 1600000 in
theorem nodesFor_any (D0 D1 D2 : Option Addr) (n0 n1 n2 e0 e1 e2 : Nat) (t : TV) (B1 B2 : Option Addr) (d1 d2 : Nat) (w : World) :
    Calls Tryz.prog 155 #[.agg #[.slice D0 n0 e0, .slice D1 n1 e1, .slice D2 n2 e2], .agg #[.int .i64 t.id, .int .i64 t.prio, .int .i64 t.need.c, .int .i64 t.need.m, .int .i64 t.need.p, .slice B1 t.want.length d1, .slice B2 t.tols.length d2]] w fun e w' => e = .returned (.func (.func 208) #[] #[.pointer (some ⟨w.heap.size, 0, none⟩), .pointer (some ⟨w.heap.size + 1, 0, none⟩)]) ∧
      w' = (w.alloc (.cells #[.slice D0 n0 e0, .slice D1 n1 e1, .slice D2 n2 e2] 35)).alloc (.cells #[.int .i64 t.id, .int .i64 t.prio, .int .i64 t.need.c, .int .i64 t.need.m, .int .i64 t.need.p, .slice B1 t.want.length d1, .slice B2 t.tols.length d2] 88) := by
  have hmf : ∀ (fn : Fn) (first cap : Array Value) (w : World), (Instr.makeFunc fn first cap).run Tryz.prog w = .ok (.func fn first cap) w := fun _ _ _ _ => rfl
  go_enter Tryz.func155, Tryz.ntmps155
  go_wp2_with fail
  go_ret
  exact ⟨rfl, rfl⟩
set_option maxRecDepth 100000 in
set_option maxHeartbeats 4000000 in
theorem nodesFor_stops (c : CV) (D0 D1 D2 : Option Addr) (e0 e1 e2 : Nat) (t : TV) (B1 B2 : Option Addr) (d1 d2 : Nat) (w0 w : World) (hw : Below w0.heap.size w0 w) (hc : CluR w0 c (.slice D0 c.tasks.length e0) (.slice D1 c.nodes.length e1) (.slice D2 c.binds.length e2))
    (ht : TaskR w0 t [.int .i64 t.id, .int .i64 t.prio, .int .i64 t.need.c, .int .i64 t.need.m, .int .i64 t.need.p, .slice B1 t.want.length d1, .slice B2 t.tols.length d2]) (Bc Bn n₀ n : Nat) (hn₀ : w0.heap.size ≤ n₀) (h1 : 1 ≤ n)
    (hBc : BlockIs w Bc 35 #[.slice D0 c.tasks.length e0, .slice D1 c.nodes.length e1, .slice D2 c.binds.length e2]) (hBn : BlockIs w Bn 88 #[.int .i64 t.id, .int .i64 t.prio, .int .i64 t.need.c, .int .i64 t.need.m, .int .i64 t.need.p, .slice B1 t.want.length d1, .slice B2 t.tols.length d2]) :
    SeqStopsK Fence.wide n Tryz.prog 208 #[.pointer (some ⟨Bc, 0, none⟩), .pointer (some ⟨Bn, 0, none⟩)] (encN (w0 := w0)) (KpOn n₀ Bc Bn) (fun ys => ys.map OnN.n = c.nodes.filter (fun n => takesV n t)) (fun _ => True) c.nodes.length w := fun l J Jx W hW hJ hJx hY h0 => by
  have HC := Lib.hid hc
  have HT := Lib.hid ht
  obtain ⟨t0, t1, t2, l0, l1, l2⟩ := hc
  obtain ⟨X2, y2, ee, hA⟩ := t1.form
  simp only [Value.slice.injEq] at ee
  obtain ⟨rfl, -, rfl⟩ := ee
  have HA := Lib.hid hA
  have HW := Lib.hid (below_of hw hW)
  have BC := hBc.below hW hBc.lt
  have BN := hBn.below hW hBn.lt
  have HBC := Lib.hid BC
  have HBN := Lib.hid BN
  have g0 := BC.cell 0
  have g1 := BC.cell 1
  have g2 := BC.cell 2
  simp at g0 g1 g2
  have HJ := Lib.hid hJ
  have HY := Lib.hid hY
  have H0 := Lib.hid h0
  clear hA t0 t1 t2 hw hW BC BN hBc hBn hJ hJx hY h0 l0 l2 ht
  refine callsIn_of_wp Tryz.func208 rfl trivial ?_ rfl
  simp only [Tryz.ntmps208, List.size_toArray, List.length_cons, List.length_nil, Nat.reduceAdd, Nat.reduceSub, Array.replicate_succ, Array.replicate_zero, List.push_toArray, List.append_toArray, List.nil_append, List.cons_append]
  gi_wp2
  gi_loopw [9] (fun s9 wr => ∃ (k : Nat) (pre : List (OnN w0)), k ≤ c.nodes.length ∧ s9 = .int .i64 k ∧ pre.map OnN.n = (c.nodes.take k).filter (fun n => takesV n t) ∧ J pre wr ∧ BlockIs wr Bc 35 #[.slice D0 c.tasks.length e0, .slice D1 c.nodes.length e1, .slice D2 c.binds.length e2] ∧ BlockIs wr Bn 88 #[.int .i64 t.id, .int .i64 t.prio, .int .i64 t.need.c, .int .i64 t.need.m, .int .i64 t.need.p, .slice B1 t.want.length d1, .slice B2 t.tols.length d2] ∧ Below w0.heap.size w0 wr) (fun s9 _ => (c.nodes.length - intOf s9).toNat)
  case atStart => exact ⟨0, [], by omega, rfl, rfl, H0.out, HBC.out, HBN.out, HW.out⟩
  case round =>
    obtain ⟨k, pre, hk, rfl, hpre, hJp, bc, bn, hB⟩ := hrel
    have HP := Lib.hid hpre
    have HJP := Lib.hid hJp
    have HBc := Lib.hid bc
    have HBn := Lib.hid bn
    have q0 := bc.cell 0
    have q1 := bc.cell 1
    have q2 := bc.cell 2
    have m0 := bn.cell 0; have m1 := bn.cell 1; have m2 := bn.cell 2; have m3 := bn.cell 3; have m4 := bn.cell 4; have m5 := bn.cell 5; have m6 := bn.cell 6
    have lc := bc.lt
    have ln := bn.lt
    simp at q0 q1 q2 m0 m1 m2 m3 m4 m5 m6
    clear hpre hJp bc bn g0 g1 g2
    by_cases hlt : k < c.nodes.length
    · obtain ⟨b, off, rfl, hbw, hat⟩ := HA.out (by omega)
      obtain ⟨x, hx⟩ : ∃ x, c.nodes[k]? = some x := ⟨_, List.getElem?_eq_getElem hlt⟩
      obtain ⟨cs, hR0, hC⟩ := hat k x hx
      have hC := hC.below hB hbw
      have HNT := Lib.hid hx
      have HR := Lib.hid hR0
      obtain ⟨u1, u2, rfl, k1, k2, -, -⟩ := hR0
      obtain ⟨A1, c1, rfl, _⟩ := k1.form
      obtain ⟨A2, c2, rfl, _⟩ := k2.form
      obtain ⟨c0, c1', c2', c3, c4, c5, c6, c7⟩ := node_cells hC
      have hbr : b < wr.heap.size := Nat.lt_of_lt_of_le hbw hB.size
      have hlti : (k : Int) < (c.nodes.length : Int) := by omega
      clear hat hC hx k1 k2
      have htk := fun w1 hw1 => takes_any x t _ _ w0 w1 hw1 HR.out HT.out
      generalize hq : takesV x t = q at htk
      have HTK := Lib.hid htk
      have HQ := Lib.hid hq
      clear htk hq
      have hX1 : Below wr.heap.size wr (wr.alloc (.cells #[.int .i64 x.id, .int .i64 x.pool, .int .i64 x.cap.c, .int .i64 x.cap.m, .int .i64 x.cap.p, .slice A1 x.labs.length c1, .slice A2 x.taints.length c2, .bool x.cordon] 83)) := (by repeat' (first | exact Below.refl _ _ | refine Below.alloc ?_ ?_ _ | refine Below.setCell ?_ ?_ _ | refine Below.drew ?_ | (apply below_step; assumption) | (simp; done) | (simp; omega) | omega))
      gi_wp2
      refine ⟨trivial, (callsIn_wide.2 (HTK.out _ (below_of hB hX1))).mono ?_⟩
      rintro e w2 ⟨rfl, hb2⟩
      have hD2 := below_of hX1 hb2
      have HJ2 := Lib.hid (abide HJ.out HJP.out hD2)
      have HBc2 := Lib.hid (HBc.out.below hD2 HBc.out.lt)
      have HBn2 := Lib.hid (HBn.out.below hD2 HBn.out.lt)
      have hz2 := hD2.size
      have hCB2 := below_of hB hD2
      have BX := (BlockIs.new wr 83 #[.int .i64 x.id, .int .i64 x.pool, .int .i64 x.cap.c, .int .i64 x.cap.m, .int .i64 x.cap.p, .slice A1 x.labs.length c1, .slice A2 x.taints.length c2, .bool x.cordon]).below hb2 (by simp)
      have z0 := BX.cell 0; have z1 := BX.cell 1; have z2 := BX.cell 2; have z3 := BX.cell 3; have z4 := BX.cell 4; have z5 := BX.cell 5; have z6 := BX.cell 6; have z7 := BX.cell 7
      have zl := BX.lt
      simp at z0 z1 z2 z3 z4 z5 z6 z7
      clear hb2 hX1 hD2 c0 c1' c2' c3 c4 c5 c6 c7 q0 q1 q2 m0 m1 m2 m3 m4 m5 m6 BX
      cases q
      · gi_wp2
        refine ⟨fun _ h => (by cases h), ?_⟩
        gi_wp2
        go_roundw
        case rel =>
          exact ⟨k + 1, pre, by omega, by go_num, by rw [takes_no HNT.out HQ.out]; exact HP.out, HJ2.out, HBc2.out, HBn2.out, hCB2⟩
        case measure => simp [intOf]; omega
      · have HL := Lib.hid (show pre.length < c.nodes.length by
          have e1 := congrArg List.length HP.out
          have e2 := List.length_filter_le (fun n => takesV n t) (c.nodes.take k)
          rw [List.length_map] at e1
          rw [List.length_take] at e2
          omega)
        obtain ⟨fn, tmps, assign, body, hy, hRo⟩ := HY.out pre ⟨(x, _), HR.out⟩ _ HJ2.out HL.out
        dsimp only [encN] at hy
        have HRO := Lib.hid hRo
        clear hRo
        gi_wp2
        refine HRO.out.mono ?_
        rintro e W3 (⟨rfl, hJ3, hk3⟩ | ⟨rfl, hJx3⟩)
        · have HJ3 := Lib.hid hJ3
          have HK3 := Lib.hid hk3
          clear hJ3 hk3
          gi_wp2
          go_roundw
          case rel =>
            obtain ⟨hk, kc, kn⟩ := HK3.out
            refine ⟨k + 1, pre ++ [⟨(x, _), HR.out⟩], by omega, by go_num, ?_, HJ3.out, kc.trans HBc2.out, kn.trans HBn2.out, hCB2.trans (hk.mono hn₀)⟩
            rw [takes_yes HNT.out HQ.out, List.map_append, HP.out]; rfl
          case measure => simp [intOf]; omega
        · gi_wp2
          refine bodyPost_ret (results_none rfl _ _ _) rfl ?_
          exact ⟨⟨_, rfl⟩, .inr ⟨_, trivial, hJx3⟩⟩
    · have hkl : k = c.nodes.length := by omega
      have HF := Lib.hid (show pre.map OnN.n = c.nodes.filter (fun n => takesV n t) by rw [HP.out, hkl, List.take_length])
      clear hkl
      gi_wp2
      go_end0
      exact ⟨⟨_, rfl⟩, .inl ⟨pre, HF.out, HJP.out⟩⟩

def Best (W : World) (b2 b3 b4 : Nat) (cs : Array Value) (gr : Int) (sm : Bool) : Prop := BlockIs W b2 83 cs ∧ BlockIs W b3 3 #[.int .i64 gr] ∧ BlockIs W b4 4 #[.bool sm]
theorem Best.below {W W' : World} {b2 b3 b4 : Nat} {cs : Array Value} {gr : Int} {sm : Bool} (h : Best W b2 b3 b4 cs gr sm) (hb : Below W.heap.size W W') : Best W' b2 b3 b4 cs gr sm := ⟨h.1.below hb h.1.lt, h.2.1.below hb h.2.1.lt, h.2.2.below hb h.2.2.lt⟩
set_option maxHeartbeats 1600000 in
theorem keepBest_any (w : World) :
    Calls Tryz.prog 154 #[] w fun e w' => ∃ b2 b3 b4, e = .returned (.tuple #[.func (.func 206) #[] #[.pointer (some ⟨b4, 0, none⟩), .pointer (some ⟨b3, 0, none⟩), .pointer (some ⟨b2, 0, none⟩)], .func (.func 207) #[] #[.pointer (some ⟨b2, 0, none⟩), .pointer (some ⟨b4, 0, none⟩)]]) ∧
      Best w' b2 b3 b4 #[.int .i64 0, .int .i64 0, .int .i64 0, .int .i64 0, .int .i64 0, .slice none 0 0, .slice none 0 0, .bool false] 0 false ∧ w.heap.size ≤ b2 ∧ b2 < b3 ∧ b3 < b4 ∧ Below w.heap.size w w' := by
  have hmf : ∀ (fn : Fn) (first cap : Array Value) (w : World), (Instr.makeFunc fn first cap).run Tryz.prog w = .ok (.func fn first cap) w := fun _ _ _ _ => rfl
  go_enter Tryz.func154, Tryz.ntmps154
  go_wp2_with fail
  refine bodyPost_ret (v := .tuple #[.func (.func 206) #[] #[.pointer (some ⟨w.heap.size + 1 + 1, 0, none⟩), .pointer (some ⟨w.heap.size + 1, 0, none⟩), .pointer (some ⟨w.heap.size, 0, none⟩)], .func (.func 207) #[] #[.pointer (some ⟨w.heap.size, 0, none⟩), .pointer (some ⟨w.heap.size + 1 + 1, 0, none⟩)]]) (by simp [results, Tryz.results154, go_sem]) rfl ?_
  refine ⟨w.heap.size, w.heap.size + 1, w.heap.size + 1 + 1, rfl, ⟨?_, ?_, ?_⟩, by omega, by omega, by omega, (by repeat' (first | exact Below.refl _ _ | refine Below.alloc ?_ ?_ _ | refine Below.setCell ?_ ?_ _ | refine Below.drew ?_ | (apply below_step; assumption) | (simp; done) | (simp; omega) | omega))⟩
  · exact ((BlockIs.new w _ _).alloc _).alloc _
  · exact (BlockIs.new' (by simp)).alloc _
  · exact BlockIs.new' (by simp)
set_option maxHeartbeats 3200000 in
theorem offer_any (n : NV) (A1 A2 : Option Addr) (c1 c2 : Nat) (v : Int) (b2 b3 b4 : Nat) (cs : Array Value) (hcs : cs.size = 8) (gr : Int) (sm : Bool) (w : World) (hB : Best w b2 b3 b4 cs gr sm) (h23 : b2 < b3) (h34 : b3 < b4) :
    Calls Tryz.prog 206 #[.agg #[.int .i64 n.id, .int .i64 n.pool, .int .i64 n.cap.c, .int .i64 n.cap.m, .int .i64 n.cap.p, .slice A1 n.labs.length c1, .slice A2 n.taints.length c2, .bool n.cordon], .int .i64 v, .pointer (some ⟨b4, 0, none⟩), .pointer (some ⟨b3, 0, none⟩), .pointer (some ⟨b2, 0, none⟩)] w fun e w' =>
      e = .returned (.tuple #[]) ∧ (if !sm || decide (gr < v) then Best w' b2 b3 b4 #[.int .i64 n.id, .int .i64 n.pool, .int .i64 n.cap.c, .int .i64 n.cap.m, .int .i64 n.cap.p, .slice A1 n.labs.length c1, .slice A2 n.taints.length c2, .bool n.cordon] v true else Best w' b2 b3 b4 cs gr sm) ∧ TurnB [b2, b3, b4] w w' := by
  have HB := Lib.hid hB
  have hX : Below w.heap.size w (w.alloc (.cells #[.int .i64 n.id, .int .i64 n.pool, .int .i64 n.cap.c, .int .i64 n.cap.m, .int .i64 n.cap.p, .slice A1 n.labs.length c1, .slice A2 n.taints.length c2, .bool n.cordon] 83)) := (by repeat' (first | exact Below.refl _ _ | refine Below.alloc ?_ ?_ _ | refine Below.setCell ?_ ?_ _ | refine Below.drew ?_ | (apply below_step; assumption) | (simp; done) | (simp; omega) | omega))
  have HX := Lib.hid hX
  have s0 := hB.2.2.cell 0
  have g0 := hB.2.1.cell 0
  have sf := hB.2.2.frozen 0
  have gf := hB.2.1.frozen 0
  have kf := hB.1.frozen
  have hcell : ∀ o, o < 8 → ∃ u, w.cell? ⟨b2, o, none⟩ = some u := fun o ho => by rw [hB.1.cell]; exact ⟨_, Array.getElem?_eq_getElem (by omega)⟩
  obtain ⟨x0, k0⟩ := hcell 0 (by omega); obtain ⟨x1, k1⟩ := hcell 1 (by omega); obtain ⟨x2, k2⟩ := hcell 2 (by omega); obtain ⟨x3, k3⟩ := hcell 3 (by omega)
  obtain ⟨x4, k4⟩ := hcell 4 (by omega); obtain ⟨x5, k5⟩ := hcell 5 (by omega); obtain ⟨x6, k6⟩ := hcell 6 (by omega); obtain ⟨x7, k7⟩ := hcell 7 (by omega)
  have l2 := hB.1.lt
  have l3 := hB.2.1.lt
  have l4 := hB.2.2.lt
  simp at s0 g0
  have hput : ∀ (Y : World), Best Y b2 b3 b4 cs gr sm → Best (World.setCell (World.setCell ((((((((Y.setCell ⟨b2, 0, none⟩ (.int .i64 n.id)).setCell ⟨b2, 1, none⟩ (.int .i64 n.pool)).setCell ⟨b2, 2, none⟩ (.int .i64 n.cap.c)).setCell ⟨b2, 3, none⟩ (.int .i64 n.cap.m)).setCell ⟨b2, 4, none⟩ (.int .i64 n.cap.p)).setCell ⟨b2, 5, none⟩ (.slice A1 n.labs.length c1)).setCell ⟨b2, 6, none⟩ (.slice A2 n.taints.length c2)).setCell ⟨b2, 7, none⟩ (.bool n.cordon)) ⟨b3, 0, none⟩ (.int .i64 v)) ⟨b4, 0, none⟩ (.bool true)) b2 b3 b4 #[.int .i64 n.id, .int .i64 n.pool, .int .i64 n.cap.c, .int .i64 n.cap.m, .int .i64 n.cap.p, .slice A1 n.labs.length c1, .slice A2 n.taints.length c2, .bool n.cordon] v true := fun Y h => by
    obtain ⟨i2, i3, i4⟩ := h
    refine ⟨((put8 _ _ _ _ _ _ _ _ i2 hcs).far (by dsimp only; omega) _).far (by dsimp only; omega) _, ?_, ?_⟩
    · refine BlockIs.far ?_ (by dsimp only; omega) _
      have : BlockIs ((((((((Y.setCell ⟨b2, 0, none⟩ (.int .i64 n.id)).setCell ⟨b2, 1, none⟩ (.int .i64 n.pool)).setCell ⟨b2, 2, none⟩ (.int .i64 n.cap.c)).setCell ⟨b2, 3, none⟩ (.int .i64 n.cap.m)).setCell ⟨b2, 4, none⟩ (.int .i64 n.cap.p)).setCell ⟨b2, 5, none⟩ (.slice A1 n.labs.length c1)).setCell ⟨b2, 6, none⟩ (.slice A2 n.taints.length c2)).setCell ⟨b2, 7, none⟩ (.bool n.cordon)) b3 3 #[.int .i64 gr] := by
        repeat' (first | with_reducible exact i3 | with_reducible refine BlockIs.far ?_ (by dsimp only; omega) _)
      simpa using this.put 0 (.int .i64 v)
    · have : BlockIs (World.setCell ((((((((Y.setCell ⟨b2, 0, none⟩ (.int .i64 n.id)).setCell ⟨b2, 1, none⟩ (.int .i64 n.pool)).setCell ⟨b2, 2, none⟩ (.int .i64 n.cap.c)).setCell ⟨b2, 3, none⟩ (.int .i64 n.cap.m)).setCell ⟨b2, 4, none⟩ (.int .i64 n.cap.p)).setCell ⟨b2, 5, none⟩ (.slice A1 n.labs.length c1)).setCell ⟨b2, 6, none⟩ (.slice A2 n.taints.length c2)).setCell ⟨b2, 7, none⟩ (.bool n.cordon)) ⟨b3, 0, none⟩ (.int .i64 v)) b4 4 #[.bool sm] := by
        repeat' (first | with_reducible exact i4 | with_reducible refine BlockIs.far ?_ (by dsimp only; omega) _)
      simpa using this.put 0 (.bool true)
  have HPUT := Lib.hid hput
  clear hB hput hX hcell
  have hturn : ∀ (Y : World), TurnB [b2, b3, b4] w Y → TurnB [b2, b3, b4] w (World.setCell (World.setCell ((((((((Y.setCell ⟨b2, 0, none⟩ (.int .i64 n.id)).setCell ⟨b2, 1, none⟩ (.int .i64 n.pool)).setCell ⟨b2, 2, none⟩ (.int .i64 n.cap.c)).setCell ⟨b2, 3, none⟩ (.int .i64 n.cap.m)).setCell ⟨b2, 4, none⟩ (.int .i64 n.cap.p)).setCell ⟨b2, 5, none⟩ (.slice A1 n.labs.length c1)).setCell ⟨b2, 6, none⟩ (.slice A2 n.taints.length c2)).setCell ⟨b2, 7, none⟩ (.bool n.cordon)) ⟨b3, 0, none⟩ (.int .i64 v)) ⟨b4, 0, none⟩ (.bool true)) := fun Y h => by
    repeat' (first | with_reducible exact h | with_reducible refine TurnB.put ?_ (by simp) _ _)
  have HTURN := Lib.hid hturn
  clear hturn
  have hP : Best (World.alloc (World.setCell (World.setCell ((((((((w.setCell ⟨b2, 0, none⟩ (.int .i64 n.id)).setCell ⟨b2, 1, none⟩ (.int .i64 n.pool)).setCell ⟨b2, 2, none⟩ (.int .i64 n.cap.c)).setCell ⟨b2, 3, none⟩ (.int .i64 n.cap.m)).setCell ⟨b2, 4, none⟩ (.int .i64 n.cap.p)).setCell ⟨b2, 5, none⟩ (.slice A1 n.labs.length c1)).setCell ⟨b2, 6, none⟩ (.slice A2 n.taints.length c2)).setCell ⟨b2, 7, none⟩ (.bool n.cordon)) ⟨b3, 0, none⟩ (.int .i64 v)) ⟨b4, 0, none⟩ (.bool true)) (.cells #[.int .i64 n.id, .int .i64 n.pool, .int .i64 n.cap.c, .int .i64 n.cap.m, .int .i64 n.cap.p, .slice A1 n.labs.length c1, .slice A2 n.taints.length c2, .bool n.cordon] 83)) b2 b3 b4 #[.int .i64 n.id, .int .i64 n.pool, .int .i64 n.cap.c, .int .i64 n.cap.m, .int .i64 n.cap.p, .slice A1 n.labs.length c1, .slice A2 n.taints.length c2, .bool n.cordon] v true := (HPUT.out w HB.out).below ((Below.refl _ _).alloc (Nat.le_refl _) _)
  have hT : TurnB [b2, b3, b4] w (World.alloc (World.setCell (World.setCell ((((((((w.setCell ⟨b2, 0, none⟩ (.int .i64 n.id)).setCell ⟨b2, 1, none⟩ (.int .i64 n.pool)).setCell ⟨b2, 2, none⟩ (.int .i64 n.cap.c)).setCell ⟨b2, 3, none⟩ (.int .i64 n.cap.m)).setCell ⟨b2, 4, none⟩ (.int .i64 n.cap.p)).setCell ⟨b2, 5, none⟩ (.slice A1 n.labs.length c1)).setCell ⟨b2, 6, none⟩ (.slice A2 n.taints.length c2)).setCell ⟨b2, 7, none⟩ (.bool n.cordon)) ⟨b3, 0, none⟩ (.int .i64 v)) ⟨b4, 0, none⟩ (.bool true)) (.cells #[.int .i64 n.id, .int .i64 n.pool, .int .i64 n.cap.c, .int .i64 n.cap.m, .int .i64 n.cap.p, .slice A1 n.labs.length c1, .slice A2 n.taints.length c2, .bool n.cordon] 83)) := (HTURN.out w (TurnB.refl _ _)).step ((Below.refl _ _).alloc (Nat.le_refl _) _)
  have HP := Lib.hid hP
  have HTT := Lib.hid hT
  clear hP hT
  cases sm
  · go_enter Tryz.func206, Tryz.ntmps206
    go_wp2_with fail
    generalize (World.alloc (World.setCell (World.setCell ((((((((w.setCell ⟨b2, 0, none⟩ (.int .i64 n.id)).setCell ⟨b2, 1, none⟩ (.int .i64 n.pool)).setCell ⟨b2, 2, none⟩ (.int .i64 n.cap.c)).setCell ⟨b2, 3, none⟩ (.int .i64 n.cap.m)).setCell ⟨b2, 4, none⟩ (.int .i64 n.cap.p)).setCell ⟨b2, 5, none⟩ (.slice A1 n.labs.length c1)).setCell ⟨b2, 6, none⟩ (.slice A2 n.taints.length c2)).setCell ⟨b2, 7, none⟩ (.bool n.cordon)) ⟨b3, 0, none⟩ (.int .i64 v)) ⟨b4, 0, none⟩ (.bool true)) (.cells #[.int .i64 n.id, .int .i64 n.pool, .int .i64 n.cap.c, .int .i64 n.cap.m, .int .i64 n.cap.p, .slice A1 n.labs.length c1, .slice A2 n.taints.length c2, .bool n.cordon] 83)) = Z at HP HTT ⊢
    go_end0
    exact ⟨rfl, by simpa using HP.out, HTT.out⟩
  · by_cases hlt : gr < v
    · have hd : decide (v > gr) = true := by simpa using hlt
      have HL := Lib.hid hlt
      go_enter Tryz.func206, Tryz.ntmps206
      go_wp2_with fail
      generalize (World.alloc (World.setCell (World.setCell ((((((((w.setCell ⟨b2, 0, none⟩ (.int .i64 n.id)).setCell ⟨b2, 1, none⟩ (.int .i64 n.pool)).setCell ⟨b2, 2, none⟩ (.int .i64 n.cap.c)).setCell ⟨b2, 3, none⟩ (.int .i64 n.cap.m)).setCell ⟨b2, 4, none⟩ (.int .i64 n.cap.p)).setCell ⟨b2, 5, none⟩ (.slice A1 n.labs.length c1)).setCell ⟨b2, 6, none⟩ (.slice A2 n.taints.length c2)).setCell ⟨b2, 7, none⟩ (.bool n.cordon)) ⟨b3, 0, none⟩ (.int .i64 v)) ⟨b4, 0, none⟩ (.bool true)) (.cells #[.int .i64 n.id, .int .i64 n.pool, .int .i64 n.cap.c, .int .i64 n.cap.m, .int .i64 n.cap.p, .slice A1 n.labs.length c1, .slice A2 n.taints.length c2, .bool n.cordon] 83)) = Z at HP HTT ⊢
      go_end0
      exact ⟨rfl, by simpa [HL.out] using HP.out, HTT.out⟩
    · have hd : decide (v > gr) = false := by simpa using hlt
      have HL := Lib.hid hlt
      clear hlt
      go_enter Tryz.func206, Tryz.ntmps206
      go_wp2_with fail
      go_end0
      exact ⟨rfl, by simpa [HL.out] using HB.out.below HX.out, .of_below HX.out⟩
set_option maxHeartbeats 3200000 in
theorem best_any (n : NV) (A1 A2 : Option Addr) (c1 c2 : Nat) (b2 b3 b4 : Nat) (gr : Int) (sm : Bool) (w : World) (hB : Best w b2 b3 b4 #[.int .i64 n.id, .int .i64 n.pool, .int .i64 n.cap.c, .int .i64 n.cap.m, .int .i64 n.cap.p, .slice A1 n.labs.length c1, .slice A2 n.taints.length c2, .bool n.cordon] gr sm) :
    Calls Tryz.prog 207 #[.pointer (some ⟨b2, 0, none⟩), .pointer (some ⟨b4, 0, none⟩)] w fun e w' => e = .returned (.tuple #[.agg #[.int .i64 n.id, .int .i64 n.pool, .int .i64 n.cap.c, .int .i64 n.cap.m, .int .i64 n.cap.p, .slice A1 n.labs.length c1, .slice A2 n.taints.length c2, .bool n.cordon], .bool sm]) ∧ Below w.heap.size w w' := by
  have s0 := hB.2.2.cell 0
  have k0 := hB.1.cell 0; have k1 := hB.1.cell 1; have k2 := hB.1.cell 2; have k3 := hB.1.cell 3; have k4 := hB.1.cell 4; have k5 := hB.1.cell 5; have k6 := hB.1.cell 6; have k7 := hB.1.cell 7
  have l2 := hB.1.lt
  have l4 := hB.2.2.lt
  simp at s0 k0 k1 k2 k3 k4 k5 k6 k7
  clear hB
  go_enter Tryz.func207, Tryz.ntmps207
  go_wp2_with fail
  go_region
  all_goals
    go_wp2_with fail
    have hZ : BlockIs (World.drew (w.alloc (.cells #[.int .i64 n.id, .int .i64 n.pool, .int .i64 n.cap.c, .int .i64 n.cap.m, .int .i64 n.cap.p, .slice A1 n.labs.length c1, .slice A2 n.taints.length c2, .bool n.cordon] 83))) w.heap.size 83 #[.int .i64 n.id, .int .i64 n.pool, .int .i64 n.cap.c, .int .i64 n.cap.m, .int .i64 n.cap.p, .slice A1 n.labs.length c1, .slice A2 n.taints.length c2, .bool n.cordon] := BlockIs.drew (BlockIs.new w _ _)
    have hY : Below w.heap.size w (World.drew (w.alloc (.cells #[.int .i64 n.id, .int .i64 n.pool, .int .i64 n.cap.c, .int .i64 n.cap.m, .int .i64 n.cap.p, .slice A1 n.labs.length c1, .slice A2 n.taints.length c2, .bool n.cordon] 83))) := (by repeat' (first | exact Below.refl _ _ | refine Below.alloc ?_ ?_ _ | refine Below.setCell ?_ ?_ _ | refine Below.drew ?_ | (apply below_step; assumption) | (simp; done) | (simp; omega) | omega))
    generalize World.drew (w.alloc (.cells #[.int .i64 n.id, .int .i64 n.pool, .int .i64 n.cap.c, .int .i64 n.cap.m, .int .i64 n.cap.p, .slice A1 n.labs.length c1, .slice A2 n.taints.length c2, .bool n.cordon] 83)) = Y at hZ hY ⊢
    have z0 := hZ.cell 0; have z1 := hZ.cell 1; have z2 := hZ.cell 2; have z3 := hZ.cell 3; have z4 := hZ.cell 4; have z5 := hZ.cell 5; have z6 := hZ.cell 6; have z7 := hZ.cell 7
    simp at z0 z1 z2 z3 z4 z5 z6 z7
    exact bodyPost_ret (v := .tuple #[.agg #[.int .i64 n.id, .int .i64 n.pool, .int .i64 n.cap.c, .int .i64 n.cap.m, .int .i64 n.cap.p, .slice A1 n.labs.length c1, .slice A2 n.taints.length c2, .bool n.cordon], .bool sm]) (by simp [results, Tryz.results207, go_sem, z0, z1, z2, z3, z4, z5, z6, z7]) rfl ⟨rfl, hY⟩
end Go.Proofs.YtmkpajjnjgnmkaaGreatDoor

namespace Go.Proofs.YtmkpajjnjgnmkaaGreatDoor
open Go.RowKit Go.Shelf
attribute [local go_sem] Oper.semAt_some

def bestG {β : Type} (sc : β → Int) (s : Option (β × Int)) (x : β) : Option (β × Int) := if sc x = -1 then s else match s with
  | none => some (x, sc x)
  | some (y, g) => if g < sc x then some (x, sc x) else some (y, g)
def bestL {β : Type} (sc : β → Int) (l : List β) : Option (β × Int) := l.foldl (bestG sc) none
theorem bestL_snoc {β : Type} (sc : β → Int) (l : List β) (x : β) : bestL sc (l ++ [x]) = bestG sc (bestL sc l) x := by simp [bestL]
theorem bestG_map {β γ : Type} (f : β → γ) (sc : γ → Int) (s : Option (β × Int)) (x : β) : (bestG (fun y => sc (f y)) s x).map (fun p => (f p.1, p.2)) = bestG sc (s.map (fun p => (f p.1, p.2))) (f x) := by
  unfold bestG
  split
  · rfl
  · cases s with
    | none => rfl
    | some p => obtain ⟨y, g⟩ := p; simp only [Option.map_some]; split <;> rfl
theorem bestL_map {β γ : Type} (f : β → γ) (sc : γ → Int) (l : List β) : (bestL (fun y => sc (f y)) l).map (fun p => (f p.1, p.2)) = bestL sc (l.map f) := by
  have h : ∀ (l : List β) (s : Option (β × Int)), (l.foldl (bestG fun y => sc (f y)) s).map (fun p => (f p.1, p.2)) = (l.map f).foldl (bestG sc) (s.map (fun p => (f p.1, p.2))) := by
    intro l
    induction l with
    | nil => intro s; rfl
    | cons x r ih => intro s; simp only [List.foldl_cons, List.map_cons]; rw [ih, bestG_map]
  exact h l none
def pickV (c : CV) (t : TV) : Int := match bestL (fun n => scoreV c n t) (c.nodes.filter (fun n => takesV n t)) with
  | some p => p.1.id
  | none => 0
def cellsOf {w0 : World} (s : Option (OnN w0 × Int)) : Array Value := match s with
  | some p => p.1.1.2.toArray
  | none => #[.int .i64 0, .int .i64 0, .int .i64 0, .int .i64 0, .int .i64 0, .slice none 0 0, .slice none 0 0, .bool false]
def valOf {w0 : World} (s : Option (OnN w0 × Int)) : Int := match s with
  | some p => p.2
  | none => 0
theorem bestG_skip {w0 : World} (sc : OnN w0 → Int) (s : Option (OnN w0 × Int)) (x : OnN w0) (h : sc x = -1) : bestG sc s x = s := by unfold bestG; rw [if_pos h]
theorem bestG_take {w0 : World} (sc : OnN w0 → Int) (s : Option (OnN w0 × Int)) (x : OnN w0) (h : sc x ≠ -1) : bestG sc s x = if !s.isSome || decide (valOf s < sc x) then some (x, sc x) else s := by
  unfold bestG
  rw [if_neg h]
  cases s with
  | none => rfl
  | some p => obtain ⟨y, g⟩ := p; by_cases hh : g < sc x <;> simp [valOf, hh]
theorem cellsOf_size {w0 : World} (s : Option (OnN w0 × Int)) : (cellsOf s).size = 8 := by
  cases s with
  | none => rfl
  | some p =>
    obtain ⟨⟨⟨n, cs⟩, hR⟩, g⟩ := p
    obtain ⟨v1, v2, e, _⟩ := id hR
    change cs = _ at e
    show cs.toArray.size = 8
    rw [e]; rfl
theorem keep_block {B b : Nat} {t : TypeId} {cs : Array Value} {W W' : World} {row : Option Nat} (h : BlockIs W b t cs) (hg : W.grownBy W' row) (hr : ∀ r, row = some r → B ≤ r ∧ ∃ o : Obj, W.heap[r]? = some o ∧ o.isCells = false) : BlockIs W' b t cs :=
  (hg.block _ h.lt (fun e => by obtain ⟨_, o, ho, hc⟩ := hr _ e.symm; rw [show W.heap[b]? = _ from h] at ho; cases ho; cases hc)).trans h
theorem keeps_turn {W w3 w4 : World} {b2 b3 b4 : Nat} {cs : Array Value} {gr : Int} {sm : Bool} (hB : Best W b2 b3 b4 cs gr sm) (hb : Below W.heap.size W w3) (ht : TurnB [b2, b3, b4] w3 w4) : KeepsOthers W w4 :=
  ⟨Nat.le_trans hb.size ht.size, fun k o hk ho => by
    have hl := (Array.getElem?_eq_some_iff.1 hk).1
    have no : ∀ {b : Nat} {t : TypeId} {c : Array Value}, BlockIs W b t c → k ≠ b := fun h e => by
      subst e; unfold BlockIs at h; rw [h] at hk; cases hk; cases ho
    exact (ht.block k (Nat.lt_of_lt_of_le hl hb.size) (by simp [no hB.1, no hB.2.1, no hB.2.2])).trans ((hb.block k hl).trans hk)⟩
structure PickI (w0 w : World) (X b2 b3 b4 bo bc bt : Nat) (clu tt : Array Value) (s : Option (OnN w0 × Int)) (W : World) : Prop where
  best : Best W b2 b3 b4 (cellsOf s) (valOf s) s.isSome
  off : BlockIs W bo 175 #[.func (.func 206) #[] #[.pointer (some ⟨b4, 0, none⟩), .pointer (some ⟨b3, 0, none⟩), .pointer (some ⟨b2, 0, none⟩)]]
  clu : BlockIs W bc 35 clu
  task : BlockIs W bt 88 tt
  below : Below w.heap.size w W
  size : X ≤ W.heap.size
theorem PickI.own {w0 w : World} {X b2 b3 b4 bo bc bt : Nat} {clu tt : Array Value} (hX : w.heap.size ≤ X) : OwnFrom X (fun (s : Option (OnN w0 × Int)) W => PickI w0 w X b2 b3 b4 bo bc bt clu tt s W) := fun _ A B row h hg hr =>
  ⟨⟨keep_block h.best.1 hg hr, keep_block h.best.2.1 hg hr, keep_block h.best.2.2 hg hr⟩, keep_block h.off hg hr, keep_block h.clu hg hr, keep_block h.task hg hr,
    ownFrom_below (β := Unit) (Nat.le_refl _) hX () A B row h.below hg hr, Nat.le_trans h.size hg.size⟩
set_option maxRecDepth 100000 in
set_option maxHeartbeats 8000000 in
theorem pickFor_any (c : CV) (a0 a1 a2 : Value) (t : TV) (ts : List Value) (w0 w : World) (hw : Below w0.heap.size w0 w) (x y : Addr) (hg : ErrAt x w) (hy : CapAt y w) (hc : CluR w0 c a0 a1 a2) (ht : TaskR w0 t ts) :
    Calls Tryz.prog 105 #[.agg #[a0, a1, a2], .agg ts.toArray] w fun e w' => e = .returned (.int .i64 (pickV c t)) ∧ Below w.heap.size w w' := by
  have HT := Lib.hid ht
  obtain ⟨D0, e0, rfl, _⟩ := hc.1.form
  obtain ⟨D1, e1, rfl, _⟩ := hc.2.1.form
  obtain ⟨D2, e2, rfl, _⟩ := hc.2.2.1.form
  obtain ⟨v1, v2, rfl, h1, h2, _⟩ := ht
  obtain ⟨B1, d1, rfl, _⟩ := h1.form
  obtain ⟨B2, d2, rfl, _⟩ := h2.form
  have HC := Lib.hid hc
  have HG := Lib.hid hg
  have HY := Lib.hid hy
  have HW := Lib.hid hw
  clear hc hg hy hw h1 h2
  refine (callsIn_wide (n := 3)).1 ?_
  refine callsIn_of_wp_marks Tryz.func105 rfl trivial ?_ rfl
  simp only [Tryz.ntmps105, List.size_toArray, List.length_cons, List.length_nil, Nat.reduceAdd, Nat.reduceSub, Array.replicate_succ, Array.replicate_zero, List.push_toArray, List.append_toArray, List.nil_append, List.cons_append]
  gi_wp2
  refine ⟨trivial, (callsIn_wide.2 (keepBest_any _)).mono ?_⟩
  rintro e w1 ⟨b2, b3, b4, rfl, hBest, hl2, h23, h34, hb1⟩
  have hX1 : Below w.heap.size w ((w.alloc (.cells #[.slice D0 c.tasks.length e0, .slice D1 c.nodes.length e1, .slice D2 c.binds.length e2] 35)).alloc (.cells #[.int .i64 t.id, .int .i64 t.prio, .int .i64 t.need.c, .int .i64 t.need.m, .int .i64 t.need.p, .slice B1 t.want.length d1, .slice B2 t.tols.length d2] 88)) := (by repeat' (first | exact Below.refl _ _ | refine Below.alloc ?_ ?_ _ | refine Below.setCell ?_ ?_ _ | refine Below.drew ?_ | (apply below_step; assumption) | (simp; done) | (simp; omega) | omega))
  have hC1 := below_of hX1 hb1
  have bCl : BlockIs w1 w.heap.size 35 #[.slice D0 c.tasks.length e0, .slice D1 c.nodes.length e1, .slice D2 c.binds.length e2] := ((BlockIs.new w _ _).alloc _).below hb1 (by simp; omega)
  have bTt : BlockIs w1 (w.heap.size + 1) 88 #[.int .i64 t.id, .int .i64 t.prio, .int .i64 t.need.c, .int .i64 t.need.m, .int .i64 t.need.p, .slice B1 t.want.length d1, .slice B2 t.tols.length d2] := (BlockIs.new' (by simp)).below hb1 (by simp)
  have hz1 := hb1.size
  have hb4 := hBest.2.2.lt
  simp at hz1 hl2
  have c0 := bCl.cell 0; have c1 := bCl.cell 1; have c2 := bCl.cell 2
  have u0 := bTt.cell 0; have u1 := bTt.cell 1; have u2 := bTt.cell 2; have u3 := bTt.cell 3; have u4 := bTt.cell 4; have u5 := bTt.cell 5; have u6 := bTt.cell 6
  simp at c0 c1 c2 u0 u1 u2 u3 u4 u5 u6
  have lcl := bCl.lt
  have ltt := bTt.lt
  have HBCl := Lib.hid bCl
  have HBTt := Lib.hid bTt
  have HBest := Lib.hid hBest
  have HC1 := Lib.hid hC1
  clear bCl bTt hBest hb1 hX1 hC1
  gi_wp2
  refine ⟨trivial, (callsIn_wide.2 (nodesFor_any D0 D1 D2 _ _ _ e0 e1 e2 t B1 B2 d1 d2 _)).mono ?_⟩
  rintro e w2 ⟨rfl, rfl⟩
  gi_wp2
  have hX : Below w1.heap.size w1 (((w1.alloc (.cells #[.func (.func 206) #[] #[.pointer (some ⟨b4, 0, none⟩), .pointer (some ⟨b3, 0, none⟩), .pointer (some ⟨b2, 0, none⟩)]] 175)).alloc (.cells #[.slice D0 c.tasks.length e0, .slice D1 c.nodes.length e1, .slice D2 c.binds.length e2] 35)).alloc (.cells #[.int .i64 t.id, .int .i64 t.prio, .int .i64 t.need.c, .int .i64 t.need.m, .int .i64 t.need.p, .slice B1 t.want.length d1, .slice B2 t.tols.length d2] 88)) := (by repeat' (first | exact Below.refl _ _ | refine Below.alloc ?_ ?_ _ | refine Below.setCell ?_ ?_ _ | refine Below.drew ?_ | (apply below_step; assumption) | (simp; done) | (simp; omega) | omega))
  have hXz : (((w1.alloc (.cells #[.func (.func 206) #[] #[.pointer (some ⟨b4, 0, none⟩), .pointer (some ⟨b3, 0, none⟩), .pointer (some ⟨b2, 0, none⟩)]] 175)).alloc (.cells #[.slice D0 c.tasks.length e0, .slice D1 c.nodes.length e1, .slice D2 c.binds.length e2] 35)).alloc (.cells #[.int .i64 t.id, .int .i64 t.prio, .int .i64 t.need.c, .int .i64 t.need.m, .int .i64 t.need.p, .slice B1 t.want.length d1, .slice B2 t.tols.length d2] 88)).heap.size = w1.heap.size + 3 := by simp
  have bO : BlockIs (((w1.alloc (.cells #[.func (.func 206) #[] #[.pointer (some ⟨b4, 0, none⟩), .pointer (some ⟨b3, 0, none⟩), .pointer (some ⟨b2, 0, none⟩)]] 175)).alloc (.cells #[.slice D0 c.tasks.length e0, .slice D1 c.nodes.length e1, .slice D2 c.binds.length e2] 35)).alloc (.cells #[.int .i64 t.id, .int .i64 t.prio, .int .i64 t.need.c, .int .i64 t.need.m, .int .i64 t.need.p, .slice B1 t.want.length d1, .slice B2 t.tols.length d2] 88)) w1.heap.size 175 #[.func (.func 206) #[] #[.pointer (some ⟨b4, 0, none⟩), .pointer (some ⟨b3, 0, none⟩), .pointer (some ⟨b2, 0, none⟩)]] := ((BlockIs.new w1 _ _).alloc _).alloc _
  have bC : BlockIs (((w1.alloc (.cells #[.func (.func 206) #[] #[.pointer (some ⟨b4, 0, none⟩), .pointer (some ⟨b3, 0, none⟩), .pointer (some ⟨b2, 0, none⟩)]] 175)).alloc (.cells #[.slice D0 c.tasks.length e0, .slice D1 c.nodes.length e1, .slice D2 c.binds.length e2] 35)).alloc (.cells #[.int .i64 t.id, .int .i64 t.prio, .int .i64 t.need.c, .int .i64 t.need.m, .int .i64 t.need.p, .slice B1 t.want.length d1, .slice B2 t.tols.length d2] 88)) (w1.heap.size + 1) 35 #[.slice D0 c.tasks.length e0, .slice D1 c.nodes.length e1, .slice D2 c.binds.length e2] := (BlockIs.new' (by simp)).alloc _
  have bN : BlockIs (((w1.alloc (.cells #[.func (.func 206) #[] #[.pointer (some ⟨b4, 0, none⟩), .pointer (some ⟨b3, 0, none⟩), .pointer (some ⟨b2, 0, none⟩)]] 175)).alloc (.cells #[.slice D0 c.tasks.length e0, .slice D1 c.nodes.length e1, .slice D2 c.binds.length e2] 35)).alloc (.cells #[.int .i64 t.id, .int .i64 t.prio, .int .i64 t.need.c, .int .i64 t.need.m, .int .i64 t.need.p, .slice B1 t.want.length d1, .slice B2 t.tols.length d2] 88)) (w1.heap.size + 1 + 1) 88 #[.int .i64 t.id, .int .i64 t.prio, .int .i64 t.need.c, .int .i64 t.need.m, .int .i64 t.need.p, .slice B1 t.want.length d1, .slice B2 t.tols.length d2] := BlockIs.new' (by simp)
  generalize (((w1.alloc (.cells #[.func (.func 206) #[] #[.pointer (some ⟨b4, 0, none⟩), .pointer (some ⟨b3, 0, none⟩), .pointer (some ⟨b2, 0, none⟩)]] 175)).alloc (.cells #[.slice D0 c.tasks.length e0, .slice D1 c.nodes.length e1, .slice D2 c.binds.length e2] 35)).alloc (.cells #[.int .i64 t.id, .int .i64 t.prio, .int .i64 t.need.c, .int .i64 t.need.m, .int .i64 t.need.p, .slice B1 t.want.length d1, .slice B2 t.tols.length d2] 88)) = X at hX hXz bO bC bN ⊢
  have hXX := below_of HC1.out hX
  have hI0 : PickI w0 w X.heap.size b2 b3 b4 w1.heap.size w.heap.size (w.heap.size + 1) #[.slice D0 c.tasks.length e0, .slice D1 c.nodes.length e1, .slice D2 c.binds.length e2] #[.int .i64 t.id, .int .i64 t.prio, .int .i64 t.need.c, .int .i64 t.need.m, .int .i64 t.need.p, .slice B1 t.want.length d1, .slice B2 t.tols.length d2] none X := ⟨HBest.out.below hX, bO, HBCl.out.below hX lcl, HBTt.out.below hX ltt, hXX, Nat.le_refl _⟩
  have HTW := fun w' (hb : Below w.heap.size w w') => TaskR.kept _ _ _ _ (below_of HW.out hb) HT.out
  have HTK := Lib.hid HTW
  have hn0 := HW.out.size
  have hle := hXX.size
  generalize hbo : w1.heap.size = bo at hXz bO bC bN hI0 hX hb4 hz1 ⊢
  have HBO := Lib.hid hbo
  clear c0 c1 c2 u0 u1 u2 u3 u4 u5 u6 HTW hbo
  refine wpIn_rangeFunc_ownH rfl (by omega) (gf := 208) (lb := #[.pointer (some ⟨bo + 1, 0, none⟩), .pointer (some ⟨bo + 1 + 1, 0, none⟩)]) rfl trivial (enters_of Tryz.func208 (by kernel_rfl) rfl)
    (nodesFor_stops c D0 D1 D2 e0 e1 e2 t B1 B2 d1 d2 w0 X (below_of HW.out hXX) HC.out HT.out (bo + 1) (bo + 1 + 1) w.heap.size 2 hn0 (by omega) bC bN) KpOn.t (KpOn.b (by omega) (by omega) (by omega)) (Below.refl _ _) (fun _ => rfl)
    (fun (pre : List (OnN w0)) W => PickI w0 w X.heap.size b2 b3 b4 bo w.heap.size (w.heap.size + 1) #[.slice D0 c.tasks.length e0, .slice D1 c.nodes.length e1, .slice D2 c.binds.length e2] #[.int .i64 t.id, .int .i64 t.prio, .int .i64 t.need.c, .int .i64 t.need.m, .int .i64 t.need.p, .slice B1 t.want.length d1, .slice B2 t.tols.length d2] (bestL (fun x => scoreV c x.n t) pre) W)
    (fun _ _ _ => False)
    (fun _ A B row hs hg hr => PickI.own hXX.size _ A B row hs hg hr)
    (fun _ _ _ _ _ hs _ _ => hs)
    hI0
    (fun x a' W => ∃ Bx, X.heap.size ≤ Bx ∧ BlockIs W Bx 83 x.1.2.toArray ∧ a' = { tmps := #[.agg #[.slice D0 c.tasks.length e0, .slice D1 c.nodes.length e1, .slice D2 c.binds.length e2], .agg #[.int .i64 t.id, .int .i64 t.prio, .int .i64 t.need.c, .int .i64 t.need.m, .int .i64 t.need.p, .slice B1 t.want.length d1, .slice B2 t.tols.length d2], .pointer (some ⟨w.heap.size, 0, none⟩), .pointer (some ⟨w.heap.size + 1, 0, none⟩), .int .i64 0, .pointer (some ⟨bo, 0, none⟩), .func (.func 207) #[] #[.pointer (some ⟨b2, 0, none⟩), .pointer (some ⟨b4, 0, none⟩)], .pointer (some ⟨Bx, 0, none⟩), undef, undef, undef, .tuple #[.func (.func 206) #[] #[.pointer (some ⟨b4, 0, none⟩), .pointer (some ⟨b3, 0, none⟩), .pointer (some ⟨b2, 0, none⟩)], .func (.func 207) #[] #[.pointer (some ⟨b2, 0, none⟩), .pointer (some ⟨b4, 0, none⟩)]], .tuple #[.func (.func 206) #[] #[.pointer (some ⟨b4, 0, none⟩), .pointer (some ⟨b3, 0, none⟩), .pointer (some ⟨b2, 0, none⟩)], .func (.func 207) #[] #[.pointer (some ⟨b2, 0, none⟩), .pointer (some ⟨b4, 0, none⟩)]], .func (.func 206) #[] #[.pointer (some ⟨b4, 0, none⟩), .pointer (some ⟨b3, 0, none⟩), .pointer (some ⟨b2, 0, none⟩)], .func (.func 207) #[] #[.pointer (some ⟨b2, 0, none⟩), .pointer (some ⟨b4, 0, none⟩)], .agg #[.slice D0 c.tasks.length e0, .slice D1 c.nodes.length e1, .slice D2 c.binds.length e2], .agg #[.int .i64 t.id, .int .i64 t.prio, .int .i64 t.need.c, .int .i64 t.need.m, .int .i64 t.need.p, .slice B1 t.want.length d1, .slice B2 t.tols.length d2], .func (.func 208) #[] #[.pointer (some ⟨bo + 1, 0, none⟩), .pointer (some ⟨bo + 1 + 1, 0, none⟩)], .agg x.1.2.toArray, undef, undef, undef, undef, undef, undef, undef, undef, undef, undef, undef, undef, undef, undef, undef, undef, undef], defers := [] })
    (fun x a' _ Y Z row hs hg hr => by
      obtain ⟨Bx, h1, h2, h3⟩ := hs
      exact ⟨Bx, h1, keep_block h2 hg hr, h3⟩)
    ?assign ?body ?done ?stop
  case assign =>
    rintro l pre ⟨⟨n, cs⟩, hR⟩ W K hI hK
    change NodeR w0 n cs at hR
    obtain ⟨v1, v2, rfl, sl, si, _⟩ := id hR
    obtain ⟨A1, c1, rfl, _⟩ := sl.form
    obtain ⟨A2, c2, rfl, _⟩ := si.form
    clear sl si
    dsimp only [encN]
    have hBs := hI.below.size
    have hB5 := hI.size
    have HI := Lib.hid hI
    have HK := Lib.hid hK
    clear hI hK
    gi_wp2
    have hA : Below W.heap.size W (W.alloc (.cells #[.int .i64 n.id, .int .i64 n.pool, .int .i64 n.cap.c, .int .i64 n.cap.m, .int .i64 n.cap.p, .slice A1 n.labs.length c1, .slice A2 n.taints.length c2, .bool n.cordon] 83)) := (by repeat' (first | exact Below.refl _ _ | refine Below.alloc ?_ ?_ _ | refine Below.setCell ?_ ?_ _ | refine Below.drew ?_ | (apply below_step; assumption) | (simp; done) | (simp; omega) | omega))
    exact HK.out _ _ ((KeepsOthers.alloc _ _).from _) ⟨hA.mono hBs, Below.heap_alloc W _ _ (by omega), Below.heap_alloc W _ _ (by omega)⟩
      ⟨HI.out.best.below hA, HI.out.off.alloc _, HI.out.clu.alloc _, HI.out.task.alloc _, below_of HI.out.below hA, by simp; omega⟩ ⟨W.heap.size, by omega, BlockIs.new W _ _, rfl⟩
  case body =>
    rintro l pre ⟨⟨n, cs⟩, hR⟩ a' W hl hrl hI ⟨Bx, hBx, bX, rfl⟩ hlt
    have HRR := Lib.hid hR
    change NodeR w0 n cs at hR
    have hA : scoreV c n t = -1 → bestL (fun x : OnN w0 => scoreV c x.n t) (pre ++ [⟨(n, cs), hR⟩]) = bestL (fun x : OnN w0 => scoreV c x.n t) pre := fun h => (bestL_snoc _ _ _).trans (bestG_skip _ _ _ h)
    have hT : scoreV c n t ≠ -1 → bestL (fun x : OnN w0 => scoreV c x.n t) (pre ++ [⟨(n, cs), hR⟩]) = if !(bestL (fun x : OnN w0 => scoreV c x.n t) pre).isSome || decide (valOf (bestL (fun x : OnN w0 => scoreV c x.n t) pre) < scoreV c n t) then some (⟨(n, cs), hR⟩, scoreV c n t) else bestL (fun x : OnN w0 => scoreV c x.n t) pre := fun h => (bestL_snoc _ _ _).trans (bestG_take _ _ _ h)
    have hso := fun w1 hw1 hg1 hy1 => scoreOn_any c n t (.slice D0 c.tasks.length e0) (.slice D1 c.nodes.length e1) (.slice D2 c.binds.length e2) cs _ w0 w1 hw1 x y hg1 hy1 HC.out hR HT.out
    generalize scoreV c n t = sc at hso hA hT
    generalize bestL (fun x : OnN w0 => scoreV c x.n t) pre = st at hI hA hT
    have HSO := Lib.hid hso
    have HA := Lib.hid hA
    have HTA := Lib.hid hT
    have HI := Lib.hid hI
    have HR := Lib.hid hR
    obtain ⟨v1, v2, rfl, sl, si, _⟩ := id hR
    obtain ⟨A1, c1, rfl, _⟩ := sl.form
    obtain ⟨A2, c2, rfl, _⟩ := si.form
    dsimp only at bX
    have hbx := bX.lt
    have HBX := Lib.hid bX
    have z0 := bX.cell 0; have z1 := bX.cell 1; have z2 := bX.cell 2; have z3 := bX.cell 3; have z4 := bX.cell 4; have z5 := bX.cell 5; have z6 := bX.cell 6; have z7 := bX.cell 7
    have q0 := hI.clu.cell 0; have q1 := hI.clu.cell 1; have q2 := hI.clu.cell 2
    have u0 := hI.task.cell 0; have u1 := hI.task.cell 1; have u2 := hI.task.cell 2; have u3 := hI.task.cell 3; have u4 := hI.task.cell 4; have u5 := hI.task.cell 5; have u6 := hI.task.cell 6
    simp at z0 z1 z2 z3 z4 z5 z6 z7 q0 q1 q2 u0 u1 u2 u3 u4 u5 u6
    have hIs := hI.size
    have hIc := hI.clu.lt
    have hIt := hI.task.lt
    clear sl si hI bX hA hT hso hrl
    dsimp only
    gi_wp2
    refine ⟨trivial, (callsIn_wide.2 (HSO.out _ (below_of HW.out HI.out.below) (HG.out.below HI.out.below (Nat.le_refl _)) (HY.out.below HI.out.below (Nat.le_refl _)))).mono ?_⟩
    rintro e w3 ⟨rfl, hb3⟩
    have hz3 := hb3.size
    have HB3 := Lib.hid hb3
    have bX3 := HBX.out.below hb3 hbx
    have bO3 := HI.out.off.below hb3 HI.out.off.lt
    have o0 := bO3.cell 0
    have ol := bO3.lt
    have xl := bX3.lt
    have z0 := bX3.cell 0; have z1 := bX3.cell 1; have z2 := bX3.cell 2; have z3 := bX3.cell 3; have z4 := bX3.cell 4; have z5 := bX3.cell 5; have z6 := bX3.cell 6; have z7 := bX3.cell 7
    simp at o0 z0 z1 z2 z3 z4 z5 z6 z7
    clear bX3 bO3 hb3 q0 q1 q2 u0 u1 u2 u3 u4 u5 u6
    by_cases hs : sc = -1
    · have hd : (sc != -1) = false := by simp [hs]
      have HS := Lib.hid hs
      clear hs
      gi_wp2
      refine ⟨(KeepsOthers.of_grownBy (grown_none HB3.out) (fun _ _ e _ => by cases e)).from _, ⟨HB3.out.mono (by omega), HB3.out.block _ (by omega), HB3.out.block _ (by omega)⟩, ?_⟩
      dsimp only
      rw [HA.out HS.out]
      exact ⟨HI.out.best.below HB3.out, HI.out.off.below HB3.out HI.out.off.lt, HI.out.clu.below HB3.out HI.out.clu.lt, HI.out.task.below HB3.out HI.out.task.lt, below_of HI.out.below HB3.out, by omega⟩
    · have hd : (sc != -1) = true := by simp [hs]
      have HS := Lib.hid hs
      clear hs
      gi_wp2
      refine ⟨trivial, (callsIn_wide.2 (offer_any n A1 A2 c1 c2 sc b2 b3 b4 (cellsOf st) (cellsOf_size st) (valOf st) st.isSome w3 (HI.out.best.below HB3.out) h23 h34)).mono ?_⟩
      rintro e w4 ⟨rfl, hbest, htb⟩
      have HBE := Lib.hid hbest
      have HTB := Lib.hid htb
      clear hbest htb
      gi_wp2
      have hBe := HI.out.best
      have n2 := HI.out.below.size
      have h4z := HTB.out.size
      have hnin : ∀ b, (b = w.heap.size ∨ b = w.heap.size + 1 ∨ b = bo ∨ b = bo + 1 ∨ b = bo + 1 + 1) → b ∉ [b2, b3, b4] := fun b hb => by simp; omega
      refine ⟨(keeps_turn hBe HB3.out HTB.out).from _, ⟨(HB3.out.mono n2).trans (HTB.out.below (by omega) (by simp; omega)), (HTB.out.block _ (by omega) (hnin _ (by simp))).trans (HB3.out.block _ (by omega)), (HTB.out.block _ (by omega) (hnin _ (by simp))).trans (HB3.out.block _ (by omega))⟩, ?_⟩
      dsimp only
      rw [HTA.out HS.out]
      have hOff := (HI.out.off.below HB3.out HI.out.off.lt).turn HTB.out (hnin _ (by simp))
      have hClu := (HI.out.clu.below HB3.out HI.out.clu.lt).turn HTB.out (hnin _ (by simp))
      have hTask := (HI.out.task.below HB3.out HI.out.task.lt).turn HTB.out (hnin _ (by simp))
      have hBel : Below w.heap.size w w4 := HI.out.below.trans ((HB3.out.mono n2).trans (HTB.out.below (by omega) (by simp; omega)))
      have hbst := HBE.out
      cases hcond : (!st.isSome || decide (valOf st < sc))
      · rw [hcond] at hbst
        exact ⟨hbst, hOff, hClu, hTask, hBel, by omega⟩
      · rw [hcond] at hbst
        exact ⟨hbst, hOff, hClu, hTask, hBel, by omega⟩
  case done =>
    rintro D ys W hD hys hI hK
    have hV : pickV c t = match bestL (fun x : OnN w0 => scoreV c x.n t) ys with
      | some p => p.1.n.id
      | none => 0 := by
      unfold pickV
      rw [← hys, ← bestL_map OnN.n (fun n => scoreV c n t) ys]
      cases bestL (fun x : OnN w0 => scoreV c x.n t) ys <;> rfl
    generalize bestL (fun x : OnN w0 => scoreV c x.n t) ys = st at hI hV
    obtain ⟨n, A1, A2, c1, c2, hB, hid⟩ : ∃ (n : NV) (A1 A2 : Option Addr) (c1 c2 : Nat), Best W b2 b3 b4 #[.int .i64 n.id, .int .i64 n.pool, .int .i64 n.cap.c, .int .i64 n.cap.m, .int .i64 n.cap.p, .slice A1 n.labs.length c1, .slice A2 n.taints.length c2, .bool n.cordon] (valOf st) st.isSome ∧ pickV c t = n.id := by
      cases st with
      | none => exact ⟨NV.zero, none, none, 0, 0, hI.best, hV⟩
      | some p =>
        obtain ⟨⟨⟨n, cs⟩, hR⟩, g⟩ := p
        have hR' : NodeR w0 n cs := hR
        obtain ⟨v1, v2, rfl, sl, si, _⟩ := hR'
        obtain ⟨A1, c1, rfl, _⟩ := sl.form
        obtain ⟨A2, c2, rfl, _⟩ := si.form
        exact ⟨n, A1, A2, c1, c2, hI.best, hV⟩
    have HB := Lib.hid hB
    have HV := Lib.hid hid
    have HK := Lib.hid hK
    have HBel := Lib.hid hI.below
    generalize st.isSome = sm at HB
    generalize valOf st = gr at HB
    clear hV hB hid hK hI hys
    gi_wp2
    refine ⟨trivial, (callsIn_wide.2 (best_any n A1 A2 c1 c2 b2 b3 b4 gr sm W HB.out)).mono ?_⟩
    rintro e w2 ⟨rfl, hb2⟩
    have hC2 := below_of HBel.out hb2
    have HK2 := Lib.hid ((hb2.block D (Array.getElem?_eq_some_iff.1 HK.out).1).trans HK.out)
    have hX2 : Below w2.heap.size w2 (w2.alloc (.cells #[.int .i64 n.id, .int .i64 n.pool, .int .i64 n.cap.c, .int .i64 n.cap.m, .int .i64 n.cap.p, .slice A1 n.labs.length c1, .slice A2 n.taints.length c2, .bool n.cordon] 83)) := (by repeat' (first | exact Below.refl _ _ | refine Below.alloc ?_ ?_ _ | refine Below.setCell ?_ ?_ _ | refine Below.drew ?_ | (apply below_step; assumption) | (simp; done) | (simp; omega) | omega))
    have hDl : D < w2.heap.size := (Array.getElem?_eq_some_iff.1 HK2.out).1
    clear hb2
    gi_wp2
    have hX' := below_of hC2 hX2
    have hKY : (w2.alloc (.cells #[.int .i64 n.id, .int .i64 n.pool, .int .i64 n.cap.c, .int .i64 n.cap.m, .int .i64 n.cap.p, .slice A1 n.labs.length c1, .slice A2 n.taints.length c2, .bool n.cordon] 83)).heap[D]? = some (.deferred (some [])) := (Below.heap_alloc w2 _ _ hDl).trans HK2.out
    generalize w2.alloc (.cells #[.int .i64 n.id, .int .i64 n.pool, .int .i64 n.cap.c, .int .i64 n.cap.m, .int .i64 n.cap.p, .slice A1 n.labs.length c1, .slice A2 n.taints.length c2, .bool n.cordon] 83) = Y at hX' hKY ⊢
    refine ⟨by simp, .inl ⟨_, _, rfl, run_takeDeferred hKY, ?_⟩⟩
    have hY2 : Below w.heap.size w (Y.putObj D (.deferred none)) := hX'.trans (belowK_b (w := w) (Nat.le_refl _) Y D _ _ (by omega) hKY rfl rfl)
    generalize Y.putObj D (.deferred none) = Y2 at hY2 ⊢
    exact ⟨.int .i64 n.id, by simp [results, Tryz.results105, go_sem], by rw [HV.out], hY2⟩
  case stop =>
    rintro D c pre W _ _ h _
    exact h.elim
end Go.Proofs.YtmkpajjnjgnmkaaGreatDoor

namespace Go.Proofs.YtmkpajjnjgnmkaaGreatDoor
open Go.RowKit

def unboundG (c : CV) (z : Int) : Option TV := match fstBy TV.id c.tasks z with
  | some t => if (fstBy BV.task c.binds z).isSome || !clusterOk c then none else some t
  | none => none
def pickG (c : CV) (z : Int) : Int := match unboundG c z with
  | some t => pickV c t
  | none => 0
set_option maxHeartbeats 6400000 in
theorem findUnbound_any (c : CV) (a0 a1 a2 : Value) (z : Int) (w0 w : World) (hw : Below w0.heap.size w0 w) (x : Addr) (hg : ErrAt x w) (hc : CluR w0 c a0 a1 a2) :
    Calls Tryz.prog 104 #[.agg #[a0, a1, a2], .int .i64 z] w (RetFTask w0 w (unboundG c z)) := by
  have hft := fun w1 hw1 => findTask_any c a0 a1 a2 z w0 w1 hw1 hc
  have hfb := fun w1 hw1 => findBind_any c a0 a1 a2 z w0 w1 hw1 hc
  have hok := fun w1 hg1 hw1 => ClusterOk_any c a0 a1 a2 w1 x hg1 (hc.below hw1)
  have hE : unboundG c z = match fstBy TV.id c.tasks z with
    | some t => if (fstBy BV.task c.binds z).isSome || !clusterOk c then none else some t
    | none => none := rfl
  obtain ⟨D0, e0, rfl, _⟩ := hc.1.form
  obtain ⟨D1, e1, rfl, _⟩ := hc.2.1.form
  obtain ⟨D2, e2, rfl, _⟩ := hc.2.2.1.form
  generalize fstBy TV.id c.tasks z = o1 at hft hE
  generalize fstBy BV.task c.binds z = o2 at hfb hE
  generalize clusterOk c = ok at hok hE
  generalize unboundG c z = r at hE ⊢
  have HE := Lib.hid hE
  have HFT := Lib.hid hft
  have HFB := Lib.hid hfb
  have HOK := Lib.hid hok
  have HG := Lib.hid hg
  have HW := Lib.hid hw
  clear hE hft hfb hok hg hc hw
  go_enter Tryz.func104, Tryz.ntmps104
  go_wp2_with fail
  have hX : Below w.heap.size w ((w.alloc (.cells #[.slice D0 c.tasks.length e0, .slice D1 c.nodes.length e1, .slice D2 c.binds.length e2] 35)).alloc (.cells #[.int .i64 0, .int .i64 0, .int .i64 0, .int .i64 0, .int .i64 0, .slice none 0 0, .slice none 0 0] 88)) := (by repeat' (first | exact Below.refl _ _ | refine Below.alloc ?_ ?_ _ | refine Below.setCell ?_ ?_ _ | refine Below.drew ?_ | (apply below_step; assumption) | (simp; done) | (simp; omega) | omega))
  refine (HFT.out _ (below_of HW.out hX)).mono ?_
  rintro e w2 ⟨ts, rfl, ht, hb2⟩
  have hC2 := below_of hX hb2
  have hz2 := hb2.size
  simp at hz2
  have BC : BlockIs w2 w.heap.size 35 #[.slice D0 c.tasks.length e0, .slice D1 c.nodes.length e1, .slice D2 c.binds.length e2] := ((BlockIs.new w _ _).alloc _).below hb2 (by simp; omega)
  have BZ : BlockIs w2 (w.heap.size + 1) 88 #[.int .i64 0, .int .i64 0, .int .i64 0, .int .i64 0, .int .i64 0, .slice none 0 0, .slice none 0 0] := (BlockIs.new' (by simp)).below hb2 (by simp)
  have g0 := BC.cell 0
  have g1 := BC.cell 1
  have g2 := BC.cell 2
  have cl := BC.lt
  simp at g0 g1 g2
  have HBC := Lib.hid BC
  have HBZ := Lib.hid BZ
  have HT := Lib.hid ht
  generalize hgt : o1.getD TV.zero = t at ht HT
  have HGT := Lib.hid hgt
  obtain ⟨v1, v2, rfl, h1, h2, l1, l2⟩ := ht
  obtain ⟨B1, d1, rfl, _⟩ := h1.form
  obtain ⟨B2, d2, rfl, _⟩ := h2.form
  clear h1 h2 l1 l2 hb2 BC BZ hgt hX
  go_wp2_with fail
  have hX2 : Below w2.heap.size w2 (w2.alloc (.cells #[.int .i64 t.id, .int .i64 t.prio, .int .i64 t.need.c, .int .i64 t.need.m, .int .i64 t.need.p, .slice B1 t.want.length d1, .slice B2 t.tols.length d2] 88)) := (by repeat' (first | exact Below.refl _ _ | refine Below.alloc ?_ ?_ _ | refine Below.setCell ?_ ?_ _ | refine Below.drew ?_ | (apply below_step; assumption) | (simp; done) | (simp; omega) | omega))
  have hCX2 := below_of hC2 hX2
  refine (HFB.out _ (below_of HW.out hCX2)).mono ?_
  rintro e w3 ⟨bs, rfl, hbR, hb3⟩
  have hD3 := below_of hX2 hb3
  have hC3 := below_of hC2 hD3
  have hz3 := hD3.size
  have BC := HBC.out.below hD3 HBC.out.lt
  have BZ := HBZ.out.below hD3 HBZ.out.lt
  have BT := (BlockIs.new w2 88 #[.int .i64 t.id, .int .i64 t.prio, .int .i64 t.need.c, .int .i64 t.need.m, .int .i64 t.need.p, .slice B1 t.want.length d1, .slice B2 t.tols.length d2]).below hb3 (by simp)
  generalize hgb : o2.getD BV.zero = b at hbR
  obtain rfl := hbR
  have k0 := BZ.cell 0; have k1 := BZ.cell 1; have k2 := BZ.cell 2; have k3 := BZ.cell 3; have k4 := BZ.cell 4; have k5 := BZ.cell 5; have k6 := BZ.cell 6
  have kf := BZ.frozen
  have kl := BZ.lt
  have g0 := BC.cell 0
  have g1 := BC.cell 1
  have g2 := BC.cell 2
  have cl := BC.lt
  simp at g0 g1 g2 k0 k1 k2 k3 k4 k5 k6
  have HBC3 := Lib.hid BC
  have HBZ3 := Lib.hid BZ
  have HBT3 := Lib.hid BT
  have HX3 := Lib.hid (show Below w3.heap.size w3 (w3.alloc (.cells #[.int .i64 b.task, .int .i64 b.node] 100)) from (by repeat' (first | exact Below.refl _ _ | refine Below.alloc ?_ ?_ _ | refine Below.setCell ?_ ?_ _ | refine Below.drew ?_ | (apply below_step; assumption) | (simp; done) | (simp; omega) | omega)))
  have hFin : BlockIs (World.alloc (((((((w3.setCell ⟨w.heap.size + 1, 0, none⟩ (.int .i64 0)).setCell ⟨w.heap.size + 1, 1, none⟩ (.int .i64 0)).setCell ⟨w.heap.size + 1, 2, none⟩ (.int .i64 0)).setCell ⟨w.heap.size + 1, 3, none⟩ (.int .i64 0)).setCell ⟨w.heap.size + 1, 4, none⟩ (.int .i64 0)).setCell ⟨w.heap.size + 1, 5, none⟩ (.slice none 0 0)).setCell ⟨w.heap.size + 1, 6, none⟩ (.slice none 0 0)) (.cells #[.int .i64 b.task, .int .i64 b.node] 100)) (w.heap.size + 1) 88 #[.int .i64 0, .int .i64 0, .int .i64 0, .int .i64 0, .int .i64 0, .slice none 0 0, .slice none 0 0] ∧ Below w.heap.size w (World.alloc (((((((w3.setCell ⟨w.heap.size + 1, 0, none⟩ (.int .i64 0)).setCell ⟨w.heap.size + 1, 1, none⟩ (.int .i64 0)).setCell ⟨w.heap.size + 1, 2, none⟩ (.int .i64 0)).setCell ⟨w.heap.size + 1, 3, none⟩ (.int .i64 0)).setCell ⟨w.heap.size + 1, 4, none⟩ (.int .i64 0)).setCell ⟨w.heap.size + 1, 5, none⟩ (.slice none 0 0)).setCell ⟨w.heap.size + 1, 6, none⟩ (.slice none 0 0)) (.cells #[.int .i64 b.task, .int .i64 b.node] 100)) :=
    ⟨(put7 _ _ _ _ _ _ _ BZ rfl).alloc _, (below7 hC3 (by omega)).alloc (by simp [World.setCell]; omega) _⟩
  have HFin := Lib.hid hFin
  clear hb3 BC BZ BT hgb hX2 hCX2 hD3 HBC HBZ hFin
  cases o1 with
  | none =>
    have HR := Lib.hid (show r = none from HE.out)
    go_wp2_with fail
    generalize (World.alloc (((((((w3.setCell ⟨w.heap.size + 1, 0, none⟩ (.int .i64 0)).setCell ⟨w.heap.size + 1, 1, none⟩ (.int .i64 0)).setCell ⟨w.heap.size + 1, 2, none⟩ (.int .i64 0)).setCell ⟨w.heap.size + 1, 3, none⟩ (.int .i64 0)).setCell ⟨w.heap.size + 1, 4, none⟩ (.int .i64 0)).setCell ⟨w.heap.size + 1, 5, none⟩ (.slice none 0 0)).setCell ⟨w.heap.size + 1, 6, none⟩ (.slice none 0 0)) (.cells #[.int .i64 b.task, .int .i64 b.node] 100)) = X at HFin ⊢
    have q := HFin.out.1
    have q0 := q.cell 0; have q1 := q.cell 1; have q2 := q.cell 2; have q3 := q.cell 3; have q4 := q.cell 4; have q5 := q.cell 5; have q6 := q.cell 6
    simp at q0 q1 q2 q3 q4 q5 q6
    exact bodyPost_ret (v := .tuple #[.agg #[.int .i64 0, .int .i64 0, .int .i64 0, .int .i64 0, .int .i64 0, .slice none 0 0, .slice none 0 0], .bool false]) (by simp [results, Tryz.results104, go_sem, q0, q1, q2, q3, q4, q5, q6]) rfl ⟨_, by rw [HR.out]; rfl, by rw [HR.out]; exact TaskR.zero _, HFin.out.2⟩
  | some t' =>
    obtain rfl : t = t' := HGT.out.symm
    cases o2 with
    | some b' =>
      have HR := Lib.hid (show r = none by rw [HE.out]; rfl)
      go_wp2_with fail
      generalize (World.alloc (((((((w3.setCell ⟨w.heap.size + 1, 0, none⟩ (.int .i64 0)).setCell ⟨w.heap.size + 1, 1, none⟩ (.int .i64 0)).setCell ⟨w.heap.size + 1, 2, none⟩ (.int .i64 0)).setCell ⟨w.heap.size + 1, 3, none⟩ (.int .i64 0)).setCell ⟨w.heap.size + 1, 4, none⟩ (.int .i64 0)).setCell ⟨w.heap.size + 1, 5, none⟩ (.slice none 0 0)).setCell ⟨w.heap.size + 1, 6, none⟩ (.slice none 0 0)) (.cells #[.int .i64 b.task, .int .i64 b.node] 100)) = X at HFin ⊢
      have q := HFin.out.1
      have q0 := q.cell 0; have q1 := q.cell 1; have q2 := q.cell 2; have q3 := q.cell 3; have q4 := q.cell 4; have q5 := q.cell 5; have q6 := q.cell 6
      simp at q0 q1 q2 q3 q4 q5 q6
      exact bodyPost_ret (v := .tuple #[.agg #[.int .i64 0, .int .i64 0, .int .i64 0, .int .i64 0, .int .i64 0, .slice none 0 0, .slice none 0 0], .bool false]) (by simp [results, Tryz.results104, go_sem, q0, q1, q2, q3, q4, q5, q6]) rfl ⟨_, by rw [HR.out]; rfl, by rw [HR.out]; exact TaskR.zero _, HFin.out.2⟩
    | none =>
      have hCX3 := below_of hC3 HX3.out
      clear HFin
      go_wp2_with fail
      refine (HOK.out _ (HG.out.below hCX3 (Nat.le_refl _)) (below_of HW.out hCX3)).mono ?_
      rintro e w4 ⟨rfl, hb4⟩
      have hD4 := below_of HX3.out hb4
      have hC4 := below_of hC3 hD4
      have BZ := HBZ3.out.below hD4 HBZ3.out.lt
      have BT := HBT3.out.below hD4 HBT3.out.lt
      have k0 := BZ.cell 0; have k1 := BZ.cell 1; have k2 := BZ.cell 2; have k3 := BZ.cell 3; have k4 := BZ.cell 4; have k5 := BZ.cell 5; have k6 := BZ.cell 6
      have kf := BZ.frozen
      have kl := BZ.lt
      have t0 := BT.cell 0; have t1 := BT.cell 1; have t2 := BT.cell 2; have t3 := BT.cell 3; have t4 := BT.cell 4; have t5 := BT.cell 5; have t6 := BT.cell 6
      have tl := BT.lt
      simp at k0 k1 k2 k3 k4 k5 k6 t0 t1 t2 t3 t4 t5 t6
      have HBZ4 := Lib.hid BZ
      clear hb4 hD4 BZ BT g0 g1 g2
      cases ok
      · have HR := Lib.hid (show r = none by rw [HE.out]; rfl)
        go_wp2_with fail
        have q : BlockIs (((((((w4.setCell ⟨w.heap.size + 1, 0, none⟩ (.int .i64 0)).setCell ⟨w.heap.size + 1, 1, none⟩ (.int .i64 0)).setCell ⟨w.heap.size + 1, 2, none⟩ (.int .i64 0)).setCell ⟨w.heap.size + 1, 3, none⟩ (.int .i64 0)).setCell ⟨w.heap.size + 1, 4, none⟩ (.int .i64 0)).setCell ⟨w.heap.size + 1, 5, none⟩ (.slice none 0 0)).setCell ⟨w.heap.size + 1, 6, none⟩ (.slice none 0 0)) (w.heap.size + 1) 88 #[.int .i64 0, .int .i64 0, .int .i64 0, .int .i64 0, .int .i64 0, .slice none 0 0, .slice none 0 0] := put7 _ _ _ _ _ _ _ HBZ4.out rfl
        have hX' : Below w.heap.size w (((((((w4.setCell ⟨w.heap.size + 1, 0, none⟩ (.int .i64 0)).setCell ⟨w.heap.size + 1, 1, none⟩ (.int .i64 0)).setCell ⟨w.heap.size + 1, 2, none⟩ (.int .i64 0)).setCell ⟨w.heap.size + 1, 3, none⟩ (.int .i64 0)).setCell ⟨w.heap.size + 1, 4, none⟩ (.int .i64 0)).setCell ⟨w.heap.size + 1, 5, none⟩ (.slice none 0 0)).setCell ⟨w.heap.size + 1, 6, none⟩ (.slice none 0 0)) := below7 hC4 (by omega)
        generalize (((((((w4.setCell ⟨w.heap.size + 1, 0, none⟩ (.int .i64 0)).setCell ⟨w.heap.size + 1, 1, none⟩ (.int .i64 0)).setCell ⟨w.heap.size + 1, 2, none⟩ (.int .i64 0)).setCell ⟨w.heap.size + 1, 3, none⟩ (.int .i64 0)).setCell ⟨w.heap.size + 1, 4, none⟩ (.int .i64 0)).setCell ⟨w.heap.size + 1, 5, none⟩ (.slice none 0 0)).setCell ⟨w.heap.size + 1, 6, none⟩ (.slice none 0 0)) = X at q hX' ⊢
        have q0 := q.cell 0; have q1 := q.cell 1; have q2 := q.cell 2; have q3 := q.cell 3; have q4 := q.cell 4; have q5 := q.cell 5; have q6 := q.cell 6
        simp at q0 q1 q2 q3 q4 q5 q6
        exact bodyPost_ret (v := .tuple #[.agg #[.int .i64 0, .int .i64 0, .int .i64 0, .int .i64 0, .int .i64 0, .slice none 0 0, .slice none 0 0], .bool false]) (by simp [results, Tryz.results104, go_sem, q0, q1, q2, q3, q4, q5, q6]) rfl ⟨_, by rw [HR.out]; rfl, by rw [HR.out]; exact TaskR.zero _, hX'⟩
      · have HR := Lib.hid (show r = some t by rw [HE.out]; rfl)
        go_wp2_with fail
        have q : BlockIs (((((((w4.setCell ⟨w.heap.size + 1, 0, none⟩ (.int .i64 t.id)).setCell ⟨w.heap.size + 1, 1, none⟩ (.int .i64 t.prio)).setCell ⟨w.heap.size + 1, 2, none⟩ (.int .i64 t.need.c)).setCell ⟨w.heap.size + 1, 3, none⟩ (.int .i64 t.need.m)).setCell ⟨w.heap.size + 1, 4, none⟩ (.int .i64 t.need.p)).setCell ⟨w.heap.size + 1, 5, none⟩ (.slice B1 t.want.length d1)).setCell ⟨w.heap.size + 1, 6, none⟩ (.slice B2 t.tols.length d2)) (w.heap.size + 1) 88 #[.int .i64 t.id, .int .i64 t.prio, .int .i64 t.need.c, .int .i64 t.need.m, .int .i64 t.need.p, .slice B1 t.want.length d1, .slice B2 t.tols.length d2] := put7 _ _ _ _ _ _ _ HBZ4.out rfl
        have hX' : Below w.heap.size w (((((((w4.setCell ⟨w.heap.size + 1, 0, none⟩ (.int .i64 t.id)).setCell ⟨w.heap.size + 1, 1, none⟩ (.int .i64 t.prio)).setCell ⟨w.heap.size + 1, 2, none⟩ (.int .i64 t.need.c)).setCell ⟨w.heap.size + 1, 3, none⟩ (.int .i64 t.need.m)).setCell ⟨w.heap.size + 1, 4, none⟩ (.int .i64 t.need.p)).setCell ⟨w.heap.size + 1, 5, none⟩ (.slice B1 t.want.length d1)).setCell ⟨w.heap.size + 1, 6, none⟩ (.slice B2 t.tols.length d2)) := below7 hC4 (by omega)
        generalize (((((((w4.setCell ⟨w.heap.size + 1, 0, none⟩ (.int .i64 t.id)).setCell ⟨w.heap.size + 1, 1, none⟩ (.int .i64 t.prio)).setCell ⟨w.heap.size + 1, 2, none⟩ (.int .i64 t.need.c)).setCell ⟨w.heap.size + 1, 3, none⟩ (.int .i64 t.need.m)).setCell ⟨w.heap.size + 1, 4, none⟩ (.int .i64 t.need.p)).setCell ⟨w.heap.size + 1, 5, none⟩ (.slice B1 t.want.length d1)).setCell ⟨w.heap.size + 1, 6, none⟩ (.slice B2 t.tols.length d2)) = X at q hX' ⊢
        have q0 := q.cell 0; have q1 := q.cell 1; have q2 := q.cell 2; have q3 := q.cell 3; have q4 := q.cell 4; have q5 := q.cell 5; have q6 := q.cell 6
        simp at q0 q1 q2 q3 q4 q5 q6
        exact bodyPost_ret (v := .tuple #[.agg #[.int .i64 t.id, .int .i64 t.prio, .int .i64 t.need.c, .int .i64 t.need.m, .int .i64 t.need.p, .slice B1 t.want.length d1, .slice B2 t.tols.length d2], .bool true]) (by simp [results, Tryz.results104, go_sem, q0, q1, q2, q3, q4, q5, q6]) rfl ⟨_, by rw [HR.out]; rfl, by rw [HR.out]; exact HT.out, hX'⟩
set_option maxHeartbeats 3200000 in
theorem Pick_any (c : CV) (a0 a1 a2 : Value) (z : Int) (w : World) (x y : Addr) (hg : ErrAt x w) (hy : CapAt y w) (hc : CluR w c a0 a1 a2) :
    Calls Tryz.prog 45 #[.agg #[a0, a1, a2], .int .i64 z] w fun e w' => e = .returned (.int .i64 (pickG c z)) ∧ Below w.heap.size w w' := by
  have hfu := fun w1 hw1 hg1 => findUnbound_any c a0 a1 a2 z w w1 hw1 x hg1 hc
  have hpf := fun t ts w1 hw1 hg1 hy1 ht => pickFor_any c a0 a1 a2 t ts w w1 hw1 x y hg1 hy1 hc ht
  have hE : pickG c z = match unboundG c z with
    | some t => pickV c t
    | none => 0 := rfl
  obtain ⟨D0, e0, rfl, _⟩ := hc.1.form
  obtain ⟨D1, e1, rfl, _⟩ := hc.2.1.form
  obtain ⟨D2, e2, rfl, _⟩ := hc.2.2.1.form
  generalize unboundG c z = o at hfu hE
  generalize pickG c z = r at hE ⊢
  have HE := Lib.hid hE
  have HFU := Lib.hid hfu
  have HPF := Lib.hid hpf
  have HG := Lib.hid hg
  have HY := Lib.hid hy
  clear hE hfu hpf hg hy hc
  go_enter Tryz.func45, Tryz.ntmps45
  go_wp2_with fail
  have hX : Below w.heap.size w (w.alloc (.cells #[.slice D0 c.tasks.length e0, .slice D1 c.nodes.length e1, .slice D2 c.binds.length e2] 35)) := (by repeat' (first | exact Below.refl _ _ | refine Below.alloc ?_ ?_ _ | refine Below.setCell ?_ ?_ _ | refine Below.drew ?_ | (apply below_step; assumption) | (simp; done) | (simp; omega) | omega))
  refine (HFU.out _ hX (HG.out.below hX (Nat.le_refl _))).mono ?_
  rintro e w2 ⟨ts, rfl, ht, hb2⟩
  have hC2 := below_of hX hb2
  have BC := (BlockIs.new w 35 #[.slice D0 c.tasks.length e0, .slice D1 c.nodes.length e1, .slice D2 c.binds.length e2]).below hb2 (by simp)
  have g0 := BC.cell 0
  have g1 := BC.cell 1
  have g2 := BC.cell 2
  have cl := BC.lt
  simp at g0 g1 g2
  have HT := Lib.hid ht
  generalize hgt : o.getD TV.zero = t at ht HT
  have HGT := Lib.hid hgt
  obtain ⟨v1, v2, rfl, h1, h2, l1, l2⟩ := ht
  obtain ⟨B1, d1, rfl, _⟩ := h1.form
  obtain ⟨B2, d2, rfl, _⟩ := h2.form
  clear h1 h2 l1 l2 hb2 BC hgt hX
  have hX2 : Below w2.heap.size w2 (w2.alloc (.cells #[.int .i64 t.id, .int .i64 t.prio, .int .i64 t.need.c, .int .i64 t.need.m, .int .i64 t.need.p, .slice B1 t.want.length d1, .slice B2 t.tols.length d2] 88)) := (by repeat' (first | exact Below.refl _ _ | refine Below.alloc ?_ ?_ _ | refine Below.setCell ?_ ?_ _ | refine Below.drew ?_ | (apply below_step; assumption) | (simp; done) | (simp; omega) | omega))
  have hCX2 := below_of hC2 hX2
  cases o with
  | none =>
    go_wp2_with fail
    go_ret
    exact ⟨by rw [HE.out] <;> rfl, hCX2⟩
  | some t' =>
    obtain rfl : t = t' := HGT.out.symm
    have HR := Lib.hid (show r = pickV c t from HE.out)
    go_wp2_with fail
    refine (HPF.out t _ _ hCX2 (HG.out.below hCX2 (Nat.le_refl _)) (HY.out.below hCX2 (Nat.le_refl _)) HT.out).mono ?_
    rintro e w3 ⟨rfl, hb3⟩
    have hC3 := below_of hCX2 hb3
    go_wp2_with fail
    go_ret
    exact ⟨by rw [HR.out]; rfl, hC3⟩
end Go.Proofs.YtmkpajjnjgnmkaaGreatDoor

namespace Go.Proofs.YtmkpajjnjgnmkaaGreatDoor
theorem addOk_parts {a b : RV} (h : resAddOk a b = true) : a.ok = true ∧ b.ok = true ∧ (a.add b).ok = true := by
  unfold resAddOk at h; simp at h; exact ⟨h.1.1, h.1.2, h.2⟩
theorem addOk_val {a b : RV} (h : resAddOk a b = true) : resAdd a b = a.add b := by unfold resAdd; rw [if_pos h]
theorem add_sub_back (a b : RV) : (a.add b).sub b = a := by
  cases a; unfold RV.add RV.sub; simp only [RV.mk.injEq]; omega
theorem add_sub_left (a b : RV) : (a.add b).sub a = b := by
  cases b; unfold RV.add RV.sub; simp only [RV.mk.injEq]; omega
theorem zero_add (a : RV) : RV.zero.add a = a := by cases a; unfold RV.zero RV.add; simp
theorem zero_ok : RV.zero.ok = true := by decide
theorem back_ok {a b : RV} (h : resAddOk a b = true) : resSubOk (resAdd a b) b = true ∧ resSub (resAdd a b) b = a := by
  obtain ⟨ha, hb, hs⟩ := addOk_parts h
  rw [addOk_val h, (resSub_in hs hb).1, (resSub_in hs hb).2, add_sub_back]
  exact ⟨ha, RV.kept_yes ha⟩
theorem fits_ok {a b : RV} (h : resAddOk a b = true) : resSubOk (resAdd a b) a = true := by
  obtain ⟨ha, hb, hs⟩ := addOk_parts h
  rw [addOk_val h, (resSub_in hs ha).2, add_sub_left]
  exact hb
theorem sum_two {a b : RV} (h : resAddOk a b = true) : sumGo RV.zero [a, b] = (resAdd a b, true) := by
  obtain ⟨ha, hb, hs⟩ := addOk_parts h
  have h1 : resAddOk RV.zero a = true := by rw [(resAdd_in zero_ok ha).2, zero_add]; exact ha
  have h2 : resAdd RV.zero a = a := by rw [(resAdd_in zero_ok ha).1, zero_add]; exact RV.kept_yes ha
  rw [sumGo_cons_yes h1, h2, sumGo_cons_yes h]; rfl
end Go.Proofs.YtmkpajjnjgnmkaaGreatDoor

namespace Go.Proofs.YtmkpajjnjgnmkaaGreatDoor
theorem shr_self (u : Int) : shr u u = if 0 < u then 1000 else 0 := by
  unfold shr
  by_cases h : 0 < u
  · rw [if_pos h, if_pos h]; exact Int.mul_ediv_cancel _ (by omega)
  · rw [if_neg h, if_neg h, if_neg h]
theorem shr_mono {u v c : Int} (h : u ≤ v) : shr u c ≤ shr v c := by
  unfold shr
  by_cases h1 : 0 < c
  · rw [if_pos h1, if_pos h1]; exact Int.ediv_le_ediv h1 (by omega)
  · rw [if_neg h1, if_neg h1]; split <;> split <;> omega
theorem shr_fits {u c : Int} (h : u ≤ c) : shr u c ≤ 1000 := by
  unfold shr
  by_cases h1 : 0 < c
  · rw [if_pos h1]
    have : 1000 * u / c ≤ 1000 * c / c := Int.ediv_le_ediv h1 (by omega)
    rwa [Int.mul_ediv_cancel _ (by omega)] at this
  · rw [if_neg h1, if_neg (by omega)]; decide
theorem shr_ge {u c : Int} (hc : 0 ≤ c) (h : c < u) : 1000 ≤ shr u c := by
  unfold shr
  by_cases h1 : 0 < c
  · rw [if_pos h1]
    have : 1000 * c / c ≤ 1000 * u / c := Int.ediv_le_ediv h1 (by omega)
    rwa [Int.mul_ediv_cancel _ (by omega)] at this
  · rw [if_neg h1, if_pos (by omega)]; decide
theorem resShare_max {u c : RV} (hu : u.ok = true) (hc : c.ok = true) : resShare u c = max (shr u.c c.c) (max (shr u.m c.m) (shr u.p c.p)) := by
  rw [resShare_in hu hc, shareTo_three hu]
theorem share_full {c : RV} (hc : c.ok = true) : resShare c c = 1000 ∨ c = RV.zero := by
  obtain ⟨a1, a2, a3, a4, a5, a6⟩ := RV.ok_iff.1 hc
  rw [resShare_max hc hc, shr_self, shr_self, shr_self]
  by_cases h1 : 0 < c.c
  · left; rw [if_pos h1]; split <;> split <;> omega
  · by_cases h2 : 0 < c.m
    · left; rw [if_neg h1, if_pos h2]; split <;> omega
    · by_cases h3 : 0 < c.p
      · left; rw [if_neg h1, if_neg h2, if_pos h3]; omega
      · right
        obtain ⟨x, y, z⟩ := c
        unfold RV.zero
        simp only [RV.mk.injEq]
        simp only at a1 a3 a5 h1 h2 h3
        omega
theorem share_mono {a b c : RV} (h : resAddOk a b = true) (hc : c.ok = true) : resShare a c ≤ resShare (resAdd a b) c := by
  obtain ⟨ha, hb, hs⟩ := addOk_parts h
  rw [addOk_val h, resShare_max ha hc, resShare_max hs hc]
  obtain ⟨b1, b2, b3, b4, b5, b6⟩ := RV.ok_iff.1 hb
  have h1 : shr a.c c.c ≤ shr (a.add b).c c.c := shr_mono (by unfold RV.add; dsimp only; omega)
  have h2 : shr a.m c.m ≤ shr (a.add b).m c.m := shr_mono (by unfold RV.add; dsimp only; omega)
  have h3 : shr a.p c.p ≤ shr (a.add b).p c.p := shr_mono (by unfold RV.add; dsimp only; omega)
  omega
theorem share_le {a c : RV} (ha : a.ok = true) (hc : c.ok = true) (h : resSubOk c a = true) : resShare a c ≤ 1000 := by
  obtain ⟨h1, h2, h3⟩ := (resSubOk_in ha hc).1 h
  rw [resShare_max ha hc]
  have k1 := shr_fits h1
  have k2 := shr_fits h2
  have k3 := shr_fits h3
  omega
theorem share_ge {a c : RV} (ha : a.ok = true) (hc : c.ok = true) (h : resSubOk c a = false) : 1000 ≤ resShare a c := by
  obtain ⟨c1, c2, c3, c4, c5, c6⟩ := RV.ok_iff.1 hc
  have hn : ¬ (a.c ≤ c.c ∧ a.m ≤ c.m ∧ a.p ≤ c.p) := fun hh => by rw [(resSubOk_in ha hc).2 hh] at h; cases h
  rw [resShare_max ha hc]
  by_cases h1 : a.c ≤ c.c
  · by_cases h2 : a.m ≤ c.m
    · have := shr_ge c5 (show c.p < a.p by omega); omega
    · have := shr_ge c3 (show c.m < a.m by omega); omega
  · have := shr_ge c1 (show c.c < a.c by omega); omega
theorem share_neg {a c : RV} (h : ¬ (a.ok = true ∧ c.ok = true)) : resShare a c = -1 := by
  cases ha : a.ok
  · exact resShare_out (.inl ha)
  · cases hc : c.ok
    · exact resShare_out (.inr hc)
    · exact absurd ⟨ha, hc⟩ h
theorem share_pos {a c : RV} (ha : a.ok = true) (hc : c.ok = true) : 0 ≤ resShare a c := by
  obtain ⟨a1, a2, a3, a4, a5, a6⟩ := RV.ok_iff.1 ha
  rw [resShare_max ha hc]
  have := (shr_bounds (c := c.c) a1 a2).1
  omega
end Go.Proofs.YtmkpajjnjgnmkaaGreatDoor

namespace Go.Proofs.YtmkpajjnjgnmkaaGreatDoor
open Go.RowKit

def pickStep (sc : NV → Int) (s : Int × Int) (n : NV) : Int × Int := if s.1 < sc n then (sc n, n.id) else s
def pickM (c : CV) (z : Int) : Int := if nodeOfB c z = 0 then (c.nodes.foldl (pickStep (fun n => scoreM c n.id z)) (-1, 0)).2 else 0
theorem resShare_ge (u c : RV) : -1 ≤ resShare u c := by
  by_cases h : u.ok = true ∧ c.ok = true
  · have := share_pos h.1 h.2; omega
  · rw [share_neg h]; omega
theorem scoreV_ge (c : CV) (n : NV) (t : TV) : -1 ≤ scoreV c n t := by
  unfold scoreV; split
  · exact resShare_ge _ _
  · omega
theorem nodesFrom_find {p : Int} {l : List NV} (h : nodesFrom p l = true) : ∀ n ∈ l, p < n.id ∧ fstBy NV.id l n.id = some n := by
  induction l generalizing p with
  | nil => intro n hn; cases hn
  | cons x r ih =>
    simp only [nodesFrom, Bool.and_eq_true, decide_eq_true_eq] at h
    intro n hn
    rcases List.mem_cons.1 hn with rfl | hn
    · exact ⟨h.1.2, fstBy_hit rfl⟩
    · obtain ⟨a, b⟩ := ih h.2 n hn
      exact ⟨by omega, by rw [fstBy_miss (by omega)]; exact b⟩
theorem clusterOk_find {c : CV} (h : clusterOk c = true) {n : NV} (hn : n ∈ c.nodes) : fstBy NV.id c.nodes n.id = some n := by
  simp only [clusterOk, nodesOk, Bool.and_eq_true] at h
  exact (nodesFrom_find h.1.1.2.2 n hn).2
theorem bindsFrom_node {c : CV} {p : Int} {l : List BV} (h : bindsFrom c p l = true) : ∀ b ∈ l, ∃ n, fstBy NV.id c.nodes b.node = some n := by
  induction l generalizing p with
  | nil => intro b hb; cases hb
  | cons x r ih =>
    simp only [bindsFrom, Bool.and_eq_true] at h
    intro b hb
    rcases List.mem_cons.1 hb with rfl | hb
    · have hk := h.1.2
      unfold bindOk at hk
      cases ht : fstBy TV.id c.tasks b.task with
      | none => rw [ht] at hk; cases hk
      | some t => cases hn : fstBy NV.id c.nodes b.node with
        | none => rw [ht, hn] at hk; cases hk
        | some n => exact ⟨n, rfl⟩
    · exact ih h.2 b hb
theorem nodeOk_at {c : CV} (h : clusterOk c = true) {z : Int} {n : NV} (hn : fstBy NV.id c.nodes z = some n) : n.ok = true := by
  simp only [clusterOk, nodesOk, Bool.and_eq_true] at h
  exact nodesFrom_ok h.1.1.2.2 n (fstBy_mem hn)
theorem nodeOfB_zero {c : CV} (h : clusterOk c = true) (z : Int) : nodeOfB c z = 0 ↔ (fstBy BV.task c.binds z).isSome = false := by
  unfold nodeOfB
  cases hb : fstBy BV.task c.binds z with
  | none => simp [BV.zero]
  | some b =>
    obtain ⟨n, hn⟩ := bindsFrom_node (clusterOk_binds h) b (fstBy_mem hb)
    have h1 := NV.ok_id (nodeOk_at h hn)
    have h2 := fstBy_key hn
    simp only [Option.getD_some, Option.isSome_some]
    constructor
    · intro e; omega
    · intro e; cases e
theorem pick_fold (c : CV) (t : TV) (sc : NV → Int) : ∀ (l : List NV) (s : Option (NV × Int)) (b a : Int), (∀ n ∈ l, sc n = if takesV n t then scoreV c n t else -1) → -1 ≤ b →
    (match s with | none => b = -1 ∧ a = 0 | some p => b = p.2 ∧ a = p.1.id) →
    (l.foldl (pickStep sc) (b, a)).2 = match (l.filter (fun n => takesV n t)).foldl (bestG fun n => scoreV c n t) s with | some p => p.1.id | none => 0 := by
  intro l
  induction l with
  | nil =>
    intro s b a _ _ hs
    cases s with
    | none => exact hs.2
    | some p => exact hs.2
  | cons n r ih =>
    intro s b a hsc hb hs
    have hn := hsc n (List.mem_cons_self ..)
    have hr : ∀ m ∈ r, sc m = if takesV m t then scoreV c m t else -1 := fun m hm => hsc m (List.mem_cons_of_mem _ hm)
    have hge := scoreV_ge c n t
    rw [List.foldl_cons]
    cases htk : takesV n t with
    | false =>
      rw [htk] at hn
      have hstep : pickStep sc (b, a) n = (b, a) := by unfold pickStep; rw [if_neg (by rw [hn]; simp; omega)]
      rw [hstep, List.filter_cons_of_neg (by simp [htk])]
      exact ih s b a hr hb hs
    | true =>
      rw [htk] at hn
      simp only [if_true] at hn
      rw [List.filter_cons_of_pos (by simp [htk]), List.foldl_cons]
      by_cases h1 : scoreV c n t = -1
      · have hstep : pickStep sc (b, a) n = (b, a) := by unfold pickStep; rw [if_neg (by rw [hn, h1]; simp; omega)]
        have hg : bestG (fun n => scoreV c n t) s n = s := by unfold bestG; rw [if_pos h1]
        rw [hstep, hg]
        exact ih s b a hr hb hs
      · cases s with
        | none =>
          obtain ⟨rfl, rfl⟩ := hs
          have hstep : pickStep sc (-1, 0) n = (scoreV c n t, n.id) := by unfold pickStep; rw [hn, if_pos (by dsimp only; omega)]
          have hg : bestG (fun n => scoreV c n t) none n = some (n, scoreV c n t) := by unfold bestG; rw [if_neg h1]
          rw [hstep, hg]
          exact ih _ _ _ hr hge ⟨rfl, rfl⟩
        | some p =>
          obtain ⟨m, g⟩ := p
          obtain ⟨e1, e2⟩ := hs
          dsimp only at e1 e2
          subst e1 e2
          by_cases h2 : b < scoreV c n t
          · have hstep : pickStep sc (b, m.id) n = (scoreV c n t, n.id) := by unfold pickStep; rw [hn, if_pos h2]
            have hg : bestG (fun n => scoreV c n t) (some (m, b)) n = some (n, scoreV c n t) := by unfold bestG; rw [if_neg h1]; simp only [if_pos h2]
            rw [hstep, hg]
            exact ih _ _ _ hr hge ⟨rfl, rfl⟩
          · have hstep : pickStep sc (b, m.id) n = (b, m.id) := by unfold pickStep; rw [hn, if_neg h2]
            have hg : bestG (fun n => scoreV c n t) (some (m, b)) n = some (m, b) := by unfold bestG; rw [if_neg h1]; simp only [if_neg h2]
            rw [hstep, hg]
            exact ih _ _ _ hr hb ⟨rfl, rfl⟩
theorem fold_idle {α β : Type} {f : β → α → β} {s : β} {l : List α} (h : ∀ x ∈ l, f s x = s) : l.foldl f s = s := by
  induction l with
  | nil => rfl
  | cons x r ih => rw [List.foldl_cons, h x (List.mem_cons_self ..)]; exact ih (fun y hy => h y (List.mem_cons_of_mem _ hy))
theorem pickM_eq {c : CV} (h : clusterOk c = true) (z : Int) : pickM c z = pickG c z := by
  unfold pickM pickG unboundG
  cases ht : fstBy TV.id c.tasks z with
  | none =>
    have : c.nodes.foldl (pickStep (fun n => scoreM c n.id z)) (-1, 0) = (-1, 0) := fold_idle (fun n _ => by
      have : scoreM c n.id z = -1 := by unfold scoreM; rw [ht]; cases fstBy NV.id c.nodes n.id <;> rfl
      show (if (-1 : Int) < scoreM c n.id z then _ else _) = _
      rw [this]; rfl)
    rw [this]; simp
  | some t =>
    by_cases hb : (fstBy BV.task c.binds z).isSome = false
    · rw [if_pos ((nodeOfB_zero h z).2 hb)]
      simp only [hb, h, Bool.not_true, Bool.or_self, Bool.false_eq_true, if_false]
      rw [pick_fold c t (fun n => scoreM c n.id z) c.nodes none (-1) 0 (fun n hn => by
        rw [scoreM_eq h]
        unfold scoreG
        rw [clusterOk_find h hn, ht]
        simp only [h, Bool.true_and]) (by omega) ⟨rfl, rfl⟩]
      rfl
    · have hb' : (fstBy BV.task c.binds z).isSome = true := by revert hb; cases (fstBy BV.task c.binds z).isSome <;> simp
      rw [if_neg (fun e => hb ((nodeOfB_zero h z).1 e))]
      simp [hb']
set_option maxHeartbeats 6400000 in
set_option maxRecDepth 20000 in
theorem l04Pick_any (c : CV) (a0 a1 a2 : Value) (z : Int) (w0 w : World) (hw : Below w0.heap.size w0 w) (hc : CluR w0 c a0 a1 a2) (hok : clusterOk c = true) :
    Calls Tryz.prog 103 #[.agg #[a0, a1, a2], .int .i64 z] w fun e w' => e = .returned (.int .i64 (pickM c z)) ∧ Below w.heap.size w w' := by
  have hof := fun w1 hw1 => sOf_any c a0 a1 a2 z w1 (hc.below hw1)
  have hsc := fun nz w1 hw1 => l04Score_any c a0 a1 a2 nz z w1 (hc.below hw1) hok
  have hE : pickM c z = if nodeOfB c z = 0 then (c.nodes.foldl (pickStep (fun n => scoreM c n.id z)) (-1, 0)).2 else 0 := rfl
  obtain ⟨D0, D1, D2, e0, e1, e2, rfl, rfl, rfl, hF⟩ := hc.full
  generalize nodeOfB c z = q at hof hE
  generalize pickM c z = r at hE ⊢
  have l1 := hF.l1
  have HF := Lib.hid hF
  have HOF := Lib.hid hof
  have HSC := Lib.hid hsc
  have HE := Lib.hid hE
  have HW := Lib.hid hw
  clear hof hsc hE hF hc hok hw
  go_enter Tryz.func103, Tryz.ntmps103
  go_wp2_with fail
  have hX : Below w.heap.size w (w.alloc (.cells #[.slice D0 c.tasks.length e0, .slice D1 c.nodes.length e1, .slice D2 c.binds.length e2] 35)) := (by repeat' (first | exact Below.refl _ _ | refine Below.alloc ?_ ?_ _ | refine Below.setCell ?_ ?_ _ | refine Below.drew ?_ | (apply below_step; assumption) | (simp; done) | (simp; omega) | omega))
  have HBC := Lib.hid (BlockIs.new w 35 #[.slice D0 c.tasks.length e0, .slice D1 c.nodes.length e1, .slice D2 c.binds.length e2])
  generalize w.alloc (.cells #[.slice D0 c.tasks.length e0, .slice D1 c.nodes.length e1, .slice D2 c.binds.length e2] 35) = X at hX HBC ⊢
  have cl := HBC.out.lt
  by_cases hq : q = 0
  · have hq0 : (q == 0) = true := by simp [hq]
    have HR := Lib.hid (show r = (c.nodes.foldl (pickStep (fun n => scoreM c n.id z)) (-1, 0)).2 by rw [HE.out, if_pos hq])
    clear HE hq
    go_loopw [5, 6, 7] (fun s5 s6 s7 wr => ∃ (k : Nat) (bb aa : Int), k ≤ c.nodes.length ∧ s7 = .int .i64 k ∧ s5 = .int .i64 bb ∧ s6 = .int .i64 aa ∧ c.nodes.foldl (pickStep (fun n => scoreM c n.id z)) (-1, 0) = (c.nodes.drop k).foldl (pickStep (fun n => scoreM c n.id z)) (bb, aa) ∧ Below X.heap.size X wr) (fun _ _ s7 _ => (c.nodes.length - intOf s7).toNat)
    case atStart => exact ⟨0, -1, 0, by omega, rfl, rfl, rfl, by simp, Below.refl _ _⟩
    case round =>
      obtain ⟨k, bb, aa, hk, rfl, rfl, rfl, hidx, hB⟩ := hrel
      have HI := Lib.hid hidx
      have hCB := below_of hX hB
      have BC := HBC.out.below hB HBC.out.lt
      have g0 := BC.cell 0
      have g1 := BC.cell 1
      have g2 := BC.cell 2
      simp at g0 g1 g2
      have cl := BC.lt
      have HBCr := Lib.hid BC
      clear hidx BC
      by_cases hlt : k < c.nodes.length
      · obtain ⟨b, off, rfl, hbw, hat⟩ := HF.out.hn (by omega)
        obtain ⟨n, hn⟩ : ∃ n, c.nodes[k]? = some n := ⟨_, List.getElem?_eq_getElem hlt⟩
        obtain ⟨cs, hR, hC⟩ := (hat.below NodeR.kept (below_of HW.out hCB) hbw) k n hn
        have HD := Lib.hid (drop_at hn)
        obtain ⟨u1, u2, rfl, -, -, -, -⟩ := hR
        obtain ⟨q0, -, -, -, -, -, -, -⟩ := node_cells hC
        have hji : (k : Int) < (c.nodes.length : Int) := by omega
        have hj0 : (0 : Int) ≤ (k : Int) := by omega
        have HQ0 := Lib.hid q0
        clear hat hC hn q0
        go_wp2_with fail
        refine (HOF.out _ (below_of HW.out hCB)).mono ?_
        rintro e w2 ⟨rfl, hb2⟩
        have hC2 := below_of hCB hb2
        have hD2 := below_of hB hb2
        have BC2 := HBCr.out.below hb2 HBCr.out.lt
        have cl2 := BC2.lt
        have q0 := cellK hb2 HQ0.out
        have HK := Lib.hid (show ∀ w', Below w2.heap.size w2 w' → (fun w' => Below w2.heap.size w2 w' ∧ (∀ o, w'.cell? ⟨w.heap.size, o, none⟩ = (#[.slice D0 c.tasks.length e0, .slice (some ⟨b, off, none⟩) c.nodes.length e1, .slice D2 c.binds.length e2] : Array Value)[o]?) ∧ w'.cell? ⟨b, off + k * 8, none⟩ = some (.int .i64 n.id)) w' from
          fun w' hb => ⟨hb, fun o => (hb.cell (p := ⟨_, _, none⟩) cl2).trans (BC2.cell o), cellK hb q0⟩)
        have hss := fun w1 hw1 => HSC.out n.id w1 hw1
        have hst : pickStep (fun n => scoreM c n.id z) (bb, aa) n = if bb < scoreM c n.id z then (scoreM c n.id z, n.id) else (bb, aa) := rfl
        generalize scoreM c n.id z = sc at hss hst
        have HSS := Lib.hid hss
        have HST := Lib.hid hst
        clear hss hst BC2 g0 g1 g2 q0 cl
        go_wp2_with fail
        refine wp_region_held_drew (S := (fun w' => Below w2.heap.size w2 w' ∧ (∀ o, w'.cell? ⟨w.heap.size, o, none⟩ = (#[.slice D0 c.tasks.length e0, .slice (some ⟨b, off, none⟩) c.nodes.length e1, .slice D2 c.binds.length e2] : Array Value)[o]?) ∧ w'.cell? ⟨b, off + k * 8, none⟩ = some (.int .i64 n.id))) (by kernel_rfl) (by (try dsimp only); exact HK.out _ (by repeat' (first | exact Below.refl _ _ | refine Below.alloc ?_ ?_ _ | refine Below.setCell ?_ ?_ _ | refine Below.drew ?_ | (apply below_step; assumption) | (simp; done) | (simp; omega) | omega))) (fun hHeld => ?_)
        refine hT 0 ?_; simp only [Act.put, rhA, rhS, rhT]
        refine hT 1 ?_; simp only [Act.put, rhA, rhS, rhT]
        refine hT 2 ?_; simp only [Act.put, rhA, rhS, rhT]
        refine hT 3 ?_; simp only [Act.put, rhA, rhS, rhT]
        refine hT 4 ?_; simp only [Act.put, rhA, rhS, rhT]
        refine hT 5 ?_; simp only [Act.put, rhA, rhS, rhT]
        refine hT 6 ?_; simp only [Act.put, rhA, rhS, rhT]
        refine hT 7 ?_; simp only [Act.put, rhA, rhS, rhT]
        refine hCall (i := 8) (o := ?a10) ?b10 (by kernel_rfl) ?c10 (fun K hK => ?d10)
        case b10 => simp only [rhN, rhM]; try rfl
        case c10 => rfl
        go_simp
        refine (HSS.out _ (below_of HW.out (below_of hC2 (by repeat' (first | exact Below.refl _ _ | refine Below.alloc ?_ ?_ _ | refine Below.setCell ?_ ?_ _ | refine Below.drew ?_ | (apply below_step; assumption) | (simp; done) | (simp; omega) | omega))))).mono ?_
        rintro e w3 ⟨rfl, hb3⟩
        have hz3 := hb3.size
        (try simp at hz3)
        go_wp2_with fail
        refine hK.out _ _ (by (try dsimp only); exact HK.out _ (by repeat' (first | exact Below.refl _ _ | refine Below.alloc ?_ ?_ _ | refine Below.setCell ?_ ?_ _ | refine Below.drew ?_ | (apply below_step; assumption) | (simp; done) | (simp; omega) | omega))) (fun hHeld => ?_)
        clear hK K
        try simp only [Act.put, rhA, rhS, rhT]
        refine hT 9 ?_; simp only [Act.put, rhA, rhS, rhT]
        refine wpAnyH_done (by kernel_rfl) ?_ _
        have hD3 : Below w2.heap.size w2 w3 := (by repeat' (first | exact Below.refl _ _ | refine Below.alloc ?_ ?_ _ | refine Below.setCell ?_ ?_ _ | refine Below.drew ?_ | (apply below_step; assumption) | (simp; done) | (simp; omega) | omega))
        obtain ⟨-, hg3, q3⟩ := HK.out _ hD3
        have g1 := hg3 1
        simp at g1
        have hBr := below_of hD2 hD3
        clear HK hHeld hb3 hz3
        by_cases hs : bb < sc
        · have hd : decide (sc > bb) = true := by simpa using hs
          have HS := Lib.hid hs
          clear hs
          go_wp2_with fail
          go_roundw
          case rel => exact ⟨k + 1, sc, n.id, by omega, by go_num, rfl, rfl, by rw [HI.out, HD.out, List.foldl_cons, HST.out, if_pos HS.out], hBr⟩
          case measure => simp [intOf]; omega
        · have hd : decide (sc > bb) = false := by simpa using hs
          have HS := Lib.hid hs
          clear hs
          go_wp2_with fail
          go_roundw
          case rel => exact ⟨k + 1, bb, aa, by omega, by go_num, rfl, rfl, by rw [HI.out, HD.out, List.foldl_cons, HST.out, if_neg HS.out], hBr⟩
          case measure => simp [intOf]; omega
      · have hkl : k = c.nodes.length := by omega
        have HN := Lib.hid (show r = aa by rw [HR.out, HI.out, hkl, List.drop_length]; rfl)
        clear hkl
        go_wp2_with fail
        go_ret
        exact ⟨by rw [HN.out]; rfl, hCB⟩
  · have hq0 : (q == 0) = false := by simp [hq]
    have HR := Lib.hid (show r = 0 by rw [HE.out, if_neg hq])
    clear HE hq
    go_loopw [6, 7] (fun s6 s7 wr => s6 = .int .i64 0 ∧ s7 = .int .i64 0 ∧ Below X.heap.size X wr) (fun _ _ _ => 0)
    case atStart => exact ⟨rfl, rfl, Below.refl _ _⟩
    case round =>
      obtain ⟨rfl, rfl, hB⟩ := hrel
      have hCB := below_of hX hB
      have BC := HBC.out.below hB HBC.out.lt
      have g0 := BC.cell 0
      have g1 := BC.cell 1
      have g2 := BC.cell 2
      simp at g0 g1 g2
      have cl := BC.lt
      clear BC
      by_cases hlt : 0 < c.nodes.length
      · have hli : (0 : Int) < (c.nodes.length : Int) := by omega
        go_wp2_with fail
        refine (HOF.out _ (below_of HW.out hCB)).mono ?_
        rintro e w2 ⟨rfl, hb2⟩
        have hC2 := below_of hCB hb2
        go_wp2_with fail
        go_ret
        exact ⟨by rw [HR.out]; rfl, hC2⟩
      · have hkl : c.nodes.length = 0 := by omega
        go_wp2_with fail
        go_ret
        exact ⟨by rw [HR.out]; rfl, hCB⟩
set_option maxHeartbeats 3200000 in
theorem sPick_any (c : CV) (a0 a1 a2 : Value) (z : Int) (w : World) (hc : CluR w c a0 a1 a2) :
    Calls Tryz.prog 44 #[.agg #[a0, a1, a2], .int .i64 z] w fun e w' => e = .returned (.int .i64 (pickG c z)) ∧ Below w.heap.size w w' := by
  have hok := fun w1 hw1 => sClusterOk_any c a0 a1 a2 w1 (hc.below hw1)
  have hpi := fun (h : clusterOk c = true) w1 hw1 => l04Pick_any c a0 a1 a2 z w w1 hw1 hc h
  have hno : clusterOk c = false → pickG c z = 0 := fun h => by
    unfold pickG unboundG
    cases fstBy TV.id c.tasks z with
    | none => rfl
    | some t => simp [h]
  have heq := fun (h : clusterOk c = true) => pickM_eq h z
  obtain ⟨D0, D1, D2, e0, e1, e2, rfl, rfl, rfl, _⟩ := hc.full
  cases ho : clusterOk c
  all_goals
    rw [ho] at hok
    have HOK := Lib.hid hok
    have HPI := Lib.hid hpi
    have HO := Lib.hid ho
    have HNO := Lib.hid hno
    have HEQ := Lib.hid heq
    clear hok hpi ho hno heq hc
    go_enter Tryz.func44, Tryz.ntmps44
    go_wp2_with fail
    have hX : Below w.heap.size w (w.alloc (.cells #[.slice D0 c.tasks.length e0, .slice D1 c.nodes.length e1, .slice D2 c.binds.length e2] 35)) := (by repeat' (first | exact Below.refl _ _ | refine Below.alloc ?_ ?_ _ | refine Below.setCell ?_ ?_ _ | refine Below.drew ?_ | (apply below_step; assumption) | (simp; done) | (simp; omega) | omega))
    refine (HOK.out _ hX).mono ?_
    rintro e w2 ⟨rfl, hb2⟩
    have hC2 := below_of hX hb2
    have BC := (BlockIs.new w 35 #[.slice D0 c.tasks.length e0, .slice D1 c.nodes.length e1, .slice D2 c.binds.length e2]).below hb2 (by simp)
    have g0 := BC.cell 0
    have g1 := BC.cell 1
    have g2 := BC.cell 2
    have cl := BC.lt
    simp at g0 g1 g2
    clear BC hb2 hX
    go_wp2_with fail
  · go_ret
    exact ⟨by rw [HNO.out HO.out]; rfl, hC2⟩
  · refine (HPI.out HO.out _ hC2).mono ?_
    rintro e w3 ⟨rfl, hb3⟩
    have hC3 := below_of hC2 hb3
    go_wp2_with fail
    go_ret
    exact ⟨by rw [← HEQ.out HO.out]; rfl, hC3⟩
end Go.Proofs.YtmkpajjnjgnmkaaGreatDoor
