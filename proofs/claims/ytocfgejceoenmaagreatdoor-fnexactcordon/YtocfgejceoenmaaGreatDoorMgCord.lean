/- One node's flag set in a cluster that a call owns. The contracts of withCordon and Cordon. The contract of the model's Cordon. -/
import Derived.Test.YtocfgejceoenmaaGreatDoorMgMark
import Derived.Test.YtocfgejceoenmaaGreatDoorMgOp
namespace Go.Proofs.YtocfgejceoenmaaGreatDoor
open Go.RowKit

theorem CluO.cordonAt {W : World} {c : CV} {a0 a1 a2 : Value} {bs : List Nat} (h : CluO W c a0 a1 a2 bs) {j : Nat} {x : NV} (hx : c.nodes[j]? = some x) :
    ∃ gr cap, a1 = .slice (some ⟨gr, 0, none⟩) c.nodes.length cap ∧ gr ∈ bs ∧ W.cell? ⟨gr, j * 8, none⟩ = some (.int .i64 x.id) ∧ W.cell? ⟨gr, j * 8 + 7, none⟩ = some (.bool x.cordon) ∧ (∀ o, W.frozen? ⟨gr, o, none⟩ = false) ∧
      ∀ on, CluO (W.setCell ⟨gr, j * 8 + 7, none⟩ (.bool on)) { c with nodes := c.nodes.take j ++ ({ x with cordon := on } :: c.nodes.drop (j + 1)) } a0 a1 a2 bs := by
  obtain ⟨b0, b1, b2, h0, h1, h2, rfl, hnd, l0, l1, l2⟩ := h
  obtain ⟨n0, n1, n2, d0, d1, d2⟩ := nd3 hnd
  have t0 := rowO_lt (fun _ _ _ h => h.lt) h0
  have t2 := rowO_lt (fun _ _ _ h => h.lt) h2
  obtain ⟨xs, bi, ho, he, rfl⟩ := h1
  have hj : j < c.nodes.length := (List.getElem?_eq_some_iff.1 hx).1
  have hlt := elems_lt (fun _ _ _ h => h.lt) he
  have hl : c.nodes = c.nodes.take j ++ (x :: c.nodes.drop (j + 1)) := by rw [← drop_at hx, List.take_append_drop]
  have he' := he
  rw [hl] at he'
  obtain ⟨xa, xr, ba, br, e1, e2, k1, k2⟩ := he'.split
  obtain ⟨cs, ys, bx, b3, e3, e4, k3, k4⟩ := k2
  subst e1 e2 e3 e4
  have hxa : xa.length = j * 8 := by rw [Elems.len (fun _ _ _ h => h.len) k1, List.length_take, Nat.min_eq_left (by omega)]
  obtain ⟨gr, cap, e, hgl, hcell, hfr⟩ := own_cells ho (by omega)
  subst e
  have hg : gr ∈ blk (.slice (some ⟨gr, 0, none⟩) c.nodes.length cap) := by simp [blk, Value.ownBlock]
  have hgi : gr ∉ ba ++ (bx ++ b3) := fun hm => (List.nodup_append.1 n1).2.2 gr hg gr hm rfl
  obtain ⟨v1, v2, rfl, q1, q2, q3, q4⟩ := k3
  refine ⟨gr, cap, rfl, by simp [hg], ?_, ?_, hfr, fun on => ?_⟩
  · have := hcell (j * 8) _ (by rw [List.getElem?_append_right (by omega), hxa, Nat.sub_self]; rfl)
    exact this
  · have := hcell (j * 8 + 7) _ (by rw [List.getElem?_append_right (by omega), hxa, Nat.add_sub_cancel_left]; rfl)
    exact this
  · have hP : TurnB [gr] W (W.setCell ⟨gr, j * 8 + 7, none⟩ (.bool on)) := (TurnB.refl _ _).put (List.mem_singleton.2 rfl) _ _
    have hag : ∀ bs : List Nat, (∀ b ∈ bs, b < W.heap.size) → gr ∉ bs → Agree bs W (W.setCell ⟨gr, j * 8 + 7, none⟩ (.bool on)) := fun bs hb hn => hP.agree (fun b h => ⟨hb b h, by simp; intro e; exact hn (e ▸ h)⟩)
    have ho' : W.ownsRow 0 60 8 (.slice (some ⟨gr, 0, none⟩) c.nodes.length cap) c.nodes.length ((xa ++ [.int .i64 x.id, .int .i64 x.pool, .int .i64 x.cap.c, .int .i64 x.cap.m, .int .i64 x.cap.p, v1, v2]) ++ ([.bool x.cordon] ++ ys)) := by simpa using ho
    have st := own_put (g := gr) (ds := [.bool on]) ho' rfl rfl
    rw [List.length_append, hxa] at st
    have st' : (W.setCell ⟨gr, j * 8 + 7, none⟩ (.bool on)).ownsRow 0 60 8 (.slice (some ⟨gr, 0, none⟩) c.nodes.length cap) c.nodes.length (xa ++ ([.int .i64 x.id, .int .i64 x.pool, .int .i64 x.cap.c, .int .i64 x.cap.m, .int .i64 x.cap.p, v1, v2, .bool on] ++ ys)) := by
      have st2 : (W.setCell ⟨gr, j * 8 + 7, none⟩ (.bool on)).ownsRow 0 60 8 (.slice (some ⟨gr, 0, none⟩) c.nodes.length cap) c.nodes.length ((xa ++ [.int .i64 x.id, .int .i64 x.pool, .int .i64 x.cap.c, .int .i64 x.cap.m, .int .i64 x.cap.p, v1, v2]) ++ ([.bool on] ++ ys)) := st
      simpa using st2
    have hle : (c.nodes.take j ++ ({ x with cordon := on } :: c.nodes.drop (j + 1))).length = c.nodes.length := by simp; omega
    have ha := hag _ hlt hgi
    have hn1 : NodeO (W.setCell ⟨gr, j * 8 + 7, none⟩ (.bool on)) { x with cordon := on } [.int .i64 x.id, .int .i64 x.pool, .int .i64 x.cap.c, .int .i64 x.cap.m, .int .i64 x.cap.p, v1, v2, .bool on] bx := by
      obtain ⟨q3, q5⟩ := And.intro q3 q4
      subst q3
      exact ⟨v1, v2, rfl, own_agree q1 ha.right.left.left, own_agree q2 ha.right.left.right, rfl, q5⟩
    refine ⟨b0, _, b2, h0.agree TaskO.framed (hag b0 t0 (fun hm => (d0 gr hm).1 (List.mem_append_left _ hg))), ⟨_, ba ++ (bx ++ b3), by rw [hle]; exact st', ?_, rfl⟩, h2.agree BindO.framed (hag b2 t2 (fun hm => (d2 gr hm).2 (List.mem_append_left _ hg))), rfl, hnd, l0, by rw [hle]; exact l1, l2⟩
    exact (k1.agree NodeO.framed ha.left).join ⟨_, _, _, _, rfl, rfl, hn1, k4.agree NodeO.framed ha.right.right⟩
theorem cordonOn_len (z : Int) (on : Bool) (l : List NV) : (cordonOn z on l).length = l.length := by simp [cordonOn]
theorem cordonOn_hit {z : Int} {on : Bool} {l : List NV} {k : Nat} {x : NV} (h : l[k]? = some x) (e : x.id = z) : cordonOn z on (l.take (k + 1)) = cordonOn z on (l.take k) ++ [{ x with cordon := on }] := by rw [take_at h]; simp [cordonOn, e]
theorem cordonOn_miss {z : Int} {on : Bool} {l : List NV} {k : Nat} {x : NV} (h : l[k]? = some x) (e : x.id ≠ z) : cordonOn z on (l.take (k + 1)) = cordonOn z on (l.take k) ++ [x] := by rw [take_at h]; simp [cordonOn, e]
/-- The nodes of which the first k have been looked at. -/
def cordonTo (z : Int) (on : Bool) (l : List NV) (k : Nat) : List NV := cordonOn z on (l.take k) ++ l.drop k
theorem cordonTo_at {z : Int} {on : Bool} {l : List NV} {k : Nat} {x : NV} (h : l[k]? = some x) : (cordonTo z on l k)[k]? = some x := by
  have hk : k < l.length := (List.getElem?_eq_some_iff.1 h).1
  unfold cordonTo
  rw [List.getElem?_append_right (by rw [cordonOn_len, List.length_take]; omega), cordonOn_len, List.length_take, Nat.min_eq_left (by omega), Nat.sub_self, drop_at h]; rfl
theorem cordonTo_hit {z : Int} {on : Bool} {l : List NV} {k : Nat} {x : NV} (h : l[k]? = some x) (e : x.id = z) : (cordonTo z on l k).take k ++ ({ x with cordon := on } :: (cordonTo z on l k).drop (k + 1)) = cordonTo z on l (k + 1) := by
  have hk : k < l.length := (List.getElem?_eq_some_iff.1 h).1
  have hl : (cordonOn z on (l.take k)).length = k := by rw [cordonOn_len, List.length_take, Nat.min_eq_left (by omega)]
  unfold cordonTo
  rw [cordonOn_hit h e, List.take_left' hl, show k + 1 = (cordonOn z on (l.take k)).length + 1 by rw [hl], List.drop_append, List.drop_of_length_le (by omega)]
  simp [hl]
theorem cordonTo_miss {z : Int} {on : Bool} {l : List NV} {k : Nat} {x : NV} (h : l[k]? = some x) (e : x.id ≠ z) : cordonTo z on l (k + 1) = cordonTo z on l k := by
  unfold cordonTo
  rw [cordonOn_miss h e, drop_at h]; simp
theorem cordonTo_len (z : Int) (on : Bool) (l : List NV) (k : Nat) : (cordonTo z on l k).length = l.length := by
  unfold cordonTo
  rw [List.length_append, cordonOn_len, List.length_take, List.length_drop]; omega
end Go.Proofs.YtocfgejceoenmaaGreatDoor

namespace Go.Proofs.YtocfgejceoenmaaGreatDoor
open Go.RowKit

set_option maxHeartbeats 6400000 in
set_option maxRecDepth 20000 in
theorem withCordon_any (c : CV) (a0 a1 a2 : Value) (z : Int) (on : Bool) (w : World) (x : Addr) (hg : ErrAt x w) (hc : CluR w c a0 a1 a2) :
    Calls Tryz.prog 80 #[.agg #[a0, a1, a2], .int .i64 z, .bool on] w (RetCluE w (cordonG c z on).1 (cordonG c z on).2) := by
  have hfi := fun w1 hw1 => findNode_any c a0 a1 a2 z w w1 hw1 hc
  have hcp := fun w1 h => copyCluster_any c a0 a1 a2 w1 h
  obtain ⟨D0, D1, D2, e0, e1, e2, rfl, rfl, rfl, -⟩ := hc.full
  have hck := fun ex w1 hg1 h => checkNone_any c D0 D1 D2 e0 e1 e2 false ex false w1 x hg1 h
  unfold cordonG
  obtain ⟨ex, hex⟩ : ∃ b, b = (fstBy NV.id c.nodes z).isSome := ⟨_, rfl⟩
  rw [← hex]
  have HC := Lib.hid hc
  have HG := Lib.hid hg
  have HEX := Lib.hid hex
  have HFI := Lib.hid hfi
  have HCP := Lib.hid hcp
  have HCK := Lib.hid hck
  clear hfi hcp hck hc hg hex
  go_enter Tryz.func80, Tryz.ntmps80
  go_wp2_with fail
  have hX0 : Below w.heap.size w ((w.alloc (.cells #[.slice D0 c.tasks.length e0, .slice D1 c.nodes.length e1, .slice D2 c.binds.length e2] 39)).alloc (.cells #[.slice none 0 0, .slice none 0 0, .slice none 0 0] 39)) := (by repeat' (first | exact Below.refl _ _ | refine Below.alloc ?_ ?_ _ | refine Below.setCell ?_ ?_ _ | refine Below.drew ?_ | (apply below_step; assumption) | (simp; done) | (simp; omega) | omega))
  refine (HFI.out _ hX0).mono ?_
  rintro e w1 ⟨fs, rfl, hRF, hb1⟩
  have hC1 := below_of hX0 hb1
  have hz1 := hb1.size
  simp at hz1
  have BC : BlockIs w1 w.heap.size 39 #[.slice D0 c.tasks.length e0, .slice D1 c.nodes.length e1, .slice D2 c.binds.length e2] := ((BlockIs.new w _ _).alloc _).below hb1 (by simp; omega)
  have BR : BlockIs w1 (w.heap.size + 1) 39 #[.slice none 0 0, .slice none 0 0, .slice none 0 0] := (BlockIs.new' (by simp)).below hb1 (by simp)
  rw [← HEX.out]
  generalize (fstBy NV.id c.nodes z).getD NV.zero = t at hRF
  obtain ⟨v1, v2, rfl, sf, sg, _, _⟩ := hRF
  obtain ⟨A1, c1, rfl, _⟩ := sf.form
  obtain ⟨A2, c2, rfl, _⟩ := sg.form
  clear sf sg
  have hX : Below w1.heap.size w1 (w1.alloc (.cells #[.int .i64 t.id, .int .i64 t.pool, .int .i64 t.cap.c, .int .i64 t.cap.m, .int .i64 t.cap.p, .slice A1 t.labs.length c1, .slice A2 t.taints.length c2, .bool t.cordon] 60)) := (by repeat' (first | exact Below.refl _ _ | refine Below.alloc ?_ ?_ _ | refine Below.setCell ?_ ?_ _ | refine Below.drew ?_ | (apply below_step; assumption) | (simp; done) | (simp; omega) | omega))
  have BC := BC.alloc (.cells #[.int .i64 t.id, .int .i64 t.pool, .int .i64 t.cap.c, .int .i64 t.cap.m, .int .i64 t.cap.p, .slice A1 t.labs.length c1, .slice A2 t.taints.length c2, .bool t.cordon] 60)
  have BR := BR.alloc (.cells #[.int .i64 t.id, .int .i64 t.pool, .int .i64 t.cap.c, .int .i64 t.cap.m, .int .i64 t.cap.p, .slice A1 t.labs.length c1, .slice A2 t.taints.length c2, .bool t.cordon] 60)
  have hXl : w.heap.size + 2 < (w1.alloc (.cells #[.int .i64 t.id, .int .i64 t.pool, .int .i64 t.cap.c, .int .i64 t.cap.m, .int .i64 t.cap.p, .slice A1 t.labs.length c1, .slice A2 t.taints.length c2, .bool t.cordon] 60)).heap.size := by simp; omega
  have hCX := below_of hC1 hX
  have g0 := BC.cell 0
  have g1 := BC.cell 1
  have g2 := BC.cell 2
  simp at g0 g1 g2
  have HBX := Lib.hid (And.intro BC BR)
  clear hb1 hX0 BC BR
  go_wp2_with fail
  refine (HCK.out ex _ (HG.out.below hCX (Nat.le_refl _)) (HC.out.below hCX)).mono ?_
  rintro e w3 ⟨rfl, hb3⟩
  have hC3 := below_of hCX hb3
  have hz3 := hb3.size
  have BC := HBX.out.1.below hb3 HBX.out.1.lt
  have BR := HBX.out.2.below hb3 HBX.out.2.lt
  have HBR := Lib.hid BR
  have r0 := BR.cell 0
  have r1 := BR.cell 1
  have r2 := BR.cell 2
  have rf := BR.frozen
  have g0 := BC.cell 0
  have g1 := BC.cell 1
  have g2 := BC.cell 2
  simp at r0 r1 r2 g0 g1 g2
  have HBAD := Lib.hid (fun r => @none_bad c r ex)
  have HGOOD := Lib.hid (@none_good c ex)
  generalize codeNone false (clusterOk c) ex = q at HBAD HGOOD ⊢
  clear BC BR hb3 HBX hX
  by_cases h0 : q = 0
  · subst h0
    rw [errV_zero]
    obtain ⟨hok, rfl⟩ := HGOOD.out rfl
    have HOK := Lib.hid hok
    clear hok
    go_wp2_with fail
    refine (HCP.out _ (HC.out.below hC3)).mono ?_
    rintro e w4 ⟨b0, b1, b2, bs, rfl, hCO, hlo, hb4⟩
    obtain ⟨F0, F1, F2, f0, f1, f2, rfl, rfl, rfl, -⟩ := hCO.clu.full
    have hC4 := below_of hC3 hb4
    have hz4 := hb4.size
    have hY : Below w4.heap.size w4 (w4.alloc (.cells #[.slice F0 c.tasks.length f0, .slice F1 c.nodes.length f1, .slice F2 c.binds.length f2] 39)) := (by repeat' (first | exact Below.refl _ _ | refine Below.alloc ?_ ?_ _ | refine Below.setCell ?_ ?_ _ | refine Below.drew ?_ | (apply below_step; assumption) | (simp; done) | (simp; omega) | omega))
    have BO : BlockIs (w4.alloc (.cells #[.slice F0 c.tasks.length f0, .slice F1 c.nodes.length f1, .slice F2 c.binds.length f2] 39)) w4.heap.size 39 #[.slice F0 c.tasks.length f0, .slice F1 c.nodes.length f1, .slice F2 c.binds.length f2] := BlockIs.new _ _ _
    have BR := (HBR.out.below hb4 HBR.out.lt).alloc (.cells #[.slice F0 c.tasks.length f0, .slice F1 c.nodes.length f1, .slice F2 c.binds.length f2] 39)
    have hCY := below_of hC4 hY
    have hlt := hCO.lt
    have hCY0 := hCO.agree (Agree.of_below hY hlt)
    have hYz : w4.heap.size < (w4.alloc (.cells #[.slice F0 c.tasks.length f0, .slice F1 c.nodes.length f1, .slice F2 c.binds.length f2] 39)).heap.size := by simp
    have HSB := Lib.hid (show ∀ b ∈ bs, w3.heap.size ≤ b ∧ b < w4.heap.size from fun b hb => ⟨hlo b hb, hlt b hb⟩)
    clear hCO hlo hb4 hlt r0 r1 r2 rf g0 g1 g2 hY
    go_wp2_with fail
    generalize w4.alloc (.cells #[.slice F0 c.tasks.length f0, .slice F1 c.nodes.length f1, .slice F2 c.binds.length f2] 39) = Y at BO BR hCY hCY0 hYz ⊢
    have o1 := BO.cell 1
    simp at o1
    have HBO := Lib.hid BO
    have HBR4 := Lib.hid BR
    have HCO := Lib.hid hCY0
    have HCY := Lib.hid hCY
    clear BO BR hCY hCY0
    go_wp2_with fail
    have hl1 : c.nodes.length ≤ 1048576 := HC.out.2.2.2.2.1
    go_loopw [32] (fun s32 wr => ∃ k : Nat, k ≤ c.nodes.length ∧ s32 = .int .i64 k ∧ CluO wr { c with nodes := cordonTo z on c.nodes k } (.slice F0 c.tasks.length f0) (.slice F1 c.nodes.length f1) (.slice F2 c.binds.length f2) bs ∧ TurnB bs Y wr) (fun s32 _ => (c.nodes.length - intOf s32).toNat)
    case atStart => exact ⟨0, by omega, rfl, by simpa [cordonTo, cordonOn] using HCO.out, TurnB.refl _ _⟩
    case round =>
      obtain ⟨k, hk, rfl, hco, htn⟩ := hrel
      have hzt := htn.size
      have BO := HBO.out.turn htn (fun hb => by have := HSB.out _ hb; omega)
      have o0 := BO.cell 0
      have o1 := BO.cell 1
      have o2 := BO.cell 2
      have of := BO.frozen
      have ol := BO.lt
      simp at o0 o1 o2
      have HTN := Lib.hid htn
      by_cases hlt : k < c.nodes.length
      · obtain ⟨n, hn⟩ : ∃ n, c.nodes[k]? = some n := ⟨_, List.getElem?_eq_getElem hlt⟩
        obtain ⟨gr, cap, e, hgb, q0, q7, qf, hfin⟩ := hco.cordonAt (cordonTo_at (z := z) (on := on) hn)
        simp only [Value.slice.injEq] at e
        obtain ⟨rfl, -, rfl⟩ := e
        have hgr := HSB.out gr hgb
        have HFIN := Lib.hid (And.intro (hfin on) hgb)
        have HCOK := Lib.hid hco
        have HNK := Lib.hid hn
        have hki : (k : Int) < (c.nodes.length : Int) := by omega
        have hgo : w4.heap.size ≠ gr := by omega
        have hgo' : gr ≠ w4.heap.size := by omega
        clear hfin hco hn htn BO hgb
        by_cases he : n.id = z
        · have HE := Lib.hid he
          have he' : (n.id == z) = true := by simp [he]
          clear he
          go_wp2_with fail
          go_roundw
          case rel =>
            refine ⟨k + 1, by omega, by go_num, ?_, HTN.out.put HFIN.out.2 _ _⟩
            have := HFIN.out.1
            rw [cordonTo_hit HNK.out HE.out] at this
            exact this
          case measure => simp [intOf]; omega
        · have HE := Lib.hid he
          have he' : (n.id == z) = false := by simp [he]
          clear he
          go_wp2_with fail
          go_roundw
          case rel => exact ⟨k + 1, by omega, by go_num, by rw [cordonTo_miss HNK.out HE.out]; exact HCOK.out, HTN.out⟩
          case measure => simp [intOf]; omega
      · have hkl : k = c.nodes.length := by omega
        subst hkl
        have BR := HBR4.out.turn htn (fun hb => by have := HSB.out _ hb; omega)
        have r0 := BR.cell 0
        have r1 := BR.cell 1
        have r2 := BR.cell 2
        have rf := BR.frozen
        have rl := BR.lt
        simp at r0 r1 r2
        have HCOK := Lib.hid (show CluO wr { c with nodes := cordonOn z on c.nodes } (.slice F0 c.tasks.length f0) (.slice F1 c.nodes.length f1) (.slice F2 c.binds.length f2) bs by simpa [cordonTo] using hco)
        have HBRK := Lib.hid BR
        have HBW := Lib.hid (HCY.out.trans (htn.below HCY.out.size (fun b hb => by have := HSB.out b hb; omega)))
        clear hco htn BO BR
        go_wp2_with fail
        have hZ := clu_put HBRK.out (.slice F0 c.tasks.length f0) (.slice F1 c.nodes.length f1) (.slice F2 c.binds.length f2)
        have hA := HCOK.out.agree (w' := (((wr.setCell ⟨w.heap.size + 1, 0, none⟩ (.slice F0 c.tasks.length f0)).setCell ⟨w.heap.size + 1, 1, none⟩ (.slice F1 c.nodes.length f1)).setCell ⟨w.heap.size + 1, 2, none⟩ (.slice F2 c.binds.length f2))) (fun b hb => putAll_block (o := 0) (ds := [.slice F0 c.tasks.length f0, .slice F1 c.nodes.length f1, .slice F2 c.binds.length f2]) (by have := HSB.out b hb; omega))
        have hB := clu_below (g := w.heap.size + 1) HBW.out (by omega) (.slice F0 c.tasks.length f0) (.slice F1 c.nodes.length f1) (.slice F2 c.binds.length f2)
        generalize (((wr.setCell ⟨w.heap.size + 1, 0, none⟩ (.slice F0 c.tasks.length f0)).setCell ⟨w.heap.size + 1, 1, none⟩ (.slice F1 c.nodes.length f1)).setCell ⟨w.heap.size + 1, 2, none⟩ (.slice F2 c.binds.length f2)) = V at hZ hA hB ⊢
        have x0 := hZ.cell 0
        have x1 := hZ.cell 1
        have x2 := hZ.cell 2
        simp at x0 x1 x2
        exact bodyPost_ret (v := .tuple #[.agg #[.slice F0 c.tasks.length f0, .slice F1 c.nodes.length f1, .slice F2 c.binds.length f2], .nilIface]) (by simp [results, Tryz.results80, go_sem, x0, x1, x2]) rfl (by rw [needG_fine HOK.out]; exact ⟨_, _, _, _, rfl, hA, fun b hb => by have := HSB.out b hb; omega, hB⟩)
  · rw [errV_ne h0]
    have HZ0 := Lib.hid h0
    clear h0
    go_wp2_with fail
    have hZ := clu_put HBR.out (.slice none 0 0) (.slice none 0 0) (.slice none 0 0)
    have hB := clu_below (g := w.heap.size + 1) hC3 (by omega) (.slice none 0 0) (.slice none 0 0) (.slice none 0 0)
    generalize (((w3.setCell ⟨w.heap.size + 1, 0, none⟩ (.slice none 0 0)).setCell ⟨w.heap.size + 1, 1, none⟩ (.slice none 0 0)).setCell ⟨w.heap.size + 1, 2, none⟩ (.slice none 0 0)) = V at hZ hB ⊢
    have x0 := hZ.cell 0
    have x1 := hZ.cell 1
    have x2 := hZ.cell 2
    simp at x0 x1 x2
    exact bodyPost_ret (v := .tuple #[.agg #[.slice none 0 0, .slice none 0 0, .slice none 0 0], .iface 124 (.agg #[.int .i64 q])]) (by simp [results, Tryz.results80, go_sem, x0, x1, x2]) rfl (by rw [HBAD.out _ HZ0.out]; exact ⟨_, _, _, [], by rw [errV_ne HZ0.out], CluO.zero _, by simp, hB⟩)
set_option maxHeartbeats 3200000 in
theorem Cordon_any (c : CV) (a0 a1 a2 : Value) (z : Int) (on : Bool) (w : World) (x : Addr) (hg : ErrAt x w) (hT : TypAt w) (hc : CluR w c a0 a1 a2) :
    Calls Tryz.prog 33 #[.agg #[a0, a1, a2], .int .i64 z, .bool on] w (RetCluI w (cordonG c z on).1 (cordonG c z on).2) := by
  have hw := fun w1 hb => withCordon_any c a0 a1 a2 z on w1 x (hg.below hb (Nat.le_refl _)) (hc.below hb)
  have hzz : (cordonG c z on).2 ≠ 0 → (cordonG c z on).1 = CV.zero := needG_zero
  obtain ⟨D0, D1, D2, e0, e1, e2, rfl, rfl, rfl, _⟩ := hc.full
  generalize (cordonG c z on).1 = r at hw hzz ⊢
  generalize (cordonG c z on).2 = n at hw hzz ⊢
  have HW := Lib.hid hw
  have HZ := Lib.hid hzz
  have HT := Lib.hid hT
  clear hw hzz hT hc hg
  go_enter Tryz.func33, Tryz.ntmps33
  go_wp2_with fail
  have hX : Below w.heap.size w ((w.alloc (.cells #[.slice D0 c.tasks.length e0, .slice D1 c.nodes.length e1, .slice D2 c.binds.length e2] 39)).alloc (.cells #[.slice none 0 0, .slice none 0 0, .slice none 0 0] 39)) := (by repeat' (first | exact Below.refl _ _ | refine Below.alloc ?_ ?_ _ | refine Below.setCell ?_ ?_ _ | refine Below.drew ?_ | (apply below_step; assumption) | (simp; done) | (simp; omega) | omega))
  refine (HW.out _ hX).mono ?_
  rintro e w1 ⟨b0, b1, b2, bs, rfl, hCO, hlo, hb1⟩
  have hC1 := below_of hX hb1
  have hz1 := hb1.size
  simp at hz1
  have BR : BlockIs w1 (w.heap.size + 1) 39 #[.slice none 0 0, .slice none 0 0, .slice none 0 0] := (BlockIs.new' (by simp)).below hb1 (by simp)
  have hlo' : ∀ b ∈ bs, w.heap.size + 2 ≤ b := fun b hb => by have := hlo b hb; simpa using this
  have HCO := Lib.hid (And.intro hCO hlo')
  have HBR := Lib.hid BR
  clear hb1 hX BR hlo hlo' hCO
  go_wp2_with fail
  refine (answer_any r n b0 b1 b2 bs w1 HCO.out.1 HZ.out (HT.out.below hC1 (Nat.le_refl _))).mono ?_
  rintro e w2 ⟨f0, f1, f2, ds, rfl, hCO2, hds, hb2⟩
  obtain ⟨F0, F1, F2, g0, g1, g2, rfl, rfl, rfl, _⟩ := hCO2.clu.full
  have hC2 := below_of hC1 hb2
  have BR := HBR.out.below hb2 HBR.out.lt
  have r0 := BR.cell 0
  have r1 := BR.cell 1
  have r2 := BR.cell 2
  have rf := BR.frozen
  simp at r0 r1 r2
  have HBR2 := Lib.hid BR
  have HCO2 := Lib.hid (And.intro hCO2 hds)
  clear BR hb2 hCO2 hds
  go_wp2_with fail
  have hZ := clu_put HBR2.out (.slice F0 r.tasks.length g0) (.slice F1 r.nodes.length g1) (.slice F2 r.binds.length g2)
  have hB := clu_below (g := w.heap.size + 1) hC2 (by omega) (.slice F0 r.tasks.length g0) (.slice F1 r.nodes.length g1) (.slice F2 r.binds.length g2)
  have hA := HCO2.out.1.agree (w' := (((w2.setCell ⟨w.heap.size + 1, 0, none⟩ (.slice F0 r.tasks.length g0)).setCell ⟨w.heap.size + 1, 1, none⟩ (.slice F1 r.nodes.length g1)).setCell ⟨w.heap.size + 1, 2, none⟩ (.slice F2 r.binds.length g2))) (fun b hb => putAll_block (o := 0) (ds := [.slice F0 r.tasks.length g0, .slice F1 r.nodes.length g1, .slice F2 r.binds.length g2]) (by have := HCO.out.2 b (HCO2.out.2 b hb); omega))
  generalize (((w2.setCell ⟨w.heap.size + 1, 0, none⟩ (.slice F0 r.tasks.length g0)).setCell ⟨w.heap.size + 1, 1, none⟩ (.slice F1 r.nodes.length g1)).setCell ⟨w.heap.size + 1, 2, none⟩ (.slice F2 r.binds.length g2)) = V at hZ hB hA ⊢
  have x0 := hZ.cell 0
  have x1 := hZ.cell 1
  have x2 := hZ.cell 2
  simp at x0 x1 x2
  exact bodyPost_ret (v := .tuple #[.agg #[.slice F0 r.tasks.length g0, .slice F1 r.nodes.length g1, .slice F2 r.binds.length g2], .int .i64 n]) (by simp [results, Tryz.results33, go_sem, x0, x1, x2]) rfl ⟨_, _, _, _, rfl, hA, fun b hb => by have := HCO.out.2 b (HCO2.out.2 b hb); omega, hB⟩
end Go.Proofs.YtocfgejceoenmaaGreatDoor

namespace Go.Proofs.YtocfgejceoenmaaGreatDoor
open Go.RowKit

set_option maxHeartbeats 6400000 in
set_option maxRecDepth 20000 in
theorem sCordon_any (c : CV) (a0 a1 a2 : Value) (z : Int) (on : Bool) (w : World) (hc : CluR w c a0 a1 a2) :
    Calls Tryz.prog 32 #[.agg #[a0, a1, a2], .int .i64 z, .bool on] w (RetCluI w (cordonG c z on).1 (cordonG c z on).2) := by
  have hok := fun w1 h => sClusterOk_any c a0 a1 a2 w1 h
  have hix := fun w1 hw1 => sNode_any c a0 a1 a2 z w w1 hw1 hc
  have hcp := fun w1 h => sCopy_any c a0 a1 a2 w1 h
  obtain ⟨D0, D1, D2, e0, e1, e2, rfl, rfl, rfl, -⟩ := hc.full
  unfold cordonG
  generalize hq1 : clusterOk c = ok at hok
  generalize hq3 : idxBy NV.id c.nodes z = j at hix
  have HQ := Lib.hid (And.intro hq1 hq3)
  have HC := Lib.hid hc
  have HOK := Lib.hid hok
  have HIX := Lib.hid hix
  have HCP := Lib.hid hcp
  clear hok hix hcp hc hq1 hq3
  go_enter Tryz.func32, Tryz.ntmps32
  go_wp2_with fail
  have hX : Below w.heap.size w ((w.alloc (.cells #[.slice D0 c.tasks.length e0, .slice D1 c.nodes.length e1, .slice D2 c.binds.length e2] 39)).alloc (.cells #[.slice none 0 0, .slice none 0 0, .slice none 0 0] 39)) := (by repeat' (first | exact Below.refl _ _ | refine Below.alloc ?_ ?_ _ | refine Below.setCell ?_ ?_ _ | refine Below.drew ?_ | (apply below_step; assumption) | (simp; done) | (simp; omega) | omega))
  refine (HOK.out _ (HC.out.below hX)).mono ?_
  rintro e w1 ⟨rfl, hb1⟩
  have hC1 := below_of hX hb1
  have hz1 := hb1.size
  simp at hz1
  have BC : BlockIs w1 w.heap.size 39 #[.slice D0 c.tasks.length e0, .slice D1 c.nodes.length e1, .slice D2 c.binds.length e2] := ((BlockIs.new w _ _).alloc _).below hb1 (by simp; omega)
  have BR : BlockIs w1 (w.heap.size + 1) 39 #[.slice none 0 0, .slice none 0 0, .slice none 0 0] := (BlockIs.new' (by simp)).below hb1 (by simp)
  have HBC1 := Lib.hid BC
  have HBR1 := Lib.hid BR
  have r0 := BR.cell 0
  have r1 := BR.cell 1
  have r2 := BR.cell 2
  have rf := BR.frozen
  have g0 := BC.cell 0
  have g1 := BC.cell 1
  have g2 := BC.cell 2
  simp at r0 r1 r2 g0 g1 g2
  clear BC BR hb1 hX
  cases ok
  · go_wp2_with fail
    have hZ := clu_put HBR1.out (.slice none 0 0) (.slice none 0 0) (.slice none 0 0)
    have hB := clu_below (g := w.heap.size + 1) hC1 (by omega) (.slice none 0 0) (.slice none 0 0) (.slice none 0 0)
    generalize (((w1.setCell ⟨w.heap.size + 1, 0, none⟩ (.slice none 0 0)).setCell ⟨w.heap.size + 1, 1, none⟩ (.slice none 0 0)).setCell ⟨w.heap.size + 1, 2, none⟩ (.slice none 0 0)) = V at hZ hB ⊢
    have x0 := hZ.cell 0
    have x1 := hZ.cell 1
    have x2 := hZ.cell 2
    simp at x0 x1 x2
    exact bodyPost_ret (v := .tuple #[.agg #[.slice none 0 0, .slice none 0 0, .slice none 0 0], .int .i64 1]) (by simp [results, Tryz.results32, go_sem, x0, x1, x2]) rfl (by rw [needG_form HQ.out.1]; exact ⟨_, _, _, [], rfl, CluO.zero _, by simp, hB⟩)
  go_wp2_with fail
  refine (HIX.out _ hC1).mono ?_
  rintro e w3 ⟨rfl, hb3⟩
  have hC3 := below_of hC1 hb3
  have hz3 := hb3.size
  have BC := HBC1.out.below hb3 HBC1.out.lt
  have BR := HBR1.out.below hb3 HBR1.out.lt
  have HBR3 := Lib.hid BR
  have r0 := BR.cell 0
  have r1 := BR.cell 1
  have r2 := BR.cell 2
  have rf := BR.frozen
  have g0 := BC.cell 0
  have g1 := BC.cell 1
  have g2 := BC.cell 2
  simp at r0 r1 r2 g0 g1 g2
  clear BC BR hb3 HBC1 HBR1
  cases hf : fstBy NV.id c.nodes z with
  | none =>
    obtain rfl : j = -1 := by rw [← HQ.out.2]; exact idxBy_none hf
    have HFS := Lib.hid (show (fstBy NV.id c.nodes z).isSome = false by rw [hf]; rfl)
    clear hf
    go_wp2_with fail
    have hZ := clu_put HBR3.out (.slice none 0 0) (.slice none 0 0) (.slice none 0 0)
    have hB := clu_below (g := w.heap.size + 1) hC3 (by omega) (.slice none 0 0) (.slice none 0 0) (.slice none 0 0)
    generalize (((w3.setCell ⟨w.heap.size + 1, 0, none⟩ (.slice none 0 0)).setCell ⟨w.heap.size + 1, 1, none⟩ (.slice none 0 0)).setCell ⟨w.heap.size + 1, 2, none⟩ (.slice none 0 0)) = V at hZ hB ⊢
    have x0 := hZ.cell 0
    have x1 := hZ.cell 1
    have x2 := hZ.cell 2
    simp at x0 x1 x2
    exact bodyPost_ret (v := .tuple #[.agg #[.slice none 0 0, .slice none 0 0, .slice none 0 0], .int .i64 3]) (by simp [results, Tryz.results32, go_sem, x0, x1, x2]) rfl (by rw [HFS.out, needG_none HQ.out.1]; exact ⟨_, _, _, [], rfl, CluO.zero _, by simp, hB⟩)
  | some x =>
    obtain ⟨jn, hj, hjt, hkz, -⟩ := idxBy_some hf
    obtain rfl : j = (jn : Int) := by rw [← HQ.out.2, hj]
    have HFS := Lib.hid (show (fstBy NV.id c.nodes z).isSome = true by rw [hf]; rfl)
    have hjl : jn < c.nodes.length := (List.getElem?_eq_some_iff.1 hjt).1
    have HCA := Lib.hid (cordon_at (on := on) hjt hkz (clusterOk_parts HQ.out.1).2.1)
    have HHIT := Lib.hid hjt
    clear hkz hj hjt hf
    have hnn : (0 : Int) ≤ (jn : Int) := by omega
    have hnn' : decide ((jn : Int) < 0) = false := by simp
    have hji : (jn : Int) < (c.nodes.length : Int) := by omega
    go_wp2_with fail
    refine (HCP.out _ (HC.out.below hC3)).mono ?_
    rintro e w4 ⟨b0, b1, b2, bs, rfl, hCO, hlo, hb4⟩
    obtain ⟨F0, F1, F2, f0, f1, f2, rfl, rfl, rfl, -⟩ := hCO.clu.full
    have hC4 := below_of hC3 hb4
    have hz4 := hb4.size
    have hY : Below w4.heap.size w4 (w4.alloc (.cells #[.slice F0 c.tasks.length f0, .slice F1 c.nodes.length f1, .slice F2 c.binds.length f2] 39)) := (by repeat' (first | exact Below.refl _ _ | refine Below.alloc ?_ ?_ _ | refine Below.setCell ?_ ?_ _ | refine Below.drew ?_ | (apply below_step; assumption) | (simp; done) | (simp; omega) | omega))
    have BO : BlockIs (w4.alloc (.cells #[.slice F0 c.tasks.length f0, .slice F1 c.nodes.length f1, .slice F2 c.binds.length f2] 39)) w4.heap.size 39 #[.slice F0 c.tasks.length f0, .slice F1 c.nodes.length f1, .slice F2 c.binds.length f2] := BlockIs.new _ _ _
    have BR := (HBR3.out.below hb4 HBR3.out.lt).alloc (.cells #[.slice F0 c.tasks.length f0, .slice F1 c.nodes.length f1, .slice F2 c.binds.length f2] 39)
    have hCY := below_of hC4 hY
    have hlt := hCO.lt
    have hCY0 := hCO.agree (Agree.of_below hY hlt)
    have hYz : w4.heap.size < (w4.alloc (.cells #[.slice F0 c.tasks.length f0, .slice F1 c.nodes.length f1, .slice F2 c.binds.length f2] 39)).heap.size := by simp
    have HSB := Lib.hid (show ∀ b ∈ bs, w3.heap.size ≤ b ∧ b < w4.heap.size from fun b hb => ⟨hlo b hb, hlt b hb⟩)
    clear hCO hlo hb4 hlt r0 r1 r2 rf g0 g1 g2 hY
    obtain ⟨gr, cap, e, hgb, q0, q7, qf, hfin⟩ := hCY0.cordonAt HHIT.out
    simp only [Value.slice.injEq] at e
    obtain ⟨rfl, -, rfl⟩ := e
    have hgr := HSB.out gr hgb
    have hgo : w4.heap.size ≠ gr := by omega
    have hgo' : gr ≠ w4.heap.size := by omega
    have hgp : gr ≠ w.heap.size + 1 := by omega
    have ho1 : w4.heap.size ≠ w.heap.size + 1 := by omega
    have htn : TurnB bs (w4.alloc (.cells #[.slice F0 c.tasks.length f0, .slice (some ⟨gr, 0, none⟩) c.nodes.length f1, .slice F2 c.binds.length f2] 39)) ((w4.alloc (.cells #[.slice F0 c.tasks.length f0, .slice (some ⟨gr, 0, none⟩) c.nodes.length f1, .slice F2 c.binds.length f2] 39)).setCell ⟨gr, jn * 8 + 7, none⟩ (.bool on)) := (TurnB.refl _ _).put hgb _ _
    go_upto_region 7 with fail
    generalize w4.alloc (.cells #[.slice F0 c.tasks.length f0, .slice (some ⟨gr, 0, none⟩) c.nodes.length f1, .slice F2 c.binds.length f2] 39) = Y at BO BR hCY hCY0 hYz q0 q7 qf hfin htn ⊢
    have o0 := BO.cell 0
    have o1 := BO.cell 1
    have o2 := BO.cell 2
    have r0 := BR.cell 0
    have r1 := BR.cell 1
    have r2 := BR.cell 2
    have rf := BR.frozen
    simp at o0 o1 o2 r0 r1 r2
    have HH := Lib.hid (And.intro (hfin on) (And.intro (BR.turn htn (fun hb => by have := HSB.out _ hb; omega)) (hCY.trans (htn.below hCY.size (fun b hb => by have := HSB.out b hb; omega)))))
    clear hfin htn BO BR hCY hCY0
    go_wp2_with fail
    obtain ⟨hCO, BR, hBW⟩ := HH.out
    rw [HCA.out] at hCO
    generalize Y.setCell ⟨gr, jn * 8 + 7, none⟩ (.bool on) = X at hCO BR hBW ⊢
    have hZ := clu_put BR (.slice F0 c.tasks.length f0) (.slice (some ⟨gr, 0, none⟩) c.nodes.length f1) (.slice F2 c.binds.length f2)
    have hA := hCO.agree (w' := (((X.setCell ⟨w.heap.size + 1, 0, none⟩ (.slice F0 c.tasks.length f0)).setCell ⟨w.heap.size + 1, 1, none⟩ (.slice (some ⟨gr, 0, none⟩) c.nodes.length f1)).setCell ⟨w.heap.size + 1, 2, none⟩ (.slice F2 c.binds.length f2))) (fun b hb => putAll_block (o := 0) (ds := [.slice F0 c.tasks.length f0, .slice (some ⟨gr, 0, none⟩) c.nodes.length f1, .slice F2 c.binds.length f2]) (by have := HSB.out b hb; omega))
    have hB := clu_below (g := w.heap.size + 1) hBW (by omega) (.slice F0 c.tasks.length f0) (.slice (some ⟨gr, 0, none⟩) c.nodes.length f1) (.slice F2 c.binds.length f2)
    generalize (((X.setCell ⟨w.heap.size + 1, 0, none⟩ (.slice F0 c.tasks.length f0)).setCell ⟨w.heap.size + 1, 1, none⟩ (.slice (some ⟨gr, 0, none⟩) c.nodes.length f1)).setCell ⟨w.heap.size + 1, 2, none⟩ (.slice F2 c.binds.length f2)) = V at hZ hA hB ⊢
    have x0 := hZ.cell 0
    have x1 := hZ.cell 1
    have x2 := hZ.cell 2
    simp at x0 x1 x2
    exact bodyPost_ret (v := .tuple #[.agg #[.slice F0 c.tasks.length f0, .slice (some ⟨gr, 0, none⟩) c.nodes.length f1, .slice F2 c.binds.length f2], .int .i64 0]) (by simp [results, Tryz.results32, go_sem, x0, x1, x2]) rfl (by rw [HFS.out, needG_fine HQ.out.1]; exact ⟨_, _, _, _, rfl, hA, fun b hb => by have := HSB.out b hb; omega, hB⟩)
end Go.Proofs.YtocfgejceoenmaaGreatDoor
