/- FnExactWorldNew answers true at every list of pools and three integers: WorldNew and its model agree, the list is left as it was, and what is returned owns its memory. Tied to impl.errRange's text. (mklworldnew.py) -/
import Derived.Test.YtmkpajjnjgnmkabGreatDoorMg02
import Derived.Test.YtmkpajjnjgnmkabGreatDoorWorldNS
import Derived.Test.YtmkpajjnjgnmkabGreatDoorMg10
namespace Go.Proofs.YtmkpajjnjgnmkabGreatDoor.fnExactWorldNew
open Go.ChangeShapes Go.WideShapes Go.ChangeAt Go.RowKit Go.Joins

theorem newBox (w : World) (cs : Array Value) : BlockIs (World.setRow (w.alloc (.cells #[.int .i64 0, .int .i64 0, .int .i64 0, .int .i64 0, .int .i64 0, .int .i64 0, .int .i64 0, .int .i64 0, .slice none 0 0, .slice none 0 0, .slice none 0 0, .slice none 0 0, .slice none 0 0, .slice none 0 0, .slice none 0 0, .int .i64 0, .slice none 0 0, .slice none 0 0] 39)) w.heap.size cs) w.heap.size 39 cs ∧ Below w.heap.size w (World.setRow (w.alloc (.cells #[.int .i64 0, .int .i64 0, .int .i64 0, .int .i64 0, .int .i64 0, .int .i64 0, .int .i64 0, .int .i64 0, .slice none 0 0, .slice none 0 0, .slice none 0 0, .slice none 0 0, .slice none 0 0, .slice none 0 0, .slice none 0 0, .int .i64 0, .slice none 0 0, .slice none 0 0] 39)) w.heap.size cs) ∧ w.heap.size < (World.setRow (w.alloc (.cells #[.int .i64 0, .int .i64 0, .int .i64 0, .int .i64 0, .int .i64 0, .int .i64 0, .int .i64 0, .int .i64 0, .slice none 0 0, .slice none 0 0, .slice none 0 0, .slice none 0 0, .slice none 0 0, .slice none 0 0, .slice none 0 0, .int .i64 0, .slice none 0 0, .slice none 0 0] 39)) w.heap.size cs).heap.size := by
  have hA : Below w.heap.size w (w.alloc (.cells #[.int .i64 0, .int .i64 0, .int .i64 0, .int .i64 0, .int .i64 0, .int .i64 0, .int .i64 0, .int .i64 0, .slice none 0 0, .slice none 0 0, .slice none 0 0, .slice none 0 0, .slice none 0 0, .slice none 0 0, .slice none 0 0, .int .i64 0, .slice none 0 0, .slice none 0 0] 39)) := (by repeat' (first | exact Below.refl _ _ | refine Below.alloc ?_ ?_ _ | refine Below.setCell ?_ ?_ _ | refine Below.drew ?_ | (apply below_step; assumption) | (simp; done) | (simp; omega) | omega))
  have hT : TurnB [w.heap.size] (w.alloc (.cells #[.int .i64 0, .int .i64 0, .int .i64 0, .int .i64 0, .int .i64 0, .int .i64 0, .int .i64 0, .int .i64 0, .slice none 0 0, .slice none 0 0, .slice none 0 0, .slice none 0 0, .slice none 0 0, .slice none 0 0, .slice none 0 0, .int .i64 0, .slice none 0 0, .slice none 0 0] 39)) (World.setRow (w.alloc (.cells #[.int .i64 0, .int .i64 0, .int .i64 0, .int .i64 0, .int .i64 0, .int .i64 0, .int .i64 0, .int .i64 0, .slice none 0 0, .slice none 0 0, .slice none 0 0, .slice none 0 0, .slice none 0 0, .slice none 0 0, .slice none 0 0, .int .i64 0, .slice none 0 0, .slice none 0 0] 39)) w.heap.size cs) := TurnB.setRow (TurnB.refl _ _) (by simp) _
  exact ⟨setRow_heap _ _ _ _ _ _ (BlockIs.new w _ _), hA.trans (hT.below (B := w.heap.size) (by simp) (by simp)), by have h := hT.size; rw [World.size_alloc] at h; omega⟩
structure Two (w : World) (cW : Array Value) (t : WV) (sW : WS) (e1 e2 e3 e6 : List Nat) (gW : Nat) (cG : Array Value) (u : WV) (sG : WS) (d1 d2 d3 d6 : List Nat) (gG : Nat) (W : World) : Prop where
  bW : BlockIs W gW 39 cW
  oW : WldO W t sW e1 e2 e3 e6
  bG : BlockIs W gG 39 cG
  oG : WldO W u sG d1 d2 d3 d6
  nG : (wldB sG d1 d2 d3 d6).Nodup
  lo : ∀ b ∈ wldB sG d1 d2 d3 d6, w.heap.size ≤ b ∧ b ≠ gG ∧ b ≠ gW ∧ b ∉ wldB sW e1 e2 e3 e6
  c : Below w.heap.size w W
theorem Two.below {w W W' : World} {cW cG : Array Value} {t u : WV} {sW sG : WS} {e1 e2 e3 e6 d1 d2 d3 d6 : List Nat} {gW gG : Nat} (h : Two w cW t sW e1 e2 e3 e6 gW cG u sG d1 d2 d3 d6 gG W) (hb : Below W.heap.size W W') : Two w cW t sW e1 e2 e3 e6 gW cG u sG d1 d2 d3 d6 gG W' :=
  ⟨h.bW.below hb h.bW.lt, h.oW.agree (Agree.of_below hb h.oW.lt), h.bG.below hb h.bG.lt, h.oG.agree (Agree.of_below hb h.oG.lt), h.nG, h.lo, below_of h.c hb⟩
theorem Two.other {w W W' : World} {cW cG : Array Value} {t u : WV} {sW sG : WS} {e1 e2 e3 e6 d1 d2 d3 d6 bs : List Nat} {gW gG : Nat} (h : Two w cW t sW e1 e2 e3 e6 gW cG u sG d1 d2 d3 d6 gG W) (ht : TurnB bs W W') (hd : ∀ b ∈ bs, w.heap.size ≤ b ∧ b ≠ gW ∧ b ≠ gG ∧ b ∉ wldB sW e1 e2 e3 e6 ∧ b ∉ wldB sG d1 d2 d3 d6) : Two w cW t sW e1 e2 e3 e6 gW cG u sG d1 d2 d3 d6 gG W' :=
  ⟨h.bW.turn ht (fun hx => (hd _ hx).2.1 rfl), h.oW.agree (ht.agree (fun b hb => ⟨h.oW.lt b hb, fun hx => (hd b hx).2.2.2.1 hb⟩)), h.bG.turn ht (fun hx => (hd _ hx).2.2.1 rfl), h.oG.agree (ht.agree (fun b hb => ⟨h.oG.lt b hb, fun hx => (hd b hx).2.2.2.2 hb⟩)), h.nG, h.lo, h.c.trans (ht.below h.c.size (fun b hb => (hd b hb).1))⟩
theorem Two.mark {w W W' : World} {cW cG : Array Value} {t u u' : WV} {sW sG : WS} {e1 e2 e3 e6 d1 d2 d3 d6 : List Nat} {gW gG : Nat} (h : Two w cW t sW e1 e2 e3 e6 gW cG u sG d1 d2 d3 d6 gG W) (ht : TurnB (wldB sG d1 d2 d3 d6) W W') (ho : WldO W' u' sG d1 d2 d3 d6) : Two w cW t sW e1 e2 e3 e6 gW cG u' sG d1 d2 d3 d6 gG W' :=
  ⟨h.bW.turn ht (fun hx => (h.lo _ hx).2.2.1 rfl), h.oW.agree (ht.agree (fun b hb => ⟨h.oW.lt b hb, fun hx => (h.lo b hx).2.2.2 hb⟩)), h.bG.turn ht (fun hx => (h.lo _ hx).2.1 rfl), ho, h.nG, h.lo, h.c.trans (ht.below h.c.size (fun b hb => (h.lo b hb).1))⟩
set_option maxHeartbeats 25600000 in
set_option maxRecDepth 20000 in
theorem walk (v : Value) (l : List PV) (kind limit span : Int) (w : World) (x : Addr) (hg : ErrAt x w) (hq : GSl PoolQ 12 w v l) (hm : l.length ≤ maxLen) :
    Calls Tryz.prog 3 #[v, .int .i64 kind, .int .i64 limit, .int .i64 span] w fun e w' => e = .returned (.bool true) ∧ Below w.heap.size w w' := by
  have HQ := Lib.hid hq
  have HG := Lib.hid hg
  obtain ⟨A, c, rfl, _⟩ := hq.form
  have so := fun hl v w hv => sWorldNew_any v l kind limit span w hv hl
  have io := fun hl v w hg hv => WorldNew_any v l kind limit span w x hg hv hl
  generalize (if worldOk (worldNew l kind limit span) then worldNew l kind limit span else WV.zero) = t at so io
  generalize worldOk (worldNew l kind limit span) = ok at so io
  have hne : (ok != ok) = false := by simp
  have SO := Lib.hid so
  have IO := Lib.hid io
  clear so io hq hg
  go_enter Tryz.func3, Tryz.ntmps3
  go_wp2_with fail
  refine (szPoolS_any _ l 1048576 _ HQ.out hm (by omega) (by omega)).mono ?_
  rintro e w1 ⟨⟨y, rfl, hy⟩, hC1⟩
  rcases hy with rfl | ⟨y0, y1, hlen, hall⟩
  · go_wp2_with fail
    go_ret
    exact ⟨rfl, hC1⟩
  have HL := Lib.hid (show PoolSl w (.slice A l.length c) l from HQ.out.small (fun t ht cs h => by
    obtain ⟨v1, v2, e, a, b, _, _⟩ := h
    obtain ⟨s1, s2⟩ := hall t ht
    exact ⟨v1, v2, e, a, b, s1, s2⟩))
  have hy0 : decide (y < 0) = false := by simp; omega
  clear hall HQ hm
  go_wp2_with fail
  refine (toPoolS_any _ l _ (HL.out.below hC1) hlen).mono ?_
  rintro e w2 ⟨rfl, hN2, hb2⟩
  have hC2 := below_of hC1 hb2
  have S2 := Lib.hid (show PoolSl w2 _ l from hN2.sl (fun _ _ h => h.r))
  clear hN2 hb2
  go_wp2_with fail
  refine (SO.out hlen _ _ S2.out).mono ?_
  rintro e w3 ⟨sW, e1, e2, e3, e6, rfl, hO3, -, hlo3, hb3⟩
  have hC3 := below_of hC2 hb3
  obtain ⟨A0, A1, A2, A3, A4, A5, A6, A7, A8, c0, c1, c2, c3, c4, c5, c6, c7, c8, rfl⟩ := hO3.wld.form
  have hl3 := hO3.lt
  have HO3 := Lib.hid hO3
  clear hO3 hb3 S2
  have hbx3 := newBox w3 #[.int .i64 t.now, .int .i64 t.span, .int .i64 t.kind, .int .i64 t.limit, .int .i64 t.next, .int .i64 t.lease.c, .int .i64 t.lease.m, .int .i64 t.lease.p, .slice A0 t.epochs.length c0, .slice A1 t.pools.length c1, .slice A2 t.clu.tasks.length c2, .slice A3 t.clu.nodes.length c3, .slice A4 t.clu.binds.length c4, .slice A5 t.wants.length c5, .slice A6 t.ends.length c6, .int .i64 t.seen, .slice A7 t.insts.length c7, .slice A8 t.msgs.length c8]
  have HBX3 := Lib.hid hbx3
  clear hbx3
  go_upto_region 6 with (refine wpList_store_row rfl 39 _ _ rfl _ _ rfl rfl 39 _ (BlockIs.new w3 _ _) (by kernel_rfl) rfl (by simp [Value.oneCell']) ?_)
  generalize (World.setRow (w3.alloc (.cells #[.int .i64 0, .int .i64 0, .int .i64 0, .int .i64 0, .int .i64 0, .int .i64 0, .int .i64 0, .int .i64 0, .slice none 0 0, .slice none 0 0, .slice none 0 0, .slice none 0 0, .slice none 0 0, .slice none 0 0, .slice none 0 0, .int .i64 0, .slice none 0 0, .slice none 0 0] 39)) w3.heap.size #[.int .i64 t.now, .int .i64 t.span, .int .i64 t.kind, .int .i64 t.limit, .int .i64 t.next, .int .i64 t.lease.c, .int .i64 t.lease.m, .int .i64 t.lease.p, .slice A0 t.epochs.length c0, .slice A1 t.pools.length c1, .slice A2 t.clu.tasks.length c2, .slice A3 t.clu.nodes.length c3, .slice A4 t.clu.binds.length c4, .slice A5 t.wants.length c5, .slice A6 t.ends.length c6, .int .i64 t.seen, .slice A7 t.insts.length c7, .slice A8 t.msgs.length c8]) = X3 at HBX3 ⊢
  generalize hg3 : w3.heap.size = g3 at HBX3 ⊢
  have hC4 := below_of hC3 (by rw [hg3]; exact HBX3.out.2.1)
  have hl3' : ∀ b ∈ wldB ⟨.slice A0 t.epochs.length c0, .slice A1 t.pools.length c1, .slice A2 t.clu.tasks.length c2, .slice A3 t.clu.nodes.length c3, .slice A4 t.clu.binds.length c4, .slice A5 t.wants.length c5, .slice A6 t.ends.length c6, .slice A7 t.insts.length c7, .slice A8 t.msgs.length c8⟩ e1 e2 e3 e6, b < g3 := fun b hb => by have := hl3 b hb; omega
  have HO4 := Lib.hid (HO3.out.agree (Agree.of_below HBX3.out.2.1 hl3'))
  have HL3 := Lib.hid hl3'
  clear hl3 hl3' HO3
  go_wp2_with fail
  refine (toPoolS_o _ l _ (HL.out.below hC4) hlen).mono ?_
  rintro e w5 ⟨bx, rfl, hR5, hnd5, hlo5, hb5⟩
  generalize hz3 : X3.heap.size = z3 at hR5 hlo5 ⊢
  have ZX3 := Lib.hid (show g3 < z3 by have := HBX3.out.2.2; omega)
  have hC5 := below_of hC4 hb5
  have hS5 : PoolSl w5 _ l := hR5.sl (fun _ _ _ h => h.len) (fun _ _ _ h => h.r)
  have hbx5 := rowO_lt (fun _ _ _ h => h.lt) hR5
  have hz5 := hb5.size
  have hgX := HBX3.out.2.2
  have HS5 := Lib.hid hS5
  have HR5 := Lib.hid (And.intro hR5 (And.intro hnd5 (And.intro hlo5 hbx5)))
  have HW5 := Lib.hid (And.intro (HBX3.out.1.below hb5 HBX3.out.1.lt) (And.intro (HO4.out.agree (Agree.of_below hb5 HO4.out.lt)) hb5))
  clear hS5 hR5 hnd5 hlo5 hbx5 hb5
  go_wp2_with fail
  refine (IO.out hlen _ _ (HG.out.below hC5 (Nat.le_refl _)) HS5.out).mono ?_
  rintro e w6 ⟨sG, d1, d2, d3, d6, rfl, hO6, hnd6, hlo6, hb6⟩
  have hC6 := below_of hC5 hb6
  obtain ⟨B0, B1, B2, B3, B4, B5, B6, B7, B8, f0, f1, f2, f3, f4, f5, f6, f7, f8, rfl⟩ := hO6.wld.form
  have hl6 := hO6.lt
  have HO6 := Lib.hid (And.intro hO6 (And.intro hnd6 (And.intro hlo6 hb6)))
  have hz6 := hb6.size
  clear hO6 hnd6 hb6 hlo6
  have hbx6 := newBox w6 #[.int .i64 t.now, .int .i64 t.span, .int .i64 t.kind, .int .i64 t.limit, .int .i64 t.next, .int .i64 t.lease.c, .int .i64 t.lease.m, .int .i64 t.lease.p, .slice B0 t.epochs.length f0, .slice B1 t.pools.length f1, .slice B2 t.clu.tasks.length f2, .slice B3 t.clu.nodes.length f3, .slice B4 t.clu.binds.length f4, .slice B5 t.wants.length f5, .slice B6 t.ends.length f6, .int .i64 t.seen, .slice B7 t.insts.length f7, .slice B8 t.msgs.length f8]
  have HBX6 := Lib.hid hbx6
  clear hbx6
  go_upto_region 8 with (refine wpList_store_row rfl 39 _ _ rfl _ _ rfl rfl 39 _ (BlockIs.new w6 _ _) (by kernel_rfl) rfl (by simp [Value.oneCell']) ?_)
  generalize (World.setRow (w6.alloc (.cells #[.int .i64 0, .int .i64 0, .int .i64 0, .int .i64 0, .int .i64 0, .int .i64 0, .int .i64 0, .int .i64 0, .slice none 0 0, .slice none 0 0, .slice none 0 0, .slice none 0 0, .slice none 0 0, .slice none 0 0, .slice none 0 0, .int .i64 0, .slice none 0 0, .slice none 0 0] 39)) w6.heap.size #[.int .i64 t.now, .int .i64 t.span, .int .i64 t.kind, .int .i64 t.limit, .int .i64 t.next, .int .i64 t.lease.c, .int .i64 t.lease.m, .int .i64 t.lease.p, .slice B0 t.epochs.length f0, .slice B1 t.pools.length f1, .slice B2 t.clu.tasks.length f2, .slice B3 t.clu.nodes.length f3, .slice B4 t.clu.binds.length f4, .slice B5 t.wants.length f5, .slice B6 t.ends.length f6, .int .i64 t.seen, .slice B7 t.insts.length f7, .slice B8 t.msgs.length f8]) = X6 at HBX6 ⊢
  generalize hg6 : w6.heap.size = g6 at HBX6 ⊢
  have hX6 : Below w6.heap.size w6 X6 := by rw [hg6]; exact HBX6.out.2.1
  have hX6' := hX6
  have TW : Two w #[.int .i64 t.now, .int .i64 t.span, .int .i64 t.kind, .int .i64 t.limit, .int .i64 t.next, .int .i64 t.lease.c, .int .i64 t.lease.m, .int .i64 t.lease.p, .slice A0 t.epochs.length c0, .slice A1 t.pools.length c1, .slice A2 t.clu.tasks.length c2, .slice A3 t.clu.nodes.length c3, .slice A4 t.clu.binds.length c4, .slice A5 t.wants.length c5, .slice A6 t.ends.length c6, .int .i64 t.seen, .slice A7 t.insts.length c7, .slice A8 t.msgs.length c8] t ⟨.slice A0 t.epochs.length c0, .slice A1 t.pools.length c1, .slice A2 t.clu.tasks.length c2, .slice A3 t.clu.nodes.length c3, .slice A4 t.clu.binds.length c4, .slice A5 t.wants.length c5, .slice A6 t.ends.length c6, .slice A7 t.insts.length c7, .slice A8 t.msgs.length c8⟩ e1 e2 e3 e6 g3 #[.int .i64 t.now, .int .i64 t.span, .int .i64 t.kind, .int .i64 t.limit, .int .i64 t.next, .int .i64 t.lease.c, .int .i64 t.lease.m, .int .i64 t.lease.p, .slice B0 t.epochs.length f0, .slice B1 t.pools.length f1, .slice B2 t.clu.tasks.length f2, .slice B3 t.clu.nodes.length f3, .slice B4 t.clu.binds.length f4, .slice B5 t.wants.length f5, .slice B6 t.ends.length f6, .int .i64 t.seen, .slice B7 t.insts.length f7, .slice B8 t.msgs.length f8] t ⟨.slice B0 t.epochs.length f0, .slice B1 t.pools.length f1, .slice B2 t.clu.tasks.length f2, .slice B3 t.clu.nodes.length f3, .slice B4 t.clu.binds.length f4, .slice B5 t.wants.length f5, .slice B6 t.ends.length f6, .slice B7 t.insts.length f7, .slice B8 t.msgs.length f8⟩ d1 d2 d3 d6 g6 X6 := by
    obtain ⟨o6, n6, lo6, b6⟩ := HO6.out
    obtain ⟨bw5, ow5, b5⟩ := HW5.out
    refine ⟨(bw5.below b6 bw5.lt).below hX6 (bw5.below b6 bw5.lt).lt, (ow5.agree (Agree.of_below b6 ow5.lt)).agree (Agree.of_below hX6 (ow5.agree (Agree.of_below b6 ow5.lt)).lt), HBX6.out.1, o6.agree (Agree.of_below hX6 hl6), n6, fun b hb => ?_, below_of hC6 hX6⟩
    have h1 := lo6 b hb
    have h2 := hl6 b hb
    have h3 := hC5.size
    refine ⟨by omega, by omega, by omega, fun hx => ?_⟩
    have h4 := HL3.out b hx
    omega
  have RX : RowO PoolO 63 12 X6 (.slice (some ⟨z3, 0, none⟩) l.length l.length) l bx := by
    have r6 := HR5.out.1.agree PoolO.framed (Agree.of_below HO6.out.2.2.2 HR5.out.2.2.2)
    exact r6.agree PoolO.framed (Agree.of_below hX6 (rowO_lt (fun _ _ _ h => h.lt) r6))
  have DX : ∀ b ∈ bx, w.heap.size ≤ b ∧ b ≠ g3 ∧ b ≠ g6 ∧ b ∉ wldB ⟨.slice A0 t.epochs.length c0, .slice A1 t.pools.length c1, .slice A2 t.clu.tasks.length c2, .slice A3 t.clu.nodes.length c3, .slice A4 t.clu.binds.length c4, .slice A5 t.wants.length c5, .slice A6 t.ends.length c6, .slice A7 t.insts.length c7, .slice A8 t.msgs.length c8⟩ e1 e2 e3 e6 ∧ b ∉ wldB ⟨.slice B0 t.epochs.length f0, .slice B1 t.pools.length f1, .slice B2 t.clu.tasks.length f2, .slice B3 t.clu.nodes.length f3, .slice B4 t.clu.binds.length f4, .slice B5 t.wants.length f5, .slice B6 t.ends.length f6, .slice B7 t.insts.length f7, .slice B8 t.msgs.length f8⟩ d1 d2 d3 d6 := fun b hb => by
    have h1 := HR5.out.2.2.1 b hb
    have h2 := HR5.out.2.2.2 b hb
    have h3 := hC4.size
    have h5 := ZX3.out
    refine ⟨by omega, by omega, by omega, fun hx => ?_, fun hx => ?_⟩
    · have := HL3.out b hx; omega
    · have := HO6.out.2.2.1 b hx; omega
  have SM := Lib.hid (show t.small ∧ allPool t.pools ∧ allTask t.clu.tasks ∧ allNode t.clu.nodes ∧ t.clu.tasks.length ≤ 1048576 ∧ t.clu.nodes.length ≤ 1048576 ∧ t.clu.binds.length ≤ 1048576 from ⟨TW.oG.small, PoolRow.all TW.oG.po, TW.oG.clu.all⟩)
  have hsp := sumPool_take (PoolRow.all RX) l.length (by omega)
  rw [List.take_length] at hsp
  have hwk := (wk_bounds SM.out.1 SM.out.2.1 SM.out.2.2.1 SM.out.2.2.2.1 SM.out.2.2.2.2.1 SM.out.2.2.2.2.2.1 SM.out.2.2.2.2.2.2 (k := 1) (by omega) (by omega)).2.2.2.2.2.2
  have HND := Lib.hid HR5.out.2.1
  have HTW := Lib.hid TW
  have HRX := Lib.hid RX
  have HDX := Lib.hid DX
  clear TW RX DX HO6 HW5 HR5 HS5 HBX3 HBX6 HL3 hl6 HO4 hX6 hX6' hg6 hg3
  go_wp2_with (first | (refine wpList_load_row rfl 39 _ rfl _ rfl 39 _ (0, 0) _ HTW.out.bG Tryz.underlying39 rfl (by kernel_rfl) ?_) | (refine wpList_load_row rfl 39 _ rfl _ rfl 39 _ (0, 0) _ HTW.out.bW Tryz.underlying39 rfl (by kernel_rfl) ?_))
  refine (eqWorld_same t _ _ _ HTW.out.oG.wld HTW.out.oW.wld).mono ?_
  rintro e w7 ⟨rfl, hb7⟩
  have HRX := Lib.hid (HRX.out.agree PoolO.framed (Agree.of_below hb7 (rowO_lt (fun _ _ _ h => h.lt) HRX.out)))
  have HTW := Lib.hid (HTW.out.below hb7)
  clear hb7
  go_wp2_with fail
  refine (toPoolS_any _ l _ (HL.out.below HTW.out.c) hlen).mono ?_
  rintro e w8 ⟨rfl, hN8, hb8⟩
  have HRX := Lib.hid (HRX.out.agree PoolO.framed (Agree.of_below hb8 (rowO_lt (fun _ _ _ h => h.lt) HRX.out)))
  have HTW := Lib.hid (HTW.out.below hb8)
  have S8 := Lib.hid (show PoolSl w8 _ l from hN8.sl (fun _ _ h => h.r))
  have S8x := Lib.hid (show PoolSl w8 _ l from HRX.out.sl (fun _ _ _ h => h.len) (fun _ _ _ h => h.r))
  clear hb8 hN8
  go_wp2_with fail
  refine (eqPoolS_same _ _ l _ S8x.out S8.out hlen).mono ?_
  rintro e w9 ⟨rfl, hb9⟩
  have HRX := Lib.hid (HRX.out.agree PoolO.framed (Agree.of_below hb9 (rowO_lt (fun _ _ _ h => h.lt) HRX.out)))
  have HTW := Lib.hid (HTW.out.below hb9)
  clear hb9 S8 S8x
  go_wp2_with fail
  refine (markPoolS_any _ l bx 1 _ HRX.out HND.out (by omega) (by omega) (by omega)).mono ?_
  rintro e w10 ⟨rfl, -, hT10⟩
  have HTW := Lib.hid (HTW.out.other hT10 HDX.out)
  generalize hkk : 1 + sumPool l = kk
  have hk0 : decide (kk < 0) = false := by simp; omega
  clear hT10 HRX hkk
  go_wp2_with (first | (refine wpList_load_row rfl 39 _ rfl _ rfl 39 _ (0, 0) _ HTW.out.bG Tryz.underlying39 rfl (by kernel_rfl) ?_) | (refine wpList_load_rowG rfl 39 _ rfl _ rfl 39 _ (0, 0) _ HTW.out.bG Tryz.underlying39 rfl (by kernel_rfl) ?_) | (refine wpList_load_row rfl 39 _ rfl _ rfl 39 _ (0, 0) _ HTW.out.bW Tryz.underlying39 rfl (by kernel_rfl) ?_) | (refine wpList_load_rowG rfl 39 _ rfl _ rfl 39 _ (0, 0) _ HTW.out.bW Tryz.underlying39 rfl (by kernel_rfl) ?_))
  refine (eqWorld_same t _ _ _ HTW.out.oG.wld HTW.out.oW.wld).mono ?_
  rintro e w11 ⟨rfl, hb11⟩
  have HTW := Lib.hid (HTW.out.below hb11)
  clear hb11
  go_wp2_with (first | (refine wpList_load_row rfl 39 _ rfl _ rfl 39 _ (0, 0) _ HTW.out.bG Tryz.underlying39 rfl (by kernel_rfl) ?_))
  refine (markWorld_any t _ _ _ _ _ 1 _ HTW.out.oG HTW.out.nG (by omega) (by omega)).mono ?_
  rintro e w12 ⟨rfl, hO12, hT12⟩
  have HTW := Lib.hid (HTW.out.mark hT12 hO12)
  clear hO12 hT12
  generalize hmm : wk7 t 1 = mm at hwk ⊢
  have HMM := Lib.hid hmm
  have hm0 : decide (mm < 0) = false := by simp; omega
  have hmm1 : (mm != mm) = false := by simp
  clear hmm
  go_wp2_with (first | (refine wpList_load_row rfl 39 _ rfl _ rfl 39 _ (0, 0) _ HTW.out.bG Tryz.underlying39 rfl (by kernel_rfl) ?_))
  refine (heldWorld_any t _ 1 _ HTW.out.oG.wld SM.out.1 SM.out.2.1 SM.out.2.2.1 SM.out.2.2.2.1 SM.out.2.2.2.2.1 SM.out.2.2.2.2.2.1 SM.out.2.2.2.2.2.2 (by omega) (by omega)).mono ?_
  rw [HMM.out]
  rintro e w13 ⟨rfl, hb13⟩
  have HTW := Lib.hid (HTW.out.below hb13)
  clear hb13
  go_wp2_with fail
  refine (toPoolS_any _ l _ (HL.out.below HTW.out.c) hlen).mono ?_
  rintro e w14 ⟨rfl, hN14, hb14⟩
  have HTW := Lib.hid (HTW.out.below hb14)
  have S14 := Lib.hid (show PoolSl w14 _ l from hN14.sl (fun _ _ h => h.r))
  clear hb14 hN14
  go_wp2_with fail
  refine (IO.out hlen _ _ (HG.out.below HTW.out.c (Nat.le_refl _)) S14.out).mono ?_
  rintro e w15 ⟨sH, h1, h2, h3, h6, rfl, hO15, -, -, hb15⟩
  obtain ⟨C0, C1, C2, C3, C4, C5, C6, C7, C8, h0, h1, h2, h3, h4, h5, h6, h7, h8, rfl⟩ := hO15.wld.form
  have HTW := Lib.hid (HTW.out.below hb15)
  have HO15 := Lib.hid hO15
  clear hb15 hO15 S14
  have hbx15 := newBox w15 #[.int .i64 t.now, .int .i64 t.span, .int .i64 t.kind, .int .i64 t.limit, .int .i64 t.next, .int .i64 t.lease.c, .int .i64 t.lease.m, .int .i64 t.lease.p, .slice C0 t.epochs.length h0, .slice C1 t.pools.length h1, .slice C2 t.clu.tasks.length h2, .slice C3 t.clu.nodes.length h3, .slice C4 t.clu.binds.length h4, .slice C5 t.wants.length h5, .slice C6 t.ends.length h6, .int .i64 t.seen, .slice C7 t.insts.length h7, .slice C8 t.msgs.length h8]
  have HBX15 := Lib.hid hbx15
  clear hbx15
  go_upto_region 25 with (refine wpList_store_row rfl 39 _ _ rfl _ _ rfl rfl 39 _ (BlockIs.new w15 _ _) (by kernel_rfl) rfl (by simp [Value.oneCell']) ?_)
  generalize (World.setRow (w15.alloc (.cells #[.int .i64 0, .int .i64 0, .int .i64 0, .int .i64 0, .int .i64 0, .int .i64 0, .int .i64 0, .int .i64 0, .slice none 0 0, .slice none 0 0, .slice none 0 0, .slice none 0 0, .slice none 0 0, .slice none 0 0, .slice none 0 0, .int .i64 0, .slice none 0 0, .slice none 0 0] 39)) w15.heap.size #[.int .i64 t.now, .int .i64 t.span, .int .i64 t.kind, .int .i64 t.limit, .int .i64 t.next, .int .i64 t.lease.c, .int .i64 t.lease.m, .int .i64 t.lease.p, .slice C0 t.epochs.length h0, .slice C1 t.pools.length h1, .slice C2 t.clu.tasks.length h2, .slice C3 t.clu.nodes.length h3, .slice C4 t.clu.binds.length h4, .slice C5 t.wants.length h5, .slice C6 t.ends.length h6, .int .i64 t.seen, .slice C7 t.insts.length h7, .slice C8 t.msgs.length h8]) = X15 at HBX15 ⊢
  generalize hg15 : w15.heap.size = g15 at HBX15 ⊢
  have hX15 : Below w15.heap.size w15 X15 := by rw [hg15]; exact HBX15.out.2.1
  have HTW := Lib.hid (HTW.out.below hX15)
  have HO16 := Lib.hid (HO15.out.agree (Agree.of_below hX15 HO15.out.lt))
  clear hX15 hg15 HO15
  go_wp2_with (first | (refine wpList_load_row rfl 39 _ rfl _ rfl 39 _ (0, 0) _ HBX15.out.1 Tryz.underlying39 rfl (by kernel_rfl) ?_) | (refine wpList_load_row rfl 39 _ rfl _ rfl 39 _ (0, 0) _ HTW.out.bW Tryz.underlying39 rfl (by kernel_rfl) ?_))
  refine (eqWorld_same t _ _ _ HO16.out.wld HTW.out.oW.wld).mono ?_
  rintro e w17 ⟨rfl, hb17⟩
  have HTW := Lib.hid (HTW.out.below hb17)
  clear hb17 HO16 HBX15
  go_wp2_with (first | (refine wpList_load_row rfl 39 _ rfl _ rfl 39 _ (0, 0) _ HTW.out.bG Tryz.underlying39 rfl (by kernel_rfl) ?_))
  refine (heldWorld_any t _ 1 _ HTW.out.oG.wld SM.out.1 SM.out.2.1 SM.out.2.2.1 SM.out.2.2.2.1 SM.out.2.2.2.2.1 SM.out.2.2.2.2.2.1 SM.out.2.2.2.2.2.2 (by omega) (by omega)).mono ?_
  rw [HMM.out]
  rintro e w18 ⟨rfl, hb18⟩
  have hC18 := below_of HTW.out.c hb18
  go_wp2_with fail
  go_ret
  exact ⟨rfl, hC18⟩

theorem rowVars : ∀ n ∈ Rows.fnExactWorldNewSpec.vars, ∃ g t ms, Tryz.prog.globalNamed n = some g ∧ (Tryz.prog.globals[g]?).map (·.type) = some t ∧ Tryz.prog.underlying t = some (.interface ms) := errVars
set_option maxRecDepth 100000 in
theorem contract (H : Type) (enc : TypeId × Value → H) (W : World) (base : Nat) (args : Array Value) (ds gs : List (DataW H)) (before : List MemPlace)
    (hval : ∀ (j : Nat) t v, Tryz.f3.params[j]? = some t → args[j]? = some v → Value.okWide Tryz.prog W .any base t v)
    (hW : DataW.Whole enc Tryz.prog Tryz.f3.params.toList Rows.fnExactWorldNewSpec.vars false W args.toList ds gs before) (hL : laidMetH Tryz.prog Rows.fnExactWorldNewRow.laid W) :
    Calls Tryz.prog 3 args W fun e W' => ∃ v, e = .returned v ∧ Rows.fnExactWorldNewSpec.post enc Tryz.prog Tryz.f3 false true false false W args v W' := by
  have hW' := hW
  obtain ⟨p, q, hA0, hV, rfl, hfz, hnd⟩ := hW
  have hA : DataW.TrodAll enc Tryz.prog W 0 (fun _ => true) true Tryz.f3.params.toList args.toList ds p := hA0
  rw [Tryz.params3] at hA hval
  obtain ⟨v0, vs0, d0, ds0, p0, q0, hargs, rfl, rfl, h0, r0⟩ := trodAll_cons hA
  obtain ⟨v1, vs1, d1, ds1, p1, q1, rfl, rfl, rfl, h1, r1⟩ := trodAll_cons r0
  obtain ⟨v2, vs2, d2, ds2, p2, q2, rfl, rfl, rfl, h2, r2⟩ := trodAll_cons r1
  obtain ⟨v3, vs3, d3, ds3, p3, q3, rfl, rfl, rfl, h3, r3⟩ := trodAll_cons r2
  obtain ⟨rfl, rfl, rfl⟩ := trodAll_nil r3
  obtain rfl : args = #[v0, v1, v2, v3] := by cases args; simp_all
  rw [MakeChecks.laidMetH_plain _ _ _ (by kernel_rfl)] at hL
  obtain ⟨a0, m0, q0⟩ := open_pools (hval 0 _ v0 rfl rfl) h0
  obtain ⟨a1, rfl, rfl, rfl, wn1⟩ := open_int Tryz.underlying3 (hval 1 _ v1 rfl rfl) h1
  obtain ⟨a2, rfl, rfl, rfl, wn2⟩ := open_int Tryz.underlying3 (hval 2 _ v2 rfl rfl) h2
  obtain ⟨a3, rfl, rfl, rfl, wn3⟩ := open_int Tryz.underlying3 (hval 3 _ v3 rfl rfl) h3
  obtain ⟨gg, tt, cs, fuel, d, pp, rfl, _⟩ := trodVars_one hV
  obtain ⟨x, hg⟩ := errAt_of_laid hL
  have fin := walk v0 a0 a1 a2 a3 W x hg q0 m0
  refine fin.mono fun e W' ⟨he, hb⟩ => ?_
  subst he
  exact ⟨_, rfl, law_post Tryz.laidOut (by rw [Tryz.params3]; intro t ht; have k0 : Tryz.prog.readableRec 22 = true ∧ 22 < Tryz.prog.types.size := ⟨by kernel_rfl, of_decide_eq_true (by kernel_rfl)⟩; have k1 : Tryz.prog.readableRec 3 = true ∧ 3 < Tryz.prog.types.size := ⟨by kernel_rfl, of_decide_eq_true (by kernel_rfl)⟩; simp at ht; rcases ht with rfl | rfl; all_goals (first | with_reducible exact k0 | with_reducible exact k1)) rowVars (tb := 4) rfl Tryz.underlying4 hW' rfl hb⟩

theorem door_met (os : Os) (args : Array Value) : laidMet Tryz.prog Rows.fnExactWorldNewRow.laid ((World.doorLaid Tryz.prog 400 os).forCall (fun _ _ => 0) ⟨#[], args, []⟩).memory :=
  laidMet_of_run' 8 (by kernel_rfl) (by kernel_rfl)
set_option maxRecDepth 100000 in
theorem lifted (os : Os) (started : os.Started) (H : Type) (enc : TypeId × Value → H) (F : Stop.Interp) :
    ReturnsInHanded {} Tryz.checked os 3 .any ((OpenSpec.ofChange Rows.fnExactWorldNewSpec).preRow enc Tryz.prog Tryz.f3 Rows.fnExactWorldNewRow.domain false Rows.fnExactWorldNewRow.laid) (((OpenSpec.ofChange Rows.fnExactWorldNewSpec).at F).post enc Tryz.prog Tryz.f3 false true false false) := by
  refine returnsInHanded_of_row (C := Tryz.checked) (s := OpenSpec.ofChange Rows.fnExactWorldNewSpec) Tryz.own started (by kernel_rfl) Tryz.func3
    (witness_row_atRef (enc := enc) (C := Tryz.checked) false (World.doorLaid Tryz.prog 400 os) #[.slice none 0 0, .int .i64 0, .int .i64 0, .int .i64 0] rfl (by kernel_rfl) (by kernel_rfl) (by kernel_rfl)
      (OpenSpec.preRow_of_B rfl 8 (by kernel_rfl) (by kernel_rfl) (door_met os _))) ?_
  intro W base args ds gs before hval hW _ _ _ hL _ _
  exact contract H enc W base args ds gs before hval hW hL

theorem jIn : (Rows.fnExactWorldNewRow.inPlace == Tryz.prog.inPlace 3) = true := by kernel_rfl
theorem jUn : (Rows.fnExactWorldNewRow.unfollowed == Tryz.prog.unfollowed 3) = true := by kernel_rfl
theorem jRe : (Rows.fnExactWorldNewRow.recurses == Tryz.prog.recurses 3) = true := by kernel_rfl
theorem jNa : (Rows.fnExactWorldNewRow.named == Tryz.prog.varsNamed 3) = true := by kernel_rfl
theorem joined : joinedFacts Tryz.prog 3 Tryz.f3 (OpenSpec.ofChange Rows.fnExactWorldNewSpec).bare Rows.fnExactWorldNewRow = true :=
  joined_mk (by kernel_rfl) Tryz.laidOut pRowed (by kernel_rfl) (by kernel_rfl) rfl pStops rfl pKnobs jIn jUn jRe jNa (by kernel_rfl) (by kernel_rfl) (by kernel_rfl) (by kernel_rfl) (by kernel_rfl) (by kernel_rfl) (by kernel_rfl) (by kernel_rfl) (by kernel_rfl) pKeys (by kernel_rfl) pHeard pEnter pLifts pMake (by kernel_rfl) (by kernel_rfl) (by kernel_rfl) (by kernel_rfl)
theorem said : Rows.FnExactWorldNewSaid :=
  OpenClaim.holds_of_cond 3 Tryz.f3 rfl rfl rfl rfl rfl rfl rfl ⟨rfl, rfl, rfl, rfl, rfl⟩ rfl rfl rfl rfl rfl (by kernel_rfl) Tryz.func3 joined
    (of_decide_eq_true (by kernel_rfl)) (by unfold Func.isWrapper; first | (rw [if_pos (by decide +kernel)]; kernel_rfl) | (rw [if_neg (by decide +kernel)]; exact ⟨rfl, rfl⟩))
    (fun os started H enc _ F => by rw [OpenClaim.pre_eq_preRow]; exact lifted os started H enc F)

theorem plain (f : FuncId) (fn : Func) (hf : Tryz.pinned.checked.prog.funcNamed "loop.example/g00718/laws.FnExactWorldNew" = some f) (hfn : Tryz.pinned.checked.prog.funcs[f]? = some fn) :
    true = Tryz.pinned.checked.prog.looks [] ∧ ∀ (j : Nat) t, fn.params[j]? = some t → Tryz.pinned.checked.prog.wantsStandIn t = false := by
  obtain rfl : f = 3 := Option.some.inj ((show Tryz.prog.funcNamed "loop.example/g00718/laws.FnExactWorldNew" = some 3 by kernel_rfl).symm.trans hf) |>.symm
  obtain rfl : fn = Tryz.f3 := (Option.some.inj (Tryz.func3.symm.trans hfn)).symm
  refine ⟨by kernel_rfl, fun j t ht => ?_⟩
  rw [Tryz.params3] at ht
  have hm := Array.mem_of_getElem? ht
  have k0 : Tryz.pinned.checked.prog.wantsStandIn 22 = false := (show Tryz.prog.wantsStandIn 22 = false by kernel_rfl)
  have k1 : Tryz.pinned.checked.prog.wantsStandIn 3 = false := (show Tryz.prog.wantsStandIn 3 = false by kernel_rfl)
  simp at hm
  rcases hm with rfl | rfl
  all_goals (first | with_reducible exact k0 | with_reducible exact k1)

theorem card : Rows.FnExactWorldNewCardSaid :=
  Claim7.holds_tied_plain_at .later [] _ _ _ _ said (fun _ h => by cases h) (by kernel_rfl) (fun _ h => by cases h) fnExactWorldNew_row_tie rfl ⟨rfl, rfl⟩ (by kernel_rfl) rfl plain (by kernel_rfl)
end Go.Proofs.YtmkpajjnjgnmkabGreatDoor.fnExactWorldNew
