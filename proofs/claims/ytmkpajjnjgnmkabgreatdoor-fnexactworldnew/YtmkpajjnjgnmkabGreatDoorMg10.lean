/- A world as an argument, opened. (mkworldrow.py) The laws' szWorld and eqWorld. (mkworldeq.py) The laws' helpers that write marks and look for them, over pools: markPoolS, heldPoolS. (mkmarkp.py) The laws' helpers that write marks and look for them, over flat structs at any mark: wants, instances, messages. (mkmarkg.py) The laws' helpers that write marks and look for them, over a world: markWorld, heldWorld. (mkmarkw.py) The laws' heldWorld. (mkmarkh.py) -/
import Derived.Test.YtmkpajjnjgnmkabGreatDoorMg06
import Derived.Test.YtmkpajjnjgnmkabGreatDoorMg03
import Derived.Test.YtmkpajjnjgnmkabGreatDoorRowBase
import Derived.Test.YtmkpajjnjgnmkabGreatDoorMg02
import Derived.Deep.Slices
import Derived.Deep.Fields
import Derived.Deep.Strs
import Derived.ChangeSame
import Derived.Lib.SmallJoins
namespace Go.Proofs.YtmkpajjnjgnmkabGreatDoor
open Go.ChangeShapes Go.WideShapes Go.ChangeAt Go.RowKit Go.Joins

structure WldQ (w : World) (t : WV) (s : WS) : Prop where
  ep : IntSl w s.ep t.epochs
  po : GSl PoolQ 12 w s.po t.pools
  clu : CluQ w t.clu s.ta s.no s.bi
  wa : WantSl w s.wa t.wants
  en : IntSl w s.en t.ends
  ins : InSl w s.ins t.insts
  ms : MsgSl w s.ms t.msgs
  lep : t.epochs.length ≤ maxLen
  lpo : t.pools.length ≤ maxLen
  lwa : t.wants.length ≤ maxLen
  len : t.ends.length ≤ maxLen
  lin : t.insts.length ≤ maxLen
  lms : t.msgs.length ≤ maxLen
theorem WldQ.below {w w' : World} {t : WV} {s : WS} (h : WldQ w t s) (hb : Below w.heap.size w w') : WldQ w' t s :=
  ⟨h.ep.below hb, h.po.below PoolQ.kept hb, h.clu.below hb, h.wa.below hb, h.en.below hb, h.ins.below hb, h.ms.below hb, h.lep, h.lpo, h.lwa, h.len, h.lin, h.lms⟩
theorem WldQ.form {w : World} {t : WV} {s : WS} (h : WldQ w t s) : ∃ A0 A1 A2 A3 A4 A5 A6 A7 A8 c0 c1 c2 c3 c4 c5 c6 c7 c8, s = ⟨.slice A0 t.epochs.length c0, .slice A1 t.pools.length c1, .slice A2 t.clu.tasks.length c2, .slice A3 t.clu.nodes.length c3, .slice A4 t.clu.binds.length c4, .slice A5 t.wants.length c5, .slice A6 t.ends.length c6, .slice A7 t.insts.length c7, .slice A8 t.msgs.length c8⟩ := by
  obtain ⟨ep, po, ta, no, bi, wa, en, ins, ms⟩ := s
  obtain ⟨A0, c0, e0, _⟩ := h.ep.form
  obtain ⟨A1, c1, e1, _⟩ := h.po.form
  obtain ⟨A2, c2, e2, _⟩ := h.clu.1.form
  obtain ⟨A3, c3, e3, _⟩ := h.clu.2.1.form
  obtain ⟨A4, c4, e4, _⟩ := h.clu.2.2.1.form
  obtain ⟨A5, c5, e5, _⟩ := h.wa.form
  obtain ⟨A6, c6, e6, _⟩ := h.en.form
  obtain ⟨A7, c7, e7, _⟩ := h.ins.form
  obtain ⟨A8, c8, e8, _⟩ := h.ms.form
  simp only at e0 e1 e2 e3 e4 e5 e6 e7 e8
  subst e0 e1 e2 e3 e4 e5 e6 e7 e8
  exact ⟨A0, A1, A2, A3, A4, A5, A6, A7, A8, c0, c1, c2, c3, c4, c5, c6, c7, c8, rfl⟩
def WV.fits (t : WV) : Prop := t.small ∧ t.clu.small ∧ ∀ p ∈ t.pools, p.small
theorem WldQ.wld {w : World} {t : WV} {s : WS} (h : WldQ w t s) (hs : t.fits) : WldR w t s :=
  ⟨h.ep, h.po.small fun x hx _ ⟨v1, v2, e, a, b, _⟩ => ⟨v1, v2, e, a, b, hs.2.2 x hx⟩, h.clu.clu hs.2.1, h.wa, h.en, h.ins, h.ms, hs.1⟩

section
variable {H : Type} {enc : TypeId × Value → H} {W : World}
end
end Go.Proofs.YtmkpajjnjgnmkabGreatDoor

namespace Go.Proofs.YtmkpajjnjgnmkabGreatDoor
open Go.RowKit

set_option maxHeartbeats 6400000 in
theorem eqWorld_same (t : WV) (s u : WS) (w : World) (h : WldR w t s) (k : WldR w t u) :
    Calls Tryz.prog 8 #[.agg #[.int .i64 t.now, .int .i64 t.span, .int .i64 t.kind, .int .i64 t.limit, .int .i64 t.next, .int .i64 t.lease.c, .int .i64 t.lease.m, .int .i64 t.lease.p, s.ep, s.po, s.ta, s.no, s.bi, s.wa, s.en, .int .i64 t.seen, s.ins, s.ms], .agg #[.int .i64 t.now, .int .i64 t.span, .int .i64 t.kind, .int .i64 t.limit, .int .i64 t.next, .int .i64 t.lease.c, .int .i64 t.lease.m, .int .i64 t.lease.p, u.ep, u.po, u.ta, u.no, u.bi, u.wa, u.en, .int .i64 t.seen, u.ins, u.ms]] w fun e w' => e = .returned (.bool true) ∧ Below w.heap.size w w' := by
  have HA := Lib.hid h
  have HE := Lib.hid k
  have SM := Lib.hid h.small
  obtain ⟨A0, A1, A2, A3, A4, A5, A6, A7, A8, c0, c1, c2, c3, c4, c5, c6, c7, c8, rfl⟩ := h.form
  obtain ⟨E0, E1, E2, E3, E4, E5, E6, E7, E8, e0, e1, e2, e3, e4, e5, e6, e7, e8, rfl⟩ := k.form
  have n0 : (t.now != t.now) = false := by simp
  have n1 : (t.span != t.span) = false := by simp
  have n2 : (t.kind != t.kind) = false := by simp
  have n3 : (t.limit != t.limit) = false := by simp
  have n4 : (t.next != t.next) = false := by simp
  clear h k
  go_enter Tryz.func8, Tryz.ntmps8
  go_wp2_with fail
  have hX : Below w.heap.size w ((w.alloc (.cells #[.int .i64 t.now, .int .i64 t.span, .int .i64 t.kind, .int .i64 t.limit, .int .i64 t.next, .int .i64 t.lease.c, .int .i64 t.lease.m, .int .i64 t.lease.p, .slice A0 t.epochs.length c0, .slice A1 t.pools.length c1, .slice A2 t.clu.tasks.length c2, .slice A3 t.clu.nodes.length c3, .slice A4 t.clu.binds.length c4, .slice A5 t.wants.length c5, .slice A6 t.ends.length c6, .int .i64 t.seen, .slice A7 t.insts.length c7, .slice A8 t.msgs.length c8] 39)).alloc (.cells #[.int .i64 t.now, .int .i64 t.span, .int .i64 t.kind, .int .i64 t.limit, .int .i64 t.next, .int .i64 t.lease.c, .int .i64 t.lease.m, .int .i64 t.lease.p, .slice E0 t.epochs.length e0, .slice E1 t.pools.length e1, .slice E2 t.clu.tasks.length e2, .slice E3 t.clu.nodes.length e3, .slice E4 t.clu.binds.length e4, .slice E5 t.wants.length e5, .slice E6 t.ends.length e6, .int .i64 t.seen, .slice E7 t.insts.length e7, .slice E8 t.msgs.length e8] 39)) := (by repeat' (first | exact Below.refl _ _ | refine Below.alloc ?_ ?_ _ | refine Below.setCell ?_ ?_ _ | refine Below.drew ?_ | (apply below_step; assumption) | (simp; done) | (simp; omega) | omega))
  have HB0 := Lib.hid (BlockIs.alloc (BlockIs.new w 39 #[.int .i64 t.now, .int .i64 t.span, .int .i64 t.kind, .int .i64 t.limit, .int .i64 t.next, .int .i64 t.lease.c, .int .i64 t.lease.m, .int .i64 t.lease.p, .slice A0 t.epochs.length c0, .slice A1 t.pools.length c1, .slice A2 t.clu.tasks.length c2, .slice A3 t.clu.nodes.length c3, .slice A4 t.clu.binds.length c4, .slice A5 t.wants.length c5, .slice A6 t.ends.length c6, .int .i64 t.seen, .slice A7 t.insts.length c7, .slice A8 t.msgs.length c8]) (.cells #[.int .i64 t.now, .int .i64 t.span, .int .i64 t.kind, .int .i64 t.limit, .int .i64 t.next, .int .i64 t.lease.c, .int .i64 t.lease.m, .int .i64 t.lease.p, .slice E0 t.epochs.length e0, .slice E1 t.pools.length e1, .slice E2 t.clu.tasks.length e2, .slice E3 t.clu.nodes.length e3, .slice E4 t.clu.binds.length e4, .slice E5 t.wants.length e5, .slice E6 t.ends.length e6, .int .i64 t.seen, .slice E7 t.insts.length e7, .slice E8 t.msgs.length e8] 39))
  have HB1 := Lib.hid (BlockIs.new' (w := w.alloc (.cells #[.int .i64 t.now, .int .i64 t.span, .int .i64 t.kind, .int .i64 t.limit, .int .i64 t.next, .int .i64 t.lease.c, .int .i64 t.lease.m, .int .i64 t.lease.p, .slice A0 t.epochs.length c0, .slice A1 t.pools.length c1, .slice A2 t.clu.tasks.length c2, .slice A3 t.clu.nodes.length c3, .slice A4 t.clu.binds.length c4, .slice A5 t.wants.length c5, .slice A6 t.ends.length c6, .int .i64 t.seen, .slice A7 t.insts.length c7, .slice A8 t.msgs.length c8] 39)) (g := w.heap.size + 1) (t := 39) (cs := #[.int .i64 t.now, .int .i64 t.span, .int .i64 t.kind, .int .i64 t.limit, .int .i64 t.next, .int .i64 t.lease.c, .int .i64 t.lease.m, .int .i64 t.lease.p, .slice E0 t.epochs.length e0, .slice E1 t.pools.length e1, .slice E2 t.clu.tasks.length e2, .slice E3 t.clu.nodes.length e3, .slice E4 t.clu.binds.length e4, .slice E5 t.wants.length e5, .slice E6 t.ends.length e6, .int .i64 t.seen, .slice E7 t.insts.length e7, .slice E8 t.msgs.length e8]) (by simp))
  refine (eqLease_same t.lease _).mono ?_
  rintro e w1 ⟨rfl, hb1⟩
  have hC1 := below_of hX hb1
  have B0 := HB0.out.below hb1 HB0.out.lt
  have B1 := HB1.out.below hb1 HB1.out.lt
  have x8 := B0.cell 8
  have z8 := B1.cell 8
  simp at x8 z8
  have HB0 := Lib.hid B0
  have HB1 := Lib.hid B1
  clear B0 B1 hb1 hX
  go_wp2_with fail
  refine (eqIntS_same _ _ t.epochs _ (HA.out.below hC1).ep (HE.out.below hC1).ep SM.out.1).mono ?_
  rintro e w2 ⟨rfl, hb2⟩
  have hC2 := below_of hC1 hb2
  have B0 := HB0.out.below hb2 HB0.out.lt
  have B1 := HB1.out.below hb2 HB1.out.lt
  have x9 := B0.cell 9
  have z9 := B1.cell 9
  simp at x9 z9
  have HB0 := Lib.hid B0
  have HB1 := Lib.hid B1
  clear B0 B1 hb2
  go_wp2_with fail
  refine (eqPoolS_same _ _ t.pools _ (HA.out.below hC2).po (HE.out.below hC2).po SM.out.2.1).mono ?_
  rintro e w3 ⟨rfl, hb3⟩
  have hC3 := below_of hC2 hb3
  have B0 := HB0.out.below hb3 HB0.out.lt
  have B1 := HB1.out.below hb3 HB1.out.lt
  have x10 := B0.cell 10
  have z10 := B1.cell 10
  have x11 := B0.cell 11
  have z11 := B1.cell 11
  have x12 := B0.cell 12
  have z12 := B1.cell 12
  simp at x10 z10 x11 z11 x12 z12
  have HB0 := Lib.hid B0
  have HB1 := Lib.hid B1
  clear B0 B1 hb3
  go_wp2_with fail
  refine (eqCluster_same t.clu _ _ _ _ _ _ _ (HA.out.below hC3).clu (HE.out.below hC3).clu).mono ?_
  rintro e w4 ⟨rfl, hb4⟩
  have hC4 := below_of hC3 hb4
  have B0 := HB0.out.below hb4 HB0.out.lt
  have B1 := HB1.out.below hb4 HB1.out.lt
  have x13 := B0.cell 13
  have z13 := B1.cell 13
  simp at x13 z13
  have HB0 := Lib.hid B0
  have HB1 := Lib.hid B1
  clear B0 B1 hb4
  go_wp2_with fail
  refine (eqWantS_same _ _ t.wants _ (HA.out.below hC4).wa (HE.out.below hC4).wa SM.out.2.2.1).mono ?_
  rintro e w5 ⟨rfl, hb5⟩
  have hC5 := below_of hC4 hb5
  have B0 := HB0.out.below hb5 HB0.out.lt
  have B1 := HB1.out.below hb5 HB1.out.lt
  have x14 := B0.cell 14
  have z14 := B1.cell 14
  simp at x14 z14
  have HB0 := Lib.hid B0
  have HB1 := Lib.hid B1
  clear B0 B1 hb5
  go_wp2_with fail
  refine (eqIntS_same _ _ t.ends _ (HA.out.below hC5).en (HE.out.below hC5).en SM.out.2.2.2.1).mono ?_
  rintro e w6 ⟨rfl, hb6⟩
  have hC6 := below_of hC5 hb6
  have B0 := HB0.out.below hb6 HB0.out.lt
  have B1 := HB1.out.below hb6 HB1.out.lt
  have x15 := B0.cell 15
  have z15 := B1.cell 15
  have x16 := B0.cell 16
  have z16 := B1.cell 16
  simp at x15 z15 x16 z16
  have HB0 := Lib.hid B0
  have HB1 := Lib.hid B1
  clear B0 B1 hb6
  go_wp2_with fail
  refine (eqProv_same t.seen _ _ t.insts _ (HA.out.below hC6).ins (HE.out.below hC6).ins SM.out.2.2.2.2.1).mono ?_
  rintro e w7 ⟨rfl, hb7⟩
  have hC7 := below_of hC6 hb7
  have B0 := HB0.out.below hb7 HB0.out.lt
  have B1 := HB1.out.below hb7 HB1.out.lt
  have x17 := B0.cell 17
  have z17 := B1.cell 17
  simp at x17 z17
  have HB0 := Lib.hid B0
  have HB1 := Lib.hid B1
  clear B0 B1 hb7
  go_wp2_with fail
  refine (eqMsgS_same _ _ t.msgs _ (HA.out.below hC7).ms (HE.out.below hC7).ms SM.out.2.2.2.2.2).mono ?_
  rintro e w8 ⟨rfl, hb8⟩
  have hC8 := below_of hC7 hb8
  go_wp2_with fail
  go_ret
  exact ⟨rfl, hC8⟩
end Go.Proofs.YtmkpajjnjgnmkabGreatDoor

namespace Go.Proofs.YtmkpajjnjgnmkabGreatDoor
open Go.RowKit

def szPool (t : PV) : Int := 10 + 2 * t.shape.labs.length + t.shape.taints.length
def mPool (k : Int) (t : PV) : PV := ⟨k, k + 1, k + 1 + 1, k + 1 + 1 + 1, ⟨k + 1 + 1 + 1 + 1, k + 1 + 1 + 1 + 1 + 1, ⟨k + 1 + 1 + 1 + 1 + 1 + 1, k + 1 + 1 + 1 + 1 + 1 + 1 + 1, k + 1 + 1 + 1 + 1 + 1 + 1 + 1 + 1⟩, mLabs (k + 1 + 1 + 1 + 1 + 1 + 1 + 1 + 1 + 1) t.shape.labs.length, mInts (k + 1 + 1 + 1 + 1 + 1 + 1 + 1 + 1 + 1 + 2 * t.shape.labs.length) t.shape.taints.length, ((k + 1 + 1 + 1 + 1 + 1 + 1 + 1 + 1 + 1 + 2 * t.shape.labs.length + t.shape.taints.length) % 3 == 0)⟩⟩
def sumPool : List PV → Int
  | [] => 0
  | t :: r => szPool t + sumPool r
def mPools : Int → List PV → List PV
  | _, [] => []
  | k, t :: r => mPool k t :: mPools (k + szPool t) r
theorem sumPool_snoc (l : List PV) (t : PV) : sumPool (l ++ [t]) = sumPool l + szPool t := by
  induction l with
  | nil => simp [sumPool]
  | cons x r ih => simp only [List.cons_append, sumPool, ih]; omega
theorem mPools_snoc (k : Int) (l : List PV) (t : PV) : mPools k (l ++ [t]) = mPools k l ++ [mPool (k + sumPool l) t] := by
  induction l generalizing k with
  | nil => simp [mPools, sumPool]
  | cons x r ih =>
    simp only [List.cons_append, mPools, ih, sumPool]
    rw [show k + szPool x + sumPool r = k + (szPool x + sumPool r) by omega]
theorem mPools_len (k : Int) (l : List PV) : (mPools k l).length = l.length := by
  induction l generalizing k with
  | nil => rfl
  | cons x r ih => simp [mPools, ih]
theorem mPools_at (k : Int) {l : List PV} {i : Nat} {t : PV} (h : l[i]? = some t) : (mPools k l)[i]? = some (mPool (k + sumPool (l.take i)) t) := by
  induction l generalizing k i with
  | nil => simp at h
  | cons x r ih =>
    cases i with
    | zero => simp at h; subst h; simp [mPools, sumPool]
    | succ i =>
      simp at h
      rw [mPools, List.getElem?_cons_succ, ih _ h]
      simp only [List.take_succ_cons, sumPool]
      rw [show k + szPool x + sumPool (r.take i) = k + (szPool x + sumPool (r.take i)) by omega]
theorem sumPool_nonneg (l : List PV) : 0 ≤ sumPool l := by
  induction l with
  | nil => simp [sumPool]
  | cons x r ih => simp only [sumPool, szPool]; omega
def allPool (l : List PV) : Prop := ∀ t ∈ l, t.shape.labs.length ≤ 1048576 ∧ t.shape.taints.length ≤ 1048576
theorem sumPool_le {l : List PV} (h : allPool l) : sumPool l ≤ l.length * 3200000 := by
  induction l with
  | nil => simp [sumPool]
  | cons x r ih =>
    have h1 := h x (by simp)
    have h2 := ih (fun t ht => h t (by simp [ht]))
    simp only [sumPool, szPool, List.length_cons, Int.natCast_add, Int.natCast_one]
    omega
theorem sumPool_take {l : List PV} (h : allPool l) (i : Nat) (hl : l.length ≤ 1100000) : 0 ≤ sumPool (l.take i) ∧ sumPool (l.take i) ≤ 3520000000000 := by
  refine ⟨sumPool_nonneg _, ?_⟩
  have h1 := sumPool_le (l := l.take i) (fun t ht => h t (List.mem_of_mem_take ht))
  have h2 : (l.take i).length ≤ l.length := by rw [List.length_take]; omega
  omega
theorem elems_allPool {w : World} {l : List PV} {xs : List Value} {bs : List Nat} (h : Elems PoolO w l xs bs) : allPool l := by
  induction l generalizing xs bs with
  | nil => intro t ht; cases ht
  | cons x r ih =>
    obtain ⟨cs, ys, b1, b2, rfl, rfl, ⟨v1, v2, _, _, _, _, m⟩, h2⟩ := h
    intro t ht
    rcases List.mem_cons.1 ht with rfl | ht
    · exact m
    · exact ih h2 t ht
set_option maxRecDepth 20000 in
set_option maxHeartbeats 12800000 in
theorem markPoolS_any (v : Value) (l : List PV) (bs : List Nat) (k : Int) (w : World) (h : RowO PoolO 63 12 w v l bs) (hnd : bs.Nodup) (hl : l.length ≤ 1100000) (h0 : 0 ≤ k) (hk : k ≤ 576460752303423488) :
    Calls Tryz.prog 10 #[v, .int .i64 k] w fun e w' => e = .returned (.int .i64 (k + sumPool l)) ∧ RowO PoolO 63 12 w' v (mPools k l) bs ∧ TurnB bs w w' := by
  obtain ⟨xs, b, hown, hel, rfl⟩ := h
  have HALL := Lib.hid (elems_allPool hel)
  obtain ⟨A, c, rfl, _⟩ := own_form hown
  have HO := Lib.hid (And.intro hown hel)
  have HND := Lib.hid hnd
  clear hown hel hnd
  go_enter Tryz.func10, Tryz.ntmps10
  go_wp2_with fail
  go_loopw [1, 5] (fun s1 s5 wr => ∃ (i : Nat) (xa xb : List Value) (ba bb : List Nat), i ≤ l.length ∧ s5 = .int .i64 i ∧ s1 = .int .i64 (k + sumPool (l.take i)) ∧ wr.ownsRow 0 63 12 (.slice A l.length c) l.length (xa ++ xb) ∧ Elems PoolO wr (mPools k (l.take i)) xa ba ∧ Elems PoolO wr (l.drop i) xb bb ∧ b = ba ++ bb ∧ TurnB (blk (.slice A l.length c) ++ b) w wr) (fun _ s5 _ => (l.length - intOf s5).toNat)
  case atStart => exact ⟨0, [], xs, [], b, by omega, rfl, by simp [sumPool], HO.out.1, ⟨rfl, rfl⟩, HO.out.2, rfl, TurnB.refl _ _⟩
  case round =>
    obtain ⟨i, xa, xb, ba, bb, hi, rfl, rfl, hown, hea, heb, hbe, htn⟩ := hrel
    obtain ⟨hs0, hs1⟩ := sumPool_take HALL.out i hl
    by_cases hlt : i < l.length
    · obtain ⟨t, ht⟩ : ∃ t, l[i]? = some t := ⟨_, List.getElem?_eq_getElem hlt⟩
      rw [drop_at ht] at heb
      obtain ⟨cs, ys, b1, b2, rfl, rfl, hR, hel2⟩ := heb
      obtain ⟨v1, v2, rfl, h1, h2, rfl, m1, m2⟩ := hR
      obtain ⟨A1, c1, rfl, _⟩ := own_form h1
      obtain ⟨A2, c2, rfl, _⟩ := own_form h2
      obtain ⟨g, cap, e, hgl, hcell, hfr⟩ := own_cells hown (by omega)
      simp only [Value.slice.injEq] at e
      obtain ⟨rfl, -, rfl⟩ := e
      have hxl : xa.length = i * 12 := by rw [hea.len (fun _ _ _ h => h.len), mPools_len, List.length_take, Nat.min_eq_left hi]
      have nd := HND.out
      rw [hbe] at nd
      obtain ⟨da, d1, d2, dc⟩ := nd5 nd
      have u0 := hcell (i * 12 + 0) _ (by rw [List.getElem?_append_right (by omega), hxl, Nat.add_sub_cancel_left]; rfl); have u1 := hcell (i * 12 + 1) _ (by rw [List.getElem?_append_right (by omega), hxl, Nat.add_sub_cancel_left]; rfl); have u2 := hcell (i * 12 + 2) _ (by rw [List.getElem?_append_right (by omega), hxl, Nat.add_sub_cancel_left]; rfl); have u3 := hcell (i * 12 + 3) _ (by rw [List.getElem?_append_right (by omega), hxl, Nat.add_sub_cancel_left]; rfl); have u4 := hcell (i * 12 + 4) _ (by rw [List.getElem?_append_right (by omega), hxl, Nat.add_sub_cancel_left]; rfl); have u5 := hcell (i * 12 + 5) _ (by rw [List.getElem?_append_right (by omega), hxl, Nat.add_sub_cancel_left]; rfl); have u6 := hcell (i * 12 + 6) _ (by rw [List.getElem?_append_right (by omega), hxl, Nat.add_sub_cancel_left]; rfl); have u7 := hcell (i * 12 + 7) _ (by rw [List.getElem?_append_right (by omega), hxl, Nat.add_sub_cancel_left]; rfl); have u8 := hcell (i * 12 + 8) _ (by rw [List.getElem?_append_right (by omega), hxl, Nat.add_sub_cancel_left]; rfl); have u9 := hcell (i * 12 + 9) _ (by rw [List.getElem?_append_right (by omega), hxl, Nat.add_sub_cancel_left]; rfl); have u10 := hcell (i * 12 + 10) _ (by rw [List.getElem?_append_right (by omega), hxl, Nat.add_sub_cancel_left]; rfl); have u11 := hcell (i * 12 + 11) _ (by rw [List.getElem?_append_right (by omega), hxl, Nat.add_sub_cancel_left]; rfl)
      simp only [Nat.add_zero] at u0
      generalize hK : k + sumPool (l.take i) = K
      have hK0 : 0 ≤ K := by omega
      have hK1 : K ≤ 576464272303423488 := by omega
      have HKK := Lib.hid hK
      have HT := Lib.hid (And.intro ht hbe)
      have HX := Lib.hid (And.intro hown (And.intro hea (And.intro hel2 (And.intro h1 h2))))
      have HD := Lib.hid (And.intro da (And.intro d1 (And.intro d2 dc)))
      have HXL := Lib.hid hxl
      have HTN := Lib.hid htn
      have hlti : (i : Int) < (l.length : Int) := by omega
      clear hown hea hel2 h1 h2 hcell hxl htn ht hbe nd da d1 d2 dc hK hs0 hs1
      go_wp2_with fail
      have hT5 : TurnB [g] wr (World.setCell (World.setCell (World.setCell (World.setCell (World.setCell (World.setCell (World.setCell (World.setCell (World.setCell wr ⟨g, i * 12, none⟩ (.int .i64 K)) ⟨g, i * 12 + 1, none⟩ (.int .i64 (K + 1))) ⟨g, i * 12 + 2, none⟩ (.int .i64 (K + 1 + 1))) ⟨g, i * 12 + 3, none⟩ (.int .i64 (K + 1 + 1 + 1))) ⟨g, i * 12 + 4, none⟩ (.int .i64 (K + 1 + 1 + 1 + 1))) ⟨g, i * 12 + 4 + 1, none⟩ (.int .i64 (K + 1 + 1 + 1 + 1 + 1))) ⟨g, i * 12 + 4 + 2, none⟩ (.int .i64 (K + 1 + 1 + 1 + 1 + 1 + 1))) ⟨g, i * 12 + 4 + 2 + 1, none⟩ (.int .i64 (K + 1 + 1 + 1 + 1 + 1 + 1 + 1))) ⟨g, i * 12 + 4 + 2 + 2, none⟩ (.int .i64 (K + 1 + 1 + 1 + 1 + 1 + 1 + 1 + 1))) := TurnB.put (TurnB.put (TurnB.put (TurnB.put (TurnB.put (TurnB.put (TurnB.put (TurnB.put (TurnB.put (TurnB.refl _ _) (List.mem_singleton.2 rfl) _ _) (List.mem_singleton.2 rfl) _ _) (List.mem_singleton.2 rfl) _ _) (List.mem_singleton.2 rfl) _ _) (List.mem_singleton.2 rfl) _ _) (List.mem_singleton.2 rfl) _ _) (List.mem_singleton.2 rfl) _ _) (List.mem_singleton.2 rfl) _ _) (List.mem_singleton.2 rfl) _ _
      have hO5 : World.ownsRow (World.setCell (World.setCell (World.setCell (World.setCell (World.setCell (World.setCell (World.setCell (World.setCell (World.setCell wr ⟨g, i * 12, none⟩ (.int .i64 K)) ⟨g, i * 12 + 1, none⟩ (.int .i64 (K + 1))) ⟨g, i * 12 + 2, none⟩ (.int .i64 (K + 1 + 1))) ⟨g, i * 12 + 3, none⟩ (.int .i64 (K + 1 + 1 + 1))) ⟨g, i * 12 + 4, none⟩ (.int .i64 (K + 1 + 1 + 1 + 1))) ⟨g, i * 12 + 4 + 1, none⟩ (.int .i64 (K + 1 + 1 + 1 + 1 + 1))) ⟨g, i * 12 + 4 + 2, none⟩ (.int .i64 (K + 1 + 1 + 1 + 1 + 1 + 1))) ⟨g, i * 12 + 4 + 2 + 1, none⟩ (.int .i64 (K + 1 + 1 + 1 + 1 + 1 + 1 + 1))) ⟨g, i * 12 + 4 + 2 + 2, none⟩ (.int .i64 (K + 1 + 1 + 1 + 1 + 1 + 1 + 1 + 1))) 0 63 12 (.slice (some ⟨g, 0, none⟩) l.length c) l.length (xa ++ ([.int .i64 K, .int .i64 (K + 1), .int .i64 (K + 1 + 1), .int .i64 (K + 1 + 1 + 1), .int .i64 (K + 1 + 1 + 1 + 1), .int .i64 (K + 1 + 1 + 1 + 1 + 1), .int .i64 (K + 1 + 1 + 1 + 1 + 1 + 1), .int .i64 (K + 1 + 1 + 1 + 1 + 1 + 1 + 1), .int .i64 (K + 1 + 1 + 1 + 1 + 1 + 1 + 1 + 1)] ++ ([.slice A1 t.shape.labs.length c1, .slice A2 t.shape.taints.length c2, .bool t.shape.cordon] ++ ys))) := by
        have st := own_put (v := .slice (some ⟨g, 0, none⟩) l.length c) (g := g) (xa := xa) (cs := [.int .i64 t.id, .int .i64 t.min, .int .i64 t.max, .int .i64 t.prio, .int .i64 t.shape.id, .int .i64 t.shape.pool, .int .i64 t.shape.cap.c, .int .i64 t.shape.cap.m, .int .i64 t.shape.cap.p]) (xb := [.slice A1 t.shape.labs.length c1, .slice A2 t.shape.taints.length c2, .bool t.shape.cordon] ++ ys) (ds := [.int .i64 K, .int .i64 (K + 1), .int .i64 (K + 1 + 1), .int .i64 (K + 1 + 1 + 1), .int .i64 (K + 1 + 1 + 1 + 1), .int .i64 (K + 1 + 1 + 1 + 1 + 1), .int .i64 (K + 1 + 1 + 1 + 1 + 1 + 1), .int .i64 (K + 1 + 1 + 1 + 1 + 1 + 1 + 1), .int .i64 (K + 1 + 1 + 1 + 1 + 1 + 1 + 1 + 1)]) HX.out.1 rfl rfl
        rw [HXL.out] at st
        exact st
      generalize (World.setCell (World.setCell (World.setCell (World.setCell (World.setCell (World.setCell (World.setCell (World.setCell (World.setCell wr ⟨g, i * 12, none⟩ (.int .i64 K)) ⟨g, i * 12 + 1, none⟩ (.int .i64 (K + 1))) ⟨g, i * 12 + 2, none⟩ (.int .i64 (K + 1 + 1))) ⟨g, i * 12 + 3, none⟩ (.int .i64 (K + 1 + 1 + 1))) ⟨g, i * 12 + 4, none⟩ (.int .i64 (K + 1 + 1 + 1 + 1))) ⟨g, i * 12 + 4 + 1, none⟩ (.int .i64 (K + 1 + 1 + 1 + 1 + 1))) ⟨g, i * 12 + 4 + 2, none⟩ (.int .i64 (K + 1 + 1 + 1 + 1 + 1 + 1))) ⟨g, i * 12 + 4 + 2 + 1, none⟩ (.int .i64 (K + 1 + 1 + 1 + 1 + 1 + 1 + 1))) ⟨g, i * 12 + 4 + 2 + 2, none⟩ (.int .i64 (K + 1 + 1 + 1 + 1 + 1 + 1 + 1 + 1))) = W5 at hT5 hO5 ⊢
      obtain ⟨hown, hea, hel2, h1, h2⟩ := HX.out
      obtain ⟨da, d1, d2, dc⟩ := HD.out
      have h15 := own_agree h1 (hT5.agree (fun b hb => ⟨own_lt h1 b hb, by simpa using (d1 b hb).1⟩))
      refine (markLabS_any _ t.shape.labs _ _ h15 m1 (by omega) (by omega)).mono ?_
      rintro e w3 ⟨rfl, hL3, hg3⟩
      have hT3 : TurnB (blk (.slice A1 t.shape.labs.length c1)) W5 w3 := TurnB.of_grown hg3 (fun k e => blk_mem e)
      have hO3 := own_agree hO5 (hT3.agree (fun b hb => by
        obtain rfl : b = g := by simpa [blk, Value.ownBlock] using hb
        exact ⟨own_lt hO5 b (by simp [blk, Value.ownBlock]), fun hx => (d1 b hx).1 rfl⟩))
      have h25 := own_agree h2 (hT5.agree (fun b hb => ⟨own_lt h2 b hb, by simpa using (d2 b hb).1⟩))
      have h23 := own_agree h25 (hT3.agree (fun b hb => ⟨own_lt h25 b hb, (d2 b hb).2⟩))
      have uf := own_frozen hO3 (by omega)
      have z6 := own_cell hO3 (j := i * 12 + 10) (by rw [List.getElem?_append_right (by rw [HXL.out]; omega), HXL.out, Nat.add_sub_cancel_left]; rfl)
      have z7 := own_cell hO3 (j := i * 12 + 11) (by rw [List.getElem?_append_right (by rw [HXL.out]; omega), HXL.out, Nat.add_sub_cancel_left]; rfl)
      have HO3 := Lib.hid hO3
      have H23 := Lib.hid h23
      have HL3 := Lib.hid hL3
      have HT5 := Lib.hid hT5
      have HT3 := Lib.hid hT3
      clear hown hea hel2 h1 h2 da d1 d2 dc h15 h25 h23 hO3 hL3 hg3 hT3 hT5 hO5 u0 u1 u2 u3 u4 u5 u6 u7 u8 u9 u10 u11
      go_wp2_with fail
      refine (markIntS_any _ t.shape.taints _ _ H23.out m2 (by omega) (by omega)).mono ?_
      rintro e w4 ⟨rfl, hI4, hg4⟩
      have hT4 : TurnB (blk (.slice A2 t.shape.taints.length c2)) w3 w4 := TurnB.of_grown hg4 (fun k e => blk_mem e)
      obtain ⟨da, d1, d2, dc⟩ := HD.out
      have hO4 := own_agree HO3.out (hT4.agree (fun b hb => by
        obtain rfl : b = g := by simpa [blk, Value.ownBlock] using hb
        exact ⟨own_lt HO3.out b (by simp [blk, Value.ownBlock]), fun hx => (d2 b hx).1 rfl⟩))
      have hL4 : LabO w4 _ _ := own_agree HL3.out (hT4.agree (fun b hb => ⟨own_lt HL3.out b hb, (d1 b hb).2⟩))
      have uf := own_frozen hO4 (by omega)
      have z7 := own_cell hO4 (j := i * 12 + 11) (by rw [List.getElem?_append_right (by rw [HXL.out]; omega), HXL.out, Nat.add_sub_cancel_left]; rfl)
      have HO4 := Lib.hid hO4
      have HL4 := Lib.hid hL4
      have HI4 := Lib.hid (show IntO w4 _ _ from hI4)
      have HT4 := Lib.hid hT4
      clear da d1 d2 dc hO4 hL4 hI4 hg4 hT4 z6 HO3 HL3 H23
      go_wp2_with fail
      go_roundw
      case rel =>
        obtain ⟨hown, hea, hel2, -, -⟩ := HX.out
        obtain ⟨da, d1, d2, dc⟩ := HD.out
        obtain ⟨ht, hbe⟩ := HT.out
        have hT : TurnB (g :: (blk (.slice A1 t.shape.labs.length c1) ++ blk (.slice A2 t.shape.taints.length c2))) wr w4 := ((HT5.out.mono (by simp)).trans (HT3.out.mono (fun b hb => by simp [hb]))).trans (HT4.out.mono (fun b hb => by simp [hb]))
        
        
        
        
        have hS6 : TurnB [g] w4 (w4.setCell ⟨g, i * 12 + 4 + 7, none⟩ (.bool ((K + 1 + 1 + 1 + 1 + 1 + 1 + 1 + 1 + 1 + 2 * t.shape.labs.length + t.shape.taints.length) % 3 == 0))) := TurnB.put (TurnB.refl _ _) (List.mem_singleton.2 rfl) _ _
        have hO6 : World.ownsRow (w4.setCell ⟨g, i * 12 + 4 + 7, none⟩ (.bool ((K + 1 + 1 + 1 + 1 + 1 + 1 + 1 + 1 + 1 + 2 * t.shape.labs.length + t.shape.taints.length) % 3 == 0))) 0 63 12 (.slice (some ⟨g, 0, none⟩) l.length c) l.length (xa ++ ([.int .i64 K, .int .i64 (K + 1), .int .i64 (K + 1 + 1), .int .i64 (K + 1 + 1 + 1), .int .i64 (K + 1 + 1 + 1 + 1), .int .i64 (K + 1 + 1 + 1 + 1 + 1), .int .i64 (K + 1 + 1 + 1 + 1 + 1 + 1), .int .i64 (K + 1 + 1 + 1 + 1 + 1 + 1 + 1), .int .i64 (K + 1 + 1 + 1 + 1 + 1 + 1 + 1 + 1)] ++ ([.slice A1 t.shape.labs.length c1, .slice A2 t.shape.taints.length c2, .bool ((K + 1 + 1 + 1 + 1 + 1 + 1 + 1 + 1 + 1 + 2 * t.shape.labs.length + t.shape.taints.length) % 3 == 0)] ++ ys))) := by
          have e4 : @Eq (List Value) (xa ++ ([.int .i64 K, .int .i64 (K + 1), .int .i64 (K + 1 + 1), .int .i64 (K + 1 + 1 + 1), .int .i64 (K + 1 + 1 + 1 + 1), .int .i64 (K + 1 + 1 + 1 + 1 + 1), .int .i64 (K + 1 + 1 + 1 + 1 + 1 + 1), .int .i64 (K + 1 + 1 + 1 + 1 + 1 + 1 + 1), .int .i64 (K + 1 + 1 + 1 + 1 + 1 + 1 + 1 + 1)] ++ ([.slice A1 t.shape.labs.length c1, .slice A2 t.shape.taints.length c2, .bool t.shape.cordon] ++ ys))) ((xa ++ [.int .i64 K, .int .i64 (K + 1), .int .i64 (K + 1 + 1), .int .i64 (K + 1 + 1 + 1), .int .i64 (K + 1 + 1 + 1 + 1), .int .i64 (K + 1 + 1 + 1 + 1 + 1), .int .i64 (K + 1 + 1 + 1 + 1 + 1 + 1), .int .i64 (K + 1 + 1 + 1 + 1 + 1 + 1 + 1), .int .i64 (K + 1 + 1 + 1 + 1 + 1 + 1 + 1 + 1), .slice A1 t.shape.labs.length c1, .slice A2 t.shape.taints.length c2]) ++ ([.bool t.shape.cordon] ++ ys)) := by simp
          have h4 := HO4.out
          rw [e4] at h4
          have st := own_put (v := .slice (some ⟨g, 0, none⟩) l.length c) (g := g) (ds := [.bool ((K + 1 + 1 + 1 + 1 + 1 + 1 + 1 + 1 + 1 + 2 * t.shape.labs.length + t.shape.taints.length) % 3 == 0)]) h4 rfl rfl
          have el : List.length (α := Value) (xa ++ [.int .i64 K, .int .i64 (K + 1), .int .i64 (K + 1 + 1), .int .i64 (K + 1 + 1 + 1), .int .i64 (K + 1 + 1 + 1 + 1), .int .i64 (K + 1 + 1 + 1 + 1 + 1), .int .i64 (K + 1 + 1 + 1 + 1 + 1 + 1), .int .i64 (K + 1 + 1 + 1 + 1 + 1 + 1 + 1), .int .i64 (K + 1 + 1 + 1 + 1 + 1 + 1 + 1 + 1), .slice A1 t.shape.labs.length c1, .slice A2 t.shape.taints.length c2]) = i * 12 + 4 + 7 := by rw [List.length_append, HXL.out]; rfl
          rw [el] at st
          have e5 : @Eq (List Value) ((xa ++ [.int .i64 K, .int .i64 (K + 1), .int .i64 (K + 1 + 1), .int .i64 (K + 1 + 1 + 1), .int .i64 (K + 1 + 1 + 1 + 1), .int .i64 (K + 1 + 1 + 1 + 1 + 1), .int .i64 (K + 1 + 1 + 1 + 1 + 1 + 1), .int .i64 (K + 1 + 1 + 1 + 1 + 1 + 1 + 1), .int .i64 (K + 1 + 1 + 1 + 1 + 1 + 1 + 1 + 1), .slice A1 t.shape.labs.length c1, .slice A2 t.shape.taints.length c2]) ++ ([.bool ((K + 1 + 1 + 1 + 1 + 1 + 1 + 1 + 1 + 1 + 2 * t.shape.labs.length + t.shape.taints.length) % 3 == 0)] ++ ys)) (xa ++ ([.int .i64 K, .int .i64 (K + 1), .int .i64 (K + 1 + 1), .int .i64 (K + 1 + 1 + 1), .int .i64 (K + 1 + 1 + 1 + 1), .int .i64 (K + 1 + 1 + 1 + 1 + 1), .int .i64 (K + 1 + 1 + 1 + 1 + 1 + 1), .int .i64 (K + 1 + 1 + 1 + 1 + 1 + 1 + 1), .int .i64 (K + 1 + 1 + 1 + 1 + 1 + 1 + 1 + 1)] ++ ([.slice A1 t.shape.labs.length c1, .slice A2 t.shape.taints.length c2, .bool ((K + 1 + 1 + 1 + 1 + 1 + 1 + 1 + 1 + 1 + 2 * t.shape.labs.length + t.shape.taints.length) % 3 == 0)] ++ ys))) := by simp
          rw [e5] at st
          exact st
        have hL6 : LabO (w4.setCell ⟨g, i * 12 + 4 + 7, none⟩ (.bool ((K + 1 + 1 + 1 + 1 + 1 + 1 + 1 + 1 + 1 + 2 * t.shape.labs.length + t.shape.taints.length) % 3 == 0))) _ _ := own_agree HL4.out (hS6.agree (fun b hb => ⟨own_lt HL4.out b hb, by simpa using (d1 b hb).1⟩))
        have hI6 : IntO (w4.setCell ⟨g, i * 12 + 4 + 7, none⟩ (.bool ((K + 1 + 1 + 1 + 1 + 1 + 1 + 1 + 1 + 1 + 2 * t.shape.labs.length + t.shape.taints.length) % 3 == 0))) _ _ := own_agree HI4.out (hS6.agree (fun b hb => ⟨own_lt HI4.out b hb, by simpa using (d2 b hb).1⟩))
        have hT6 := hT.trans (hS6.mono (by simp))
        have hea6 := hea.agree PoolO.framed (hT6.agree (fun b hb => ⟨elems_lt (fun _ _ _ h => h.lt) hea b hb, by simpa [not_or] using da b hb⟩))
        have hel6 := hel2.agree PoolO.framed (hT6.agree (fun b hb => ⟨elems_lt (fun _ _ _ h => h.lt) hel2 b hb, by simpa [not_or] using dc b hb⟩))
        refine ⟨i + 1, xa ++ [.int .i64 K, .int .i64 (K + 1), .int .i64 (K + 1 + 1), .int .i64 (K + 1 + 1 + 1), .int .i64 (K + 1 + 1 + 1 + 1), .int .i64 (K + 1 + 1 + 1 + 1 + 1), .int .i64 (K + 1 + 1 + 1 + 1 + 1 + 1), .int .i64 (K + 1 + 1 + 1 + 1 + 1 + 1 + 1), .int .i64 (K + 1 + 1 + 1 + 1 + 1 + 1 + 1 + 1), .slice A1 t.shape.labs.length c1, .slice A2 t.shape.taints.length c2, .bool ((K + 1 + 1 + 1 + 1 + 1 + 1 + 1 + 1 + 1 + 2 * t.shape.labs.length + t.shape.taints.length) % 3 == 0)], ys, ba ++ (blk (.slice A1 t.shape.labs.length c1) ++ blk (.slice A2 t.shape.taints.length c2)), b2, by omega, by go_num, ?_, ?_, ?_, hel6, by rw [hbe]; simp, HTN.out.trans (hT6.mono (fun b hb => ?_))⟩
        · rw [take_at ht, sumPool_snoc]
          have := HKK.out
          unfold szPool
          congr 1; omega
        · rw [List.append_assoc]; exact hO6
        · rw [take_at ht, mPools_snoc, HKK.out]
          refine hea6.snoc ?_
          unfold PoolO
          refine ⟨.slice A1 t.shape.labs.length c1, .slice A2 t.shape.taints.length c2, ?_, ?_, ?_, rfl, ?_, ?_⟩
          · simp only [mPool]
          · simpa [mPool, mLabs_len, LabO] using hL6
          · simpa [mPool, mInts_len, IntO] using hI6
          · simpa [mPool, mLabs_len] using m1
          · simpa [mPool, mInts_len] using m2
        · rw [hbe]
          rcases List.mem_cons.1 hb with rfl | hb
          · simp [blk, Value.ownBlock]
          · exact List.mem_append_right _ (List.mem_append_right _ (List.mem_append_left _ hb))
      case measure => simp [intOf]; omega
    · obtain rfl : i = l.length := by omega
      have HX := Lib.hid (And.intro hown (And.intro hea (And.intro heb htn)))
      have HBE := Lib.hid hbe
      clear hown hea heb htn hbe
      rw [List.take_length] at hs0 hs1 ⊢
      go_wp2_with fail
      go_ret
      obtain ⟨hown, hea, heb, htn⟩ := HX.out
      rw [List.drop_length] at heb
      obtain ⟨rfl, rfl⟩ := heb
      rw [List.append_nil] at hown
      have hbe := HBE.out
      rw [List.append_nil] at hbe
      subst hbe
      rw [List.take_length] at hea
      exact ⟨rfl, ⟨xa, b, by rw [mPools_len]; exact hown, hea, rfl⟩, htn⟩
set_option maxRecDepth 20000 in
set_option maxHeartbeats 6400000 in
theorem heldPoolS_any (v : Value) (l : List PV) (k : Int) (w : World) (h : PoolSl w v (mPools k l)) (hall : allPool l) (hl : l.length ≤ 1100000) (h0 : 0 ≤ k) (hk : k ≤ 576460752303423488) :
    Calls Tryz.prog 33 #[v, .int .i64 k] w fun e w' => e = .returned (.int .i64 (k + sumPool l)) ∧ w = w' := by
  obtain ⟨A, c, rfl, hA⟩ := h.form
  rw [mPools_len] at hA ⊢
  have HA := Lib.hid hA
  have HALL := Lib.hid hall
  clear hA h hall
  go_enter Tryz.func33, Tryz.ntmps33
  go_wp2_with fail
  go_loop [1, 5] (fun s1 s5 => ∃ i : Nat, i ≤ l.length ∧ s5 = .int .i64 i ∧ s1 = .int .i64 (k + sumPool (l.take i))) (fun _ s5 => (l.length - intOf s5).toNat)
  case atStart => exact ⟨0, by omega, rfl, by simp [sumPool]⟩
  case round =>
    obtain ⟨i, hi, rfl, rfl⟩ := hrel
    obtain ⟨hs0, hs1⟩ := sumPool_take HALL.out i hl
    by_cases hlt : i < l.length
    · obtain ⟨b, off, rfl, hbw, hat⟩ := HA.out (by omega)
      obtain ⟨t, ht⟩ : ∃ t, l[i]? = some t := ⟨_, List.getElem?_eq_getElem hlt⟩
      obtain ⟨cs, hR, hC⟩ := hat i _ (mPools_at k ht)
      obtain ⟨m1, m2⟩ := HALL.out t (List.mem_of_getElem? ht)
      generalize hK : k + sumPool (l.take i) = K at hR ⊢
      obtain ⟨v1, v2, rfl, h1, h2, -, -⟩ := hR
      have e1 : (mPool K t).shape.labs = mLabs (K + 1 + 1 + 1 + 1 + 1 + 1 + 1 + 1 + 1) t.shape.labs.length := rfl
      have e2 : (mPool K t).shape.taints = mInts (K + 1 + 1 + 1 + 1 + 1 + 1 + 1 + 1 + 1 + 2 * t.shape.labs.length) t.shape.taints.length := rfl
      rw [e1] at h1
      rw [e2] at h2
      have hL := heldLabS_any v1 t.shape.labs.length (K + 1 + 1 + 1 + 1 + 1 + 1 + 1 + 1 + 1) w h1 m1 (by omega) (by omega)
      have hI := heldIntS_any v2 t.shape.taints.length (K + 1 + 1 + 1 + 1 + 1 + 1 + 1 + 1 + 1 + 2 * t.shape.labs.length) w h2 m2 (by omega) (by omega)
      obtain ⟨A1, c1, rfl, _⟩ := h1.form
      obtain ⟨A2, c2, rfl, _⟩ := h2.form
      rw [mLabs_len] at hL hC
      rw [mInts_len] at hI hC
      obtain ⟨q0, q1, q2, q3, q4, q5, q6, q7, q8, q9, q10, q11⟩ := pool_cells hC
      simp only [mPool] at q0 q1 q2 q3 q4 q5 q6 q7 q8 q11
      have HL := Lib.hid hL
      have HI := Lib.hid hI
      have HKK := Lib.hid hK
      have HT := Lib.hid ht
      have hK0 : 0 ≤ K := by omega
      have hK1 : K ≤ 576464272303423488 := by omega
      have n0 := neq_self K
      have n1 := neq_self (K + 1)
      have n2 := neq_self (K + 1 + 1)
      have n3 := neq_self (K + 1 + 1 + 1)
      have n4 := neq_self (K + 1 + 1 + 1 + 1)
      have n5 := neq_self (K + 1 + 1 + 1 + 1 + 1)
      have n6 := neq_self (K + 1 + 1 + 1 + 1 + 1 + 1)
      have n7 := neq_self (K + 1 + 1 + 1 + 1 + 1 + 1 + 1)
      have n8 := neq_self (K + 1 + 1 + 1 + 1 + 1 + 1 + 1 + 1)
      have p1 : decide (K + 1 + 1 + 1 + 1 + 1 + 1 + 1 + 1 + 1 + 2 * (t.shape.labs.length : Int) < 0) = false := by simp; omega
      have p2 : decide (K + 1 + 1 + 1 + 1 + 1 + 1 + 1 + 1 + 1 + 2 * (t.shape.labs.length : Int) + (t.shape.taints.length : Int) < 0) = false := by simp; omega
      have n11 := neq_selfB ((K + 1 + 1 + 1 + 1 + 1 + 1 + 1 + 1 + 1 + 2 * (t.shape.labs.length : Int) + (t.shape.taints.length : Int)) % 3 == 0)
      have hlti : (i : Int) < (l.length : Int) := by omega
      clear hat hC h1 h2 hL hI e1 e2 hK ht hs0 hs1
      go_wp2_with fail
      refine HL.out.mono ?_
      rintro e w2 ⟨rfl, rfl⟩
      go_wp2_with fail
      refine HI.out.mono ?_
      rintro e w3 ⟨rfl, rfl⟩
      go_wp2_with fail
      go_round
      case rel =>
        refine ⟨i + 1, by omega, by go_num, ?_⟩
        rw [take_at HT.out, sumPool_snoc]
        have := HKK.out
        unfold szPool
        congr 1; omega
      case measure => simp [intOf]; omega
    · obtain rfl : i = l.length := by omega
      rw [List.take_length] at hs0 hs1 ⊢
      go_wp2_with fail
      go_ret
      exact ⟨rfl, rfl⟩
end Go.Proofs.YtmkpajjnjgnmkabGreatDoor

namespace Go.Proofs.YtmkpajjnjgnmkabGreatDoor
open Go.RowKit

def flWant (l : List BV) : List Value := l.flatMap fun x => [.int .i64 x.task, .int .i64 x.node]
theorem flWant_len (l : List BV) : (flWant l).length = l.length * 2 := by
  induction l with
  | nil => rfl
  | cons x r ih => rw [show flWant (x :: r) = [.int .i64 x.task, .int .i64 x.node] ++ flWant r from rfl, List.length_append, ih]; simp only [List.length_cons, List.length_nil]; omega
theorem flWant_cons (x : BV) (r : List BV) : flWant (x :: r) = [.int .i64 x.task, .int .i64 x.node] ++ flWant r := rfl
theorem flWant_snoc (a : List BV) (x : BV) : flWant (a ++ [x]) = flWant a ++ [.int .i64 x.task, .int .i64 x.node] := by simp [flWant]
def mWants : Int → Nat → List BV
  | _, 0 => []
  | k, n + 1 => ⟨k, k + 1⟩ :: mWants (k + 2) n
theorem mWants_len (k : Int) (n : Nat) : (mWants k n).length = n := by
  induction n generalizing k with
  | zero => rfl
  | succ n ih => simp [mWants, ih]
theorem mWants_snoc (k : Int) (n : Nat) : mWants k (n + 1) = mWants k n ++ [⟨k + 2 * n, k + 2 * n + 1⟩] := by
  induction n generalizing k with
  | zero => simp [mWants]
  | succ n ih =>
    rw [mWants, ih (k + 2)]
    simp only [mWants, List.cons_append, Int.natCast_add, Int.natCast_one]
    rw [show k + 2 + 2 * (n : Int) = k + 2 * ((n : Int) + 1) by omega]
theorem mWants_at (k : Int) {n i : Nat} (h : i < n) : (mWants k n)[i]? = some ⟨k + 2 * i, k + 2 * i + 1⟩ := by
  induction n generalizing k i with
  | zero => omega
  | succ n ih =>
    cases i with
    | zero => simp [mWants]
    | succ i =>
      rw [mWants, List.getElem?_cons_succ, ih (k + 2) (by omega)]
      congr 2 <;> omega
theorem flWant_xs {w : World} {l : List BV} {xs : List Value} {b : List Nat} (h : Elems WantO w l xs b) : xs = flWant l ∧ b = [] := by
  induction l generalizing xs b with
  | nil => exact h
  | cons x r ih =>
    obtain ⟨cs, ys, b1, b2, rfl, rfl, ⟨rfl, rfl⟩, h2⟩ := h
    obtain ⟨rfl, rfl⟩ := ih h2
    exact ⟨rfl, rfl⟩
theorem flWant_el (w : World) (l : List BV) : Elems WantO w l (flWant l) [] := by
  induction l with
  | nil => exact ⟨rfl, rfl⟩
  | cons x r ih => exact ⟨[.int .i64 x.task, .int .i64 x.node], flWant r, [], [], rfl, rfl, ⟨rfl, rfl⟩, ih⟩
set_option maxHeartbeats 3200000 in
theorem markWantG_any (v : Value) (l : List BV) (bs : List Nat) (k : Int) (w : World) (h : RowO WantO 93 2 w v l bs) (hl : l.length ≤ 1100000) (h0 : 0 ≤ k) (hk : k ≤ 1152921504606846976) :
    Calls Tryz.prog 29 #[v, .int .i64 k] w fun e w' => e = .returned (.int .i64 (k + 2 * l.length)) ∧ RowO WantO 93 2 w' v (mWants k l.length) bs ∧ w.grownBy w' v.ownBlock := by
  obtain ⟨xs, b, h, hel, rfl⟩ := h
  obtain ⟨rfl, rfl⟩ := flWant_xs hel
  clear hel
  obtain ⟨A, c, rfl, _⟩ := own_form h
  have HO := Lib.hid h
  clear h
  go_enter Tryz.func29, Tryz.ntmps29
  go_wp2_with fail
  go_loopw [1, 5] (fun s1 s5 wr => ∃ i : Nat, i ≤ l.length ∧ s5 = .int .i64 i ∧ s1 = .int .i64 (k + 2 * i) ∧ wr.ownsRow 0 93 2 (.slice A l.length c) l.length (flWant (mWants k i) ++ flWant (l.drop i)) ∧ w.grownBy wr (Value.slice A l.length c).ownBlock) (fun _ s5 _ => (l.length - intOf s5).toNat)
  case atStart => exact ⟨0, by omega, rfl, by simp, HO.out, grownBy_refl _ _⟩
  case round =>
    obtain ⟨i, hi, rfl, rfl, hown, hg⟩ := hrel
    by_cases hlt : i < l.length
    · obtain ⟨r, hr⟩ : ∃ r, l[i]? = some r := ⟨_, List.getElem?_eq_getElem hlt⟩
      obtain ⟨g, cap, e, hgl, hcell, hfr⟩ := own_cells hown (by omega)
      simp only [Value.slice.injEq] at e
      obtain ⟨rfl, -, rfl⟩ := e
      rw [drop_at hr, flWant_cons] at hown hcell
      have hxl : (flWant (mWants k i)).length = i * 2 := by rw [flWant_len, mWants_len]
      have u0 := hcell (i * 2) (.int .i64 r.task) (by rw [List.getElem?_append_right (by omega), hxl]; simp)
      have u1 := hcell (i * 2 + 1) (.int .i64 r.node) (by rw [List.getElem?_append_right (by omega), hxl]; simp)
      have HX := Lib.hid hown
      have HG := Lib.hid hg
      have HXL := Lib.hid hxl
      have hlti : (i : Int) < (l.length : Int) := by omega
      clear hown hg hcell hxl hr
      go_wp2_with fail
      go_roundw
      case rel =>
        refine ⟨i + 1, by omega, by go_num, by go_num, ?_, grown_set (grown_set HG.out rfl _ _) rfl _ _⟩
        have st := own_put (g := g) (xa := flWant (mWants k i)) (cs := [.int .i64 r.task, .int .i64 r.node]) (ds := [.int .i64 (k + 2 * i), .int .i64 (k + 2 * i + 1)]) HX.out rfl rfl
        rw [HXL.out] at st
        rw [mWants_snoc, flWant_snoc, List.append_assoc]
        exact st
      case measure => simp [intOf]; omega
    · obtain rfl : i = l.length := by omega
      have HX := Lib.hid hown
      have HG := Lib.hid hg
      clear hown hg
      go_wp2_with fail
      go_ret
      refine ⟨rfl, ⟨flWant (mWants k l.length), [], ?_, flWant_el _ _, rfl⟩, HG.out⟩
      have := HX.out
      rw [List.drop_length] at this
      skip
      rw [mWants_len]
      simpa [flWant] using this

set_option maxHeartbeats 1600000 in
theorem heldWantG_any (v : Value) (n : Nat) (k : Int) (w : World) (h : WantSl w v (mWants k n)) (hl : n ≤ 1100000) (h0 : 0 ≤ k) (hk : k ≤ 1152921504606846976) :
    Calls Tryz.prog 35 #[v, .int .i64 k] w fun e w' => e = .returned (.int .i64 (k + 2 * n)) ∧ w = w' := by
  obtain ⟨A, c, rfl, hA⟩ := h.form
  rw [mWants_len] at hA ⊢
  have HA := Lib.hid hA
  clear hA h
  go_enter Tryz.func35, Tryz.ntmps35
  go_wp2_with fail
  go_loop [1, 5] (fun s1 s5 => ∃ i : Nat, i ≤ n ∧ s5 = .int .i64 i ∧ s1 = .int .i64 (k + 2 * i)) (fun _ s5 => (n - intOf s5).toNat)
  case atStart => exact ⟨0, by omega, rfl, by simp⟩
  case round =>
    obtain ⟨i, hi, rfl, rfl⟩ := hrel
    by_cases hlt : i < n
    · obtain ⟨b, off, rfl, hbw, hat⟩ := HA.out (by omega)
      obtain ⟨cs, hR, hC⟩ := hat i _ (mWants_at k hlt)
      obtain rfl := hR
      obtain ⟨u0, u1⟩ := want_cells hC
      simp only at u0 u1
      clear hat hC
      have n0 : ((k + 2 * (i : Int)) != (k + 2 * (i : Int))) = false := by simp
      have n1 : ((k + 2 * (i : Int) + 1) != (k + 2 * (i : Int) + 1)) = false := by simp
      have hlti : (i : Int) < (n : Int) := by omega
      go_wp2_with fail
      go_round
      case rel => exact ⟨i + 1, by omega, by go_num, by go_num⟩
      case measure => simp [intOf]; omega
    · obtain rfl : i = n := by omega
      go_wp2_with fail
      go_ret
      exact ⟨rfl, rfl⟩

theorem flInst_len (l : List RV) : (inL l).length = l.length * 3 := by
  induction l with
  | nil => rfl
  | cons x r ih => rw [show inL (x :: r) = [.int .i64 x.c, .int .i64 x.m, .int .i64 x.p] ++ inL r from rfl, List.length_append, ih]; simp only [List.length_cons, List.length_nil]; omega
theorem flInst_cons (x : RV) (r : List RV) : inL (x :: r) = [.int .i64 x.c, .int .i64 x.m, .int .i64 x.p] ++ inL r := rfl
theorem flInst_snoc (a : List RV) (x : RV) : inL (a ++ [x]) = inL a ++ [.int .i64 x.c, .int .i64 x.m, .int .i64 x.p] := by simp [inL]
def mInsts : Int → Nat → List RV
  | _, 0 => []
  | k, n + 1 => ⟨k, k + 1, k + 1 + 1⟩ :: mInsts (k + 3) n
theorem mInsts_len (k : Int) (n : Nat) : (mInsts k n).length = n := by
  induction n generalizing k with
  | zero => rfl
  | succ n ih => simp [mInsts, ih]
theorem mInsts_snoc (k : Int) (n : Nat) : mInsts k (n + 1) = mInsts k n ++ [⟨k + 3 * n, k + 3 * n + 1, k + 3 * n + 1 + 1⟩] := by
  induction n generalizing k with
  | zero => simp [mInsts]
  | succ n ih =>
    rw [mInsts, ih (k + 3)]
    simp only [mInsts, List.cons_append, Int.natCast_add, Int.natCast_one]
    rw [show k + 3 + 3 * (n : Int) = k + 3 * ((n : Int) + 1) by omega]
theorem mInsts_at (k : Int) {n i : Nat} (h : i < n) : (mInsts k n)[i]? = some ⟨k + 3 * i, k + 3 * i + 1, k + 3 * i + 1 + 1⟩ := by
  induction n generalizing k i with
  | zero => omega
  | succ n ih =>
    cases i with
    | zero => simp [mInsts]
    | succ i =>
      rw [mInsts, List.getElem?_cons_succ, ih (k + 3) (by omega)]
      congr 2 <;> omega
set_option maxHeartbeats 3200000 in
theorem markInstG_any (v : Value) (l : List RV) (k : Int) (w : World) (h : OwnsN w 0 v l) (hl : l.length ≤ 1100000) (h0 : 0 ≤ k) (hk : k ≤ 1152921504606846976) :
    Calls Tryz.prog 78 #[v, .int .i64 k] w fun e w' => e = .returned (.int .i64 (k + 3 * l.length)) ∧ OwnsN w' 0 v (mInsts k l.length) ∧ w.grownBy w' v.ownBlock := by
  replace h : w.ownsRow 0 95 3 v l.length (inL l) := h
  obtain ⟨A, c, rfl, _⟩ := own_form h
  have HO := Lib.hid h
  clear h
  go_enter Tryz.func78, Tryz.ntmps78
  go_wp2_with fail
  go_loopw [1, 5] (fun s1 s5 wr => ∃ i : Nat, i ≤ l.length ∧ s5 = .int .i64 i ∧ s1 = .int .i64 (k + 3 * i) ∧ wr.ownsRow 0 95 3 (.slice A l.length c) l.length (inL (mInsts k i) ++ inL (l.drop i)) ∧ w.grownBy wr (Value.slice A l.length c).ownBlock) (fun _ s5 _ => (l.length - intOf s5).toNat)
  case atStart => exact ⟨0, by omega, rfl, by simp, HO.out, grownBy_refl _ _⟩
  case round =>
    obtain ⟨i, hi, rfl, rfl, hown, hg⟩ := hrel
    by_cases hlt : i < l.length
    · obtain ⟨r, hr⟩ : ∃ r, l[i]? = some r := ⟨_, List.getElem?_eq_getElem hlt⟩
      obtain ⟨g, cap, e, hgl, hcell, hfr⟩ := own_cells hown (by omega)
      simp only [Value.slice.injEq] at e
      obtain ⟨rfl, -, rfl⟩ := e
      rw [drop_at hr, flInst_cons] at hown hcell
      have hxl : (inL (mInsts k i)).length = i * 3 := by rw [flInst_len, mInsts_len]
      have u0 := hcell (i * 3) (.int .i64 r.c) (by rw [List.getElem?_append_right (by omega), hxl]; simp)
      have u1 := hcell (i * 3 + 1) (.int .i64 r.m) (by rw [List.getElem?_append_right (by omega), hxl]; simp)
      have u2 := hcell (i * 3 + 2) (.int .i64 r.p) (by rw [List.getElem?_append_right (by omega), hxl]; simp)
      have HX := Lib.hid hown
      have HG := Lib.hid hg
      have HXL := Lib.hid hxl
      have hlti : (i : Int) < (l.length : Int) := by omega
      clear hown hg hcell hxl hr
      go_wp2_with fail
      go_roundw
      case rel =>
        refine ⟨i + 1, by omega, by go_num, by go_num, ?_, grown_set (grown_set (grown_set HG.out rfl _ _) rfl _ _) rfl _ _⟩
        have st := own_put (g := g) (xa := inL (mInsts k i)) (cs := [.int .i64 r.c, .int .i64 r.m, .int .i64 r.p]) (ds := [.int .i64 (k + 3 * i), .int .i64 (k + 3 * i + 1), .int .i64 (k + 3 * i + 1 + 1)]) HX.out rfl rfl
        rw [HXL.out] at st
        rw [mInsts_snoc, flInst_snoc, List.append_assoc]
        exact st
      case measure => simp [intOf]; omega
    · obtain rfl : i = l.length := by omega
      have HX := Lib.hid hown
      have HG := Lib.hid hg
      clear hown hg
      go_wp2_with fail
      go_ret
      refine ⟨rfl, ?_, HG.out⟩
      have := HX.out
      rw [List.drop_length] at this
      unfold OwnsN
      rw [mInsts_len]
      simpa [inL] using this

set_option maxHeartbeats 1600000 in
theorem heldInstG_any (v : Value) (n : Nat) (k : Int) (w : World) (h : InSl w v (mInsts k n)) (hl : n ≤ 1100000) (h0 : 0 ≤ k) (hk : k ≤ 1152921504606846976) :
    Calls Tryz.prog 83 #[v, .int .i64 k] w fun e w' => e = .returned (.int .i64 (k + 3 * n)) ∧ w = w' := by
  obtain ⟨A, c, rfl, hA⟩ := h.form
  rw [mInsts_len] at hA ⊢
  have HA := Lib.hid hA
  clear hA h
  go_enter Tryz.func83, Tryz.ntmps83
  go_wp2_with fail
  go_loop [1, 5] (fun s1 s5 => ∃ i : Nat, i ≤ n ∧ s5 = .int .i64 i ∧ s1 = .int .i64 (k + 3 * i)) (fun _ s5 => (n - intOf s5).toNat)
  case atStart => exact ⟨0, by omega, rfl, by simp⟩
  case round =>
    obtain ⟨i, hi, rfl, rfl⟩ := hrel
    by_cases hlt : i < n
    · obtain ⟨b, off, rfl, hbw, hat⟩ := HA.out (by omega)
      obtain ⟨u0, u1, u2⟩ := hat i _ (mInsts_at k hlt)
      simp only at u0 u1 u2
      clear hat
      have n0 : ((k + 3 * (i : Int)) != (k + 3 * (i : Int))) = false := by simp
      have n1 : ((k + 3 * (i : Int) + 1) != (k + 3 * (i : Int) + 1)) = false := by simp
      have n2 : ((k + 3 * (i : Int) + 1 + 1) != (k + 3 * (i : Int) + 1 + 1)) = false := by simp
      have hlti : (i : Int) < (n : Int) := by omega
      go_wp2_with fail
      go_round
      case rel => exact ⟨i + 1, by omega, by go_num, by go_num⟩
      case measure => simp [intOf]; omega
    · obtain rfl : i = n := by omega
      go_wp2_with fail
      go_ret
      exact ⟨rfl, rfl⟩

def flMsg (l : List MV) : List Value := l.flatMap fun x => [.int .i64 x.k, .int .i64 x.e, .int .i64 x.i, .int .i64 x.p]
theorem flMsg_len (l : List MV) : (flMsg l).length = l.length * 4 := by
  induction l with
  | nil => rfl
  | cons x r ih => rw [show flMsg (x :: r) = [.int .i64 x.k, .int .i64 x.e, .int .i64 x.i, .int .i64 x.p] ++ flMsg r from rfl, List.length_append, ih]; simp only [List.length_cons, List.length_nil]; omega
theorem flMsg_cons (x : MV) (r : List MV) : flMsg (x :: r) = [.int .i64 x.k, .int .i64 x.e, .int .i64 x.i, .int .i64 x.p] ++ flMsg r := rfl
theorem flMsg_snoc (a : List MV) (x : MV) : flMsg (a ++ [x]) = flMsg a ++ [.int .i64 x.k, .int .i64 x.e, .int .i64 x.i, .int .i64 x.p] := by simp [flMsg]
def mMsgs : Int → Nat → List MV
  | _, 0 => []
  | k, n + 1 => ⟨k, k + 1, k + 1 + 1, k + 1 + 1 + 1⟩ :: mMsgs (k + 4) n
theorem mMsgs_len (k : Int) (n : Nat) : (mMsgs k n).length = n := by
  induction n generalizing k with
  | zero => rfl
  | succ n ih => simp [mMsgs, ih]
theorem mMsgs_snoc (k : Int) (n : Nat) : mMsgs k (n + 1) = mMsgs k n ++ [⟨k + 4 * n, k + 4 * n + 1, k + 4 * n + 1 + 1, k + 4 * n + 1 + 1 + 1⟩] := by
  induction n generalizing k with
  | zero => simp [mMsgs]
  | succ n ih =>
    rw [mMsgs, ih (k + 4)]
    simp only [mMsgs, List.cons_append, Int.natCast_add, Int.natCast_one]
    rw [show k + 4 + 4 * (n : Int) = k + 4 * ((n : Int) + 1) by omega]
theorem mMsgs_at (k : Int) {n i : Nat} (h : i < n) : (mMsgs k n)[i]? = some ⟨k + 4 * i, k + 4 * i + 1, k + 4 * i + 1 + 1, k + 4 * i + 1 + 1 + 1⟩ := by
  induction n generalizing k i with
  | zero => omega
  | succ n ih =>
    cases i with
    | zero => simp [mMsgs]
    | succ i =>
      rw [mMsgs, List.getElem?_cons_succ, ih (k + 4) (by omega)]
      congr 2 <;> omega
theorem flMsg_xs {w : World} {l : List MV} {xs : List Value} {b : List Nat} (h : Elems MsgO w l xs b) : xs = flMsg l ∧ b = [] := by
  induction l generalizing xs b with
  | nil => exact h
  | cons x r ih =>
    obtain ⟨cs, ys, b1, b2, rfl, rfl, ⟨rfl, rfl⟩, h2⟩ := h
    obtain ⟨rfl, rfl⟩ := ih h2
    exact ⟨rfl, rfl⟩
theorem flMsg_el (w : World) (l : List MV) : Elems MsgO w l (flMsg l) [] := by
  induction l with
  | nil => exact ⟨rfl, rfl⟩
  | cons x r ih => exact ⟨[.int .i64 x.k, .int .i64 x.e, .int .i64 x.i, .int .i64 x.p], flMsg r, [], [], rfl, rfl, ⟨rfl, rfl⟩, ih⟩
set_option maxHeartbeats 3200000 in
theorem markMsgG_any (v : Value) (l : List MV) (bs : List Nat) (k : Int) (w : World) (h : RowO MsgO 88 4 w v l bs) (hl : l.length ≤ 1100000) (h0 : 0 ≤ k) (hk : k ≤ 1152921504606846976) :
    Calls Tryz.prog 31 #[v, .int .i64 k] w fun e w' => e = .returned (.int .i64 (k + 4 * l.length)) ∧ RowO MsgO 88 4 w' v (mMsgs k l.length) bs ∧ w.grownBy w' v.ownBlock := by
  obtain ⟨xs, b, h, hel, rfl⟩ := h
  obtain ⟨rfl, rfl⟩ := flMsg_xs hel
  clear hel
  obtain ⟨A, c, rfl, _⟩ := own_form h
  have HO := Lib.hid h
  clear h
  go_enter Tryz.func31, Tryz.ntmps31
  go_wp2_with fail
  go_loopw [1, 5] (fun s1 s5 wr => ∃ i : Nat, i ≤ l.length ∧ s5 = .int .i64 i ∧ s1 = .int .i64 (k + 4 * i) ∧ wr.ownsRow 0 88 4 (.slice A l.length c) l.length (flMsg (mMsgs k i) ++ flMsg (l.drop i)) ∧ w.grownBy wr (Value.slice A l.length c).ownBlock) (fun _ s5 _ => (l.length - intOf s5).toNat)
  case atStart => exact ⟨0, by omega, rfl, by simp, HO.out, grownBy_refl _ _⟩
  case round =>
    obtain ⟨i, hi, rfl, rfl, hown, hg⟩ := hrel
    by_cases hlt : i < l.length
    · obtain ⟨r, hr⟩ : ∃ r, l[i]? = some r := ⟨_, List.getElem?_eq_getElem hlt⟩
      obtain ⟨g, cap, e, hgl, hcell, hfr⟩ := own_cells hown (by omega)
      simp only [Value.slice.injEq] at e
      obtain ⟨rfl, -, rfl⟩ := e
      rw [drop_at hr, flMsg_cons] at hown hcell
      have hxl : (flMsg (mMsgs k i)).length = i * 4 := by rw [flMsg_len, mMsgs_len]
      have u0 := hcell (i * 4) (.int .i64 r.k) (by rw [List.getElem?_append_right (by omega), hxl]; simp)
      have u1 := hcell (i * 4 + 1) (.int .i64 r.e) (by rw [List.getElem?_append_right (by omega), hxl]; simp)
      have u2 := hcell (i * 4 + 2) (.int .i64 r.i) (by rw [List.getElem?_append_right (by omega), hxl]; simp)
      have u3 := hcell (i * 4 + 3) (.int .i64 r.p) (by rw [List.getElem?_append_right (by omega), hxl]; simp)
      have HX := Lib.hid hown
      have HG := Lib.hid hg
      have HXL := Lib.hid hxl
      have hlti : (i : Int) < (l.length : Int) := by omega
      clear hown hg hcell hxl hr
      go_wp2_with fail
      go_roundw
      case rel =>
        refine ⟨i + 1, by omega, by go_num, by go_num, ?_, grown_set (grown_set (grown_set (grown_set HG.out rfl _ _) rfl _ _) rfl _ _) rfl _ _⟩
        have st := own_put (g := g) (xa := flMsg (mMsgs k i)) (cs := [.int .i64 r.k, .int .i64 r.e, .int .i64 r.i, .int .i64 r.p]) (ds := [.int .i64 (k + 4 * i), .int .i64 (k + 4 * i + 1), .int .i64 (k + 4 * i + 1 + 1), .int .i64 (k + 4 * i + 1 + 1 + 1)]) HX.out rfl rfl
        rw [HXL.out] at st
        rw [mMsgs_snoc, flMsg_snoc, List.append_assoc]
        exact st
      case measure => simp [intOf]; omega
    · obtain rfl : i = l.length := by omega
      have HX := Lib.hid hown
      have HG := Lib.hid hg
      clear hown hg
      go_wp2_with fail
      go_ret
      refine ⟨rfl, ⟨flMsg (mMsgs k l.length), [], ?_, flMsg_el _ _, rfl⟩, HG.out⟩
      have := HX.out
      rw [List.drop_length] at this
      skip
      rw [mMsgs_len]
      simpa [flMsg] using this

set_option maxHeartbeats 1600000 in
theorem heldMsgG_any (v : Value) (n : Nat) (k : Int) (w : World) (h : MsgSl w v (mMsgs k n)) (hl : n ≤ 1100000) (h0 : 0 ≤ k) (hk : k ≤ 1152921504606846976) :
    Calls Tryz.prog 37 #[v, .int .i64 k] w fun e w' => e = .returned (.int .i64 (k + 4 * n)) ∧ w = w' := by
  obtain ⟨A, c, rfl, hA⟩ := h.form
  rw [mMsgs_len] at hA ⊢
  have HA := Lib.hid hA
  clear hA h
  go_enter Tryz.func37, Tryz.ntmps37
  go_wp2_with fail
  go_loop [1, 5] (fun s1 s5 => ∃ i : Nat, i ≤ n ∧ s5 = .int .i64 i ∧ s1 = .int .i64 (k + 4 * i)) (fun _ s5 => (n - intOf s5).toNat)
  case atStart => exact ⟨0, by omega, rfl, by simp⟩
  case round =>
    obtain ⟨i, hi, rfl, rfl⟩ := hrel
    by_cases hlt : i < n
    · obtain ⟨b, off, rfl, hbw, hat⟩ := HA.out (by omega)
      obtain ⟨cs, hR, hC⟩ := hat i _ (mMsgs_at k hlt)
      obtain rfl := hR
      obtain ⟨u0, u1, u2, u3⟩ := msg_cells hC
      simp only at u0 u1 u2 u3
      clear hat hC
      have n0 : ((k + 4 * (i : Int)) != (k + 4 * (i : Int))) = false := by simp
      have n1 : ((k + 4 * (i : Int) + 1) != (k + 4 * (i : Int) + 1)) = false := by simp
      have n2 : ((k + 4 * (i : Int) + 1 + 1) != (k + 4 * (i : Int) + 1 + 1)) = false := by simp
      have n3 : ((k + 4 * (i : Int) + 1 + 1 + 1) != (k + 4 * (i : Int) + 1 + 1 + 1)) = false := by simp
      have hlti : (i : Int) < (n : Int) := by omega
      go_wp2_with fail
      go_round
      case rel => exact ⟨i + 1, by omega, by go_num, by go_num⟩
      case measure => simp [intOf]; omega
    · obtain rfl : i = n := by omega
      go_wp2_with fail
      go_ret
      exact ⟨rfl, rfl⟩

end Go.Proofs.YtmkpajjnjgnmkabGreatDoor

namespace Go.Proofs.YtmkpajjnjgnmkabGreatDoor
open Go.RowKit

set_option maxHeartbeats 3200000 in
theorem markClusterK_any (c : CV) (a0 a1 a2 : Value) (bs : List Nat) (k : Int) (w : World) (h : CluO w c a0 a1 a2 bs) (h0 : 0 ≤ k) (hk : k ≤ 1000000000000000) :
    Calls Tryz.prog 28 #[.agg #[a0, a1, a2], .int .i64 k] w fun e w' => e = .returned (.int .i64 (k + szClu c)) ∧ CluO w' (mClu c k) a0 a1 a2 bs ∧ TurnB bs w w' := by
  obtain ⟨hT, hN, l0, l1, l2⟩ := h.all
  have hlt := h.lt
  obtain ⟨b0, b1, b2, r0, r1, r2, rfl, hnd, -⟩ := h
  obtain ⟨D0, e0, rfl⟩ := rowO_form r0
  obtain ⟨D1, e1, rfl⟩ := rowO_form r1
  obtain ⟨D2, e2, rfl⟩ := rowO_form r2
  obtain ⟨n0, n1, n2, d0, d1, d2⟩ := nd3 hnd
  have s0 := sumTask_take hT c.tasks.length (by omega)
  have s1 := sumNode_take hN c.nodes.length (by omega)
  rw [List.take_length] at s0 s1
  obtain ⟨s00, s01⟩ := s0
  obtain ⟨s10, s11⟩ := s1
  have hX : Below w.heap.size w (w.alloc (.cells #[.slice D0 c.tasks.length e0, .slice D1 c.nodes.length e1, .slice D2 c.binds.length e2] 32)) := (by repeat' (first | exact Below.refl _ _ | refine Below.alloc ?_ ?_ _ | refine Below.setCell ?_ ?_ _ | refine Below.drew ?_ | (apply below_step; assumption) | (simp; done) | (simp; omega) | omega))
  have H0 := Lib.hid (r0.agree TaskO.framed (Agree.of_below hX (fun b hb => hlt b (by simp [hb]))))
  have H1 := Lib.hid (r1.agree NodeO.framed (Agree.of_below hX (fun b hb => hlt b (by simp [hb]))))
  have H2 := Lib.hid (r2.agree BindO.framed (Agree.of_below hX (fun b hb => hlt b (by simp [hb]))))
  have HD := Lib.hid (And.intro hnd (And.intro hlt (And.intro d0 (And.intro d1 d2))))
  have BX := Lib.hid (BlockIs.new w 32 #[.slice D0 c.tasks.length e0, .slice D1 c.nodes.length e1, .slice D2 c.binds.length e2])
  clear r0 r1 r2 hnd hlt d0 d1 d2 hT hN
  go_enter Tryz.func28, Tryz.ntmps28
  go_wp2_with fail
  refine (markTaskS_any _ c.tasks b0 k _ H0.out n0 (by omega) h0 (by omega)).mono ?_
  rintro e w1 ⟨rfl, hr1, ht1⟩
  obtain ⟨hnd, hlt, d0, d1, d2⟩ := HD.out
  have BC := BX.out.turn ht1 (fun hx => by have := hlt _ (List.mem_append_left _ hx); omega)
  have H11 := H1.out.agree NodeO.framed (ht1.agree (fun b hb => ⟨rowO_lt (fun _ _ _ h => h.lt) H1.out b hb, (d1 b hb).1⟩))
  have H21 := H2.out.agree BindO.framed (ht1.agree (fun b hb => ⟨rowO_lt (fun _ _ _ h => h.lt) H2.out b hb, (d2 b hb).1⟩))
  have g1 := BC.cell 1
  have g2 := BC.cell 2
  have cl := BC.lt
  simp at g1 g2
  have HR1 := Lib.hid hr1
  have HT1 := Lib.hid ht1
  have HH11 := Lib.hid H11
  have HH21 := Lib.hid H21
  have HBC := Lib.hid BC
  clear hnd hlt d0 d1 d2 BC hr1 ht1 H11 H21
  go_wp2_with fail
  refine (markNodeS_any _ c.nodes b1 _ _ HH11.out n1 (by omega) (by omega) (by omega)).mono ?_
  rintro e w2 ⟨rfl, hr2, ht2⟩
  obtain ⟨hnd, hlt, d0, d1, d2⟩ := HD.out
  have BC := HBC.out.turn ht2 (fun hx => by have := hlt _ (List.mem_append_right _ (List.mem_append_left _ hx)); omega)
  have R12 := HR1.out.agree TaskO.framed (ht2.agree (fun b hb => ⟨rowO_lt (fun _ _ _ h => h.lt) HR1.out b hb, (d0 b hb).1⟩))
  have H22 := HH21.out.agree BindO.framed (ht2.agree (fun b hb => ⟨rowO_lt (fun _ _ _ h => h.lt) HH21.out b hb, (d2 b hb).2⟩))
  have g2 := BC.cell 2
  have cl := BC.lt
  simp at g2
  have HR12 := Lib.hid R12
  have HR2 := Lib.hid hr2
  have HT2 := Lib.hid ht2
  have HH22 := Lib.hid H22
  clear hnd hlt d0 d1 d2 BC hr2 ht2 H22 R12 g1 HBC
  go_wp2_with fail
  refine (markBindS_any _ c.binds b2 _ _ HH22.out (by omega) (by omega) (by omega)).mono ?_
  rintro e w3 ⟨rfl, hr3, hg3⟩
  have ht3 : TurnB b2 w2 w3 := TurnB.of_grown hg3 (fun k e => rowO_blk HH22.out k (blk_mem e))
  have HR3 := Lib.hid hr3
  have HT3 := Lib.hid ht3
  clear hr3 ht3 hg3 g2
  go_wp2_with fail
  go_ret
  obtain ⟨hnd, hlt, d0, d1, d2⟩ := HD.out
  refine ⟨by rw [szClu_eq]; rfl, ⟨b0, b1, b2, ?_, ?_, HR3.out, rfl, hnd, ?_⟩, ?_⟩
  · exact HR12.out.agree TaskO.framed (HT3.out.agree (fun b hb => ⟨rowO_lt (fun _ _ _ h => h.lt) HR12.out b hb, (d0 b hb).2⟩))
  · exact HR2.out.agree NodeO.framed (HT3.out.agree (fun b hb => ⟨rowO_lt (fun _ _ _ h => h.lt) HR2.out b hb, (d1 b hb).2⟩))
  · exact ⟨by simp only [mClu, mTasks_len]; exact l0, by simp only [mClu, mNodes_len]; exact l1, by simp only [mClu, mBinds_len]; exact l2⟩
  · exact (((TurnB.of_below hX).trans (HT1.out.mono (fun b hb => by simp [hb]))).trans (HT2.out.mono (fun b hb => by simp [hb]))).trans (HT3.out.mono (fun b hb => by simp [hb]))

set_option maxHeartbeats 3200000 in
theorem heldClusterK_any (c : CV) (a0 a1 a2 : Value) (k : Int) (w : World) (h : CluR w (mClu c k) a0 a1 a2) (hT : allTask c.tasks) (hN : allNode c.nodes) (l0 : c.tasks.length ≤ 1048576) (l1 : c.nodes.length ≤ 1048576) (l2 : c.binds.length ≤ 1048576) (h0 : 0 ≤ k) (hk : k ≤ 1000000000000000) :
    Calls Tryz.prog 34 #[.agg #[a0, a1, a2], .int .i64 k] w fun e w' => e = .returned (.int .i64 (k + szClu c)) ∧ Below w.heap.size w w' := by
  have s0 := sumTask_take hT c.tasks.length (by omega)
  have s1 := sumNode_take hN c.nodes.length (by omega)
  rw [List.take_length] at s0 s1
  obtain ⟨s00, s01⟩ := s0
  obtain ⟨s10, s11⟩ := s1
  have HC := Lib.hid h
  obtain ⟨D0, e0, rfl, _⟩ := h.1.form
  obtain ⟨D1, e1, rfl, _⟩ := h.2.1.form
  obtain ⟨D2, e2, rfl, _⟩ := h.2.2.1.form
  have hX : Below w.heap.size w (w.alloc (.cells #[.slice D0 (mClu c k).tasks.length e0, .slice D1 (mClu c k).nodes.length e1, .slice D2 (mClu c k).binds.length e2] 32)) := (by repeat' (first | exact Below.refl _ _ | refine Below.alloc ?_ ?_ _ | refine Below.setCell ?_ ?_ _ | refine Below.drew ?_ | (apply below_step; assumption) | (simp; done) | (simp; omega) | omega))
  have HT := Lib.hid (fun w1 (hb : Below w.heap.size w w1) => heldTaskS_any _ c.tasks k w1 (HC.out.below hb).1 hT (by omega) h0 (by omega))
  have HN := Lib.hid (fun w1 (hb : Below w.heap.size w w1) => heldNodeS_any _ c.nodes (k + sumTask c.tasks) w1 (HC.out.below hb).2.1 hN (by omega) (by omega) (by omega))
  have HB := Lib.hid (fun w1 (hb : Below w.heap.size w w1) => heldBindS_any _ c.binds.length (k + sumTask c.tasks + sumNode c.nodes) w1 (HC.out.below hb).2.2.1 (by omega) (by omega) (by omega))
  have p1 : decide (k + sumTask c.tasks < 0) = false := by simp; omega
  have p2 : decide (k + sumTask c.tasks + sumNode c.nodes < 0) = false := by simp; omega
  have p3 : decide (k + sumTask c.tasks + sumNode c.nodes + 2 * (c.binds.length : Int) < 0) = false := by simp; omega
  clear h hT hN
  go_enter Tryz.func34, Tryz.ntmps34
  go_wp2_with fail
  refine (HT.out _ hX).mono ?_
  rintro e w1 ⟨rfl, rfl⟩
  go_wp2_with fail
  refine (HN.out _ hX).mono ?_
  rintro e w2 ⟨rfl, rfl⟩
  go_wp2_with fail
  refine (HB.out _ hX).mono ?_
  rintro e w3 ⟨rfl, rfl⟩
  go_wp2_with fail
  go_ret
  exact ⟨by rw [szClu_eq]; rfl, hX⟩

theorem nd_app {a r : List Nat} (h : (a ++ r).Nodup) : a.Nodup ∧ r.Nodup ∧ ∀ b ∈ a, b ∉ r := by
  rw [List.nodup_append] at h
  exact ⟨h.1, h.2.1, fun b hb hr => h.2.2 b hb b hr rfl⟩
theorem nd7 {x0 x1 x2 x3 x4 x5 x6 : List Nat} (h : (x0 ++ (x1 ++ (x2 ++ (x3 ++ (x4 ++ (x5 ++ x6)))))).Nodup) : (x0.Nodup ∧ x1.Nodup ∧ x2.Nodup ∧ x3.Nodup ∧ x4.Nodup ∧ x5.Nodup ∧ x6.Nodup) ∧ (∀ b ∈ x0, b ∉ x1 ∧ b ∉ x2 ∧ b ∉ x3 ∧ b ∉ x4 ∧ b ∉ x5 ∧ b ∉ x6) ∧ (∀ b ∈ x1, b ∉ x2 ∧ b ∉ x3 ∧ b ∉ x4 ∧ b ∉ x5 ∧ b ∉ x6) ∧ (∀ b ∈ x2, b ∉ x3 ∧ b ∉ x4 ∧ b ∉ x5 ∧ b ∉ x6) ∧ (∀ b ∈ x3, b ∉ x4 ∧ b ∉ x5 ∧ b ∉ x6) ∧ (∀ b ∈ x4, b ∉ x5 ∧ b ∉ x6) ∧ (∀ b ∈ x5, b ∉ x6) := by
  have e0 := h
  obtain ⟨n0, e1, d0⟩ := nd_app e0
  obtain ⟨n1, e2, d1⟩ := nd_app e1
  obtain ⟨n2, e3, d2⟩ := nd_app e2
  obtain ⟨n3, e4, d3⟩ := nd_app e3
  obtain ⟨n4, e5, d4⟩ := nd_app e4
  obtain ⟨n5, e6, d5⟩ := nd_app e5
  simp only [List.mem_append, not_or] at d0 d1 d2 d3 d4
  exact ⟨⟨n0, n1, n2, n3, n4, n5, e6⟩, d0, d1, d2, d3, d4, d5⟩
theorem WldO.put_ep {w w' : World} {t : WV} {s : WS} {b1 b2 b3 b6 : List Nat} (h : WldO w t s b1 b2 b3 b6) (hnd : (wldB s b1 b2 b3 b6).Nodup) (ht : TurnB (blk s.ep) w w') {l : List Int} (hl : IntO w' s.ep l) (hs : l.length ≤ 1048576) : WldO w' { t with epochs := l } s b1 b2 b3 b6 := by
  obtain ⟨-, d0, d1, d2, d3, d4, d5⟩ := nd7 (show (blk s.ep ++ (b1 ++ (b2 ++ (b3 ++ (blk s.en ++ (blk s.ins ++ (b6))))))).Nodup from hnd)
  obtain ⟨s0, s1, s2, s3, s4, s5⟩ := h.small
  have A1 : Agree (b1) w w' := ht.agree (fun b hb => ⟨(fun b hb => rowO_lt (fun _ _ _ h => h.lt) h.po b hb) b hb, fun hx => (d0 b hx).1 hb⟩)
  have A2 : Agree (b2) w w' := ht.agree (fun b hb => ⟨(fun b hb => h.clu.lt b hb) b hb, fun hx => (d0 b hx).2.1 hb⟩)
  have A3 : Agree (b3) w w' := ht.agree (fun b hb => ⟨(fun b hb => rowO_lt (fun _ _ _ h => h.lt) h.wa b hb) b hb, fun hx => (d0 b hx).2.2.1 hb⟩)
  have A4 : Agree (blk s.en) w w' := ht.agree (fun b hb => ⟨(fun b hb => own_lt h.en b hb) b hb, fun hx => (d0 b hx).2.2.2.1 hb⟩)
  have A5 : Agree (blk s.ins) w w' := ht.agree (fun b hb => ⟨(fun b hb => own_lt h.ins b hb) b hb, fun hx => (d0 b hx).2.2.2.2.1 hb⟩)
  have A6 : Agree (b6) w w' := ht.agree (fun b hb => ⟨(fun b hb => rowO_lt (fun _ _ _ h => h.lt) h.ms b hb) b hb, fun hx => (d0 b hx).2.2.2.2.2 hb⟩)
  exact ⟨hl, h.po.agree PoolO.framed A1, h.clu.agree A2, h.wa.agree WantO.framed A3, own_agree h.en A4, own_agree h.ins A5, h.ms.agree MsgO.framed A6, ⟨hs, s1, s2, s3, s4, s5⟩⟩
theorem WldO.put_po {w w' : World} {t : WV} {s : WS} {b1 b2 b3 b6 : List Nat} (h : WldO w t s b1 b2 b3 b6) (hnd : (wldB s b1 b2 b3 b6).Nodup) (ht : TurnB (b1) w w') {l : List PV} (hl : RowO PoolO 63 12 w' s.po l b1) (hs : l.length ≤ 1048576) : WldO w' { t with pools := l } s b1 b2 b3 b6 := by
  obtain ⟨-, d0, d1, d2, d3, d4, d5⟩ := nd7 (show (blk s.ep ++ (b1 ++ (b2 ++ (b3 ++ (blk s.en ++ (blk s.ins ++ (b6))))))).Nodup from hnd)
  obtain ⟨s0, s1, s2, s3, s4, s5⟩ := h.small
  have A0 : Agree (blk s.ep) w w' := ht.agree (fun b hb => ⟨(fun b hb => own_lt h.ep b hb) b hb, (d0 b hb).1⟩)
  have A2 : Agree (b2) w w' := ht.agree (fun b hb => ⟨(fun b hb => h.clu.lt b hb) b hb, fun hx => (d1 b hx).1 hb⟩)
  have A3 : Agree (b3) w w' := ht.agree (fun b hb => ⟨(fun b hb => rowO_lt (fun _ _ _ h => h.lt) h.wa b hb) b hb, fun hx => (d1 b hx).2.1 hb⟩)
  have A4 : Agree (blk s.en) w w' := ht.agree (fun b hb => ⟨(fun b hb => own_lt h.en b hb) b hb, fun hx => (d1 b hx).2.2.1 hb⟩)
  have A5 : Agree (blk s.ins) w w' := ht.agree (fun b hb => ⟨(fun b hb => own_lt h.ins b hb) b hb, fun hx => (d1 b hx).2.2.2.1 hb⟩)
  have A6 : Agree (b6) w w' := ht.agree (fun b hb => ⟨(fun b hb => rowO_lt (fun _ _ _ h => h.lt) h.ms b hb) b hb, fun hx => (d1 b hx).2.2.2.2 hb⟩)
  exact ⟨own_agree h.ep A0, hl, h.clu.agree A2, h.wa.agree WantO.framed A3, own_agree h.en A4, own_agree h.ins A5, h.ms.agree MsgO.framed A6, ⟨s0, hs, s2, s3, s4, s5⟩⟩
theorem WldO.put_clu {w w' : World} {t : WV} {s : WS} {b1 b2 b3 b6 : List Nat} (h : WldO w t s b1 b2 b3 b6) (hnd : (wldB s b1 b2 b3 b6).Nodup) (ht : TurnB (b2) w w') {l : CV} (hl : CluO w' l s.ta s.no s.bi b2) : WldO w' { t with clu := l } s b1 b2 b3 b6 := by
  obtain ⟨-, d0, d1, d2, d3, d4, d5⟩ := nd7 (show (blk s.ep ++ (b1 ++ (b2 ++ (b3 ++ (blk s.en ++ (blk s.ins ++ (b6))))))).Nodup from hnd)
  obtain ⟨s0, s1, s2, s3, s4, s5⟩ := h.small
  have A0 : Agree (blk s.ep) w w' := ht.agree (fun b hb => ⟨(fun b hb => own_lt h.ep b hb) b hb, (d0 b hb).2.1⟩)
  have A1 : Agree (b1) w w' := ht.agree (fun b hb => ⟨(fun b hb => rowO_lt (fun _ _ _ h => h.lt) h.po b hb) b hb, (d1 b hb).1⟩)
  have A3 : Agree (b3) w w' := ht.agree (fun b hb => ⟨(fun b hb => rowO_lt (fun _ _ _ h => h.lt) h.wa b hb) b hb, fun hx => (d2 b hx).1 hb⟩)
  have A4 : Agree (blk s.en) w w' := ht.agree (fun b hb => ⟨(fun b hb => own_lt h.en b hb) b hb, fun hx => (d2 b hx).2.1 hb⟩)
  have A5 : Agree (blk s.ins) w w' := ht.agree (fun b hb => ⟨(fun b hb => own_lt h.ins b hb) b hb, fun hx => (d2 b hx).2.2.1 hb⟩)
  have A6 : Agree (b6) w w' := ht.agree (fun b hb => ⟨(fun b hb => rowO_lt (fun _ _ _ h => h.lt) h.ms b hb) b hb, fun hx => (d2 b hx).2.2.2 hb⟩)
  exact ⟨own_agree h.ep A0, h.po.agree PoolO.framed A1, hl, h.wa.agree WantO.framed A3, own_agree h.en A4, own_agree h.ins A5, h.ms.agree MsgO.framed A6, ⟨s0, s1, s2, s3, s4, s5⟩⟩
theorem WldO.put_wa {w w' : World} {t : WV} {s : WS} {b1 b2 b3 b6 : List Nat} (h : WldO w t s b1 b2 b3 b6) (hnd : (wldB s b1 b2 b3 b6).Nodup) (ht : TurnB (b3) w w') {l : List BV} (hl : RowO WantO 93 2 w' s.wa l b3) (hs : l.length ≤ 1048576) : WldO w' { t with wants := l } s b1 b2 b3 b6 := by
  obtain ⟨-, d0, d1, d2, d3, d4, d5⟩ := nd7 (show (blk s.ep ++ (b1 ++ (b2 ++ (b3 ++ (blk s.en ++ (blk s.ins ++ (b6))))))).Nodup from hnd)
  obtain ⟨s0, s1, s2, s3, s4, s5⟩ := h.small
  have A0 : Agree (blk s.ep) w w' := ht.agree (fun b hb => ⟨(fun b hb => own_lt h.ep b hb) b hb, (d0 b hb).2.2.1⟩)
  have A1 : Agree (b1) w w' := ht.agree (fun b hb => ⟨(fun b hb => rowO_lt (fun _ _ _ h => h.lt) h.po b hb) b hb, (d1 b hb).2.1⟩)
  have A2 : Agree (b2) w w' := ht.agree (fun b hb => ⟨(fun b hb => h.clu.lt b hb) b hb, (d2 b hb).1⟩)
  have A4 : Agree (blk s.en) w w' := ht.agree (fun b hb => ⟨(fun b hb => own_lt h.en b hb) b hb, fun hx => (d3 b hx).1 hb⟩)
  have A5 : Agree (blk s.ins) w w' := ht.agree (fun b hb => ⟨(fun b hb => own_lt h.ins b hb) b hb, fun hx => (d3 b hx).2.1 hb⟩)
  have A6 : Agree (b6) w w' := ht.agree (fun b hb => ⟨(fun b hb => rowO_lt (fun _ _ _ h => h.lt) h.ms b hb) b hb, fun hx => (d3 b hx).2.2 hb⟩)
  exact ⟨own_agree h.ep A0, h.po.agree PoolO.framed A1, h.clu.agree A2, hl, own_agree h.en A4, own_agree h.ins A5, h.ms.agree MsgO.framed A6, ⟨s0, s1, hs, s3, s4, s5⟩⟩
theorem WldO.put_en {w w' : World} {t : WV} {s : WS} {b1 b2 b3 b6 : List Nat} (h : WldO w t s b1 b2 b3 b6) (hnd : (wldB s b1 b2 b3 b6).Nodup) (ht : TurnB (blk s.en) w w') {l : List Int} (hl : IntO w' s.en l) (hs : l.length ≤ 1048576) : WldO w' { t with ends := l } s b1 b2 b3 b6 := by
  obtain ⟨-, d0, d1, d2, d3, d4, d5⟩ := nd7 (show (blk s.ep ++ (b1 ++ (b2 ++ (b3 ++ (blk s.en ++ (blk s.ins ++ (b6))))))).Nodup from hnd)
  obtain ⟨s0, s1, s2, s3, s4, s5⟩ := h.small
  have A0 : Agree (blk s.ep) w w' := ht.agree (fun b hb => ⟨(fun b hb => own_lt h.ep b hb) b hb, (d0 b hb).2.2.2.1⟩)
  have A1 : Agree (b1) w w' := ht.agree (fun b hb => ⟨(fun b hb => rowO_lt (fun _ _ _ h => h.lt) h.po b hb) b hb, (d1 b hb).2.2.1⟩)
  have A2 : Agree (b2) w w' := ht.agree (fun b hb => ⟨(fun b hb => h.clu.lt b hb) b hb, (d2 b hb).2.1⟩)
  have A3 : Agree (b3) w w' := ht.agree (fun b hb => ⟨(fun b hb => rowO_lt (fun _ _ _ h => h.lt) h.wa b hb) b hb, (d3 b hb).1⟩)
  have A5 : Agree (blk s.ins) w w' := ht.agree (fun b hb => ⟨(fun b hb => own_lt h.ins b hb) b hb, fun hx => (d4 b hx).1 hb⟩)
  have A6 : Agree (b6) w w' := ht.agree (fun b hb => ⟨(fun b hb => rowO_lt (fun _ _ _ h => h.lt) h.ms b hb) b hb, fun hx => (d4 b hx).2 hb⟩)
  exact ⟨own_agree h.ep A0, h.po.agree PoolO.framed A1, h.clu.agree A2, h.wa.agree WantO.framed A3, hl, own_agree h.ins A5, h.ms.agree MsgO.framed A6, ⟨s0, s1, s2, hs, s4, s5⟩⟩
theorem WldO.put_ins {w w' : World} {t : WV} {s : WS} {b1 b2 b3 b6 : List Nat} (h : WldO w t s b1 b2 b3 b6) (hnd : (wldB s b1 b2 b3 b6).Nodup) (ht : TurnB (blk s.ins) w w') {l : List RV} (hl : OwnsN w' 0 s.ins l) (hs : l.length ≤ 1048576) : WldO w' { t with insts := l } s b1 b2 b3 b6 := by
  obtain ⟨-, d0, d1, d2, d3, d4, d5⟩ := nd7 (show (blk s.ep ++ (b1 ++ (b2 ++ (b3 ++ (blk s.en ++ (blk s.ins ++ (b6))))))).Nodup from hnd)
  obtain ⟨s0, s1, s2, s3, s4, s5⟩ := h.small
  have A0 : Agree (blk s.ep) w w' := ht.agree (fun b hb => ⟨(fun b hb => own_lt h.ep b hb) b hb, (d0 b hb).2.2.2.2.1⟩)
  have A1 : Agree (b1) w w' := ht.agree (fun b hb => ⟨(fun b hb => rowO_lt (fun _ _ _ h => h.lt) h.po b hb) b hb, (d1 b hb).2.2.2.1⟩)
  have A2 : Agree (b2) w w' := ht.agree (fun b hb => ⟨(fun b hb => h.clu.lt b hb) b hb, (d2 b hb).2.2.1⟩)
  have A3 : Agree (b3) w w' := ht.agree (fun b hb => ⟨(fun b hb => rowO_lt (fun _ _ _ h => h.lt) h.wa b hb) b hb, (d3 b hb).2.1⟩)
  have A4 : Agree (blk s.en) w w' := ht.agree (fun b hb => ⟨(fun b hb => own_lt h.en b hb) b hb, (d4 b hb).1⟩)
  have A6 : Agree (b6) w w' := ht.agree (fun b hb => ⟨(fun b hb => rowO_lt (fun _ _ _ h => h.lt) h.ms b hb) b hb, fun hx => (d5 b hx) hb⟩)
  exact ⟨own_agree h.ep A0, h.po.agree PoolO.framed A1, h.clu.agree A2, h.wa.agree WantO.framed A3, own_agree h.en A4, hl, h.ms.agree MsgO.framed A6, ⟨s0, s1, s2, s3, hs, s5⟩⟩
theorem WldO.put_ms {w w' : World} {t : WV} {s : WS} {b1 b2 b3 b6 : List Nat} (h : WldO w t s b1 b2 b3 b6) (hnd : (wldB s b1 b2 b3 b6).Nodup) (ht : TurnB (b6) w w') {l : List MV} (hl : RowO MsgO 88 4 w' s.ms l b6) (hs : l.length ≤ 1048576) : WldO w' { t with msgs := l } s b1 b2 b3 b6 := by
  obtain ⟨-, d0, d1, d2, d3, d4, d5⟩ := nd7 (show (blk s.ep ++ (b1 ++ (b2 ++ (b3 ++ (blk s.en ++ (blk s.ins ++ (b6))))))).Nodup from hnd)
  obtain ⟨s0, s1, s2, s3, s4, s5⟩ := h.small
  have A0 : Agree (blk s.ep) w w' := ht.agree (fun b hb => ⟨(fun b hb => own_lt h.ep b hb) b hb, (d0 b hb).2.2.2.2.2⟩)
  have A1 : Agree (b1) w w' := ht.agree (fun b hb => ⟨(fun b hb => rowO_lt (fun _ _ _ h => h.lt) h.po b hb) b hb, (d1 b hb).2.2.2.2⟩)
  have A2 : Agree (b2) w w' := ht.agree (fun b hb => ⟨(fun b hb => h.clu.lt b hb) b hb, (d2 b hb).2.2.2⟩)
  have A3 : Agree (b3) w w' := ht.agree (fun b hb => ⟨(fun b hb => rowO_lt (fun _ _ _ h => h.lt) h.wa b hb) b hb, (d3 b hb).2.2⟩)
  have A4 : Agree (blk s.en) w w' := ht.agree (fun b hb => ⟨(fun b hb => own_lt h.en b hb) b hb, (d4 b hb).2⟩)
  have A5 : Agree (blk s.ins) w w' := ht.agree (fun b hb => ⟨(fun b hb => own_lt h.ins b hb) b hb, (d5 b hb)⟩)
  exact ⟨own_agree h.ep A0, h.po.agree PoolO.framed A1, h.clu.agree A2, h.wa.agree WantO.framed A3, own_agree h.en A4, own_agree h.ins A5, hl, ⟨s0, s1, s2, s3, s4, hs⟩⟩
def wk1 (t : WV) (k : Int) : Int := k + t.epochs.length
def wk2 (t : WV) (k : Int) : Int := wk1 t k + sumPool t.pools
def wk3 (t : WV) (k : Int) : Int := wk2 t k + szClu t.clu
def wk4 (t : WV) (k : Int) : Int := wk3 t k + 2 * t.wants.length
def wk5 (t : WV) (k : Int) : Int := wk4 t k + t.ends.length
def wk6 (t : WV) (k : Int) : Int := wk5 t k + 3 * t.insts.length
def wk7 (t : WV) (k : Int) : Int := wk6 t k + 4 * t.msgs.length
def mWld (t : WV) (k : Int) : WV := { t with epochs := mInts k t.epochs.length, pools := mPools (wk1 t k) t.pools, clu := mClu t.clu (wk2 t k), wants := mWants (wk3 t k) t.wants.length, ends := mInts (wk4 t k) t.ends.length, insts := mInsts (wk5 t k) t.insts.length, msgs := mMsgs (wk6 t k) t.msgs.length }
theorem wk_bounds {t : WV} {k : Int} (hs : t.small) (hp : allPool t.pools) (hT : allTask t.clu.tasks) (hN : allNode t.clu.nodes) (lT : t.clu.tasks.length ≤ 1048576) (lN : t.clu.nodes.length ≤ 1048576) (lB : t.clu.binds.length ≤ 1048576) (h0 : 0 ≤ k) (hk : k ≤ 1000) :
    (0 ≤ wk1 t k ∧ wk1 t k ≤ 100000000000000) ∧ (0 ≤ wk2 t k ∧ wk2 t k ≤ 100000000000000) ∧ (0 ≤ wk3 t k ∧ wk3 t k ≤ 100000000000000) ∧ (0 ≤ wk4 t k ∧ wk4 t k ≤ 100000000000000) ∧ (0 ≤ wk5 t k ∧ wk5 t k ≤ 100000000000000) ∧ (0 ≤ wk6 t k ∧ wk6 t k ≤ 100000000000000) ∧ (0 ≤ wk7 t k ∧ wk7 t k ≤ 100000000000000) := by
  obtain ⟨s0, s1, s2, s3, s4, s5⟩ := hs
  have p := sumPool_take hp t.pools.length (by omega)
  have q := sumTask_take hT t.clu.tasks.length (by omega)
  have r := sumNode_take hN t.clu.nodes.length (by omega)
  rw [List.take_length] at p q r
  obtain ⟨p0, p1⟩ := p
  obtain ⟨q0, q1⟩ := q
  obtain ⟨r0, r1⟩ := r
  unfold wk7 wk6 wk5 wk4 wk3 wk2 wk1 szClu
  refine ⟨⟨?_, ?_⟩, ⟨?_, ?_⟩, ⟨?_, ?_⟩, ⟨?_, ?_⟩, ⟨?_, ?_⟩, ⟨?_, ?_⟩, ⟨?_, ?_⟩⟩ <;> omega
theorem PoolRow.all {w : World} {v : Value} {l : List PV} {bs : List Nat} (h : RowO PoolO 63 12 w v l bs) : allPool l := by
  obtain ⟨_, _, _, h, _⟩ := h
  exact elems_allPool h
set_option maxHeartbeats 1600000 in
theorem markProvG_any (ep : Int) (v : Value) (l : List RV) (k : Int) (w : World) (h : OwnsN w 0 v l) (hl : l.length ≤ 1048576) (h0 : 0 ≤ k) (hk : k ≤ 1000000000000000) :
    Calls Tryz.prog 30 #[.agg #[.int .i64 ep, v], .int .i64 k] w fun e w' => e = .returned (.int .i64 (k + 3 * l.length)) ∧ OwnsN w' 0 v (mInsts k l.length) ∧ TurnB (blk v) w w' := by
  obtain ⟨A, c, rfl⟩ := h.len
  have hX : Below w.heap.size w (w.alloc (.cells #[.int .i64 ep, .slice A l.length c] 36)) := (by repeat' (first | exact Below.refl _ _ | refine Below.alloc ?_ ?_ _ | refine Below.setCell ?_ ?_ _ | refine Below.drew ?_ | (apply below_step; assumption) | (simp; done) | (simp; omega) | omega))
  have HC := Lib.hid (markInstG_any _ l k _ (h.alloc (.cells #[.int .i64 ep, .slice A l.length c] 36)) (by omega) h0 (by omega))
  clear h
  go_enter Tryz.func30, Tryz.ntmps30
  go_wp2_with fail
  refine HC.out.mono ?_
  rintro e w1 ⟨rfl, ho, hg⟩
  have HF := Lib.hid (And.intro ho (TurnB.of_grown (bs := blk (.slice A l.length c)) hg (fun k e => blk_mem e)))
  clear ho hg HC
  go_wp2_with fail
  go_ret
  exact ⟨rfl, HF.out.1, (TurnB.of_below hX).trans HF.out.2⟩
set_option maxHeartbeats 1600000 in
theorem heldProvG_any (ep : Int) (v : Value) (n : Nat) (k : Int) (w : World) (h : InSl w v (mInsts k n)) (hl : n ≤ 1048576) (h0 : 0 ≤ k) (hk : k ≤ 1000000000000000) :
    Calls Tryz.prog 36 #[.agg #[.int .i64 ep, v], .int .i64 k] w fun e w' => e = .returned (.int .i64 (k + 3 * n)) ∧ Below w.heap.size w w' := by
  have HV := Lib.hid h
  obtain ⟨A, c, rfl, _⟩ := h.form
  rw [mInsts_len] at HV ⊢
  have hX : Below w.heap.size w (w.alloc (.cells #[.int .i64 ep, .slice A n c] 36)) := (by repeat' (first | exact Below.refl _ _ | refine Below.alloc ?_ ?_ _ | refine Below.setCell ?_ ?_ _ | refine Below.drew ?_ | (apply below_step; assumption) | (simp; done) | (simp; omega) | omega))
  have HC := Lib.hid (heldInstG_any _ n k _ (HV.out.below hX) (by omega) h0 (by omega))
  have p1 : decide (k + 3 * (n : Int) < 0) = false := by simp; omega
  clear h
  go_enter Tryz.func36, Tryz.ntmps36
  go_wp2_with fail
  refine HC.out.mono ?_
  rintro e w1 ⟨rfl, rfl⟩
  go_wp2_with fail
  go_ret
  exact ⟨rfl, hX⟩
set_option maxRecDepth 20000 in
set_option maxHeartbeats 12800000 in
theorem markWorld_any (t : WV) (s : WS) (b1 b2 b3 b6 : List Nat) (k : Int) (w : World) (h : WldO w t s b1 b2 b3 b6) (hnd : (wldB s b1 b2 b3 b6).Nodup) (h0 : 0 ≤ k) (hk : k ≤ 1000) :
    Calls Tryz.prog 11 #[.agg #[.int .i64 t.now, .int .i64 t.span, .int .i64 t.kind, .int .i64 t.limit, .int .i64 t.next, .int .i64 t.lease.c, .int .i64 t.lease.m, .int .i64 t.lease.p, s.ep, s.po, s.ta, s.no, s.bi, s.wa, s.en, .int .i64 t.seen, s.ins, s.ms], .int .i64 k] w fun e w' => e = .returned (.int .i64 (wk7 t k)) ∧ WldO w' (mWld t k) s b1 b2 b3 b6 ∧ TurnB (wldB s b1 b2 b3 b6) w w' := by
  have SM := Lib.hid h.small
  obtain ⟨aT, aN, lT, lN, lB⟩ := h.clu.all
  obtain ⟨⟨e10, e11⟩, ⟨e20, e21⟩, ⟨e30, e31⟩, ⟨e40, e41⟩, ⟨e50, e51⟩, ⟨e60, e61⟩, ⟨e70, e71⟩⟩ := wk_bounds h.small (PoolRow.all h.po) aT aN lT lN lB h0 hk
  clear aT aN lT lN lB
  obtain ⟨A0, A1, A2, A3, A4, A5, A6, A7, A8, c0, c1, c2, c3, c4, c5, c6, c7, c8, rfl⟩ := h.wld.form
  have ND := Lib.hid (nd7 (show (blk (.slice A0 t.epochs.length c0) ++ (b1 ++ (b2 ++ (b3 ++ (blk (.slice A6 t.ends.length c6) ++ (blk (.slice A7 t.insts.length c7) ++ (b6))))))).Nodup from hnd))
  have HND := Lib.hid hnd
  have hX : Below w.heap.size w (w.alloc (.cells #[.int .i64 t.now, .int .i64 t.span, .int .i64 t.kind, .int .i64 t.limit, .int .i64 t.next, .int .i64 t.lease.c, .int .i64 t.lease.m, .int .i64 t.lease.p, .slice A0 t.epochs.length c0, .slice A1 t.pools.length c1, .slice A2 t.clu.tasks.length c2, .slice A3 t.clu.nodes.length c3, .slice A4 t.clu.binds.length c4, .slice A5 t.wants.length c5, .slice A6 t.ends.length c6, .int .i64 t.seen, .slice A7 t.insts.length c7, .slice A8 t.msgs.length c8] 39)) := (by repeat' (first | exact Below.refl _ _ | refine Below.alloc ?_ ?_ _ | refine Below.setCell ?_ ?_ _ | refine Below.drew ?_ | (apply below_step; assumption) | (simp; done) | (simp; omega) | omega))
  have HLT := Lib.hid h.lt
  have H0 := Lib.hid (h.agree (Agree.of_below hX h.lt))
  have BX := Lib.hid (BlockIs.new w 39 #[.int .i64 t.now, .int .i64 t.span, .int .i64 t.kind, .int .i64 t.limit, .int .i64 t.next, .int .i64 t.lease.c, .int .i64 t.lease.m, .int .i64 t.lease.p, .slice A0 t.epochs.length c0, .slice A1 t.pools.length c1, .slice A2 t.clu.tasks.length c2, .slice A3 t.clu.nodes.length c3, .slice A4 t.clu.binds.length c4, .slice A5 t.wants.length c5, .slice A6 t.ends.length c6, .int .i64 t.seen, .slice A7 t.insts.length c7, .slice A8 t.msgs.length c8])
  have T0 := Lib.hid (TurnB.of_below (bs := wldB ⟨.slice A0 t.epochs.length c0, .slice A1 t.pools.length c1, .slice A2 t.clu.tasks.length c2, .slice A3 t.clu.nodes.length c3, .slice A4 t.clu.binds.length c4, .slice A5 t.wants.length c5, .slice A6 t.ends.length c6, .slice A7 t.insts.length c7, .slice A8 t.msgs.length c8⟩ b1 b2 b3 b6) hX)
  clear h hnd
  go_enter Tryz.func11, Tryz.ntmps11
  go_wp2_with fail
  refine (markIntS_any _ t.epochs k _ H0.out.ep SM.out.1 h0 (by omega)).mono ?_
  rintro e w1 ⟨rfl, hr, hg⟩
  have hT1 := TurnB.of_grown (bs := blk (.slice A0 t.epochs.length c0)) hg (fun k e => blk_mem e)
  have H1 := Lib.hid (H0.out.put_ep HND.out hT1 hr (by rw [mInts_len]; exact SM.out.1))
  have T1 := Lib.hid (T0.out.trans (hT1.mono (fun b hb => List.mem_append_left _ hb)))
  have BX := Lib.hid (BX.out.turn hT1 (fun hb => by have := HLT.out _ (List.mem_append_left _ hb); omega))
  have BC := BX.out.cell
  have y9 := BC 9
  simp at y9
  have cl := BX.out.lt
  clear hr hg hT1 BC
  go_wp2_with fail
  refine (markPoolS_any _ t.pools b1 (wk1 t k) _ H1.out.po ND.out.1.2.1 (by have := SM.out.2.1; omega) (by omega) (by omega)).mono ?_
  rintro e w2 ⟨rfl, hr, hg⟩
  have hT2 := hg
  have H2 := Lib.hid (H1.out.put_po HND.out hT2 hr (by rw [mPools_len]; exact SM.out.2.1))
  have T2 := Lib.hid (T1.out.trans (hT2.mono (fun b hb => List.mem_append_right _ (List.mem_append_left _ hb))))
  have BX := Lib.hid (BX.out.turn hT2 (fun hb => by have := HLT.out _ (List.mem_append_right _ (List.mem_append_left _ hb)); omega))
  have BC := BX.out.cell
  have y10 := BC 10
  have y11 := BC 11
  have y12 := BC 12
  simp at y10 y11 y12
  have cl := BX.out.lt
  clear hr hg hT2 BC y9
  go_wp2_with fail
  refine (markClusterK_any t.clu _ _ _ b2 (wk2 t k) _ H2.out.clu (by omega) (by omega)).mono ?_
  rintro e w3 ⟨rfl, hr, hg⟩
  have hT3 := hg
  have H3 := Lib.hid (H2.out.put_clu HND.out hT3 hr )
  have T3 := Lib.hid (T2.out.trans (hT3.mono (fun b hb => List.mem_append_right _ (List.mem_append_right _ (List.mem_append_left _ hb)))))
  have BX := Lib.hid (BX.out.turn hT3 (fun hb => by have := HLT.out _ (List.mem_append_right _ (List.mem_append_right _ (List.mem_append_left _ hb))); omega))
  have BC := BX.out.cell
  have y13 := BC 13
  simp at y13
  have cl := BX.out.lt
  clear hr hg hT3 BC y10 y11 y12
  go_wp2_with fail
  refine (markWantG_any _ t.wants b3 (wk3 t k) _ H3.out.wa (by have := SM.out.2.2.1; omega) (by omega) (by omega)).mono ?_
  rintro e w4 ⟨rfl, hr, hg⟩
  have hT4 := TurnB.of_grown (bs := b3) hg (fun k e => rowO_blk H3.out.wa k (blk_mem e))
  have H4 := Lib.hid (H3.out.put_wa HND.out hT4 hr (by rw [mWants_len]; exact SM.out.2.2.1))
  have T4 := Lib.hid (T3.out.trans (hT4.mono (fun b hb => List.mem_append_right _ (List.mem_append_right _ (List.mem_append_right _ (List.mem_append_left _ hb))))))
  have BX := Lib.hid (BX.out.turn hT4 (fun hb => by have := HLT.out _ (List.mem_append_right _ (List.mem_append_right _ (List.mem_append_right _ (List.mem_append_left _ hb)))); omega))
  have BC := BX.out.cell
  have y14 := BC 14
  simp at y14
  have cl := BX.out.lt
  clear hr hg hT4 BC y13
  go_wp2_with fail
  refine (markIntS_any _ t.ends (wk4 t k) _ H4.out.en SM.out.2.2.2.1 (by omega) (by omega)).mono ?_
  rintro e w5 ⟨rfl, hr, hg⟩
  have hT5 := TurnB.of_grown (bs := blk (.slice A6 t.ends.length c6)) hg (fun k e => blk_mem e)
  have H5 := Lib.hid (H4.out.put_en HND.out hT5 hr (by rw [mInts_len]; exact SM.out.2.2.2.1))
  have T5 := Lib.hid (T4.out.trans (hT5.mono (fun b hb => List.mem_append_right _ (List.mem_append_right _ (List.mem_append_right _ (List.mem_append_right _ (List.mem_append_left _ hb)))))))
  have BX := Lib.hid (BX.out.turn hT5 (fun hb => by have := HLT.out _ (List.mem_append_right _ (List.mem_append_right _ (List.mem_append_right _ (List.mem_append_right _ (List.mem_append_left _ hb))))); omega))
  have BC := BX.out.cell
  have y15 := BC 15
  have y16 := BC 16
  simp at y15 y16
  have cl := BX.out.lt
  clear hr hg hT5 BC y14
  go_wp2_with fail
  refine (markProvG_any t.seen _ t.insts (wk5 t k) _ H5.out.ins SM.out.2.2.2.2.1 (by omega) (by omega)).mono ?_
  rintro e w6 ⟨rfl, hr, hg⟩
  have hT6 := hg
  have H6 := Lib.hid (H5.out.put_ins HND.out hT6 hr (by rw [mInsts_len]; exact SM.out.2.2.2.2.1))
  have T6 := Lib.hid (T5.out.trans (hT6.mono (fun b hb => List.mem_append_right _ (List.mem_append_right _ (List.mem_append_right _ (List.mem_append_right _ (List.mem_append_right _ (List.mem_append_left _ hb))))))))
  have BX := Lib.hid (BX.out.turn hT6 (fun hb => by have := HLT.out _ (List.mem_append_right _ (List.mem_append_right _ (List.mem_append_right _ (List.mem_append_right _ (List.mem_append_right _ (List.mem_append_left _ hb)))))); omega))
  have BC := BX.out.cell
  have y17 := BC 17
  simp at y17
  have cl := BX.out.lt
  clear hr hg hT6 BC y15 y16
  go_wp2_with fail
  refine (markMsgG_any _ t.msgs b6 (wk6 t k) _ H6.out.ms (by have := SM.out.2.2.2.2.2; omega) (by omega) (by omega)).mono ?_
  rintro e w7 ⟨rfl, hr, hg⟩
  have hT7 := TurnB.of_grown (bs := b6) hg (fun k e => rowO_blk H6.out.ms k (blk_mem e))
  have H7 := Lib.hid (H6.out.put_ms HND.out hT7 hr (by rw [mMsgs_len]; exact SM.out.2.2.2.2.2))
  have T7 := Lib.hid (T6.out.trans (hT7.mono (fun b hb => List.mem_append_right _ (List.mem_append_right _ (List.mem_append_right _ (List.mem_append_right _ (List.mem_append_right _ (List.mem_append_right _ (hb)))))))))
  have BX := Lib.hid (BX.out.turn hT7 (fun hb => by have := HLT.out _ (List.mem_append_right _ (List.mem_append_right _ (List.mem_append_right _ (List.mem_append_right _ (List.mem_append_right _ (List.mem_append_right _ (hb))))))); omega))
  clear hr hg hT7 y17
  go_wp2_with fail
  go_ret
  exact ⟨rfl, H7.out, T7.out⟩
end Go.Proofs.YtmkpajjnjgnmkabGreatDoor

namespace Go.Proofs.YtmkpajjnjgnmkabGreatDoor
open Go.RowKit

set_option maxRecDepth 20000 in
set_option maxHeartbeats 12800000 in
theorem heldWorld_any (t : WV) (s : WS) (k : Int) (w : World) (h : WldR w (mWld t k) s) (hs : t.small) (hp : allPool t.pools) (hT : allTask t.clu.tasks) (hN : allNode t.clu.nodes) (lT : t.clu.tasks.length ≤ 1048576) (lN : t.clu.nodes.length ≤ 1048576) (lB : t.clu.binds.length ≤ 1048576) (h0 : 0 ≤ k) (hk : k ≤ 1000) :
    Calls Tryz.prog 12 #[.agg #[.int .i64 t.now, .int .i64 t.span, .int .i64 t.kind, .int .i64 t.limit, .int .i64 t.next, .int .i64 t.lease.c, .int .i64 t.lease.m, .int .i64 t.lease.p, s.ep, s.po, s.ta, s.no, s.bi, s.wa, s.en, .int .i64 t.seen, s.ins, s.ms], .int .i64 k] w fun e w' => e = .returned (.int .i64 (wk7 t k)) ∧ Below w.heap.size w w' := by
  obtain ⟨⟨e10, e11⟩, ⟨e20, e21⟩, ⟨e30, e31⟩, ⟨e40, e41⟩, ⟨e50, e51⟩, ⟨e60, e61⟩, ⟨e70, e71⟩⟩ := wk_bounds hs hp hT hN lT lN lB h0 hk
  have SM := Lib.hid hs
  have HA := Lib.hid (And.intro hp (And.intro hT (And.intro hN (And.intro lT (And.intro lN lB)))))
  have HW := Lib.hid h
  obtain ⟨A0, A1, A2, A3, A4, A5, A6, A7, A8, c0, c1, c2, c3, c4, c5, c6, c7, c8, he⟩ := h.form
  simp only [mWld, mClu, mInts_len, mPools_len, mTasks_len, mNodes_len, mBinds_len, mWants_len, mInsts_len, mMsgs_len] at he
  subst he
  have hC0 : Below w.heap.size w (w.alloc (.cells #[.int .i64 t.now, .int .i64 t.span, .int .i64 t.kind, .int .i64 t.limit, .int .i64 t.next, .int .i64 t.lease.c, .int .i64 t.lease.m, .int .i64 t.lease.p, .slice A0 t.epochs.length c0, .slice A1 t.pools.length c1, .slice A2 t.clu.tasks.length c2, .slice A3 t.clu.nodes.length c3, .slice A4 t.clu.binds.length c4, .slice A5 t.wants.length c5, .slice A6 t.ends.length c6, .int .i64 t.seen, .slice A7 t.insts.length c7, .slice A8 t.msgs.length c8] 39)) := (by repeat' (first | exact Below.refl _ _ | refine Below.alloc ?_ ?_ _ | refine Below.setCell ?_ ?_ _ | refine Below.drew ?_ | (apply below_step; assumption) | (simp; done) | (simp; omega) | omega))
  have BX := Lib.hid (BlockIs.new w 39 #[.int .i64 t.now, .int .i64 t.span, .int .i64 t.kind, .int .i64 t.limit, .int .i64 t.next, .int .i64 t.lease.c, .int .i64 t.lease.m, .int .i64 t.lease.p, .slice A0 t.epochs.length c0, .slice A1 t.pools.length c1, .slice A2 t.clu.tasks.length c2, .slice A3 t.clu.nodes.length c3, .slice A4 t.clu.binds.length c4, .slice A5 t.wants.length c5, .slice A6 t.ends.length c6, .int .i64 t.seen, .slice A7 t.insts.length c7, .slice A8 t.msgs.length c8])
  have p1 : decide (k + (t.epochs.length : Int) < 0) = false := decide_eq_false (by have : k + (t.epochs.length : Int) = wk1 t k := rfl; omega)
  have p2 : decide (wk1 t k + sumPool t.pools < 0) = false := decide_eq_false (by have : wk1 t k + sumPool t.pools = wk2 t k := rfl; omega)
  have p3 : decide (wk2 t k + szClu t.clu < 0) = false := decide_eq_false (by have : wk2 t k + szClu t.clu = wk3 t k := rfl; omega)
  have p4 : decide (wk3 t k + 2 * (t.wants.length : Int) < 0) = false := decide_eq_false (by have : wk3 t k + 2 * (t.wants.length : Int) = wk4 t k := rfl; omega)
  have p5 : decide (wk4 t k + (t.ends.length : Int) < 0) = false := decide_eq_false (by have : wk4 t k + (t.ends.length : Int) = wk5 t k := rfl; omega)
  have p6 : decide (wk5 t k + 3 * (t.insts.length : Int) < 0) = false := decide_eq_false (by have : wk5 t k + 3 * (t.insts.length : Int) = wk6 t k := rfl; omega)
  have p7 : decide (wk6 t k + 4 * (t.msgs.length : Int) < 0) = false := decide_eq_false (by have : wk6 t k + 4 * (t.msgs.length : Int) = wk7 t k := rfl; omega)
  clear h hs hp hT hN lT lN lB
  go_enter Tryz.func12, Tryz.ntmps12
  go_wp2_with fail
  refine (heldIntS_any _ t.epochs.length k _ (HW.out.below hC0).ep SM.out.1 h0 (by omega)).mono ?_
  rintro e w1 ⟨rfl, rfl⟩
  go_wp2_with fail
  refine (heldPoolS_any _ t.pools (wk1 t k) _ (HW.out.below hC0).po HA.out.1 (by have := SM.out.2.1; omega) (by omega) (by omega)).mono ?_
  rintro e w2 ⟨rfl, rfl⟩
  go_wp2_with fail
  refine (heldClusterK_any t.clu _ _ _ (wk2 t k) _ (HW.out.below hC0).clu HA.out.2.1 HA.out.2.2.1 HA.out.2.2.2.1 HA.out.2.2.2.2.1 HA.out.2.2.2.2.2 (by omega) (by omega)).mono ?_
  rintro e w3 ⟨rfl, hb3⟩
  have hC3 := below_of hC0 hb3
  have BX := Lib.hid (BX.out.below hb3 BX.out.lt)
  have cl := BX.out.lt
  have y13 := BX.out.cell 13
  have y14 := BX.out.cell 14
  have y15 := BX.out.cell 15
  have y16 := BX.out.cell 16
  have y17 := BX.out.cell 17
  simp at y13 y14 y15 y16 y17
  clear hb3
  go_wp2_with fail
  refine (heldWantG_any _ t.wants.length (wk3 t k) _ (HW.out.below hC3).wa (by have := SM.out.2.2.1; omega) (by omega) (by omega)).mono ?_
  rintro e w4 ⟨rfl, rfl⟩
  go_wp2_with fail
  refine (heldIntS_any _ t.ends.length (wk4 t k) _ (HW.out.below hC3).en SM.out.2.2.2.1 (by omega) (by omega)).mono ?_
  rintro e w5 ⟨rfl, rfl⟩
  go_wp2_with fail
  refine (heldProvG_any t.seen _ t.insts.length (wk5 t k) _ (HW.out.below hC3).ins SM.out.2.2.2.2.1 (by omega) (by omega)).mono ?_
  rintro e w6 ⟨rfl, hb6⟩
  have hC6 := below_of hC3 hb6
  have BX := Lib.hid (BX.out.below hb6 BX.out.lt)
  have cl := BX.out.lt
  have y17 := BX.out.cell 17
  simp at y17
  clear hb6
  go_wp2_with fail
  refine (heldMsgG_any _ t.msgs.length (wk6 t k) _ (HW.out.below hC6).ms (by have := SM.out.2.2.2.2.2; omega) (by omega) (by omega)).mono ?_
  rintro e w7 ⟨rfl, rfl⟩
  go_wp2_with fail
  go_ret
  exact ⟨rfl, hC6⟩
end Go.Proofs.YtmkpajjnjgnmkabGreatDoor
