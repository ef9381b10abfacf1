/- What this seat's rows share: the closed facts, the sentinel's cell out of 'laid', a world for the witness. The contracts of the model's l08Leader, Leader. (mkworlds3.py) What WorldSafe computes, in plain Lean; the contracts of isTooLarge, isLeaked. (mksafe.py) The contract of the model's WorldSafe. (mksafes.py) The contracts of isLeaked, of WorldSafe's closures, of WorldSafe. (mksafe2.py) -/
import Derived.Test.YtcegofdmdemcbaaGreatDoorCards
import Derived.Test.YtcegofdmdemcbaaGreatDoorTie
import Derived.Test.YtcegofdmdemcbaaGreatDoorMg02
import Derived.Test.YtcegofdmdemcbaaGreatDoorMg00
import Derived.Test.YtcegofdmdemcbaaGreatDoorWorldS2
import Derived.Test.YtcegofdmdemcbaaGreatDoorMg08
import Derived.Test.YtcegofdmdemcbaaGreatDoorMg05
namespace Go.Proofs.YtcegofdmdemcbaaGreatDoor
open Go.ChangeShapes Go.WideShapes Go.ChangeAt Go.RowKit Go.Joins

theorem Tryz.errG : Tryz.prog.globalNamed "loop.example/g00718/impl.errRange" = some 0 := by kernel_rfl
theorem Tryz.errT : (Tryz.prog.globals[0]?).map (·.type) = some 224 := by kernel_rfl
theorem Tryz.cellsEs : Tryz.prog.cellsOf 289 = 1 := by kernel_rfl
theorem Tryz.cellsStr : Tryz.prog.cellsOf 9 = 1 := by kernel_rfl
theorem Tryz.star : "*" ++ "errors.errorString" = "*errors.errorString" := by decide
theorem Tryz.rowPtr : ∀ u, Tryz.prog.typeName? 3 u = some "*errors.errorString" → u = 262 := fun u h =>
  typeName_ptr_named (nm := "errors.errorString") (by rw [Tryz.star]; kernel_rfl) (by kernel_rfl) (by decide) u (by rw [Tryz.star]; exact h)
theorem errAt_of_laid {r : List (String × DataW Unit)} {W : World} (h : laidMet Tryz.prog (("loop.example/g00718/impl.errRange", Rows.laid_loop_example_g00718_impl_errRange) :: r) W) : ∃ a, ErrAt a W := by
  obtain ⟨a, s, hv, _⟩ := laid_sentinel h Tryz.errG Tryz.errT Tryz.underlying224 Tryz.rowPtr Tryz.underlying262 Tryz.underlying289 rfl rfl Tryz.underlying9 Tryz.cellsEs Tryz.cellsStr
  exact ⟨a, by simpa [ErrAt] using World.var?_cell Tryz.errG hv 0⟩

theorem errVars : ∀ n ∈ ["loop.example/g00718/impl.errRange"], ∃ g t ms, Tryz.prog.globalNamed n = some g ∧ (Tryz.prog.globals[g]?).map (·.type) = some t ∧ Tryz.prog.underlying t = some (.interface ms) := fun n hn => by
  obtain rfl := List.mem_singleton.1 hn
  exact ⟨_, _, _, Tryz.errG, Tryz.errT, Tryz.underlying224⟩
end Go.Proofs.YtcegofdmdemcbaaGreatDoor

namespace Go.Proofs.YtcegofdmdemcbaaGreatDoor
open Go.RowKit

theorem worldOk_four {t : WV} (h : worldOk t = true) : t.epochs.length = 4 := by
  simp only [worldOk, epochsOk, Bool.and_eq_true, decide_eq_true_eq] at h
  exact h.1.1.1.1.2.1.1
set_option maxHeartbeats 3200000 in
theorem l08Leader_any (t : WV) (s : WS) (w : World) (hw : WldR w t s) (h4 : t.epochs.length = 4) : Calls Tryz.prog 78 #[.agg #[.int .i64 t.now, .int .i64 t.span, .int .i64 t.kind, .int .i64 t.limit, .int .i64 t.next, .int .i64 t.lease.c, .int .i64 t.lease.m, .int .i64 t.lease.p, s.ep, s.po, s.ta, s.no, s.bi, s.wa, s.en, .int .i64 t.seen, s.ins, s.ms]] w fun e w' => e = .returned (.int .i64 (leaderB t)) ∧ Below w.heap.size w w' := by
  obtain ⟨A0, A1, A2, A3, A4, A5, A6, A7, A8, c0, c1, c2, c3, c4, c5, c6, c7, c8, rfl⟩ := hw.form
  have HA := Lib.hid hw.ep
  have L4 := Lib.hid h4
  have hlen := hw.small.1
  clear hw h4
  go_enter Tryz.func78, Tryz.ntmps78
  go_wp2_with fail
  go_loopw [3] (fun s3 wr => ∃ k : Nat, k ≤ t.epochs.length ∧ s3 = .int .i64 ((k : Int) + 1) ∧ leaderB t = leadFrom t k (t.epochs.drop k) ∧ BlockIs wr w.heap.size 39 #[.int .i64 t.now, .int .i64 t.span, .int .i64 t.kind, .int .i64 t.limit, .int .i64 t.next, .int .i64 t.lease.c, .int .i64 t.lease.m, .int .i64 t.lease.p, .slice A0 t.epochs.length c0, .slice A1 t.pools.length c1, .slice A2 t.clu.tasks.length c2, .slice A3 t.clu.nodes.length c3, .slice A4 t.clu.binds.length c4, .slice A5 t.wants.length c5, .slice A6 t.ends.length c6, .int .i64 t.seen, .slice A7 t.insts.length c7, .slice A8 t.msgs.length c8] ∧ Below w.heap.size w wr) (fun s3 _ => (5 - RowKit.intOf s3).toNat)
  case atStart => exact ⟨0, by omega, rfl, by rw [List.drop_zero]; rfl, BlockIs.new w _ _, (by repeat' (first | exact Below.refl _ _ | refine Below.alloc ?_ ?_ _ | refine Below.setCell ?_ ?_ _ | refine Below.drew ?_ | (apply below_step; assumption) | (simp; done) | (simp; omega) | omega))⟩
  case round =>
    obtain ⟨k, hk, rfl, hall, hblk, hB⟩ := hrel
    have HBK := Lib.hid hblk
    have hzr := hB.size
    have gc := hblk.cell
    have gl := hblk.lt
    clear hblk
    by_cases hlt : k < t.epochs.length
    · obtain ⟨A, c, e0, hA⟩ := HA.out.form
      obtain ⟨b, off, rfl, hbw, hat⟩ := hA (by omega)
      simp only [Value.slice.injEq] at e0
      obtain ⟨rfl, -, rfl⟩ := e0
      obtain ⟨r, hr⟩ : ∃ r, t.epochs[k]? = some r := ⟨_, List.getElem?_eq_getElem hlt⟩
      have q0 := (hat.below hB hbw) k r hr
      have hbr : b < wr.heap.size := by omega
      have HK := Lib.hid (show ∀ w', Below wr.heap.size wr w' → (fun w' => Below wr.heap.size wr w' ∧ (∀ o, w'.cell? ⟨w.heap.size, o, none⟩ = (#[.int .i64 t.now, .int .i64 t.span, .int .i64 t.kind, .int .i64 t.limit, .int .i64 t.next, .int .i64 t.lease.c, .int .i64 t.lease.m, .int .i64 t.lease.p, .slice (some ⟨b, off, none⟩) t.epochs.length c0, .slice A1 t.pools.length c1, .slice A2 t.clu.tasks.length c2, .slice A3 t.clu.nodes.length c3, .slice A4 t.clu.binds.length c4, .slice A5 t.wants.length c5, .slice A6 t.ends.length c6, .int .i64 t.seen, .slice A7 t.insts.length c7, .slice A8 t.msgs.length c8] : Array Value)[o]?) ∧ w'.cell? ⟨b, off + k, none⟩ = some (.int .i64 r)) w' from fun w' hb => ⟨hb, fun o => (hb.cell (p := ⟨_, _, none⟩) gl).trans (gc o), (hb.cell (p := ⟨_, _, none⟩) hbr).trans q0⟩)
      have HST := Lib.hid (hall.trans (leadFrom_step hr))
      have hki : (k : Int) < (t.epochs.length : Int) := by omega
      have hk0 : (0 : Int) ≤ (k : Int) := by omega
      have hwr : IntKind.i64.wrap (k : Int) = (k : Int) := by rw [IntKind.wrap_i64]; omega
      have hle : decide ((k : Int) + 1 ≤ 4) = true := decide_eq_true (by have := L4.out; omega)
      have hh := fun w => sLeaseHolds_any t.lease ((k : Int) + 1) r t.now w
      generalize hq : leaseHolds t.lease ((k : Int) + 1) r t.now = q at hh
      have HQ := Lib.hid hq
      have HH := Lib.hid hh
      clear hat hr hall hA hh hq
      cases q
      · go_wp2_with fail
        refine wp_region_held_drew (S := (fun w' => Below wr.heap.size wr w' ∧ (∀ o, w'.cell? ⟨w.heap.size, o, none⟩ = (#[.int .i64 t.now, .int .i64 t.span, .int .i64 t.kind, .int .i64 t.limit, .int .i64 t.next, .int .i64 t.lease.c, .int .i64 t.lease.m, .int .i64 t.lease.p, .slice (some ⟨b, off, none⟩) t.epochs.length c0, .slice A1 t.pools.length c1, .slice A2 t.clu.tasks.length c2, .slice A3 t.clu.nodes.length c3, .slice A4 t.clu.binds.length c4, .slice A5 t.wants.length c5, .slice A6 t.ends.length c6, .int .i64 t.seen, .slice A7 t.insts.length c7, .slice A8 t.msgs.length c8] : Array Value)[o]?) ∧ w'.cell? ⟨b, off + k, none⟩ = some (.int .i64 r))) (by kernel_rfl) (by (try dsimp only); exact HK.out _ (by repeat' (first | exact Below.refl _ _ | refine Below.alloc ?_ ?_ _ | refine Below.setCell ?_ ?_ _ | refine Below.drew ?_ | (apply below_step; assumption) | (simp; done) | (simp; omega) | omega))) (fun hHeld => ?_)
        refine hT 0 ?_; simp only [Act.put, rhA, rhS, rhT]
        refine hT 1 ?_; simp only [Act.put, rhA, rhS, rhT]
        refine hT 2 ?_; simp only [Act.put, rhA, rhS, rhT]
        refine hT 3 ?_; simp only [Act.put, rhA, rhS, rhT]
        refine hT 4 ?_; simp only [Act.put, rhA, rhS, rhT]
        refine hT 5 ?_; simp only [Act.put, rhA, rhS, rhT]
        refine hT 6 ?_; simp only [Act.put, rhA, rhS, rhT]
        refine hT 7 ?_; simp only [Act.put, rhA, rhS, rhT]
        refine hT 8 ?_; simp only [Act.put, rhA, rhS, rhT]
        refine hT 9 ?_; simp only [Act.put, rhA, rhS, rhT]
        refine hT 10 ?_; simp only [Act.put, rhA, rhS, rhT]
        refine hCall (i := 11) (o := ?a13) ?b13 (by kernel_rfl) ?c13 (fun K hK => ?d13)
        case b13 => simp only [rhN, rhM]; try rfl
        case c13 => rfl
        go_simp
        refine (HH.out _).mono ?_
        rintro e w3 ⟨rfl, hb3⟩
        have hz3 := hb3.size
        (try simp at hz3)
        go_wp2_with fail
        refine hK.out _ _ (by (try dsimp only); exact HK.out _ (by repeat' (first | exact Below.refl _ _ | refine Below.alloc ?_ ?_ _ | refine Below.setCell ?_ ?_ _ | refine Below.drew ?_ | (apply below_step; assumption) | (simp; done) | (simp; omega) | omega))) (fun hHeld => ?_)
        clear hK K
        try simp only [Act.put, rhA, rhS, rhT]
        refine wpAnyH_done (by kernel_rfl) ?_ _
        go_wp2_with fail
        go_roundw
        case rel => exact ⟨k + 1, by omega, by go_num, by rw [HST.out, HQ.out]; rfl, HBK.out.below (by repeat' (first | exact Below.refl _ _ | refine Below.alloc ?_ ?_ _ | refine Below.setCell ?_ ?_ _ | refine Below.drew ?_ | (apply below_step; assumption) | (simp; done) | (simp; omega) | omega)) gl, below_of hB (by repeat' (first | exact Below.refl _ _ | refine Below.alloc ?_ ?_ _ | refine Below.setCell ?_ ?_ _ | refine Below.drew ?_ | (apply below_step; assumption) | (simp; done) | (simp; omega) | omega))⟩
        case measure => have := L4.out; simp [RowKit.intOf]; omega
      · go_wp2_with fail
        refine wp_region_held_drew (S := (fun w' => Below wr.heap.size wr w' ∧ (∀ o, w'.cell? ⟨w.heap.size, o, none⟩ = (#[.int .i64 t.now, .int .i64 t.span, .int .i64 t.kind, .int .i64 t.limit, .int .i64 t.next, .int .i64 t.lease.c, .int .i64 t.lease.m, .int .i64 t.lease.p, .slice (some ⟨b, off, none⟩) t.epochs.length c0, .slice A1 t.pools.length c1, .slice A2 t.clu.tasks.length c2, .slice A3 t.clu.nodes.length c3, .slice A4 t.clu.binds.length c4, .slice A5 t.wants.length c5, .slice A6 t.ends.length c6, .int .i64 t.seen, .slice A7 t.insts.length c7, .slice A8 t.msgs.length c8] : Array Value)[o]?) ∧ w'.cell? ⟨b, off + k, none⟩ = some (.int .i64 r))) (by kernel_rfl) (by (try dsimp only); exact HK.out _ (by repeat' (first | exact Below.refl _ _ | refine Below.alloc ?_ ?_ _ | refine Below.setCell ?_ ?_ _ | refine Below.drew ?_ | (apply below_step; assumption) | (simp; done) | (simp; omega) | omega))) (fun hHeld => ?_)
        refine hT 0 ?_; simp only [Act.put, rhA, rhS, rhT]
        refine hT 1 ?_; simp only [Act.put, rhA, rhS, rhT]
        refine hT 2 ?_; simp only [Act.put, rhA, rhS, rhT]
        refine hT 3 ?_; simp only [Act.put, rhA, rhS, rhT]
        refine hT 4 ?_; simp only [Act.put, rhA, rhS, rhT]
        refine hT 5 ?_; simp only [Act.put, rhA, rhS, rhT]
        refine hT 6 ?_; simp only [Act.put, rhA, rhS, rhT]
        refine hT 7 ?_; simp only [Act.put, rhA, rhS, rhT]
        refine hT 8 ?_; simp only [Act.put, rhA, rhS, rhT]
        refine hT 9 ?_; simp only [Act.put, rhA, rhS, rhT]
        refine hT 10 ?_; simp only [Act.put, rhA, rhS, rhT]
        refine hCall (i := 11) (o := ?a26) ?b26 (by kernel_rfl) ?c26 (fun K hK => ?d26)
        case b26 => simp only [rhN, rhM]; try rfl
        case c26 => rfl
        go_simp
        refine (HH.out _).mono ?_
        rintro e w3 ⟨rfl, hb3⟩
        have hz3 := hb3.size
        (try simp at hz3)
        go_wp2_with fail
        refine hK.out _ _ (by (try dsimp only); exact HK.out _ (by repeat' (first | exact Below.refl _ _ | refine Below.alloc ?_ ?_ _ | refine Below.setCell ?_ ?_ _ | refine Below.drew ?_ | (apply below_step; assumption) | (simp; done) | (simp; omega) | omega))) (fun hHeld => ?_)
        clear hK K
        try simp only [Act.put, rhA, rhS, rhT]
        refine wpAnyH_done (by kernel_rfl) ?_ _
        go_wp2_with fail
        go_ret
        exact ⟨by rw [HST.out, HQ.out]; rfl, below_of hB (by repeat' (first | exact Below.refl _ _ | refine Below.alloc ?_ ?_ _ | refine Below.setCell ?_ ?_ _ | refine Below.drew ?_ | (apply below_step; assumption) | (simp; done) | (simp; omega) | omega))⟩
    · obtain rfl : k = t.epochs.length := by omega
      have HF := Lib.hid (show leaderB t = 0 by rw [hall, List.drop_length]; rfl)
      have hle : decide ((t.epochs.length : Int) + 1 ≤ 4) = false := decide_eq_false (by have := L4.out; omega)
      clear hall
      go_wp2_with fail
      go_ret
      exact ⟨by rw [HF.out]; rfl, hB⟩
set_option maxHeartbeats 3200000 in
theorem sLeader_any (t : WV) (s : WS) (w : World) (hw : WldR w t s) : Calls Tryz.prog 20 #[.agg #[.int .i64 t.now, .int .i64 t.span, .int .i64 t.kind, .int .i64 t.limit, .int .i64 t.next, .int .i64 t.lease.c, .int .i64 t.lease.m, .int .i64 t.lease.p, s.ep, s.po, s.ta, s.no, s.bi, s.wa, s.en, .int .i64 t.seen, s.ins, s.ms]] w fun e w' => e = .returned (.int .i64 (leaderG t)) ∧ Below w.heap.size w w' := by
  obtain ⟨A0, A1, A2, A3, A4, A5, A6, A7, A8, c0, c1, c2, c3, c4, c5, c6, c7, c8, rfl⟩ := hw.form
  have HW := Lib.hid hw
  have h1 := fun s w hw => sWorldOk_any t s w hw
  have hE : leaderG t = if worldOk t then leaderB t else 0 := rfl
  generalize leaderG t = ans at *
  generalize hok : worldOk t = ok at *
  have HO := Lib.hid hok
  have HE := Lib.hid hE
  have H1 := Lib.hid h1
  clear h1 hE hw hok
  go_enter Tryz.func20, Tryz.ntmps20
  have HB := Lib.hid (BlockIs.new w 39 #[.int .i64 t.now, .int .i64 t.span, .int .i64 t.kind, .int .i64 t.limit, .int .i64 t.next, .int .i64 t.lease.c, .int .i64 t.lease.m, .int .i64 t.lease.p, .slice A0 t.epochs.length c0, .slice A1 t.pools.length c1, .slice A2 t.clu.tasks.length c2, .slice A3 t.clu.nodes.length c3, .slice A4 t.clu.binds.length c4, .slice A5 t.wants.length c5, .slice A6 t.ends.length c6, .int .i64 t.seen, .slice A7 t.insts.length c7, .slice A8 t.msgs.length c8])
  have hX : Below w.heap.size w (w.alloc (.cells #[.int .i64 t.now, .int .i64 t.span, .int .i64 t.kind, .int .i64 t.limit, .int .i64 t.next, .int .i64 t.lease.c, .int .i64 t.lease.m, .int .i64 t.lease.p, .slice A0 t.epochs.length c0, .slice A1 t.pools.length c1, .slice A2 t.clu.tasks.length c2, .slice A3 t.clu.nodes.length c3, .slice A4 t.clu.binds.length c4, .slice A5 t.wants.length c5, .slice A6 t.ends.length c6, .int .i64 t.seen, .slice A7 t.insts.length c7, .slice A8 t.msgs.length c8] 39)) := (by repeat' (first | exact Below.refl _ _ | refine Below.alloc ?_ ?_ _ | refine Below.setCell ?_ ?_ _ | refine Below.drew ?_ | (apply below_step; assumption) | (simp; done) | (simp; omega) | omega))
  go_wp2_with (refine wpList_load_row rfl 39 _ rfl _ rfl 39 _ (0, 0) _ HB.out Tryz.underlying39 rfl (by kernel_rfl) ?_)
  refine (H1.out _ _ (HW.out.below hX)).mono ?_
  rintro e w1 ⟨rfl, hb1⟩
  have hC1 := below_of hX hb1
  have HB1 := Lib.hid (HB.out.below hb1 HB.out.lt)
  clear hb1 HB hX
  cases ok
  · go_wp2_with fail
    go_ret
    exact ⟨by rw [HE.out]; rfl, hC1⟩
  have HE2 := Lib.hid (show ans = leaderB t from HE.out.trans (if_pos rfl))
  go_wp2_with (refine wpList_load_row rfl 39 _ rfl _ rfl 39 _ (0, 0) _ HB1.out Tryz.underlying39 rfl (by kernel_rfl) ?_)
  refine (l08Leader_any t _ _ (HW.out.below hC1) (worldOk_four HO.out)).mono ?_
  rintro e w2 ⟨rfl, hb2⟩
  go_wp2_with fail
  go_ret
  exact ⟨by rw [HE2.out]; rfl, below_of hC1 hb2⟩
end Go.Proofs.YtcegofdmdemcbaaGreatDoor

namespace Go.Proofs.YtcegofdmdemcbaaGreatDoor
open Go.RowKit

def countW (z : Int) (l : List BV) : Nat := l.countP (fun v => decide (v.node = z))
theorem countW_yes {z : Int} {l : List BV} {k : Nat} {v : BV} (h : l[k]? = some v) (e : v.node = z) : countW z (l.take (k + 1)) = countW z (l.take k) + 1 := by
  unfold countW; rw [List.take_add_one, h, List.countP_append]; simp [e]
theorem countW_no {z : Int} {l : List BV} {k : Nat} {v : BV} (h : l[k]? = some v) (e : v.node ≠ z) : countW z (l.take (k + 1)) = countW z (l.take k) := by
  unfold countW; rw [List.take_add_one, h, List.countP_append]; simp [e]
theorem countW_le (z : Int) (l : List BV) : countW z l ≤ l.length := List.countP_le_length
def tooLarge (t : WV) (p : PV) : Bool := decide (p.max < (countOf p.id t.clu.nodes : Int) + countW p.id t.wants)
def asNode (t : WV) (i : RV) : Bool := match fstBy NV.id t.clu.nodes i.c with
  | some n => n.pool == i.m
  | none => false
def asWant (i : RV) (v : BV) : Bool := v.task == i.c && v.node == i.m
def leaked (t : WV) (i : RV) : Bool := (i.p == 1) && !asNode t i && !(t.wants.any (asWant i))
def worldSafe (t : WV) : Bool := worldOk t && !(t.pools.any (tooLarge t)) && !(t.insts.any (leaked t))

set_option maxHeartbeats 3200000 in
theorem isTooLarge_any (t : WV) (s : WS) (p : PV) (v1 v2 : Value) (w : World) (hw : WldR w t s) (h1 : LabSl w v1 p.shape.labs) (h2 : IntSl w v2 p.shape.taints) :
    Calls Tryz.prog 83 #[.agg #[.int .i64 t.now, .int .i64 t.span, .int .i64 t.kind, .int .i64 t.limit, .int .i64 t.next, .int .i64 t.lease.c, .int .i64 t.lease.m, .int .i64 t.lease.p, s.ep, s.po, s.ta, s.no, s.bi, s.wa, s.en, .int .i64 t.seen, s.ins, s.ms], .agg #[.int .i64 p.id, .int .i64 p.min, .int .i64 p.max, .int .i64 p.prio, .int .i64 p.shape.id, .int .i64 p.shape.pool, .int .i64 p.shape.cap.c, .int .i64 p.shape.cap.m, .int .i64 p.shape.cap.p, v1, v2, .bool p.shape.cordon]] w fun e w' => e = .returned (.bool (tooLarge t p)) ∧ Below w.heap.size w w' := by
  obtain ⟨A0, A1, A2, A3, A4, A5, A6, A7, A8, c0, c1, c2, c3, c4, c5, c6, c7, c8, rfl⟩ := hw.form
  obtain ⟨E1, d1, rfl, _⟩ := h1.form
  obtain ⟨E2, d2, rfl, _⟩ := h2.form
  have HW := Lib.hid hw
  have l2 := hw.small.2.2.1
  have l6 := hw.clu.2.2.2.2.1
  have hc := fun a0 a1 a2 w hc => countIn_any t.clu a0 a1 a2 p.id w hc
  have hcl := countOf_le p.id t.clu.nodes
  have HE := Lib.hid (show tooLarge t p = decide (p.max < (countOf p.id t.clu.nodes : Int) + countW p.id t.wants) from rfl)
  generalize tooLarge t p = ans at *
  generalize hn : countOf p.id t.clu.nodes = n at *
  have HC := Lib.hid hc
  clear hc hw h1 h2 hn
  go_enter Tryz.func83, Tryz.ntmps83
  go_wp2_with fail
  have hX : Below w.heap.size w ((w.alloc (.cells #[.int .i64 t.now, .int .i64 t.span, .int .i64 t.kind, .int .i64 t.limit, .int .i64 t.next, .int .i64 t.lease.c, .int .i64 t.lease.m, .int .i64 t.lease.p, .slice A0 t.epochs.length c0, .slice A1 t.pools.length c1, .slice A2 t.clu.tasks.length c2, .slice A3 t.clu.nodes.length c3, .slice A4 t.clu.binds.length c4, .slice A5 t.wants.length c5, .slice A6 t.ends.length c6, .int .i64 t.seen, .slice A7 t.insts.length c7, .slice A8 t.msgs.length c8] 39)).alloc (.cells #[.int .i64 p.id, .int .i64 p.min, .int .i64 p.max, .int .i64 p.prio, .int .i64 p.shape.id, .int .i64 p.shape.pool, .int .i64 p.shape.cap.c, .int .i64 p.shape.cap.m, .int .i64 p.shape.cap.p, .slice E1 p.shape.labs.length d1, .slice E2 p.shape.taints.length d2, .bool p.shape.cordon] 80)) := (by repeat' (first | exact Below.refl _ _ | refine Below.alloc ?_ ?_ _ | refine Below.setCell ?_ ?_ _ | refine Below.drew ?_ | (apply below_step; assumption) | (simp; done) | (simp; omega) | omega))
  have HB0 := Lib.hid (BlockIs.alloc (BlockIs.new w 39 #[.int .i64 t.now, .int .i64 t.span, .int .i64 t.kind, .int .i64 t.limit, .int .i64 t.next, .int .i64 t.lease.c, .int .i64 t.lease.m, .int .i64 t.lease.p, .slice A0 t.epochs.length c0, .slice A1 t.pools.length c1, .slice A2 t.clu.tasks.length c2, .slice A3 t.clu.nodes.length c3, .slice A4 t.clu.binds.length c4, .slice A5 t.wants.length c5, .slice A6 t.ends.length c6, .int .i64 t.seen, .slice A7 t.insts.length c7, .slice A8 t.msgs.length c8]) (.cells #[.int .i64 p.id, .int .i64 p.min, .int .i64 p.max, .int .i64 p.prio, .int .i64 p.shape.id, .int .i64 p.shape.pool, .int .i64 p.shape.cap.c, .int .i64 p.shape.cap.m, .int .i64 p.shape.cap.p, .slice E1 p.shape.labs.length d1, .slice E2 p.shape.taints.length d2, .bool p.shape.cordon] 80))
  have HB1 := Lib.hid (BlockIs.new' (w := w.alloc (.cells #[.int .i64 t.now, .int .i64 t.span, .int .i64 t.kind, .int .i64 t.limit, .int .i64 t.next, .int .i64 t.lease.c, .int .i64 t.lease.m, .int .i64 t.lease.p, .slice A0 t.epochs.length c0, .slice A1 t.pools.length c1, .slice A2 t.clu.tasks.length c2, .slice A3 t.clu.nodes.length c3, .slice A4 t.clu.binds.length c4, .slice A5 t.wants.length c5, .slice A6 t.ends.length c6, .int .i64 t.seen, .slice A7 t.insts.length c7, .slice A8 t.msgs.length c8] 39)) (g := w.heap.size + 1) (t := 80) (cs := #[.int .i64 p.id, .int .i64 p.min, .int .i64 p.max, .int .i64 p.prio, .int .i64 p.shape.id, .int .i64 p.shape.pool, .int .i64 p.shape.cap.c, .int .i64 p.shape.cap.m, .int .i64 p.shape.cap.p, .slice E1 p.shape.labs.length d1, .slice E2 p.shape.taints.length d2, .bool p.shape.cordon]) (by simp))
  refine (HC.out _ _ _ _ (HW.out.below hX).clu).mono ?_
  rintro e w1 ⟨rfl, hb1⟩
  have hC1 := below_of hX hb1
  have B0 := HB0.out.below hb1 HB0.out.lt
  have B1 := HB1.out.below hb1 HB1.out.lt
  have x13 := B0.cell 13
  simp at x13
  have HB1 := Lib.hid B1
  clear B0 B1 hb1 hX HB0
  go_wp2_with fail
  go_loopw [5, 16] (fun s5 s16 wr => ∃ k : Nat, k ≤ t.wants.length ∧ s16 = .int .i64 k ∧ s5 = .int .i64 ((n : Int) + countW p.id (t.wants.take k)) ∧ BlockIs wr (w.heap.size + 1) 80 #[.int .i64 p.id, .int .i64 p.min, .int .i64 p.max, .int .i64 p.prio, .int .i64 p.shape.id, .int .i64 p.shape.pool, .int .i64 p.shape.cap.c, .int .i64 p.shape.cap.m, .int .i64 p.shape.cap.p, .slice E1 p.shape.labs.length d1, .slice E2 p.shape.taints.length d2, .bool p.shape.cordon] ∧ Below w.heap.size w wr) (fun _ s16 _ => (t.wants.length - RowKit.intOf s16).toNat)
  case atStart => exact ⟨0, by omega, rfl, by simp [countW], HB1.out, hC1⟩
  case round =>
    obtain ⟨k, hk, rfl, rfl, hblk, hB⟩ := hrel
    have HBK := Lib.hid hblk
    have hzr := hB.size
    have y0 := hblk.cell 0
    have y2 := hblk.cell 2
    simp at y0 y2
    have hcw := countW_le p.id (t.wants.take k)
    have htl : (t.wants.take k).length ≤ 1048576 := by rw [List.length_take]; omega
    have hbl := hblk.lt
    clear hblk
    by_cases hlt : k < t.wants.length
    · obtain ⟨A, c, e0, hA⟩ := (HW.out.wa).form
      obtain ⟨b, off, rfl, hbw, hat⟩ := hA (by omega)
      simp only [Value.slice.injEq] at e0
      obtain ⟨rfl, -, rfl⟩ := e0
      obtain ⟨r, hr⟩ : ∃ r, t.wants[k]? = some r := ⟨_, List.getElem?_eq_getElem hlt⟩
      obtain ⟨cs, hR, hC⟩ := (hat.below WantR.kept hB hbw) k r hr
      obtain rfl := hR
      obtain ⟨q0, q1⟩ := want_cells hC
      have hlti : (k : Int) < (t.wants.length : Int) := by omega
      have hX : Below wr.heap.size wr (wr.alloc (.cells #[.int .i64 r.task, .int .i64 r.node] 112)) := (by repeat' (first | exact Below.refl _ _ | refine Below.alloc ?_ ?_ _ | refine Below.setCell ?_ ?_ _ | refine Below.drew ?_ | (apply below_step; assumption) | (simp; done) | (simp; omega) | omega))
      have HX := Lib.hid hX
      by_cases e : r.node = p.id
      · have he : (r.node == p.id) = true := by simpa using e
        have HN := Lib.hid (countW_yes hr e)
        have hwr : IntKind.i64.wrap ((n : Int) + (countW p.id (t.wants.take k) : Int) + 1) = (n : Int) + (countW p.id (t.wants.take k) : Int) + 1 := by rw [IntKind.wrap_i64]; omega
        clear hat hr hA hC e hX
        go_wp2_with fail
        go_roundw
        case rel => exact ⟨k + 1, by omega, by go_num, by rw [HN.out]; push_cast; simp [Int.add_assoc], HBK.out.below HX.out HBK.out.lt, hB.trans (HX.out.mono hzr)⟩
        case measure => simp [RowKit.intOf]; omega
      · have he : (r.node == p.id) = false := by simpa using e
        have HN := Lib.hid (countW_no hr e)
        clear hat hr hA hC e hX
        go_wp2_with fail
        go_roundw
        case rel => exact ⟨k + 1, by omega, by go_num, by rw [HN.out], HBK.out.below HX.out HBK.out.lt, hB.trans (HX.out.mono hzr)⟩
        case measure => simp [RowKit.intOf]; omega
    · obtain rfl : k = t.wants.length := by omega
      have HT := Lib.hid (show t.wants.take t.wants.length = t.wants from List.take_length)
      go_wp2_with fail
      go_ret
      exact ⟨by rw [HE.out, HT.out]; simp, hB⟩

theorem eqIn_want (a b : BV) (w : World) : (Op.equalIn 10000 112 (.agg #[.int .i64 a.task, .int .i64 a.node]) (.agg #[.int .i64 b.task, .int .i64 b.node])).run Tryz.prog w = .ok (a.task == b.task && a.node == b.node) w := by
  rw [show (10000 : Nat) = 9998 + 1 + 1 from rfl]
  unfold Op.equalIn
  go_simp
  by_cases h1 : a.task = b.task <;> by_cases h2 : a.node = b.node <;> simp [h1, h2]
theorem eq_want (a b : BV) (w : World) : (binOp .eql 112 (.agg #[.int .i64 a.task, .int .i64 a.node]) (.agg #[.int .i64 b.task, .int .i64 b.node])).run Tryz.prog w = .ok (.bool (a.task == b.task && a.node == b.node)) w := by
  rw [run_eql_struct, eqIn_want]; rfl
theorem guard_want (op : BinOp) (x y : Operand) (xs ys : Array Value) (w : World) : (eqGuard op 112 x y (.agg xs) (.agg ys)).run Tryz.prog w = .ok () w := run_eqGuard_agg w op 112 x y xs ys (by kernel_rfl)
theorem any_step {α : Type} {p : α → Bool} {l : List α} {k : Nat} {x : α} (h : l.any p = (l.drop k).any p) (hx : l[k]? = some x) : l.any p = (p x || (l.drop (k + 1)).any p) := by
  have hk : k < l.length := (List.getElem?_eq_some_iff.1 hx).1
  rw [h, List.drop_eq_getElem_cons hk, (List.getElem?_eq_some_iff.1 hx).2]; rfl
def RetIdx (b : Bool) (w : World) (e : Ending) (w' : World) : Prop := ∃ z : Int, e = .returned (.int .i64 z) ∧ decide (0 ≤ z) = b ∧ Below w.heap.size w w'
set_option maxHeartbeats 1600000 in
theorem indexWant_any (x : BV) (v : Value) (l : List BV) (w : World) (hv : WantSl w v l) (hlen : l.length ≤ 1048576) :
    Calls Tryz.prog 188 #[v, .agg #[.int .i64 x.task, .int .i64 x.node]] w (RetIdx (l.any (fun v => x.task == v.task && x.node == v.node)) w) := by
  obtain ⟨A, c, rfl, hA⟩ := hv.form
  have HA := Lib.hid hA
  have heq := fun a b w => eq_want a b w
  have hgd := guard_want
  have hgl : l.any (fun v => x.task == v.task && x.node == v.node) = (l.drop 0).any (fun v => x.task == v.task && x.node == v.node) := by rw [List.drop_zero]
  generalize hans : l.any (fun v => x.task == v.task && x.node == v.node) = ans at hgl ⊢
  have HG := Lib.hid hgl
  have HN := Lib.hid hans
  clear hA hv hgl hans
  go_enter Tryz.func188, Tryz.ntmps188
  go_wp2_with fail
  go_loopw [8] (fun s8 wr => ∃ k : Nat, k ≤ l.length ∧ s8 = .int .i64 k ∧ ans = (l.drop k).any (fun v => x.task == v.task && x.node == v.node) ∧ wr.cell? ⟨w.heap.size, 0, none⟩ = some (.int .i64 x.task) ∧ wr.cell? ⟨w.heap.size, 1, none⟩ = some (.int .i64 x.node) ∧ Below w.heap.size w wr) (fun s8 _ => (l.length - intOf s8).toNat)
  case atStart => exact ⟨0, by omega, rfl, HG.out, by simp, by simp, (by repeat' (first | exact Below.refl _ _ | refine Below.alloc ?_ ?_ _ | refine Below.setCell ?_ ?_ _ | refine Below.drew ?_ | (apply below_step; assumption) | (simp; done) | (simp; omega) | omega))⟩
  case round =>
    obtain ⟨k, hk, rfl, hall, y0, y1, hB⟩ := hrel
    have hzr := hB.size
    by_cases hlt : k < l.length
    · obtain ⟨b, off, rfl, hbw, hat⟩ := HA.out (by omega)
      obtain ⟨r, hr⟩ : ∃ r, l[k]? = some r := ⟨_, List.getElem?_eq_getElem hlt⟩
      obtain ⟨cs, hR, hC⟩ := (hat.below WantR.kept hB hbw) k r hr
      obtain rfl := hR
      obtain ⟨q0, q1⟩ := want_cells hC
      have hki : (k : Int) < (l.length : Int) := by omega
      have hk0 : (0 : Int) ≤ (k : Int) := by omega
      have HST := Lib.hid ((HN.out ▸ any_step (HN.out.trans hall) hr : ans = _))
      have heq1 := heq x r
      have HY := Lib.hid (And.intro y0 y1)
      clear hat hC hr hall heq
      generalize (x.task == r.task && x.node == r.node) = q at *
      cases q
      · go_wp2_with fail
        go_quiet (fail)
        go_wp2_with fail
        go_roundw
        case rel => exact ⟨k + 1, by omega, by go_num, by rw [HST.out]; rfl, HY.out.1, HY.out.2, (by repeat' (first | exact Below.refl _ _ | refine Below.alloc ?_ ?_ _ | refine Below.setCell ?_ ?_ _ | refine Below.drew ?_ | refine below_drewN ?_ _ | (apply below_step; assumption) | (simp; done) | (simp; omega) | omega))⟩
        case measure => simp [intOf]; omega
      · go_wp2_with fail
        go_quiet (fail)
        go_wp2_with fail
        go_ret
        exact ⟨k, rfl, by rw [HST.out]; simp, (by repeat' (first | exact Below.refl _ _ | refine Below.alloc ?_ ?_ _ | refine Below.setCell ?_ ?_ _ | refine Below.drew ?_ | refine below_drewN ?_ _ | (apply below_step; assumption) | (simp; done) | (simp; omega) | omega))⟩
    · obtain rfl : k = l.length := by omega
      have HF := Lib.hid (show ans = false by rw [hall, List.drop_length]; rfl)
      clear hall
      go_wp2_with fail
      go_ret
      exact ⟨-1, rfl, by rw [HF.out]; rfl, hB⟩
theorem containsWant_any (x : BV) (v : Value) (l : List BV) (w : World) (hv : WantSl w v l) (hlen : l.length ≤ 1048576) :
    Calls Tryz.prog 154 #[v, .agg #[.int .i64 x.task, .int .i64 x.node]] w fun e w' => e = .returned (.bool (l.any (fun v => x.task == v.task && x.node == v.node))) ∧ Below w.heap.size w w' := by
  have HV := Lib.hid hv
  obtain ⟨A, c, rfl, _⟩ := hv.form
  have hi := fun w hv => indexWant_any x (.slice A l.length c) l w hv hlen
  generalize l.any (fun v => x.task == v.task && x.node == v.node) = q at *
  have HI := Lib.hid hi
  clear hi hv
  go_enter Tryz.func154, Tryz.ntmps154
  go_wp2_with fail
  have hX : Below w.heap.size w (w.alloc (.cells #[.int .i64 x.task, .int .i64 x.node] 112)) := (by repeat' (first | exact Below.refl _ _ | refine Below.alloc ?_ ?_ _ | refine Below.setCell ?_ ?_ _ | refine Below.drew ?_ | (apply below_step; assumption) | (simp; done) | (simp; omega) | omega))
  refine (HI.out _ (HV.out.below hX)).mono ?_
  rintro e w1 ⟨z, rfl, hz, hb1⟩
  have HZ := Lib.hid hz
  have hC1 := below_of hX hb1
  clear hz
  go_wp2_with fail
  go_ret
  exact ⟨by rw [← HZ.out]; simp, hC1⟩
end Go.Proofs.YtcegofdmdemcbaaGreatDoor

namespace Go.Proofs.YtcegofdmdemcbaaGreatDoor
open Go.RowKit

theorem leaked_model (t : WV) (i : RV) (k : Bool) (h1 : (i.p != 1) = false) (h2 : (asNode t i || t.wants.any (fun v => v.task == i.c && v.node == i.m)) = k) : leaked t i = !k := by
  subst h2
  have e : (i.p == 1) = true := by simpa using h1
  unfold leaked
  rw [e]
  have : (fun v => v.task == i.c && v.node == i.m) = asWant i := rfl
  rw [this]
  cases asNode t i <;> simp
theorem leaked_down (t : WV) (i : RV) (h1 : (i.p != 1) = true) : leaked t i = false := by
  have e : (i.p == 1) = false := by simpa using h1
  unfold leaked; rw [e]; rfl
theorem any_take_step {α : Type} {p : α → Bool} {l : List α} {k : Nat} {x : α} (hx : l[k]? = some x) : (l.take (k + 1)).any p = ((l.take k).any p || p x) := by
  rw [List.take_add_one, hx]; simp
set_option maxHeartbeats 12800000 in
set_option maxRecDepth 20000 in
theorem sWorldSafe_any (t : WV) (s : WS) (w : World) (hw : WldR w t s) : Calls Tryz.prog 22 #[.agg #[.int .i64 t.now, .int .i64 t.span, .int .i64 t.kind, .int .i64 t.limit, .int .i64 t.next, .int .i64 t.lease.c, .int .i64 t.lease.m, .int .i64 t.lease.p, s.ep, s.po, s.ta, s.no, s.bi, s.wa, s.en, .int .i64 t.seen, s.ins, s.ms]] w fun e w' => e = .returned (.bool (worldSafe t)) ∧ Below w.heap.size w w' := by
  obtain ⟨A0, A1, A2, A3, A4, A5, A6, A7, A8, c0, c1, c2, c3, c4, c5, c6, c7, c8, rfl⟩ := hw.form
  have HW := Lib.hid hw
  have l1 := hw.small.2.1
  have l2 := hw.small.2.2.1
  have l4 := hw.small.2.2.2.2.1
  have l6 := hw.clu.2.2.2.2.1
  have h1 := fun s w hw => sWorldOk_any t s w hw
  have hE : worldSafe t = (worldOk t && !(t.pools.any (tooLarge t)) && !(t.insts.any (leaked t))) := rfl
  generalize worldSafe t = ans at *
  generalize worldOk t = ok at *
  have HE := Lib.hid hE
  have H1 := Lib.hid h1
  clear h1 hE hw
  go_enter Tryz.func22, Tryz.ntmps22
  have HB := Lib.hid (BlockIs.new w 39 #[.int .i64 t.now, .int .i64 t.span, .int .i64 t.kind, .int .i64 t.limit, .int .i64 t.next, .int .i64 t.lease.c, .int .i64 t.lease.m, .int .i64 t.lease.p, .slice A0 t.epochs.length c0, .slice A1 t.pools.length c1, .slice A2 t.clu.tasks.length c2, .slice A3 t.clu.nodes.length c3, .slice A4 t.clu.binds.length c4, .slice A5 t.wants.length c5, .slice A6 t.ends.length c6, .int .i64 t.seen, .slice A7 t.insts.length c7, .slice A8 t.msgs.length c8])
  have hX : Below w.heap.size w (w.alloc (.cells #[.int .i64 t.now, .int .i64 t.span, .int .i64 t.kind, .int .i64 t.limit, .int .i64 t.next, .int .i64 t.lease.c, .int .i64 t.lease.m, .int .i64 t.lease.p, .slice A0 t.epochs.length c0, .slice A1 t.pools.length c1, .slice A2 t.clu.tasks.length c2, .slice A3 t.clu.nodes.length c3, .slice A4 t.clu.binds.length c4, .slice A5 t.wants.length c5, .slice A6 t.ends.length c6, .int .i64 t.seen, .slice A7 t.insts.length c7, .slice A8 t.msgs.length c8] 39)) := (by repeat' (first | exact Below.refl _ _ | refine Below.alloc ?_ ?_ _ | refine Below.setCell ?_ ?_ _ | refine Below.drew ?_ | (apply below_step; assumption) | (simp; done) | (simp; omega) | omega))
  go_wp2_with (refine wpList_load_row rfl 39 _ rfl _ rfl 39 _ (0, 0) _ HB.out Tryz.underlying39 rfl (by kernel_rfl) ?_)
  refine (H1.out _ _ (HW.out.below hX)).mono ?_
  rintro e w1 ⟨rfl, hb1⟩
  have hC1 := below_of hX hb1
  have HB := Lib.hid (HB.out.below hb1 HB.out.lt)
  clear hX hb1
  cases ok
  · go_wp2_with fail
    go_ret
    exact ⟨by rw [HE.out]; simp, hC1⟩
  go_wp2_with fail
  go_loopw [3] (fun s3 wr => ∃ i : Nat, i ≤ t.pools.length ∧ s3 = .int .i64 i ∧ t.pools.any (tooLarge t) = (t.pools.drop i).any (tooLarge t) ∧ BlockIs wr w.heap.size 39 #[.int .i64 t.now, .int .i64 t.span, .int .i64 t.kind, .int .i64 t.limit, .int .i64 t.next, .int .i64 t.lease.c, .int .i64 t.lease.m, .int .i64 t.lease.p, .slice A0 t.epochs.length c0, .slice A1 t.pools.length c1, .slice A2 t.clu.tasks.length c2, .slice A3 t.clu.nodes.length c3, .slice A4 t.clu.binds.length c4, .slice A5 t.wants.length c5, .slice A6 t.ends.length c6, .int .i64 t.seen, .slice A7 t.insts.length c7, .slice A8 t.msgs.length c8] ∧ Below w.heap.size w wr) (fun s3 _ => (t.pools.length - RowKit.intOf s3).toNat)
  case atStart => exact ⟨0, by omega, rfl, by rw [List.drop_zero], HB.out, hC1⟩
  case round =>
    clear HB hC1
    obtain ⟨i, hi, rfl, hall, hblk, hB⟩ := hrel
    have HBK := Lib.hid hblk
    have hzr := hB.size
    have x9 := hblk.cell 9
    simp at x9
    have gc := hblk.cell
    have gl := hblk.lt
    clear hblk
    by_cases hlt : i < t.pools.length
    · skip
      obtain ⟨A, c, e0, hA⟩ := (HW.out.po).form
      obtain ⟨b, off, rfl, hbw, hat⟩ := hA (by omega)
      simp only [Value.slice.injEq] at e0
      obtain ⟨rfl, -, rfl⟩ := e0
      obtain ⟨r, hr⟩ : ∃ r, t.pools[i]? = some r := ⟨_, List.getElem?_eq_getElem hlt⟩
      have hii : (i : Int) < (t.pools.length : Int) := by omega
      have hi0 : (0 : Int) ≤ (i : Int) := by omega
      have HPC := Lib.hid (show ∀ w', Below w.heap.size w w' → w'.cell? ⟨b, off + i * 12, none⟩ = some (.int .i64 r.id) ∧ w'.cell? ⟨b, off + i * 12 + 2, none⟩ = some (.int .i64 r.max) from fun w' hb => by
        obtain ⟨cs, hR, hC⟩ := (hat.below PoolR.kept hb hbw) i r hr
        obtain ⟨u1, u2, rfl, _⟩ := hR
        exact ⟨hC 0 _ rfl, hC 2 _ rfl⟩)
      have q0 := (HPC.out _ hB).1
      have hbr : b < wr.heap.size := by omega
      have HK := Lib.hid (show ∀ w', Below wr.heap.size wr w' → (fun w' => Below wr.heap.size wr w' ∧ (∀ o, w'.cell? ⟨w.heap.size, o, none⟩ = (#[.int .i64 t.now, .int .i64 t.span, .int .i64 t.kind, .int .i64 t.limit, .int .i64 t.next, .int .i64 t.lease.c, .int .i64 t.lease.m, .int .i64 t.lease.p, .slice A0 t.epochs.length c0, .slice (some ⟨b, off, none⟩) t.pools.length c1, .slice A2 t.clu.tasks.length c2, .slice A3 t.clu.nodes.length c3, .slice A4 t.clu.binds.length c4, .slice A5 t.wants.length c5, .slice A6 t.ends.length c6, .int .i64 t.seen, .slice A7 t.insts.length c7, .slice A8 t.msgs.length c8] : Array Value)[o]?) ∧ w'.cell? ⟨b, off + i * 12, none⟩ = some (.int .i64 r.id)) w' from fun w' hb => ⟨hb, fun o => (hb.cell (p := ⟨_, _, none⟩) gl).trans (gc o), (hb.cell (p := ⟨_, _, none⟩) hbr).trans q0⟩)
      have HST := Lib.hid (any_step hall hr)
      have hcn := fun a0 a1 a2 w hc => sCountIn_any t.clu a0 a1 a2 r.id w hc
      have hcl := countOf_le r.id t.clu.nodes
      have htl : tooLarge t r = decide (r.max < (countOf r.id t.clu.nodes : Int) + countW r.id t.wants) := rfl
      generalize countOf r.id t.clu.nodes = n at hcn hcl htl
      have HTL := Lib.hid htl
      have HCN := Lib.hid hcn
      clear hat hr hall hA hcn htl
      go_wp2_with fail
      refine wp_region_held_drew (S := (fun w' => Below wr.heap.size wr w' ∧ (∀ o, w'.cell? ⟨w.heap.size, o, none⟩ = (#[.int .i64 t.now, .int .i64 t.span, .int .i64 t.kind, .int .i64 t.limit, .int .i64 t.next, .int .i64 t.lease.c, .int .i64 t.lease.m, .int .i64 t.lease.p, .slice A0 t.epochs.length c0, .slice (some ⟨b, off, none⟩) t.pools.length c1, .slice A2 t.clu.tasks.length c2, .slice A3 t.clu.nodes.length c3, .slice A4 t.clu.binds.length c4, .slice A5 t.wants.length c5, .slice A6 t.ends.length c6, .int .i64 t.seen, .slice A7 t.insts.length c7, .slice A8 t.msgs.length c8] : Array Value)[o]?) ∧ w'.cell? ⟨b, off + i * 12, none⟩ = some (.int .i64 r.id))) (by kernel_rfl) (by (try dsimp only); exact HK.out _ (by repeat' (first | exact Below.refl _ _ | refine Below.alloc ?_ ?_ _ | refine Below.setCell ?_ ?_ _ | refine Below.drew ?_ | (apply below_step; assumption) | (simp; done) | (simp; omega) | omega))) (fun hHeld => ?_)
      refine hT 0 ?_; simp only [Act.put, rhA, rhS, rhT]
      refine hT 1 ?_; simp only [Act.put, rhA, rhS, rhT]
      refine hT 2 ?_; simp only [Act.put, rhA, rhS, rhT]
      refine hT 3 ?_; simp only [Act.put, rhA, rhS, rhT]
      refine hT 4 ?_; simp only [Act.put, rhA, rhS, rhT]
      refine hT 5 ?_; simp only [Act.put, rhA, rhS, rhT]
      refine hT 6 ?_; simp only [Act.put, rhA, rhS, rhT]
      refine hT 7 ?_; simp only [Act.put, rhA, rhS, rhT]
      refine hCall (i := 8) (o := ?a10) ?b10 (by kernel_rfl) ?c10 (fun K hK => ?d10)
      case b10 => simp only [rhN, rhM]; try rfl
      case c10 => rfl
      go_simp
      refine (HCN.out _ _ _ _ (HW.out.below (below_of hB (by repeat' (first | exact Below.refl _ _ | refine Below.alloc ?_ ?_ _ | refine Below.setCell ?_ ?_ _ | refine Below.drew ?_ | (apply below_step; assumption) | (simp; done) | (simp; omega) | omega)))).clu).mono ?_
      rintro e w3 ⟨rfl, hb3⟩
      have hz3 := hb3.size
      (try simp at hz3)
      go_wp2_with fail
      refine hK.out _ _ (by (try dsimp only); exact HK.out _ (by repeat' (first | exact Below.refl _ _ | refine Below.alloc ?_ ?_ _ | refine Below.setCell ?_ ?_ _ | refine Below.drew ?_ | (apply below_step; assumption) | (simp; done) | (simp; omega) | omega))) (fun hHeld => ?_)
      clear hK K
      try simp only [Act.put, rhA, rhS, rhT]
      refine hT 9 ?_; simp only [Act.put, rhA, rhS, rhT]
      refine wpAnyH_done (by kernel_rfl) ?_ _
      go_wp2_with fail
      clear hlt
      go_loopw [4, 5] (fun s4 s5 wq => ∃ k : Nat, k ≤ t.wants.length ∧ s5 = .int .i64 k ∧ s4 = .int .i64 ((n : Int) + countW r.id (t.wants.take k)) ∧ BlockIs wq w.heap.size 39 #[.int .i64 t.now, .int .i64 t.span, .int .i64 t.kind, .int .i64 t.limit, .int .i64 t.next, .int .i64 t.lease.c, .int .i64 t.lease.m, .int .i64 t.lease.p, .slice A0 t.epochs.length c0, .slice (some ⟨b, off, none⟩) t.pools.length c1, .slice A2 t.clu.tasks.length c2, .slice A3 t.clu.nodes.length c3, .slice A4 t.clu.binds.length c4, .slice A5 t.wants.length c5, .slice A6 t.ends.length c6, .int .i64 t.seen, .slice A7 t.insts.length c7, .slice A8 t.msgs.length c8] ∧ Below w.heap.size w wq) (fun _ s5 _ => (t.wants.length - RowKit.intOf s5).toNat)
      case atStart => exact ⟨0, by omega, rfl, by simp [countW], HBK.out.below (by repeat' (first | exact Below.refl _ _ | refine Below.alloc ?_ ?_ _ | refine Below.setCell ?_ ?_ _ | refine Below.drew ?_ | (apply below_step; assumption) | (simp; done) | (simp; omega) | omega)) gl, below_of hB (by repeat' (first | exact Below.refl _ _ | refine Below.alloc ?_ ?_ _ | refine Below.setCell ?_ ?_ _ | refine Below.drew ?_ | (apply below_step; assumption) | (simp; done) | (simp; omega) | omega))⟩
      case round =>
        clear HBK hB hzr x9 gc gl HK q0 hbr
        obtain ⟨k, hk, rfl, rfl, hblk, hB⟩ := hrel
        have HBK := Lib.hid hblk
        have hzr := hB.size
        have x9 := hblk.cell 9
        have x13 := hblk.cell 13
        simp at x9 x13
        have hbl := hblk.lt
        clear hblk
        obtain ⟨q0, q2⟩ := HPC.out _ hB
        have hcw := countW_le r.id (t.wants.take k)
        have htk : (t.wants.take k).length ≤ 1048576 := by rw [List.length_take]; omega
        by_cases hkt : k < t.wants.length
        · skip
          obtain ⟨A, c, e0, hA⟩ := (HW.out.wa).form
          obtain ⟨b2, off2, rfl, hbw2, hat2⟩ := hA (by omega)
          simp only [Value.slice.injEq] at e0
          obtain ⟨rfl, -, rfl⟩ := e0
          obtain ⟨v, hv⟩ : ∃ v, t.wants[k]? = some v := ⟨_, List.getElem?_eq_getElem hkt⟩
          obtain ⟨cs, hR, hC⟩ := (hat2.below WantR.kept hB hbw2) k v hv
          obtain rfl := hR
          obtain ⟨y0, y1⟩ := want_cells hC
          have hki : (k : Int) < (t.wants.length : Int) := by omega
          have hk0 : (0 : Int) ≤ (k : Int) := by omega
          by_cases e : v.node = r.id
          · have he : (v.node == r.id) = true := by simpa using e
            have HN := Lib.hid (countW_yes hv e)
            have hwr : IntKind.i64.wrap ((n : Int) + (countW r.id (t.wants.take k) : Int) + 1) = (n : Int) + (countW r.id (t.wants.take k) : Int) + 1 := by rw [IntKind.wrap_i64]; omega
            clear hat2 hv hA hC e
            go_wp2_with fail
            go_quiet (fail)
            go_wp2_with fail
            go_roundw
            case rel => exact ⟨k + 1, by omega, by go_num, by rw [HN.out]; push_cast; simp [Int.add_assoc], HBK.out, (by repeat' (first | exact Below.refl _ _ | refine Below.alloc ?_ ?_ _ | refine Below.setCell ?_ ?_ _ | refine Below.drew ?_ | refine below_drewN ?_ _ | (apply below_step; assumption) | (simp; done) | (simp; omega) | omega))⟩
            case measure => simp [RowKit.intOf]; omega
          · have he : (v.node == r.id) = false := by simpa using e
            have HN := Lib.hid (countW_no hv e)
            clear hat2 hv hA hC e
            go_wp2_with fail
            go_quiet (fail)
            go_wp2_with fail
            go_roundw
            case rel => exact ⟨k + 1, by omega, by go_num, by rw [HN.out], HBK.out, (by repeat' (first | exact Below.refl _ _ | refine Below.alloc ?_ ?_ _ | refine Below.setCell ?_ ?_ _ | refine Below.drew ?_ | refine below_drewN ?_ _ | (apply below_step; assumption) | (simp; done) | (simp; omega) | omega))⟩
            case measure => simp [RowKit.intOf]; omega
        · obtain rfl : k = t.wants.length := by omega
          have HTK := Lib.hid (show t.wants.take t.wants.length = t.wants from List.take_length)
          have htl := HTL.out
          rw [← HTK.out] at htl
          generalize hz : (n : Int) + (countW r.id (t.wants.take t.wants.length) : Int) = z at *
          generalize hq : decide (r.max < z) = q at *
          have HTL2 := Lib.hid htl
          clear htl hz hkt
          cases q
          · go_wp2_with fail
            go_roundw
            case rel => exact ⟨i + 1, by omega, by go_num, by rw [HST.out, HTL2.out]; rfl, HBK.out, hB⟩
            case measure => simp [RowKit.intOf]; omega
          · go_wp2_with fail
            go_ret
            exact ⟨by rw [HE.out, HST.out, HTL2.out]; simp, hB⟩
    · obtain rfl : i = t.pools.length := by omega
      have HPL := Lib.hid (hall.trans (by rw [List.drop_length, List.any_nil]))
      clear hall
      go_wp2_with fail
      clear hlt x9 gc gl
      go_loopw [6] (fun s6 wr => ∃ i : Nat, i ≤ t.insts.length ∧ s6 = .int .i64 i ∧ t.insts.any (leaked t) = (t.insts.drop i).any (leaked t) ∧ BlockIs wr w.heap.size 39 #[.int .i64 t.now, .int .i64 t.span, .int .i64 t.kind, .int .i64 t.limit, .int .i64 t.next, .int .i64 t.lease.c, .int .i64 t.lease.m, .int .i64 t.lease.p, .slice A0 t.epochs.length c0, .slice A1 t.pools.length c1, .slice A2 t.clu.tasks.length c2, .slice A3 t.clu.nodes.length c3, .slice A4 t.clu.binds.length c4, .slice A5 t.wants.length c5, .slice A6 t.ends.length c6, .int .i64 t.seen, .slice A7 t.insts.length c7, .slice A8 t.msgs.length c8] ∧ Below w.heap.size w wr) (fun s6 _ => (t.insts.length - RowKit.intOf s6).toNat)
      case atStart => exact ⟨0, by omega, rfl, by rw [List.drop_zero], HBK.out, hB⟩
      case round =>
        clear HBK hB hzr
        obtain ⟨i, hi, rfl, hall, hblk, hB⟩ := hrel
        have HBK := Lib.hid hblk
        have hzr := hB.size
        have x16 := hblk.cell 16
        have x10 := hblk.cell 10
        have x11 := hblk.cell 11
        have x12 := hblk.cell 12
        simp at x16 x10 x11 x12
        have gl := hblk.lt
        clear hblk
        by_cases hlt : i < t.insts.length
        · skip
          obtain ⟨A, c, e0, hA⟩ := (HW.out.ins).form
          obtain ⟨b, off, rfl, hbw, hat⟩ := hA (by omega)
          simp only [Value.slice.injEq] at e0
          obtain ⟨rfl, -, rfl⟩ := e0
          obtain ⟨r, hr⟩ : ∃ r, t.insts[i]? = some r := ⟨_, List.getElem?_eq_getElem hlt⟩
          obtain ⟨q0, q1, q2⟩ := (hat.below hB hbw) i r hr
          have hii : (i : Int) < (t.insts.length : Int) := by omega
          have hi0 : (0 : Int) ≤ (i : Int) := by omega
          have HST := Lib.hid (any_step hall hr)
          have hX : Below wr.heap.size wr (wr.alloc (.cells #[.int .i64 r.c, .int .i64 r.m, .int .i64 r.p] 114)) := (by repeat' (first | exact Below.refl _ _ | refine Below.alloc ?_ ?_ _ | refine Below.setCell ?_ ?_ _ | refine Below.drew ?_ | (apply below_step; assumption) | (simp; done) | (simp; omega) | omega))
          have HX := Lib.hid hX
          have HI := Lib.hid (BlockIs.new wr 114 #[.int .i64 r.c, .int .i64 r.m, .int .i64 r.p])
          have HDN := Lib.hid (leaked_down t r)
          have HMD := Lib.hid (leaked_model t r)
          have hsn := fun w1 h1 => sNode_any t.clu _ _ _ r.c w w1 h1 HW.out.clu
          have HSN := Lib.hid hsn
          clear hat hr hall hA hX hsn
          generalize he1 : (r.p != 1) = e1 at *
          cases e1
          rotate_left
          · go_wp2_with fail
            go_roundw
            case rel => exact ⟨i + 1, by omega, by go_num, by rw [HST.out, HDN.out rfl]; rfl, HBK.out.below HX.out HBK.out.lt, hB.trans (HX.out.mono hzr)⟩
            case measure => simp [RowKit.intOf]; omega
          go_wp2_with fail
          refine (HSN.out _ (hB.trans (HX.out.mono hzr))).mono ?_
          rintro e w3 ⟨rfl, hb3⟩
          have hD3 := (hB.trans (HX.out.mono hzr)).trans (hb3.mono (by have := HX.out.size; omega))
          have HB3 := Lib.hid ((HBK.out.below HX.out HBK.out.lt).below hb3 (by have := HX.out.size; omega))
          have I3 := HI.out.below hb3 HI.out.lt
          have y0 := I3.cell 0
          have y1 := I3.cell 1
          have x11 := HB3.out.cell 11
          simp at y0 y1 x11
          have HI3 := Lib.hid I3
          clear hb3 I3 HBK HX HI hB q0 q1 q2 x16 x10 x12 hlt gl hzr
          have hzr := hD3.size
          cases ho : fstBy NV.id t.clu.nodes r.c with
          | none =>
            have HAN := Lib.hid (show asNode t r = false by unfold asNode; rw [ho])
            have hj := idxBy_none ho
            have hg : decide ((0 : Int) ≤ idxBy NV.id t.clu.nodes r.c) = false := by rw [hj]; rfl
            generalize idxBy NV.id t.clu.nodes r.c = j at *
            clear hj ho
            go_wp2_with fail
            go_quiet (fail)
            go_wp2_with fail
            go_loopw [9, 10] (fun s9 s10 wq => ∃ k : Nat, k ≤ t.wants.length ∧ s10 = .int .i64 k ∧ s9 = .bool (asNode t r || (t.wants.take k).any (fun v => v.task == r.c && v.node == r.m)) ∧ BlockIs wq w.heap.size 39 #[.int .i64 t.now, .int .i64 t.span, .int .i64 t.kind, .int .i64 t.limit, .int .i64 t.next, .int .i64 t.lease.c, .int .i64 t.lease.m, .int .i64 t.lease.p, .slice A0 t.epochs.length c0, .slice A1 t.pools.length c1, .slice A2 t.clu.tasks.length c2, .slice A3 t.clu.nodes.length c3, .slice A4 t.clu.binds.length c4, .slice A5 t.wants.length c5, .slice A6 t.ends.length c6, .int .i64 t.seen, .slice (some ⟨b, off, none⟩) t.insts.length c7, .slice A8 t.msgs.length c8] ∧ BlockIs wq wr.heap.size 114 #[.int .i64 r.c, .int .i64 r.m, .int .i64 r.p] ∧ Below w.heap.size w wq) (fun _ s10 _ => (t.wants.length - RowKit.intOf s10).toNat)
            case atStart => exact ⟨0, by omega, rfl, by rw [HAN.out]; simp, HB3.out, HI3.out, (by repeat' (first | exact Below.refl _ _ | refine Below.alloc ?_ ?_ _ | refine Below.setCell ?_ ?_ _ | refine Below.drew ?_ | refine below_drewN ?_ _ | (apply below_step; assumption) | (simp; done) | (simp; omega) | omega))⟩
            case round =>
              clear hD3 HB3 HI3 hzr y0 y1
              obtain ⟨k, hk, rfl, rfl, hblk, hib, hB⟩ := hrel
              have HBK := Lib.hid hblk
              have HIB := Lib.hid hib
              have hzr := hB.size
              have x13 := hblk.cell 13
              have y0 := hib.cell 0
              have y1 := hib.cell 1
              simp at x13 y0 y1
              clear hblk hib
              by_cases hkt : k < t.wants.length
              · skip
                obtain ⟨A, c, e0, hA⟩ := (HW.out.wa).form
                obtain ⟨b2, off2, rfl, hbw2, hat2⟩ := hA (by omega)
                simp only [Value.slice.injEq] at e0
                obtain ⟨rfl, -, rfl⟩ := e0
                obtain ⟨v, hv⟩ : ∃ v, t.wants[k]? = some v := ⟨_, List.getElem?_eq_getElem hkt⟩
                obtain ⟨cs, hR, hC⟩ := (hat2.below WantR.kept hB hbw2) k v hv
                obtain rfl := hR
                obtain ⟨z0, z1⟩ := want_cells hC
                have hki : (k : Int) < (t.wants.length : Int) := by omega
                have hk0 : (0 : Int) ≤ (k : Int) := by omega
                have HTS := Lib.hid (any_take_step (p := fun v => v.task == r.c && v.node == r.m) hv)
                have heq1 := eq_want v ⟨r.c, r.m⟩
                simp only at heq1
                have hgd := guard_want
                generalize hkn : (asNode t r || (t.wants.take k).any (fun v => v.task == r.c && v.node == r.m)) = kn at *
                have HKN := Lib.hid hkn
                generalize hvq : (v.task == r.c && v.node == r.m) = vq at *
                clear hat2 hv hA hC hkn hvq
                cases kn <;> cases vq
                all_goals
                  go_wp2_with fail
                  go_quiet (fail)
                  go_wp2_with fail
                  go_roundw
                  case rel => exact ⟨k + 1, by omega, by go_num, by rw [HTS.out, ← Bool.or_assoc, HKN.out]; simp, HBK.out, HIB.out, (by repeat' (first | exact Below.refl _ _ | refine Below.alloc ?_ ?_ _ | refine Below.setCell ?_ ?_ _ | refine Below.drew ?_ | refine below_drewN ?_ _ | (apply below_step; assumption) | (simp; done) | (simp; omega) | omega))⟩
                  case measure => simp [RowKit.intOf]; omega
              · obtain rfl : k = t.wants.length := by omega
                have HTK := Lib.hid (show t.wants.take t.wants.length = t.wants from List.take_length)
                generalize hkn : (asNode t r || (t.wants.take t.wants.length).any (fun v => v.task == r.c && v.node == r.m)) = kn at *
                have HLK := Lib.hid (HMD.out kn (by first | rfl | trivial) (by rw [← hkn, HTK.out]))
                clear hkn hkt
                cases kn
                · go_wp2_with fail
                  go_ret
                  exact ⟨by rw [HE.out, HPL.out, HST.out, HLK.out]; simp, hB⟩
                · go_wp2_with fail
                  go_roundw
                  case rel => exact ⟨i + 1, by omega, by go_num, by rw [HST.out, HLK.out]; rfl, HBK.out, hB⟩
                  case measure => simp [RowKit.intOf]; omega
          | some n =>
            obtain ⟨j, hj, hjt, -, -⟩ := idxBy_some ho
            have hjl : j < t.clu.nodes.length := (List.getElem?_eq_some_iff.1 hjt).1
            have HAN := Lib.hid (show asNode t r = (n.pool == r.m) by unfold asNode; rw [ho])
            obtain ⟨A, c, e0, hA⟩ := (HW.out.clu.2.1).form
            obtain ⟨b1, off1, rfl, hbw1, hat1⟩ := hA (by omega)
            simp only [Value.slice.injEq] at e0
            obtain ⟨rfl, -, rfl⟩ := e0
            obtain ⟨cs1, hR1, hC1⟩ := (hat1.below NodeR.kept hD3 hbw1) j n hjt
            obtain ⟨n1, n2, rfl, s1, s2, _, _⟩ := hR1
            obtain ⟨N1, k1, rfl, _⟩ := s1.form
            obtain ⟨N2, k2, rfl, _⟩ := s2.form
            obtain ⟨z0, z1, z2, z3, z4, z5, z6, z7⟩ := node_cells hC1
            have hg : decide ((0 : Int) ≤ idxBy NV.id t.clu.nodes r.c) = true := by rw [hj]; simp
            have hji : (j : Int) < (t.clu.nodes.length : Int) := by omega
            have hj0 : (0 : Int) ≤ (j : Int) := by omega
            generalize hjj : idxBy NV.id t.clu.nodes r.c = jj at *
            subst hj
            generalize hpq : (n.pool == r.m) = pq at *
            clear ho hjt hA hat1 hC1 s1 s2 hjj
            have hg : decide ((0 : Int) ≤ (j : Int)) = true := by simp
            cases pq
            all_goals
              go_wp2_with fail
              go_quiet (fail)
              go_wp2_with fail
              go_loopw [9, 10] (fun s9 s10 wq => ∃ k : Nat, k ≤ t.wants.length ∧ s10 = .int .i64 k ∧ s9 = .bool (asNode t r || (t.wants.take k).any (fun v => v.task == r.c && v.node == r.m)) ∧ BlockIs wq w.heap.size 39 #[.int .i64 t.now, .int .i64 t.span, .int .i64 t.kind, .int .i64 t.limit, .int .i64 t.next, .int .i64 t.lease.c, .int .i64 t.lease.m, .int .i64 t.lease.p, .slice A0 t.epochs.length c0, .slice A1 t.pools.length c1, .slice A2 t.clu.tasks.length c2, .slice (some ⟨b1, off1, none⟩) t.clu.nodes.length c3, .slice A4 t.clu.binds.length c4, .slice A5 t.wants.length c5, .slice A6 t.ends.length c6, .int .i64 t.seen, .slice (some ⟨b, off, none⟩) t.insts.length c7, .slice A8 t.msgs.length c8] ∧ BlockIs wq wr.heap.size 114 #[.int .i64 r.c, .int .i64 r.m, .int .i64 r.p] ∧ Below w.heap.size w wq) (fun _ s10 _ => (t.wants.length - RowKit.intOf s10).toNat)
              case atStart => exact ⟨0, by omega, rfl, by rw [HAN.out]; simp, HB3.out, HI3.out, (by repeat' (first | exact Below.refl _ _ | refine Below.alloc ?_ ?_ _ | refine Below.setCell ?_ ?_ _ | refine Below.drew ?_ | refine below_drewN ?_ _ | (apply below_step; assumption) | (simp; done) | (simp; omega) | omega))⟩
              case round =>
                clear hD3 HB3 HI3 hzr y0 y1
                obtain ⟨k, hk, rfl, rfl, hblk, hib, hB⟩ := hrel
                have HBK := Lib.hid hblk
                have HIB := Lib.hid hib
                have hzr := hB.size
                have x13 := hblk.cell 13
                have y0 := hib.cell 0
                have y1 := hib.cell 1
                simp at x13 y0 y1
                clear hblk hib
                by_cases hkt : k < t.wants.length
                · skip
                  obtain ⟨A, c, e0, hA⟩ := (HW.out.wa).form
                  obtain ⟨b2, off2, rfl, hbw2, hat2⟩ := hA (by omega)
                  simp only [Value.slice.injEq] at e0
                  obtain ⟨rfl, -, rfl⟩ := e0
                  obtain ⟨v, hv⟩ : ∃ v, t.wants[k]? = some v := ⟨_, List.getElem?_eq_getElem hkt⟩
                  obtain ⟨cs, hR, hC⟩ := (hat2.below WantR.kept hB hbw2) k v hv
                  obtain rfl := hR
                  obtain ⟨z0, z1⟩ := want_cells hC
                  have hki : (k : Int) < (t.wants.length : Int) := by omega
                  have hk0 : (0 : Int) ≤ (k : Int) := by omega
                  have HTS := Lib.hid (any_take_step (p := fun v => v.task == r.c && v.node == r.m) hv)
                  have heq1 := eq_want v ⟨r.c, r.m⟩
                  simp only at heq1
                  have hgd := guard_want
                  generalize hkn : (asNode t r || (t.wants.take k).any (fun v => v.task == r.c && v.node == r.m)) = kn at *
                  have HKN := Lib.hid hkn
                  generalize hvq : (v.task == r.c && v.node == r.m) = vq at *
                  clear hat2 hv hA hC hkn hvq
                  cases kn <;> cases vq
                  all_goals
                    go_wp2_with fail
                    go_quiet (fail)
                    go_wp2_with fail
                    go_roundw
                    case rel => exact ⟨k + 1, by omega, by go_num, by rw [HTS.out, ← Bool.or_assoc, HKN.out]; simp, HBK.out, HIB.out, (by repeat' (first | exact Below.refl _ _ | refine Below.alloc ?_ ?_ _ | refine Below.setCell ?_ ?_ _ | refine Below.drew ?_ | refine below_drewN ?_ _ | (apply below_step; assumption) | (simp; done) | (simp; omega) | omega))⟩
                    case measure => simp [RowKit.intOf]; omega
                · obtain rfl : k = t.wants.length := by omega
                  have HTK := Lib.hid (show t.wants.take t.wants.length = t.wants from List.take_length)
                  generalize hkn : (asNode t r || (t.wants.take t.wants.length).any (fun v => v.task == r.c && v.node == r.m)) = kn at *
                  have HLK := Lib.hid (HMD.out kn (by first | rfl | trivial) (by rw [← hkn, HTK.out]))
                  clear hkn hkt
                  cases kn
                  · go_wp2_with fail
                    go_ret
                    exact ⟨by rw [HE.out, HPL.out, HST.out, HLK.out]; simp, hB⟩
                  · go_wp2_with fail
                    go_roundw
                    case rel => exact ⟨i + 1, by omega, by go_num, by rw [HST.out, HLK.out]; rfl, HBK.out, hB⟩
                    case measure => simp [RowKit.intOf]; omega
        · obtain rfl : i = t.insts.length := by omega
          have HIL := Lib.hid (hall.trans (by rw [List.drop_length, List.any_nil]))
          clear hall
          go_wp2_with fail
          go_ret
          exact ⟨by rw [HE.out, HPL.out, HIL.out]; simp, hB⟩
end Go.Proofs.YtcegofdmdemcbaaGreatDoor

namespace Go.Proofs.YtcegofdmdemcbaaGreatDoor
open Go.RowKit

theorem leaked_eq (t : WV) (i : RV) (b1 b2 b3 : Bool) (h1 : (i.p == 1) = b1) (h2 : asNode t i = b2) (h3 : t.wants.any (fun v => i.c == v.task && i.m == v.node) = b3) : leaked t i = (b1 && !b2 && !b3) := by
  subst h1 h2 h3
  unfold leaked
  congr 3
  funext v
  simp only [asWant]
  rw [Bool.eq_iff_iff]; simp; constructor <;> rintro ⟨a, b⟩ <;> exact ⟨a.symm, b.symm⟩
set_option maxHeartbeats 3200000 in
theorem isLeaked_any (t : WV) (s : WS) (i : RV) (w : World) (hw : WldR w t s) :
    Calls Tryz.prog 86 #[.agg #[.int .i64 t.now, .int .i64 t.span, .int .i64 t.kind, .int .i64 t.limit, .int .i64 t.next, .int .i64 t.lease.c, .int .i64 t.lease.m, .int .i64 t.lease.p, s.ep, s.po, s.ta, s.no, s.bi, s.wa, s.en, .int .i64 t.seen, s.ins, s.ms], .agg #[.int .i64 i.c, .int .i64 i.m, .int .i64 i.p]] w fun e w' => e = .returned (.bool (leaked t i)) ∧ Below w.heap.size w w' := by
  obtain ⟨A0, A1, A2, A3, A4, A5, A6, A7, A8, c0, c1, c2, c3, c4, c5, c6, c7, c8, rfl⟩ := hw.form
  have HW := Lib.hid hw
  have hf := fun w1 h1 => findNode_any t.clu _ _ _ i.c w w1 h1 hw.clu
  have hcw := fun v w hv => containsWant_any ⟨i.c, i.m⟩ v t.wants w hv hw.small.2.2.1
  have hE := leaked_eq t i
  generalize leaked t i = ans at *
  generalize e1 : (i.p == 1) = b1 at *
  generalize e2 : asNode t i = b2 at *
  unfold asNode at e2
  simp only at hcw
  generalize e3 : t.wants.any (fun v => i.c == v.task && i.m == v.node) = b3 at *
  have HE := Lib.hid (hE _ _ _ rfl rfl rfl)
  generalize fstBy NV.id t.clu.nodes i.c = o at hf e2
  have HF := Lib.hid hf
  have HCW := Lib.hid hcw
  have H2 := Lib.hid e2
  clear hf hcw hE e2 e3 hw
  go_enter Tryz.func86, Tryz.ntmps86
  go_wp2_with fail
  have hX : Below w.heap.size w ((w.alloc (.cells #[.int .i64 t.now, .int .i64 t.span, .int .i64 t.kind, .int .i64 t.limit, .int .i64 t.next, .int .i64 t.lease.c, .int .i64 t.lease.m, .int .i64 t.lease.p, .slice A0 t.epochs.length c0, .slice A1 t.pools.length c1, .slice A2 t.clu.tasks.length c2, .slice A3 t.clu.nodes.length c3, .slice A4 t.clu.binds.length c4, .slice A5 t.wants.length c5, .slice A6 t.ends.length c6, .int .i64 t.seen, .slice A7 t.insts.length c7, .slice A8 t.msgs.length c8] 39)).alloc (.cells #[.int .i64 i.c, .int .i64 i.m, .int .i64 i.p] 114)) := (by repeat' (first | exact Below.refl _ _ | refine Below.alloc ?_ ?_ _ | refine Below.setCell ?_ ?_ _ | refine Below.drew ?_ | (apply below_step; assumption) | (simp; done) | (simp; omega) | omega))
  have HB0 := Lib.hid (BlockIs.alloc (BlockIs.new w 39 #[.int .i64 t.now, .int .i64 t.span, .int .i64 t.kind, .int .i64 t.limit, .int .i64 t.next, .int .i64 t.lease.c, .int .i64 t.lease.m, .int .i64 t.lease.p, .slice A0 t.epochs.length c0, .slice A1 t.pools.length c1, .slice A2 t.clu.tasks.length c2, .slice A3 t.clu.nodes.length c3, .slice A4 t.clu.binds.length c4, .slice A5 t.wants.length c5, .slice A6 t.ends.length c6, .int .i64 t.seen, .slice A7 t.insts.length c7, .slice A8 t.msgs.length c8]) (.cells #[.int .i64 i.c, .int .i64 i.m, .int .i64 i.p] 114))
  have HB1 := Lib.hid (BlockIs.new' (w := w.alloc (.cells #[.int .i64 t.now, .int .i64 t.span, .int .i64 t.kind, .int .i64 t.limit, .int .i64 t.next, .int .i64 t.lease.c, .int .i64 t.lease.m, .int .i64 t.lease.p, .slice A0 t.epochs.length c0, .slice A1 t.pools.length c1, .slice A2 t.clu.tasks.length c2, .slice A3 t.clu.nodes.length c3, .slice A4 t.clu.binds.length c4, .slice A5 t.wants.length c5, .slice A6 t.ends.length c6, .int .i64 t.seen, .slice A7 t.insts.length c7, .slice A8 t.msgs.length c8] 39)) (g := w.heap.size + 1) (t := 114) (cs := #[.int .i64 i.c, .int .i64 i.m, .int .i64 i.p]) (by simp))
  refine (HF.out _ hX).mono ?_
  rintro e w1 ⟨cs, rfl, hR, hb1⟩
  have hC1 := below_of hX hb1
  have B0 := HB0.out.below hb1 HB0.out.lt
  have B1 := HB1.out.below hb1 HB1.out.lt
  have x13 := B0.cell 13
  have y0 := B1.cell 0
  have y1 := B1.cell 1
  have y2 := B1.cell 2
  simp at x13 y0 y1 y2
  have hz1 := hC1.size
  have hl0 := B0.lt
  have hl1 := B1.lt
  clear B0 B1 hb1 HB0 HB1
  cases o with
  | none =>
    have hn : b2 = false := H2.out.symm
    subst hn
    simp only [Option.getD_none, Option.isSome_none] at hR ⊢
    obtain ⟨u1, u2, rfl, s1, s2, _, _⟩ := hR
    obtain ⟨E1, d1, rfl, _⟩ := s1.form
    obtain ⟨E2, d2, rfl, _⟩ := s2.form
    clear s1 s2
    have HX1 := Lib.hid (show Below w.heap.size w (w1.alloc (.cells #[.int .i64 NV.zero.id, .int .i64 NV.zero.pool, .int .i64 NV.zero.cap.c, .int .i64 NV.zero.cap.m, .int .i64 NV.zero.cap.p, .slice E1 NV.zero.labs.length d1, .slice E2 NV.zero.taints.length d2, .bool NV.zero.cordon] 78)) from (by repeat' (first | exact Below.refl _ _ | refine Below.alloc ?_ ?_ _ | refine Below.setCell ?_ ?_ _ | refine Below.drew ?_ | (apply below_step; assumption) | (simp; done) | (simp; omega) | omega)))
    cases b1
    · go_wp2_with fail
      go_ret
      exact ⟨by rw [HE.out]; simp, HX1.out⟩
    go_wp2_with fail
    refine (HCW.out _ _ (HW.out.below HX1.out).wa).mono ?_
    rintro e w2 ⟨rfl, hb2⟩
    go_wp2_with fail
    go_ret
    exact ⟨by rw [HE.out]; simp, below_of HX1.out hb2⟩
  | some n =>
    have hn : (n.pool == i.m) = b2 := H2.out
    simp only [Option.getD_some, Option.isSome_some] at hR ⊢
    obtain ⟨u1, u2, rfl, s1, s2, _, _⟩ := hR
    obtain ⟨E1, d1, rfl, _⟩ := s1.form
    obtain ⟨E2, d2, rfl, _⟩ := s2.form
    clear s1 s2
    have HX1 := Lib.hid (show Below w.heap.size w (w1.alloc (.cells #[.int .i64 n.id, .int .i64 n.pool, .int .i64 n.cap.c, .int .i64 n.cap.m, .int .i64 n.cap.p, .slice E1 n.labs.length d1, .slice E2 n.taints.length d2, .bool n.cordon] 78)) from (by repeat' (first | exact Below.refl _ _ | refine Below.alloc ?_ ?_ _ | refine Below.setCell ?_ ?_ _ | refine Below.drew ?_ | (apply below_step; assumption) | (simp; done) | (simp; omega) | omega)))
    cases b1
    · go_wp2_with fail
      go_ret
      exact ⟨by rw [HE.out]; simp, HX1.out⟩
    cases b2
    rotate_left
    · go_wp2_with fail
      go_ret
      exact ⟨by rw [HE.out]; simp, HX1.out⟩
    go_wp2_with fail
    refine (HCW.out _ _ (HW.out.below HX1.out).wa).mono ?_
    rintro e w2 ⟨rfl, hb2⟩
    go_wp2_with fail
    go_ret
    exact ⟨by rw [HE.out]; simp, below_of HX1.out hb2⟩
set_option maxHeartbeats 3200000 in
theorem safe1_any (t : WV) (s : WS) (p : PV) (v1 v2 : Value) (B : Nat) (w : World) (hB : BlockIs w B 39 #[.int .i64 t.now, .int .i64 t.span, .int .i64 t.kind, .int .i64 t.limit, .int .i64 t.next, .int .i64 t.lease.c, .int .i64 t.lease.m, .int .i64 t.lease.p, s.ep, s.po, s.ta, s.no, s.bi, s.wa, s.en, .int .i64 t.seen, s.ins, s.ms]) (hw : WldR w t s) (h1 : LabSl w v1 p.shape.labs) (h2 : IntSl w v2 p.shape.taints) :
    Calls Tryz.prog 82 #[.agg #[.int .i64 p.id, .int .i64 p.min, .int .i64 p.max, .int .i64 p.prio, .int .i64 p.shape.id, .int .i64 p.shape.pool, .int .i64 p.shape.cap.c, .int .i64 p.shape.cap.m, .int .i64 p.shape.cap.p, v1, v2, .bool p.shape.cordon], .pointer (some ⟨B, 0, none⟩)] w fun e w' => e = .returned (.bool (tooLarge t p)) ∧ Below w.heap.size w w' := by
  obtain ⟨A0, A1, A2, A3, A4, A5, A6, A7, A8, c0, c1, c2, c3, c4, c5, c6, c7, c8, rfl⟩ := hw.form
  obtain ⟨E1, d1, rfl, _⟩ := h1.form
  obtain ⟨E2, d2, rfl, _⟩ := h2.form
  have HW := Lib.hid hw
  have H1 := Lib.hid h1
  have H2 := Lib.hid h2
  have HT := Lib.hid (fun s v1 v2 w hw h1 h2 => isTooLarge_any t s p v1 v2 w hw h1 h2)
  generalize tooLarge t p = ans at *
  have hX : Below w.heap.size w (w.alloc (.cells #[.int .i64 p.id, .int .i64 p.min, .int .i64 p.max, .int .i64 p.prio, .int .i64 p.shape.id, .int .i64 p.shape.pool, .int .i64 p.shape.cap.c, .int .i64 p.shape.cap.m, .int .i64 p.shape.cap.p, .slice E1 p.shape.labs.length d1, .slice E2 p.shape.taints.length d2, .bool p.shape.cordon] 80)) := (by repeat' (first | exact Below.refl _ _ | refine Below.alloc ?_ ?_ _ | refine Below.setCell ?_ ?_ _ | refine Below.drew ?_ | (apply below_step; assumption) | (simp; done) | (simp; omega) | omega))
  have HB := Lib.hid (hB.below hX hB.lt)
  clear hw h1 h2 hB
  go_enter Tryz.func82, Tryz.ntmps82
  go_wp2_with (refine wpList_load_row rfl 39 _ rfl _ rfl 39 _ (0, 0) _ HB.out Tryz.underlying39 rfl (by kernel_rfl) ?_)
  refine (HT.out _ _ _ _ (HW.out.below hX) (H1.out.below hX) (H2.out.below hX)).mono ?_
  rintro e w1 ⟨rfl, hb1⟩
  go_wp2_with fail
  go_ret
  exact ⟨rfl, below_of hX hb1⟩
set_option maxHeartbeats 3200000 in
theorem safe2_any (t : WV) (s : WS) (i : RV) (B : Nat) (w : World) (hB : BlockIs w B 39 #[.int .i64 t.now, .int .i64 t.span, .int .i64 t.kind, .int .i64 t.limit, .int .i64 t.next, .int .i64 t.lease.c, .int .i64 t.lease.m, .int .i64 t.lease.p, s.ep, s.po, s.ta, s.no, s.bi, s.wa, s.en, .int .i64 t.seen, s.ins, s.ms]) (hw : WldR w t s) :
    Calls Tryz.prog 85 #[.agg #[.int .i64 i.c, .int .i64 i.m, .int .i64 i.p], .pointer (some ⟨B, 0, none⟩)] w fun e w' => e = .returned (.bool (leaked t i)) ∧ Below w.heap.size w w' := by
  obtain ⟨A0, A1, A2, A3, A4, A5, A6, A7, A8, c0, c1, c2, c3, c4, c5, c6, c7, c8, rfl⟩ := hw.form
  have HW := Lib.hid hw
  have HT := Lib.hid (fun s w hw => isLeaked_any t s i w hw)
  generalize leaked t i = ans at *
  have hX : Below w.heap.size w (w.alloc (.cells #[.int .i64 i.c, .int .i64 i.m, .int .i64 i.p] 114)) := (by repeat' (first | exact Below.refl _ _ | refine Below.alloc ?_ ?_ _ | refine Below.setCell ?_ ?_ _ | refine Below.drew ?_ | (apply below_step; assumption) | (simp; done) | (simp; omega) | omega))
  have HB := Lib.hid (hB.below hX hB.lt)
  clear hw hB
  go_enter Tryz.func85, Tryz.ntmps85
  go_wp2_with (refine wpList_load_row rfl 39 _ rfl _ rfl 39 _ (0, 0) _ HB.out Tryz.underlying39 rfl (by kernel_rfl) ?_)
  refine (HT.out _ _ (HW.out.below hX)).mono ?_
  rintro e w1 ⟨rfl, hb1⟩
  go_wp2_with fail
  go_ret
  exact ⟨rfl, below_of hX hb1⟩
set_option maxHeartbeats 3200000 in
theorem indexS1_any (t : WV) (s : WS) (B : Nat) (w : World) (hB : BlockIs w B 39 #[.int .i64 t.now, .int .i64 t.span, .int .i64 t.kind, .int .i64 t.limit, .int .i64 t.next, .int .i64 t.lease.c, .int .i64 t.lease.m, .int .i64 t.lease.p, s.ep, s.po, s.ta, s.no, s.bi, s.wa, s.en, .int .i64 t.seen, s.ins, s.ms]) (hw : WldR w t s) :
    Calls Tryz.prog 150 #[s.po, .func (.func 82) #[] #[.pointer (some ⟨B, 0, none⟩)]] w (RetIdx (t.pools.any (tooLarge t)) w) := by
  have hlen := hw.small.2.1
  have HS := Lib.hid (show ∀ wr, Below w.heap.size w wr → BlockIs wr B 39 #[.int .i64 t.now, .int .i64 t.span, .int .i64 t.kind, .int .i64 t.limit, .int .i64 t.next, .int .i64 t.lease.c, .int .i64 t.lease.m, .int .i64 t.lease.p, s.ep, s.po, s.ta, s.no, s.bi, s.wa, s.en, .int .i64 t.seen, s.ins, s.ms] ∧ WldR wr t s from fun wr hb => ⟨hB.below hb hB.lt, hw.below hb⟩)
  have hsl := hw.po
  obtain ⟨A, c, e0, hA⟩ := hsl.form
  rw [e0]
  have HA := Lib.hid hA
  have hgl : t.pools.any (tooLarge t) = (t.pools.drop 0).any (tooLarge t) := by rw [List.drop_zero]
  have hcl := fun r => fun v1 v2 w hB hw h1 h2 => safe1_any t s r v1 v2 B w hB hw h1 h2
  generalize hans : t.pools.any (tooLarge t) = ans at hgl ⊢
  have HG := Lib.hid hgl
  have HN := Lib.hid hans
  have HCL := Lib.hid hcl
  clear hA hsl e0 hB hw hgl hans hcl
  go_enter Tryz.func150, Tryz.ntmps150
  go_wp2_with fail
  go_loopw [8] (fun s8 wr => ∃ k : Nat, k ≤ t.pools.length ∧ s8 = .int .i64 k ∧ ans = (t.pools.drop k).any (tooLarge t) ∧ Below w.heap.size w wr) (fun s8 _ => (t.pools.length - intOf s8).toNat)
  case atStart => exact ⟨0, by omega, rfl, HG.out, Below.refl _ _⟩
  case round =>
    obtain ⟨k, hk, rfl, hall, hB⟩ := hrel
    have hzr := hB.size
    by_cases hlt : k < t.pools.length
    · obtain ⟨b, off, rfl, hbw, hat⟩ := HA.out (by omega)
      obtain ⟨r, hr⟩ : ∃ r, t.pools[k]? = some r := ⟨_, List.getElem?_eq_getElem hlt⟩
      obtain ⟨cs, hR, hC⟩ := (hat.below PoolR.kept hB hbw) k r hr
      obtain ⟨u1, u2, rfl, s1, s2, _, _⟩ := hR
      obtain ⟨E1, d1, rfl, _⟩ := s1.form
      obtain ⟨E2, d2, rfl, _⟩ := s2.form
      have S1 := Lib.hid s1
      have S2 := Lib.hid s2
      obtain ⟨q0, q1, q2, q3, q4, q5, q6, q7, q8, q9, q10, q11⟩ := pool_cells hC
      clear s1 s2 hC
      have hki : (k : Int) < (t.pools.length : Int) := by omega
      have hk0 : (0 : Int) ≤ (k : Int) := by omega
      have HST := Lib.hid ((HN.out ▸ any_step (HN.out.trans hall) hr : ans = _))
      have hc := HCL.out r
      generalize tooLarge t r = q at *
      have HC := Lib.hid hc
      clear hat hr hall hc
      go_wp2_with fail
      refine (HC.out _ _ _ (HS.out _ hB).1 (HS.out _ hB).2 S1.out S2.out).mono ?_
      rintro e w3 ⟨rfl, hb3⟩
      have hD3 := hB.trans (hb3.mono hzr)
      clear hb3
      cases q
      · go_wp2_with fail
        go_roundw
        case rel => exact ⟨k + 1, by omega, by go_num, by rw [HST.out]; rfl, hD3⟩
        case measure => simp [intOf]; omega
      · go_wp2_with fail
        go_ret
        exact ⟨k, rfl, by rw [HST.out]; simp, hD3⟩
    · obtain rfl : k = t.pools.length := by omega
      have HF := Lib.hid (show ans = false by rw [hall, List.drop_length]; rfl)
      clear hall
      go_wp2_with fail
      go_ret
      exact ⟨-1, rfl, by rw [HF.out]; rfl, hB⟩
theorem containsS1_any (t : WV) (s : WS) (B : Nat) (w : World) (hB : BlockIs w B 39 #[.int .i64 t.now, .int .i64 t.span, .int .i64 t.kind, .int .i64 t.limit, .int .i64 t.next, .int .i64 t.lease.c, .int .i64 t.lease.m, .int .i64 t.lease.p, s.ep, s.po, s.ta, s.no, s.bi, s.wa, s.en, .int .i64 t.seen, s.ins, s.ms]) (hw : WldR w t s) :
    Calls Tryz.prog 81 #[s.po, .func (.func 82) #[] #[.pointer (some ⟨B, 0, none⟩)]] w fun e w' => e = .returned (.bool (t.pools.any (tooLarge t))) ∧ Below w.heap.size w w' := by
  have HI := Lib.hid (indexS1_any t s B w hB hw)
  generalize t.pools.any (tooLarge t) = q at *
  obtain ⟨A, c, e0, _⟩ := hw.po.form
  rw [e0] at HI ⊢
  clear hw hB e0
  go_enter Tryz.func81, Tryz.ntmps81
  go_wp2_with fail
  refine HI.out.mono ?_
  rintro e w1 ⟨z, rfl, hz, hb1⟩
  have HZ := Lib.hid hz
  clear hz
  go_wp2_with fail
  go_ret
  exact ⟨by rw [← HZ.out]; simp, hb1⟩
set_option maxHeartbeats 3200000 in
theorem indexS2_any (t : WV) (s : WS) (B : Nat) (w : World) (hB : BlockIs w B 39 #[.int .i64 t.now, .int .i64 t.span, .int .i64 t.kind, .int .i64 t.limit, .int .i64 t.next, .int .i64 t.lease.c, .int .i64 t.lease.m, .int .i64 t.lease.p, s.ep, s.po, s.ta, s.no, s.bi, s.wa, s.en, .int .i64 t.seen, s.ins, s.ms]) (hw : WldR w t s) :
    Calls Tryz.prog 152 #[s.ins, .func (.func 85) #[] #[.pointer (some ⟨B, 0, none⟩)]] w (RetIdx (t.insts.any (leaked t)) w) := by
  have hlen := hw.small.2.2.2.2.1
  have HS := Lib.hid (show ∀ wr, Below w.heap.size w wr → BlockIs wr B 39 #[.int .i64 t.now, .int .i64 t.span, .int .i64 t.kind, .int .i64 t.limit, .int .i64 t.next, .int .i64 t.lease.c, .int .i64 t.lease.m, .int .i64 t.lease.p, s.ep, s.po, s.ta, s.no, s.bi, s.wa, s.en, .int .i64 t.seen, s.ins, s.ms] ∧ WldR wr t s from fun wr hb => ⟨hB.below hb hB.lt, hw.below hb⟩)
  have hsl := hw.ins
  obtain ⟨A, c, e0, hA⟩ := hsl.form
  rw [e0]
  have HA := Lib.hid hA
  have hgl : t.insts.any (leaked t) = (t.insts.drop 0).any (leaked t) := by rw [List.drop_zero]
  have hcl := fun r => fun w hB hw => safe2_any t s r B w hB hw
  generalize hans : t.insts.any (leaked t) = ans at hgl ⊢
  have HG := Lib.hid hgl
  have HN := Lib.hid hans
  have HCL := Lib.hid hcl
  clear hA hsl e0 hB hw hgl hans hcl
  go_enter Tryz.func152, Tryz.ntmps152
  go_wp2_with fail
  go_loopw [8] (fun s8 wr => ∃ k : Nat, k ≤ t.insts.length ∧ s8 = .int .i64 k ∧ ans = (t.insts.drop k).any (leaked t) ∧ Below w.heap.size w wr) (fun s8 _ => (t.insts.length - intOf s8).toNat)
  case atStart => exact ⟨0, by omega, rfl, HG.out, Below.refl _ _⟩
  case round =>
    obtain ⟨k, hk, rfl, hall, hB⟩ := hrel
    have hzr := hB.size
    by_cases hlt : k < t.insts.length
    · obtain ⟨b, off, rfl, hbw, hat⟩ := HA.out (by omega)
      obtain ⟨r, hr⟩ : ∃ r, t.insts[k]? = some r := ⟨_, List.getElem?_eq_getElem hlt⟩
      obtain ⟨q0, q1, q2⟩ := (hat.below hB hbw) k r hr
      have hki : (k : Int) < (t.insts.length : Int) := by omega
      have hk0 : (0 : Int) ≤ (k : Int) := by omega
      have HST := Lib.hid ((HN.out ▸ any_step (HN.out.trans hall) hr : ans = _))
      have hc := HCL.out r
      generalize leaked t r = q at *
      have HC := Lib.hid hc
      clear hat hr hall hc
      go_wp2_with fail
      refine (HC.out _ (HS.out _ hB).1 (HS.out _ hB).2).mono ?_
      rintro e w3 ⟨rfl, hb3⟩
      have hD3 := hB.trans (hb3.mono hzr)
      clear hb3
      cases q
      · go_wp2_with fail
        go_roundw
        case rel => exact ⟨k + 1, by omega, by go_num, by rw [HST.out]; rfl, hD3⟩
        case measure => simp [intOf]; omega
      · go_wp2_with fail
        go_ret
        exact ⟨k, rfl, by rw [HST.out]; simp, hD3⟩
    · obtain rfl : k = t.insts.length := by omega
      have HF := Lib.hid (show ans = false by rw [hall, List.drop_length]; rfl)
      clear hall
      go_wp2_with fail
      go_ret
      exact ⟨-1, rfl, by rw [HF.out]; rfl, hB⟩
theorem containsS2_any (t : WV) (s : WS) (B : Nat) (w : World) (hB : BlockIs w B 39 #[.int .i64 t.now, .int .i64 t.span, .int .i64 t.kind, .int .i64 t.limit, .int .i64 t.next, .int .i64 t.lease.c, .int .i64 t.lease.m, .int .i64 t.lease.p, s.ep, s.po, s.ta, s.no, s.bi, s.wa, s.en, .int .i64 t.seen, s.ins, s.ms]) (hw : WldR w t s) :
    Calls Tryz.prog 84 #[s.ins, .func (.func 85) #[] #[.pointer (some ⟨B, 0, none⟩)]] w fun e w' => e = .returned (.bool (t.insts.any (leaked t))) ∧ Below w.heap.size w w' := by
  have HI := Lib.hid (indexS2_any t s B w hB hw)
  generalize t.insts.any (leaked t) = q at *
  obtain ⟨A, c, e0, _⟩ := hw.ins.form
  rw [e0] at HI ⊢
  clear hw hB e0
  go_enter Tryz.func84, Tryz.ntmps84
  go_wp2_with fail
  refine HI.out.mono ?_
  rintro e w1 ⟨z, rfl, hz, hb1⟩
  have HZ := Lib.hid hz
  clear hz
  go_wp2_with fail
  go_ret
  exact ⟨by rw [← HZ.out]; simp, hb1⟩
set_option maxHeartbeats 3200000 in
theorem WorldSafe_any (t : WV) (s : WS) (w : World) (x : Addr) (hg : ErrAt x w) (hw : WldR w t s) : Calls Tryz.prog 23 #[.agg #[.int .i64 t.now, .int .i64 t.span, .int .i64 t.kind, .int .i64 t.limit, .int .i64 t.next, .int .i64 t.lease.c, .int .i64 t.lease.m, .int .i64 t.lease.p, s.ep, s.po, s.ta, s.no, s.bi, s.wa, s.en, .int .i64 t.seen, s.ins, s.ms]] w fun e w' => e = .returned (.bool (worldSafe t)) ∧ Below w.heap.size w w' := by
  obtain ⟨A0, A1, A2, A3, A4, A5, A6, A7, A8, c0, c1, c2, c3, c4, c5, c6, c7, c8, rfl⟩ := hw.form
  have HW := Lib.hid hw
  have HG := Lib.hid hg
  have h1 := fun s w hg hw => WorldOk_any t s w x hg hw
  have h2 := fun s B w hB hw => containsS1_any t s B w hB hw
  have h3 := fun s B w hB hw => containsS2_any t s B w hB hw
  have hE : worldSafe t = (worldOk t && !(t.pools.any (tooLarge t)) && !(t.insts.any (leaked t))) := rfl
  have hmf : ∀ (fn : Fn) (first cap : Array Value) (w : World), (Instr.makeFunc fn first cap).run Tryz.prog w = .ok (.func fn first cap) w := fun _ _ _ _ => rfl
  generalize worldSafe t = ans at *
  generalize worldOk t = b1 at *
  generalize t.pools.any (tooLarge t) = b2 at *
  generalize t.insts.any (leaked t) = b3 at *
  have HE := Lib.hid hE
  have H1 := Lib.hid h1
  have H2 := Lib.hid h2
  have H3 := Lib.hid h3
  clear h1 h2 h3 hE hw hg
  go_enter Tryz.func23, Tryz.ntmps23
  have HB := Lib.hid (BlockIs.new w 39 #[.int .i64 t.now, .int .i64 t.span, .int .i64 t.kind, .int .i64 t.limit, .int .i64 t.next, .int .i64 t.lease.c, .int .i64 t.lease.m, .int .i64 t.lease.p, .slice A0 t.epochs.length c0, .slice A1 t.pools.length c1, .slice A2 t.clu.tasks.length c2, .slice A3 t.clu.nodes.length c3, .slice A4 t.clu.binds.length c4, .slice A5 t.wants.length c5, .slice A6 t.ends.length c6, .int .i64 t.seen, .slice A7 t.insts.length c7, .slice A8 t.msgs.length c8])
  have hX : Below w.heap.size w (w.alloc (.cells #[.int .i64 t.now, .int .i64 t.span, .int .i64 t.kind, .int .i64 t.limit, .int .i64 t.next, .int .i64 t.lease.c, .int .i64 t.lease.m, .int .i64 t.lease.p, .slice A0 t.epochs.length c0, .slice A1 t.pools.length c1, .slice A2 t.clu.tasks.length c2, .slice A3 t.clu.nodes.length c3, .slice A4 t.clu.binds.length c4, .slice A5 t.wants.length c5, .slice A6 t.ends.length c6, .int .i64 t.seen, .slice A7 t.insts.length c7, .slice A8 t.msgs.length c8] 39)) := (by repeat' (first | exact Below.refl _ _ | refine Below.alloc ?_ ?_ _ | refine Below.setCell ?_ ?_ _ | refine Below.drew ?_ | (apply below_step; assumption) | (simp; done) | (simp; omega) | omega))
  go_wp2_with (refine wpList_load_row rfl 39 _ rfl _ rfl 39 _ (0, 0) _ HB.out Tryz.underlying39 rfl (by kernel_rfl) ?_)
  refine (H1.out _ _ (HG.out.below hX (Nat.le_refl _)) (HW.out.below hX)).mono ?_
  rintro e w1 ⟨rfl, hb1⟩
  have hC1 := below_of hX hb1
  have B1 := HB.out.below hb1 HB.out.lt
  have x9 := B1.cell 9
  simp at x9
  have HB1 := Lib.hid B1
  clear B1 hb1 HB hX
  cases b1
  · go_wp2_with fail
    go_ret
    exact ⟨by rw [HE.out]; simp, hC1⟩
  go_wp2_with fail
  refine (H2.out _ _ _ HB1.out (HW.out.below hC1)).mono ?_
  rintro e w2 ⟨rfl, hb2⟩
  have hC2 := below_of hC1 hb2
  have B2 := HB1.out.below hb2 HB1.out.lt
  have x16 := B2.cell 16
  simp at x16
  have HB2 := Lib.hid B2
  clear B2 hb2 HB1
  cases b2
  rotate_left
  · go_wp2_with fail
    go_ret
    exact ⟨by rw [HE.out]; simp, hC2⟩
  go_wp2_with fail
  refine (H3.out _ _ _ HB2.out (HW.out.below hC2)).mono ?_
  rintro e w3 ⟨rfl, hb3⟩
  go_wp2_with fail
  go_ret
  exact ⟨by rw [HE.out]; simp, below_of hC2 hb3⟩
end Go.Proofs.YtcegofdmdemcbaaGreatDoor
