/- The laws' helpers toIntS, toTask, toNode, toTaskS, toNodeS, toBindS: their results own their memory, block by block. The frame of every law: a call that answers true and has turned nothing that was there leaves what its row asks. The closed facts that every row asks of the program. What this seat's rows share: the closed facts; a slice of labels, a slice of integers, a label, opened. A slice of integers, opened. Tasks and nodes as arguments, opened. A cluster as an argument, opened. The laws' helpers over a pool: szPool, toPool, eqPool; a pool as an argument, opened. Slices of pools: the laws' helpers szPoolS, toPoolS, eqPoolS; PoolsOk and its model. Leases in plain Lean: what chapter 6's lease functions compute (Who, Epoch, Till are c, m, p of a triple). Stores in plain Lean: what chapter 6's store functions compute (Key, Val, Ver are c, m, p of a triple). Providers in plain Lean: what chapter 7's functions compute (Id, Pool, State are c, m, p of a triple). The contracts of tasksOk and nodesOk. Words for memory: a block that is known whole; a slice of amounts. The contract of ResSum. append of an amount to a slice of the call's own. The tasks on a node: tasksOn, which is ranged over, and usedOn. -/
import Derived.Test.YtcegofdmdemcbaaGreatDoorMg01
import Derived.Carry
import Derived.WalkSmall
import Derived.OpenShut
import Derived.ProofKit
import Derived.Stop.LaidErr
import Derived.Test.YtcegofdmdemcbaaGreatDoorRows
import Derived.Test.YtcegofdmdemcbaaGreatDoorChecked
import Derived.Deep.DeepHandedRow
import Derived.Deep.DeepWitnessRowRef
import Derived.Lib.SmallJoins
import Derived.LaidMore
import Derived.Test.YtcegofdmdemcbaaGreatDoorMg00
import Derived.Deep.Slices
import Derived.Deep.Fields
import Derived.ChangeSame
import Derived.Deep.Strs
import Derived.Deep.AppendLies
import Derived.OwnWalk
import Derived.Laws.OwnMore
import Derived.Deep.RegionHeld3
import Derived.Deep.RegionLaw
import Derived.Deep.DrawnRows
import Derived.RangeFuncNested
import Derived.RangeFuncBound
import Derived.RangeFuncCalls
import Derived.RangeFuncLeaves
import Derived.Shelf.Abstract
import Derived.Shelf.RegionOpen
import Derived.OwnWalkIn
import Derived.TacticsInMore
import Derived.LoopNIn
import Derived.LoopIn
namespace Go.Proofs.YtcegofdmdemcbaaGreatDoor
open Go.RowKit

theorem labO_of {w : World} {g : Nat} {l : List LV} (h : BlockIs w g 143 (labL l).toArray) (hl : l.length ≤ 1048576) : LabO w (.slice (some ⟨g, 0, none⟩) l.length l.length) l :=
  ⟨labL_len l, .inr ⟨g, l.length, _, rfl, Nat.zero_le _, h, Nat.le_refl _, by simp only [maxLen]; omega, by simp [labL_len], by rw [← labL_len]; simp⟩⟩
theorem intO_of {w : World} {g : Nat} {l : List Int} (h : BlockIs w g 3 (intL l).toArray) (hl : l.length ≤ 1048576) : IntO w (.slice (some ⟨g, 0, none⟩) l.length l.length) l :=
  ⟨by simp [intL], .inr ⟨g, l.length, _, rfl, Nat.zero_le _, h, Nat.le_refl _, by simp only [maxLen]; omega, by simp [intL], by rw [show l.length * 1 = (intL l).length by simp [intL]]; simp⟩⟩
def NewIntO (w : World) (l : List Int) (e : Ending) (w' : World) : Prop := ∃ g, e = .returned (.slice (some ⟨g, 0, none⟩) l.length l.length) ∧ w.heap.size ≤ g ∧ g < w'.heap.size ∧ BlockIs w' g 3 (intL l).toArray ∧ Below w.heap.size w w'
theorem CopyInt.doneO {w wr : World} {g : Nat} {l : List Int} (h : CopyInt w g l l.length wr) : BlockIs wr g 3 (intL l).toArray := by
  obtain ⟨cs, hb, hs, hc, _⟩ := h
  have : cs = (intL l).toArray := by
    apply Array.ext_getElem?
    intro i
    rcases Nat.lt_or_ge i l.length with hi | hi
    · rw [hc i _ hi (List.getElem?_eq_getElem hi)]; simp [intL, hi]
    · rw [Array.getElem?_eq_none (by omega)]; simp [intL, hi]
  rw [← this]; exact hb
set_option maxHeartbeats 1600000 in
theorem toIntS_o (v : Value) (l : List Int) (w : World) (hv : IntSl w v l) (hlen : l.length ≤ 1048576) :
    Calls Tryz.prog 63 #[v] w (NewIntO w l) := by
  obtain ⟨A, c, rfl, hA⟩ := hv.form
  have HA := Lib.hid hA
  clear hA hv
  have hmk := make_int l.length hlen
  go_enter Tryz.func63, Tryz.ntmps63
  go_wp2_with fail
  go_loopw [4] (fun s4 wr => ∃ k : Nat, k ≤ l.length ∧ s4 = .int .i64 k ∧ CopyInt w w.heap.size l k wr) (fun s4 _ => (l.length - intOf s4).toNat)
  case atStart =>
    exact ⟨0, by omega, rfl, _, BlockIs.new _ _ _, by simpa using size_madeCells _ _, fun i r hi => absurd hi (by omega), (by repeat' (first | exact Below.refl _ _ | refine Below.alloc ?_ ?_ _ | refine Below.setCell ?_ ?_ _ | refine Below.drew ?_ | (apply below_step; assumption) | (simp; done) | (simp; omega) | omega))⟩
  case round =>
    obtain ⟨k, hk, rfl, HC⟩ := hrel
    by_cases hlt : k < l.length
    · obtain ⟨b, off, rfl, hbw, hat⟩ := HA.out (by omega)
      obtain ⟨r, hr⟩ : ∃ r, l[k]? = some r := ⟨_, List.getElem?_eq_getElem hlt⟩
      obtain ⟨cs, hblk, hs, hc, hB⟩ := HC
      have q0 := (hat.below hB hbw) k r hr
      have hzr := hB.size
      have hgl := hblk.lt
      have HR := Lib.hid hr
      have HCC := Lib.hid hc
      have HBL := Lib.hid hblk
      have HSZ := Lib.hid hs
      have u0 : wr.cell? ⟨w.heap.size, k, none⟩ = some (cs[k]'(by omega)) := by rw [hblk.cell]; exact Array.getElem?_eq_getElem (by omega)
      generalize cs[k]'(by omega) = x0 at u0
      have uf := hblk.frozen
      clear hat hr hc hblk hs
      go_wp2_with fail
      go_roundw
      case rel =>
        refine ⟨k + 1, by omega, by go_num, CopyInt.put HSZ.out HR.out HCC.out ?_ (by repeat' (first | exact Below.refl _ _ | refine Below.alloc ?_ ?_ _ | refine Below.setCell ?_ ?_ _ | refine Below.drew ?_ | (apply below_step; assumption) | (simp; done) | (simp; omega) | omega))⟩
        exact HBL.out.put _ _
      case measure => simp [intOf]; omega
    · have hkl : k = l.length := by omega
      subst hkl
      have HD := Lib.hid HC.doneO
      obtain ⟨cs, hblk, hs, hc, hB⟩ := HC
      have hgl := hblk.lt
      clear hblk hs hc
      go_wp2_with fail
      go_ret
      exact ⟨w.heap.size, rfl, Nat.le_refl _, hgl, HD.out, hB⟩

def NewTaskO (w : World) (t : TV) (e : Ending) (w' : World) : Prop := ∃ g1 g2, e = .returned (.agg #[.int .i64 t.id, .int .i64 t.prio, .int .i64 t.need.c, .int .i64 t.need.m, .int .i64 t.need.p, .slice (some ⟨g1, 0, none⟩) t.want.length t.want.length, .slice (some ⟨g2, 0, none⟩) t.tols.length t.tols.length]) ∧
  w.heap.size ≤ g1 ∧ w.heap.size ≤ g2 ∧ g2 < w'.heap.size ∧ BlockIs w' g1 143 (labL t.want).toArray ∧ BlockIs w' g2 3 (intL t.tols).toArray ∧ Below w.heap.size w w'
set_option maxHeartbeats 1600000 in
theorem toTask_o (t : TV) (v1 v2 : Value) (w : World) (h1 : LabSl w v1 t.want) (h2 : IntSl w v2 t.tols) (l1 : t.want.length ≤ 1048576) (l2 : t.tols.length ≤ 1048576) :
    Calls Tryz.prog 174 #[.agg #[.int .i64 t.id, .int .i64 t.prio, .int .i64 t.need.c, .int .i64 t.need.m, .int .i64 t.need.p, v1, v2]] w (NewTaskO w t) := by
  have H1 := Lib.hid h1
  have H2 := Lib.hid h2
  have L1 := Lib.hid l1
  have L2 := Lib.hid l2
  clear h1 h2 l1 l2
  go_enter Tryz.func174, Tryz.ntmps174
  go_wp2_with fail
  refine (toRes_any t.need _).mono ?_
  rintro e w1 ⟨rfl, hb1⟩
  have hz1 := hb1.size
  simp at hz1
  have B0 : BlockIs w1 w.heap.size 195 #[.int .i64 t.id, .int .i64 t.prio, .int .i64 t.need.c, .int .i64 t.need.m, .int .i64 t.need.p, v1, v2] := (((BlockIs.new w _ _).alloc _).alloc _).below hb1 (by simp; omega)
  have B1 : BlockIs w1 (w.heap.size + 1) 154 #[.int .i64 0, .int .i64 0, .int .i64 0, .int .i64 0, .int .i64 0, .slice none 0 0, .slice none 0 0] := (BlockIs.alloc (BlockIs.new' (by simp)) _).below hb1 (by simp)
  have B2 : BlockIs w1 (w.heap.size + 1 + 1) 154 #[.int .i64 t.id, .int .i64 t.prio, .int .i64 0, .int .i64 0, .int .i64 0, .slice none 0 0, .slice none 0 0] := (BlockIs.new' (by simp)).below hb1 (by simp)
  have hC1 : Below w.heap.size w w1 := (by repeat' (first | exact Below.refl _ _ | refine Below.alloc ?_ ?_ _ | refine Below.setCell ?_ ?_ _ | refine Below.drew ?_ | (apply below_step; assumption) | (simp; done) | (simp; omega) | omega))
  have c5 := B0.cell 5
  have c2 := B2.cell 2
  have c3 := B2.cell 3
  have c4 := B2.cell 4
  have f2 := B2.frozen
  simp at c5 c2 c3 c4
  have HB0 := Lib.hid B0
  have HB1 := Lib.hid B1
  have HB2 := Lib.hid B2
  clear B0 B1 B2 hb1
  go_wp2_with fail
  have hC2 : Below w.heap.size w (((w1.setCell ⟨w.heap.size + 1 + 1, 2, none⟩ (.int .i64 t.need.c)).setCell ⟨w.heap.size + 1 + 1, 2 + 1, none⟩ (.int .i64 t.need.m)).setCell ⟨w.heap.size + 1 + 1, 2 + 2, none⟩ (.int .i64 t.need.p)) := (by repeat' (first | exact Below.refl _ _ | refine Below.alloc ?_ ?_ _ | refine Below.setCell ?_ ?_ _ | refine Below.drew ?_ | (apply below_step; assumption) | (simp; done) | (simp; omega) | omega))
  have A0 : BlockIs (((w1.setCell ⟨w.heap.size + 1 + 1, 2, none⟩ (.int .i64 t.need.c)).setCell ⟨w.heap.size + 1 + 1, 2 + 1, none⟩ (.int .i64 t.need.m)).setCell ⟨w.heap.size + 1 + 1, 2 + 2, none⟩ (.int .i64 t.need.p)) w.heap.size 195 #[.int .i64 t.id, .int .i64 t.prio, .int .i64 t.need.c, .int .i64 t.need.m, .int .i64 t.need.p, v1, v2] := ((HB0.out.far (by dsimp only; omega) _).far (by dsimp only; omega) _).far (by dsimp only; omega) _
  have A1 : BlockIs (((w1.setCell ⟨w.heap.size + 1 + 1, 2, none⟩ (.int .i64 t.need.c)).setCell ⟨w.heap.size + 1 + 1, 2 + 1, none⟩ (.int .i64 t.need.m)).setCell ⟨w.heap.size + 1 + 1, 2 + 2, none⟩ (.int .i64 t.need.p)) (w.heap.size + 1) 154 #[.int .i64 0, .int .i64 0, .int .i64 0, .int .i64 0, .int .i64 0, .slice none 0 0, .slice none 0 0] := ((HB1.out.far (by dsimp only; omega) _).far (by dsimp only; omega) _).far (by dsimp only; omega) _
  have A2 : BlockIs (((w1.setCell ⟨w.heap.size + 1 + 1, 2, none⟩ (.int .i64 t.need.c)).setCell ⟨w.heap.size + 1 + 1, 2 + 1, none⟩ (.int .i64 t.need.m)).setCell ⟨w.heap.size + 1 + 1, 2 + 2, none⟩ (.int .i64 t.need.p)) (w.heap.size + 1 + 1) 154 #[.int .i64 t.id, .int .i64 t.prio, .int .i64 t.need.c, .int .i64 t.need.m, .int .i64 t.need.p, .slice none 0 0, .slice none 0 0] := by simpa using ((HB2.out.put 2 _).put 3 _).put 4 _
  generalize (((w1.setCell ⟨w.heap.size + 1 + 1, 2, none⟩ (.int .i64 t.need.c)).setCell ⟨w.heap.size + 1 + 1, 2 + 1, none⟩ (.int .i64 t.need.m)).setCell ⟨w.heap.size + 1 + 1, 2 + 2, none⟩ (.int .i64 t.need.p)) = X2 at hC2 A0 A1 A2 ⊢
  clear HB0 HB1 HB2 hC1 hz1 c5 c2 c3 c4 f2
  refine (toLabS_any v1 t.want _ (H1.out.below hC2) L1.out).mono ?_
  rintro e w3 ⟨g1, rfl, hg1, hblk1, hb3⟩
  have l2 := A2.lt
  have hz3 := hb3.size
  have hC3 : Below w.heap.size w w3 := hC2.trans (hb3.mono hC2.size)
  have B0 := A0.below hb3 A0.lt
  have B1 := A1.below hb3 A1.lt
  have B2 := A2.below hb3 A2.lt
  have c6 := B0.cell 6
  have c5 := B2.cell 5
  have f2 := B2.frozen
  simp at c6 c5
  have HB1 := Lib.hid B1
  have HB2 := Lib.hid B2
  have HG1 := Lib.hid hblk1
  clear A0 A1 A2 B0 B1 B2 hblk1
  go_wp2_with fail
  have hC4 : Below w.heap.size w (w3.setCell ⟨w.heap.size + 1 + 1, 5, none⟩ (.slice (some ⟨g1, 0, none⟩) t.want.length t.want.length)) := (by repeat' (first | exact Below.refl _ _ | refine Below.alloc ?_ ?_ _ | refine Below.setCell ?_ ?_ _ | refine Below.drew ?_ | (apply below_step; assumption) | (simp; done) | (simp; omega) | omega))
  have A1 : BlockIs (w3.setCell ⟨w.heap.size + 1 + 1, 5, none⟩ (.slice (some ⟨g1, 0, none⟩) t.want.length t.want.length)) (w.heap.size + 1) 154 #[.int .i64 0, .int .i64 0, .int .i64 0, .int .i64 0, .int .i64 0, .slice none 0 0, .slice none 0 0] := HB1.out.far (by dsimp only; omega) _
  have A2 : BlockIs (w3.setCell ⟨w.heap.size + 1 + 1, 5, none⟩ (.slice (some ⟨g1, 0, none⟩) t.want.length t.want.length)) (w.heap.size + 1 + 1) 154 #[.int .i64 t.id, .int .i64 t.prio, .int .i64 t.need.c, .int .i64 t.need.m, .int .i64 t.need.p, .slice (some ⟨g1, 0, none⟩) t.want.length t.want.length, .slice none 0 0] := by simpa using HB2.out.put 5 _
  have AG : BlockIs (w3.setCell ⟨w.heap.size + 1 + 1, 5, none⟩ (.slice (some ⟨g1, 0, none⟩) t.want.length t.want.length)) g1 143 (labL t.want).toArray := HG1.out.far (by dsimp only; omega) _
  generalize (w3.setCell ⟨w.heap.size + 1 + 1, 5, none⟩ (.slice (some ⟨g1, 0, none⟩) t.want.length t.want.length)) = X4 at hC4 A1 A2 AG ⊢
  clear HB1 HB2 HG1 hC3 hz3 c5 c6 f2 hb3
  refine (toIntS_o v2 t.tols _ (H2.out.below hC4) L2.out).mono ?_
  rintro e w5 ⟨g2, rfl, hg2, hlt2, hat2, hb5⟩
  have l4 := A2.lt
  have hz5 := hb5.size
  have hC5 : Below w.heap.size w w5 := hC4.trans (hb5.mono hC4.size)
  have B1 := A1.below hb5 A1.lt
  have B2 := A2.below hb5 A2.lt
  have BG := AG.below hb5 AG.lt
  have c0 := B2.cell 0
  have c1 := B2.cell 1
  have c2 := B2.cell 2
  have c3 := B2.cell 3
  have c4 := B2.cell 4
  have c5 := B2.cell 5
  have c6 := B2.cell 6
  have f2 := B2.frozen
  have d0 := B1.cell 0
  have d1 := B1.cell 1
  have d2 := B1.cell 2
  have d3 := B1.cell 3
  have d4 := B1.cell 4
  have d5 := B1.cell 5
  have d6 := B1.cell 6
  have f1 := B1.frozen
  simp at c0 c1 c2 c3 c4 c5 c6 d0 d1 d2 d3 d4 d5 d6
  have HB1 := Lib.hid B1
  have HB2 := Lib.hid B2
  have HG1 := Lib.hid BG
  have HG2 := Lib.hid hat2
  clear A1 A2 AG B1 B2 BG hat2
  go_wp2_with fail
  have hZ : BlockIs ((((((((w5.setCell ⟨w.heap.size + 1 + 1, 6, none⟩ (.slice (some ⟨g2, 0, none⟩) t.tols.length t.tols.length)).setCell ⟨w.heap.size + 1, 0, none⟩ (.int .i64 t.id)).setCell ⟨w.heap.size + 1, 1, none⟩ (.int .i64 t.prio)).setCell ⟨w.heap.size + 1, 2, none⟩ (.int .i64 t.need.c)).setCell ⟨w.heap.size + 1, 3, none⟩ (.int .i64 t.need.m)).setCell ⟨w.heap.size + 1, 4, none⟩ (.int .i64 t.need.p)).setCell ⟨w.heap.size + 1, 5, none⟩ (.slice (some ⟨g1, 0, none⟩) t.want.length t.want.length)).setCell ⟨w.heap.size + 1, 6, none⟩ (.slice (some ⟨g2, 0, none⟩) t.tols.length t.tols.length)) (w.heap.size + 1) 154 #[.int .i64 t.id, .int .i64 t.prio, .int .i64 t.need.c, .int .i64 t.need.m, .int .i64 t.need.p, .slice (some ⟨g1, 0, none⟩) t.want.length t.want.length, .slice (some ⟨g2, 0, none⟩) t.tols.length t.tols.length] := put7 _ _ _ _ _ _ _ (HB1.out.far (by dsimp only; omega) _) rfl
  have hG : BlockIs ((((((((w5.setCell ⟨w.heap.size + 1 + 1, 6, none⟩ (.slice (some ⟨g2, 0, none⟩) t.tols.length t.tols.length)).setCell ⟨w.heap.size + 1, 0, none⟩ (.int .i64 t.id)).setCell ⟨w.heap.size + 1, 1, none⟩ (.int .i64 t.prio)).setCell ⟨w.heap.size + 1, 2, none⟩ (.int .i64 t.need.c)).setCell ⟨w.heap.size + 1, 3, none⟩ (.int .i64 t.need.m)).setCell ⟨w.heap.size + 1, 4, none⟩ (.int .i64 t.need.p)).setCell ⟨w.heap.size + 1, 5, none⟩ (.slice (some ⟨g1, 0, none⟩) t.want.length t.want.length)).setCell ⟨w.heap.size + 1, 6, none⟩ (.slice (some ⟨g2, 0, none⟩) t.tols.length t.tols.length)) g1 143 (labL t.want).toArray := far7 (HG1.out.far (by dsimp only; omega) _) (by omega)
  have hI : BlockIs ((((((((w5.setCell ⟨w.heap.size + 1 + 1, 6, none⟩ (.slice (some ⟨g2, 0, none⟩) t.tols.length t.tols.length)).setCell ⟨w.heap.size + 1, 0, none⟩ (.int .i64 t.id)).setCell ⟨w.heap.size + 1, 1, none⟩ (.int .i64 t.prio)).setCell ⟨w.heap.size + 1, 2, none⟩ (.int .i64 t.need.c)).setCell ⟨w.heap.size + 1, 3, none⟩ (.int .i64 t.need.m)).setCell ⟨w.heap.size + 1, 4, none⟩ (.int .i64 t.need.p)).setCell ⟨w.heap.size + 1, 5, none⟩ (.slice (some ⟨g1, 0, none⟩) t.want.length t.want.length)).setCell ⟨w.heap.size + 1, 6, none⟩ (.slice (some ⟨g2, 0, none⟩) t.tols.length t.tols.length)) g2 3 (intL t.tols).toArray := far7 (HG2.out.far (by dsimp only; omega) _) (by omega)
  have hB : Below w.heap.size w ((((((((w5.setCell ⟨w.heap.size + 1 + 1, 6, none⟩ (.slice (some ⟨g2, 0, none⟩) t.tols.length t.tols.length)).setCell ⟨w.heap.size + 1, 0, none⟩ (.int .i64 t.id)).setCell ⟨w.heap.size + 1, 1, none⟩ (.int .i64 t.prio)).setCell ⟨w.heap.size + 1, 2, none⟩ (.int .i64 t.need.c)).setCell ⟨w.heap.size + 1, 3, none⟩ (.int .i64 t.need.m)).setCell ⟨w.heap.size + 1, 4, none⟩ (.int .i64 t.need.p)).setCell ⟨w.heap.size + 1, 5, none⟩ (.slice (some ⟨g1, 0, none⟩) t.want.length t.want.length)).setCell ⟨w.heap.size + 1, 6, none⟩ (.slice (some ⟨g2, 0, none⟩) t.tols.length t.tols.length)) := below7 (hC5.setCell (by dsimp only; omega) _) (by omega)
  have hs : ((((((((w5.setCell ⟨w.heap.size + 1 + 1, 6, none⟩ (.slice (some ⟨g2, 0, none⟩) t.tols.length t.tols.length)).setCell ⟨w.heap.size + 1, 0, none⟩ (.int .i64 t.id)).setCell ⟨w.heap.size + 1, 1, none⟩ (.int .i64 t.prio)).setCell ⟨w.heap.size + 1, 2, none⟩ (.int .i64 t.need.c)).setCell ⟨w.heap.size + 1, 3, none⟩ (.int .i64 t.need.m)).setCell ⟨w.heap.size + 1, 4, none⟩ (.int .i64 t.need.p)).setCell ⟨w.heap.size + 1, 5, none⟩ (.slice (some ⟨g1, 0, none⟩) t.want.length t.want.length)).setCell ⟨w.heap.size + 1, 6, none⟩ (.slice (some ⟨g2, 0, none⟩) t.tols.length t.tols.length)).heap.size = w5.heap.size := by simp [World.setCell]
  generalize ((((((((w5.setCell ⟨w.heap.size + 1 + 1, 6, none⟩ (.slice (some ⟨g2, 0, none⟩) t.tols.length t.tols.length)).setCell ⟨w.heap.size + 1, 0, none⟩ (.int .i64 t.id)).setCell ⟨w.heap.size + 1, 1, none⟩ (.int .i64 t.prio)).setCell ⟨w.heap.size + 1, 2, none⟩ (.int .i64 t.need.c)).setCell ⟨w.heap.size + 1, 3, none⟩ (.int .i64 t.need.m)).setCell ⟨w.heap.size + 1, 4, none⟩ (.int .i64 t.need.p)).setCell ⟨w.heap.size + 1, 5, none⟩ (.slice (some ⟨g1, 0, none⟩) t.want.length t.want.length)).setCell ⟨w.heap.size + 1, 6, none⟩ (.slice (some ⟨g2, 0, none⟩) t.tols.length t.tols.length)) = X at hZ hG hI hB hs ⊢
  have z0 := hZ.cell 0
  have z1 := hZ.cell 1
  have z2 := hZ.cell 2
  have z3 := hZ.cell 3
  have z4 := hZ.cell 4
  have z5 := hZ.cell 5
  have z6 := hZ.cell 6
  simp at z0 z1 z2 z3 z4 z5 z6
  exact bodyPost_ret (v := .agg #[.int .i64 t.id, .int .i64 t.prio, .int .i64 t.need.c, .int .i64 t.need.m, .int .i64 t.need.p, .slice (some ⟨g1, 0, none⟩) t.want.length t.want.length, .slice (some ⟨g2, 0, none⟩) t.tols.length t.tols.length]) (by simp [results, Tryz.results174, go_sem, z0, z1, z2, z3, z4, z5, z6]) rfl ⟨g1, g2, rfl, by omega, by omega, by omega, hG, hI, hB⟩

def NewNodeO (w : World) (t : NV) (e : Ending) (w' : World) : Prop := ∃ g1 g2, e = .returned (.agg #[.int .i64 t.id, .int .i64 t.pool, .int .i64 t.cap.c, .int .i64 t.cap.m, .int .i64 t.cap.p, .slice (some ⟨g1, 0, none⟩) t.labs.length t.labs.length, .slice (some ⟨g2, 0, none⟩) t.taints.length t.taints.length, .bool t.cordon]) ∧
  w.heap.size ≤ g1 ∧ w.heap.size ≤ g2 ∧ g2 < w'.heap.size ∧ BlockIs w' g1 143 (labL t.labs).toArray ∧ BlockIs w' g2 3 (intL t.taints).toArray ∧ Below w.heap.size w w'
set_option maxHeartbeats 1600000 in
theorem toNode_o (t : NV) (v1 v2 : Value) (w : World) (h1 : LabSl w v1 t.labs) (h2 : IntSl w v2 t.taints) (l1 : t.labs.length ≤ 1048576) (l2 : t.taints.length ≤ 1048576) :
    Calls Tryz.prog 89 #[.agg #[.int .i64 t.id, .int .i64 t.pool, .int .i64 t.cap.c, .int .i64 t.cap.m, .int .i64 t.cap.p, v1, v2, .bool t.cordon]] w (NewNodeO w t) := by
  have H1 := Lib.hid h1
  have H2 := Lib.hid h2
  have L1 := Lib.hid l1
  have L2 := Lib.hid l2
  clear h1 h2 l1 l2
  go_enter Tryz.func89, Tryz.ntmps89
  go_wp2_with fail
  refine (toRes_any t.cap _).mono ?_
  rintro e w1 ⟨rfl, hb1⟩
  have hz1 := hb1.size
  simp at hz1
  have B0 : BlockIs w1 w.heap.size 71 #[.int .i64 t.id, .int .i64 t.pool, .int .i64 t.cap.c, .int .i64 t.cap.m, .int .i64 t.cap.p, v1, v2, .bool t.cordon] := (((BlockIs.new w _ _).alloc _).alloc _).below hb1 (by simp; omega)
  have B1 : BlockIs w1 (w.heap.size + 1) 78 #[.int .i64 0, .int .i64 0, .int .i64 0, .int .i64 0, .int .i64 0, .slice none 0 0, .slice none 0 0, .bool false] := (BlockIs.alloc (BlockIs.new' (by simp)) _).below hb1 (by simp)
  have B2 : BlockIs w1 (w.heap.size + 1 + 1) 78 #[.int .i64 t.id, .int .i64 t.pool, .int .i64 0, .int .i64 0, .int .i64 0, .slice none 0 0, .slice none 0 0, .bool false] := (BlockIs.new' (by simp)).below hb1 (by simp)
  have hC1 : Below w.heap.size w w1 := (by repeat' (first | exact Below.refl _ _ | refine Below.alloc ?_ ?_ _ | refine Below.setCell ?_ ?_ _ | refine Below.drew ?_ | (apply below_step; assumption) | (simp; done) | (simp; omega) | omega))
  have c5 := B0.cell 5
  have c2 := B2.cell 2
  have c3 := B2.cell 3
  have c4 := B2.cell 4
  have f2 := B2.frozen
  simp at c5 c2 c3 c4
  have HB0 := Lib.hid B0
  have HB1 := Lib.hid B1
  have HB2 := Lib.hid B2
  clear B0 B1 B2 hb1
  go_wp2_with fail
  have hC2 : Below w.heap.size w (((w1.setCell ⟨w.heap.size + 1 + 1, 2, none⟩ (.int .i64 t.cap.c)).setCell ⟨w.heap.size + 1 + 1, 2 + 1, none⟩ (.int .i64 t.cap.m)).setCell ⟨w.heap.size + 1 + 1, 2 + 2, none⟩ (.int .i64 t.cap.p)) := (by repeat' (first | exact Below.refl _ _ | refine Below.alloc ?_ ?_ _ | refine Below.setCell ?_ ?_ _ | refine Below.drew ?_ | (apply below_step; assumption) | (simp; done) | (simp; omega) | omega))
  have A0 : BlockIs (((w1.setCell ⟨w.heap.size + 1 + 1, 2, none⟩ (.int .i64 t.cap.c)).setCell ⟨w.heap.size + 1 + 1, 2 + 1, none⟩ (.int .i64 t.cap.m)).setCell ⟨w.heap.size + 1 + 1, 2 + 2, none⟩ (.int .i64 t.cap.p)) w.heap.size 71 #[.int .i64 t.id, .int .i64 t.pool, .int .i64 t.cap.c, .int .i64 t.cap.m, .int .i64 t.cap.p, v1, v2, .bool t.cordon] := ((HB0.out.far (by dsimp only; omega) _).far (by dsimp only; omega) _).far (by dsimp only; omega) _
  have A1 : BlockIs (((w1.setCell ⟨w.heap.size + 1 + 1, 2, none⟩ (.int .i64 t.cap.c)).setCell ⟨w.heap.size + 1 + 1, 2 + 1, none⟩ (.int .i64 t.cap.m)).setCell ⟨w.heap.size + 1 + 1, 2 + 2, none⟩ (.int .i64 t.cap.p)) (w.heap.size + 1) 78 #[.int .i64 0, .int .i64 0, .int .i64 0, .int .i64 0, .int .i64 0, .slice none 0 0, .slice none 0 0, .bool false] := ((HB1.out.far (by dsimp only; omega) _).far (by dsimp only; omega) _).far (by dsimp only; omega) _
  have A2 : BlockIs (((w1.setCell ⟨w.heap.size + 1 + 1, 2, none⟩ (.int .i64 t.cap.c)).setCell ⟨w.heap.size + 1 + 1, 2 + 1, none⟩ (.int .i64 t.cap.m)).setCell ⟨w.heap.size + 1 + 1, 2 + 2, none⟩ (.int .i64 t.cap.p)) (w.heap.size + 1 + 1) 78 #[.int .i64 t.id, .int .i64 t.pool, .int .i64 t.cap.c, .int .i64 t.cap.m, .int .i64 t.cap.p, .slice none 0 0, .slice none 0 0, .bool false] := by simpa using ((HB2.out.put 2 _).put 3 _).put 4 _
  generalize (((w1.setCell ⟨w.heap.size + 1 + 1, 2, none⟩ (.int .i64 t.cap.c)).setCell ⟨w.heap.size + 1 + 1, 2 + 1, none⟩ (.int .i64 t.cap.m)).setCell ⟨w.heap.size + 1 + 1, 2 + 2, none⟩ (.int .i64 t.cap.p)) = X2 at hC2 A0 A1 A2 ⊢
  clear HB0 HB1 HB2 hC1 hz1 c5 c2 c3 c4 f2
  refine (toLabS_any v1 t.labs _ (H1.out.below hC2) L1.out).mono ?_
  rintro e w3 ⟨g1, rfl, hg1, hblk1, hb3⟩
  have l2 := A2.lt
  have hz3 := hb3.size
  have hC3 : Below w.heap.size w w3 := hC2.trans (hb3.mono hC2.size)
  have B0 := A0.below hb3 A0.lt
  have B1 := A1.below hb3 A1.lt
  have B2 := A2.below hb3 A2.lt
  have c6 := B0.cell 6
  have c5 := B2.cell 5
  have f2 := B2.frozen
  simp at c6 c5
  have HB1 := Lib.hid B1
  have HB2 := Lib.hid B2
  have HG1 := Lib.hid hblk1
  have HB0 := Lib.hid B0
  clear A0 A1 A2 B0 B1 B2 hblk1
  go_wp2_with fail
  have hC4 : Below w.heap.size w (w3.setCell ⟨w.heap.size + 1 + 1, 5, none⟩ (.slice (some ⟨g1, 0, none⟩) t.labs.length t.labs.length)) := (by repeat' (first | exact Below.refl _ _ | refine Below.alloc ?_ ?_ _ | refine Below.setCell ?_ ?_ _ | refine Below.drew ?_ | (apply below_step; assumption) | (simp; done) | (simp; omega) | omega))
  have A1 : BlockIs (w3.setCell ⟨w.heap.size + 1 + 1, 5, none⟩ (.slice (some ⟨g1, 0, none⟩) t.labs.length t.labs.length)) (w.heap.size + 1) 78 #[.int .i64 0, .int .i64 0, .int .i64 0, .int .i64 0, .int .i64 0, .slice none 0 0, .slice none 0 0, .bool false] := HB1.out.far (by dsimp only; omega) _
  have A2 : BlockIs (w3.setCell ⟨w.heap.size + 1 + 1, 5, none⟩ (.slice (some ⟨g1, 0, none⟩) t.labs.length t.labs.length)) (w.heap.size + 1 + 1) 78 #[.int .i64 t.id, .int .i64 t.pool, .int .i64 t.cap.c, .int .i64 t.cap.m, .int .i64 t.cap.p, .slice (some ⟨g1, 0, none⟩) t.labs.length t.labs.length, .slice none 0 0, .bool false] := by simpa using HB2.out.put 5 _
  have A0 : BlockIs (w3.setCell ⟨w.heap.size + 1 + 1, 5, none⟩ (.slice (some ⟨g1, 0, none⟩) t.labs.length t.labs.length)) w.heap.size 71 #[.int .i64 t.id, .int .i64 t.pool, .int .i64 t.cap.c, .int .i64 t.cap.m, .int .i64 t.cap.p, v1, v2, .bool t.cordon] := HB0.out.far (by dsimp only; omega) _
  have AG : BlockIs (w3.setCell ⟨w.heap.size + 1 + 1, 5, none⟩ (.slice (some ⟨g1, 0, none⟩) t.labs.length t.labs.length)) g1 143 (labL t.labs).toArray := HG1.out.far (by dsimp only; omega) _
  generalize (w3.setCell ⟨w.heap.size + 1 + 1, 5, none⟩ (.slice (some ⟨g1, 0, none⟩) t.labs.length t.labs.length)) = X4 at hC4 A0 A1 A2 AG ⊢
  clear HB0 HB1 HB2 HG1 hC3 hz3 c5 c6 f2 hb3
  refine (toIntS_o v2 t.taints _ (H2.out.below hC4) L2.out).mono ?_
  rintro e w5 ⟨g2, rfl, hg2, hlt2, hat2, hb5⟩
  have l4 := A2.lt
  have hz5 := hb5.size
  have hC5 : Below w.heap.size w w5 := hC4.trans (hb5.mono hC4.size)
  have B1 := A1.below hb5 A1.lt
  have B2 := A2.below hb5 A2.lt
  have BG := AG.below hb5 AG.lt
  have B0 := A0.below hb5 A0.lt
  have b7 := B0.cell 7
  have f0 := B0.frozen
  have c7 := B2.cell 7
  have d7 := B1.cell 7
  have c0 := B2.cell 0
  have c1 := B2.cell 1
  have c2 := B2.cell 2
  have c3 := B2.cell 3
  have c4 := B2.cell 4
  have c5 := B2.cell 5
  have c6 := B2.cell 6
  have f2 := B2.frozen
  have d0 := B1.cell 0
  have d1 := B1.cell 1
  have d2 := B1.cell 2
  have d3 := B1.cell 3
  have d4 := B1.cell 4
  have d5 := B1.cell 5
  have d6 := B1.cell 6
  have f1 := B1.frozen
  simp at b7 c7 d7 c0 c1 c2 c3 c4 c5 c6 d0 d1 d2 d3 d4 d5 d6
  have HB1 := Lib.hid B1
  have HB2 := Lib.hid B2
  have HG1 := Lib.hid BG
  have HG2 := Lib.hid hat2
  clear A0 A1 A2 AG B0 B1 B2 BG hat2
  go_wp2_with fail
  have hZ : BlockIs ((((((((((w5.setCell ⟨w.heap.size + 1 + 1, 6, none⟩ (.slice (some ⟨g2, 0, none⟩) t.taints.length t.taints.length)).setCell ⟨w.heap.size + 1 + 1, 7, none⟩ (.bool t.cordon)).setCell ⟨w.heap.size + 1, 0, none⟩ (.int .i64 t.id)).setCell ⟨w.heap.size + 1, 1, none⟩ (.int .i64 t.pool)).setCell ⟨w.heap.size + 1, 2, none⟩ (.int .i64 t.cap.c)).setCell ⟨w.heap.size + 1, 3, none⟩ (.int .i64 t.cap.m)).setCell ⟨w.heap.size + 1, 4, none⟩ (.int .i64 t.cap.p)).setCell ⟨w.heap.size + 1, 5, none⟩ (.slice (some ⟨g1, 0, none⟩) t.labs.length t.labs.length)).setCell ⟨w.heap.size + 1, 6, none⟩ (.slice (some ⟨g2, 0, none⟩) t.taints.length t.taints.length)).setCell ⟨w.heap.size + 1, 7, none⟩ (.bool t.cordon)) (w.heap.size + 1) 78 #[.int .i64 t.id, .int .i64 t.pool, .int .i64 t.cap.c, .int .i64 t.cap.m, .int .i64 t.cap.p, .slice (some ⟨g1, 0, none⟩) t.labs.length t.labs.length, .slice (some ⟨g2, 0, none⟩) t.taints.length t.taints.length, .bool t.cordon] := put8 _ _ _ _ _ _ _ _ ((HB1.out.far (by dsimp only; omega) _).far (by dsimp only; omega) _) rfl
  have hG : BlockIs ((((((((((w5.setCell ⟨w.heap.size + 1 + 1, 6, none⟩ (.slice (some ⟨g2, 0, none⟩) t.taints.length t.taints.length)).setCell ⟨w.heap.size + 1 + 1, 7, none⟩ (.bool t.cordon)).setCell ⟨w.heap.size + 1, 0, none⟩ (.int .i64 t.id)).setCell ⟨w.heap.size + 1, 1, none⟩ (.int .i64 t.pool)).setCell ⟨w.heap.size + 1, 2, none⟩ (.int .i64 t.cap.c)).setCell ⟨w.heap.size + 1, 3, none⟩ (.int .i64 t.cap.m)).setCell ⟨w.heap.size + 1, 4, none⟩ (.int .i64 t.cap.p)).setCell ⟨w.heap.size + 1, 5, none⟩ (.slice (some ⟨g1, 0, none⟩) t.labs.length t.labs.length)).setCell ⟨w.heap.size + 1, 6, none⟩ (.slice (some ⟨g2, 0, none⟩) t.taints.length t.taints.length)).setCell ⟨w.heap.size + 1, 7, none⟩ (.bool t.cordon)) g1 143 (labL t.labs).toArray := far8 ((HG1.out.far (by dsimp only; omega) _).far (by dsimp only; omega) _) (by omega)
  have hI : BlockIs ((((((((((w5.setCell ⟨w.heap.size + 1 + 1, 6, none⟩ (.slice (some ⟨g2, 0, none⟩) t.taints.length t.taints.length)).setCell ⟨w.heap.size + 1 + 1, 7, none⟩ (.bool t.cordon)).setCell ⟨w.heap.size + 1, 0, none⟩ (.int .i64 t.id)).setCell ⟨w.heap.size + 1, 1, none⟩ (.int .i64 t.pool)).setCell ⟨w.heap.size + 1, 2, none⟩ (.int .i64 t.cap.c)).setCell ⟨w.heap.size + 1, 3, none⟩ (.int .i64 t.cap.m)).setCell ⟨w.heap.size + 1, 4, none⟩ (.int .i64 t.cap.p)).setCell ⟨w.heap.size + 1, 5, none⟩ (.slice (some ⟨g1, 0, none⟩) t.labs.length t.labs.length)).setCell ⟨w.heap.size + 1, 6, none⟩ (.slice (some ⟨g2, 0, none⟩) t.taints.length t.taints.length)).setCell ⟨w.heap.size + 1, 7, none⟩ (.bool t.cordon)) g2 3 (intL t.taints).toArray := far8 ((HG2.out.far (by dsimp only; omega) _).far (by dsimp only; omega) _) (by omega)
  have hB : Below w.heap.size w ((((((((((w5.setCell ⟨w.heap.size + 1 + 1, 6, none⟩ (.slice (some ⟨g2, 0, none⟩) t.taints.length t.taints.length)).setCell ⟨w.heap.size + 1 + 1, 7, none⟩ (.bool t.cordon)).setCell ⟨w.heap.size + 1, 0, none⟩ (.int .i64 t.id)).setCell ⟨w.heap.size + 1, 1, none⟩ (.int .i64 t.pool)).setCell ⟨w.heap.size + 1, 2, none⟩ (.int .i64 t.cap.c)).setCell ⟨w.heap.size + 1, 3, none⟩ (.int .i64 t.cap.m)).setCell ⟨w.heap.size + 1, 4, none⟩ (.int .i64 t.cap.p)).setCell ⟨w.heap.size + 1, 5, none⟩ (.slice (some ⟨g1, 0, none⟩) t.labs.length t.labs.length)).setCell ⟨w.heap.size + 1, 6, none⟩ (.slice (some ⟨g2, 0, none⟩) t.taints.length t.taints.length)).setCell ⟨w.heap.size + 1, 7, none⟩ (.bool t.cordon)) := below8 ((hC5.setCell (by dsimp only; omega) _).setCell (by dsimp only; omega) _) (by omega)
  have hs : ((((((((((w5.setCell ⟨w.heap.size + 1 + 1, 6, none⟩ (.slice (some ⟨g2, 0, none⟩) t.taints.length t.taints.length)).setCell ⟨w.heap.size + 1 + 1, 7, none⟩ (.bool t.cordon)).setCell ⟨w.heap.size + 1, 0, none⟩ (.int .i64 t.id)).setCell ⟨w.heap.size + 1, 1, none⟩ (.int .i64 t.pool)).setCell ⟨w.heap.size + 1, 2, none⟩ (.int .i64 t.cap.c)).setCell ⟨w.heap.size + 1, 3, none⟩ (.int .i64 t.cap.m)).setCell ⟨w.heap.size + 1, 4, none⟩ (.int .i64 t.cap.p)).setCell ⟨w.heap.size + 1, 5, none⟩ (.slice (some ⟨g1, 0, none⟩) t.labs.length t.labs.length)).setCell ⟨w.heap.size + 1, 6, none⟩ (.slice (some ⟨g2, 0, none⟩) t.taints.length t.taints.length)).setCell ⟨w.heap.size + 1, 7, none⟩ (.bool t.cordon)).heap.size = w5.heap.size := by simp [World.setCell]
  generalize ((((((((((w5.setCell ⟨w.heap.size + 1 + 1, 6, none⟩ (.slice (some ⟨g2, 0, none⟩) t.taints.length t.taints.length)).setCell ⟨w.heap.size + 1 + 1, 7, none⟩ (.bool t.cordon)).setCell ⟨w.heap.size + 1, 0, none⟩ (.int .i64 t.id)).setCell ⟨w.heap.size + 1, 1, none⟩ (.int .i64 t.pool)).setCell ⟨w.heap.size + 1, 2, none⟩ (.int .i64 t.cap.c)).setCell ⟨w.heap.size + 1, 3, none⟩ (.int .i64 t.cap.m)).setCell ⟨w.heap.size + 1, 4, none⟩ (.int .i64 t.cap.p)).setCell ⟨w.heap.size + 1, 5, none⟩ (.slice (some ⟨g1, 0, none⟩) t.labs.length t.labs.length)).setCell ⟨w.heap.size + 1, 6, none⟩ (.slice (some ⟨g2, 0, none⟩) t.taints.length t.taints.length)).setCell ⟨w.heap.size + 1, 7, none⟩ (.bool t.cordon)) = X at hZ hG hI hB hs ⊢
  have z0 := hZ.cell 0
  have z1 := hZ.cell 1
  have z2 := hZ.cell 2
  have z3 := hZ.cell 3
  have z4 := hZ.cell 4
  have z5 := hZ.cell 5
  have z6 := hZ.cell 6
  have z7 := hZ.cell 7
  simp at z7 z0 z1 z2 z3 z4 z5 z6
  exact bodyPost_ret (v := .agg #[.int .i64 t.id, .int .i64 t.pool, .int .i64 t.cap.c, .int .i64 t.cap.m, .int .i64 t.cap.p, .slice (some ⟨g1, 0, none⟩) t.labs.length t.labs.length, .slice (some ⟨g2, 0, none⟩) t.taints.length t.taints.length, .bool t.cordon]) (by simp [results, Tryz.results89, go_sem, z0, z1, z2, z3, z4, z5, z6, z7]) rfl ⟨g1, g2, rfl, by omega, by omega, by omega, hG, hI, hB⟩


theorem blk_ne {w : World} {a b : Nat} {t u : TypeId} {x y : Array Value} (h : BlockIs w a t x) (k : BlockIs w b u y) (hne : t ≠ u) : a ≠ b := fun e => by
  subst e
  have := Option.some.inj (h.symm.trans k)
  simp at this
  exact hne this.2
theorem own_some {w : World} {e : TypeId} {size n g c : Nat} {xs : List Value} (h : w.ownsRow 0 e size (.slice (some ⟨g, 0, none⟩) n c) n xs) {j : Nat} (hj : j < n * size) : ∃ u, w.cell? ⟨g, j, none⟩ = some u := by
  have h1 := h.1
  exact ⟨_, own_cell h (List.getElem?_eq_getElem (by omega))⟩
theorem toTask_ro (t : TV) (cs : List Value) (w : World) (h : TaskR w t cs) : Calls Tryz.prog 174 #[.agg cs.toArray] w (RetO TaskO w t) := by
  obtain ⟨v1, v2, rfl, h1, h2, l1, l2⟩ := h
  refine (toTask_o t v1 v2 w h1 h2 l1 l2).mono fun _ _ ⟨g1, g2, e, k1, k2, k3, bl, it, hb⟩ => ⟨_, [g1, g2], e, ⟨_, _, rfl, labO_of bl l1, intO_of it l2, rfl, l1, l2⟩, ?_, ?_, hb⟩
  · have := blk_ne bl it (by decide)
    simp [this]
  · intro b hb
    simp at hb
    rcases hb with rfl | rfl
    · exact k1
    · exact k2
theorem toNode_ro (t : NV) (cs : List Value) (w : World) (h : NodeR w t cs) : Calls Tryz.prog 89 #[.agg cs.toArray] w (RetO NodeO w t) := by
  obtain ⟨v1, v2, rfl, h1, h2, l1, l2⟩ := h
  refine (toNode_o t v1 v2 w h1 h2 l1 l2).mono fun _ _ ⟨g1, g2, e, k1, k2, k3, bl, it, hb⟩ => ⟨_, [g1, g2], e, ⟨_, _, rfl, labO_of bl l1, intO_of it l2, rfl, l1, l2⟩, ?_, ?_, hb⟩
  · have := blk_ne bl it (by decide)
    simp [this]
  · intro b hb
    simp at hb
    rcases hb with rfl | rfl
    · exact k1
    · exact k2
theorem toBind_ro (t : BV) (cs : List Value) (w : World) (h : BindR w t cs) : Calls Tryz.prog 175 #[.agg cs.toArray] w (RetO BindO w t) := by
  obtain rfl := h
  exact (toBind_any t w).mono fun _ _ ⟨e, hb⟩ => ⟨_, [], e, ⟨rfl, rfl⟩, by simp, by simp, hb⟩
set_option maxHeartbeats 3200000 in
theorem toTaskS_o (v : Value) (l : List TV) (w : World) (hv : TaskSl w v l) (hlen : l.length ≤ 1048576) :
    Calls Tryz.prog 127 #[v] w fun e w' => ∃ bs, e = .returned (.slice (some ⟨w.heap.size, 0, none⟩) l.length l.length) ∧ RowO TaskO 154 7 w' (.slice (some ⟨w.heap.size, 0, none⟩) l.length l.length) l bs ∧ bs.Nodup ∧ (∀ b ∈ bs, w.heap.size ≤ b) ∧ Below w.heap.size w w' := by
  obtain ⟨A, c, rfl, hA⟩ := hv.form
  have HA := Lib.hid hA
  clear hA hv
  have hmk := make_task l.length hlen
  go_enter Tryz.func127, Tryz.ntmps127
  go_wp2_with fail
  go_loopw [4] (fun s4 wr => ∃ (k : Nat) (xa xb : List Value) (ba : List Nat), k ≤ l.length ∧ s4 = .int .i64 k ∧ wr.ownsRow 0 154 7 (.slice (some ⟨w.heap.size, 0, none⟩) l.length l.length) l.length (xa ++ xb) ∧ Elems TaskO wr (l.take k) xa ba ∧ (w.heap.size :: ba).Nodup ∧ (∀ b ∈ ba, w.heap.size < b) ∧ Below w.heap.size w wr) (fun s4 _ => (l.length - intOf s4).toNat)
  case atStart =>
    refine ⟨0, [], (madeCells #[.int .i64 0, .int .i64 0, .int .i64 0, .int .i64 0, .int .i64 0, .slice none 0 0, .slice none 0 0] (l.length * 7)).toList, [], by omega, rfl, ⟨by simp [size_madeCells], .inr ⟨w.heap.size, l.length, _, rfl, Nat.zero_le _, BlockIs.new w _ _, Nat.le_refl _, by simp only [maxLen]; omega, size_madeCells _ _, ?_⟩⟩, ⟨rfl, rfl⟩, by simp, by simp, (by repeat' (first | exact Below.refl _ _ | refine Below.alloc ?_ ?_ _ | refine Below.setCell ?_ ?_ _ | refine Below.drew ?_ | (apply below_step; assumption) | (simp; done) | (simp; omega) | omega))⟩
    rw [List.nil_append, List.take_of_length_le]
    simp [size_madeCells]
  case round =>
    obtain ⟨k, xa, xb, ba, hk, rfl, hown, hel, hnd, hlo, hB⟩ := hrel
    have hzr := hB.size
    by_cases hlt : k < l.length
    · obtain ⟨b, off, rfl, hbw, hat⟩ := HA.out (by omega)
      obtain ⟨t, ht⟩ : ∃ t, l[k]? = some t := ⟨_, List.getElem?_eq_getElem hlt⟩
      obtain ⟨cs, hR, hC⟩ := (hat.below TaskR.kept hB hbw) k t ht
      have HTK := Lib.hid ht
      have HR := Lib.hid (toTask_ro t cs wr hR)
      obtain ⟨v1, v2, rfl, sl, si, m1, m2⟩ := hR; obtain ⟨A1, c1, rfl, _⟩ := sl.form; obtain ⟨A2, c2, rfl, _⟩ := si.form
      clear sl si m1 m2
      obtain ⟨q0, q1, q2, q3, q4, q5, q6⟩ := task_cells hC
      have HO := Lib.hid hown
      have HEL := Lib.hid hel
      have HND := Lib.hid (And.intro hnd hlo)
      have hgl := own_lt hown w.heap.size (by simp [blk, Value.ownBlock])
      clear hat hC ht hown hel hnd hlo
      go_wp2_with fail
      refine HR.out.mono ?_
      rintro e w3 ⟨ds, bx, rfl, hN, hndx, hlox, hb3⟩
      have hz3 := hb3.size
      have hC3 := below_of hB hb3
      have hO3 := own_agree HO.out (Agree.of_below hb3 (own_lt HO.out))
      have hk7 : k * 7 + 7 ≤ l.length * 7 := by
        have := Nat.mul_le_mul_right 7 (show k + 1 ≤ l.length from hlt)
        rw [Nat.add_mul, Nat.one_mul] at this; exact this
      obtain ⟨y0, x0⟩ := own_some hO3 (j := k * 7 + 0) (by omega); obtain ⟨y1, x1⟩ := own_some hO3 (j := k * 7 + 1) (by omega); obtain ⟨y2, x2⟩ := own_some hO3 (j := k * 7 + 2) (by omega); obtain ⟨y3, x3⟩ := own_some hO3 (j := k * 7 + 3) (by omega); obtain ⟨y4, x4⟩ := own_some hO3 (j := k * 7 + 4) (by omega); obtain ⟨y5, x5⟩ := own_some hO3 (j := k * 7 + 5) (by omega); obtain ⟨y6, x6⟩ := own_some hO3 (j := k * 7 + 6) (by omega)
      rw [Nat.add_zero] at x0
      have uf := own_frozen hO3 (by omega)
      have HO3 := Lib.hid hO3
      have HN := Lib.hid (And.intro hN (And.intro hndx hlox))
      obtain ⟨v3, v4, rfl, n1, n2, -, -, -⟩ := hN
      obtain ⟨E1, d1, rfl, -⟩ := own_form n1
      obtain ⟨E2, d2, rfl, -⟩ := own_form n2
      clear hndx hlox hO3 hk7 n1 n2
      go_wp2_with fail
      go_roundw
      case rel =>
        obtain ⟨hN, hndx, hlox⟩ := HN.out
        obtain ⟨hnd, hlo⟩ := HND.out
        have hxl : xa.length = k * 7 := by rw [HEL.out.len (fun _ _ _ h => h.len), List.length_take, Nat.min_eq_left hk]
        have hlx : (xa ++ xb).length = l.length * 7 := HO3.out.1
        rw [List.length_append, hxl] at hlx
        have hx0 : (xb.take 7).length = 7 := by
          rw [List.length_take]
          have := Nat.mul_le_mul_right 7 (show k + 1 ≤ l.length from hlt)
          rw [Nat.add_mul, Nat.one_mul] at this
          omega
        have h3 := HO3.out
        rw [← List.take_append_drop 7 xb] at h3
        have st := own_put (v := .slice (some ⟨w.heap.size, 0, none⟩) l.length l.length) (g := w.heap.size) (ds := [.int .i64 t.id, .int .i64 t.prio, .int .i64 t.need.c, .int .i64 t.need.m, .int .i64 t.need.p, .slice E1 t.want.length d1, .slice E2 t.tols.length d2]) h3 (by rw [hx0]; rfl) rfl
        rw [hxl] at st
        have hEA := HEL.out.agree TaskO.framed (Agree.of_below hb3 (elems_lt (fun _ _ _ h => h.lt) HEL.out))
        have hP : TurnB [w.heap.size] w3 (putAll w3 w.heap.size (k * 7) [.int .i64 t.id, .int .i64 t.prio, .int .i64 t.need.c, .int .i64 t.need.m, .int .i64 t.need.p, .slice E1 t.want.length d1, .slice E2 t.tols.length d2]) := (TurnB.refl _ _).putAll (List.mem_singleton.2 rfl) _ _
        have hEP := hEA.agree TaskO.framed (hP.agree (fun b hb => ⟨elems_lt (fun _ _ _ h => h.lt) hEA b hb, by have := hlo b hb; simp; omega⟩))
        have hNP := TaskO.framed _ _ _ _ _ hN (hP.agree (fun b hb => ⟨hN.lt b hb, by have := hlox b hb; simp; omega⟩))
        refine ⟨k + 1, xa ++ [.int .i64 t.id, .int .i64 t.prio, .int .i64 t.need.c, .int .i64 t.need.m, .int .i64 t.need.p, .slice E1 t.want.length d1, .slice E2 t.tols.length d2], xb.drop 7, ba ++ bx, by omega, by go_num, by rw [List.append_assoc]; exact st, by rw [take_at HTK.out]; exact hEP.snoc hNP, ?_, ?_, hP.below hC3.size (by simp) |> hC3.trans⟩
        · rw [List.nodup_cons] at hnd ⊢
          refine ⟨fun hm => ?_, ?_⟩
          · rcases List.mem_append.1 hm with hm | hm
            · exact hnd.1 hm
            · have := hlox _ hm; omega
          · rw [List.nodup_append]
            exact ⟨hnd.2, hndx, fun a ha b hb e => by have := elems_lt (fun _ _ _ h => h.lt) HEL.out a ha; have := hlox b hb; omega⟩
        · intro b hb
          rcases List.mem_append.1 hb with hb | hb
          · exact hlo b hb
          · have := hlox b hb; omega
      case measure => simp [intOf]; omega
    · have hkl : k = l.length := by omega
      have HF := Lib.hid (And.intro hown (And.intro hel (And.intro hnd hlo)))
      have HKL := Lib.hid hkl
      clear hkl hown hel hnd hlo
      go_wp2_with fail
      go_ret
      obtain ⟨hown, hel, hnd, hlo⟩ := HF.out
      have hkl := HKL.out
      subst hkl
      rw [List.take_length] at hel
      have hxl := hel.len (fun _ _ _ h => h.len)
      have h1 := hown.1
      rw [List.length_append, hxl] at h1
      obtain rfl : xb = [] := List.eq_nil_of_length_eq_zero (by omega)
      rw [List.append_nil] at hown
      exact ⟨w.heap.size :: ba, rfl, ⟨xa, ba, hown, hel, by simp [blk, Value.ownBlock]⟩, hnd, fun b hb => by
        rcases List.mem_cons.1 hb with rfl | hb
        · exact Nat.le_refl _
        · have := hlo b hb; omega, hB⟩
set_option maxHeartbeats 3200000 in
theorem toNodeS_o (v : Value) (l : List NV) (w : World) (hv : NodeSl w v l) (hlen : l.length ≤ 1048576) :
    Calls Tryz.prog 128 #[v] w fun e w' => ∃ bs, e = .returned (.slice (some ⟨w.heap.size, 0, none⟩) l.length l.length) ∧ RowO NodeO 78 8 w' (.slice (some ⟨w.heap.size, 0, none⟩) l.length l.length) l bs ∧ bs.Nodup ∧ (∀ b ∈ bs, w.heap.size ≤ b) ∧ Below w.heap.size w w' := by
  obtain ⟨A, c, rfl, hA⟩ := hv.form
  have HA := Lib.hid hA
  clear hA hv
  have hmk := make_node l.length hlen
  go_enter Tryz.func128, Tryz.ntmps128
  go_wp2_with fail
  go_loopw [4] (fun s4 wr => ∃ (k : Nat) (xa xb : List Value) (ba : List Nat), k ≤ l.length ∧ s4 = .int .i64 k ∧ wr.ownsRow 0 78 8 (.slice (some ⟨w.heap.size, 0, none⟩) l.length l.length) l.length (xa ++ xb) ∧ Elems NodeO wr (l.take k) xa ba ∧ (w.heap.size :: ba).Nodup ∧ (∀ b ∈ ba, w.heap.size < b) ∧ Below w.heap.size w wr) (fun s4 _ => (l.length - intOf s4).toNat)
  case atStart =>
    refine ⟨0, [], (madeCells #[.int .i64 0, .int .i64 0, .int .i64 0, .int .i64 0, .int .i64 0, .slice none 0 0, .slice none 0 0, .bool false] (l.length * 8)).toList, [], by omega, rfl, ⟨by simp [size_madeCells], .inr ⟨w.heap.size, l.length, _, rfl, Nat.zero_le _, BlockIs.new w _ _, Nat.le_refl _, by simp only [maxLen]; omega, size_madeCells _ _, ?_⟩⟩, ⟨rfl, rfl⟩, by simp, by simp, (by repeat' (first | exact Below.refl _ _ | refine Below.alloc ?_ ?_ _ | refine Below.setCell ?_ ?_ _ | refine Below.drew ?_ | (apply below_step; assumption) | (simp; done) | (simp; omega) | omega))⟩
    rw [List.nil_append, List.take_of_length_le]
    simp [size_madeCells]
  case round =>
    obtain ⟨k, xa, xb, ba, hk, rfl, hown, hel, hnd, hlo, hB⟩ := hrel
    have hzr := hB.size
    by_cases hlt : k < l.length
    · obtain ⟨b, off, rfl, hbw, hat⟩ := HA.out (by omega)
      obtain ⟨t, ht⟩ : ∃ t, l[k]? = some t := ⟨_, List.getElem?_eq_getElem hlt⟩
      obtain ⟨cs, hR, hC⟩ := (hat.below NodeR.kept hB hbw) k t ht
      have HTK := Lib.hid ht
      have HR := Lib.hid (toNode_ro t cs wr hR)
      obtain ⟨v1, v2, rfl, sl, si, m1, m2⟩ := hR; obtain ⟨A1, c1, rfl, _⟩ := sl.form; obtain ⟨A2, c2, rfl, _⟩ := si.form
      clear sl si m1 m2
      obtain ⟨q0, q1, q2, q3, q4, q5, q6, q7⟩ := node_cells hC
      have HO := Lib.hid hown
      have HEL := Lib.hid hel
      have HND := Lib.hid (And.intro hnd hlo)
      have hgl := own_lt hown w.heap.size (by simp [blk, Value.ownBlock])
      clear hat hC ht hown hel hnd hlo
      go_wp2_with fail
      refine HR.out.mono ?_
      rintro e w3 ⟨ds, bx, rfl, hN, hndx, hlox, hb3⟩
      have hz3 := hb3.size
      have hC3 := below_of hB hb3
      have hO3 := own_agree HO.out (Agree.of_below hb3 (own_lt HO.out))
      have hk8 : k * 8 + 8 ≤ l.length * 8 := by
        have := Nat.mul_le_mul_right 8 (show k + 1 ≤ l.length from hlt)
        rw [Nat.add_mul, Nat.one_mul] at this; exact this
      obtain ⟨y0, x0⟩ := own_some hO3 (j := k * 8 + 0) (by omega); obtain ⟨y1, x1⟩ := own_some hO3 (j := k * 8 + 1) (by omega); obtain ⟨y2, x2⟩ := own_some hO3 (j := k * 8 + 2) (by omega); obtain ⟨y3, x3⟩ := own_some hO3 (j := k * 8 + 3) (by omega); obtain ⟨y4, x4⟩ := own_some hO3 (j := k * 8 + 4) (by omega); obtain ⟨y5, x5⟩ := own_some hO3 (j := k * 8 + 5) (by omega); obtain ⟨y6, x6⟩ := own_some hO3 (j := k * 8 + 6) (by omega); obtain ⟨y7, x7⟩ := own_some hO3 (j := k * 8 + 7) (by omega)
      rw [Nat.add_zero] at x0
      have uf := own_frozen hO3 (by omega)
      have HO3 := Lib.hid hO3
      have HN := Lib.hid (And.intro hN (And.intro hndx hlox))
      obtain ⟨v3, v4, rfl, n1, n2, -, -, -⟩ := hN
      obtain ⟨E1, d1, rfl, -⟩ := own_form n1
      obtain ⟨E2, d2, rfl, -⟩ := own_form n2
      clear hndx hlox hO3 hk8 n1 n2
      go_wp2_with fail
      go_roundw
      case rel =>
        obtain ⟨hN, hndx, hlox⟩ := HN.out
        obtain ⟨hnd, hlo⟩ := HND.out
        have hxl : xa.length = k * 8 := by rw [HEL.out.len (fun _ _ _ h => h.len), List.length_take, Nat.min_eq_left hk]
        have hlx : (xa ++ xb).length = l.length * 8 := HO3.out.1
        rw [List.length_append, hxl] at hlx
        have hx0 : (xb.take 8).length = 8 := by
          rw [List.length_take]
          have := Nat.mul_le_mul_right 8 (show k + 1 ≤ l.length from hlt)
          rw [Nat.add_mul, Nat.one_mul] at this
          omega
        have h3 := HO3.out
        rw [← List.take_append_drop 8 xb] at h3
        have st := own_put (v := .slice (some ⟨w.heap.size, 0, none⟩) l.length l.length) (g := w.heap.size) (ds := [.int .i64 t.id, .int .i64 t.pool, .int .i64 t.cap.c, .int .i64 t.cap.m, .int .i64 t.cap.p, .slice E1 t.labs.length d1, .slice E2 t.taints.length d2, .bool t.cordon]) h3 (by rw [hx0]; rfl) rfl
        rw [hxl] at st
        have hEA := HEL.out.agree NodeO.framed (Agree.of_below hb3 (elems_lt (fun _ _ _ h => h.lt) HEL.out))
        have hP : TurnB [w.heap.size] w3 (putAll w3 w.heap.size (k * 8) [.int .i64 t.id, .int .i64 t.pool, .int .i64 t.cap.c, .int .i64 t.cap.m, .int .i64 t.cap.p, .slice E1 t.labs.length d1, .slice E2 t.taints.length d2, .bool t.cordon]) := (TurnB.refl _ _).putAll (List.mem_singleton.2 rfl) _ _
        have hEP := hEA.agree NodeO.framed (hP.agree (fun b hb => ⟨elems_lt (fun _ _ _ h => h.lt) hEA b hb, by have := hlo b hb; simp; omega⟩))
        have hNP := NodeO.framed _ _ _ _ _ hN (hP.agree (fun b hb => ⟨hN.lt b hb, by have := hlox b hb; simp; omega⟩))
        refine ⟨k + 1, xa ++ [.int .i64 t.id, .int .i64 t.pool, .int .i64 t.cap.c, .int .i64 t.cap.m, .int .i64 t.cap.p, .slice E1 t.labs.length d1, .slice E2 t.taints.length d2, .bool t.cordon], xb.drop 8, ba ++ bx, by omega, by go_num, by rw [List.append_assoc]; exact st, by rw [take_at HTK.out]; exact hEP.snoc hNP, ?_, ?_, hP.below hC3.size (by simp) |> hC3.trans⟩
        · rw [List.nodup_cons] at hnd ⊢
          refine ⟨fun hm => ?_, ?_⟩
          · rcases List.mem_append.1 hm with hm | hm
            · exact hnd.1 hm
            · have := hlox _ hm; omega
          · rw [List.nodup_append]
            exact ⟨hnd.2, hndx, fun a ha b hb e => by have := elems_lt (fun _ _ _ h => h.lt) HEL.out a ha; have := hlox b hb; omega⟩
        · intro b hb
          rcases List.mem_append.1 hb with hb | hb
          · exact hlo b hb
          · have := hlox b hb; omega
      case measure => simp [intOf]; omega
    · have hkl : k = l.length := by omega
      have HF := Lib.hid (And.intro hown (And.intro hel (And.intro hnd hlo)))
      have HKL := Lib.hid hkl
      clear hkl hown hel hnd hlo
      go_wp2_with fail
      go_ret
      obtain ⟨hown, hel, hnd, hlo⟩ := HF.out
      have hkl := HKL.out
      subst hkl
      rw [List.take_length] at hel
      have hxl := hel.len (fun _ _ _ h => h.len)
      have h1 := hown.1
      rw [List.length_append, hxl] at h1
      obtain rfl : xb = [] := List.eq_nil_of_length_eq_zero (by omega)
      rw [List.append_nil] at hown
      exact ⟨w.heap.size :: ba, rfl, ⟨xa, ba, hown, hel, by simp [blk, Value.ownBlock]⟩, hnd, fun b hb => by
        rcases List.mem_cons.1 hb with rfl | hb
        · exact Nat.le_refl _
        · have := hlo b hb; omega, hB⟩
set_option maxHeartbeats 3200000 in
theorem toBindS_o (v : Value) (l : List BV) (w : World) (hv : BindSl w v l) (hlen : l.length ≤ 1048576) :
    Calls Tryz.prog 129 #[v] w fun e w' => ∃ bs, e = .returned (.slice (some ⟨w.heap.size, 0, none⟩) l.length l.length) ∧ RowO BindO 157 2 w' (.slice (some ⟨w.heap.size, 0, none⟩) l.length l.length) l bs ∧ bs.Nodup ∧ (∀ b ∈ bs, w.heap.size ≤ b) ∧ Below w.heap.size w w' := by
  obtain ⟨A, c, rfl, hA⟩ := hv.form
  have HA := Lib.hid hA
  clear hA hv
  have hmk := make_bind l.length hlen
  go_enter Tryz.func129, Tryz.ntmps129
  go_wp2_with fail
  go_loopw [4] (fun s4 wr => ∃ (k : Nat) (xa xb : List Value) (ba : List Nat), k ≤ l.length ∧ s4 = .int .i64 k ∧ wr.ownsRow 0 157 2 (.slice (some ⟨w.heap.size, 0, none⟩) l.length l.length) l.length (xa ++ xb) ∧ Elems BindO wr (l.take k) xa ba ∧ (w.heap.size :: ba).Nodup ∧ (∀ b ∈ ba, w.heap.size < b) ∧ Below w.heap.size w wr) (fun s4 _ => (l.length - intOf s4).toNat)
  case atStart =>
    refine ⟨0, [], (madeCells #[.int .i64 0, .int .i64 0] (l.length * 2)).toList, [], by omega, rfl, ⟨by simp [size_madeCells], .inr ⟨w.heap.size, l.length, _, rfl, Nat.zero_le _, BlockIs.new w _ _, Nat.le_refl _, by simp only [maxLen]; omega, size_madeCells _ _, ?_⟩⟩, ⟨rfl, rfl⟩, by simp, by simp, (by repeat' (first | exact Below.refl _ _ | refine Below.alloc ?_ ?_ _ | refine Below.setCell ?_ ?_ _ | refine Below.drew ?_ | (apply below_step; assumption) | (simp; done) | (simp; omega) | omega))⟩
    rw [List.nil_append, List.take_of_length_le]
    simp [size_madeCells]
  case round =>
    obtain ⟨k, xa, xb, ba, hk, rfl, hown, hel, hnd, hlo, hB⟩ := hrel
    have hzr := hB.size
    by_cases hlt : k < l.length
    · obtain ⟨b, off, rfl, hbw, hat⟩ := HA.out (by omega)
      obtain ⟨t, ht⟩ : ∃ t, l[k]? = some t := ⟨_, List.getElem?_eq_getElem hlt⟩
      obtain ⟨cs, hR, hC⟩ := (hat.below BindR.kept hB hbw) k t ht
      have HTK := Lib.hid ht
      have HR := Lib.hid (toBind_ro t cs wr hR)
      obtain rfl := hR
      skip
      obtain ⟨q0, q1⟩ := bind_cells hC
      have HO := Lib.hid hown
      have HEL := Lib.hid hel
      have HND := Lib.hid (And.intro hnd hlo)
      have hgl := own_lt hown w.heap.size (by simp [blk, Value.ownBlock])
      clear hat hC ht hown hel hnd hlo
      go_wp2_with fail
      refine HR.out.mono ?_
      rintro e w3 ⟨ds, bx, rfl, hN, hndx, hlox, hb3⟩
      have hz3 := hb3.size
      have hC3 := below_of hB hb3
      have hO3 := own_agree HO.out (Agree.of_below hb3 (own_lt HO.out))
      have hk2 : k * 2 + 2 ≤ l.length * 2 := by
        have := Nat.mul_le_mul_right 2 (show k + 1 ≤ l.length from hlt)
        rw [Nat.add_mul, Nat.one_mul] at this; exact this
      obtain ⟨y0, x0⟩ := own_some hO3 (j := k * 2 + 0) (by omega); obtain ⟨y1, x1⟩ := own_some hO3 (j := k * 2 + 1) (by omega)
      rw [Nat.add_zero] at x0
      have uf := own_frozen hO3 (by omega)
      have HO3 := Lib.hid hO3
      have HN := Lib.hid (And.intro hN (And.intro hndx hlox))
      obtain ⟨rfl, -⟩ := hN
      
      
      clear hndx hlox hO3 hk2 
      go_wp2_with fail
      go_roundw
      case rel =>
        obtain ⟨hN, hndx, hlox⟩ := HN.out
        obtain ⟨hnd, hlo⟩ := HND.out
        have hxl : xa.length = k * 2 := by rw [HEL.out.len (fun _ _ _ h => h.len), List.length_take, Nat.min_eq_left hk]
        have hlx : (xa ++ xb).length = l.length * 2 := HO3.out.1
        rw [List.length_append, hxl] at hlx
        have hx0 : (xb.take 2).length = 2 := by
          rw [List.length_take]
          have := Nat.mul_le_mul_right 2 (show k + 1 ≤ l.length from hlt)
          rw [Nat.add_mul, Nat.one_mul] at this
          omega
        have h3 := HO3.out
        rw [← List.take_append_drop 2 xb] at h3
        have st := own_put (v := .slice (some ⟨w.heap.size, 0, none⟩) l.length l.length) (g := w.heap.size) (ds := [.int .i64 t.task, .int .i64 t.node]) h3 (by rw [hx0]; rfl) rfl
        rw [hxl] at st
        have hEA := HEL.out.agree BindO.framed (Agree.of_below hb3 (elems_lt (fun _ _ _ h => h.lt) HEL.out))
        have hP : TurnB [w.heap.size] w3 (putAll w3 w.heap.size (k * 2) [.int .i64 t.task, .int .i64 t.node]) := (TurnB.refl _ _).putAll (List.mem_singleton.2 rfl) _ _
        have hEP := hEA.agree BindO.framed (hP.agree (fun b hb => ⟨elems_lt (fun _ _ _ h => h.lt) hEA b hb, by have := hlo b hb; simp; omega⟩))
        have hNP := BindO.framed _ _ _ _ _ hN (hP.agree (fun b hb => ⟨hN.lt b hb, by have := hlox b hb; simp; omega⟩))
        refine ⟨k + 1, xa ++ [.int .i64 t.task, .int .i64 t.node], xb.drop 2, ba ++ bx, by omega, by go_num, by rw [List.append_assoc]; exact st, by rw [take_at HTK.out]; exact hEP.snoc hNP, ?_, ?_, hP.below hC3.size (by simp) |> hC3.trans⟩
        · rw [List.nodup_cons] at hnd ⊢
          refine ⟨fun hm => ?_, ?_⟩
          · rcases List.mem_append.1 hm with hm | hm
            · exact hnd.1 hm
            · have := hlox _ hm; omega
          · rw [List.nodup_append]
            exact ⟨hnd.2, hndx, fun a ha b hb e => by have := elems_lt (fun _ _ _ h => h.lt) HEL.out a ha; have := hlox b hb; omega⟩
        · intro b hb
          rcases List.mem_append.1 hb with hb | hb
          · exact hlo b hb
          · have := hlox b hb; omega
      case measure => simp [intOf]; omega
    · have hkl : k = l.length := by omega
      have HF := Lib.hid (And.intro hown (And.intro hel (And.intro hnd hlo)))
      have HKL := Lib.hid hkl
      clear hkl hown hel hnd hlo
      go_wp2_with fail
      go_ret
      obtain ⟨hown, hel, hnd, hlo⟩ := HF.out
      have hkl := HKL.out
      subst hkl
      rw [List.take_length] at hel
      have hxl := hel.len (fun _ _ _ h => h.len)
      have h1 := hown.1
      rw [List.length_append, hxl] at h1
      obtain rfl : xb = [] := List.eq_nil_of_length_eq_zero (by omega)
      rw [List.append_nil] at hown
      exact ⟨w.heap.size :: ba, rfl, ⟨xa, ba, hown, hel, by simp [blk, Value.ownBlock]⟩, hnd, fun b hb => by
        rcases List.mem_cons.1 hb with rfl | hb
        · exact Nat.le_refl _
        · have := hlo b hb; omega, hB⟩
end Go.Proofs.YtcegofdmdemcbaaGreatDoor

namespace Go.Proofs.YtcegofdmdemcbaaGreatDoor
open Go.ChangeShapes Go.WideShapes Go.ChangeAt Go.RowKit

section
variable {H : Type} {enc : TypeId × Value → H} {P : Program}

theorem trodAll_below (hl : laidOutB P = true) {W W' : World} (hb : Below W.heap.size W W') :
    ∀ {ts : List TypeId} {vs : List Value} {ds : List (DataW H)} {ps : List MemPlace}, (∀ t ∈ ts, P.readableRec t = true ∧ t < P.types.size) →
      DataW.TrodAll enc P W 0 (fun _ => true) true ts vs ds ps → (∀ x ∈ ps, x.block < W.heap.size) → DataW.TrodAll enc P W' 0 (fun b => decide (b < W.heap.size)) true ts vs ds ps
  | [], [], [], _, _, h, _ => h
  | _ :: _, _ :: _, _ :: _, _, hts, ⟨p, q, h1, h2, e⟩, hlt => by
    subst e
    refine ⟨p, q, h1.elim fun fuel hf => ?_, trodAll_below hl hb (fun t ht => hts t (List.mem_cons.2 (Or.inr ht))) h2 (fun x hx => hlt x (List.mem_append_right _ hx)), rfl⟩
    exact Below.trod hl (hts _ (List.mem_cons.2 (Or.inl rfl))).1 (hts _ (List.mem_cons.2 (Or.inl rfl))).2 ⟨fuel, hf⟩ hb (fun x hx => hlt x (List.mem_append_left _ hx))

theorem trodVars_below {W W' : World} (hb : Below W.heap.size W W') :
    ∀ {ns : List String} {gs : List (DataW H)} {ps : List MemPlace}, (∀ n ∈ ns, ∃ g t ms, P.globalNamed n = some g ∧ (P.globals[g]?).map (·.type) = some t ∧ P.underlying t = some (.interface ms)) →
      DataW.TrodVars enc P W (fun _ => true) ns gs ps → ∃ ps', DataW.TrodVars enc P W' (fun b => decide (b < W.heap.size)) ns gs ps'
  | [], [], _, _, _ => ⟨[], rfl⟩
  | n :: ns, _ :: _, _, hns, ⟨g, t, cs, fuel, p, q, h1, h2, h3, h4, h5, _⟩ => by
    obtain ⟨q', hq⟩ := trodVars_below hb (fun m hm => hns m (List.mem_cons.2 (Or.inr hm))) h5
    obtain ⟨g', t', ms, e1, e2, e3⟩ := hns n (List.mem_cons.2 (Or.inl rfl))
    obtain rfl := Option.some.inj (h1.symm.trans e1)
    obtain rfl := Option.some.inj (h2.symm.trans e2)
    obtain ⟨x, rfl, ix, rfl, rfl, hc⟩ := token_of h1 e3 h3 h4
    have hg : g < W.heap.size := by
      rcases Nat.lt_or_ge g W.heap.size with h' | h'
      · exact h'
      · simp [World.cell?, Array.getElem?_eq_none h'] at hc
    exact ⟨_, g, t, #[x], 1, [], q', h1, h2, var?_below hb h1 hg h3, trod_held e3 ix 0, hq, rfl⟩

theorem law_post {f : Func} {s : ChangeSpec} {apart fresh handsOn : Bool} {W W' : World} {args : Array Value} {ds gs : List (DataW H)} {before : List MemPlace} {tb : TypeId}
    (hl : laidOutB P = true) (hts : ∀ t ∈ f.params.toList, P.readableRec t = true ∧ t < P.types.size)
    (hns : ∀ n ∈ s.vars, ∃ g t ms, P.globalNamed n = some g ∧ (P.globals[g]?).map (·.type) = some t ∧ P.underlying t = some (.interface ms))
    (hr : f.resultTypes = #[tb]) (hu : P.underlying tb = some .bool)
    (hW : DataW.Whole enc P f.params.toList s.vars apart W args.toList ds gs before)
    (hfn : s.fn H (ds ++ gs) = { results := [.lit (.bool true)], args := ds, vars := gs })
    (hb : Below W.heap.size W W') : s.post enc P f apart fresh handsOn false W args (.bool true) W' := by
  have hlt := hW.lt
  obtain ⟨p, q, hA, hV, rfl, hfz, hnd⟩ := id hW
  obtain ⟨q', hV'⟩ := trodVars_below hb hns hV
  have hA' := trodAll_below hl hb hts hA (fun x hx => hlt x (List.mem_append_left _ hx))
  refine ⟨ds, gs, p ++ q, [], p, q', hW, ?_, ?_, ?_, hb.frame _, fun h => by cases h⟩
  · rw [hfn, hr]; exact trodAll_mk1 (shut_bool hu true)
  · rw [hfn]; exact hA'
  · rw [hfn]; exact hV'
end
end Go.Proofs.YtcegofdmdemcbaaGreatDoor

namespace Go.Proofs.YtcegofdmdemcbaaGreatDoor
open Go.ChangeShapes Go.WideShapes Go.ChangeAt Go.RowKit Go.Joins

theorem Tryz.own : ownKnob Tryz.prog.godebug = none := by kernel_rfl
theorem Tryz.laidOut : laidOutB Tryz.prog = true := by kernel_rfl
open Go.ChangeShapes Go.WideShapes Go.ChangeAt Go.RowKit Go.Joins
theorem joined_mk {P : Program} {f : FuncId} {fn : Func} {s : ChangeSpec} {c : OpenClaim} (h0 : (c.wf (OpenSpec.ofChange s)) = true) (h1 : (laidOutB P) = true) (h2 : (mapsRowed P) = true) (h3 : (fn.params.all (P.readableRec ·)) = true) (h4 : (namedTie P c.named s.vars) = true) (h5 : ((c.stops == [])) = true) (h6 : ((P.stops == [])) = true) (h7 : ((c.knobs == [])) = true) (h8 : ((P.stopKnobs == [])) = true) (h9 : ((c.inPlace == P.inPlace f)) = true) (h10 : ((c.unfollowed == P.unfollowed f)) = true) (h11 : ((c.recurses == P.recurses f)) = true) (h12 : ((c.named == P.varsNamed f)) = true) (h13 : ((c.maps == (fn.params.toList ++ s.plain.varTypes P).any (P.mapsRec ·))) = true) (h14 : ((c.ifaces == (fn.params.toList ++ s.plain.varTypes P).any (P.ifacesRec ·))) = true) (h15 : ((c.mapsOut == P.mapsAmong fn.resultTypes.toList)) = true) (h16 : ((c.loops == (fn.params.toList ++ s.plain.varTypes P).any (P.loopsFrom ·))) = true) (h17 : ((c.wideKeys == (fn.params.toList ++ s.plain.varTypes P ++ fn.resultTypes.toList).any (P.wideKeysFrom ·))) = true) (h18 : (s.vars.all (P.varReadable ·)) = true) (h19 : (fn.resultTypes.all (fun t => P.readableRec t && decide (t < P.types.size))) = true) (h20 : ((c.ifacesOut == fn.resultTypes.toList.any (P.ifacesRec ·))) = true) (h21 : ((c.loopsOut == fn.resultTypes.toList.any (P.loopsFrom ·))) = true) (h22 : ((c.plainKeys == P.plainKeys)) = true) (h23 : (c.shortTexts.isNone) = true) (h24 : (P.stopsHeard) = true) (h25 : (P.mayEnter) = true) (h26 : ((c.lifted == P.liftsFinal)) = true) (h27 : ((P.make == some c.make)) = true) (h28 : ((c.kinds == (if c.domain.isEmpty then [] else fn.params.toList.map fun t => match P.underlying t with | some (.int k) => some k | _ => none))) = true) (h29 : ((c.pinned == c.pinnedBy)) = true) (h30 : ((c.veiled == (fn.params.toList ++ s.plain.varTypes P ++ fn.resultTypes.toList).any (P.veiledRec ·))) = true) (h31 : (c.veiledFits P fn.params.toList (fn.params.toList ++ s.plain.varTypes P ++ fn.resultTypes.toList)) = true) : joinedFacts P f fn s c = true := by
  simp only [joinedFacts, Bool.and_eq_true]
  exact ⟨⟨⟨⟨⟨⟨⟨⟨⟨⟨⟨⟨⟨⟨⟨⟨⟨⟨⟨⟨⟨⟨⟨⟨⟨⟨⟨⟨⟨⟨⟨h0, h1⟩, h2⟩, h3⟩, h4⟩, h5⟩, h6⟩, h7⟩, h8⟩, h9⟩, h10⟩, h11⟩, h12⟩, h13⟩, h14⟩, h15⟩, h16⟩, h17⟩, h18⟩, h19⟩, h20⟩, h21⟩, h22⟩, h23⟩, h24⟩, h25⟩, h26⟩, h27⟩, h28⟩, h29⟩, h30⟩, h31⟩
theorem pRowed : mapsRowed Tryz.prog = true := by kernel_rfl
theorem pStops : (Tryz.prog.stops == []) = true := by kernel_rfl
theorem pKnobs : (Tryz.prog.stopKnobs == []) = true := by kernel_rfl
theorem pKeys : (Rows.fnExactWorldNewRow.plainKeys == Tryz.prog.plainKeys) = true := by kernel_rfl
theorem pHeard : Tryz.prog.stopsHeard = true := by kernel_rfl
theorem pEnter : Tryz.prog.mayEnter = true := by kernel_rfl
theorem pLifts : (Rows.fnExactWorldNewRow.lifted == Tryz.prog.liftsFinal) = true := by kernel_rfl
theorem pMake : (Tryz.prog.make == some Rows.fnExactWorldNewRow.make) = true := by kernel_rfl
end Go.Proofs.YtcegofdmdemcbaaGreatDoor

namespace Go.Proofs.YtcegofdmdemcbaaGreatDoor
open Go.ChangeShapes Go.WideShapes Go.ChangeAt Go.RowKit Go.Joins

theorem Tryz.cellsLab : Tryz.prog.cellsOf 215 = 2 := by kernel_rfl

section
variable {H : Type} {enc : TypeId × Value → H} {W : World}
set_option maxRecDepth 100000 in
theorem open_labC {fuel : Nat} {v : Value} {x : DataW H × List MemPlace} (h : DataW.trod enc Tryz.prog W 0 (fun _ => true) true fuel 69 [v] = some x) :
    ∃ A n c, v = .slice A n c ∧ n ≤ maxLen ∧ ∃ l : List LV, l.length = n ∧ LabSl W v l := by
  rcases Go.Deep.open_slice Tryz.underlying69 h with ⟨hcs, _⟩ | ⟨a, n, cap, m, n', D, Pl, hcs, hb, hl, hm, hmm, hx, hi⟩
  · simp at hcs
    subst hcs
    exact ⟨none, 0, 0, rfl, by unfold maxLen; omega, [], rfl, .inl ⟨rfl, _, _, rfl⟩⟩
  · simp at hcs
    subst hcs
    rw [if_pos rfl] at hmm
    subst hmm
    have hel : ∀ i, i < n → ∃ r : LV, W.cell? (a.add (i * 2)) = some (.int .i64 r.k) ∧ W.cell? (a.add (i * 2 + 1)) = some (.int .i64 r.v) := by
      intro i hin
      obtain ⟨cs', hc, ht⟩ := hi i (by omega)
      rw [Tryz.cellsLab] at hc
      obtain ⟨y0, y1, k, _, hlen, g0, g1⟩ := trod_struct2 Tryz.underlying215 ht
      rw [Tryz.cellsLab] at hlen
      obtain ⟨_, _, hat⟩ := World.cells?_some hc
      match cs', hlen with
      | [c0, c1], _ =>
        obtain ⟨r0, e0, _, _⟩ := DataW.trod_int Tryz.underlying3 g0
        obtain ⟨r1, e1, _, _⟩ := DataW.trod_int Tryz.underlying3 g1
        have k3 : Tryz.prog.cellsOf 3 = 1 := by kernel_rfl
        simp [k3] at e0 e1
        subst e0 e1
        have a0 := hat 0 (by omega)
        have a1 := hat 1 (by omega)
        rw [Go.Deep.add_add] at a0 a1
        exact ⟨⟨r0, r1⟩, by simpa using a0, by simpa using a1⟩
    obtain ⟨f, hf⟩ : ∃ f : Nat → LV, ∀ i, i < n → W.cell? (a.add (i * 2)) = some (.int .i64 (f i).k) ∧ W.cell? (a.add (i * 2 + 1)) = some (.int .i64 (f i).v) := by
      classical
      refine ⟨fun i => if hi : i < n then Classical.choose (hel i hi) else ⟨0, 0⟩, fun i hi => ?_⟩
      simp only [dif_pos hi]
      exact Classical.choose_spec (hel i hi)
    refine ⟨_, n, _, rfl, by omega, (List.range n).map f, by simp, ?_⟩
    rcases Nat.eq_zero_or_pos n with rfl | hp
    · exact .inl ⟨rfl, _, _, rfl⟩
    · obtain ⟨b, off, spot⟩ := a
      have h0 := (hf 0 hp).1
      have hspot : spot = none := by simpa [Addr.add] using World.cell?_spot h0
      subst hspot
      have hlt := World.block_lt_of_cell? _ _ h0
      refine .inr ⟨b, off, m, by simp, by simpa [Addr.add] using hlt, fun i r hr => ?_⟩
      have hi : i < n := by
        have := (List.getElem?_eq_some_iff.1 hr).1
        simpa using this
      have hri : f i = r := by simpa [hi] using hr
      obtain ⟨h1, h2⟩ := hf i hi
      rw [hri] at h1 h2
      rw [add_plain] at h1 h2
      exact ⟨h1, h2⟩
end
end Go.Proofs.YtcegofdmdemcbaaGreatDoor

namespace Go.Proofs.YtcegofdmdemcbaaGreatDoor
open Go.ChangeShapes Go.WideShapes Go.ChangeAt Go.RowKit Go.Joins

section
variable {H : Type} {enc : TypeId × Value → H} {W : World}
set_option maxRecDepth 100000 in
theorem open_intC {fuel : Nat} {v : Value} {x : DataW H × List MemPlace} (hf : DataW.trod enc Tryz.prog W 0 (fun _ => true) true fuel 26 [v] = some x) :
    ∃ A n c, v = .slice A n c ∧ n ≤ maxLen ∧ ∃ l : List Int, l.length = n ∧ IntSl W v l := by
  have cb : Tryz.prog.cellsOf 3 = 1 := by kernel_rfl
  rcases open_ints Tryz.underlying26 Tryz.underlying3 cb hf with ⟨hcs, hx⟩ | ⟨a, n, c, zs, hcs, _, hl, hm, hz, hx, hcell, hwz⟩
  · simp at hcs
    subst hcs
    exact ⟨none, 0, 0, rfl, by unfold maxLen; omega, [], rfl, .inl ⟨rfl, _, _, rfl⟩⟩
  · simp at hcs
    subst hcs
    rw [if_pos rfl] at hz
    refine ⟨_, n, c, rfl, by omega, zs.take n, by rw [List.length_take]; omega, ?_⟩
    rcases Nat.eq_zero_or_pos n with rfl | hp
    · exact .inl ⟨by simp, _, _, rfl⟩
    · obtain ⟨b, off, rfl, hc⟩ := ints_at hcell (by omega)
      refine .inr ⟨b, off, c, by rw [List.length_take, Nat.min_eq_left (by omega)], by simpa using World.block_lt_of_cell? _ _ (hc 0 (by omega)), fun i r hr => ?_⟩
      have hi : i < n := by
        have := (List.getElem?_eq_some_iff.1 hr).1
        rw [List.length_take] at this; omega
      rw [List.getElem?_take_of_lt hi] at hr
      have := hc i (by omega)
      rw [List.getD, hr] at this
      simpa using this
end
end Go.Proofs.YtcegofdmdemcbaaGreatDoor

namespace Go.Proofs.YtcegofdmdemcbaaGreatDoor
open Go.ChangeShapes Go.WideShapes Go.ChangeAt Go.RowKit Go.Joins

section
variable {H : Type} {enc : TypeId × Value → H} {W : World} {P : Program} {base : Nat} {spare : Nat → Bool} {held : Bool}
theorem trod_struct5 {t : TypeId} {f0 f1 f2 f3 f4 : Field} {fuel : Nat} {cs : List Value} {x : DataW H × List MemPlace} (ht : P.underlying t = some (.struct #[f0, f1, f2, f3, f4])) (h : DataW.trod enc P W base spare held fuel t cs = some x) :
    ∃ y0 y1 y2 y3 y4 n, cs.length = P.cellsOf t ∧ DataW.trod enc P W base spare held n f0.type ((cs.drop f0.offset).take (P.cellsOf f0.type)) = some y0 ∧
      DataW.trod enc P W base spare held n f1.type ((cs.drop f1.offset).take (P.cellsOf f1.type)) = some y1 ∧ DataW.trod enc P W base spare held n f2.type ((cs.drop f2.offset).take (P.cellsOf f2.type)) = some y2 ∧
      DataW.trod enc P W base spare held n f3.type ((cs.drop f3.offset).take (P.cellsOf f3.type)) = some y3 ∧ DataW.trod enc P W base spare held n f4.type ((cs.drop f4.offset).take (P.cellsOf f4.type)) = some y4 := by
  obtain ⟨xs, n, _, rfl, hl, hlen, hf⟩ := DataW.trod_struct ht h
  match xs, hlen with
  | [y0, y1, y2, y3, y4], _ => exact ⟨y0, y1, y2, y3, y4, n, hl, by simpa using hf 0 f0 rfl, by simpa using hf 1 f1 rfl, by simpa using hf 2 f2 rfl, by simpa using hf 3 f3 rfl, by simpa using hf 4 f4 rfl⟩
theorem trod_struct6 {t : TypeId} {f0 f1 f2 f3 f4 f5 : Field} {fuel : Nat} {cs : List Value} {x : DataW H × List MemPlace} (ht : P.underlying t = some (.struct #[f0, f1, f2, f3, f4, f5])) (h : DataW.trod enc P W base spare held fuel t cs = some x) :
    ∃ y0 y1 y2 y3 y4 y5 n, cs.length = P.cellsOf t ∧ DataW.trod enc P W base spare held n f0.type ((cs.drop f0.offset).take (P.cellsOf f0.type)) = some y0 ∧
      DataW.trod enc P W base spare held n f1.type ((cs.drop f1.offset).take (P.cellsOf f1.type)) = some y1 ∧ DataW.trod enc P W base spare held n f2.type ((cs.drop f2.offset).take (P.cellsOf f2.type)) = some y2 ∧
      DataW.trod enc P W base spare held n f3.type ((cs.drop f3.offset).take (P.cellsOf f3.type)) = some y3 ∧ DataW.trod enc P W base spare held n f4.type ((cs.drop f4.offset).take (P.cellsOf f4.type)) = some y4 ∧
      DataW.trod enc P W base spare held n f5.type ((cs.drop f5.offset).take (P.cellsOf f5.type)) = some y5 := by
  obtain ⟨xs, n, _, rfl, hl, hlen, hf⟩ := DataW.trod_struct ht h
  match xs, hlen with
  | [y0, y1, y2, y3, y4, y5], _ => exact ⟨y0, y1, y2, y3, y4, y5, n, hl, by simpa using hf 0 f0 rfl, by simpa using hf 1 f1 rfl, by simpa using hf 2 f2 rfl, by simpa using hf 3 f3 rfl, by simpa using hf 4 f4 rfl, by simpa using hf 5 f5 rfl⟩
theorem list7 {α : Type} {l : List α} (h : l.length = 7) : ∃ a b c d e f g, l = [a, b, c, d, e, f, g] := by
  match l, h with
  | [a, b, c, d, e, f, g], _ => exact ⟨a, b, c, d, e, f, g, rfl⟩
theorem list8 {α : Type} {l : List α} (h : l.length = 8) : ∃ a b c d e f g i, l = [a, b, c, d, e, f, g, i] := by
  match l, h with
  | [a, b, c, d, e, f, g, i], _ => exact ⟨a, b, c, d, e, f, g, i, rfl⟩
end

section
variable {H : Type} {enc : TypeId × Value → H} {W : World}
theorem Tryz.c_int : Tryz.prog.cellsOf 3 = 1 := by kernel_rfl
theorem Tryz.c_res : Tryz.prog.cellsOf 68 = 3 := by kernel_rfl
theorem Tryz.c_labs : Tryz.prog.cellsOf 69 = 1 := by kernel_rfl
theorem Tryz.c_ints : Tryz.prog.cellsOf 26 = 1 := by kernel_rfl
theorem Tryz.c_bool : Tryz.prog.cellsOf 4 = 1 := by kernel_rfl
theorem Tryz.c_task : Tryz.prog.cellsOf 195 = 7 := by kernel_rfl
theorem Tryz.c_node : Tryz.prog.cellsOf 71 = 8 := by kernel_rfl
set_option maxRecDepth 100000 in
theorem open_taskC {fuel : Nat} {cs : List Value} {x : DataW H × List MemPlace} (h : DataW.trod enc Tryz.prog W 0 (fun _ => true) true fuel 195 cs = some x) :
    ∃ (t : TV) (v1 v2 : Value), cs = [.int .i64 t.id, .int .i64 t.prio, .int .i64 t.need.c, .int .i64 t.need.m, .int .i64 t.need.p, v1, v2] ∧ LabSl W v1 t.want ∧ IntSl W v2 t.tols ∧ t.want.length ≤ maxLen ∧ t.tols.length ≤ maxLen := by
  obtain ⟨y0, y1, y2, y3, y4, n, hl, h0, h1, h2, h3, h4⟩ := trod_struct5 Tryz.underlying195 h
  rw [Tryz.c_task] at hl
  obtain ⟨a, b, c, d, e, f, g, rfl⟩ := list7 hl
  simp only [Tryz.c_int, Tryz.c_res, Tryz.c_labs, Tryz.c_ints] at h0 h1 h2 h3 h4
  simp at h0 h1 h2 h3 h4
  obtain ⟨z0, e0, _, _⟩ := DataW.trod_int Tryz.underlying3 h0
  obtain ⟨z1, e1, _, _⟩ := DataW.trod_int Tryz.underlying3 h1
  obtain ⟨r0, r1, r2, m, _, _, g0, g1, g2⟩ := Go.Deep.trod_struct3 Tryz.underlying68 h2
  simp only [Tryz.c_int] at g0 g1 g2
  simp at g0 g1 g2
  obtain ⟨z2, e2, _, _⟩ := DataW.trod_int Tryz.underlying3 g0
  obtain ⟨z3, e3, _, _⟩ := DataW.trod_int Tryz.underlying3 g1
  obtain ⟨z4, e4, _, _⟩ := DataW.trod_int Tryz.underlying3 g2
  simp at e0 e1 e2 e3 e4
  subst e0 e1 e2 e3 e4
  obtain ⟨A1, n1, c1, _, hn1, l1, hl1, hs1⟩ := open_labC h3
  obtain ⟨A2, n2, c2, _, hn2, l2, hl2, hs2⟩ := open_intC h4
  exact ⟨⟨z0, z1, ⟨z2, z3, z4⟩, l1, l2⟩, f, g, rfl, hs1, hs2, by simp only []; omega, by simp only []; omega⟩
set_option maxRecDepth 100000 in
theorem open_nodeC {fuel : Nat} {cs : List Value} {x : DataW H × List MemPlace} (h : DataW.trod enc Tryz.prog W 0 (fun _ => true) true fuel 71 cs = some x) :
    ∃ (t : NV) (v1 v2 : Value), cs = [.int .i64 t.id, .int .i64 t.pool, .int .i64 t.cap.c, .int .i64 t.cap.m, .int .i64 t.cap.p, v1, v2, .bool t.cordon] ∧ LabSl W v1 t.labs ∧ IntSl W v2 t.taints ∧ t.labs.length ≤ maxLen ∧ t.taints.length ≤ maxLen := by
  obtain ⟨y0, y1, y2, y3, y4, y5, n, hl, h0, h1, h2, h3, h4, h5⟩ := trod_struct6 Tryz.underlying71 h
  rw [Tryz.c_node] at hl
  obtain ⟨a, b, c, d, e, f, g, i, rfl⟩ := list8 hl
  simp only [Tryz.c_int, Tryz.c_res, Tryz.c_labs, Tryz.c_ints, Tryz.c_bool] at h0 h1 h2 h3 h4 h5
  simp at h0 h1 h2 h3 h4 h5
  obtain ⟨z0, e0, _, _⟩ := DataW.trod_int Tryz.underlying3 h0
  obtain ⟨z1, e1, _, _⟩ := DataW.trod_int Tryz.underlying3 h1
  obtain ⟨r0, r1, r2, m, _, _, g0, g1, g2⟩ := Go.Deep.trod_struct3 Tryz.underlying68 h2
  simp only [Tryz.c_int] at g0 g1 g2
  simp at g0 g1 g2
  obtain ⟨z2, e2, _, _⟩ := DataW.trod_int Tryz.underlying3 g0
  obtain ⟨z3, e3, _, _⟩ := DataW.trod_int Tryz.underlying3 g1
  obtain ⟨z4, e4, _, _⟩ := DataW.trod_int Tryz.underlying3 g2
  obtain ⟨z5, e5, _⟩ := DataW.trod_bool Tryz.underlying4 h5
  simp at e0 e1 e2 e3 e4 e5
  subst e0 e1 e2 e3 e4 e5
  obtain ⟨A1, n1, c1, _, hn1, l1, hl1, hs1⟩ := open_labC h3
  obtain ⟨A2, n2, c2, _, hn2, l2, hl2, hs2⟩ := open_intC h4
  exact ⟨⟨z0, z1, ⟨z2, z3, z4⟩, l1, l2, z5⟩, f, g, rfl, hs1, hs2, by simp only []; omega, by simp only []; omega⟩
end
end Go.Proofs.YtcegofdmdemcbaaGreatDoor

namespace Go.Proofs.YtcegofdmdemcbaaGreatDoor
open Go.ChangeShapes Go.WideShapes Go.ChangeAt Go.RowKit Go.Joins

section
variable {H : Type} {enc : TypeId × Value → H} {W : World}
theorem open_gslice {α : Type} {R : World → α → List Value → Prop} {n : Nat} {T E : TypeId} (z : α) (hn : 0 < n) (hu : Tryz.prog.underlying T = some (.slice E)) (hcE : Tryz.prog.cellsOf E = n)
    (hop : ∀ (fuel : Nat) (cs : List Value) (x : DataW H × List MemPlace), DataW.trod enc Tryz.prog W 0 (fun _ => true) true fuel E cs = some x → ∃ t, R W t cs)
    {fuel : Nat} {v : Value} {x : DataW H × List MemPlace} (h : DataW.trod enc Tryz.prog W 0 (fun _ => true) true fuel T [v] = some x) : ∃ l : List α, l.length ≤ maxLen ∧ GSl R n W v l := by
  rcases Go.Deep.open_slice hu h with ⟨hcs, _⟩ | ⟨a, len, cap, m, n', D, Pl, hcs, hb, hl, hm, hmm, hx, hi⟩
  · simp at hcs
    subst hcs
    exact ⟨[], by simp, .inl ⟨rfl, _, _, rfl⟩⟩
  · simp at hcs
    subst hcs
    rw [if_pos rfl] at hmm
    subst hmm
    have hel : ∀ i, i < len → ∃ (t : α) (cs : List Value), R W t cs ∧ cs.length = n ∧ ∀ (j : Nat) (u : Value), cs[j]? = some u → W.cell? (a.add (i * n + j)) = some u := by
      intro i hin
      obtain ⟨cs', hc, ht⟩ := hi i (by omega)
      rw [hcE] at hc
      obtain ⟨t, hR⟩ := hop _ _ _ ht
      obtain ⟨_, hlen, hat⟩ := World.cells?_some hc
      refine ⟨t, cs', hR, hlen, fun j u hj => ?_⟩
      have hjn : j < n := by rw [← hlen]; exact (List.getElem?_eq_some_iff.1 hj).1
      have := hat j hjn
      rw [Go.Deep.add_add] at this
      exact this.trans hj
    obtain ⟨f, hf⟩ : ∃ f : Nat → α, ∀ i, i < len → ∃ cs : List Value, R W (f i) cs ∧ cs.length = n ∧ ∀ (j : Nat) (u : Value), cs[j]? = some u → W.cell? (a.add (i * n + j)) = some u := by
      classical
      refine ⟨fun i => if hi : i < len then Classical.choose (hel i hi) else z, fun i hi => ?_⟩
      simp only [dif_pos hi]
      exact Classical.choose_spec (hel i hi)
    refine ⟨(List.range len).map f, by simp; omega, ?_⟩
    rcases Nat.eq_zero_or_pos len with rfl | hp
    · exact .inl ⟨rfl, _, _, rfl⟩
    · obtain ⟨b, off, spot⟩ := a
      obtain ⟨cs0, _, hl0, h0⟩ := hf 0 hp
      obtain ⟨u0, hu0⟩ : ∃ u, cs0[0]? = some u := ⟨_, List.getElem?_eq_getElem (by omega)⟩
      have h0 := h0 0 u0 hu0
      have hspot : spot = none := by simpa [Addr.add] using World.cell?_spot h0
      subst hspot
      have hlt := World.block_lt_of_cell? _ _ h0
      refine .inr ⟨b, off, m, by simp, by simpa [Addr.add] using hlt, fun i r hr => ?_⟩
      have hi : i < len := by
        have := (List.getElem?_eq_some_iff.1 hr).1
        simpa using this
      have hri : f i = r := by simpa [hi] using hr
      obtain ⟨cs, hR, _, hc⟩ := hf i hi
      rw [hri] at hR
      refine ⟨cs, hR, fun j u hj => ?_⟩
      have := hc j u hj
      rw [add_plain, ← Nat.add_assoc] at this
      exact this
theorem Tryz.c_bind : Tryz.prog.cellsOf 203 = 2 := by kernel_rfl
theorem Tryz.c_tasks : Tryz.prog.cellsOf 49 = 1 := by kernel_rfl
theorem Tryz.c_nodes : Tryz.prog.cellsOf 50 = 1 := by kernel_rfl
theorem Tryz.c_binds : Tryz.prog.cellsOf 51 = 1 := by kernel_rfl
theorem Tryz.c_clu : Tryz.prog.cellsOf 53 = 3 := by kernel_rfl
set_option maxRecDepth 100000 in
theorem open_bindC {fuel : Nat} {cs : List Value} {x : DataW H × List MemPlace} (h : DataW.trod enc Tryz.prog W 0 (fun _ => true) true fuel 203 cs = some x) : ∃ t : BV, BindR W t cs := by
  obtain ⟨y0, y1, k, _, hlen, g0, g1⟩ := trod_struct2 Tryz.underlying203 h
  rw [Tryz.c_bind] at hlen
  match cs, hlen with
  | [c0, c1], _ =>
    obtain ⟨r0, e0, _, _⟩ := DataW.trod_int Tryz.underlying3 g0
    obtain ⟨r1, e1, _, _⟩ := DataW.trod_int Tryz.underlying3 g1
    simp [Tryz.c_int] at e0 e1
    subst e0 e1
    exact ⟨⟨r0, r1⟩, rfl⟩
end
end Go.Proofs.YtcegofdmdemcbaaGreatDoor

namespace Go.Proofs.YtcegofdmdemcbaaGreatDoor
open Go.RowKit

set_option maxHeartbeats 800000 in
theorem szPool_any (c0 c1 c2 c3 c4 c5 c6 c7 c8 c11 : Value) (A1 A2 : Option Addr) (n1 k1 n2 k2 : Nat) (z : Int) (w : World) (h0 : 0 ≤ z) (hz : z ≤ 1048576) (hm1 : n1 ≤ maxLen) (hm2 : n2 ≤ maxLen) :
    Calls Tryz.prog 24 #[.agg #[c0, c1, c2, c3, c4, c5, c6, c7, c8, .slice A1 n1 k1, .slice A2 n2 k2, c11], .int .i64 z] w fun e w' => e = .returned (.int .i64 (szTV z n1 n2)) ∧ Below w.heap.size w w' := by
  have hs := fun w => szNode_any c4 c5 c6 c7 c8 c11 A1 A2 n1 k1 n2 k2 z w h0 hz hm1 hm2
  generalize hy : szTV z n1 n2 = y at hs
  have HY := Lib.hid (szTV_ok hy)
  have HS := Lib.hid hs
  clear hs hy hm1 hm2
  go_enter Tryz.func24, Tryz.ntmps24
  go_wp2_with fail
  refine (HS.out _).mono ?_
  rintro e w1 ⟨rfl, hb1⟩
  have hz1 := hb1.size
  simp at hz1
  rcases HY.out with rfl | hy
  · go_wp2_with fail
    go_ret
    exact ⟨rfl, (by repeat' (first | exact Below.refl _ _ | refine Below.alloc ?_ ?_ _ | refine Below.setCell ?_ ?_ _ | refine Below.drew ?_ | (apply below_step; assumption) | (simp; done) | (simp; omega) | omega))⟩
  · obtain ⟨a1, -, -, -⟩ := hy h0
    have a1' : decide (y < 0) = false := by simp; omega
    go_wp2_with fail
    go_ret
    exact ⟨rfl, (by repeat' (first | exact Below.refl _ _ | refine Below.alloc ?_ ?_ _ | refine Below.setCell ?_ ?_ _ | refine Below.drew ?_ | (apply below_step; assumption) | (simp; done) | (simp; omega) | omega))⟩

def NewPoolO (w : World) (p : PV) (e : Ending) (w' : World) : Prop := ∃ g1 g2, e = .returned (.agg #[.int .i64 p.id, .int .i64 p.min, .int .i64 p.max, .int .i64 p.prio, .int .i64 p.shape.id, .int .i64 p.shape.pool, .int .i64 p.shape.cap.c, .int .i64 p.shape.cap.m, .int .i64 p.shape.cap.p, .slice (some ⟨g1, 0, none⟩) p.shape.labs.length p.shape.labs.length, .slice (some ⟨g2, 0, none⟩) p.shape.taints.length p.shape.taints.length, .bool p.shape.cordon]) ∧
  w.heap.size ≤ g1 ∧ w.heap.size ≤ g2 ∧ g2 < w'.heap.size ∧ BlockIs w' g1 143 (labL p.shape.labs).toArray ∧ BlockIs w' g2 3 (intL p.shape.taints).toArray ∧ Below w.heap.size w w'
set_option maxHeartbeats 1600000 in
theorem toPool_o (p : PV) (v1 v2 : Value) (w : World) (h1 : LabSl w v1 p.shape.labs) (h2 : IntSl w v2 p.shape.taints) (l1 : p.shape.labs.length ≤ 1048576) (l2 : p.shape.taints.length ≤ 1048576) :
    Calls Tryz.prog 26 #[.agg #[.int .i64 p.id, .int .i64 p.min, .int .i64 p.max, .int .i64 p.prio, .int .i64 p.shape.id, .int .i64 p.shape.pool, .int .i64 p.shape.cap.c, .int .i64 p.shape.cap.m, .int .i64 p.shape.cap.p, v1, v2, .bool p.shape.cordon]] w (NewPoolO w p) := by
  have H1 := Lib.hid h1
  have H2 := Lib.hid h2
  have L1 := Lib.hid l1
  have L2 := Lib.hid l2
  clear h1 h2 l1 l2
  go_enter Tryz.func26, Tryz.ntmps26
  go_wp2_with fail
  have hX : Below w.heap.size w (((w.alloc (.cells #[.int .i64 p.id, .int .i64 p.min, .int .i64 p.max, .int .i64 p.prio, .int .i64 p.shape.id, .int .i64 p.shape.pool, .int .i64 p.shape.cap.c, .int .i64 p.shape.cap.m, .int .i64 p.shape.cap.p, v1, v2, .bool p.shape.cordon] 73)).alloc (.cells #[.int .i64 0, .int .i64 0, .int .i64 0, .int .i64 0, .int .i64 0, .int .i64 0, .int .i64 0, .int .i64 0, .int .i64 0, .slice none 0 0, .slice none 0 0, .bool false] 80)).alloc (.cells #[.int .i64 p.id, .int .i64 p.min, .int .i64 p.max, .int .i64 p.prio, .int .i64 0, .int .i64 0, .int .i64 0, .int .i64 0, .int .i64 0, .slice none 0 0, .slice none 0 0, .bool false] 80)) := (by repeat' (first | exact Below.refl _ _ | refine Below.alloc ?_ ?_ _ | refine Below.setCell ?_ ?_ _ | refine Below.drew ?_ | (apply below_step; assumption) | (simp; done) | (simp; omega) | omega))
  refine (toNode_o p.shape v1 v2 _ (H1.out.below hX) (H2.out.below hX) L1.out L2.out).mono ?_
  rintro e w1 ⟨g1, g2, rfl, k1, k2, k3, bl, it, hb1⟩
  have hz1 := hb1.size
  simp at hz1 k1 k2
  have B1 : BlockIs w1 (w.heap.size + 1) 80 #[.int .i64 0, .int .i64 0, .int .i64 0, .int .i64 0, .int .i64 0, .int .i64 0, .int .i64 0, .int .i64 0, .int .i64 0, .slice none 0 0, .slice none 0 0, .bool false] := (BlockIs.alloc (BlockIs.new' (by simp)) _).below hb1 (by simp)
  have B2 : BlockIs w1 (w.heap.size + 1 + 1) 80 #[.int .i64 p.id, .int .i64 p.min, .int .i64 p.max, .int .i64 p.prio, .int .i64 0, .int .i64 0, .int .i64 0, .int .i64 0, .int .i64 0, .slice none 0 0, .slice none 0 0, .bool false] := (BlockIs.new' (by simp)).below hb1 (by simp)
  have hC1 := below_of hX hb1
  have c0 := B2.cell 0
  have c1 := B2.cell 1
  have c2 := B2.cell 2
  have c3 := B2.cell 3
  have c4 := B2.cell 4
  have c5 := B2.cell 5
  have c6 := B2.cell 6
  have c7 := B2.cell 7
  have c8 := B2.cell 8
  have c9 := B2.cell 9
  have c10 := B2.cell 10
  have c11 := B2.cell 11
  have d0 := B1.cell 0
  have d1 := B1.cell 1
  have d2 := B1.cell 2
  have d3 := B1.cell 3
  have d4 := B1.cell 4
  have d5 := B1.cell 5
  have d6 := B1.cell 6
  have d7 := B1.cell 7
  have d8 := B1.cell 8
  have d9 := B1.cell 9
  have d10 := B1.cell 10
  have d11 := B1.cell 11
  have f1 := B1.frozen
  have f2 := B2.frozen
  simp at c0 c1 c2 c3 c4 c5 c6 c7 c8 c9 c10 c11 d0 d1 d2 d3 d4 d5 d6 d7 d8 d9 d10 d11
  have HB1 := Lib.hid B1
  have HG1 := Lib.hid bl
  have HG2 := Lib.hid it
  clear B1 B2 bl it hb1 hX
  go_wp2_with fail
  have hZ : BlockIs ((((((((((((((((((((w1.setCell ⟨w.heap.size + 1 + 1, 4, none⟩ (.int .i64 p.shape.id)).setCell ⟨w.heap.size + 1 + 1, 4 + 1, none⟩ (.int .i64 p.shape.pool)).setCell ⟨w.heap.size + 1 + 1, 4 + 2, none⟩ (.int .i64 p.shape.cap.c)).setCell ⟨w.heap.size + 1 + 1, 4 + 3, none⟩ (.int .i64 p.shape.cap.m)).setCell ⟨w.heap.size + 1 + 1, 4 + 4, none⟩ (.int .i64 p.shape.cap.p)).setCell ⟨w.heap.size + 1 + 1, 4 + 5, none⟩ (.slice (some ⟨g1, 0, none⟩) p.shape.labs.length p.shape.labs.length)).setCell ⟨w.heap.size + 1 + 1, 4 + 6, none⟩ (.slice (some ⟨g2, 0, none⟩) p.shape.taints.length p.shape.taints.length)).setCell ⟨w.heap.size + 1 + 1, 4 + 7, none⟩ (.bool p.shape.cordon)).setCell ⟨w.heap.size + 1, 0, none⟩ (.int .i64 p.id)).setCell ⟨w.heap.size + 1, 1, none⟩ (.int .i64 p.min)).setCell ⟨w.heap.size + 1, 2, none⟩ (.int .i64 p.max)).setCell ⟨w.heap.size + 1, 3, none⟩ (.int .i64 p.prio)).setCell ⟨w.heap.size + 1, 4, none⟩ (.int .i64 p.shape.id)).setCell ⟨w.heap.size + 1, 5, none⟩ (.int .i64 p.shape.pool)).setCell ⟨w.heap.size + 1, 6, none⟩ (.int .i64 p.shape.cap.c)).setCell ⟨w.heap.size + 1, 7, none⟩ (.int .i64 p.shape.cap.m)).setCell ⟨w.heap.size + 1, 8, none⟩ (.int .i64 p.shape.cap.p)).setCell ⟨w.heap.size + 1, 9, none⟩ (.slice (some ⟨g1, 0, none⟩) p.shape.labs.length p.shape.labs.length)).setCell ⟨w.heap.size + 1, 10, none⟩ (.slice (some ⟨g2, 0, none⟩) p.shape.taints.length p.shape.taints.length)).setCell ⟨w.heap.size + 1, 11, none⟩ (.bool p.shape.cordon)) (w.heap.size + 1) 80 #[.int .i64 p.id, .int .i64 p.min, .int .i64 p.max, .int .i64 p.prio, .int .i64 p.shape.id, .int .i64 p.shape.pool, .int .i64 p.shape.cap.c, .int .i64 p.shape.cap.m, .int .i64 p.shape.cap.p, .slice (some ⟨g1, 0, none⟩) p.shape.labs.length p.shape.labs.length, .slice (some ⟨g2, 0, none⟩) p.shape.taints.length p.shape.taints.length, .bool p.shape.cordon] := by
    have := (BlockIs.putFar (g := w.heap.size + 1 + 1) (o := 4) (ds := [.int .i64 p.shape.id, .int .i64 p.shape.pool, .int .i64 p.shape.cap.c, .int .i64 p.shape.cap.m, .int .i64 p.shape.cap.p, .slice (some ⟨g1, 0, none⟩) p.shape.labs.length p.shape.labs.length, .slice (some ⟨g2, 0, none⟩) p.shape.taints.length p.shape.taints.length, .bool p.shape.cordon]) HB1.out (by omega)).putAll (o := 0) (ds := [.int .i64 p.id, .int .i64 p.min, .int .i64 p.max, .int .i64 p.prio, .int .i64 p.shape.id, .int .i64 p.shape.pool, .int .i64 p.shape.cap.c, .int .i64 p.shape.cap.m, .int .i64 p.shape.cap.p, .slice (some ⟨g1, 0, none⟩) p.shape.labs.length p.shape.labs.length, .slice (some ⟨g2, 0, none⟩) p.shape.taints.length p.shape.taints.length, .bool p.shape.cordon])
    have e : setAll #[.int .i64 0, .int .i64 0, .int .i64 0, .int .i64 0, .int .i64 0, .int .i64 0, .int .i64 0, .int .i64 0, .int .i64 0, .slice none 0 0, .slice none 0 0, .bool false] 0 [.int .i64 p.id, .int .i64 p.min, .int .i64 p.max, .int .i64 p.prio, .int .i64 p.shape.id, .int .i64 p.shape.pool, .int .i64 p.shape.cap.c, .int .i64 p.shape.cap.m, .int .i64 p.shape.cap.p, .slice (some ⟨g1, 0, none⟩) p.shape.labs.length p.shape.labs.length, .slice (some ⟨g2, 0, none⟩) p.shape.taints.length p.shape.taints.length, .bool p.shape.cordon] = #[.int .i64 p.id, .int .i64 p.min, .int .i64 p.max, .int .i64 p.prio, .int .i64 p.shape.id, .int .i64 p.shape.pool, .int .i64 p.shape.cap.c, .int .i64 p.shape.cap.m, .int .i64 p.shape.cap.p, .slice (some ⟨g1, 0, none⟩) p.shape.labs.length p.shape.labs.length, .slice (some ⟨g2, 0, none⟩) p.shape.taints.length p.shape.taints.length, .bool p.shape.cordon] := by simp [setAll]
    rw [e] at this
    exact this
  have hG : BlockIs ((((((((((((((((((((w1.setCell ⟨w.heap.size + 1 + 1, 4, none⟩ (.int .i64 p.shape.id)).setCell ⟨w.heap.size + 1 + 1, 4 + 1, none⟩ (.int .i64 p.shape.pool)).setCell ⟨w.heap.size + 1 + 1, 4 + 2, none⟩ (.int .i64 p.shape.cap.c)).setCell ⟨w.heap.size + 1 + 1, 4 + 3, none⟩ (.int .i64 p.shape.cap.m)).setCell ⟨w.heap.size + 1 + 1, 4 + 4, none⟩ (.int .i64 p.shape.cap.p)).setCell ⟨w.heap.size + 1 + 1, 4 + 5, none⟩ (.slice (some ⟨g1, 0, none⟩) p.shape.labs.length p.shape.labs.length)).setCell ⟨w.heap.size + 1 + 1, 4 + 6, none⟩ (.slice (some ⟨g2, 0, none⟩) p.shape.taints.length p.shape.taints.length)).setCell ⟨w.heap.size + 1 + 1, 4 + 7, none⟩ (.bool p.shape.cordon)).setCell ⟨w.heap.size + 1, 0, none⟩ (.int .i64 p.id)).setCell ⟨w.heap.size + 1, 1, none⟩ (.int .i64 p.min)).setCell ⟨w.heap.size + 1, 2, none⟩ (.int .i64 p.max)).setCell ⟨w.heap.size + 1, 3, none⟩ (.int .i64 p.prio)).setCell ⟨w.heap.size + 1, 4, none⟩ (.int .i64 p.shape.id)).setCell ⟨w.heap.size + 1, 5, none⟩ (.int .i64 p.shape.pool)).setCell ⟨w.heap.size + 1, 6, none⟩ (.int .i64 p.shape.cap.c)).setCell ⟨w.heap.size + 1, 7, none⟩ (.int .i64 p.shape.cap.m)).setCell ⟨w.heap.size + 1, 8, none⟩ (.int .i64 p.shape.cap.p)).setCell ⟨w.heap.size + 1, 9, none⟩ (.slice (some ⟨g1, 0, none⟩) p.shape.labs.length p.shape.labs.length)).setCell ⟨w.heap.size + 1, 10, none⟩ (.slice (some ⟨g2, 0, none⟩) p.shape.taints.length p.shape.taints.length)).setCell ⟨w.heap.size + 1, 11, none⟩ (.bool p.shape.cordon)) g1 143 (labL p.shape.labs).toArray := BlockIs.putFar (o := 0) (ds := [.int .i64 p.id, .int .i64 p.min, .int .i64 p.max, .int .i64 p.prio, .int .i64 p.shape.id, .int .i64 p.shape.pool, .int .i64 p.shape.cap.c, .int .i64 p.shape.cap.m, .int .i64 p.shape.cap.p, .slice (some ⟨g1, 0, none⟩) p.shape.labs.length p.shape.labs.length, .slice (some ⟨g2, 0, none⟩) p.shape.taints.length p.shape.taints.length, .bool p.shape.cordon]) (BlockIs.putFar (g := w.heap.size + 1 + 1) (o := 4) (ds := [.int .i64 p.shape.id, .int .i64 p.shape.pool, .int .i64 p.shape.cap.c, .int .i64 p.shape.cap.m, .int .i64 p.shape.cap.p, .slice (some ⟨g1, 0, none⟩) p.shape.labs.length p.shape.labs.length, .slice (some ⟨g2, 0, none⟩) p.shape.taints.length p.shape.taints.length, .bool p.shape.cordon]) HG1.out (by omega)) (by omega)
  have hI : BlockIs ((((((((((((((((((((w1.setCell ⟨w.heap.size + 1 + 1, 4, none⟩ (.int .i64 p.shape.id)).setCell ⟨w.heap.size + 1 + 1, 4 + 1, none⟩ (.int .i64 p.shape.pool)).setCell ⟨w.heap.size + 1 + 1, 4 + 2, none⟩ (.int .i64 p.shape.cap.c)).setCell ⟨w.heap.size + 1 + 1, 4 + 3, none⟩ (.int .i64 p.shape.cap.m)).setCell ⟨w.heap.size + 1 + 1, 4 + 4, none⟩ (.int .i64 p.shape.cap.p)).setCell ⟨w.heap.size + 1 + 1, 4 + 5, none⟩ (.slice (some ⟨g1, 0, none⟩) p.shape.labs.length p.shape.labs.length)).setCell ⟨w.heap.size + 1 + 1, 4 + 6, none⟩ (.slice (some ⟨g2, 0, none⟩) p.shape.taints.length p.shape.taints.length)).setCell ⟨w.heap.size + 1 + 1, 4 + 7, none⟩ (.bool p.shape.cordon)).setCell ⟨w.heap.size + 1, 0, none⟩ (.int .i64 p.id)).setCell ⟨w.heap.size + 1, 1, none⟩ (.int .i64 p.min)).setCell ⟨w.heap.size + 1, 2, none⟩ (.int .i64 p.max)).setCell ⟨w.heap.size + 1, 3, none⟩ (.int .i64 p.prio)).setCell ⟨w.heap.size + 1, 4, none⟩ (.int .i64 p.shape.id)).setCell ⟨w.heap.size + 1, 5, none⟩ (.int .i64 p.shape.pool)).setCell ⟨w.heap.size + 1, 6, none⟩ (.int .i64 p.shape.cap.c)).setCell ⟨w.heap.size + 1, 7, none⟩ (.int .i64 p.shape.cap.m)).setCell ⟨w.heap.size + 1, 8, none⟩ (.int .i64 p.shape.cap.p)).setCell ⟨w.heap.size + 1, 9, none⟩ (.slice (some ⟨g1, 0, none⟩) p.shape.labs.length p.shape.labs.length)).setCell ⟨w.heap.size + 1, 10, none⟩ (.slice (some ⟨g2, 0, none⟩) p.shape.taints.length p.shape.taints.length)).setCell ⟨w.heap.size + 1, 11, none⟩ (.bool p.shape.cordon)) g2 3 (intL p.shape.taints).toArray := BlockIs.putFar (o := 0) (ds := [.int .i64 p.id, .int .i64 p.min, .int .i64 p.max, .int .i64 p.prio, .int .i64 p.shape.id, .int .i64 p.shape.pool, .int .i64 p.shape.cap.c, .int .i64 p.shape.cap.m, .int .i64 p.shape.cap.p, .slice (some ⟨g1, 0, none⟩) p.shape.labs.length p.shape.labs.length, .slice (some ⟨g2, 0, none⟩) p.shape.taints.length p.shape.taints.length, .bool p.shape.cordon]) (BlockIs.putFar (g := w.heap.size + 1 + 1) (o := 4) (ds := [.int .i64 p.shape.id, .int .i64 p.shape.pool, .int .i64 p.shape.cap.c, .int .i64 p.shape.cap.m, .int .i64 p.shape.cap.p, .slice (some ⟨g1, 0, none⟩) p.shape.labs.length p.shape.labs.length, .slice (some ⟨g2, 0, none⟩) p.shape.taints.length p.shape.taints.length, .bool p.shape.cordon]) HG2.out (by omega)) (by omega)
  have hB : Below w.heap.size w ((((((((((((((((((((w1.setCell ⟨w.heap.size + 1 + 1, 4, none⟩ (.int .i64 p.shape.id)).setCell ⟨w.heap.size + 1 + 1, 4 + 1, none⟩ (.int .i64 p.shape.pool)).setCell ⟨w.heap.size + 1 + 1, 4 + 2, none⟩ (.int .i64 p.shape.cap.c)).setCell ⟨w.heap.size + 1 + 1, 4 + 3, none⟩ (.int .i64 p.shape.cap.m)).setCell ⟨w.heap.size + 1 + 1, 4 + 4, none⟩ (.int .i64 p.shape.cap.p)).setCell ⟨w.heap.size + 1 + 1, 4 + 5, none⟩ (.slice (some ⟨g1, 0, none⟩) p.shape.labs.length p.shape.labs.length)).setCell ⟨w.heap.size + 1 + 1, 4 + 6, none⟩ (.slice (some ⟨g2, 0, none⟩) p.shape.taints.length p.shape.taints.length)).setCell ⟨w.heap.size + 1 + 1, 4 + 7, none⟩ (.bool p.shape.cordon)).setCell ⟨w.heap.size + 1, 0, none⟩ (.int .i64 p.id)).setCell ⟨w.heap.size + 1, 1, none⟩ (.int .i64 p.min)).setCell ⟨w.heap.size + 1, 2, none⟩ (.int .i64 p.max)).setCell ⟨w.heap.size + 1, 3, none⟩ (.int .i64 p.prio)).setCell ⟨w.heap.size + 1, 4, none⟩ (.int .i64 p.shape.id)).setCell ⟨w.heap.size + 1, 5, none⟩ (.int .i64 p.shape.pool)).setCell ⟨w.heap.size + 1, 6, none⟩ (.int .i64 p.shape.cap.c)).setCell ⟨w.heap.size + 1, 7, none⟩ (.int .i64 p.shape.cap.m)).setCell ⟨w.heap.size + 1, 8, none⟩ (.int .i64 p.shape.cap.p)).setCell ⟨w.heap.size + 1, 9, none⟩ (.slice (some ⟨g1, 0, none⟩) p.shape.labs.length p.shape.labs.length)).setCell ⟨w.heap.size + 1, 10, none⟩ (.slice (some ⟨g2, 0, none⟩) p.shape.taints.length p.shape.taints.length)).setCell ⟨w.heap.size + 1, 11, none⟩ (.bool p.shape.cordon)) := putAll_below (o := 0) (ds := [.int .i64 p.id, .int .i64 p.min, .int .i64 p.max, .int .i64 p.prio, .int .i64 p.shape.id, .int .i64 p.shape.pool, .int .i64 p.shape.cap.c, .int .i64 p.shape.cap.m, .int .i64 p.shape.cap.p, .slice (some ⟨g1, 0, none⟩) p.shape.labs.length p.shape.labs.length, .slice (some ⟨g2, 0, none⟩) p.shape.taints.length p.shape.taints.length, .bool p.shape.cordon]) (putAll_below (g := w.heap.size + 1 + 1) (o := 4) (ds := [.int .i64 p.shape.id, .int .i64 p.shape.pool, .int .i64 p.shape.cap.c, .int .i64 p.shape.cap.m, .int .i64 p.shape.cap.p, .slice (some ⟨g1, 0, none⟩) p.shape.labs.length p.shape.labs.length, .slice (some ⟨g2, 0, none⟩) p.shape.taints.length p.shape.taints.length, .bool p.shape.cordon]) hC1 (by omega)) (by omega)
  have hs : ((((((((((((((((((((w1.setCell ⟨w.heap.size + 1 + 1, 4, none⟩ (.int .i64 p.shape.id)).setCell ⟨w.heap.size + 1 + 1, 4 + 1, none⟩ (.int .i64 p.shape.pool)).setCell ⟨w.heap.size + 1 + 1, 4 + 2, none⟩ (.int .i64 p.shape.cap.c)).setCell ⟨w.heap.size + 1 + 1, 4 + 3, none⟩ (.int .i64 p.shape.cap.m)).setCell ⟨w.heap.size + 1 + 1, 4 + 4, none⟩ (.int .i64 p.shape.cap.p)).setCell ⟨w.heap.size + 1 + 1, 4 + 5, none⟩ (.slice (some ⟨g1, 0, none⟩) p.shape.labs.length p.shape.labs.length)).setCell ⟨w.heap.size + 1 + 1, 4 + 6, none⟩ (.slice (some ⟨g2, 0, none⟩) p.shape.taints.length p.shape.taints.length)).setCell ⟨w.heap.size + 1 + 1, 4 + 7, none⟩ (.bool p.shape.cordon)).setCell ⟨w.heap.size + 1, 0, none⟩ (.int .i64 p.id)).setCell ⟨w.heap.size + 1, 1, none⟩ (.int .i64 p.min)).setCell ⟨w.heap.size + 1, 2, none⟩ (.int .i64 p.max)).setCell ⟨w.heap.size + 1, 3, none⟩ (.int .i64 p.prio)).setCell ⟨w.heap.size + 1, 4, none⟩ (.int .i64 p.shape.id)).setCell ⟨w.heap.size + 1, 5, none⟩ (.int .i64 p.shape.pool)).setCell ⟨w.heap.size + 1, 6, none⟩ (.int .i64 p.shape.cap.c)).setCell ⟨w.heap.size + 1, 7, none⟩ (.int .i64 p.shape.cap.m)).setCell ⟨w.heap.size + 1, 8, none⟩ (.int .i64 p.shape.cap.p)).setCell ⟨w.heap.size + 1, 9, none⟩ (.slice (some ⟨g1, 0, none⟩) p.shape.labs.length p.shape.labs.length)).setCell ⟨w.heap.size + 1, 10, none⟩ (.slice (some ⟨g2, 0, none⟩) p.shape.taints.length p.shape.taints.length)).setCell ⟨w.heap.size + 1, 11, none⟩ (.bool p.shape.cordon)).heap.size = w1.heap.size := (putAll_size (o := 0) (ds := [.int .i64 p.id, .int .i64 p.min, .int .i64 p.max, .int .i64 p.prio, .int .i64 p.shape.id, .int .i64 p.shape.pool, .int .i64 p.shape.cap.c, .int .i64 p.shape.cap.m, .int .i64 p.shape.cap.p, .slice (some ⟨g1, 0, none⟩) p.shape.labs.length p.shape.labs.length, .slice (some ⟨g2, 0, none⟩) p.shape.taints.length p.shape.taints.length, .bool p.shape.cordon])).trans (putAll_size (g := w.heap.size + 1 + 1) (o := 4) (ds := [.int .i64 p.shape.id, .int .i64 p.shape.pool, .int .i64 p.shape.cap.c, .int .i64 p.shape.cap.m, .int .i64 p.shape.cap.p, .slice (some ⟨g1, 0, none⟩) p.shape.labs.length p.shape.labs.length, .slice (some ⟨g2, 0, none⟩) p.shape.taints.length p.shape.taints.length, .bool p.shape.cordon]))
  generalize ((((((((((((((((((((w1.setCell ⟨w.heap.size + 1 + 1, 4, none⟩ (.int .i64 p.shape.id)).setCell ⟨w.heap.size + 1 + 1, 4 + 1, none⟩ (.int .i64 p.shape.pool)).setCell ⟨w.heap.size + 1 + 1, 4 + 2, none⟩ (.int .i64 p.shape.cap.c)).setCell ⟨w.heap.size + 1 + 1, 4 + 3, none⟩ (.int .i64 p.shape.cap.m)).setCell ⟨w.heap.size + 1 + 1, 4 + 4, none⟩ (.int .i64 p.shape.cap.p)).setCell ⟨w.heap.size + 1 + 1, 4 + 5, none⟩ (.slice (some ⟨g1, 0, none⟩) p.shape.labs.length p.shape.labs.length)).setCell ⟨w.heap.size + 1 + 1, 4 + 6, none⟩ (.slice (some ⟨g2, 0, none⟩) p.shape.taints.length p.shape.taints.length)).setCell ⟨w.heap.size + 1 + 1, 4 + 7, none⟩ (.bool p.shape.cordon)).setCell ⟨w.heap.size + 1, 0, none⟩ (.int .i64 p.id)).setCell ⟨w.heap.size + 1, 1, none⟩ (.int .i64 p.min)).setCell ⟨w.heap.size + 1, 2, none⟩ (.int .i64 p.max)).setCell ⟨w.heap.size + 1, 3, none⟩ (.int .i64 p.prio)).setCell ⟨w.heap.size + 1, 4, none⟩ (.int .i64 p.shape.id)).setCell ⟨w.heap.size + 1, 5, none⟩ (.int .i64 p.shape.pool)).setCell ⟨w.heap.size + 1, 6, none⟩ (.int .i64 p.shape.cap.c)).setCell ⟨w.heap.size + 1, 7, none⟩ (.int .i64 p.shape.cap.m)).setCell ⟨w.heap.size + 1, 8, none⟩ (.int .i64 p.shape.cap.p)).setCell ⟨w.heap.size + 1, 9, none⟩ (.slice (some ⟨g1, 0, none⟩) p.shape.labs.length p.shape.labs.length)).setCell ⟨w.heap.size + 1, 10, none⟩ (.slice (some ⟨g2, 0, none⟩) p.shape.taints.length p.shape.taints.length)).setCell ⟨w.heap.size + 1, 11, none⟩ (.bool p.shape.cordon)) = X at hZ hG hI hB hs ⊢
  have z0 := hZ.cell 0
  have z1 := hZ.cell 1
  have z2 := hZ.cell 2
  have z3 := hZ.cell 3
  have z4 := hZ.cell 4
  have z5 := hZ.cell 5
  have z6 := hZ.cell 6
  have z7 := hZ.cell 7
  have z8 := hZ.cell 8
  have z9 := hZ.cell 9
  have z10 := hZ.cell 10
  have z11 := hZ.cell 11
  simp at z0 z1 z2 z3 z4 z5 z6 z7 z8 z9 z10 z11
  exact bodyPost_ret (v := .agg #[.int .i64 p.id, .int .i64 p.min, .int .i64 p.max, .int .i64 p.prio, .int .i64 p.shape.id, .int .i64 p.shape.pool, .int .i64 p.shape.cap.c, .int .i64 p.shape.cap.m, .int .i64 p.shape.cap.p, .slice (some ⟨g1, 0, none⟩) p.shape.labs.length p.shape.labs.length, .slice (some ⟨g2, 0, none⟩) p.shape.taints.length p.shape.taints.length, .bool p.shape.cordon]) (by simp [results, Tryz.results26, go_sem, z0, z1, z2, z3, z4, z5, z6, z7, z8, z9, z10, z11]) rfl ⟨g1, g2, rfl, by omega, by omega, by omega, hG, hI, hB⟩

set_option maxHeartbeats 1600000 in
theorem eqPool_same (p : PV) (v1 v2 u1 u2 : Value) (w : World) (h1 : LabSl w v1 p.shape.labs) (h2 : IntSl w v2 p.shape.taints) (k1 : LabSl w u1 p.shape.labs) (k2 : IntSl w u2 p.shape.taints) (l1 : p.shape.labs.length ≤ 1048576) (l2 : p.shape.taints.length ≤ 1048576) :
    Calls Tryz.prog 34 #[.agg #[.int .i64 p.id, .int .i64 p.min, .int .i64 p.max, .int .i64 p.prio, .int .i64 p.shape.id, .int .i64 p.shape.pool, .int .i64 p.shape.cap.c, .int .i64 p.shape.cap.m, .int .i64 p.shape.cap.p, v1, v2, .bool p.shape.cordon], .agg #[.int .i64 p.id, .int .i64 p.min, .int .i64 p.max, .int .i64 p.prio, .int .i64 p.shape.id, .int .i64 p.shape.pool, .int .i64 p.shape.cap.c, .int .i64 p.shape.cap.m, .int .i64 p.shape.cap.p, u1, u2, .bool p.shape.cordon]] w fun e w' => e = .returned (.bool true) ∧ Below w.heap.size w w' := by
  have he := fun w a b c d => eqNode_same p.shape v1 v2 u1 u2 w a b c d l1 l2
  have H1 := Lib.hid h1
  have H2 := Lib.hid h2
  have K1 := Lib.hid k1
  have K2 := Lib.hid k2
  have HE := Lib.hid he
  have e1 : (p.id != p.id) = false := by simp
  have e2 : (p.min != p.min) = false := by simp
  have e3 : (p.max != p.max) = false := by simp
  have e4 : (p.prio != p.prio) = false := by simp
  clear h1 h2 k1 k2 l1 l2 he
  go_enter Tryz.func34, Tryz.ntmps34
  go_wp2_with fail
  have hX : Below w.heap.size w ((w.alloc (.cells #[.int .i64 p.id, .int .i64 p.min, .int .i64 p.max, .int .i64 p.prio, .int .i64 p.shape.id, .int .i64 p.shape.pool, .int .i64 p.shape.cap.c, .int .i64 p.shape.cap.m, .int .i64 p.shape.cap.p, v1, v2, .bool p.shape.cordon] 80)).alloc (.cells #[.int .i64 p.id, .int .i64 p.min, .int .i64 p.max, .int .i64 p.prio, .int .i64 p.shape.id, .int .i64 p.shape.pool, .int .i64 p.shape.cap.c, .int .i64 p.shape.cap.m, .int .i64 p.shape.cap.p, u1, u2, .bool p.shape.cordon] 80)) := (by repeat' (first | exact Below.refl _ _ | refine Below.alloc ?_ ?_ _ | refine Below.setCell ?_ ?_ _ | refine Below.drew ?_ | (apply below_step; assumption) | (simp; done) | (simp; omega) | omega))
  refine (HE.out _ (H1.out.below hX) (H2.out.below hX) (K1.out.below hX) (K2.out.below hX)).mono ?_
  rintro e w1 ⟨rfl, hb1⟩
  have hC1 := below_of hX hb1
  go_wp2_with fail
  go_ret
  exact ⟨rfl, hC1⟩
def PoolQ (w : World) (t : PV) (cs : List Value) : Prop := ∃ v1 v2, cs = [.int .i64 t.id, .int .i64 t.min, .int .i64 t.max, .int .i64 t.prio, .int .i64 t.shape.id, .int .i64 t.shape.pool, .int .i64 t.shape.cap.c, .int .i64 t.shape.cap.m, .int .i64 t.shape.cap.p, v1, v2, .bool t.shape.cordon] ∧ LabSl w v1 t.shape.labs ∧ IntSl w v2 t.shape.taints ∧ t.shape.labs.length ≤ maxLen ∧ t.shape.taints.length ≤ maxLen
theorem PoolQ.kept : Kept PoolQ := fun _ _ _ _ hb ⟨v1, v2, e, h1, h2, h3⟩ => ⟨v1, v2, e, h1.below hb, h2.below hb, h3⟩
end Go.Proofs.YtcegofdmdemcbaaGreatDoor
namespace Go.Proofs.YtcegofdmdemcbaaGreatDoor
open Go.ChangeShapes Go.WideShapes Go.ChangeAt Go.RowKit Go.Joins
section
variable {H : Type} {enc : TypeId × Value → H} {W : World}
theorem list12 {α : Type} {l : List α} (h : l.length = 12) : ∃ a b c d e f g i j k m n, l = [a, b, c, d, e, f, g, i, j, k, m, n] := by
  match l, h with
  | [a, b, c, d, e, f, g, i, j, k, m, n], _ => exact ⟨a, b, c, d, e, f, g, i, j, k, m, n, rfl⟩
theorem Tryz.c_pool : Tryz.prog.cellsOf 73 = 12 := by kernel_rfl
set_option maxRecDepth 100000 in
theorem open_poolC {fuel : Nat} {cs : List Value} {x : DataW H × List MemPlace} (h : DataW.trod enc Tryz.prog W 0 (fun _ => true) true fuel 73 cs = some x) : ∃ t : PV, PoolQ W t cs := by
  obtain ⟨y0, y1, y2, y3, y4, n, hl, h0, h1, h2, h3, h4⟩ := trod_struct5 Tryz.underlying73 h
  rw [Tryz.c_pool] at hl
  obtain ⟨a, b, c, d, e, f, g, i, j, k, m, o, rfl⟩ := list12 hl
  simp only [Tryz.c_int, Tryz.c_node] at h0 h1 h2 h3 h4
  simp at h0 h1 h2 h3 h4
  obtain ⟨z0, e0, _, _⟩ := DataW.trod_int Tryz.underlying3 h0
  obtain ⟨z1, e1, _, _⟩ := DataW.trod_int Tryz.underlying3 h1
  obtain ⟨z2, e2, _, _⟩ := DataW.trod_int Tryz.underlying3 h2
  obtain ⟨z3, e3, _, _⟩ := DataW.trod_int Tryz.underlying3 h3
  obtain ⟨t, v1, v2, e4, s1, s2, s3, s4⟩ := open_nodeC h4
  simp at e0 e1 e2 e3 e4
  obtain ⟨rfl, rfl, rfl, rfl, rfl, rfl, rfl, rfl⟩ := e4
  subst e0 e1 e2 e3
  exact ⟨⟨z0, z1, z2, z3, t⟩, _, _, rfl, s1, s2, s3, s4⟩
end
end Go.Proofs.YtcegofdmdemcbaaGreatDoor

namespace Go.Proofs.YtcegofdmdemcbaaGreatDoor
open Go.RowKit

def PV.small (t : PV) : Prop := t.shape.labs.length ≤ 1048576 ∧ t.shape.taints.length ≤ 1048576
def PoolN (base : Nat) (w : World) (t : PV) (cs : List Value) : Prop := ∃ g1 g2, cs = [.int .i64 t.id, .int .i64 t.min, .int .i64 t.max, .int .i64 t.prio, .int .i64 t.shape.id, .int .i64 t.shape.pool, .int .i64 t.shape.cap.c, .int .i64 t.shape.cap.m, .int .i64 t.shape.cap.p, .slice (some ⟨g1, 0, none⟩) t.shape.labs.length t.shape.labs.length, .slice (some ⟨g2, 0, none⟩) t.shape.taints.length t.shape.taints.length, .bool t.shape.cordon] ∧
  base ≤ g1 ∧ base ≤ g2 ∧ g2 < w.heap.size ∧ BlockIs w g1 143 (labL t.shape.labs).toArray ∧ IntAt w g2 0 t.shape.taints ∧ t.shape.labs.length ≤ 1048576 ∧ t.shape.taints.length ≤ 1048576
theorem PoolN.kept (base : Nat) : Kept (PoolN base) := fun _ _ _ _ hb ⟨g1, g2, e, h1, h2, h3, h4, h5, h6⟩ => ⟨g1, g2, e, h1, h2, Nat.lt_of_lt_of_le h3 hb.size, h4.below hb h4.lt, h5.below hb h3, h6⟩
theorem PoolN.put {base g o : Nat} {w : World} {t : PV} {cs ds : List Value} (h : PoolN base w t cs) (hg : g < base) : PoolN base (putAll w g o ds) t cs := by
  obtain ⟨g1, g2, e, h1, h2, h3, h4, h5, h6⟩ := h
  exact ⟨g1, g2, e, h1, h2, by rw [putAll_size]; exact h3, h4.putFar (by omega), h5.putFar (by omega), h6⟩
theorem PoolN.r {base : Nat} {w : World} {t : PV} {cs : List Value} (h : PoolN base w t cs) : PoolR w t cs := by
  obtain ⟨g1, g2, e, h1, h2, h3, h4, h5, h6⟩ := h
  exact ⟨_, _, e, .inr ⟨g1, 0, _, rfl, h4.lt, LabAt.of_cells h4⟩, .inr ⟨g2, 0, _, rfl, h3, h5⟩, h6⟩
theorem PoolN.len {base : Nat} {w : World} {t : PV} {cs : List Value} (h : PoolN base w t cs) : cs.length = 12 := by
  obtain ⟨g1, g2, e, _⟩ := h; subst e; rfl
theorem eqPool_r (t : PV) (cs ds : List Value) (w : World) (h : PoolR w t cs) (k : PoolR w t ds) : Calls Tryz.prog 34 #[.agg cs.toArray, .agg ds.toArray] w fun e w' => e = .returned (.bool true) ∧ Below w.heap.size w w' := by
  obtain ⟨v1, v2, rfl, h1, h2, l1, l2⟩ := h
  obtain ⟨u1, u2, rfl, k1, k2, _, _⟩ := k
  exact eqPool_same t v1 v2 u1 u2 w h1 h2 k1 k2 l1 l2
theorem Tryz.infoPool : (Tryz.prog.info? 80).map (fun i => (i.zero, i.size, i.bytes)) = some (some (.agg #[.int .i64 0, .int .i64 0, .int .i64 0, .int .i64 0, .int .i64 0, .int .i64 0, .int .i64 0, .int .i64 0, .int .i64 0, .slice none 0 0, .slice none 0 0, .bool false]), 12, 128) := by kernel_rfl
theorem make_pool (n : Nat) (h : n ≤ 1048576) (w : World) : (Instr.makeSlice 27 (.int .i64 (n : Int)) (.int .i64 (n : Int))).run Tryz.prog w = .ok (.slice (some ⟨w.heap.size, 0, none⟩) n n) (w.alloc (.cells (madeCells #[.int .i64 0, .int .i64 0, .int .i64 0, .int .i64 0, .int .i64 0, .int .i64 0, .int .i64 0, .int .i64 0, .int .i64 0, .slice none 0 0, .slice none 0 0, .bool false] (n * 12)) 80)) := by
  obtain ⟨i, hi, hzz⟩ := Option.map_eq_some_iff.1 Tryz.infoPool
  simp only [Prod.mk.injEq] at hzz
  obtain ⟨hz, hs, hb⟩ := hzz
  have := run_make (P := Tryz.prog) w 27 80 i _ Tryz.underlying27 hi hz .i64 .i64 n n (by omega) (Int.le_refl _) (by rw [hb]; omega) (by omega)
  rw [this, hs]
  simp [Value.cells]
set_option maxHeartbeats 1600000 in
set_option maxRecDepth 20000 in
theorem eqPoolS_same (v1 v2 : Value) (l : List PV) (w : World) (h1 : PoolSl w v1 l) (h2 : PoolSl w v2 l) (hlen : l.length ≤ 1048576) :
    Calls Tryz.prog 12 #[v1, v2] w fun e w' => e = .returned (.bool true) ∧ Below w.heap.size w w' := by
  obtain ⟨A, c, rfl, hA⟩ := h1.form
  obtain ⟨A', c', rfl, hA'⟩ := h2.form
  have HA := Lib.hid hA
  have HA' := Lib.hid hA'
  clear hA hA' h1 h2
  have hnn : ((l.length : Int) != (l.length : Int)) = false := by simp
  go_enter Tryz.func12, Tryz.ntmps12
  go_wp2_with fail
  go_loopw [5] (fun s5 wr => ∃ k : Nat, k ≤ l.length ∧ s5 = .int .i64 k ∧ Below w.heap.size w wr) (fun s5 _ => (l.length - intOf s5).toNat)
  case atStart => exact ⟨0, by omega, rfl, Below.refl _ _⟩
  case round =>
    obtain ⟨k, hk, rfl, hB⟩ := hrel
    have hzr := hB.size
    by_cases hlt : k < l.length
    · obtain ⟨b, off, rfl, hbw, hat⟩ := HA.out (by omega)
      obtain ⟨b', off', rfl, hbw', hat'⟩ := HA'.out (by omega)
      obtain ⟨t, ht⟩ : ∃ t, l[k]? = some t := ⟨_, List.getElem?_eq_getElem hlt⟩
      obtain ⟨ds, hR, hC⟩ := (hat'.below PoolR.kept hB hbw') k t ht
      have HR' := Lib.hid hR
      obtain ⟨v3, v4, rfl, sl, si, m1, m2⟩ := hR; obtain ⟨A3, c3, rfl, _⟩ := sl.form; obtain ⟨A4, c4, rfl, _⟩ := si.form; clear sl si m1 m2
      obtain ⟨p0, p1, p2, p3, p4, p5, p6, p7, p8, p9, p10, p11⟩ := pool_cells hC
      clear hC
      obtain ⟨cs, hR, hC⟩ := (hat.below PoolR.kept hB hbw) k t ht
      have HR := Lib.hid hR
      obtain ⟨v1, v2, rfl, sl, si, m1, m2⟩ := hR; obtain ⟨A1, c1, rfl, _⟩ := sl.form; obtain ⟨A2, c2, rfl, _⟩ := si.form
      clear sl si m1 m2
      obtain ⟨q0, q1, q2, q3, q4, q5, q6, q7, q8, q9, q10, q11⟩ := pool_cells hC
      have hbr : b < wr.heap.size := by omega
      have hbr' : b' < wr.heap.size := by omega
      have HK := Lib.hid (show ∀ w', Below wr.heap.size wr w' → Below wr.heap.size wr w' ∧ w'.cell? ⟨b, off + k * 12, none⟩ = some (.int .i64 t.id) ∧ w'.cell? ⟨b, off + k * 12 + 1, none⟩ = some (.int .i64 t.min) ∧ w'.cell? ⟨b, off + k * 12 + 2, none⟩ = some (.int .i64 t.max) ∧ w'.cell? ⟨b, off + k * 12 + 3, none⟩ = some (.int .i64 t.prio) ∧ w'.cell? ⟨b, off + k * 12 + 4, none⟩ = some (.int .i64 t.shape.id) ∧ w'.cell? ⟨b, off + k * 12 + 5, none⟩ = some (.int .i64 t.shape.pool) ∧ w'.cell? ⟨b, off + k * 12 + 6, none⟩ = some (.int .i64 t.shape.cap.c) ∧ w'.cell? ⟨b, off + k * 12 + 7, none⟩ = some (.int .i64 t.shape.cap.m) ∧ w'.cell? ⟨b, off + k * 12 + 8, none⟩ = some (.int .i64 t.shape.cap.p) ∧ w'.cell? ⟨b, off + k * 12 + 9, none⟩ = some (.slice A1 t.shape.labs.length c1) ∧ w'.cell? ⟨b, off + k * 12 + 10, none⟩ = some (.slice A2 t.shape.taints.length c2) ∧ w'.cell? ⟨b, off + k * 12 + 11, none⟩ = some (.bool t.shape.cordon) ∧ w'.cell? ⟨b', off' + k * 12, none⟩ = some (.int .i64 t.id) ∧ w'.cell? ⟨b', off' + k * 12 + 1, none⟩ = some (.int .i64 t.min) ∧ w'.cell? ⟨b', off' + k * 12 + 2, none⟩ = some (.int .i64 t.max) ∧ w'.cell? ⟨b', off' + k * 12 + 3, none⟩ = some (.int .i64 t.prio) ∧ w'.cell? ⟨b', off' + k * 12 + 4, none⟩ = some (.int .i64 t.shape.id) ∧ w'.cell? ⟨b', off' + k * 12 + 5, none⟩ = some (.int .i64 t.shape.pool) ∧ w'.cell? ⟨b', off' + k * 12 + 6, none⟩ = some (.int .i64 t.shape.cap.c) ∧ w'.cell? ⟨b', off' + k * 12 + 7, none⟩ = some (.int .i64 t.shape.cap.m) ∧ w'.cell? ⟨b', off' + k * 12 + 8, none⟩ = some (.int .i64 t.shape.cap.p) ∧ w'.cell? ⟨b', off' + k * 12 + 9, none⟩ = some (.slice A3 t.shape.labs.length c3) ∧ w'.cell? ⟨b', off' + k * 12 + 10, none⟩ = some (.slice A4 t.shape.taints.length c4) ∧ w'.cell? ⟨b', off' + k * 12 + 11, none⟩ = some (.bool t.shape.cordon) from fun w' hb => ⟨hb, (hb.cell (p := ⟨_, _, none⟩) hbr).trans q0, (hb.cell (p := ⟨_, _, none⟩) hbr).trans q1, (hb.cell (p := ⟨_, _, none⟩) hbr).trans q2, (hb.cell (p := ⟨_, _, none⟩) hbr).trans q3, (hb.cell (p := ⟨_, _, none⟩) hbr).trans q4, (hb.cell (p := ⟨_, _, none⟩) hbr).trans q5, (hb.cell (p := ⟨_, _, none⟩) hbr).trans q6, (hb.cell (p := ⟨_, _, none⟩) hbr).trans q7, (hb.cell (p := ⟨_, _, none⟩) hbr).trans q8, (hb.cell (p := ⟨_, _, none⟩) hbr).trans q9, (hb.cell (p := ⟨_, _, none⟩) hbr).trans q10, (hb.cell (p := ⟨_, _, none⟩) hbr).trans q11, (hb.cell (p := ⟨_, _, none⟩) hbr').trans p0, (hb.cell (p := ⟨_, _, none⟩) hbr').trans p1, (hb.cell (p := ⟨_, _, none⟩) hbr').trans p2, (hb.cell (p := ⟨_, _, none⟩) hbr').trans p3, (hb.cell (p := ⟨_, _, none⟩) hbr').trans p4, (hb.cell (p := ⟨_, _, none⟩) hbr').trans p5, (hb.cell (p := ⟨_, _, none⟩) hbr').trans p6, (hb.cell (p := ⟨_, _, none⟩) hbr').trans p7, (hb.cell (p := ⟨_, _, none⟩) hbr').trans p8, (hb.cell (p := ⟨_, _, none⟩) hbr').trans p9, (hb.cell (p := ⟨_, _, none⟩) hbr').trans p10, (hb.cell (p := ⟨_, _, none⟩) hbr').trans p11⟩)
      have hlti : (k : Int) < (l.length : Int) := by omega
      have hk0 : (0 : Int) ≤ (k : Int) := by omega
      clear hat hat' ht hC q0 q1 q2 q3 q4 q5 q6 q7 q8 q9 q10 q11 p0 p1 p2 p3 p4 p5 p6 p7 p8 p9 p10 p11
      go_wp2_with fail
      refine wp_region_held_drew (S := (fun w' => Below wr.heap.size wr w' ∧ w'.cell? ⟨b, off + k * 12, none⟩ = some (.int .i64 t.id) ∧ w'.cell? ⟨b, off + k * 12 + 1, none⟩ = some (.int .i64 t.min) ∧ w'.cell? ⟨b, off + k * 12 + 2, none⟩ = some (.int .i64 t.max) ∧ w'.cell? ⟨b, off + k * 12 + 3, none⟩ = some (.int .i64 t.prio) ∧ w'.cell? ⟨b, off + k * 12 + 4, none⟩ = some (.int .i64 t.shape.id) ∧ w'.cell? ⟨b, off + k * 12 + 5, none⟩ = some (.int .i64 t.shape.pool) ∧ w'.cell? ⟨b, off + k * 12 + 6, none⟩ = some (.int .i64 t.shape.cap.c) ∧ w'.cell? ⟨b, off + k * 12 + 7, none⟩ = some (.int .i64 t.shape.cap.m) ∧ w'.cell? ⟨b, off + k * 12 + 8, none⟩ = some (.int .i64 t.shape.cap.p) ∧ w'.cell? ⟨b, off + k * 12 + 9, none⟩ = some (.slice A1 t.shape.labs.length c1) ∧ w'.cell? ⟨b, off + k * 12 + 10, none⟩ = some (.slice A2 t.shape.taints.length c2) ∧ w'.cell? ⟨b, off + k * 12 + 11, none⟩ = some (.bool t.shape.cordon) ∧ w'.cell? ⟨b', off' + k * 12, none⟩ = some (.int .i64 t.id) ∧ w'.cell? ⟨b', off' + k * 12 + 1, none⟩ = some (.int .i64 t.min) ∧ w'.cell? ⟨b', off' + k * 12 + 2, none⟩ = some (.int .i64 t.max) ∧ w'.cell? ⟨b', off' + k * 12 + 3, none⟩ = some (.int .i64 t.prio) ∧ w'.cell? ⟨b', off' + k * 12 + 4, none⟩ = some (.int .i64 t.shape.id) ∧ w'.cell? ⟨b', off' + k * 12 + 5, none⟩ = some (.int .i64 t.shape.pool) ∧ w'.cell? ⟨b', off' + k * 12 + 6, none⟩ = some (.int .i64 t.shape.cap.c) ∧ w'.cell? ⟨b', off' + k * 12 + 7, none⟩ = some (.int .i64 t.shape.cap.m) ∧ w'.cell? ⟨b', off' + k * 12 + 8, none⟩ = some (.int .i64 t.shape.cap.p) ∧ w'.cell? ⟨b', off' + k * 12 + 9, none⟩ = some (.slice A3 t.shape.labs.length c3) ∧ w'.cell? ⟨b', off' + k * 12 + 10, none⟩ = some (.slice A4 t.shape.taints.length c4) ∧ w'.cell? ⟨b', off' + k * 12 + 11, none⟩ = some (.bool t.shape.cordon))) (by kernel_rfl) (by (try dsimp only); exact HK.out _ (by repeat' (first | exact Below.refl _ _ | refine Below.alloc ?_ ?_ _ | refine Below.setCell ?_ ?_ _ | refine Below.drew ?_ | (apply below_step; assumption) | (simp; done) | (simp; omega) | omega))) (fun hHeld => ?_)
      refine hT 0 ?_; simp only [Act.put, rhA, rhS, rhT]
      refine hT 1 ?_; simp only [Act.put, rhA, rhS, rhT]
      refine hT 2 ?_; simp only [Act.put, rhA, rhS, rhT]
      refine hT 3 ?_; simp only [Act.put, rhA, rhS, rhT]
      refine hT 4 ?_; simp only [Act.put, rhA, rhS, rhT]
      refine hT 5 ?_; simp only [Act.put, rhA, rhS, rhT]
      refine hT 6 ?_; simp only [Act.put, rhA, rhS, rhT]
      refine hT 7 ?_; simp only [Act.put, rhA, rhS, rhT]
      refine hCall (i := 8) (o := ?a10) ?b10 (by kernel_rfl) ?c10 (fun K hK => ?d10)
      case b10 => simp only [rhN, rhM]; try rfl
      case c10 => rfl
      go_simp
      refine (eqPool_r t _ _ _ (PoolR.kept _ _ _ _ (by repeat' (first | exact Below.refl _ _ | refine Below.alloc ?_ ?_ _ | refine Below.setCell ?_ ?_ _ | refine Below.drew ?_ | (apply below_step; assumption) | (simp; done) | (simp; omega) | omega)) HR.out) (PoolR.kept _ _ _ _ (by repeat' (first | exact Below.refl _ _ | refine Below.alloc ?_ ?_ _ | refine Below.setCell ?_ ?_ _ | refine Below.drew ?_ | (apply below_step; assumption) | (simp; done) | (simp; omega) | omega)) HR'.out)).mono ?_
      rintro e w3 ⟨rfl, hb3⟩
      have hz3 := hb3.size
      try simp at hz3
      go_wp2_with fail
      refine hK.out _ _ (by (try dsimp only); exact HK.out _ (by repeat' (first | exact Below.refl _ _ | refine Below.alloc ?_ ?_ _ | refine Below.setCell ?_ ?_ _ | refine Below.drew ?_ | (apply below_step; assumption) | (simp; done) | (simp; omega) | omega))) (fun hHeld => ?_)
      clear hK K
      try simp only [Act.put, rhA, rhS, rhT]
      refine hT 9 ?_; simp only [Act.put, rhA, rhS, rhT]
      refine wpAnyH_done (by kernel_rfl) ?_ _
      go_wp2_with fail
      go_roundw
      case rel => exact ⟨k + 1, by omega, by go_num, (by repeat' (first | exact Below.refl _ _ | refine Below.alloc ?_ ?_ _ | refine Below.setCell ?_ ?_ _ | refine Below.drew ?_ | (apply below_step; assumption) | (simp; done) | (simp; omega) | omega))⟩
      case measure => simp [intOf]; omega
    · go_wp2_with fail
      go_ret
      exact ⟨rfl, hB⟩
set_option maxHeartbeats 1600000 in
theorem szPoolS_any (v : Value) (l : List PV) (z : Int) (w : World) (hv : GSl PoolQ 12 w v l) (hl : l.length ≤ maxLen) (h0 : 0 ≤ z) (hz : z ≤ 1048576) :
    Calls Tryz.prog 7 #[v, .int .i64 z] w fun e w' => (∃ y : Int, e = .returned (.int .i64 y) ∧ (y = -1 ∨ (0 ≤ y ∧ y ≤ 1048576 ∧ l.length ≤ 1048576 ∧ ∀ t ∈ l, t.small))) ∧ Below w.heap.size w w' := by
  obtain ⟨A, c, rfl, hA⟩ := hv.form
  have HA := Lib.hid hA
  unfold maxLen at hl
  clear hA hv
  by_cases h1 : (l.length : Int) ≤ z
  · go_enter Tryz.func7, Tryz.ntmps7
    go_wp2_with fail
    go_loopw [1, 5] (fun s1 s5 wr => ∃ (k : Nat) (y : Int), k ≤ l.length ∧ s5 = .int .i64 k ∧ s1 = .int .i64 y ∧ 0 ≤ y ∧ y ≤ 1048576 ∧ (∀ t ∈ l.take k, t.small) ∧ Below w.heap.size w wr) (fun _ s5 _ => (l.length - intOf s5).toNat)
    case atStart => exact ⟨0, z - l.length, by omega, rfl, by first | rfl | go_num, by omega, by omega, by simp, Below.refl _ _⟩
    case round =>
      obtain ⟨k, y, hk, rfl, rfl, y0, y1, hall, hB⟩ := hrel
      have HALL := Lib.hid hall
      have hzr := hB.size
      clear hall
      by_cases hlt : k < l.length
      · obtain ⟨b, off, rfl, hbw, hat⟩ := HA.out (by omega)
        obtain ⟨t, ht⟩ : ∃ t, l[k]? = some t := ⟨_, List.getElem?_eq_getElem hlt⟩
        obtain ⟨cs, hR, hC⟩ := (hat.below PoolQ.kept hB hbw) k t ht
        have HTK := Lib.hid (take_at ht)
        obtain ⟨v1, v2, rfl, sl, si, m1, m2⟩ := hR; obtain ⟨A1, c1, rfl, _⟩ := sl.form; obtain ⟨A2, c2, rfl, _⟩ := si.form
        obtain ⟨q0, q1, q2, q3, q4, q5, q6, q7, q8, q9, q10, q11⟩ := pool_cells hC
        have hsz := fun w => szPool_any (.int .i64 t.id) (.int .i64 t.min) (.int .i64 t.max) (.int .i64 t.prio) (.int .i64 t.shape.id) (.int .i64 t.shape.pool) (.int .i64 t.shape.cap.c) (.int .i64 t.shape.cap.m) (.int .i64 t.shape.cap.p) (.bool t.shape.cordon) A1 A2 t.shape.labs.length c1 t.shape.taints.length c2 y w y0 y1 m1 m2
        generalize hy : szTV y t.shape.labs.length t.shape.taints.length = y' at hsz
        have HY := Lib.hid (szTV_ok hy)
        have HSZ := Lib.hid hsz
        have hki : (k : Int) < (l.length : Int) := by omega
        clear hat hC ht sl si m1 m2 hsz hy
        go_wp2_with fail
        refine (HSZ.out _).mono ?_
        rintro e w2 ⟨rfl, hb2⟩
        have hC2 := below_of hB hb2
        rcases HY.out with rfl | hy2
        · go_wp2_with fail
          go_ret
          exact ⟨⟨-1, rfl, .inl rfl⟩, hC2⟩
        · obtain ⟨a1, a2, a3, a4⟩ := hy2 y0
          go_wp2_with fail
          go_roundw
          case rel =>
            refine ⟨k + 1, y', by omega, by go_num, rfl, a1, by omega, ?_, hC2⟩
            rw [HTK.out]
            intro s hs
            rcases List.mem_append.1 hs with h | h
            · exact HALL.out s h
            · simp at h; subst h; exact ⟨by omega, by omega⟩
          case measure => simp [intOf]; omega
      · have hkl : k = l.length := by omega
        go_wp2_with fail
        go_ret
        refine ⟨⟨y, rfl, .inr ⟨y0, y1, by omega, ?_⟩⟩, hB⟩
        have := HALL.out
        rwa [hkl, List.take_length] at this
  · have h1' : z < l.length := by omega
    clear h1
    go_enter Tryz.func7, Tryz.ntmps7
    go_wp2_with fail
    go_ret
    exact ⟨⟨-1, rfl, .inl rfl⟩, (by repeat' (first | exact Below.refl _ _ | refine Below.alloc ?_ ?_ _ | refine Below.setCell ?_ ?_ _ | refine Below.drew ?_ | (apply below_step; assumption) | (simp; done) | (simp; omega) | omega))⟩

def poolsFrom : Int → List PV → Bool
  | _, [] => true
  | p, n :: r => n.ok && decide (p < n.id) && poolsFrom n.id r
def poolsOk (l : List PV) : Bool := decide (l.length ≤ 5) && poolsFrom (-1) l
theorem poolsFrom_yes {p : Int} {n : PV} {r : List PV} (h : n.ok = true) (hp : p < n.id) : poolsFrom p (n :: r) = poolsFrom n.id r := by simp [poolsFrom, h, hp]
theorem poolsFrom_bad {p : Int} {n : PV} {r : List PV} (h : n.ok = false) : poolsFrom p (n :: r) = false := by simp [poolsFrom, h]
theorem poolsFrom_low {p : Int} {n : PV} {r : List PV} (h : n.id ≤ p) : poolsFrom p (n :: r) = false := by
  have : ¬ p < n.id := by omega
  simp [poolsFrom, this]
theorem PV.ok_id {p : PV} (h : p.ok = true) : 0 ≤ p.id := by
  simp only [PV.ok, Bool.and_eq_true, decide_eq_true_eq] at h
  exact h.1.1.1.1.1.1.1.1.1.1
theorem poolsFrom_first {n : PV} {r : List PV} (h : n.ok = true) : poolsFrom (-1) (n :: r) = poolsFrom n.id r := poolsFrom_yes h (by have := PV.ok_id h; omega)
set_option maxHeartbeats 3200000 in
set_option maxRecDepth 20000 in
theorem PoolsOk_any (v : Value) (l : List PV) (w : World) (x : Addr) (hg : ErrAt x w) (hv : PoolSl w v l) (hlen : l.length ≤ 1048576) :
    Calls Tryz.prog 70 #[v] w fun e w' => e = .returned (.bool (poolsOk l)) ∧ Below w.heap.size w w' := by
  obtain ⟨A, c, rfl, hA⟩ := hv.form
  have HA := Lib.hid hA
  have HG := Lib.hid hg
  clear hA hv hg
  by_cases h5 : l.length ≤ 5
  · have HT := Lib.hid (show poolsOk l = poolsFrom (-1) l by simp [poolsOk, h5])
    go_enter Tryz.func70, Tryz.ntmps70
    go_wp2_with fail
    go_loopw [3, 11] (fun s3 s11 wr => ∃ (k : Nat) (p : Int), k ≤ l.length ∧ s11 = .int .i64 k ∧ s3 = .int .i64 p ∧ poolsFrom (-1) l = poolsFrom p (l.drop k) ∧ Below w.heap.size w wr) (fun _ s11 _ => (l.length - intOf s11).toNat)
    case atStart => exact ⟨0, -1, by omega, rfl, rfl, by simp, Below.refl _ _⟩
    case round =>
      obtain ⟨k, p, hk, rfl, rfl, hts, hB⟩ := hrel
      have HTS := Lib.hid hts
      have hzr := hB.size
      have HGR := Lib.hid (HG.out.below hB (Nat.le_refl _))
      clear hts
      by_cases hlt : k < l.length
      · obtain ⟨b, off, rfl, hbw, hat⟩ := HA.out (by omega)
        obtain ⟨t, ht⟩ : ∃ t, l[k]? = some t := ⟨_, List.getElem?_eq_getElem hlt⟩
        obtain ⟨cs, hR, hC⟩ := (hat.below PoolR.kept hB hbw) k t ht
        have HD := Lib.hid (drop_at ht)
        obtain ⟨v1, v2, rfl, sl, si, m1, m2⟩ := hR
        obtain ⟨A1, c1, rfl, _⟩ := sl.form
        obtain ⟨A2, c2, rfl, _⟩ := si.form
        have hok := fun w x hg h1 h2 => PoolOk_any t (.slice A1 t.shape.labs.length c1) (.slice A2 t.shape.taints.length c2) w x hg h1 h2 m1 m2
        have SL := Lib.hid sl
        have SI := Lib.hid si
        obtain ⟨q0, q1, q2, q3, q4, q5, q6, q7, q8, q9, q10, q11⟩ := pool_cells hC
        have hbr : b < wr.heap.size := by omega
        cases ho : t.ok
        all_goals
          rw [ho] at hok
          have HO := Lib.hid ho
          have HOK := Lib.hid hok
          clear hat hC ht sl si m1 m2 ho hok
        · go_wp2_with fail
          have hX : Below wr.heap.size wr (wr.alloc (.cells #[.int .i64 t.id, .int .i64 t.min, .int .i64 t.max, .int .i64 t.prio, .int .i64 t.shape.id, .int .i64 t.shape.pool, .int .i64 t.shape.cap.c, .int .i64 t.shape.cap.m, .int .i64 t.shape.cap.p, .slice A1 t.shape.labs.length c1, .slice A2 t.shape.taints.length c2, .bool t.shape.cordon] 80)) := (by repeat' (first | exact Below.refl _ _ | refine Below.alloc ?_ ?_ _ | refine Below.setCell ?_ ?_ _ | refine Below.drew ?_ | (apply below_step; assumption) | (simp; done) | (simp; omega) | omega))
          refine (HOK.out _ x (HGR.out.alloc _) (SL.out.below hX) (SI.out.below hX)).mono ?_
          rintro e w2 ⟨rfl, hb2⟩
          have hC2 := below_of hX hb2
          go_wp2_with fail
          go_ret
          exact ⟨by rw [HT.out, HTS.out, HD.out, poolsFrom_bad HO.out]; rfl, below_of hB hC2⟩
        · go_wp2_with fail
          have hX : Below wr.heap.size wr (wr.alloc (.cells #[.int .i64 t.id, .int .i64 t.min, .int .i64 t.max, .int .i64 t.prio, .int .i64 t.shape.id, .int .i64 t.shape.pool, .int .i64 t.shape.cap.c, .int .i64 t.shape.cap.m, .int .i64 t.shape.cap.p, .slice A1 t.shape.labs.length c1, .slice A2 t.shape.taints.length c2, .bool t.shape.cordon] 80)) := (by repeat' (first | exact Below.refl _ _ | refine Below.alloc ?_ ?_ _ | refine Below.setCell ?_ ?_ _ | refine Below.drew ?_ | (apply below_step; assumption) | (simp; done) | (simp; omega) | omega))
          refine (HOK.out _ x (HGR.out.alloc _) (SL.out.below hX) (SI.out.below hX)).mono ?_
          rintro e w2 ⟨rfl, hb2⟩
          have hC2 := below_of hX hb2
          have BX := (BlockIs.new wr 80 #[.int .i64 t.id, .int .i64 t.min, .int .i64 t.max, .int .i64 t.prio, .int .i64 t.shape.id, .int .i64 t.shape.pool, .int .i64 t.shape.cap.c, .int .i64 t.shape.cap.m, .int .i64 t.shape.cap.p, .slice A1 t.shape.labs.length c1, .slice A2 t.shape.taints.length c2, .bool t.shape.cordon]).below hb2 (by simp)
          have x0 := BX.cell 0
          simp at x0
          clear BX hb2
          by_cases hp : t.id ≤ p
          · have HP := Lib.hid hp
            go_wp2_with fail
            go_ret
            exact ⟨by rw [HT.out, HTS.out, HD.out, poolsFrom_low HP.out]; rfl, below_of hB hC2⟩
          · have hp' : p < t.id := by omega
            have HP := Lib.hid hp'
            clear hp
            go_wp2_with fail
            go_roundw
            case rel => exact ⟨k + 1, t.id, by omega, by go_num, rfl, by rw [HTS.out, HD.out, poolsFrom_yes HO.out HP.out], below_of hB hC2⟩
            case measure => simp [intOf]; omega
      · have hkl : k = l.length := by omega
        have HF := Lib.hid (show poolsFrom (-1) l = true by rw [HTS.out, hkl, List.drop_length]; rfl)
        clear hkl
        go_wp2_with fail
        go_ret
        exact ⟨by rw [HT.out, HF.out]; rfl, hB⟩
  · have HT := Lib.hid (show poolsOk l = false by simp [poolsOk, h5])
    have h5' : (5 : Int) < (l.length : Int) := by omega
    clear h5
    go_enter Tryz.func70, Tryz.ntmps70
    go_wp2_with fail
    go_ret
    exact ⟨by rw [HT.out]; rfl, (by repeat' (first | exact Below.refl _ _ | refine Below.alloc ?_ ?_ _ | refine Below.setCell ?_ ?_ _ | refine Below.drew ?_ | (apply below_step; assumption) | (simp; done) | (simp; omega) | omega))⟩
set_option maxHeartbeats 6400000 in
set_option maxRecDepth 20000 in
theorem sPoolsOk_any (v : Value) (l : List PV) (w : World) (hv : PoolSl w v l) (hlen : l.length ≤ 1048576) :
    Calls Tryz.prog 54 #[v] w fun e w' => e = .returned (.bool (poolsOk l)) ∧ Below w.heap.size w w' := by
  obtain ⟨A, c, rfl, hA⟩ := hv.form
  have HA := Lib.hid hA
  clear hA hv
  by_cases h5 : l.length ≤ 5
  · have HE := Lib.hid (show poolsOk l = poolsFrom (-1) l by simp [poolsOk, h5])
    have h5' : decide ((5 : Int) < (l.length : Int)) = false := by simp; omega
    go_enter Tryz.func54, Tryz.ntmps54
    go_wp2_with fail
    go_loopw [3] (fun s3 wr => ∃ k : Nat, k ≤ l.length ∧ s3 = .int .i64 k ∧ (∃ p : Int, poolsFrom (-1) l = poolsFrom p (l.drop k) ∧ ((k = 0 ∧ p = -1) ∨ ∃ m n0, k = m + 1 ∧ l[m]? = some n0 ∧ p = n0.id)) ∧ Below w.heap.size w wr) (fun s3 _ => (l.length - intOf s3).toNat)
    case atStart => exact ⟨0, by omega, rfl, ⟨-1, by simp, .inl ⟨rfl, rfl⟩⟩, Below.refl _ _⟩
    case round =>
      obtain ⟨k, hk, rfl, hts, hB⟩ := hrel
      have HTS := Lib.hid hts
      have hzr := hB.size
      clear hts
      by_cases hlt : k < l.length
      · obtain ⟨bn, on, rfl, hbw, hat⟩ := HA.out (by omega)
        obtain ⟨n, ht⟩ : ∃ t, l[k]? = some t := ⟨_, List.getElem?_eq_getElem hlt⟩
        obtain ⟨cs, hR, hC⟩ := (hat.below PoolR.kept hB hbw) k n ht
        have HD := Lib.hid (drop_at ht)
        have HTK := Lib.hid ht
        obtain ⟨v1, v2, rfl, sl, si, m1, m2⟩ := hR
        obtain ⟨A3, c3, rfl, _⟩ := sl.form
        obtain ⟨A4, c4, rfl, _⟩ := si.form
        obtain ⟨q0, q1, q2, q3, q4, q5, q6, q7, q8, q9, q10, q11⟩ := pool_cells hC
        have hki : (k : Int) < (l.length : Int) := by omega
        have hk0 : (0 : Int) ≤ (k : Int) := by omega
        have hbr : bn < wr.heap.size := by omega
        have hok := fun w h1 h2 => sPoolOk_any n (.slice A3 n.shape.labs.length c3) (.slice A4 n.shape.taints.length c4) w h1 h2 m1 m2
        have SL := Lib.hid sl
        have SI := Lib.hid si
        have HK := Lib.hid (show ∀ w', Below wr.heap.size wr w' → (fun w' => Below wr.heap.size wr w' ∧ w'.cell? ⟨bn, on + k * 12, none⟩ = some (.int .i64 n.id) ∧ w'.cell? ⟨bn, on + k * 12 + 1, none⟩ = some (.int .i64 n.min) ∧ w'.cell? ⟨bn, on + k * 12 + 2, none⟩ = some (.int .i64 n.max) ∧ w'.cell? ⟨bn, on + k * 12 + 3, none⟩ = some (.int .i64 n.prio) ∧ w'.cell? ⟨bn, on + k * 12 + 4, none⟩ = some (.int .i64 n.shape.id) ∧ w'.cell? ⟨bn, on + k * 12 + 5, none⟩ = some (.int .i64 n.shape.pool) ∧ w'.cell? ⟨bn, on + k * 12 + 6, none⟩ = some (.int .i64 n.shape.cap.c) ∧ w'.cell? ⟨bn, on + k * 12 + 7, none⟩ = some (.int .i64 n.shape.cap.m) ∧ w'.cell? ⟨bn, on + k * 12 + 8, none⟩ = some (.int .i64 n.shape.cap.p) ∧ w'.cell? ⟨bn, on + k * 12 + 9, none⟩ = some (.slice A3 n.shape.labs.length c3) ∧ w'.cell? ⟨bn, on + k * 12 + 10, none⟩ = some (.slice A4 n.shape.taints.length c4) ∧ w'.cell? ⟨bn, on + k * 12 + 11, none⟩ = some (.bool n.shape.cordon)) w' from fun w' hb => ⟨hb, (hb.cell (p := ⟨_, _, none⟩) hbr).trans q0, (hb.cell (p := ⟨_, _, none⟩) hbr).trans q1, (hb.cell (p := ⟨_, _, none⟩) hbr).trans q2, (hb.cell (p := ⟨_, _, none⟩) hbr).trans q3, (hb.cell (p := ⟨_, _, none⟩) hbr).trans q4, (hb.cell (p := ⟨_, _, none⟩) hbr).trans q5, (hb.cell (p := ⟨_, _, none⟩) hbr).trans q6, (hb.cell (p := ⟨_, _, none⟩) hbr).trans q7, (hb.cell (p := ⟨_, _, none⟩) hbr).trans q8, (hb.cell (p := ⟨_, _, none⟩) hbr).trans q9, (hb.cell (p := ⟨_, _, none⟩) hbr).trans q10, (hb.cell (p := ⟨_, _, none⟩) hbr).trans q11⟩)
        have HAT := Lib.hid hat
        cases ho : n.ok
        · rw [ho] at hok
          have HO := Lib.hid ho
          have HOK := Lib.hid hok
          clear ho hok hat hC ht sl si m1 m2
          go_wp2_with fail
          refine wp_region_held_drew (S := (fun w' => Below wr.heap.size wr w' ∧ w'.cell? ⟨bn, on + k * 12, none⟩ = some (.int .i64 n.id) ∧ w'.cell? ⟨bn, on + k * 12 + 1, none⟩ = some (.int .i64 n.min) ∧ w'.cell? ⟨bn, on + k * 12 + 2, none⟩ = some (.int .i64 n.max) ∧ w'.cell? ⟨bn, on + k * 12 + 3, none⟩ = some (.int .i64 n.prio) ∧ w'.cell? ⟨bn, on + k * 12 + 4, none⟩ = some (.int .i64 n.shape.id) ∧ w'.cell? ⟨bn, on + k * 12 + 5, none⟩ = some (.int .i64 n.shape.pool) ∧ w'.cell? ⟨bn, on + k * 12 + 6, none⟩ = some (.int .i64 n.shape.cap.c) ∧ w'.cell? ⟨bn, on + k * 12 + 7, none⟩ = some (.int .i64 n.shape.cap.m) ∧ w'.cell? ⟨bn, on + k * 12 + 8, none⟩ = some (.int .i64 n.shape.cap.p) ∧ w'.cell? ⟨bn, on + k * 12 + 9, none⟩ = some (.slice A3 n.shape.labs.length c3) ∧ w'.cell? ⟨bn, on + k * 12 + 10, none⟩ = some (.slice A4 n.shape.taints.length c4) ∧ w'.cell? ⟨bn, on + k * 12 + 11, none⟩ = some (.bool n.shape.cordon))) (by kernel_rfl) (by (try dsimp only); exact HK.out _ (by repeat' (first | exact Below.refl _ _ | refine Below.alloc ?_ ?_ _ | refine Below.setCell ?_ ?_ _ | refine Below.drew ?_ | (apply below_step; assumption) | (simp; done) | (simp; omega) | omega))) (fun hHeld => ?_)
          refine hT 0 ?_; simp only [Act.put, rhA, rhS, rhT]
          refine hT 1 ?_; simp only [Act.put, rhA, rhS, rhT]
          refine hT 2 ?_; simp only [Act.put, rhA, rhS, rhT]
          refine hT 3 ?_; simp only [Act.put, rhA, rhS, rhT]
          refine hCall (i := 4) (o := ?a18) ?b18 (by kernel_rfl) ?c18 (fun K hK => ?d18)
          case b18 => simp only [rhN, rhM]; try rfl
          case c18 => rfl
          go_simp
          refine (HOK.out _ (SL.out.below (by repeat' (first | exact Below.refl _ _ | refine Below.alloc ?_ ?_ _ | refine Below.setCell ?_ ?_ _ | refine Below.drew ?_ | (apply below_step; assumption) | (simp; done) | (simp; omega) | omega))) (SI.out.below (by repeat' (first | exact Below.refl _ _ | refine Below.alloc ?_ ?_ _ | refine Below.setCell ?_ ?_ _ | refine Below.drew ?_ | (apply below_step; assumption) | (simp; done) | (simp; omega) | omega)))).mono ?_
          rintro e w3 ⟨rfl, hb_w3⟩
          have hz_w3 := hb_w3.size
          try simp at hz_w3
          go_wp2_with fail
          refine hK.out _ _ (by (try dsimp only); exact HK.out _ (by repeat' (first | exact Below.refl _ _ | refine Below.alloc ?_ ?_ _ | refine Below.setCell ?_ ?_ _ | refine Below.drew ?_ | (apply below_step; assumption) | (simp; done) | (simp; omega) | omega))) (fun hHeld => ?_)
          clear hK K
          try simp only [Act.put, rhA, rhS, rhT]
          refine hT 5 ?_; simp only [Act.put, rhA, rhS, rhT]
          refine hT 6 ?_; simp only [Act.put, rhA, rhS, rhT]
          refine hP 7 ?_; simp only [Act.put, rhA, rhS, rhT]
          refine hP 8 ?_; simp only [Act.put, rhA, rhS, rhT]
          refine hP 9 ?_; simp only [Act.put, rhA, rhS, rhT]
          refine hP 10 ?_; simp only [Act.put, rhA, rhS, rhT]
          refine hP 11 ?_; simp only [Act.put, rhA, rhS, rhT]
          refine hP 12 ?_; simp only [Act.put, rhA, rhS, rhT]
          refine hP 13 ?_; simp only [Act.put, rhA, rhS, rhT]
          refine hP 14 ?_; simp only [Act.put, rhA, rhS, rhT]
          refine hP 15 ?_; simp only [Act.put, rhA, rhS, rhT]
          refine hP 16 ?_; simp only [Act.put, rhA, rhS, rhT]
          refine hP 17 ?_; simp only [Act.put, rhA, rhS, rhT]
          refine hP 18 ?_; simp only [Act.put, rhA, rhS, rhT]
          refine hP 19 ?_; simp only [Act.put, rhA, rhS, rhT]
          refine hP 20 ?_; simp only [Act.put, rhA, rhS, rhT]
          refine hP 21 ?_; simp only [Act.put, rhA, rhS, rhT]
          refine hP 22 ?_; simp only [Act.put, rhA, rhS, rhT]
          refine hT 23 ?_; simp only [Act.put, rhA, rhS, rhT]
          refine wpAnyH_done (by kernel_rfl) ?_ _
          go_wp2_with fail
          go_ret
          refine ⟨?_, below_of hB (by repeat' (first | exact Below.refl _ _ | refine Below.alloc ?_ ?_ _ | refine Below.setCell ?_ ?_ _ | refine Below.drew ?_ | (apply below_step; assumption) | (simp; done) | (simp; omega) | omega))⟩
          obtain ⟨p, hp, _⟩ := HTS.out
          rw [HE.out, hp, HD.out, poolsFrom_bad HO.out]; rfl
        · rw [ho] at hok
          have HO := Lib.hid ho
          have HOK := Lib.hid hok
          clear ho hok hat hC ht sl si m1 m2
          obtain ⟨p, hp, hcase⟩ := HTS.out
          have HP := Lib.hid hp
          clear hp HTS
          rcases hcase with ⟨rfl, rfl⟩ | ⟨m, n0, hkm, hm0, rfl⟩
          · simp only [Nat.zero_mul, Nat.add_zero] at q0 q1 q2 q3 q4 q5 q6 q7 q8 q9 q10 q11 HK
            go_wp2_with fail
            refine wp_region_held_drew (S := (fun w' => Below wr.heap.size wr w' ∧ w'.cell? ⟨bn, on, none⟩ = some (.int .i64 n.id) ∧ w'.cell? ⟨bn, on + 1, none⟩ = some (.int .i64 n.min) ∧ w'.cell? ⟨bn, on + 2, none⟩ = some (.int .i64 n.max) ∧ w'.cell? ⟨bn, on + 3, none⟩ = some (.int .i64 n.prio) ∧ w'.cell? ⟨bn, on + 4, none⟩ = some (.int .i64 n.shape.id) ∧ w'.cell? ⟨bn, on + 5, none⟩ = some (.int .i64 n.shape.pool) ∧ w'.cell? ⟨bn, on + 6, none⟩ = some (.int .i64 n.shape.cap.c) ∧ w'.cell? ⟨bn, on + 7, none⟩ = some (.int .i64 n.shape.cap.m) ∧ w'.cell? ⟨bn, on + 8, none⟩ = some (.int .i64 n.shape.cap.p) ∧ w'.cell? ⟨bn, on + 9, none⟩ = some (.slice A3 n.shape.labs.length c3) ∧ w'.cell? ⟨bn, on + 10, none⟩ = some (.slice A4 n.shape.taints.length c4) ∧ w'.cell? ⟨bn, on + 11, none⟩ = some (.bool n.shape.cordon))) (by kernel_rfl) (by (try dsimp only); exact HK.out _ (by repeat' (first | exact Below.refl _ _ | refine Below.alloc ?_ ?_ _ | refine Below.setCell ?_ ?_ _ | refine Below.drew ?_ | (apply below_step; assumption) | (simp; done) | (simp; omega) | omega))) (fun hHeld => ?_)
            refine hT 0 ?_; simp only [Act.put, rhA, rhS, rhT]
            refine hT 1 ?_; simp only [Act.put, rhA, rhS, rhT]
            refine hT 2 ?_; simp only [Act.put, rhA, rhS, rhT]
            refine hT 3 ?_; simp only [Act.put, rhA, rhS, rhT]
            refine hCall (i := 4) (o := ?a47) ?b47 (by kernel_rfl) ?c47 (fun K hK => ?d47)
            case b47 => simp only [rhN, rhM]; try rfl
            case c47 => rfl
            go_simp
            refine (HOK.out _ (SL.out.below (by repeat' (first | exact Below.refl _ _ | refine Below.alloc ?_ ?_ _ | refine Below.setCell ?_ ?_ _ | refine Below.drew ?_ | (apply below_step; assumption) | (simp; done) | (simp; omega) | omega))) (SI.out.below (by repeat' (first | exact Below.refl _ _ | refine Below.alloc ?_ ?_ _ | refine Below.setCell ?_ ?_ _ | refine Below.drew ?_ | (apply below_step; assumption) | (simp; done) | (simp; omega) | omega)))).mono ?_
            rintro e w3 ⟨rfl, hb_w3⟩
            have hz_w3 := hb_w3.size
            try simp at hz_w3
            go_wp2_with fail
            refine hK.out _ _ (by (try dsimp only); exact HK.out _ (by repeat' (first | exact Below.refl _ _ | refine Below.alloc ?_ ?_ _ | refine Below.setCell ?_ ?_ _ | refine Below.drew ?_ | (apply below_step; assumption) | (simp; done) | (simp; omega) | omega))) (fun hHeld => ?_)
            clear hK K
            try simp only [Act.put, rhA, rhS, rhT]
            refine hT 5 ?_; simp only [Act.put, rhA, rhS, rhT]
            refine hT 6 ?_; simp only [Act.put, rhA, rhS, rhT]
            refine hT 7 ?_; simp only [Act.put, rhA, rhS, rhT]
            refine hT 8 ?_; simp only [Act.put, rhA, rhS, rhT]
            refine hT 9 ?_; simp only [Act.put, rhA, rhS, rhT]
            refine hP 10 ?_; simp only [Act.put, rhA, rhS, rhT]
            refine hP 11 ?_; simp only [Act.put, rhA, rhS, rhT]
            refine hP 12 ?_; simp only [Act.put, rhA, rhS, rhT]
            refine hP 13 ?_; simp only [Act.put, rhA, rhS, rhT]
            refine hP 14 ?_; simp only [Act.put, rhA, rhS, rhT]
            refine hP 15 ?_; simp only [Act.put, rhA, rhS, rhT]
            refine hP 16 ?_; simp only [Act.put, rhA, rhS, rhT]
            refine hP 17 ?_; simp only [Act.put, rhA, rhS, rhT]
            refine hP 18 ?_; simp only [Act.put, rhA, rhS, rhT]
            refine hP 19 ?_; simp only [Act.put, rhA, rhS, rhT]
            refine hP 20 ?_; simp only [Act.put, rhA, rhS, rhT]
            refine hP 21 ?_; simp only [Act.put, rhA, rhS, rhT]
            refine hT 22 ?_; simp only [Act.put, rhA, rhS, rhT]
            refine hT 23 ?_; simp only [Act.put, rhA, rhS, rhT]
            refine wpAnyH_done (by kernel_rfl) ?_ _
            go_wp2_with fail
            go_roundw
            case rel =>
              have hD4 : Below wr.heap.size wr w3 := (by repeat' (first | exact Below.refl _ _ | refine Below.alloc ?_ ?_ _ | refine Below.setCell ?_ ?_ _ | refine Below.drew ?_ | (apply below_step; assumption) | (simp; done) | (simp; omega) | omega))
              refine ⟨1, by omega, by go_num, ⟨n.id, ?_, .inr ⟨0, n, rfl, HTK.out, rfl⟩⟩, below_of hB hD4⟩
              rw [HP.out, HD.out, poolsFrom_first HO.out]
            case measure => simp [intOf]; omega
          · obtain ⟨cs0, hR0, hC0⟩ := (HAT.out.below PoolR.kept hB hbw) m n0 hm0
            obtain ⟨y1, y2, rfl, _, _, _, _⟩ := hR0
            have p0 := (pool_cells hC0).1
            have hgt : 0 < k := by omega
            have hgti : (0 : Int) < (k : Int) := by omega
            have hwr : IntKind.i64.wrap ((k : Int) - 1) = (m : Int) := by rw [IntWalk.i64_in _ (by omega)]; omega
            have hmi : (m : Int) < (l.length : Int) := by omega
            have hm0' : (0 : Int) ≤ (m : Int) := by omega
            have HKM := Lib.hid hkm
            have HM0 := Lib.hid hm0
            have HK := Lib.hid (show ∀ w', Below wr.heap.size wr w' → (fun w' => Below wr.heap.size wr w' ∧ w'.cell? ⟨bn, on + k * 12, none⟩ = some (.int .i64 n.id) ∧ w'.cell? ⟨bn, on + k * 12 + 1, none⟩ = some (.int .i64 n.min) ∧ w'.cell? ⟨bn, on + k * 12 + 2, none⟩ = some (.int .i64 n.max) ∧ w'.cell? ⟨bn, on + k * 12 + 3, none⟩ = some (.int .i64 n.prio) ∧ w'.cell? ⟨bn, on + k * 12 + 4, none⟩ = some (.int .i64 n.shape.id) ∧ w'.cell? ⟨bn, on + k * 12 + 5, none⟩ = some (.int .i64 n.shape.pool) ∧ w'.cell? ⟨bn, on + k * 12 + 6, none⟩ = some (.int .i64 n.shape.cap.c) ∧ w'.cell? ⟨bn, on + k * 12 + 7, none⟩ = some (.int .i64 n.shape.cap.m) ∧ w'.cell? ⟨bn, on + k * 12 + 8, none⟩ = some (.int .i64 n.shape.cap.p) ∧ w'.cell? ⟨bn, on + k * 12 + 9, none⟩ = some (.slice A3 n.shape.labs.length c3) ∧ w'.cell? ⟨bn, on + k * 12 + 10, none⟩ = some (.slice A4 n.shape.taints.length c4) ∧ w'.cell? ⟨bn, on + k * 12 + 11, none⟩ = some (.bool n.shape.cordon) ∧ w'.cell? ⟨bn, on + m * 12, none⟩ = some (.int .i64 n0.id)) w' from fun w' hb => ⟨hb, (hb.cell (p := ⟨_, _, none⟩) hbr).trans q0, (hb.cell (p := ⟨_, _, none⟩) hbr).trans q1, (hb.cell (p := ⟨_, _, none⟩) hbr).trans q2, (hb.cell (p := ⟨_, _, none⟩) hbr).trans q3, (hb.cell (p := ⟨_, _, none⟩) hbr).trans q4, (hb.cell (p := ⟨_, _, none⟩) hbr).trans q5, (hb.cell (p := ⟨_, _, none⟩) hbr).trans q6, (hb.cell (p := ⟨_, _, none⟩) hbr).trans q7, (hb.cell (p := ⟨_, _, none⟩) hbr).trans q8, (hb.cell (p := ⟨_, _, none⟩) hbr).trans q9, (hb.cell (p := ⟨_, _, none⟩) hbr).trans q10, (hb.cell (p := ⟨_, _, none⟩) hbr).trans q11, (hb.cell (p := ⟨_, _, none⟩) hbr).trans p0⟩)
            clear hC0 hkm hm0
            cases hge : decide (n.id ≤ n0.id)
            · have HGE := Lib.hid (show n0.id < n.id by simpa using hge)
              go_wp2_with fail
              refine wp_region_held_drew (S := (fun w' => Below wr.heap.size wr w' ∧ w'.cell? ⟨bn, on + k * 12, none⟩ = some (.int .i64 n.id) ∧ w'.cell? ⟨bn, on + k * 12 + 1, none⟩ = some (.int .i64 n.min) ∧ w'.cell? ⟨bn, on + k * 12 + 2, none⟩ = some (.int .i64 n.max) ∧ w'.cell? ⟨bn, on + k * 12 + 3, none⟩ = some (.int .i64 n.prio) ∧ w'.cell? ⟨bn, on + k * 12 + 4, none⟩ = some (.int .i64 n.shape.id) ∧ w'.cell? ⟨bn, on + k * 12 + 5, none⟩ = some (.int .i64 n.shape.pool) ∧ w'.cell? ⟨bn, on + k * 12 + 6, none⟩ = some (.int .i64 n.shape.cap.c) ∧ w'.cell? ⟨bn, on + k * 12 + 7, none⟩ = some (.int .i64 n.shape.cap.m) ∧ w'.cell? ⟨bn, on + k * 12 + 8, none⟩ = some (.int .i64 n.shape.cap.p) ∧ w'.cell? ⟨bn, on + k * 12 + 9, none⟩ = some (.slice A3 n.shape.labs.length c3) ∧ w'.cell? ⟨bn, on + k * 12 + 10, none⟩ = some (.slice A4 n.shape.taints.length c4) ∧ w'.cell? ⟨bn, on + k * 12 + 11, none⟩ = some (.bool n.shape.cordon) ∧ w'.cell? ⟨bn, on + m * 12, none⟩ = some (.int .i64 n0.id))) (by kernel_rfl) (by (try dsimp only); exact HK.out _ (by repeat' (first | exact Below.refl _ _ | refine Below.alloc ?_ ?_ _ | refine Below.setCell ?_ ?_ _ | refine Below.drew ?_ | (apply below_step; assumption) | (simp; done) | (simp; omega) | omega))) (fun hHeld => ?_)
              refine hT 0 ?_; simp only [Act.put, rhA, rhS, rhT]
              refine hT 1 ?_; simp only [Act.put, rhA, rhS, rhT]
              refine hT 2 ?_; simp only [Act.put, rhA, rhS, rhT]
              refine hT 3 ?_; simp only [Act.put, rhA, rhS, rhT]
              refine hCall (i := 4) (o := ?a80) ?b80 (by kernel_rfl) ?c80 (fun K hK => ?d80)
              case b80 => simp only [rhN, rhM]; try rfl
              case c80 => rfl
              go_simp
              refine (HOK.out _ (SL.out.below (by repeat' (first | exact Below.refl _ _ | refine Below.alloc ?_ ?_ _ | refine Below.setCell ?_ ?_ _ | refine Below.drew ?_ | (apply below_step; assumption) | (simp; done) | (simp; omega) | omega))) (SI.out.below (by repeat' (first | exact Below.refl _ _ | refine Below.alloc ?_ ?_ _ | refine Below.setCell ?_ ?_ _ | refine Below.drew ?_ | (apply below_step; assumption) | (simp; done) | (simp; omega) | omega)))).mono ?_
              rintro e w3 ⟨rfl, hb_w3⟩
              have hz_w3 := hb_w3.size
              try simp at hz_w3
              go_wp2_with fail
              refine hK.out _ _ (by (try dsimp only); exact HK.out _ (by repeat' (first | exact Below.refl _ _ | refine Below.alloc ?_ ?_ _ | refine Below.setCell ?_ ?_ _ | refine Below.drew ?_ | (apply below_step; assumption) | (simp; done) | (simp; omega) | omega))) (fun hHeld => ?_)
              clear hK K
              try simp only [Act.put, rhA, rhS, rhT]
              refine hT 5 ?_; simp only [Act.put, rhA, rhS, rhT]
              refine hT 6 ?_; simp only [Act.put, rhA, rhS, rhT]
              refine hT 7 ?_; simp only [Act.put, rhA, rhS, rhT]
              refine hT 8 ?_; simp only [Act.put, rhA, rhS, rhT]
              refine hT 9 ?_; simp only [Act.put, rhA, rhS, rhT]
              refine hT 10 ?_; simp only [Act.put, rhA, rhS, rhT]
              refine hT 11 ?_; simp only [Act.put, rhA, rhS, rhT]
              refine hT 12 ?_; simp only [Act.put, rhA, rhS, rhT]
              refine hT 13 ?_; simp only [Act.put, rhA, rhS, rhT]
              refine hT 14 ?_; simp only [Act.put, rhA, rhS, rhT]
              refine hT 15 ?_; simp only [Act.put, rhA, rhS, rhT]
              refine hT 16 ?_; simp only [Act.put, rhA, rhS, rhT]
              refine hT 17 ?_; simp only [Act.put, rhA, rhS, rhT]
              refine hT 18 ?_; simp only [Act.put, rhA, rhS, rhT]
              refine hT 19 ?_; simp only [Act.put, rhA, rhS, rhT]
              refine hT 20 ?_; simp only [Act.put, rhA, rhS, rhT]
              refine hT 21 ?_; simp only [Act.put, rhA, rhS, rhT]
              refine hT 22 ?_; simp only [Act.put, rhA, rhS, rhT]
              refine hT 23 ?_; simp only [Act.put, rhA, rhS, rhT]
              refine wpAnyH_done (by kernel_rfl) ?_ _
              clear hwr hge
              go_wp2_with fail
              go_roundw
              case rel =>
                have hD4 : Below wr.heap.size wr w3 := (by repeat' (first | exact Below.refl _ _ | refine Below.alloc ?_ ?_ _ | refine Below.setCell ?_ ?_ _ | refine Below.drew ?_ | (apply below_step; assumption) | (simp; done) | (simp; omega) | omega))
                refine ⟨k + 1, by omega, by go_num, ⟨n.id, ?_, .inr ⟨k, n, rfl, HTK.out, rfl⟩⟩, below_of hB hD4⟩
                rw [HP.out, HD.out, poolsFrom_yes HO.out HGE.out]
              case measure => simp [intOf]; omega
            · have HGE := Lib.hid (show n.id ≤ n0.id by simpa using hge)
              go_wp2_with fail
              refine wp_region_held_drew (S := (fun w' => Below wr.heap.size wr w' ∧ w'.cell? ⟨bn, on + k * 12, none⟩ = some (.int .i64 n.id) ∧ w'.cell? ⟨bn, on + k * 12 + 1, none⟩ = some (.int .i64 n.min) ∧ w'.cell? ⟨bn, on + k * 12 + 2, none⟩ = some (.int .i64 n.max) ∧ w'.cell? ⟨bn, on + k * 12 + 3, none⟩ = some (.int .i64 n.prio) ∧ w'.cell? ⟨bn, on + k * 12 + 4, none⟩ = some (.int .i64 n.shape.id) ∧ w'.cell? ⟨bn, on + k * 12 + 5, none⟩ = some (.int .i64 n.shape.pool) ∧ w'.cell? ⟨bn, on + k * 12 + 6, none⟩ = some (.int .i64 n.shape.cap.c) ∧ w'.cell? ⟨bn, on + k * 12 + 7, none⟩ = some (.int .i64 n.shape.cap.m) ∧ w'.cell? ⟨bn, on + k * 12 + 8, none⟩ = some (.int .i64 n.shape.cap.p) ∧ w'.cell? ⟨bn, on + k * 12 + 9, none⟩ = some (.slice A3 n.shape.labs.length c3) ∧ w'.cell? ⟨bn, on + k * 12 + 10, none⟩ = some (.slice A4 n.shape.taints.length c4) ∧ w'.cell? ⟨bn, on + k * 12 + 11, none⟩ = some (.bool n.shape.cordon) ∧ w'.cell? ⟨bn, on + m * 12, none⟩ = some (.int .i64 n0.id))) (by kernel_rfl) (by (try dsimp only); exact HK.out _ (by repeat' (first | exact Below.refl _ _ | refine Below.alloc ?_ ?_ _ | refine Below.setCell ?_ ?_ _ | refine Below.drew ?_ | (apply below_step; assumption) | (simp; done) | (simp; omega) | omega))) (fun hHeld => ?_)
              refine hT 0 ?_; simp only [Act.put, rhA, rhS, rhT]
              refine hT 1 ?_; simp only [Act.put, rhA, rhS, rhT]
              refine hT 2 ?_; simp only [Act.put, rhA, rhS, rhT]
              refine hT 3 ?_; simp only [Act.put, rhA, rhS, rhT]
              refine hCall (i := 4) (o := ?a108) ?b108 (by kernel_rfl) ?c108 (fun K hK => ?d108)
              case b108 => simp only [rhN, rhM]; try rfl
              case c108 => rfl
              go_simp
              refine (HOK.out _ (SL.out.below (by repeat' (first | exact Below.refl _ _ | refine Below.alloc ?_ ?_ _ | refine Below.setCell ?_ ?_ _ | refine Below.drew ?_ | (apply below_step; assumption) | (simp; done) | (simp; omega) | omega))) (SI.out.below (by repeat' (first | exact Below.refl _ _ | refine Below.alloc ?_ ?_ _ | refine Below.setCell ?_ ?_ _ | refine Below.drew ?_ | (apply below_step; assumption) | (simp; done) | (simp; omega) | omega)))).mono ?_
              rintro e w3 ⟨rfl, hb_w3⟩
              have hz_w3 := hb_w3.size
              try simp at hz_w3
              go_wp2_with fail
              refine hK.out _ _ (by (try dsimp only); exact HK.out _ (by repeat' (first | exact Below.refl _ _ | refine Below.alloc ?_ ?_ _ | refine Below.setCell ?_ ?_ _ | refine Below.drew ?_ | (apply below_step; assumption) | (simp; done) | (simp; omega) | omega))) (fun hHeld => ?_)
              clear hK K
              try simp only [Act.put, rhA, rhS, rhT]
              refine hT 5 ?_; simp only [Act.put, rhA, rhS, rhT]
              refine hT 6 ?_; simp only [Act.put, rhA, rhS, rhT]
              refine hT 7 ?_; simp only [Act.put, rhA, rhS, rhT]
              refine hT 8 ?_; simp only [Act.put, rhA, rhS, rhT]
              refine hT 9 ?_; simp only [Act.put, rhA, rhS, rhT]
              refine hT 10 ?_; simp only [Act.put, rhA, rhS, rhT]
              refine hT 11 ?_; simp only [Act.put, rhA, rhS, rhT]
              refine hT 12 ?_; simp only [Act.put, rhA, rhS, rhT]
              refine hT 13 ?_; simp only [Act.put, rhA, rhS, rhT]
              refine hT 14 ?_; simp only [Act.put, rhA, rhS, rhT]
              refine hT 15 ?_; simp only [Act.put, rhA, rhS, rhT]
              refine hT 16 ?_; simp only [Act.put, rhA, rhS, rhT]
              refine hT 17 ?_; simp only [Act.put, rhA, rhS, rhT]
              refine hT 18 ?_; simp only [Act.put, rhA, rhS, rhT]
              refine hT 19 ?_; simp only [Act.put, rhA, rhS, rhT]
              refine hT 20 ?_; simp only [Act.put, rhA, rhS, rhT]
              refine hT 21 ?_; simp only [Act.put, rhA, rhS, rhT]
              refine hT 22 ?_; simp only [Act.put, rhA, rhS, rhT]
              refine hT 23 ?_; simp only [Act.put, rhA, rhS, rhT]
              refine wpAnyH_done (by kernel_rfl) ?_ _
              go_wp2_with fail
              go_ret
              exact ⟨by rw [HE.out, HP.out, HD.out, poolsFrom_low HGE.out]; rfl, below_of hB (by repeat' (first | exact Below.refl _ _ | refine Below.alloc ?_ ?_ _ | refine Below.setCell ?_ ?_ _ | refine Below.drew ?_ | (apply below_step; assumption) | (simp; done) | (simp; omega) | omega))⟩
      · have hkl : k = l.length := by omega
        have HF := Lib.hid (show poolsFrom (-1) l = true by obtain ⟨p, hp, _⟩ := HTS.out; rw [hp, hkl, List.drop_length]; rfl)
        clear hkl
        go_wp2_with fail
        go_ret
        exact ⟨by rw [HE.out, HF.out]; rfl, hB⟩
  · have HE := Lib.hid (show poolsOk l = false by simp [poolsOk, h5])
    have h5' : (5 : Int) < (l.length : Int) := by omega
    clear h5
    go_enter Tryz.func54, Tryz.ntmps54
    go_wp2_with fail
    go_ret
    exact ⟨by rw [HE.out]; rfl, (by repeat' (first | exact Below.refl _ _ | refine Below.alloc ?_ ?_ _ | refine Below.setCell ?_ ?_ _ | refine Below.drew ?_ | (apply below_step; assumption) | (simp; done) | (simp; omega) | omega))⟩
end Go.Proofs.YtcegofdmdemcbaaGreatDoor
namespace Go.Proofs.YtcegofdmdemcbaaGreatDoor
open Go.ChangeShapes Go.WideShapes Go.ChangeAt Go.RowKit Go.Joins
section
variable {H : Type} {enc : TypeId × Value → H} {W : World}
end
end Go.Proofs.YtcegofdmdemcbaaGreatDoor

namespace Go.Proofs.YtcegofdmdemcbaaGreatDoor

def lWithin (n a b : Int) : Bool := decide (a ≤ n) && decide (n ≤ b)
theorem lWithin_iff {n a b : Int} : lWithin n a b = true ↔ a ≤ n ∧ n ≤ b := by simp [lWithin]
def leaseZero (l : RV) : Bool := l.c == 0 && (l.m == 0 && l.p == 0)
def leaseOk (l : RV) : Bool := leaseZero l || (lWithin l.c 1 4 && lWithin l.m 1 1000 && lWithin l.p 0 200000)
theorem leaseOk_eq (l : RV) (z b1 b2 b3 : Bool) (hz : leaseZero l = z) (h1 : lWithin l.c 1 4 = b1) (h2 : lWithin l.m 1 1000 = b2) (h3 : lWithin l.p 0 200000 = b3) : leaseOk l = (z || (b1 && b2 && b3)) := by
  subst hz h1 h2 h3; rfl
def leaseHolds (l : RV) (who epoch now : Int) : Bool := leaseOk l && (l.c == who) && (l.m == epoch) && (epoch != 0) && !(decide (l.p ≤ now))
theorem leaseHolds_eq (l : RV) (who epoch now : Int) (b0 b1 b2 b3 b4 : Bool) (h0 : leaseOk l = b0) (h1 : (l.c == who) = b1) (h2 : (l.m == epoch) = b2) (h3 : (epoch != 0) = b3) (h4 : decide (l.p ≤ now) = b4) :
    leaseHolds l who epoch now = (b0 && b1 && b2 && b3 && !b4) := by
  subst h0 h1 h2 h3 h4; rfl
def RetL (r : RV × Int) (w : World) (e : Ending) (w' : World) : Prop := e = .returned (.tuple #[.agg #[.int .i64 r.1.c, .int .i64 r.1.m, .int .i64 r.1.p], .int .i64 r.2]) ∧ Go.RowKit.Below w.heap.size w w'
theorem RetL.of {r r' : RV × Int} {w : World} (h : r' = r) : RetL r w = RetL r' w := by rw [h]
end Go.Proofs.YtcegofdmdemcbaaGreatDoor

namespace Go.Proofs.YtcegofdmdemcbaaGreatDoor

abbrev Rise (l : List RV) : Prop := l.Pairwise fun a b => a.c < b.c
end Go.Proofs.YtcegofdmdemcbaaGreatDoor

namespace Go.Proofs.YtcegofdmdemcbaaGreatDoor

def instIn (r : RV) : Bool := lWithin r.c 1 99 && lWithin r.m 0 4 && (r.p == 1 || r.p == 2)
theorem instIn_iff {r : RV} : instIn r = true ↔ (1 ≤ r.c ∧ r.c ≤ 99) ∧ (0 ≤ r.m ∧ r.m ≤ 4) ∧ (r.p = 1 ∨ r.p = 2) := by
  simp only [instIn, Bool.and_eq_true, Bool.or_eq_true, lWithin_iff, beq_iff_eq]; exact and_assoc
def provFrom (last : Int) : List RV → Bool
  | [] => true
  | r :: rs => instIn r && decide (last < r.c) && provFrom r.c rs
def provOk (seen : Int) (l : List RV) : Bool := lWithin seen 0 1000 && decide (l.length ≤ 60) && provFrom 0 l
theorem provFrom_all {last : Int} {l : List RV} (h : provFrom last l = true) : (∀ r ∈ l, last < r.c ∧ instIn r = true) ∧ Rise l := by
  induction l generalizing last with
  | nil => exact ⟨by simp, List.Pairwise.nil⟩
  | cons r rs ih =>
    simp only [provFrom, Bool.and_eq_true, decide_eq_true_eq] at h
    obtain ⟨⟨h1, h2⟩, h3⟩ := h
    obtain ⟨h4, h5⟩ := ih h3
    refine ⟨fun x hx => ?_, List.pairwise_cons.2 ⟨fun x hx => (h4 x hx).1, h5⟩⟩
    rcases List.mem_cons.1 hx with rfl | hx
    · exact ⟨h2, h1⟩
    · exact ⟨Int.lt_trans h2 (h4 x hx).1, (h4 x hx).2⟩
theorem provOk_all {seen : Int} {l : List RV} (h : provOk seen l = true) : (0 ≤ seen ∧ seen ≤ 1000) ∧ l.length ≤ 60 ∧ (∀ r ∈ l, instIn r = true) ∧ Rise l := by
  simp only [provOk, Bool.and_eq_true, decide_eq_true_eq, lWithin_iff] at h
  obtain ⟨⟨h1, h2⟩, h3⟩ := h
  obtain ⟨h4, h5⟩ := provFrom_all h3
  exact ⟨h1, h2, fun r hr => (h4 r hr).2, h5⟩
structure MV where
  k : Int
  e : Int
  i : Int
  p : Int
def msgOk (m : MV) : Bool := lWithin m.e 1 1000 && lWithin m.i 1 99 && ((m.k == 1 && lWithin m.p 0 4) || (m.k == 2 && (m.p == 0)))
theorem msgOk_iff {m : MV} : msgOk m = true ↔ (1 ≤ m.e ∧ m.e ≤ 1000) ∧ (1 ≤ m.i ∧ m.i ≤ 99) ∧ ((m.k = 1 ∧ 0 ≤ m.p ∧ m.p ≤ 4) ∨ (m.k = 2 ∧ m.p = 0)) := by
  simp only [msgOk, Bool.and_eq_true, Bool.or_eq_true, lWithin_iff, beq_iff_eq]; exact and_assoc
end Go.Proofs.YtcegofdmdemcbaaGreatDoor

namespace Go.Proofs.YtcegofdmdemcbaaGreatDoor
open Go.RowKit

def SeenIs (w : World) (g : Nat) (s : List Int) : Prop := ∃ cs : Array Value, BlockIs w g 206 cs ∧ cs.size = 100 ∧ ∀ i : Nat, i < 100 → cs[i]? = some (.bool (s.contains (i : Int)))
theorem SeenIs.below {w w' : World} {g B : Nat} {s : List Int} (h : SeenIs w g s) (hb : Below B w w') (hg : g < B) : SeenIs w' g s := by
  obtain ⟨cs, h1, h2⟩ := h
  exact ⟨cs, h1.below hb hg, h2⟩
theorem SeenIs.put {w : World} {g : Nat} {s : List Int} {z : Int} (h : SeenIs w g s) (h0 : 0 ≤ z) (h1 : z < 100) : SeenIs (w.setCell ⟨g, z.toNat, none⟩ (.bool true)) g (z :: s) := by
  obtain ⟨cs, hb, hs, hc⟩ := h
  refine ⟨_, hb.put _ _, by simp [hs], fun i hi => ?_⟩
  by_cases e : i = z.toNat
  · subst e
    rw [Array.getElem?_setIfInBounds_self_of_lt (by omega)]
    have : ((z.toNat : Nat) : Int) = z := by omega
    simp [this]
  · rw [Array.getElem?_setIfInBounds_ne (by omega), hc i hi]
    have : (i : Int) ≠ z := by omega
    simp [this]
theorem SeenIs.at {w : World} {g : Nat} {s : List Int} {z : Int} (h : SeenIs w g s) (h0 : 0 ≤ z) (h1 : z < 100) : w.cell? ⟨g, z.toNat, none⟩ = some (.bool (s.contains z)) ∧ w.frozen? ⟨g, z.toNat, none⟩ = false ∧ g < w.heap.size := by
  obtain ⟨cs, hb, hs, hc⟩ := h
  refine ⟨?_, hb.frozen _, hb.lt⟩
  rw [hb.cell, hc _ (by omega)]
  have : ((z.toNat : Nat) : Int) = z := by omega
  rw [this]

theorem Tryz.zeroSeen : Tryz.zeroCells206 = Array.replicate 100 (.bool false) := by kernel_rfl
theorem SeenIs.new (w : World) : SeenIs (w.alloc (.cells Tryz.zeroCells206 206)) w.heap.size [] := by
  refine ⟨_, BlockIs.new _ _ _, by rw [Tryz.zeroSeen]; simp, fun i hi => ?_⟩
  rw [Tryz.zeroSeen]
  simp [hi]

set_option maxHeartbeats 1600000 in
theorem tasksOk_any (v : Value) (l : List TV) (w : World) (x : Addr) (hg : ErrAt x w) (hv : TaskSl w v l) (hlen : l.length ≤ 1048576) :
    Calls Tryz.prog 140 #[v] w fun e w' => e = .returned (.bool (tasksOk l)) ∧ Below w.heap.size w w' := by
  obtain ⟨A, c, rfl, hA⟩ := hv.form
  have HA := Lib.hid hA
  have HG := Lib.hid hg
  clear hA hv hg
  by_cases h30 : l.length ≤ 30
  · have HT := Lib.hid (show tasksOk l = tasksFrom [] l by simp [tasksOk, h30])
    go_enter Tryz.func140, Tryz.ntmps140
    go_wp2_with fail
    go_loopw [11] (fun s11 wr => ∃ (k : Nat) (s : List Int), k ≤ l.length ∧ s11 = .int .i64 k ∧ tasksFrom [] l = tasksFrom s (l.drop k) ∧ SeenIs wr w.heap.size s ∧ Below w.heap.size w wr) (fun s11 _ => (l.length - intOf s11).toNat)
    case atStart => exact ⟨0, [], by omega, rfl, by simp, SeenIs.new w, (by repeat' (first | exact Below.refl _ _ | refine Below.alloc ?_ ?_ _ | refine Below.setCell ?_ ?_ _ | refine Below.drew ?_ | (apply below_step; assumption) | (simp; done) | (simp; omega) | omega))⟩
    case round =>
      obtain ⟨k, s, hk, rfl, hts, hS, hB⟩ := hrel
      have HTS := Lib.hid hts
      have HS := Lib.hid hS
      have hzr := hB.size
      have hG : ErrAt x wr := HG.out.below hB (Nat.le_refl _)
      have HGR := Lib.hid hG
      clear hts hS hG
      by_cases hlt : k < l.length
      · obtain ⟨b, off, rfl, hbw, hat⟩ := HA.out (by omega)
        obtain ⟨t, ht⟩ : ∃ t, l[k]? = some t := ⟨_, List.getElem?_eq_getElem hlt⟩
        obtain ⟨cs, hR, hC⟩ := (hat.below TaskR.kept hB hbw) k t ht
        have HD := Lib.hid (drop_at ht)
        obtain ⟨v1, v2, rfl, sl, si, m1, m2⟩ := hR
        obtain ⟨A1, c1, rfl, _⟩ := sl.form
        obtain ⟨A2, c2, rfl, _⟩ := si.form
        have hok := fun w x hg h1 h2 => TaskOk_any t (.slice A1 t.want.length c1) (.slice A2 t.tols.length c2) w x hg h1 h2 m1 m2
        have SL := Lib.hid sl
        have SI := Lib.hid si
        obtain ⟨q0, q1, q2, q3, q4, q5, q6⟩ := task_cells hC
        have hbr : b < wr.heap.size := by omega
        cases ho : t.ok
        all_goals
          rw [ho] at hok
          have HO := Lib.hid ho
          have HOK := Lib.hid hok
        · clear hat hC ht sl si m1 m2 ho hok
          go_wp2_with fail
          have hX : Below wr.heap.size wr (wr.alloc (.cells #[.int .i64 t.id, .int .i64 t.prio, .int .i64 t.need.c, .int .i64 t.need.m, .int .i64 t.need.p, .slice A1 t.want.length c1, .slice A2 t.tols.length c2] 154)) := (by repeat' (first | exact Below.refl _ _ | refine Below.alloc ?_ ?_ _ | refine Below.setCell ?_ ?_ _ | refine Below.drew ?_ | (apply below_step; assumption) | (simp; done) | (simp; omega) | omega))
          refine (HOK.out _ x (HGR.out.alloc _) (SL.out.below hX) (SI.out.below hX)).mono ?_
          rintro e w2 ⟨rfl, hb2⟩
          have hC2 := below_of hX hb2
          go_wp2_with fail
          go_ret
          exact ⟨by rw [HT.out, HTS.out, HD.out, tasksFrom_bad HO.out]; rfl, below_of hB hC2⟩
        · obtain ⟨i1, i2⟩ := TV.ok_id ho
          clear hat hC ht sl si m1 m2 ho hok
          go_wp2_with fail
          have hX : Below wr.heap.size wr (wr.alloc (.cells #[.int .i64 t.id, .int .i64 t.prio, .int .i64 t.need.c, .int .i64 t.need.m, .int .i64 t.need.p, .slice A1 t.want.length c1, .slice A2 t.tols.length c2] 154)) := (by repeat' (first | exact Below.refl _ _ | refine Below.alloc ?_ ?_ _ | refine Below.setCell ?_ ?_ _ | refine Below.drew ?_ | (apply below_step; assumption) | (simp; done) | (simp; omega) | omega))
          refine (HOK.out _ x (HGR.out.alloc _) (SL.out.below hX) (SI.out.below hX)).mono ?_
          rintro e w2 ⟨rfl, hb2⟩
          have hC2 := below_of hX hb2
          have BX := (BlockIs.new wr 154 #[.int .i64 t.id, .int .i64 t.prio, .int .i64 t.need.c, .int .i64 t.need.m, .int .i64 t.need.p, .slice A1 t.want.length c1, .slice A2 t.tols.length c2]).below hb2 (by simp)
          have x0 := BX.cell 0
          simp at x0
          have S2 := HS.out.below hC2 (by obtain ⟨cs, h1, _⟩ := HS.out; exact h1.lt)
          obtain ⟨y0, yf, yl⟩ := S2.at (z := t.id) (by omega) (by omega)
          have HS2 := Lib.hid S2
          have hz2 := hC2.size
          clear BX S2 hb2
          cases hs : s.contains t.id
          all_goals
            rw [hs] at y0
            have HC := Lib.hid hs
            clear hs
          · go_wp2_with fail
            go_roundw
            case rel => exact ⟨k + 1, t.id :: s, by omega, by go_num, by rw [HTS.out, HD.out, tasksFrom_yes HO.out HC.out], HS2.out.put (by omega) (by omega), (below_of hB hC2).setCell (Nat.le_refl _) _⟩
            case measure => simp [intOf]; omega
          · go_wp2_with fail
            go_ret
            exact ⟨by rw [HT.out, HTS.out, HD.out, tasksFrom_twice HC.out]; rfl, below_of hB hC2⟩
      · have hkl : k = l.length := by omega
        have HF := Lib.hid (show tasksFrom [] l = true by rw [HTS.out, hkl, List.drop_length]; rfl)
        clear hkl
        go_wp2_with fail
        go_ret
        exact ⟨by rw [HT.out, HF.out]; rfl, hB⟩
  · have HT := Lib.hid (show tasksOk l = false by simp [tasksOk, h30])
    have h30' : (30 : Int) < (l.length : Int) := by omega
    clear h30
    go_enter Tryz.func140, Tryz.ntmps140
    go_wp2_with fail
    go_ret
    exact ⟨by rw [HT.out]; rfl, (by repeat' (first | exact Below.refl _ _ | refine Below.alloc ?_ ?_ _ | refine Below.setCell ?_ ?_ _ | refine Below.drew ?_ | (apply below_step; assumption) | (simp; done) | (simp; omega) | omega))⟩
end Go.Proofs.YtcegofdmdemcbaaGreatDoor
namespace Go.Proofs.YtcegofdmdemcbaaGreatDoor
open Go.RowKit

set_option maxHeartbeats 1600000 in
theorem nodesOk_any (v : Value) (l : List NV) (w : World) (x : Addr) (hg : ErrAt x w) (hv : NodeSl w v l) (hlen : l.length ≤ 1048576) :
    Calls Tryz.prog 141 #[v] w fun e w' => e = .returned (.bool (nodesOk l)) ∧ Below w.heap.size w w' := by
  obtain ⟨A, c, rfl, hA⟩ := hv.form
  have HA := Lib.hid hA
  have HG := Lib.hid hg
  clear hA hv hg
  by_cases h20 : l.length ≤ 20
  · have HT := Lib.hid (show nodesOk l = nodesFrom 0 l by simp [nodesOk, h20])
    go_enter Tryz.func141, Tryz.ntmps141
    go_wp2_with fail
    go_loopw [3, 11] (fun s3 s11 wr => ∃ (k : Nat) (p : Int), k ≤ l.length ∧ s11 = .int .i64 k ∧ s3 = .int .i64 p ∧ nodesFrom 0 l = nodesFrom p (l.drop k) ∧ Below w.heap.size w wr) (fun _ s11 _ => (l.length - intOf s11).toNat)
    case atStart => exact ⟨0, 0, by omega, rfl, rfl, by simp, Below.refl _ _⟩
    case round =>
      obtain ⟨k, p, hk, rfl, rfl, hts, hB⟩ := hrel
      have HTS := Lib.hid hts
      have hzr := hB.size
      have HGR := Lib.hid (HG.out.below hB (Nat.le_refl _))
      clear hts
      by_cases hlt : k < l.length
      · obtain ⟨b, off, rfl, hbw, hat⟩ := HA.out (by omega)
        obtain ⟨t, ht⟩ : ∃ t, l[k]? = some t := ⟨_, List.getElem?_eq_getElem hlt⟩
        obtain ⟨cs, hR, hC⟩ := (hat.below NodeR.kept hB hbw) k t ht
        have HD := Lib.hid (drop_at ht)
        obtain ⟨v1, v2, rfl, sl, si, m1, m2⟩ := hR
        obtain ⟨A1, c1, rfl, _⟩ := sl.form
        obtain ⟨A2, c2, rfl, _⟩ := si.form
        have hok := fun w x hg h1 h2 => NodeOk_any t (.slice A1 t.labs.length c1) (.slice A2 t.taints.length c2) w x hg h1 h2 m1 m2
        have SL := Lib.hid sl
        have SI := Lib.hid si
        obtain ⟨q0, q1, q2, q3, q4, q5, q6, q7⟩ := node_cells hC
        have hbr : b < wr.heap.size := by omega
        cases ho : t.ok
        all_goals
          rw [ho] at hok
          have HO := Lib.hid ho
          have HOK := Lib.hid hok
          clear hat hC ht sl si m1 m2 ho hok
        · go_wp2_with fail
          have hX : Below wr.heap.size wr (wr.alloc (.cells #[.int .i64 t.id, .int .i64 t.pool, .int .i64 t.cap.c, .int .i64 t.cap.m, .int .i64 t.cap.p, .slice A1 t.labs.length c1, .slice A2 t.taints.length c2, .bool t.cordon] 78)) := (by repeat' (first | exact Below.refl _ _ | refine Below.alloc ?_ ?_ _ | refine Below.setCell ?_ ?_ _ | refine Below.drew ?_ | (apply below_step; assumption) | (simp; done) | (simp; omega) | omega))
          refine (HOK.out _ x (HGR.out.alloc _) (SL.out.below hX) (SI.out.below hX)).mono ?_
          rintro e w2 ⟨rfl, hb2⟩
          have hC2 := below_of hX hb2
          go_wp2_with fail
          go_ret
          exact ⟨by rw [HT.out, HTS.out, HD.out, nodesFrom_bad HO.out]; rfl, below_of hB hC2⟩
        · go_wp2_with fail
          have hX : Below wr.heap.size wr (wr.alloc (.cells #[.int .i64 t.id, .int .i64 t.pool, .int .i64 t.cap.c, .int .i64 t.cap.m, .int .i64 t.cap.p, .slice A1 t.labs.length c1, .slice A2 t.taints.length c2, .bool t.cordon] 78)) := (by repeat' (first | exact Below.refl _ _ | refine Below.alloc ?_ ?_ _ | refine Below.setCell ?_ ?_ _ | refine Below.drew ?_ | (apply below_step; assumption) | (simp; done) | (simp; omega) | omega))
          refine (HOK.out _ x (HGR.out.alloc _) (SL.out.below hX) (SI.out.below hX)).mono ?_
          rintro e w2 ⟨rfl, hb2⟩
          have hC2 := below_of hX hb2
          have BX := (BlockIs.new wr 78 #[.int .i64 t.id, .int .i64 t.pool, .int .i64 t.cap.c, .int .i64 t.cap.m, .int .i64 t.cap.p, .slice A1 t.labs.length c1, .slice A2 t.taints.length c2, .bool t.cordon]).below hb2 (by simp)
          have x0 := BX.cell 0
          simp at x0
          clear BX hb2
          by_cases hp : t.id ≤ p
          · have HP := Lib.hid hp
            go_wp2_with fail
            go_ret
            exact ⟨by rw [HT.out, HTS.out, HD.out, nodesFrom_low HP.out]; rfl, below_of hB hC2⟩
          · have hp' : p < t.id := by omega
            have HP := Lib.hid hp'
            clear hp
            go_wp2_with fail
            go_roundw
            case rel => exact ⟨k + 1, t.id, by omega, by go_num, rfl, by rw [HTS.out, HD.out, nodesFrom_yes HO.out HP.out], below_of hB hC2⟩
            case measure => simp [intOf]; omega
      · have hkl : k = l.length := by omega
        have HF := Lib.hid (show nodesFrom 0 l = true by rw [HTS.out, hkl, List.drop_length]; rfl)
        clear hkl
        go_wp2_with fail
        go_ret
        exact ⟨by rw [HT.out, HF.out]; rfl, hB⟩
  · have HT := Lib.hid (show nodesOk l = false by simp [nodesOk, h20])
    have h20' : (20 : Int) < (l.length : Int) := by omega
    clear h20
    go_enter Tryz.func141, Tryz.ntmps141
    go_wp2_with fail
    go_ret
    exact ⟨by rw [HT.out]; rfl, (by repeat' (first | exact Below.refl _ _ | refine Below.alloc ?_ ?_ _ | refine Below.setCell ?_ ?_ _ | refine Below.drew ?_ | (apply below_step; assumption) | (simp; done) | (simp; omega) | omega))⟩

theorem bindOk_eq (c : CV) (b : BV) (b1 b2 ok : Bool) (t : TV) (n : NV) (h1 : (fstBy TV.id c.tasks b.task).isSome = b1) (h2 : (fstBy NV.id c.nodes b.node).isSome = b2)
    (ht : (fstBy TV.id c.tasks b.task).getD TV.zero = t) (hn : (fstBy NV.id c.nodes b.node).getD NV.zero = n) (hok : canHost n t = ok) : bindOk c b = (b1 && b2 && ok) := by
  subst h1 h2 ht hn hok
  unfold bindOk
  cases fstBy TV.id c.tasks b.task <;> cases fstBy NV.id c.nodes b.node <;> simp

set_option maxHeartbeats 3200000 in
theorem bindsOk_any (c : CV) (a0 a1 a2 : Value) (w : World) (x : Addr) (hg : ErrAt x w) (hc : CluR w c a0 a1 a2) :
    Calls Tryz.prog 142 #[.agg #[a0, a1, a2]] w fun e w' => e = .returned (.bool (bindsFrom c 0 c.binds)) ∧ Below w.heap.size w w' := by
  have HC := Lib.hid hc
  obtain ⟨h0, h1, h2, l0, l1, l2⟩ := hc
  obtain ⟨D0, e0, rfl, r0⟩ := h0.form
  obtain ⟨D1, e1, rfl, r1⟩ := h1.form
  obtain ⟨D2, e2, rfl, hA⟩ := h2.form
  have HA := Lib.hid hA
  have HG := Lib.hid hg
  clear hA h0 h1 h2 l0 l1 r0 r1 hg
  go_enter Tryz.func142, Tryz.ntmps142
  go_wp2_with fail
  go_loopw [3, 13] (fun s3 s13 wr => ∃ (k : Nat) (p : Int), k ≤ c.binds.length ∧ s13 = .int .i64 k ∧ s3 = .int .i64 p ∧ bindsFrom c 0 c.binds = bindsFrom c p (c.binds.drop k) ∧ BlockIs wr w.heap.size 32 #[.slice D0 c.tasks.length e0, .slice D1 c.nodes.length e1, .slice D2 c.binds.length e2] ∧ Below w.heap.size w wr) (fun _ s13 _ => (c.binds.length - intOf s13).toNat)
  case atStart => exact ⟨0, 0, by omega, rfl, rfl, by simp, BlockIs.new _ _ _, (by repeat' (first | exact Below.refl _ _ | refine Below.alloc ?_ ?_ _ | refine Below.setCell ?_ ?_ _ | refine Below.drew ?_ | (apply below_step; assumption) | (simp; done) | (simp; omega) | omega))⟩
  case round =>
    obtain ⟨k, p, hk, rfl, rfl, hts, hblk, hB⟩ := hrel
    have HTS := Lib.hid hts
    have HBK := Lib.hid hblk
    have hzr := hB.size
    have hgl := hblk.lt
    have HGR := Lib.hid (HG.out.below hB (Nat.le_refl _))
    clear hts
    by_cases hlt : k < c.binds.length
    · obtain ⟨b, off, rfl, hbw, hat⟩ := HA.out (by omega)
      obtain ⟨t, ht⟩ : ∃ t, c.binds[k]? = some t := ⟨_, List.getElem?_eq_getElem hlt⟩
      obtain ⟨cs, hR, hC⟩ := (hat.below BindR.kept hB hbw) k t ht
      have HD := Lib.hid (drop_at ht)
      obtain rfl := hR
      obtain ⟨q0, q1⟩ := bind_cells hC
      have g0 := hblk.cell 0
      have g1 := hblk.cell 1
      have g2 := hblk.cell 2
      simp at g0 g1 g2
      have hbr : b < wr.heap.size := by omega
      clear hat hC ht hblk
      go_wp2_with fail
      have hX : Below wr.heap.size wr (wr.alloc (.cells #[.int .i64 t.task, .int .i64 t.node] 157)) := (by repeat' (first | exact Below.refl _ _ | refine Below.alloc ?_ ?_ _ | refine Below.setCell ?_ ?_ _ | refine Below.drew ?_ | (apply below_step; assumption) | (simp; done) | (simp; omega) | omega))
      have hCX := below_of hB hX
      refine (findTask_any c _ _ _ t.task w _ hCX HC.out).mono ?_
      rintro e w2 ⟨cs1, rfl, hR1, hb2⟩
      generalize hb1 : (fstBy TV.id c.tasks t.task).isSome = b1
      generalize ht1 : (fstBy TV.id c.tasks t.task).getD TV.zero = t1 at hR1
      have HB1 := Lib.hid hb1
      have HT1 := Lib.hid ht1
      obtain ⟨v1, v2, rfl, sl1, si1, m1, m2⟩ := hR1
      obtain ⟨A1, c1, rfl, _⟩ := sl1.form
      obtain ⟨A2, c2, rfl, _⟩ := si1.form
      have hD2 := below_of hX hb2
      have hC2 := below_of hB hD2
      have BB2 := (BlockIs.new wr 157 #[.int .i64 t.task, .int .i64 t.node]).below hb2 (by simp)
      have BK2 := HBK.out.below hD2 HBK.out.lt
      have g0 := BK2.cell 0
      have g1 := BK2.cell 1
      have g2 := BK2.cell 2
      have y0 := BB2.cell 0
      have y1 := BB2.cell 1
      have yl := BB2.lt
      have kl := BK2.lt
      simp at g0 g1 g2 y0 y1
      have HBB := Lib.hid BB2
      have HBK2 := Lib.hid BK2
      have SL1 := Lib.hid sl1
      have SI1 := Lib.hid si1
      have M1 := Lib.hid (And.intro m1 m2)
      clear hb1 ht1 BB2 BK2 sl1 si1 m1 m2 hb2
      go_wp2_with fail
      have hX2 : Below w2.heap.size w2 (w2.alloc (.cells #[.int .i64 t1.id, .int .i64 t1.prio, .int .i64 t1.need.c, .int .i64 t1.need.m, .int .i64 t1.need.p, .slice A1 t1.want.length c1, .slice A2 t1.tols.length c2] 154)) := (by repeat' (first | exact Below.refl _ _ | refine Below.alloc ?_ ?_ _ | refine Below.setCell ?_ ?_ _ | refine Below.drew ?_ | (apply below_step; assumption) | (simp; done) | (simp; omega) | omega))
      have hCX2 := below_of hC2 hX2
      refine (findNode_any c _ _ _ t.node w _ hCX2 HC.out).mono ?_
      rintro e w3 ⟨cs2, rfl, hR2, hb3⟩
      generalize hb2 : (fstBy NV.id c.nodes t.node).isSome = b2
      generalize ht2 : (fstBy NV.id c.nodes t.node).getD NV.zero = n2 at hR2
      have HB2 := Lib.hid hb2
      have HT2 := Lib.hid ht2
      obtain ⟨u1, u2, rfl, sl2, si2, m3, m4⟩ := hR2
      obtain ⟨A3, c3, rfl, _⟩ := sl2.form
      obtain ⟨A4, c4, rfl, _⟩ := si2.form
      have hD3 := below_of hX2 hb3
      have hC3 := below_of hC2 hD3
      have BB3 := HBB.out.below hD3 HBB.out.lt
      have BK3 := HBK2.out.below hD3 HBK2.out.lt
      have BT3 := (BlockIs.new w2 154 #[.int .i64 t1.id, .int .i64 t1.prio, .int .i64 t1.need.c, .int .i64 t1.need.m, .int .i64 t1.need.p, .slice A1 t1.want.length c1, .slice A2 t1.tols.length c2]).below hb3 (by simp)
      have HR := Lib.hid (bindOk_eq c t b1 b2 _ t1 n2 HB1.out HB2.out HT1.out HT2.out rfl)
      have hch := fun w x hg h1 h2 h3 h4 => CanHost_any n2 t1 (.slice A3 n2.labs.length c3) (.slice A4 n2.taints.length c4) (.slice A1 t1.want.length c1) (.slice A2 t1.tols.length c2) w x hg h1 h2 h3 h4 m3 m4 M1.out.1 M1.out.2
      generalize canHost n2 t1 = ok at HR hch
      have HCH := Lib.hid hch
      have y0 := BB3.cell 0
      have yl := BB3.lt
      have tl := BT3.lt
      have kl := BK3.lt
      simp at y0
      have z0 := BT3.cell 0
      have z1 := BT3.cell 1
      have z2 := BT3.cell 2
      have z3 := BT3.cell 3
      have z4 := BT3.cell 4
      have z5 := BT3.cell 5
      have z6 := BT3.cell 6
      simp at z0 z1 z2 z3 z4 z5 z6
      have HBB3 := Lib.hid BB3
      have HBK3 := Lib.hid BK3
      have SL2 := Lib.hid sl2
      have SI2 := Lib.hid si2
      clear hb2 ht2 BB3 BK3 BT3 sl2 si2 hb3 m3 m4 hch HBB HBK2 g0 g1 g2 y1
      by_cases hp : t.task ≤ p
      · have HP := Lib.hid hp
        go_wp2_with fail
        go_ret
        exact ⟨by rw [HTS.out, HD.out, bindsFrom_low HP.out]; rfl, (by repeat' (first | exact Below.refl _ _ | refine Below.alloc ?_ ?_ _ | refine Below.setCell ?_ ?_ _ | refine Below.drew ?_ | (apply below_step; assumption) | (simp; done) | (simp; omega) | omega))⟩
      · have hp' : p < t.task := by omega
        have HP := Lib.hid hp'
        clear hp
        cases b1
        · go_wp2_with fail
          go_ret
          exact ⟨by rw [HTS.out, HD.out, bindsFrom_bad (by rw [HR.out]; rfl)]; rfl, (by repeat' (first | exact Below.refl _ _ | refine Below.alloc ?_ ?_ _ | refine Below.setCell ?_ ?_ _ | refine Below.drew ?_ | (apply below_step; assumption) | (simp; done) | (simp; omega) | omega))⟩
        cases b2
        · go_wp2_with fail
          go_ret
          exact ⟨by rw [HTS.out, HD.out, bindsFrom_bad (by rw [HR.out]; rfl)]; rfl, (by repeat' (first | exact Below.refl _ _ | refine Below.alloc ?_ ?_ _ | refine Below.setCell ?_ ?_ _ | refine Below.drew ?_ | (apply below_step; assumption) | (simp; done) | (simp; omega) | omega))⟩
        go_wp2_with fail
        have hX3 : Below w3.heap.size w3 (w3.alloc (.cells #[.int .i64 n2.id, .int .i64 n2.pool, .int .i64 n2.cap.c, .int .i64 n2.cap.m, .int .i64 n2.cap.p, .slice A3 n2.labs.length c3, .slice A4 n2.taints.length c4, .bool n2.cordon] 78)) := (by repeat' (first | exact Below.refl _ _ | refine Below.alloc ?_ ?_ _ | refine Below.setCell ?_ ?_ _ | refine Below.drew ?_ | (apply below_step; assumption) | (simp; done) | (simp; omega) | omega))
        have hCX3 := below_of hC3 hX3
        refine (HCH.out _ x (HG.out.below hCX3 (Nat.le_refl _)) (SL2.out.below hCX3) (SI2.out.below hCX3) (SL1.out.below hCX3) (SI1.out.below hCX3)).mono ?_
        rintro e w4 ⟨rfl, hb4⟩
        have hD4 := below_of hX3 hb4
        have hC4 := below_of hC3 hD4
        have BB4 := HBB3.out.below hD4 HBB3.out.lt
        have y0 := BB4.cell 0
        simp at y0
        have HBK4 := Lib.hid (HBK3.out.below hD4 HBK3.out.lt)
        clear BB4 hb4
        cases ok
        · go_wp2_with fail
          go_ret
          exact ⟨by rw [HTS.out, HD.out, bindsFrom_bad (by rw [HR.out]; rfl)]; rfl, hC4⟩
        · go_wp2_with fail
          go_roundw
          case rel => exact ⟨k + 1, t.task, by omega, by go_num, rfl, by rw [HTS.out, HD.out, bindsFrom_yes (by rw [HR.out]; rfl) HP.out], HBK4.out, hC4⟩
          case measure => simp [intOf]; omega
    · have hkl : k = c.binds.length := by omega
      have HF := Lib.hid (show bindsFrom c 0 c.binds = true by rw [HTS.out, hkl, List.drop_length]; rfl)
      clear hkl
      go_wp2_with fail
      go_ret
      exact ⟨by rw [HF.out]; rfl, hB⟩
end Go.Proofs.YtcegofdmdemcbaaGreatDoor

namespace Go.Proofs.YtcegofdmdemcbaaGreatDoor
open Go.RowKit

def ResAt (w : World) (b off : Nat) (l : List RV) : Prop :=
  ∀ i r, l[i]? = some r → w.cell? ⟨b, off + i * 3, none⟩ = some (.int .i64 r.c) ∧ w.cell? ⟨b, off + i * 3 + 1, none⟩ = some (.int .i64 r.m) ∧ w.cell? ⟨b, off + i * 3 + 2, none⟩ = some (.int .i64 r.p)
def ResSl (w : World) (v : Value) (l : List RV) : Prop := (l = [] ∧ ∃ A c, v = .slice A 0 c) ∨ ∃ b off c, v = .slice (some ⟨b, off, none⟩) l.length c ∧ b < w.heap.size ∧ ResAt w b off l
theorem ResAt.below {w w' : World} {b off B : Nat} {l : List RV} (h : ResAt w b off l) (hb : Below B w w') (hB : b < B) : ResAt w' b off l := fun i r hr => by
  obtain ⟨h1, h2, h3⟩ := h i r hr
  exact ⟨(hb.cell (p := ⟨b, _, none⟩) hB).trans h1, (hb.cell (p := ⟨b, _, none⟩) hB).trans h2, (hb.cell (p := ⟨b, _, none⟩) hB).trans h3⟩
theorem ResSl.below {w w' : World} {v : Value} {l : List RV} (h : ResSl w v l) (hb : Below w.heap.size w w') : ResSl w' v l := by
  rcases h with h | ⟨b, off, c, rfl, hlt, h⟩
  · exact .inl h
  · exact .inr ⟨b, off, c, rfl, Nat.lt_of_lt_of_le hlt hb.size, h.below hb hlt⟩
end Go.Proofs.YtcegofdmdemcbaaGreatDoor

namespace Go.Proofs.YtcegofdmdemcbaaGreatDoor
open Go.RowKit

theorem ResSl.form {w : World} {v : Value} {l : List RV} (h : ResSl w v l) : ∃ A c, v = .slice A l.length c ∧ (0 < l.length → ∃ b off, A = some ⟨b, off, none⟩ ∧ b < w.heap.size ∧ ResAt w b off l) := by
  rcases h with ⟨rfl, A, c, rfl⟩ | ⟨b, off, c, rfl, hlt, h⟩
  · exact ⟨A, c, rfl, fun h => absurd h (by simp)⟩
  · exact ⟨_, c, rfl, fun _ => ⟨b, off, rfl, hlt, h⟩⟩
def SumAt (X : World) (g : Nat) (s : RV) (wr : World) : Prop := Below g X wr ∧ X.heap.size ≤ wr.heap.size ∧ BlockIs wr g 75 #[.int .i64 s.c, .int .i64 s.m, .int .i64 s.p]

set_option maxHeartbeats 1600000 in
theorem ResSum_any (v : Value) (l : List RV) (w : World) (x : Addr) (hg : ErrAt x w) (hv : ResSl w v l) (hlen : l.length ≤ 1048576) :
    Calls Tryz.prog 214 #[v] w (RetR (sumGo RV.zero l).1 (sumGo RV.zero l).2 w) := by
  obtain ⟨A, c, rfl, hA⟩ := hv.form
  have HA := Lib.hid hA
  clear hA hv
  have hgw := hg.lt
  go_enter Tryz.func214, Tryz.ntmps214
  go_wp2_with fail
  go_loopw [12] (fun s12 wr => ∃ (k : Nat) (s : RV), k ≤ l.length ∧ s12 = .int .i64 k ∧ sumGo RV.zero l = sumGo s (l.drop k) ∧ SumAt ((w.alloc (.cells #[.int .i64 0, .int .i64 0, .int .i64 0] 75)).alloc (.cells #[.int .i64 0, .int .i64 0, .int .i64 0] 75)) (w.heap.size + 1) s wr) (fun s12 _ => (l.length - intOf s12).toNat)
  case atStart =>
    refine ⟨0, RV.zero, by omega, rfl, by rw [List.drop_zero], (by repeat' (first | exact Below.refl _ _ | refine Below.alloc ?_ ?_ _ | refine Below.setCell ?_ ?_ _ | refine Below.drew ?_ | (apply below_step; assumption) | (simp; done) | (simp; omega) | omega)), by simp, ?_⟩
    have := BlockIs.new (w.alloc (.cells #[.int .i64 0, .int .i64 0, .int .i64 0] 75)) 75 #[.int .i64 0, .int .i64 0, .int .i64 0]
    simpa [RV.zero] using this
  case round =>
    obtain ⟨k, s, hk, rfl, hsum, hB, hzr, hblk⟩ := hrel
    have HS := Lib.hid hsum
    clear hsum
    simp at hzr
    have t0 := hblk.cell 0
    have t1 := hblk.cell 1
    have t2 := hblk.cell 2
    have tf := hblk.frozen
    simp at t0 t1 t2
    have hBL := Lib.hid hblk
    clear hblk
    have hcr : ∀ b o, b < w.heap.size + 1 → wr.cell? ⟨b, o, none⟩ = ((w.alloc (.cells #[.int .i64 0, .int .i64 0, .int .i64 0] 75)).alloc (.cells #[.int .i64 0, .int .i64 0, .int .i64 0] 75)).cell? ⟨b, o, none⟩ := fun b o h => hB.cell (p := ⟨b, o, none⟩) h
    have hfr : ∀ b o, b < w.heap.size + 1 → wr.frozen? ⟨b, o, none⟩ = ((w.alloc (.cells #[.int .i64 0, .int .i64 0, .int .i64 0] 75)).alloc (.cells #[.int .i64 0, .int .i64 0, .int .i64 0] 75)).frozen? ⟨b, o, none⟩ := fun b o h => hB.frozen (p := ⟨b, o, none⟩) h
    by_cases hlt : k < l.length
    · obtain ⟨b, off, rfl, hbw, hat⟩ := HA.out (by omega)
      obtain ⟨r, hr⟩ : ∃ r, l[k]? = some r := ⟨_, List.getElem?_eq_getElem hlt⟩
      have hd := drop_at hr
      obtain ⟨q0, q1, q2⟩ := hat k r hr
      have hbn : b < w.heap.size + 1 := by omega
      have HSD := Lib.hid (HS.out.trans (congrArg (sumGo s) hd))
      have hg1 : ErrAt x wr := by
        unfold ErrAt at *
        rw [hcr _ _ (by omega), World.cell?_alloc_lt _ _ _ (by simp <;> omega), World.cell?_alloc_lt _ _ _ hgw]; exact hg
      have hr1 : w.heap.size + 1 < wr.heap.size := by omega
      clear hd hr hat
      have hadd := fun w hg => ResAdd_any s r w x hg
      cases ho : resAddOk s r
      all_goals
        simp only [ho] at hadd
        have HADD := Lib.hid hadd
        have HO := Lib.hid ho
        clear hadd ho
        go_wp2_with fail
        refine (HADD.out _ (hg1.alloc _)).mono ?_
        rintro e w3 ⟨rfl, hb3⟩
        obtain ⟨hc3, hf3⟩ := bcell hb3
        have hz3 := hb3.size
        simp at hz3
        have hq0 : w.heap.size < w3.heap.size := by omega
        have hq1 : w.heap.size + 1 < w3.heap.size := by omega
        have hq2 : w.heap.size < wr.heap.size := by omega
        go_wp2_with fail
      · have HF : Hid (sumGo RV.zero l = (RV.zero, false)) := HSD.out.trans (sumGo_cons_no HO.out)
        have hz : ∀ o, w3.cell? ⟨w.heap.size, o, none⟩ = wr.cell? ⟨w.heap.size, o, none⟩ := fun o => by rw [hc3 _ _ (by simp; omega), World.cell?_alloc_lt _ _ _ hq2]
        refine bodyPost_ret (v := .tuple #[.agg #[.int .i64 RV.zero.c, .int .i64 RV.zero.m, .int .i64 RV.zero.p], .bool false]) (by simp [results, Tryz.results214, go_sem, hz, hcr, hq0, RV.zero]) rfl ?_
        rw [HF.out]
        exact ⟨rfl, (by repeat' (first | exact Below.refl _ _ | refine Below.alloc ?_ ?_ _ | refine Below.setCell ?_ ?_ _ | refine Below.drew ?_ | (apply below_step; assumption) | (simp; done) | (simp; omega) | omega))⟩
      · go_roundw
        case rel =>
          refine ⟨k + 1, resAdd s r, by omega, by go_num, HSD.out.trans (sumGo_cons_yes HO.out), (by repeat' (first | exact Below.refl _ _ | refine Below.alloc ?_ ?_ _ | refine Below.setCell ?_ ?_ _ | refine Below.drew ?_ | (apply below_step; assumption) | (simp; done) | (simp; omega) | omega)), by simp; omega, ?_⟩
          have hb4 := ((((((hBL.out.alloc _).below hb3 (by simp; omega)).put 0 (.int .i64 (resAdd s r).c)).put 1 (.int .i64 (resAdd s r).m)).put 2 (.int .i64 (resAdd s r).p))).alloc (.cells #[.int .i64 (resAdd s r).c, .int .i64 (resAdd s r).m, .int .i64 (resAdd s r).p] 75)
          simpa using hb4
        case measure => simp [intOf]; omega
    · have hkl : k = l.length := by omega
      have HF : Hid (sumGo RV.zero l = (s, true)) := by
        show _ = _
        rw [HS.out, hkl, List.drop_length]; rfl
      clear hkl
      have hr0 : w.heap.size < wr.heap.size := by omega
      go_wp2_with fail
      refine bodyPost_ret (v := .tuple #[.agg #[.int .i64 s.c, .int .i64 s.m, .int .i64 s.p], .bool true]) (by first | (simp [results, Tryz.results214, go_sem, hcr]; done) | simp [results, Tryz.results214, go_sem, hcr, t0, t1, t2]) rfl ?_
      rw [HF.out]
      exact ⟨rfl, (by repeat' (first | exact Below.refl _ _ | refine Below.alloc ?_ ?_ _ | refine Below.setCell ?_ ?_ _ | refine Below.drew ?_ | (apply below_step; assumption) | (simp; done) | (simp; omega) | omega))⟩
end Go.Proofs.YtcegofdmdemcbaaGreatDoor

namespace Go.Proofs.YtcegofdmdemcbaaGreatDoor
open Go.RowKit

def resL (l : List RV) : List Value := l.flatMap fun x => [.int .i64 x.c, .int .i64 x.m, .int .i64 x.p]
theorem resL_append (a b : List RV) : resL (a ++ b) = resL a ++ resL b := by simp [resL]
theorem resL_cons (x : RV) (r : List RV) : resL (x :: r) = .int .i64 x.c :: .int .i64 x.m :: .int .i64 x.p :: resL r := rfl
theorem resL_at {l : List RV} {i : Nat} {x : RV} (h : l[i]? = some x) : (resL l)[i * 3]? = some (.int .i64 x.c) ∧ (resL l)[i * 3 + 1]? = some (.int .i64 x.m) ∧ (resL l)[i * 3 + 2]? = some (.int .i64 x.p) := by
  induction l generalizing i with
  | nil => simp at h
  | cons y r ih =>
    cases i with
    | zero => simp at h; subst h; exact ⟨rfl, rfl, rfl⟩
    | succ i =>
      simp at h
      have := ih h
      rw [resL_cons, show (i + 1) * 3 = i * 3 + 1 + 1 + 1 by omega]
      simpa using this
def OwnsR (w : World) (base : Nat) (v : Value) (l : List RV) : Prop := w.ownsRow base 75 3 v l.length (resL l)
section
variable {w w' : World} {base : Nat} {v : Value} {l : List RV}
theorem OwnsR.alloc (h : OwnsR w base v l) (o : Obj) : OwnsR (w.alloc o) base v l := World.ownsRow.alloc h o
theorem OwnsR.nil (w : World) (base : Nat) : OwnsR w base (.slice none 0 0) [] := World.ownsRow_nil w base _ _
theorem OwnsR.below {B : Nat} (h : OwnsR w base v l) (hb : Below B w w') (hB : w.heap.size ≤ B) : OwnsR w' base v l := by
  obtain ⟨h1, h2⟩ := h
  refine ⟨h1, ?_⟩
  rcases h2 with h | ⟨g, cap, cur, hv, hg, hh, h⟩
  · exact .inl h
  · have hlt : g < w.heap.size := (Array.getElem?_eq_some_iff.1 hh).1
    exact .inr ⟨g, cap, cur, hv, hg, (hb.block g (by omega)).trans hh, h⟩
theorem OwnsR.form (h : OwnsR w base v l) : (v = .slice none 0 0 ∧ l = []) ∨ ∃ g cap cur, v = .slice (some ⟨g, 0, none⟩) l.length cap ∧ base ≤ g ∧ BlockIs w g 75 cur ∧ ∀ (j : Nat) (u : Value), (resL l)[j]? = some u → cur[j]? = some u := by
  obtain ⟨h1, h2⟩ := h
  rcases h2 with ⟨hv, hn⟩ | ⟨g, cap, cur, hv, hg, hh, hnc, _, hs, ht⟩
  · exact .inl ⟨hv, List.eq_nil_of_length_eq_zero hn⟩
  · refine .inr ⟨g, cap, cur, hv, hg, hh, fun j u hu => ?_⟩
    rw [← ht] at hu
    have hj : j < l.length * 3 := by
      have := (List.getElem?_eq_some_iff.1 hu).1
      rw [List.length_take] at this; omega
    rw [List.getElem?_take_of_lt hj] at hu
    simpa using hu
theorem OwnsR.sl (h : OwnsR w base v l) : ResSl w v l := by
  rcases h.form with ⟨rfl, rfl⟩ | ⟨g, cap, cur, rfl, _, hb, hc⟩
  · exact .inl ⟨rfl, _, _, rfl⟩
  · refine .inr ⟨g, 0, cap, rfl, hb.lt, fun i r hr => ?_⟩
    obtain ⟨h1, h2, h3⟩ := resL_at hr
    simp only [Nat.zero_add]
    exact ⟨(hb.cell _).trans (hc _ _ h1), (hb.cell _).trans (hc _ _ h2), (hb.cell _).trans (hc _ _ h3)⟩
theorem OwnsR.len (h : OwnsR w base v l) : ∃ A c, v = .slice A l.length c := by
  rcases h.form with ⟨rfl, rfl⟩ | ⟨g, cap, cur, rfl, _⟩
  · exact ⟨_, _, rfl⟩
  · exact ⟨_, _, rfl⟩
end
theorem infoR : (Tryz.prog.info? 75).map (fun i => (i.zero, i.size, i.bytes)) = some (some (.agg #[.int .i64 0, .int .i64 0, .int .i64 0]), 3, 24) := by kernel_rfl
theorem step_append_res {ops : Array Oper} {o : Oper} {a : Act} {K : Act → World → Prop} {Q : Exit → Act → World → Prop} {E : Prop} (w : World) (hgd : o.guard = none) (s x : Operand)
    (ho : o.op = .call { callee := .builtin .append, args := #[s, x], argTypes := #[199, 199] })
    (base : Nat) (v : Value) (l : List RV) (r : RV) (g : Nat) (hs : a.eval s = v) (hown : OwnsR w base v l) (hx : a.eval x = .slice (some ⟨g, 0, none⟩) 1 1)
    (h0 : w.cell? ⟨g, 0, none⟩ = some (.int .i64 r.c)) (h1 : w.cell? ⟨g, 1, none⟩ = some (.int .i64 r.m)) (h2 : w.cell? ⟨g, 2, none⟩ = some (.int .i64 r.p)) (hl : l.length ≤ 2000000) (hbase : base ≤ w.heap.size)
    (h : ∀ v' w', OwnsR w' base v' (l ++ [r]) → Below base w w' → K (a.put o.dst v') w') : if Region.wanted o (yielded ops a.tmps) = true then Oper.wp Tryz.prog o a w K Q else E := by
  have hw : Region.wanted o (yielded ops a.tmps) = true := by simp [Region.wanted, hgd]
  rw [if_pos hw]
  obtain ⟨i0, hi0, hz0, hz1, hz2⟩ := info_parts infoR
  refine wp_append_own w s x 199 ho base 75 i0 _ 3 24 Tryz.underlying199 hi0 hz0 hz1 hz2 rfl (by omega) v l.length (resL l) hs hown ⟨g, 0, none⟩ 1 1 [.int .i64 r.c, .int .i64 r.m, .int .i64 r.p] hx rfl ?_ ?_ (by simp only [maxLen]; omega) (by omega) hbase ?_
  · intro j u hj
    match j, hj with
    | 0, hj => simp at hj; subst hj; simpa [Addr.add] using h0
    | 1, hj => simp at hj; subst hj; simpa [Addr.add] using h1
    | 2, hj => simp at hj; subst hj; simpa [Addr.add] using h2
  · intro u hu
    simp at hu
    rcases hu with rfl | rfl | rfl <;> rfl
  · intro v' w' hown' hgrow _
    refine h v' w' ?_ ((Below.refl _ _).grown hgrow hbase (fun k hk => (World.ownsRow.lt hown k hk).1))
    unfold OwnsR
    rw [resL_append, List.length_append]
    exact hown'
end Go.Proofs.YtcegofdmdemcbaaGreatDoor

namespace Go.Proofs.YtcegofdmdemcbaaGreatDoor
open Go.RowKit Go.Shelf
attribute [local go_sem] Oper.semAt_some

def tasksOnL (c : CV) (z : Int) : List BV → List TV
  | [] => []
  | b :: r => if b.node = z then (fstBy TV.id c.tasks b.task).toList ++ tasksOnL c z r else tasksOnL c z r
theorem tasksOnL_append (c : CV) (z : Int) (a b : List BV) : tasksOnL c z (a ++ b) = tasksOnL c z a ++ tasksOnL c z b := by
  induction a with
  | nil => rfl
  | cons x r ih => simp only [List.cons_append, tasksOnL, ih]; split <;> simp
theorem tasksOnL_len (c : CV) (z : Int) (l : List BV) : (tasksOnL c z l).length ≤ l.length := by
  induction l with
  | nil => simp [tasksOnL]
  | cons b r ih =>
    have : (fstBy TV.id c.tasks b.task).toList.length ≤ 1 := by cases fstBy TV.id c.tasks b.task <;> simp
    unfold tasksOnL; split <;> simp <;> omega
theorem on_yes {c : CV} {z : Int} {k : Nat} {b : BV} {t : TV} (h : c.binds[k]? = some b) (e : b.node = z) (ht : fstBy TV.id c.tasks b.task = some t) : tasksOnL c z (c.binds.take (k + 1)) = tasksOnL c z (c.binds.take k) ++ [t] := by
  rw [take_at h, tasksOnL_append]; simp [tasksOnL, e, ht]
theorem on_gone {c : CV} {z : Int} {k : Nat} {b : BV} (h : c.binds[k]? = some b) (ht : fstBy TV.id c.tasks b.task = none) : tasksOnL c z (c.binds.take (k + 1)) = tasksOnL c z (c.binds.take k) := by
  rw [take_at h, tasksOnL_append]; simp [tasksOnL, ht]
theorem on_no {c : CV} {z : Int} {k : Nat} {b : BV} (h : c.binds[k]? = some b) (e : b.node ≠ z) : tasksOnL c z (c.binds.take (k + 1)) = tasksOnL c z (c.binds.take k) := by
  rw [take_at h, tasksOnL_append]; simp [tasksOnL, e]
theorem RV.add_zero (s : RV) : s.add RV.zero = s := by simp [RV.add, RV.zero]
theorem sum_on (c : CV) (z : Int) (l : List BV) (s : RV) (hs : s.ok = true) : sumGo s ((tasksOnL c z l).map TV.need) = sumGo s (needsIn c z l) := by
  induction l generalizing s with
  | nil => rfl
  | cons b r ih =>
    unfold tasksOnL needsIn
    split
    · unfold needOf
      cases hf : fstBy TV.id c.tasks b.task with
      | none =>
        have h0 : RV.zero.ok = true := by decide
        have hk : resAddOk s RV.zero = true := by rw [(resAdd_in hs h0).2, RV.add_zero]; exact hs
        have ha : resAdd s RV.zero = s := by rw [(resAdd_in hs h0).1, RV.add_zero, RV.kept_yes hs]
        simp only [Option.toList_none, List.nil_append, Option.getD_none]
        rw [show TV.zero.need = RV.zero from rfl, sumGo_cons_yes hk, ha]
        exact ih s hs
      | some t =>
        simp only [Option.toList_some, List.singleton_append, List.map_cons, Option.getD_some]
        cases hk : resAddOk s t.need with
        | false => rw [sumGo_cons_no hk, sumGo_cons_no hk]
        | true =>
          rw [sumGo_cons_yes hk, sumGo_cons_yes hk]
          apply ih
          have := hk
          unfold resAddOk at this
          unfold resAdd
          rw [if_pos hk]
          simp only [Bool.and_eq_true] at this
          exact this.2
    · exact ih s hs
theorem used_on (c : CV) (z : Int) : usedOf c z = sumGo RV.zero ((tasksOnL c z c.binds).map TV.need) := (sum_on c z c.binds RV.zero (by decide)).symm

abbrev OnT (w0 : World) : Type := { p : TV × List Value // TaskR w0 p.1 p.2 }
def OnT.t {w0 : World} (x : OnT w0) : TV := x.1.1
def encT {w0 : World} (x : OnT w0) : Array Value := #[.agg x.1.2.toArray]
def KpOn (n Bc Bn : Nat) (W W' : World) : Prop := Below n W W' ∧ W'.heap[Bc]? = W.heap[Bc]? ∧ W'.heap[Bn]? = W.heap[Bn]?
theorem KpOn.t {n Bc Bn : Nat} {A B C : World} (h : KpOn n Bc Bn A B) (k : KpOn n Bc Bn B C) : KpOn n Bc Bn A C := ⟨h.1.trans k.1, k.2.1.trans h.2.1, k.2.2.trans h.2.2⟩
theorem KpOn.b {n Bc Bn : Nat} {w : World} (hn : n ≤ w.heap.size) (hc : Bc < w.heap.size) (hb : Bn < w.heap.size) (W : World) (l : Nat) (o o' : Obj) (hl : w.heap.size ≤ l) (h : W.heap[l]? = some o) (h1 : o.isCells = false) (h2 : o.isWalk = false) : KpOn n Bc Bn W (W.putObj l o') :=
  ⟨belowK_b hn W l o o' hl h h1 h2, World.putObj_heap_other (by omega), World.putObj_heap_other (by omega)⟩
theorem grown_none {w w' : World} (hb : Below w.heap.size w w') : w.grownBy w' none := ⟨hb.os, hb.tape, hb.output, hb.size, fun k hk _ => hb.block k hk⟩
theorem abide {α : Type} {B : Nat} {J : List α → World → Prop} (hJ : AbidesFrom B J) {pre : List α} {w w' : World} (h : J pre w) (hb : Below w.heap.size w w') : J pre w' := hJ pre w w' none h (grown_none hb) (fun _ e => by cases e)

set_option maxHeartbeats 1600000 in
theorem tasksOn_any (D0 D1 D2 : Option Addr) (n0 n1 n2 e0 e1 e2 : Nat) (z : Int) (w : World) :
    Calls Tryz.prog 213 #[.agg #[.slice D0 n0 e0, .slice D1 n1 e1, .slice D2 n2 e2], .int .i64 z] w fun e w' => e = .returned (.func (.func 222) #[] #[.pointer (some ⟨w.heap.size, 0, none⟩), .pointer (some ⟨w.heap.size + 1, 0, none⟩)]) ∧
      w' = (w.alloc (.cells #[.slice D0 n0 e0, .slice D1 n1 e1, .slice D2 n2 e2] 32)).alloc (.cells #[.int .i64 z] 3) := by
  have hmf : ∀ (fn : Fn) (first cap : Array Value) (w : World), (Instr.makeFunc fn first cap).run Tryz.prog w = .ok (.func fn first cap) w := fun _ _ _ _ => rfl
  go_enter Tryz.func213, Tryz.ntmps213
  go_wp2_with fail
  go_ret
  exact ⟨rfl, rfl⟩
end Go.Proofs.YtcegofdmdemcbaaGreatDoor
