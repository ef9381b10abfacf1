/- append of an int to a slice of the call's own. The contracts of the model's ResOk, ResAdd, ResSub, ResFits, and of the laws' toRes, eqRes. The laws' helpers over tasks and nodes: szTask, toTask, eqTask, szNode, toNode, eqNode. The contracts of find, findTask, findNode, findBind. A region that draws its order, op by op: what is wanted is taken first, what is not wanted is passed. The laws' helpers over clusters: szCluster; toTaskS, toNodeS, toBindS, toCluster. The laws' helpers over clusters: toTaskS, toNodeS, toBindS, toCluster. Rows of a call's own, element by element: which blocks turn; rows split and joined; cells of one element set anew. What the laws' marks make of a list of labels, ints, tasks, nodes, bindings, in plain Lean. The contracts of the model's l03CopyTask and l03CopyNode. The contract of the model's l03Copy. The laws' helpers that write marks and look for them, over flat lists: markLabS, markIntS, markBindS, heldLabS, heldIntS, heldBindS. Rows of bytes of the call's own; append of a byte; markByteS, heldByteS. (mkbyt.py) Chapter 10 in plain Lean: the bytes of integers, and what is read out of bytes. Leases in plain Lean: what chapter 6's lease functions compute (Who, Epoch, Till are c, m, p of a triple). The contracts of LeaseOk, LeaseTry, LeaseHolds and of what they call. The contracts of NumBytes and of its model: the bytes of an integer, in a slice of the call's own. append of any slice of ints, of bytes, onto a row of the call's own. (mkspread.py) slices.Concat at bytes: its contract, and that of slices.Grow at nil. The bytes of a task in plain Lean. The contracts of chapter 1's functions: outOfRange, checkBoth, keepValid, ResOk, ResAdd, ResSub, ResFits. The contracts of ResOk, ResAdd, ResSub, ResFits. append of a label to a slice of the call's own; the contract of marks.labs. The contracts of LabsOk, LabsGet, LabsMatch. The contracts of readTaints, TaintsOk, Tolerates. -/
import Derived.Test.YtcngiinaneefjaaDoorCluOwn
import Derived.OwnWalk
import Derived.Deep.RegionHeld3
import Derived.Test.YtcngiinaneefjaaDoorMg02
import Derived.Test.YtcngiinaneefjaaDoorCluMem
import Derived.WalkKit
import Derived.Deep.RegionLaw
import Derived.Laws.StructEq
import Derived.Laws.BitsAllLaws
import Derived.Laws.OwnMore
import Derived.Lib.AppendZeros
import Derived.Deep.AppendLies
namespace Go.Proofs.YtcngiinaneefjaaDoor
open Go.RowKit

def OwnsJ (w : World) (base : Nat) (v : Value) (l : List Int) : Prop := w.ownsRow base 3 1 v l.length (intL l)
section
variable {w w' : World} {base : Nat} {v : Value} {l : List Int}
theorem OwnsJ.alloc (h : OwnsJ w base v l) (o : Obj) : OwnsJ (w.alloc o) base v l := World.ownsRow.alloc h o
theorem OwnsJ.nil (w : World) (base : Nat) : OwnsJ w base (.slice none 0 0) [] := World.ownsRow_nil w base _ _
theorem OwnsJ.o (h : OwnsJ w base v l) : IntO w v l := by
  obtain ⟨h1, h2⟩ := h
  refine ⟨h1, ?_⟩
  rcases h2 with h | ⟨g, cap, cur, hv, hg, h⟩
  · exact .inl h
  · exact .inr ⟨g, cap, cur, hv, Nat.zero_le _, h⟩
theorem OwnsJ.low (h : OwnsJ w base v l) : ∀ b ∈ blk v, base ≤ b := by
  rcases h.2 with ⟨rfl, _⟩ | ⟨g, cap, cur, rfl, hg, _⟩
  · intro b hb; simp [blk, Value.ownBlock] at hb
  · intro b hb
    simp [blk, Value.ownBlock] at hb
    omega
theorem OwnsJ.below {B : Nat} (h : OwnsJ w base v l) (hb : Below B w w') (hB : w.heap.size ≤ B) : OwnsJ w' base v l := by
  obtain ⟨h1, h2⟩ := h
  refine ⟨h1, ?_⟩
  rcases h2 with h | ⟨g, cap, cur, hv, hg, hh, h⟩
  · exact .inl h
  · have hlt : g < w.heap.size := (Array.getElem?_eq_some_iff.1 hh).1
    exact .inr ⟨g, cap, cur, hv, hg, (hb.block g (by omega)).trans hh, h⟩
theorem OwnsJ.lower {b : Nat} (h : OwnsJ w base v l) (hb : b ≤ base) : OwnsJ w b v l := by
  obtain ⟨h1, h2⟩ := h
  refine ⟨h1, ?_⟩
  rcases h2 with h | ⟨g, cap, cur, hv, hg, h⟩
  · exact .inl h
  · exact .inr ⟨g, cap, cur, hv, Nat.le_trans hb hg, h⟩
end
end Go.Proofs.YtcngiinaneefjaaDoor

namespace Go.Proofs.YtcngiinaneefjaaDoor
open Go.RowKit

theorem l01Amount_yes (n : Int) (w : World) (h1 : 0 ≤ n) (h2 : n ≤ 1000000) :
    Calls Tryd.prog 95 #[.int .i64 n] w fun e w' => e = .returned (.bool true) ∧ w = w' := by
  go_enter Tryd.func95, Tryd.ntmps95
  go_wp2
  go_ret
  exact ⟨by simp, rfl⟩
theorem l01Amount_no (n : Int) (w : World) (h : ¬ (0 ≤ n ∧ n ≤ 1000000)) :
    Calls Tryd.prog 95 #[.int .i64 n] w fun e w' => e = .returned (.bool false) ∧ w = w' := by
  by_cases h1 : 0 ≤ n
  · have h2 : 1000000 < n := by omega
    clear h
    go_enter Tryd.func95, Tryd.ntmps95
    go_wp2
    go_ret
    exact ⟨by simp; omega, rfl⟩
  · have h2 : n < 0 := by omega
    clear h h1
    go_enter Tryd.func95, Tryd.ntmps95
    go_wp2
    go_ret
    exact ⟨by simp, rfl⟩

theorem sResOk_any (r : RV) (w : World) :
    Calls Tryd.prog 71 #[.agg #[.int .i64 r.c, .int .i64 r.m, .int .i64 r.p]] w fun e w' => e = .returned (.bool r.ok) ∧ Below w.heap.size w w' := by
  by_cases hc : 0 ≤ r.c ∧ r.c ≤ 1000000
  · by_cases hm : 0 ≤ r.m ∧ r.m ≤ 1000000
    · by_cases hp : 0 ≤ r.p ∧ r.p ≤ 1000000
      · have H := Lib.hid (RV.ok_iff.2 ⟨hc.1, hc.2, hm.1, hm.2, hp.1, hp.2⟩)
        have HC := Lib.hid hc
        have HM := Lib.hid hm
        have HP := Lib.hid hp
        clear hc hm hp
        go_enter Tryd.func71, Tryd.ntmps71
        go_wp2_with fail
        refine (l01Amount_yes r.c _ HC.out.1 HC.out.2).mono ?_
        rintro e w1 ⟨rfl, rfl⟩
        go_wp2_with fail
        refine (l01Amount_yes r.m _ HM.out.1 HM.out.2).mono ?_
        rintro e w1 ⟨rfl, rfl⟩
        go_wp2_with fail
        refine (l01Amount_yes r.p _ HP.out.1 HP.out.2).mono ?_
        rintro e w1 ⟨rfl, rfl⟩
        go_wp2_with fail
        go_ret
        exact ⟨by rw [H.out]; rfl, (by repeat' (first | exact Below.refl _ _ | refine Below.alloc ?_ ?_ _ | refine Below.setCell ?_ ?_ _ | refine Below.drew ?_ | (apply below_step; assumption) | (simp; done) | (simp; omega) | omega))⟩
      · have H := Lib.hid (RV.bad_iff.2 (fun h => hp ⟨h.2.2.2.2.1, h.2.2.2.2.2⟩))
        have HC := Lib.hid hc
        have HM := Lib.hid hm
        have HP := Lib.hid hp
        clear hc hm hp
        go_enter Tryd.func71, Tryd.ntmps71
        go_wp2_with fail
        refine (l01Amount_yes r.c _ HC.out.1 HC.out.2).mono ?_
        rintro e w1 ⟨rfl, rfl⟩
        go_wp2_with fail
        refine (l01Amount_yes r.m _ HM.out.1 HM.out.2).mono ?_
        rintro e w1 ⟨rfl, rfl⟩
        go_wp2_with fail
        refine (l01Amount_no r.p _ HP.out).mono ?_
        rintro e w1 ⟨rfl, rfl⟩
        go_wp2_with fail
        go_ret
        exact ⟨by rw [H.out]; rfl, (by repeat' (first | exact Below.refl _ _ | refine Below.alloc ?_ ?_ _ | refine Below.setCell ?_ ?_ _ | refine Below.drew ?_ | (apply below_step; assumption) | (simp; done) | (simp; omega) | omega))⟩
    · have H := Lib.hid (RV.bad_iff.2 (fun h => hm ⟨h.2.2.1, h.2.2.2.1⟩))
      have HC := Lib.hid hc
      have HM := Lib.hid hm
      clear hc hm
      go_enter Tryd.func71, Tryd.ntmps71
      go_wp2_with fail
      refine (l01Amount_yes r.c _ HC.out.1 HC.out.2).mono ?_
      rintro e w1 ⟨rfl, rfl⟩
      go_wp2_with fail
      refine (l01Amount_no r.m _ HM.out).mono ?_
      rintro e w1 ⟨rfl, rfl⟩
      go_wp2_with fail
      go_ret
      exact ⟨by rw [H.out]; rfl, (by repeat' (first | exact Below.refl _ _ | refine Below.alloc ?_ ?_ _ | refine Below.setCell ?_ ?_ _ | refine Below.drew ?_ | (apply below_step; assumption) | (simp; done) | (simp; omega) | omega))⟩
  · have H := Lib.hid (RV.bad_iff.2 (fun h => hc ⟨h.1, h.2.1⟩))
    have HC := Lib.hid hc
    clear hc
    go_enter Tryd.func71, Tryd.ntmps71
    go_wp2_with fail
    refine (l01Amount_no r.c _ HC.out).mono ?_
    rintro e w1 ⟨rfl, rfl⟩
    go_wp2_with fail
    go_ret
    exact ⟨by rw [H.out]; rfl, (by repeat' (first | exact Below.refl _ _ | refine Below.alloc ?_ ?_ _ | refine Below.setCell ?_ ?_ _ | refine Below.drew ?_ | (apply below_step; assumption) | (simp; done) | (simp; omega) | omega))⟩

theorem toRes_any (r : RV) (w : World) :
    Calls Tryd.prog 45 #[.agg #[.int .i64 r.c, .int .i64 r.m, .int .i64 r.p]] w fun e w' => e = .returned (.agg #[.int .i64 r.c, .int .i64 r.m, .int .i64 r.p]) ∧ Below w.heap.size w w' := by
  go_enter Tryd.func45, Tryd.ntmps45
  go_wp2
  exact bodyPost_ret (v := .agg #[.int .i64 r.c, .int .i64 r.m, .int .i64 r.p]) (by simp [results, Tryd.results45, go_sem]) rfl ⟨rfl, (by repeat' (first | exact Below.refl _ _ | refine Below.alloc ?_ ?_ _ | refine Below.setCell ?_ ?_ _ | refine Below.drew ?_ | (apply below_step; assumption) | (simp; done) | (simp; omega) | omega))⟩
theorem eqRes_same (r : RV) (w : World) :
    Calls Tryd.prog 50 #[.agg #[.int .i64 r.c, .int .i64 r.m, .int .i64 r.p], .agg #[.int .i64 r.c, .int .i64 r.m, .int .i64 r.p]] w fun e w' => e = .returned (.bool true) ∧ Below w.heap.size w w' := by
  have h1 : (r.c != r.c) = false := by simp
  have h2 : (r.m != r.m) = false := by simp
  have h3 : (r.p != r.p) = false := by simp
  go_enter Tryd.func50, Tryd.ntmps50
  go_wp2
  go_ret
  exact ⟨rfl, (by repeat' (first | exact Below.refl _ _ | refine Below.alloc ?_ ?_ _ | refine Below.setCell ?_ ?_ _ | refine Below.drew ?_ | (apply below_step; assumption) | (simp; done) | (simp; omega) | omega))⟩

end Go.Proofs.YtcngiinaneefjaaDoor

namespace Go.Proofs.YtcngiinaneefjaaDoor
open Go.RowKit

theorem szIntS_yes (A : Option Addr) (n c : Nat) (z : Int) (w : World) (hz : z ≤ 1048576) (h : (n : Int) ≤ z) :
    Calls Tryd.prog 41 #[.slice A n c, .int .i64 z] w fun e w' => e = .returned (.int .i64 (z - n)) ∧ w = w' := by
  go_enter Tryd.func41, Tryd.ntmps41
  go_wp2
  go_ret
  exact ⟨rfl, rfl⟩
theorem szIntS_no (A : Option Addr) (n c : Nat) (z : Int) (w : World) (h0 : 0 ≤ z) (h : z < n) (hm : n ≤ maxLen) :
    Calls Tryd.prog 41 #[.slice A n c, .int .i64 z] w fun e w' => e = .returned (.int .i64 (-1)) ∧ w = w' := by
  unfold maxLen at hm
  go_enter Tryd.func41, Tryd.ntmps41
  go_wp2
  go_ret
  exact ⟨rfl, rfl⟩

def szLeft (z : Int) (n : Nat) : Int := if (n : Int) ≤ z then z - n else -1
def szTV (z : Int) (a b : Nat) : Int := if (a : Int) ≤ z then szLeft (z - a) b else -1

set_option maxHeartbeats 800000 in
theorem szTask_any (c0 c1 c2 c3 c4 : Value) (A1 A2 : Option Addr) (n1 k1 n2 k2 : Nat) (z : Int) (w : World) (h0 : 0 ≤ z) (hz : z ≤ 1048576) (hm1 : n1 ≤ maxLen) (hm2 : n2 ≤ maxLen) :
    Calls Tryd.prog 9 #[.agg #[c0, c1, c2, c3, c4, .slice A1 n1 k1, .slice A2 n2 k2], .int .i64 z] w fun e w' => e = .returned (.int .i64 (szTV z n1 n2)) ∧ Below w.heap.size w w' := by
  by_cases h1 : (n1 : Int) ≤ z
  · by_cases h2 : (n2 : Int) ≤ z - n1
    · have HE := Lib.hid (show szTV z n1 n2 = z - n1 - n2 by simp [szTV, h1, szLeft, h2])
      have HM := Lib.hid (And.intro hm1 hm2)
      clear hm1 hm2
      go_enter Tryd.func9, Tryd.ntmps9
      go_wp2_with fail
      refine (szLabS_yes A1 n1 k1 z _ hz h1).mono ?_
      rintro e w1 ⟨rfl, rfl⟩
      go_wp2_with fail
      refine (szIntS_yes A2 n2 k2 (z - n1) _ (by omega) h2).mono ?_
      rintro e w1 ⟨rfl, rfl⟩
      go_wp2_with fail
      go_ret
      rw [HE.out]
      exact ⟨rfl, (by repeat' (first | exact Below.refl _ _ | refine Below.alloc ?_ ?_ _ | refine Below.setCell ?_ ?_ _ | refine Below.drew ?_ | (apply below_step; assumption) | (simp; done) | (simp; omega) | omega))⟩
    · have HE := Lib.hid (show szTV z n1 n2 = -1 by simp [szTV, h1, szLeft, h2])
      have HM := Lib.hid (And.intro hm1 hm2)
      have h2' : z - n1 < n2 := by omega
      clear hm1 hm2 h2
      go_enter Tryd.func9, Tryd.ntmps9
      go_wp2_with fail
      refine (szLabS_yes A1 n1 k1 z _ hz h1).mono ?_
      rintro e w1 ⟨rfl, rfl⟩
      go_wp2_with fail
      refine (szIntS_no A2 n2 k2 (z - n1) _ (by omega) h2' HM.out.2).mono ?_
      rintro e w1 ⟨rfl, rfl⟩
      go_wp2_with fail
      go_ret
      rw [HE.out]
      exact ⟨rfl, (by repeat' (first | exact Below.refl _ _ | refine Below.alloc ?_ ?_ _ | refine Below.setCell ?_ ?_ _ | refine Below.drew ?_ | (apply below_step; assumption) | (simp; done) | (simp; omega) | omega))⟩
  · have HE := Lib.hid (show szTV z n1 n2 = -1 by simp [szTV, h1])
    have HM := Lib.hid (And.intro hm1 hm2)
    have h1' : z < n1 := by omega
    clear hm1 hm2 h1
    go_enter Tryd.func9, Tryd.ntmps9
    go_wp2_with fail
    refine (szLabS_no A1 n1 k1 z _ h0 h1' HM.out.1).mono ?_
    rintro e w1 ⟨rfl, rfl⟩
    go_wp2_with fail
    go_ret
    rw [HE.out]
    exact ⟨rfl, (by repeat' (first | exact Below.refl _ _ | refine Below.alloc ?_ ?_ _ | refine Below.setCell ?_ ?_ _ | refine Below.drew ?_ | (apply below_step; assumption) | (simp; done) | (simp; omega) | omega))⟩

theorem arr7 {α : Type} {cs : Array α} (h : cs.size = 7) : ∃ a b c d e f g, cs = #[a, b, c, d, e, f, g] := by
  obtain ⟨l⟩ := cs
  match l, h with
  | [a, b, c, d, e, f, g], _ => exact ⟨a, b, c, d, e, f, g, rfl⟩
theorem put7 {w : World} {g : Nat} {t : TypeId} {cs : Array Value} (a0 a1 a2 a3 a4 a5 a6 : Value) (h : BlockIs w g t cs) (hs : cs.size = 7) : BlockIs (((((((w.setCell ⟨g, 0, none⟩ (a0)).setCell ⟨g, 1, none⟩ (a1)).setCell ⟨g, 2, none⟩ (a2)).setCell ⟨g, 3, none⟩ (a3)).setCell ⟨g, 4, none⟩ (a4)).setCell ⟨g, 5, none⟩ (a5)).setCell ⟨g, 6, none⟩ (a6)) g t #[a0, a1, a2, a3, a4, a5, a6] := by
  obtain ⟨b0, b1, b2, b3, b4, b5, b6, rfl⟩ := arr7 hs
  have := ((((((h.put 0 a0).put 1 a1).put 2 a2).put 3 a3).put 4 a4).put 5 a5).put 6 a6
  simpa using this
theorem cell_far {w : World} {b o : Nat} {p : Addr} (h : b ≠ p.block) (u : Value) : (w.setCell p u).cell? ⟨b, o, none⟩ = w.cell? ⟨b, o, none⟩ := by
  have := Below.heap_setCell w p u b h
  simp only [World.cell?, this]
theorem far7 {w : World} {g b : Nat} {t : TypeId} {cs : Array Value} {a0 a1 a2 a3 a4 a5 a6 : Value} (h : BlockIs w b t cs) (hne : b ≠ g) : BlockIs (((((((w.setCell ⟨g, 0, none⟩ (a0)).setCell ⟨g, 1, none⟩ (a1)).setCell ⟨g, 2, none⟩ (a2)).setCell ⟨g, 3, none⟩ (a3)).setCell ⟨g, 4, none⟩ (a4)).setCell ⟨g, 5, none⟩ (a5)).setCell ⟨g, 6, none⟩ (a6)) b t cs :=
  ((((((h.far hne _).far hne _).far hne _).far hne _).far hne _).far hne _).far hne _
theorem below7 {B : Nat} {a w : World} {g : Nat} {a0 a1 a2 a3 a4 a5 a6 : Value} (h : Below B a w) (hg : B ≤ g) : Below B a (((((((w.setCell ⟨g, 0, none⟩ (a0)).setCell ⟨g, 1, none⟩ (a1)).setCell ⟨g, 2, none⟩ (a2)).setCell ⟨g, 3, none⟩ (a3)).setCell ⟨g, 4, none⟩ (a4)).setCell ⟨g, 5, none⟩ (a5)).setCell ⟨g, 6, none⟩ (a6)) :=
  ((((((h.setCell hg _).setCell hg _).setCell hg _).setCell hg _).setCell hg _).setCell hg _).setCell hg _
theorem IntAt.far {w : World} {b off : Nat} {l : List Int} {p : Addr} (h : IntAt w b off l) (hne : b ≠ p.block) (u : Value) : IntAt (w.setCell p u) b off l := fun i r hr => (cell_far hne _).trans (h i r hr)
theorem IntAt.far7 {w : World} {g b off : Nat} {l : List Int} {a0 a1 a2 a3 a4 a5 a6 : Value} (h : IntAt w b off l) (hne : b ≠ g) : IntAt (((((((w.setCell ⟨g, 0, none⟩ (a0)).setCell ⟨g, 1, none⟩ (a1)).setCell ⟨g, 2, none⟩ (a2)).setCell ⟨g, 3, none⟩ (a3)).setCell ⟨g, 4, none⟩ (a4)).setCell ⟨g, 5, none⟩ (a5)).setCell ⟨g, 6, none⟩ (a6)) b off l :=
  ((((((h.far hne _).far hne _).far hne _).far hne _).far hne _).far hne _).far hne _
set_option maxHeartbeats 1600000 in
theorem eqTask_same (t : TV) (v1 v2 u1 u2 : Value) (w : World) (h1 : LabSl w v1 t.want) (h2 : IntSl w v2 t.tols) (k1 : LabSl w u1 t.want) (k2 : IntSl w u2 t.tols) (l1 : t.want.length ≤ 1048576) (l2 : t.tols.length ≤ 1048576) :
    Calls Tryd.prog 14 #[.agg #[.int .i64 t.id, .int .i64 t.prio, .int .i64 t.need.c, .int .i64 t.need.m, .int .i64 t.need.p, v1, v2], .agg #[.int .i64 t.id, .int .i64 t.prio, .int .i64 t.need.c, .int .i64 t.need.m, .int .i64 t.need.p, u1, u2]] w fun e w' => e = .returned (.bool true) ∧ Below w.heap.size w w' := by
  have H1 := Lib.hid h1
  have H2 := Lib.hid h2
  have K1 := Lib.hid k1
  have K2 := Lib.hid k2
  have L1 := Lib.hid l1
  have L2 := Lib.hid l2
  have e1 : (t.id != t.id) = false := by simp
  have e2 : (t.prio != t.prio) = false := by simp
  clear h1 h2 k1 k2 l1 l2
  go_enter Tryd.func14, Tryd.ntmps14
  go_wp2_with fail
  refine (eqRes_same t.need _).mono ?_
  rintro e w1 ⟨rfl, hb1⟩
  have hz1 := hb1.size
  simp at hz1
  obtain ⟨hc1, hf1⟩ := bcell hb1
  have hC1 : Below w.heap.size w w1 := (by repeat' (first | exact Below.refl _ _ | refine Below.alloc ?_ ?_ _ | refine Below.setCell ?_ ?_ _ | refine Below.drew ?_ | (apply below_step; assumption) | (simp; done) | (simp; omega) | omega))
  go_wp2_with fail
  refine (eqLabS_same v1 u1 t.want _ (H1.out.below hC1) (K1.out.below hC1) L1.out).mono ?_
  rintro e w2 ⟨rfl, hb2⟩
  have hz2 := hb2.size
  obtain ⟨hc2, hf2⟩ := bcell hb2
  have hs1 : w.heap.size < w1.heap.size := by omega
  have hs1' : w.heap.size + 1 < w1.heap.size := by omega
  have hC2 : Below w.heap.size w w2 := hC1.trans (hb2.mono hC1.size)
  go_wp2_with fail
  refine (eqIntS_same v2 u2 t.tols _ (H2.out.below hC2) (K2.out.below hC2) L2.out).mono ?_
  rintro e w3 ⟨rfl, hb3⟩
  have hC3 : Below w.heap.size w w3 := hC2.trans (hb3.mono hC2.size)
  go_wp2_with fail
  go_ret
  exact ⟨rfl, hC3⟩
end Go.Proofs.YtcngiinaneefjaaDoor
namespace Go.Proofs.YtcngiinaneefjaaDoor
open Go.RowKit

end Go.Proofs.YtcngiinaneefjaaDoor

namespace Go.Proofs.YtcngiinaneefjaaDoor
open Go.RowKit

end Go.Proofs.YtcngiinaneefjaaDoor
namespace Go.Proofs.YtcngiinaneefjaaDoor
open Go.RowKit

def CluR (w : World) (c : CV) (a0 a1 a2 : Value) : Prop := TaskSl w a0 c.tasks ∧ NodeSl w a1 c.nodes ∧ BindSl w a2 c.binds ∧ c.tasks.length ≤ 1048576 ∧ c.nodes.length ≤ 1048576 ∧ c.binds.length ≤ 1048576
theorem CluR.below {w w' : World} {c : CV} {a0 a1 a2 : Value} (h : CluR w c a0 a1 a2) (hb : Below w.heap.size w w') : CluR w' c a0 a1 a2 := by
  obtain ⟨h0, h1, h2, h3⟩ := h
  exact ⟨h0.below hb, h1.below hb, h2.below hb, h3⟩

end Go.Proofs.YtcngiinaneefjaaDoor

namespace Go.Proofs.YtcngiinaneefjaaDoor
open Go.RowKit

theorem rhN {α : Type} (a : α) (l : List α) : (a :: l).toArray[0]? = some a := rfl
theorem rhM {α : Type} (a : α) (l : List α) (n : Nat) : (a :: l).toArray[n + 1]? = l.toArray[n]? := by simp
theorem rhA {α : Type} (l : List α) (i : Nat) (a : α) : l.toArray.setIfInBounds i a = (l.set i a).toArray := by simp
theorem rhS {α : Type} (x a : α) (l : List α) : (x :: l).set 0 a = a :: l := rfl
theorem rhT {α : Type} (x a : α) (l : List α) (n : Nat) : (x :: l).set (n + 1) a = x :: l.set n a := rfl
section
variable {P : Program} {ops : Array Oper} {Q : Exit → Act → World → Prop} {md : Region.Mode} {S : World → Prop}
theorem hTake {i : Nat} {oi : Oper} {v : Value} {d : Option Tmp} {fuel : Nat} {listed : Array Bool} {a : Act} {w : World} (hi : ops[i]? = some oi) (hd : oi.dst = d)
    (hb : (Region.noSelect ops && (Region.free md ops listed i && (Region.ready md ops listed).contains i)) = true)
    (hQ : ∀ c a w, Q (.panic c) (a.put d v) w → Q (.panic c) a w) (hw : Region.wanted oi (yielded ops a.tmps) = true) (hy : ∀ w, S w → (execOp a.eval oi).run P w = .ok (.value v) w) (hS : S w)
    (h : wpAnyH P md ops Q S fuel (listed.setIfInBounds i true) (a.put d v) w) : wpAnyH P md ops Q S (fuel + 1) listed a w := by
  subst hd
  simp only [Bool.and_eq_true] at hb
  exact wpAnyH_take hi hb.1 hb.2.1 hb.2.2 hQ (.inl ⟨hw, hy⟩) hS h
theorem hSkip {i : Nat} {oi : Oper} {d : Option Tmp} {fuel : Nat} {listed : Array Bool} {a : Act} {w : World} (hi : ops[i]? = some oi) (hd : oi.dst = d)
    (hb : (Region.noSelect ops && (Region.free md ops listed i && (Region.ready md ops listed).contains i)) = true)
    (hQ : ∀ c a w, Q (.panic c) (a.put d undef) w → Q (.panic c) a w) (hw : Region.wanted oi (yielded ops a.tmps) = false) (hS : S w)
    (h : wpAnyH P md ops Q S fuel (listed.setIfInBounds i true) (a.put d undef) w) : wpAnyH P md ops Q S (fuel + 1) listed a w := by
  subst hd
  simp only [Bool.and_eq_true] at hb
  exact wpAnyH_take hi hb.1 hb.2.1 hb.2.2 hQ (.inr ⟨hw, rfl⟩) hS h
theorem hT (i : Nat) {oi : Oper} {v : Value} {d : Option Tmp} {fuel : Nat} {listed : Array Bool} {a : Act} {w : World} (h : wpAnyH P md ops Q S fuel (listed.setIfInBounds i true) (a.put d v) w)
    (hi : ops[i]? = some oi := by (simp only [rhN, rhM]; try rfl)) (hd : oi.dst = d := by first | rfl | (dsimp only; rfl)) (hw : Region.wanted oi (yielded ops a.tmps) = true := by rfl)
    (hQ : ∀ c a w, Q (.panic c) (a.put d v) w → Q (.panic c) a w := by exact fun _ _ _ h => h) (hy : ∀ w, S w → (execOp a.eval oi).run P w = .ok (.value v) w := by (intro w hSw; (try dsimp only at hSw); go_simp <;> with_reducible rfl))
    (hS : S w := by assumption) (hb : (Region.noSelect ops && (Region.free md ops listed i && (Region.ready md ops listed).contains i)) = true := by kernel_rfl) : wpAnyH P md ops Q S (fuel + 1) listed a w := hTake hi hd hb hQ hw hy hS h
theorem hP (i : Nat) {oi : Oper} {d : Option Tmp} {fuel : Nat} {listed : Array Bool} {a : Act} {w : World} (h : wpAnyH P md ops Q S fuel (listed.setIfInBounds i true) (a.put d undef) w)
    (hi : ops[i]? = some oi := by (simp only [rhN, rhM]; try rfl)) (hd : oi.dst = d := by first | rfl | (dsimp only; rfl)) (hw : Region.wanted oi (yielded ops a.tmps) = false := by rfl)
    (hQ : ∀ c a w, Q (.panic c) (a.put d undef) w → Q (.panic c) a w := by exact fun _ _ _ h => h) (hS : S w := by assumption)
    (hb : (Region.noSelect ops && (Region.free md ops listed i && (Region.ready md ops listed).contains i)) = true := by kernel_rfl) : wpAnyH P md ops Q S (fuel + 1) listed a w := hSkip hi hd hb hQ hw hS h
theorem hCall {i : Nat} {o : Oper} {fuel : Nat} {listed : Array Bool} {a : Act} {w : World} (ho : ops[i]? = some o) (hr : Region.ready md ops listed = [i]) (hw : Region.wanted o (yielded ops a.tmps) = true)
    (h : ∀ K' : Act → World → Prop, Shut (∀ a w, S w → (S w → wpAnyH P md ops Q S fuel (listed.setIfInBounds i true) a w) → K' a w) → Oper.wp P o a w K' Q) : wpAnyH P md ops Q S (fuel + 1) listed a w :=
  wpAnyH_ready hr (by simp) (AllReadyH.cons ho (fun K' hK => by rw [if_pos hw]; exact h K' hK) AllReadyH.nil)
end
end Go.Proofs.YtcngiinaneefjaaDoor

namespace Go.Proofs.YtcngiinaneefjaaDoor
open Go.RowKit

theorem szTV_ok {z : Int} {a b : Nat} {y : Int} (h : szTV z a b = y) : y = -1 ∨ (0 ≤ z → 0 ≤ y ∧ y ≤ z ∧ (a : Int) ≤ z ∧ (b : Int) ≤ z) := by
  unfold szTV szLeft at h
  split at h
  · split at h
    · right; intro; omega
    · left; omega
  · left; omega
def TaskQ (w : World) (t : TV) (cs : List Value) : Prop := ∃ v1 v2, cs = [.int .i64 t.id, .int .i64 t.prio, .int .i64 t.need.c, .int .i64 t.need.m, .int .i64 t.need.p, v1, v2] ∧ LabSl w v1 t.want ∧ IntSl w v2 t.tols ∧ t.want.length ≤ maxLen ∧ t.tols.length ≤ maxLen
def NodeQ (w : World) (t : NV) (cs : List Value) : Prop := ∃ v1 v2, cs = [.int .i64 t.id, .int .i64 t.pool, .int .i64 t.cap.c, .int .i64 t.cap.m, .int .i64 t.cap.p, v1, v2, .bool t.cordon] ∧ LabSl w v1 t.labs ∧ IntSl w v2 t.taints ∧ t.labs.length ≤ maxLen ∧ t.taints.length ≤ maxLen
theorem TaskQ.kept : Kept TaskQ := fun _ _ _ _ hb ⟨v1, v2, e, h1, h2, h3⟩ => ⟨v1, v2, e, h1.below hb, h2.below hb, h3⟩
theorem NodeQ.kept : Kept NodeQ := fun _ _ _ _ hb ⟨v1, v2, e, h1, h2, h3⟩ => ⟨v1, v2, e, h1.below hb, h2.below hb, h3⟩
def TV.small (t : TV) : Prop := t.want.length ≤ 1048576 ∧ t.tols.length ≤ 1048576
def NV.small (t : NV) : Prop := t.labs.length ≤ 1048576 ∧ t.taints.length ≤ 1048576

def CluQ (w : World) (c : CV) (a0 a1 a2 : Value) : Prop := GSl TaskQ 7 w a0 c.tasks ∧ GSl NodeQ 8 w a1 c.nodes ∧ BindSl w a2 c.binds ∧ c.tasks.length ≤ maxLen ∧ c.nodes.length ≤ maxLen ∧ c.binds.length ≤ maxLen
theorem CluQ.below {w w' : World} {c : CV} {a0 a1 a2 : Value} (h : CluQ w c a0 a1 a2) (hb : Below w.heap.size w w') : CluQ w' c a0 a1 a2 := by
  obtain ⟨h0, h1, h2, h3⟩ := h
  exact ⟨h0.below TaskQ.kept hb, h1.below NodeQ.kept hb, h2.below hb, h3⟩
def CV.small (c : CV) : Prop := c.tasks.length ≤ 1048576 ∧ (∀ t ∈ c.tasks, t.small) ∧ c.nodes.length ≤ 1048576 ∧ (∀ t ∈ c.nodes, t.small) ∧ c.binds.length ≤ 1048576
theorem GSl.small {α : Type} {R S : World → α → List Value → Prop} {n : Nat} {w : World} {v : Value} {l : List α} (h : GSl R n w v l) (hRS : ∀ x ∈ l, ∀ cs, R w x cs → S w x cs) : GSl S n w v l := by
  rcases h with h | ⟨b, off, c, rfl, hlt, h⟩
  · exact .inl h
  · refine .inr ⟨b, off, c, rfl, hlt, fun i x hx => ?_⟩
    obtain ⟨cs, h1, h2⟩ := h i x hx
    exact ⟨cs, hRS x (List.mem_of_getElem? hx) _ h1, h2⟩
end Go.Proofs.YtcngiinaneefjaaDoor

namespace Go.Proofs.YtcngiinaneefjaaDoor
open Go.RowKit

def setAll (cs : Array Value) (o : Nat) : List Value → Array Value
  | [] => cs
  | u :: r => setAll (cs.setIfInBounds o u) (o + 1) r
def putAll (w : World) (g o : Nat) : List Value → World
  | [] => w
  | u :: r => putAll (w.setCell ⟨g, o, none⟩ u) g (o + 1) r
theorem setAll_size (cs : Array Value) (o : Nat) (ds : List Value) : (setAll cs o ds).size = cs.size := by
  induction ds generalizing cs o with
  | nil => rfl
  | cons u r ih => simp [setAll, ih]
theorem setAll_far {cs : Array Value} {o i : Nat} {ds : List Value} (h : i < o ∨ o + ds.length ≤ i) : (setAll cs o ds)[i]? = cs[i]? := by
  induction ds generalizing cs o with
  | nil => rfl
  | cons u r ih =>
    simp only [List.length_cons] at h
    rw [setAll, ih (by omega), Array.getElem?_setIfInBounds_ne (by omega)]
theorem setAll_at {cs : Array Value} {o j : Nat} {ds : List Value} {u : Value} (hj : ds[j]? = some u) (h : o + ds.length ≤ cs.size) : (setAll cs o ds)[o + j]? = some u := by
  induction ds generalizing cs o j with
  | nil => simp at hj
  | cons x r ih =>
    simp only [List.length_cons] at h
    cases j with
    | zero =>
      simp at hj; subst hj
      rw [setAll, setAll_far (by omega), Nat.add_zero, Array.getElem?_setIfInBounds_self_of_lt (by omega)]
    | succ j =>
      have := ih (cs := cs.setIfInBounds o x) (o := o + 1) (j := j) (by simpa using hj) (by simp; omega)
      rw [setAll, show o + (j + 1) = o + 1 + j by omega]
      exact this
theorem BlockIs.putAll {w : World} {g o : Nat} {t : TypeId} {cs : Array Value} {ds : List Value} (h : BlockIs w g t cs) : BlockIs (putAll w g o ds) g t (setAll cs o ds) := by
  induction ds generalizing w o cs with
  | nil => exact h
  | cons u r ih => exact ih (h.put o u)
theorem BlockIs.putFar {w : World} {g b o : Nat} {t : TypeId} {cs : Array Value} {ds : List Value} (h : BlockIs w b t cs) (hne : b ≠ g) : BlockIs (Go.Proofs.YtcngiinaneefjaaDoor.putAll w g o ds) b t cs := by
  induction ds generalizing w o with
  | nil => exact h
  | cons u r ih => exact ih (h.far hne u)
theorem IntAt.putFar {w : World} {g b o off : Nat} {l : List Int} {ds : List Value} (h : IntAt w b off l) (hne : b ≠ g) : IntAt (putAll w g o ds) b off l := by
  induction ds generalizing w o with
  | nil => exact h
  | cons u r ih => exact ih (h.far hne u)
theorem putAll_size {w : World} {g o : Nat} {ds : List Value} : (putAll w g o ds).heap.size = w.heap.size := by
  induction ds generalizing w o with
  | nil => rfl
  | cons u r ih => rw [putAll, ih]; simp [World.setCell]
theorem putAll_below {B : Nat} {a w : World} {g o : Nat} {ds : List Value} (h : Below B a w) (hg : B ≤ g) : Below B a (putAll w g o ds) := by
  induction ds generalizing w o with
  | nil => exact h
  | cons u r ih => exact ih (h.setCell hg u)

def TaskN (base : Nat) (w : World) (t : TV) (cs : List Value) : Prop := ∃ g1 g2, cs = [.int .i64 t.id, .int .i64 t.prio, .int .i64 t.need.c, .int .i64 t.need.m, .int .i64 t.need.p, .slice (some ⟨g1, 0, none⟩) t.want.length t.want.length, .slice (some ⟨g2, 0, none⟩) t.tols.length t.tols.length] ∧
  base ≤ g1 ∧ base ≤ g2 ∧ g2 < w.heap.size ∧ BlockIs w g1 78 (labL t.want).toArray ∧ IntAt w g2 0 t.tols ∧ t.want.length ≤ 1048576 ∧ t.tols.length ≤ 1048576
def NodeN (base : Nat) (w : World) (t : NV) (cs : List Value) : Prop := ∃ g1 g2, cs = [.int .i64 t.id, .int .i64 t.pool, .int .i64 t.cap.c, .int .i64 t.cap.m, .int .i64 t.cap.p, .slice (some ⟨g1, 0, none⟩) t.labs.length t.labs.length, .slice (some ⟨g2, 0, none⟩) t.taints.length t.taints.length, .bool t.cordon] ∧
  base ≤ g1 ∧ base ≤ g2 ∧ g2 < w.heap.size ∧ BlockIs w g1 78 (labL t.labs).toArray ∧ IntAt w g2 0 t.taints ∧ t.labs.length ≤ 1048576 ∧ t.taints.length ≤ 1048576
def BindN (_ : Nat) (_ : World) (t : BV) (cs : List Value) : Prop := cs = [.int .i64 t.task, .int .i64 t.node]
theorem TaskN.kept (base : Nat) : Kept (TaskN base) := fun _ _ _ _ hb ⟨g1, g2, e, h1, h2, h3, h4, h5, h6⟩ => ⟨g1, g2, e, h1, h2, Nat.lt_of_lt_of_le h3 hb.size, h4.below hb h4.lt, h5.below hb h3, h6⟩
theorem TaskN.put {base g o : Nat} {w : World} {t : TV} {cs ds : List Value} (h : TaskN base w t cs) (hg : g < base) : TaskN base (putAll w g o ds) t cs := by
  obtain ⟨g1, g2, e, h1, h2, h3, h4, h5, h6⟩ := h
  exact ⟨g1, g2, e, h1, h2, by rw [putAll_size]; exact h3, h4.putFar (by omega), h5.putFar (by omega), h6⟩
theorem TaskN.r {base : Nat} {w : World} {t : TV} {cs : List Value} (h : TaskN base w t cs) : TaskR w t cs := by
  obtain ⟨g1, g2, e, h1, h2, h3, h4, h5, h6⟩ := h
  exact ⟨_, _, e, .inr ⟨g1, 0, _, rfl, h4.lt, LabAt.of_cells h4⟩, .inr ⟨g2, 0, _, rfl, h3, h5⟩, h6⟩
theorem TaskN.len {base : Nat} {w : World} {t : TV} {cs : List Value} (h : TaskN base w t cs) : cs.length = 7 := by
  obtain ⟨g1, g2, e, _⟩ := h; subst e; rfl
theorem NodeN.kept (base : Nat) : Kept (NodeN base) := fun _ _ _ _ hb ⟨g1, g2, e, h1, h2, h3, h4, h5, h6⟩ => ⟨g1, g2, e, h1, h2, Nat.lt_of_lt_of_le h3 hb.size, h4.below hb h4.lt, h5.below hb h3, h6⟩
theorem NodeN.put {base g o : Nat} {w : World} {t : NV} {cs ds : List Value} (h : NodeN base w t cs) (hg : g < base) : NodeN base (putAll w g o ds) t cs := by
  obtain ⟨g1, g2, e, h1, h2, h3, h4, h5, h6⟩ := h
  exact ⟨g1, g2, e, h1, h2, by rw [putAll_size]; exact h3, h4.putFar (by omega), h5.putFar (by omega), h6⟩
theorem NodeN.r {base : Nat} {w : World} {t : NV} {cs : List Value} (h : NodeN base w t cs) : NodeR w t cs := by
  obtain ⟨g1, g2, e, h1, h2, h3, h4, h5, h6⟩ := h
  exact ⟨_, _, e, .inr ⟨g1, 0, _, rfl, h4.lt, LabAt.of_cells h4⟩, .inr ⟨g2, 0, _, rfl, h3, h5⟩, h6⟩
theorem NodeN.len {base : Nat} {w : World} {t : NV} {cs : List Value} (h : NodeN base w t cs) : cs.length = 8 := by
  obtain ⟨g1, g2, e, _⟩ := h; subst e; rfl
theorem BindN.kept (base : Nat) : Kept (BindN base) := fun _ _ _ _ _ h => h
theorem BindN.put {base g o : Nat} {w : World} {t : BV} {cs ds : List Value} (h : BindN base w t cs) (_ : g < base) : BindN base (putAll w g o ds) t cs := h
theorem BindN.r {base : Nat} {w : World} {t : BV} {cs : List Value} (h : BindN base w t cs) : BindR w t cs := h
theorem BindN.len {base : Nat} {w : World} {t : BV} {cs : List Value} (h : BindN base w t cs) : cs.length = 2 := by rw [h]; rfl

def CopyG {α : Type} (R : World → α → List Value → Prop) (n : Nat) (ty : TypeId) (w : World) (g : Nat) (l : List α) (k : Nat) : Prop :=
  ∃ cs : Array Value, BlockIs w g ty cs ∧ cs.size = l.length * n ∧ ∀ (i : Nat) (x : α), i < k → l[i]? = some x → ∃ ds, R w x ds ∧ ds.length = n ∧ ∀ (j : Nat) (u : Value), ds[j]? = some u → cs[i * n + j]? = some u
section
variable {α : Type} {R : World → α → List Value → Prop} {n g k : Nat} {ty : TypeId} {w w' : World} {l : List α}
theorem CopyG.lt (h : CopyG R n ty w g l k) : g < w.heap.size := by obtain ⟨cs, hb, _⟩ := h; exact hb.lt
theorem CopyG.below (hR : Kept R) (h : CopyG R n ty w g l k) (hb : Below w.heap.size w w') : CopyG R n ty w' g l k := by
  obtain ⟨cs, h1, h2, h3⟩ := h
  refine ⟨cs, h1.below hb h1.lt, h2, fun i x hi hx => ?_⟩
  obtain ⟨ds, a, b⟩ := h3 i x hi hx
  exact ⟨ds, hR _ _ _ _ hb a, b⟩
theorem CopyG.step {x : α} {ds : List Value} (h : CopyG R n ty w g l k) (hx : l[k]? = some x) (hd : R (putAll w g (k * n) ds) x ds) (hn : ds.length = n) (hp : ∀ y es, R w y es → R (putAll w g (k * n) ds) y es) : CopyG R n ty (putAll w g (k * n) ds) g l (k + 1) := by
  obtain ⟨cs, h1, h2, h3⟩ := h
  have hk : k < l.length := (List.getElem?_eq_some_iff.1 hx).1
  have hkn : k * n + n ≤ l.length * n := by
    have := Nat.mul_le_mul_right n (show k + 1 ≤ l.length from hk)
    rw [Nat.add_mul, Nat.one_mul] at this; exact this
  refine ⟨_, h1.putAll, by rw [setAll_size, h2], fun i y hi hy => ?_⟩
  by_cases e : i = k
  · subst e
    obtain rfl := Option.some.inj (hx.symm.trans hy)
    exact ⟨ds, hd, hn, fun j u hu => setAll_at hu (by omega)⟩
  · obtain ⟨es, a, b, d⟩ := h3 i y (by omega) hy
    refine ⟨es, hp y es a, b, fun j u hu => ?_⟩
    have hj : j < n := by rw [← b]; exact (List.getElem?_eq_some_iff.1 hu).1
    have hin : i * n + n ≤ k * n := by
      have := Nat.mul_le_mul_right n (show i + 1 ≤ k by omega)
      rw [Nat.add_mul, Nat.one_mul] at this; exact this
    rw [setAll_far (by omega)]; exact d j u hu
theorem CopyG.sl {S : World → α → List Value → Prop} (hRS : ∀ x cs, R w x cs → S w x cs) (h : CopyG R n ty w g l l.length) : GSl S n w (.slice (some ⟨g, 0, none⟩) l.length l.length) l := by
  obtain ⟨cs, h1, h2, h3⟩ := h
  refine .inr ⟨g, 0, _, rfl, h1.lt, fun i x hx => ?_⟩
  obtain ⟨ds, a, b, d⟩ := h3 i x (List.getElem?_eq_some_iff.1 hx).1 hx
  exact ⟨ds, hRS _ _ a, CellsAt.of_block h1 (fun j u hu => by rw [Nat.zero_add]; exact d j u hu)⟩
end

def RetN {α : Type} (N : Nat → World → α → List Value → Prop) (w : World) (t : α) (e : Ending) (w' : World) : Prop := ∃ cs : List Value, e = .returned (.agg cs.toArray) ∧ N w.heap.size w' t cs ∧ Below w.heap.size w w'
end Go.Proofs.YtcngiinaneefjaaDoor
namespace Go.Proofs.YtcngiinaneefjaaDoor
open Go.RowKit

section
variable {α : Type} {R S : World → α → List Value → Prop} {n g k : Nat} {ty : TypeId} {w w' : World} {l : List α}
theorem CopyG.putFar {b o : Nat} {es : List Value} (h : CopyG R n ty w g l k) (hne : g ≠ b) (hp : ∀ y ds, R w y ds → R (putAll w b o es) y ds) : CopyG R n ty (putAll w b o es) g l k := by
  obtain ⟨cs, h1, h2, h3⟩ := h
  refine ⟨cs, h1.putFar hne, h2, fun i x hi hx => ?_⟩
  obtain ⟨ds, a, b⟩ := h3 i x hi hx
  exact ⟨ds, hp _ _ a, b⟩
end
theorem TaskN.lower {b base : Nat} {w : World} {t : TV} {cs : List Value} (h : TaskN base w t cs) (hb : b ≤ base) : TaskN b w t cs := by
  obtain ⟨g1, g2, e, h1, h2, h3⟩ := h; exact ⟨g1, g2, e, by omega, by omega, h3⟩
theorem NodeN.lower {b base : Nat} {w : World} {t : NV} {cs : List Value} (h : NodeN base w t cs) (hb : b ≤ base) : NodeN b w t cs := by
  obtain ⟨g1, g2, e, h1, h2, h3⟩ := h; exact ⟨g1, g2, e, by omega, by omega, h3⟩
theorem BindN.lower {b base : Nat} {w : World} {t : BV} {cs : List Value} (h : BindN base w t cs) (_ : b ≤ base) : BindN b w t cs := h
end Go.Proofs.YtcngiinaneefjaaDoor

namespace Go.Proofs.YtcngiinaneefjaaDoor
open Go.RowKit

structure TurnB (bs : List Nat) (w w' : World) : Prop where
  os : w'.os = w.os
  tape : w'.tape = w.tape
  output : w'.output = w.output
  size : w.heap.size ≤ w'.heap.size
  block : ∀ k, k < w.heap.size → k ∉ bs → w'.heap[k]? = w.heap[k]?
section
variable {bs cs : List Nat} {w w' w'' : World}
theorem TurnB.refl (bs : List Nat) (w : World) : TurnB bs w w := ⟨rfl, rfl, rfl, Nat.le_refl _, fun _ _ _ => rfl⟩
theorem TurnB.trans (h : TurnB bs w w') (k : TurnB bs w' w'') : TurnB bs w w'' :=
  ⟨k.os.trans h.os, k.tape.trans h.tape, k.output.trans h.output, Nat.le_trans h.size k.size, fun b hb hne => (k.block b (Nat.lt_of_lt_of_le hb h.size) hne).trans (h.block b hb hne)⟩
theorem TurnB.mono (h : TurnB bs w w') (hs : ∀ b ∈ bs, b ∈ cs) : TurnB cs w w' := ⟨h.os, h.tape, h.output, h.size, fun b hb hn => h.block b hb (fun e => hn (hs b e))⟩
theorem TurnB.of_below (hb : Below w.heap.size w w') : TurnB bs w w' := ⟨hb.os, hb.tape, hb.output, hb.size, fun k hk _ => hb.block k hk⟩
theorem TurnB.step (h : TurnB bs w w') (hb : Below w'.heap.size w' w'') : TurnB bs w w'' := h.trans (.of_below hb)
theorem TurnB.of_grown {row : Option Nat} (hg : w.grownBy w' row) (hr : ∀ k, row = some k → k ∈ bs) : TurnB bs w w' := ⟨hg.os, hg.tape, hg.output, hg.size, fun k hk hne => hg.block k hk (fun e => hne (hr k e.symm))⟩
theorem TurnB.put {g : Nat} (h : TurnB bs w w') (hg : g ∈ bs) (o : Nat) (u : Value) : TurnB bs w (w'.setCell ⟨g, o, none⟩ u) :=
  h.trans ⟨rfl, rfl, rfl, by simp [World.setCell], fun k _ hne => Below.heap_setCell _ _ _ k (fun e => hne (by rw [e]; exact hg))⟩
theorem TurnB.putAll {g : Nat} (h : TurnB bs w w') (hg : g ∈ bs) (o : Nat) (ds : List Value) : TurnB bs w (Go.Proofs.YtcngiinaneefjaaDoor.putAll w' g o ds) := by
  induction ds generalizing w' o with
  | nil => exact h
  | cons u r ih => exact ih (h.put hg o u) _
theorem TurnB.agree (h : TurnB bs w w') {ds : List Nat} (hd : ∀ b ∈ ds, b < w.heap.size ∧ b ∉ bs) : Agree ds w w' := fun b hb => h.block b (hd b hb).1 (hd b hb).2
theorem TurnB.below {B : Nat} (h : TurnB bs w w') (hB : B ≤ w.heap.size) (hg : ∀ b ∈ bs, B ≤ b) : Below B w w' :=
  ⟨h.os, h.tape, h.output, h.size, fun k hk => h.block k (by omega) (fun e => by have := hg k e; omega)⟩
theorem TurnB.old (h : TurnB (bs ++ cs) w w') (hc : ∀ b ∈ cs, w.heap.size ≤ b) : TurnB bs w w' :=
  ⟨h.os, h.tape, h.output, h.size, fun k hk hne => h.block k hk (fun e => by
    rcases List.mem_append.1 e with e | e
    · exact hne e
    · have := hc k e; omega)⟩
theorem BlockIs.turn {g : Nat} {t : TypeId} {c : Array Value} (h : BlockIs w g t c) (k : TurnB bs w w') (hn : g ∉ bs) : BlockIs w' g t c := (k.block g h.lt hn).trans h
end

section
variable {α : Type} {R S : World → α → List Value → List Nat → Prop} {w w' : World} {a b l : List α} {xs xa xb : List Value} {bs ba bb : List Nat}
theorem Elems.split (h : Elems R w (a ++ b) xs bs) : ∃ xa xb ba bb, xs = xa ++ xb ∧ bs = ba ++ bb ∧ Elems R w a xa ba ∧ Elems R w b xb bb := by
  induction a generalizing xs bs with
  | nil => exact ⟨[], xs, [], bs, rfl, rfl, ⟨rfl, rfl⟩, h⟩
  | cons x r ih =>
    obtain ⟨cs, ys, b1, b2, rfl, rfl, h1, h2⟩ := h
    obtain ⟨xa, xb, ba, bb, rfl, rfl, h3, h4⟩ := ih h2
    exact ⟨cs ++ xa, xb, b1 ++ ba, bb, by simp, by simp, ⟨cs, xa, b1, ba, rfl, rfl, h1, h3⟩, h4⟩
theorem Elems.len {n : Nat} (hn : ∀ x cs b, R w x cs b → cs.length = n) (h : Elems R w l xs bs) : xs.length = l.length * n := by
  induction l generalizing xs bs with
  | nil => obtain ⟨rfl, rfl⟩ := h; simp
  | cons x r ih =>
    obtain ⟨cs, ys, b1, b2, rfl, rfl, h1, h2⟩ := h
    rw [List.length_append, ih h2, hn _ _ _ h1, List.length_cons, Nat.add_mul]; omega
end
theorem setAll_list {cs : Array Value} {o : Nat} {ds : List Value} (h : o + ds.length ≤ cs.size) : (setAll cs o ds).toList = cs.toList.take o ++ (ds ++ cs.toList.drop (o + ds.length)) := by
  apply List.ext_getElem?
  intro i
  rw [Array.getElem?_toList]
  have hs : (cs.toList.take o).length = o := by simp; omega
  rcases Nat.lt_or_ge i o with h1 | h1
  · rw [setAll_far (.inl h1), List.getElem?_append_left (by omega), List.getElem?_take_of_lt h1, Array.getElem?_toList]
  · rw [List.getElem?_append_right (by omega), hs]
    rcases Nat.lt_or_ge i (o + ds.length) with h2 | h2
    · rw [List.getElem?_append_left (by omega)]
      obtain ⟨u, hu⟩ : ∃ u, ds[i - o]? = some u := ⟨_, List.getElem?_eq_getElem (by omega)⟩
      have := setAll_at (cs := cs) (o := o) hu h
      rw [show o + (i - o) = i by omega] at this
      rw [this, hu]
    · rw [setAll_far (.inr h2), List.getElem?_append_right (by omega), List.getElem?_drop, Array.getElem?_toList]
      congr 1; omega
theorem own_put {w : World} {e : TypeId} {size n g : Nat} {v : Value} {xa cs xb ds : List Value} (h : w.ownsRow 0 e size v n (xa ++ (cs ++ xb))) (hd : ds.length = cs.length) (hg : v.ownBlock = some g) :
    (putAll w g xa.length ds).ownsRow 0 e size v n (xa ++ (ds ++ xb)) := by
  obtain ⟨h1, h2⟩ := h
  refine ⟨by simpa [hd] using h1, ?_⟩
  rcases h2 with ⟨rfl, _⟩ | ⟨g', cap, cur, rfl, hb, hh, hnc, hcm, hs, ht⟩
  · cases hg
  · obtain rfl : g' = g := by simpa [Value.ownBlock] using hg
    have hlen : (xa ++ (cs ++ xb)).length ≤ cur.toList.length := by rw [← ht, List.length_take]; omega
    have hcur : cur.toList = (xa ++ (cs ++ xb)) ++ cur.toList.drop (n * size) := by rw [← ht, List.take_append_drop]
    simp only [List.length_append, Array.length_toList] at hlen
    refine .inr ⟨g', cap, setAll cur xa.length ds, rfl, hb, BlockIs.putAll hh, hnc, hcm, by rw [setAll_size, hs], ?_⟩
    have e1 : cur.toList.take xa.length = xa := by rw [hcur, List.append_assoc, List.take_left']; rfl
    have e2 : cur.toList.drop (xa.length + ds.length) = xb ++ cur.toList.drop (n * size) := by
      rw [hcur, hd]
      have : (xa ++ (cs ++ xb) ++ cur.toList.drop (n * size)) = (xa ++ cs) ++ (xb ++ cur.toList.drop (n * size)) := by simp
      rw [this, ← List.length_append, List.drop_left']
      · congr 1; rw [← this, ← hcur]
      · rfl
    rw [setAll_list (by omega), e1, e2]
    have e3 : xa ++ (ds ++ (xb ++ cur.toList.drop (n * size))) = (xa ++ (ds ++ xb)) ++ cur.toList.drop (n * size) := by simp
    rw [e3, List.take_left']
    simp only [List.length_append] at h1 ⊢
    omega
theorem own_cells {w : World} {e : TypeId} {size n : Nat} {v : Value} {xs : List Value} (h : w.ownsRow 0 e size v n xs) (hn : 0 < n) : ∃ g cap, v = .slice (some ⟨g, 0, none⟩) n cap ∧ g < w.heap.size ∧ (∀ j u, xs[j]? = some u → w.cell? ⟨g, j, none⟩ = some u) ∧ ∀ o, w.frozen? ⟨g, o, none⟩ = false := by
  obtain ⟨h1, h2⟩ := h
  rcases h2 with ⟨_, rfl⟩ | ⟨g, cap, cur, rfl, hb, hh, hnc, hcm, hs, ht⟩
  · omega
  · refine ⟨g, cap, rfl, (Array.getElem?_eq_some_iff.1 hh).1, fun j u hu => ?_, fun o => BlockIs.frozen hh o⟩
    rw [BlockIs.cell hh]
    rw [← ht] at hu
    have hj : j < n * size := by
      have := (List.getElem?_eq_some_iff.1 hu).1
      rw [List.length_take] at this; omega
    rw [List.getElem?_take_of_lt hj] at hu
    simpa using hu
end Go.Proofs.YtcngiinaneefjaaDoor

namespace Go.Proofs.YtcngiinaneefjaaDoor

def mLabs : Int → Nat → List LV
  | _, 0 => []
  | k, n + 1 => ⟨k, k + 1⟩ :: mLabs (k + 2) n
def mInts : Int → Nat → List Int
  | _, 0 => []
  | k, n + 1 => k :: mInts (k + 1) n
theorem mLabs_len (k : Int) (n : Nat) : (mLabs k n).length = n := by
  induction n generalizing k with
  | zero => rfl
  | succ n ih => simp [mLabs, ih]
theorem mInts_len (k : Int) (n : Nat) : (mInts k n).length = n := by
  induction n generalizing k with
  | zero => rfl
  | succ n ih => simp [mInts, ih]
theorem mLabs_snoc (k : Int) (n : Nat) : mLabs k (n + 1) = mLabs k n ++ [⟨k + 2 * n, k + 2 * n + 1⟩] := by
  induction n generalizing k with
  | zero => simp [mLabs]
  | succ n ih =>
    rw [mLabs, ih (k + 2)]
    simp only [mLabs, List.cons_append, Int.natCast_add, Int.natCast_one]
    rw [show k + 2 + 2 * (n : Int) = k + 2 * ((n : Int) + 1) by omega]
theorem mInts_snoc (k : Int) (n : Nat) : mInts k (n + 1) = mInts k n ++ [k + n] := by
  induction n generalizing k with
  | zero => simp [mInts]
  | succ n ih =>
    rw [mInts, ih (k + 1)]
    simp only [mInts, List.cons_append, Int.natCast_add, Int.natCast_one]
    rw [show k + 1 + (n : Int) = k + ((n : Int) + 1) by omega]
def szTask (t : TV) : Int := 5 + 2 * t.want.length + t.tols.length
def szNode (n : NV) : Int := 6 + 2 * n.labs.length + n.taints.length
end Go.Proofs.YtcngiinaneefjaaDoor

namespace Go.Proofs.YtcngiinaneefjaaDoor
open Go.RowKit

def RetO {α : Type} (R : World → α → List Value → List Nat → Prop) (w : World) (t : α) (e : Ending) (w' : World) : Prop := ∃ ds bs, e = .returned (.agg ds.toArray) ∧ R w' t ds bs ∧ bs.Nodup ∧ (∀ b ∈ bs, w.heap.size ≤ b) ∧ Below w.heap.size w w'
theorem LabSl.news {w : World} {A : Option Addr} {c : Nat} {l : List LV} (h : LabSl w (.slice A l.length c) l) : 0 < l.length → ∃ b off, A = some ⟨b, off, none⟩ ∧ CellsAt w b off (labL l) := by
  intro hp
  obtain ⟨A', c', e, h'⟩ := h.form
  simp only [Value.slice.injEq] at e
  obtain ⟨rfl, _, _⟩ := e
  obtain ⟨b, off, rfl, _, hat⟩ := h' hp
  refine ⟨b, off, rfl, fun j u hu => ?_⟩
  have hj : j < l.length * 2 := by
    have := (List.getElem?_eq_some_iff.1 hu).1
    rwa [labL_len] at this
  obtain ⟨r, hr⟩ : ∃ r, l[j / 2]? = some r := ⟨_, List.getElem?_eq_getElem (by omega)⟩
  obtain ⟨a1, a2⟩ := hat _ _ hr
  obtain ⟨b1, b2⟩ := labL_at hr
  rcases Nat.mod_two_eq_zero_or_one j with e | e
  · have ej : j / 2 * 2 = j := by omega
    rw [ej] at a1 b1
    rw [b1] at hu
    obtain rfl := Option.some.inj hu
    exact a1
  · have ej : j / 2 * 2 + 1 = j := by omega
    rw [Nat.add_assoc, ej] at a2
    rw [ej] at b2
    rw [b2] at hu
    obtain rfl := Option.some.inj hu
    exact a2
theorem IntSl.news {w : World} {A : Option Addr} {c : Nat} {l : List Int} (h : IntSl w (.slice A l.length c) l) : 0 < l.length → ∃ b off, A = some ⟨b, off, none⟩ ∧ CellsAt w b off (intL l) := by
  intro hp
  obtain ⟨A', c', e, h'⟩ := h.form
  simp only [Value.slice.injEq] at e
  obtain ⟨rfl, _, _⟩ := e
  obtain ⟨b, off, rfl, _, hat⟩ := h' hp
  refine ⟨b, off, rfl, fun j u hu => ?_⟩
  simp [intL] at hu
  obtain ⟨r, hr, rfl⟩ := hu
  exact hat _ _ hr
theorem intL_one (l : List Int) : ∀ u ∈ intL l, u.oneCell' = true := by
  intro u hu
  simp [intL] at hu
  obtain ⟨r, _, h⟩ := hu; subst h; rfl
end Go.Proofs.YtcngiinaneefjaaDoor

namespace Go.Proofs.YtcngiinaneefjaaDoor
open Go.RowKit

structure KeepB (g : Nat) (w w' : World) : Prop where
  os : w'.os = w.os
  tape : w'.tape = w.tape
  output : w'.output = w.output
  size : w.heap.size ≤ w'.heap.size
  block : ∀ k, k < w.heap.size → k ≠ g → w'.heap[k]? = w.heap[k]?
section
variable {g : Nat} {w w' w'' : World}
theorem KeepB.refl (g : Nat) (w : World) : KeepB g w w := ⟨rfl, rfl, rfl, Nat.le_refl _, fun _ _ _ => rfl⟩
theorem KeepB.trans (h : KeepB g w w') (k : KeepB g w' w'') : KeepB g w w'' :=
  ⟨k.os.trans h.os, k.tape.trans h.tape, k.output.trans h.output, Nat.le_trans h.size k.size, fun b hb hne => (k.block b (Nat.lt_of_lt_of_le hb h.size) hne).trans (h.block b hb hne)⟩
theorem KeepB.step (h : KeepB g w w') (hb : Below w'.heap.size w' w'') : KeepB g w w'' := h.trans ⟨hb.os, hb.tape, hb.output, hb.size, fun k hk _ => hb.block k hk⟩
theorem KeepB.put (h : KeepB g w w') (o : Nat) (u : Value) : KeepB g w (w'.setCell ⟨g, o, none⟩ u) := h.trans ⟨rfl, rfl, rfl, by simp [World.setCell], fun k _ hne => Below.heap_setCell _ _ _ k hne⟩
theorem KeepB.grown (h : KeepB g w w') {row : Option Nat} (hg : w'.grownBy w'' row) (hr : ∀ k, row = some k → w.heap.size ≤ k) : KeepB g w w'' :=
  ⟨hg.os.trans h.os, hg.tape.trans h.tape, hg.output.trans h.output, Nat.le_trans h.size hg.size, fun k hk hne => (hg.block k (Nat.lt_of_lt_of_le hk h.size) (fun e => by have := hr k e.symm; omega)).trans (h.block k hk hne)⟩
theorem KeepB.below {B : Nat} (h : KeepB g w w') (hB : B ≤ w.heap.size) (hg : B ≤ g) : Below B w w' := ⟨h.os, h.tape, h.output, h.size, fun k hk => h.block k (by omega) (by omega)⟩
theorem BlockIs.keep {b : Nat} {t : TypeId} {cs : Array Value} (h : BlockIs w b t cs) (k : KeepB g w w') (hne : b ≠ g) : BlockIs w' b t cs := (k.block b h.lt hne).trans h
end

section
variable {P : Program} {ops : Array Oper} {o : Oper} {a : Act} {Q : Exit → Act → World → Prop}
end
def bindL (l : List BV) : List Value := l.flatMap fun x => [.int .i64 x.task, .int .i64 x.node]
theorem bindL_cons (x : BV) (r : List BV) : bindL (x :: r) = .int .i64 x.task :: .int .i64 x.node :: bindL r := rfl
theorem bindL_len (l : List BV) : (bindL l).length = l.length * 2 := by
  induction l with
  | nil => rfl
  | cons x r ih => rw [bindL_cons]; simp only [List.length_cons, ih]; omega
theorem bindL_at {l : List BV} {i : Nat} {x : BV} (h : l[i]? = some x) : (bindL l)[i * 2]? = some (.int .i64 x.task) ∧ (bindL l)[i * 2 + 1]? = some (.int .i64 x.node) := by
  induction l generalizing i with
  | nil => simp at h
  | cons y r ih =>
    cases i with
    | zero => simp at h; subst h; exact ⟨rfl, rfl⟩
    | succ i =>
      simp at h
      have := ih h
      rw [bindL_cons, show (i + 1) * 2 = i * 2 + 1 + 1 by omega]
      simpa using this
theorem BindSl.news {w : World} {A : Option Addr} {c : Nat} {l : List BV} (h : BindSl w (.slice A l.length c) l) : 0 < l.length → ∃ b off, A = some ⟨b, off, none⟩ ∧ CellsAt w b off (bindL l) := by
  intro hp
  obtain ⟨A', c', e, h'⟩ := h.form
  simp only [Value.slice.injEq] at e
  obtain ⟨rfl, _, _⟩ := e
  obtain ⟨b, off, rfl, _, hat⟩ := h' hp
  refine ⟨b, off, rfl, fun j u hu => ?_⟩
  have hj : j < l.length * 2 := by
    have := (List.getElem?_eq_some_iff.1 hu).1
    rwa [bindL_len] at this
  obtain ⟨r, hr⟩ : ∃ r, l[j / 2]? = some r := ⟨_, List.getElem?_eq_getElem (by omega)⟩
  obtain ⟨cs, hc, a⟩ := hat _ _ hr
  obtain rfl : cs = [.int .i64 r.task, .int .i64 r.node] := hc
  obtain ⟨b1, b2⟩ := bindL_at hr
  obtain ⟨a1, a2⟩ := bind_cells a
  rcases Nat.mod_two_eq_zero_or_one j with e | e
  · have ej : j / 2 * 2 = j := by omega
    rw [ej] at a1 b1
    rw [b1] at hu
    obtain rfl := Option.some.inj hu
    exact a1
  · have ej : j / 2 * 2 + 1 = j := by omega
    rw [Nat.add_assoc, ej] at a2
    rw [ej] at b2
    rw [b2] at hu
    obtain rfl := Option.some.inj hu
    exact a2
theorem rowO_lt {α : Type} {R : World → α → List Value → List Nat → Prop} {ty : TypeId} {n : Nat} {w : World} {v : Value} {l : List α} {bs : List Nat} (hR : ∀ x cs b, R w x cs b → ∀ c ∈ b, c < w.heap.size) (h : RowO R ty n w v l bs) : ∀ b ∈ bs, b < w.heap.size := by
  obtain ⟨xs, b, h1, h2, rfl⟩ := h
  intro c hc
  rcases List.mem_append.1 hc with h | h
  · exact own_lt h1 c h
  · exact elems_lt hR h2 c h
end Go.Proofs.YtcngiinaneefjaaDoor

namespace Go.Proofs.YtcngiinaneefjaaDoor
open Go.RowKit

theorem grown_set {w w' : World} {g : Nat} {row : Option Nat} (h : w.grownBy w' row) (hr : row = some g) (o : Nat) (u : Value) : w.grownBy (w'.setCell ⟨g, o, none⟩ u) row :=
  ⟨h.os, h.tape, h.output, by simpa [World.setCell] using h.size, fun k hk hg => (Below.heap_setCell _ _ _ _ (fun e => hg (by rw [e, hr]))).trans (h.block k hk hg)⟩
theorem labL_snoc (a : List LV) (x : LV) : labL (a ++ [x]) = labL a ++ [.int .i64 x.k, .int .i64 x.v] := by simp [labL]
set_option maxHeartbeats 1600000 in
theorem markLabS_any (v : Value) (l : List LV) (k : Int) (w : World) (h : LabO w v l) (hl : l.length ≤ 1048576) (h0 : 0 ≤ k) (hk : k ≤ 1152921504606846976) :
    Calls Tryd.prog 53 #[v, .int .i64 k] w fun e w' => e = .returned (.int .i64 (k + 2 * l.length)) ∧ LabO w' v (mLabs k l.length) ∧ w.grownBy w' v.ownBlock := by
  obtain ⟨A, c, rfl, _⟩ := own_form h
  have HO := Lib.hid h
  clear h
  go_enter Tryd.func53, Tryd.ntmps53
  go_wp2_with fail
  go_loopw [1, 5] (fun s1 s5 wr => ∃ i : Nat, i ≤ l.length ∧ s5 = .int .i64 i ∧ s1 = .int .i64 (k + 2 * i) ∧ wr.ownsRow 0 78 2 (.slice A l.length c) l.length (labL (mLabs k i) ++ labL (l.drop i)) ∧ w.grownBy wr (Value.slice A l.length c).ownBlock) (fun _ s5 _ => (l.length - intOf s5).toNat)
  case atStart => exact ⟨0, by omega, rfl, by simp, HO.out, grownBy_refl _ _⟩
  case round =>
    obtain ⟨i, hi, rfl, rfl, hown, hg⟩ := hrel
    by_cases hlt : i < l.length
    · obtain ⟨r, hr⟩ : ∃ r, l[i]? = some r := ⟨_, List.getElem?_eq_getElem hlt⟩
      obtain ⟨g, cap, e, hgl, hcell, hfr⟩ := own_cells hown (by omega)
      simp only [Value.slice.injEq] at e
      obtain ⟨rfl, -, rfl⟩ := e
      rw [drop_at hr, labL_cons] at hown hcell
      have hxl : (labL (mLabs k i)).length = i * 2 := by rw [labL_len, mLabs_len]
      have u0 := hcell (i * 2) (.int .i64 r.k) (by rw [List.getElem?_append_right (by omega), hxl]; simp)
      have u1 := hcell (i * 2 + 1) (.int .i64 r.v) (by rw [List.getElem?_append_right (by omega), hxl]; simp)
      have HX := Lib.hid hown
      have HG := Lib.hid hg
      have HXL := Lib.hid hxl
      have hlti : (i : Int) < (l.length : Int) := by omega
      clear hown hg hcell hxl hr
      go_wp2_with fail
      go_roundw
      case rel =>
        refine ⟨i + 1, by omega, by go_num, by go_num, ?_, grown_set (grown_set HG.out rfl _ _) rfl _ _⟩
        have st := own_put (g := g) (xa := labL (mLabs k i)) (cs := [.int .i64 r.k, .int .i64 r.v]) (ds := [.int .i64 (k + 2 * i), .int .i64 (k + 2 * i + 1)]) HX.out rfl rfl
        rw [HXL.out] at st
        rw [mLabs_snoc, labL_snoc, List.append_assoc]
        exact st
      case measure => simp [intOf]; omega
    · obtain rfl : i = l.length := by omega
      have HX := Lib.hid hown
      have HG := Lib.hid hg
      clear hown hg
      go_wp2_with fail
      go_ret
      refine ⟨rfl, ?_, HG.out⟩
      have := HX.out
      rw [List.drop_length] at this
      unfold LabO
      rw [mLabs_len]
      simpa [labL] using this

set_option maxHeartbeats 1600000 in
theorem markIntS_any (v : Value) (l : List Int) (k : Int) (w : World) (h : IntO w v l) (hl : l.length ≤ 1048576) (h0 : 0 ≤ k) (hk : k ≤ 1152921504606846976) :
    Calls Tryd.prog 54 #[v, .int .i64 k] w fun e w' => e = .returned (.int .i64 (k + l.length)) ∧ IntO w' v (mInts k l.length) ∧ w.grownBy w' v.ownBlock := by
  obtain ⟨A, c, rfl, _⟩ := own_form h
  have HO := Lib.hid h
  clear h
  go_enter Tryd.func54, Tryd.ntmps54
  go_wp2_with fail
  go_loopw [1, 5] (fun s1 s5 wr => ∃ i : Nat, i ≤ l.length ∧ s5 = .int .i64 i ∧ s1 = .int .i64 (k + i) ∧ wr.ownsRow 0 3 1 (.slice A l.length c) l.length (intL (mInts k i) ++ intL (l.drop i)) ∧ w.grownBy wr (Value.slice A l.length c).ownBlock) (fun _ s5 _ => (l.length - intOf s5).toNat)
  case atStart => exact ⟨0, by omega, rfl, by simp, HO.out, grownBy_refl _ _⟩
  case round =>
    obtain ⟨i, hi, rfl, rfl, hown, hg⟩ := hrel
    by_cases hlt : i < l.length
    · obtain ⟨r, hr⟩ : ∃ r, l[i]? = some r := ⟨_, List.getElem?_eq_getElem hlt⟩
      obtain ⟨g, cap, e, hgl, hcell, hfr⟩ := own_cells hown (by omega)
      simp only [Value.slice.injEq] at e
      obtain ⟨rfl, -, rfl⟩ := e
      rw [drop_at hr] at hown hcell
      have hxl : (intL (mInts k i)).length = i := by simp [intL, mInts_len]
      have u0 := hcell i (.int .i64 r) (by rw [List.getElem?_append_right (by omega), hxl]; simp [intL])
      have HX := Lib.hid hown
      have HG := Lib.hid hg
      have HXL := Lib.hid hxl
      have hlti : (i : Int) < (l.length : Int) := by omega
      clear hown hg hcell hxl hr
      go_wp2_with fail
      go_roundw
      case rel =>
        refine ⟨i + 1, by omega, by go_num, by go_num, ?_, grown_set HG.out rfl _ _⟩
        have st := own_put (g := g) (xa := intL (mInts k i)) (cs := [.int .i64 r]) (ds := [.int .i64 (k + i)]) (xb := intL (l.drop (i + 1))) HX.out rfl rfl
        rw [HXL.out] at st
        rw [mInts_snoc]
        have e : intL (mInts k i ++ [k + (i : Int)]) = intL (mInts k i) ++ [.int .i64 (k + i)] := by simp [intL]
        rw [e, List.append_assoc]
        exact st
      case measure => simp [intOf]; omega
    · obtain rfl : i = l.length := by omega
      have HX := Lib.hid hown
      have HG := Lib.hid hg
      clear hown hg
      go_wp2_with fail
      go_ret
      refine ⟨rfl, ?_, HG.out⟩
      have := HX.out
      rw [List.drop_length] at this
      unfold IntO
      rw [mInts_len]
      simpa [intL] using this

end Go.Proofs.YtcngiinaneefjaaDoor

namespace Go.Proofs.YtcngiinaneefjaaDoor
open Go.RowKit

def bytL (l : List Int) : List Value := l.map (Value.int .u8)
def BytO (w : World) (v : Value) (l : List Int) : Prop := w.ownsRow 0 5 1 v l.length (bytL l)
theorem BytO.sl {w : World} {v : Value} {l : List Int} (h : BytO w v l) : BytSl w v l := by
  obtain ⟨A, c, rfl, hA⟩ := own_form h
  rcases Nat.eq_zero_or_pos l.length with h0 | hp
  · obtain rfl : l = [] := List.eq_nil_of_length_eq_zero h0
    exact .inl ⟨rfl, _, _, rfl⟩
  · obtain ⟨g, rfl, hlt, hc⟩ := hA hp
    exact .inr ⟨g, 0, c, rfl, hlt, fun i r hr => hc _ _ (by simp [bytL, hr])⟩
def OwnsY (w : World) (base : Nat) (v : Value) (l : List Int) : Prop := w.ownsRow base 5 1 v l.length (bytL l)
section
variable {w w' : World} {base : Nat} {v : Value} {l : List Int}
theorem OwnsY.alloc (h : OwnsY w base v l) (o : Obj) : OwnsY (w.alloc o) base v l := World.ownsRow.alloc h o
theorem OwnsY.nil (w : World) (base : Nat) : OwnsY w base (.slice none 0 0) [] := World.ownsRow_nil w base _ _
theorem OwnsY.o (h : OwnsY w base v l) : BytO w v l := by
  obtain ⟨h1, h2⟩ := h
  refine ⟨h1, ?_⟩
  rcases h2 with h | ⟨g, cap, cur, hv, hg, h⟩
  · exact .inl h
  · exact .inr ⟨g, cap, cur, hv, Nat.zero_le _, h⟩
theorem OwnsY.low (h : OwnsY w base v l) : ∀ b ∈ blk v, base ≤ b := by
  rcases h.2 with ⟨rfl, _⟩ | ⟨g, cap, cur, rfl, hg, _⟩
  · intro b hb; simp [blk, Value.ownBlock] at hb
  · intro b hb
    simp [blk, Value.ownBlock] at hb
    omega
theorem OwnsY.below {B : Nat} (h : OwnsY w base v l) (hb : Below B w w') (hB : w.heap.size ≤ B) : OwnsY w' base v l := by
  obtain ⟨h1, h2⟩ := h
  refine ⟨h1, ?_⟩
  rcases h2 with h | ⟨g, cap, cur, hv, hg, hh, h⟩
  · exact .inl h
  · have hlt : g < w.heap.size := (Array.getElem?_eq_some_iff.1 hh).1
    exact .inr ⟨g, cap, cur, hv, hg, (hb.block g (by omega)).trans hh, h⟩
theorem OwnsY.lower {b : Nat} (h : OwnsY w base v l) (hb : b ≤ base) : OwnsY w b v l := by
  obtain ⟨h1, h2⟩ := h
  refine ⟨h1, ?_⟩
  rcases h2 with h | ⟨g, cap, cur, hv, hg, h⟩
  · exact .inl h
  · exact .inr ⟨g, cap, cur, hv, Nat.le_trans hb hg, h⟩
end
theorem bytL_snoc (l : List Int) (r : Int) : bytL (l ++ [r]) = bytL l ++ [.int .u8 r] := by simp [bytL]
theorem wpList_append_y {ops : Array Oper} {rest : List Oper} {o : Oper} {a : Act} {Q : Exit → Act → World → Prop} (w : World) (hgd : o.guard = none) (s x : Operand)
    (ho : o.op = .call { callee := .builtin .append, args := #[s, x], argTypes := #[29, 29] })
    (base : Nat) (v : Value) (l : List Int) (r : Int) (g : Nat) (hs : a.eval s = v) (hown : OwnsY w base v l) (hx : a.eval x = .slice (some ⟨g, 0, none⟩) 1 1)
    (h0 : w.cell? ⟨g, 0, none⟩ = some (.int .u8 r)) (hl : l.length ≤ 2000000) (hbase : base ≤ w.heap.size)
    (h : ∀ v' w', OwnsY w' base v' (l ++ [r]) → Below base w w' → wpList Tryd.prog ops Q rest (a.put o.dst v') w') : wpList Tryd.prog ops Q (o :: rest) a w := by
  obtain ⟨i0, hi0, hz0, hz1, hz2⟩ := info_parts Tryd.infoY
  refine wpList_append_own w hgd s x 29 ho base 5 i0 _ 1 1 Tryd.underlying29 hi0 hz0 hz1 hz2 rfl (by omega) v l.length (bytL l) hs hown ⟨g, 0, none⟩ 1 1 [.int .u8 r] hx rfl ?_ ?_ (by simp only [maxLen]; omega) (by omega) hbase ?_
  · intro j u hj
    match j, hj with
    | 0, hj => simp at hj; subst hj; simpa [Addr.add] using h0
  · intro u hu
    simp at hu
    subst hu; rfl
  · intro v' w' hown' hgrow _
    refine h v' w' ?_ ((Below.refl _ _).grown hgrow hbase (fun k hk => (World.ownsRow.lt hown k hk).1))
    unfold OwnsY
    rw [bytL_snoc, List.length_append]
    exact hown'
theorem BytSl.news {w : World} {A : Option Addr} {c : Nat} {l : List Int} (h : BytSl w (.slice A l.length c) l) : 0 < l.length → ∃ b off, A = some ⟨b, off, none⟩ ∧ CellsAt w b off (bytL l) := by
  intro hp
  obtain ⟨A', c', e, h'⟩ := h.form
  simp only [Value.slice.injEq] at e
  obtain ⟨rfl, _, _⟩ := e
  obtain ⟨b, off, rfl, _, hat⟩ := h' hp
  refine ⟨b, off, rfl, fun j u hu => ?_⟩
  simp [bytL] at hu
  obtain ⟨r, hr, rfl⟩ := hu
  exact hat _ _ hr
theorem bytL_one (l : List Int) : ∀ u ∈ bytL l, u.oneCell' = true := by
  intro u hu
  simp [bytL] at hu
  obtain ⟨r, _, h⟩ := hu; subst h; rfl
def mByts : Int → Nat → List Int
  | _, 0 => []
  | k, n + 1 => k % 256 :: mByts (k + 1) n
theorem mByts_len (k : Int) (n : Nat) : (mByts k n).length = n := by
  induction n generalizing k with
  | zero => rfl
  | succ n ih => simp [mByts, ih]
theorem mByts_snoc (k : Int) (n : Nat) : mByts k (n + 1) = mByts k n ++ [(k + n) % 256] := by
  induction n generalizing k with
  | zero => simp [mByts]
  | succ n ih =>
    rw [mByts, ih (k + 1)]
    simp only [mByts, List.cons_append, Int.natCast_add, Int.natCast_one]
    rw [show k + 1 + (n : Int) = k + ((n : Int) + 1) by omega]
theorem mByts_at (k : Int) {n i : Nat} (h : i < n) : (mByts k n)[i]? = some ((k + i) % 256) := by
  induction n generalizing k i with
  | zero => omega
  | succ n ih =>
    cases i with
    | zero => simp [mByts]
    | succ i =>
      rw [mByts, List.getElem?_cons_succ, ih (k + 1) (by omega)]
      congr 2; omega
theorem conv_byte (n : Int) (w : World) : (convert 3 5 (.int .i64 n)).run Tryd.prog w = .ok (.int .u8 (n % 256)) w := by
  have := IntKind.wrap_u8' n
  simp [go_sem, this]
set_option maxHeartbeats 1600000 in
theorem markByteS_any (v : Value) (l : List Int) (k : Int) (w : World) (h : BytO w v l) (hl : l.length ≤ 1048576) (h0 : 0 ≤ k) (hk : k ≤ 1152921504606846976) :
    Calls Tryd.prog 16 #[v, .int .i64 k] w fun e w' => e = .returned (.int .i64 (k + l.length)) ∧ BytO w' v (mByts k l.length) ∧ w.grownBy w' v.ownBlock := by
  obtain ⟨A, c, rfl, _⟩ := own_form h
  have HO := Lib.hid h
  clear h
  have cvt := conv_byte
  go_enter Tryd.func16, Tryd.ntmps16
  go_wp2_with fail
  go_loopw [1, 5] (fun s1 s5 wr => ∃ i : Nat, i ≤ l.length ∧ s5 = .int .i64 i ∧ s1 = .int .i64 (k + i) ∧ wr.ownsRow 0 5 1 (.slice A l.length c) l.length (bytL (mByts k i) ++ bytL (l.drop i)) ∧ w.grownBy wr (Value.slice A l.length c).ownBlock) (fun _ s5 _ => (l.length - intOf s5).toNat)
  case atStart => exact ⟨0, by omega, rfl, by simp, HO.out, grownBy_refl _ _⟩
  case round =>
    obtain ⟨i, hi, rfl, rfl, hown, hg⟩ := hrel
    by_cases hlt : i < l.length
    · obtain ⟨r, hr⟩ : ∃ r, l[i]? = some r := ⟨_, List.getElem?_eq_getElem hlt⟩
      obtain ⟨g, cap, e, hgl, hcell, hfr⟩ := own_cells hown (by omega)
      simp only [Value.slice.injEq] at e
      obtain ⟨rfl, -, rfl⟩ := e
      rw [drop_at hr] at hown hcell
      have hxl : (bytL (mByts k i)).length = i := by simp [bytL, mByts_len]
      have u0 := hcell i (.int .u8 r) (by rw [List.getElem?_append_right (by omega), hxl]; simp [bytL])
      have HX := Lib.hid hown
      have HG := Lib.hid hg
      have HXL := Lib.hid hxl
      have hlti : (i : Int) < (l.length : Int) := by omega
      clear hown hg hcell hxl hr
      go_wp2_with fail
      go_roundw
      case rel =>
        refine ⟨i + 1, by omega, by go_num, by go_num, ?_, grown_set HG.out rfl _ _⟩
        have st := own_put (g := g) (xa := bytL (mByts k i)) (cs := [.int .u8 r]) (ds := [.int .u8 ((k + i) % 256)]) (xb := bytL (l.drop (i + 1))) HX.out rfl rfl
        rw [HXL.out] at st
        rw [mByts_snoc]
        have e : bytL (mByts k i ++ [(k + (i : Int)) % 256]) = bytL (mByts k i) ++ [.int .u8 ((k + i) % 256)] := by simp [bytL]
        rw [e, List.append_assoc]
        exact st
      case measure => simp [intOf]; omega
    · obtain rfl : i = l.length := by omega
      have HX := Lib.hid hown
      have HG := Lib.hid hg
      clear hown hg
      go_wp2_with fail
      go_ret
      refine ⟨rfl, ?_, HG.out⟩
      have := HX.out
      rw [List.drop_length] at this
      unfold BytO
      rw [mByts_len]
      simpa [bytL] using this

set_option maxHeartbeats 1600000 in
theorem heldByteS_any (v : Value) (n : Nat) (k : Int) (w : World) (h : BytSl w v (mByts k n)) (hl : n ≤ 1048576) (h0 : 0 ≤ k) (hk : k ≤ 1152921504606846976) :
    Calls Tryd.prog 17 #[v, .int .i64 k] w fun e w' => e = .returned (.int .i64 (k + n)) ∧ w = w' := by
  obtain ⟨A, c, rfl, hA⟩ := h.form
  rw [mByts_len] at hA ⊢
  have HA := Lib.hid hA
  clear hA h
  have cvt := conv_byte
  go_enter Tryd.func17, Tryd.ntmps17
  go_wp2_with fail
  go_loop [1, 5] (fun s1 s5 => ∃ i : Nat, i ≤ n ∧ s5 = .int .i64 i ∧ s1 = .int .i64 (k + i)) (fun _ s5 => (n - intOf s5).toNat)
  case atStart => exact ⟨0, by omega, rfl, by simp⟩
  case round =>
    obtain ⟨i, hi, rfl, rfl⟩ := hrel
    by_cases hlt : i < n
    · obtain ⟨b, off, rfl, hbw, hat⟩ := HA.out (by omega)
      have u0 := hat i _ (mByts_at k hlt)
      have n0 : (((k + (i : Int)) % 256) != ((k + (i : Int)) % 256)) = false := by simp
      have hlti : (i : Int) < (n : Int) := by omega
      clear hat
      go_wp2_with fail
      go_round
      case rel => exact ⟨i + 1, by omega, by go_num, by go_num⟩
      case measure => simp [intOf]; omega
    · obtain rfl : i = n := by omega
      go_wp2_with fail
      go_ret
      exact ⟨rfl, rfl⟩

end Go.Proofs.YtcngiinaneefjaaDoor

namespace Go.Proofs.YtcngiinaneefjaaDoor

def numB (n : Nat) : List Int := if n < 128 then [(n : Int)] else ((n % 128 + 128 : Nat) : Int) :: numB (n / 128)
termination_by n
decreasing_by omega
def numBytes (n : Int) : List Int := if 0 ≤ n ∧ n ≤ 4294967295 then numB n.toNat else []
theorem numB_small {n : Nat} (h : n < 128) : numB n = [(n : Int)] := by rw [numB, if_pos h]
theorem numB_big {n : Nat} (h : 128 ≤ n) : numB n = ((n % 128 + 128 : Nat) : Int) :: numB (n / 128) := by rw [numB, if_neg (by omega)]
theorem numB_len (k : Nat) : ∀ n : Nat, n < 128 ^ (k + 1) → (numB n).length ≤ k + 1 := by
  induction k with
  | zero => intro n h; rw [numB_small (by omega)]; simp
  | succ k ih =>
    intro n h
    by_cases hn : n < 128
    · rw [numB_small hn]; simp
    · rw [numB_big (by omega)]
      have := ih (n / 128) (by rw [Nat.pow_succ] at h; omega)
      simp only [List.length_cons]; omega
theorem numBytes_len (n : Int) : (numBytes n).length ≤ 5 := by
  unfold numBytes
  split
  · exact numB_len 4 _ (by omega)
  · simp
end Go.Proofs.YtcngiinaneefjaaDoor

namespace Go.Proofs.YtcngiinaneefjaaDoor

def lWithin (n a b : Int) : Bool := decide (a ≤ n) && decide (n ≤ b)
def RetL (r : RV × Int) (w : World) (e : Ending) (w' : World) : Prop := e = .returned (.tuple #[.agg #[.int .i64 r.1.c, .int .i64 r.1.m, .int .i64 r.1.p], .int .i64 r.2]) ∧ Go.RowKit.Below w.heap.size w w'
theorem RetL.of {r r' : RV × Int} {w : World} (h : r' = r) : RetL r w = RetL r' w := by rw [h]
end Go.Proofs.YtcngiinaneefjaaDoor

namespace Go.Proofs.YtcngiinaneefjaaDoor
open Go.RowKit

theorem within_any (n a b : Int) (w : World) : Calls Tryd.prog 87 #[.int .i64 n, .int .i64 a, .int .i64 b] w fun e w' => e = .returned (.bool (lWithin n a b)) ∧ w = w' := by
  unfold lWithin
  generalize e1 : decide (a ≤ n) = b1
  cases b1
  all_goals
    go_enter Tryd.func87, Tryd.ntmps87
    go_wp2
    go_ret
    exact ⟨by simp, rfl⟩
theorem replicaOk_any (n : Int) (w : World) : Calls Tryd.prog 88 #[.int .i64 n] w fun e w' => e = .returned (.bool (lWithin n 1 4)) ∧ w = w' := by
  go_enter Tryd.func88, Tryd.ntmps88
  go_wp2_with fail
  refine (within_any n 1 4 _).mono ?_
  rintro e w1 ⟨rfl, rfl⟩
  go_wp2_with fail
  go_ret
  exact ⟨rfl, rfl⟩
end Go.Proofs.YtcngiinaneefjaaDoor

namespace Go.Proofs.YtcngiinaneefjaaDoor
open Go.RowKit

def RetByts (w : World) (l : List Int) (e : Ending) (w' : World) : Prop := ∃ v, e = .returned v ∧ OwnsY w' w.heap.size v l ∧ Below w.heap.size w w'
theorem bits_128 (m : Nat) : bits .or .u8 ((m : Int) % 128 % 256) 128 = ((m % 128 + 128 : Nat) : Int) := by
  have hx : (m % 128 ||| 128 : Nat) = m % 128 + 128 := by
    have := Nat.two_pow_add_eq_or_of_lt (b := m % 128) (i := 7) (by omega) 1
    rw [Nat.or_comm, show (128 : Nat) = 2 ^ 7 * 1 from rfl, ← this]
    omega
  rw [show ((m : Int) % 128 % 256) = ((m % 128 : Nat) : Int) by omega, show (128 : Int) = ((128 : Nat) : Int) from rfl, u8_or_nat _ _ (by omega) (by omega), hx]
theorem shr_7 (m : Nat) (w : World) : (binOp .shr 3 (.int .i64 m) (.int .u64 7)).run Tryd.prog w = .ok (.int .i64 ((m / 128 : Nat) : Int)) w := by
  simp [go_sem]

set_option maxHeartbeats 1600000 in
theorem NumBytes_any (n : Int) (w : World) : Calls Tryd.prog 63 #[.int .i64 n] w (RetByts w (numBytes n)) := by
  have cvt := conv_byte
  have hor := bits_128
  have hsh := shr_7
  by_cases hn : 0 ≤ n ∧ n ≤ 4294967295
  · have hE : numBytes n = numB n.toNat := by rw [numBytes, if_pos hn]
    have hlw : lWithin n 0 4294967295 = true := by simp [lWithin, hn]
    obtain ⟨N, rfl⟩ := Int.eq_ofNat_of_zero_le hn.1
    have hN : N ≤ 4294967295 := by omega
    rw [hE, Int.toNat_natCast]
    have HL := Lib.hid (numB_len 4 N (by omega))
    clear hE hn
    go_enter Tryd.func63, Tryd.ntmps63
    go_wp2_with (go_at_call 87; refine (within_any _ 0 4294967295 _).mono ?_; rintro e w1 ⟨rfl, rfl⟩; rw [hlw])
    go_loopw [0, 3] (fun s0 s3 wr => ∃ (m : Nat) (pre : List Int), s0 = .int .i64 m ∧ m ≤ 4294967295 ∧ numB N = pre ++ numB m ∧ OwnsY wr w.heap.size s3 pre ∧ Below w.heap.size w wr) (fun s0 _ _ => (intOf s0).toNat)
    case atStart => exact ⟨N, [], rfl, hN, rfl, OwnsY.nil _ _, Below.refl _ _⟩
    case round =>
      obtain ⟨m, pre, rfl, hm, hpre, hown, hB⟩ := hrel
      have HP := Lib.hid hpre
      have HO := Lib.hid hown
      have HLP := Lib.hid (show pre.length ≤ 5 by have := HL.out; rw [hpre, List.length_append] at this; omega)
      have hzr := hB.size
      clear hpre hown
      by_cases hlt : (128 : Int) ≤ (m : Int)
      · have HB := Lib.hid (numB_big (n := m) (by omega))
        go_wp2_with (at_builtin; refine wpList_append_y _ rfl (.tmp 11) (.tmp 16) rfl w.heap.size _ pre ((m % 128 + 128 : Nat) : Int) wr.heap.size rfl (HO.out.alloc _) rfl (by simp) (by have := HLP.out; omega) (by simp; omega) ?_; intro v' w6 hown6 hb6)
        go_roundw
        case rel =>
          refine ⟨m / 128, _, by go_num, by omega, ?_, hown6, (hB.alloc (by omega) _).trans hb6⟩
          rw [HP.out, HB.out, List.append_assoc]; rfl
        case measure => simp [intOf]; omega
      · have HB := Lib.hid (numB_small (n := m) (by omega))
        have hmm : (m : Int) % 256 = m := by omega
        go_wp2_with (at_builtin; refine wpList_append_y _ rfl (.tmp 18) (.tmp 21) rfl w.heap.size _ pre (m : Int) wr.heap.size rfl (HO.out.alloc _) rfl (by simp) (by have := HLP.out; omega) (by simp; omega) ?_; intro v' w6 hown6 hb6)
        go_ret
        exact ⟨_, rfl, by rw [HP.out, HB.out]; exact hown6, (hB.alloc (by omega) _).trans hb6⟩
  · have hE : numBytes n = [] := by rw [numBytes, if_neg hn]
    have hlw : lWithin n 0 4294967295 = false := by simp [lWithin]; omega
    rw [hE]
    clear hE
    go_enter Tryd.func63, Tryd.ntmps63
    go_wp2_with (go_at_call 87; refine (within_any _ 0 4294967295 _).mono ?_; rintro e w1 ⟨rfl, rfl⟩; rw [hlw])
    go_ret
    exact ⟨_, rfl, OwnsY.nil _ _, Below.refl _ _⟩
end Go.Proofs.YtcngiinaneefjaaDoor

namespace Go.Proofs.YtcngiinaneefjaaDoor
open Go.RowKit

theorem run_zero_j {base : Nat} (w : World) (ty : TypeId) (v : Value) (l : List Int) (A : Option Addr) (c : Nat) (hown : OwnsJ w base v l) :
    (Builtin.append_ #[25, 25] ty #[v, .slice A 0 c]).run Tryd.prog w = .ok v w := by
  obtain ⟨i0, hi0, hz0, hz1, hz2⟩ := info_parts Tryd.infoI
  exact run_append_zero w 25 ty 3 i0 1 Tryd.underlying25 hi0 v l.length (intL l) A c hown.o
theorem run_spread_j (w : World) (ty : TypeId) (base : Nat) (v : Value) (l news : List Int) (A : Option Addr) (c : Nat) (hown : OwnsJ w base v l) (hn : IntSl w (.slice A news.length c) news)
    (hl : l.length + news.length ≤ 4000000) (hbase : base ≤ w.heap.size) :
    ∃ v' w', (Builtin.append_ #[25, 25] ty #[v, .slice A news.length c]).run Tryd.prog w = .ok v' w' ∧ OwnsJ w' base v' (l ++ news) ∧ Below base w w' ∧ w.grownBy w' v.ownBlock ∧ (v'.ownBlock = v.ownBlock ∨ v'.ownBlock = some w.heap.size) := by
  obtain ⟨i0, hi0, hz0, hz1, hz2⟩ := info_parts Tryd.infoI
  rcases Nat.eq_zero_or_pos news.length with h0 | hp
  · obtain rfl : news = [] := List.eq_nil_of_length_eq_zero h0
    exact ⟨v, w, run_zero_j w ty v l A c hown, by simpa using hown, Below.refl _ _, grownBy_refl _ _, .inl rfl⟩
  · obtain ⟨b, off, rfl, hc⟩ := hn.news hp
    obtain ⟨v', w', hr, h2, h3, _, h5⟩ := run_append_own_at (P := Tryd.prog) w base 25 ty 3 i0 _ 1 8 Tryd.underlying25 hi0 hz0 hz1 hz2 rfl (by omega) v l.length (intL l) hown ⟨b, off, none⟩ news.length c (intL news) (by simp [intL]) (cellsAt_add hc) (intL_one _) (by simp only [maxLen]; omega) (by omega) hbase
    refine ⟨v', w', hr, ?_, (Below.refl _ _).grown h3 hbase (fun k hk => (World.ownsRow.lt hown k hk).1), h3, h5⟩
    unfold OwnsJ
    rw [List.length_append, show intL (l ++ news) = intL l ++ intL news by simp [intL]]
    exact h2
theorem wpList_spread_j {ops : Array Oper} {rest : List Oper} {o : Oper} {a : Act} {Q : Exit → Act → World → Prop} (w : World) (hgd : o.guard = none) (s x : Operand)
    (ho : o.op = .call { callee := .builtin .append, args := #[s, x], argTypes := #[25, 25] })
    (base : Nat) (v : Value) (l news : List Int) (A : Option Addr) (c : Nat) (hs : a.eval s = v) (hx : a.eval x = .slice A news.length c) (hown : OwnsJ w base v l) (hn : IntSl w (.slice A news.length c) news)
    (hl : l.length + news.length ≤ 4000000) (hbase : base ≤ w.heap.size)
    (h : ∀ v' w', OwnsJ w' base v' (l ++ news) → Below base w w' → w.grownBy w' v.ownBlock → wpList Tryd.prog ops Q rest (a.put o.dst v') w') : wpList Tryd.prog ops Q (o :: rest) a w := by
  obtain ⟨v', w', hr, h2, h3, h4, h5⟩ := run_spread_j w o.type base v l news A c hown hn hl hbase
  refine wpList_plain hgd fun K hK => ?_
  unfold Oper.wp execOp
  simp only [ho, resolve, invoke, builtin, Sem.run_bind, Sem.run_pure, Result.andThen_ok, List.map_toArray, List.map_cons, List.map_nil, hs, hx, hr]
  exact hK _ _ (h v' w' h2 h3 h4)
theorem step_spread_j {ops : Array Oper} {o : Oper} {a : Act} {K : Act → World → Prop} {Q : Exit → Act → World → Prop} {E : Prop} (w : World) (hgd : o.guard = none) (s x : Operand)
    (ho : o.op = .call { callee := .builtin .append, args := #[s, x], argTypes := #[25, 25] })
    (base : Nat) (v : Value) (l news : List Int) (A : Option Addr) (c : Nat) (hs : a.eval s = v) (hx : a.eval x = .slice A news.length c) (hown : OwnsJ w base v l) (hn : IntSl w (.slice A news.length c) news)
    (hl : l.length + news.length ≤ 4000000) (hbase : base ≤ w.heap.size)
    (h : ∀ v' w', OwnsJ w' base v' (l ++ news) → Below base w w' → w.grownBy w' v.ownBlock → K (a.put o.dst v') w') : if Region.wanted o (yielded ops a.tmps) = true then Oper.wp Tryd.prog o a w K Q else E := by
  have hw : Region.wanted o (yielded ops a.tmps) = true := by simp [Region.wanted, hgd]
  rw [if_pos hw]
  obtain ⟨v', w', hr, h2, h3, h4, h5⟩ := run_spread_j w o.type base v l news A c hown hn hl hbase
  unfold Oper.wp execOp
  simp only [ho, resolve, invoke, builtin, Sem.run_bind, Sem.run_pure, Result.andThen_ok, List.map_toArray, List.map_cons, List.map_nil, hs, hx, hr]
  exact h v' w' h2 h3 h4
theorem IntSl.new (w : World) (l : List Int) : IntSl (w.alloc (.cells (intL l).toArray 3)) (.slice (some ⟨w.heap.size, 0, none⟩) l.length l.length) l := by
  rcases Nat.eq_zero_or_pos l.length with h0 | hp
  · obtain rfl : l = [] := List.eq_nil_of_length_eq_zero h0
    exact .inl ⟨rfl, _, _, rfl⟩
  · refine .inr ⟨w.heap.size, 0, _, rfl, by simp, fun i r hr => ?_⟩
    rw [(BlockIs.new w 3 (intL l).toArray).cell]
    simp [intL, hr]
theorem OwnsJ.new (w : World) (l : List Int) (b : Nat) (hb : b ≤ w.heap.size) (hl : l.length ≤ 4000000) : OwnsJ (w.alloc (.cells (intL l).toArray 3)) b (.slice (some ⟨w.heap.size, 0, none⟩) l.length l.length) l := by
  have := World.ownsRow_lit (base := b) (e := 3) (size := 1) w (intL l).toArray l.length hb (by unfold maxLen; omega) (by simp [intL])
  simpa [OwnsJ] using this

theorem run_zero_y {base : Nat} (w : World) (ty : TypeId) (v : Value) (l : List Int) (A : Option Addr) (c : Nat) (hown : OwnsY w base v l) :
    (Builtin.append_ #[29, 29] ty #[v, .slice A 0 c]).run Tryd.prog w = .ok v w := by
  obtain ⟨i0, hi0, hz0, hz1, hz2⟩ := info_parts Tryd.infoY
  exact run_append_zero w 29 ty 5 i0 1 Tryd.underlying29 hi0 v l.length (bytL l) A c hown.o
theorem run_spread_y (w : World) (ty : TypeId) (base : Nat) (v : Value) (l news : List Int) (A : Option Addr) (c : Nat) (hown : OwnsY w base v l) (hn : BytSl w (.slice A news.length c) news)
    (hl : l.length + news.length ≤ 4000000) (hbase : base ≤ w.heap.size) :
    ∃ v' w', (Builtin.append_ #[29, 29] ty #[v, .slice A news.length c]).run Tryd.prog w = .ok v' w' ∧ OwnsY w' base v' (l ++ news) ∧ Below base w w' ∧ w.grownBy w' v.ownBlock ∧ (v'.ownBlock = v.ownBlock ∨ v'.ownBlock = some w.heap.size) := by
  obtain ⟨i0, hi0, hz0, hz1, hz2⟩ := info_parts Tryd.infoY
  rcases Nat.eq_zero_or_pos news.length with h0 | hp
  · obtain rfl : news = [] := List.eq_nil_of_length_eq_zero h0
    exact ⟨v, w, run_zero_y w ty v l A c hown, by simpa using hown, Below.refl _ _, grownBy_refl _ _, .inl rfl⟩
  · obtain ⟨b, off, rfl, hc⟩ := hn.news hp
    obtain ⟨v', w', hr, h2, h3, _, h5⟩ := run_append_own_at (P := Tryd.prog) w base 29 ty 5 i0 _ 1 1 Tryd.underlying29 hi0 hz0 hz1 hz2 rfl (by omega) v l.length (bytL l) hown ⟨b, off, none⟩ news.length c (bytL news) (by simp [bytL]) (cellsAt_add hc) (bytL_one _) (by simp only [maxLen]; omega) (by omega) hbase
    refine ⟨v', w', hr, ?_, (Below.refl _ _).grown h3 hbase (fun k hk => (World.ownsRow.lt hown k hk).1), h3, h5⟩
    unfold OwnsY
    rw [List.length_append, show bytL (l ++ news) = bytL l ++ bytL news by simp [bytL]]
    exact h2
theorem wpList_spread_y {ops : Array Oper} {rest : List Oper} {o : Oper} {a : Act} {Q : Exit → Act → World → Prop} (w : World) (hgd : o.guard = none) (s x : Operand)
    (ho : o.op = .call { callee := .builtin .append, args := #[s, x], argTypes := #[29, 29] })
    (base : Nat) (v : Value) (l news : List Int) (A : Option Addr) (c : Nat) (hs : a.eval s = v) (hx : a.eval x = .slice A news.length c) (hown : OwnsY w base v l) (hn : BytSl w (.slice A news.length c) news)
    (hl : l.length + news.length ≤ 4000000) (hbase : base ≤ w.heap.size)
    (h : ∀ v' w', OwnsY w' base v' (l ++ news) → Below base w w' → w.grownBy w' v.ownBlock → wpList Tryd.prog ops Q rest (a.put o.dst v') w') : wpList Tryd.prog ops Q (o :: rest) a w := by
  obtain ⟨v', w', hr, h2, h3, h4, h5⟩ := run_spread_y w o.type base v l news A c hown hn hl hbase
  refine wpList_plain hgd fun K hK => ?_
  unfold Oper.wp execOp
  simp only [ho, resolve, invoke, builtin, Sem.run_bind, Sem.run_pure, Result.andThen_ok, List.map_toArray, List.map_cons, List.map_nil, hs, hx, hr]
  exact hK _ _ (h v' w' h2 h3 h4)
theorem wpList_spreadb_y {ops : Array Oper} {rest : List Oper} {o : Oper} {a : Act} {Q : Exit → Act → World → Prop} (w : World) (hgd : o.guard = none) (s x : Operand)
    (ho : o.op = .call { callee := .builtin .append, args := #[s, x], argTypes := #[29, 29] })
    (base : Nat) (v : Value) (l news : List Int) (A : Option Addr) (c : Nat) (hs : a.eval s = v) (hx : a.eval x = .slice A news.length c) (hown : OwnsY w base v l) (hn : BytSl w (.slice A news.length c) news)
    (hl : l.length + news.length ≤ 4000000) (hbase : base ≤ w.heap.size)
    (h : ∀ v' w', OwnsY w' base v' (l ++ news) → Below base w w' → w.grownBy w' v.ownBlock → (v'.ownBlock = v.ownBlock ∨ v'.ownBlock = some w.heap.size) → wpList Tryd.prog ops Q rest (a.put o.dst v') w') : wpList Tryd.prog ops Q (o :: rest) a w := by
  obtain ⟨v', w', hr, h2, h3, h4, h5⟩ := run_spread_y w o.type base v l news A c hown hn hl hbase
  refine wpList_plain hgd fun K hK => ?_
  unfold Oper.wp execOp
  simp only [ho, resolve, invoke, builtin, Sem.run_bind, Sem.run_pure, Result.andThen_ok, List.map_toArray, List.map_cons, List.map_nil, hs, hx, hr]
  exact hK _ _ (h v' w' h2 h3 h4 h5)
theorem step_spread_y {ops : Array Oper} {o : Oper} {a : Act} {K : Act → World → Prop} {Q : Exit → Act → World → Prop} {E : Prop} (w : World) (hgd : o.guard = none) (s x : Operand)
    (ho : o.op = .call { callee := .builtin .append, args := #[s, x], argTypes := #[29, 29] })
    (base : Nat) (v : Value) (l news : List Int) (A : Option Addr) (c : Nat) (hs : a.eval s = v) (hx : a.eval x = .slice A news.length c) (hown : OwnsY w base v l) (hn : BytSl w (.slice A news.length c) news)
    (hl : l.length + news.length ≤ 4000000) (hbase : base ≤ w.heap.size)
    (h : ∀ v' w', OwnsY w' base v' (l ++ news) → Below base w w' → w.grownBy w' v.ownBlock → K (a.put o.dst v') w') : if Region.wanted o (yielded ops a.tmps) = true then Oper.wp Tryd.prog o a w K Q else E := by
  have hw : Region.wanted o (yielded ops a.tmps) = true := by simp [Region.wanted, hgd]
  rw [if_pos hw]
  obtain ⟨v', w', hr, h2, h3, h4, h5⟩ := run_spread_y w o.type base v l news A c hown hn hl hbase
  unfold Oper.wp execOp
  simp only [ho, resolve, invoke, builtin, Sem.run_bind, Sem.run_pure, Result.andThen_ok, List.map_toArray, List.map_cons, List.map_nil, hs, hx, hr]
  exact h v' w' h2 h3 h4
theorem BytSl.new (w : World) (l : List Int) : BytSl (w.alloc (.cells (bytL l).toArray 5)) (.slice (some ⟨w.heap.size, 0, none⟩) l.length l.length) l := by
  rcases Nat.eq_zero_or_pos l.length with h0 | hp
  · obtain rfl : l = [] := List.eq_nil_of_length_eq_zero h0
    exact .inl ⟨rfl, _, _, rfl⟩
  · refine .inr ⟨w.heap.size, 0, _, rfl, by simp, fun i r hr => ?_⟩
    rw [(BlockIs.new w 5 (bytL l).toArray).cell]
    simp [bytL, hr]
theorem OwnsY.new (w : World) (l : List Int) (b : Nat) (hb : b ≤ w.heap.size) (hl : l.length ≤ 4000000) : OwnsY (w.alloc (.cells (bytL l).toArray 5)) b (.slice (some ⟨w.heap.size, 0, none⟩) l.length l.length) l := by
  have := World.ownsRow_lit (base := b) (e := 5) (size := 1) w (bytL l).toArray l.length hb (by unfold maxLen; omega) (by simp [bytL])
  simpa [OwnsY] using this
theorem OwnsY.one_blk {w : World} {b : Nat} {a : Int} (hb : b ≤ w.heap.size) : OwnsY (w.alloc (.cells #[.int .u8 a] 5)) b (.slice (some ⟨w.heap.size, 0, none⟩) 1 1) [a] := OwnsY.new w [a] b hb (by simp)
end Go.Proofs.YtcngiinaneefjaaDoor

namespace Go.Proofs.YtcngiinaneefjaaDoor
open Go.RowKit

def BytRows (w : World) (v : Value) (ls : List (List Int)) : Prop := ∃ b, v = .slice (some ⟨b, 0, none⟩) ls.length ls.length ∧ b < w.heap.size ∧ ∀ (i : Nat) (l : List Int), ls[i]? = some l → ∃ u, w.cell? ⟨b, i, none⟩ = some u ∧ BytSl w u l
def tot (ls : List (List Int)) (k : Nat) : Nat := (ls.take k).flatten.length
theorem flat_snoc {ls : List (List Int)} {k : Nat} {l : List Int} (h : ls[k]? = some l) : (ls.take (k + 1)).flatten = (ls.take k).flatten ++ l := by
  obtain ⟨hk, rfl⟩ := List.getElem?_eq_some_iff.1 h
  rw [List.take_succ_eq_append_getElem hk, List.flatten_append]
  simp only [List.flatten_cons, List.flatten_nil, List.append_nil]
theorem tot_snoc {ls : List (List Int)} {k : Nat} {l : List Int} (h : ls[k]? = some l) : tot ls (k + 1) = tot ls k + l.length := by
  unfold tot; rw [flat_snoc h, List.length_append]
theorem tot_le (ls : List (List Int)) (k : Nat) : tot ls k ≤ ls.flatten.length := by
  unfold tot
  have h : ls.flatten = (ls.take k).flatten ++ (ls.drop k).flatten := by rw [← List.flatten_append, List.take_append_drop]
  rw [h, List.length_append]; omega
theorem tot_all (ls : List (List Int)) : tot ls ls.length = ls.flatten.length := by unfold tot; rw [List.take_length]

set_option maxRecDepth 20000 in
set_option maxHeartbeats 1600000 in
theorem grow_nil (n : Nat) (w : World) (hn : n ≤ 4000000) : Calls Tryd.prog 90 #[.slice none 0 0, .int .i64 n] w fun e w' => ∃ v, e = .returned v ∧ OwnsY w' w.heap.size v [] ∧ Below w.heap.size w w' := by
  by_cases h0 : n = 0
  · subst h0
    go_enter Tryd.func90, Tryd.ntmps90
    go_wp2_with fail
    go_ret
    exact ⟨_, rfl, OwnsY.nil _ _, Below.refl _ _⟩
  · obtain ⟨i0, hi0, hz0, hz1, hz2⟩ := info_parts Tryd.infoY
    have hrun := fun w ty => Lib.run_append_nil_zeros (P := Tryd.prog) w 29 3 ty 5 i0 _ .i64 .i64 Tryd.underlying29 Tryd.underlying3 hi0 hz0 n (by omega) (by omega) (by omega) (by rw [hz2]; omega)
    have hge := grownCap_ge w n 0 5
    have hle := grownCap_le_maxLen w n 0 5 (by unfold maxLen; omega)
    have hpos : (0 : Int) < n := by omega
    have HR := Lib.hid (hrun w)
    generalize grownCap w n 0 5 = G at HR hge hle
    obtain ⟨W1, hW1⟩ : ∃ W1, W1 = w.drew.alloc (.cells (Builtin.zeroCells (Value.int .u8 0).cells n ++ Builtin.zeroCells (Value.int .u8 0).cells (G - n)) 5) := ⟨_, rfl⟩
    have hO : OwnsY W1 w.heap.size (.slice (some ⟨w.heap.size, 0, none⟩) 0 G) [] := by
      rw [hW1]
      refine ⟨rfl, .inr ⟨w.heap.size, G, _, rfl, Nat.le_refl _, (BlockIs.new w.drew 5 _), by simp, hle, ?_, by simp [bytL]⟩⟩
      simp [size_zeroCells, Value.cells]
      omega
    have hB : Below w.heap.size w W1 := by rw [hW1]; exact (by repeat' (first | exact Below.refl _ _ | refine Below.alloc ?_ ?_ _ | refine Below.setCell ?_ ?_ _ | refine Below.drew ?_ | (apply below_step; assumption) | (simp; done) | (simp; omega) | omega))
    have HO := Lib.hid hO
    have hG0 : (0 : Int) ≤ G := by omega
    have HR1 := Lib.hid (fun ty => (HR.out ty).trans (by rw [← hW1]))
    clear hrun hO hW1 HR
    go_enter Tryd.func90, Tryd.ntmps90
    go_wp2_with (at_builtin; refine Lib.wpList_append_run _ rfl (.tmp 20) (.tmp 21) 29 3 rfl _ _ rfl rfl _ _ (HR1.out _) ?_)
    go_ret
    exact ⟨_, rfl, HO.out, hB⟩

set_option maxRecDepth 20000 in
set_option maxHeartbeats 3200000 in
theorem concat_any (v : Value) (ls : List (List Int)) (w : World) (hv : BytRows w v ls) (hl : ls.length ≤ 1000) (hf : ls.flatten.length ≤ 1000000) :
    Calls Tryd.prog 62 #[v] w (RetByts w ls.flatten) := by
  obtain ⟨b, rfl, hb, hc⟩ := hv
  have HC := Lib.hid hc
  clear hc
  go_enter Tryd.func62, Tryd.ntmps62
  go_wp2_with fail
  go_loopw [3, 11] (fun s3 s11 wr => ∃ k : Nat, k ≤ ls.length ∧ s11 = .int .i64 k ∧ s3 = .int .i64 (tot ls k) ∧ w = wr) (fun _ s11 _ => (ls.length - intOf s11).toNat)
  case atStart => exact ⟨0, by omega, rfl, rfl, by first | rfl | trivial⟩
  case round =>
    obtain ⟨k, hk, rfl, rfl, rfl⟩ := hrel
    by_cases hlt : k < ls.length
    · obtain ⟨l, hkl⟩ : ∃ l, ls[k]? = some l := ⟨_, List.getElem?_eq_getElem hlt⟩
      obtain ⟨u, hu, hs⟩ := HC.out k l hkl
      obtain ⟨A, c, rfl, -⟩ := hs.form
      have hlti : (k : Int) < (ls.length : Int) := by omega
      have htt := tot_snoc hkl
      have htl := tot_le ls (k + 1)
      have hnn : ¬ ((tot ls k : Int) + (l.length : Int) < 0) := by omega
      clear hs hkl
      go_wp2_with fail
      go_roundw
      case rel => exact ⟨k + 1, by omega, by go_num, by rw [htt]; go_num, by first | rfl | trivial⟩
      case measure => simp [intOf]; omega
    · have hkl : k = ls.length := by omega
      have hta := tot_all ls
      have htn : tot ls k ≤ 1000000 := by rw [hkl, hta]; exact hf
      clear hkl hta
      go_wp2_with fail
      refine (grow_nil (tot ls k) _ (by omega)).mono ?_
      rintro e w1 ⟨v1, rfl, hv1, hb1⟩
      have HV1 := Lib.hid hv1
      clear hv1 htn hlt hk
      go_wp2_with fail
      go_loopw [6, 27] (fun s6 s27 wr => ∃ k : Nat, k ≤ ls.length ∧ s27 = .int .i64 k ∧ OwnsY wr w.heap.size s6 (ls.take k).flatten ∧ Below w.heap.size w wr) (fun _ s27 _ => (ls.length - intOf s27).toNat)
      case atStart => exact ⟨0, by omega, rfl, by simpa using HV1.out, hb1⟩
      case round =>
        obtain ⟨k, hk, rfl, hown, hB⟩ := hrel
        have HO := Lib.hid hown
        have hzr := hB.size
        clear hown
        by_cases hlt : k < ls.length
        · obtain ⟨l, hkl⟩ : ∃ l, ls[k]? = some l := ⟨_, List.getElem?_eq_getElem hlt⟩
          obtain ⟨u, hu, hs⟩ := HC.out k l hkl
          have HS := Lib.hid (hs.below hB)
          obtain ⟨A, c, rfl, -⟩ := hs.form
          have q0 := (hB.cell (p := ⟨b, k, none⟩) hb).trans hu
          have hlti : (k : Int) < (ls.length : Int) := by omega
          have HF := Lib.hid (flat_snoc hkl)
          have HL := Lib.hid (show (ls.take k).flatten.length + l.length ≤ 1000000 by have h1 := tot_snoc hkl; have h2 := tot_le ls (k + 1); unfold tot at h1 h2; omega)
          clear hs hkl hu
          go_wp2_with (at_builtin; refine wpList_spread_y _ rfl (.tmp 31) (.tmp 32) rfl w.heap.size _ _ _ _ _ rfl rfl HO.out HS.out (by have := HL.out; omega) (by omega) ?_; intro v' w6 hown6 hb6 hg6)
          go_roundw
          case rel => exact ⟨k + 1, by omega, by go_num, by rw [HF.out]; exact hown6, hB.trans hb6⟩
          case measure => simp [intOf]; omega
        · have hkl : k = ls.length := by omega
          have HF := Lib.hid (show OwnsY wr w.heap.size _ ls.flatten by have := HO.out; rw [hkl, List.take_length] at this; exact this)
          clear hkl
          go_wp2_with fail
          go_ret
          exact ⟨_, rfl, HF.out, hB⟩
end Go.Proofs.YtcngiinaneefjaaDoor

namespace Go.Proofs.YtcngiinaneefjaaDoor

def labNums (l : List LV) : List Int := l.flatMap fun x => [x.k, x.v]
def taskNums (t : TV) : List Int := [t.id, t.prio, t.need.c, t.need.m, t.need.p, (t.want.length : Int)] ++ labNums t.want ++ [(t.tols.length : Int)] ++ t.tols
def allBytes (l : List Int) : List Int := l.flatMap numBytes
def taskBytes (t : TV) : List Int := if t.ok then allBytes (taskNums t) else []
theorem labNums_len (l : List LV) : (labNums l).length = 2 * l.length := by
  induction l with
  | nil => rfl
  | cons x r ih => simp only [labNums, List.flatMap_cons, List.length_append, List.length_cons, List.length_nil] at ih ⊢; omega
theorem labNums_snoc {l : List LV} {k : Nat} {r : LV} (h : l[k]? = some r) : labNums (l.take (k + 1)) = labNums (l.take k) ++ [r.k, r.v] := by
  obtain ⟨hk, rfl⟩ := List.getElem?_eq_some_iff.1 h
  rw [List.take_succ_eq_append_getElem hk]
  simp only [labNums, List.flatMap_append, List.flatMap_cons, List.flatMap_nil, List.append_nil]
theorem allBytes_snoc {l : List Int} {k : Nat} {r : Int} (h : l[k]? = some r) : allBytes (l.take (k + 1)) = allBytes (l.take k) ++ numBytes r := by
  obtain ⟨hk, rfl⟩ := List.getElem?_eq_some_iff.1 h
  rw [List.take_succ_eq_append_getElem hk]
  simp only [allBytes, List.flatMap_append, List.flatMap_cons, List.flatMap_nil, List.append_nil]
theorem allBytes_len (l : List Int) : (allBytes l).length ≤ 5 * l.length := by
  induction l with
  | nil => simp [allBytes]
  | cons x r ih =>
    have := numBytes_len x
    simp only [allBytes, List.flatMap_cons, List.length_append, List.length_cons] at ih ⊢
    omega
theorem taskNums_len (t : TV) : (taskNums t).length = 7 + 2 * t.want.length + t.tols.length := by
  simp only [taskNums, List.length_append, labNums_len, List.length_cons, List.length_nil]; omega
theorem tv_marks {t : TV} (h : t.ok = true) : t.want.length ≤ 6 ∧ t.tols.length ≤ 6 := by
  unfold TV.ok at h
  simp only [Bool.and_eq_true] at h
  have h1 := h.1.2
  have h2 := h.2
  unfold labsOk at h1 h2
  simp only [Bool.and_eq_true, decide_eq_true_eq] at h1 h2
  have h3 := h2.1
  simp only [tl, List.length_map] at h3
  exact ⟨h1.1, h3⟩
theorem taskBytes_len (t : TV) : (taskBytes t).length ≤ 125 := by
  unfold taskBytes
  split
  · rename_i h
    have h1 := tv_marks h
    have h2 := allBytes_len (taskNums t)
    rw [taskNums_len] at h2
    omega
  · simp
end Go.Proofs.YtcngiinaneefjaaDoor

namespace Go.Proofs.YtcngiinaneefjaaDoor
open Go.RowKit

theorem outOfRange_nil (w : World) (a : Addr) (hg : ErrAt a w) :
    Calls Tryd.prog 96 #[.nilIface] w fun e w' => e = .returned (.bool false) ∧ w = w' := by
  unfold ErrAt at hg
  go_enter Tryd.func96, Tryd.ntmps96
  go_wp2_with (go_at_call 100; refine (is_nil a _).mono ?_; rintro e w1 ⟨rfl, rfl⟩)
  go_ret
  exact ⟨rfl, rfl⟩
theorem outOfRange_bad (s : ByteArray) (w : World) (a : Addr) (hg : ErrAt a w) :
    Calls Tryd.prog 96 #[.iface 135 (.agg #[.string s, .iface 153 (.pointer (some a))])] w fun e w' => e = .returned (.bool true) ∧ Below w.heap.size w w' := by
  unfold ErrAt at hg
  go_enter Tryd.func96, Tryd.ntmps96
  go_wp2_with (go_at_call 100; refine (is_field s a _).mono ?_; rintro e w1 ⟨rfl, hb⟩)
  go_ret
  exact ⟨rfl, hb⟩

end Go.Proofs.YtcngiinaneefjaaDoor

namespace Go.Proofs.YtcngiinaneefjaaDoor
open Go.RowKit

theorem ResOk_any (r : RV) (w : World) (x : Addr) (hg : ErrAt x w) :
    Calls Tryd.prog 76 #[.agg #[.int .i64 r.c, .int .i64 r.m, .int .i64 r.p]] w fun e w' => e = .returned (.bool r.ok) ∧ Below w.heap.size w w' := by
  cases h : r.ok
  · have H := Lib.hid h
    clear h
    go_enter Tryd.func76, Tryd.ntmps76
    go_wp2_with fail
    refine (checkRes_no r _ x (hg.alloc _) H.out).mono ?_
    rintro e w1 ⟨s, rfl, hb1⟩
    have hz1 := hb1.size
    simp at hz1
    go_wp2_with fail
    refine (outOfRange_bad s _ x ((hg.alloc _).below hb1 (Nat.le_refl _))).mono ?_
    rintro e w2 ⟨rfl, hb2⟩
    have hz2 := hb2.size
    go_wp2_with fail
    go_ret
    exact ⟨rfl, (by repeat' (first | exact Below.refl _ _ | refine Below.alloc ?_ ?_ _ | refine Below.setCell ?_ ?_ _ | refine Below.drew ?_ | (apply below_step; assumption) | (simp; done) | (simp; omega) | omega))⟩
  · have H := Lib.hid h
    clear h
    go_enter Tryd.func76, Tryd.ntmps76
    go_wp2_with fail
    refine (checkRes_yes r _ H.out).mono ?_
    rintro e w1 ⟨rfl, hb1⟩
    have hz1 := hb1.size
    simp at hz1
    go_wp2_with fail
    refine (outOfRange_nil _ x ((hg.alloc _).below hb1 (Nat.le_refl _))).mono ?_
    rintro e w2 ⟨rfl, rfl⟩
    go_wp2_with fail
    go_ret
    exact ⟨rfl, (by repeat' (first | exact Below.refl _ _ | refine Below.alloc ?_ ?_ _ | refine Below.setCell ?_ ?_ _ | refine Below.drew ?_ | (apply below_step; assumption) | (simp; done) | (simp; omega) | omega))⟩

end Go.Proofs.YtcngiinaneefjaaDoor

namespace Go.Proofs.YtcngiinaneefjaaDoor
open Go.RowKit

def Owns (w : World) (base : Nat) (v : Value) (l : List LV) : Prop := w.ownsRow base 78 2 v l.length (labL l)
theorem labL_append (a b : List LV) : labL (a ++ b) = labL a ++ labL b := by simp [labL]
section
variable {w w' : World} {base : Nat} {v : Value} {l : List LV}
theorem Owns.alloc (h : Owns w base v l) (o : Obj) : Owns (w.alloc o) base v l := World.ownsRow.alloc h o
theorem Owns.drewN (h : Owns w base v l) (n : Nat) : Owns (w.drewN n) base v l := h
theorem Owns.lower {b : Nat} (h : Owns w base v l) (hb : b ≤ base) : Owns w b v l := by
  obtain ⟨h1, h2⟩ := h
  refine ⟨h1, ?_⟩
  rcases h2 with h | ⟨g, cap, cur, hv, hg, h⟩
  · exact .inl h
  · exact .inr ⟨g, cap, cur, hv, Nat.le_trans hb hg, h⟩
theorem Owns.nil (w : World) (base : Nat) : Owns w base (.slice none 0 0) [] := World.ownsRow_nil w base _ _
theorem Owns.below {B : Nat} (h : Owns w base v l) (hb : Below B w w') (hB : w.heap.size ≤ B) : Owns w' base v l := by
  obtain ⟨h1, h2⟩ := h
  refine ⟨h1, ?_⟩
  rcases h2 with h | ⟨g, cap, cur, hv, hg, hh, h⟩
  · exact .inl h
  · have hlt : g < w.heap.size := (Array.getElem?_eq_some_iff.1 hh).1
    exact .inr ⟨g, cap, cur, hv, hg, (hb.block g (by omega)).trans hh, h⟩
theorem Owns.form (h : Owns w base v l) : (v = .slice none 0 0 ∧ l = []) ∨ ∃ g cap cur, v = .slice (some ⟨g, 0, none⟩) l.length cap ∧ base ≤ g ∧ BlockIs w g 78 cur ∧ cur.size = cap * 2 ∧ l.length ≤ cap ∧ ∀ (j : Nat) (u : Value), (labL l)[j]? = some u → cur[j]? = some u := by
  obtain ⟨h1, h2⟩ := h
  rcases h2 with ⟨hv, hn⟩ | ⟨g, cap, cur, hv, hg, hh, hnc, _, hs, ht⟩
  · exact .inl ⟨hv, List.eq_nil_of_length_eq_zero hn⟩
  · refine .inr ⟨g, cap, cur, hv, hg, hh, hs, hnc, fun j u hu => ?_⟩
    rw [← ht] at hu
    have hj : j < l.length * 2 := by
      have := (List.getElem?_eq_some_iff.1 hu).1
      rw [List.length_take] at this; omega
    rw [List.getElem?_take_of_lt hj] at hu
    simpa using hu
theorem Owns.sl (h : Owns w base v l) : LabSl w v l := by
  rcases h.form with ⟨rfl, rfl⟩ | ⟨g, cap, cur, rfl, _, hb, _, _, hc⟩
  · exact .inl ⟨rfl, _, _, rfl⟩
  · exact .inr ⟨g, 0, cap, rfl, hb.lt, LabAt.of_block hb hc⟩
theorem Owns.len (h : Owns w base v l) : ∃ A c, v = .slice A l.length c := by
  rcases h.form with ⟨rfl, rfl⟩ | ⟨g, cap, cur, rfl, _⟩
  · exact ⟨_, _, rfl⟩
  · exact ⟨_, _, rfl⟩
end

theorem wpList_append_lab {ops : Array Oper} {rest : List Oper} {o : Oper} {a : Act} {Q : Exit → Act → World → Prop} (w : World) (hgd : o.guard = none) (s x : Operand)
    (ho : o.op = .call { callee := .builtin .append, args := #[s, x], argTypes := #[32, 32] })
    (base : Nat) (v : Value) (l : List LV) (r : LV) (g : Nat) (hs : a.eval s = v) (hown : Owns w base v l) (hx : a.eval x = .slice (some ⟨g, 0, none⟩) 1 1)
    (h0 : w.cell? ⟨g, 0, none⟩ = some (.int .i64 r.k)) (h1 : w.cell? ⟨g, 1, none⟩ = some (.int .i64 r.v)) (hl : l.length ≤ 100000) (hbase : base ≤ w.heap.size)
    (h : ∀ v' w', Owns w' base v' (l ++ [r]) → Below base w w' → wpList Tryd.prog ops Q rest (a.put o.dst v') w') : wpList Tryd.prog ops Q (o :: rest) a w := by
  obtain ⟨i0, hi0, hz0, hz1, hz2⟩ := info_parts Tryd.infoLab
  refine wpList_append_own w hgd s x 32 ho base 78 i0 _ 2 16 Tryd.underlying32 hi0 hz0 hz1 hz2 rfl (by omega) v l.length (labL l) hs hown ⟨g, 0, none⟩ 1 1 [.int .i64 r.k, .int .i64 r.v] hx rfl ?_ ?_ (by simp only [maxLen]; omega) (by omega) hbase ?_
  · intro j u hj
    match j, hj with
    | 0, hj => simp at hj; subst hj; simpa [Addr.add] using h0
    | 1, hj => simp at hj; subst hj; simpa [Addr.add] using h1
  · intro u hu
    simp at hu
    rcases hu with rfl | rfl <;> rfl
  · intro v' w' hown' hgrow _
    refine h v' w' ?_ ((Below.refl _ _).grown hgrow hbase (fun k hk => (World.ownsRow.lt hown k hk).1))
    unfold Owns
    rw [labL_append, List.length_append]
    exact hown'

end Go.Proofs.YtcngiinaneefjaaDoor

namespace Go.Proofs.YtcngiinaneefjaaDoor
open Go.RowKit

theorem LabsOk_any (v : Value) (l : List LV) (w : World) (hv : LabSl w v l) (hlen : l.length ≤ 1048576) :
    Calls Tryd.prog 77 #[v] w fun e w' => e = .returned (.bool (labsOk l)) ∧ Below w.heap.size w w' := by
  have H := Lib.hid (readLabs_any v l w hv hlen)
  clear hv
  go_enter Tryd.func77, Tryd.ntmps77
  go_wp2_with fail
  refine H.out.mono ?_
  rintro e w1 ⟨rfl, hb1⟩
  have hz1 := hb1.size
  go_wp2_with fail
  go_ret
  exact ⟨rfl, (by repeat' (first | exact Below.refl _ _ | refine Below.alloc ?_ ?_ _ | refine Below.setCell ?_ ?_ _ | refine Below.drew ?_ | (apply below_step; assumption) | (simp; done) | (simp; omega) | omega))⟩

end Go.Proofs.YtcngiinaneefjaaDoor

namespace Go.Proofs.YtcngiinaneefjaaDoor
open Go.RowKit

theorem readTaints_long (A : Option Addr) (n c : Nat) (w : World) (h : 6 < n) (hm : n ≤ 1048576) :
    Calls Tryd.prog 99 #[.slice A n c] w (RetM mzero false w) := by
  have h6 : (6 : Int) < (n : Int) := by omega
  go_enter Tryd.func99, Tryd.ntmps99
  go_wp2_with fail
  exact bodyPost_ret (v := .tuple #[.agg #[.int .i64 (mzero 0), .int .i64 (mzero 1), .int .i64 (mzero 2), .int .i64 (mzero 3), .int .i64 (mzero 4), .int .i64 (mzero 5), .int .i64 (mzero 6), .int .i64 (mzero 7), .int .i64 (mzero 8), .int .i64 (mzero 9)], .bool false]) (by simp [results, Tryd.results99, go_sem, mzero]) rfl ⟨rfl, (by repeat' (first | exact Below.refl _ _ | refine Below.alloc ?_ ?_ _ | refine Below.setCell ?_ ?_ _ | refine Below.drew ?_ | (apply below_step; assumption) | (simp; done) | (simp; omega) | omega))⟩

set_option maxHeartbeats 1600000 in
theorem readTaints_short (v : Value) (t : List Int) (w : World) (hv : IntSl w v t) (hlen : t.length ≤ 6) :
    Calls Tryd.prog 99 #[v] w (RetM (readOf (tl t)) (labsOk (tl t)) w) := by
  obtain ⟨A, c, rfl, hA⟩ := hv.form
  have HA := Lib.hid hA
  clear hA hv
  have h6 : (t.length : Int) ≤ 6 := by omega
  go_enter Tryd.func99, Tryd.ntmps99
  go_wp2_with fail
  go_loopw [4, 13] (fun s4 s13 wr => ∃ k : Nat, k ≤ t.length ∧ s13 = .int .i64 k ∧ Owns wr (w.heap.size + 1) s4 (tl (t.take k)) ∧ Below w.heap.size w wr ∧ w.heap.size + 1 ≤ wr.heap.size ∧ BlockIs wr w.heap.size 124 #[.int .i64 (mzero 0), .int .i64 (mzero 1), .int .i64 (mzero 2), .int .i64 (mzero 3), .int .i64 (mzero 4), .int .i64 (mzero 5), .int .i64 (mzero 6), .int .i64 (mzero 7), .int .i64 (mzero 8), .int .i64 (mzero 9)]) (fun _ s13 _ => (t.length - intOf s13).toNat)
  case atStart =>
    exact ⟨0, by omega, rfl, Owns.nil _ _, (by repeat' (first | exact Below.refl _ _ | refine Below.alloc ?_ ?_ _ | refine Below.setCell ?_ ?_ _ | refine Below.drew ?_ | (apply below_step; assumption) | (simp; done) | (simp; omega) | omega)), by simp, BlockIs.new _ _ _⟩
  case round =>
    obtain ⟨k, hk, rfl, hown, hB, hzr, hblk⟩ := hrel
    have HOW := Lib.hid hown
    have HBK := Lib.hid hblk
    clear hown
    by_cases hlt : k < t.length
    · obtain ⟨b, off, rfl, hbw, hat⟩ := HA.out (by omega)
      obtain ⟨z, hz⟩ : ∃ r, t[k]? = some r := ⟨_, List.getElem?_eq_getElem hlt⟩
      have q0 := (hat.below hB hbw) k z hz
      have HT := Lib.hid (tl_take hz)
      have hlti : (k : Int) < (t.length : Int) := by omega
      have HL := Lib.hid (show (tl (t.take k)).length ≤ 6 by rw [tl_len, List.length_take]; omega)
      clear hat hz hblk
      go_wp2_with (at_builtin; refine wpList_append_lab _ rfl (.tmp 17) (.tmp 20) rfl (w.heap.size + 1) _ (tl (t.take k)) ⟨z, 0⟩ wr.heap.size rfl (HOW.out.alloc _) rfl (by simp) (by simp) (by have := HL.out; omega) (by simp; omega) ?_; intro v' w1 hown1 hb1)
      have hz1 := hb1.size
      simp at hz1
      go_roundw
      case rel =>
        refine ⟨k + 1, by omega, by go_num, ?_, ?_, by omega, ?_⟩
        · rw [HT.out]; exact hown1
        · exact (hB.alloc (by omega) _).trans (hb1.mono (by omega))
        · exact (HBK.out.alloc _).below hb1 (by omega)
      case measure => simp [intOf]; omega
    · have hkl : k = t.length := by omega
      have ho : Owns wr (w.heap.size + 1) u4 (tl t) := by
        have := HOW.out
        rwa [hkl, List.take_length] at this
      have hr := readLabs_any _ (tl t) wr ho.sl (by rw [tl_len]; omega)
      have HR := Lib.hid hr
      clear hkl hblk ho hr
      go_wp2_with fail
      refine HR.out.mono ?_
      rintro e w1 ⟨rfl, hb1⟩
      have hz1 := hb1.size
      have hB1 : Below w.heap.size w w1 := hB.trans (hb1.mono (by omega))
      have hZ := HBK.out.below hb1 (by omega)
      have HZ := Lib.hid hZ
      have z0 := (hZ).cell 0; have z1 := (hZ).cell 1; have z2 := (hZ).cell 2; have z3 := (hZ).cell 3; have z4 := (hZ).cell 4; have z5 := (hZ).cell 5; have z6 := (hZ).cell 6; have z7 := (hZ).cell 7; have z8 := (hZ).cell 8; have z9 := (hZ).cell 9; simp at z0 z1 z2 z3 z4 z5 z6 z7 z8 z9
      have zf := hZ.frozen
      clear hZ
      go_wp2_with fail
      have hX : BlockIs ((((((((((w1.setCell ⟨w.heap.size, 0, none⟩ (.int .i64 (readOf (tl t) 0))).setCell ⟨w.heap.size, 1, none⟩ (.int .i64 (readOf (tl t) 1))).setCell ⟨w.heap.size, 2, none⟩ (.int .i64 (readOf (tl t) 2))).setCell ⟨w.heap.size, 3, none⟩ (.int .i64 (readOf (tl t) 3))).setCell ⟨w.heap.size, 4, none⟩ (.int .i64 (readOf (tl t) 4))).setCell ⟨w.heap.size, 5, none⟩ (.int .i64 (readOf (tl t) 5))).setCell ⟨w.heap.size, 6, none⟩ (.int .i64 (readOf (tl t) 6))).setCell ⟨w.heap.size, 7, none⟩ (.int .i64 (readOf (tl t) 7))).setCell ⟨w.heap.size, 8, none⟩ (.int .i64 (readOf (tl t) 8))).setCell ⟨w.heap.size, 9, none⟩ (.int .i64 (readOf (tl t) 9))) w.heap.size 124 #[.int .i64 (readOf (tl t) 0), .int .i64 (readOf (tl t) 1), .int .i64 (readOf (tl t) 2), .int .i64 (readOf (tl t) 3), .int .i64 (readOf (tl t) 4), .int .i64 (readOf (tl t) 5), .int .i64 (readOf (tl t) 6), .int .i64 (readOf (tl t) 7), .int .i64 (readOf (tl t) 8), .int .i64 (readOf (tl t) 9)] := put10 (readOf (tl t)) HZ.out
      have hBX : Below w.heap.size w ((((((((((w1.setCell ⟨w.heap.size, 0, none⟩ (.int .i64 (readOf (tl t) 0))).setCell ⟨w.heap.size, 1, none⟩ (.int .i64 (readOf (tl t) 1))).setCell ⟨w.heap.size, 2, none⟩ (.int .i64 (readOf (tl t) 2))).setCell ⟨w.heap.size, 3, none⟩ (.int .i64 (readOf (tl t) 3))).setCell ⟨w.heap.size, 4, none⟩ (.int .i64 (readOf (tl t) 4))).setCell ⟨w.heap.size, 5, none⟩ (.int .i64 (readOf (tl t) 5))).setCell ⟨w.heap.size, 6, none⟩ (.int .i64 (readOf (tl t) 6))).setCell ⟨w.heap.size, 7, none⟩ (.int .i64 (readOf (tl t) 7))).setCell ⟨w.heap.size, 8, none⟩ (.int .i64 (readOf (tl t) 8))).setCell ⟨w.heap.size, 9, none⟩ (.int .i64 (readOf (tl t) 9))) := below10 (readOf (tl t)) hB1 (Nat.le_refl _)
      generalize ((((((((((w1.setCell ⟨w.heap.size, 0, none⟩ (.int .i64 (readOf (tl t) 0))).setCell ⟨w.heap.size, 1, none⟩ (.int .i64 (readOf (tl t) 1))).setCell ⟨w.heap.size, 2, none⟩ (.int .i64 (readOf (tl t) 2))).setCell ⟨w.heap.size, 3, none⟩ (.int .i64 (readOf (tl t) 3))).setCell ⟨w.heap.size, 4, none⟩ (.int .i64 (readOf (tl t) 4))).setCell ⟨w.heap.size, 5, none⟩ (.int .i64 (readOf (tl t) 5))).setCell ⟨w.heap.size, 6, none⟩ (.int .i64 (readOf (tl t) 6))).setCell ⟨w.heap.size, 7, none⟩ (.int .i64 (readOf (tl t) 7))).setCell ⟨w.heap.size, 8, none⟩ (.int .i64 (readOf (tl t) 8))).setCell ⟨w.heap.size, 9, none⟩ (.int .i64 (readOf (tl t) 9))) = X at hX hBX ⊢
      clear z0 z1 z2 z3 z4 z5 z6 z7 z8 z9
      have z0 := (hX).cell 0; have z1 := (hX).cell 1; have z2 := (hX).cell 2; have z3 := (hX).cell 3; have z4 := (hX).cell 4; have z5 := (hX).cell 5; have z6 := (hX).cell 6; have z7 := (hX).cell 7; have z8 := (hX).cell 8; have z9 := (hX).cell 9; simp at z0 z1 z2 z3 z4 z5 z6 z7 z8 z9
      exact bodyPost_ret (v := .tuple #[.agg #[.int .i64 (readOf (tl t) 0), .int .i64 (readOf (tl t) 1), .int .i64 (readOf (tl t) 2), .int .i64 (readOf (tl t) 3), .int .i64 (readOf (tl t) 4), .int .i64 (readOf (tl t) 5), .int .i64 (readOf (tl t) 6), .int .i64 (readOf (tl t) 7), .int .i64 (readOf (tl t) 8), .int .i64 (readOf (tl t) 9)], .bool (labsOk (tl t))]) (by simp [results, Tryd.results99, go_sem, z0, z1, z2, z3, z4, z5, z6, z7, z8, z9]) rfl ⟨rfl, hBX⟩

theorem readTaints_any (v : Value) (t : List Int) (w : World) (hv : IntSl w v t) (hlen : t.length ≤ 1048576) :
    Calls Tryd.prog 99 #[v] w (RetM (readOf (tl t)) (labsOk (tl t)) w) := by
  by_cases h : t.length ≤ 6
  · exact readTaints_short v t w hv h
  · obtain ⟨A, c, rfl, _⟩ := hv.form
    rw [readOf_no (labsOk_long (by rw [tl_len]; omega)), labsOk_long (by rw [tl_len]; omega)]
    exact readTaints_long A t.length c w (by omega) hlen

theorem TaintsOk_any (v : Value) (t : List Int) (w : World) (hv : IntSl w v t) (hlen : t.length ≤ 1048576) :
    Calls Tryd.prog 78 #[v] w fun e w' => e = .returned (.bool (labsOk (tl t))) ∧ Below w.heap.size w w' := by
  have H := Lib.hid (readTaints_any v t w hv hlen)
  clear hv
  go_enter Tryd.func78, Tryd.ntmps78
  go_wp2_with fail
  refine H.out.mono ?_
  rintro e w1 ⟨rfl, hb1⟩
  have hz1 := hb1.size
  go_wp2_with fail
  go_ret
  exact ⟨rfl, (by repeat' (first | exact Below.refl _ _ | refine Below.alloc ?_ ?_ _ | refine Below.setCell ?_ ?_ _ | refine Below.drew ?_ | (apply below_step; assumption) | (simp; done) | (simp; omega) | omega))⟩

end Go.Proofs.YtcngiinaneefjaaDoor
