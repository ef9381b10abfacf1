/- Worlds in plain Lean: what chapter 8's WorldOk, Leader, WorldSafe and WorldNew compute (a Want is a BV: Id, Pool are task, node). Slices of wants and of messages: what they read as; the laws' helpers over them. (mkwant.py) The contracts of LeaseOk, LeaseTry, LeaseHolds and of what they call. The contracts of the model's LeaseOk, LeaseTry, LeaseHolds; the laws' toLease, eqLease. Slices of instances in memory; the laws' helpers over them: toInstS, eqInstS, szInstS. Worlds in memory: what a world's value reads as. The laws' helpers that look for marks, over tasks and nodes: heldTaskS, heldNodeS. The laws' helpers that write marks and look for them, over a cluster: markCluster, heldCluster. Boxes that a call has made, behind another call. append of an instance to a slice of the call's own. Memory of a world of the call's own: WldO; the laws' toPoolS, toWantS, toMsgS with what they own. (mkworldo.py) The contract of the model's l08Pools: pools of the call's own. The contracts of copyList, copyTask, copyNode. The contract of copyCluster. slices.DeleteFunc over rows of tasks, nodes and bindings that a call owns. The contracts of instOk, ProvOk, MsgOk, seek, ProvState, ProvCount. Rows of instances that a call owns: copies, an instance gone, an instance inserted; orders behind their interface. The contracts of copyList at pools, wants, messages, instances. (mkcopyw.py) The laws' toProv, eqProv, szProv. The laws' toWorld: its result owns its memory, block by block. (mkworldo.py) The contract of copyWorld. (mkcopyw.py) The contract of findPool. (mkwant.py) -/
import Derived.Test.YtmkpajjnjgnmkabGreatDoorMg03
import Derived.Test.YtmkpajjnjgnmkabGreatDoorMg04
import Derived.Test.YtmkpajjnjgnmkabGreatDoorCluSOk
import Derived.Test.YtmkpajjnjgnmkabGreatDoorMg02
import Derived.Laws.StructEq
import Derived.Deep.RegionHeld3
import Derived.Deep.DeepCutAuto
import Derived.Deep.AppendLies
import Derived.OwnWalk
import Derived.Laws.OwnMore
import Derived.Deep.RegionLaw
import Derived.Deep.DrawnRows
import Derived.Shelf.Abstract
import Derived.Lib.SliceRun
import Derived.Shelf.RegionOpenPlain
import Derived.Lib.AppendZerosOnto
import Derived.Lib.Overlaps
import Derived.Laws.IdiomCopy
import Derived.Laws.Rows
import Derived.Laws.Tables
import Derived.Laws.CopyOwn
namespace Go.Proofs.YtmkpajjnjgnmkabGreatDoor

structure WV where
  now : Int
  span : Int
  kind : Int
  limit : Int
  next : Int
  lease : RV
  epochs : List Int
  pools : List PV
  clu : CV
  wants : List BV
  ends : List Int
  seen : Int
  insts : List RV
  msgs : List MV

def settingsOk (w : WV) : Bool := lWithin w.now 0 100000 && lWithin w.span 1 1000 && lWithin w.kind 1 3 && lWithin w.limit 0 1001 && lWithin w.next 1 100
def hasNode (c : CV) (z : Int) : Bool := (fstBy NV.id c.nodes z).isSome
def hasPool (l : List PV) (z : Int) : Bool := (fstBy PV.id l z).isSome
def epochsOk (w : WV) : Bool := decide (w.epochs.length = 4) && !decide (w.lease.m < w.seen) && w.epochs.all (fun e => lWithin e 0 w.lease.m)
def wantsFrom (w : WV) : Int → List BV → Bool
  | _, [] => true
  | last, v :: r => decide (last < v.task) && !hasNode w.clu v.task && hasPool w.pools v.node && wantsFrom w v.task r
def wantsOk (w : WV) : Bool := decide (w.wants.length ≤ 20) && wantsFrom w 0 w.wants
def endsFrom (w : WV) : Int → List Int → Bool
  | _, [] => true
  | last, z :: r => decide (last < z) && hasNode w.clu z && endsFrom w z r
def endsOk (w : WV) : Bool := decide (w.ends.length ≤ 20) && endsFrom w 0 w.ends
def msgIn (w : WV) (m : MV) : Bool := msgOk m && !decide (w.lease.m < m.e)
def msgsOk (w : WV) : Bool := decide (w.msgs.length ≤ 40) && w.msgs.all (msgIn w)
def topOf (g : Int) (l : List Int) : Int := l.foldl max g
def topId (w : WV) : Int := topOf (topOf (topOf (topOf 0 (w.clu.nodes.map NV.id)) (w.wants.map BV.task)) (w.insts.map RV.c)) (w.msgs.map MV.i)
def idsGiven (w : WV) : Bool := decide (topId w < w.next)
def worldOk (w : WV) : Bool := settingsOk w && leaseOk w.lease && poolsOk w.pools && clusterOk w.clu && provOk w.seen w.insts && epochsOk w && wantsOk w && endsOk w && msgsOk w && idsGiven w

theorem topOf_cons (g z : Int) (l : List Int) : topOf g (z :: l) = topOf (max g z) l := rfl
theorem topOf_lt {g n : Int} {l : List Int} : topOf g l < n ↔ g < n ∧ ∀ z ∈ l, z < n := by
  induction l generalizing g with
  | nil => simp [topOf]
  | cons z r ih =>
    rw [topOf_cons, ih]
    simp only [List.mem_cons, forall_eq_or_imp]
    have : max g z < n ↔ g < n ∧ z < n := by omega
    rw [this, and_assoc]
theorem topId_lt {w : WV} {n : Int} : topId w < n ↔ 0 < n ∧ (∀ x ∈ w.clu.nodes, x.id < n) ∧ (∀ x ∈ w.wants, x.task < n) ∧ (∀ x ∈ w.insts, x.c < n) ∧ ∀ x ∈ w.msgs, x.i < n := by
  unfold topId
  rw [topOf_lt, topOf_lt, topOf_lt, topOf_lt]
  simp only [List.mem_map, forall_exists_index, and_imp, forall_apply_eq_imp_iff₂]
  constructor
  · rintro ⟨⟨⟨⟨h0, h1⟩, h2⟩, h3⟩, h4⟩; exact ⟨h0, h1, h2, h3, h4⟩
  · rintro ⟨h0, h1, h2, h3, h4⟩; exact ⟨⟨⟨⟨h0, h1⟩, h2⟩, h3⟩, h4⟩
theorem wantsFrom_all {w : WV} {last : Int} {l : List BV} : wantsFrom w last l = true ↔ (∀ v ∈ l, last < v.task ∧ hasNode w.clu v.task = false ∧ hasPool w.pools v.node = true) ∧ l.Pairwise (fun a b => a.task < b.task) := by
  induction l generalizing last with
  | nil => simp [wantsFrom]
  | cons v r ih =>
    simp only [wantsFrom, Bool.and_eq_true, decide_eq_true_eq, Bool.not_eq_true', ih, List.mem_cons, forall_eq_or_imp, List.pairwise_cons]
    constructor
    · rintro ⟨⟨⟨h1, h2⟩, h3⟩, h4, h5⟩
      exact ⟨⟨⟨h1, h2, h3⟩, fun x hx => ⟨Int.lt_trans h1 (h4 x hx).1, (h4 x hx).2⟩⟩, fun x hx => (h4 x hx).1, h5⟩
    · rintro ⟨⟨⟨h1, h2, h3⟩, h4⟩, h5, h6⟩
      exact ⟨⟨⟨h1, h2⟩, h3⟩, fun x hx => ⟨h5 x hx, (h4 x hx).2⟩, h6⟩
theorem endsFrom_all {w : WV} {last : Int} {l : List Int} : endsFrom w last l = true ↔ (∀ z ∈ l, last < z ∧ hasNode w.clu z = true) ∧ l.Pairwise (fun a b => a < b) := by
  induction l generalizing last with
  | nil => simp [endsFrom]
  | cons v r ih =>
    simp only [endsFrom, Bool.and_eq_true, decide_eq_true_eq, ih, List.mem_cons, forall_eq_or_imp, List.pairwise_cons]
    constructor
    · rintro ⟨⟨h1, h2⟩, h4, h5⟩
      exact ⟨⟨⟨h1, h2⟩, fun x hx => ⟨Int.lt_trans h1 (h4 x hx).1, (h4 x hx).2⟩⟩, fun x hx => (h4 x hx).1, h5⟩
    · rintro ⟨⟨⟨h1, h2⟩, h4⟩, h5, h6⟩
      exact ⟨⟨h1, h2⟩, fun x hx => ⟨h5 x hx, (h4 x hx).2⟩, h6⟩

def idsIn (stop : Int) (l : List Int) : Bool := l.all (fun z => decide (1 ≤ z) && decide (z < stop)) && decide (l.Pairwise (fun a b => a < b))
def lastLt (n : Int) (l : List Int) : Bool := match l.getLast? with
  | none => true
  | some z => decide (z < n)
def worldOkS (w : WV) : Bool :=
  settingsOk w && leaseOk w.lease && poolsOk w.pools && clusterOk w.clu && provOk w.seen w.insts && decide (w.epochs.length = 4) && decide (w.msgs.length ≤ 40) && !decide (w.lease.m < w.seen) &&
  w.epochs.all (fun e => lWithin e 0 w.lease.m) && w.msgs.all (fun m => msgIn w m && decide (m.i < w.next)) &&
  decide (w.wants.length ≤ 20) && decide (w.ends.length ≤ 20) && idsIn w.next (w.wants.map BV.task) && idsIn w.next w.ends &&
  w.wants.all (fun v => hasPool w.pools v.node && !hasNode w.clu v.task) && w.ends.all (fun z => hasNode w.clu z) &&
  lastLt w.next (w.clu.nodes.map NV.id) && lastLt w.next (w.insts.map RV.c)
theorem lastLt_all {n : Int} {l : List Int} (h : l.Pairwise (fun a b => a < b)) : lastLt n l = true ↔ ∀ z ∈ l, z < n := by
  unfold lastLt
  cases hl : l.getLast? with
  | none => rw [List.getLast?_eq_none_iff] at hl; subst hl; simp
  | some z =>
    obtain ⟨ys, rfl⟩ := List.getLast?_eq_some_iff.1 hl
    have := (List.pairwise_append.1 h).2.2
    simp only [decide_eq_true_eq, List.mem_append, List.mem_singleton]
    constructor
    · rintro hz x (hx | rfl)
      · exact Int.lt_trans (this x hx z (by simp)) hz
      · exact hz
    · exact fun hz => hz z (.inr rfl)
theorem nodesFrom_rise {p : Int} {l : List NV} (h : nodesFrom p l = true) : (∀ n ∈ l, p < n.id ∧ n.ok = true) ∧ l.Pairwise (fun a b => a.id < b.id) := by
  induction l generalizing p with
  | nil => exact ⟨by simp, List.Pairwise.nil⟩
  | cons n r ih =>
    simp only [nodesFrom, Bool.and_eq_true, decide_eq_true_eq] at h
    obtain ⟨⟨h1, h2⟩, h3⟩ := h
    obtain ⟨h4, h5⟩ := ih h3
    refine ⟨fun x hx => ?_, List.pairwise_cons.2 ⟨fun x hx => (h4 x hx).1, h5⟩⟩
    rcases List.mem_cons.1 hx with rfl | hx
    · exact ⟨h2, h1⟩
    · exact ⟨Int.lt_trans h2 (h4 x hx).1, (h4 x hx).2⟩
theorem clusterOk_rise {c : CV} (h : clusterOk c = true) : c.nodes.Pairwise (fun a b => a.id < b.id) := by
  simp only [clusterOk, nodesOk, Bool.and_eq_true] at h; exact (nodesFrom_rise h.1.1.2.2).2
theorem hasNode_mem {c : CV} {z : Int} (h : hasNode c z = true) : ∃ n ∈ c.nodes, n.id = z := by
  unfold hasNode at h
  obtain ⟨n, hn⟩ := Option.isSome_iff_exists.1 h
  exact ⟨n, fstBy_mem hn, fstBy_key hn⟩
theorem idsIn_iff {n : Int} {l : List Int} : idsIn n l = true ↔ (∀ z ∈ l, 1 ≤ z ∧ z < n) ∧ l.Pairwise (fun a b => a < b) := by
  simp only [idsIn, Bool.and_eq_true, List.all_eq_true, decide_eq_true_eq]
theorem worldOk_model (w : WV) : worldOkS w = worldOk w := by
  rw [Bool.eq_iff_iff]
  unfold worldOkS worldOk
  simp only [Bool.and_eq_true]
  constructor
  · rintro ⟨⟨⟨⟨⟨⟨⟨⟨⟨⟨⟨⟨⟨⟨⟨⟨⟨h1, h2⟩, h3⟩, h4⟩, h5⟩, h6⟩, h7⟩, h8⟩, h9⟩, ha⟩, hb⟩, hc⟩, hd⟩, he⟩, hf⟩, hg⟩, hh⟩, hi⟩
    have hnr := clusterOk_rise h4
    obtain ⟨p1, p2, p3, p4⟩ := provOk_all h5
    rw [lastLt_all (by rw [List.pairwise_map]; exact hnr)] at hh
    rw [lastLt_all (by rw [List.pairwise_map]; exact p4)] at hi
    rw [idsIn_iff] at hd he
    simp only [List.all_eq_true, Bool.and_eq_true, List.mem_map, forall_exists_index, and_imp, forall_apply_eq_imp_iff₂, decide_eq_true_eq, Bool.not_eq_true', List.pairwise_map] at *
    refine ⟨⟨⟨⟨⟨⟨⟨⟨⟨h1, h2⟩, h3⟩, h4⟩, h5⟩, ?_⟩, ?_⟩, ?_⟩, ?_⟩, ?_⟩
    · simp only [epochsOk, Bool.and_eq_true, List.all_eq_true, decide_eq_true_eq, Bool.not_eq_true']; exact ⟨⟨h6, h8⟩, h9⟩
    · simp only [wantsOk, Bool.and_eq_true, decide_eq_true_eq, wantsFrom_all]
      exact ⟨hb, fun v hv => ⟨by have := (hd.1 v hv).1; omega, (hf v hv).2, (hf v hv).1⟩, hd.2⟩
    · simp only [endsOk, Bool.and_eq_true, decide_eq_true_eq, endsFrom_all]
      exact ⟨hc, fun v hv => ⟨by have := (he.1 v hv).1; omega, hg v hv⟩, he.2⟩
    · simp only [msgsOk, Bool.and_eq_true, decide_eq_true_eq, List.all_eq_true]
      exact ⟨h7, fun m hm => (ha m hm).1⟩
    · simp only [idsGiven, decide_eq_true_eq, topId_lt]
      simp only [settingsOk, Bool.and_eq_true, lWithin_iff] at h1
      exact ⟨by have := h1.2; omega, hh, fun x hx => (hd.1 x hx).2, hi, fun m hm => (ha m hm).2⟩
  · rintro ⟨⟨⟨⟨⟨⟨⟨⟨⟨h1, h2⟩, h3⟩, h4⟩, h5⟩, h6⟩, h7⟩, h8⟩, h9⟩, ha⟩
    have hnr := clusterOk_rise h4
    obtain ⟨p1, p2, p3, p4⟩ := provOk_all h5
    rw [lastLt_all (by rw [List.pairwise_map]; exact hnr), lastLt_all (by rw [List.pairwise_map]; exact p4), idsIn_iff, idsIn_iff]
    simp only [epochsOk, wantsOk, endsOk, msgsOk, idsGiven, Bool.and_eq_true, List.all_eq_true, decide_eq_true_eq, Bool.not_eq_true', wantsFrom_all, endsFrom_all, topId_lt] at h6 h7 h8 h9 ha
    simp only [List.all_eq_true, Bool.and_eq_true, List.mem_map, forall_exists_index, and_imp, forall_apply_eq_imp_iff₂, decide_eq_true_eq, Bool.not_eq_true', List.pairwise_map]
    obtain ⟨a0, a1, a2, a3, a4⟩ := ha
    refine ⟨⟨⟨⟨⟨⟨⟨⟨⟨⟨⟨⟨⟨⟨⟨⟨⟨h1, h2⟩, h3⟩, h4⟩, h5⟩, h6.1.1⟩, h9.1⟩, h6.1.2⟩, h6.2⟩, fun m hm => ⟨h9.2 m hm, a4 m hm⟩⟩, h7.1⟩, h8.1⟩, ⟨fun v hv => ⟨by have := (h7.2.1 v hv).1; omega, a2 v hv⟩, h7.2.2⟩⟩, ⟨fun z hz => ⟨by have := (h8.2.1 z hz).1; omega, ?_⟩, h8.2.2⟩⟩, fun v hv => ⟨(h7.2.1 v hv).2.2, (h7.2.1 v hv).2.1⟩⟩, fun z hz => (h8.2.1 z hz).2⟩, a1⟩, a3⟩
    obtain ⟨n, hn, rfl⟩ := hasNode_mem (h8.2.1 z hz).2
    exact a1 n hn
end Go.Proofs.YtmkpajjnjgnmkabGreatDoor

namespace Go.Proofs.YtmkpajjnjgnmkabGreatDoor
open Go.RowKit

def WantR (_ : World) (t : BV) (cs : List Value) : Prop := cs = [.int .i64 t.task, .int .i64 t.node]
theorem WantR.kept : Kept WantR := fun _ _ _ _ _ h => h
def WantSl (w : World) (v : Value) (l : List BV) : Prop := GSl WantR 2 w v l
theorem WantSl.below {w w' : World} {v : Value} {l : List BV} (h : WantSl w v l) (hb : Below w.heap.size w w') : WantSl w' v l := GSl.below WantR.kept h hb
theorem WantSl.form {w : World} {v : Value} {l : List BV} (h : WantSl w v l) : ∃ A c, v = .slice A l.length c ∧ (0 < l.length → ∃ b off, A = some ⟨b, off, none⟩ ∧ b < w.heap.size ∧ SeqAt WantR 2 w b off l) := GSl.form h
def WantN (_ : Nat) (_ : World) (t : BV) (cs : List Value) : Prop := cs = [.int .i64 t.task, .int .i64 t.node]
theorem WantN.kept (base : Nat) : Kept (WantN base) := fun _ _ _ _ _ h => h
theorem WantN.put {base g o : Nat} {w : World} {t : BV} {cs ds : List Value} (h : WantN base w t cs) (_ : g < base) : WantN base (putAll w g o ds) t cs := h
theorem WantN.r {base : Nat} {w : World} {t : BV} {cs : List Value} (h : WantN base w t cs) : WantR w t cs := h
theorem WantN.len {base : Nat} {w : World} {t : BV} {cs : List Value} (h : WantN base w t cs) : cs.length = 2 := by rw [h]; rfl
theorem eqWantW_same (t : BV) (w : World) : Calls Tryz.prog 71 #[.agg #[.int .i64 t.task, .int .i64 t.node], .agg #[.int .i64 t.task, .int .i64 t.node]] w fun e w' => e = .returned (.bool true) ∧ Below w.heap.size w w' := by
  have h1 : (t.task != t.task) = false := by simp
  have h2 : (t.node != t.node) = false := by simp
  go_enter Tryz.func71, Tryz.ntmps71
  go_wp2
  go_ret
  exact ⟨rfl, (by repeat' (first | exact Below.refl _ _ | refine Below.alloc ?_ ?_ _ | refine Below.setCell ?_ ?_ _ | refine Below.drew ?_ | (apply below_step; assumption) | (simp; done) | (simp; omega) | omega))⟩
theorem eqWant_r (t : BV) (cs ds : List Value) (w : World) (h : WantR w t cs) (k : WantR w t ds) : Calls Tryz.prog 71 #[.agg cs.toArray, .agg ds.toArray] w fun e w' => e = .returned (.bool true) ∧ Below w.heap.size w w' := by
  obtain rfl := h
  obtain rfl := k
  exact eqWantW_same t w
def MsgR (_ : World) (t : MV) (cs : List Value) : Prop := cs = [.int .i64 t.k, .int .i64 t.e, .int .i64 t.i, .int .i64 t.p]
theorem MsgR.kept : Kept MsgR := fun _ _ _ _ _ h => h
def MsgSl (w : World) (v : Value) (l : List MV) : Prop := GSl MsgR 4 w v l
theorem MsgSl.below {w w' : World} {v : Value} {l : List MV} (h : MsgSl w v l) (hb : Below w.heap.size w w') : MsgSl w' v l := GSl.below MsgR.kept h hb
theorem MsgSl.form {w : World} {v : Value} {l : List MV} (h : MsgSl w v l) : ∃ A c, v = .slice A l.length c ∧ (0 < l.length → ∃ b off, A = some ⟨b, off, none⟩ ∧ b < w.heap.size ∧ SeqAt MsgR 4 w b off l) := GSl.form h
def MsgN (_ : Nat) (_ : World) (t : MV) (cs : List Value) : Prop := cs = [.int .i64 t.k, .int .i64 t.e, .int .i64 t.i, .int .i64 t.p]
theorem MsgN.kept (base : Nat) : Kept (MsgN base) := fun _ _ _ _ _ h => h
theorem MsgN.put {base g o : Nat} {w : World} {t : MV} {cs ds : List Value} (h : MsgN base w t cs) (_ : g < base) : MsgN base (putAll w g o ds) t cs := h
theorem MsgN.r {base : Nat} {w : World} {t : MV} {cs : List Value} (h : MsgN base w t cs) : MsgR w t cs := h
theorem MsgN.len {base : Nat} {w : World} {t : MV} {cs : List Value} (h : MsgN base w t cs) : cs.length = 4 := by rw [h]; rfl
theorem eqMsgW_same (t : MV) (w : World) : Calls Tryz.prog 73 #[.agg #[.int .i64 t.k, .int .i64 t.e, .int .i64 t.i, .int .i64 t.p], .agg #[.int .i64 t.k, .int .i64 t.e, .int .i64 t.i, .int .i64 t.p]] w fun e w' => e = .returned (.bool true) ∧ Below w.heap.size w w' := by
  have h1 : (t.k != t.k) = false := by simp
  have h2 : (t.e != t.e) = false := by simp
  have h3 : (t.i != t.i) = false := by simp
  have h4 : (t.p != t.p) = false := by simp
  go_enter Tryz.func73, Tryz.ntmps73
  go_wp2
  go_ret
  exact ⟨rfl, (by repeat' (first | exact Below.refl _ _ | refine Below.alloc ?_ ?_ _ | refine Below.setCell ?_ ?_ _ | refine Below.drew ?_ | (apply below_step; assumption) | (simp; done) | (simp; omega) | omega))⟩
theorem eqMsg_r (t : MV) (cs ds : List Value) (w : World) (h : MsgR w t cs) (k : MsgR w t ds) : Calls Tryz.prog 73 #[.agg cs.toArray, .agg ds.toArray] w fun e w' => e = .returned (.bool true) ∧ Below w.heap.size w w' := by
  obtain rfl := h
  obtain rfl := k
  exact eqMsgW_same t w
theorem want_cells {w : World} {b o : Nat} {u0 u1 : Value} (h : CellsAt w b o [u0, u1]) : w.cell? ⟨b, o, none⟩ = some u0 ∧ w.cell? ⟨b, o + 1, none⟩ = some u1 := ⟨h 0 _ rfl, h 1 _ rfl⟩
theorem msg_cells {w : World} {b o : Nat} {u0 u1 u2 u3 : Value} (h : CellsAt w b o [u0, u1, u2, u3]) : w.cell? ⟨b, o, none⟩ = some u0 ∧ w.cell? ⟨b, o + 1, none⟩ = some u1 ∧ w.cell? ⟨b, o + 2, none⟩ = some u2 ∧ w.cell? ⟨b, o + 3, none⟩ = some u3 := ⟨h 0 _ rfl, h 1 _ rfl, h 2 _ rfl, h 3 _ rfl⟩
theorem Tryz.infoWant : (Tryz.prog.info? 93).map (fun i => (i.zero, i.size, i.bytes)) = some (some (.agg #[.int .i64 0, .int .i64 0]), 2, 16) := by kernel_rfl
theorem Tryz.infoMsg : (Tryz.prog.info? 88).map (fun i => (i.zero, i.size, i.bytes)) = some (some (.agg #[.int .i64 0, .int .i64 0, .int .i64 0, .int .i64 0]), 4, 32) := by kernel_rfl
set_option maxHeartbeats 1600000 in
set_option maxRecDepth 20000 in
theorem eqWantS_same (v1 v2 : Value) (l : List BV) (w : World) (h1 : WantSl w v1 l) (h2 : WantSl w v2 l) (hlen : l.length ≤ 1048576) :
    Calls Tryz.prog 22 #[v1, v2] w fun e w' => e = .returned (.bool true) ∧ Below w.heap.size w w' := by
  obtain ⟨A, c, rfl, hA⟩ := h1.form
  obtain ⟨A', c', rfl, hA'⟩ := h2.form
  have HA := Lib.hid hA
  have HA' := Lib.hid hA'
  clear hA hA' h1 h2
  have hnn : ((l.length : Int) != (l.length : Int)) = false := by simp
  go_enter Tryz.func22, Tryz.ntmps22
  go_wp2_with fail
  go_loopw [5] (fun s5 wr => ∃ k : Nat, k ≤ l.length ∧ s5 = .int .i64 k ∧ Below w.heap.size w wr) (fun s5 _ => (l.length - intOf s5).toNat)
  case atStart => exact ⟨0, by omega, rfl, Below.refl _ _⟩
  case round =>
    obtain ⟨k, hk, rfl, hB⟩ := hrel
    have hzr := hB.size
    by_cases hlt : k < l.length
    · obtain ⟨b, off, rfl, hbw, hat⟩ := HA.out (by omega)
      obtain ⟨b', off', rfl, hbw', hat'⟩ := HA'.out (by omega)
      obtain ⟨t, ht⟩ : ∃ t, l[k]? = some t := ⟨_, List.getElem?_eq_getElem hlt⟩
      obtain ⟨ds, hR, hC⟩ := (hat'.below WantR.kept hB hbw') k t ht
      have HR' := Lib.hid hR
      obtain rfl := hR
      obtain ⟨p0, p1⟩ := want_cells hC
      clear hC
      obtain ⟨cs, hR, hC⟩ := (hat.below WantR.kept hB hbw) k t ht
      have HR := Lib.hid hR
      obtain rfl := hR
      skip
      obtain ⟨q0, q1⟩ := want_cells hC
      have hbr : b < wr.heap.size := by omega
      have hbr' : b' < wr.heap.size := by omega
      have HK := Lib.hid (show ∀ w', Below wr.heap.size wr w' → Below wr.heap.size wr w' ∧ w'.cell? ⟨b, off + k * 2, none⟩ = some (.int .i64 t.task) ∧ w'.cell? ⟨b, off + k * 2 + 1, none⟩ = some (.int .i64 t.node) ∧ w'.cell? ⟨b', off' + k * 2, none⟩ = some (.int .i64 t.task) ∧ w'.cell? ⟨b', off' + k * 2 + 1, none⟩ = some (.int .i64 t.node) from fun w' hb => ⟨hb, (hb.cell (p := ⟨_, _, none⟩) hbr).trans q0, (hb.cell (p := ⟨_, _, none⟩) hbr).trans q1, (hb.cell (p := ⟨_, _, none⟩) hbr').trans p0, (hb.cell (p := ⟨_, _, none⟩) hbr').trans p1⟩)
      have hlti : (k : Int) < (l.length : Int) := by omega
      have hk0 : (0 : Int) ≤ (k : Int) := by omega
      clear hat hat' ht hC q0 q1 p0 p1
      go_wp2_with fail
      refine wp_region_held_drew (S := (fun w' => Below wr.heap.size wr w' ∧ w'.cell? ⟨b, off + k * 2, none⟩ = some (.int .i64 t.task) ∧ w'.cell? ⟨b, off + k * 2 + 1, none⟩ = some (.int .i64 t.node) ∧ w'.cell? ⟨b', off' + k * 2, none⟩ = some (.int .i64 t.task) ∧ w'.cell? ⟨b', off' + k * 2 + 1, none⟩ = some (.int .i64 t.node))) (by kernel_rfl) (by (try dsimp only); exact HK.out _ (by repeat' (first | exact Below.refl _ _ | refine Below.alloc ?_ ?_ _ | refine Below.setCell ?_ ?_ _ | refine Below.drew ?_ | (apply below_step; assumption) | (simp; done) | (simp; omega) | omega))) (fun hHeld => ?_)
      refine hT 0 ?_; simp only [Act.put, rhA, rhS, rhT]
      refine hT 1 ?_; simp only [Act.put, rhA, rhS, rhT]
      refine hT 2 ?_; simp only [Act.put, rhA, rhS, rhT]
      refine hT 3 ?_; simp only [Act.put, rhA, rhS, rhT]
      refine hT 4 ?_; simp only [Act.put, rhA, rhS, rhT]
      refine hT 5 ?_; simp only [Act.put, rhA, rhS, rhT]
      refine hT 6 ?_; simp only [Act.put, rhA, rhS, rhT]
      refine hT 7 ?_; simp only [Act.put, rhA, rhS, rhT]
      refine hCall (i := 8) (o := ?a10) ?b10 (by kernel_rfl) ?c10 (fun K hK => ?d10)
      case b10 => simp only [rhN, rhM]; try rfl
      case c10 => rfl
      go_simp
      refine (eqWant_r t _ _ _ (WantR.kept _ _ _ _ (by repeat' (first | exact Below.refl _ _ | refine Below.alloc ?_ ?_ _ | refine Below.setCell ?_ ?_ _ | refine Below.drew ?_ | (apply below_step; assumption) | (simp; done) | (simp; omega) | omega)) HR.out) (WantR.kept _ _ _ _ (by repeat' (first | exact Below.refl _ _ | refine Below.alloc ?_ ?_ _ | refine Below.setCell ?_ ?_ _ | refine Below.drew ?_ | (apply below_step; assumption) | (simp; done) | (simp; omega) | omega)) HR'.out)).mono ?_
      rintro e w3 ⟨rfl, hb3⟩
      have hz3 := hb3.size
      try simp at hz3
      go_wp2_with fail
      refine hK.out _ _ (by (try dsimp only); exact HK.out _ (by repeat' (first | exact Below.refl _ _ | refine Below.alloc ?_ ?_ _ | refine Below.setCell ?_ ?_ _ | refine Below.drew ?_ | (apply below_step; assumption) | (simp; done) | (simp; omega) | omega))) (fun hHeld => ?_)
      clear hK K
      try simp only [Act.put, rhA, rhS, rhT]
      refine hT 9 ?_; simp only [Act.put, rhA, rhS, rhT]
      refine wpAnyH_done (by kernel_rfl) ?_ _
      go_wp2_with fail
      go_roundw
      case rel => exact ⟨k + 1, by omega, by go_num, (by repeat' (first | exact Below.refl _ _ | refine Below.alloc ?_ ?_ _ | refine Below.setCell ?_ ?_ _ | refine Below.drew ?_ | (apply below_step; assumption) | (simp; done) | (simp; omega) | omega))⟩
      case measure => simp [intOf]; omega
    · go_wp2_with fail
      go_ret
      exact ⟨rfl, hB⟩
set_option maxHeartbeats 1600000 in
set_option maxRecDepth 20000 in
theorem eqMsgS_same (v1 v2 : Value) (l : List MV) (w : World) (h1 : MsgSl w v1 l) (h2 : MsgSl w v2 l) (hlen : l.length ≤ 1048576) :
    Calls Tryz.prog 24 #[v1, v2] w fun e w' => e = .returned (.bool true) ∧ Below w.heap.size w w' := by
  obtain ⟨A, c, rfl, hA⟩ := h1.form
  obtain ⟨A', c', rfl, hA'⟩ := h2.form
  have HA := Lib.hid hA
  have HA' := Lib.hid hA'
  clear hA hA' h1 h2
  have hnn : ((l.length : Int) != (l.length : Int)) = false := by simp
  go_enter Tryz.func24, Tryz.ntmps24
  go_wp2_with fail
  go_loopw [5] (fun s5 wr => ∃ k : Nat, k ≤ l.length ∧ s5 = .int .i64 k ∧ Below w.heap.size w wr) (fun s5 _ => (l.length - intOf s5).toNat)
  case atStart => exact ⟨0, by omega, rfl, Below.refl _ _⟩
  case round =>
    obtain ⟨k, hk, rfl, hB⟩ := hrel
    have hzr := hB.size
    by_cases hlt : k < l.length
    · obtain ⟨b, off, rfl, hbw, hat⟩ := HA.out (by omega)
      obtain ⟨b', off', rfl, hbw', hat'⟩ := HA'.out (by omega)
      obtain ⟨t, ht⟩ : ∃ t, l[k]? = some t := ⟨_, List.getElem?_eq_getElem hlt⟩
      obtain ⟨ds, hR, hC⟩ := (hat'.below MsgR.kept hB hbw') k t ht
      have HR' := Lib.hid hR
      obtain rfl := hR
      obtain ⟨p0, p1, p2, p3⟩ := msg_cells hC
      clear hC
      obtain ⟨cs, hR, hC⟩ := (hat.below MsgR.kept hB hbw) k t ht
      have HR := Lib.hid hR
      obtain rfl := hR
      skip
      obtain ⟨q0, q1, q2, q3⟩ := msg_cells hC
      have hbr : b < wr.heap.size := by omega
      have hbr' : b' < wr.heap.size := by omega
      have HK := Lib.hid (show ∀ w', Below wr.heap.size wr w' → Below wr.heap.size wr w' ∧ w'.cell? ⟨b, off + k * 4, none⟩ = some (.int .i64 t.k) ∧ w'.cell? ⟨b, off + k * 4 + 1, none⟩ = some (.int .i64 t.e) ∧ w'.cell? ⟨b, off + k * 4 + 2, none⟩ = some (.int .i64 t.i) ∧ w'.cell? ⟨b, off + k * 4 + 3, none⟩ = some (.int .i64 t.p) ∧ w'.cell? ⟨b', off' + k * 4, none⟩ = some (.int .i64 t.k) ∧ w'.cell? ⟨b', off' + k * 4 + 1, none⟩ = some (.int .i64 t.e) ∧ w'.cell? ⟨b', off' + k * 4 + 2, none⟩ = some (.int .i64 t.i) ∧ w'.cell? ⟨b', off' + k * 4 + 3, none⟩ = some (.int .i64 t.p) from fun w' hb => ⟨hb, (hb.cell (p := ⟨_, _, none⟩) hbr).trans q0, (hb.cell (p := ⟨_, _, none⟩) hbr).trans q1, (hb.cell (p := ⟨_, _, none⟩) hbr).trans q2, (hb.cell (p := ⟨_, _, none⟩) hbr).trans q3, (hb.cell (p := ⟨_, _, none⟩) hbr').trans p0, (hb.cell (p := ⟨_, _, none⟩) hbr').trans p1, (hb.cell (p := ⟨_, _, none⟩) hbr').trans p2, (hb.cell (p := ⟨_, _, none⟩) hbr').trans p3⟩)
      have hlti : (k : Int) < (l.length : Int) := by omega
      have hk0 : (0 : Int) ≤ (k : Int) := by omega
      clear hat hat' ht hC q0 q1 q2 q3 p0 p1 p2 p3
      go_wp2_with fail
      refine wp_region_held_drew (S := (fun w' => Below wr.heap.size wr w' ∧ w'.cell? ⟨b, off + k * 4, none⟩ = some (.int .i64 t.k) ∧ w'.cell? ⟨b, off + k * 4 + 1, none⟩ = some (.int .i64 t.e) ∧ w'.cell? ⟨b, off + k * 4 + 2, none⟩ = some (.int .i64 t.i) ∧ w'.cell? ⟨b, off + k * 4 + 3, none⟩ = some (.int .i64 t.p) ∧ w'.cell? ⟨b', off' + k * 4, none⟩ = some (.int .i64 t.k) ∧ w'.cell? ⟨b', off' + k * 4 + 1, none⟩ = some (.int .i64 t.e) ∧ w'.cell? ⟨b', off' + k * 4 + 2, none⟩ = some (.int .i64 t.i) ∧ w'.cell? ⟨b', off' + k * 4 + 3, none⟩ = some (.int .i64 t.p))) (by kernel_rfl) (by (try dsimp only); exact HK.out _ (by repeat' (first | exact Below.refl _ _ | refine Below.alloc ?_ ?_ _ | refine Below.setCell ?_ ?_ _ | refine Below.drew ?_ | (apply below_step; assumption) | (simp; done) | (simp; omega) | omega))) (fun hHeld => ?_)
      refine hT 0 ?_; simp only [Act.put, rhA, rhS, rhT]
      refine hT 1 ?_; simp only [Act.put, rhA, rhS, rhT]
      refine hT 2 ?_; simp only [Act.put, rhA, rhS, rhT]
      refine hT 3 ?_; simp only [Act.put, rhA, rhS, rhT]
      refine hT 4 ?_; simp only [Act.put, rhA, rhS, rhT]
      refine hT 5 ?_; simp only [Act.put, rhA, rhS, rhT]
      refine hT 6 ?_; simp only [Act.put, rhA, rhS, rhT]
      refine hT 7 ?_; simp only [Act.put, rhA, rhS, rhT]
      refine hCall (i := 8) (o := ?a22) ?b22 (by kernel_rfl) ?c22 (fun K hK => ?d22)
      case b22 => simp only [rhN, rhM]; try rfl
      case c22 => rfl
      go_simp
      refine (eqMsg_r t _ _ _ (MsgR.kept _ _ _ _ (by repeat' (first | exact Below.refl _ _ | refine Below.alloc ?_ ?_ _ | refine Below.setCell ?_ ?_ _ | refine Below.drew ?_ | (apply below_step; assumption) | (simp; done) | (simp; omega) | omega)) HR.out) (MsgR.kept _ _ _ _ (by repeat' (first | exact Below.refl _ _ | refine Below.alloc ?_ ?_ _ | refine Below.setCell ?_ ?_ _ | refine Below.drew ?_ | (apply below_step; assumption) | (simp; done) | (simp; omega) | omega)) HR'.out)).mono ?_
      rintro e w3 ⟨rfl, hb3⟩
      have hz3 := hb3.size
      try simp at hz3
      go_wp2_with fail
      refine hK.out _ _ (by (try dsimp only); exact HK.out _ (by repeat' (first | exact Below.refl _ _ | refine Below.alloc ?_ ?_ _ | refine Below.setCell ?_ ?_ _ | refine Below.drew ?_ | (apply below_step; assumption) | (simp; done) | (simp; omega) | omega))) (fun hHeld => ?_)
      clear hK K
      try simp only [Act.put, rhA, rhS, rhT]
      refine hT 9 ?_; simp only [Act.put, rhA, rhS, rhT]
      refine wpAnyH_done (by kernel_rfl) ?_ _
      go_wp2_with fail
      go_roundw
      case rel => exact ⟨k + 1, by omega, by go_num, (by repeat' (first | exact Below.refl _ _ | refine Below.alloc ?_ ?_ _ | refine Below.setCell ?_ ?_ _ | refine Below.drew ?_ | (apply below_step; assumption) | (simp; done) | (simp; omega) | omega))⟩
      case measure => simp [intOf]; omega
    · go_wp2_with fail
      go_ret
      exact ⟨rfl, hB⟩
end Go.Proofs.YtmkpajjnjgnmkabGreatDoor

namespace Go.Proofs.YtmkpajjnjgnmkabGreatDoor
open Go.RowKit

theorem within_any (n a b : Int) (w : World) : Calls Tryz.prog 102 #[.int .i64 n, .int .i64 a, .int .i64 b] w fun e w' => e = .returned (.bool (lWithin n a b)) ∧ w = w' := by
  unfold lWithin
  generalize e1 : decide (a ≤ n) = b1
  cases b1
  all_goals
    go_enter Tryz.func102, Tryz.ntmps102
    go_wp2
    go_ret
    exact ⟨by simp, rfl⟩
theorem replicaOk_any (n : Int) (w : World) : Calls Tryz.prog 103 #[.int .i64 n] w fun e w' => e = .returned (.bool (lWithin n 1 4)) ∧ w = w' := by
  go_enter Tryz.func103, Tryz.ntmps103
  go_wp2_with fail
  refine (within_any n 1 4 _).mono ?_
  rintro e w1 ⟨rfl, rfl⟩
  go_wp2_with fail
  go_ret
  exact ⟨rfl, rfl⟩
theorem timeOk_any (n : Int) (w : World) : Calls Tryz.prog 99 #[.int .i64 n] w fun e w' => e = .returned (.bool (lWithin n 0 100000)) ∧ w = w' := by
  go_enter Tryz.func99, Tryz.ntmps99
  go_wp2_with fail
  refine (within_any n 0 100000 _).mono ?_
  rintro e w1 ⟨rfl, rfl⟩
  go_wp2_with fail
  go_ret
  exact ⟨rfl, rfl⟩
theorem spanOk_any (n : Int) (w : World) : Calls Tryz.prog 100 #[.int .i64 n] w fun e w' => e = .returned (.bool (lWithin n 1 1000)) ∧ w = w' := by
  go_enter Tryz.func100, Tryz.ntmps100
  go_wp2_with fail
  refine (within_any n 1 1000 _).mono ?_
  rintro e w1 ⟨rfl, rfl⟩
  go_wp2_with fail
  go_ret
  exact ⟨rfl, rfl⟩
theorem epochOk_any (n : Int) (w : World) : Calls Tryz.prog 104 #[.int .i64 n] w fun e w' => e = .returned (.bool (lWithin n 1 1000)) ∧ w = w' := by
  go_enter Tryz.func104, Tryz.ntmps104
  go_wp2_with fail
  refine (within_any n 1 1000 _).mono ?_
  rintro e w1 ⟨rfl, rfl⟩
  go_wp2_with fail
  go_ret
  exact ⟨rfl, rfl⟩
theorem eqIn_lease (a b : RV) (w : World) : (Op.equalIn 10000 25 (.agg #[.int .i64 a.c, .int .i64 a.m, .int .i64 a.p]) (.agg #[.int .i64 b.c, .int .i64 b.m, .int .i64 b.p])).run Tryz.prog w = .ok (a.c == b.c && (a.m == b.m && a.p == b.p)) w := by
  have u3 := Tryz.underlying3
  have hS : Tryz.prog.underlying 25 = some (.struct (Tryz.prog.fieldsOf 25)) := by kernel_rfl
  have hp : Tryz.prog.stoodInHeld 25 = false := by kernel_rfl
  rw [show (10000 : Nat) = 9999 + 1 from rfl, run_equalIn_agg w 9999 25 _ _ hS hp]
  simp only [Program.fieldsOf, Tryz.underlying25]
  go_simp
  by_cases h1 : a.c = b.c <;> by_cases h2 : a.m = b.m <;> by_cases h3 : a.p = b.p <;> simp [h1, h2, h3]
theorem eq_lease (a b : RV) (w : World) : (binOp .eql 25 (.agg #[.int .i64 a.c, .int .i64 a.m, .int .i64 a.p]) (.agg #[.int .i64 b.c, .int .i64 b.m, .int .i64 b.p])).run Tryz.prog w = .ok (.bool (a.c == b.c && (a.m == b.m && a.p == b.p))) w := by
  rw [run_eql_struct, eqIn_lease]; rfl
theorem eq_lease0 (a : RV) (w : World) : (binOp .eql 25 (.agg #[.int .i64 a.c, .int .i64 a.m, .int .i64 a.p]) (.agg #[.int .i64 0, .int .i64 0, .int .i64 0])).run Tryz.prog w = .ok (.bool (leaseZero a)) w := eq_lease a ⟨0, 0, 0⟩ w
theorem guard_lease (op : BinOp) (x y : Operand) (xs ys : Array Value) (w : World) : (eqGuard op 25 x y (.agg xs) (.agg ys)).run Tryz.prog w = .ok () w := run_eqGuard_agg w op 25 x y xs ys (by kernel_rfl)

theorem LeaseOk_any (l : RV) (w : World) : Calls Tryz.prog 52 #[.agg #[.int .i64 l.c, .int .i64 l.m, .int .i64 l.p]] w fun e w' => e = .returned (.bool (leaseOk l)) ∧ Below w.heap.size w w' := by
  have heq := fun w => eq_lease0 l w
  have hgd := guard_lease
  have h1 := fun w => replicaOk_any l.c w
  have h2 := fun w => epochOk_any l.m w
  have h3 := fun w => within_any l.p 0 200000 w
  have HE := Lib.hid (leaseOk_eq l)
  generalize leaseOk l = ok at *
  generalize ez : leaseZero l = z at *
  generalize e1 : lWithin l.c 1 4 = b1 at *
  generalize e2 : lWithin l.m 1 1000 = b2 at *
  generalize e3 : lWithin l.p 0 200000 = b3 at *
  have HE' := Lib.hid (HE.out _ _ _ _ rfl rfl rfl rfl)
  have H1 := Lib.hid h1
  have H2 := Lib.hid h2
  have H3 := Lib.hid h3
  clear h1 h2 h3 HE ez e1 e2 e3
  go_enter Tryz.func52, Tryz.ntmps52
  cases z
  · go_wp2_with fail
    refine (H1.out _).mono ?_
    rintro e w1 ⟨rfl, rfl⟩
    cases b1
    · go_wp2_with fail
      go_ret
      exact ⟨by rw [HE'.out]; simp, (by repeat' (first | exact Below.refl _ _ | refine Below.alloc ?_ ?_ _ | refine Below.setCell ?_ ?_ _ | refine Below.drew ?_ | (apply below_step; assumption) | (simp; done) | (simp; omega) | omega))⟩
    go_wp2_with fail
    refine (H2.out _).mono ?_
    rintro e w1 ⟨rfl, rfl⟩
    cases b2
    · go_wp2_with fail
      go_ret
      exact ⟨by rw [HE'.out]; simp, (by repeat' (first | exact Below.refl _ _ | refine Below.alloc ?_ ?_ _ | refine Below.setCell ?_ ?_ _ | refine Below.drew ?_ | (apply below_step; assumption) | (simp; done) | (simp; omega) | omega))⟩
    go_wp2_with fail
    refine (H3.out _).mono ?_
    rintro e w1 ⟨rfl, rfl⟩
    go_wp2_with fail
    go_ret
    exact ⟨by rw [HE'.out]; simp, (by repeat' (first | exact Below.refl _ _ | refine Below.alloc ?_ ?_ _ | refine Below.setCell ?_ ?_ _ | refine Below.drew ?_ | (apply below_step; assumption) | (simp; done) | (simp; omega) | omega))⟩
  · go_wp2_with fail
    go_ret
    exact ⟨by rw [HE'.out]; simp, (by repeat' (first | exact Below.refl _ _ | refine Below.alloc ?_ ?_ _ | refine Below.setCell ?_ ?_ _ | refine Below.drew ?_ | (apply below_step; assumption) | (simp; done) | (simp; omega) | omega))⟩

end Go.Proofs.YtmkpajjnjgnmkabGreatDoor

namespace Go.Proofs.YtmkpajjnjgnmkabGreatDoor
open Go.RowKit

theorem l06Who_any (n : Int) (w : World) : Calls Tryz.prog 86 #[.int .i64 n] w fun e w' => e = .returned (.bool (lWithin n 1 4)) ∧ w = w' := by
  unfold lWithin
  generalize e1 : decide ((1 : Int) ≤ n) = b1
  cases b1
  all_goals
    go_enter Tryz.func86, Tryz.ntmps86
    go_wp2
    go_ret
    exact ⟨by simp, rfl⟩
theorem l06Time_any (n : Int) (w : World) : Calls Tryz.prog 40 #[.int .i64 n] w fun e w' => e = .returned (.bool (lWithin n 0 100000)) ∧ w = w' := by
  unfold lWithin
  generalize e1 : decide ((0 : Int) ≤ n) = b1
  cases b1
  all_goals
    go_enter Tryz.func40, Tryz.ntmps40
    go_wp2
    go_ret
    exact ⟨by simp, rfl⟩
theorem l06Epoch_any (n : Int) (w : World) : Calls Tryz.prog 95 #[.int .i64 n] w fun e w' => e = .returned (.bool (lWithin n 1 1000)) ∧ w = w' := by
  unfold lWithin
  generalize e1 : decide ((1 : Int) ≤ n) = b1
  cases b1
  all_goals
    go_enter Tryz.func95, Tryz.ntmps95
    go_wp2
    go_ret
    exact ⟨by simp, rfl⟩
theorem leaseOk_eq6 (l : RV) (z b1 c1 c2 d1 d2 : Bool) (hz : leaseZero l = z) (h1 : lWithin l.c 1 4 = b1) (h2 : decide (1 ≤ l.m) = c1) (h3 : decide (l.m ≤ 1000) = c2) (h4 : decide (0 ≤ l.p) = d1) (h5 : decide (l.p ≤ 200000) = d2) : leaseOk l = (z || (b1 && (c1 && c2) && (d1 && d2))) := by
  subst hz h1 h2 h3 h4 h5; rfl
theorem sLeaseOk_any (l : RV) (w : World) : Calls Tryz.prog 41 #[.agg #[.int .i64 l.c, .int .i64 l.m, .int .i64 l.p]] w fun e w' => e = .returned (.bool (leaseOk l)) ∧ Below w.heap.size w w' := by
  have heq := fun w => eq_lease0 l w
  have hgd := guard_lease
  have h1 := fun w => l06Who_any l.c w
  have HE := Lib.hid (leaseOk_eq6 l)
  generalize leaseOk l = ok at *
  generalize ez : leaseZero l = z at *
  generalize e1 : lWithin l.c 1 4 = b1 at *
  generalize e2 : decide (1 ≤ l.m) = b2
  generalize e3 : decide (l.m ≤ 1000) = b3
  generalize e4 : decide (0 ≤ l.p) = b4
  generalize e5 : decide (l.p ≤ 200000) = b5
  have HE' := Lib.hid (HE.out _ _ _ _ _ _ rfl rfl e2 e3 e4 e5)
  have H1 := Lib.hid h1
  clear h1 HE ez e1
  go_enter Tryz.func41, Tryz.ntmps41
  cases z
  · go_wp2_with fail
    refine (H1.out _).mono ?_
    rintro e w1 ⟨rfl, rfl⟩
    cases b1
    · go_wp2_with fail
      go_ret
      exact ⟨by rw [HE'.out]; simp, (by repeat' (first | exact Below.refl _ _ | refine Below.alloc ?_ ?_ _ | refine Below.setCell ?_ ?_ _ | refine Below.drew ?_ | (apply below_step; assumption) | (simp; done) | (simp; omega) | omega))⟩
    cases b2
    · go_wp2_with fail
      go_ret
      exact ⟨by rw [HE'.out]; simp, (by repeat' (first | exact Below.refl _ _ | refine Below.alloc ?_ ?_ _ | refine Below.setCell ?_ ?_ _ | refine Below.drew ?_ | (apply below_step; assumption) | (simp; done) | (simp; omega) | omega))⟩
    cases b3
    · go_wp2_with fail
      go_ret
      exact ⟨by rw [HE'.out]; simp, (by repeat' (first | exact Below.refl _ _ | refine Below.alloc ?_ ?_ _ | refine Below.setCell ?_ ?_ _ | refine Below.drew ?_ | (apply below_step; assumption) | (simp; done) | (simp; omega) | omega))⟩
    cases b4
    · go_wp2_with fail
      go_ret
      exact ⟨by rw [HE'.out]; simp, (by repeat' (first | exact Below.refl _ _ | refine Below.alloc ?_ ?_ _ | refine Below.setCell ?_ ?_ _ | refine Below.drew ?_ | (apply below_step; assumption) | (simp; done) | (simp; omega) | omega))⟩
    go_wp2_with fail
    go_ret
    exact ⟨by rw [HE'.out]; simp, (by repeat' (first | exact Below.refl _ _ | refine Below.alloc ?_ ?_ _ | refine Below.setCell ?_ ?_ _ | refine Below.drew ?_ | (apply below_step; assumption) | (simp; done) | (simp; omega) | omega))⟩
  · go_wp2_with fail
    go_ret
    exact ⟨by rw [HE'.out]; simp, (by repeat' (first | exact Below.refl _ _ | refine Below.alloc ?_ ?_ _ | refine Below.setCell ?_ ?_ _ | refine Below.drew ?_ | (apply below_step; assumption) | (simp; done) | (simp; omega) | omega))⟩

theorem eqLease_same (r : RV) (w : World) :
    Calls Tryz.prog 19 #[.agg #[.int .i64 r.c, .int .i64 r.m, .int .i64 r.p], .agg #[.int .i64 r.c, .int .i64 r.m, .int .i64 r.p]] w fun e w' => e = .returned (.bool true) ∧ Below w.heap.size w w' := by
  have h0 : (r.c != r.c) = false := by simp
  have h1 : (r.m != r.m) = false := by simp
  have h2 : (r.p != r.p) = false := by simp
  go_enter Tryz.func19, Tryz.ntmps19
  go_wp2
  go_ret
  exact ⟨rfl, (by repeat' (first | exact Below.refl _ _ | refine Below.alloc ?_ ?_ _ | refine Below.setCell ?_ ?_ _ | refine Below.drew ?_ | (apply below_step; assumption) | (simp; done) | (simp; omega) | omega))⟩
end Go.Proofs.YtmkpajjnjgnmkabGreatDoor

namespace Go.Proofs.YtmkpajjnjgnmkabGreatDoor
open Go.RowKit

theorem eqInst_same (r : RV) (w : World) :
    Calls Tryz.prog 121 #[.agg #[.int .i64 r.c, .int .i64 r.m, .int .i64 r.p], .agg #[.int .i64 r.c, .int .i64 r.m, .int .i64 r.p]] w fun e w' => e = .returned (.bool true) ∧ Below w.heap.size w w' := by
  have h0 : (r.c != r.c) = false := by simp
  have h1 : (r.m != r.m) = false := by simp
  have h2 : (r.p != r.p) = false := by simp
  go_enter Tryz.func121, Tryz.ntmps121
  go_wp2
  go_ret
  exact ⟨rfl, (by repeat' (first | exact Below.refl _ _ | refine Below.alloc ?_ ?_ _ | refine Below.setCell ?_ ?_ _ | refine Below.drew ?_ | (apply below_step; assumption) | (simp; done) | (simp; omega) | omega))⟩
def InAt (w : World) (b off : Nat) (l : List RV) : Prop :=
  ∀ i r, l[i]? = some r → w.cell? ⟨b, off + i * 3, none⟩ = some (.int .i64 r.c) ∧ w.cell? ⟨b, off + i * 3 + 1, none⟩ = some (.int .i64 r.m) ∧ w.cell? ⟨b, off + i * 3 + 2, none⟩ = some (.int .i64 r.p)
def InSl (w : World) (v : Value) (l : List RV) : Prop := (l = [] ∧ ∃ A c, v = .slice A 0 c) ∨ ∃ b off c, v = .slice (some ⟨b, off, none⟩) l.length c ∧ b < w.heap.size ∧ InAt w b off l
theorem InAt.below {w w' : World} {b off B : Nat} {l : List RV} (h : InAt w b off l) (hb : Below B w w') (hB : b < B) : InAt w' b off l := fun i r hr => by
  obtain ⟨h1, h2, h3⟩ := h i r hr
  exact ⟨(hb.cell (p := ⟨b, _, none⟩) hB).trans h1, (hb.cell (p := ⟨b, _, none⟩) hB).trans h2, (hb.cell (p := ⟨b, _, none⟩) hB).trans h3⟩
theorem InSl.below {w w' : World} {v : Value} {l : List RV} (h : InSl w v l) (hb : Below w.heap.size w w') : InSl w' v l := by
  rcases h with h | ⟨b, off, c, rfl, hlt, h⟩
  · exact .inl h
  · exact .inr ⟨b, off, c, rfl, Nat.lt_of_lt_of_le hlt hb.size, h.below hb hlt⟩
theorem InSl.form {w : World} {v : Value} {l : List RV} (h : InSl w v l) : ∃ A c, v = .slice A l.length c ∧ (0 < l.length → ∃ b off, A = some ⟨b, off, none⟩ ∧ b < w.heap.size ∧ InAt w b off l) := by
  rcases h with ⟨rfl, A, c, rfl⟩ | ⟨b, off, c, rfl, hlt, h⟩
  · exact ⟨A, c, rfl, fun h => absurd h (by simp)⟩
  · exact ⟨_, c, rfl, fun _ => ⟨b, off, rfl, hlt, h⟩⟩
theorem in_keep (X : World) {b0 o0 b1 o1 b2 o2 b3 o3 b4 o4 b5 o5 : Nat} {v0 v1 v2 v3 v4 v5 : Value} (h : X.cell? ⟨b0, o0, none⟩ = some v0 ∧ X.cell? ⟨b1, o1, none⟩ = some v1 ∧ X.cell? ⟨b2, o2, none⟩ = some v2 ∧ X.cell? ⟨b3, o3, none⟩ = some v3 ∧ X.cell? ⟨b4, o4, none⟩ = some v4 ∧ X.cell? ⟨b5, o5, none⟩ = some v5) : ∀ w' : World, Below X.heap.size X w' → Below X.heap.size X w' ∧ w'.cell? ⟨b0, o0, none⟩ = some v0 ∧ w'.cell? ⟨b1, o1, none⟩ = some v1 ∧ w'.cell? ⟨b2, o2, none⟩ = some v2 ∧ w'.cell? ⟨b3, o3, none⟩ = some v3 ∧ w'.cell? ⟨b4, o4, none⟩ = some v4 ∧ w'.cell? ⟨b5, o5, none⟩ = some v5 := by
  intro w' hb
  obtain ⟨h0, h1, h2, h3, h4, h5⟩ := h
  refine ⟨hb, ?_, ?_, ?_, ?_, ?_, ?_⟩
  · exact (hb.cell (p := ⟨b0, o0, none⟩) (World.block_lt_of_cell? _ _ h0)).trans h0
  · exact (hb.cell (p := ⟨b1, o1, none⟩) (World.block_lt_of_cell? _ _ h1)).trans h1
  · exact (hb.cell (p := ⟨b2, o2, none⟩) (World.block_lt_of_cell? _ _ h2)).trans h2
  · exact (hb.cell (p := ⟨b3, o3, none⟩) (World.block_lt_of_cell? _ _ h3)).trans h3
  · exact (hb.cell (p := ⟨b4, o4, none⟩) (World.block_lt_of_cell? _ _ h4)).trans h4
  · exact (hb.cell (p := ⟨b5, o5, none⟩) (World.block_lt_of_cell? _ _ h5)).trans h5


theorem Tryz.infoInst : (Tryz.prog.info? 95).map (fun i => (i.zero, i.size, i.bytes)) = some (some (.agg #[.int .i64 0, .int .i64 0, .int .i64 0]), 3, 24) := by kernel_rfl
def CopyIn (w : World) (g : Nat) (l : List RV) (k : Nat) (wr : World) : Prop := ∃ cs : Array Value, BlockIs wr g 95 cs ∧ cs.size = l.length * 3 ∧
  (∀ i r, i < k → l[i]? = some r → cs[i * 3]? = some (.int .i64 r.c) ∧ cs[i * 3 + 1]? = some (.int .i64 r.m) ∧ cs[i * 3 + 2]? = some (.int .i64 r.p)) ∧ Below w.heap.size w wr
theorem CopyIn.put {w : World} {g : Nat} {l : List RV} {k : Nat} {r : RV} {wr : World} {cs : Array Value} (hs : cs.size = l.length * 3) (hr : l[k]? = some r)
    (hc : ∀ i r, i < k → l[i]? = some r → cs[i * 3]? = some (.int .i64 r.c) ∧ cs[i * 3 + 1]? = some (.int .i64 r.m) ∧ cs[i * 3 + 2]? = some (.int .i64 r.p))
    (hb : BlockIs wr g 95 (((cs.setIfInBounds (k * 3) (.int .i64 r.c)).setIfInBounds (k * 3 + 1) (.int .i64 r.m)).setIfInBounds (k * 3 + 2) (.int .i64 r.p))) (hB : Below w.heap.size w wr) : CopyIn w g l (k + 1) wr := by
  have hk : k < l.length := (List.getElem?_eq_some_iff.1 hr).1
  refine ⟨_, hb, by simp [hs], fun i r' hi hr' => ?_, hB⟩
  by_cases hik : i = k
  · subst hik
    obtain rfl := Option.some.inj (hr.symm.trans hr')
    refine ⟨?_, ?_, ?_⟩ <;> simp [Array.getElem?_setIfInBounds, hs] <;> omega
  · obtain ⟨h1, h2, h3⟩ := hc i r' (by omega) hr'
    refine ⟨?_, ?_, ?_⟩
    · rw [Array.getElem?_setIfInBounds_ne (by omega), Array.getElem?_setIfInBounds_ne (by omega), Array.getElem?_setIfInBounds_ne (by omega)]; exact h1
    · rw [Array.getElem?_setIfInBounds_ne (by omega), Array.getElem?_setIfInBounds_ne (by omega), Array.getElem?_setIfInBounds_ne (by omega)]; exact h2
    · rw [Array.getElem?_setIfInBounds_ne (by omega), Array.getElem?_setIfInBounds_ne (by omega), Array.getElem?_setIfInBounds_ne (by omega)]; exact h3
theorem CopyIn.done {w wr : World} {g : Nat} {l : List RV} (h : CopyIn w g l l.length wr) : InAt wr g 0 l := by
  obtain ⟨cs, hb, hs, hc, _⟩ := h
  intro i r hr
  have hi : i < l.length := (List.getElem?_eq_some_iff.1 hr).1
  obtain ⟨h1, h2, h3⟩ := hc i r hi hr
  simp only [Nat.zero_add]
  exact ⟨(hb.cell _).trans h1, (hb.cell _).trans h2, (hb.cell _).trans h3⟩

set_option maxHeartbeats 1600000 in
theorem eqInstS_same (v1 v2 : Value) (l : List RV) (w : World) (h1 : InSl w v1 l) (h2 : InSl w v2 l) (hlen : l.length ≤ 1048576) :
    Calls Tryz.prog 72 #[v1, v2] w fun e w' => e = .returned (.bool true) ∧ Below w.heap.size w w' := by
  obtain ⟨A, c, rfl, hA⟩ := h1.form
  obtain ⟨A2, c2, rfl, hA2⟩ := h2.form
  have HA := Lib.hid hA
  have HA2 := Lib.hid hA2
  clear hA hA2 h1 h2
  have hnn : ((l.length : Int) != (l.length : Int)) = false := by simp
  go_enter Tryz.func72, Tryz.ntmps72
  go_wp2_with fail
  go_loopw [5] (fun s5 wr => ∃ k : Nat, k ≤ l.length ∧ s5 = .int .i64 k ∧ Below w.heap.size w wr) (fun s5 _ => (l.length - intOf s5).toNat)
  case atStart => exact ⟨0, by omega, rfl, Below.refl _ _⟩
  case round =>
    obtain ⟨k, hk, rfl, hB⟩ := hrel
    have hzr := hB.size
    by_cases hlt : k < l.length
    · obtain ⟨b, off, rfl, hbw, hat⟩ := HA.out (by omega)
      obtain ⟨b2, off2, rfl, hbw2, hat2⟩ := HA2.out (by omega)
      obtain ⟨r, hr⟩ : ∃ r, l[k]? = some r := ⟨_, List.getElem?_eq_getElem hlt⟩
      obtain ⟨q0, q1, q2⟩ := (hat.below hB hbw) k r hr
      obtain ⟨p0, p1, p2⟩ := (hat2.below hB hbw2) k r hr
      have HK := Lib.hid (in_keep wr ⟨q0, q1, q2, p0, p1, p2⟩)
      have hlti : (k : Int) < (l.length : Int) := by omega
      have hk0 : (0 : Int) ≤ (k : Int) := by omega
      clear hat hat2 hr
      go_wp2_with fail
      go_region_held3 (fun w' => Below wr.heap.size wr w' ∧ w'.cell? ⟨b, off + k * 3, none⟩ = some (.int .i64 r.c) ∧ w'.cell? ⟨b, off + k * 3 + 1, none⟩ = some (.int .i64 r.m) ∧ w'.cell? ⟨b, off + k * 3 + 2, none⟩ = some (.int .i64 r.p) ∧ w'.cell? ⟨b2, off2 + k * 3, none⟩ = some (.int .i64 r.c) ∧ w'.cell? ⟨b2, off2 + k * 3 + 1, none⟩ = some (.int .i64 r.m) ∧ w'.cell? ⟨b2, off2 + k * 3 + 2, none⟩ = some (.int .i64 r.p))
        (exact HK.out _ (by repeat' (first | exact Below.refl _ _ | refine Below.alloc ?_ ?_ _ | refine Below.setCell ?_ ?_ _ | refine Below.drew ?_ | (apply below_step; assumption) | (simp; done) | (simp; omega) | omega)))
        (first | (go_at_call 121; refine (eqInst_same r _).mono ?_; rintro e w3 ⟨rfl, hb3⟩; have hz3 := hb3.size; try simp at hz3))
      go_wp2_with fail
      go_roundw
      case rel => exact ⟨k + 1, by omega, by go_num, (by repeat' (first | exact Below.refl _ _ | refine Below.alloc ?_ ?_ _ | refine Below.setCell ?_ ?_ _ | refine Below.drew ?_ | (apply below_step; assumption) | (simp; done) | (simp; omega) | omega))⟩
      case measure => simp [intOf]; omega
    · go_wp2_with fail
      go_ret
      exact ⟨rfl, hB⟩
end Go.Proofs.YtmkpajjnjgnmkabGreatDoor

namespace Go.Proofs.YtmkpajjnjgnmkabGreatDoor
open Go.RowKit

structure WS where
  ep : Value
  po : Value
  ta : Value
  no : Value
  bi : Value
  wa : Value
  en : Value
  ins : Value
  ms : Value
def WV.small (t : WV) : Prop := t.epochs.length ≤ 1048576 ∧ t.pools.length ≤ 1048576 ∧ t.wants.length ≤ 1048576 ∧ t.ends.length ≤ 1048576 ∧ t.insts.length ≤ 1048576 ∧ t.msgs.length ≤ 1048576
structure WldR (w : World) (t : WV) (s : WS) : Prop where
  ep : IntSl w s.ep t.epochs
  po : PoolSl w s.po t.pools
  clu : CluR w t.clu s.ta s.no s.bi
  wa : WantSl w s.wa t.wants
  en : IntSl w s.en t.ends
  ins : InSl w s.ins t.insts
  ms : MsgSl w s.ms t.msgs
  small : t.small
theorem WldR.below {w w' : World} {t : WV} {s : WS} (h : WldR w t s) (hb : Below w.heap.size w w') : WldR w' t s :=
  ⟨h.ep.below hb, h.po.below hb, h.clu.below hb, h.wa.below hb, h.en.below hb, h.ins.below hb, h.ms.below hb, h.small⟩
theorem WldR.form {w : World} {t : WV} {s : WS} (h : WldR w t s) : ∃ A0 A1 A2 A3 A4 A5 A6 A7 A8 c0 c1 c2 c3 c4 c5 c6 c7 c8, s = ⟨.slice A0 t.epochs.length c0, .slice A1 t.pools.length c1, .slice A2 t.clu.tasks.length c2, .slice A3 t.clu.nodes.length c3, .slice A4 t.clu.binds.length c4, .slice A5 t.wants.length c5, .slice A6 t.ends.length c6, .slice A7 t.insts.length c7, .slice A8 t.msgs.length c8⟩ := by
  obtain ⟨ep, po, ta, no, bi, wa, en, ins, ms⟩ := s
  obtain ⟨A0, c0, e0, _⟩ := h.ep.form
  obtain ⟨A1, c1, e1, _⟩ := h.po.form
  obtain ⟨A2, c2, e2, _⟩ := h.clu.1.form
  obtain ⟨A3, c3, e3, _⟩ := h.clu.2.1.form
  obtain ⟨A4, c4, e4, _⟩ := h.clu.2.2.1.form
  obtain ⟨A5, c5, e5, _⟩ := h.wa.form
  obtain ⟨A6, c6, e6, _⟩ := h.en.form
  obtain ⟨A7, c7, e7, _⟩ := h.ins.form
  obtain ⟨A8, c8, e8, _⟩ := h.ms.form
  simp only at e0 e1 e2 e3 e4 e5 e6 e7 e8
  subst e0 e1 e2 e3 e4 e5 e6 e7 e8
  exact ⟨A0, A1, A2, A3, A4, A5, A6, A7, A8, c0, c1, c2, c3, c4, c5, c6, c7, c8, rfl⟩
end Go.Proofs.YtmkpajjnjgnmkabGreatDoor

namespace Go.Proofs.YtmkpajjnjgnmkabGreatDoor
open Go.RowKit

theorem neq_self (K : Int) : (K != K) = false := by simp
theorem neq_selfB (b : Bool) : (b != b) = false := by simp
set_option maxRecDepth 20000 in
set_option maxHeartbeats 6400000 in
theorem heldTaskS_any (v : Value) (l : List TV) (k : Int) (w : World) (h : TaskSl w v (mTasks k l)) (hall : allTask l) (hl : l.length ≤ 1100000) (h0 : 0 ≤ k) (hk : k ≤ 576460752303423488) :
    Calls Tryz.prog 80 #[v, .int .i64 k] w fun e w' => e = .returned (.int .i64 (k + sumTask l)) ∧ w = w' := by
  obtain ⟨A, c, rfl, hA⟩ := h.form
  rw [mTasks_len] at hA ⊢
  have HA := Lib.hid hA
  have HALL := Lib.hid hall
  clear hA h hall
  go_enter Tryz.func80, Tryz.ntmps80
  go_wp2_with fail
  go_loop [1, 5] (fun s1 s5 => ∃ i : Nat, i ≤ l.length ∧ s5 = .int .i64 i ∧ s1 = .int .i64 (k + sumTask (l.take i))) (fun _ s5 => (l.length - intOf s5).toNat)
  case atStart => exact ⟨0, by omega, rfl, by simp [sumTask]⟩
  case round =>
    obtain ⟨i, hi, rfl, rfl⟩ := hrel
    obtain ⟨hs0, hs1⟩ := sumTask_take HALL.out i hl
    by_cases hlt : i < l.length
    · obtain ⟨b, off, rfl, hbw, hat⟩ := HA.out (by omega)
      obtain ⟨t, ht⟩ : ∃ t, l[i]? = some t := ⟨_, List.getElem?_eq_getElem hlt⟩
      obtain ⟨cs, hR, hC⟩ := hat i _ (mTasks_at k ht)
      obtain ⟨m1, m2⟩ := HALL.out t (List.mem_of_getElem? ht)
      generalize hK : k + sumTask (l.take i) = K at hR ⊢
      obtain ⟨v1, v2, rfl, h1, h2, -, -⟩ := hR
      have e1 : (mTask K t).want = mLabs (K + 1 + 1 + 1 + 1 + 1) t.want.length := rfl
      have e2 : (mTask K t).tols = mInts (K + 1 + 1 + 1 + 1 + 1 + 2 * t.want.length) t.tols.length := rfl
      rw [e1] at h1
      rw [e2] at h2
      have hL := heldLabS_any v1 t.want.length (K + 1 + 1 + 1 + 1 + 1) w h1 m1 (by omega) (by omega)
      have hI := heldIntS_any v2 t.tols.length (K + 1 + 1 + 1 + 1 + 1 + 2 * t.want.length) w h2 m2 (by omega) (by omega)
      obtain ⟨A1, c1, rfl, _⟩ := h1.form
      obtain ⟨A2, c2, rfl, _⟩ := h2.form
      rw [mLabs_len] at hL hC
      rw [mInts_len] at hI hC
      obtain ⟨q0, q1, q2, q3, q4, q5, q6⟩ := task_cells hC
      simp only [mTask] at q0 q1 q2 q3 q4 
      have HL := Lib.hid hL
      have HI := Lib.hid hI
      have HKK := Lib.hid hK
      have HT := Lib.hid ht
      have hK0 : 0 ≤ K := by omega
      have hK1 : K ≤ 576464272303423488 := by omega
      have n0 := neq_self K
      have n1 := neq_self (K + 1)
      have n2 := neq_self (K + 1 + 1)
      have n3 := neq_self (K + 1 + 1 + 1)
      have n4 := neq_self (K + 1 + 1 + 1 + 1)
      have p1 : decide (K + 1 + 1 + 1 + 1 + 1 + 2 * (t.want.length : Int) < 0) = false := by simp; omega
      have p2 : decide (K + 1 + 1 + 1 + 1 + 1 + 2 * (t.want.length : Int) + (t.tols.length : Int) < 0) = false := by simp; omega
      
      have hlti : (i : Int) < (l.length : Int) := by omega
      clear hat hC h1 h2 hL hI e1 e2 hK ht hs0 hs1
      go_wp2_with fail
      refine HL.out.mono ?_
      rintro e w2 ⟨rfl, rfl⟩
      go_wp2_with fail
      refine HI.out.mono ?_
      rintro e w3 ⟨rfl, rfl⟩
      go_wp2_with fail
      go_round
      case rel =>
        refine ⟨i + 1, by omega, by go_num, ?_⟩
        rw [take_at HT.out, sumTask_snoc]
        have := HKK.out
        unfold szTask
        congr 1; omega
      case measure => simp [intOf]; omega
    · obtain rfl : i = l.length := by omega
      rw [List.take_length] at hs0 hs1 ⊢
      go_wp2_with fail
      go_ret
      exact ⟨rfl, rfl⟩
set_option maxRecDepth 20000 in
set_option maxHeartbeats 6400000 in
theorem heldNodeS_any (v : Value) (l : List NV) (k : Int) (w : World) (h : NodeSl w v (mNodes k l)) (hall : allNode l) (hl : l.length ≤ 1100000) (h0 : 0 ≤ k) (hk : k ≤ 576460752303423488) :
    Calls Tryz.prog 81 #[v, .int .i64 k] w fun e w' => e = .returned (.int .i64 (k + sumNode l)) ∧ w = w' := by
  obtain ⟨A, c, rfl, hA⟩ := h.form
  rw [mNodes_len] at hA ⊢
  have HA := Lib.hid hA
  have HALL := Lib.hid hall
  clear hA h hall
  go_enter Tryz.func81, Tryz.ntmps81
  go_wp2_with fail
  go_loop [1, 5] (fun s1 s5 => ∃ i : Nat, i ≤ l.length ∧ s5 = .int .i64 i ∧ s1 = .int .i64 (k + sumNode (l.take i))) (fun _ s5 => (l.length - intOf s5).toNat)
  case atStart => exact ⟨0, by omega, rfl, by simp [sumNode]⟩
  case round =>
    obtain ⟨i, hi, rfl, rfl⟩ := hrel
    obtain ⟨hs0, hs1⟩ := sumNode_take HALL.out i hl
    by_cases hlt : i < l.length
    · obtain ⟨b, off, rfl, hbw, hat⟩ := HA.out (by omega)
      obtain ⟨t, ht⟩ : ∃ t, l[i]? = some t := ⟨_, List.getElem?_eq_getElem hlt⟩
      obtain ⟨cs, hR, hC⟩ := hat i _ (mNodes_at k ht)
      obtain ⟨m1, m2⟩ := HALL.out t (List.mem_of_getElem? ht)
      generalize hK : k + sumNode (l.take i) = K at hR ⊢
      obtain ⟨v1, v2, rfl, h1, h2, -, -⟩ := hR
      have e1 : (mNode K t).labs = mLabs (K + 1 + 1 + 1 + 1 + 1) t.labs.length := rfl
      have e2 : (mNode K t).taints = mInts (K + 1 + 1 + 1 + 1 + 1 + 2 * t.labs.length) t.taints.length := rfl
      rw [e1] at h1
      rw [e2] at h2
      have hL := heldLabS_any v1 t.labs.length (K + 1 + 1 + 1 + 1 + 1) w h1 m1 (by omega) (by omega)
      have hI := heldIntS_any v2 t.taints.length (K + 1 + 1 + 1 + 1 + 1 + 2 * t.labs.length) w h2 m2 (by omega) (by omega)
      obtain ⟨A1, c1, rfl, _⟩ := h1.form
      obtain ⟨A2, c2, rfl, _⟩ := h2.form
      rw [mLabs_len] at hL hC
      rw [mInts_len] at hI hC
      obtain ⟨q0, q1, q2, q3, q4, q5, q6, q7⟩ := node_cells hC
      simp only [mNode] at q0 q1 q2 q3 q4 q7
      have HL := Lib.hid hL
      have HI := Lib.hid hI
      have HKK := Lib.hid hK
      have HT := Lib.hid ht
      have hK0 : 0 ≤ K := by omega
      have hK1 : K ≤ 576464272303423488 := by omega
      have n0 := neq_self K
      have n1 := neq_self (K + 1)
      have n2 := neq_self (K + 1 + 1)
      have n3 := neq_self (K + 1 + 1 + 1)
      have n4 := neq_self (K + 1 + 1 + 1 + 1)
      have p1 : decide (K + 1 + 1 + 1 + 1 + 1 + 2 * (t.labs.length : Int) < 0) = false := by simp; omega
      have p2 : decide (K + 1 + 1 + 1 + 1 + 1 + 2 * (t.labs.length : Int) + (t.taints.length : Int) < 0) = false := by simp; omega
      have n7 := neq_selfB ((K + 1 + 1 + 1 + 1 + 1 + 2 * (t.labs.length : Int) + (t.taints.length : Int)) % 3 == 0)
      have hlti : (i : Int) < (l.length : Int) := by omega
      clear hat hC h1 h2 hL hI e1 e2 hK ht hs0 hs1
      go_wp2_with fail
      refine HL.out.mono ?_
      rintro e w2 ⟨rfl, rfl⟩
      go_wp2_with fail
      refine HI.out.mono ?_
      rintro e w3 ⟨rfl, rfl⟩
      go_wp2_with fail
      go_round
      case rel =>
        refine ⟨i + 1, by omega, by go_num, ?_⟩
        rw [take_at HT.out, sumNode_snoc]
        have := HKK.out
        unfold szNode
        congr 1; omega
      case measure => simp [intOf]; omega
    · obtain rfl : i = l.length := by omega
      rw [List.take_length] at hs0 hs1 ⊢
      go_wp2_with fail
      go_ret
      exact ⟨rfl, rfl⟩
end Go.Proofs.YtmkpajjnjgnmkabGreatDoor

namespace Go.Proofs.YtmkpajjnjgnmkabGreatDoor
open Go.RowKit

theorem nd3 {a b c : List Nat} (h : (a ++ (b ++ c)).Nodup) : a.Nodup ∧ b.Nodup ∧ c.Nodup ∧ (∀ x ∈ a, x ∉ b ∧ x ∉ c) ∧ (∀ x ∈ b, x ∉ a ∧ x ∉ c) ∧ (∀ x ∈ c, x ∉ a ∧ x ∉ b) := by
  simp only [List.nodup_append, List.mem_append] at h
  obtain ⟨ha, ⟨hb, hc, hbc⟩, hd⟩ := h
  exact ⟨ha, hb, hc, fun x hx => ⟨fun h => hd x hx x (.inl h) rfl, fun h => hd x hx x (.inr h) rfl⟩, fun x hx => ⟨fun h => hd x h x (.inl hx) rfl, fun h => hbc x hx x h rfl⟩, fun x hx => ⟨fun h => hd x h x (.inr hx) rfl, fun h => hbc x h x hx rfl⟩⟩
theorem CluO.all {w : World} {c : CV} {a0 a1 a2 : Value} {bs : List Nat} (h : CluO w c a0 a1 a2 bs) : allTask c.tasks ∧ allNode c.nodes ∧ c.tasks.length ≤ 1048576 ∧ c.nodes.length ≤ 1048576 ∧ c.binds.length ≤ 1048576 := by
  obtain ⟨b0, b1, b2, ⟨_, _, _, h0, _⟩, ⟨_, _, _, h1, _⟩, _, _, _, l⟩ := h
  exact ⟨elems_allTask h0, elems_allNode h1, l⟩
theorem CluO.lt {w : World} {c : CV} {a0 a1 a2 : Value} {bs : List Nat} (h : CluO w c a0 a1 a2 bs) : ∀ b ∈ bs, b < w.heap.size := by
  obtain ⟨b0, b1, b2, h0, h1, h2, rfl, _⟩ := h
  intro b hb
  rcases List.mem_append.1 hb with hb | hb
  · exact rowO_lt (fun _ _ _ h => h.lt) h0 b hb
  · rcases List.mem_append.1 hb with hb | hb
    · exact rowO_lt (fun _ _ _ h => h.lt) h1 b hb
    · exact rowO_lt (fun _ _ _ h => h.lt) h2 b hb
theorem rowO_form {α : Type} {R : World → α → List Value → List Nat → Prop} {ty : TypeId} {n : Nat} {w : World} {v : Value} {l : List α} {bs : List Nat} (h : RowO R ty n w v l bs) : ∃ A c, v = .slice A l.length c := by
  obtain ⟨xs, b, h1, _⟩ := h
  obtain ⟨A, c, e, _⟩ := own_form h1
  exact ⟨A, c, e⟩
theorem rowO_blk {α : Type} {R : World → α → List Value → List Nat → Prop} {ty : TypeId} {n : Nat} {w : World} {v : Value} {l : List α} {bs : List Nat} (h : RowO R ty n w v l bs) : ∀ b ∈ blk v, b ∈ bs := by
  obtain ⟨xs, b, _, _, rfl⟩ := h
  exact fun b hb => List.mem_append_left _ hb

theorem szClu_eq (c : CV) (k : Int) : k + szClu c = k + sumTask c.tasks + sumNode c.nodes + 2 * (c.binds.length : Int) := by unfold szClu; omega
end Go.Proofs.YtmkpajjnjgnmkabGreatDoor

namespace Go.Proofs.YtmkpajjnjgnmkabGreatDoor
open Go.RowKit

theorem boxes2 (w : World) (t0 t1 : TypeId) (c0 c1 : Array Value) {w2 : World} (hb : Below ((w.alloc (.cells c0 t0)).alloc (.cells c1 t1)).heap.size ((w.alloc (.cells c0 t0)).alloc (.cells c1 t1)) w2) :
    BlockIs w2 w.heap.size t0 c0 ∧ BlockIs w2 (w.heap.size + 1) t1 c1 :=
  ⟨((BlockIs.new w t0 c0).alloc _).below hb (by simp; omega), (BlockIs.new' (by simp)).below hb (by simp)⟩
end Go.Proofs.YtmkpajjnjgnmkabGreatDoor

namespace Go.Proofs.YtmkpajjnjgnmkabGreatDoor
open Go.RowKit

def inL (l : List RV) : List Value := l.flatMap fun x => [.int .i64 x.c, .int .i64 x.m, .int .i64 x.p]
theorem inL_cons (x : RV) (r : List RV) : inL (x :: r) = .int .i64 x.c :: .int .i64 x.m :: .int .i64 x.p :: inL r := rfl
theorem inL_at {l : List RV} {i : Nat} {x : RV} (h : l[i]? = some x) : (inL l)[i * 3]? = some (.int .i64 x.c) ∧ (inL l)[i * 3 + 1]? = some (.int .i64 x.m) ∧ (inL l)[i * 3 + 2]? = some (.int .i64 x.p) := by
  induction l generalizing i with
  | nil => simp at h
  | cons y r ih =>
    cases i with
    | zero => simp at h; subst h; exact ⟨rfl, rfl, rfl⟩
    | succ i =>
      simp at h
      have := ih h
      rw [inL_cons, show (i + 1) * 3 = i * 3 + 1 + 1 + 1 by omega]
      simpa using this
def OwnsN (w : World) (base : Nat) (v : Value) (l : List RV) : Prop := w.ownsRow base 95 3 v l.length (inL l)
section
variable {w w' : World} {base : Nat} {v : Value} {l : List RV}
theorem OwnsN.alloc (h : OwnsN w base v l) (o : Obj) : OwnsN (w.alloc o) base v l := World.ownsRow.alloc h o
theorem OwnsN.nil (w : World) (base : Nat) : OwnsN w base (.slice none 0 0) [] := World.ownsRow_nil w base _ _
theorem OwnsN.below {B : Nat} (h : OwnsN w base v l) (hb : Below B w w') (hB : w.heap.size ≤ B) : OwnsN w' base v l := by
  obtain ⟨h1, h2⟩ := h
  refine ⟨h1, ?_⟩
  rcases h2 with h | ⟨g, cap, cur, hv, hg, hh, h⟩
  · exact .inl h
  · have hlt : g < w.heap.size := (Array.getElem?_eq_some_iff.1 hh).1
    exact .inr ⟨g, cap, cur, hv, hg, (hb.block g (by omega)).trans hh, h⟩
theorem OwnsN.form (h : OwnsN w base v l) : (v = .slice none 0 0 ∧ l = []) ∨ ∃ g cap cur, v = .slice (some ⟨g, 0, none⟩) l.length cap ∧ base ≤ g ∧ BlockIs w g 95 cur ∧ l.length * 3 ≤ cur.size ∧ ∀ (j : Nat) (u : Value), (inL l)[j]? = some u → cur[j]? = some u := by
  obtain ⟨h1, h2⟩ := h
  rcases h2 with ⟨hv, hn⟩ | ⟨g, cap, cur, hv, hg, hh, hnc, _, hs, ht⟩
  · exact .inl ⟨hv, List.eq_nil_of_length_eq_zero hn⟩
  · refine .inr ⟨g, cap, cur, hv, hg, hh, by rw [hs]; exact Nat.mul_le_mul_right 3 hnc, fun j u hu => ?_⟩
    rw [← ht] at hu
    have hj : j < l.length * 3 := by
      have := (List.getElem?_eq_some_iff.1 hu).1
      rw [List.length_take] at this; omega
    rw [List.getElem?_take_of_lt hj] at hu
    simpa using hu
theorem OwnsN.sl (h : OwnsN w base v l) : InSl w v l := by
  rcases h.form with ⟨rfl, rfl⟩ | ⟨g, cap, cur, rfl, _, hb, _, hc⟩
  · exact .inl ⟨rfl, _, _, rfl⟩
  · refine .inr ⟨g, 0, cap, rfl, hb.lt, fun i r hr => ?_⟩
    obtain ⟨h1, h2, h3⟩ := inL_at hr
    simp only [Nat.zero_add]
    exact ⟨(hb.cell _).trans (hc _ _ h1), (hb.cell _).trans (hc _ _ h2), (hb.cell _).trans (hc _ _ h3)⟩
theorem OwnsN.len (h : OwnsN w base v l) : ∃ A c, v = .slice A l.length c := by
  rcases h.form with ⟨rfl, rfl⟩ | ⟨g, cap, cur, rfl, _⟩
  · exact ⟨_, _, rfl⟩
  · exact ⟨_, _, rfl⟩
end
theorem inL_length (l : List RV) : (inL l).length = l.length * 3 := by
  induction l with
  | nil => rfl
  | cons x r ih => rw [inL_cons]; simp [ih]; omega
theorem CopyIn.own {w wr : World} {g : Nat} {l : List RV} (h : CopyIn w g l l.length wr) (hm : l.length ≤ 2000000) {base : Nat} (hb : base ≤ g) : OwnsN wr base (.slice (some ⟨g, 0, none⟩) l.length l.length) l := by
  obtain ⟨cs, hblk, hs, hc, _⟩ := h
  refine ⟨inL_length l, .inr ⟨g, l.length, cs, rfl, hb, hblk, Nat.le_refl _, by unfold maxLen; omega, hs, ?_⟩⟩
  refine List.ext_getElem? fun j => ?_
  rw [List.take_of_length_le (by rw [Array.length_toList]; omega), Array.getElem?_toList]
  by_cases hj : j < l.length * 3
  · obtain ⟨r, hr⟩ : ∃ r, l[j / 3]? = some r := ⟨_, List.getElem?_eq_getElem (by omega)⟩
    obtain ⟨h1, h2, h3⟩ := hc (j / 3) r (by omega) hr
    obtain ⟨k1, k2, k3⟩ := inL_at hr
    rcases (show j = j / 3 * 3 ∨ j = j / 3 * 3 + 1 ∨ j = j / 3 * 3 + 2 by omega) with e | e | e
    · rw [← e] at h1 k1; rw [h1, k1]
    · rw [← e] at h2 k2; rw [h2, k2]
    · rw [← e] at h3 k3; rw [h3, k3]
  · rw [Array.getElem?_eq_none (by omega), List.getElem?_eq_none (by rw [inL_length]; omega)]
end Go.Proofs.YtmkpajjnjgnmkabGreatDoor

namespace Go.Proofs.YtmkpajjnjgnmkabGreatDoor
open Go.RowKit

def PoolO (w : World) (t : PV) (cs : List Value) (bs : List Nat) : Prop := ∃ v1 v2, cs = [.int .i64 t.id, .int .i64 t.min, .int .i64 t.max, .int .i64 t.prio, .int .i64 t.shape.id, .int .i64 t.shape.pool, .int .i64 t.shape.cap.c, .int .i64 t.shape.cap.m, .int .i64 t.shape.cap.p, v1, v2, .bool t.shape.cordon] ∧ LabO w v1 t.shape.labs ∧ IntO w v2 t.shape.taints ∧ bs = blk v1 ++ blk v2 ∧ t.shape.labs.length ≤ 1048576 ∧ t.shape.taints.length ≤ 1048576
def WantO (_ : World) (t : BV) (cs : List Value) (bs : List Nat) : Prop := cs = [.int .i64 t.task, .int .i64 t.node] ∧ bs = []
def MsgO (_ : World) (t : MV) (cs : List Value) (bs : List Nat) : Prop := cs = [.int .i64 t.k, .int .i64 t.e, .int .i64 t.i, .int .i64 t.p] ∧ bs = []
theorem PoolO.framed : Framed PoolO := fun _ _ _ _ _ ⟨v1, v2, e, h1, h2, hb, h3⟩ ha => by
  subst hb
  exact ⟨v1, v2, e, own_agree h1 ha.left, own_agree h2 ha.right, rfl, h3⟩
theorem PoolO.r {w : World} {t : PV} {cs : List Value} {bs : List Nat} (h : PoolO w t cs bs) : PoolR w t cs := by
  obtain ⟨v1, v2, e, h1, h2, _, h3⟩ := h
  exact ⟨v1, v2, e, h1.sl, h2.sl, h3⟩
theorem PoolO.len {w : World} {t : PV} {cs : List Value} {bs : List Nat} (h : PoolO w t cs bs) : cs.length = 12 := by
  obtain ⟨v1, v2, e, _⟩ := h; subst e; rfl
theorem PoolO.lt {w : World} {t : PV} {cs : List Value} {bs : List Nat} (h : PoolO w t cs bs) : ∀ b ∈ bs, b < w.heap.size := by
  obtain ⟨v1, v2, _, h1, h2, rfl, _⟩ := h
  intro b hb
  rcases List.mem_append.1 hb with hb | hb
  · exact own_lt h1 b hb
  · exact own_lt h2 b hb
theorem WantO.framed : Framed WantO := fun _ _ _ _ _ h _ => h
theorem WantO.r {w : World} {t : BV} {cs : List Value} {bs : List Nat} (h : WantO w t cs bs) : WantR w t cs := h.1
theorem WantO.len {w : World} {t : BV} {cs : List Value} {bs : List Nat} (h : WantO w t cs bs) : cs.length = 2 := by rw [h.1]; rfl
theorem WantO.lt {w : World} {t : BV} {cs : List Value} {bs : List Nat} (h : WantO w t cs bs) : ∀ b ∈ bs, b < w.heap.size := by rw [h.2]; simp
theorem MsgO.framed : Framed MsgO := fun _ _ _ _ _ h _ => h
theorem MsgO.r {w : World} {t : MV} {cs : List Value} {bs : List Nat} (h : MsgO w t cs bs) : MsgR w t cs := h.1
theorem MsgO.len {w : World} {t : MV} {cs : List Value} {bs : List Nat} (h : MsgO w t cs bs) : cs.length = 4 := by rw [h.1]; rfl
theorem MsgO.lt {w : World} {t : MV} {cs : List Value} {bs : List Nat} (h : MsgO w t cs bs) : ∀ b ∈ bs, b < w.heap.size := by rw [h.2]; simp
theorem toPool_ro (t : PV) (cs : List Value) (w : World) (h : PoolR w t cs) : Calls Tryz.prog 16 #[.agg cs.toArray] w (RetO PoolO w t) := by
  obtain ⟨v1, v2, rfl, h1, h2, l1, l2⟩ := h
  refine (toPool_o t v1 v2 w h1 h2 l1 l2).mono fun _ _ ⟨g1, g2, e, k1, k2, k3, bl, it, hb⟩ => ⟨_, [g1, g2], e, ⟨_, _, rfl, labO_of bl l1, intO_of it l2, rfl, l1, l2⟩, ?_, ?_, hb⟩
  · have := blk_ne bl it (by decide)
    simp [this]
  · intro b hb
    simp at hb
    rcases hb with rfl | rfl
    · exact k1
    · exact k2
set_option maxHeartbeats 3200000 in
theorem toPoolS_o (v : Value) (l : List PV) (w : World) (hv : PoolSl w v l) (hlen : l.length ≤ 1048576) :
    Calls Tryz.prog 6 #[v] w fun e w' => ∃ bs, e = .returned (.slice (some ⟨w.heap.size, 0, none⟩) l.length l.length) ∧ RowO PoolO 63 12 w' (.slice (some ⟨w.heap.size, 0, none⟩) l.length l.length) l bs ∧ bs.Nodup ∧ (∀ b ∈ bs, w.heap.size ≤ b) ∧ Below w.heap.size w w' := by
  obtain ⟨A, c, rfl, hA⟩ := hv.form
  have HA := Lib.hid hA
  clear hA hv
  have hmk := make_pool l.length hlen
  go_enter Tryz.func6, Tryz.ntmps6
  go_wp2_with fail
  go_loopw [4] (fun s4 wr => ∃ (k : Nat) (xa xb : List Value) (ba : List Nat), k ≤ l.length ∧ s4 = .int .i64 k ∧ wr.ownsRow 0 63 12 (.slice (some ⟨w.heap.size, 0, none⟩) l.length l.length) l.length (xa ++ xb) ∧ Elems PoolO wr (l.take k) xa ba ∧ (w.heap.size :: ba).Nodup ∧ (∀ b ∈ ba, w.heap.size < b) ∧ Below w.heap.size w wr) (fun s4 _ => (l.length - intOf s4).toNat)
  case atStart =>
    refine ⟨0, [], (madeCells #[.int .i64 0, .int .i64 0, .int .i64 0, .int .i64 0, .int .i64 0, .int .i64 0, .int .i64 0, .int .i64 0, .int .i64 0, .slice none 0 0, .slice none 0 0, .bool false] (l.length * 12)).toList, [], by omega, rfl, ⟨by simp [size_madeCells], .inr ⟨w.heap.size, l.length, _, rfl, Nat.zero_le _, BlockIs.new w _ _, Nat.le_refl _, by simp only [maxLen]; omega, size_madeCells _ _, ?_⟩⟩, ⟨rfl, rfl⟩, by simp, by simp, (by repeat' (first | exact Below.refl _ _ | refine Below.alloc ?_ ?_ _ | refine Below.setCell ?_ ?_ _ | refine Below.drew ?_ | (apply below_step; assumption) | (simp; done) | (simp; omega) | omega))⟩
    rw [List.nil_append, List.take_of_length_le]
    simp [size_madeCells]
  case round =>
    obtain ⟨k, xa, xb, ba, hk, rfl, hown, hel, hnd, hlo, hB⟩ := hrel
    have hzr := hB.size
    by_cases hlt : k < l.length
    · obtain ⟨b, off, rfl, hbw, hat⟩ := HA.out (by omega)
      obtain ⟨t, ht⟩ : ∃ t, l[k]? = some t := ⟨_, List.getElem?_eq_getElem hlt⟩
      obtain ⟨cs, hR, hC⟩ := (hat.below PoolR.kept hB hbw) k t ht
      have HTK := Lib.hid ht
      have HR := Lib.hid (toPool_ro t cs wr hR)
      obtain ⟨v1, v2, rfl, sl, si, m1, m2⟩ := hR; obtain ⟨A1, c1, rfl, _⟩ := sl.form; obtain ⟨A2, c2, rfl, _⟩ := si.form
      clear sl si m1 m2
      obtain ⟨q0, q1, q2, q3, q4, q5, q6, q7, q8, q9, q10, q11⟩ := pool_cells hC
      have HO := Lib.hid hown
      have HEL := Lib.hid hel
      have HND := Lib.hid (And.intro hnd hlo)
      have hgl := own_lt hown w.heap.size (by simp [blk, Value.ownBlock])
      clear hat hC ht hown hel hnd hlo
      go_wp2_with fail
      refine HR.out.mono ?_
      rintro e w3 ⟨ds, bx, rfl, hN, hndx, hlox, hb3⟩
      have hz3 := hb3.size
      have hC3 := below_of hB hb3
      have hO3 := own_agree HO.out (Agree.of_below hb3 (own_lt HO.out))
      have hk12 : k * 12 + 12 ≤ l.length * 12 := by
        have := Nat.mul_le_mul_right 12 (show k + 1 ≤ l.length from hlt)
        rw [Nat.add_mul, Nat.one_mul] at this; exact this
      obtain ⟨y0, x0⟩ := own_some hO3 (j := k * 12 + 0) (by omega); obtain ⟨y1, x1⟩ := own_some hO3 (j := k * 12 + 1) (by omega); obtain ⟨y2, x2⟩ := own_some hO3 (j := k * 12 + 2) (by omega); obtain ⟨y3, x3⟩ := own_some hO3 (j := k * 12 + 3) (by omega); obtain ⟨y4, x4⟩ := own_some hO3 (j := k * 12 + 4) (by omega); obtain ⟨y5, x5⟩ := own_some hO3 (j := k * 12 + 5) (by omega); obtain ⟨y6, x6⟩ := own_some hO3 (j := k * 12 + 6) (by omega); obtain ⟨y7, x7⟩ := own_some hO3 (j := k * 12 + 7) (by omega); obtain ⟨y8, x8⟩ := own_some hO3 (j := k * 12 + 8) (by omega); obtain ⟨y9, x9⟩ := own_some hO3 (j := k * 12 + 9) (by omega); obtain ⟨y10, x10⟩ := own_some hO3 (j := k * 12 + 10) (by omega); obtain ⟨y11, x11⟩ := own_some hO3 (j := k * 12 + 11) (by omega)
      rw [Nat.add_zero] at x0
      have uf := own_frozen hO3 (by omega)
      have HO3 := Lib.hid hO3
      have HN := Lib.hid (And.intro hN (And.intro hndx hlox))
      obtain ⟨v3, v4, rfl, n1, n2, -, -, -⟩ := hN
      obtain ⟨E1, d1, rfl, -⟩ := own_form n1
      obtain ⟨E2, d2, rfl, -⟩ := own_form n2
      clear hndx hlox hO3 hk12 n1 n2
      go_wp2_with fail
      go_roundw
      case rel =>
        obtain ⟨hN, hndx, hlox⟩ := HN.out
        obtain ⟨hnd, hlo⟩ := HND.out
        have hxl : xa.length = k * 12 := by rw [HEL.out.len (fun _ _ _ h => h.len), List.length_take, Nat.min_eq_left hk]
        have hlx : (xa ++ xb).length = l.length * 12 := HO3.out.1
        rw [List.length_append, hxl] at hlx
        have hx0 : (xb.take 12).length = 12 := by
          rw [List.length_take]
          have := Nat.mul_le_mul_right 12 (show k + 1 ≤ l.length from hlt)
          rw [Nat.add_mul, Nat.one_mul] at this
          omega
        have h3 := HO3.out
        rw [← List.take_append_drop 12 xb] at h3
        have st := own_put (v := .slice (some ⟨w.heap.size, 0, none⟩) l.length l.length) (g := w.heap.size) (ds := [.int .i64 t.id, .int .i64 t.min, .int .i64 t.max, .int .i64 t.prio, .int .i64 t.shape.id, .int .i64 t.shape.pool, .int .i64 t.shape.cap.c, .int .i64 t.shape.cap.m, .int .i64 t.shape.cap.p, .slice E1 t.shape.labs.length d1, .slice E2 t.shape.taints.length d2, .bool t.shape.cordon]) h3 (by rw [hx0]; rfl) rfl
        rw [hxl] at st
        have hEA := HEL.out.agree PoolO.framed (Agree.of_below hb3 (elems_lt (fun _ _ _ h => h.lt) HEL.out))
        have hP : TurnB [w.heap.size] w3 (putAll w3 w.heap.size (k * 12) [.int .i64 t.id, .int .i64 t.min, .int .i64 t.max, .int .i64 t.prio, .int .i64 t.shape.id, .int .i64 t.shape.pool, .int .i64 t.shape.cap.c, .int .i64 t.shape.cap.m, .int .i64 t.shape.cap.p, .slice E1 t.shape.labs.length d1, .slice E2 t.shape.taints.length d2, .bool t.shape.cordon]) := (TurnB.refl _ _).putAll (List.mem_singleton.2 rfl) _ _
        have hEP := hEA.agree PoolO.framed (hP.agree (fun b hb => ⟨elems_lt (fun _ _ _ h => h.lt) hEA b hb, by have := hlo b hb; simp; omega⟩))
        have hNP := PoolO.framed _ _ _ _ _ hN (hP.agree (fun b hb => ⟨hN.lt b hb, by have := hlox b hb; simp; omega⟩))
        refine ⟨k + 1, xa ++ [.int .i64 t.id, .int .i64 t.min, .int .i64 t.max, .int .i64 t.prio, .int .i64 t.shape.id, .int .i64 t.shape.pool, .int .i64 t.shape.cap.c, .int .i64 t.shape.cap.m, .int .i64 t.shape.cap.p, .slice E1 t.shape.labs.length d1, .slice E2 t.shape.taints.length d2, .bool t.shape.cordon], xb.drop 12, ba ++ bx, by omega, by go_num, by rw [List.append_assoc]; exact st, by rw [take_at HTK.out]; exact hEP.snoc hNP, ?_, ?_, hP.below hC3.size (by simp) |> hC3.trans⟩
        · rw [List.nodup_cons] at hnd ⊢
          refine ⟨fun hm => ?_, ?_⟩
          · rcases List.mem_append.1 hm with hm | hm
            · exact hnd.1 hm
            · have := hlox _ hm; omega
          · rw [List.nodup_append]
            exact ⟨hnd.2, hndx, fun a ha b hb e => by have := elems_lt (fun _ _ _ h => h.lt) HEL.out a ha; have := hlox b hb; omega⟩
        · intro b hb
          rcases List.mem_append.1 hb with hb | hb
          · exact hlo b hb
          · have := hlox b hb; omega
      case measure => simp [intOf]; omega
    · have hkl : k = l.length := by omega
      have HF := Lib.hid (And.intro hown (And.intro hel (And.intro hnd hlo)))
      have HKL := Lib.hid hkl
      clear hkl hown hel hnd hlo
      go_wp2_with fail
      go_ret
      obtain ⟨hown, hel, hnd, hlo⟩ := HF.out
      have hkl := HKL.out
      subst hkl
      rw [List.take_length] at hel
      have hxl := hel.len (fun _ _ _ h => h.len)
      have h1 := hown.1
      rw [List.length_append, hxl] at h1
      obtain rfl : xb = [] := List.eq_nil_of_length_eq_zero (by omega)
      rw [List.append_nil] at hown
      exact ⟨w.heap.size :: ba, rfl, ⟨xa, ba, hown, hel, by simp [blk, Value.ownBlock]⟩, hnd, fun b hb => by
        rcases List.mem_cons.1 hb with rfl | hb
        · exact Nat.le_refl _
        · have := hlo b hb; omega, hB⟩
theorem CluO.forms {w : World} {c : CV} {a0 a1 a2 : Value} {bs : List Nat} (h : CluO w c a0 a1 a2 bs) : ∃ R0 R1 R2 m0 m1 m2, a0 = .slice R0 c.tasks.length m0 ∧ a1 = .slice R1 c.nodes.length m1 ∧ a2 = .slice R2 c.binds.length m2 := by
  obtain ⟨b0, b1, b2, h0, h1, h2, _⟩ := h
  obtain ⟨R0, m0, e0⟩ := rowO_form h0
  obtain ⟨R1, m1, e1⟩ := rowO_form h1
  obtain ⟨R2, m2, e2⟩ := rowO_form h2
  exact ⟨R0, R1, R2, m0, m1, m2, e0, e1, e2⟩
structure WldO (w : World) (t : WV) (s : WS) (b1 b2 b3 b6 : List Nat) : Prop where
  ep : IntO w s.ep t.epochs
  po : RowO PoolO 63 12 w s.po t.pools b1
  clu : CluO w t.clu s.ta s.no s.bi b2
  wa : RowO WantO 93 2 w s.wa t.wants b3
  en : IntO w s.en t.ends
  ins : OwnsN w 0 s.ins t.insts
  ms : RowO MsgO 88 4 w s.ms t.msgs b6
  small : t.small
def wldB (s : WS) (b1 b2 b3 b6 : List Nat) : List Nat := blk s.ep ++ (b1 ++ (b2 ++ (b3 ++ (blk s.en ++ (blk s.ins ++ b6)))))
theorem WldO.agree {w w' : World} {t : WV} {s : WS} {b1 b2 b3 b6 : List Nat} (h : WldO w t s b1 b2 b3 b6) (ha : Agree (wldB s b1 b2 b3 b6) w w') : WldO w' t s b1 b2 b3 b6 := by
  have a1 := ha.right
  have a2 := a1.right
  have a3 := a2.right
  have a4 := a3.right
  have a5 := a4.right
  exact ⟨own_agree h.ep ha.left, h.po.agree PoolO.framed a1.left, h.clu.agree a2.left, h.wa.agree WantO.framed a3.left, own_agree h.en a4.left, own_agree h.ins a5.left, h.ms.agree MsgO.framed a5.right, h.small⟩
theorem WldO.wld {w : World} {t : WV} {s : WS} {b1 b2 b3 b6 : List Nat} (h : WldO w t s b1 b2 b3 b6) : WldR w t s :=
  ⟨IntO.sl h.ep, h.po.sl (fun _ _ _ h => h.len) (fun _ _ _ h => h.r), h.clu.clu, h.wa.sl (fun _ _ _ h => h.len) (fun _ _ _ h => h.r), IntO.sl h.en, OwnsN.sl h.ins, h.ms.sl (fun _ _ _ h => h.len) (fun _ _ _ h => h.r), h.small⟩
theorem WldO.lt {w : World} {t : WV} {s : WS} {b1 b2 b3 b6 : List Nat} (h : WldO w t s b1 b2 b3 b6) : ∀ b ∈ wldB s b1 b2 b3 b6, b < w.heap.size := by
  intro b hb
  simp only [wldB, List.mem_append] at hb
  rcases hb with hb | hb | hb | hb | hb | hb | hb
  · exact own_lt h.ep b hb
  · exact rowO_lt (fun _ _ _ h => h.lt) h.po b hb
  · exact h.clu.lt b hb
  · exact rowO_lt (fun _ _ _ h => h.lt) h.wa b hb
  · exact own_lt h.en b hb
  · exact own_lt h.ins b hb
  · exact rowO_lt (fun _ _ _ h => h.lt) h.ms b hb
def RetWld (w : World) (t : WV) (e : Ending) (w' : World) : Prop := ∃ s b1 b2 b3 b6, e = .returned (.agg #[.int .i64 t.now, .int .i64 t.span, .int .i64 t.kind, .int .i64 t.limit, .int .i64 t.next, .int .i64 t.lease.c, .int .i64 t.lease.m, .int .i64 t.lease.p, s.ep, s.po, s.ta, s.no, s.bi, s.wa, s.en, .int .i64 t.seen, s.ins, s.ms]) ∧ WldO w' t s b1 b2 b3 b6 ∧ (wldB s b1 b2 b3 b6).Nodup ∧ (∀ b ∈ wldB s b1 b2 b3 b6, w.heap.size ≤ b) ∧ Below w.heap.size w w'
end Go.Proofs.YtmkpajjnjgnmkabGreatDoor

namespace Go.Proofs.YtmkpajjnjgnmkabGreatDoor
open Go.RowKit

theorem wpList_append_pool {ops : Array Oper} {rest : List Oper} {o : Oper} {a : Act} {Q : Exit → Act → World → Prop} (w : World) (hgd : o.guard = none) (s x : Operand)
    (ho : o.op = .call { callee := .builtin .append, args := #[s, x], argTypes := #[27, 27] })
    (lim : Nat) (v : Value) (l : List PV) (p : PV) (g : Nat) (ds : List Value) (bi bx : List Nat) (hs : a.eval s = v) (hrow : RowO PoolO 63 12 w v l bi) (hnd : bi.Nodup) (hlo : ∀ b ∈ bi, lim ≤ b)
    (hx : a.eval x = .slice (some ⟨g, 0, none⟩) 1 1) (hb : BlockIs w g 63 ds.toArray) (hO : PoolO w p ds bx) (hndx : bx.Nodup) (hlox : ∀ b ∈ bx, lim ≤ b) (hdis : ∀ b ∈ bi, ∀ c ∈ bx, b ≠ c) (hl : l.length ≤ 1048576) (hlim : lim ≤ w.heap.size)
    (h : ∀ v' w' bi', RowO PoolO 63 12 w' v' (l ++ [p]) bi' → bi'.Nodup → (∀ b ∈ bi', lim ≤ b) → Below lim w w' → wpList Tryz.prog ops Q rest (a.put o.dst v') w') : wpList Tryz.prog ops Q (o :: rest) a w := by
  obtain ⟨i0, hi0, hz0, hz1, hz2⟩ := info_parts Tryz.infoPool
  obtain ⟨xs, b, hown, hel, rfl⟩ := hrow
  have hlen := hO.len
  have h1 : ∀ u ∈ ds, u.oneCell' = true := by
    obtain ⟨v1, v2, rfl, h1, h2, _⟩ := hO
    obtain ⟨A1, c1, rfl, _⟩ := own_form h1
    obtain ⟨A2, c2, rfl, _⟩ := own_form h2
    intro u hu
    simp at hu
    rcases hu with rfl | rfl | rfl | rfl | rfl | rfl | rfl | rfl | rfl | rfl | rfl | rfl <;> rfl
  refine wpList_append_own_at w hgd s x 27 ho 0 63 i0 _ 12 128 Tryz.underlying27 hi0 hz0 hz1 hz2 rfl (by omega) v l.length xs hs hown ⟨g, 0, none⟩ 1 1 ds hx (by rw [hlen]) (cellsAt_add (CellsAt.of_block hb (fun j u hu => by rw [Nat.zero_add]; simpa using hu))) h1 (by unfold maxLen; omega) (by omega) (Nat.zero_le _) ?_
  intro v' w' h2 h3 _ h5
  have hlv := own_lt hown
  have hli := elems_lt (fun x cs b h => h.lt) hel
  have hlx := hO.lt
  rw [List.nodup_append] at hnd
  obtain ⟨n1, n2, n3⟩ := hnd
  have hn : (blk v ++ (b ++ bx)).Nodup := by
    rw [List.nodup_append, List.nodup_append]
    refine ⟨n1, ⟨n2, hndx, fun a ha c hc e => hdis a (List.mem_append_right _ ha) c hc e⟩, fun a ha c hc e => ?_⟩
    rcases List.mem_append.1 hc with hc | hc
    · exact n3 a ha c hc e
    · exact hdis a (List.mem_append_left _ ha) c hc e
  obtain ⟨hr4, hnd4⟩ := pushed (ty := 63) (n := 12) PoolO.framed hel hO hn (by
    intro c hc
    rcases List.mem_append.1 hc with h | h
    · exact hli c h
    · exact hlx c h) hlv h2 h3 h5
  refine h v' w' _ hr4 hnd4 ?_ ?_
  · intro c hc
    rcases List.mem_append.1 hc with h | h
    · rcases h5 with e | e
      · exact hlo c (List.mem_append_left _ (by simpa [blk, e] using h))
      · simp [blk, e] at h; omega
    · rcases List.mem_append.1 h with h | h
      · exact hlo c (List.mem_append_right _ h)
      · exact hlox c h
  · exact (Below.refl lim w).grown h3 hlim (fun k hk => hlo k (List.mem_append_left _ (by simp [blk, hk])))
def RetPools (w : World) (l : List PV) (e : Ending) (w' : World) : Prop := ∃ v bs, e = .returned v ∧ RowO PoolO 63 12 w' v l bs ∧ bs.Nodup ∧ (∀ b ∈ bs, w.heap.size ≤ b) ∧ Below w.heap.size w w'
set_option maxHeartbeats 6400000 in
set_option maxRecDepth 20000 in
theorem l08Pools_any (v : Value) (l : List PV) (w0 w : World) (hw : Below w0.heap.size w0 w) (hv : PoolSl w0 v l) (hl : l.length ≤ 1048576) :
    Calls Tryz.prog 14 #[v] w (RetPools w l) := by
  obtain ⟨A, c, rfl, hA⟩ := hv.form
  have HA := Lib.hid hA
  have HW := Lib.hid hw
  clear hA hv hw
  go_enter Tryz.func14, Tryz.ntmps14
  go_wp2_with fail
  have hX : Below w.heap.size w (w.alloc (.cells #[] 63)) := (by repeat' (first | exact Below.refl _ _ | refine Below.alloc ?_ ?_ _ | refine Below.setCell ?_ ?_ _ | refine Below.drew ?_ | (apply below_step; assumption) | (simp; done) | (simp; omega) | omega))
  have hO0 : RowO PoolO 63 12 (w.alloc (.cells #[] 63)) (.slice (some ⟨w.heap.size, 0, none⟩) 0 0) [] [w.heap.size] := ⟨[], [], made_own w _ _, ⟨rfl, rfl⟩, rfl⟩
  generalize hg : w.heap.size = g at hO0 ⊢
  generalize w.alloc (.cells #[] 63) = X at hX hO0 ⊢
  have HX := Lib.hid hX
  have HO0 := Lib.hid hO0
  have HGE := Lib.hid hg
  clear hO0 hX hg
  go_loopw [3, 4] (fun s3 s4 wr => ∃ (k : Nat) (bs : List Nat), k ≤ l.length ∧ s4 = .int .i64 k ∧ RowO PoolO 63 12 wr s3 (l.take k) bs ∧ bs.Nodup ∧ (∀ b ∈ bs, w.heap.size ≤ b) ∧ Below w.heap.size w wr) (fun _ s4 _ => (l.length - intOf s4).toNat)
  case atStart => exact ⟨0, [g], by omega, rfl, by simpa using HO0.out, by simp, by simp [HGE.out], HX.out⟩
  case round =>
    obtain ⟨k, bs, hk, rfl, hrow, hnd, hlo, hB⟩ := hrel
    have hzr := hB.size
    by_cases hlt : k < l.length
    · obtain ⟨b, off, rfl, hbw, hat⟩ := HA.out (by omega)
      obtain ⟨p, hp⟩ : ∃ p, l[k]? = some p := ⟨_, List.getElem?_eq_getElem hlt⟩
      obtain ⟨cs, hR, hC⟩ := (hat.below PoolR.kept (below_of HW.out hB) hbw) k p hp
      have HTK := Lib.hid (take_at hp)
      obtain ⟨u1, u2, rfl, sl, si, m1, m2⟩ := hR
      have hcn := fun w1 (hw1 : Below wr.heap.size wr w1) => sCopyNode_any p.shape [.int .i64 p.shape.id, .int .i64 p.shape.pool, .int .i64 p.shape.cap.c, .int .i64 p.shape.cap.m, .int .i64 p.shape.cap.p, u1, u2, .bool p.shape.cordon] w1 ⟨u1, u2, rfl, sl.below hw1, si.below hw1, m1, m2⟩
      obtain ⟨A1, c1, rfl, _⟩ := sl.form
      obtain ⟨A2, c2, rfl, _⟩ := si.form
      obtain ⟨q0, q1, q2, q3, q4, q5, q6, q7, q8, q9, q10, q11⟩ := pool_cells hC
      have hki : (k : Int) < (l.length : Int) := by omega
      have hk0 : (0 : Int) ≤ (k : Int) := by omega
      have hbr : b < wr.heap.size := Nat.lt_of_lt_of_le hbw (below_of HW.out hB).size
      have HCN := Lib.hid hcn
      have HROW := Lib.hid (And.intro hrow (And.intro hnd hlo))
      have HLN := Lib.hid (show (l.take k).length ≤ 1048576 by rw [List.length_take]; omega)
      clear hat hC hp sl si m1 m2 hcn hrow hnd hlo
      go_wp2_with fail
      have hX1 : Below wr.heap.size wr (wr.alloc (.cells #[.int .i64 p.id, .int .i64 p.min, .int .i64 p.max, .int .i64 p.prio, .int .i64 p.shape.id, .int .i64 p.shape.pool, .int .i64 p.shape.cap.c, .int .i64 p.shape.cap.m, .int .i64 p.shape.cap.p, .slice A1 p.shape.labs.length c1, .slice A2 p.shape.taints.length c2, .bool p.shape.cordon] 63)) := (by repeat' (first | exact Below.refl _ _ | refine Below.alloc ?_ ?_ _ | refine Below.setCell ?_ ?_ _ | refine Below.drew ?_ | (apply below_step; assumption) | (simp; done) | (simp; omega) | omega))
      refine (HCN.out _ hX1).mono ?_
      rintro e w3 ⟨ds, bx, rfl, hO3, hnd3, hlo3, hb3⟩
      obtain ⟨y1, y2, rfl, hy1, hy2, rfl, hm1, hm2⟩ := hO3
      obtain ⟨F1, f1, rfl, _⟩ := own_form hy1
      obtain ⟨F2, f2, rfl, _⟩ := own_form hy2
      have hz3 := hb3.size
      simp at hz3
      have B3 := (BlockIs.new wr 63 #[.int .i64 p.id, .int .i64 p.min, .int .i64 p.max, .int .i64 p.prio, .int .i64 p.shape.id, .int .i64 p.shape.pool, .int .i64 p.shape.cap.c, .int .i64 p.shape.cap.m, .int .i64 p.shape.cap.p, .slice A1 p.shape.labs.length c1, .slice A2 p.shape.taints.length c2, .bool p.shape.cordon]).below hb3 (by simp)
      have x0 := B3.cell 0; have x1 := B3.cell 1; have x2 := B3.cell 2; have x3 := B3.cell 3; have x4 := B3.cell 4; have x5 := B3.cell 5
      have x6 := B3.cell 6; have x7 := B3.cell 7; have x8 := B3.cell 8; have x9 := B3.cell 9; have x10 := B3.cell 10; have x11 := B3.cell 11
      have xf := B3.frozen
      have xl := B3.lt
      simp at x0 x1 x2 x3 x4 x5 x6 x7 x8 x9 x10 x11
      have T3 : TurnB [wr.heap.size] w3 ((((((((w3.setCell ⟨wr.heap.size, 4, none⟩ (.int .i64 p.shape.id)).setCell ⟨wr.heap.size, 5, none⟩ (.int .i64 p.shape.pool)).setCell ⟨wr.heap.size, 6, none⟩ (.int .i64 p.shape.cap.c)).setCell ⟨wr.heap.size, 7, none⟩ (.int .i64 p.shape.cap.m)).setCell ⟨wr.heap.size, 8, none⟩ (.int .i64 p.shape.cap.p)).setCell ⟨wr.heap.size, 9, none⟩ (.slice F1 p.shape.labs.length f1)).setCell ⟨wr.heap.size, 10, none⟩ (.slice F2 p.shape.taints.length f2)).setCell ⟨wr.heap.size, 11, none⟩ (.bool p.shape.cordon)) := by
        repeat' (first | with_reducible exact TurnB.refl _ _ | with_reducible refine TurnB.put ?_ (by simp) _ _)
      have hsz : (((((((((w3.setCell ⟨wr.heap.size, 4, none⟩ (.int .i64 p.shape.id)).setCell ⟨wr.heap.size, 5, none⟩ (.int .i64 p.shape.pool)).setCell ⟨wr.heap.size, 6, none⟩ (.int .i64 p.shape.cap.c)).setCell ⟨wr.heap.size, 7, none⟩ (.int .i64 p.shape.cap.m)).setCell ⟨wr.heap.size, 8, none⟩ (.int .i64 p.shape.cap.p)).setCell ⟨wr.heap.size, 9, none⟩ (.slice F1 p.shape.labs.length f1)).setCell ⟨wr.heap.size, 10, none⟩ (.slice F2 p.shape.taints.length f2)).setCell ⟨wr.heap.size, 11, none⟩ (.bool p.shape.cordon))).heap.size = w3.heap.size := by simp [World.setCell]
      have T4 : TurnB [wr.heap.size] w3 (World.alloc ((((((((w3.setCell ⟨wr.heap.size, 4, none⟩ (.int .i64 p.shape.id)).setCell ⟨wr.heap.size, 5, none⟩ (.int .i64 p.shape.pool)).setCell ⟨wr.heap.size, 6, none⟩ (.int .i64 p.shape.cap.c)).setCell ⟨wr.heap.size, 7, none⟩ (.int .i64 p.shape.cap.m)).setCell ⟨wr.heap.size, 8, none⟩ (.int .i64 p.shape.cap.p)).setCell ⟨wr.heap.size, 9, none⟩ (.slice F1 p.shape.labs.length f1)).setCell ⟨wr.heap.size, 10, none⟩ (.slice F2 p.shape.taints.length f2)).setCell ⟨wr.heap.size, 11, none⟩ (.bool p.shape.cordon)) (.cells #[.int .i64 p.id, .int .i64 p.min, .int .i64 p.max, .int .i64 p.prio, .int .i64 p.shape.id, .int .i64 p.shape.pool, .int .i64 p.shape.cap.c, .int .i64 p.shape.cap.m, .int .i64 p.shape.cap.p, .slice F1 p.shape.labs.length f1, .slice F2 p.shape.taints.length f2, .bool p.shape.cordon] 63)) := T3.step ((Below.refl _ _).alloc (Nat.le_refl _) _)
      have B4 : BlockIs (World.alloc ((((((((w3.setCell ⟨wr.heap.size, 4, none⟩ (.int .i64 p.shape.id)).setCell ⟨wr.heap.size, 5, none⟩ (.int .i64 p.shape.pool)).setCell ⟨wr.heap.size, 6, none⟩ (.int .i64 p.shape.cap.c)).setCell ⟨wr.heap.size, 7, none⟩ (.int .i64 p.shape.cap.m)).setCell ⟨wr.heap.size, 8, none⟩ (.int .i64 p.shape.cap.p)).setCell ⟨wr.heap.size, 9, none⟩ (.slice F1 p.shape.labs.length f1)).setCell ⟨wr.heap.size, 10, none⟩ (.slice F2 p.shape.taints.length f2)).setCell ⟨wr.heap.size, 11, none⟩ (.bool p.shape.cordon)) (.cells #[.int .i64 p.id, .int .i64 p.min, .int .i64 p.max, .int .i64 p.prio, .int .i64 p.shape.id, .int .i64 p.shape.pool, .int .i64 p.shape.cap.c, .int .i64 p.shape.cap.m, .int .i64 p.shape.cap.p, .slice F1 p.shape.labs.length f1, .slice F2 p.shape.taints.length f2, .bool p.shape.cordon] 63)) w3.heap.size 63 #[.int .i64 p.id, .int .i64 p.min, .int .i64 p.max, .int .i64 p.prio, .int .i64 p.shape.id, .int .i64 p.shape.pool, .int .i64 p.shape.cap.c, .int .i64 p.shape.cap.m, .int .i64 p.shape.cap.p, .slice F1 p.shape.labs.length f1, .slice F2 p.shape.taints.length f2, .bool p.shape.cordon] := BlockIs.new' hsz.symm
      have hbs := rowO_lt (fun _ _ _ h => h.lt) HROW.out.1
      have hb13 := below_of hX1 hb3
      simp only [World.size_alloc] at hlo3
      have R4 := HROW.out.1.agree PoolO.framed ((Agree.of_below hb13 hbs).trans (T4.agree (fun b hb => ⟨Nat.lt_of_lt_of_le (hbs b hb) hb13.size, by have := hbs b hb; simp; omega⟩)))
      have hy1l := own_lt hy1
      have hy2l := own_lt hy2
      have O4 : PoolO (World.alloc ((((((((w3.setCell ⟨wr.heap.size, 4, none⟩ (.int .i64 p.shape.id)).setCell ⟨wr.heap.size, 5, none⟩ (.int .i64 p.shape.pool)).setCell ⟨wr.heap.size, 6, none⟩ (.int .i64 p.shape.cap.c)).setCell ⟨wr.heap.size, 7, none⟩ (.int .i64 p.shape.cap.m)).setCell ⟨wr.heap.size, 8, none⟩ (.int .i64 p.shape.cap.p)).setCell ⟨wr.heap.size, 9, none⟩ (.slice F1 p.shape.labs.length f1)).setCell ⟨wr.heap.size, 10, none⟩ (.slice F2 p.shape.taints.length f2)).setCell ⟨wr.heap.size, 11, none⟩ (.bool p.shape.cordon)) (.cells #[.int .i64 p.id, .int .i64 p.min, .int .i64 p.max, .int .i64 p.prio, .int .i64 p.shape.id, .int .i64 p.shape.pool, .int .i64 p.shape.cap.c, .int .i64 p.shape.cap.m, .int .i64 p.shape.cap.p, .slice F1 p.shape.labs.length f1, .slice F2 p.shape.taints.length f2, .bool p.shape.cordon] 63)) p [.int .i64 p.id, .int .i64 p.min, .int .i64 p.max, .int .i64 p.prio, .int .i64 p.shape.id, .int .i64 p.shape.pool, .int .i64 p.shape.cap.c, .int .i64 p.shape.cap.m, .int .i64 p.shape.cap.p, .slice F1 p.shape.labs.length f1, .slice F2 p.shape.taints.length f2, .bool p.shape.cordon] (blk (.slice F1 p.shape.labs.length f1) ++ blk (.slice F2 p.shape.taints.length f2)) :=
        ⟨_, _, rfl, own_agree hy1 (T4.agree (fun b hb => ⟨hy1l b hb, by have := hlo3 b (List.mem_append_left _ hb); simp; omega⟩)), own_agree hy2 (T4.agree (fun b hb => ⟨hy2l b hb, by have := hlo3 b (List.mem_append_right _ hb); simp; omega⟩)), rfl, hm1, hm2⟩
      have HW4 := Lib.hid (And.intro T4 (And.intro B4 (And.intro R4 O4)))
      have HD4 := Lib.hid (show ∀ b ∈ bs, ∀ c ∈ blk (.slice F1 p.shape.labs.length f1) ++ blk (.slice F2 p.shape.taints.length f2), b ≠ c from fun b hb c hc e => by have := hbs b hb; have := hlo3 c hc; omega)
      have HL4 := Lib.hid (show ∀ c ∈ blk (.slice F1 p.shape.labs.length f1) ++ blk (.slice F2 p.shape.taints.length f2), w.heap.size ≤ c from fun c hc => by have := hlo3 c hc; omega)
      have HN4 := Lib.hid hnd3
      have HBB := Lib.hid (And.intro hB hb13)
      clear T3 T4 B4 R4 O4 hy1 hy2 hm1 hm2 hbs hb13 hlo3 hnd3 hb3 hX1 B3 hy1l hy2l q0 q1 q2 q3 q4 q5 q6 q7 q8 q9 q10 q11 hB
      go_wp2_with (at_builtin; generalize (World.alloc ((((((((w3.setCell ⟨wr.heap.size, 4, none⟩ (.int .i64 p.shape.id)).setCell ⟨wr.heap.size, 5, none⟩ (.int .i64 p.shape.pool)).setCell ⟨wr.heap.size, 6, none⟩ (.int .i64 p.shape.cap.c)).setCell ⟨wr.heap.size, 7, none⟩ (.int .i64 p.shape.cap.m)).setCell ⟨wr.heap.size, 8, none⟩ (.int .i64 p.shape.cap.p)).setCell ⟨wr.heap.size, 9, none⟩ (.slice F1 p.shape.labs.length f1)).setCell ⟨wr.heap.size, 10, none⟩ (.slice F2 p.shape.taints.length f2)).setCell ⟨wr.heap.size, 11, none⟩ (.bool p.shape.cordon)) (.cells #[.int .i64 p.id, .int .i64 p.min, .int .i64 p.max, .int .i64 p.prio, .int .i64 p.shape.id, .int .i64 p.shape.pool, .int .i64 p.shape.cap.c, .int .i64 p.shape.cap.m, .int .i64 p.shape.cap.p, .slice F1 p.shape.labs.length f1, .slice F2 p.shape.taints.length f2, .bool p.shape.cordon] 63)) = x4 at HW4 ⊢; refine wpList_append_pool _ rfl (.tmp 21) (.tmp 23) rfl w.heap.size u3 (l.take k) p w3.heap.size [.int .i64 p.id, .int .i64 p.min, .int .i64 p.max, .int .i64 p.prio, .int .i64 p.shape.id, .int .i64 p.shape.pool, .int .i64 p.shape.cap.c, .int .i64 p.shape.cap.m, .int .i64 p.shape.cap.p, .slice F1 p.shape.labs.length f1, .slice F2 p.shape.taints.length f2, .bool p.shape.cordon] bs _ rfl HW4.out.2.2.1 HROW.out.2.1 HROW.out.2.2 rfl HW4.out.2.1 HW4.out.2.2.2 HN4.out HL4.out HD4.out HLN.out (Nat.le_trans hzr (Nat.le_trans HBB.out.2.size HW4.out.1.size)) ?_; intro v' w' bi' hr' hn' hl' hb'; have HE := Lib.hid (And.intro hr' (And.intro hn' (And.intro hl' hb'))); clear hr' hn' hl' hb')
      go_roundw
      case rel =>
        obtain ⟨hr', hn', hl', hb'⟩ := HE.out
        refine ⟨k + 1, bi', by omega, by go_num, by rw [HTK.out]; exact hr', hn', hl', ?_⟩
        exact (HBB.out.1.trans (HBB.out.2.mono hzr)).trans ((HW4.out.1.below (B := w.heap.size) (by omega) (by simp; omega)).trans hb')
      case measure => simp [intOf]; omega
    · have hkl : k = l.length := by omega
      rw [hkl, List.take_length] at hrow
      have HROW := Lib.hid (And.intro hrow (And.intro hnd hlo))
      clear hrow hnd hlo hkl
      go_wp2_with fail
      go_ret
      exact ⟨_, bs, rfl, HROW.out.1, HROW.out.2.1, HROW.out.2.2, hB⟩
end Go.Proofs.YtmkpajjnjgnmkabGreatDoor

namespace Go.Proofs.YtmkpajjnjgnmkabGreatDoor
open Go.RowKit

def Bor {α : Type} (R : World → α → List Value → Prop) (w0 : World) (_ : World) (x : α) (cs : List Value) (bs : List Nat) : Prop := R w0 x cs ∧ bs = []
section
variable {α : Type} {R : World → α → List Value → Prop} {n : Nat} {w w' : World}
theorem Bor.framed (w0 : World) : Framed (Bor R w0) := fun _ _ _ _ _ h _ => h
theorem seq_news (hn : ∀ x cs, R w x cs → cs.length = n) (w' : World) {b : Nat} {l : List α} : ∀ {off : Nat}, SeqAt R n w b off l → ∃ xs, Elems (Bor R w) w' l xs [] ∧ CellsAt w b off xs ∧ xs.length = l.length * n := by
  induction l with
  | nil => exact fun _ => ⟨[], ⟨rfl, rfl⟩, fun j u hu => by simp at hu, by simp⟩
  | cons x r ih =>
    intro off h
    obtain ⟨cs, hR, hC⟩ := h 0 x rfl
    have hr : SeqAt R n w b (off + n) r := fun i y hy => by
      obtain ⟨ds, h1, h2⟩ := h (i + 1) y (by simpa using hy)
      exact ⟨ds, h1, by rw [show off + n + i * n = off + (i + 1) * n by rw [Nat.add_mul]; omega]; exact h2⟩
    obtain ⟨xs, h1, h2, h3⟩ := ih hr
    have hl := hn _ _ hR
    refine ⟨cs ++ xs, ⟨cs, xs, [], [], rfl, rfl, ⟨hR, rfl⟩, h1⟩, fun j u hu => ?_, by rw [List.length_append, hl, h3, List.length_cons, Nat.add_mul]; omega⟩
    rcases Nat.lt_or_ge j n with hj | hj
    · rw [List.getElem?_append_left (by omega)] at hu
      have := hC j u hu
      rwa [Nat.zero_mul, Nat.add_zero] at this
    · rw [List.getElem?_append_right (by omega), hl] at hu
      have := h2 _ _ hu
      rwa [show off + n + (j - n) = off + j by omega] at this
theorem bor_one (h1 : ∀ x cs, R w x cs → ∀ u ∈ cs, u.oneCell' = true) {l : List α} {xs : List Value} {bs : List Nat} (h : Elems (Bor R w) w' l xs bs) : ∀ u ∈ xs, u.oneCell' = true := by
  induction l generalizing xs bs with
  | nil => obtain ⟨rfl, _⟩ := h; simp
  | cons x r ih =>
    obtain ⟨cs, ys, b1, b2, rfl, rfl, ⟨hR, _⟩, h2⟩ := h
    intro u hu
    rcases List.mem_append.1 hu with hu | hu
    · exact h1 _ _ hR u hu
    · exact ih h2 u hu
end
theorem taskR_len {w : World} {x : TV} {cs : List Value} (h : TaskR w x cs) : cs.length = 7 := by obtain ⟨v1, v2, rfl, _⟩ := h; rfl
theorem nodeR_len {w : World} {x : NV} {cs : List Value} (h : NodeR w x cs) : cs.length = 8 := by obtain ⟨v1, v2, rfl, _⟩ := h; rfl
theorem bindR_len {w : World} {x : BV} {cs : List Value} (h : BindR w x cs) : cs.length = 2 := by obtain rfl := h; rfl
theorem taskR_one {w : World} {x : TV} {cs : List Value} (h : TaskR w x cs) : ∀ u ∈ cs, u.oneCell' = true := by
  obtain ⟨v1, v2, rfl, h1, h2, _⟩ := h
  obtain ⟨A1, c1, rfl, _⟩ := h1.form
  obtain ⟨A2, c2, rfl, _⟩ := h2.form
  intro u hu
  simp at hu
  rcases hu with rfl | rfl | rfl | rfl | rfl | rfl | rfl <;> rfl
theorem nodeR_one {w : World} {x : NV} {cs : List Value} (h : NodeR w x cs) : ∀ u ∈ cs, u.oneCell' = true := by
  obtain ⟨v1, v2, rfl, h1, h2, _⟩ := h
  obtain ⟨A1, c1, rfl, _⟩ := h1.form
  obtain ⟨A2, c2, rfl, _⟩ := h2.form
  intro u hu
  simp at hu
  rcases hu with rfl | rfl | rfl | rfl | rfl | rfl | rfl | rfl <;> rfl
theorem bindR_one {w : World} {x : BV} {cs : List Value} (h : BindR w x cs) : ∀ u ∈ cs, u.oneCell' = true := by
  obtain rfl := h
  intro u hu
  simp at hu
  rcases hu with rfl | rfl <;> rfl
theorem none_below {w w' : World} (h : w.grownBy w' none) : Below w.heap.size w w' := ⟨h.os, h.tape, h.output, h.size, fun k hk => h.block k hk (by simp)⟩
theorem none_blk {w : World} {v' : Value} (hk : v'.ownBlock = (none : Option Nat) ∨ v'.ownBlock = some w.heap.size) : (∀ b ∈ blk v', w.heap.size ≤ b) ∧ (blk v').Nodup := by
  rcases hk with e | e <;> simp [blk, e]
set_option maxHeartbeats 1600000 in
theorem copyListTask_any (v : Value) (l : List TV) (w0 w : World) (hw : Below w0.heap.size w0 w) (h : TaskSl w0 v l) (hl : l.length ≤ 1048576) :
    Calls Tryz.prog 115 #[v] w fun e w' => ∃ v' xs, e = .returned v' ∧ w'.ownsRow 0 119 7 v' l.length xs ∧ Elems (Bor TaskR w0) w' l xs [] ∧ (∀ b ∈ blk v', w.heap.size ≤ b) ∧ Below w.heap.size w w' := by
  obtain ⟨i0, hi0, hz0, hs0, hy0⟩ := info_parts Tryz.infoTask
  obtain ⟨A, c, rfl, hA⟩ := h.form
  obtain ⟨xs, hx1, hx2, hx3⟩ : ∃ xs, (∀ w', Elems (Bor TaskR w0) w' l xs []) ∧ (0 < l.length → ∃ b off, A = some ⟨b, off, none⟩ ∧ CellsAt w b off xs) ∧ xs.length = l.length * 7 := by
    rcases Nat.eq_zero_or_pos l.length with h0 | hp
    · obtain rfl := List.eq_nil_of_length_eq_zero h0
      exact ⟨[], fun _ => ⟨rfl, rfl⟩, fun h => absurd h (by simp), by simp⟩
    · obtain ⟨b, off, rfl, hbw, hat⟩ := hA hp
      obtain ⟨xs, h1, h2, h3⟩ := seq_news (fun _ _ h => taskR_len h) w0 hat
      exact ⟨xs, fun w' => h1.agree (Bor.framed _) (fun _ hb => absurd hb (by simp)), fun _ => ⟨b, off, rfl, h2.below hw hbw⟩, h3⟩
  have H1 := Lib.hid (bor_one (fun _ _ h => taskR_one h) (hx1 w0))
  have HX1 := Lib.hid hx1
  have HX2 := Lib.hid hx2
  have HX3 := Lib.hid hx3
  clear hA h hx1 hx2 hx3 hw
  go_enter Tryz.func115, Tryz.ntmps115
  go_wp2_with (at_builtin; refine wpList_spread _ rfl (.const (.slice none 0 0)) (.tmp 3) 28 rfl 119 i0 _ 7 88 Tryz.underlying28 hi0 hz0 hs0 hy0 rfl (by omega) (.slice none 0 0) 0 [] rfl (World.ownsRow_nil _ _ _ _) A l.length c xs rfl HX3.out HX2.out H1.out (by simp only [maxLen]; omega) (by omega) ?_; intro v' w1 hown1 hg1 hk1)
  have hb1 := none_below hg1
  obtain ⟨hlo, -⟩ := none_blk hk1
  rw [Nat.zero_add, List.nil_append] at hown1
  go_ret
  exact ⟨v', xs, rfl, hown1, HX1.out _, hlo, hb1⟩
set_option maxHeartbeats 1600000 in
theorem copyListNode_any (v : Value) (l : List NV) (w0 w : World) (hw : Below w0.heap.size w0 w) (h : NodeSl w0 v l) (hl : l.length ≤ 1048576) :
    Calls Tryz.prog 116 #[v] w fun e w' => ∃ v' xs, e = .returned v' ∧ w'.ownsRow 0 61 8 v' l.length xs ∧ Elems (Bor NodeR w0) w' l xs [] ∧ (∀ b ∈ blk v', w.heap.size ≤ b) ∧ Below w.heap.size w w' := by
  obtain ⟨i0, hi0, hz0, hs0, hy0⟩ := info_parts Tryz.infoNode
  obtain ⟨A, c, rfl, hA⟩ := h.form
  obtain ⟨xs, hx1, hx2, hx3⟩ : ∃ xs, (∀ w', Elems (Bor NodeR w0) w' l xs []) ∧ (0 < l.length → ∃ b off, A = some ⟨b, off, none⟩ ∧ CellsAt w b off xs) ∧ xs.length = l.length * 8 := by
    rcases Nat.eq_zero_or_pos l.length with h0 | hp
    · obtain rfl := List.eq_nil_of_length_eq_zero h0
      exact ⟨[], fun _ => ⟨rfl, rfl⟩, fun h => absurd h (by simp), by simp⟩
    · obtain ⟨b, off, rfl, hbw, hat⟩ := hA hp
      obtain ⟨xs, h1, h2, h3⟩ := seq_news (fun _ _ h => nodeR_len h) w0 hat
      exact ⟨xs, fun w' => h1.agree (Bor.framed _) (fun _ hb => absurd hb (by simp)), fun _ => ⟨b, off, rfl, h2.below hw hbw⟩, h3⟩
  have H1 := Lib.hid (bor_one (fun _ _ h => nodeR_one h) (hx1 w0))
  have HX1 := Lib.hid hx1
  have HX2 := Lib.hid hx2
  have HX3 := Lib.hid hx3
  clear hA h hx1 hx2 hx3 hw
  go_enter Tryz.func116, Tryz.ntmps116
  go_wp2_with (at_builtin; refine wpList_spread _ rfl (.const (.slice none 0 0)) (.tmp 3) 29 rfl 61 i0 _ 8 96 Tryz.underlying29 hi0 hz0 hs0 hy0 rfl (by omega) (.slice none 0 0) 0 [] rfl (World.ownsRow_nil _ _ _ _) A l.length c xs rfl HX3.out HX2.out H1.out (by simp only [maxLen]; omega) (by omega) ?_; intro v' w1 hown1 hg1 hk1)
  have hb1 := none_below hg1
  obtain ⟨hlo, -⟩ := none_blk hk1
  rw [Nat.zero_add, List.nil_append] at hown1
  go_ret
  exact ⟨v', xs, rfl, hown1, HX1.out _, hlo, hb1⟩
set_option maxHeartbeats 1600000 in
theorem copyListBind_any (v : Value) (l : List BV) (w0 w : World) (hw : Below w0.heap.size w0 w) (h : BindSl w0 v l) (hl : l.length ≤ 1048576) :
    Calls Tryz.prog 117 #[v] w fun e w' => ∃ v' xs, e = .returned v' ∧ w'.ownsRow 0 122 2 v' l.length xs ∧ Elems (Bor BindR w0) w' l xs [] ∧ (∀ b ∈ blk v', w.heap.size ≤ b) ∧ Below w.heap.size w w' := by
  obtain ⟨i0, hi0, hz0, hs0, hy0⟩ := info_parts Tryz.infoBind
  obtain ⟨A, c, rfl, hA⟩ := h.form
  obtain ⟨xs, hx1, hx2, hx3⟩ : ∃ xs, (∀ w', Elems (Bor BindR w0) w' l xs []) ∧ (0 < l.length → ∃ b off, A = some ⟨b, off, none⟩ ∧ CellsAt w b off xs) ∧ xs.length = l.length * 2 := by
    rcases Nat.eq_zero_or_pos l.length with h0 | hp
    · obtain rfl := List.eq_nil_of_length_eq_zero h0
      exact ⟨[], fun _ => ⟨rfl, rfl⟩, fun h => absurd h (by simp), by simp⟩
    · obtain ⟨b, off, rfl, hbw, hat⟩ := hA hp
      obtain ⟨xs, h1, h2, h3⟩ := seq_news (fun _ _ h => bindR_len h) w0 hat
      exact ⟨xs, fun w' => h1.agree (Bor.framed _) (fun _ hb => absurd hb (by simp)), fun _ => ⟨b, off, rfl, h2.below hw hbw⟩, h3⟩
  have H1 := Lib.hid (bor_one (fun _ _ h => bindR_one h) (hx1 w0))
  have HX1 := Lib.hid hx1
  have HX2 := Lib.hid hx2
  have HX3 := Lib.hid hx3
  clear hA h hx1 hx2 hx3 hw
  go_enter Tryz.func117, Tryz.ntmps117
  go_wp2_with (at_builtin; refine wpList_spread _ rfl (.const (.slice none 0 0)) (.tmp 3) 30 rfl 122 i0 _ 2 16 Tryz.underlying30 hi0 hz0 hs0 hy0 rfl (by omega) (.slice none 0 0) 0 [] rfl (World.ownsRow_nil _ _ _ _) A l.length c xs rfl HX3.out HX2.out H1.out (by simp only [maxLen]; omega) (by omega) ?_; intro v' w1 hown1 hg1 hk1)
  have hb1 := none_below hg1
  obtain ⟨hlo, -⟩ := none_blk hk1
  rw [Nat.zero_add, List.nil_append] at hown1
  go_ret
  exact ⟨v', xs, rfl, hown1, HX1.out _, hlo, hb1⟩
set_option maxHeartbeats 1600000 in
theorem copyListLab_any (v : Value) (l : List LV) (w : World) (h : LabSl w v l) (hl : l.length ≤ 1048576) :
    Calls Tryz.prog 114 #[v] w fun e w' => ∃ v', e = .returned v' ∧ LabO w' v' l ∧ (∀ b ∈ blk v', w.heap.size ≤ b) ∧ (blk v').Nodup ∧ Below w.heap.size w w' := by
  obtain ⟨i0, hi0, hz0, hs0, hy0⟩ := info_parts Tryz.infoLab
  obtain ⟨A, c, rfl, _⟩ := h.form
  have HN := Lib.hid h.news
  clear h
  go_enter Tryz.func114, Tryz.ntmps114
  go_wp2_with (at_builtin; refine wpList_spread _ rfl (.const (.slice none 0 0)) (.tmp 3) 59 rfl 110 i0 _ 2 16 Tryz.underlying59 hi0 hz0 hs0 hy0 rfl (by omega) (.slice none 0 0) 0 [] rfl (World.ownsRow_nil _ _ _ _) A l.length c (labL l) rfl (labL_len l) HN.out (labL_one l) (by simp only [maxLen]; omega) (by omega) ?_; intro v' w1 hown1 hg1 hk1)
  have hb1 := none_below hg1
  obtain ⟨hlo, hnd⟩ := none_blk hk1
  rw [Nat.zero_add, List.nil_append] at hown1
  go_ret
  exact ⟨v', rfl, hown1, hlo, hnd, hb1⟩
set_option maxHeartbeats 1600000 in
theorem copyListInt_any (v : Value) (l : List Int) (w : World) (h : IntSl w v l) (hl : l.length ≤ 1048576) :
    Calls Tryz.prog 61 #[v] w fun e w' => ∃ v', e = .returned v' ∧ IntO w' v' l ∧ (∀ b ∈ blk v', w.heap.size ≤ b) ∧ (blk v').Nodup ∧ Below w.heap.size w w' := by
  obtain ⟨i0, hi0, hz0, hs0, hy0⟩ := info_parts Tryz.infoI
  obtain ⟨A, c, rfl, _⟩ := h.form
  have HN := Lib.hid h.news
  clear h
  go_enter Tryz.func61, Tryz.ntmps61
  go_wp2_with (at_builtin; refine wpList_spread _ rfl (.const (.slice none 0 0)) (.tmp 3) 26 rfl 3 i0 _ 1 8 Tryz.underlying26 hi0 hz0 hs0 hy0 rfl (by omega) (.slice none 0 0) 0 [] rfl (World.ownsRow_nil _ _ _ _) A l.length c (intL l) rfl (by simp [intL]) HN.out (intL_one l) (by simp only [maxLen]; omega) (by omega) ?_; intro v' w1 hown1 hg1 hk1)
  have hb1 := none_below hg1
  obtain ⟨hlo, hnd⟩ := none_blk hk1
  rw [Nat.zero_add, List.nil_append] at hown1
  go_ret
  exact ⟨v', rfl, hown1, hlo, hnd, hb1⟩

set_option maxHeartbeats 3200000 in
theorem copyTask_any (t : TV) (cs : List Value) (w : World) (hR : TaskR w t cs) : Calls Tryz.prog 118 #[.agg cs.toArray] w (RetO TaskO w t) := by
  obtain ⟨v1, v2, rfl, sl, si, m1, m2⟩ := hR
  have hc1 := fun w1 hb => copyListLab_any v1 t.want w1 (sl.below hb) m1
  have hc2 := fun w1 hb => copyListInt_any v2 t.tols w1 (si.below hb) m2
  obtain ⟨A1, c1, rfl, _⟩ := sl.form
  obtain ⟨A2, c2, rfl, _⟩ := si.form
  have HC1 := Lib.hid hc1
  have HC2 := Lib.hid hc2
  have M := Lib.hid (And.intro m1 m2)
  clear sl si m1 m2 hc1 hc2
  go_enter Tryz.func118, Tryz.ntmps118
  go_wp2_with fail
  have hX : Below w.heap.size w ((w.alloc (.cells #[.int .i64 t.id, .int .i64 t.prio, .int .i64 t.need.c, .int .i64 t.need.m, .int .i64 t.need.p, .slice A1 t.want.length c1, .slice A2 t.tols.length c2] 119)).alloc (.cells #[.int .i64 0, .int .i64 0, .int .i64 0, .int .i64 0, .int .i64 0, .slice none 0 0, .slice none 0 0] 119)) := (by repeat' (first | exact Below.refl _ _ | refine Below.alloc ?_ ?_ _ | refine Below.setCell ?_ ?_ _ | refine Below.drew ?_ | (apply below_step; assumption) | (simp; done) | (simp; omega) | omega))
  have hXz : ((w.alloc (.cells #[.int .i64 t.id, .int .i64 t.prio, .int .i64 t.need.c, .int .i64 t.need.m, .int .i64 t.need.p, .slice A1 t.want.length c1, .slice A2 t.tols.length c2] 119)).alloc (.cells #[.int .i64 0, .int .i64 0, .int .i64 0, .int .i64 0, .int .i64 0, .slice none 0 0, .slice none 0 0] 119)).heap.size = w.heap.size + 2 := by simp
  refine (HC1.out _ hX).mono ?_
  rintro e w1 ⟨u1, rfl, hL1, hlo1, hnd1, hb1⟩
  obtain ⟨B0, B1⟩ := boxes2 _ _ _ _ _ hb1
  have hC1 := below_of hX hb1
  have hz1 := hb1.size
  rw [hXz] at hz1 hlo1
  obtain ⟨E1, d1, rfl, _⟩ := own_form hL1
  have y5 := B0.cell 5
  have y6 := B0.cell 6
  have yf := B0.frozen
  simp at y5 y6
  have HB0 := Lib.hid B0
  have HB1 := Lib.hid B1
  have HL1 := Lib.hid (And.intro hL1 (And.intro hlo1 hnd1))
  clear B0 B1 hb1 hX hXz hL1 hlo1 hnd1
  go_wp2_with fail
  have hC1' : Below w.heap.size w (w1.setCell ⟨w.heap.size, 5, none⟩ (.slice E1 t.want.length d1)) := hC1.setCell (Nat.le_refl _) _
  have hsz : (w1.setCell ⟨w.heap.size, 5, none⟩ (.slice E1 t.want.length d1)).heap.size = w1.heap.size := by simp [World.setCell]
  refine (HC2.out _ hC1').mono ?_
  rintro e w2 ⟨u2, rfl, hI2, hlo2, hnd2, hb2⟩
  have hC2 := below_of hC1' hb2
  have hz2 := hb2.size
  have B0 := (HB0.out.put 5 (.slice E1 t.want.length d1)).below hb2 (by rw [hsz]; omega)
  have B1 := (HB1.out.far (p := ⟨w.heap.size, 5, none⟩) (by dsimp only; omega) (.slice E1 t.want.length d1)).below hb2 (by rw [hsz]; omega)
  rw [hsz] at hz2 hlo2
  obtain ⟨hL1, hlo1, hnd1⟩ := HL1.out
  have hT1 : TurnB [w.heap.size] w1 w2 := (TurnB.put (TurnB.refl _ _) (List.mem_singleton.2 rfl) _ _).step hb2
  have hl1 := own_lt hL1
  have hL2 := own_agree hL1 (hT1.agree (fun b hb => ⟨hl1 b hb, by have := hlo1 b hb; simp; omega⟩))
  obtain ⟨E2, d2, rfl, _⟩ := own_form hI2
  have y0 := B0.cell 0; have y1 := B0.cell 1; have y2 := B0.cell 2; have y3 := B0.cell 3; have y4 := B0.cell 4; have y5 := B0.cell 5; have y6 := B0.cell 6
  have yf := B0.frozen
  have z0 := B1.cell 0; have z1 := B1.cell 1; have z2 := B1.cell 2; have z3 := B1.cell 3; have z4 := B1.cell 4; have z5 := B1.cell 5; have z6 := B1.cell 6
  have zf := B1.frozen
  simp at y0 y1 y2 y3 y4 y5 y6 z0 z1 z2 z3 z4 z5 z6
  have HB1 := Lib.hid B1
  have HF := Lib.hid (And.intro hL2 (And.intro hI2 (And.intro hlo1 (And.intro hnd1 (And.intro hlo2 (And.intro hnd2 hl1))))))
  clear B0 B1 hb2 hL1 hlo1 hnd1 hT1 hL2 hI2 hlo2 hnd2 HL1 hsz hC1' hl1 HB0
  go_wp2_with fail
  have hZ : BlockIs ((((((((w2.setCell ⟨w.heap.size, 6, none⟩ (.slice E2 t.tols.length d2)).setCell ⟨w.heap.size + 1, 0, none⟩ (.int .i64 t.id)).setCell ⟨w.heap.size + 1, 1, none⟩ (.int .i64 t.prio)).setCell ⟨w.heap.size + 1, 2, none⟩ (.int .i64 t.need.c)).setCell ⟨w.heap.size + 1, 3, none⟩ (.int .i64 t.need.m)).setCell ⟨w.heap.size + 1, 4, none⟩ (.int .i64 t.need.p)).setCell ⟨w.heap.size + 1, 5, none⟩ (.slice E1 t.want.length d1)).setCell ⟨w.heap.size + 1, 6, none⟩ (.slice E2 t.tols.length d2)) (w.heap.size + 1) 119 #[.int .i64 t.id, .int .i64 t.prio, .int .i64 t.need.c, .int .i64 t.need.m, .int .i64 t.need.p, .slice E1 t.want.length d1, .slice E2 t.tols.length d2] := put7 _ _ _ _ _ _ _ (HB1.out.far (p := ⟨w.heap.size, 6, none⟩) (by dsimp only; omega) _) rfl
  have hT : TurnB [w.heap.size, w.heap.size + 1] w2 ((((((((w2.setCell ⟨w.heap.size, 6, none⟩ (.slice E2 t.tols.length d2)).setCell ⟨w.heap.size + 1, 0, none⟩ (.int .i64 t.id)).setCell ⟨w.heap.size + 1, 1, none⟩ (.int .i64 t.prio)).setCell ⟨w.heap.size + 1, 2, none⟩ (.int .i64 t.need.c)).setCell ⟨w.heap.size + 1, 3, none⟩ (.int .i64 t.need.m)).setCell ⟨w.heap.size + 1, 4, none⟩ (.int .i64 t.need.p)).setCell ⟨w.heap.size + 1, 5, none⟩ (.slice E1 t.want.length d1)).setCell ⟨w.heap.size + 1, 6, none⟩ (.slice E2 t.tols.length d2)) :=
    TurnB.putAll (g := w.heap.size + 1) (TurnB.put (g := w.heap.size) (TurnB.refl _ _) (by simp) 6 (.slice E2 t.tols.length d2)) (by simp) 0 [.int .i64 t.id, .int .i64 t.prio, .int .i64 t.need.c, .int .i64 t.need.m, .int .i64 t.need.p, .slice E1 t.want.length d1, .slice E2 t.tols.length d2]
  generalize ((((((((w2.setCell ⟨w.heap.size, 6, none⟩ (.slice E2 t.tols.length d2)).setCell ⟨w.heap.size + 1, 0, none⟩ (.int .i64 t.id)).setCell ⟨w.heap.size + 1, 1, none⟩ (.int .i64 t.prio)).setCell ⟨w.heap.size + 1, 2, none⟩ (.int .i64 t.need.c)).setCell ⟨w.heap.size + 1, 3, none⟩ (.int .i64 t.need.m)).setCell ⟨w.heap.size + 1, 4, none⟩ (.int .i64 t.need.p)).setCell ⟨w.heap.size + 1, 5, none⟩ (.slice E1 t.want.length d1)).setCell ⟨w.heap.size + 1, 6, none⟩ (.slice E2 t.tols.length d2)) = Y at hZ hT ⊢
  have hB : Below w.heap.size w Y := hC2.trans (hT.below hC2.size (by simp))
  have z0 := hZ.cell 0; have z1 := hZ.cell 1; have z2 := hZ.cell 2; have z3 := hZ.cell 3; have z4 := hZ.cell 4; have z5 := hZ.cell 5; have z6 := hZ.cell 6
  simp at z0 z1 z2 z3 z4 z5 z6
  obtain ⟨hL2, hI2, hlo1, hnd1, hlo2, hnd2, hl1⟩ := HF.out
  refine bodyPost_ret (v := .agg #[.int .i64 t.id, .int .i64 t.prio, .int .i64 t.need.c, .int .i64 t.need.m, .int .i64 t.need.p, .slice E1 t.want.length d1, .slice E2 t.tols.length d2]) (by simp [results, Tryz.results118, go_sem, z0, z1, z2, z3, z4, z5, z6]) rfl ⟨_, _, rfl, ⟨_, _, rfl, own_agree hL2 (hT.agree (fun b hb => ⟨own_lt hL2 b hb, by have := hlo1 b hb; simp; omega⟩)), own_agree hI2 (hT.agree (fun b hb => ⟨own_lt hI2 b hb, by have := hlo2 b hb; simp; omega⟩)), rfl, M.out⟩, ?_, ?_, hB⟩
  · rw [List.nodup_append]
    exact ⟨hnd1, hnd2, fun a ha b hb e => by have := hl1 a ha; have := hlo2 b hb; omega⟩
  · intro b hb
    rcases List.mem_append.1 hb with hb | hb
    · have := hlo1 b hb; omega
    · have := hlo2 b hb; omega
set_option maxHeartbeats 3200000 in
theorem copyNode_any (t : NV) (cs : List Value) (w : World) (hR : NodeR w t cs) : Calls Tryz.prog 63 #[.agg cs.toArray] w (RetO NodeO w t) := by
  obtain ⟨v1, v2, rfl, sl, si, m1, m2⟩ := hR
  have hc1 := fun w1 hb => copyListLab_any v1 t.labs w1 (sl.below hb) m1
  have hc2 := fun w1 hb => copyListInt_any v2 t.taints w1 (si.below hb) m2
  obtain ⟨A1, c1, rfl, _⟩ := sl.form
  obtain ⟨A2, c2, rfl, _⟩ := si.form
  have HC1 := Lib.hid hc1
  have HC2 := Lib.hid hc2
  have M := Lib.hid (And.intro m1 m2)
  clear sl si m1 m2 hc1 hc2
  go_enter Tryz.func63, Tryz.ntmps63
  go_wp2_with fail
  have hX : Below w.heap.size w ((w.alloc (.cells #[.int .i64 t.id, .int .i64 t.pool, .int .i64 t.cap.c, .int .i64 t.cap.m, .int .i64 t.cap.p, .slice A1 t.labs.length c1, .slice A2 t.taints.length c2, .bool t.cordon] 61)).alloc (.cells #[.int .i64 0, .int .i64 0, .int .i64 0, .int .i64 0, .int .i64 0, .slice none 0 0, .slice none 0 0, .bool false] 61)) := (by repeat' (first | exact Below.refl _ _ | refine Below.alloc ?_ ?_ _ | refine Below.setCell ?_ ?_ _ | refine Below.drew ?_ | (apply below_step; assumption) | (simp; done) | (simp; omega) | omega))
  have hXz : ((w.alloc (.cells #[.int .i64 t.id, .int .i64 t.pool, .int .i64 t.cap.c, .int .i64 t.cap.m, .int .i64 t.cap.p, .slice A1 t.labs.length c1, .slice A2 t.taints.length c2, .bool t.cordon] 61)).alloc (.cells #[.int .i64 0, .int .i64 0, .int .i64 0, .int .i64 0, .int .i64 0, .slice none 0 0, .slice none 0 0, .bool false] 61)).heap.size = w.heap.size + 2 := by simp
  refine (HC1.out _ hX).mono ?_
  rintro e w1 ⟨u1, rfl, hL1, hlo1, hnd1, hb1⟩
  obtain ⟨B0, B1⟩ := boxes2 _ _ _ _ _ hb1
  have hC1 := below_of hX hb1
  have hz1 := hb1.size
  rw [hXz] at hz1 hlo1
  obtain ⟨E1, d1, rfl, _⟩ := own_form hL1
  have y5 := B0.cell 5
  have y6 := B0.cell 6
  have yf := B0.frozen
  simp at y5 y6
  have HB0 := Lib.hid B0
  have HB1 := Lib.hid B1
  have HL1 := Lib.hid (And.intro hL1 (And.intro hlo1 hnd1))
  clear B0 B1 hb1 hX hXz hL1 hlo1 hnd1
  go_wp2_with fail
  have hC1' : Below w.heap.size w (w1.setCell ⟨w.heap.size, 5, none⟩ (.slice E1 t.labs.length d1)) := hC1.setCell (Nat.le_refl _) _
  have hsz : (w1.setCell ⟨w.heap.size, 5, none⟩ (.slice E1 t.labs.length d1)).heap.size = w1.heap.size := by simp [World.setCell]
  refine (HC2.out _ hC1').mono ?_
  rintro e w2 ⟨u2, rfl, hI2, hlo2, hnd2, hb2⟩
  have hC2 := below_of hC1' hb2
  have hz2 := hb2.size
  have B0 := (HB0.out.put 5 (.slice E1 t.labs.length d1)).below hb2 (by rw [hsz]; omega)
  have B1 := (HB1.out.far (p := ⟨w.heap.size, 5, none⟩) (by dsimp only; omega) (.slice E1 t.labs.length d1)).below hb2 (by rw [hsz]; omega)
  rw [hsz] at hz2 hlo2
  obtain ⟨hL1, hlo1, hnd1⟩ := HL1.out
  have hT1 : TurnB [w.heap.size] w1 w2 := (TurnB.put (TurnB.refl _ _) (List.mem_singleton.2 rfl) _ _).step hb2
  have hl1 := own_lt hL1
  have hL2 := own_agree hL1 (hT1.agree (fun b hb => ⟨hl1 b hb, by have := hlo1 b hb; simp; omega⟩))
  obtain ⟨E2, d2, rfl, _⟩ := own_form hI2
  have y0 := B0.cell 0; have y1 := B0.cell 1; have y2 := B0.cell 2; have y3 := B0.cell 3; have y4 := B0.cell 4; have y5 := B0.cell 5; have y6 := B0.cell 6; have y7 := B0.cell 7
  have yf := B0.frozen
  have z0 := B1.cell 0; have z1 := B1.cell 1; have z2 := B1.cell 2; have z3 := B1.cell 3; have z4 := B1.cell 4; have z5 := B1.cell 5; have z6 := B1.cell 6; have z7 := B1.cell 7
  have zf := B1.frozen
  simp at y0 y1 y2 y3 y4 y5 y6 y7 z0 z1 z2 z3 z4 z5 z6 z7
  have HB1 := Lib.hid B1
  have HF := Lib.hid (And.intro hL2 (And.intro hI2 (And.intro hlo1 (And.intro hnd1 (And.intro hlo2 (And.intro hnd2 hl1))))))
  clear B0 B1 hb2 hL1 hlo1 hnd1 hT1 hL2 hI2 hlo2 hnd2 HL1 hsz hC1' hl1 HB0
  go_wp2_with fail
  have hZ : BlockIs (((((((((w2.setCell ⟨w.heap.size, 6, none⟩ (.slice E2 t.taints.length d2)).setCell ⟨w.heap.size + 1, 0, none⟩ (.int .i64 t.id)).setCell ⟨w.heap.size + 1, 1, none⟩ (.int .i64 t.pool)).setCell ⟨w.heap.size + 1, 2, none⟩ (.int .i64 t.cap.c)).setCell ⟨w.heap.size + 1, 3, none⟩ (.int .i64 t.cap.m)).setCell ⟨w.heap.size + 1, 4, none⟩ (.int .i64 t.cap.p)).setCell ⟨w.heap.size + 1, 5, none⟩ (.slice E1 t.labs.length d1)).setCell ⟨w.heap.size + 1, 6, none⟩ (.slice E2 t.taints.length d2)).setCell ⟨w.heap.size + 1, 7, none⟩ (.bool t.cordon)) (w.heap.size + 1) 61 #[.int .i64 t.id, .int .i64 t.pool, .int .i64 t.cap.c, .int .i64 t.cap.m, .int .i64 t.cap.p, .slice E1 t.labs.length d1, .slice E2 t.taints.length d2, .bool t.cordon] := put8 _ _ _ _ _ _ _ _ (HB1.out.far (p := ⟨w.heap.size, 6, none⟩) (by dsimp only; omega) _) rfl
  have hT : TurnB [w.heap.size, w.heap.size + 1] w2 (((((((((w2.setCell ⟨w.heap.size, 6, none⟩ (.slice E2 t.taints.length d2)).setCell ⟨w.heap.size + 1, 0, none⟩ (.int .i64 t.id)).setCell ⟨w.heap.size + 1, 1, none⟩ (.int .i64 t.pool)).setCell ⟨w.heap.size + 1, 2, none⟩ (.int .i64 t.cap.c)).setCell ⟨w.heap.size + 1, 3, none⟩ (.int .i64 t.cap.m)).setCell ⟨w.heap.size + 1, 4, none⟩ (.int .i64 t.cap.p)).setCell ⟨w.heap.size + 1, 5, none⟩ (.slice E1 t.labs.length d1)).setCell ⟨w.heap.size + 1, 6, none⟩ (.slice E2 t.taints.length d2)).setCell ⟨w.heap.size + 1, 7, none⟩ (.bool t.cordon)) :=
    TurnB.putAll (g := w.heap.size + 1) (TurnB.put (g := w.heap.size) (TurnB.refl _ _) (by simp) 6 (.slice E2 t.taints.length d2)) (by simp) 0 [.int .i64 t.id, .int .i64 t.pool, .int .i64 t.cap.c, .int .i64 t.cap.m, .int .i64 t.cap.p, .slice E1 t.labs.length d1, .slice E2 t.taints.length d2, .bool t.cordon]
  generalize (((((((((w2.setCell ⟨w.heap.size, 6, none⟩ (.slice E2 t.taints.length d2)).setCell ⟨w.heap.size + 1, 0, none⟩ (.int .i64 t.id)).setCell ⟨w.heap.size + 1, 1, none⟩ (.int .i64 t.pool)).setCell ⟨w.heap.size + 1, 2, none⟩ (.int .i64 t.cap.c)).setCell ⟨w.heap.size + 1, 3, none⟩ (.int .i64 t.cap.m)).setCell ⟨w.heap.size + 1, 4, none⟩ (.int .i64 t.cap.p)).setCell ⟨w.heap.size + 1, 5, none⟩ (.slice E1 t.labs.length d1)).setCell ⟨w.heap.size + 1, 6, none⟩ (.slice E2 t.taints.length d2)).setCell ⟨w.heap.size + 1, 7, none⟩ (.bool t.cordon)) = Y at hZ hT ⊢
  have hB : Below w.heap.size w Y := hC2.trans (hT.below hC2.size (by simp))
  have z0 := hZ.cell 0; have z1 := hZ.cell 1; have z2 := hZ.cell 2; have z3 := hZ.cell 3; have z4 := hZ.cell 4; have z5 := hZ.cell 5; have z6 := hZ.cell 6; have z7 := hZ.cell 7
  simp at z0 z1 z2 z3 z4 z5 z6 z7
  obtain ⟨hL2, hI2, hlo1, hnd1, hlo2, hnd2, hl1⟩ := HF.out
  refine bodyPost_ret (v := .agg #[.int .i64 t.id, .int .i64 t.pool, .int .i64 t.cap.c, .int .i64 t.cap.m, .int .i64 t.cap.p, .slice E1 t.labs.length d1, .slice E2 t.taints.length d2, .bool t.cordon]) (by simp [results, Tryz.results63, go_sem, z0, z1, z2, z3, z4, z5, z6, z7]) rfl ⟨_, _, rfl, ⟨_, _, rfl, own_agree hL2 (hT.agree (fun b hb => ⟨own_lt hL2 b hb, by have := hlo1 b hb; simp; omega⟩)), own_agree hI2 (hT.agree (fun b hb => ⟨own_lt hI2 b hb, by have := hlo2 b hb; simp; omega⟩)), rfl, M.out⟩, ?_, ?_, hB⟩
  · rw [List.nodup_append]
    exact ⟨hnd1, hnd2, fun a ha b hb e => by have := hl1 a ha; have := hlo2 b hb; omega⟩
  · intro b hb
    rcases List.mem_append.1 hb with hb | hb
    · have := hlo1 b hb; omega
    · have := hlo2 b hb; omega
end Go.Proofs.YtmkpajjnjgnmkabGreatDoor

namespace Go.Proofs.YtmkpajjnjgnmkabGreatDoor
open Go.RowKit

theorem turn_step {bs : List Nat} {w w' w'' : World} (hb : Below w'.heap.size w' w'') (h : TurnB bs w w') : TurnB bs w w'' := h.step hb
theorem TurnB.alloc {bs : List Nat} {w w' : World} (h : TurnB bs w w') (o : Obj) : TurnB bs w (w'.alloc o) := h.step ((Below.refl _ _).alloc (Nat.le_refl _) o)
theorem TurnB.drew {bs : List Nat} {w w' : World} (h : TurnB bs w w') : TurnB bs w w'.drew := h.step (Below.refl _ _).drew
theorem blk_nodup (v : Value) : (blk v).Nodup := by unfold blk; cases v.ownBlock <;> simp
theorem own_ne {w : World} {t u : TypeId} {m n k l : Nat} {v v' : Value} {xs ys : List Value} (h : w.ownsRow 0 t m v k xs) (h' : w.ownsRow 0 u n v' l ys) (hne : t ≠ u) : ∀ a ∈ blk v, ∀ b ∈ blk v', a ≠ b := by
  intro a ha b hb e
  subst e
  rcases h.2 with ⟨rfl, _⟩ | ⟨g, cap, cur, rfl, _, h1, _⟩
  · simp [blk, Value.ownBlock] at ha
  · rcases h'.2 with ⟨rfl, _⟩ | ⟨g', cap', cur', rfl, _, h2, _⟩
    · simp [blk, Value.ownBlock] at hb
    · simp [blk, Value.ownBlock] at ha hb
      subst ha
      subst hb
      rw [h1] at h2
      simp at h2
      exact hne h2.2
def CutC (X : World) (c : CV) (s3 : Value) (wx : World) : Prop := ∃ (g : Nat) (D0 D1 D2 : Option Addr) (e0 e1 e2 : Nat) (x0 x1 x2 : List Value), s3 = .pointer (some ⟨g, 0, none⟩) ∧ X.heap.size ≤ g ∧
  wx.cell? ⟨g, 0, none⟩ = some (.slice D0 c.tasks.length e0) ∧ wx.cell? ⟨g, 1, none⟩ = some (.slice D1 c.nodes.length e1) ∧ wx.cell? ⟨g, 2, none⟩ = some (.slice D2 c.binds.length e2) ∧
  wx.ownsRow 0 119 7 (.slice D0 c.tasks.length e0) c.tasks.length x0 ∧ Elems (Bor TaskR X) wx c.tasks x0 [] ∧ wx.ownsRow 0 61 8 (.slice D1 c.nodes.length e1) c.nodes.length x1 ∧ Elems (Bor NodeR X) wx c.nodes x1 [] ∧
  wx.ownsRow 0 122 2 (.slice D2 c.binds.length e2) c.binds.length x2 ∧ Elems (Bor BindR X) wx c.binds x2 [] ∧
  (∀ b ∈ blk (.slice D0 c.tasks.length e0), X.heap.size ≤ b ∧ b ≠ g) ∧ (∀ b ∈ blk (.slice D1 c.nodes.length e1), X.heap.size ≤ b ∧ b ≠ g) ∧ (∀ b ∈ blk (.slice D2 c.binds.length e2), X.heap.size ≤ b ∧ b ≠ g) ∧ Below X.heap.size X wx

theorem TurnB.cell {bs : List Nat} {w w' : World} (h : TurnB bs w w') {p : Addr} {v : Value} (hc : w.cell? p = some v) (hn : p.block ∉ bs) : w'.cell? p = some v :=
  (World.cell?_of_block (h.block p.block (World.block_lt_of_cell? _ _ hc) hn)).trans hc
theorem cutC_mk {X wa wb wd wx : World} {c : CV} {g : Nat} {D0 D1 D2 : Option Addr} {e0 e1 e2 : Nat} {x0 x1 x2 : List Value} (hgX : X.heap.size ≤ g)
    (c0 : wx.cell? ⟨g, 0, none⟩ = some (.slice D0 c.tasks.length e0)) (c1 : wx.cell? ⟨g, 1, none⟩ = some (.slice D1 c.nodes.length e1)) (c2 : wx.cell? ⟨g, 2, none⟩ = some (.slice D2 c.binds.length e2))
    (o0 : wa.ownsRow 0 119 7 (.slice D0 c.tasks.length e0) c.tasks.length x0) (r0 : Elems (Bor TaskR X) wa c.tasks x0 []) (o1 : wb.ownsRow 0 61 8 (.slice D1 c.nodes.length e1) c.nodes.length x1) (r1 : Elems (Bor NodeR X) wb c.nodes x1 [])
    (o2 : wd.ownsRow 0 122 2 (.slice D2 c.binds.length e2) c.binds.length x2) (r2 : Elems (Bor BindR X) wd c.binds x2 [])
    (n0 : ∀ b ∈ blk (.slice D0 c.tasks.length e0), X.heap.size ≤ b ∧ b ≠ g) (n1 : ∀ b ∈ blk (.slice D1 c.nodes.length e1), X.heap.size ≤ b ∧ b ≠ g) (n2 : ∀ b ∈ blk (.slice D2 c.binds.length e2), X.heap.size ≤ b ∧ b ≠ g)
    (t0 : TurnB [g] wa wx) (t1 : TurnB [g] wb wx) (t2 : TurnB [g] wd wx) (hB : Below X.heap.size X wx) : CutC X c (.pointer (some ⟨g, 0, none⟩)) wx :=
  ⟨g, D0, D1, D2, e0, e1, e2, x0, x1, x2, rfl, hgX, c0, c1, c2, own_agree o0 (t0.agree (fun b hb => ⟨own_lt o0 b hb, by simpa using (n0 b hb).2⟩)), r0.agree (Bor.framed _) (fun _ hb => absurd hb (by simp)),
    own_agree o1 (t1.agree (fun b hb => ⟨own_lt o1 b hb, by simpa using (n1 b hb).2⟩)), r1.agree (Bor.framed _) (fun _ hb => absurd hb (by simp)), own_agree o2 (t2.agree (fun b hb => ⟨own_lt o2 b hb, by simpa using (n2 b hb).2⟩)), r2.agree (Bor.framed _) (fun _ hb => absurd hb (by simp)), n0, n1, n2, hB⟩
theorem copyC_own {X wc W1 wr : World} {c : CV} {S0 S1 S2 : Value} {x0 x1 x2 : List Value} {bT bN : List Nat}
    (o0 : W1.ownsRow 0 119 7 S0 c.tasks.length x0) (e0 : Elems TaskO W1 c.tasks x0 bT) (nd0 : bT.Nodup) (lo0 : ∀ b ∈ bT, wc.heap.size ≤ b)
    (o1 : wr.ownsRow 0 61 8 S1 c.nodes.length x1) (e1 : Elems NodeO wr c.nodes x1 bN) (nd1 : bN.Nodup) (lo1 : ∀ b ∈ bN, W1.heap.size ≤ b) (t1 : TurnB (blk S1) W1 wr)
    (o2 : W1.ownsRow 0 122 2 S2 c.binds.length x2) (r2 : Elems (Bor BindR X) wc c.binds x2 [])
    (k0 : ∀ b ∈ blk S0, b < wc.heap.size) (k1 : ∀ b ∈ blk S1, b < wc.heap.size) (k2 : ∀ b ∈ blk S2, b < wc.heap.size) (hz : wc.heap.size ≤ W1.heap.size)
    (d01 : ∀ a ∈ blk S0, ∀ b ∈ blk S1, a ≠ b) (d02 : ∀ a ∈ blk S0, ∀ b ∈ blk S2, a ≠ b) (d12 : ∀ a ∈ blk S1, ∀ b ∈ blk S2, a ≠ b)
    (l : c.tasks.length ≤ 1048576 ∧ c.nodes.length ≤ 1048576 ∧ c.binds.length ≤ 1048576) : CluO wr c S0 S1 S2 ((blk S0 ++ bT) ++ ((blk S1 ++ bN) ++ blk S2)) := by
  have q0 := own_agree o0 (t1.agree (fun b hb => ⟨own_lt o0 b hb, fun hx => d01 b hb b hx rfl⟩))
  have q2 := own_agree o2 (t1.agree (fun b hb => ⟨own_lt o2 b hb, fun hx => d12 b hx b hb rfl⟩))
  have g0 := e0.agree TaskO.framed (t1.agree (fun b hb => ⟨elems_lt (fun _ _ _ h => h.lt) e0 b hb, fun hx => by have := k1 b hx; have := lo0 b hb; omega⟩))
  have lt0 : ∀ b ∈ bT, b < W1.heap.size := elems_lt (fun _ _ _ h => h.lt) e0
  refine ⟨_, _, _, ⟨x0, bT, q0, g0, rfl⟩, ⟨x1, bN, o1, e1, rfl⟩, ⟨x2, [], q2, r2.imp (fun _ _ _ h => ⟨h.1, h.2⟩), (List.append_nil _).symm⟩, rfl, ?_, l⟩
  rw [List.nodup_append, List.nodup_append, List.nodup_append, List.nodup_append]
  refine ⟨⟨blk_nodup _, nd0, fun a ha b hb e => by have := k0 a ha; have := lo0 b hb; omega⟩, ⟨⟨blk_nodup _, nd1, fun a ha b hb e => by have := k1 a ha; have := lo1 b hb; omega⟩, blk_nodup _, fun a ha b hb e => ?_⟩, fun a ha b hb e => ?_⟩
  · rcases List.mem_append.1 ha with ha | ha
    · exact d12 a ha b hb e
    · have := lo1 a ha; have := k2 b hb; omega
  · rcases List.mem_append.1 ha with ha | ha <;> rcases List.mem_append.1 hb with hb | hb
    · rcases List.mem_append.1 hb with hb | hb
      · exact d01 a ha b hb e
      · have := k0 a ha; have := lo1 b hb; omega
    · exact d02 a ha b hb e
    · rcases List.mem_append.1 hb with hb | hb
      · have := lo0 a ha; have := k1 b hb; omega
      · have := lt0 a ha; have := lo1 b hb; omega
    · have := lo0 a ha; have := k2 b hb; omega
set_option maxHeartbeats 6400000 in
set_option maxRecDepth 20000 in
theorem copyCluster_any (c : CV) (a0 a1 a2 : Value) (w : World) (hc : CluR w c a0 a1 a2) : Calls Tryz.prog 64 #[.agg #[a0, a1, a2]] w (RetClu w c) := by
  obtain ⟨h0, h1, h2, l0, l1, l2⟩ := hc
  have hT := fun X (hX : Below w.heap.size w X) w1 hw1 => copyListTask_any a0 c.tasks X w1 hw1 (h0.below hX) l0
  have hN := fun X (hX : Below w.heap.size w X) w1 hw1 => copyListNode_any a1 c.nodes X w1 hw1 (h1.below hX) l1
  have hB := fun X (hX : Below w.heap.size w X) w1 hw1 => copyListBind_any a2 c.binds X w1 hw1 (h2.below hX) l2
  obtain ⟨D0, e0, rfl, _⟩ := h0.form
  obtain ⟨D1, e1, rfl, _⟩ := h1.form
  obtain ⟨D2, e2, rfl, _⟩ := h2.form
  have HT := Lib.hid hT
  have HN := Lib.hid hN
  have HB := Lib.hid hB
  have HL := Lib.hid (And.intro l0 (And.intro l1 l2))
  clear h0 h1 h2 hT hN hB
  go_enter Tryz.func64, Tryz.ntmps64
  go_upto_region 1 with fail
  have hX : Below w.heap.size w ((w.alloc (.cells #[.slice D0 c.tasks.length e0, .slice D1 c.nodes.length e1, .slice D2 c.binds.length e2] 32)).alloc (.cells #[.slice none 0 0, .slice none 0 0, .slice none 0 0] 32)) := (by repeat' (first | exact Below.refl _ _ | refine Below.alloc ?_ ?_ _ | refine Below.setCell ?_ ?_ _ | refine Below.drew ?_ | (apply below_step; assumption) | (simp; done) | (simp; omega) | omega))
  have B0 : BlockIs ((w.alloc (.cells #[.slice D0 c.tasks.length e0, .slice D1 c.nodes.length e1, .slice D2 c.binds.length e2] 32)).alloc (.cells #[.slice none 0 0, .slice none 0 0, .slice none 0 0] 32)) w.heap.size 32 #[.slice D0 c.tasks.length e0, .slice D1 c.nodes.length e1, .slice D2 c.binds.length e2] := (BlockIs.new w _ _).alloc _
  have B1 : BlockIs ((w.alloc (.cells #[.slice D0 c.tasks.length e0, .slice D1 c.nodes.length e1, .slice D2 c.binds.length e2] 32)).alloc (.cells #[.slice none 0 0, .slice none 0 0, .slice none 0 0] 32)) (w.heap.size + 1) 32 #[.slice none 0 0, .slice none 0 0, .slice none 0 0] := BlockIs.new' (by simp)
  have hXz : ((w.alloc (.cells #[.slice D0 c.tasks.length e0, .slice D1 c.nodes.length e1, .slice D2 c.binds.length e2] 32)).alloc (.cells #[.slice none 0 0, .slice none 0 0, .slice none 0 0] 32)).heap.size = w.heap.size + 2 := by simp
  generalize ((w.alloc (.cells #[.slice D0 c.tasks.length e0, .slice D1 c.nodes.length e1, .slice D2 c.binds.length e2] 32)).alloc (.cells #[.slice none 0 0, .slice none 0 0, .slice none 0 0] 32)) = X at hX B0 B1 hXz ⊢
  have HB1 := Lib.hid B1
  have HK := Lib.hid (show ∀ w', Below X.heap.size X w' → (fun w' => Below X.heap.size X w' ∧ (∀ o, w'.cell? ⟨w.heap.size, o, none⟩ = (#[.slice D0 c.tasks.length e0, .slice D1 c.nodes.length e1, .slice D2 c.binds.length e2] : Array Value)[o]?)) w' from fun w' hb => ⟨hb, (B0.below hb B0.lt).cell⟩)
  have HTX := Lib.hid (HT.out X hX)
  have HNX := Lib.hid (HN.out X hX)
  have HBX := Lib.hid (HB.out X hX)
  have hXl : w.heap.size + 1 < X.heap.size := by omega
  have HXZ := Lib.hid hXz
  clear B0 B1 HT HN HB hXz
  go_cut [3] (fun s3 wx => CutC X c s3 wx)
  case first =>
    go_region_held3 (fun w' => Below X.heap.size X w' ∧ (∀ o, w'.cell? ⟨w.heap.size, o, none⟩ = (#[.slice D0 c.tasks.length e0, .slice D1 c.nodes.length e1, .slice D2 c.binds.length e2] : Array Value)[o]?))
      (exact HK.out _ (by repeat' (first | exact Below.refl _ _ | refine Below.alloc ?_ ?_ _ | refine Below.setCell ?_ ?_ _ | refine Below.drew ?_ | (apply below_step; assumption) | (simp; done) | (simp; omega) | omega)))
      (first
        | (go_at_call 115; refine (HTX.out _ (by repeat' (first | exact Below.refl _ _ | refine Below.alloc ?_ ?_ _ | refine Below.setCell ?_ ?_ _ | refine Below.drew ?_ | (apply below_step; assumption) | (simp; done) | (simp; omega) | omega))).mono ?_; rintro e wa ⟨v0, x0, rfl, ho0, he0, hl0, hba⟩; obtain ⟨F0, f0, rfl, -⟩ := own_form ho0; obtain ⟨hca, hfa⟩ := bcell hba; have hza := hba.size; (try simp at hza); (first | have hna : X.heap.size < wa.heap.size := by omega | skip))
        | (go_at_call 116; refine (HNX.out _ (by repeat' (first | exact Below.refl _ _ | refine Below.alloc ?_ ?_ _ | refine Below.setCell ?_ ?_ _ | refine Below.drew ?_ | (apply below_step; assumption) | (simp; done) | (simp; omega) | omega))).mono ?_; rintro e wb ⟨v1, x1, rfl, ho1, he1, hl1, hbb⟩; obtain ⟨F1, f1, rfl, -⟩ := own_form ho1; obtain ⟨hcb, hfb⟩ := bcell hbb; have hzb := hbb.size; (try simp at hzb); (first | have hnb : X.heap.size < wb.heap.size := by omega | skip); (first | have hnb2 : wa.heap.size < wb.heap.size := by omega | skip))
        | (go_at_call 117; refine (HBX.out _ (by repeat' (first | exact Below.refl _ _ | refine Below.alloc ?_ ?_ _ | refine Below.setCell ?_ ?_ _ | refine Below.drew ?_ | (apply below_step; assumption) | (simp; done) | (simp; omega) | omega))).mono ?_; rintro e wd ⟨v2, x2, rfl, ho2, he2, hl2, hbd⟩; obtain ⟨F2, f2, rfl, -⟩ := own_form ho2; obtain ⟨hcd, hfd⟩ := bcell hbd; have hzd := hbd.size; (try simp at hzd); (first | have hnd : X.heap.size < wd.heap.size := by omega | skip); (first | have hnd2 : wa.heap.size < wd.heap.size := by omega | skip); (first | have hnd3 : wb.heap.size < wd.heap.size := by omega | skip)))
    all_goals
      go_wp2_with fail
      go_meet
      refine cutC_mk (by omega) (by (first | (simp; done) | (go_simp; done))) (by (first | (simp; done) | (go_simp; done))) (by (first | (simp; done) | (go_simp; done))) ho0 he0 ho1 he1 ho2 he2 (fun b hb => ?_) (fun b hb => ?_) (fun b hb => ?_) (by repeat' (first | with_reducible exact TurnB.refl _ _ | with_reducible refine TurnB.put ?_ (List.mem_singleton.2 rfl) _ _ | with_reducible refine TurnB.drew ?_ | with_reducible refine TurnB.alloc ?_ _ | (with_reducible apply turn_step; with_reducible assumption))) (by repeat' (first | with_reducible exact TurnB.refl _ _ | with_reducible refine TurnB.put ?_ (List.mem_singleton.2 rfl) _ _ | with_reducible refine TurnB.drew ?_ | with_reducible refine TurnB.alloc ?_ _ | (with_reducible apply turn_step; with_reducible assumption))) (by repeat' (first | with_reducible exact TurnB.refl _ _ | with_reducible refine TurnB.put ?_ (List.mem_singleton.2 rfl) _ _ | with_reducible refine TurnB.drew ?_ | with_reducible refine TurnB.alloc ?_ _ | (with_reducible apply turn_step; with_reducible assumption))) (by repeat' (first | exact Below.refl _ _ | refine Below.alloc ?_ ?_ _ | refine Below.setCell ?_ ?_ _ | refine Below.drew ?_ | (apply below_step; assumption) | (simp; done) | (simp; omega) | omega))
      · have h1 := hl0 b hb; have h2 := own_lt ho0 b hb; (try simp at h1); exact ⟨by omega, by omega⟩
      · have h1 := hl1 b hb; have h2 := own_lt ho1 b hb; (try simp at h1); exact ⟨by omega, by omega⟩
      · have h1 := hl2 b hb; have h2 := own_lt ho2 b hb; (try simp at h1); exact ⟨by omega, by omega⟩
  case rest =>
    obtain ⟨g, F0, F1, F2, f0, f1, f2, x0, x1, x2, rfl, hgX, c0, c1, c2, o0, r0, o1, r1, o2, r2, n0, n1, n2, hBx⟩ := hcut
    have hd01 := own_ne o0 o1 (by decide)
    have hd02 := own_ne o0 o2 (by decide)
    have hd12 := own_ne o1 o2 (by decide)
    have BR := HB1.out.below hBx HB1.out.lt
    have hzX := hBx.size
    have hgl := World.block_lt_of_cell? _ _ c0
    have HO := Lib.hid (And.intro o0 (And.intro r0 (And.intro o1 (And.intro r1 (And.intro o2 r2)))))
    have HNN := Lib.hid (And.intro n0 (And.intro n1 n2))
    have HDD := Lib.hid (And.intro hd01 (And.intro hd02 hd12))
    have HBR := Lib.hid BR
    have HBXX := Lib.hid hBx
    have HC0 := Lib.hid (And.intro c0 (And.intro c1 c2))
    clear o0 r0 o1 r1 o2 r2 n0 n1 n2 hd01 hd02 hd12 BR HB1 HK HTX HNX HBX c1 c2 hBx
    simp only at hgl
    go_wp2_with fail
    go_loopw [21] (fun s21 wr => ∃ (k : Nat) (xa xb : List Value) (ba : List Nat), k ≤ c.tasks.length ∧ s21 = .int .i64 k ∧ wr.ownsRow 0 119 7 (.slice F0 c.tasks.length f0) c.tasks.length (xa ++ xb) ∧ Elems TaskO wr (c.tasks.take k) xa ba ∧ Elems (Bor TaskR X) wr (c.tasks.drop k) xb [] ∧ ba.Nodup ∧ (∀ b ∈ ba, wc.heap.size ≤ b) ∧ TurnB (blk (.slice F0 c.tasks.length f0)) wc wr) (fun s21 _ => (c.tasks.length - intOf s21).toNat)
    case atStart => exact ⟨0, [], x0, [], by omega, rfl, HO.out.1, ⟨rfl, rfl⟩, HO.out.2.1, by simp, by simp, TurnB.refl _ _⟩
    case round =>
      obtain ⟨k, xa, xb, ba, hk, rfl, hown, hel, hbo, hnd, hlo, htn⟩ := hrel
      have hzr := htn.size
      have d0 := htn.cell c0 (fun hb => (HNN.out.1 g hb).2 rfl)
      by_cases hlt : k < c.tasks.length
      · obtain ⟨t, ht⟩ : ∃ t, c.tasks[k]? = some t := ⟨_, List.getElem?_eq_getElem hlt⟩
        rw [drop_at ht] at hbo
        obtain ⟨cs, ys, b1, b2, hxb, hbe, ⟨hR, -⟩, hbo2⟩ := hbo
        obtain ⟨-, rfl⟩ : b1 = [] ∧ b2 = [] := by simpa using hbe.symm
        subst hxb
        obtain ⟨gr, cap, e, hgrl, hcell, hfr⟩ := own_cells hown (by omega)
        simp only [Value.slice.injEq] at e
        obtain ⟨rfl, -, rfl⟩ := e
        have hxl : xa.length = k * 7 := by rw [hel.len (fun _ _ _ h => h.len), List.length_take, Nat.min_eq_left hk]
        have HCT := Lib.hid (fun w1 (hb : Below X.heap.size X w1) => copyTask_any t cs w1 (TaskR.kept _ _ _ _ hb hR))
        obtain ⟨v1, v2, rfl, sl, si, m1, m2⟩ := hR
        obtain ⟨A1, c1, rfl, _⟩ := sl.form
        obtain ⟨A2, c2, rfl, _⟩ := si.form
        have u0 := hcell (k * 7 + 0) _ (by rw [List.getElem?_append_right (by omega), hxl, Nat.add_sub_cancel_left]; rfl); have u1 := hcell (k * 7 + 1) _ (by rw [List.getElem?_append_right (by omega), hxl, Nat.add_sub_cancel_left]; rfl); have u2 := hcell (k * 7 + 2) _ (by rw [List.getElem?_append_right (by omega), hxl, Nat.add_sub_cancel_left]; rfl); have u3 := hcell (k * 7 + 3) _ (by rw [List.getElem?_append_right (by omega), hxl, Nat.add_sub_cancel_left]; rfl); have u4 := hcell (k * 7 + 4) _ (by rw [List.getElem?_append_right (by omega), hxl, Nat.add_sub_cancel_left]; rfl); have u5 := hcell (k * 7 + 5) _ (by rw [List.getElem?_append_right (by omega), hxl, Nat.add_sub_cancel_left]; rfl); have u6 := hcell (k * 7 + 6) _ (by rw [List.getElem?_append_right (by omega), hxl, Nat.add_sub_cancel_left]; rfl)
        simp only [Nat.add_zero] at u0
        have hlti : (k : Int) < (c.tasks.length : Int) := by omega
        have hk0 : (0 : Int) ≤ (k : Int) := by omega
        have hgg : gr ≠ g := (HNN.out.1 gr (by simp [blk, Value.ownBlock])).2
        have hXr : Below X.heap.size X wr := HBXX.out.trans (htn.below hzX (fun b hb => (HNN.out.1 b hb).1))
        have HOW := Lib.hid (And.intro hown (And.intro hel (And.intro hbo2 (And.intro hxl ht))))
        have HND := Lib.hid (And.intro hnd hlo)
        have HTN := Lib.hid htn
        clear hbe hown hel hbo2 hxl ht hnd hlo htn hcell sl si m1 m2
        go_wp2_with fail
        have hY : Below wr.heap.size wr (wr.alloc (.cells #[.int .i64 t.id, .int .i64 t.prio, .int .i64 t.need.c, .int .i64 t.need.m, .int .i64 t.need.p, .slice A1 t.want.length c1, .slice A2 t.tols.length c2] 119)) := (by repeat' (first | exact Below.refl _ _ | refine Below.alloc ?_ ?_ _ | refine Below.setCell ?_ ?_ _ | refine Below.drew ?_ | (apply below_step; assumption) | (simp; done) | (simp; omega) | omega))
        have BY := BlockIs.new wr 119 #[.int .i64 t.id, .int .i64 t.prio, .int .i64 t.need.c, .int .i64 t.need.m, .int .i64 t.need.p, .slice A1 t.want.length c1, .slice A2 t.tols.length c2]
        have hYl : wr.heap.size < (wr.alloc (.cells #[.int .i64 t.id, .int .i64 t.prio, .int .i64 t.need.c, .int .i64 t.need.m, .int .i64 t.need.p, .slice A1 t.want.length c1, .slice A2 t.tols.length c2] 119)).heap.size := by simp
        have p0 := (World.cell?_alloc_lt wr (.cells #[.int .i64 t.id, .int .i64 t.prio, .int .i64 t.need.c, .int .i64 t.need.m, .int .i64 t.need.p, .slice A1 t.want.length c1, .slice A2 t.tols.length c2] 119) ⟨gr, _, none⟩ hgrl).trans u0; have p1 := (World.cell?_alloc_lt wr (.cells #[.int .i64 t.id, .int .i64 t.prio, .int .i64 t.need.c, .int .i64 t.need.m, .int .i64 t.need.p, .slice A1 t.want.length c1, .slice A2 t.tols.length c2] 119) ⟨gr, _, none⟩ hgrl).trans u1; have p2 := (World.cell?_alloc_lt wr (.cells #[.int .i64 t.id, .int .i64 t.prio, .int .i64 t.need.c, .int .i64 t.need.m, .int .i64 t.need.p, .slice A1 t.want.length c1, .slice A2 t.tols.length c2] 119) ⟨gr, _, none⟩ hgrl).trans u2; have p3 := (World.cell?_alloc_lt wr (.cells #[.int .i64 t.id, .int .i64 t.prio, .int .i64 t.need.c, .int .i64 t.need.m, .int .i64 t.need.p, .slice A1 t.want.length c1, .slice A2 t.tols.length c2] 119) ⟨gr, _, none⟩ hgrl).trans u3; have p4 := (World.cell?_alloc_lt wr (.cells #[.int .i64 t.id, .int .i64 t.prio, .int .i64 t.need.c, .int .i64 t.need.m, .int .i64 t.need.p, .slice A1 t.want.length c1, .slice A2 t.tols.length c2] 119) ⟨gr, _, none⟩ hgrl).trans u4; have p5 := (World.cell?_alloc_lt wr (.cells #[.int .i64 t.id, .int .i64 t.prio, .int .i64 t.need.c, .int .i64 t.need.m, .int .i64 t.need.p, .slice A1 t.want.length c1, .slice A2 t.tols.length c2] 119) ⟨gr, _, none⟩ hgrl).trans u5; have p6 := (World.cell?_alloc_lt wr (.cells #[.int .i64 t.id, .int .i64 t.prio, .int .i64 t.need.c, .int .i64 t.need.m, .int .i64 t.need.p, .slice A1 t.want.length c1, .slice A2 t.tols.length c2] 119) ⟨gr, _, none⟩ hgrl).trans u6
        have pf : ∀ o, (wr.alloc (.cells #[.int .i64 t.id, .int .i64 t.prio, .int .i64 t.need.c, .int .i64 t.need.m, .int .i64 t.need.p, .slice A1 t.want.length c1, .slice A2 t.tols.length c2] 119)).frozen? ⟨gr, o, none⟩ = false := fun o => (hY.frozen (p := ⟨gr, o, none⟩) hgrl).trans (hfr o)
        have e0' := (World.cell?_alloc_lt wr (.cells #[.int .i64 t.id, .int .i64 t.prio, .int .i64 t.need.c, .int .i64 t.need.m, .int .i64 t.need.p, .slice A1 t.want.length c1, .slice A2 t.tols.length c2] 119) ⟨g, _, none⟩ (World.block_lt_of_cell? _ _ d0)).trans d0
        generalize (wr.alloc (.cells #[.int .i64 t.id, .int .i64 t.prio, .int .i64 t.need.c, .int .i64 t.need.m, .int .i64 t.need.p, .slice A1 t.want.length c1, .slice A2 t.tols.length c2] 119)) = Y at hY BY hYl p0 p1 p2 p3 p4 p5 p6 pf e0' ⊢
        have hXY := hXr.trans (hY.mono hXr.size)
        have hgrX : X.heap.size ≤ gr := (HNN.out.1 gr (by simp [blk, Value.ownBlock])).1
        have hgrY : gr < Y.heap.size := by omega
        have HKR := Lib.hid (show ∀ w', TurnB [gr] Y w' → (fun w' => Below X.heap.size X w' ∧ w'.cell? ⟨g, 0, none⟩ = some (.slice (some ⟨gr, 0, none⟩) c.tasks.length f0) ∧ (∀ o, w'.cell? ⟨wr.heap.size, o, none⟩ = (#[.int .i64 t.id, .int .i64 t.prio, .int .i64 t.need.c, .int .i64 t.need.m, .int .i64 t.need.p, .slice A1 t.want.length c1, .slice A2 t.tols.length c2] : Array Value)[o]?)) w' from fun w' ht => ⟨hXY.trans (ht.below hXY.size (by simp; omega)), ht.cell e0' (by simpa using hgg.symm), (BY.turn ht (by simp; omega)).cell⟩)
        have HYY := Lib.hid hY
        clear u0 u1 u2 u3 u4 u5 u6 e0' d0 BY hXr hY
        go_region_held3 (fun w' => Below X.heap.size X w' ∧ w'.cell? ⟨g, 0, none⟩ = some (.slice (some ⟨gr, 0, none⟩) c.tasks.length f0) ∧ (∀ o, w'.cell? ⟨wr.heap.size, o, none⟩ = (#[.int .i64 t.id, .int .i64 t.prio, .int .i64 t.need.c, .int .i64 t.need.m, .int .i64 t.need.p, .slice A1 t.want.length c1, .slice A2 t.tols.length c2] : Array Value)[o]?))
          (exact HKR.out _ (by repeat' (first | with_reducible exact TurnB.refl _ _ | with_reducible refine TurnB.put ?_ (List.mem_singleton.2 rfl) _ _ | with_reducible refine TurnB.drew ?_ | with_reducible refine TurnB.alloc ?_ _ | (with_reducible apply turn_step; with_reducible assumption))))
          (first | (go_at_call 118; refine (HCT.out _ (by first | exact hXY | exact Below.drew hXY)).mono ?_; rintro e w3 ⟨ds, bx, rfl, hN3, hnd3, hlo3, hb3⟩; have HN3 := Lib.hid (And.intro hN3 (And.intro hnd3 hlo3)); obtain ⟨v3, v4, rfl, n3, n4, -⟩ := hN3; obtain ⟨E1, d1, rfl, -⟩ := own_form n3; obtain ⟨E2, d2, rfl, -⟩ := own_form n4; clear n3 n4 hnd3 hlo3; have x0 := (hb3.cell (p := ⟨gr, k * 7 + 0, none⟩) (by simpa using hgrY)).trans p0; have x1 := (hb3.cell (p := ⟨gr, k * 7 + 1, none⟩) (by simpa using hgrY)).trans p1; have x2 := (hb3.cell (p := ⟨gr, k * 7 + 2, none⟩) (by simpa using hgrY)).trans p2; have x3 := (hb3.cell (p := ⟨gr, k * 7 + 3, none⟩) (by simpa using hgrY)).trans p3; have x4 := (hb3.cell (p := ⟨gr, k * 7 + 4, none⟩) (by simpa using hgrY)).trans p4; have x5 := (hb3.cell (p := ⟨gr, k * 7 + 5, none⟩) (by simpa using hgrY)).trans p5; have x6 := (hb3.cell (p := ⟨gr, k * 7 + 6, none⟩) (by simpa using hgrY)).trans p6; (try simp only [Nat.add_zero] at x0); have xf := fun o => (hb3.frozen (p := ⟨gr, o, none⟩) (by simpa using hgrY)).trans (pf o); have hz3 := hb3.size; (try simp at hz3)))
        all_goals
          go_wp2_with fail
          go_roundw
          case rel =>
            obtain ⟨hown, hel, hbo2, hxl, ht⟩ := HOW.out
            obtain ⟨hN, hnd3, hlo3⟩ := HN3.out
            obtain ⟨hnd, hlo⟩ := HND.out
            have hW3 : Below wr.heap.size wr w3 := HYY.out.trans (((Below.refl Y.heap.size Y).drew.trans hb3).mono HYY.out.size)
            have hO3 := own_agree hown (Agree.of_below hW3 (own_lt hown))
            have st := own_put (v := .slice (some ⟨gr, 0, none⟩) c.tasks.length f0) (g := gr) (xa := xa) (cs := [.int .i64 t.id, .int .i64 t.prio, .int .i64 t.need.c, .int .i64 t.need.m, .int .i64 t.need.p, .slice A1 t.want.length c1, .slice A2 t.tols.length c2]) (ds := [.int .i64 t.id, .int .i64 t.prio, .int .i64 t.need.c, .int .i64 t.need.m, .int .i64 t.need.p, .slice E1 t.want.length d1, .slice E2 t.tols.length d2]) (xb := ys) hO3 rfl rfl
            rw [hxl] at st
            have hP : TurnB [gr] w3 (putAll w3 gr (k * 7) [.int .i64 t.id, .int .i64 t.prio, .int .i64 t.need.c, .int .i64 t.need.m, .int .i64 t.need.p, .slice E1 t.want.length d1, .slice E2 t.tols.length d2]) := (TurnB.refl _ _).putAll (List.mem_singleton.2 rfl) _ _
            have hE3 := hel.agree TaskO.framed (Agree.of_below hW3 (elems_lt (fun _ _ _ h => h.lt) hel))
            have hgw := own_lt HO.out.1 gr (by simp [blk, Value.ownBlock])
            have hEP := hE3.agree TaskO.framed (hP.agree (fun b hb => ⟨elems_lt (fun _ _ _ h => h.lt) hE3 b hb, by have := hlo b hb; simp; omega⟩))
            have hlo3' : ∀ b ∈ bx, Y.heap.size ≤ b := fun b hb => by have := hlo3 b hb; simpa using this
            have hNP := TaskO.framed _ _ _ _ _ hN (hP.agree (fun b hb => ⟨hN.lt b hb, by have := hlo3' b hb; simp; omega⟩))
            have hYs := HYY.out.size
            refine ⟨k + 1, xa ++ [.int .i64 t.id, .int .i64 t.prio, .int .i64 t.need.c, .int .i64 t.need.m, .int .i64 t.need.p, .slice E1 t.want.length d1, .slice E2 t.tols.length d2], ys, ba ++ bx, by omega, by go_num, by rw [List.append_assoc]; exact st, by rw [take_at ht]; exact hEP.snoc hNP, hbo2.agree (Bor.framed _) (fun _ hb => absurd hb (by simp)), ?_, ?_, ?_⟩
            · rw [List.nodup_append]
              exact ⟨hnd, hnd3, fun a ha b hb e => by have := elems_lt (fun _ _ _ h => h.lt) hel a ha; have := hlo3' b hb; omega⟩
            · intro b hb
              rcases List.mem_append.1 hb with hb | hb
              · exact hlo b hb
              · have := hlo3' b hb; omega
            · exact (HTN.out.step hW3).trans (hP.mono (by simp [blk, Value.ownBlock]))
          case measure => simp [intOf]; omega
      · have hkl : k = c.tasks.length := by omega
        subst hkl
        rw [List.take_length] at hel
        rw [List.drop_length] at hbo
        obtain ⟨rfl, -⟩ := hbo
        rw [List.append_nil] at hown
        have hXW : Below X.heap.size X wr := HBXX.out.trans (htn.below hzX (fun b hb => (HNN.out.1 b hb).1))
        have hd1 := htn.cell HC0.out.2.1 (fun hb => (HNN.out.1 g hb).2 rfl)
        have hd2 := htn.cell HC0.out.2.2 (fun hb => (HNN.out.1 g hb).2 rfl)
        have hn1 : wr.ownsRow 0 61 8 (.slice F1 c.nodes.length f1) c.nodes.length x1 := own_agree HO.out.2.2.1 (htn.agree (fun b hb => ⟨own_lt HO.out.2.2.1 b hb, fun hx => HDD.out.1 b hx b hb rfl⟩))
        have hn2 : wr.ownsRow 0 122 2 (.slice F2 c.binds.length f2) c.binds.length x2 := own_agree HO.out.2.2.2.2.1 (htn.agree (fun b hb => ⟨own_lt HO.out.2.2.2.2.1 b hb, fun hx => HDD.out.2.1 b hx b hb rfl⟩))
        have hbr1 := HBR.out.turn htn (fun hb => by have := (HNN.out.1 _ hb).1; omega)
        have hzX1 : X.heap.size ≤ wr.heap.size := hXW.size
        have HT1 := Lib.hid (And.intro hown (And.intro hel (And.intro hnd (And.intro hlo htn))))
        have HO1 := Lib.hid (And.intro hn1 hn2)
        have HBX1 := Lib.hid hXW
        have HC1 := Lib.hid (And.intro d0 (And.intro hd1 hd2))
        have HBR1 := Lib.hid hbr1
        obtain ⟨baT, hbaT⟩ : ∃ b, b = ba := ⟨_, rfl⟩
        subst hbaT
        obtain ⟨W1, hW1⟩ : ∃ W1, W1 = wr := ⟨_, rfl⟩
        subst hW1
        clear hown hel hnd hlo htn hn1 hn2 hXW hbr1 hd2 d0 c0
        go_wp2_with fail
        go_loopw [36] (fun s36 wr => ∃ (k : Nat) (xa xb : List Value) (ba : List Nat), k ≤ c.nodes.length ∧ s36 = .int .i64 k ∧ wr.ownsRow 0 61 8 (.slice F1 c.nodes.length f1) c.nodes.length (xa ++ xb) ∧ Elems NodeO wr (c.nodes.take k) xa ba ∧ Elems (Bor NodeR X) wr (c.nodes.drop k) xb [] ∧ ba.Nodup ∧ (∀ b ∈ ba, W1.heap.size ≤ b) ∧ TurnB (blk (.slice F1 c.nodes.length f1)) W1 wr) (fun s36 _ => (c.nodes.length - intOf s36).toNat)
        case atStart => exact ⟨0, [], x1, [], by omega, rfl, HO1.out.1, ⟨rfl, rfl⟩, HO.out.2.2.2.1.agree (Bor.framed _) (fun _ hb => absurd hb (by simp)), by simp, by simp, TurnB.refl _ _⟩
        case round =>
          obtain ⟨k, xa, xb, ba, hk, rfl, hown, hel, hbo, hnd, hlo, htn⟩ := hrel
          have hzr := htn.size
          have d0 := htn.cell HC1.out.2.1 (fun hb => (HNN.out.2.1 g hb).2 rfl)
          by_cases hlt : k < c.nodes.length
          · obtain ⟨t, ht⟩ : ∃ t, c.nodes[k]? = some t := ⟨_, List.getElem?_eq_getElem hlt⟩
            rw [drop_at ht] at hbo
            obtain ⟨cs, ys, b1, b2, hxb, hbe, ⟨hR, -⟩, hbo2⟩ := hbo
            obtain ⟨-, rfl⟩ : b1 = [] ∧ b2 = [] := by simpa using hbe.symm
            subst hxb
            obtain ⟨gr, cap, e, hgrl, hcell, hfr⟩ := own_cells hown (by omega)
            simp only [Value.slice.injEq] at e
            obtain ⟨rfl, -, rfl⟩ := e
            have hxl : xa.length = k * 8 := by rw [hel.len (fun _ _ _ h => h.len), List.length_take, Nat.min_eq_left hk]
            have HCT := Lib.hid (fun w1 (hb : Below X.heap.size X w1) => copyNode_any t cs w1 (NodeR.kept _ _ _ _ hb hR))
            obtain ⟨v1, v2, rfl, sl, si, m1, m2⟩ := hR
            obtain ⟨A1, c1, rfl, _⟩ := sl.form
            obtain ⟨A2, c2, rfl, _⟩ := si.form
            have u0 := hcell (k * 8 + 0) _ (by rw [List.getElem?_append_right (by omega), hxl, Nat.add_sub_cancel_left]; rfl); have u1 := hcell (k * 8 + 1) _ (by rw [List.getElem?_append_right (by omega), hxl, Nat.add_sub_cancel_left]; rfl); have u2 := hcell (k * 8 + 2) _ (by rw [List.getElem?_append_right (by omega), hxl, Nat.add_sub_cancel_left]; rfl); have u3 := hcell (k * 8 + 3) _ (by rw [List.getElem?_append_right (by omega), hxl, Nat.add_sub_cancel_left]; rfl); have u4 := hcell (k * 8 + 4) _ (by rw [List.getElem?_append_right (by omega), hxl, Nat.add_sub_cancel_left]; rfl); have u5 := hcell (k * 8 + 5) _ (by rw [List.getElem?_append_right (by omega), hxl, Nat.add_sub_cancel_left]; rfl); have u6 := hcell (k * 8 + 6) _ (by rw [List.getElem?_append_right (by omega), hxl, Nat.add_sub_cancel_left]; rfl); have u7 := hcell (k * 8 + 7) _ (by rw [List.getElem?_append_right (by omega), hxl, Nat.add_sub_cancel_left]; rfl)
            simp only [Nat.add_zero] at u0
            have hlti : (k : Int) < (c.nodes.length : Int) := by omega
            have hk0 : (0 : Int) ≤ (k : Int) := by omega
            have hgg : gr ≠ g := (HNN.out.2.1 gr (by simp [blk, Value.ownBlock])).2
            have hXr : Below X.heap.size X wr := HBX1.out.trans (htn.below hzX1 (fun b hb => (HNN.out.2.1 b hb).1))
            have HOW := Lib.hid (And.intro hown (And.intro hel (And.intro hbo2 (And.intro hxl ht))))
            have HND := Lib.hid (And.intro hnd hlo)
            have HTN := Lib.hid htn
            clear hbe hown hel hbo2 hxl ht hnd hlo htn hcell sl si m1 m2
            go_wp2_with fail
            have hY : Below wr.heap.size wr (wr.alloc (.cells #[.int .i64 t.id, .int .i64 t.pool, .int .i64 t.cap.c, .int .i64 t.cap.m, .int .i64 t.cap.p, .slice A1 t.labs.length c1, .slice A2 t.taints.length c2, .bool t.cordon] 61)) := (by repeat' (first | exact Below.refl _ _ | refine Below.alloc ?_ ?_ _ | refine Below.setCell ?_ ?_ _ | refine Below.drew ?_ | (apply below_step; assumption) | (simp; done) | (simp; omega) | omega))
            have BY := BlockIs.new wr 61 #[.int .i64 t.id, .int .i64 t.pool, .int .i64 t.cap.c, .int .i64 t.cap.m, .int .i64 t.cap.p, .slice A1 t.labs.length c1, .slice A2 t.taints.length c2, .bool t.cordon]
            have hYl : wr.heap.size < (wr.alloc (.cells #[.int .i64 t.id, .int .i64 t.pool, .int .i64 t.cap.c, .int .i64 t.cap.m, .int .i64 t.cap.p, .slice A1 t.labs.length c1, .slice A2 t.taints.length c2, .bool t.cordon] 61)).heap.size := by simp
            have p0 := (World.cell?_alloc_lt wr (.cells #[.int .i64 t.id, .int .i64 t.pool, .int .i64 t.cap.c, .int .i64 t.cap.m, .int .i64 t.cap.p, .slice A1 t.labs.length c1, .slice A2 t.taints.length c2, .bool t.cordon] 61) ⟨gr, _, none⟩ hgrl).trans u0; have p1 := (World.cell?_alloc_lt wr (.cells #[.int .i64 t.id, .int .i64 t.pool, .int .i64 t.cap.c, .int .i64 t.cap.m, .int .i64 t.cap.p, .slice A1 t.labs.length c1, .slice A2 t.taints.length c2, .bool t.cordon] 61) ⟨gr, _, none⟩ hgrl).trans u1; have p2 := (World.cell?_alloc_lt wr (.cells #[.int .i64 t.id, .int .i64 t.pool, .int .i64 t.cap.c, .int .i64 t.cap.m, .int .i64 t.cap.p, .slice A1 t.labs.length c1, .slice A2 t.taints.length c2, .bool t.cordon] 61) ⟨gr, _, none⟩ hgrl).trans u2; have p3 := (World.cell?_alloc_lt wr (.cells #[.int .i64 t.id, .int .i64 t.pool, .int .i64 t.cap.c, .int .i64 t.cap.m, .int .i64 t.cap.p, .slice A1 t.labs.length c1, .slice A2 t.taints.length c2, .bool t.cordon] 61) ⟨gr, _, none⟩ hgrl).trans u3; have p4 := (World.cell?_alloc_lt wr (.cells #[.int .i64 t.id, .int .i64 t.pool, .int .i64 t.cap.c, .int .i64 t.cap.m, .int .i64 t.cap.p, .slice A1 t.labs.length c1, .slice A2 t.taints.length c2, .bool t.cordon] 61) ⟨gr, _, none⟩ hgrl).trans u4; have p5 := (World.cell?_alloc_lt wr (.cells #[.int .i64 t.id, .int .i64 t.pool, .int .i64 t.cap.c, .int .i64 t.cap.m, .int .i64 t.cap.p, .slice A1 t.labs.length c1, .slice A2 t.taints.length c2, .bool t.cordon] 61) ⟨gr, _, none⟩ hgrl).trans u5; have p6 := (World.cell?_alloc_lt wr (.cells #[.int .i64 t.id, .int .i64 t.pool, .int .i64 t.cap.c, .int .i64 t.cap.m, .int .i64 t.cap.p, .slice A1 t.labs.length c1, .slice A2 t.taints.length c2, .bool t.cordon] 61) ⟨gr, _, none⟩ hgrl).trans u6; have p7 := (World.cell?_alloc_lt wr (.cells #[.int .i64 t.id, .int .i64 t.pool, .int .i64 t.cap.c, .int .i64 t.cap.m, .int .i64 t.cap.p, .slice A1 t.labs.length c1, .slice A2 t.taints.length c2, .bool t.cordon] 61) ⟨gr, _, none⟩ hgrl).trans u7
            have pf : ∀ o, (wr.alloc (.cells #[.int .i64 t.id, .int .i64 t.pool, .int .i64 t.cap.c, .int .i64 t.cap.m, .int .i64 t.cap.p, .slice A1 t.labs.length c1, .slice A2 t.taints.length c2, .bool t.cordon] 61)).frozen? ⟨gr, o, none⟩ = false := fun o => (hY.frozen (p := ⟨gr, o, none⟩) hgrl).trans (hfr o)
            have e0' := (World.cell?_alloc_lt wr (.cells #[.int .i64 t.id, .int .i64 t.pool, .int .i64 t.cap.c, .int .i64 t.cap.m, .int .i64 t.cap.p, .slice A1 t.labs.length c1, .slice A2 t.taints.length c2, .bool t.cordon] 61) ⟨g, _, none⟩ (World.block_lt_of_cell? _ _ d0)).trans d0
            generalize (wr.alloc (.cells #[.int .i64 t.id, .int .i64 t.pool, .int .i64 t.cap.c, .int .i64 t.cap.m, .int .i64 t.cap.p, .slice A1 t.labs.length c1, .slice A2 t.taints.length c2, .bool t.cordon] 61)) = Y at hY BY hYl p0 p1 p2 p3 p4 p5 p6 p7 pf e0' ⊢
            have hXY := hXr.trans (hY.mono hXr.size)
            have hgrX : X.heap.size ≤ gr := (HNN.out.2.1 gr (by simp [blk, Value.ownBlock])).1
            have hgrY : gr < Y.heap.size := by omega
            have HKR := Lib.hid (show ∀ w', TurnB [gr] Y w' → (fun w' => Below X.heap.size X w' ∧ w'.cell? ⟨g, 1, none⟩ = some (.slice (some ⟨gr, 0, none⟩) c.nodes.length f1) ∧ (∀ o, w'.cell? ⟨wr.heap.size, o, none⟩ = (#[.int .i64 t.id, .int .i64 t.pool, .int .i64 t.cap.c, .int .i64 t.cap.m, .int .i64 t.cap.p, .slice A1 t.labs.length c1, .slice A2 t.taints.length c2, .bool t.cordon] : Array Value)[o]?)) w' from fun w' ht => ⟨hXY.trans (ht.below hXY.size (by simp; omega)), ht.cell e0' (by simpa using hgg.symm), (BY.turn ht (by simp; omega)).cell⟩)
            have HYY := Lib.hid hY
            clear u0 u1 u2 u3 u4 u5 u6 u7 e0' d0 BY hXr hY
            go_region_held3 (fun w' => Below X.heap.size X w' ∧ w'.cell? ⟨g, 1, none⟩ = some (.slice (some ⟨gr, 0, none⟩) c.nodes.length f1) ∧ (∀ o, w'.cell? ⟨wr.heap.size, o, none⟩ = (#[.int .i64 t.id, .int .i64 t.pool, .int .i64 t.cap.c, .int .i64 t.cap.m, .int .i64 t.cap.p, .slice A1 t.labs.length c1, .slice A2 t.taints.length c2, .bool t.cordon] : Array Value)[o]?))
              (exact HKR.out _ (by repeat' (first | with_reducible exact TurnB.refl _ _ | with_reducible refine TurnB.put ?_ (List.mem_singleton.2 rfl) _ _ | with_reducible refine TurnB.drew ?_ | with_reducible refine TurnB.alloc ?_ _ | (with_reducible apply turn_step; with_reducible assumption))))
              (first | (go_at_call 63; refine (HCT.out _ (by first | exact hXY | exact Below.drew hXY)).mono ?_; rintro e w3 ⟨ds, bx, rfl, hN3, hnd3, hlo3, hb3⟩; have HN3 := Lib.hid (And.intro hN3 (And.intro hnd3 hlo3)); obtain ⟨v3, v4, rfl, n3, n4, -⟩ := hN3; obtain ⟨E1, d1, rfl, -⟩ := own_form n3; obtain ⟨E2, d2, rfl, -⟩ := own_form n4; clear n3 n4 hnd3 hlo3; have x0 := (hb3.cell (p := ⟨gr, k * 8 + 0, none⟩) (by simpa using hgrY)).trans p0; have x1 := (hb3.cell (p := ⟨gr, k * 8 + 1, none⟩) (by simpa using hgrY)).trans p1; have x2 := (hb3.cell (p := ⟨gr, k * 8 + 2, none⟩) (by simpa using hgrY)).trans p2; have x3 := (hb3.cell (p := ⟨gr, k * 8 + 3, none⟩) (by simpa using hgrY)).trans p3; have x4 := (hb3.cell (p := ⟨gr, k * 8 + 4, none⟩) (by simpa using hgrY)).trans p4; have x5 := (hb3.cell (p := ⟨gr, k * 8 + 5, none⟩) (by simpa using hgrY)).trans p5; have x6 := (hb3.cell (p := ⟨gr, k * 8 + 6, none⟩) (by simpa using hgrY)).trans p6; have x7 := (hb3.cell (p := ⟨gr, k * 8 + 7, none⟩) (by simpa using hgrY)).trans p7; (try simp only [Nat.add_zero] at x0); have xf := fun o => (hb3.frozen (p := ⟨gr, o, none⟩) (by simpa using hgrY)).trans (pf o); have hz3 := hb3.size; (try simp at hz3)))
            all_goals
              go_wp2_with fail
              go_roundw
              case rel =>
                obtain ⟨hown, hel, hbo2, hxl, ht⟩ := HOW.out
                obtain ⟨hN, hnd3, hlo3⟩ := HN3.out
                obtain ⟨hnd, hlo⟩ := HND.out
                have hW3 : Below wr.heap.size wr w3 := HYY.out.trans (((Below.refl Y.heap.size Y).drew.trans hb3).mono HYY.out.size)
                have hO3 := own_agree hown (Agree.of_below hW3 (own_lt hown))
                have st := own_put (v := .slice (some ⟨gr, 0, none⟩) c.nodes.length f1) (g := gr) (xa := xa) (cs := [.int .i64 t.id, .int .i64 t.pool, .int .i64 t.cap.c, .int .i64 t.cap.m, .int .i64 t.cap.p, .slice A1 t.labs.length c1, .slice A2 t.taints.length c2, .bool t.cordon]) (ds := [.int .i64 t.id, .int .i64 t.pool, .int .i64 t.cap.c, .int .i64 t.cap.m, .int .i64 t.cap.p, .slice E1 t.labs.length d1, .slice E2 t.taints.length d2, .bool t.cordon]) (xb := ys) hO3 rfl rfl
                rw [hxl] at st
                have hP : TurnB [gr] w3 (putAll w3 gr (k * 8) [.int .i64 t.id, .int .i64 t.pool, .int .i64 t.cap.c, .int .i64 t.cap.m, .int .i64 t.cap.p, .slice E1 t.labs.length d1, .slice E2 t.taints.length d2, .bool t.cordon]) := (TurnB.refl _ _).putAll (List.mem_singleton.2 rfl) _ _
                have hE3 := hel.agree NodeO.framed (Agree.of_below hW3 (elems_lt (fun _ _ _ h => h.lt) hel))
                have hgw := own_lt HO1.out.1 gr (by simp [blk, Value.ownBlock])
                have hEP := hE3.agree NodeO.framed (hP.agree (fun b hb => ⟨elems_lt (fun _ _ _ h => h.lt) hE3 b hb, by have := hlo b hb; simp; omega⟩))
                have hlo3' : ∀ b ∈ bx, Y.heap.size ≤ b := fun b hb => by have := hlo3 b hb; simpa using this
                have hNP := NodeO.framed _ _ _ _ _ hN (hP.agree (fun b hb => ⟨hN.lt b hb, by have := hlo3' b hb; simp; omega⟩))
                have hYs := HYY.out.size
                refine ⟨k + 1, xa ++ [.int .i64 t.id, .int .i64 t.pool, .int .i64 t.cap.c, .int .i64 t.cap.m, .int .i64 t.cap.p, .slice E1 t.labs.length d1, .slice E2 t.taints.length d2, .bool t.cordon], ys, ba ++ bx, by omega, by go_num, by rw [List.append_assoc]; exact st, by rw [take_at ht]; exact hEP.snoc hNP, hbo2.agree (Bor.framed _) (fun _ hb => absurd hb (by simp)), ?_, ?_, ?_⟩
                · rw [List.nodup_append]
                  exact ⟨hnd, hnd3, fun a ha b hb e => by have := elems_lt (fun _ _ _ h => h.lt) hel a ha; have := hlo3' b hb; omega⟩
                · intro b hb
                  rcases List.mem_append.1 hb with hb | hb
                  · exact hlo b hb
                  · have := hlo3' b hb; omega
                · exact (HTN.out.step hW3).trans (hP.mono (by simp [blk, Value.ownBlock]))
              case measure => simp [intOf]; omega
          · have hkl : k = c.nodes.length := by omega
            subst hkl
            rw [List.take_length] at hel
            rw [List.drop_length] at hbo
            obtain ⟨rfl, -⟩ := hbo
            rw [List.append_nil] at hown
            have q0 := htn.cell HC1.out.1 (fun hb => (HNN.out.2.1 g hb).2 rfl)
            have q1 := htn.cell HC1.out.2.1 (fun hb => (HNN.out.2.1 g hb).2 rfl)
            have q2 := htn.cell HC1.out.2.2 (fun hb => (HNN.out.2.1 g hb).2 rfl)
            have hbr := HBR1.out.turn htn (fun hb => by have := (HNN.out.2.1 _ hb).1; omega)
            have z0 := hbr.cell 0
            have z1 := hbr.cell 1
            have z2 := hbr.cell 2
            have zf := hbr.frozen
            simp at z0 z1 z2
            have HBR2 := Lib.hid hbr
            have HF := Lib.hid (And.intro hown (And.intro hel (And.intro hnd (And.intro hlo htn))))
            clear hown hel hnd hlo htn hbr hd1 d0
            go_wp2_with fail
            have hV : BlockIs (((wr.setCell ⟨w.heap.size + 1, 0, none⟩ (.slice F0 c.tasks.length f0)).setCell ⟨w.heap.size + 1, 1, none⟩ (.slice F1 c.nodes.length f1)).setCell ⟨w.heap.size + 1, 2, none⟩ (.slice F2 c.binds.length f2)) (w.heap.size + 1) 32 #[.slice F0 c.tasks.length f0, .slice F1 c.nodes.length f1, .slice F2 c.binds.length f2] := by
              have := ((HBR2.out.put 0 (.slice F0 c.tasks.length f0)).put 1 (.slice F1 c.nodes.length f1)).put 2 (.slice F2 c.binds.length f2)
              simpa using this
            have hTY : TurnB [w.heap.size + 1] wr (((wr.setCell ⟨w.heap.size + 1, 0, none⟩ (.slice F0 c.tasks.length f0)).setCell ⟨w.heap.size + 1, 1, none⟩ (.slice F1 c.nodes.length f1)).setCell ⟨w.heap.size + 1, 2, none⟩ (.slice F2 c.binds.length f2)) := (((TurnB.refl _ _).put (List.mem_singleton.2 rfl) _ _).put (List.mem_singleton.2 rfl) _ _).put (List.mem_singleton.2 rfl) _ _
            generalize (((wr.setCell ⟨w.heap.size + 1, 0, none⟩ (.slice F0 c.tasks.length f0)).setCell ⟨w.heap.size + 1, 1, none⟩ (.slice F1 c.nodes.length f1)).setCell ⟨w.heap.size + 1, 2, none⟩ (.slice F2 c.binds.length f2)) = Y at hV hTY ⊢
            have y0 := hV.cell 0
            have y1 := hV.cell 1
            have y2 := hV.cell 2
            simp at y0 y1 y2
            obtain ⟨o0, e0', nd0, lo0, t0⟩ := HT1.out
            obtain ⟨o1, e1', nd1, lo1, t1⟩ := HF.out
            have hzX2 := HXZ.out
            have hCO := copyC_own o0 e0' nd0 lo0 o1 e1' nd1 lo1 t1 HO1.out.2 HO.out.2.2.2.2.2 (own_lt HO.out.1) (own_lt HO.out.2.2.1) (own_lt HO.out.2.2.2.2.1) t0.size HDD.out.1 HDD.out.2.1 HDD.out.2.2 HL.out
            have hloC : ∀ b ∈ (blk (.slice F0 c.tasks.length f0) ++ baT) ++ ((blk (.slice F1 c.nodes.length f1) ++ ba) ++ blk (.slice F2 c.binds.length f2)), X.heap.size ≤ b := by
              intro b hb
              rcases List.mem_append.1 hb with hb | hb
              · rcases List.mem_append.1 hb with hb | hb
                · exact (HNN.out.1 b hb).1
                · have := lo0 b hb; omega
              · rcases List.mem_append.1 hb with hb | hb
                · rcases List.mem_append.1 hb with hb | hb
                  · exact (HNN.out.2.1 b hb).1
                  · have := lo1 b hb; omega
                · exact (HNN.out.2.2 b hb).1
            have hXr : Below X.heap.size X wr := HBX1.out.trans (t1.below hzX1 (fun b hb => (HNN.out.2.1 b hb).1))
            have hwr := hX.trans (hXr.mono hX.size)
            refine bodyPost_ret (v := .agg #[.slice F0 c.tasks.length f0, .slice F1 c.nodes.length f1, .slice F2 c.binds.length f2]) (by simp [results, Tryz.results64, go_sem, y0, y1, y2]) rfl ⟨_, _, _, _, rfl, hCO.agree (hTY.agree (fun b hb => ⟨hCO.lt b hb, by have := hloC b hb; simp; omega⟩)), fun b hb => by have := hloC b hb; omega, hwr.trans (hTY.below hwr.size (by simp))⟩
end Go.Proofs.YtmkpajjnjgnmkabGreatDoor

namespace Go.Proofs.YtmkpajjnjgnmkabGreatDoor
open Go.RowKit

section
variable {α : Type} {R : World → α → List Value → List Nat → Prop} {n cap gr : Nat} {ty : TypeId} {p : α → Bool} {w wr : World} {l : List α} {bi : List Nat} {i j : Nat}
def DelInv (R : World → α → List Value → List Nat → Prop) (n : Nat) (ty : TypeId) (p : α → Bool) (w : World) (gr cap : Nat) (l : List α) (bi : List Nat) (i j : Nat) (wr : World) : Prop :=
  ∃ xa xm xb ba bb, i < j ∧ j ≤ l.length ∧ wr.ownsRow 0 ty n (.slice (some ⟨gr, 0, none⟩) l.length cap) l.length (xa ++ (xm ++ xb)) ∧ Elems R wr ((l.take j).filter fun x => !p x) xa ba ∧ ((l.take j).filter fun x => !p x).length = i ∧
    xm.length = (j - i) * n ∧ Elems R wr (l.drop j) xb bb ∧ (ba ++ bb).Nodup ∧ (∀ b ∈ ba ++ bb, b ∈ bi) ∧ TurnB [gr] w wr
theorem DelInv.turn (h : DelInv R n ty p w gr cap l bi i j wr) : TurnB [gr] w wr := by
  obtain ⟨_, _, _, _, _, _, _, _, _, _, _, _, _, _, h⟩ := h; exact h
theorem DelInv.lt (h : DelInv R n ty p w gr cap l bi i j wr) : i < j ∧ j ≤ l.length := by
  obtain ⟨_, _, _, _, _, h1, h2, _⟩ := h; exact ⟨h1, h2⟩
theorem DelInv.block (h : DelInv R n ty p w gr cap l bi i j wr) : gr < wr.heap.size ∧ (∀ q, q < l.length * n → ∃ u, wr.cell? ⟨gr, q, none⟩ = some u) ∧ ∀ o, wr.frozen? ⟨gr, o, none⟩ = false := by
  obtain ⟨_, _, _, _, _, h1, h2, ho, _⟩ := h
  have hl := ho.1
  obtain ⟨g, c, e, hg, hc, hf⟩ := own_cells ho (by omega)
  simp only [Value.slice.injEq, Option.some.injEq, Addr.mk.injEq] at e
  obtain ⟨⟨rfl, -, -⟩, -, -⟩ := e
  refine ⟨hg, fun q hq => ?_, hf⟩
  obtain ⟨u, hu⟩ : ∃ u, (_ : List Value)[q]? = some u := ⟨_, List.getElem?_eq_getElem (by rw [hl]; exact hq)⟩
  exact ⟨u, hc q u hu⟩
theorem DelInv.round {u : α} (hR : Framed R) (hlen : ∀ (w : World) x cs b, R w x cs b → cs.length = n) (hRlt : ∀ (w : World) x cs b, R w x cs b → ∀ c ∈ b, c < w.heap.size) (hgi : gr ∉ bi) (h : DelInv R n ty p w gr cap l bi i j wr) (hu : l[j]? = some u) :
    ∃ cs b1, R wr u cs b1 ∧ (∀ q x, cs[q]? = some x → wr.cell? ⟨gr, j * n + q, none⟩ = some x) ∧
      (∀ w2, Below wr.heap.size wr w2 → p u = false → DelInv R n ty p w gr cap l bi (i + 1) (j + 1) (putAll w2 gr (i * n) cs)) ∧
      (∀ w2, Below wr.heap.size wr w2 → p u = true → DelInv R n ty p w gr cap l bi i (j + 1) w2) := by
  obtain ⟨xa, xm, xb, ba, bb, hij, hjl, ho, ha, hi, hm, hb, hnd, hin, ht⟩ := h
  rw [drop_at hu] at hb
  obtain ⟨cs, ys, b1, b2, rfl, rfl, h1, h2⟩ := hb
  have hc := hlen _ _ _ _ h1
  have hxa : xa.length = i * n := by rw [Elems.len (fun x cs b h => hlen _ x cs b h) ha, hi]
  have hj : j < l.length := (List.getElem?_eq_some_iff.1 hu).1
  have hjn : i * n + (j - i) * n = j * n := by rw [← Nat.add_mul]; congr 1; omega
  obtain ⟨g, c, e, hg, hcell, hf⟩ := own_cells ho (by omega)
  simp only [Value.slice.injEq, Option.some.injEq, Addr.mk.injEq] at e
  obtain ⟨⟨rfl, -, -⟩, -, -⟩ := e
  have hlta := elems_lt (fun x cs b h => hRlt _ x cs b h) ha
  have hltb := elems_lt (fun x cs b h => hRlt _ x cs b h) h2
  have hlt1 := hRlt _ _ _ _ h1
  have hgn : ∀ b ∈ ba ++ (b1 ++ b2), b ≠ gr := fun b hb e => hgi (by rw [← e]; exact hin b hb)
  refine ⟨cs, b1, h1, fun q x hx => ?_, fun w2 hb2 hp => ?_, fun w2 hb2 hp => ?_⟩
  · have hq : q < cs.length := (List.getElem?_eq_some_iff.1 hx).1
    refine hcell _ _ ?_
    rw [List.getElem?_append_right (by omega), List.getElem?_append_right (by omega), List.getElem?_append_left (by omega)]
    rw [show j * n + q - xa.length - xm.length = q by omega]; exact hx
  · have hn0 : n ≤ xm.length := by
      rw [hm]
      have := Nat.mul_le_mul_right n (show 1 ≤ j - i by omega)
      omega
    have ho2 := own_agree ho (Agree.of_below hb2 (own_lt ho))
    have hxm : xm = xm.take n ++ xm.drop n := (List.take_append_drop _ _).symm
    rw [hxm, List.append_assoc] at ho2
    have st := own_put (g := gr) (ds := cs) ho2 (by rw [List.length_take]; omega) rfl
    rw [hxa] at st
    have hP : TurnB [gr] w2 (putAll w2 gr (i * n) cs) := (TurnB.refl _ _).putAll (List.mem_singleton.2 rfl) _ _
    have hs2 := hb2.size
    have hE : ∀ bs : List Nat, (∀ b ∈ bs, b < wr.heap.size) → (∀ b ∈ bs, b ≠ gr) → Agree bs wr (putAll w2 gr (i * n) cs) := fun bs hl hne => (Agree.of_below hb2 hl).trans (hP.agree (fun b hb => ⟨by have := hl b hb; omega, by simpa using hne b hb⟩))
    have hfl : ((l.take (j + 1)).filter fun x => !p x) = ((l.take j).filter fun x => !p x) ++ [u] := by
      rw [take_at hu, List.filter_append]
      simp [hp]
    refine ⟨xa ++ cs, xm.drop n ++ cs, ys, ba ++ b1, b2, by omega, by omega, ?_, ?_, by rw [hfl, List.length_append, hi]; rfl, ?_, ?_, by rw [List.append_assoc]; exact hnd, fun b hb => hin b (by rw [List.append_assoc] at hb; exact hb), (ht.step hb2).trans hP⟩
    · simpa [List.append_assoc] using st
    · rw [hfl]
      exact (ha.agree hR (hE ba hlta (fun b hb => hgn b (List.mem_append_left _ hb)))).snoc (hR _ _ _ _ _ h1 (hE b1 hlt1 (fun b hb => hgn b (List.mem_append_right _ (List.mem_append_left _ hb)))))
    · rw [List.length_append, List.length_drop, hm, hc]
      rw [show j + 1 - (i + 1) = j - i by omega]
      rw [hm] at hn0; omega
    · exact h2.agree hR (hE b2 hltb (fun b hb => hgn b (List.mem_append_right _ (List.mem_append_right _ hb))))
  · have hag : Agree (ba ++ (b1 ++ b2)) wr w2 := Agree.of_below hb2 (fun b hb => by
      rcases List.mem_append.1 hb with h | h
      · exact hlta b h
      · rcases List.mem_append.1 h with h | h
        · exact hlt1 b h
        · exact hltb b h)
    have hfl : ((l.take (j + 1)).filter fun x => !p x) = ((l.take j).filter fun x => !p x) := by
      rw [take_at hu, List.filter_append]
      simp [hp]
    refine ⟨xa, xm ++ cs, ys, ba, b2, by omega, by omega, ?_, by rw [hfl]; exact ha.agree hR hag.left, by rw [hfl]; exact hi, ?_, h2.agree hR hag.right.right, ?_, ?_, ht.step hb2⟩
    · rw [List.append_assoc]
      exact own_agree ho (Agree.of_below hb2 (own_lt ho))
    · rw [List.length_append, hm, hc, show j + 1 - i = (j - i) + 1 by omega, Nat.add_mul, Nat.one_mul]
    · simp only [List.nodup_append, List.mem_append] at hnd ⊢
      exact ⟨hnd.1, hnd.2.1.2.1, fun a ha b hb => hnd.2.2 a ha b (.inr hb)⟩
    · intro b hb
      rcases List.mem_append.1 hb with h | h
      · exact hin b (List.mem_append_left _ h)
      · exact hin b (List.mem_append_right _ (List.mem_append_right _ h))
theorem DelInv.done {zs : List Value} (hR : Framed R) (hlen : ∀ (w : World) x cs b, R w x cs b → cs.length = n) (hRlt : ∀ (w : World) x cs b, R w x cs b → ∀ c ∈ b, c < w.heap.size) (hgi : gr ∉ bi) (h : DelInv R n ty p w gr cap l bi i l.length wr) (hz : zs.length = (l.length - i) * n) :
    ∃ bs, RowO R ty n (putAll wr gr (i * n) zs) (.slice (some ⟨gr, 0, none⟩) i cap) (l.filter fun x => !p x) bs ∧ (l.filter fun x => !p x).length = i ∧ bs.Nodup ∧ (∀ b ∈ bs, b ∈ gr :: bi) ∧ TurnB [gr] w (putAll wr gr (i * n) zs) := by
  obtain ⟨xa, xm, xb, ba, bb, hij, hjl, ho, ha, hi, hm, hb, hnd, hin, ht⟩ := h
  rw [List.drop_length] at hb
  obtain ⟨rfl, rfl⟩ := hb
  rw [List.take_length] at ha hi
  rw [List.append_nil] at ho hnd hin
  have hxa : xa.length = i * n := by rw [Elems.len (fun x cs b h => hlen _ x cs b h) ha, hi]
  have ho' : wr.ownsRow 0 ty n (.slice (some ⟨gr, 0, none⟩) l.length cap) l.length (xa ++ (xm ++ [])) := by simpa using ho
  have st := own_put (g := gr) (ds := zs) ho' (by omega) rfl
  rw [hxa] at st
  have hP : TurnB [gr] wr (putAll wr gr (i * n) zs) := (TurnB.refl _ _).putAll (List.mem_singleton.2 rfl) _ _
  have hlta := elems_lt (fun x cs b h => hRlt _ x cs b h) ha
  refine ⟨gr :: ba, ⟨xa, ba, ?_, ha.agree hR (hP.agree (fun b hb => ⟨hlta b hb, by simp; intro e; exact hgi (by rw [← e]; exact hin b hb)⟩)), by simp [blk, Value.ownBlock]⟩, hi, ?_, ?_, ht.trans hP⟩
  · rw [hi]
    obtain ⟨_, h2⟩ := st
    refine ⟨hxa, ?_⟩
    rcases h2 with ⟨e, _⟩ | ⟨g, cap', cur, e, hg, hh, hnc, hcm, hs, ht2⟩
    · cases e
    · simp only [Value.slice.injEq, Option.some.injEq, Addr.mk.injEq] at e
      obtain ⟨⟨rfl, -, -⟩, -, rfl⟩ := e
      refine .inr ⟨gr, cap, cur, rfl, hg, hh, by omega, hcm, hs, ?_⟩
      have hle : i * n ≤ l.length * n := Nat.mul_le_mul_right n (by omega)
      have := congrArg (List.take (i * n)) ht2
      rw [List.take_take, Nat.min_eq_left hle, ← hxa, List.take_left'] at this
      · rw [← hxa]; exact this
      · rfl
  · simp only [List.nodup_cons]
    exact ⟨fun h => hgi (hin gr h), hnd⟩
  · intro b hb
    rcases List.mem_cons.1 hb with h | h
    · exact List.mem_cons.2 (.inl h)
    · exact List.mem_cons.2 (.inr (hin b h))
end

end Go.Proofs.YtmkpajjnjgnmkabGreatDoor

namespace Go.Proofs.YtmkpajjnjgnmkabGreatDoor
open Go.RowKit

theorem instId_any (n : Int) (w : World) : Calls Tryz.prog 136 #[.int .i64 n] w fun e w' => e = .returned (.bool (lWithin n 1 99)) ∧ w = w' := by
  unfold lWithin
  generalize e1 : decide ((1 : Int) ≤ n) = b1
  cases b1
  all_goals
    go_enter Tryz.func136, Tryz.ntmps136
    go_wp2
    go_ret
    exact ⟨by simp, rfl⟩
theorem instIn_eq (r : RV) (b1 b2 b3 b4 : Bool) (h1 : lWithin r.c 1 99 = b1) (h2 : lWithin r.m 0 4 = b2) (h3 : (r.p == 1) = b3) (h4 : (r.p == 2) = b4) : instIn r = (b1 && b2 && (b3 || b4)) := by
  subst h1 h2 h3 h4; rfl
theorem instOk_any (r : RV) (w : World) : Calls Tryz.prog 110 #[.agg #[.int .i64 r.c, .int .i64 r.m, .int .i64 r.p]] w fun e w' => e = .returned (.bool (instIn r)) ∧ Below w.heap.size w w' := by
  have h1 := fun w => instId_any r.c w
  have h2 := fun w => within_any r.m 0 4 w
  have HE := Lib.hid (instIn_eq r)
  generalize instIn r = ok at *
  generalize lWithin r.c 1 99 = b1 at *
  generalize lWithin r.m 0 4 = b2 at *
  generalize e3 : (r.p == 1) = b3
  generalize e4 : (r.p == 2) = b4
  have HE' := Lib.hid (HE.out _ _ _ _ rfl rfl e3 e4)
  have H1 := Lib.hid h1
  have H2 := Lib.hid h2
  clear h1 h2 HE
  go_enter Tryz.func110, Tryz.ntmps110
  go_wp2_with fail
  refine (H1.out _).mono ?_
  rintro e w1 ⟨rfl, rfl⟩
  cases b1
  · go_wp2_with fail
    go_ret
    exact ⟨by rw [HE'.out]; simp, (by repeat' (first | exact Below.refl _ _ | refine Below.alloc ?_ ?_ _ | refine Below.setCell ?_ ?_ _ | refine Below.drew ?_ | (apply below_step; assumption) | (simp; done) | (simp; omega) | omega))⟩
  go_wp2_with fail
  refine (H2.out _).mono ?_
  rintro e w1 ⟨rfl, rfl⟩
  cases b2
  · go_wp2_with fail
    go_ret
    exact ⟨by rw [HE'.out]; simp, (by repeat' (first | exact Below.refl _ _ | refine Below.alloc ?_ ?_ _ | refine Below.setCell ?_ ?_ _ | refine Below.drew ?_ | (apply below_step; assumption) | (simp; done) | (simp; omega) | omega))⟩
  cases b3
  · go_wp2_with fail
    go_ret
    exact ⟨by rw [HE'.out]; simp, (by repeat' (first | exact Below.refl _ _ | refine Below.alloc ?_ ?_ _ | refine Below.setCell ?_ ?_ _ | refine Below.drew ?_ | (apply below_step; assumption) | (simp; done) | (simp; omega) | omega))⟩
  · go_wp2_with fail
    go_ret
    exact ⟨by rw [HE'.out]; simp, (by repeat' (first | exact Below.refl _ _ | refine Below.alloc ?_ ?_ _ | refine Below.setCell ?_ ?_ _ | refine Below.drew ?_ | (apply below_step; assumption) | (simp; done) | (simp; omega) | omega))⟩

theorem provFrom_step {last : Int} {l : List RV} {k : Nat} {r : RV} (hr : l[k]? = some r) : provFrom last (l.drop k) = (instIn r && decide (last < r.c) && provFrom r.c (l.drop (k + 1))) := by
  have hk : k < l.length := (List.getElem?_eq_some_iff.1 hr).1
  rw [List.drop_eq_getElem_cons hk, (List.getElem?_eq_some_iff.1 hr).2]
  rfl
theorem provOk_eq (ep : Int) (l : List RV) (b1 b2 b3 : Bool) (h1 : lWithin ep 0 1000 = b1) (h2 : decide (60 < (l.length : Int)) = b2) (h3 : provFrom 0 l = b3) : provOk ep l = (b1 && !b2 && b3) := by
  subst h1 h2 h3
  unfold provOk
  congr 2
  by_cases h : l.length ≤ 60
  · simp [h]; omega
  · simp [h]; omega
set_option maxHeartbeats 3200000 in
theorem ProvOk_any (ep : Int) (v : Value) (l : List RV) (w : World) (hv : InSl w v l) : Calls Tryz.prog 55 #[.agg #[.int .i64 ep, v]] w fun e w' => e = .returned (.bool (provOk ep l)) ∧ Below w.heap.size w w' := by
  obtain ⟨A, c, rfl, hA⟩ := hv.form
  have HA := Lib.hid hA
  clear hA hv
  have h1 := fun w => within_any ep 0 1000 w
  have HE := Lib.hid (provOk_eq ep l)
  generalize lWithin ep 0 1000 = b1 at *
  generalize e2 : decide (60 < (l.length : Int)) = b2 at *
  have H1 := Lib.hid h1
  clear h1
  go_enter Tryz.func55, Tryz.ntmps55
  go_wp2_with fail
  refine (H1.out _).mono ?_
  rintro e w1 ⟨rfl, rfl⟩
  cases b1
  · go_wp2_with fail
    go_ret
    exact ⟨by rw [HE.out _ _ _ rfl rfl rfl]; simp, (by repeat' (first | exact Below.refl _ _ | refine Below.alloc ?_ ?_ _ | refine Below.setCell ?_ ?_ _ | refine Below.drew ?_ | (apply below_step; assumption) | (simp; done) | (simp; omega) | omega))⟩
  cases b2
  rotate_left
  · go_wp2_with fail
    go_ret
    exact ⟨by rw [HE.out _ _ _ rfl rfl rfl]; simp, (by repeat' (first | exact Below.refl _ _ | refine Below.alloc ?_ ?_ _ | refine Below.setCell ?_ ?_ _ | refine Below.drew ?_ | (apply below_step; assumption) | (simp; done) | (simp; omega) | omega))⟩
  have hl60 : l.length ≤ 60 := by have := of_decide_eq_false e2; omega
  have HOK := Lib.hid (show provOk ep l = provFrom 0 l by rw [HE.out _ _ _ rfl rfl rfl]; simp)
  clear HE e2
  go_wp2_with fail
  go_loopw [19, 3] (fun s19 s3 wr => ∃ (k : Nat) (last : Int), k ≤ l.length ∧ s19 = .int .i64 k ∧ s3 = .int .i64 last ∧ provFrom 0 l = provFrom last (l.drop k) ∧ (0 ≤ last ∧ last ≤ 99) ∧ Below w.heap.size w wr) (fun s19 _ _ => (l.length - RowKit.intOf s19).toNat)
  case atStart => exact ⟨0, 0, by omega, rfl, rfl, by rw [List.drop_zero], by omega, (by repeat' (first | exact Below.refl _ _ | refine Below.alloc ?_ ?_ _ | refine Below.setCell ?_ ?_ _ | refine Below.drew ?_ | (apply below_step; assumption) | (simp; done) | (simp; omega) | omega))⟩
  case round =>
    obtain ⟨k, last, hk, rfl, rfl, hfrom, hlast, hB⟩ := hrel
    have hzr := hB.size
    by_cases hlt : k < l.length
    · obtain ⟨b, off, rfl, hbw, hat⟩ := HA.out (by omega)
      obtain ⟨r, hr⟩ : ∃ r, l[k]? = some r := ⟨_, List.getElem?_eq_getElem hlt⟩
      obtain ⟨q0, q1, q2⟩ := (hat.below hB hbw) k r hr
      have hlti : (k : Int) < (l.length : Int) := by omega
      have HST := Lib.hid (hfrom.trans (provFrom_step hr))
      have HR := Lib.hid hr
      have hio := fun w => instOk_any r w
      have HIN := Lib.hid (instIn_iff (r := r)).1
      generalize instIn r = bi at *
      generalize e4 : decide (r.c ≤ last) = bl
      have HIO := Lib.hid hio
      clear hat hr hfrom hio
      go_wp2_with fail
      refine (HIO.out _).mono ?_
      rintro e w3 ⟨rfl, hb3⟩
      have hz3 := hb3.size
      simp at hz3
      have hB3 : Below w.heap.size w w3 := (by repeat' (first | exact Below.refl _ _ | refine Below.alloc ?_ ?_ _ | refine Below.setCell ?_ ?_ _ | refine Below.drew ?_ | (apply below_step; assumption) | (simp; done) | (simp; omega) | omega))
      have HB3 := Lib.hid ((BlockIs.new wr 95 #[.int .i64 r.c, .int .i64 r.m, .int .i64 r.p]).below hb3 (by simp))
      have q3 := HB3.out.cell 0
      simp at q3
      cases bi
      · go_wp2_with fail
        go_ret
        refine ⟨?_, hB3⟩
        rw [HOK.out, HST.out]; rfl
      cases bl
      rotate_left
      · go_wp2_with fail
        go_ret
        refine ⟨?_, hB3⟩
        have := of_decide_eq_true e4
        rw [HOK.out, HST.out, show decide (last < r.c) = false by simp; omega]; simp
      obtain ⟨⟨i1, i2⟩, _⟩ := HIN.out (by simp)
      have hlr : last < r.c := by have := of_decide_eq_false e4; omega
      go_wp2_with fail
      go_roundw
      case rel =>
        refine ⟨k + 1, r.c, by omega, by go_num, rfl, ?_, by omega, hB3⟩
        rw [HST.out, show decide (last < r.c) = true by simp; omega]; rfl
      case measure => simp [RowKit.intOf]; omega
    · obtain rfl : k = l.length := by omega
      have HF := Lib.hid hfrom
      clear hfrom
      go_wp2_with fail
      go_ret
      refine ⟨?_, hB⟩
      rw [HOK.out, HF.out, List.drop_length]; rfl

theorem msgOk_eq (m : MV) (b1 b2 k1 k2 b3 b4 : Bool) (h1 : lWithin m.e 1 1000 = b1) (h2 : lWithin m.i 1 99 = b2) (e1 : (m.k == 1) = k1) (e2 : (m.k == 2) = k2) (h3 : lWithin m.p 0 4 = b3) (h4 : (m.p == 0) = b4) : msgOk m = (b1 && b2 && ((k1 && b3) || (k2 && b4))) := by
  subst h1 h2 h3 h4 e1 e2; rfl
set_option maxHeartbeats 800000 in
theorem MsgOk_any (m : MV) (w : World) : Calls Tryz.prog 113 #[.agg #[.int .i64 m.k, .int .i64 m.e, .int .i64 m.i, .int .i64 m.p]] w fun e w' => e = .returned (.bool (msgOk m)) ∧ Below w.heap.size w w' := by
  have h1 := fun w => epochOk_any m.e w
  have h2 := fun w => instId_any m.i w
  have h3 := fun w => within_any m.p 0 4 w
  have HE := Lib.hid (msgOk_eq m)
  have HX : (m.k == 1) = true → (m.k == 2) = false := by simp; omega
  generalize msgOk m = ok at *
  generalize lWithin m.e 1 1000 = b1 at *
  generalize lWithin m.i 1 99 = b2 at *
  generalize lWithin m.p 0 4 = b3 at *
  generalize e4 : (m.p == 0) = b4 at *
  generalize e1 : (m.k == 1) = k1 at *
  generalize e2 : (m.k == 2) = k2 at *
  have HE' := Lib.hid (HE.out _ _ _ _ _ _ rfl rfl rfl rfl rfl rfl)
  have H1 := Lib.hid h1
  have H2 := Lib.hid h2
  have H3 := Lib.hid h3
  have HX := Lib.hid HX
  clear h1 h2 h3 HE
  go_enter Tryz.func113, Tryz.ntmps113
  go_wp2_with fail
  refine (H1.out _).mono ?_
  rintro e w1 ⟨rfl, rfl⟩
  cases b1
  · go_wp2_with fail
    go_ret
    exact ⟨by rw [HE'.out]; simp, (by repeat' (first | exact Below.refl _ _ | refine Below.alloc ?_ ?_ _ | refine Below.setCell ?_ ?_ _ | refine Below.drew ?_ | (apply below_step; assumption) | (simp; done) | (simp; omega) | omega))⟩
  go_wp2_with fail
  refine (H2.out _).mono ?_
  rintro e w1 ⟨rfl, rfl⟩
  cases b2
  · go_wp2_with fail
    go_ret
    exact ⟨by rw [HE'.out]; simp, (by repeat' (first | exact Below.refl _ _ | refine Below.alloc ?_ ?_ _ | refine Below.setCell ?_ ?_ _ | refine Below.drew ?_ | (apply below_step; assumption) | (simp; done) | (simp; omega) | omega))⟩
  cases k1
  · cases k2
    · go_wp2_with fail
      go_ret
      exact ⟨by rw [HE'.out]; simp, (by repeat' (first | exact Below.refl _ _ | refine Below.alloc ?_ ?_ _ | refine Below.setCell ?_ ?_ _ | refine Below.drew ?_ | (apply below_step; assumption) | (simp; done) | (simp; omega) | omega))⟩
    · go_wp2_with fail
      go_ret
      exact ⟨by rw [HE'.out]; simp, (by repeat' (first | exact Below.refl _ _ | refine Below.alloc ?_ ?_ _ | refine Below.setCell ?_ ?_ _ | refine Below.drew ?_ | (apply below_step; assumption) | (simp; done) | (simp; omega) | omega))⟩
  · obtain rfl : k2 = false := HX.out rfl
    go_wp2_with fail
    refine (H3.out _).mono ?_
    rintro e w1 ⟨rfl, rfl⟩
    go_wp2_with fail
    go_ret
    exact ⟨by rw [HE'.out]; simp, (by repeat' (first | exact Below.refl _ _ | refine Below.alloc ?_ ?_ _ | refine Below.setCell ?_ ?_ _ | refine Below.drew ?_ | (apply below_step; assumption) | (simp; done) | (simp; omega) | omega))⟩

end Go.Proofs.YtmkpajjnjgnmkabGreatDoor

namespace Go.Proofs.YtmkpajjnjgnmkabGreatDoor
open Go.RowKit

theorem inL_one (l : List RV) : ∀ u ∈ inL l, u.oneCell' = true := by
  intro u hu
  simp only [inL, List.mem_flatMap] at hu
  obtain ⟨x, _, hu⟩ := hu
  simp at hu
  rcases hu with rfl | rfl | rfl <;> rfl
theorem InSl.news {w : World} {A : Option Addr} {n c : Nat} {l : List RV} (h : InSl w (.slice A n c) l) : 0 < n → ∃ b off, A = some ⟨b, off, none⟩ ∧ CellsAt w b off (inL l) := by
  intro hp
  rcases h with ⟨rfl, A', c', e⟩ | ⟨b, off, c', e, _, hat⟩
  · simp only [Value.slice.injEq] at e; omega
  · simp only [Value.slice.injEq] at e
    obtain ⟨rfl, -, -⟩ := e
    refine ⟨b, off, rfl, fun j u hu => ?_⟩
    have hj : j < l.length * 3 := by have := (List.getElem?_eq_some_iff.1 hu).1; rwa [inL_length] at this
    obtain ⟨r, hr⟩ : ∃ r, l[j / 3]? = some r := ⟨_, List.getElem?_eq_getElem (by omega)⟩
    obtain ⟨h1, h2, h3⟩ := hat _ r hr
    obtain ⟨k1, k2, k3⟩ := inL_at hr
    rcases (show j = j / 3 * 3 ∨ j = j / 3 * 3 + 1 ∨ j = j / 3 * 3 + 2 by omega) with e | e | e
    · rw [← e] at k1 h1; rw [hu] at k1; rw [h1, k1]
    · rw [← e] at k2; rw [hu] at k2; rw [show off + j = off + j / 3 * 3 + 1 by omega, h2, k2]
    · rw [← e] at k3; rw [hu] at k3; rw [show off + j = off + j / 3 * 3 + 2 by omega, h3, k3]
theorem OwnsN.gone {w : World} {base g : Nat} {c : Nat} {l : List RV} {k : Nat} {x : RV} (h : OwnsN w base (.slice (some ⟨g, 0, none⟩) l.length c) l) (hx : l[k]? = some x) :
    OwnsN (w.setCell ⟨g, k * 3 + 2, none⟩ (.int .i64 2)) base (.slice (some ⟨g, 0, none⟩) l.length c) (l.set k ⟨x.c, x.m, 2⟩) := by
  have hk : k < l.length := (List.getElem?_eq_some_iff.1 hx).1
  obtain ⟨h1, h2⟩ := h
  rcases h2 with ⟨e, _⟩ | ⟨g', cap, cur, e, hb, hh, hnc, hcm, hs, ht⟩
  · cases e
  · simp only [Value.slice.injEq, Option.some.injEq, Addr.mk.injEq] at e
    obtain ⟨⟨rfl, -, -⟩, -, rfl⟩ := e
    refine ⟨by rw [inL_length, List.length_set], .inr ⟨g, c, cur.setIfInBounds (k * 3 + 2) (.int .i64 2), by rw [List.length_set], hb, BlockIs.put hh _ _, by rw [List.length_set]; exact hnc, hcm, by simpa using hs, ?_⟩⟩
    rw [List.length_set, Array.toList_setIfInBounds, List.take_set, ht]
    refine List.ext_getElem? fun j => ?_
    rw [List.getElem?_set]
    by_cases hj : j < l.length * 3
    · obtain ⟨y, hy⟩ : ∃ y, l[j / 3]? = some y := ⟨_, List.getElem?_eq_getElem (by omega)⟩
      obtain ⟨k1, k2, k3⟩ := inL_at hy
      have hz : (l.set k ⟨x.c, x.m, 2⟩)[j / 3]? = some (if k = j / 3 then ⟨x.c, x.m, 2⟩ else y) := by
        rw [List.getElem?_set]
        by_cases e : k = j / 3
        · rw [if_pos e, if_pos e, if_pos hk]
        · rw [if_neg e, if_neg e]; exact hy
      obtain ⟨z1, z2, z3⟩ := inL_at hz
      by_cases e : k = j / 3
      · rw [← e, hx] at hy
        obtain rfl := Option.some.inj hy
        rw [if_pos e] at z1 z2 z3
        rcases (show j = j / 3 * 3 ∨ j = j / 3 * 3 + 1 ∨ j = j / 3 * 3 + 2 by omega) with e' | e' | e'
        · rw [if_neg (by omega)]; rw [← e'] at k1 z1; rw [k1, z1]
        · rw [if_neg (by omega)]; rw [← e'] at k2 z2; rw [k2, z2]
        · rw [if_pos (by omega), if_pos (by rw [inL_length]; omega)]; rw [← e'] at z3; rw [z3]
      · rw [if_neg e] at z1 z2 z3
        rw [if_neg (by omega)]
        rcases (show j = j / 3 * 3 ∨ j = j / 3 * 3 + 1 ∨ j = j / 3 * 3 + 2 by omega) with e' | e' | e'
        · rw [← e'] at k1 z1; rw [k1, z1]
        · rw [← e'] at k2 z2; rw [k2, z2]
        · rw [← e'] at k3 z3; rw [k3, z3]
    · rw [if_neg (by omega), List.getElem?_eq_none (by rw [inL_length]; omega), List.getElem?_eq_none (by rw [inL_length, List.length_set]; omega)]
theorem OwnsN.frozen {w : World} {base g n c : Nat} {l : List RV} (h : OwnsN w base (.slice (some ⟨g, 0, none⟩) n c) l) (o : Nat) : w.frozen? ⟨g, o, none⟩ = false := by
  rcases h.2 with ⟨e, _⟩ | ⟨g', cap, cur, e, _, hh, _⟩
  · cases e
  · simp only [Value.slice.injEq, Option.some.injEq, Addr.mk.injEq] at e
    obtain ⟨⟨rfl, -, -⟩, -, -⟩ := e
    exact BlockIs.frozen (t := 95) hh o
end Go.Proofs.YtmkpajjnjgnmkabGreatDoor

namespace Go.Proofs.YtmkpajjnjgnmkabGreatDoor
open Go.RowKit

theorem poolR_len {w : World} {x : PV} {cs : List Value} (h : PoolR w x cs) : cs.length = 12 := by obtain ⟨v1, v2, rfl, _⟩ := h; rfl
theorem wantR_len {w : World} {x : BV} {cs : List Value} (h : WantR w x cs) : cs.length = 2 := by obtain rfl := h; rfl
theorem msgR_len {w : World} {x : MV} {cs : List Value} (h : MsgR w x cs) : cs.length = 4 := by obtain rfl := h; rfl
theorem poolR_one {w : World} {x : PV} {cs : List Value} (h : PoolR w x cs) : ∀ u ∈ cs, u.oneCell' = true := by
  obtain ⟨v1, v2, rfl, h1, h2, _⟩ := h
  obtain ⟨A1, c1, rfl, _⟩ := h1.form
  obtain ⟨A2, c2, rfl, _⟩ := h2.form
  intro u hu
  simp at hu
  rcases hu with rfl | rfl | rfl | rfl | rfl | rfl | rfl | rfl | rfl | rfl | rfl | rfl <;> rfl
theorem wantR_one {w : World} {x : BV} {cs : List Value} (h : WantR w x cs) : ∀ u ∈ cs, u.oneCell' = true := by
  obtain rfl := h
  intro u hu
  simp at hu
  rcases hu with rfl | rfl <;> rfl
theorem msgR_one {w : World} {x : MV} {cs : List Value} (h : MsgR w x cs) : ∀ u ∈ cs, u.oneCell' = true := by
  obtain rfl := h
  intro u hu
  simp at hu
  rcases hu with rfl | rfl | rfl | rfl <;> rfl
set_option maxHeartbeats 1600000 in
theorem copyListPool_any (v : Value) (l : List PV) (w0 w : World) (hw : Below w0.heap.size w0 w) (h : PoolSl w0 v l) (hl : l.length ≤ 1048576) :
    Calls Tryz.prog 62 #[v] w fun e w' => ∃ v' xs, e = .returned v' ∧ w'.ownsRow 0 63 12 v' l.length xs ∧ Elems (Bor PoolR w0) w' l xs [] ∧ (∀ b ∈ blk v', w.heap.size ≤ b) ∧ Below w.heap.size w w' := by
  obtain ⟨i0, hi0, hz0, hs0, hy0⟩ := info_parts Tryz.infoPool
  obtain ⟨A, c, rfl, hA⟩ := h.form
  obtain ⟨xs, hx1, hx2, hx3⟩ : ∃ xs, (∀ w', Elems (Bor PoolR w0) w' l xs []) ∧ (0 < l.length → ∃ b off, A = some ⟨b, off, none⟩ ∧ CellsAt w b off xs) ∧ xs.length = l.length * 12 := by
    rcases Nat.eq_zero_or_pos l.length with h0 | hp
    · obtain rfl := List.eq_nil_of_length_eq_zero h0
      exact ⟨[], fun _ => ⟨rfl, rfl⟩, fun h => absurd h (by simp), by simp⟩
    · obtain ⟨b, off, rfl, hbw, hat⟩ := hA hp
      obtain ⟨xs, h1, h2, h3⟩ := seq_news (fun _ _ h => poolR_len h) w0 hat
      exact ⟨xs, fun w' => h1.agree (Bor.framed _) (fun _ hb => absurd hb (by simp)), fun _ => ⟨b, off, rfl, h2.below hw hbw⟩, h3⟩
  have H1 := Lib.hid (bor_one (fun _ _ h => poolR_one h) (hx1 w0))
  have HX1 := Lib.hid hx1
  have HX2 := Lib.hid hx2
  have HX3 := Lib.hid hx3
  clear hA h hx1 hx2 hx3 hw
  go_enter Tryz.func62, Tryz.ntmps62
  go_wp2_with (at_builtin; refine wpList_spread _ rfl (.const (.slice none 0 0)) (.tmp 3) 27 rfl 63 i0 _ 12 128 Tryz.underlying27 hi0 hz0 hs0 hy0 rfl (by omega) (.slice none 0 0) 0 [] rfl (World.ownsRow_nil _ _ _ _) A l.length c xs rfl HX3.out HX2.out H1.out (by simp only [maxLen]; omega) (by omega) ?_; intro v' w1 hown1 hg1 hk1)
  have hb1 := none_below hg1
  obtain ⟨hlo, -⟩ := none_blk hk1
  rw [Nat.zero_add, List.nil_append] at hown1
  go_ret
  exact ⟨v', xs, rfl, hown1, HX1.out _, hlo, hb1⟩
set_option maxHeartbeats 1600000 in
theorem copyListWant_any (v : Value) (l : List BV) (w0 w : World) (hw : Below w0.heap.size w0 w) (h : WantSl w0 v l) (hl : l.length ≤ 1048576) :
    Calls Tryz.prog 65 #[v] w fun e w' => ∃ v' xs, e = .returned v' ∧ w'.ownsRow 0 93 2 v' l.length xs ∧ Elems (Bor WantR w0) w' l xs [] ∧ (∀ b ∈ blk v', w.heap.size ≤ b) ∧ Below w.heap.size w w' := by
  obtain ⟨i0, hi0, hz0, hs0, hy0⟩ := info_parts Tryz.infoWant
  obtain ⟨A, c, rfl, hA⟩ := h.form
  obtain ⟨xs, hx1, hx2, hx3⟩ : ∃ xs, (∀ w', Elems (Bor WantR w0) w' l xs []) ∧ (0 < l.length → ∃ b off, A = some ⟨b, off, none⟩ ∧ CellsAt w b off xs) ∧ xs.length = l.length * 2 := by
    rcases Nat.eq_zero_or_pos l.length with h0 | hp
    · obtain rfl := List.eq_nil_of_length_eq_zero h0
      exact ⟨[], fun _ => ⟨rfl, rfl⟩, fun h => absurd h (by simp), by simp⟩
    · obtain ⟨b, off, rfl, hbw, hat⟩ := hA hp
      obtain ⟨xs, h1, h2, h3⟩ := seq_news (fun _ _ h => wantR_len h) w0 hat
      exact ⟨xs, fun w' => h1.agree (Bor.framed _) (fun _ hb => absurd hb (by simp)), fun _ => ⟨b, off, rfl, h2.below hw hbw⟩, h3⟩
  have H1 := Lib.hid (bor_one (fun _ _ h => wantR_one h) (hx1 w0))
  have HX1 := Lib.hid hx1
  have HX2 := Lib.hid hx2
  have HX3 := Lib.hid hx3
  clear hA h hx1 hx2 hx3 hw
  go_enter Tryz.func65, Tryz.ntmps65
  go_wp2_with (at_builtin; refine wpList_spread _ rfl (.const (.slice none 0 0)) (.tmp 3) 33 rfl 93 i0 _ 2 16 Tryz.underlying33 hi0 hz0 hs0 hy0 rfl (by omega) (.slice none 0 0) 0 [] rfl (World.ownsRow_nil _ _ _ _) A l.length c xs rfl HX3.out HX2.out H1.out (by simp only [maxLen]; omega) (by omega) ?_; intro v' w1 hown1 hg1 hk1)
  have hb1 := none_below hg1
  obtain ⟨hlo, -⟩ := none_blk hk1
  rw [Nat.zero_add, List.nil_append] at hown1
  go_ret
  exact ⟨v', xs, rfl, hown1, HX1.out _, hlo, hb1⟩
set_option maxHeartbeats 1600000 in
theorem copyListMsg_any (v : Value) (l : List MV) (w0 w : World) (hw : Below w0.heap.size w0 w) (h : MsgSl w0 v l) (hl : l.length ≤ 1048576) :
    Calls Tryz.prog 67 #[v] w fun e w' => ∃ v' xs, e = .returned v' ∧ w'.ownsRow 0 88 4 v' l.length xs ∧ Elems (Bor MsgR w0) w' l xs [] ∧ (∀ b ∈ blk v', w.heap.size ≤ b) ∧ Below w.heap.size w w' := by
  obtain ⟨i0, hi0, hz0, hs0, hy0⟩ := info_parts Tryz.infoMsg
  obtain ⟨A, c, rfl, hA⟩ := h.form
  obtain ⟨xs, hx1, hx2, hx3⟩ : ∃ xs, (∀ w', Elems (Bor MsgR w0) w' l xs []) ∧ (0 < l.length → ∃ b off, A = some ⟨b, off, none⟩ ∧ CellsAt w b off xs) ∧ xs.length = l.length * 4 := by
    rcases Nat.eq_zero_or_pos l.length with h0 | hp
    · obtain rfl := List.eq_nil_of_length_eq_zero h0
      exact ⟨[], fun _ => ⟨rfl, rfl⟩, fun h => absurd h (by simp), by simp⟩
    · obtain ⟨b, off, rfl, hbw, hat⟩ := hA hp
      obtain ⟨xs, h1, h2, h3⟩ := seq_news (fun _ _ h => msgR_len h) w0 hat
      exact ⟨xs, fun w' => h1.agree (Bor.framed _) (fun _ hb => absurd hb (by simp)), fun _ => ⟨b, off, rfl, h2.below hw hbw⟩, h3⟩
  have H1 := Lib.hid (bor_one (fun _ _ h => msgR_one h) (hx1 w0))
  have HX1 := Lib.hid hx1
  have HX2 := Lib.hid hx2
  have HX3 := Lib.hid hx3
  clear hA h hx1 hx2 hx3 hw
  go_enter Tryz.func67, Tryz.ntmps67
  go_wp2_with (at_builtin; refine wpList_spread _ rfl (.const (.slice none 0 0)) (.tmp 3) 37 rfl 88 i0 _ 4 32 Tryz.underlying37 hi0 hz0 hs0 hy0 rfl (by omega) (.slice none 0 0) 0 [] rfl (World.ownsRow_nil _ _ _ _) A l.length c xs rfl HX3.out HX2.out H1.out (by simp only [maxLen]; omega) (by omega) ?_; intro v' w1 hown1 hg1 hk1)
  have hb1 := none_below hg1
  obtain ⟨hlo, -⟩ := none_blk hk1
  rw [Nat.zero_add, List.nil_append] at hown1
  go_ret
  exact ⟨v', xs, rfl, hown1, HX1.out _, hlo, hb1⟩
theorem bor_want {w0 w : World} {l : List BV} : ∀ {xs : List Value}, Elems (Bor WantR w0) w l xs [] → Elems WantO w l xs [] := by
  induction l with
  | nil => exact fun h => h
  | cons x r ih =>
    rintro xs ⟨cs, ys, b1, b2, rfl, hb, ⟨hR, rfl⟩, h2⟩
    obtain rfl : b2 = [] := by simpa using hb.symm
    exact ⟨cs, ys, [], [], rfl, rfl, ⟨hR, rfl⟩, ih h2⟩
theorem copyListWant_o (v : Value) (l : List BV) (w : World) (h : WantSl w v l) (hl : l.length ≤ 1048576) :
    Calls Tryz.prog 65 #[v] w fun e w' => ∃ v' bs, e = .returned v' ∧ RowO WantO 93 2 w' v' l bs ∧ bs.Nodup ∧ (∀ b ∈ bs, w.heap.size ≤ b) ∧ Below w.heap.size w w' :=
  (copyListWant_any v l w w (Below.refl _ _) h hl).mono fun _ _ ⟨v', xs, e, h1, h2, h3, hb⟩ => ⟨v', blk v' ++ [], e, ⟨xs, [], h1, bor_want h2, rfl⟩, by simp [blk_nodup], by simpa using h3, hb⟩
theorem bor_msg {w0 w : World} {l : List MV} : ∀ {xs : List Value}, Elems (Bor MsgR w0) w l xs [] → Elems MsgO w l xs [] := by
  induction l with
  | nil => exact fun h => h
  | cons x r ih =>
    rintro xs ⟨cs, ys, b1, b2, rfl, hb, ⟨hR, rfl⟩, h2⟩
    obtain rfl : b2 = [] := by simpa using hb.symm
    exact ⟨cs, ys, [], [], rfl, rfl, ⟨hR, rfl⟩, ih h2⟩
theorem copyListMsg_o (v : Value) (l : List MV) (w : World) (h : MsgSl w v l) (hl : l.length ≤ 1048576) :
    Calls Tryz.prog 67 #[v] w fun e w' => ∃ v' bs, e = .returned v' ∧ RowO MsgO 88 4 w' v' l bs ∧ bs.Nodup ∧ (∀ b ∈ bs, w.heap.size ≤ b) ∧ Below w.heap.size w w' :=
  (copyListMsg_any v l w w (Below.refl _ _) h hl).mono fun _ _ ⟨v', xs, e, h1, h2, h3, hb⟩ => ⟨v', blk v' ++ [], e, ⟨xs, [], h1, bor_msg h2, rfl⟩, by simp [blk_nodup], by simpa using h3, hb⟩
set_option maxHeartbeats 1600000 in
theorem copyListInst_o (v : Value) (l : List RV) (w : World) (h : InSl w v l) (hl : l.length ≤ 1048576) :
    Calls Tryz.prog 66 #[v] w fun e w' => ∃ v', e = .returned v' ∧ OwnsN w' 0 v' l ∧ (∀ b ∈ blk v', w.heap.size ≤ b) ∧ (blk v').Nodup ∧ Below w.heap.size w w' := by
  obtain ⟨i0, hi0, hz0, hs0, hy0⟩ := info_parts Tryz.infoInst
  obtain ⟨A, c, rfl, _⟩ := h.form
  have HN := Lib.hid h.news
  clear h
  go_enter Tryz.func66, Tryz.ntmps66
  go_wp2_with (at_builtin; refine wpList_spread _ rfl (.const (.slice none 0 0)) (.tmp 3) 34 rfl 95 i0 _ 3 24 Tryz.underlying34 hi0 hz0 hs0 hy0 rfl (by omega) (.slice none 0 0) 0 [] rfl (World.ownsRow_nil _ _ _ _) A l.length c (inL l) rfl (inL_length l) HN.out (inL_one l) (by simp only [maxLen]; omega) (by omega) ?_; intro v' w1 hown1 hg1 hk1)
  have hb1 := none_below hg1
  obtain ⟨hlo, hnd⟩ := none_blk hk1
  rw [Nat.zero_add, List.nil_append] at hown1
  go_ret
  exact ⟨v', rfl, hown1, hlo, hnd, hb1⟩
end Go.Proofs.YtmkpajjnjgnmkabGreatDoor

namespace Go.Proofs.YtmkpajjnjgnmkabGreatDoor
open Go.RowKit

def RetPv (w : World) (ep : Int) (l : List RV) (e : Ending) (w' : World) : Prop :=
  ∃ g, e = .returned (.agg #[.int .i64 ep, .slice (some ⟨g, 0, none⟩) l.length l.length]) ∧ w.heap.size ≤ g ∧ g < w'.heap.size ∧ InSl w' (.slice (some ⟨g, 0, none⟩) l.length l.length) l ∧ OwnsN w' w.heap.size (.slice (some ⟨g, 0, none⟩) l.length l.length) l ∧ Below w.heap.size w w'
theorem RetPv.of {w w' : World} {ep : Int} {l : List RV} {g : Nat} {cs : Array Value} (hb : BlockIs w' g 95 cs) (hs : cs.size = l.length * 3)
    (hc : ∀ i r, i < l.length → l[i]? = some r → cs[i * 3]? = some (.int .i64 r.c) ∧ cs[i * 3 + 1]? = some (.int .i64 r.m) ∧ cs[i * 3 + 2]? = some (.int .i64 r.p)) (hg : w.heap.size ≤ g) (hl : l.length ≤ 1048576) (hB : Below w.heap.size w w') :
    RetPv w ep l (.returned (.agg #[.int .i64 ep, .slice (some ⟨g, 0, none⟩) l.length l.length])) w' := by
  have hcp : CopyIn w g l l.length w' := ⟨cs, hb, hs, hc, hB⟩
  exact ⟨g, rfl, hg, hb.lt, .inr ⟨g, 0, _, rfl, hb.lt, hcp.done⟩, hcp.own (by omega) hg, hB⟩
theorem eqProv_same (ep : Int) (v1 v2 : Value) (l : List RV) (w : World) (h1 : InSl w v1 l) (h2 : InSl w v2 l) (hlen : l.length ≤ 1048576) :
    Calls Tryz.prog 23 #[.agg #[.int .i64 ep, v1], .agg #[.int .i64 ep, v2]] w fun e w' => e = .returned (.bool true) ∧ Below w.heap.size w w' := by
  have H1 := Lib.hid h1
  have H2 := Lib.hid h2
  have hne : (ep != ep) = false := by simp
  clear h1 h2
  go_enter Tryz.func23, Tryz.ntmps23
  go_wp2_with fail
  have hX : Below w.heap.size w ((w.alloc (.cells #[.int .i64 ep, v1] 36)).alloc (.cells #[.int .i64 ep, v2] 36)) := (by repeat' (first | exact Below.refl _ _ | refine Below.alloc ?_ ?_ _ | refine Below.setCell ?_ ?_ _ | refine Below.drew ?_ | (apply below_step; assumption) | (simp; done) | (simp; omega) | omega))
  refine (eqInstS_same v1 v2 l _ (H1.out.below hX) (H2.out.below hX) hlen).mono ?_
  rintro e w1 ⟨rfl, hb1⟩
  go_wp2_with fail
  go_ret
  exact ⟨rfl, below_of hX hb1⟩
end Go.Proofs.YtmkpajjnjgnmkabGreatDoor

namespace Go.Proofs.YtmkpajjnjgnmkabGreatDoor
open Go.RowKit

theorem nodup_wldB {x0 x1 x2 x3 x4 x5 x6 : List Nat} {n1 n2 n3 n4 n5 n6 n7 n8 : Nat} (l0 : ∀ b ∈ x0, n1 ≤ b ∧ b < n2) (l1 : ∀ b ∈ x1, n2 ≤ b ∧ b < n3) (l2 : ∀ b ∈ x2, n3 ≤ b ∧ b < n4) (l3 : ∀ b ∈ x3, n4 ≤ b ∧ b < n5) (l4 : ∀ b ∈ x4, n5 ≤ b ∧ b < n6) (l5 : ∀ b ∈ x5, n6 ≤ b ∧ b < n7) (l6 : ∀ b ∈ x6, n7 ≤ b ∧ b < n8)
    (d0 : x0.Nodup) (d1 : x1.Nodup) (d2 : x2.Nodup) (d3 : x3.Nodup) (d4 : x4.Nodup) (d5 : x5.Nodup) (d6 : x6.Nodup) (h2 : n2 ≤ n3 := by omega) (h3 : n3 ≤ n4 := by omega) (h4 : n4 ≤ n5 := by omega) (h5 : n5 ≤ n6 := by omega) (h6 : n6 ≤ n7 := by omega) : (x0 ++ (x1 ++ (x2 ++ (x3 ++ (x4 ++ (x5 ++ x6)))))).Nodup := by
  have j : ∀ (a b : List Nat) (m : Nat), a.Nodup → b.Nodup → (∀ x ∈ a, x < m) → (∀ x ∈ b, m ≤ x) → (a ++ b).Nodup := fun a b m ha hb h1 h2 => List.nodup_append.2 ⟨ha, hb, fun x hx y hy e => by have := h1 x hx; have := h2 y hy; omega⟩
  have k : ∀ (a b : List Nat) (m : Nat), (∀ x ∈ a, m ≤ x) → (∀ x ∈ b, m ≤ x) → ∀ x ∈ a ++ b, m ≤ x := fun a b m h1 h2 x hx => (List.mem_append.1 hx).elim (h1 x) (h2 x)
  have up : ∀ (a : List Nat) (m m' : Nat), m' ≤ m → (∀ x ∈ a, m ≤ x) → ∀ x ∈ a, m' ≤ x := fun a m m' h h1 x hx => Nat.le_trans h (h1 x hx)
  have q5 := k _ _ _ (fun x hx => (l5 x hx).1) (up _ _ n6 h6 (fun x hx => (l6 x hx).1))
  have q4 := k _ _ _ (fun x hx => (l4 x hx).1) (up _ _ n5 h5 q5)
  have q3 := k _ _ _ (fun x hx => (l3 x hx).1) (up _ _ n4 h4 q4)
  have q2 := k _ _ _ (fun x hx => (l2 x hx).1) (up _ _ n3 h3 q3)
  have q1 := k _ _ _ (fun x hx => (l1 x hx).1) (up _ _ n2 h2 q2)
  exact j _ _ n2 d0 (j _ _ n3 d1 (j _ _ n4 d2 (j _ _ n5 d3 (j _ _ n6 d4 (j _ _ n7 d5 d6 (fun x hx => (l5 x hx).2) (fun x hx => (l6 x hx).1)) (fun x hx => (l4 x hx).2) q5) (fun x hx => (l3 x hx).2) q4) (fun x hx => (l2 x hx).2) q3) (fun x hx => (l1 x hx).2) q2) (fun x hx => (l0 x hx).2) q1
end Go.Proofs.YtmkpajjnjgnmkabGreatDoor

namespace Go.Proofs.YtmkpajjnjgnmkabGreatDoor
open Go.RowKit

set_option maxHeartbeats 12800000 in
set_option maxRecDepth 20000 in
theorem copyWorld_any (t : WV) (s : WS) (w : World) (hw : WldR w t s) :
    Calls Tryz.prog 18 #[.agg #[.int .i64 t.now, .int .i64 t.span, .int .i64 t.kind, .int .i64 t.limit, .int .i64 t.next, .int .i64 t.lease.c, .int .i64 t.lease.m, .int .i64 t.lease.p, s.ep, s.po, s.ta, s.no, s.bi, s.wa, s.en, .int .i64 t.seen, s.ins, s.ms]] w (RetWld w t) := by
  have HW := Lib.hid hw
  have SM := Lib.hid hw.small
  obtain ⟨A0, A1, A2, A3, A4, A5, A6, A7, A8, c0, c1, c2, c3, c4, c5, c6, c7, c8, rfl⟩ := hw.form
  clear hw
  go_enter Tryz.func18, Tryz.ntmps18
  go_wp2_with fail
  have hX : Below w.heap.size w ((w.alloc (.cells #[.int .i64 t.now, .int .i64 t.span, .int .i64 t.kind, .int .i64 t.limit, .int .i64 t.next, .int .i64 t.lease.c, .int .i64 t.lease.m, .int .i64 t.lease.p, .slice A0 t.epochs.length c0, .slice A1 t.pools.length c1, .slice A2 t.clu.tasks.length c2, .slice A3 t.clu.nodes.length c3, .slice A4 t.clu.binds.length c4, .slice A5 t.wants.length c5, .slice A6 t.ends.length c6, .int .i64 t.seen, .slice A7 t.insts.length c7, .slice A8 t.msgs.length c8] 39)).alloc (.cells #[.int .i64 0, .int .i64 0, .int .i64 0, .int .i64 0, .int .i64 0, .int .i64 0, .int .i64 0, .int .i64 0, .slice none 0 0, .slice none 0 0, .slice none 0 0, .slice none 0 0, .slice none 0 0, .slice none 0 0, .slice none 0 0, .int .i64 0, .slice none 0 0, .slice none 0 0] 39)) := (by repeat' (first | exact Below.refl _ _ | refine Below.alloc ?_ ?_ _ | refine Below.setCell ?_ ?_ _ | refine Below.drew ?_ | (apply below_step; assumption) | (simp; done) | (simp; omega) | omega))
  have hs1 : (((w.alloc (.cells #[.int .i64 t.now, .int .i64 t.span, .int .i64 t.kind, .int .i64 t.limit, .int .i64 t.next, .int .i64 t.lease.c, .int .i64 t.lease.m, .int .i64 t.lease.p, .slice A0 t.epochs.length c0, .slice A1 t.pools.length c1, .slice A2 t.clu.tasks.length c2, .slice A3 t.clu.nodes.length c3, .slice A4 t.clu.binds.length c4, .slice A5 t.wants.length c5, .slice A6 t.ends.length c6, .int .i64 t.seen, .slice A7 t.insts.length c7, .slice A8 t.msgs.length c8] 39)).alloc (.cells #[.int .i64 0, .int .i64 0, .int .i64 0, .int .i64 0, .int .i64 0, .int .i64 0, .int .i64 0, .int .i64 0, .slice none 0 0, .slice none 0 0, .slice none 0 0, .slice none 0 0, .slice none 0 0, .slice none 0 0, .slice none 0 0, .int .i64 0, .slice none 0 0, .slice none 0 0] 39))).heap.size = w.heap.size + 2 := by simp
  refine (copyListInt_any _ t.epochs _ (HW.out.below hX).ep SM.out.1).mono ?_
  rintro e w1 ⟨ve, rfl, hro, hlo, hnd, hb1⟩
  obtain ⟨Re, me, rfl, -⟩ := own_form hro
  obtain ⟨B0, B1⟩ := boxes2 _ _ _ _ _ hb1
  have hC1 := below_of hX hb1
  have hz1 := hb1.size
  rw [hs1] at hz1 hlo
  have lte := own_lt hro
  have Fep := Lib.hid (And.intro hro (And.intro hlo (And.intro hnd lte)))
  clear hro hlo hnd hX hb1 hs1 lte
  have x9 := B0.cell 9
  have d8 := B0.cell 8
  have ff := B0.frozen
  simp at x9 d8
  have HB0 := Lib.hid B0
  have HB1 := Lib.hid B1
  have lt0 := B0.lt
  clear B0 B1
  go_wp2_with fail
  have hT : TurnB [w.heap.size] w1 (w1.setCell ⟨w.heap.size, 8, none⟩ (.slice Re t.epochs.length me)) := TurnB.put (TurnB.refl _ _) (by simp) _ _
  have hO : BlockIs (w1.setCell ⟨w.heap.size, 8, none⟩ (.slice Re t.epochs.length me)) (w.heap.size) 39 #[.int .i64 t.now, .int .i64 t.span, .int .i64 t.kind, .int .i64 t.limit, .int .i64 t.next, .int .i64 t.lease.c, .int .i64 t.lease.m, .int .i64 t.lease.p, .slice Re t.epochs.length me, .slice A1 t.pools.length c1, .slice A2 t.clu.tasks.length c2, .slice A3 t.clu.nodes.length c3, .slice A4 t.clu.binds.length c4, .slice A5 t.wants.length c5, .slice A6 t.ends.length c6, .int .i64 t.seen, .slice A7 t.insts.length c7, .slice A8 t.msgs.length c8] := by simpa using (HB0.out.put 8 (.slice Re t.epochs.length me))
  have hZ : ((w1.setCell ⟨w.heap.size, 8, none⟩ (.slice Re t.epochs.length me))).heap.size = w1.heap.size := by simp [World.setCell]
  generalize (w1.setCell ⟨w.heap.size, 8, none⟩ (.slice Re t.epochs.length me)) = w1y at hT hO hZ ⊢
  have hC1y := hC1.trans (hT.below (B := w.heap.size) (by omega) (by simp))
  have HR := Lib.hid (HB1.out.turn hT (by simp))
  have HO := Lib.hid hO
  have Fep := Lib.hid (And.intro (own_agree Fep.out.1 (hT.agree (fun b hb => ⟨own_lt Fep.out.1 b hb, by have := Fep.out.2.1 b hb; simp; omega⟩))) Fep.out.2)
  refine (copyListPool_any _ t.pools w _ hC1y HW.out.po SM.out.2.1).mono ?_
  rintro e w2 ⟨vp, xp, rfl, hown, hel, hlo, hb2⟩
  obtain ⟨Rp, mp, rfl, -⟩ := own_form hown
  have hC2 := below_of hC1y hb2
  have hz2 := hb2.size
  rw [hZ] at hz2 hlo
  have Fep := Lib.hid (And.intro (own_agree Fep.out.1 (Agree.of_below hb2 (own_lt Fep.out.1))) Fep.out.2)
  have B0 := HO.out.below hb2 HO.out.lt
  have B1 := HR.out.below hb2 HR.out.lt
  have ltp := own_lt hown
  have Fpo := Lib.hid (And.intro hown (And.intro hel (And.intro hlo ltp)))
  clear hT hO hZ HR HO HB0 HB1 lt0 hb2 hC1 ff hown hel hlo ltp x9 d8
  have d9 := B0.cell 9
  have ff := B0.frozen
  simp at d9
  have HB0 := Lib.hid B0
  have HB1 := Lib.hid B1
  have lt0 := B0.lt
  clear B0 B1
  go_wp2_with fail
  have hT : TurnB [w.heap.size] w2 (w2.setCell ⟨w.heap.size, 9, none⟩ (.slice Rp t.pools.length mp)) := TurnB.put (TurnB.refl _ _) (by simp) _ _
  have hO : BlockIs (w2.setCell ⟨w.heap.size, 9, none⟩ (.slice Rp t.pools.length mp)) (w.heap.size) 39 #[.int .i64 t.now, .int .i64 t.span, .int .i64 t.kind, .int .i64 t.limit, .int .i64 t.next, .int .i64 t.lease.c, .int .i64 t.lease.m, .int .i64 t.lease.p, .slice Re t.epochs.length me, .slice Rp t.pools.length mp, .slice A2 t.clu.tasks.length c2, .slice A3 t.clu.nodes.length c3, .slice A4 t.clu.binds.length c4, .slice A5 t.wants.length c5, .slice A6 t.ends.length c6, .int .i64 t.seen, .slice A7 t.insts.length c7, .slice A8 t.msgs.length c8] := by simpa using (HB0.out.put 9 (.slice Rp t.pools.length mp))
  have hZ : ((w2.setCell ⟨w.heap.size, 9, none⟩ (.slice Rp t.pools.length mp))).heap.size = w2.heap.size := by simp [World.setCell]
  generalize (w2.setCell ⟨w.heap.size, 9, none⟩ (.slice Rp t.pools.length mp)) = w2y at hT hO hZ ⊢
  have hC2y := hC2.trans (hT.below (B := w.heap.size) (by omega) (by simp))
  have HR := Lib.hid (HB1.out.turn hT (by simp))
  have HO := Lib.hid hO
  have hgp : ∀ b ∈ blk (.slice Rp t.pools.length mp), w.heap.size + 1 < b := fun b hb => by have := Fpo.out.2.2.1 b hb; omega
  have hO2 := own_agree Fpo.out.1 (hT.agree (fun b hb => ⟨Fpo.out.2.2.2 b hb, by have := hgp b hb; simp; omega⟩))
  have hE2 : Elems (Bor PoolR w) w2y t.pools xp [] := Fpo.out.2.1.agree (Bor.framed _) (fun _ hb => absurd hb (by simp))
  have Fpo2 := Lib.hid (And.intro hO2 hE2)
  have Fep := Lib.hid (And.intro (own_agree Fep.out.1 (hT.agree (fun b hb => ⟨own_lt Fep.out.1 b hb, by have := Fep.out.2.1 b hb; simp; omega⟩))) Fep.out.2)
  have hgl := hO.lt
  have c9 := hO.cell 9
  simp at c9
  have HGP := Lib.hid hgp
  have HCY := Lib.hid hC2y
  clear hT hO HB0 HB1 lt0 hC2 ff hO2 hE2 hgp hC2y d9
  go_loopw [16] (fun s16 wr => ∃ (k : Nat) (xa xb : List Value) (ba : List Nat), k ≤ t.pools.length ∧ s16 = .int .i64 k ∧ wr.ownsRow 0 63 12 (.slice Rp t.pools.length mp) t.pools.length (xa ++ xb) ∧ Elems PoolO wr (t.pools.take k) xa ba ∧ Elems (Bor PoolR w) wr (t.pools.drop k) xb [] ∧ ba.Nodup ∧ (∀ b ∈ ba, w2y.heap.size ≤ b) ∧ TurnB (blk (.slice Rp t.pools.length mp)) w2y wr) (fun s16 _ => (t.pools.length - intOf s16).toNat)
  case atStart => exact ⟨0, [], xp, [], by omega, rfl, Fpo2.out.1, ⟨rfl, rfl⟩, Fpo2.out.2, by simp, by simp, TurnB.refl _ _⟩
  case round =>
    obtain ⟨k, xa, xb, ba, hk, rfl, hown, hel, hbo, hnd, hlo, htn⟩ := hrel
    have hzr := htn.size
    have d0 := htn.cell c9 (fun hb => by have := HGP.out _ hb; dsimp only at this; omega)
    have hpl := SM.out.2.1
    by_cases hlt : k < t.pools.length
    · obtain ⟨p, ht⟩ : ∃ p, t.pools[k]? = some p := ⟨_, List.getElem?_eq_getElem hlt⟩
      rw [drop_at ht] at hbo
      obtain ⟨cs, ys, b1, b2, hxb, hbe, ⟨hR, -⟩, hbo2⟩ := hbo
      obtain ⟨-, rfl⟩ : b1 = [] ∧ b2 = [] := by simpa using hbe.symm
      subst hxb
      obtain ⟨gr, cap, e, hgrl, hcell, hfr⟩ := own_cells hown (by omega)
      simp only [Value.slice.injEq] at e
      obtain ⟨rfl, -, rfl⟩ := e
      have hxl : xa.length = k * 12 := by rw [hel.len (fun _ _ _ h => h.len), List.length_take, Nat.min_eq_left hk]
      obtain ⟨v1, v2, rfl, sl, si, m1, m2⟩ := hR
      have HCT := Lib.hid (fun w1 (hb : Below w.heap.size w w1) => copyNode_any p.shape _ w1 ⟨v1, v2, rfl, sl.below hb, si.below hb, m1, m2⟩)
      obtain ⟨E1, d1, rfl, _⟩ := sl.form
      obtain ⟨E2, d2, rfl, _⟩ := si.form
      have u0 := hcell (k * 12 + 0) _ (by rw [List.getElem?_append_right (by omega), hxl, Nat.add_sub_cancel_left]; rfl)
      have u1 := hcell (k * 12 + 1) _ (by rw [List.getElem?_append_right (by omega), hxl, Nat.add_sub_cancel_left]; rfl)
      have u2 := hcell (k * 12 + 2) _ (by rw [List.getElem?_append_right (by omega), hxl, Nat.add_sub_cancel_left]; rfl)
      have u3 := hcell (k * 12 + 3) _ (by rw [List.getElem?_append_right (by omega), hxl, Nat.add_sub_cancel_left]; rfl)
      have u4 := hcell (k * 12 + 4) _ (by rw [List.getElem?_append_right (by omega), hxl, Nat.add_sub_cancel_left]; rfl)
      have u5 := hcell (k * 12 + 5) _ (by rw [List.getElem?_append_right (by omega), hxl, Nat.add_sub_cancel_left]; rfl)
      have u6 := hcell (k * 12 + 6) _ (by rw [List.getElem?_append_right (by omega), hxl, Nat.add_sub_cancel_left]; rfl)
      have u7 := hcell (k * 12 + 7) _ (by rw [List.getElem?_append_right (by omega), hxl, Nat.add_sub_cancel_left]; rfl)
      have u8 := hcell (k * 12 + 8) _ (by rw [List.getElem?_append_right (by omega), hxl, Nat.add_sub_cancel_left]; rfl)
      have u9 := hcell (k * 12 + 9) _ (by rw [List.getElem?_append_right (by omega), hxl, Nat.add_sub_cancel_left]; rfl)
      have u10 := hcell (k * 12 + 10) _ (by rw [List.getElem?_append_right (by omega), hxl, Nat.add_sub_cancel_left]; rfl)
      have u11 := hcell (k * 12 + 11) _ (by rw [List.getElem?_append_right (by omega), hxl, Nat.add_sub_cancel_left]; rfl)
      simp only [Nat.add_zero] at u0
      have hlti : (k : Int) < (t.pools.length : Int) := by omega
      have hk0 : (0 : Int) ≤ (k : Int) := by omega
      have hgg := HGP.out gr (by simp [blk, Value.ownBlock])
      have hXr : Below w.heap.size w wr := HCY.out.trans (htn.below HCY.out.size (fun b hb => by have := HGP.out b hb; omega))
      have HOW := Lib.hid (And.intro hown (And.intro hel (And.intro hbo2 (And.intro hxl ht))))
      have HND := Lib.hid (And.intro hnd hlo)
      have HTN := Lib.hid htn
      clear hbe hown hel hbo2 hxl ht hnd hlo htn hcell sl si m1 m2
      go_wp2_with fail
      have hY : Below wr.heap.size wr (wr.alloc (.cells #[.int .i64 p.id, .int .i64 p.min, .int .i64 p.max, .int .i64 p.prio, .int .i64 p.shape.id, .int .i64 p.shape.pool, .int .i64 p.shape.cap.c, .int .i64 p.shape.cap.m, .int .i64 p.shape.cap.p, .slice E1 p.shape.labs.length d1, .slice E2 p.shape.taints.length d2, .bool p.shape.cordon] 63)) := (by repeat' (first | exact Below.refl _ _ | refine Below.alloc ?_ ?_ _ | refine Below.setCell ?_ ?_ _ | refine Below.drew ?_ | (apply below_step; assumption) | (simp; done) | (simp; omega) | omega))
      have BY := BlockIs.new wr 63 #[.int .i64 p.id, .int .i64 p.min, .int .i64 p.max, .int .i64 p.prio, .int .i64 p.shape.id, .int .i64 p.shape.pool, .int .i64 p.shape.cap.c, .int .i64 p.shape.cap.m, .int .i64 p.shape.cap.p, .slice E1 p.shape.labs.length d1, .slice E2 p.shape.taints.length d2, .bool p.shape.cordon]
      have hYl : wr.heap.size < (wr.alloc (.cells #[.int .i64 p.id, .int .i64 p.min, .int .i64 p.max, .int .i64 p.prio, .int .i64 p.shape.id, .int .i64 p.shape.pool, .int .i64 p.shape.cap.c, .int .i64 p.shape.cap.m, .int .i64 p.shape.cap.p, .slice E1 p.shape.labs.length d1, .slice E2 p.shape.taints.length d2, .bool p.shape.cordon] 63)).heap.size := by simp
      have p4 := (World.cell?_alloc_lt wr (.cells #[.int .i64 p.id, .int .i64 p.min, .int .i64 p.max, .int .i64 p.prio, .int .i64 p.shape.id, .int .i64 p.shape.pool, .int .i64 p.shape.cap.c, .int .i64 p.shape.cap.m, .int .i64 p.shape.cap.p, .slice E1 p.shape.labs.length d1, .slice E2 p.shape.taints.length d2, .bool p.shape.cordon] 63) ⟨gr, _, none⟩ hgrl).trans u4
      have p5 := (World.cell?_alloc_lt wr (.cells #[.int .i64 p.id, .int .i64 p.min, .int .i64 p.max, .int .i64 p.prio, .int .i64 p.shape.id, .int .i64 p.shape.pool, .int .i64 p.shape.cap.c, .int .i64 p.shape.cap.m, .int .i64 p.shape.cap.p, .slice E1 p.shape.labs.length d1, .slice E2 p.shape.taints.length d2, .bool p.shape.cordon] 63) ⟨gr, _, none⟩ hgrl).trans u5
      have p6 := (World.cell?_alloc_lt wr (.cells #[.int .i64 p.id, .int .i64 p.min, .int .i64 p.max, .int .i64 p.prio, .int .i64 p.shape.id, .int .i64 p.shape.pool, .int .i64 p.shape.cap.c, .int .i64 p.shape.cap.m, .int .i64 p.shape.cap.p, .slice E1 p.shape.labs.length d1, .slice E2 p.shape.taints.length d2, .bool p.shape.cordon] 63) ⟨gr, _, none⟩ hgrl).trans u6
      have p7 := (World.cell?_alloc_lt wr (.cells #[.int .i64 p.id, .int .i64 p.min, .int .i64 p.max, .int .i64 p.prio, .int .i64 p.shape.id, .int .i64 p.shape.pool, .int .i64 p.shape.cap.c, .int .i64 p.shape.cap.m, .int .i64 p.shape.cap.p, .slice E1 p.shape.labs.length d1, .slice E2 p.shape.taints.length d2, .bool p.shape.cordon] 63) ⟨gr, _, none⟩ hgrl).trans u7
      have p8 := (World.cell?_alloc_lt wr (.cells #[.int .i64 p.id, .int .i64 p.min, .int .i64 p.max, .int .i64 p.prio, .int .i64 p.shape.id, .int .i64 p.shape.pool, .int .i64 p.shape.cap.c, .int .i64 p.shape.cap.m, .int .i64 p.shape.cap.p, .slice E1 p.shape.labs.length d1, .slice E2 p.shape.taints.length d2, .bool p.shape.cordon] 63) ⟨gr, _, none⟩ hgrl).trans u8
      have p9 := (World.cell?_alloc_lt wr (.cells #[.int .i64 p.id, .int .i64 p.min, .int .i64 p.max, .int .i64 p.prio, .int .i64 p.shape.id, .int .i64 p.shape.pool, .int .i64 p.shape.cap.c, .int .i64 p.shape.cap.m, .int .i64 p.shape.cap.p, .slice E1 p.shape.labs.length d1, .slice E2 p.shape.taints.length d2, .bool p.shape.cordon] 63) ⟨gr, _, none⟩ hgrl).trans u9
      have p10 := (World.cell?_alloc_lt wr (.cells #[.int .i64 p.id, .int .i64 p.min, .int .i64 p.max, .int .i64 p.prio, .int .i64 p.shape.id, .int .i64 p.shape.pool, .int .i64 p.shape.cap.c, .int .i64 p.shape.cap.m, .int .i64 p.shape.cap.p, .slice E1 p.shape.labs.length d1, .slice E2 p.shape.taints.length d2, .bool p.shape.cordon] 63) ⟨gr, _, none⟩ hgrl).trans u10
      have p11 := (World.cell?_alloc_lt wr (.cells #[.int .i64 p.id, .int .i64 p.min, .int .i64 p.max, .int .i64 p.prio, .int .i64 p.shape.id, .int .i64 p.shape.pool, .int .i64 p.shape.cap.c, .int .i64 p.shape.cap.m, .int .i64 p.shape.cap.p, .slice E1 p.shape.labs.length d1, .slice E2 p.shape.taints.length d2, .bool p.shape.cordon] 63) ⟨gr, _, none⟩ hgrl).trans u11
      have pf : ∀ o, (wr.alloc (.cells #[.int .i64 p.id, .int .i64 p.min, .int .i64 p.max, .int .i64 p.prio, .int .i64 p.shape.id, .int .i64 p.shape.pool, .int .i64 p.shape.cap.c, .int .i64 p.shape.cap.m, .int .i64 p.shape.cap.p, .slice E1 p.shape.labs.length d1, .slice E2 p.shape.taints.length d2, .bool p.shape.cordon] 63)).frozen? ⟨gr, o, none⟩ = false := fun o => (hY.frozen (p := ⟨gr, o, none⟩) hgrl).trans (hfr o)
      have e0' := (World.cell?_alloc_lt wr (.cells #[.int .i64 p.id, .int .i64 p.min, .int .i64 p.max, .int .i64 p.prio, .int .i64 p.shape.id, .int .i64 p.shape.pool, .int .i64 p.shape.cap.c, .int .i64 p.shape.cap.m, .int .i64 p.shape.cap.p, .slice E1 p.shape.labs.length d1, .slice E2 p.shape.taints.length d2, .bool p.shape.cordon] 63) ⟨w.heap.size, _, none⟩ (World.block_lt_of_cell? _ _ d0)).trans d0
      generalize (wr.alloc (.cells #[.int .i64 p.id, .int .i64 p.min, .int .i64 p.max, .int .i64 p.prio, .int .i64 p.shape.id, .int .i64 p.shape.pool, .int .i64 p.shape.cap.c, .int .i64 p.shape.cap.m, .int .i64 p.shape.cap.p, .slice E1 p.shape.labs.length d1, .slice E2 p.shape.taints.length d2, .bool p.shape.cordon] 63)) = Y at hY BY hYl p4 p5 p6 p7 p8 p9 p10 p11 pf e0' ⊢
      have hXY := hXr.trans (hY.mono hXr.size)
      have hgrY : gr < Y.heap.size := by omega
      have HKR := Lib.hid (show ∀ w', TurnB [gr] Y w' → (fun w' => Below w.heap.size w w' ∧ w'.cell? ⟨w.heap.size, 9, none⟩ = some (.slice (some ⟨gr, 0, none⟩) t.pools.length mp) ∧ (∀ o, w'.cell? ⟨wr.heap.size, o, none⟩ = (#[.int .i64 p.id, .int .i64 p.min, .int .i64 p.max, .int .i64 p.prio, .int .i64 p.shape.id, .int .i64 p.shape.pool, .int .i64 p.shape.cap.c, .int .i64 p.shape.cap.m, .int .i64 p.shape.cap.p, .slice E1 p.shape.labs.length d1, .slice E2 p.shape.taints.length d2, .bool p.shape.cordon] : Array Value)[o]?)) w' from fun w' ht => ⟨hXY.trans (ht.below hXY.size (by simp; omega)), ht.cell e0' (by simp; omega), (BY.turn ht (by simp; omega)).cell⟩)
      have HYY := Lib.hid hY
      clear u0 u1 u2 u3 u4 u5 u6 u7 u8 u9 u10 u11 e0' d0 BY hXr hY
      go_region_held3 (fun w' => Below w.heap.size w w' ∧ w'.cell? ⟨w.heap.size, 9, none⟩ = some (.slice (some ⟨gr, 0, none⟩) t.pools.length mp) ∧ (∀ o, w'.cell? ⟨wr.heap.size, o, none⟩ = (#[.int .i64 p.id, .int .i64 p.min, .int .i64 p.max, .int .i64 p.prio, .int .i64 p.shape.id, .int .i64 p.shape.pool, .int .i64 p.shape.cap.c, .int .i64 p.shape.cap.m, .int .i64 p.shape.cap.p, .slice E1 p.shape.labs.length d1, .slice E2 p.shape.taints.length d2, .bool p.shape.cordon] : Array Value)[o]?))
        (exact HKR.out _ (by repeat' (first | with_reducible exact TurnB.refl _ _ | with_reducible refine TurnB.put ?_ (List.mem_singleton.2 rfl) _ _ | with_reducible refine TurnB.drew ?_ | with_reducible refine TurnB.alloc ?_ _ | (with_reducible apply turn_step; with_reducible assumption))))
        (first | (go_at_call 63; refine (HCT.out _ (by first | exact hXY | exact Below.drew hXY)).mono ?_; rintro e w3 ⟨ds, bx, rfl, hN3, hnd3, hlo3, hb3⟩; have HN3 := Lib.hid (And.intro hN3 (And.intro hnd3 hlo3)); obtain ⟨v3, v4, rfl, n3, n4, -⟩ := hN3; obtain ⟨F1, f1, rfl, -⟩ := own_form n3; obtain ⟨F2, f2, rfl, -⟩ := own_form n4; clear n3 n4 hnd3 hlo3; have x4 := (hb3.cell (p := ⟨gr, k * 12 + 4, none⟩) (by simpa using hgrY)).trans p4; have x5 := (hb3.cell (p := ⟨gr, k * 12 + 5, none⟩) (by simpa using hgrY)).trans p5; have x6 := (hb3.cell (p := ⟨gr, k * 12 + 6, none⟩) (by simpa using hgrY)).trans p6; have x7 := (hb3.cell (p := ⟨gr, k * 12 + 7, none⟩) (by simpa using hgrY)).trans p7; have x8 := (hb3.cell (p := ⟨gr, k * 12 + 8, none⟩) (by simpa using hgrY)).trans p8; have x9 := (hb3.cell (p := ⟨gr, k * 12 + 9, none⟩) (by simpa using hgrY)).trans p9; have x10 := (hb3.cell (p := ⟨gr, k * 12 + 10, none⟩) (by simpa using hgrY)).trans p10; have x11 := (hb3.cell (p := ⟨gr, k * 12 + 11, none⟩) (by simpa using hgrY)).trans p11; have xf := fun o => (hb3.frozen (p := ⟨gr, o, none⟩) (by simpa using hgrY)).trans (pf o); have hz3 := hb3.size; (try simp at hz3)))
      all_goals
        go_wp2_with fail
        go_roundw
        case rel =>
          obtain ⟨hown, hel, hbo2, hxl, ht⟩ := HOW.out
          obtain ⟨hN, hnd3, hlo3⟩ := HN3.out
          obtain ⟨hnd, hlo⟩ := HND.out
          have hW3 : Below wr.heap.size wr w3 := HYY.out.trans (((Below.refl Y.heap.size Y).drew.trans hb3).mono HYY.out.size)
          have hO3 := own_agree hown (Agree.of_below hW3 (own_lt hown))
          have st := own_put (v := .slice (some ⟨gr, 0, none⟩) t.pools.length mp) (g := gr) (xa := xa ++ [.int .i64 p.id, .int .i64 p.min, .int .i64 p.max, .int .i64 p.prio]) (cs := [.int .i64 p.shape.id, .int .i64 p.shape.pool, .int .i64 p.shape.cap.c, .int .i64 p.shape.cap.m, .int .i64 p.shape.cap.p, .slice E1 p.shape.labs.length d1, .slice E2 p.shape.taints.length d2, .bool p.shape.cordon]) (ds := [.int .i64 p.shape.id, .int .i64 p.shape.pool, .int .i64 p.shape.cap.c, .int .i64 p.shape.cap.m, .int .i64 p.shape.cap.p, .slice F1 p.shape.labs.length f1, .slice F2 p.shape.taints.length f2, .bool p.shape.cordon]) (xb := ys) (by simpa using hO3) rfl rfl
          rw [List.length_append, hxl] at st
          have st2 : (putAll w3 gr (k * 12 + 4) [.int .i64 p.shape.id, .int .i64 p.shape.pool, .int .i64 p.shape.cap.c, .int .i64 p.shape.cap.m, .int .i64 p.shape.cap.p, .slice F1 p.shape.labs.length f1, .slice F2 p.shape.taints.length f2, .bool p.shape.cordon]).ownsRow 0 63 12 (.slice (some ⟨gr, 0, none⟩) t.pools.length mp) t.pools.length (xa ++ ([.int .i64 p.id, .int .i64 p.min, .int .i64 p.max, .int .i64 p.prio, .int .i64 p.shape.id, .int .i64 p.shape.pool, .int .i64 p.shape.cap.c, .int .i64 p.shape.cap.m, .int .i64 p.shape.cap.p, .slice F1 p.shape.labs.length f1, .slice F2 p.shape.taints.length f2, .bool p.shape.cordon] ++ ys)) := by
            rw [List.append_assoc] at st
            exact st
          have hP : TurnB [gr] w3 (putAll w3 gr (k * 12 + 4) [.int .i64 p.shape.id, .int .i64 p.shape.pool, .int .i64 p.shape.cap.c, .int .i64 p.shape.cap.m, .int .i64 p.shape.cap.p, .slice F1 p.shape.labs.length f1, .slice F2 p.shape.taints.length f2, .bool p.shape.cordon]) := (TurnB.refl _ _).putAll (List.mem_singleton.2 rfl) _ _
          have hE3 := hel.agree PoolO.framed (Agree.of_below hW3 (elems_lt (fun _ _ _ h => h.lt) hel))
          have hgw := own_lt HOW.out.1 gr (by simp [blk, Value.ownBlock])
          have hgy : gr < w2y.heap.size := own_lt Fpo2.out.1 gr (by simp [blk, Value.ownBlock])
          have hEP := hE3.agree PoolO.framed (hP.agree (fun b hb => ⟨elems_lt (fun _ _ _ h => h.lt) hE3 b hb, by have := hlo b hb; simp; omega⟩))
          have hlo3' : ∀ b ∈ bx, Y.heap.size ≤ b := fun b hb => by have := hlo3 b hb; simpa using this
          have hNP := NodeO.framed _ _ _ _ _ hN (hP.agree (fun b hb => ⟨hN.lt b hb, by have := hlo3' b hb; simp; omega⟩))
          have hYs := HYY.out.size
          have hPO : PoolO (putAll w3 gr (k * 12 + 4) [.int .i64 p.shape.id, .int .i64 p.shape.pool, .int .i64 p.shape.cap.c, .int .i64 p.shape.cap.m, .int .i64 p.shape.cap.p, .slice F1 p.shape.labs.length f1, .slice F2 p.shape.taints.length f2, .bool p.shape.cordon]) p [.int .i64 p.id, .int .i64 p.min, .int .i64 p.max, .int .i64 p.prio, .int .i64 p.shape.id, .int .i64 p.shape.pool, .int .i64 p.shape.cap.c, .int .i64 p.shape.cap.m, .int .i64 p.shape.cap.p, .slice F1 p.shape.labs.length f1, .slice F2 p.shape.taints.length f2, .bool p.shape.cordon] bx := by
            obtain ⟨v1, v2, e, q1, q2, q3, q4⟩ := hNP
            simp only [List.cons.injEq, and_true, true_and] at e
            obtain ⟨rfl, rfl⟩ := e
            exact ⟨_, _, rfl, q1, q2, q3, q4⟩
          refine ⟨k + 1, xa ++ [.int .i64 p.id, .int .i64 p.min, .int .i64 p.max, .int .i64 p.prio, .int .i64 p.shape.id, .int .i64 p.shape.pool, .int .i64 p.shape.cap.c, .int .i64 p.shape.cap.m, .int .i64 p.shape.cap.p, .slice F1 p.shape.labs.length f1, .slice F2 p.shape.taints.length f2, .bool p.shape.cordon], ys, ba ++ bx, by omega, by go_num, by rw [List.append_assoc]; exact st2, by rw [take_at ht]; exact hEP.snoc hPO, hbo2.agree (Bor.framed _) (fun _ hb => absurd hb (by simp)), ?_, ?_, ?_⟩
          · rw [List.nodup_append]
            exact ⟨hnd, hnd3, fun a ha b hb e => by have := elems_lt (fun _ _ _ h => h.lt) hel a ha; have := hlo3' b hb; omega⟩
          · intro b hb
            rcases List.mem_append.1 hb with hb | hb
            · exact hlo b hb
            · have := hlo3' b hb; omega
          · exact (HTN.out.step hW3).trans (hP.mono (by simp [blk, Value.ownBlock]))
        case measure => simp [intOf]; omega
    · have hkl : k = t.pools.length := by omega
      subst hkl
      rw [List.take_length] at hel
      rw [List.drop_length] at hbo
      obtain ⟨rfl, -⟩ := hbo
      rw [List.append_nil] at hown
      have hC3 : Below w.heap.size w wr := HCY.out.trans (htn.below HCY.out.size (fun b hb => by have := HGP.out b hb; omega))
      have hz3 := htn.size
      rw [hZ] at hz3
      have B0 := HO.out.turn htn (fun hb => by have := HGP.out _ hb; omega)
      have B1 := HR.out.turn htn (fun hb => by have := HGP.out _ hb; omega)
      have Fep := Lib.hid (And.intro (own_agree Fep.out.1 (htn.agree (fun b hb => ⟨own_lt Fep.out.1 b hb, fun hx => by have := Fep.out.2.2.2 b hb; have := Fpo.out.2.2.1 b hx; omega⟩))) Fep.out.2)
      have hro : RowO PoolO 63 12 wr (.slice Rp t.pools.length mp) t.pools (blk (.slice Rp t.pools.length mp) ++ ba) := ⟨xa, ba, hown, hel, rfl⟩
      have Fpo := Lib.hid (And.intro hro (And.intro (show (blk (.slice Rp t.pools.length mp) ++ ba).Nodup from List.nodup_append.2 ⟨blk_nodup _, hnd, fun a ha b hb e => by have := Fpo.out.2.2.2 a ha; have := hlo b hb; omega⟩) (show ∀ b ∈ blk (.slice Rp t.pools.length mp) ++ ba, w1.heap.size ≤ b from fun b hb => (List.mem_append.1 hb).elim (fun hx => Fpo.out.2.2.1 b hx) (fun hx => by have := hlo b hx; omega))))
      clear hown hel hnd hlo htn hro d0 c9 hZ HO HR
      have x10 := B0.cell 10
      have x11 := B0.cell 11
      have x12 := B0.cell 12
      simp at x10 x11 x12
      have HB0 := Lib.hid B0
      have HB1 := Lib.hid B1
      clear B0 B1
      go_wp2_with fail
      refine (copyCluster_any t.clu _ _ _ _ (HW.out.below hC3).clu).mono ?_
      rintro e w4 ⟨r0, r1, r2, b2, rfl, hro, hlo, hb4⟩
      obtain ⟨R0, R1, R2, m0, m1, m2, rfl, rfl, rfl⟩ := hro.forms
      have hC4 := below_of hC3 hb4
      have hz4 := hb4.size
      have B0 := HB0.out.below hb4 HB0.out.lt
      have B1 := HB1.out.below hb4 HB1.out.lt
      have T3 := Lib.hid ((TurnB.refl [w.heap.size] wr).step hb4)
      have Fclu := Lib.hid (And.intro hro hlo)
      clear hro hlo HB0 HB1 hb4 x10 x11 x12
      have x13 := B0.cell 13
      have d10 := B0.cell 10
      have d11 := B0.cell 11
      have d12 := B0.cell 12
      have ff := B0.frozen
      simp at x13 d10 d11 d12
      have HB0 := Lib.hid B0
      have HB1 := Lib.hid B1
      have lt0 := B0.lt
      clear B0 B1
      go_wp2_with fail
      have hT : TurnB [w.heap.size] w4 (((w4.setCell ⟨w.heap.size, 10, none⟩ (.slice R0 t.clu.tasks.length m0)).setCell ⟨w.heap.size, 10 + 1, none⟩ (.slice R1 t.clu.nodes.length m1)).setCell ⟨w.heap.size, 10 + 2, none⟩ (.slice R2 t.clu.binds.length m2)) := TurnB.put (TurnB.put (TurnB.put (TurnB.refl _ _) (by simp) _ _) (by simp) _ _) (by simp) _ _
      have hO : BlockIs (((w4.setCell ⟨w.heap.size, 10, none⟩ (.slice R0 t.clu.tasks.length m0)).setCell ⟨w.heap.size, 10 + 1, none⟩ (.slice R1 t.clu.nodes.length m1)).setCell ⟨w.heap.size, 10 + 2, none⟩ (.slice R2 t.clu.binds.length m2)) (w.heap.size) 39 #[.int .i64 t.now, .int .i64 t.span, .int .i64 t.kind, .int .i64 t.limit, .int .i64 t.next, .int .i64 t.lease.c, .int .i64 t.lease.m, .int .i64 t.lease.p, .slice Re t.epochs.length me, .slice Rp t.pools.length mp, .slice R0 t.clu.tasks.length m0, .slice R1 t.clu.nodes.length m1, .slice R2 t.clu.binds.length m2, .slice A5 t.wants.length c5, .slice A6 t.ends.length c6, .int .i64 t.seen, .slice A7 t.insts.length c7, .slice A8 t.msgs.length c8] := by simpa using (((HB0.out.put 10 (.slice R0 t.clu.tasks.length m0)).put 11 (.slice R1 t.clu.nodes.length m1)).put 12 (.slice R2 t.clu.binds.length m2))
      have hZ : ((((w4.setCell ⟨w.heap.size, 10, none⟩ (.slice R0 t.clu.tasks.length m0)).setCell ⟨w.heap.size, 10 + 1, none⟩ (.slice R1 t.clu.nodes.length m1)).setCell ⟨w.heap.size, 10 + 2, none⟩ (.slice R2 t.clu.binds.length m2))).heap.size = w4.heap.size := by simp [World.setCell]
      generalize (((w4.setCell ⟨w.heap.size, 10, none⟩ (.slice R0 t.clu.tasks.length m0)).setCell ⟨w.heap.size, 10 + 1, none⟩ (.slice R1 t.clu.nodes.length m1)).setCell ⟨w.heap.size, 10 + 2, none⟩ (.slice R2 t.clu.binds.length m2)) = w4y at hT hO hZ ⊢
      have hC4y := hC4.trans (hT.below (B := w.heap.size) (by omega) (by simp))
      have HR := Lib.hid (HB1.out.turn hT (by simp))
      have HO := Lib.hid hO
      have T3 := Lib.hid (T3.out.trans hT)
      have Tclu := Lib.hid hT
      refine (copyListWant_o _ t.wants _ (HW.out.below hC4y).wa SM.out.2.2.1).mono ?_
      rintro e w5 ⟨vw, b3, rfl, hro, hnd, hlo, hb5⟩
      obtain ⟨Rw, mw, rfl⟩ := rowO_form hro
      have hC5 := below_of hC4y hb5
      have hz5 := hb5.size
      rw [hZ] at hz5
      simp only [hZ] at hlo
      have B0 := HO.out.below hb5 HO.out.lt
      have B1 := HR.out.below hb5 HR.out.lt
      have T3 := Lib.hid (T3.out.step hb5)
      have Tclu := Lib.hid (Tclu.out.step hb5)
      have Fwa := Lib.hid (And.intro hro (And.intro hnd hlo))
      clear hro hnd hlo hT hO hZ HR HO HB0 HB1 lt0 hb5 hC4 ff x13 d10 d11 d12
      have x14 := B0.cell 14
      have d13 := B0.cell 13
      have ff := B0.frozen
      simp at x14 d13
      have HB0 := Lib.hid B0
      have HB1 := Lib.hid B1
      have lt0 := B0.lt
      clear B0 B1
      go_wp2_with fail
      have hT : TurnB [w.heap.size] w5 (w5.setCell ⟨w.heap.size, 13, none⟩ (.slice Rw t.wants.length mw)) := TurnB.put (TurnB.refl _ _) (by simp) _ _
      have hO : BlockIs (w5.setCell ⟨w.heap.size, 13, none⟩ (.slice Rw t.wants.length mw)) (w.heap.size) 39 #[.int .i64 t.now, .int .i64 t.span, .int .i64 t.kind, .int .i64 t.limit, .int .i64 t.next, .int .i64 t.lease.c, .int .i64 t.lease.m, .int .i64 t.lease.p, .slice Re t.epochs.length me, .slice Rp t.pools.length mp, .slice R0 t.clu.tasks.length m0, .slice R1 t.clu.nodes.length m1, .slice R2 t.clu.binds.length m2, .slice Rw t.wants.length mw, .slice A6 t.ends.length c6, .int .i64 t.seen, .slice A7 t.insts.length c7, .slice A8 t.msgs.length c8] := by simpa using (HB0.out.put 13 (.slice Rw t.wants.length mw))
      have hZ : ((w5.setCell ⟨w.heap.size, 13, none⟩ (.slice Rw t.wants.length mw))).heap.size = w5.heap.size := by simp [World.setCell]
      generalize (w5.setCell ⟨w.heap.size, 13, none⟩ (.slice Rw t.wants.length mw)) = w5y at hT hO hZ ⊢
      have hC5y := hC5.trans (hT.below (B := w.heap.size) (by omega) (by simp))
      have HR := Lib.hid (HB1.out.turn hT (by simp))
      have HO := Lib.hid hO
      have T3 := Lib.hid (T3.out.trans hT)
      have Tclu := Lib.hid (Tclu.out.trans hT)
      have Twa := Lib.hid hT
      refine (copyListInt_any _ t.ends _ (HW.out.below hC5y).en SM.out.2.2.2.1).mono ?_
      rintro e w6 ⟨vn, rfl, hro, hlo, hnd, hb6⟩
      obtain ⟨Rn, mn, rfl, -⟩ := own_form hro
      have hC6 := below_of hC5y hb6
      have hz6 := hb6.size
      rw [hZ] at hz6
      simp only [hZ] at hlo
      have B0 := HO.out.below hb6 HO.out.lt
      have B1 := HR.out.below hb6 HR.out.lt
      have T3 := Lib.hid (T3.out.step hb6)
      have Tclu := Lib.hid (Tclu.out.step hb6)
      have Twa := Lib.hid (Twa.out.step hb6)
      have Fen := Lib.hid (And.intro hro (And.intro hnd hlo))
      clear hro hnd hlo hT hO hZ HR HO HB0 HB1 lt0 hb6 hC5 ff x14 d13
      have x16 := B0.cell 16
      have d14 := B0.cell 14
      have ff := B0.frozen
      simp at x16 d14
      have HB0 := Lib.hid B0
      have HB1 := Lib.hid B1
      have lt0 := B0.lt
      clear B0 B1
      go_wp2_with fail
      have hT : TurnB [w.heap.size] w6 (w6.setCell ⟨w.heap.size, 14, none⟩ (.slice Rn t.ends.length mn)) := TurnB.put (TurnB.refl _ _) (by simp) _ _
      have hO : BlockIs (w6.setCell ⟨w.heap.size, 14, none⟩ (.slice Rn t.ends.length mn)) (w.heap.size) 39 #[.int .i64 t.now, .int .i64 t.span, .int .i64 t.kind, .int .i64 t.limit, .int .i64 t.next, .int .i64 t.lease.c, .int .i64 t.lease.m, .int .i64 t.lease.p, .slice Re t.epochs.length me, .slice Rp t.pools.length mp, .slice R0 t.clu.tasks.length m0, .slice R1 t.clu.nodes.length m1, .slice R2 t.clu.binds.length m2, .slice Rw t.wants.length mw, .slice Rn t.ends.length mn, .int .i64 t.seen, .slice A7 t.insts.length c7, .slice A8 t.msgs.length c8] := by simpa using (HB0.out.put 14 (.slice Rn t.ends.length mn))
      have hZ : ((w6.setCell ⟨w.heap.size, 14, none⟩ (.slice Rn t.ends.length mn))).heap.size = w6.heap.size := by simp [World.setCell]
      generalize (w6.setCell ⟨w.heap.size, 14, none⟩ (.slice Rn t.ends.length mn)) = w6y at hT hO hZ ⊢
      have hC6y := hC6.trans (hT.below (B := w.heap.size) (by omega) (by simp))
      have HR := Lib.hid (HB1.out.turn hT (by simp))
      have HO := Lib.hid hO
      have T3 := Lib.hid (T3.out.trans hT)
      have Tclu := Lib.hid (Tclu.out.trans hT)
      have Twa := Lib.hid (Twa.out.trans hT)
      have Ten := Lib.hid hT
      refine (copyListInst_o _ t.insts _ (HW.out.below hC6y).ins SM.out.2.2.2.2.1).mono ?_
      rintro e w7 ⟨vi, rfl, hro, hlo, hnd, hb7⟩
      obtain ⟨Ri, mi, rfl⟩ := hro.len
      have hC7 := below_of hC6y hb7
      have hz7 := hb7.size
      rw [hZ] at hz7
      simp only [hZ] at hlo
      have B0 := HO.out.below hb7 HO.out.lt
      have B1 := HR.out.below hb7 HR.out.lt
      have T3 := Lib.hid (T3.out.step hb7)
      have Tclu := Lib.hid (Tclu.out.step hb7)
      have Twa := Lib.hid (Twa.out.step hb7)
      have Ten := Lib.hid (Ten.out.step hb7)
      have Fprov := Lib.hid (And.intro hro (And.intro hnd hlo))
      clear hro hnd hlo hT hO hZ HR HO HB0 HB1 lt0 hb7 hC6 ff x16 d14
      have x17 := B0.cell 17
      have d16 := B0.cell 16
      have ff := B0.frozen
      simp at x17 d16
      have HB0 := Lib.hid B0
      have HB1 := Lib.hid B1
      have lt0 := B0.lt
      clear B0 B1
      go_wp2_with fail
      have hT : TurnB [w.heap.size] w7 (w7.setCell ⟨w.heap.size, 16, none⟩ (.slice Ri t.insts.length mi)) := TurnB.put (TurnB.refl _ _) (by simp) _ _
      have hO : BlockIs (w7.setCell ⟨w.heap.size, 16, none⟩ (.slice Ri t.insts.length mi)) (w.heap.size) 39 #[.int .i64 t.now, .int .i64 t.span, .int .i64 t.kind, .int .i64 t.limit, .int .i64 t.next, .int .i64 t.lease.c, .int .i64 t.lease.m, .int .i64 t.lease.p, .slice Re t.epochs.length me, .slice Rp t.pools.length mp, .slice R0 t.clu.tasks.length m0, .slice R1 t.clu.nodes.length m1, .slice R2 t.clu.binds.length m2, .slice Rw t.wants.length mw, .slice Rn t.ends.length mn, .int .i64 t.seen, .slice Ri t.insts.length mi, .slice A8 t.msgs.length c8] := by simpa using (HB0.out.put 16 (.slice Ri t.insts.length mi))
      have hZ : ((w7.setCell ⟨w.heap.size, 16, none⟩ (.slice Ri t.insts.length mi))).heap.size = w7.heap.size := by simp [World.setCell]
      generalize (w7.setCell ⟨w.heap.size, 16, none⟩ (.slice Ri t.insts.length mi)) = w7y at hT hO hZ ⊢
      have hC7y := hC7.trans (hT.below (B := w.heap.size) (by omega) (by simp))
      have HR := Lib.hid (HB1.out.turn hT (by simp))
      have HO := Lib.hid hO
      have T3 := Lib.hid (T3.out.trans hT)
      have Tclu := Lib.hid (Tclu.out.trans hT)
      have Twa := Lib.hid (Twa.out.trans hT)
      have Ten := Lib.hid (Ten.out.trans hT)
      have Tprov := Lib.hid hT
      refine (copyListMsg_o _ t.msgs _ (HW.out.below hC7y).ms SM.out.2.2.2.2.2).mono ?_
      rintro e w8 ⟨vm, b6, rfl, hro, hnd, hlo, hb8⟩
      obtain ⟨Rm, mm, rfl⟩ := rowO_form hro
      have hC8 := below_of hC7y hb8
      have hz8 := hb8.size
      rw [hZ] at hz8
      simp only [hZ] at hlo
      have B0 := HO.out.below hb8 HO.out.lt
      have B1 := HR.out.below hb8 HR.out.lt
      have T3 := Lib.hid (T3.out.step hb8)
      have Tclu := Lib.hid (Tclu.out.step hb8)
      have Twa := Lib.hid (Twa.out.step hb8)
      have Ten := Lib.hid (Ten.out.step hb8)
      have Tprov := Lib.hid (Tprov.out.step hb8)
      have Fms := Lib.hid (And.intro hro (And.intro hnd hlo))
      clear hro hnd hlo hT hO hZ HR HO HB0 HB1 lt0 hb8 hC7 ff x17 d16
      have d17 := B0.cell 17
      have ff := B0.frozen
      simp at d17
      have hO : BlockIs (w8.setCell ⟨w.heap.size, 17, none⟩ (.slice Rm t.msgs.length mm)) (w.heap.size) 39 #[.int .i64 t.now, .int .i64 t.span, .int .i64 t.kind, .int .i64 t.limit, .int .i64 t.next, .int .i64 t.lease.c, .int .i64 t.lease.m, .int .i64 t.lease.p, .slice Re t.epochs.length me, .slice Rp t.pools.length mp, .slice R0 t.clu.tasks.length m0, .slice R1 t.clu.nodes.length m1, .slice R2 t.clu.binds.length m2, .slice Rw t.wants.length mw, .slice Rn t.ends.length mn, .int .i64 t.seen, .slice Ri t.insts.length mi, .slice Rm t.msgs.length mm] := by simpa using (B0.put 17 (.slice Rm t.msgs.length mm))
      have hR : BlockIs (w8.setCell ⟨w.heap.size, 17, none⟩ (.slice Rm t.msgs.length mm)) (w.heap.size + 1) 39 #[.int .i64 0, .int .i64 0, .int .i64 0, .int .i64 0, .int .i64 0, .int .i64 0, .int .i64 0, .int .i64 0, .slice none 0 0, .slice none 0 0, .slice none 0 0, .slice none 0 0, .slice none 0 0, .slice none 0 0, .slice none 0 0, .int .i64 0, .slice none 0 0, .slice none 0 0] := B1.far (p := ⟨w.heap.size, 17, none⟩) (by dsimp only; omega) _
      have hT : TurnB [w.heap.size + 1, w.heap.size] w8 ((w8.setCell ⟨w.heap.size, 17, none⟩ (.slice Rm t.msgs.length mm)).setRow (w.heap.size + 1) #[.int .i64 t.now, .int .i64 t.span, .int .i64 t.kind, .int .i64 t.limit, .int .i64 t.next, .int .i64 t.lease.c, .int .i64 t.lease.m, .int .i64 t.lease.p, .slice Re t.epochs.length me, .slice Rp t.pools.length mp, .slice R0 t.clu.tasks.length m0, .slice R1 t.clu.nodes.length m1, .slice R2 t.clu.binds.length m2, .slice Rw t.wants.length mw, .slice Rn t.ends.length mn, .int .i64 t.seen, .slice Ri t.insts.length mi, .slice Rm t.msgs.length mm]) := (TurnB.put (TurnB.refl _ _) (by simp) _ _).trans ⟨rfl, rfl, rfl, by simp [World.setRow], fun q hq hne => setRow_other _ _ _ _ (by simp at hne; omega)⟩
      have HOO := Lib.hid hO
      have HRR := Lib.hid hR
      have HF := Lib.hid (show BlockIs ((w8.setCell ⟨w.heap.size, 17, none⟩ (.slice Rm t.msgs.length mm)).setRow (w.heap.size + 1) #[.int .i64 t.now, .int .i64 t.span, .int .i64 t.kind, .int .i64 t.limit, .int .i64 t.next, .int .i64 t.lease.c, .int .i64 t.lease.m, .int .i64 t.lease.p, .slice Re t.epochs.length me, .slice Rp t.pools.length mp, .slice R0 t.clu.tasks.length m0, .slice R1 t.clu.nodes.length m1, .slice R2 t.clu.binds.length m2, .slice Rw t.wants.length mw, .slice Rn t.ends.length mn, .int .i64 t.seen, .slice Ri t.insts.length mi, .slice Rm t.msgs.length mm]) (w.heap.size + 1) 39 #[.int .i64 t.now, .int .i64 t.span, .int .i64 t.kind, .int .i64 t.limit, .int .i64 t.next, .int .i64 t.lease.c, .int .i64 t.lease.m, .int .i64 t.lease.p, .slice Re t.epochs.length me, .slice Rp t.pools.length mp, .slice R0 t.clu.tasks.length m0, .slice R1 t.clu.nodes.length m1, .slice R2 t.clu.binds.length m2, .slice Rw t.wants.length mw, .slice Rn t.ends.length mn, .int .i64 t.seen, .slice Ri t.insts.length mi, .slice Rm t.msgs.length mm] from setRow_heap _ _ _ _ _ _ hR)
      have HT := Lib.hid hT
      clear hO hR hT B0 B1
      go_wp2_with (first
        | (refine wpList_store_row rfl 39 _ _ rfl _ _ rfl rfl 39 _ HRR.out (by kernel_rfl) rfl (by simp [Value.oneCell']) ?_)
        | (refine wpList_load_row rfl 39 _ rfl _ rfl 39 _ (0, 0) _ HOO.out Tryz.underlying39 rfl (by kernel_rfl) ?_))
      refine bodyPost_ret (v := .agg #[.int .i64 t.now, .int .i64 t.span, .int .i64 t.kind, .int .i64 t.limit, .int .i64 t.next, .int .i64 t.lease.c, .int .i64 t.lease.m, .int .i64 t.lease.p, .slice Re t.epochs.length me, .slice Rp t.pools.length mp, .slice R0 t.clu.tasks.length m0, .slice R1 t.clu.nodes.length m1, .slice R2 t.clu.binds.length m2, .slice Rw t.wants.length mw, .slice Rn t.ends.length mn, .int .i64 t.seen, .slice Ri t.insts.length mi, .slice Rm t.msgs.length mm]) (results_cell_row Tryz.results18 _ _ (w.heap.size + 1) 39 _ (0, 0) _ rfl HF.out Tryz.underlying39 rfl (by kernel_rfl)) rfl ?_
      have hTF := HT.out
      clear HF HT HOO HRR
      generalize ((w8.setCell ⟨w.heap.size, 17, none⟩ (.slice Rm t.msgs.length mm)).setRow (w.heap.size + 1) #[.int .i64 t.now, .int .i64 t.span, .int .i64 t.kind, .int .i64 t.limit, .int .i64 t.next, .int .i64 t.lease.c, .int .i64 t.lease.m, .int .i64 t.lease.p, .slice Re t.epochs.length me, .slice Rp t.pools.length mp, .slice R0 t.clu.tasks.length m0, .slice R1 t.clu.nodes.length m1, .slice R2 t.clu.binds.length m2, .slice Rw t.wants.length mw, .slice Rn t.ends.length mn, .int .i64 t.seen, .slice Ri t.insts.length mi, .slice Rm t.msgs.length mm]) = wf at hTF ⊢
      have L0 : ∀ b ∈ blk (.slice Re t.epochs.length me), w.heap.size + 2 ≤ b ∧ b < w1.heap.size := fun b hb => ⟨Fep.out.2.1 b hb, Fep.out.2.2.2 b hb⟩
      have L1 : ∀ b ∈ blk (.slice Rp t.pools.length mp) ++ ba, w1.heap.size ≤ b ∧ b < wr.heap.size := fun b hb => ⟨Fpo.out.2.2 b hb, rowO_lt (fun _ _ _ h => h.lt) Fpo.out.1 b hb⟩
      have L2 : ∀ b ∈ b2, wr.heap.size ≤ b ∧ b < w4.heap.size := fun b hb => ⟨Fclu.out.2 b hb, Fclu.out.1.lt b hb⟩
      have L3 : ∀ b ∈ b3, w4.heap.size ≤ b ∧ b < w5.heap.size := fun b hb => ⟨Fwa.out.2.2 b hb, rowO_lt (fun _ _ _ h => h.lt) Fwa.out.1 b hb⟩
      have L4 : ∀ b ∈ blk (.slice Rn t.ends.length mn), w5.heap.size ≤ b ∧ b < w6.heap.size := fun b hb => ⟨Fen.out.2.2 b hb, own_lt Fen.out.1 b hb⟩
      have L5 : ∀ b ∈ blk (.slice Ri t.insts.length mi), w6.heap.size ≤ b ∧ b < w7.heap.size := fun b hb => ⟨Fprov.out.2.2 b hb, own_lt Fprov.out.1 b hb⟩
      have L6 : ∀ b ∈ b6, w7.heap.size ≤ b ∧ b < w8.heap.size := fun b hb => ⟨Fms.out.2.2 b hb, rowO_lt (fun _ _ _ h => h.lt) Fms.out.1 b hb⟩
      have full : ∀ v, TurnB [w.heap.size] v w8 → TurnB [w.heap.size + 1, w.heap.size] v wf := fun v h => (h.mono (by simp)).trans hTF
      have Aep := fun b hb => (full _ T3.out).block b (by have := (L0 b hb).2; omega) (by have := (L0 b hb).1; simp; omega)
      have Apo := fun b hb => (full _ T3.out).block b (by have := (L1 b hb).2; omega) (by have := (L1 b hb).1; simp; omega)
      have Aclu := fun b hb => (full _ Tclu.out).block b (by have := (L2 b hb).2; omega) (by have := (L2 b hb).1; simp; omega)
      have Awa := fun b hb => (full _ Twa.out).block b (by have := (L3 b hb).2; omega) (by have := (L3 b hb).1; simp; omega)
      have Aen := fun b hb => (full _ Ten.out).block b (by have := (L4 b hb).2; omega) (by have := (L4 b hb).1; simp; omega)
      have Aprov := fun b hb => (full _ Tprov.out).block b (by have := (L5 b hb).2; omega) (by have := (L5 b hb).1; simp; omega)
      have Ams := fun b hb => hTF.block b (L6 b hb).2 (by have := (L6 b hb).1; simp; omega)
      refine ⟨⟨.slice Re t.epochs.length me, .slice Rp t.pools.length mp, .slice R0 t.clu.tasks.length m0, .slice R1 t.clu.nodes.length m1, .slice R2 t.clu.binds.length m2, .slice Rw t.wants.length mw, .slice Rn t.ends.length mn, .slice Ri t.insts.length mi, .slice Rm t.msgs.length mm⟩, blk (.slice Rp t.pools.length mp) ++ ba, b2, b3, b6, rfl, ⟨?_, ?_, ?_, ?_, ?_, ?_, ?_, SM.out⟩, ?_, ?_, ?_⟩
      · exact own_agree Fep.out.1 Aep
      · exact Fpo.out.1.agree PoolO.framed Apo
      · exact Fclu.out.1.agree Aclu
      · exact Fwa.out.1.agree WantO.framed Awa
      · exact own_agree Fen.out.1 Aen
      · exact own_agree Fprov.out.1 Aprov
      · exact Fms.out.1.agree MsgO.framed Ams
      · exact nodup_wldB L0 L1 L2 L3 L4 L5 L6 Fep.out.2.2.1 Fpo.out.2.1 (by obtain ⟨_, _, _, _, _, _, _, h, _⟩ := Fclu.out.1; exact h) Fwa.out.2.1 Fen.out.2.1 Fprov.out.2.1 Fms.out.2.1
      · intro b hb
        simp only [wldB] at hb
        rcases List.mem_append.1 hb with hb | hb
        · have := L0 b hb; omega
        rcases List.mem_append.1 hb with hb | hb
        · have := L1 b hb; omega
        rcases List.mem_append.1 hb with hb | hb
        · have := L2 b hb; omega
        rcases List.mem_append.1 hb with hb | hb
        · have := L3 b hb; omega
        rcases List.mem_append.1 hb with hb | hb
        · have := L4 b hb; omega
        rcases List.mem_append.1 hb with hb | hb
        · have := L5 b hb; omega
        · have := L6 b hb; omega
      · exact hC8.trans (hTF.below hC8.size (by simp))
end Go.Proofs.YtmkpajjnjgnmkabGreatDoor

namespace Go.Proofs.YtmkpajjnjgnmkabGreatDoor
open Go.RowKit

theorem put12 {w : World} {g : Nat} {t : TypeId} {cs : Array Value} (a0 a1 a2 a3 a4 a5 a6 a7 a8 a9 aa ab : Value) (h : BlockIs w g t cs) (hs : cs.size = 12) : BlockIs ((((((((((((w.setCell ⟨g, 0, none⟩ (a0)).setCell ⟨g, 1, none⟩ (a1)).setCell ⟨g, 2, none⟩ (a2)).setCell ⟨g, 3, none⟩ (a3)).setCell ⟨g, 4, none⟩ (a4)).setCell ⟨g, 5, none⟩ (a5)).setCell ⟨g, 6, none⟩ (a6)).setCell ⟨g, 7, none⟩ (a7)).setCell ⟨g, 8, none⟩ (a8)).setCell ⟨g, 9, none⟩ (a9)).setCell ⟨g, 10, none⟩ (aa)).setCell ⟨g, 11, none⟩ (ab)) g t #[a0, a1, a2, a3, a4, a5, a6, a7, a8, a9, aa, ab] := by
  obtain ⟨l⟩ := cs
  match l, hs with
  | [b0, b1, b2, b3, b4, b5, b6, b7, b8, b9, ba, bb], _ => simpa using (((((((((((h.put 0 a0).put 1 a1).put 2 a2).put 3 a3).put 4 a4).put 5 a5).put 6 a6).put 7 a7).put 8 a8).put 9 a9).put 10 aa).put 11 ab
theorem below12 {B : Nat} {a w : World} {g : Nat} {a0 a1 a2 a3 a4 a5 a6 a7 a8 a9 aa ab : Value} (h : Below B a w) (hg : B ≤ g) : Below B a ((((((((((((w.setCell ⟨g, 0, none⟩ (a0)).setCell ⟨g, 1, none⟩ (a1)).setCell ⟨g, 2, none⟩ (a2)).setCell ⟨g, 3, none⟩ (a3)).setCell ⟨g, 4, none⟩ (a4)).setCell ⟨g, 5, none⟩ (a5)).setCell ⟨g, 6, none⟩ (a6)).setCell ⟨g, 7, none⟩ (a7)).setCell ⟨g, 8, none⟩ (a8)).setCell ⟨g, 9, none⟩ (a9)).setCell ⟨g, 10, none⟩ (aa)).setCell ⟨g, 11, none⟩ (ab)) := (((((((((((h.setCell hg _).setCell hg _).setCell hg _).setCell hg _).setCell hg _).setCell hg _).setCell hg _).setCell hg _).setCell hg _).setCell hg _).setCell hg _).setCell hg _
theorem PoolR.zero (w : World) : PoolR w PV.zero [.int .i64 0, .int .i64 0, .int .i64 0, .int .i64 0, .int .i64 0, .int .i64 0, .int .i64 0, .int .i64 0, .int .i64 0, .slice none 0 0, .slice none 0 0, .bool false] := ⟨_, _, rfl, .inl ⟨rfl, _, _, rfl⟩, .inl ⟨rfl, _, _, rfl⟩, by simp [PV.zero, NV.zero], by simp [PV.zero, NV.zero]⟩
def RetFPool (w0 w : World) (o : Option PV) (e : Ending) (w' : World) : Prop := ∃ cs : List Value, e = .returned (.tuple #[.agg cs.toArray, .bool o.isSome]) ∧ PoolR w0 (o.getD PV.zero) cs ∧ Below w.heap.size w w'
set_option maxHeartbeats 800000 in
theorem isPool_any (t : PV) (cs : List Value) (B : Nat) (z : Int) (w : World) (ok : Bool) (hR : PoolR w t cs) (hz : w.cell? ⟨B, 0, none⟩ = some (.int .i64 z)) (hok : decide (t.id = z) = ok) :
    Calls Tryz.prog 138 #[.agg cs.toArray, .pointer (some ⟨B, 0, none⟩)] w fun e w' => e = .returned (.bool ok) ∧ Below w.heap.size w w' := by
  obtain ⟨v1, v2, rfl, sl, si, m1, m2⟩ := hR; obtain ⟨A1, c1, rfl, _⟩ := sl.form; obtain ⟨A2, c2, rfl, _⟩ := si.form
  clear sl si m1 m2
  have hB := World.block_lt_of_cell? _ _ hz
  simp only at hB
  have HE := Lib.hid (show (t.id == z) = ok by rw [← hok]; rfl)
  clear hok
  go_enter Tryz.func138, Tryz.ntmps138
  go_wp2_with fail
  go_ret
  exact ⟨by rw [HE.out]; simp, (by repeat' (first | exact Below.refl _ _ | refine Below.alloc ?_ ?_ _ | refine Below.setCell ?_ ?_ _ | refine Below.drew ?_ | (apply below_step; assumption) | (simp; done) | (simp; omega) | omega))⟩

set_option maxHeartbeats 1600000 in
theorem indexPool_any (B : Nat) (z : Int) (v : Value) (l : List PV) (w : World) (hv : PoolSl w v l) (hlen : l.length ≤ 1048576) (hz : w.cell? ⟨B, 0, none⟩ = some (.int .i64 z)) :
    Calls Tryz.prog 154 #[v, .func (.func 138) #[] #[.pointer (some ⟨B, 0, none⟩)]] w fun e w' => e = .returned (.int .i64 (idxBy PV.id l z)) ∧ Below w.heap.size w w' := by
  obtain ⟨A, c, rfl, hA⟩ := hv.form
  have HA := Lib.hid hA
  have hB := World.block_lt_of_cell? _ _ hz
  simp only at hB
  have HZ := Lib.hid hz
  clear hA hv hz
  go_enter Tryz.func154, Tryz.ntmps154
  go_wp2_with fail
  go_loopw [8] (fun s8 wr => ∃ k : Nat, k ≤ l.length ∧ s8 = .int .i64 k ∧ idxBy PV.id l z = idxGo PV.id k (l.drop k) z ∧ Below w.heap.size w wr) (fun s8 _ => (l.length - intOf s8).toNat)
  case atStart => exact ⟨0, by omega, rfl, by simp [idxBy], Below.refl _ _⟩
  case round =>
    obtain ⟨k, hk, rfl, hidx, hBr⟩ := hrel
    have HI := Lib.hid hidx
    have hzr := hBr.size
    have HZR := Lib.hid ((hBr.cell (p := ⟨B, 0, none⟩) hB).trans HZ.out)
    clear hidx
    by_cases hlt : k < l.length
    · obtain ⟨b, off, rfl, hbw, hat⟩ := HA.out (by omega)
      obtain ⟨t, ht⟩ : ∃ t, l[k]? = some t := ⟨_, List.getElem?_eq_getElem hlt⟩
      obtain ⟨cs, hR, hC⟩ := (hat.below PoolR.kept hBr hbw) k t ht
      have HR := Lib.hid hR
      have HD := Lib.hid (drop_at ht)
      obtain ⟨v1, v2, rfl, sl, si, m1, m2⟩ := hR; obtain ⟨A1, c1, rfl, _⟩ := sl.form; obtain ⟨A2, c2, rfl, _⟩ := si.form
      clear sl si m1 m2
      obtain ⟨q0, q1, q2, q3, q4, q5, q6, q7, q8, q9, q10, q11⟩ := pool_cells hC
      clear hat hC ht
      by_cases e : t.id = z
      · have HE := Lib.hid e
        clear e
        go_wp2_with fail
        refine (isPool_any t _ B z _ true HR.out HZR.out (by simpa using HE.out)).mono ?_
        rintro e w2 ⟨rfl, hb2⟩
        go_wp2_with fail
        go_ret
        refine ⟨?_, (by repeat' (first | exact Below.refl _ _ | refine Below.alloc ?_ ?_ _ | refine Below.setCell ?_ ?_ _ | refine Below.drew ?_ | (apply below_step; assumption) | (simp; done) | (simp; omega) | omega))⟩
        rw [HI.out, HD.out, idxGo_hit HE.out]; rfl
      · have HE := Lib.hid e
        clear e
        go_wp2_with fail
        refine (isPool_any t _ B z _ false HR.out HZR.out (by simpa using HE.out)).mono ?_
        rintro e w2 ⟨rfl, hb2⟩
        go_wp2_with fail
        go_roundw
        case rel => exact ⟨k + 1, by omega, by go_num, by rw [HI.out, HD.out, idxGo_miss HE.out]; simp, (by repeat' (first | exact Below.refl _ _ | refine Below.alloc ?_ ?_ _ | refine Below.setCell ?_ ?_ _ | refine Below.drew ?_ | (apply below_step; assumption) | (simp; done) | (simp; omega) | omega))⟩
        case measure => simp [intOf]; omega
    · have hkl : k = l.length := by omega
      have HF := Lib.hid (show idxBy PV.id l z = -1 by rw [HI.out, hkl, List.drop_length]; rfl)
      clear hkl
      go_wp2_with fail
      go_ret
      exact ⟨by rw [HF.out]; rfl, hBr⟩

set_option maxHeartbeats 1600000 in
theorem findGPool_any (B : Nat) (z : Int) (v : Value) (l : List PV) (w0 w : World) (hw : Below w0.heap.size w0 w) (hv : PoolSl w0 v l) (hlen : l.length ≤ 1048576) (hz : w.cell? ⟨B, 0, none⟩ = some (.int .i64 z)) :
    Calls Tryz.prog 137 #[v, .func (.func 138) #[] #[.pointer (some ⟨B, 0, none⟩)]] w (RetFPool w0 w (fstBy PV.id l z)) := by
  have hv' := hv.below hw
  obtain ⟨A, c, rfl, hA⟩ := hv.form
  have hB := World.block_lt_of_cell? _ _ hz
  simp only at hB
  have HV := Lib.hid hv'
  have HZ := Lib.hid hz
  have HW := Lib.hid hw
  have hi := fun w hv hz => indexPool_any B z (.slice A l.length c) l w hv hlen hz
  cases hf : fstBy PV.id l z with
  | none =>
    rw [idxBy_none hf] at hi
    have HI := Lib.hid hi
    clear hi hf hv hv' hw hz hA
    go_enter Tryz.func137, Tryz.ntmps137
    go_wp2_with fail
    refine (HI.out _ (HV.out.below (by repeat' (first | exact Below.refl _ _ | refine Below.alloc ?_ ?_ _ | refine Below.setCell ?_ ?_ _ | refine Below.drew ?_ | (apply below_step; assumption) | (simp; done) | (simp; omega) | omega))) ((World.cell?_alloc_lt _ _ _ hB).trans HZ.out)).mono ?_
    rintro e w2 ⟨rfl, hb2⟩
    have hz2 := hb2.size
    simp at hz2
    have B1 : BlockIs w2 w.heap.size 63 #[.int .i64 0, .int .i64 0, .int .i64 0, .int .i64 0, .int .i64 0, .int .i64 0, .int .i64 0, .int .i64 0, .int .i64 0, .slice none 0 0, .slice none 0 0, .bool false] := (BlockIs.new w _ _).below hb2 (by simp)
    have hC2 : Below w.heap.size w w2 := (by repeat' (first | exact Below.refl _ _ | refine Below.alloc ?_ ?_ _ | refine Below.setCell ?_ ?_ _ | refine Below.drew ?_ | (apply below_step; assumption) | (simp; done) | (simp; omega) | omega))
    have d0 := B1.cell 0; have d1 := B1.cell 1; have d2 := B1.cell 2; have d3 := B1.cell 3; have d4 := B1.cell 4; have d5 := B1.cell 5; have d6 := B1.cell 6; have d7 := B1.cell 7; have d8 := B1.cell 8; have d9 := B1.cell 9; have d10 := B1.cell 10; have d11 := B1.cell 11
    have f1 := B1.frozen
    simp at d0 d1 d2 d3 d4 d5 d6 d7 d8 d9 d10 d11
    have HB1 := Lib.hid B1
    have hl2 : w.heap.size < w2.heap.size := by omega
    clear B1
    go_wp2_with fail
    have hZ : BlockIs (World.alloc ((((((((((((w2.setCell ⟨w.heap.size, 0, none⟩ (.int .i64 0)).setCell ⟨w.heap.size, 1, none⟩ (.int .i64 0)).setCell ⟨w.heap.size, 2, none⟩ (.int .i64 0)).setCell ⟨w.heap.size, 3, none⟩ (.int .i64 0)).setCell ⟨w.heap.size, 4, none⟩ (.int .i64 0)).setCell ⟨w.heap.size, 5, none⟩ (.int .i64 0)).setCell ⟨w.heap.size, 6, none⟩ (.int .i64 0)).setCell ⟨w.heap.size, 7, none⟩ (.int .i64 0)).setCell ⟨w.heap.size, 8, none⟩ (.int .i64 0)).setCell ⟨w.heap.size, 9, none⟩ (.slice none 0 0)).setCell ⟨w.heap.size, 10, none⟩ (.slice none 0 0)).setCell ⟨w.heap.size, 11, none⟩ (.bool false)) (.cells #[.int .i64 0, .int .i64 0, .int .i64 0, .int .i64 0, .int .i64 0, .int .i64 0, .int .i64 0, .int .i64 0, .int .i64 0, .slice none 0 0, .slice none 0 0, .bool false] 63)) w.heap.size 63 #[.int .i64 0, .int .i64 0, .int .i64 0, .int .i64 0, .int .i64 0, .int .i64 0, .int .i64 0, .int .i64 0, .int .i64 0, .slice none 0 0, .slice none 0 0, .bool false] := (put12 _ _ _ _ _ _ _ _ _ _ _ _ HB1.out rfl).alloc _
    have hX : Below w.heap.size w (World.alloc ((((((((((((w2.setCell ⟨w.heap.size, 0, none⟩ (.int .i64 0)).setCell ⟨w.heap.size, 1, none⟩ (.int .i64 0)).setCell ⟨w.heap.size, 2, none⟩ (.int .i64 0)).setCell ⟨w.heap.size, 3, none⟩ (.int .i64 0)).setCell ⟨w.heap.size, 4, none⟩ (.int .i64 0)).setCell ⟨w.heap.size, 5, none⟩ (.int .i64 0)).setCell ⟨w.heap.size, 6, none⟩ (.int .i64 0)).setCell ⟨w.heap.size, 7, none⟩ (.int .i64 0)).setCell ⟨w.heap.size, 8, none⟩ (.int .i64 0)).setCell ⟨w.heap.size, 9, none⟩ (.slice none 0 0)).setCell ⟨w.heap.size, 10, none⟩ (.slice none 0 0)).setCell ⟨w.heap.size, 11, none⟩ (.bool false)) (.cells #[.int .i64 0, .int .i64 0, .int .i64 0, .int .i64 0, .int .i64 0, .int .i64 0, .int .i64 0, .int .i64 0, .int .i64 0, .slice none 0 0, .slice none 0 0, .bool false] 63)) := (below12 hC2 (Nat.le_refl _)).alloc (by simp [World.setCell]; omega) _
    generalize (World.alloc ((((((((((((w2.setCell ⟨w.heap.size, 0, none⟩ (.int .i64 0)).setCell ⟨w.heap.size, 1, none⟩ (.int .i64 0)).setCell ⟨w.heap.size, 2, none⟩ (.int .i64 0)).setCell ⟨w.heap.size, 3, none⟩ (.int .i64 0)).setCell ⟨w.heap.size, 4, none⟩ (.int .i64 0)).setCell ⟨w.heap.size, 5, none⟩ (.int .i64 0)).setCell ⟨w.heap.size, 6, none⟩ (.int .i64 0)).setCell ⟨w.heap.size, 7, none⟩ (.int .i64 0)).setCell ⟨w.heap.size, 8, none⟩ (.int .i64 0)).setCell ⟨w.heap.size, 9, none⟩ (.slice none 0 0)).setCell ⟨w.heap.size, 10, none⟩ (.slice none 0 0)).setCell ⟨w.heap.size, 11, none⟩ (.bool false)) (.cells #[.int .i64 0, .int .i64 0, .int .i64 0, .int .i64 0, .int .i64 0, .int .i64 0, .int .i64 0, .int .i64 0, .int .i64 0, .slice none 0 0, .slice none 0 0, .bool false] 63)) = X at hZ hX ⊢
    have z0 := hZ.cell 0; have z1 := hZ.cell 1; have z2 := hZ.cell 2; have z3 := hZ.cell 3; have z4 := hZ.cell 4; have z5 := hZ.cell 5; have z6 := hZ.cell 6; have z7 := hZ.cell 7; have z8 := hZ.cell 8; have z9 := hZ.cell 9; have z10 := hZ.cell 10; have z11 := hZ.cell 11
    simp at z0 z1 z2 z3 z4 z5 z6 z7 z8 z9 z10 z11
    exact bodyPost_ret (v := .tuple #[.agg #[.int .i64 0, .int .i64 0, .int .i64 0, .int .i64 0, .int .i64 0, .int .i64 0, .int .i64 0, .int .i64 0, .int .i64 0, .slice none 0 0, .slice none 0 0, .bool false], .bool false]) (by simp [results, Tryz.results137, go_sem, z0, z1, z2, z3, z4, z5, z6, z7, z8, z9, z10, z11]) rfl ⟨_, rfl, PoolR.zero _, hX⟩
  | some t =>
    obtain ⟨j, hj, hjt, hkz, hmn⟩ := idxBy_some hf
    clear hkz hmn
    rw [hj] at hi
    have HI := Lib.hid hi
    have hjl : j < l.length := (List.getElem?_eq_some_iff.1 hjt).1
    obtain ⟨b, off, rfl, hbw, hat⟩ := hA (by omega)
    obtain ⟨cs, hR, hC⟩ := hat j t hjt
    have HR := Lib.hid hR
    have HC := Lib.hid hC
    have hbw' : b < w.heap.size := Nat.lt_of_lt_of_le hbw hw.size
    have HC' := Lib.hid (hC.below hw hbw)
    clear hi hf hv hv' hw hz hj hjt hat hC hA
    obtain ⟨v1, v2, rfl, sl, si, m1, m2⟩ := hR; obtain ⟨A1, c1, rfl, _⟩ := sl.form; obtain ⟨A2, c2, rfl, _⟩ := si.form
    clear sl si m1 m2
    go_enter Tryz.func137, Tryz.ntmps137
    go_wp2_with fail
    refine (HI.out _ (HV.out.below (by repeat' (first | exact Below.refl _ _ | refine Below.alloc ?_ ?_ _ | refine Below.setCell ?_ ?_ _ | refine Below.drew ?_ | (apply below_step; assumption) | (simp; done) | (simp; omega) | omega))) ((World.cell?_alloc_lt _ _ _ hB).trans HZ.out)).mono ?_
    rintro e w2 ⟨rfl, hb2⟩
    have hz2 := hb2.size
    simp at hz2
    have B1 : BlockIs w2 w.heap.size 63 #[.int .i64 0, .int .i64 0, .int .i64 0, .int .i64 0, .int .i64 0, .int .i64 0, .int .i64 0, .int .i64 0, .int .i64 0, .slice none 0 0, .slice none 0 0, .bool false] := (BlockIs.new w _ _).below hb2 (by simp)
    have hC2 : Below w.heap.size w w2 := (by repeat' (first | exact Below.refl _ _ | refine Below.alloc ?_ ?_ _ | refine Below.setCell ?_ ?_ _ | refine Below.drew ?_ | (apply below_step; assumption) | (simp; done) | (simp; omega) | omega))
    obtain ⟨q0, q1, q2, q3, q4, q5, q6, q7, q8, q9, q10, q11⟩ := pool_cells (HC'.out.below hC2 hbw')
    have d0 := B1.cell 0; have d1 := B1.cell 1; have d2 := B1.cell 2; have d3 := B1.cell 3; have d4 := B1.cell 4; have d5 := B1.cell 5; have d6 := B1.cell 6; have d7 := B1.cell 7; have d8 := B1.cell 8; have d9 := B1.cell 9; have d10 := B1.cell 10; have d11 := B1.cell 11
    have f1 := B1.frozen
    simp at d0 d1 d2 d3 d4 d5 d6 d7 d8 d9 d10 d11
    have HB1 := Lib.hid B1
    have hji : (j : Int) < (l.length : Int) := by omega
    have hj0 : (0 : Int) ≤ (j : Int) := by omega
    clear B1
    go_wp2_with fail
    have hZ : BlockIs ((((((((((((w2.setCell ⟨w.heap.size, 0, none⟩ (.int .i64 t.id)).setCell ⟨w.heap.size, 1, none⟩ (.int .i64 t.min)).setCell ⟨w.heap.size, 2, none⟩ (.int .i64 t.max)).setCell ⟨w.heap.size, 3, none⟩ (.int .i64 t.prio)).setCell ⟨w.heap.size, 4, none⟩ (.int .i64 t.shape.id)).setCell ⟨w.heap.size, 5, none⟩ (.int .i64 t.shape.pool)).setCell ⟨w.heap.size, 6, none⟩ (.int .i64 t.shape.cap.c)).setCell ⟨w.heap.size, 7, none⟩ (.int .i64 t.shape.cap.m)).setCell ⟨w.heap.size, 8, none⟩ (.int .i64 t.shape.cap.p)).setCell ⟨w.heap.size, 9, none⟩ (.slice A1 t.shape.labs.length c1)).setCell ⟨w.heap.size, 10, none⟩ (.slice A2 t.shape.taints.length c2)).setCell ⟨w.heap.size, 11, none⟩ (.bool t.shape.cordon)) w.heap.size 63 #[.int .i64 t.id, .int .i64 t.min, .int .i64 t.max, .int .i64 t.prio, .int .i64 t.shape.id, .int .i64 t.shape.pool, .int .i64 t.shape.cap.c, .int .i64 t.shape.cap.m, .int .i64 t.shape.cap.p, .slice A1 t.shape.labs.length c1, .slice A2 t.shape.taints.length c2, .bool t.shape.cordon] := put12 _ _ _ _ _ _ _ _ _ _ _ _ HB1.out rfl
    have hX : Below w.heap.size w ((((((((((((w2.setCell ⟨w.heap.size, 0, none⟩ (.int .i64 t.id)).setCell ⟨w.heap.size, 1, none⟩ (.int .i64 t.min)).setCell ⟨w.heap.size, 2, none⟩ (.int .i64 t.max)).setCell ⟨w.heap.size, 3, none⟩ (.int .i64 t.prio)).setCell ⟨w.heap.size, 4, none⟩ (.int .i64 t.shape.id)).setCell ⟨w.heap.size, 5, none⟩ (.int .i64 t.shape.pool)).setCell ⟨w.heap.size, 6, none⟩ (.int .i64 t.shape.cap.c)).setCell ⟨w.heap.size, 7, none⟩ (.int .i64 t.shape.cap.m)).setCell ⟨w.heap.size, 8, none⟩ (.int .i64 t.shape.cap.p)).setCell ⟨w.heap.size, 9, none⟩ (.slice A1 t.shape.labs.length c1)).setCell ⟨w.heap.size, 10, none⟩ (.slice A2 t.shape.taints.length c2)).setCell ⟨w.heap.size, 11, none⟩ (.bool t.shape.cordon)) := below12 hC2 (Nat.le_refl _)
    generalize ((((((((((((w2.setCell ⟨w.heap.size, 0, none⟩ (.int .i64 t.id)).setCell ⟨w.heap.size, 1, none⟩ (.int .i64 t.min)).setCell ⟨w.heap.size, 2, none⟩ (.int .i64 t.max)).setCell ⟨w.heap.size, 3, none⟩ (.int .i64 t.prio)).setCell ⟨w.heap.size, 4, none⟩ (.int .i64 t.shape.id)).setCell ⟨w.heap.size, 5, none⟩ (.int .i64 t.shape.pool)).setCell ⟨w.heap.size, 6, none⟩ (.int .i64 t.shape.cap.c)).setCell ⟨w.heap.size, 7, none⟩ (.int .i64 t.shape.cap.m)).setCell ⟨w.heap.size, 8, none⟩ (.int .i64 t.shape.cap.p)).setCell ⟨w.heap.size, 9, none⟩ (.slice A1 t.shape.labs.length c1)).setCell ⟨w.heap.size, 10, none⟩ (.slice A2 t.shape.taints.length c2)).setCell ⟨w.heap.size, 11, none⟩ (.bool t.shape.cordon)) = X at hZ hX ⊢
    have z0 := hZ.cell 0; have z1 := hZ.cell 1; have z2 := hZ.cell 2; have z3 := hZ.cell 3; have z4 := hZ.cell 4; have z5 := hZ.cell 5; have z6 := hZ.cell 6; have z7 := hZ.cell 7; have z8 := hZ.cell 8; have z9 := hZ.cell 9; have z10 := hZ.cell 10; have z11 := hZ.cell 11
    simp at z0 z1 z2 z3 z4 z5 z6 z7 z8 z9 z10 z11
    exact bodyPost_ret (v := .tuple #[.agg #[.int .i64 t.id, .int .i64 t.min, .int .i64 t.max, .int .i64 t.prio, .int .i64 t.shape.id, .int .i64 t.shape.pool, .int .i64 t.shape.cap.c, .int .i64 t.shape.cap.m, .int .i64 t.shape.cap.p, .slice A1 t.shape.labs.length c1, .slice A2 t.shape.taints.length c2, .bool t.shape.cordon], .bool true]) (by simp [results, Tryz.results137, go_sem, z0, z1, z2, z3, z4, z5, z6, z7, z8, z9, z10, z11]) rfl ⟨_, rfl, HR.out, hX⟩
set_option maxHeartbeats 1600000 in
theorem findPool_any (v : Value) (l : List PV) (z : Int) (w0 w : World) (hw : Below w0.heap.size w0 w) (hv : PoolSl w0 v l) (hlen : l.length ≤ 1048576) :
    Calls Tryz.prog 111 #[v, .int .i64 z] w (RetFPool w0 w (fstBy PV.id l z)) := by
  have hf := fun B w1 hw1 hz => findGPool_any B z v l w0 w1 hw1 hv hlen hz
  generalize fstBy PV.id l z = o at hf ⊢
  have HF := Lib.hid hf
  have HW := Lib.hid hw
  have hmf : ∀ (fn : Fn) (first cap : Array Value) (w : World), (Instr.makeFunc fn first cap).run Tryz.prog w = .ok (.func fn first cap) w := fun _ _ _ _ => rfl
  clear hf hw hv hlen
  go_enter Tryz.func111, Tryz.ntmps111
  go_wp2_with fail
  have hX3 : Below w.heap.size w ((w.alloc (.cells #[.int .i64 z] 3)).alloc (.cells #[.int .i64 0, .int .i64 0, .int .i64 0, .int .i64 0, .int .i64 0, .int .i64 0, .int .i64 0, .int .i64 0, .int .i64 0, .slice none 0 0, .slice none 0 0, .bool false] 63)) := (by repeat' (first | exact Below.refl _ _ | refine Below.alloc ?_ ?_ _ | refine Below.setCell ?_ ?_ _ | refine Below.drew ?_ | (apply below_step; assumption) | (simp; done) | (simp; omega) | omega))
  refine (HF.out w.heap.size _ (below_of HW.out hX3) ((BlockIs.alloc (BlockIs.new w _ _) _).cell 0)).mono ?_
  rintro e w3 ⟨cs, rfl, hR, hb3⟩
  have hz3 := hb3.size
  simp at hz3
  have hC3 := below_of hX3 hb3
  have B2 : BlockIs w3 (w.heap.size + 1) 63 #[.int .i64 0, .int .i64 0, .int .i64 0, .int .i64 0, .int .i64 0, .int .i64 0, .int .i64 0, .int .i64 0, .int .i64 0, .slice none 0 0, .slice none 0 0, .bool false] := (BlockIs.new' (by simp)).below hb3 (by simp)
  have HR := Lib.hid hR
  generalize hgt : o.getD PV.zero = t at hR HR
  have HG := Lib.hid hgt
  clear hgt
  obtain ⟨v1, v2, rfl, sl, si, m1, m2⟩ := hR; obtain ⟨A1, c1, rfl, _⟩ := sl.form; obtain ⟨A2, c2, rfl, _⟩ := si.form
  clear sl si m1 m2
  have d0 := B2.cell 0; have d1 := B2.cell 1; have d2 := B2.cell 2; have d3 := B2.cell 3; have d4 := B2.cell 4; have d5 := B2.cell 5; have d6 := B2.cell 6; have d7 := B2.cell 7; have d8 := B2.cell 8; have d9 := B2.cell 9; have d10 := B2.cell 10; have d11 := B2.cell 11
  have f1 := B2.frozen
  simp at d0 d1 d2 d3 d4 d5 d6 d7 d8 d9 d10 d11
  have HB2 := Lib.hid B2
  clear B2 hX3 hb3
  go_wp2_with fail
  have hZ : BlockIs ((((((((((((w3.setCell ⟨w.heap.size + 1, 0, none⟩ (.int .i64 t.id)).setCell ⟨w.heap.size + 1, 1, none⟩ (.int .i64 t.min)).setCell ⟨w.heap.size + 1, 2, none⟩ (.int .i64 t.max)).setCell ⟨w.heap.size + 1, 3, none⟩ (.int .i64 t.prio)).setCell ⟨w.heap.size + 1, 4, none⟩ (.int .i64 t.shape.id)).setCell ⟨w.heap.size + 1, 5, none⟩ (.int .i64 t.shape.pool)).setCell ⟨w.heap.size + 1, 6, none⟩ (.int .i64 t.shape.cap.c)).setCell ⟨w.heap.size + 1, 7, none⟩ (.int .i64 t.shape.cap.m)).setCell ⟨w.heap.size + 1, 8, none⟩ (.int .i64 t.shape.cap.p)).setCell ⟨w.heap.size + 1, 9, none⟩ (.slice A1 t.shape.labs.length c1)).setCell ⟨w.heap.size + 1, 10, none⟩ (.slice A2 t.shape.taints.length c2)).setCell ⟨w.heap.size + 1, 11, none⟩ (.bool t.shape.cordon)) (w.heap.size + 1) 63 #[.int .i64 t.id, .int .i64 t.min, .int .i64 t.max, .int .i64 t.prio, .int .i64 t.shape.id, .int .i64 t.shape.pool, .int .i64 t.shape.cap.c, .int .i64 t.shape.cap.m, .int .i64 t.shape.cap.p, .slice A1 t.shape.labs.length c1, .slice A2 t.shape.taints.length c2, .bool t.shape.cordon] := put12 _ _ _ _ _ _ _ _ _ _ _ _ HB2.out rfl
  have hX : Below w.heap.size w ((((((((((((w3.setCell ⟨w.heap.size + 1, 0, none⟩ (.int .i64 t.id)).setCell ⟨w.heap.size + 1, 1, none⟩ (.int .i64 t.min)).setCell ⟨w.heap.size + 1, 2, none⟩ (.int .i64 t.max)).setCell ⟨w.heap.size + 1, 3, none⟩ (.int .i64 t.prio)).setCell ⟨w.heap.size + 1, 4, none⟩ (.int .i64 t.shape.id)).setCell ⟨w.heap.size + 1, 5, none⟩ (.int .i64 t.shape.pool)).setCell ⟨w.heap.size + 1, 6, none⟩ (.int .i64 t.shape.cap.c)).setCell ⟨w.heap.size + 1, 7, none⟩ (.int .i64 t.shape.cap.m)).setCell ⟨w.heap.size + 1, 8, none⟩ (.int .i64 t.shape.cap.p)).setCell ⟨w.heap.size + 1, 9, none⟩ (.slice A1 t.shape.labs.length c1)).setCell ⟨w.heap.size + 1, 10, none⟩ (.slice A2 t.shape.taints.length c2)).setCell ⟨w.heap.size + 1, 11, none⟩ (.bool t.shape.cordon)) := below12 hC3 (by omega)
  generalize ((((((((((((w3.setCell ⟨w.heap.size + 1, 0, none⟩ (.int .i64 t.id)).setCell ⟨w.heap.size + 1, 1, none⟩ (.int .i64 t.min)).setCell ⟨w.heap.size + 1, 2, none⟩ (.int .i64 t.max)).setCell ⟨w.heap.size + 1, 3, none⟩ (.int .i64 t.prio)).setCell ⟨w.heap.size + 1, 4, none⟩ (.int .i64 t.shape.id)).setCell ⟨w.heap.size + 1, 5, none⟩ (.int .i64 t.shape.pool)).setCell ⟨w.heap.size + 1, 6, none⟩ (.int .i64 t.shape.cap.c)).setCell ⟨w.heap.size + 1, 7, none⟩ (.int .i64 t.shape.cap.m)).setCell ⟨w.heap.size + 1, 8, none⟩ (.int .i64 t.shape.cap.p)).setCell ⟨w.heap.size + 1, 9, none⟩ (.slice A1 t.shape.labs.length c1)).setCell ⟨w.heap.size + 1, 10, none⟩ (.slice A2 t.shape.taints.length c2)).setCell ⟨w.heap.size + 1, 11, none⟩ (.bool t.shape.cordon)) = X at hZ hX ⊢
  have z0 := hZ.cell 0; have z1 := hZ.cell 1; have z2 := hZ.cell 2; have z3 := hZ.cell 3; have z4 := hZ.cell 4; have z5 := hZ.cell 5; have z6 := hZ.cell 6; have z7 := hZ.cell 7; have z8 := hZ.cell 8; have z9 := hZ.cell 9; have z10 := hZ.cell 10; have z11 := hZ.cell 11
  simp at z0 z1 z2 z3 z4 z5 z6 z7 z8 z9 z10 z11
  exact bodyPost_ret (v := .tuple #[.agg #[.int .i64 t.id, .int .i64 t.min, .int .i64 t.max, .int .i64 t.prio, .int .i64 t.shape.id, .int .i64 t.shape.pool, .int .i64 t.shape.cap.c, .int .i64 t.shape.cap.m, .int .i64 t.shape.cap.p, .slice A1 t.shape.labs.length c1, .slice A2 t.shape.taints.length c2, .bool t.shape.cordon], .bool o.isSome]) (by simp [results, Tryz.results111, go_sem, z0, z1, z2, z3, z4, z5, z6, z7, z8, z9, z10, z11]) rfl ⟨_, rfl, by rw [HG.out]; exact HR.out, hX⟩
end Go.Proofs.YtmkpajjnjgnmkabGreatDoor
