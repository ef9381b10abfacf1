/- The number of nodes of a pool: countIn, PoolCount and their models. Worlds in plain Lean: what chapter 8's WorldOk, Leader, WorldSafe and WorldNew compute (a Want is a BV: Id, Pool are task, node). Slices of wants and of messages: what they read as; the laws' helpers over them. (mkwant.py) The contracts of LeaseOk, LeaseTry, LeaseHolds and of what they call. The contracts of the model's LeaseOk, LeaseTry, LeaseHolds; the laws' toLease, eqLease. Slices of instances in memory; the laws' helpers over them: toInstS, eqInstS, szInstS. Worlds in memory: what a world's value reads as. The laws' helpers that write marks and look for them, over a cluster: markCluster, heldCluster. Boxes that a call has made, behind another call. The laws' helper toCluster: its result owns its memory, block by block. append of an instance to a slice of the call's own. Memory of a world of the call's own: WldO; the laws' toPoolS, toWantS, toMsgS with what they own. (mkworldo.py) The laws' toProv, eqProv, szProv. The laws' toWorld: its result owns its memory, block by block. (mkworldo.py) A provider by value, opened. A world as an argument, opened. (mkworldrow.py) The laws' szWorld and eqWorld. (mkworldeq.py) append of an int to a slice of the call's own. -/
import Derived.Test.YtcegofdmdemcbaaGreatDoorMg03
import Derived.Test.YtcegofdmdemcbaaGreatDoorCluSOk
import Derived.Test.YtcegofdmdemcbaaGreatDoorMg02
import Derived.Test.YtcegofdmdemcbaaGreatDoorMg01
import Derived.Test.YtcegofdmdemcbaaGreatDoorMg00
import Derived.Laws.StructEq
import Derived.Deep.RegionHeld3
import Derived.Deep.DeepCutAuto
import Derived.Deep.AppendLies
import Derived.OwnWalk
import Derived.Laws.OwnMore
import Derived.Deep.RegionLaw
import Derived.Deep.DrawnRows
import Derived.Laws.Rows
import Derived.Laws.Tables
import Derived.Laws.CopyOwn
import Derived.Deep.Slices
import Derived.Deep.Fields
import Derived.Deep.Strs
import Derived.ChangeSame
import Derived.Lib.SmallJoins
namespace Go.Proofs.YtcegofdmdemcbaaGreatDoor
open Go.RowKit

def countOf (z : Int) : List NV → Nat
  | [] => 0
  | n :: r => (if n.pool = z then 1 else 0) + countOf z r
theorem countOf_append (z : Int) (a b : List NV) : countOf z (a ++ b) = countOf z a + countOf z b := by
  induction a with
  | nil => simp [countOf]
  | cons x r ih => simp only [List.cons_append, countOf, ih]; omega
theorem countOf_le (z : Int) (l : List NV) : countOf z l ≤ l.length := by
  induction l with
  | nil => simp [countOf]
  | cons x r ih => simp only [countOf, List.length_cons]; split <;> omega
theorem countOf_yes {z : Int} {l : List NV} {k : Nat} {n : NV} (h : l[k]? = some n) (e : n.pool = z) : countOf z (l.take (k + 1)) = countOf z (l.take k) + 1 := by
  rw [take_at h, countOf_append]; simp [countOf, e]
theorem countOf_no {z : Int} {l : List NV} {k : Nat} {n : NV} (h : l[k]? = some n) (e : n.pool ≠ z) : countOf z (l.take (k + 1)) = countOf z (l.take k) := by
  rw [take_at h, countOf_append]; simp [countOf, e]
theorem countOf_take_le (z : Int) (l : List NV) (k : Nat) : countOf z (l.take k) ≤ l.length := by
  have := countOf_le z (l.take k)
  rw [List.length_take] at this; omega
set_option maxHeartbeats 1600000 in
theorem countIn_any (c : CV) (a0 a1 a2 : Value) (z : Int) (w : World) (hc : CluR w c a0 a1 a2) :
    Calls Tryz.prog 151 #[.agg #[a0, a1, a2], .int .i64 z] w fun e w' => e = .returned (.int .i64 (countOf z c.nodes)) ∧ Below w.heap.size w w' := by
  obtain ⟨h0, h1, h2, l0, l1, l2⟩ := hc
  obtain ⟨D0, e0, rfl, r0⟩ := h0.form
  obtain ⟨D1, e1, rfl, hA⟩ := h1.form
  obtain ⟨D2, e2, rfl, r2⟩ := h2.form
  have HA := Lib.hid hA
  clear hA h0 h1 h2 l0 l2 r0 r2
  go_enter Tryz.func151, Tryz.ntmps151
  go_wp2_with fail
  go_loopw [5, 11] (fun s5 s10 wr => ∃ k : Nat, k ≤ c.nodes.length ∧ s10 = .int .i64 k ∧ s5 = .int .i64 (countOf z (c.nodes.take k)) ∧ Below w.heap.size w wr) (fun _ s10 _ => (c.nodes.length - intOf s10).toNat)
  case atStart => exact ⟨0, by omega, rfl, by simp [countOf], (by repeat' (first | exact Below.refl _ _ | refine Below.alloc ?_ ?_ _ | refine Below.setCell ?_ ?_ _ | refine Below.drew ?_ | (apply below_step; assumption) | (simp; done) | (simp; omega) | omega))⟩
  case round =>
    obtain ⟨k, hk, rfl, rfl, hB⟩ := hrel
    have hzr := hB.size
    by_cases hlt : k < c.nodes.length
    · obtain ⟨b, off, rfl, hbw, hat⟩ := HA.out (by omega)
      obtain ⟨t, ht⟩ : ∃ t, c.nodes[k]? = some t := ⟨_, List.getElem?_eq_getElem hlt⟩
      obtain ⟨cs, hR, hC0⟩ := hat k t ht
      have hC := hC0.below hB hbw
      have HT := Lib.hid ht
      have hct := countOf_take_le z c.nodes k
      obtain ⟨v1, v2, rfl, sl, si, m1, m2⟩ := hR
      obtain ⟨A1, c1, rfl, _⟩ := sl.form
      obtain ⟨A2, c2, rfl, _⟩ := si.form
      obtain ⟨q0, q1, q2, q3, q4, q5, q6, q7⟩ := node_cells hC
      have hbr : b < wr.heap.size := by omega
      clear hat hC hC0 ht sl si m1 m2
      generalize hm : countOf z (c.nodes.take k) = m at hct
      have HM := Lib.hid hm
      clear hm
      by_cases e : t.pool = z
      · have HE := Lib.hid e
        have e' : (t.pool == z) = true := by simp [e]
        clear e
        go_wp2_with fail
        go_roundw
        case rel => exact ⟨k + 1, by omega, by go_num, by rw [countOf_yes HT.out HE.out, HM.out]; go_num, (by repeat' (first | exact Below.refl _ _ | refine Below.alloc ?_ ?_ _ | refine Below.setCell ?_ ?_ _ | refine Below.drew ?_ | (apply below_step; assumption) | (simp; done) | (simp; omega) | omega))⟩
        case measure => simp [intOf]; omega
      · have HE := Lib.hid e
        have e' : (t.pool == z) = false := by simp [e]
        clear e
        go_wp2_with fail
        go_roundw
        case rel => exact ⟨k + 1, by omega, by go_num, by rw [countOf_no HT.out HE.out, HM.out], (by repeat' (first | exact Below.refl _ _ | refine Below.alloc ?_ ?_ _ | refine Below.setCell ?_ ?_ _ | refine Below.drew ?_ | (apply below_step; assumption) | (simp; done) | (simp; omega) | omega))⟩
        case measure => simp [intOf]; omega
    · have hkl : k = c.nodes.length := by omega
      have HF := Lib.hid (show countOf z (c.nodes.take k) = countOf z c.nodes by rw [hkl, List.take_length])
      clear hkl
      go_wp2_with fail
      go_ret
      exact ⟨by rw [HF.out]; rfl, hB⟩
set_option maxHeartbeats 1600000 in
theorem sCountIn_any (c : CV) (a0 a1 a2 : Value) (z : Int) (w : World) (hc : CluR w c a0 a1 a2) :
    Calls Tryz.prog 80 #[.agg #[a0, a1, a2], .int .i64 z] w fun e w' => e = .returned (.int .i64 (countOf z c.nodes)) ∧ Below w.heap.size w w' := by
  obtain ⟨h0, h1, h2, l0, l1, l2⟩ := hc
  obtain ⟨D0, e0, rfl, r0⟩ := h0.form
  obtain ⟨D1, e1, rfl, hA⟩ := h1.form
  obtain ⟨D2, e2, rfl, r2⟩ := h2.form
  have HA := Lib.hid hA
  clear hA h0 h1 h2 l0 l2 r0 r2
  go_enter Tryz.func80, Tryz.ntmps80
  go_wp2_with fail
  have hX : Below w.heap.size w (w.alloc (.cells #[.slice D0 c.tasks.length e0, .slice D1 c.nodes.length e1, .slice D2 c.binds.length e2] 32)) := (by repeat' (first | exact Below.refl _ _ | refine Below.alloc ?_ ?_ _ | refine Below.setCell ?_ ?_ _ | refine Below.drew ?_ | (apply below_step; assumption) | (simp; done) | (simp; omega) | omega))
  have BX := BlockIs.new w 32 #[.slice D0 c.tasks.length e0, .slice D1 c.nodes.length e1, .slice D2 c.binds.length e2]
  go_loopw [5, 6] (fun s5 s6 wr => ∃ k : Nat, k ≤ c.nodes.length ∧ s6 = .int .i64 k ∧ s5 = .int .i64 (countOf z (c.nodes.take k)) ∧ wr = w.alloc (.cells #[.slice D0 c.tasks.length e0, .slice D1 c.nodes.length e1, .slice D2 c.binds.length e2] 32)) (fun _ s6 _ => (c.nodes.length - intOf s6).toNat)
  case atStart => exact ⟨0, by omega, rfl, by simp [countOf], rfl⟩
  case round =>
    obtain ⟨k, hk, rfl, rfl, rfl⟩ := hrel
    by_cases hlt : k < c.nodes.length
    · obtain ⟨b, off, rfl, hbw, hat⟩ := HA.out (by omega)
      obtain ⟨t, ht⟩ : ∃ t, c.nodes[k]? = some t := ⟨_, List.getElem?_eq_getElem hlt⟩
      obtain ⟨cs, hR, hC0⟩ := hat k t ht
      have hC := hC0.below hX hbw
      have HT := Lib.hid ht
      have hct := countOf_take_le z c.nodes k
      obtain ⟨v1, v2, rfl, sl, si, m1, m2⟩ := hR
      obtain ⟨q0, q1, q2, q3, q4, q5, q6, q7⟩ := node_cells hC
      clear hat hC hC0 ht sl si m1 m2
      generalize hm : countOf z (c.nodes.take k) = m at hct
      have HM := Lib.hid hm
      clear hm
      by_cases e : t.pool = z
      · have HE := Lib.hid e
        have e' : (t.pool == z) = true := by simp [e]
        clear e
        go_wp2_with fail
        go_roundw
        case rel => exact ⟨k + 1, by omega, by go_num, by rw [countOf_yes HT.out HE.out, HM.out]; go_num, by first | rfl | trivial⟩
        case measure => simp [intOf]; omega
      · have HE := Lib.hid e
        have e' : (t.pool == z) = false := by simp [e]
        clear e
        go_wp2_with fail
        go_roundw
        case rel => exact ⟨k + 1, by omega, by go_num, by rw [countOf_no HT.out HE.out, HM.out], by first | rfl | trivial⟩
        case measure => simp [intOf]; omega
    · have hkl : k = c.nodes.length := by omega
      have HF := Lib.hid (show countOf z (c.nodes.take k) = countOf z c.nodes by rw [hkl, List.take_length])
      clear hkl
      go_wp2_with fail
      go_ret
      exact ⟨by rw [HF.out]; rfl, hX⟩
end Go.Proofs.YtcegofdmdemcbaaGreatDoor

namespace Go.Proofs.YtcegofdmdemcbaaGreatDoor

structure WV where
  now : Int
  span : Int
  kind : Int
  limit : Int
  next : Int
  lease : RV
  epochs : List Int
  pools : List PV
  clu : CV
  wants : List BV
  ends : List Int
  seen : Int
  insts : List RV
  msgs : List MV

def settingsOk (w : WV) : Bool := lWithin w.now 0 100000 && lWithin w.span 1 1000 && lWithin w.kind 1 3 && lWithin w.limit 0 1001 && lWithin w.next 1 100
def hasNode (c : CV) (z : Int) : Bool := (fstBy NV.id c.nodes z).isSome
def hasPool (l : List PV) (z : Int) : Bool := (fstBy PV.id l z).isSome
def epochsOk (w : WV) : Bool := decide (w.epochs.length = 4) && !decide (w.lease.m < w.seen) && w.epochs.all (fun e => lWithin e 0 w.lease.m)
def wantsFrom (w : WV) : Int → List BV → Bool
  | _, [] => true
  | last, v :: r => decide (last < v.task) && !hasNode w.clu v.task && hasPool w.pools v.node && wantsFrom w v.task r
def wantsOk (w : WV) : Bool := decide (w.wants.length ≤ 20) && wantsFrom w 0 w.wants
def endsFrom (w : WV) : Int → List Int → Bool
  | _, [] => true
  | last, z :: r => decide (last < z) && hasNode w.clu z && endsFrom w z r
def endsOk (w : WV) : Bool := decide (w.ends.length ≤ 20) && endsFrom w 0 w.ends
def msgIn (w : WV) (m : MV) : Bool := msgOk m && !decide (w.lease.m < m.e)
def msgsOk (w : WV) : Bool := decide (w.msgs.length ≤ 40) && w.msgs.all (msgIn w)
def topOf (g : Int) (l : List Int) : Int := l.foldl max g
def topId (w : WV) : Int := topOf (topOf (topOf (topOf 0 (w.clu.nodes.map NV.id)) (w.wants.map BV.task)) (w.insts.map RV.c)) (w.msgs.map MV.i)
def idsGiven (w : WV) : Bool := decide (topId w < w.next)
def worldOk (w : WV) : Bool := settingsOk w && leaseOk w.lease && poolsOk w.pools && clusterOk w.clu && provOk w.seen w.insts && epochsOk w && wantsOk w && endsOk w && msgsOk w && idsGiven w

theorem topOf_cons (g z : Int) (l : List Int) : topOf g (z :: l) = topOf (max g z) l := rfl
theorem topOf_lt {g n : Int} {l : List Int} : topOf g l < n ↔ g < n ∧ ∀ z ∈ l, z < n := by
  induction l generalizing g with
  | nil => simp [topOf]
  | cons z r ih =>
    rw [topOf_cons, ih]
    simp only [List.mem_cons, forall_eq_or_imp]
    have : max g z < n ↔ g < n ∧ z < n := by omega
    rw [this, and_assoc]
theorem topId_lt {w : WV} {n : Int} : topId w < n ↔ 0 < n ∧ (∀ x ∈ w.clu.nodes, x.id < n) ∧ (∀ x ∈ w.wants, x.task < n) ∧ (∀ x ∈ w.insts, x.c < n) ∧ ∀ x ∈ w.msgs, x.i < n := by
  unfold topId
  rw [topOf_lt, topOf_lt, topOf_lt, topOf_lt]
  simp only [List.mem_map, forall_exists_index, and_imp, forall_apply_eq_imp_iff₂]
  constructor
  · rintro ⟨⟨⟨⟨h0, h1⟩, h2⟩, h3⟩, h4⟩; exact ⟨h0, h1, h2, h3, h4⟩
  · rintro ⟨h0, h1, h2, h3, h4⟩; exact ⟨⟨⟨⟨h0, h1⟩, h2⟩, h3⟩, h4⟩
theorem wantsFrom_all {w : WV} {last : Int} {l : List BV} : wantsFrom w last l = true ↔ (∀ v ∈ l, last < v.task ∧ hasNode w.clu v.task = false ∧ hasPool w.pools v.node = true) ∧ l.Pairwise (fun a b => a.task < b.task) := by
  induction l generalizing last with
  | nil => simp [wantsFrom]
  | cons v r ih =>
    simp only [wantsFrom, Bool.and_eq_true, decide_eq_true_eq, Bool.not_eq_true', ih, List.mem_cons, forall_eq_or_imp, List.pairwise_cons]
    constructor
    · rintro ⟨⟨⟨h1, h2⟩, h3⟩, h4, h5⟩
      exact ⟨⟨⟨h1, h2, h3⟩, fun x hx => ⟨Int.lt_trans h1 (h4 x hx).1, (h4 x hx).2⟩⟩, fun x hx => (h4 x hx).1, h5⟩
    · rintro ⟨⟨⟨h1, h2, h3⟩, h4⟩, h5, h6⟩
      exact ⟨⟨⟨h1, h2⟩, h3⟩, fun x hx => ⟨h5 x hx, (h4 x hx).2⟩, h6⟩
theorem endsFrom_all {w : WV} {last : Int} {l : List Int} : endsFrom w last l = true ↔ (∀ z ∈ l, last < z ∧ hasNode w.clu z = true) ∧ l.Pairwise (fun a b => a < b) := by
  induction l generalizing last with
  | nil => simp [endsFrom]
  | cons v r ih =>
    simp only [endsFrom, Bool.and_eq_true, decide_eq_true_eq, ih, List.mem_cons, forall_eq_or_imp, List.pairwise_cons]
    constructor
    · rintro ⟨⟨h1, h2⟩, h4, h5⟩
      exact ⟨⟨⟨h1, h2⟩, fun x hx => ⟨Int.lt_trans h1 (h4 x hx).1, (h4 x hx).2⟩⟩, fun x hx => (h4 x hx).1, h5⟩
    · rintro ⟨⟨⟨h1, h2⟩, h4⟩, h5, h6⟩
      exact ⟨⟨h1, h2⟩, fun x hx => ⟨h5 x hx, (h4 x hx).2⟩, h6⟩

def idsIn (stop : Int) (l : List Int) : Bool := l.all (fun z => decide (1 ≤ z) && decide (z < stop)) && decide (l.Pairwise (fun a b => a < b))
def lastLt (n : Int) (l : List Int) : Bool := match l.getLast? with
  | none => true
  | some z => decide (z < n)
def worldOkS (w : WV) : Bool :=
  settingsOk w && leaseOk w.lease && poolsOk w.pools && clusterOk w.clu && provOk w.seen w.insts && decide (w.epochs.length = 4) && decide (w.msgs.length ≤ 40) && !decide (w.lease.m < w.seen) &&
  w.epochs.all (fun e => lWithin e 0 w.lease.m) && w.msgs.all (fun m => msgIn w m && decide (m.i < w.next)) &&
  decide (w.wants.length ≤ 20) && decide (w.ends.length ≤ 20) && idsIn w.next (w.wants.map BV.task) && idsIn w.next w.ends &&
  w.wants.all (fun v => hasPool w.pools v.node && !hasNode w.clu v.task) && w.ends.all (fun z => hasNode w.clu z) &&
  lastLt w.next (w.clu.nodes.map NV.id) && lastLt w.next (w.insts.map RV.c)
theorem lastLt_all {n : Int} {l : List Int} (h : l.Pairwise (fun a b => a < b)) : lastLt n l = true ↔ ∀ z ∈ l, z < n := by
  unfold lastLt
  cases hl : l.getLast? with
  | none => rw [List.getLast?_eq_none_iff] at hl; subst hl; simp
  | some z =>
    obtain ⟨ys, rfl⟩ := List.getLast?_eq_some_iff.1 hl
    have := (List.pairwise_append.1 h).2.2
    simp only [decide_eq_true_eq, List.mem_append, List.mem_singleton]
    constructor
    · rintro hz x (hx | rfl)
      · exact Int.lt_trans (this x hx z (by simp)) hz
      · exact hz
    · exact fun hz => hz z (.inr rfl)
theorem nodesFrom_rise {p : Int} {l : List NV} (h : nodesFrom p l = true) : (∀ n ∈ l, p < n.id ∧ n.ok = true) ∧ l.Pairwise (fun a b => a.id < b.id) := by
  induction l generalizing p with
  | nil => exact ⟨by simp, List.Pairwise.nil⟩
  | cons n r ih =>
    simp only [nodesFrom, Bool.and_eq_true, decide_eq_true_eq] at h
    obtain ⟨⟨h1, h2⟩, h3⟩ := h
    obtain ⟨h4, h5⟩ := ih h3
    refine ⟨fun x hx => ?_, List.pairwise_cons.2 ⟨fun x hx => (h4 x hx).1, h5⟩⟩
    rcases List.mem_cons.1 hx with rfl | hx
    · exact ⟨h2, h1⟩
    · exact ⟨Int.lt_trans h2 (h4 x hx).1, (h4 x hx).2⟩
theorem clusterOk_rise {c : CV} (h : clusterOk c = true) : c.nodes.Pairwise (fun a b => a.id < b.id) := by
  simp only [clusterOk, nodesOk, Bool.and_eq_true] at h; exact (nodesFrom_rise h.1.1.2.2).2
theorem hasNode_mem {c : CV} {z : Int} (h : hasNode c z = true) : ∃ n ∈ c.nodes, n.id = z := by
  unfold hasNode at h
  obtain ⟨n, hn⟩ := Option.isSome_iff_exists.1 h
  exact ⟨n, fstBy_mem hn, fstBy_key hn⟩
theorem idsIn_iff {n : Int} {l : List Int} : idsIn n l = true ↔ (∀ z ∈ l, 1 ≤ z ∧ z < n) ∧ l.Pairwise (fun a b => a < b) := by
  simp only [idsIn, Bool.and_eq_true, List.all_eq_true, decide_eq_true_eq]
theorem worldOk_model (w : WV) : worldOkS w = worldOk w := by
  rw [Bool.eq_iff_iff]
  unfold worldOkS worldOk
  simp only [Bool.and_eq_true]
  constructor
  · rintro ⟨⟨⟨⟨⟨⟨⟨⟨⟨⟨⟨⟨⟨⟨⟨⟨⟨h1, h2⟩, h3⟩, h4⟩, h5⟩, h6⟩, h7⟩, h8⟩, h9⟩, ha⟩, hb⟩, hc⟩, hd⟩, he⟩, hf⟩, hg⟩, hh⟩, hi⟩
    have hnr := clusterOk_rise h4
    obtain ⟨p1, p2, p3, p4⟩ := provOk_all h5
    rw [lastLt_all (by rw [List.pairwise_map]; exact hnr)] at hh
    rw [lastLt_all (by rw [List.pairwise_map]; exact p4)] at hi
    rw [idsIn_iff] at hd he
    simp only [List.all_eq_true, Bool.and_eq_true, List.mem_map, forall_exists_index, and_imp, forall_apply_eq_imp_iff₂, decide_eq_true_eq, Bool.not_eq_true', List.pairwise_map] at *
    refine ⟨⟨⟨⟨⟨⟨⟨⟨⟨h1, h2⟩, h3⟩, h4⟩, h5⟩, ?_⟩, ?_⟩, ?_⟩, ?_⟩, ?_⟩
    · simp only [epochsOk, Bool.and_eq_true, List.all_eq_true, decide_eq_true_eq, Bool.not_eq_true']; exact ⟨⟨h6, h8⟩, h9⟩
    · simp only [wantsOk, Bool.and_eq_true, decide_eq_true_eq, wantsFrom_all]
      exact ⟨hb, fun v hv => ⟨by have := (hd.1 v hv).1; omega, (hf v hv).2, (hf v hv).1⟩, hd.2⟩
    · simp only [endsOk, Bool.and_eq_true, decide_eq_true_eq, endsFrom_all]
      exact ⟨hc, fun v hv => ⟨by have := (he.1 v hv).1; omega, hg v hv⟩, he.2⟩
    · simp only [msgsOk, Bool.and_eq_true, decide_eq_true_eq, List.all_eq_true]
      exact ⟨h7, fun m hm => (ha m hm).1⟩
    · simp only [idsGiven, decide_eq_true_eq, topId_lt]
      simp only [settingsOk, Bool.and_eq_true, lWithin_iff] at h1
      exact ⟨by have := h1.2; omega, hh, fun x hx => (hd.1 x hx).2, hi, fun m hm => (ha m hm).2⟩
  · rintro ⟨⟨⟨⟨⟨⟨⟨⟨⟨h1, h2⟩, h3⟩, h4⟩, h5⟩, h6⟩, h7⟩, h8⟩, h9⟩, ha⟩
    have hnr := clusterOk_rise h4
    obtain ⟨p1, p2, p3, p4⟩ := provOk_all h5
    rw [lastLt_all (by rw [List.pairwise_map]; exact hnr), lastLt_all (by rw [List.pairwise_map]; exact p4), idsIn_iff, idsIn_iff]
    simp only [epochsOk, wantsOk, endsOk, msgsOk, idsGiven, Bool.and_eq_true, List.all_eq_true, decide_eq_true_eq, Bool.not_eq_true', wantsFrom_all, endsFrom_all, topId_lt] at h6 h7 h8 h9 ha
    simp only [List.all_eq_true, Bool.and_eq_true, List.mem_map, forall_exists_index, and_imp, forall_apply_eq_imp_iff₂, decide_eq_true_eq, Bool.not_eq_true', List.pairwise_map]
    obtain ⟨a0, a1, a2, a3, a4⟩ := ha
    refine ⟨⟨⟨⟨⟨⟨⟨⟨⟨⟨⟨⟨⟨⟨⟨⟨⟨h1, h2⟩, h3⟩, h4⟩, h5⟩, h6.1.1⟩, h9.1⟩, h6.1.2⟩, h6.2⟩, fun m hm => ⟨h9.2 m hm, a4 m hm⟩⟩, h7.1⟩, h8.1⟩, ⟨fun v hv => ⟨by have := (h7.2.1 v hv).1; omega, a2 v hv⟩, h7.2.2⟩⟩, ⟨fun z hz => ⟨by have := (h8.2.1 z hz).1; omega, ?_⟩, h8.2.2⟩⟩, fun v hv => ⟨(h7.2.1 v hv).2.2, (h7.2.1 v hv).2.1⟩⟩, fun z hz => (h8.2.1 z hz).2⟩, a1⟩, a3⟩
    obtain ⟨n, hn, rfl⟩ := hasNode_mem (h8.2.1 z hz).2
    exact a1 n hn
end Go.Proofs.YtcegofdmdemcbaaGreatDoor

namespace Go.Proofs.YtcegofdmdemcbaaGreatDoor
open Go.RowKit

def WantR (_ : World) (t : BV) (cs : List Value) : Prop := cs = [.int .i64 t.task, .int .i64 t.node]
theorem WantR.kept : Kept WantR := fun _ _ _ _ _ h => h
def WantSl (w : World) (v : Value) (l : List BV) : Prop := GSl WantR 2 w v l
theorem WantSl.below {w w' : World} {v : Value} {l : List BV} (h : WantSl w v l) (hb : Below w.heap.size w w') : WantSl w' v l := GSl.below WantR.kept h hb
theorem WantSl.form {w : World} {v : Value} {l : List BV} (h : WantSl w v l) : ∃ A c, v = .slice A l.length c ∧ (0 < l.length → ∃ b off, A = some ⟨b, off, none⟩ ∧ b < w.heap.size ∧ SeqAt WantR 2 w b off l) := GSl.form h
def WantN (_ : Nat) (_ : World) (t : BV) (cs : List Value) : Prop := cs = [.int .i64 t.task, .int .i64 t.node]
theorem WantN.kept (base : Nat) : Kept (WantN base) := fun _ _ _ _ _ h => h
theorem WantN.put {base g o : Nat} {w : World} {t : BV} {cs ds : List Value} (h : WantN base w t cs) (_ : g < base) : WantN base (putAll w g o ds) t cs := h
theorem WantN.r {base : Nat} {w : World} {t : BV} {cs : List Value} (h : WantN base w t cs) : WantR w t cs := h
theorem WantN.len {base : Nat} {w : World} {t : BV} {cs : List Value} (h : WantN base w t cs) : cs.length = 2 := by rw [h]; rfl
theorem toWantW_any (t : BV) (w : World) :
    Calls Tryz.prog 130 #[.agg #[.int .i64 t.task, .int .i64 t.node]] w fun e w' => e = .returned (.agg #[.int .i64 t.task, .int .i64 t.node]) ∧ Below w.heap.size w w' := by
  go_enter Tryz.func130, Tryz.ntmps130
  go_wp2
  exact bodyPost_ret (v := .agg #[.int .i64 t.task, .int .i64 t.node]) (by simp [results, Tryz.results130, go_sem]) rfl ⟨rfl, (by repeat' (first | exact Below.refl _ _ | refine Below.alloc ?_ ?_ _ | refine Below.setCell ?_ ?_ _ | refine Below.drew ?_ | (apply below_step; assumption) | (simp; done) | (simp; omega) | omega))⟩
theorem eqWantW_same (t : BV) (w : World) : Calls Tryz.prog 100 #[.agg #[.int .i64 t.task, .int .i64 t.node], .agg #[.int .i64 t.task, .int .i64 t.node]] w fun e w' => e = .returned (.bool true) ∧ Below w.heap.size w w' := by
  have h1 : (t.task != t.task) = false := by simp
  have h2 : (t.node != t.node) = false := by simp
  go_enter Tryz.func100, Tryz.ntmps100
  go_wp2
  go_ret
  exact ⟨rfl, (by repeat' (first | exact Below.refl _ _ | refine Below.alloc ?_ ?_ _ | refine Below.setCell ?_ ?_ _ | refine Below.drew ?_ | (apply below_step; assumption) | (simp; done) | (simp; omega) | omega))⟩
theorem eqWant_r (t : BV) (cs ds : List Value) (w : World) (h : WantR w t cs) (k : WantR w t ds) : Calls Tryz.prog 100 #[.agg cs.toArray, .agg ds.toArray] w fun e w' => e = .returned (.bool true) ∧ Below w.heap.size w w' := by
  obtain rfl := h
  obtain rfl := k
  exact eqWantW_same t w
theorem szWantS_any (v : Value) (l : List BV) (z : Int) (w : World) (hv : WantSl w v l) (hl : l.length ≤ maxLen) (h0 : 0 ≤ z) (hz : z ≤ 1048576) :
    Calls Tryz.prog 49 #[v, .int .i64 z] w fun e w' => (∃ y : Int, e = .returned (.int .i64 y) ∧ (y = -1 ∨ (0 ≤ y ∧ y ≤ 1048576 ∧ l.length ≤ 1048576))) ∧ Below w.heap.size w w' := by
  obtain ⟨A, c, rfl, hA⟩ := hv.form
  unfold maxLen at hl
  clear hA hv
  by_cases h1 : (l.length : Int) ≤ z
  · go_enter Tryz.func49, Tryz.ntmps49
    go_wp2_with fail
    go_ret
    exact ⟨⟨z - l.length, by first | rfl | simp, .inr ⟨by omega, by omega, by omega⟩⟩, (by repeat' (first | exact Below.refl _ _ | refine Below.alloc ?_ ?_ _ | refine Below.setCell ?_ ?_ _ | refine Below.drew ?_ | (apply below_step; assumption) | (simp; done) | (simp; omega) | omega))⟩
  · have h1' : z < l.length := by omega
    clear h1
    go_enter Tryz.func49, Tryz.ntmps49
    go_wp2_with fail
    go_ret
    exact ⟨⟨-1, rfl, .inl rfl⟩, (by repeat' (first | exact Below.refl _ _ | refine Below.alloc ?_ ?_ _ | refine Below.setCell ?_ ?_ _ | refine Below.drew ?_ | (apply below_step; assumption) | (simp; done) | (simp; omega) | omega))⟩
def MsgR (_ : World) (t : MV) (cs : List Value) : Prop := cs = [.int .i64 t.k, .int .i64 t.e, .int .i64 t.i, .int .i64 t.p]
theorem MsgR.kept : Kept MsgR := fun _ _ _ _ _ h => h
def MsgSl (w : World) (v : Value) (l : List MV) : Prop := GSl MsgR 4 w v l
theorem MsgSl.below {w w' : World} {v : Value} {l : List MV} (h : MsgSl w v l) (hb : Below w.heap.size w w') : MsgSl w' v l := GSl.below MsgR.kept h hb
theorem MsgSl.form {w : World} {v : Value} {l : List MV} (h : MsgSl w v l) : ∃ A c, v = .slice A l.length c ∧ (0 < l.length → ∃ b off, A = some ⟨b, off, none⟩ ∧ b < w.heap.size ∧ SeqAt MsgR 4 w b off l) := GSl.form h
def MsgN (_ : Nat) (_ : World) (t : MV) (cs : List Value) : Prop := cs = [.int .i64 t.k, .int .i64 t.e, .int .i64 t.i, .int .i64 t.p]
theorem MsgN.kept (base : Nat) : Kept (MsgN base) := fun _ _ _ _ _ h => h
theorem MsgN.put {base g o : Nat} {w : World} {t : MV} {cs ds : List Value} (h : MsgN base w t cs) (_ : g < base) : MsgN base (putAll w g o ds) t cs := h
theorem MsgN.r {base : Nat} {w : World} {t : MV} {cs : List Value} (h : MsgN base w t cs) : MsgR w t cs := h
theorem MsgN.len {base : Nat} {w : World} {t : MV} {cs : List Value} (h : MsgN base w t cs) : cs.length = 4 := by rw [h]; rfl
theorem toMsgW_any (t : MV) (w : World) :
    Calls Tryz.prog 132 #[.agg #[.int .i64 t.k, .int .i64 t.e, .int .i64 t.i, .int .i64 t.p]] w fun e w' => e = .returned (.agg #[.int .i64 t.k, .int .i64 t.e, .int .i64 t.i, .int .i64 t.p]) ∧ Below w.heap.size w w' := by
  go_enter Tryz.func132, Tryz.ntmps132
  go_wp2
  exact bodyPost_ret (v := .agg #[.int .i64 t.k, .int .i64 t.e, .int .i64 t.i, .int .i64 t.p]) (by simp [results, Tryz.results132, go_sem]) rfl ⟨rfl, (by repeat' (first | exact Below.refl _ _ | refine Below.alloc ?_ ?_ _ | refine Below.setCell ?_ ?_ _ | refine Below.drew ?_ | (apply below_step; assumption) | (simp; done) | (simp; omega) | omega))⟩
theorem eqMsgW_same (t : MV) (w : World) : Calls Tryz.prog 102 #[.agg #[.int .i64 t.k, .int .i64 t.e, .int .i64 t.i, .int .i64 t.p], .agg #[.int .i64 t.k, .int .i64 t.e, .int .i64 t.i, .int .i64 t.p]] w fun e w' => e = .returned (.bool true) ∧ Below w.heap.size w w' := by
  have h1 : (t.k != t.k) = false := by simp
  have h2 : (t.e != t.e) = false := by simp
  have h3 : (t.i != t.i) = false := by simp
  have h4 : (t.p != t.p) = false := by simp
  go_enter Tryz.func102, Tryz.ntmps102
  go_wp2
  go_ret
  exact ⟨rfl, (by repeat' (first | exact Below.refl _ _ | refine Below.alloc ?_ ?_ _ | refine Below.setCell ?_ ?_ _ | refine Below.drew ?_ | (apply below_step; assumption) | (simp; done) | (simp; omega) | omega))⟩
theorem eqMsg_r (t : MV) (cs ds : List Value) (w : World) (h : MsgR w t cs) (k : MsgR w t ds) : Calls Tryz.prog 102 #[.agg cs.toArray, .agg ds.toArray] w fun e w' => e = .returned (.bool true) ∧ Below w.heap.size w w' := by
  obtain rfl := h
  obtain rfl := k
  exact eqMsgW_same t w
theorem szMsgS_any (v : Value) (l : List MV) (z : Int) (w : World) (hv : MsgSl w v l) (hl : l.length ≤ maxLen) (h0 : 0 ≤ z) (hz : z ≤ 1048576) :
    Calls Tryz.prog 51 #[v, .int .i64 z] w fun e w' => (∃ y : Int, e = .returned (.int .i64 y) ∧ (y = -1 ∨ (0 ≤ y ∧ y ≤ 1048576 ∧ l.length ≤ 1048576))) ∧ Below w.heap.size w w' := by
  obtain ⟨A, c, rfl, hA⟩ := hv.form
  unfold maxLen at hl
  clear hA hv
  by_cases h1 : (l.length : Int) ≤ z
  · go_enter Tryz.func51, Tryz.ntmps51
    go_wp2_with fail
    go_ret
    exact ⟨⟨z - l.length, by first | rfl | simp, .inr ⟨by omega, by omega, by omega⟩⟩, (by repeat' (first | exact Below.refl _ _ | refine Below.alloc ?_ ?_ _ | refine Below.setCell ?_ ?_ _ | refine Below.drew ?_ | (apply below_step; assumption) | (simp; done) | (simp; omega) | omega))⟩
  · have h1' : z < l.length := by omega
    clear h1
    go_enter Tryz.func51, Tryz.ntmps51
    go_wp2_with fail
    go_ret
    exact ⟨⟨-1, rfl, .inl rfl⟩, (by repeat' (first | exact Below.refl _ _ | refine Below.alloc ?_ ?_ _ | refine Below.setCell ?_ ?_ _ | refine Below.drew ?_ | (apply below_step; assumption) | (simp; done) | (simp; omega) | omega))⟩
theorem want_cells {w : World} {b o : Nat} {u0 u1 : Value} (h : CellsAt w b o [u0, u1]) : w.cell? ⟨b, o, none⟩ = some u0 ∧ w.cell? ⟨b, o + 1, none⟩ = some u1 := ⟨h 0 _ rfl, h 1 _ rfl⟩
theorem msg_cells {w : World} {b o : Nat} {u0 u1 u2 u3 : Value} (h : CellsAt w b o [u0, u1, u2, u3]) : w.cell? ⟨b, o, none⟩ = some u0 ∧ w.cell? ⟨b, o + 1, none⟩ = some u1 ∧ w.cell? ⟨b, o + 2, none⟩ = some u2 ∧ w.cell? ⟨b, o + 3, none⟩ = some u3 := ⟨h 0 _ rfl, h 1 _ rfl, h 2 _ rfl, h 3 _ rfl⟩
theorem Tryz.infoWant : (Tryz.prog.info? 112).map (fun i => (i.zero, i.size, i.bytes)) = some (some (.agg #[.int .i64 0, .int .i64 0]), 2, 16) := by kernel_rfl
theorem Tryz.infoMsg : (Tryz.prog.info? 107).map (fun i => (i.zero, i.size, i.bytes)) = some (some (.agg #[.int .i64 0, .int .i64 0, .int .i64 0, .int .i64 0]), 4, 32) := by kernel_rfl
theorem make_want (n : Nat) (h : n ≤ 1048576) (w : World) : (Instr.makeSlice 33 (.int .i64 (n : Int)) (.int .i64 (n : Int))).run Tryz.prog w = .ok (.slice (some ⟨w.heap.size, 0, none⟩) n n) (w.alloc (.cells (madeCells #[.int .i64 0, .int .i64 0] (n * 2)) 112)) := by
  obtain ⟨i, hi, hzz⟩ := Option.map_eq_some_iff.1 Tryz.infoWant
  simp only [Prod.mk.injEq] at hzz
  obtain ⟨hz, hs, hb⟩ := hzz
  have := run_make (P := Tryz.prog) w 33 112 i _ Tryz.underlying33 hi hz .i64 .i64 n n (by omega) (Int.le_refl _) (by rw [hb]; omega) (by omega)
  rw [this, hs]
  simp [Value.cells]
theorem make_msg (n : Nat) (h : n ≤ 1048576) (w : World) : (Instr.makeSlice 37 (.int .i64 (n : Int)) (.int .i64 (n : Int))).run Tryz.prog w = .ok (.slice (some ⟨w.heap.size, 0, none⟩) n n) (w.alloc (.cells (madeCells #[.int .i64 0, .int .i64 0, .int .i64 0, .int .i64 0] (n * 4)) 107)) := by
  obtain ⟨i, hi, hzz⟩ := Option.map_eq_some_iff.1 Tryz.infoMsg
  simp only [Prod.mk.injEq] at hzz
  obtain ⟨hz, hs, hb⟩ := hzz
  have := run_make (P := Tryz.prog) w 37 107 i _ Tryz.underlying37 hi hz .i64 .i64 n n (by omega) (Int.le_refl _) (by rw [hb]; omega) (by omega)
  rw [this, hs]
  simp [Value.cells]
set_option maxHeartbeats 1600000 in
set_option maxRecDepth 20000 in
theorem eqWantS_same (v1 v2 : Value) (l : List BV) (w : World) (h1 : WantSl w v1 l) (h2 : WantSl w v2 l) (hlen : l.length ≤ 1048576) :
    Calls Tryz.prog 31 #[v1, v2] w fun e w' => e = .returned (.bool true) ∧ Below w.heap.size w w' := by
  obtain ⟨A, c, rfl, hA⟩ := h1.form
  obtain ⟨A', c', rfl, hA'⟩ := h2.form
  have HA := Lib.hid hA
  have HA' := Lib.hid hA'
  clear hA hA' h1 h2
  have hnn : ((l.length : Int) != (l.length : Int)) = false := by simp
  go_enter Tryz.func31, Tryz.ntmps31
  go_wp2_with fail
  go_loopw [5] (fun s5 wr => ∃ k : Nat, k ≤ l.length ∧ s5 = .int .i64 k ∧ Below w.heap.size w wr) (fun s5 _ => (l.length - intOf s5).toNat)
  case atStart => exact ⟨0, by omega, rfl, Below.refl _ _⟩
  case round =>
    obtain ⟨k, hk, rfl, hB⟩ := hrel
    have hzr := hB.size
    by_cases hlt : k < l.length
    · obtain ⟨b, off, rfl, hbw, hat⟩ := HA.out (by omega)
      obtain ⟨b', off', rfl, hbw', hat'⟩ := HA'.out (by omega)
      obtain ⟨t, ht⟩ : ∃ t, l[k]? = some t := ⟨_, List.getElem?_eq_getElem hlt⟩
      obtain ⟨ds, hR, hC⟩ := (hat'.below WantR.kept hB hbw') k t ht
      have HR' := Lib.hid hR
      obtain rfl := hR
      obtain ⟨p0, p1⟩ := want_cells hC
      clear hC
      obtain ⟨cs, hR, hC⟩ := (hat.below WantR.kept hB hbw) k t ht
      have HR := Lib.hid hR
      obtain rfl := hR
      skip
      obtain ⟨q0, q1⟩ := want_cells hC
      have hbr : b < wr.heap.size := by omega
      have hbr' : b' < wr.heap.size := by omega
      have HK := Lib.hid (show ∀ w', Below wr.heap.size wr w' → Below wr.heap.size wr w' ∧ w'.cell? ⟨b, off + k * 2, none⟩ = some (.int .i64 t.task) ∧ w'.cell? ⟨b, off + k * 2 + 1, none⟩ = some (.int .i64 t.node) ∧ w'.cell? ⟨b', off' + k * 2, none⟩ = some (.int .i64 t.task) ∧ w'.cell? ⟨b', off' + k * 2 + 1, none⟩ = some (.int .i64 t.node) from fun w' hb => ⟨hb, (hb.cell (p := ⟨_, _, none⟩) hbr).trans q0, (hb.cell (p := ⟨_, _, none⟩) hbr).trans q1, (hb.cell (p := ⟨_, _, none⟩) hbr').trans p0, (hb.cell (p := ⟨_, _, none⟩) hbr').trans p1⟩)
      have hlti : (k : Int) < (l.length : Int) := by omega
      have hk0 : (0 : Int) ≤ (k : Int) := by omega
      clear hat hat' ht hC q0 q1 p0 p1
      go_wp2_with fail
      refine wp_region_held_drew (S := (fun w' => Below wr.heap.size wr w' ∧ w'.cell? ⟨b, off + k * 2, none⟩ = some (.int .i64 t.task) ∧ w'.cell? ⟨b, off + k * 2 + 1, none⟩ = some (.int .i64 t.node) ∧ w'.cell? ⟨b', off' + k * 2, none⟩ = some (.int .i64 t.task) ∧ w'.cell? ⟨b', off' + k * 2 + 1, none⟩ = some (.int .i64 t.node))) (by kernel_rfl) (by (try dsimp only); exact HK.out _ (by repeat' (first | exact Below.refl _ _ | refine Below.alloc ?_ ?_ _ | refine Below.setCell ?_ ?_ _ | refine Below.drew ?_ | (apply below_step; assumption) | (simp; done) | (simp; omega) | omega))) (fun hHeld => ?_)
      refine hT 0 ?_; simp only [Act.put, rhA, rhS, rhT]
      refine hT 1 ?_; simp only [Act.put, rhA, rhS, rhT]
      refine hT 2 ?_; simp only [Act.put, rhA, rhS, rhT]
      refine hT 3 ?_; simp only [Act.put, rhA, rhS, rhT]
      refine hT 4 ?_; simp only [Act.put, rhA, rhS, rhT]
      refine hT 5 ?_; simp only [Act.put, rhA, rhS, rhT]
      refine hT 6 ?_; simp only [Act.put, rhA, rhS, rhT]
      refine hT 7 ?_; simp only [Act.put, rhA, rhS, rhT]
      refine hCall (i := 8) (o := ?a10) ?b10 (by kernel_rfl) ?c10 (fun K hK => ?d10)
      case b10 => simp only [rhN, rhM]; try rfl
      case c10 => rfl
      go_simp
      refine (eqWant_r t _ _ _ (WantR.kept _ _ _ _ (by repeat' (first | exact Below.refl _ _ | refine Below.alloc ?_ ?_ _ | refine Below.setCell ?_ ?_ _ | refine Below.drew ?_ | (apply below_step; assumption) | (simp; done) | (simp; omega) | omega)) HR.out) (WantR.kept _ _ _ _ (by repeat' (first | exact Below.refl _ _ | refine Below.alloc ?_ ?_ _ | refine Below.setCell ?_ ?_ _ | refine Below.drew ?_ | (apply below_step; assumption) | (simp; done) | (simp; omega) | omega)) HR'.out)).mono ?_
      rintro e w3 ⟨rfl, hb3⟩
      have hz3 := hb3.size
      try simp at hz3
      go_wp2_with fail
      refine hK.out _ _ (by (try dsimp only); exact HK.out _ (by repeat' (first | exact Below.refl _ _ | refine Below.alloc ?_ ?_ _ | refine Below.setCell ?_ ?_ _ | refine Below.drew ?_ | (apply below_step; assumption) | (simp; done) | (simp; omega) | omega))) (fun hHeld => ?_)
      clear hK K
      try simp only [Act.put, rhA, rhS, rhT]
      refine hT 9 ?_; simp only [Act.put, rhA, rhS, rhT]
      refine wpAnyH_done (by kernel_rfl) ?_ _
      go_wp2_with fail
      go_roundw
      case rel => exact ⟨k + 1, by omega, by go_num, (by repeat' (first | exact Below.refl _ _ | refine Below.alloc ?_ ?_ _ | refine Below.setCell ?_ ?_ _ | refine Below.drew ?_ | (apply below_step; assumption) | (simp; done) | (simp; omega) | omega))⟩
      case measure => simp [intOf]; omega
    · go_wp2_with fail
      go_ret
      exact ⟨rfl, hB⟩
set_option maxHeartbeats 1600000 in
set_option maxRecDepth 20000 in
theorem eqMsgS_same (v1 v2 : Value) (l : List MV) (w : World) (h1 : MsgSl w v1 l) (h2 : MsgSl w v2 l) (hlen : l.length ≤ 1048576) :
    Calls Tryz.prog 33 #[v1, v2] w fun e w' => e = .returned (.bool true) ∧ Below w.heap.size w w' := by
  obtain ⟨A, c, rfl, hA⟩ := h1.form
  obtain ⟨A', c', rfl, hA'⟩ := h2.form
  have HA := Lib.hid hA
  have HA' := Lib.hid hA'
  clear hA hA' h1 h2
  have hnn : ((l.length : Int) != (l.length : Int)) = false := by simp
  go_enter Tryz.func33, Tryz.ntmps33
  go_wp2_with fail
  go_loopw [5] (fun s5 wr => ∃ k : Nat, k ≤ l.length ∧ s5 = .int .i64 k ∧ Below w.heap.size w wr) (fun s5 _ => (l.length - intOf s5).toNat)
  case atStart => exact ⟨0, by omega, rfl, Below.refl _ _⟩
  case round =>
    obtain ⟨k, hk, rfl, hB⟩ := hrel
    have hzr := hB.size
    by_cases hlt : k < l.length
    · obtain ⟨b, off, rfl, hbw, hat⟩ := HA.out (by omega)
      obtain ⟨b', off', rfl, hbw', hat'⟩ := HA'.out (by omega)
      obtain ⟨t, ht⟩ : ∃ t, l[k]? = some t := ⟨_, List.getElem?_eq_getElem hlt⟩
      obtain ⟨ds, hR, hC⟩ := (hat'.below MsgR.kept hB hbw') k t ht
      have HR' := Lib.hid hR
      obtain rfl := hR
      obtain ⟨p0, p1, p2, p3⟩ := msg_cells hC
      clear hC
      obtain ⟨cs, hR, hC⟩ := (hat.below MsgR.kept hB hbw) k t ht
      have HR := Lib.hid hR
      obtain rfl := hR
      skip
      obtain ⟨q0, q1, q2, q3⟩ := msg_cells hC
      have hbr : b < wr.heap.size := by omega
      have hbr' : b' < wr.heap.size := by omega
      have HK := Lib.hid (show ∀ w', Below wr.heap.size wr w' → Below wr.heap.size wr w' ∧ w'.cell? ⟨b, off + k * 4, none⟩ = some (.int .i64 t.k) ∧ w'.cell? ⟨b, off + k * 4 + 1, none⟩ = some (.int .i64 t.e) ∧ w'.cell? ⟨b, off + k * 4 + 2, none⟩ = some (.int .i64 t.i) ∧ w'.cell? ⟨b, off + k * 4 + 3, none⟩ = some (.int .i64 t.p) ∧ w'.cell? ⟨b', off' + k * 4, none⟩ = some (.int .i64 t.k) ∧ w'.cell? ⟨b', off' + k * 4 + 1, none⟩ = some (.int .i64 t.e) ∧ w'.cell? ⟨b', off' + k * 4 + 2, none⟩ = some (.int .i64 t.i) ∧ w'.cell? ⟨b', off' + k * 4 + 3, none⟩ = some (.int .i64 t.p) from fun w' hb => ⟨hb, (hb.cell (p := ⟨_, _, none⟩) hbr).trans q0, (hb.cell (p := ⟨_, _, none⟩) hbr).trans q1, (hb.cell (p := ⟨_, _, none⟩) hbr).trans q2, (hb.cell (p := ⟨_, _, none⟩) hbr).trans q3, (hb.cell (p := ⟨_, _, none⟩) hbr').trans p0, (hb.cell (p := ⟨_, _, none⟩) hbr').trans p1, (hb.cell (p := ⟨_, _, none⟩) hbr').trans p2, (hb.cell (p := ⟨_, _, none⟩) hbr').trans p3⟩)
      have hlti : (k : Int) < (l.length : Int) := by omega
      have hk0 : (0 : Int) ≤ (k : Int) := by omega
      clear hat hat' ht hC q0 q1 q2 q3 p0 p1 p2 p3
      go_wp2_with fail
      refine wp_region_held_drew (S := (fun w' => Below wr.heap.size wr w' ∧ w'.cell? ⟨b, off + k * 4, none⟩ = some (.int .i64 t.k) ∧ w'.cell? ⟨b, off + k * 4 + 1, none⟩ = some (.int .i64 t.e) ∧ w'.cell? ⟨b, off + k * 4 + 2, none⟩ = some (.int .i64 t.i) ∧ w'.cell? ⟨b, off + k * 4 + 3, none⟩ = some (.int .i64 t.p) ∧ w'.cell? ⟨b', off' + k * 4, none⟩ = some (.int .i64 t.k) ∧ w'.cell? ⟨b', off' + k * 4 + 1, none⟩ = some (.int .i64 t.e) ∧ w'.cell? ⟨b', off' + k * 4 + 2, none⟩ = some (.int .i64 t.i) ∧ w'.cell? ⟨b', off' + k * 4 + 3, none⟩ = some (.int .i64 t.p))) (by kernel_rfl) (by (try dsimp only); exact HK.out _ (by repeat' (first | exact Below.refl _ _ | refine Below.alloc ?_ ?_ _ | refine Below.setCell ?_ ?_ _ | refine Below.drew ?_ | (apply below_step; assumption) | (simp; done) | (simp; omega) | omega))) (fun hHeld => ?_)
      refine hT 0 ?_; simp only [Act.put, rhA, rhS, rhT]
      refine hT 1 ?_; simp only [Act.put, rhA, rhS, rhT]
      refine hT 2 ?_; simp only [Act.put, rhA, rhS, rhT]
      refine hT 3 ?_; simp only [Act.put, rhA, rhS, rhT]
      refine hT 4 ?_; simp only [Act.put, rhA, rhS, rhT]
      refine hT 5 ?_; simp only [Act.put, rhA, rhS, rhT]
      refine hT 6 ?_; simp only [Act.put, rhA, rhS, rhT]
      refine hT 7 ?_; simp only [Act.put, rhA, rhS, rhT]
      refine hCall (i := 8) (o := ?a22) ?b22 (by kernel_rfl) ?c22 (fun K hK => ?d22)
      case b22 => simp only [rhN, rhM]; try rfl
      case c22 => rfl
      go_simp
      refine (eqMsg_r t _ _ _ (MsgR.kept _ _ _ _ (by repeat' (first | exact Below.refl _ _ | refine Below.alloc ?_ ?_ _ | refine Below.setCell ?_ ?_ _ | refine Below.drew ?_ | (apply below_step; assumption) | (simp; done) | (simp; omega) | omega)) HR.out) (MsgR.kept _ _ _ _ (by repeat' (first | exact Below.refl _ _ | refine Below.alloc ?_ ?_ _ | refine Below.setCell ?_ ?_ _ | refine Below.drew ?_ | (apply below_step; assumption) | (simp; done) | (simp; omega) | omega)) HR'.out)).mono ?_
      rintro e w3 ⟨rfl, hb3⟩
      have hz3 := hb3.size
      try simp at hz3
      go_wp2_with fail
      refine hK.out _ _ (by (try dsimp only); exact HK.out _ (by repeat' (first | exact Below.refl _ _ | refine Below.alloc ?_ ?_ _ | refine Below.setCell ?_ ?_ _ | refine Below.drew ?_ | (apply below_step; assumption) | (simp; done) | (simp; omega) | omega))) (fun hHeld => ?_)
      clear hK K
      try simp only [Act.put, rhA, rhS, rhT]
      refine hT 9 ?_; simp only [Act.put, rhA, rhS, rhT]
      refine wpAnyH_done (by kernel_rfl) ?_ _
      go_wp2_with fail
      go_roundw
      case rel => exact ⟨k + 1, by omega, by go_num, (by repeat' (first | exact Below.refl _ _ | refine Below.alloc ?_ ?_ _ | refine Below.setCell ?_ ?_ _ | refine Below.drew ?_ | (apply below_step; assumption) | (simp; done) | (simp; omega) | omega))⟩
      case measure => simp [intOf]; omega
    · go_wp2_with fail
      go_ret
      exact ⟨rfl, hB⟩
end Go.Proofs.YtcegofdmdemcbaaGreatDoor

namespace Go.Proofs.YtcegofdmdemcbaaGreatDoor
open Go.RowKit

theorem within_any (n a b : Int) (w : World) : Calls Tryz.prog 136 #[.int .i64 n, .int .i64 a, .int .i64 b] w fun e w' => e = .returned (.bool (lWithin n a b)) ∧ w = w' := by
  unfold lWithin
  generalize e1 : decide (a ≤ n) = b1
  cases b1
  all_goals
    go_enter Tryz.func136, Tryz.ntmps136
    go_wp2
    go_ret
    exact ⟨by simp, rfl⟩
theorem replicaOk_any (n : Int) (w : World) : Calls Tryz.prog 137 #[.int .i64 n] w fun e w' => e = .returned (.bool (lWithin n 1 4)) ∧ w = w' := by
  go_enter Tryz.func137, Tryz.ntmps137
  go_wp2_with fail
  refine (within_any n 1 4 _).mono ?_
  rintro e w1 ⟨rfl, rfl⟩
  go_wp2_with fail
  go_ret
  exact ⟨rfl, rfl⟩
theorem timeOk_any (n : Int) (w : World) : Calls Tryz.prog 133 #[.int .i64 n] w fun e w' => e = .returned (.bool (lWithin n 0 100000)) ∧ w = w' := by
  go_enter Tryz.func133, Tryz.ntmps133
  go_wp2_with fail
  refine (within_any n 0 100000 _).mono ?_
  rintro e w1 ⟨rfl, rfl⟩
  go_wp2_with fail
  go_ret
  exact ⟨rfl, rfl⟩
theorem spanOk_any (n : Int) (w : World) : Calls Tryz.prog 134 #[.int .i64 n] w fun e w' => e = .returned (.bool (lWithin n 1 1000)) ∧ w = w' := by
  go_enter Tryz.func134, Tryz.ntmps134
  go_wp2_with fail
  refine (within_any n 1 1000 _).mono ?_
  rintro e w1 ⟨rfl, rfl⟩
  go_wp2_with fail
  go_ret
  exact ⟨rfl, rfl⟩
theorem epochOk_any (n : Int) (w : World) : Calls Tryz.prog 138 #[.int .i64 n] w fun e w' => e = .returned (.bool (lWithin n 1 1000)) ∧ w = w' := by
  go_enter Tryz.func138, Tryz.ntmps138
  go_wp2_with fail
  refine (within_any n 1 1000 _).mono ?_
  rintro e w1 ⟨rfl, rfl⟩
  go_wp2_with fail
  go_ret
  exact ⟨rfl, rfl⟩
theorem expired_any (l : RV) (now : Int) (w : World) : Calls Tryz.prog 185 #[.agg #[.int .i64 l.c, .int .i64 l.m, .int .i64 l.p], .int .i64 now] w fun e w' => e = .returned (.bool (decide (l.p ≤ now))) ∧ Below w.heap.size w w' := by
  go_enter Tryz.func185, Tryz.ntmps185
  go_wp2
  go_ret
  exact ⟨rfl, (by repeat' (first | exact Below.refl _ _ | refine Below.alloc ?_ ?_ _ | refine Below.setCell ?_ ?_ _ | refine Below.drew ?_ | (apply below_step; assumption) | (simp; done) | (simp; omega) | omega))⟩

theorem eqIn_lease (a b : RV) (w : World) : (Op.equalIn 10000 25 (.agg #[.int .i64 a.c, .int .i64 a.m, .int .i64 a.p]) (.agg #[.int .i64 b.c, .int .i64 b.m, .int .i64 b.p])).run Tryz.prog w = .ok (a.c == b.c && (a.m == b.m && a.p == b.p)) w := by
  have u3 := Tryz.underlying3
  have hS : Tryz.prog.underlying 25 = some (.struct (Tryz.prog.fieldsOf 25)) := by kernel_rfl
  have hp : Tryz.prog.stoodInHeld 25 = false := by kernel_rfl
  rw [show (10000 : Nat) = 9999 + 1 from rfl, run_equalIn_agg w 9999 25 _ _ hS hp]
  simp only [Program.fieldsOf, Tryz.underlying25]
  go_simp
  by_cases h1 : a.c = b.c <;> by_cases h2 : a.m = b.m <;> by_cases h3 : a.p = b.p <;> simp [h1, h2, h3]
theorem eq_lease (a b : RV) (w : World) : (binOp .eql 25 (.agg #[.int .i64 a.c, .int .i64 a.m, .int .i64 a.p]) (.agg #[.int .i64 b.c, .int .i64 b.m, .int .i64 b.p])).run Tryz.prog w = .ok (.bool (a.c == b.c && (a.m == b.m && a.p == b.p))) w := by
  rw [run_eql_struct, eqIn_lease]; rfl
theorem eq_lease0 (a : RV) (w : World) : (binOp .eql 25 (.agg #[.int .i64 a.c, .int .i64 a.m, .int .i64 a.p]) (.agg #[.int .i64 0, .int .i64 0, .int .i64 0])).run Tryz.prog w = .ok (.bool (leaseZero a)) w := eq_lease a ⟨0, 0, 0⟩ w
theorem guard_lease (op : BinOp) (x y : Operand) (xs ys : Array Value) (w : World) : (eqGuard op 25 x y (.agg xs) (.agg ys)).run Tryz.prog w = .ok () w := run_eqGuard_agg w op 25 x y xs ys (by kernel_rfl)

theorem LeaseOk_any (l : RV) (w : World) : Calls Tryz.prog 69 #[.agg #[.int .i64 l.c, .int .i64 l.m, .int .i64 l.p]] w fun e w' => e = .returned (.bool (leaseOk l)) ∧ Below w.heap.size w w' := by
  have heq := fun w => eq_lease0 l w
  have hgd := guard_lease
  have h1 := fun w => replicaOk_any l.c w
  have h2 := fun w => epochOk_any l.m w
  have h3 := fun w => within_any l.p 0 200000 w
  have HE := Lib.hid (leaseOk_eq l)
  generalize leaseOk l = ok at *
  generalize ez : leaseZero l = z at *
  generalize e1 : lWithin l.c 1 4 = b1 at *
  generalize e2 : lWithin l.m 1 1000 = b2 at *
  generalize e3 : lWithin l.p 0 200000 = b3 at *
  have HE' := Lib.hid (HE.out _ _ _ _ rfl rfl rfl rfl)
  have H1 := Lib.hid h1
  have H2 := Lib.hid h2
  have H3 := Lib.hid h3
  clear h1 h2 h3 HE ez e1 e2 e3
  go_enter Tryz.func69, Tryz.ntmps69
  cases z
  · go_wp2_with fail
    refine (H1.out _).mono ?_
    rintro e w1 ⟨rfl, rfl⟩
    cases b1
    · go_wp2_with fail
      go_ret
      exact ⟨by rw [HE'.out]; simp, (by repeat' (first | exact Below.refl _ _ | refine Below.alloc ?_ ?_ _ | refine Below.setCell ?_ ?_ _ | refine Below.drew ?_ | (apply below_step; assumption) | (simp; done) | (simp; omega) | omega))⟩
    go_wp2_with fail
    refine (H2.out _).mono ?_
    rintro e w1 ⟨rfl, rfl⟩
    cases b2
    · go_wp2_with fail
      go_ret
      exact ⟨by rw [HE'.out]; simp, (by repeat' (first | exact Below.refl _ _ | refine Below.alloc ?_ ?_ _ | refine Below.setCell ?_ ?_ _ | refine Below.drew ?_ | (apply below_step; assumption) | (simp; done) | (simp; omega) | omega))⟩
    go_wp2_with fail
    refine (H3.out _).mono ?_
    rintro e w1 ⟨rfl, rfl⟩
    go_wp2_with fail
    go_ret
    exact ⟨by rw [HE'.out]; simp, (by repeat' (first | exact Below.refl _ _ | refine Below.alloc ?_ ?_ _ | refine Below.setCell ?_ ?_ _ | refine Below.drew ?_ | (apply below_step; assumption) | (simp; done) | (simp; omega) | omega))⟩
  · go_wp2_with fail
    go_ret
    exact ⟨by rw [HE'.out]; simp, (by repeat' (first | exact Below.refl _ _ | refine Below.alloc ?_ ?_ _ | refine Below.setCell ?_ ?_ _ | refine Below.drew ?_ | (apply below_step; assumption) | (simp; done) | (simp; omega) | omega))⟩

set_option maxHeartbeats 1600000 in
theorem LeaseHolds_any (l : RV) (who epoch now : Int) (w : World) : Calls Tryz.prog 149 #[.agg #[.int .i64 l.c, .int .i64 l.m, .int .i64 l.p], .int .i64 who, .int .i64 epoch, .int .i64 now] w fun e w' => e = .returned (.bool (leaseHolds l who epoch now)) ∧ Below w.heap.size w w' := by
  have h0 := fun w => LeaseOk_any l w
  have h4 := fun w => expired_any l now w
  have HE := Lib.hid (leaseHolds_eq l who epoch now)
  generalize leaseHolds l who epoch now = ans at *
  generalize leaseOk l = b0 at *
  generalize e1 : (l.c == who) = b1 at *
  generalize e2 : (l.m == epoch) = b2 at *
  generalize e3 : (epoch != 0) = b3 at *
  generalize e4 : decide (l.p ≤ now) = b4 at *
  have HE' := Lib.hid (HE.out _ _ _ _ _ rfl rfl rfl rfl rfl)
  have H0 := Lib.hid h0
  have H4 := Lib.hid h4
  clear h0 h4 HE e4
  go_enter Tryz.func149, Tryz.ntmps149
  go_wp2_with fail
  refine (H0.out _).mono ?_
  rintro e w1 ⟨rfl, hb1⟩
  have hz1 := hb1.size
  simp at hz1
  obtain ⟨hc1, hf1⟩ := bcell hb1
  have q0 : w.heap.size < w1.heap.size := by omega
  cases b0
  · go_wp2_with fail
    go_ret
    exact ⟨by rw [HE'.out]; simp, (by repeat' (first | exact Below.refl _ _ | refine Below.alloc ?_ ?_ _ | refine Below.setCell ?_ ?_ _ | refine Below.drew ?_ | (apply below_step; assumption) | (simp; done) | (simp; omega) | omega))⟩
  cases b1
  · go_wp2_with fail
    go_ret
    exact ⟨by rw [HE'.out]; simp, (by repeat' (first | exact Below.refl _ _ | refine Below.alloc ?_ ?_ _ | refine Below.setCell ?_ ?_ _ | refine Below.drew ?_ | (apply below_step; assumption) | (simp; done) | (simp; omega) | omega))⟩
  cases b2
  · go_wp2_with fail
    go_ret
    exact ⟨by rw [HE'.out]; simp, (by repeat' (first | exact Below.refl _ _ | refine Below.alloc ?_ ?_ _ | refine Below.setCell ?_ ?_ _ | refine Below.drew ?_ | (apply below_step; assumption) | (simp; done) | (simp; omega) | omega))⟩
  cases b3
  · go_wp2_with fail
    go_ret
    exact ⟨by rw [HE'.out]; simp, (by repeat' (first | exact Below.refl _ _ | refine Below.alloc ?_ ?_ _ | refine Below.setCell ?_ ?_ _ | refine Below.drew ?_ | (apply below_step; assumption) | (simp; done) | (simp; omega) | omega))⟩
  go_wp2_with fail
  refine (H4.out _).mono ?_
  rintro e w2 ⟨rfl, hb2⟩
  have hz2 := hb2.size
  go_wp2_with fail
  go_ret
  exact ⟨by rw [HE'.out]; simp, (by repeat' (first | exact Below.refl _ _ | refine Below.alloc ?_ ?_ _ | refine Below.setCell ?_ ?_ _ | refine Below.drew ?_ | (apply below_step; assumption) | (simp; done) | (simp; omega) | omega))⟩
end Go.Proofs.YtcegofdmdemcbaaGreatDoor

namespace Go.Proofs.YtcegofdmdemcbaaGreatDoor
open Go.RowKit

theorem l06Who_any (n : Int) (w : World) : Calls Tryz.prog 117 #[.int .i64 n] w fun e w' => e = .returned (.bool (lWithin n 1 4)) ∧ w = w' := by
  unfold lWithin
  generalize e1 : decide ((1 : Int) ≤ n) = b1
  cases b1
  all_goals
    go_enter Tryz.func117, Tryz.ntmps117
    go_wp2
    go_ret
    exact ⟨by simp, rfl⟩
theorem l06Time_any (n : Int) (w : World) : Calls Tryz.prog 52 #[.int .i64 n] w fun e w' => e = .returned (.bool (lWithin n 0 100000)) ∧ w = w' := by
  unfold lWithin
  generalize e1 : decide ((0 : Int) ≤ n) = b1
  cases b1
  all_goals
    go_enter Tryz.func52, Tryz.ntmps52
    go_wp2
    go_ret
    exact ⟨by simp, rfl⟩
theorem l06Epoch_any (n : Int) (w : World) : Calls Tryz.prog 126 #[.int .i64 n] w fun e w' => e = .returned (.bool (lWithin n 1 1000)) ∧ w = w' := by
  unfold lWithin
  generalize e1 : decide ((1 : Int) ≤ n) = b1
  cases b1
  all_goals
    go_enter Tryz.func126, Tryz.ntmps126
    go_wp2
    go_ret
    exact ⟨by simp, rfl⟩
theorem leaseOk_eq6 (l : RV) (z b1 c1 c2 d1 d2 : Bool) (hz : leaseZero l = z) (h1 : lWithin l.c 1 4 = b1) (h2 : decide (1 ≤ l.m) = c1) (h3 : decide (l.m ≤ 1000) = c2) (h4 : decide (0 ≤ l.p) = d1) (h5 : decide (l.p ≤ 200000) = d2) : leaseOk l = (z || (b1 && (c1 && c2) && (d1 && d2))) := by
  subst hz h1 h2 h3 h4 h5; rfl
theorem sLeaseOk_any (l : RV) (w : World) : Calls Tryz.prog 53 #[.agg #[.int .i64 l.c, .int .i64 l.m, .int .i64 l.p]] w fun e w' => e = .returned (.bool (leaseOk l)) ∧ Below w.heap.size w w' := by
  have heq := fun w => eq_lease0 l w
  have hgd := guard_lease
  have h1 := fun w => l06Who_any l.c w
  have HE := Lib.hid (leaseOk_eq6 l)
  generalize leaseOk l = ok at *
  generalize ez : leaseZero l = z at *
  generalize e1 : lWithin l.c 1 4 = b1 at *
  generalize e2 : decide (1 ≤ l.m) = b2
  generalize e3 : decide (l.m ≤ 1000) = b3
  generalize e4 : decide (0 ≤ l.p) = b4
  generalize e5 : decide (l.p ≤ 200000) = b5
  have HE' := Lib.hid (HE.out _ _ _ _ _ _ rfl rfl e2 e3 e4 e5)
  have H1 := Lib.hid h1
  clear h1 HE ez e1
  go_enter Tryz.func53, Tryz.ntmps53
  cases z
  · go_wp2_with fail
    refine (H1.out _).mono ?_
    rintro e w1 ⟨rfl, rfl⟩
    cases b1
    · go_wp2_with fail
      go_ret
      exact ⟨by rw [HE'.out]; simp, (by repeat' (first | exact Below.refl _ _ | refine Below.alloc ?_ ?_ _ | refine Below.setCell ?_ ?_ _ | refine Below.drew ?_ | (apply below_step; assumption) | (simp; done) | (simp; omega) | omega))⟩
    cases b2
    · go_wp2_with fail
      go_ret
      exact ⟨by rw [HE'.out]; simp, (by repeat' (first | exact Below.refl _ _ | refine Below.alloc ?_ ?_ _ | refine Below.setCell ?_ ?_ _ | refine Below.drew ?_ | (apply below_step; assumption) | (simp; done) | (simp; omega) | omega))⟩
    cases b3
    · go_wp2_with fail
      go_ret
      exact ⟨by rw [HE'.out]; simp, (by repeat' (first | exact Below.refl _ _ | refine Below.alloc ?_ ?_ _ | refine Below.setCell ?_ ?_ _ | refine Below.drew ?_ | (apply below_step; assumption) | (simp; done) | (simp; omega) | omega))⟩
    cases b4
    · go_wp2_with fail
      go_ret
      exact ⟨by rw [HE'.out]; simp, (by repeat' (first | exact Below.refl _ _ | refine Below.alloc ?_ ?_ _ | refine Below.setCell ?_ ?_ _ | refine Below.drew ?_ | (apply below_step; assumption) | (simp; done) | (simp; omega) | omega))⟩
    go_wp2_with fail
    go_ret
    exact ⟨by rw [HE'.out]; simp, (by repeat' (first | exact Below.refl _ _ | refine Below.alloc ?_ ?_ _ | refine Below.setCell ?_ ?_ _ | refine Below.drew ?_ | (apply below_step; assumption) | (simp; done) | (simp; omega) | omega))⟩
  · go_wp2_with fail
    go_ret
    exact ⟨by rw [HE'.out]; simp, (by repeat' (first | exact Below.refl _ _ | refine Below.alloc ?_ ?_ _ | refine Below.setCell ?_ ?_ _ | refine Below.drew ?_ | (apply below_step; assumption) | (simp; done) | (simp; omega) | omega))⟩

theorem leaseHolds_eqG (l : RV) (who epoch now : Int) (b0 b1 b2 b3 b4 : Bool) (h0 : leaseOk l = b0) (h1 : (l.c == who) = b1) (h2 : (l.m == epoch) = b2) (h3 : (epoch != 0) = b3) (h4 : decide (now < l.p) = b4) :
    leaseHolds l who epoch now = (b0 && b1 && b2 && b3 && b4) := by
  subst h0 h1 h2 h3 h4
  have : (!decide (l.p ≤ now)) = decide (now < l.p) := by
    by_cases h : l.p ≤ now
    · simp [h, show ¬ now < l.p by omega]
    · simp [h, show now < l.p by omega]
  unfold leaseHolds
  rw [this]
theorem sLeaseHolds_any (l : RV) (who epoch now : Int) (w : World) : Calls Tryz.prog 148 #[.agg #[.int .i64 l.c, .int .i64 l.m, .int .i64 l.p], .int .i64 who, .int .i64 epoch, .int .i64 now] w fun e w' => e = .returned (.bool (leaseHolds l who epoch now)) ∧ Below w.heap.size w w' := by
  have h0 := fun w => sLeaseOk_any l w
  have HE := Lib.hid (leaseHolds_eqG l who epoch now)
  generalize leaseHolds l who epoch now = ans at *
  generalize leaseOk l = b0 at *
  generalize e1 : (l.c == who) = b1 at *
  generalize e2 : (l.m == epoch) = b2 at *
  generalize e3 : (epoch != 0) = b3 at *
  generalize e4 : decide (now < l.p) = b4 at *
  have HE' := Lib.hid (HE.out _ _ _ _ _ rfl rfl rfl rfl rfl)
  have H0 := Lib.hid h0
  clear h0 HE
  go_enter Tryz.func148, Tryz.ntmps148
  go_wp2_with fail
  refine (H0.out _).mono ?_
  rintro e w1 ⟨rfl, hb1⟩
  have hz1 := hb1.size
  simp at hz1
  obtain ⟨hc1, hf1⟩ := bcell hb1
  have q0 : w.heap.size < w1.heap.size := by omega
  cases b0
  · go_wp2_with fail
    go_ret
    exact ⟨by rw [HE'.out]; simp, (by repeat' (first | exact Below.refl _ _ | refine Below.alloc ?_ ?_ _ | refine Below.setCell ?_ ?_ _ | refine Below.drew ?_ | (apply below_step; assumption) | (simp; done) | (simp; omega) | omega))⟩
  cases b1
  · go_wp2_with fail
    go_ret
    exact ⟨by rw [HE'.out]; simp, (by repeat' (first | exact Below.refl _ _ | refine Below.alloc ?_ ?_ _ | refine Below.setCell ?_ ?_ _ | refine Below.drew ?_ | (apply below_step; assumption) | (simp; done) | (simp; omega) | omega))⟩
  cases b2
  · go_wp2_with fail
    go_ret
    exact ⟨by rw [HE'.out]; simp, (by repeat' (first | exact Below.refl _ _ | refine Below.alloc ?_ ?_ _ | refine Below.setCell ?_ ?_ _ | refine Below.drew ?_ | (apply below_step; assumption) | (simp; done) | (simp; omega) | omega))⟩
  cases b3
  · go_wp2_with fail
    go_ret
    exact ⟨by rw [HE'.out]; simp, (by repeat' (first | exact Below.refl _ _ | refine Below.alloc ?_ ?_ _ | refine Below.setCell ?_ ?_ _ | refine Below.drew ?_ | (apply below_step; assumption) | (simp; done) | (simp; omega) | omega))⟩
  go_wp2_with fail
  go_ret
  exact ⟨by rw [HE'.out]; simp, (by repeat' (first | exact Below.refl _ _ | refine Below.alloc ?_ ?_ _ | refine Below.setCell ?_ ?_ _ | refine Below.drew ?_ | (apply below_step; assumption) | (simp; done) | (simp; omega) | omega))⟩

theorem toLease_any (r : RV) (w : World) :
    Calls Tryz.prog 62 #[.agg #[.int .i64 r.c, .int .i64 r.m, .int .i64 r.p]] w fun e w' => e = .returned (.agg #[.int .i64 r.c, .int .i64 r.m, .int .i64 r.p]) ∧ Below w.heap.size w w' := by
  go_enter Tryz.func62, Tryz.ntmps62
  go_wp2
  refine bodyPost_ret (v := .agg #[.int .i64 r.c, .int .i64 r.m, .int .i64 r.p]) (by simp [results, Tryz.results62, go_sem]) rfl ⟨rfl, (by repeat' (first | exact Below.refl _ _ | refine Below.alloc ?_ ?_ _ | refine Below.setCell ?_ ?_ _ | refine Below.drew ?_ | (apply below_step; assumption) | (simp; done) | (simp; omega) | omega))⟩
theorem eqLease_same (r : RV) (w : World) :
    Calls Tryz.prog 28 #[.agg #[.int .i64 r.c, .int .i64 r.m, .int .i64 r.p], .agg #[.int .i64 r.c, .int .i64 r.m, .int .i64 r.p]] w fun e w' => e = .returned (.bool true) ∧ Below w.heap.size w w' := by
  have h0 : (r.c != r.c) = false := by simp
  have h1 : (r.m != r.m) = false := by simp
  have h2 : (r.p != r.p) = false := by simp
  go_enter Tryz.func28, Tryz.ntmps28
  go_wp2
  go_ret
  exact ⟨rfl, (by repeat' (first | exact Below.refl _ _ | refine Below.alloc ?_ ?_ _ | refine Below.setCell ?_ ?_ _ | refine Below.drew ?_ | (apply below_step; assumption) | (simp; done) | (simp; omega) | omega))⟩
end Go.Proofs.YtcegofdmdemcbaaGreatDoor

namespace Go.Proofs.YtcegofdmdemcbaaGreatDoor
open Go.RowKit

theorem toInst_any (r : RV) (w : World) :
    Calls Tryz.prog 176 #[.agg #[.int .i64 r.c, .int .i64 r.m, .int .i64 r.p]] w fun e w' => e = .returned (.agg #[.int .i64 r.c, .int .i64 r.m, .int .i64 r.p]) ∧ Below w.heap.size w w' := by
  go_enter Tryz.func176, Tryz.ntmps176
  go_wp2
  refine bodyPost_ret (v := .agg #[.int .i64 r.c, .int .i64 r.m, .int .i64 r.p]) (by simp [results, Tryz.results176, go_sem]) rfl ⟨rfl, (by repeat' (first | exact Below.refl _ _ | refine Below.alloc ?_ ?_ _ | refine Below.setCell ?_ ?_ _ | refine Below.drew ?_ | (apply below_step; assumption) | (simp; done) | (simp; omega) | omega))⟩
theorem eqInst_same (r : RV) (w : World) :
    Calls Tryz.prog 165 #[.agg #[.int .i64 r.c, .int .i64 r.m, .int .i64 r.p], .agg #[.int .i64 r.c, .int .i64 r.m, .int .i64 r.p]] w fun e w' => e = .returned (.bool true) ∧ Below w.heap.size w w' := by
  have h0 : (r.c != r.c) = false := by simp
  have h1 : (r.m != r.m) = false := by simp
  have h2 : (r.p != r.p) = false := by simp
  go_enter Tryz.func165, Tryz.ntmps165
  go_wp2
  go_ret
  exact ⟨rfl, (by repeat' (first | exact Below.refl _ _ | refine Below.alloc ?_ ?_ _ | refine Below.setCell ?_ ?_ _ | refine Below.drew ?_ | (apply below_step; assumption) | (simp; done) | (simp; omega) | omega))⟩
def InAt (w : World) (b off : Nat) (l : List RV) : Prop :=
  ∀ i r, l[i]? = some r → w.cell? ⟨b, off + i * 3, none⟩ = some (.int .i64 r.c) ∧ w.cell? ⟨b, off + i * 3 + 1, none⟩ = some (.int .i64 r.m) ∧ w.cell? ⟨b, off + i * 3 + 2, none⟩ = some (.int .i64 r.p)
def InSl (w : World) (v : Value) (l : List RV) : Prop := (l = [] ∧ ∃ A c, v = .slice A 0 c) ∨ ∃ b off c, v = .slice (some ⟨b, off, none⟩) l.length c ∧ b < w.heap.size ∧ InAt w b off l
theorem InAt.below {w w' : World} {b off B : Nat} {l : List RV} (h : InAt w b off l) (hb : Below B w w') (hB : b < B) : InAt w' b off l := fun i r hr => by
  obtain ⟨h1, h2, h3⟩ := h i r hr
  exact ⟨(hb.cell (p := ⟨b, _, none⟩) hB).trans h1, (hb.cell (p := ⟨b, _, none⟩) hB).trans h2, (hb.cell (p := ⟨b, _, none⟩) hB).trans h3⟩
theorem InSl.below {w w' : World} {v : Value} {l : List RV} (h : InSl w v l) (hb : Below w.heap.size w w') : InSl w' v l := by
  rcases h with h | ⟨b, off, c, rfl, hlt, h⟩
  · exact .inl h
  · exact .inr ⟨b, off, c, rfl, Nat.lt_of_lt_of_le hlt hb.size, h.below hb hlt⟩
theorem InSl.form {w : World} {v : Value} {l : List RV} (h : InSl w v l) : ∃ A c, v = .slice A l.length c ∧ (0 < l.length → ∃ b off, A = some ⟨b, off, none⟩ ∧ b < w.heap.size ∧ InAt w b off l) := by
  rcases h with ⟨rfl, A, c, rfl⟩ | ⟨b, off, c, rfl, hlt, h⟩
  · exact ⟨A, c, rfl, fun h => absurd h (by simp)⟩
  · exact ⟨_, c, rfl, fun _ => ⟨b, off, rfl, hlt, h⟩⟩
theorem in_keep (X : World) {b0 o0 b1 o1 b2 o2 b3 o3 b4 o4 b5 o5 : Nat} {v0 v1 v2 v3 v4 v5 : Value} (h : X.cell? ⟨b0, o0, none⟩ = some v0 ∧ X.cell? ⟨b1, o1, none⟩ = some v1 ∧ X.cell? ⟨b2, o2, none⟩ = some v2 ∧ X.cell? ⟨b3, o3, none⟩ = some v3 ∧ X.cell? ⟨b4, o4, none⟩ = some v4 ∧ X.cell? ⟨b5, o5, none⟩ = some v5) : ∀ w' : World, Below X.heap.size X w' → Below X.heap.size X w' ∧ w'.cell? ⟨b0, o0, none⟩ = some v0 ∧ w'.cell? ⟨b1, o1, none⟩ = some v1 ∧ w'.cell? ⟨b2, o2, none⟩ = some v2 ∧ w'.cell? ⟨b3, o3, none⟩ = some v3 ∧ w'.cell? ⟨b4, o4, none⟩ = some v4 ∧ w'.cell? ⟨b5, o5, none⟩ = some v5 := by
  intro w' hb
  obtain ⟨h0, h1, h2, h3, h4, h5⟩ := h
  refine ⟨hb, ?_, ?_, ?_, ?_, ?_, ?_⟩
  · exact (hb.cell (p := ⟨b0, o0, none⟩) (World.block_lt_of_cell? _ _ h0)).trans h0
  · exact (hb.cell (p := ⟨b1, o1, none⟩) (World.block_lt_of_cell? _ _ h1)).trans h1
  · exact (hb.cell (p := ⟨b2, o2, none⟩) (World.block_lt_of_cell? _ _ h2)).trans h2
  · exact (hb.cell (p := ⟨b3, o3, none⟩) (World.block_lt_of_cell? _ _ h3)).trans h3
  · exact (hb.cell (p := ⟨b4, o4, none⟩) (World.block_lt_of_cell? _ _ h4)).trans h4
  · exact (hb.cell (p := ⟨b5, o5, none⟩) (World.block_lt_of_cell? _ _ h5)).trans h5


theorem Tryz.infoInst : (Tryz.prog.info? 114).map (fun i => (i.zero, i.size, i.bytes)) = some (some (.agg #[.int .i64 0, .int .i64 0, .int .i64 0]), 3, 24) := by kernel_rfl
theorem make_inst (n : Nat) (h : n ≤ 1048576) (w : World) : (Instr.makeSlice 34 (.int .i64 (n : Int)) (.int .i64 (n : Int))).run Tryz.prog w = .ok (.slice (some ⟨w.heap.size, 0, none⟩) n n) (w.alloc (.cells (madeCells #[.int .i64 0, .int .i64 0, .int .i64 0] (n * 3)) 114)) := by
  obtain ⟨i, hi, hzz⟩ := Option.map_eq_some_iff.1 Tryz.infoInst
  simp only [Prod.mk.injEq] at hzz
  obtain ⟨hz, hs, hb⟩ := hzz
  have := run_make (P := Tryz.prog) w 34 114 i _ Tryz.underlying34 hi hz .i64 .i64 n n (by omega) (Int.le_refl _) (by rw [hb]; omega) (by omega)
  rw [this, hs]
  simp [Value.cells]

def CopyIn (w : World) (g : Nat) (l : List RV) (k : Nat) (wr : World) : Prop := ∃ cs : Array Value, BlockIs wr g 114 cs ∧ cs.size = l.length * 3 ∧
  (∀ i r, i < k → l[i]? = some r → cs[i * 3]? = some (.int .i64 r.c) ∧ cs[i * 3 + 1]? = some (.int .i64 r.m) ∧ cs[i * 3 + 2]? = some (.int .i64 r.p)) ∧ Below w.heap.size w wr
theorem CopyIn.put {w : World} {g : Nat} {l : List RV} {k : Nat} {r : RV} {wr : World} {cs : Array Value} (hs : cs.size = l.length * 3) (hr : l[k]? = some r)
    (hc : ∀ i r, i < k → l[i]? = some r → cs[i * 3]? = some (.int .i64 r.c) ∧ cs[i * 3 + 1]? = some (.int .i64 r.m) ∧ cs[i * 3 + 2]? = some (.int .i64 r.p))
    (hb : BlockIs wr g 114 (((cs.setIfInBounds (k * 3) (.int .i64 r.c)).setIfInBounds (k * 3 + 1) (.int .i64 r.m)).setIfInBounds (k * 3 + 2) (.int .i64 r.p))) (hB : Below w.heap.size w wr) : CopyIn w g l (k + 1) wr := by
  have hk : k < l.length := (List.getElem?_eq_some_iff.1 hr).1
  refine ⟨_, hb, by simp [hs], fun i r' hi hr' => ?_, hB⟩
  by_cases hik : i = k
  · subst hik
    obtain rfl := Option.some.inj (hr.symm.trans hr')
    refine ⟨?_, ?_, ?_⟩ <;> simp [Array.getElem?_setIfInBounds, hs] <;> omega
  · obtain ⟨h1, h2, h3⟩ := hc i r' (by omega) hr'
    refine ⟨?_, ?_, ?_⟩
    · rw [Array.getElem?_setIfInBounds_ne (by omega), Array.getElem?_setIfInBounds_ne (by omega), Array.getElem?_setIfInBounds_ne (by omega)]; exact h1
    · rw [Array.getElem?_setIfInBounds_ne (by omega), Array.getElem?_setIfInBounds_ne (by omega), Array.getElem?_setIfInBounds_ne (by omega)]; exact h2
    · rw [Array.getElem?_setIfInBounds_ne (by omega), Array.getElem?_setIfInBounds_ne (by omega), Array.getElem?_setIfInBounds_ne (by omega)]; exact h3
def NewIn (w : World) (l : List RV) (e : Ending) (w' : World) : Prop := ∃ g, e = .returned (.slice (some ⟨g, 0, none⟩) l.length l.length) ∧ w.heap.size ≤ g ∧ g < w'.heap.size ∧ InAt w' g 0 l ∧ Below w.heap.size w w' ∧ CopyIn w g l l.length w'
theorem CopyIn.done {w wr : World} {g : Nat} {l : List RV} (h : CopyIn w g l l.length wr) : InAt wr g 0 l := by
  obtain ⟨cs, hb, hs, hc, _⟩ := h
  intro i r hr
  have hi : i < l.length := (List.getElem?_eq_some_iff.1 hr).1
  obtain ⟨h1, h2, h3⟩ := hc i r hi hr
  simp only [Nat.zero_add]
  exact ⟨(hb.cell _).trans h1, (hb.cell _).trans h2, (hb.cell _).trans h3⟩

set_option maxHeartbeats 1600000 in
theorem toInstS_any (v : Value) (l : List RV) (w : World) (hv : InSl w v l) (hlen : l.length ≤ 1048576) :
    Calls Tryz.prog 131 #[v] w (NewIn w l) := by
  obtain ⟨A, c, rfl, hA⟩ := hv.form
  have HA := Lib.hid hA
  clear hA hv
  have hmk := make_inst l.length hlen
  go_enter Tryz.func131, Tryz.ntmps131
  go_wp2_with fail
  go_loopw [4] (fun s4 wr => ∃ k : Nat, k ≤ l.length ∧ s4 = .int .i64 k ∧ CopyIn w w.heap.size l k wr) (fun s4 _ => (l.length - intOf s4).toNat)
  case atStart =>
    exact ⟨0, by omega, rfl, _, BlockIs.new _ _ _, size_madeCells _ _, fun i r hi => absurd hi (by omega), (by repeat' (first | exact Below.refl _ _ | refine Below.alloc ?_ ?_ _ | refine Below.setCell ?_ ?_ _ | refine Below.drew ?_ | (apply below_step; assumption) | (simp; done) | (simp; omega) | omega))⟩
  case round =>
    obtain ⟨k, hk, rfl, HC⟩ := hrel
    by_cases hlt : k < l.length
    · obtain ⟨b, off, rfl, hbw, hat⟩ := HA.out (by omega)
      obtain ⟨r, hr⟩ : ∃ r, l[k]? = some r := ⟨_, List.getElem?_eq_getElem hlt⟩
      obtain ⟨cs, hblk, hs, hc, hB⟩ := HC
      obtain ⟨q0, q1, q2⟩ := (hat.below hB hbw) k r hr
      have hzr := hB.size
      have hgl := hblk.lt
      have HR := Lib.hid hr
      have HCC := Lib.hid hc
      have HBL := Lib.hid hblk
      have HSZ := Lib.hid hs
      clear hat hr hc hblk hs
      go_wp2_with fail
      refine (toInst_any r _).mono ?_
      rintro e w3 ⟨rfl, hb3⟩
      have hz3 := hb3.size
      have hB3 := HBL.out.below hb3 hgl
      have hs := HSZ.out
      have u0 : w3.cell? ⟨w.heap.size, k * 3, none⟩ = some (cs[k * 3]'(by omega)) := by rw [hB3.cell]; exact Array.getElem?_eq_getElem (by omega)
      have u1 : w3.cell? ⟨w.heap.size, k * 3 + 1, none⟩ = some (cs[k * 3 + 1]'(by omega)) := by rw [hB3.cell]; exact Array.getElem?_eq_getElem (by omega)
      have u2 : w3.cell? ⟨w.heap.size, k * 3 + 2, none⟩ = some (cs[k * 3 + 2]'(by omega)) := by rw [hB3.cell]; exact Array.getElem?_eq_getElem (by omega)
      generalize cs[k * 3]'(by omega) = x0 at u0
      generalize cs[k * 3 + 1]'(by omega) = x1 at u1
      generalize cs[k * 3 + 2]'(by omega) = x2 at u2
      have uf := hB3.frozen
      have HB3 := Lib.hid hB3
      clear hs hB3
      go_wp2_with fail
      go_roundw
      case rel =>
        refine ⟨k + 1, by omega, by go_num, CopyIn.put HSZ.out HR.out HCC.out ?_ (by repeat' (first | exact Below.refl _ _ | refine Below.alloc ?_ ?_ _ | refine Below.setCell ?_ ?_ _ | refine Below.drew ?_ | (apply below_step; assumption) | (simp; done) | (simp; omega) | omega))⟩
        exact ((HB3.out.put _ _).put _ _).put _ _
      case measure => simp [intOf]; omega
    · have hkl : k = l.length := by omega
      subst hkl
      have HD := Lib.hid HC.done
      have HCD := Lib.hid HC
      obtain ⟨cs, hblk, hs, hc, hB⟩ := HC
      have hgl := hblk.lt
      clear hblk hs hc
      go_wp2_with fail
      go_ret
      exact ⟨w.heap.size, rfl, Nat.le_refl _, hgl, HD.out, hB, HCD.out⟩

set_option maxHeartbeats 1600000 in
theorem eqInstS_same (v1 v2 : Value) (l : List RV) (w : World) (h1 : InSl w v1 l) (h2 : InSl w v2 l) (hlen : l.length ≤ 1048576) :
    Calls Tryz.prog 101 #[v1, v2] w fun e w' => e = .returned (.bool true) ∧ Below w.heap.size w w' := by
  obtain ⟨A, c, rfl, hA⟩ := h1.form
  obtain ⟨A2, c2, rfl, hA2⟩ := h2.form
  have HA := Lib.hid hA
  have HA2 := Lib.hid hA2
  clear hA hA2 h1 h2
  have hnn : ((l.length : Int) != (l.length : Int)) = false := by simp
  go_enter Tryz.func101, Tryz.ntmps101
  go_wp2_with fail
  go_loopw [5] (fun s5 wr => ∃ k : Nat, k ≤ l.length ∧ s5 = .int .i64 k ∧ Below w.heap.size w wr) (fun s5 _ => (l.length - intOf s5).toNat)
  case atStart => exact ⟨0, by omega, rfl, Below.refl _ _⟩
  case round =>
    obtain ⟨k, hk, rfl, hB⟩ := hrel
    have hzr := hB.size
    by_cases hlt : k < l.length
    · obtain ⟨b, off, rfl, hbw, hat⟩ := HA.out (by omega)
      obtain ⟨b2, off2, rfl, hbw2, hat2⟩ := HA2.out (by omega)
      obtain ⟨r, hr⟩ : ∃ r, l[k]? = some r := ⟨_, List.getElem?_eq_getElem hlt⟩
      obtain ⟨q0, q1, q2⟩ := (hat.below hB hbw) k r hr
      obtain ⟨p0, p1, p2⟩ := (hat2.below hB hbw2) k r hr
      have HK := Lib.hid (in_keep wr ⟨q0, q1, q2, p0, p1, p2⟩)
      have hlti : (k : Int) < (l.length : Int) := by omega
      have hk0 : (0 : Int) ≤ (k : Int) := by omega
      clear hat hat2 hr
      go_wp2_with fail
      go_region_held3 (fun w' => Below wr.heap.size wr w' ∧ w'.cell? ⟨b, off + k * 3, none⟩ = some (.int .i64 r.c) ∧ w'.cell? ⟨b, off + k * 3 + 1, none⟩ = some (.int .i64 r.m) ∧ w'.cell? ⟨b, off + k * 3 + 2, none⟩ = some (.int .i64 r.p) ∧ w'.cell? ⟨b2, off2 + k * 3, none⟩ = some (.int .i64 r.c) ∧ w'.cell? ⟨b2, off2 + k * 3 + 1, none⟩ = some (.int .i64 r.m) ∧ w'.cell? ⟨b2, off2 + k * 3 + 2, none⟩ = some (.int .i64 r.p))
        (exact HK.out _ (by repeat' (first | exact Below.refl _ _ | refine Below.alloc ?_ ?_ _ | refine Below.setCell ?_ ?_ _ | refine Below.drew ?_ | (apply below_step; assumption) | (simp; done) | (simp; omega) | omega)))
        (first | (go_at_call 165; refine (eqInst_same r _).mono ?_; rintro e w3 ⟨rfl, hb3⟩; have hz3 := hb3.size; try simp at hz3))
      go_wp2_with fail
      go_roundw
      case rel => exact ⟨k + 1, by omega, by go_num, (by repeat' (first | exact Below.refl _ _ | refine Below.alloc ?_ ?_ _ | refine Below.setCell ?_ ?_ _ | refine Below.drew ?_ | (apply below_step; assumption) | (simp; done) | (simp; omega) | omega))⟩
      case measure => simp [intOf]; omega
    · go_wp2_with fail
      go_ret
      exact ⟨rfl, hB⟩
end Go.Proofs.YtcegofdmdemcbaaGreatDoor

namespace Go.Proofs.YtcegofdmdemcbaaGreatDoor
open Go.RowKit

structure WS where
  ep : Value
  po : Value
  ta : Value
  no : Value
  bi : Value
  wa : Value
  en : Value
  ins : Value
  ms : Value
def WV.small (t : WV) : Prop := t.epochs.length ≤ 1048576 ∧ t.pools.length ≤ 1048576 ∧ t.wants.length ≤ 1048576 ∧ t.ends.length ≤ 1048576 ∧ t.insts.length ≤ 1048576 ∧ t.msgs.length ≤ 1048576
structure WldR (w : World) (t : WV) (s : WS) : Prop where
  ep : IntSl w s.ep t.epochs
  po : PoolSl w s.po t.pools
  clu : CluR w t.clu s.ta s.no s.bi
  wa : WantSl w s.wa t.wants
  en : IntSl w s.en t.ends
  ins : InSl w s.ins t.insts
  ms : MsgSl w s.ms t.msgs
  small : t.small
theorem WldR.below {w w' : World} {t : WV} {s : WS} (h : WldR w t s) (hb : Below w.heap.size w w') : WldR w' t s :=
  ⟨h.ep.below hb, h.po.below hb, h.clu.below hb, h.wa.below hb, h.en.below hb, h.ins.below hb, h.ms.below hb, h.small⟩
theorem WldR.form {w : World} {t : WV} {s : WS} (h : WldR w t s) : ∃ A0 A1 A2 A3 A4 A5 A6 A7 A8 c0 c1 c2 c3 c4 c5 c6 c7 c8, s = ⟨.slice A0 t.epochs.length c0, .slice A1 t.pools.length c1, .slice A2 t.clu.tasks.length c2, .slice A3 t.clu.nodes.length c3, .slice A4 t.clu.binds.length c4, .slice A5 t.wants.length c5, .slice A6 t.ends.length c6, .slice A7 t.insts.length c7, .slice A8 t.msgs.length c8⟩ := by
  obtain ⟨ep, po, ta, no, bi, wa, en, ins, ms⟩ := s
  obtain ⟨A0, c0, e0, _⟩ := h.ep.form
  obtain ⟨A1, c1, e1, _⟩ := h.po.form
  obtain ⟨A2, c2, e2, _⟩ := h.clu.1.form
  obtain ⟨A3, c3, e3, _⟩ := h.clu.2.1.form
  obtain ⟨A4, c4, e4, _⟩ := h.clu.2.2.1.form
  obtain ⟨A5, c5, e5, _⟩ := h.wa.form
  obtain ⟨A6, c6, e6, _⟩ := h.en.form
  obtain ⟨A7, c7, e7, _⟩ := h.ins.form
  obtain ⟨A8, c8, e8, _⟩ := h.ms.form
  simp only at e0 e1 e2 e3 e4 e5 e6 e7 e8
  subst e0 e1 e2 e3 e4 e5 e6 e7 e8
  exact ⟨A0, A1, A2, A3, A4, A5, A6, A7, A8, c0, c1, c2, c3, c4, c5, c6, c7, c8, rfl⟩
end Go.Proofs.YtcegofdmdemcbaaGreatDoor

namespace Go.Proofs.YtcegofdmdemcbaaGreatDoor
open Go.RowKit

theorem CluO.all {w : World} {c : CV} {a0 a1 a2 : Value} {bs : List Nat} (h : CluO w c a0 a1 a2 bs) : allTask c.tasks ∧ allNode c.nodes ∧ c.tasks.length ≤ 1048576 ∧ c.nodes.length ≤ 1048576 ∧ c.binds.length ≤ 1048576 := by
  obtain ⟨b0, b1, b2, ⟨_, _, _, h0, _⟩, ⟨_, _, _, h1, _⟩, _, _, _, l⟩ := h
  exact ⟨elems_allTask h0, elems_allNode h1, l⟩
theorem CluO.lt {w : World} {c : CV} {a0 a1 a2 : Value} {bs : List Nat} (h : CluO w c a0 a1 a2 bs) : ∀ b ∈ bs, b < w.heap.size := by
  obtain ⟨b0, b1, b2, h0, h1, h2, rfl, _⟩ := h
  intro b hb
  rcases List.mem_append.1 hb with hb | hb
  · exact rowO_lt (fun _ _ _ h => h.lt) h0 b hb
  · rcases List.mem_append.1 hb with hb | hb
    · exact rowO_lt (fun _ _ _ h => h.lt) h1 b hb
    · exact rowO_lt (fun _ _ _ h => h.lt) h2 b hb
theorem rowO_form {α : Type} {R : World → α → List Value → List Nat → Prop} {ty : TypeId} {n : Nat} {w : World} {v : Value} {l : List α} {bs : List Nat} (h : RowO R ty n w v l bs) : ∃ A c, v = .slice A l.length c := by
  obtain ⟨xs, b, h1, _⟩ := h
  obtain ⟨A, c, e, _⟩ := own_form h1
  exact ⟨A, c, e⟩
end Go.Proofs.YtcegofdmdemcbaaGreatDoor

namespace Go.Proofs.YtcegofdmdemcbaaGreatDoor
open Go.RowKit

theorem boxes3 (w : World) (t0 t1 t2 : TypeId) (c0 c1 c2 : Array Value) {w2 : World} (hb : Below (((w.alloc (.cells c0 t0)).alloc (.cells c1 t1)).alloc (.cells c2 t2)).heap.size (((w.alloc (.cells c0 t0)).alloc (.cells c1 t1)).alloc (.cells c2 t2)) w2) :
    BlockIs w2 w.heap.size t0 c0 ∧ BlockIs w2 (w.heap.size + 1) t1 c1 ∧ BlockIs w2 (w.heap.size + 1 + 1) t2 c2 :=
  ⟨(((BlockIs.new w t0 c0).alloc _).alloc _).below hb (by simp; omega), (BlockIs.alloc (BlockIs.new' (by simp)) _).below hb (by simp), (BlockIs.new' (by simp)).below hb (by simp)⟩
end Go.Proofs.YtcegofdmdemcbaaGreatDoor

namespace Go.Proofs.YtcegofdmdemcbaaGreatDoor
open Go.RowKit

set_option maxHeartbeats 3200000 in
theorem toCluster_o (c : CV) (a0 a1 a2 : Value) (w : World) (hc : CluR w c a0 a1 a2) :
    Calls Tryz.prog 64 #[.agg #[a0, a1, a2]] w (RetClu w c) := by
  have HC := Lib.hid hc
  obtain ⟨h0, h1, h2, l0, l1, l2⟩ := hc
  obtain ⟨D0, e0, rfl, _⟩ := h0.form
  obtain ⟨D1, e1, rfl, _⟩ := h1.form
  obtain ⟨D2, e2, rfl, _⟩ := h2.form
  have L := Lib.hid (And.intro l0 (And.intro l1 l2))
  clear h0 h1 h2 l0 l1 l2
  go_enter Tryz.func64, Tryz.ntmps64
  go_wp2_with fail
  have hX : Below w.heap.size w (((w.alloc (.cells #[.slice D0 c.tasks.length e0, .slice D1 c.nodes.length e1, .slice D2 c.binds.length e2] 53)).alloc (.cells #[.slice none 0 0, .slice none 0 0, .slice none 0 0] 32)).alloc (.cells #[.slice none 0 0, .slice none 0 0, .slice none 0 0] 32)) := (by repeat' (first | exact Below.refl _ _ | refine Below.alloc ?_ ?_ _ | refine Below.setCell ?_ ?_ _ | refine Below.drew ?_ | (apply below_step; assumption) | (simp; done) | (simp; omega) | omega))
  have hs1 : ((((w.alloc (.cells #[.slice D0 c.tasks.length e0, .slice D1 c.nodes.length e1, .slice D2 c.binds.length e2] 53)).alloc (.cells #[.slice none 0 0, .slice none 0 0, .slice none 0 0] 32)).alloc (.cells #[.slice none 0 0, .slice none 0 0, .slice none 0 0] 32))).heap.size = w.heap.size + 3 := by simp
  refine (toTaskS_o _ c.tasks _ (HC.out.below hX).1 L.out.1).mono ?_
  rintro e w1 ⟨b0, rfl, hr1, hn1, hl1, hb1⟩
  obtain ⟨B0, B1, B2⟩ := boxes3 _ _ _ _ _ _ _ hb1
  have hC1 := below_of hX hb1
  have hz1 := hb1.size
  rw [hs1] at hz1 hr1 hl1 ⊢
  have c1 := B0.cell 1
  have d0 := B2.cell 0
  have f2 := B2.frozen
  simp at c1 d0
  have HB0 := Lib.hid B0
  have HB1 := Lib.hid B1
  have HB2 := Lib.hid B2
  have HR1 := Lib.hid (And.intro hr1 (And.intro hn1 hl1))
  clear B0 B1 B2 hb1 hX hr1 hn1 hl1 hs1
  go_wp2_with fail
  have hC1' : Below w.heap.size w (w1.setCell ⟨w.heap.size + 1 + 1, 0, none⟩ (.slice (some ⟨w.heap.size + 3, 0, none⟩) c.tasks.length c.tasks.length)) := hC1.setCell (by dsimp only; omega) _
  refine (toNodeS_o _ c.nodes _ (HC.out.below hC1').2.1 L.out.2.1).mono ?_
  rintro e w2 ⟨b1, rfl, hr2, hn2, hl2, hb2⟩
  have hsz1 : (w1.setCell ⟨w.heap.size + 1 + 1, 0, none⟩ (.slice (some ⟨w.heap.size + 3, 0, none⟩) c.tasks.length c.tasks.length)).heap.size = w1.heap.size := by simp [World.setCell]
  have hC2 := below_of hC1' hb2
  have B0 := (HB0.out.far (p := ⟨w.heap.size + 1 + 1, 0, none⟩) (by dsimp only; omega) (.slice (some ⟨w.heap.size + 3, 0, none⟩) c.tasks.length c.tasks.length)).below hb2 (by rw [hsz1]; omega)
  have B1 := (HB1.out.far (p := ⟨w.heap.size + 1 + 1, 0, none⟩) (by dsimp only; omega) (.slice (some ⟨w.heap.size + 3, 0, none⟩) c.tasks.length c.tasks.length)).below hb2 (by rw [hsz1]; omega)
  have B2 := (HB2.out.put 0 (.slice (some ⟨w.heap.size + 3, 0, none⟩) c.tasks.length c.tasks.length)).below hb2 (by rw [hsz1]; omega)
  have hT1 : TurnB [w.heap.size + 1 + 1] w1 w2 := (TurnB.put (TurnB.refl _ _) (List.mem_singleton.2 rfl) _ _).step hb2
  have hz2 := hb2.size
  rw [hsz1] at hz2 hr2 hl2 ⊢
  have c2 := B0.cell 2
  have d1 := B2.cell 1
  have f2 := B2.frozen
  simp at c2 d1
  have HB1 := Lib.hid B1
  have HB2 := Lib.hid B2
  have HR2 := Lib.hid (And.intro hr2 (And.intro hn2 hl2))
  have HT1 := Lib.hid hT1
  clear B0 B1 B2 hb2 hr2 hn2 hl2 HB0 hC1 hC1' c1 d0 hsz1 hT1
  go_wp2_with fail
  have hC2' : Below w.heap.size w (w2.setCell ⟨w.heap.size + 1 + 1, 1, none⟩ (.slice (some ⟨w1.heap.size, 0, none⟩) c.nodes.length c.nodes.length)) := hC2.setCell (by dsimp only; omega) _
  refine (toBindS_o _ c.binds _ (HC.out.below hC2').2.2.1 L.out.2.2).mono ?_
  rintro e w3 ⟨b2, rfl, hr3, hn3, hl3, hb3⟩
  have hsz2 : (w2.setCell ⟨w.heap.size + 1 + 1, 1, none⟩ (.slice (some ⟨w1.heap.size, 0, none⟩) c.nodes.length c.nodes.length)).heap.size = w2.heap.size := by simp [World.setCell]
  have hC3 := below_of hC2' hb3
  have B1 := (HB1.out.far (p := ⟨w.heap.size + 1 + 1, 1, none⟩) (by dsimp only; omega) (.slice (some ⟨w1.heap.size, 0, none⟩) c.nodes.length c.nodes.length)).below hb3 (by rw [hsz2]; omega)
  have B2 := (HB2.out.put 1 (.slice (some ⟨w1.heap.size, 0, none⟩) c.nodes.length c.nodes.length)).below hb3 (by rw [hsz2]; omega)
  have hT2 : TurnB [w.heap.size + 1 + 1] w2 w3 := (TurnB.put (TurnB.refl _ _) (List.mem_singleton.2 rfl) _ _).step hb3
  have hz3 := hb3.size
  rw [hsz2] at hz3 hr3 hl3 ⊢
  have d0 := B2.cell 0
  have d1 := B2.cell 1
  have d2 := B2.cell 2
  have f2 := B2.frozen
  have x0 := B1.cell 0
  have x1 := B1.cell 1
  have x2 := B1.cell 2
  have f1 := B1.frozen
  simp at d0 d1 d2 x0 x1 x2
  have HB1 := Lib.hid B1
  have HR3 := Lib.hid (And.intro hr3 (And.intro hn3 hl3))
  have HT2 := Lib.hid hT2
  clear B1 B2 hb3 hr3 hn3 hl3 HB2 hC2 hC2' c2 hsz2 hT2
  go_wp2_with fail
  have hZ : BlockIs ((((w3.setCell ⟨w.heap.size + 1 + 1, 2, none⟩ (.slice (some ⟨w2.heap.size, 0, none⟩) c.binds.length c.binds.length)).setCell ⟨w.heap.size + 1, 0, none⟩ (.slice (some ⟨w.heap.size + 3, 0, none⟩) c.tasks.length c.tasks.length)).setCell ⟨w.heap.size + 1, 1, none⟩ (.slice (some ⟨w1.heap.size, 0, none⟩) c.nodes.length c.nodes.length)).setCell ⟨w.heap.size + 1, 2, none⟩ (.slice (some ⟨w2.heap.size, 0, none⟩) c.binds.length c.binds.length)) (w.heap.size + 1) 32 #[.slice (some ⟨w.heap.size + 3, 0, none⟩) c.tasks.length c.tasks.length, .slice (some ⟨w1.heap.size, 0, none⟩) c.nodes.length c.nodes.length, .slice (some ⟨w2.heap.size, 0, none⟩) c.binds.length c.binds.length] := by
    have := (((HB1.out.far (p := ⟨w.heap.size + 1 + 1, 2, none⟩) (by dsimp only; omega) (.slice (some ⟨w2.heap.size, 0, none⟩) c.binds.length c.binds.length)).put 0 (.slice (some ⟨w.heap.size + 3, 0, none⟩) c.tasks.length c.tasks.length)).put 1 (.slice (some ⟨w1.heap.size, 0, none⟩) c.nodes.length c.nodes.length)).put 2 (.slice (some ⟨w2.heap.size, 0, none⟩) c.binds.length c.binds.length)
    simpa using this
  have hT3 : TurnB [w.heap.size + 1, w.heap.size + 1 + 1] w3 ((((w3.setCell ⟨w.heap.size + 1 + 1, 2, none⟩ (.slice (some ⟨w2.heap.size, 0, none⟩) c.binds.length c.binds.length)).setCell ⟨w.heap.size + 1, 0, none⟩ (.slice (some ⟨w.heap.size + 3, 0, none⟩) c.tasks.length c.tasks.length)).setCell ⟨w.heap.size + 1, 1, none⟩ (.slice (some ⟨w1.heap.size, 0, none⟩) c.nodes.length c.nodes.length)).setCell ⟨w.heap.size + 1, 2, none⟩ (.slice (some ⟨w2.heap.size, 0, none⟩) c.binds.length c.binds.length)) :=
    TurnB.put (TurnB.put (TurnB.put (TurnB.put (TurnB.refl _ _) (by simp) _ _) (by simp) _ _) (by simp) _ _) (by simp) _ _
  have hB : Below w.heap.size w ((((w3.setCell ⟨w.heap.size + 1 + 1, 2, none⟩ (.slice (some ⟨w2.heap.size, 0, none⟩) c.binds.length c.binds.length)).setCell ⟨w.heap.size + 1, 0, none⟩ (.slice (some ⟨w.heap.size + 3, 0, none⟩) c.tasks.length c.tasks.length)).setCell ⟨w.heap.size + 1, 1, none⟩ (.slice (some ⟨w1.heap.size, 0, none⟩) c.nodes.length c.nodes.length)).setCell ⟨w.heap.size + 1, 2, none⟩ (.slice (some ⟨w2.heap.size, 0, none⟩) c.binds.length c.binds.length)) := hC3.trans (hT3.below hC3.size (by simp; omega))
  generalize ((((w3.setCell ⟨w.heap.size + 1 + 1, 2, none⟩ (.slice (some ⟨w2.heap.size, 0, none⟩) c.binds.length c.binds.length)).setCell ⟨w.heap.size + 1, 0, none⟩ (.slice (some ⟨w.heap.size + 3, 0, none⟩) c.tasks.length c.tasks.length)).setCell ⟨w.heap.size + 1, 1, none⟩ (.slice (some ⟨w1.heap.size, 0, none⟩) c.nodes.length c.nodes.length)).setCell ⟨w.heap.size + 1, 2, none⟩ (.slice (some ⟨w2.heap.size, 0, none⟩) c.binds.length c.binds.length)) = Y at hZ hT3 hB ⊢
  have z0 := hZ.cell 0
  have z1 := hZ.cell 1
  have z2 := hZ.cell 2
  simp at z0 z1 z2
  refine bodyPost_ret (v := .agg #[.slice (some ⟨w.heap.size + 3, 0, none⟩) c.tasks.length c.tasks.length, .slice (some ⟨w1.heap.size, 0, none⟩) c.nodes.length c.nodes.length, .slice (some ⟨w2.heap.size, 0, none⟩) c.binds.length c.binds.length]) (by simp [results, Tryz.results64, go_sem, z0, z1, z2]) rfl ⟨_, _, _, b0 ++ (b1 ++ b2), rfl, ⟨b0, b1, b2, ?_, ?_, ?_, rfl, ?_, L.out⟩, ?_, hB⟩
  all_goals
    obtain ⟨r1, n1, k1⟩ := HR1.out
    obtain ⟨r2, n2, k2⟩ := HR2.out
    obtain ⟨r3, n3, k3⟩ := HR3.out
    have t1 := rowO_lt (fun _ _ _ h => h.lt) r1
    have t2 := rowO_lt (fun _ _ _ h => h.lt) r2
    have t3 := rowO_lt (fun _ _ _ h => h.lt) r3
  · have q1 := r1.agree TaskO.framed (HT1.out.agree (fun b hb => ⟨t1 b hb, by have := k1 b hb; simp; omega⟩))
    have q2 := q1.agree TaskO.framed (HT2.out.agree (fun b hb => ⟨by have := t1 b hb; omega, by have := k1 b hb; simp; omega⟩))
    exact q2.agree TaskO.framed (hT3.agree (fun b hb => ⟨by have := t1 b hb; omega, by have := k1 b hb; simp; omega⟩))
  · have q2 := r2.agree NodeO.framed (HT2.out.agree (fun b hb => ⟨t2 b hb, by have := k2 b hb; simp; omega⟩))
    exact q2.agree NodeO.framed (hT3.agree (fun b hb => ⟨by have := t2 b hb; omega, by have := k2 b hb; simp; omega⟩))
  · exact r3.agree BindO.framed (hT3.agree (fun b hb => ⟨t3 b hb, by have := k3 b hb; simp; omega⟩))
  · rw [List.nodup_append, List.nodup_append]
    refine ⟨n1, ⟨n2, n3, fun a ha b hb e => by have := t2 a ha; have := k3 b hb; omega⟩, fun a ha b hb e => ?_⟩
    have := t1 a ha
    rcases List.mem_append.1 hb with hb | hb
    · have := k2 b hb; omega
    · have := k3 b hb; omega
  · intro b hb
    rcases List.mem_append.1 hb with hb | hb
    · have := k1 b hb; omega
    · rcases List.mem_append.1 hb with hb | hb
      · have := k2 b hb; omega
      · have := k3 b hb; omega
end Go.Proofs.YtcegofdmdemcbaaGreatDoor

namespace Go.Proofs.YtcegofdmdemcbaaGreatDoor
open Go.RowKit

def inL (l : List RV) : List Value := l.flatMap fun x => [.int .i64 x.c, .int .i64 x.m, .int .i64 x.p]
theorem inL_cons (x : RV) (r : List RV) : inL (x :: r) = .int .i64 x.c :: .int .i64 x.m :: .int .i64 x.p :: inL r := rfl
theorem inL_at {l : List RV} {i : Nat} {x : RV} (h : l[i]? = some x) : (inL l)[i * 3]? = some (.int .i64 x.c) ∧ (inL l)[i * 3 + 1]? = some (.int .i64 x.m) ∧ (inL l)[i * 3 + 2]? = some (.int .i64 x.p) := by
  induction l generalizing i with
  | nil => simp at h
  | cons y r ih =>
    cases i with
    | zero => simp at h; subst h; exact ⟨rfl, rfl, rfl⟩
    | succ i =>
      simp at h
      have := ih h
      rw [inL_cons, show (i + 1) * 3 = i * 3 + 1 + 1 + 1 by omega]
      simpa using this
def OwnsN (w : World) (base : Nat) (v : Value) (l : List RV) : Prop := w.ownsRow base 114 3 v l.length (inL l)
section
variable {w w' : World} {base : Nat} {v : Value} {l : List RV}
theorem OwnsN.alloc (h : OwnsN w base v l) (o : Obj) : OwnsN (w.alloc o) base v l := World.ownsRow.alloc h o
theorem OwnsN.nil (w : World) (base : Nat) : OwnsN w base (.slice none 0 0) [] := World.ownsRow_nil w base _ _
theorem OwnsN.below {B : Nat} (h : OwnsN w base v l) (hb : Below B w w') (hB : w.heap.size ≤ B) : OwnsN w' base v l := by
  obtain ⟨h1, h2⟩ := h
  refine ⟨h1, ?_⟩
  rcases h2 with h | ⟨g, cap, cur, hv, hg, hh, h⟩
  · exact .inl h
  · have hlt : g < w.heap.size := (Array.getElem?_eq_some_iff.1 hh).1
    exact .inr ⟨g, cap, cur, hv, hg, (hb.block g (by omega)).trans hh, h⟩
theorem OwnsN.form (h : OwnsN w base v l) : (v = .slice none 0 0 ∧ l = []) ∨ ∃ g cap cur, v = .slice (some ⟨g, 0, none⟩) l.length cap ∧ base ≤ g ∧ BlockIs w g 114 cur ∧ l.length * 3 ≤ cur.size ∧ ∀ (j : Nat) (u : Value), (inL l)[j]? = some u → cur[j]? = some u := by
  obtain ⟨h1, h2⟩ := h
  rcases h2 with ⟨hv, hn⟩ | ⟨g, cap, cur, hv, hg, hh, hnc, _, hs, ht⟩
  · exact .inl ⟨hv, List.eq_nil_of_length_eq_zero hn⟩
  · refine .inr ⟨g, cap, cur, hv, hg, hh, by rw [hs]; exact Nat.mul_le_mul_right 3 hnc, fun j u hu => ?_⟩
    rw [← ht] at hu
    have hj : j < l.length * 3 := by
      have := (List.getElem?_eq_some_iff.1 hu).1
      rw [List.length_take] at this; omega
    rw [List.getElem?_take_of_lt hj] at hu
    simpa using hu
theorem OwnsN.sl (h : OwnsN w base v l) : InSl w v l := by
  rcases h.form with ⟨rfl, rfl⟩ | ⟨g, cap, cur, rfl, _, hb, _, hc⟩
  · exact .inl ⟨rfl, _, _, rfl⟩
  · refine .inr ⟨g, 0, cap, rfl, hb.lt, fun i r hr => ?_⟩
    obtain ⟨h1, h2, h3⟩ := inL_at hr
    simp only [Nat.zero_add]
    exact ⟨(hb.cell _).trans (hc _ _ h1), (hb.cell _).trans (hc _ _ h2), (hb.cell _).trans (hc _ _ h3)⟩
theorem OwnsN.len (h : OwnsN w base v l) : ∃ A c, v = .slice A l.length c := by
  rcases h.form with ⟨rfl, rfl⟩ | ⟨g, cap, cur, rfl, _⟩
  · exact ⟨_, _, rfl⟩
  · exact ⟨_, _, rfl⟩
end
theorem inL_length (l : List RV) : (inL l).length = l.length * 3 := by
  induction l with
  | nil => rfl
  | cons x r ih => rw [inL_cons]; simp [ih]; omega
theorem CopyIn.own {w wr : World} {g : Nat} {l : List RV} (h : CopyIn w g l l.length wr) (hm : l.length ≤ 2000000) {base : Nat} (hb : base ≤ g) : OwnsN wr base (.slice (some ⟨g, 0, none⟩) l.length l.length) l := by
  obtain ⟨cs, hblk, hs, hc, _⟩ := h
  refine ⟨inL_length l, .inr ⟨g, l.length, cs, rfl, hb, hblk, Nat.le_refl _, by unfold maxLen; omega, hs, ?_⟩⟩
  refine List.ext_getElem? fun j => ?_
  rw [List.take_of_length_le (by rw [Array.length_toList]; omega), Array.getElem?_toList]
  by_cases hj : j < l.length * 3
  · obtain ⟨r, hr⟩ : ∃ r, l[j / 3]? = some r := ⟨_, List.getElem?_eq_getElem (by omega)⟩
    obtain ⟨h1, h2, h3⟩ := hc (j / 3) r (by omega) hr
    obtain ⟨k1, k2, k3⟩ := inL_at hr
    rcases (show j = j / 3 * 3 ∨ j = j / 3 * 3 + 1 ∨ j = j / 3 * 3 + 2 by omega) with e | e | e
    · rw [← e] at h1 k1; rw [h1, k1]
    · rw [← e] at h2 k2; rw [h2, k2]
    · rw [← e] at h3 k3; rw [h3, k3]
  · rw [Array.getElem?_eq_none (by omega), List.getElem?_eq_none (by rw [inL_length]; omega)]
end Go.Proofs.YtcegofdmdemcbaaGreatDoor

namespace Go.Proofs.YtcegofdmdemcbaaGreatDoor
open Go.RowKit

def PoolO (w : World) (t : PV) (cs : List Value) (bs : List Nat) : Prop := ∃ v1 v2, cs = [.int .i64 t.id, .int .i64 t.min, .int .i64 t.max, .int .i64 t.prio, .int .i64 t.shape.id, .int .i64 t.shape.pool, .int .i64 t.shape.cap.c, .int .i64 t.shape.cap.m, .int .i64 t.shape.cap.p, v1, v2, .bool t.shape.cordon] ∧ LabO w v1 t.shape.labs ∧ IntO w v2 t.shape.taints ∧ bs = blk v1 ++ blk v2 ∧ t.shape.labs.length ≤ 1048576 ∧ t.shape.taints.length ≤ 1048576
def WantO (_ : World) (t : BV) (cs : List Value) (bs : List Nat) : Prop := cs = [.int .i64 t.task, .int .i64 t.node] ∧ bs = []
def MsgO (_ : World) (t : MV) (cs : List Value) (bs : List Nat) : Prop := cs = [.int .i64 t.k, .int .i64 t.e, .int .i64 t.i, .int .i64 t.p] ∧ bs = []
theorem PoolO.framed : Framed PoolO := fun _ _ _ _ _ ⟨v1, v2, e, h1, h2, hb, h3⟩ ha => by
  subst hb
  exact ⟨v1, v2, e, own_agree h1 ha.left, own_agree h2 ha.right, rfl, h3⟩
theorem PoolO.r {w : World} {t : PV} {cs : List Value} {bs : List Nat} (h : PoolO w t cs bs) : PoolR w t cs := by
  obtain ⟨v1, v2, e, h1, h2, _, h3⟩ := h
  exact ⟨v1, v2, e, h1.sl, h2.sl, h3⟩
theorem PoolO.len {w : World} {t : PV} {cs : List Value} {bs : List Nat} (h : PoolO w t cs bs) : cs.length = 12 := by
  obtain ⟨v1, v2, e, _⟩ := h; subst e; rfl
theorem PoolO.lt {w : World} {t : PV} {cs : List Value} {bs : List Nat} (h : PoolO w t cs bs) : ∀ b ∈ bs, b < w.heap.size := by
  obtain ⟨v1, v2, _, h1, h2, rfl, _⟩ := h
  intro b hb
  rcases List.mem_append.1 hb with hb | hb
  · exact own_lt h1 b hb
  · exact own_lt h2 b hb
theorem WantO.framed : Framed WantO := fun _ _ _ _ _ h _ => h
theorem WantO.r {w : World} {t : BV} {cs : List Value} {bs : List Nat} (h : WantO w t cs bs) : WantR w t cs := h.1
theorem WantO.len {w : World} {t : BV} {cs : List Value} {bs : List Nat} (h : WantO w t cs bs) : cs.length = 2 := by rw [h.1]; rfl
theorem WantO.lt {w : World} {t : BV} {cs : List Value} {bs : List Nat} (h : WantO w t cs bs) : ∀ b ∈ bs, b < w.heap.size := by rw [h.2]; simp
theorem toWant_ro (t : BV) (cs : List Value) (w : World) (h : WantR w t cs) : Calls Tryz.prog 130 #[.agg cs.toArray] w (RetO WantO w t) := by
  obtain rfl := h
  exact (toWantW_any t w).mono fun _ _ ⟨e, hb⟩ => ⟨_, [], e, ⟨rfl, rfl⟩, by simp, by simp, hb⟩
theorem MsgO.framed : Framed MsgO := fun _ _ _ _ _ h _ => h
theorem MsgO.r {w : World} {t : MV} {cs : List Value} {bs : List Nat} (h : MsgO w t cs bs) : MsgR w t cs := h.1
theorem MsgO.len {w : World} {t : MV} {cs : List Value} {bs : List Nat} (h : MsgO w t cs bs) : cs.length = 4 := by rw [h.1]; rfl
theorem MsgO.lt {w : World} {t : MV} {cs : List Value} {bs : List Nat} (h : MsgO w t cs bs) : ∀ b ∈ bs, b < w.heap.size := by rw [h.2]; simp
theorem toMsg_ro (t : MV) (cs : List Value) (w : World) (h : MsgR w t cs) : Calls Tryz.prog 132 #[.agg cs.toArray] w (RetO MsgO w t) := by
  obtain rfl := h
  exact (toMsgW_any t w).mono fun _ _ ⟨e, hb⟩ => ⟨_, [], e, ⟨rfl, rfl⟩, by simp, by simp, hb⟩
theorem toPool_ro (t : PV) (cs : List Value) (w : World) (h : PoolR w t cs) : Calls Tryz.prog 26 #[.agg cs.toArray] w (RetO PoolO w t) := by
  obtain ⟨v1, v2, rfl, h1, h2, l1, l2⟩ := h
  refine (toPool_o t v1 v2 w h1 h2 l1 l2).mono fun _ _ ⟨g1, g2, e, k1, k2, k3, bl, it, hb⟩ => ⟨_, [g1, g2], e, ⟨_, _, rfl, labO_of bl l1, intO_of it l2, rfl, l1, l2⟩, ?_, ?_, hb⟩
  · have := blk_ne bl it (by decide)
    simp [this]
  · intro b hb
    simp at hb
    rcases hb with rfl | rfl
    · exact k1
    · exact k2
set_option maxHeartbeats 3200000 in
theorem toPoolS_o (v : Value) (l : List PV) (w : World) (hv : PoolSl w v l) (hlen : l.length ≤ 1048576) :
    Calls Tryz.prog 9 #[v] w fun e w' => ∃ bs, e = .returned (.slice (some ⟨w.heap.size, 0, none⟩) l.length l.length) ∧ RowO PoolO 80 12 w' (.slice (some ⟨w.heap.size, 0, none⟩) l.length l.length) l bs ∧ bs.Nodup ∧ (∀ b ∈ bs, w.heap.size ≤ b) ∧ Below w.heap.size w w' := by
  obtain ⟨A, c, rfl, hA⟩ := hv.form
  have HA := Lib.hid hA
  clear hA hv
  have hmk := make_pool l.length hlen
  go_enter Tryz.func9, Tryz.ntmps9
  go_wp2_with fail
  go_loopw [4] (fun s4 wr => ∃ (k : Nat) (xa xb : List Value) (ba : List Nat), k ≤ l.length ∧ s4 = .int .i64 k ∧ wr.ownsRow 0 80 12 (.slice (some ⟨w.heap.size, 0, none⟩) l.length l.length) l.length (xa ++ xb) ∧ Elems PoolO wr (l.take k) xa ba ∧ (w.heap.size :: ba).Nodup ∧ (∀ b ∈ ba, w.heap.size < b) ∧ Below w.heap.size w wr) (fun s4 _ => (l.length - intOf s4).toNat)
  case atStart =>
    refine ⟨0, [], (madeCells #[.int .i64 0, .int .i64 0, .int .i64 0, .int .i64 0, .int .i64 0, .int .i64 0, .int .i64 0, .int .i64 0, .int .i64 0, .slice none 0 0, .slice none 0 0, .bool false] (l.length * 12)).toList, [], by omega, rfl, ⟨by simp [size_madeCells], .inr ⟨w.heap.size, l.length, _, rfl, Nat.zero_le _, BlockIs.new w _ _, Nat.le_refl _, by simp only [maxLen]; omega, size_madeCells _ _, ?_⟩⟩, ⟨rfl, rfl⟩, by simp, by simp, (by repeat' (first | exact Below.refl _ _ | refine Below.alloc ?_ ?_ _ | refine Below.setCell ?_ ?_ _ | refine Below.drew ?_ | (apply below_step; assumption) | (simp; done) | (simp; omega) | omega))⟩
    rw [List.nil_append, List.take_of_length_le]
    simp [size_madeCells]
  case round =>
    obtain ⟨k, xa, xb, ba, hk, rfl, hown, hel, hnd, hlo, hB⟩ := hrel
    have hzr := hB.size
    by_cases hlt : k < l.length
    · obtain ⟨b, off, rfl, hbw, hat⟩ := HA.out (by omega)
      obtain ⟨t, ht⟩ : ∃ t, l[k]? = some t := ⟨_, List.getElem?_eq_getElem hlt⟩
      obtain ⟨cs, hR, hC⟩ := (hat.below PoolR.kept hB hbw) k t ht
      have HTK := Lib.hid ht
      have HR := Lib.hid (toPool_ro t cs wr hR)
      obtain ⟨v1, v2, rfl, sl, si, m1, m2⟩ := hR; obtain ⟨A1, c1, rfl, _⟩ := sl.form; obtain ⟨A2, c2, rfl, _⟩ := si.form
      clear sl si m1 m2
      obtain ⟨q0, q1, q2, q3, q4, q5, q6, q7, q8, q9, q10, q11⟩ := pool_cells hC
      have HO := Lib.hid hown
      have HEL := Lib.hid hel
      have HND := Lib.hid (And.intro hnd hlo)
      have hgl := own_lt hown w.heap.size (by simp [blk, Value.ownBlock])
      clear hat hC ht hown hel hnd hlo
      go_wp2_with fail
      refine HR.out.mono ?_
      rintro e w3 ⟨ds, bx, rfl, hN, hndx, hlox, hb3⟩
      have hz3 := hb3.size
      have hC3 := below_of hB hb3
      have hO3 := own_agree HO.out (Agree.of_below hb3 (own_lt HO.out))
      have hk12 : k * 12 + 12 ≤ l.length * 12 := by
        have := Nat.mul_le_mul_right 12 (show k + 1 ≤ l.length from hlt)
        rw [Nat.add_mul, Nat.one_mul] at this; exact this
      obtain ⟨y0, x0⟩ := own_some hO3 (j := k * 12 + 0) (by omega); obtain ⟨y1, x1⟩ := own_some hO3 (j := k * 12 + 1) (by omega); obtain ⟨y2, x2⟩ := own_some hO3 (j := k * 12 + 2) (by omega); obtain ⟨y3, x3⟩ := own_some hO3 (j := k * 12 + 3) (by omega); obtain ⟨y4, x4⟩ := own_some hO3 (j := k * 12 + 4) (by omega); obtain ⟨y5, x5⟩ := own_some hO3 (j := k * 12 + 5) (by omega); obtain ⟨y6, x6⟩ := own_some hO3 (j := k * 12 + 6) (by omega); obtain ⟨y7, x7⟩ := own_some hO3 (j := k * 12 + 7) (by omega); obtain ⟨y8, x8⟩ := own_some hO3 (j := k * 12 + 8) (by omega); obtain ⟨y9, x9⟩ := own_some hO3 (j := k * 12 + 9) (by omega); obtain ⟨y10, x10⟩ := own_some hO3 (j := k * 12 + 10) (by omega); obtain ⟨y11, x11⟩ := own_some hO3 (j := k * 12 + 11) (by omega)
      rw [Nat.add_zero] at x0
      have uf := own_frozen hO3 (by omega)
      have HO3 := Lib.hid hO3
      have HN := Lib.hid (And.intro hN (And.intro hndx hlox))
      obtain ⟨v3, v4, rfl, n1, n2, -, -, -⟩ := hN
      obtain ⟨E1, d1, rfl, -⟩ := own_form n1
      obtain ⟨E2, d2, rfl, -⟩ := own_form n2
      clear hndx hlox hO3 hk12 n1 n2
      go_wp2_with fail
      go_roundw
      case rel =>
        obtain ⟨hN, hndx, hlox⟩ := HN.out
        obtain ⟨hnd, hlo⟩ := HND.out
        have hxl : xa.length = k * 12 := by rw [HEL.out.len (fun _ _ _ h => h.len), List.length_take, Nat.min_eq_left hk]
        have hlx : (xa ++ xb).length = l.length * 12 := HO3.out.1
        rw [List.length_append, hxl] at hlx
        have hx0 : (xb.take 12).length = 12 := by
          rw [List.length_take]
          have := Nat.mul_le_mul_right 12 (show k + 1 ≤ l.length from hlt)
          rw [Nat.add_mul, Nat.one_mul] at this
          omega
        have h3 := HO3.out
        rw [← List.take_append_drop 12 xb] at h3
        have st := own_put (v := .slice (some ⟨w.heap.size, 0, none⟩) l.length l.length) (g := w.heap.size) (ds := [.int .i64 t.id, .int .i64 t.min, .int .i64 t.max, .int .i64 t.prio, .int .i64 t.shape.id, .int .i64 t.shape.pool, .int .i64 t.shape.cap.c, .int .i64 t.shape.cap.m, .int .i64 t.shape.cap.p, .slice E1 t.shape.labs.length d1, .slice E2 t.shape.taints.length d2, .bool t.shape.cordon]) h3 (by rw [hx0]; rfl) rfl
        rw [hxl] at st
        have hEA := HEL.out.agree PoolO.framed (Agree.of_below hb3 (elems_lt (fun _ _ _ h => h.lt) HEL.out))
        have hP : TurnB [w.heap.size] w3 (putAll w3 w.heap.size (k * 12) [.int .i64 t.id, .int .i64 t.min, .int .i64 t.max, .int .i64 t.prio, .int .i64 t.shape.id, .int .i64 t.shape.pool, .int .i64 t.shape.cap.c, .int .i64 t.shape.cap.m, .int .i64 t.shape.cap.p, .slice E1 t.shape.labs.length d1, .slice E2 t.shape.taints.length d2, .bool t.shape.cordon]) := (TurnB.refl _ _).putAll (List.mem_singleton.2 rfl) _ _
        have hEP := hEA.agree PoolO.framed (hP.agree (fun b hb => ⟨elems_lt (fun _ _ _ h => h.lt) hEA b hb, by have := hlo b hb; simp; omega⟩))
        have hNP := PoolO.framed _ _ _ _ _ hN (hP.agree (fun b hb => ⟨hN.lt b hb, by have := hlox b hb; simp; omega⟩))
        refine ⟨k + 1, xa ++ [.int .i64 t.id, .int .i64 t.min, .int .i64 t.max, .int .i64 t.prio, .int .i64 t.shape.id, .int .i64 t.shape.pool, .int .i64 t.shape.cap.c, .int .i64 t.shape.cap.m, .int .i64 t.shape.cap.p, .slice E1 t.shape.labs.length d1, .slice E2 t.shape.taints.length d2, .bool t.shape.cordon], xb.drop 12, ba ++ bx, by omega, by go_num, by rw [List.append_assoc]; exact st, by rw [take_at HTK.out]; exact hEP.snoc hNP, ?_, ?_, hP.below hC3.size (by simp) |> hC3.trans⟩
        · rw [List.nodup_cons] at hnd ⊢
          refine ⟨fun hm => ?_, ?_⟩
          · rcases List.mem_append.1 hm with hm | hm
            · exact hnd.1 hm
            · have := hlox _ hm; omega
          · rw [List.nodup_append]
            exact ⟨hnd.2, hndx, fun a ha b hb e => by have := elems_lt (fun _ _ _ h => h.lt) HEL.out a ha; have := hlox b hb; omega⟩
        · intro b hb
          rcases List.mem_append.1 hb with hb | hb
          · exact hlo b hb
          · have := hlox b hb; omega
      case measure => simp [intOf]; omega
    · have hkl : k = l.length := by omega
      have HF := Lib.hid (And.intro hown (And.intro hel (And.intro hnd hlo)))
      have HKL := Lib.hid hkl
      clear hkl hown hel hnd hlo
      go_wp2_with fail
      go_ret
      obtain ⟨hown, hel, hnd, hlo⟩ := HF.out
      have hkl := HKL.out
      subst hkl
      rw [List.take_length] at hel
      have hxl := hel.len (fun _ _ _ h => h.len)
      have h1 := hown.1
      rw [List.length_append, hxl] at h1
      obtain rfl : xb = [] := List.eq_nil_of_length_eq_zero (by omega)
      rw [List.append_nil] at hown
      exact ⟨w.heap.size :: ba, rfl, ⟨xa, ba, hown, hel, by simp [blk, Value.ownBlock]⟩, hnd, fun b hb => by
        rcases List.mem_cons.1 hb with rfl | hb
        · exact Nat.le_refl _
        · have := hlo b hb; omega, hB⟩
set_option maxHeartbeats 3200000 in
theorem toWantS_o (v : Value) (l : List BV) (w : World) (hv : WantSl w v l) (hlen : l.length ≤ 1048576) :
    Calls Tryz.prog 65 #[v] w fun e w' => ∃ bs, e = .returned (.slice (some ⟨w.heap.size, 0, none⟩) l.length l.length) ∧ RowO WantO 112 2 w' (.slice (some ⟨w.heap.size, 0, none⟩) l.length l.length) l bs ∧ bs.Nodup ∧ (∀ b ∈ bs, w.heap.size ≤ b) ∧ Below w.heap.size w w' := by
  obtain ⟨A, c, rfl, hA⟩ := hv.form
  have HA := Lib.hid hA
  clear hA hv
  have hmk := make_want l.length hlen
  go_enter Tryz.func65, Tryz.ntmps65
  go_wp2_with fail
  go_loopw [4] (fun s4 wr => ∃ (k : Nat) (xa xb : List Value) (ba : List Nat), k ≤ l.length ∧ s4 = .int .i64 k ∧ wr.ownsRow 0 112 2 (.slice (some ⟨w.heap.size, 0, none⟩) l.length l.length) l.length (xa ++ xb) ∧ Elems WantO wr (l.take k) xa ba ∧ (w.heap.size :: ba).Nodup ∧ (∀ b ∈ ba, w.heap.size < b) ∧ Below w.heap.size w wr) (fun s4 _ => (l.length - intOf s4).toNat)
  case atStart =>
    refine ⟨0, [], (madeCells #[.int .i64 0, .int .i64 0] (l.length * 2)).toList, [], by omega, rfl, ⟨by simp [size_madeCells], .inr ⟨w.heap.size, l.length, _, rfl, Nat.zero_le _, BlockIs.new w _ _, Nat.le_refl _, by simp only [maxLen]; omega, size_madeCells _ _, ?_⟩⟩, ⟨rfl, rfl⟩, by simp, by simp, (by repeat' (first | exact Below.refl _ _ | refine Below.alloc ?_ ?_ _ | refine Below.setCell ?_ ?_ _ | refine Below.drew ?_ | (apply below_step; assumption) | (simp; done) | (simp; omega) | omega))⟩
    rw [List.nil_append, List.take_of_length_le]
    simp [size_madeCells]
  case round =>
    obtain ⟨k, xa, xb, ba, hk, rfl, hown, hel, hnd, hlo, hB⟩ := hrel
    have hzr := hB.size
    by_cases hlt : k < l.length
    · obtain ⟨b, off, rfl, hbw, hat⟩ := HA.out (by omega)
      obtain ⟨t, ht⟩ : ∃ t, l[k]? = some t := ⟨_, List.getElem?_eq_getElem hlt⟩
      obtain ⟨cs, hR, hC⟩ := (hat.below WantR.kept hB hbw) k t ht
      have HTK := Lib.hid ht
      have HR := Lib.hid (toWant_ro t cs wr hR)
      obtain rfl := hR
      skip
      obtain ⟨q0, q1⟩ := want_cells hC
      have HO := Lib.hid hown
      have HEL := Lib.hid hel
      have HND := Lib.hid (And.intro hnd hlo)
      have hgl := own_lt hown w.heap.size (by simp [blk, Value.ownBlock])
      clear hat hC ht hown hel hnd hlo
      go_wp2_with fail
      refine HR.out.mono ?_
      rintro e w3 ⟨ds, bx, rfl, hN, hndx, hlox, hb3⟩
      have hz3 := hb3.size
      have hC3 := below_of hB hb3
      have hO3 := own_agree HO.out (Agree.of_below hb3 (own_lt HO.out))
      have hk2 : k * 2 + 2 ≤ l.length * 2 := by
        have := Nat.mul_le_mul_right 2 (show k + 1 ≤ l.length from hlt)
        rw [Nat.add_mul, Nat.one_mul] at this; exact this
      obtain ⟨y0, x0⟩ := own_some hO3 (j := k * 2 + 0) (by omega); obtain ⟨y1, x1⟩ := own_some hO3 (j := k * 2 + 1) (by omega)
      rw [Nat.add_zero] at x0
      have uf := own_frozen hO3 (by omega)
      have HO3 := Lib.hid hO3
      have HN := Lib.hid (And.intro hN (And.intro hndx hlox))
      obtain ⟨rfl, -⟩ := hN
      
      
      clear hndx hlox hO3 hk2 
      go_wp2_with fail
      go_roundw
      case rel =>
        obtain ⟨hN, hndx, hlox⟩ := HN.out
        obtain ⟨hnd, hlo⟩ := HND.out
        have hxl : xa.length = k * 2 := by rw [HEL.out.len (fun _ _ _ h => h.len), List.length_take, Nat.min_eq_left hk]
        have hlx : (xa ++ xb).length = l.length * 2 := HO3.out.1
        rw [List.length_append, hxl] at hlx
        have hx0 : (xb.take 2).length = 2 := by
          rw [List.length_take]
          have := Nat.mul_le_mul_right 2 (show k + 1 ≤ l.length from hlt)
          rw [Nat.add_mul, Nat.one_mul] at this
          omega
        have h3 := HO3.out
        rw [← List.take_append_drop 2 xb] at h3
        have st := own_put (v := .slice (some ⟨w.heap.size, 0, none⟩) l.length l.length) (g := w.heap.size) (ds := [.int .i64 t.task, .int .i64 t.node]) h3 (by rw [hx0]; rfl) rfl
        rw [hxl] at st
        have hEA := HEL.out.agree WantO.framed (Agree.of_below hb3 (elems_lt (fun _ _ _ h => h.lt) HEL.out))
        have hP : TurnB [w.heap.size] w3 (putAll w3 w.heap.size (k * 2) [.int .i64 t.task, .int .i64 t.node]) := (TurnB.refl _ _).putAll (List.mem_singleton.2 rfl) _ _
        have hEP := hEA.agree WantO.framed (hP.agree (fun b hb => ⟨elems_lt (fun _ _ _ h => h.lt) hEA b hb, by have := hlo b hb; simp; omega⟩))
        have hNP := WantO.framed _ _ _ _ _ hN (hP.agree (fun b hb => ⟨hN.lt b hb, by have := hlox b hb; simp; omega⟩))
        refine ⟨k + 1, xa ++ [.int .i64 t.task, .int .i64 t.node], xb.drop 2, ba ++ bx, by omega, by go_num, by rw [List.append_assoc]; exact st, by rw [take_at HTK.out]; exact hEP.snoc hNP, ?_, ?_, hP.below hC3.size (by simp) |> hC3.trans⟩
        · rw [List.nodup_cons] at hnd ⊢
          refine ⟨fun hm => ?_, ?_⟩
          · rcases List.mem_append.1 hm with hm | hm
            · exact hnd.1 hm
            · have := hlox _ hm; omega
          · rw [List.nodup_append]
            exact ⟨hnd.2, hndx, fun a ha b hb e => by have := elems_lt (fun _ _ _ h => h.lt) HEL.out a ha; have := hlox b hb; omega⟩
        · intro b hb
          rcases List.mem_append.1 hb with hb | hb
          · exact hlo b hb
          · have := hlox b hb; omega
      case measure => simp [intOf]; omega
    · have hkl : k = l.length := by omega
      have HF := Lib.hid (And.intro hown (And.intro hel (And.intro hnd hlo)))
      have HKL := Lib.hid hkl
      clear hkl hown hel hnd hlo
      go_wp2_with fail
      go_ret
      obtain ⟨hown, hel, hnd, hlo⟩ := HF.out
      have hkl := HKL.out
      subst hkl
      rw [List.take_length] at hel
      have hxl := hel.len (fun _ _ _ h => h.len)
      have h1 := hown.1
      rw [List.length_append, hxl] at h1
      obtain rfl : xb = [] := List.eq_nil_of_length_eq_zero (by omega)
      rw [List.append_nil] at hown
      exact ⟨w.heap.size :: ba, rfl, ⟨xa, ba, hown, hel, by simp [blk, Value.ownBlock]⟩, hnd, fun b hb => by
        rcases List.mem_cons.1 hb with rfl | hb
        · exact Nat.le_refl _
        · have := hlo b hb; omega, hB⟩
set_option maxHeartbeats 3200000 in
theorem toMsgS_o (v : Value) (l : List MV) (w : World) (hv : MsgSl w v l) (hlen : l.length ≤ 1048576) :
    Calls Tryz.prog 67 #[v] w fun e w' => ∃ bs, e = .returned (.slice (some ⟨w.heap.size, 0, none⟩) l.length l.length) ∧ RowO MsgO 107 4 w' (.slice (some ⟨w.heap.size, 0, none⟩) l.length l.length) l bs ∧ bs.Nodup ∧ (∀ b ∈ bs, w.heap.size ≤ b) ∧ Below w.heap.size w w' := by
  obtain ⟨A, c, rfl, hA⟩ := hv.form
  have HA := Lib.hid hA
  clear hA hv
  have hmk := make_msg l.length hlen
  go_enter Tryz.func67, Tryz.ntmps67
  go_wp2_with fail
  go_loopw [4] (fun s4 wr => ∃ (k : Nat) (xa xb : List Value) (ba : List Nat), k ≤ l.length ∧ s4 = .int .i64 k ∧ wr.ownsRow 0 107 4 (.slice (some ⟨w.heap.size, 0, none⟩) l.length l.length) l.length (xa ++ xb) ∧ Elems MsgO wr (l.take k) xa ba ∧ (w.heap.size :: ba).Nodup ∧ (∀ b ∈ ba, w.heap.size < b) ∧ Below w.heap.size w wr) (fun s4 _ => (l.length - intOf s4).toNat)
  case atStart =>
    refine ⟨0, [], (madeCells #[.int .i64 0, .int .i64 0, .int .i64 0, .int .i64 0] (l.length * 4)).toList, [], by omega, rfl, ⟨by simp [size_madeCells], .inr ⟨w.heap.size, l.length, _, rfl, Nat.zero_le _, BlockIs.new w _ _, Nat.le_refl _, by simp only [maxLen]; omega, size_madeCells _ _, ?_⟩⟩, ⟨rfl, rfl⟩, by simp, by simp, (by repeat' (first | exact Below.refl _ _ | refine Below.alloc ?_ ?_ _ | refine Below.setCell ?_ ?_ _ | refine Below.drew ?_ | (apply below_step; assumption) | (simp; done) | (simp; omega) | omega))⟩
    rw [List.nil_append, List.take_of_length_le]
    simp [size_madeCells]
  case round =>
    obtain ⟨k, xa, xb, ba, hk, rfl, hown, hel, hnd, hlo, hB⟩ := hrel
    have hzr := hB.size
    by_cases hlt : k < l.length
    · obtain ⟨b, off, rfl, hbw, hat⟩ := HA.out (by omega)
      obtain ⟨t, ht⟩ : ∃ t, l[k]? = some t := ⟨_, List.getElem?_eq_getElem hlt⟩
      obtain ⟨cs, hR, hC⟩ := (hat.below MsgR.kept hB hbw) k t ht
      have HTK := Lib.hid ht
      have HR := Lib.hid (toMsg_ro t cs wr hR)
      obtain rfl := hR
      skip
      obtain ⟨q0, q1, q2, q3⟩ := msg_cells hC
      have HO := Lib.hid hown
      have HEL := Lib.hid hel
      have HND := Lib.hid (And.intro hnd hlo)
      have hgl := own_lt hown w.heap.size (by simp [blk, Value.ownBlock])
      clear hat hC ht hown hel hnd hlo
      go_wp2_with fail
      refine HR.out.mono ?_
      rintro e w3 ⟨ds, bx, rfl, hN, hndx, hlox, hb3⟩
      have hz3 := hb3.size
      have hC3 := below_of hB hb3
      have hO3 := own_agree HO.out (Agree.of_below hb3 (own_lt HO.out))
      have hk4 : k * 4 + 4 ≤ l.length * 4 := by
        have := Nat.mul_le_mul_right 4 (show k + 1 ≤ l.length from hlt)
        rw [Nat.add_mul, Nat.one_mul] at this; exact this
      obtain ⟨y0, x0⟩ := own_some hO3 (j := k * 4 + 0) (by omega); obtain ⟨y1, x1⟩ := own_some hO3 (j := k * 4 + 1) (by omega); obtain ⟨y2, x2⟩ := own_some hO3 (j := k * 4 + 2) (by omega); obtain ⟨y3, x3⟩ := own_some hO3 (j := k * 4 + 3) (by omega)
      rw [Nat.add_zero] at x0
      have uf := own_frozen hO3 (by omega)
      have HO3 := Lib.hid hO3
      have HN := Lib.hid (And.intro hN (And.intro hndx hlox))
      obtain ⟨rfl, -⟩ := hN
      
      
      clear hndx hlox hO3 hk4 
      go_wp2_with fail
      go_roundw
      case rel =>
        obtain ⟨hN, hndx, hlox⟩ := HN.out
        obtain ⟨hnd, hlo⟩ := HND.out
        have hxl : xa.length = k * 4 := by rw [HEL.out.len (fun _ _ _ h => h.len), List.length_take, Nat.min_eq_left hk]
        have hlx : (xa ++ xb).length = l.length * 4 := HO3.out.1
        rw [List.length_append, hxl] at hlx
        have hx0 : (xb.take 4).length = 4 := by
          rw [List.length_take]
          have := Nat.mul_le_mul_right 4 (show k + 1 ≤ l.length from hlt)
          rw [Nat.add_mul, Nat.one_mul] at this
          omega
        have h3 := HO3.out
        rw [← List.take_append_drop 4 xb] at h3
        have st := own_put (v := .slice (some ⟨w.heap.size, 0, none⟩) l.length l.length) (g := w.heap.size) (ds := [.int .i64 t.k, .int .i64 t.e, .int .i64 t.i, .int .i64 t.p]) h3 (by rw [hx0]; rfl) rfl
        rw [hxl] at st
        have hEA := HEL.out.agree MsgO.framed (Agree.of_below hb3 (elems_lt (fun _ _ _ h => h.lt) HEL.out))
        have hP : TurnB [w.heap.size] w3 (putAll w3 w.heap.size (k * 4) [.int .i64 t.k, .int .i64 t.e, .int .i64 t.i, .int .i64 t.p]) := (TurnB.refl _ _).putAll (List.mem_singleton.2 rfl) _ _
        have hEP := hEA.agree MsgO.framed (hP.agree (fun b hb => ⟨elems_lt (fun _ _ _ h => h.lt) hEA b hb, by have := hlo b hb; simp; omega⟩))
        have hNP := MsgO.framed _ _ _ _ _ hN (hP.agree (fun b hb => ⟨hN.lt b hb, by have := hlox b hb; simp; omega⟩))
        refine ⟨k + 1, xa ++ [.int .i64 t.k, .int .i64 t.e, .int .i64 t.i, .int .i64 t.p], xb.drop 4, ba ++ bx, by omega, by go_num, by rw [List.append_assoc]; exact st, by rw [take_at HTK.out]; exact hEP.snoc hNP, ?_, ?_, hP.below hC3.size (by simp) |> hC3.trans⟩
        · rw [List.nodup_cons] at hnd ⊢
          refine ⟨fun hm => ?_, ?_⟩
          · rcases List.mem_append.1 hm with hm | hm
            · exact hnd.1 hm
            · have := hlox _ hm; omega
          · rw [List.nodup_append]
            exact ⟨hnd.2, hndx, fun a ha b hb e => by have := elems_lt (fun _ _ _ h => h.lt) HEL.out a ha; have := hlox b hb; omega⟩
        · intro b hb
          rcases List.mem_append.1 hb with hb | hb
          · exact hlo b hb
          · have := hlox b hb; omega
      case measure => simp [intOf]; omega
    · have hkl : k = l.length := by omega
      have HF := Lib.hid (And.intro hown (And.intro hel (And.intro hnd hlo)))
      have HKL := Lib.hid hkl
      clear hkl hown hel hnd hlo
      go_wp2_with fail
      go_ret
      obtain ⟨hown, hel, hnd, hlo⟩ := HF.out
      have hkl := HKL.out
      subst hkl
      rw [List.take_length] at hel
      have hxl := hel.len (fun _ _ _ h => h.len)
      have h1 := hown.1
      rw [List.length_append, hxl] at h1
      obtain rfl : xb = [] := List.eq_nil_of_length_eq_zero (by omega)
      rw [List.append_nil] at hown
      exact ⟨w.heap.size :: ba, rfl, ⟨xa, ba, hown, hel, by simp [blk, Value.ownBlock]⟩, hnd, fun b hb => by
        rcases List.mem_cons.1 hb with rfl | hb
        · exact Nat.le_refl _
        · have := hlo b hb; omega, hB⟩

theorem CluO.forms {w : World} {c : CV} {a0 a1 a2 : Value} {bs : List Nat} (h : CluO w c a0 a1 a2 bs) : ∃ R0 R1 R2 m0 m1 m2, a0 = .slice R0 c.tasks.length m0 ∧ a1 = .slice R1 c.nodes.length m1 ∧ a2 = .slice R2 c.binds.length m2 := by
  obtain ⟨b0, b1, b2, h0, h1, h2, _⟩ := h
  obtain ⟨R0, m0, e0⟩ := rowO_form h0
  obtain ⟨R1, m1, e1⟩ := rowO_form h1
  obtain ⟨R2, m2, e2⟩ := rowO_form h2
  exact ⟨R0, R1, R2, m0, m1, m2, e0, e1, e2⟩
structure WldO (w : World) (t : WV) (s : WS) (b1 b2 b3 b6 : List Nat) : Prop where
  ep : IntO w s.ep t.epochs
  po : RowO PoolO 80 12 w s.po t.pools b1
  clu : CluO w t.clu s.ta s.no s.bi b2
  wa : RowO WantO 112 2 w s.wa t.wants b3
  en : IntO w s.en t.ends
  ins : OwnsN w 0 s.ins t.insts
  ms : RowO MsgO 107 4 w s.ms t.msgs b6
  small : t.small
def wldB (s : WS) (b1 b2 b3 b6 : List Nat) : List Nat := blk s.ep ++ (b1 ++ (b2 ++ (b3 ++ (blk s.en ++ (blk s.ins ++ b6)))))
theorem WldO.agree {w w' : World} {t : WV} {s : WS} {b1 b2 b3 b6 : List Nat} (h : WldO w t s b1 b2 b3 b6) (ha : Agree (wldB s b1 b2 b3 b6) w w') : WldO w' t s b1 b2 b3 b6 := by
  have a1 := ha.right
  have a2 := a1.right
  have a3 := a2.right
  have a4 := a3.right
  have a5 := a4.right
  exact ⟨own_agree h.ep ha.left, h.po.agree PoolO.framed a1.left, h.clu.agree a2.left, h.wa.agree WantO.framed a3.left, own_agree h.en a4.left, own_agree h.ins a5.left, h.ms.agree MsgO.framed a5.right, h.small⟩
theorem WldO.wld {w : World} {t : WV} {s : WS} {b1 b2 b3 b6 : List Nat} (h : WldO w t s b1 b2 b3 b6) : WldR w t s :=
  ⟨IntO.sl h.ep, h.po.sl (fun _ _ _ h => h.len) (fun _ _ _ h => h.r), h.clu.clu, h.wa.sl (fun _ _ _ h => h.len) (fun _ _ _ h => h.r), IntO.sl h.en, OwnsN.sl h.ins, h.ms.sl (fun _ _ _ h => h.len) (fun _ _ _ h => h.r), h.small⟩
theorem WldO.lt {w : World} {t : WV} {s : WS} {b1 b2 b3 b6 : List Nat} (h : WldO w t s b1 b2 b3 b6) : ∀ b ∈ wldB s b1 b2 b3 b6, b < w.heap.size := by
  intro b hb
  simp only [wldB, List.mem_append] at hb
  rcases hb with hb | hb | hb | hb | hb | hb | hb
  · exact own_lt h.ep b hb
  · exact rowO_lt (fun _ _ _ h => h.lt) h.po b hb
  · exact h.clu.lt b hb
  · exact rowO_lt (fun _ _ _ h => h.lt) h.wa b hb
  · exact own_lt h.en b hb
  · exact own_lt h.ins b hb
  · exact rowO_lt (fun _ _ _ h => h.lt) h.ms b hb
def RetWld (w : World) (t : WV) (e : Ending) (w' : World) : Prop := ∃ s b1 b2 b3 b6, e = .returned (.agg #[.int .i64 t.now, .int .i64 t.span, .int .i64 t.kind, .int .i64 t.limit, .int .i64 t.next, .int .i64 t.lease.c, .int .i64 t.lease.m, .int .i64 t.lease.p, s.ep, s.po, s.ta, s.no, s.bi, s.wa, s.en, .int .i64 t.seen, s.ins, s.ms]) ∧ WldO w' t s b1 b2 b3 b6 ∧ (wldB s b1 b2 b3 b6).Nodup ∧ (∀ b ∈ wldB s b1 b2 b3 b6, w.heap.size ≤ b) ∧ Below w.heap.size w w'
end Go.Proofs.YtcegofdmdemcbaaGreatDoor

namespace Go.Proofs.YtcegofdmdemcbaaGreatDoor
open Go.RowKit

def RetPv (w : World) (ep : Int) (l : List RV) (e : Ending) (w' : World) : Prop :=
  ∃ g, e = .returned (.agg #[.int .i64 ep, .slice (some ⟨g, 0, none⟩) l.length l.length]) ∧ w.heap.size ≤ g ∧ g < w'.heap.size ∧ InSl w' (.slice (some ⟨g, 0, none⟩) l.length l.length) l ∧ OwnsN w' w.heap.size (.slice (some ⟨g, 0, none⟩) l.length l.length) l ∧ Below w.heap.size w w'
theorem RetPv.of {w w' : World} {ep : Int} {l : List RV} {g : Nat} {cs : Array Value} (hb : BlockIs w' g 114 cs) (hs : cs.size = l.length * 3)
    (hc : ∀ i r, i < l.length → l[i]? = some r → cs[i * 3]? = some (.int .i64 r.c) ∧ cs[i * 3 + 1]? = some (.int .i64 r.m) ∧ cs[i * 3 + 2]? = some (.int .i64 r.p)) (hg : w.heap.size ≤ g) (hl : l.length ≤ 1048576) (hB : Below w.heap.size w w') :
    RetPv w ep l (.returned (.agg #[.int .i64 ep, .slice (some ⟨g, 0, none⟩) l.length l.length])) w' := by
  have hcp : CopyIn w g l l.length w' := ⟨cs, hb, hs, hc, hB⟩
  exact ⟨g, rfl, hg, hb.lt, .inr ⟨g, 0, _, rfl, hb.lt, hcp.done⟩, hcp.own (by omega) hg, hB⟩
set_option maxHeartbeats 1600000 in
theorem toProv_any (ep : Int) (v : Value) (l : List RV) (w : World) (hv : InSl w v l) (hlen : l.length ≤ 1048576) : Calls Tryz.prog 66 #[.agg #[.int .i64 ep, v]] w (RetPv w ep l) := by
  have HV := Lib.hid hv
  clear hv
  go_enter Tryz.func66, Tryz.ntmps66
  go_wp2_with fail
  have hX : Below w.heap.size w (((w.alloc (.cells #[.int .i64 ep, v] 57)).alloc (.cells #[.int .i64 0, .slice none 0 0] 36)).alloc (.cells #[.int .i64 ep, .slice none 0 0] 36)) := (by repeat' (first | exact Below.refl _ _ | refine Below.alloc ?_ ?_ _ | refine Below.setCell ?_ ?_ _ | refine Below.drew ?_ | (apply below_step; assumption) | (simp; done) | (simp; omega) | omega))
  refine (toInstS_any v l _ (HV.out.below hX) hlen).mono ?_
  rintro e w1 ⟨g, rfl, hg, hgl, hat, hb1, hcp⟩
  simp at hg
  have hz1 := hb1.size
  simp at hz1
  obtain ⟨hc1, hf1⟩ := bcell hb1
  have q0 : w.heap.size + 1 < w1.heap.size := by omega
  have q1 : w.heap.size + 1 + 1 < w1.heap.size := by omega
  obtain ⟨cs, hblk, hs, hc, _⟩ := hcp
  have HBK := Lib.hid hblk
  have HSZ := Lib.hid hs
  have HCC := Lib.hid hc
  clear hat hblk hs hc
  go_wp2_with fail
  refine bodyPost_ret (v := .agg #[.int .i64 ep, .slice (some ⟨g, 0, none⟩) l.length l.length]) (by simp [results, Tryz.results66, go_sem, hc1]) rfl ?_
  exact RetPv.of (by repeat' (first | exact HBK.out | refine BlockIs.far ?_ ?_ _ | (simp; omega))) HSZ.out HCC.out (by omega) hlen (by repeat' (first | exact Below.refl _ _ | refine Below.alloc ?_ ?_ _ | refine Below.setCell ?_ ?_ _ | refine Below.drew ?_ | (apply below_step; assumption) | (simp; done) | (simp; omega) | omega))
theorem eqProv_same (ep : Int) (v1 v2 : Value) (l : List RV) (w : World) (h1 : InSl w v1 l) (h2 : InSl w v2 l) (hlen : l.length ≤ 1048576) :
    Calls Tryz.prog 32 #[.agg #[.int .i64 ep, v1], .agg #[.int .i64 ep, v2]] w fun e w' => e = .returned (.bool true) ∧ Below w.heap.size w w' := by
  have H1 := Lib.hid h1
  have H2 := Lib.hid h2
  have hne : (ep != ep) = false := by simp
  clear h1 h2
  go_enter Tryz.func32, Tryz.ntmps32
  go_wp2_with fail
  have hX : Below w.heap.size w ((w.alloc (.cells #[.int .i64 ep, v1] 36)).alloc (.cells #[.int .i64 ep, v2] 36)) := (by repeat' (first | exact Below.refl _ _ | refine Below.alloc ?_ ?_ _ | refine Below.setCell ?_ ?_ _ | refine Below.drew ?_ | (apply below_step; assumption) | (simp; done) | (simp; omega) | omega))
  refine (eqInstS_same v1 v2 l _ (H1.out.below hX) (H2.out.below hX) hlen).mono ?_
  rintro e w1 ⟨rfl, hb1⟩
  go_wp2_with fail
  go_ret
  exact ⟨rfl, below_of hX hb1⟩
end Go.Proofs.YtcegofdmdemcbaaGreatDoor

namespace Go.Proofs.YtcegofdmdemcbaaGreatDoor
open Go.RowKit

theorem nodup_wldB {x0 x1 x2 x3 x4 x5 x6 : List Nat} {n1 n2 n3 n4 n5 n6 n7 n8 : Nat} (l0 : ∀ b ∈ x0, n1 ≤ b ∧ b < n2) (l1 : ∀ b ∈ x1, n2 ≤ b ∧ b < n3) (l2 : ∀ b ∈ x2, n3 ≤ b ∧ b < n4) (l3 : ∀ b ∈ x3, n4 ≤ b ∧ b < n5) (l4 : ∀ b ∈ x4, n5 ≤ b ∧ b < n6) (l5 : ∀ b ∈ x5, n6 ≤ b ∧ b < n7) (l6 : ∀ b ∈ x6, n7 ≤ b ∧ b < n8)
    (d0 : x0.Nodup) (d1 : x1.Nodup) (d2 : x2.Nodup) (d3 : x3.Nodup) (d4 : x4.Nodup) (d5 : x5.Nodup) (d6 : x6.Nodup) (h2 : n2 ≤ n3 := by omega) (h3 : n3 ≤ n4 := by omega) (h4 : n4 ≤ n5 := by omega) (h5 : n5 ≤ n6 := by omega) (h6 : n6 ≤ n7 := by omega) : (x0 ++ (x1 ++ (x2 ++ (x3 ++ (x4 ++ (x5 ++ x6)))))).Nodup := by
  have j : ∀ (a b : List Nat) (m : Nat), a.Nodup → b.Nodup → (∀ x ∈ a, x < m) → (∀ x ∈ b, m ≤ x) → (a ++ b).Nodup := fun a b m ha hb h1 h2 => List.nodup_append.2 ⟨ha, hb, fun x hx y hy e => by have := h1 x hx; have := h2 y hy; omega⟩
  have k : ∀ (a b : List Nat) (m : Nat), (∀ x ∈ a, m ≤ x) → (∀ x ∈ b, m ≤ x) → ∀ x ∈ a ++ b, m ≤ x := fun a b m h1 h2 x hx => (List.mem_append.1 hx).elim (h1 x) (h2 x)
  have up : ∀ (a : List Nat) (m m' : Nat), m' ≤ m → (∀ x ∈ a, m ≤ x) → ∀ x ∈ a, m' ≤ x := fun a m m' h h1 x hx => Nat.le_trans h (h1 x hx)
  have q5 := k _ _ _ (fun x hx => (l5 x hx).1) (up _ _ n6 h6 (fun x hx => (l6 x hx).1))
  have q4 := k _ _ _ (fun x hx => (l4 x hx).1) (up _ _ n5 h5 q5)
  have q3 := k _ _ _ (fun x hx => (l3 x hx).1) (up _ _ n4 h4 q4)
  have q2 := k _ _ _ (fun x hx => (l2 x hx).1) (up _ _ n3 h3 q3)
  have q1 := k _ _ _ (fun x hx => (l1 x hx).1) (up _ _ n2 h2 q2)
  exact j _ _ n2 d0 (j _ _ n3 d1 (j _ _ n4 d2 (j _ _ n5 d3 (j _ _ n6 d4 (j _ _ n7 d5 d6 (fun x hx => (l5 x hx).2) (fun x hx => (l6 x hx).1)) (fun x hx => (l4 x hx).2) q5) (fun x hx => (l3 x hx).2) q4) (fun x hx => (l2 x hx).2) q3) (fun x hx => (l1 x hx).2) q2) (fun x hx => (l0 x hx).2) q1
theorem toProv_own (ep : Int) (v : Value) (l : List RV) (w : World) (hv : InSl w v l) (hlen : l.length ≤ 1048576) :
    Calls Tryz.prog 66 #[.agg #[.int .i64 ep, v]] w fun e w' => ∃ g, e = .returned (.agg #[.int .i64 ep, .slice (some ⟨g, 0, none⟩) l.length l.length]) ∧ w.heap.size ≤ g ∧ g < w'.heap.size ∧ OwnsN w' 0 (.slice (some ⟨g, 0, none⟩) l.length l.length) l ∧ Below w.heap.size w w' :=
  (toProv_any ep v l w hv hlen).mono fun _ _ ⟨g, e, h1, h2, _, ho, hb⟩ => ⟨g, e, h1, h2, ⟨ho.1, by
    rcases ho.2 with h | ⟨g', cap, cur, e', hg, hh⟩
    · exact .inl h
    · exact .inr ⟨g', cap, cur, e', Nat.zero_le _, hh⟩⟩, hb⟩

set_option maxHeartbeats 12800000 in
set_option maxRecDepth 20000 in
theorem toWorld_o (t : WV) (s : WS) (w : World) (hw : WldR w t s) :
    Calls Tryz.prog 18 #[.agg #[.int .i64 t.now, .int .i64 t.span, .int .i64 t.kind, .int .i64 t.limit, .int .i64 t.next, .int .i64 t.lease.c, .int .i64 t.lease.m, .int .i64 t.lease.p, s.ep, s.po, s.ta, s.no, s.bi, s.wa, s.en, .int .i64 t.seen, s.ins, s.ms]] w (RetWld w t) := by
  have HW := Lib.hid hw
  have SM := Lib.hid hw.small
  obtain ⟨A0, A1, A2, A3, A4, A5, A6, A7, A8, c0, c1, c2, c3, c4, c5, c6, c7, c8, rfl⟩ := hw.form
  clear hw
  go_enter Tryz.func18, Tryz.ntmps18
  go_wp2_with fail
  have hX : Below w.heap.size w (((w.alloc (.cells #[.int .i64 t.now, .int .i64 t.span, .int .i64 t.kind, .int .i64 t.limit, .int .i64 t.next, .int .i64 t.lease.c, .int .i64 t.lease.m, .int .i64 t.lease.p, .slice A0 t.epochs.length c0, .slice A1 t.pools.length c1, .slice A2 t.clu.tasks.length c2, .slice A3 t.clu.nodes.length c3, .slice A4 t.clu.binds.length c4, .slice A5 t.wants.length c5, .slice A6 t.ends.length c6, .int .i64 t.seen, .slice A7 t.insts.length c7, .slice A8 t.msgs.length c8] 60)).alloc (.cells #[.int .i64 0, .int .i64 0, .int .i64 0, .int .i64 0, .int .i64 0, .int .i64 0, .int .i64 0, .int .i64 0, .slice none 0 0, .slice none 0 0, .slice none 0 0, .slice none 0 0, .slice none 0 0, .slice none 0 0, .slice none 0 0, .int .i64 0, .slice none 0 0, .slice none 0 0] 39)).alloc (.cells #[.int .i64 t.now, .int .i64 t.span, .int .i64 t.kind, .int .i64 t.limit, .int .i64 t.next, .int .i64 0, .int .i64 0, .int .i64 0, .slice none 0 0, .slice none 0 0, .slice none 0 0, .slice none 0 0, .slice none 0 0, .slice none 0 0, .slice none 0 0, .int .i64 0, .slice none 0 0, .slice none 0 0] 39)) := (by repeat' (first | exact Below.refl _ _ | refine Below.alloc ?_ ?_ _ | refine Below.setCell ?_ ?_ _ | refine Below.drew ?_ | (apply below_step; assumption) | (simp; done) | (simp; omega) | omega))
  refine (toLease_any t.lease _).mono ?_
  rintro e w1 ⟨rfl, hb1⟩
  obtain ⟨B0, B1, B2⟩ := boxes3 _ _ _ _ _ _ _ hb1
  have hC1 := below_of hX hb1
  have hz1 := hb1.size
  have hs1 : ((((w.alloc (.cells #[.int .i64 t.now, .int .i64 t.span, .int .i64 t.kind, .int .i64 t.limit, .int .i64 t.next, .int .i64 t.lease.c, .int .i64 t.lease.m, .int .i64 t.lease.p, .slice A0 t.epochs.length c0, .slice A1 t.pools.length c1, .slice A2 t.clu.tasks.length c2, .slice A3 t.clu.nodes.length c3, .slice A4 t.clu.binds.length c4, .slice A5 t.wants.length c5, .slice A6 t.ends.length c6, .int .i64 t.seen, .slice A7 t.insts.length c7, .slice A8 t.msgs.length c8] 60)).alloc (.cells #[.int .i64 0, .int .i64 0, .int .i64 0, .int .i64 0, .int .i64 0, .int .i64 0, .int .i64 0, .int .i64 0, .slice none 0 0, .slice none 0 0, .slice none 0 0, .slice none 0 0, .slice none 0 0, .slice none 0 0, .slice none 0 0, .int .i64 0, .slice none 0 0, .slice none 0 0] 39)).alloc (.cells #[.int .i64 t.now, .int .i64 t.span, .int .i64 t.kind, .int .i64 t.limit, .int .i64 t.next, .int .i64 0, .int .i64 0, .int .i64 0, .slice none 0 0, .slice none 0 0, .slice none 0 0, .slice none 0 0, .slice none 0 0, .slice none 0 0, .slice none 0 0, .int .i64 0, .slice none 0 0, .slice none 0 0] 39))).heap.size = w.heap.size + 3 := by simp
  rw [hs1] at hz1
  have x8 := B0.cell 8
  have d5 := B2.cell 5
  have d6 := B2.cell 6
  have d7 := B2.cell 7
  have ff := B2.frozen
  simp at x8 d5 d6 d7
  have HB0 := Lib.hid B0
  have HB1 := Lib.hid B1
  have HB2 := Lib.hid B2
  have lt2 := B2.lt
  clear B0 B1 B2 hX hb1 hs1
  go_wp2_with fail
  have hT : TurnB [w.heap.size + 1 + 1] w1 (((w1.setCell ⟨w.heap.size + 1 + 1, 5, none⟩ (.int .i64 t.lease.c)).setCell ⟨w.heap.size + 1 + 1, 5 + 1, none⟩ (.int .i64 t.lease.m)).setCell ⟨w.heap.size + 1 + 1, 5 + 2, none⟩ (.int .i64 t.lease.p)) := TurnB.put (TurnB.put (TurnB.put (TurnB.refl _ _) (by simp) _ _) (by simp) _ _) (by simp) _ _
  have hO : BlockIs (((w1.setCell ⟨w.heap.size + 1 + 1, 5, none⟩ (.int .i64 t.lease.c)).setCell ⟨w.heap.size + 1 + 1, 5 + 1, none⟩ (.int .i64 t.lease.m)).setCell ⟨w.heap.size + 1 + 1, 5 + 2, none⟩ (.int .i64 t.lease.p)) (w.heap.size + 1 + 1) 39 #[.int .i64 t.now, .int .i64 t.span, .int .i64 t.kind, .int .i64 t.limit, .int .i64 t.next, .int .i64 t.lease.c, .int .i64 t.lease.m, .int .i64 t.lease.p, .slice none 0 0, .slice none 0 0, .slice none 0 0, .slice none 0 0, .slice none 0 0, .slice none 0 0, .slice none 0 0, .int .i64 0, .slice none 0 0, .slice none 0 0] := by simpa using (((HB2.out.put 5 (.int .i64 t.lease.c)).put 6 (.int .i64 t.lease.m)).put 7 (.int .i64 t.lease.p))
  have hZ : ((((w1.setCell ⟨w.heap.size + 1 + 1, 5, none⟩ (.int .i64 t.lease.c)).setCell ⟨w.heap.size + 1 + 1, 5 + 1, none⟩ (.int .i64 t.lease.m)).setCell ⟨w.heap.size + 1 + 1, 5 + 2, none⟩ (.int .i64 t.lease.p))).heap.size = w1.heap.size := by simp [World.setCell]
  generalize (((w1.setCell ⟨w.heap.size + 1 + 1, 5, none⟩ (.int .i64 t.lease.c)).setCell ⟨w.heap.size + 1 + 1, 5 + 1, none⟩ (.int .i64 t.lease.m)).setCell ⟨w.heap.size + 1 + 1, 5 + 2, none⟩ (.int .i64 t.lease.p)) = w1y at hT hO hZ ⊢
  have hC1y := hC1.trans (hT.below (B := w.heap.size) (by omega) (by simp; omega))
  have HA := Lib.hid (HB0.out.turn hT (by simp; omega))
  have HR := Lib.hid (HB1.out.turn hT (by simp))
  have HO := Lib.hid hO
  refine (toIntS_o _ t.epochs _ (HW.out.below hC1y).ep SM.out.1).mono ?_
  rintro e w2 ⟨ge, rfl, le0, le1, heo, hb2⟩
  have hC2 := below_of hC1y hb2
  have hz2 := hb2.size
  rw [hZ] at hz2 le0
  clear hZ
  have B0 := HA.out.below hb2 HA.out.lt
  have B1 := HR.out.below hb2 HR.out.lt
  have B2 := HO.out.below hb2 HO.out.lt
  have Fep := Lib.hid heo
  clear heo
  clear hT hO HA HR HO HB0 HB1 HB2 lt2 hb2 hC1 ff x8 d5 d6 d7
  have x9 := B0.cell 9
  have d8 := B2.cell 8
  have ff := B2.frozen
  simp at x9 d8
  have HB0 := Lib.hid B0
  have HB1 := Lib.hid B1
  have HB2 := Lib.hid B2
  have lt2 := B2.lt
  clear B0 B1 B2
  go_wp2_with fail
  have hT : TurnB [w.heap.size + 1 + 1] w2 (w2.setCell ⟨w.heap.size + 1 + 1, 8, none⟩ (.slice (some ⟨ge, 0, none⟩) t.epochs.length t.epochs.length)) := TurnB.put (TurnB.refl _ _) (by simp) _ _
  have hO : BlockIs (w2.setCell ⟨w.heap.size + 1 + 1, 8, none⟩ (.slice (some ⟨ge, 0, none⟩) t.epochs.length t.epochs.length)) (w.heap.size + 1 + 1) 39 #[.int .i64 t.now, .int .i64 t.span, .int .i64 t.kind, .int .i64 t.limit, .int .i64 t.next, .int .i64 t.lease.c, .int .i64 t.lease.m, .int .i64 t.lease.p, .slice (some ⟨ge, 0, none⟩) t.epochs.length t.epochs.length, .slice none 0 0, .slice none 0 0, .slice none 0 0, .slice none 0 0, .slice none 0 0, .slice none 0 0, .int .i64 0, .slice none 0 0, .slice none 0 0] := by simpa using (HB2.out.put 8 (.slice (some ⟨ge, 0, none⟩) t.epochs.length t.epochs.length))
  have hZ : ((w2.setCell ⟨w.heap.size + 1 + 1, 8, none⟩ (.slice (some ⟨ge, 0, none⟩) t.epochs.length t.epochs.length))).heap.size = w2.heap.size := by simp [World.setCell]
  generalize (w2.setCell ⟨w.heap.size + 1 + 1, 8, none⟩ (.slice (some ⟨ge, 0, none⟩) t.epochs.length t.epochs.length)) = w2y at hT hO hZ ⊢
  have hC2y := hC2.trans (hT.below (B := w.heap.size) (by omega) (by simp; omega))
  have HA := Lib.hid (HB0.out.turn hT (by simp; omega))
  have HR := Lib.hid (HB1.out.turn hT (by simp))
  have HO := Lib.hid hO
  have Tep := Lib.hid hT
  refine (toPoolS_o _ t.pools _ (HW.out.below hC2y).po SM.out.2.1).mono ?_
  rintro e w3 ⟨b1, rfl, hro, hnd, hlo, hb3⟩
  have hC3 := below_of hC2y hb3
  have hz3 := hb3.size
  rw [hZ] at hz3 hro ⊢
  simp only [hZ] at hlo
  clear hZ
  have B0 := HA.out.below hb3 HA.out.lt
  have B1 := HR.out.below hb3 HR.out.lt
  have B2 := HO.out.below hb3 HO.out.lt
  have Tep := Lib.hid (Tep.out.step hb3)
  have Fpo := Lib.hid (And.intro hro (And.intro hnd hlo))
  clear hro hnd hlo
  clear hT hO HA HR HO HB0 HB1 HB2 lt2 hb3 hC2 ff x9 d8
  have x10 := B0.cell 10
  have x11 := B0.cell 11
  have x12 := B0.cell 12
  have d9 := B2.cell 9
  have ff := B2.frozen
  simp at x10 x11 x12 d9
  have HB0 := Lib.hid B0
  have HB1 := Lib.hid B1
  have HB2 := Lib.hid B2
  have lt2 := B2.lt
  clear B0 B1 B2
  go_wp2_with fail
  have hT : TurnB [w.heap.size + 1 + 1] w3 (w3.setCell ⟨w.heap.size + 1 + 1, 9, none⟩ (.slice (some ⟨w2.heap.size, 0, none⟩) t.pools.length t.pools.length)) := TurnB.put (TurnB.refl _ _) (by simp) _ _
  have hO : BlockIs (w3.setCell ⟨w.heap.size + 1 + 1, 9, none⟩ (.slice (some ⟨w2.heap.size, 0, none⟩) t.pools.length t.pools.length)) (w.heap.size + 1 + 1) 39 #[.int .i64 t.now, .int .i64 t.span, .int .i64 t.kind, .int .i64 t.limit, .int .i64 t.next, .int .i64 t.lease.c, .int .i64 t.lease.m, .int .i64 t.lease.p, .slice (some ⟨ge, 0, none⟩) t.epochs.length t.epochs.length, .slice (some ⟨w2.heap.size, 0, none⟩) t.pools.length t.pools.length, .slice none 0 0, .slice none 0 0, .slice none 0 0, .slice none 0 0, .slice none 0 0, .int .i64 0, .slice none 0 0, .slice none 0 0] := by simpa using (HB2.out.put 9 (.slice (some ⟨w2.heap.size, 0, none⟩) t.pools.length t.pools.length))
  have hZ : ((w3.setCell ⟨w.heap.size + 1 + 1, 9, none⟩ (.slice (some ⟨w2.heap.size, 0, none⟩) t.pools.length t.pools.length))).heap.size = w3.heap.size := by simp [World.setCell]
  generalize (w3.setCell ⟨w.heap.size + 1 + 1, 9, none⟩ (.slice (some ⟨w2.heap.size, 0, none⟩) t.pools.length t.pools.length)) = w3y at hT hO hZ ⊢
  have hC3y := hC3.trans (hT.below (B := w.heap.size) (by omega) (by simp; omega))
  have HA := Lib.hid (HB0.out.turn hT (by simp; omega))
  have HR := Lib.hid (HB1.out.turn hT (by simp))
  have HO := Lib.hid hO
  have Tep := Lib.hid (Tep.out.trans hT)
  have Tpo := Lib.hid hT
  refine (toCluster_o t.clu _ _ _ _ (HW.out.below hC3y).clu).mono ?_
  rintro e w4 ⟨r0, r1, r2, b2, rfl, hro, hlo, hb4⟩
  obtain ⟨R0, R1, R2, m0, m1, m2, rfl, rfl, rfl⟩ := hro.forms
  have hC4 := below_of hC3y hb4
  have hz4 := hb4.size
  rw [hZ] at hz4 
  simp only [hZ] at hlo
  clear hZ
  have B0 := HA.out.below hb4 HA.out.lt
  have B1 := HR.out.below hb4 HR.out.lt
  have B2 := HO.out.below hb4 HO.out.lt
  have Tep := Lib.hid (Tep.out.step hb4)
  have Tpo := Lib.hid (Tpo.out.step hb4)
  have Fclu := Lib.hid (And.intro hro hlo)
  clear hro hlo
  clear hT hO HA HR HO HB0 HB1 HB2 lt2 hb4 hC3 ff x10 x11 x12 d9
  have x13 := B0.cell 13
  have d10 := B2.cell 10
  have d11 := B2.cell 11
  have d12 := B2.cell 12
  have ff := B2.frozen
  simp at x13 d10 d11 d12
  have HB0 := Lib.hid B0
  have HB1 := Lib.hid B1
  have HB2 := Lib.hid B2
  have lt2 := B2.lt
  clear B0 B1 B2
  go_wp2_with fail
  have hT : TurnB [w.heap.size + 1 + 1] w4 (((w4.setCell ⟨w.heap.size + 1 + 1, 10, none⟩ (.slice R0 t.clu.tasks.length m0)).setCell ⟨w.heap.size + 1 + 1, 10 + 1, none⟩ (.slice R1 t.clu.nodes.length m1)).setCell ⟨w.heap.size + 1 + 1, 10 + 2, none⟩ (.slice R2 t.clu.binds.length m2)) := TurnB.put (TurnB.put (TurnB.put (TurnB.refl _ _) (by simp) _ _) (by simp) _ _) (by simp) _ _
  have hO : BlockIs (((w4.setCell ⟨w.heap.size + 1 + 1, 10, none⟩ (.slice R0 t.clu.tasks.length m0)).setCell ⟨w.heap.size + 1 + 1, 10 + 1, none⟩ (.slice R1 t.clu.nodes.length m1)).setCell ⟨w.heap.size + 1 + 1, 10 + 2, none⟩ (.slice R2 t.clu.binds.length m2)) (w.heap.size + 1 + 1) 39 #[.int .i64 t.now, .int .i64 t.span, .int .i64 t.kind, .int .i64 t.limit, .int .i64 t.next, .int .i64 t.lease.c, .int .i64 t.lease.m, .int .i64 t.lease.p, .slice (some ⟨ge, 0, none⟩) t.epochs.length t.epochs.length, .slice (some ⟨w2.heap.size, 0, none⟩) t.pools.length t.pools.length, .slice R0 t.clu.tasks.length m0, .slice R1 t.clu.nodes.length m1, .slice R2 t.clu.binds.length m2, .slice none 0 0, .slice none 0 0, .int .i64 0, .slice none 0 0, .slice none 0 0] := by simpa using (((HB2.out.put 10 (.slice R0 t.clu.tasks.length m0)).put 11 (.slice R1 t.clu.nodes.length m1)).put 12 (.slice R2 t.clu.binds.length m2))
  have hZ : ((((w4.setCell ⟨w.heap.size + 1 + 1, 10, none⟩ (.slice R0 t.clu.tasks.length m0)).setCell ⟨w.heap.size + 1 + 1, 10 + 1, none⟩ (.slice R1 t.clu.nodes.length m1)).setCell ⟨w.heap.size + 1 + 1, 10 + 2, none⟩ (.slice R2 t.clu.binds.length m2))).heap.size = w4.heap.size := by simp [World.setCell]
  generalize (((w4.setCell ⟨w.heap.size + 1 + 1, 10, none⟩ (.slice R0 t.clu.tasks.length m0)).setCell ⟨w.heap.size + 1 + 1, 10 + 1, none⟩ (.slice R1 t.clu.nodes.length m1)).setCell ⟨w.heap.size + 1 + 1, 10 + 2, none⟩ (.slice R2 t.clu.binds.length m2)) = w4y at hT hO hZ ⊢
  have hC4y := hC4.trans (hT.below (B := w.heap.size) (by omega) (by simp; omega))
  have HA := Lib.hid (HB0.out.turn hT (by simp; omega))
  have HR := Lib.hid (HB1.out.turn hT (by simp))
  have HO := Lib.hid hO
  have Tep := Lib.hid (Tep.out.trans hT)
  have Tpo := Lib.hid (Tpo.out.trans hT)
  have Tclu := Lib.hid hT
  refine (toWantS_o _ t.wants _ (HW.out.below hC4y).wa SM.out.2.2.1).mono ?_
  rintro e w5 ⟨b3, rfl, hro, hnd, hlo, hb5⟩
  have hC5 := below_of hC4y hb5
  have hz5 := hb5.size
  rw [hZ] at hz5 hro ⊢
  simp only [hZ] at hlo
  clear hZ
  have B0 := HA.out.below hb5 HA.out.lt
  have B1 := HR.out.below hb5 HR.out.lt
  have B2 := HO.out.below hb5 HO.out.lt
  have Tep := Lib.hid (Tep.out.step hb5)
  have Tpo := Lib.hid (Tpo.out.step hb5)
  have Tclu := Lib.hid (Tclu.out.step hb5)
  have Fwa := Lib.hid (And.intro hro (And.intro hnd hlo))
  clear hro hnd hlo
  clear hT hO HA HR HO HB0 HB1 HB2 lt2 hb5 hC4 ff x13 d10 d11 d12
  have x14 := B0.cell 14
  have d13 := B2.cell 13
  have ff := B2.frozen
  simp at x14 d13
  have HB0 := Lib.hid B0
  have HB1 := Lib.hid B1
  have HB2 := Lib.hid B2
  have lt2 := B2.lt
  clear B0 B1 B2
  go_wp2_with fail
  have hT : TurnB [w.heap.size + 1 + 1] w5 (w5.setCell ⟨w.heap.size + 1 + 1, 13, none⟩ (.slice (some ⟨w4.heap.size, 0, none⟩) t.wants.length t.wants.length)) := TurnB.put (TurnB.refl _ _) (by simp) _ _
  have hO : BlockIs (w5.setCell ⟨w.heap.size + 1 + 1, 13, none⟩ (.slice (some ⟨w4.heap.size, 0, none⟩) t.wants.length t.wants.length)) (w.heap.size + 1 + 1) 39 #[.int .i64 t.now, .int .i64 t.span, .int .i64 t.kind, .int .i64 t.limit, .int .i64 t.next, .int .i64 t.lease.c, .int .i64 t.lease.m, .int .i64 t.lease.p, .slice (some ⟨ge, 0, none⟩) t.epochs.length t.epochs.length, .slice (some ⟨w2.heap.size, 0, none⟩) t.pools.length t.pools.length, .slice R0 t.clu.tasks.length m0, .slice R1 t.clu.nodes.length m1, .slice R2 t.clu.binds.length m2, .slice (some ⟨w4.heap.size, 0, none⟩) t.wants.length t.wants.length, .slice none 0 0, .int .i64 0, .slice none 0 0, .slice none 0 0] := by simpa using (HB2.out.put 13 (.slice (some ⟨w4.heap.size, 0, none⟩) t.wants.length t.wants.length))
  have hZ : ((w5.setCell ⟨w.heap.size + 1 + 1, 13, none⟩ (.slice (some ⟨w4.heap.size, 0, none⟩) t.wants.length t.wants.length))).heap.size = w5.heap.size := by simp [World.setCell]
  generalize (w5.setCell ⟨w.heap.size + 1 + 1, 13, none⟩ (.slice (some ⟨w4.heap.size, 0, none⟩) t.wants.length t.wants.length)) = w5y at hT hO hZ ⊢
  have hC5y := hC5.trans (hT.below (B := w.heap.size) (by omega) (by simp; omega))
  have HA := Lib.hid (HB0.out.turn hT (by simp; omega))
  have HR := Lib.hid (HB1.out.turn hT (by simp))
  have HO := Lib.hid hO
  have Tep := Lib.hid (Tep.out.trans hT)
  have Tpo := Lib.hid (Tpo.out.trans hT)
  have Tclu := Lib.hid (Tclu.out.trans hT)
  have Twa := Lib.hid hT
  refine (toIntS_o _ t.ends _ (HW.out.below hC5y).en SM.out.2.2.2.1).mono ?_
  rintro e w6 ⟨gn, rfl, ln0, ln1, heo, hb6⟩
  have hC6 := below_of hC5y hb6
  have hz6 := hb6.size
  rw [hZ] at hz6 ln0
  clear hZ
  have B0 := HA.out.below hb6 HA.out.lt
  have B1 := HR.out.below hb6 HR.out.lt
  have B2 := HO.out.below hb6 HO.out.lt
  have Tep := Lib.hid (Tep.out.step hb6)
  have Tpo := Lib.hid (Tpo.out.step hb6)
  have Tclu := Lib.hid (Tclu.out.step hb6)
  have Twa := Lib.hid (Twa.out.step hb6)
  have Fen := Lib.hid heo
  clear heo
  clear hT hO HA HR HO HB0 HB1 HB2 lt2 hb6 hC5 ff x14 d13
  have x15 := B0.cell 15
  have x16 := B0.cell 16
  have d14 := B2.cell 14
  have ff := B2.frozen
  simp at x15 x16 d14
  have HB0 := Lib.hid B0
  have HB1 := Lib.hid B1
  have HB2 := Lib.hid B2
  have lt2 := B2.lt
  clear B0 B1 B2
  go_wp2_with fail
  have hT : TurnB [w.heap.size + 1 + 1] w6 (w6.setCell ⟨w.heap.size + 1 + 1, 14, none⟩ (.slice (some ⟨gn, 0, none⟩) t.ends.length t.ends.length)) := TurnB.put (TurnB.refl _ _) (by simp) _ _
  have hO : BlockIs (w6.setCell ⟨w.heap.size + 1 + 1, 14, none⟩ (.slice (some ⟨gn, 0, none⟩) t.ends.length t.ends.length)) (w.heap.size + 1 + 1) 39 #[.int .i64 t.now, .int .i64 t.span, .int .i64 t.kind, .int .i64 t.limit, .int .i64 t.next, .int .i64 t.lease.c, .int .i64 t.lease.m, .int .i64 t.lease.p, .slice (some ⟨ge, 0, none⟩) t.epochs.length t.epochs.length, .slice (some ⟨w2.heap.size, 0, none⟩) t.pools.length t.pools.length, .slice R0 t.clu.tasks.length m0, .slice R1 t.clu.nodes.length m1, .slice R2 t.clu.binds.length m2, .slice (some ⟨w4.heap.size, 0, none⟩) t.wants.length t.wants.length, .slice (some ⟨gn, 0, none⟩) t.ends.length t.ends.length, .int .i64 0, .slice none 0 0, .slice none 0 0] := by simpa using (HB2.out.put 14 (.slice (some ⟨gn, 0, none⟩) t.ends.length t.ends.length))
  have hZ : ((w6.setCell ⟨w.heap.size + 1 + 1, 14, none⟩ (.slice (some ⟨gn, 0, none⟩) t.ends.length t.ends.length))).heap.size = w6.heap.size := by simp [World.setCell]
  generalize (w6.setCell ⟨w.heap.size + 1 + 1, 14, none⟩ (.slice (some ⟨gn, 0, none⟩) t.ends.length t.ends.length)) = w6y at hT hO hZ ⊢
  have hC6y := hC6.trans (hT.below (B := w.heap.size) (by omega) (by simp; omega))
  have HA := Lib.hid (HB0.out.turn hT (by simp; omega))
  have HR := Lib.hid (HB1.out.turn hT (by simp))
  have HO := Lib.hid hO
  have Tep := Lib.hid (Tep.out.trans hT)
  have Tpo := Lib.hid (Tpo.out.trans hT)
  have Tclu := Lib.hid (Tclu.out.trans hT)
  have Twa := Lib.hid (Twa.out.trans hT)
  have Ten := Lib.hid hT
  refine (toProv_own t.seen _ t.insts _ (HW.out.below hC6y).ins SM.out.2.2.2.2.1).mono ?_
  rintro e w7 ⟨gi, rfl, li0, li1, heo, hb7⟩
  have hC7 := below_of hC6y hb7
  have hz7 := hb7.size
  rw [hZ] at hz7 li0
  clear hZ
  have B0 := HA.out.below hb7 HA.out.lt
  have B1 := HR.out.below hb7 HR.out.lt
  have B2 := HO.out.below hb7 HO.out.lt
  have Tep := Lib.hid (Tep.out.step hb7)
  have Tpo := Lib.hid (Tpo.out.step hb7)
  have Tclu := Lib.hid (Tclu.out.step hb7)
  have Twa := Lib.hid (Twa.out.step hb7)
  have Ten := Lib.hid (Ten.out.step hb7)
  have Fprov := Lib.hid heo
  clear heo
  clear hT hO HA HR HO HB0 HB1 HB2 lt2 hb7 hC6 ff x15 x16 d14
  have x17 := B0.cell 17
  have d15 := B2.cell 15
  have d16 := B2.cell 16
  have ff := B2.frozen
  simp at x17 d15 d16
  have HB0 := Lib.hid B0
  have HB1 := Lib.hid B1
  have HB2 := Lib.hid B2
  have lt2 := B2.lt
  clear B0 B1 B2
  go_wp2_with fail
  have hT : TurnB [w.heap.size + 1 + 1] w7 ((w7.setCell ⟨w.heap.size + 1 + 1, 15, none⟩ (.int .i64 t.seen)).setCell ⟨w.heap.size + 1 + 1, 15 + 1, none⟩ (.slice (some ⟨gi, 0, none⟩) t.insts.length t.insts.length)) := TurnB.put (TurnB.put (TurnB.refl _ _) (by simp) _ _) (by simp) _ _
  have hO : BlockIs ((w7.setCell ⟨w.heap.size + 1 + 1, 15, none⟩ (.int .i64 t.seen)).setCell ⟨w.heap.size + 1 + 1, 15 + 1, none⟩ (.slice (some ⟨gi, 0, none⟩) t.insts.length t.insts.length)) (w.heap.size + 1 + 1) 39 #[.int .i64 t.now, .int .i64 t.span, .int .i64 t.kind, .int .i64 t.limit, .int .i64 t.next, .int .i64 t.lease.c, .int .i64 t.lease.m, .int .i64 t.lease.p, .slice (some ⟨ge, 0, none⟩) t.epochs.length t.epochs.length, .slice (some ⟨w2.heap.size, 0, none⟩) t.pools.length t.pools.length, .slice R0 t.clu.tasks.length m0, .slice R1 t.clu.nodes.length m1, .slice R2 t.clu.binds.length m2, .slice (some ⟨w4.heap.size, 0, none⟩) t.wants.length t.wants.length, .slice (some ⟨gn, 0, none⟩) t.ends.length t.ends.length, .int .i64 t.seen, .slice (some ⟨gi, 0, none⟩) t.insts.length t.insts.length, .slice none 0 0] := by simpa using ((HB2.out.put 15 (.int .i64 t.seen)).put 16 (.slice (some ⟨gi, 0, none⟩) t.insts.length t.insts.length))
  have hZ : (((w7.setCell ⟨w.heap.size + 1 + 1, 15, none⟩ (.int .i64 t.seen)).setCell ⟨w.heap.size + 1 + 1, 15 + 1, none⟩ (.slice (some ⟨gi, 0, none⟩) t.insts.length t.insts.length))).heap.size = w7.heap.size := by simp [World.setCell]
  generalize ((w7.setCell ⟨w.heap.size + 1 + 1, 15, none⟩ (.int .i64 t.seen)).setCell ⟨w.heap.size + 1 + 1, 15 + 1, none⟩ (.slice (some ⟨gi, 0, none⟩) t.insts.length t.insts.length)) = w7y at hT hO hZ ⊢
  have hC7y := hC7.trans (hT.below (B := w.heap.size) (by omega) (by simp; omega))
  have HA := Lib.hid (HB0.out.turn hT (by simp; omega))
  have HR := Lib.hid (HB1.out.turn hT (by simp))
  have HO := Lib.hid hO
  have Tep := Lib.hid (Tep.out.trans hT)
  have Tpo := Lib.hid (Tpo.out.trans hT)
  have Tclu := Lib.hid (Tclu.out.trans hT)
  have Twa := Lib.hid (Twa.out.trans hT)
  have Ten := Lib.hid (Ten.out.trans hT)
  have Tprov := Lib.hid hT
  refine (toMsgS_o _ t.msgs _ (HW.out.below hC7y).ms SM.out.2.2.2.2.2).mono ?_
  rintro e w8 ⟨b6, rfl, hro, hnd, hlo, hb8⟩
  have hC8 := below_of hC7y hb8
  have hz8 := hb8.size
  rw [hZ] at hz8 hro ⊢
  simp only [hZ] at hlo
  clear hZ
  have B0 := HA.out.below hb8 HA.out.lt
  have B1 := HR.out.below hb8 HR.out.lt
  have B2 := HO.out.below hb8 HO.out.lt
  have Tep := Lib.hid (Tep.out.step hb8)
  have Tpo := Lib.hid (Tpo.out.step hb8)
  have Tclu := Lib.hid (Tclu.out.step hb8)
  have Twa := Lib.hid (Twa.out.step hb8)
  have Ten := Lib.hid (Ten.out.step hb8)
  have Tprov := Lib.hid (Tprov.out.step hb8)
  have Fms := Lib.hid (And.intro hro (And.intro hnd hlo))
  clear hro hnd hlo
  clear hT hO HA HR HO HB0 HB1 HB2 lt2 hb8 hC7 ff x17 d15 d16
  have d17 := B2.cell 17
  have ff := B2.frozen
  simp at d17
  have HB0 := Lib.hid B0
  have HB1 := Lib.hid B1
  have HB2 := Lib.hid B2
  have lt2 := B2.lt
  clear B0 B1 B2
  have hO : BlockIs (w8.setCell ⟨w.heap.size + 1 + 1, 17, none⟩ (.slice (some ⟨w7.heap.size, 0, none⟩) t.msgs.length t.msgs.length)) (w.heap.size + 1 + 1) 39 #[.int .i64 t.now, .int .i64 t.span, .int .i64 t.kind, .int .i64 t.limit, .int .i64 t.next, .int .i64 t.lease.c, .int .i64 t.lease.m, .int .i64 t.lease.p, .slice (some ⟨ge, 0, none⟩) t.epochs.length t.epochs.length, .slice (some ⟨w2.heap.size, 0, none⟩) t.pools.length t.pools.length, .slice R0 t.clu.tasks.length m0, .slice R1 t.clu.nodes.length m1, .slice R2 t.clu.binds.length m2, .slice (some ⟨w4.heap.size, 0, none⟩) t.wants.length t.wants.length, .slice (some ⟨gn, 0, none⟩) t.ends.length t.ends.length, .int .i64 t.seen, .slice (some ⟨gi, 0, none⟩) t.insts.length t.insts.length, .slice (some ⟨w7.heap.size, 0, none⟩) t.msgs.length t.msgs.length] := by simpa using (HB2.out.put 17 (.slice (some ⟨w7.heap.size, 0, none⟩) t.msgs.length t.msgs.length))
  have hR : BlockIs (w8.setCell ⟨w.heap.size + 1 + 1, 17, none⟩ (.slice (some ⟨w7.heap.size, 0, none⟩) t.msgs.length t.msgs.length)) (w.heap.size + 1) 39 #[.int .i64 0, .int .i64 0, .int .i64 0, .int .i64 0, .int .i64 0, .int .i64 0, .int .i64 0, .int .i64 0, .slice none 0 0, .slice none 0 0, .slice none 0 0, .slice none 0 0, .slice none 0 0, .slice none 0 0, .slice none 0 0, .int .i64 0, .slice none 0 0, .slice none 0 0] := HB1.out.far (p := ⟨w.heap.size + 1 + 1, 17, none⟩) (by dsimp only; omega) _
  have hT : TurnB [w.heap.size + 1, w.heap.size + 1 + 1] w8 ((w8.setCell ⟨w.heap.size + 1 + 1, 17, none⟩ (.slice (some ⟨w7.heap.size, 0, none⟩) t.msgs.length t.msgs.length)).setRow (w.heap.size + 1) #[.int .i64 t.now, .int .i64 t.span, .int .i64 t.kind, .int .i64 t.limit, .int .i64 t.next, .int .i64 t.lease.c, .int .i64 t.lease.m, .int .i64 t.lease.p, .slice (some ⟨ge, 0, none⟩) t.epochs.length t.epochs.length, .slice (some ⟨w2.heap.size, 0, none⟩) t.pools.length t.pools.length, .slice R0 t.clu.tasks.length m0, .slice R1 t.clu.nodes.length m1, .slice R2 t.clu.binds.length m2, .slice (some ⟨w4.heap.size, 0, none⟩) t.wants.length t.wants.length, .slice (some ⟨gn, 0, none⟩) t.ends.length t.ends.length, .int .i64 t.seen, .slice (some ⟨gi, 0, none⟩) t.insts.length t.insts.length, .slice (some ⟨w7.heap.size, 0, none⟩) t.msgs.length t.msgs.length]) := (TurnB.put (TurnB.refl _ _) (by simp) _ _).trans ⟨rfl, rfl, rfl, by simp [World.setRow], fun q hq hne => setRow_other _ _ _ _ (by simp at hne; omega)⟩
  have HOO := Lib.hid hO
  have HRR := Lib.hid hR
  have hF : BlockIs ((w8.setCell ⟨w.heap.size + 1 + 1, 17, none⟩ (.slice (some ⟨w7.heap.size, 0, none⟩) t.msgs.length t.msgs.length)).setRow (w.heap.size + 1) #[.int .i64 t.now, .int .i64 t.span, .int .i64 t.kind, .int .i64 t.limit, .int .i64 t.next, .int .i64 t.lease.c, .int .i64 t.lease.m, .int .i64 t.lease.p, .slice (some ⟨ge, 0, none⟩) t.epochs.length t.epochs.length, .slice (some ⟨w2.heap.size, 0, none⟩) t.pools.length t.pools.length, .slice R0 t.clu.tasks.length m0, .slice R1 t.clu.nodes.length m1, .slice R2 t.clu.binds.length m2, .slice (some ⟨w4.heap.size, 0, none⟩) t.wants.length t.wants.length, .slice (some ⟨gn, 0, none⟩) t.ends.length t.ends.length, .int .i64 t.seen, .slice (some ⟨gi, 0, none⟩) t.insts.length t.insts.length, .slice (some ⟨w7.heap.size, 0, none⟩) t.msgs.length t.msgs.length]) (w.heap.size + 1) 39 #[.int .i64 t.now, .int .i64 t.span, .int .i64 t.kind, .int .i64 t.limit, .int .i64 t.next, .int .i64 t.lease.c, .int .i64 t.lease.m, .int .i64 t.lease.p, .slice (some ⟨ge, 0, none⟩) t.epochs.length t.epochs.length, .slice (some ⟨w2.heap.size, 0, none⟩) t.pools.length t.pools.length, .slice R0 t.clu.tasks.length m0, .slice R1 t.clu.nodes.length m1, .slice R2 t.clu.binds.length m2, .slice (some ⟨w4.heap.size, 0, none⟩) t.wants.length t.wants.length, .slice (some ⟨gn, 0, none⟩) t.ends.length t.ends.length, .int .i64 t.seen, .slice (some ⟨gi, 0, none⟩) t.insts.length t.insts.length, .slice (some ⟨w7.heap.size, 0, none⟩) t.msgs.length t.msgs.length] := setRow_heap _ _ _ _ _ _ hR
  have HT := Lib.hid hT
  have HF := Lib.hid hF
  clear hO hR hT hF
  go_wp2_with (first
    | (refine wpList_store_row rfl 39 _ _ rfl _ _ rfl rfl 39 _ HRR.out (by kernel_rfl) rfl (by simp [Value.oneCell']) ?_)
    | (refine wpList_load_row rfl 39 _ rfl _ rfl 39 _ (0, 0) _ HOO.out Tryz.underlying39 rfl (by kernel_rfl) ?_))
  refine bodyPost_ret (v := .agg #[.int .i64 t.now, .int .i64 t.span, .int .i64 t.kind, .int .i64 t.limit, .int .i64 t.next, .int .i64 t.lease.c, .int .i64 t.lease.m, .int .i64 t.lease.p, .slice (some ⟨ge, 0, none⟩) t.epochs.length t.epochs.length, .slice (some ⟨w2.heap.size, 0, none⟩) t.pools.length t.pools.length, .slice R0 t.clu.tasks.length m0, .slice R1 t.clu.nodes.length m1, .slice R2 t.clu.binds.length m2, .slice (some ⟨w4.heap.size, 0, none⟩) t.wants.length t.wants.length, .slice (some ⟨gn, 0, none⟩) t.ends.length t.ends.length, .int .i64 t.seen, .slice (some ⟨gi, 0, none⟩) t.insts.length t.insts.length, .slice (some ⟨w7.heap.size, 0, none⟩) t.msgs.length t.msgs.length]) (results_cell_row Tryz.results18 _ _ (w.heap.size + 1) 39 _ (0, 0) _ rfl HF.out Tryz.underlying39 rfl (by kernel_rfl)) rfl ?_
  have hTF := HT.out
  clear HF HT HOO HRR
  generalize ((w8.setCell ⟨w.heap.size + 1 + 1, 17, none⟩ (.slice (some ⟨w7.heap.size, 0, none⟩) t.msgs.length t.msgs.length)).setRow (w.heap.size + 1) #[.int .i64 t.now, .int .i64 t.span, .int .i64 t.kind, .int .i64 t.limit, .int .i64 t.next, .int .i64 t.lease.c, .int .i64 t.lease.m, .int .i64 t.lease.p, .slice (some ⟨ge, 0, none⟩) t.epochs.length t.epochs.length, .slice (some ⟨w2.heap.size, 0, none⟩) t.pools.length t.pools.length, .slice R0 t.clu.tasks.length m0, .slice R1 t.clu.nodes.length m1, .slice R2 t.clu.binds.length m2, .slice (some ⟨w4.heap.size, 0, none⟩) t.wants.length t.wants.length, .slice (some ⟨gn, 0, none⟩) t.ends.length t.ends.length, .int .i64 t.seen, .slice (some ⟨gi, 0, none⟩) t.insts.length t.insts.length, .slice (some ⟨w7.heap.size, 0, none⟩) t.msgs.length t.msgs.length]) = wf at hTF ⊢
  have L0 : ∀ b ∈ blk (.slice (some ⟨ge, 0, none⟩) t.epochs.length t.epochs.length), w1.heap.size ≤ b ∧ b < w2.heap.size := by simp [blk, Value.ownBlock]; omega
  have L1 : ∀ b ∈ b1, w2.heap.size ≤ b ∧ b < w3.heap.size := fun b hb => ⟨Fpo.out.2.2 b hb, rowO_lt (fun _ _ _ h => h.lt) Fpo.out.1 b hb⟩
  have L2 : ∀ b ∈ b2, w3.heap.size ≤ b ∧ b < w4.heap.size := fun b hb => ⟨Fclu.out.2 b hb, Fclu.out.1.lt b hb⟩
  have L3 : ∀ b ∈ b3, w4.heap.size ≤ b ∧ b < w5.heap.size := fun b hb => ⟨Fwa.out.2.2 b hb, rowO_lt (fun _ _ _ h => h.lt) Fwa.out.1 b hb⟩
  have L4 : ∀ b ∈ blk (.slice (some ⟨gn, 0, none⟩) t.ends.length t.ends.length), w5.heap.size ≤ b ∧ b < w6.heap.size := by simp [blk, Value.ownBlock]; omega
  have L5 : ∀ b ∈ blk (.slice (some ⟨gi, 0, none⟩) t.insts.length t.insts.length), w6.heap.size ≤ b ∧ b < w7.heap.size := by simp [blk, Value.ownBlock]; omega
  have L6 : ∀ b ∈ b6, w7.heap.size ≤ b ∧ b < w8.heap.size := fun b hb => ⟨Fms.out.2.2 b hb, rowO_lt (fun _ _ _ h => h.lt) Fms.out.1 b hb⟩
  have full : ∀ v, TurnB [w.heap.size + 1 + 1] v w8 → TurnB [w.heap.size + 1, w.heap.size + 1 + 1] v wf := fun v h => (h.mono (by simp)).trans hTF
  have Aep := fun b hb => (full _ Tep.out).block b (L0 b hb).2 (by have := (L0 b hb).1; simp; omega)
  have Apo := fun b hb => (full _ Tpo.out).block b (L1 b hb).2 (by have := (L1 b hb).1; simp; omega)
  have Aclu := fun b hb => (full _ Tclu.out).block b (L2 b hb).2 (by have := (L2 b hb).1; simp; omega)
  have Awa := fun b hb => (full _ Twa.out).block b (L3 b hb).2 (by have := (L3 b hb).1; simp; omega)
  have Aen := fun b hb => (full _ Ten.out).block b (L4 b hb).2 (by have := (L4 b hb).1; simp; omega)
  have Aprov := fun b hb => (full _ Tprov.out).block b (L5 b hb).2 (by have := (L5 b hb).1; simp; omega)
  have Ams := fun b hb => hTF.block b (L6 b hb).2 (by have := (L6 b hb).1; simp; omega)
  refine ⟨⟨.slice (some ⟨ge, 0, none⟩) t.epochs.length t.epochs.length, .slice (some ⟨w2.heap.size, 0, none⟩) t.pools.length t.pools.length, .slice R0 t.clu.tasks.length m0, .slice R1 t.clu.nodes.length m1, .slice R2 t.clu.binds.length m2, .slice (some ⟨w4.heap.size, 0, none⟩) t.wants.length t.wants.length, .slice (some ⟨gn, 0, none⟩) t.ends.length t.ends.length, .slice (some ⟨gi, 0, none⟩) t.insts.length t.insts.length, .slice (some ⟨w7.heap.size, 0, none⟩) t.msgs.length t.msgs.length⟩, b1, b2, b3, b6, rfl, ⟨?_, ?_, ?_, ?_, ?_, ?_, ?_, SM.out⟩, ?_, ?_, ?_⟩
  · exact own_agree (intO_of Fep.out SM.out.1) Aep
  · exact Fpo.out.1.agree PoolO.framed Apo
  · exact Fclu.out.1.agree Aclu
  · exact Fwa.out.1.agree WantO.framed Awa
  · exact own_agree (intO_of Fen.out SM.out.2.2.2.1) Aen
  · exact own_agree Fprov.out Aprov
  · exact Fms.out.1.agree MsgO.framed Ams
  · exact nodup_wldB L0 L1 L2 L3 L4 L5 L6 (by simp [blk, Value.ownBlock]) Fpo.out.2.1 (by obtain ⟨_, _, _, _, _, _, _, h, _⟩ := Fclu.out.1; exact h) Fwa.out.2.1 (by simp [blk, Value.ownBlock]) (by simp [blk, Value.ownBlock]) Fms.out.2.1
  · intro b hb
    simp only [wldB, List.mem_append] at hb
    rcases hb with hb | hb | hb | hb | hb | hb | hb
    · have := L0 b hb; omega
    · have := L1 b hb; omega
    · have := L2 b hb; omega
    · have := L3 b hb; omega
    · have := L4 b hb; omega
    · have := L5 b hb; omega
    · have := L6 b hb; omega
  · exact hC8.trans (hTF.below hC8.size (by simp; omega))
end Go.Proofs.YtcegofdmdemcbaaGreatDoor

namespace Go.Proofs.YtcegofdmdemcbaaGreatDoor
open Go.ChangeShapes Go.WideShapes Go.ChangeAt Go.RowKit Go.Joins

theorem Tryz.cellsInst : Tryz.prog.cellsOf 205 = 3 := by kernel_rfl
section
variable {H : Type} {enc : TypeId × Value → H} {W : World}
set_option maxRecDepth 100000 in
theorem open_instC {fuel : Nat} {v : Value} {x : DataW H × List MemPlace} (h : DataW.trod enc Tryz.prog W 0 (fun _ => true) true fuel 55 [v] = some x) :
    ∃ A n c, v = .slice A n c ∧ n ≤ maxLen ∧ ∃ l : List RV, l.length = n ∧ InSl W v l := by
  rcases Go.Deep.open_slice Tryz.underlying55 h with ⟨hcs, _⟩ | ⟨a, n, m, m', n', D, Pl, hcs, hb, hl, hm, hmm, hx, hi⟩
  · simp at hcs
    subst hcs
    exact ⟨none, 0, 0, rfl, by unfold maxLen; omega, [], rfl, .inl ⟨rfl, _, _, rfl⟩⟩
  · simp at hcs
    subst hcs
    rw [if_pos rfl] at hmm
    subst hmm
    have hel : ∀ i, i < n → ∃ r : RV, W.cell? (a.add (i * 3)) = some (.int .i64 r.c) ∧ W.cell? (a.add (i * 3 + 1)) = some (.int .i64 r.m) ∧ W.cell? (a.add (i * 3 + 2)) = some (.int .i64 r.p) := by
      intro i hin
      obtain ⟨cs', hc, ht⟩ := hi i (by omega)
      rw [Tryz.cellsInst] at hc
      obtain ⟨y0, y1, y2, k, _, hlen, g0, g1, g2⟩ := Go.Deep.trod_struct3 Tryz.underlying205 ht
      rw [Tryz.cellsInst] at hlen
      obtain ⟨_, _, hat⟩ := World.cells?_some hc
      match cs', hlen with
      | [c0, c1, c2], _ =>
        obtain ⟨r0, e0, _, _⟩ := DataW.trod_int Tryz.underlying3 g0
        obtain ⟨r1, e1, _, _⟩ := DataW.trod_int Tryz.underlying3 g1
        obtain ⟨r2, e2, _, _⟩ := DataW.trod_int Tryz.underlying3 g2
        have k3 : Tryz.prog.cellsOf 3 = 1 := by kernel_rfl
        simp [k3] at e0 e1 e2
        subst e0 e1 e2
        have a0 := hat 0 (by omega)
        have a1 := hat 1 (by omega)
        have a2 := hat 2 (by omega)
        rw [Go.Deep.add_add] at a0 a1 a2
        exact ⟨⟨r0, r1, r2⟩, by simpa using a0, by simpa using a1, by simpa using a2⟩
    have hne : Nonempty RV := ⟨RV.zero⟩
    obtain ⟨f, hf⟩ : ∃ f : Nat → RV, ∀ i, i < n → W.cell? (a.add (i * 3)) = some (.int .i64 (f i).c) ∧ W.cell? (a.add (i * 3 + 1)) = some (.int .i64 (f i).m) ∧ W.cell? (a.add (i * 3 + 2)) = some (.int .i64 (f i).p) := by
      classical
      refine ⟨fun i => if hi : i < n then Classical.choose (hel i hi) else RV.zero, fun i hi => ?_⟩
      simp only [dif_pos hi]
      exact Classical.choose_spec (hel i hi)
    refine ⟨_, n, _, rfl, by omega, (List.range n).map f, by simp, ?_⟩
    rcases Nat.eq_zero_or_pos n with rfl | hp
    · exact .inl ⟨rfl, _, _, rfl⟩
    · obtain ⟨b, off, spot⟩ := a
      have h0 := (hf 0 hp).1
      have hspot : spot = none := by simpa [Addr.add] using World.cell?_spot h0
      subst hspot
      have hlt := World.block_lt_of_cell? _ _ h0
      refine .inr ⟨b, off, m', by simp, by simpa [Addr.add] using hlt, fun i r hr => ?_⟩
      have hi : i < n := by
        have := (List.getElem?_eq_some_iff.1 hr).1
        simpa using this
      have hri : f i = r := by simpa [hi] using hr
      obtain ⟨h1, h2, h3⟩ := hf i hi
      rw [hri] at h1 h2 h3
      rw [add_plain] at h1 h2 h3
      exact ⟨h1, h2, h3⟩
end
end Go.Proofs.YtcegofdmdemcbaaGreatDoor

namespace Go.Proofs.YtcegofdmdemcbaaGreatDoor
open Go.ChangeShapes Go.WideShapes Go.ChangeAt Go.RowKit Go.Joins

structure WldQ (w : World) (t : WV) (s : WS) : Prop where
  ep : IntSl w s.ep t.epochs
  po : GSl PoolQ 12 w s.po t.pools
  clu : CluQ w t.clu s.ta s.no s.bi
  wa : WantSl w s.wa t.wants
  en : IntSl w s.en t.ends
  ins : InSl w s.ins t.insts
  ms : MsgSl w s.ms t.msgs
  lep : t.epochs.length ≤ maxLen
  lpo : t.pools.length ≤ maxLen
  lwa : t.wants.length ≤ maxLen
  len : t.ends.length ≤ maxLen
  lin : t.insts.length ≤ maxLen
  lms : t.msgs.length ≤ maxLen
theorem WldQ.below {w w' : World} {t : WV} {s : WS} (h : WldQ w t s) (hb : Below w.heap.size w w') : WldQ w' t s :=
  ⟨h.ep.below hb, h.po.below PoolQ.kept hb, h.clu.below hb, h.wa.below hb, h.en.below hb, h.ins.below hb, h.ms.below hb, h.lep, h.lpo, h.lwa, h.len, h.lin, h.lms⟩
theorem WldQ.form {w : World} {t : WV} {s : WS} (h : WldQ w t s) : ∃ A0 A1 A2 A3 A4 A5 A6 A7 A8 c0 c1 c2 c3 c4 c5 c6 c7 c8, s = ⟨.slice A0 t.epochs.length c0, .slice A1 t.pools.length c1, .slice A2 t.clu.tasks.length c2, .slice A3 t.clu.nodes.length c3, .slice A4 t.clu.binds.length c4, .slice A5 t.wants.length c5, .slice A6 t.ends.length c6, .slice A7 t.insts.length c7, .slice A8 t.msgs.length c8⟩ := by
  obtain ⟨ep, po, ta, no, bi, wa, en, ins, ms⟩ := s
  obtain ⟨A0, c0, e0, _⟩ := h.ep.form
  obtain ⟨A1, c1, e1, _⟩ := h.po.form
  obtain ⟨A2, c2, e2, _⟩ := h.clu.1.form
  obtain ⟨A3, c3, e3, _⟩ := h.clu.2.1.form
  obtain ⟨A4, c4, e4, _⟩ := h.clu.2.2.1.form
  obtain ⟨A5, c5, e5, _⟩ := h.wa.form
  obtain ⟨A6, c6, e6, _⟩ := h.en.form
  obtain ⟨A7, c7, e7, _⟩ := h.ins.form
  obtain ⟨A8, c8, e8, _⟩ := h.ms.form
  simp only at e0 e1 e2 e3 e4 e5 e6 e7 e8
  subst e0 e1 e2 e3 e4 e5 e6 e7 e8
  exact ⟨A0, A1, A2, A3, A4, A5, A6, A7, A8, c0, c1, c2, c3, c4, c5, c6, c7, c8, rfl⟩
def WV.fits (t : WV) : Prop := t.small ∧ t.clu.small ∧ ∀ p ∈ t.pools, p.small
theorem WldQ.wld {w : World} {t : WV} {s : WS} (h : WldQ w t s) (hs : t.fits) : WldR w t s :=
  ⟨h.ep, h.po.small fun x hx _ ⟨v1, v2, e, a, b, _⟩ => ⟨v1, v2, e, a, b, hs.2.2 x hx⟩, h.clu.clu hs.2.1, h.wa, h.en, h.ins, h.ms, hs.1⟩

section
variable {H : Type} {enc : TypeId × Value → H} {W : World}
theorem trod_struct13 {P : Program} {base : Nat} {spare : Nat → Bool} {held : Bool} {t : TypeId} {f0 f1 f2 f3 f4 f5 f6 f7 f8 f9 f10 f11 f12 : Field} {fuel : Nat} {cs : List Value} {x : DataW H × List MemPlace} (ht : P.underlying t = some (.struct #[f0, f1, f2, f3, f4, f5, f6, f7, f8, f9, f10, f11, f12])) (h : DataW.trod enc P W base spare held fuel t cs = some x) :
    ∃ y0 y1 y2 y3 y4 y5 y6 y7 y8 y9 y10 y11 y12 n, cs.length = P.cellsOf t ∧ DataW.trod enc P W base spare held n f0.type ((cs.drop f0.offset).take (P.cellsOf f0.type)) = some y0 ∧ DataW.trod enc P W base spare held n f1.type ((cs.drop f1.offset).take (P.cellsOf f1.type)) = some y1 ∧ DataW.trod enc P W base spare held n f2.type ((cs.drop f2.offset).take (P.cellsOf f2.type)) = some y2 ∧ DataW.trod enc P W base spare held n f3.type ((cs.drop f3.offset).take (P.cellsOf f3.type)) = some y3 ∧ DataW.trod enc P W base spare held n f4.type ((cs.drop f4.offset).take (P.cellsOf f4.type)) = some y4 ∧ DataW.trod enc P W base spare held n f5.type ((cs.drop f5.offset).take (P.cellsOf f5.type)) = some y5 ∧ DataW.trod enc P W base spare held n f6.type ((cs.drop f6.offset).take (P.cellsOf f6.type)) = some y6 ∧ DataW.trod enc P W base spare held n f7.type ((cs.drop f7.offset).take (P.cellsOf f7.type)) = some y7 ∧ DataW.trod enc P W base spare held n f8.type ((cs.drop f8.offset).take (P.cellsOf f8.type)) = some y8 ∧ DataW.trod enc P W base spare held n f9.type ((cs.drop f9.offset).take (P.cellsOf f9.type)) = some y9 ∧ DataW.trod enc P W base spare held n f10.type ((cs.drop f10.offset).take (P.cellsOf f10.type)) = some y10 ∧ DataW.trod enc P W base spare held n f11.type ((cs.drop f11.offset).take (P.cellsOf f11.type)) = some y11 ∧ DataW.trod enc P W base spare held n f12.type ((cs.drop f12.offset).take (P.cellsOf f12.type)) = some y12 := by
  obtain ⟨xs, n, _, rfl, hl, hlen, hf⟩ := DataW.trod_struct ht h
  match xs, hlen with
  | [y0, y1, y2, y3, y4, y5, y6, y7, y8, y9, y10, y11, y12], _ => exact ⟨y0, y1, y2, y3, y4, y5, y6, y7, y8, y9, y10, y11, y12, n, hl, by simpa using hf 0 f0 rfl, by simpa using hf 1 f1 rfl, by simpa using hf 2 f2 rfl, by simpa using hf 3 f3 rfl, by simpa using hf 4 f4 rfl, by simpa using hf 5 f5 rfl, by simpa using hf 6 f6 rfl, by simpa using hf 7 f7 rfl, by simpa using hf 8 f8 rfl, by simpa using hf 9 f9 rfl, by simpa using hf 10 f10 rfl, by simpa using hf 11 f11 rfl, by simpa using hf 12 f12 rfl⟩
theorem list18 {α : Type} {l : List α} (h : l.length = 18) : ∃ u_0 u_1 u_2 u_3 u_4 u_5 u_6 u_7 u_8 u_9 u_10 u_11 u_12 u_13 u_14 u_15 u_16 u_17, l = [u_0, u_1, u_2, u_3, u_4, u_5, u_6, u_7, u_8, u_9, u_10, u_11, u_12, u_13, u_14, u_15, u_16, u_17] := by
  match l, h with
  | [u_0, u_1, u_2, u_3, u_4, u_5, u_6, u_7, u_8, u_9, u_10, u_11, u_12, u_13, u_14, u_15, u_16, u_17], _ => exact ⟨u_0, u_1, u_2, u_3, u_4, u_5, u_6, u_7, u_8, u_9, u_10, u_11, u_12, u_13, u_14, u_15, u_16, u_17, rfl⟩
theorem Tryz.c_world : Tryz.prog.cellsOf 60 = 18 := by kernel_rfl
theorem Tryz.c_leaseL : Tryz.prog.cellsOf 48 = 3 := by kernel_rfl
theorem Tryz.c_provL : Tryz.prog.cellsOf 57 = 2 := by kernel_rfl
theorem Tryz.c_poolsL : Tryz.prog.cellsOf 22 = 1 := by kernel_rfl
theorem Tryz.c_wantsL : Tryz.prog.cellsOf 54 = 1 := by kernel_rfl
theorem Tryz.c_msgsL : Tryz.prog.cellsOf 58 = 1 := by kernel_rfl
theorem Tryz.c_instsL : Tryz.prog.cellsOf 55 = 1 := by kernel_rfl
theorem Tryz.c_wantL : Tryz.prog.cellsOf 166 = 2 := by kernel_rfl
theorem Tryz.c_msgL : Tryz.prog.cellsOf 169 = 4 := by kernel_rfl
set_option maxRecDepth 100000 in
theorem open_wantC {fuel : Nat} {cs : List Value} {x : DataW H × List MemPlace} (h : DataW.trod enc Tryz.prog W 0 (fun _ => true) true fuel 166 cs = some x) : ∃ t : BV, WantR W t cs := by
  obtain ⟨y0, y1, k, _, hlen, g0, g1⟩ := trod_struct2 Tryz.underlying166 h
  rw [Tryz.c_wantL] at hlen
  match cs, hlen with
  | [c0, c1], _ =>
    obtain ⟨r0, e0, _, _⟩ := DataW.trod_int Tryz.underlying3 g0
    obtain ⟨r1, e1, _, _⟩ := DataW.trod_int Tryz.underlying3 g1
    simp [Tryz.c_int] at e0 e1
    subst e0 e1
    exact ⟨⟨r0, r1⟩, rfl⟩
set_option maxRecDepth 100000 in
theorem open_msgC {fuel : Nat} {cs : List Value} {x : DataW H × List MemPlace} (h : DataW.trod enc Tryz.prog W 0 (fun _ => true) true fuel 169 cs = some x) : ∃ t : MV, MsgR W t cs := by
  obtain ⟨y0, y1, y2, y3, k, _, hlen, g0, g1, g2, g3⟩ := trod_struct4 Tryz.underlying169 h
  rw [Tryz.c_msgL] at hlen
  match cs, hlen with
  | [c0, c1, c2, c3], _ =>
    obtain ⟨r0, e0, _, _⟩ := DataW.trod_int Tryz.underlying3 g0
    obtain ⟨r1, e1, _, _⟩ := DataW.trod_int Tryz.underlying3 g1
    obtain ⟨r2, e2, _, _⟩ := DataW.trod_int Tryz.underlying3 g2
    obtain ⟨r3, e3, _, _⟩ := DataW.trod_int Tryz.underlying3 g3
    simp [Tryz.c_int] at e0 e1 e2 e3
    subst e0 e1 e2 e3
    exact ⟨⟨r0, r1, r2, r3⟩, rfl⟩
set_option maxRecDepth 100000 in
theorem open_clusterC {fuel : Nat} {a b c : Value} {x : DataW H × List MemPlace} (h : DataW.trod enc Tryz.prog W 0 (fun _ => true) true fuel 53 [a, b, c] = some x) : ∃ t : CV, CluQ W t a b c := by
  obtain ⟨r0, r1, r2, m, _, hl, g0, g1, g2⟩ := Go.Deep.trod_struct3 Tryz.underlying53 h
  simp only [Tryz.c_tasks, Tryz.c_nodes, Tryz.c_binds] at g0 g1 g2
  simp at g0 g1 g2
  obtain ⟨l0, m0, s0⟩ := open_gslice (R := TaskQ) TV.zero (by omega) Tryz.underlying49 Tryz.c_task (fun fuel cs x h => by
    obtain ⟨t, v1, v2, e, h1, h2, h3, h4⟩ := open_taskC h
    exact ⟨t, v1, v2, e, h1, h2, h3, h4⟩) g0
  obtain ⟨l1, m1, s1⟩ := open_gslice (R := NodeQ) NV.zero (by omega) Tryz.underlying50 Tryz.c_node (fun fuel cs x h => by
    obtain ⟨t, v1, v2, e, h1, h2, h3, h4⟩ := open_nodeC h
    exact ⟨t, v1, v2, e, h1, h2, h3, h4⟩) g1
  obtain ⟨l2, m2, s2⟩ := open_gslice (R := BindR) BV.zero (by omega) Tryz.underlying51 Tryz.c_bind (fun fuel cs x h => open_bindC h) g2
  exact ⟨⟨l0, l1, l2⟩, s0, s1, s2, m0, m1, m2⟩
set_option maxRecDepth 100000 in
set_option maxHeartbeats 800000 in
theorem open_world {base : Nat} {v : Value} {d : DataW H} {p : List MemPlace} (hv : Value.okWide Tryz.prog W .any base 60 v) (h : DataW.Trod enc Tryz.prog W 0 (fun _ => true) true 60 v d p) :
    ∃ (t : WV) (s : WS), v = .agg #[.int .i64 t.now, .int .i64 t.span, .int .i64 t.kind, .int .i64 t.limit, .int .i64 t.next, .int .i64 t.lease.c, .int .i64 t.lease.m, .int .i64 t.lease.p, s.ep, s.po, s.ta, s.no, s.bi, s.wa, s.en, .int .i64 t.seen, s.ins, s.ms] ∧ WldQ W t s := by
  obtain ⟨cs, rfl, _⟩ := okWide_struct Tryz.underlying60 hv
  obtain ⟨fuel, hf⟩ := h
  simp only [Value.cells] at hf
  obtain ⟨l⟩ := cs
  obtain ⟨y0, y1, y2, y3, y4, y5, y6, y7, y8, y9, y10, y11, y12, n, hl, g0, g1, g2, g3, g4, g5, g6, g7, g8, g9, g10, g11, g12⟩ := trod_struct13 Tryz.underlying60 hf
  rw [Tryz.c_world] at hl
  obtain ⟨u_0, u_1, u_2, u_3, u_4, u_5, u_6, u_7, u_8, u_9, u_10, u_11, u_12, u_13, u_14, u_15, u_16, u_17, rfl⟩ := list18 (l := l) (by simpa using hl)
  clear hl hf hv
  simp only [Tryz.c_int] at g0
  simp at g0
  simp only [Tryz.c_int] at g1
  simp at g1
  simp only [Tryz.c_int] at g2
  simp at g2
  simp only [Tryz.c_int] at g3
  simp at g3
  simp only [Tryz.c_int] at g4
  simp at g4
  simp only [Tryz.c_leaseL] at g5
  simp at g5
  simp only [Tryz.c_ints] at g6
  simp at g6
  simp only [Tryz.c_poolsL] at g7
  simp at g7
  simp only [Tryz.c_clu] at g8
  simp at g8
  simp only [Tryz.c_wantsL] at g9
  simp at g9
  simp only [Tryz.c_ints] at g10
  simp at g10
  simp only [Tryz.c_provL] at g11
  simp at g11
  simp only [Tryz.c_msgsL] at g12
  simp at g12
  obtain ⟨z0, e0, _, _⟩ := DataW.trod_int Tryz.underlying3 g0
  obtain ⟨z1, e1, _, _⟩ := DataW.trod_int Tryz.underlying3 g1
  obtain ⟨z2, e2, _, _⟩ := DataW.trod_int Tryz.underlying3 g2
  obtain ⟨z3, e3, _, _⟩ := DataW.trod_int Tryz.underlying3 g3
  obtain ⟨z4, e4, _, _⟩ := DataW.trod_int Tryz.underlying3 g4
  obtain ⟨r0, r1, r2, m, _, _, k0, k1, k2⟩ := Go.Deep.trod_struct3 Tryz.underlying48 g5
  simp only [Tryz.c_int] at k0 k1 k2
  simp at k0 k1 k2
  obtain ⟨z5, e5, _, _⟩ := DataW.trod_int Tryz.underlying3 k0
  obtain ⟨z6, e6, _, _⟩ := DataW.trod_int Tryz.underlying3 k1
  obtain ⟨z7, e7, _, _⟩ := DataW.trod_int Tryz.underlying3 k2
  obtain ⟨A0, n0, c0, x0, hn0, l0, hl0, sl0⟩ := open_intC g6
  obtain ⟨l1, hl1, sl1⟩ := open_gslice (R := PoolQ) PV.zero (by omega) Tryz.underlying22 Tryz.c_pool (fun fuel cs x h => open_poolC h) g7
  obtain ⟨cl, hcl⟩ := open_clusterC g8
  obtain ⟨l3, hl3, sl3⟩ := open_gslice (R := WantR) BV.zero (by omega) Tryz.underlying54 Tryz.c_wantL (fun fuel cs x h => open_wantC h) g9
  obtain ⟨A4, n4, c4, x4, hn4, l4, hl4, sl4⟩ := open_intC g10
  obtain ⟨u0, u1, q, _, _, j0, j1⟩ := trod_struct2 Tryz.underlying57 g11
  simp only [Tryz.c_int, Tryz.c_instsL] at j0 j1
  simp at j0 j1
  obtain ⟨z8, e8, _, _⟩ := DataW.trod_int Tryz.underlying3 j0
  obtain ⟨A5, n5, c5, x5, hn5, l5, hl5, sl5⟩ := open_instC j1
  obtain ⟨l6, hl6, sl6⟩ := open_gslice (R := MsgR) ⟨0, 0, 0, 0⟩ (by omega) Tryz.underlying58 Tryz.c_msgL (fun fuel cs x h => open_msgC h) g12
  simp at e0 e1 e2 e3 e4 e5 e6 e7 e8
  subst e0 e1 e2 e3 e4 e5 e6 e7 e8
  exact ⟨⟨z0, z1, z2, z3, z4, ⟨z5, z6, z7⟩, l0, l1, cl, l3, l4, z8, l5, l6⟩, ⟨u_8, u_9, u_10, u_11, u_12, u_13, u_14, u_16, u_17⟩, rfl, sl0, sl1, hcl, sl3, sl4, sl5, sl6, by simp only; omega, hl1, hl3, by simp only; omega, by simp only; omega, hl6⟩
end
end Go.Proofs.YtcegofdmdemcbaaGreatDoor

namespace Go.Proofs.YtcegofdmdemcbaaGreatDoor
open Go.RowKit

theorem szIntZ_any (v : Value) (l : List Int) (z : Int) (w : World) (hv : IntSl w v l) (hl : l.length ≤ maxLen) (h0 : 0 ≤ z) (hz : z ≤ 1048576) :
    Calls Tryz.prog 47 #[v, .int .i64 z] w fun e w' => (∃ y : Int, e = .returned (.int .i64 y) ∧ (y = -1 ∨ (0 ≤ y ∧ y ≤ 1048576 ∧ l.length ≤ 1048576))) ∧ Below w.heap.size w w' := by
  obtain ⟨A, c, rfl, hA⟩ := hv.form
  unfold maxLen at hl
  clear hA hv
  by_cases h1 : (l.length : Int) ≤ z
  · go_enter Tryz.func47, Tryz.ntmps47
    go_wp2_with fail
    go_ret
    exact ⟨⟨z - l.length, by first | rfl | simp, .inr ⟨by omega, by omega, by omega⟩⟩, (by repeat' (first | exact Below.refl _ _ | refine Below.alloc ?_ ?_ _ | refine Below.setCell ?_ ?_ _ | refine Below.drew ?_ | (apply below_step; assumption) | (simp; done) | (simp; omega) | omega))⟩
  · have h1' : z < l.length := by omega
    clear h1
    go_enter Tryz.func47, Tryz.ntmps47
    go_wp2_with fail
    go_ret
    exact ⟨⟨-1, rfl, .inl rfl⟩, (by repeat' (first | exact Below.refl _ _ | refine Below.alloc ?_ ?_ _ | refine Below.setCell ?_ ?_ _ | refine Below.drew ?_ | (apply below_step; assumption) | (simp; done) | (simp; omega) | omega))⟩
theorem szInstZ_any (v : Value) (l : List RV) (z : Int) (w : World) (hv : InSl w v l) (hl : l.length ≤ maxLen) (h0 : 0 ≤ z) (hz : z ≤ 1048576) :
    Calls Tryz.prog 116 #[v, .int .i64 z] w fun e w' => (∃ y : Int, e = .returned (.int .i64 y) ∧ (y = -1 ∨ (0 ≤ y ∧ y ≤ 1048576 ∧ l.length ≤ 1048576))) ∧ Below w.heap.size w w' := by
  obtain ⟨A, c, rfl, hA⟩ := hv.form
  unfold maxLen at hl
  clear hA hv
  by_cases h1 : (l.length : Int) ≤ z
  · go_enter Tryz.func116, Tryz.ntmps116
    go_wp2_with fail
    go_ret
    exact ⟨⟨z - l.length, by first | rfl | simp, .inr ⟨by omega, by omega, by omega⟩⟩, (by repeat' (first | exact Below.refl _ _ | refine Below.alloc ?_ ?_ _ | refine Below.setCell ?_ ?_ _ | refine Below.drew ?_ | (apply below_step; assumption) | (simp; done) | (simp; omega) | omega))⟩
  · have h1' : z < l.length := by omega
    clear h1
    go_enter Tryz.func116, Tryz.ntmps116
    go_wp2_with fail
    go_ret
    exact ⟨⟨-1, rfl, .inl rfl⟩, (by repeat' (first | exact Below.refl _ _ | refine Below.alloc ?_ ?_ _ | refine Below.setCell ?_ ?_ _ | refine Below.drew ?_ | (apply below_step; assumption) | (simp; done) | (simp; omega) | omega))⟩
theorem szProvZ_any (ep : Int) (v : Value) (l : List RV) (z : Int) (w : World) (hv : InSl w v l) (hl : l.length ≤ maxLen) (h0 : 0 ≤ z) (hz : z ≤ 1048576) :
    Calls Tryz.prog 50 #[.agg #[.int .i64 ep, v], .int .i64 z] w fun e w' => (∃ y : Int, e = .returned (.int .i64 y) ∧ (y = -1 ∨ (0 ≤ y ∧ y ≤ 1048576 ∧ l.length ≤ 1048576))) ∧ Below w.heap.size w w' := by
  have HV := Lib.hid hv
  obtain ⟨A, c, rfl, _⟩ := hv.form
  clear hv
  go_enter Tryz.func50, Tryz.ntmps50
  go_wp2_with fail
  have hX : Below w.heap.size w (w.alloc (.cells #[.int .i64 ep, .slice A l.length c] 57)) := (by repeat' (first | exact Below.refl _ _ | refine Below.alloc ?_ ?_ _ | refine Below.setCell ?_ ?_ _ | refine Below.drew ?_ | (apply below_step; assumption) | (simp; done) | (simp; omega) | omega))
  refine (szInstZ_any _ l z _ (HV.out.below hX) hl h0 hz).mono ?_
  rintro e w1 ⟨⟨y, rfl, hy⟩, hb1⟩
  have hC1 := below_of hX hb1
  clear hX hb1
  rcases hy with rfl | ⟨y0, y1, y2⟩
  · go_wp2_with fail
    go_ret
    exact ⟨⟨-1, rfl, .inl rfl⟩, hC1⟩
  · have hle : decide (y < 0) = false := decide_eq_false (by omega)
    go_wp2_with fail
    go_ret
    exact ⟨⟨y, rfl, .inr ⟨y0, y1, y2⟩⟩, hC1⟩
set_option maxHeartbeats 3200000 in
theorem szWorld_any (t : WV) (s : WS) (z : Int) (w : World) (hw : WldQ w t s) (h0 : 0 ≤ z) (hz : z ≤ 1048576) :
    Calls Tryz.prog 16 #[.agg #[.int .i64 t.now, .int .i64 t.span, .int .i64 t.kind, .int .i64 t.limit, .int .i64 t.next, .int .i64 t.lease.c, .int .i64 t.lease.m, .int .i64 t.lease.p, s.ep, s.po, s.ta, s.no, s.bi, s.wa, s.en, .int .i64 t.seen, s.ins, s.ms], .int .i64 z] w fun e w' => (∃ y : Int, e = .returned (.int .i64 y) ∧ (y = -1 ∨ (0 ≤ y ∧ y ≤ 1048576 ∧ t.fits))) ∧ Below w.heap.size w w' := by
  have HW := Lib.hid hw
  obtain ⟨A0, A1, A2, A3, A4, A5, A6, A7, A8, c0, c1, c2, c3, c4, c5, c6, c7, c8, rfl⟩ := hw.form
  clear hw
  go_enter Tryz.func16, Tryz.ntmps16
  go_wp2_with fail
  have hX : Below w.heap.size w (w.alloc (.cells #[.int .i64 t.now, .int .i64 t.span, .int .i64 t.kind, .int .i64 t.limit, .int .i64 t.next, .int .i64 t.lease.c, .int .i64 t.lease.m, .int .i64 t.lease.p, .slice A0 t.epochs.length c0, .slice A1 t.pools.length c1, .slice A2 t.clu.tasks.length c2, .slice A3 t.clu.nodes.length c3, .slice A4 t.clu.binds.length c4, .slice A5 t.wants.length c5, .slice A6 t.ends.length c6, .int .i64 t.seen, .slice A7 t.insts.length c7, .slice A8 t.msgs.length c8] 60)) := (by repeat' (first | exact Below.refl _ _ | refine Below.alloc ?_ ?_ _ | refine Below.setCell ?_ ?_ _ | refine Below.drew ?_ | (apply below_step; assumption) | (simp; done) | (simp; omega) | omega))
  have HB := Lib.hid (BlockIs.new w 60 #[.int .i64 t.now, .int .i64 t.span, .int .i64 t.kind, .int .i64 t.limit, .int .i64 t.next, .int .i64 t.lease.c, .int .i64 t.lease.m, .int .i64 t.lease.p, .slice A0 t.epochs.length c0, .slice A1 t.pools.length c1, .slice A2 t.clu.tasks.length c2, .slice A3 t.clu.nodes.length c3, .slice A4 t.clu.binds.length c4, .slice A5 t.wants.length c5, .slice A6 t.ends.length c6, .int .i64 t.seen, .slice A7 t.insts.length c7, .slice A8 t.msgs.length c8])
  refine (szIntZ_any _ t.epochs z _ (HW.out.below hX).ep HW.out.lep h0 hz).mono ?_
  rintro e w1 ⟨⟨y1, rfl, hy⟩, hb1⟩
  have hC1 := below_of hX hb1
  have B := HB.out.below hb1 HB.out.lt
  have x9 := B.cell 9
  simp at x9
  have HB := Lib.hid B
  clear B hb1 hX
  rcases hy with rfl | ⟨lo1, hi1, s0⟩
  · go_wp2_with fail
    go_ret
    exact ⟨⟨-1, rfl, .inl rfl⟩, hC1⟩
  have hle1 : decide (y1 < 0) = false := decide_eq_false (by omega)
  have Hs0 := Lib.hid s0
  clear s0
  go_wp2_with fail
  refine (szPoolS_any _ t.pools y1 _ (HW.out.below hC1).po HW.out.lpo lo1 hi1).mono ?_
  rintro e w2 ⟨⟨y2, rfl, hy⟩, hb2⟩
  have hC2 := below_of hC1 hb2
  have B := HB.out.below hb2 HB.out.lt
  have x10 := B.cell 10
  have x11 := B.cell 11
  have x12 := B.cell 12
  simp at x10 x11 x12
  have HB := Lib.hid B
  clear B hb2
  rcases hy with rfl | ⟨lo2, hi2, s1, s2⟩
  · go_wp2_with fail
    go_ret
    exact ⟨⟨-1, rfl, .inl rfl⟩, hC2⟩
  have hle2 : decide (y2 < 0) = false := decide_eq_false (by omega)
  have Hs1 := Lib.hid s1
  clear s1
  have Hs2 := Lib.hid s2
  clear s2
  go_wp2_with fail
  refine (szCluster_any t.clu _ _ _ y2 _ (HW.out.below hC2).clu lo2 hi2).mono ?_
  rintro e w3 ⟨⟨y3, rfl, hy⟩, hb3⟩
  have hC3 := below_of hC2 hb3
  have B := HB.out.below hb3 HB.out.lt
  have x13 := B.cell 13
  simp at x13
  have HB := Lib.hid B
  clear B hb3
  rcases hy with rfl | ⟨lo3, hi3, s3⟩
  · go_wp2_with fail
    go_ret
    exact ⟨⟨-1, rfl, .inl rfl⟩, hC3⟩
  have hle3 : decide (y3 < 0) = false := decide_eq_false (by omega)
  have Hs3 := Lib.hid s3
  clear s3
  go_wp2_with fail
  refine (szWantS_any _ t.wants y3 _ (HW.out.below hC3).wa HW.out.lwa lo3 hi3).mono ?_
  rintro e w4 ⟨⟨y4, rfl, hy⟩, hb4⟩
  have hC4 := below_of hC3 hb4
  have B := HB.out.below hb4 HB.out.lt
  have x14 := B.cell 14
  simp at x14
  have HB := Lib.hid B
  clear B hb4
  rcases hy with rfl | ⟨lo4, hi4, s4⟩
  · go_wp2_with fail
    go_ret
    exact ⟨⟨-1, rfl, .inl rfl⟩, hC4⟩
  have hle4 : decide (y4 < 0) = false := decide_eq_false (by omega)
  have Hs4 := Lib.hid s4
  clear s4
  go_wp2_with fail
  refine (szIntZ_any _ t.ends y4 _ (HW.out.below hC4).en HW.out.len lo4 hi4).mono ?_
  rintro e w5 ⟨⟨y5, rfl, hy⟩, hb5⟩
  have hC5 := below_of hC4 hb5
  have B := HB.out.below hb5 HB.out.lt
  have x15 := B.cell 15
  have x16 := B.cell 16
  simp at x15 x16
  have HB := Lib.hid B
  clear B hb5
  rcases hy with rfl | ⟨lo5, hi5, s5⟩
  · go_wp2_with fail
    go_ret
    exact ⟨⟨-1, rfl, .inl rfl⟩, hC5⟩
  have hle5 : decide (y5 < 0) = false := decide_eq_false (by omega)
  have Hs5 := Lib.hid s5
  clear s5
  go_wp2_with fail
  refine (szProvZ_any t.seen _ t.insts y5 _ (HW.out.below hC5).ins HW.out.lin lo5 hi5).mono ?_
  rintro e w6 ⟨⟨y6, rfl, hy⟩, hb6⟩
  have hC6 := below_of hC5 hb6
  have B := HB.out.below hb6 HB.out.lt
  have x17 := B.cell 17
  simp at x17
  have HB := Lib.hid B
  clear B hb6
  rcases hy with rfl | ⟨lo6, hi6, s6⟩
  · go_wp2_with fail
    go_ret
    exact ⟨⟨-1, rfl, .inl rfl⟩, hC6⟩
  have hle6 : decide (y6 < 0) = false := decide_eq_false (by omega)
  have Hs6 := Lib.hid s6
  clear s6
  go_wp2_with fail
  refine (szMsgS_any _ t.msgs y6 _ (HW.out.below hC6).ms HW.out.lms lo6 hi6).mono ?_
  rintro e w7 ⟨⟨y7, rfl, hy⟩, hb7⟩
  have hC7 := below_of hC6 hb7
  have B := HB.out.below hb7 HB.out.lt
  have HB := Lib.hid B
  clear B hb7
  rcases hy with rfl | ⟨lo7, hi7, s7⟩
  · go_wp2_with fail
    go_ret
    exact ⟨⟨-1, rfl, .inl rfl⟩, hC7⟩
  have hle7 : decide (y7 < 0) = false := decide_eq_false (by omega)
  have Hs7 := Lib.hid s7
  clear s7
  go_wp2_with fail
  go_ret
  exact ⟨⟨y7, rfl, .inr ⟨lo7, hi7, ⟨Hs0.out, Hs1.out, Hs4.out, Hs5.out, Hs6.out, Hs7.out⟩, Hs3.out, Hs2.out⟩⟩, hC7⟩
set_option maxHeartbeats 6400000 in
theorem eqWorld_same (t : WV) (s u : WS) (w : World) (h : WldR w t s) (k : WldR w t u) :
    Calls Tryz.prog 11 #[.agg #[.int .i64 t.now, .int .i64 t.span, .int .i64 t.kind, .int .i64 t.limit, .int .i64 t.next, .int .i64 t.lease.c, .int .i64 t.lease.m, .int .i64 t.lease.p, s.ep, s.po, s.ta, s.no, s.bi, s.wa, s.en, .int .i64 t.seen, s.ins, s.ms], .agg #[.int .i64 t.now, .int .i64 t.span, .int .i64 t.kind, .int .i64 t.limit, .int .i64 t.next, .int .i64 t.lease.c, .int .i64 t.lease.m, .int .i64 t.lease.p, u.ep, u.po, u.ta, u.no, u.bi, u.wa, u.en, .int .i64 t.seen, u.ins, u.ms]] w fun e w' => e = .returned (.bool true) ∧ Below w.heap.size w w' := by
  have HA := Lib.hid h
  have HE := Lib.hid k
  have SM := Lib.hid h.small
  obtain ⟨A0, A1, A2, A3, A4, A5, A6, A7, A8, c0, c1, c2, c3, c4, c5, c6, c7, c8, rfl⟩ := h.form
  obtain ⟨E0, E1, E2, E3, E4, E5, E6, E7, E8, e0, e1, e2, e3, e4, e5, e6, e7, e8, rfl⟩ := k.form
  have n0 : (t.now != t.now) = false := by simp
  have n1 : (t.span != t.span) = false := by simp
  have n2 : (t.kind != t.kind) = false := by simp
  have n3 : (t.limit != t.limit) = false := by simp
  have n4 : (t.next != t.next) = false := by simp
  clear h k
  go_enter Tryz.func11, Tryz.ntmps11
  go_wp2_with fail
  have hX : Below w.heap.size w ((w.alloc (.cells #[.int .i64 t.now, .int .i64 t.span, .int .i64 t.kind, .int .i64 t.limit, .int .i64 t.next, .int .i64 t.lease.c, .int .i64 t.lease.m, .int .i64 t.lease.p, .slice A0 t.epochs.length c0, .slice A1 t.pools.length c1, .slice A2 t.clu.tasks.length c2, .slice A3 t.clu.nodes.length c3, .slice A4 t.clu.binds.length c4, .slice A5 t.wants.length c5, .slice A6 t.ends.length c6, .int .i64 t.seen, .slice A7 t.insts.length c7, .slice A8 t.msgs.length c8] 39)).alloc (.cells #[.int .i64 t.now, .int .i64 t.span, .int .i64 t.kind, .int .i64 t.limit, .int .i64 t.next, .int .i64 t.lease.c, .int .i64 t.lease.m, .int .i64 t.lease.p, .slice E0 t.epochs.length e0, .slice E1 t.pools.length e1, .slice E2 t.clu.tasks.length e2, .slice E3 t.clu.nodes.length e3, .slice E4 t.clu.binds.length e4, .slice E5 t.wants.length e5, .slice E6 t.ends.length e6, .int .i64 t.seen, .slice E7 t.insts.length e7, .slice E8 t.msgs.length e8] 39)) := (by repeat' (first | exact Below.refl _ _ | refine Below.alloc ?_ ?_ _ | refine Below.setCell ?_ ?_ _ | refine Below.drew ?_ | (apply below_step; assumption) | (simp; done) | (simp; omega) | omega))
  have HB0 := Lib.hid (BlockIs.alloc (BlockIs.new w 39 #[.int .i64 t.now, .int .i64 t.span, .int .i64 t.kind, .int .i64 t.limit, .int .i64 t.next, .int .i64 t.lease.c, .int .i64 t.lease.m, .int .i64 t.lease.p, .slice A0 t.epochs.length c0, .slice A1 t.pools.length c1, .slice A2 t.clu.tasks.length c2, .slice A3 t.clu.nodes.length c3, .slice A4 t.clu.binds.length c4, .slice A5 t.wants.length c5, .slice A6 t.ends.length c6, .int .i64 t.seen, .slice A7 t.insts.length c7, .slice A8 t.msgs.length c8]) (.cells #[.int .i64 t.now, .int .i64 t.span, .int .i64 t.kind, .int .i64 t.limit, .int .i64 t.next, .int .i64 t.lease.c, .int .i64 t.lease.m, .int .i64 t.lease.p, .slice E0 t.epochs.length e0, .slice E1 t.pools.length e1, .slice E2 t.clu.tasks.length e2, .slice E3 t.clu.nodes.length e3, .slice E4 t.clu.binds.length e4, .slice E5 t.wants.length e5, .slice E6 t.ends.length e6, .int .i64 t.seen, .slice E7 t.insts.length e7, .slice E8 t.msgs.length e8] 39))
  have HB1 := Lib.hid (BlockIs.new' (w := w.alloc (.cells #[.int .i64 t.now, .int .i64 t.span, .int .i64 t.kind, .int .i64 t.limit, .int .i64 t.next, .int .i64 t.lease.c, .int .i64 t.lease.m, .int .i64 t.lease.p, .slice A0 t.epochs.length c0, .slice A1 t.pools.length c1, .slice A2 t.clu.tasks.length c2, .slice A3 t.clu.nodes.length c3, .slice A4 t.clu.binds.length c4, .slice A5 t.wants.length c5, .slice A6 t.ends.length c6, .int .i64 t.seen, .slice A7 t.insts.length c7, .slice A8 t.msgs.length c8] 39)) (g := w.heap.size + 1) (t := 39) (cs := #[.int .i64 t.now, .int .i64 t.span, .int .i64 t.kind, .int .i64 t.limit, .int .i64 t.next, .int .i64 t.lease.c, .int .i64 t.lease.m, .int .i64 t.lease.p, .slice E0 t.epochs.length e0, .slice E1 t.pools.length e1, .slice E2 t.clu.tasks.length e2, .slice E3 t.clu.nodes.length e3, .slice E4 t.clu.binds.length e4, .slice E5 t.wants.length e5, .slice E6 t.ends.length e6, .int .i64 t.seen, .slice E7 t.insts.length e7, .slice E8 t.msgs.length e8]) (by simp))
  refine (eqLease_same t.lease _).mono ?_
  rintro e w1 ⟨rfl, hb1⟩
  have hC1 := below_of hX hb1
  have B0 := HB0.out.below hb1 HB0.out.lt
  have B1 := HB1.out.below hb1 HB1.out.lt
  have x8 := B0.cell 8
  have z8 := B1.cell 8
  simp at x8 z8
  have HB0 := Lib.hid B0
  have HB1 := Lib.hid B1
  clear B0 B1 hb1 hX
  go_wp2_with fail
  refine (eqIntS_same _ _ t.epochs _ (HA.out.below hC1).ep (HE.out.below hC1).ep SM.out.1).mono ?_
  rintro e w2 ⟨rfl, hb2⟩
  have hC2 := below_of hC1 hb2
  have B0 := HB0.out.below hb2 HB0.out.lt
  have B1 := HB1.out.below hb2 HB1.out.lt
  have x9 := B0.cell 9
  have z9 := B1.cell 9
  simp at x9 z9
  have HB0 := Lib.hid B0
  have HB1 := Lib.hid B1
  clear B0 B1 hb2
  go_wp2_with fail
  refine (eqPoolS_same _ _ t.pools _ (HA.out.below hC2).po (HE.out.below hC2).po SM.out.2.1).mono ?_
  rintro e w3 ⟨rfl, hb3⟩
  have hC3 := below_of hC2 hb3
  have B0 := HB0.out.below hb3 HB0.out.lt
  have B1 := HB1.out.below hb3 HB1.out.lt
  have x10 := B0.cell 10
  have z10 := B1.cell 10
  have x11 := B0.cell 11
  have z11 := B1.cell 11
  have x12 := B0.cell 12
  have z12 := B1.cell 12
  simp at x10 z10 x11 z11 x12 z12
  have HB0 := Lib.hid B0
  have HB1 := Lib.hid B1
  clear B0 B1 hb3
  go_wp2_with fail
  refine (eqCluster_same t.clu _ _ _ _ _ _ _ (HA.out.below hC3).clu (HE.out.below hC3).clu).mono ?_
  rintro e w4 ⟨rfl, hb4⟩
  have hC4 := below_of hC3 hb4
  have B0 := HB0.out.below hb4 HB0.out.lt
  have B1 := HB1.out.below hb4 HB1.out.lt
  have x13 := B0.cell 13
  have z13 := B1.cell 13
  simp at x13 z13
  have HB0 := Lib.hid B0
  have HB1 := Lib.hid B1
  clear B0 B1 hb4
  go_wp2_with fail
  refine (eqWantS_same _ _ t.wants _ (HA.out.below hC4).wa (HE.out.below hC4).wa SM.out.2.2.1).mono ?_
  rintro e w5 ⟨rfl, hb5⟩
  have hC5 := below_of hC4 hb5
  have B0 := HB0.out.below hb5 HB0.out.lt
  have B1 := HB1.out.below hb5 HB1.out.lt
  have x14 := B0.cell 14
  have z14 := B1.cell 14
  simp at x14 z14
  have HB0 := Lib.hid B0
  have HB1 := Lib.hid B1
  clear B0 B1 hb5
  go_wp2_with fail
  refine (eqIntS_same _ _ t.ends _ (HA.out.below hC5).en (HE.out.below hC5).en SM.out.2.2.2.1).mono ?_
  rintro e w6 ⟨rfl, hb6⟩
  have hC6 := below_of hC5 hb6
  have B0 := HB0.out.below hb6 HB0.out.lt
  have B1 := HB1.out.below hb6 HB1.out.lt
  have x15 := B0.cell 15
  have z15 := B1.cell 15
  have x16 := B0.cell 16
  have z16 := B1.cell 16
  simp at x15 z15 x16 z16
  have HB0 := Lib.hid B0
  have HB1 := Lib.hid B1
  clear B0 B1 hb6
  go_wp2_with fail
  refine (eqProv_same t.seen _ _ t.insts _ (HA.out.below hC6).ins (HE.out.below hC6).ins SM.out.2.2.2.2.1).mono ?_
  rintro e w7 ⟨rfl, hb7⟩
  have hC7 := below_of hC6 hb7
  have B0 := HB0.out.below hb7 HB0.out.lt
  have B1 := HB1.out.below hb7 HB1.out.lt
  have x17 := B0.cell 17
  have z17 := B1.cell 17
  simp at x17 z17
  have HB0 := Lib.hid B0
  have HB1 := Lib.hid B1
  clear B0 B1 hb7
  go_wp2_with fail
  refine (eqMsgS_same _ _ t.msgs _ (HA.out.below hC7).ms (HE.out.below hC7).ms SM.out.2.2.2.2.2).mono ?_
  rintro e w8 ⟨rfl, hb8⟩
  have hC8 := below_of hC7 hb8
  go_wp2_with fail
  go_ret
  exact ⟨rfl, hC8⟩
end Go.Proofs.YtcegofdmdemcbaaGreatDoor

namespace Go.Proofs.YtcegofdmdemcbaaGreatDoor
open Go.RowKit

def OwnsJ (w : World) (base : Nat) (v : Value) (l : List Int) : Prop := w.ownsRow base 3 1 v l.length (intL l)
section
variable {w w' : World} {base : Nat} {v : Value} {l : List Int}
theorem OwnsJ.alloc (h : OwnsJ w base v l) (o : Obj) : OwnsJ (w.alloc o) base v l := World.ownsRow.alloc h o
theorem OwnsJ.nil (w : World) (base : Nat) : OwnsJ w base (.slice none 0 0) [] := World.ownsRow_nil w base _ _
theorem OwnsJ.o (h : OwnsJ w base v l) : IntO w v l := by
  obtain ⟨h1, h2⟩ := h
  refine ⟨h1, ?_⟩
  rcases h2 with h | ⟨g, cap, cur, hv, hg, h⟩
  · exact .inl h
  · exact .inr ⟨g, cap, cur, hv, Nat.zero_le _, h⟩
theorem OwnsJ.below {B : Nat} (h : OwnsJ w base v l) (hb : Below B w w') (hB : w.heap.size ≤ B) : OwnsJ w' base v l := by
  obtain ⟨h1, h2⟩ := h
  refine ⟨h1, ?_⟩
  rcases h2 with h | ⟨g, cap, cur, hv, hg, hh, h⟩
  · exact .inl h
  · have hlt : g < w.heap.size := (Array.getElem?_eq_some_iff.1 hh).1
    exact .inr ⟨g, cap, cur, hv, hg, (hb.block g (by omega)).trans hh, h⟩
end
theorem intL_snoc (l : List Int) (r : Int) : intL (l ++ [r]) = intL l ++ [.int .i64 r] := by simp [intL]
theorem wpList_append_i {ops : Array Oper} {rest : List Oper} {o : Oper} {a : Act} {Q : Exit → Act → World → Prop} (w : World) (hgd : o.guard = none) (s x : Operand)
    (ho : o.op = .call { callee := .builtin .append, args := #[s, x], argTypes := #[26, 26] })
    (base : Nat) (v : Value) (l : List Int) (r : Int) (g : Nat) (hs : a.eval s = v) (hown : OwnsJ w base v l) (hx : a.eval x = .slice (some ⟨g, 0, none⟩) 1 1)
    (h0 : w.cell? ⟨g, 0, none⟩ = some (.int .i64 r)) (hl : l.length ≤ 2000000) (hbase : base ≤ w.heap.size)
    (h : ∀ v' w', OwnsJ w' base v' (l ++ [r]) → Below base w w' → wpList Tryz.prog ops Q rest (a.put o.dst v') w') : wpList Tryz.prog ops Q (o :: rest) a w := by
  obtain ⟨i0, hi0, hz0, hz1, hz2⟩ := info_parts Tryz.infoI
  refine wpList_append_own w hgd s x 26 ho base 3 i0 _ 1 8 Tryz.underlying26 hi0 hz0 hz1 hz2 rfl (by omega) v l.length (intL l) hs hown ⟨g, 0, none⟩ 1 1 [.int .i64 r] hx rfl ?_ ?_ (by simp only [maxLen]; omega) (by omega) hbase ?_
  · intro j u hj
    match j, hj with
    | 0, hj => simp at hj; subst hj; simpa [Addr.add] using h0
  · intro u hu
    simp at hu
    subst hu; rfl
  · intro v' w' hown' hgrow _
    refine h v' w' ?_ ((Below.refl _ _).grown hgrow hbase (fun k hk => (World.ownsRow.lt hown k hk).1))
    unfold OwnsJ
    rw [intL_snoc, List.length_append]
    exact hown'
end Go.Proofs.YtcegofdmdemcbaaGreatDoor
