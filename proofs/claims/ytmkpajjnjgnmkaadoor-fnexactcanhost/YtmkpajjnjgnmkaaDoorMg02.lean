/- Words for memory that every seat shares: what a call that makes memory leaves; a block that is known whole. Words for lists. Labels in plain Lean: what chapter 2's functions compute. The contracts of chapter 2's helpers: markInRange, labInRange, with. The contracts of marks.with and marks.hasAll. The contract of marks.hasAll. Slices of labels; the contract of readLabs. What this seat's rows share: the closed facts; a slice of labels, a slice of integers, a label, opened. The laws' helpers over slices of labels: toLab, toLabS, eqLab, eqLabS, szLabS. Slices of integers: toIntS, eqIntS; taints as labels with the Val 0. A slice of integers, opened. Amounts in plain Lean: what chapter 1's functions compute. Tasks, nodes, bindings and clusters in plain Lean: what chapter 3's functions compute. Tasks and nodes as arguments, opened. errors.Is at what this program hands it: nil, and a fieldError that wraps the sentinel itself. The contracts of chapter 1's functions: checkRes, checkBoth, outOfRange, keepValid. What this seat's rows share: the closed facts, the sentinel's cell out of 'laid', a world for the witness. The contracts of the model's ResOk, ResAdd, ResSub, ResFits, and of the laws' toRes, eqRes. The laws' helpers over tasks and nodes: szTask, toTask, eqTask, szNode, toNode, eqNode. The contracts of chapter 1's functions: outOfRange, checkBoth, keepValid, ResOk, ResAdd, ResSub, ResFits. The contracts of ResOk, ResAdd, ResSub, ResFits. append of a label to a slice of the call's own; the contract of marks.labs. The contracts of LabsOk, LabsGet, LabsMatch. The contracts of readTaints, TaintsOk, Tolerates. The contracts of idOk, TaskOk, NodeOk, CanHost. The contracts of the model's LabsOk, LabsGet, LabsMatch. The contracts of the model's LabsGet and LabsMatch. The contracts of the model's TaintsOk, l02In, Tolerates. The contracts of the model's TaskOk, NodeOk, CanHost. -/
import Derived.WalkKit
import Derived.Deep.DeepCutAuto
import Derived.Lib.Hide
import Derived.Laws.MakeOwn
import Derived.Deep.QuietTactic
import Derived.BigQuiet
import Derived.WalkSmall
import Derived.Test.YtmkpajjnjgnmkaaDoorChecked
import Derived.DeepKeys
import Derived.Laws.StructEq
import Derived.Test.YtmkpajjnjgnmkaaDoorRowBase
import Derived.Deep.Slices
import Derived.Deep.Fields
import Derived.ChangeSame
import Derived.Deep.RegionHeld3
import Derived.Deep.Strs
import Derived.LaidEql
import Derived.Stop.Asserts
import Derived.RowKitTokens
import Derived.Outline
import Derived.Test.YtmkpajjnjgnmkaaDoorCards
import Derived.Test.YtmkpajjnjgnmkaaDoorTie
import Derived.Deep.AppendLies
import Derived.OwnWalk
import Derived.Laws.OwnMore
import Derived.IntWalk
namespace Go.Proofs.YtmkpajjnjgnmkaaDoor
open Go.RowKit

theorem bcell {W w1 : World} (hb : Below W.heap.size W w1) : (∀ b o, b < W.heap.size → w1.cell? ⟨b, o, none⟩ = W.cell? ⟨b, o, none⟩) ∧ (∀ b o, b < W.heap.size → w1.frozen? ⟨b, o, none⟩ = W.frozen? ⟨b, o, none⟩) :=
  ⟨fun b o h => hb.cell (p := ⟨b, o, none⟩) h, fun b o h => hb.frozen (p := ⟨b, o, none⟩) h⟩
theorem below_step {B C : Nat} {a w w1 : World} (hb : Below C w w1) (h : Below B a w) (hBC : B ≤ C) : Below B a w1 := h.trans (hb.mono hBC)
theorem below_of {a w w1 : World} (h : Below a.heap.size a w) (hb : Below w.heap.size w w1) : Below a.heap.size a w1 := h.trans (hb.mono h.size)
theorem below_drewN {B : Nat} {a w : World} (h : Below B a w) (n : Nat) : Below B a (w.drewN n) := h.trans ⟨rfl, rfl, rfl, Nat.le_refl _, fun _ _ => rfl⟩
def BlockIs (w : World) (g : Nat) (t : TypeId) (cs : Array Value) : Prop := w.heap[g]? = some (.cells cs t (0, 0))
section
variable {w w' : World} {g : Nat} {t : TypeId} {cs : Array Value}
theorem BlockIs.lt (h : BlockIs w g t cs) : g < w.heap.size := by
  rcases Nat.lt_or_ge g w.heap.size with h' | h'
  · exact h'
  · unfold BlockIs at h; rw [Array.getElem?_eq_none h'] at h; cases h
theorem BlockIs.cell (h : BlockIs w g t cs) (o : Nat) : w.cell? ⟨g, o, none⟩ = cs[o]? := by
  unfold BlockIs at h; simp [World.cell?, h]
theorem BlockIs.frozen (h : BlockIs w g t cs) (o : Nat) : w.frozen? ⟨g, o, none⟩ = false := by
  unfold BlockIs at h; simp [World.frozen?, h]
theorem BlockIs.new (w : World) (t : TypeId) (cs : Array Value) : BlockIs (w.alloc (.cells cs t)) w.heap.size t cs := by
  show (w.heap.push _)[w.heap.size]? = _
  simp
theorem BlockIs.new' {w : World} {g : Nat} {t : TypeId} {cs : Array Value} (h : g = w.heap.size) : BlockIs (w.alloc (.cells cs t)) g t cs := h ▸ BlockIs.new w t cs
theorem BlockIs.below {B : Nat} (h : BlockIs w g t cs) (hb : Below B w w') (hg : g < B) : BlockIs w' g t cs := (hb.block g hg).trans h
theorem BlockIs.alloc (h : BlockIs w g t cs) (o : Obj) : BlockIs (w.alloc o) g t cs := h.below ((Below.refl _ _).alloc (Nat.le_refl _) o) h.lt
theorem BlockIs.put (h : BlockIs w g t cs) (o : Nat) (u : Value) : BlockIs (w.setCell ⟨g, o, none⟩ u) g t (cs.setIfInBounds o u) := by
  unfold BlockIs at h ⊢
  simp [World.setCell, Array.getElem?_modify, h]
theorem BlockIs.far (h : BlockIs w g t cs) {p : Addr} (hp : g ≠ p.block) (u : Value) : BlockIs (w.setCell p u) g t cs := (Below.heap_setCell w p u g hp).trans h
theorem BlockIs.drew (h : BlockIs w g t cs) : BlockIs w.drew g t cs := h
theorem BlockIs.drewN (h : BlockIs w g t cs) (k : Nat) : BlockIs (w.drewN k) g t cs := h
end
end Go.Proofs.YtmkpajjnjgnmkaaDoor

namespace Go.Proofs.YtmkpajjnjgnmkaaDoor
theorem drop_at {α : Type} {l : List α} {k : Nat} {r : α} (h : l[k]? = some r) : l.drop k = r :: l.drop (k + 1) := by
  obtain ⟨hk, rfl⟩ := List.getElem?_eq_some_iff.1 h
  exact List.drop_eq_getElem_cons hk
end Go.Proofs.YtmkpajjnjgnmkaaDoor

namespace Go.Proofs.YtmkpajjnjgnmkaaDoor

structure LV where
  k : Int
  v : Int
def LV.ok (l : LV) : Bool := decide (0 ≤ l.k ∧ l.k ≤ 9 ∧ 0 ≤ l.v ∧ l.v ≤ 9)
theorem LV.ok_iff {l : LV} : l.ok = true ↔ (0 ≤ l.k ∧ l.k ≤ 9 ∧ 0 ≤ l.v ∧ l.v ≤ 9) := by
  unfold LV.ok; exact decide_eq_true_iff
theorem LV.bad_iff {l : LV} : l.ok = false ↔ ¬ (0 ≤ l.k ∧ l.k ≤ 9 ∧ 0 ≤ l.v ∧ l.v ≤ 9) := by
  unfold LV.ok; exact decide_eq_false_iff_not

def labsFrom : Int → List LV → Bool
  | _, [] => true
  | p, l :: r => (l.ok && decide (p < l.k)) && labsFrom l.k r
theorem labsFrom_yes {p : Int} {l : LV} {r : List LV} (h : l.ok = true) (hp : p < l.k) : labsFrom p (l :: r) = labsFrom l.k r := by
  simp [labsFrom, h, hp]
theorem labsFrom_bad {p : Int} {l : LV} {r : List LV} (h : l.ok = false) : labsFrom p (l :: r) = false := by
  simp [labsFrom, h]
theorem labsFrom_low {p : Int} {l : LV} {r : List LV} (h : l.k ≤ p) : labsFrom p (l :: r) = false := by
  have : ¬ p < l.k := by omega
  simp [labsFrom, this]
def labsOk (l : List LV) : Bool := decide (l.length ≤ 6) && labsFrom (-1) l
theorem labsOk_short {l : List LV} (h : l.length ≤ 6) : labsOk l = labsFrom (-1) l := by simp [labsOk, h]
theorem labsOk_long {l : List LV} (h : 6 < l.length) : labsOk l = false := by
  have : ¬ l.length ≤ 6 := by omega
  simp [labsOk, this]

def mzero : Nat → Int := fun _ => 0
def mwith (m : Nat → Int) (l : LV) : Nat → Int := fun i => if (i : Int) = l.k then l.v + 1 else m i
def marksOf : (Nat → Int) → List LV → (Nat → Int)
  | m, [] => m
  | m, l :: r => marksOf (mwith m l) r
def readOf (l : List LV) : Nat → Int := if labsOk l then marksOf mzero l else mzero

def findK : List LV → Int → Int × Bool
  | [], _ => (0, false)
  | l :: r, k => if l.k = k then (l.v, true) else findK r k
def getOf (l : List LV) (k : Int) : Int × Bool := if labsOk l then findK l k else (0, false)
def hasAllOf (a : List LV) : List LV → Bool
  | [] => true
  | x :: r => (findK a x.k).2 && decide ((findK a x.k).1 = x.v) && hasAllOf a r
def matchOf (a b : List LV) : Bool := labsOk a && labsOk b && hasAllOf a b
theorem findK_hit {x : LV} {r : List LV} {k : Int} (h : x.k = k) : findK (x :: r) k = (x.v, true) := by simp [findK, h]
theorem findK_miss {x : LV} {r : List LV} {k : Int} (h : x.k ≠ k) : findK (x :: r) k = findK r k := by simp [findK, h]
theorem findK_above {p : Int} {l : List LV} (h : labsFrom p l = true) {k : Int} (hk : k ≤ p) : findK l k = (0, false) := by
  induction l generalizing p with
  | nil => rfl
  | cons x r ih =>
    simp only [labsFrom, Bool.and_eq_true, decide_eq_true_eq] at h
    have hne : ¬ x.k = k := by omega
    simp only [findK, if_neg hne]
    exact ih h.2 (by omega)
theorem findK_val {p : Int} {l : List LV} (h : labsFrom p l = true) {k : Int} : 0 ≤ (findK l k).1 ∧ (findK l k).1 ≤ 9 := by
  induction l generalizing p with
  | nil => simp [findK]
  | cons x r ih =>
    simp only [labsFrom, Bool.and_eq_true, decide_eq_true_eq] at h
    have := LV.ok_iff.1 h.1.1
    unfold findK
    split
    · exact ⟨this.2.2.1, this.2.2.2⟩
    · exact ih h.2
theorem marksOf_at {p : Int} {l : List LV} (h : labsFrom p l = true) (m : Nat → Int) (i : Nat) :
    marksOf m l i = if (findK l i).2 then (findK l i).1 + 1 else m i := by
  induction l generalizing p m with
  | nil => simp [marksOf, findK]
  | cons x r ih =>
    simp only [labsFrom, Bool.and_eq_true, decide_eq_true_eq] at h
    rw [marksOf, ih h.2]
    by_cases e : x.k = (i : Int)
    · rw [findK_above h.2 (k := (i : Int)) (by omega)]
      simp [mwith, findK, e]
    · have e' : ¬ (i : Int) = x.k := fun h => e h.symm
      simp [mwith, findK, e, e']
theorem mark_at {l : List LV} (h : labsFrom (-1) l = true) (i : Nat) : marksOf mzero l i = if (findK l i).2 then (findK l i).1 + 1 else 0 := marksOf_at h _ _
def tl (t : List Int) : List LV := t.map fun z => ⟨z, 0⟩
theorem tl_len (t : List Int) : (tl t).length = t.length := by simp [tl]
theorem tl_take {t : List Int} {k : Nat} {z : Int} (h : t[k]? = some z) : tl (t.take (k + 1)) = tl (t.take k) ++ [⟨z, 0⟩] := by
  obtain ⟨hk, rfl⟩ := List.getElem?_eq_some_iff.1 h
  unfold tl
  rw [List.take_succ_eq_append_getElem hk, List.map_append]; rfl
def tolOf (a b : List Int) : Bool := matchOf (tl b) (tl a)
end Go.Proofs.YtmkpajjnjgnmkaaDoor

namespace Go.Proofs.YtmkpajjnjgnmkaaDoor
open Go.RowKit

theorem markInRange_yes (n : Int) (w : World) (h1 : 0 ≤ n) (h2 : n ≤ 9) :
    Calls Tryd.prog 54 #[.int .i64 n] w fun e w' => e = .returned (.bool true) ∧ w = w' := by
  have h3 : n < 10 := by omega
  go_enter Tryd.func54, Tryd.ntmps54
  go_wp2
  go_ret
  exact ⟨by simp, rfl⟩
theorem markInRange_no (n : Int) (w : World) (h : ¬ (0 ≤ n ∧ n ≤ 9)) :
    Calls Tryd.prog 54 #[.int .i64 n] w fun e w' => e = .returned (.bool false) ∧ w = w' := by
  by_cases h1 : 0 ≤ n
  · have h2 : 10 ≤ n := by omega
    clear h
    go_enter Tryd.func54, Tryd.ntmps54
    go_wp2
    go_ret
    exact ⟨by simp; omega, rfl⟩
  · have h2 : n < 0 := by omega
    clear h h1
    go_enter Tryd.func54, Tryd.ntmps54
    go_wp2
    go_ret
    exact ⟨by simp, rfl⟩

theorem labInRange_yes (l : LV) (w : World) (h : l.ok = true) :
    Calls Tryd.prog 50 #[.agg #[.int .i64 l.k, .int .i64 l.v]] w fun e w' => e = .returned (.bool true) ∧ Below w.heap.size w w' := by
  have H := Lib.hid (LV.ok_iff.1 h)
  clear h
  go_enter Tryd.func50, Tryd.ntmps50
  go_wp2_with fail
  refine (markInRange_yes l.k _ H.out.1 H.out.2.1).mono ?_
  rintro e w1 ⟨rfl, rfl⟩
  go_wp2_with fail
  refine (markInRange_yes l.v _ H.out.2.2.1 H.out.2.2.2).mono ?_
  rintro e w1 ⟨rfl, rfl⟩
  go_wp2_with fail
  go_ret
  exact ⟨rfl, (by repeat' (first | exact Below.refl _ _ | refine Below.alloc ?_ ?_ _ | refine Below.setCell ?_ ?_ _ | refine Below.drew ?_ | (apply below_step; assumption) | (simp; done) | (simp; omega) | omega))⟩
theorem labInRange_no (l : LV) (w : World) (h : l.ok = false) :
    Calls Tryd.prog 50 #[.agg #[.int .i64 l.k, .int .i64 l.v]] w fun e w' => e = .returned (.bool false) ∧ Below w.heap.size w w' := by
  have h0 := LV.bad_iff.1 h
  clear h
  by_cases hk : 0 ≤ l.k ∧ l.k ≤ 9
  · have H := Lib.hid (show ¬ (0 ≤ l.v ∧ l.v ≤ 9) by omega)
    have HK := Lib.hid hk
    clear h0 hk
    go_enter Tryd.func50, Tryd.ntmps50
    go_wp2_with fail
    refine (markInRange_yes l.k _ HK.out.1 HK.out.2).mono ?_
    rintro e w1 ⟨rfl, rfl⟩
    go_wp2_with fail
    refine (markInRange_no l.v _ H.out).mono ?_
    rintro e w1 ⟨rfl, rfl⟩
    go_wp2_with fail
    go_ret
    exact ⟨rfl, (by repeat' (first | exact Below.refl _ _ | refine Below.alloc ?_ ?_ _ | refine Below.setCell ?_ ?_ _ | refine Below.drew ?_ | (apply below_step; assumption) | (simp; done) | (simp; omega) | omega))⟩
  · have HK := Lib.hid hk
    clear h0 hk
    go_enter Tryd.func50, Tryd.ntmps50
    go_wp2_with fail
    refine (markInRange_no l.k _ HK.out).mono ?_
    rintro e w1 ⟨rfl, rfl⟩
    go_wp2_with fail
    go_ret
    exact ⟨rfl, (by repeat' (first | exact Below.refl _ _ | refine Below.alloc ?_ ?_ _ | refine Below.setCell ?_ ?_ _ | refine Below.drew ?_ | (apply below_step; assumption) | (simp; done) | (simp; omega) | omega))⟩

theorem Tryd.mix0 (p : Nat → Int) (w : World) : (Instr.index 71 (.agg #[.int .i64 (p 0), .int .i64 (p 1), .int .i64 (p 2), .int .i64 (p 3), .int .i64 (p 4), .int .i64 (p 5), .int .i64 (p 6), .int .i64 (p 7), .int .i64 (p 8), .int .i64 (p 9)]) (.int .i64 0)).run Tryd.prog w = .ok (.int .i64 (p 0)) w := by kernel_rfl
theorem Tryd.mix1 (p : Nat → Int) (w : World) : (Instr.index 71 (.agg #[.int .i64 (p 0), .int .i64 (p 1), .int .i64 (p 2), .int .i64 (p 3), .int .i64 (p 4), .int .i64 (p 5), .int .i64 (p 6), .int .i64 (p 7), .int .i64 (p 8), .int .i64 (p 9)]) (.int .i64 1)).run Tryd.prog w = .ok (.int .i64 (p 1)) w := by kernel_rfl
theorem Tryd.mix2 (p : Nat → Int) (w : World) : (Instr.index 71 (.agg #[.int .i64 (p 0), .int .i64 (p 1), .int .i64 (p 2), .int .i64 (p 3), .int .i64 (p 4), .int .i64 (p 5), .int .i64 (p 6), .int .i64 (p 7), .int .i64 (p 8), .int .i64 (p 9)]) (.int .i64 2)).run Tryd.prog w = .ok (.int .i64 (p 2)) w := by kernel_rfl
theorem Tryd.mix3 (p : Nat → Int) (w : World) : (Instr.index 71 (.agg #[.int .i64 (p 0), .int .i64 (p 1), .int .i64 (p 2), .int .i64 (p 3), .int .i64 (p 4), .int .i64 (p 5), .int .i64 (p 6), .int .i64 (p 7), .int .i64 (p 8), .int .i64 (p 9)]) (.int .i64 3)).run Tryd.prog w = .ok (.int .i64 (p 3)) w := by kernel_rfl
theorem Tryd.mix4 (p : Nat → Int) (w : World) : (Instr.index 71 (.agg #[.int .i64 (p 0), .int .i64 (p 1), .int .i64 (p 2), .int .i64 (p 3), .int .i64 (p 4), .int .i64 (p 5), .int .i64 (p 6), .int .i64 (p 7), .int .i64 (p 8), .int .i64 (p 9)]) (.int .i64 4)).run Tryd.prog w = .ok (.int .i64 (p 4)) w := by kernel_rfl
theorem Tryd.mix5 (p : Nat → Int) (w : World) : (Instr.index 71 (.agg #[.int .i64 (p 0), .int .i64 (p 1), .int .i64 (p 2), .int .i64 (p 3), .int .i64 (p 4), .int .i64 (p 5), .int .i64 (p 6), .int .i64 (p 7), .int .i64 (p 8), .int .i64 (p 9)]) (.int .i64 5)).run Tryd.prog w = .ok (.int .i64 (p 5)) w := by kernel_rfl
theorem Tryd.mix6 (p : Nat → Int) (w : World) : (Instr.index 71 (.agg #[.int .i64 (p 0), .int .i64 (p 1), .int .i64 (p 2), .int .i64 (p 3), .int .i64 (p 4), .int .i64 (p 5), .int .i64 (p 6), .int .i64 (p 7), .int .i64 (p 8), .int .i64 (p 9)]) (.int .i64 6)).run Tryd.prog w = .ok (.int .i64 (p 6)) w := by kernel_rfl
theorem Tryd.mix7 (p : Nat → Int) (w : World) : (Instr.index 71 (.agg #[.int .i64 (p 0), .int .i64 (p 1), .int .i64 (p 2), .int .i64 (p 3), .int .i64 (p 4), .int .i64 (p 5), .int .i64 (p 6), .int .i64 (p 7), .int .i64 (p 8), .int .i64 (p 9)]) (.int .i64 7)).run Tryd.prog w = .ok (.int .i64 (p 7)) w := by kernel_rfl
theorem Tryd.mix8 (p : Nat → Int) (w : World) : (Instr.index 71 (.agg #[.int .i64 (p 0), .int .i64 (p 1), .int .i64 (p 2), .int .i64 (p 3), .int .i64 (p 4), .int .i64 (p 5), .int .i64 (p 6), .int .i64 (p 7), .int .i64 (p 8), .int .i64 (p 9)]) (.int .i64 8)).run Tryd.prog w = .ok (.int .i64 (p 8)) w := by kernel_rfl
theorem Tryd.mix9 (p : Nat → Int) (w : World) : (Instr.index 71 (.agg #[.int .i64 (p 0), .int .i64 (p 1), .int .i64 (p 2), .int .i64 (p 3), .int .i64 (p 4), .int .i64 (p 5), .int .i64 (p 6), .int .i64 (p 7), .int .i64 (p 8), .int .i64 (p 9)]) (.int .i64 9)).run Tryd.prog w = .ok (.int .i64 (p 9)) w := by kernel_rfl
theorem Tryd.mix (p : Nat → Int) (k : Nat) (hk : k < 10) (w : World) : (Instr.index 71 (.agg #[.int .i64 (p 0), .int .i64 (p 1), .int .i64 (p 2), .int .i64 (p 3), .int .i64 (p 4), .int .i64 (p 5), .int .i64 (p 6), .int .i64 (p 7), .int .i64 (p 8), .int .i64 (p 9)]) (.int .i64 (k : Int))).run Tryd.prog w = .ok (.int .i64 (p k)) w := by
  match k, hk with
  | 0, _ => exact Tryd.mix0 p w
  | 1, _ => exact Tryd.mix1 p w
  | 2, _ => exact Tryd.mix2 p w
  | 3, _ => exact Tryd.mix3 p w
  | 4, _ => exact Tryd.mix4 p w
  | 5, _ => exact Tryd.mix5 p w
  | 6, _ => exact Tryd.mix6 p w
  | 7, _ => exact Tryd.mix7 p w
  | 8, _ => exact Tryd.mix8 p w
  | 9, _ => exact Tryd.mix9 p w
theorem mcell (m : Nat → Int) (k : Nat) (hk : k < 10) : (#[.int .i64 (m 0), .int .i64 (m 1), .int .i64 (m 2), .int .i64 (m 3), .int .i64 (m 4), .int .i64 (m 5), .int .i64 (m 6), .int .i64 (m 7), .int .i64 (m 8), .int .i64 (m 9)] : Array Value)[k]? = some (.int .i64 (m k)) := by
  match k, hk with
  | 0, _ => rfl
  | 1, _ => rfl
  | 2, _ => rfl
  | 3, _ => rfl
  | 4, _ => rfl
  | 5, _ => rfl
  | 6, _ => rfl
  | 7, _ => rfl
  | 8, _ => rfl
  | 9, _ => rfl
end Go.Proofs.YtmkpajjnjgnmkaaDoor

namespace Go.Proofs.YtmkpajjnjgnmkaaDoor
open Go.RowKit

set_option maxHeartbeats 1600000 in
theorem with_any (m : Nat → Int) (l : LV) (w : World) (h : l.ok = true) :
    Calls Tryd.prog 51 #[.agg #[.int .i64 (m 0), .int .i64 (m 1), .int .i64 (m 2), .int .i64 (m 3), .int .i64 (m 4), .int .i64 (m 5), .int .i64 (m 6), .int .i64 (m 7), .int .i64 (m 8), .int .i64 (m 9)], .agg #[.int .i64 l.k, .int .i64 l.v]] w fun e w' => e = .returned (.agg #[.int .i64 (mwith m l 0), .int .i64 (mwith m l 1), .int .i64 (mwith m l 2), .int .i64 (mwith m l 3), .int .i64 (mwith m l 4), .int .i64 (mwith m l 5), .int .i64 (mwith m l 6), .int .i64 (mwith m l 7), .int .i64 (mwith m l 8), .int .i64 (mwith m l 9)]) ∧ Below w.heap.size w w' := by
  obtain ⟨k0, k9, v0, v9⟩ := LV.ok_iff.1 h
  clear h
  obtain ⟨kk, vv⟩ := l
  simp only at k0 k9 v0 v9
  rcases (show kk = 0 ∨ kk = 1 ∨ kk = 2 ∨ kk = 3 ∨ kk = 4 ∨ kk = 5 ∨ kk = 6 ∨ kk = 7 ∨ kk = 8 ∨ kk = 9 by omega) with rfl | rfl | rfl | rfl | rfl | rfl | rfl | rfl | rfl | rfl
  all_goals
    clear k0 k9
    go_enter Tryd.func51, Tryd.ntmps51
    go_wp2_with fail
    refine bodyPost_ret (v := .agg #[.int .i64 (mwith m ⟨_, vv⟩ 0), .int .i64 (mwith m ⟨_, vv⟩ 1), .int .i64 (mwith m ⟨_, vv⟩ 2), .int .i64 (mwith m ⟨_, vv⟩ 3), .int .i64 (mwith m ⟨_, vv⟩ 4), .int .i64 (mwith m ⟨_, vv⟩ 5), .int .i64 (mwith m ⟨_, vv⟩ 6), .int .i64 (mwith m ⟨_, vv⟩ 7), .int .i64 (mwith m ⟨_, vv⟩ 8), .int .i64 (mwith m ⟨_, vv⟩ 9)]) (by simp [results, Tryd.results51, go_sem, mwith]) rfl ⟨rfl, ?_⟩
    exact (by repeat' (first | exact Below.refl _ _ | refine Below.alloc ?_ ?_ _ | refine Below.setCell ?_ ?_ _ | refine Below.drew ?_ | (apply below_step; assumption) | (simp; done) | (simp; omega) | omega))

theorem Tryd.infoInt : ∃ i, Tryd.prog.info? 3 = some i := ⟨_, (Option.eq_some_of_isSome (show (Tryd.prog.info? 3).isSome = true by kernel_rfl))⟩
theorem Tryd.cellsInt : Tryd.prog.cellsOf 3 = 1 := by kernel_rfl
theorem part_int (xs : Array Value) (off : Nat) (v : Value) (h : xs[off]? = some v) (w : World) : (part 3 xs off).run Tryd.prog w = .ok v w := by
  have : (isAgg 3).run Tryd.prog w = .ok false w := by kernel_rfl
  simp [part, this, h]
def eqMarks (a b : Nat → Int) : Bool := (List.range 10).all fun i => a i == b i
theorem equal_marks (a b : Nat → Int) (w : World) : (Op.equalIn 10000 71 (.agg #[.int .i64 (a 0), .int .i64 (a 1), .int .i64 (a 2), .int .i64 (a 3), .int .i64 (a 4), .int .i64 (a 5), .int .i64 (a 6), .int .i64 (a 7), .int .i64 (a 8), .int .i64 (a 9)]) (.agg #[.int .i64 (b 0), .int .i64 (b 1), .int .i64 (b 2), .int .i64 (b 3), .int .i64 (b 4), .int .i64 (b 5), .int .i64 (b 6), .int .i64 (b 7), .int .i64 (b 8), .int .i64 (b 9)])).run Tryd.prog w = .ok (eqMarks a b) w := by
  obtain ⟨i, hi⟩ := Tryd.infoInt
  rw [run_equalIn_array w 9999 _ _ Tryd.underlying71 hi, Tryd.cellsInt]
  have : ∀ is : List Nat, (∀ i ∈ is, i < 10) → (Op.eqItems 9999 3 1 #[.int .i64 (a 0), .int .i64 (a 1), .int .i64 (a 2), .int .i64 (a 3), .int .i64 (a 4), .int .i64 (a 5), .int .i64 (a 6), .int .i64 (a 7), .int .i64 (a 8), .int .i64 (a 9)] #[.int .i64 (b 0), .int .i64 (b 1), .int .i64 (b 2), .int .i64 (b 3), .int .i64 (b 4), .int .i64 (b 5), .int .i64 (b 6), .int .i64 (b 7), .int .i64 (b 8), .int .i64 (b 9)] is).run Tryd.prog w = .ok (is.all fun i => a i == b i) w := by
    intro is
    induction is with
    | nil => intro _; simp [Op.eqItems]
    | cons x r ih =>
      intro h
      have hx := h x (by simp)
      have e1 := part_int #[.int .i64 (a 0), .int .i64 (a 1), .int .i64 (a 2), .int .i64 (a 3), .int .i64 (a 4), .int .i64 (a 5), .int .i64 (a 6), .int .i64 (a 7), .int .i64 (a 8), .int .i64 (a 9)] x _ (mcell a x hx) w
      have e2 := part_int #[.int .i64 (b 0), .int .i64 (b 1), .int .i64 (b 2), .int .i64 (b 3), .int .i64 (b 4), .int .i64 (b 5), .int .i64 (b 6), .int .i64 (b 7), .int .i64 (b 8), .int .i64 (b 9)] x _ (mcell b x hx) w
      have e3 := run_equalIn_int (P := Tryd.prog) w 9998 3 .i64 .i64 (a x) (b x) Tryd.underlying3
      simp only [Op.eqItems, Nat.mul_one, Sem.run_bind, e1, e2, e3, Result.andThen_ok, List.all_cons]
      cases a x == b x
      · simp
      · simpa using ih (fun i hi => h i (by simp [hi]))
  exact this (List.range 10) (by simp)
theorem eql_marks (a b : Nat → Int) (w : World) : (binOp .eql 71 (.agg #[.int .i64 (a 0), .int .i64 (a 1), .int .i64 (a 2), .int .i64 (a 3), .int .i64 (a 4), .int .i64 (a 5), .int .i64 (a 6), .int .i64 (a 7), .int .i64 (a 8), .int .i64 (a 9)]) (.agg #[.int .i64 (b 0), .int .i64 (b 1), .int .i64 (b 2), .int .i64 (b 3), .int .i64 (b 4), .int .i64 (b 5), .int .i64 (b 6), .int .i64 (b 7), .int .i64 (b 8), .int .i64 (b 9)])).run Tryd.prog w = .ok (.bool (eqMarks a b)) w := by
  rw [run_eql_struct, equal_marks]; rfl
theorem guard_marks (a b : Array Value) (x y : Operand) (w : World) : (eqGuard .eql 71 x y (.agg a) (.agg b)).run Tryd.prog w = .ok () w := run_eqGuard_agg w .eql _ x y a b (by kernel_rfl)
end Go.Proofs.YtmkpajjnjgnmkaaDoor

namespace Go.Proofs.YtmkpajjnjgnmkaaDoor
open Go.RowKit

theorem put10 {w : World} {g : Nat} {t : TypeId} {m : Nat → Int} (m' : Nat → Int) (h : BlockIs w g t #[.int .i64 (m 0), .int .i64 (m 1), .int .i64 (m 2), .int .i64 (m 3), .int .i64 (m 4), .int .i64 (m 5), .int .i64 (m 6), .int .i64 (m 7), .int .i64 (m 8), .int .i64 (m 9)]) : BlockIs ((((((((((w.setCell ⟨g, 0, none⟩ (.int .i64 (m' 0))).setCell ⟨g, 1, none⟩ (.int .i64 (m' 1))).setCell ⟨g, 2, none⟩ (.int .i64 (m' 2))).setCell ⟨g, 3, none⟩ (.int .i64 (m' 3))).setCell ⟨g, 4, none⟩ (.int .i64 (m' 4))).setCell ⟨g, 5, none⟩ (.int .i64 (m' 5))).setCell ⟨g, 6, none⟩ (.int .i64 (m' 6))).setCell ⟨g, 7, none⟩ (.int .i64 (m' 7))).setCell ⟨g, 8, none⟩ (.int .i64 (m' 8))).setCell ⟨g, 9, none⟩ (.int .i64 (m' 9))) g t #[.int .i64 (m' 0), .int .i64 (m' 1), .int .i64 (m' 2), .int .i64 (m' 3), .int .i64 (m' 4), .int .i64 (m' 5), .int .i64 (m' 6), .int .i64 (m' 7), .int .i64 (m' 8), .int .i64 (m' 9)] := by
  have := (((((((((h.put 0 (.int .i64 (m' 0))).put 1 (.int .i64 (m' 1))).put 2 (.int .i64 (m' 2))).put 3 (.int .i64 (m' 3))).put 4 (.int .i64 (m' 4))).put 5 (.int .i64 (m' 5))).put 6 (.int .i64 (m' 6))).put 7 (.int .i64 (m' 7))).put 8 (.int .i64 (m' 8))).put 9 (.int .i64 (m' 9))
  simpa using this
theorem below10 {B : Nat} {a w : World} {g : Nat} (m' : Nat → Int) (h : Below B a w) (hg : B ≤ g) : Below B a ((((((((((w.setCell ⟨g, 0, none⟩ (.int .i64 (m' 0))).setCell ⟨g, 1, none⟩ (.int .i64 (m' 1))).setCell ⟨g, 2, none⟩ (.int .i64 (m' 2))).setCell ⟨g, 3, none⟩ (.int .i64 (m' 3))).setCell ⟨g, 4, none⟩ (.int .i64 (m' 4))).setCell ⟨g, 5, none⟩ (.int .i64 (m' 5))).setCell ⟨g, 6, none⟩ (.int .i64 (m' 6))).setCell ⟨g, 7, none⟩ (.int .i64 (m' 7))).setCell ⟨g, 8, none⟩ (.int .i64 (m' 8))).setCell ⟨g, 9, none⟩ (.int .i64 (m' 9))) :=
  (((((((((h.setCell hg _).setCell hg _).setCell hg _).setCell hg _).setCell hg _).setCell hg _).setCell hg _).setCell hg _).setCell hg _).setCell hg _
theorem far10 {w : World} {b g : Nat} {t : TypeId} {cs : Array Value} (m' : Nat → Int) (h : BlockIs w b t cs) (hne : b ≠ g) : BlockIs ((((((((((w.setCell ⟨g, 0, none⟩ (.int .i64 (m' 0))).setCell ⟨g, 1, none⟩ (.int .i64 (m' 1))).setCell ⟨g, 2, none⟩ (.int .i64 (m' 2))).setCell ⟨g, 3, none⟩ (.int .i64 (m' 3))).setCell ⟨g, 4, none⟩ (.int .i64 (m' 4))).setCell ⟨g, 5, none⟩ (.int .i64 (m' 5))).setCell ⟨g, 6, none⟩ (.int .i64 (m' 6))).setCell ⟨g, 7, none⟩ (.int .i64 (m' 7))).setCell ⟨g, 8, none⟩ (.int .i64 (m' 8))).setCell ⟨g, 9, none⟩ (.int .i64 (m' 9))) b t cs :=
  (((((((((h.far hne _).far hne _).far hne _).far hne _).far hne _).far hne _).far hne _).far hne _).far hne _).far hne _
def laidM (m p : Nat → Int) (k : Nat) : Nat → Int := fun i => if i < k ∧ 0 < p i then p i else m i
theorem laid_put (m p : Nat → Int) (k : Nat) (hk : k < 10) (h : 0 < p k) : (#[.int .i64 (laidM m p k 0), .int .i64 (laidM m p k 1), .int .i64 (laidM m p k 2), .int .i64 (laidM m p k 3), .int .i64 (laidM m p k 4), .int .i64 (laidM m p k 5), .int .i64 (laidM m p k 6), .int .i64 (laidM m p k 7), .int .i64 (laidM m p k 8), .int .i64 (laidM m p k 9)] : Array Value).setIfInBounds k (.int .i64 (p k)) = #[.int .i64 (laidM m p (k + 1) 0), .int .i64 (laidM m p (k + 1) 1), .int .i64 (laidM m p (k + 1) 2), .int .i64 (laidM m p (k + 1) 3), .int .i64 (laidM m p (k + 1) 4), .int .i64 (laidM m p (k + 1) 5), .int .i64 (laidM m p (k + 1) 6), .int .i64 (laidM m p (k + 1) 7), .int .i64 (laidM m p (k + 1) 8), .int .i64 (laidM m p (k + 1) 9)] := by
  match k, hk with
  | 0, _ => simp [laidM, h]
  | 1, _ => simp [laidM, h]
  | 2, _ => simp [laidM, h]
  | 3, _ => simp [laidM, h]
  | 4, _ => simp [laidM, h]
  | 5, _ => simp [laidM, h]
  | 6, _ => simp [laidM, h]
  | 7, _ => simp [laidM, h]
  | 8, _ => simp [laidM, h]
  | 9, _ => simp [laidM, h]
theorem laid_skip (m p : Nat → Int) (k : Nat) (h : ¬ 0 < p k) : laidM m p (k + 1) = laidM m p k := by
  funext i
  unfold laidM
  by_cases e : i = k
  · subst e; simp [h]
  · by_cases hi : i < k
    · simp [hi, Nat.lt_succ_of_lt hi]
    · have : ¬ i < k + 1 := by omega
      simp [hi, this]
def hasAllM (m p : Nat → Int) : Bool := eqMarks (laidM m p 10) m

set_option maxHeartbeats 1600000 in
theorem hasAll_any (m p : Nat → Int) (w : World) :
    Calls Tryd.prog 47 #[.agg #[.int .i64 (m 0), .int .i64 (m 1), .int .i64 (m 2), .int .i64 (m 3), .int .i64 (m 4), .int .i64 (m 5), .int .i64 (m 6), .int .i64 (m 7), .int .i64 (m 8), .int .i64 (m 9)], .agg #[.int .i64 (p 0), .int .i64 (p 1), .int .i64 (p 2), .int .i64 (p 3), .int .i64 (p 4), .int .i64 (p 5), .int .i64 (p 6), .int .i64 (p 7), .int .i64 (p 8), .int .i64 (p 9)]] w fun e w' => e = .returned (.bool (hasAllM m p)) ∧ Below w.heap.size w w' := by
  have hix := Tryd.mix p
  have HIX := Lib.hid hix
  clear hix
  go_enter Tryd.func47, Tryd.ntmps47
  go_wp2_with fail
  go_loopw [10] (fun s10 wr => ∃ k : Nat, k ≤ 10 ∧ s10 = .int .i64 k ∧ Below w.heap.size w wr ∧ BlockIs wr w.heap.size 71 #[.int .i64 (m 0), .int .i64 (m 1), .int .i64 (m 2), .int .i64 (m 3), .int .i64 (m 4), .int .i64 (m 5), .int .i64 (m 6), .int .i64 (m 7), .int .i64 (m 8), .int .i64 (m 9)] ∧ BlockIs wr (w.heap.size + 2) 71 #[.int .i64 (laidM m p k 0), .int .i64 (laidM m p k 1), .int .i64 (laidM m p k 2), .int .i64 (laidM m p k 3), .int .i64 (laidM m p k 4), .int .i64 (laidM m p k 5), .int .i64 (laidM m p k 6), .int .i64 (laidM m p k 7), .int .i64 (laidM m p k 8), .int .i64 (laidM m p k 9)]) (fun s10 _ => (10 - intOf s10).toNat)
  case atStart =>
    refine ⟨0, by omega, rfl, (by repeat' (first | exact Below.refl _ _ | refine Below.alloc ?_ ?_ _ | refine Below.setCell ?_ ?_ _ | refine Below.drew ?_ | (apply below_step; assumption) | (simp; done) | (simp; omega) | omega)), ?_, ?_⟩
    · exact ((BlockIs.new w _ _).alloc _).alloc _
    · have h0 : laidM m p 0 = m := by funext i; simp [laidM]
      rw [h0]
      exact BlockIs.new' (by simp)
  case round =>
    obtain ⟨k, hk, rfl, hB, hm, hl⟩ := hrel
    have HM := Lib.hid hm
    have HL := Lib.hid hl
    have hzr := hB.size
    have hgl := hl.lt
    by_cases hlt : k < 10
    · have hx := fun w => HIX.out k hlt w
      have c5 := (hl.cell k).trans (mcell _ k hlt)
      have f5 := hl.frozen k
      have hlti : (k : Int) < 10 := by omega
      clear hm hl
      by_cases hp : 0 < p k
      · have HP := Lib.hid hp
        go_wp2_with fail
        go_roundw
        case rel =>
          refine ⟨k + 1, by omega, by go_num, (by repeat' (first | exact Below.refl _ _ | refine Below.alloc ?_ ?_ _ | refine Below.setCell ?_ ?_ _ | refine Below.drew ?_ | (apply below_step; assumption) | (simp; done) | (simp; omega) | omega)), HM.out.far (by simp; omega) _, ?_⟩
          rw [← laid_put m p k hlt HP.out]
          exact HL.out.put k _
        case measure => simp [intOf]; omega
      · have HP := Lib.hid hp
        have hp' : p k ≤ 0 := by omega
        clear hp
        go_wp2_with fail
        go_roundw
        case rel =>
          refine ⟨k + 1, by omega, by go_num, hB, HM.out, ?_⟩
          rw [laid_skip m p k HP.out]
          exact HL.out
        case measure => simp [intOf]; omega
    · obtain rfl : k = 10 := by omega
      have heq := eql_marks (laidM m p 10) m
      have hgu := guard_marks
      have m0 := hm.cell 0
      have m1 := hm.cell 1
      have m2 := hm.cell 2
      have m3 := hm.cell 3
      have m4 := hm.cell 4
      have m5 := hm.cell 5
      have m6 := hm.cell 6
      have m7 := hm.cell 7
      have m8 := hm.cell 8
      have m9 := hm.cell 9
      have l0 := hl.cell 0
      have l1 := hl.cell 1
      have l2 := hl.cell 2
      have l3 := hl.cell 3
      have l4 := hl.cell 4
      have l5 := hl.cell 5
      have l6 := hl.cell 6
      have l7 := hl.cell 7
      have l8 := hl.cell 8
      have l9 := hl.cell 9
      simp at m0 m1 m2 m3 m4 m5 m6 m7 m8 m9 l0 l1 l2 l3 l4 l5 l6 l7 l8 l9
      clear hm hl HM HL HIX
      go_wp2_with fail
      go_ret
      exact ⟨rfl, hB⟩
end Go.Proofs.YtmkpajjnjgnmkaaDoor

namespace Go.Proofs.YtmkpajjnjgnmkaaDoor
open Go.RowKit

def LabAt (w : World) (b off : Nat) (l : List LV) : Prop :=
  ∀ i r, l[i]? = some r → w.cell? ⟨b, off + i * 2, none⟩ = some (.int .i64 r.k) ∧ w.cell? ⟨b, off + i * 2 + 1, none⟩ = some (.int .i64 r.v)
def LabSl (w : World) (v : Value) (l : List LV) : Prop := (l = [] ∧ ∃ A c, v = .slice A 0 c) ∨ ∃ b off c, v = .slice (some ⟨b, off, none⟩) l.length c ∧ b < w.heap.size ∧ LabAt w b off l
theorem LabAt.below {w w' : World} {b off B : Nat} {l : List LV} (h : LabAt w b off l) (hb : Below B w w') (hB : b < B) : LabAt w' b off l := fun i r hr => by
  obtain ⟨h1, h2⟩ := h i r hr
  exact ⟨(hb.cell (p := ⟨b, _, none⟩) hB).trans h1, (hb.cell (p := ⟨b, _, none⟩) hB).trans h2⟩
theorem LabSl.below {w w' : World} {v : Value} {l : List LV} (h : LabSl w v l) (hb : Below w.heap.size w w') : LabSl w' v l := by
  rcases h with h | ⟨b, off, c, rfl, hlt, h⟩
  · exact .inl h
  · exact .inr ⟨b, off, c, rfl, Nat.lt_of_lt_of_le hlt hb.size, h.below hb hlt⟩
theorem LabSl.form {w : World} {v : Value} {l : List LV} (h : LabSl w v l) : ∃ A c, v = .slice A l.length c ∧ (0 < l.length → ∃ b off, A = some ⟨b, off, none⟩ ∧ b < w.heap.size ∧ LabAt w b off l) := by
  rcases h with ⟨rfl, A, c, rfl⟩ | ⟨b, off, c, rfl, hlt, h⟩
  · exact ⟨A, c, rfl, fun h => absurd h (by simp)⟩
  · exact ⟨_, c, rfl, fun _ => ⟨b, off, rfl, hlt, h⟩⟩
def RetM (m : Nat → Int) (b : Bool) (w : World) (e : Ending) (w' : World) : Prop := e = .returned (.tuple #[.agg #[.int .i64 (m 0), .int .i64 (m 1), .int .i64 (m 2), .int .i64 (m 3), .int .i64 (m 4), .int .i64 (m 5), .int .i64 (m 6), .int .i64 (m 7), .int .i64 (m 8), .int .i64 (m 9)], .bool b]) ∧ Below w.heap.size w w'
theorem readOf_no {l : List LV} (h : labsOk l = false) : readOf l = mzero := by simp [readOf, h]
theorem readOf_yes {l : List LV} (h : labsOk l = true) : readOf l = marksOf mzero l := by simp [readOf, h]

set_option maxHeartbeats 1600000 in
theorem readLabs_long (A : Option Addr) (n c : Nat) (w : World) (h : 6 < n) (hm : n ≤ 1048576) :
    Calls Tryd.prog 45 #[.slice A n c] w (RetM mzero false w) := by
  have h6 : (6 : Int) < (n : Int) := by omega
  go_enter Tryd.func45, Tryd.ntmps45
  go_wp2_with fail
  exact bodyPost_ret (v := .tuple #[.agg #[.int .i64 (mzero 0), .int .i64 (mzero 1), .int .i64 (mzero 2), .int .i64 (mzero 3), .int .i64 (mzero 4), .int .i64 (mzero 5), .int .i64 (mzero 6), .int .i64 (mzero 7), .int .i64 (mzero 8), .int .i64 (mzero 9)], .bool false]) (by simp [results, Tryd.results45, go_sem, mzero]) rfl ⟨rfl, (by repeat' (first | exact Below.refl _ _ | refine Below.alloc ?_ ?_ _ | refine Below.setCell ?_ ?_ _ | refine Below.drew ?_ | (apply below_step; assumption) | (simp; done) | (simp; omega) | omega))⟩

set_option maxHeartbeats 3200000 in
theorem readLabs_short (v : Value) (l : List LV) (w : World) (hv : LabSl w v l) (hlen : l.length ≤ 6) :
    Calls Tryd.prog 45 #[v] w (RetM (readOf l) (labsOk l) w) := by
  obtain ⟨A, c, rfl, hA⟩ := hv.form
  have HA := Lib.hid hA
  have HO := Lib.hid (labsOk_short hlen)
  clear hA hv
  go_enter Tryd.func45, Tryd.ntmps45
  go_wp2_with fail
  go_loopw [5, 15] (fun s5 s15 wr => ∃ (k : Nat) (p : Int) (m : Nat → Int), k ≤ l.length ∧ s15 = .int .i64 k ∧ s5 = .int .i64 p ∧ -1 ≤ p ∧ p ≤ 9 ∧ labsFrom (-1) l = labsFrom p (l.drop k) ∧ marksOf mzero l = marksOf m (l.drop k) ∧ Below w.heap.size w wr ∧ BlockIs wr w.heap.size 71 #[.int .i64 (mzero 0), .int .i64 (mzero 1), .int .i64 (mzero 2), .int .i64 (mzero 3), .int .i64 (mzero 4), .int .i64 (mzero 5), .int .i64 (mzero 6), .int .i64 (mzero 7), .int .i64 (mzero 8), .int .i64 (mzero 9)] ∧ BlockIs wr (w.heap.size + 1) 71 #[.int .i64 (m 0), .int .i64 (m 1), .int .i64 (m 2), .int .i64 (m 3), .int .i64 (m 4), .int .i64 (m 5), .int .i64 (m 6), .int .i64 (m 7), .int .i64 (m 8), .int .i64 (m 9)]) (fun _ s15 _ => (l.length - intOf s15).toNat)
  case atStart =>
    refine ⟨0, -1, mzero, by omega, rfl, rfl, by omega, by omega, by rw [List.drop_zero], by rw [List.drop_zero], (by repeat' (first | exact Below.refl _ _ | refine Below.alloc ?_ ?_ _ | refine Below.setCell ?_ ?_ _ | refine Below.drew ?_ | (apply below_step; assumption) | (simp; done) | (simp; omega) | omega)), ?_, ?_⟩
    · exact (BlockIs.new w _ _).alloc _
    · exact BlockIs.new' (by simp)
  case round =>
    obtain ⟨k, p, m, hk, rfl, rfl, hp1, hp9, hF, hM, hB, hz, hm⟩ := hrel
    have HF := Lib.hid hF
    have HM := Lib.hid hM
    have HZ := Lib.hid hz
    have HMB := Lib.hid hm
    have hzr := hB.size
    have hgl := hm.lt
    clear hF hM
    by_cases hlt : k < l.length
    · obtain ⟨b, off, rfl, hbw, hat⟩ := HA.out (by omega)
      obtain ⟨r, hr⟩ : ∃ r, l[k]? = some r := ⟨_, List.getElem?_eq_getElem hlt⟩
      have HD := Lib.hid (drop_at hr)
      obtain ⟨q0, q1⟩ := (hat.below hB hbw) k r hr
      have hlti : (k : Int) < (l.length : Int) := by omega
      have hbr : b < wr.heap.size := by omega
      clear hat hr hz hm
      cases hro : r.ok
      · have HR := Lib.hid hro
        clear hro
        go_wp2_with fail
        refine (labInRange_no r _ HR.out).mono ?_
        rintro e w3 ⟨rfl, hb3⟩
        have hz3 := hb3.size
        simp at hz3
        have hZ3 := (HZ.out.alloc _).below hb3 (by simp; omega)
        have z0 := (hZ3).cell 0; have z1 := (hZ3).cell 1; have z2 := (hZ3).cell 2; have z3 := (hZ3).cell 3; have z4 := (hZ3).cell 4; have z5 := (hZ3).cell 5; have z6 := (hZ3).cell 6; have z7 := (hZ3).cell 7; have z8 := (hZ3).cell 8; have z9 := (hZ3).cell 9; simp at z0 z1 z2 z3 z4 z5 z6 z7 z8 z9
        have zf := hZ3.frozen
        have HZ3 := Lib.hid hZ3
        clear hZ3
        have hB3 : Below w.heap.size w w3 := (by repeat' (first | exact Below.refl _ _ | refine Below.alloc ?_ ?_ _ | refine Below.setCell ?_ ?_ _ | refine Below.drew ?_ | (apply below_step; assumption) | (simp; done) | (simp; omega) | omega))
        go_wp2_with fail
        have HX : Hid (labsOk l = false) := by
          show _ = _
          rw [HO.out, HF.out, HD.out, labsFrom_bad HR.out]
        rw [readOf_no HX.out, HX.out]
        have hX : BlockIs ((((((((((w3.setCell ⟨w.heap.size, 0, none⟩ (.int .i64 0)).setCell ⟨w.heap.size, 1, none⟩ (.int .i64 0)).setCell ⟨w.heap.size, 2, none⟩ (.int .i64 0)).setCell ⟨w.heap.size, 3, none⟩ (.int .i64 0)).setCell ⟨w.heap.size, 4, none⟩ (.int .i64 0)).setCell ⟨w.heap.size, 5, none⟩ (.int .i64 0)).setCell ⟨w.heap.size, 6, none⟩ (.int .i64 0)).setCell ⟨w.heap.size, 7, none⟩ (.int .i64 0)).setCell ⟨w.heap.size, 8, none⟩ (.int .i64 0)).setCell ⟨w.heap.size, 9, none⟩ (.int .i64 0)) w.heap.size 71 #[.int .i64 (mzero 0), .int .i64 (mzero 1), .int .i64 (mzero 2), .int .i64 (mzero 3), .int .i64 (mzero 4), .int .i64 (mzero 5), .int .i64 (mzero 6), .int .i64 (mzero 7), .int .i64 (mzero 8), .int .i64 (mzero 9)] := put10 mzero HZ3.out
        have hBX : Below w.heap.size w ((((((((((w3.setCell ⟨w.heap.size, 0, none⟩ (.int .i64 0)).setCell ⟨w.heap.size, 1, none⟩ (.int .i64 0)).setCell ⟨w.heap.size, 2, none⟩ (.int .i64 0)).setCell ⟨w.heap.size, 3, none⟩ (.int .i64 0)).setCell ⟨w.heap.size, 4, none⟩ (.int .i64 0)).setCell ⟨w.heap.size, 5, none⟩ (.int .i64 0)).setCell ⟨w.heap.size, 6, none⟩ (.int .i64 0)).setCell ⟨w.heap.size, 7, none⟩ (.int .i64 0)).setCell ⟨w.heap.size, 8, none⟩ (.int .i64 0)).setCell ⟨w.heap.size, 9, none⟩ (.int .i64 0)) := below10 mzero hB3 (Nat.le_refl _)
        generalize ((((((((((w3.setCell ⟨w.heap.size, 0, none⟩ (.int .i64 0)).setCell ⟨w.heap.size, 1, none⟩ (.int .i64 0)).setCell ⟨w.heap.size, 2, none⟩ (.int .i64 0)).setCell ⟨w.heap.size, 3, none⟩ (.int .i64 0)).setCell ⟨w.heap.size, 4, none⟩ (.int .i64 0)).setCell ⟨w.heap.size, 5, none⟩ (.int .i64 0)).setCell ⟨w.heap.size, 6, none⟩ (.int .i64 0)).setCell ⟨w.heap.size, 7, none⟩ (.int .i64 0)).setCell ⟨w.heap.size, 8, none⟩ (.int .i64 0)).setCell ⟨w.heap.size, 9, none⟩ (.int .i64 0)) = X at hX hBX ⊢
        clear z0 z1 z2 z3 z4 z5 z6 z7 z8 z9
        have z0 := (hX).cell 0; have z1 := (hX).cell 1; have z2 := (hX).cell 2; have z3 := (hX).cell 3; have z4 := (hX).cell 4; have z5 := (hX).cell 5; have z6 := (hX).cell 6; have z7 := (hX).cell 7; have z8 := (hX).cell 8; have z9 := (hX).cell 9; simp at z0 z1 z2 z3 z4 z5 z6 z7 z8 z9
        refine bodyPost_ret (v := .tuple #[.agg #[.int .i64 (mzero 0), .int .i64 (mzero 1), .int .i64 (mzero 2), .int .i64 (mzero 3), .int .i64 (mzero 4), .int .i64 (mzero 5), .int .i64 (mzero 6), .int .i64 (mzero 7), .int .i64 (mzero 8), .int .i64 (mzero 9)], .bool false]) (by simp [results, Tryd.results45, go_sem, z0, z1, z2, z3, z4, z5, z6, z7, z8, z9]) rfl ⟨rfl, hBX⟩
      · have HR := Lib.hid hro
        have hkr := LV.ok_iff.1 hro
        have hk0 : 0 ≤ r.k := hkr.1
        have hk9 : r.k ≤ 9 := hkr.2.1
        clear hro hkr
        by_cases hpk : p < r.k
        · have HP := Lib.hid hpk
          go_wp2_with fail
          refine (labInRange_yes r _ HR.out).mono ?_
          rintro e w3 ⟨rfl, hb3⟩
          have hz3 := hb3.size
          simp at hz3
          have hM3 := (HMB.out.alloc _).below hb3 (by simp; omega)
          have hT3 := (BlockIs.new wr 59 #[.int .i64 r.k, .int .i64 r.v]).below hb3 (by simp)
          have z0 := (hM3).cell 0; have z1 := (hM3).cell 1; have z2 := (hM3).cell 2; have z3 := (hM3).cell 3; have z4 := (hM3).cell 4; have z5 := (hM3).cell 5; have z6 := (hM3).cell 6; have z7 := (hM3).cell 7; have z8 := (hM3).cell 8; have z9 := (hM3).cell 9; simp at z0 z1 z2 z3 z4 z5 z6 z7 z8 z9
          have t0 := hT3.cell 0
          have t1 := hT3.cell 1
          simp at t0 t1
          have hw3 : wr.heap.size < w3.heap.size := by omega
          have HM3 := Lib.hid hM3
          have HT3 := Lib.hid hT3
          clear hM3 hT3
          go_wp2_with fail
          refine (with_any m r _ HR.out).mono ?_
          rintro e w4 ⟨rfl, hb4⟩
          have hz4 := hb4.size
          have hM4 := HM3.out.below hb4 (by omega)
          have hT4 := HT3.out.below hb4 (by omega)
          have HM4 := Lib.hid hM4
          clear z0 z1 z2 z3 z4 z5 z6 z7 z8 z9 t0 t1
          have z0 := (hM4).cell 0; have z1 := (hM4).cell 1; have z2 := (hM4).cell 2; have z3 := (hM4).cell 3; have z4 := (hM4).cell 4; have z5 := (hM4).cell 5; have z6 := (hM4).cell 6; have z7 := (hM4).cell 7; have z8 := (hM4).cell 8; have z9 := (hM4).cell 9; simp at z0 z1 z2 z3 z4 z5 z6 z7 z8 z9
          have zf := hM4.frozen
          have t0 := hT4.cell 0
          simp at t0
          have hne : w.heap.size + 1 ≠ wr.heap.size := by omega
          have hB4 : Below w.heap.size w w4 := (by repeat' (first | exact Below.refl _ _ | refine Below.alloc ?_ ?_ _ | refine Below.setCell ?_ ?_ _ | refine Below.drew ?_ | (apply below_step; assumption) | (simp; done) | (simp; omega) | omega))
          have HZ4 := Lib.hid (((HZ.out.alloc _).below hb3 (by simp; omega)).below hb4 (by omega))
          clear hM4 hT4
          go_wp2_with fail
          go_roundw
          case rel =>
            refine ⟨k + 1, r.k, mwith m r, by omega, by go_num, rfl, by omega, by omega, ?_, ?_, ?_, ?_, ?_⟩
            · rw [HF.out, HD.out, labsFrom_yes HR.out HP.out]
            · rw [HM.out, HD.out]; rfl
            · exact below10 (mwith m r) hB4 (by omega)
            · exact far10 (mwith m r) HZ4.out (by omega)
            · exact put10 (mwith m r) HM4.out
          case measure => simp [intOf]; omega
        · have HP := Lib.hid (show r.k ≤ p by omega)
          have hpk' : r.k ≤ p := by omega
          go_wp2_with fail
          refine (labInRange_yes r _ HR.out).mono ?_
          rintro e w3 ⟨rfl, hb3⟩
          have hz3 := hb3.size
          simp at hz3
          have hZ3 := (HZ.out.alloc _).below hb3 (by simp; omega)
          have hT3 := (BlockIs.new wr 59 #[.int .i64 r.k, .int .i64 r.v]).below hb3 (by simp)
          have z0 := (hZ3).cell 0; have z1 := (hZ3).cell 1; have z2 := (hZ3).cell 2; have z3 := (hZ3).cell 3; have z4 := (hZ3).cell 4; have z5 := (hZ3).cell 5; have z6 := (hZ3).cell 6; have z7 := (hZ3).cell 7; have z8 := (hZ3).cell 8; have z9 := (hZ3).cell 9; simp at z0 z1 z2 z3 z4 z5 z6 z7 z8 z9
          have zf := hZ3.frozen
          have t0 := hT3.cell 0
          simp at t0
          have HZ3 := Lib.hid hZ3
          clear hZ3 hT3
          have hB3 : Below w.heap.size w w3 := (by repeat' (first | exact Below.refl _ _ | refine Below.alloc ?_ ?_ _ | refine Below.setCell ?_ ?_ _ | refine Below.drew ?_ | (apply below_step; assumption) | (simp; done) | (simp; omega) | omega))
          go_wp2_with fail
          have HX : Hid (labsOk l = false) := by
            show _ = _
            rw [HO.out, HF.out, HD.out, labsFrom_low HP.out]
          rw [readOf_no HX.out, HX.out]
          have hX : BlockIs ((((((((((w3.setCell ⟨w.heap.size, 0, none⟩ (.int .i64 0)).setCell ⟨w.heap.size, 1, none⟩ (.int .i64 0)).setCell ⟨w.heap.size, 2, none⟩ (.int .i64 0)).setCell ⟨w.heap.size, 3, none⟩ (.int .i64 0)).setCell ⟨w.heap.size, 4, none⟩ (.int .i64 0)).setCell ⟨w.heap.size, 5, none⟩ (.int .i64 0)).setCell ⟨w.heap.size, 6, none⟩ (.int .i64 0)).setCell ⟨w.heap.size, 7, none⟩ (.int .i64 0)).setCell ⟨w.heap.size, 8, none⟩ (.int .i64 0)).setCell ⟨w.heap.size, 9, none⟩ (.int .i64 0)) w.heap.size 71 #[.int .i64 (mzero 0), .int .i64 (mzero 1), .int .i64 (mzero 2), .int .i64 (mzero 3), .int .i64 (mzero 4), .int .i64 (mzero 5), .int .i64 (mzero 6), .int .i64 (mzero 7), .int .i64 (mzero 8), .int .i64 (mzero 9)] := put10 mzero HZ3.out
          have hBX : Below w.heap.size w ((((((((((w3.setCell ⟨w.heap.size, 0, none⟩ (.int .i64 0)).setCell ⟨w.heap.size, 1, none⟩ (.int .i64 0)).setCell ⟨w.heap.size, 2, none⟩ (.int .i64 0)).setCell ⟨w.heap.size, 3, none⟩ (.int .i64 0)).setCell ⟨w.heap.size, 4, none⟩ (.int .i64 0)).setCell ⟨w.heap.size, 5, none⟩ (.int .i64 0)).setCell ⟨w.heap.size, 6, none⟩ (.int .i64 0)).setCell ⟨w.heap.size, 7, none⟩ (.int .i64 0)).setCell ⟨w.heap.size, 8, none⟩ (.int .i64 0)).setCell ⟨w.heap.size, 9, none⟩ (.int .i64 0)) := below10 mzero hB3 (Nat.le_refl _)
          generalize ((((((((((w3.setCell ⟨w.heap.size, 0, none⟩ (.int .i64 0)).setCell ⟨w.heap.size, 1, none⟩ (.int .i64 0)).setCell ⟨w.heap.size, 2, none⟩ (.int .i64 0)).setCell ⟨w.heap.size, 3, none⟩ (.int .i64 0)).setCell ⟨w.heap.size, 4, none⟩ (.int .i64 0)).setCell ⟨w.heap.size, 5, none⟩ (.int .i64 0)).setCell ⟨w.heap.size, 6, none⟩ (.int .i64 0)).setCell ⟨w.heap.size, 7, none⟩ (.int .i64 0)).setCell ⟨w.heap.size, 8, none⟩ (.int .i64 0)).setCell ⟨w.heap.size, 9, none⟩ (.int .i64 0)) = X at hX hBX ⊢
          clear z0 z1 z2 z3 z4 z5 z6 z7 z8 z9
          have z0 := (hX).cell 0; have z1 := (hX).cell 1; have z2 := (hX).cell 2; have z3 := (hX).cell 3; have z4 := (hX).cell 4; have z5 := (hX).cell 5; have z6 := (hX).cell 6; have z7 := (hX).cell 7; have z8 := (hX).cell 8; have z9 := (hX).cell 9; simp at z0 z1 z2 z3 z4 z5 z6 z7 z8 z9
          refine bodyPost_ret (v := .tuple #[.agg #[.int .i64 (mzero 0), .int .i64 (mzero 1), .int .i64 (mzero 2), .int .i64 (mzero 3), .int .i64 (mzero 4), .int .i64 (mzero 5), .int .i64 (mzero 6), .int .i64 (mzero 7), .int .i64 (mzero 8), .int .i64 (mzero 9)], .bool false]) (by simp [results, Tryd.results45, go_sem, z0, z1, z2, z3, z4, z5, z6, z7, z8, z9]) rfl ⟨rfl, hBX⟩
    · have hkl : k = l.length := by omega
      have HF' : Hid (labsOk l = true) := by
        show _ = _
        rw [HO.out, HF.out, hkl, List.drop_length]; rfl
      have HM' : Hid (marksOf mzero l = m) := by
        show _ = _
        rw [HM.out, hkl, List.drop_length]; rfl
      clear hkl
      have z0 := (hz).cell 0; have z1 := (hz).cell 1; have z2 := (hz).cell 2; have z3 := (hz).cell 3; have z4 := (hz).cell 4; have z5 := (hz).cell 5; have z6 := (hz).cell 6; have z7 := (hz).cell 7; have z8 := (hz).cell 8; have z9 := (hz).cell 9; simp at z0 z1 z2 z3 z4 z5 z6 z7 z8 z9
      have y0 := (hm).cell 0; have y1 := (hm).cell 1; have y2 := (hm).cell 2; have y3 := (hm).cell 3; have y4 := (hm).cell 4; have y5 := (hm).cell 5; have y6 := (hm).cell 6; have y7 := (hm).cell 7; have y8 := (hm).cell 8; have y9 := (hm).cell 9; simp at y0 y1 y2 y3 y4 y5 y6 y7 y8 y9
      have zf := hz.frozen
      clear hz hm
      go_wp2_with fail
      rw [readOf_yes HF'.out, HF'.out, HM'.out]
      have hX : BlockIs ((((((((((wr.setCell ⟨w.heap.size, 0, none⟩ (.int .i64 (m 0))).setCell ⟨w.heap.size, 1, none⟩ (.int .i64 (m 1))).setCell ⟨w.heap.size, 2, none⟩ (.int .i64 (m 2))).setCell ⟨w.heap.size, 3, none⟩ (.int .i64 (m 3))).setCell ⟨w.heap.size, 4, none⟩ (.int .i64 (m 4))).setCell ⟨w.heap.size, 5, none⟩ (.int .i64 (m 5))).setCell ⟨w.heap.size, 6, none⟩ (.int .i64 (m 6))).setCell ⟨w.heap.size, 7, none⟩ (.int .i64 (m 7))).setCell ⟨w.heap.size, 8, none⟩ (.int .i64 (m 8))).setCell ⟨w.heap.size, 9, none⟩ (.int .i64 (m 9))) w.heap.size 71 #[.int .i64 (m 0), .int .i64 (m 1), .int .i64 (m 2), .int .i64 (m 3), .int .i64 (m 4), .int .i64 (m 5), .int .i64 (m 6), .int .i64 (m 7), .int .i64 (m 8), .int .i64 (m 9)] := put10 m HZ.out
      have hBX : Below w.heap.size w ((((((((((wr.setCell ⟨w.heap.size, 0, none⟩ (.int .i64 (m 0))).setCell ⟨w.heap.size, 1, none⟩ (.int .i64 (m 1))).setCell ⟨w.heap.size, 2, none⟩ (.int .i64 (m 2))).setCell ⟨w.heap.size, 3, none⟩ (.int .i64 (m 3))).setCell ⟨w.heap.size, 4, none⟩ (.int .i64 (m 4))).setCell ⟨w.heap.size, 5, none⟩ (.int .i64 (m 5))).setCell ⟨w.heap.size, 6, none⟩ (.int .i64 (m 6))).setCell ⟨w.heap.size, 7, none⟩ (.int .i64 (m 7))).setCell ⟨w.heap.size, 8, none⟩ (.int .i64 (m 8))).setCell ⟨w.heap.size, 9, none⟩ (.int .i64 (m 9))) := below10 m hB (Nat.le_refl _)
      generalize ((((((((((wr.setCell ⟨w.heap.size, 0, none⟩ (.int .i64 (m 0))).setCell ⟨w.heap.size, 1, none⟩ (.int .i64 (m 1))).setCell ⟨w.heap.size, 2, none⟩ (.int .i64 (m 2))).setCell ⟨w.heap.size, 3, none⟩ (.int .i64 (m 3))).setCell ⟨w.heap.size, 4, none⟩ (.int .i64 (m 4))).setCell ⟨w.heap.size, 5, none⟩ (.int .i64 (m 5))).setCell ⟨w.heap.size, 6, none⟩ (.int .i64 (m 6))).setCell ⟨w.heap.size, 7, none⟩ (.int .i64 (m 7))).setCell ⟨w.heap.size, 8, none⟩ (.int .i64 (m 8))).setCell ⟨w.heap.size, 9, none⟩ (.int .i64 (m 9))) = X at hX hBX ⊢
      clear z0 z1 z2 z3 z4 z5 z6 z7 z8 z9
      have z0 := (hX).cell 0; have z1 := (hX).cell 1; have z2 := (hX).cell 2; have z3 := (hX).cell 3; have z4 := (hX).cell 4; have z5 := (hX).cell 5; have z6 := (hX).cell 6; have z7 := (hX).cell 7; have z8 := (hX).cell 8; have z9 := (hX).cell 9; simp at z0 z1 z2 z3 z4 z5 z6 z7 z8 z9
      refine bodyPost_ret (v := .tuple #[.agg #[.int .i64 (m 0), .int .i64 (m 1), .int .i64 (m 2), .int .i64 (m 3), .int .i64 (m 4), .int .i64 (m 5), .int .i64 (m 6), .int .i64 (m 7), .int .i64 (m 8), .int .i64 (m 9)], .bool true]) (by simp [results, Tryd.results45, go_sem, z0, z1, z2, z3, z4, z5, z6, z7, z8, z9]) rfl ⟨rfl, hBX⟩

theorem readLabs_any (v : Value) (l : List LV) (w : World) (hv : LabSl w v l) (hlen : l.length ≤ 1048576) :
    Calls Tryd.prog 45 #[v] w (RetM (readOf l) (labsOk l) w) := by
  by_cases h : l.length ≤ 6
  · exact readLabs_short v l w hv h
  · obtain ⟨A, c, rfl, _⟩ := hv.form
    rw [readOf_no (labsOk_long (by omega)), labsOk_long (by omega)]
    exact readLabs_long A l.length c w (by omega) hlen
end Go.Proofs.YtmkpajjnjgnmkaaDoor

namespace Go.Proofs.YtmkpajjnjgnmkaaDoor
open Go.ChangeShapes Go.WideShapes Go.ChangeAt Go.RowKit Go.Joins

theorem Tryd.cellsLab : Tryd.prog.cellsOf 61 = 2 := by kernel_rfl

section
variable {H : Type} {enc : TypeId × Value → H} {W : World}
set_option maxRecDepth 100000 in
theorem open_labC {fuel : Nat} {v : Value} {x : DataW H × List MemPlace} (h : DataW.trod enc Tryd.prog W 0 (fun _ => true) true fuel 24 [v] = some x) :
    ∃ A n c, v = .slice A n c ∧ n ≤ maxLen ∧ ∃ l : List LV, l.length = n ∧ LabSl W v l := by
  rcases Go.Deep.open_slice Tryd.underlying24 h with ⟨hcs, _⟩ | ⟨a, n, cap, m, n', D, Pl, hcs, hb, hl, hm, hmm, hx, hi⟩
  · simp at hcs
    subst hcs
    exact ⟨none, 0, 0, rfl, by unfold maxLen; omega, [], rfl, .inl ⟨rfl, _, _, rfl⟩⟩
  · simp at hcs
    subst hcs
    rw [if_pos rfl] at hmm
    subst hmm
    have hel : ∀ i, i < n → ∃ r : LV, W.cell? (a.add (i * 2)) = some (.int .i64 r.k) ∧ W.cell? (a.add (i * 2 + 1)) = some (.int .i64 r.v) := by
      intro i hin
      obtain ⟨cs', hc, ht⟩ := hi i (by omega)
      rw [Tryd.cellsLab] at hc
      obtain ⟨y0, y1, k, _, hlen, g0, g1⟩ := trod_struct2 Tryd.underlying61 ht
      rw [Tryd.cellsLab] at hlen
      obtain ⟨_, _, hat⟩ := World.cells?_some hc
      match cs', hlen with
      | [c0, c1], _ =>
        obtain ⟨r0, e0, _, _⟩ := DataW.trod_int Tryd.underlying3 g0
        obtain ⟨r1, e1, _, _⟩ := DataW.trod_int Tryd.underlying3 g1
        have k3 : Tryd.prog.cellsOf 3 = 1 := by kernel_rfl
        simp [k3] at e0 e1
        subst e0 e1
        have a0 := hat 0 (by omega)
        have a1 := hat 1 (by omega)
        rw [Go.Deep.add_add] at a0 a1
        exact ⟨⟨r0, r1⟩, by simpa using a0, by simpa using a1⟩
    obtain ⟨f, hf⟩ : ∃ f : Nat → LV, ∀ i, i < n → W.cell? (a.add (i * 2)) = some (.int .i64 (f i).k) ∧ W.cell? (a.add (i * 2 + 1)) = some (.int .i64 (f i).v) := by
      classical
      refine ⟨fun i => if hi : i < n then Classical.choose (hel i hi) else ⟨0, 0⟩, fun i hi => ?_⟩
      simp only [dif_pos hi]
      exact Classical.choose_spec (hel i hi)
    refine ⟨_, n, _, rfl, by omega, (List.range n).map f, by simp, ?_⟩
    rcases Nat.eq_zero_or_pos n with rfl | hp
    · exact .inl ⟨rfl, _, _, rfl⟩
    · obtain ⟨b, off, spot⟩ := a
      have h0 := (hf 0 hp).1
      have hspot : spot = none := by simpa [Addr.add] using World.cell?_spot h0
      subst hspot
      have hlt := World.block_lt_of_cell? _ _ h0
      refine .inr ⟨b, off, m, by simp, by simpa [Addr.add] using hlt, fun i r hr => ?_⟩
      have hi : i < n := by
        have := (List.getElem?_eq_some_iff.1 hr).1
        simpa using this
      have hri : f i = r := by simpa [hi] using hr
      obtain ⟨h1, h2⟩ := hf i hi
      rw [hri] at h1 h2
      rw [add_plain] at h1 h2
      exact ⟨h1, h2⟩
end
end Go.Proofs.YtmkpajjnjgnmkaaDoor

namespace Go.Proofs.YtmkpajjnjgnmkaaDoor
open Go.RowKit

theorem szLabS_yes (A : Option Addr) (n c : Nat) (z : Int) (w : World) (hz : z ≤ 1048576) (h : (n : Int) ≤ z) :
    Calls Tryd.prog 12 #[.slice A n c, .int .i64 z] w fun e w' => e = .returned (.int .i64 (z - n)) ∧ w = w' := by
  go_enter Tryd.func12, Tryd.ntmps12
  go_wp2
  go_ret
  exact ⟨rfl, rfl⟩
theorem szLabS_no (A : Option Addr) (n c : Nat) (z : Int) (w : World) (h0 : 0 ≤ z) (h : z < n) (hm : n ≤ maxLen) :
    Calls Tryd.prog 12 #[.slice A n c, .int .i64 z] w fun e w' => e = .returned (.int .i64 (-1)) ∧ w = w' := by
  unfold maxLen at hm
  go_enter Tryd.func12, Tryd.ntmps12
  go_wp2
  go_ret
  exact ⟨rfl, rfl⟩

theorem toLab_any (r : LV) (w : World) :
    Calls Tryd.prog 32 #[.agg #[.int .i64 r.k, .int .i64 r.v]] w fun e w' => e = .returned (.agg #[.int .i64 r.k, .int .i64 r.v]) ∧ Below w.heap.size w w' := by
  go_enter Tryd.func32, Tryd.ntmps32
  go_wp2
  exact bodyPost_ret (v := .agg #[.int .i64 r.k, .int .i64 r.v]) (by simp [results, Tryd.results32, go_sem]) rfl ⟨rfl, (by repeat' (first | exact Below.refl _ _ | refine Below.alloc ?_ ?_ _ | refine Below.setCell ?_ ?_ _ | refine Below.drew ?_ | (apply below_step; assumption) | (simp; done) | (simp; omega) | omega))⟩
theorem eqLab_same (r : LV) (w : World) :
    Calls Tryd.prog 39 #[.agg #[.int .i64 r.k, .int .i64 r.v], .agg #[.int .i64 r.k, .int .i64 r.v]] w fun e w' => e = .returned (.bool true) ∧ Below w.heap.size w w' := by
  have h1 : (r.k != r.k) = false := by simp
  have h2 : (r.v != r.v) = false := by simp
  go_enter Tryd.func39, Tryd.ntmps39
  go_wp2
  go_ret
  exact ⟨rfl, (by repeat' (first | exact Below.refl _ _ | refine Below.alloc ?_ ?_ _ | refine Below.setCell ?_ ?_ _ | refine Below.drew ?_ | (apply below_step; assumption) | (simp; done) | (simp; omega) | omega))⟩

def labL (l : List LV) : List Value := l.flatMap fun x => [.int .i64 x.k, .int .i64 x.v]
theorem labL_len (l : List LV) : (labL l).length = l.length * 2 := by
  induction l with
  | nil => rfl
  | cons x r ih => simp [labL] at ih ⊢; omega
theorem labL_cons (x : LV) (r : List LV) : labL (x :: r) = .int .i64 x.k :: .int .i64 x.v :: labL r := rfl
theorem labL_at {l : List LV} {i : Nat} {x : LV} (h : l[i]? = some x) : (labL l)[i * 2]? = some (.int .i64 x.k) ∧ (labL l)[i * 2 + 1]? = some (.int .i64 x.v) := by
  induction l generalizing i with
  | nil => simp at h
  | cons y r ih =>
    cases i with
    | zero => simp at h; subst h; exact ⟨rfl, rfl⟩
    | succ i =>
      simp at h
      have := ih h
      rw [labL_cons, show (i + 1) * 2 = i * 2 + 1 + 1 by omega]
      simpa using this
theorem labL_ext {l : List LV} {cs : List Value} (hl : cs.length = l.length * 2) (h : ∀ i r, l[i]? = some r → cs[i * 2]? = some (.int .i64 r.k) ∧ cs[i * 2 + 1]? = some (.int .i64 r.v)) : cs = labL l := by
  apply List.ext_getElem?
  intro j
  rcases Nat.lt_or_ge (j / 2) l.length with hj | hj
  · obtain ⟨r, hr⟩ : ∃ r, l[j / 2]? = some r := ⟨_, List.getElem?_eq_getElem hj⟩
    obtain ⟨a1, a2⟩ := h _ _ hr
    obtain ⟨b1, b2⟩ := labL_at hr
    rcases Nat.mod_two_eq_zero_or_one j with e | e
    · have : j / 2 * 2 = j := by omega
      rw [this] at a1 b1; rw [a1, b1]
    · have : j / 2 * 2 + 1 = j := by omega
      rw [this] at a2 b2; rw [a2, b2]
  · rw [List.getElem?_eq_none (by omega), List.getElem?_eq_none (by rw [labL_len]; omega)]
theorem LabAt.of_block {w : World} {g : Nat} {t : TypeId} {l : List LV} {cs : Array Value} (h : BlockIs w g t cs) (hc : ∀ (j : Nat) (u : Value), (labL l)[j]? = some u → cs[j]? = some u) : LabAt w g 0 l := fun i r hr => by
  obtain ⟨h1, h2⟩ := labL_at hr
  simp only [Nat.zero_add]
  exact ⟨(h.cell _).trans (hc _ _ h1), (h.cell _).trans (hc _ _ h2)⟩
theorem LabAt.of_cells {w : World} {g : Nat} {t : TypeId} {l : List LV} (h : BlockIs w g t (labL l).toArray) : LabAt w g 0 l := LabAt.of_block h (fun j u hu => by simpa using hu)

theorem Tryd.infoLab : (Tryd.prog.info? 59).map (fun i => (i.zero, i.size, i.bytes)) = some (some (.agg #[.int .i64 0, .int .i64 0]), 2, 16) := by kernel_rfl
theorem make_lab (n : Nat) (h : n ≤ 1048576) (w : World) : (Instr.makeSlice 34 (.int .i64 (n : Int)) (.int .i64 (n : Int))).run Tryd.prog w = .ok (.slice (some ⟨w.heap.size, 0, none⟩) n n) (w.alloc (.cells (madeCells #[.int .i64 0, .int .i64 0] (n * 2)) 59)) := by
  obtain ⟨i, hi, hzz⟩ := Option.map_eq_some_iff.1 Tryd.infoLab
  simp only [Prod.mk.injEq] at hzz
  obtain ⟨hz, hs, hb⟩ := hzz
  have := run_make (P := Tryd.prog) w 34 59 i _ Tryd.underlying34 hi hz .i64 .i64 n n (by omega) (Int.le_refl _) (by rw [hb]; omega) (by omega)
  rw [this, hs]
  simp [Value.cells]

def CopyLab (w : World) (g : Nat) (l : List LV) (k : Nat) (wr : World) : Prop := ∃ cs : Array Value, BlockIs wr g 59 cs ∧ cs.size = l.length * 2 ∧
  (∀ i r, i < k → l[i]? = some r → cs[i * 2]? = some (.int .i64 r.k) ∧ cs[i * 2 + 1]? = some (.int .i64 r.v)) ∧ Below w.heap.size w wr
theorem CopyLab.put {w : World} {g : Nat} {l : List LV} {k : Nat} {r : LV} {wr : World} {cs : Array Value} (hs : cs.size = l.length * 2) (hr : l[k]? = some r)
    (hc : ∀ i r, i < k → l[i]? = some r → cs[i * 2]? = some (.int .i64 r.k) ∧ cs[i * 2 + 1]? = some (.int .i64 r.v))
    (hb : BlockIs wr g 59 ((cs.setIfInBounds (k * 2) (.int .i64 r.k)).setIfInBounds (k * 2 + 1) (.int .i64 r.v))) (hB : Below w.heap.size w wr) : CopyLab w g l (k + 1) wr := by
  have hk : k < l.length := (List.getElem?_eq_some_iff.1 hr).1
  refine ⟨_, hb, by simp [hs], fun i r' hi hr' => ?_, hB⟩
  by_cases hik : i = k
  · subst hik
    obtain rfl := Option.some.inj (hr.symm.trans hr')
    refine ⟨?_, ?_⟩ <;> simp [Array.getElem?_setIfInBounds, hs] <;> omega
  · obtain ⟨h1, h2⟩ := hc i r' (by omega) hr'
    refine ⟨?_, ?_⟩
    · rw [Array.getElem?_setIfInBounds_ne (by omega), Array.getElem?_setIfInBounds_ne (by omega)]; exact h1
    · rw [Array.getElem?_setIfInBounds_ne (by omega), Array.getElem?_setIfInBounds_ne (by omega)]; exact h2
def NewLab (w : World) (l : List LV) (e : Ending) (w' : World) : Prop := ∃ g, e = .returned (.slice (some ⟨g, 0, none⟩) l.length l.length) ∧ w.heap.size ≤ g ∧ BlockIs w' g 59 (labL l).toArray ∧ Below w.heap.size w w'
theorem CopyLab.done {w wr : World} {g : Nat} {l : List LV} (h : CopyLab w g l l.length wr) : BlockIs wr g 59 (labL l).toArray := by
  obtain ⟨cs, hb, hs, hc, _⟩ := h
  have : cs = (labL l).toArray := by
    rw [← labL_ext (cs := cs.toList) (by simpa using hs) (fun i r hr => by simpa using hc i r (List.getElem?_eq_some_iff.1 hr).1 hr)]
  rw [← this]; exact hb

set_option maxHeartbeats 1600000 in
theorem toLabS_any (v : Value) (l : List LV) (w : World) (hv : LabSl w v l) (hlen : l.length ≤ 1048576) :
    Calls Tryd.prog 18 #[v] w (NewLab w l) := by
  obtain ⟨A, c, rfl, hA⟩ := hv.form
  have HA := Lib.hid hA
  clear hA hv
  have hmk := make_lab l.length hlen
  go_enter Tryd.func18, Tryd.ntmps18
  go_wp2_with fail
  go_loopw [4] (fun s4 wr => ∃ k : Nat, k ≤ l.length ∧ s4 = .int .i64 k ∧ CopyLab w w.heap.size l k wr) (fun s4 _ => (l.length - intOf s4).toNat)
  case atStart =>
    exact ⟨0, by omega, rfl, _, BlockIs.new _ _ _, size_madeCells _ _, fun i r hi => absurd hi (by omega), (by repeat' (first | exact Below.refl _ _ | refine Below.alloc ?_ ?_ _ | refine Below.setCell ?_ ?_ _ | refine Below.drew ?_ | (apply below_step; assumption) | (simp; done) | (simp; omega) | omega))⟩
  case round =>
    obtain ⟨k, hk, rfl, HC⟩ := hrel
    by_cases hlt : k < l.length
    · obtain ⟨b, off, rfl, hbw, hat⟩ := HA.out (by omega)
      obtain ⟨r, hr⟩ : ∃ r, l[k]? = some r := ⟨_, List.getElem?_eq_getElem hlt⟩
      obtain ⟨cs, hblk, hs, hc, hB⟩ := HC
      obtain ⟨q0, q1⟩ := (hat.below hB hbw) k r hr
      have hzr := hB.size
      have hgl := hblk.lt
      have HR := Lib.hid hr
      have HCC := Lib.hid hc
      have HBL := Lib.hid hblk
      have HSZ := Lib.hid hs
      clear hat hr hc hblk hs
      go_wp2_with fail
      refine (toLab_any r _).mono ?_
      rintro e w3 ⟨rfl, hb3⟩
      have hz3 := hb3.size
      have hB3 := HBL.out.below hb3 hgl
      have hs := HSZ.out
      have u0 : w3.cell? ⟨w.heap.size, k * 2, none⟩ = some (cs[k * 2]'(by omega)) := by rw [hB3.cell]; exact Array.getElem?_eq_getElem (by omega)
      have u1 : w3.cell? ⟨w.heap.size, k * 2 + 1, none⟩ = some (cs[k * 2 + 1]'(by omega)) := by rw [hB3.cell]; exact Array.getElem?_eq_getElem (by omega)
      generalize cs[k * 2]'(by omega) = x0 at u0
      generalize cs[k * 2 + 1]'(by omega) = x1 at u1
      have uf := hB3.frozen
      have HB3 := Lib.hid hB3
      clear hs hB3
      go_wp2_with fail
      go_roundw
      case rel =>
        refine ⟨k + 1, by omega, by go_num, CopyLab.put HSZ.out HR.out HCC.out ?_ (by repeat' (first | exact Below.refl _ _ | refine Below.alloc ?_ ?_ _ | refine Below.setCell ?_ ?_ _ | refine Below.drew ?_ | (apply below_step; assumption) | (simp; done) | (simp; omega) | omega))⟩
        exact (HB3.out.put _ _).put _ _
      case measure => simp [intOf]; omega
    · have hkl : k = l.length := by omega
      subst hkl
      have HD := Lib.hid HC.done
      obtain ⟨cs, hblk, hs, hc, hB⟩ := HC
      have hgl := hblk.lt
      clear hblk hs hc
      go_wp2_with fail
      go_ret
      exact ⟨w.heap.size, rfl, Nat.le_refl _, HD.out, hB⟩

theorem four_keep (X : World) {b0 o0 b1 o1 b2 o2 b3 o3 : Nat} {v0 v1 v2 v3 : Value} (h : X.cell? ⟨b0, o0, none⟩ = some v0 ∧ X.cell? ⟨b1, o1, none⟩ = some v1 ∧ X.cell? ⟨b2, o2, none⟩ = some v2 ∧ X.cell? ⟨b3, o3, none⟩ = some v3) : ∀ w' : World, Below X.heap.size X w' → Below X.heap.size X w' ∧ w'.cell? ⟨b0, o0, none⟩ = some v0 ∧ w'.cell? ⟨b1, o1, none⟩ = some v1 ∧ w'.cell? ⟨b2, o2, none⟩ = some v2 ∧ w'.cell? ⟨b3, o3, none⟩ = some v3 := by
  intro w' hb
  obtain ⟨h0, h1, h2, h3⟩ := h
  refine ⟨hb, ?_, ?_, ?_, ?_⟩
  · exact (hb.cell (p := ⟨b0, o0, none⟩) (World.block_lt_of_cell? _ _ h0)).trans h0
  · exact (hb.cell (p := ⟨b1, o1, none⟩) (World.block_lt_of_cell? _ _ h1)).trans h1
  · exact (hb.cell (p := ⟨b2, o2, none⟩) (World.block_lt_of_cell? _ _ h2)).trans h2
  · exact (hb.cell (p := ⟨b3, o3, none⟩) (World.block_lt_of_cell? _ _ h3)).trans h3

set_option maxHeartbeats 1600000 in
theorem eqLabS_same (v1 v2 : Value) (l : List LV) (w : World) (h1 : LabSl w v1 l) (h2 : LabSl w v2 l) (hlen : l.length ≤ 1048576) :
    Calls Tryd.prog 24 #[v1, v2] w fun e w' => e = .returned (.bool true) ∧ Below w.heap.size w w' := by
  obtain ⟨A, c, rfl, hA⟩ := h1.form
  obtain ⟨A2, c2, rfl, hA2⟩ := h2.form
  have HA := Lib.hid hA
  have HA2 := Lib.hid hA2
  clear hA hA2 h1 h2
  have hnn : ((l.length : Int) != (l.length : Int)) = false := by simp
  go_enter Tryd.func24, Tryd.ntmps24
  go_wp2_with fail
  go_loopw [5] (fun s5 wr => ∃ k : Nat, k ≤ l.length ∧ s5 = .int .i64 k ∧ Below w.heap.size w wr) (fun s5 _ => (l.length - intOf s5).toNat)
  case atStart => exact ⟨0, by omega, rfl, Below.refl _ _⟩
  case round =>
    obtain ⟨k, hk, rfl, hB⟩ := hrel
    have hzr := hB.size
    by_cases hlt : k < l.length
    · obtain ⟨b, off, rfl, hbw, hat⟩ := HA.out (by omega)
      obtain ⟨b2, off2, rfl, hbw2, hat2⟩ := HA2.out (by omega)
      obtain ⟨r, hr⟩ : ∃ r, l[k]? = some r := ⟨_, List.getElem?_eq_getElem hlt⟩
      obtain ⟨q0, q1⟩ := (hat.below hB hbw) k r hr
      obtain ⟨p0, p1⟩ := (hat2.below hB hbw2) k r hr
      have HK := Lib.hid (four_keep wr ⟨q0, q1, p0, p1⟩)
      have hlti : (k : Int) < (l.length : Int) := by omega
      have hk0 : (0 : Int) ≤ (k : Int) := by omega
      clear hat hat2 hr
      go_wp2_with fail
      go_region_held3 (fun w' => Below wr.heap.size wr w' ∧ w'.cell? ⟨b, off + k * 2, none⟩ = some (.int .i64 r.k) ∧ w'.cell? ⟨b, off + k * 2 + 1, none⟩ = some (.int .i64 r.v) ∧ w'.cell? ⟨b2, off2 + k * 2, none⟩ = some (.int .i64 r.k) ∧ w'.cell? ⟨b2, off2 + k * 2 + 1, none⟩ = some (.int .i64 r.v))
        (exact HK.out _ (by repeat' (first | exact Below.refl _ _ | refine Below.alloc ?_ ?_ _ | refine Below.setCell ?_ ?_ _ | refine Below.drew ?_ | (apply below_step; assumption) | (simp; done) | (simp; omega) | omega)))
        (first | (go_at_call 39; refine (eqLab_same r _).mono ?_; rintro e w3 ⟨rfl, hb3⟩; have hz3 := hb3.size; try simp at hz3))
      go_wp2_with fail
      go_roundw
      case rel => exact ⟨k + 1, by omega, by go_num, (by repeat' (first | exact Below.refl _ _ | refine Below.alloc ?_ ?_ _ | refine Below.setCell ?_ ?_ _ | refine Below.drew ?_ | (apply below_step; assumption) | (simp; done) | (simp; omega) | omega))⟩
      case measure => simp [intOf]; omega
    · go_wp2_with fail
      go_ret
      exact ⟨rfl, hB⟩
end Go.Proofs.YtmkpajjnjgnmkaaDoor

namespace Go.Proofs.YtmkpajjnjgnmkaaDoor
open Go.RowKit

def IntAt (w : World) (b off : Nat) (l : List Int) : Prop := ∀ i r, l[i]? = some r → w.cell? ⟨b, off + i, none⟩ = some (.int .i64 r)
def IntSl (w : World) (v : Value) (l : List Int) : Prop := (l = [] ∧ ∃ A c, v = .slice A 0 c) ∨ ∃ b off c, v = .slice (some ⟨b, off, none⟩) l.length c ∧ b < w.heap.size ∧ IntAt w b off l
theorem IntAt.below {w w' : World} {b off B : Nat} {l : List Int} (h : IntAt w b off l) (hb : Below B w w') (hB : b < B) : IntAt w' b off l := fun i r hr =>
  (hb.cell (p := ⟨b, _, none⟩) hB).trans (h i r hr)
theorem IntSl.below {w w' : World} {v : Value} {l : List Int} (h : IntSl w v l) (hb : Below w.heap.size w w') : IntSl w' v l := by
  rcases h with h | ⟨b, off, c, rfl, hlt, h⟩
  · exact .inl h
  · exact .inr ⟨b, off, c, rfl, Nat.lt_of_lt_of_le hlt hb.size, h.below hb hlt⟩
theorem IntSl.form {w : World} {v : Value} {l : List Int} (h : IntSl w v l) : ∃ A c, v = .slice A l.length c ∧ (0 < l.length → ∃ b off, A = some ⟨b, off, none⟩ ∧ b < w.heap.size ∧ IntAt w b off l) := by
  rcases h with ⟨rfl, A, c, rfl⟩ | ⟨b, off, c, rfl, hlt, h⟩
  · exact ⟨A, c, rfl, fun h => absurd h (by simp)⟩
  · exact ⟨_, c, rfl, fun _ => ⟨b, off, rfl, hlt, h⟩⟩
theorem dropI_at {l : List Int} {k : Nat} {r : Int} (h : l[k]? = some r) : l.drop k = r :: l.drop (k + 1) := by
  obtain ⟨hk, rfl⟩ := List.getElem?_eq_some_iff.1 h
  exact List.drop_eq_getElem_cons hk
theorem IntAt.of_block {w : World} {g : Nat} {t : TypeId} {l : List Int} {cs : Array Value} (h : BlockIs w g t cs) (hc : ∀ (j : Nat) (r : Int), l[j]? = some r → cs[j]? = some (.int .i64 r)) : IntAt w g 0 l := fun i r hr => by
  simp only [Nat.zero_add]
  exact (h.cell _).trans (hc _ _ hr)

theorem Tryd.infoI : (Tryd.prog.info? 3).map (fun i => (i.zero, i.size, i.bytes)) = some (some (.int .i64 0), 1, 8) := by kernel_rfl
theorem make_int (n : Nat) (h : n ≤ 1048576) (w : World) : (Instr.makeSlice 25 (.int .i64 (n : Int)) (.int .i64 (n : Int))).run Tryd.prog w = .ok (.slice (some ⟨w.heap.size, 0, none⟩) n n) (w.alloc (.cells (madeCells #[.int .i64 0] n) 3)) := by
  obtain ⟨i, hi, hzz⟩ := Option.map_eq_some_iff.1 Tryd.infoI
  simp only [Prod.mk.injEq] at hzz
  obtain ⟨hz, hs, hb⟩ := hzz
  have := run_make (P := Tryd.prog) w 25 3 i _ Tryd.underlying25 hi hz .i64 .i64 n n (by omega) (Int.le_refl _) (by rw [hb]; omega) (by omega)
  rw [this, hs]
  simp [Value.cells]

def CopyInt (w : World) (g : Nat) (l : List Int) (k : Nat) (wr : World) : Prop := ∃ cs : Array Value, BlockIs wr g 3 cs ∧ cs.size = l.length ∧
  (∀ i r, i < k → l[i]? = some r → cs[i]? = some (.int .i64 r)) ∧ Below w.heap.size w wr
theorem CopyInt.put {w : World} {g : Nat} {l : List Int} {k : Nat} {r : Int} {wr : World} {cs : Array Value} (hs : cs.size = l.length) (hr : l[k]? = some r)
    (hc : ∀ i r, i < k → l[i]? = some r → cs[i]? = some (.int .i64 r))
    (hb : BlockIs wr g 3 (cs.setIfInBounds k (.int .i64 r))) (hB : Below w.heap.size w wr) : CopyInt w g l (k + 1) wr := by
  have hk : k < l.length := (List.getElem?_eq_some_iff.1 hr).1
  refine ⟨_, hb, by simp [hs], fun i r' hi hr' => ?_, hB⟩
  by_cases hik : i = k
  · subst hik
    obtain rfl := Option.some.inj (hr.symm.trans hr')
    simp [Array.getElem?_setIfInBounds, hs]; omega
  · rw [Array.getElem?_setIfInBounds_ne (by omega)]; exact hc i r' (by omega) hr'
def NewInt (w : World) (l : List Int) (e : Ending) (w' : World) : Prop := ∃ g, e = .returned (.slice (some ⟨g, 0, none⟩) l.length l.length) ∧ w.heap.size ≤ g ∧ g < w'.heap.size ∧ IntAt w' g 0 l ∧ Below w.heap.size w w'
theorem CopyInt.done {w wr : World} {g : Nat} {l : List Int} (h : CopyInt w g l l.length wr) : IntAt wr g 0 l := by
  obtain ⟨cs, hb, hs, hc, _⟩ := h
  exact IntAt.of_block hb (fun j r hr => hc j r (List.getElem?_eq_some_iff.1 hr).1 hr)

set_option maxHeartbeats 1600000 in
theorem toIntS_any (v : Value) (l : List Int) (w : World) (hv : IntSl w v l) (hlen : l.length ≤ 1048576) :
    Calls Tryd.prog 19 #[v] w (NewInt w l) := by
  obtain ⟨A, c, rfl, hA⟩ := hv.form
  have HA := Lib.hid hA
  clear hA hv
  have hmk := make_int l.length hlen
  go_enter Tryd.func19, Tryd.ntmps19
  go_wp2_with fail
  go_loopw [4] (fun s4 wr => ∃ k : Nat, k ≤ l.length ∧ s4 = .int .i64 k ∧ CopyInt w w.heap.size l k wr) (fun s4 _ => (l.length - intOf s4).toNat)
  case atStart =>
    exact ⟨0, by omega, rfl, _, BlockIs.new _ _ _, by simpa using size_madeCells _ _, fun i r hi => absurd hi (by omega), (by repeat' (first | exact Below.refl _ _ | refine Below.alloc ?_ ?_ _ | refine Below.setCell ?_ ?_ _ | refine Below.drew ?_ | (apply below_step; assumption) | (simp; done) | (simp; omega) | omega))⟩
  case round =>
    obtain ⟨k, hk, rfl, HC⟩ := hrel
    by_cases hlt : k < l.length
    · obtain ⟨b, off, rfl, hbw, hat⟩ := HA.out (by omega)
      obtain ⟨r, hr⟩ : ∃ r, l[k]? = some r := ⟨_, List.getElem?_eq_getElem hlt⟩
      obtain ⟨cs, hblk, hs, hc, hB⟩ := HC
      have q0 := (hat.below hB hbw) k r hr
      have hzr := hB.size
      have hgl := hblk.lt
      have HR := Lib.hid hr
      have HCC := Lib.hid hc
      have HBL := Lib.hid hblk
      have HSZ := Lib.hid hs
      have u0 : wr.cell? ⟨w.heap.size, k, none⟩ = some (cs[k]'(by omega)) := by rw [hblk.cell]; exact Array.getElem?_eq_getElem (by omega)
      generalize cs[k]'(by omega) = x0 at u0
      have uf := hblk.frozen
      clear hat hr hc hblk hs
      go_wp2_with fail
      go_roundw
      case rel =>
        refine ⟨k + 1, by omega, by go_num, CopyInt.put HSZ.out HR.out HCC.out ?_ (by repeat' (first | exact Below.refl _ _ | refine Below.alloc ?_ ?_ _ | refine Below.setCell ?_ ?_ _ | refine Below.drew ?_ | (apply below_step; assumption) | (simp; done) | (simp; omega) | omega))⟩
        exact HBL.out.put _ _
      case measure => simp [intOf]; omega
    · have hkl : k = l.length := by omega
      subst hkl
      have HD := Lib.hid HC.done
      obtain ⟨cs, hblk, hs, hc, hB⟩ := HC
      have hgl := hblk.lt
      clear hblk hs hc
      go_wp2_with fail
      go_ret
      exact ⟨w.heap.size, rfl, Nat.le_refl _, hgl, HD.out, hB⟩

set_option maxHeartbeats 1600000 in
theorem eqIntS_same (v1 v2 : Value) (l : List Int) (w : World) (h1 : IntSl w v1 l) (h2 : IntSl w v2 l) (hlen : l.length ≤ 1048576) :
    Calls Tryd.prog 25 #[v1, v2] w fun e w' => e = .returned (.bool true) ∧ Below w.heap.size w w' := by
  obtain ⟨A, c, rfl, hA⟩ := h1.form
  obtain ⟨A2, c2, rfl, hA2⟩ := h2.form
  have HA := Lib.hid hA
  have HA2 := Lib.hid hA2
  clear hA hA2 h1 h2
  have hnn : ((l.length : Int) != (l.length : Int)) = false := by simp
  go_enter Tryd.func25, Tryd.ntmps25
  go_wp2_with fail
  go_loopw [5] (fun s5 wr => ∃ k : Nat, k ≤ l.length ∧ s5 = .int .i64 k ∧ Below w.heap.size w wr) (fun s5 _ => (l.length - intOf s5).toNat)
  case atStart => exact ⟨0, by omega, rfl, Below.refl _ _⟩
  case round =>
    obtain ⟨k, hk, rfl, hB⟩ := hrel
    have hzr := hB.size
    by_cases hlt : k < l.length
    · obtain ⟨b, off, rfl, hbw, hat⟩ := HA.out (by omega)
      obtain ⟨b2, off2, rfl, hbw2, hat2⟩ := HA2.out (by omega)
      obtain ⟨r, hr⟩ : ∃ r, l[k]? = some r := ⟨_, List.getElem?_eq_getElem hlt⟩
      have q0 := (hat.below hB hbw) k r hr
      have p0 := (hat2.below hB hbw2) k r hr
      have hlti : (k : Int) < (l.length : Int) := by omega
      have hk0 : (0 : Int) ≤ (k : Int) := by omega
      have hrr : (r != r) = false := by simp
      clear hat hat2 hr
      go_wp2_with fail
      go_quiet (fail)
      go_wp2_with fail
      go_roundw
      case rel => exact ⟨k + 1, by omega, by go_num, below_drewN hB _⟩
      case measure => simp [intOf]; omega
    · go_wp2_with fail
      go_ret
      exact ⟨rfl, hB⟩

end Go.Proofs.YtmkpajjnjgnmkaaDoor

namespace Go.Proofs.YtmkpajjnjgnmkaaDoor
open Go.ChangeShapes Go.WideShapes Go.ChangeAt Go.RowKit Go.Joins

section
variable {H : Type} {enc : TypeId × Value → H} {W : World}
set_option maxRecDepth 100000 in
theorem open_intC {fuel : Nat} {v : Value} {x : DataW H × List MemPlace} (hf : DataW.trod enc Tryd.prog W 0 (fun _ => true) true fuel 25 [v] = some x) :
    ∃ A n c, v = .slice A n c ∧ n ≤ maxLen ∧ ∃ l : List Int, l.length = n ∧ IntSl W v l := by
  have cb : Tryd.prog.cellsOf 3 = 1 := by kernel_rfl
  rcases open_ints Tryd.underlying25 Tryd.underlying3 cb hf with ⟨hcs, hx⟩ | ⟨a, n, c, zs, hcs, _, hl, hm, hz, hx, hcell, hwz⟩
  · simp at hcs
    subst hcs
    exact ⟨none, 0, 0, rfl, by unfold maxLen; omega, [], rfl, .inl ⟨rfl, _, _, rfl⟩⟩
  · simp at hcs
    subst hcs
    rw [if_pos rfl] at hz
    refine ⟨_, n, c, rfl, by omega, zs.take n, by rw [List.length_take]; omega, ?_⟩
    rcases Nat.eq_zero_or_pos n with rfl | hp
    · exact .inl ⟨by simp, _, _, rfl⟩
    · obtain ⟨b, off, rfl, hc⟩ := ints_at hcell (by omega)
      refine .inr ⟨b, off, c, by rw [List.length_take, Nat.min_eq_left (by omega)], by simpa using World.block_lt_of_cell? _ _ (hc 0 (by omega)), fun i r hr => ?_⟩
      have hi : i < n := by
        have := (List.getElem?_eq_some_iff.1 hr).1
        rw [List.length_take] at this; omega
      rw [List.getElem?_take_of_lt hi] at hr
      have := hc i (by omega)
      rw [List.getD, hr] at this
      simpa using this
end
end Go.Proofs.YtmkpajjnjgnmkaaDoor

namespace Go.Proofs.YtmkpajjnjgnmkaaDoor

structure RV where
  c : Int
  m : Int
  p : Int

def RV.ok (r : RV) : Bool := decide (0 ≤ r.c ∧ r.c ≤ 1000000 ∧ 0 ≤ r.m ∧ r.m ≤ 1000000 ∧ 0 ≤ r.p ∧ r.p ≤ 1000000)
theorem RV.ok_iff {r : RV} : r.ok = true ↔ (0 ≤ r.c ∧ r.c ≤ 1000000 ∧ 0 ≤ r.m ∧ r.m ≤ 1000000 ∧ 0 ≤ r.p ∧ r.p ≤ 1000000) := by
  unfold RV.ok; exact decide_eq_true_iff
theorem RV.bad_iff {r : RV} : r.ok = false ↔ ¬ (0 ≤ r.c ∧ r.c ≤ 1000000 ∧ 0 ≤ r.m ∧ r.m ≤ 1000000 ∧ 0 ≤ r.p ∧ r.p ≤ 1000000) := by
  unfold RV.ok; exact decide_eq_false_iff_not
def RV.zero : RV := ⟨0, 0, 0⟩
def RV.add (a b : RV) : RV := ⟨a.c + b.c, a.m + b.m, a.p + b.p⟩
def RetR (r : RV) (b : Bool) (w : World) (e : Ending) (w' : World) : Prop := e = .returned (.tuple #[.agg #[.int .i64 r.c, .int .i64 r.m, .int .i64 r.p], .bool b]) ∧ Go.RowKit.Below w.heap.size w w'
theorem RetR.of {r r' : RV} {b b' : Bool} {w : World} (hr : r' = r) (hb : b' = b) : RetR r b w = RetR r' b' w := by rw [hr, hb]
end Go.Proofs.YtmkpajjnjgnmkaaDoor

namespace Go.Proofs.YtmkpajjnjgnmkaaDoor

structure TV where
  id : Int
  prio : Int
  need : RV
  want : List LV
  tols : List Int
structure NV where
  id : Int
  pool : Int
  cap : RV
  labs : List LV
  taints : List Int
  cordon : Bool
structure BV where
  task : Int
  node : Int
structure CV where
  tasks : List TV
  nodes : List NV
  binds : List BV
def TV.zero : TV := ⟨0, 0, RV.zero, [], []⟩
def NV.zero : NV := ⟨0, 0, RV.zero, [], [], false⟩
def BV.zero : BV := ⟨0, 0⟩
def CV.zero : CV := ⟨[], [], []⟩

def idOk (n : Int) : Bool := decide (1 ≤ n ∧ n ≤ 99)
theorem idOk_iff {n : Int} : idOk n = true ↔ 1 ≤ n ∧ n ≤ 99 := by unfold idOk; exact decide_eq_true_iff
theorem idBad_iff {n : Int} : idOk n = false ↔ ¬ (1 ≤ n ∧ n ≤ 99) := by unfold idOk; exact decide_eq_false_iff_not
def TV.ok (t : TV) : Bool := idOk t.id && decide (0 ≤ t.prio) && decide (t.prio ≤ 9) && t.need.ok && labsOk t.want && labsOk (tl t.tols)
def NV.ok (n : NV) : Bool := idOk n.id && decide (0 ≤ n.pool) && decide (n.pool < 5) && n.cap.ok && labsOk n.labs && labsOk (tl n.taints)
def hosts (n : NV) (t : TV) : Bool := matchOf n.labs t.want && tolOf n.taints t.tols
def canHost (n : NV) (t : TV) : Bool := n.ok && t.ok && hosts n t

section
variable {α : Type} {key : α → Int} {l : List α} {z : Int}
end

end Go.Proofs.YtmkpajjnjgnmkaaDoor

namespace Go.Proofs.YtmkpajjnjgnmkaaDoor
open Go.ChangeShapes Go.WideShapes Go.ChangeAt Go.RowKit Go.Joins

section
variable {H : Type} {enc : TypeId × Value → H} {W : World} {P : Program} {base : Nat} {spare : Nat → Bool} {held : Bool}
theorem trod_struct5 {t : TypeId} {f0 f1 f2 f3 f4 : Field} {fuel : Nat} {cs : List Value} {x : DataW H × List MemPlace} (ht : P.underlying t = some (.struct #[f0, f1, f2, f3, f4])) (h : DataW.trod enc P W base spare held fuel t cs = some x) :
    ∃ y0 y1 y2 y3 y4 n, cs.length = P.cellsOf t ∧ DataW.trod enc P W base spare held n f0.type ((cs.drop f0.offset).take (P.cellsOf f0.type)) = some y0 ∧
      DataW.trod enc P W base spare held n f1.type ((cs.drop f1.offset).take (P.cellsOf f1.type)) = some y1 ∧ DataW.trod enc P W base spare held n f2.type ((cs.drop f2.offset).take (P.cellsOf f2.type)) = some y2 ∧
      DataW.trod enc P W base spare held n f3.type ((cs.drop f3.offset).take (P.cellsOf f3.type)) = some y3 ∧ DataW.trod enc P W base spare held n f4.type ((cs.drop f4.offset).take (P.cellsOf f4.type)) = some y4 := by
  obtain ⟨xs, n, _, rfl, hl, hlen, hf⟩ := DataW.trod_struct ht h
  match xs, hlen with
  | [y0, y1, y2, y3, y4], _ => exact ⟨y0, y1, y2, y3, y4, n, hl, by simpa using hf 0 f0 rfl, by simpa using hf 1 f1 rfl, by simpa using hf 2 f2 rfl, by simpa using hf 3 f3 rfl, by simpa using hf 4 f4 rfl⟩
theorem trod_struct6 {t : TypeId} {f0 f1 f2 f3 f4 f5 : Field} {fuel : Nat} {cs : List Value} {x : DataW H × List MemPlace} (ht : P.underlying t = some (.struct #[f0, f1, f2, f3, f4, f5])) (h : DataW.trod enc P W base spare held fuel t cs = some x) :
    ∃ y0 y1 y2 y3 y4 y5 n, cs.length = P.cellsOf t ∧ DataW.trod enc P W base spare held n f0.type ((cs.drop f0.offset).take (P.cellsOf f0.type)) = some y0 ∧
      DataW.trod enc P W base spare held n f1.type ((cs.drop f1.offset).take (P.cellsOf f1.type)) = some y1 ∧ DataW.trod enc P W base spare held n f2.type ((cs.drop f2.offset).take (P.cellsOf f2.type)) = some y2 ∧
      DataW.trod enc P W base spare held n f3.type ((cs.drop f3.offset).take (P.cellsOf f3.type)) = some y3 ∧ DataW.trod enc P W base spare held n f4.type ((cs.drop f4.offset).take (P.cellsOf f4.type)) = some y4 ∧
      DataW.trod enc P W base spare held n f5.type ((cs.drop f5.offset).take (P.cellsOf f5.type)) = some y5 := by
  obtain ⟨xs, n, _, rfl, hl, hlen, hf⟩ := DataW.trod_struct ht h
  match xs, hlen with
  | [y0, y1, y2, y3, y4, y5], _ => exact ⟨y0, y1, y2, y3, y4, y5, n, hl, by simpa using hf 0 f0 rfl, by simpa using hf 1 f1 rfl, by simpa using hf 2 f2 rfl, by simpa using hf 3 f3 rfl, by simpa using hf 4 f4 rfl, by simpa using hf 5 f5 rfl⟩
theorem agg_of_cells {cs : Array Value} {l : List Value} (h : (Value.agg cs).cells.toList = l) : Value.agg cs = .agg l.toArray := by subst h; simp [Value.cells]
theorem list7 {α : Type} {l : List α} (h : l.length = 7) : ∃ a b c d e f g, l = [a, b, c, d, e, f, g] := by
  match l, h with
  | [a, b, c, d, e, f, g], _ => exact ⟨a, b, c, d, e, f, g, rfl⟩
theorem list8 {α : Type} {l : List α} (h : l.length = 8) : ∃ a b c d e f g i, l = [a, b, c, d, e, f, g, i] := by
  match l, h with
  | [a, b, c, d, e, f, g, i], _ => exact ⟨a, b, c, d, e, f, g, i, rfl⟩
end

section
variable {H : Type} {enc : TypeId × Value → H} {W : World}
theorem Tryd.c_int : Tryd.prog.cellsOf 3 = 1 := by kernel_rfl
theorem Tryd.c_res : Tryd.prog.cellsOf 23 = 3 := by kernel_rfl
theorem Tryd.c_labs : Tryd.prog.cellsOf 24 = 1 := by kernel_rfl
theorem Tryd.c_ints : Tryd.prog.cellsOf 25 = 1 := by kernel_rfl
theorem Tryd.c_bool : Tryd.prog.cellsOf 4 = 1 := by kernel_rfl
theorem Tryd.c_task : Tryd.prog.cellsOf 29 = 7 := by kernel_rfl
theorem Tryd.c_node : Tryd.prog.cellsOf 27 = 8 := by kernel_rfl
set_option maxRecDepth 100000 in
theorem open_taskC {fuel : Nat} {cs : List Value} {x : DataW H × List MemPlace} (h : DataW.trod enc Tryd.prog W 0 (fun _ => true) true fuel 29 cs = some x) :
    ∃ (t : TV) (v1 v2 : Value), cs = [.int .i64 t.id, .int .i64 t.prio, .int .i64 t.need.c, .int .i64 t.need.m, .int .i64 t.need.p, v1, v2] ∧ LabSl W v1 t.want ∧ IntSl W v2 t.tols ∧ t.want.length ≤ maxLen ∧ t.tols.length ≤ maxLen := by
  obtain ⟨y0, y1, y2, y3, y4, n, hl, h0, h1, h2, h3, h4⟩ := trod_struct5 Tryd.underlying29 h
  rw [Tryd.c_task] at hl
  obtain ⟨a, b, c, d, e, f, g, rfl⟩ := list7 hl
  simp only [Tryd.c_int, Tryd.c_res, Tryd.c_labs, Tryd.c_ints] at h0 h1 h2 h3 h4
  simp at h0 h1 h2 h3 h4
  obtain ⟨z0, e0, _, _⟩ := DataW.trod_int Tryd.underlying3 h0
  obtain ⟨z1, e1, _, _⟩ := DataW.trod_int Tryd.underlying3 h1
  obtain ⟨r0, r1, r2, m, _, _, g0, g1, g2⟩ := Go.Deep.trod_struct3 Tryd.underlying23 h2
  simp only [Tryd.c_int] at g0 g1 g2
  simp at g0 g1 g2
  obtain ⟨z2, e2, _, _⟩ := DataW.trod_int Tryd.underlying3 g0
  obtain ⟨z3, e3, _, _⟩ := DataW.trod_int Tryd.underlying3 g1
  obtain ⟨z4, e4, _, _⟩ := DataW.trod_int Tryd.underlying3 g2
  simp at e0 e1 e2 e3 e4
  subst e0 e1 e2 e3 e4
  obtain ⟨A1, n1, c1, _, hn1, l1, hl1, hs1⟩ := open_labC h3
  obtain ⟨A2, n2, c2, _, hn2, l2, hl2, hs2⟩ := open_intC h4
  exact ⟨⟨z0, z1, ⟨z2, z3, z4⟩, l1, l2⟩, f, g, rfl, hs1, hs2, by simp only []; omega, by simp only []; omega⟩
set_option maxRecDepth 100000 in
theorem open_nodeC {fuel : Nat} {cs : List Value} {x : DataW H × List MemPlace} (h : DataW.trod enc Tryd.prog W 0 (fun _ => true) true fuel 27 cs = some x) :
    ∃ (t : NV) (v1 v2 : Value), cs = [.int .i64 t.id, .int .i64 t.pool, .int .i64 t.cap.c, .int .i64 t.cap.m, .int .i64 t.cap.p, v1, v2, .bool t.cordon] ∧ LabSl W v1 t.labs ∧ IntSl W v2 t.taints ∧ t.labs.length ≤ maxLen ∧ t.taints.length ≤ maxLen := by
  obtain ⟨y0, y1, y2, y3, y4, y5, n, hl, h0, h1, h2, h3, h4, h5⟩ := trod_struct6 Tryd.underlying27 h
  rw [Tryd.c_node] at hl
  obtain ⟨a, b, c, d, e, f, g, i, rfl⟩ := list8 hl
  simp only [Tryd.c_int, Tryd.c_res, Tryd.c_labs, Tryd.c_ints, Tryd.c_bool] at h0 h1 h2 h3 h4 h5
  simp at h0 h1 h2 h3 h4 h5
  obtain ⟨z0, e0, _, _⟩ := DataW.trod_int Tryd.underlying3 h0
  obtain ⟨z1, e1, _, _⟩ := DataW.trod_int Tryd.underlying3 h1
  obtain ⟨r0, r1, r2, m, _, _, g0, g1, g2⟩ := Go.Deep.trod_struct3 Tryd.underlying23 h2
  simp only [Tryd.c_int] at g0 g1 g2
  simp at g0 g1 g2
  obtain ⟨z2, e2, _, _⟩ := DataW.trod_int Tryd.underlying3 g0
  obtain ⟨z3, e3, _, _⟩ := DataW.trod_int Tryd.underlying3 g1
  obtain ⟨z4, e4, _, _⟩ := DataW.trod_int Tryd.underlying3 g2
  obtain ⟨z5, e5, _⟩ := DataW.trod_bool Tryd.underlying4 h5
  simp at e0 e1 e2 e3 e4 e5
  subst e0 e1 e2 e3 e4 e5
  obtain ⟨A1, n1, c1, _, hn1, l1, hl1, hs1⟩ := open_labC h3
  obtain ⟨A2, n2, c2, _, hn2, l2, hl2, hs2⟩ := open_intC h4
  exact ⟨⟨z0, z1, ⟨z2, z3, z4⟩, l1, l2, z5⟩, f, g, rfl, hs1, hs2, by simp only []; omega, by simp only []; omega⟩
set_option maxRecDepth 100000 in
theorem open_task {base : Nat} {v : Value} {d : DataW H} {p : List MemPlace} (hv : Value.okWide Tryd.prog W .any base 29 v) (h : DataW.Trod enc Tryd.prog W 0 (fun _ => true) true 29 v d p) :
    ∃ (t : TV) (v1 v2 : Value), v = .agg #[.int .i64 t.id, .int .i64 t.prio, .int .i64 t.need.c, .int .i64 t.need.m, .int .i64 t.need.p, v1, v2] ∧ LabSl W v1 t.want ∧ IntSl W v2 t.tols ∧ t.want.length ≤ maxLen ∧ t.tols.length ≤ maxLen := by
  obtain ⟨cs, rfl, _⟩ := okWide_struct Tryd.underlying29 hv
  obtain ⟨fuel, hf⟩ := h
  obtain ⟨t, v1, v2, e, h1, h2, h3, h4⟩ := open_taskC hf
  refine ⟨t, v1, v2, ?_, h1, h2, h3, h4⟩
  rw [agg_of_cells e]
set_option maxRecDepth 100000 in
theorem open_node {base : Nat} {v : Value} {d : DataW H} {p : List MemPlace} (hv : Value.okWide Tryd.prog W .any base 27 v) (h : DataW.Trod enc Tryd.prog W 0 (fun _ => true) true 27 v d p) :
    ∃ (t : NV) (v1 v2 : Value), v = .agg #[.int .i64 t.id, .int .i64 t.pool, .int .i64 t.cap.c, .int .i64 t.cap.m, .int .i64 t.cap.p, v1, v2, .bool t.cordon] ∧ LabSl W v1 t.labs ∧ IntSl W v2 t.taints ∧ t.labs.length ≤ maxLen ∧ t.taints.length ≤ maxLen := by
  obtain ⟨cs, rfl, _⟩ := okWide_struct Tryd.underlying27 hv
  obtain ⟨fuel, hf⟩ := h
  obtain ⟨t, v1, v2, e, h1, h2, h3, h4⟩ := open_nodeC hf
  refine ⟨t, v1, v2, ?_, h1, h2, h3, h4⟩
  rw [agg_of_cells e]
end
end Go.Proofs.YtmkpajjnjgnmkaaDoor

namespace Go.Proofs.YtmkpajjnjgnmkaaDoor
open Go.RowKit Go.Extern.Stop Go.Stop Go.Extern

theorem Tryd.isTypeOf (v : Value) (w : World) : (Extern.ReflectliteType.typeOf #[.iface 100 v]).run Tryd.prog w = .ok (.iface 91 (.agg #[.pointer (some ⟨1, 100, none⟩)])) w := by kernel_rfl
theorem Tryd.callComparable (w : World) : (callFunc 76 #[.agg #[.pointer (some ⟨1, 100, none⟩)]]).run Tryd.prog w = .ok (.value (.bool true)) w := by kernel_rfl
theorem Tryd.isMethodComparable (v : Value) (w : World) : (Go.method 239 91 v "Comparable").run Tryd.prog w = .ok (76, v) w := by kernel_rfl
theorem Tryd.methodUnwrap (v : Value) (w : World) : (Go.method 239 82 v "Unwrap").run Tryd.prog w = .ok (72, v) w := by kernel_rfl
theorem Tryd.isComp : (Tryd.prog.info? 100).map (·.comparable) = some true := by kernel_rfl
theorem Tryd.isSize : (Tryd.prog.info? 127).map (·.size) = some 1 := by kernel_rfl
theorem Tryd.noIsF (v : Value) (xT : TypeId) (w : World) : (Instr.typeAssert (.iface 82 v) xT 93 true).run Tryd.prog w = .ok (.tuple #[.nilIface, .bool false]) w := run_typeAssert_lacksB Tryd.underlying93 (by kernel_rfl) (by kernel_rfl) v xT w
theorem Tryd.hasUnwrapF (v : Value) (xT : TypeId) (w : World) : (Instr.typeAssert (.iface 82 v) xT 95 true).run Tryd.prog w = .ok (.tuple #[.iface 82 v, .bool true]) w := run_typeAssert_hasB Tryd.underlying95 (by kernel_rfl) v xT w

theorem is_nil (b : Addr) (w : World) :
    Calls Tryd.prog 48 #[.nilIface, .iface 100 (.pointer (some b))] w fun e w' => e = .returned (.bool false) ∧ w = w' := by
  have hn := run_eql_iface_nil_left (P := Tryd.prog) w 100 (.pointer (some b)) Tryd.underlying68
  go_enter Tryd.func48, Tryd.ntmps48
  go_wp2
  go_ret
  exact ⟨rfl, rfl⟩

set_option maxRecDepth 1000000 in
theorem is_field (s : ByteArray) (b : Addr) (w : World) :
    Calls Tryd.prog 48 #[.iface 82 (.agg #[.string s, .iface 100 (.pointer (some b))]), .iface 100 (.pointer (some b))] w fun e w' => e = .returned (.bool true) ∧ Below w.heap.size w w' := by
  obtain ⟨i, hi, hcmp⟩ := Option.map_eq_some_iff.1 Tryd.isComp
  obtain ⟨j, hj, hjs⟩ := Option.map_eq_some_iff.1 Tryd.isSize
  have h8 := @run_callFunc_extern Tryd.prog 52 _ Extern.ReflectliteType.typeOf Tryd.func52 (by kernel_rfl) (by kernel_rfl) (by kernel_rfl) (by kernel_rfl)
  have tT := Tryd.isTypeOf
  have cT := Tryd.callComparable
  have mR := Tryd.isMethodComparable
  have mU := Tryd.methodUnwrap
  have nE := Tryd.noIsF
  have uE := Tryd.hasUnwrapF
  have heq := fun w => run_eql_iface_ptr_same (P := Tryd.prog) w b Tryd.underlying68 Tryd.underlying100 hi hcmp hj
  have hty := fun w => run_eql_iface_types (P := Tryd.prog) 82 100 (.agg #[.string s, .iface 100 (.pointer (some b))]) (.pointer (some b)) Tryd.underlying68 (by decide) w
  go_enter Tryd.func48, Tryd.ntmps48
  go_wp2
  refine wp_loop_rounds 2 ?_
  rw [rounds_succ]
  go_wp2
  rw [rounds_succ]
  go_wp2
  go_ret
  exact ⟨rfl, (Below.refl _ _).alloc (Nat.le_refl _) _⟩
end Go.Proofs.YtmkpajjnjgnmkaaDoor

namespace Go.Proofs.YtmkpajjnjgnmkaaDoor
open Go.RowKit

def ErrAt (a : Addr) (w : World) : Prop := w.cell? ⟨0, 0, none⟩ = some (.iface 100 (.pointer (some a)))
theorem ErrAt.lt {a : Addr} {w : World} (h : ErrAt a w) : 0 < w.heap.size := by
  rcases Nat.lt_or_ge 0 w.heap.size with h' | h'
  · exact h'
  · simp [ErrAt, World.cell?, Array.getElem?_eq_none h'] at h
theorem ErrAt.below {a : Addr} {w w' : World} {B : Nat} (h : ErrAt a w) (hb : Below B w w') (hB : w.heap.size ≤ B) : ErrAt a w' := by
  have hl := h.lt
  unfold ErrAt at *
  rw [hb.cell (p := ⟨0, 0, none⟩) (Nat.lt_of_lt_of_le hl hB)]; exact h
theorem ErrAt.alloc {a : Addr} {w : World} (h : ErrAt a w) (o : Obj) : ErrAt a (w.alloc o) := h.below ((Below.refl _ _).alloc (Nat.le_refl _) o) (Nat.le_refl _)

def BadAt (a : Addr) (w : World) (e : Ending) (w' : World) : Prop := ∃ s : ByteArray, e = .returned (.iface 82 (.agg #[.string s, .iface 100 (.pointer (some a))])) ∧ Below w.heap.size w w'

theorem Tryd.ix0 (x0 x1 x2 x3 x4 x5 : Value) (w : World) : (Instr.index 79 (.agg #[x0, x1, x2, x3, x4, x5]) (.int .i64 0)).run Tryd.prog w = .ok (.agg #[x0, x1]) w := by kernel_rfl
theorem Tryd.ix1 (x0 x1 x2 x3 x4 x5 : Value) (w : World) : (Instr.index 79 (.agg #[x0, x1, x2, x3, x4, x5]) (.int .i64 1)).run Tryd.prog w = .ok (.agg #[x2, x3]) w := by kernel_rfl
theorem Tryd.ix2 (x0 x1 x2 x3 x4 x5 : Value) (w : World) : (Instr.index 79 (.agg #[x0, x1, x2, x3, x4, x5]) (.int .i64 2)).run Tryd.prog w = .ok (.agg #[x4, x5]) w := by kernel_rfl

theorem fieldsOf_any (r : RV) (w : World) :
    Calls Tryd.prog 49 #[.agg #[.int .i64 r.c, .int .i64 r.m, .int .i64 r.p]] w fun e w' => e = .returned (.agg #[.string ⟨#[67, 112, 117]⟩, .int .i64 r.c, .string ⟨#[77, 101, 109]⟩, .int .i64 r.m, .string ⟨#[80, 111, 100, 115]⟩, .int .i64 r.p]) ∧ Below w.heap.size w w' := by
  go_enter Tryd.func49, Tryd.ntmps49
  go_wp2
  exact bodyPost_ret (v := .agg #[.string ⟨#[67, 112, 117]⟩, .int .i64 r.c, .string ⟨#[77, 101, 109]⟩, .int .i64 r.m, .string ⟨#[80, 111, 100, 115]⟩, .int .i64 r.p]) (by simp [results, Tryd.results49, go_sem]) rfl ⟨rfl, (by repeat' (first | exact Below.refl _ _ | refine Below.alloc ?_ ?_ _ | refine Below.setCell ?_ ?_ _ | refine Below.drew ?_ | (apply below_step; assumption) | (simp; done) | (simp; omega) | omega))⟩

theorem checkRes_ok (r : RV) (w : World) (h1 : 0 ≤ r.c) (h2 : r.c ≤ 1000000) (h3 : 0 ≤ r.m) (h4 : r.m ≤ 1000000) (h5 : 0 ≤ r.p) (h6 : r.p ≤ 1000000) :
    Calls Tryd.prog 44 #[.agg #[.int .i64 r.c, .int .i64 r.m, .int .i64 r.p]] w fun e w' => e = .returned .nilIface ∧ Below w.heap.size w w' := by
  have i0 := Tryd.ix0
  have i1 := Tryd.ix1
  have i2 := Tryd.ix2
  go_enter Tryd.func44, Tryd.ntmps44
  go_wp2_with (go_at_call 49; refine (fieldsOf_any r _).mono ?_; rintro e w1 ⟨rfl, hb⟩)
  have hz := hb.size
  simp at hz
  refine wp_loop_rounds 4 ?_
  rw [rounds_succ]
  go_wp2
  rw [rounds_succ]
  go_wp2
  rw [rounds_succ]
  go_wp2
  rw [rounds_succ]
  go_wp2
  go_ret
  exact ⟨rfl, (by repeat' (first | exact Below.refl _ _ | refine Below.alloc ?_ ?_ _ | refine Below.setCell ?_ ?_ _ | refine Below.drew ?_ | (apply below_step; assumption) | (simp; done) | (simp; omega) | omega))⟩

theorem checkRes_bad1 (r : RV) (w : World) (a : Addr) (hg : ErrAt a w) (h : r.c < 0 ∨ 1000000 < r.c) :
    Calls Tryd.prog 44 #[.agg #[.int .i64 r.c, .int .i64 r.m, .int .i64 r.p]] w (BadAt a w) := by
  have hl := hg.lt
  have i0 := Tryd.ix0
  rcases h with h | h
  all_goals
    go_enter Tryd.func44, Tryd.ntmps44
    go_wp2_with (go_at_call 49; refine (fieldsOf_any r _).mono ?_; rintro e w1 ⟨rfl, hb⟩)
    have hz := hb.size
    simp at hz
    have hg1 := (hg.alloc _).below hb (Nat.le_refl _)
    have hl1 := hg1.lt
    have hl0 : 0 < w1.heap.size := by omega
    unfold ErrAt at hg1
    refine wp_loop_rounds 1 ?_
    rw [rounds_succ]
    go_wp2
    go_ret
    exact ⟨_, rfl, (by repeat' (first | exact Below.refl _ _ | refine Below.alloc ?_ ?_ _ | refine Below.setCell ?_ ?_ _ | refine Below.drew ?_ | (apply below_step; assumption) | (simp; done) | (simp; omega) | omega))⟩

theorem checkRes_bad2 (r : RV) (w : World) (a : Addr) (hg : ErrAt a w) (h1 : 0 ≤ r.c) (h2 : r.c ≤ 1000000) (h : r.m < 0 ∨ 1000000 < r.m) :
    Calls Tryd.prog 44 #[.agg #[.int .i64 r.c, .int .i64 r.m, .int .i64 r.p]] w (BadAt a w) := by
  have hl := hg.lt
  have i0 := Tryd.ix0
  have i1 := Tryd.ix1
  rcases h with h | h
  all_goals
    go_enter Tryd.func44, Tryd.ntmps44
    go_wp2_with (go_at_call 49; refine (fieldsOf_any r _).mono ?_; rintro e w1 ⟨rfl, hb⟩)
    have hz := hb.size
    simp at hz
    have hg1 := (hg.alloc _).below hb (Nat.le_refl _)
    have hl1 := hg1.lt
    have hl0 : 0 < w1.heap.size := by omega
    unfold ErrAt at hg1
    refine wp_loop_rounds 2 ?_
    rw [rounds_succ]
    go_wp2
    rw [rounds_succ]
    go_wp2
    go_ret
    exact ⟨_, rfl, (by repeat' (first | exact Below.refl _ _ | refine Below.alloc ?_ ?_ _ | refine Below.setCell ?_ ?_ _ | refine Below.drew ?_ | (apply below_step; assumption) | (simp; done) | (simp; omega) | omega))⟩

theorem checkRes_bad3 (r : RV) (w : World) (a : Addr) (hg : ErrAt a w) (h1 : 0 ≤ r.c) (h2 : r.c ≤ 1000000) (h3 : 0 ≤ r.m) (h4 : r.m ≤ 1000000) (h : r.p < 0 ∨ 1000000 < r.p) :
    Calls Tryd.prog 44 #[.agg #[.int .i64 r.c, .int .i64 r.m, .int .i64 r.p]] w (BadAt a w) := by
  have hl := hg.lt
  have i0 := Tryd.ix0
  have i1 := Tryd.ix1
  have i2 := Tryd.ix2
  rcases h with h | h
  all_goals
    go_enter Tryd.func44, Tryd.ntmps44
    go_wp2_with (go_at_call 49; refine (fieldsOf_any r _).mono ?_; rintro e w1 ⟨rfl, hb⟩)
    have hz := hb.size
    simp at hz
    have hg1 := (hg.alloc _).below hb (Nat.le_refl _)
    have hl1 := hg1.lt
    have hl0 : 0 < w1.heap.size := by omega
    unfold ErrAt at hg1
    refine wp_loop_rounds 3 ?_
    rw [rounds_succ]
    go_wp2
    rw [rounds_succ]
    go_wp2
    rw [rounds_succ]
    go_wp2
    go_ret
    exact ⟨_, rfl, (by repeat' (first | exact Below.refl _ _ | refine Below.alloc ?_ ?_ _ | refine Below.setCell ?_ ?_ _ | refine Below.drew ?_ | (apply below_step; assumption) | (simp; done) | (simp; omega) | omega))⟩

theorem checkRes_yes (r : RV) (w : World) (h : r.ok = true) :
    Calls Tryd.prog 44 #[.agg #[.int .i64 r.c, .int .i64 r.m, .int .i64 r.p]] w fun e w' => e = .returned .nilIface ∧ Below w.heap.size w w' := by
  obtain ⟨h1, h2, h3, h4, h5, h6⟩ := RV.ok_iff.1 h
  exact checkRes_ok r w h1 h2 h3 h4 h5 h6
theorem checkRes_no (r : RV) (w : World) (a : Addr) (hg : ErrAt a w) (h : r.ok = false) : Calls Tryd.prog 44 #[.agg #[.int .i64 r.c, .int .i64 r.m, .int .i64 r.p]] w (BadAt a w) := by
  have h' := RV.bad_iff.1 h
  by_cases hc : 0 ≤ r.c ∧ r.c ≤ 1000000
  · by_cases hm : 0 ≤ r.m ∧ r.m ≤ 1000000
    · exact checkRes_bad3 r w a hg hc.1 hc.2 hm.1 hm.2 (by omega)
    · exact checkRes_bad2 r w a hg hc.1 hc.2 (by omega)
  · exact checkRes_bad1 r w a hg (by omega)
end Go.Proofs.YtmkpajjnjgnmkaaDoor

namespace Go.Proofs.YtmkpajjnjgnmkaaDoor
open Go.ChangeShapes Go.WideShapes Go.ChangeAt Go.RowKit Go.Joins

theorem Tryd.errG : Tryd.prog.globalNamed "loop.example/g00718/impl.errRange" = some 0 := by kernel_rfl
theorem Tryd.errT : (Tryd.prog.globals[0]?).map (·.type) = some 68 := by kernel_rfl
theorem Tryd.cellsEs : Tryd.prog.cellsOf 127 = 1 := by kernel_rfl
theorem Tryd.cellsStr : Tryd.prog.cellsOf 9 = 1 := by kernel_rfl
theorem Tryd.star : "*" ++ "errors.errorString" = "*errors.errorString" := by decide
theorem Tryd.rowPtr : ∀ u, Tryd.prog.typeName? 3 u = some "*errors.errorString" → u = 100 := fun u h =>
  typeName_ptr_named (nm := "errors.errorString") (by rw [Tryd.star]; kernel_rfl) (by kernel_rfl) (by decide) u (by rw [Tryd.star]; exact h)
theorem errAt_of_laid {r : List (String × DataW Unit)} {W : World} (h : laidMet Tryd.prog (("loop.example/g00718/impl.errRange", Rows.laid_loop_example_g00718_impl_errRange) :: r) W) : ∃ a, ErrAt a W := by
  obtain ⟨a, s, hv, _⟩ := laid_sentinel h Tryd.errG Tryd.errT Tryd.underlying68 Tryd.rowPtr Tryd.underlying100 Tryd.underlying127 rfl rfl Tryd.underlying9 Tryd.cellsEs Tryd.cellsStr
  exact ⟨a, by simpa [ErrAt] using World.var?_cell Tryd.errG hv 0⟩

theorem errVars : ∀ n ∈ ["loop.example/g00718/impl.errRange"], ∃ g t ms, Tryd.prog.globalNamed n = some g ∧ (Tryd.prog.globals[g]?).map (·.type) = some t ∧ Tryd.prog.underlying t = some (.interface ms) := fun n hn => by
  obtain rfl := List.mem_singleton.1 hn
  exact ⟨_, _, _, Tryd.errG, Tryd.errT, Tryd.underlying68⟩
end Go.Proofs.YtmkpajjnjgnmkaaDoor

namespace Go.Proofs.YtmkpajjnjgnmkaaDoor
open Go.RowKit

theorem l01Amount_yes (n : Int) (w : World) (h1 : 0 ≤ n) (h2 : n ≤ 1000000) :
    Calls Tryd.prog 40 #[.int .i64 n] w fun e w' => e = .returned (.bool true) ∧ w = w' := by
  go_enter Tryd.func40, Tryd.ntmps40
  go_wp2
  go_ret
  exact ⟨by simp, rfl⟩
theorem l01Amount_no (n : Int) (w : World) (h : ¬ (0 ≤ n ∧ n ≤ 1000000)) :
    Calls Tryd.prog 40 #[.int .i64 n] w fun e w' => e = .returned (.bool false) ∧ w = w' := by
  by_cases h1 : 0 ≤ n
  · have h2 : 1000000 < n := by omega
    clear h
    go_enter Tryd.func40, Tryd.ntmps40
    go_wp2
    go_ret
    exact ⟨by simp; omega, rfl⟩
  · have h2 : n < 0 := by omega
    clear h h1
    go_enter Tryd.func40, Tryd.ntmps40
    go_wp2
    go_ret
    exact ⟨by simp, rfl⟩

theorem sResOk_any (r : RV) (w : World) :
    Calls Tryd.prog 27 #[.agg #[.int .i64 r.c, .int .i64 r.m, .int .i64 r.p]] w fun e w' => e = .returned (.bool r.ok) ∧ Below w.heap.size w w' := by
  by_cases hc : 0 ≤ r.c ∧ r.c ≤ 1000000
  · by_cases hm : 0 ≤ r.m ∧ r.m ≤ 1000000
    · by_cases hp : 0 ≤ r.p ∧ r.p ≤ 1000000
      · have H := Lib.hid (RV.ok_iff.2 ⟨hc.1, hc.2, hm.1, hm.2, hp.1, hp.2⟩)
        have HC := Lib.hid hc
        have HM := Lib.hid hm
        have HP := Lib.hid hp
        clear hc hm hp
        go_enter Tryd.func27, Tryd.ntmps27
        go_wp2_with fail
        refine (l01Amount_yes r.c _ HC.out.1 HC.out.2).mono ?_
        rintro e w1 ⟨rfl, rfl⟩
        go_wp2_with fail
        refine (l01Amount_yes r.m _ HM.out.1 HM.out.2).mono ?_
        rintro e w1 ⟨rfl, rfl⟩
        go_wp2_with fail
        refine (l01Amount_yes r.p _ HP.out.1 HP.out.2).mono ?_
        rintro e w1 ⟨rfl, rfl⟩
        go_wp2_with fail
        go_ret
        exact ⟨by rw [H.out]; rfl, (by repeat' (first | exact Below.refl _ _ | refine Below.alloc ?_ ?_ _ | refine Below.setCell ?_ ?_ _ | refine Below.drew ?_ | (apply below_step; assumption) | (simp; done) | (simp; omega) | omega))⟩
      · have H := Lib.hid (RV.bad_iff.2 (fun h => hp ⟨h.2.2.2.2.1, h.2.2.2.2.2⟩))
        have HC := Lib.hid hc
        have HM := Lib.hid hm
        have HP := Lib.hid hp
        clear hc hm hp
        go_enter Tryd.func27, Tryd.ntmps27
        go_wp2_with fail
        refine (l01Amount_yes r.c _ HC.out.1 HC.out.2).mono ?_
        rintro e w1 ⟨rfl, rfl⟩
        go_wp2_with fail
        refine (l01Amount_yes r.m _ HM.out.1 HM.out.2).mono ?_
        rintro e w1 ⟨rfl, rfl⟩
        go_wp2_with fail
        refine (l01Amount_no r.p _ HP.out).mono ?_
        rintro e w1 ⟨rfl, rfl⟩
        go_wp2_with fail
        go_ret
        exact ⟨by rw [H.out]; rfl, (by repeat' (first | exact Below.refl _ _ | refine Below.alloc ?_ ?_ _ | refine Below.setCell ?_ ?_ _ | refine Below.drew ?_ | (apply below_step; assumption) | (simp; done) | (simp; omega) | omega))⟩
    · have H := Lib.hid (RV.bad_iff.2 (fun h => hm ⟨h.2.2.1, h.2.2.2.1⟩))
      have HC := Lib.hid hc
      have HM := Lib.hid hm
      clear hc hm
      go_enter Tryd.func27, Tryd.ntmps27
      go_wp2_with fail
      refine (l01Amount_yes r.c _ HC.out.1 HC.out.2).mono ?_
      rintro e w1 ⟨rfl, rfl⟩
      go_wp2_with fail
      refine (l01Amount_no r.m _ HM.out).mono ?_
      rintro e w1 ⟨rfl, rfl⟩
      go_wp2_with fail
      go_ret
      exact ⟨by rw [H.out]; rfl, (by repeat' (first | exact Below.refl _ _ | refine Below.alloc ?_ ?_ _ | refine Below.setCell ?_ ?_ _ | refine Below.drew ?_ | (apply below_step; assumption) | (simp; done) | (simp; omega) | omega))⟩
  · have H := Lib.hid (RV.bad_iff.2 (fun h => hc ⟨h.1, h.2.1⟩))
    have HC := Lib.hid hc
    clear hc
    go_enter Tryd.func27, Tryd.ntmps27
    go_wp2_with fail
    refine (l01Amount_no r.c _ HC.out).mono ?_
    rintro e w1 ⟨rfl, rfl⟩
    go_wp2_with fail
    go_ret
    exact ⟨by rw [H.out]; rfl, (by repeat' (first | exact Below.refl _ _ | refine Below.alloc ?_ ?_ _ | refine Below.setCell ?_ ?_ _ | refine Below.drew ?_ | (apply below_step; assumption) | (simp; done) | (simp; omega) | omega))⟩

theorem toRes_any (r : RV) (w : World) :
    Calls Tryd.prog 17 #[.agg #[.int .i64 r.c, .int .i64 r.m, .int .i64 r.p]] w fun e w' => e = .returned (.agg #[.int .i64 r.c, .int .i64 r.m, .int .i64 r.p]) ∧ Below w.heap.size w w' := by
  go_enter Tryd.func17, Tryd.ntmps17
  go_wp2
  exact bodyPost_ret (v := .agg #[.int .i64 r.c, .int .i64 r.m, .int .i64 r.p]) (by simp [results, Tryd.results17, go_sem]) rfl ⟨rfl, (by repeat' (first | exact Below.refl _ _ | refine Below.alloc ?_ ?_ _ | refine Below.setCell ?_ ?_ _ | refine Below.drew ?_ | (apply below_step; assumption) | (simp; done) | (simp; omega) | omega))⟩
theorem eqRes_same (r : RV) (w : World) :
    Calls Tryd.prog 23 #[.agg #[.int .i64 r.c, .int .i64 r.m, .int .i64 r.p], .agg #[.int .i64 r.c, .int .i64 r.m, .int .i64 r.p]] w fun e w' => e = .returned (.bool true) ∧ Below w.heap.size w w' := by
  have h1 : (r.c != r.c) = false := by simp
  have h2 : (r.m != r.m) = false := by simp
  have h3 : (r.p != r.p) = false := by simp
  go_enter Tryd.func23, Tryd.ntmps23
  go_wp2
  go_ret
  exact ⟨rfl, (by repeat' (first | exact Below.refl _ _ | refine Below.alloc ?_ ?_ _ | refine Below.setCell ?_ ?_ _ | refine Below.drew ?_ | (apply below_step; assumption) | (simp; done) | (simp; omega) | omega))⟩

end Go.Proofs.YtmkpajjnjgnmkaaDoor

namespace Go.Proofs.YtmkpajjnjgnmkaaDoor
open Go.RowKit

theorem szIntS_yes (A : Option Addr) (n c : Nat) (z : Int) (w : World) (hz : z ≤ 1048576) (h : (n : Int) ≤ z) :
    Calls Tryd.prog 13 #[.slice A n c, .int .i64 z] w fun e w' => e = .returned (.int .i64 (z - n)) ∧ w = w' := by
  go_enter Tryd.func13, Tryd.ntmps13
  go_wp2
  go_ret
  exact ⟨rfl, rfl⟩
theorem szIntS_no (A : Option Addr) (n c : Nat) (z : Int) (w : World) (h0 : 0 ≤ z) (h : z < n) (hm : n ≤ maxLen) :
    Calls Tryd.prog 13 #[.slice A n c, .int .i64 z] w fun e w' => e = .returned (.int .i64 (-1)) ∧ w = w' := by
  unfold maxLen at hm
  go_enter Tryd.func13, Tryd.ntmps13
  go_wp2
  go_ret
  exact ⟨rfl, rfl⟩

def szLeft (z : Int) (n : Nat) : Int := if (n : Int) ≤ z then z - n else -1
def szTV (z : Int) (a b : Nat) : Int := if (a : Int) ≤ z then szLeft (z - a) b else -1

set_option maxHeartbeats 800000 in
theorem szTask_any (c0 c1 c2 c3 c4 : Value) (A1 A2 : Option Addr) (n1 k1 n2 k2 : Nat) (z : Int) (w : World) (h0 : 0 ≤ z) (hz : z ≤ 1048576) (hm1 : n1 ≤ maxLen) (hm2 : n2 ≤ maxLen) :
    Calls Tryd.prog 5 #[.agg #[c0, c1, c2, c3, c4, .slice A1 n1 k1, .slice A2 n2 k2], .int .i64 z] w fun e w' => e = .returned (.int .i64 (szTV z n1 n2)) ∧ Below w.heap.size w w' := by
  by_cases h1 : (n1 : Int) ≤ z
  · by_cases h2 : (n2 : Int) ≤ z - n1
    · have HE := Lib.hid (show szTV z n1 n2 = z - n1 - n2 by simp [szTV, h1, szLeft, h2])
      have HM := Lib.hid (And.intro hm1 hm2)
      clear hm1 hm2
      go_enter Tryd.func5, Tryd.ntmps5
      go_wp2_with fail
      refine (szLabS_yes A1 n1 k1 z _ hz h1).mono ?_
      rintro e w1 ⟨rfl, rfl⟩
      go_wp2_with fail
      refine (szIntS_yes A2 n2 k2 (z - n1) _ (by omega) h2).mono ?_
      rintro e w1 ⟨rfl, rfl⟩
      go_wp2_with fail
      go_ret
      rw [HE.out]
      exact ⟨rfl, (by repeat' (first | exact Below.refl _ _ | refine Below.alloc ?_ ?_ _ | refine Below.setCell ?_ ?_ _ | refine Below.drew ?_ | (apply below_step; assumption) | (simp; done) | (simp; omega) | omega))⟩
    · have HE := Lib.hid (show szTV z n1 n2 = -1 by simp [szTV, h1, szLeft, h2])
      have HM := Lib.hid (And.intro hm1 hm2)
      have h2' : z - n1 < n2 := by omega
      clear hm1 hm2 h2
      go_enter Tryd.func5, Tryd.ntmps5
      go_wp2_with fail
      refine (szLabS_yes A1 n1 k1 z _ hz h1).mono ?_
      rintro e w1 ⟨rfl, rfl⟩
      go_wp2_with fail
      refine (szIntS_no A2 n2 k2 (z - n1) _ (by omega) h2' HM.out.2).mono ?_
      rintro e w1 ⟨rfl, rfl⟩
      go_wp2_with fail
      go_ret
      rw [HE.out]
      exact ⟨rfl, (by repeat' (first | exact Below.refl _ _ | refine Below.alloc ?_ ?_ _ | refine Below.setCell ?_ ?_ _ | refine Below.drew ?_ | (apply below_step; assumption) | (simp; done) | (simp; omega) | omega))⟩
  · have HE := Lib.hid (show szTV z n1 n2 = -1 by simp [szTV, h1])
    have HM := Lib.hid (And.intro hm1 hm2)
    have h1' : z < n1 := by omega
    clear hm1 hm2 h1
    go_enter Tryd.func5, Tryd.ntmps5
    go_wp2_with fail
    refine (szLabS_no A1 n1 k1 z _ h0 h1' HM.out.1).mono ?_
    rintro e w1 ⟨rfl, rfl⟩
    go_wp2_with fail
    go_ret
    rw [HE.out]
    exact ⟨rfl, (by repeat' (first | exact Below.refl _ _ | refine Below.alloc ?_ ?_ _ | refine Below.setCell ?_ ?_ _ | refine Below.drew ?_ | (apply below_step; assumption) | (simp; done) | (simp; omega) | omega))⟩

theorem arr7 {α : Type} {cs : Array α} (h : cs.size = 7) : ∃ a b c d e f g, cs = #[a, b, c, d, e, f, g] := by
  obtain ⟨l⟩ := cs
  match l, h with
  | [a, b, c, d, e, f, g], _ => exact ⟨a, b, c, d, e, f, g, rfl⟩
theorem arr8 {α : Type} {cs : Array α} (h : cs.size = 8) : ∃ a b c d e f g i, cs = #[a, b, c, d, e, f, g, i] := by
  obtain ⟨l⟩ := cs
  match l, h with
  | [a, b, c, d, e, f, g, i], _ => exact ⟨a, b, c, d, e, f, g, i, rfl⟩
theorem put7 {w : World} {g : Nat} {t : TypeId} {cs : Array Value} (a0 a1 a2 a3 a4 a5 a6 : Value) (h : BlockIs w g t cs) (hs : cs.size = 7) : BlockIs (((((((w.setCell ⟨g, 0, none⟩ (a0)).setCell ⟨g, 1, none⟩ (a1)).setCell ⟨g, 2, none⟩ (a2)).setCell ⟨g, 3, none⟩ (a3)).setCell ⟨g, 4, none⟩ (a4)).setCell ⟨g, 5, none⟩ (a5)).setCell ⟨g, 6, none⟩ (a6)) g t #[a0, a1, a2, a3, a4, a5, a6] := by
  obtain ⟨b0, b1, b2, b3, b4, b5, b6, rfl⟩ := arr7 hs
  have := ((((((h.put 0 a0).put 1 a1).put 2 a2).put 3 a3).put 4 a4).put 5 a5).put 6 a6
  simpa using this
theorem put8 {w : World} {g : Nat} {t : TypeId} {cs : Array Value} (a0 a1 a2 a3 a4 a5 a6 a7 : Value) (h : BlockIs w g t cs) (hs : cs.size = 8) : BlockIs ((((((((w.setCell ⟨g, 0, none⟩ (a0)).setCell ⟨g, 1, none⟩ (a1)).setCell ⟨g, 2, none⟩ (a2)).setCell ⟨g, 3, none⟩ (a3)).setCell ⟨g, 4, none⟩ (a4)).setCell ⟨g, 5, none⟩ (a5)).setCell ⟨g, 6, none⟩ (a6)).setCell ⟨g, 7, none⟩ (a7)) g t #[a0, a1, a2, a3, a4, a5, a6, a7] := by
  obtain ⟨b0, b1, b2, b3, b4, b5, b6, b7, rfl⟩ := arr8 hs
  have := (((((((h.put 0 a0).put 1 a1).put 2 a2).put 3 a3).put 4 a4).put 5 a5).put 6 a6).put 7 a7
  simpa using this

theorem cell_far {w : World} {b o : Nat} {p : Addr} (h : b ≠ p.block) (u : Value) : (w.setCell p u).cell? ⟨b, o, none⟩ = w.cell? ⟨b, o, none⟩ := by
  have := Below.heap_setCell w p u b h
  simp only [World.cell?, this]
theorem far7 {w : World} {g b : Nat} {t : TypeId} {cs : Array Value} {a0 a1 a2 a3 a4 a5 a6 : Value} (h : BlockIs w b t cs) (hne : b ≠ g) : BlockIs (((((((w.setCell ⟨g, 0, none⟩ (a0)).setCell ⟨g, 1, none⟩ (a1)).setCell ⟨g, 2, none⟩ (a2)).setCell ⟨g, 3, none⟩ (a3)).setCell ⟨g, 4, none⟩ (a4)).setCell ⟨g, 5, none⟩ (a5)).setCell ⟨g, 6, none⟩ (a6)) b t cs :=
  ((((((h.far hne _).far hne _).far hne _).far hne _).far hne _).far hne _).far hne _
theorem below7 {B : Nat} {a w : World} {g : Nat} {a0 a1 a2 a3 a4 a5 a6 : Value} (h : Below B a w) (hg : B ≤ g) : Below B a (((((((w.setCell ⟨g, 0, none⟩ (a0)).setCell ⟨g, 1, none⟩ (a1)).setCell ⟨g, 2, none⟩ (a2)).setCell ⟨g, 3, none⟩ (a3)).setCell ⟨g, 4, none⟩ (a4)).setCell ⟨g, 5, none⟩ (a5)).setCell ⟨g, 6, none⟩ (a6)) :=
  ((((((h.setCell hg _).setCell hg _).setCell hg _).setCell hg _).setCell hg _).setCell hg _).setCell hg _
theorem IntAt.far {w : World} {b off : Nat} {l : List Int} {p : Addr} (h : IntAt w b off l) (hne : b ≠ p.block) (u : Value) : IntAt (w.setCell p u) b off l := fun i r hr => (cell_far hne _).trans (h i r hr)
theorem IntAt.far7 {w : World} {g b off : Nat} {l : List Int} {a0 a1 a2 a3 a4 a5 a6 : Value} (h : IntAt w b off l) (hne : b ≠ g) : IntAt (((((((w.setCell ⟨g, 0, none⟩ (a0)).setCell ⟨g, 1, none⟩ (a1)).setCell ⟨g, 2, none⟩ (a2)).setCell ⟨g, 3, none⟩ (a3)).setCell ⟨g, 4, none⟩ (a4)).setCell ⟨g, 5, none⟩ (a5)).setCell ⟨g, 6, none⟩ (a6)) b off l :=
  ((((((h.far hne _).far hne _).far hne _).far hne _).far hne _).far hne _).far hne _
theorem far8 {w : World} {g b : Nat} {t : TypeId} {cs : Array Value} {a0 a1 a2 a3 a4 a5 a6 a7 : Value} (h : BlockIs w b t cs) (hne : b ≠ g) : BlockIs ((((((((w.setCell ⟨g, 0, none⟩ (a0)).setCell ⟨g, 1, none⟩ (a1)).setCell ⟨g, 2, none⟩ (a2)).setCell ⟨g, 3, none⟩ (a3)).setCell ⟨g, 4, none⟩ (a4)).setCell ⟨g, 5, none⟩ (a5)).setCell ⟨g, 6, none⟩ (a6)).setCell ⟨g, 7, none⟩ (a7)) b t cs :=
  (((((((h.far hne _).far hne _).far hne _).far hne _).far hne _).far hne _).far hne _).far hne _
theorem below8 {B : Nat} {a w : World} {g : Nat} {a0 a1 a2 a3 a4 a5 a6 a7 : Value} (h : Below B a w) (hg : B ≤ g) : Below B a ((((((((w.setCell ⟨g, 0, none⟩ (a0)).setCell ⟨g, 1, none⟩ (a1)).setCell ⟨g, 2, none⟩ (a2)).setCell ⟨g, 3, none⟩ (a3)).setCell ⟨g, 4, none⟩ (a4)).setCell ⟨g, 5, none⟩ (a5)).setCell ⟨g, 6, none⟩ (a6)).setCell ⟨g, 7, none⟩ (a7)) :=
  (((((((h.setCell hg _).setCell hg _).setCell hg _).setCell hg _).setCell hg _).setCell hg _).setCell hg _).setCell hg _
theorem IntAt.far8 {w : World} {g b off : Nat} {l : List Int} {a0 a1 a2 a3 a4 a5 a6 a7 : Value} (h : IntAt w b off l) (hne : b ≠ g) : IntAt ((((((((w.setCell ⟨g, 0, none⟩ (a0)).setCell ⟨g, 1, none⟩ (a1)).setCell ⟨g, 2, none⟩ (a2)).setCell ⟨g, 3, none⟩ (a3)).setCell ⟨g, 4, none⟩ (a4)).setCell ⟨g, 5, none⟩ (a5)).setCell ⟨g, 6, none⟩ (a6)).setCell ⟨g, 7, none⟩ (a7)) b off l :=
  (((((((h.far hne _).far hne _).far hne _).far hne _).far hne _).far hne _).far hne _).far hne _

def NewTask (w : World) (t : TV) (e : Ending) (w' : World) : Prop := ∃ g1 g2, e = .returned (.agg #[.int .i64 t.id, .int .i64 t.prio, .int .i64 t.need.c, .int .i64 t.need.m, .int .i64 t.need.p, .slice (some ⟨g1, 0, none⟩) t.want.length t.want.length, .slice (some ⟨g2, 0, none⟩) t.tols.length t.tols.length]) ∧
  w.heap.size ≤ g1 ∧ w.heap.size ≤ g2 ∧ g2 < w'.heap.size ∧ BlockIs w' g1 59 (labL t.want).toArray ∧ IntAt w' g2 0 t.tols ∧ Below w.heap.size w w'
set_option maxHeartbeats 1600000 in
theorem toTask_any (t : TV) (v1 v2 : Value) (w : World) (h1 : LabSl w v1 t.want) (h2 : IntSl w v2 t.tols) (l1 : t.want.length ≤ 1048576) (l2 : t.tols.length ≤ 1048576) :
    Calls Tryd.prog 8 #[.agg #[.int .i64 t.id, .int .i64 t.prio, .int .i64 t.need.c, .int .i64 t.need.m, .int .i64 t.need.p, v1, v2]] w (NewTask w t) := by
  have H1 := Lib.hid h1
  have H2 := Lib.hid h2
  have L1 := Lib.hid l1
  have L2 := Lib.hid l2
  clear h1 h2 l1 l2
  go_enter Tryd.func8, Tryd.ntmps8
  go_wp2_with fail
  refine (toRes_any t.need _).mono ?_
  rintro e w1 ⟨rfl, hb1⟩
  have hz1 := hb1.size
  simp at hz1
  have B0 : BlockIs w1 w.heap.size 29 #[.int .i64 t.id, .int .i64 t.prio, .int .i64 t.need.c, .int .i64 t.need.m, .int .i64 t.need.p, v1, v2] := (((BlockIs.new w _ _).alloc _).alloc _).below hb1 (by simp; omega)
  have B1 : BlockIs w1 (w.heap.size + 1) 39 #[.int .i64 0, .int .i64 0, .int .i64 0, .int .i64 0, .int .i64 0, .slice none 0 0, .slice none 0 0] := (BlockIs.alloc (BlockIs.new' (by simp)) _).below hb1 (by simp)
  have B2 : BlockIs w1 (w.heap.size + 1 + 1) 39 #[.int .i64 t.id, .int .i64 t.prio, .int .i64 0, .int .i64 0, .int .i64 0, .slice none 0 0, .slice none 0 0] := (BlockIs.new' (by simp)).below hb1 (by simp)
  have hC1 : Below w.heap.size w w1 := (by repeat' (first | exact Below.refl _ _ | refine Below.alloc ?_ ?_ _ | refine Below.setCell ?_ ?_ _ | refine Below.drew ?_ | (apply below_step; assumption) | (simp; done) | (simp; omega) | omega))
  have c5 := B0.cell 5
  have c2 := B2.cell 2
  have c3 := B2.cell 3
  have c4 := B2.cell 4
  have f2 := B2.frozen
  simp at c5 c2 c3 c4
  have HB0 := Lib.hid B0
  have HB1 := Lib.hid B1
  have HB2 := Lib.hid B2
  clear B0 B1 B2 hb1
  go_wp2_with fail
  have hC2 : Below w.heap.size w (((w1.setCell ⟨w.heap.size + 1 + 1, 2, none⟩ (.int .i64 t.need.c)).setCell ⟨w.heap.size + 1 + 1, 2 + 1, none⟩ (.int .i64 t.need.m)).setCell ⟨w.heap.size + 1 + 1, 2 + 2, none⟩ (.int .i64 t.need.p)) := (by repeat' (first | exact Below.refl _ _ | refine Below.alloc ?_ ?_ _ | refine Below.setCell ?_ ?_ _ | refine Below.drew ?_ | (apply below_step; assumption) | (simp; done) | (simp; omega) | omega))
  have A0 : BlockIs (((w1.setCell ⟨w.heap.size + 1 + 1, 2, none⟩ (.int .i64 t.need.c)).setCell ⟨w.heap.size + 1 + 1, 2 + 1, none⟩ (.int .i64 t.need.m)).setCell ⟨w.heap.size + 1 + 1, 2 + 2, none⟩ (.int .i64 t.need.p)) w.heap.size 29 #[.int .i64 t.id, .int .i64 t.prio, .int .i64 t.need.c, .int .i64 t.need.m, .int .i64 t.need.p, v1, v2] := ((HB0.out.far (by dsimp only; omega) _).far (by dsimp only; omega) _).far (by dsimp only; omega) _
  have A1 : BlockIs (((w1.setCell ⟨w.heap.size + 1 + 1, 2, none⟩ (.int .i64 t.need.c)).setCell ⟨w.heap.size + 1 + 1, 2 + 1, none⟩ (.int .i64 t.need.m)).setCell ⟨w.heap.size + 1 + 1, 2 + 2, none⟩ (.int .i64 t.need.p)) (w.heap.size + 1) 39 #[.int .i64 0, .int .i64 0, .int .i64 0, .int .i64 0, .int .i64 0, .slice none 0 0, .slice none 0 0] := ((HB1.out.far (by dsimp only; omega) _).far (by dsimp only; omega) _).far (by dsimp only; omega) _
  have A2 : BlockIs (((w1.setCell ⟨w.heap.size + 1 + 1, 2, none⟩ (.int .i64 t.need.c)).setCell ⟨w.heap.size + 1 + 1, 2 + 1, none⟩ (.int .i64 t.need.m)).setCell ⟨w.heap.size + 1 + 1, 2 + 2, none⟩ (.int .i64 t.need.p)) (w.heap.size + 1 + 1) 39 #[.int .i64 t.id, .int .i64 t.prio, .int .i64 t.need.c, .int .i64 t.need.m, .int .i64 t.need.p, .slice none 0 0, .slice none 0 0] := by simpa using ((HB2.out.put 2 _).put 3 _).put 4 _
  generalize (((w1.setCell ⟨w.heap.size + 1 + 1, 2, none⟩ (.int .i64 t.need.c)).setCell ⟨w.heap.size + 1 + 1, 2 + 1, none⟩ (.int .i64 t.need.m)).setCell ⟨w.heap.size + 1 + 1, 2 + 2, none⟩ (.int .i64 t.need.p)) = X2 at hC2 A0 A1 A2 ⊢
  clear HB0 HB1 HB2 hC1 hz1 c5 c2 c3 c4 f2
  refine (toLabS_any v1 t.want _ (H1.out.below hC2) L1.out).mono ?_
  rintro e w3 ⟨g1, rfl, hg1, hblk1, hb3⟩
  have l2 := A2.lt
  have hz3 := hb3.size
  have hC3 : Below w.heap.size w w3 := hC2.trans (hb3.mono hC2.size)
  have B0 := A0.below hb3 A0.lt
  have B1 := A1.below hb3 A1.lt
  have B2 := A2.below hb3 A2.lt
  have c6 := B0.cell 6
  have c5 := B2.cell 5
  have f2 := B2.frozen
  simp at c6 c5
  have HB1 := Lib.hid B1
  have HB2 := Lib.hid B2
  have HG1 := Lib.hid hblk1
  clear A0 A1 A2 B0 B1 B2 hblk1
  go_wp2_with fail
  have hC4 : Below w.heap.size w (w3.setCell ⟨w.heap.size + 1 + 1, 5, none⟩ (.slice (some ⟨g1, 0, none⟩) t.want.length t.want.length)) := (by repeat' (first | exact Below.refl _ _ | refine Below.alloc ?_ ?_ _ | refine Below.setCell ?_ ?_ _ | refine Below.drew ?_ | (apply below_step; assumption) | (simp; done) | (simp; omega) | omega))
  have A1 : BlockIs (w3.setCell ⟨w.heap.size + 1 + 1, 5, none⟩ (.slice (some ⟨g1, 0, none⟩) t.want.length t.want.length)) (w.heap.size + 1) 39 #[.int .i64 0, .int .i64 0, .int .i64 0, .int .i64 0, .int .i64 0, .slice none 0 0, .slice none 0 0] := HB1.out.far (by dsimp only; omega) _
  have A2 : BlockIs (w3.setCell ⟨w.heap.size + 1 + 1, 5, none⟩ (.slice (some ⟨g1, 0, none⟩) t.want.length t.want.length)) (w.heap.size + 1 + 1) 39 #[.int .i64 t.id, .int .i64 t.prio, .int .i64 t.need.c, .int .i64 t.need.m, .int .i64 t.need.p, .slice (some ⟨g1, 0, none⟩) t.want.length t.want.length, .slice none 0 0] := by simpa using HB2.out.put 5 _
  have AG : BlockIs (w3.setCell ⟨w.heap.size + 1 + 1, 5, none⟩ (.slice (some ⟨g1, 0, none⟩) t.want.length t.want.length)) g1 59 (labL t.want).toArray := HG1.out.far (by dsimp only; omega) _
  generalize (w3.setCell ⟨w.heap.size + 1 + 1, 5, none⟩ (.slice (some ⟨g1, 0, none⟩) t.want.length t.want.length)) = X4 at hC4 A1 A2 AG ⊢
  clear HB1 HB2 HG1 hC3 hz3 c5 c6 f2 hb3
  refine (toIntS_any v2 t.tols _ (H2.out.below hC4) L2.out).mono ?_
  rintro e w5 ⟨g2, rfl, hg2, hlt2, hat2, hb5⟩
  have l4 := A2.lt
  have hz5 := hb5.size
  have hC5 : Below w.heap.size w w5 := hC4.trans (hb5.mono hC4.size)
  have B1 := A1.below hb5 A1.lt
  have B2 := A2.below hb5 A2.lt
  have BG := AG.below hb5 AG.lt
  have c0 := B2.cell 0
  have c1 := B2.cell 1
  have c2 := B2.cell 2
  have c3 := B2.cell 3
  have c4 := B2.cell 4
  have c5 := B2.cell 5
  have c6 := B2.cell 6
  have f2 := B2.frozen
  have d0 := B1.cell 0
  have d1 := B1.cell 1
  have d2 := B1.cell 2
  have d3 := B1.cell 3
  have d4 := B1.cell 4
  have d5 := B1.cell 5
  have d6 := B1.cell 6
  have f1 := B1.frozen
  simp at c0 c1 c2 c3 c4 c5 c6 d0 d1 d2 d3 d4 d5 d6
  have HB1 := Lib.hid B1
  have HB2 := Lib.hid B2
  have HG1 := Lib.hid BG
  have HG2 := Lib.hid hat2
  clear A1 A2 AG B1 B2 BG hat2
  go_wp2_with fail
  have hZ : BlockIs ((((((((w5.setCell ⟨w.heap.size + 1 + 1, 6, none⟩ (.slice (some ⟨g2, 0, none⟩) t.tols.length t.tols.length)).setCell ⟨w.heap.size + 1, 0, none⟩ (.int .i64 t.id)).setCell ⟨w.heap.size + 1, 1, none⟩ (.int .i64 t.prio)).setCell ⟨w.heap.size + 1, 2, none⟩ (.int .i64 t.need.c)).setCell ⟨w.heap.size + 1, 3, none⟩ (.int .i64 t.need.m)).setCell ⟨w.heap.size + 1, 4, none⟩ (.int .i64 t.need.p)).setCell ⟨w.heap.size + 1, 5, none⟩ (.slice (some ⟨g1, 0, none⟩) t.want.length t.want.length)).setCell ⟨w.heap.size + 1, 6, none⟩ (.slice (some ⟨g2, 0, none⟩) t.tols.length t.tols.length)) (w.heap.size + 1) 39 #[.int .i64 t.id, .int .i64 t.prio, .int .i64 t.need.c, .int .i64 t.need.m, .int .i64 t.need.p, .slice (some ⟨g1, 0, none⟩) t.want.length t.want.length, .slice (some ⟨g2, 0, none⟩) t.tols.length t.tols.length] := put7 _ _ _ _ _ _ _ (HB1.out.far (by dsimp only; omega) _) rfl
  have hG : BlockIs ((((((((w5.setCell ⟨w.heap.size + 1 + 1, 6, none⟩ (.slice (some ⟨g2, 0, none⟩) t.tols.length t.tols.length)).setCell ⟨w.heap.size + 1, 0, none⟩ (.int .i64 t.id)).setCell ⟨w.heap.size + 1, 1, none⟩ (.int .i64 t.prio)).setCell ⟨w.heap.size + 1, 2, none⟩ (.int .i64 t.need.c)).setCell ⟨w.heap.size + 1, 3, none⟩ (.int .i64 t.need.m)).setCell ⟨w.heap.size + 1, 4, none⟩ (.int .i64 t.need.p)).setCell ⟨w.heap.size + 1, 5, none⟩ (.slice (some ⟨g1, 0, none⟩) t.want.length t.want.length)).setCell ⟨w.heap.size + 1, 6, none⟩ (.slice (some ⟨g2, 0, none⟩) t.tols.length t.tols.length)) g1 59 (labL t.want).toArray := far7 (HG1.out.far (by dsimp only; omega) _) (by omega)
  have hI : IntAt ((((((((w5.setCell ⟨w.heap.size + 1 + 1, 6, none⟩ (.slice (some ⟨g2, 0, none⟩) t.tols.length t.tols.length)).setCell ⟨w.heap.size + 1, 0, none⟩ (.int .i64 t.id)).setCell ⟨w.heap.size + 1, 1, none⟩ (.int .i64 t.prio)).setCell ⟨w.heap.size + 1, 2, none⟩ (.int .i64 t.need.c)).setCell ⟨w.heap.size + 1, 3, none⟩ (.int .i64 t.need.m)).setCell ⟨w.heap.size + 1, 4, none⟩ (.int .i64 t.need.p)).setCell ⟨w.heap.size + 1, 5, none⟩ (.slice (some ⟨g1, 0, none⟩) t.want.length t.want.length)).setCell ⟨w.heap.size + 1, 6, none⟩ (.slice (some ⟨g2, 0, none⟩) t.tols.length t.tols.length)) g2 0 t.tols := IntAt.far7 (HG2.out.far (by dsimp only; omega) _) (by omega)
  have hB : Below w.heap.size w ((((((((w5.setCell ⟨w.heap.size + 1 + 1, 6, none⟩ (.slice (some ⟨g2, 0, none⟩) t.tols.length t.tols.length)).setCell ⟨w.heap.size + 1, 0, none⟩ (.int .i64 t.id)).setCell ⟨w.heap.size + 1, 1, none⟩ (.int .i64 t.prio)).setCell ⟨w.heap.size + 1, 2, none⟩ (.int .i64 t.need.c)).setCell ⟨w.heap.size + 1, 3, none⟩ (.int .i64 t.need.m)).setCell ⟨w.heap.size + 1, 4, none⟩ (.int .i64 t.need.p)).setCell ⟨w.heap.size + 1, 5, none⟩ (.slice (some ⟨g1, 0, none⟩) t.want.length t.want.length)).setCell ⟨w.heap.size + 1, 6, none⟩ (.slice (some ⟨g2, 0, none⟩) t.tols.length t.tols.length)) := below7 (hC5.setCell (by dsimp only; omega) _) (by omega)
  have hs : ((((((((w5.setCell ⟨w.heap.size + 1 + 1, 6, none⟩ (.slice (some ⟨g2, 0, none⟩) t.tols.length t.tols.length)).setCell ⟨w.heap.size + 1, 0, none⟩ (.int .i64 t.id)).setCell ⟨w.heap.size + 1, 1, none⟩ (.int .i64 t.prio)).setCell ⟨w.heap.size + 1, 2, none⟩ (.int .i64 t.need.c)).setCell ⟨w.heap.size + 1, 3, none⟩ (.int .i64 t.need.m)).setCell ⟨w.heap.size + 1, 4, none⟩ (.int .i64 t.need.p)).setCell ⟨w.heap.size + 1, 5, none⟩ (.slice (some ⟨g1, 0, none⟩) t.want.length t.want.length)).setCell ⟨w.heap.size + 1, 6, none⟩ (.slice (some ⟨g2, 0, none⟩) t.tols.length t.tols.length)).heap.size = w5.heap.size := by simp [World.setCell]
  generalize ((((((((w5.setCell ⟨w.heap.size + 1 + 1, 6, none⟩ (.slice (some ⟨g2, 0, none⟩) t.tols.length t.tols.length)).setCell ⟨w.heap.size + 1, 0, none⟩ (.int .i64 t.id)).setCell ⟨w.heap.size + 1, 1, none⟩ (.int .i64 t.prio)).setCell ⟨w.heap.size + 1, 2, none⟩ (.int .i64 t.need.c)).setCell ⟨w.heap.size + 1, 3, none⟩ (.int .i64 t.need.m)).setCell ⟨w.heap.size + 1, 4, none⟩ (.int .i64 t.need.p)).setCell ⟨w.heap.size + 1, 5, none⟩ (.slice (some ⟨g1, 0, none⟩) t.want.length t.want.length)).setCell ⟨w.heap.size + 1, 6, none⟩ (.slice (some ⟨g2, 0, none⟩) t.tols.length t.tols.length)) = X at hZ hG hI hB hs ⊢
  have z0 := hZ.cell 0
  have z1 := hZ.cell 1
  have z2 := hZ.cell 2
  have z3 := hZ.cell 3
  have z4 := hZ.cell 4
  have z5 := hZ.cell 5
  have z6 := hZ.cell 6
  simp at z0 z1 z2 z3 z4 z5 z6
  exact bodyPost_ret (v := .agg #[.int .i64 t.id, .int .i64 t.prio, .int .i64 t.need.c, .int .i64 t.need.m, .int .i64 t.need.p, .slice (some ⟨g1, 0, none⟩) t.want.length t.want.length, .slice (some ⟨g2, 0, none⟩) t.tols.length t.tols.length]) (by simp [results, Tryd.results8, go_sem, z0, z1, z2, z3, z4, z5, z6]) rfl ⟨g1, g2, rfl, by omega, by omega, by omega, hG, hI, hB⟩

set_option maxHeartbeats 1600000 in
theorem eqTask_same (t : TV) (v1 v2 u1 u2 : Value) (w : World) (h1 : LabSl w v1 t.want) (h2 : IntSl w v2 t.tols) (k1 : LabSl w u1 t.want) (k2 : IntSl w u2 t.tols) (l1 : t.want.length ≤ 1048576) (l2 : t.tols.length ≤ 1048576) :
    Calls Tryd.prog 11 #[.agg #[.int .i64 t.id, .int .i64 t.prio, .int .i64 t.need.c, .int .i64 t.need.m, .int .i64 t.need.p, v1, v2], .agg #[.int .i64 t.id, .int .i64 t.prio, .int .i64 t.need.c, .int .i64 t.need.m, .int .i64 t.need.p, u1, u2]] w fun e w' => e = .returned (.bool true) ∧ Below w.heap.size w w' := by
  have H1 := Lib.hid h1
  have H2 := Lib.hid h2
  have K1 := Lib.hid k1
  have K2 := Lib.hid k2
  have L1 := Lib.hid l1
  have L2 := Lib.hid l2
  have e1 : (t.id != t.id) = false := by simp
  have e2 : (t.prio != t.prio) = false := by simp
  clear h1 h2 k1 k2 l1 l2
  go_enter Tryd.func11, Tryd.ntmps11
  go_wp2_with fail
  refine (eqRes_same t.need _).mono ?_
  rintro e w1 ⟨rfl, hb1⟩
  have hz1 := hb1.size
  simp at hz1
  obtain ⟨hc1, hf1⟩ := bcell hb1
  have hC1 : Below w.heap.size w w1 := (by repeat' (first | exact Below.refl _ _ | refine Below.alloc ?_ ?_ _ | refine Below.setCell ?_ ?_ _ | refine Below.drew ?_ | (apply below_step; assumption) | (simp; done) | (simp; omega) | omega))
  go_wp2_with fail
  refine (eqLabS_same v1 u1 t.want _ (H1.out.below hC1) (K1.out.below hC1) L1.out).mono ?_
  rintro e w2 ⟨rfl, hb2⟩
  have hz2 := hb2.size
  obtain ⟨hc2, hf2⟩ := bcell hb2
  have hs1 : w.heap.size < w1.heap.size := by omega
  have hs1' : w.heap.size + 1 < w1.heap.size := by omega
  have hC2 : Below w.heap.size w w2 := hC1.trans (hb2.mono hC1.size)
  go_wp2_with fail
  refine (eqIntS_same v2 u2 t.tols _ (H2.out.below hC2) (K2.out.below hC2) L2.out).mono ?_
  rintro e w3 ⟨rfl, hb3⟩
  have hC3 : Below w.heap.size w w3 := hC2.trans (hb3.mono hC2.size)
  go_wp2_with fail
  go_ret
  exact ⟨rfl, hC3⟩
set_option maxHeartbeats 800000 in
theorem szNode_any (c0 c1 c2 c3 c4 c7 : Value) (A1 A2 : Option Addr) (n1 k1 n2 k2 : Nat) (z : Int) (w : World) (h0 : 0 ≤ z) (hz : z ≤ 1048576) (hm1 : n1 ≤ maxLen) (hm2 : n2 ≤ maxLen) :
    Calls Tryd.prog 4 #[.agg #[c0, c1, c2, c3, c4, .slice A1 n1 k1, .slice A2 n2 k2, c7], .int .i64 z] w fun e w' => e = .returned (.int .i64 (szTV z n1 n2)) ∧ Below w.heap.size w w' := by
  by_cases h1 : (n1 : Int) ≤ z
  · by_cases h2 : (n2 : Int) ≤ z - n1
    · have HE := Lib.hid (show szTV z n1 n2 = z - n1 - n2 by simp [szTV, h1, szLeft, h2])
      have HM := Lib.hid (And.intro hm1 hm2)
      clear hm1 hm2
      go_enter Tryd.func4, Tryd.ntmps4
      go_wp2_with fail
      refine (szLabS_yes A1 n1 k1 z _ hz h1).mono ?_
      rintro e w1 ⟨rfl, rfl⟩
      go_wp2_with fail
      refine (szIntS_yes A2 n2 k2 (z - n1) _ (by omega) h2).mono ?_
      rintro e w1 ⟨rfl, rfl⟩
      go_wp2_with fail
      go_ret
      rw [HE.out]
      exact ⟨rfl, (by repeat' (first | exact Below.refl _ _ | refine Below.alloc ?_ ?_ _ | refine Below.setCell ?_ ?_ _ | refine Below.drew ?_ | (apply below_step; assumption) | (simp; done) | (simp; omega) | omega))⟩
    · have HE := Lib.hid (show szTV z n1 n2 = -1 by simp [szTV, h1, szLeft, h2])
      have HM := Lib.hid (And.intro hm1 hm2)
      have h2' : z - n1 < n2 := by omega
      clear hm1 hm2 h2
      go_enter Tryd.func4, Tryd.ntmps4
      go_wp2_with fail
      refine (szLabS_yes A1 n1 k1 z _ hz h1).mono ?_
      rintro e w1 ⟨rfl, rfl⟩
      go_wp2_with fail
      refine (szIntS_no A2 n2 k2 (z - n1) _ (by omega) h2' HM.out.2).mono ?_
      rintro e w1 ⟨rfl, rfl⟩
      go_wp2_with fail
      go_ret
      rw [HE.out]
      exact ⟨rfl, (by repeat' (first | exact Below.refl _ _ | refine Below.alloc ?_ ?_ _ | refine Below.setCell ?_ ?_ _ | refine Below.drew ?_ | (apply below_step; assumption) | (simp; done) | (simp; omega) | omega))⟩
  · have HE := Lib.hid (show szTV z n1 n2 = -1 by simp [szTV, h1])
    have HM := Lib.hid (And.intro hm1 hm2)
    have h1' : z < n1 := by omega
    clear hm1 hm2 h1
    go_enter Tryd.func4, Tryd.ntmps4
    go_wp2_with fail
    refine (szLabS_no A1 n1 k1 z _ h0 h1' HM.out.1).mono ?_
    rintro e w1 ⟨rfl, rfl⟩
    go_wp2_with fail
    go_ret
    rw [HE.out]
    exact ⟨rfl, (by repeat' (first | exact Below.refl _ _ | refine Below.alloc ?_ ?_ _ | refine Below.setCell ?_ ?_ _ | refine Below.drew ?_ | (apply below_step; assumption) | (simp; done) | (simp; omega) | omega))⟩

def NewNode (w : World) (t : NV) (e : Ending) (w' : World) : Prop := ∃ g1 g2, e = .returned (.agg #[.int .i64 t.id, .int .i64 t.pool, .int .i64 t.cap.c, .int .i64 t.cap.m, .int .i64 t.cap.p, .slice (some ⟨g1, 0, none⟩) t.labs.length t.labs.length, .slice (some ⟨g2, 0, none⟩) t.taints.length t.taints.length, .bool t.cordon]) ∧
  w.heap.size ≤ g1 ∧ w.heap.size ≤ g2 ∧ g2 < w'.heap.size ∧ BlockIs w' g1 59 (labL t.labs).toArray ∧ IntAt w' g2 0 t.taints ∧ Below w.heap.size w w'
set_option maxHeartbeats 1600000 in
theorem toNode_any (t : NV) (v1 v2 : Value) (w : World) (h1 : LabSl w v1 t.labs) (h2 : IntSl w v2 t.taints) (l1 : t.labs.length ≤ 1048576) (l2 : t.taints.length ≤ 1048576) :
    Calls Tryd.prog 7 #[.agg #[.int .i64 t.id, .int .i64 t.pool, .int .i64 t.cap.c, .int .i64 t.cap.m, .int .i64 t.cap.p, v1, v2, .bool t.cordon]] w (NewNode w t) := by
  have H1 := Lib.hid h1
  have H2 := Lib.hid h2
  have L1 := Lib.hid l1
  have L2 := Lib.hid l2
  clear h1 h2 l1 l2
  go_enter Tryd.func7, Tryd.ntmps7
  go_wp2_with fail
  refine (toRes_any t.cap _).mono ?_
  rintro e w1 ⟨rfl, hb1⟩
  have hz1 := hb1.size
  simp at hz1
  have B0 : BlockIs w1 w.heap.size 27 #[.int .i64 t.id, .int .i64 t.pool, .int .i64 t.cap.c, .int .i64 t.cap.m, .int .i64 t.cap.p, v1, v2, .bool t.cordon] := (((BlockIs.new w _ _).alloc _).alloc _).below hb1 (by simp; omega)
  have B1 : BlockIs w1 (w.heap.size + 1) 36 #[.int .i64 0, .int .i64 0, .int .i64 0, .int .i64 0, .int .i64 0, .slice none 0 0, .slice none 0 0, .bool false] := (BlockIs.alloc (BlockIs.new' (by simp)) _).below hb1 (by simp)
  have B2 : BlockIs w1 (w.heap.size + 1 + 1) 36 #[.int .i64 t.id, .int .i64 t.pool, .int .i64 0, .int .i64 0, .int .i64 0, .slice none 0 0, .slice none 0 0, .bool false] := (BlockIs.new' (by simp)).below hb1 (by simp)
  have hC1 : Below w.heap.size w w1 := (by repeat' (first | exact Below.refl _ _ | refine Below.alloc ?_ ?_ _ | refine Below.setCell ?_ ?_ _ | refine Below.drew ?_ | (apply below_step; assumption) | (simp; done) | (simp; omega) | omega))
  have c5 := B0.cell 5
  have c2 := B2.cell 2
  have c3 := B2.cell 3
  have c4 := B2.cell 4
  have f2 := B2.frozen
  simp at c5 c2 c3 c4
  have HB0 := Lib.hid B0
  have HB1 := Lib.hid B1
  have HB2 := Lib.hid B2
  clear B0 B1 B2 hb1
  go_wp2_with fail
  have hC2 : Below w.heap.size w (((w1.setCell ⟨w.heap.size + 1 + 1, 2, none⟩ (.int .i64 t.cap.c)).setCell ⟨w.heap.size + 1 + 1, 2 + 1, none⟩ (.int .i64 t.cap.m)).setCell ⟨w.heap.size + 1 + 1, 2 + 2, none⟩ (.int .i64 t.cap.p)) := (by repeat' (first | exact Below.refl _ _ | refine Below.alloc ?_ ?_ _ | refine Below.setCell ?_ ?_ _ | refine Below.drew ?_ | (apply below_step; assumption) | (simp; done) | (simp; omega) | omega))
  have A0 : BlockIs (((w1.setCell ⟨w.heap.size + 1 + 1, 2, none⟩ (.int .i64 t.cap.c)).setCell ⟨w.heap.size + 1 + 1, 2 + 1, none⟩ (.int .i64 t.cap.m)).setCell ⟨w.heap.size + 1 + 1, 2 + 2, none⟩ (.int .i64 t.cap.p)) w.heap.size 27 #[.int .i64 t.id, .int .i64 t.pool, .int .i64 t.cap.c, .int .i64 t.cap.m, .int .i64 t.cap.p, v1, v2, .bool t.cordon] := ((HB0.out.far (by dsimp only; omega) _).far (by dsimp only; omega) _).far (by dsimp only; omega) _
  have A1 : BlockIs (((w1.setCell ⟨w.heap.size + 1 + 1, 2, none⟩ (.int .i64 t.cap.c)).setCell ⟨w.heap.size + 1 + 1, 2 + 1, none⟩ (.int .i64 t.cap.m)).setCell ⟨w.heap.size + 1 + 1, 2 + 2, none⟩ (.int .i64 t.cap.p)) (w.heap.size + 1) 36 #[.int .i64 0, .int .i64 0, .int .i64 0, .int .i64 0, .int .i64 0, .slice none 0 0, .slice none 0 0, .bool false] := ((HB1.out.far (by dsimp only; omega) _).far (by dsimp only; omega) _).far (by dsimp only; omega) _
  have A2 : BlockIs (((w1.setCell ⟨w.heap.size + 1 + 1, 2, none⟩ (.int .i64 t.cap.c)).setCell ⟨w.heap.size + 1 + 1, 2 + 1, none⟩ (.int .i64 t.cap.m)).setCell ⟨w.heap.size + 1 + 1, 2 + 2, none⟩ (.int .i64 t.cap.p)) (w.heap.size + 1 + 1) 36 #[.int .i64 t.id, .int .i64 t.pool, .int .i64 t.cap.c, .int .i64 t.cap.m, .int .i64 t.cap.p, .slice none 0 0, .slice none 0 0, .bool false] := by simpa using ((HB2.out.put 2 _).put 3 _).put 4 _
  generalize (((w1.setCell ⟨w.heap.size + 1 + 1, 2, none⟩ (.int .i64 t.cap.c)).setCell ⟨w.heap.size + 1 + 1, 2 + 1, none⟩ (.int .i64 t.cap.m)).setCell ⟨w.heap.size + 1 + 1, 2 + 2, none⟩ (.int .i64 t.cap.p)) = X2 at hC2 A0 A1 A2 ⊢
  clear HB0 HB1 HB2 hC1 hz1 c5 c2 c3 c4 f2
  refine (toLabS_any v1 t.labs _ (H1.out.below hC2) L1.out).mono ?_
  rintro e w3 ⟨g1, rfl, hg1, hblk1, hb3⟩
  have l2 := A2.lt
  have hz3 := hb3.size
  have hC3 : Below w.heap.size w w3 := hC2.trans (hb3.mono hC2.size)
  have B0 := A0.below hb3 A0.lt
  have B1 := A1.below hb3 A1.lt
  have B2 := A2.below hb3 A2.lt
  have c6 := B0.cell 6
  have c5 := B2.cell 5
  have f2 := B2.frozen
  simp at c6 c5
  have HB1 := Lib.hid B1
  have HB2 := Lib.hid B2
  have HG1 := Lib.hid hblk1
  have HB0 := Lib.hid B0
  clear A0 A1 A2 B0 B1 B2 hblk1
  go_wp2_with fail
  have hC4 : Below w.heap.size w (w3.setCell ⟨w.heap.size + 1 + 1, 5, none⟩ (.slice (some ⟨g1, 0, none⟩) t.labs.length t.labs.length)) := (by repeat' (first | exact Below.refl _ _ | refine Below.alloc ?_ ?_ _ | refine Below.setCell ?_ ?_ _ | refine Below.drew ?_ | (apply below_step; assumption) | (simp; done) | (simp; omega) | omega))
  have A1 : BlockIs (w3.setCell ⟨w.heap.size + 1 + 1, 5, none⟩ (.slice (some ⟨g1, 0, none⟩) t.labs.length t.labs.length)) (w.heap.size + 1) 36 #[.int .i64 0, .int .i64 0, .int .i64 0, .int .i64 0, .int .i64 0, .slice none 0 0, .slice none 0 0, .bool false] := HB1.out.far (by dsimp only; omega) _
  have A2 : BlockIs (w3.setCell ⟨w.heap.size + 1 + 1, 5, none⟩ (.slice (some ⟨g1, 0, none⟩) t.labs.length t.labs.length)) (w.heap.size + 1 + 1) 36 #[.int .i64 t.id, .int .i64 t.pool, .int .i64 t.cap.c, .int .i64 t.cap.m, .int .i64 t.cap.p, .slice (some ⟨g1, 0, none⟩) t.labs.length t.labs.length, .slice none 0 0, .bool false] := by simpa using HB2.out.put 5 _
  have A0 : BlockIs (w3.setCell ⟨w.heap.size + 1 + 1, 5, none⟩ (.slice (some ⟨g1, 0, none⟩) t.labs.length t.labs.length)) w.heap.size 27 #[.int .i64 t.id, .int .i64 t.pool, .int .i64 t.cap.c, .int .i64 t.cap.m, .int .i64 t.cap.p, v1, v2, .bool t.cordon] := HB0.out.far (by dsimp only; omega) _
  have AG : BlockIs (w3.setCell ⟨w.heap.size + 1 + 1, 5, none⟩ (.slice (some ⟨g1, 0, none⟩) t.labs.length t.labs.length)) g1 59 (labL t.labs).toArray := HG1.out.far (by dsimp only; omega) _
  generalize (w3.setCell ⟨w.heap.size + 1 + 1, 5, none⟩ (.slice (some ⟨g1, 0, none⟩) t.labs.length t.labs.length)) = X4 at hC4 A0 A1 A2 AG ⊢
  clear HB0 HB1 HB2 HG1 hC3 hz3 c5 c6 f2 hb3
  refine (toIntS_any v2 t.taints _ (H2.out.below hC4) L2.out).mono ?_
  rintro e w5 ⟨g2, rfl, hg2, hlt2, hat2, hb5⟩
  have l4 := A2.lt
  have hz5 := hb5.size
  have hC5 : Below w.heap.size w w5 := hC4.trans (hb5.mono hC4.size)
  have B1 := A1.below hb5 A1.lt
  have B2 := A2.below hb5 A2.lt
  have BG := AG.below hb5 AG.lt
  have B0 := A0.below hb5 A0.lt
  have b7 := B0.cell 7
  have f0 := B0.frozen
  have c7 := B2.cell 7
  have d7 := B1.cell 7
  have c0 := B2.cell 0
  have c1 := B2.cell 1
  have c2 := B2.cell 2
  have c3 := B2.cell 3
  have c4 := B2.cell 4
  have c5 := B2.cell 5
  have c6 := B2.cell 6
  have f2 := B2.frozen
  have d0 := B1.cell 0
  have d1 := B1.cell 1
  have d2 := B1.cell 2
  have d3 := B1.cell 3
  have d4 := B1.cell 4
  have d5 := B1.cell 5
  have d6 := B1.cell 6
  have f1 := B1.frozen
  simp at b7 c7 d7 c0 c1 c2 c3 c4 c5 c6 d0 d1 d2 d3 d4 d5 d6
  have HB1 := Lib.hid B1
  have HB2 := Lib.hid B2
  have HG1 := Lib.hid BG
  have HG2 := Lib.hid hat2
  clear A0 A1 A2 AG B0 B1 B2 BG hat2
  go_wp2_with fail
  have hZ : BlockIs ((((((((((w5.setCell ⟨w.heap.size + 1 + 1, 6, none⟩ (.slice (some ⟨g2, 0, none⟩) t.taints.length t.taints.length)).setCell ⟨w.heap.size + 1 + 1, 7, none⟩ (.bool t.cordon)).setCell ⟨w.heap.size + 1, 0, none⟩ (.int .i64 t.id)).setCell ⟨w.heap.size + 1, 1, none⟩ (.int .i64 t.pool)).setCell ⟨w.heap.size + 1, 2, none⟩ (.int .i64 t.cap.c)).setCell ⟨w.heap.size + 1, 3, none⟩ (.int .i64 t.cap.m)).setCell ⟨w.heap.size + 1, 4, none⟩ (.int .i64 t.cap.p)).setCell ⟨w.heap.size + 1, 5, none⟩ (.slice (some ⟨g1, 0, none⟩) t.labs.length t.labs.length)).setCell ⟨w.heap.size + 1, 6, none⟩ (.slice (some ⟨g2, 0, none⟩) t.taints.length t.taints.length)).setCell ⟨w.heap.size + 1, 7, none⟩ (.bool t.cordon)) (w.heap.size + 1) 36 #[.int .i64 t.id, .int .i64 t.pool, .int .i64 t.cap.c, .int .i64 t.cap.m, .int .i64 t.cap.p, .slice (some ⟨g1, 0, none⟩) t.labs.length t.labs.length, .slice (some ⟨g2, 0, none⟩) t.taints.length t.taints.length, .bool t.cordon] := put8 _ _ _ _ _ _ _ _ ((HB1.out.far (by dsimp only; omega) _).far (by dsimp only; omega) _) rfl
  have hG : BlockIs ((((((((((w5.setCell ⟨w.heap.size + 1 + 1, 6, none⟩ (.slice (some ⟨g2, 0, none⟩) t.taints.length t.taints.length)).setCell ⟨w.heap.size + 1 + 1, 7, none⟩ (.bool t.cordon)).setCell ⟨w.heap.size + 1, 0, none⟩ (.int .i64 t.id)).setCell ⟨w.heap.size + 1, 1, none⟩ (.int .i64 t.pool)).setCell ⟨w.heap.size + 1, 2, none⟩ (.int .i64 t.cap.c)).setCell ⟨w.heap.size + 1, 3, none⟩ (.int .i64 t.cap.m)).setCell ⟨w.heap.size + 1, 4, none⟩ (.int .i64 t.cap.p)).setCell ⟨w.heap.size + 1, 5, none⟩ (.slice (some ⟨g1, 0, none⟩) t.labs.length t.labs.length)).setCell ⟨w.heap.size + 1, 6, none⟩ (.slice (some ⟨g2, 0, none⟩) t.taints.length t.taints.length)).setCell ⟨w.heap.size + 1, 7, none⟩ (.bool t.cordon)) g1 59 (labL t.labs).toArray := far8 ((HG1.out.far (by dsimp only; omega) _).far (by dsimp only; omega) _) (by omega)
  have hI : IntAt ((((((((((w5.setCell ⟨w.heap.size + 1 + 1, 6, none⟩ (.slice (some ⟨g2, 0, none⟩) t.taints.length t.taints.length)).setCell ⟨w.heap.size + 1 + 1, 7, none⟩ (.bool t.cordon)).setCell ⟨w.heap.size + 1, 0, none⟩ (.int .i64 t.id)).setCell ⟨w.heap.size + 1, 1, none⟩ (.int .i64 t.pool)).setCell ⟨w.heap.size + 1, 2, none⟩ (.int .i64 t.cap.c)).setCell ⟨w.heap.size + 1, 3, none⟩ (.int .i64 t.cap.m)).setCell ⟨w.heap.size + 1, 4, none⟩ (.int .i64 t.cap.p)).setCell ⟨w.heap.size + 1, 5, none⟩ (.slice (some ⟨g1, 0, none⟩) t.labs.length t.labs.length)).setCell ⟨w.heap.size + 1, 6, none⟩ (.slice (some ⟨g2, 0, none⟩) t.taints.length t.taints.length)).setCell ⟨w.heap.size + 1, 7, none⟩ (.bool t.cordon)) g2 0 t.taints := IntAt.far8 ((HG2.out.far (by dsimp only; omega) _).far (by dsimp only; omega) _) (by omega)
  have hB : Below w.heap.size w ((((((((((w5.setCell ⟨w.heap.size + 1 + 1, 6, none⟩ (.slice (some ⟨g2, 0, none⟩) t.taints.length t.taints.length)).setCell ⟨w.heap.size + 1 + 1, 7, none⟩ (.bool t.cordon)).setCell ⟨w.heap.size + 1, 0, none⟩ (.int .i64 t.id)).setCell ⟨w.heap.size + 1, 1, none⟩ (.int .i64 t.pool)).setCell ⟨w.heap.size + 1, 2, none⟩ (.int .i64 t.cap.c)).setCell ⟨w.heap.size + 1, 3, none⟩ (.int .i64 t.cap.m)).setCell ⟨w.heap.size + 1, 4, none⟩ (.int .i64 t.cap.p)).setCell ⟨w.heap.size + 1, 5, none⟩ (.slice (some ⟨g1, 0, none⟩) t.labs.length t.labs.length)).setCell ⟨w.heap.size + 1, 6, none⟩ (.slice (some ⟨g2, 0, none⟩) t.taints.length t.taints.length)).setCell ⟨w.heap.size + 1, 7, none⟩ (.bool t.cordon)) := below8 ((hC5.setCell (by dsimp only; omega) _).setCell (by dsimp only; omega) _) (by omega)
  have hs : ((((((((((w5.setCell ⟨w.heap.size + 1 + 1, 6, none⟩ (.slice (some ⟨g2, 0, none⟩) t.taints.length t.taints.length)).setCell ⟨w.heap.size + 1 + 1, 7, none⟩ (.bool t.cordon)).setCell ⟨w.heap.size + 1, 0, none⟩ (.int .i64 t.id)).setCell ⟨w.heap.size + 1, 1, none⟩ (.int .i64 t.pool)).setCell ⟨w.heap.size + 1, 2, none⟩ (.int .i64 t.cap.c)).setCell ⟨w.heap.size + 1, 3, none⟩ (.int .i64 t.cap.m)).setCell ⟨w.heap.size + 1, 4, none⟩ (.int .i64 t.cap.p)).setCell ⟨w.heap.size + 1, 5, none⟩ (.slice (some ⟨g1, 0, none⟩) t.labs.length t.labs.length)).setCell ⟨w.heap.size + 1, 6, none⟩ (.slice (some ⟨g2, 0, none⟩) t.taints.length t.taints.length)).setCell ⟨w.heap.size + 1, 7, none⟩ (.bool t.cordon)).heap.size = w5.heap.size := by simp [World.setCell]
  generalize ((((((((((w5.setCell ⟨w.heap.size + 1 + 1, 6, none⟩ (.slice (some ⟨g2, 0, none⟩) t.taints.length t.taints.length)).setCell ⟨w.heap.size + 1 + 1, 7, none⟩ (.bool t.cordon)).setCell ⟨w.heap.size + 1, 0, none⟩ (.int .i64 t.id)).setCell ⟨w.heap.size + 1, 1, none⟩ (.int .i64 t.pool)).setCell ⟨w.heap.size + 1, 2, none⟩ (.int .i64 t.cap.c)).setCell ⟨w.heap.size + 1, 3, none⟩ (.int .i64 t.cap.m)).setCell ⟨w.heap.size + 1, 4, none⟩ (.int .i64 t.cap.p)).setCell ⟨w.heap.size + 1, 5, none⟩ (.slice (some ⟨g1, 0, none⟩) t.labs.length t.labs.length)).setCell ⟨w.heap.size + 1, 6, none⟩ (.slice (some ⟨g2, 0, none⟩) t.taints.length t.taints.length)).setCell ⟨w.heap.size + 1, 7, none⟩ (.bool t.cordon)) = X at hZ hG hI hB hs ⊢
  have z0 := hZ.cell 0
  have z1 := hZ.cell 1
  have z2 := hZ.cell 2
  have z3 := hZ.cell 3
  have z4 := hZ.cell 4
  have z5 := hZ.cell 5
  have z6 := hZ.cell 6
  have z7 := hZ.cell 7
  simp at z7 z0 z1 z2 z3 z4 z5 z6
  exact bodyPost_ret (v := .agg #[.int .i64 t.id, .int .i64 t.pool, .int .i64 t.cap.c, .int .i64 t.cap.m, .int .i64 t.cap.p, .slice (some ⟨g1, 0, none⟩) t.labs.length t.labs.length, .slice (some ⟨g2, 0, none⟩) t.taints.length t.taints.length, .bool t.cordon]) (by simp [results, Tryd.results7, go_sem, z0, z1, z2, z3, z4, z5, z6, z7]) rfl ⟨g1, g2, rfl, by omega, by omega, by omega, hG, hI, hB⟩

set_option maxHeartbeats 1600000 in
theorem eqNode_same (t : NV) (v1 v2 u1 u2 : Value) (w : World) (h1 : LabSl w v1 t.labs) (h2 : IntSl w v2 t.taints) (k1 : LabSl w u1 t.labs) (k2 : IntSl w u2 t.taints) (l1 : t.labs.length ≤ 1048576) (l2 : t.taints.length ≤ 1048576) :
    Calls Tryd.prog 10 #[.agg #[.int .i64 t.id, .int .i64 t.pool, .int .i64 t.cap.c, .int .i64 t.cap.m, .int .i64 t.cap.p, v1, v2, .bool t.cordon], .agg #[.int .i64 t.id, .int .i64 t.pool, .int .i64 t.cap.c, .int .i64 t.cap.m, .int .i64 t.cap.p, u1, u2, .bool t.cordon]] w fun e w' => e = .returned (.bool true) ∧ Below w.heap.size w w' := by
  have H1 := Lib.hid h1
  have H2 := Lib.hid h2
  have K1 := Lib.hid k1
  have K2 := Lib.hid k2
  have L1 := Lib.hid l1
  have L2 := Lib.hid l2
  have e1 : (t.id != t.id) = false := by simp
  have e3 : (t.cordon != t.cordon) = false := by simp
  have e2 : (t.pool != t.pool) = false := by simp
  clear h1 h2 k1 k2 l1 l2
  go_enter Tryd.func10, Tryd.ntmps10
  go_wp2_with fail
  refine (eqRes_same t.cap _).mono ?_
  rintro e w1 ⟨rfl, hb1⟩
  have hz1 := hb1.size
  simp at hz1
  obtain ⟨hc1, hf1⟩ := bcell hb1
  have hC1 : Below w.heap.size w w1 := (by repeat' (first | exact Below.refl _ _ | refine Below.alloc ?_ ?_ _ | refine Below.setCell ?_ ?_ _ | refine Below.drew ?_ | (apply below_step; assumption) | (simp; done) | (simp; omega) | omega))
  go_wp2_with fail
  refine (eqLabS_same v1 u1 t.labs _ (H1.out.below hC1) (K1.out.below hC1) L1.out).mono ?_
  rintro e w2 ⟨rfl, hb2⟩
  have hz2 := hb2.size
  obtain ⟨hc2, hf2⟩ := bcell hb2
  have hs1 : w.heap.size < w1.heap.size := by omega
  have hs1' : w.heap.size + 1 < w1.heap.size := by omega
  have hC2 : Below w.heap.size w w2 := hC1.trans (hb2.mono hC1.size)
  go_wp2_with fail
  refine (eqIntS_same v2 u2 t.taints _ (H2.out.below hC2) (K2.out.below hC2) L2.out).mono ?_
  rintro e w3 ⟨rfl, hb3⟩
  obtain ⟨hc3, hf3⟩ := bcell hb3
  have hs2 : w.heap.size < w2.heap.size := by omega
  have hs2' : w.heap.size + 1 < w2.heap.size := by omega
  have hC3 : Below w.heap.size w w3 := hC2.trans (hb3.mono hC2.size)
  go_wp2_with fail
  go_ret
  exact ⟨rfl, hC3⟩
end Go.Proofs.YtmkpajjnjgnmkaaDoor
namespace Go.Proofs.YtmkpajjnjgnmkaaDoor
open Go.RowKit

def RetTask (w : World) (t : TV) (e : Ending) (w' : World) : Prop := ∃ v1 v2, e = .returned (.agg #[.int .i64 t.id, .int .i64 t.prio, .int .i64 t.need.c, .int .i64 t.need.m, .int .i64 t.need.p, v1, v2]) ∧ LabSl w' v1 t.want ∧ IntSl w' v2 t.tols ∧ Below w.heap.size w w'
def RetNode (w : World) (t : NV) (e : Ending) (w' : World) : Prop := ∃ v1 v2, e = .returned (.agg #[.int .i64 t.id, .int .i64 t.pool, .int .i64 t.cap.c, .int .i64 t.cap.m, .int .i64 t.cap.p, v1, v2, .bool t.cordon]) ∧ LabSl w' v1 t.labs ∧ IntSl w' v2 t.taints ∧ Below w.heap.size w w'
theorem toTask_sl (t : TV) (v1 v2 : Value) (w : World) (h1 : LabSl w v1 t.want) (h2 : IntSl w v2 t.tols) (l1 : t.want.length ≤ 1048576) (l2 : t.tols.length ≤ 1048576) :
    Calls Tryd.prog 8 #[.agg #[.int .i64 t.id, .int .i64 t.prio, .int .i64 t.need.c, .int .i64 t.need.m, .int .i64 t.need.p, v1, v2]] w (RetTask w t) :=
  (toTask_any t v1 v2 w h1 h2 l1 l2).mono fun _ _ ⟨g1, g2, e, _, _, k3, bl, it, hb⟩ => ⟨_, _, e, .inr ⟨g1, 0, _, rfl, bl.lt, LabAt.of_cells bl⟩, .inr ⟨g2, 0, _, rfl, k3, it⟩, hb⟩
theorem toNode_sl (t : NV) (v1 v2 : Value) (w : World) (h1 : LabSl w v1 t.labs) (h2 : IntSl w v2 t.taints) (l1 : t.labs.length ≤ 1048576) (l2 : t.taints.length ≤ 1048576) :
    Calls Tryd.prog 7 #[.agg #[.int .i64 t.id, .int .i64 t.pool, .int .i64 t.cap.c, .int .i64 t.cap.m, .int .i64 t.cap.p, v1, v2, .bool t.cordon]] w (RetNode w t) :=
  (toNode_any t v1 v2 w h1 h2 l1 l2).mono fun _ _ ⟨g1, g2, e, _, _, k3, bl, it, hb⟩ => ⟨_, _, e, .inr ⟨g1, 0, _, rfl, bl.lt, LabAt.of_cells bl⟩, .inr ⟨g2, 0, _, rfl, k3, it⟩, hb⟩
end Go.Proofs.YtmkpajjnjgnmkaaDoor

namespace Go.Proofs.YtmkpajjnjgnmkaaDoor
open Go.RowKit

theorem outOfRange_nil (w : World) (a : Addr) (hg : ErrAt a w) :
    Calls Tryd.prog 43 #[.nilIface] w fun e w' => e = .returned (.bool false) ∧ w = w' := by
  unfold ErrAt at hg
  go_enter Tryd.func43, Tryd.ntmps43
  go_wp2_with (go_at_call 48; refine (is_nil a _).mono ?_; rintro e w1 ⟨rfl, rfl⟩)
  go_ret
  exact ⟨rfl, rfl⟩
theorem outOfRange_bad (s : ByteArray) (w : World) (a : Addr) (hg : ErrAt a w) :
    Calls Tryd.prog 43 #[.iface 82 (.agg #[.string s, .iface 100 (.pointer (some a))])] w fun e w' => e = .returned (.bool true) ∧ Below w.heap.size w w' := by
  unfold ErrAt at hg
  go_enter Tryd.func43, Tryd.ntmps43
  go_wp2_with (go_at_call 48; refine (is_field s a _).mono ?_; rintro e w1 ⟨rfl, hb⟩)
  go_ret
  exact ⟨rfl, hb⟩

end Go.Proofs.YtmkpajjnjgnmkaaDoor

namespace Go.Proofs.YtmkpajjnjgnmkaaDoor
open Go.RowKit

theorem ResOk_any (r : RV) (w : World) (x : Addr) (hg : ErrAt x w) :
    Calls Tryd.prog 34 #[.agg #[.int .i64 r.c, .int .i64 r.m, .int .i64 r.p]] w fun e w' => e = .returned (.bool r.ok) ∧ Below w.heap.size w w' := by
  cases h : r.ok
  · have H := Lib.hid h
    clear h
    go_enter Tryd.func34, Tryd.ntmps34
    go_wp2_with fail
    refine (checkRes_no r _ x (hg.alloc _) H.out).mono ?_
    rintro e w1 ⟨s, rfl, hb1⟩
    have hz1 := hb1.size
    simp at hz1
    go_wp2_with fail
    refine (outOfRange_bad s _ x ((hg.alloc _).below hb1 (Nat.le_refl _))).mono ?_
    rintro e w2 ⟨rfl, hb2⟩
    have hz2 := hb2.size
    go_wp2_with fail
    go_ret
    exact ⟨rfl, (by repeat' (first | exact Below.refl _ _ | refine Below.alloc ?_ ?_ _ | refine Below.setCell ?_ ?_ _ | refine Below.drew ?_ | (apply below_step; assumption) | (simp; done) | (simp; omega) | omega))⟩
  · have H := Lib.hid h
    clear h
    go_enter Tryd.func34, Tryd.ntmps34
    go_wp2_with fail
    refine (checkRes_yes r _ H.out).mono ?_
    rintro e w1 ⟨rfl, hb1⟩
    have hz1 := hb1.size
    simp at hz1
    go_wp2_with fail
    refine (outOfRange_nil _ x ((hg.alloc _).below hb1 (Nat.le_refl _))).mono ?_
    rintro e w2 ⟨rfl, rfl⟩
    go_wp2_with fail
    go_ret
    exact ⟨rfl, (by repeat' (first | exact Below.refl _ _ | refine Below.alloc ?_ ?_ _ | refine Below.setCell ?_ ?_ _ | refine Below.drew ?_ | (apply below_step; assumption) | (simp; done) | (simp; omega) | omega))⟩

end Go.Proofs.YtmkpajjnjgnmkaaDoor

namespace Go.Proofs.YtmkpajjnjgnmkaaDoor
open Go.RowKit

def Owns (w : World) (base : Nat) (v : Value) (l : List LV) : Prop := w.ownsRow base 59 2 v l.length (labL l)
theorem labL_append (a b : List LV) : labL (a ++ b) = labL a ++ labL b := by simp [labL]
section
variable {w w' : World} {base : Nat} {v : Value} {l : List LV}
theorem Owns.alloc (h : Owns w base v l) (o : Obj) : Owns (w.alloc o) base v l := World.ownsRow.alloc h o
theorem Owns.drewN (h : Owns w base v l) (n : Nat) : Owns (w.drewN n) base v l := h
theorem Owns.nil (w : World) (base : Nat) : Owns w base (.slice none 0 0) [] := World.ownsRow_nil w base _ _
theorem Owns.below {B : Nat} (h : Owns w base v l) (hb : Below B w w') (hB : w.heap.size ≤ B) : Owns w' base v l := by
  obtain ⟨h1, h2⟩ := h
  refine ⟨h1, ?_⟩
  rcases h2 with h | ⟨g, cap, cur, hv, hg, hh, h⟩
  · exact .inl h
  · have hlt : g < w.heap.size := (Array.getElem?_eq_some_iff.1 hh).1
    exact .inr ⟨g, cap, cur, hv, hg, (hb.block g (by omega)).trans hh, h⟩
theorem Owns.form (h : Owns w base v l) : (v = .slice none 0 0 ∧ l = []) ∨ ∃ g cap cur, v = .slice (some ⟨g, 0, none⟩) l.length cap ∧ base ≤ g ∧ BlockIs w g 59 cur ∧ cur.size = cap * 2 ∧ l.length ≤ cap ∧ ∀ (j : Nat) (u : Value), (labL l)[j]? = some u → cur[j]? = some u := by
  obtain ⟨h1, h2⟩ := h
  rcases h2 with ⟨hv, hn⟩ | ⟨g, cap, cur, hv, hg, hh, hnc, _, hs, ht⟩
  · exact .inl ⟨hv, List.eq_nil_of_length_eq_zero hn⟩
  · refine .inr ⟨g, cap, cur, hv, hg, hh, hs, hnc, fun j u hu => ?_⟩
    rw [← ht] at hu
    have hj : j < l.length * 2 := by
      have := (List.getElem?_eq_some_iff.1 hu).1
      rw [List.length_take] at this; omega
    rw [List.getElem?_take_of_lt hj] at hu
    simpa using hu
theorem Owns.sl (h : Owns w base v l) : LabSl w v l := by
  rcases h.form with ⟨rfl, rfl⟩ | ⟨g, cap, cur, rfl, _, hb, _, _, hc⟩
  · exact .inl ⟨rfl, _, _, rfl⟩
  · exact .inr ⟨g, 0, cap, rfl, hb.lt, LabAt.of_block hb hc⟩
end

theorem wpList_append_lab {ops : Array Oper} {rest : List Oper} {o : Oper} {a : Act} {Q : Exit → Act → World → Prop} (w : World) (hgd : o.guard = none) (s x : Operand)
    (ho : o.op = .call { callee := .builtin .append, args := #[s, x], argTypes := #[34, 34] })
    (base : Nat) (v : Value) (l : List LV) (r : LV) (g : Nat) (hs : a.eval s = v) (hown : Owns w base v l) (hx : a.eval x = .slice (some ⟨g, 0, none⟩) 1 1)
    (h0 : w.cell? ⟨g, 0, none⟩ = some (.int .i64 r.k)) (h1 : w.cell? ⟨g, 1, none⟩ = some (.int .i64 r.v)) (hl : l.length ≤ 100000) (hbase : base ≤ w.heap.size)
    (h : ∀ v' w', Owns w' base v' (l ++ [r]) → Below base w w' → wpList Tryd.prog ops Q rest (a.put o.dst v') w') : wpList Tryd.prog ops Q (o :: rest) a w := by
  obtain ⟨i0, hi0, hz0, hz1, hz2⟩ := info_parts Tryd.infoLab
  refine wpList_append_own w hgd s x 34 ho base 59 i0 _ 2 16 Tryd.underlying34 hi0 hz0 hz1 hz2 rfl (by omega) v l.length (labL l) hs hown ⟨g, 0, none⟩ 1 1 [.int .i64 r.k, .int .i64 r.v] hx rfl ?_ ?_ (by simp only [maxLen]; omega) (by omega) hbase ?_
  · intro j u hj
    match j, hj with
    | 0, hj => simp at hj; subst hj; simpa [Addr.add] using h0
    | 1, hj => simp at hj; subst hj; simpa [Addr.add] using h1
  · intro u hu
    simp at hu
    rcases hu with rfl | rfl <;> rfl
  · intro v' w' hown' hgrow _
    refine h v' w' ?_ ((Below.refl _ _).grown hgrow hbase (fun k hk => (World.ownsRow.lt hown k hk).1))
    unfold Owns
    rw [labL_append, List.length_append]
    exact hown'

end Go.Proofs.YtmkpajjnjgnmkaaDoor

namespace Go.Proofs.YtmkpajjnjgnmkaaDoor
open Go.RowKit

theorem LabsOk_any (v : Value) (l : List LV) (w : World) (hv : LabSl w v l) (hlen : l.length ≤ 1048576) :
    Calls Tryd.prog 35 #[v] w fun e w' => e = .returned (.bool (labsOk l)) ∧ Below w.heap.size w w' := by
  have H := Lib.hid (readLabs_any v l w hv hlen)
  clear hv
  go_enter Tryd.func35, Tryd.ntmps35
  go_wp2_with fail
  refine H.out.mono ?_
  rintro e w1 ⟨rfl, hb1⟩
  have hz1 := hb1.size
  go_wp2_with fail
  go_ret
  exact ⟨rfl, (by repeat' (first | exact Below.refl _ _ | refine Below.alloc ?_ ?_ _ | refine Below.setCell ?_ ?_ _ | refine Below.drew ?_ | (apply below_step; assumption) | (simp; done) | (simp; omega) | omega))⟩

theorem getOf_no {l : List LV} {k : Int} (h : labsOk l = false) : getOf l k = (0, false) := by simp [getOf, h]
theorem getOf_yes {l : List LV} {k : Int} (h : labsOk l = true) : getOf l k = findK l k := by simp [getOf, h]
theorem labsOk_from {l : List LV} (h : labsOk l = true) : labsFrom (-1) l = true := by
  simp only [labsOk, Bool.and_eq_true] at h; exact h.2
def RetI (z : Int × Bool) (w : World) (e : Ending) (w' : World) : Prop := e = .returned (.tuple #[.int .i64 z.1, .bool z.2]) ∧ Below w.heap.size w w'

theorem hasAll_iff {m p : Nat → Int} : hasAllM m p = true ↔ ∀ i, i < 10 → 0 < p i → p i = m i := by
  unfold hasAllM eqMarks
  simp only [List.all_eq_true, List.mem_range, beq_iff_eq]
  constructor
  · intro h i hi hp
    have := h i hi
    simpa [laidM, hi, hp] using this
  · intro h i hi
    unfold laidM
    by_cases hp : 0 < p i
    · rw [if_pos ⟨hi, hp⟩]; exact h i hi hp
    · rw [if_neg (fun x => hp x.2)]
theorem hasAllOf_iff {a b : List LV} : hasAllOf a b = true ↔ ∀ x ∈ b, findK a x.k = (x.v, true) := by
  induction b with
  | nil => simp [hasAllOf]
  | cons x r ih =>
    simp only [hasAllOf, Bool.and_eq_true, decide_eq_true_eq, ih, List.mem_cons, forall_eq_or_imp]
    constructor
    · rintro ⟨⟨h1, h2⟩, h3⟩
      exact ⟨by rw [← h1, ← h2], h3⟩
    · rintro ⟨h1, h3⟩
      rw [h1]
      exact ⟨⟨rfl, rfl⟩, h3⟩
theorem findK_mem {p : Int} {l : List LV} (h : labsFrom p l = true) {x : LV} (hx : x ∈ l) : findK l x.k = (x.v, true) := by
  induction l generalizing p with
  | nil => cases hx
  | cons y r ih =>
    simp only [labsFrom, Bool.and_eq_true, decide_eq_true_eq] at h
    rcases List.mem_cons.1 hx with rfl | hx
    · simp [findK]
    · have h1 := ih h.2 hx
      have hne : ¬ y.k = x.k := by
        intro e
        rw [findK_above h.2 (k := x.k) (by omega)] at h1
        simp at h1
      simp only [findK, if_neg hne]; exact h1
theorem mem_findK {l : List LV} {k v : Int} (h : findK l k = (v, true)) : ⟨k, v⟩ ∈ l := by
  induction l with
  | nil => simp [findK] at h
  | cons y r ih =>
    unfold findK at h
    split at h
    · rename_i e
      injection h with h1 h2
      subst e; subst h1
      exact List.mem_cons.2 (.inl rfl)
    · exact List.mem_cons.2 (.inr (ih h))
theorem mem_ok {p : Int} {l : List LV} (h : labsFrom p l = true) {x : LV} (hx : x ∈ l) : x.ok = true := by
  induction l generalizing p with
  | nil => cases hx
  | cons y r ih =>
    simp only [labsFrom, Bool.and_eq_true, decide_eq_true_eq] at h
    rcases List.mem_cons.1 hx with rfl | hx
    · exact h.1.1
    · exact ih h.2 hx
theorem hasAll_of {a b : List LV} (ha : labsOk a = true) (hb : labsOk b = true) : hasAllM (readOf a) (readOf b) = hasAllOf a b := by
  rw [Bool.eq_iff_iff, hasAll_iff, hasAllOf_iff, readOf_yes ha, readOf_yes hb]
  have fa := labsOk_from ha
  have fb := labsOk_from hb
  constructor
  · intro h x hx
    obtain ⟨k0, k9, v0, v9⟩ := LV.ok_iff.1 (mem_ok fb hx)
    obtain ⟨k, hk⟩ := Int.eq_ofNat_of_zero_le k0
    have hf := findK_mem fb hx
    have hm := mark_at fb k
    have hma := mark_at fa k
    have hz := findK_val fa (k := (k : Int))
    rw [hk] at hf
    rw [hf] at hm
    simp at hm
    have := h k (by omega) (by omega)
    rw [hk]
    cases e : (findK a k).2
    · rw [e] at hma; simp at hma; omega
    · rw [e] at hma; simp at hma
      have e1 : (findK a k).1 = x.v := by omega
      rw [← e, ← e1]
  · intro h i hi hp
    have hm := mark_at fb i
    have hma := mark_at fa i
    cases e : (findK b i).2
    · rw [e] at hm; simp at hm; omega
    · rw [e] at hm; simp at hm
      have e' : findK b i = ((findK b i).1, true) := by rw [← e]
      have hx := h _ (mem_findK e')
      simp only at hx
      rw [hx] at hma
      simp at hma
      omega
theorem matchOf_no1 {a b : List LV} (h : labsOk a = false) : matchOf a b = false := by simp [matchOf, h]
theorem matchOf_no2 {a b : List LV} (h : labsOk b = false) : matchOf a b = false := by simp [matchOf, h]
theorem matchOf_yes {a b : List LV} (ha : labsOk a = true) (hb : labsOk b = true) : matchOf a b = hasAllM (readOf a) (readOf b) := by
  rw [hasAll_of ha hb]; simp [matchOf, ha, hb]

set_option maxHeartbeats 1600000 in
theorem LabsMatch_any (v1 v2 : Value) (a b : List LV) (w : World) (h1 : LabSl w v1 a) (h2 : LabSl w v2 b) (hl1 : a.length ≤ 1048576) (hl2 : b.length ≤ 1048576) :
    Calls Tryd.prog 37 #[v1, v2] w fun e w' => e = .returned (.bool (matchOf a b)) ∧ Below w.heap.size w w' := by
  have r1 := readLabs_any v1 a w h1 hl1
  have r2 := fun w1 (hb : Below w.heap.size w w1) => readLabs_any v2 b (w1.alloc (.cells #[.int .i64 (readOf a 0), .int .i64 (readOf a 1), .int .i64 (readOf a 2), .int .i64 (readOf a 3), .int .i64 (readOf a 4), .int .i64 (readOf a 5), .int .i64 (readOf a 6), .int .i64 (readOf a 7), .int .i64 (readOf a 8), .int .i64 (readOf a 9)] 71)) ((h2.below hb).below ((Below.refl _ _).alloc (Nat.le_refl _) _)) hl2
  clear h1 h2
  cases ha : labsOk a
  · rw [ha] at r1
    have R1 := Lib.hid r1
    have HM := Lib.hid (matchOf_no1 (b := b) ha)
    clear r1 r2 ha
    go_enter Tryd.func37, Tryd.ntmps37
    go_wp2_with fail
    refine R1.out.mono ?_
    rintro e w1 ⟨rfl, hb1⟩
    have hz1 := hb1.size
    go_wp2_with fail
    go_ret
    rw [HM.out]
    exact ⟨rfl, (by repeat' (first | exact Below.refl _ _ | refine Below.alloc ?_ ?_ _ | refine Below.setCell ?_ ?_ _ | refine Below.drew ?_ | (apply below_step; assumption) | (simp; done) | (simp; omega) | omega))⟩
  · rw [ha] at r1
    cases hb : labsOk b
    · rw [hb] at r2
      have R1 := Lib.hid r1
      have R2 := Lib.hid r2
      have HM := Lib.hid (matchOf_no2 (a := a) hb)
      clear r1 r2 ha hb
      generalize readOf a = m1 at R1 R2
      go_enter Tryd.func37, Tryd.ntmps37
      go_wp2_with fail
      refine R1.out.mono ?_
      rintro e w1 ⟨rfl, hb1⟩
      have hz1 := hb1.size
      go_wp2_with fail
      refine (R2.out w1 hb1).mono ?_
      rintro e w2 ⟨rfl, hb2⟩
      have hz2 := hb2.size
      simp at hz2
      go_wp2_with fail
      go_ret
      rw [HM.out]
      exact ⟨rfl, (by repeat' (first | exact Below.refl _ _ | refine Below.alloc ?_ ?_ _ | refine Below.setCell ?_ ?_ _ | refine Below.drew ?_ | (apply below_step; assumption) | (simp; done) | (simp; omega) | omega))⟩
    · rw [hb] at r2
      have R1 := Lib.hid r1
      have R2 := Lib.hid r2
      have HM := Lib.hid (matchOf_yes ha hb)
      clear r1 r2 ha hb
      generalize readOf a = m1 at R1 R2 HM
      generalize readOf b = m2 at R2 HM
      go_enter Tryd.func37, Tryd.ntmps37
      go_wp2_with fail
      refine R1.out.mono ?_
      rintro e w1 ⟨rfl, hb1⟩
      have hz1 := hb1.size
      go_wp2_with fail
      refine (R2.out w1 hb1).mono ?_
      rintro e w2 ⟨rfl, hb2⟩
      have hz2 := hb2.size
      simp at hz2
      have hM1 := ((BlockIs.new w1 71 #[.int .i64 (m1 0), .int .i64 (m1 1), .int .i64 (m1 2), .int .i64 (m1 3), .int .i64 (m1 4), .int .i64 (m1 5), .int .i64 (m1 6), .int .i64 (m1 7), .int .i64 (m1 8), .int .i64 (m1 9)]).below hb2 (by simp)).alloc (.cells #[.int .i64 (m2 0), .int .i64 (m2 1), .int .i64 (m2 2), .int .i64 (m2 3), .int .i64 (m2 4), .int .i64 (m2 5), .int .i64 (m2 6), .int .i64 (m2 7), .int .i64 (m2 8), .int .i64 (m2 9)] 71)
      have z0 := (hM1).cell 0; have z1 := (hM1).cell 1; have z2 := (hM1).cell 2; have z3 := (hM1).cell 3; have z4 := (hM1).cell 4; have z5 := (hM1).cell 5; have z6 := (hM1).cell 6; have z7 := (hM1).cell 7; have z8 := (hM1).cell 8; have z9 := (hM1).cell 9; simp at z0 z1 z2 z3 z4 z5 z6 z7 z8 z9
      clear hM1
      go_wp2_with fail
      refine (hasAll_any m1 m2 _).mono ?_
      rintro e w3 ⟨rfl, hb3⟩
      have hz3 := hb3.size
      simp at hz3
      go_wp2_with fail
      go_ret
      rw [HM.out]
      exact ⟨rfl, (by repeat' (first | exact Below.refl _ _ | refine Below.alloc ?_ ?_ _ | refine Below.setCell ?_ ?_ _ | refine Below.drew ?_ | (apply below_step; assumption) | (simp; done) | (simp; omega) | omega))⟩
end Go.Proofs.YtmkpajjnjgnmkaaDoor

namespace Go.Proofs.YtmkpajjnjgnmkaaDoor
open Go.RowKit

theorem readTaints_long (A : Option Addr) (n c : Nat) (w : World) (h : 6 < n) (hm : n ≤ 1048576) :
    Calls Tryd.prog 46 #[.slice A n c] w (RetM mzero false w) := by
  have h6 : (6 : Int) < (n : Int) := by omega
  go_enter Tryd.func46, Tryd.ntmps46
  go_wp2_with fail
  exact bodyPost_ret (v := .tuple #[.agg #[.int .i64 (mzero 0), .int .i64 (mzero 1), .int .i64 (mzero 2), .int .i64 (mzero 3), .int .i64 (mzero 4), .int .i64 (mzero 5), .int .i64 (mzero 6), .int .i64 (mzero 7), .int .i64 (mzero 8), .int .i64 (mzero 9)], .bool false]) (by simp [results, Tryd.results46, go_sem, mzero]) rfl ⟨rfl, (by repeat' (first | exact Below.refl _ _ | refine Below.alloc ?_ ?_ _ | refine Below.setCell ?_ ?_ _ | refine Below.drew ?_ | (apply below_step; assumption) | (simp; done) | (simp; omega) | omega))⟩

set_option maxHeartbeats 1600000 in
theorem readTaints_short (v : Value) (t : List Int) (w : World) (hv : IntSl w v t) (hlen : t.length ≤ 6) :
    Calls Tryd.prog 46 #[v] w (RetM (readOf (tl t)) (labsOk (tl t)) w) := by
  obtain ⟨A, c, rfl, hA⟩ := hv.form
  have HA := Lib.hid hA
  clear hA hv
  have h6 : (t.length : Int) ≤ 6 := by omega
  go_enter Tryd.func46, Tryd.ntmps46
  go_wp2_with fail
  go_loopw [4, 13] (fun s4 s13 wr => ∃ k : Nat, k ≤ t.length ∧ s13 = .int .i64 k ∧ Owns wr (w.heap.size + 1) s4 (tl (t.take k)) ∧ Below w.heap.size w wr ∧ w.heap.size + 1 ≤ wr.heap.size ∧ BlockIs wr w.heap.size 71 #[.int .i64 (mzero 0), .int .i64 (mzero 1), .int .i64 (mzero 2), .int .i64 (mzero 3), .int .i64 (mzero 4), .int .i64 (mzero 5), .int .i64 (mzero 6), .int .i64 (mzero 7), .int .i64 (mzero 8), .int .i64 (mzero 9)]) (fun _ s13 _ => (t.length - intOf s13).toNat)
  case atStart =>
    exact ⟨0, by omega, rfl, Owns.nil _ _, (by repeat' (first | exact Below.refl _ _ | refine Below.alloc ?_ ?_ _ | refine Below.setCell ?_ ?_ _ | refine Below.drew ?_ | (apply below_step; assumption) | (simp; done) | (simp; omega) | omega)), by simp, BlockIs.new _ _ _⟩
  case round =>
    obtain ⟨k, hk, rfl, hown, hB, hzr, hblk⟩ := hrel
    have HOW := Lib.hid hown
    have HBK := Lib.hid hblk
    clear hown
    by_cases hlt : k < t.length
    · obtain ⟨b, off, rfl, hbw, hat⟩ := HA.out (by omega)
      obtain ⟨z, hz⟩ : ∃ r, t[k]? = some r := ⟨_, List.getElem?_eq_getElem hlt⟩
      have q0 := (hat.below hB hbw) k z hz
      have HT := Lib.hid (tl_take hz)
      have hlti : (k : Int) < (t.length : Int) := by omega
      have HL := Lib.hid (show (tl (t.take k)).length ≤ 6 by rw [tl_len, List.length_take]; omega)
      clear hat hz hblk
      go_wp2_with (at_builtin; refine wpList_append_lab _ rfl (.tmp 17) (.tmp 20) rfl (w.heap.size + 1) _ (tl (t.take k)) ⟨z, 0⟩ wr.heap.size rfl (HOW.out.alloc _) rfl (by simp) (by simp) (by have := HL.out; omega) (by simp; omega) ?_; intro v' w1 hown1 hb1)
      have hz1 := hb1.size
      simp at hz1
      go_roundw
      case rel =>
        refine ⟨k + 1, by omega, by go_num, ?_, ?_, by omega, ?_⟩
        · rw [HT.out]; exact hown1
        · exact (hB.alloc (by omega) _).trans (hb1.mono (by omega))
        · exact (HBK.out.alloc _).below hb1 (by omega)
      case measure => simp [intOf]; omega
    · have hkl : k = t.length := by omega
      have ho : Owns wr (w.heap.size + 1) u4 (tl t) := by
        have := HOW.out
        rwa [hkl, List.take_length] at this
      have hr := readLabs_any _ (tl t) wr ho.sl (by rw [tl_len]; omega)
      have HR := Lib.hid hr
      clear hkl hblk ho hr
      go_wp2_with fail
      refine HR.out.mono ?_
      rintro e w1 ⟨rfl, hb1⟩
      have hz1 := hb1.size
      have hB1 : Below w.heap.size w w1 := hB.trans (hb1.mono (by omega))
      have hZ := HBK.out.below hb1 (by omega)
      have HZ := Lib.hid hZ
      have z0 := (hZ).cell 0; have z1 := (hZ).cell 1; have z2 := (hZ).cell 2; have z3 := (hZ).cell 3; have z4 := (hZ).cell 4; have z5 := (hZ).cell 5; have z6 := (hZ).cell 6; have z7 := (hZ).cell 7; have z8 := (hZ).cell 8; have z9 := (hZ).cell 9; simp at z0 z1 z2 z3 z4 z5 z6 z7 z8 z9
      have zf := hZ.frozen
      clear hZ
      go_wp2_with fail
      have hX : BlockIs ((((((((((w1.setCell ⟨w.heap.size, 0, none⟩ (.int .i64 (readOf (tl t) 0))).setCell ⟨w.heap.size, 1, none⟩ (.int .i64 (readOf (tl t) 1))).setCell ⟨w.heap.size, 2, none⟩ (.int .i64 (readOf (tl t) 2))).setCell ⟨w.heap.size, 3, none⟩ (.int .i64 (readOf (tl t) 3))).setCell ⟨w.heap.size, 4, none⟩ (.int .i64 (readOf (tl t) 4))).setCell ⟨w.heap.size, 5, none⟩ (.int .i64 (readOf (tl t) 5))).setCell ⟨w.heap.size, 6, none⟩ (.int .i64 (readOf (tl t) 6))).setCell ⟨w.heap.size, 7, none⟩ (.int .i64 (readOf (tl t) 7))).setCell ⟨w.heap.size, 8, none⟩ (.int .i64 (readOf (tl t) 8))).setCell ⟨w.heap.size, 9, none⟩ (.int .i64 (readOf (tl t) 9))) w.heap.size 71 #[.int .i64 (readOf (tl t) 0), .int .i64 (readOf (tl t) 1), .int .i64 (readOf (tl t) 2), .int .i64 (readOf (tl t) 3), .int .i64 (readOf (tl t) 4), .int .i64 (readOf (tl t) 5), .int .i64 (readOf (tl t) 6), .int .i64 (readOf (tl t) 7), .int .i64 (readOf (tl t) 8), .int .i64 (readOf (tl t) 9)] := put10 (readOf (tl t)) HZ.out
      have hBX : Below w.heap.size w ((((((((((w1.setCell ⟨w.heap.size, 0, none⟩ (.int .i64 (readOf (tl t) 0))).setCell ⟨w.heap.size, 1, none⟩ (.int .i64 (readOf (tl t) 1))).setCell ⟨w.heap.size, 2, none⟩ (.int .i64 (readOf (tl t) 2))).setCell ⟨w.heap.size, 3, none⟩ (.int .i64 (readOf (tl t) 3))).setCell ⟨w.heap.size, 4, none⟩ (.int .i64 (readOf (tl t) 4))).setCell ⟨w.heap.size, 5, none⟩ (.int .i64 (readOf (tl t) 5))).setCell ⟨w.heap.size, 6, none⟩ (.int .i64 (readOf (tl t) 6))).setCell ⟨w.heap.size, 7, none⟩ (.int .i64 (readOf (tl t) 7))).setCell ⟨w.heap.size, 8, none⟩ (.int .i64 (readOf (tl t) 8))).setCell ⟨w.heap.size, 9, none⟩ (.int .i64 (readOf (tl t) 9))) := below10 (readOf (tl t)) hB1 (Nat.le_refl _)
      generalize ((((((((((w1.setCell ⟨w.heap.size, 0, none⟩ (.int .i64 (readOf (tl t) 0))).setCell ⟨w.heap.size, 1, none⟩ (.int .i64 (readOf (tl t) 1))).setCell ⟨w.heap.size, 2, none⟩ (.int .i64 (readOf (tl t) 2))).setCell ⟨w.heap.size, 3, none⟩ (.int .i64 (readOf (tl t) 3))).setCell ⟨w.heap.size, 4, none⟩ (.int .i64 (readOf (tl t) 4))).setCell ⟨w.heap.size, 5, none⟩ (.int .i64 (readOf (tl t) 5))).setCell ⟨w.heap.size, 6, none⟩ (.int .i64 (readOf (tl t) 6))).setCell ⟨w.heap.size, 7, none⟩ (.int .i64 (readOf (tl t) 7))).setCell ⟨w.heap.size, 8, none⟩ (.int .i64 (readOf (tl t) 8))).setCell ⟨w.heap.size, 9, none⟩ (.int .i64 (readOf (tl t) 9))) = X at hX hBX ⊢
      clear z0 z1 z2 z3 z4 z5 z6 z7 z8 z9
      have z0 := (hX).cell 0; have z1 := (hX).cell 1; have z2 := (hX).cell 2; have z3 := (hX).cell 3; have z4 := (hX).cell 4; have z5 := (hX).cell 5; have z6 := (hX).cell 6; have z7 := (hX).cell 7; have z8 := (hX).cell 8; have z9 := (hX).cell 9; simp at z0 z1 z2 z3 z4 z5 z6 z7 z8 z9
      exact bodyPost_ret (v := .tuple #[.agg #[.int .i64 (readOf (tl t) 0), .int .i64 (readOf (tl t) 1), .int .i64 (readOf (tl t) 2), .int .i64 (readOf (tl t) 3), .int .i64 (readOf (tl t) 4), .int .i64 (readOf (tl t) 5), .int .i64 (readOf (tl t) 6), .int .i64 (readOf (tl t) 7), .int .i64 (readOf (tl t) 8), .int .i64 (readOf (tl t) 9)], .bool (labsOk (tl t))]) (by simp [results, Tryd.results46, go_sem, z0, z1, z2, z3, z4, z5, z6, z7, z8, z9]) rfl ⟨rfl, hBX⟩

theorem readTaints_any (v : Value) (t : List Int) (w : World) (hv : IntSl w v t) (hlen : t.length ≤ 1048576) :
    Calls Tryd.prog 46 #[v] w (RetM (readOf (tl t)) (labsOk (tl t)) w) := by
  by_cases h : t.length ≤ 6
  · exact readTaints_short v t w hv h
  · obtain ⟨A, c, rfl, _⟩ := hv.form
    rw [readOf_no (labsOk_long (by rw [tl_len]; omega)), labsOk_long (by rw [tl_len]; omega)]
    exact readTaints_long A t.length c w (by omega) hlen

theorem TaintsOk_any (v : Value) (t : List Int) (w : World) (hv : IntSl w v t) (hlen : t.length ≤ 1048576) :
    Calls Tryd.prog 36 #[v] w fun e w' => e = .returned (.bool (labsOk (tl t))) ∧ Below w.heap.size w w' := by
  have H := Lib.hid (readTaints_any v t w hv hlen)
  clear hv
  go_enter Tryd.func36, Tryd.ntmps36
  go_wp2_with fail
  refine H.out.mono ?_
  rintro e w1 ⟨rfl, hb1⟩
  have hz1 := hb1.size
  go_wp2_with fail
  go_ret
  exact ⟨rfl, (by repeat' (first | exact Below.refl _ _ | refine Below.alloc ?_ ?_ _ | refine Below.setCell ?_ ?_ _ | refine Below.drew ?_ | (apply below_step; assumption) | (simp; done) | (simp; omega) | omega))⟩

set_option maxHeartbeats 1600000 in
theorem Tolerates_any (v1 v2 : Value) (a b : List Int) (w : World) (h1 : IntSl w v1 a) (h2 : IntSl w v2 b) (hl1 : a.length ≤ 1048576) (hl2 : b.length ≤ 1048576) :
    Calls Tryd.prog 38 #[v1, v2] w fun e w' => e = .returned (.bool (tolOf a b)) ∧ Below w.heap.size w w' := by
  have r1 := readTaints_any v1 a w h1 hl1
  have r2 := fun w1 (hb : Below w.heap.size w w1) => readTaints_any v2 b (w1.alloc (.cells #[.int .i64 (readOf (tl a) 0), .int .i64 (readOf (tl a) 1), .int .i64 (readOf (tl a) 2), .int .i64 (readOf (tl a) 3), .int .i64 (readOf (tl a) 4), .int .i64 (readOf (tl a) 5), .int .i64 (readOf (tl a) 6), .int .i64 (readOf (tl a) 7), .int .i64 (readOf (tl a) 8), .int .i64 (readOf (tl a) 9)] 71)) ((h2.below hb).below ((Below.refl _ _).alloc (Nat.le_refl _) _)) hl2
  clear h1 h2
  unfold tolOf
  cases ha : labsOk (tl a)
  · rw [ha] at r1
    have R1 := Lib.hid r1
    have HM := Lib.hid (matchOf_no2 (a := tl b) ha)
    clear r1 r2 ha
    go_enter Tryd.func38, Tryd.ntmps38
    go_wp2_with fail
    refine R1.out.mono ?_
    rintro e w1 ⟨rfl, hb1⟩
    have hz1 := hb1.size
    go_wp2_with fail
    go_ret
    rw [HM.out]
    exact ⟨rfl, (by repeat' (first | exact Below.refl _ _ | refine Below.alloc ?_ ?_ _ | refine Below.setCell ?_ ?_ _ | refine Below.drew ?_ | (apply below_step; assumption) | (simp; done) | (simp; omega) | omega))⟩
  · rw [ha] at r1
    cases hb : labsOk (tl b)
    · rw [hb] at r2
      have R1 := Lib.hid r1
      have R2 := Lib.hid r2
      have HM := Lib.hid (matchOf_no1 (b := tl a) hb)
      clear r1 r2 ha hb
      generalize readOf (tl a) = m1 at R1 R2
      go_enter Tryd.func38, Tryd.ntmps38
      go_wp2_with fail
      refine R1.out.mono ?_
      rintro e w1 ⟨rfl, hb1⟩
      have hz1 := hb1.size
      go_wp2_with fail
      refine (R2.out w1 hb1).mono ?_
      rintro e w2 ⟨rfl, hb2⟩
      have hz2 := hb2.size
      simp at hz2
      go_wp2_with fail
      go_ret
      rw [HM.out]
      exact ⟨rfl, (by repeat' (first | exact Below.refl _ _ | refine Below.alloc ?_ ?_ _ | refine Below.setCell ?_ ?_ _ | refine Below.drew ?_ | (apply below_step; assumption) | (simp; done) | (simp; omega) | omega))⟩
    · rw [hb] at r2
      have R1 := Lib.hid r1
      have R2 := Lib.hid r2
      have HM := Lib.hid (matchOf_yes hb ha)
      clear r1 r2 ha hb
      generalize readOf (tl a) = m1 at R1 R2 HM
      generalize readOf (tl b) = m2 at R2 HM
      go_enter Tryd.func38, Tryd.ntmps38
      go_wp2_with fail
      refine R1.out.mono ?_
      rintro e w1 ⟨rfl, hb1⟩
      have hz1 := hb1.size
      go_wp2_with fail
      refine (R2.out w1 hb1).mono ?_
      rintro e w2 ⟨rfl, hb2⟩
      have hz2 := hb2.size
      simp at hz2
      have hM1 := ((BlockIs.new w1 71 #[.int .i64 (m1 0), .int .i64 (m1 1), .int .i64 (m1 2), .int .i64 (m1 3), .int .i64 (m1 4), .int .i64 (m1 5), .int .i64 (m1 6), .int .i64 (m1 7), .int .i64 (m1 8), .int .i64 (m1 9)]).below hb2 (by simp)).alloc (.cells #[.int .i64 (m2 0), .int .i64 (m2 1), .int .i64 (m2 2), .int .i64 (m2 3), .int .i64 (m2 4), .int .i64 (m2 5), .int .i64 (m2 6), .int .i64 (m2 7), .int .i64 (m2 8), .int .i64 (m2 9)] 71)
      have z0 := (hM1).cell 0; have z1 := (hM1).cell 1; have z2 := (hM1).cell 2; have z3 := (hM1).cell 3; have z4 := (hM1).cell 4; have z5 := (hM1).cell 5; have z6 := (hM1).cell 6; have z7 := (hM1).cell 7; have z8 := (hM1).cell 8; have z9 := (hM1).cell 9; simp at z0 z1 z2 z3 z4 z5 z6 z7 z8 z9
      clear hM1
      go_wp2_with fail
      refine (hasAll_any m2 m1 _).mono ?_
      rintro e w3 ⟨rfl, hb3⟩
      have hz3 := hb3.size
      simp at hz3
      go_wp2_with fail
      go_ret
      rw [HM.out]
      exact ⟨rfl, (by repeat' (first | exact Below.refl _ _ | refine Below.alloc ?_ ?_ _ | refine Below.setCell ?_ ?_ _ | refine Below.drew ?_ | (apply below_step; assumption) | (simp; done) | (simp; omega) | omega))⟩
end Go.Proofs.YtmkpajjnjgnmkaaDoor

namespace Go.Proofs.YtmkpajjnjgnmkaaDoor
open Go.RowKit

theorem idOk_any (n : Int) (w : World) : Calls Tryd.prog 33 #[.int .i64 n] w fun e w' => e = .returned (.bool (idOk n)) ∧ w = w' := by
  by_cases h1 : 1 ≤ n
  · by_cases h2 : n ≤ 99
    · have H := Lib.hid (idOk_iff.2 ⟨h1, h2⟩)
      go_enter Tryd.func33, Tryd.ntmps33
      go_wp2
      go_ret
      exact ⟨by rw [H.out]; simp, rfl⟩
    · have H := Lib.hid (idBad_iff.2 (fun h => h2 h.2))
      have h3 : 99 < n := by omega
      clear h2
      go_enter Tryd.func33, Tryd.ntmps33
      go_wp2
      go_ret
      exact ⟨by rw [H.out]; simp; omega, rfl⟩
  · have H := Lib.hid (idBad_iff.2 (fun h => h1 h.1))
    have h2 : n < 1 := by omega
    clear h1
    go_enter Tryd.func33, Tryd.ntmps33
    go_wp2
    go_ret
    exact ⟨by rw [H.out]; rfl, rfl⟩

theorem tv_ok_eq (t : TV) (b1 b2 b3 b4 b5 b6 : Bool) (h1 : idOk t.id = b1) (h2 : decide (0 ≤ t.prio) = b2) (h3 : decide (t.prio ≤ 9) = b3) (h4 : t.need.ok = b4) (h5 : labsOk t.want = b5) (h6 : labsOk (tl t.tols) = b6) : t.ok = (b1 && b2 && b3 && b4 && b5 && b6) := by
  subst h1 h2 h3 h4 h5 h6; rfl
theorem nv_ok_eq (t : NV) (b1 b2 b3 b4 b5 b6 : Bool) (h1 : idOk t.id = b1) (h2 : decide (0 ≤ t.pool) = b2) (h3 : decide (t.pool < 5) = b3) (h4 : t.cap.ok = b4) (h5 : labsOk t.labs = b5) (h6 : labsOk (tl t.taints) = b6) : t.ok = (b1 && b2 && b3 && b4 && b5 && b6) := by
  subst h1 h2 h3 h4 h5 h6; rfl

set_option maxHeartbeats 1600000 in
theorem TaskOk_any (t : TV) (v1 v2 : Value) (w : World) (x : Addr) (hg : ErrAt x w) (h1 : LabSl w v1 t.want) (h2 : IntSl w v2 t.tols) (l1 : t.want.length ≤ 1048576) (l2 : t.tols.length ≤ 1048576) :
    Calls Tryd.prog 21 #[.agg #[.int .i64 t.id, .int .i64 t.prio, .int .i64 t.need.c, .int .i64 t.need.m, .int .i64 t.need.p, v1, v2]] w fun e w' => e = .returned (.bool t.ok) ∧ Below w.heap.size w w' := by
  have HG := Lib.hid hg
  have HL := Lib.hid h1
  have HI := Lib.hid h2
  have HE := Lib.hid (tv_ok_eq t)
  have hid := idOk_any t.id
  have hne : ∀ w x (hg : ErrAt x w), Calls Tryd.prog 34 #[.agg #[.int .i64 t.need.c, .int .i64 t.need.m, .int .i64 t.need.p]] w fun e w' => e = .returned (.bool t.need.ok) ∧ Below w.heap.size w w' := fun w x hg => ResOk_any t.need w x hg
  have hla : ∀ w (h : LabSl w v1 t.want), Calls Tryd.prog 35 #[v1] w fun e w' => e = .returned (.bool (labsOk t.want)) ∧ Below w.heap.size w w' := fun w h => LabsOk_any v1 t.want w h l1
  have hta : ∀ w (h : IntSl w v2 t.tols), Calls Tryd.prog 36 #[v2] w fun e w' => e = .returned (.bool (labsOk (tl t.tols))) ∧ Below w.heap.size w w' := fun w h => TaintsOk_any v2 t.tols w h l2
  generalize t.ok = ok at *
  generalize e1 : idOk t.id = b1 at hid
  generalize e2 : decide (0 ≤ t.prio) = b2
  generalize e3 : decide (t.prio ≤ 9) = b3
  generalize e4 : t.need.ok = b4 at hne
  generalize e5 : labsOk t.want = b5 at hla
  generalize e6 : labsOk (tl t.tols) = b6 at hta
  have HE' := Lib.hid (HE.out _ _ _ _ _ _ e1 e2 e3 e4 e5 e6)
  have HID := Lib.hid hid
  have HNE := Lib.hid hne
  have HLA := Lib.hid hla
  have HTA := Lib.hid hta
  clear hg h1 h2 hid hne hla hta e1 e4 e5 e6 HE l1 l2
  go_enter Tryd.func21, Tryd.ntmps21
  go_wp2_with fail
  refine (HID.out _).mono ?_
  rintro e w1 ⟨rfl, rfl⟩
  cases b1
  · go_wp2_with fail
    go_ret
    exact ⟨by rw [HE'.out]; simp, (by repeat' (first | exact Below.refl _ _ | refine Below.alloc ?_ ?_ _ | refine Below.setCell ?_ ?_ _ | refine Below.drew ?_ | (apply below_step; assumption) | (simp; done) | (simp; omega) | omega))⟩
  cases b2
  · go_wp2_with fail
    go_ret
    exact ⟨by rw [HE'.out]; simp, (by repeat' (first | exact Below.refl _ _ | refine Below.alloc ?_ ?_ _ | refine Below.setCell ?_ ?_ _ | refine Below.drew ?_ | (apply below_step; assumption) | (simp; done) | (simp; omega) | omega))⟩
  cases b3
  · go_wp2_with fail
    go_ret
    exact ⟨by rw [HE'.out]; simp, (by repeat' (first | exact Below.refl _ _ | refine Below.alloc ?_ ?_ _ | refine Below.setCell ?_ ?_ _ | refine Below.drew ?_ | (apply below_step; assumption) | (simp; done) | (simp; omega) | omega))⟩
  go_wp2_with fail
  refine (HNE.out _ x (HG.out.alloc _)).mono ?_
  rintro e w2 ⟨rfl, hb2⟩
  have hz2 := hb2.size
  simp at hz2
  obtain ⟨hc2, hf2⟩ := bcell hb2
  have hC2 : Below w.heap.size w w2 := ((Below.refl _ _).alloc (Nat.le_refl _) _).trans (hb2.mono (by simp))
  cases b4
  · go_wp2_with fail
    go_ret
    exact ⟨by rw [HE'.out]; simp, hC2⟩
  go_wp2_with fail
  refine (HLA.out _ (HL.out.below hC2)).mono ?_
  rintro e w3 ⟨rfl, hb3⟩
  have hz3 := hb3.size
  obtain ⟨hc3, hf3⟩ := bcell hb3
  have hs2 : w.heap.size < w2.heap.size := by omega
  have hC3 : Below w.heap.size w w3 := hC2.trans (hb3.mono hC2.size)
  cases b5
  · go_wp2_with fail
    go_ret
    exact ⟨by rw [HE'.out]; simp, hC3⟩
  go_wp2_with fail
  refine (HTA.out _ (HI.out.below hC3)).mono ?_
  rintro e w4 ⟨rfl, hb4⟩
  have hC4 : Below w.heap.size w w4 := hC3.trans (hb4.mono hC3.size)
  go_wp2_with fail
  go_ret
  exact ⟨by rw [HE'.out]; simp, hC4⟩
set_option maxHeartbeats 1600000 in
theorem NodeOk_any (t : NV) (v1 v2 : Value) (w : World) (x : Addr) (hg : ErrAt x w) (h1 : LabSl w v1 t.labs) (h2 : IntSl w v2 t.taints) (l1 : t.labs.length ≤ 1048576) (l2 : t.taints.length ≤ 1048576) :
    Calls Tryd.prog 20 #[.agg #[.int .i64 t.id, .int .i64 t.pool, .int .i64 t.cap.c, .int .i64 t.cap.m, .int .i64 t.cap.p, v1, v2, .bool t.cordon]] w fun e w' => e = .returned (.bool t.ok) ∧ Below w.heap.size w w' := by
  have HG := Lib.hid hg
  have HL := Lib.hid h1
  have HI := Lib.hid h2
  have HE := Lib.hid (nv_ok_eq t)
  have hid := idOk_any t.id
  have hne : ∀ w x (hg : ErrAt x w), Calls Tryd.prog 34 #[.agg #[.int .i64 t.cap.c, .int .i64 t.cap.m, .int .i64 t.cap.p]] w fun e w' => e = .returned (.bool t.cap.ok) ∧ Below w.heap.size w w' := fun w x hg => ResOk_any t.cap w x hg
  have hla : ∀ w (h : LabSl w v1 t.labs), Calls Tryd.prog 35 #[v1] w fun e w' => e = .returned (.bool (labsOk t.labs)) ∧ Below w.heap.size w w' := fun w h => LabsOk_any v1 t.labs w h l1
  have hta : ∀ w (h : IntSl w v2 t.taints), Calls Tryd.prog 36 #[v2] w fun e w' => e = .returned (.bool (labsOk (tl t.taints))) ∧ Below w.heap.size w w' := fun w h => TaintsOk_any v2 t.taints w h l2
  generalize t.ok = ok at *
  generalize e1 : idOk t.id = b1 at hid
  generalize e2 : decide (0 ≤ t.pool) = b2
  generalize e3 : decide (t.pool < 5) = b3
  generalize e4 : t.cap.ok = b4 at hne
  generalize e5 : labsOk t.labs = b5 at hla
  generalize e6 : labsOk (tl t.taints) = b6 at hta
  have HE' := Lib.hid (HE.out _ _ _ _ _ _ e1 e2 e3 e4 e5 e6)
  have HID := Lib.hid hid
  have HNE := Lib.hid hne
  have HLA := Lib.hid hla
  have HTA := Lib.hid hta
  clear hg h1 h2 hid hne hla hta e1 e4 e5 e6 HE l1 l2
  go_enter Tryd.func20, Tryd.ntmps20
  go_wp2_with fail
  refine (HID.out _).mono ?_
  rintro e w1 ⟨rfl, rfl⟩
  cases b1
  · go_wp2_with fail
    go_ret
    exact ⟨by rw [HE'.out]; simp, (by repeat' (first | exact Below.refl _ _ | refine Below.alloc ?_ ?_ _ | refine Below.setCell ?_ ?_ _ | refine Below.drew ?_ | (apply below_step; assumption) | (simp; done) | (simp; omega) | omega))⟩
  cases b2
  · go_wp2_with fail
    go_ret
    exact ⟨by rw [HE'.out]; simp, (by repeat' (first | exact Below.refl _ _ | refine Below.alloc ?_ ?_ _ | refine Below.setCell ?_ ?_ _ | refine Below.drew ?_ | (apply below_step; assumption) | (simp; done) | (simp; omega) | omega))⟩
  cases b3
  · go_wp2_with fail
    go_ret
    exact ⟨by rw [HE'.out]; simp, (by repeat' (first | exact Below.refl _ _ | refine Below.alloc ?_ ?_ _ | refine Below.setCell ?_ ?_ _ | refine Below.drew ?_ | (apply below_step; assumption) | (simp; done) | (simp; omega) | omega))⟩
  go_wp2_with fail
  refine (HNE.out _ x (HG.out.alloc _)).mono ?_
  rintro e w2 ⟨rfl, hb2⟩
  have hz2 := hb2.size
  simp at hz2
  obtain ⟨hc2, hf2⟩ := bcell hb2
  have hC2 : Below w.heap.size w w2 := ((Below.refl _ _).alloc (Nat.le_refl _) _).trans (hb2.mono (by simp))
  cases b4
  · go_wp2_with fail
    go_ret
    exact ⟨by rw [HE'.out]; simp, hC2⟩
  go_wp2_with fail
  refine (HLA.out _ (HL.out.below hC2)).mono ?_
  rintro e w3 ⟨rfl, hb3⟩
  have hz3 := hb3.size
  obtain ⟨hc3, hf3⟩ := bcell hb3
  have hs2 : w.heap.size < w2.heap.size := by omega
  have hC3 : Below w.heap.size w w3 := hC2.trans (hb3.mono hC2.size)
  cases b5
  · go_wp2_with fail
    go_ret
    exact ⟨by rw [HE'.out]; simp, hC3⟩
  go_wp2_with fail
  refine (HTA.out _ (HI.out.below hC3)).mono ?_
  rintro e w4 ⟨rfl, hb4⟩
  have hC4 : Below w.heap.size w w4 := hC3.trans (hb4.mono hC3.size)
  go_wp2_with fail
  go_ret
  exact ⟨by rw [HE'.out]; simp, hC4⟩

theorem ma_eq (n : NV) (t : TV) (b3 b4 : Bool) (h3 : matchOf n.labs t.want = b3) (h4 : tolOf n.taints t.tols = b4) : hosts n t = (b3 && b4) := by
  subst h3 h4; rfl
theorem ch_eq (n : NV) (t : TV) (b1 b2 b3 : Bool) (h1 : n.ok = b1) (h2 : t.ok = b2) (h3 : hosts n t = b3) : canHost n t = (b1 && b2 && b3) := by
  subst h1 h2 h3; rfl

set_option maxHeartbeats 1600000 in
theorem marksAllow_any (n : NV) (t : TV) (u1 u2 v1 v2 : Value) (w : World) (k1 : LabSl w u1 n.labs) (k2 : IntSl w u2 n.taints) (h1 : LabSl w v1 t.want) (h2 : IntSl w v2 t.tols)
    (m1 : n.labs.length ≤ 1048576) (m2 : n.taints.length ≤ 1048576) (l1 : t.want.length ≤ 1048576) (l2 : t.tols.length ≤ 1048576) :
    Calls Tryd.prog 22 #[.agg #[.int .i64 n.id, .int .i64 n.pool, .int .i64 n.cap.c, .int .i64 n.cap.m, .int .i64 n.cap.p, u1, u2, .bool n.cordon], .agg #[.int .i64 t.id, .int .i64 t.prio, .int .i64 t.need.c, .int .i64 t.need.m, .int .i64 t.need.p, v1, v2]] w fun e w' => e = .returned (.bool (hosts n t)) ∧ Below w.heap.size w w' := by
  have K1 := Lib.hid k1
  have K2 := Lib.hid k2
  have H1 := Lib.hid h1
  have H2 := Lib.hid h2
  have hla : ∀ w (k : LabSl w u1 n.labs) (h : LabSl w v1 t.want), Calls Tryd.prog 37 #[u1, v1] w fun e w' => e = .returned (.bool (matchOf n.labs t.want)) ∧ Below w.heap.size w w' := fun w k h => LabsMatch_any u1 v1 n.labs t.want w k h m1 l1
  have hta : ∀ w (k : IntSl w u2 n.taints) (h : IntSl w v2 t.tols), Calls Tryd.prog 38 #[u2, v2] w fun e w' => e = .returned (.bool (tolOf n.taints t.tols)) ∧ Below w.heap.size w w' := fun w k h => Tolerates_any u2 v2 n.taints t.tols w k h m2 l2
  have HE := Lib.hid (ma_eq n t)
  generalize hosts n t = ok at *
  generalize e3 : matchOf n.labs t.want = b3 at hla
  generalize e4 : tolOf n.taints t.tols = b4 at hta
  have HE' := Lib.hid (HE.out _ _ e3 e4)
  have HLA := Lib.hid hla
  have HTA := Lib.hid hta
  clear k1 k2 h1 h2 hla hta e3 e4 HE m1 m2 l1 l2
  go_enter Tryd.func22, Tryd.ntmps22
  go_wp2_with fail
  have hC0 : Below w.heap.size w ((w.alloc (.cells #[.int .i64 n.id, .int .i64 n.pool, .int .i64 n.cap.c, .int .i64 n.cap.m, .int .i64 n.cap.p, u1, u2, .bool n.cordon] 36)).alloc (.cells #[.int .i64 t.id, .int .i64 t.prio, .int .i64 t.need.c, .int .i64 t.need.m, .int .i64 t.need.p, v1, v2] 39)) := (by repeat' (first | exact Below.refl _ _ | refine Below.alloc ?_ ?_ _ | refine Below.setCell ?_ ?_ _ | refine Below.drew ?_ | (apply below_step; assumption) | (simp; done) | (simp; omega) | omega))
  refine (HLA.out _ (K1.out.below hC0) (H1.out.below hC0)).mono ?_
  rintro e w3 ⟨rfl, hb3⟩
  have hz3 := hb3.size
  simp at hz3
  obtain ⟨hc3, hf3⟩ := bcell hb3
  have hs2 : w.heap.size < w3.heap.size := by omega
  have hs2' : w.heap.size + 1 < w3.heap.size := by omega
  have hC3 : Below w.heap.size w w3 := hC0.trans (hb3.mono hC0.size)
  cases b3
  · go_wp2_with fail
    go_ret
    exact ⟨by rw [HE'.out]; simp, hC3⟩
  go_wp2_with fail
  refine (HTA.out _ (K2.out.below hC3) (H2.out.below hC3)).mono ?_
  rintro e w4 ⟨rfl, hb4⟩
  have hC4 : Below w.heap.size w w4 := hC3.trans (hb4.mono hC3.size)
  go_wp2_with fail
  go_ret
  exact ⟨by rw [HE'.out]; simp, hC4⟩

set_option maxHeartbeats 1600000 in
theorem CanHost_any (n : NV) (t : TV) (u1 u2 v1 v2 : Value) (w : World) (x : Addr) (hg : ErrAt x w) (k1 : LabSl w u1 n.labs) (k2 : IntSl w u2 n.taints) (h1 : LabSl w v1 t.want) (h2 : IntSl w v2 t.tols)
    (m1 : n.labs.length ≤ 1048576) (m2 : n.taints.length ≤ 1048576) (l1 : t.want.length ≤ 1048576) (l2 : t.tols.length ≤ 1048576) :
    Calls Tryd.prog 9 #[.agg #[.int .i64 n.id, .int .i64 n.pool, .int .i64 n.cap.c, .int .i64 n.cap.m, .int .i64 n.cap.p, u1, u2, .bool n.cordon], .agg #[.int .i64 t.id, .int .i64 t.prio, .int .i64 t.need.c, .int .i64 t.need.m, .int .i64 t.need.p, v1, v2]] w fun e w' => e = .returned (.bool (canHost n t)) ∧ Below w.heap.size w w' := by
  have HG := Lib.hid hg
  have K1 := Lib.hid k1
  have K2 := Lib.hid k2
  have H1 := Lib.hid h1
  have H2 := Lib.hid h2
  have hn : ∀ w x (hg : ErrAt x w) (h1 : LabSl w u1 n.labs) (h2 : IntSl w u2 n.taints), Calls Tryd.prog 20 #[.agg #[.int .i64 n.id, .int .i64 n.pool, .int .i64 n.cap.c, .int .i64 n.cap.m, .int .i64 n.cap.p, u1, u2, .bool n.cordon]] w fun e w' => e = .returned (.bool n.ok) ∧ Below w.heap.size w w' := fun w x hg h1 h2 => NodeOk_any n u1 u2 w x hg h1 h2 m1 m2
  have ht : ∀ w x (hg : ErrAt x w) (h1 : LabSl w v1 t.want) (h2 : IntSl w v2 t.tols), Calls Tryd.prog 21 #[.agg #[.int .i64 t.id, .int .i64 t.prio, .int .i64 t.need.c, .int .i64 t.need.m, .int .i64 t.need.p, v1, v2]] w fun e w' => e = .returned (.bool t.ok) ∧ Below w.heap.size w w' := fun w x hg h1 h2 => TaskOk_any t v1 v2 w x hg h1 h2 l1 l2
  have hma : ∀ w (k1 : LabSl w u1 n.labs) (k2 : IntSl w u2 n.taints) (h1 : LabSl w v1 t.want) (h2 : IntSl w v2 t.tols), Calls Tryd.prog 22 #[.agg #[.int .i64 n.id, .int .i64 n.pool, .int .i64 n.cap.c, .int .i64 n.cap.m, .int .i64 n.cap.p, u1, u2, .bool n.cordon], .agg #[.int .i64 t.id, .int .i64 t.prio, .int .i64 t.need.c, .int .i64 t.need.m, .int .i64 t.need.p, v1, v2]] w fun e w' => e = .returned (.bool (hosts n t)) ∧ Below w.heap.size w w' := fun w k1 k2 h1 h2 => marksAllow_any n t u1 u2 v1 v2 w k1 k2 h1 h2 m1 m2 l1 l2
  have HE := Lib.hid (ch_eq n t)
  generalize canHost n t = ok at *
  generalize e1 : n.ok = b1 at hn
  generalize e2 : t.ok = b2 at ht
  generalize e3 : hosts n t = b3 at hma
  have HE' := Lib.hid (HE.out _ _ _ e1 e2 e3)
  have HN := Lib.hid hn
  have HT := Lib.hid ht
  have HMA := Lib.hid hma
  clear hg k1 k2 h1 h2 hn ht hma e1 e2 e3 HE m1 m2 l1 l2
  go_enter Tryd.func9, Tryd.ntmps9
  go_wp2_with fail
  have hC0 : Below w.heap.size w ((w.alloc (.cells #[.int .i64 n.id, .int .i64 n.pool, .int .i64 n.cap.c, .int .i64 n.cap.m, .int .i64 n.cap.p, u1, u2, .bool n.cordon] 36)).alloc (.cells #[.int .i64 t.id, .int .i64 t.prio, .int .i64 t.need.c, .int .i64 t.need.m, .int .i64 t.need.p, v1, v2] 39)) := (by repeat' (first | exact Below.refl _ _ | refine Below.alloc ?_ ?_ _ | refine Below.setCell ?_ ?_ _ | refine Below.drew ?_ | (apply below_step; assumption) | (simp; done) | (simp; omega) | omega))
  refine (HN.out _ x ((HG.out.alloc _).alloc _) (K1.out.below hC0) (K2.out.below hC0)).mono ?_
  rintro e w1 ⟨rfl, hb1⟩
  have hz1 := hb1.size
  simp at hz1
  obtain ⟨hc1, hf1⟩ := bcell hb1
  have hg1 := Lib.hid (((HG.out.alloc _).alloc _).below hb1 (Nat.le_refl _))
  have hC1 : Below w.heap.size w w1 := hC0.trans (hb1.mono hC0.size)
  cases b1
  · go_wp2_with fail
    go_ret
    exact ⟨by rw [HE'.out]; simp, hC1⟩
  go_wp2_with fail
  refine (HT.out _ x hg1.out (H1.out.below hC1) (H2.out.below hC1)).mono ?_
  rintro e w2 ⟨rfl, hb2⟩
  have hz2 := hb2.size
  obtain ⟨hc2, hf2⟩ := bcell hb2
  have hs1 : w.heap.size < w1.heap.size := by omega
  have hs1' : w.heap.size + 1 < w1.heap.size := by omega
  have hC2 : Below w.heap.size w w2 := hC1.trans (hb2.mono hC1.size)
  cases b2
  · go_wp2_with fail
    go_ret
    exact ⟨by rw [HE'.out]; simp, hC2⟩
  have hs2 : w.heap.size < w2.heap.size := by omega
  have hs2' : w.heap.size + 1 < w2.heap.size := by omega
  go_wp2_with fail
  refine (HMA.out _ (K1.out.below hC2) (K2.out.below hC2) (H1.out.below hC2) (H2.out.below hC2)).mono ?_
  rintro e w3 ⟨rfl, hb3⟩
  have hC3 : Below w.heap.size w w3 := hC2.trans (hb3.mono hC2.size)
  go_wp2_with fail
  go_ret
  exact ⟨by rw [HE'.out]; simp, hC3⟩
end Go.Proofs.YtmkpajjnjgnmkaaDoor

namespace Go.Proofs.YtmkpajjnjgnmkaaDoor
open Go.RowKit

theorem sLabsOk_long (A : Option Addr) (n c : Nat) (w : World) (h : 6 < n) (hm : n ≤ 1048576) :
    Calls Tryd.prog 28 #[.slice A n c] w fun e w' => e = .returned (.bool false) ∧ Below w.heap.size w w' := by
  have h6 : (6 : Int) < (n : Int) := by omega
  go_enter Tryd.func28, Tryd.ntmps28
  go_wp2_with fail
  go_ret
  exact ⟨rfl, (by repeat' (first | exact Below.refl _ _ | refine Below.alloc ?_ ?_ _ | refine Below.setCell ?_ ?_ _ | refine Below.drew ?_ | (apply below_step; assumption) | (simp; done) | (simp; omega) | omega))⟩

def lastK (l : List LV) (k : Nat) : Int := if k = 0 then -1 else (l.getD (k - 1) ⟨0, 0⟩).k

set_option maxHeartbeats 3200000 in
theorem sLabsOk_short (v : Value) (l : List LV) (w : World) (hv : LabSl w v l) (hlen : l.length ≤ 6) :
    Calls Tryd.prog 28 #[v] w fun e w' => e = .returned (.bool (labsOk l)) ∧ Below w.heap.size w w' := by
  obtain ⟨A, c, rfl, hA⟩ := hv.form
  have HA := Lib.hid hA
  have HO := Lib.hid (labsOk_short hlen)
  clear hA hv
  have hl6 : (l.length : Int) ≤ 6 := by omega
  go_enter Tryd.func28, Tryd.ntmps28
  go_wp2_with fail
  go_loopw [3] (fun s3 wr => ∃ (k : Nat), k ≤ l.length ∧ s3 = .int .i64 k ∧ labsFrom (-1) l = labsFrom (lastK l k) (l.drop k) ∧ Below w.heap.size w wr) (fun s3 _ => (l.length - intOf s3).toNat)
  case atStart => exact ⟨0, by omega, rfl, by rw [List.drop_zero]; rfl, Below.refl _ _⟩
  case round =>
    obtain ⟨k, hk, rfl, hF, hB⟩ := hrel
    have HF := Lib.hid hF
    have hzr := hB.size
    clear hF
    by_cases hlt : k < l.length
    · obtain ⟨b, off, rfl, hbw, hat⟩ := HA.out (by omega)
      obtain ⟨r, hr⟩ : ∃ r, l[k]? = some r := ⟨_, List.getElem?_eq_getElem hlt⟩
      have HD := Lib.hid (drop_at hr)
      have HN : Hid (lastK l (k + 1) = r.k) := by
        show _ = _
        simp [lastK, List.getD, hr]
      obtain ⟨q0, q1⟩ := (hat.below hB hbw) k r hr
      have hlti : (k : Int) < (l.length : Int) := by omega
      have hbr : b < wr.heap.size := by omega
      rcases (show r.k < 0 ∨ (0 ≤ r.k ∧ 9 < r.k) ∨ (0 ≤ r.k ∧ r.k ≤ 9 ∧ r.v < 0) ∨ (0 ≤ r.k ∧ r.k ≤ 9 ∧ 0 ≤ r.v ∧ 9 < r.v) ∨ (0 ≤ r.k ∧ r.k ≤ 9 ∧ 0 ≤ r.v ∧ r.v ≤ 9) by omega) with g | g | g | g | g
      case inr.inr.inr.inr => 
        obtain ⟨g0, g1, g2, g3⟩ := g
        have HR := Lib.hid (LV.ok_iff.2 ⟨g0, g1, g2, g3⟩)
        by_cases hk0 : k = 0
        · have HL : Hid (lastK l k < r.k) := by
            show _ < _
            rw [hk0]; simp [lastK]; omega
          have HK0 := Lib.hid hk0
          have hkb : decide (0 < k) = false := by simp; omega
          have b0 : decide (r.k < 0) = false := by simp; omega
          have b1 : decide (9 < r.k) = false := by simp; omega
          have b2 : decide (r.v < 0) = false := by simp; omega
          have b3 : decide (9 < r.v) = false := by simp; omega
          clear hat hr hk0 g0 g1 g2 g3
          go_wp2_with fail
          go_quiet (fail)
          go_wp2_with fail
          go_roundw
          case rel =>
            refine ⟨k + 1, by omega, by go_num, ?_, (by repeat' (first | exact Below.refl _ _ | refine Below.alloc ?_ ?_ _ | refine Below.setCell ?_ ?_ _ | refine Below.drew ?_ | refine below_drewN ?_ _ | (apply below_step; assumption) | (simp; done) | (simp; omega) | omega))⟩
            rw [HF.out, HD.out, HN.out, labsFrom_yes HR.out HL.out]
          case measure => simp [intOf]; omega
        · obtain ⟨q, hq⟩ : ∃ q, l[k - 1]? = some q := ⟨_, List.getElem?_eq_getElem (by omega)⟩
          obtain ⟨p0, _⟩ := (hat.below hB hbw) (k - 1) q hq
          have HL : Hid (lastK l k = q.k) := by
            show _ = _
            simp [lastK, List.getD, hq, hk0]
          have hkb : decide (0 < k) = true := by simp; omega
          have b0 : decide (r.k < 0) = false := by simp; omega
          have b1 : decide (9 < r.k) = false := by simp; omega
          have b2 : decide (r.v < 0) = false := by simp; omega
          have b3 : decide (9 < r.v) = false := by simp; omega
          have n1 : (0 : Int) ≤ (k : Int) - 1 := by omega
          have n2 : (1 : Int) ≤ (k : Int) := by omega
          have n3 : (k : Int) - 1 < (l.length : Int) := by omega
          have n4 : ((k : Int) - 1).toNat = k - 1 := by omega
          have n5 : IntKind.i64.wrap ((k : Int) - 1) = (k : Int) - 1 := IntWalk.i64_in _ (by omega)
          by_cases hle : r.k ≤ q.k
          · have HLE := Lib.hid hle
            have b4 : decide (r.k ≤ q.k) = true := by simpa using hle
            clear hat hr hk0 g0 g1 g2 g3 hq hle
            go_wp2_with fail
            go_quiet (fail)
            go_wp2_with fail
            have HX : Hid (labsOk l = false) := by
              show _ = _
              rw [HO.out, HF.out, HD.out, labsFrom_low (by rw [HL.out]; exact HLE.out)]
            go_ret
            rw [HX.out]
            exact ⟨rfl, (by repeat' (first | exact Below.refl _ _ | refine Below.alloc ?_ ?_ _ | refine Below.setCell ?_ ?_ _ | refine Below.drew ?_ | refine below_drewN ?_ _ | (apply below_step; assumption) | (simp; done) | (simp; omega) | omega))⟩
          · have HLE := Lib.hid (show q.k < r.k by omega)
            have b4 : decide (r.k ≤ q.k) = false := by simp; omega
            clear hat hr hk0 g0 g1 g2 g3 hq hle
            go_wp2_with fail
            go_quiet (fail)
            go_wp2_with fail
            clear n4 n5
            go_roundw
            case rel =>
              refine ⟨k + 1, by omega, by go_num, ?_, (by repeat' (first | exact Below.refl _ _ | refine Below.alloc ?_ ?_ _ | refine Below.setCell ?_ ?_ _ | refine Below.drew ?_ | refine below_drewN ?_ _ | (apply below_step; assumption) | (simp; done) | (simp; omega) | omega))⟩
              rw [HF.out, HD.out, HN.out, labsFrom_yes HR.out (by rw [HL.out]; exact HLE.out)]
            case measure => simp [intOf]; omega
      · have HR := Lib.hid (LV.bad_iff.2 (show ¬ (0 ≤ r.k ∧ r.k ≤ 9 ∧ 0 ≤ r.v ∧ r.v ≤ 9) by omega))
        have b0 : decide (r.k < 0) = true := by simp; omega
        clear hat hr g
        go_wp2_with fail
        go_quiet (fail)
        go_wp2_with fail
        have HX : Hid (labsOk l = false) := by
          show _ = _
          rw [HO.out, HF.out, HD.out, labsFrom_bad HR.out]
        go_ret
        rw [HX.out]
        exact ⟨rfl, (by repeat' (first | exact Below.refl _ _ | refine Below.alloc ?_ ?_ _ | refine Below.setCell ?_ ?_ _ | refine Below.drew ?_ | refine below_drewN ?_ _ | (apply below_step; assumption) | (simp; done) | (simp; omega) | omega))⟩
      · have HR := Lib.hid (LV.bad_iff.2 (show ¬ (0 ≤ r.k ∧ r.k ≤ 9 ∧ 0 ≤ r.v ∧ r.v ≤ 9) by omega))
        have b0 : decide (r.k < 0) = false := by simp; omega
        have b1 : decide (9 < r.k) = true := by simp; omega
        clear hat hr g
        go_wp2_with fail
        go_quiet (fail)
        go_wp2_with fail
        have HX : Hid (labsOk l = false) := by
          show _ = _
          rw [HO.out, HF.out, HD.out, labsFrom_bad HR.out]
        go_ret
        rw [HX.out]
        exact ⟨rfl, (by repeat' (first | exact Below.refl _ _ | refine Below.alloc ?_ ?_ _ | refine Below.setCell ?_ ?_ _ | refine Below.drew ?_ | refine below_drewN ?_ _ | (apply below_step; assumption) | (simp; done) | (simp; omega) | omega))⟩
      · have HR := Lib.hid (LV.bad_iff.2 (show ¬ (0 ≤ r.k ∧ r.k ≤ 9 ∧ 0 ≤ r.v ∧ r.v ≤ 9) by omega))
        have b0 : decide (r.k < 0) = false := by simp; omega
        have b1 : decide (9 < r.k) = false := by simp; omega
        have b2 : decide (r.v < 0) = true := by simp; omega
        clear hat hr g
        go_wp2_with fail
        go_quiet (fail)
        go_wp2_with fail
        have HX : Hid (labsOk l = false) := by
          show _ = _
          rw [HO.out, HF.out, HD.out, labsFrom_bad HR.out]
        go_ret
        rw [HX.out]
        exact ⟨rfl, (by repeat' (first | exact Below.refl _ _ | refine Below.alloc ?_ ?_ _ | refine Below.setCell ?_ ?_ _ | refine Below.drew ?_ | refine below_drewN ?_ _ | (apply below_step; assumption) | (simp; done) | (simp; omega) | omega))⟩
      · have HR := Lib.hid (LV.bad_iff.2 (show ¬ (0 ≤ r.k ∧ r.k ≤ 9 ∧ 0 ≤ r.v ∧ r.v ≤ 9) by omega))
        have b0 : decide (r.k < 0) = false := by simp; omega
        have b1 : decide (9 < r.k) = false := by simp; omega
        have b2 : decide (r.v < 0) = false := by simp; omega
        have b3 : decide (9 < r.v) = true := by simp; omega
        clear hat hr g
        go_wp2_with fail
        go_quiet (fail)
        go_wp2_with fail
        have HX : Hid (labsOk l = false) := by
          show _ = _
          rw [HO.out, HF.out, HD.out, labsFrom_bad HR.out]
        go_ret
        rw [HX.out]
        exact ⟨rfl, (by repeat' (first | exact Below.refl _ _ | refine Below.alloc ?_ ?_ _ | refine Below.setCell ?_ ?_ _ | refine Below.drew ?_ | refine below_drewN ?_ _ | (apply below_step; assumption) | (simp; done) | (simp; omega) | omega))⟩
    · have hkl : k = l.length := by omega
      have HX : Hid (labsOk l = true) := by
        show _ = _
        rw [HO.out, HF.out, hkl, List.drop_length]; rfl
      clear hkl
      go_wp2_with fail
      go_ret
      rw [HX.out]
      exact ⟨rfl, hB⟩
end Go.Proofs.YtmkpajjnjgnmkaaDoor

namespace Go.Proofs.YtmkpajjnjgnmkaaDoor
open Go.RowKit

theorem sLabsOk_any (v : Value) (l : List LV) (w : World) (hv : LabSl w v l) (hlen : l.length ≤ 1048576) :
    Calls Tryd.prog 28 #[v] w fun e w' => e = .returned (.bool (labsOk l)) ∧ Below w.heap.size w w' := by
  by_cases h : l.length ≤ 6
  · exact sLabsOk_short v l w hv h
  · obtain ⟨A, c, rfl, _⟩ := hv.form
    rw [labsOk_long (by omega)]
    exact sLabsOk_long A l.length c w (by omega) hlen




set_option maxHeartbeats 1600000 in
theorem sLabsGet_any (v : Value) (l : List LV) (key : Int) (w : World) (hv : LabSl w v l) (hlen : l.length ≤ 1048576) :
    Calls Tryd.prog 41 #[v, .int .i64 key] w (RetI (getOf l key) w) := by
  have hok := fun w1 (hb : Below w.heap.size w w1) => sLabsOk_any v l w1 (hv.below hb) hlen
  cases ho : labsOk l
  · rw [ho] at hok
    have HG := Lib.hid (getOf_no (k := key) ho)
    have HOK := Lib.hid hok
    obtain ⟨A, c, rfl, _⟩ := hv.form
    clear hok ho hv
    go_enter Tryd.func41, Tryd.ntmps41
    go_wp2_with fail
    refine wp_loop_rounds 1 ?_
    rw [rounds_succ]
    go_wp2_with fail
    refine (HOK.out w (Below.refl _ _)).mono ?_
    rintro e w1 ⟨rfl, hb1⟩
    have hz1 := hb1.size
    go_wp2_with fail
    go_ret2
    rw [HG.out]
    exact ⟨rfl, hb1⟩
  · rw [ho] at hok
    have HG := Lib.hid (getOf_yes (k := key) ho)
    have HOK := Lib.hid hok
    obtain ⟨A, c, rfl, hA⟩ := hv.form
    have HA := Lib.hid hA
    clear hok ho hv hA
    go_enter Tryd.func41, Tryd.ntmps41
    go_wp2_with fail
    go_loopw [6] (fun s6 wr => ∃ (k : Nat), k ≤ l.length ∧ s6 = .int .i64 k ∧ findK l key = findK (l.drop k) key ∧ Below w.heap.size w wr) (fun s6 _ => (l.length - intOf s6).toNat)
    case atStart => exact ⟨0, by omega, rfl, by rw [List.drop_zero], Below.refl _ _⟩
    case round =>
      obtain ⟨k, hk, rfl, hF, hB⟩ := hrel
      have HF := Lib.hid hF
      have hzr := hB.size
      clear hF
      by_cases hlt : k < l.length
      · obtain ⟨b, off, rfl, hbw, hat⟩ := HA.out (by omega)
        obtain ⟨r, hr⟩ : ∃ r, l[k]? = some r := ⟨_, List.getElem?_eq_getElem hlt⟩
        have HD := Lib.hid (drop_at hr)
        have hlti : (k : Int) < (l.length : Int) := by omega
        go_wp2_with fail
        refine (HOK.out wr hB).mono ?_
        rintro e w1 ⟨rfl, hb1⟩
        have hz1 := hb1.size
        have hB1 : Below w.heap.size w w1 := (by repeat' (first | exact Below.refl _ _ | refine Below.alloc ?_ ?_ _ | refine Below.setCell ?_ ?_ _ | refine Below.drew ?_ | (apply below_step; assumption) | (simp; done) | (simp; omega) | omega))
        obtain ⟨q0, q1⟩ := (hat.below hB1 hbw) k r hr
        clear hat hr
        by_cases hkk : r.k = key
        · have HK := Lib.hid hkk
          have hkb : (r.k == key) = true := by simpa using hkk
          clear hkk
          go_wp2_with fail
          go_ret2
          rw [HG.out, HF.out, HD.out, findK_hit HK.out]
          exact ⟨rfl, hB1⟩
        · have HK := Lib.hid hkk
          have hkb : (r.k == key) = false := by simpa using hkk
          clear hkk
          go_wp2_with fail
          go_roundw
          case rel =>
            refine ⟨k + 1, by omega, by go_num, ?_, hB1⟩
            rw [HF.out, HD.out, findK_miss HK.out]
          case measure => simp [intOf]; omega
      · have hkl : k = l.length := by omega
        have HX : Hid (findK l key = (0, false)) := by
          show _ = _
          rw [HF.out, hkl, List.drop_length]; rfl
        clear hkl
        have hlti : ¬ (k : Int) < (l.length : Int) := by omega
        go_wp2_with fail
        refine (HOK.out wr hB).mono ?_
        rintro e w1 ⟨rfl, hb1⟩
        have hz1 := hb1.size
        have hB1 : Below w.heap.size w w1 := (by repeat' (first | exact Below.refl _ _ | refine Below.alloc ?_ ?_ _ | refine Below.setCell ?_ ?_ _ | refine Below.drew ?_ | (apply below_step; assumption) | (simp; done) | (simp; omega) | omega))
        go_wp2_with fail
        go_ret2
        rw [HG.out, HX.out]
        exact ⟨rfl, hB1⟩

theorem hasAllOf_yes {a r : List LV} {x : LV} (h1 : (findK a x.k).2 = true) (h2 : (findK a x.k).1 = x.v) : hasAllOf a (x :: r) = hasAllOf a r := by simp [hasAllOf, h1, h2]
theorem hasAllOf_no1 {a r : List LV} {x : LV} (h1 : (findK a x.k).2 = false) : hasAllOf a (x :: r) = false := by simp [hasAllOf, h1]
theorem hasAllOf_no2 {a r : List LV} {x : LV} (h2 : (findK a x.k).1 ≠ x.v) : hasAllOf a (x :: r) = false := by simp [hasAllOf, h2]
theorem matchOf_both {a b : List LV} (ha : labsOk a = true) (hb : labsOk b = true) : matchOf a b = hasAllOf a b := by simp [matchOf, ha, hb]

set_option maxHeartbeats 1600000 in
theorem sLabsMatch_any (v1 v2 : Value) (a b : List LV) (w : World) (h1 : LabSl w v1 a) (h2 : LabSl w v2 b) (hl1 : a.length ≤ 1048576) (hl2 : b.length ≤ 1048576) :
    Calls Tryd.prog 30 #[v1, v2] w fun e w' => e = .returned (.bool (matchOf a b)) ∧ Below w.heap.size w w' := by
  have r1 := sLabsOk_any v1 a w h1 hl1
  have r2 := fun w1 (hb : Below w.heap.size w w1) => sLabsOk_any v2 b w1 (h2.below hb) hl2
  have r3 := fun key w1 (hb : Below w.heap.size w w1) => sLabsGet_any v1 a key w1 (h1.below hb) hl1
  cases ha : labsOk a
  · rw [ha] at r1
    have R1 := Lib.hid r1
    have HM := Lib.hid (matchOf_no1 (b := b) ha)
    clear r1 r2 r3 ha h1 h2
    go_enter Tryd.func30, Tryd.ntmps30
    go_wp2_with fail
    refine R1.out.mono ?_
    rintro e w1 ⟨rfl, hb1⟩
    have hz1 := hb1.size
    go_wp2_with fail
    go_ret
    rw [HM.out]
    exact ⟨rfl, hb1⟩
  · rw [ha] at r1
    cases hb : labsOk b
    · rw [hb] at r2
      have R1 := Lib.hid r1
      have R2 := Lib.hid r2
      have HM := Lib.hid (matchOf_no2 (a := a) hb)
      clear r1 r2 r3 ha hb h1 h2
      go_enter Tryd.func30, Tryd.ntmps30
      go_wp2_with fail
      refine R1.out.mono ?_
      rintro e w1 ⟨rfl, hb1⟩
      have hz1 := hb1.size
      go_wp2_with fail
      refine (R2.out w1 hb1).mono ?_
      rintro e w2 ⟨rfl, hb2⟩
      have hz2 := hb2.size
      go_wp2_with fail
      go_ret
      rw [HM.out]
      exact ⟨rfl, (by repeat' (first | exact Below.refl _ _ | refine Below.alloc ?_ ?_ _ | refine Below.setCell ?_ ?_ _ | refine Below.drew ?_ | (apply below_step; assumption) | (simp; done) | (simp; omega) | omega))⟩
    · rw [hb] at r2
      have R1 := Lib.hid r1
      have R2 := Lib.hid r2
      have R3 := Lib.hid r3
      have HM := Lib.hid (matchOf_both ha hb)
      have HG := Lib.hid (fun k => getOf_yes (k := k) ha)
      obtain ⟨A, c, rfl, hA⟩ := h2.form
      have HA := Lib.hid hA
      clear r1 r2 r3 ha hb hA h1 h2
      go_enter Tryd.func30, Tryd.ntmps30
      go_wp2_with fail
      refine R1.out.mono ?_
      rintro e w1 ⟨rfl, hb1⟩
      have hz1 := hb1.size
      go_wp2_with fail
      refine (R2.out w1 hb1).mono ?_
      rintro e w2 ⟨rfl, hb2⟩
      have hz2 := hb2.size
      have hB2 : Below w.heap.size w w2 := (by repeat' (first | exact Below.refl _ _ | refine Below.alloc ?_ ?_ _ | refine Below.setCell ?_ ?_ _ | refine Below.drew ?_ | (apply below_step; assumption) | (simp; done) | (simp; omega) | omega))
      go_wp2_with fail
      go_loopw [5] (fun s5 wr => ∃ (k : Nat), k ≤ b.length ∧ s5 = .int .i64 k ∧ hasAllOf a b = hasAllOf a (b.drop k) ∧ Below w.heap.size w wr) (fun s5 _ => (b.length - intOf s5).toNat)
      case atStart => exact ⟨0, by omega, rfl, by rw [List.drop_zero], hB2⟩
      case round =>
        obtain ⟨k, hk, rfl, hF, hB⟩ := hrel
        have HF := Lib.hid hF
        have hzr := hB.size
        clear hF
        by_cases hlt : k < b.length
        · obtain ⟨g, off, rfl, hbw, hat⟩ := HA.out (by omega)
          obtain ⟨r, hr⟩ : ∃ r, b[k]? = some r := ⟨_, List.getElem?_eq_getElem hlt⟩
          have HD := Lib.hid (drop_at hr)
          have hlti : (k : Int) < (b.length : Int) := by omega
          obtain ⟨q0, q1⟩ := (hat.below hB hbw) k r hr
          have HAT := Lib.hid hat
          have HRR := Lib.hid hr
          clear hat hr
          have r3 := R3.out r.k
          rw [HG.out] at r3
          cases hf : (findK a r.k).2
          · have HN := Lib.hid (hasAllOf_no1 (r := b.drop (k + 1)) hf)
            rw [show findK a r.k = ((findK a r.k).1, false) by rw [← hf]] at r3
            have R := Lib.hid r3
            generalize (findK a r.k).1 = z at R
            clear r3 hf
            go_wp2_with fail
            refine (R.out wr hB).mono ?_
            rintro e w3 ⟨rfl, hb3⟩
            have hz3 := hb3.size
            go_wp2_with fail
            go_ret
            rw [HM.out, HF.out, HD.out, HN.out]
            exact ⟨rfl, (by repeat' (first | exact Below.refl _ _ | refine Below.alloc ?_ ?_ _ | refine Below.setCell ?_ ?_ _ | refine Below.drew ?_ | (apply below_step; assumption) | (simp; done) | (simp; omega) | omega))⟩
          · by_cases hv : (findK a r.k).1 = r.v
            · have HN := Lib.hid (hasAllOf_yes (r := b.drop (k + 1)) hf hv)
              rw [show findK a r.k = (r.v, true) by rw [← hf, ← hv]] at r3
              have R := Lib.hid r3
              clear r3 hf hv
              go_wp2_with fail
              refine (R.out wr hB).mono ?_
              rintro e w3 ⟨rfl, hb3⟩
              have hz3 := hb3.size
              have hB3 : Below w.heap.size w w3 := (by repeat' (first | exact Below.refl _ _ | refine Below.alloc ?_ ?_ _ | refine Below.setCell ?_ ?_ _ | refine Below.drew ?_ | (apply below_step; assumption) | (simp; done) | (simp; omega) | omega))
              obtain ⟨p0, p1⟩ := (HAT.out.below hB3 hbw) k r HRR.out
              have hne : (r.v != r.v) = false := by simp
              go_wp2_with fail
              go_roundw
              case rel =>
                refine ⟨k + 1, by omega, by go_num, ?_, hB3⟩
                rw [HF.out, HD.out, HN.out]
              case measure => simp [intOf]; omega
            · have HN := Lib.hid (hasAllOf_no2 (r := b.drop (k + 1)) hv)
              rw [show findK a r.k = ((findK a r.k).1, true) by rw [← hf]] at r3
              have R := Lib.hid r3
              have HV := Lib.hid hv
              generalize (findK a r.k).1 = z at R HV
              clear r3 hf hv
              go_wp2_with fail
              refine (R.out wr hB).mono ?_
              rintro e w3 ⟨rfl, hb3⟩
              have hz3 := hb3.size
              have hB3 : Below w.heap.size w w3 := (by repeat' (first | exact Below.refl _ _ | refine Below.alloc ?_ ?_ _ | refine Below.setCell ?_ ?_ _ | refine Below.drew ?_ | (apply below_step; assumption) | (simp; done) | (simp; omega) | omega))
              obtain ⟨p0, p1⟩ := (HAT.out.below hB3 hbw) k r HRR.out
              have hne : (z != r.v) = true := by simpa using HV.out
              go_wp2_with fail
              go_ret
              rw [HM.out, HF.out, HD.out, HN.out]
              exact ⟨rfl, hB3⟩
        · have hkl : k = b.length := by omega
          have HX : Hid (hasAllOf a b = true) := by
            show _ = _
            rw [HF.out, hkl, List.drop_length]; rfl
          clear hkl
          go_wp2_with fail
          go_ret
          rw [HM.out, HX.out]
          exact ⟨rfl, hB⟩
end Go.Proofs.YtmkpajjnjgnmkaaDoor

namespace Go.Proofs.YtmkpajjnjgnmkaaDoor
open Go.RowKit

theorem sTaintsOk_long (A : Option Addr) (n c : Nat) (w : World) (h : 6 < n) (hm : n ≤ 1048576) :
    Calls Tryd.prog 29 #[.slice A n c] w fun e w' => e = .returned (.bool false) ∧ Below w.heap.size w w' := by
  have h6 : (6 : Int) < (n : Int) := by omega
  go_enter Tryd.func29, Tryd.ntmps29
  go_wp2_with fail
  go_ret
  exact ⟨rfl, (by repeat' (first | exact Below.refl _ _ | refine Below.alloc ?_ ?_ _ | refine Below.setCell ?_ ?_ _ | refine Below.drew ?_ | (apply below_step; assumption) | (simp; done) | (simp; omega) | omega))⟩

def lastT (l : List Int) (k : Nat) : Int := if k = 0 then -1 else l.getD (k - 1) 0
theorem tl_cons (z : Int) (r : List Int) : tl (z :: r) = ⟨z, 0⟩ :: tl r := rfl

set_option maxHeartbeats 3200000 in
theorem sTaintsOk_short (v : Value) (l : List Int) (w : World) (hv : IntSl w v l) (hlen : l.length ≤ 6) :
    Calls Tryd.prog 29 #[v] w fun e w' => e = .returned (.bool (labsOk (tl l))) ∧ Below w.heap.size w w' := by
  obtain ⟨A, c, rfl, hA⟩ := hv.form
  have HA := Lib.hid hA
  have HO := Lib.hid (labsOk_short (l := tl l) (by rw [tl_len]; exact hlen))
  clear hA hv
  have hl6 : (l.length : Int) ≤ 6 := by omega
  go_enter Tryd.func29, Tryd.ntmps29
  go_wp2_with fail
  go_loopw [3] (fun s3 wr => ∃ (k : Nat), k ≤ l.length ∧ s3 = .int .i64 k ∧ labsFrom (-1) (tl l) = labsFrom (lastT l k) (tl (l.drop k)) ∧ Below w.heap.size w wr) (fun s3 _ => (l.length - intOf s3).toNat)
  case atStart => exact ⟨0, by omega, rfl, by rw [List.drop_zero]; rfl, Below.refl _ _⟩
  case round =>
    obtain ⟨k, hk, rfl, hF, hB⟩ := hrel
    have HF := Lib.hid hF
    have hzr := hB.size
    clear hF
    by_cases hlt : k < l.length
    · obtain ⟨b, off, rfl, hbw, hat⟩ := HA.out (by omega)
      obtain ⟨r, hr⟩ : ∃ r, l[k]? = some r := ⟨_, List.getElem?_eq_getElem hlt⟩
      have HD := Lib.hid ((congrArg tl (dropI_at hr)).trans (tl_cons r _))
      have HN : Hid (lastT l (k + 1) = r) := by
        show _ = _
        simp [lastT, List.getD, hr]
      have q0 := (hat.below hB hbw) k r hr
      have hlti : (k : Int) < (l.length : Int) := by omega
      have hbr : b < wr.heap.size := by omega
      rcases (show r < 0 ∨ (0 ≤ r ∧ 9 < r) ∨ (0 ≤ r ∧ r ≤ 9) by omega) with g | g | g
      case inr.inr =>
        obtain ⟨g0, g1⟩ := g
        have HR : Hid (LV.ok ⟨r, 0⟩ = true) := LV.ok_iff.2 ⟨g0, g1, by simp, by simp⟩
        have b0 : decide (r < 0) = false := by simp; omega
        have b1 : decide (9 < r) = false := by simp; omega
        by_cases hk0 : k = 0
        · have HL : Hid (lastT l k < r) := by
            show _ < _
            rw [hk0]; simp [lastT]; omega
          have hkb : decide (0 < k) = false := by simp; omega
          clear hat hr hk0 g0 g1
          go_wp2_with fail
          go_quiet (fail)
          go_wp2_with fail
          go_roundw
          case rel =>
            refine ⟨k + 1, by omega, by go_num, ?_, (by repeat' (first | exact Below.refl _ _ | refine Below.alloc ?_ ?_ _ | refine Below.setCell ?_ ?_ _ | refine Below.drew ?_ | refine below_drewN ?_ _ | (apply below_step; assumption) | (simp; done) | (simp; omega) | omega))⟩
            rw [HF.out, HD.out, HN.out, labsFrom_yes HR.out HL.out]
          case measure => simp [intOf]; omega
        · obtain ⟨q, hq⟩ : ∃ q, l[k - 1]? = some q := ⟨_, List.getElem?_eq_getElem (by omega)⟩
          have p0 := (hat.below hB hbw) (k - 1) q hq
          have HL : Hid (lastT l k = q) := by
            show _ = _
            simp [lastT, List.getD, hq, hk0]
          have hkb : decide (0 < k) = true := by simp; omega
          have n1 : (0 : Int) ≤ (k : Int) - 1 := by omega
          have n2 : (1 : Int) ≤ (k : Int) := by omega
          have n3 : (k : Int) - 1 < (l.length : Int) := by omega
          have n4 : ((k : Int) - 1).toNat = k - 1 := by omega
          have n5 : IntKind.i64.wrap ((k : Int) - 1) = (k : Int) - 1 := IntWalk.i64_in _ (by omega)
          by_cases hle : r ≤ q
          · have HLE := Lib.hid hle
            have b4 : decide (r ≤ q) = true := by simpa using hle
            clear hat hr hk0 g0 g1 hq hle
            go_wp2_with fail
            go_quiet (fail)
            go_wp2_with fail
            have HX : Hid (labsOk (tl l) = false) := by
              show _ = _
              rw [HO.out, HF.out, HD.out, labsFrom_low (by rw [HL.out]; exact HLE.out)]
            go_ret
            rw [HX.out]
            exact ⟨rfl, (by repeat' (first | exact Below.refl _ _ | refine Below.alloc ?_ ?_ _ | refine Below.setCell ?_ ?_ _ | refine Below.drew ?_ | refine below_drewN ?_ _ | (apply below_step; assumption) | (simp; done) | (simp; omega) | omega))⟩
          · have HLE := Lib.hid (show q < r by omega)
            have b4 : decide (r ≤ q) = false := by simp; omega
            clear hat hr hk0 g0 g1 hq hle
            go_wp2_with fail
            go_quiet (fail)
            go_wp2_with fail
            clear n4 n5
            go_roundw
            case rel =>
              refine ⟨k + 1, by omega, by go_num, ?_, (by repeat' (first | exact Below.refl _ _ | refine Below.alloc ?_ ?_ _ | refine Below.setCell ?_ ?_ _ | refine Below.drew ?_ | refine below_drewN ?_ _ | (apply below_step; assumption) | (simp; done) | (simp; omega) | omega))⟩
              rw [HF.out, HD.out, HN.out, labsFrom_yes HR.out (by rw [HL.out]; exact HLE.out)]
            case measure => simp [intOf]; omega
      · have HR : Hid (LV.ok ⟨r, 0⟩ = false) := LV.bad_iff.2 (fun h => by have := h.1; simp at this; omega)
        have b0 : decide (r < 0) = true := by simp; omega
        clear hat hr g
        go_wp2_with fail
        go_quiet (fail)
        go_wp2_with fail
        have HX : Hid (labsOk (tl l) = false) := by
          show _ = _
          rw [HO.out, HF.out, HD.out, labsFrom_bad HR.out]
        go_ret
        rw [HX.out]
        exact ⟨rfl, (by repeat' (first | exact Below.refl _ _ | refine Below.alloc ?_ ?_ _ | refine Below.setCell ?_ ?_ _ | refine Below.drew ?_ | refine below_drewN ?_ _ | (apply below_step; assumption) | (simp; done) | (simp; omega) | omega))⟩
      · have HR : Hid (LV.ok ⟨r, 0⟩ = false) := LV.bad_iff.2 (fun h => by have := h.2.1; simp at this; omega)
        have b0 : decide (r < 0) = false := by simp; omega
        have b1 : decide (9 < r) = true := by simp; omega
        clear hat hr g
        go_wp2_with fail
        go_quiet (fail)
        go_wp2_with fail
        have HX : Hid (labsOk (tl l) = false) := by
          show _ = _
          rw [HO.out, HF.out, HD.out, labsFrom_bad HR.out]
        go_ret
        rw [HX.out]
        exact ⟨rfl, (by repeat' (first | exact Below.refl _ _ | refine Below.alloc ?_ ?_ _ | refine Below.setCell ?_ ?_ _ | refine Below.drew ?_ | refine below_drewN ?_ _ | (apply below_step; assumption) | (simp; done) | (simp; omega) | omega))⟩
    · have hkl : k = l.length := by omega
      have HX : Hid (labsOk (tl l) = true) := by
        show _ = _
        rw [HO.out, HF.out, hkl, List.drop_length]; rfl
      clear hkl
      go_wp2_with fail
      go_ret
      rw [HX.out]
      exact ⟨rfl, hB⟩
theorem sTaintsOk_any (v : Value) (l : List Int) (w : World) (hv : IntSl w v l) (hlen : l.length ≤ 1048576) :
    Calls Tryd.prog 29 #[v] w fun e w' => e = .returned (.bool (labsOk (tl l))) ∧ Below w.heap.size w w' := by
  by_cases h : l.length ≤ 6
  · exact sTaintsOk_short v l w hv h
  · obtain ⟨A, c, rfl, _⟩ := hv.form
    rw [labsOk_long (by rw [tl_len]; omega)]
    exact sTaintsOk_long A l.length c w (by omega) hlen

def inIntsL : List Int → Int → Bool
  | [], _ => false
  | y :: r, z => if y = z then true else inIntsL r z
theorem inIntsL_hit {y z : Int} {r : List Int} (h : y = z) : inIntsL (y :: r) z = true := by simp [inIntsL, h]
theorem inIntsL_miss {y z : Int} {r : List Int} (h : y ≠ z) : inIntsL (y :: r) z = inIntsL r z := by simp [inIntsL, h]
theorem find_tl (b : List Int) (z : Int) : findK (tl b) z = (0, inIntsL b z) := by
  induction b with
  | nil => rfl
  | cons y r ih =>
    rw [tl_cons]
    by_cases h : y = z
    · rw [findK_hit h, inIntsL_hit h]
    · rw [findK_miss h, inIntsL_miss h, ih]

set_option maxHeartbeats 1600000 in
theorem l02In_any (v : Value) (l : List Int) (z : Int) (w : World) (hv : IntSl w v l) (hlen : l.length ≤ 1048576) :
    Calls Tryd.prog 42 #[v, .int .i64 z] w fun e w' => e = .returned (.bool (inIntsL l z)) ∧ Below w.heap.size w w' := by
  obtain ⟨A, c, rfl, hA⟩ := hv.form
  have HA := Lib.hid hA
  clear hA hv
  go_enter Tryd.func42, Tryd.ntmps42
  go_wp2_with fail
  go_loopw [5] (fun s5 wr => ∃ (k : Nat), k ≤ l.length ∧ s5 = .int .i64 k ∧ inIntsL l z = inIntsL (l.drop k) z ∧ Below w.heap.size w wr) (fun s5 _ => (l.length - intOf s5).toNat)
  case atStart => exact ⟨0, by omega, rfl, by rw [List.drop_zero], Below.refl _ _⟩
  case round =>
    obtain ⟨k, hk, rfl, hF, hB⟩ := hrel
    have HF := Lib.hid hF
    have hzr := hB.size
    clear hF
    by_cases hlt : k < l.length
    · obtain ⟨b, off, rfl, hbw, hat⟩ := HA.out (by omega)
      obtain ⟨r, hr⟩ : ∃ r, l[k]? = some r := ⟨_, List.getElem?_eq_getElem hlt⟩
      have HD := Lib.hid (dropI_at hr)
      have hlti : (k : Int) < (l.length : Int) := by omega
      have q0 := (hat.below hB hbw) k r hr
      clear hat hr
      by_cases hkk : r = z
      · have HK := Lib.hid hkk
        have hkb : (r == z) = true := by simpa using hkk
        clear hkk
        go_wp2_with fail
        go_ret
        rw [HF.out, HD.out, inIntsL_hit HK.out]
        exact ⟨rfl, hB⟩
      · have HK := Lib.hid hkk
        have hkb : (r == z) = false := by simpa using hkk
        clear hkk
        go_wp2_with fail
        go_roundw
        case rel =>
          refine ⟨k + 1, by omega, by go_num, ?_, hB⟩
          rw [HF.out, HD.out, inIntsL_miss HK.out]
        case measure => simp [intOf]; omega
    · have hkl : k = l.length := by omega
      have HX : Hid (inIntsL l z = false) := by
        show _ = _
        rw [HF.out, hkl, List.drop_length]; rfl
      clear hkl
      go_wp2_with fail
      go_ret
      rw [HX.out]
      exact ⟨rfl, hB⟩

theorem tolHas_yes {b r : List Int} {z : Int} (h : inIntsL b z = true) : hasAllOf (tl b) (tl (z :: r)) = hasAllOf (tl b) (tl r) := by
  rw [tl_cons, hasAllOf_yes (by rw [find_tl]; exact h) (by rw [find_tl])]
theorem tolHas_no {b r : List Int} {z : Int} (h : inIntsL b z = false) : hasAllOf (tl b) (tl (z :: r)) = false := by
  rw [tl_cons, hasAllOf_no1 (by rw [find_tl]; exact h)]

set_option maxHeartbeats 1600000 in
theorem sTolerates_any (v1 v2 : Value) (a b : List Int) (w : World) (h1 : IntSl w v1 a) (h2 : IntSl w v2 b) (hl1 : a.length ≤ 1048576) (hl2 : b.length ≤ 1048576) :
    Calls Tryd.prog 31 #[v1, v2] w fun e w' => e = .returned (.bool (tolOf a b)) ∧ Below w.heap.size w w' := by
  have r1 := sTaintsOk_any v1 a w h1 hl1
  have r2 := fun w1 (hb : Below w.heap.size w w1) => sTaintsOk_any v2 b w1 (h2.below hb) hl2
  have r3 := fun z w1 (hb : Below w.heap.size w w1) => l02In_any v2 b z w1 (h2.below hb) hl2
  unfold tolOf
  cases ha : labsOk (tl a)
  · rw [ha] at r1
    have R1 := Lib.hid r1
    have HM := Lib.hid (matchOf_no2 (a := tl b) ha)
    clear r1 r2 r3 ha h1 h2
    go_enter Tryd.func31, Tryd.ntmps31
    go_wp2_with fail
    refine R1.out.mono ?_
    rintro e w1 ⟨rfl, hb1⟩
    have hz1 := hb1.size
    go_wp2_with fail
    go_ret
    rw [HM.out]
    exact ⟨rfl, hb1⟩
  · rw [ha] at r1
    cases hb : labsOk (tl b)
    · rw [hb] at r2
      have R1 := Lib.hid r1
      have R2 := Lib.hid r2
      have HM := Lib.hid (matchOf_no1 (b := tl a) hb)
      clear r1 r2 r3 ha hb h1 h2
      go_enter Tryd.func31, Tryd.ntmps31
      go_wp2_with fail
      refine R1.out.mono ?_
      rintro e w1 ⟨rfl, hb1⟩
      have hz1 := hb1.size
      go_wp2_with fail
      refine (R2.out w1 hb1).mono ?_
      rintro e w2 ⟨rfl, hb2⟩
      have hz2 := hb2.size
      go_wp2_with fail
      go_ret
      rw [HM.out]
      exact ⟨rfl, (by repeat' (first | exact Below.refl _ _ | refine Below.alloc ?_ ?_ _ | refine Below.setCell ?_ ?_ _ | refine Below.drew ?_ | (apply below_step; assumption) | (simp; done) | (simp; omega) | omega))⟩
    · rw [hb] at r2
      have R1 := Lib.hid r1
      have R2 := Lib.hid r2
      have R3 := Lib.hid r3
      have HM := Lib.hid (matchOf_both hb ha)
      obtain ⟨A, c, rfl, hA⟩ := h1.form
      have HA := Lib.hid hA
      clear r1 r2 r3 ha hb hA h1 h2
      go_enter Tryd.func31, Tryd.ntmps31
      go_wp2_with fail
      refine R1.out.mono ?_
      rintro e w1 ⟨rfl, hb1⟩
      have hz1 := hb1.size
      go_wp2_with fail
      refine (R2.out w1 hb1).mono ?_
      rintro e w2 ⟨rfl, hb2⟩
      have hz2 := hb2.size
      have hB2 : Below w.heap.size w w2 := (by repeat' (first | exact Below.refl _ _ | refine Below.alloc ?_ ?_ _ | refine Below.setCell ?_ ?_ _ | refine Below.drew ?_ | (apply below_step; assumption) | (simp; done) | (simp; omega) | omega))
      go_wp2_with fail
      go_loopw [5] (fun s5 wr => ∃ (k : Nat), k ≤ a.length ∧ s5 = .int .i64 k ∧ hasAllOf (tl b) (tl a) = hasAllOf (tl b) (tl (a.drop k)) ∧ Below w.heap.size w wr) (fun s5 _ => (a.length - intOf s5).toNat)
      case atStart => exact ⟨0, by omega, rfl, by rw [List.drop_zero], hB2⟩
      case round =>
        obtain ⟨k, hk, rfl, hF, hB⟩ := hrel
        have HF := Lib.hid hF
        have hzr := hB.size
        clear hF
        by_cases hlt : k < a.length
        · obtain ⟨g, off, rfl, hbw, hat⟩ := HA.out (by omega)
          obtain ⟨r, hr⟩ : ∃ r, a[k]? = some r := ⟨_, List.getElem?_eq_getElem hlt⟩
          have HD := Lib.hid (dropI_at hr)
          have hlti : (k : Int) < (a.length : Int) := by omega
          have q0 := (hat.below hB hbw) k r hr
          clear hat hr
          have r3 := R3.out r
          cases hf : inIntsL b r
          · rw [hf] at r3
            have HN := Lib.hid (tolHas_no (r := a.drop (k + 1)) hf)
            have R := Lib.hid r3
            clear r3 hf
            go_wp2_with fail
            refine (R.out wr hB).mono ?_
            rintro e w3 ⟨rfl, hb3⟩
            have hz3 := hb3.size
            go_wp2_with fail
            go_ret
            rw [HM.out, HF.out, HD.out, HN.out]
            exact ⟨rfl, (by repeat' (first | exact Below.refl _ _ | refine Below.alloc ?_ ?_ _ | refine Below.setCell ?_ ?_ _ | refine Below.drew ?_ | (apply below_step; assumption) | (simp; done) | (simp; omega) | omega))⟩
          · rw [hf] at r3
            have HN := Lib.hid (tolHas_yes (r := a.drop (k + 1)) hf)
            have R := Lib.hid r3
            clear r3 hf
            go_wp2_with fail
            refine (R.out wr hB).mono ?_
            rintro e w3 ⟨rfl, hb3⟩
            have hz3 := hb3.size
            have hB3 : Below w.heap.size w w3 := (by repeat' (first | exact Below.refl _ _ | refine Below.alloc ?_ ?_ _ | refine Below.setCell ?_ ?_ _ | refine Below.drew ?_ | (apply below_step; assumption) | (simp; done) | (simp; omega) | omega))
            go_wp2_with fail
            go_roundw
            case rel =>
              refine ⟨k + 1, by omega, by go_num, ?_, hB3⟩
              rw [HF.out, HD.out, HN.out]
            case measure => simp [intOf]; omega
        · have hkl : k = a.length := by omega
          have HX : Hid (hasAllOf (tl b) (tl a) = true) := by
            show _ = _
            rw [HF.out, hkl, List.drop_length]; rfl
          clear hkl
          go_wp2_with fail
          go_ret
          rw [HM.out, HX.out]
          exact ⟨rfl, hB⟩
end Go.Proofs.YtmkpajjnjgnmkaaDoor

namespace Go.Proofs.YtmkpajjnjgnmkaaDoor
open Go.RowKit

theorem sId_any (n : Int) (w : World) : Calls Tryd.prog 26 #[.int .i64 n] w fun e w' => e = .returned (.bool (idOk n)) ∧ w = w' := by
  by_cases h1 : 1 ≤ n
  · by_cases h2 : n ≤ 99
    · have H := Lib.hid (idOk_iff.2 ⟨h1, h2⟩)
      go_enter Tryd.func26, Tryd.ntmps26
      go_wp2
      go_ret
      exact ⟨by rw [H.out]; simp, rfl⟩
    · have H := Lib.hid (idBad_iff.2 (fun h => h2 h.2))
      have h3 : 99 < n := by omega
      clear h2
      go_enter Tryd.func26, Tryd.ntmps26
      go_wp2
      go_ret
      exact ⟨by rw [H.out]; simp; omega, rfl⟩
  · have H := Lib.hid (idBad_iff.2 (fun h => h1 h.1))
    have h2 : n < 1 := by omega
    clear h1
    go_enter Tryd.func26, Tryd.ntmps26
    go_wp2
    go_ret
    exact ⟨by rw [H.out]; rfl, rfl⟩

set_option maxHeartbeats 1600000 in
theorem sTaskOk_any (t : TV) (v1 v2 : Value) (w : World) (h1 : LabSl w v1 t.want) (h2 : IntSl w v2 t.tols) (l1 : t.want.length ≤ 1048576) (l2 : t.tols.length ≤ 1048576) :
    Calls Tryd.prog 14 #[.agg #[.int .i64 t.id, .int .i64 t.prio, .int .i64 t.need.c, .int .i64 t.need.m, .int .i64 t.need.p, v1, v2]] w fun e w' => e = .returned (.bool t.ok) ∧ Below w.heap.size w w' := by
  have HL := Lib.hid h1
  have HI := Lib.hid h2
  have HE := Lib.hid (tv_ok_eq t)
  have hid := sId_any t.id
  have hne : ∀ w, Calls Tryd.prog 27 #[.agg #[.int .i64 t.need.c, .int .i64 t.need.m, .int .i64 t.need.p]] w fun e w' => e = .returned (.bool t.need.ok) ∧ Below w.heap.size w w' := fun w => sResOk_any t.need w
  have hla : ∀ w (h : LabSl w v1 t.want), Calls Tryd.prog 28 #[v1] w fun e w' => e = .returned (.bool (labsOk t.want)) ∧ Below w.heap.size w w' := fun w h => sLabsOk_any v1 t.want w h l1
  have hta : ∀ w (h : IntSl w v2 t.tols), Calls Tryd.prog 29 #[v2] w fun e w' => e = .returned (.bool (labsOk (tl t.tols))) ∧ Below w.heap.size w w' := fun w h => sTaintsOk_any v2 t.tols w h l2
  generalize t.ok = ok at *
  generalize e1 : idOk t.id = b1 at hid
  generalize e2 : decide (0 ≤ t.prio) = b2
  generalize e3 : decide (t.prio ≤ 9) = b3
  generalize e4 : t.need.ok = b4 at hne
  generalize e5 : labsOk t.want = b5 at hla
  generalize e6 : labsOk (tl t.tols) = b6 at hta
  have HE' := Lib.hid (HE.out _ _ _ _ _ _ e1 e2 e3 e4 e5 e6)
  have HID := Lib.hid hid
  have HNE := Lib.hid hne
  have HLA := Lib.hid hla
  have HTA := Lib.hid hta
  clear h1 h2 hid hne hla hta e1 e4 e5 e6 HE l1 l2
  go_enter Tryd.func14, Tryd.ntmps14
  go_wp2_with fail
  refine (HID.out _).mono ?_
  rintro e w1 ⟨rfl, rfl⟩
  cases b1
  · go_wp2_with fail
    go_ret
    exact ⟨by rw [HE'.out]; simp, (by repeat' (first | exact Below.refl _ _ | refine Below.alloc ?_ ?_ _ | refine Below.setCell ?_ ?_ _ | refine Below.drew ?_ | (apply below_step; assumption) | (simp; done) | (simp; omega) | omega))⟩
  cases b2
  · go_wp2_with fail
    go_ret
    exact ⟨by rw [HE'.out]; simp, (by repeat' (first | exact Below.refl _ _ | refine Below.alloc ?_ ?_ _ | refine Below.setCell ?_ ?_ _ | refine Below.drew ?_ | (apply below_step; assumption) | (simp; done) | (simp; omega) | omega))⟩
  cases b3
  · go_wp2_with fail
    go_ret
    exact ⟨by rw [HE'.out]; simp, (by repeat' (first | exact Below.refl _ _ | refine Below.alloc ?_ ?_ _ | refine Below.setCell ?_ ?_ _ | refine Below.drew ?_ | (apply below_step; assumption) | (simp; done) | (simp; omega) | omega))⟩
  go_wp2_with fail
  refine (HNE.out _).mono ?_
  rintro e w2 ⟨rfl, hb2⟩
  have hz2 := hb2.size
  simp at hz2
  obtain ⟨hc2, hf2⟩ := bcell hb2
  have hC2 : Below w.heap.size w w2 := ((Below.refl _ _).alloc (Nat.le_refl _) _).trans (hb2.mono (by simp))
  cases b4
  · go_wp2_with fail
    go_ret
    exact ⟨by rw [HE'.out]; simp, hC2⟩
  go_wp2_with fail
  refine (HLA.out _ (HL.out.below hC2)).mono ?_
  rintro e w3 ⟨rfl, hb3⟩
  have hz3 := hb3.size
  obtain ⟨hc3, hf3⟩ := bcell hb3
  have hs2 : w.heap.size < w2.heap.size := by omega
  have hC3 : Below w.heap.size w w3 := hC2.trans (hb3.mono hC2.size)
  cases b5
  · go_wp2_with fail
    go_ret
    exact ⟨by rw [HE'.out]; simp, hC3⟩
  go_wp2_with fail
  refine (HTA.out _ (HI.out.below hC3)).mono ?_
  rintro e w4 ⟨rfl, hb4⟩
  have hC4 : Below w.heap.size w w4 := hC3.trans (hb4.mono hC3.size)
  go_wp2_with fail
  go_ret
  exact ⟨by rw [HE'.out]; simp, hC4⟩
set_option maxHeartbeats 1600000 in
theorem sNodeOk_any (t : NV) (v1 v2 : Value) (w : World) (h1 : LabSl w v1 t.labs) (h2 : IntSl w v2 t.taints) (l1 : t.labs.length ≤ 1048576) (l2 : t.taints.length ≤ 1048576) :
    Calls Tryd.prog 15 #[.agg #[.int .i64 t.id, .int .i64 t.pool, .int .i64 t.cap.c, .int .i64 t.cap.m, .int .i64 t.cap.p, v1, v2, .bool t.cordon]] w fun e w' => e = .returned (.bool t.ok) ∧ Below w.heap.size w w' := by
  have HL := Lib.hid h1
  have HI := Lib.hid h2
  have HE := Lib.hid (nv_ok_eq t)
  have hid := sId_any t.id
  have hne : ∀ w, Calls Tryd.prog 27 #[.agg #[.int .i64 t.cap.c, .int .i64 t.cap.m, .int .i64 t.cap.p]] w fun e w' => e = .returned (.bool t.cap.ok) ∧ Below w.heap.size w w' := fun w => sResOk_any t.cap w
  have hla : ∀ w (h : LabSl w v1 t.labs), Calls Tryd.prog 28 #[v1] w fun e w' => e = .returned (.bool (labsOk t.labs)) ∧ Below w.heap.size w w' := fun w h => sLabsOk_any v1 t.labs w h l1
  have hta : ∀ w (h : IntSl w v2 t.taints), Calls Tryd.prog 29 #[v2] w fun e w' => e = .returned (.bool (labsOk (tl t.taints))) ∧ Below w.heap.size w w' := fun w h => sTaintsOk_any v2 t.taints w h l2
  generalize t.ok = ok at *
  generalize e1 : idOk t.id = b1 at hid
  generalize e2 : decide (0 ≤ t.pool) = b2
  generalize e3 : decide (t.pool < 5) = b3
  generalize e4 : t.cap.ok = b4 at hne
  generalize e5 : labsOk t.labs = b5 at hla
  generalize e6 : labsOk (tl t.taints) = b6 at hta
  have HE' := Lib.hid (HE.out _ _ _ _ _ _ e1 e2 e3 e4 e5 e6)
  have HID := Lib.hid hid
  have HNE := Lib.hid hne
  have HLA := Lib.hid hla
  have HTA := Lib.hid hta
  clear h1 h2 hid hne hla hta e1 e4 e5 e6 HE l1 l2
  go_enter Tryd.func15, Tryd.ntmps15
  go_wp2_with fail
  refine (HID.out _).mono ?_
  rintro e w1 ⟨rfl, rfl⟩
  cases b1
  · go_wp2_with fail
    go_ret
    exact ⟨by rw [HE'.out]; simp, (by repeat' (first | exact Below.refl _ _ | refine Below.alloc ?_ ?_ _ | refine Below.setCell ?_ ?_ _ | refine Below.drew ?_ | (apply below_step; assumption) | (simp; done) | (simp; omega) | omega))⟩
  cases b2
  · go_wp2_with fail
    go_ret
    exact ⟨by rw [HE'.out]; simp, (by repeat' (first | exact Below.refl _ _ | refine Below.alloc ?_ ?_ _ | refine Below.setCell ?_ ?_ _ | refine Below.drew ?_ | (apply below_step; assumption) | (simp; done) | (simp; omega) | omega))⟩
  cases b3
  · go_wp2_with fail
    go_ret
    exact ⟨by rw [HE'.out]; simp, (by repeat' (first | exact Below.refl _ _ | refine Below.alloc ?_ ?_ _ | refine Below.setCell ?_ ?_ _ | refine Below.drew ?_ | (apply below_step; assumption) | (simp; done) | (simp; omega) | omega))⟩
  go_wp2_with fail
  refine (HNE.out _).mono ?_
  rintro e w2 ⟨rfl, hb2⟩
  have hz2 := hb2.size
  simp at hz2
  obtain ⟨hc2, hf2⟩ := bcell hb2
  have hC2 : Below w.heap.size w w2 := ((Below.refl _ _).alloc (Nat.le_refl _) _).trans (hb2.mono (by simp))
  cases b4
  · go_wp2_with fail
    go_ret
    exact ⟨by rw [HE'.out]; simp, hC2⟩
  go_wp2_with fail
  refine (HLA.out _ (HL.out.below hC2)).mono ?_
  rintro e w3 ⟨rfl, hb3⟩
  have hz3 := hb3.size
  obtain ⟨hc3, hf3⟩ := bcell hb3
  have hs2 : w.heap.size < w2.heap.size := by omega
  have hC3 : Below w.heap.size w w3 := hC2.trans (hb3.mono hC2.size)
  cases b5
  · go_wp2_with fail
    go_ret
    exact ⟨by rw [HE'.out]; simp, hC3⟩
  go_wp2_with fail
  refine (HTA.out _ (HI.out.below hC3)).mono ?_
  rintro e w4 ⟨rfl, hb4⟩
  have hC4 : Below w.heap.size w w4 := hC3.trans (hb4.mono hC3.size)
  go_wp2_with fail
  go_ret
  exact ⟨by rw [HE'.out]; simp, hC4⟩


theorem hosts_eq (n : NV) (t : TV) (b3 b4 : Bool) (h3 : matchOf n.labs t.want = b3) (h4 : tolOf n.taints t.tols = b4) : hosts n t = (b3 && b4) := by
  subst h3 h4; rfl
set_option maxHeartbeats 1600000 in
theorem sHosts_any (n : NV) (t : TV) (u1 u2 v1 v2 : Value) (w : World) (k1 : LabSl w u1 n.labs) (k2 : IntSl w u2 n.taints) (h1 : LabSl w v1 t.want) (h2 : IntSl w v2 t.tols)
    (m1 : n.labs.length ≤ 1048576) (m2 : n.taints.length ≤ 1048576) (l1 : t.want.length ≤ 1048576) (l2 : t.tols.length ≤ 1048576) :
    Calls Tryd.prog 16 #[.agg #[.int .i64 n.id, .int .i64 n.pool, .int .i64 n.cap.c, .int .i64 n.cap.m, .int .i64 n.cap.p, u1, u2, .bool n.cordon], .agg #[.int .i64 t.id, .int .i64 t.prio, .int .i64 t.need.c, .int .i64 t.need.m, .int .i64 t.need.p, v1, v2]] w fun e w' => e = .returned (.bool (hosts n t)) ∧ Below w.heap.size w w' := by
  have K1 := Lib.hid k1
  have K2 := Lib.hid k2
  have H1 := Lib.hid h1
  have H2 := Lib.hid h2
  have hla : ∀ w (k : LabSl w u1 n.labs) (h : LabSl w v1 t.want), Calls Tryd.prog 30 #[u1, v1] w fun e w' => e = .returned (.bool (matchOf n.labs t.want)) ∧ Below w.heap.size w w' := fun w k h => sLabsMatch_any u1 v1 n.labs t.want w k h m1 l1
  have hta : ∀ w (k : IntSl w u2 n.taints) (h : IntSl w v2 t.tols), Calls Tryd.prog 31 #[u2, v2] w fun e w' => e = .returned (.bool (tolOf n.taints t.tols)) ∧ Below w.heap.size w w' := fun w k h => sTolerates_any u2 v2 n.taints t.tols w k h m2 l2
  have HE := Lib.hid (hosts_eq n t)
  generalize hosts n t = ok at *
  generalize e3 : matchOf n.labs t.want = b3 at hla
  generalize e4 : tolOf n.taints t.tols = b4 at hta
  have HE' := Lib.hid (HE.out _ _ e3 e4)
  have HLA := Lib.hid hla
  have HTA := Lib.hid hta
  clear k1 k2 h1 h2 hla hta e3 e4 HE m1 m2 l1 l2
  go_enter Tryd.func16, Tryd.ntmps16
  go_wp2_with fail
  have hC0 : Below w.heap.size w ((w.alloc (.cells #[.int .i64 n.id, .int .i64 n.pool, .int .i64 n.cap.c, .int .i64 n.cap.m, .int .i64 n.cap.p, u1, u2, .bool n.cordon] 36)).alloc (.cells #[.int .i64 t.id, .int .i64 t.prio, .int .i64 t.need.c, .int .i64 t.need.m, .int .i64 t.need.p, v1, v2] 39)) := (by repeat' (first | exact Below.refl _ _ | refine Below.alloc ?_ ?_ _ | refine Below.setCell ?_ ?_ _ | refine Below.drew ?_ | (apply below_step; assumption) | (simp; done) | (simp; omega) | omega))
  refine (HLA.out _ (K1.out.below hC0) (H1.out.below hC0)).mono ?_
  rintro e w1 ⟨rfl, hb1⟩
  have hz1 := hb1.size
  simp at hz1
  obtain ⟨hc1, hf1⟩ := bcell hb1
  have hC1 : Below w.heap.size w w1 := hC0.trans (hb1.mono hC0.size)
  cases b3
  · go_wp2_with fail
    go_ret
    exact ⟨by rw [HE'.out]; simp, hC1⟩
  go_wp2_with fail
  refine (HTA.out _ (K2.out.below hC1) (H2.out.below hC1)).mono ?_
  rintro e w2 ⟨rfl, hb2⟩
  have hC2 : Below w.heap.size w w2 := hC1.trans (hb2.mono hC1.size)
  go_wp2_with fail
  go_ret
  exact ⟨by rw [HE'.out]; simp, hC2⟩

theorem sch_eq (n : NV) (t : TV) (b1 b2 b3 : Bool) (h1 : n.ok = b1) (h2 : t.ok = b2) (h3 : hosts n t = b3) : canHost n t = (b1 && b2 && b3) := by
  subst h1 h2 h3; rfl
set_option maxHeartbeats 1600000 in
theorem sCanHost_any (n : NV) (t : TV) (u1 u2 v1 v2 : Value) (w : World) (k1 : LabSl w u1 n.labs) (k2 : IntSl w u2 n.taints) (h1 : LabSl w v1 t.want) (h2 : IntSl w v2 t.tols)
    (m1 : n.labs.length ≤ 1048576) (m2 : n.taints.length ≤ 1048576) (l1 : t.want.length ≤ 1048576) (l2 : t.tols.length ≤ 1048576) :
    Calls Tryd.prog 6 #[.agg #[.int .i64 n.id, .int .i64 n.pool, .int .i64 n.cap.c, .int .i64 n.cap.m, .int .i64 n.cap.p, u1, u2, .bool n.cordon], .agg #[.int .i64 t.id, .int .i64 t.prio, .int .i64 t.need.c, .int .i64 t.need.m, .int .i64 t.need.p, v1, v2]] w fun e w' => e = .returned (.bool (canHost n t)) ∧ Below w.heap.size w w' := by
  have K1 := Lib.hid k1
  have K2 := Lib.hid k2
  have H1 := Lib.hid h1
  have H2 := Lib.hid h2
  have hn : ∀ w (h1 : LabSl w u1 n.labs) (h2 : IntSl w u2 n.taints), Calls Tryd.prog 15 #[.agg #[.int .i64 n.id, .int .i64 n.pool, .int .i64 n.cap.c, .int .i64 n.cap.m, .int .i64 n.cap.p, u1, u2, .bool n.cordon]] w fun e w' => e = .returned (.bool n.ok) ∧ Below w.heap.size w w' := fun w h1 h2 => sNodeOk_any n u1 u2 w h1 h2 m1 m2
  have ht : ∀ w (h1 : LabSl w v1 t.want) (h2 : IntSl w v2 t.tols), Calls Tryd.prog 14 #[.agg #[.int .i64 t.id, .int .i64 t.prio, .int .i64 t.need.c, .int .i64 t.need.m, .int .i64 t.need.p, v1, v2]] w fun e w' => e = .returned (.bool t.ok) ∧ Below w.heap.size w w' := fun w h1 h2 => sTaskOk_any t v1 v2 w h1 h2 l1 l2
  have hh : ∀ w (k1 : LabSl w u1 n.labs) (k2 : IntSl w u2 n.taints) (h1 : LabSl w v1 t.want) (h2 : IntSl w v2 t.tols), Calls Tryd.prog 16 #[.agg #[.int .i64 n.id, .int .i64 n.pool, .int .i64 n.cap.c, .int .i64 n.cap.m, .int .i64 n.cap.p, u1, u2, .bool n.cordon], .agg #[.int .i64 t.id, .int .i64 t.prio, .int .i64 t.need.c, .int .i64 t.need.m, .int .i64 t.need.p, v1, v2]] w fun e w' => e = .returned (.bool (hosts n t)) ∧ Below w.heap.size w w' := fun w k1 k2 h1 h2 => sHosts_any n t u1 u2 v1 v2 w k1 k2 h1 h2 m1 m2 l1 l2
  have HE := Lib.hid (sch_eq n t)
  generalize canHost n t = ok at *
  generalize e1 : n.ok = b1 at hn
  generalize e2 : t.ok = b2 at ht
  generalize e3 : hosts n t = b3 at hh
  have HE' := Lib.hid (HE.out _ _ _ e1 e2 e3)
  have HN := Lib.hid hn
  have HT := Lib.hid ht
  have HH := Lib.hid hh
  clear k1 k2 h1 h2 hn ht hh e1 e2 e3 HE m1 m2 l1 l2
  go_enter Tryd.func6, Tryd.ntmps6
  go_wp2_with fail
  have hC0 : Below w.heap.size w ((w.alloc (.cells #[.int .i64 n.id, .int .i64 n.pool, .int .i64 n.cap.c, .int .i64 n.cap.m, .int .i64 n.cap.p, u1, u2, .bool n.cordon] 36)).alloc (.cells #[.int .i64 t.id, .int .i64 t.prio, .int .i64 t.need.c, .int .i64 t.need.m, .int .i64 t.need.p, v1, v2] 39)) := (by repeat' (first | exact Below.refl _ _ | refine Below.alloc ?_ ?_ _ | refine Below.setCell ?_ ?_ _ | refine Below.drew ?_ | (apply below_step; assumption) | (simp; done) | (simp; omega) | omega))
  refine (HT.out _ (H1.out.below hC0) (H2.out.below hC0)).mono ?_
  rintro e w1 ⟨rfl, hb1⟩
  have hz1 := hb1.size
  simp at hz1
  obtain ⟨hc1, hf1⟩ := bcell hb1
  have hC1 : Below w.heap.size w w1 := hC0.trans (hb1.mono hC0.size)
  cases b2
  · go_wp2_with fail
    go_ret
    exact ⟨by rw [HE'.out]; simp, hC1⟩
  go_wp2_with fail
  refine (HN.out _ (K1.out.below hC1) (K2.out.below hC1)).mono ?_
  rintro e w2 ⟨rfl, hb2⟩
  have hz2 := hb2.size
  obtain ⟨hc2, hf2⟩ := bcell hb2
  have hs1 : w.heap.size < w1.heap.size := by omega
  have hs1' : w.heap.size + 1 < w1.heap.size := by omega
  have hC2 : Below w.heap.size w w2 := hC1.trans (hb2.mono hC1.size)
  cases b1
  · go_wp2_with fail
    go_ret
    exact ⟨by rw [HE'.out]; simp, hC2⟩
  go_wp2_with fail
  refine (HH.out _ (K1.out.below hC2) (K2.out.below hC2) (H1.out.below hC2) (H2.out.below hC2)).mono ?_
  rintro e w3 ⟨rfl, hb3⟩
  have hC3 : Below w.heap.size w w3 := hC2.trans (hb3.mono hC2.size)
  go_wp2_with fail
  go_ret
  exact ⟨by rw [HE'.out]; simp, hC3⟩
end Go.Proofs.YtmkpajjnjgnmkaaDoor
