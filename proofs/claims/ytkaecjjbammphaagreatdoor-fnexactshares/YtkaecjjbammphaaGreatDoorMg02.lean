/- Words for memory that every seat shares: what a call that makes memory leaves; a block that is known whole. Words for lists. Labels in plain Lean: what chapter 2's functions compute. The contracts of chapter 2's helpers: markInRange, labInRange, with. The contracts of marks.with and marks.hasAll. The contract of marks.hasAll. Slices of labels; the contract of readLabs. What this seat's rows share: the closed facts; a slice of labels, a slice of integers, a label, opened. The laws' helpers over slices of labels: toLab, toLabS, eqLab, eqLabS, szLabS. Slices of integers: toIntS, eqIntS; taints as labels with the Val 0. A slice of integers, opened. Amounts in plain Lean: what chapter 1's functions compute. Amounts in plain Lean: sums of lists. Tasks, nodes, bindings and clusters in plain Lean: what chapter 3's functions compute. Tasks and nodes as arguments, opened. Slices of tasks, nodes and bindings, and what they read as. errors.Is at what this program hands it: nil, and a fieldError that wraps the sentinel itself. The contracts of chapter 1's functions: checkRes, checkBoth, outOfRange, keepValid. -/
import Derived.WalkKit
import Derived.Deep.DeepCutAuto
import Derived.Lib.Hide
import Derived.Laws.MakeOwn
import Derived.Deep.QuietTactic
import Derived.BigQuiet
import Derived.WalkSmall
import Derived.Test.YtkaecjjbammphaaGreatDoorChecked
import Derived.DeepKeys
import Derived.Laws.StructEq
import Derived.Test.YtkaecjjbammphaaGreatDoorRowBase
import Derived.Deep.Slices
import Derived.Deep.Fields
import Derived.ChangeSame
import Derived.Deep.RegionHeld3
import Derived.Deep.Strs
import Derived.LaidEql
import Derived.Stop.Asserts
import Derived.RowKitTokens
import Derived.Outline
namespace Go.Proofs.YtkaecjjbammphaaGreatDoor
open Go.RowKit

theorem bcell {W w1 : World} (hb : Below W.heap.size W w1) : (∀ b o, b < W.heap.size → w1.cell? ⟨b, o, none⟩ = W.cell? ⟨b, o, none⟩) ∧ (∀ b o, b < W.heap.size → w1.frozen? ⟨b, o, none⟩ = W.frozen? ⟨b, o, none⟩) :=
  ⟨fun b o h => hb.cell (p := ⟨b, o, none⟩) h, fun b o h => hb.frozen (p := ⟨b, o, none⟩) h⟩
theorem below_step {B C : Nat} {a w w1 : World} (hb : Below C w w1) (h : Below B a w) (hBC : B ≤ C) : Below B a w1 := h.trans (hb.mono hBC)
theorem below_of {a w w1 : World} (h : Below a.heap.size a w) (hb : Below w.heap.size w w1) : Below a.heap.size a w1 := h.trans (hb.mono h.size)
theorem below_drewN {B : Nat} {a w : World} (h : Below B a w) (n : Nat) : Below B a (w.drewN n) := h.trans ⟨rfl, rfl, rfl, Nat.le_refl _, fun _ _ => rfl⟩
theorem blt {W w1 : World} (hb : Below W.heap.size W w1) : ∀ b, b < W.heap.size → b < w1.heap.size := fun _ h => Nat.lt_of_lt_of_le h hb.size

def BlockIs (w : World) (g : Nat) (t : TypeId) (cs : Array Value) : Prop := w.heap[g]? = some (.cells cs t (0, 0))
section
variable {w w' : World} {g : Nat} {t : TypeId} {cs : Array Value}
theorem BlockIs.lt (h : BlockIs w g t cs) : g < w.heap.size := by
  rcases Nat.lt_or_ge g w.heap.size with h' | h'
  · exact h'
  · unfold BlockIs at h; rw [Array.getElem?_eq_none h'] at h; cases h
theorem BlockIs.cell (h : BlockIs w g t cs) (o : Nat) : w.cell? ⟨g, o, none⟩ = cs[o]? := by
  unfold BlockIs at h; simp [World.cell?, h]
theorem BlockIs.frozen (h : BlockIs w g t cs) (o : Nat) : w.frozen? ⟨g, o, none⟩ = false := by
  unfold BlockIs at h; simp [World.frozen?, h]
theorem BlockIs.new (w : World) (t : TypeId) (cs : Array Value) : BlockIs (w.alloc (.cells cs t)) w.heap.size t cs := by
  show (w.heap.push _)[w.heap.size]? = _
  simp
theorem BlockIs.new' {w : World} {g : Nat} {t : TypeId} {cs : Array Value} (h : g = w.heap.size) : BlockIs (w.alloc (.cells cs t)) g t cs := h ▸ BlockIs.new w t cs
theorem BlockIs.below {B : Nat} (h : BlockIs w g t cs) (hb : Below B w w') (hg : g < B) : BlockIs w' g t cs := (hb.block g hg).trans h
theorem BlockIs.alloc (h : BlockIs w g t cs) (o : Obj) : BlockIs (w.alloc o) g t cs := h.below ((Below.refl _ _).alloc (Nat.le_refl _) o) h.lt
theorem BlockIs.put (h : BlockIs w g t cs) (o : Nat) (u : Value) : BlockIs (w.setCell ⟨g, o, none⟩ u) g t (cs.setIfInBounds o u) := by
  unfold BlockIs at h ⊢
  simp [World.setCell, Array.getElem?_modify, h]
theorem BlockIs.far (h : BlockIs w g t cs) {p : Addr} (hp : g ≠ p.block) (u : Value) : BlockIs (w.setCell p u) g t cs := (Below.heap_setCell w p u g hp).trans h
theorem BlockIs.drew (h : BlockIs w g t cs) : BlockIs w.drew g t cs := h
theorem BlockIs.drewN (h : BlockIs w g t cs) (k : Nat) : BlockIs (w.drewN k) g t cs := h
end
end Go.Proofs.YtkaecjjbammphaaGreatDoor

namespace Go.Proofs.YtkaecjjbammphaaGreatDoor
theorem drop_at {α : Type} {l : List α} {k : Nat} {r : α} (h : l[k]? = some r) : l.drop k = r :: l.drop (k + 1) := by
  obtain ⟨hk, rfl⟩ := List.getElem?_eq_some_iff.1 h
  exact List.drop_eq_getElem_cons hk
theorem take_at {α : Type} {l : List α} {k : Nat} {r : α} (h : l[k]? = some r) : l.take (k + 1) = l.take k ++ [r] := by
  obtain ⟨hk, rfl⟩ := List.getElem?_eq_some_iff.1 h
  exact List.take_succ_eq_append_getElem hk
end Go.Proofs.YtkaecjjbammphaaGreatDoor

namespace Go.Proofs.YtkaecjjbammphaaGreatDoor

structure LV where
  k : Int
  v : Int
def LV.ok (l : LV) : Bool := decide (0 ≤ l.k ∧ l.k ≤ 9 ∧ 0 ≤ l.v ∧ l.v ≤ 9)
theorem LV.ok_iff {l : LV} : l.ok = true ↔ (0 ≤ l.k ∧ l.k ≤ 9 ∧ 0 ≤ l.v ∧ l.v ≤ 9) := by
  unfold LV.ok; exact decide_eq_true_iff
theorem LV.bad_iff {l : LV} : l.ok = false ↔ ¬ (0 ≤ l.k ∧ l.k ≤ 9 ∧ 0 ≤ l.v ∧ l.v ≤ 9) := by
  unfold LV.ok; exact decide_eq_false_iff_not

def labsFrom : Int → List LV → Bool
  | _, [] => true
  | p, l :: r => (l.ok && decide (p < l.k)) && labsFrom l.k r
theorem labsFrom_yes {p : Int} {l : LV} {r : List LV} (h : l.ok = true) (hp : p < l.k) : labsFrom p (l :: r) = labsFrom l.k r := by
  simp [labsFrom, h, hp]
theorem labsFrom_bad {p : Int} {l : LV} {r : List LV} (h : l.ok = false) : labsFrom p (l :: r) = false := by
  simp [labsFrom, h]
theorem labsFrom_low {p : Int} {l : LV} {r : List LV} (h : l.k ≤ p) : labsFrom p (l :: r) = false := by
  have : ¬ p < l.k := by omega
  simp [labsFrom, this]
def labsOk (l : List LV) : Bool := decide (l.length ≤ 6) && labsFrom (-1) l
theorem labsOk_short {l : List LV} (h : l.length ≤ 6) : labsOk l = labsFrom (-1) l := by simp [labsOk, h]
theorem labsOk_long {l : List LV} (h : 6 < l.length) : labsOk l = false := by
  have : ¬ l.length ≤ 6 := by omega
  simp [labsOk, this]

def mzero : Nat → Int := fun _ => 0
def mwith (m : Nat → Int) (l : LV) : Nat → Int := fun i => if (i : Int) = l.k then l.v + 1 else m i
def marksOf : (Nat → Int) → List LV → (Nat → Int)
  | m, [] => m
  | m, l :: r => marksOf (mwith m l) r
def readOf (l : List LV) : Nat → Int := if labsOk l then marksOf mzero l else mzero

def findK : List LV → Int → Int × Bool
  | [], _ => (0, false)
  | l :: r, k => if l.k = k then (l.v, true) else findK r k
def getOf (l : List LV) (k : Int) : Int × Bool := if labsOk l then findK l k else (0, false)
def hasAllOf (a : List LV) : List LV → Bool
  | [] => true
  | x :: r => (findK a x.k).2 && decide ((findK a x.k).1 = x.v) && hasAllOf a r
def matchOf (a b : List LV) : Bool := labsOk a && labsOk b && hasAllOf a b
theorem findK_hit {x : LV} {r : List LV} {k : Int} (h : x.k = k) : findK (x :: r) k = (x.v, true) := by simp [findK, h]
theorem findK_miss {x : LV} {r : List LV} {k : Int} (h : x.k ≠ k) : findK (x :: r) k = findK r k := by simp [findK, h]
theorem findK_above {p : Int} {l : List LV} (h : labsFrom p l = true) {k : Int} (hk : k ≤ p) : findK l k = (0, false) := by
  induction l generalizing p with
  | nil => rfl
  | cons x r ih =>
    simp only [labsFrom, Bool.and_eq_true, decide_eq_true_eq] at h
    have hne : ¬ x.k = k := by omega
    simp only [findK, if_neg hne]
    exact ih h.2 (by omega)
theorem findK_val {p : Int} {l : List LV} (h : labsFrom p l = true) {k : Int} : 0 ≤ (findK l k).1 ∧ (findK l k).1 ≤ 9 := by
  induction l generalizing p with
  | nil => simp [findK]
  | cons x r ih =>
    simp only [labsFrom, Bool.and_eq_true, decide_eq_true_eq] at h
    have := LV.ok_iff.1 h.1.1
    unfold findK
    split
    · exact ⟨this.2.2.1, this.2.2.2⟩
    · exact ih h.2
theorem marksOf_at {p : Int} {l : List LV} (h : labsFrom p l = true) (m : Nat → Int) (i : Nat) :
    marksOf m l i = if (findK l i).2 then (findK l i).1 + 1 else m i := by
  induction l generalizing p m with
  | nil => simp [marksOf, findK]
  | cons x r ih =>
    simp only [labsFrom, Bool.and_eq_true, decide_eq_true_eq] at h
    rw [marksOf, ih h.2]
    by_cases e : x.k = (i : Int)
    · rw [findK_above h.2 (k := (i : Int)) (by omega)]
      simp [mwith, findK, e]
    · have e' : ¬ (i : Int) = x.k := fun h => e h.symm
      simp [mwith, findK, e, e']
theorem mark_at {l : List LV} (h : labsFrom (-1) l = true) (i : Nat) : marksOf mzero l i = if (findK l i).2 then (findK l i).1 + 1 else 0 := marksOf_at h _ _
def tl (t : List Int) : List LV := t.map fun z => ⟨z, 0⟩
theorem tl_len (t : List Int) : (tl t).length = t.length := by simp [tl]
theorem tl_take {t : List Int} {k : Nat} {z : Int} (h : t[k]? = some z) : tl (t.take (k + 1)) = tl (t.take k) ++ [⟨z, 0⟩] := by
  obtain ⟨hk, rfl⟩ := List.getElem?_eq_some_iff.1 h
  unfold tl
  rw [List.take_succ_eq_append_getElem hk, List.map_append]; rfl
def tolOf (a b : List Int) : Bool := matchOf (tl b) (tl a)
end Go.Proofs.YtkaecjjbammphaaGreatDoor

namespace Go.Proofs.YtkaecjjbammphaaGreatDoor
open Go.RowKit

theorem markInRange_yes (n : Int) (w : World) (h1 : 0 ≤ n) (h2 : n ≤ 9) :
    Calls Tryz.prog 111 #[.int .i64 n] w fun e w' => e = .returned (.bool true) ∧ w = w' := by
  have h3 : n < 10 := by omega
  go_enter Tryz.func111, Tryz.ntmps111
  go_wp2
  go_ret
  exact ⟨by simp, rfl⟩
theorem markInRange_no (n : Int) (w : World) (h : ¬ (0 ≤ n ∧ n ≤ 9)) :
    Calls Tryz.prog 111 #[.int .i64 n] w fun e w' => e = .returned (.bool false) ∧ w = w' := by
  by_cases h1 : 0 ≤ n
  · have h2 : 10 ≤ n := by omega
    clear h
    go_enter Tryz.func111, Tryz.ntmps111
    go_wp2
    go_ret
    exact ⟨by simp; omega, rfl⟩
  · have h2 : n < 0 := by omega
    clear h h1
    go_enter Tryz.func111, Tryz.ntmps111
    go_wp2
    go_ret
    exact ⟨by simp, rfl⟩

theorem labInRange_yes (l : LV) (w : World) (h : l.ok = true) :
    Calls Tryz.prog 108 #[.agg #[.int .i64 l.k, .int .i64 l.v]] w fun e w' => e = .returned (.bool true) ∧ Below w.heap.size w w' := by
  have H := Lib.hid (LV.ok_iff.1 h)
  clear h
  go_enter Tryz.func108, Tryz.ntmps108
  go_wp2_with fail
  refine (markInRange_yes l.k _ H.out.1 H.out.2.1).mono ?_
  rintro e w1 ⟨rfl, rfl⟩
  go_wp2_with fail
  refine (markInRange_yes l.v _ H.out.2.2.1 H.out.2.2.2).mono ?_
  rintro e w1 ⟨rfl, rfl⟩
  go_wp2_with fail
  go_ret
  exact ⟨rfl, (by repeat' (first | exact Below.refl _ _ | refine Below.alloc ?_ ?_ _ | refine Below.setCell ?_ ?_ _ | refine Below.drew ?_ | (apply below_step; assumption) | (simp; done) | (simp; omega) | omega))⟩
theorem labInRange_no (l : LV) (w : World) (h : l.ok = false) :
    Calls Tryz.prog 108 #[.agg #[.int .i64 l.k, .int .i64 l.v]] w fun e w' => e = .returned (.bool false) ∧ Below w.heap.size w w' := by
  have h0 := LV.bad_iff.1 h
  clear h
  by_cases hk : 0 ≤ l.k ∧ l.k ≤ 9
  · have H := Lib.hid (show ¬ (0 ≤ l.v ∧ l.v ≤ 9) by omega)
    have HK := Lib.hid hk
    clear h0 hk
    go_enter Tryz.func108, Tryz.ntmps108
    go_wp2_with fail
    refine (markInRange_yes l.k _ HK.out.1 HK.out.2).mono ?_
    rintro e w1 ⟨rfl, rfl⟩
    go_wp2_with fail
    refine (markInRange_no l.v _ H.out).mono ?_
    rintro e w1 ⟨rfl, rfl⟩
    go_wp2_with fail
    go_ret
    exact ⟨rfl, (by repeat' (first | exact Below.refl _ _ | refine Below.alloc ?_ ?_ _ | refine Below.setCell ?_ ?_ _ | refine Below.drew ?_ | (apply below_step; assumption) | (simp; done) | (simp; omega) | omega))⟩
  · have HK := Lib.hid hk
    clear h0 hk
    go_enter Tryz.func108, Tryz.ntmps108
    go_wp2_with fail
    refine (markInRange_no l.k _ HK.out).mono ?_
    rintro e w1 ⟨rfl, rfl⟩
    go_wp2_with fail
    go_ret
    exact ⟨rfl, (by repeat' (first | exact Below.refl _ _ | refine Below.alloc ?_ ?_ _ | refine Below.setCell ?_ ?_ _ | refine Below.drew ?_ | (apply below_step; assumption) | (simp; done) | (simp; omega) | omega))⟩

theorem Tryz.mix0 (p : Nat → Int) (w : World) : (Instr.index 141 (.agg #[.int .i64 (p 0), .int .i64 (p 1), .int .i64 (p 2), .int .i64 (p 3), .int .i64 (p 4), .int .i64 (p 5), .int .i64 (p 6), .int .i64 (p 7), .int .i64 (p 8), .int .i64 (p 9)]) (.int .i64 0)).run Tryz.prog w = .ok (.int .i64 (p 0)) w := by kernel_rfl
theorem Tryz.mix1 (p : Nat → Int) (w : World) : (Instr.index 141 (.agg #[.int .i64 (p 0), .int .i64 (p 1), .int .i64 (p 2), .int .i64 (p 3), .int .i64 (p 4), .int .i64 (p 5), .int .i64 (p 6), .int .i64 (p 7), .int .i64 (p 8), .int .i64 (p 9)]) (.int .i64 1)).run Tryz.prog w = .ok (.int .i64 (p 1)) w := by kernel_rfl
theorem Tryz.mix2 (p : Nat → Int) (w : World) : (Instr.index 141 (.agg #[.int .i64 (p 0), .int .i64 (p 1), .int .i64 (p 2), .int .i64 (p 3), .int .i64 (p 4), .int .i64 (p 5), .int .i64 (p 6), .int .i64 (p 7), .int .i64 (p 8), .int .i64 (p 9)]) (.int .i64 2)).run Tryz.prog w = .ok (.int .i64 (p 2)) w := by kernel_rfl
theorem Tryz.mix3 (p : Nat → Int) (w : World) : (Instr.index 141 (.agg #[.int .i64 (p 0), .int .i64 (p 1), .int .i64 (p 2), .int .i64 (p 3), .int .i64 (p 4), .int .i64 (p 5), .int .i64 (p 6), .int .i64 (p 7), .int .i64 (p 8), .int .i64 (p 9)]) (.int .i64 3)).run Tryz.prog w = .ok (.int .i64 (p 3)) w := by kernel_rfl
theorem Tryz.mix4 (p : Nat → Int) (w : World) : (Instr.index 141 (.agg #[.int .i64 (p 0), .int .i64 (p 1), .int .i64 (p 2), .int .i64 (p 3), .int .i64 (p 4), .int .i64 (p 5), .int .i64 (p 6), .int .i64 (p 7), .int .i64 (p 8), .int .i64 (p 9)]) (.int .i64 4)).run Tryz.prog w = .ok (.int .i64 (p 4)) w := by kernel_rfl
theorem Tryz.mix5 (p : Nat → Int) (w : World) : (Instr.index 141 (.agg #[.int .i64 (p 0), .int .i64 (p 1), .int .i64 (p 2), .int .i64 (p 3), .int .i64 (p 4), .int .i64 (p 5), .int .i64 (p 6), .int .i64 (p 7), .int .i64 (p 8), .int .i64 (p 9)]) (.int .i64 5)).run Tryz.prog w = .ok (.int .i64 (p 5)) w := by kernel_rfl
theorem Tryz.mix6 (p : Nat → Int) (w : World) : (Instr.index 141 (.agg #[.int .i64 (p 0), .int .i64 (p 1), .int .i64 (p 2), .int .i64 (p 3), .int .i64 (p 4), .int .i64 (p 5), .int .i64 (p 6), .int .i64 (p 7), .int .i64 (p 8), .int .i64 (p 9)]) (.int .i64 6)).run Tryz.prog w = .ok (.int .i64 (p 6)) w := by kernel_rfl
theorem Tryz.mix7 (p : Nat → Int) (w : World) : (Instr.index 141 (.agg #[.int .i64 (p 0), .int .i64 (p 1), .int .i64 (p 2), .int .i64 (p 3), .int .i64 (p 4), .int .i64 (p 5), .int .i64 (p 6), .int .i64 (p 7), .int .i64 (p 8), .int .i64 (p 9)]) (.int .i64 7)).run Tryz.prog w = .ok (.int .i64 (p 7)) w := by kernel_rfl
theorem Tryz.mix8 (p : Nat → Int) (w : World) : (Instr.index 141 (.agg #[.int .i64 (p 0), .int .i64 (p 1), .int .i64 (p 2), .int .i64 (p 3), .int .i64 (p 4), .int .i64 (p 5), .int .i64 (p 6), .int .i64 (p 7), .int .i64 (p 8), .int .i64 (p 9)]) (.int .i64 8)).run Tryz.prog w = .ok (.int .i64 (p 8)) w := by kernel_rfl
theorem Tryz.mix9 (p : Nat → Int) (w : World) : (Instr.index 141 (.agg #[.int .i64 (p 0), .int .i64 (p 1), .int .i64 (p 2), .int .i64 (p 3), .int .i64 (p 4), .int .i64 (p 5), .int .i64 (p 6), .int .i64 (p 7), .int .i64 (p 8), .int .i64 (p 9)]) (.int .i64 9)).run Tryz.prog w = .ok (.int .i64 (p 9)) w := by kernel_rfl
theorem Tryz.mix (p : Nat → Int) (k : Nat) (hk : k < 10) (w : World) : (Instr.index 141 (.agg #[.int .i64 (p 0), .int .i64 (p 1), .int .i64 (p 2), .int .i64 (p 3), .int .i64 (p 4), .int .i64 (p 5), .int .i64 (p 6), .int .i64 (p 7), .int .i64 (p 8), .int .i64 (p 9)]) (.int .i64 (k : Int))).run Tryz.prog w = .ok (.int .i64 (p k)) w := by
  match k, hk with
  | 0, _ => exact Tryz.mix0 p w
  | 1, _ => exact Tryz.mix1 p w
  | 2, _ => exact Tryz.mix2 p w
  | 3, _ => exact Tryz.mix3 p w
  | 4, _ => exact Tryz.mix4 p w
  | 5, _ => exact Tryz.mix5 p w
  | 6, _ => exact Tryz.mix6 p w
  | 7, _ => exact Tryz.mix7 p w
  | 8, _ => exact Tryz.mix8 p w
  | 9, _ => exact Tryz.mix9 p w
theorem mcell (m : Nat → Int) (k : Nat) (hk : k < 10) : (#[.int .i64 (m 0), .int .i64 (m 1), .int .i64 (m 2), .int .i64 (m 3), .int .i64 (m 4), .int .i64 (m 5), .int .i64 (m 6), .int .i64 (m 7), .int .i64 (m 8), .int .i64 (m 9)] : Array Value)[k]? = some (.int .i64 (m k)) := by
  match k, hk with
  | 0, _ => rfl
  | 1, _ => rfl
  | 2, _ => rfl
  | 3, _ => rfl
  | 4, _ => rfl
  | 5, _ => rfl
  | 6, _ => rfl
  | 7, _ => rfl
  | 8, _ => rfl
  | 9, _ => rfl
end Go.Proofs.YtkaecjjbammphaaGreatDoor

namespace Go.Proofs.YtkaecjjbammphaaGreatDoor
open Go.RowKit

set_option maxHeartbeats 1600000 in
theorem with_any (m : Nat → Int) (l : LV) (w : World) (h : l.ok = true) :
    Calls Tryz.prog 109 #[.agg #[.int .i64 (m 0), .int .i64 (m 1), .int .i64 (m 2), .int .i64 (m 3), .int .i64 (m 4), .int .i64 (m 5), .int .i64 (m 6), .int .i64 (m 7), .int .i64 (m 8), .int .i64 (m 9)], .agg #[.int .i64 l.k, .int .i64 l.v]] w fun e w' => e = .returned (.agg #[.int .i64 (mwith m l 0), .int .i64 (mwith m l 1), .int .i64 (mwith m l 2), .int .i64 (mwith m l 3), .int .i64 (mwith m l 4), .int .i64 (mwith m l 5), .int .i64 (mwith m l 6), .int .i64 (mwith m l 7), .int .i64 (mwith m l 8), .int .i64 (mwith m l 9)]) ∧ Below w.heap.size w w' := by
  obtain ⟨k0, k9, v0, v9⟩ := LV.ok_iff.1 h
  clear h
  obtain ⟨kk, vv⟩ := l
  simp only at k0 k9 v0 v9
  rcases (show kk = 0 ∨ kk = 1 ∨ kk = 2 ∨ kk = 3 ∨ kk = 4 ∨ kk = 5 ∨ kk = 6 ∨ kk = 7 ∨ kk = 8 ∨ kk = 9 by omega) with rfl | rfl | rfl | rfl | rfl | rfl | rfl | rfl | rfl | rfl
  all_goals
    clear k0 k9
    go_enter Tryz.func109, Tryz.ntmps109
    go_wp2_with fail
    refine bodyPost_ret (v := .agg #[.int .i64 (mwith m ⟨_, vv⟩ 0), .int .i64 (mwith m ⟨_, vv⟩ 1), .int .i64 (mwith m ⟨_, vv⟩ 2), .int .i64 (mwith m ⟨_, vv⟩ 3), .int .i64 (mwith m ⟨_, vv⟩ 4), .int .i64 (mwith m ⟨_, vv⟩ 5), .int .i64 (mwith m ⟨_, vv⟩ 6), .int .i64 (mwith m ⟨_, vv⟩ 7), .int .i64 (mwith m ⟨_, vv⟩ 8), .int .i64 (mwith m ⟨_, vv⟩ 9)]) (by simp [results, Tryz.results109, go_sem, mwith]) rfl ⟨rfl, ?_⟩
    exact (by repeat' (first | exact Below.refl _ _ | refine Below.alloc ?_ ?_ _ | refine Below.setCell ?_ ?_ _ | refine Below.drew ?_ | (apply below_step; assumption) | (simp; done) | (simp; omega) | omega))

theorem Tryz.infoInt : ∃ i, Tryz.prog.info? 3 = some i := ⟨_, (Option.eq_some_of_isSome (show (Tryz.prog.info? 3).isSome = true by kernel_rfl))⟩
theorem Tryz.cellsInt : Tryz.prog.cellsOf 3 = 1 := by kernel_rfl
theorem part_int (xs : Array Value) (off : Nat) (v : Value) (h : xs[off]? = some v) (w : World) : (part 3 xs off).run Tryz.prog w = .ok v w := by
  have : (isAgg 3).run Tryz.prog w = .ok false w := by kernel_rfl
  simp [part, this, h]
def eqMarks (a b : Nat → Int) : Bool := (List.range 10).all fun i => a i == b i
theorem equal_marks (a b : Nat → Int) (w : World) : (Op.equalIn 10000 141 (.agg #[.int .i64 (a 0), .int .i64 (a 1), .int .i64 (a 2), .int .i64 (a 3), .int .i64 (a 4), .int .i64 (a 5), .int .i64 (a 6), .int .i64 (a 7), .int .i64 (a 8), .int .i64 (a 9)]) (.agg #[.int .i64 (b 0), .int .i64 (b 1), .int .i64 (b 2), .int .i64 (b 3), .int .i64 (b 4), .int .i64 (b 5), .int .i64 (b 6), .int .i64 (b 7), .int .i64 (b 8), .int .i64 (b 9)])).run Tryz.prog w = .ok (eqMarks a b) w := by
  obtain ⟨i, hi⟩ := Tryz.infoInt
  rw [run_equalIn_array w 9999 _ _ Tryz.underlying141 hi, Tryz.cellsInt]
  have : ∀ is : List Nat, (∀ i ∈ is, i < 10) → (Op.eqItems 9999 3 1 #[.int .i64 (a 0), .int .i64 (a 1), .int .i64 (a 2), .int .i64 (a 3), .int .i64 (a 4), .int .i64 (a 5), .int .i64 (a 6), .int .i64 (a 7), .int .i64 (a 8), .int .i64 (a 9)] #[.int .i64 (b 0), .int .i64 (b 1), .int .i64 (b 2), .int .i64 (b 3), .int .i64 (b 4), .int .i64 (b 5), .int .i64 (b 6), .int .i64 (b 7), .int .i64 (b 8), .int .i64 (b 9)] is).run Tryz.prog w = .ok (is.all fun i => a i == b i) w := by
    intro is
    induction is with
    | nil => intro _; simp [Op.eqItems]
    | cons x r ih =>
      intro h
      have hx := h x (by simp)
      have e1 := part_int #[.int .i64 (a 0), .int .i64 (a 1), .int .i64 (a 2), .int .i64 (a 3), .int .i64 (a 4), .int .i64 (a 5), .int .i64 (a 6), .int .i64 (a 7), .int .i64 (a 8), .int .i64 (a 9)] x _ (mcell a x hx) w
      have e2 := part_int #[.int .i64 (b 0), .int .i64 (b 1), .int .i64 (b 2), .int .i64 (b 3), .int .i64 (b 4), .int .i64 (b 5), .int .i64 (b 6), .int .i64 (b 7), .int .i64 (b 8), .int .i64 (b 9)] x _ (mcell b x hx) w
      have e3 := run_equalIn_int (P := Tryz.prog) w 9998 3 .i64 .i64 (a x) (b x) Tryz.underlying3
      simp only [Op.eqItems, Nat.mul_one, Sem.run_bind, e1, e2, e3, Result.andThen_ok, List.all_cons]
      cases a x == b x
      · simp
      · simpa using ih (fun i hi => h i (by simp [hi]))
  exact this (List.range 10) (by simp)
theorem eql_marks (a b : Nat → Int) (w : World) : (binOp .eql 141 (.agg #[.int .i64 (a 0), .int .i64 (a 1), .int .i64 (a 2), .int .i64 (a 3), .int .i64 (a 4), .int .i64 (a 5), .int .i64 (a 6), .int .i64 (a 7), .int .i64 (a 8), .int .i64 (a 9)]) (.agg #[.int .i64 (b 0), .int .i64 (b 1), .int .i64 (b 2), .int .i64 (b 3), .int .i64 (b 4), .int .i64 (b 5), .int .i64 (b 6), .int .i64 (b 7), .int .i64 (b 8), .int .i64 (b 9)])).run Tryz.prog w = .ok (.bool (eqMarks a b)) w := by
  rw [run_eql_struct, equal_marks]; rfl
theorem guard_marks (a b : Array Value) (x y : Operand) (w : World) : (eqGuard .eql 141 x y (.agg a) (.agg b)).run Tryz.prog w = .ok () w := run_eqGuard_agg w .eql _ x y a b (by kernel_rfl)
end Go.Proofs.YtkaecjjbammphaaGreatDoor

namespace Go.Proofs.YtkaecjjbammphaaGreatDoor
open Go.RowKit

theorem put10 {w : World} {g : Nat} {t : TypeId} {m : Nat → Int} (m' : Nat → Int) (h : BlockIs w g t #[.int .i64 (m 0), .int .i64 (m 1), .int .i64 (m 2), .int .i64 (m 3), .int .i64 (m 4), .int .i64 (m 5), .int .i64 (m 6), .int .i64 (m 7), .int .i64 (m 8), .int .i64 (m 9)]) : BlockIs ((((((((((w.setCell ⟨g, 0, none⟩ (.int .i64 (m' 0))).setCell ⟨g, 1, none⟩ (.int .i64 (m' 1))).setCell ⟨g, 2, none⟩ (.int .i64 (m' 2))).setCell ⟨g, 3, none⟩ (.int .i64 (m' 3))).setCell ⟨g, 4, none⟩ (.int .i64 (m' 4))).setCell ⟨g, 5, none⟩ (.int .i64 (m' 5))).setCell ⟨g, 6, none⟩ (.int .i64 (m' 6))).setCell ⟨g, 7, none⟩ (.int .i64 (m' 7))).setCell ⟨g, 8, none⟩ (.int .i64 (m' 8))).setCell ⟨g, 9, none⟩ (.int .i64 (m' 9))) g t #[.int .i64 (m' 0), .int .i64 (m' 1), .int .i64 (m' 2), .int .i64 (m' 3), .int .i64 (m' 4), .int .i64 (m' 5), .int .i64 (m' 6), .int .i64 (m' 7), .int .i64 (m' 8), .int .i64 (m' 9)] := by
  have := (((((((((h.put 0 (.int .i64 (m' 0))).put 1 (.int .i64 (m' 1))).put 2 (.int .i64 (m' 2))).put 3 (.int .i64 (m' 3))).put 4 (.int .i64 (m' 4))).put 5 (.int .i64 (m' 5))).put 6 (.int .i64 (m' 6))).put 7 (.int .i64 (m' 7))).put 8 (.int .i64 (m' 8))).put 9 (.int .i64 (m' 9))
  simpa using this
theorem below10 {B : Nat} {a w : World} {g : Nat} (m' : Nat → Int) (h : Below B a w) (hg : B ≤ g) : Below B a ((((((((((w.setCell ⟨g, 0, none⟩ (.int .i64 (m' 0))).setCell ⟨g, 1, none⟩ (.int .i64 (m' 1))).setCell ⟨g, 2, none⟩ (.int .i64 (m' 2))).setCell ⟨g, 3, none⟩ (.int .i64 (m' 3))).setCell ⟨g, 4, none⟩ (.int .i64 (m' 4))).setCell ⟨g, 5, none⟩ (.int .i64 (m' 5))).setCell ⟨g, 6, none⟩ (.int .i64 (m' 6))).setCell ⟨g, 7, none⟩ (.int .i64 (m' 7))).setCell ⟨g, 8, none⟩ (.int .i64 (m' 8))).setCell ⟨g, 9, none⟩ (.int .i64 (m' 9))) :=
  (((((((((h.setCell hg _).setCell hg _).setCell hg _).setCell hg _).setCell hg _).setCell hg _).setCell hg _).setCell hg _).setCell hg _).setCell hg _
theorem far10 {w : World} {b g : Nat} {t : TypeId} {cs : Array Value} (m' : Nat → Int) (h : BlockIs w b t cs) (hne : b ≠ g) : BlockIs ((((((((((w.setCell ⟨g, 0, none⟩ (.int .i64 (m' 0))).setCell ⟨g, 1, none⟩ (.int .i64 (m' 1))).setCell ⟨g, 2, none⟩ (.int .i64 (m' 2))).setCell ⟨g, 3, none⟩ (.int .i64 (m' 3))).setCell ⟨g, 4, none⟩ (.int .i64 (m' 4))).setCell ⟨g, 5, none⟩ (.int .i64 (m' 5))).setCell ⟨g, 6, none⟩ (.int .i64 (m' 6))).setCell ⟨g, 7, none⟩ (.int .i64 (m' 7))).setCell ⟨g, 8, none⟩ (.int .i64 (m' 8))).setCell ⟨g, 9, none⟩ (.int .i64 (m' 9))) b t cs :=
  (((((((((h.far hne _).far hne _).far hne _).far hne _).far hne _).far hne _).far hne _).far hne _).far hne _).far hne _
def laidM (m p : Nat → Int) (k : Nat) : Nat → Int := fun i => if i < k ∧ 0 < p i then p i else m i
theorem laid_put (m p : Nat → Int) (k : Nat) (hk : k < 10) (h : 0 < p k) : (#[.int .i64 (laidM m p k 0), .int .i64 (laidM m p k 1), .int .i64 (laidM m p k 2), .int .i64 (laidM m p k 3), .int .i64 (laidM m p k 4), .int .i64 (laidM m p k 5), .int .i64 (laidM m p k 6), .int .i64 (laidM m p k 7), .int .i64 (laidM m p k 8), .int .i64 (laidM m p k 9)] : Array Value).setIfInBounds k (.int .i64 (p k)) = #[.int .i64 (laidM m p (k + 1) 0), .int .i64 (laidM m p (k + 1) 1), .int .i64 (laidM m p (k + 1) 2), .int .i64 (laidM m p (k + 1) 3), .int .i64 (laidM m p (k + 1) 4), .int .i64 (laidM m p (k + 1) 5), .int .i64 (laidM m p (k + 1) 6), .int .i64 (laidM m p (k + 1) 7), .int .i64 (laidM m p (k + 1) 8), .int .i64 (laidM m p (k + 1) 9)] := by
  match k, hk with
  | 0, _ => simp [laidM, h]
  | 1, _ => simp [laidM, h]
  | 2, _ => simp [laidM, h]
  | 3, _ => simp [laidM, h]
  | 4, _ => simp [laidM, h]
  | 5, _ => simp [laidM, h]
  | 6, _ => simp [laidM, h]
  | 7, _ => simp [laidM, h]
  | 8, _ => simp [laidM, h]
  | 9, _ => simp [laidM, h]
theorem laid_skip (m p : Nat → Int) (k : Nat) (h : ¬ 0 < p k) : laidM m p (k + 1) = laidM m p k := by
  funext i
  unfold laidM
  by_cases e : i = k
  · subst e; simp [h]
  · by_cases hi : i < k
    · simp [hi, Nat.lt_succ_of_lt hi]
    · have : ¬ i < k + 1 := by omega
      simp [hi, this]
def hasAllM (m p : Nat → Int) : Bool := eqMarks (laidM m p 10) m

set_option maxHeartbeats 1600000 in
theorem hasAll_any (m p : Nat → Int) (w : World) :
    Calls Tryz.prog 110 #[.agg #[.int .i64 (m 0), .int .i64 (m 1), .int .i64 (m 2), .int .i64 (m 3), .int .i64 (m 4), .int .i64 (m 5), .int .i64 (m 6), .int .i64 (m 7), .int .i64 (m 8), .int .i64 (m 9)], .agg #[.int .i64 (p 0), .int .i64 (p 1), .int .i64 (p 2), .int .i64 (p 3), .int .i64 (p 4), .int .i64 (p 5), .int .i64 (p 6), .int .i64 (p 7), .int .i64 (p 8), .int .i64 (p 9)]] w fun e w' => e = .returned (.bool (hasAllM m p)) ∧ Below w.heap.size w w' := by
  have hix := Tryz.mix p
  have HIX := Lib.hid hix
  clear hix
  go_enter Tryz.func110, Tryz.ntmps110
  go_wp2_with fail
  go_loopw [10] (fun s10 wr => ∃ k : Nat, k ≤ 10 ∧ s10 = .int .i64 k ∧ Below w.heap.size w wr ∧ BlockIs wr w.heap.size 141 #[.int .i64 (m 0), .int .i64 (m 1), .int .i64 (m 2), .int .i64 (m 3), .int .i64 (m 4), .int .i64 (m 5), .int .i64 (m 6), .int .i64 (m 7), .int .i64 (m 8), .int .i64 (m 9)] ∧ BlockIs wr (w.heap.size + 2) 141 #[.int .i64 (laidM m p k 0), .int .i64 (laidM m p k 1), .int .i64 (laidM m p k 2), .int .i64 (laidM m p k 3), .int .i64 (laidM m p k 4), .int .i64 (laidM m p k 5), .int .i64 (laidM m p k 6), .int .i64 (laidM m p k 7), .int .i64 (laidM m p k 8), .int .i64 (laidM m p k 9)]) (fun s10 _ => (10 - intOf s10).toNat)
  case atStart =>
    refine ⟨0, by omega, rfl, (by repeat' (first | exact Below.refl _ _ | refine Below.alloc ?_ ?_ _ | refine Below.setCell ?_ ?_ _ | refine Below.drew ?_ | (apply below_step; assumption) | (simp; done) | (simp; omega) | omega)), ?_, ?_⟩
    · exact ((BlockIs.new w _ _).alloc _).alloc _
    · have h0 : laidM m p 0 = m := by funext i; simp [laidM]
      rw [h0]
      exact BlockIs.new' (by simp)
  case round =>
    obtain ⟨k, hk, rfl, hB, hm, hl⟩ := hrel
    have HM := Lib.hid hm
    have HL := Lib.hid hl
    have hzr := hB.size
    have hgl := hl.lt
    by_cases hlt : k < 10
    · have hx := fun w => HIX.out k hlt w
      have c5 := (hl.cell k).trans (mcell _ k hlt)
      have f5 := hl.frozen k
      have hlti : (k : Int) < 10 := by omega
      clear hm hl
      by_cases hp : 0 < p k
      · have HP := Lib.hid hp
        go_wp2_with fail
        go_roundw
        case rel =>
          refine ⟨k + 1, by omega, by go_num, (by repeat' (first | exact Below.refl _ _ | refine Below.alloc ?_ ?_ _ | refine Below.setCell ?_ ?_ _ | refine Below.drew ?_ | (apply below_step; assumption) | (simp; done) | (simp; omega) | omega)), HM.out.far (by simp; omega) _, ?_⟩
          rw [← laid_put m p k hlt HP.out]
          exact HL.out.put k _
        case measure => simp [intOf]; omega
      · have HP := Lib.hid hp
        have hp' : p k ≤ 0 := by omega
        clear hp
        go_wp2_with fail
        go_roundw
        case rel =>
          refine ⟨k + 1, by omega, by go_num, hB, HM.out, ?_⟩
          rw [laid_skip m p k HP.out]
          exact HL.out
        case measure => simp [intOf]; omega
    · obtain rfl : k = 10 := by omega
      have heq := eql_marks (laidM m p 10) m
      have hgu := guard_marks
      have m0 := hm.cell 0
      have m1 := hm.cell 1
      have m2 := hm.cell 2
      have m3 := hm.cell 3
      have m4 := hm.cell 4
      have m5 := hm.cell 5
      have m6 := hm.cell 6
      have m7 := hm.cell 7
      have m8 := hm.cell 8
      have m9 := hm.cell 9
      have l0 := hl.cell 0
      have l1 := hl.cell 1
      have l2 := hl.cell 2
      have l3 := hl.cell 3
      have l4 := hl.cell 4
      have l5 := hl.cell 5
      have l6 := hl.cell 6
      have l7 := hl.cell 7
      have l8 := hl.cell 8
      have l9 := hl.cell 9
      simp at m0 m1 m2 m3 m4 m5 m6 m7 m8 m9 l0 l1 l2 l3 l4 l5 l6 l7 l8 l9
      clear hm hl HM HL HIX
      go_wp2_with fail
      go_ret
      exact ⟨rfl, hB⟩
end Go.Proofs.YtkaecjjbammphaaGreatDoor

namespace Go.Proofs.YtkaecjjbammphaaGreatDoor
open Go.RowKit

def LabAt (w : World) (b off : Nat) (l : List LV) : Prop :=
  ∀ i r, l[i]? = some r → w.cell? ⟨b, off + i * 2, none⟩ = some (.int .i64 r.k) ∧ w.cell? ⟨b, off + i * 2 + 1, none⟩ = some (.int .i64 r.v)
def LabSl (w : World) (v : Value) (l : List LV) : Prop := (l = [] ∧ ∃ A c, v = .slice A 0 c) ∨ ∃ b off c, v = .slice (some ⟨b, off, none⟩) l.length c ∧ b < w.heap.size ∧ LabAt w b off l
theorem LabAt.below {w w' : World} {b off B : Nat} {l : List LV} (h : LabAt w b off l) (hb : Below B w w') (hB : b < B) : LabAt w' b off l := fun i r hr => by
  obtain ⟨h1, h2⟩ := h i r hr
  exact ⟨(hb.cell (p := ⟨b, _, none⟩) hB).trans h1, (hb.cell (p := ⟨b, _, none⟩) hB).trans h2⟩
theorem LabSl.below {w w' : World} {v : Value} {l : List LV} (h : LabSl w v l) (hb : Below w.heap.size w w') : LabSl w' v l := by
  rcases h with h | ⟨b, off, c, rfl, hlt, h⟩
  · exact .inl h
  · exact .inr ⟨b, off, c, rfl, Nat.lt_of_lt_of_le hlt hb.size, h.below hb hlt⟩
theorem LabSl.form {w : World} {v : Value} {l : List LV} (h : LabSl w v l) : ∃ A c, v = .slice A l.length c ∧ (0 < l.length → ∃ b off, A = some ⟨b, off, none⟩ ∧ b < w.heap.size ∧ LabAt w b off l) := by
  rcases h with ⟨rfl, A, c, rfl⟩ | ⟨b, off, c, rfl, hlt, h⟩
  · exact ⟨A, c, rfl, fun h => absurd h (by simp)⟩
  · exact ⟨_, c, rfl, fun _ => ⟨b, off, rfl, hlt, h⟩⟩
def RetM (m : Nat → Int) (b : Bool) (w : World) (e : Ending) (w' : World) : Prop := e = .returned (.tuple #[.agg #[.int .i64 (m 0), .int .i64 (m 1), .int .i64 (m 2), .int .i64 (m 3), .int .i64 (m 4), .int .i64 (m 5), .int .i64 (m 6), .int .i64 (m 7), .int .i64 (m 8), .int .i64 (m 9)], .bool b]) ∧ Below w.heap.size w w'
theorem readOf_no {l : List LV} (h : labsOk l = false) : readOf l = mzero := by simp [readOf, h]
theorem readOf_yes {l : List LV} (h : labsOk l = true) : readOf l = marksOf mzero l := by simp [readOf, h]

set_option maxHeartbeats 1600000 in
theorem readLabs_long (A : Option Addr) (n c : Nat) (w : World) (h : 6 < n) (hm : n ≤ 1048576) :
    Calls Tryz.prog 101 #[.slice A n c] w (RetM mzero false w) := by
  have h6 : (6 : Int) < (n : Int) := by omega
  go_enter Tryz.func101, Tryz.ntmps101
  go_wp2_with fail
  exact bodyPost_ret (v := .tuple #[.agg #[.int .i64 (mzero 0), .int .i64 (mzero 1), .int .i64 (mzero 2), .int .i64 (mzero 3), .int .i64 (mzero 4), .int .i64 (mzero 5), .int .i64 (mzero 6), .int .i64 (mzero 7), .int .i64 (mzero 8), .int .i64 (mzero 9)], .bool false]) (by simp [results, Tryz.results101, go_sem, mzero]) rfl ⟨rfl, (by repeat' (first | exact Below.refl _ _ | refine Below.alloc ?_ ?_ _ | refine Below.setCell ?_ ?_ _ | refine Below.drew ?_ | (apply below_step; assumption) | (simp; done) | (simp; omega) | omega))⟩

set_option maxHeartbeats 3200000 in
theorem readLabs_short (v : Value) (l : List LV) (w : World) (hv : LabSl w v l) (hlen : l.length ≤ 6) :
    Calls Tryz.prog 101 #[v] w (RetM (readOf l) (labsOk l) w) := by
  obtain ⟨A, c, rfl, hA⟩ := hv.form
  have HA := Lib.hid hA
  have HO := Lib.hid (labsOk_short hlen)
  clear hA hv
  go_enter Tryz.func101, Tryz.ntmps101
  go_wp2_with fail
  go_loopw [5, 15] (fun s5 s15 wr => ∃ (k : Nat) (p : Int) (m : Nat → Int), k ≤ l.length ∧ s15 = .int .i64 k ∧ s5 = .int .i64 p ∧ -1 ≤ p ∧ p ≤ 9 ∧ labsFrom (-1) l = labsFrom p (l.drop k) ∧ marksOf mzero l = marksOf m (l.drop k) ∧ Below w.heap.size w wr ∧ BlockIs wr w.heap.size 141 #[.int .i64 (mzero 0), .int .i64 (mzero 1), .int .i64 (mzero 2), .int .i64 (mzero 3), .int .i64 (mzero 4), .int .i64 (mzero 5), .int .i64 (mzero 6), .int .i64 (mzero 7), .int .i64 (mzero 8), .int .i64 (mzero 9)] ∧ BlockIs wr (w.heap.size + 1) 141 #[.int .i64 (m 0), .int .i64 (m 1), .int .i64 (m 2), .int .i64 (m 3), .int .i64 (m 4), .int .i64 (m 5), .int .i64 (m 6), .int .i64 (m 7), .int .i64 (m 8), .int .i64 (m 9)]) (fun _ s15 _ => (l.length - intOf s15).toNat)
  case atStart =>
    refine ⟨0, -1, mzero, by omega, rfl, rfl, by omega, by omega, by rw [List.drop_zero], by rw [List.drop_zero], (by repeat' (first | exact Below.refl _ _ | refine Below.alloc ?_ ?_ _ | refine Below.setCell ?_ ?_ _ | refine Below.drew ?_ | (apply below_step; assumption) | (simp; done) | (simp; omega) | omega)), ?_, ?_⟩
    · exact (BlockIs.new w _ _).alloc _
    · exact BlockIs.new' (by simp)
  case round =>
    obtain ⟨k, p, m, hk, rfl, rfl, hp1, hp9, hF, hM, hB, hz, hm⟩ := hrel
    have HF := Lib.hid hF
    have HM := Lib.hid hM
    have HZ := Lib.hid hz
    have HMB := Lib.hid hm
    have hzr := hB.size
    have hgl := hm.lt
    clear hF hM
    by_cases hlt : k < l.length
    · obtain ⟨b, off, rfl, hbw, hat⟩ := HA.out (by omega)
      obtain ⟨r, hr⟩ : ∃ r, l[k]? = some r := ⟨_, List.getElem?_eq_getElem hlt⟩
      have HD := Lib.hid (drop_at hr)
      obtain ⟨q0, q1⟩ := (hat.below hB hbw) k r hr
      have hlti : (k : Int) < (l.length : Int) := by omega
      have hbr : b < wr.heap.size := by omega
      clear hat hr hz hm
      cases hro : r.ok
      · have HR := Lib.hid hro
        clear hro
        go_wp2_with fail
        refine (labInRange_no r _ HR.out).mono ?_
        rintro e w3 ⟨rfl, hb3⟩
        have hz3 := hb3.size
        simp at hz3
        have hZ3 := (HZ.out.alloc _).below hb3 (by simp; omega)
        have z0 := (hZ3).cell 0; have z1 := (hZ3).cell 1; have z2 := (hZ3).cell 2; have z3 := (hZ3).cell 3; have z4 := (hZ3).cell 4; have z5 := (hZ3).cell 5; have z6 := (hZ3).cell 6; have z7 := (hZ3).cell 7; have z8 := (hZ3).cell 8; have z9 := (hZ3).cell 9; simp at z0 z1 z2 z3 z4 z5 z6 z7 z8 z9
        have zf := hZ3.frozen
        have HZ3 := Lib.hid hZ3
        clear hZ3
        have hB3 : Below w.heap.size w w3 := (by repeat' (first | exact Below.refl _ _ | refine Below.alloc ?_ ?_ _ | refine Below.setCell ?_ ?_ _ | refine Below.drew ?_ | (apply below_step; assumption) | (simp; done) | (simp; omega) | omega))
        go_wp2_with fail
        have HX : Hid (labsOk l = false) := by
          show _ = _
          rw [HO.out, HF.out, HD.out, labsFrom_bad HR.out]
        rw [readOf_no HX.out, HX.out]
        have hX : BlockIs ((((((((((w3.setCell ⟨w.heap.size, 0, none⟩ (.int .i64 0)).setCell ⟨w.heap.size, 1, none⟩ (.int .i64 0)).setCell ⟨w.heap.size, 2, none⟩ (.int .i64 0)).setCell ⟨w.heap.size, 3, none⟩ (.int .i64 0)).setCell ⟨w.heap.size, 4, none⟩ (.int .i64 0)).setCell ⟨w.heap.size, 5, none⟩ (.int .i64 0)).setCell ⟨w.heap.size, 6, none⟩ (.int .i64 0)).setCell ⟨w.heap.size, 7, none⟩ (.int .i64 0)).setCell ⟨w.heap.size, 8, none⟩ (.int .i64 0)).setCell ⟨w.heap.size, 9, none⟩ (.int .i64 0)) w.heap.size 141 #[.int .i64 (mzero 0), .int .i64 (mzero 1), .int .i64 (mzero 2), .int .i64 (mzero 3), .int .i64 (mzero 4), .int .i64 (mzero 5), .int .i64 (mzero 6), .int .i64 (mzero 7), .int .i64 (mzero 8), .int .i64 (mzero 9)] := put10 mzero HZ3.out
        have hBX : Below w.heap.size w ((((((((((w3.setCell ⟨w.heap.size, 0, none⟩ (.int .i64 0)).setCell ⟨w.heap.size, 1, none⟩ (.int .i64 0)).setCell ⟨w.heap.size, 2, none⟩ (.int .i64 0)).setCell ⟨w.heap.size, 3, none⟩ (.int .i64 0)).setCell ⟨w.heap.size, 4, none⟩ (.int .i64 0)).setCell ⟨w.heap.size, 5, none⟩ (.int .i64 0)).setCell ⟨w.heap.size, 6, none⟩ (.int .i64 0)).setCell ⟨w.heap.size, 7, none⟩ (.int .i64 0)).setCell ⟨w.heap.size, 8, none⟩ (.int .i64 0)).setCell ⟨w.heap.size, 9, none⟩ (.int .i64 0)) := below10 mzero hB3 (Nat.le_refl _)
        generalize ((((((((((w3.setCell ⟨w.heap.size, 0, none⟩ (.int .i64 0)).setCell ⟨w.heap.size, 1, none⟩ (.int .i64 0)).setCell ⟨w.heap.size, 2, none⟩ (.int .i64 0)).setCell ⟨w.heap.size, 3, none⟩ (.int .i64 0)).setCell ⟨w.heap.size, 4, none⟩ (.int .i64 0)).setCell ⟨w.heap.size, 5, none⟩ (.int .i64 0)).setCell ⟨w.heap.size, 6, none⟩ (.int .i64 0)).setCell ⟨w.heap.size, 7, none⟩ (.int .i64 0)).setCell ⟨w.heap.size, 8, none⟩ (.int .i64 0)).setCell ⟨w.heap.size, 9, none⟩ (.int .i64 0)) = X at hX hBX ⊢
        clear z0 z1 z2 z3 z4 z5 z6 z7 z8 z9
        have z0 := (hX).cell 0; have z1 := (hX).cell 1; have z2 := (hX).cell 2; have z3 := (hX).cell 3; have z4 := (hX).cell 4; have z5 := (hX).cell 5; have z6 := (hX).cell 6; have z7 := (hX).cell 7; have z8 := (hX).cell 8; have z9 := (hX).cell 9; simp at z0 z1 z2 z3 z4 z5 z6 z7 z8 z9
        refine bodyPost_ret (v := .tuple #[.agg #[.int .i64 (mzero 0), .int .i64 (mzero 1), .int .i64 (mzero 2), .int .i64 (mzero 3), .int .i64 (mzero 4), .int .i64 (mzero 5), .int .i64 (mzero 6), .int .i64 (mzero 7), .int .i64 (mzero 8), .int .i64 (mzero 9)], .bool false]) (by simp [results, Tryz.results101, go_sem, z0, z1, z2, z3, z4, z5, z6, z7, z8, z9]) rfl ⟨rfl, hBX⟩
      · have HR := Lib.hid hro
        have hkr := LV.ok_iff.1 hro
        have hk0 : 0 ≤ r.k := hkr.1
        have hk9 : r.k ≤ 9 := hkr.2.1
        clear hro hkr
        by_cases hpk : p < r.k
        · have HP := Lib.hid hpk
          go_wp2_with fail
          refine (labInRange_yes r _ HR.out).mono ?_
          rintro e w3 ⟨rfl, hb3⟩
          have hz3 := hb3.size
          simp at hz3
          have hM3 := (HMB.out.alloc _).below hb3 (by simp; omega)
          have hT3 := (BlockIs.new wr 123 #[.int .i64 r.k, .int .i64 r.v]).below hb3 (by simp)
          have z0 := (hM3).cell 0; have z1 := (hM3).cell 1; have z2 := (hM3).cell 2; have z3 := (hM3).cell 3; have z4 := (hM3).cell 4; have z5 := (hM3).cell 5; have z6 := (hM3).cell 6; have z7 := (hM3).cell 7; have z8 := (hM3).cell 8; have z9 := (hM3).cell 9; simp at z0 z1 z2 z3 z4 z5 z6 z7 z8 z9
          have t0 := hT3.cell 0
          have t1 := hT3.cell 1
          simp at t0 t1
          have hw3 : wr.heap.size < w3.heap.size := by omega
          have HM3 := Lib.hid hM3
          have HT3 := Lib.hid hT3
          clear hM3 hT3
          go_wp2_with fail
          refine (with_any m r _ HR.out).mono ?_
          rintro e w4 ⟨rfl, hb4⟩
          have hz4 := hb4.size
          have hM4 := HM3.out.below hb4 (by omega)
          have hT4 := HT3.out.below hb4 (by omega)
          have HM4 := Lib.hid hM4
          clear z0 z1 z2 z3 z4 z5 z6 z7 z8 z9 t0 t1
          have z0 := (hM4).cell 0; have z1 := (hM4).cell 1; have z2 := (hM4).cell 2; have z3 := (hM4).cell 3; have z4 := (hM4).cell 4; have z5 := (hM4).cell 5; have z6 := (hM4).cell 6; have z7 := (hM4).cell 7; have z8 := (hM4).cell 8; have z9 := (hM4).cell 9; simp at z0 z1 z2 z3 z4 z5 z6 z7 z8 z9
          have zf := hM4.frozen
          have t0 := hT4.cell 0
          simp at t0
          have hne : w.heap.size + 1 ≠ wr.heap.size := by omega
          have hB4 : Below w.heap.size w w4 := (by repeat' (first | exact Below.refl _ _ | refine Below.alloc ?_ ?_ _ | refine Below.setCell ?_ ?_ _ | refine Below.drew ?_ | (apply below_step; assumption) | (simp; done) | (simp; omega) | omega))
          have HZ4 := Lib.hid (((HZ.out.alloc _).below hb3 (by simp; omega)).below hb4 (by omega))
          clear hM4 hT4
          go_wp2_with fail
          go_roundw
          case rel =>
            refine ⟨k + 1, r.k, mwith m r, by omega, by go_num, rfl, by omega, by omega, ?_, ?_, ?_, ?_, ?_⟩
            · rw [HF.out, HD.out, labsFrom_yes HR.out HP.out]
            · rw [HM.out, HD.out]; rfl
            · exact below10 (mwith m r) hB4 (by omega)
            · exact far10 (mwith m r) HZ4.out (by omega)
            · exact put10 (mwith m r) HM4.out
          case measure => simp [intOf]; omega
        · have HP := Lib.hid (show r.k ≤ p by omega)
          have hpk' : r.k ≤ p := by omega
          go_wp2_with fail
          refine (labInRange_yes r _ HR.out).mono ?_
          rintro e w3 ⟨rfl, hb3⟩
          have hz3 := hb3.size
          simp at hz3
          have hZ3 := (HZ.out.alloc _).below hb3 (by simp; omega)
          have hT3 := (BlockIs.new wr 123 #[.int .i64 r.k, .int .i64 r.v]).below hb3 (by simp)
          have z0 := (hZ3).cell 0; have z1 := (hZ3).cell 1; have z2 := (hZ3).cell 2; have z3 := (hZ3).cell 3; have z4 := (hZ3).cell 4; have z5 := (hZ3).cell 5; have z6 := (hZ3).cell 6; have z7 := (hZ3).cell 7; have z8 := (hZ3).cell 8; have z9 := (hZ3).cell 9; simp at z0 z1 z2 z3 z4 z5 z6 z7 z8 z9
          have zf := hZ3.frozen
          have t0 := hT3.cell 0
          simp at t0
          have HZ3 := Lib.hid hZ3
          clear hZ3 hT3
          have hB3 : Below w.heap.size w w3 := (by repeat' (first | exact Below.refl _ _ | refine Below.alloc ?_ ?_ _ | refine Below.setCell ?_ ?_ _ | refine Below.drew ?_ | (apply below_step; assumption) | (simp; done) | (simp; omega) | omega))
          go_wp2_with fail
          have HX : Hid (labsOk l = false) := by
            show _ = _
            rw [HO.out, HF.out, HD.out, labsFrom_low HP.out]
          rw [readOf_no HX.out, HX.out]
          have hX : BlockIs ((((((((((w3.setCell ⟨w.heap.size, 0, none⟩ (.int .i64 0)).setCell ⟨w.heap.size, 1, none⟩ (.int .i64 0)).setCell ⟨w.heap.size, 2, none⟩ (.int .i64 0)).setCell ⟨w.heap.size, 3, none⟩ (.int .i64 0)).setCell ⟨w.heap.size, 4, none⟩ (.int .i64 0)).setCell ⟨w.heap.size, 5, none⟩ (.int .i64 0)).setCell ⟨w.heap.size, 6, none⟩ (.int .i64 0)).setCell ⟨w.heap.size, 7, none⟩ (.int .i64 0)).setCell ⟨w.heap.size, 8, none⟩ (.int .i64 0)).setCell ⟨w.heap.size, 9, none⟩ (.int .i64 0)) w.heap.size 141 #[.int .i64 (mzero 0), .int .i64 (mzero 1), .int .i64 (mzero 2), .int .i64 (mzero 3), .int .i64 (mzero 4), .int .i64 (mzero 5), .int .i64 (mzero 6), .int .i64 (mzero 7), .int .i64 (mzero 8), .int .i64 (mzero 9)] := put10 mzero HZ3.out
          have hBX : Below w.heap.size w ((((((((((w3.setCell ⟨w.heap.size, 0, none⟩ (.int .i64 0)).setCell ⟨w.heap.size, 1, none⟩ (.int .i64 0)).setCell ⟨w.heap.size, 2, none⟩ (.int .i64 0)).setCell ⟨w.heap.size, 3, none⟩ (.int .i64 0)).setCell ⟨w.heap.size, 4, none⟩ (.int .i64 0)).setCell ⟨w.heap.size, 5, none⟩ (.int .i64 0)).setCell ⟨w.heap.size, 6, none⟩ (.int .i64 0)).setCell ⟨w.heap.size, 7, none⟩ (.int .i64 0)).setCell ⟨w.heap.size, 8, none⟩ (.int .i64 0)).setCell ⟨w.heap.size, 9, none⟩ (.int .i64 0)) := below10 mzero hB3 (Nat.le_refl _)
          generalize ((((((((((w3.setCell ⟨w.heap.size, 0, none⟩ (.int .i64 0)).setCell ⟨w.heap.size, 1, none⟩ (.int .i64 0)).setCell ⟨w.heap.size, 2, none⟩ (.int .i64 0)).setCell ⟨w.heap.size, 3, none⟩ (.int .i64 0)).setCell ⟨w.heap.size, 4, none⟩ (.int .i64 0)).setCell ⟨w.heap.size, 5, none⟩ (.int .i64 0)).setCell ⟨w.heap.size, 6, none⟩ (.int .i64 0)).setCell ⟨w.heap.size, 7, none⟩ (.int .i64 0)).setCell ⟨w.heap.size, 8, none⟩ (.int .i64 0)).setCell ⟨w.heap.size, 9, none⟩ (.int .i64 0)) = X at hX hBX ⊢
          clear z0 z1 z2 z3 z4 z5 z6 z7 z8 z9
          have z0 := (hX).cell 0; have z1 := (hX).cell 1; have z2 := (hX).cell 2; have z3 := (hX).cell 3; have z4 := (hX).cell 4; have z5 := (hX).cell 5; have z6 := (hX).cell 6; have z7 := (hX).cell 7; have z8 := (hX).cell 8; have z9 := (hX).cell 9; simp at z0 z1 z2 z3 z4 z5 z6 z7 z8 z9
          refine bodyPost_ret (v := .tuple #[.agg #[.int .i64 (mzero 0), .int .i64 (mzero 1), .int .i64 (mzero 2), .int .i64 (mzero 3), .int .i64 (mzero 4), .int .i64 (mzero 5), .int .i64 (mzero 6), .int .i64 (mzero 7), .int .i64 (mzero 8), .int .i64 (mzero 9)], .bool false]) (by simp [results, Tryz.results101, go_sem, z0, z1, z2, z3, z4, z5, z6, z7, z8, z9]) rfl ⟨rfl, hBX⟩
    · have hkl : k = l.length := by omega
      have HF' : Hid (labsOk l = true) := by
        show _ = _
        rw [HO.out, HF.out, hkl, List.drop_length]; rfl
      have HM' : Hid (marksOf mzero l = m) := by
        show _ = _
        rw [HM.out, hkl, List.drop_length]; rfl
      clear hkl
      have z0 := (hz).cell 0; have z1 := (hz).cell 1; have z2 := (hz).cell 2; have z3 := (hz).cell 3; have z4 := (hz).cell 4; have z5 := (hz).cell 5; have z6 := (hz).cell 6; have z7 := (hz).cell 7; have z8 := (hz).cell 8; have z9 := (hz).cell 9; simp at z0 z1 z2 z3 z4 z5 z6 z7 z8 z9
      have y0 := (hm).cell 0; have y1 := (hm).cell 1; have y2 := (hm).cell 2; have y3 := (hm).cell 3; have y4 := (hm).cell 4; have y5 := (hm).cell 5; have y6 := (hm).cell 6; have y7 := (hm).cell 7; have y8 := (hm).cell 8; have y9 := (hm).cell 9; simp at y0 y1 y2 y3 y4 y5 y6 y7 y8 y9
      have zf := hz.frozen
      clear hz hm
      go_wp2_with fail
      rw [readOf_yes HF'.out, HF'.out, HM'.out]
      have hX : BlockIs ((((((((((wr.setCell ⟨w.heap.size, 0, none⟩ (.int .i64 (m 0))).setCell ⟨w.heap.size, 1, none⟩ (.int .i64 (m 1))).setCell ⟨w.heap.size, 2, none⟩ (.int .i64 (m 2))).setCell ⟨w.heap.size, 3, none⟩ (.int .i64 (m 3))).setCell ⟨w.heap.size, 4, none⟩ (.int .i64 (m 4))).setCell ⟨w.heap.size, 5, none⟩ (.int .i64 (m 5))).setCell ⟨w.heap.size, 6, none⟩ (.int .i64 (m 6))).setCell ⟨w.heap.size, 7, none⟩ (.int .i64 (m 7))).setCell ⟨w.heap.size, 8, none⟩ (.int .i64 (m 8))).setCell ⟨w.heap.size, 9, none⟩ (.int .i64 (m 9))) w.heap.size 141 #[.int .i64 (m 0), .int .i64 (m 1), .int .i64 (m 2), .int .i64 (m 3), .int .i64 (m 4), .int .i64 (m 5), .int .i64 (m 6), .int .i64 (m 7), .int .i64 (m 8), .int .i64 (m 9)] := put10 m HZ.out
      have hBX : Below w.heap.size w ((((((((((wr.setCell ⟨w.heap.size, 0, none⟩ (.int .i64 (m 0))).setCell ⟨w.heap.size, 1, none⟩ (.int .i64 (m 1))).setCell ⟨w.heap.size, 2, none⟩ (.int .i64 (m 2))).setCell ⟨w.heap.size, 3, none⟩ (.int .i64 (m 3))).setCell ⟨w.heap.size, 4, none⟩ (.int .i64 (m 4))).setCell ⟨w.heap.size, 5, none⟩ (.int .i64 (m 5))).setCell ⟨w.heap.size, 6, none⟩ (.int .i64 (m 6))).setCell ⟨w.heap.size, 7, none⟩ (.int .i64 (m 7))).setCell ⟨w.heap.size, 8, none⟩ (.int .i64 (m 8))).setCell ⟨w.heap.size, 9, none⟩ (.int .i64 (m 9))) := below10 m hB (Nat.le_refl _)
      generalize ((((((((((wr.setCell ⟨w.heap.size, 0, none⟩ (.int .i64 (m 0))).setCell ⟨w.heap.size, 1, none⟩ (.int .i64 (m 1))).setCell ⟨w.heap.size, 2, none⟩ (.int .i64 (m 2))).setCell ⟨w.heap.size, 3, none⟩ (.int .i64 (m 3))).setCell ⟨w.heap.size, 4, none⟩ (.int .i64 (m 4))).setCell ⟨w.heap.size, 5, none⟩ (.int .i64 (m 5))).setCell ⟨w.heap.size, 6, none⟩ (.int .i64 (m 6))).setCell ⟨w.heap.size, 7, none⟩ (.int .i64 (m 7))).setCell ⟨w.heap.size, 8, none⟩ (.int .i64 (m 8))).setCell ⟨w.heap.size, 9, none⟩ (.int .i64 (m 9))) = X at hX hBX ⊢
      clear z0 z1 z2 z3 z4 z5 z6 z7 z8 z9
      have z0 := (hX).cell 0; have z1 := (hX).cell 1; have z2 := (hX).cell 2; have z3 := (hX).cell 3; have z4 := (hX).cell 4; have z5 := (hX).cell 5; have z6 := (hX).cell 6; have z7 := (hX).cell 7; have z8 := (hX).cell 8; have z9 := (hX).cell 9; simp at z0 z1 z2 z3 z4 z5 z6 z7 z8 z9
      refine bodyPost_ret (v := .tuple #[.agg #[.int .i64 (m 0), .int .i64 (m 1), .int .i64 (m 2), .int .i64 (m 3), .int .i64 (m 4), .int .i64 (m 5), .int .i64 (m 6), .int .i64 (m 7), .int .i64 (m 8), .int .i64 (m 9)], .bool true]) (by simp [results, Tryz.results101, go_sem, z0, z1, z2, z3, z4, z5, z6, z7, z8, z9]) rfl ⟨rfl, hBX⟩

theorem readLabs_any (v : Value) (l : List LV) (w : World) (hv : LabSl w v l) (hlen : l.length ≤ 1048576) :
    Calls Tryz.prog 101 #[v] w (RetM (readOf l) (labsOk l) w) := by
  by_cases h : l.length ≤ 6
  · exact readLabs_short v l w hv h
  · obtain ⟨A, c, rfl, _⟩ := hv.form
    rw [readOf_no (labsOk_long (by omega)), labsOk_long (by omega)]
    exact readLabs_long A l.length c w (by omega) hlen
end Go.Proofs.YtkaecjjbammphaaGreatDoor

namespace Go.Proofs.YtkaecjjbammphaaGreatDoor
open Go.ChangeShapes Go.WideShapes Go.ChangeAt Go.RowKit Go.Joins

theorem Tryz.cellsLab : Tryz.prog.cellsOf 125 = 2 := by kernel_rfl

section
variable {H : Type} {enc : TypeId × Value → H} {W : World}
set_option maxRecDepth 100000 in
theorem open_labC {fuel : Nat} {v : Value} {x : DataW H × List MemPlace} (h : DataW.trod enc Tryz.prog W 0 (fun _ => true) true fuel 65 [v] = some x) :
    ∃ A n c, v = .slice A n c ∧ n ≤ maxLen ∧ ∃ l : List LV, l.length = n ∧ LabSl W v l := by
  rcases Go.Deep.open_slice Tryz.underlying65 h with ⟨hcs, _⟩ | ⟨a, n, cap, m, n', D, Pl, hcs, hb, hl, hm, hmm, hx, hi⟩
  · simp at hcs
    subst hcs
    exact ⟨none, 0, 0, rfl, by unfold maxLen; omega, [], rfl, .inl ⟨rfl, _, _, rfl⟩⟩
  · simp at hcs
    subst hcs
    rw [if_pos rfl] at hmm
    subst hmm
    have hel : ∀ i, i < n → ∃ r : LV, W.cell? (a.add (i * 2)) = some (.int .i64 r.k) ∧ W.cell? (a.add (i * 2 + 1)) = some (.int .i64 r.v) := by
      intro i hin
      obtain ⟨cs', hc, ht⟩ := hi i (by omega)
      rw [Tryz.cellsLab] at hc
      obtain ⟨y0, y1, k, _, hlen, g0, g1⟩ := trod_struct2 Tryz.underlying125 ht
      rw [Tryz.cellsLab] at hlen
      obtain ⟨_, _, hat⟩ := World.cells?_some hc
      match cs', hlen with
      | [c0, c1], _ =>
        obtain ⟨r0, e0, _, _⟩ := DataW.trod_int Tryz.underlying3 g0
        obtain ⟨r1, e1, _, _⟩ := DataW.trod_int Tryz.underlying3 g1
        have k3 : Tryz.prog.cellsOf 3 = 1 := by kernel_rfl
        simp [k3] at e0 e1
        subst e0 e1
        have a0 := hat 0 (by omega)
        have a1 := hat 1 (by omega)
        rw [Go.Deep.add_add] at a0 a1
        exact ⟨⟨r0, r1⟩, by simpa using a0, by simpa using a1⟩
    obtain ⟨f, hf⟩ : ∃ f : Nat → LV, ∀ i, i < n → W.cell? (a.add (i * 2)) = some (.int .i64 (f i).k) ∧ W.cell? (a.add (i * 2 + 1)) = some (.int .i64 (f i).v) := by
      classical
      refine ⟨fun i => if hi : i < n then Classical.choose (hel i hi) else ⟨0, 0⟩, fun i hi => ?_⟩
      simp only [dif_pos hi]
      exact Classical.choose_spec (hel i hi)
    refine ⟨_, n, _, rfl, by omega, (List.range n).map f, by simp, ?_⟩
    rcases Nat.eq_zero_or_pos n with rfl | hp
    · exact .inl ⟨rfl, _, _, rfl⟩
    · obtain ⟨b, off, spot⟩ := a
      have h0 := (hf 0 hp).1
      have hspot : spot = none := by simpa [Addr.add] using World.cell?_spot h0
      subst hspot
      have hlt := World.block_lt_of_cell? _ _ h0
      refine .inr ⟨b, off, m, by simp, by simpa [Addr.add] using hlt, fun i r hr => ?_⟩
      have hi : i < n := by
        have := (List.getElem?_eq_some_iff.1 hr).1
        simpa using this
      have hri : f i = r := by simpa [hi] using hr
      obtain ⟨h1, h2⟩ := hf i hi
      rw [hri] at h1 h2
      rw [add_plain] at h1 h2
      exact ⟨h1, h2⟩
end
end Go.Proofs.YtkaecjjbammphaaGreatDoor

namespace Go.Proofs.YtkaecjjbammphaaGreatDoor
open Go.RowKit

theorem szLabS_yes (A : Option Addr) (n c : Nat) (z : Int) (w : World) (hz : z ≤ 1048576) (h : (n : Int) ≤ z) :
    Calls Tryz.prog 54 #[.slice A n c, .int .i64 z] w fun e w' => e = .returned (.int .i64 (z - n)) ∧ w = w' := by
  go_enter Tryz.func54, Tryz.ntmps54
  go_wp2
  go_ret
  exact ⟨rfl, rfl⟩
theorem szLabS_no (A : Option Addr) (n c : Nat) (z : Int) (w : World) (h0 : 0 ≤ z) (h : z < n) (hm : n ≤ maxLen) :
    Calls Tryz.prog 54 #[.slice A n c, .int .i64 z] w fun e w' => e = .returned (.int .i64 (-1)) ∧ w = w' := by
  unfold maxLen at hm
  go_enter Tryz.func54, Tryz.ntmps54
  go_wp2
  go_ret
  exact ⟨rfl, rfl⟩

theorem toLab_any (r : LV) (w : World) :
    Calls Tryz.prog 82 #[.agg #[.int .i64 r.k, .int .i64 r.v]] w fun e w' => e = .returned (.agg #[.int .i64 r.k, .int .i64 r.v]) ∧ Below w.heap.size w w' := by
  go_enter Tryz.func82, Tryz.ntmps82
  go_wp2
  exact bodyPost_ret (v := .agg #[.int .i64 r.k, .int .i64 r.v]) (by simp [results, Tryz.results82, go_sem]) rfl ⟨rfl, (by repeat' (first | exact Below.refl _ _ | refine Below.alloc ?_ ?_ _ | refine Below.setCell ?_ ?_ _ | refine Below.drew ?_ | (apply below_step; assumption) | (simp; done) | (simp; omega) | omega))⟩
theorem eqLab_same (r : LV) (w : World) :
    Calls Tryz.prog 98 #[.agg #[.int .i64 r.k, .int .i64 r.v], .agg #[.int .i64 r.k, .int .i64 r.v]] w fun e w' => e = .returned (.bool true) ∧ Below w.heap.size w w' := by
  have h1 : (r.k != r.k) = false := by simp
  have h2 : (r.v != r.v) = false := by simp
  go_enter Tryz.func98, Tryz.ntmps98
  go_wp2
  go_ret
  exact ⟨rfl, (by repeat' (first | exact Below.refl _ _ | refine Below.alloc ?_ ?_ _ | refine Below.setCell ?_ ?_ _ | refine Below.drew ?_ | (apply below_step; assumption) | (simp; done) | (simp; omega) | omega))⟩

def labL (l : List LV) : List Value := l.flatMap fun x => [.int .i64 x.k, .int .i64 x.v]
theorem labL_len (l : List LV) : (labL l).length = l.length * 2 := by
  induction l with
  | nil => rfl
  | cons x r ih => simp [labL] at ih ⊢; omega
theorem labL_cons (x : LV) (r : List LV) : labL (x :: r) = .int .i64 x.k :: .int .i64 x.v :: labL r := rfl
theorem labL_at {l : List LV} {i : Nat} {x : LV} (h : l[i]? = some x) : (labL l)[i * 2]? = some (.int .i64 x.k) ∧ (labL l)[i * 2 + 1]? = some (.int .i64 x.v) := by
  induction l generalizing i with
  | nil => simp at h
  | cons y r ih =>
    cases i with
    | zero => simp at h; subst h; exact ⟨rfl, rfl⟩
    | succ i =>
      simp at h
      have := ih h
      rw [labL_cons, show (i + 1) * 2 = i * 2 + 1 + 1 by omega]
      simpa using this
theorem labL_ext {l : List LV} {cs : List Value} (hl : cs.length = l.length * 2) (h : ∀ i r, l[i]? = some r → cs[i * 2]? = some (.int .i64 r.k) ∧ cs[i * 2 + 1]? = some (.int .i64 r.v)) : cs = labL l := by
  apply List.ext_getElem?
  intro j
  rcases Nat.lt_or_ge (j / 2) l.length with hj | hj
  · obtain ⟨r, hr⟩ : ∃ r, l[j / 2]? = some r := ⟨_, List.getElem?_eq_getElem hj⟩
    obtain ⟨a1, a2⟩ := h _ _ hr
    obtain ⟨b1, b2⟩ := labL_at hr
    rcases Nat.mod_two_eq_zero_or_one j with e | e
    · have : j / 2 * 2 = j := by omega
      rw [this] at a1 b1; rw [a1, b1]
    · have : j / 2 * 2 + 1 = j := by omega
      rw [this] at a2 b2; rw [a2, b2]
  · rw [List.getElem?_eq_none (by omega), List.getElem?_eq_none (by rw [labL_len]; omega)]
theorem LabAt.of_block {w : World} {g : Nat} {t : TypeId} {l : List LV} {cs : Array Value} (h : BlockIs w g t cs) (hc : ∀ (j : Nat) (u : Value), (labL l)[j]? = some u → cs[j]? = some u) : LabAt w g 0 l := fun i r hr => by
  obtain ⟨h1, h2⟩ := labL_at hr
  simp only [Nat.zero_add]
  exact ⟨(h.cell _).trans (hc _ _ h1), (h.cell _).trans (hc _ _ h2)⟩
theorem LabAt.of_cells {w : World} {g : Nat} {t : TypeId} {l : List LV} (h : BlockIs w g t (labL l).toArray) : LabAt w g 0 l := LabAt.of_block h (fun j u hu => by simpa using hu)

theorem Tryz.infoLab : (Tryz.prog.info? 123).map (fun i => (i.zero, i.size, i.bytes)) = some (some (.agg #[.int .i64 0, .int .i64 0]), 2, 16) := by kernel_rfl
theorem make_lab (n : Nat) (h : n ≤ 1048576) (w : World) : (Instr.makeSlice 49 (.int .i64 (n : Int)) (.int .i64 (n : Int))).run Tryz.prog w = .ok (.slice (some ⟨w.heap.size, 0, none⟩) n n) (w.alloc (.cells (madeCells #[.int .i64 0, .int .i64 0] (n * 2)) 123)) := by
  obtain ⟨i, hi, hzz⟩ := Option.map_eq_some_iff.1 Tryz.infoLab
  simp only [Prod.mk.injEq] at hzz
  obtain ⟨hz, hs, hb⟩ := hzz
  have := run_make (P := Tryz.prog) w 49 123 i _ Tryz.underlying49 hi hz .i64 .i64 n n (by omega) (Int.le_refl _) (by rw [hb]; omega) (by omega)
  rw [this, hs]
  simp [Value.cells]

def CopyLab (w : World) (g : Nat) (l : List LV) (k : Nat) (wr : World) : Prop := ∃ cs : Array Value, BlockIs wr g 123 cs ∧ cs.size = l.length * 2 ∧
  (∀ i r, i < k → l[i]? = some r → cs[i * 2]? = some (.int .i64 r.k) ∧ cs[i * 2 + 1]? = some (.int .i64 r.v)) ∧ Below w.heap.size w wr
theorem CopyLab.put {w : World} {g : Nat} {l : List LV} {k : Nat} {r : LV} {wr : World} {cs : Array Value} (hs : cs.size = l.length * 2) (hr : l[k]? = some r)
    (hc : ∀ i r, i < k → l[i]? = some r → cs[i * 2]? = some (.int .i64 r.k) ∧ cs[i * 2 + 1]? = some (.int .i64 r.v))
    (hb : BlockIs wr g 123 ((cs.setIfInBounds (k * 2) (.int .i64 r.k)).setIfInBounds (k * 2 + 1) (.int .i64 r.v))) (hB : Below w.heap.size w wr) : CopyLab w g l (k + 1) wr := by
  have hk : k < l.length := (List.getElem?_eq_some_iff.1 hr).1
  refine ⟨_, hb, by simp [hs], fun i r' hi hr' => ?_, hB⟩
  by_cases hik : i = k
  · subst hik
    obtain rfl := Option.some.inj (hr.symm.trans hr')
    refine ⟨?_, ?_⟩ <;> simp [Array.getElem?_setIfInBounds, hs] <;> omega
  · obtain ⟨h1, h2⟩ := hc i r' (by omega) hr'
    refine ⟨?_, ?_⟩
    · rw [Array.getElem?_setIfInBounds_ne (by omega), Array.getElem?_setIfInBounds_ne (by omega)]; exact h1
    · rw [Array.getElem?_setIfInBounds_ne (by omega), Array.getElem?_setIfInBounds_ne (by omega)]; exact h2
def NewLab (w : World) (l : List LV) (e : Ending) (w' : World) : Prop := ∃ g, e = .returned (.slice (some ⟨g, 0, none⟩) l.length l.length) ∧ w.heap.size ≤ g ∧ BlockIs w' g 123 (labL l).toArray ∧ Below w.heap.size w w'
theorem CopyLab.done {w wr : World} {g : Nat} {l : List LV} (h : CopyLab w g l l.length wr) : BlockIs wr g 123 (labL l).toArray := by
  obtain ⟨cs, hb, hs, hc, _⟩ := h
  have : cs = (labL l).toArray := by
    rw [← labL_ext (cs := cs.toList) (by simpa using hs) (fun i r hr => by simpa using hc i r (List.getElem?_eq_some_iff.1 hr).1 hr)]
  rw [← this]; exact hb

set_option maxHeartbeats 1600000 in
theorem toLabS_any (v : Value) (l : List LV) (w : World) (hv : LabSl w v l) (hlen : l.length ≤ 1048576) :
    Calls Tryz.prog 63 #[v] w (NewLab w l) := by
  obtain ⟨A, c, rfl, hA⟩ := hv.form
  have HA := Lib.hid hA
  clear hA hv
  have hmk := make_lab l.length hlen
  go_enter Tryz.func63, Tryz.ntmps63
  go_wp2_with fail
  go_loopw [4] (fun s4 wr => ∃ k : Nat, k ≤ l.length ∧ s4 = .int .i64 k ∧ CopyLab w w.heap.size l k wr) (fun s4 _ => (l.length - intOf s4).toNat)
  case atStart =>
    exact ⟨0, by omega, rfl, _, BlockIs.new _ _ _, size_madeCells _ _, fun i r hi => absurd hi (by omega), (by repeat' (first | exact Below.refl _ _ | refine Below.alloc ?_ ?_ _ | refine Below.setCell ?_ ?_ _ | refine Below.drew ?_ | (apply below_step; assumption) | (simp; done) | (simp; omega) | omega))⟩
  case round =>
    obtain ⟨k, hk, rfl, HC⟩ := hrel
    by_cases hlt : k < l.length
    · obtain ⟨b, off, rfl, hbw, hat⟩ := HA.out (by omega)
      obtain ⟨r, hr⟩ : ∃ r, l[k]? = some r := ⟨_, List.getElem?_eq_getElem hlt⟩
      obtain ⟨cs, hblk, hs, hc, hB⟩ := HC
      obtain ⟨q0, q1⟩ := (hat.below hB hbw) k r hr
      have hzr := hB.size
      have hgl := hblk.lt
      have HR := Lib.hid hr
      have HCC := Lib.hid hc
      have HBL := Lib.hid hblk
      have HSZ := Lib.hid hs
      clear hat hr hc hblk hs
      go_wp2_with fail
      refine (toLab_any r _).mono ?_
      rintro e w3 ⟨rfl, hb3⟩
      have hz3 := hb3.size
      have hB3 := HBL.out.below hb3 hgl
      have hs := HSZ.out
      have u0 : w3.cell? ⟨w.heap.size, k * 2, none⟩ = some (cs[k * 2]'(by omega)) := by rw [hB3.cell]; exact Array.getElem?_eq_getElem (by omega)
      have u1 : w3.cell? ⟨w.heap.size, k * 2 + 1, none⟩ = some (cs[k * 2 + 1]'(by omega)) := by rw [hB3.cell]; exact Array.getElem?_eq_getElem (by omega)
      generalize cs[k * 2]'(by omega) = x0 at u0
      generalize cs[k * 2 + 1]'(by omega) = x1 at u1
      have uf := hB3.frozen
      have HB3 := Lib.hid hB3
      clear hs hB3
      go_wp2_with fail
      go_roundw
      case rel =>
        refine ⟨k + 1, by omega, by go_num, CopyLab.put HSZ.out HR.out HCC.out ?_ (by repeat' (first | exact Below.refl _ _ | refine Below.alloc ?_ ?_ _ | refine Below.setCell ?_ ?_ _ | refine Below.drew ?_ | (apply below_step; assumption) | (simp; done) | (simp; omega) | omega))⟩
        exact (HB3.out.put _ _).put _ _
      case measure => simp [intOf]; omega
    · have hkl : k = l.length := by omega
      subst hkl
      have HD := Lib.hid HC.done
      obtain ⟨cs, hblk, hs, hc, hB⟩ := HC
      have hgl := hblk.lt
      clear hblk hs hc
      go_wp2_with fail
      go_ret
      exact ⟨w.heap.size, rfl, Nat.le_refl _, HD.out, hB⟩

theorem four_keep (X : World) {b0 o0 b1 o1 b2 o2 b3 o3 : Nat} {v0 v1 v2 v3 : Value} (h : X.cell? ⟨b0, o0, none⟩ = some v0 ∧ X.cell? ⟨b1, o1, none⟩ = some v1 ∧ X.cell? ⟨b2, o2, none⟩ = some v2 ∧ X.cell? ⟨b3, o3, none⟩ = some v3) : ∀ w' : World, Below X.heap.size X w' → Below X.heap.size X w' ∧ w'.cell? ⟨b0, o0, none⟩ = some v0 ∧ w'.cell? ⟨b1, o1, none⟩ = some v1 ∧ w'.cell? ⟨b2, o2, none⟩ = some v2 ∧ w'.cell? ⟨b3, o3, none⟩ = some v3 := by
  intro w' hb
  obtain ⟨h0, h1, h2, h3⟩ := h
  refine ⟨hb, ?_, ?_, ?_, ?_⟩
  · exact (hb.cell (p := ⟨b0, o0, none⟩) (World.block_lt_of_cell? _ _ h0)).trans h0
  · exact (hb.cell (p := ⟨b1, o1, none⟩) (World.block_lt_of_cell? _ _ h1)).trans h1
  · exact (hb.cell (p := ⟨b2, o2, none⟩) (World.block_lt_of_cell? _ _ h2)).trans h2
  · exact (hb.cell (p := ⟨b3, o3, none⟩) (World.block_lt_of_cell? _ _ h3)).trans h3

set_option maxHeartbeats 1600000 in
theorem eqLabS_same (v1 v2 : Value) (l : List LV) (w : World) (h1 : LabSl w v1 l) (h2 : LabSl w v2 l) (hlen : l.length ≤ 1048576) :
    Calls Tryz.prog 79 #[v1, v2] w fun e w' => e = .returned (.bool true) ∧ Below w.heap.size w w' := by
  obtain ⟨A, c, rfl, hA⟩ := h1.form
  obtain ⟨A2, c2, rfl, hA2⟩ := h2.form
  have HA := Lib.hid hA
  have HA2 := Lib.hid hA2
  clear hA hA2 h1 h2
  have hnn : ((l.length : Int) != (l.length : Int)) = false := by simp
  go_enter Tryz.func79, Tryz.ntmps79
  go_wp2_with fail
  go_loopw [5] (fun s5 wr => ∃ k : Nat, k ≤ l.length ∧ s5 = .int .i64 k ∧ Below w.heap.size w wr) (fun s5 _ => (l.length - intOf s5).toNat)
  case atStart => exact ⟨0, by omega, rfl, Below.refl _ _⟩
  case round =>
    obtain ⟨k, hk, rfl, hB⟩ := hrel
    have hzr := hB.size
    by_cases hlt : k < l.length
    · obtain ⟨b, off, rfl, hbw, hat⟩ := HA.out (by omega)
      obtain ⟨b2, off2, rfl, hbw2, hat2⟩ := HA2.out (by omega)
      obtain ⟨r, hr⟩ : ∃ r, l[k]? = some r := ⟨_, List.getElem?_eq_getElem hlt⟩
      obtain ⟨q0, q1⟩ := (hat.below hB hbw) k r hr
      obtain ⟨p0, p1⟩ := (hat2.below hB hbw2) k r hr
      have HK := Lib.hid (four_keep wr ⟨q0, q1, p0, p1⟩)
      have hlti : (k : Int) < (l.length : Int) := by omega
      have hk0 : (0 : Int) ≤ (k : Int) := by omega
      clear hat hat2 hr
      go_wp2_with fail
      go_region_held3 (fun w' => Below wr.heap.size wr w' ∧ w'.cell? ⟨b, off + k * 2, none⟩ = some (.int .i64 r.k) ∧ w'.cell? ⟨b, off + k * 2 + 1, none⟩ = some (.int .i64 r.v) ∧ w'.cell? ⟨b2, off2 + k * 2, none⟩ = some (.int .i64 r.k) ∧ w'.cell? ⟨b2, off2 + k * 2 + 1, none⟩ = some (.int .i64 r.v))
        (exact HK.out _ (by repeat' (first | exact Below.refl _ _ | refine Below.alloc ?_ ?_ _ | refine Below.setCell ?_ ?_ _ | refine Below.drew ?_ | (apply below_step; assumption) | (simp; done) | (simp; omega) | omega)))
        (first | (go_at_call 98; refine (eqLab_same r _).mono ?_; rintro e w3 ⟨rfl, hb3⟩; have hz3 := hb3.size; try simp at hz3))
      go_wp2_with fail
      go_roundw
      case rel => exact ⟨k + 1, by omega, by go_num, (by repeat' (first | exact Below.refl _ _ | refine Below.alloc ?_ ?_ _ | refine Below.setCell ?_ ?_ _ | refine Below.drew ?_ | (apply below_step; assumption) | (simp; done) | (simp; omega) | omega))⟩
      case measure => simp [intOf]; omega
    · go_wp2_with fail
      go_ret
      exact ⟨rfl, hB⟩
end Go.Proofs.YtkaecjjbammphaaGreatDoor

namespace Go.Proofs.YtkaecjjbammphaaGreatDoor
open Go.RowKit

def IntAt (w : World) (b off : Nat) (l : List Int) : Prop := ∀ i r, l[i]? = some r → w.cell? ⟨b, off + i, none⟩ = some (.int .i64 r)
def IntSl (w : World) (v : Value) (l : List Int) : Prop := (l = [] ∧ ∃ A c, v = .slice A 0 c) ∨ ∃ b off c, v = .slice (some ⟨b, off, none⟩) l.length c ∧ b < w.heap.size ∧ IntAt w b off l
theorem IntAt.below {w w' : World} {b off B : Nat} {l : List Int} (h : IntAt w b off l) (hb : Below B w w') (hB : b < B) : IntAt w' b off l := fun i r hr =>
  (hb.cell (p := ⟨b, _, none⟩) hB).trans (h i r hr)
theorem IntSl.below {w w' : World} {v : Value} {l : List Int} (h : IntSl w v l) (hb : Below w.heap.size w w') : IntSl w' v l := by
  rcases h with h | ⟨b, off, c, rfl, hlt, h⟩
  · exact .inl h
  · exact .inr ⟨b, off, c, rfl, Nat.lt_of_lt_of_le hlt hb.size, h.below hb hlt⟩
theorem IntSl.form {w : World} {v : Value} {l : List Int} (h : IntSl w v l) : ∃ A c, v = .slice A l.length c ∧ (0 < l.length → ∃ b off, A = some ⟨b, off, none⟩ ∧ b < w.heap.size ∧ IntAt w b off l) := by
  rcases h with ⟨rfl, A, c, rfl⟩ | ⟨b, off, c, rfl, hlt, h⟩
  · exact ⟨A, c, rfl, fun h => absurd h (by simp)⟩
  · exact ⟨_, c, rfl, fun _ => ⟨b, off, rfl, hlt, h⟩⟩
theorem dropI_at {l : List Int} {k : Nat} {r : Int} (h : l[k]? = some r) : l.drop k = r :: l.drop (k + 1) := by
  obtain ⟨hk, rfl⟩ := List.getElem?_eq_some_iff.1 h
  exact List.drop_eq_getElem_cons hk
theorem IntAt.of_block {w : World} {g : Nat} {t : TypeId} {l : List Int} {cs : Array Value} (h : BlockIs w g t cs) (hc : ∀ (j : Nat) (r : Int), l[j]? = some r → cs[j]? = some (.int .i64 r)) : IntAt w g 0 l := fun i r hr => by
  simp only [Nat.zero_add]
  exact (h.cell _).trans (hc _ _ hr)

theorem Tryz.infoI : (Tryz.prog.info? 3).map (fun i => (i.zero, i.size, i.bytes)) = some (some (.int .i64 0), 1, 8) := by kernel_rfl
theorem make_int (n : Nat) (h : n ≤ 1048576) (w : World) : (Instr.makeSlice 28 (.int .i64 (n : Int)) (.int .i64 (n : Int))).run Tryz.prog w = .ok (.slice (some ⟨w.heap.size, 0, none⟩) n n) (w.alloc (.cells (madeCells #[.int .i64 0] n) 3)) := by
  obtain ⟨i, hi, hzz⟩ := Option.map_eq_some_iff.1 Tryz.infoI
  simp only [Prod.mk.injEq] at hzz
  obtain ⟨hz, hs, hb⟩ := hzz
  have := run_make (P := Tryz.prog) w 28 3 i _ Tryz.underlying28 hi hz .i64 .i64 n n (by omega) (Int.le_refl _) (by rw [hb]; omega) (by omega)
  rw [this, hs]
  simp [Value.cells]

def CopyInt (w : World) (g : Nat) (l : List Int) (k : Nat) (wr : World) : Prop := ∃ cs : Array Value, BlockIs wr g 3 cs ∧ cs.size = l.length ∧
  (∀ i r, i < k → l[i]? = some r → cs[i]? = some (.int .i64 r)) ∧ Below w.heap.size w wr
theorem CopyInt.put {w : World} {g : Nat} {l : List Int} {k : Nat} {r : Int} {wr : World} {cs : Array Value} (hs : cs.size = l.length) (hr : l[k]? = some r)
    (hc : ∀ i r, i < k → l[i]? = some r → cs[i]? = some (.int .i64 r))
    (hb : BlockIs wr g 3 (cs.setIfInBounds k (.int .i64 r))) (hB : Below w.heap.size w wr) : CopyInt w g l (k + 1) wr := by
  have hk : k < l.length := (List.getElem?_eq_some_iff.1 hr).1
  refine ⟨_, hb, by simp [hs], fun i r' hi hr' => ?_, hB⟩
  by_cases hik : i = k
  · subst hik
    obtain rfl := Option.some.inj (hr.symm.trans hr')
    simp [Array.getElem?_setIfInBounds, hs]; omega
  · rw [Array.getElem?_setIfInBounds_ne (by omega)]; exact hc i r' (by omega) hr'
def NewInt (w : World) (l : List Int) (e : Ending) (w' : World) : Prop := ∃ g, e = .returned (.slice (some ⟨g, 0, none⟩) l.length l.length) ∧ w.heap.size ≤ g ∧ g < w'.heap.size ∧ IntAt w' g 0 l ∧ Below w.heap.size w w'
theorem CopyInt.done {w wr : World} {g : Nat} {l : List Int} (h : CopyInt w g l l.length wr) : IntAt wr g 0 l := by
  obtain ⟨cs, hb, hs, hc, _⟩ := h
  exact IntAt.of_block hb (fun j r hr => hc j r (List.getElem?_eq_some_iff.1 hr).1 hr)

set_option maxHeartbeats 1600000 in
theorem toIntS_any (v : Value) (l : List Int) (w : World) (hv : IntSl w v l) (hlen : l.length ≤ 1048576) :
    Calls Tryz.prog 64 #[v] w (NewInt w l) := by
  obtain ⟨A, c, rfl, hA⟩ := hv.form
  have HA := Lib.hid hA
  clear hA hv
  have hmk := make_int l.length hlen
  go_enter Tryz.func64, Tryz.ntmps64
  go_wp2_with fail
  go_loopw [4] (fun s4 wr => ∃ k : Nat, k ≤ l.length ∧ s4 = .int .i64 k ∧ CopyInt w w.heap.size l k wr) (fun s4 _ => (l.length - intOf s4).toNat)
  case atStart =>
    exact ⟨0, by omega, rfl, _, BlockIs.new _ _ _, by simpa using size_madeCells _ _, fun i r hi => absurd hi (by omega), (by repeat' (first | exact Below.refl _ _ | refine Below.alloc ?_ ?_ _ | refine Below.setCell ?_ ?_ _ | refine Below.drew ?_ | (apply below_step; assumption) | (simp; done) | (simp; omega) | omega))⟩
  case round =>
    obtain ⟨k, hk, rfl, HC⟩ := hrel
    by_cases hlt : k < l.length
    · obtain ⟨b, off, rfl, hbw, hat⟩ := HA.out (by omega)
      obtain ⟨r, hr⟩ : ∃ r, l[k]? = some r := ⟨_, List.getElem?_eq_getElem hlt⟩
      obtain ⟨cs, hblk, hs, hc, hB⟩ := HC
      have q0 := (hat.below hB hbw) k r hr
      have hzr := hB.size
      have hgl := hblk.lt
      have HR := Lib.hid hr
      have HCC := Lib.hid hc
      have HBL := Lib.hid hblk
      have HSZ := Lib.hid hs
      have u0 : wr.cell? ⟨w.heap.size, k, none⟩ = some (cs[k]'(by omega)) := by rw [hblk.cell]; exact Array.getElem?_eq_getElem (by omega)
      generalize cs[k]'(by omega) = x0 at u0
      have uf := hblk.frozen
      clear hat hr hc hblk hs
      go_wp2_with fail
      go_roundw
      case rel =>
        refine ⟨k + 1, by omega, by go_num, CopyInt.put HSZ.out HR.out HCC.out ?_ (by repeat' (first | exact Below.refl _ _ | refine Below.alloc ?_ ?_ _ | refine Below.setCell ?_ ?_ _ | refine Below.drew ?_ | (apply below_step; assumption) | (simp; done) | (simp; omega) | omega))⟩
        exact HBL.out.put _ _
      case measure => simp [intOf]; omega
    · have hkl : k = l.length := by omega
      subst hkl
      have HD := Lib.hid HC.done
      obtain ⟨cs, hblk, hs, hc, hB⟩ := HC
      have hgl := hblk.lt
      clear hblk hs hc
      go_wp2_with fail
      go_ret
      exact ⟨w.heap.size, rfl, Nat.le_refl _, hgl, HD.out, hB⟩

set_option maxHeartbeats 1600000 in
theorem eqIntS_same (v1 v2 : Value) (l : List Int) (w : World) (h1 : IntSl w v1 l) (h2 : IntSl w v2 l) (hlen : l.length ≤ 1048576) :
    Calls Tryz.prog 8 #[v1, v2] w fun e w' => e = .returned (.bool true) ∧ Below w.heap.size w w' := by
  obtain ⟨A, c, rfl, hA⟩ := h1.form
  obtain ⟨A2, c2, rfl, hA2⟩ := h2.form
  have HA := Lib.hid hA
  have HA2 := Lib.hid hA2
  clear hA hA2 h1 h2
  have hnn : ((l.length : Int) != (l.length : Int)) = false := by simp
  go_enter Tryz.func8, Tryz.ntmps8
  go_wp2_with fail
  go_loopw [5] (fun s5 wr => ∃ k : Nat, k ≤ l.length ∧ s5 = .int .i64 k ∧ Below w.heap.size w wr) (fun s5 _ => (l.length - intOf s5).toNat)
  case atStart => exact ⟨0, by omega, rfl, Below.refl _ _⟩
  case round =>
    obtain ⟨k, hk, rfl, hB⟩ := hrel
    have hzr := hB.size
    by_cases hlt : k < l.length
    · obtain ⟨b, off, rfl, hbw, hat⟩ := HA.out (by omega)
      obtain ⟨b2, off2, rfl, hbw2, hat2⟩ := HA2.out (by omega)
      obtain ⟨r, hr⟩ : ∃ r, l[k]? = some r := ⟨_, List.getElem?_eq_getElem hlt⟩
      have q0 := (hat.below hB hbw) k r hr
      have p0 := (hat2.below hB hbw2) k r hr
      have hlti : (k : Int) < (l.length : Int) := by omega
      have hk0 : (0 : Int) ≤ (k : Int) := by omega
      have hrr : (r != r) = false := by simp
      clear hat hat2 hr
      go_wp2_with fail
      go_quiet (fail)
      go_wp2_with fail
      go_roundw
      case rel => exact ⟨k + 1, by omega, by go_num, below_drewN hB _⟩
      case measure => simp [intOf]; omega
    · go_wp2_with fail
      go_ret
      exact ⟨rfl, hB⟩

end Go.Proofs.YtkaecjjbammphaaGreatDoor

namespace Go.Proofs.YtkaecjjbammphaaGreatDoor
open Go.ChangeShapes Go.WideShapes Go.ChangeAt Go.RowKit Go.Joins

section
variable {H : Type} {enc : TypeId × Value → H} {W : World}
set_option maxRecDepth 100000 in
theorem open_intC {fuel : Nat} {v : Value} {x : DataW H × List MemPlace} (hf : DataW.trod enc Tryz.prog W 0 (fun _ => true) true fuel 28 [v] = some x) :
    ∃ A n c, v = .slice A n c ∧ n ≤ maxLen ∧ ∃ l : List Int, l.length = n ∧ IntSl W v l := by
  have cb : Tryz.prog.cellsOf 3 = 1 := by kernel_rfl
  rcases open_ints Tryz.underlying28 Tryz.underlying3 cb hf with ⟨hcs, hx⟩ | ⟨a, n, c, zs, hcs, _, hl, hm, hz, hx, hcell, hwz⟩
  · simp at hcs
    subst hcs
    exact ⟨none, 0, 0, rfl, by unfold maxLen; omega, [], rfl, .inl ⟨rfl, _, _, rfl⟩⟩
  · simp at hcs
    subst hcs
    rw [if_pos rfl] at hz
    refine ⟨_, n, c, rfl, by omega, zs.take n, by rw [List.length_take]; omega, ?_⟩
    rcases Nat.eq_zero_or_pos n with rfl | hp
    · exact .inl ⟨by simp, _, _, rfl⟩
    · obtain ⟨b, off, rfl, hc⟩ := ints_at hcell (by omega)
      refine .inr ⟨b, off, c, by rw [List.length_take, Nat.min_eq_left (by omega)], by simpa using World.block_lt_of_cell? _ _ (hc 0 (by omega)), fun i r hr => ?_⟩
      have hi : i < n := by
        have := (List.getElem?_eq_some_iff.1 hr).1
        rw [List.length_take] at this; omega
      rw [List.getElem?_take_of_lt hi] at hr
      have := hc i (by omega)
      rw [List.getD, hr] at this
      simpa using this
end
end Go.Proofs.YtkaecjjbammphaaGreatDoor

namespace Go.Proofs.YtkaecjjbammphaaGreatDoor

structure RV where
  c : Int
  m : Int
  p : Int

def RV.ok (r : RV) : Bool := decide (0 ≤ r.c ∧ r.c ≤ 1000000 ∧ 0 ≤ r.m ∧ r.m ≤ 1000000 ∧ 0 ≤ r.p ∧ r.p ≤ 1000000)
theorem RV.ok_iff {r : RV} : r.ok = true ↔ (0 ≤ r.c ∧ r.c ≤ 1000000 ∧ 0 ≤ r.m ∧ r.m ≤ 1000000 ∧ 0 ≤ r.p ∧ r.p ≤ 1000000) := by
  unfold RV.ok; exact decide_eq_true_iff
theorem RV.bad_iff {r : RV} : r.ok = false ↔ ¬ (0 ≤ r.c ∧ r.c ≤ 1000000 ∧ 0 ≤ r.m ∧ r.m ≤ 1000000 ∧ 0 ≤ r.p ∧ r.p ≤ 1000000) := by
  unfold RV.ok; exact decide_eq_false_iff_not
def RV.zero : RV := ⟨0, 0, 0⟩
def RV.add (a b : RV) : RV := ⟨a.c + b.c, a.m + b.m, a.p + b.p⟩
def RV.sub (a b : RV) : RV := ⟨a.c - b.c, a.m - b.m, a.p - b.p⟩

def RV.kept (r : RV) : RV := if r.ok then r else RV.zero
theorem RV.kept_yes {r : RV} (h : r.ok = true) : r.kept = r := by unfold RV.kept; rw [if_pos h]
theorem RV.kept_no {r : RV} (h : r.ok = false) : r.kept = RV.zero := by unfold RV.kept; rw [if_neg (by rw [h]; decide)]
def resAddOk (a b : RV) : Bool := a.ok && b.ok && (a.add b).ok
def resAdd (a b : RV) : RV := if resAddOk a b then a.add b else RV.zero
def resSubOk (a b : RV) : Bool := a.ok && b.ok && (a.sub b).ok
def resSub (a b : RV) : RV := if resSubOk a b then a.sub b else RV.zero
theorem resAdd_in {a b : RV} (ha : a.ok = true) (hb : b.ok = true) : resAdd a b = (a.add b).kept ∧ resAddOk a b = (a.add b).ok := by
  unfold resAdd resAddOk RV.kept; simp [ha, hb]
theorem resAdd_out {a b : RV} (h : a.ok = false ∨ b.ok = false) : resAdd a b = RV.zero ∧ resAddOk a b = false := by
  unfold resAdd resAddOk; rcases h with h | h <;> simp [h]
theorem resSub_in {a b : RV} (ha : a.ok = true) (hb : b.ok = true) : resSub a b = (a.sub b).kept ∧ resSubOk a b = (a.sub b).ok := by
  unfold resSub resSubOk RV.kept; simp [ha, hb]
theorem resSub_out {a b : RV} (h : a.ok = false ∨ b.ok = false) : resSub a b = RV.zero ∧ resSubOk a b = false := by
  unfold resSub resSubOk; rcases h with h | h <;> simp [h]
theorem resSubOk_in {a b : RV} (ha : a.ok = true) (hb : b.ok = true) : resSubOk b a = true ↔ (a.c ≤ b.c ∧ a.m ≤ b.m ∧ a.p ≤ b.p) := by
  have hA := RV.ok_iff.1 ha
  have hB := RV.ok_iff.1 hb
  rw [(resSub_in hb ha).2, RV.ok_iff]
  unfold RV.sub
  dsimp only
  omega
def RetR (r : RV) (b : Bool) (w : World) (e : Ending) (w' : World) : Prop := e = .returned (.tuple #[.agg #[.int .i64 r.c, .int .i64 r.m, .int .i64 r.p], .bool b]) ∧ Go.RowKit.Below w.heap.size w w'
theorem RetR.of {r r' : RV} {b b' : Bool} {w : World} (hr : r' = r) (hb : b' = b) : RetR r b w = RetR r' b' w := by rw [hr, hb]
end Go.Proofs.YtkaecjjbammphaaGreatDoor

namespace Go.Proofs.YtkaecjjbammphaaGreatDoor
def sumGo : RV → List RV → RV × Bool
  | s, [] => (s, true)
  | s, r :: l => if resAddOk s r then sumGo (resAdd s r) l else (RV.zero, false)
theorem sumGo_cons_yes {s r : RV} {l : List RV} (h : resAddOk s r = true) : sumGo s (r :: l) = sumGo (resAdd s r) l := by
  rw [sumGo, if_pos h]
theorem sumGo_cons_no {s r : RV} {l : List RV} (h : resAddOk s r = false) : sumGo s (r :: l) = (RV.zero, false) := by
  rw [sumGo, if_neg (by rw [h]; decide)]
end Go.Proofs.YtkaecjjbammphaaGreatDoor

namespace Go.Proofs.YtkaecjjbammphaaGreatDoor

structure TV where
  id : Int
  prio : Int
  need : RV
  want : List LV
  tols : List Int
structure NV where
  id : Int
  pool : Int
  cap : RV
  labs : List LV
  taints : List Int
  cordon : Bool
structure BV where
  task : Int
  node : Int
structure CV where
  tasks : List TV
  nodes : List NV
  binds : List BV
def TV.zero : TV := ⟨0, 0, RV.zero, [], []⟩
def NV.zero : NV := ⟨0, 0, RV.zero, [], [], false⟩
def BV.zero : BV := ⟨0, 0⟩
def CV.zero : CV := ⟨[], [], []⟩

def idOk (n : Int) : Bool := decide (1 ≤ n ∧ n ≤ 99)
theorem idOk_iff {n : Int} : idOk n = true ↔ 1 ≤ n ∧ n ≤ 99 := by unfold idOk; exact decide_eq_true_iff
theorem idBad_iff {n : Int} : idOk n = false ↔ ¬ (1 ≤ n ∧ n ≤ 99) := by unfold idOk; exact decide_eq_false_iff_not
def TV.ok (t : TV) : Bool := idOk t.id && decide (0 ≤ t.prio) && decide (t.prio ≤ 9) && t.need.ok && labsOk t.want && labsOk (tl t.tols)
def NV.ok (n : NV) : Bool := idOk n.id && decide (0 ≤ n.pool) && decide (n.pool < 5) && n.cap.ok && labsOk n.labs && labsOk (tl n.taints)
theorem TV.ok_id {t : TV} (h : t.ok = true) : 1 ≤ t.id ∧ t.id ≤ 99 := by
  simp only [TV.ok, Bool.and_eq_true] at h; exact idOk_iff.1 h.1.1.1.1.1
theorem NV.ok_id {n : NV} (h : n.ok = true) : 1 ≤ n.id ∧ n.id ≤ 99 := by
  simp only [NV.ok, Bool.and_eq_true] at h; exact idOk_iff.1 h.1.1.1.1.1
def hosts (n : NV) (t : TV) : Bool := matchOf n.labs t.want && tolOf n.taints t.tols
def canHost (n : NV) (t : TV) : Bool := n.ok && t.ok && hosts n t

def fstBy {α : Type} (key : α → Int) : List α → Int → Option α
  | [], _ => none
  | x :: r, z => if key x = z then some x else fstBy key r z
def idxGo {α : Type} (key : α → Int) : Int → List α → Int → Int
  | _, [], _ => -1
  | k, x :: r, z => if key x = z then k else idxGo key (k + 1) r z
def idxBy {α : Type} (key : α → Int) (l : List α) (z : Int) : Int := idxGo key 0 l z
section
variable {α : Type} {key : α → Int} {l : List α} {z : Int}
theorem fstBy_hit {x : α} {r : List α} (h : key x = z) : fstBy key (x :: r) z = some x := by rw [fstBy, if_pos h]
theorem fstBy_miss {x : α} {r : List α} (h : key x ≠ z) : fstBy key (x :: r) z = fstBy key r z := by rw [fstBy, if_neg h]
theorem idxGo_hit {k : Int} {x : α} {r : List α} (h : key x = z) : idxGo key k (x :: r) z = k := by rw [idxGo, if_pos h]
theorem idxGo_miss {k : Int} {x : α} {r : List α} (h : key x ≠ z) : idxGo key k (x :: r) z = idxGo key (k + 1) r z := by rw [idxGo, if_neg h]
theorem idxGo_none (k : Int) (h : fstBy key l z = none) : idxGo key k l z = -1 := by
  induction l generalizing k with
  | nil => rfl
  | cons x r ih =>
    by_cases e : key x = z
    · rw [fstBy_hit e] at h; cases h
    · rw [fstBy_miss e] at h; rw [idxGo_miss e]; exact ih _ h
theorem idxGo_some (k : Int) {x : α} (h : fstBy key l z = some x) : ∃ j : Nat, idxGo key k l z = k + j ∧ l[j]? = some x ∧ key x = z ∧ ∀ i y, i < j → l[i]? = some y → key y ≠ z := by
  induction l generalizing k with
  | nil => cases h
  | cons y r ih =>
    by_cases e : key y = z
    · rw [fstBy_hit e] at h
      obtain rfl := Option.some.inj h
      exact ⟨0, by rw [idxGo_hit e]; simp, rfl, e, fun i _ hi => absurd hi (by omega)⟩
    · rw [fstBy_miss e] at h
      obtain ⟨j, h1, h2, h3, h4⟩ := ih (k + 1) h
      refine ⟨j + 1, by rw [idxGo_miss e, h1]; omega, by simpa using h2, h3, fun i y' hi hy => ?_⟩
      cases i with
      | zero => simp at hy; subst hy; exact e
      | succ i => exact h4 i y' (by omega) (by simpa using hy)
theorem idxBy_none (h : fstBy key l z = none) : idxBy key l z = -1 := idxGo_none 0 h
theorem idxBy_some {x : α} (h : fstBy key l z = some x) : ∃ j : Nat, idxBy key l z = j ∧ l[j]? = some x ∧ key x = z ∧ ∀ i y, i < j → l[i]? = some y → key y ≠ z := by
  obtain ⟨j, h1, h2⟩ := idxGo_some 0 h
  exact ⟨j, by unfold idxBy; rw [h1]; omega, h2⟩
theorem fstBy_key {x : α} (h : fstBy key l z = some x) : key x = z := (idxBy_some h).choose_spec.2.2.1
theorem fstBy_none : fstBy key l z = none ↔ ∀ x ∈ l, key x ≠ z := by
  induction l with
  | nil => simp [fstBy]
  | cons x r ih =>
    by_cases e : key x = z
    · rw [fstBy_hit e]; simp [e]
    · rw [fstBy_miss e, ih]; simp [e]
theorem fstBy_isSome : (∃ x ∈ l, key x = z) → ∃ x, fstBy key l z = some x := by
  rintro ⟨x, hx, e⟩
  cases h : fstBy key l z with
  | none => exact absurd e (fstBy_none.1 h x hx)
  | some y => exact ⟨y, rfl⟩
theorem idxBy_at {k : Nat} {x : α} (h : l[k]? = some x) : idxBy key l (key x) = k ↔ ∀ y ∈ l.take k, key y ≠ key x := by
  obtain ⟨y, hy⟩ := fstBy_isSome (key := key) ⟨x, List.mem_of_getElem? h, rfl⟩
  obtain ⟨j, e, h2, h3, h4⟩ := idxBy_some hy
  have hj : j < l.length := (List.getElem?_eq_some_iff.1 h2).1
  rw [e]
  constructor
  · intro hjk y' hy'
    obtain ⟨i, hi⟩ := List.mem_iff_getElem?.1 hy'
    have hik : i < k := by
      have := (List.getElem?_eq_some_iff.1 hi).1
      rw [List.length_take] at this; omega
    rw [List.getElem?_take_of_lt hik] at hi
    exact h4 i y' (by omega) hi
  · intro hall
    rcases Nat.lt_trichotomy j k with hlt | heq | hgt
    · exact absurd h3 (hall y (List.mem_iff_getElem?.2 ⟨j, by rw [List.getElem?_take_of_lt hlt]; exact h2⟩))
    · omega
    · exact absurd rfl (h4 k x hgt h)
end

def tasksFrom : List Int → List TV → Bool
  | _, [] => true
  | s, t :: r => t.ok && !(s.contains t.id) && tasksFrom (t.id :: s) r
def nodesFrom : Int → List NV → Bool
  | _, [] => true
  | p, n :: r => n.ok && decide (p < n.id) && nodesFrom n.id r
def bindOk (c : CV) (b : BV) : Bool :=
  match fstBy TV.id c.tasks b.task, fstBy NV.id c.nodes b.node with
  | some t, some n => canHost n t
  | _, _ => false
def bindsFrom (c : CV) : Int → List BV → Bool
  | _, [] => true
  | p, b :: r => decide (p < b.task) && bindOk c b && bindsFrom c b.task r
theorem tasksFrom_yes {s : List Int} {t : TV} {r : List TV} (h : t.ok = true) (hs : s.contains t.id = false) : tasksFrom s (t :: r) = tasksFrom (t.id :: s) r := by
  simp only [tasksFrom, h, hs]; rfl
theorem tasksFrom_bad {s : List Int} {t : TV} {r : List TV} (h : t.ok = false) : tasksFrom s (t :: r) = false := by simp [tasksFrom, h]
theorem tasksFrom_twice {s : List Int} {t : TV} {r : List TV} (h : s.contains t.id = true) : tasksFrom s (t :: r) = false := by simp only [tasksFrom, h]; simp
theorem nodesFrom_yes {p : Int} {n : NV} {r : List NV} (h : n.ok = true) (hp : p < n.id) : nodesFrom p (n :: r) = nodesFrom n.id r := by simp [nodesFrom, h, hp]
theorem nodesFrom_bad {p : Int} {n : NV} {r : List NV} (h : n.ok = false) : nodesFrom p (n :: r) = false := by simp [nodesFrom, h]
theorem nodesFrom_low {p : Int} {n : NV} {r : List NV} (h : n.id ≤ p) : nodesFrom p (n :: r) = false := by
  have : ¬ p < n.id := by omega
  simp [nodesFrom, this]
theorem bindsFrom_yes {c : CV} {p : Int} {b : BV} {r : List BV} (h : bindOk c b = true) (hp : p < b.task) : bindsFrom c p (b :: r) = bindsFrom c b.task r := by simp [bindsFrom, h, hp]
theorem bindsFrom_bad {c : CV} {p : Int} {b : BV} {r : List BV} (h : bindOk c b = false) : bindsFrom c p (b :: r) = false := by simp [bindsFrom, h]
theorem bindsFrom_low {c : CV} {p : Int} {b : BV} {r : List BV} (h : b.task ≤ p) : bindsFrom c p (b :: r) = false := by
  have : ¬ p < b.task := by omega
  simp [bindsFrom, this]

def needOf (c : CV) (z : Int) : RV := ((fstBy TV.id c.tasks z).getD TV.zero).need
def needsIn (c : CV) (n : Int) : List BV → List RV
  | [] => []
  | b :: r => if b.node = n then needOf c b.task :: needsIn c n r else needsIn c n r
def usedOf (c : CV) (n : Int) : RV × Bool := sumGo RV.zero (needsIn c n c.binds)
def freeOf (c : CV) (n : NV) : RV × Bool := if (usedOf c n.id).2 then (resSub n.cap (usedOf c n.id).1, resSubOk n.cap (usedOf c n.id).1) else (RV.zero, false)
def fitsAll (c : CV) : List NV → Bool
  | [] => true
  | n :: r => (freeOf c n).2 && fitsAll c r
def tasksOk (l : List TV) : Bool := decide (l.length ≤ 30) && tasksFrom [] l
def nodesOk (l : List NV) : Bool := decide (l.length ≤ 20) && nodesFrom 0 l
def clusterOk (c : CV) : Bool := tasksOk c.tasks && nodesOk c.nodes && bindsFrom c 0 c.binds && fitsAll c c.nodes
theorem needsIn_len (c : CV) (n : Int) (l : List BV) : (needsIn c n l).length ≤ l.length := by
  induction l with
  | nil => simp [needsIn]
  | cons b r ih => unfold needsIn; split <;> simp <;> omega
theorem needsIn_yes {c : CV} {n : Int} {b : BV} {r : List BV} (h : b.node = n) : needsIn c n (b :: r) = needOf c b.task :: needsIn c n r := by rw [needsIn, if_pos h]
theorem needsIn_no {c : CV} {n : Int} {b : BV} {r : List BV} (h : b.node ≠ n) : needsIn c n (b :: r) = needsIn c n r := by rw [needsIn, if_neg h]
theorem needsIn_append (c : CV) (n : Int) (a b : List BV) : needsIn c n (a ++ b) = needsIn c n a ++ needsIn c n b := by
  induction a with
  | nil => rfl
  | cons x r ih => simp only [List.cons_append, needsIn, ih]; split <;> rfl
end Go.Proofs.YtkaecjjbammphaaGreatDoor

namespace Go.Proofs.YtkaecjjbammphaaGreatDoor
open Go.ChangeShapes Go.WideShapes Go.ChangeAt Go.RowKit Go.Joins

section
variable {H : Type} {enc : TypeId × Value → H} {W : World} {P : Program} {base : Nat} {spare : Nat → Bool} {held : Bool}
theorem trod_struct5 {t : TypeId} {f0 f1 f2 f3 f4 : Field} {fuel : Nat} {cs : List Value} {x : DataW H × List MemPlace} (ht : P.underlying t = some (.struct #[f0, f1, f2, f3, f4])) (h : DataW.trod enc P W base spare held fuel t cs = some x) :
    ∃ y0 y1 y2 y3 y4 n, cs.length = P.cellsOf t ∧ DataW.trod enc P W base spare held n f0.type ((cs.drop f0.offset).take (P.cellsOf f0.type)) = some y0 ∧
      DataW.trod enc P W base spare held n f1.type ((cs.drop f1.offset).take (P.cellsOf f1.type)) = some y1 ∧ DataW.trod enc P W base spare held n f2.type ((cs.drop f2.offset).take (P.cellsOf f2.type)) = some y2 ∧
      DataW.trod enc P W base spare held n f3.type ((cs.drop f3.offset).take (P.cellsOf f3.type)) = some y3 ∧ DataW.trod enc P W base spare held n f4.type ((cs.drop f4.offset).take (P.cellsOf f4.type)) = some y4 := by
  obtain ⟨xs, n, _, rfl, hl, hlen, hf⟩ := DataW.trod_struct ht h
  match xs, hlen with
  | [y0, y1, y2, y3, y4], _ => exact ⟨y0, y1, y2, y3, y4, n, hl, by simpa using hf 0 f0 rfl, by simpa using hf 1 f1 rfl, by simpa using hf 2 f2 rfl, by simpa using hf 3 f3 rfl, by simpa using hf 4 f4 rfl⟩
theorem trod_struct6 {t : TypeId} {f0 f1 f2 f3 f4 f5 : Field} {fuel : Nat} {cs : List Value} {x : DataW H × List MemPlace} (ht : P.underlying t = some (.struct #[f0, f1, f2, f3, f4, f5])) (h : DataW.trod enc P W base spare held fuel t cs = some x) :
    ∃ y0 y1 y2 y3 y4 y5 n, cs.length = P.cellsOf t ∧ DataW.trod enc P W base spare held n f0.type ((cs.drop f0.offset).take (P.cellsOf f0.type)) = some y0 ∧
      DataW.trod enc P W base spare held n f1.type ((cs.drop f1.offset).take (P.cellsOf f1.type)) = some y1 ∧ DataW.trod enc P W base spare held n f2.type ((cs.drop f2.offset).take (P.cellsOf f2.type)) = some y2 ∧
      DataW.trod enc P W base spare held n f3.type ((cs.drop f3.offset).take (P.cellsOf f3.type)) = some y3 ∧ DataW.trod enc P W base spare held n f4.type ((cs.drop f4.offset).take (P.cellsOf f4.type)) = some y4 ∧
      DataW.trod enc P W base spare held n f5.type ((cs.drop f5.offset).take (P.cellsOf f5.type)) = some y5 := by
  obtain ⟨xs, n, _, rfl, hl, hlen, hf⟩ := DataW.trod_struct ht h
  match xs, hlen with
  | [y0, y1, y2, y3, y4, y5], _ => exact ⟨y0, y1, y2, y3, y4, y5, n, hl, by simpa using hf 0 f0 rfl, by simpa using hf 1 f1 rfl, by simpa using hf 2 f2 rfl, by simpa using hf 3 f3 rfl, by simpa using hf 4 f4 rfl, by simpa using hf 5 f5 rfl⟩
theorem list7 {α : Type} {l : List α} (h : l.length = 7) : ∃ a b c d e f g, l = [a, b, c, d, e, f, g] := by
  match l, h with
  | [a, b, c, d, e, f, g], _ => exact ⟨a, b, c, d, e, f, g, rfl⟩
theorem list8 {α : Type} {l : List α} (h : l.length = 8) : ∃ a b c d e f g i, l = [a, b, c, d, e, f, g, i] := by
  match l, h with
  | [a, b, c, d, e, f, g, i], _ => exact ⟨a, b, c, d, e, f, g, i, rfl⟩
end

section
variable {H : Type} {enc : TypeId × Value → H} {W : World}
theorem Tryz.c_int : Tryz.prog.cellsOf 3 = 1 := by kernel_rfl
theorem Tryz.c_res : Tryz.prog.cellsOf 64 = 3 := by kernel_rfl
theorem Tryz.c_labs : Tryz.prog.cellsOf 65 = 1 := by kernel_rfl
theorem Tryz.c_ints : Tryz.prog.cellsOf 28 = 1 := by kernel_rfl
theorem Tryz.c_bool : Tryz.prog.cellsOf 4 = 1 := by kernel_rfl
theorem Tryz.c_task : Tryz.prog.cellsOf 67 = 7 := by kernel_rfl
theorem Tryz.c_node : Tryz.prog.cellsOf 70 = 8 := by kernel_rfl
set_option maxRecDepth 100000 in
theorem open_taskC {fuel : Nat} {cs : List Value} {x : DataW H × List MemPlace} (h : DataW.trod enc Tryz.prog W 0 (fun _ => true) true fuel 67 cs = some x) :
    ∃ (t : TV) (v1 v2 : Value), cs = [.int .i64 t.id, .int .i64 t.prio, .int .i64 t.need.c, .int .i64 t.need.m, .int .i64 t.need.p, v1, v2] ∧ LabSl W v1 t.want ∧ IntSl W v2 t.tols ∧ t.want.length ≤ maxLen ∧ t.tols.length ≤ maxLen := by
  obtain ⟨y0, y1, y2, y3, y4, n, hl, h0, h1, h2, h3, h4⟩ := trod_struct5 Tryz.underlying67 h
  rw [Tryz.c_task] at hl
  obtain ⟨a, b, c, d, e, f, g, rfl⟩ := list7 hl
  simp only [Tryz.c_int, Tryz.c_res, Tryz.c_labs, Tryz.c_ints] at h0 h1 h2 h3 h4
  simp at h0 h1 h2 h3 h4
  obtain ⟨z0, e0, _, _⟩ := DataW.trod_int Tryz.underlying3 h0
  obtain ⟨z1, e1, _, _⟩ := DataW.trod_int Tryz.underlying3 h1
  obtain ⟨r0, r1, r2, m, _, _, g0, g1, g2⟩ := Go.Deep.trod_struct3 Tryz.underlying64 h2
  simp only [Tryz.c_int] at g0 g1 g2
  simp at g0 g1 g2
  obtain ⟨z2, e2, _, _⟩ := DataW.trod_int Tryz.underlying3 g0
  obtain ⟨z3, e3, _, _⟩ := DataW.trod_int Tryz.underlying3 g1
  obtain ⟨z4, e4, _, _⟩ := DataW.trod_int Tryz.underlying3 g2
  simp at e0 e1 e2 e3 e4
  subst e0 e1 e2 e3 e4
  obtain ⟨A1, n1, c1, _, hn1, l1, hl1, hs1⟩ := open_labC h3
  obtain ⟨A2, n2, c2, _, hn2, l2, hl2, hs2⟩ := open_intC h4
  exact ⟨⟨z0, z1, ⟨z2, z3, z4⟩, l1, l2⟩, f, g, rfl, hs1, hs2, by simp only []; omega, by simp only []; omega⟩
set_option maxRecDepth 100000 in
theorem open_nodeC {fuel : Nat} {cs : List Value} {x : DataW H × List MemPlace} (h : DataW.trod enc Tryz.prog W 0 (fun _ => true) true fuel 70 cs = some x) :
    ∃ (t : NV) (v1 v2 : Value), cs = [.int .i64 t.id, .int .i64 t.pool, .int .i64 t.cap.c, .int .i64 t.cap.m, .int .i64 t.cap.p, v1, v2, .bool t.cordon] ∧ LabSl W v1 t.labs ∧ IntSl W v2 t.taints ∧ t.labs.length ≤ maxLen ∧ t.taints.length ≤ maxLen := by
  obtain ⟨y0, y1, y2, y3, y4, y5, n, hl, h0, h1, h2, h3, h4, h5⟩ := trod_struct6 Tryz.underlying70 h
  rw [Tryz.c_node] at hl
  obtain ⟨a, b, c, d, e, f, g, i, rfl⟩ := list8 hl
  simp only [Tryz.c_int, Tryz.c_res, Tryz.c_labs, Tryz.c_ints, Tryz.c_bool] at h0 h1 h2 h3 h4 h5
  simp at h0 h1 h2 h3 h4 h5
  obtain ⟨z0, e0, _, _⟩ := DataW.trod_int Tryz.underlying3 h0
  obtain ⟨z1, e1, _, _⟩ := DataW.trod_int Tryz.underlying3 h1
  obtain ⟨r0, r1, r2, m, _, _, g0, g1, g2⟩ := Go.Deep.trod_struct3 Tryz.underlying64 h2
  simp only [Tryz.c_int] at g0 g1 g2
  simp at g0 g1 g2
  obtain ⟨z2, e2, _, _⟩ := DataW.trod_int Tryz.underlying3 g0
  obtain ⟨z3, e3, _, _⟩ := DataW.trod_int Tryz.underlying3 g1
  obtain ⟨z4, e4, _, _⟩ := DataW.trod_int Tryz.underlying3 g2
  obtain ⟨z5, e5, _⟩ := DataW.trod_bool Tryz.underlying4 h5
  simp at e0 e1 e2 e3 e4 e5
  subst e0 e1 e2 e3 e4 e5
  obtain ⟨A1, n1, c1, _, hn1, l1, hl1, hs1⟩ := open_labC h3
  obtain ⟨A2, n2, c2, _, hn2, l2, hl2, hs2⟩ := open_intC h4
  exact ⟨⟨z0, z1, ⟨z2, z3, z4⟩, l1, l2, z5⟩, f, g, rfl, hs1, hs2, by simp only []; omega, by simp only []; omega⟩
end
end Go.Proofs.YtkaecjjbammphaaGreatDoor

namespace Go.Proofs.YtkaecjjbammphaaGreatDoor
open Go.RowKit

def CellsAt (w : World) (b o : Nat) (cs : List Value) : Prop := ∀ (j : Nat) (u : Value), cs[j]? = some u → w.cell? ⟨b, o + j, none⟩ = some u
theorem CellsAt.below {w w' : World} {b o B : Nat} {cs : List Value} (h : CellsAt w b o cs) (hb : Below B w w') (hB : b < B) : CellsAt w' b o cs := fun j u hu => (hb.cell (p := ⟨b, _, none⟩) hB).trans (h j u hu)
theorem CellsAt.of_block {w : World} {g o : Nat} {t : TypeId} {cs : List Value} {ds : Array Value} (h : BlockIs w g t ds) (hc : ∀ (j : Nat) (u : Value), cs[j]? = some u → ds[o + j]? = some u) : CellsAt w g o cs := fun j u hu => (h.cell _).trans (hc j u hu)

section
variable {α : Type} {R S : World → α → List Value → Prop} {n : Nat} {w w' : World} {v : Value} {l : List α}
def Kept (R : World → α → List Value → Prop) : Prop := ∀ (w w' : World) (x : α) (cs : List Value), Below w.heap.size w w' → R w x cs → R w' x cs
def SeqAt (R : World → α → List Value → Prop) (n : Nat) (w : World) (b off : Nat) (l : List α) : Prop := ∀ (i : Nat) (x : α), l[i]? = some x → ∃ cs, R w x cs ∧ CellsAt w b (off + i * n) cs
def GSl (R : World → α → List Value → Prop) (n : Nat) (w : World) (v : Value) (l : List α) : Prop := (l = [] ∧ ∃ A c, v = .slice A 0 c) ∨ ∃ b off c, v = .slice (some ⟨b, off, none⟩) l.length c ∧ b < w.heap.size ∧ SeqAt R n w b off l
theorem SeqAt.below (hR : Kept R) {b off : Nat} (h : SeqAt R n w b off l) (hb : Below w.heap.size w w') (hB : b < w.heap.size) : SeqAt R n w' b off l := fun i x hx => by
  obtain ⟨cs, h1, h2⟩ := h i x hx
  exact ⟨cs, hR _ _ _ _ hb h1, h2.below hb hB⟩
theorem GSl.below (hR : Kept R) (h : GSl R n w v l) (hb : Below w.heap.size w w') : GSl R n w' v l := by
  rcases h with h | ⟨b, off, c, rfl, hlt, h⟩
  · exact .inl h
  · exact .inr ⟨b, off, c, rfl, Nat.lt_of_lt_of_le hlt hb.size, h.below hR hb hlt⟩
theorem GSl.form (h : GSl R n w v l) : ∃ A c, v = .slice A l.length c ∧ (0 < l.length → ∃ b off, A = some ⟨b, off, none⟩ ∧ b < w.heap.size ∧ SeqAt R n w b off l) := by
  rcases h with ⟨rfl, A, c, rfl⟩ | ⟨b, off, c, rfl, hlt, h⟩
  · exact ⟨A, c, rfl, fun h => absurd h (by simp)⟩
  · exact ⟨_, c, rfl, fun _ => ⟨b, off, rfl, hlt, h⟩⟩
theorem GSl.nil (R : World → α → List Value → Prop) (n : Nat) (w : World) (A : Option Addr) (c : Nat) : GSl R n w (.slice A 0 c) [] := .inl ⟨rfl, A, c, rfl⟩
theorem GSl.weaken (h : GSl R n w v l) (hRS : ∀ x cs, R w x cs → S w x cs) : GSl S n w v l := by
  rcases h with h | ⟨b, off, c, rfl, hlt, h⟩
  · exact .inl h
  · refine .inr ⟨b, off, c, rfl, hlt, fun i x hx => ?_⟩
    obtain ⟨cs, h1, h2⟩ := h i x hx
    exact ⟨cs, hRS _ _ h1, h2⟩
end

def TaskR (w : World) (t : TV) (cs : List Value) : Prop := ∃ v1 v2, cs = [.int .i64 t.id, .int .i64 t.prio, .int .i64 t.need.c, .int .i64 t.need.m, .int .i64 t.need.p, v1, v2] ∧ LabSl w v1 t.want ∧ IntSl w v2 t.tols ∧ t.want.length ≤ 1048576 ∧ t.tols.length ≤ 1048576
def NodeR (w : World) (t : NV) (cs : List Value) : Prop := ∃ v1 v2, cs = [.int .i64 t.id, .int .i64 t.pool, .int .i64 t.cap.c, .int .i64 t.cap.m, .int .i64 t.cap.p, v1, v2, .bool t.cordon] ∧ LabSl w v1 t.labs ∧ IntSl w v2 t.taints ∧ t.labs.length ≤ 1048576 ∧ t.taints.length ≤ 1048576
def BindR (_ : World) (t : BV) (cs : List Value) : Prop := cs = [.int .i64 t.task, .int .i64 t.node]
theorem TaskR.kept : Kept TaskR := fun _ _ _ _ hb ⟨v1, v2, e, h1, h2, h3⟩ => ⟨v1, v2, e, h1.below hb, h2.below hb, h3⟩
theorem NodeR.kept : Kept NodeR := fun _ _ _ _ hb ⟨v1, v2, e, h1, h2, h3⟩ => ⟨v1, v2, e, h1.below hb, h2.below hb, h3⟩
theorem BindR.kept : Kept BindR := fun _ _ _ _ _ h => h
theorem TaskR.zero (w : World) : TaskR w TV.zero [.int .i64 0, .int .i64 0, .int .i64 0, .int .i64 0, .int .i64 0, .slice none 0 0, .slice none 0 0] := ⟨_, _, rfl, .inl ⟨rfl, _, _, rfl⟩, .inl ⟨rfl, _, _, rfl⟩, by simp [TV.zero], by simp [TV.zero]⟩
theorem NodeR.zero (w : World) : NodeR w NV.zero [.int .i64 0, .int .i64 0, .int .i64 0, .int .i64 0, .int .i64 0, .slice none 0 0, .slice none 0 0, .bool false] := ⟨_, _, rfl, .inl ⟨rfl, _, _, rfl⟩, .inl ⟨rfl, _, _, rfl⟩, by simp [NV.zero], by simp [NV.zero]⟩
theorem BindR.zero (w : World) : BindR w BV.zero [.int .i64 0, .int .i64 0] := rfl
def TaskSl (w : World) (v : Value) (l : List TV) : Prop := GSl TaskR 7 w v l
theorem TaskSl.below {w w' : World} {v : Value} {l : List TV} (h : TaskSl w v l) (hb : Below w.heap.size w w') : TaskSl w' v l := GSl.below TaskR.kept h hb
theorem TaskSl.form {w : World} {v : Value} {l : List TV} (h : TaskSl w v l) : ∃ A c, v = .slice A l.length c ∧ (0 < l.length → ∃ b off, A = some ⟨b, off, none⟩ ∧ b < w.heap.size ∧ SeqAt TaskR 7 w b off l) := GSl.form h
def RetFTask (w0 w : World) (o : Option TV) (e : Ending) (w' : World) : Prop := ∃ cs : List Value, e = .returned (.tuple #[.agg cs.toArray, .bool o.isSome]) ∧ TaskR w0 (o.getD TV.zero) cs ∧ Below w.heap.size w w'
def NodeSl (w : World) (v : Value) (l : List NV) : Prop := GSl NodeR 8 w v l
theorem NodeSl.below {w w' : World} {v : Value} {l : List NV} (h : NodeSl w v l) (hb : Below w.heap.size w w') : NodeSl w' v l := GSl.below NodeR.kept h hb
theorem NodeSl.form {w : World} {v : Value} {l : List NV} (h : NodeSl w v l) : ∃ A c, v = .slice A l.length c ∧ (0 < l.length → ∃ b off, A = some ⟨b, off, none⟩ ∧ b < w.heap.size ∧ SeqAt NodeR 8 w b off l) := GSl.form h
def RetFNode (w0 w : World) (o : Option NV) (e : Ending) (w' : World) : Prop := ∃ cs : List Value, e = .returned (.tuple #[.agg cs.toArray, .bool o.isSome]) ∧ NodeR w0 (o.getD NV.zero) cs ∧ Below w.heap.size w w'
def BindSl (w : World) (v : Value) (l : List BV) : Prop := GSl BindR 2 w v l
theorem BindSl.below {w w' : World} {v : Value} {l : List BV} (h : BindSl w v l) (hb : Below w.heap.size w w') : BindSl w' v l := GSl.below BindR.kept h hb
theorem BindSl.form {w : World} {v : Value} {l : List BV} (h : BindSl w v l) : ∃ A c, v = .slice A l.length c ∧ (0 < l.length → ∃ b off, A = some ⟨b, off, none⟩ ∧ b < w.heap.size ∧ SeqAt BindR 2 w b off l) := GSl.form h
theorem task_cells {w : World} {b o : Nat} {u0 u1 u2 u3 u4 u5 u6 : Value} (h : CellsAt w b o [u0, u1, u2, u3, u4, u5, u6]) : w.cell? ⟨b, o, none⟩ = some u0 ∧ w.cell? ⟨b, o + 1, none⟩ = some u1 ∧ w.cell? ⟨b, o + 2, none⟩ = some u2 ∧ w.cell? ⟨b, o + 3, none⟩ = some u3 ∧ w.cell? ⟨b, o + 4, none⟩ = some u4 ∧ w.cell? ⟨b, o + 5, none⟩ = some u5 ∧ w.cell? ⟨b, o + 6, none⟩ = some u6 :=
  ⟨h 0 _ rfl, h 1 _ rfl, h 2 _ rfl, h 3 _ rfl, h 4 _ rfl, h 5 _ rfl, h 6 _ rfl⟩
theorem node_cells {w : World} {b o : Nat} {u0 u1 u2 u3 u4 u5 u6 u7 : Value} (h : CellsAt w b o [u0, u1, u2, u3, u4, u5, u6, u7]) : w.cell? ⟨b, o, none⟩ = some u0 ∧ w.cell? ⟨b, o + 1, none⟩ = some u1 ∧ w.cell? ⟨b, o + 2, none⟩ = some u2 ∧ w.cell? ⟨b, o + 3, none⟩ = some u3 ∧ w.cell? ⟨b, o + 4, none⟩ = some u4 ∧ w.cell? ⟨b, o + 5, none⟩ = some u5 ∧ w.cell? ⟨b, o + 6, none⟩ = some u6 ∧ w.cell? ⟨b, o + 7, none⟩ = some u7 :=
  ⟨h 0 _ rfl, h 1 _ rfl, h 2 _ rfl, h 3 _ rfl, h 4 _ rfl, h 5 _ rfl, h 6 _ rfl, h 7 _ rfl⟩
theorem bind_cells {w : World} {b o : Nat} {u0 u1 : Value} (h : CellsAt w b o [u0, u1]) : w.cell? ⟨b, o, none⟩ = some u0 ∧ w.cell? ⟨b, o + 1, none⟩ = some u1 := ⟨h 0 _ rfl, h 1 _ rfl⟩
end Go.Proofs.YtkaecjjbammphaaGreatDoor

namespace Go.Proofs.YtkaecjjbammphaaGreatDoor
open Go.RowKit Go.Extern.Stop Go.Stop Go.Extern

theorem Tryz.isTypeOf (v : Value) (w : World) : (Extern.ReflectliteType.typeOf #[.iface 161 v]).run Tryz.prog w = .ok (.iface 149 (.agg #[.pointer (some ⟨2, 161, none⟩)])) w := by kernel_rfl
theorem Tryz.callComparable (w : World) : (callFunc 133 #[.agg #[.pointer (some ⟨2, 161, none⟩)]]).run Tryz.prog w = .ok (.value (.bool true)) w := by kernel_rfl
theorem Tryz.isMethodComparable (v : Value) (w : World) : (Go.method 300 149 v "Comparable").run Tryz.prog w = .ok (133, v) w := by kernel_rfl
theorem Tryz.methodUnwrap (v : Value) (w : World) : (Go.method 300 130 v "Unwrap").run Tryz.prog w = .ok (128, v) w := by kernel_rfl
theorem Tryz.isComp : (Tryz.prog.info? 161).map (·.comparable) = some true := by kernel_rfl
theorem Tryz.isSize : (Tryz.prog.info? 188).map (·.size) = some 1 := by kernel_rfl
theorem Tryz.noIsF (v : Value) (xT : TypeId) (w : World) : (Instr.typeAssert (.iface 130 v) xT 151 true).run Tryz.prog w = .ok (.tuple #[.nilIface, .bool false]) w := run_typeAssert_lacksB Tryz.underlying151 (by kernel_rfl) (by kernel_rfl) v xT w
theorem Tryz.hasUnwrapF (v : Value) (xT : TypeId) (w : World) : (Instr.typeAssert (.iface 130 v) xT 153 true).run Tryz.prog w = .ok (.tuple #[.iface 130 v, .bool true]) w := run_typeAssert_hasB Tryz.underlying153 (by kernel_rfl) v xT w

theorem is_nil (b : Addr) (w : World) :
    Calls Tryz.prog 77 #[.nilIface, .iface 161 (.pointer (some b))] w fun e w' => e = .returned (.bool false) ∧ w = w' := by
  have hn := run_eql_iface_nil_left (P := Tryz.prog) w 161 (.pointer (some b)) Tryz.underlying112
  go_enter Tryz.func77, Tryz.ntmps77
  go_wp2
  go_ret
  exact ⟨rfl, rfl⟩

set_option maxRecDepth 1000000 in
theorem is_field (s : ByteArray) (b : Addr) (w : World) :
    Calls Tryz.prog 77 #[.iface 130 (.agg #[.string s, .iface 161 (.pointer (some b))]), .iface 161 (.pointer (some b))] w fun e w' => e = .returned (.bool true) ∧ Below w.heap.size w w' := by
  obtain ⟨i, hi, hcmp⟩ := Option.map_eq_some_iff.1 Tryz.isComp
  obtain ⟨j, hj, hjs⟩ := Option.map_eq_some_iff.1 Tryz.isSize
  have h8 := @run_callFunc_extern Tryz.prog 96 _ Extern.ReflectliteType.typeOf Tryz.func96 (by kernel_rfl) (by kernel_rfl) (by kernel_rfl) (by kernel_rfl)
  have tT := Tryz.isTypeOf
  have cT := Tryz.callComparable
  have mR := Tryz.isMethodComparable
  have mU := Tryz.methodUnwrap
  have nE := Tryz.noIsF
  have uE := Tryz.hasUnwrapF
  have heq := fun w => run_eql_iface_ptr_same (P := Tryz.prog) w b Tryz.underlying112 Tryz.underlying161 hi hcmp hj
  have hty := fun w => run_eql_iface_types (P := Tryz.prog) 130 161 (.agg #[.string s, .iface 161 (.pointer (some b))]) (.pointer (some b)) Tryz.underlying112 (by decide) w
  go_enter Tryz.func77, Tryz.ntmps77
  go_wp2
  refine wp_loop_rounds 2 ?_
  rw [rounds_succ]
  go_wp2
  rw [rounds_succ]
  go_wp2
  go_ret
  exact ⟨rfl, (Below.refl _ _).alloc (Nat.le_refl _) _⟩
end Go.Proofs.YtkaecjjbammphaaGreatDoor

namespace Go.Proofs.YtkaecjjbammphaaGreatDoor
open Go.RowKit

def ErrAt (a : Addr) (w : World) : Prop := w.cell? ⟨1, 0, none⟩ = some (.iface 161 (.pointer (some a)))
theorem ErrAt.lt {a : Addr} {w : World} (h : ErrAt a w) : 1 < w.heap.size := by
  rcases Nat.lt_or_ge 1 w.heap.size with h' | h'
  · exact h'
  · simp [ErrAt, World.cell?, Array.getElem?_eq_none h'] at h
theorem ErrAt.below {a : Addr} {w w' : World} {B : Nat} (h : ErrAt a w) (hb : Below B w w') (hB : w.heap.size ≤ B) : ErrAt a w' := by
  have hl := h.lt
  unfold ErrAt at *
  rw [hb.cell (p := ⟨1, 0, none⟩) (Nat.lt_of_lt_of_le hl hB)]; exact h
theorem ErrAt.alloc {a : Addr} {w : World} (h : ErrAt a w) (o : Obj) : ErrAt a (w.alloc o) := h.below ((Below.refl _ _).alloc (Nat.le_refl _) o) (Nat.le_refl _)

def BadAt (a : Addr) (w : World) (e : Ending) (w' : World) : Prop := ∃ s : ByteArray, e = .returned (.iface 130 (.agg #[.string s, .iface 161 (.pointer (some a))])) ∧ Below w.heap.size w w'

theorem Tryz.ix0 (x0 x1 x2 x3 x4 x5 : Value) (w : World) : (Instr.index 116 (.agg #[x0, x1, x2, x3, x4, x5]) (.int .i64 0)).run Tryz.prog w = .ok (.agg #[x0, x1]) w := by kernel_rfl
theorem Tryz.ix1 (x0 x1 x2 x3 x4 x5 : Value) (w : World) : (Instr.index 116 (.agg #[x0, x1, x2, x3, x4, x5]) (.int .i64 1)).run Tryz.prog w = .ok (.agg #[x2, x3]) w := by kernel_rfl
theorem Tryz.ix2 (x0 x1 x2 x3 x4 x5 : Value) (w : World) : (Instr.index 116 (.agg #[x0, x1, x2, x3, x4, x5]) (.int .i64 2)).run Tryz.prog w = .ok (.agg #[x4, x5]) w := by kernel_rfl

theorem fieldsOf_any (r : RV) (w : World) :
    Calls Tryz.prog 75 #[.agg #[.int .i64 r.c, .int .i64 r.m, .int .i64 r.p]] w fun e w' => e = .returned (.agg #[.string ⟨#[67, 112, 117]⟩, .int .i64 r.c, .string ⟨#[77, 101, 109]⟩, .int .i64 r.m, .string ⟨#[80, 111, 100, 115]⟩, .int .i64 r.p]) ∧ Below w.heap.size w w' := by
  go_enter Tryz.func75, Tryz.ntmps75
  go_wp2
  exact bodyPost_ret (v := .agg #[.string ⟨#[67, 112, 117]⟩, .int .i64 r.c, .string ⟨#[77, 101, 109]⟩, .int .i64 r.m, .string ⟨#[80, 111, 100, 115]⟩, .int .i64 r.p]) (by simp [results, Tryz.results75, go_sem]) rfl ⟨rfl, (by repeat' (first | exact Below.refl _ _ | refine Below.alloc ?_ ?_ _ | refine Below.setCell ?_ ?_ _ | refine Below.drew ?_ | (apply below_step; assumption) | (simp; done) | (simp; omega) | omega))⟩

theorem checkRes_ok (r : RV) (w : World) (h1 : 0 ≤ r.c) (h2 : r.c ≤ 1000000) (h3 : 0 ≤ r.m) (h4 : r.m ≤ 1000000) (h5 : 0 ≤ r.p) (h6 : r.p ≤ 1000000) :
    Calls Tryz.prog 95 #[.agg #[.int .i64 r.c, .int .i64 r.m, .int .i64 r.p]] w fun e w' => e = .returned .nilIface ∧ Below w.heap.size w w' := by
  have i0 := Tryz.ix0
  have i1 := Tryz.ix1
  have i2 := Tryz.ix2
  go_enter Tryz.func95, Tryz.ntmps95
  go_wp2_with (go_at_call 75; refine (fieldsOf_any r _).mono ?_; rintro e w1 ⟨rfl, hb⟩)
  have hz := hb.size
  simp at hz
  refine wp_loop_rounds 4 ?_
  rw [rounds_succ]
  go_wp2
  rw [rounds_succ]
  go_wp2
  rw [rounds_succ]
  go_wp2
  rw [rounds_succ]
  go_wp2
  go_ret
  exact ⟨rfl, (by repeat' (first | exact Below.refl _ _ | refine Below.alloc ?_ ?_ _ | refine Below.setCell ?_ ?_ _ | refine Below.drew ?_ | (apply below_step; assumption) | (simp; done) | (simp; omega) | omega))⟩

theorem checkRes_bad1 (r : RV) (w : World) (a : Addr) (hg : ErrAt a w) (h : r.c < 0 ∨ 1000000 < r.c) :
    Calls Tryz.prog 95 #[.agg #[.int .i64 r.c, .int .i64 r.m, .int .i64 r.p]] w (BadAt a w) := by
  have hl := hg.lt
  have i0 := Tryz.ix0
  rcases h with h | h
  all_goals
    go_enter Tryz.func95, Tryz.ntmps95
    go_wp2_with (go_at_call 75; refine (fieldsOf_any r _).mono ?_; rintro e w1 ⟨rfl, hb⟩)
    have hz := hb.size
    simp at hz
    have hg1 := (hg.alloc _).below hb (Nat.le_refl _)
    have hl1 := hg1.lt
    have hl0 : 0 < w1.heap.size := by omega
    have hq1 : 1 < w1.heap.size + 1 := by omega
    have hq2 : 1 < w1.heap.size + 1 + 1 := by omega
    (try simp at hq1)
    (try simp at hq2)
    unfold ErrAt at hg1
    refine wp_loop_rounds 1 ?_
    rw [rounds_succ]
    go_wp2
    go_ret
    exact ⟨_, rfl, (by repeat' (first | exact Below.refl _ _ | refine Below.alloc ?_ ?_ _ | refine Below.setCell ?_ ?_ _ | refine Below.drew ?_ | (apply below_step; assumption) | (simp; done) | (simp; omega) | omega))⟩

theorem checkRes_bad2 (r : RV) (w : World) (a : Addr) (hg : ErrAt a w) (h1 : 0 ≤ r.c) (h2 : r.c ≤ 1000000) (h : r.m < 0 ∨ 1000000 < r.m) :
    Calls Tryz.prog 95 #[.agg #[.int .i64 r.c, .int .i64 r.m, .int .i64 r.p]] w (BadAt a w) := by
  have hl := hg.lt
  have i0 := Tryz.ix0
  have i1 := Tryz.ix1
  rcases h with h | h
  all_goals
    go_enter Tryz.func95, Tryz.ntmps95
    go_wp2_with (go_at_call 75; refine (fieldsOf_any r _).mono ?_; rintro e w1 ⟨rfl, hb⟩)
    have hz := hb.size
    simp at hz
    have hg1 := (hg.alloc _).below hb (Nat.le_refl _)
    have hl1 := hg1.lt
    have hl0 : 0 < w1.heap.size := by omega
    have hq1 : 1 < w1.heap.size + 1 := by omega
    have hq2 : 1 < w1.heap.size + 1 + 1 := by omega
    (try simp at hq1)
    (try simp at hq2)
    unfold ErrAt at hg1
    refine wp_loop_rounds 2 ?_
    rw [rounds_succ]
    go_wp2
    rw [rounds_succ]
    go_wp2
    go_ret
    exact ⟨_, rfl, (by repeat' (first | exact Below.refl _ _ | refine Below.alloc ?_ ?_ _ | refine Below.setCell ?_ ?_ _ | refine Below.drew ?_ | (apply below_step; assumption) | (simp; done) | (simp; omega) | omega))⟩

theorem checkRes_bad3 (r : RV) (w : World) (a : Addr) (hg : ErrAt a w) (h1 : 0 ≤ r.c) (h2 : r.c ≤ 1000000) (h3 : 0 ≤ r.m) (h4 : r.m ≤ 1000000) (h : r.p < 0 ∨ 1000000 < r.p) :
    Calls Tryz.prog 95 #[.agg #[.int .i64 r.c, .int .i64 r.m, .int .i64 r.p]] w (BadAt a w) := by
  have hl := hg.lt
  have i0 := Tryz.ix0
  have i1 := Tryz.ix1
  have i2 := Tryz.ix2
  rcases h with h | h
  all_goals
    go_enter Tryz.func95, Tryz.ntmps95
    go_wp2_with (go_at_call 75; refine (fieldsOf_any r _).mono ?_; rintro e w1 ⟨rfl, hb⟩)
    have hz := hb.size
    simp at hz
    have hg1 := (hg.alloc _).below hb (Nat.le_refl _)
    have hl1 := hg1.lt
    have hl0 : 0 < w1.heap.size := by omega
    have hq1 : 1 < w1.heap.size + 1 := by omega
    have hq2 : 1 < w1.heap.size + 1 + 1 := by omega
    (try simp at hq1)
    (try simp at hq2)
    unfold ErrAt at hg1
    refine wp_loop_rounds 3 ?_
    rw [rounds_succ]
    go_wp2
    rw [rounds_succ]
    go_wp2
    rw [rounds_succ]
    go_wp2
    go_ret
    exact ⟨_, rfl, (by repeat' (first | exact Below.refl _ _ | refine Below.alloc ?_ ?_ _ | refine Below.setCell ?_ ?_ _ | refine Below.drew ?_ | (apply below_step; assumption) | (simp; done) | (simp; omega) | omega))⟩

theorem checkRes_yes (r : RV) (w : World) (h : r.ok = true) :
    Calls Tryz.prog 95 #[.agg #[.int .i64 r.c, .int .i64 r.m, .int .i64 r.p]] w fun e w' => e = .returned .nilIface ∧ Below w.heap.size w w' := by
  obtain ⟨h1, h2, h3, h4, h5, h6⟩ := RV.ok_iff.1 h
  exact checkRes_ok r w h1 h2 h3 h4 h5 h6
theorem checkRes_no (r : RV) (w : World) (a : Addr) (hg : ErrAt a w) (h : r.ok = false) : Calls Tryz.prog 95 #[.agg #[.int .i64 r.c, .int .i64 r.m, .int .i64 r.p]] w (BadAt a w) := by
  have h' := RV.bad_iff.1 h
  by_cases hc : 0 ≤ r.c ∧ r.c ≤ 1000000
  · by_cases hm : 0 ≤ r.m ∧ r.m ≤ 1000000
    · exact checkRes_bad3 r w a hg hc.1 hc.2 hm.1 hm.2 (by omega)
    · exact checkRes_bad2 r w a hg hc.1 hc.2 (by omega)
  · exact checkRes_bad1 r w a hg (by omega)
end Go.Proofs.YtkaecjjbammphaaGreatDoor
