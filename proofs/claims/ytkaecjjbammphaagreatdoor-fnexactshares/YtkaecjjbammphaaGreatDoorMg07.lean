/- The contracts of LabsOk, LabsGet, LabsMatch. The contracts of readTaints, TaintsOk, Tolerates. The contracts of idOk, TaskOk, NodeOk, CanHost. The contracts of tasksOk and nodesOk. Words for memory: a block that is known whole; a slice of amounts. The contract of ResSum. append of an amount to a slice of the call's own. The tasks on a node: tasksOn, which is ranged over, and usedOn. The iterator that tasksOn hands back. The contract of usedOn. The contracts of usedOn, freeOn, needsFit, ClusterOk. -/
import Derived.Test.YtkaecjjbammphaaGreatDoorMg02
import Derived.Test.YtkaecjjbammphaaGreatDoorMg06
import Derived.Test.YtkaecjjbammphaaGreatDoorMg03
import Derived.Deep.AppendLies
import Derived.OwnWalk
import Derived.Laws.OwnMore
import Derived.Deep.RegionHeld3
import Derived.Deep.RegionLaw
import Derived.Deep.DrawnRows
import Derived.RangeFuncNested
import Derived.RangeFuncBound
import Derived.RangeFuncCalls
import Derived.RangeFuncLeaves
import Derived.Shelf.Abstract
import Derived.Shelf.RegionOpen
import Derived.OwnWalkIn
import Derived.TacticsInMore
import Derived.LoopNIn
import Derived.LoopIn
namespace Go.Proofs.YtkaecjjbammphaaGreatDoor
open Go.RowKit

theorem LabsOk_any (v : Value) (l : List LV) (w : World) (hv : LabSl w v l) (hlen : l.length ≤ 1048576) :
    Calls Tryz.prog 85 #[v] w fun e w' => e = .returned (.bool (labsOk l)) ∧ Below w.heap.size w w' := by
  have H := Lib.hid (readLabs_any v l w hv hlen)
  clear hv
  go_enter Tryz.func85, Tryz.ntmps85
  go_wp2_with fail
  refine H.out.mono ?_
  rintro e w1 ⟨rfl, hb1⟩
  have hz1 := hb1.size
  go_wp2_with fail
  go_ret
  exact ⟨rfl, (by repeat' (first | exact Below.refl _ _ | refine Below.alloc ?_ ?_ _ | refine Below.setCell ?_ ?_ _ | refine Below.drew ?_ | (apply below_step; assumption) | (simp; done) | (simp; omega) | omega))⟩

theorem getOf_no {l : List LV} {k : Int} (h : labsOk l = false) : getOf l k = (0, false) := by simp [getOf, h]
theorem getOf_yes {l : List LV} {k : Int} (h : labsOk l = true) : getOf l k = findK l k := by simp [getOf, h]
theorem labsOk_from {l : List LV} (h : labsOk l = true) : labsFrom (-1) l = true := by
  simp only [labsOk, Bool.and_eq_true] at h; exact h.2
def RetI (z : Int × Bool) (w : World) (e : Ending) (w' : World) : Prop := e = .returned (.tuple #[.int .i64 z.1, .bool z.2]) ∧ Below w.heap.size w w'

theorem hasAll_iff {m p : Nat → Int} : hasAllM m p = true ↔ ∀ i, i < 10 → 0 < p i → p i = m i := by
  unfold hasAllM eqMarks
  simp only [List.all_eq_true, List.mem_range, beq_iff_eq]
  constructor
  · intro h i hi hp
    have := h i hi
    simpa [laidM, hi, hp] using this
  · intro h i hi
    unfold laidM
    by_cases hp : 0 < p i
    · rw [if_pos ⟨hi, hp⟩]; exact h i hi hp
    · rw [if_neg (fun x => hp x.2)]
theorem hasAllOf_iff {a b : List LV} : hasAllOf a b = true ↔ ∀ x ∈ b, findK a x.k = (x.v, true) := by
  induction b with
  | nil => simp [hasAllOf]
  | cons x r ih =>
    simp only [hasAllOf, Bool.and_eq_true, decide_eq_true_eq, ih, List.mem_cons, forall_eq_or_imp]
    constructor
    · rintro ⟨⟨h1, h2⟩, h3⟩
      exact ⟨by rw [← h1, ← h2], h3⟩
    · rintro ⟨h1, h3⟩
      rw [h1]
      exact ⟨⟨rfl, rfl⟩, h3⟩
theorem findK_mem {p : Int} {l : List LV} (h : labsFrom p l = true) {x : LV} (hx : x ∈ l) : findK l x.k = (x.v, true) := by
  induction l generalizing p with
  | nil => cases hx
  | cons y r ih =>
    simp only [labsFrom, Bool.and_eq_true, decide_eq_true_eq] at h
    rcases List.mem_cons.1 hx with rfl | hx
    · simp [findK]
    · have h1 := ih h.2 hx
      have hne : ¬ y.k = x.k := by
        intro e
        rw [findK_above h.2 (k := x.k) (by omega)] at h1
        simp at h1
      simp only [findK, if_neg hne]; exact h1
theorem mem_findK {l : List LV} {k v : Int} (h : findK l k = (v, true)) : ⟨k, v⟩ ∈ l := by
  induction l with
  | nil => simp [findK] at h
  | cons y r ih =>
    unfold findK at h
    split at h
    · rename_i e
      injection h with h1 h2
      subst e; subst h1
      exact List.mem_cons.2 (.inl rfl)
    · exact List.mem_cons.2 (.inr (ih h))
theorem mem_ok {p : Int} {l : List LV} (h : labsFrom p l = true) {x : LV} (hx : x ∈ l) : x.ok = true := by
  induction l generalizing p with
  | nil => cases hx
  | cons y r ih =>
    simp only [labsFrom, Bool.and_eq_true, decide_eq_true_eq] at h
    rcases List.mem_cons.1 hx with rfl | hx
    · exact h.1.1
    · exact ih h.2 hx
theorem hasAll_of {a b : List LV} (ha : labsOk a = true) (hb : labsOk b = true) : hasAllM (readOf a) (readOf b) = hasAllOf a b := by
  rw [Bool.eq_iff_iff, hasAll_iff, hasAllOf_iff, readOf_yes ha, readOf_yes hb]
  have fa := labsOk_from ha
  have fb := labsOk_from hb
  constructor
  · intro h x hx
    obtain ⟨k0, k9, v0, v9⟩ := LV.ok_iff.1 (mem_ok fb hx)
    obtain ⟨k, hk⟩ := Int.eq_ofNat_of_zero_le k0
    have hf := findK_mem fb hx
    have hm := mark_at fb k
    have hma := mark_at fa k
    have hz := findK_val fa (k := (k : Int))
    rw [hk] at hf
    rw [hf] at hm
    simp at hm
    have := h k (by omega) (by omega)
    rw [hk]
    cases e : (findK a k).2
    · rw [e] at hma; simp at hma; omega
    · rw [e] at hma; simp at hma
      have e1 : (findK a k).1 = x.v := by omega
      rw [← e, ← e1]
  · intro h i hi hp
    have hm := mark_at fb i
    have hma := mark_at fa i
    cases e : (findK b i).2
    · rw [e] at hm; simp at hm; omega
    · rw [e] at hm; simp at hm
      have e' : findK b i = ((findK b i).1, true) := by rw [← e]
      have hx := h _ (mem_findK e')
      simp only at hx
      rw [hx] at hma
      simp at hma
      omega
theorem matchOf_no1 {a b : List LV} (h : labsOk a = false) : matchOf a b = false := by simp [matchOf, h]
theorem matchOf_no2 {a b : List LV} (h : labsOk b = false) : matchOf a b = false := by simp [matchOf, h]
theorem matchOf_yes {a b : List LV} (ha : labsOk a = true) (hb : labsOk b = true) : matchOf a b = hasAllM (readOf a) (readOf b) := by
  rw [hasAll_of ha hb]; simp [matchOf, ha, hb]

set_option maxHeartbeats 1600000 in
theorem LabsMatch_any (v1 v2 : Value) (a b : List LV) (w : World) (h1 : LabSl w v1 a) (h2 : LabSl w v2 b) (hl1 : a.length ≤ 1048576) (hl2 : b.length ≤ 1048576) :
    Calls Tryz.prog 105 #[v1, v2] w fun e w' => e = .returned (.bool (matchOf a b)) ∧ Below w.heap.size w w' := by
  have r1 := readLabs_any v1 a w h1 hl1
  have r2 := fun w1 (hb : Below w.heap.size w w1) => readLabs_any v2 b (w1.alloc (.cells #[.int .i64 (readOf a 0), .int .i64 (readOf a 1), .int .i64 (readOf a 2), .int .i64 (readOf a 3), .int .i64 (readOf a 4), .int .i64 (readOf a 5), .int .i64 (readOf a 6), .int .i64 (readOf a 7), .int .i64 (readOf a 8), .int .i64 (readOf a 9)] 141)) ((h2.below hb).below ((Below.refl _ _).alloc (Nat.le_refl _) _)) hl2
  clear h1 h2
  cases ha : labsOk a
  · rw [ha] at r1
    have R1 := Lib.hid r1
    have HM := Lib.hid (matchOf_no1 (b := b) ha)
    clear r1 r2 ha
    go_enter Tryz.func105, Tryz.ntmps105
    go_wp2_with fail
    refine R1.out.mono ?_
    rintro e w1 ⟨rfl, hb1⟩
    have hz1 := hb1.size
    go_wp2_with fail
    go_ret
    rw [HM.out]
    exact ⟨rfl, (by repeat' (first | exact Below.refl _ _ | refine Below.alloc ?_ ?_ _ | refine Below.setCell ?_ ?_ _ | refine Below.drew ?_ | (apply below_step; assumption) | (simp; done) | (simp; omega) | omega))⟩
  · rw [ha] at r1
    cases hb : labsOk b
    · rw [hb] at r2
      have R1 := Lib.hid r1
      have R2 := Lib.hid r2
      have HM := Lib.hid (matchOf_no2 (a := a) hb)
      clear r1 r2 ha hb
      generalize readOf a = m1 at R1 R2
      go_enter Tryz.func105, Tryz.ntmps105
      go_wp2_with fail
      refine R1.out.mono ?_
      rintro e w1 ⟨rfl, hb1⟩
      have hz1 := hb1.size
      go_wp2_with fail
      refine (R2.out w1 hb1).mono ?_
      rintro e w2 ⟨rfl, hb2⟩
      have hz2 := hb2.size
      simp at hz2
      go_wp2_with fail
      go_ret
      rw [HM.out]
      exact ⟨rfl, (by repeat' (first | exact Below.refl _ _ | refine Below.alloc ?_ ?_ _ | refine Below.setCell ?_ ?_ _ | refine Below.drew ?_ | (apply below_step; assumption) | (simp; done) | (simp; omega) | omega))⟩
    · rw [hb] at r2
      have R1 := Lib.hid r1
      have R2 := Lib.hid r2
      have HM := Lib.hid (matchOf_yes ha hb)
      clear r1 r2 ha hb
      generalize readOf a = m1 at R1 R2 HM
      generalize readOf b = m2 at R2 HM
      go_enter Tryz.func105, Tryz.ntmps105
      go_wp2_with fail
      refine R1.out.mono ?_
      rintro e w1 ⟨rfl, hb1⟩
      have hz1 := hb1.size
      go_wp2_with fail
      refine (R2.out w1 hb1).mono ?_
      rintro e w2 ⟨rfl, hb2⟩
      have hz2 := hb2.size
      simp at hz2
      have hM1 := ((BlockIs.new w1 141 #[.int .i64 (m1 0), .int .i64 (m1 1), .int .i64 (m1 2), .int .i64 (m1 3), .int .i64 (m1 4), .int .i64 (m1 5), .int .i64 (m1 6), .int .i64 (m1 7), .int .i64 (m1 8), .int .i64 (m1 9)]).below hb2 (by simp)).alloc (.cells #[.int .i64 (m2 0), .int .i64 (m2 1), .int .i64 (m2 2), .int .i64 (m2 3), .int .i64 (m2 4), .int .i64 (m2 5), .int .i64 (m2 6), .int .i64 (m2 7), .int .i64 (m2 8), .int .i64 (m2 9)] 141)
      have z0 := (hM1).cell 0; have z1 := (hM1).cell 1; have z2 := (hM1).cell 2; have z3 := (hM1).cell 3; have z4 := (hM1).cell 4; have z5 := (hM1).cell 5; have z6 := (hM1).cell 6; have z7 := (hM1).cell 7; have z8 := (hM1).cell 8; have z9 := (hM1).cell 9; simp at z0 z1 z2 z3 z4 z5 z6 z7 z8 z9
      clear hM1
      go_wp2_with fail
      refine (hasAll_any m1 m2 _).mono ?_
      rintro e w3 ⟨rfl, hb3⟩
      have hz3 := hb3.size
      simp at hz3
      go_wp2_with fail
      go_ret
      rw [HM.out]
      exact ⟨rfl, (by repeat' (first | exact Below.refl _ _ | refine Below.alloc ?_ ?_ _ | refine Below.setCell ?_ ?_ _ | refine Below.drew ?_ | (apply below_step; assumption) | (simp; done) | (simp; omega) | omega))⟩
end Go.Proofs.YtkaecjjbammphaaGreatDoor

namespace Go.Proofs.YtkaecjjbammphaaGreatDoor
open Go.RowKit

theorem readTaints_long (A : Option Addr) (n c : Nat) (w : World) (h : 6 < n) (hm : n ≤ 1048576) :
    Calls Tryz.prog 102 #[.slice A n c] w (RetM mzero false w) := by
  have h6 : (6 : Int) < (n : Int) := by omega
  go_enter Tryz.func102, Tryz.ntmps102
  go_wp2_with fail
  exact bodyPost_ret (v := .tuple #[.agg #[.int .i64 (mzero 0), .int .i64 (mzero 1), .int .i64 (mzero 2), .int .i64 (mzero 3), .int .i64 (mzero 4), .int .i64 (mzero 5), .int .i64 (mzero 6), .int .i64 (mzero 7), .int .i64 (mzero 8), .int .i64 (mzero 9)], .bool false]) (by simp [results, Tryz.results102, go_sem, mzero]) rfl ⟨rfl, (by repeat' (first | exact Below.refl _ _ | refine Below.alloc ?_ ?_ _ | refine Below.setCell ?_ ?_ _ | refine Below.drew ?_ | (apply below_step; assumption) | (simp; done) | (simp; omega) | omega))⟩

set_option maxHeartbeats 1600000 in
theorem readTaints_short (v : Value) (t : List Int) (w : World) (hv : IntSl w v t) (hlen : t.length ≤ 6) :
    Calls Tryz.prog 102 #[v] w (RetM (readOf (tl t)) (labsOk (tl t)) w) := by
  obtain ⟨A, c, rfl, hA⟩ := hv.form
  have HA := Lib.hid hA
  clear hA hv
  have h6 : (t.length : Int) ≤ 6 := by omega
  go_enter Tryz.func102, Tryz.ntmps102
  go_wp2_with fail
  go_loopw [4, 13] (fun s4 s13 wr => ∃ k : Nat, k ≤ t.length ∧ s13 = .int .i64 k ∧ Owns wr (w.heap.size + 1) s4 (tl (t.take k)) ∧ Below w.heap.size w wr ∧ w.heap.size + 1 ≤ wr.heap.size ∧ BlockIs wr w.heap.size 141 #[.int .i64 (mzero 0), .int .i64 (mzero 1), .int .i64 (mzero 2), .int .i64 (mzero 3), .int .i64 (mzero 4), .int .i64 (mzero 5), .int .i64 (mzero 6), .int .i64 (mzero 7), .int .i64 (mzero 8), .int .i64 (mzero 9)]) (fun _ s13 _ => (t.length - intOf s13).toNat)
  case atStart =>
    exact ⟨0, by omega, rfl, Owns.nil _ _, (by repeat' (first | exact Below.refl _ _ | refine Below.alloc ?_ ?_ _ | refine Below.setCell ?_ ?_ _ | refine Below.drew ?_ | (apply below_step; assumption) | (simp; done) | (simp; omega) | omega)), by simp, BlockIs.new _ _ _⟩
  case round =>
    obtain ⟨k, hk, rfl, hown, hB, hzr, hblk⟩ := hrel
    have HOW := Lib.hid hown
    have HBK := Lib.hid hblk
    clear hown
    by_cases hlt : k < t.length
    · obtain ⟨b, off, rfl, hbw, hat⟩ := HA.out (by omega)
      obtain ⟨z, hz⟩ : ∃ r, t[k]? = some r := ⟨_, List.getElem?_eq_getElem hlt⟩
      have q0 := (hat.below hB hbw) k z hz
      have HT := Lib.hid (tl_take hz)
      have hlti : (k : Int) < (t.length : Int) := by omega
      have HL := Lib.hid (show (tl (t.take k)).length ≤ 6 by rw [tl_len, List.length_take]; omega)
      clear hat hz hblk
      go_wp2_with (at_builtin; refine wpList_append_lab _ rfl (.tmp 17) (.tmp 20) rfl (w.heap.size + 1) _ (tl (t.take k)) ⟨z, 0⟩ wr.heap.size rfl (HOW.out.alloc _) rfl (by simp) (by simp) (by have := HL.out; omega) (by simp; omega) ?_; intro v' w1 hown1 hb1)
      have hz1 := hb1.size
      simp at hz1
      go_roundw
      case rel =>
        refine ⟨k + 1, by omega, by go_num, ?_, ?_, by omega, ?_⟩
        · rw [HT.out]; exact hown1
        · exact (hB.alloc (by omega) _).trans (hb1.mono (by omega))
        · exact (HBK.out.alloc _).below hb1 (by omega)
      case measure => simp [intOf]; omega
    · have hkl : k = t.length := by omega
      have ho : Owns wr (w.heap.size + 1) u4 (tl t) := by
        have := HOW.out
        rwa [hkl, List.take_length] at this
      have hr := readLabs_any _ (tl t) wr ho.sl (by rw [tl_len]; omega)
      have HR := Lib.hid hr
      clear hkl hblk ho hr
      go_wp2_with fail
      refine HR.out.mono ?_
      rintro e w1 ⟨rfl, hb1⟩
      have hz1 := hb1.size
      have hB1 : Below w.heap.size w w1 := hB.trans (hb1.mono (by omega))
      have hZ := HBK.out.below hb1 (by omega)
      have HZ := Lib.hid hZ
      have z0 := (hZ).cell 0; have z1 := (hZ).cell 1; have z2 := (hZ).cell 2; have z3 := (hZ).cell 3; have z4 := (hZ).cell 4; have z5 := (hZ).cell 5; have z6 := (hZ).cell 6; have z7 := (hZ).cell 7; have z8 := (hZ).cell 8; have z9 := (hZ).cell 9; simp at z0 z1 z2 z3 z4 z5 z6 z7 z8 z9
      have zf := hZ.frozen
      clear hZ
      go_wp2_with fail
      have hX : BlockIs ((((((((((w1.setCell ⟨w.heap.size, 0, none⟩ (.int .i64 (readOf (tl t) 0))).setCell ⟨w.heap.size, 1, none⟩ (.int .i64 (readOf (tl t) 1))).setCell ⟨w.heap.size, 2, none⟩ (.int .i64 (readOf (tl t) 2))).setCell ⟨w.heap.size, 3, none⟩ (.int .i64 (readOf (tl t) 3))).setCell ⟨w.heap.size, 4, none⟩ (.int .i64 (readOf (tl t) 4))).setCell ⟨w.heap.size, 5, none⟩ (.int .i64 (readOf (tl t) 5))).setCell ⟨w.heap.size, 6, none⟩ (.int .i64 (readOf (tl t) 6))).setCell ⟨w.heap.size, 7, none⟩ (.int .i64 (readOf (tl t) 7))).setCell ⟨w.heap.size, 8, none⟩ (.int .i64 (readOf (tl t) 8))).setCell ⟨w.heap.size, 9, none⟩ (.int .i64 (readOf (tl t) 9))) w.heap.size 141 #[.int .i64 (readOf (tl t) 0), .int .i64 (readOf (tl t) 1), .int .i64 (readOf (tl t) 2), .int .i64 (readOf (tl t) 3), .int .i64 (readOf (tl t) 4), .int .i64 (readOf (tl t) 5), .int .i64 (readOf (tl t) 6), .int .i64 (readOf (tl t) 7), .int .i64 (readOf (tl t) 8), .int .i64 (readOf (tl t) 9)] := put10 (readOf (tl t)) HZ.out
      have hBX : Below w.heap.size w ((((((((((w1.setCell ⟨w.heap.size, 0, none⟩ (.int .i64 (readOf (tl t) 0))).setCell ⟨w.heap.size, 1, none⟩ (.int .i64 (readOf (tl t) 1))).setCell ⟨w.heap.size, 2, none⟩ (.int .i64 (readOf (tl t) 2))).setCell ⟨w.heap.size, 3, none⟩ (.int .i64 (readOf (tl t) 3))).setCell ⟨w.heap.size, 4, none⟩ (.int .i64 (readOf (tl t) 4))).setCell ⟨w.heap.size, 5, none⟩ (.int .i64 (readOf (tl t) 5))).setCell ⟨w.heap.size, 6, none⟩ (.int .i64 (readOf (tl t) 6))).setCell ⟨w.heap.size, 7, none⟩ (.int .i64 (readOf (tl t) 7))).setCell ⟨w.heap.size, 8, none⟩ (.int .i64 (readOf (tl t) 8))).setCell ⟨w.heap.size, 9, none⟩ (.int .i64 (readOf (tl t) 9))) := below10 (readOf (tl t)) hB1 (Nat.le_refl _)
      generalize ((((((((((w1.setCell ⟨w.heap.size, 0, none⟩ (.int .i64 (readOf (tl t) 0))).setCell ⟨w.heap.size, 1, none⟩ (.int .i64 (readOf (tl t) 1))).setCell ⟨w.heap.size, 2, none⟩ (.int .i64 (readOf (tl t) 2))).setCell ⟨w.heap.size, 3, none⟩ (.int .i64 (readOf (tl t) 3))).setCell ⟨w.heap.size, 4, none⟩ (.int .i64 (readOf (tl t) 4))).setCell ⟨w.heap.size, 5, none⟩ (.int .i64 (readOf (tl t) 5))).setCell ⟨w.heap.size, 6, none⟩ (.int .i64 (readOf (tl t) 6))).setCell ⟨w.heap.size, 7, none⟩ (.int .i64 (readOf (tl t) 7))).setCell ⟨w.heap.size, 8, none⟩ (.int .i64 (readOf (tl t) 8))).setCell ⟨w.heap.size, 9, none⟩ (.int .i64 (readOf (tl t) 9))) = X at hX hBX ⊢
      clear z0 z1 z2 z3 z4 z5 z6 z7 z8 z9
      have z0 := (hX).cell 0; have z1 := (hX).cell 1; have z2 := (hX).cell 2; have z3 := (hX).cell 3; have z4 := (hX).cell 4; have z5 := (hX).cell 5; have z6 := (hX).cell 6; have z7 := (hX).cell 7; have z8 := (hX).cell 8; have z9 := (hX).cell 9; simp at z0 z1 z2 z3 z4 z5 z6 z7 z8 z9
      exact bodyPost_ret (v := .tuple #[.agg #[.int .i64 (readOf (tl t) 0), .int .i64 (readOf (tl t) 1), .int .i64 (readOf (tl t) 2), .int .i64 (readOf (tl t) 3), .int .i64 (readOf (tl t) 4), .int .i64 (readOf (tl t) 5), .int .i64 (readOf (tl t) 6), .int .i64 (readOf (tl t) 7), .int .i64 (readOf (tl t) 8), .int .i64 (readOf (tl t) 9)], .bool (labsOk (tl t))]) (by simp [results, Tryz.results102, go_sem, z0, z1, z2, z3, z4, z5, z6, z7, z8, z9]) rfl ⟨rfl, hBX⟩

theorem readTaints_any (v : Value) (t : List Int) (w : World) (hv : IntSl w v t) (hlen : t.length ≤ 1048576) :
    Calls Tryz.prog 102 #[v] w (RetM (readOf (tl t)) (labsOk (tl t)) w) := by
  by_cases h : t.length ≤ 6
  · exact readTaints_short v t w hv h
  · obtain ⟨A, c, rfl, _⟩ := hv.form
    rw [readOf_no (labsOk_long (by rw [tl_len]; omega)), labsOk_long (by rw [tl_len]; omega)]
    exact readTaints_long A t.length c w (by omega) hlen

theorem TaintsOk_any (v : Value) (t : List Int) (w : World) (hv : IntSl w v t) (hlen : t.length ≤ 1048576) :
    Calls Tryz.prog 86 #[v] w fun e w' => e = .returned (.bool (labsOk (tl t))) ∧ Below w.heap.size w w' := by
  have H := Lib.hid (readTaints_any v t w hv hlen)
  clear hv
  go_enter Tryz.func86, Tryz.ntmps86
  go_wp2_with fail
  refine H.out.mono ?_
  rintro e w1 ⟨rfl, hb1⟩
  have hz1 := hb1.size
  go_wp2_with fail
  go_ret
  exact ⟨rfl, (by repeat' (first | exact Below.refl _ _ | refine Below.alloc ?_ ?_ _ | refine Below.setCell ?_ ?_ _ | refine Below.drew ?_ | (apply below_step; assumption) | (simp; done) | (simp; omega) | omega))⟩

set_option maxHeartbeats 1600000 in
theorem Tolerates_any (v1 v2 : Value) (a b : List Int) (w : World) (h1 : IntSl w v1 a) (h2 : IntSl w v2 b) (hl1 : a.length ≤ 1048576) (hl2 : b.length ≤ 1048576) :
    Calls Tryz.prog 106 #[v1, v2] w fun e w' => e = .returned (.bool (tolOf a b)) ∧ Below w.heap.size w w' := by
  have r1 := readTaints_any v1 a w h1 hl1
  have r2 := fun w1 (hb : Below w.heap.size w w1) => readTaints_any v2 b (w1.alloc (.cells #[.int .i64 (readOf (tl a) 0), .int .i64 (readOf (tl a) 1), .int .i64 (readOf (tl a) 2), .int .i64 (readOf (tl a) 3), .int .i64 (readOf (tl a) 4), .int .i64 (readOf (tl a) 5), .int .i64 (readOf (tl a) 6), .int .i64 (readOf (tl a) 7), .int .i64 (readOf (tl a) 8), .int .i64 (readOf (tl a) 9)] 141)) ((h2.below hb).below ((Below.refl _ _).alloc (Nat.le_refl _) _)) hl2
  clear h1 h2
  unfold tolOf
  cases ha : labsOk (tl a)
  · rw [ha] at r1
    have R1 := Lib.hid r1
    have HM := Lib.hid (matchOf_no2 (a := tl b) ha)
    clear r1 r2 ha
    go_enter Tryz.func106, Tryz.ntmps106
    go_wp2_with fail
    refine R1.out.mono ?_
    rintro e w1 ⟨rfl, hb1⟩
    have hz1 := hb1.size
    go_wp2_with fail
    go_ret
    rw [HM.out]
    exact ⟨rfl, (by repeat' (first | exact Below.refl _ _ | refine Below.alloc ?_ ?_ _ | refine Below.setCell ?_ ?_ _ | refine Below.drew ?_ | (apply below_step; assumption) | (simp; done) | (simp; omega) | omega))⟩
  · rw [ha] at r1
    cases hb : labsOk (tl b)
    · rw [hb] at r2
      have R1 := Lib.hid r1
      have R2 := Lib.hid r2
      have HM := Lib.hid (matchOf_no1 (b := tl a) hb)
      clear r1 r2 ha hb
      generalize readOf (tl a) = m1 at R1 R2
      go_enter Tryz.func106, Tryz.ntmps106
      go_wp2_with fail
      refine R1.out.mono ?_
      rintro e w1 ⟨rfl, hb1⟩
      have hz1 := hb1.size
      go_wp2_with fail
      refine (R2.out w1 hb1).mono ?_
      rintro e w2 ⟨rfl, hb2⟩
      have hz2 := hb2.size
      simp at hz2
      go_wp2_with fail
      go_ret
      rw [HM.out]
      exact ⟨rfl, (by repeat' (first | exact Below.refl _ _ | refine Below.alloc ?_ ?_ _ | refine Below.setCell ?_ ?_ _ | refine Below.drew ?_ | (apply below_step; assumption) | (simp; done) | (simp; omega) | omega))⟩
    · rw [hb] at r2
      have R1 := Lib.hid r1
      have R2 := Lib.hid r2
      have HM := Lib.hid (matchOf_yes hb ha)
      clear r1 r2 ha hb
      generalize readOf (tl a) = m1 at R1 R2 HM
      generalize readOf (tl b) = m2 at R2 HM
      go_enter Tryz.func106, Tryz.ntmps106
      go_wp2_with fail
      refine R1.out.mono ?_
      rintro e w1 ⟨rfl, hb1⟩
      have hz1 := hb1.size
      go_wp2_with fail
      refine (R2.out w1 hb1).mono ?_
      rintro e w2 ⟨rfl, hb2⟩
      have hz2 := hb2.size
      simp at hz2
      have hM1 := ((BlockIs.new w1 141 #[.int .i64 (m1 0), .int .i64 (m1 1), .int .i64 (m1 2), .int .i64 (m1 3), .int .i64 (m1 4), .int .i64 (m1 5), .int .i64 (m1 6), .int .i64 (m1 7), .int .i64 (m1 8), .int .i64 (m1 9)]).below hb2 (by simp)).alloc (.cells #[.int .i64 (m2 0), .int .i64 (m2 1), .int .i64 (m2 2), .int .i64 (m2 3), .int .i64 (m2 4), .int .i64 (m2 5), .int .i64 (m2 6), .int .i64 (m2 7), .int .i64 (m2 8), .int .i64 (m2 9)] 141)
      have z0 := (hM1).cell 0; have z1 := (hM1).cell 1; have z2 := (hM1).cell 2; have z3 := (hM1).cell 3; have z4 := (hM1).cell 4; have z5 := (hM1).cell 5; have z6 := (hM1).cell 6; have z7 := (hM1).cell 7; have z8 := (hM1).cell 8; have z9 := (hM1).cell 9; simp at z0 z1 z2 z3 z4 z5 z6 z7 z8 z9
      clear hM1
      go_wp2_with fail
      refine (hasAll_any m2 m1 _).mono ?_
      rintro e w3 ⟨rfl, hb3⟩
      have hz3 := hb3.size
      simp at hz3
      go_wp2_with fail
      go_ret
      rw [HM.out]
      exact ⟨rfl, (by repeat' (first | exact Below.refl _ _ | refine Below.alloc ?_ ?_ _ | refine Below.setCell ?_ ?_ _ | refine Below.drew ?_ | (apply below_step; assumption) | (simp; done) | (simp; omega) | omega))⟩
end Go.Proofs.YtkaecjjbammphaaGreatDoor

namespace Go.Proofs.YtkaecjjbammphaaGreatDoor
open Go.RowKit

theorem idOk_any (n : Int) (w : World) : Calls Tryz.prog 83 #[.int .i64 n] w fun e w' => e = .returned (.bool (idOk n)) ∧ w = w' := by
  by_cases h1 : 1 ≤ n
  · by_cases h2 : n ≤ 99
    · have H := Lib.hid (idOk_iff.2 ⟨h1, h2⟩)
      go_enter Tryz.func83, Tryz.ntmps83
      go_wp2
      go_ret
      exact ⟨by rw [H.out]; simp, rfl⟩
    · have H := Lib.hid (idBad_iff.2 (fun h => h2 h.2))
      have h3 : 99 < n := by omega
      clear h2
      go_enter Tryz.func83, Tryz.ntmps83
      go_wp2
      go_ret
      exact ⟨by rw [H.out]; simp; omega, rfl⟩
  · have H := Lib.hid (idBad_iff.2 (fun h => h1 h.1))
    have h2 : n < 1 := by omega
    clear h1
    go_enter Tryz.func83, Tryz.ntmps83
    go_wp2
    go_ret
    exact ⟨by rw [H.out]; rfl, rfl⟩

theorem tv_ok_eq (t : TV) (b1 b2 b3 b4 b5 b6 : Bool) (h1 : idOk t.id = b1) (h2 : decide (0 ≤ t.prio) = b2) (h3 : decide (t.prio ≤ 9) = b3) (h4 : t.need.ok = b4) (h5 : labsOk t.want = b5) (h6 : labsOk (tl t.tols) = b6) : t.ok = (b1 && b2 && b3 && b4 && b5 && b6) := by
  subst h1 h2 h3 h4 h5 h6; rfl
theorem nv_ok_eq (t : NV) (b1 b2 b3 b4 b5 b6 : Bool) (h1 : idOk t.id = b1) (h2 : decide (0 ≤ t.pool) = b2) (h3 : decide (t.pool < 5) = b3) (h4 : t.cap.ok = b4) (h5 : labsOk t.labs = b5) (h6 : labsOk (tl t.taints) = b6) : t.ok = (b1 && b2 && b3 && b4 && b5 && b6) := by
  subst h1 h2 h3 h4 h5 h6; rfl

set_option maxHeartbeats 1600000 in
theorem TaskOk_any (t : TV) (v1 v2 : Value) (w : World) (x : Addr) (hg : ErrAt x w) (h1 : LabSl w v1 t.want) (h2 : IntSl w v2 t.tols) (l1 : t.want.length ≤ 1048576) (l2 : t.tols.length ≤ 1048576) :
    Calls Tryz.prog 65 #[.agg #[.int .i64 t.id, .int .i64 t.prio, .int .i64 t.need.c, .int .i64 t.need.m, .int .i64 t.need.p, v1, v2]] w fun e w' => e = .returned (.bool t.ok) ∧ Below w.heap.size w w' := by
  have HG := Lib.hid hg
  have HL := Lib.hid h1
  have HI := Lib.hid h2
  have HE := Lib.hid (tv_ok_eq t)
  have hid := idOk_any t.id
  have hne : ∀ w x (hg : ErrAt x w), Calls Tryz.prog 84 #[.agg #[.int .i64 t.need.c, .int .i64 t.need.m, .int .i64 t.need.p]] w fun e w' => e = .returned (.bool t.need.ok) ∧ Below w.heap.size w w' := fun w x hg => ResOk_any t.need w x hg
  have hla : ∀ w (h : LabSl w v1 t.want), Calls Tryz.prog 85 #[v1] w fun e w' => e = .returned (.bool (labsOk t.want)) ∧ Below w.heap.size w w' := fun w h => LabsOk_any v1 t.want w h l1
  have hta : ∀ w (h : IntSl w v2 t.tols), Calls Tryz.prog 86 #[v2] w fun e w' => e = .returned (.bool (labsOk (tl t.tols))) ∧ Below w.heap.size w w' := fun w h => TaintsOk_any v2 t.tols w h l2
  generalize t.ok = ok at *
  generalize e1 : idOk t.id = b1 at hid
  generalize e2 : decide (0 ≤ t.prio) = b2
  generalize e3 : decide (t.prio ≤ 9) = b3
  generalize e4 : t.need.ok = b4 at hne
  generalize e5 : labsOk t.want = b5 at hla
  generalize e6 : labsOk (tl t.tols) = b6 at hta
  have HE' := Lib.hid (HE.out _ _ _ _ _ _ e1 e2 e3 e4 e5 e6)
  have HID := Lib.hid hid
  have HNE := Lib.hid hne
  have HLA := Lib.hid hla
  have HTA := Lib.hid hta
  clear hg h1 h2 hid hne hla hta e1 e4 e5 e6 HE l1 l2
  go_enter Tryz.func65, Tryz.ntmps65
  go_wp2_with fail
  refine (HID.out _).mono ?_
  rintro e w1 ⟨rfl, rfl⟩
  cases b1
  · go_wp2_with fail
    go_ret
    exact ⟨by rw [HE'.out]; simp, (by repeat' (first | exact Below.refl _ _ | refine Below.alloc ?_ ?_ _ | refine Below.setCell ?_ ?_ _ | refine Below.drew ?_ | (apply below_step; assumption) | (simp; done) | (simp; omega) | omega))⟩
  cases b2
  · go_wp2_with fail
    go_ret
    exact ⟨by rw [HE'.out]; simp, (by repeat' (first | exact Below.refl _ _ | refine Below.alloc ?_ ?_ _ | refine Below.setCell ?_ ?_ _ | refine Below.drew ?_ | (apply below_step; assumption) | (simp; done) | (simp; omega) | omega))⟩
  cases b3
  · go_wp2_with fail
    go_ret
    exact ⟨by rw [HE'.out]; simp, (by repeat' (first | exact Below.refl _ _ | refine Below.alloc ?_ ?_ _ | refine Below.setCell ?_ ?_ _ | refine Below.drew ?_ | (apply below_step; assumption) | (simp; done) | (simp; omega) | omega))⟩
  go_wp2_with fail
  refine (HNE.out _ x (HG.out.alloc _)).mono ?_
  rintro e w2 ⟨rfl, hb2⟩
  have hz2 := hb2.size
  simp at hz2
  obtain ⟨hc2, hf2⟩ := bcell hb2
  have hC2 : Below w.heap.size w w2 := ((Below.refl _ _).alloc (Nat.le_refl _) _).trans (hb2.mono (by simp))
  cases b4
  · go_wp2_with fail
    go_ret
    exact ⟨by rw [HE'.out]; simp, hC2⟩
  go_wp2_with fail
  refine (HLA.out _ (HL.out.below hC2)).mono ?_
  rintro e w3 ⟨rfl, hb3⟩
  have hz3 := hb3.size
  obtain ⟨hc3, hf3⟩ := bcell hb3
  have hs2 : w.heap.size < w2.heap.size := by omega
  have hC3 : Below w.heap.size w w3 := hC2.trans (hb3.mono hC2.size)
  cases b5
  · go_wp2_with fail
    go_ret
    exact ⟨by rw [HE'.out]; simp, hC3⟩
  go_wp2_with fail
  refine (HTA.out _ (HI.out.below hC3)).mono ?_
  rintro e w4 ⟨rfl, hb4⟩
  have hC4 : Below w.heap.size w w4 := hC3.trans (hb4.mono hC3.size)
  go_wp2_with fail
  go_ret
  exact ⟨by rw [HE'.out]; simp, hC4⟩
set_option maxHeartbeats 1600000 in
theorem NodeOk_any (t : NV) (v1 v2 : Value) (w : World) (x : Addr) (hg : ErrAt x w) (h1 : LabSl w v1 t.labs) (h2 : IntSl w v2 t.taints) (l1 : t.labs.length ≤ 1048576) (l2 : t.taints.length ≤ 1048576) :
    Calls Tryz.prog 66 #[.agg #[.int .i64 t.id, .int .i64 t.pool, .int .i64 t.cap.c, .int .i64 t.cap.m, .int .i64 t.cap.p, v1, v2, .bool t.cordon]] w fun e w' => e = .returned (.bool t.ok) ∧ Below w.heap.size w w' := by
  have HG := Lib.hid hg
  have HL := Lib.hid h1
  have HI := Lib.hid h2
  have HE := Lib.hid (nv_ok_eq t)
  have hid := idOk_any t.id
  have hne : ∀ w x (hg : ErrAt x w), Calls Tryz.prog 84 #[.agg #[.int .i64 t.cap.c, .int .i64 t.cap.m, .int .i64 t.cap.p]] w fun e w' => e = .returned (.bool t.cap.ok) ∧ Below w.heap.size w w' := fun w x hg => ResOk_any t.cap w x hg
  have hla : ∀ w (h : LabSl w v1 t.labs), Calls Tryz.prog 85 #[v1] w fun e w' => e = .returned (.bool (labsOk t.labs)) ∧ Below w.heap.size w w' := fun w h => LabsOk_any v1 t.labs w h l1
  have hta : ∀ w (h : IntSl w v2 t.taints), Calls Tryz.prog 86 #[v2] w fun e w' => e = .returned (.bool (labsOk (tl t.taints))) ∧ Below w.heap.size w w' := fun w h => TaintsOk_any v2 t.taints w h l2
  generalize t.ok = ok at *
  generalize e1 : idOk t.id = b1 at hid
  generalize e2 : decide (0 ≤ t.pool) = b2
  generalize e3 : decide (t.pool < 5) = b3
  generalize e4 : t.cap.ok = b4 at hne
  generalize e5 : labsOk t.labs = b5 at hla
  generalize e6 : labsOk (tl t.taints) = b6 at hta
  have HE' := Lib.hid (HE.out _ _ _ _ _ _ e1 e2 e3 e4 e5 e6)
  have HID := Lib.hid hid
  have HNE := Lib.hid hne
  have HLA := Lib.hid hla
  have HTA := Lib.hid hta
  clear hg h1 h2 hid hne hla hta e1 e4 e5 e6 HE l1 l2
  go_enter Tryz.func66, Tryz.ntmps66
  go_wp2_with fail
  refine (HID.out _).mono ?_
  rintro e w1 ⟨rfl, rfl⟩
  cases b1
  · go_wp2_with fail
    go_ret
    exact ⟨by rw [HE'.out]; simp, (by repeat' (first | exact Below.refl _ _ | refine Below.alloc ?_ ?_ _ | refine Below.setCell ?_ ?_ _ | refine Below.drew ?_ | (apply below_step; assumption) | (simp; done) | (simp; omega) | omega))⟩
  cases b2
  · go_wp2_with fail
    go_ret
    exact ⟨by rw [HE'.out]; simp, (by repeat' (first | exact Below.refl _ _ | refine Below.alloc ?_ ?_ _ | refine Below.setCell ?_ ?_ _ | refine Below.drew ?_ | (apply below_step; assumption) | (simp; done) | (simp; omega) | omega))⟩
  cases b3
  · go_wp2_with fail
    go_ret
    exact ⟨by rw [HE'.out]; simp, (by repeat' (first | exact Below.refl _ _ | refine Below.alloc ?_ ?_ _ | refine Below.setCell ?_ ?_ _ | refine Below.drew ?_ | (apply below_step; assumption) | (simp; done) | (simp; omega) | omega))⟩
  go_wp2_with fail
  refine (HNE.out _ x (HG.out.alloc _)).mono ?_
  rintro e w2 ⟨rfl, hb2⟩
  have hz2 := hb2.size
  simp at hz2
  obtain ⟨hc2, hf2⟩ := bcell hb2
  have hC2 : Below w.heap.size w w2 := ((Below.refl _ _).alloc (Nat.le_refl _) _).trans (hb2.mono (by simp))
  cases b4
  · go_wp2_with fail
    go_ret
    exact ⟨by rw [HE'.out]; simp, hC2⟩
  go_wp2_with fail
  refine (HLA.out _ (HL.out.below hC2)).mono ?_
  rintro e w3 ⟨rfl, hb3⟩
  have hz3 := hb3.size
  obtain ⟨hc3, hf3⟩ := bcell hb3
  have hs2 : w.heap.size < w2.heap.size := by omega
  have hC3 : Below w.heap.size w w3 := hC2.trans (hb3.mono hC2.size)
  cases b5
  · go_wp2_with fail
    go_ret
    exact ⟨by rw [HE'.out]; simp, hC3⟩
  go_wp2_with fail
  refine (HTA.out _ (HI.out.below hC3)).mono ?_
  rintro e w4 ⟨rfl, hb4⟩
  have hC4 : Below w.heap.size w w4 := hC3.trans (hb4.mono hC3.size)
  go_wp2_with fail
  go_ret
  exact ⟨by rw [HE'.out]; simp, hC4⟩

theorem ma_eq (n : NV) (t : TV) (b3 b4 : Bool) (h3 : matchOf n.labs t.want = b3) (h4 : tolOf n.taints t.tols = b4) : hosts n t = (b3 && b4) := by
  subst h3 h4; rfl
theorem ch_eq (n : NV) (t : TV) (b1 b2 b3 : Bool) (h1 : n.ok = b1) (h2 : t.ok = b2) (h3 : hosts n t = b3) : canHost n t = (b1 && b2 && b3) := by
  subst h1 h2 h3; rfl

set_option maxHeartbeats 1600000 in
theorem marksAllow_any (n : NV) (t : TV) (u1 u2 v1 v2 : Value) (w : World) (k1 : LabSl w u1 n.labs) (k2 : IntSl w u2 n.taints) (h1 : LabSl w v1 t.want) (h2 : IntSl w v2 t.tols)
    (m1 : n.labs.length ≤ 1048576) (m2 : n.taints.length ≤ 1048576) (l1 : t.want.length ≤ 1048576) (l2 : t.tols.length ≤ 1048576) :
    Calls Tryz.prog 91 #[.agg #[.int .i64 n.id, .int .i64 n.pool, .int .i64 n.cap.c, .int .i64 n.cap.m, .int .i64 n.cap.p, u1, u2, .bool n.cordon], .agg #[.int .i64 t.id, .int .i64 t.prio, .int .i64 t.need.c, .int .i64 t.need.m, .int .i64 t.need.p, v1, v2]] w fun e w' => e = .returned (.bool (hosts n t)) ∧ Below w.heap.size w w' := by
  have K1 := Lib.hid k1
  have K2 := Lib.hid k2
  have H1 := Lib.hid h1
  have H2 := Lib.hid h2
  have hla : ∀ w (k : LabSl w u1 n.labs) (h : LabSl w v1 t.want), Calls Tryz.prog 105 #[u1, v1] w fun e w' => e = .returned (.bool (matchOf n.labs t.want)) ∧ Below w.heap.size w w' := fun w k h => LabsMatch_any u1 v1 n.labs t.want w k h m1 l1
  have hta : ∀ w (k : IntSl w u2 n.taints) (h : IntSl w v2 t.tols), Calls Tryz.prog 106 #[u2, v2] w fun e w' => e = .returned (.bool (tolOf n.taints t.tols)) ∧ Below w.heap.size w w' := fun w k h => Tolerates_any u2 v2 n.taints t.tols w k h m2 l2
  have HE := Lib.hid (ma_eq n t)
  generalize hosts n t = ok at *
  generalize e3 : matchOf n.labs t.want = b3 at hla
  generalize e4 : tolOf n.taints t.tols = b4 at hta
  have HE' := Lib.hid (HE.out _ _ e3 e4)
  have HLA := Lib.hid hla
  have HTA := Lib.hid hta
  clear k1 k2 h1 h2 hla hta e3 e4 HE m1 m2 l1 l2
  go_enter Tryz.func91, Tryz.ntmps91
  go_wp2_with fail
  have hC0 : Below w.heap.size w ((w.alloc (.cells #[.int .i64 n.id, .int .i64 n.pool, .int .i64 n.cap.c, .int .i64 n.cap.m, .int .i64 n.cap.p, u1, u2, .bool n.cordon] 51)).alloc (.cells #[.int .i64 t.id, .int .i64 t.prio, .int .i64 t.need.c, .int .i64 t.need.m, .int .i64 t.need.p, v1, v2] 73)) := (by repeat' (first | exact Below.refl _ _ | refine Below.alloc ?_ ?_ _ | refine Below.setCell ?_ ?_ _ | refine Below.drew ?_ | (apply below_step; assumption) | (simp; done) | (simp; omega) | omega))
  refine (HLA.out _ (K1.out.below hC0) (H1.out.below hC0)).mono ?_
  rintro e w3 ⟨rfl, hb3⟩
  have hz3 := hb3.size
  simp at hz3
  obtain ⟨hc3, hf3⟩ := bcell hb3
  have hs2 : w.heap.size < w3.heap.size := by omega
  have hs2' : w.heap.size + 1 < w3.heap.size := by omega
  have hC3 : Below w.heap.size w w3 := hC0.trans (hb3.mono hC0.size)
  cases b3
  · go_wp2_with fail
    go_ret
    exact ⟨by rw [HE'.out]; simp, hC3⟩
  go_wp2_with fail
  refine (HTA.out _ (K2.out.below hC3) (H2.out.below hC3)).mono ?_
  rintro e w4 ⟨rfl, hb4⟩
  have hC4 : Below w.heap.size w w4 := hC3.trans (hb4.mono hC3.size)
  go_wp2_with fail
  go_ret
  exact ⟨by rw [HE'.out]; simp, hC4⟩

set_option maxHeartbeats 1600000 in
theorem CanHost_any (n : NV) (t : TV) (u1 u2 v1 v2 : Value) (w : World) (x : Addr) (hg : ErrAt x w) (k1 : LabSl w u1 n.labs) (k2 : IntSl w u2 n.taints) (h1 : LabSl w v1 t.want) (h2 : IntSl w v2 t.tols)
    (m1 : n.labs.length ≤ 1048576) (m2 : n.taints.length ≤ 1048576) (l1 : t.want.length ≤ 1048576) (l2 : t.tols.length ≤ 1048576) :
    Calls Tryz.prog 69 #[.agg #[.int .i64 n.id, .int .i64 n.pool, .int .i64 n.cap.c, .int .i64 n.cap.m, .int .i64 n.cap.p, u1, u2, .bool n.cordon], .agg #[.int .i64 t.id, .int .i64 t.prio, .int .i64 t.need.c, .int .i64 t.need.m, .int .i64 t.need.p, v1, v2]] w fun e w' => e = .returned (.bool (canHost n t)) ∧ Below w.heap.size w w' := by
  have HG := Lib.hid hg
  have K1 := Lib.hid k1
  have K2 := Lib.hid k2
  have H1 := Lib.hid h1
  have H2 := Lib.hid h2
  have hn : ∀ w x (hg : ErrAt x w) (h1 : LabSl w u1 n.labs) (h2 : IntSl w u2 n.taints), Calls Tryz.prog 66 #[.agg #[.int .i64 n.id, .int .i64 n.pool, .int .i64 n.cap.c, .int .i64 n.cap.m, .int .i64 n.cap.p, u1, u2, .bool n.cordon]] w fun e w' => e = .returned (.bool n.ok) ∧ Below w.heap.size w w' := fun w x hg h1 h2 => NodeOk_any n u1 u2 w x hg h1 h2 m1 m2
  have ht : ∀ w x (hg : ErrAt x w) (h1 : LabSl w v1 t.want) (h2 : IntSl w v2 t.tols), Calls Tryz.prog 65 #[.agg #[.int .i64 t.id, .int .i64 t.prio, .int .i64 t.need.c, .int .i64 t.need.m, .int .i64 t.need.p, v1, v2]] w fun e w' => e = .returned (.bool t.ok) ∧ Below w.heap.size w w' := fun w x hg h1 h2 => TaskOk_any t v1 v2 w x hg h1 h2 l1 l2
  have hma : ∀ w (k1 : LabSl w u1 n.labs) (k2 : IntSl w u2 n.taints) (h1 : LabSl w v1 t.want) (h2 : IntSl w v2 t.tols), Calls Tryz.prog 91 #[.agg #[.int .i64 n.id, .int .i64 n.pool, .int .i64 n.cap.c, .int .i64 n.cap.m, .int .i64 n.cap.p, u1, u2, .bool n.cordon], .agg #[.int .i64 t.id, .int .i64 t.prio, .int .i64 t.need.c, .int .i64 t.need.m, .int .i64 t.need.p, v1, v2]] w fun e w' => e = .returned (.bool (hosts n t)) ∧ Below w.heap.size w w' := fun w k1 k2 h1 h2 => marksAllow_any n t u1 u2 v1 v2 w k1 k2 h1 h2 m1 m2 l1 l2
  have HE := Lib.hid (ch_eq n t)
  generalize canHost n t = ok at *
  generalize e1 : n.ok = b1 at hn
  generalize e2 : t.ok = b2 at ht
  generalize e3 : hosts n t = b3 at hma
  have HE' := Lib.hid (HE.out _ _ _ e1 e2 e3)
  have HN := Lib.hid hn
  have HT := Lib.hid ht
  have HMA := Lib.hid hma
  clear hg k1 k2 h1 h2 hn ht hma e1 e2 e3 HE m1 m2 l1 l2
  go_enter Tryz.func69, Tryz.ntmps69
  go_wp2_with fail
  have hC0 : Below w.heap.size w ((w.alloc (.cells #[.int .i64 n.id, .int .i64 n.pool, .int .i64 n.cap.c, .int .i64 n.cap.m, .int .i64 n.cap.p, u1, u2, .bool n.cordon] 51)).alloc (.cells #[.int .i64 t.id, .int .i64 t.prio, .int .i64 t.need.c, .int .i64 t.need.m, .int .i64 t.need.p, v1, v2] 73)) := (by repeat' (first | exact Below.refl _ _ | refine Below.alloc ?_ ?_ _ | refine Below.setCell ?_ ?_ _ | refine Below.drew ?_ | (apply below_step; assumption) | (simp; done) | (simp; omega) | omega))
  refine (HN.out _ x ((HG.out.alloc _).alloc _) (K1.out.below hC0) (K2.out.below hC0)).mono ?_
  rintro e w1 ⟨rfl, hb1⟩
  have hz1 := hb1.size
  simp at hz1
  obtain ⟨hc1, hf1⟩ := bcell hb1
  have hg1 := Lib.hid (((HG.out.alloc _).alloc _).below hb1 (Nat.le_refl _))
  have hC1 : Below w.heap.size w w1 := hC0.trans (hb1.mono hC0.size)
  cases b1
  · go_wp2_with fail
    go_ret
    exact ⟨by rw [HE'.out]; simp, hC1⟩
  go_wp2_with fail
  refine (HT.out _ x hg1.out (H1.out.below hC1) (H2.out.below hC1)).mono ?_
  rintro e w2 ⟨rfl, hb2⟩
  have hz2 := hb2.size
  obtain ⟨hc2, hf2⟩ := bcell hb2
  have hs1 : w.heap.size < w1.heap.size := by omega
  have hs1' : w.heap.size + 1 < w1.heap.size := by omega
  have hC2 : Below w.heap.size w w2 := hC1.trans (hb2.mono hC1.size)
  cases b2
  · go_wp2_with fail
    go_ret
    exact ⟨by rw [HE'.out]; simp, hC2⟩
  have hs2 : w.heap.size < w2.heap.size := by omega
  have hs2' : w.heap.size + 1 < w2.heap.size := by omega
  go_wp2_with fail
  refine (HMA.out _ (K1.out.below hC2) (K2.out.below hC2) (H1.out.below hC2) (H2.out.below hC2)).mono ?_
  rintro e w3 ⟨rfl, hb3⟩
  have hC3 : Below w.heap.size w w3 := hC2.trans (hb3.mono hC2.size)
  go_wp2_with fail
  go_ret
  exact ⟨by rw [HE'.out]; simp, hC3⟩
end Go.Proofs.YtkaecjjbammphaaGreatDoor

namespace Go.Proofs.YtkaecjjbammphaaGreatDoor
open Go.RowKit

def SeenIs (w : World) (g : Nat) (s : List Int) : Prop := ∃ cs : Array Value, BlockIs w g 101 cs ∧ cs.size = 100 ∧ ∀ i : Nat, i < 100 → cs[i]? = some (.bool (s.contains (i : Int)))
theorem SeenIs.below {w w' : World} {g B : Nat} {s : List Int} (h : SeenIs w g s) (hb : Below B w w') (hg : g < B) : SeenIs w' g s := by
  obtain ⟨cs, h1, h2⟩ := h
  exact ⟨cs, h1.below hb hg, h2⟩
theorem SeenIs.put {w : World} {g : Nat} {s : List Int} {z : Int} (h : SeenIs w g s) (h0 : 0 ≤ z) (h1 : z < 100) : SeenIs (w.setCell ⟨g, z.toNat, none⟩ (.bool true)) g (z :: s) := by
  obtain ⟨cs, hb, hs, hc⟩ := h
  refine ⟨_, hb.put _ _, by simp [hs], fun i hi => ?_⟩
  by_cases e : i = z.toNat
  · subst e
    rw [Array.getElem?_setIfInBounds_self_of_lt (by omega)]
    have : ((z.toNat : Nat) : Int) = z := by omega
    simp [this]
  · rw [Array.getElem?_setIfInBounds_ne (by omega), hc i hi]
    have : (i : Int) ≠ z := by omega
    simp [this]
theorem SeenIs.at {w : World} {g : Nat} {s : List Int} {z : Int} (h : SeenIs w g s) (h0 : 0 ≤ z) (h1 : z < 100) : w.cell? ⟨g, z.toNat, none⟩ = some (.bool (s.contains z)) ∧ w.frozen? ⟨g, z.toNat, none⟩ = false ∧ g < w.heap.size := by
  obtain ⟨cs, hb, hs, hc⟩ := h
  refine ⟨?_, hb.frozen _, hb.lt⟩
  rw [hb.cell, hc _ (by omega)]
  have : ((z.toNat : Nat) : Int) = z := by omega
  rw [this]

theorem Tryz.zeroSeen : Tryz.zeroCells101 = Array.replicate 100 (.bool false) := by kernel_rfl
theorem SeenIs.new (w : World) : SeenIs (w.alloc (.cells Tryz.zeroCells101 101)) w.heap.size [] := by
  refine ⟨_, BlockIs.new _ _ _, by rw [Tryz.zeroSeen]; simp, fun i hi => ?_⟩
  rw [Tryz.zeroSeen]
  simp [hi]

set_option maxHeartbeats 1600000 in
theorem tasksOk_any (v : Value) (l : List TV) (w : World) (x : Addr) (hg : ErrAt x w) (hv : TaskSl w v l) (hlen : l.length ≤ 1048576) :
    Calls Tryz.prog 44 #[v] w fun e w' => e = .returned (.bool (tasksOk l)) ∧ Below w.heap.size w w' := by
  obtain ⟨A, c, rfl, hA⟩ := hv.form
  have HA := Lib.hid hA
  have HG := Lib.hid hg
  clear hA hv hg
  by_cases h30 : l.length ≤ 30
  · have HT := Lib.hid (show tasksOk l = tasksFrom [] l by simp [tasksOk, h30])
    go_enter Tryz.func44, Tryz.ntmps44
    go_wp2_with fail
    go_loopw [11] (fun s11 wr => ∃ (k : Nat) (s : List Int), k ≤ l.length ∧ s11 = .int .i64 k ∧ tasksFrom [] l = tasksFrom s (l.drop k) ∧ SeenIs wr w.heap.size s ∧ Below w.heap.size w wr) (fun s11 _ => (l.length - intOf s11).toNat)
    case atStart => exact ⟨0, [], by omega, rfl, by simp, SeenIs.new w, (by repeat' (first | exact Below.refl _ _ | refine Below.alloc ?_ ?_ _ | refine Below.setCell ?_ ?_ _ | refine Below.drew ?_ | (apply below_step; assumption) | (simp; done) | (simp; omega) | omega))⟩
    case round =>
      obtain ⟨k, s, hk, rfl, hts, hS, hB⟩ := hrel
      have HTS := Lib.hid hts
      have HS := Lib.hid hS
      have hzr := hB.size
      have hG : ErrAt x wr := HG.out.below hB (Nat.le_refl _)
      have HGR := Lib.hid hG
      clear hts hS hG
      by_cases hlt : k < l.length
      · obtain ⟨b, off, rfl, hbw, hat⟩ := HA.out (by omega)
        obtain ⟨t, ht⟩ : ∃ t, l[k]? = some t := ⟨_, List.getElem?_eq_getElem hlt⟩
        obtain ⟨cs, hR, hC⟩ := (hat.below TaskR.kept hB hbw) k t ht
        have HD := Lib.hid (drop_at ht)
        obtain ⟨v1, v2, rfl, sl, si, m1, m2⟩ := hR
        obtain ⟨A1, c1, rfl, _⟩ := sl.form
        obtain ⟨A2, c2, rfl, _⟩ := si.form
        have hok := fun w x hg h1 h2 => TaskOk_any t (.slice A1 t.want.length c1) (.slice A2 t.tols.length c2) w x hg h1 h2 m1 m2
        have SL := Lib.hid sl
        have SI := Lib.hid si
        obtain ⟨q0, q1, q2, q3, q4, q5, q6⟩ := task_cells hC
        have hbr : b < wr.heap.size := by omega
        cases ho : t.ok
        all_goals
          rw [ho] at hok
          have HO := Lib.hid ho
          have HOK := Lib.hid hok
        · clear hat hC ht sl si m1 m2 ho hok
          go_wp2_with fail
          have hX : Below wr.heap.size wr (wr.alloc (.cells #[.int .i64 t.id, .int .i64 t.prio, .int .i64 t.need.c, .int .i64 t.need.m, .int .i64 t.need.p, .slice A1 t.want.length c1, .slice A2 t.tols.length c2] 73)) := (by repeat' (first | exact Below.refl _ _ | refine Below.alloc ?_ ?_ _ | refine Below.setCell ?_ ?_ _ | refine Below.drew ?_ | (apply below_step; assumption) | (simp; done) | (simp; omega) | omega))
          refine (HOK.out _ x (HGR.out.alloc _) (SL.out.below hX) (SI.out.below hX)).mono ?_
          rintro e w2 ⟨rfl, hb2⟩
          have hC2 := below_of hX hb2
          go_wp2_with fail
          go_ret
          exact ⟨by rw [HT.out, HTS.out, HD.out, tasksFrom_bad HO.out]; rfl, below_of hB hC2⟩
        · obtain ⟨i1, i2⟩ := TV.ok_id ho
          clear hat hC ht sl si m1 m2 ho hok
          go_wp2_with fail
          have hX : Below wr.heap.size wr (wr.alloc (.cells #[.int .i64 t.id, .int .i64 t.prio, .int .i64 t.need.c, .int .i64 t.need.m, .int .i64 t.need.p, .slice A1 t.want.length c1, .slice A2 t.tols.length c2] 73)) := (by repeat' (first | exact Below.refl _ _ | refine Below.alloc ?_ ?_ _ | refine Below.setCell ?_ ?_ _ | refine Below.drew ?_ | (apply below_step; assumption) | (simp; done) | (simp; omega) | omega))
          refine (HOK.out _ x (HGR.out.alloc _) (SL.out.below hX) (SI.out.below hX)).mono ?_
          rintro e w2 ⟨rfl, hb2⟩
          have hC2 := below_of hX hb2
          have BX := (BlockIs.new wr 73 #[.int .i64 t.id, .int .i64 t.prio, .int .i64 t.need.c, .int .i64 t.need.m, .int .i64 t.need.p, .slice A1 t.want.length c1, .slice A2 t.tols.length c2]).below hb2 (by simp)
          have x0 := BX.cell 0
          simp at x0
          have S2 := HS.out.below hC2 (by obtain ⟨cs, h1, _⟩ := HS.out; exact h1.lt)
          obtain ⟨y0, yf, yl⟩ := S2.at (z := t.id) (by omega) (by omega)
          have HS2 := Lib.hid S2
          have hz2 := hC2.size
          clear BX S2 hb2
          cases hs : s.contains t.id
          all_goals
            rw [hs] at y0
            have HC := Lib.hid hs
            clear hs
          · go_wp2_with fail
            go_roundw
            case rel => exact ⟨k + 1, t.id :: s, by omega, by go_num, by rw [HTS.out, HD.out, tasksFrom_yes HO.out HC.out], HS2.out.put (by omega) (by omega), (below_of hB hC2).setCell (Nat.le_refl _) _⟩
            case measure => simp [intOf]; omega
          · go_wp2_with fail
            go_ret
            exact ⟨by rw [HT.out, HTS.out, HD.out, tasksFrom_twice HC.out]; rfl, below_of hB hC2⟩
      · have hkl : k = l.length := by omega
        have HF := Lib.hid (show tasksFrom [] l = true by rw [HTS.out, hkl, List.drop_length]; rfl)
        clear hkl
        go_wp2_with fail
        go_ret
        exact ⟨by rw [HT.out, HF.out]; rfl, hB⟩
  · have HT := Lib.hid (show tasksOk l = false by simp [tasksOk, h30])
    have h30' : (30 : Int) < (l.length : Int) := by omega
    clear h30
    go_enter Tryz.func44, Tryz.ntmps44
    go_wp2_with fail
    go_ret
    exact ⟨by rw [HT.out]; rfl, (by repeat' (first | exact Below.refl _ _ | refine Below.alloc ?_ ?_ _ | refine Below.setCell ?_ ?_ _ | refine Below.drew ?_ | (apply below_step; assumption) | (simp; done) | (simp; omega) | omega))⟩
end Go.Proofs.YtkaecjjbammphaaGreatDoor
namespace Go.Proofs.YtkaecjjbammphaaGreatDoor
open Go.RowKit

set_option maxHeartbeats 1600000 in
theorem nodesOk_any (v : Value) (l : List NV) (w : World) (x : Addr) (hg : ErrAt x w) (hv : NodeSl w v l) (hlen : l.length ≤ 1048576) :
    Calls Tryz.prog 45 #[v] w fun e w' => e = .returned (.bool (nodesOk l)) ∧ Below w.heap.size w w' := by
  obtain ⟨A, c, rfl, hA⟩ := hv.form
  have HA := Lib.hid hA
  have HG := Lib.hid hg
  clear hA hv hg
  by_cases h20 : l.length ≤ 20
  · have HT := Lib.hid (show nodesOk l = nodesFrom 0 l by simp [nodesOk, h20])
    go_enter Tryz.func45, Tryz.ntmps45
    go_wp2_with fail
    go_loopw [3, 11] (fun s3 s11 wr => ∃ (k : Nat) (p : Int), k ≤ l.length ∧ s11 = .int .i64 k ∧ s3 = .int .i64 p ∧ nodesFrom 0 l = nodesFrom p (l.drop k) ∧ Below w.heap.size w wr) (fun _ s11 _ => (l.length - intOf s11).toNat)
    case atStart => exact ⟨0, 0, by omega, rfl, rfl, by simp, Below.refl _ _⟩
    case round =>
      obtain ⟨k, p, hk, rfl, rfl, hts, hB⟩ := hrel
      have HTS := Lib.hid hts
      have hzr := hB.size
      have HGR := Lib.hid (HG.out.below hB (Nat.le_refl _))
      clear hts
      by_cases hlt : k < l.length
      · obtain ⟨b, off, rfl, hbw, hat⟩ := HA.out (by omega)
        obtain ⟨t, ht⟩ : ∃ t, l[k]? = some t := ⟨_, List.getElem?_eq_getElem hlt⟩
        obtain ⟨cs, hR, hC⟩ := (hat.below NodeR.kept hB hbw) k t ht
        have HD := Lib.hid (drop_at ht)
        obtain ⟨v1, v2, rfl, sl, si, m1, m2⟩ := hR
        obtain ⟨A1, c1, rfl, _⟩ := sl.form
        obtain ⟨A2, c2, rfl, _⟩ := si.form
        have hok := fun w x hg h1 h2 => NodeOk_any t (.slice A1 t.labs.length c1) (.slice A2 t.taints.length c2) w x hg h1 h2 m1 m2
        have SL := Lib.hid sl
        have SI := Lib.hid si
        obtain ⟨q0, q1, q2, q3, q4, q5, q6, q7⟩ := node_cells hC
        have hbr : b < wr.heap.size := by omega
        cases ho : t.ok
        all_goals
          rw [ho] at hok
          have HO := Lib.hid ho
          have HOK := Lib.hid hok
          clear hat hC ht sl si m1 m2 ho hok
        · go_wp2_with fail
          have hX : Below wr.heap.size wr (wr.alloc (.cells #[.int .i64 t.id, .int .i64 t.pool, .int .i64 t.cap.c, .int .i64 t.cap.m, .int .i64 t.cap.p, .slice A1 t.labs.length c1, .slice A2 t.taints.length c2, .bool t.cordon] 51)) := (by repeat' (first | exact Below.refl _ _ | refine Below.alloc ?_ ?_ _ | refine Below.setCell ?_ ?_ _ | refine Below.drew ?_ | (apply below_step; assumption) | (simp; done) | (simp; omega) | omega))
          refine (HOK.out _ x (HGR.out.alloc _) (SL.out.below hX) (SI.out.below hX)).mono ?_
          rintro e w2 ⟨rfl, hb2⟩
          have hC2 := below_of hX hb2
          go_wp2_with fail
          go_ret
          exact ⟨by rw [HT.out, HTS.out, HD.out, nodesFrom_bad HO.out]; rfl, below_of hB hC2⟩
        · go_wp2_with fail
          have hX : Below wr.heap.size wr (wr.alloc (.cells #[.int .i64 t.id, .int .i64 t.pool, .int .i64 t.cap.c, .int .i64 t.cap.m, .int .i64 t.cap.p, .slice A1 t.labs.length c1, .slice A2 t.taints.length c2, .bool t.cordon] 51)) := (by repeat' (first | exact Below.refl _ _ | refine Below.alloc ?_ ?_ _ | refine Below.setCell ?_ ?_ _ | refine Below.drew ?_ | (apply below_step; assumption) | (simp; done) | (simp; omega) | omega))
          refine (HOK.out _ x (HGR.out.alloc _) (SL.out.below hX) (SI.out.below hX)).mono ?_
          rintro e w2 ⟨rfl, hb2⟩
          have hC2 := below_of hX hb2
          have BX := (BlockIs.new wr 51 #[.int .i64 t.id, .int .i64 t.pool, .int .i64 t.cap.c, .int .i64 t.cap.m, .int .i64 t.cap.p, .slice A1 t.labs.length c1, .slice A2 t.taints.length c2, .bool t.cordon]).below hb2 (by simp)
          have x0 := BX.cell 0
          simp at x0
          clear BX hb2
          by_cases hp : t.id ≤ p
          · have HP := Lib.hid hp
            go_wp2_with fail
            go_ret
            exact ⟨by rw [HT.out, HTS.out, HD.out, nodesFrom_low HP.out]; rfl, below_of hB hC2⟩
          · have hp' : p < t.id := by omega
            have HP := Lib.hid hp'
            clear hp
            go_wp2_with fail
            go_roundw
            case rel => exact ⟨k + 1, t.id, by omega, by go_num, rfl, by rw [HTS.out, HD.out, nodesFrom_yes HO.out HP.out], below_of hB hC2⟩
            case measure => simp [intOf]; omega
      · have hkl : k = l.length := by omega
        have HF := Lib.hid (show nodesFrom 0 l = true by rw [HTS.out, hkl, List.drop_length]; rfl)
        clear hkl
        go_wp2_with fail
        go_ret
        exact ⟨by rw [HT.out, HF.out]; rfl, hB⟩
  · have HT := Lib.hid (show nodesOk l = false by simp [nodesOk, h20])
    have h20' : (20 : Int) < (l.length : Int) := by omega
    clear h20
    go_enter Tryz.func45, Tryz.ntmps45
    go_wp2_with fail
    go_ret
    exact ⟨by rw [HT.out]; rfl, (by repeat' (first | exact Below.refl _ _ | refine Below.alloc ?_ ?_ _ | refine Below.setCell ?_ ?_ _ | refine Below.drew ?_ | (apply below_step; assumption) | (simp; done) | (simp; omega) | omega))⟩

theorem bindOk_eq (c : CV) (b : BV) (b1 b2 ok : Bool) (t : TV) (n : NV) (h1 : (fstBy TV.id c.tasks b.task).isSome = b1) (h2 : (fstBy NV.id c.nodes b.node).isSome = b2)
    (ht : (fstBy TV.id c.tasks b.task).getD TV.zero = t) (hn : (fstBy NV.id c.nodes b.node).getD NV.zero = n) (hok : canHost n t = ok) : bindOk c b = (b1 && b2 && ok) := by
  subst h1 h2 ht hn hok
  unfold bindOk
  cases fstBy TV.id c.tasks b.task <;> cases fstBy NV.id c.nodes b.node <;> simp

set_option maxHeartbeats 3200000 in
theorem bindsOk_any (c : CV) (a0 a1 a2 : Value) (w : World) (x : Addr) (hg : ErrAt x w) (hc : CluR w c a0 a1 a2) :
    Calls Tryz.prog 46 #[.agg #[a0, a1, a2]] w fun e w' => e = .returned (.bool (bindsFrom c 0 c.binds)) ∧ Below w.heap.size w w' := by
  have HC := Lib.hid hc
  obtain ⟨h0, h1, h2, l0, l1, l2⟩ := hc
  obtain ⟨D0, e0, rfl, r0⟩ := h0.form
  obtain ⟨D1, e1, rfl, r1⟩ := h1.form
  obtain ⟨D2, e2, rfl, hA⟩ := h2.form
  have HA := Lib.hid hA
  have HG := Lib.hid hg
  clear hA h0 h1 h2 l0 l1 r0 r1 hg
  go_enter Tryz.func46, Tryz.ntmps46
  go_wp2_with fail
  go_loopw [3, 13] (fun s3 s13 wr => ∃ (k : Nat) (p : Int), k ≤ c.binds.length ∧ s13 = .int .i64 k ∧ s3 = .int .i64 p ∧ bindsFrom c 0 c.binds = bindsFrom c p (c.binds.drop k) ∧ BlockIs wr w.heap.size 34 #[.slice D0 c.tasks.length e0, .slice D1 c.nodes.length e1, .slice D2 c.binds.length e2] ∧ Below w.heap.size w wr) (fun _ s13 _ => (c.binds.length - intOf s13).toNat)
  case atStart => exact ⟨0, 0, by omega, rfl, rfl, by simp, BlockIs.new _ _ _, (by repeat' (first | exact Below.refl _ _ | refine Below.alloc ?_ ?_ _ | refine Below.setCell ?_ ?_ _ | refine Below.drew ?_ | (apply below_step; assumption) | (simp; done) | (simp; omega) | omega))⟩
  case round =>
    obtain ⟨k, p, hk, rfl, rfl, hts, hblk, hB⟩ := hrel
    have HTS := Lib.hid hts
    have HBK := Lib.hid hblk
    have hzr := hB.size
    have hgl := hblk.lt
    have HGR := Lib.hid (HG.out.below hB (Nat.le_refl _))
    clear hts
    by_cases hlt : k < c.binds.length
    · obtain ⟨b, off, rfl, hbw, hat⟩ := HA.out (by omega)
      obtain ⟨t, ht⟩ : ∃ t, c.binds[k]? = some t := ⟨_, List.getElem?_eq_getElem hlt⟩
      obtain ⟨cs, hR, hC⟩ := (hat.below BindR.kept hB hbw) k t ht
      have HD := Lib.hid (drop_at ht)
      obtain rfl := hR
      obtain ⟨q0, q1⟩ := bind_cells hC
      have g0 := hblk.cell 0
      have g1 := hblk.cell 1
      have g2 := hblk.cell 2
      simp at g0 g1 g2
      have hbr : b < wr.heap.size := by omega
      clear hat hC ht hblk
      go_wp2_with fail
      have hX : Below wr.heap.size wr (wr.alloc (.cells #[.int .i64 t.task, .int .i64 t.node] 76)) := (by repeat' (first | exact Below.refl _ _ | refine Below.alloc ?_ ?_ _ | refine Below.setCell ?_ ?_ _ | refine Below.drew ?_ | (apply below_step; assumption) | (simp; done) | (simp; omega) | omega))
      have hCX := below_of hB hX
      refine (findTask_any c _ _ _ t.task w _ hCX HC.out).mono ?_
      rintro e w2 ⟨cs1, rfl, hR1, hb2⟩
      generalize hb1 : (fstBy TV.id c.tasks t.task).isSome = b1
      generalize ht1 : (fstBy TV.id c.tasks t.task).getD TV.zero = t1 at hR1
      have HB1 := Lib.hid hb1
      have HT1 := Lib.hid ht1
      obtain ⟨v1, v2, rfl, sl1, si1, m1, m2⟩ := hR1
      obtain ⟨A1, c1, rfl, _⟩ := sl1.form
      obtain ⟨A2, c2, rfl, _⟩ := si1.form
      have hD2 := below_of hX hb2
      have hC2 := below_of hB hD2
      have BB2 := (BlockIs.new wr 76 #[.int .i64 t.task, .int .i64 t.node]).below hb2 (by simp)
      have BK2 := HBK.out.below hD2 HBK.out.lt
      have g0 := BK2.cell 0
      have g1 := BK2.cell 1
      have g2 := BK2.cell 2
      have y0 := BB2.cell 0
      have y1 := BB2.cell 1
      have yl := BB2.lt
      have kl := BK2.lt
      simp at g0 g1 g2 y0 y1
      have HBB := Lib.hid BB2
      have HBK2 := Lib.hid BK2
      have SL1 := Lib.hid sl1
      have SI1 := Lib.hid si1
      have M1 := Lib.hid (And.intro m1 m2)
      clear hb1 ht1 BB2 BK2 sl1 si1 m1 m2 hb2
      go_wp2_with fail
      have hX2 : Below w2.heap.size w2 (w2.alloc (.cells #[.int .i64 t1.id, .int .i64 t1.prio, .int .i64 t1.need.c, .int .i64 t1.need.m, .int .i64 t1.need.p, .slice A1 t1.want.length c1, .slice A2 t1.tols.length c2] 73)) := (by repeat' (first | exact Below.refl _ _ | refine Below.alloc ?_ ?_ _ | refine Below.setCell ?_ ?_ _ | refine Below.drew ?_ | (apply below_step; assumption) | (simp; done) | (simp; omega) | omega))
      have hCX2 := below_of hC2 hX2
      refine (findNode_any c _ _ _ t.node w _ hCX2 HC.out).mono ?_
      rintro e w3 ⟨cs2, rfl, hR2, hb3⟩
      generalize hb2 : (fstBy NV.id c.nodes t.node).isSome = b2
      generalize ht2 : (fstBy NV.id c.nodes t.node).getD NV.zero = n2 at hR2
      have HB2 := Lib.hid hb2
      have HT2 := Lib.hid ht2
      obtain ⟨u1, u2, rfl, sl2, si2, m3, m4⟩ := hR2
      obtain ⟨A3, c3, rfl, _⟩ := sl2.form
      obtain ⟨A4, c4, rfl, _⟩ := si2.form
      have hD3 := below_of hX2 hb3
      have hC3 := below_of hC2 hD3
      have BB3 := HBB.out.below hD3 HBB.out.lt
      have BK3 := HBK2.out.below hD3 HBK2.out.lt
      have BT3 := (BlockIs.new w2 73 #[.int .i64 t1.id, .int .i64 t1.prio, .int .i64 t1.need.c, .int .i64 t1.need.m, .int .i64 t1.need.p, .slice A1 t1.want.length c1, .slice A2 t1.tols.length c2]).below hb3 (by simp)
      have HR := Lib.hid (bindOk_eq c t b1 b2 _ t1 n2 HB1.out HB2.out HT1.out HT2.out rfl)
      have hch := fun w x hg h1 h2 h3 h4 => CanHost_any n2 t1 (.slice A3 n2.labs.length c3) (.slice A4 n2.taints.length c4) (.slice A1 t1.want.length c1) (.slice A2 t1.tols.length c2) w x hg h1 h2 h3 h4 m3 m4 M1.out.1 M1.out.2
      generalize canHost n2 t1 = ok at HR hch
      have HCH := Lib.hid hch
      have y0 := BB3.cell 0
      have yl := BB3.lt
      have tl := BT3.lt
      have kl := BK3.lt
      simp at y0
      have z0 := BT3.cell 0
      have z1 := BT3.cell 1
      have z2 := BT3.cell 2
      have z3 := BT3.cell 3
      have z4 := BT3.cell 4
      have z5 := BT3.cell 5
      have z6 := BT3.cell 6
      simp at z0 z1 z2 z3 z4 z5 z6
      have HBB3 := Lib.hid BB3
      have HBK3 := Lib.hid BK3
      have SL2 := Lib.hid sl2
      have SI2 := Lib.hid si2
      clear hb2 ht2 BB3 BK3 BT3 sl2 si2 hb3 m3 m4 hch HBB HBK2 g0 g1 g2 y1
      by_cases hp : t.task ≤ p
      · have HP := Lib.hid hp
        go_wp2_with fail
        go_ret
        exact ⟨by rw [HTS.out, HD.out, bindsFrom_low HP.out]; rfl, (by repeat' (first | exact Below.refl _ _ | refine Below.alloc ?_ ?_ _ | refine Below.setCell ?_ ?_ _ | refine Below.drew ?_ | (apply below_step; assumption) | (simp; done) | (simp; omega) | omega))⟩
      · have hp' : p < t.task := by omega
        have HP := Lib.hid hp'
        clear hp
        cases b1
        · go_wp2_with fail
          go_ret
          exact ⟨by rw [HTS.out, HD.out, bindsFrom_bad (by rw [HR.out]; rfl)]; rfl, (by repeat' (first | exact Below.refl _ _ | refine Below.alloc ?_ ?_ _ | refine Below.setCell ?_ ?_ _ | refine Below.drew ?_ | (apply below_step; assumption) | (simp; done) | (simp; omega) | omega))⟩
        cases b2
        · go_wp2_with fail
          go_ret
          exact ⟨by rw [HTS.out, HD.out, bindsFrom_bad (by rw [HR.out]; rfl)]; rfl, (by repeat' (first | exact Below.refl _ _ | refine Below.alloc ?_ ?_ _ | refine Below.setCell ?_ ?_ _ | refine Below.drew ?_ | (apply below_step; assumption) | (simp; done) | (simp; omega) | omega))⟩
        go_wp2_with fail
        have hX3 : Below w3.heap.size w3 (w3.alloc (.cells #[.int .i64 n2.id, .int .i64 n2.pool, .int .i64 n2.cap.c, .int .i64 n2.cap.m, .int .i64 n2.cap.p, .slice A3 n2.labs.length c3, .slice A4 n2.taints.length c4, .bool n2.cordon] 51)) := (by repeat' (first | exact Below.refl _ _ | refine Below.alloc ?_ ?_ _ | refine Below.setCell ?_ ?_ _ | refine Below.drew ?_ | (apply below_step; assumption) | (simp; done) | (simp; omega) | omega))
        have hCX3 := below_of hC3 hX3
        refine (HCH.out _ x (HG.out.below hCX3 (Nat.le_refl _)) (SL2.out.below hCX3) (SI2.out.below hCX3) (SL1.out.below hCX3) (SI1.out.below hCX3)).mono ?_
        rintro e w4 ⟨rfl, hb4⟩
        have hD4 := below_of hX3 hb4
        have hC4 := below_of hC3 hD4
        have BB4 := HBB3.out.below hD4 HBB3.out.lt
        have y0 := BB4.cell 0
        simp at y0
        have HBK4 := Lib.hid (HBK3.out.below hD4 HBK3.out.lt)
        clear BB4 hb4
        cases ok
        · go_wp2_with fail
          go_ret
          exact ⟨by rw [HTS.out, HD.out, bindsFrom_bad (by rw [HR.out]; rfl)]; rfl, hC4⟩
        · go_wp2_with fail
          go_roundw
          case rel => exact ⟨k + 1, t.task, by omega, by go_num, rfl, by rw [HTS.out, HD.out, bindsFrom_yes (by rw [HR.out]; rfl) HP.out], HBK4.out, hC4⟩
          case measure => simp [intOf]; omega
    · have hkl : k = c.binds.length := by omega
      have HF := Lib.hid (show bindsFrom c 0 c.binds = true by rw [HTS.out, hkl, List.drop_length]; rfl)
      clear hkl
      go_wp2_with fail
      go_ret
      exact ⟨by rw [HF.out]; rfl, hB⟩
end Go.Proofs.YtkaecjjbammphaaGreatDoor

namespace Go.Proofs.YtkaecjjbammphaaGreatDoor
open Go.RowKit

def ResAt (w : World) (b off : Nat) (l : List RV) : Prop :=
  ∀ i r, l[i]? = some r → w.cell? ⟨b, off + i * 3, none⟩ = some (.int .i64 r.c) ∧ w.cell? ⟨b, off + i * 3 + 1, none⟩ = some (.int .i64 r.m) ∧ w.cell? ⟨b, off + i * 3 + 2, none⟩ = some (.int .i64 r.p)
def ResSl (w : World) (v : Value) (l : List RV) : Prop := (l = [] ∧ ∃ A c, v = .slice A 0 c) ∨ ∃ b off c, v = .slice (some ⟨b, off, none⟩) l.length c ∧ b < w.heap.size ∧ ResAt w b off l
theorem ResAt.below {w w' : World} {b off B : Nat} {l : List RV} (h : ResAt w b off l) (hb : Below B w w') (hB : b < B) : ResAt w' b off l := fun i r hr => by
  obtain ⟨h1, h2, h3⟩ := h i r hr
  exact ⟨(hb.cell (p := ⟨b, _, none⟩) hB).trans h1, (hb.cell (p := ⟨b, _, none⟩) hB).trans h2, (hb.cell (p := ⟨b, _, none⟩) hB).trans h3⟩
theorem ResSl.below {w w' : World} {v : Value} {l : List RV} (h : ResSl w v l) (hb : Below w.heap.size w w') : ResSl w' v l := by
  rcases h with h | ⟨b, off, c, rfl, hlt, h⟩
  · exact .inl h
  · exact .inr ⟨b, off, c, rfl, Nat.lt_of_lt_of_le hlt hb.size, h.below hb hlt⟩
end Go.Proofs.YtkaecjjbammphaaGreatDoor

namespace Go.Proofs.YtkaecjjbammphaaGreatDoor
open Go.RowKit

theorem ResSl.form {w : World} {v : Value} {l : List RV} (h : ResSl w v l) : ∃ A c, v = .slice A l.length c ∧ (0 < l.length → ∃ b off, A = some ⟨b, off, none⟩ ∧ b < w.heap.size ∧ ResAt w b off l) := by
  rcases h with ⟨rfl, A, c, rfl⟩ | ⟨b, off, c, rfl, hlt, h⟩
  · exact ⟨A, c, rfl, fun h => absurd h (by simp)⟩
  · exact ⟨_, c, rfl, fun _ => ⟨b, off, rfl, hlt, h⟩⟩
def SumAt (X : World) (g : Nat) (s : RV) (wr : World) : Prop := Below g X wr ∧ X.heap.size ≤ wr.heap.size ∧ BlockIs wr g 46 #[.int .i64 s.c, .int .i64 s.m, .int .i64 s.p]

set_option maxHeartbeats 1600000 in
theorem ResSum_any (v : Value) (l : List RV) (w : World) (x : Addr) (hg : ErrAt x w) (hv : ResSl w v l) (hlen : l.length ≤ 1048576) :
    Calls Tryz.prog 72 #[v] w (RetR (sumGo RV.zero l).1 (sumGo RV.zero l).2 w) := by
  obtain ⟨A, c, rfl, hA⟩ := hv.form
  have HA := Lib.hid hA
  clear hA hv
  have hgw := hg.lt
  go_enter Tryz.func72, Tryz.ntmps72
  go_wp2_with fail
  go_loopw [12] (fun s12 wr => ∃ (k : Nat) (s : RV), k ≤ l.length ∧ s12 = .int .i64 k ∧ sumGo RV.zero l = sumGo s (l.drop k) ∧ SumAt ((w.alloc (.cells #[.int .i64 0, .int .i64 0, .int .i64 0] 46)).alloc (.cells #[.int .i64 0, .int .i64 0, .int .i64 0] 46)) (w.heap.size + 1) s wr) (fun s12 _ => (l.length - intOf s12).toNat)
  case atStart =>
    refine ⟨0, RV.zero, by omega, rfl, by rw [List.drop_zero], (by repeat' (first | exact Below.refl _ _ | refine Below.alloc ?_ ?_ _ | refine Below.setCell ?_ ?_ _ | refine Below.drew ?_ | (apply below_step; assumption) | (simp; done) | (simp; omega) | omega)), by simp, ?_⟩
    have := BlockIs.new (w.alloc (.cells #[.int .i64 0, .int .i64 0, .int .i64 0] 46)) 46 #[.int .i64 0, .int .i64 0, .int .i64 0]
    simpa [RV.zero] using this
  case round =>
    obtain ⟨k, s, hk, rfl, hsum, hB, hzr, hblk⟩ := hrel
    have HS := Lib.hid hsum
    clear hsum
    simp at hzr
    have t0 := hblk.cell 0
    have t1 := hblk.cell 1
    have t2 := hblk.cell 2
    have tf := hblk.frozen
    simp at t0 t1 t2
    have hBL := Lib.hid hblk
    clear hblk
    have hcr : ∀ b o, b < w.heap.size + 1 → wr.cell? ⟨b, o, none⟩ = ((w.alloc (.cells #[.int .i64 0, .int .i64 0, .int .i64 0] 46)).alloc (.cells #[.int .i64 0, .int .i64 0, .int .i64 0] 46)).cell? ⟨b, o, none⟩ := fun b o h => hB.cell (p := ⟨b, o, none⟩) h
    have hfr : ∀ b o, b < w.heap.size + 1 → wr.frozen? ⟨b, o, none⟩ = ((w.alloc (.cells #[.int .i64 0, .int .i64 0, .int .i64 0] 46)).alloc (.cells #[.int .i64 0, .int .i64 0, .int .i64 0] 46)).frozen? ⟨b, o, none⟩ := fun b o h => hB.frozen (p := ⟨b, o, none⟩) h
    by_cases hlt : k < l.length
    · obtain ⟨b, off, rfl, hbw, hat⟩ := HA.out (by omega)
      obtain ⟨r, hr⟩ : ∃ r, l[k]? = some r := ⟨_, List.getElem?_eq_getElem hlt⟩
      have hd := drop_at hr
      obtain ⟨q0, q1, q2⟩ := hat k r hr
      have hbn : b < w.heap.size + 1 := by omega
      have HSD := Lib.hid (HS.out.trans (congrArg (sumGo s) hd))
      have hg1 : ErrAt x wr := by
        unfold ErrAt at *
        rw [hcr _ _ (by omega), World.cell?_alloc_lt _ _ _ (by simp <;> omega), World.cell?_alloc_lt _ _ _ hgw]; exact hg
      have hr1 : w.heap.size + 1 < wr.heap.size := by omega
      clear hd hr hat
      have hadd := fun w hg => ResAdd_any s r w x hg
      cases ho : resAddOk s r
      all_goals
        simp only [ho] at hadd
        have HADD := Lib.hid hadd
        have HO := Lib.hid ho
        clear hadd ho
        go_wp2_with fail
        refine (HADD.out _ (hg1.alloc _)).mono ?_
        rintro e w3 ⟨rfl, hb3⟩
        obtain ⟨hc3, hf3⟩ := bcell hb3
        have hz3 := hb3.size
        simp at hz3
        have hq0 : w.heap.size < w3.heap.size := by omega
        have hq1 : w.heap.size + 1 < w3.heap.size := by omega
        have hq2 : w.heap.size < wr.heap.size := by omega
        go_wp2_with fail
      · have HF : Hid (sumGo RV.zero l = (RV.zero, false)) := HSD.out.trans (sumGo_cons_no HO.out)
        have hz : ∀ o, w3.cell? ⟨w.heap.size, o, none⟩ = wr.cell? ⟨w.heap.size, o, none⟩ := fun o => by rw [hc3 _ _ (by simp; omega), World.cell?_alloc_lt _ _ _ hq2]
        refine bodyPost_ret (v := .tuple #[.agg #[.int .i64 RV.zero.c, .int .i64 RV.zero.m, .int .i64 RV.zero.p], .bool false]) (by simp [results, Tryz.results72, go_sem, hz, hcr, hq0, RV.zero]) rfl ?_
        rw [HF.out]
        exact ⟨rfl, (by repeat' (first | exact Below.refl _ _ | refine Below.alloc ?_ ?_ _ | refine Below.setCell ?_ ?_ _ | refine Below.drew ?_ | (apply below_step; assumption) | (simp; done) | (simp; omega) | omega))⟩
      · go_roundw
        case rel =>
          refine ⟨k + 1, resAdd s r, by omega, by go_num, HSD.out.trans (sumGo_cons_yes HO.out), (by repeat' (first | exact Below.refl _ _ | refine Below.alloc ?_ ?_ _ | refine Below.setCell ?_ ?_ _ | refine Below.drew ?_ | (apply below_step; assumption) | (simp; done) | (simp; omega) | omega)), by simp; omega, ?_⟩
          have hb4 := ((((((hBL.out.alloc _).below hb3 (by simp; omega)).put 0 (.int .i64 (resAdd s r).c)).put 1 (.int .i64 (resAdd s r).m)).put 2 (.int .i64 (resAdd s r).p))).alloc (.cells #[.int .i64 (resAdd s r).c, .int .i64 (resAdd s r).m, .int .i64 (resAdd s r).p] 46)
          simpa using hb4
        case measure => simp [intOf]; omega
    · have hkl : k = l.length := by omega
      have HF : Hid (sumGo RV.zero l = (s, true)) := by
        show _ = _
        rw [HS.out, hkl, List.drop_length]; rfl
      clear hkl
      have hr0 : w.heap.size < wr.heap.size := by omega
      go_wp2_with fail
      refine bodyPost_ret (v := .tuple #[.agg #[.int .i64 s.c, .int .i64 s.m, .int .i64 s.p], .bool true]) (by first | (simp [results, Tryz.results72, go_sem, hcr]; done) | simp [results, Tryz.results72, go_sem, hcr, t0, t1, t2]) rfl ?_
      rw [HF.out]
      exact ⟨rfl, (by repeat' (first | exact Below.refl _ _ | refine Below.alloc ?_ ?_ _ | refine Below.setCell ?_ ?_ _ | refine Below.drew ?_ | (apply below_step; assumption) | (simp; done) | (simp; omega) | omega))⟩
end Go.Proofs.YtkaecjjbammphaaGreatDoor

namespace Go.Proofs.YtkaecjjbammphaaGreatDoor
open Go.RowKit

def resL (l : List RV) : List Value := l.flatMap fun x => [.int .i64 x.c, .int .i64 x.m, .int .i64 x.p]
theorem resL_append (a b : List RV) : resL (a ++ b) = resL a ++ resL b := by simp [resL]
theorem resL_cons (x : RV) (r : List RV) : resL (x :: r) = .int .i64 x.c :: .int .i64 x.m :: .int .i64 x.p :: resL r := rfl
theorem resL_at {l : List RV} {i : Nat} {x : RV} (h : l[i]? = some x) : (resL l)[i * 3]? = some (.int .i64 x.c) ∧ (resL l)[i * 3 + 1]? = some (.int .i64 x.m) ∧ (resL l)[i * 3 + 2]? = some (.int .i64 x.p) := by
  induction l generalizing i with
  | nil => simp at h
  | cons y r ih =>
    cases i with
    | zero => simp at h; subst h; exact ⟨rfl, rfl, rfl⟩
    | succ i =>
      simp at h
      have := ih h
      rw [resL_cons, show (i + 1) * 3 = i * 3 + 1 + 1 + 1 by omega]
      simpa using this
def OwnsR (w : World) (base : Nat) (v : Value) (l : List RV) : Prop := w.ownsRow base 46 3 v l.length (resL l)
section
variable {w w' : World} {base : Nat} {v : Value} {l : List RV}
theorem OwnsR.alloc (h : OwnsR w base v l) (o : Obj) : OwnsR (w.alloc o) base v l := World.ownsRow.alloc h o
theorem OwnsR.nil (w : World) (base : Nat) : OwnsR w base (.slice none 0 0) [] := World.ownsRow_nil w base _ _
theorem OwnsR.below {B : Nat} (h : OwnsR w base v l) (hb : Below B w w') (hB : w.heap.size ≤ B) : OwnsR w' base v l := by
  obtain ⟨h1, h2⟩ := h
  refine ⟨h1, ?_⟩
  rcases h2 with h | ⟨g, cap, cur, hv, hg, hh, h⟩
  · exact .inl h
  · have hlt : g < w.heap.size := (Array.getElem?_eq_some_iff.1 hh).1
    exact .inr ⟨g, cap, cur, hv, hg, (hb.block g (by omega)).trans hh, h⟩
theorem OwnsR.form (h : OwnsR w base v l) : (v = .slice none 0 0 ∧ l = []) ∨ ∃ g cap cur, v = .slice (some ⟨g, 0, none⟩) l.length cap ∧ base ≤ g ∧ BlockIs w g 46 cur ∧ ∀ (j : Nat) (u : Value), (resL l)[j]? = some u → cur[j]? = some u := by
  obtain ⟨h1, h2⟩ := h
  rcases h2 with ⟨hv, hn⟩ | ⟨g, cap, cur, hv, hg, hh, hnc, _, hs, ht⟩
  · exact .inl ⟨hv, List.eq_nil_of_length_eq_zero hn⟩
  · refine .inr ⟨g, cap, cur, hv, hg, hh, fun j u hu => ?_⟩
    rw [← ht] at hu
    have hj : j < l.length * 3 := by
      have := (List.getElem?_eq_some_iff.1 hu).1
      rw [List.length_take] at this; omega
    rw [List.getElem?_take_of_lt hj] at hu
    simpa using hu
theorem OwnsR.sl (h : OwnsR w base v l) : ResSl w v l := by
  rcases h.form with ⟨rfl, rfl⟩ | ⟨g, cap, cur, rfl, _, hb, hc⟩
  · exact .inl ⟨rfl, _, _, rfl⟩
  · refine .inr ⟨g, 0, cap, rfl, hb.lt, fun i r hr => ?_⟩
    obtain ⟨h1, h2, h3⟩ := resL_at hr
    simp only [Nat.zero_add]
    exact ⟨(hb.cell _).trans (hc _ _ h1), (hb.cell _).trans (hc _ _ h2), (hb.cell _).trans (hc _ _ h3)⟩
theorem OwnsR.len (h : OwnsR w base v l) : ∃ A c, v = .slice A l.length c := by
  rcases h.form with ⟨rfl, rfl⟩ | ⟨g, cap, cur, rfl, _⟩
  · exact ⟨_, _, rfl⟩
  · exact ⟨_, _, rfl⟩
end
theorem infoR : (Tryz.prog.info? 46).map (fun i => (i.zero, i.size, i.bytes)) = some (some (.agg #[.int .i64 0, .int .i64 0, .int .i64 0]), 3, 24) := by kernel_rfl
theorem step_append_res {ops : Array Oper} {o : Oper} {a : Act} {K : Act → World → Prop} {Q : Exit → Act → World → Prop} {E : Prop} (w : World) (hgd : o.guard = none) (s x : Operand)
    (ho : o.op = .call { callee := .builtin .append, args := #[s, x], argTypes := #[79, 79] })
    (base : Nat) (v : Value) (l : List RV) (r : RV) (g : Nat) (hs : a.eval s = v) (hown : OwnsR w base v l) (hx : a.eval x = .slice (some ⟨g, 0, none⟩) 1 1)
    (h0 : w.cell? ⟨g, 0, none⟩ = some (.int .i64 r.c)) (h1 : w.cell? ⟨g, 1, none⟩ = some (.int .i64 r.m)) (h2 : w.cell? ⟨g, 2, none⟩ = some (.int .i64 r.p)) (hl : l.length ≤ 2000000) (hbase : base ≤ w.heap.size)
    (h : ∀ v' w', OwnsR w' base v' (l ++ [r]) → Below base w w' → K (a.put o.dst v') w') : if Region.wanted o (yielded ops a.tmps) = true then Oper.wp Tryz.prog o a w K Q else E := by
  have hw : Region.wanted o (yielded ops a.tmps) = true := by simp [Region.wanted, hgd]
  rw [if_pos hw]
  obtain ⟨i0, hi0, hz0, hz1, hz2⟩ := info_parts infoR
  refine wp_append_own w s x 79 ho base 46 i0 _ 3 24 Tryz.underlying79 hi0 hz0 hz1 hz2 rfl (by omega) v l.length (resL l) hs hown ⟨g, 0, none⟩ 1 1 [.int .i64 r.c, .int .i64 r.m, .int .i64 r.p] hx rfl ?_ ?_ (by simp only [maxLen]; omega) (by omega) hbase ?_
  · intro j u hj
    match j, hj with
    | 0, hj => simp at hj; subst hj; simpa [Addr.add] using h0
    | 1, hj => simp at hj; subst hj; simpa [Addr.add] using h1
    | 2, hj => simp at hj; subst hj; simpa [Addr.add] using h2
  · intro u hu
    simp at hu
    rcases hu with rfl | rfl | rfl <;> rfl
  · intro v' w' hown' hgrow _
    refine h v' w' ?_ ((Below.refl _ _).grown hgrow hbase (fun k hk => (World.ownsRow.lt hown k hk).1))
    unfold OwnsR
    rw [resL_append, List.length_append]
    exact hown'
end Go.Proofs.YtkaecjjbammphaaGreatDoor

namespace Go.Proofs.YtkaecjjbammphaaGreatDoor
open Go.RowKit Go.Shelf
attribute [local go_sem] Oper.semAt_some

def tasksOnL (c : CV) (z : Int) : List BV → List TV
  | [] => []
  | b :: r => if b.node = z then (fstBy TV.id c.tasks b.task).toList ++ tasksOnL c z r else tasksOnL c z r
theorem tasksOnL_append (c : CV) (z : Int) (a b : List BV) : tasksOnL c z (a ++ b) = tasksOnL c z a ++ tasksOnL c z b := by
  induction a with
  | nil => rfl
  | cons x r ih => simp only [List.cons_append, tasksOnL, ih]; split <;> simp
theorem tasksOnL_len (c : CV) (z : Int) (l : List BV) : (tasksOnL c z l).length ≤ l.length := by
  induction l with
  | nil => simp [tasksOnL]
  | cons b r ih =>
    have : (fstBy TV.id c.tasks b.task).toList.length ≤ 1 := by cases fstBy TV.id c.tasks b.task <;> simp
    unfold tasksOnL; split <;> simp <;> omega
theorem on_yes {c : CV} {z : Int} {k : Nat} {b : BV} {t : TV} (h : c.binds[k]? = some b) (e : b.node = z) (ht : fstBy TV.id c.tasks b.task = some t) : tasksOnL c z (c.binds.take (k + 1)) = tasksOnL c z (c.binds.take k) ++ [t] := by
  rw [take_at h, tasksOnL_append]; simp [tasksOnL, e, ht]
theorem on_gone {c : CV} {z : Int} {k : Nat} {b : BV} (h : c.binds[k]? = some b) (ht : fstBy TV.id c.tasks b.task = none) : tasksOnL c z (c.binds.take (k + 1)) = tasksOnL c z (c.binds.take k) := by
  rw [take_at h, tasksOnL_append]; simp [tasksOnL, ht]
theorem on_no {c : CV} {z : Int} {k : Nat} {b : BV} (h : c.binds[k]? = some b) (e : b.node ≠ z) : tasksOnL c z (c.binds.take (k + 1)) = tasksOnL c z (c.binds.take k) := by
  rw [take_at h, tasksOnL_append]; simp [tasksOnL, e]
theorem RV.add_zero (s : RV) : s.add RV.zero = s := by simp [RV.add, RV.zero]
theorem sum_on (c : CV) (z : Int) (l : List BV) (s : RV) (hs : s.ok = true) : sumGo s ((tasksOnL c z l).map TV.need) = sumGo s (needsIn c z l) := by
  induction l generalizing s with
  | nil => rfl
  | cons b r ih =>
    unfold tasksOnL needsIn
    split
    · unfold needOf
      cases hf : fstBy TV.id c.tasks b.task with
      | none =>
        have h0 : RV.zero.ok = true := by decide
        have hk : resAddOk s RV.zero = true := by rw [(resAdd_in hs h0).2, RV.add_zero]; exact hs
        have ha : resAdd s RV.zero = s := by rw [(resAdd_in hs h0).1, RV.add_zero, RV.kept_yes hs]
        simp only [Option.toList_none, List.nil_append, Option.getD_none]
        rw [show TV.zero.need = RV.zero from rfl, sumGo_cons_yes hk, ha]
        exact ih s hs
      | some t =>
        simp only [Option.toList_some, List.singleton_append, List.map_cons, Option.getD_some]
        cases hk : resAddOk s t.need with
        | false => rw [sumGo_cons_no hk, sumGo_cons_no hk]
        | true =>
          rw [sumGo_cons_yes hk, sumGo_cons_yes hk]
          apply ih
          have := hk
          unfold resAddOk at this
          unfold resAdd
          rw [if_pos hk]
          simp only [Bool.and_eq_true] at this
          exact this.2
    · exact ih s hs
theorem used_on (c : CV) (z : Int) : usedOf c z = sumGo RV.zero ((tasksOnL c z c.binds).map TV.need) := (sum_on c z c.binds RV.zero (by decide)).symm

abbrev OnT (w0 : World) : Type := { p : TV × List Value // TaskR w0 p.1 p.2 }
def OnT.t {w0 : World} (x : OnT w0) : TV := x.1.1
def encT {w0 : World} (x : OnT w0) : Array Value := #[.agg x.1.2.toArray]
def KpOn (n Bc Bn : Nat) (W W' : World) : Prop := Below n W W' ∧ W'.heap[Bc]? = W.heap[Bc]? ∧ W'.heap[Bn]? = W.heap[Bn]?
theorem KpOn.t {n Bc Bn : Nat} {A B C : World} (h : KpOn n Bc Bn A B) (k : KpOn n Bc Bn B C) : KpOn n Bc Bn A C := ⟨h.1.trans k.1, k.2.1.trans h.2.1, k.2.2.trans h.2.2⟩
theorem KpOn.b {n Bc Bn : Nat} {w : World} (hn : n ≤ w.heap.size) (hc : Bc < w.heap.size) (hb : Bn < w.heap.size) (W : World) (l : Nat) (o o' : Obj) (hl : w.heap.size ≤ l) (h : W.heap[l]? = some o) (h1 : o.isCells = false) (h2 : o.isWalk = false) : KpOn n Bc Bn W (W.putObj l o') :=
  ⟨belowK_b hn W l o o' hl h h1 h2, World.putObj_heap_other (by omega), World.putObj_heap_other (by omega)⟩
theorem grown_none {w w' : World} (hb : Below w.heap.size w w') : w.grownBy w' none := ⟨hb.os, hb.tape, hb.output, hb.size, fun k hk _ => hb.block k hk⟩
theorem abide {α : Type} {B : Nat} {J : List α → World → Prop} (hJ : AbidesFrom B J) {pre : List α} {w w' : World} (h : J pre w) (hb : Below w.heap.size w w') : J pre w' := hJ pre w w' none h (grown_none hb) (fun _ e => by cases e)

set_option maxHeartbeats 1600000 in
theorem tasksOn_any (D0 D1 D2 : Option Addr) (n0 n1 n2 e0 e1 e2 : Nat) (z : Int) (w : World) :
    Calls Tryz.prog 71 #[.agg #[.slice D0 n0 e0, .slice D1 n1 e1, .slice D2 n2 e2], .int .i64 z] w fun e w' => e = .returned (.func (.func 93) #[] #[.pointer (some ⟨w.heap.size, 0, none⟩), .pointer (some ⟨w.heap.size + 1, 0, none⟩)]) ∧
      w' = (w.alloc (.cells #[.slice D0 n0 e0, .slice D1 n1 e1, .slice D2 n2 e2] 34)).alloc (.cells #[.int .i64 z] 3) := by
  have hmf : ∀ (fn : Fn) (first cap : Array Value) (w : World), (Instr.makeFunc fn first cap).run Tryz.prog w = .ok (.func fn first cap) w := fun _ _ _ _ => rfl
  go_enter Tryz.func71, Tryz.ntmps71
  go_wp2_with fail
  go_ret
  exact ⟨rfl, rfl⟩
end Go.Proofs.YtkaecjjbammphaaGreatDoor

namespace Go.Proofs.YtkaecjjbammphaaGreatDoor
open Go.RowKit Go.Shelf
attribute [local go_sem] Oper.semAt_some

set_option maxRecDepth 100000 in
set_option maxHeartbeats 4000000 in
theorem tasksOn_stops (c : CV) (D0 D1 D2 : Option Addr) (e0 e1 e2 : Nat) (z : Int) (w0 w : World) (hw : Below w0.heap.size w0 w) (hc : CluR w0 c (.slice D0 c.tasks.length e0) (.slice D1 c.nodes.length e1) (.slice D2 c.binds.length e2)) (Bc Bn n₀ n : Nat) (hn₀ : w0.heap.size ≤ n₀) (h1 : 1 ≤ n)
    (hBc : BlockIs w Bc 34 #[.slice D0 c.tasks.length e0, .slice D1 c.nodes.length e1, .slice D2 c.binds.length e2]) (hBn : BlockIs w Bn 3 #[.int .i64 z]) :
    SeqStopsK Fence.wide n Tryz.prog 93 #[.pointer (some ⟨Bc, 0, none⟩), .pointer (some ⟨Bn, 0, none⟩)] (encT (w0 := w0)) (KpOn n₀ Bc Bn) (fun ys => ys.map OnT.t = tasksOnL c z c.binds) (fun _ => True) c.binds.length w := fun l J Jx W hW hJ hJx hY h0 => by
  have HC := Lib.hid hc
  obtain ⟨t0, t1, t2, l0, l1, l2⟩ := hc
  obtain ⟨X2, y2, ee, hA⟩ := t2.form
  simp only [Value.slice.injEq] at ee
  obtain ⟨rfl, -, rfl⟩ := ee
  have HA := Lib.hid hA
  have HW := Lib.hid (below_of hw hW)
  have BC := hBc.below hW hBc.lt
  have BN := hBn.below hW hBn.lt
  have HBC := Lib.hid BC
  have HBN := Lib.hid BN
  have g0 := BC.cell 0
  have g1 := BC.cell 1
  have g2 := BC.cell 2
  have n0 := BN.cell 0
  simp at g0 g1 g2 n0
  have HJ := Lib.hid hJ
  have HY := Lib.hid hY
  have H0 := Lib.hid h0
  clear hA t0 t1 t2 hw hW BC BN hBc hBn hJ hJx hY h0 l0 l1
  refine callsIn_of_wp Tryz.func93 rfl trivial ?_ rfl
  simp only [Tryz.ntmps93, List.size_toArray, List.length_cons, List.length_nil, Nat.reduceAdd, Nat.reduceSub, Array.replicate_succ, Array.replicate_zero, List.push_toArray, List.append_toArray, List.nil_append, List.cons_append]
  gi_wp2
  gi_loopw [11] (fun s11 wr => ∃ (k : Nat) (pre : List (OnT w0)), k ≤ c.binds.length ∧ s11 = .int .i64 k ∧ pre.map OnT.t = tasksOnL c z (c.binds.take k) ∧ J pre wr ∧ BlockIs wr Bc 34 #[.slice D0 c.tasks.length e0, .slice D1 c.nodes.length e1, .slice D2 c.binds.length e2] ∧ BlockIs wr Bn 3 #[.int .i64 z] ∧ Below w0.heap.size w0 wr) (fun s11 _ => (c.binds.length - intOf s11).toNat)
  case atStart => exact ⟨0, [], by omega, rfl, rfl, H0.out, HBC.out, HBN.out, HW.out⟩
  case round =>
    obtain ⟨k, pre, hk, rfl, hpre, hJp, bc, bn, hB⟩ := hrel
    have HP := Lib.hid hpre
    have HJP := Lib.hid hJp
    have HBc := Lib.hid bc
    have HBn := Lib.hid bn
    have q0 := bc.cell 0
    have q1 := bc.cell 1
    have q2 := bc.cell 2
    have m0 := bn.cell 0
    have lc := bc.lt
    have ln := bn.lt
    simp at q0 q1 q2 m0
    clear hpre hJp bc bn g0 g1 g2 n0
    by_cases hlt : k < c.binds.length
    · obtain ⟨b, off, rfl, hbw, hat⟩ := HA.out (by omega)
      obtain ⟨t, ht⟩ : ∃ t, c.binds[k]? = some t := ⟨_, List.getElem?_eq_getElem hlt⟩
      obtain ⟨cs, hR, hC⟩ := (hat.below BindR.kept hB hbw) k t ht
      have HBT := Lib.hid ht
      obtain rfl := hR
      obtain ⟨c0, c1⟩ := bind_cells hC
      have hbr : b < wr.heap.size := Nat.lt_of_lt_of_le hbw hB.size
      have hlti : (k : Int) < (c.binds.length : Int) := by omega
      clear hat hC ht
      by_cases e : t.node = z
      · have HE := Lib.hid e
        clear e
        have he' : (t.node != z) = false := by simpa using HE.out
        have hX1 : Below wr.heap.size wr (wr.alloc (.cells #[.int .i64 t.task, .int .i64 t.node] 76)) := (by repeat' (first | exact Below.refl _ _ | refine Below.alloc ?_ ?_ _ | refine Below.setCell ?_ ?_ _ | refine Below.drew ?_ | (apply below_step; assumption) | (simp; done) | (simp; omega) | omega))
        gi_wp2
        refine ⟨trivial, (callsIn_wide.2 (findTask_any c _ _ _ t.task w0 _ (below_of hB hX1) HC.out)).mono ?_⟩
        rintro e w2 ⟨cs1, rfl, hR1, hb2⟩
        have hD2 := below_of hX1 hb2
        have HJ2 := Lib.hid (abide HJ.out HJP.out hD2)
        have HBc2 := Lib.hid (HBc.out.below hD2 HBc.out.lt)
        have HBn2 := Lib.hid (HBn.out.below hD2 HBn.out.lt)
        have hz2 := hD2.size
        have hCB2 := below_of hB hD2
        clear hb2 hX1 hD2 c0 c1 q0 q1 q2 m0
        cases hf : fstBy TV.id c.tasks t.task with
        | none =>
          have HF := Lib.hid hf
          rw [hf] at hR1
          simp only [Option.getD_none, Option.isSome_none] at hR1 ⊢
          clear hf
          obtain ⟨v1, v2, rfl, sl1, si1, m1, m2⟩ := hR1
          obtain ⟨A1, k1, rfl, _⟩ := sl1.form
          obtain ⟨A2, k2, rfl, _⟩ := si1.form
          clear sl1 si1 m1 m2
          gi_wp2
          refine ⟨fun _ h => (by cases h), ?_⟩
          gi_wp2
          go_roundw
          case rel =>
            have hX3 : Below w2.heap.size w2 (w2.alloc (.cells #[.int .i64 TV.zero.id, .int .i64 TV.zero.prio, .int .i64 TV.zero.need.c, .int .i64 TV.zero.need.m, .int .i64 TV.zero.need.p, .slice A1 TV.zero.want.length k1, .slice A2 TV.zero.tols.length k2] 73)) := (by repeat' (first | exact Below.refl _ _ | refine Below.alloc ?_ ?_ _ | refine Below.setCell ?_ ?_ _ | refine Below.drew ?_ | (apply below_step; assumption) | (simp; done) | (simp; omega) | omega))
            exact ⟨k + 1, pre, by omega, by go_num, by rw [on_gone HBT.out HF.out]; exact HP.out, abide HJ.out HJ2.out hX3, HBc2.out.alloc _, HBn2.out.alloc _, below_of hCB2 hX3⟩
          case measure => simp [intOf]; omega
        | some t1 =>
          have HF := Lib.hid hf
          rw [hf] at hR1
          simp only [Option.getD_some, Option.isSome_some] at hR1 ⊢
          clear hf
          have HR1 := Lib.hid hR1
          obtain ⟨v1, v2, rfl, sl1, si1, m1, m2⟩ := hR1
          obtain ⟨A1, k1, rfl, _⟩ := sl1.form
          obtain ⟨A2, k2, rfl, _⟩ := si1.form
          clear sl1 si1 m1 m2
          have hX3 : Below w2.heap.size w2 (w2.alloc (.cells #[.int .i64 t1.id, .int .i64 t1.prio, .int .i64 t1.need.c, .int .i64 t1.need.m, .int .i64 t1.need.p, .slice A1 t1.want.length k1, .slice A2 t1.tols.length k2] 73)) := (by repeat' (first | exact Below.refl _ _ | refine Below.alloc ?_ ?_ _ | refine Below.setCell ?_ ?_ _ | refine Below.drew ?_ | (apply below_step; assumption) | (simp; done) | (simp; omega) | omega))
          have HL := Lib.hid (show pre.length < c.binds.length by
            have e1 := congrArg List.length HP.out
            have e2 := tasksOnL_len c z (c.binds.take k)
            rw [List.length_map] at e1
            rw [List.length_take] at e2
            omega)
          obtain ⟨fn, tmps, assign, body, hy, hRo⟩ := HY.out pre ⟨(t1, _), HR1.out⟩ _ (abide HJ.out HJ2.out hX3) HL.out
          dsimp only [encT] at hy
          have HRO := Lib.hid hRo
          clear hRo
          gi_wp2
          refine HRO.out.mono ?_
          rintro e W3 (⟨rfl, hJ3, hk3⟩ | ⟨rfl, hJx3⟩)
          · have HJ3 := Lib.hid hJ3
            have HK3 := Lib.hid hk3
            clear hJ3 hk3
            gi_wp2
            go_roundw
            case rel =>
              obtain ⟨hk, kc, kn⟩ := HK3.out
              refine ⟨k + 1, pre ++ [⟨(t1, _), HR1.out⟩], by omega, by go_num, ?_, HJ3.out, kc.trans (HBc2.out.alloc _), kn.trans (HBn2.out.alloc _), (below_of hCB2 hX3).trans (hk.mono hn₀)⟩
              rw [on_yes HBT.out HE.out HF.out, List.map_append, HP.out]; rfl
            case measure => simp [intOf]; omega
          · gi_wp2
            refine bodyPost_ret (results_none rfl _ _ _) rfl ?_
            exact ⟨⟨_, rfl⟩, .inr ⟨_, trivial, hJx3⟩⟩
      · have HE := Lib.hid e
        clear e
        have he' : (t.node != z) = true := by simpa using HE.out
        gi_wp2
        go_roundw
        case rel =>
          have hX1 : Below wr.heap.size wr (wr.alloc (.cells #[.int .i64 t.task, .int .i64 t.node] 76)) := (by repeat' (first | exact Below.refl _ _ | refine Below.alloc ?_ ?_ _ | refine Below.setCell ?_ ?_ _ | refine Below.drew ?_ | (apply below_step; assumption) | (simp; done) | (simp; omega) | omega))
          exact ⟨k + 1, pre, by omega, by go_num, by rw [on_no HBT.out HE.out]; exact HP.out, abide HJ.out HJP.out hX1, HBc.out.alloc _, HBn.out.alloc _, below_of hB hX1⟩
        case measure => simp [intOf]; omega
    · have hkl : k = c.binds.length := by omega
      have HF := Lib.hid (show pre.map OnT.t = tasksOnL c z c.binds by rw [HP.out, hkl, List.take_length])
      clear hkl
      gi_wp2
      go_end0
      exact ⟨⟨_, rfl⟩, .inl ⟨pre, HF.out, HJP.out⟩⟩
end Go.Proofs.YtkaecjjbammphaaGreatDoor

namespace Go.Proofs.YtkaecjjbammphaaGreatDoor
open Go.RowKit Go.Shelf
attribute [local go_sem] Oper.semAt_some

def OnI (w : World) (pre : List RV) (W : World) : Prop :=
  (((∃ v, Boxed W (w.heap.size + 2) 79 v ∧ W.ownsRow (w.heap.size + 5) 46 3 v pre.length (resL pre) ∧ True) ∧ BlockIs W (w.heap.size + 1) 46 #[.int .i64 0, .int .i64 0, .int .i64 0]) ∧ Below w.heap.size w W) ∧ w.heap.size + 5 ≤ W.heap.size
def needsOn {w0 : World} (pre : List (OnT w0)) : List RV := pre.map fun x => x.t.need
theorem needsOn_snoc {w0 : World} (pre : List (OnT w0)) (x : OnT w0) : needsOn (pre ++ [x]) = needsOn pre ++ [x.t.need] := by simp [needsOn]
theorem onI_own (w : World) (B : Nat) (hB : w.heap.size ≤ B) : OwnFrom B (OnI w) :=
  OwnFrom.and (OwnFrom.and (OwnFrom.and (Own.from (holdsRow_own (w.heap.size + 5) (w.heap.size + 2) 79 46 3 (fun pre : List RV => pre.length) (fun pre => resL pre) (fun _ _ => True)) _)
    (fun _ X Y row hs hg hr => (hg.block _ (BlockIs.lt hs) (fun e => by obtain ⟨_, o, ho, hc⟩ := hr _ e.symm; rw [show X.heap[w.heap.size + 1]? = _ from hs] at ho; cases ho; cases hc)).trans hs)) (ownFrom_below (Nat.le_refl _) hB)) (fun _ _ _ _ hs hg _ => Nat.le_trans hs hg.size)
theorem own_form' {w : World} {base : Nat} {e : TypeId} {size n : Nat} {v : Value} {xs : List Value} (h : w.ownsRow base e size v n xs) : ∃ A c, v = .slice A n c ∧ True := by
  rcases h.2 with ⟨rfl, rfl⟩ | ⟨g, cap, cur, rfl, _⟩
  · exact ⟨_, _, rfl, trivial⟩
  · exact ⟨_, _, rfl, trivial⟩
theorem wpListIn_append_res {F : Fence} {n : Nat} {ops : Array Oper} {rest : List Oper} {o : Oper} {a : Act} {Q : Exit → Act → World → Prop} (w : World) (hgd : o.guard = none) (s x : Operand)
    (ho : o.op = .call { callee := .builtin .append, args := #[s, x], argTypes := #[79, 79] })
    (base : Nat) (v : Value) (l : List RV) (r : RV) (g : Nat) (hs : a.eval s = v) (hown : w.ownsRow base 46 3 v l.length (resL l)) (hx : a.eval x = .slice (some ⟨g, 0, none⟩) 1 1)
    (h0 : w.cell? ⟨g, 0, none⟩ = some (.int .i64 r.c)) (h1 : w.cell? ⟨g, 1, none⟩ = some (.int .i64 r.m)) (h2 : w.cell? ⟨g, 2, none⟩ = some (.int .i64 r.p)) (hl : l.length ≤ 2000000) (hbase : base ≤ w.heap.size)
    (h : ∀ v' w', w'.ownsRow base 46 3 v' (l.length + 1) (resL (l ++ [r])) → w.grownBy w' v.ownBlock → wpListIn F n Tryz.prog ops Q rest (a.put o.dst v') w') : wpListIn F n Tryz.prog ops Q (o :: rest) a w := by
  obtain ⟨i0, hi0, hz0, hz1, hz2⟩ := info_parts infoR
  refine wpListIn_append_own w hgd s x 79 ho base 46 i0 _ 3 24 Tryz.underlying79 hi0 hz0 hz1 hz2 rfl (by omega) v l.length (resL l) hs hown ⟨g, 0, none⟩ 1 1 [.int .i64 r.c, .int .i64 r.m, .int .i64 r.p] hx rfl ?_ ?_ (by simp only [maxLen]; omega) (by omega) hbase ?_
  · intro j u hj
    match j, hj with
    | 0, hj => simp at hj; subst hj; simpa [Addr.add] using h0
    | 1, hj => simp at hj; subst hj; simpa [Addr.add] using h1
    | 2, hj => simp at hj; subst hj; simpa [Addr.add] using h2
  · intro u hu
    simp at hu
    rcases hu with rfl | rfl | rfl <;> rfl
  · intro v' w' hown' hgrow _
    exact h v' w' (by rw [resL_append]; exact hown') hgrow
theorem boxed_app {W w1 : World} {B base : Nat} {t e : TypeId} {size : Nat} {v v' : Value} {k m : Nat} {xs ys : List Value} {tmp : Obj} (hv : Boxed W B t v) (hrow : W.ownsRow base e size v k xs) (hbase : base ≤ W.heap.size) (hB : B < base)
    (hown' : w1.ownsRow base e size v' m ys) (hgrow : (W.alloc tmp).grownBy w1 v.ownBlock) :
    Boxed w1 B t v ∧ Boxed (w1.setCell ⟨B, 0, none⟩ v') B t v' ∧ (w1.setCell ⟨B, 0, none⟩ v').ownsRow base e size v' m ys ∧ KeepsOthers W (w1.setCell ⟨B, 0, none⟩ v') ∧ (∀ b, b < base → b ≠ B → (w1.setCell ⟨B, 0, none⟩ v').heap[b]? = W.heap[b]?) ∧ Below B W (w1.setCell ⟨B, 0, none⟩ v') := by
  have hb1 : Below base W w1 := ((Below.refl base W).alloc hbase tmp).grown hgrow (by simp; omega) (fun k hk => (World.ownsRow.lt hrow k hk).1)
  have hv1 : Boxed w1 B t v := (hb1.block B hB).trans hv
  refine ⟨hv1, hv1.set v', hown'.kept (grownBy_setCell' w1 B v') (.inr fun e' => ?_), ?_, fun b hb hne => (Below.heap_setCell _ _ _ b hne).trans (hb1.block b hb), Below.setCell (p := ⟨B, 0, none⟩) (hb1.mono (Nat.le_of_lt hB)) (Nat.le_refl _) _⟩
  · have := (World.ownsRow.lt hown' B e').1; omega
  · refine ((KeepsOthers.alloc W tmp).trans (KeepsOthers.of_grownBy hgrow fun j o ej hj => ?_)).trans (KeepsOthers.setCell _ _ _)
    rcases (hrow.alloc tmp).2 with ⟨rfl, _⟩ | ⟨g, cap, cur, rfl, _, hgb, _⟩
    · simp [Value.ownBlock] at ej
    · obtain rfl : g = j := by simpa [Value.ownBlock] using ej
      rw [hgb] at hj; cases hj; rfl
set_option maxRecDepth 100000 in
set_option maxHeartbeats 4000000 in
theorem usedOn_any (c : CV) (a0 a1 a2 : Value) (z : Int) (w0 w : World) (hw : Below w0.heap.size w0 w) (x : Addr) (hg : ErrAt x w) (hc : CluR w0 c a0 a1 a2) :
    Calls Tryz.prog 48 #[.agg #[a0, a1, a2], .int .i64 z] w (RetR (usedOf c z).1 (usedOf c z).2 w) := by
  obtain ⟨D0, e0, rfl, _⟩ := hc.1.form
  obtain ⟨D1, e1, rfl, _⟩ := hc.2.1.form
  obtain ⟨D2, e2, rfl, _⟩ := hc.2.2.1.form
  have HC := Lib.hid hc
  have HG := Lib.hid hg
  have HW := Lib.hid hw
  clear hc hg hw
  refine (callsIn_wide (n := 3)).1 ?_
  refine callsIn_of_wp_marks Tryz.func48 rfl trivial ?_ rfl
  simp only [Tryz.ntmps48, List.size_toArray, List.length_cons, List.length_nil, Nat.reduceAdd, Nat.reduceSub, Array.replicate_succ, Array.replicate_zero, List.push_toArray, List.append_toArray, List.nil_append, List.cons_append]
  gi_wp2
  refine ⟨trivial, (callsIn_wide.2 (tasksOn_any D0 D1 D2 _ _ _ e0 e1 e2 z _)).mono ?_⟩
  rintro e w1 ⟨rfl, rfl⟩
  gi_wp2
  have hX : Below w.heap.size w (((((w.alloc (.cells #[.slice D0 c.tasks.length e0, .slice D1 c.nodes.length e1, .slice D2 c.binds.length e2] 34)).alloc (.cells #[.int .i64 0, .int .i64 0, .int .i64 0] 46)).alloc (.cells #[.slice none 0 0] 79)).alloc (.cells #[.slice D0 c.tasks.length e0, .slice D1 c.nodes.length e1, .slice D2 c.binds.length e2] 34)).alloc (.cells #[.int .i64 z] 3)) := (by repeat' (first | exact Below.refl _ _ | refine Below.alloc ?_ ?_ _ | refine Below.setCell ?_ ?_ _ | refine Below.drew ?_ | (apply below_step; assumption) | (simp; done) | (simp; omega) | omega))
  have hXz : ((((((w.alloc (.cells #[.slice D0 c.tasks.length e0, .slice D1 c.nodes.length e1, .slice D2 c.binds.length e2] 34)).alloc (.cells #[.int .i64 0, .int .i64 0, .int .i64 0] 46)).alloc (.cells #[.slice none 0 0] 79)).alloc (.cells #[.slice D0 c.tasks.length e0, .slice D1 c.nodes.length e1, .slice D2 c.binds.length e2] 34)).alloc (.cells #[.int .i64 z] 3))).heap.size = w.heap.size + 5 := by simp
  have bR : BlockIs (((((w.alloc (.cells #[.slice D0 c.tasks.length e0, .slice D1 c.nodes.length e1, .slice D2 c.binds.length e2] 34)).alloc (.cells #[.int .i64 0, .int .i64 0, .int .i64 0] 46)).alloc (.cells #[.slice none 0 0] 79)).alloc (.cells #[.slice D0 c.tasks.length e0, .slice D1 c.nodes.length e1, .slice D2 c.binds.length e2] 34)).alloc (.cells #[.int .i64 z] 3)) (w.heap.size + 1) 46 #[.int .i64 0, .int .i64 0, .int .i64 0] := (((BlockIs.new' (by simp)).alloc _).alloc _).alloc _
  have bO : Boxed (((((w.alloc (.cells #[.slice D0 c.tasks.length e0, .slice D1 c.nodes.length e1, .slice D2 c.binds.length e2] 34)).alloc (.cells #[.int .i64 0, .int .i64 0, .int .i64 0] 46)).alloc (.cells #[.slice none 0 0] 79)).alloc (.cells #[.slice D0 c.tasks.length e0, .slice D1 c.nodes.length e1, .slice D2 c.binds.length e2] 34)).alloc (.cells #[.int .i64 z] 3)) (w.heap.size + 2) 79 (.slice none 0 0) := ((BlockIs.new' (by simp)).alloc _).alloc _
  have bC : BlockIs (((((w.alloc (.cells #[.slice D0 c.tasks.length e0, .slice D1 c.nodes.length e1, .slice D2 c.binds.length e2] 34)).alloc (.cells #[.int .i64 0, .int .i64 0, .int .i64 0] 46)).alloc (.cells #[.slice none 0 0] 79)).alloc (.cells #[.slice D0 c.tasks.length e0, .slice D1 c.nodes.length e1, .slice D2 c.binds.length e2] 34)).alloc (.cells #[.int .i64 z] 3)) (w.heap.size + 3) 34 #[.slice D0 c.tasks.length e0, .slice D1 c.nodes.length e1, .slice D2 c.binds.length e2] := (BlockIs.new' (by simp)).alloc _
  have bN : BlockIs (((((w.alloc (.cells #[.slice D0 c.tasks.length e0, .slice D1 c.nodes.length e1, .slice D2 c.binds.length e2] 34)).alloc (.cells #[.int .i64 0, .int .i64 0, .int .i64 0] 46)).alloc (.cells #[.slice none 0 0] 79)).alloc (.cells #[.slice D0 c.tasks.length e0, .slice D1 c.nodes.length e1, .slice D2 c.binds.length e2] 34)).alloc (.cells #[.int .i64 z] 3)) (w.heap.size + 4) 3 #[.int .i64 z] := BlockIs.new' (by simp)
  generalize (((((w.alloc (.cells #[.slice D0 c.tasks.length e0, .slice D1 c.nodes.length e1, .slice D2 c.binds.length e2] 34)).alloc (.cells #[.int .i64 0, .int .i64 0, .int .i64 0] 46)).alloc (.cells #[.slice none 0 0] 79)).alloc (.cells #[.slice D0 c.tasks.length e0, .slice D1 c.nodes.length e1, .slice D2 c.binds.length e2] 34)).alloc (.cells #[.int .i64 z] 3)) = X at hX hXz bR bO bC bN ⊢
  refine wpIn_rangeFunc_ownH rfl (by omega) (gf := 93) (lb := #[.pointer (some ⟨w.heap.size + 1 + 1 + 1, 0, none⟩), .pointer (some ⟨w.heap.size + 1 + 1 + 1 + 1, 0, none⟩)]) rfl trivial (enters_of Tryz.func93 (by kernel_rfl) rfl)
    (tasksOn_stops c D0 D1 D2 e0 e1 e2 z w0 X (below_of HW.out hX) HC.out (w.heap.size + 3) (w.heap.size + 4) w.heap.size 2 HW.out.size (by omega) bC bN) KpOn.t (KpOn.b (by omega) (by omega) (by omega)) (Below.refl _ _) (fun _ => rfl)
    (fun (pre : List (OnT w0)) W => OnI w (needsOn pre) W)
    (fun _ _ _ => False)
    (fun s A B row hs hg hr => onI_own w X.heap.size (by omega) _ A B row hs hg hr)
    (fun _ _ _ _ _ hs _ _ => hs)
    ⟨⟨⟨⟨_, bO, World.ownsRow_nil _ _ _ _, trivial⟩, bR⟩, hX⟩, by omega⟩
    (fun x a' W => ∃ Bx, w.heap.size + 5 ≤ Bx ∧ BlockIs W Bx 73 x.1.2.toArray ∧ a' = { tmps := #[.agg #[.slice D0 c.tasks.length e0, .slice D1 c.nodes.length e1, .slice D2 c.binds.length e2], .int .i64 z, .pointer (some ⟨w.heap.size, 0, none⟩), undef, .pointer (some ⟨w.heap.size + 1, 0, none⟩), .bool false, .pointer (some ⟨w.heap.size + 1 + 1, 0, none⟩), .pointer (some ⟨Bx, 0, none⟩), .agg #[.slice D0 c.tasks.length e0, .slice D1 c.nodes.length e1, .slice D2 c.binds.length e2], .int .i64 z, .func (.func 93) #[] #[.pointer (some ⟨w.heap.size + 1 + 1 + 1, 0, none⟩), .pointer (some ⟨w.heap.size + 1 + 1 + 1 + 1, 0, none⟩)], .agg x.1.2.toArray, undef, undef, undef, undef, undef, undef, undef, undef, undef], defers := [] })
    (fun x a' _ Y Z row hs hg hr => by
      obtain ⟨Bx, h1, h2, h3⟩ := hs
      exact ⟨Bx, h1, (hg.block _ (BlockIs.lt h2) (fun e => by obtain ⟨_, o, ho, hc⟩ := hr _ e.symm; rw [show Y.heap[Bx]? = _ from h2] at ho; cases ho; cases hc)).trans h2, h3⟩)
    ?assign ?body ?done ?stop
  case assign =>
    rintro l pre ⟨⟨t, cs⟩, hR⟩ W K hI hK
    change TaskR w0 t cs at hR
    obtain ⟨v1, v2, rfl, sl, si, _⟩ := id hR
    obtain ⟨A1, c1, rfl, _⟩ := sl.form
    obtain ⟨A2, c2, rfl, _⟩ := si.form
    clear sl si
    dsimp only [encT]
    have hBs := hI.1.2.size
    have hB5 := hI.2
    have HI := Lib.hid hI
    have HK := Lib.hid hK
    clear hI hK
    gi_wp2
    have hI := HI.out
    obtain ⟨⟨⟨⟨v, hv, hrow, _⟩, hr⟩, hB⟩, _⟩ := hI
    exact HK.out _ _ ((KeepsOthers.alloc _ _).from _) ⟨(Below.refl _ W).alloc hBs _, Below.heap_alloc W _ _ (by omega), Below.heap_alloc W _ _ (by omega)⟩
      ⟨⟨⟨⟨v, hv.alloc _, hrow.alloc _, trivial⟩, hr.alloc _⟩, hB.alloc hBs _⟩, by simp; omega⟩ ⟨W.heap.size, by omega, BlockIs.new W _ _, rfl⟩
  case body =>
    rintro l pre ⟨⟨t, cs⟩, hR⟩ a' W hl hrl hI ⟨Bx, hBx, bX, rfl⟩ hlt
    change TaskR w0 t cs at hR
    obtain ⟨v1, v2, rfl, sl, si, _⟩ := id hR
    obtain ⟨A1, c1, rfl, _⟩ := sl.form
    obtain ⟨A2, c2, rfl, _⟩ := si.form
    obtain ⟨⟨⟨⟨v, hv, hrow, _⟩, hr⟩, hB⟩, hB5⟩ := hI
    dsimp only at bX
    have x2 := bX.cell 2
    have x3 := bX.cell 3
    have x4 := bX.cell 4
    have hxl := bX.lt
    have hcv : W.cell? ⟨w.heap.size + 1 + 1, 0, none⟩ = some v := hv.cell
    simp at x2 x3 x4
    have HV := Lib.hid hv
    have HRW := Lib.hid hrow
    have HRR := Lib.hid hr
    have HBB := Lib.hid hB
    have HLT := Lib.hid (Nat.lt_of_lt_of_le hlt HC.out.2.2.2.2.2)
    clear sl si hv hrow hr hB bX hrl
    have hnl : (needsOn pre).length = pre.length := by simp [needsOn]
    have HNL := Lib.hid hnl
    clear hnl
    gi_wp2_with (gi_at_builtin; refine wpListIn_append_res _ rfl (.tmp 12) (.tmp 15) rfl (w.heap.size + 5) v (needsOn pre) t.need W.heap.size rfl (HRW.out.alloc _) rfl (by simp) (by simp) (by simp) (by have := HNL.out; have := HLT.out; omega) (by simp; omega) ?_; intro v' w1 hown' hgrow; obtain ⟨g', cap', rfl⟩ := ownsRow_succ hown'; obtain ⟨hv1, hv2, hr2, hk2, hs2, hb2⟩ := boxed_app HV.out HRW.out hB5 (by omega) hown' hgrow; have hc1 : w1.cell? ⟨w.heap.size + 1 + 1, 0, none⟩ = some v := hv1.cell; have hf1 : w1.frozen? ⟨w.heap.size + 1 + 1, 0, none⟩ = false := hv1.frozen)
    refine ⟨hk2.from _, ⟨hb2.mono (by omega), hs2 _ (by omega) (by omega), hs2 _ (by omega) (by omega)⟩, ⟨⟨⟨⟨_, hv2, ?_, trivial⟩, (hs2 _ (by omega) (by omega)).trans HRR.out⟩, HBB.out.trans (hb2.mono (by omega))⟩, ?_⟩⟩
    · rw [needsOn_snoc, List.length_append]; exact hr2
    · exact Nat.le_trans hB5 hb2.size
  case done =>
    rintro D ys W hD hys hI hK
    obtain ⟨⟨⟨⟨v, hv, hrow, _⟩, hr⟩, hB⟩, hB5⟩ := hI
    have hcv : W.cell? ⟨w.heap.size + 1 + 1, 0, none⟩ = some v := hv.cell
    have hne : needsOn ys = (tasksOnL c z c.binds).map TV.need := by rw [← hys, List.map_map]; rfl
    have hU : usedOf c z = sumGo RV.zero (needsOn ys) := by rw [hne, used_on]
    have hlen : (needsOn ys).length ≤ 1048576 := by
      have e1 := tasksOnL_len c z c.binds
      have e2 := HC.out.2.2.2.2.2
      rw [hne, List.length_map]; omega
    obtain ⟨A5, c5, rfl, _⟩ := own_form' hrow
    have hsum := fun w x hg hv => ResSum_any (.slice A5 (needsOn ys).length c5) (needsOn ys) w x hg hv hlen
    rw [← hU] at hsum
    generalize hu1 : (usedOf c z).1 = u at hsum
    generalize hu2 : (usedOf c z).2 = ok at hsum
    have HU := Lib.hid (And.intro hu1 hu2)
    clear hu1 hu2
    have HSUM := Lib.hid hsum
    have HGR := Lib.hid (HG.out.below hB (Nat.le_refl _))
    have HRW := Lib.hid (show OwnsR W (w.heap.size + 5) _ (needsOn ys) from hrow)
    have HRR := Lib.hid hr
    have HBB := Lib.hid hB
    have HK := Lib.hid hK
    clear hU hsum hlen hne hys hv hrow hr hK
    gi_wp2
    refine ⟨trivial, (callsIn_wide.2 (HSUM.out _ x HGR.out HRW.out.sl)).mono ?_⟩
    rintro e w2 ⟨rfl, hb2⟩
    have hz2 := hb2.size
    have BR := HRR.out.below hb2 (by omega)
    have r0 := BR.cell 0
    have r1 := BR.cell 1
    have r2 := BR.cell 2
    have rf := BR.frozen
    simp at r0 r1 r2
    have HB2 := Lib.hid BR
    have HK2 := Lib.hid ((hb2.block D (Array.getElem?_eq_some_iff.1 HK.out).1).trans HK.out)
    clear BR
    gi_wp2
    have hZ : BlockIs (((w2.setCell ⟨w.heap.size + 1, 0, none⟩ (.int .i64 u.c)).setCell ⟨w.heap.size + 1, 1, none⟩ (.int .i64 u.m)).setCell ⟨w.heap.size + 1, 2, none⟩ (.int .i64 u.p)) (w.heap.size + 1) 46 #[.int .i64 u.c, .int .i64 u.m, .int .i64 u.p] := by simpa using ((HB2.out.put 0 _).put 1 _).put 2 _
    have hX' : Below w.heap.size w (((w2.setCell ⟨w.heap.size + 1, 0, none⟩ (.int .i64 u.c)).setCell ⟨w.heap.size + 1, 1, none⟩ (.int .i64 u.m)).setCell ⟨w.heap.size + 1, 2, none⟩ (.int .i64 u.p)) := (((below_of HBB.out hb2).setCell (by dsimp only; omega) _).setCell (by dsimp only; omega) _).setCell (by dsimp only; omega) _
    have hKY : ((((w2.setCell ⟨w.heap.size + 1, 0, none⟩ (.int .i64 u.c)).setCell ⟨w.heap.size + 1, 1, none⟩ (.int .i64 u.m)).setCell ⟨w.heap.size + 1, 2, none⟩ (.int .i64 u.p))).heap[D]? = some (.deferred (some [])) := by
      have hne : D ≠ w.heap.size + 1 := by omega
      exact (Below.heap_setCell _ _ _ D hne).trans ((Below.heap_setCell _ _ _ D hne).trans ((Below.heap_setCell _ _ _ D hne).trans HK2.out))
    generalize (((w2.setCell ⟨w.heap.size + 1, 0, none⟩ (.int .i64 u.c)).setCell ⟨w.heap.size + 1, 1, none⟩ (.int .i64 u.m)).setCell ⟨w.heap.size + 1, 2, none⟩ (.int .i64 u.p)) = Y at hZ hX' hKY ⊢
    refine ⟨by simp, .inl ⟨_, _, rfl, run_takeDeferred hKY, ?_⟩⟩
    have hZ2 : BlockIs (Y.putObj D (.deferred none)) (w.heap.size + 1) 46 #[.int .i64 u.c, .int .i64 u.m, .int .i64 u.p] := (World.putObj_heap_other (by omega)).trans hZ
    have hY2 : Below w.heap.size w (Y.putObj D (.deferred none)) := hX'.trans (belowK_b (w := w) (Nat.le_refl _) Y D _ _ (by omega) hKY rfl rfl)
    generalize Y.putObj D (.deferred none) = Y2 at hZ2 hY2 ⊢
    have z0 := hZ2.cell 0
    have z1 := hZ2.cell 1
    have z2 := hZ2.cell 2
    simp at z0 z1 z2
    exact ⟨.tuple #[.agg #[.int .i64 u.c, .int .i64 u.m, .int .i64 u.p], .bool ok], by simp [results, Tryz.results48, go_sem, z0, z1, z2], by rw [HU.out.1, HU.out.2], hY2⟩
  case stop =>
    rintro D c pre W _ _ h _
    exact h.elim
end Go.Proofs.YtkaecjjbammphaaGreatDoor

namespace Go.Proofs.YtkaecjjbammphaaGreatDoor
open Go.RowKit

theorem needsIn_take_yes {c : CV} {n : Int} {k : Nat} {b : BV} (h : c.binds[k]? = some b) (e : b.node = n) : needsIn c n (c.binds.take (k + 1)) = needsIn c n (c.binds.take k) ++ [needOf c b.task] := by
  rw [take_at h, needsIn_append, needsIn_yes e]; rfl
theorem needsIn_take_no {c : CV} {n : Int} {k : Nat} {b : BV} (h : c.binds[k]? = some b) (e : b.node ≠ n) : needsIn c n (c.binds.take (k + 1)) = needsIn c n (c.binds.take k) := by
  rw [take_at h, needsIn_append, needsIn_no e]; simp [needsIn]
theorem needsIn_take_len (c : CV) (n : Int) (k : Nat) : (needsIn c n (c.binds.take k)).length ≤ c.binds.length := by
  have h1 := needsIn_len c n (c.binds.take k)
  rw [List.length_take] at h1
  omega

set_option maxHeartbeats 1600000 in
theorem freeOn_any (c : CV) (n : NV) (a0 a1 a2 u1 u2 : Value) (w0 w : World) (hw : Below w0.heap.size w0 w) (x : Addr) (hg : ErrAt x w) (hc : CluR w0 c a0 a1 a2) (hn1 : LabSl w0 u1 n.labs) (hn2 : IntSl w0 u2 n.taints) :
    Calls Tryz.prog 70 #[.agg #[a0, a1, a2], .agg #[.int .i64 n.id, .int .i64 n.pool, .int .i64 n.cap.c, .int .i64 n.cap.m, .int .i64 n.cap.p, u1, u2, .bool n.cordon]] w (RetR (freeOf c n).1 (freeOf c n).2 w) := by
  have hus := fun w hw hg => usedOn_any c a0 a1 a2 n.id w0 w hw x hg hc
  obtain ⟨h0, h1, h2, l0, l1, l2⟩ := hc
  obtain ⟨D0, e0, rfl, r0⟩ := h0.form
  obtain ⟨D1, e1, rfl, r1⟩ := h1.form
  obtain ⟨D2, e2, rfl, r2⟩ := h2.form
  obtain ⟨A1, c1, rfl, r3⟩ := hn1.form
  obtain ⟨A2, c2, rfl, r4⟩ := hn2.form
  have hfr : freeOf c n = if (usedOf c n.id).2 then (resSub n.cap (usedOf c n.id).1, resSubOk n.cap (usedOf c n.id).1) else (RV.zero, false) := rfl
  generalize (usedOf c n.id).1 = u at hus hfr
  generalize (usedOf c n.id).2 = ok at hus hfr
  have hsub := fun w hg => ResSub_any n.cap u w x hg
  have HUS := Lib.hid hus
  have HFR := Lib.hid hfr
  have HSUB := Lib.hid hsub
  have HG := Lib.hid hg
  have HW := Lib.hid hw
  clear hus hfr hsub h0 h1 h2 l0 l1 l2 r0 r1 r2 r3 r4 hn1 hn2 hg hw
  go_enter Tryz.func70, Tryz.ntmps70
  go_wp2_with fail
  have hX : Below w.heap.size w (((w.alloc (.cells #[.slice D0 c.tasks.length e0, .slice D1 c.nodes.length e1, .slice D2 c.binds.length e2] 34)).alloc (.cells #[.int .i64 n.id, .int .i64 n.pool, .int .i64 n.cap.c, .int .i64 n.cap.m, .int .i64 n.cap.p, .slice A1 n.labs.length c1, .slice A2 n.taints.length c2, .bool n.cordon] 51)).alloc (.cells #[.int .i64 0, .int .i64 0, .int .i64 0] 46)) := (by repeat' (first | exact Below.refl _ _ | refine Below.alloc ?_ ?_ _ | refine Below.setCell ?_ ?_ _ | refine Below.drew ?_ | (apply below_step; assumption) | (simp; done) | (simp; omega) | omega))
  refine (HUS.out _ (below_of HW.out hX) (HG.out.below hX (Nat.le_refl _))).mono ?_
  rintro e w2 ⟨rfl, hb2⟩
  have hz2 := hb2.size
  simp at hz2
  have hC2 := below_of hX hb2
  have BN : BlockIs w2 (w.heap.size + 1) 51 #[.int .i64 n.id, .int .i64 n.pool, .int .i64 n.cap.c, .int .i64 n.cap.m, .int .i64 n.cap.p, .slice A1 n.labs.length c1, .slice A2 n.taints.length c2, .bool n.cordon] := (BlockIs.alloc (BlockIs.new' (by simp)) _).below hb2 (by simp)
  have BR : BlockIs w2 (w.heap.size + 1 + 1) 46 #[.int .i64 0, .int .i64 0, .int .i64 0] := (BlockIs.new' (by simp)).below hb2 (by simp)
  have r0 := BR.cell 0
  have r1 := BR.cell 1
  have r2 := BR.cell 2
  have rf := BR.frozen
  have rl := BR.lt
  have n2 := BN.cell 2
  have n3 := BN.cell 3
  have n4 := BN.cell 4
  have nl := BN.lt
  simp at r0 r1 r2 n2 n3 n4
  have HBR := Lib.hid BR
  clear BN BR hb2 hX
  cases ok
  · go_wp2_with fail
    have hZ : BlockIs (World.alloc (((w2.setCell ⟨w.heap.size + 1 + 1, 0, none⟩ (.int .i64 0)).setCell ⟨w.heap.size + 1 + 1, 1, none⟩ (.int .i64 0)).setCell ⟨w.heap.size + 1 + 1, 2, none⟩ (.int .i64 0)) (.cells #[.int .i64 u.c, .int .i64 u.m, .int .i64 u.p] 46)) (w.heap.size + 1 + 1) 46 #[.int .i64 0, .int .i64 0, .int .i64 0] := by
      have := (((HBR.out.put 0 (.int .i64 0)).put 1 (.int .i64 0)).put 2 (.int .i64 0)).alloc (.cells #[.int .i64 u.c, .int .i64 u.m, .int .i64 u.p] 46)
      simpa using this
    have hX' : Below w.heap.size w (World.alloc (((w2.setCell ⟨w.heap.size + 1 + 1, 0, none⟩ (.int .i64 0)).setCell ⟨w.heap.size + 1 + 1, 1, none⟩ (.int .i64 0)).setCell ⟨w.heap.size + 1 + 1, 2, none⟩ (.int .i64 0)) (.cells #[.int .i64 u.c, .int .i64 u.m, .int .i64 u.p] 46)) := ((((hC2.setCell (by dsimp only; omega) _).setCell (by dsimp only; omega) _).setCell (by dsimp only; omega) _)).alloc (by simp [World.setCell]; omega) _
    generalize World.alloc (((w2.setCell ⟨w.heap.size + 1 + 1, 0, none⟩ (.int .i64 0)).setCell ⟨w.heap.size + 1 + 1, 1, none⟩ (.int .i64 0)).setCell ⟨w.heap.size + 1 + 1, 2, none⟩ (.int .i64 0)) (.cells #[.int .i64 u.c, .int .i64 u.m, .int .i64 u.p] 46) = Y at hZ hX' ⊢
    have z0 := hZ.cell 0
    have z1 := hZ.cell 1
    have z2 := hZ.cell 2
    simp at z0 z1 z2
    exact bodyPost_ret (v := .tuple #[.agg #[.int .i64 RV.zero.c, .int .i64 RV.zero.m, .int .i64 RV.zero.p], .bool false]) (by simp [results, Tryz.results70, go_sem, z0, z1, z2, RV.zero]) rfl ⟨by rw [HFR.out]; rfl, hX'⟩
  · go_wp2_with fail
    refine (HSUB.out _ (HG.out.below (hC2.alloc (by omega) _) (Nat.le_refl _))).mono ?_
    rintro e w3 ⟨rfl, hb3⟩
    have hz3 := hb3.size
    simp at hz3
    have hC3 : Below w.heap.size w w3 := below_of (hC2.alloc (by omega) _) hb3
    have BR := (HBR.out.alloc (.cells #[.int .i64 u.c, .int .i64 u.m, .int .i64 u.p] 46)).below hb3 (by simp; omega)
    have r0 := BR.cell 0
    have r1 := BR.cell 1
    have r2 := BR.cell 2
    have rf := BR.frozen
    have rl := BR.lt
    simp at r0 r1 r2
    have HB3 := Lib.hid BR
    clear BR hb3
    generalize hs1 : resSub n.cap u = s
    generalize hs2 : resSubOk n.cap u = sok
    have HS := Lib.hid (And.intro hs1 hs2)
    clear hs1 hs2
    go_wp2_with fail
    have hZ : BlockIs (((w3.setCell ⟨w.heap.size + 1 + 1, 0, none⟩ (.int .i64 s.c)).setCell ⟨w.heap.size + 1 + 1, 1, none⟩ (.int .i64 s.m)).setCell ⟨w.heap.size + 1 + 1, 2, none⟩ (.int .i64 s.p)) (w.heap.size + 1 + 1) 46 #[.int .i64 s.c, .int .i64 s.m, .int .i64 s.p] := by simpa using ((HB3.out.put 0 _).put 1 _).put 2 _
    have hX' : Below w.heap.size w (((w3.setCell ⟨w.heap.size + 1 + 1, 0, none⟩ (.int .i64 s.c)).setCell ⟨w.heap.size + 1 + 1, 1, none⟩ (.int .i64 s.m)).setCell ⟨w.heap.size + 1 + 1, 2, none⟩ (.int .i64 s.p)) := (((hC3).setCell (by dsimp only; omega) _).setCell (by dsimp only; omega) _).setCell (by dsimp only; omega) _
    generalize (((w3.setCell ⟨w.heap.size + 1 + 1, 0, none⟩ (.int .i64 s.c)).setCell ⟨w.heap.size + 1 + 1, 1, none⟩ (.int .i64 s.m)).setCell ⟨w.heap.size + 1 + 1, 2, none⟩ (.int .i64 s.p)) = Y at hZ hX' ⊢
    have z0 := hZ.cell 0
    have z1 := hZ.cell 1
    have z2 := hZ.cell 2
    simp at z0 z1 z2
    exact bodyPost_ret (v := .tuple #[.agg #[.int .i64 s.c, .int .i64 s.m, .int .i64 s.p], .bool sok]) (by simp [results, Tryz.results70, go_sem, z0, z1, z2]) rfl ⟨by rw [HFR.out]; simp [HS.out.1, HS.out.2], hX'⟩

theorem fitsAll_yes {c : CV} {n : NV} {r : List NV} (h : (freeOf c n).2 = true) : fitsAll c (n :: r) = fitsAll c r := by simp [fitsAll, h]
theorem fitsAll_no {c : CV} {n : NV} {r : List NV} (h : (freeOf c n).2 = false) : fitsAll c (n :: r) = false := by simp [fitsAll, h]
set_option maxHeartbeats 1600000 in
theorem needsFit_any (c : CV) (a0 a1 a2 : Value) (w : World) (x : Addr) (hg : ErrAt x w) (hc : CluR w c a0 a1 a2) :
    Calls Tryz.prog 47 #[.agg #[a0, a1, a2]] w fun e w' => e = .returned (.bool (fitsAll c c.nodes)) ∧ Below w.heap.size w w' := by
  have HC := Lib.hid hc
  obtain ⟨h0, h1, h2, l0, l1, l2⟩ := hc
  obtain ⟨D0, e0, rfl, r0⟩ := h0.form
  obtain ⟨D1, e1, rfl, hA⟩ := h1.form
  obtain ⟨D2, e2, rfl, r2⟩ := h2.form
  have HA := Lib.hid hA
  have HG := Lib.hid hg
  clear hA h0 h1 h2 l0 l2 r0 r2 hg
  go_enter Tryz.func47, Tryz.ntmps47
  go_wp2_with fail
  go_loopw [10] (fun s10 wr => ∃ k : Nat, k ≤ c.nodes.length ∧ s10 = .int .i64 k ∧ fitsAll c c.nodes = fitsAll c (c.nodes.drop k) ∧ BlockIs wr w.heap.size 34 #[.slice D0 c.tasks.length e0, .slice D1 c.nodes.length e1, .slice D2 c.binds.length e2] ∧ Below w.heap.size w wr) (fun s10 _ => (c.nodes.length - intOf s10).toNat)
  case atStart => exact ⟨0, by omega, rfl, by simp, BlockIs.new _ _ _, (by repeat' (first | exact Below.refl _ _ | refine Below.alloc ?_ ?_ _ | refine Below.setCell ?_ ?_ _ | refine Below.drew ?_ | (apply below_step; assumption) | (simp; done) | (simp; omega) | omega))⟩
  case round =>
    obtain ⟨k, hk, rfl, hts, hblk, hB⟩ := hrel
    have HTS := Lib.hid hts
    have HBK := Lib.hid hblk
    have hzr := hB.size
    have hgl := hblk.lt
    clear hts
    by_cases hlt : k < c.nodes.length
    · obtain ⟨b, off, rfl, hbw, hat⟩ := HA.out (by omega)
      obtain ⟨t, ht⟩ : ∃ t, c.nodes[k]? = some t := ⟨_, List.getElem?_eq_getElem hlt⟩
      obtain ⟨cs, hR, hC0⟩ := hat k t ht
      have hC := hC0.below hB hbw
      have HD := Lib.hid (drop_at ht)
      obtain ⟨v1, v2, rfl, sl, si, m1, m2⟩ := hR
      have hfr := fun w1 hw1 hg1 => freeOn_any c t (.slice D0 c.tasks.length e0) (.slice (some ⟨b, off, none⟩) c.nodes.length e1) (.slice D2 c.binds.length e2) v1 v2 w w1 hw1 x hg1 HC.out sl si
      obtain ⟨A1, c1, rfl, _⟩ := sl.form
      obtain ⟨A2, c2, rfl, _⟩ := si.form
      obtain ⟨q0, q1, q2, q3, q4, q5, q6, q7⟩ := node_cells hC
      generalize (freeOf c t).1 = u at hfr
      generalize ho : (freeOf c t).2 = ok at hfr
      have HFR := Lib.hid hfr
      have HO := Lib.hid ho
      have g0 := hblk.cell 0
      have g1 := hblk.cell 1
      have g2 := hblk.cell 2
      simp at g0 g1 g2
      have hbr : b < wr.heap.size := by omega
      clear hat hC hC0 ht hblk sl si m1 m2 hfr ho
      go_wp2_with fail
      have hX : Below wr.heap.size wr (wr.alloc (.cells #[.int .i64 t.id, .int .i64 t.pool, .int .i64 t.cap.c, .int .i64 t.cap.m, .int .i64 t.cap.p, .slice A1 t.labs.length c1, .slice A2 t.taints.length c2, .bool t.cordon] 51)) := (by repeat' (first | exact Below.refl _ _ | refine Below.alloc ?_ ?_ _ | refine Below.setCell ?_ ?_ _ | refine Below.drew ?_ | (apply below_step; assumption) | (simp; done) | (simp; omega) | omega))
      have hCX := below_of hB hX
      refine (HFR.out _ hCX (HG.out.below hCX (Nat.le_refl _))).mono ?_
      rintro e w2 ⟨rfl, hb2⟩
      have hD2 := below_of hX hb2
      have hC2 := below_of hB hD2
      have HBK2 := Lib.hid (HBK.out.below hD2 HBK.out.lt)
      have hz2 := hD2.size
      clear hb2
      cases ok
      · go_wp2_with fail
        go_ret
        exact ⟨by rw [HTS.out, HD.out, fitsAll_no HO.out]; rfl, (by repeat' (first | exact Below.refl _ _ | refine Below.alloc ?_ ?_ _ | refine Below.setCell ?_ ?_ _ | refine Below.drew ?_ | (apply below_step; assumption) | (simp; done) | (simp; omega) | omega))⟩
      · go_wp2_with fail
        go_roundw
        case rel => exact ⟨k + 1, by omega, by go_num, by rw [HTS.out, HD.out, fitsAll_yes HO.out], HBK2.out.alloc _, hC2.alloc (by omega) _⟩
        case measure => simp [intOf]; omega
    · have hkl : k = c.nodes.length := by omega
      have HF := Lib.hid (show fitsAll c c.nodes = true by rw [HTS.out, hkl, List.drop_length]; rfl)
      clear hkl
      go_wp2_with fail
      go_ret
      exact ⟨by rw [HF.out]; rfl, hB⟩

theorem clusterOk_eq (c : CV) (b1 b2 b3 b4 : Bool) (h1 : tasksOk c.tasks = b1) (h2 : nodesOk c.nodes = b2) (h3 : bindsFrom c 0 c.binds = b3) (h4 : fitsAll c c.nodes = b4) : clusterOk c = (b1 && b2 && b3 && b4) := by
  subst h1 h2 h3 h4; rfl
set_option maxHeartbeats 1600000 in
theorem ClusterOk_any (c : CV) (a0 a1 a2 : Value) (w : World) (x : Addr) (hg : ErrAt x w) (hc : CluR w c a0 a1 a2) :
    Calls Tryz.prog 22 #[.agg #[a0, a1, a2]] w fun e w' => e = .returned (.bool (clusterOk c)) ∧ Below w.heap.size w w' := by
  have HC := Lib.hid hc
  obtain ⟨h0, h1, h2, l0, l1, l2⟩ := hc
  have ht := fun w hg h => tasksOk_any a0 c.tasks w x hg h l0
  have hn := fun w hg h => nodesOk_any a1 c.nodes w x hg h l1
  have hb := fun w hg h => bindsOk_any c a0 a1 a2 w x hg h
  have hf := fun w hg h => needsFit_any c a0 a1 a2 w x hg h
  generalize e1 : tasksOk c.tasks = b1 at ht
  generalize e2 : nodesOk c.nodes = b2 at hn
  generalize e3 : bindsFrom c 0 c.binds = b3 at hb
  generalize e4 : fitsAll c c.nodes = b4 at hf
  have HE := Lib.hid (clusterOk_eq c _ _ _ _ e1 e2 e3 e4)
  have HT := Lib.hid ht
  have HN := Lib.hid hn
  have HB := Lib.hid hb
  have HF := Lib.hid hf
  have HG := Lib.hid hg
  obtain ⟨D0, d0, rfl, _⟩ := h0.form
  obtain ⟨D1, d1, rfl, _⟩ := h1.form
  obtain ⟨D2, d2, rfl, _⟩ := h2.form
  clear h0 h1 h2 l0 l1 l2 ht hn hb hf hg e1 e2 e3 e4
  go_enter Tryz.func22, Tryz.ntmps22
  go_wp2_with fail
  have hX : Below w.heap.size w (w.alloc (.cells #[.slice D0 c.tasks.length d0, .slice D1 c.nodes.length d1, .slice D2 c.binds.length d2] 34)) := (by repeat' (first | exact Below.refl _ _ | refine Below.alloc ?_ ?_ _ | refine Below.setCell ?_ ?_ _ | refine Below.drew ?_ | (apply below_step; assumption) | (simp; done) | (simp; omega) | omega))
  refine (HT.out _ (HG.out.below hX (Nat.le_refl _)) (HC.out.below hX).1).mono ?_
  rintro e w1 ⟨rfl, hb1⟩
  have hC1 := below_of hX hb1
  have B1 := (BlockIs.new w 34 #[.slice D0 c.tasks.length d0, .slice D1 c.nodes.length d1, .slice D2 c.binds.length d2]).below hb1 (by simp)
  have HB1 := Lib.hid B1
  have g0 := B1.cell 0
  have g1 := B1.cell 1
  have g2 := B1.cell 2
  simp at g0 g1 g2
  clear B1 hb1
  cases b1
  · go_wp2_with fail
    go_ret
    exact ⟨by rw [HE.out]; simp, hC1⟩
  go_wp2_with fail
  refine (HN.out _ (HG.out.below hC1 (Nat.le_refl _)) (HC.out.below hC1).2.1).mono ?_
  rintro e w2 ⟨rfl, hb2⟩
  have hC2 := below_of hC1 hb2
  have B2 := HB1.out.below hb2 HB1.out.lt
  have HB2 := Lib.hid B2
  have g0 := B2.cell 0
  have g1 := B2.cell 1
  have g2 := B2.cell 2
  simp at g0 g1 g2
  clear B2 hb2
  cases b2
  · go_wp2_with fail
    go_ret
    exact ⟨by rw [HE.out]; simp, hC2⟩
  go_wp2_with fail
  refine (HB.out _ (HG.out.below hC2 (Nat.le_refl _)) (HC.out.below hC2)).mono ?_
  rintro e w3 ⟨rfl, hb3⟩
  have hC3 := below_of hC2 hb3
  have B3 := HB2.out.below hb3 HB2.out.lt
  have g0 := B3.cell 0
  have g1 := B3.cell 1
  have g2 := B3.cell 2
  simp at g0 g1 g2
  clear B3 hb3
  cases b3
  · go_wp2_with fail
    go_ret
    exact ⟨by rw [HE.out]; simp, hC3⟩
  go_wp2_with fail
  refine (HF.out _ (HG.out.below hC3 (Nat.le_refl _)) (HC.out.below hC3)).mono ?_
  rintro e w4 ⟨rfl, hb4⟩
  have hC4 := below_of hC3 hb4
  go_wp2_with fail
  go_ret
  exact ⟨by rw [HE.out]; simp, hC4⟩
end Go.Proofs.YtkaecjjbammphaaGreatDoor
