/- The contracts of ResOk, ResAdd, ResSub, ResFits. append of a label to a slice of the call's own; the contract of marks.labs. The contracts of LabsOk, LabsGet, LabsMatch. The contracts of readTaints, TaintsOk, Tolerates. The contracts of idOk, TaskOk, NodeOk, CanHost. The contracts of the model's LabsOk, LabsGet, LabsMatch. The contracts of the model's LabsGet and LabsMatch. The contracts of the model's TaintsOk, l02In, Tolerates. The contracts of the model's TaskOk, NodeOk, CanHost. Pools in plain Lean and in memory; the contracts of PoolOk and of its model. What the laws' marks make of a list of labels, ints, tasks, nodes, bindings, in plain Lean. The laws' helpers that write marks and look for them, over flat lists: markLabS, markIntS, markBindS, heldLabS, heldIntS, heldBindS. The laws' helpers that write marks and look for them, over tasks and nodes: markTaskS, markNodeS, heldTaskS, heldNodeS. The laws' helpers toIntS, toTask, toNode, toTaskS, toNodeS, toBindS: their results own their memory, block by block. The laws' helpers over a pool: szPool, toPool, eqPool; a pool as an argument, opened. Slices of pools: the laws' helpers szPoolS, toPoolS, eqPoolS; PoolsOk and its model. Leases in plain Lean: what chapter 6's lease functions compute (Who, Epoch, Till are c, m, p of a triple). Stores in plain Lean: what chapter 6's store functions compute (Key, Val, Ver are c, m, p of a triple). Providers in plain Lean: what chapter 7's functions compute (Id, Pool, State are c, m, p of a triple). -/
import Derived.Test.YtmkpajjnjgnmkabGreatDoorMg02
import Derived.Deep.AppendLies
import Derived.OwnWalk
import Derived.Laws.OwnMore
import Derived.IntWalk
namespace Go.Proofs.YtmkpajjnjgnmkabGreatDoor
open Go.RowKit

theorem keepValid_any (r : RV) (w : World) (x : Addr) (hg : ErrAt x w) : Calls Tryz.prog 168 #[.agg #[.int .i64 r.c, .int .i64 r.m, .int .i64 r.p]] w (RetR r.kept r.ok w) := by
  cases h : r.ok
  · rw [RV.kept_no h]; exact keepValid_no r w x hg h
  · rw [RV.kept_yes h]; exact keepValid_yes r w x hg h
theorem ResOk_any (r : RV) (w : World) (x : Addr) (hg : ErrAt x w) :
    Calls Tryz.prog 144 #[.agg #[.int .i64 r.c, .int .i64 r.m, .int .i64 r.p]] w fun e w' => e = .returned (.bool r.ok) ∧ Below w.heap.size w w' := by
  cases h : r.ok
  · have H := Lib.hid h
    clear h
    go_enter Tryz.func144, Tryz.ntmps144
    go_wp2_with fail
    refine (checkRes_no r _ x (hg.alloc _) H.out).mono ?_
    rintro e w1 ⟨s, rfl, hb1⟩
    have hz1 := hb1.size
    simp at hz1
    go_wp2_with fail
    refine (outOfRange_bad s _ x ((hg.alloc _).below hb1 (Nat.le_refl _))).mono ?_
    rintro e w2 ⟨rfl, hb2⟩
    have hz2 := hb2.size
    go_wp2_with fail
    go_ret
    exact ⟨rfl, (by repeat' (first | exact Below.refl _ _ | refine Below.alloc ?_ ?_ _ | refine Below.setCell ?_ ?_ _ | refine Below.drew ?_ | (apply below_step; assumption) | (simp; done) | (simp; omega) | omega))⟩
  · have H := Lib.hid h
    clear h
    go_enter Tryz.func144, Tryz.ntmps144
    go_wp2_with fail
    refine (checkRes_yes r _ H.out).mono ?_
    rintro e w1 ⟨rfl, hb1⟩
    have hz1 := hb1.size
    simp at hz1
    go_wp2_with fail
    refine (outOfRange_nil _ x ((hg.alloc _).below hb1 (Nat.le_refl _))).mono ?_
    rintro e w2 ⟨rfl, rfl⟩
    go_wp2_with fail
    go_ret
    exact ⟨rfl, (by repeat' (first | exact Below.refl _ _ | refine Below.alloc ?_ ?_ _ | refine Below.setCell ?_ ?_ _ | refine Below.drew ?_ | (apply below_step; assumption) | (simp; done) | (simp; omega) | omega))⟩

theorem ResAdd_in (a b : RV) (w : World) (x : Addr) (hg : ErrAt x w) (ha : a.ok = true) (hb : b.ok = true) :
    Calls Tryz.prog 175 #[.agg #[.int .i64 a.c, .int .i64 a.m, .int .i64 a.p], .agg #[.int .i64 b.c, .int .i64 b.m, .int .i64 b.p]] w (RetR (a.add b).kept (a.add b).ok w) := by
  have hA := RV.ok_iff.1 ha
  have hB := RV.ok_iff.1 hb
  have HA := Lib.hid ha
  have HB := Lib.hid hb
  clear ha hb
  obtain ⟨a1, a2, a3, a4, a5, a6⟩ := hA
  obtain ⟨b1, b2, b3, b4, b5, b6⟩ := hB
  go_enter Tryz.func175, Tryz.ntmps175
  go_wp2_with fail
  refine (checkBoth_yes a b _ HA.out HB.out).mono ?_
  rintro e w1 ⟨rfl, hb1⟩
  have hz1 := hb1.size
  simp at hz1
  obtain ⟨hc1, hf1⟩ := bcell hb1
  have hg1 := (((hg.alloc _).alloc _).alloc _).below hb1 (Nat.le_refl _)
  go_wp2_with fail
  refine (outOfRange_nil _ x hg1).mono ?_
  rintro e w2 ⟨rfl, rfl⟩
  go_wp2_with fail
  refine (keepValid_any ⟨a.c + b.c, a.m + b.m, a.p + b.p⟩ _ x hg1).mono ?_
  rintro e w2 ⟨rfl, hb2⟩
  have hz2 := hb2.size
  obtain ⟨hc2, hf2⟩ := bcell hb2
  have hs1 : w.heap.size + 1 + 1 < w1.heap.size := by omega
  go_wp2_with fail
  refine bodyPost_ret (v := .tuple #[.agg #[.int .i64 (a.add b).kept.c, .int .i64 (a.add b).kept.m, .int .i64 (a.add b).kept.p], .bool (a.add b).ok]) (by simp [results, Tryz.results175, go_sem, hc1, hc2, hs1]; exact ⟨⟨rfl, rfl, rfl⟩, rfl⟩) rfl ⟨rfl, (by repeat' (first | exact Below.refl _ _ | refine Below.alloc ?_ ?_ _ | refine Below.setCell ?_ ?_ _ | refine Below.drew ?_ | (apply below_step; assumption) | (simp; done) | (simp; omega) | omega))⟩

theorem ResAdd_out (a b : RV) (w : World) (x : Addr) (hg : ErrAt x w) (h : a.ok = false ∨ b.ok = false) :
    Calls Tryz.prog 175 #[.agg #[.int .i64 a.c, .int .i64 a.m, .int .i64 a.p], .agg #[.int .i64 b.c, .int .i64 b.m, .int .i64 b.p]] w (RetR RV.zero false w) := by
  have hcb : ∀ w, ErrAt x w → Calls Tryz.prog 167 #[.agg #[.int .i64 a.c, .int .i64 a.m, .int .i64 a.p], .agg #[.int .i64 b.c, .int .i64 b.m, .int .i64 b.p]] w (BadAt x w) := by
    intro w hg
    cases ha : a.ok
    · exact checkBoth_no1 a b w x hg ha
    · exact checkBoth_no2 a b w x hg ha (by rcases h with h | h; (rw [ha] at h; cases h); exact h)
  have HC := Lib.hid hcb
  clear hcb h
  go_enter Tryz.func175, Tryz.ntmps175
  go_wp2_with fail
  refine (HC.out _ (((hg.alloc _).alloc _).alloc _)).mono ?_
  rintro e w1 ⟨s, rfl, hb1⟩
  have hz1 := hb1.size
  simp at hz1
  obtain ⟨hc1, hf1⟩ := bcell hb1
  have hg1 := (((hg.alloc _).alloc _).alloc _).below hb1 (Nat.le_refl _)
  go_wp2_with fail
  refine (outOfRange_bad s _ x hg1).mono ?_
  rintro e w2 ⟨rfl, hb2⟩
  have hz2 := hb2.size
  obtain ⟨hc2, hf2⟩ := bcell hb2
  have hs1 : w.heap.size + 1 + 1 < w1.heap.size := by omega
  go_wp2_with fail
  refine bodyPost_ret (v := .tuple #[.agg #[.int .i64 RV.zero.c, .int .i64 RV.zero.m, .int .i64 RV.zero.p], .bool false]) (by simp [results, Tryz.results175, go_sem, hc1, hc2, hs1, RV.zero]) rfl ⟨rfl, (by repeat' (first | exact Below.refl _ _ | refine Below.alloc ?_ ?_ _ | refine Below.setCell ?_ ?_ _ | refine Below.drew ?_ | (apply below_step; assumption) | (simp; done) | (simp; omega) | omega))⟩

theorem ResAdd_any (a b : RV) (w : World) (x : Addr) (hg : ErrAt x w) : Calls Tryz.prog 175 #[.agg #[.int .i64 a.c, .int .i64 a.m, .int .i64 a.p], .agg #[.int .i64 b.c, .int .i64 b.m, .int .i64 b.p]] w (RetR (resAdd a b) (resAddOk a b) w) := by
  by_cases h : a.ok = true ∧ b.ok = true
  · rw [(resAdd_in h.1 h.2).1, (resAdd_in h.1 h.2).2]; exact ResAdd_in a b w x hg h.1 h.2
  · have h' : a.ok = false ∨ b.ok = false := by
      cases ha : a.ok
      · exact Or.inl rfl
      · cases hb : b.ok
        · exact Or.inr rfl
        · exact absurd ⟨ha, hb⟩ h
    rw [(resAdd_out h').1, (resAdd_out h').2]; exact ResAdd_out a b w x hg h'
theorem ResSub_in (a b : RV) (w : World) (x : Addr) (hg : ErrAt x w) (ha : a.ok = true) (hb : b.ok = true) :
    Calls Tryz.prog 153 #[.agg #[.int .i64 a.c, .int .i64 a.m, .int .i64 a.p], .agg #[.int .i64 b.c, .int .i64 b.m, .int .i64 b.p]] w (RetR (a.sub b).kept (a.sub b).ok w) := by
  have hA := RV.ok_iff.1 ha
  have hB := RV.ok_iff.1 hb
  have HA := Lib.hid ha
  have HB := Lib.hid hb
  clear ha hb
  obtain ⟨a1, a2, a3, a4, a5, a6⟩ := hA
  obtain ⟨b1, b2, b3, b4, b5, b6⟩ := hB
  go_enter Tryz.func153, Tryz.ntmps153
  go_wp2_with fail
  refine (checkBoth_yes a b _ HA.out HB.out).mono ?_
  rintro e w1 ⟨rfl, hb1⟩
  have hz1 := hb1.size
  simp at hz1
  obtain ⟨hc1, hf1⟩ := bcell hb1
  have hg1 := (((hg.alloc _).alloc _).alloc _).below hb1 (Nat.le_refl _)
  go_wp2_with fail
  refine (outOfRange_nil _ x hg1).mono ?_
  rintro e w2 ⟨rfl, rfl⟩
  go_wp2_with fail
  refine (keepValid_any ⟨a.c - b.c, a.m - b.m, a.p - b.p⟩ _ x hg1).mono ?_
  rintro e w2 ⟨rfl, hb2⟩
  have hz2 := hb2.size
  obtain ⟨hc2, hf2⟩ := bcell hb2
  have hs1 : w.heap.size + 1 + 1 < w1.heap.size := by omega
  go_wp2_with fail
  refine bodyPost_ret (v := .tuple #[.agg #[.int .i64 (a.sub b).kept.c, .int .i64 (a.sub b).kept.m, .int .i64 (a.sub b).kept.p], .bool (a.sub b).ok]) (by simp [results, Tryz.results153, go_sem, hc1, hc2, hs1]; exact ⟨⟨rfl, rfl, rfl⟩, rfl⟩) rfl ⟨rfl, (by repeat' (first | exact Below.refl _ _ | refine Below.alloc ?_ ?_ _ | refine Below.setCell ?_ ?_ _ | refine Below.drew ?_ | (apply below_step; assumption) | (simp; done) | (simp; omega) | omega))⟩

theorem ResSub_out (a b : RV) (w : World) (x : Addr) (hg : ErrAt x w) (h : a.ok = false ∨ b.ok = false) :
    Calls Tryz.prog 153 #[.agg #[.int .i64 a.c, .int .i64 a.m, .int .i64 a.p], .agg #[.int .i64 b.c, .int .i64 b.m, .int .i64 b.p]] w (RetR RV.zero false w) := by
  have hcb : ∀ w, ErrAt x w → Calls Tryz.prog 167 #[.agg #[.int .i64 a.c, .int .i64 a.m, .int .i64 a.p], .agg #[.int .i64 b.c, .int .i64 b.m, .int .i64 b.p]] w (BadAt x w) := by
    intro w hg
    cases ha : a.ok
    · exact checkBoth_no1 a b w x hg ha
    · exact checkBoth_no2 a b w x hg ha (by rcases h with h | h; (rw [ha] at h; cases h); exact h)
  have HC := Lib.hid hcb
  clear hcb h
  go_enter Tryz.func153, Tryz.ntmps153
  go_wp2_with fail
  refine (HC.out _ (((hg.alloc _).alloc _).alloc _)).mono ?_
  rintro e w1 ⟨s, rfl, hb1⟩
  have hz1 := hb1.size
  simp at hz1
  obtain ⟨hc1, hf1⟩ := bcell hb1
  have hg1 := (((hg.alloc _).alloc _).alloc _).below hb1 (Nat.le_refl _)
  go_wp2_with fail
  refine (outOfRange_bad s _ x hg1).mono ?_
  rintro e w2 ⟨rfl, hb2⟩
  have hz2 := hb2.size
  obtain ⟨hc2, hf2⟩ := bcell hb2
  have hs1 : w.heap.size + 1 + 1 < w1.heap.size := by omega
  go_wp2_with fail
  refine bodyPost_ret (v := .tuple #[.agg #[.int .i64 RV.zero.c, .int .i64 RV.zero.m, .int .i64 RV.zero.p], .bool false]) (by simp [results, Tryz.results153, go_sem, hc1, hc2, hs1, RV.zero]) rfl ⟨rfl, (by repeat' (first | exact Below.refl _ _ | refine Below.alloc ?_ ?_ _ | refine Below.setCell ?_ ?_ _ | refine Below.drew ?_ | (apply below_step; assumption) | (simp; done) | (simp; omega) | omega))⟩

theorem ResSub_any (a b : RV) (w : World) (x : Addr) (hg : ErrAt x w) : Calls Tryz.prog 153 #[.agg #[.int .i64 a.c, .int .i64 a.m, .int .i64 a.p], .agg #[.int .i64 b.c, .int .i64 b.m, .int .i64 b.p]] w (RetR (resSub a b) (resSubOk a b) w) := by
  by_cases h : a.ok = true ∧ b.ok = true
  · rw [(resSub_in h.1 h.2).1, (resSub_in h.1 h.2).2]; exact ResSub_in a b w x hg h.1 h.2
  · have h' : a.ok = false ∨ b.ok = false := by
      cases ha : a.ok
      · exact Or.inl rfl
      · cases hb : b.ok
        · exact Or.inr rfl
        · exact absurd ⟨ha, hb⟩ h
    rw [(resSub_out h').1, (resSub_out h').2]; exact ResSub_out a b w x hg h'
end Go.Proofs.YtmkpajjnjgnmkabGreatDoor

namespace Go.Proofs.YtmkpajjnjgnmkabGreatDoor
open Go.RowKit

def Owns (w : World) (base : Nat) (v : Value) (l : List LV) : Prop := w.ownsRow base 110 2 v l.length (labL l)
theorem labL_append (a b : List LV) : labL (a ++ b) = labL a ++ labL b := by simp [labL]
section
variable {w w' : World} {base : Nat} {v : Value} {l : List LV}
theorem Owns.alloc (h : Owns w base v l) (o : Obj) : Owns (w.alloc o) base v l := World.ownsRow.alloc h o
theorem Owns.drewN (h : Owns w base v l) (n : Nat) : Owns (w.drewN n) base v l := h
theorem Owns.nil (w : World) (base : Nat) : Owns w base (.slice none 0 0) [] := World.ownsRow_nil w base _ _
theorem Owns.below {B : Nat} (h : Owns w base v l) (hb : Below B w w') (hB : w.heap.size ≤ B) : Owns w' base v l := by
  obtain ⟨h1, h2⟩ := h
  refine ⟨h1, ?_⟩
  rcases h2 with h | ⟨g, cap, cur, hv, hg, hh, h⟩
  · exact .inl h
  · have hlt : g < w.heap.size := (Array.getElem?_eq_some_iff.1 hh).1
    exact .inr ⟨g, cap, cur, hv, hg, (hb.block g (by omega)).trans hh, h⟩
theorem Owns.form (h : Owns w base v l) : (v = .slice none 0 0 ∧ l = []) ∨ ∃ g cap cur, v = .slice (some ⟨g, 0, none⟩) l.length cap ∧ base ≤ g ∧ BlockIs w g 110 cur ∧ cur.size = cap * 2 ∧ l.length ≤ cap ∧ ∀ (j : Nat) (u : Value), (labL l)[j]? = some u → cur[j]? = some u := by
  obtain ⟨h1, h2⟩ := h
  rcases h2 with ⟨hv, hn⟩ | ⟨g, cap, cur, hv, hg, hh, hnc, _, hs, ht⟩
  · exact .inl ⟨hv, List.eq_nil_of_length_eq_zero hn⟩
  · refine .inr ⟨g, cap, cur, hv, hg, hh, hs, hnc, fun j u hu => ?_⟩
    rw [← ht] at hu
    have hj : j < l.length * 2 := by
      have := (List.getElem?_eq_some_iff.1 hu).1
      rw [List.length_take] at this; omega
    rw [List.getElem?_take_of_lt hj] at hu
    simpa using hu
theorem Owns.sl (h : Owns w base v l) : LabSl w v l := by
  rcases h.form with ⟨rfl, rfl⟩ | ⟨g, cap, cur, rfl, _, hb, _, _, hc⟩
  · exact .inl ⟨rfl, _, _, rfl⟩
  · exact .inr ⟨g, 0, cap, rfl, hb.lt, LabAt.of_block hb hc⟩
theorem Owns.len (h : Owns w base v l) : ∃ A c, v = .slice A l.length c := by
  rcases h.form with ⟨rfl, rfl⟩ | ⟨g, cap, cur, rfl, _⟩
  · exact ⟨_, _, rfl⟩
  · exact ⟨_, _, rfl⟩
end

theorem wpList_append_lab {ops : Array Oper} {rest : List Oper} {o : Oper} {a : Act} {Q : Exit → Act → World → Prop} (w : World) (hgd : o.guard = none) (s x : Operand)
    (ho : o.op = .call { callee := .builtin .append, args := #[s, x], argTypes := #[59, 59] })
    (base : Nat) (v : Value) (l : List LV) (r : LV) (g : Nat) (hs : a.eval s = v) (hown : Owns w base v l) (hx : a.eval x = .slice (some ⟨g, 0, none⟩) 1 1)
    (h0 : w.cell? ⟨g, 0, none⟩ = some (.int .i64 r.k)) (h1 : w.cell? ⟨g, 1, none⟩ = some (.int .i64 r.v)) (hl : l.length ≤ 100000) (hbase : base ≤ w.heap.size)
    (h : ∀ v' w', Owns w' base v' (l ++ [r]) → Below base w w' → wpList Tryz.prog ops Q rest (a.put o.dst v') w') : wpList Tryz.prog ops Q (o :: rest) a w := by
  obtain ⟨i0, hi0, hz0, hz1, hz2⟩ := info_parts Tryz.infoLab
  refine wpList_append_own w hgd s x 59 ho base 110 i0 _ 2 16 Tryz.underlying59 hi0 hz0 hz1 hz2 rfl (by omega) v l.length (labL l) hs hown ⟨g, 0, none⟩ 1 1 [.int .i64 r.k, .int .i64 r.v] hx rfl ?_ ?_ (by simp only [maxLen]; omega) (by omega) hbase ?_
  · intro j u hj
    match j, hj with
    | 0, hj => simp at hj; subst hj; simpa [Addr.add] using h0
    | 1, hj => simp at hj; subst hj; simpa [Addr.add] using h1
  · intro u hu
    simp at hu
    rcases hu with rfl | rfl <;> rfl
  · intro v' w' hown' hgrow _
    refine h v' w' ?_ ((Below.refl _ _).grown hgrow hbase (fun k hk => (World.ownsRow.lt hown k hk).1))
    unfold Owns
    rw [labL_append, List.length_append]
    exact hown'

end Go.Proofs.YtmkpajjnjgnmkabGreatDoor

namespace Go.Proofs.YtmkpajjnjgnmkabGreatDoor
open Go.RowKit

theorem LabsOk_any (v : Value) (l : List LV) (w : World) (hv : LabSl w v l) (hlen : l.length ≤ 1048576) :
    Calls Tryz.prog 145 #[v] w fun e w' => e = .returned (.bool (labsOk l)) ∧ Below w.heap.size w w' := by
  have H := Lib.hid (readLabs_any v l w hv hlen)
  clear hv
  go_enter Tryz.func145, Tryz.ntmps145
  go_wp2_with fail
  refine H.out.mono ?_
  rintro e w1 ⟨rfl, hb1⟩
  have hz1 := hb1.size
  go_wp2_with fail
  go_ret
  exact ⟨rfl, (by repeat' (first | exact Below.refl _ _ | refine Below.alloc ?_ ?_ _ | refine Below.setCell ?_ ?_ _ | refine Below.drew ?_ | (apply below_step; assumption) | (simp; done) | (simp; omega) | omega))⟩

theorem getOf_no {l : List LV} {k : Int} (h : labsOk l = false) : getOf l k = (0, false) := by simp [getOf, h]
theorem getOf_yes {l : List LV} {k : Int} (h : labsOk l = true) : getOf l k = findK l k := by simp [getOf, h]
theorem labsOk_from {l : List LV} (h : labsOk l = true) : labsFrom (-1) l = true := by
  simp only [labsOk, Bool.and_eq_true] at h; exact h.2
def RetI (z : Int × Bool) (w : World) (e : Ending) (w' : World) : Prop := e = .returned (.tuple #[.int .i64 z.1, .bool z.2]) ∧ Below w.heap.size w w'

theorem hasAll_iff {m p : Nat → Int} : hasAllM m p = true ↔ ∀ i, i < 10 → 0 < p i → p i = m i := by
  unfold hasAllM eqMarks
  simp only [List.all_eq_true, List.mem_range, beq_iff_eq]
  constructor
  · intro h i hi hp
    have := h i hi
    simpa [laidM, hi, hp] using this
  · intro h i hi
    unfold laidM
    by_cases hp : 0 < p i
    · rw [if_pos ⟨hi, hp⟩]; exact h i hi hp
    · rw [if_neg (fun x => hp x.2)]
theorem hasAllOf_iff {a b : List LV} : hasAllOf a b = true ↔ ∀ x ∈ b, findK a x.k = (x.v, true) := by
  induction b with
  | nil => simp [hasAllOf]
  | cons x r ih =>
    simp only [hasAllOf, Bool.and_eq_true, decide_eq_true_eq, ih, List.mem_cons, forall_eq_or_imp]
    constructor
    · rintro ⟨⟨h1, h2⟩, h3⟩
      exact ⟨by rw [← h1, ← h2], h3⟩
    · rintro ⟨h1, h3⟩
      rw [h1]
      exact ⟨⟨rfl, rfl⟩, h3⟩
theorem findK_mem {p : Int} {l : List LV} (h : labsFrom p l = true) {x : LV} (hx : x ∈ l) : findK l x.k = (x.v, true) := by
  induction l generalizing p with
  | nil => cases hx
  | cons y r ih =>
    simp only [labsFrom, Bool.and_eq_true, decide_eq_true_eq] at h
    rcases List.mem_cons.1 hx with rfl | hx
    · simp [findK]
    · have h1 := ih h.2 hx
      have hne : ¬ y.k = x.k := by
        intro e
        rw [findK_above h.2 (k := x.k) (by omega)] at h1
        simp at h1
      simp only [findK, if_neg hne]; exact h1
theorem mem_findK {l : List LV} {k v : Int} (h : findK l k = (v, true)) : ⟨k, v⟩ ∈ l := by
  induction l with
  | nil => simp [findK] at h
  | cons y r ih =>
    unfold findK at h
    split at h
    · rename_i e
      injection h with h1 h2
      subst e; subst h1
      exact List.mem_cons.2 (.inl rfl)
    · exact List.mem_cons.2 (.inr (ih h))
theorem mem_ok {p : Int} {l : List LV} (h : labsFrom p l = true) {x : LV} (hx : x ∈ l) : x.ok = true := by
  induction l generalizing p with
  | nil => cases hx
  | cons y r ih =>
    simp only [labsFrom, Bool.and_eq_true, decide_eq_true_eq] at h
    rcases List.mem_cons.1 hx with rfl | hx
    · exact h.1.1
    · exact ih h.2 hx
theorem hasAll_of {a b : List LV} (ha : labsOk a = true) (hb : labsOk b = true) : hasAllM (readOf a) (readOf b) = hasAllOf a b := by
  rw [Bool.eq_iff_iff, hasAll_iff, hasAllOf_iff, readOf_yes ha, readOf_yes hb]
  have fa := labsOk_from ha
  have fb := labsOk_from hb
  constructor
  · intro h x hx
    obtain ⟨k0, k9, v0, v9⟩ := LV.ok_iff.1 (mem_ok fb hx)
    obtain ⟨k, hk⟩ := Int.eq_ofNat_of_zero_le k0
    have hf := findK_mem fb hx
    have hm := mark_at fb k
    have hma := mark_at fa k
    have hz := findK_val fa (k := (k : Int))
    rw [hk] at hf
    rw [hf] at hm
    simp at hm
    have := h k (by omega) (by omega)
    rw [hk]
    cases e : (findK a k).2
    · rw [e] at hma; simp at hma; omega
    · rw [e] at hma; simp at hma
      have e1 : (findK a k).1 = x.v := by omega
      rw [← e, ← e1]
  · intro h i hi hp
    have hm := mark_at fb i
    have hma := mark_at fa i
    cases e : (findK b i).2
    · rw [e] at hm; simp at hm; omega
    · rw [e] at hm; simp at hm
      have e' : findK b i = ((findK b i).1, true) := by rw [← e]
      have hx := h _ (mem_findK e')
      simp only at hx
      rw [hx] at hma
      simp at hma
      omega
theorem matchOf_no1 {a b : List LV} (h : labsOk a = false) : matchOf a b = false := by simp [matchOf, h]
theorem matchOf_no2 {a b : List LV} (h : labsOk b = false) : matchOf a b = false := by simp [matchOf, h]
theorem matchOf_yes {a b : List LV} (ha : labsOk a = true) (hb : labsOk b = true) : matchOf a b = hasAllM (readOf a) (readOf b) := by
  rw [hasAll_of ha hb]; simp [matchOf, ha, hb]

set_option maxHeartbeats 1600000 in
theorem LabsMatch_any (v1 v2 : Value) (a b : List LV) (w : World) (h1 : LabSl w v1 a) (h2 : LabSl w v2 b) (hl1 : a.length ≤ 1048576) (hl2 : b.length ≤ 1048576) :
    Calls Tryz.prog 163 #[v1, v2] w fun e w' => e = .returned (.bool (matchOf a b)) ∧ Below w.heap.size w w' := by
  have r1 := readLabs_any v1 a w h1 hl1
  have r2 := fun w1 (hb : Below w.heap.size w w1) => readLabs_any v2 b (w1.alloc (.cells #[.int .i64 (readOf a 0), .int .i64 (readOf a 1), .int .i64 (readOf a 2), .int .i64 (readOf a 3), .int .i64 (readOf a 4), .int .i64 (readOf a 5), .int .i64 (readOf a 6), .int .i64 (readOf a 7), .int .i64 (readOf a 8), .int .i64 (readOf a 9)] 171)) ((h2.below hb).below ((Below.refl _ _).alloc (Nat.le_refl _) _)) hl2
  clear h1 h2
  cases ha : labsOk a
  · rw [ha] at r1
    have R1 := Lib.hid r1
    have HM := Lib.hid (matchOf_no1 (b := b) ha)
    clear r1 r2 ha
    go_enter Tryz.func163, Tryz.ntmps163
    go_wp2_with fail
    refine R1.out.mono ?_
    rintro e w1 ⟨rfl, hb1⟩
    have hz1 := hb1.size
    go_wp2_with fail
    go_ret
    rw [HM.out]
    exact ⟨rfl, (by repeat' (first | exact Below.refl _ _ | refine Below.alloc ?_ ?_ _ | refine Below.setCell ?_ ?_ _ | refine Below.drew ?_ | (apply below_step; assumption) | (simp; done) | (simp; omega) | omega))⟩
  · rw [ha] at r1
    cases hb : labsOk b
    · rw [hb] at r2
      have R1 := Lib.hid r1
      have R2 := Lib.hid r2
      have HM := Lib.hid (matchOf_no2 (a := a) hb)
      clear r1 r2 ha hb
      generalize readOf a = m1 at R1 R2
      go_enter Tryz.func163, Tryz.ntmps163
      go_wp2_with fail
      refine R1.out.mono ?_
      rintro e w1 ⟨rfl, hb1⟩
      have hz1 := hb1.size
      go_wp2_with fail
      refine (R2.out w1 hb1).mono ?_
      rintro e w2 ⟨rfl, hb2⟩
      have hz2 := hb2.size
      simp at hz2
      go_wp2_with fail
      go_ret
      rw [HM.out]
      exact ⟨rfl, (by repeat' (first | exact Below.refl _ _ | refine Below.alloc ?_ ?_ _ | refine Below.setCell ?_ ?_ _ | refine Below.drew ?_ | (apply below_step; assumption) | (simp; done) | (simp; omega) | omega))⟩
    · rw [hb] at r2
      have R1 := Lib.hid r1
      have R2 := Lib.hid r2
      have HM := Lib.hid (matchOf_yes ha hb)
      clear r1 r2 ha hb
      generalize readOf a = m1 at R1 R2 HM
      generalize readOf b = m2 at R2 HM
      go_enter Tryz.func163, Tryz.ntmps163
      go_wp2_with fail
      refine R1.out.mono ?_
      rintro e w1 ⟨rfl, hb1⟩
      have hz1 := hb1.size
      go_wp2_with fail
      refine (R2.out w1 hb1).mono ?_
      rintro e w2 ⟨rfl, hb2⟩
      have hz2 := hb2.size
      simp at hz2
      have hM1 := ((BlockIs.new w1 171 #[.int .i64 (m1 0), .int .i64 (m1 1), .int .i64 (m1 2), .int .i64 (m1 3), .int .i64 (m1 4), .int .i64 (m1 5), .int .i64 (m1 6), .int .i64 (m1 7), .int .i64 (m1 8), .int .i64 (m1 9)]).below hb2 (by simp)).alloc (.cells #[.int .i64 (m2 0), .int .i64 (m2 1), .int .i64 (m2 2), .int .i64 (m2 3), .int .i64 (m2 4), .int .i64 (m2 5), .int .i64 (m2 6), .int .i64 (m2 7), .int .i64 (m2 8), .int .i64 (m2 9)] 171)
      have z0 := (hM1).cell 0; have z1 := (hM1).cell 1; have z2 := (hM1).cell 2; have z3 := (hM1).cell 3; have z4 := (hM1).cell 4; have z5 := (hM1).cell 5; have z6 := (hM1).cell 6; have z7 := (hM1).cell 7; have z8 := (hM1).cell 8; have z9 := (hM1).cell 9; simp at z0 z1 z2 z3 z4 z5 z6 z7 z8 z9
      clear hM1
      go_wp2_with fail
      refine (hasAll_any m1 m2 _).mono ?_
      rintro e w3 ⟨rfl, hb3⟩
      have hz3 := hb3.size
      simp at hz3
      go_wp2_with fail
      go_ret
      rw [HM.out]
      exact ⟨rfl, (by repeat' (first | exact Below.refl _ _ | refine Below.alloc ?_ ?_ _ | refine Below.setCell ?_ ?_ _ | refine Below.drew ?_ | (apply below_step; assumption) | (simp; done) | (simp; omega) | omega))⟩
end Go.Proofs.YtmkpajjnjgnmkabGreatDoor

namespace Go.Proofs.YtmkpajjnjgnmkabGreatDoor
open Go.RowKit

theorem readTaints_long (A : Option Addr) (n c : Nat) (w : World) (h : 6 < n) (hm : n ≤ 1048576) :
    Calls Tryz.prog 160 #[.slice A n c] w (RetM mzero false w) := by
  have h6 : (6 : Int) < (n : Int) := by omega
  go_enter Tryz.func160, Tryz.ntmps160
  go_wp2_with fail
  exact bodyPost_ret (v := .tuple #[.agg #[.int .i64 (mzero 0), .int .i64 (mzero 1), .int .i64 (mzero 2), .int .i64 (mzero 3), .int .i64 (mzero 4), .int .i64 (mzero 5), .int .i64 (mzero 6), .int .i64 (mzero 7), .int .i64 (mzero 8), .int .i64 (mzero 9)], .bool false]) (by simp [results, Tryz.results160, go_sem, mzero]) rfl ⟨rfl, (by repeat' (first | exact Below.refl _ _ | refine Below.alloc ?_ ?_ _ | refine Below.setCell ?_ ?_ _ | refine Below.drew ?_ | (apply below_step; assumption) | (simp; done) | (simp; omega) | omega))⟩

set_option maxHeartbeats 1600000 in
theorem readTaints_short (v : Value) (t : List Int) (w : World) (hv : IntSl w v t) (hlen : t.length ≤ 6) :
    Calls Tryz.prog 160 #[v] w (RetM (readOf (tl t)) (labsOk (tl t)) w) := by
  obtain ⟨A, c, rfl, hA⟩ := hv.form
  have HA := Lib.hid hA
  clear hA hv
  have h6 : (t.length : Int) ≤ 6 := by omega
  go_enter Tryz.func160, Tryz.ntmps160
  go_wp2_with fail
  go_loopw [4, 13] (fun s4 s13 wr => ∃ k : Nat, k ≤ t.length ∧ s13 = .int .i64 k ∧ Owns wr (w.heap.size + 1) s4 (tl (t.take k)) ∧ Below w.heap.size w wr ∧ w.heap.size + 1 ≤ wr.heap.size ∧ BlockIs wr w.heap.size 171 #[.int .i64 (mzero 0), .int .i64 (mzero 1), .int .i64 (mzero 2), .int .i64 (mzero 3), .int .i64 (mzero 4), .int .i64 (mzero 5), .int .i64 (mzero 6), .int .i64 (mzero 7), .int .i64 (mzero 8), .int .i64 (mzero 9)]) (fun _ s13 _ => (t.length - intOf s13).toNat)
  case atStart =>
    exact ⟨0, by omega, rfl, Owns.nil _ _, (by repeat' (first | exact Below.refl _ _ | refine Below.alloc ?_ ?_ _ | refine Below.setCell ?_ ?_ _ | refine Below.drew ?_ | (apply below_step; assumption) | (simp; done) | (simp; omega) | omega)), by simp, BlockIs.new _ _ _⟩
  case round =>
    obtain ⟨k, hk, rfl, hown, hB, hzr, hblk⟩ := hrel
    have HOW := Lib.hid hown
    have HBK := Lib.hid hblk
    clear hown
    by_cases hlt : k < t.length
    · obtain ⟨b, off, rfl, hbw, hat⟩ := HA.out (by omega)
      obtain ⟨z, hz⟩ : ∃ r, t[k]? = some r := ⟨_, List.getElem?_eq_getElem hlt⟩
      have q0 := (hat.below hB hbw) k z hz
      have HT := Lib.hid (tl_take hz)
      have hlti : (k : Int) < (t.length : Int) := by omega
      have HL := Lib.hid (show (tl (t.take k)).length ≤ 6 by rw [tl_len, List.length_take]; omega)
      clear hat hz hblk
      go_wp2_with (at_builtin; refine wpList_append_lab _ rfl (.tmp 17) (.tmp 20) rfl (w.heap.size + 1) _ (tl (t.take k)) ⟨z, 0⟩ wr.heap.size rfl (HOW.out.alloc _) rfl (by simp) (by simp) (by have := HL.out; omega) (by simp; omega) ?_; intro v' w1 hown1 hb1)
      have hz1 := hb1.size
      simp at hz1
      go_roundw
      case rel =>
        refine ⟨k + 1, by omega, by go_num, ?_, ?_, by omega, ?_⟩
        · rw [HT.out]; exact hown1
        · exact (hB.alloc (by omega) _).trans (hb1.mono (by omega))
        · exact (HBK.out.alloc _).below hb1 (by omega)
      case measure => simp [intOf]; omega
    · have hkl : k = t.length := by omega
      have ho : Owns wr (w.heap.size + 1) u4 (tl t) := by
        have := HOW.out
        rwa [hkl, List.take_length] at this
      have hr := readLabs_any _ (tl t) wr ho.sl (by rw [tl_len]; omega)
      have HR := Lib.hid hr
      clear hkl hblk ho hr
      go_wp2_with fail
      refine HR.out.mono ?_
      rintro e w1 ⟨rfl, hb1⟩
      have hz1 := hb1.size
      have hB1 : Below w.heap.size w w1 := hB.trans (hb1.mono (by omega))
      have hZ := HBK.out.below hb1 (by omega)
      have HZ := Lib.hid hZ
      have z0 := (hZ).cell 0; have z1 := (hZ).cell 1; have z2 := (hZ).cell 2; have z3 := (hZ).cell 3; have z4 := (hZ).cell 4; have z5 := (hZ).cell 5; have z6 := (hZ).cell 6; have z7 := (hZ).cell 7; have z8 := (hZ).cell 8; have z9 := (hZ).cell 9; simp at z0 z1 z2 z3 z4 z5 z6 z7 z8 z9
      have zf := hZ.frozen
      clear hZ
      go_wp2_with fail
      have hX : BlockIs ((((((((((w1.setCell ⟨w.heap.size, 0, none⟩ (.int .i64 (readOf (tl t) 0))).setCell ⟨w.heap.size, 1, none⟩ (.int .i64 (readOf (tl t) 1))).setCell ⟨w.heap.size, 2, none⟩ (.int .i64 (readOf (tl t) 2))).setCell ⟨w.heap.size, 3, none⟩ (.int .i64 (readOf (tl t) 3))).setCell ⟨w.heap.size, 4, none⟩ (.int .i64 (readOf (tl t) 4))).setCell ⟨w.heap.size, 5, none⟩ (.int .i64 (readOf (tl t) 5))).setCell ⟨w.heap.size, 6, none⟩ (.int .i64 (readOf (tl t) 6))).setCell ⟨w.heap.size, 7, none⟩ (.int .i64 (readOf (tl t) 7))).setCell ⟨w.heap.size, 8, none⟩ (.int .i64 (readOf (tl t) 8))).setCell ⟨w.heap.size, 9, none⟩ (.int .i64 (readOf (tl t) 9))) w.heap.size 171 #[.int .i64 (readOf (tl t) 0), .int .i64 (readOf (tl t) 1), .int .i64 (readOf (tl t) 2), .int .i64 (readOf (tl t) 3), .int .i64 (readOf (tl t) 4), .int .i64 (readOf (tl t) 5), .int .i64 (readOf (tl t) 6), .int .i64 (readOf (tl t) 7), .int .i64 (readOf (tl t) 8), .int .i64 (readOf (tl t) 9)] := put10 (readOf (tl t)) HZ.out
      have hBX : Below w.heap.size w ((((((((((w1.setCell ⟨w.heap.size, 0, none⟩ (.int .i64 (readOf (tl t) 0))).setCell ⟨w.heap.size, 1, none⟩ (.int .i64 (readOf (tl t) 1))).setCell ⟨w.heap.size, 2, none⟩ (.int .i64 (readOf (tl t) 2))).setCell ⟨w.heap.size, 3, none⟩ (.int .i64 (readOf (tl t) 3))).setCell ⟨w.heap.size, 4, none⟩ (.int .i64 (readOf (tl t) 4))).setCell ⟨w.heap.size, 5, none⟩ (.int .i64 (readOf (tl t) 5))).setCell ⟨w.heap.size, 6, none⟩ (.int .i64 (readOf (tl t) 6))).setCell ⟨w.heap.size, 7, none⟩ (.int .i64 (readOf (tl t) 7))).setCell ⟨w.heap.size, 8, none⟩ (.int .i64 (readOf (tl t) 8))).setCell ⟨w.heap.size, 9, none⟩ (.int .i64 (readOf (tl t) 9))) := below10 (readOf (tl t)) hB1 (Nat.le_refl _)
      generalize ((((((((((w1.setCell ⟨w.heap.size, 0, none⟩ (.int .i64 (readOf (tl t) 0))).setCell ⟨w.heap.size, 1, none⟩ (.int .i64 (readOf (tl t) 1))).setCell ⟨w.heap.size, 2, none⟩ (.int .i64 (readOf (tl t) 2))).setCell ⟨w.heap.size, 3, none⟩ (.int .i64 (readOf (tl t) 3))).setCell ⟨w.heap.size, 4, none⟩ (.int .i64 (readOf (tl t) 4))).setCell ⟨w.heap.size, 5, none⟩ (.int .i64 (readOf (tl t) 5))).setCell ⟨w.heap.size, 6, none⟩ (.int .i64 (readOf (tl t) 6))).setCell ⟨w.heap.size, 7, none⟩ (.int .i64 (readOf (tl t) 7))).setCell ⟨w.heap.size, 8, none⟩ (.int .i64 (readOf (tl t) 8))).setCell ⟨w.heap.size, 9, none⟩ (.int .i64 (readOf (tl t) 9))) = X at hX hBX ⊢
      clear z0 z1 z2 z3 z4 z5 z6 z7 z8 z9
      have z0 := (hX).cell 0; have z1 := (hX).cell 1; have z2 := (hX).cell 2; have z3 := (hX).cell 3; have z4 := (hX).cell 4; have z5 := (hX).cell 5; have z6 := (hX).cell 6; have z7 := (hX).cell 7; have z8 := (hX).cell 8; have z9 := (hX).cell 9; simp at z0 z1 z2 z3 z4 z5 z6 z7 z8 z9
      exact bodyPost_ret (v := .tuple #[.agg #[.int .i64 (readOf (tl t) 0), .int .i64 (readOf (tl t) 1), .int .i64 (readOf (tl t) 2), .int .i64 (readOf (tl t) 3), .int .i64 (readOf (tl t) 4), .int .i64 (readOf (tl t) 5), .int .i64 (readOf (tl t) 6), .int .i64 (readOf (tl t) 7), .int .i64 (readOf (tl t) 8), .int .i64 (readOf (tl t) 9)], .bool (labsOk (tl t))]) (by simp [results, Tryz.results160, go_sem, z0, z1, z2, z3, z4, z5, z6, z7, z8, z9]) rfl ⟨rfl, hBX⟩

theorem readTaints_any (v : Value) (t : List Int) (w : World) (hv : IntSl w v t) (hlen : t.length ≤ 1048576) :
    Calls Tryz.prog 160 #[v] w (RetM (readOf (tl t)) (labsOk (tl t)) w) := by
  by_cases h : t.length ≤ 6
  · exact readTaints_short v t w hv h
  · obtain ⟨A, c, rfl, _⟩ := hv.form
    rw [readOf_no (labsOk_long (by rw [tl_len]; omega)), labsOk_long (by rw [tl_len]; omega)]
    exact readTaints_long A t.length c w (by omega) hlen

theorem TaintsOk_any (v : Value) (t : List Int) (w : World) (hv : IntSl w v t) (hlen : t.length ≤ 1048576) :
    Calls Tryz.prog 146 #[v] w fun e w' => e = .returned (.bool (labsOk (tl t))) ∧ Below w.heap.size w w' := by
  have H := Lib.hid (readTaints_any v t w hv hlen)
  clear hv
  go_enter Tryz.func146, Tryz.ntmps146
  go_wp2_with fail
  refine H.out.mono ?_
  rintro e w1 ⟨rfl, hb1⟩
  have hz1 := hb1.size
  go_wp2_with fail
  go_ret
  exact ⟨rfl, (by repeat' (first | exact Below.refl _ _ | refine Below.alloc ?_ ?_ _ | refine Below.setCell ?_ ?_ _ | refine Below.drew ?_ | (apply below_step; assumption) | (simp; done) | (simp; omega) | omega))⟩

set_option maxHeartbeats 1600000 in
theorem Tolerates_any (v1 v2 : Value) (a b : List Int) (w : World) (h1 : IntSl w v1 a) (h2 : IntSl w v2 b) (hl1 : a.length ≤ 1048576) (hl2 : b.length ≤ 1048576) :
    Calls Tryz.prog 164 #[v1, v2] w fun e w' => e = .returned (.bool (tolOf a b)) ∧ Below w.heap.size w w' := by
  have r1 := readTaints_any v1 a w h1 hl1
  have r2 := fun w1 (hb : Below w.heap.size w w1) => readTaints_any v2 b (w1.alloc (.cells #[.int .i64 (readOf (tl a) 0), .int .i64 (readOf (tl a) 1), .int .i64 (readOf (tl a) 2), .int .i64 (readOf (tl a) 3), .int .i64 (readOf (tl a) 4), .int .i64 (readOf (tl a) 5), .int .i64 (readOf (tl a) 6), .int .i64 (readOf (tl a) 7), .int .i64 (readOf (tl a) 8), .int .i64 (readOf (tl a) 9)] 171)) ((h2.below hb).below ((Below.refl _ _).alloc (Nat.le_refl _) _)) hl2
  clear h1 h2
  unfold tolOf
  cases ha : labsOk (tl a)
  · rw [ha] at r1
    have R1 := Lib.hid r1
    have HM := Lib.hid (matchOf_no2 (a := tl b) ha)
    clear r1 r2 ha
    go_enter Tryz.func164, Tryz.ntmps164
    go_wp2_with fail
    refine R1.out.mono ?_
    rintro e w1 ⟨rfl, hb1⟩
    have hz1 := hb1.size
    go_wp2_with fail
    go_ret
    rw [HM.out]
    exact ⟨rfl, (by repeat' (first | exact Below.refl _ _ | refine Below.alloc ?_ ?_ _ | refine Below.setCell ?_ ?_ _ | refine Below.drew ?_ | (apply below_step; assumption) | (simp; done) | (simp; omega) | omega))⟩
  · rw [ha] at r1
    cases hb : labsOk (tl b)
    · rw [hb] at r2
      have R1 := Lib.hid r1
      have R2 := Lib.hid r2
      have HM := Lib.hid (matchOf_no1 (b := tl a) hb)
      clear r1 r2 ha hb
      generalize readOf (tl a) = m1 at R1 R2
      go_enter Tryz.func164, Tryz.ntmps164
      go_wp2_with fail
      refine R1.out.mono ?_
      rintro e w1 ⟨rfl, hb1⟩
      have hz1 := hb1.size
      go_wp2_with fail
      refine (R2.out w1 hb1).mono ?_
      rintro e w2 ⟨rfl, hb2⟩
      have hz2 := hb2.size
      simp at hz2
      go_wp2_with fail
      go_ret
      rw [HM.out]
      exact ⟨rfl, (by repeat' (first | exact Below.refl _ _ | refine Below.alloc ?_ ?_ _ | refine Below.setCell ?_ ?_ _ | refine Below.drew ?_ | (apply below_step; assumption) | (simp; done) | (simp; omega) | omega))⟩
    · rw [hb] at r2
      have R1 := Lib.hid r1
      have R2 := Lib.hid r2
      have HM := Lib.hid (matchOf_yes hb ha)
      clear r1 r2 ha hb
      generalize readOf (tl a) = m1 at R1 R2 HM
      generalize readOf (tl b) = m2 at R2 HM
      go_enter Tryz.func164, Tryz.ntmps164
      go_wp2_with fail
      refine R1.out.mono ?_
      rintro e w1 ⟨rfl, hb1⟩
      have hz1 := hb1.size
      go_wp2_with fail
      refine (R2.out w1 hb1).mono ?_
      rintro e w2 ⟨rfl, hb2⟩
      have hz2 := hb2.size
      simp at hz2
      have hM1 := ((BlockIs.new w1 171 #[.int .i64 (m1 0), .int .i64 (m1 1), .int .i64 (m1 2), .int .i64 (m1 3), .int .i64 (m1 4), .int .i64 (m1 5), .int .i64 (m1 6), .int .i64 (m1 7), .int .i64 (m1 8), .int .i64 (m1 9)]).below hb2 (by simp)).alloc (.cells #[.int .i64 (m2 0), .int .i64 (m2 1), .int .i64 (m2 2), .int .i64 (m2 3), .int .i64 (m2 4), .int .i64 (m2 5), .int .i64 (m2 6), .int .i64 (m2 7), .int .i64 (m2 8), .int .i64 (m2 9)] 171)
      have z0 := (hM1).cell 0; have z1 := (hM1).cell 1; have z2 := (hM1).cell 2; have z3 := (hM1).cell 3; have z4 := (hM1).cell 4; have z5 := (hM1).cell 5; have z6 := (hM1).cell 6; have z7 := (hM1).cell 7; have z8 := (hM1).cell 8; have z9 := (hM1).cell 9; simp at z0 z1 z2 z3 z4 z5 z6 z7 z8 z9
      clear hM1
      go_wp2_with fail
      refine (hasAll_any m2 m1 _).mono ?_
      rintro e w3 ⟨rfl, hb3⟩
      have hz3 := hb3.size
      simp at hz3
      go_wp2_with fail
      go_ret
      rw [HM.out]
      exact ⟨rfl, (by repeat' (first | exact Below.refl _ _ | refine Below.alloc ?_ ?_ _ | refine Below.setCell ?_ ?_ _ | refine Below.drew ?_ | (apply below_step; assumption) | (simp; done) | (simp; omega) | omega))⟩
end Go.Proofs.YtmkpajjnjgnmkabGreatDoor

namespace Go.Proofs.YtmkpajjnjgnmkabGreatDoor
open Go.RowKit

theorem idOk_any (n : Int) (w : World) : Calls Tryz.prog 136 #[.int .i64 n] w fun e w' => e = .returned (.bool (idOk n)) ∧ w = w' := by
  by_cases h1 : 1 ≤ n
  · by_cases h2 : n ≤ 99
    · have H := Lib.hid (idOk_iff.2 ⟨h1, h2⟩)
      go_enter Tryz.func136, Tryz.ntmps136
      go_wp2
      go_ret
      exact ⟨by rw [H.out]; simp, rfl⟩
    · have H := Lib.hid (idBad_iff.2 (fun h => h2 h.2))
      have h3 : 99 < n := by omega
      clear h2
      go_enter Tryz.func136, Tryz.ntmps136
      go_wp2
      go_ret
      exact ⟨by rw [H.out]; simp; omega, rfl⟩
  · have H := Lib.hid (idBad_iff.2 (fun h => h1 h.1))
    have h2 : n < 1 := by omega
    clear h1
    go_enter Tryz.func136, Tryz.ntmps136
    go_wp2
    go_ret
    exact ⟨by rw [H.out]; rfl, rfl⟩

theorem tv_ok_eq (t : TV) (b1 b2 b3 b4 b5 b6 : Bool) (h1 : idOk t.id = b1) (h2 : decide (0 ≤ t.prio) = b2) (h3 : decide (t.prio ≤ 9) = b3) (h4 : t.need.ok = b4) (h5 : labsOk t.want = b5) (h6 : labsOk (tl t.tols) = b6) : t.ok = (b1 && b2 && b3 && b4 && b5 && b6) := by
  subst h1 h2 h3 h4 h5 h6; rfl
theorem nv_ok_eq (t : NV) (b1 b2 b3 b4 b5 b6 : Bool) (h1 : idOk t.id = b1) (h2 : decide (0 ≤ t.pool) = b2) (h3 : decide (t.pool < 5) = b3) (h4 : t.cap.ok = b4) (h5 : labsOk t.labs = b5) (h6 : labsOk (tl t.taints) = b6) : t.ok = (b1 && b2 && b3 && b4 && b5 && b6) := by
  subst h1 h2 h3 h4 h5 h6; rfl

set_option maxHeartbeats 1600000 in
theorem TaskOk_any (t : TV) (v1 v2 : Value) (w : World) (x : Addr) (hg : ErrAt x w) (h1 : LabSl w v1 t.want) (h2 : IntSl w v2 t.tols) (l1 : t.want.length ≤ 1048576) (l2 : t.tols.length ≤ 1048576) :
    Calls Tryz.prog 131 #[.agg #[.int .i64 t.id, .int .i64 t.prio, .int .i64 t.need.c, .int .i64 t.need.m, .int .i64 t.need.p, v1, v2]] w fun e w' => e = .returned (.bool t.ok) ∧ Below w.heap.size w w' := by
  have HG := Lib.hid hg
  have HL := Lib.hid h1
  have HI := Lib.hid h2
  have HE := Lib.hid (tv_ok_eq t)
  have hid := idOk_any t.id
  have hne : ∀ w x (hg : ErrAt x w), Calls Tryz.prog 144 #[.agg #[.int .i64 t.need.c, .int .i64 t.need.m, .int .i64 t.need.p]] w fun e w' => e = .returned (.bool t.need.ok) ∧ Below w.heap.size w w' := fun w x hg => ResOk_any t.need w x hg
  have hla : ∀ w (h : LabSl w v1 t.want), Calls Tryz.prog 145 #[v1] w fun e w' => e = .returned (.bool (labsOk t.want)) ∧ Below w.heap.size w w' := fun w h => LabsOk_any v1 t.want w h l1
  have hta : ∀ w (h : IntSl w v2 t.tols), Calls Tryz.prog 146 #[v2] w fun e w' => e = .returned (.bool (labsOk (tl t.tols))) ∧ Below w.heap.size w w' := fun w h => TaintsOk_any v2 t.tols w h l2
  generalize t.ok = ok at *
  generalize e1 : idOk t.id = b1 at hid
  generalize e2 : decide (0 ≤ t.prio) = b2
  generalize e3 : decide (t.prio ≤ 9) = b3
  generalize e4 : t.need.ok = b4 at hne
  generalize e5 : labsOk t.want = b5 at hla
  generalize e6 : labsOk (tl t.tols) = b6 at hta
  have HE' := Lib.hid (HE.out _ _ _ _ _ _ e1 e2 e3 e4 e5 e6)
  have HID := Lib.hid hid
  have HNE := Lib.hid hne
  have HLA := Lib.hid hla
  have HTA := Lib.hid hta
  clear hg h1 h2 hid hne hla hta e1 e4 e5 e6 HE l1 l2
  go_enter Tryz.func131, Tryz.ntmps131
  go_wp2_with fail
  refine (HID.out _).mono ?_
  rintro e w1 ⟨rfl, rfl⟩
  cases b1
  · go_wp2_with fail
    go_ret
    exact ⟨by rw [HE'.out]; simp, (by repeat' (first | exact Below.refl _ _ | refine Below.alloc ?_ ?_ _ | refine Below.setCell ?_ ?_ _ | refine Below.drew ?_ | (apply below_step; assumption) | (simp; done) | (simp; omega) | omega))⟩
  cases b2
  · go_wp2_with fail
    go_ret
    exact ⟨by rw [HE'.out]; simp, (by repeat' (first | exact Below.refl _ _ | refine Below.alloc ?_ ?_ _ | refine Below.setCell ?_ ?_ _ | refine Below.drew ?_ | (apply below_step; assumption) | (simp; done) | (simp; omega) | omega))⟩
  cases b3
  · go_wp2_with fail
    go_ret
    exact ⟨by rw [HE'.out]; simp, (by repeat' (first | exact Below.refl _ _ | refine Below.alloc ?_ ?_ _ | refine Below.setCell ?_ ?_ _ | refine Below.drew ?_ | (apply below_step; assumption) | (simp; done) | (simp; omega) | omega))⟩
  go_wp2_with fail
  refine (HNE.out _ x (HG.out.alloc _)).mono ?_
  rintro e w2 ⟨rfl, hb2⟩
  have hz2 := hb2.size
  simp at hz2
  obtain ⟨hc2, hf2⟩ := bcell hb2
  have hC2 : Below w.heap.size w w2 := ((Below.refl _ _).alloc (Nat.le_refl _) _).trans (hb2.mono (by simp))
  cases b4
  · go_wp2_with fail
    go_ret
    exact ⟨by rw [HE'.out]; simp, hC2⟩
  go_wp2_with fail
  refine (HLA.out _ (HL.out.below hC2)).mono ?_
  rintro e w3 ⟨rfl, hb3⟩
  have hz3 := hb3.size
  obtain ⟨hc3, hf3⟩ := bcell hb3
  have hs2 : w.heap.size < w2.heap.size := by omega
  have hC3 : Below w.heap.size w w3 := hC2.trans (hb3.mono hC2.size)
  cases b5
  · go_wp2_with fail
    go_ret
    exact ⟨by rw [HE'.out]; simp, hC3⟩
  go_wp2_with fail
  refine (HTA.out _ (HI.out.below hC3)).mono ?_
  rintro e w4 ⟨rfl, hb4⟩
  have hC4 : Below w.heap.size w w4 := hC3.trans (hb4.mono hC3.size)
  go_wp2_with fail
  go_ret
  exact ⟨by rw [HE'.out]; simp, hC4⟩
set_option maxHeartbeats 1600000 in
theorem NodeOk_any (t : NV) (v1 v2 : Value) (w : World) (x : Addr) (hg : ErrAt x w) (h1 : LabSl w v1 t.labs) (h2 : IntSl w v2 t.taints) (l1 : t.labs.length ≤ 1048576) (l2 : t.taints.length ≤ 1048576) :
    Calls Tryz.prog 130 #[.agg #[.int .i64 t.id, .int .i64 t.pool, .int .i64 t.cap.c, .int .i64 t.cap.m, .int .i64 t.cap.p, v1, v2, .bool t.cordon]] w fun e w' => e = .returned (.bool t.ok) ∧ Below w.heap.size w w' := by
  have HG := Lib.hid hg
  have HL := Lib.hid h1
  have HI := Lib.hid h2
  have HE := Lib.hid (nv_ok_eq t)
  have hid := idOk_any t.id
  have hne : ∀ w x (hg : ErrAt x w), Calls Tryz.prog 144 #[.agg #[.int .i64 t.cap.c, .int .i64 t.cap.m, .int .i64 t.cap.p]] w fun e w' => e = .returned (.bool t.cap.ok) ∧ Below w.heap.size w w' := fun w x hg => ResOk_any t.cap w x hg
  have hla : ∀ w (h : LabSl w v1 t.labs), Calls Tryz.prog 145 #[v1] w fun e w' => e = .returned (.bool (labsOk t.labs)) ∧ Below w.heap.size w w' := fun w h => LabsOk_any v1 t.labs w h l1
  have hta : ∀ w (h : IntSl w v2 t.taints), Calls Tryz.prog 146 #[v2] w fun e w' => e = .returned (.bool (labsOk (tl t.taints))) ∧ Below w.heap.size w w' := fun w h => TaintsOk_any v2 t.taints w h l2
  generalize t.ok = ok at *
  generalize e1 : idOk t.id = b1 at hid
  generalize e2 : decide (0 ≤ t.pool) = b2
  generalize e3 : decide (t.pool < 5) = b3
  generalize e4 : t.cap.ok = b4 at hne
  generalize e5 : labsOk t.labs = b5 at hla
  generalize e6 : labsOk (tl t.taints) = b6 at hta
  have HE' := Lib.hid (HE.out _ _ _ _ _ _ e1 e2 e3 e4 e5 e6)
  have HID := Lib.hid hid
  have HNE := Lib.hid hne
  have HLA := Lib.hid hla
  have HTA := Lib.hid hta
  clear hg h1 h2 hid hne hla hta e1 e4 e5 e6 HE l1 l2
  go_enter Tryz.func130, Tryz.ntmps130
  go_wp2_with fail
  refine (HID.out _).mono ?_
  rintro e w1 ⟨rfl, rfl⟩
  cases b1
  · go_wp2_with fail
    go_ret
    exact ⟨by rw [HE'.out]; simp, (by repeat' (first | exact Below.refl _ _ | refine Below.alloc ?_ ?_ _ | refine Below.setCell ?_ ?_ _ | refine Below.drew ?_ | (apply below_step; assumption) | (simp; done) | (simp; omega) | omega))⟩
  cases b2
  · go_wp2_with fail
    go_ret
    exact ⟨by rw [HE'.out]; simp, (by repeat' (first | exact Below.refl _ _ | refine Below.alloc ?_ ?_ _ | refine Below.setCell ?_ ?_ _ | refine Below.drew ?_ | (apply below_step; assumption) | (simp; done) | (simp; omega) | omega))⟩
  cases b3
  · go_wp2_with fail
    go_ret
    exact ⟨by rw [HE'.out]; simp, (by repeat' (first | exact Below.refl _ _ | refine Below.alloc ?_ ?_ _ | refine Below.setCell ?_ ?_ _ | refine Below.drew ?_ | (apply below_step; assumption) | (simp; done) | (simp; omega) | omega))⟩
  go_wp2_with fail
  refine (HNE.out _ x (HG.out.alloc _)).mono ?_
  rintro e w2 ⟨rfl, hb2⟩
  have hz2 := hb2.size
  simp at hz2
  obtain ⟨hc2, hf2⟩ := bcell hb2
  have hC2 : Below w.heap.size w w2 := ((Below.refl _ _).alloc (Nat.le_refl _) _).trans (hb2.mono (by simp))
  cases b4
  · go_wp2_with fail
    go_ret
    exact ⟨by rw [HE'.out]; simp, hC2⟩
  go_wp2_with fail
  refine (HLA.out _ (HL.out.below hC2)).mono ?_
  rintro e w3 ⟨rfl, hb3⟩
  have hz3 := hb3.size
  obtain ⟨hc3, hf3⟩ := bcell hb3
  have hs2 : w.heap.size < w2.heap.size := by omega
  have hC3 : Below w.heap.size w w3 := hC2.trans (hb3.mono hC2.size)
  cases b5
  · go_wp2_with fail
    go_ret
    exact ⟨by rw [HE'.out]; simp, hC3⟩
  go_wp2_with fail
  refine (HTA.out _ (HI.out.below hC3)).mono ?_
  rintro e w4 ⟨rfl, hb4⟩
  have hC4 : Below w.heap.size w w4 := hC3.trans (hb4.mono hC3.size)
  go_wp2_with fail
  go_ret
  exact ⟨by rw [HE'.out]; simp, hC4⟩

theorem ma_eq (n : NV) (t : TV) (b3 b4 : Bool) (h3 : matchOf n.labs t.want = b3) (h4 : tolOf n.taints t.tols = b4) : hosts n t = (b3 && b4) := by
  subst h3 h4; rfl
theorem ch_eq (n : NV) (t : TV) (b1 b2 b3 : Bool) (h1 : n.ok = b1) (h2 : t.ok = b2) (h3 : hosts n t = b3) : canHost n t = (b1 && b2 && b3) := by
  subst h1 h2 h3; rfl

set_option maxHeartbeats 1600000 in
theorem marksAllow_any (n : NV) (t : TV) (u1 u2 v1 v2 : Value) (w : World) (k1 : LabSl w u1 n.labs) (k2 : IntSl w u2 n.taints) (h1 : LabSl w v1 t.want) (h2 : IntSl w v2 t.tols)
    (m1 : n.labs.length ≤ 1048576) (m2 : n.taints.length ≤ 1048576) (l1 : t.want.length ≤ 1048576) (l2 : t.tols.length ≤ 1048576) :
    Calls Tryz.prog 151 #[.agg #[.int .i64 n.id, .int .i64 n.pool, .int .i64 n.cap.c, .int .i64 n.cap.m, .int .i64 n.cap.p, u1, u2, .bool n.cordon], .agg #[.int .i64 t.id, .int .i64 t.prio, .int .i64 t.need.c, .int .i64 t.need.m, .int .i64 t.need.p, v1, v2]] w fun e w' => e = .returned (.bool (hosts n t)) ∧ Below w.heap.size w w' := by
  have K1 := Lib.hid k1
  have K2 := Lib.hid k2
  have H1 := Lib.hid h1
  have H2 := Lib.hid h2
  have hla : ∀ w (k : LabSl w u1 n.labs) (h : LabSl w v1 t.want), Calls Tryz.prog 163 #[u1, v1] w fun e w' => e = .returned (.bool (matchOf n.labs t.want)) ∧ Below w.heap.size w w' := fun w k h => LabsMatch_any u1 v1 n.labs t.want w k h m1 l1
  have hta : ∀ w (k : IntSl w u2 n.taints) (h : IntSl w v2 t.tols), Calls Tryz.prog 164 #[u2, v2] w fun e w' => e = .returned (.bool (tolOf n.taints t.tols)) ∧ Below w.heap.size w w' := fun w k h => Tolerates_any u2 v2 n.taints t.tols w k h m2 l2
  have HE := Lib.hid (ma_eq n t)
  generalize hosts n t = ok at *
  generalize e3 : matchOf n.labs t.want = b3 at hla
  generalize e4 : tolOf n.taints t.tols = b4 at hta
  have HE' := Lib.hid (HE.out _ _ e3 e4)
  have HLA := Lib.hid hla
  have HTA := Lib.hid hta
  clear k1 k2 h1 h2 hla hta e3 e4 HE m1 m2 l1 l2
  go_enter Tryz.func151, Tryz.ntmps151
  go_wp2_with fail
  have hC0 : Below w.heap.size w ((w.alloc (.cells #[.int .i64 n.id, .int .i64 n.pool, .int .i64 n.cap.c, .int .i64 n.cap.m, .int .i64 n.cap.p, u1, u2, .bool n.cordon] 61)).alloc (.cells #[.int .i64 t.id, .int .i64 t.prio, .int .i64 t.need.c, .int .i64 t.need.m, .int .i64 t.need.p, v1, v2] 119)) := (by repeat' (first | exact Below.refl _ _ | refine Below.alloc ?_ ?_ _ | refine Below.setCell ?_ ?_ _ | refine Below.drew ?_ | (apply below_step; assumption) | (simp; done) | (simp; omega) | omega))
  refine (HLA.out _ (K1.out.below hC0) (H1.out.below hC0)).mono ?_
  rintro e w3 ⟨rfl, hb3⟩
  have hz3 := hb3.size
  simp at hz3
  obtain ⟨hc3, hf3⟩ := bcell hb3
  have hs2 : w.heap.size < w3.heap.size := by omega
  have hs2' : w.heap.size + 1 < w3.heap.size := by omega
  have hC3 : Below w.heap.size w w3 := hC0.trans (hb3.mono hC0.size)
  cases b3
  · go_wp2_with fail
    go_ret
    exact ⟨by rw [HE'.out]; simp, hC3⟩
  go_wp2_with fail
  refine (HTA.out _ (K2.out.below hC3) (H2.out.below hC3)).mono ?_
  rintro e w4 ⟨rfl, hb4⟩
  have hC4 : Below w.heap.size w w4 := hC3.trans (hb4.mono hC3.size)
  go_wp2_with fail
  go_ret
  exact ⟨by rw [HE'.out]; simp, hC4⟩

set_option maxHeartbeats 1600000 in
theorem CanHost_any (n : NV) (t : TV) (u1 u2 v1 v2 : Value) (w : World) (x : Addr) (hg : ErrAt x w) (k1 : LabSl w u1 n.labs) (k2 : IntSl w u2 n.taints) (h1 : LabSl w v1 t.want) (h2 : IntSl w v2 t.tols)
    (m1 : n.labs.length ≤ 1048576) (m2 : n.taints.length ≤ 1048576) (l1 : t.want.length ≤ 1048576) (l2 : t.tols.length ≤ 1048576) :
    Calls Tryz.prog 134 #[.agg #[.int .i64 n.id, .int .i64 n.pool, .int .i64 n.cap.c, .int .i64 n.cap.m, .int .i64 n.cap.p, u1, u2, .bool n.cordon], .agg #[.int .i64 t.id, .int .i64 t.prio, .int .i64 t.need.c, .int .i64 t.need.m, .int .i64 t.need.p, v1, v2]] w fun e w' => e = .returned (.bool (canHost n t)) ∧ Below w.heap.size w w' := by
  have HG := Lib.hid hg
  have K1 := Lib.hid k1
  have K2 := Lib.hid k2
  have H1 := Lib.hid h1
  have H2 := Lib.hid h2
  have hn : ∀ w x (hg : ErrAt x w) (h1 : LabSl w u1 n.labs) (h2 : IntSl w u2 n.taints), Calls Tryz.prog 130 #[.agg #[.int .i64 n.id, .int .i64 n.pool, .int .i64 n.cap.c, .int .i64 n.cap.m, .int .i64 n.cap.p, u1, u2, .bool n.cordon]] w fun e w' => e = .returned (.bool n.ok) ∧ Below w.heap.size w w' := fun w x hg h1 h2 => NodeOk_any n u1 u2 w x hg h1 h2 m1 m2
  have ht : ∀ w x (hg : ErrAt x w) (h1 : LabSl w v1 t.want) (h2 : IntSl w v2 t.tols), Calls Tryz.prog 131 #[.agg #[.int .i64 t.id, .int .i64 t.prio, .int .i64 t.need.c, .int .i64 t.need.m, .int .i64 t.need.p, v1, v2]] w fun e w' => e = .returned (.bool t.ok) ∧ Below w.heap.size w w' := fun w x hg h1 h2 => TaskOk_any t v1 v2 w x hg h1 h2 l1 l2
  have hma : ∀ w (k1 : LabSl w u1 n.labs) (k2 : IntSl w u2 n.taints) (h1 : LabSl w v1 t.want) (h2 : IntSl w v2 t.tols), Calls Tryz.prog 151 #[.agg #[.int .i64 n.id, .int .i64 n.pool, .int .i64 n.cap.c, .int .i64 n.cap.m, .int .i64 n.cap.p, u1, u2, .bool n.cordon], .agg #[.int .i64 t.id, .int .i64 t.prio, .int .i64 t.need.c, .int .i64 t.need.m, .int .i64 t.need.p, v1, v2]] w fun e w' => e = .returned (.bool (hosts n t)) ∧ Below w.heap.size w w' := fun w k1 k2 h1 h2 => marksAllow_any n t u1 u2 v1 v2 w k1 k2 h1 h2 m1 m2 l1 l2
  have HE := Lib.hid (ch_eq n t)
  generalize canHost n t = ok at *
  generalize e1 : n.ok = b1 at hn
  generalize e2 : t.ok = b2 at ht
  generalize e3 : hosts n t = b3 at hma
  have HE' := Lib.hid (HE.out _ _ _ e1 e2 e3)
  have HN := Lib.hid hn
  have HT := Lib.hid ht
  have HMA := Lib.hid hma
  clear hg k1 k2 h1 h2 hn ht hma e1 e2 e3 HE m1 m2 l1 l2
  go_enter Tryz.func134, Tryz.ntmps134
  go_wp2_with fail
  have hC0 : Below w.heap.size w ((w.alloc (.cells #[.int .i64 n.id, .int .i64 n.pool, .int .i64 n.cap.c, .int .i64 n.cap.m, .int .i64 n.cap.p, u1, u2, .bool n.cordon] 61)).alloc (.cells #[.int .i64 t.id, .int .i64 t.prio, .int .i64 t.need.c, .int .i64 t.need.m, .int .i64 t.need.p, v1, v2] 119)) := (by repeat' (first | exact Below.refl _ _ | refine Below.alloc ?_ ?_ _ | refine Below.setCell ?_ ?_ _ | refine Below.drew ?_ | (apply below_step; assumption) | (simp; done) | (simp; omega) | omega))
  refine (HN.out _ x ((HG.out.alloc _).alloc _) (K1.out.below hC0) (K2.out.below hC0)).mono ?_
  rintro e w1 ⟨rfl, hb1⟩
  have hz1 := hb1.size
  simp at hz1
  obtain ⟨hc1, hf1⟩ := bcell hb1
  have hg1 := Lib.hid (((HG.out.alloc _).alloc _).below hb1 (Nat.le_refl _))
  have hC1 : Below w.heap.size w w1 := hC0.trans (hb1.mono hC0.size)
  cases b1
  · go_wp2_with fail
    go_ret
    exact ⟨by rw [HE'.out]; simp, hC1⟩
  go_wp2_with fail
  refine (HT.out _ x hg1.out (H1.out.below hC1) (H2.out.below hC1)).mono ?_
  rintro e w2 ⟨rfl, hb2⟩
  have hz2 := hb2.size
  obtain ⟨hc2, hf2⟩ := bcell hb2
  have hs1 : w.heap.size < w1.heap.size := by omega
  have hs1' : w.heap.size + 1 < w1.heap.size := by omega
  have hC2 : Below w.heap.size w w2 := hC1.trans (hb2.mono hC1.size)
  cases b2
  · go_wp2_with fail
    go_ret
    exact ⟨by rw [HE'.out]; simp, hC2⟩
  have hs2 : w.heap.size < w2.heap.size := by omega
  have hs2' : w.heap.size + 1 < w2.heap.size := by omega
  go_wp2_with fail
  refine (HMA.out _ (K1.out.below hC2) (K2.out.below hC2) (H1.out.below hC2) (H2.out.below hC2)).mono ?_
  rintro e w3 ⟨rfl, hb3⟩
  have hC3 : Below w.heap.size w w3 := hC2.trans (hb3.mono hC2.size)
  go_wp2_with fail
  go_ret
  exact ⟨by rw [HE'.out]; simp, hC3⟩
end Go.Proofs.YtmkpajjnjgnmkabGreatDoor

namespace Go.Proofs.YtmkpajjnjgnmkabGreatDoor
open Go.RowKit

theorem sLabsOk_long (A : Option Addr) (n c : Nat) (w : World) (h : 6 < n) (hm : n ≤ 1048576) :
    Calls Tryz.prog 125 #[.slice A n c] w fun e w' => e = .returned (.bool false) ∧ Below w.heap.size w w' := by
  have h6 : (6 : Int) < (n : Int) := by omega
  go_enter Tryz.func125, Tryz.ntmps125
  go_wp2_with fail
  go_ret
  exact ⟨rfl, (by repeat' (first | exact Below.refl _ _ | refine Below.alloc ?_ ?_ _ | refine Below.setCell ?_ ?_ _ | refine Below.drew ?_ | (apply below_step; assumption) | (simp; done) | (simp; omega) | omega))⟩

def lastK (l : List LV) (k : Nat) : Int := if k = 0 then -1 else (l.getD (k - 1) ⟨0, 0⟩).k

set_option maxHeartbeats 3200000 in
theorem sLabsOk_short (v : Value) (l : List LV) (w : World) (hv : LabSl w v l) (hlen : l.length ≤ 6) :
    Calls Tryz.prog 125 #[v] w fun e w' => e = .returned (.bool (labsOk l)) ∧ Below w.heap.size w w' := by
  obtain ⟨A, c, rfl, hA⟩ := hv.form
  have HA := Lib.hid hA
  have HO := Lib.hid (labsOk_short hlen)
  clear hA hv
  have hl6 : (l.length : Int) ≤ 6 := by omega
  go_enter Tryz.func125, Tryz.ntmps125
  go_wp2_with fail
  go_loopw [3] (fun s3 wr => ∃ (k : Nat), k ≤ l.length ∧ s3 = .int .i64 k ∧ labsFrom (-1) l = labsFrom (lastK l k) (l.drop k) ∧ Below w.heap.size w wr) (fun s3 _ => (l.length - intOf s3).toNat)
  case atStart => exact ⟨0, by omega, rfl, by rw [List.drop_zero]; rfl, Below.refl _ _⟩
  case round =>
    obtain ⟨k, hk, rfl, hF, hB⟩ := hrel
    have HF := Lib.hid hF
    have hzr := hB.size
    clear hF
    by_cases hlt : k < l.length
    · obtain ⟨b, off, rfl, hbw, hat⟩ := HA.out (by omega)
      obtain ⟨r, hr⟩ : ∃ r, l[k]? = some r := ⟨_, List.getElem?_eq_getElem hlt⟩
      have HD := Lib.hid (drop_at hr)
      have HN : Hid (lastK l (k + 1) = r.k) := by
        show _ = _
        simp [lastK, List.getD, hr]
      obtain ⟨q0, q1⟩ := (hat.below hB hbw) k r hr
      have hlti : (k : Int) < (l.length : Int) := by omega
      have hbr : b < wr.heap.size := by omega
      rcases (show r.k < 0 ∨ (0 ≤ r.k ∧ 9 < r.k) ∨ (0 ≤ r.k ∧ r.k ≤ 9 ∧ r.v < 0) ∨ (0 ≤ r.k ∧ r.k ≤ 9 ∧ 0 ≤ r.v ∧ 9 < r.v) ∨ (0 ≤ r.k ∧ r.k ≤ 9 ∧ 0 ≤ r.v ∧ r.v ≤ 9) by omega) with g | g | g | g | g
      case inr.inr.inr.inr => 
        obtain ⟨g0, g1, g2, g3⟩ := g
        have HR := Lib.hid (LV.ok_iff.2 ⟨g0, g1, g2, g3⟩)
        by_cases hk0 : k = 0
        · have HL : Hid (lastK l k < r.k) := by
            show _ < _
            rw [hk0]; simp [lastK]; omega
          have HK0 := Lib.hid hk0
          have hkb : decide (0 < k) = false := by simp; omega
          have b0 : decide (r.k < 0) = false := by simp; omega
          have b1 : decide (9 < r.k) = false := by simp; omega
          have b2 : decide (r.v < 0) = false := by simp; omega
          have b3 : decide (9 < r.v) = false := by simp; omega
          clear hat hr hk0 g0 g1 g2 g3
          go_wp2_with fail
          go_quiet (fail)
          go_wp2_with fail
          go_roundw
          case rel =>
            refine ⟨k + 1, by omega, by go_num, ?_, (by repeat' (first | exact Below.refl _ _ | refine Below.alloc ?_ ?_ _ | refine Below.setCell ?_ ?_ _ | refine Below.drew ?_ | refine below_drewN ?_ _ | (apply below_step; assumption) | (simp; done) | (simp; omega) | omega))⟩
            rw [HF.out, HD.out, HN.out, labsFrom_yes HR.out HL.out]
          case measure => simp [intOf]; omega
        · obtain ⟨q, hq⟩ : ∃ q, l[k - 1]? = some q := ⟨_, List.getElem?_eq_getElem (by omega)⟩
          obtain ⟨p0, _⟩ := (hat.below hB hbw) (k - 1) q hq
          have HL : Hid (lastK l k = q.k) := by
            show _ = _
            simp [lastK, List.getD, hq, hk0]
          have hkb : decide (0 < k) = true := by simp; omega
          have b0 : decide (r.k < 0) = false := by simp; omega
          have b1 : decide (9 < r.k) = false := by simp; omega
          have b2 : decide (r.v < 0) = false := by simp; omega
          have b3 : decide (9 < r.v) = false := by simp; omega
          have n1 : (0 : Int) ≤ (k : Int) - 1 := by omega
          have n2 : (1 : Int) ≤ (k : Int) := by omega
          have n3 : (k : Int) - 1 < (l.length : Int) := by omega
          have n4 : ((k : Int) - 1).toNat = k - 1 := by omega
          have n5 : IntKind.i64.wrap ((k : Int) - 1) = (k : Int) - 1 := IntWalk.i64_in _ (by omega)
          by_cases hle : r.k ≤ q.k
          · have HLE := Lib.hid hle
            have b4 : decide (r.k ≤ q.k) = true := by simpa using hle
            clear hat hr hk0 g0 g1 g2 g3 hq hle
            go_wp2_with fail
            go_quiet (fail)
            go_wp2_with fail
            have HX : Hid (labsOk l = false) := by
              show _ = _
              rw [HO.out, HF.out, HD.out, labsFrom_low (by rw [HL.out]; exact HLE.out)]
            go_ret
            rw [HX.out]
            exact ⟨rfl, (by repeat' (first | exact Below.refl _ _ | refine Below.alloc ?_ ?_ _ | refine Below.setCell ?_ ?_ _ | refine Below.drew ?_ | refine below_drewN ?_ _ | (apply below_step; assumption) | (simp; done) | (simp; omega) | omega))⟩
          · have HLE := Lib.hid (show q.k < r.k by omega)
            have b4 : decide (r.k ≤ q.k) = false := by simp; omega
            clear hat hr hk0 g0 g1 g2 g3 hq hle
            go_wp2_with fail
            go_quiet (fail)
            go_wp2_with fail
            clear n4 n5
            go_roundw
            case rel =>
              refine ⟨k + 1, by omega, by go_num, ?_, (by repeat' (first | exact Below.refl _ _ | refine Below.alloc ?_ ?_ _ | refine Below.setCell ?_ ?_ _ | refine Below.drew ?_ | refine below_drewN ?_ _ | (apply below_step; assumption) | (simp; done) | (simp; omega) | omega))⟩
              rw [HF.out, HD.out, HN.out, labsFrom_yes HR.out (by rw [HL.out]; exact HLE.out)]
            case measure => simp [intOf]; omega
      · have HR := Lib.hid (LV.bad_iff.2 (show ¬ (0 ≤ r.k ∧ r.k ≤ 9 ∧ 0 ≤ r.v ∧ r.v ≤ 9) by omega))
        have b0 : decide (r.k < 0) = true := by simp; omega
        clear hat hr g
        go_wp2_with fail
        go_quiet (fail)
        go_wp2_with fail
        have HX : Hid (labsOk l = false) := by
          show _ = _
          rw [HO.out, HF.out, HD.out, labsFrom_bad HR.out]
        go_ret
        rw [HX.out]
        exact ⟨rfl, (by repeat' (first | exact Below.refl _ _ | refine Below.alloc ?_ ?_ _ | refine Below.setCell ?_ ?_ _ | refine Below.drew ?_ | refine below_drewN ?_ _ | (apply below_step; assumption) | (simp; done) | (simp; omega) | omega))⟩
      · have HR := Lib.hid (LV.bad_iff.2 (show ¬ (0 ≤ r.k ∧ r.k ≤ 9 ∧ 0 ≤ r.v ∧ r.v ≤ 9) by omega))
        have b0 : decide (r.k < 0) = false := by simp; omega
        have b1 : decide (9 < r.k) = true := by simp; omega
        clear hat hr g
        go_wp2_with fail
        go_quiet (fail)
        go_wp2_with fail
        have HX : Hid (labsOk l = false) := by
          show _ = _
          rw [HO.out, HF.out, HD.out, labsFrom_bad HR.out]
        go_ret
        rw [HX.out]
        exact ⟨rfl, (by repeat' (first | exact Below.refl _ _ | refine Below.alloc ?_ ?_ _ | refine Below.setCell ?_ ?_ _ | refine Below.drew ?_ | refine below_drewN ?_ _ | (apply below_step; assumption) | (simp; done) | (simp; omega) | omega))⟩
      · have HR := Lib.hid (LV.bad_iff.2 (show ¬ (0 ≤ r.k ∧ r.k ≤ 9 ∧ 0 ≤ r.v ∧ r.v ≤ 9) by omega))
        have b0 : decide (r.k < 0) = false := by simp; omega
        have b1 : decide (9 < r.k) = false := by simp; omega
        have b2 : decide (r.v < 0) = true := by simp; omega
        clear hat hr g
        go_wp2_with fail
        go_quiet (fail)
        go_wp2_with fail
        have HX : Hid (labsOk l = false) := by
          show _ = _
          rw [HO.out, HF.out, HD.out, labsFrom_bad HR.out]
        go_ret
        rw [HX.out]
        exact ⟨rfl, (by repeat' (first | exact Below.refl _ _ | refine Below.alloc ?_ ?_ _ | refine Below.setCell ?_ ?_ _ | refine Below.drew ?_ | refine below_drewN ?_ _ | (apply below_step; assumption) | (simp; done) | (simp; omega) | omega))⟩
      · have HR := Lib.hid (LV.bad_iff.2 (show ¬ (0 ≤ r.k ∧ r.k ≤ 9 ∧ 0 ≤ r.v ∧ r.v ≤ 9) by omega))
        have b0 : decide (r.k < 0) = false := by simp; omega
        have b1 : decide (9 < r.k) = false := by simp; omega
        have b2 : decide (r.v < 0) = false := by simp; omega
        have b3 : decide (9 < r.v) = true := by simp; omega
        clear hat hr g
        go_wp2_with fail
        go_quiet (fail)
        go_wp2_with fail
        have HX : Hid (labsOk l = false) := by
          show _ = _
          rw [HO.out, HF.out, HD.out, labsFrom_bad HR.out]
        go_ret
        rw [HX.out]
        exact ⟨rfl, (by repeat' (first | exact Below.refl _ _ | refine Below.alloc ?_ ?_ _ | refine Below.setCell ?_ ?_ _ | refine Below.drew ?_ | refine below_drewN ?_ _ | (apply below_step; assumption) | (simp; done) | (simp; omega) | omega))⟩
    · have hkl : k = l.length := by omega
      have HX : Hid (labsOk l = true) := by
        show _ = _
        rw [HO.out, HF.out, hkl, List.drop_length]; rfl
      clear hkl
      go_wp2_with fail
      go_ret
      rw [HX.out]
      exact ⟨rfl, hB⟩
end Go.Proofs.YtmkpajjnjgnmkabGreatDoor

namespace Go.Proofs.YtmkpajjnjgnmkabGreatDoor
open Go.RowKit

theorem sLabsOk_any (v : Value) (l : List LV) (w : World) (hv : LabSl w v l) (hlen : l.length ≤ 1048576) :
    Calls Tryz.prog 125 #[v] w fun e w' => e = .returned (.bool (labsOk l)) ∧ Below w.heap.size w w' := by
  by_cases h : l.length ≤ 6
  · exact sLabsOk_short v l w hv h
  · obtain ⟨A, c, rfl, _⟩ := hv.form
    rw [labsOk_long (by omega)]
    exact sLabsOk_long A l.length c w (by omega) hlen




set_option maxHeartbeats 1600000 in
theorem sLabsGet_any (v : Value) (l : List LV) (key : Int) (w : World) (hv : LabSl w v l) (hlen : l.length ≤ 1048576) :
    Calls Tryz.prog 155 #[v, .int .i64 key] w (RetI (getOf l key) w) := by
  have hok := fun w1 (hb : Below w.heap.size w w1) => sLabsOk_any v l w1 (hv.below hb) hlen
  cases ho : labsOk l
  · rw [ho] at hok
    have HG := Lib.hid (getOf_no (k := key) ho)
    have HOK := Lib.hid hok
    obtain ⟨A, c, rfl, _⟩ := hv.form
    clear hok ho hv
    go_enter Tryz.func155, Tryz.ntmps155
    go_wp2_with fail
    refine wp_loop_rounds 1 ?_
    rw [rounds_succ]
    go_wp2_with fail
    refine (HOK.out w (Below.refl _ _)).mono ?_
    rintro e w1 ⟨rfl, hb1⟩
    have hz1 := hb1.size
    go_wp2_with fail
    go_ret2
    rw [HG.out]
    exact ⟨rfl, hb1⟩
  · rw [ho] at hok
    have HG := Lib.hid (getOf_yes (k := key) ho)
    have HOK := Lib.hid hok
    obtain ⟨A, c, rfl, hA⟩ := hv.form
    have HA := Lib.hid hA
    clear hok ho hv hA
    go_enter Tryz.func155, Tryz.ntmps155
    go_wp2_with fail
    go_loopw [6] (fun s6 wr => ∃ (k : Nat), k ≤ l.length ∧ s6 = .int .i64 k ∧ findK l key = findK (l.drop k) key ∧ Below w.heap.size w wr) (fun s6 _ => (l.length - intOf s6).toNat)
    case atStart => exact ⟨0, by omega, rfl, by rw [List.drop_zero], Below.refl _ _⟩
    case round =>
      obtain ⟨k, hk, rfl, hF, hB⟩ := hrel
      have HF := Lib.hid hF
      have hzr := hB.size
      clear hF
      by_cases hlt : k < l.length
      · obtain ⟨b, off, rfl, hbw, hat⟩ := HA.out (by omega)
        obtain ⟨r, hr⟩ : ∃ r, l[k]? = some r := ⟨_, List.getElem?_eq_getElem hlt⟩
        have HD := Lib.hid (drop_at hr)
        have hlti : (k : Int) < (l.length : Int) := by omega
        go_wp2_with fail
        refine (HOK.out wr hB).mono ?_
        rintro e w1 ⟨rfl, hb1⟩
        have hz1 := hb1.size
        have hB1 : Below w.heap.size w w1 := (by repeat' (first | exact Below.refl _ _ | refine Below.alloc ?_ ?_ _ | refine Below.setCell ?_ ?_ _ | refine Below.drew ?_ | (apply below_step; assumption) | (simp; done) | (simp; omega) | omega))
        obtain ⟨q0, q1⟩ := (hat.below hB1 hbw) k r hr
        clear hat hr
        by_cases hkk : r.k = key
        · have HK := Lib.hid hkk
          have hkb : (r.k == key) = true := by simpa using hkk
          clear hkk
          go_wp2_with fail
          go_ret2
          rw [HG.out, HF.out, HD.out, findK_hit HK.out]
          exact ⟨rfl, hB1⟩
        · have HK := Lib.hid hkk
          have hkb : (r.k == key) = false := by simpa using hkk
          clear hkk
          go_wp2_with fail
          go_roundw
          case rel =>
            refine ⟨k + 1, by omega, by go_num, ?_, hB1⟩
            rw [HF.out, HD.out, findK_miss HK.out]
          case measure => simp [intOf]; omega
      · have hkl : k = l.length := by omega
        have HX : Hid (findK l key = (0, false)) := by
          show _ = _
          rw [HF.out, hkl, List.drop_length]; rfl
        clear hkl
        have hlti : ¬ (k : Int) < (l.length : Int) := by omega
        go_wp2_with fail
        refine (HOK.out wr hB).mono ?_
        rintro e w1 ⟨rfl, hb1⟩
        have hz1 := hb1.size
        have hB1 : Below w.heap.size w w1 := (by repeat' (first | exact Below.refl _ _ | refine Below.alloc ?_ ?_ _ | refine Below.setCell ?_ ?_ _ | refine Below.drew ?_ | (apply below_step; assumption) | (simp; done) | (simp; omega) | omega))
        go_wp2_with fail
        go_ret2
        rw [HG.out, HX.out]
        exact ⟨rfl, hB1⟩

theorem hasAllOf_yes {a r : List LV} {x : LV} (h1 : (findK a x.k).2 = true) (h2 : (findK a x.k).1 = x.v) : hasAllOf a (x :: r) = hasAllOf a r := by simp [hasAllOf, h1, h2]
theorem hasAllOf_no1 {a r : List LV} {x : LV} (h1 : (findK a x.k).2 = false) : hasAllOf a (x :: r) = false := by simp [hasAllOf, h1]
theorem hasAllOf_no2 {a r : List LV} {x : LV} (h2 : (findK a x.k).1 ≠ x.v) : hasAllOf a (x :: r) = false := by simp [hasAllOf, h2]
theorem matchOf_both {a b : List LV} (ha : labsOk a = true) (hb : labsOk b = true) : matchOf a b = hasAllOf a b := by simp [matchOf, ha, hb]

set_option maxHeartbeats 1600000 in
theorem sLabsMatch_any (v1 v2 : Value) (a b : List LV) (w : World) (h1 : LabSl w v1 a) (h2 : LabSl w v2 b) (hl1 : a.length ≤ 1048576) (hl2 : b.length ≤ 1048576) :
    Calls Tryz.prog 141 #[v1, v2] w fun e w' => e = .returned (.bool (matchOf a b)) ∧ Below w.heap.size w w' := by
  have r1 := sLabsOk_any v1 a w h1 hl1
  have r2 := fun w1 (hb : Below w.heap.size w w1) => sLabsOk_any v2 b w1 (h2.below hb) hl2
  have r3 := fun key w1 (hb : Below w.heap.size w w1) => sLabsGet_any v1 a key w1 (h1.below hb) hl1
  cases ha : labsOk a
  · rw [ha] at r1
    have R1 := Lib.hid r1
    have HM := Lib.hid (matchOf_no1 (b := b) ha)
    clear r1 r2 r3 ha h1 h2
    go_enter Tryz.func141, Tryz.ntmps141
    go_wp2_with fail
    refine R1.out.mono ?_
    rintro e w1 ⟨rfl, hb1⟩
    have hz1 := hb1.size
    go_wp2_with fail
    go_ret
    rw [HM.out]
    exact ⟨rfl, hb1⟩
  · rw [ha] at r1
    cases hb : labsOk b
    · rw [hb] at r2
      have R1 := Lib.hid r1
      have R2 := Lib.hid r2
      have HM := Lib.hid (matchOf_no2 (a := a) hb)
      clear r1 r2 r3 ha hb h1 h2
      go_enter Tryz.func141, Tryz.ntmps141
      go_wp2_with fail
      refine R1.out.mono ?_
      rintro e w1 ⟨rfl, hb1⟩
      have hz1 := hb1.size
      go_wp2_with fail
      refine (R2.out w1 hb1).mono ?_
      rintro e w2 ⟨rfl, hb2⟩
      have hz2 := hb2.size
      go_wp2_with fail
      go_ret
      rw [HM.out]
      exact ⟨rfl, (by repeat' (first | exact Below.refl _ _ | refine Below.alloc ?_ ?_ _ | refine Below.setCell ?_ ?_ _ | refine Below.drew ?_ | (apply below_step; assumption) | (simp; done) | (simp; omega) | omega))⟩
    · rw [hb] at r2
      have R1 := Lib.hid r1
      have R2 := Lib.hid r2
      have R3 := Lib.hid r3
      have HM := Lib.hid (matchOf_both ha hb)
      have HG := Lib.hid (fun k => getOf_yes (k := k) ha)
      obtain ⟨A, c, rfl, hA⟩ := h2.form
      have HA := Lib.hid hA
      clear r1 r2 r3 ha hb hA h1 h2
      go_enter Tryz.func141, Tryz.ntmps141
      go_wp2_with fail
      refine R1.out.mono ?_
      rintro e w1 ⟨rfl, hb1⟩
      have hz1 := hb1.size
      go_wp2_with fail
      refine (R2.out w1 hb1).mono ?_
      rintro e w2 ⟨rfl, hb2⟩
      have hz2 := hb2.size
      have hB2 : Below w.heap.size w w2 := (by repeat' (first | exact Below.refl _ _ | refine Below.alloc ?_ ?_ _ | refine Below.setCell ?_ ?_ _ | refine Below.drew ?_ | (apply below_step; assumption) | (simp; done) | (simp; omega) | omega))
      go_wp2_with fail
      go_loopw [5] (fun s5 wr => ∃ (k : Nat), k ≤ b.length ∧ s5 = .int .i64 k ∧ hasAllOf a b = hasAllOf a (b.drop k) ∧ Below w.heap.size w wr) (fun s5 _ => (b.length - intOf s5).toNat)
      case atStart => exact ⟨0, by omega, rfl, by rw [List.drop_zero], hB2⟩
      case round =>
        obtain ⟨k, hk, rfl, hF, hB⟩ := hrel
        have HF := Lib.hid hF
        have hzr := hB.size
        clear hF
        by_cases hlt : k < b.length
        · obtain ⟨g, off, rfl, hbw, hat⟩ := HA.out (by omega)
          obtain ⟨r, hr⟩ : ∃ r, b[k]? = some r := ⟨_, List.getElem?_eq_getElem hlt⟩
          have HD := Lib.hid (drop_at hr)
          have hlti : (k : Int) < (b.length : Int) := by omega
          obtain ⟨q0, q1⟩ := (hat.below hB hbw) k r hr
          have HAT := Lib.hid hat
          have HRR := Lib.hid hr
          clear hat hr
          have r3 := R3.out r.k
          rw [HG.out] at r3
          cases hf : (findK a r.k).2
          · have HN := Lib.hid (hasAllOf_no1 (r := b.drop (k + 1)) hf)
            rw [show findK a r.k = ((findK a r.k).1, false) by rw [← hf]] at r3
            have R := Lib.hid r3
            generalize (findK a r.k).1 = z at R
            clear r3 hf
            go_wp2_with fail
            refine (R.out wr hB).mono ?_
            rintro e w3 ⟨rfl, hb3⟩
            have hz3 := hb3.size
            go_wp2_with fail
            go_ret
            rw [HM.out, HF.out, HD.out, HN.out]
            exact ⟨rfl, (by repeat' (first | exact Below.refl _ _ | refine Below.alloc ?_ ?_ _ | refine Below.setCell ?_ ?_ _ | refine Below.drew ?_ | (apply below_step; assumption) | (simp; done) | (simp; omega) | omega))⟩
          · by_cases hv : (findK a r.k).1 = r.v
            · have HN := Lib.hid (hasAllOf_yes (r := b.drop (k + 1)) hf hv)
              rw [show findK a r.k = (r.v, true) by rw [← hf, ← hv]] at r3
              have R := Lib.hid r3
              clear r3 hf hv
              go_wp2_with fail
              refine (R.out wr hB).mono ?_
              rintro e w3 ⟨rfl, hb3⟩
              have hz3 := hb3.size
              have hB3 : Below w.heap.size w w3 := (by repeat' (first | exact Below.refl _ _ | refine Below.alloc ?_ ?_ _ | refine Below.setCell ?_ ?_ _ | refine Below.drew ?_ | (apply below_step; assumption) | (simp; done) | (simp; omega) | omega))
              obtain ⟨p0, p1⟩ := (HAT.out.below hB3 hbw) k r HRR.out
              have hne : (r.v != r.v) = false := by simp
              go_wp2_with fail
              go_roundw
              case rel =>
                refine ⟨k + 1, by omega, by go_num, ?_, hB3⟩
                rw [HF.out, HD.out, HN.out]
              case measure => simp [intOf]; omega
            · have HN := Lib.hid (hasAllOf_no2 (r := b.drop (k + 1)) hv)
              rw [show findK a r.k = ((findK a r.k).1, true) by rw [← hf]] at r3
              have R := Lib.hid r3
              have HV := Lib.hid hv
              generalize (findK a r.k).1 = z at R HV
              clear r3 hf hv
              go_wp2_with fail
              refine (R.out wr hB).mono ?_
              rintro e w3 ⟨rfl, hb3⟩
              have hz3 := hb3.size
              have hB3 : Below w.heap.size w w3 := (by repeat' (first | exact Below.refl _ _ | refine Below.alloc ?_ ?_ _ | refine Below.setCell ?_ ?_ _ | refine Below.drew ?_ | (apply below_step; assumption) | (simp; done) | (simp; omega) | omega))
              obtain ⟨p0, p1⟩ := (HAT.out.below hB3 hbw) k r HRR.out
              have hne : (z != r.v) = true := by simpa using HV.out
              go_wp2_with fail
              go_ret
              rw [HM.out, HF.out, HD.out, HN.out]
              exact ⟨rfl, hB3⟩
        · have hkl : k = b.length := by omega
          have HX : Hid (hasAllOf a b = true) := by
            show _ = _
            rw [HF.out, hkl, List.drop_length]; rfl
          clear hkl
          go_wp2_with fail
          go_ret
          rw [HM.out, HX.out]
          exact ⟨rfl, hB⟩
end Go.Proofs.YtmkpajjnjgnmkabGreatDoor

namespace Go.Proofs.YtmkpajjnjgnmkabGreatDoor
open Go.RowKit

theorem sTaintsOk_long (A : Option Addr) (n c : Nat) (w : World) (h : 6 < n) (hm : n ≤ 1048576) :
    Calls Tryz.prog 126 #[.slice A n c] w fun e w' => e = .returned (.bool false) ∧ Below w.heap.size w w' := by
  have h6 : (6 : Int) < (n : Int) := by omega
  go_enter Tryz.func126, Tryz.ntmps126
  go_wp2_with fail
  go_ret
  exact ⟨rfl, (by repeat' (first | exact Below.refl _ _ | refine Below.alloc ?_ ?_ _ | refine Below.setCell ?_ ?_ _ | refine Below.drew ?_ | (apply below_step; assumption) | (simp; done) | (simp; omega) | omega))⟩

def lastT (l : List Int) (k : Nat) : Int := if k = 0 then -1 else l.getD (k - 1) 0
theorem tl_cons (z : Int) (r : List Int) : tl (z :: r) = ⟨z, 0⟩ :: tl r := rfl

set_option maxHeartbeats 3200000 in
theorem sTaintsOk_short (v : Value) (l : List Int) (w : World) (hv : IntSl w v l) (hlen : l.length ≤ 6) :
    Calls Tryz.prog 126 #[v] w fun e w' => e = .returned (.bool (labsOk (tl l))) ∧ Below w.heap.size w w' := by
  obtain ⟨A, c, rfl, hA⟩ := hv.form
  have HA := Lib.hid hA
  have HO := Lib.hid (labsOk_short (l := tl l) (by rw [tl_len]; exact hlen))
  clear hA hv
  have hl6 : (l.length : Int) ≤ 6 := by omega
  go_enter Tryz.func126, Tryz.ntmps126
  go_wp2_with fail
  go_loopw [3] (fun s3 wr => ∃ (k : Nat), k ≤ l.length ∧ s3 = .int .i64 k ∧ labsFrom (-1) (tl l) = labsFrom (lastT l k) (tl (l.drop k)) ∧ Below w.heap.size w wr) (fun s3 _ => (l.length - intOf s3).toNat)
  case atStart => exact ⟨0, by omega, rfl, by rw [List.drop_zero]; rfl, Below.refl _ _⟩
  case round =>
    obtain ⟨k, hk, rfl, hF, hB⟩ := hrel
    have HF := Lib.hid hF
    have hzr := hB.size
    clear hF
    by_cases hlt : k < l.length
    · obtain ⟨b, off, rfl, hbw, hat⟩ := HA.out (by omega)
      obtain ⟨r, hr⟩ : ∃ r, l[k]? = some r := ⟨_, List.getElem?_eq_getElem hlt⟩
      have HD := Lib.hid ((congrArg tl (dropI_at hr)).trans (tl_cons r _))
      have HN : Hid (lastT l (k + 1) = r) := by
        show _ = _
        simp [lastT, List.getD, hr]
      have q0 := (hat.below hB hbw) k r hr
      have hlti : (k : Int) < (l.length : Int) := by omega
      have hbr : b < wr.heap.size := by omega
      rcases (show r < 0 ∨ (0 ≤ r ∧ 9 < r) ∨ (0 ≤ r ∧ r ≤ 9) by omega) with g | g | g
      case inr.inr =>
        obtain ⟨g0, g1⟩ := g
        have HR : Hid (LV.ok ⟨r, 0⟩ = true) := LV.ok_iff.2 ⟨g0, g1, by simp, by simp⟩
        have b0 : decide (r < 0) = false := by simp; omega
        have b1 : decide (9 < r) = false := by simp; omega
        by_cases hk0 : k = 0
        · have HL : Hid (lastT l k < r) := by
            show _ < _
            rw [hk0]; simp [lastT]; omega
          have hkb : decide (0 < k) = false := by simp; omega
          clear hat hr hk0 g0 g1
          go_wp2_with fail
          go_quiet (fail)
          go_wp2_with fail
          go_roundw
          case rel =>
            refine ⟨k + 1, by omega, by go_num, ?_, (by repeat' (first | exact Below.refl _ _ | refine Below.alloc ?_ ?_ _ | refine Below.setCell ?_ ?_ _ | refine Below.drew ?_ | refine below_drewN ?_ _ | (apply below_step; assumption) | (simp; done) | (simp; omega) | omega))⟩
            rw [HF.out, HD.out, HN.out, labsFrom_yes HR.out HL.out]
          case measure => simp [intOf]; omega
        · obtain ⟨q, hq⟩ : ∃ q, l[k - 1]? = some q := ⟨_, List.getElem?_eq_getElem (by omega)⟩
          have p0 := (hat.below hB hbw) (k - 1) q hq
          have HL : Hid (lastT l k = q) := by
            show _ = _
            simp [lastT, List.getD, hq, hk0]
          have hkb : decide (0 < k) = true := by simp; omega
          have n1 : (0 : Int) ≤ (k : Int) - 1 := by omega
          have n2 : (1 : Int) ≤ (k : Int) := by omega
          have n3 : (k : Int) - 1 < (l.length : Int) := by omega
          have n4 : ((k : Int) - 1).toNat = k - 1 := by omega
          have n5 : IntKind.i64.wrap ((k : Int) - 1) = (k : Int) - 1 := IntWalk.i64_in _ (by omega)
          by_cases hle : r ≤ q
          · have HLE := Lib.hid hle
            have b4 : decide (r ≤ q) = true := by simpa using hle
            clear hat hr hk0 g0 g1 hq hle
            go_wp2_with fail
            go_quiet (fail)
            go_wp2_with fail
            have HX : Hid (labsOk (tl l) = false) := by
              show _ = _
              rw [HO.out, HF.out, HD.out, labsFrom_low (by rw [HL.out]; exact HLE.out)]
            go_ret
            rw [HX.out]
            exact ⟨rfl, (by repeat' (first | exact Below.refl _ _ | refine Below.alloc ?_ ?_ _ | refine Below.setCell ?_ ?_ _ | refine Below.drew ?_ | refine below_drewN ?_ _ | (apply below_step; assumption) | (simp; done) | (simp; omega) | omega))⟩
          · have HLE := Lib.hid (show q < r by omega)
            have b4 : decide (r ≤ q) = false := by simp; omega
            clear hat hr hk0 g0 g1 hq hle
            go_wp2_with fail
            go_quiet (fail)
            go_wp2_with fail
            clear n4 n5
            go_roundw
            case rel =>
              refine ⟨k + 1, by omega, by go_num, ?_, (by repeat' (first | exact Below.refl _ _ | refine Below.alloc ?_ ?_ _ | refine Below.setCell ?_ ?_ _ | refine Below.drew ?_ | refine below_drewN ?_ _ | (apply below_step; assumption) | (simp; done) | (simp; omega) | omega))⟩
              rw [HF.out, HD.out, HN.out, labsFrom_yes HR.out (by rw [HL.out]; exact HLE.out)]
            case measure => simp [intOf]; omega
      · have HR : Hid (LV.ok ⟨r, 0⟩ = false) := LV.bad_iff.2 (fun h => by have := h.1; simp at this; omega)
        have b0 : decide (r < 0) = true := by simp; omega
        clear hat hr g
        go_wp2_with fail
        go_quiet (fail)
        go_wp2_with fail
        have HX : Hid (labsOk (tl l) = false) := by
          show _ = _
          rw [HO.out, HF.out, HD.out, labsFrom_bad HR.out]
        go_ret
        rw [HX.out]
        exact ⟨rfl, (by repeat' (first | exact Below.refl _ _ | refine Below.alloc ?_ ?_ _ | refine Below.setCell ?_ ?_ _ | refine Below.drew ?_ | refine below_drewN ?_ _ | (apply below_step; assumption) | (simp; done) | (simp; omega) | omega))⟩
      · have HR : Hid (LV.ok ⟨r, 0⟩ = false) := LV.bad_iff.2 (fun h => by have := h.2.1; simp at this; omega)
        have b0 : decide (r < 0) = false := by simp; omega
        have b1 : decide (9 < r) = true := by simp; omega
        clear hat hr g
        go_wp2_with fail
        go_quiet (fail)
        go_wp2_with fail
        have HX : Hid (labsOk (tl l) = false) := by
          show _ = _
          rw [HO.out, HF.out, HD.out, labsFrom_bad HR.out]
        go_ret
        rw [HX.out]
        exact ⟨rfl, (by repeat' (first | exact Below.refl _ _ | refine Below.alloc ?_ ?_ _ | refine Below.setCell ?_ ?_ _ | refine Below.drew ?_ | refine below_drewN ?_ _ | (apply below_step; assumption) | (simp; done) | (simp; omega) | omega))⟩
    · have hkl : k = l.length := by omega
      have HX : Hid (labsOk (tl l) = true) := by
        show _ = _
        rw [HO.out, HF.out, hkl, List.drop_length]; rfl
      clear hkl
      go_wp2_with fail
      go_ret
      rw [HX.out]
      exact ⟨rfl, hB⟩
theorem sTaintsOk_any (v : Value) (l : List Int) (w : World) (hv : IntSl w v l) (hlen : l.length ≤ 1048576) :
    Calls Tryz.prog 126 #[v] w fun e w' => e = .returned (.bool (labsOk (tl l))) ∧ Below w.heap.size w w' := by
  by_cases h : l.length ≤ 6
  · exact sTaintsOk_short v l w hv h
  · obtain ⟨A, c, rfl, _⟩ := hv.form
    rw [labsOk_long (by rw [tl_len]; omega)]
    exact sTaintsOk_long A l.length c w (by omega) hlen

def inIntsL : List Int → Int → Bool
  | [], _ => false
  | y :: r, z => if y = z then true else inIntsL r z
theorem inIntsL_hit {y z : Int} {r : List Int} (h : y = z) : inIntsL (y :: r) z = true := by simp [inIntsL, h]
theorem inIntsL_miss {y z : Int} {r : List Int} (h : y ≠ z) : inIntsL (y :: r) z = inIntsL r z := by simp [inIntsL, h]
theorem find_tl (b : List Int) (z : Int) : findK (tl b) z = (0, inIntsL b z) := by
  induction b with
  | nil => rfl
  | cons y r ih =>
    rw [tl_cons]
    by_cases h : y = z
    · rw [findK_hit h, inIntsL_hit h]
    · rw [findK_miss h, inIntsL_miss h, ih]

set_option maxHeartbeats 1600000 in
theorem l02In_any (v : Value) (l : List Int) (z : Int) (w : World) (hv : IntSl w v l) (hlen : l.length ≤ 1048576) :
    Calls Tryz.prog 156 #[v, .int .i64 z] w fun e w' => e = .returned (.bool (inIntsL l z)) ∧ Below w.heap.size w w' := by
  obtain ⟨A, c, rfl, hA⟩ := hv.form
  have HA := Lib.hid hA
  clear hA hv
  go_enter Tryz.func156, Tryz.ntmps156
  go_wp2_with fail
  go_loopw [5] (fun s5 wr => ∃ (k : Nat), k ≤ l.length ∧ s5 = .int .i64 k ∧ inIntsL l z = inIntsL (l.drop k) z ∧ Below w.heap.size w wr) (fun s5 _ => (l.length - intOf s5).toNat)
  case atStart => exact ⟨0, by omega, rfl, by rw [List.drop_zero], Below.refl _ _⟩
  case round =>
    obtain ⟨k, hk, rfl, hF, hB⟩ := hrel
    have HF := Lib.hid hF
    have hzr := hB.size
    clear hF
    by_cases hlt : k < l.length
    · obtain ⟨b, off, rfl, hbw, hat⟩ := HA.out (by omega)
      obtain ⟨r, hr⟩ : ∃ r, l[k]? = some r := ⟨_, List.getElem?_eq_getElem hlt⟩
      have HD := Lib.hid (dropI_at hr)
      have hlti : (k : Int) < (l.length : Int) := by omega
      have q0 := (hat.below hB hbw) k r hr
      clear hat hr
      by_cases hkk : r = z
      · have HK := Lib.hid hkk
        have hkb : (r == z) = true := by simpa using hkk
        clear hkk
        go_wp2_with fail
        go_ret
        rw [HF.out, HD.out, inIntsL_hit HK.out]
        exact ⟨rfl, hB⟩
      · have HK := Lib.hid hkk
        have hkb : (r == z) = false := by simpa using hkk
        clear hkk
        go_wp2_with fail
        go_roundw
        case rel =>
          refine ⟨k + 1, by omega, by go_num, ?_, hB⟩
          rw [HF.out, HD.out, inIntsL_miss HK.out]
        case measure => simp [intOf]; omega
    · have hkl : k = l.length := by omega
      have HX : Hid (inIntsL l z = false) := by
        show _ = _
        rw [HF.out, hkl, List.drop_length]; rfl
      clear hkl
      go_wp2_with fail
      go_ret
      rw [HX.out]
      exact ⟨rfl, hB⟩

theorem tolHas_yes {b r : List Int} {z : Int} (h : inIntsL b z = true) : hasAllOf (tl b) (tl (z :: r)) = hasAllOf (tl b) (tl r) := by
  rw [tl_cons, hasAllOf_yes (by rw [find_tl]; exact h) (by rw [find_tl])]
theorem tolHas_no {b r : List Int} {z : Int} (h : inIntsL b z = false) : hasAllOf (tl b) (tl (z :: r)) = false := by
  rw [tl_cons, hasAllOf_no1 (by rw [find_tl]; exact h)]

set_option maxHeartbeats 1600000 in
theorem sTolerates_any (v1 v2 : Value) (a b : List Int) (w : World) (h1 : IntSl w v1 a) (h2 : IntSl w v2 b) (hl1 : a.length ≤ 1048576) (hl2 : b.length ≤ 1048576) :
    Calls Tryz.prog 142 #[v1, v2] w fun e w' => e = .returned (.bool (tolOf a b)) ∧ Below w.heap.size w w' := by
  have r1 := sTaintsOk_any v1 a w h1 hl1
  have r2 := fun w1 (hb : Below w.heap.size w w1) => sTaintsOk_any v2 b w1 (h2.below hb) hl2
  have r3 := fun z w1 (hb : Below w.heap.size w w1) => l02In_any v2 b z w1 (h2.below hb) hl2
  unfold tolOf
  cases ha : labsOk (tl a)
  · rw [ha] at r1
    have R1 := Lib.hid r1
    have HM := Lib.hid (matchOf_no2 (a := tl b) ha)
    clear r1 r2 r3 ha h1 h2
    go_enter Tryz.func142, Tryz.ntmps142
    go_wp2_with fail
    refine R1.out.mono ?_
    rintro e w1 ⟨rfl, hb1⟩
    have hz1 := hb1.size
    go_wp2_with fail
    go_ret
    rw [HM.out]
    exact ⟨rfl, hb1⟩
  · rw [ha] at r1
    cases hb : labsOk (tl b)
    · rw [hb] at r2
      have R1 := Lib.hid r1
      have R2 := Lib.hid r2
      have HM := Lib.hid (matchOf_no1 (b := tl a) hb)
      clear r1 r2 r3 ha hb h1 h2
      go_enter Tryz.func142, Tryz.ntmps142
      go_wp2_with fail
      refine R1.out.mono ?_
      rintro e w1 ⟨rfl, hb1⟩
      have hz1 := hb1.size
      go_wp2_with fail
      refine (R2.out w1 hb1).mono ?_
      rintro e w2 ⟨rfl, hb2⟩
      have hz2 := hb2.size
      go_wp2_with fail
      go_ret
      rw [HM.out]
      exact ⟨rfl, (by repeat' (first | exact Below.refl _ _ | refine Below.alloc ?_ ?_ _ | refine Below.setCell ?_ ?_ _ | refine Below.drew ?_ | (apply below_step; assumption) | (simp; done) | (simp; omega) | omega))⟩
    · rw [hb] at r2
      have R1 := Lib.hid r1
      have R2 := Lib.hid r2
      have R3 := Lib.hid r3
      have HM := Lib.hid (matchOf_both hb ha)
      obtain ⟨A, c, rfl, hA⟩ := h1.form
      have HA := Lib.hid hA
      clear r1 r2 r3 ha hb hA h1 h2
      go_enter Tryz.func142, Tryz.ntmps142
      go_wp2_with fail
      refine R1.out.mono ?_
      rintro e w1 ⟨rfl, hb1⟩
      have hz1 := hb1.size
      go_wp2_with fail
      refine (R2.out w1 hb1).mono ?_
      rintro e w2 ⟨rfl, hb2⟩
      have hz2 := hb2.size
      have hB2 : Below w.heap.size w w2 := (by repeat' (first | exact Below.refl _ _ | refine Below.alloc ?_ ?_ _ | refine Below.setCell ?_ ?_ _ | refine Below.drew ?_ | (apply below_step; assumption) | (simp; done) | (simp; omega) | omega))
      go_wp2_with fail
      go_loopw [5] (fun s5 wr => ∃ (k : Nat), k ≤ a.length ∧ s5 = .int .i64 k ∧ hasAllOf (tl b) (tl a) = hasAllOf (tl b) (tl (a.drop k)) ∧ Below w.heap.size w wr) (fun s5 _ => (a.length - intOf s5).toNat)
      case atStart => exact ⟨0, by omega, rfl, by rw [List.drop_zero], hB2⟩
      case round =>
        obtain ⟨k, hk, rfl, hF, hB⟩ := hrel
        have HF := Lib.hid hF
        have hzr := hB.size
        clear hF
        by_cases hlt : k < a.length
        · obtain ⟨g, off, rfl, hbw, hat⟩ := HA.out (by omega)
          obtain ⟨r, hr⟩ : ∃ r, a[k]? = some r := ⟨_, List.getElem?_eq_getElem hlt⟩
          have HD := Lib.hid (dropI_at hr)
          have hlti : (k : Int) < (a.length : Int) := by omega
          have q0 := (hat.below hB hbw) k r hr
          clear hat hr
          have r3 := R3.out r
          cases hf : inIntsL b r
          · rw [hf] at r3
            have HN := Lib.hid (tolHas_no (r := a.drop (k + 1)) hf)
            have R := Lib.hid r3
            clear r3 hf
            go_wp2_with fail
            refine (R.out wr hB).mono ?_
            rintro e w3 ⟨rfl, hb3⟩
            have hz3 := hb3.size
            go_wp2_with fail
            go_ret
            rw [HM.out, HF.out, HD.out, HN.out]
            exact ⟨rfl, (by repeat' (first | exact Below.refl _ _ | refine Below.alloc ?_ ?_ _ | refine Below.setCell ?_ ?_ _ | refine Below.drew ?_ | (apply below_step; assumption) | (simp; done) | (simp; omega) | omega))⟩
          · rw [hf] at r3
            have HN := Lib.hid (tolHas_yes (r := a.drop (k + 1)) hf)
            have R := Lib.hid r3
            clear r3 hf
            go_wp2_with fail
            refine (R.out wr hB).mono ?_
            rintro e w3 ⟨rfl, hb3⟩
            have hz3 := hb3.size
            have hB3 : Below w.heap.size w w3 := (by repeat' (first | exact Below.refl _ _ | refine Below.alloc ?_ ?_ _ | refine Below.setCell ?_ ?_ _ | refine Below.drew ?_ | (apply below_step; assumption) | (simp; done) | (simp; omega) | omega))
            go_wp2_with fail
            go_roundw
            case rel =>
              refine ⟨k + 1, by omega, by go_num, ?_, hB3⟩
              rw [HF.out, HD.out, HN.out]
            case measure => simp [intOf]; omega
        · have hkl : k = a.length := by omega
          have HX : Hid (hasAllOf (tl b) (tl a) = true) := by
            show _ = _
            rw [HF.out, hkl, List.drop_length]; rfl
          clear hkl
          go_wp2_with fail
          go_ret
          rw [HM.out, HX.out]
          exact ⟨rfl, hB⟩
end Go.Proofs.YtmkpajjnjgnmkabGreatDoor

namespace Go.Proofs.YtmkpajjnjgnmkabGreatDoor
open Go.RowKit

theorem sId_any (n : Int) (w : World) : Calls Tryz.prog 94 #[.int .i64 n] w fun e w' => e = .returned (.bool (idOk n)) ∧ w = w' := by
  by_cases h1 : 1 ≤ n
  · by_cases h2 : n ≤ 99
    · have H := Lib.hid (idOk_iff.2 ⟨h1, h2⟩)
      go_enter Tryz.func94, Tryz.ntmps94
      go_wp2
      go_ret
      exact ⟨by rw [H.out]; simp, rfl⟩
    · have H := Lib.hid (idBad_iff.2 (fun h => h2 h.2))
      have h3 : 99 < n := by omega
      clear h2
      go_enter Tryz.func94, Tryz.ntmps94
      go_wp2
      go_ret
      exact ⟨by rw [H.out]; simp; omega, rfl⟩
  · have H := Lib.hid (idBad_iff.2 (fun h => h1 h.1))
    have h2 : n < 1 := by omega
    clear h1
    go_enter Tryz.func94, Tryz.ntmps94
    go_wp2
    go_ret
    exact ⟨by rw [H.out]; rfl, rfl⟩

set_option maxHeartbeats 1600000 in
theorem sTaskOk_any (t : TV) (v1 v2 : Value) (w : World) (h1 : LabSl w v1 t.want) (h2 : IntSl w v2 t.tols) (l1 : t.want.length ≤ 1048576) (l2 : t.tols.length ≤ 1048576) :
    Calls Tryz.prog 88 #[.agg #[.int .i64 t.id, .int .i64 t.prio, .int .i64 t.need.c, .int .i64 t.need.m, .int .i64 t.need.p, v1, v2]] w fun e w' => e = .returned (.bool t.ok) ∧ Below w.heap.size w w' := by
  have HL := Lib.hid h1
  have HI := Lib.hid h2
  have HE := Lib.hid (tv_ok_eq t)
  have hid := sId_any t.id
  have hne : ∀ w, Calls Tryz.prog 124 #[.agg #[.int .i64 t.need.c, .int .i64 t.need.m, .int .i64 t.need.p]] w fun e w' => e = .returned (.bool t.need.ok) ∧ Below w.heap.size w w' := fun w => sResOk_any t.need w
  have hla : ∀ w (h : LabSl w v1 t.want), Calls Tryz.prog 125 #[v1] w fun e w' => e = .returned (.bool (labsOk t.want)) ∧ Below w.heap.size w w' := fun w h => sLabsOk_any v1 t.want w h l1
  have hta : ∀ w (h : IntSl w v2 t.tols), Calls Tryz.prog 126 #[v2] w fun e w' => e = .returned (.bool (labsOk (tl t.tols))) ∧ Below w.heap.size w w' := fun w h => sTaintsOk_any v2 t.tols w h l2
  generalize t.ok = ok at *
  generalize e1 : idOk t.id = b1 at hid
  generalize e2 : decide (0 ≤ t.prio) = b2
  generalize e3 : decide (t.prio ≤ 9) = b3
  generalize e4 : t.need.ok = b4 at hne
  generalize e5 : labsOk t.want = b5 at hla
  generalize e6 : labsOk (tl t.tols) = b6 at hta
  have HE' := Lib.hid (HE.out _ _ _ _ _ _ e1 e2 e3 e4 e5 e6)
  have HID := Lib.hid hid
  have HNE := Lib.hid hne
  have HLA := Lib.hid hla
  have HTA := Lib.hid hta
  clear h1 h2 hid hne hla hta e1 e4 e5 e6 HE l1 l2
  go_enter Tryz.func88, Tryz.ntmps88
  go_wp2_with fail
  refine (HID.out _).mono ?_
  rintro e w1 ⟨rfl, rfl⟩
  cases b1
  · go_wp2_with fail
    go_ret
    exact ⟨by rw [HE'.out]; simp, (by repeat' (first | exact Below.refl _ _ | refine Below.alloc ?_ ?_ _ | refine Below.setCell ?_ ?_ _ | refine Below.drew ?_ | (apply below_step; assumption) | (simp; done) | (simp; omega) | omega))⟩
  cases b2
  · go_wp2_with fail
    go_ret
    exact ⟨by rw [HE'.out]; simp, (by repeat' (first | exact Below.refl _ _ | refine Below.alloc ?_ ?_ _ | refine Below.setCell ?_ ?_ _ | refine Below.drew ?_ | (apply below_step; assumption) | (simp; done) | (simp; omega) | omega))⟩
  cases b3
  · go_wp2_with fail
    go_ret
    exact ⟨by rw [HE'.out]; simp, (by repeat' (first | exact Below.refl _ _ | refine Below.alloc ?_ ?_ _ | refine Below.setCell ?_ ?_ _ | refine Below.drew ?_ | (apply below_step; assumption) | (simp; done) | (simp; omega) | omega))⟩
  go_wp2_with fail
  refine (HNE.out _).mono ?_
  rintro e w2 ⟨rfl, hb2⟩
  have hz2 := hb2.size
  simp at hz2
  obtain ⟨hc2, hf2⟩ := bcell hb2
  have hC2 : Below w.heap.size w w2 := ((Below.refl _ _).alloc (Nat.le_refl _) _).trans (hb2.mono (by simp))
  cases b4
  · go_wp2_with fail
    go_ret
    exact ⟨by rw [HE'.out]; simp, hC2⟩
  go_wp2_with fail
  refine (HLA.out _ (HL.out.below hC2)).mono ?_
  rintro e w3 ⟨rfl, hb3⟩
  have hz3 := hb3.size
  obtain ⟨hc3, hf3⟩ := bcell hb3
  have hs2 : w.heap.size < w2.heap.size := by omega
  have hC3 : Below w.heap.size w w3 := hC2.trans (hb3.mono hC2.size)
  cases b5
  · go_wp2_with fail
    go_ret
    exact ⟨by rw [HE'.out]; simp, hC3⟩
  go_wp2_with fail
  refine (HTA.out _ (HI.out.below hC3)).mono ?_
  rintro e w4 ⟨rfl, hb4⟩
  have hC4 : Below w.heap.size w w4 := hC3.trans (hb4.mono hC3.size)
  go_wp2_with fail
  go_ret
  exact ⟨by rw [HE'.out]; simp, hC4⟩
set_option maxHeartbeats 1600000 in
theorem sNodeOk_any (t : NV) (v1 v2 : Value) (w : World) (h1 : LabSl w v1 t.labs) (h2 : IntSl w v2 t.taints) (l1 : t.labs.length ≤ 1048576) (l2 : t.taints.length ≤ 1048576) :
    Calls Tryz.prog 90 #[.agg #[.int .i64 t.id, .int .i64 t.pool, .int .i64 t.cap.c, .int .i64 t.cap.m, .int .i64 t.cap.p, v1, v2, .bool t.cordon]] w fun e w' => e = .returned (.bool t.ok) ∧ Below w.heap.size w w' := by
  have HL := Lib.hid h1
  have HI := Lib.hid h2
  have HE := Lib.hid (nv_ok_eq t)
  have hid := sId_any t.id
  have hne : ∀ w, Calls Tryz.prog 124 #[.agg #[.int .i64 t.cap.c, .int .i64 t.cap.m, .int .i64 t.cap.p]] w fun e w' => e = .returned (.bool t.cap.ok) ∧ Below w.heap.size w w' := fun w => sResOk_any t.cap w
  have hla : ∀ w (h : LabSl w v1 t.labs), Calls Tryz.prog 125 #[v1] w fun e w' => e = .returned (.bool (labsOk t.labs)) ∧ Below w.heap.size w w' := fun w h => sLabsOk_any v1 t.labs w h l1
  have hta : ∀ w (h : IntSl w v2 t.taints), Calls Tryz.prog 126 #[v2] w fun e w' => e = .returned (.bool (labsOk (tl t.taints))) ∧ Below w.heap.size w w' := fun w h => sTaintsOk_any v2 t.taints w h l2
  generalize t.ok = ok at *
  generalize e1 : idOk t.id = b1 at hid
  generalize e2 : decide (0 ≤ t.pool) = b2
  generalize e3 : decide (t.pool < 5) = b3
  generalize e4 : t.cap.ok = b4 at hne
  generalize e5 : labsOk t.labs = b5 at hla
  generalize e6 : labsOk (tl t.taints) = b6 at hta
  have HE' := Lib.hid (HE.out _ _ _ _ _ _ e1 e2 e3 e4 e5 e6)
  have HID := Lib.hid hid
  have HNE := Lib.hid hne
  have HLA := Lib.hid hla
  have HTA := Lib.hid hta
  clear h1 h2 hid hne hla hta e1 e4 e5 e6 HE l1 l2
  go_enter Tryz.func90, Tryz.ntmps90
  go_wp2_with fail
  refine (HID.out _).mono ?_
  rintro e w1 ⟨rfl, rfl⟩
  cases b1
  · go_wp2_with fail
    go_ret
    exact ⟨by rw [HE'.out]; simp, (by repeat' (first | exact Below.refl _ _ | refine Below.alloc ?_ ?_ _ | refine Below.setCell ?_ ?_ _ | refine Below.drew ?_ | (apply below_step; assumption) | (simp; done) | (simp; omega) | omega))⟩
  cases b2
  · go_wp2_with fail
    go_ret
    exact ⟨by rw [HE'.out]; simp, (by repeat' (first | exact Below.refl _ _ | refine Below.alloc ?_ ?_ _ | refine Below.setCell ?_ ?_ _ | refine Below.drew ?_ | (apply below_step; assumption) | (simp; done) | (simp; omega) | omega))⟩
  cases b3
  · go_wp2_with fail
    go_ret
    exact ⟨by rw [HE'.out]; simp, (by repeat' (first | exact Below.refl _ _ | refine Below.alloc ?_ ?_ _ | refine Below.setCell ?_ ?_ _ | refine Below.drew ?_ | (apply below_step; assumption) | (simp; done) | (simp; omega) | omega))⟩
  go_wp2_with fail
  refine (HNE.out _).mono ?_
  rintro e w2 ⟨rfl, hb2⟩
  have hz2 := hb2.size
  simp at hz2
  obtain ⟨hc2, hf2⟩ := bcell hb2
  have hC2 : Below w.heap.size w w2 := ((Below.refl _ _).alloc (Nat.le_refl _) _).trans (hb2.mono (by simp))
  cases b4
  · go_wp2_with fail
    go_ret
    exact ⟨by rw [HE'.out]; simp, hC2⟩
  go_wp2_with fail
  refine (HLA.out _ (HL.out.below hC2)).mono ?_
  rintro e w3 ⟨rfl, hb3⟩
  have hz3 := hb3.size
  obtain ⟨hc3, hf3⟩ := bcell hb3
  have hs2 : w.heap.size < w2.heap.size := by omega
  have hC3 : Below w.heap.size w w3 := hC2.trans (hb3.mono hC2.size)
  cases b5
  · go_wp2_with fail
    go_ret
    exact ⟨by rw [HE'.out]; simp, hC3⟩
  go_wp2_with fail
  refine (HTA.out _ (HI.out.below hC3)).mono ?_
  rintro e w4 ⟨rfl, hb4⟩
  have hC4 : Below w.heap.size w w4 := hC3.trans (hb4.mono hC3.size)
  go_wp2_with fail
  go_ret
  exact ⟨by rw [HE'.out]; simp, hC4⟩


theorem hosts_eq (n : NV) (t : TV) (b3 b4 : Bool) (h3 : matchOf n.labs t.want = b3) (h4 : tolOf n.taints t.tols = b4) : hosts n t = (b3 && b4) := by
  subst h3 h4; rfl
set_option maxHeartbeats 1600000 in
theorem sHosts_any (n : NV) (t : TV) (u1 u2 v1 v2 : Value) (w : World) (k1 : LabSl w u1 n.labs) (k2 : IntSl w u2 n.taints) (h1 : LabSl w v1 t.want) (h2 : IntSl w v2 t.tols)
    (m1 : n.labs.length ≤ 1048576) (m2 : n.taints.length ≤ 1048576) (l1 : t.want.length ≤ 1048576) (l2 : t.tols.length ≤ 1048576) :
    Calls Tryz.prog 127 #[.agg #[.int .i64 n.id, .int .i64 n.pool, .int .i64 n.cap.c, .int .i64 n.cap.m, .int .i64 n.cap.p, u1, u2, .bool n.cordon], .agg #[.int .i64 t.id, .int .i64 t.prio, .int .i64 t.need.c, .int .i64 t.need.m, .int .i64 t.need.p, v1, v2]] w fun e w' => e = .returned (.bool (hosts n t)) ∧ Below w.heap.size w w' := by
  have K1 := Lib.hid k1
  have K2 := Lib.hid k2
  have H1 := Lib.hid h1
  have H2 := Lib.hid h2
  have hla : ∀ w (k : LabSl w u1 n.labs) (h : LabSl w v1 t.want), Calls Tryz.prog 141 #[u1, v1] w fun e w' => e = .returned (.bool (matchOf n.labs t.want)) ∧ Below w.heap.size w w' := fun w k h => sLabsMatch_any u1 v1 n.labs t.want w k h m1 l1
  have hta : ∀ w (k : IntSl w u2 n.taints) (h : IntSl w v2 t.tols), Calls Tryz.prog 142 #[u2, v2] w fun e w' => e = .returned (.bool (tolOf n.taints t.tols)) ∧ Below w.heap.size w w' := fun w k h => sTolerates_any u2 v2 n.taints t.tols w k h m2 l2
  have HE := Lib.hid (hosts_eq n t)
  generalize hosts n t = ok at *
  generalize e3 : matchOf n.labs t.want = b3 at hla
  generalize e4 : tolOf n.taints t.tols = b4 at hta
  have HE' := Lib.hid (HE.out _ _ e3 e4)
  have HLA := Lib.hid hla
  have HTA := Lib.hid hta
  clear k1 k2 h1 h2 hla hta e3 e4 HE m1 m2 l1 l2
  go_enter Tryz.func127, Tryz.ntmps127
  go_wp2_with fail
  have hC0 : Below w.heap.size w ((w.alloc (.cells #[.int .i64 n.id, .int .i64 n.pool, .int .i64 n.cap.c, .int .i64 n.cap.m, .int .i64 n.cap.p, u1, u2, .bool n.cordon] 61)).alloc (.cells #[.int .i64 t.id, .int .i64 t.prio, .int .i64 t.need.c, .int .i64 t.need.m, .int .i64 t.need.p, v1, v2] 119)) := (by repeat' (first | exact Below.refl _ _ | refine Below.alloc ?_ ?_ _ | refine Below.setCell ?_ ?_ _ | refine Below.drew ?_ | (apply below_step; assumption) | (simp; done) | (simp; omega) | omega))
  refine (HLA.out _ (K1.out.below hC0) (H1.out.below hC0)).mono ?_
  rintro e w1 ⟨rfl, hb1⟩
  have hz1 := hb1.size
  simp at hz1
  obtain ⟨hc1, hf1⟩ := bcell hb1
  have hC1 : Below w.heap.size w w1 := hC0.trans (hb1.mono hC0.size)
  cases b3
  · go_wp2_with fail
    go_ret
    exact ⟨by rw [HE'.out]; simp, hC1⟩
  go_wp2_with fail
  refine (HTA.out _ (K2.out.below hC1) (H2.out.below hC1)).mono ?_
  rintro e w2 ⟨rfl, hb2⟩
  have hC2 : Below w.heap.size w w2 := hC1.trans (hb2.mono hC1.size)
  go_wp2_with fail
  go_ret
  exact ⟨by rw [HE'.out]; simp, hC2⟩

theorem sch_eq (n : NV) (t : TV) (b1 b2 b3 : Bool) (h1 : n.ok = b1) (h2 : t.ok = b2) (h3 : hosts n t = b3) : canHost n t = (b1 && b2 && b3) := by
  subst h1 h2 h3; rfl
set_option maxHeartbeats 1600000 in
theorem sCanHost_any (n : NV) (t : TV) (u1 u2 v1 v2 : Value) (w : World) (k1 : LabSl w u1 n.labs) (k2 : IntSl w u2 n.taints) (h1 : LabSl w v1 t.want) (h2 : IntSl w v2 t.tols)
    (m1 : n.labs.length ≤ 1048576) (m2 : n.taints.length ≤ 1048576) (l1 : t.want.length ≤ 1048576) (l2 : t.tols.length ≤ 1048576) :
    Calls Tryz.prog 91 #[.agg #[.int .i64 n.id, .int .i64 n.pool, .int .i64 n.cap.c, .int .i64 n.cap.m, .int .i64 n.cap.p, u1, u2, .bool n.cordon], .agg #[.int .i64 t.id, .int .i64 t.prio, .int .i64 t.need.c, .int .i64 t.need.m, .int .i64 t.need.p, v1, v2]] w fun e w' => e = .returned (.bool (canHost n t)) ∧ Below w.heap.size w w' := by
  have K1 := Lib.hid k1
  have K2 := Lib.hid k2
  have H1 := Lib.hid h1
  have H2 := Lib.hid h2
  have hn : ∀ w (h1 : LabSl w u1 n.labs) (h2 : IntSl w u2 n.taints), Calls Tryz.prog 90 #[.agg #[.int .i64 n.id, .int .i64 n.pool, .int .i64 n.cap.c, .int .i64 n.cap.m, .int .i64 n.cap.p, u1, u2, .bool n.cordon]] w fun e w' => e = .returned (.bool n.ok) ∧ Below w.heap.size w w' := fun w h1 h2 => sNodeOk_any n u1 u2 w h1 h2 m1 m2
  have ht : ∀ w (h1 : LabSl w v1 t.want) (h2 : IntSl w v2 t.tols), Calls Tryz.prog 88 #[.agg #[.int .i64 t.id, .int .i64 t.prio, .int .i64 t.need.c, .int .i64 t.need.m, .int .i64 t.need.p, v1, v2]] w fun e w' => e = .returned (.bool t.ok) ∧ Below w.heap.size w w' := fun w h1 h2 => sTaskOk_any t v1 v2 w h1 h2 l1 l2
  have hh : ∀ w (k1 : LabSl w u1 n.labs) (k2 : IntSl w u2 n.taints) (h1 : LabSl w v1 t.want) (h2 : IntSl w v2 t.tols), Calls Tryz.prog 127 #[.agg #[.int .i64 n.id, .int .i64 n.pool, .int .i64 n.cap.c, .int .i64 n.cap.m, .int .i64 n.cap.p, u1, u2, .bool n.cordon], .agg #[.int .i64 t.id, .int .i64 t.prio, .int .i64 t.need.c, .int .i64 t.need.m, .int .i64 t.need.p, v1, v2]] w fun e w' => e = .returned (.bool (hosts n t)) ∧ Below w.heap.size w w' := fun w k1 k2 h1 h2 => sHosts_any n t u1 u2 v1 v2 w k1 k2 h1 h2 m1 m2 l1 l2
  have HE := Lib.hid (sch_eq n t)
  generalize canHost n t = ok at *
  generalize e1 : n.ok = b1 at hn
  generalize e2 : t.ok = b2 at ht
  generalize e3 : hosts n t = b3 at hh
  have HE' := Lib.hid (HE.out _ _ _ e1 e2 e3)
  have HN := Lib.hid hn
  have HT := Lib.hid ht
  have HH := Lib.hid hh
  clear k1 k2 h1 h2 hn ht hh e1 e2 e3 HE m1 m2 l1 l2
  go_enter Tryz.func91, Tryz.ntmps91
  go_wp2_with fail
  have hC0 : Below w.heap.size w ((w.alloc (.cells #[.int .i64 n.id, .int .i64 n.pool, .int .i64 n.cap.c, .int .i64 n.cap.m, .int .i64 n.cap.p, u1, u2, .bool n.cordon] 61)).alloc (.cells #[.int .i64 t.id, .int .i64 t.prio, .int .i64 t.need.c, .int .i64 t.need.m, .int .i64 t.need.p, v1, v2] 119)) := (by repeat' (first | exact Below.refl _ _ | refine Below.alloc ?_ ?_ _ | refine Below.setCell ?_ ?_ _ | refine Below.drew ?_ | (apply below_step; assumption) | (simp; done) | (simp; omega) | omega))
  refine (HT.out _ (H1.out.below hC0) (H2.out.below hC0)).mono ?_
  rintro e w1 ⟨rfl, hb1⟩
  have hz1 := hb1.size
  simp at hz1
  obtain ⟨hc1, hf1⟩ := bcell hb1
  have hC1 : Below w.heap.size w w1 := hC0.trans (hb1.mono hC0.size)
  cases b2
  · go_wp2_with fail
    go_ret
    exact ⟨by rw [HE'.out]; simp, hC1⟩
  go_wp2_with fail
  refine (HN.out _ (K1.out.below hC1) (K2.out.below hC1)).mono ?_
  rintro e w2 ⟨rfl, hb2⟩
  have hz2 := hb2.size
  obtain ⟨hc2, hf2⟩ := bcell hb2
  have hs1 : w.heap.size < w1.heap.size := by omega
  have hs1' : w.heap.size + 1 < w1.heap.size := by omega
  have hC2 : Below w.heap.size w w2 := hC1.trans (hb2.mono hC1.size)
  cases b1
  · go_wp2_with fail
    go_ret
    exact ⟨by rw [HE'.out]; simp, hC2⟩
  go_wp2_with fail
  refine (HH.out _ (K1.out.below hC2) (K2.out.below hC2) (H1.out.below hC2) (H2.out.below hC2)).mono ?_
  rintro e w3 ⟨rfl, hb3⟩
  have hC3 : Below w.heap.size w w3 := hC2.trans (hb3.mono hC2.size)
  go_wp2_with fail
  go_ret
  exact ⟨by rw [HE'.out]; simp, hC3⟩
end Go.Proofs.YtmkpajjnjgnmkabGreatDoor

namespace Go.Proofs.YtmkpajjnjgnmkabGreatDoor
open Go.RowKit

structure PV where
  id : Int
  min : Int
  max : Int
  prio : Int
  shape : NV
def PV.zero : PV := ⟨0, 0, 0, 0, NV.zero⟩
def PV.ok (p : PV) : Bool := decide (0 ≤ p.id) && decide (p.id < 5) && decide (0 ≤ p.min) && decide (p.min ≤ p.max) && decide (p.max ≤ 20) && decide (0 ≤ p.prio) && decide (p.prio ≤ 9) && p.shape.ok && (p.shape.id == 1) && (p.shape.pool == p.id) && !p.shape.cordon
theorem pv_ok_eq (p : PV) (b1 b2 b3 b4 b5 b6 b7 b8 b9 ba bb : Bool) (h1 : decide (0 ≤ p.id) = b1) (h2 : decide (p.id < 5) = b2) (h3 : decide (0 ≤ p.min) = b3) (h4 : decide (p.min ≤ p.max) = b4) (h5 : decide (p.max ≤ 20) = b5) (h6 : decide (0 ≤ p.prio) = b6) (h7 : decide (p.prio ≤ 9) = b7) (h8 : p.shape.ok = b8) (h9 : (p.shape.id == 1) = b9) (ha : (p.shape.pool == p.id) = ba) (hb : p.shape.cordon = bb) :
    p.ok = (b1 && b2 && b3 && b4 && b5 && b6 && b7 && b8 && b9 && ba && !bb) := by
  subst h1 h2 h3 h4 h5 h6 h7 h8 h9 ha hb; rfl
def PoolR (w : World) (t : PV) (cs : List Value) : Prop := ∃ v1 v2, cs = [.int .i64 t.id, .int .i64 t.min, .int .i64 t.max, .int .i64 t.prio, .int .i64 t.shape.id, .int .i64 t.shape.pool, .int .i64 t.shape.cap.c, .int .i64 t.shape.cap.m, .int .i64 t.shape.cap.p, v1, v2, .bool t.shape.cordon] ∧ LabSl w v1 t.shape.labs ∧ IntSl w v2 t.shape.taints ∧ t.shape.labs.length ≤ 1048576 ∧ t.shape.taints.length ≤ 1048576
theorem PoolR.kept : Kept PoolR := fun _ _ _ _ hb ⟨v1, v2, e, h1, h2, h3⟩ => ⟨v1, v2, e, h1.below hb, h2.below hb, h3⟩
def PoolSl (w : World) (v : Value) (l : List PV) : Prop := GSl PoolR 12 w v l
theorem PoolSl.below {w w' : World} {v : Value} {l : List PV} (h : PoolSl w v l) (hb : Below w.heap.size w w') : PoolSl w' v l := GSl.below PoolR.kept h hb
theorem PoolSl.form {w : World} {v : Value} {l : List PV} (h : PoolSl w v l) : ∃ A c, v = .slice A l.length c ∧ (0 < l.length → ∃ b off, A = some ⟨b, off, none⟩ ∧ b < w.heap.size ∧ SeqAt PoolR 12 w b off l) := GSl.form h
theorem pool_cells {w : World} {b o : Nat} {u0 u1 u2 u3 u4 u5 u6 u7 u8 u9 u10 u11 : Value} (h : CellsAt w b o [u0, u1, u2, u3, u4, u5, u6, u7, u8, u9, u10, u11]) : w.cell? ⟨b, o, none⟩ = some u0 ∧ w.cell? ⟨b, o + 1, none⟩ = some u1 ∧ w.cell? ⟨b, o + 2, none⟩ = some u2 ∧ w.cell? ⟨b, o + 3, none⟩ = some u3 ∧ w.cell? ⟨b, o + 4, none⟩ = some u4 ∧ w.cell? ⟨b, o + 5, none⟩ = some u5 ∧ w.cell? ⟨b, o + 6, none⟩ = some u6 ∧ w.cell? ⟨b, o + 7, none⟩ = some u7 ∧ w.cell? ⟨b, o + 8, none⟩ = some u8 ∧ w.cell? ⟨b, o + 9, none⟩ = some u9 ∧ w.cell? ⟨b, o + 10, none⟩ = some u10 ∧ w.cell? ⟨b, o + 11, none⟩ = some u11 :=
  ⟨h 0 _ rfl, h 1 _ rfl, h 2 _ rfl, h 3 _ rfl, h 4 _ rfl, h 5 _ rfl, h 6 _ rfl, h 7 _ rfl, h 8 _ rfl, h 9 _ rfl, h 10 _ rfl, h 11 _ rfl⟩
set_option maxHeartbeats 1600000 in
theorem PoolOk_any (p : PV) (v1 v2 : Value) (w : World) (x : Addr) (hg : ErrAt x w) (h1 : LabSl w v1 p.shape.labs) (h2 : IntSl w v2 p.shape.taints) (l1 : p.shape.labs.length ≤ 1048576) (l2 : p.shape.taints.length ≤ 1048576) :
    Calls Tryz.prog 105 #[.agg #[.int .i64 p.id, .int .i64 p.min, .int .i64 p.max, .int .i64 p.prio, .int .i64 p.shape.id, .int .i64 p.shape.pool, .int .i64 p.shape.cap.c, .int .i64 p.shape.cap.m, .int .i64 p.shape.cap.p, v1, v2, .bool p.shape.cordon]] w fun e w' => e = .returned (.bool p.ok) ∧ Below w.heap.size w w' := by
  have HL := Lib.hid h1
  have HI := Lib.hid h2
  have HE := Lib.hid (pv_ok_eq p)
  have HG := Lib.hid hg
  have hno := fun w hg a b => NodeOk_any p.shape v1 v2 w x hg a b l1 l2
  generalize p.ok = ok at *
  generalize e1 : decide (0 ≤ p.id) = b1
  generalize e2 : decide (p.id < 5) = b2
  generalize e3 : decide (0 ≤ p.min) = b3
  generalize e4 : decide (p.min ≤ p.max) = b4
  generalize e5 : decide (p.max ≤ 20) = b5
  generalize e6 : decide (0 ≤ p.prio) = b6
  generalize e7 : decide (p.prio ≤ 9) = b7
  generalize e8 : p.shape.ok = b8 at hno
  generalize e9 : (p.shape.id == 1) = b9
  generalize ea : (p.shape.pool == p.id) = ba
  generalize eb : p.shape.cordon = bb at hno ⊢
  have HE' := Lib.hid (HE.out _ _ _ _ _ _ _ _ _ _ _ e1 e2 e3 e4 e5 e6 e7 e8 e9 ea eb)
  have HNO := Lib.hid hno
  clear h1 h2 hno e8 HE l1 l2 eb hg
  go_enter Tryz.func105, Tryz.ntmps105
  cases b1
  · go_wp2_with fail
    go_ret
    exact ⟨by rw [HE'.out]; simp, (by repeat' (first | exact Below.refl _ _ | refine Below.alloc ?_ ?_ _ | refine Below.setCell ?_ ?_ _ | refine Below.drew ?_ | (apply below_step; assumption) | (simp; done) | (simp; omega) | omega))⟩
  cases b2
  · go_wp2_with fail
    go_ret
    exact ⟨by rw [HE'.out]; simp, (by repeat' (first | exact Below.refl _ _ | refine Below.alloc ?_ ?_ _ | refine Below.setCell ?_ ?_ _ | refine Below.drew ?_ | (apply below_step; assumption) | (simp; done) | (simp; omega) | omega))⟩
  cases b3
  · go_wp2_with fail
    go_ret
    exact ⟨by rw [HE'.out]; simp, (by repeat' (first | exact Below.refl _ _ | refine Below.alloc ?_ ?_ _ | refine Below.setCell ?_ ?_ _ | refine Below.drew ?_ | (apply below_step; assumption) | (simp; done) | (simp; omega) | omega))⟩
  cases b4
  · go_wp2_with fail
    go_ret
    exact ⟨by rw [HE'.out]; simp, (by repeat' (first | exact Below.refl _ _ | refine Below.alloc ?_ ?_ _ | refine Below.setCell ?_ ?_ _ | refine Below.drew ?_ | (apply below_step; assumption) | (simp; done) | (simp; omega) | omega))⟩
  cases b5
  · go_wp2_with fail
    go_ret
    exact ⟨by rw [HE'.out]; simp, (by repeat' (first | exact Below.refl _ _ | refine Below.alloc ?_ ?_ _ | refine Below.setCell ?_ ?_ _ | refine Below.drew ?_ | (apply below_step; assumption) | (simp; done) | (simp; omega) | omega))⟩
  cases b6
  · go_wp2_with fail
    go_ret
    exact ⟨by rw [HE'.out]; simp, (by repeat' (first | exact Below.refl _ _ | refine Below.alloc ?_ ?_ _ | refine Below.setCell ?_ ?_ _ | refine Below.drew ?_ | (apply below_step; assumption) | (simp; done) | (simp; omega) | omega))⟩
  cases b7
  · go_wp2_with fail
    go_ret
    exact ⟨by rw [HE'.out]; simp, (by repeat' (first | exact Below.refl _ _ | refine Below.alloc ?_ ?_ _ | refine Below.setCell ?_ ?_ _ | refine Below.drew ?_ | (apply below_step; assumption) | (simp; done) | (simp; omega) | omega))⟩
  go_wp2_with fail
  have hX : Below w.heap.size w (w.alloc (.cells #[.int .i64 p.id, .int .i64 p.min, .int .i64 p.max, .int .i64 p.prio, .int .i64 p.shape.id, .int .i64 p.shape.pool, .int .i64 p.shape.cap.c, .int .i64 p.shape.cap.m, .int .i64 p.shape.cap.p, v1, v2, .bool bb] 63)) := (by repeat' (first | exact Below.refl _ _ | refine Below.alloc ?_ ?_ _ | refine Below.setCell ?_ ?_ _ | refine Below.drew ?_ | (apply below_step; assumption) | (simp; done) | (simp; omega) | omega))
  refine (HNO.out _ (HG.out.below hX (Nat.le_refl _)) (HL.out.below hX) (HI.out.below hX)).mono ?_
  rintro e w1 ⟨rfl, hb1⟩
  have hC1 := below_of hX hb1
  have B1 := (BlockIs.new w 63 #[.int .i64 p.id, .int .i64 p.min, .int .i64 p.max, .int .i64 p.prio, .int .i64 p.shape.id, .int .i64 p.shape.pool, .int .i64 p.shape.cap.c, .int .i64 p.shape.cap.m, .int .i64 p.shape.cap.p, v1, v2, .bool bb]).below hb1 (by simp)
  have g0 := B1.cell 0
  have g4 := B1.cell 4
  have g5 := B1.cell 5
  have g11 := B1.cell 11
  simp at g0 g4 g5 g11
  clear B1 hb1 hX
  cases b8
  · go_wp2_with fail
    go_ret
    exact ⟨by rw [HE'.out]; simp, hC1⟩
  cases b9
  · go_wp2_with fail
    go_ret
    exact ⟨by rw [HE'.out]; simp, hC1⟩
  cases ba
  · go_wp2_with fail
    go_ret
    exact ⟨by rw [HE'.out]; simp, hC1⟩
  go_wp2_with fail
  go_ret
  exact ⟨by rw [HE'.out]; simp, hC1⟩
set_option maxHeartbeats 1600000 in
theorem sPoolOk_any (p : PV) (v1 v2 : Value) (w : World) (h1 : LabSl w v1 p.shape.labs) (h2 : IntSl w v2 p.shape.taints) (l1 : p.shape.labs.length ≤ 1048576) (l2 : p.shape.taints.length ≤ 1048576) :
    Calls Tryz.prog 87 #[.agg #[.int .i64 p.id, .int .i64 p.min, .int .i64 p.max, .int .i64 p.prio, .int .i64 p.shape.id, .int .i64 p.shape.pool, .int .i64 p.shape.cap.c, .int .i64 p.shape.cap.m, .int .i64 p.shape.cap.p, v1, v2, .bool p.shape.cordon]] w fun e w' => e = .returned (.bool p.ok) ∧ Below w.heap.size w w' := by
  have HL := Lib.hid h1
  have HI := Lib.hid h2
  have HE := Lib.hid (pv_ok_eq p)
  have hno := fun w a b => sNodeOk_any p.shape v1 v2 w a b l1 l2
  generalize p.ok = ok at *
  generalize e1 : decide (0 ≤ p.id) = b1
  generalize e2 : decide (p.id < 5) = b2
  generalize e3 : decide (0 ≤ p.min) = b3
  generalize e4 : decide (p.min ≤ p.max) = b4
  generalize e5 : decide (p.max ≤ 20) = b5
  generalize e6 : decide (0 ≤ p.prio) = b6
  generalize e7 : decide (p.prio ≤ 9) = b7
  generalize e8 : p.shape.ok = b8 at hno
  generalize e9 : (p.shape.id == 1) = b9
  generalize ea : (p.shape.pool == p.id) = ba
  generalize eb : p.shape.cordon = bb at hno ⊢
  have HE' := Lib.hid (HE.out _ _ _ _ _ _ _ _ _ _ _ e1 e2 e3 e4 e5 e6 e7 e8 e9 ea eb)
  have HNO := Lib.hid hno
  clear h1 h2 hno e8 HE l1 l2 eb
  go_enter Tryz.func87, Tryz.ntmps87
  cases b1
  · go_wp2_with fail
    go_ret
    exact ⟨by rw [HE'.out]; simp, (by repeat' (first | exact Below.refl _ _ | refine Below.alloc ?_ ?_ _ | refine Below.setCell ?_ ?_ _ | refine Below.drew ?_ | (apply below_step; assumption) | (simp; done) | (simp; omega) | omega))⟩
  cases b2
  · go_wp2_with fail
    go_ret
    exact ⟨by rw [HE'.out]; simp, (by repeat' (first | exact Below.refl _ _ | refine Below.alloc ?_ ?_ _ | refine Below.setCell ?_ ?_ _ | refine Below.drew ?_ | (apply below_step; assumption) | (simp; done) | (simp; omega) | omega))⟩
  cases b3
  · go_wp2_with fail
    go_ret
    exact ⟨by rw [HE'.out]; simp, (by repeat' (first | exact Below.refl _ _ | refine Below.alloc ?_ ?_ _ | refine Below.setCell ?_ ?_ _ | refine Below.drew ?_ | (apply below_step; assumption) | (simp; done) | (simp; omega) | omega))⟩
  cases b4
  · go_wp2_with fail
    go_ret
    exact ⟨by rw [HE'.out]; simp, (by repeat' (first | exact Below.refl _ _ | refine Below.alloc ?_ ?_ _ | refine Below.setCell ?_ ?_ _ | refine Below.drew ?_ | (apply below_step; assumption) | (simp; done) | (simp; omega) | omega))⟩
  cases b5
  · go_wp2_with fail
    go_ret
    exact ⟨by rw [HE'.out]; simp, (by repeat' (first | exact Below.refl _ _ | refine Below.alloc ?_ ?_ _ | refine Below.setCell ?_ ?_ _ | refine Below.drew ?_ | (apply below_step; assumption) | (simp; done) | (simp; omega) | omega))⟩
  cases b6
  · go_wp2_with fail
    go_ret
    exact ⟨by rw [HE'.out]; simp, (by repeat' (first | exact Below.refl _ _ | refine Below.alloc ?_ ?_ _ | refine Below.setCell ?_ ?_ _ | refine Below.drew ?_ | (apply below_step; assumption) | (simp; done) | (simp; omega) | omega))⟩
  cases b7
  · go_wp2_with fail
    go_ret
    exact ⟨by rw [HE'.out]; simp, (by repeat' (first | exact Below.refl _ _ | refine Below.alloc ?_ ?_ _ | refine Below.setCell ?_ ?_ _ | refine Below.drew ?_ | (apply below_step; assumption) | (simp; done) | (simp; omega) | omega))⟩
  go_wp2_with fail
  have hX : Below w.heap.size w (w.alloc (.cells #[.int .i64 p.id, .int .i64 p.min, .int .i64 p.max, .int .i64 p.prio, .int .i64 p.shape.id, .int .i64 p.shape.pool, .int .i64 p.shape.cap.c, .int .i64 p.shape.cap.m, .int .i64 p.shape.cap.p, v1, v2, .bool bb] 63)) := (by repeat' (first | exact Below.refl _ _ | refine Below.alloc ?_ ?_ _ | refine Below.setCell ?_ ?_ _ | refine Below.drew ?_ | (apply below_step; assumption) | (simp; done) | (simp; omega) | omega))
  refine (HNO.out _ (HL.out.below hX) (HI.out.below hX)).mono ?_
  rintro e w1 ⟨rfl, hb1⟩
  have hC1 := below_of hX hb1
  have B1 := (BlockIs.new w 63 #[.int .i64 p.id, .int .i64 p.min, .int .i64 p.max, .int .i64 p.prio, .int .i64 p.shape.id, .int .i64 p.shape.pool, .int .i64 p.shape.cap.c, .int .i64 p.shape.cap.m, .int .i64 p.shape.cap.p, v1, v2, .bool bb]).below hb1 (by simp)
  have g0 := B1.cell 0
  have g4 := B1.cell 4
  have g5 := B1.cell 5
  have g11 := B1.cell 11
  simp at g0 g4 g5 g11
  clear B1 hb1 hX
  cases b8
  · go_wp2_with fail
    go_ret
    exact ⟨by rw [HE'.out]; simp, hC1⟩
  cases b9
  · go_wp2_with fail
    go_ret
    exact ⟨by rw [HE'.out]; simp, hC1⟩
  cases ba
  · go_wp2_with fail
    go_ret
    exact ⟨by rw [HE'.out]; simp, hC1⟩
  go_wp2_with fail
  go_ret
  exact ⟨by rw [HE'.out]; simp, hC1⟩
end Go.Proofs.YtmkpajjnjgnmkabGreatDoor

namespace Go.Proofs.YtmkpajjnjgnmkabGreatDoor

def mLabs : Int → Nat → List LV
  | _, 0 => []
  | k, n + 1 => ⟨k, k + 1⟩ :: mLabs (k + 2) n
def mInts : Int → Nat → List Int
  | _, 0 => []
  | k, n + 1 => k :: mInts (k + 1) n
def mBinds : Int → Nat → List BV
  | _, 0 => []
  | k, n + 1 => ⟨k, k + 1⟩ :: mBinds (k + 2) n
theorem mLabs_len (k : Int) (n : Nat) : (mLabs k n).length = n := by
  induction n generalizing k with
  | zero => rfl
  | succ n ih => simp [mLabs, ih]
theorem mInts_len (k : Int) (n : Nat) : (mInts k n).length = n := by
  induction n generalizing k with
  | zero => rfl
  | succ n ih => simp [mInts, ih]
theorem mBinds_len (k : Int) (n : Nat) : (mBinds k n).length = n := by
  induction n generalizing k with
  | zero => rfl
  | succ n ih => simp [mBinds, ih]
theorem mLabs_snoc (k : Int) (n : Nat) : mLabs k (n + 1) = mLabs k n ++ [⟨k + 2 * n, k + 2 * n + 1⟩] := by
  induction n generalizing k with
  | zero => simp [mLabs]
  | succ n ih =>
    rw [mLabs, ih (k + 2)]
    simp only [mLabs, List.cons_append, Int.natCast_add, Int.natCast_one]
    rw [show k + 2 + 2 * (n : Int) = k + 2 * ((n : Int) + 1) by omega]
theorem mInts_snoc (k : Int) (n : Nat) : mInts k (n + 1) = mInts k n ++ [k + n] := by
  induction n generalizing k with
  | zero => simp [mInts]
  | succ n ih =>
    rw [mInts, ih (k + 1)]
    simp only [mInts, List.cons_append, Int.natCast_add, Int.natCast_one]
    rw [show k + 1 + (n : Int) = k + ((n : Int) + 1) by omega]
theorem mBinds_snoc (k : Int) (n : Nat) : mBinds k (n + 1) = mBinds k n ++ [⟨k + 2 * n, k + 2 * n + 1⟩] := by
  induction n generalizing k with
  | zero => simp [mBinds]
  | succ n ih =>
    rw [mBinds, ih (k + 2)]
    simp only [mBinds, List.cons_append, Int.natCast_add, Int.natCast_one]
    rw [show k + 2 + 2 * (n : Int) = k + 2 * ((n : Int) + 1) by omega]
theorem mLabs_at (k : Int) {n i : Nat} (h : i < n) : (mLabs k n)[i]? = some ⟨k + 2 * i, k + 2 * i + 1⟩ := by
  induction n generalizing k i with
  | zero => omega
  | succ n ih =>
    cases i with
    | zero => simp [mLabs]
    | succ i =>
      rw [mLabs, List.getElem?_cons_succ, ih (k + 2) (by omega)]
      congr 2 <;> omega
theorem mInts_at (k : Int) {n i : Nat} (h : i < n) : (mInts k n)[i]? = some (k + i) := by
  induction n generalizing k i with
  | zero => omega
  | succ n ih =>
    cases i with
    | zero => simp [mInts]
    | succ i =>
      rw [mInts, List.getElem?_cons_succ, ih (k + 1) (by omega)]
      congr 1; omega
theorem mBinds_at (k : Int) {n i : Nat} (h : i < n) : (mBinds k n)[i]? = some ⟨k + 2 * i, k + 2 * i + 1⟩ := by
  induction n generalizing k i with
  | zero => omega
  | succ n ih =>
    cases i with
    | zero => simp [mBinds]
    | succ i =>
      rw [mBinds, List.getElem?_cons_succ, ih (k + 2) (by omega)]
      congr 2 <;> omega

def szTask (t : TV) : Int := 5 + 2 * t.want.length + t.tols.length
def szNode (n : NV) : Int := 6 + 2 * n.labs.length + n.taints.length
def mTask (k : Int) (t : TV) : TV := ⟨k, k + 1, ⟨k + 1 + 1, k + 1 + 1 + 1, k + 1 + 1 + 1 + 1⟩, mLabs (k + 1 + 1 + 1 + 1 + 1) t.want.length, mInts (k + 1 + 1 + 1 + 1 + 1 + 2 * t.want.length) t.tols.length⟩
def mNode (k : Int) (t : NV) : NV := ⟨k, k + 1, ⟨k + 1 + 1, k + 1 + 1 + 1, k + 1 + 1 + 1 + 1⟩, mLabs (k + 1 + 1 + 1 + 1 + 1) t.labs.length, mInts (k + 1 + 1 + 1 + 1 + 1 + 2 * t.labs.length) t.taints.length, ((k + 1 + 1 + 1 + 1 + 1 + 2 * t.labs.length + t.taints.length) % 3 == 0)⟩
def sumTask : List TV → Int
  | [] => 0
  | t :: r => szTask t + sumTask r
def sumNode : List NV → Int
  | [] => 0
  | t :: r => szNode t + sumNode r
def mTasks : Int → List TV → List TV
  | _, [] => []
  | k, t :: r => mTask k t :: mTasks (k + szTask t) r
def mNodes : Int → List NV → List NV
  | _, [] => []
  | k, t :: r => mNode k t :: mNodes (k + szNode t) r
theorem sumTask_snoc (l : List TV) (t : TV) : sumTask (l ++ [t]) = sumTask l + szTask t := by
  induction l with
  | nil => simp [sumTask]
  | cons x r ih => simp only [List.cons_append, sumTask, ih]; omega
theorem mTasks_snoc (k : Int) (l : List TV) (t : TV) : mTasks k (l ++ [t]) = mTasks k l ++ [mTask (k + sumTask l) t] := by
  induction l generalizing k with
  | nil => simp [mTasks, sumTask]
  | cons x r ih =>
    simp only [List.cons_append, mTasks, ih, sumTask]
    rw [show k + szTask x + sumTask r = k + (szTask x + sumTask r) by omega]
theorem mTasks_len (k : Int) (l : List TV) : (mTasks k l).length = l.length := by
  induction l generalizing k with
  | nil => rfl
  | cons x r ih => simp [mTasks, ih]
theorem mTasks_at (k : Int) {l : List TV} {i : Nat} {t : TV} (h : l[i]? = some t) : (mTasks k l)[i]? = some (mTask (k + sumTask (l.take i)) t) := by
  induction l generalizing k i with
  | nil => simp at h
  | cons x r ih =>
    cases i with
    | zero => simp at h; subst h; simp [mTasks, sumTask]
    | succ i =>
      simp at h
      rw [mTasks, List.getElem?_cons_succ, ih _ h]
      simp only [List.take_succ_cons, sumTask]
      rw [show k + szTask x + sumTask (r.take i) = k + (szTask x + sumTask (r.take i)) by omega]
theorem sumTask_nonneg (l : List TV) : 0 ≤ sumTask l := by
  induction l with
  | nil => simp [sumTask]
  | cons x r ih => simp only [sumTask, szTask]; omega
def allTask (l : List TV) : Prop := ∀ t ∈ l, t.want.length ≤ 1048576 ∧ t.tols.length ≤ 1048576
theorem sumTask_le {l : List TV} (h : allTask l) : sumTask l ≤ l.length * 3200000 := by
  induction l with
  | nil => simp [sumTask]
  | cons x r ih =>
    have h1 := h x (by simp)
    have h2 := ih (fun t ht => h t (by simp [ht]))
    simp only [sumTask, szTask, List.length_cons, Int.natCast_add, Int.natCast_one]
    omega
theorem sumTask_take {l : List TV} (h : allTask l) (i : Nat) (hl : l.length ≤ 1100000) : 0 ≤ sumTask (l.take i) ∧ sumTask (l.take i) ≤ 3520000000000 := by
  refine ⟨sumTask_nonneg _, ?_⟩
  have h1 := sumTask_le (l := l.take i) (fun t ht => h t (List.mem_of_mem_take ht))
  have h2 : (l.take i).length ≤ l.length := by rw [List.length_take]; omega
  omega
theorem sumNode_snoc (l : List NV) (t : NV) : sumNode (l ++ [t]) = sumNode l + szNode t := by
  induction l with
  | nil => simp [sumNode]
  | cons x r ih => simp only [List.cons_append, sumNode, ih]; omega
theorem mNodes_snoc (k : Int) (l : List NV) (t : NV) : mNodes k (l ++ [t]) = mNodes k l ++ [mNode (k + sumNode l) t] := by
  induction l generalizing k with
  | nil => simp [mNodes, sumNode]
  | cons x r ih =>
    simp only [List.cons_append, mNodes, ih, sumNode]
    rw [show k + szNode x + sumNode r = k + (szNode x + sumNode r) by omega]
theorem mNodes_len (k : Int) (l : List NV) : (mNodes k l).length = l.length := by
  induction l generalizing k with
  | nil => rfl
  | cons x r ih => simp [mNodes, ih]
theorem mNodes_at (k : Int) {l : List NV} {i : Nat} {t : NV} (h : l[i]? = some t) : (mNodes k l)[i]? = some (mNode (k + sumNode (l.take i)) t) := by
  induction l generalizing k i with
  | nil => simp at h
  | cons x r ih =>
    cases i with
    | zero => simp at h; subst h; simp [mNodes, sumNode]
    | succ i =>
      simp at h
      rw [mNodes, List.getElem?_cons_succ, ih _ h]
      simp only [List.take_succ_cons, sumNode]
      rw [show k + szNode x + sumNode (r.take i) = k + (szNode x + sumNode (r.take i)) by omega]
theorem sumNode_nonneg (l : List NV) : 0 ≤ sumNode l := by
  induction l with
  | nil => simp [sumNode]
  | cons x r ih => simp only [sumNode, szNode]; omega
def allNode (l : List NV) : Prop := ∀ t ∈ l, t.labs.length ≤ 1048576 ∧ t.taints.length ≤ 1048576
theorem sumNode_le {l : List NV} (h : allNode l) : sumNode l ≤ l.length * 3200000 := by
  induction l with
  | nil => simp [sumNode]
  | cons x r ih =>
    have h1 := h x (by simp)
    have h2 := ih (fun t ht => h t (by simp [ht]))
    simp only [sumNode, szNode, List.length_cons, Int.natCast_add, Int.natCast_one]
    omega
theorem sumNode_take {l : List NV} (h : allNode l) (i : Nat) (hl : l.length ≤ 1100000) : 0 ≤ sumNode (l.take i) ∧ sumNode (l.take i) ≤ 3520000000000 := by
  refine ⟨sumNode_nonneg _, ?_⟩
  have h1 := sumNode_le (l := l.take i) (fun t ht => h t (List.mem_of_mem_take ht))
  have h2 : (l.take i).length ≤ l.length := by rw [List.length_take]; omega
  omega
def mClu (c : CV) (k : Int) : CV := ⟨mTasks k c.tasks, mNodes (k + sumTask c.tasks) c.nodes, mBinds (k + sumTask c.tasks + sumNode c.nodes) c.binds.length⟩
def szClu (c : CV) : Int := sumTask c.tasks + sumNode c.nodes + 2 * c.binds.length
end Go.Proofs.YtmkpajjnjgnmkabGreatDoor

namespace Go.Proofs.YtmkpajjnjgnmkabGreatDoor
open Go.RowKit

theorem grown_set {w w' : World} {g : Nat} {row : Option Nat} (h : w.grownBy w' row) (hr : row = some g) (o : Nat) (u : Value) : w.grownBy (w'.setCell ⟨g, o, none⟩ u) row :=
  ⟨h.os, h.tape, h.output, by simpa [World.setCell] using h.size, fun k hk hg => (Below.heap_setCell _ _ _ _ (fun e => hg (by rw [e, hr]))).trans (h.block k hk hg)⟩
theorem labL_snoc (a : List LV) (x : LV) : labL (a ++ [x]) = labL a ++ [.int .i64 x.k, .int .i64 x.v] := by simp [labL]
theorem bindL_snoc (a : List BV) (x : BV) : bindL (a ++ [x]) = bindL a ++ [.int .i64 x.task, .int .i64 x.node] := by simp [bindL]
theorem bind_xs {w : World} {l : List BV} {xs : List Value} {b : List Nat} (h : Elems BindO w l xs b) : xs = bindL l ∧ b = [] := by
  induction l generalizing xs b with
  | nil => exact h
  | cons x r ih =>
    obtain ⟨cs, ys, b1, b2, rfl, rfl, ⟨rfl, rfl⟩, h2⟩ := h
    obtain ⟨rfl, rfl⟩ := ih h2
    exact ⟨rfl, rfl⟩
set_option maxHeartbeats 1600000 in
theorem markLabS_any (v : Value) (l : List LV) (k : Int) (w : World) (h : LabO w v l) (hl : l.length ≤ 1048576) (h0 : 0 ≤ k) (hk : k ≤ 1152921504606846976) :
    Calls Tryz.prog 26 #[v, .int .i64 k] w fun e w' => e = .returned (.int .i64 (k + 2 * l.length)) ∧ LabO w' v (mLabs k l.length) ∧ w.grownBy w' v.ownBlock := by
  obtain ⟨A, c, rfl, _⟩ := own_form h
  have HO := Lib.hid h
  clear h
  go_enter Tryz.func26, Tryz.ntmps26
  go_wp2_with fail
  go_loopw [1, 5] (fun s1 s5 wr => ∃ i : Nat, i ≤ l.length ∧ s5 = .int .i64 i ∧ s1 = .int .i64 (k + 2 * i) ∧ wr.ownsRow 0 110 2 (.slice A l.length c) l.length (labL (mLabs k i) ++ labL (l.drop i)) ∧ w.grownBy wr (Value.slice A l.length c).ownBlock) (fun _ s5 _ => (l.length - intOf s5).toNat)
  case atStart => exact ⟨0, by omega, rfl, by simp, HO.out, grownBy_refl _ _⟩
  case round =>
    obtain ⟨i, hi, rfl, rfl, hown, hg⟩ := hrel
    by_cases hlt : i < l.length
    · obtain ⟨r, hr⟩ : ∃ r, l[i]? = some r := ⟨_, List.getElem?_eq_getElem hlt⟩
      obtain ⟨g, cap, e, hgl, hcell, hfr⟩ := own_cells hown (by omega)
      simp only [Value.slice.injEq] at e
      obtain ⟨rfl, -, rfl⟩ := e
      rw [drop_at hr, labL_cons] at hown hcell
      have hxl : (labL (mLabs k i)).length = i * 2 := by rw [labL_len, mLabs_len]
      have u0 := hcell (i * 2) (.int .i64 r.k) (by rw [List.getElem?_append_right (by omega), hxl]; simp)
      have u1 := hcell (i * 2 + 1) (.int .i64 r.v) (by rw [List.getElem?_append_right (by omega), hxl]; simp)
      have HX := Lib.hid hown
      have HG := Lib.hid hg
      have HXL := Lib.hid hxl
      have hlti : (i : Int) < (l.length : Int) := by omega
      clear hown hg hcell hxl hr
      go_wp2_with fail
      go_roundw
      case rel =>
        refine ⟨i + 1, by omega, by go_num, by go_num, ?_, grown_set (grown_set HG.out rfl _ _) rfl _ _⟩
        have st := own_put (g := g) (xa := labL (mLabs k i)) (cs := [.int .i64 r.k, .int .i64 r.v]) (ds := [.int .i64 (k + 2 * i), .int .i64 (k + 2 * i + 1)]) HX.out rfl rfl
        rw [HXL.out] at st
        rw [mLabs_snoc, labL_snoc, List.append_assoc]
        exact st
      case measure => simp [intOf]; omega
    · obtain rfl : i = l.length := by omega
      have HX := Lib.hid hown
      have HG := Lib.hid hg
      clear hown hg
      go_wp2_with fail
      go_ret
      refine ⟨rfl, ?_, HG.out⟩
      have := HX.out
      rw [List.drop_length] at this
      unfold LabO
      rw [mLabs_len]
      simpa [labL] using this

set_option maxHeartbeats 1600000 in
theorem markIntS_any (v : Value) (l : List Int) (k : Int) (w : World) (h : IntO w v l) (hl : l.length ≤ 1048576) (h0 : 0 ≤ k) (hk : k ≤ 1152921504606846976) :
    Calls Tryz.prog 27 #[v, .int .i64 k] w fun e w' => e = .returned (.int .i64 (k + l.length)) ∧ IntO w' v (mInts k l.length) ∧ w.grownBy w' v.ownBlock := by
  obtain ⟨A, c, rfl, _⟩ := own_form h
  have HO := Lib.hid h
  clear h
  go_enter Tryz.func27, Tryz.ntmps27
  go_wp2_with fail
  go_loopw [1, 5] (fun s1 s5 wr => ∃ i : Nat, i ≤ l.length ∧ s5 = .int .i64 i ∧ s1 = .int .i64 (k + i) ∧ wr.ownsRow 0 3 1 (.slice A l.length c) l.length (intL (mInts k i) ++ intL (l.drop i)) ∧ w.grownBy wr (Value.slice A l.length c).ownBlock) (fun _ s5 _ => (l.length - intOf s5).toNat)
  case atStart => exact ⟨0, by omega, rfl, by simp, HO.out, grownBy_refl _ _⟩
  case round =>
    obtain ⟨i, hi, rfl, rfl, hown, hg⟩ := hrel
    by_cases hlt : i < l.length
    · obtain ⟨r, hr⟩ : ∃ r, l[i]? = some r := ⟨_, List.getElem?_eq_getElem hlt⟩
      obtain ⟨g, cap, e, hgl, hcell, hfr⟩ := own_cells hown (by omega)
      simp only [Value.slice.injEq] at e
      obtain ⟨rfl, -, rfl⟩ := e
      rw [drop_at hr] at hown hcell
      have hxl : (intL (mInts k i)).length = i := by simp [intL, mInts_len]
      have u0 := hcell i (.int .i64 r) (by rw [List.getElem?_append_right (by omega), hxl]; simp [intL])
      have HX := Lib.hid hown
      have HG := Lib.hid hg
      have HXL := Lib.hid hxl
      have hlti : (i : Int) < (l.length : Int) := by omega
      clear hown hg hcell hxl hr
      go_wp2_with fail
      go_roundw
      case rel =>
        refine ⟨i + 1, by omega, by go_num, by go_num, ?_, grown_set HG.out rfl _ _⟩
        have st := own_put (g := g) (xa := intL (mInts k i)) (cs := [.int .i64 r]) (ds := [.int .i64 (k + i)]) (xb := intL (l.drop (i + 1))) HX.out rfl rfl
        rw [HXL.out] at st
        rw [mInts_snoc]
        have e : intL (mInts k i ++ [k + (i : Int)]) = intL (mInts k i) ++ [.int .i64 (k + i)] := by simp [intL]
        rw [e, List.append_assoc]
        exact st
      case measure => simp [intOf]; omega
    · obtain rfl : i = l.length := by omega
      have HX := Lib.hid hown
      have HG := Lib.hid hg
      clear hown hg
      go_wp2_with fail
      go_ret
      refine ⟨rfl, ?_, HG.out⟩
      have := HX.out
      rw [List.drop_length] at this
      unfold IntO
      rw [mInts_len]
      simpa [intL] using this

set_option maxHeartbeats 1600000 in
theorem markBindS_any (v : Value) (l : List BV) (bs : List Nat) (k : Int) (w : World) (h : RowO BindO 122 2 w v l bs) (hl : l.length ≤ 1100000) (h0 : 0 ≤ k) (hk : k ≤ 1152921504606846976) :
    Calls Tryz.prog 77 #[v, .int .i64 k] w fun e w' => e = .returned (.int .i64 (k + 2 * l.length)) ∧ RowO BindO 122 2 w' v (mBinds k l.length) bs ∧ w.grownBy w' v.ownBlock := by
  obtain ⟨xs, b, h, hel, rfl⟩ := h
  obtain ⟨rfl, rfl⟩ := bind_xs hel
  obtain ⟨A, c, rfl, _⟩ := own_form h
  have HO := Lib.hid h
  clear h hel
  go_enter Tryz.func77, Tryz.ntmps77
  go_wp2_with fail
  go_loopw [1, 5] (fun s1 s5 wr => ∃ i : Nat, i ≤ l.length ∧ s5 = .int .i64 i ∧ s1 = .int .i64 (k + 2 * i) ∧ wr.ownsRow 0 122 2 (.slice A l.length c) l.length (bindL (mBinds k i) ++ bindL (l.drop i)) ∧ w.grownBy wr (Value.slice A l.length c).ownBlock) (fun _ s5 _ => (l.length - intOf s5).toNat)
  case atStart => exact ⟨0, by omega, rfl, by simp, HO.out, grownBy_refl _ _⟩
  case round =>
    obtain ⟨i, hi, rfl, rfl, hown, hg⟩ := hrel
    by_cases hlt : i < l.length
    · obtain ⟨r, hr⟩ : ∃ r, l[i]? = some r := ⟨_, List.getElem?_eq_getElem hlt⟩
      obtain ⟨g, cap, e, hgl, hcell, hfr⟩ := own_cells hown (by omega)
      simp only [Value.slice.injEq] at e
      obtain ⟨rfl, -, rfl⟩ := e
      rw [drop_at hr, bindL_cons] at hown hcell
      have hxl : (bindL (mBinds k i)).length = i * 2 := by rw [bindL_len, mBinds_len]
      have u0 := hcell (i * 2) (.int .i64 r.task) (by rw [List.getElem?_append_right (by omega), hxl]; simp)
      have u1 := hcell (i * 2 + 1) (.int .i64 r.node) (by rw [List.getElem?_append_right (by omega), hxl]; simp)
      have HX := Lib.hid hown
      have HG := Lib.hid hg
      have HXL := Lib.hid hxl
      have hlti : (i : Int) < (l.length : Int) := by omega
      clear hown hg hcell hxl hr
      go_wp2_with fail
      go_roundw
      case rel =>
        refine ⟨i + 1, by omega, by go_num, by go_num, ?_, grown_set (grown_set HG.out rfl _ _) rfl _ _⟩
        have st := own_put (g := g) (xa := bindL (mBinds k i)) (cs := [.int .i64 r.task, .int .i64 r.node]) (ds := [.int .i64 (k + 2 * i), .int .i64 (k + 2 * i + 1)]) HX.out rfl rfl
        rw [HXL.out] at st
        rw [mBinds_snoc, bindL_snoc, List.append_assoc]
        exact st
      case measure => simp [intOf]; omega
    · obtain rfl : i = l.length := by omega
      have HX := Lib.hid hown
      have HG := Lib.hid hg
      clear hown hg
      go_wp2_with fail
      go_ret
      refine ⟨rfl, ⟨bindL (mBinds k l.length), [], ?_, bind_elems _ _, rfl⟩, HG.out⟩
      have := HX.out
      rw [List.drop_length] at this
      rw [mBinds_len]
      simpa [bindL] using this

set_option maxHeartbeats 1600000 in
theorem heldLabS_any (v : Value) (n : Nat) (k : Int) (w : World) (h : LabSl w v (mLabs k n)) (hl : n ≤ 1048576) (h0 : 0 ≤ k) (hk : k ≤ 1152921504606846976) :
    Calls Tryz.prog 79 #[v, .int .i64 k] w fun e w' => e = .returned (.int .i64 (k + 2 * n)) ∧ w = w' := by
  obtain ⟨A, c, rfl, hA⟩ := h.form
  rw [mLabs_len] at hA ⊢
  have HA := Lib.hid hA
  clear hA h
  go_enter Tryz.func79, Tryz.ntmps79
  go_wp2_with fail
  go_loop [1, 5] (fun s1 s5 => ∃ i : Nat, i ≤ n ∧ s5 = .int .i64 i ∧ s1 = .int .i64 (k + 2 * i)) (fun _ s5 => (n - intOf s5).toNat)
  case atStart => exact ⟨0, by omega, rfl, by simp⟩
  case round =>
    obtain ⟨i, hi, rfl, rfl⟩ := hrel
    by_cases hlt : i < n
    · obtain ⟨b, off, rfl, hbw, hat⟩ := HA.out (by omega)
      obtain ⟨u0, u1⟩ := hat i _ (mLabs_at k hlt)
      simp only at u0 u1
      have n0 : ((k + 2 * (i : Int)) != (k + 2 * (i : Int))) = false := by simp
      have n1 : ((k + 2 * (i : Int) + 1) != (k + 2 * (i : Int) + 1)) = false := by simp
      have hlti : (i : Int) < (n : Int) := by omega
      clear hat
      go_wp2_with fail
      go_round
      case rel => exact ⟨i + 1, by omega, by go_num, by go_num⟩
      case measure => simp [intOf]; omega
    · obtain rfl : i = n := by omega
      go_wp2_with fail
      go_ret
      exact ⟨rfl, rfl⟩

set_option maxHeartbeats 1600000 in
theorem heldIntS_any (v : Value) (n : Nat) (k : Int) (w : World) (h : IntSl w v (mInts k n)) (hl : n ≤ 1048576) (h0 : 0 ≤ k) (hk : k ≤ 1152921504606846976) :
    Calls Tryz.prog 32 #[v, .int .i64 k] w fun e w' => e = .returned (.int .i64 (k + n)) ∧ w = w' := by
  obtain ⟨A, c, rfl, hA⟩ := h.form
  rw [mInts_len] at hA ⊢
  have HA := Lib.hid hA
  clear hA h
  go_enter Tryz.func32, Tryz.ntmps32
  go_wp2_with fail
  go_loop [1, 5] (fun s1 s5 => ∃ i : Nat, i ≤ n ∧ s5 = .int .i64 i ∧ s1 = .int .i64 (k + i)) (fun _ s5 => (n - intOf s5).toNat)
  case atStart => exact ⟨0, by omega, rfl, by simp⟩
  case round =>
    obtain ⟨i, hi, rfl, rfl⟩ := hrel
    by_cases hlt : i < n
    · obtain ⟨b, off, rfl, hbw, hat⟩ := HA.out (by omega)
      have u0 := hat i _ (mInts_at k hlt)
      have n0 : ((k + (i : Int)) != (k + (i : Int))) = false := by simp
      have hlti : (i : Int) < (n : Int) := by omega
      clear hat
      go_wp2_with fail
      go_round
      case rel => exact ⟨i + 1, by omega, by go_num, by go_num⟩
      case measure => simp [intOf]; omega
    · obtain rfl : i = n := by omega
      go_wp2_with fail
      go_ret
      exact ⟨rfl, rfl⟩

set_option maxHeartbeats 1600000 in
theorem heldBindS_any (v : Value) (n : Nat) (k : Int) (w : World) (h : BindSl w v (mBinds k n)) (hl : n ≤ 1100000) (h0 : 0 ≤ k) (hk : k ≤ 1152921504606846976) :
    Calls Tryz.prog 82 #[v, .int .i64 k] w fun e w' => e = .returned (.int .i64 (k + 2 * n)) ∧ w = w' := by
  obtain ⟨A, c, rfl, hA⟩ := h.form
  rw [mBinds_len] at hA ⊢
  have HA := Lib.hid hA
  clear hA h
  go_enter Tryz.func82, Tryz.ntmps82
  go_wp2_with fail
  go_loop [1, 5] (fun s1 s5 => ∃ i : Nat, i ≤ n ∧ s5 = .int .i64 i ∧ s1 = .int .i64 (k + 2 * i)) (fun _ s5 => (n - intOf s5).toNat)
  case atStart => exact ⟨0, by omega, rfl, by simp⟩
  case round =>
    obtain ⟨i, hi, rfl, rfl⟩ := hrel
    by_cases hlt : i < n
    · obtain ⟨b, off, rfl, hbw, hat⟩ := HA.out (by omega)
      obtain ⟨cs, hR, hC⟩ := hat i _ (mBinds_at k hlt)
      obtain rfl := hR
      obtain ⟨u0, u1⟩ := bind_cells hC
      simp only at u0 u1
      have n0 : ((k + 2 * (i : Int)) != (k + 2 * (i : Int))) = false := by simp
      have n1 : ((k + 2 * (i : Int) + 1) != (k + 2 * (i : Int) + 1)) = false := by simp
      have hlti : (i : Int) < (n : Int) := by omega
      clear hat hC
      go_wp2_with fail
      go_round
      case rel => exact ⟨i + 1, by omega, by go_num, by go_num⟩
      case measure => simp [intOf]; omega
    · obtain rfl : i = n := by omega
      go_wp2_with fail
      go_ret
      exact ⟨rfl, rfl⟩
end Go.Proofs.YtmkpajjnjgnmkabGreatDoor

namespace Go.Proofs.YtmkpajjnjgnmkabGreatDoor
open Go.RowKit

theorem own_cell {w : World} {e : TypeId} {size n g c : Nat} {xs : List Value} (h : w.ownsRow 0 e size (.slice (some ⟨g, 0, none⟩) n c) n xs) {j : Nat} {u : Value} (hu : xs[j]? = some u) : w.cell? ⟨g, j, none⟩ = some u := by
  rcases Nat.eq_zero_or_pos n with h0 | hp
  · have := h.1
    rw [h0, Nat.zero_mul] at this
    rw [List.eq_nil_of_length_eq_zero this] at hu; simp at hu
  · obtain ⟨g', cap, e, _, hc, _⟩ := own_cells h hp
    simp only [Value.slice.injEq, Option.some.injEq, Addr.mk.injEq] at e
    obtain ⟨⟨rfl, -, -⟩, -, -⟩ := e
    exact hc j u hu
theorem own_frozen {w : World} {e : TypeId} {size n g c : Nat} {xs : List Value} (h : w.ownsRow 0 e size (.slice (some ⟨g, 0, none⟩) n c) n xs) (hp : 0 < n) (o : Nat) : w.frozen? ⟨g, o, none⟩ = false := by
  obtain ⟨g', cap, e, _, _, hf⟩ := own_cells h hp
  simp only [Value.slice.injEq, Option.some.injEq, Addr.mk.injEq] at e
  obtain ⟨⟨rfl, -, -⟩, -, -⟩ := e
  exact hf o
theorem nd5 {g : Nat} {a x y c : List Nat} (h : (g :: (a ++ ((x ++ y) ++ c))).Nodup) : (∀ b ∈ a, b ≠ g ∧ b ∉ x ∧ b ∉ y) ∧ (∀ b ∈ x, b ≠ g ∧ b ∉ y) ∧ (∀ b ∈ y, b ≠ g ∧ b ∉ x) ∧ (∀ b ∈ c, b ≠ g ∧ b ∉ x ∧ b ∉ y) := by
  rw [List.nodup_cons] at h
  obtain ⟨hg, h⟩ := h
  simp only [List.mem_append, not_or] at hg
  obtain ⟨ga, ⟨gx, gy⟩, gc⟩ := hg
  simp only [List.nodup_append, List.mem_append] at h
  obtain ⟨-, ⟨⟨-, -, hxy⟩, -, hxc⟩, ha⟩ := h
  refine ⟨fun b hb => ⟨fun e => ga (e ▸ hb), fun hx => ha b hb b (.inl (.inl hx)) rfl, fun hy => ha b hb b (.inl (.inr hy)) rfl⟩, fun b hb => ⟨fun e => gx (e ▸ hb), fun hy => hxy b hb b hy rfl⟩,
    fun b hb => ⟨fun e => gy (e ▸ hb), fun hx => hxy b hx b hb rfl⟩, fun b hb => ⟨fun e => gc (e ▸ hb), fun hx => hxc b (.inl hx) b hb rfl, fun hy => hxc b (.inr hy) b hb rfl⟩⟩
theorem blk_mem {v : Value} {k : Nat} (h : v.ownBlock = some k) : k ∈ blk v := by simp [blk, h]

theorem elems_allTask {w : World} {l : List TV} {xs : List Value} {bs : List Nat} (h : Elems TaskO w l xs bs) : allTask l := by
  induction l generalizing xs bs with
  | nil => intro t ht; cases ht
  | cons x r ih =>
    obtain ⟨cs, ys, b1, b2, rfl, rfl, ⟨v1, v2, _, _, _, _, m⟩, h2⟩ := h
    intro t ht
    rcases List.mem_cons.1 ht with rfl | ht
    · exact m
    · exact ih h2 t ht
set_option maxHeartbeats 6400000 in
theorem markTaskS_any (v : Value) (l : List TV) (bs : List Nat) (k : Int) (w : World) (h : RowO TaskO 119 7 w v l bs) (hnd : bs.Nodup) (hl : l.length ≤ 1100000) (h0 : 0 ≤ k) (hk : k ≤ 576460752303423488) :
    Calls Tryz.prog 75 #[v, .int .i64 k] w fun e w' => e = .returned (.int .i64 (k + sumTask l)) ∧ RowO TaskO 119 7 w' v (mTasks k l) bs ∧ TurnB bs w w' := by
  obtain ⟨xs, b, hown, hel, rfl⟩ := h
  have HALL := Lib.hid (elems_allTask hel)
  obtain ⟨A, c, rfl, _⟩ := own_form hown
  have HO := Lib.hid (And.intro hown hel)
  have HND := Lib.hid hnd
  clear hown hel hnd
  go_enter Tryz.func75, Tryz.ntmps75
  go_wp2_with fail
  go_loopw [1, 5] (fun s1 s5 wr => ∃ (i : Nat) (xa xb : List Value) (ba bb : List Nat), i ≤ l.length ∧ s5 = .int .i64 i ∧ s1 = .int .i64 (k + sumTask (l.take i)) ∧ wr.ownsRow 0 119 7 (.slice A l.length c) l.length (xa ++ xb) ∧ Elems TaskO wr (mTasks k (l.take i)) xa ba ∧ Elems TaskO wr (l.drop i) xb bb ∧ b = ba ++ bb ∧ TurnB (blk (.slice A l.length c) ++ b) w wr) (fun _ s5 _ => (l.length - intOf s5).toNat)
  case atStart => exact ⟨0, [], xs, [], b, by omega, rfl, by simp [sumTask], HO.out.1, ⟨rfl, rfl⟩, HO.out.2, rfl, TurnB.refl _ _⟩
  case round =>
    obtain ⟨i, xa, xb, ba, bb, hi, rfl, rfl, hown, hea, heb, hbe, htn⟩ := hrel
    obtain ⟨hs0, hs1⟩ := sumTask_take HALL.out i hl
    by_cases hlt : i < l.length
    · obtain ⟨t, ht⟩ : ∃ t, l[i]? = some t := ⟨_, List.getElem?_eq_getElem hlt⟩
      rw [drop_at ht] at heb
      obtain ⟨cs, ys, b1, b2, rfl, rfl, hR, hel2⟩ := heb
      obtain ⟨v1, v2, rfl, h1, h2, rfl, m1, m2⟩ := hR
      obtain ⟨A1, c1, rfl, _⟩ := own_form h1
      obtain ⟨A2, c2, rfl, _⟩ := own_form h2
      obtain ⟨g, cap, e, hgl, hcell, hfr⟩ := own_cells hown (by omega)
      simp only [Value.slice.injEq] at e
      obtain ⟨rfl, -, rfl⟩ := e
      have hxl : xa.length = i * 7 := by rw [hea.len (fun _ _ _ h => h.len), mTasks_len, List.length_take, Nat.min_eq_left hi]
      have nd := HND.out
      rw [hbe] at nd
      obtain ⟨da, d1, d2, dc⟩ := nd5 nd
      have u0 := hcell (i * 7 + 0) _ (by rw [List.getElem?_append_right (by omega), hxl, Nat.add_sub_cancel_left]; rfl); have u1 := hcell (i * 7 + 1) _ (by rw [List.getElem?_append_right (by omega), hxl, Nat.add_sub_cancel_left]; rfl); have u2 := hcell (i * 7 + 2) _ (by rw [List.getElem?_append_right (by omega), hxl, Nat.add_sub_cancel_left]; rfl); have u3 := hcell (i * 7 + 3) _ (by rw [List.getElem?_append_right (by omega), hxl, Nat.add_sub_cancel_left]; rfl); have u4 := hcell (i * 7 + 4) _ (by rw [List.getElem?_append_right (by omega), hxl, Nat.add_sub_cancel_left]; rfl); have u5 := hcell (i * 7 + 5) _ (by rw [List.getElem?_append_right (by omega), hxl, Nat.add_sub_cancel_left]; rfl); have u6 := hcell (i * 7 + 6) _ (by rw [List.getElem?_append_right (by omega), hxl, Nat.add_sub_cancel_left]; rfl)
      simp only [Nat.add_zero] at u0
      generalize hK : k + sumTask (l.take i) = K
      have hK0 : 0 ≤ K := by omega
      have hK1 : K ≤ 576464272303423488 := by omega
      have HKK := Lib.hid hK
      have HT := Lib.hid (And.intro ht hbe)
      have HX := Lib.hid (And.intro hown (And.intro hea (And.intro hel2 (And.intro h1 h2))))
      have HD := Lib.hid (And.intro da (And.intro d1 (And.intro d2 dc)))
      have HXL := Lib.hid hxl
      have HTN := Lib.hid htn
      have hlti : (i : Int) < (l.length : Int) := by omega
      clear hown hea hel2 h1 h2 hcell hxl htn ht hbe nd da d1 d2 dc hK hs0 hs1
      go_wp2_with fail
      have hT5 : TurnB [g] wr (World.setCell (World.setCell (World.setCell (World.setCell (World.setCell wr ⟨g, i * 7, none⟩ (.int .i64 K)) ⟨g, i * 7 + 1, none⟩ (.int .i64 (K + 1))) ⟨g, i * 7 + 2, none⟩ (.int .i64 (K + 1 + 1))) ⟨g, i * 7 + 2 + 1, none⟩ (.int .i64 (K + 1 + 1 + 1))) ⟨g, i * 7 + 2 + 2, none⟩ (.int .i64 (K + 1 + 1 + 1 + 1))) := TurnB.put (TurnB.put (TurnB.put (TurnB.put (TurnB.put (TurnB.refl _ _) (List.mem_singleton.2 rfl) _ _) (List.mem_singleton.2 rfl) _ _) (List.mem_singleton.2 rfl) _ _) (List.mem_singleton.2 rfl) _ _) (List.mem_singleton.2 rfl) _ _
      have hO5 : World.ownsRow (World.setCell (World.setCell (World.setCell (World.setCell (World.setCell wr ⟨g, i * 7, none⟩ (.int .i64 K)) ⟨g, i * 7 + 1, none⟩ (.int .i64 (K + 1))) ⟨g, i * 7 + 2, none⟩ (.int .i64 (K + 1 + 1))) ⟨g, i * 7 + 2 + 1, none⟩ (.int .i64 (K + 1 + 1 + 1))) ⟨g, i * 7 + 2 + 2, none⟩ (.int .i64 (K + 1 + 1 + 1 + 1))) 0 119 7 (.slice (some ⟨g, 0, none⟩) l.length c) l.length (xa ++ ([.int .i64 K, .int .i64 (K + 1), .int .i64 (K + 1 + 1), .int .i64 (K + 1 + 1 + 1), .int .i64 (K + 1 + 1 + 1 + 1)] ++ ([.slice A1 t.want.length c1, .slice A2 t.tols.length c2] ++ ys))) := by
        have st := own_put (v := .slice (some ⟨g, 0, none⟩) l.length c) (g := g) (xa := xa) (cs := [.int .i64 t.id, .int .i64 t.prio, .int .i64 t.need.c, .int .i64 t.need.m, .int .i64 t.need.p]) (xb := [.slice A1 t.want.length c1, .slice A2 t.tols.length c2] ++ ys) (ds := [.int .i64 K, .int .i64 (K + 1), .int .i64 (K + 1 + 1), .int .i64 (K + 1 + 1 + 1), .int .i64 (K + 1 + 1 + 1 + 1)]) HX.out.1 rfl rfl
        rw [HXL.out] at st
        exact st
      generalize (World.setCell (World.setCell (World.setCell (World.setCell (World.setCell wr ⟨g, i * 7, none⟩ (.int .i64 K)) ⟨g, i * 7 + 1, none⟩ (.int .i64 (K + 1))) ⟨g, i * 7 + 2, none⟩ (.int .i64 (K + 1 + 1))) ⟨g, i * 7 + 2 + 1, none⟩ (.int .i64 (K + 1 + 1 + 1))) ⟨g, i * 7 + 2 + 2, none⟩ (.int .i64 (K + 1 + 1 + 1 + 1))) = W5 at hT5 hO5 ⊢
      obtain ⟨hown, hea, hel2, h1, h2⟩ := HX.out
      obtain ⟨da, d1, d2, dc⟩ := HD.out
      have h15 := own_agree h1 (hT5.agree (fun b hb => ⟨own_lt h1 b hb, by simpa using (d1 b hb).1⟩))
      refine (markLabS_any _ t.want _ _ h15 m1 (by omega) (by omega)).mono ?_
      rintro e w3 ⟨rfl, hL3, hg3⟩
      have hT3 : TurnB (blk (.slice A1 t.want.length c1)) W5 w3 := TurnB.of_grown hg3 (fun k e => blk_mem e)
      have hO3 := own_agree hO5 (hT3.agree (fun b hb => by
        obtain rfl : b = g := by simpa [blk, Value.ownBlock] using hb
        exact ⟨own_lt hO5 b (by simp [blk, Value.ownBlock]), fun hx => (d1 b hx).1 rfl⟩))
      have h25 := own_agree h2 (hT5.agree (fun b hb => ⟨own_lt h2 b hb, by simpa using (d2 b hb).1⟩))
      have h23 := own_agree h25 (hT3.agree (fun b hb => ⟨own_lt h25 b hb, (d2 b hb).2⟩))
      have uf := own_frozen hO3 (by omega)
      have z6 := own_cell hO3 (j := i * 7 + 6) (by rw [List.getElem?_append_right (by rw [HXL.out]; omega), HXL.out, Nat.add_sub_cancel_left]; rfl)
      
      have HO3 := Lib.hid hO3
      have H23 := Lib.hid h23
      have HL3 := Lib.hid hL3
      have HT5 := Lib.hid hT5
      have HT3 := Lib.hid hT3
      clear hown hea hel2 h1 h2 da d1 d2 dc h15 h25 h23 hO3 hL3 hg3 hT3 hT5 hO5 u0 u1 u2 u3 u4 u5 u6 
      go_wp2_with fail
      refine (markIntS_any _ t.tols _ _ H23.out m2 (by omega) (by omega)).mono ?_
      rintro e w4 ⟨rfl, hI4, hg4⟩
      have hT4 : TurnB (blk (.slice A2 t.tols.length c2)) w3 w4 := TurnB.of_grown hg4 (fun k e => blk_mem e)
      obtain ⟨da, d1, d2, dc⟩ := HD.out
      have hO4 := own_agree HO3.out (hT4.agree (fun b hb => by
        obtain rfl : b = g := by simpa [blk, Value.ownBlock] using hb
        exact ⟨own_lt HO3.out b (by simp [blk, Value.ownBlock]), fun hx => (d2 b hx).1 rfl⟩))
      have hL4 : LabO w4 _ _ := own_agree HL3.out (hT4.agree (fun b hb => ⟨own_lt HL3.out b hb, (d1 b hb).2⟩))
      
      
      have HO4 := Lib.hid hO4
      have HL4 := Lib.hid hL4
      have HI4 := Lib.hid (show IntO w4 _ _ from hI4)
      have HT4 := Lib.hid hT4
      clear da d1 d2 dc hO4 hL4 hI4 hg4 hT4 z6 HO3 HL3 H23
      go_wp2_with fail
      go_roundw
      case rel =>
        obtain ⟨hown, hea, hel2, -, -⟩ := HX.out
        obtain ⟨da, d1, d2, dc⟩ := HD.out
        obtain ⟨ht, hbe⟩ := HT.out
        have hT : TurnB (g :: (blk (.slice A1 t.want.length c1) ++ blk (.slice A2 t.tols.length c2))) wr w4 := ((HT5.out.mono (by simp)).trans (HT3.out.mono (fun b hb => by simp [hb]))).trans (HT4.out.mono (fun b hb => by simp [hb]))
        have hO6 := HO4.out
        have hL6 := HL4.out
        have hI6 := HI4.out
        have hT6 := hT
        
        
        
        
        
        have hea6 := hea.agree TaskO.framed (hT6.agree (fun b hb => ⟨elems_lt (fun _ _ _ h => h.lt) hea b hb, by simpa [not_or] using da b hb⟩))
        have hel6 := hel2.agree TaskO.framed (hT6.agree (fun b hb => ⟨elems_lt (fun _ _ _ h => h.lt) hel2 b hb, by simpa [not_or] using dc b hb⟩))
        refine ⟨i + 1, xa ++ [.int .i64 K, .int .i64 (K + 1), .int .i64 (K + 1 + 1), .int .i64 (K + 1 + 1 + 1), .int .i64 (K + 1 + 1 + 1 + 1), .slice A1 t.want.length c1, .slice A2 t.tols.length c2], ys, ba ++ (blk (.slice A1 t.want.length c1) ++ blk (.slice A2 t.tols.length c2)), b2, by omega, by go_num, ?_, ?_, ?_, hel6, by rw [hbe]; simp, HTN.out.trans (hT6.mono (fun b hb => ?_))⟩
        · rw [take_at ht, sumTask_snoc]
          have := HKK.out
          unfold szTask
          congr 1; omega
        · rw [List.append_assoc]; exact hO6
        · rw [take_at ht, mTasks_snoc, HKK.out]
          exact hea6.snoc ⟨_, _, rfl, by simpa [mTask, mLabs_len, LabO] using hL6, by simpa [mTask, mInts_len, IntO] using hI6, rfl, by simpa [mTask, mLabs_len] using m1, by simpa [mTask, mInts_len] using m2⟩
        · rw [hbe]
          rcases List.mem_cons.1 hb with rfl | hb
          · simp [blk, Value.ownBlock]
          · exact List.mem_append_right _ (List.mem_append_right _ (List.mem_append_left _ hb))
      case measure => simp [intOf]; omega
    · obtain rfl : i = l.length := by omega
      have HX := Lib.hid (And.intro hown (And.intro hea (And.intro heb htn)))
      have HBE := Lib.hid hbe
      clear hown hea heb htn hbe
      rw [List.take_length] at hs0 hs1 ⊢
      go_wp2_with fail
      go_ret
      obtain ⟨hown, hea, heb, htn⟩ := HX.out
      rw [List.drop_length] at heb
      obtain ⟨rfl, rfl⟩ := heb
      rw [List.append_nil] at hown
      have hbe := HBE.out
      rw [List.append_nil] at hbe
      subst hbe
      rw [List.take_length] at hea
      exact ⟨rfl, ⟨xa, b, by rw [mTasks_len]; exact hown, hea, rfl⟩, htn⟩
theorem elems_allNode {w : World} {l : List NV} {xs : List Value} {bs : List Nat} (h : Elems NodeO w l xs bs) : allNode l := by
  induction l generalizing xs bs with
  | nil => intro t ht; cases ht
  | cons x r ih =>
    obtain ⟨cs, ys, b1, b2, rfl, rfl, ⟨v1, v2, _, _, _, _, m⟩, h2⟩ := h
    intro t ht
    rcases List.mem_cons.1 ht with rfl | ht
    · exact m
    · exact ih h2 t ht
set_option maxHeartbeats 6400000 in
theorem markNodeS_any (v : Value) (l : List NV) (bs : List Nat) (k : Int) (w : World) (h : RowO NodeO 61 8 w v l bs) (hnd : bs.Nodup) (hl : l.length ≤ 1100000) (h0 : 0 ≤ k) (hk : k ≤ 576460752303423488) :
    Calls Tryz.prog 76 #[v, .int .i64 k] w fun e w' => e = .returned (.int .i64 (k + sumNode l)) ∧ RowO NodeO 61 8 w' v (mNodes k l) bs ∧ TurnB bs w w' := by
  obtain ⟨xs, b, hown, hel, rfl⟩ := h
  have HALL := Lib.hid (elems_allNode hel)
  obtain ⟨A, c, rfl, _⟩ := own_form hown
  have HO := Lib.hid (And.intro hown hel)
  have HND := Lib.hid hnd
  clear hown hel hnd
  go_enter Tryz.func76, Tryz.ntmps76
  go_wp2_with fail
  go_loopw [1, 5] (fun s1 s5 wr => ∃ (i : Nat) (xa xb : List Value) (ba bb : List Nat), i ≤ l.length ∧ s5 = .int .i64 i ∧ s1 = .int .i64 (k + sumNode (l.take i)) ∧ wr.ownsRow 0 61 8 (.slice A l.length c) l.length (xa ++ xb) ∧ Elems NodeO wr (mNodes k (l.take i)) xa ba ∧ Elems NodeO wr (l.drop i) xb bb ∧ b = ba ++ bb ∧ TurnB (blk (.slice A l.length c) ++ b) w wr) (fun _ s5 _ => (l.length - intOf s5).toNat)
  case atStart => exact ⟨0, [], xs, [], b, by omega, rfl, by simp [sumNode], HO.out.1, ⟨rfl, rfl⟩, HO.out.2, rfl, TurnB.refl _ _⟩
  case round =>
    obtain ⟨i, xa, xb, ba, bb, hi, rfl, rfl, hown, hea, heb, hbe, htn⟩ := hrel
    obtain ⟨hs0, hs1⟩ := sumNode_take HALL.out i hl
    by_cases hlt : i < l.length
    · obtain ⟨t, ht⟩ : ∃ t, l[i]? = some t := ⟨_, List.getElem?_eq_getElem hlt⟩
      rw [drop_at ht] at heb
      obtain ⟨cs, ys, b1, b2, rfl, rfl, hR, hel2⟩ := heb
      obtain ⟨v1, v2, rfl, h1, h2, rfl, m1, m2⟩ := hR
      obtain ⟨A1, c1, rfl, _⟩ := own_form h1
      obtain ⟨A2, c2, rfl, _⟩ := own_form h2
      obtain ⟨g, cap, e, hgl, hcell, hfr⟩ := own_cells hown (by omega)
      simp only [Value.slice.injEq] at e
      obtain ⟨rfl, -, rfl⟩ := e
      have hxl : xa.length = i * 8 := by rw [hea.len (fun _ _ _ h => h.len), mNodes_len, List.length_take, Nat.min_eq_left hi]
      have nd := HND.out
      rw [hbe] at nd
      obtain ⟨da, d1, d2, dc⟩ := nd5 nd
      have u0 := hcell (i * 8 + 0) _ (by rw [List.getElem?_append_right (by omega), hxl, Nat.add_sub_cancel_left]; rfl); have u1 := hcell (i * 8 + 1) _ (by rw [List.getElem?_append_right (by omega), hxl, Nat.add_sub_cancel_left]; rfl); have u2 := hcell (i * 8 + 2) _ (by rw [List.getElem?_append_right (by omega), hxl, Nat.add_sub_cancel_left]; rfl); have u3 := hcell (i * 8 + 3) _ (by rw [List.getElem?_append_right (by omega), hxl, Nat.add_sub_cancel_left]; rfl); have u4 := hcell (i * 8 + 4) _ (by rw [List.getElem?_append_right (by omega), hxl, Nat.add_sub_cancel_left]; rfl); have u5 := hcell (i * 8 + 5) _ (by rw [List.getElem?_append_right (by omega), hxl, Nat.add_sub_cancel_left]; rfl); have u6 := hcell (i * 8 + 6) _ (by rw [List.getElem?_append_right (by omega), hxl, Nat.add_sub_cancel_left]; rfl); have u7 := hcell (i * 8 + 7) _ (by rw [List.getElem?_append_right (by omega), hxl, Nat.add_sub_cancel_left]; rfl)
      simp only [Nat.add_zero] at u0
      generalize hK : k + sumNode (l.take i) = K
      have hK0 : 0 ≤ K := by omega
      have hK1 : K ≤ 576464272303423488 := by omega
      have HKK := Lib.hid hK
      have HT := Lib.hid (And.intro ht hbe)
      have HX := Lib.hid (And.intro hown (And.intro hea (And.intro hel2 (And.intro h1 h2))))
      have HD := Lib.hid (And.intro da (And.intro d1 (And.intro d2 dc)))
      have HXL := Lib.hid hxl
      have HTN := Lib.hid htn
      have hlti : (i : Int) < (l.length : Int) := by omega
      clear hown hea hel2 h1 h2 hcell hxl htn ht hbe nd da d1 d2 dc hK hs0 hs1
      go_wp2_with fail
      have hT5 : TurnB [g] wr (World.setCell (World.setCell (World.setCell (World.setCell (World.setCell wr ⟨g, i * 8, none⟩ (.int .i64 K)) ⟨g, i * 8 + 1, none⟩ (.int .i64 (K + 1))) ⟨g, i * 8 + 2, none⟩ (.int .i64 (K + 1 + 1))) ⟨g, i * 8 + 2 + 1, none⟩ (.int .i64 (K + 1 + 1 + 1))) ⟨g, i * 8 + 2 + 2, none⟩ (.int .i64 (K + 1 + 1 + 1 + 1))) := TurnB.put (TurnB.put (TurnB.put (TurnB.put (TurnB.put (TurnB.refl _ _) (List.mem_singleton.2 rfl) _ _) (List.mem_singleton.2 rfl) _ _) (List.mem_singleton.2 rfl) _ _) (List.mem_singleton.2 rfl) _ _) (List.mem_singleton.2 rfl) _ _
      have hO5 : World.ownsRow (World.setCell (World.setCell (World.setCell (World.setCell (World.setCell wr ⟨g, i * 8, none⟩ (.int .i64 K)) ⟨g, i * 8 + 1, none⟩ (.int .i64 (K + 1))) ⟨g, i * 8 + 2, none⟩ (.int .i64 (K + 1 + 1))) ⟨g, i * 8 + 2 + 1, none⟩ (.int .i64 (K + 1 + 1 + 1))) ⟨g, i * 8 + 2 + 2, none⟩ (.int .i64 (K + 1 + 1 + 1 + 1))) 0 61 8 (.slice (some ⟨g, 0, none⟩) l.length c) l.length (xa ++ ([.int .i64 K, .int .i64 (K + 1), .int .i64 (K + 1 + 1), .int .i64 (K + 1 + 1 + 1), .int .i64 (K + 1 + 1 + 1 + 1)] ++ ([.slice A1 t.labs.length c1, .slice A2 t.taints.length c2, .bool t.cordon] ++ ys))) := by
        have st := own_put (v := .slice (some ⟨g, 0, none⟩) l.length c) (g := g) (xa := xa) (cs := [.int .i64 t.id, .int .i64 t.pool, .int .i64 t.cap.c, .int .i64 t.cap.m, .int .i64 t.cap.p]) (xb := [.slice A1 t.labs.length c1, .slice A2 t.taints.length c2, .bool t.cordon] ++ ys) (ds := [.int .i64 K, .int .i64 (K + 1), .int .i64 (K + 1 + 1), .int .i64 (K + 1 + 1 + 1), .int .i64 (K + 1 + 1 + 1 + 1)]) HX.out.1 rfl rfl
        rw [HXL.out] at st
        exact st
      generalize (World.setCell (World.setCell (World.setCell (World.setCell (World.setCell wr ⟨g, i * 8, none⟩ (.int .i64 K)) ⟨g, i * 8 + 1, none⟩ (.int .i64 (K + 1))) ⟨g, i * 8 + 2, none⟩ (.int .i64 (K + 1 + 1))) ⟨g, i * 8 + 2 + 1, none⟩ (.int .i64 (K + 1 + 1 + 1))) ⟨g, i * 8 + 2 + 2, none⟩ (.int .i64 (K + 1 + 1 + 1 + 1))) = W5 at hT5 hO5 ⊢
      obtain ⟨hown, hea, hel2, h1, h2⟩ := HX.out
      obtain ⟨da, d1, d2, dc⟩ := HD.out
      have h15 := own_agree h1 (hT5.agree (fun b hb => ⟨own_lt h1 b hb, by simpa using (d1 b hb).1⟩))
      refine (markLabS_any _ t.labs _ _ h15 m1 (by omega) (by omega)).mono ?_
      rintro e w3 ⟨rfl, hL3, hg3⟩
      have hT3 : TurnB (blk (.slice A1 t.labs.length c1)) W5 w3 := TurnB.of_grown hg3 (fun k e => blk_mem e)
      have hO3 := own_agree hO5 (hT3.agree (fun b hb => by
        obtain rfl : b = g := by simpa [blk, Value.ownBlock] using hb
        exact ⟨own_lt hO5 b (by simp [blk, Value.ownBlock]), fun hx => (d1 b hx).1 rfl⟩))
      have h25 := own_agree h2 (hT5.agree (fun b hb => ⟨own_lt h2 b hb, by simpa using (d2 b hb).1⟩))
      have h23 := own_agree h25 (hT3.agree (fun b hb => ⟨own_lt h25 b hb, (d2 b hb).2⟩))
      have uf := own_frozen hO3 (by omega)
      have z6 := own_cell hO3 (j := i * 8 + 6) (by rw [List.getElem?_append_right (by rw [HXL.out]; omega), HXL.out, Nat.add_sub_cancel_left]; rfl)
      have z7 := own_cell hO3 (j := i * 8 + 7) (by rw [List.getElem?_append_right (by rw [HXL.out]; omega), HXL.out, Nat.add_sub_cancel_left]; rfl)
      have HO3 := Lib.hid hO3
      have H23 := Lib.hid h23
      have HL3 := Lib.hid hL3
      have HT5 := Lib.hid hT5
      have HT3 := Lib.hid hT3
      clear hown hea hel2 h1 h2 da d1 d2 dc h15 h25 h23 hO3 hL3 hg3 hT3 hT5 hO5 u0 u1 u2 u3 u4 u5 u6 u7
      go_wp2_with fail
      refine (markIntS_any _ t.taints _ _ H23.out m2 (by omega) (by omega)).mono ?_
      rintro e w4 ⟨rfl, hI4, hg4⟩
      have hT4 : TurnB (blk (.slice A2 t.taints.length c2)) w3 w4 := TurnB.of_grown hg4 (fun k e => blk_mem e)
      obtain ⟨da, d1, d2, dc⟩ := HD.out
      have hO4 := own_agree HO3.out (hT4.agree (fun b hb => by
        obtain rfl : b = g := by simpa [blk, Value.ownBlock] using hb
        exact ⟨own_lt HO3.out b (by simp [blk, Value.ownBlock]), fun hx => (d2 b hx).1 rfl⟩))
      have hL4 : LabO w4 _ _ := own_agree HL3.out (hT4.agree (fun b hb => ⟨own_lt HL3.out b hb, (d1 b hb).2⟩))
      have uf := own_frozen hO4 (by omega)
      have z7 := own_cell hO4 (j := i * 8 + 7) (by rw [List.getElem?_append_right (by rw [HXL.out]; omega), HXL.out, Nat.add_sub_cancel_left]; rfl)
      have HO4 := Lib.hid hO4
      have HL4 := Lib.hid hL4
      have HI4 := Lib.hid (show IntO w4 _ _ from hI4)
      have HT4 := Lib.hid hT4
      clear da d1 d2 dc hO4 hL4 hI4 hg4 hT4 z6 HO3 HL3 H23
      go_wp2_with fail
      go_roundw
      case rel =>
        obtain ⟨hown, hea, hel2, -, -⟩ := HX.out
        obtain ⟨da, d1, d2, dc⟩ := HD.out
        obtain ⟨ht, hbe⟩ := HT.out
        have hT : TurnB (g :: (blk (.slice A1 t.labs.length c1) ++ blk (.slice A2 t.taints.length c2))) wr w4 := ((HT5.out.mono (by simp)).trans (HT3.out.mono (fun b hb => by simp [hb]))).trans (HT4.out.mono (fun b hb => by simp [hb]))
        
        
        
        
        have hS6 : TurnB [g] w4 (w4.setCell ⟨g, i * 8 + 7, none⟩ (.bool ((K + 1 + 1 + 1 + 1 + 1 + 2 * t.labs.length + t.taints.length) % 3 == 0))) := TurnB.put (TurnB.refl _ _) (List.mem_singleton.2 rfl) _ _
        have hO6 : World.ownsRow (w4.setCell ⟨g, i * 8 + 7, none⟩ (.bool ((K + 1 + 1 + 1 + 1 + 1 + 2 * t.labs.length + t.taints.length) % 3 == 0))) 0 61 8 (.slice (some ⟨g, 0, none⟩) l.length c) l.length (xa ++ ([.int .i64 K, .int .i64 (K + 1), .int .i64 (K + 1 + 1), .int .i64 (K + 1 + 1 + 1), .int .i64 (K + 1 + 1 + 1 + 1)] ++ ([.slice A1 t.labs.length c1, .slice A2 t.taints.length c2, .bool ((K + 1 + 1 + 1 + 1 + 1 + 2 * t.labs.length + t.taints.length) % 3 == 0)] ++ ys))) := by
          have e4 : @Eq (List Value) (xa ++ ([.int .i64 K, .int .i64 (K + 1), .int .i64 (K + 1 + 1), .int .i64 (K + 1 + 1 + 1), .int .i64 (K + 1 + 1 + 1 + 1)] ++ ([.slice A1 t.labs.length c1, .slice A2 t.taints.length c2, .bool t.cordon] ++ ys))) ((xa ++ [.int .i64 K, .int .i64 (K + 1), .int .i64 (K + 1 + 1), .int .i64 (K + 1 + 1 + 1), .int .i64 (K + 1 + 1 + 1 + 1), .slice A1 t.labs.length c1, .slice A2 t.taints.length c2]) ++ ([.bool t.cordon] ++ ys)) := by simp
          have h4 := HO4.out
          rw [e4] at h4
          have st := own_put (v := .slice (some ⟨g, 0, none⟩) l.length c) (g := g) (ds := [.bool ((K + 1 + 1 + 1 + 1 + 1 + 2 * t.labs.length + t.taints.length) % 3 == 0)]) h4 rfl rfl
          have el : List.length (α := Value) (xa ++ [.int .i64 K, .int .i64 (K + 1), .int .i64 (K + 1 + 1), .int .i64 (K + 1 + 1 + 1), .int .i64 (K + 1 + 1 + 1 + 1), .slice A1 t.labs.length c1, .slice A2 t.taints.length c2]) = i * 8 + 7 := by rw [List.length_append, HXL.out]; rfl
          rw [el] at st
          have e5 : @Eq (List Value) ((xa ++ [.int .i64 K, .int .i64 (K + 1), .int .i64 (K + 1 + 1), .int .i64 (K + 1 + 1 + 1), .int .i64 (K + 1 + 1 + 1 + 1), .slice A1 t.labs.length c1, .slice A2 t.taints.length c2]) ++ ([.bool ((K + 1 + 1 + 1 + 1 + 1 + 2 * t.labs.length + t.taints.length) % 3 == 0)] ++ ys)) (xa ++ ([.int .i64 K, .int .i64 (K + 1), .int .i64 (K + 1 + 1), .int .i64 (K + 1 + 1 + 1), .int .i64 (K + 1 + 1 + 1 + 1)] ++ ([.slice A1 t.labs.length c1, .slice A2 t.taints.length c2, .bool ((K + 1 + 1 + 1 + 1 + 1 + 2 * t.labs.length + t.taints.length) % 3 == 0)] ++ ys))) := by simp
          rw [e5] at st
          exact st
        have hL6 : LabO (w4.setCell ⟨g, i * 8 + 7, none⟩ (.bool ((K + 1 + 1 + 1 + 1 + 1 + 2 * t.labs.length + t.taints.length) % 3 == 0))) _ _ := own_agree HL4.out (hS6.agree (fun b hb => ⟨own_lt HL4.out b hb, by simpa using (d1 b hb).1⟩))
        have hI6 : IntO (w4.setCell ⟨g, i * 8 + 7, none⟩ (.bool ((K + 1 + 1 + 1 + 1 + 1 + 2 * t.labs.length + t.taints.length) % 3 == 0))) _ _ := own_agree HI4.out (hS6.agree (fun b hb => ⟨own_lt HI4.out b hb, by simpa using (d2 b hb).1⟩))
        have hT6 := hT.trans (hS6.mono (by simp))
        have hea6 := hea.agree NodeO.framed (hT6.agree (fun b hb => ⟨elems_lt (fun _ _ _ h => h.lt) hea b hb, by simpa [not_or] using da b hb⟩))
        have hel6 := hel2.agree NodeO.framed (hT6.agree (fun b hb => ⟨elems_lt (fun _ _ _ h => h.lt) hel2 b hb, by simpa [not_or] using dc b hb⟩))
        refine ⟨i + 1, xa ++ [.int .i64 K, .int .i64 (K + 1), .int .i64 (K + 1 + 1), .int .i64 (K + 1 + 1 + 1), .int .i64 (K + 1 + 1 + 1 + 1), .slice A1 t.labs.length c1, .slice A2 t.taints.length c2, .bool ((K + 1 + 1 + 1 + 1 + 1 + 2 * t.labs.length + t.taints.length) % 3 == 0)], ys, ba ++ (blk (.slice A1 t.labs.length c1) ++ blk (.slice A2 t.taints.length c2)), b2, by omega, by go_num, ?_, ?_, ?_, hel6, by rw [hbe]; simp, HTN.out.trans (hT6.mono (fun b hb => ?_))⟩
        · rw [take_at ht, sumNode_snoc]
          have := HKK.out
          unfold szNode
          congr 1; omega
        · rw [List.append_assoc]; exact hO6
        · rw [take_at ht, mNodes_snoc, HKK.out]
          exact hea6.snoc ⟨_, _, rfl, by simpa [mNode, mLabs_len, LabO] using hL6, by simpa [mNode, mInts_len, IntO] using hI6, rfl, by simpa [mNode, mLabs_len] using m1, by simpa [mNode, mInts_len] using m2⟩
        · rw [hbe]
          rcases List.mem_cons.1 hb with rfl | hb
          · simp [blk, Value.ownBlock]
          · exact List.mem_append_right _ (List.mem_append_right _ (List.mem_append_left _ hb))
      case measure => simp [intOf]; omega
    · obtain rfl : i = l.length := by omega
      have HX := Lib.hid (And.intro hown (And.intro hea (And.intro heb htn)))
      have HBE := Lib.hid hbe
      clear hown hea heb htn hbe
      rw [List.take_length] at hs0 hs1 ⊢
      go_wp2_with fail
      go_ret
      obtain ⟨hown, hea, heb, htn⟩ := HX.out
      rw [List.drop_length] at heb
      obtain ⟨rfl, rfl⟩ := heb
      rw [List.append_nil] at hown
      have hbe := HBE.out
      rw [List.append_nil] at hbe
      subst hbe
      rw [List.take_length] at hea
      exact ⟨rfl, ⟨xa, b, by rw [mNodes_len]; exact hown, hea, rfl⟩, htn⟩
end Go.Proofs.YtmkpajjnjgnmkabGreatDoor

namespace Go.Proofs.YtmkpajjnjgnmkabGreatDoor
open Go.RowKit

theorem labO_of {w : World} {g : Nat} {l : List LV} (h : BlockIs w g 110 (labL l).toArray) (hl : l.length ≤ 1048576) : LabO w (.slice (some ⟨g, 0, none⟩) l.length l.length) l :=
  ⟨labL_len l, .inr ⟨g, l.length, _, rfl, Nat.zero_le _, h, Nat.le_refl _, by simp only [maxLen]; omega, by simp [labL_len], by rw [← labL_len]; simp⟩⟩
theorem intO_of {w : World} {g : Nat} {l : List Int} (h : BlockIs w g 3 (intL l).toArray) (hl : l.length ≤ 1048576) : IntO w (.slice (some ⟨g, 0, none⟩) l.length l.length) l :=
  ⟨by simp [intL], .inr ⟨g, l.length, _, rfl, Nat.zero_le _, h, Nat.le_refl _, by simp only [maxLen]; omega, by simp [intL], by rw [show l.length * 1 = (intL l).length by simp [intL]]; simp⟩⟩
def NewIntO (w : World) (l : List Int) (e : Ending) (w' : World) : Prop := ∃ g, e = .returned (.slice (some ⟨g, 0, none⟩) l.length l.length) ∧ w.heap.size ≤ g ∧ g < w'.heap.size ∧ BlockIs w' g 3 (intL l).toArray ∧ Below w.heap.size w w'
theorem CopyInt.doneO {w wr : World} {g : Nat} {l : List Int} (h : CopyInt w g l l.length wr) : BlockIs wr g 3 (intL l).toArray := by
  obtain ⟨cs, hb, hs, hc, _⟩ := h
  have : cs = (intL l).toArray := by
    apply Array.ext_getElem?
    intro i
    rcases Nat.lt_or_ge i l.length with hi | hi
    · rw [hc i _ hi (List.getElem?_eq_getElem hi)]; simp [intL, hi]
    · rw [Array.getElem?_eq_none (by omega)]; simp [intL, hi]
  rw [← this]; exact hb
set_option maxHeartbeats 1600000 in
theorem toIntS_o (v : Value) (l : List Int) (w : World) (hv : IntSl w v l) (hlen : l.length ≤ 1048576) :
    Calls Tryz.prog 98 #[v] w (NewIntO w l) := by
  obtain ⟨A, c, rfl, hA⟩ := hv.form
  have HA := Lib.hid hA
  clear hA hv
  have hmk := make_int l.length hlen
  go_enter Tryz.func98, Tryz.ntmps98
  go_wp2_with fail
  go_loopw [4] (fun s4 wr => ∃ k : Nat, k ≤ l.length ∧ s4 = .int .i64 k ∧ CopyInt w w.heap.size l k wr) (fun s4 _ => (l.length - intOf s4).toNat)
  case atStart =>
    exact ⟨0, by omega, rfl, _, BlockIs.new _ _ _, by simpa using size_madeCells _ _, fun i r hi => absurd hi (by omega), (by repeat' (first | exact Below.refl _ _ | refine Below.alloc ?_ ?_ _ | refine Below.setCell ?_ ?_ _ | refine Below.drew ?_ | (apply below_step; assumption) | (simp; done) | (simp; omega) | omega))⟩
  case round =>
    obtain ⟨k, hk, rfl, HC⟩ := hrel
    by_cases hlt : k < l.length
    · obtain ⟨b, off, rfl, hbw, hat⟩ := HA.out (by omega)
      obtain ⟨r, hr⟩ : ∃ r, l[k]? = some r := ⟨_, List.getElem?_eq_getElem hlt⟩
      obtain ⟨cs, hblk, hs, hc, hB⟩ := HC
      have q0 := (hat.below hB hbw) k r hr
      have hzr := hB.size
      have hgl := hblk.lt
      have HR := Lib.hid hr
      have HCC := Lib.hid hc
      have HBL := Lib.hid hblk
      have HSZ := Lib.hid hs
      have u0 : wr.cell? ⟨w.heap.size, k, none⟩ = some (cs[k]'(by omega)) := by rw [hblk.cell]; exact Array.getElem?_eq_getElem (by omega)
      generalize cs[k]'(by omega) = x0 at u0
      have uf := hblk.frozen
      clear hat hr hc hblk hs
      go_wp2_with fail
      go_roundw
      case rel =>
        refine ⟨k + 1, by omega, by go_num, CopyInt.put HSZ.out HR.out HCC.out ?_ (by repeat' (first | exact Below.refl _ _ | refine Below.alloc ?_ ?_ _ | refine Below.setCell ?_ ?_ _ | refine Below.drew ?_ | (apply below_step; assumption) | (simp; done) | (simp; omega) | omega))⟩
        exact HBL.out.put _ _
      case measure => simp [intOf]; omega
    · have hkl : k = l.length := by omega
      subst hkl
      have HD := Lib.hid HC.doneO
      obtain ⟨cs, hblk, hs, hc, hB⟩ := HC
      have hgl := hblk.lt
      clear hblk hs hc
      go_wp2_with fail
      go_ret
      exact ⟨w.heap.size, rfl, Nat.le_refl _, hgl, HD.out, hB⟩

def NewNodeO (w : World) (t : NV) (e : Ending) (w' : World) : Prop := ∃ g1 g2, e = .returned (.agg #[.int .i64 t.id, .int .i64 t.pool, .int .i64 t.cap.c, .int .i64 t.cap.m, .int .i64 t.cap.p, .slice (some ⟨g1, 0, none⟩) t.labs.length t.labs.length, .slice (some ⟨g2, 0, none⟩) t.taints.length t.taints.length, .bool t.cordon]) ∧
  w.heap.size ≤ g1 ∧ w.heap.size ≤ g2 ∧ g2 < w'.heap.size ∧ BlockIs w' g1 110 (labL t.labs).toArray ∧ BlockIs w' g2 3 (intL t.taints).toArray ∧ Below w.heap.size w w'
set_option maxHeartbeats 1600000 in
theorem toNode_o (t : NV) (v1 v2 : Value) (w : World) (h1 : LabSl w v1 t.labs) (h2 : IntSl w v2 t.taints) (l1 : t.labs.length ≤ 1048576) (l2 : t.taints.length ≤ 1048576) :
    Calls Tryz.prog 50 #[.agg #[.int .i64 t.id, .int .i64 t.pool, .int .i64 t.cap.c, .int .i64 t.cap.m, .int .i64 t.cap.p, v1, v2, .bool t.cordon]] w (NewNodeO w t) := by
  have H1 := Lib.hid h1
  have H2 := Lib.hid h2
  have L1 := Lib.hid l1
  have L2 := Lib.hid l2
  clear h1 h2 l1 l2
  go_enter Tryz.func50, Tryz.ntmps50
  go_wp2_with fail
  refine (toRes_any t.cap _).mono ?_
  rintro e w1 ⟨rfl, hb1⟩
  have hz1 := hb1.size
  simp at hz1
  have B0 : BlockIs w1 w.heap.size 53 #[.int .i64 t.id, .int .i64 t.pool, .int .i64 t.cap.c, .int .i64 t.cap.m, .int .i64 t.cap.p, v1, v2, .bool t.cordon] := (((BlockIs.new w _ _).alloc _).alloc _).below hb1 (by simp; omega)
  have B1 : BlockIs w1 (w.heap.size + 1) 61 #[.int .i64 0, .int .i64 0, .int .i64 0, .int .i64 0, .int .i64 0, .slice none 0 0, .slice none 0 0, .bool false] := (BlockIs.alloc (BlockIs.new' (by simp)) _).below hb1 (by simp)
  have B2 : BlockIs w1 (w.heap.size + 1 + 1) 61 #[.int .i64 t.id, .int .i64 t.pool, .int .i64 0, .int .i64 0, .int .i64 0, .slice none 0 0, .slice none 0 0, .bool false] := (BlockIs.new' (by simp)).below hb1 (by simp)
  have hC1 : Below w.heap.size w w1 := (by repeat' (first | exact Below.refl _ _ | refine Below.alloc ?_ ?_ _ | refine Below.setCell ?_ ?_ _ | refine Below.drew ?_ | (apply below_step; assumption) | (simp; done) | (simp; omega) | omega))
  have c5 := B0.cell 5
  have c2 := B2.cell 2
  have c3 := B2.cell 3
  have c4 := B2.cell 4
  have f2 := B2.frozen
  simp at c5 c2 c3 c4
  have HB0 := Lib.hid B0
  have HB1 := Lib.hid B1
  have HB2 := Lib.hid B2
  clear B0 B1 B2 hb1
  go_wp2_with fail
  have hC2 : Below w.heap.size w (((w1.setCell ⟨w.heap.size + 1 + 1, 2, none⟩ (.int .i64 t.cap.c)).setCell ⟨w.heap.size + 1 + 1, 2 + 1, none⟩ (.int .i64 t.cap.m)).setCell ⟨w.heap.size + 1 + 1, 2 + 2, none⟩ (.int .i64 t.cap.p)) := (by repeat' (first | exact Below.refl _ _ | refine Below.alloc ?_ ?_ _ | refine Below.setCell ?_ ?_ _ | refine Below.drew ?_ | (apply below_step; assumption) | (simp; done) | (simp; omega) | omega))
  have A0 : BlockIs (((w1.setCell ⟨w.heap.size + 1 + 1, 2, none⟩ (.int .i64 t.cap.c)).setCell ⟨w.heap.size + 1 + 1, 2 + 1, none⟩ (.int .i64 t.cap.m)).setCell ⟨w.heap.size + 1 + 1, 2 + 2, none⟩ (.int .i64 t.cap.p)) w.heap.size 53 #[.int .i64 t.id, .int .i64 t.pool, .int .i64 t.cap.c, .int .i64 t.cap.m, .int .i64 t.cap.p, v1, v2, .bool t.cordon] := ((HB0.out.far (by dsimp only; omega) _).far (by dsimp only; omega) _).far (by dsimp only; omega) _
  have A1 : BlockIs (((w1.setCell ⟨w.heap.size + 1 + 1, 2, none⟩ (.int .i64 t.cap.c)).setCell ⟨w.heap.size + 1 + 1, 2 + 1, none⟩ (.int .i64 t.cap.m)).setCell ⟨w.heap.size + 1 + 1, 2 + 2, none⟩ (.int .i64 t.cap.p)) (w.heap.size + 1) 61 #[.int .i64 0, .int .i64 0, .int .i64 0, .int .i64 0, .int .i64 0, .slice none 0 0, .slice none 0 0, .bool false] := ((HB1.out.far (by dsimp only; omega) _).far (by dsimp only; omega) _).far (by dsimp only; omega) _
  have A2 : BlockIs (((w1.setCell ⟨w.heap.size + 1 + 1, 2, none⟩ (.int .i64 t.cap.c)).setCell ⟨w.heap.size + 1 + 1, 2 + 1, none⟩ (.int .i64 t.cap.m)).setCell ⟨w.heap.size + 1 + 1, 2 + 2, none⟩ (.int .i64 t.cap.p)) (w.heap.size + 1 + 1) 61 #[.int .i64 t.id, .int .i64 t.pool, .int .i64 t.cap.c, .int .i64 t.cap.m, .int .i64 t.cap.p, .slice none 0 0, .slice none 0 0, .bool false] := by simpa using ((HB2.out.put 2 _).put 3 _).put 4 _
  generalize (((w1.setCell ⟨w.heap.size + 1 + 1, 2, none⟩ (.int .i64 t.cap.c)).setCell ⟨w.heap.size + 1 + 1, 2 + 1, none⟩ (.int .i64 t.cap.m)).setCell ⟨w.heap.size + 1 + 1, 2 + 2, none⟩ (.int .i64 t.cap.p)) = X2 at hC2 A0 A1 A2 ⊢
  clear HB0 HB1 HB2 hC1 hz1 c5 c2 c3 c4 f2
  refine (toLabS_any v1 t.labs _ (H1.out.below hC2) L1.out).mono ?_
  rintro e w3 ⟨g1, rfl, hg1, hblk1, hb3⟩
  have l2 := A2.lt
  have hz3 := hb3.size
  have hC3 : Below w.heap.size w w3 := hC2.trans (hb3.mono hC2.size)
  have B0 := A0.below hb3 A0.lt
  have B1 := A1.below hb3 A1.lt
  have B2 := A2.below hb3 A2.lt
  have c6 := B0.cell 6
  have c5 := B2.cell 5
  have f2 := B2.frozen
  simp at c6 c5
  have HB1 := Lib.hid B1
  have HB2 := Lib.hid B2
  have HG1 := Lib.hid hblk1
  have HB0 := Lib.hid B0
  clear A0 A1 A2 B0 B1 B2 hblk1
  go_wp2_with fail
  have hC4 : Below w.heap.size w (w3.setCell ⟨w.heap.size + 1 + 1, 5, none⟩ (.slice (some ⟨g1, 0, none⟩) t.labs.length t.labs.length)) := (by repeat' (first | exact Below.refl _ _ | refine Below.alloc ?_ ?_ _ | refine Below.setCell ?_ ?_ _ | refine Below.drew ?_ | (apply below_step; assumption) | (simp; done) | (simp; omega) | omega))
  have A1 : BlockIs (w3.setCell ⟨w.heap.size + 1 + 1, 5, none⟩ (.slice (some ⟨g1, 0, none⟩) t.labs.length t.labs.length)) (w.heap.size + 1) 61 #[.int .i64 0, .int .i64 0, .int .i64 0, .int .i64 0, .int .i64 0, .slice none 0 0, .slice none 0 0, .bool false] := HB1.out.far (by dsimp only; omega) _
  have A2 : BlockIs (w3.setCell ⟨w.heap.size + 1 + 1, 5, none⟩ (.slice (some ⟨g1, 0, none⟩) t.labs.length t.labs.length)) (w.heap.size + 1 + 1) 61 #[.int .i64 t.id, .int .i64 t.pool, .int .i64 t.cap.c, .int .i64 t.cap.m, .int .i64 t.cap.p, .slice (some ⟨g1, 0, none⟩) t.labs.length t.labs.length, .slice none 0 0, .bool false] := by simpa using HB2.out.put 5 _
  have A0 : BlockIs (w3.setCell ⟨w.heap.size + 1 + 1, 5, none⟩ (.slice (some ⟨g1, 0, none⟩) t.labs.length t.labs.length)) w.heap.size 53 #[.int .i64 t.id, .int .i64 t.pool, .int .i64 t.cap.c, .int .i64 t.cap.m, .int .i64 t.cap.p, v1, v2, .bool t.cordon] := HB0.out.far (by dsimp only; omega) _
  have AG : BlockIs (w3.setCell ⟨w.heap.size + 1 + 1, 5, none⟩ (.slice (some ⟨g1, 0, none⟩) t.labs.length t.labs.length)) g1 110 (labL t.labs).toArray := HG1.out.far (by dsimp only; omega) _
  generalize (w3.setCell ⟨w.heap.size + 1 + 1, 5, none⟩ (.slice (some ⟨g1, 0, none⟩) t.labs.length t.labs.length)) = X4 at hC4 A0 A1 A2 AG ⊢
  clear HB0 HB1 HB2 HG1 hC3 hz3 c5 c6 f2 hb3
  refine (toIntS_o v2 t.taints _ (H2.out.below hC4) L2.out).mono ?_
  rintro e w5 ⟨g2, rfl, hg2, hlt2, hat2, hb5⟩
  have l4 := A2.lt
  have hz5 := hb5.size
  have hC5 : Below w.heap.size w w5 := hC4.trans (hb5.mono hC4.size)
  have B1 := A1.below hb5 A1.lt
  have B2 := A2.below hb5 A2.lt
  have BG := AG.below hb5 AG.lt
  have B0 := A0.below hb5 A0.lt
  have b7 := B0.cell 7
  have f0 := B0.frozen
  have c7 := B2.cell 7
  have d7 := B1.cell 7
  have c0 := B2.cell 0
  have c1 := B2.cell 1
  have c2 := B2.cell 2
  have c3 := B2.cell 3
  have c4 := B2.cell 4
  have c5 := B2.cell 5
  have c6 := B2.cell 6
  have f2 := B2.frozen
  have d0 := B1.cell 0
  have d1 := B1.cell 1
  have d2 := B1.cell 2
  have d3 := B1.cell 3
  have d4 := B1.cell 4
  have d5 := B1.cell 5
  have d6 := B1.cell 6
  have f1 := B1.frozen
  simp at b7 c7 d7 c0 c1 c2 c3 c4 c5 c6 d0 d1 d2 d3 d4 d5 d6
  have HB1 := Lib.hid B1
  have HB2 := Lib.hid B2
  have HG1 := Lib.hid BG
  have HG2 := Lib.hid hat2
  clear A0 A1 A2 AG B0 B1 B2 BG hat2
  go_wp2_with fail
  have hZ : BlockIs ((((((((((w5.setCell ⟨w.heap.size + 1 + 1, 6, none⟩ (.slice (some ⟨g2, 0, none⟩) t.taints.length t.taints.length)).setCell ⟨w.heap.size + 1 + 1, 7, none⟩ (.bool t.cordon)).setCell ⟨w.heap.size + 1, 0, none⟩ (.int .i64 t.id)).setCell ⟨w.heap.size + 1, 1, none⟩ (.int .i64 t.pool)).setCell ⟨w.heap.size + 1, 2, none⟩ (.int .i64 t.cap.c)).setCell ⟨w.heap.size + 1, 3, none⟩ (.int .i64 t.cap.m)).setCell ⟨w.heap.size + 1, 4, none⟩ (.int .i64 t.cap.p)).setCell ⟨w.heap.size + 1, 5, none⟩ (.slice (some ⟨g1, 0, none⟩) t.labs.length t.labs.length)).setCell ⟨w.heap.size + 1, 6, none⟩ (.slice (some ⟨g2, 0, none⟩) t.taints.length t.taints.length)).setCell ⟨w.heap.size + 1, 7, none⟩ (.bool t.cordon)) (w.heap.size + 1) 61 #[.int .i64 t.id, .int .i64 t.pool, .int .i64 t.cap.c, .int .i64 t.cap.m, .int .i64 t.cap.p, .slice (some ⟨g1, 0, none⟩) t.labs.length t.labs.length, .slice (some ⟨g2, 0, none⟩) t.taints.length t.taints.length, .bool t.cordon] := put8 _ _ _ _ _ _ _ _ ((HB1.out.far (by dsimp only; omega) _).far (by dsimp only; omega) _) rfl
  have hG : BlockIs ((((((((((w5.setCell ⟨w.heap.size + 1 + 1, 6, none⟩ (.slice (some ⟨g2, 0, none⟩) t.taints.length t.taints.length)).setCell ⟨w.heap.size + 1 + 1, 7, none⟩ (.bool t.cordon)).setCell ⟨w.heap.size + 1, 0, none⟩ (.int .i64 t.id)).setCell ⟨w.heap.size + 1, 1, none⟩ (.int .i64 t.pool)).setCell ⟨w.heap.size + 1, 2, none⟩ (.int .i64 t.cap.c)).setCell ⟨w.heap.size + 1, 3, none⟩ (.int .i64 t.cap.m)).setCell ⟨w.heap.size + 1, 4, none⟩ (.int .i64 t.cap.p)).setCell ⟨w.heap.size + 1, 5, none⟩ (.slice (some ⟨g1, 0, none⟩) t.labs.length t.labs.length)).setCell ⟨w.heap.size + 1, 6, none⟩ (.slice (some ⟨g2, 0, none⟩) t.taints.length t.taints.length)).setCell ⟨w.heap.size + 1, 7, none⟩ (.bool t.cordon)) g1 110 (labL t.labs).toArray := far8 ((HG1.out.far (by dsimp only; omega) _).far (by dsimp only; omega) _) (by omega)
  have hI : BlockIs ((((((((((w5.setCell ⟨w.heap.size + 1 + 1, 6, none⟩ (.slice (some ⟨g2, 0, none⟩) t.taints.length t.taints.length)).setCell ⟨w.heap.size + 1 + 1, 7, none⟩ (.bool t.cordon)).setCell ⟨w.heap.size + 1, 0, none⟩ (.int .i64 t.id)).setCell ⟨w.heap.size + 1, 1, none⟩ (.int .i64 t.pool)).setCell ⟨w.heap.size + 1, 2, none⟩ (.int .i64 t.cap.c)).setCell ⟨w.heap.size + 1, 3, none⟩ (.int .i64 t.cap.m)).setCell ⟨w.heap.size + 1, 4, none⟩ (.int .i64 t.cap.p)).setCell ⟨w.heap.size + 1, 5, none⟩ (.slice (some ⟨g1, 0, none⟩) t.labs.length t.labs.length)).setCell ⟨w.heap.size + 1, 6, none⟩ (.slice (some ⟨g2, 0, none⟩) t.taints.length t.taints.length)).setCell ⟨w.heap.size + 1, 7, none⟩ (.bool t.cordon)) g2 3 (intL t.taints).toArray := far8 ((HG2.out.far (by dsimp only; omega) _).far (by dsimp only; omega) _) (by omega)
  have hB : Below w.heap.size w ((((((((((w5.setCell ⟨w.heap.size + 1 + 1, 6, none⟩ (.slice (some ⟨g2, 0, none⟩) t.taints.length t.taints.length)).setCell ⟨w.heap.size + 1 + 1, 7, none⟩ (.bool t.cordon)).setCell ⟨w.heap.size + 1, 0, none⟩ (.int .i64 t.id)).setCell ⟨w.heap.size + 1, 1, none⟩ (.int .i64 t.pool)).setCell ⟨w.heap.size + 1, 2, none⟩ (.int .i64 t.cap.c)).setCell ⟨w.heap.size + 1, 3, none⟩ (.int .i64 t.cap.m)).setCell ⟨w.heap.size + 1, 4, none⟩ (.int .i64 t.cap.p)).setCell ⟨w.heap.size + 1, 5, none⟩ (.slice (some ⟨g1, 0, none⟩) t.labs.length t.labs.length)).setCell ⟨w.heap.size + 1, 6, none⟩ (.slice (some ⟨g2, 0, none⟩) t.taints.length t.taints.length)).setCell ⟨w.heap.size + 1, 7, none⟩ (.bool t.cordon)) := below8 ((hC5.setCell (by dsimp only; omega) _).setCell (by dsimp only; omega) _) (by omega)
  have hs : ((((((((((w5.setCell ⟨w.heap.size + 1 + 1, 6, none⟩ (.slice (some ⟨g2, 0, none⟩) t.taints.length t.taints.length)).setCell ⟨w.heap.size + 1 + 1, 7, none⟩ (.bool t.cordon)).setCell ⟨w.heap.size + 1, 0, none⟩ (.int .i64 t.id)).setCell ⟨w.heap.size + 1, 1, none⟩ (.int .i64 t.pool)).setCell ⟨w.heap.size + 1, 2, none⟩ (.int .i64 t.cap.c)).setCell ⟨w.heap.size + 1, 3, none⟩ (.int .i64 t.cap.m)).setCell ⟨w.heap.size + 1, 4, none⟩ (.int .i64 t.cap.p)).setCell ⟨w.heap.size + 1, 5, none⟩ (.slice (some ⟨g1, 0, none⟩) t.labs.length t.labs.length)).setCell ⟨w.heap.size + 1, 6, none⟩ (.slice (some ⟨g2, 0, none⟩) t.taints.length t.taints.length)).setCell ⟨w.heap.size + 1, 7, none⟩ (.bool t.cordon)).heap.size = w5.heap.size := by simp [World.setCell]
  generalize ((((((((((w5.setCell ⟨w.heap.size + 1 + 1, 6, none⟩ (.slice (some ⟨g2, 0, none⟩) t.taints.length t.taints.length)).setCell ⟨w.heap.size + 1 + 1, 7, none⟩ (.bool t.cordon)).setCell ⟨w.heap.size + 1, 0, none⟩ (.int .i64 t.id)).setCell ⟨w.heap.size + 1, 1, none⟩ (.int .i64 t.pool)).setCell ⟨w.heap.size + 1, 2, none⟩ (.int .i64 t.cap.c)).setCell ⟨w.heap.size + 1, 3, none⟩ (.int .i64 t.cap.m)).setCell ⟨w.heap.size + 1, 4, none⟩ (.int .i64 t.cap.p)).setCell ⟨w.heap.size + 1, 5, none⟩ (.slice (some ⟨g1, 0, none⟩) t.labs.length t.labs.length)).setCell ⟨w.heap.size + 1, 6, none⟩ (.slice (some ⟨g2, 0, none⟩) t.taints.length t.taints.length)).setCell ⟨w.heap.size + 1, 7, none⟩ (.bool t.cordon)) = X at hZ hG hI hB hs ⊢
  have z0 := hZ.cell 0
  have z1 := hZ.cell 1
  have z2 := hZ.cell 2
  have z3 := hZ.cell 3
  have z4 := hZ.cell 4
  have z5 := hZ.cell 5
  have z6 := hZ.cell 6
  have z7 := hZ.cell 7
  simp at z7 z0 z1 z2 z3 z4 z5 z6
  exact bodyPost_ret (v := .agg #[.int .i64 t.id, .int .i64 t.pool, .int .i64 t.cap.c, .int .i64 t.cap.m, .int .i64 t.cap.p, .slice (some ⟨g1, 0, none⟩) t.labs.length t.labs.length, .slice (some ⟨g2, 0, none⟩) t.taints.length t.taints.length, .bool t.cordon]) (by simp [results, Tryz.results50, go_sem, z0, z1, z2, z3, z4, z5, z6, z7]) rfl ⟨g1, g2, rfl, by omega, by omega, by omega, hG, hI, hB⟩


theorem blk_ne {w : World} {a b : Nat} {t u : TypeId} {x y : Array Value} (h : BlockIs w a t x) (k : BlockIs w b u y) (hne : t ≠ u) : a ≠ b := fun e => by
  subst e
  have := Option.some.inj (h.symm.trans k)
  simp at this
  exact hne this.2
theorem own_some {w : World} {e : TypeId} {size n g c : Nat} {xs : List Value} (h : w.ownsRow 0 e size (.slice (some ⟨g, 0, none⟩) n c) n xs) {j : Nat} (hj : j < n * size) : ∃ u, w.cell? ⟨g, j, none⟩ = some u := by
  have h1 := h.1
  exact ⟨_, own_cell h (List.getElem?_eq_getElem (by omega))⟩
end Go.Proofs.YtmkpajjnjgnmkabGreatDoor

namespace Go.Proofs.YtmkpajjnjgnmkabGreatDoor
open Go.RowKit

set_option maxHeartbeats 800000 in
theorem szPool_any (c0 c1 c2 c3 c4 c5 c6 c7 c8 c11 : Value) (A1 A2 : Option Addr) (n1 k1 n2 k2 : Nat) (z : Int) (w : World) (h0 : 0 ≤ z) (hz : z ≤ 1048576) (hm1 : n1 ≤ maxLen) (hm2 : n2 ≤ maxLen) :
    Calls Tryz.prog 13 #[.agg #[c0, c1, c2, c3, c4, c5, c6, c7, c8, .slice A1 n1 k1, .slice A2 n2 k2, c11], .int .i64 z] w fun e w' => e = .returned (.int .i64 (szTV z n1 n2)) ∧ Below w.heap.size w w' := by
  have hs := fun w => szNode_any c4 c5 c6 c7 c8 c11 A1 A2 n1 k1 n2 k2 z w h0 hz hm1 hm2
  generalize hy : szTV z n1 n2 = y at hs
  have HY := Lib.hid (szTV_ok hy)
  have HS := Lib.hid hs
  clear hs hy hm1 hm2
  go_enter Tryz.func13, Tryz.ntmps13
  go_wp2_with fail
  refine (HS.out _).mono ?_
  rintro e w1 ⟨rfl, hb1⟩
  have hz1 := hb1.size
  simp at hz1
  rcases HY.out with rfl | hy
  · go_wp2_with fail
    go_ret
    exact ⟨rfl, (by repeat' (first | exact Below.refl _ _ | refine Below.alloc ?_ ?_ _ | refine Below.setCell ?_ ?_ _ | refine Below.drew ?_ | (apply below_step; assumption) | (simp; done) | (simp; omega) | omega))⟩
  · obtain ⟨a1, -, -, -⟩ := hy h0
    have a1' : decide (y < 0) = false := by simp; omega
    go_wp2_with fail
    go_ret
    exact ⟨rfl, (by repeat' (first | exact Below.refl _ _ | refine Below.alloc ?_ ?_ _ | refine Below.setCell ?_ ?_ _ | refine Below.drew ?_ | (apply below_step; assumption) | (simp; done) | (simp; omega) | omega))⟩

def NewPoolO (w : World) (p : PV) (e : Ending) (w' : World) : Prop := ∃ g1 g2, e = .returned (.agg #[.int .i64 p.id, .int .i64 p.min, .int .i64 p.max, .int .i64 p.prio, .int .i64 p.shape.id, .int .i64 p.shape.pool, .int .i64 p.shape.cap.c, .int .i64 p.shape.cap.m, .int .i64 p.shape.cap.p, .slice (some ⟨g1, 0, none⟩) p.shape.labs.length p.shape.labs.length, .slice (some ⟨g2, 0, none⟩) p.shape.taints.length p.shape.taints.length, .bool p.shape.cordon]) ∧
  w.heap.size ≤ g1 ∧ w.heap.size ≤ g2 ∧ g2 < w'.heap.size ∧ BlockIs w' g1 110 (labL p.shape.labs).toArray ∧ BlockIs w' g2 3 (intL p.shape.taints).toArray ∧ Below w.heap.size w w'
set_option maxHeartbeats 1600000 in
theorem toPool_o (p : PV) (v1 v2 : Value) (w : World) (h1 : LabSl w v1 p.shape.labs) (h2 : IntSl w v2 p.shape.taints) (l1 : p.shape.labs.length ≤ 1048576) (l2 : p.shape.taints.length ≤ 1048576) :
    Calls Tryz.prog 16 #[.agg #[.int .i64 p.id, .int .i64 p.min, .int .i64 p.max, .int .i64 p.prio, .int .i64 p.shape.id, .int .i64 p.shape.pool, .int .i64 p.shape.cap.c, .int .i64 p.shape.cap.m, .int .i64 p.shape.cap.p, v1, v2, .bool p.shape.cordon]] w (NewPoolO w p) := by
  have H1 := Lib.hid h1
  have H2 := Lib.hid h2
  have L1 := Lib.hid l1
  have L2 := Lib.hid l2
  clear h1 h2 l1 l2
  go_enter Tryz.func16, Tryz.ntmps16
  go_wp2_with fail
  have hX : Below w.heap.size w (((w.alloc (.cells #[.int .i64 p.id, .int .i64 p.min, .int .i64 p.max, .int .i64 p.prio, .int .i64 p.shape.id, .int .i64 p.shape.pool, .int .i64 p.shape.cap.c, .int .i64 p.shape.cap.m, .int .i64 p.shape.cap.p, v1, v2, .bool p.shape.cordon] 55)).alloc (.cells #[.int .i64 0, .int .i64 0, .int .i64 0, .int .i64 0, .int .i64 0, .int .i64 0, .int .i64 0, .int .i64 0, .int .i64 0, .slice none 0 0, .slice none 0 0, .bool false] 63)).alloc (.cells #[.int .i64 p.id, .int .i64 p.min, .int .i64 p.max, .int .i64 p.prio, .int .i64 0, .int .i64 0, .int .i64 0, .int .i64 0, .int .i64 0, .slice none 0 0, .slice none 0 0, .bool false] 63)) := (by repeat' (first | exact Below.refl _ _ | refine Below.alloc ?_ ?_ _ | refine Below.setCell ?_ ?_ _ | refine Below.drew ?_ | (apply below_step; assumption) | (simp; done) | (simp; omega) | omega))
  refine (toNode_o p.shape v1 v2 _ (H1.out.below hX) (H2.out.below hX) L1.out L2.out).mono ?_
  rintro e w1 ⟨g1, g2, rfl, k1, k2, k3, bl, it, hb1⟩
  have hz1 := hb1.size
  simp at hz1 k1 k2
  have B1 : BlockIs w1 (w.heap.size + 1) 63 #[.int .i64 0, .int .i64 0, .int .i64 0, .int .i64 0, .int .i64 0, .int .i64 0, .int .i64 0, .int .i64 0, .int .i64 0, .slice none 0 0, .slice none 0 0, .bool false] := (BlockIs.alloc (BlockIs.new' (by simp)) _).below hb1 (by simp)
  have B2 : BlockIs w1 (w.heap.size + 1 + 1) 63 #[.int .i64 p.id, .int .i64 p.min, .int .i64 p.max, .int .i64 p.prio, .int .i64 0, .int .i64 0, .int .i64 0, .int .i64 0, .int .i64 0, .slice none 0 0, .slice none 0 0, .bool false] := (BlockIs.new' (by simp)).below hb1 (by simp)
  have hC1 := below_of hX hb1
  have c0 := B2.cell 0
  have c1 := B2.cell 1
  have c2 := B2.cell 2
  have c3 := B2.cell 3
  have c4 := B2.cell 4
  have c5 := B2.cell 5
  have c6 := B2.cell 6
  have c7 := B2.cell 7
  have c8 := B2.cell 8
  have c9 := B2.cell 9
  have c10 := B2.cell 10
  have c11 := B2.cell 11
  have d0 := B1.cell 0
  have d1 := B1.cell 1
  have d2 := B1.cell 2
  have d3 := B1.cell 3
  have d4 := B1.cell 4
  have d5 := B1.cell 5
  have d6 := B1.cell 6
  have d7 := B1.cell 7
  have d8 := B1.cell 8
  have d9 := B1.cell 9
  have d10 := B1.cell 10
  have d11 := B1.cell 11
  have f1 := B1.frozen
  have f2 := B2.frozen
  simp at c0 c1 c2 c3 c4 c5 c6 c7 c8 c9 c10 c11 d0 d1 d2 d3 d4 d5 d6 d7 d8 d9 d10 d11
  have HB1 := Lib.hid B1
  have HG1 := Lib.hid bl
  have HG2 := Lib.hid it
  clear B1 B2 bl it hb1 hX
  go_wp2_with fail
  have hZ : BlockIs ((((((((((((((((((((w1.setCell ⟨w.heap.size + 1 + 1, 4, none⟩ (.int .i64 p.shape.id)).setCell ⟨w.heap.size + 1 + 1, 4 + 1, none⟩ (.int .i64 p.shape.pool)).setCell ⟨w.heap.size + 1 + 1, 4 + 2, none⟩ (.int .i64 p.shape.cap.c)).setCell ⟨w.heap.size + 1 + 1, 4 + 3, none⟩ (.int .i64 p.shape.cap.m)).setCell ⟨w.heap.size + 1 + 1, 4 + 4, none⟩ (.int .i64 p.shape.cap.p)).setCell ⟨w.heap.size + 1 + 1, 4 + 5, none⟩ (.slice (some ⟨g1, 0, none⟩) p.shape.labs.length p.shape.labs.length)).setCell ⟨w.heap.size + 1 + 1, 4 + 6, none⟩ (.slice (some ⟨g2, 0, none⟩) p.shape.taints.length p.shape.taints.length)).setCell ⟨w.heap.size + 1 + 1, 4 + 7, none⟩ (.bool p.shape.cordon)).setCell ⟨w.heap.size + 1, 0, none⟩ (.int .i64 p.id)).setCell ⟨w.heap.size + 1, 1, none⟩ (.int .i64 p.min)).setCell ⟨w.heap.size + 1, 2, none⟩ (.int .i64 p.max)).setCell ⟨w.heap.size + 1, 3, none⟩ (.int .i64 p.prio)).setCell ⟨w.heap.size + 1, 4, none⟩ (.int .i64 p.shape.id)).setCell ⟨w.heap.size + 1, 5, none⟩ (.int .i64 p.shape.pool)).setCell ⟨w.heap.size + 1, 6, none⟩ (.int .i64 p.shape.cap.c)).setCell ⟨w.heap.size + 1, 7, none⟩ (.int .i64 p.shape.cap.m)).setCell ⟨w.heap.size + 1, 8, none⟩ (.int .i64 p.shape.cap.p)).setCell ⟨w.heap.size + 1, 9, none⟩ (.slice (some ⟨g1, 0, none⟩) p.shape.labs.length p.shape.labs.length)).setCell ⟨w.heap.size + 1, 10, none⟩ (.slice (some ⟨g2, 0, none⟩) p.shape.taints.length p.shape.taints.length)).setCell ⟨w.heap.size + 1, 11, none⟩ (.bool p.shape.cordon)) (w.heap.size + 1) 63 #[.int .i64 p.id, .int .i64 p.min, .int .i64 p.max, .int .i64 p.prio, .int .i64 p.shape.id, .int .i64 p.shape.pool, .int .i64 p.shape.cap.c, .int .i64 p.shape.cap.m, .int .i64 p.shape.cap.p, .slice (some ⟨g1, 0, none⟩) p.shape.labs.length p.shape.labs.length, .slice (some ⟨g2, 0, none⟩) p.shape.taints.length p.shape.taints.length, .bool p.shape.cordon] := by
    have := (BlockIs.putFar (g := w.heap.size + 1 + 1) (o := 4) (ds := [.int .i64 p.shape.id, .int .i64 p.shape.pool, .int .i64 p.shape.cap.c, .int .i64 p.shape.cap.m, .int .i64 p.shape.cap.p, .slice (some ⟨g1, 0, none⟩) p.shape.labs.length p.shape.labs.length, .slice (some ⟨g2, 0, none⟩) p.shape.taints.length p.shape.taints.length, .bool p.shape.cordon]) HB1.out (by omega)).putAll (o := 0) (ds := [.int .i64 p.id, .int .i64 p.min, .int .i64 p.max, .int .i64 p.prio, .int .i64 p.shape.id, .int .i64 p.shape.pool, .int .i64 p.shape.cap.c, .int .i64 p.shape.cap.m, .int .i64 p.shape.cap.p, .slice (some ⟨g1, 0, none⟩) p.shape.labs.length p.shape.labs.length, .slice (some ⟨g2, 0, none⟩) p.shape.taints.length p.shape.taints.length, .bool p.shape.cordon])
    have e : setAll #[.int .i64 0, .int .i64 0, .int .i64 0, .int .i64 0, .int .i64 0, .int .i64 0, .int .i64 0, .int .i64 0, .int .i64 0, .slice none 0 0, .slice none 0 0, .bool false] 0 [.int .i64 p.id, .int .i64 p.min, .int .i64 p.max, .int .i64 p.prio, .int .i64 p.shape.id, .int .i64 p.shape.pool, .int .i64 p.shape.cap.c, .int .i64 p.shape.cap.m, .int .i64 p.shape.cap.p, .slice (some ⟨g1, 0, none⟩) p.shape.labs.length p.shape.labs.length, .slice (some ⟨g2, 0, none⟩) p.shape.taints.length p.shape.taints.length, .bool p.shape.cordon] = #[.int .i64 p.id, .int .i64 p.min, .int .i64 p.max, .int .i64 p.prio, .int .i64 p.shape.id, .int .i64 p.shape.pool, .int .i64 p.shape.cap.c, .int .i64 p.shape.cap.m, .int .i64 p.shape.cap.p, .slice (some ⟨g1, 0, none⟩) p.shape.labs.length p.shape.labs.length, .slice (some ⟨g2, 0, none⟩) p.shape.taints.length p.shape.taints.length, .bool p.shape.cordon] := by simp [setAll]
    rw [e] at this
    exact this
  have hG : BlockIs ((((((((((((((((((((w1.setCell ⟨w.heap.size + 1 + 1, 4, none⟩ (.int .i64 p.shape.id)).setCell ⟨w.heap.size + 1 + 1, 4 + 1, none⟩ (.int .i64 p.shape.pool)).setCell ⟨w.heap.size + 1 + 1, 4 + 2, none⟩ (.int .i64 p.shape.cap.c)).setCell ⟨w.heap.size + 1 + 1, 4 + 3, none⟩ (.int .i64 p.shape.cap.m)).setCell ⟨w.heap.size + 1 + 1, 4 + 4, none⟩ (.int .i64 p.shape.cap.p)).setCell ⟨w.heap.size + 1 + 1, 4 + 5, none⟩ (.slice (some ⟨g1, 0, none⟩) p.shape.labs.length p.shape.labs.length)).setCell ⟨w.heap.size + 1 + 1, 4 + 6, none⟩ (.slice (some ⟨g2, 0, none⟩) p.shape.taints.length p.shape.taints.length)).setCell ⟨w.heap.size + 1 + 1, 4 + 7, none⟩ (.bool p.shape.cordon)).setCell ⟨w.heap.size + 1, 0, none⟩ (.int .i64 p.id)).setCell ⟨w.heap.size + 1, 1, none⟩ (.int .i64 p.min)).setCell ⟨w.heap.size + 1, 2, none⟩ (.int .i64 p.max)).setCell ⟨w.heap.size + 1, 3, none⟩ (.int .i64 p.prio)).setCell ⟨w.heap.size + 1, 4, none⟩ (.int .i64 p.shape.id)).setCell ⟨w.heap.size + 1, 5, none⟩ (.int .i64 p.shape.pool)).setCell ⟨w.heap.size + 1, 6, none⟩ (.int .i64 p.shape.cap.c)).setCell ⟨w.heap.size + 1, 7, none⟩ (.int .i64 p.shape.cap.m)).setCell ⟨w.heap.size + 1, 8, none⟩ (.int .i64 p.shape.cap.p)).setCell ⟨w.heap.size + 1, 9, none⟩ (.slice (some ⟨g1, 0, none⟩) p.shape.labs.length p.shape.labs.length)).setCell ⟨w.heap.size + 1, 10, none⟩ (.slice (some ⟨g2, 0, none⟩) p.shape.taints.length p.shape.taints.length)).setCell ⟨w.heap.size + 1, 11, none⟩ (.bool p.shape.cordon)) g1 110 (labL p.shape.labs).toArray := BlockIs.putFar (o := 0) (ds := [.int .i64 p.id, .int .i64 p.min, .int .i64 p.max, .int .i64 p.prio, .int .i64 p.shape.id, .int .i64 p.shape.pool, .int .i64 p.shape.cap.c, .int .i64 p.shape.cap.m, .int .i64 p.shape.cap.p, .slice (some ⟨g1, 0, none⟩) p.shape.labs.length p.shape.labs.length, .slice (some ⟨g2, 0, none⟩) p.shape.taints.length p.shape.taints.length, .bool p.shape.cordon]) (BlockIs.putFar (g := w.heap.size + 1 + 1) (o := 4) (ds := [.int .i64 p.shape.id, .int .i64 p.shape.pool, .int .i64 p.shape.cap.c, .int .i64 p.shape.cap.m, .int .i64 p.shape.cap.p, .slice (some ⟨g1, 0, none⟩) p.shape.labs.length p.shape.labs.length, .slice (some ⟨g2, 0, none⟩) p.shape.taints.length p.shape.taints.length, .bool p.shape.cordon]) HG1.out (by omega)) (by omega)
  have hI : BlockIs ((((((((((((((((((((w1.setCell ⟨w.heap.size + 1 + 1, 4, none⟩ (.int .i64 p.shape.id)).setCell ⟨w.heap.size + 1 + 1, 4 + 1, none⟩ (.int .i64 p.shape.pool)).setCell ⟨w.heap.size + 1 + 1, 4 + 2, none⟩ (.int .i64 p.shape.cap.c)).setCell ⟨w.heap.size + 1 + 1, 4 + 3, none⟩ (.int .i64 p.shape.cap.m)).setCell ⟨w.heap.size + 1 + 1, 4 + 4, none⟩ (.int .i64 p.shape.cap.p)).setCell ⟨w.heap.size + 1 + 1, 4 + 5, none⟩ (.slice (some ⟨g1, 0, none⟩) p.shape.labs.length p.shape.labs.length)).setCell ⟨w.heap.size + 1 + 1, 4 + 6, none⟩ (.slice (some ⟨g2, 0, none⟩) p.shape.taints.length p.shape.taints.length)).setCell ⟨w.heap.size + 1 + 1, 4 + 7, none⟩ (.bool p.shape.cordon)).setCell ⟨w.heap.size + 1, 0, none⟩ (.int .i64 p.id)).setCell ⟨w.heap.size + 1, 1, none⟩ (.int .i64 p.min)).setCell ⟨w.heap.size + 1, 2, none⟩ (.int .i64 p.max)).setCell ⟨w.heap.size + 1, 3, none⟩ (.int .i64 p.prio)).setCell ⟨w.heap.size + 1, 4, none⟩ (.int .i64 p.shape.id)).setCell ⟨w.heap.size + 1, 5, none⟩ (.int .i64 p.shape.pool)).setCell ⟨w.heap.size + 1, 6, none⟩ (.int .i64 p.shape.cap.c)).setCell ⟨w.heap.size + 1, 7, none⟩ (.int .i64 p.shape.cap.m)).setCell ⟨w.heap.size + 1, 8, none⟩ (.int .i64 p.shape.cap.p)).setCell ⟨w.heap.size + 1, 9, none⟩ (.slice (some ⟨g1, 0, none⟩) p.shape.labs.length p.shape.labs.length)).setCell ⟨w.heap.size + 1, 10, none⟩ (.slice (some ⟨g2, 0, none⟩) p.shape.taints.length p.shape.taints.length)).setCell ⟨w.heap.size + 1, 11, none⟩ (.bool p.shape.cordon)) g2 3 (intL p.shape.taints).toArray := BlockIs.putFar (o := 0) (ds := [.int .i64 p.id, .int .i64 p.min, .int .i64 p.max, .int .i64 p.prio, .int .i64 p.shape.id, .int .i64 p.shape.pool, .int .i64 p.shape.cap.c, .int .i64 p.shape.cap.m, .int .i64 p.shape.cap.p, .slice (some ⟨g1, 0, none⟩) p.shape.labs.length p.shape.labs.length, .slice (some ⟨g2, 0, none⟩) p.shape.taints.length p.shape.taints.length, .bool p.shape.cordon]) (BlockIs.putFar (g := w.heap.size + 1 + 1) (o := 4) (ds := [.int .i64 p.shape.id, .int .i64 p.shape.pool, .int .i64 p.shape.cap.c, .int .i64 p.shape.cap.m, .int .i64 p.shape.cap.p, .slice (some ⟨g1, 0, none⟩) p.shape.labs.length p.shape.labs.length, .slice (some ⟨g2, 0, none⟩) p.shape.taints.length p.shape.taints.length, .bool p.shape.cordon]) HG2.out (by omega)) (by omega)
  have hB : Below w.heap.size w ((((((((((((((((((((w1.setCell ⟨w.heap.size + 1 + 1, 4, none⟩ (.int .i64 p.shape.id)).setCell ⟨w.heap.size + 1 + 1, 4 + 1, none⟩ (.int .i64 p.shape.pool)).setCell ⟨w.heap.size + 1 + 1, 4 + 2, none⟩ (.int .i64 p.shape.cap.c)).setCell ⟨w.heap.size + 1 + 1, 4 + 3, none⟩ (.int .i64 p.shape.cap.m)).setCell ⟨w.heap.size + 1 + 1, 4 + 4, none⟩ (.int .i64 p.shape.cap.p)).setCell ⟨w.heap.size + 1 + 1, 4 + 5, none⟩ (.slice (some ⟨g1, 0, none⟩) p.shape.labs.length p.shape.labs.length)).setCell ⟨w.heap.size + 1 + 1, 4 + 6, none⟩ (.slice (some ⟨g2, 0, none⟩) p.shape.taints.length p.shape.taints.length)).setCell ⟨w.heap.size + 1 + 1, 4 + 7, none⟩ (.bool p.shape.cordon)).setCell ⟨w.heap.size + 1, 0, none⟩ (.int .i64 p.id)).setCell ⟨w.heap.size + 1, 1, none⟩ (.int .i64 p.min)).setCell ⟨w.heap.size + 1, 2, none⟩ (.int .i64 p.max)).setCell ⟨w.heap.size + 1, 3, none⟩ (.int .i64 p.prio)).setCell ⟨w.heap.size + 1, 4, none⟩ (.int .i64 p.shape.id)).setCell ⟨w.heap.size + 1, 5, none⟩ (.int .i64 p.shape.pool)).setCell ⟨w.heap.size + 1, 6, none⟩ (.int .i64 p.shape.cap.c)).setCell ⟨w.heap.size + 1, 7, none⟩ (.int .i64 p.shape.cap.m)).setCell ⟨w.heap.size + 1, 8, none⟩ (.int .i64 p.shape.cap.p)).setCell ⟨w.heap.size + 1, 9, none⟩ (.slice (some ⟨g1, 0, none⟩) p.shape.labs.length p.shape.labs.length)).setCell ⟨w.heap.size + 1, 10, none⟩ (.slice (some ⟨g2, 0, none⟩) p.shape.taints.length p.shape.taints.length)).setCell ⟨w.heap.size + 1, 11, none⟩ (.bool p.shape.cordon)) := putAll_below (o := 0) (ds := [.int .i64 p.id, .int .i64 p.min, .int .i64 p.max, .int .i64 p.prio, .int .i64 p.shape.id, .int .i64 p.shape.pool, .int .i64 p.shape.cap.c, .int .i64 p.shape.cap.m, .int .i64 p.shape.cap.p, .slice (some ⟨g1, 0, none⟩) p.shape.labs.length p.shape.labs.length, .slice (some ⟨g2, 0, none⟩) p.shape.taints.length p.shape.taints.length, .bool p.shape.cordon]) (putAll_below (g := w.heap.size + 1 + 1) (o := 4) (ds := [.int .i64 p.shape.id, .int .i64 p.shape.pool, .int .i64 p.shape.cap.c, .int .i64 p.shape.cap.m, .int .i64 p.shape.cap.p, .slice (some ⟨g1, 0, none⟩) p.shape.labs.length p.shape.labs.length, .slice (some ⟨g2, 0, none⟩) p.shape.taints.length p.shape.taints.length, .bool p.shape.cordon]) hC1 (by omega)) (by omega)
  have hs : ((((((((((((((((((((w1.setCell ⟨w.heap.size + 1 + 1, 4, none⟩ (.int .i64 p.shape.id)).setCell ⟨w.heap.size + 1 + 1, 4 + 1, none⟩ (.int .i64 p.shape.pool)).setCell ⟨w.heap.size + 1 + 1, 4 + 2, none⟩ (.int .i64 p.shape.cap.c)).setCell ⟨w.heap.size + 1 + 1, 4 + 3, none⟩ (.int .i64 p.shape.cap.m)).setCell ⟨w.heap.size + 1 + 1, 4 + 4, none⟩ (.int .i64 p.shape.cap.p)).setCell ⟨w.heap.size + 1 + 1, 4 + 5, none⟩ (.slice (some ⟨g1, 0, none⟩) p.shape.labs.length p.shape.labs.length)).setCell ⟨w.heap.size + 1 + 1, 4 + 6, none⟩ (.slice (some ⟨g2, 0, none⟩) p.shape.taints.length p.shape.taints.length)).setCell ⟨w.heap.size + 1 + 1, 4 + 7, none⟩ (.bool p.shape.cordon)).setCell ⟨w.heap.size + 1, 0, none⟩ (.int .i64 p.id)).setCell ⟨w.heap.size + 1, 1, none⟩ (.int .i64 p.min)).setCell ⟨w.heap.size + 1, 2, none⟩ (.int .i64 p.max)).setCell ⟨w.heap.size + 1, 3, none⟩ (.int .i64 p.prio)).setCell ⟨w.heap.size + 1, 4, none⟩ (.int .i64 p.shape.id)).setCell ⟨w.heap.size + 1, 5, none⟩ (.int .i64 p.shape.pool)).setCell ⟨w.heap.size + 1, 6, none⟩ (.int .i64 p.shape.cap.c)).setCell ⟨w.heap.size + 1, 7, none⟩ (.int .i64 p.shape.cap.m)).setCell ⟨w.heap.size + 1, 8, none⟩ (.int .i64 p.shape.cap.p)).setCell ⟨w.heap.size + 1, 9, none⟩ (.slice (some ⟨g1, 0, none⟩) p.shape.labs.length p.shape.labs.length)).setCell ⟨w.heap.size + 1, 10, none⟩ (.slice (some ⟨g2, 0, none⟩) p.shape.taints.length p.shape.taints.length)).setCell ⟨w.heap.size + 1, 11, none⟩ (.bool p.shape.cordon)).heap.size = w1.heap.size := (putAll_size (o := 0) (ds := [.int .i64 p.id, .int .i64 p.min, .int .i64 p.max, .int .i64 p.prio, .int .i64 p.shape.id, .int .i64 p.shape.pool, .int .i64 p.shape.cap.c, .int .i64 p.shape.cap.m, .int .i64 p.shape.cap.p, .slice (some ⟨g1, 0, none⟩) p.shape.labs.length p.shape.labs.length, .slice (some ⟨g2, 0, none⟩) p.shape.taints.length p.shape.taints.length, .bool p.shape.cordon])).trans (putAll_size (g := w.heap.size + 1 + 1) (o := 4) (ds := [.int .i64 p.shape.id, .int .i64 p.shape.pool, .int .i64 p.shape.cap.c, .int .i64 p.shape.cap.m, .int .i64 p.shape.cap.p, .slice (some ⟨g1, 0, none⟩) p.shape.labs.length p.shape.labs.length, .slice (some ⟨g2, 0, none⟩) p.shape.taints.length p.shape.taints.length, .bool p.shape.cordon]))
  generalize ((((((((((((((((((((w1.setCell ⟨w.heap.size + 1 + 1, 4, none⟩ (.int .i64 p.shape.id)).setCell ⟨w.heap.size + 1 + 1, 4 + 1, none⟩ (.int .i64 p.shape.pool)).setCell ⟨w.heap.size + 1 + 1, 4 + 2, none⟩ (.int .i64 p.shape.cap.c)).setCell ⟨w.heap.size + 1 + 1, 4 + 3, none⟩ (.int .i64 p.shape.cap.m)).setCell ⟨w.heap.size + 1 + 1, 4 + 4, none⟩ (.int .i64 p.shape.cap.p)).setCell ⟨w.heap.size + 1 + 1, 4 + 5, none⟩ (.slice (some ⟨g1, 0, none⟩) p.shape.labs.length p.shape.labs.length)).setCell ⟨w.heap.size + 1 + 1, 4 + 6, none⟩ (.slice (some ⟨g2, 0, none⟩) p.shape.taints.length p.shape.taints.length)).setCell ⟨w.heap.size + 1 + 1, 4 + 7, none⟩ (.bool p.shape.cordon)).setCell ⟨w.heap.size + 1, 0, none⟩ (.int .i64 p.id)).setCell ⟨w.heap.size + 1, 1, none⟩ (.int .i64 p.min)).setCell ⟨w.heap.size + 1, 2, none⟩ (.int .i64 p.max)).setCell ⟨w.heap.size + 1, 3, none⟩ (.int .i64 p.prio)).setCell ⟨w.heap.size + 1, 4, none⟩ (.int .i64 p.shape.id)).setCell ⟨w.heap.size + 1, 5, none⟩ (.int .i64 p.shape.pool)).setCell ⟨w.heap.size + 1, 6, none⟩ (.int .i64 p.shape.cap.c)).setCell ⟨w.heap.size + 1, 7, none⟩ (.int .i64 p.shape.cap.m)).setCell ⟨w.heap.size + 1, 8, none⟩ (.int .i64 p.shape.cap.p)).setCell ⟨w.heap.size + 1, 9, none⟩ (.slice (some ⟨g1, 0, none⟩) p.shape.labs.length p.shape.labs.length)).setCell ⟨w.heap.size + 1, 10, none⟩ (.slice (some ⟨g2, 0, none⟩) p.shape.taints.length p.shape.taints.length)).setCell ⟨w.heap.size + 1, 11, none⟩ (.bool p.shape.cordon)) = X at hZ hG hI hB hs ⊢
  have z0 := hZ.cell 0
  have z1 := hZ.cell 1
  have z2 := hZ.cell 2
  have z3 := hZ.cell 3
  have z4 := hZ.cell 4
  have z5 := hZ.cell 5
  have z6 := hZ.cell 6
  have z7 := hZ.cell 7
  have z8 := hZ.cell 8
  have z9 := hZ.cell 9
  have z10 := hZ.cell 10
  have z11 := hZ.cell 11
  simp at z0 z1 z2 z3 z4 z5 z6 z7 z8 z9 z10 z11
  exact bodyPost_ret (v := .agg #[.int .i64 p.id, .int .i64 p.min, .int .i64 p.max, .int .i64 p.prio, .int .i64 p.shape.id, .int .i64 p.shape.pool, .int .i64 p.shape.cap.c, .int .i64 p.shape.cap.m, .int .i64 p.shape.cap.p, .slice (some ⟨g1, 0, none⟩) p.shape.labs.length p.shape.labs.length, .slice (some ⟨g2, 0, none⟩) p.shape.taints.length p.shape.taints.length, .bool p.shape.cordon]) (by simp [results, Tryz.results16, go_sem, z0, z1, z2, z3, z4, z5, z6, z7, z8, z9, z10, z11]) rfl ⟨g1, g2, rfl, by omega, by omega, by omega, hG, hI, hB⟩

set_option maxHeartbeats 1600000 in
theorem eqPool_same (p : PV) (v1 v2 u1 u2 : Value) (w : World) (h1 : LabSl w v1 p.shape.labs) (h2 : IntSl w v2 p.shape.taints) (k1 : LabSl w u1 p.shape.labs) (k2 : IntSl w u2 p.shape.taints) (l1 : p.shape.labs.length ≤ 1048576) (l2 : p.shape.taints.length ≤ 1048576) :
    Calls Tryz.prog 25 #[.agg #[.int .i64 p.id, .int .i64 p.min, .int .i64 p.max, .int .i64 p.prio, .int .i64 p.shape.id, .int .i64 p.shape.pool, .int .i64 p.shape.cap.c, .int .i64 p.shape.cap.m, .int .i64 p.shape.cap.p, v1, v2, .bool p.shape.cordon], .agg #[.int .i64 p.id, .int .i64 p.min, .int .i64 p.max, .int .i64 p.prio, .int .i64 p.shape.id, .int .i64 p.shape.pool, .int .i64 p.shape.cap.c, .int .i64 p.shape.cap.m, .int .i64 p.shape.cap.p, u1, u2, .bool p.shape.cordon]] w fun e w' => e = .returned (.bool true) ∧ Below w.heap.size w w' := by
  have he := fun w a b c d => eqNode_same p.shape v1 v2 u1 u2 w a b c d l1 l2
  have H1 := Lib.hid h1
  have H2 := Lib.hid h2
  have K1 := Lib.hid k1
  have K2 := Lib.hid k2
  have HE := Lib.hid he
  have e1 : (p.id != p.id) = false := by simp
  have e2 : (p.min != p.min) = false := by simp
  have e3 : (p.max != p.max) = false := by simp
  have e4 : (p.prio != p.prio) = false := by simp
  clear h1 h2 k1 k2 l1 l2 he
  go_enter Tryz.func25, Tryz.ntmps25
  go_wp2_with fail
  have hX : Below w.heap.size w ((w.alloc (.cells #[.int .i64 p.id, .int .i64 p.min, .int .i64 p.max, .int .i64 p.prio, .int .i64 p.shape.id, .int .i64 p.shape.pool, .int .i64 p.shape.cap.c, .int .i64 p.shape.cap.m, .int .i64 p.shape.cap.p, v1, v2, .bool p.shape.cordon] 63)).alloc (.cells #[.int .i64 p.id, .int .i64 p.min, .int .i64 p.max, .int .i64 p.prio, .int .i64 p.shape.id, .int .i64 p.shape.pool, .int .i64 p.shape.cap.c, .int .i64 p.shape.cap.m, .int .i64 p.shape.cap.p, u1, u2, .bool p.shape.cordon] 63)) := (by repeat' (first | exact Below.refl _ _ | refine Below.alloc ?_ ?_ _ | refine Below.setCell ?_ ?_ _ | refine Below.drew ?_ | (apply below_step; assumption) | (simp; done) | (simp; omega) | omega))
  refine (HE.out _ (H1.out.below hX) (H2.out.below hX) (K1.out.below hX) (K2.out.below hX)).mono ?_
  rintro e w1 ⟨rfl, hb1⟩
  have hC1 := below_of hX hb1
  go_wp2_with fail
  go_ret
  exact ⟨rfl, hC1⟩
def PoolQ (w : World) (t : PV) (cs : List Value) : Prop := ∃ v1 v2, cs = [.int .i64 t.id, .int .i64 t.min, .int .i64 t.max, .int .i64 t.prio, .int .i64 t.shape.id, .int .i64 t.shape.pool, .int .i64 t.shape.cap.c, .int .i64 t.shape.cap.m, .int .i64 t.shape.cap.p, v1, v2, .bool t.shape.cordon] ∧ LabSl w v1 t.shape.labs ∧ IntSl w v2 t.shape.taints ∧ t.shape.labs.length ≤ maxLen ∧ t.shape.taints.length ≤ maxLen
theorem PoolQ.kept : Kept PoolQ := fun _ _ _ _ hb ⟨v1, v2, e, h1, h2, h3⟩ => ⟨v1, v2, e, h1.below hb, h2.below hb, h3⟩
end Go.Proofs.YtmkpajjnjgnmkabGreatDoor
namespace Go.Proofs.YtmkpajjnjgnmkabGreatDoor
open Go.ChangeShapes Go.WideShapes Go.ChangeAt Go.RowKit Go.Joins
section
variable {H : Type} {enc : TypeId × Value → H} {W : World}
theorem list12 {α : Type} {l : List α} (h : l.length = 12) : ∃ a b c d e f g i j k m n, l = [a, b, c, d, e, f, g, i, j, k, m, n] := by
  match l, h with
  | [a, b, c, d, e, f, g, i, j, k, m, n], _ => exact ⟨a, b, c, d, e, f, g, i, j, k, m, n, rfl⟩
theorem Tryz.c_pool : Tryz.prog.cellsOf 55 = 12 := by kernel_rfl
set_option maxRecDepth 100000 in
theorem open_poolC {fuel : Nat} {cs : List Value} {x : DataW H × List MemPlace} (h : DataW.trod enc Tryz.prog W 0 (fun _ => true) true fuel 55 cs = some x) : ∃ t : PV, PoolQ W t cs := by
  obtain ⟨y0, y1, y2, y3, y4, n, hl, h0, h1, h2, h3, h4⟩ := trod_struct5 Tryz.underlying55 h
  rw [Tryz.c_pool] at hl
  obtain ⟨a, b, c, d, e, f, g, i, j, k, m, o, rfl⟩ := list12 hl
  simp only [Tryz.c_int, Tryz.c_node] at h0 h1 h2 h3 h4
  simp at h0 h1 h2 h3 h4
  obtain ⟨z0, e0, _, _⟩ := DataW.trod_int Tryz.underlying3 h0
  obtain ⟨z1, e1, _, _⟩ := DataW.trod_int Tryz.underlying3 h1
  obtain ⟨z2, e2, _, _⟩ := DataW.trod_int Tryz.underlying3 h2
  obtain ⟨z3, e3, _, _⟩ := DataW.trod_int Tryz.underlying3 h3
  obtain ⟨t, v1, v2, e4, s1, s2, s3, s4⟩ := open_nodeC h4
  simp at e0 e1 e2 e3 e4
  obtain ⟨rfl, rfl, rfl, rfl, rfl, rfl, rfl, rfl⟩ := e4
  subst e0 e1 e2 e3
  exact ⟨⟨z0, z1, z2, z3, t⟩, _, _, rfl, s1, s2, s3, s4⟩
end
end Go.Proofs.YtmkpajjnjgnmkabGreatDoor

namespace Go.Proofs.YtmkpajjnjgnmkabGreatDoor
open Go.RowKit

def PV.small (t : PV) : Prop := t.shape.labs.length ≤ 1048576 ∧ t.shape.taints.length ≤ 1048576
def PoolN (base : Nat) (w : World) (t : PV) (cs : List Value) : Prop := ∃ g1 g2, cs = [.int .i64 t.id, .int .i64 t.min, .int .i64 t.max, .int .i64 t.prio, .int .i64 t.shape.id, .int .i64 t.shape.pool, .int .i64 t.shape.cap.c, .int .i64 t.shape.cap.m, .int .i64 t.shape.cap.p, .slice (some ⟨g1, 0, none⟩) t.shape.labs.length t.shape.labs.length, .slice (some ⟨g2, 0, none⟩) t.shape.taints.length t.shape.taints.length, .bool t.shape.cordon] ∧
  base ≤ g1 ∧ base ≤ g2 ∧ g2 < w.heap.size ∧ BlockIs w g1 110 (labL t.shape.labs).toArray ∧ IntAt w g2 0 t.shape.taints ∧ t.shape.labs.length ≤ 1048576 ∧ t.shape.taints.length ≤ 1048576
theorem PoolN.kept (base : Nat) : Kept (PoolN base) := fun _ _ _ _ hb ⟨g1, g2, e, h1, h2, h3, h4, h5, h6⟩ => ⟨g1, g2, e, h1, h2, Nat.lt_of_lt_of_le h3 hb.size, h4.below hb h4.lt, h5.below hb h3, h6⟩
theorem PoolN.put {base g o : Nat} {w : World} {t : PV} {cs ds : List Value} (h : PoolN base w t cs) (hg : g < base) : PoolN base (putAll w g o ds) t cs := by
  obtain ⟨g1, g2, e, h1, h2, h3, h4, h5, h6⟩ := h
  exact ⟨g1, g2, e, h1, h2, by rw [putAll_size]; exact h3, h4.putFar (by omega), h5.putFar (by omega), h6⟩
theorem PoolN.r {base : Nat} {w : World} {t : PV} {cs : List Value} (h : PoolN base w t cs) : PoolR w t cs := by
  obtain ⟨g1, g2, e, h1, h2, h3, h4, h5, h6⟩ := h
  exact ⟨_, _, e, .inr ⟨g1, 0, _, rfl, h4.lt, LabAt.of_cells h4⟩, .inr ⟨g2, 0, _, rfl, h3, h5⟩, h6⟩
theorem PoolN.len {base : Nat} {w : World} {t : PV} {cs : List Value} (h : PoolN base w t cs) : cs.length = 12 := by
  obtain ⟨g1, g2, e, _⟩ := h; subst e; rfl
theorem toPool_n (t : PV) (cs : List Value) (w : World) (h : PoolR w t cs) : Calls Tryz.prog 16 #[.agg cs.toArray] w (RetN PoolN w t) := by
  obtain ⟨v1, v2, rfl, h1, h2, l1, l2⟩ := h
  exact (toPool_o t v1 v2 w h1 h2 l1 l2).mono fun _ _ ⟨g1, g2, e, k1, k2, k3, bl, it, hb⟩ => ⟨_, e, ⟨g1, g2, rfl, k1, k2, k3, bl, fun i r hr => (it.cell _).trans (by simp [intL, hr]), l1, l2⟩, hb⟩
theorem eqPool_r (t : PV) (cs ds : List Value) (w : World) (h : PoolR w t cs) (k : PoolR w t ds) : Calls Tryz.prog 25 #[.agg cs.toArray, .agg ds.toArray] w fun e w' => e = .returned (.bool true) ∧ Below w.heap.size w w' := by
  obtain ⟨v1, v2, rfl, h1, h2, l1, l2⟩ := h
  obtain ⟨u1, u2, rfl, k1, k2, _, _⟩ := k
  exact eqPool_same t v1 v2 u1 u2 w h1 h2 k1 k2 l1 l2
theorem Tryz.infoPool : (Tryz.prog.info? 63).map (fun i => (i.zero, i.size, i.bytes)) = some (some (.agg #[.int .i64 0, .int .i64 0, .int .i64 0, .int .i64 0, .int .i64 0, .int .i64 0, .int .i64 0, .int .i64 0, .int .i64 0, .slice none 0 0, .slice none 0 0, .bool false]), 12, 128) := by kernel_rfl
theorem make_pool (n : Nat) (h : n ≤ 1048576) (w : World) : (Instr.makeSlice 27 (.int .i64 (n : Int)) (.int .i64 (n : Int))).run Tryz.prog w = .ok (.slice (some ⟨w.heap.size, 0, none⟩) n n) (w.alloc (.cells (madeCells #[.int .i64 0, .int .i64 0, .int .i64 0, .int .i64 0, .int .i64 0, .int .i64 0, .int .i64 0, .int .i64 0, .int .i64 0, .slice none 0 0, .slice none 0 0, .bool false] (n * 12)) 63)) := by
  obtain ⟨i, hi, hzz⟩ := Option.map_eq_some_iff.1 Tryz.infoPool
  simp only [Prod.mk.injEq] at hzz
  obtain ⟨hz, hs, hb⟩ := hzz
  have := run_make (P := Tryz.prog) w 27 63 i _ Tryz.underlying27 hi hz .i64 .i64 n n (by omega) (Int.le_refl _) (by rw [hb]; omega) (by omega)
  rw [this, hs]
  simp [Value.cells]
def NewPoolS (w : World) (l : List PV) (e : Ending) (w' : World) : Prop := e = .returned (.slice (some ⟨w.heap.size, 0, none⟩) l.length l.length) ∧ CopyG (PoolN (w.heap.size + 1)) 12 63 w' w.heap.size l l.length ∧ Below w.heap.size w w'

set_option maxHeartbeats 1600000 in
theorem toPoolS_any (v : Value) (l : List PV) (w : World) (hv : PoolSl w v l) (hlen : l.length ≤ 1048576) :
    Calls Tryz.prog 6 #[v] w (NewPoolS w l) := by
  obtain ⟨A, c, rfl, hA⟩ := hv.form
  have HA := Lib.hid hA
  clear hA hv
  have hmk := make_pool l.length hlen
  go_enter Tryz.func6, Tryz.ntmps6
  go_wp2_with fail
  go_loopw [4] (fun s4 wr => ∃ k : Nat, k ≤ l.length ∧ s4 = .int .i64 k ∧ CopyG (PoolN (w.heap.size + 1)) 12 63 wr w.heap.size l k ∧ Below w.heap.size w wr) (fun s4 _ => (l.length - intOf s4).toNat)
  case atStart =>
    exact ⟨0, by omega, rfl, ⟨_, BlockIs.new _ _ _, size_madeCells _ _, fun i r hi => absurd hi (by omega)⟩, (by repeat' (first | exact Below.refl _ _ | refine Below.alloc ?_ ?_ _ | refine Below.setCell ?_ ?_ _ | refine Below.drew ?_ | (apply below_step; assumption) | (simp; done) | (simp; omega) | omega))⟩
  case round =>
    obtain ⟨k, hk, rfl, hcp, hB⟩ := hrel
    have HCP := Lib.hid hcp
    have hgl := hcp.lt
    have hzr := hB.size
    clear hcp
    by_cases hlt : k < l.length
    · obtain ⟨b, off, rfl, hbw, hat⟩ := HA.out (by omega)
      obtain ⟨t, ht⟩ : ∃ t, l[k]? = some t := ⟨_, List.getElem?_eq_getElem hlt⟩
      obtain ⟨cs, hR, hC⟩ := (hat.below PoolR.kept hB hbw) k t ht
      have HTK := Lib.hid ht
      have HR := Lib.hid (toPool_n t cs wr hR)
      obtain ⟨v1, v2, rfl, sl, si, m1, m2⟩ := hR; obtain ⟨A1, c1, rfl, _⟩ := sl.form; obtain ⟨A2, c2, rfl, _⟩ := si.form
      clear sl si m1 m2
      obtain ⟨q0, q1, q2, q3, q4, q5, q6, q7, q8, q9, q10, q11⟩ := pool_cells hC
      clear hat hC ht
      go_wp2_with fail
      refine HR.out.mono ?_
      rintro e w3 ⟨ds, rfl, hN, hb3⟩
      have hz3 := hb3.size
      have hC3 := below_of hB hb3
      have hcp := HCP.out.below (PoolN.kept _) hb3
      have HN := Lib.hid (show PoolN (w.heap.size + 1) w3 t ds from by obtain ⟨g1, g2, e, h1, h2, h3⟩ := hN; exact ⟨g1, g2, e, by omega, by omega, h3⟩)
      have HCP3 := Lib.hid hcp
      obtain ⟨cs3, hblk, hsz, _⟩ := hcp
      have hk12 : k * 12 + 12 ≤ cs3.size := by omega
      have x0 : w3.cell? ⟨w.heap.size, k * 12 + 0, none⟩ = some (cs3[k * 12 + 0]'(by omega)) := (by rw [hblk.cell]; exact Array.getElem?_eq_getElem (by omega)); have x1 : w3.cell? ⟨w.heap.size, k * 12 + 1, none⟩ = some (cs3[k * 12 + 1]'(by omega)) := (by rw [hblk.cell]; exact Array.getElem?_eq_getElem (by omega)); have x2 : w3.cell? ⟨w.heap.size, k * 12 + 2, none⟩ = some (cs3[k * 12 + 2]'(by omega)) := (by rw [hblk.cell]; exact Array.getElem?_eq_getElem (by omega)); have x3 : w3.cell? ⟨w.heap.size, k * 12 + 3, none⟩ = some (cs3[k * 12 + 3]'(by omega)) := (by rw [hblk.cell]; exact Array.getElem?_eq_getElem (by omega)); have x4 : w3.cell? ⟨w.heap.size, k * 12 + 4, none⟩ = some (cs3[k * 12 + 4]'(by omega)) := (by rw [hblk.cell]; exact Array.getElem?_eq_getElem (by omega)); have x5 : w3.cell? ⟨w.heap.size, k * 12 + 5, none⟩ = some (cs3[k * 12 + 5]'(by omega)) := (by rw [hblk.cell]; exact Array.getElem?_eq_getElem (by omega)); have x6 : w3.cell? ⟨w.heap.size, k * 12 + 6, none⟩ = some (cs3[k * 12 + 6]'(by omega)) := (by rw [hblk.cell]; exact Array.getElem?_eq_getElem (by omega)); have x7 : w3.cell? ⟨w.heap.size, k * 12 + 7, none⟩ = some (cs3[k * 12 + 7]'(by omega)) := (by rw [hblk.cell]; exact Array.getElem?_eq_getElem (by omega)); have x8 : w3.cell? ⟨w.heap.size, k * 12 + 8, none⟩ = some (cs3[k * 12 + 8]'(by omega)) := (by rw [hblk.cell]; exact Array.getElem?_eq_getElem (by omega)); have x9 : w3.cell? ⟨w.heap.size, k * 12 + 9, none⟩ = some (cs3[k * 12 + 9]'(by omega)) := (by rw [hblk.cell]; exact Array.getElem?_eq_getElem (by omega)); have x10 : w3.cell? ⟨w.heap.size, k * 12 + 10, none⟩ = some (cs3[k * 12 + 10]'(by omega)) := (by rw [hblk.cell]; exact Array.getElem?_eq_getElem (by omega)); have x11 : w3.cell? ⟨w.heap.size, k * 12 + 11, none⟩ = some (cs3[k * 12 + 11]'(by omega)) := (by rw [hblk.cell]; exact Array.getElem?_eq_getElem (by omega))
      generalize cs3[k * 12 + 0]'(by omega) = y0 at x0; generalize cs3[k * 12 + 1]'(by omega) = y1 at x1; generalize cs3[k * 12 + 2]'(by omega) = y2 at x2; generalize cs3[k * 12 + 3]'(by omega) = y3 at x3; generalize cs3[k * 12 + 4]'(by omega) = y4 at x4; generalize cs3[k * 12 + 5]'(by omega) = y5 at x5; generalize cs3[k * 12 + 6]'(by omega) = y6 at x6; generalize cs3[k * 12 + 7]'(by omega) = y7 at x7; generalize cs3[k * 12 + 8]'(by omega) = y8 at x8; generalize cs3[k * 12 + 9]'(by omega) = y9 at x9; generalize cs3[k * 12 + 10]'(by omega) = y10 at x10; generalize cs3[k * 12 + 11]'(by omega) = y11 at x11
      rw [Nat.add_zero] at x0
      have uf := hblk.frozen
      have hl3 := hblk.lt
      clear hblk hsz hk12 hN hb3
      obtain ⟨g1, g2, rfl, _⟩ := HN.out
      go_wp2_with fail
      go_roundw
      case rel =>
        have st := HCP3.out.step HTK.out (HN.out.put (by omega)) HN.out.len (fun y es h => h.put (by omega))
        exact ⟨k + 1, by omega, by go_num, st, putAll_below (ds := [_, _, _, _, _, _, _, _, _, _, _, _]) hC3 (Nat.le_refl _)⟩
      case measure => simp [intOf]; omega
    · have hkl : k = l.length := by omega
      have HF := Lib.hid (show CopyG (PoolN (w.heap.size + 1)) 12 63 wr w.heap.size l l.length by rw [← hkl]; exact HCP.out)
      clear hkl
      go_wp2_with fail
      go_ret
      exact ⟨rfl, HF.out, hB⟩
set_option maxHeartbeats 1600000 in
set_option maxRecDepth 20000 in
theorem eqPoolS_same (v1 v2 : Value) (l : List PV) (w : World) (h1 : PoolSl w v1 l) (h2 : PoolSl w v2 l) (hlen : l.length ≤ 1048576) :
    Calls Tryz.prog 9 #[v1, v2] w fun e w' => e = .returned (.bool true) ∧ Below w.heap.size w w' := by
  obtain ⟨A, c, rfl, hA⟩ := h1.form
  obtain ⟨A', c', rfl, hA'⟩ := h2.form
  have HA := Lib.hid hA
  have HA' := Lib.hid hA'
  clear hA hA' h1 h2
  have hnn : ((l.length : Int) != (l.length : Int)) = false := by simp
  go_enter Tryz.func9, Tryz.ntmps9
  go_wp2_with fail
  go_loopw [5] (fun s5 wr => ∃ k : Nat, k ≤ l.length ∧ s5 = .int .i64 k ∧ Below w.heap.size w wr) (fun s5 _ => (l.length - intOf s5).toNat)
  case atStart => exact ⟨0, by omega, rfl, Below.refl _ _⟩
  case round =>
    obtain ⟨k, hk, rfl, hB⟩ := hrel
    have hzr := hB.size
    by_cases hlt : k < l.length
    · obtain ⟨b, off, rfl, hbw, hat⟩ := HA.out (by omega)
      obtain ⟨b', off', rfl, hbw', hat'⟩ := HA'.out (by omega)
      obtain ⟨t, ht⟩ : ∃ t, l[k]? = some t := ⟨_, List.getElem?_eq_getElem hlt⟩
      obtain ⟨ds, hR, hC⟩ := (hat'.below PoolR.kept hB hbw') k t ht
      have HR' := Lib.hid hR
      obtain ⟨v3, v4, rfl, sl, si, m1, m2⟩ := hR; obtain ⟨A3, c3, rfl, _⟩ := sl.form; obtain ⟨A4, c4, rfl, _⟩ := si.form; clear sl si m1 m2
      obtain ⟨p0, p1, p2, p3, p4, p5, p6, p7, p8, p9, p10, p11⟩ := pool_cells hC
      clear hC
      obtain ⟨cs, hR, hC⟩ := (hat.below PoolR.kept hB hbw) k t ht
      have HR := Lib.hid hR
      obtain ⟨v1, v2, rfl, sl, si, m1, m2⟩ := hR; obtain ⟨A1, c1, rfl, _⟩ := sl.form; obtain ⟨A2, c2, rfl, _⟩ := si.form
      clear sl si m1 m2
      obtain ⟨q0, q1, q2, q3, q4, q5, q6, q7, q8, q9, q10, q11⟩ := pool_cells hC
      have hbr : b < wr.heap.size := by omega
      have hbr' : b' < wr.heap.size := by omega
      have HK := Lib.hid (show ∀ w', Below wr.heap.size wr w' → Below wr.heap.size wr w' ∧ w'.cell? ⟨b, off + k * 12, none⟩ = some (.int .i64 t.id) ∧ w'.cell? ⟨b, off + k * 12 + 1, none⟩ = some (.int .i64 t.min) ∧ w'.cell? ⟨b, off + k * 12 + 2, none⟩ = some (.int .i64 t.max) ∧ w'.cell? ⟨b, off + k * 12 + 3, none⟩ = some (.int .i64 t.prio) ∧ w'.cell? ⟨b, off + k * 12 + 4, none⟩ = some (.int .i64 t.shape.id) ∧ w'.cell? ⟨b, off + k * 12 + 5, none⟩ = some (.int .i64 t.shape.pool) ∧ w'.cell? ⟨b, off + k * 12 + 6, none⟩ = some (.int .i64 t.shape.cap.c) ∧ w'.cell? ⟨b, off + k * 12 + 7, none⟩ = some (.int .i64 t.shape.cap.m) ∧ w'.cell? ⟨b, off + k * 12 + 8, none⟩ = some (.int .i64 t.shape.cap.p) ∧ w'.cell? ⟨b, off + k * 12 + 9, none⟩ = some (.slice A1 t.shape.labs.length c1) ∧ w'.cell? ⟨b, off + k * 12 + 10, none⟩ = some (.slice A2 t.shape.taints.length c2) ∧ w'.cell? ⟨b, off + k * 12 + 11, none⟩ = some (.bool t.shape.cordon) ∧ w'.cell? ⟨b', off' + k * 12, none⟩ = some (.int .i64 t.id) ∧ w'.cell? ⟨b', off' + k * 12 + 1, none⟩ = some (.int .i64 t.min) ∧ w'.cell? ⟨b', off' + k * 12 + 2, none⟩ = some (.int .i64 t.max) ∧ w'.cell? ⟨b', off' + k * 12 + 3, none⟩ = some (.int .i64 t.prio) ∧ w'.cell? ⟨b', off' + k * 12 + 4, none⟩ = some (.int .i64 t.shape.id) ∧ w'.cell? ⟨b', off' + k * 12 + 5, none⟩ = some (.int .i64 t.shape.pool) ∧ w'.cell? ⟨b', off' + k * 12 + 6, none⟩ = some (.int .i64 t.shape.cap.c) ∧ w'.cell? ⟨b', off' + k * 12 + 7, none⟩ = some (.int .i64 t.shape.cap.m) ∧ w'.cell? ⟨b', off' + k * 12 + 8, none⟩ = some (.int .i64 t.shape.cap.p) ∧ w'.cell? ⟨b', off' + k * 12 + 9, none⟩ = some (.slice A3 t.shape.labs.length c3) ∧ w'.cell? ⟨b', off' + k * 12 + 10, none⟩ = some (.slice A4 t.shape.taints.length c4) ∧ w'.cell? ⟨b', off' + k * 12 + 11, none⟩ = some (.bool t.shape.cordon) from fun w' hb => ⟨hb, (hb.cell (p := ⟨_, _, none⟩) hbr).trans q0, (hb.cell (p := ⟨_, _, none⟩) hbr).trans q1, (hb.cell (p := ⟨_, _, none⟩) hbr).trans q2, (hb.cell (p := ⟨_, _, none⟩) hbr).trans q3, (hb.cell (p := ⟨_, _, none⟩) hbr).trans q4, (hb.cell (p := ⟨_, _, none⟩) hbr).trans q5, (hb.cell (p := ⟨_, _, none⟩) hbr).trans q6, (hb.cell (p := ⟨_, _, none⟩) hbr).trans q7, (hb.cell (p := ⟨_, _, none⟩) hbr).trans q8, (hb.cell (p := ⟨_, _, none⟩) hbr).trans q9, (hb.cell (p := ⟨_, _, none⟩) hbr).trans q10, (hb.cell (p := ⟨_, _, none⟩) hbr).trans q11, (hb.cell (p := ⟨_, _, none⟩) hbr').trans p0, (hb.cell (p := ⟨_, _, none⟩) hbr').trans p1, (hb.cell (p := ⟨_, _, none⟩) hbr').trans p2, (hb.cell (p := ⟨_, _, none⟩) hbr').trans p3, (hb.cell (p := ⟨_, _, none⟩) hbr').trans p4, (hb.cell (p := ⟨_, _, none⟩) hbr').trans p5, (hb.cell (p := ⟨_, _, none⟩) hbr').trans p6, (hb.cell (p := ⟨_, _, none⟩) hbr').trans p7, (hb.cell (p := ⟨_, _, none⟩) hbr').trans p8, (hb.cell (p := ⟨_, _, none⟩) hbr').trans p9, (hb.cell (p := ⟨_, _, none⟩) hbr').trans p10, (hb.cell (p := ⟨_, _, none⟩) hbr').trans p11⟩)
      have hlti : (k : Int) < (l.length : Int) := by omega
      have hk0 : (0 : Int) ≤ (k : Int) := by omega
      clear hat hat' ht hC q0 q1 q2 q3 q4 q5 q6 q7 q8 q9 q10 q11 p0 p1 p2 p3 p4 p5 p6 p7 p8 p9 p10 p11
      go_wp2_with fail
      refine wp_region_held_drew (S := (fun w' => Below wr.heap.size wr w' ∧ w'.cell? ⟨b, off + k * 12, none⟩ = some (.int .i64 t.id) ∧ w'.cell? ⟨b, off + k * 12 + 1, none⟩ = some (.int .i64 t.min) ∧ w'.cell? ⟨b, off + k * 12 + 2, none⟩ = some (.int .i64 t.max) ∧ w'.cell? ⟨b, off + k * 12 + 3, none⟩ = some (.int .i64 t.prio) ∧ w'.cell? ⟨b, off + k * 12 + 4, none⟩ = some (.int .i64 t.shape.id) ∧ w'.cell? ⟨b, off + k * 12 + 5, none⟩ = some (.int .i64 t.shape.pool) ∧ w'.cell? ⟨b, off + k * 12 + 6, none⟩ = some (.int .i64 t.shape.cap.c) ∧ w'.cell? ⟨b, off + k * 12 + 7, none⟩ = some (.int .i64 t.shape.cap.m) ∧ w'.cell? ⟨b, off + k * 12 + 8, none⟩ = some (.int .i64 t.shape.cap.p) ∧ w'.cell? ⟨b, off + k * 12 + 9, none⟩ = some (.slice A1 t.shape.labs.length c1) ∧ w'.cell? ⟨b, off + k * 12 + 10, none⟩ = some (.slice A2 t.shape.taints.length c2) ∧ w'.cell? ⟨b, off + k * 12 + 11, none⟩ = some (.bool t.shape.cordon) ∧ w'.cell? ⟨b', off' + k * 12, none⟩ = some (.int .i64 t.id) ∧ w'.cell? ⟨b', off' + k * 12 + 1, none⟩ = some (.int .i64 t.min) ∧ w'.cell? ⟨b', off' + k * 12 + 2, none⟩ = some (.int .i64 t.max) ∧ w'.cell? ⟨b', off' + k * 12 + 3, none⟩ = some (.int .i64 t.prio) ∧ w'.cell? ⟨b', off' + k * 12 + 4, none⟩ = some (.int .i64 t.shape.id) ∧ w'.cell? ⟨b', off' + k * 12 + 5, none⟩ = some (.int .i64 t.shape.pool) ∧ w'.cell? ⟨b', off' + k * 12 + 6, none⟩ = some (.int .i64 t.shape.cap.c) ∧ w'.cell? ⟨b', off' + k * 12 + 7, none⟩ = some (.int .i64 t.shape.cap.m) ∧ w'.cell? ⟨b', off' + k * 12 + 8, none⟩ = some (.int .i64 t.shape.cap.p) ∧ w'.cell? ⟨b', off' + k * 12 + 9, none⟩ = some (.slice A3 t.shape.labs.length c3) ∧ w'.cell? ⟨b', off' + k * 12 + 10, none⟩ = some (.slice A4 t.shape.taints.length c4) ∧ w'.cell? ⟨b', off' + k * 12 + 11, none⟩ = some (.bool t.shape.cordon))) (by kernel_rfl) (by (try dsimp only); exact HK.out _ (by repeat' (first | exact Below.refl _ _ | refine Below.alloc ?_ ?_ _ | refine Below.setCell ?_ ?_ _ | refine Below.drew ?_ | (apply below_step; assumption) | (simp; done) | (simp; omega) | omega))) (fun hHeld => ?_)
      refine hT 0 ?_; simp only [Act.put, rhA, rhS, rhT]
      refine hT 1 ?_; simp only [Act.put, rhA, rhS, rhT]
      refine hT 2 ?_; simp only [Act.put, rhA, rhS, rhT]
      refine hT 3 ?_; simp only [Act.put, rhA, rhS, rhT]
      refine hT 4 ?_; simp only [Act.put, rhA, rhS, rhT]
      refine hT 5 ?_; simp only [Act.put, rhA, rhS, rhT]
      refine hT 6 ?_; simp only [Act.put, rhA, rhS, rhT]
      refine hT 7 ?_; simp only [Act.put, rhA, rhS, rhT]
      refine hCall (i := 8) (o := ?a10) ?b10 (by kernel_rfl) ?c10 (fun K hK => ?d10)
      case b10 => simp only [rhN, rhM]; try rfl
      case c10 => rfl
      go_simp
      refine (eqPool_r t _ _ _ (PoolR.kept _ _ _ _ (by repeat' (first | exact Below.refl _ _ | refine Below.alloc ?_ ?_ _ | refine Below.setCell ?_ ?_ _ | refine Below.drew ?_ | (apply below_step; assumption) | (simp; done) | (simp; omega) | omega)) HR.out) (PoolR.kept _ _ _ _ (by repeat' (first | exact Below.refl _ _ | refine Below.alloc ?_ ?_ _ | refine Below.setCell ?_ ?_ _ | refine Below.drew ?_ | (apply below_step; assumption) | (simp; done) | (simp; omega) | omega)) HR'.out)).mono ?_
      rintro e w3 ⟨rfl, hb3⟩
      have hz3 := hb3.size
      try simp at hz3
      go_wp2_with fail
      refine hK.out _ _ (by (try dsimp only); exact HK.out _ (by repeat' (first | exact Below.refl _ _ | refine Below.alloc ?_ ?_ _ | refine Below.setCell ?_ ?_ _ | refine Below.drew ?_ | (apply below_step; assumption) | (simp; done) | (simp; omega) | omega))) (fun hHeld => ?_)
      clear hK K
      try simp only [Act.put, rhA, rhS, rhT]
      refine hT 9 ?_; simp only [Act.put, rhA, rhS, rhT]
      refine wpAnyH_done (by kernel_rfl) ?_ _
      go_wp2_with fail
      go_roundw
      case rel => exact ⟨k + 1, by omega, by go_num, (by repeat' (first | exact Below.refl _ _ | refine Below.alloc ?_ ?_ _ | refine Below.setCell ?_ ?_ _ | refine Below.drew ?_ | (apply below_step; assumption) | (simp; done) | (simp; omega) | omega))⟩
      case measure => simp [intOf]; omega
    · go_wp2_with fail
      go_ret
      exact ⟨rfl, hB⟩
set_option maxHeartbeats 1600000 in
theorem szPoolS_any (v : Value) (l : List PV) (z : Int) (w : World) (hv : GSl PoolQ 12 w v l) (hl : l.length ≤ maxLen) (h0 : 0 ≤ z) (hz : z ≤ 1048576) :
    Calls Tryz.prog 4 #[v, .int .i64 z] w fun e w' => (∃ y : Int, e = .returned (.int .i64 y) ∧ (y = -1 ∨ (0 ≤ y ∧ y ≤ 1048576 ∧ l.length ≤ 1048576 ∧ ∀ t ∈ l, t.small))) ∧ Below w.heap.size w w' := by
  obtain ⟨A, c, rfl, hA⟩ := hv.form
  have HA := Lib.hid hA
  unfold maxLen at hl
  clear hA hv
  by_cases h1 : (l.length : Int) ≤ z
  · go_enter Tryz.func4, Tryz.ntmps4
    go_wp2_with fail
    go_loopw [1, 5] (fun s1 s5 wr => ∃ (k : Nat) (y : Int), k ≤ l.length ∧ s5 = .int .i64 k ∧ s1 = .int .i64 y ∧ 0 ≤ y ∧ y ≤ 1048576 ∧ (∀ t ∈ l.take k, t.small) ∧ Below w.heap.size w wr) (fun _ s5 _ => (l.length - intOf s5).toNat)
    case atStart => exact ⟨0, z - l.length, by omega, rfl, by first | rfl | go_num, by omega, by omega, by simp, Below.refl _ _⟩
    case round =>
      obtain ⟨k, y, hk, rfl, rfl, y0, y1, hall, hB⟩ := hrel
      have HALL := Lib.hid hall
      have hzr := hB.size
      clear hall
      by_cases hlt : k < l.length
      · obtain ⟨b, off, rfl, hbw, hat⟩ := HA.out (by omega)
        obtain ⟨t, ht⟩ : ∃ t, l[k]? = some t := ⟨_, List.getElem?_eq_getElem hlt⟩
        obtain ⟨cs, hR, hC⟩ := (hat.below PoolQ.kept hB hbw) k t ht
        have HTK := Lib.hid (take_at ht)
        obtain ⟨v1, v2, rfl, sl, si, m1, m2⟩ := hR; obtain ⟨A1, c1, rfl, _⟩ := sl.form; obtain ⟨A2, c2, rfl, _⟩ := si.form
        obtain ⟨q0, q1, q2, q3, q4, q5, q6, q7, q8, q9, q10, q11⟩ := pool_cells hC
        have hsz := fun w => szPool_any (.int .i64 t.id) (.int .i64 t.min) (.int .i64 t.max) (.int .i64 t.prio) (.int .i64 t.shape.id) (.int .i64 t.shape.pool) (.int .i64 t.shape.cap.c) (.int .i64 t.shape.cap.m) (.int .i64 t.shape.cap.p) (.bool t.shape.cordon) A1 A2 t.shape.labs.length c1 t.shape.taints.length c2 y w y0 y1 m1 m2
        generalize hy : szTV y t.shape.labs.length t.shape.taints.length = y' at hsz
        have HY := Lib.hid (szTV_ok hy)
        have HSZ := Lib.hid hsz
        have hki : (k : Int) < (l.length : Int) := by omega
        clear hat hC ht sl si m1 m2 hsz hy
        go_wp2_with fail
        refine (HSZ.out _).mono ?_
        rintro e w2 ⟨rfl, hb2⟩
        have hC2 := below_of hB hb2
        rcases HY.out with rfl | hy2
        · go_wp2_with fail
          go_ret
          exact ⟨⟨-1, rfl, .inl rfl⟩, hC2⟩
        · obtain ⟨a1, a2, a3, a4⟩ := hy2 y0
          go_wp2_with fail
          go_roundw
          case rel =>
            refine ⟨k + 1, y', by omega, by go_num, rfl, a1, by omega, ?_, hC2⟩
            rw [HTK.out]
            intro s hs
            rcases List.mem_append.1 hs with h | h
            · exact HALL.out s h
            · simp at h; subst h; exact ⟨by omega, by omega⟩
          case measure => simp [intOf]; omega
      · have hkl : k = l.length := by omega
        go_wp2_with fail
        go_ret
        refine ⟨⟨y, rfl, .inr ⟨y0, y1, by omega, ?_⟩⟩, hB⟩
        have := HALL.out
        rwa [hkl, List.take_length] at this
  · have h1' : z < l.length := by omega
    clear h1
    go_enter Tryz.func4, Tryz.ntmps4
    go_wp2_with fail
    go_ret
    exact ⟨⟨-1, rfl, .inl rfl⟩, (by repeat' (first | exact Below.refl _ _ | refine Below.alloc ?_ ?_ _ | refine Below.setCell ?_ ?_ _ | refine Below.drew ?_ | (apply below_step; assumption) | (simp; done) | (simp; omega) | omega))⟩

def poolsFrom : Int → List PV → Bool
  | _, [] => true
  | p, n :: r => n.ok && decide (p < n.id) && poolsFrom n.id r
def poolsOk (l : List PV) : Bool := decide (l.length ≤ 5) && poolsFrom (-1) l
theorem poolsFrom_yes {p : Int} {n : PV} {r : List PV} (h : n.ok = true) (hp : p < n.id) : poolsFrom p (n :: r) = poolsFrom n.id r := by simp [poolsFrom, h, hp]
theorem poolsFrom_bad {p : Int} {n : PV} {r : List PV} (h : n.ok = false) : poolsFrom p (n :: r) = false := by simp [poolsFrom, h]
theorem poolsFrom_low {p : Int} {n : PV} {r : List PV} (h : n.id ≤ p) : poolsFrom p (n :: r) = false := by
  have : ¬ p < n.id := by omega
  simp [poolsFrom, this]
theorem PV.ok_id {p : PV} (h : p.ok = true) : 0 ≤ p.id := by
  simp only [PV.ok, Bool.and_eq_true, decide_eq_true_eq] at h
  exact h.1.1.1.1.1.1.1.1.1.1
theorem poolsFrom_first {n : PV} {r : List PV} (h : n.ok = true) : poolsFrom (-1) (n :: r) = poolsFrom n.id r := poolsFrom_yes h (by have := PV.ok_id h; omega)
set_option maxHeartbeats 3200000 in
set_option maxRecDepth 20000 in
theorem PoolsOk_any (v : Value) (l : List PV) (w : World) (x : Addr) (hg : ErrAt x w) (hv : PoolSl w v l) (hlen : l.length ≤ 1048576) :
    Calls Tryz.prog 53 #[v] w fun e w' => e = .returned (.bool (poolsOk l)) ∧ Below w.heap.size w w' := by
  obtain ⟨A, c, rfl, hA⟩ := hv.form
  have HA := Lib.hid hA
  have HG := Lib.hid hg
  clear hA hv hg
  by_cases h5 : l.length ≤ 5
  · have HT := Lib.hid (show poolsOk l = poolsFrom (-1) l by simp [poolsOk, h5])
    go_enter Tryz.func53, Tryz.ntmps53
    go_wp2_with fail
    go_loopw [3, 11] (fun s3 s11 wr => ∃ (k : Nat) (p : Int), k ≤ l.length ∧ s11 = .int .i64 k ∧ s3 = .int .i64 p ∧ poolsFrom (-1) l = poolsFrom p (l.drop k) ∧ Below w.heap.size w wr) (fun _ s11 _ => (l.length - intOf s11).toNat)
    case atStart => exact ⟨0, -1, by omega, rfl, rfl, by simp, Below.refl _ _⟩
    case round =>
      obtain ⟨k, p, hk, rfl, rfl, hts, hB⟩ := hrel
      have HTS := Lib.hid hts
      have hzr := hB.size
      have HGR := Lib.hid (HG.out.below hB (Nat.le_refl _))
      clear hts
      by_cases hlt : k < l.length
      · obtain ⟨b, off, rfl, hbw, hat⟩ := HA.out (by omega)
        obtain ⟨t, ht⟩ : ∃ t, l[k]? = some t := ⟨_, List.getElem?_eq_getElem hlt⟩
        obtain ⟨cs, hR, hC⟩ := (hat.below PoolR.kept hB hbw) k t ht
        have HD := Lib.hid (drop_at ht)
        obtain ⟨v1, v2, rfl, sl, si, m1, m2⟩ := hR
        obtain ⟨A1, c1, rfl, _⟩ := sl.form
        obtain ⟨A2, c2, rfl, _⟩ := si.form
        have hok := fun w x hg h1 h2 => PoolOk_any t (.slice A1 t.shape.labs.length c1) (.slice A2 t.shape.taints.length c2) w x hg h1 h2 m1 m2
        have SL := Lib.hid sl
        have SI := Lib.hid si
        obtain ⟨q0, q1, q2, q3, q4, q5, q6, q7, q8, q9, q10, q11⟩ := pool_cells hC
        have hbr : b < wr.heap.size := by omega
        cases ho : t.ok
        all_goals
          rw [ho] at hok
          have HO := Lib.hid ho
          have HOK := Lib.hid hok
          clear hat hC ht sl si m1 m2 ho hok
        · go_wp2_with fail
          have hX : Below wr.heap.size wr (wr.alloc (.cells #[.int .i64 t.id, .int .i64 t.min, .int .i64 t.max, .int .i64 t.prio, .int .i64 t.shape.id, .int .i64 t.shape.pool, .int .i64 t.shape.cap.c, .int .i64 t.shape.cap.m, .int .i64 t.shape.cap.p, .slice A1 t.shape.labs.length c1, .slice A2 t.shape.taints.length c2, .bool t.shape.cordon] 63)) := (by repeat' (first | exact Below.refl _ _ | refine Below.alloc ?_ ?_ _ | refine Below.setCell ?_ ?_ _ | refine Below.drew ?_ | (apply below_step; assumption) | (simp; done) | (simp; omega) | omega))
          refine (HOK.out _ x (HGR.out.alloc _) (SL.out.below hX) (SI.out.below hX)).mono ?_
          rintro e w2 ⟨rfl, hb2⟩
          have hC2 := below_of hX hb2
          go_wp2_with fail
          go_ret
          exact ⟨by rw [HT.out, HTS.out, HD.out, poolsFrom_bad HO.out]; rfl, below_of hB hC2⟩
        · go_wp2_with fail
          have hX : Below wr.heap.size wr (wr.alloc (.cells #[.int .i64 t.id, .int .i64 t.min, .int .i64 t.max, .int .i64 t.prio, .int .i64 t.shape.id, .int .i64 t.shape.pool, .int .i64 t.shape.cap.c, .int .i64 t.shape.cap.m, .int .i64 t.shape.cap.p, .slice A1 t.shape.labs.length c1, .slice A2 t.shape.taints.length c2, .bool t.shape.cordon] 63)) := (by repeat' (first | exact Below.refl _ _ | refine Below.alloc ?_ ?_ _ | refine Below.setCell ?_ ?_ _ | refine Below.drew ?_ | (apply below_step; assumption) | (simp; done) | (simp; omega) | omega))
          refine (HOK.out _ x (HGR.out.alloc _) (SL.out.below hX) (SI.out.below hX)).mono ?_
          rintro e w2 ⟨rfl, hb2⟩
          have hC2 := below_of hX hb2
          have BX := (BlockIs.new wr 63 #[.int .i64 t.id, .int .i64 t.min, .int .i64 t.max, .int .i64 t.prio, .int .i64 t.shape.id, .int .i64 t.shape.pool, .int .i64 t.shape.cap.c, .int .i64 t.shape.cap.m, .int .i64 t.shape.cap.p, .slice A1 t.shape.labs.length c1, .slice A2 t.shape.taints.length c2, .bool t.shape.cordon]).below hb2 (by simp)
          have x0 := BX.cell 0
          simp at x0
          clear BX hb2
          by_cases hp : t.id ≤ p
          · have HP := Lib.hid hp
            go_wp2_with fail
            go_ret
            exact ⟨by rw [HT.out, HTS.out, HD.out, poolsFrom_low HP.out]; rfl, below_of hB hC2⟩
          · have hp' : p < t.id := by omega
            have HP := Lib.hid hp'
            clear hp
            go_wp2_with fail
            go_roundw
            case rel => exact ⟨k + 1, t.id, by omega, by go_num, rfl, by rw [HTS.out, HD.out, poolsFrom_yes HO.out HP.out], below_of hB hC2⟩
            case measure => simp [intOf]; omega
      · have hkl : k = l.length := by omega
        have HF := Lib.hid (show poolsFrom (-1) l = true by rw [HTS.out, hkl, List.drop_length]; rfl)
        clear hkl
        go_wp2_with fail
        go_ret
        exact ⟨by rw [HT.out, HF.out]; rfl, hB⟩
  · have HT := Lib.hid (show poolsOk l = false by simp [poolsOk, h5])
    have h5' : (5 : Int) < (l.length : Int) := by omega
    clear h5
    go_enter Tryz.func53, Tryz.ntmps53
    go_wp2_with fail
    go_ret
    exact ⟨by rw [HT.out]; rfl, (by repeat' (first | exact Below.refl _ _ | refine Below.alloc ?_ ?_ _ | refine Below.setCell ?_ ?_ _ | refine Below.drew ?_ | (apply below_step; assumption) | (simp; done) | (simp; omega) | omega))⟩
set_option maxHeartbeats 6400000 in
set_option maxRecDepth 20000 in
theorem sPoolsOk_any (v : Value) (l : List PV) (w : World) (hv : PoolSl w v l) (hlen : l.length ≤ 1048576) :
    Calls Tryz.prog 42 #[v] w fun e w' => e = .returned (.bool (poolsOk l)) ∧ Below w.heap.size w w' := by
  obtain ⟨A, c, rfl, hA⟩ := hv.form
  have HA := Lib.hid hA
  clear hA hv
  by_cases h5 : l.length ≤ 5
  · have HE := Lib.hid (show poolsOk l = poolsFrom (-1) l by simp [poolsOk, h5])
    have h5' : decide ((5 : Int) < (l.length : Int)) = false := by simp; omega
    go_enter Tryz.func42, Tryz.ntmps42
    go_wp2_with fail
    go_loopw [3] (fun s3 wr => ∃ k : Nat, k ≤ l.length ∧ s3 = .int .i64 k ∧ (∃ p : Int, poolsFrom (-1) l = poolsFrom p (l.drop k) ∧ ((k = 0 ∧ p = -1) ∨ ∃ m n0, k = m + 1 ∧ l[m]? = some n0 ∧ p = n0.id)) ∧ Below w.heap.size w wr) (fun s3 _ => (l.length - intOf s3).toNat)
    case atStart => exact ⟨0, by omega, rfl, ⟨-1, by simp, .inl ⟨rfl, rfl⟩⟩, Below.refl _ _⟩
    case round =>
      obtain ⟨k, hk, rfl, hts, hB⟩ := hrel
      have HTS := Lib.hid hts
      have hzr := hB.size
      clear hts
      by_cases hlt : k < l.length
      · obtain ⟨bn, on, rfl, hbw, hat⟩ := HA.out (by omega)
        obtain ⟨n, ht⟩ : ∃ t, l[k]? = some t := ⟨_, List.getElem?_eq_getElem hlt⟩
        obtain ⟨cs, hR, hC⟩ := (hat.below PoolR.kept hB hbw) k n ht
        have HD := Lib.hid (drop_at ht)
        have HTK := Lib.hid ht
        obtain ⟨v1, v2, rfl, sl, si, m1, m2⟩ := hR
        obtain ⟨A3, c3, rfl, _⟩ := sl.form
        obtain ⟨A4, c4, rfl, _⟩ := si.form
        obtain ⟨q0, q1, q2, q3, q4, q5, q6, q7, q8, q9, q10, q11⟩ := pool_cells hC
        have hki : (k : Int) < (l.length : Int) := by omega
        have hk0 : (0 : Int) ≤ (k : Int) := by omega
        have hbr : bn < wr.heap.size := by omega
        have hok := fun w h1 h2 => sPoolOk_any n (.slice A3 n.shape.labs.length c3) (.slice A4 n.shape.taints.length c4) w h1 h2 m1 m2
        have SL := Lib.hid sl
        have SI := Lib.hid si
        have HK := Lib.hid (show ∀ w', Below wr.heap.size wr w' → (fun w' => Below wr.heap.size wr w' ∧ w'.cell? ⟨bn, on + k * 12, none⟩ = some (.int .i64 n.id) ∧ w'.cell? ⟨bn, on + k * 12 + 1, none⟩ = some (.int .i64 n.min) ∧ w'.cell? ⟨bn, on + k * 12 + 2, none⟩ = some (.int .i64 n.max) ∧ w'.cell? ⟨bn, on + k * 12 + 3, none⟩ = some (.int .i64 n.prio) ∧ w'.cell? ⟨bn, on + k * 12 + 4, none⟩ = some (.int .i64 n.shape.id) ∧ w'.cell? ⟨bn, on + k * 12 + 5, none⟩ = some (.int .i64 n.shape.pool) ∧ w'.cell? ⟨bn, on + k * 12 + 6, none⟩ = some (.int .i64 n.shape.cap.c) ∧ w'.cell? ⟨bn, on + k * 12 + 7, none⟩ = some (.int .i64 n.shape.cap.m) ∧ w'.cell? ⟨bn, on + k * 12 + 8, none⟩ = some (.int .i64 n.shape.cap.p) ∧ w'.cell? ⟨bn, on + k * 12 + 9, none⟩ = some (.slice A3 n.shape.labs.length c3) ∧ w'.cell? ⟨bn, on + k * 12 + 10, none⟩ = some (.slice A4 n.shape.taints.length c4) ∧ w'.cell? ⟨bn, on + k * 12 + 11, none⟩ = some (.bool n.shape.cordon)) w' from fun w' hb => ⟨hb, (hb.cell (p := ⟨_, _, none⟩) hbr).trans q0, (hb.cell (p := ⟨_, _, none⟩) hbr).trans q1, (hb.cell (p := ⟨_, _, none⟩) hbr).trans q2, (hb.cell (p := ⟨_, _, none⟩) hbr).trans q3, (hb.cell (p := ⟨_, _, none⟩) hbr).trans q4, (hb.cell (p := ⟨_, _, none⟩) hbr).trans q5, (hb.cell (p := ⟨_, _, none⟩) hbr).trans q6, (hb.cell (p := ⟨_, _, none⟩) hbr).trans q7, (hb.cell (p := ⟨_, _, none⟩) hbr).trans q8, (hb.cell (p := ⟨_, _, none⟩) hbr).trans q9, (hb.cell (p := ⟨_, _, none⟩) hbr).trans q10, (hb.cell (p := ⟨_, _, none⟩) hbr).trans q11⟩)
        have HAT := Lib.hid hat
        cases ho : n.ok
        · rw [ho] at hok
          have HO := Lib.hid ho
          have HOK := Lib.hid hok
          clear ho hok hat hC ht sl si m1 m2
          go_wp2_with fail
          refine wp_region_held_drew (S := (fun w' => Below wr.heap.size wr w' ∧ w'.cell? ⟨bn, on + k * 12, none⟩ = some (.int .i64 n.id) ∧ w'.cell? ⟨bn, on + k * 12 + 1, none⟩ = some (.int .i64 n.min) ∧ w'.cell? ⟨bn, on + k * 12 + 2, none⟩ = some (.int .i64 n.max) ∧ w'.cell? ⟨bn, on + k * 12 + 3, none⟩ = some (.int .i64 n.prio) ∧ w'.cell? ⟨bn, on + k * 12 + 4, none⟩ = some (.int .i64 n.shape.id) ∧ w'.cell? ⟨bn, on + k * 12 + 5, none⟩ = some (.int .i64 n.shape.pool) ∧ w'.cell? ⟨bn, on + k * 12 + 6, none⟩ = some (.int .i64 n.shape.cap.c) ∧ w'.cell? ⟨bn, on + k * 12 + 7, none⟩ = some (.int .i64 n.shape.cap.m) ∧ w'.cell? ⟨bn, on + k * 12 + 8, none⟩ = some (.int .i64 n.shape.cap.p) ∧ w'.cell? ⟨bn, on + k * 12 + 9, none⟩ = some (.slice A3 n.shape.labs.length c3) ∧ w'.cell? ⟨bn, on + k * 12 + 10, none⟩ = some (.slice A4 n.shape.taints.length c4) ∧ w'.cell? ⟨bn, on + k * 12 + 11, none⟩ = some (.bool n.shape.cordon))) (by kernel_rfl) (by (try dsimp only); exact HK.out _ (by repeat' (first | exact Below.refl _ _ | refine Below.alloc ?_ ?_ _ | refine Below.setCell ?_ ?_ _ | refine Below.drew ?_ | (apply below_step; assumption) | (simp; done) | (simp; omega) | omega))) (fun hHeld => ?_)
          refine hT 0 ?_; simp only [Act.put, rhA, rhS, rhT]
          refine hT 1 ?_; simp only [Act.put, rhA, rhS, rhT]
          refine hT 2 ?_; simp only [Act.put, rhA, rhS, rhT]
          refine hT 3 ?_; simp only [Act.put, rhA, rhS, rhT]
          refine hCall (i := 4) (o := ?a18) ?b18 (by kernel_rfl) ?c18 (fun K hK => ?d18)
          case b18 => simp only [rhN, rhM]; try rfl
          case c18 => rfl
          go_simp
          refine (HOK.out _ (SL.out.below (by repeat' (first | exact Below.refl _ _ | refine Below.alloc ?_ ?_ _ | refine Below.setCell ?_ ?_ _ | refine Below.drew ?_ | (apply below_step; assumption) | (simp; done) | (simp; omega) | omega))) (SI.out.below (by repeat' (first | exact Below.refl _ _ | refine Below.alloc ?_ ?_ _ | refine Below.setCell ?_ ?_ _ | refine Below.drew ?_ | (apply below_step; assumption) | (simp; done) | (simp; omega) | omega)))).mono ?_
          rintro e w3 ⟨rfl, hb_w3⟩
          have hz_w3 := hb_w3.size
          try simp at hz_w3
          go_wp2_with fail
          refine hK.out _ _ (by (try dsimp only); exact HK.out _ (by repeat' (first | exact Below.refl _ _ | refine Below.alloc ?_ ?_ _ | refine Below.setCell ?_ ?_ _ | refine Below.drew ?_ | (apply below_step; assumption) | (simp; done) | (simp; omega) | omega))) (fun hHeld => ?_)
          clear hK K
          try simp only [Act.put, rhA, rhS, rhT]
          refine hT 5 ?_; simp only [Act.put, rhA, rhS, rhT]
          refine hT 6 ?_; simp only [Act.put, rhA, rhS, rhT]
          refine hP 7 ?_; simp only [Act.put, rhA, rhS, rhT]
          refine hP 8 ?_; simp only [Act.put, rhA, rhS, rhT]
          refine hP 9 ?_; simp only [Act.put, rhA, rhS, rhT]
          refine hP 10 ?_; simp only [Act.put, rhA, rhS, rhT]
          refine hP 11 ?_; simp only [Act.put, rhA, rhS, rhT]
          refine hP 12 ?_; simp only [Act.put, rhA, rhS, rhT]
          refine hP 13 ?_; simp only [Act.put, rhA, rhS, rhT]
          refine hP 14 ?_; simp only [Act.put, rhA, rhS, rhT]
          refine hP 15 ?_; simp only [Act.put, rhA, rhS, rhT]
          refine hP 16 ?_; simp only [Act.put, rhA, rhS, rhT]
          refine hP 17 ?_; simp only [Act.put, rhA, rhS, rhT]
          refine hP 18 ?_; simp only [Act.put, rhA, rhS, rhT]
          refine hP 19 ?_; simp only [Act.put, rhA, rhS, rhT]
          refine hP 20 ?_; simp only [Act.put, rhA, rhS, rhT]
          refine hP 21 ?_; simp only [Act.put, rhA, rhS, rhT]
          refine hP 22 ?_; simp only [Act.put, rhA, rhS, rhT]
          refine hT 23 ?_; simp only [Act.put, rhA, rhS, rhT]
          refine wpAnyH_done (by kernel_rfl) ?_ _
          go_wp2_with fail
          go_ret
          refine ⟨?_, below_of hB (by repeat' (first | exact Below.refl _ _ | refine Below.alloc ?_ ?_ _ | refine Below.setCell ?_ ?_ _ | refine Below.drew ?_ | (apply below_step; assumption) | (simp; done) | (simp; omega) | omega))⟩
          obtain ⟨p, hp, _⟩ := HTS.out
          rw [HE.out, hp, HD.out, poolsFrom_bad HO.out]; rfl
        · rw [ho] at hok
          have HO := Lib.hid ho
          have HOK := Lib.hid hok
          clear ho hok hat hC ht sl si m1 m2
          obtain ⟨p, hp, hcase⟩ := HTS.out
          have HP := Lib.hid hp
          clear hp HTS
          rcases hcase with ⟨rfl, rfl⟩ | ⟨m, n0, hkm, hm0, rfl⟩
          · simp only [Nat.zero_mul, Nat.add_zero] at q0 q1 q2 q3 q4 q5 q6 q7 q8 q9 q10 q11 HK
            go_wp2_with fail
            refine wp_region_held_drew (S := (fun w' => Below wr.heap.size wr w' ∧ w'.cell? ⟨bn, on, none⟩ = some (.int .i64 n.id) ∧ w'.cell? ⟨bn, on + 1, none⟩ = some (.int .i64 n.min) ∧ w'.cell? ⟨bn, on + 2, none⟩ = some (.int .i64 n.max) ∧ w'.cell? ⟨bn, on + 3, none⟩ = some (.int .i64 n.prio) ∧ w'.cell? ⟨bn, on + 4, none⟩ = some (.int .i64 n.shape.id) ∧ w'.cell? ⟨bn, on + 5, none⟩ = some (.int .i64 n.shape.pool) ∧ w'.cell? ⟨bn, on + 6, none⟩ = some (.int .i64 n.shape.cap.c) ∧ w'.cell? ⟨bn, on + 7, none⟩ = some (.int .i64 n.shape.cap.m) ∧ w'.cell? ⟨bn, on + 8, none⟩ = some (.int .i64 n.shape.cap.p) ∧ w'.cell? ⟨bn, on + 9, none⟩ = some (.slice A3 n.shape.labs.length c3) ∧ w'.cell? ⟨bn, on + 10, none⟩ = some (.slice A4 n.shape.taints.length c4) ∧ w'.cell? ⟨bn, on + 11, none⟩ = some (.bool n.shape.cordon))) (by kernel_rfl) (by (try dsimp only); exact HK.out _ (by repeat' (first | exact Below.refl _ _ | refine Below.alloc ?_ ?_ _ | refine Below.setCell ?_ ?_ _ | refine Below.drew ?_ | (apply below_step; assumption) | (simp; done) | (simp; omega) | omega))) (fun hHeld => ?_)
            refine hT 0 ?_; simp only [Act.put, rhA, rhS, rhT]
            refine hT 1 ?_; simp only [Act.put, rhA, rhS, rhT]
            refine hT 2 ?_; simp only [Act.put, rhA, rhS, rhT]
            refine hT 3 ?_; simp only [Act.put, rhA, rhS, rhT]
            refine hCall (i := 4) (o := ?a47) ?b47 (by kernel_rfl) ?c47 (fun K hK => ?d47)
            case b47 => simp only [rhN, rhM]; try rfl
            case c47 => rfl
            go_simp
            refine (HOK.out _ (SL.out.below (by repeat' (first | exact Below.refl _ _ | refine Below.alloc ?_ ?_ _ | refine Below.setCell ?_ ?_ _ | refine Below.drew ?_ | (apply below_step; assumption) | (simp; done) | (simp; omega) | omega))) (SI.out.below (by repeat' (first | exact Below.refl _ _ | refine Below.alloc ?_ ?_ _ | refine Below.setCell ?_ ?_ _ | refine Below.drew ?_ | (apply below_step; assumption) | (simp; done) | (simp; omega) | omega)))).mono ?_
            rintro e w3 ⟨rfl, hb_w3⟩
            have hz_w3 := hb_w3.size
            try simp at hz_w3
            go_wp2_with fail
            refine hK.out _ _ (by (try dsimp only); exact HK.out _ (by repeat' (first | exact Below.refl _ _ | refine Below.alloc ?_ ?_ _ | refine Below.setCell ?_ ?_ _ | refine Below.drew ?_ | (apply below_step; assumption) | (simp; done) | (simp; omega) | omega))) (fun hHeld => ?_)
            clear hK K
            try simp only [Act.put, rhA, rhS, rhT]
            refine hT 5 ?_; simp only [Act.put, rhA, rhS, rhT]
            refine hT 6 ?_; simp only [Act.put, rhA, rhS, rhT]
            refine hT 7 ?_; simp only [Act.put, rhA, rhS, rhT]
            refine hT 8 ?_; simp only [Act.put, rhA, rhS, rhT]
            refine hT 9 ?_; simp only [Act.put, rhA, rhS, rhT]
            refine hP 10 ?_; simp only [Act.put, rhA, rhS, rhT]
            refine hP 11 ?_; simp only [Act.put, rhA, rhS, rhT]
            refine hP 12 ?_; simp only [Act.put, rhA, rhS, rhT]
            refine hP 13 ?_; simp only [Act.put, rhA, rhS, rhT]
            refine hP 14 ?_; simp only [Act.put, rhA, rhS, rhT]
            refine hP 15 ?_; simp only [Act.put, rhA, rhS, rhT]
            refine hP 16 ?_; simp only [Act.put, rhA, rhS, rhT]
            refine hP 17 ?_; simp only [Act.put, rhA, rhS, rhT]
            refine hP 18 ?_; simp only [Act.put, rhA, rhS, rhT]
            refine hP 19 ?_; simp only [Act.put, rhA, rhS, rhT]
            refine hP 20 ?_; simp only [Act.put, rhA, rhS, rhT]
            refine hP 21 ?_; simp only [Act.put, rhA, rhS, rhT]
            refine hT 22 ?_; simp only [Act.put, rhA, rhS, rhT]
            refine hT 23 ?_; simp only [Act.put, rhA, rhS, rhT]
            refine wpAnyH_done (by kernel_rfl) ?_ _
            go_wp2_with fail
            go_roundw
            case rel =>
              have hD4 : Below wr.heap.size wr w3 := (by repeat' (first | exact Below.refl _ _ | refine Below.alloc ?_ ?_ _ | refine Below.setCell ?_ ?_ _ | refine Below.drew ?_ | (apply below_step; assumption) | (simp; done) | (simp; omega) | omega))
              refine ⟨1, by omega, by go_num, ⟨n.id, ?_, .inr ⟨0, n, rfl, HTK.out, rfl⟩⟩, below_of hB hD4⟩
              rw [HP.out, HD.out, poolsFrom_first HO.out]
            case measure => simp [intOf]; omega
          · obtain ⟨cs0, hR0, hC0⟩ := (HAT.out.below PoolR.kept hB hbw) m n0 hm0
            obtain ⟨y1, y2, rfl, _, _, _, _⟩ := hR0
            have p0 := (pool_cells hC0).1
            have hgt : 0 < k := by omega
            have hgti : (0 : Int) < (k : Int) := by omega
            have hwr : IntKind.i64.wrap ((k : Int) - 1) = (m : Int) := by rw [IntWalk.i64_in _ (by omega)]; omega
            have hmi : (m : Int) < (l.length : Int) := by omega
            have hm0' : (0 : Int) ≤ (m : Int) := by omega
            have HKM := Lib.hid hkm
            have HM0 := Lib.hid hm0
            have HK := Lib.hid (show ∀ w', Below wr.heap.size wr w' → (fun w' => Below wr.heap.size wr w' ∧ w'.cell? ⟨bn, on + k * 12, none⟩ = some (.int .i64 n.id) ∧ w'.cell? ⟨bn, on + k * 12 + 1, none⟩ = some (.int .i64 n.min) ∧ w'.cell? ⟨bn, on + k * 12 + 2, none⟩ = some (.int .i64 n.max) ∧ w'.cell? ⟨bn, on + k * 12 + 3, none⟩ = some (.int .i64 n.prio) ∧ w'.cell? ⟨bn, on + k * 12 + 4, none⟩ = some (.int .i64 n.shape.id) ∧ w'.cell? ⟨bn, on + k * 12 + 5, none⟩ = some (.int .i64 n.shape.pool) ∧ w'.cell? ⟨bn, on + k * 12 + 6, none⟩ = some (.int .i64 n.shape.cap.c) ∧ w'.cell? ⟨bn, on + k * 12 + 7, none⟩ = some (.int .i64 n.shape.cap.m) ∧ w'.cell? ⟨bn, on + k * 12 + 8, none⟩ = some (.int .i64 n.shape.cap.p) ∧ w'.cell? ⟨bn, on + k * 12 + 9, none⟩ = some (.slice A3 n.shape.labs.length c3) ∧ w'.cell? ⟨bn, on + k * 12 + 10, none⟩ = some (.slice A4 n.shape.taints.length c4) ∧ w'.cell? ⟨bn, on + k * 12 + 11, none⟩ = some (.bool n.shape.cordon) ∧ w'.cell? ⟨bn, on + m * 12, none⟩ = some (.int .i64 n0.id)) w' from fun w' hb => ⟨hb, (hb.cell (p := ⟨_, _, none⟩) hbr).trans q0, (hb.cell (p := ⟨_, _, none⟩) hbr).trans q1, (hb.cell (p := ⟨_, _, none⟩) hbr).trans q2, (hb.cell (p := ⟨_, _, none⟩) hbr).trans q3, (hb.cell (p := ⟨_, _, none⟩) hbr).trans q4, (hb.cell (p := ⟨_, _, none⟩) hbr).trans q5, (hb.cell (p := ⟨_, _, none⟩) hbr).trans q6, (hb.cell (p := ⟨_, _, none⟩) hbr).trans q7, (hb.cell (p := ⟨_, _, none⟩) hbr).trans q8, (hb.cell (p := ⟨_, _, none⟩) hbr).trans q9, (hb.cell (p := ⟨_, _, none⟩) hbr).trans q10, (hb.cell (p := ⟨_, _, none⟩) hbr).trans q11, (hb.cell (p := ⟨_, _, none⟩) hbr).trans p0⟩)
            clear hC0 hkm hm0
            cases hge : decide (n.id ≤ n0.id)
            · have HGE := Lib.hid (show n0.id < n.id by simpa using hge)
              go_wp2_with fail
              refine wp_region_held_drew (S := (fun w' => Below wr.heap.size wr w' ∧ w'.cell? ⟨bn, on + k * 12, none⟩ = some (.int .i64 n.id) ∧ w'.cell? ⟨bn, on + k * 12 + 1, none⟩ = some (.int .i64 n.min) ∧ w'.cell? ⟨bn, on + k * 12 + 2, none⟩ = some (.int .i64 n.max) ∧ w'.cell? ⟨bn, on + k * 12 + 3, none⟩ = some (.int .i64 n.prio) ∧ w'.cell? ⟨bn, on + k * 12 + 4, none⟩ = some (.int .i64 n.shape.id) ∧ w'.cell? ⟨bn, on + k * 12 + 5, none⟩ = some (.int .i64 n.shape.pool) ∧ w'.cell? ⟨bn, on + k * 12 + 6, none⟩ = some (.int .i64 n.shape.cap.c) ∧ w'.cell? ⟨bn, on + k * 12 + 7, none⟩ = some (.int .i64 n.shape.cap.m) ∧ w'.cell? ⟨bn, on + k * 12 + 8, none⟩ = some (.int .i64 n.shape.cap.p) ∧ w'.cell? ⟨bn, on + k * 12 + 9, none⟩ = some (.slice A3 n.shape.labs.length c3) ∧ w'.cell? ⟨bn, on + k * 12 + 10, none⟩ = some (.slice A4 n.shape.taints.length c4) ∧ w'.cell? ⟨bn, on + k * 12 + 11, none⟩ = some (.bool n.shape.cordon) ∧ w'.cell? ⟨bn, on + m * 12, none⟩ = some (.int .i64 n0.id))) (by kernel_rfl) (by (try dsimp only); exact HK.out _ (by repeat' (first | exact Below.refl _ _ | refine Below.alloc ?_ ?_ _ | refine Below.setCell ?_ ?_ _ | refine Below.drew ?_ | (apply below_step; assumption) | (simp; done) | (simp; omega) | omega))) (fun hHeld => ?_)
              refine hT 0 ?_; simp only [Act.put, rhA, rhS, rhT]
              refine hT 1 ?_; simp only [Act.put, rhA, rhS, rhT]
              refine hT 2 ?_; simp only [Act.put, rhA, rhS, rhT]
              refine hT 3 ?_; simp only [Act.put, rhA, rhS, rhT]
              refine hCall (i := 4) (o := ?a80) ?b80 (by kernel_rfl) ?c80 (fun K hK => ?d80)
              case b80 => simp only [rhN, rhM]; try rfl
              case c80 => rfl
              go_simp
              refine (HOK.out _ (SL.out.below (by repeat' (first | exact Below.refl _ _ | refine Below.alloc ?_ ?_ _ | refine Below.setCell ?_ ?_ _ | refine Below.drew ?_ | (apply below_step; assumption) | (simp; done) | (simp; omega) | omega))) (SI.out.below (by repeat' (first | exact Below.refl _ _ | refine Below.alloc ?_ ?_ _ | refine Below.setCell ?_ ?_ _ | refine Below.drew ?_ | (apply below_step; assumption) | (simp; done) | (simp; omega) | omega)))).mono ?_
              rintro e w3 ⟨rfl, hb_w3⟩
              have hz_w3 := hb_w3.size
              try simp at hz_w3
              go_wp2_with fail
              refine hK.out _ _ (by (try dsimp only); exact HK.out _ (by repeat' (first | exact Below.refl _ _ | refine Below.alloc ?_ ?_ _ | refine Below.setCell ?_ ?_ _ | refine Below.drew ?_ | (apply below_step; assumption) | (simp; done) | (simp; omega) | omega))) (fun hHeld => ?_)
              clear hK K
              try simp only [Act.put, rhA, rhS, rhT]
              refine hT 5 ?_; simp only [Act.put, rhA, rhS, rhT]
              refine hT 6 ?_; simp only [Act.put, rhA, rhS, rhT]
              refine hT 7 ?_; simp only [Act.put, rhA, rhS, rhT]
              refine hT 8 ?_; simp only [Act.put, rhA, rhS, rhT]
              refine hT 9 ?_; simp only [Act.put, rhA, rhS, rhT]
              refine hT 10 ?_; simp only [Act.put, rhA, rhS, rhT]
              refine hT 11 ?_; simp only [Act.put, rhA, rhS, rhT]
              refine hT 12 ?_; simp only [Act.put, rhA, rhS, rhT]
              refine hT 13 ?_; simp only [Act.put, rhA, rhS, rhT]
              refine hT 14 ?_; simp only [Act.put, rhA, rhS, rhT]
              refine hT 15 ?_; simp only [Act.put, rhA, rhS, rhT]
              refine hT 16 ?_; simp only [Act.put, rhA, rhS, rhT]
              refine hT 17 ?_; simp only [Act.put, rhA, rhS, rhT]
              refine hT 18 ?_; simp only [Act.put, rhA, rhS, rhT]
              refine hT 19 ?_; simp only [Act.put, rhA, rhS, rhT]
              refine hT 20 ?_; simp only [Act.put, rhA, rhS, rhT]
              refine hT 21 ?_; simp only [Act.put, rhA, rhS, rhT]
              refine hT 22 ?_; simp only [Act.put, rhA, rhS, rhT]
              refine hT 23 ?_; simp only [Act.put, rhA, rhS, rhT]
              refine wpAnyH_done (by kernel_rfl) ?_ _
              clear hwr hge
              go_wp2_with fail
              go_roundw
              case rel =>
                have hD4 : Below wr.heap.size wr w3 := (by repeat' (first | exact Below.refl _ _ | refine Below.alloc ?_ ?_ _ | refine Below.setCell ?_ ?_ _ | refine Below.drew ?_ | (apply below_step; assumption) | (simp; done) | (simp; omega) | omega))
                refine ⟨k + 1, by omega, by go_num, ⟨n.id, ?_, .inr ⟨k, n, rfl, HTK.out, rfl⟩⟩, below_of hB hD4⟩
                rw [HP.out, HD.out, poolsFrom_yes HO.out HGE.out]
              case measure => simp [intOf]; omega
            · have HGE := Lib.hid (show n.id ≤ n0.id by simpa using hge)
              go_wp2_with fail
              refine wp_region_held_drew (S := (fun w' => Below wr.heap.size wr w' ∧ w'.cell? ⟨bn, on + k * 12, none⟩ = some (.int .i64 n.id) ∧ w'.cell? ⟨bn, on + k * 12 + 1, none⟩ = some (.int .i64 n.min) ∧ w'.cell? ⟨bn, on + k * 12 + 2, none⟩ = some (.int .i64 n.max) ∧ w'.cell? ⟨bn, on + k * 12 + 3, none⟩ = some (.int .i64 n.prio) ∧ w'.cell? ⟨bn, on + k * 12 + 4, none⟩ = some (.int .i64 n.shape.id) ∧ w'.cell? ⟨bn, on + k * 12 + 5, none⟩ = some (.int .i64 n.shape.pool) ∧ w'.cell? ⟨bn, on + k * 12 + 6, none⟩ = some (.int .i64 n.shape.cap.c) ∧ w'.cell? ⟨bn, on + k * 12 + 7, none⟩ = some (.int .i64 n.shape.cap.m) ∧ w'.cell? ⟨bn, on + k * 12 + 8, none⟩ = some (.int .i64 n.shape.cap.p) ∧ w'.cell? ⟨bn, on + k * 12 + 9, none⟩ = some (.slice A3 n.shape.labs.length c3) ∧ w'.cell? ⟨bn, on + k * 12 + 10, none⟩ = some (.slice A4 n.shape.taints.length c4) ∧ w'.cell? ⟨bn, on + k * 12 + 11, none⟩ = some (.bool n.shape.cordon) ∧ w'.cell? ⟨bn, on + m * 12, none⟩ = some (.int .i64 n0.id))) (by kernel_rfl) (by (try dsimp only); exact HK.out _ (by repeat' (first | exact Below.refl _ _ | refine Below.alloc ?_ ?_ _ | refine Below.setCell ?_ ?_ _ | refine Below.drew ?_ | (apply below_step; assumption) | (simp; done) | (simp; omega) | omega))) (fun hHeld => ?_)
              refine hT 0 ?_; simp only [Act.put, rhA, rhS, rhT]
              refine hT 1 ?_; simp only [Act.put, rhA, rhS, rhT]
              refine hT 2 ?_; simp only [Act.put, rhA, rhS, rhT]
              refine hT 3 ?_; simp only [Act.put, rhA, rhS, rhT]
              refine hCall (i := 4) (o := ?a108) ?b108 (by kernel_rfl) ?c108 (fun K hK => ?d108)
              case b108 => simp only [rhN, rhM]; try rfl
              case c108 => rfl
              go_simp
              refine (HOK.out _ (SL.out.below (by repeat' (first | exact Below.refl _ _ | refine Below.alloc ?_ ?_ _ | refine Below.setCell ?_ ?_ _ | refine Below.drew ?_ | (apply below_step; assumption) | (simp; done) | (simp; omega) | omega))) (SI.out.below (by repeat' (first | exact Below.refl _ _ | refine Below.alloc ?_ ?_ _ | refine Below.setCell ?_ ?_ _ | refine Below.drew ?_ | (apply below_step; assumption) | (simp; done) | (simp; omega) | omega)))).mono ?_
              rintro e w3 ⟨rfl, hb_w3⟩
              have hz_w3 := hb_w3.size
              try simp at hz_w3
              go_wp2_with fail
              refine hK.out _ _ (by (try dsimp only); exact HK.out _ (by repeat' (first | exact Below.refl _ _ | refine Below.alloc ?_ ?_ _ | refine Below.setCell ?_ ?_ _ | refine Below.drew ?_ | (apply below_step; assumption) | (simp; done) | (simp; omega) | omega))) (fun hHeld => ?_)
              clear hK K
              try simp only [Act.put, rhA, rhS, rhT]
              refine hT 5 ?_; simp only [Act.put, rhA, rhS, rhT]
              refine hT 6 ?_; simp only [Act.put, rhA, rhS, rhT]
              refine hT 7 ?_; simp only [Act.put, rhA, rhS, rhT]
              refine hT 8 ?_; simp only [Act.put, rhA, rhS, rhT]
              refine hT 9 ?_; simp only [Act.put, rhA, rhS, rhT]
              refine hT 10 ?_; simp only [Act.put, rhA, rhS, rhT]
              refine hT 11 ?_; simp only [Act.put, rhA, rhS, rhT]
              refine hT 12 ?_; simp only [Act.put, rhA, rhS, rhT]
              refine hT 13 ?_; simp only [Act.put, rhA, rhS, rhT]
              refine hT 14 ?_; simp only [Act.put, rhA, rhS, rhT]
              refine hT 15 ?_; simp only [Act.put, rhA, rhS, rhT]
              refine hT 16 ?_; simp only [Act.put, rhA, rhS, rhT]
              refine hT 17 ?_; simp only [Act.put, rhA, rhS, rhT]
              refine hT 18 ?_; simp only [Act.put, rhA, rhS, rhT]
              refine hT 19 ?_; simp only [Act.put, rhA, rhS, rhT]
              refine hT 20 ?_; simp only [Act.put, rhA, rhS, rhT]
              refine hT 21 ?_; simp only [Act.put, rhA, rhS, rhT]
              refine hT 22 ?_; simp only [Act.put, rhA, rhS, rhT]
              refine hT 23 ?_; simp only [Act.put, rhA, rhS, rhT]
              refine wpAnyH_done (by kernel_rfl) ?_ _
              go_wp2_with fail
              go_ret
              exact ⟨by rw [HE.out, HP.out, HD.out, poolsFrom_low HGE.out]; rfl, below_of hB (by repeat' (first | exact Below.refl _ _ | refine Below.alloc ?_ ?_ _ | refine Below.setCell ?_ ?_ _ | refine Below.drew ?_ | (apply below_step; assumption) | (simp; done) | (simp; omega) | omega))⟩
      · have hkl : k = l.length := by omega
        have HF := Lib.hid (show poolsFrom (-1) l = true by obtain ⟨p, hp, _⟩ := HTS.out; rw [hp, hkl, List.drop_length]; rfl)
        clear hkl
        go_wp2_with fail
        go_ret
        exact ⟨by rw [HE.out, HF.out]; rfl, hB⟩
  · have HE := Lib.hid (show poolsOk l = false by simp [poolsOk, h5])
    have h5' : (5 : Int) < (l.length : Int) := by omega
    clear h5
    go_enter Tryz.func42, Tryz.ntmps42
    go_wp2_with fail
    go_ret
    exact ⟨by rw [HE.out]; rfl, (by repeat' (first | exact Below.refl _ _ | refine Below.alloc ?_ ?_ _ | refine Below.setCell ?_ ?_ _ | refine Below.drew ?_ | (apply below_step; assumption) | (simp; done) | (simp; omega) | omega))⟩
end Go.Proofs.YtmkpajjnjgnmkabGreatDoor
namespace Go.Proofs.YtmkpajjnjgnmkabGreatDoor
open Go.ChangeShapes Go.WideShapes Go.ChangeAt Go.RowKit Go.Joins
section
variable {H : Type} {enc : TypeId × Value → H} {W : World}
set_option maxRecDepth 100000 in
theorem open_pools {base : Nat} {v : Value} {d : DataW H} {p : List MemPlace} (hv : Value.okWide Tryz.prog W .any base 22 v) (h : DataW.Trod enc Tryz.prog W 0 (fun _ => true) true 22 v d p) :
    ∃ l : List PV, l.length ≤ maxLen ∧ GSl PoolQ 12 W v l := by
  obtain ⟨fuel, hf⟩ := h
  obtain ⟨A, n, c, rfl⟩ := okWide_slice Tryz.underlying22 hv
  exact open_gslice (R := PoolQ) PV.zero (by omega) Tryz.underlying22 Tryz.c_pool (fun fuel cs x h => open_poolC h) (by simpa [Value.cells] using hf)
end
end Go.Proofs.YtmkpajjnjgnmkabGreatDoor

namespace Go.Proofs.YtmkpajjnjgnmkabGreatDoor

def lWithin (n a b : Int) : Bool := decide (a ≤ n) && decide (n ≤ b)
theorem lWithin_iff {n a b : Int} : lWithin n a b = true ↔ a ≤ n ∧ n ≤ b := by simp [lWithin]
def leaseZero (l : RV) : Bool := l.c == 0 && (l.m == 0 && l.p == 0)
def leaseOk (l : RV) : Bool := leaseZero l || (lWithin l.c 1 4 && lWithin l.m 1 1000 && lWithin l.p 0 200000)
theorem leaseOk_eq (l : RV) (z b1 b2 b3 : Bool) (hz : leaseZero l = z) (h1 : lWithin l.c 1 4 = b1) (h2 : lWithin l.m 1 1000 = b2) (h3 : lWithin l.p 0 200000 = b3) : leaseOk l = (z || (b1 && b2 && b3)) := by
  subst hz h1 h2 h3; rfl
def RetL (r : RV × Int) (w : World) (e : Ending) (w' : World) : Prop := e = .returned (.tuple #[.agg #[.int .i64 r.1.c, .int .i64 r.1.m, .int .i64 r.1.p], .int .i64 r.2]) ∧ Go.RowKit.Below w.heap.size w w'
theorem RetL.of {r r' : RV × Int} {w : World} (h : r' = r) : RetL r w = RetL r' w := by rw [h]
end Go.Proofs.YtmkpajjnjgnmkabGreatDoor

namespace Go.Proofs.YtmkpajjnjgnmkabGreatDoor

abbrev Rise (l : List RV) : Prop := l.Pairwise fun a b => a.c < b.c
end Go.Proofs.YtmkpajjnjgnmkabGreatDoor

namespace Go.Proofs.YtmkpajjnjgnmkabGreatDoor

def instIn (r : RV) : Bool := lWithin r.c 1 99 && lWithin r.m 0 4 && (r.p == 1 || r.p == 2)
theorem instIn_iff {r : RV} : instIn r = true ↔ (1 ≤ r.c ∧ r.c ≤ 99) ∧ (0 ≤ r.m ∧ r.m ≤ 4) ∧ (r.p = 1 ∨ r.p = 2) := by
  simp only [instIn, Bool.and_eq_true, Bool.or_eq_true, lWithin_iff, beq_iff_eq]; exact and_assoc
def provFrom (last : Int) : List RV → Bool
  | [] => true
  | r :: rs => instIn r && decide (last < r.c) && provFrom r.c rs
def provOk (seen : Int) (l : List RV) : Bool := lWithin seen 0 1000 && decide (l.length ≤ 60) && provFrom 0 l
theorem provFrom_all {last : Int} {l : List RV} (h : provFrom last l = true) : (∀ r ∈ l, last < r.c ∧ instIn r = true) ∧ Rise l := by
  induction l generalizing last with
  | nil => exact ⟨by simp, List.Pairwise.nil⟩
  | cons r rs ih =>
    simp only [provFrom, Bool.and_eq_true, decide_eq_true_eq] at h
    obtain ⟨⟨h1, h2⟩, h3⟩ := h
    obtain ⟨h4, h5⟩ := ih h3
    refine ⟨fun x hx => ?_, List.pairwise_cons.2 ⟨fun x hx => (h4 x hx).1, h5⟩⟩
    rcases List.mem_cons.1 hx with rfl | hx
    · exact ⟨h2, h1⟩
    · exact ⟨Int.lt_trans h2 (h4 x hx).1, (h4 x hx).2⟩
theorem provOk_all {seen : Int} {l : List RV} (h : provOk seen l = true) : (0 ≤ seen ∧ seen ≤ 1000) ∧ l.length ≤ 60 ∧ (∀ r ∈ l, instIn r = true) ∧ Rise l := by
  simp only [provOk, Bool.and_eq_true, decide_eq_true_eq, lWithin_iff] at h
  obtain ⟨⟨h1, h2⟩, h3⟩ := h
  obtain ⟨h4, h5⟩ := provFrom_all h3
  exact ⟨h1, h2, fun r hr => (h4 r hr).2, h5⟩
structure MV where
  k : Int
  e : Int
  i : Int
  p : Int
def msgOk (m : MV) : Bool := lWithin m.e 1 1000 && lWithin m.i 1 99 && ((m.k == 1 && lWithin m.p 0 4) || (m.k == 2 && (m.p == 0)))
theorem msgOk_iff {m : MV} : msgOk m = true ↔ (1 ≤ m.e ∧ m.e ≤ 1000) ∧ (1 ≤ m.i ∧ m.i ≤ 99) ∧ ((m.k = 1 ∧ 0 ≤ m.p ∧ m.p ≤ 4) ∨ (m.k = 2 ∧ m.p = 0)) := by
  simp only [msgOk, Bool.and_eq_true, Bool.or_eq_true, lWithin_iff, beq_iff_eq]; exact and_assoc
end Go.Proofs.YtmkpajjnjgnmkabGreatDoor
