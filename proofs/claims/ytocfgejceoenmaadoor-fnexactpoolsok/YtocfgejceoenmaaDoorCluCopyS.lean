/- The contracts of the model's l03CopyTask and l03CopyNode. -/
import Derived.Test.YtocfgejceoenmaaDoorCluOwn
import Derived.Test.YtocfgejceoenmaaDoorCluTo
namespace Go.Proofs.YtocfgejceoenmaaDoor
open Go.RowKit

/-- The ending 'an element of its own, its blocks all new and distinct'. -/
def RetO {α : Type} (R : World → α → List Value → List Nat → Prop) (w : World) (t : α) (e : Ending) (w' : World) : Prop := ∃ ds bs, e = .returned (.agg ds.toArray) ∧ R w' t ds bs ∧ bs.Nodup ∧ (∀ b ∈ bs, w.heap.size ≤ b) ∧ Below w.heap.size w w'
theorem LabSl.news {w : World} {A : Option Addr} {c : Nat} {l : List LV} (h : LabSl w (.slice A l.length c) l) : 0 < l.length → ∃ b off, A = some ⟨b, off, none⟩ ∧ CellsAt w b off (labL l) := by
  intro hp
  obtain ⟨A', c', e, h'⟩ := h.form
  simp only [Value.slice.injEq] at e
  obtain ⟨rfl, _, _⟩ := e
  obtain ⟨b, off, rfl, _, hat⟩ := h' hp
  refine ⟨b, off, rfl, fun j u hu => ?_⟩
  have hj : j < l.length * 2 := by
    have := (List.getElem?_eq_some_iff.1 hu).1
    rwa [labL_len] at this
  obtain ⟨r, hr⟩ : ∃ r, l[j / 2]? = some r := ⟨_, List.getElem?_eq_getElem (by omega)⟩
  obtain ⟨a1, a2⟩ := hat _ _ hr
  obtain ⟨b1, b2⟩ := labL_at hr
  rcases Nat.mod_two_eq_zero_or_one j with e | e
  · have ej : j / 2 * 2 = j := by omega
    rw [ej] at a1 b1
    rw [b1] at hu
    obtain rfl := Option.some.inj hu
    exact a1
  · have ej : j / 2 * 2 + 1 = j := by omega
    rw [Nat.add_assoc, ej] at a2
    rw [ej] at b2
    rw [b2] at hu
    obtain rfl := Option.some.inj hu
    exact a2
theorem IntSl.news {w : World} {A : Option Addr} {c : Nat} {l : List Int} (h : IntSl w (.slice A l.length c) l) : 0 < l.length → ∃ b off, A = some ⟨b, off, none⟩ ∧ CellsAt w b off (intL l) := by
  intro hp
  obtain ⟨A', c', e, h'⟩ := h.form
  simp only [Value.slice.injEq] at e
  obtain ⟨rfl, _, _⟩ := e
  obtain ⟨b, off, rfl, _, hat⟩ := h' hp
  refine ⟨b, off, rfl, fun j u hu => ?_⟩
  simp [intL] at hu
  obtain ⟨r, hr, rfl⟩ := hu
  exact hat _ _ hr
theorem labL_one (l : List LV) : ∀ u ∈ labL l, u.oneCell' = true := by
  intro u hu
  simp [labL] at hu
  obtain ⟨r, _, h | h⟩ := hu <;> subst h <;> rfl
theorem intL_one (l : List Int) : ∀ u ∈ intL l, u.oneCell' = true := by
  intro u hu
  simp [intL] at hu
  obtain ⟨r, _, h⟩ := hu; subst h; rfl
theorem made_own (w : World) (ty : TypeId) (n : Nat) : (w.alloc (.cells #[] ty)).ownsRow 0 ty n (.slice (some ⟨w.heap.size, 0, none⟩) 0 0) 0 [] := by
  have := World.ownsRow_made (base := 0) (e := ty) (size := n) w #[] 0 (Nat.zero_le _) (by unfold maxLen; omega) (by simp)
  simpa using this
theorem made_own' {w : World} {ty : TypeId} {n g : Nat} (h : g = w.heap.size) : (w.alloc (.cells #[] ty)).ownsRow 0 ty n (.slice (some ⟨g, 0, none⟩) 0 0) 0 [] := h ▸ made_own w ty n
theorem blk_of {v v' : Value} {g : Nat} {k : Nat} (hv : v.ownBlock = some g) (h : v'.ownBlock = v.ownBlock ∨ v'.ownBlock = some k) : blk v' = [g] ∨ blk v' = [k] := by
  rcases h with h | h
  · left; simp [blk, h, hv]
  · right; simp [blk, h]

theorem putAll_block {w : World} {g o b : Nat} {ds : List Value} (h : b ≠ g) : (putAll w g o ds).heap[b]? = w.heap[b]? := by
  induction ds generalizing w o with
  | nil => rfl
  | cons u r ih => rw [putAll, ih]; exact Below.heap_setCell _ _ _ b h
set_option maxHeartbeats 1600000 in
theorem sCopyNode_any (t : NV) (cs : List Value) (w : World) (hR : NodeR w t cs) : Calls Tryd.prog 48 #[.agg cs.toArray] w (RetO NodeO w t) := by
  obtain ⟨i1, hi1, hz1, hs1, hy1⟩ := info_parts Tryd.infoLab
  obtain ⟨i2, hi2, hz2, hs2, hy2⟩ := info_parts Tryd.infoI
  obtain ⟨v1, v2, rfl, sl, si, m1, m2⟩ := hR
  obtain ⟨A1, c1, rfl, _⟩ := sl.form
  obtain ⟨A2, c2, rfl, _⟩ := si.form
  have SL := Lib.hid sl
  have SI := Lib.hid si
  have M := Lib.hid (And.intro m1 m2)
  clear sl si m1 m2
  go_enter Tryd.func48, Tryd.ntmps48
  go_upto_region 1 with fail
  have hX : Below w.heap.size w ((w.alloc (.cells #[.int .i64 t.id, .int .i64 t.pool, .int .i64 t.cap.c, .int .i64 t.cap.m, .int .i64 t.cap.p, .slice A1 t.labs.length c1, .slice A2 t.taints.length c2, .bool t.cordon] 35)).alloc (.cells #[.int .i64 0, .int .i64 0, .int .i64 0, .int .i64 0, .int .i64 0, .slice none 0 0, .slice none 0 0, .bool false] 35)) := (by repeat' (first | exact Below.refl _ _ | refine Below.alloc ?_ ?_ _ | refine Below.setCell ?_ ?_ _ | refine Below.drew ?_ | (apply below_step; assumption) | (simp; done) | (simp; omega) | omega))
  have B0 : BlockIs ((w.alloc (.cells #[.int .i64 t.id, .int .i64 t.pool, .int .i64 t.cap.c, .int .i64 t.cap.m, .int .i64 t.cap.p, .slice A1 t.labs.length c1, .slice A2 t.taints.length c2, .bool t.cordon] 35)).alloc (.cells #[.int .i64 0, .int .i64 0, .int .i64 0, .int .i64 0, .int .i64 0, .slice none 0 0, .slice none 0 0, .bool false] 35)) w.heap.size 35 #[.int .i64 t.id, .int .i64 t.pool, .int .i64 t.cap.c, .int .i64 t.cap.m, .int .i64 t.cap.p, .slice A1 t.labs.length c1, .slice A2 t.taints.length c2, .bool t.cordon] := (BlockIs.new w _ _).alloc _
  have B1 : BlockIs ((w.alloc (.cells #[.int .i64 t.id, .int .i64 t.pool, .int .i64 t.cap.c, .int .i64 t.cap.m, .int .i64 t.cap.p, .slice A1 t.labs.length c1, .slice A2 t.taints.length c2, .bool t.cordon] 35)).alloc (.cells #[.int .i64 0, .int .i64 0, .int .i64 0, .int .i64 0, .int .i64 0, .slice none 0 0, .slice none 0 0, .bool false] 35)) (w.heap.size + 1) 35 #[.int .i64 0, .int .i64 0, .int .i64 0, .int .i64 0, .int .i64 0, .slice none 0 0, .slice none 0 0, .bool false] := BlockIs.new' (by simp)
  have hXz : ((w.alloc (.cells #[.int .i64 t.id, .int .i64 t.pool, .int .i64 t.cap.c, .int .i64 t.cap.m, .int .i64 t.cap.p, .slice A1 t.labs.length c1, .slice A2 t.taints.length c2, .bool t.cordon] 35)).alloc (.cells #[.int .i64 0, .int .i64 0, .int .i64 0, .int .i64 0, .int .i64 0, .slice none 0 0, .slice none 0 0, .bool false] 35)).heap.size = w.heap.size + 2 := by simp
  generalize ((w.alloc (.cells #[.int .i64 t.id, .int .i64 t.pool, .int .i64 t.cap.c, .int .i64 t.cap.m, .int .i64 t.cap.p, .slice A1 t.labs.length c1, .slice A2 t.taints.length c2, .bool t.cordon] 35)).alloc (.cells #[.int .i64 0, .int .i64 0, .int .i64 0, .int .i64 0, .int .i64 0, .slice none 0 0, .slice none 0 0, .bool false] 35)) = X at hX B0 B1 hXz ⊢
  have b5 := B0.cell 5
  simp at b5
  have hl0 : w.heap.size < X.heap.size := by omega
  have hl1 : w.heap.size + 1 < X.heap.size := by omega
  have HX := Lib.hid hX
  have HB0 := Lib.hid B0
  have HB1 := Lib.hid B1
  have hXa : Below X.heap.size X (X.alloc (.cells #[] 74)) := (by repeat' (first | exact Below.refl _ _ | refine Below.alloc ?_ ?_ _ | refine Below.setCell ?_ ?_ _ | refine Below.drew ?_ | (apply below_step; assumption) | (simp; done) | (simp; omega) | omega))
  clear B0 B1 hX hXz
  go_upto_region 2 with (at_builtin; refine wpList_spread _ rfl (.tmp 3) (.tmp 5) 33 rfl 74 i1 _ 2 16 Tryd.underlying33 hi1 hz1 hs1 hy1 rfl (by omega) (.slice (some ⟨X.heap.size, 0, none⟩) 0 0) 0 [] rfl (made_own X _ _) A1 t.labs.length c1 (labL t.labs) rfl (labL_len _) ((SL.out.below (below_of HX.out hXa)).news) (labL_one _) (by have := M.out.1; unfold maxLen; omega) (by have := M.out.1; omega) ?_; intro u1 w1 hown1 hg1 hk1; rw [Nat.zero_add, List.nil_append] at hown1; obtain ⟨E1, d1, rfl, _⟩ := own_form hown1; have hb1 : Below X.heap.size X w1 := hXa.grown hg1 (by simp) (by intro k hk; simp [Value.ownBlock] at hk; omega); have B0 := HB0.out.below hb1 HB0.out.lt; have x5 := B0.cell 5; have xf := B0.frozen; have xl := B0.lt; simp at x5; clear B0)
  have hbl1 : ∀ b ∈ blk (.slice E1 t.labs.length d1), X.heap.size ≤ b := by
    have h2 : (Value.slice (some ⟨X.heap.size, 0, none⟩) 0 0).ownBlock = some X.heap.size := rfl
    rcases blk_of h2 hk1 with e | e <;> rw [e] <;> simp
  have hnd1 : (blk (.slice E1 t.labs.length d1)).Nodup := by
    have h2 : (Value.slice (some ⟨X.heap.size, 0, none⟩) 0 0).ownBlock = some X.heap.size := rfl
    rcases blk_of h2 hk1 with e | e <;> rw [e] <;> simp
  have BY0 : BlockIs (w1.setCell ⟨w.heap.size, 5, none⟩ (.slice E1 t.labs.length d1)) w.heap.size 35 #[.int .i64 t.id, .int .i64 t.pool, .int .i64 t.cap.c, .int .i64 t.cap.m, .int .i64 t.cap.p, .slice E1 t.labs.length d1, .slice A2 t.taints.length c2, .bool t.cordon] := by simpa using (HB0.out.below hb1 hl0).put 5 (.slice E1 t.labs.length d1)
  have BY1 : BlockIs (w1.setCell ⟨w.heap.size, 5, none⟩ (.slice E1 t.labs.length d1)) (w.heap.size + 1) 35 #[.int .i64 0, .int .i64 0, .int .i64 0, .int .i64 0, .int .i64 0, .slice none 0 0, .slice none 0 0, .bool false] := (HB1.out.below hb1 hl1).far (by dsimp only; omega) _
  have OY := own_agree hown1 (w' := w1.setCell ⟨w.heap.size, 5, none⟩ (.slice E1 t.labs.length d1)) (fun b hb => Below.heap_setCell _ _ _ b (by have := hbl1 b hb; dsimp only; omega))
  have hbY : Below w.heap.size w (w1.setCell ⟨w.heap.size, 5, none⟩ (.slice E1 t.labs.length d1)) := (below_of HX.out hb1).setCell (Nat.le_refl _) _
  have hYz : X.heap.size ≤ (w1.setCell ⟨w.heap.size, 5, none⟩ (.slice E1 t.labs.length d1)).heap.size := by simpa [World.setCell] using hb1.size
  generalize w1.setCell ⟨w.heap.size, 5, none⟩ (.slice E1 t.labs.length d1) = Y at BY0 BY1 OY hbY hYz ⊢
  have OL := Lib.hid (And.intro OY (And.intro hbl1 hnd1))
  have HB0 := Lib.hid BY0
  have HB1 := Lib.hid BY1
  have HY := Lib.hid hbY
  have b6 := BY0.cell 6
  have hl0 := BY0.lt
  have hl1 := BY1.lt
  simp at b6
  have hYa : Below Y.heap.size Y (Y.alloc (.cells #[] 3)) := (by repeat' (first | exact Below.refl _ _ | refine Below.alloc ?_ ?_ _ | refine Below.setCell ?_ ?_ _ | refine Below.drew ?_ | (apply below_step; assumption) | (simp; done) | (simp; omega) | omega))
  clear BY0 BY1 OY hbY hown1 hg1 hk1 hb1 xf xl x5 b5 hbl1 hnd1 hXa
  go_upto_region 3 with (at_builtin; refine wpList_spread _ rfl (.tmp 8) (.tmp 10) 25 rfl 3 i2 _ 1 8 Tryd.underlying25 hi2 hz2 hs2 hy2 rfl (by omega) (.slice (some ⟨Y.heap.size, 0, none⟩) 0 0) 0 [] rfl (made_own Y _ _) A2 t.taints.length c2 (intL t.taints) rfl (by simp [intL]) ((SI.out.below (below_of HY.out hYa)).news) (intL_one _) (by have := M.out.2; unfold maxLen; omega) (by have := M.out.2; omega) ?_; intro u2 w2 hown2 hg2 hk2; rw [Nat.zero_add, List.nil_append] at hown2; obtain ⟨E2, d2, rfl, _⟩ := own_form hown2; have hb2 : Below Y.heap.size Y w2 := hYa.grown hg2 (by simp) (by intro k hk; simp [Value.ownBlock] at hk; omega); have B0 := HB0.out.below hb2 HB0.out.lt; have x6 := B0.cell 6; have xf := B0.frozen; have xl := B0.lt; simp at x6; clear B0)
  have hbl2 : ∀ b ∈ blk (.slice E2 t.taints.length d2), Y.heap.size ≤ b := by
    have h2 : (Value.slice (some ⟨Y.heap.size, 0, none⟩) 0 0).ownBlock = some Y.heap.size := rfl
    rcases blk_of h2 hk2 with e | e <;> rw [e] <;> simp
  have hnd2 : (blk (.slice E2 t.taints.length d2)).Nodup := by
    have h2 : (Value.slice (some ⟨Y.heap.size, 0, none⟩) 0 0).ownBlock = some Y.heap.size := rfl
    rcases blk_of h2 hk2 with e | e <;> rw [e] <;> simp
  obtain ⟨OY, hbl1, hnd1⟩ := OL.out
  have hY1 := own_lt OY
  have O1 := own_agree OY (Agree.of_below hb2 hY1)
  have BZ0 : BlockIs (w2.setCell ⟨w.heap.size, 6, none⟩ (.slice E2 t.taints.length d2)) w.heap.size 35 #[.int .i64 t.id, .int .i64 t.pool, .int .i64 t.cap.c, .int .i64 t.cap.m, .int .i64 t.cap.p, .slice E1 t.labs.length d1, .slice E2 t.taints.length d2, .bool t.cordon] := by simpa using (HB0.out.below hb2 hl0).put 6 (.slice E2 t.taints.length d2)
  have BZ1 : BlockIs (w2.setCell ⟨w.heap.size, 6, none⟩ (.slice E2 t.taints.length d2)) (w.heap.size + 1) 35 #[.int .i64 0, .int .i64 0, .int .i64 0, .int .i64 0, .int .i64 0, .slice none 0 0, .slice none 0 0, .bool false] := (HB1.out.below hb2 hl1).far (by dsimp only; omega) _
  have P1 := own_agree O1 (w' := w2.setCell ⟨w.heap.size, 6, none⟩ (.slice E2 t.taints.length d2)) (fun b hb => Below.heap_setCell _ _ _ b (by have := hbl1 b hb; dsimp only; omega))
  have P2 := own_agree hown2 (w' := w2.setCell ⟨w.heap.size, 6, none⟩ (.slice E2 t.taints.length d2)) (fun b hb => Below.heap_setCell _ _ _ b (by have := hbl2 b hb; dsimp only; omega))
  have hbZ : Below w.heap.size w (w2.setCell ⟨w.heap.size, 6, none⟩ (.slice E2 t.taints.length d2)) := (below_of HY.out hb2).setCell (Nat.le_refl _) _
  generalize w2.setCell ⟨w.heap.size, 6, none⟩ (.slice E2 t.taints.length d2) = Z at BZ0 BZ1 P1 P2 hbZ ⊢
  have y0 := BZ0.cell 0; have y1 := BZ0.cell 1; have y2 := BZ0.cell 2; have y3 := BZ0.cell 3; have y4 := BZ0.cell 4; have y5 := BZ0.cell 5; have y6 := BZ0.cell 6; have y7 := BZ0.cell 7
  have z0 := BZ1.cell 0; have z1 := BZ1.cell 1; have z2 := BZ1.cell 2; have z3 := BZ1.cell 3; have z4 := BZ1.cell 4; have z5 := BZ1.cell 5; have z6 := BZ1.cell 6; have z7 := BZ1.cell 7
  have zf := BZ1.frozen
  simp at y0 y1 y2 y3 y4 y5 y6 y7 z0 z1 z2 z3 z4 z5 z6 z7
  have PP := Lib.hid (And.intro P1 (And.intro P2 (And.intro hbl1 (And.intro hnd1 (And.intro hbl2 (And.intro hnd2 (And.intro hY1 BZ1)))))))
  clear OY O1 P1 P2 hbl1 hnd1 hbl2 hnd2 hY1 BZ0 BZ1 hown2 hg2 hk2 hb2 xf xl x6 b6 hYa OL HB0 HB1
  go_wp2_with fail
  obtain ⟨P1, P2, hbl1, hnd1, hbl2, hnd2, hY1, BZ1⟩ := PP.out
  have hV : BlockIs ((((((((Z.setCell ⟨w.heap.size + 1, 0, none⟩ (.int .i64 t.id)).setCell ⟨w.heap.size + 1, 1, none⟩ (.int .i64 t.pool)).setCell ⟨w.heap.size + 1, 2, none⟩ (.int .i64 t.cap.c)).setCell ⟨w.heap.size + 1, 3, none⟩ (.int .i64 t.cap.m)).setCell ⟨w.heap.size + 1, 4, none⟩ (.int .i64 t.cap.p)).setCell ⟨w.heap.size + 1, 5, none⟩ (.slice E1 t.labs.length d1)).setCell ⟨w.heap.size + 1, 6, none⟩ (.slice E2 t.taints.length d2)).setCell ⟨w.heap.size + 1, 7, none⟩ (.bool t.cordon)) (w.heap.size + 1) 35 #[.int .i64 t.id, .int .i64 t.pool, .int .i64 t.cap.c, .int .i64 t.cap.m, .int .i64 t.cap.p, .slice E1 t.labs.length d1, .slice E2 t.taints.length d2, .bool t.cordon] := put8 _ _ _ _ _ _ _ _ BZ1 rfl
  have hA1 : Agree (blk (.slice E1 t.labs.length d1)) Z ((((((((Z.setCell ⟨w.heap.size + 1, 0, none⟩ (.int .i64 t.id)).setCell ⟨w.heap.size + 1, 1, none⟩ (.int .i64 t.pool)).setCell ⟨w.heap.size + 1, 2, none⟩ (.int .i64 t.cap.c)).setCell ⟨w.heap.size + 1, 3, none⟩ (.int .i64 t.cap.m)).setCell ⟨w.heap.size + 1, 4, none⟩ (.int .i64 t.cap.p)).setCell ⟨w.heap.size + 1, 5, none⟩ (.slice E1 t.labs.length d1)).setCell ⟨w.heap.size + 1, 6, none⟩ (.slice E2 t.taints.length d2)).setCell ⟨w.heap.size + 1, 7, none⟩ (.bool t.cordon)) := fun b hb => putAll_block (ds := [.int .i64 t.id, .int .i64 t.pool, .int .i64 t.cap.c, .int .i64 t.cap.m, .int .i64 t.cap.p, .slice E1 t.labs.length d1, .slice E2 t.taints.length d2, .bool t.cordon]) (by have := hbl1 b hb; omega)
  have hA2 : Agree (blk (.slice E2 t.taints.length d2)) Z ((((((((Z.setCell ⟨w.heap.size + 1, 0, none⟩ (.int .i64 t.id)).setCell ⟨w.heap.size + 1, 1, none⟩ (.int .i64 t.pool)).setCell ⟨w.heap.size + 1, 2, none⟩ (.int .i64 t.cap.c)).setCell ⟨w.heap.size + 1, 3, none⟩ (.int .i64 t.cap.m)).setCell ⟨w.heap.size + 1, 4, none⟩ (.int .i64 t.cap.p)).setCell ⟨w.heap.size + 1, 5, none⟩ (.slice E1 t.labs.length d1)).setCell ⟨w.heap.size + 1, 6, none⟩ (.slice E2 t.taints.length d2)).setCell ⟨w.heap.size + 1, 7, none⟩ (.bool t.cordon)) := fun b hb => putAll_block (ds := [.int .i64 t.id, .int .i64 t.pool, .int .i64 t.cap.c, .int .i64 t.cap.m, .int .i64 t.cap.p, .slice E1 t.labs.length d1, .slice E2 t.taints.length d2, .bool t.cordon]) (by have := hbl2 b hb; omega)
  have hB : Below w.heap.size w ((((((((Z.setCell ⟨w.heap.size + 1, 0, none⟩ (.int .i64 t.id)).setCell ⟨w.heap.size + 1, 1, none⟩ (.int .i64 t.pool)).setCell ⟨w.heap.size + 1, 2, none⟩ (.int .i64 t.cap.c)).setCell ⟨w.heap.size + 1, 3, none⟩ (.int .i64 t.cap.m)).setCell ⟨w.heap.size + 1, 4, none⟩ (.int .i64 t.cap.p)).setCell ⟨w.heap.size + 1, 5, none⟩ (.slice E1 t.labs.length d1)).setCell ⟨w.heap.size + 1, 6, none⟩ (.slice E2 t.taints.length d2)).setCell ⟨w.heap.size + 1, 7, none⟩ (.bool t.cordon)) := below8 hbZ (by omega)
  have Q1 := own_agree P1 hA1
  have Q2 := own_agree P2 hA2
  generalize ((((((((Z.setCell ⟨w.heap.size + 1, 0, none⟩ (.int .i64 t.id)).setCell ⟨w.heap.size + 1, 1, none⟩ (.int .i64 t.pool)).setCell ⟨w.heap.size + 1, 2, none⟩ (.int .i64 t.cap.c)).setCell ⟨w.heap.size + 1, 3, none⟩ (.int .i64 t.cap.m)).setCell ⟨w.heap.size + 1, 4, none⟩ (.int .i64 t.cap.p)).setCell ⟨w.heap.size + 1, 5, none⟩ (.slice E1 t.labs.length d1)).setCell ⟨w.heap.size + 1, 6, none⟩ (.slice E2 t.taints.length d2)).setCell ⟨w.heap.size + 1, 7, none⟩ (.bool t.cordon)) = V at hV Q1 Q2 hB ⊢
  have x0 := hV.cell 0; have x1 := hV.cell 1; have x2 := hV.cell 2; have x3 := hV.cell 3; have x4 := hV.cell 4; have x5 := hV.cell 5; have x6 := hV.cell 6; have x7 := hV.cell 7
  simp at x0 x1 x2 x3 x4 x5 x6 x7
  refine bodyPost_ret (v := .agg #[.int .i64 t.id, .int .i64 t.pool, .int .i64 t.cap.c, .int .i64 t.cap.m, .int .i64 t.cap.p, .slice E1 t.labs.length d1, .slice E2 t.taints.length d2, .bool t.cordon]) (by simp [results, Tryd.results48, go_sem, x0, x1, x2, x3, x4, x5, x6, x7]) rfl ⟨_, _, rfl, ⟨_, _, rfl, Q1, Q2, rfl, M.out⟩, ?_, ?_, hB⟩
  · rw [List.nodup_append]
    exact ⟨hnd1, hnd2, fun a ha b hb e => by have := hY1 a ha; have := hbl2 b hb; omega⟩
  · intro b hb
    rcases List.mem_append.1 hb with h | h
    · have := hbl1 b h; omega
    · have := hbl2 b h; omega
end Go.Proofs.YtocfgejceoenmaaDoor
