/- The laws' helpers over clusters: szCluster; toTaskS, toNodeS, toBindS, toCluster. -/
import Derived.Test.YtocfgejceoenmaaGreatDoorCluFind
import Derived.Test.YtocfgejceoenmaaGreatDoorSlTask
import Derived.Test.YtocfgejceoenmaaGreatDoorRegHeld
namespace Go.Proofs.YtocfgejceoenmaaGreatDoor
open Go.RowKit

theorem szTV_ok {z : Int} {a b : Nat} {y : Int} (h : szTV z a b = y) : y = -1 ∨ (0 ≤ z → 0 ≤ y ∧ y ≤ z ∧ (a : Int) ≤ z ∧ (b : Int) ≤ z) := by
  unfold szTV szLeft at h
  split at h
  · split at h
    · right; intro; omega
    · left; omega
  · left; omega
/-- A task as a law gets it: of its lists' lengths no more is known than that they lie in memory. -/
def TaskQ (w : World) (t : TV) (cs : List Value) : Prop := ∃ v1 v2, cs = [.int .i64 t.id, .int .i64 t.prio, .int .i64 t.need.c, .int .i64 t.need.m, .int .i64 t.need.p, v1, v2] ∧ LabSl w v1 t.want ∧ IntSl w v2 t.tols ∧ t.want.length ≤ maxLen ∧ t.tols.length ≤ maxLen
def NodeQ (w : World) (t : NV) (cs : List Value) : Prop := ∃ v1 v2, cs = [.int .i64 t.id, .int .i64 t.pool, .int .i64 t.cap.c, .int .i64 t.cap.m, .int .i64 t.cap.p, v1, v2, .bool t.cordon] ∧ LabSl w v1 t.labs ∧ IntSl w v2 t.taints ∧ t.labs.length ≤ maxLen ∧ t.taints.length ≤ maxLen
theorem TaskQ.kept : Kept TaskQ := fun _ _ _ _ hb ⟨v1, v2, e, h1, h2, h3⟩ => ⟨v1, v2, e, h1.below hb, h2.below hb, h3⟩
theorem NodeQ.kept : Kept NodeQ := fun _ _ _ _ hb ⟨v1, v2, e, h1, h2, h3⟩ => ⟨v1, v2, e, h1.below hb, h2.below hb, h3⟩
def TV.small (t : TV) : Prop := t.want.length ≤ 1048576 ∧ t.tols.length ≤ 1048576
def NV.small (t : NV) : Prop := t.labs.length ≤ 1048576 ∧ t.taints.length ≤ 1048576

set_option maxHeartbeats 1600000 in
theorem szTaskS_any (v : Value) (l : List TV) (z : Int) (w : World) (hv : GSl TaskQ 7 w v l) (hl : l.length ≤ maxLen) (h0 : 0 ≤ z) (hz : z ≤ 1048576) :
    Calls Tryz.prog 41 #[v, .int .i64 z] w fun e w' => (∃ y : Int, e = .returned (.int .i64 y) ∧ (y = -1 ∨ (0 ≤ y ∧ y ≤ 1048576 ∧ l.length ≤ 1048576 ∧ ∀ t ∈ l, t.small))) ∧ Below w.heap.size w w' := by
  obtain ⟨A, c, rfl, hA⟩ := hv.form
  have HA := Lib.hid hA
  unfold maxLen at hl
  clear hA hv
  by_cases h1 : (l.length : Int) ≤ z
  · go_enter Tryz.func41, Tryz.ntmps41
    go_wp2_with fail
    go_loopw [1, 5] (fun s1 s5 wr => ∃ (k : Nat) (y : Int), k ≤ l.length ∧ s5 = .int .i64 k ∧ s1 = .int .i64 y ∧ 0 ≤ y ∧ y ≤ 1048576 ∧ (∀ t ∈ l.take k, t.small) ∧ Below w.heap.size w wr) (fun _ s5 _ => (l.length - intOf s5).toNat)
    case atStart => exact ⟨0, z - l.length, by omega, rfl, by first | rfl | go_num, by omega, by omega, by simp, Below.refl _ _⟩
    case round =>
      obtain ⟨k, y, hk, rfl, rfl, y0, y1, hall, hB⟩ := hrel
      have HALL := Lib.hid hall
      have hzr := hB.size
      clear hall
      by_cases hlt : k < l.length
      · obtain ⟨b, off, rfl, hbw, hat⟩ := HA.out (by omega)
        obtain ⟨t, ht⟩ : ∃ t, l[k]? = some t := ⟨_, List.getElem?_eq_getElem hlt⟩
        obtain ⟨cs, hR, hC⟩ := (hat.below TaskQ.kept hB hbw) k t ht
        have HTK := Lib.hid (take_at ht)
        obtain ⟨v1, v2, rfl, sl, si, m1, m2⟩ := hR; obtain ⟨A1, c1, rfl, _⟩ := sl.form; obtain ⟨A2, c2, rfl, _⟩ := si.form
        obtain ⟨q0, q1, q2, q3, q4, q5, q6⟩ := task_cells hC
        have hsz := fun w => szTask_any (.int .i64 t.id) (.int .i64 t.prio) (.int .i64 t.need.c) (.int .i64 t.need.m) (.int .i64 t.need.p) A1 A2 t.want.length c1 t.tols.length c2 y w y0 y1 m1 m2
        generalize hy : szTV y t.want.length t.tols.length = y' at hsz
        have HY := Lib.hid (szTV_ok hy)
        have HSZ := Lib.hid hsz
        have hki : (k : Int) < (l.length : Int) := by omega
        clear hat hC ht sl si m1 m2 hsz hy
        go_wp2_with fail
        refine (HSZ.out _).mono ?_
        rintro e w2 ⟨rfl, hb2⟩
        have hC2 := below_of hB hb2
        rcases HY.out with rfl | hy2
        · go_wp2_with fail
          go_ret
          exact ⟨⟨-1, rfl, .inl rfl⟩, hC2⟩
        · obtain ⟨a1, a2, a3, a4⟩ := hy2 y0
          go_wp2_with fail
          go_roundw
          case rel =>
            refine ⟨k + 1, y', by omega, by go_num, rfl, a1, by omega, ?_, hC2⟩
            rw [HTK.out]
            intro s hs
            rcases List.mem_append.1 hs with h | h
            · exact HALL.out s h
            · simp at h; subst h; exact ⟨by omega, by omega⟩
          case measure => simp [intOf]; omega
      · have hkl : k = l.length := by omega
        go_wp2_with fail
        go_ret
        refine ⟨⟨y, rfl, .inr ⟨y0, y1, by omega, ?_⟩⟩, hB⟩
        have := HALL.out
        rwa [hkl, List.take_length] at this
  · have h1' : z < l.length := by omega
    clear h1
    go_enter Tryz.func41, Tryz.ntmps41
    go_wp2_with fail
    go_ret
    exact ⟨⟨-1, rfl, .inl rfl⟩, (by repeat' (first | exact Below.refl _ _ | refine Below.alloc ?_ ?_ _ | refine Below.setCell ?_ ?_ _ | refine Below.drew ?_ | (apply below_step; assumption) | (simp; done) | (simp; omega) | omega))⟩
set_option maxHeartbeats 1600000 in
theorem szNodeS_any (v : Value) (l : List NV) (z : Int) (w : World) (hv : GSl NodeQ 8 w v l) (hl : l.length ≤ maxLen) (h0 : 0 ≤ z) (hz : z ≤ 1048576) :
    Calls Tryz.prog 42 #[v, .int .i64 z] w fun e w' => (∃ y : Int, e = .returned (.int .i64 y) ∧ (y = -1 ∨ (0 ≤ y ∧ y ≤ 1048576 ∧ l.length ≤ 1048576 ∧ ∀ t ∈ l, t.small))) ∧ Below w.heap.size w w' := by
  obtain ⟨A, c, rfl, hA⟩ := hv.form
  have HA := Lib.hid hA
  unfold maxLen at hl
  clear hA hv
  by_cases h1 : (l.length : Int) ≤ z
  · go_enter Tryz.func42, Tryz.ntmps42
    go_wp2_with fail
    go_loopw [1, 5] (fun s1 s5 wr => ∃ (k : Nat) (y : Int), k ≤ l.length ∧ s5 = .int .i64 k ∧ s1 = .int .i64 y ∧ 0 ≤ y ∧ y ≤ 1048576 ∧ (∀ t ∈ l.take k, t.small) ∧ Below w.heap.size w wr) (fun _ s5 _ => (l.length - intOf s5).toNat)
    case atStart => exact ⟨0, z - l.length, by omega, rfl, by first | rfl | go_num, by omega, by omega, by simp, Below.refl _ _⟩
    case round =>
      obtain ⟨k, y, hk, rfl, rfl, y0, y1, hall, hB⟩ := hrel
      have HALL := Lib.hid hall
      have hzr := hB.size
      clear hall
      by_cases hlt : k < l.length
      · obtain ⟨b, off, rfl, hbw, hat⟩ := HA.out (by omega)
        obtain ⟨t, ht⟩ : ∃ t, l[k]? = some t := ⟨_, List.getElem?_eq_getElem hlt⟩
        obtain ⟨cs, hR, hC⟩ := (hat.below NodeQ.kept hB hbw) k t ht
        have HTK := Lib.hid (take_at ht)
        obtain ⟨v1, v2, rfl, sl, si, m1, m2⟩ := hR; obtain ⟨A1, c1, rfl, _⟩ := sl.form; obtain ⟨A2, c2, rfl, _⟩ := si.form
        obtain ⟨q0, q1, q2, q3, q4, q5, q6, q7⟩ := node_cells hC
        have hsz := fun w => szNode_any (.int .i64 t.id) (.int .i64 t.pool) (.int .i64 t.cap.c) (.int .i64 t.cap.m) (.int .i64 t.cap.p) (.bool t.cordon) A1 A2 t.labs.length c1 t.taints.length c2 y w y0 y1 m1 m2
        generalize hy : szTV y t.labs.length t.taints.length = y' at hsz
        have HY := Lib.hid (szTV_ok hy)
        have HSZ := Lib.hid hsz
        have hki : (k : Int) < (l.length : Int) := by omega
        clear hat hC ht sl si m1 m2 hsz hy
        go_wp2_with fail
        refine (HSZ.out _).mono ?_
        rintro e w2 ⟨rfl, hb2⟩
        have hC2 := below_of hB hb2
        rcases HY.out with rfl | hy2
        · go_wp2_with fail
          go_ret
          exact ⟨⟨-1, rfl, .inl rfl⟩, hC2⟩
        · obtain ⟨a1, a2, a3, a4⟩ := hy2 y0
          go_wp2_with fail
          go_roundw
          case rel =>
            refine ⟨k + 1, y', by omega, by go_num, rfl, a1, by omega, ?_, hC2⟩
            rw [HTK.out]
            intro s hs
            rcases List.mem_append.1 hs with h | h
            · exact HALL.out s h
            · simp at h; subst h; exact ⟨by omega, by omega⟩
          case measure => simp [intOf]; omega
      · have hkl : k = l.length := by omega
        go_wp2_with fail
        go_ret
        refine ⟨⟨y, rfl, .inr ⟨y0, y1, by omega, ?_⟩⟩, hB⟩
        have := HALL.out
        rwa [hkl, List.take_length] at this
  · have h1' : z < l.length := by omega
    clear h1
    go_enter Tryz.func42, Tryz.ntmps42
    go_wp2_with fail
    go_ret
    exact ⟨⟨-1, rfl, .inl rfl⟩, (by repeat' (first | exact Below.refl _ _ | refine Below.alloc ?_ ?_ _ | refine Below.setCell ?_ ?_ _ | refine Below.drew ?_ | (apply below_step; assumption) | (simp; done) | (simp; omega) | omega))⟩
theorem szBindS_any (v : Value) (l : List BV) (z : Int) (w : World) (hv : BindSl w v l) (hl : l.length ≤ maxLen) (h0 : 0 ≤ z) (hz : z ≤ 1048576) :
    Calls Tryz.prog 43 #[v, .int .i64 z] w fun e w' => (∃ y : Int, e = .returned (.int .i64 y) ∧ (y = -1 ∨ (0 ≤ y ∧ y ≤ 1048576 ∧ l.length ≤ 1048576))) ∧ Below w.heap.size w w' := by
  obtain ⟨A, c, rfl, hA⟩ := hv.form
  unfold maxLen at hl
  clear hA hv
  by_cases h1 : (l.length : Int) ≤ z
  · go_enter Tryz.func43, Tryz.ntmps43
    go_wp2_with fail
    go_ret
    exact ⟨⟨z - l.length, by first | rfl | simp, .inr ⟨by omega, by omega, by omega⟩⟩, (by repeat' (first | exact Below.refl _ _ | refine Below.alloc ?_ ?_ _ | refine Below.setCell ?_ ?_ _ | refine Below.drew ?_ | (apply below_step; assumption) | (simp; done) | (simp; omega) | omega))⟩
  · have h1' : z < l.length := by omega
    clear h1
    go_enter Tryz.func43, Tryz.ntmps43
    go_wp2_with fail
    go_ret
    exact ⟨⟨-1, rfl, .inl rfl⟩, (by repeat' (first | exact Below.refl _ _ | refine Below.alloc ?_ ?_ _ | refine Below.setCell ?_ ?_ _ | refine Below.drew ?_ | (apply below_step; assumption) | (simp; done) | (simp; omega) | omega))⟩
/-- A cluster as a law gets it. -/
def CluQ (w : World) (c : CV) (a0 a1 a2 : Value) : Prop := GSl TaskQ 7 w a0 c.tasks ∧ GSl NodeQ 8 w a1 c.nodes ∧ BindSl w a2 c.binds ∧ c.tasks.length ≤ maxLen ∧ c.nodes.length ≤ maxLen ∧ c.binds.length ≤ maxLen
theorem CluQ.below {w w' : World} {c : CV} {a0 a1 a2 : Value} (h : CluQ w c a0 a1 a2) (hb : Below w.heap.size w w') : CluQ w' c a0 a1 a2 := by
  obtain ⟨h0, h1, h2, h3⟩ := h
  exact ⟨h0.below TaskQ.kept hb, h1.below NodeQ.kept hb, h2.below hb, h3⟩
/-- What the laws' size test lets through. -/
def CV.small (c : CV) : Prop := c.tasks.length ≤ 1048576 ∧ (∀ t ∈ c.tasks, t.small) ∧ c.nodes.length ≤ 1048576 ∧ (∀ t ∈ c.nodes, t.small) ∧ c.binds.length ≤ 1048576
theorem GSl.small {α : Type} {R S : World → α → List Value → Prop} {n : Nat} {w : World} {v : Value} {l : List α} (h : GSl R n w v l) (hRS : ∀ x ∈ l, ∀ cs, R w x cs → S w x cs) : GSl S n w v l := by
  rcases h with h | ⟨b, off, c, rfl, hlt, h⟩
  · exact .inl h
  · refine .inr ⟨b, off, c, rfl, hlt, fun i x hx => ?_⟩
    obtain ⟨cs, h1, h2⟩ := h i x hx
    exact ⟨cs, hRS x (List.mem_of_getElem? hx) _ h1, h2⟩
theorem CluQ.clu {w : World} {c : CV} {a0 a1 a2 : Value} (h : CluQ w c a0 a1 a2) (hs : c.small) : CluR w c a0 a1 a2 := by
  obtain ⟨h0, h1, h2, h3⟩ := h
  obtain ⟨s0, s1, s2, s3, s4⟩ := hs
  exact ⟨h0.small fun x hx cs ⟨v1, v2, e, a, b, _⟩ => ⟨v1, v2, e, a, b, s1 x hx⟩, h1.small fun x hx cs ⟨v1, v2, e, a, b, _⟩ => ⟨v1, v2, e, a, b, s3 x hx⟩, h2, s0, s2, s4⟩

set_option maxHeartbeats 800000 in
theorem szCluster_any (c : CV) (a0 a1 a2 : Value) (z : Int) (w : World) (hc : CluQ w c a0 a1 a2) (h0 : 0 ≤ z) (hz : z ≤ 1048576) :
    Calls Tryz.prog 11 #[.agg #[a0, a1, a2], .int .i64 z] w fun e w' => (∃ y : Int, e = .returned (.int .i64 y) ∧ (y = -1 ∨ (0 ≤ y ∧ y ≤ 1048576 ∧ c.small))) ∧ Below w.heap.size w w' := by
  have HC := Lib.hid hc
  obtain ⟨k0, k1, k2, l0, l1, l2⟩ := hc
  obtain ⟨D0, e0, rfl, _⟩ := k0.form
  obtain ⟨D1, e1, rfl, _⟩ := k1.form
  obtain ⟨D2, e2, rfl, _⟩ := k2.form
  have L := Lib.hid (And.intro l0 (And.intro l1 l2))
  clear k0 k1 k2 l0 l1 l2
  go_enter Tryz.func11, Tryz.ntmps11
  go_wp2_with fail
  have hX : Below w.heap.size w (w.alloc (.cells #[.slice D0 c.tasks.length e0, .slice D1 c.nodes.length e1, .slice D2 c.binds.length e2] 26)) := (by repeat' (first | exact Below.refl _ _ | refine Below.alloc ?_ ?_ _ | refine Below.setCell ?_ ?_ _ | refine Below.drew ?_ | (apply below_step; assumption) | (simp; done) | (simp; omega) | omega))
  refine (szTaskS_any _ c.tasks z _ (HC.out.below hX).1 L.out.1 h0 hz).mono ?_
  rintro e w1 ⟨⟨y, rfl, hy⟩, hb1⟩
  have hC1 := below_of hX hb1
  have B1 := (BlockIs.new w 26 #[.slice D0 c.tasks.length e0, .slice D1 c.nodes.length e1, .slice D2 c.binds.length e2]).below hb1 (by simp)
  have HB1 := Lib.hid B1
  have g0 := B1.cell 0
  have g1 := B1.cell 1
  have g2 := B1.cell 2
  simp at g0 g1 g2
  clear B1 hb1
  rcases hy with rfl | ⟨y0, y1, s0, s1⟩
  · go_wp2_with fail
    go_ret
    exact ⟨⟨-1, rfl, .inl rfl⟩, hC1⟩
  have S1 := Lib.hid (And.intro s0 s1)
  clear s0 s1
  go_wp2_with fail
  refine (szNodeS_any _ c.nodes y _ (HC.out.below hC1).2.1 L.out.2.1 y0 y1).mono ?_
  rintro e w2 ⟨⟨y', rfl, hy'⟩, hb2⟩
  have hC2 := below_of hC1 hb2
  have B2 := HB1.out.below hb2 HB1.out.lt
  have g0 := B2.cell 0
  have g1 := B2.cell 1
  have g2 := B2.cell 2
  simp at g0 g1 g2
  clear B2 hb2
  rcases hy' with rfl | ⟨y0', y1', s0, s1⟩
  · go_wp2_with fail
    go_ret
    exact ⟨⟨-1, rfl, .inl rfl⟩, hC2⟩
  have S2 := Lib.hid (And.intro s0 s1)
  clear s0 s1
  go_wp2_with fail
  refine (szBindS_any _ c.binds y' _ (HC.out.below hC2).2.2.1 L.out.2.2 y0' y1').mono ?_
  rintro e w3 ⟨⟨y'', rfl, hy''⟩, hb3⟩
  have hC3 := below_of hC2 hb3
  rcases hy'' with rfl | ⟨y0'', y1'', s0⟩
  · go_wp2_with fail
    go_ret
    exact ⟨⟨-1, rfl, .inl rfl⟩, hC3⟩
  go_wp2_with fail
  go_ret
  exact ⟨⟨y'', rfl, .inr ⟨y0'', y1'', S1.out.1, S1.out.2, S2.out.1, S2.out.2, s0⟩⟩, hC3⟩
end Go.Proofs.YtocfgejceoenmaaGreatDoor
