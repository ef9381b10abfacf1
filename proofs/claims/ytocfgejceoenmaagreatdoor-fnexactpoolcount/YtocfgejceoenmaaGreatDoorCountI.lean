/- The number of nodes of a pool: countIn, PoolCount and their models. -/
import Derived.Test.YtocfgejceoenmaaGreatDoorCluUsed
import Derived.Test.YtocfgejceoenmaaGreatDoorCluSOk
namespace Go.Proofs.YtocfgejceoenmaaGreatDoor
open Go.RowKit

def countOf (z : Int) : List NV → Nat
  | [] => 0
  | n :: r => (if n.pool = z then 1 else 0) + countOf z r
theorem countOf_append (z : Int) (a b : List NV) : countOf z (a ++ b) = countOf z a + countOf z b := by
  induction a with
  | nil => simp [countOf]
  | cons x r ih => simp only [List.cons_append, countOf, ih]; omega
theorem countOf_le (z : Int) (l : List NV) : countOf z l ≤ l.length := by
  induction l with
  | nil => simp [countOf]
  | cons x r ih => simp only [countOf, List.length_cons]; split <;> omega
theorem countOf_yes {z : Int} {l : List NV} {k : Nat} {n : NV} (h : l[k]? = some n) (e : n.pool = z) : countOf z (l.take (k + 1)) = countOf z (l.take k) + 1 := by
  rw [take_at h, countOf_append]; simp [countOf, e]
theorem countOf_no {z : Int} {l : List NV} {k : Nat} {n : NV} (h : l[k]? = some n) (e : n.pool ≠ z) : countOf z (l.take (k + 1)) = countOf z (l.take k) := by
  rw [take_at h, countOf_append]; simp [countOf, e]
theorem countOf_take_le (z : Int) (l : List NV) (k : Nat) : countOf z (l.take k) ≤ l.length := by
  have := countOf_le z (l.take k)
  rw [List.length_take] at this; omega
def poolCountG (c : CV) (z : Int) : Int := if clusterOk c then countOf z c.nodes else -1

set_option maxHeartbeats 1600000 in
theorem countIn_any (c : CV) (a0 a1 a2 : Value) (z : Int) (w : World) (hc : CluR w c a0 a1 a2) :
    Calls Tryz.prog 90 #[.agg #[a0, a1, a2], .int .i64 z] w fun e w' => e = .returned (.int .i64 (countOf z c.nodes)) ∧ Below w.heap.size w w' := by
  obtain ⟨h0, h1, h2, l0, l1, l2⟩ := hc
  obtain ⟨D0, e0, rfl, r0⟩ := h0.form
  obtain ⟨D1, e1, rfl, hA⟩ := h1.form
  obtain ⟨D2, e2, rfl, r2⟩ := h2.form
  have HA := Lib.hid hA
  clear hA h0 h1 h2 l0 l2 r0 r2
  go_enter Tryz.func90, Tryz.ntmps90
  go_wp2_with fail
  go_loopw [5, 11] (fun s5 s10 wr => ∃ k : Nat, k ≤ c.nodes.length ∧ s10 = .int .i64 k ∧ s5 = .int .i64 (countOf z (c.nodes.take k)) ∧ Below w.heap.size w wr) (fun _ s10 _ => (c.nodes.length - intOf s10).toNat)
  case atStart => exact ⟨0, by omega, rfl, by simp [countOf], (by repeat' (first | exact Below.refl _ _ | refine Below.alloc ?_ ?_ _ | refine Below.setCell ?_ ?_ _ | refine Below.drew ?_ | (apply below_step; assumption) | (simp; done) | (simp; omega) | omega))⟩
  case round =>
    obtain ⟨k, hk, rfl, rfl, hB⟩ := hrel
    have hzr := hB.size
    by_cases hlt : k < c.nodes.length
    · obtain ⟨b, off, rfl, hbw, hat⟩ := HA.out (by omega)
      obtain ⟨t, ht⟩ : ∃ t, c.nodes[k]? = some t := ⟨_, List.getElem?_eq_getElem hlt⟩
      obtain ⟨cs, hR, hC0⟩ := hat k t ht
      have hC := hC0.below hB hbw
      have HT := Lib.hid ht
      have hct := countOf_take_le z c.nodes k
      obtain ⟨v1, v2, rfl, sl, si, m1, m2⟩ := hR
      obtain ⟨A1, c1, rfl, _⟩ := sl.form
      obtain ⟨A2, c2, rfl, _⟩ := si.form
      obtain ⟨q0, q1, q2, q3, q4, q5, q6, q7⟩ := node_cells hC
      have hbr : b < wr.heap.size := by omega
      clear hat hC hC0 ht sl si m1 m2
      generalize hm : countOf z (c.nodes.take k) = m at hct
      have HM := Lib.hid hm
      clear hm
      by_cases e : t.pool = z
      · have HE := Lib.hid e
        have e' : (t.pool == z) = true := by simp [e]
        clear e
        go_wp2_with fail
        go_roundw
        case rel => exact ⟨k + 1, by omega, by go_num, by rw [countOf_yes HT.out HE.out, HM.out]; go_num, (by repeat' (first | exact Below.refl _ _ | refine Below.alloc ?_ ?_ _ | refine Below.setCell ?_ ?_ _ | refine Below.drew ?_ | (apply below_step; assumption) | (simp; done) | (simp; omega) | omega))⟩
        case measure => simp [intOf]; omega
      · have HE := Lib.hid e
        have e' : (t.pool == z) = false := by simp [e]
        clear e
        go_wp2_with fail
        go_roundw
        case rel => exact ⟨k + 1, by omega, by go_num, by rw [countOf_no HT.out HE.out, HM.out], (by repeat' (first | exact Below.refl _ _ | refine Below.alloc ?_ ?_ _ | refine Below.setCell ?_ ?_ _ | refine Below.drew ?_ | (apply below_step; assumption) | (simp; done) | (simp; omega) | omega))⟩
        case measure => simp [intOf]; omega
    · have hkl : k = c.nodes.length := by omega
      have HF := Lib.hid (show countOf z (c.nodes.take k) = countOf z c.nodes by rw [hkl, List.take_length])
      clear hkl
      go_wp2_with fail
      go_ret
      exact ⟨by rw [HF.out]; rfl, hB⟩
set_option maxHeartbeats 1600000 in
theorem PoolCount_any (c : CV) (a0 a1 a2 : Value) (z : Int) (w : World) (x : Addr) (hg : ErrAt x w) (hc : CluR w c a0 a1 a2) :
    Calls Tryz.prog 40 #[.agg #[a0, a1, a2], .int .i64 z] w fun e w' => e = .returned (.int .i64 (poolCountG c z)) ∧ Below w.heap.size w w' := by
  have hok := fun w1 hg1 h => ClusterOk_any c a0 a1 a2 w1 x hg1 h
  have hct := fun w1 h => countIn_any c a0 a1 a2 z w1 h
  generalize hE : poolCountG c z = r
  unfold poolCountG at hE
  generalize clusterOk c = ok at hok hE
  generalize countOf z c.nodes = m at hct hE
  obtain ⟨D0, e0, rfl, _⟩ := hc.1.form
  obtain ⟨D1, e1, rfl, _⟩ := hc.2.1.form
  obtain ⟨D2, e2, rfl, _⟩ := hc.2.2.1.form
  have HC := Lib.hid hc
  have HG := Lib.hid hg
  have HE := Lib.hid hE
  have HOK := Lib.hid hok
  have HCT := Lib.hid hct
  clear hok hct hg hc hE
  go_enter Tryz.func40, Tryz.ntmps40
  go_wp2_with fail
  have hX : Below w.heap.size w (w.alloc (.cells #[.slice D0 c.tasks.length e0, .slice D1 c.nodes.length e1, .slice D2 c.binds.length e2] 39)) := (by repeat' (first | exact Below.refl _ _ | refine Below.alloc ?_ ?_ _ | refine Below.setCell ?_ ?_ _ | refine Below.drew ?_ | (apply below_step; assumption) | (simp; done) | (simp; omega) | omega))
  refine (HOK.out _ (HG.out.below hX (Nat.le_refl _)) (HC.out.below hX)).mono ?_
  rintro e w1 ⟨rfl, hb1⟩
  have hC1 := below_of hX hb1
  have B1 := (BlockIs.new w 39 #[.slice D0 c.tasks.length e0, .slice D1 c.nodes.length e1, .slice D2 c.binds.length e2]).below hb1 (by simp)
  have g0 := B1.cell 0
  have g1 := B1.cell 1
  have g2 := B1.cell 2
  simp at g0 g1 g2
  clear B1 hb1
  cases ok
  · go_wp2_with fail
    go_ret
    exact ⟨by rw [← HE.out]; rfl, hC1⟩
  · go_wp2_with fail
    refine (HCT.out _ (HC.out.below hC1)).mono ?_
    rintro e w2 ⟨rfl, hb2⟩
    have hC2 := below_of hC1 hb2
    go_wp2_with fail
    go_ret
    exact ⟨by rw [← HE.out]; rfl, hC2⟩
set_option maxHeartbeats 1600000 in
theorem sCountIn_any (c : CV) (a0 a1 a2 : Value) (z : Int) (w : World) (hc : CluR w c a0 a1 a2) :
    Calls Tryz.prog 88 #[.agg #[a0, a1, a2], .int .i64 z] w fun e w' => e = .returned (.int .i64 (countOf z c.nodes)) ∧ Below w.heap.size w w' := by
  obtain ⟨h0, h1, h2, l0, l1, l2⟩ := hc
  obtain ⟨D0, e0, rfl, r0⟩ := h0.form
  obtain ⟨D1, e1, rfl, hA⟩ := h1.form
  obtain ⟨D2, e2, rfl, r2⟩ := h2.form
  have HA := Lib.hid hA
  clear hA h0 h1 h2 l0 l2 r0 r2
  go_enter Tryz.func88, Tryz.ntmps88
  go_wp2_with fail
  have hX : Below w.heap.size w (w.alloc (.cells #[.slice D0 c.tasks.length e0, .slice D1 c.nodes.length e1, .slice D2 c.binds.length e2] 39)) := (by repeat' (first | exact Below.refl _ _ | refine Below.alloc ?_ ?_ _ | refine Below.setCell ?_ ?_ _ | refine Below.drew ?_ | (apply below_step; assumption) | (simp; done) | (simp; omega) | omega))
  have BX := BlockIs.new w 39 #[.slice D0 c.tasks.length e0, .slice D1 c.nodes.length e1, .slice D2 c.binds.length e2]
  go_loopw [5, 6] (fun s5 s6 wr => ∃ k : Nat, k ≤ c.nodes.length ∧ s6 = .int .i64 k ∧ s5 = .int .i64 (countOf z (c.nodes.take k)) ∧ wr = w.alloc (.cells #[.slice D0 c.tasks.length e0, .slice D1 c.nodes.length e1, .slice D2 c.binds.length e2] 39)) (fun _ s6 _ => (c.nodes.length - intOf s6).toNat)
  case atStart => exact ⟨0, by omega, rfl, by simp [countOf], rfl⟩
  case round =>
    obtain ⟨k, hk, rfl, rfl, rfl⟩ := hrel
    by_cases hlt : k < c.nodes.length
    · obtain ⟨b, off, rfl, hbw, hat⟩ := HA.out (by omega)
      obtain ⟨t, ht⟩ : ∃ t, c.nodes[k]? = some t := ⟨_, List.getElem?_eq_getElem hlt⟩
      obtain ⟨cs, hR, hC0⟩ := hat k t ht
      have hC := hC0.below hX hbw
      have HT := Lib.hid ht
      have hct := countOf_take_le z c.nodes k
      obtain ⟨v1, v2, rfl, sl, si, m1, m2⟩ := hR
      obtain ⟨q0, q1, q2, q3, q4, q5, q6, q7⟩ := node_cells hC
      clear hat hC hC0 ht sl si m1 m2
      generalize hm : countOf z (c.nodes.take k) = m at hct
      have HM := Lib.hid hm
      clear hm
      by_cases e : t.pool = z
      · have HE := Lib.hid e
        have e' : (t.pool == z) = true := by simp [e]
        clear e
        go_wp2_with fail
        go_roundw
        case rel => exact ⟨k + 1, by omega, by go_num, by rw [countOf_yes HT.out HE.out, HM.out]; go_num, by first | rfl | trivial⟩
        case measure => simp [intOf]; omega
      · have HE := Lib.hid e
        have e' : (t.pool == z) = false := by simp [e]
        clear e
        go_wp2_with fail
        go_roundw
        case rel => exact ⟨k + 1, by omega, by go_num, by rw [countOf_no HT.out HE.out, HM.out], by first | rfl | trivial⟩
        case measure => simp [intOf]; omega
    · have hkl : k = c.nodes.length := by omega
      have HF := Lib.hid (show countOf z (c.nodes.take k) = countOf z c.nodes by rw [hkl, List.take_length])
      clear hkl
      go_wp2_with fail
      go_ret
      exact ⟨by rw [HF.out]; rfl, hX⟩
set_option maxHeartbeats 1600000 in
theorem sPoolCount_any (c : CV) (a0 a1 a2 : Value) (z : Int) (w : World) (hc : CluR w c a0 a1 a2) :
    Calls Tryz.prog 39 #[.agg #[a0, a1, a2], .int .i64 z] w fun e w' => e = .returned (.int .i64 (poolCountG c z)) ∧ Below w.heap.size w w' := by
  have hok := fun w1 h => sClusterOk_any c a0 a1 a2 w1 h
  have hct := fun w1 h => sCountIn_any c a0 a1 a2 z w1 h
  generalize hE : poolCountG c z = r
  unfold poolCountG at hE
  generalize clusterOk c = ok at hok hE
  generalize countOf z c.nodes = m at hct hE
  obtain ⟨D0, e0, rfl, _⟩ := hc.1.form
  obtain ⟨D1, e1, rfl, _⟩ := hc.2.1.form
  obtain ⟨D2, e2, rfl, _⟩ := hc.2.2.1.form
  have HC := Lib.hid hc
  have HE := Lib.hid hE
  have HOK := Lib.hid hok
  have HCT := Lib.hid hct
  clear hok hct hc hE
  go_enter Tryz.func39, Tryz.ntmps39
  go_wp2_with fail
  have hX : Below w.heap.size w (w.alloc (.cells #[.slice D0 c.tasks.length e0, .slice D1 c.nodes.length e1, .slice D2 c.binds.length e2] 39)) := (by repeat' (first | exact Below.refl _ _ | refine Below.alloc ?_ ?_ _ | refine Below.setCell ?_ ?_ _ | refine Below.drew ?_ | (apply below_step; assumption) | (simp; done) | (simp; omega) | omega))
  refine (HOK.out _ (HC.out.below hX)).mono ?_
  rintro e w1 ⟨rfl, hb1⟩
  have hC1 := below_of hX hb1
  have B1 := (BlockIs.new w 39 #[.slice D0 c.tasks.length e0, .slice D1 c.nodes.length e1, .slice D2 c.binds.length e2]).below hb1 (by simp)
  have g0 := B1.cell 0
  have g1 := B1.cell 1
  have g2 := B1.cell 2
  simp at g0 g1 g2
  clear B1 hb1
  cases ok
  · go_wp2_with fail
    go_ret
    exact ⟨by rw [← HE.out]; rfl, hC1⟩
  · go_wp2_with fail
    refine (HCT.out _ (HC.out.below hC1)).mono ?_
    rintro e w2 ⟨rfl, hb2⟩
    have hC2 := below_of hC1 hb2
    go_wp2_with fail
    go_ret
    exact ⟨by rw [← HE.out]; rfl, hC2⟩
end Go.Proofs.YtocfgejceoenmaaGreatDoor
