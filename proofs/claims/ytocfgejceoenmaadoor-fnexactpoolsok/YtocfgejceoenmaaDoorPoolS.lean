/- Slices of pools: the laws' helpers szPoolS, toPoolS, eqPoolS; PoolsOk and its model. -/
import Derived.Test.YtocfgejceoenmaaDoorPoolTo
import Derived.Test.YtocfgejceoenmaaDoorRegHeld
namespace Go.Proofs.YtocfgejceoenmaaDoor
open Go.RowKit

def PV.small (t : PV) : Prop := t.shape.labs.length ≤ 1048576 ∧ t.shape.taints.length ≤ 1048576
/-- The cells of a pool of the call's own: its lists lie in blocks from base on. -/
def PoolN (base : Nat) (w : World) (t : PV) (cs : List Value) : Prop := ∃ g1 g2, cs = [.int .i64 t.id, .int .i64 t.min, .int .i64 t.max, .int .i64 t.prio, .int .i64 t.shape.id, .int .i64 t.shape.pool, .int .i64 t.shape.cap.c, .int .i64 t.shape.cap.m, .int .i64 t.shape.cap.p, .slice (some ⟨g1, 0, none⟩) t.shape.labs.length t.shape.labs.length, .slice (some ⟨g2, 0, none⟩) t.shape.taints.length t.shape.taints.length, .bool t.shape.cordon] ∧
  base ≤ g1 ∧ base ≤ g2 ∧ g2 < w.heap.size ∧ BlockIs w g1 74 (labL t.shape.labs).toArray ∧ IntAt w g2 0 t.shape.taints ∧ t.shape.labs.length ≤ 1048576 ∧ t.shape.taints.length ≤ 1048576
theorem PoolN.kept (base : Nat) : Kept (PoolN base) := fun _ _ _ _ hb ⟨g1, g2, e, h1, h2, h3, h4, h5, h6⟩ => ⟨g1, g2, e, h1, h2, Nat.lt_of_lt_of_le h3 hb.size, h4.below hb h4.lt, h5.below hb h3, h6⟩
theorem PoolN.put {base g o : Nat} {w : World} {t : PV} {cs ds : List Value} (h : PoolN base w t cs) (hg : g < base) : PoolN base (putAll w g o ds) t cs := by
  obtain ⟨g1, g2, e, h1, h2, h3, h4, h5, h6⟩ := h
  exact ⟨g1, g2, e, h1, h2, by rw [putAll_size]; exact h3, h4.putFar (by omega), h5.putFar (by omega), h6⟩
theorem PoolN.r {base : Nat} {w : World} {t : PV} {cs : List Value} (h : PoolN base w t cs) : PoolR w t cs := by
  obtain ⟨g1, g2, e, h1, h2, h3, h4, h5, h6⟩ := h
  exact ⟨_, _, e, .inr ⟨g1, 0, _, rfl, h4.lt, LabAt.of_cells h4⟩, .inr ⟨g2, 0, _, rfl, h3, h5⟩, h6⟩
theorem PoolN.len {base : Nat} {w : World} {t : PV} {cs : List Value} (h : PoolN base w t cs) : cs.length = 12 := by
  obtain ⟨g1, g2, e, _⟩ := h; subst e; rfl
theorem toPool_n (t : PV) (cs : List Value) (w : World) (h : PoolR w t cs) : Calls Tryd.prog 8 #[.agg cs.toArray] w (RetN PoolN w t) := by
  obtain ⟨v1, v2, rfl, h1, h2, l1, l2⟩ := h
  exact (toPool_o t v1 v2 w h1 h2 l1 l2).mono fun _ _ ⟨g1, g2, e, k1, k2, k3, bl, it, hb⟩ => ⟨_, e, ⟨g1, g2, rfl, k1, k2, k3, bl, fun i r hr => (it.cell _).trans (by simp [intL, hr]), l1, l2⟩, hb⟩
theorem eqPool_r (t : PV) (cs ds : List Value) (w : World) (h : PoolR w t cs) (k : PoolR w t ds) : Calls Tryd.prog 10 #[.agg cs.toArray, .agg ds.toArray] w fun e w' => e = .returned (.bool true) ∧ Below w.heap.size w w' := by
  obtain ⟨v1, v2, rfl, h1, h2, l1, l2⟩ := h
  obtain ⟨u1, u2, rfl, k1, k2, _, _⟩ := k
  exact eqPool_same t v1 v2 u1 u2 w h1 h2 k1 k2 l1 l2
theorem Tryd.infoPool : (Tryd.prog.info? 37).map (fun i => (i.zero, i.size, i.bytes)) = some (some (.agg #[.int .i64 0, .int .i64 0, .int .i64 0, .int .i64 0, .int .i64 0, .int .i64 0, .int .i64 0, .int .i64 0, .int .i64 0, .slice none 0 0, .slice none 0 0, .bool false]), 12, 128) := by kernel_rfl
theorem make_pool (n : Nat) (h : n ≤ 1048576) (w : World) : (Instr.makeSlice 44 (.int .i64 (n : Int)) (.int .i64 (n : Int))).run Tryd.prog w = .ok (.slice (some ⟨w.heap.size, 0, none⟩) n n) (w.alloc (.cells (madeCells #[.int .i64 0, .int .i64 0, .int .i64 0, .int .i64 0, .int .i64 0, .int .i64 0, .int .i64 0, .int .i64 0, .int .i64 0, .slice none 0 0, .slice none 0 0, .bool false] (n * 12)) 37)) := by
  obtain ⟨i, hi, hzz⟩ := Option.map_eq_some_iff.1 Tryd.infoPool
  simp only [Prod.mk.injEq] at hzz
  obtain ⟨hz, hs, hb⟩ := hzz
  have := run_make (P := Tryd.prog) w 44 37 i _ Tryd.underlying44 hi hz .i64 .i64 n n (by omega) (Int.le_refl _) (by rw [hb]; omega) (by omega)
  rw [this, hs]
  simp [Value.cells]
/-- The ending 'a slice of the call's own that reads as the list'. -/
def NewPoolS (w : World) (l : List PV) (e : Ending) (w' : World) : Prop := e = .returned (.slice (some ⟨w.heap.size, 0, none⟩) l.length l.length) ∧ CopyG (PoolN (w.heap.size + 1)) 12 37 w' w.heap.size l l.length ∧ Below w.heap.size w w'

set_option maxHeartbeats 1600000 in
theorem toPoolS_any (v : Value) (l : List PV) (w : World) (hv : PoolSl w v l) (hlen : l.length ≤ 1048576) :
    Calls Tryd.prog 13 #[v] w (NewPoolS w l) := by
  obtain ⟨A, c, rfl, hA⟩ := hv.form
  have HA := Lib.hid hA
  clear hA hv
  have hmk := make_pool l.length hlen
  go_enter Tryd.func13, Tryd.ntmps13
  go_wp2_with fail
  go_loopw [4] (fun s4 wr => ∃ k : Nat, k ≤ l.length ∧ s4 = .int .i64 k ∧ CopyG (PoolN (w.heap.size + 1)) 12 37 wr w.heap.size l k ∧ Below w.heap.size w wr) (fun s4 _ => (l.length - intOf s4).toNat)
  case atStart =>
    exact ⟨0, by omega, rfl, ⟨_, BlockIs.new _ _ _, size_madeCells _ _, fun i r hi => absurd hi (by omega)⟩, (by repeat' (first | exact Below.refl _ _ | refine Below.alloc ?_ ?_ _ | refine Below.setCell ?_ ?_ _ | refine Below.drew ?_ | (apply below_step; assumption) | (simp; done) | (simp; omega) | omega))⟩
  case round =>
    obtain ⟨k, hk, rfl, hcp, hB⟩ := hrel
    have HCP := Lib.hid hcp
    have hgl := hcp.lt
    have hzr := hB.size
    clear hcp
    by_cases hlt : k < l.length
    · obtain ⟨b, off, rfl, hbw, hat⟩ := HA.out (by omega)
      obtain ⟨t, ht⟩ : ∃ t, l[k]? = some t := ⟨_, List.getElem?_eq_getElem hlt⟩
      obtain ⟨cs, hR, hC⟩ := (hat.below PoolR.kept hB hbw) k t ht
      have HTK := Lib.hid ht
      have HR := Lib.hid (toPool_n t cs wr hR)
      obtain ⟨v1, v2, rfl, sl, si, m1, m2⟩ := hR; obtain ⟨A1, c1, rfl, _⟩ := sl.form; obtain ⟨A2, c2, rfl, _⟩ := si.form
      clear sl si m1 m2
      obtain ⟨q0, q1, q2, q3, q4, q5, q6, q7, q8, q9, q10, q11⟩ := pool_cells hC
      clear hat hC ht
      go_wp2_with fail
      refine HR.out.mono ?_
      rintro e w3 ⟨ds, rfl, hN, hb3⟩
      have hz3 := hb3.size
      have hC3 := below_of hB hb3
      have hcp := HCP.out.below (PoolN.kept _) hb3
      have HN := Lib.hid (show PoolN (w.heap.size + 1) w3 t ds from by obtain ⟨g1, g2, e, h1, h2, h3⟩ := hN; exact ⟨g1, g2, e, by omega, by omega, h3⟩)
      have HCP3 := Lib.hid hcp
      obtain ⟨cs3, hblk, hsz, _⟩ := hcp
      have hk12 : k * 12 + 12 ≤ cs3.size := by omega
      have x0 : w3.cell? ⟨w.heap.size, k * 12 + 0, none⟩ = some (cs3[k * 12 + 0]'(by omega)) := (by rw [hblk.cell]; exact Array.getElem?_eq_getElem (by omega)); have x1 : w3.cell? ⟨w.heap.size, k * 12 + 1, none⟩ = some (cs3[k * 12 + 1]'(by omega)) := (by rw [hblk.cell]; exact Array.getElem?_eq_getElem (by omega)); have x2 : w3.cell? ⟨w.heap.size, k * 12 + 2, none⟩ = some (cs3[k * 12 + 2]'(by omega)) := (by rw [hblk.cell]; exact Array.getElem?_eq_getElem (by omega)); have x3 : w3.cell? ⟨w.heap.size, k * 12 + 3, none⟩ = some (cs3[k * 12 + 3]'(by omega)) := (by rw [hblk.cell]; exact Array.getElem?_eq_getElem (by omega)); have x4 : w3.cell? ⟨w.heap.size, k * 12 + 4, none⟩ = some (cs3[k * 12 + 4]'(by omega)) := (by rw [hblk.cell]; exact Array.getElem?_eq_getElem (by omega)); have x5 : w3.cell? ⟨w.heap.size, k * 12 + 5, none⟩ = some (cs3[k * 12 + 5]'(by omega)) := (by rw [hblk.cell]; exact Array.getElem?_eq_getElem (by omega)); have x6 : w3.cell? ⟨w.heap.size, k * 12 + 6, none⟩ = some (cs3[k * 12 + 6]'(by omega)) := (by rw [hblk.cell]; exact Array.getElem?_eq_getElem (by omega)); have x7 : w3.cell? ⟨w.heap.size, k * 12 + 7, none⟩ = some (cs3[k * 12 + 7]'(by omega)) := (by rw [hblk.cell]; exact Array.getElem?_eq_getElem (by omega)); have x8 : w3.cell? ⟨w.heap.size, k * 12 + 8, none⟩ = some (cs3[k * 12 + 8]'(by omega)) := (by rw [hblk.cell]; exact Array.getElem?_eq_getElem (by omega)); have x9 : w3.cell? ⟨w.heap.size, k * 12 + 9, none⟩ = some (cs3[k * 12 + 9]'(by omega)) := (by rw [hblk.cell]; exact Array.getElem?_eq_getElem (by omega)); have x10 : w3.cell? ⟨w.heap.size, k * 12 + 10, none⟩ = some (cs3[k * 12 + 10]'(by omega)) := (by rw [hblk.cell]; exact Array.getElem?_eq_getElem (by omega)); have x11 : w3.cell? ⟨w.heap.size, k * 12 + 11, none⟩ = some (cs3[k * 12 + 11]'(by omega)) := (by rw [hblk.cell]; exact Array.getElem?_eq_getElem (by omega))
      generalize cs3[k * 12 + 0]'(by omega) = y0 at x0; generalize cs3[k * 12 + 1]'(by omega) = y1 at x1; generalize cs3[k * 12 + 2]'(by omega) = y2 at x2; generalize cs3[k * 12 + 3]'(by omega) = y3 at x3; generalize cs3[k * 12 + 4]'(by omega) = y4 at x4; generalize cs3[k * 12 + 5]'(by omega) = y5 at x5; generalize cs3[k * 12 + 6]'(by omega) = y6 at x6; generalize cs3[k * 12 + 7]'(by omega) = y7 at x7; generalize cs3[k * 12 + 8]'(by omega) = y8 at x8; generalize cs3[k * 12 + 9]'(by omega) = y9 at x9; generalize cs3[k * 12 + 10]'(by omega) = y10 at x10; generalize cs3[k * 12 + 11]'(by omega) = y11 at x11
      rw [Nat.add_zero] at x0
      have uf := hblk.frozen
      have hl3 := hblk.lt
      clear hblk hsz hk12 hN hb3
      obtain ⟨g1, g2, rfl, _⟩ := HN.out
      go_wp2_with fail
      go_roundw
      case rel =>
        have st := HCP3.out.step HTK.out (HN.out.put (by omega)) HN.out.len (fun y es h => h.put (by omega))
        exact ⟨k + 1, by omega, by go_num, st, putAll_below (ds := [_, _, _, _, _, _, _, _, _, _, _, _]) hC3 (Nat.le_refl _)⟩
      case measure => simp [intOf]; omega
    · have hkl : k = l.length := by omega
      have HF := Lib.hid (show CopyG (PoolN (w.heap.size + 1)) 12 37 wr w.heap.size l l.length by rw [← hkl]; exact HCP.out)
      clear hkl
      go_wp2_with fail
      go_ret
      exact ⟨rfl, HF.out, hB⟩
set_option maxHeartbeats 1600000 in
set_option maxRecDepth 20000 in
theorem eqPoolS_same (v1 v2 : Value) (l : List PV) (w : World) (h1 : PoolSl w v1 l) (h2 : PoolSl w v2 l) (hlen : l.length ≤ 1048576) :
    Calls Tryd.prog 15 #[v1, v2] w fun e w' => e = .returned (.bool true) ∧ Below w.heap.size w w' := by
  obtain ⟨A, c, rfl, hA⟩ := h1.form
  obtain ⟨A', c', rfl, hA'⟩ := h2.form
  have HA := Lib.hid hA
  have HA' := Lib.hid hA'
  clear hA hA' h1 h2
  have hnn : ((l.length : Int) != (l.length : Int)) = false := by simp
  go_enter Tryd.func15, Tryd.ntmps15
  go_wp2_with fail
  go_loopw [5] (fun s5 wr => ∃ k : Nat, k ≤ l.length ∧ s5 = .int .i64 k ∧ Below w.heap.size w wr) (fun s5 _ => (l.length - intOf s5).toNat)
  case atStart => exact ⟨0, by omega, rfl, Below.refl _ _⟩
  case round =>
    obtain ⟨k, hk, rfl, hB⟩ := hrel
    have hzr := hB.size
    by_cases hlt : k < l.length
    · obtain ⟨b, off, rfl, hbw, hat⟩ := HA.out (by omega)
      obtain ⟨b', off', rfl, hbw', hat'⟩ := HA'.out (by omega)
      obtain ⟨t, ht⟩ : ∃ t, l[k]? = some t := ⟨_, List.getElem?_eq_getElem hlt⟩
      obtain ⟨ds, hR, hC⟩ := (hat'.below PoolR.kept hB hbw') k t ht
      have HR' := Lib.hid hR
      obtain ⟨v3, v4, rfl, sl, si, m1, m2⟩ := hR; obtain ⟨A3, c3, rfl, _⟩ := sl.form; obtain ⟨A4, c4, rfl, _⟩ := si.form; clear sl si m1 m2
      obtain ⟨p0, p1, p2, p3, p4, p5, p6, p7, p8, p9, p10, p11⟩ := pool_cells hC
      clear hC
      obtain ⟨cs, hR, hC⟩ := (hat.below PoolR.kept hB hbw) k t ht
      have HR := Lib.hid hR
      obtain ⟨v1, v2, rfl, sl, si, m1, m2⟩ := hR; obtain ⟨A1, c1, rfl, _⟩ := sl.form; obtain ⟨A2, c2, rfl, _⟩ := si.form
      clear sl si m1 m2
      obtain ⟨q0, q1, q2, q3, q4, q5, q6, q7, q8, q9, q10, q11⟩ := pool_cells hC
      have hbr : b < wr.heap.size := by omega
      have hbr' : b' < wr.heap.size := by omega
      have HK := Lib.hid (show ∀ w', Below wr.heap.size wr w' → Below wr.heap.size wr w' ∧ w'.cell? ⟨b, off + k * 12, none⟩ = some (.int .i64 t.id) ∧ w'.cell? ⟨b, off + k * 12 + 1, none⟩ = some (.int .i64 t.min) ∧ w'.cell? ⟨b, off + k * 12 + 2, none⟩ = some (.int .i64 t.max) ∧ w'.cell? ⟨b, off + k * 12 + 3, none⟩ = some (.int .i64 t.prio) ∧ w'.cell? ⟨b, off + k * 12 + 4, none⟩ = some (.int .i64 t.shape.id) ∧ w'.cell? ⟨b, off + k * 12 + 5, none⟩ = some (.int .i64 t.shape.pool) ∧ w'.cell? ⟨b, off + k * 12 + 6, none⟩ = some (.int .i64 t.shape.cap.c) ∧ w'.cell? ⟨b, off + k * 12 + 7, none⟩ = some (.int .i64 t.shape.cap.m) ∧ w'.cell? ⟨b, off + k * 12 + 8, none⟩ = some (.int .i64 t.shape.cap.p) ∧ w'.cell? ⟨b, off + k * 12 + 9, none⟩ = some (.slice A1 t.shape.labs.length c1) ∧ w'.cell? ⟨b, off + k * 12 + 10, none⟩ = some (.slice A2 t.shape.taints.length c2) ∧ w'.cell? ⟨b, off + k * 12 + 11, none⟩ = some (.bool t.shape.cordon) ∧ w'.cell? ⟨b', off' + k * 12, none⟩ = some (.int .i64 t.id) ∧ w'.cell? ⟨b', off' + k * 12 + 1, none⟩ = some (.int .i64 t.min) ∧ w'.cell? ⟨b', off' + k * 12 + 2, none⟩ = some (.int .i64 t.max) ∧ w'.cell? ⟨b', off' + k * 12 + 3, none⟩ = some (.int .i64 t.prio) ∧ w'.cell? ⟨b', off' + k * 12 + 4, none⟩ = some (.int .i64 t.shape.id) ∧ w'.cell? ⟨b', off' + k * 12 + 5, none⟩ = some (.int .i64 t.shape.pool) ∧ w'.cell? ⟨b', off' + k * 12 + 6, none⟩ = some (.int .i64 t.shape.cap.c) ∧ w'.cell? ⟨b', off' + k * 12 + 7, none⟩ = some (.int .i64 t.shape.cap.m) ∧ w'.cell? ⟨b', off' + k * 12 + 8, none⟩ = some (.int .i64 t.shape.cap.p) ∧ w'.cell? ⟨b', off' + k * 12 + 9, none⟩ = some (.slice A3 t.shape.labs.length c3) ∧ w'.cell? ⟨b', off' + k * 12 + 10, none⟩ = some (.slice A4 t.shape.taints.length c4) ∧ w'.cell? ⟨b', off' + k * 12 + 11, none⟩ = some (.bool t.shape.cordon) from fun w' hb => ⟨hb, (hb.cell (p := ⟨_, _, none⟩) hbr).trans q0, (hb.cell (p := ⟨_, _, none⟩) hbr).trans q1, (hb.cell (p := ⟨_, _, none⟩) hbr).trans q2, (hb.cell (p := ⟨_, _, none⟩) hbr).trans q3, (hb.cell (p := ⟨_, _, none⟩) hbr).trans q4, (hb.cell (p := ⟨_, _, none⟩) hbr).trans q5, (hb.cell (p := ⟨_, _, none⟩) hbr).trans q6, (hb.cell (p := ⟨_, _, none⟩) hbr).trans q7, (hb.cell (p := ⟨_, _, none⟩) hbr).trans q8, (hb.cell (p := ⟨_, _, none⟩) hbr).trans q9, (hb.cell (p := ⟨_, _, none⟩) hbr).trans q10, (hb.cell (p := ⟨_, _, none⟩) hbr).trans q11, (hb.cell (p := ⟨_, _, none⟩) hbr').trans p0, (hb.cell (p := ⟨_, _, none⟩) hbr').trans p1, (hb.cell (p := ⟨_, _, none⟩) hbr').trans p2, (hb.cell (p := ⟨_, _, none⟩) hbr').trans p3, (hb.cell (p := ⟨_, _, none⟩) hbr').trans p4, (hb.cell (p := ⟨_, _, none⟩) hbr').trans p5, (hb.cell (p := ⟨_, _, none⟩) hbr').trans p6, (hb.cell (p := ⟨_, _, none⟩) hbr').trans p7, (hb.cell (p := ⟨_, _, none⟩) hbr').trans p8, (hb.cell (p := ⟨_, _, none⟩) hbr').trans p9, (hb.cell (p := ⟨_, _, none⟩) hbr').trans p10, (hb.cell (p := ⟨_, _, none⟩) hbr').trans p11⟩)
      have hlti : (k : Int) < (l.length : Int) := by omega
      have hk0 : (0 : Int) ≤ (k : Int) := by omega
      clear hat hat' ht hC q0 q1 q2 q3 q4 q5 q6 q7 q8 q9 q10 q11 p0 p1 p2 p3 p4 p5 p6 p7 p8 p9 p10 p11
      go_wp2_with fail
      refine wp_region_held_drew (S := (fun w' => Below wr.heap.size wr w' ∧ w'.cell? ⟨b, off + k * 12, none⟩ = some (.int .i64 t.id) ∧ w'.cell? ⟨b, off + k * 12 + 1, none⟩ = some (.int .i64 t.min) ∧ w'.cell? ⟨b, off + k * 12 + 2, none⟩ = some (.int .i64 t.max) ∧ w'.cell? ⟨b, off + k * 12 + 3, none⟩ = some (.int .i64 t.prio) ∧ w'.cell? ⟨b, off + k * 12 + 4, none⟩ = some (.int .i64 t.shape.id) ∧ w'.cell? ⟨b, off + k * 12 + 5, none⟩ = some (.int .i64 t.shape.pool) ∧ w'.cell? ⟨b, off + k * 12 + 6, none⟩ = some (.int .i64 t.shape.cap.c) ∧ w'.cell? ⟨b, off + k * 12 + 7, none⟩ = some (.int .i64 t.shape.cap.m) ∧ w'.cell? ⟨b, off + k * 12 + 8, none⟩ = some (.int .i64 t.shape.cap.p) ∧ w'.cell? ⟨b, off + k * 12 + 9, none⟩ = some (.slice A1 t.shape.labs.length c1) ∧ w'.cell? ⟨b, off + k * 12 + 10, none⟩ = some (.slice A2 t.shape.taints.length c2) ∧ w'.cell? ⟨b, off + k * 12 + 11, none⟩ = some (.bool t.shape.cordon) ∧ w'.cell? ⟨b', off' + k * 12, none⟩ = some (.int .i64 t.id) ∧ w'.cell? ⟨b', off' + k * 12 + 1, none⟩ = some (.int .i64 t.min) ∧ w'.cell? ⟨b', off' + k * 12 + 2, none⟩ = some (.int .i64 t.max) ∧ w'.cell? ⟨b', off' + k * 12 + 3, none⟩ = some (.int .i64 t.prio) ∧ w'.cell? ⟨b', off' + k * 12 + 4, none⟩ = some (.int .i64 t.shape.id) ∧ w'.cell? ⟨b', off' + k * 12 + 5, none⟩ = some (.int .i64 t.shape.pool) ∧ w'.cell? ⟨b', off' + k * 12 + 6, none⟩ = some (.int .i64 t.shape.cap.c) ∧ w'.cell? ⟨b', off' + k * 12 + 7, none⟩ = some (.int .i64 t.shape.cap.m) ∧ w'.cell? ⟨b', off' + k * 12 + 8, none⟩ = some (.int .i64 t.shape.cap.p) ∧ w'.cell? ⟨b', off' + k * 12 + 9, none⟩ = some (.slice A3 t.shape.labs.length c3) ∧ w'.cell? ⟨b', off' + k * 12 + 10, none⟩ = some (.slice A4 t.shape.taints.length c4) ∧ w'.cell? ⟨b', off' + k * 12 + 11, none⟩ = some (.bool t.shape.cordon))) (by kernel_rfl) (by (try dsimp only); exact HK.out _ (by repeat' (first | exact Below.refl _ _ | refine Below.alloc ?_ ?_ _ | refine Below.setCell ?_ ?_ _ | refine Below.drew ?_ | (apply below_step; assumption) | (simp; done) | (simp; omega) | omega))) (fun hHeld => ?_)
      refine hTake (i := 0) (oi := ?a2) (v := ?f2) (d := ?g2) ?b2 ?c2 (by kernel_rfl) ?d2 ?e2 ?h2 (by assumption) ?_; (case b2 => simp only [rhN]; try rfl); (case c2 => (try dsimp only); rfl); (case e2 => rfl); (case d2 => exact fun _ _ _ h => h); (case h2 => intro w hSw; (try dsimp only at hSw); go_simp <;> with_reducible rfl); simp only [Act.put, rhA, rhS, rhT]
      refine hTake (i := 1) (oi := ?a3) (v := ?f3) (d := ?g3) ?b3 ?c3 (by kernel_rfl) ?d3 ?e3 ?h3 (by assumption) ?_; (case b3 => simp only [rhN, rhM]; try rfl); (case c3 => (try dsimp only); rfl); (case e3 => rfl); (case d3 => exact fun _ _ _ h => h); (case h3 => intro w hSw; (try dsimp only at hSw); go_simp <;> with_reducible rfl); simp only [Act.put, rhA, rhS, rhT]
      refine hTake (i := 2) (oi := ?a4) (v := ?f4) (d := ?g4) ?b4 ?c4 (by kernel_rfl) ?d4 ?e4 ?h4 (by assumption) ?_; (case b4 => simp only [rhN, rhM]; try rfl); (case c4 => (try dsimp only); rfl); (case e4 => rfl); (case d4 => exact fun _ _ _ h => h); (case h4 => intro w hSw; (try dsimp only at hSw); go_simp <;> with_reducible rfl); simp only [Act.put, rhA, rhS, rhT]
      refine hTake (i := 3) (oi := ?a5) (v := ?f5) (d := ?g5) ?b5 ?c5 (by kernel_rfl) ?d5 ?e5 ?h5 (by assumption) ?_; (case b5 => simp only [rhN, rhM]; try rfl); (case c5 => (try dsimp only); rfl); (case e5 => rfl); (case d5 => exact fun _ _ _ h => h); (case h5 => intro w hSw; (try dsimp only at hSw); go_simp <;> with_reducible rfl); simp only [Act.put, rhA, rhS, rhT]
      refine hTake (i := 4) (oi := ?a6) (v := ?f6) (d := ?g6) ?b6 ?c6 (by kernel_rfl) ?d6 ?e6 ?h6 (by assumption) ?_; (case b6 => simp only [rhN, rhM]; try rfl); (case c6 => (try dsimp only); rfl); (case e6 => rfl); (case d6 => exact fun _ _ _ h => h); (case h6 => intro w hSw; (try dsimp only at hSw); go_simp <;> with_reducible rfl); simp only [Act.put, rhA, rhS, rhT]
      refine hTake (i := 5) (oi := ?a7) (v := ?f7) (d := ?g7) ?b7 ?c7 (by kernel_rfl) ?d7 ?e7 ?h7 (by assumption) ?_; (case b7 => simp only [rhN, rhM]; try rfl); (case c7 => (try dsimp only); rfl); (case e7 => rfl); (case d7 => exact fun _ _ _ h => h); (case h7 => intro w hSw; (try dsimp only at hSw); go_simp <;> with_reducible rfl); simp only [Act.put, rhA, rhS, rhT]
      refine hTake (i := 6) (oi := ?a8) (v := ?f8) (d := ?g8) ?b8 ?c8 (by kernel_rfl) ?d8 ?e8 ?h8 (by assumption) ?_; (case b8 => simp only [rhN, rhM]; try rfl); (case c8 => (try dsimp only); rfl); (case e8 => rfl); (case d8 => exact fun _ _ _ h => h); (case h8 => intro w hSw; (try dsimp only at hSw); go_simp <;> with_reducible rfl); simp only [Act.put, rhA, rhS, rhT]
      refine hTake (i := 7) (oi := ?a9) (v := ?f9) (d := ?g9) ?b9 ?c9 (by kernel_rfl) ?d9 ?e9 ?h9 (by assumption) ?_; (case b9 => simp only [rhN, rhM]; try rfl); (case c9 => (try dsimp only); rfl); (case e9 => rfl); (case d9 => exact fun _ _ _ h => h); (case h9 => intro w hSw; (try dsimp only at hSw); go_simp <;> with_reducible rfl); simp only [Act.put, rhA, rhS, rhT]
      refine hCall (i := 8) (o := ?a10) ?b10 (by kernel_rfl) ?c10 (fun K hK => ?d10)
      case b10 => simp only [rhN, rhM]; try rfl
      case c10 => rfl
      go_simp
      refine (eqPool_r t _ _ _ (PoolR.kept _ _ _ _ (by repeat' (first | exact Below.refl _ _ | refine Below.alloc ?_ ?_ _ | refine Below.setCell ?_ ?_ _ | refine Below.drew ?_ | (apply below_step; assumption) | (simp; done) | (simp; omega) | omega)) HR.out) (PoolR.kept _ _ _ _ (by repeat' (first | exact Below.refl _ _ | refine Below.alloc ?_ ?_ _ | refine Below.setCell ?_ ?_ _ | refine Below.drew ?_ | (apply below_step; assumption) | (simp; done) | (simp; omega) | omega)) HR'.out)).mono ?_
      rintro e w3 ⟨rfl, hb3⟩
      have hz3 := hb3.size
      try simp at hz3
      go_wp2_with fail
      refine hK.out _ _ (by (try dsimp only); exact HK.out _ (by repeat' (first | exact Below.refl _ _ | refine Below.alloc ?_ ?_ _ | refine Below.setCell ?_ ?_ _ | refine Below.drew ?_ | (apply below_step; assumption) | (simp; done) | (simp; omega) | omega))) (fun hHeld => ?_)
      clear hK K
      try simp only [Act.put, rhA, rhS, rhT]
      refine hTake (i := 9) (oi := ?a12) (v := ?f12) (d := ?g12) ?b12 ?c12 (by kernel_rfl) ?d12 ?e12 ?h12 (by assumption) ?_; (case b12 => simp only [rhN, rhM]; try rfl); (case c12 => (try dsimp only); rfl); (case e12 => rfl); (case d12 => exact fun _ _ _ h => h); (case h12 => intro w hSw; (try dsimp only at hSw); go_simp <;> with_reducible rfl); simp only [Act.put, rhA, rhS, rhT]
      refine wpAnyH_done (by kernel_rfl) ?_ _
      go_wp2_with fail
      go_roundw
      case rel => exact ⟨k + 1, by omega, by go_num, (by repeat' (first | exact Below.refl _ _ | refine Below.alloc ?_ ?_ _ | refine Below.setCell ?_ ?_ _ | refine Below.drew ?_ | (apply below_step; assumption) | (simp; done) | (simp; omega) | omega))⟩
      case measure => simp [intOf]; omega
    · go_wp2_with fail
      go_ret
      exact ⟨rfl, hB⟩
set_option maxHeartbeats 1600000 in
theorem szPoolS_any (v : Value) (l : List PV) (z : Int) (w : World) (hv : GSl PoolQ 12 w v l) (hl : l.length ≤ maxLen) (h0 : 0 ≤ z) (hz : z ≤ 1048576) :
    Calls Tryd.prog 11 #[v, .int .i64 z] w fun e w' => (∃ y : Int, e = .returned (.int .i64 y) ∧ (y = -1 ∨ (0 ≤ y ∧ y ≤ 1048576 ∧ l.length ≤ 1048576 ∧ ∀ t ∈ l, t.small))) ∧ Below w.heap.size w w' := by
  obtain ⟨A, c, rfl, hA⟩ := hv.form
  have HA := Lib.hid hA
  unfold maxLen at hl
  clear hA hv
  by_cases h1 : (l.length : Int) ≤ z
  · go_enter Tryd.func11, Tryd.ntmps11
    go_wp2_with fail
    go_loopw [1, 5] (fun s1 s5 wr => ∃ (k : Nat) (y : Int), k ≤ l.length ∧ s5 = .int .i64 k ∧ s1 = .int .i64 y ∧ 0 ≤ y ∧ y ≤ 1048576 ∧ (∀ t ∈ l.take k, t.small) ∧ Below w.heap.size w wr) (fun _ s5 _ => (l.length - intOf s5).toNat)
    case atStart => exact ⟨0, z - l.length, by omega, rfl, by first | rfl | go_num, by omega, by omega, by simp, Below.refl _ _⟩
    case round =>
      obtain ⟨k, y, hk, rfl, rfl, y0, y1, hall, hB⟩ := hrel
      have HALL := Lib.hid hall
      have hzr := hB.size
      clear hall
      by_cases hlt : k < l.length
      · obtain ⟨b, off, rfl, hbw, hat⟩ := HA.out (by omega)
        obtain ⟨t, ht⟩ : ∃ t, l[k]? = some t := ⟨_, List.getElem?_eq_getElem hlt⟩
        obtain ⟨cs, hR, hC⟩ := (hat.below PoolQ.kept hB hbw) k t ht
        have HTK := Lib.hid (take_at ht)
        obtain ⟨v1, v2, rfl, sl, si, m1, m2⟩ := hR; obtain ⟨A1, c1, rfl, _⟩ := sl.form; obtain ⟨A2, c2, rfl, _⟩ := si.form
        obtain ⟨q0, q1, q2, q3, q4, q5, q6, q7, q8, q9, q10, q11⟩ := pool_cells hC
        have hsz := fun w => szPool_any (.int .i64 t.id) (.int .i64 t.min) (.int .i64 t.max) (.int .i64 t.prio) (.int .i64 t.shape.id) (.int .i64 t.shape.pool) (.int .i64 t.shape.cap.c) (.int .i64 t.shape.cap.m) (.int .i64 t.shape.cap.p) (.bool t.shape.cordon) A1 A2 t.shape.labs.length c1 t.shape.taints.length c2 y w y0 y1 m1 m2
        generalize hy : szTV y t.shape.labs.length t.shape.taints.length = y' at hsz
        have HY := Lib.hid (szTV_ok hy)
        have HSZ := Lib.hid hsz
        have hki : (k : Int) < (l.length : Int) := by omega
        clear hat hC ht sl si m1 m2 hsz hy
        go_wp2_with fail
        refine (HSZ.out _).mono ?_
        rintro e w2 ⟨rfl, hb2⟩
        have hC2 := below_of hB hb2
        rcases HY.out with rfl | hy2
        · go_wp2_with fail
          go_ret
          exact ⟨⟨-1, rfl, .inl rfl⟩, hC2⟩
        · obtain ⟨a1, a2, a3, a4⟩ := hy2 y0
          go_wp2_with fail
          go_roundw
          case rel =>
            refine ⟨k + 1, y', by omega, by go_num, rfl, a1, by omega, ?_, hC2⟩
            rw [HTK.out]
            intro s hs
            rcases List.mem_append.1 hs with h | h
            · exact HALL.out s h
            · simp at h; subst h; exact ⟨by omega, by omega⟩
          case measure => simp [intOf]; omega
      · have hkl : k = l.length := by omega
        go_wp2_with fail
        go_ret
        refine ⟨⟨y, rfl, .inr ⟨y0, y1, by omega, ?_⟩⟩, hB⟩
        have := HALL.out
        rwa [hkl, List.take_length] at this
  · have h1' : z < l.length := by omega
    clear h1
    go_enter Tryd.func11, Tryd.ntmps11
    go_wp2_with fail
    go_ret
    exact ⟨⟨-1, rfl, .inl rfl⟩, (by repeat' (first | exact Below.refl _ _ | refine Below.alloc ?_ ?_ _ | refine Below.setCell ?_ ?_ _ | refine Below.drew ?_ | (apply below_step; assumption) | (simp; done) | (simp; omega) | omega))⟩

/-- The pools are valid and their Ids increase strictly from p on. -/
def poolsFrom : Int → List PV → Bool
  | _, [] => true
  | p, n :: r => n.ok && decide (p < n.id) && poolsFrom n.id r
def poolsOk (l : List PV) : Bool := decide (l.length ≤ 5) && poolsFrom (-1) l
theorem poolsFrom_yes {p : Int} {n : PV} {r : List PV} (h : n.ok = true) (hp : p < n.id) : poolsFrom p (n :: r) = poolsFrom n.id r := by simp [poolsFrom, h, hp]
theorem poolsFrom_bad {p : Int} {n : PV} {r : List PV} (h : n.ok = false) : poolsFrom p (n :: r) = false := by simp [poolsFrom, h]
theorem poolsFrom_low {p : Int} {n : PV} {r : List PV} (h : n.id ≤ p) : poolsFrom p (n :: r) = false := by
  have : ¬ p < n.id := by omega
  simp [poolsFrom, this]
theorem PV.ok_id {p : PV} (h : p.ok = true) : 0 ≤ p.id := by
  simp only [PV.ok, Bool.and_eq_true, decide_eq_true_eq] at h
  exact h.1.1.1.1.1.1.1.1.1.1
theorem poolsFrom_first {n : PV} {r : List PV} (h : n.ok = true) : poolsFrom (-1) (n :: r) = poolsFrom n.id r := poolsFrom_yes h (by have := PV.ok_id h; omega)
set_option maxHeartbeats 3200000 in
set_option maxRecDepth 20000 in
theorem PoolsOk_any (v : Value) (l : List PV) (w : World) (x : Addr) (hg : ErrAt x w) (hv : PoolSl w v l) (hlen : l.length ≤ 1048576) :
    Calls Tryd.prog 14 #[v] w fun e w' => e = .returned (.bool (poolsOk l)) ∧ Below w.heap.size w w' := by
  obtain ⟨A, c, rfl, hA⟩ := hv.form
  have HA := Lib.hid hA
  have HG := Lib.hid hg
  clear hA hv hg
  by_cases h5 : l.length ≤ 5
  · have HT := Lib.hid (show poolsOk l = poolsFrom (-1) l by simp [poolsOk, h5])
    go_enter Tryd.func14, Tryd.ntmps14
    go_wp2_with fail
    go_loopw [3, 11] (fun s3 s11 wr => ∃ (k : Nat) (p : Int), k ≤ l.length ∧ s11 = .int .i64 k ∧ s3 = .int .i64 p ∧ poolsFrom (-1) l = poolsFrom p (l.drop k) ∧ Below w.heap.size w wr) (fun _ s11 _ => (l.length - intOf s11).toNat)
    case atStart => exact ⟨0, -1, by omega, rfl, rfl, by simp, Below.refl _ _⟩
    case round =>
      obtain ⟨k, p, hk, rfl, rfl, hts, hB⟩ := hrel
      have HTS := Lib.hid hts
      have hzr := hB.size
      have HGR := Lib.hid (HG.out.below hB (Nat.le_refl _))
      clear hts
      by_cases hlt : k < l.length
      · obtain ⟨b, off, rfl, hbw, hat⟩ := HA.out (by omega)
        obtain ⟨t, ht⟩ : ∃ t, l[k]? = some t := ⟨_, List.getElem?_eq_getElem hlt⟩
        obtain ⟨cs, hR, hC⟩ := (hat.below PoolR.kept hB hbw) k t ht
        have HD := Lib.hid (drop_at ht)
        obtain ⟨v1, v2, rfl, sl, si, m1, m2⟩ := hR
        obtain ⟨A1, c1, rfl, _⟩ := sl.form
        obtain ⟨A2, c2, rfl, _⟩ := si.form
        have hok := fun w x hg h1 h2 => PoolOk_any t (.slice A1 t.shape.labs.length c1) (.slice A2 t.shape.taints.length c2) w x hg h1 h2 m1 m2
        have SL := Lib.hid sl
        have SI := Lib.hid si
        obtain ⟨q0, q1, q2, q3, q4, q5, q6, q7, q8, q9, q10, q11⟩ := pool_cells hC
        have hbr : b < wr.heap.size := by omega
        cases ho : t.ok
        all_goals
          rw [ho] at hok
          have HO := Lib.hid ho
          have HOK := Lib.hid hok
          clear hat hC ht sl si m1 m2 ho hok
        · go_wp2_with fail
          have hX : Below wr.heap.size wr (wr.alloc (.cells #[.int .i64 t.id, .int .i64 t.min, .int .i64 t.max, .int .i64 t.prio, .int .i64 t.shape.id, .int .i64 t.shape.pool, .int .i64 t.shape.cap.c, .int .i64 t.shape.cap.m, .int .i64 t.shape.cap.p, .slice A1 t.shape.labs.length c1, .slice A2 t.shape.taints.length c2, .bool t.shape.cordon] 37)) := (by repeat' (first | exact Below.refl _ _ | refine Below.alloc ?_ ?_ _ | refine Below.setCell ?_ ?_ _ | refine Below.drew ?_ | (apply below_step; assumption) | (simp; done) | (simp; omega) | omega))
          refine (HOK.out _ x (HGR.out.alloc _) (SL.out.below hX) (SI.out.below hX)).mono ?_
          rintro e w2 ⟨rfl, hb2⟩
          have hC2 := below_of hX hb2
          go_wp2_with fail
          go_ret
          exact ⟨by rw [HT.out, HTS.out, HD.out, poolsFrom_bad HO.out]; rfl, below_of hB hC2⟩
        · go_wp2_with fail
          have hX : Below wr.heap.size wr (wr.alloc (.cells #[.int .i64 t.id, .int .i64 t.min, .int .i64 t.max, .int .i64 t.prio, .int .i64 t.shape.id, .int .i64 t.shape.pool, .int .i64 t.shape.cap.c, .int .i64 t.shape.cap.m, .int .i64 t.shape.cap.p, .slice A1 t.shape.labs.length c1, .slice A2 t.shape.taints.length c2, .bool t.shape.cordon] 37)) := (by repeat' (first | exact Below.refl _ _ | refine Below.alloc ?_ ?_ _ | refine Below.setCell ?_ ?_ _ | refine Below.drew ?_ | (apply below_step; assumption) | (simp; done) | (simp; omega) | omega))
          refine (HOK.out _ x (HGR.out.alloc _) (SL.out.below hX) (SI.out.below hX)).mono ?_
          rintro e w2 ⟨rfl, hb2⟩
          have hC2 := below_of hX hb2
          have BX := (BlockIs.new wr 37 #[.int .i64 t.id, .int .i64 t.min, .int .i64 t.max, .int .i64 t.prio, .int .i64 t.shape.id, .int .i64 t.shape.pool, .int .i64 t.shape.cap.c, .int .i64 t.shape.cap.m, .int .i64 t.shape.cap.p, .slice A1 t.shape.labs.length c1, .slice A2 t.shape.taints.length c2, .bool t.shape.cordon]).below hb2 (by simp)
          have x0 := BX.cell 0
          simp at x0
          clear BX hb2
          by_cases hp : t.id ≤ p
          · have HP := Lib.hid hp
            go_wp2_with fail
            go_ret
            exact ⟨by rw [HT.out, HTS.out, HD.out, poolsFrom_low HP.out]; rfl, below_of hB hC2⟩
          · have hp' : p < t.id := by omega
            have HP := Lib.hid hp'
            clear hp
            go_wp2_with fail
            go_roundw
            case rel => exact ⟨k + 1, t.id, by omega, by go_num, rfl, by rw [HTS.out, HD.out, poolsFrom_yes HO.out HP.out], below_of hB hC2⟩
            case measure => simp [intOf]; omega
      · have hkl : k = l.length := by omega
        have HF := Lib.hid (show poolsFrom (-1) l = true by rw [HTS.out, hkl, List.drop_length]; rfl)
        clear hkl
        go_wp2_with fail
        go_ret
        exact ⟨by rw [HT.out, HF.out]; rfl, hB⟩
  · have HT := Lib.hid (show poolsOk l = false by simp [poolsOk, h5])
    have h5' : (5 : Int) < (l.length : Int) := by omega
    clear h5
    go_enter Tryd.func14, Tryd.ntmps14
    go_wp2_with fail
    go_ret
    exact ⟨by rw [HT.out]; rfl, (by repeat' (first | exact Below.refl _ _ | refine Below.alloc ?_ ?_ _ | refine Below.setCell ?_ ?_ _ | refine Below.drew ?_ | (apply below_step; assumption) | (simp; done) | (simp; omega) | omega))⟩
set_option maxHeartbeats 6400000 in
set_option maxRecDepth 20000 in
theorem sPoolsOk_any (v : Value) (l : List PV) (w : World) (hv : PoolSl w v l) (hlen : l.length ≤ 1048576) :
    Calls Tryd.prog 12 #[v] w fun e w' => e = .returned (.bool (poolsOk l)) ∧ Below w.heap.size w w' := by
  obtain ⟨A, c, rfl, hA⟩ := hv.form
  have HA := Lib.hid hA
  clear hA hv
  by_cases h5 : l.length ≤ 5
  · have HE := Lib.hid (show poolsOk l = poolsFrom (-1) l by simp [poolsOk, h5])
    have h5' : decide ((5 : Int) < (l.length : Int)) = false := by simp; omega
    go_enter Tryd.func12, Tryd.ntmps12
    go_wp2_with fail
    go_loopw [3] (fun s3 wr => ∃ k : Nat, k ≤ l.length ∧ s3 = .int .i64 k ∧ (∃ p : Int, poolsFrom (-1) l = poolsFrom p (l.drop k) ∧ ((k = 0 ∧ p = -1) ∨ ∃ m n0, k = m + 1 ∧ l[m]? = some n0 ∧ p = n0.id)) ∧ Below w.heap.size w wr) (fun s3 _ => (l.length - intOf s3).toNat)
    case atStart => exact ⟨0, by omega, rfl, ⟨-1, by simp, .inl ⟨rfl, rfl⟩⟩, Below.refl _ _⟩
    case round =>
      obtain ⟨k, hk, rfl, hts, hB⟩ := hrel
      have HTS := Lib.hid hts
      have hzr := hB.size
      clear hts
      by_cases hlt : k < l.length
      · obtain ⟨bn, on, rfl, hbw, hat⟩ := HA.out (by omega)
        obtain ⟨n, ht⟩ : ∃ t, l[k]? = some t := ⟨_, List.getElem?_eq_getElem hlt⟩
        obtain ⟨cs, hR, hC⟩ := (hat.below PoolR.kept hB hbw) k n ht
        have HD := Lib.hid (drop_at ht)
        have HTK := Lib.hid ht
        obtain ⟨v1, v2, rfl, sl, si, m1, m2⟩ := hR
        obtain ⟨A3, c3, rfl, _⟩ := sl.form
        obtain ⟨A4, c4, rfl, _⟩ := si.form
        obtain ⟨q0, q1, q2, q3, q4, q5, q6, q7, q8, q9, q10, q11⟩ := pool_cells hC
        have hki : (k : Int) < (l.length : Int) := by omega
        have hk0 : (0 : Int) ≤ (k : Int) := by omega
        have hbr : bn < wr.heap.size := by omega
        have hok := fun w h1 h2 => sPoolOk_any n (.slice A3 n.shape.labs.length c3) (.slice A4 n.shape.taints.length c4) w h1 h2 m1 m2
        have SL := Lib.hid sl
        have SI := Lib.hid si
        have HK := Lib.hid (show ∀ w', Below wr.heap.size wr w' → (fun w' => Below wr.heap.size wr w' ∧ w'.cell? ⟨bn, on + k * 12, none⟩ = some (.int .i64 n.id) ∧ w'.cell? ⟨bn, on + k * 12 + 1, none⟩ = some (.int .i64 n.min) ∧ w'.cell? ⟨bn, on + k * 12 + 2, none⟩ = some (.int .i64 n.max) ∧ w'.cell? ⟨bn, on + k * 12 + 3, none⟩ = some (.int .i64 n.prio) ∧ w'.cell? ⟨bn, on + k * 12 + 4, none⟩ = some (.int .i64 n.shape.id) ∧ w'.cell? ⟨bn, on + k * 12 + 5, none⟩ = some (.int .i64 n.shape.pool) ∧ w'.cell? ⟨bn, on + k * 12 + 6, none⟩ = some (.int .i64 n.shape.cap.c) ∧ w'.cell? ⟨bn, on + k * 12 + 7, none⟩ = some (.int .i64 n.shape.cap.m) ∧ w'.cell? ⟨bn, on + k * 12 + 8, none⟩ = some (.int .i64 n.shape.cap.p) ∧ w'.cell? ⟨bn, on + k * 12 + 9, none⟩ = some (.slice A3 n.shape.labs.length c3) ∧ w'.cell? ⟨bn, on + k * 12 + 10, none⟩ = some (.slice A4 n.shape.taints.length c4) ∧ w'.cell? ⟨bn, on + k * 12 + 11, none⟩ = some (.bool n.shape.cordon)) w' from fun w' hb => ⟨hb, (hb.cell (p := ⟨_, _, none⟩) hbr).trans q0, (hb.cell (p := ⟨_, _, none⟩) hbr).trans q1, (hb.cell (p := ⟨_, _, none⟩) hbr).trans q2, (hb.cell (p := ⟨_, _, none⟩) hbr).trans q3, (hb.cell (p := ⟨_, _, none⟩) hbr).trans q4, (hb.cell (p := ⟨_, _, none⟩) hbr).trans q5, (hb.cell (p := ⟨_, _, none⟩) hbr).trans q6, (hb.cell (p := ⟨_, _, none⟩) hbr).trans q7, (hb.cell (p := ⟨_, _, none⟩) hbr).trans q8, (hb.cell (p := ⟨_, _, none⟩) hbr).trans q9, (hb.cell (p := ⟨_, _, none⟩) hbr).trans q10, (hb.cell (p := ⟨_, _, none⟩) hbr).trans q11⟩)
        have HAT := Lib.hid hat
        cases ho : n.ok
        · rw [ho] at hok
          have HO := Lib.hid ho
          have HOK := Lib.hid hok
          clear ho hok hat hC ht sl si m1 m2
          go_wp2_with fail
          refine wp_region_held_drew (S := (fun w' => Below wr.heap.size wr w' ∧ w'.cell? ⟨bn, on + k * 12, none⟩ = some (.int .i64 n.id) ∧ w'.cell? ⟨bn, on + k * 12 + 1, none⟩ = some (.int .i64 n.min) ∧ w'.cell? ⟨bn, on + k * 12 + 2, none⟩ = some (.int .i64 n.max) ∧ w'.cell? ⟨bn, on + k * 12 + 3, none⟩ = some (.int .i64 n.prio) ∧ w'.cell? ⟨bn, on + k * 12 + 4, none⟩ = some (.int .i64 n.shape.id) ∧ w'.cell? ⟨bn, on + k * 12 + 5, none⟩ = some (.int .i64 n.shape.pool) ∧ w'.cell? ⟨bn, on + k * 12 + 6, none⟩ = some (.int .i64 n.shape.cap.c) ∧ w'.cell? ⟨bn, on + k * 12 + 7, none⟩ = some (.int .i64 n.shape.cap.m) ∧ w'.cell? ⟨bn, on + k * 12 + 8, none⟩ = some (.int .i64 n.shape.cap.p) ∧ w'.cell? ⟨bn, on + k * 12 + 9, none⟩ = some (.slice A3 n.shape.labs.length c3) ∧ w'.cell? ⟨bn, on + k * 12 + 10, none⟩ = some (.slice A4 n.shape.taints.length c4) ∧ w'.cell? ⟨bn, on + k * 12 + 11, none⟩ = some (.bool n.shape.cordon))) (by kernel_rfl) (by (try dsimp only); exact HK.out _ (by repeat' (first | exact Below.refl _ _ | refine Below.alloc ?_ ?_ _ | refine Below.setCell ?_ ?_ _ | refine Below.drew ?_ | (apply below_step; assumption) | (simp; done) | (simp; omega) | omega))) (fun hHeld => ?_)
          refine hTake (i := 0) (oi := ?a14) (v := ?f14) (d := ?g14) ?b14 ?c14 (by kernel_rfl) ?d14 ?e14 ?h14 (by assumption) ?_; (case b14 => simp only [rhN]; try rfl); (case c14 => (try dsimp only); rfl); (case e14 => rfl); (case d14 => exact fun _ _ _ h => h); (case h14 => intro w hSw; (try dsimp only at hSw); go_simp <;> with_reducible rfl); simp only [Act.put, rhA, rhS, rhT]
          refine hTake (i := 1) (oi := ?a15) (v := ?f15) (d := ?g15) ?b15 ?c15 (by kernel_rfl) ?d15 ?e15 ?h15 (by assumption) ?_; (case b15 => simp only [rhN, rhM]; try rfl); (case c15 => (try dsimp only); rfl); (case e15 => rfl); (case d15 => exact fun _ _ _ h => h); (case h15 => intro w hSw; (try dsimp only at hSw); go_simp <;> with_reducible rfl); simp only [Act.put, rhA, rhS, rhT]
          refine hTake (i := 2) (oi := ?a16) (v := ?f16) (d := ?g16) ?b16 ?c16 (by kernel_rfl) ?d16 ?e16 ?h16 (by assumption) ?_; (case b16 => simp only [rhN, rhM]; try rfl); (case c16 => (try dsimp only); rfl); (case e16 => rfl); (case d16 => exact fun _ _ _ h => h); (case h16 => intro w hSw; (try dsimp only at hSw); go_simp <;> with_reducible rfl); simp only [Act.put, rhA, rhS, rhT]
          refine hTake (i := 3) (oi := ?a17) (v := ?f17) (d := ?g17) ?b17 ?c17 (by kernel_rfl) ?d17 ?e17 ?h17 (by assumption) ?_; (case b17 => simp only [rhN, rhM]; try rfl); (case c17 => (try dsimp only); rfl); (case e17 => rfl); (case d17 => exact fun _ _ _ h => h); (case h17 => intro w hSw; (try dsimp only at hSw); go_simp <;> with_reducible rfl); simp only [Act.put, rhA, rhS, rhT]
          refine hCall (i := 4) (o := ?a18) ?b18 (by kernel_rfl) ?c18 (fun K hK => ?d18)
          case b18 => simp only [rhN, rhM]; try rfl
          case c18 => rfl
          go_simp
          refine (HOK.out _ (SL.out.below (by repeat' (first | exact Below.refl _ _ | refine Below.alloc ?_ ?_ _ | refine Below.setCell ?_ ?_ _ | refine Below.drew ?_ | (apply below_step; assumption) | (simp; done) | (simp; omega) | omega))) (SI.out.below (by repeat' (first | exact Below.refl _ _ | refine Below.alloc ?_ ?_ _ | refine Below.setCell ?_ ?_ _ | refine Below.drew ?_ | (apply below_step; assumption) | (simp; done) | (simp; omega) | omega)))).mono ?_
          rintro e w3 ⟨rfl, hb_w3⟩
          have hz_w3 := hb_w3.size
          try simp at hz_w3
          go_wp2_with fail
          refine hK.out _ _ (by (try dsimp only); exact HK.out _ (by repeat' (first | exact Below.refl _ _ | refine Below.alloc ?_ ?_ _ | refine Below.setCell ?_ ?_ _ | refine Below.drew ?_ | (apply below_step; assumption) | (simp; done) | (simp; omega) | omega))) (fun hHeld => ?_)
          clear hK K
          try simp only [Act.put, rhA, rhS, rhT]
          refine hTake (i := 5) (oi := ?a20) (v := ?f20) (d := ?g20) ?b20 ?c20 (by kernel_rfl) ?d20 ?e20 ?h20 (by assumption) ?_; (case b20 => simp only [rhN, rhM]; try rfl); (case c20 => (try dsimp only); rfl); (case e20 => rfl); (case d20 => exact fun _ _ _ h => h); (case h20 => intro w hSw; (try dsimp only at hSw); go_simp <;> with_reducible rfl); simp only [Act.put, rhA, rhS, rhT]
          refine hTake (i := 6) (oi := ?a22) (v := ?f22) (d := ?g22) ?b22 ?c22 (by kernel_rfl) ?d22 ?e22 ?h22 (by assumption) ?_; (case b22 => simp only [rhN, rhM]; try rfl); (case c22 => (try dsimp only); rfl); (case e22 => rfl); (case d22 => exact fun _ _ _ h => h); (case h22 => intro w hSw; (try dsimp only at hSw); go_simp <;> with_reducible rfl); simp only [Act.put, rhA, rhS, rhT]
          refine hSkip (i := 7) (oi := ?a24) (d := ?g24) ?b24 ?c24 (by kernel_rfl) ?d24 ?e24 (by assumption) ?_; (case b24 => simp only [rhN, rhM]; try rfl); (case c24 => (try dsimp only); rfl); (case e24 => rfl); (case d24 => exact fun _ _ _ h => h); simp only [Act.put, rhA, rhS, rhT]
          refine hSkip (i := 8) (oi := ?a25) (d := ?g25) ?b25 ?c25 (by kernel_rfl) ?d25 ?e25 (by assumption) ?_; (case b25 => simp only [rhN, rhM]; try rfl); (case c25 => (try dsimp only); rfl); (case e25 => rfl); (case d25 => exact fun _ _ _ h => h); simp only [Act.put, rhA, rhS, rhT]
          refine hSkip (i := 9) (oi := ?a26) (d := ?g26) ?b26 ?c26 (by kernel_rfl) ?d26 ?e26 (by assumption) ?_; (case b26 => simp only [rhN, rhM]; try rfl); (case c26 => (try dsimp only); rfl); (case e26 => rfl); (case d26 => exact fun _ _ _ h => h); simp only [Act.put, rhA, rhS, rhT]
          refine hSkip (i := 10) (oi := ?a27) (d := ?g27) ?b27 ?c27 (by kernel_rfl) ?d27 ?e27 (by assumption) ?_; (case b27 => simp only [rhN, rhM]; try rfl); (case c27 => (try dsimp only); rfl); (case e27 => rfl); (case d27 => exact fun _ _ _ h => h); simp only [Act.put, rhA, rhS, rhT]
          refine hSkip (i := 11) (oi := ?a28) (d := ?g28) ?b28 ?c28 (by kernel_rfl) ?d28 ?e28 (by assumption) ?_; (case b28 => simp only [rhN, rhM]; try rfl); (case c28 => (try dsimp only); rfl); (case e28 => rfl); (case d28 => exact fun _ _ _ h => h); simp only [Act.put, rhA, rhS, rhT]
          refine hSkip (i := 12) (oi := ?a29) (d := ?g29) ?b29 ?c29 (by kernel_rfl) ?d29 ?e29 (by assumption) ?_; (case b29 => simp only [rhN, rhM]; try rfl); (case c29 => (try dsimp only); rfl); (case e29 => rfl); (case d29 => exact fun _ _ _ h => h); simp only [Act.put, rhA, rhS, rhT]
          refine hSkip (i := 13) (oi := ?a30) (d := ?g30) ?b30 ?c30 (by kernel_rfl) ?d30 ?e30 (by assumption) ?_; (case b30 => simp only [rhN, rhM]; try rfl); (case c30 => (try dsimp only); rfl); (case e30 => rfl); (case d30 => exact fun _ _ _ h => h); simp only [Act.put, rhA, rhS, rhT]
          refine hSkip (i := 14) (oi := ?a31) (d := ?g31) ?b31 ?c31 (by kernel_rfl) ?d31 ?e31 (by assumption) ?_; (case b31 => simp only [rhN, rhM]; try rfl); (case c31 => (try dsimp only); rfl); (case e31 => rfl); (case d31 => exact fun _ _ _ h => h); simp only [Act.put, rhA, rhS, rhT]
          refine hSkip (i := 15) (oi := ?a32) (d := ?g32) ?b32 ?c32 (by kernel_rfl) ?d32 ?e32 (by assumption) ?_; (case b32 => simp only [rhN, rhM]; try rfl); (case c32 => (try dsimp only); rfl); (case e32 => rfl); (case d32 => exact fun _ _ _ h => h); simp only [Act.put, rhA, rhS, rhT]
          refine hSkip (i := 16) (oi := ?a33) (d := ?g33) ?b33 ?c33 (by kernel_rfl) ?d33 ?e33 (by assumption) ?_; (case b33 => simp only [rhN, rhM]; try rfl); (case c33 => (try dsimp only); rfl); (case e33 => rfl); (case d33 => exact fun _ _ _ h => h); simp only [Act.put, rhA, rhS, rhT]
          refine hSkip (i := 17) (oi := ?a34) (d := ?g34) ?b34 ?c34 (by kernel_rfl) ?d34 ?e34 (by assumption) ?_; (case b34 => simp only [rhN, rhM]; try rfl); (case c34 => (try dsimp only); rfl); (case e34 => rfl); (case d34 => exact fun _ _ _ h => h); simp only [Act.put, rhA, rhS, rhT]
          refine hSkip (i := 18) (oi := ?a35) (d := ?g35) ?b35 ?c35 (by kernel_rfl) ?d35 ?e35 (by assumption) ?_; (case b35 => simp only [rhN, rhM]; try rfl); (case c35 => (try dsimp only); rfl); (case e35 => rfl); (case d35 => exact fun _ _ _ h => h); simp only [Act.put, rhA, rhS, rhT]
          refine hSkip (i := 19) (oi := ?a36) (d := ?g36) ?b36 ?c36 (by kernel_rfl) ?d36 ?e36 (by assumption) ?_; (case b36 => simp only [rhN, rhM]; try rfl); (case c36 => (try dsimp only); rfl); (case e36 => rfl); (case d36 => exact fun _ _ _ h => h); simp only [Act.put, rhA, rhS, rhT]
          refine hSkip (i := 20) (oi := ?a37) (d := ?g37) ?b37 ?c37 (by kernel_rfl) ?d37 ?e37 (by assumption) ?_; (case b37 => simp only [rhN, rhM]; try rfl); (case c37 => (try dsimp only); rfl); (case e37 => rfl); (case d37 => exact fun _ _ _ h => h); simp only [Act.put, rhA, rhS, rhT]
          refine hSkip (i := 21) (oi := ?a38) (d := ?g38) ?b38 ?c38 (by kernel_rfl) ?d38 ?e38 (by assumption) ?_; (case b38 => simp only [rhN, rhM]; try rfl); (case c38 => (try dsimp only); rfl); (case e38 => rfl); (case d38 => exact fun _ _ _ h => h); simp only [Act.put, rhA, rhS, rhT]
          refine hSkip (i := 22) (oi := ?a39) (d := ?g39) ?b39 ?c39 (by kernel_rfl) ?d39 ?e39 (by assumption) ?_; (case b39 => simp only [rhN, rhM]; try rfl); (case c39 => (try dsimp only); rfl); (case e39 => rfl); (case d39 => exact fun _ _ _ h => h); simp only [Act.put, rhA, rhS, rhT]
          refine hTake (i := 23) (oi := ?a41) (v := ?f41) (d := ?g41) ?b41 ?c41 (by kernel_rfl) ?d41 ?e41 ?h41 (by assumption) ?_; (case b41 => simp only [rhN, rhM]; try rfl); (case c41 => (try dsimp only); rfl); (case e41 => rfl); (case d41 => exact fun _ _ _ h => h); (case h41 => intro w hSw; (try dsimp only at hSw); go_simp <;> with_reducible rfl); simp only [Act.put, rhA, rhS, rhT]
          refine wpAnyH_done (by kernel_rfl) ?_ _
          go_wp2_with fail
          go_ret
          refine ⟨?_, below_of hB (by repeat' (first | exact Below.refl _ _ | refine Below.alloc ?_ ?_ _ | refine Below.setCell ?_ ?_ _ | refine Below.drew ?_ | (apply below_step; assumption) | (simp; done) | (simp; omega) | omega))⟩
          obtain ⟨p, hp, _⟩ := HTS.out
          rw [HE.out, hp, HD.out, poolsFrom_bad HO.out]; rfl
        · rw [ho] at hok
          have HO := Lib.hid ho
          have HOK := Lib.hid hok
          clear ho hok hat hC ht sl si m1 m2
          obtain ⟨p, hp, hcase⟩ := HTS.out
          have HP := Lib.hid hp
          clear hp HTS
          rcases hcase with ⟨rfl, rfl⟩ | ⟨m, n0, hkm, hm0, rfl⟩
          · simp only [Nat.zero_mul, Nat.add_zero] at q0 q1 q2 q3 q4 q5 q6 q7 q8 q9 q10 q11 HK
            go_wp2_with fail
            refine wp_region_held_drew (S := (fun w' => Below wr.heap.size wr w' ∧ w'.cell? ⟨bn, on, none⟩ = some (.int .i64 n.id) ∧ w'.cell? ⟨bn, on + 1, none⟩ = some (.int .i64 n.min) ∧ w'.cell? ⟨bn, on + 2, none⟩ = some (.int .i64 n.max) ∧ w'.cell? ⟨bn, on + 3, none⟩ = some (.int .i64 n.prio) ∧ w'.cell? ⟨bn, on + 4, none⟩ = some (.int .i64 n.shape.id) ∧ w'.cell? ⟨bn, on + 5, none⟩ = some (.int .i64 n.shape.pool) ∧ w'.cell? ⟨bn, on + 6, none⟩ = some (.int .i64 n.shape.cap.c) ∧ w'.cell? ⟨bn, on + 7, none⟩ = some (.int .i64 n.shape.cap.m) ∧ w'.cell? ⟨bn, on + 8, none⟩ = some (.int .i64 n.shape.cap.p) ∧ w'.cell? ⟨bn, on + 9, none⟩ = some (.slice A3 n.shape.labs.length c3) ∧ w'.cell? ⟨bn, on + 10, none⟩ = some (.slice A4 n.shape.taints.length c4) ∧ w'.cell? ⟨bn, on + 11, none⟩ = some (.bool n.shape.cordon))) (by kernel_rfl) (by (try dsimp only); exact HK.out _ (by repeat' (first | exact Below.refl _ _ | refine Below.alloc ?_ ?_ _ | refine Below.setCell ?_ ?_ _ | refine Below.drew ?_ | (apply below_step; assumption) | (simp; done) | (simp; omega) | omega))) (fun hHeld => ?_)
            refine hTake (i := 0) (oi := ?a43) (v := ?f43) (d := ?g43) ?b43 ?c43 (by kernel_rfl) ?d43 ?e43 ?h43 (by assumption) ?_; (case b43 => simp only [rhN]; try rfl); (case c43 => (try dsimp only); rfl); (case e43 => rfl); (case d43 => exact fun _ _ _ h => h); (case h43 => intro w hSw; (try dsimp only at hSw); go_simp <;> with_reducible rfl); simp only [Act.put, rhA, rhS, rhT]
            refine hTake (i := 1) (oi := ?a44) (v := ?f44) (d := ?g44) ?b44 ?c44 (by kernel_rfl) ?d44 ?e44 ?h44 (by assumption) ?_; (case b44 => simp only [rhN, rhM]; try rfl); (case c44 => (try dsimp only); rfl); (case e44 => rfl); (case d44 => exact fun _ _ _ h => h); (case h44 => intro w hSw; (try dsimp only at hSw); go_simp <;> with_reducible rfl); simp only [Act.put, rhA, rhS, rhT]
            refine hTake (i := 2) (oi := ?a45) (v := ?f45) (d := ?g45) ?b45 ?c45 (by kernel_rfl) ?d45 ?e45 ?h45 (by assumption) ?_; (case b45 => simp only [rhN, rhM]; try rfl); (case c45 => (try dsimp only); rfl); (case e45 => rfl); (case d45 => exact fun _ _ _ h => h); (case h45 => intro w hSw; (try dsimp only at hSw); go_simp <;> with_reducible rfl); simp only [Act.put, rhA, rhS, rhT]
            refine hTake (i := 3) (oi := ?a46) (v := ?f46) (d := ?g46) ?b46 ?c46 (by kernel_rfl) ?d46 ?e46 ?h46 (by assumption) ?_; (case b46 => simp only [rhN, rhM]; try rfl); (case c46 => (try dsimp only); rfl); (case e46 => rfl); (case d46 => exact fun _ _ _ h => h); (case h46 => intro w hSw; (try dsimp only at hSw); go_simp <;> with_reducible rfl); simp only [Act.put, rhA, rhS, rhT]
            refine hCall (i := 4) (o := ?a47) ?b47 (by kernel_rfl) ?c47 (fun K hK => ?d47)
            case b47 => simp only [rhN, rhM]; try rfl
            case c47 => rfl
            go_simp
            refine (HOK.out _ (SL.out.below (by repeat' (first | exact Below.refl _ _ | refine Below.alloc ?_ ?_ _ | refine Below.setCell ?_ ?_ _ | refine Below.drew ?_ | (apply below_step; assumption) | (simp; done) | (simp; omega) | omega))) (SI.out.below (by repeat' (first | exact Below.refl _ _ | refine Below.alloc ?_ ?_ _ | refine Below.setCell ?_ ?_ _ | refine Below.drew ?_ | (apply below_step; assumption) | (simp; done) | (simp; omega) | omega)))).mono ?_
            rintro e w3 ⟨rfl, hb_w3⟩
            have hz_w3 := hb_w3.size
            try simp at hz_w3
            go_wp2_with fail
            refine hK.out _ _ (by (try dsimp only); exact HK.out _ (by repeat' (first | exact Below.refl _ _ | refine Below.alloc ?_ ?_ _ | refine Below.setCell ?_ ?_ _ | refine Below.drew ?_ | (apply below_step; assumption) | (simp; done) | (simp; omega) | omega))) (fun hHeld => ?_)
            clear hK K
            try simp only [Act.put, rhA, rhS, rhT]
            refine hTake (i := 5) (oi := ?a49) (v := ?f49) (d := ?g49) ?b49 ?c49 (by kernel_rfl) ?d49 ?e49 ?h49 (by assumption) ?_; (case b49 => simp only [rhN, rhM]; try rfl); (case c49 => (try dsimp only); rfl); (case e49 => rfl); (case d49 => exact fun _ _ _ h => h); (case h49 => intro w hSw; (try dsimp only at hSw); go_simp <;> with_reducible rfl); simp only [Act.put, rhA, rhS, rhT]
            refine hTake (i := 6) (oi := ?a51) (v := ?f51) (d := ?g51) ?b51 ?c51 (by kernel_rfl) ?d51 ?e51 ?h51 (by assumption) ?_; (case b51 => simp only [rhN, rhM]; try rfl); (case c51 => (try dsimp only); rfl); (case e51 => rfl); (case d51 => exact fun _ _ _ h => h); (case h51 => intro w hSw; (try dsimp only at hSw); go_simp <;> with_reducible rfl); simp only [Act.put, rhA, rhS, rhT]
            refine hTake (i := 7) (oi := ?a53) (v := ?f53) (d := ?g53) ?b53 ?c53 (by kernel_rfl) ?d53 ?e53 ?h53 (by assumption) ?_; (case b53 => simp only [rhN, rhM]; try rfl); (case c53 => (try dsimp only); rfl); (case e53 => rfl); (case d53 => exact fun _ _ _ h => h); (case h53 => intro w hSw; (try dsimp only at hSw); go_simp <;> with_reducible rfl); simp only [Act.put, rhA, rhS, rhT]
            refine hTake (i := 8) (oi := ?a55) (v := ?f55) (d := ?g55) ?b55 ?c55 (by kernel_rfl) ?d55 ?e55 ?h55 (by assumption) ?_; (case b55 => simp only [rhN, rhM]; try rfl); (case c55 => (try dsimp only); rfl); (case e55 => rfl); (case d55 => exact fun _ _ _ h => h); (case h55 => intro w hSw; (try dsimp only at hSw); go_simp <;> with_reducible rfl); simp only [Act.put, rhA, rhS, rhT]
            refine hTake (i := 9) (oi := ?a57) (v := ?f57) (d := ?g57) ?b57 ?c57 (by kernel_rfl) ?d57 ?e57 ?h57 (by assumption) ?_; (case b57 => simp only [rhN, rhM]; try rfl); (case c57 => (try dsimp only); rfl); (case e57 => rfl); (case d57 => exact fun _ _ _ h => h); (case h57 => intro w hSw; (try dsimp only at hSw); go_simp <;> with_reducible rfl); simp only [Act.put, rhA, rhS, rhT]
            refine hSkip (i := 10) (oi := ?a59) (d := ?g59) ?b59 ?c59 (by kernel_rfl) ?d59 ?e59 (by assumption) ?_; (case b59 => simp only [rhN, rhM]; try rfl); (case c59 => (try dsimp only); rfl); (case e59 => rfl); (case d59 => exact fun _ _ _ h => h); simp only [Act.put, rhA, rhS, rhT]
            refine hSkip (i := 11) (oi := ?a60) (d := ?g60) ?b60 ?c60 (by kernel_rfl) ?d60 ?e60 (by assumption) ?_; (case b60 => simp only [rhN, rhM]; try rfl); (case c60 => (try dsimp only); rfl); (case e60 => rfl); (case d60 => exact fun _ _ _ h => h); simp only [Act.put, rhA, rhS, rhT]
            refine hSkip (i := 12) (oi := ?a61) (d := ?g61) ?b61 ?c61 (by kernel_rfl) ?d61 ?e61 (by assumption) ?_; (case b61 => simp only [rhN, rhM]; try rfl); (case c61 => (try dsimp only); rfl); (case e61 => rfl); (case d61 => exact fun _ _ _ h => h); simp only [Act.put, rhA, rhS, rhT]
            refine hSkip (i := 13) (oi := ?a62) (d := ?g62) ?b62 ?c62 (by kernel_rfl) ?d62 ?e62 (by assumption) ?_; (case b62 => simp only [rhN, rhM]; try rfl); (case c62 => (try dsimp only); rfl); (case e62 => rfl); (case d62 => exact fun _ _ _ h => h); simp only [Act.put, rhA, rhS, rhT]
            refine hSkip (i := 14) (oi := ?a63) (d := ?g63) ?b63 ?c63 (by kernel_rfl) ?d63 ?e63 (by assumption) ?_; (case b63 => simp only [rhN, rhM]; try rfl); (case c63 => (try dsimp only); rfl); (case e63 => rfl); (case d63 => exact fun _ _ _ h => h); simp only [Act.put, rhA, rhS, rhT]
            refine hSkip (i := 15) (oi := ?a64) (d := ?g64) ?b64 ?c64 (by kernel_rfl) ?d64 ?e64 (by assumption) ?_; (case b64 => simp only [rhN, rhM]; try rfl); (case c64 => (try dsimp only); rfl); (case e64 => rfl); (case d64 => exact fun _ _ _ h => h); simp only [Act.put, rhA, rhS, rhT]
            refine hSkip (i := 16) (oi := ?a65) (d := ?g65) ?b65 ?c65 (by kernel_rfl) ?d65 ?e65 (by assumption) ?_; (case b65 => simp only [rhN, rhM]; try rfl); (case c65 => (try dsimp only); rfl); (case e65 => rfl); (case d65 => exact fun _ _ _ h => h); simp only [Act.put, rhA, rhS, rhT]
            refine hSkip (i := 17) (oi := ?a66) (d := ?g66) ?b66 ?c66 (by kernel_rfl) ?d66 ?e66 (by assumption) ?_; (case b66 => simp only [rhN, rhM]; try rfl); (case c66 => (try dsimp only); rfl); (case e66 => rfl); (case d66 => exact fun _ _ _ h => h); simp only [Act.put, rhA, rhS, rhT]
            refine hSkip (i := 18) (oi := ?a67) (d := ?g67) ?b67 ?c67 (by kernel_rfl) ?d67 ?e67 (by assumption) ?_; (case b67 => simp only [rhN, rhM]; try rfl); (case c67 => (try dsimp only); rfl); (case e67 => rfl); (case d67 => exact fun _ _ _ h => h); simp only [Act.put, rhA, rhS, rhT]
            refine hSkip (i := 19) (oi := ?a68) (d := ?g68) ?b68 ?c68 (by kernel_rfl) ?d68 ?e68 (by assumption) ?_; (case b68 => simp only [rhN, rhM]; try rfl); (case c68 => (try dsimp only); rfl); (case e68 => rfl); (case d68 => exact fun _ _ _ h => h); simp only [Act.put, rhA, rhS, rhT]
            refine hSkip (i := 20) (oi := ?a69) (d := ?g69) ?b69 ?c69 (by kernel_rfl) ?d69 ?e69 (by assumption) ?_; (case b69 => simp only [rhN, rhM]; try rfl); (case c69 => (try dsimp only); rfl); (case e69 => rfl); (case d69 => exact fun _ _ _ h => h); simp only [Act.put, rhA, rhS, rhT]
            refine hSkip (i := 21) (oi := ?a70) (d := ?g70) ?b70 ?c70 (by kernel_rfl) ?d70 ?e70 (by assumption) ?_; (case b70 => simp only [rhN, rhM]; try rfl); (case c70 => (try dsimp only); rfl); (case e70 => rfl); (case d70 => exact fun _ _ _ h => h); simp only [Act.put, rhA, rhS, rhT]
            refine hTake (i := 22) (oi := ?a72) (v := ?f72) (d := ?g72) ?b72 ?c72 (by kernel_rfl) ?d72 ?e72 ?h72 (by assumption) ?_; (case b72 => simp only [rhN, rhM]; try rfl); (case c72 => (try dsimp only); rfl); (case e72 => rfl); (case d72 => exact fun _ _ _ h => h); (case h72 => intro w hSw; (try dsimp only at hSw); go_simp <;> with_reducible rfl); simp only [Act.put, rhA, rhS, rhT]
            refine hTake (i := 23) (oi := ?a74) (v := ?f74) (d := ?g74) ?b74 ?c74 (by kernel_rfl) ?d74 ?e74 ?h74 (by assumption) ?_; (case b74 => simp only [rhN, rhM]; try rfl); (case c74 => (try dsimp only); rfl); (case e74 => rfl); (case d74 => exact fun _ _ _ h => h); (case h74 => intro w hSw; (try dsimp only at hSw); go_simp <;> with_reducible rfl); simp only [Act.put, rhA, rhS, rhT]
            refine wpAnyH_done (by kernel_rfl) ?_ _
            go_wp2_with fail
            go_roundw
            case rel =>
              have hD4 : Below wr.heap.size wr w3 := (by repeat' (first | exact Below.refl _ _ | refine Below.alloc ?_ ?_ _ | refine Below.setCell ?_ ?_ _ | refine Below.drew ?_ | (apply below_step; assumption) | (simp; done) | (simp; omega) | omega))
              refine ⟨1, by omega, by go_num, ⟨n.id, ?_, .inr ⟨0, n, rfl, HTK.out, rfl⟩⟩, below_of hB hD4⟩
              rw [HP.out, HD.out, poolsFrom_first HO.out]
            case measure => simp [intOf]; omega
          · obtain ⟨cs0, hR0, hC0⟩ := (HAT.out.below PoolR.kept hB hbw) m n0 hm0
            obtain ⟨y1, y2, rfl, _, _, _, _⟩ := hR0
            have p0 := (pool_cells hC0).1
            have hgt : 0 < k := by omega
            have hgti : (0 : Int) < (k : Int) := by omega
            have hwr : IntKind.i64.wrap ((k : Int) - 1) = (m : Int) := by rw [IntWalk.i64_in _ (by omega)]; omega
            have hmi : (m : Int) < (l.length : Int) := by omega
            have hm0' : (0 : Int) ≤ (m : Int) := by omega
            have HKM := Lib.hid hkm
            have HM0 := Lib.hid hm0
            have HK := Lib.hid (show ∀ w', Below wr.heap.size wr w' → (fun w' => Below wr.heap.size wr w' ∧ w'.cell? ⟨bn, on + k * 12, none⟩ = some (.int .i64 n.id) ∧ w'.cell? ⟨bn, on + k * 12 + 1, none⟩ = some (.int .i64 n.min) ∧ w'.cell? ⟨bn, on + k * 12 + 2, none⟩ = some (.int .i64 n.max) ∧ w'.cell? ⟨bn, on + k * 12 + 3, none⟩ = some (.int .i64 n.prio) ∧ w'.cell? ⟨bn, on + k * 12 + 4, none⟩ = some (.int .i64 n.shape.id) ∧ w'.cell? ⟨bn, on + k * 12 + 5, none⟩ = some (.int .i64 n.shape.pool) ∧ w'.cell? ⟨bn, on + k * 12 + 6, none⟩ = some (.int .i64 n.shape.cap.c) ∧ w'.cell? ⟨bn, on + k * 12 + 7, none⟩ = some (.int .i64 n.shape.cap.m) ∧ w'.cell? ⟨bn, on + k * 12 + 8, none⟩ = some (.int .i64 n.shape.cap.p) ∧ w'.cell? ⟨bn, on + k * 12 + 9, none⟩ = some (.slice A3 n.shape.labs.length c3) ∧ w'.cell? ⟨bn, on + k * 12 + 10, none⟩ = some (.slice A4 n.shape.taints.length c4) ∧ w'.cell? ⟨bn, on + k * 12 + 11, none⟩ = some (.bool n.shape.cordon) ∧ w'.cell? ⟨bn, on + m * 12, none⟩ = some (.int .i64 n0.id)) w' from fun w' hb => ⟨hb, (hb.cell (p := ⟨_, _, none⟩) hbr).trans q0, (hb.cell (p := ⟨_, _, none⟩) hbr).trans q1, (hb.cell (p := ⟨_, _, none⟩) hbr).trans q2, (hb.cell (p := ⟨_, _, none⟩) hbr).trans q3, (hb.cell (p := ⟨_, _, none⟩) hbr).trans q4, (hb.cell (p := ⟨_, _, none⟩) hbr).trans q5, (hb.cell (p := ⟨_, _, none⟩) hbr).trans q6, (hb.cell (p := ⟨_, _, none⟩) hbr).trans q7, (hb.cell (p := ⟨_, _, none⟩) hbr).trans q8, (hb.cell (p := ⟨_, _, none⟩) hbr).trans q9, (hb.cell (p := ⟨_, _, none⟩) hbr).trans q10, (hb.cell (p := ⟨_, _, none⟩) hbr).trans q11, (hb.cell (p := ⟨_, _, none⟩) hbr).trans p0⟩)
            clear hC0 hkm hm0
            cases hge : decide (n.id ≤ n0.id)
            · have HGE := Lib.hid (show n0.id < n.id by simpa using hge)
              go_wp2_with fail
              refine wp_region_held_drew (S := (fun w' => Below wr.heap.size wr w' ∧ w'.cell? ⟨bn, on + k * 12, none⟩ = some (.int .i64 n.id) ∧ w'.cell? ⟨bn, on + k * 12 + 1, none⟩ = some (.int .i64 n.min) ∧ w'.cell? ⟨bn, on + k * 12 + 2, none⟩ = some (.int .i64 n.max) ∧ w'.cell? ⟨bn, on + k * 12 + 3, none⟩ = some (.int .i64 n.prio) ∧ w'.cell? ⟨bn, on + k * 12 + 4, none⟩ = some (.int .i64 n.shape.id) ∧ w'.cell? ⟨bn, on + k * 12 + 5, none⟩ = some (.int .i64 n.shape.pool) ∧ w'.cell? ⟨bn, on + k * 12 + 6, none⟩ = some (.int .i64 n.shape.cap.c) ∧ w'.cell? ⟨bn, on + k * 12 + 7, none⟩ = some (.int .i64 n.shape.cap.m) ∧ w'.cell? ⟨bn, on + k * 12 + 8, none⟩ = some (.int .i64 n.shape.cap.p) ∧ w'.cell? ⟨bn, on + k * 12 + 9, none⟩ = some (.slice A3 n.shape.labs.length c3) ∧ w'.cell? ⟨bn, on + k * 12 + 10, none⟩ = some (.slice A4 n.shape.taints.length c4) ∧ w'.cell? ⟨bn, on + k * 12 + 11, none⟩ = some (.bool n.shape.cordon) ∧ w'.cell? ⟨bn, on + m * 12, none⟩ = some (.int .i64 n0.id))) (by kernel_rfl) (by (try dsimp only); exact HK.out _ (by repeat' (first | exact Below.refl _ _ | refine Below.alloc ?_ ?_ _ | refine Below.setCell ?_ ?_ _ | refine Below.drew ?_ | (apply below_step; assumption) | (simp; done) | (simp; omega) | omega))) (fun hHeld => ?_)
              refine hTake (i := 0) (oi := ?a76) (v := ?f76) (d := ?g76) ?b76 ?c76 (by kernel_rfl) ?d76 ?e76 ?h76 (by assumption) ?_; (case b76 => simp only [rhN]; try rfl); (case c76 => (try dsimp only); rfl); (case e76 => rfl); (case d76 => exact fun _ _ _ h => h); (case h76 => intro w hSw; (try dsimp only at hSw); go_simp <;> with_reducible rfl); simp only [Act.put, rhA, rhS, rhT]
              refine hTake (i := 1) (oi := ?a77) (v := ?f77) (d := ?g77) ?b77 ?c77 (by kernel_rfl) ?d77 ?e77 ?h77 (by assumption) ?_; (case b77 => simp only [rhN, rhM]; try rfl); (case c77 => (try dsimp only); rfl); (case e77 => rfl); (case d77 => exact fun _ _ _ h => h); (case h77 => intro w hSw; (try dsimp only at hSw); go_simp <;> with_reducible rfl); simp only [Act.put, rhA, rhS, rhT]
              refine hTake (i := 2) (oi := ?a78) (v := ?f78) (d := ?g78) ?b78 ?c78 (by kernel_rfl) ?d78 ?e78 ?h78 (by assumption) ?_; (case b78 => simp only [rhN, rhM]; try rfl); (case c78 => (try dsimp only); rfl); (case e78 => rfl); (case d78 => exact fun _ _ _ h => h); (case h78 => intro w hSw; (try dsimp only at hSw); go_simp <;> with_reducible rfl); simp only [Act.put, rhA, rhS, rhT]
              refine hTake (i := 3) (oi := ?a79) (v := ?f79) (d := ?g79) ?b79 ?c79 (by kernel_rfl) ?d79 ?e79 ?h79 (by assumption) ?_; (case b79 => simp only [rhN, rhM]; try rfl); (case c79 => (try dsimp only); rfl); (case e79 => rfl); (case d79 => exact fun _ _ _ h => h); (case h79 => intro w hSw; (try dsimp only at hSw); go_simp <;> with_reducible rfl); simp only [Act.put, rhA, rhS, rhT]
              refine hCall (i := 4) (o := ?a80) ?b80 (by kernel_rfl) ?c80 (fun K hK => ?d80)
              case b80 => simp only [rhN, rhM]; try rfl
              case c80 => rfl
              go_simp
              refine (HOK.out _ (SL.out.below (by repeat' (first | exact Below.refl _ _ | refine Below.alloc ?_ ?_ _ | refine Below.setCell ?_ ?_ _ | refine Below.drew ?_ | (apply below_step; assumption) | (simp; done) | (simp; omega) | omega))) (SI.out.below (by repeat' (first | exact Below.refl _ _ | refine Below.alloc ?_ ?_ _ | refine Below.setCell ?_ ?_ _ | refine Below.drew ?_ | (apply below_step; assumption) | (simp; done) | (simp; omega) | omega)))).mono ?_
              rintro e w3 ⟨rfl, hb_w3⟩
              have hz_w3 := hb_w3.size
              try simp at hz_w3
              go_wp2_with fail
              refine hK.out _ _ (by (try dsimp only); exact HK.out _ (by repeat' (first | exact Below.refl _ _ | refine Below.alloc ?_ ?_ _ | refine Below.setCell ?_ ?_ _ | refine Below.drew ?_ | (apply below_step; assumption) | (simp; done) | (simp; omega) | omega))) (fun hHeld => ?_)
              clear hK K
              try simp only [Act.put, rhA, rhS, rhT]
              refine hTake (i := 5) (oi := ?a82) (v := ?f82) (d := ?g82) ?b82 ?c82 (by kernel_rfl) ?d82 ?e82 ?h82 (by assumption) ?_; (case b82 => simp only [rhN, rhM]; try rfl); (case c82 => (try dsimp only); rfl); (case e82 => rfl); (case d82 => exact fun _ _ _ h => h); (case h82 => intro w hSw; (try dsimp only at hSw); go_simp <;> with_reducible rfl); simp only [Act.put, rhA, rhS, rhT]
              refine hTake (i := 6) (oi := ?a84) (v := ?f84) (d := ?g84) ?b84 ?c84 (by kernel_rfl) ?d84 ?e84 ?h84 (by assumption) ?_; (case b84 => simp only [rhN, rhM]; try rfl); (case c84 => (try dsimp only); rfl); (case e84 => rfl); (case d84 => exact fun _ _ _ h => h); (case h84 => intro w hSw; (try dsimp only at hSw); go_simp <;> with_reducible rfl); simp only [Act.put, rhA, rhS, rhT]
              refine hTake (i := 7) (oi := ?a86) (v := ?f86) (d := ?g86) ?b86 ?c86 (by kernel_rfl) ?d86 ?e86 ?h86 (by assumption) ?_; (case b86 => simp only [rhN, rhM]; try rfl); (case c86 => (try dsimp only); rfl); (case e86 => rfl); (case d86 => exact fun _ _ _ h => h); (case h86 => intro w hSw; (try dsimp only at hSw); go_simp <;> with_reducible rfl); simp only [Act.put, rhA, rhS, rhT]
              refine hTake (i := 8) (oi := ?a87) (v := ?f87) (d := ?g87) ?b87 ?c87 (by kernel_rfl) ?d87 ?e87 ?h87 (by assumption) ?_; (case b87 => simp only [rhN, rhM]; try rfl); (case c87 => (try dsimp only); rfl); (case e87 => rfl); (case d87 => exact fun _ _ _ h => h); (case h87 => intro w hSw; (try dsimp only at hSw); go_simp <;> with_reducible rfl); simp only [Act.put, rhA, rhS, rhT]
              refine hTake (i := 9) (oi := ?a88) (v := ?f88) (d := ?g88) ?b88 ?c88 (by kernel_rfl) ?d88 ?e88 ?h88 (by assumption) ?_; (case b88 => simp only [rhN, rhM]; try rfl); (case c88 => (try dsimp only); rfl); (case e88 => rfl); (case d88 => exact fun _ _ _ h => h); (case h88 => intro w hSw; (try dsimp only at hSw); go_simp <;> with_reducible rfl); simp only [Act.put, rhA, rhS, rhT]
              refine hTake (i := 10) (oi := ?a89) (v := ?f89) (d := ?g89) ?b89 ?c89 (by kernel_rfl) ?d89 ?e89 ?h89 (by assumption) ?_; (case b89 => simp only [rhN, rhM]; try rfl); (case c89 => (try dsimp only); rfl); (case e89 => rfl); (case d89 => exact fun _ _ _ h => h); (case h89 => intro w hSw; (try dsimp only at hSw); go_simp <;> with_reducible rfl); simp only [Act.put, rhA, rhS, rhT]
              refine hTake (i := 11) (oi := ?a90) (v := ?f90) (d := ?g90) ?b90 ?c90 (by kernel_rfl) ?d90 ?e90 ?h90 (by assumption) ?_; (case b90 => simp only [rhN, rhM]; try rfl); (case c90 => (try dsimp only); rfl); (case e90 => rfl); (case d90 => exact fun _ _ _ h => h); (case h90 => intro w hSw; (try dsimp only at hSw); go_simp <;> with_reducible rfl); simp only [Act.put, rhA, rhS, rhT]
              refine hTake (i := 12) (oi := ?a91) (v := ?f91) (d := ?g91) ?b91 ?c91 (by kernel_rfl) ?d91 ?e91 ?h91 (by assumption) ?_; (case b91 => simp only [rhN, rhM]; try rfl); (case c91 => (try dsimp only); rfl); (case e91 => rfl); (case d91 => exact fun _ _ _ h => h); (case h91 => intro w hSw; (try dsimp only at hSw); go_simp <;> with_reducible rfl); simp only [Act.put, rhA, rhS, rhT]
              refine hTake (i := 13) (oi := ?a92) (v := ?f92) (d := ?g92) ?b92 ?c92 (by kernel_rfl) ?d92 ?e92 ?h92 (by assumption) ?_; (case b92 => simp only [rhN, rhM]; try rfl); (case c92 => (try dsimp only); rfl); (case e92 => rfl); (case d92 => exact fun _ _ _ h => h); (case h92 => intro w hSw; (try dsimp only at hSw); go_simp <;> with_reducible rfl); simp only [Act.put, rhA, rhS, rhT]
              refine hTake (i := 14) (oi := ?a93) (v := ?f93) (d := ?g93) ?b93 ?c93 (by kernel_rfl) ?d93 ?e93 ?h93 (by assumption) ?_; (case b93 => simp only [rhN, rhM]; try rfl); (case c93 => (try dsimp only); rfl); (case e93 => rfl); (case d93 => exact fun _ _ _ h => h); (case h93 => intro w hSw; (try dsimp only at hSw); go_simp <;> with_reducible rfl); simp only [Act.put, rhA, rhS, rhT]
              refine hTake (i := 15) (oi := ?a94) (v := ?f94) (d := ?g94) ?b94 ?c94 (by kernel_rfl) ?d94 ?e94 ?h94 (by assumption) ?_; (case b94 => simp only [rhN, rhM]; try rfl); (case c94 => (try dsimp only); rfl); (case e94 => rfl); (case d94 => exact fun _ _ _ h => h); (case h94 => intro w hSw; (try dsimp only at hSw); go_simp <;> with_reducible rfl); simp only [Act.put, rhA, rhS, rhT]
              refine hTake (i := 16) (oi := ?a95) (v := ?f95) (d := ?g95) ?b95 ?c95 (by kernel_rfl) ?d95 ?e95 ?h95 (by assumption) ?_; (case b95 => simp only [rhN, rhM]; try rfl); (case c95 => (try dsimp only); rfl); (case e95 => rfl); (case d95 => exact fun _ _ _ h => h); (case h95 => intro w hSw; (try dsimp only at hSw); go_simp <;> with_reducible rfl); simp only [Act.put, rhA, rhS, rhT]
              refine hTake (i := 17) (oi := ?a96) (v := ?f96) (d := ?g96) ?b96 ?c96 (by kernel_rfl) ?d96 ?e96 ?h96 (by assumption) ?_; (case b96 => simp only [rhN, rhM]; try rfl); (case c96 => (try dsimp only); rfl); (case e96 => rfl); (case d96 => exact fun _ _ _ h => h); (case h96 => intro w hSw; (try dsimp only at hSw); go_simp <;> with_reducible rfl); simp only [Act.put, rhA, rhS, rhT]
              refine hTake (i := 18) (oi := ?a97) (v := ?f97) (d := ?g97) ?b97 ?c97 (by kernel_rfl) ?d97 ?e97 ?h97 (by assumption) ?_; (case b97 => simp only [rhN, rhM]; try rfl); (case c97 => (try dsimp only); rfl); (case e97 => rfl); (case d97 => exact fun _ _ _ h => h); (case h97 => intro w hSw; (try dsimp only at hSw); go_simp <;> with_reducible rfl); simp only [Act.put, rhA, rhS, rhT]
              refine hTake (i := 19) (oi := ?a98) (v := ?f98) (d := ?g98) ?b98 ?c98 (by kernel_rfl) ?d98 ?e98 ?h98 (by assumption) ?_; (case b98 => simp only [rhN, rhM]; try rfl); (case c98 => (try dsimp only); rfl); (case e98 => rfl); (case d98 => exact fun _ _ _ h => h); (case h98 => intro w hSw; (try dsimp only at hSw); go_simp <;> with_reducible rfl); simp only [Act.put, rhA, rhS, rhT]
              refine hTake (i := 20) (oi := ?a99) (v := ?f99) (d := ?g99) ?b99 ?c99 (by kernel_rfl) ?d99 ?e99 ?h99 (by assumption) ?_; (case b99 => simp only [rhN, rhM]; try rfl); (case c99 => (try dsimp only); rfl); (case e99 => rfl); (case d99 => exact fun _ _ _ h => h); (case h99 => intro w hSw; (try dsimp only at hSw); go_simp <;> with_reducible rfl); simp only [Act.put, rhA, rhS, rhT]
              refine hTake (i := 21) (oi := ?a100) (v := ?f100) (d := ?g100) ?b100 ?c100 (by kernel_rfl) ?d100 ?e100 ?h100 (by assumption) ?_; (case b100 => simp only [rhN, rhM]; try rfl); (case c100 => (try dsimp only); rfl); (case e100 => rfl); (case d100 => exact fun _ _ _ h => h); (case h100 => intro w hSw; (try dsimp only at hSw); go_simp <;> with_reducible rfl); simp only [Act.put, rhA, rhS, rhT]
              refine hTake (i := 22) (oi := ?a101) (v := ?f101) (d := ?g101) ?b101 ?c101 (by kernel_rfl) ?d101 ?e101 ?h101 (by assumption) ?_; (case b101 => simp only [rhN, rhM]; try rfl); (case c101 => (try dsimp only); rfl); (case e101 => rfl); (case d101 => exact fun _ _ _ h => h); (case h101 => intro w hSw; (try dsimp only at hSw); go_simp <;> with_reducible rfl); simp only [Act.put, rhA, rhS, rhT]
              refine hTake (i := 23) (oi := ?a102) (v := ?f102) (d := ?g102) ?b102 ?c102 (by kernel_rfl) ?d102 ?e102 ?h102 (by assumption) ?_; (case b102 => simp only [rhN, rhM]; try rfl); (case c102 => (try dsimp only); rfl); (case e102 => rfl); (case d102 => exact fun _ _ _ h => h); (case h102 => intro w hSw; (try dsimp only at hSw); go_simp <;> with_reducible rfl); simp only [Act.put, rhA, rhS, rhT]
              refine wpAnyH_done (by kernel_rfl) ?_ _
              clear hwr hge
              go_wp2_with fail
              go_roundw
              case rel =>
                have hD4 : Below wr.heap.size wr w3 := (by repeat' (first | exact Below.refl _ _ | refine Below.alloc ?_ ?_ _ | refine Below.setCell ?_ ?_ _ | refine Below.drew ?_ | (apply below_step; assumption) | (simp; done) | (simp; omega) | omega))
                refine ⟨k + 1, by omega, by go_num, ⟨n.id, ?_, .inr ⟨k, n, rfl, HTK.out, rfl⟩⟩, below_of hB hD4⟩
                rw [HP.out, HD.out, poolsFrom_yes HO.out HGE.out]
              case measure => simp [intOf]; omega
            · have HGE := Lib.hid (show n.id ≤ n0.id by simpa using hge)
              go_wp2_with fail
              refine wp_region_held_drew (S := (fun w' => Below wr.heap.size wr w' ∧ w'.cell? ⟨bn, on + k * 12, none⟩ = some (.int .i64 n.id) ∧ w'.cell? ⟨bn, on + k * 12 + 1, none⟩ = some (.int .i64 n.min) ∧ w'.cell? ⟨bn, on + k * 12 + 2, none⟩ = some (.int .i64 n.max) ∧ w'.cell? ⟨bn, on + k * 12 + 3, none⟩ = some (.int .i64 n.prio) ∧ w'.cell? ⟨bn, on + k * 12 + 4, none⟩ = some (.int .i64 n.shape.id) ∧ w'.cell? ⟨bn, on + k * 12 + 5, none⟩ = some (.int .i64 n.shape.pool) ∧ w'.cell? ⟨bn, on + k * 12 + 6, none⟩ = some (.int .i64 n.shape.cap.c) ∧ w'.cell? ⟨bn, on + k * 12 + 7, none⟩ = some (.int .i64 n.shape.cap.m) ∧ w'.cell? ⟨bn, on + k * 12 + 8, none⟩ = some (.int .i64 n.shape.cap.p) ∧ w'.cell? ⟨bn, on + k * 12 + 9, none⟩ = some (.slice A3 n.shape.labs.length c3) ∧ w'.cell? ⟨bn, on + k * 12 + 10, none⟩ = some (.slice A4 n.shape.taints.length c4) ∧ w'.cell? ⟨bn, on + k * 12 + 11, none⟩ = some (.bool n.shape.cordon) ∧ w'.cell? ⟨bn, on + m * 12, none⟩ = some (.int .i64 n0.id))) (by kernel_rfl) (by (try dsimp only); exact HK.out _ (by repeat' (first | exact Below.refl _ _ | refine Below.alloc ?_ ?_ _ | refine Below.setCell ?_ ?_ _ | refine Below.drew ?_ | (apply below_step; assumption) | (simp; done) | (simp; omega) | omega))) (fun hHeld => ?_)
              refine hTake (i := 0) (oi := ?a104) (v := ?f104) (d := ?g104) ?b104 ?c104 (by kernel_rfl) ?d104 ?e104 ?h104 (by assumption) ?_; (case b104 => simp only [rhN]; try rfl); (case c104 => (try dsimp only); rfl); (case e104 => rfl); (case d104 => exact fun _ _ _ h => h); (case h104 => intro w hSw; (try dsimp only at hSw); go_simp <;> with_reducible rfl); simp only [Act.put, rhA, rhS, rhT]
              refine hTake (i := 1) (oi := ?a105) (v := ?f105) (d := ?g105) ?b105 ?c105 (by kernel_rfl) ?d105 ?e105 ?h105 (by assumption) ?_; (case b105 => simp only [rhN, rhM]; try rfl); (case c105 => (try dsimp only); rfl); (case e105 => rfl); (case d105 => exact fun _ _ _ h => h); (case h105 => intro w hSw; (try dsimp only at hSw); go_simp <;> with_reducible rfl); simp only [Act.put, rhA, rhS, rhT]
              refine hTake (i := 2) (oi := ?a106) (v := ?f106) (d := ?g106) ?b106 ?c106 (by kernel_rfl) ?d106 ?e106 ?h106 (by assumption) ?_; (case b106 => simp only [rhN, rhM]; try rfl); (case c106 => (try dsimp only); rfl); (case e106 => rfl); (case d106 => exact fun _ _ _ h => h); (case h106 => intro w hSw; (try dsimp only at hSw); go_simp <;> with_reducible rfl); simp only [Act.put, rhA, rhS, rhT]
              refine hTake (i := 3) (oi := ?a107) (v := ?f107) (d := ?g107) ?b107 ?c107 (by kernel_rfl) ?d107 ?e107 ?h107 (by assumption) ?_; (case b107 => simp only [rhN, rhM]; try rfl); (case c107 => (try dsimp only); rfl); (case e107 => rfl); (case d107 => exact fun _ _ _ h => h); (case h107 => intro w hSw; (try dsimp only at hSw); go_simp <;> with_reducible rfl); simp only [Act.put, rhA, rhS, rhT]
              refine hCall (i := 4) (o := ?a108) ?b108 (by kernel_rfl) ?c108 (fun K hK => ?d108)
              case b108 => simp only [rhN, rhM]; try rfl
              case c108 => rfl
              go_simp
              refine (HOK.out _ (SL.out.below (by repeat' (first | exact Below.refl _ _ | refine Below.alloc ?_ ?_ _ | refine Below.setCell ?_ ?_ _ | refine Below.drew ?_ | (apply below_step; assumption) | (simp; done) | (simp; omega) | omega))) (SI.out.below (by repeat' (first | exact Below.refl _ _ | refine Below.alloc ?_ ?_ _ | refine Below.setCell ?_ ?_ _ | refine Below.drew ?_ | (apply below_step; assumption) | (simp; done) | (simp; omega) | omega)))).mono ?_
              rintro e w3 ⟨rfl, hb_w3⟩
              have hz_w3 := hb_w3.size
              try simp at hz_w3
              go_wp2_with fail
              refine hK.out _ _ (by (try dsimp only); exact HK.out _ (by repeat' (first | exact Below.refl _ _ | refine Below.alloc ?_ ?_ _ | refine Below.setCell ?_ ?_ _ | refine Below.drew ?_ | (apply below_step; assumption) | (simp; done) | (simp; omega) | omega))) (fun hHeld => ?_)
              clear hK K
              try simp only [Act.put, rhA, rhS, rhT]
              refine hTake (i := 5) (oi := ?a110) (v := ?f110) (d := ?g110) ?b110 ?c110 (by kernel_rfl) ?d110 ?e110 ?h110 (by assumption) ?_; (case b110 => simp only [rhN, rhM]; try rfl); (case c110 => (try dsimp only); rfl); (case e110 => rfl); (case d110 => exact fun _ _ _ h => h); (case h110 => intro w hSw; (try dsimp only at hSw); go_simp <;> with_reducible rfl); simp only [Act.put, rhA, rhS, rhT]
              refine hTake (i := 6) (oi := ?a112) (v := ?f112) (d := ?g112) ?b112 ?c112 (by kernel_rfl) ?d112 ?e112 ?h112 (by assumption) ?_; (case b112 => simp only [rhN, rhM]; try rfl); (case c112 => (try dsimp only); rfl); (case e112 => rfl); (case d112 => exact fun _ _ _ h => h); (case h112 => intro w hSw; (try dsimp only at hSw); go_simp <;> with_reducible rfl); simp only [Act.put, rhA, rhS, rhT]
              refine hTake (i := 7) (oi := ?a114) (v := ?f114) (d := ?g114) ?b114 ?c114 (by kernel_rfl) ?d114 ?e114 ?h114 (by assumption) ?_; (case b114 => simp only [rhN, rhM]; try rfl); (case c114 => (try dsimp only); rfl); (case e114 => rfl); (case d114 => exact fun _ _ _ h => h); (case h114 => intro w hSw; (try dsimp only at hSw); go_simp <;> with_reducible rfl); simp only [Act.put, rhA, rhS, rhT]
              refine hTake (i := 8) (oi := ?a115) (v := ?f115) (d := ?g115) ?b115 ?c115 (by kernel_rfl) ?d115 ?e115 ?h115 (by assumption) ?_; (case b115 => simp only [rhN, rhM]; try rfl); (case c115 => (try dsimp only); rfl); (case e115 => rfl); (case d115 => exact fun _ _ _ h => h); (case h115 => intro w hSw; (try dsimp only at hSw); go_simp <;> with_reducible rfl); simp only [Act.put, rhA, rhS, rhT]
              refine hTake (i := 9) (oi := ?a116) (v := ?f116) (d := ?g116) ?b116 ?c116 (by kernel_rfl) ?d116 ?e116 ?h116 (by assumption) ?_; (case b116 => simp only [rhN, rhM]; try rfl); (case c116 => (try dsimp only); rfl); (case e116 => rfl); (case d116 => exact fun _ _ _ h => h); (case h116 => intro w hSw; (try dsimp only at hSw); go_simp <;> with_reducible rfl); simp only [Act.put, rhA, rhS, rhT]
              refine hTake (i := 10) (oi := ?a117) (v := ?f117) (d := ?g117) ?b117 ?c117 (by kernel_rfl) ?d117 ?e117 ?h117 (by assumption) ?_; (case b117 => simp only [rhN, rhM]; try rfl); (case c117 => (try dsimp only); rfl); (case e117 => rfl); (case d117 => exact fun _ _ _ h => h); (case h117 => intro w hSw; (try dsimp only at hSw); go_simp <;> with_reducible rfl); simp only [Act.put, rhA, rhS, rhT]
              refine hTake (i := 11) (oi := ?a118) (v := ?f118) (d := ?g118) ?b118 ?c118 (by kernel_rfl) ?d118 ?e118 ?h118 (by assumption) ?_; (case b118 => simp only [rhN, rhM]; try rfl); (case c118 => (try dsimp only); rfl); (case e118 => rfl); (case d118 => exact fun _ _ _ h => h); (case h118 => intro w hSw; (try dsimp only at hSw); go_simp <;> with_reducible rfl); simp only [Act.put, rhA, rhS, rhT]
              refine hTake (i := 12) (oi := ?a119) (v := ?f119) (d := ?g119) ?b119 ?c119 (by kernel_rfl) ?d119 ?e119 ?h119 (by assumption) ?_; (case b119 => simp only [rhN, rhM]; try rfl); (case c119 => (try dsimp only); rfl); (case e119 => rfl); (case d119 => exact fun _ _ _ h => h); (case h119 => intro w hSw; (try dsimp only at hSw); go_simp <;> with_reducible rfl); simp only [Act.put, rhA, rhS, rhT]
              refine hTake (i := 13) (oi := ?a120) (v := ?f120) (d := ?g120) ?b120 ?c120 (by kernel_rfl) ?d120 ?e120 ?h120 (by assumption) ?_; (case b120 => simp only [rhN, rhM]; try rfl); (case c120 => (try dsimp only); rfl); (case e120 => rfl); (case d120 => exact fun _ _ _ h => h); (case h120 => intro w hSw; (try dsimp only at hSw); go_simp <;> with_reducible rfl); simp only [Act.put, rhA, rhS, rhT]
              refine hTake (i := 14) (oi := ?a121) (v := ?f121) (d := ?g121) ?b121 ?c121 (by kernel_rfl) ?d121 ?e121 ?h121 (by assumption) ?_; (case b121 => simp only [rhN, rhM]; try rfl); (case c121 => (try dsimp only); rfl); (case e121 => rfl); (case d121 => exact fun _ _ _ h => h); (case h121 => intro w hSw; (try dsimp only at hSw); go_simp <;> with_reducible rfl); simp only [Act.put, rhA, rhS, rhT]
              refine hTake (i := 15) (oi := ?a122) (v := ?f122) (d := ?g122) ?b122 ?c122 (by kernel_rfl) ?d122 ?e122 ?h122 (by assumption) ?_; (case b122 => simp only [rhN, rhM]; try rfl); (case c122 => (try dsimp only); rfl); (case e122 => rfl); (case d122 => exact fun _ _ _ h => h); (case h122 => intro w hSw; (try dsimp only at hSw); go_simp <;> with_reducible rfl); simp only [Act.put, rhA, rhS, rhT]
              refine hTake (i := 16) (oi := ?a123) (v := ?f123) (d := ?g123) ?b123 ?c123 (by kernel_rfl) ?d123 ?e123 ?h123 (by assumption) ?_; (case b123 => simp only [rhN, rhM]; try rfl); (case c123 => (try dsimp only); rfl); (case e123 => rfl); (case d123 => exact fun _ _ _ h => h); (case h123 => intro w hSw; (try dsimp only at hSw); go_simp <;> with_reducible rfl); simp only [Act.put, rhA, rhS, rhT]
              refine hTake (i := 17) (oi := ?a124) (v := ?f124) (d := ?g124) ?b124 ?c124 (by kernel_rfl) ?d124 ?e124 ?h124 (by assumption) ?_; (case b124 => simp only [rhN, rhM]; try rfl); (case c124 => (try dsimp only); rfl); (case e124 => rfl); (case d124 => exact fun _ _ _ h => h); (case h124 => intro w hSw; (try dsimp only at hSw); go_simp <;> with_reducible rfl); simp only [Act.put, rhA, rhS, rhT]
              refine hTake (i := 18) (oi := ?a125) (v := ?f125) (d := ?g125) ?b125 ?c125 (by kernel_rfl) ?d125 ?e125 ?h125 (by assumption) ?_; (case b125 => simp only [rhN, rhM]; try rfl); (case c125 => (try dsimp only); rfl); (case e125 => rfl); (case d125 => exact fun _ _ _ h => h); (case h125 => intro w hSw; (try dsimp only at hSw); go_simp <;> with_reducible rfl); simp only [Act.put, rhA, rhS, rhT]
              refine hTake (i := 19) (oi := ?a126) (v := ?f126) (d := ?g126) ?b126 ?c126 (by kernel_rfl) ?d126 ?e126 ?h126 (by assumption) ?_; (case b126 => simp only [rhN, rhM]; try rfl); (case c126 => (try dsimp only); rfl); (case e126 => rfl); (case d126 => exact fun _ _ _ h => h); (case h126 => intro w hSw; (try dsimp only at hSw); go_simp <;> with_reducible rfl); simp only [Act.put, rhA, rhS, rhT]
              refine hTake (i := 20) (oi := ?a127) (v := ?f127) (d := ?g127) ?b127 ?c127 (by kernel_rfl) ?d127 ?e127 ?h127 (by assumption) ?_; (case b127 => simp only [rhN, rhM]; try rfl); (case c127 => (try dsimp only); rfl); (case e127 => rfl); (case d127 => exact fun _ _ _ h => h); (case h127 => intro w hSw; (try dsimp only at hSw); go_simp <;> with_reducible rfl); simp only [Act.put, rhA, rhS, rhT]
              refine hTake (i := 21) (oi := ?a128) (v := ?f128) (d := ?g128) ?b128 ?c128 (by kernel_rfl) ?d128 ?e128 ?h128 (by assumption) ?_; (case b128 => simp only [rhN, rhM]; try rfl); (case c128 => (try dsimp only); rfl); (case e128 => rfl); (case d128 => exact fun _ _ _ h => h); (case h128 => intro w hSw; (try dsimp only at hSw); go_simp <;> with_reducible rfl); simp only [Act.put, rhA, rhS, rhT]
              refine hTake (i := 22) (oi := ?a129) (v := ?f129) (d := ?g129) ?b129 ?c129 (by kernel_rfl) ?d129 ?e129 ?h129 (by assumption) ?_; (case b129 => simp only [rhN, rhM]; try rfl); (case c129 => (try dsimp only); rfl); (case e129 => rfl); (case d129 => exact fun _ _ _ h => h); (case h129 => intro w hSw; (try dsimp only at hSw); go_simp <;> with_reducible rfl); simp only [Act.put, rhA, rhS, rhT]
              refine hTake (i := 23) (oi := ?a130) (v := ?f130) (d := ?g130) ?b130 ?c130 (by kernel_rfl) ?d130 ?e130 ?h130 (by assumption) ?_; (case b130 => simp only [rhN, rhM]; try rfl); (case c130 => (try dsimp only); rfl); (case e130 => rfl); (case d130 => exact fun _ _ _ h => h); (case h130 => intro w hSw; (try dsimp only at hSw); go_simp <;> with_reducible rfl); simp only [Act.put, rhA, rhS, rhT]
              refine wpAnyH_done (by kernel_rfl) ?_ _
              go_wp2_with fail
              go_ret
              exact ⟨by rw [HE.out, HP.out, HD.out, poolsFrom_low HGE.out]; rfl, below_of hB (by repeat' (first | exact Below.refl _ _ | refine Below.alloc ?_ ?_ _ | refine Below.setCell ?_ ?_ _ | refine Below.drew ?_ | (apply below_step; assumption) | (simp; done) | (simp; omega) | omega))⟩
      · have hkl : k = l.length := by omega
        have HF := Lib.hid (show poolsFrom (-1) l = true by obtain ⟨p, hp, _⟩ := HTS.out; rw [hp, hkl, List.drop_length]; rfl)
        clear hkl
        go_wp2_with fail
        go_ret
        exact ⟨by rw [HE.out, HF.out]; rfl, hB⟩
  · have HE := Lib.hid (show poolsOk l = false by simp [poolsOk, h5])
    have h5' : (5 : Int) < (l.length : Int) := by omega
    clear h5
    go_enter Tryd.func12, Tryd.ntmps12
    go_wp2_with fail
    go_ret
    exact ⟨by rw [HE.out]; rfl, (by repeat' (first | exact Below.refl _ _ | refine Below.alloc ?_ ?_ _ | refine Below.setCell ?_ ?_ _ | refine Below.drew ?_ | (apply below_step; assumption) | (simp; done) | (simp; omega) | omega))⟩
end Go.Proofs.YtocfgejceoenmaaDoor
namespace Go.Proofs.YtocfgejceoenmaaDoor
open Go.ChangeShapes Go.WideShapes Go.ChangeAt Go.RowKit Go.Joins
section
variable {H : Type} {enc : TypeId × Value → H} {W : World}
set_option maxRecDepth 100000 in
theorem open_pools {base : Nat} {v : Value} {d : DataW H} {p : List MemPlace} (hv : Value.okWide Tryd.prog W .any base 41 v) (h : DataW.Trod enc Tryd.prog W 0 (fun _ => true) true 41 v d p) :
    ∃ l : List PV, l.length ≤ maxLen ∧ GSl PoolQ 12 W v l := by
  obtain ⟨fuel, hf⟩ := h
  obtain ⟨A, n, c, rfl⟩ := okWide_slice Tryd.underlying41 hv
  exact open_gslice (R := PoolQ) PV.zero (by omega) Tryd.underlying41 Tryd.c_pool (fun fuel cs x h => open_poolC h) (by simpa [Value.cells] using hf)
end
end Go.Proofs.YtocfgejceoenmaaDoor
