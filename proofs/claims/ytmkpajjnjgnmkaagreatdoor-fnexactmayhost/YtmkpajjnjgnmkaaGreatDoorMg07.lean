/- Slices of pools: the laws' helpers szPoolS, toPoolS, eqPoolS; PoolsOk and its model. The contracts of impl.mayHost, its two function values, and MayHost. The contracts of the model's l09May and MayHost. (mkmays.py) -/
import Derived.Test.YtmkpajjnjgnmkaaGreatDoorMg06
import Derived.Test.YtmkpajjnjgnmkaaGreatDoorMg02
import Derived.Laws.EntriesVeiled
import Derived.Test.YtmkpajjnjgnmkaaGreatDoorMg03
import Derived.Test.YtmkpajjnjgnmkaaGreatDoorCluSOk
namespace Go.Proofs.YtmkpajjnjgnmkaaGreatDoor
open Go.RowKit

def PV.small (t : PV) : Prop := t.shape.labs.length ≤ 1048576 ∧ t.shape.taints.length ≤ 1048576
def PoolN (base : Nat) (w : World) (t : PV) (cs : List Value) : Prop := ∃ g1 g2, cs = [.int .i64 t.id, .int .i64 t.min, .int .i64 t.max, .int .i64 t.prio, .int .i64 t.shape.id, .int .i64 t.shape.pool, .int .i64 t.shape.cap.c, .int .i64 t.shape.cap.m, .int .i64 t.shape.cap.p, .slice (some ⟨g1, 0, none⟩) t.shape.labs.length t.shape.labs.length, .slice (some ⟨g2, 0, none⟩) t.shape.taints.length t.shape.taints.length, .bool t.shape.cordon] ∧
  base ≤ g1 ∧ base ≤ g2 ∧ g2 < w.heap.size ∧ BlockIs w g1 119 (labL t.shape.labs).toArray ∧ IntAt w g2 0 t.shape.taints ∧ t.shape.labs.length ≤ 1048576 ∧ t.shape.taints.length ≤ 1048576
theorem PoolN.kept (base : Nat) : Kept (PoolN base) := fun _ _ _ _ hb ⟨g1, g2, e, h1, h2, h3, h4, h5, h6⟩ => ⟨g1, g2, e, h1, h2, Nat.lt_of_lt_of_le h3 hb.size, h4.below hb h4.lt, h5.below hb h3, h6⟩
theorem PoolN.put {base g o : Nat} {w : World} {t : PV} {cs ds : List Value} (h : PoolN base w t cs) (hg : g < base) : PoolN base (putAll w g o ds) t cs := by
  obtain ⟨g1, g2, e, h1, h2, h3, h4, h5, h6⟩ := h
  exact ⟨g1, g2, e, h1, h2, by rw [putAll_size]; exact h3, h4.putFar (by omega), h5.putFar (by omega), h6⟩
theorem PoolN.r {base : Nat} {w : World} {t : PV} {cs : List Value} (h : PoolN base w t cs) : PoolR w t cs := by
  obtain ⟨g1, g2, e, h1, h2, h3, h4, h5, h6⟩ := h
  exact ⟨_, _, e, .inr ⟨g1, 0, _, rfl, h4.lt, LabAt.of_cells h4⟩, .inr ⟨g2, 0, _, rfl, h3, h5⟩, h6⟩
theorem PoolN.len {base : Nat} {w : World} {t : PV} {cs : List Value} (h : PoolN base w t cs) : cs.length = 12 := by
  obtain ⟨g1, g2, e, _⟩ := h; subst e; rfl
theorem toPool_n (t : PV) (cs : List Value) (w : World) (h : PoolR w t cs) : Calls Tryz.prog 62 #[.agg cs.toArray] w (RetN PoolN w t) := by
  obtain ⟨v1, v2, rfl, h1, h2, l1, l2⟩ := h
  exact (toPool_o t v1 v2 w h1 h2 l1 l2).mono fun _ _ ⟨g1, g2, e, k1, k2, k3, bl, it, hb⟩ => ⟨_, e, ⟨g1, g2, rfl, k1, k2, k3, bl, fun i r hr => (it.cell _).trans (by simp [intL, hr]), l1, l2⟩, hb⟩
theorem eqPool_r (t : PV) (cs ds : List Value) (w : World) (h : PoolR w t cs) (k : PoolR w t ds) : Calls Tryz.prog 69 #[.agg cs.toArray, .agg ds.toArray] w fun e w' => e = .returned (.bool true) ∧ Below w.heap.size w w' := by
  obtain ⟨v1, v2, rfl, h1, h2, l1, l2⟩ := h
  obtain ⟨u1, u2, rfl, k1, k2, _, _⟩ := k
  exact eqPool_same t v1 v2 u1 u2 w h1 h2 k1 k2 l1 l2
theorem Tryz.infoPool : (Tryz.prog.info? 85).map (fun i => (i.zero, i.size, i.bytes)) = some (some (.agg #[.int .i64 0, .int .i64 0, .int .i64 0, .int .i64 0, .int .i64 0, .int .i64 0, .int .i64 0, .int .i64 0, .int .i64 0, .slice none 0 0, .slice none 0 0, .bool false]), 12, 128) := by kernel_rfl
theorem make_pool (n : Nat) (h : n ≤ 1048576) (w : World) : (Instr.makeSlice 37 (.int .i64 (n : Int)) (.int .i64 (n : Int))).run Tryz.prog w = .ok (.slice (some ⟨w.heap.size, 0, none⟩) n n) (w.alloc (.cells (madeCells #[.int .i64 0, .int .i64 0, .int .i64 0, .int .i64 0, .int .i64 0, .int .i64 0, .int .i64 0, .int .i64 0, .int .i64 0, .slice none 0 0, .slice none 0 0, .bool false] (n * 12)) 85)) := by
  obtain ⟨i, hi, hzz⟩ := Option.map_eq_some_iff.1 Tryz.infoPool
  simp only [Prod.mk.injEq] at hzz
  obtain ⟨hz, hs, hb⟩ := hzz
  have := run_make (P := Tryz.prog) w 37 85 i _ Tryz.underlying37 hi hz .i64 .i64 n n (by omega) (Int.le_refl _) (by rw [hb]; omega) (by omega)
  rw [this, hs]
  simp [Value.cells]
def NewPoolS (w : World) (l : List PV) (e : Ending) (w' : World) : Prop := e = .returned (.slice (some ⟨w.heap.size, 0, none⟩) l.length l.length) ∧ CopyG (PoolN (w.heap.size + 1)) 12 85 w' w.heap.size l l.length ∧ Below w.heap.size w w'

set_option maxHeartbeats 1600000 in
theorem toPoolS_any (v : Value) (l : List PV) (w : World) (hv : PoolSl w v l) (hlen : l.length ≤ 1048576) :
    Calls Tryz.prog 18 #[v] w (NewPoolS w l) := by
  obtain ⟨A, c, rfl, hA⟩ := hv.form
  have HA := Lib.hid hA
  clear hA hv
  have hmk := make_pool l.length hlen
  go_enter Tryz.func18, Tryz.ntmps18
  go_wp2_with fail
  go_loopw [4] (fun s4 wr => ∃ k : Nat, k ≤ l.length ∧ s4 = .int .i64 k ∧ CopyG (PoolN (w.heap.size + 1)) 12 85 wr w.heap.size l k ∧ Below w.heap.size w wr) (fun s4 _ => (l.length - intOf s4).toNat)
  case atStart =>
    exact ⟨0, by omega, rfl, ⟨_, BlockIs.new _ _ _, size_madeCells _ _, fun i r hi => absurd hi (by omega)⟩, (by repeat' (first | exact Below.refl _ _ | refine Below.alloc ?_ ?_ _ | refine Below.setCell ?_ ?_ _ | refine Below.drew ?_ | (apply below_step; assumption) | (simp; done) | (simp; omega) | omega))⟩
  case round =>
    obtain ⟨k, hk, rfl, hcp, hB⟩ := hrel
    have HCP := Lib.hid hcp
    have hgl := hcp.lt
    have hzr := hB.size
    clear hcp
    by_cases hlt : k < l.length
    · obtain ⟨b, off, rfl, hbw, hat⟩ := HA.out (by omega)
      obtain ⟨t, ht⟩ : ∃ t, l[k]? = some t := ⟨_, List.getElem?_eq_getElem hlt⟩
      obtain ⟨cs, hR, hC⟩ := (hat.below PoolR.kept hB hbw) k t ht
      have HTK := Lib.hid ht
      have HR := Lib.hid (toPool_n t cs wr hR)
      obtain ⟨v1, v2, rfl, sl, si, m1, m2⟩ := hR; obtain ⟨A1, c1, rfl, _⟩ := sl.form; obtain ⟨A2, c2, rfl, _⟩ := si.form
      clear sl si m1 m2
      obtain ⟨q0, q1, q2, q3, q4, q5, q6, q7, q8, q9, q10, q11⟩ := pool_cells hC
      clear hat hC ht
      go_wp2_with fail
      refine HR.out.mono ?_
      rintro e w3 ⟨ds, rfl, hN, hb3⟩
      have hz3 := hb3.size
      have hC3 := below_of hB hb3
      have hcp := HCP.out.below (PoolN.kept _) hb3
      have HN := Lib.hid (show PoolN (w.heap.size + 1) w3 t ds from by obtain ⟨g1, g2, e, h1, h2, h3⟩ := hN; exact ⟨g1, g2, e, by omega, by omega, h3⟩)
      have HCP3 := Lib.hid hcp
      obtain ⟨cs3, hblk, hsz, _⟩ := hcp
      have hk12 : k * 12 + 12 ≤ cs3.size := by omega
      have x0 : w3.cell? ⟨w.heap.size, k * 12 + 0, none⟩ = some (cs3[k * 12 + 0]'(by omega)) := (by rw [hblk.cell]; exact Array.getElem?_eq_getElem (by omega)); have x1 : w3.cell? ⟨w.heap.size, k * 12 + 1, none⟩ = some (cs3[k * 12 + 1]'(by omega)) := (by rw [hblk.cell]; exact Array.getElem?_eq_getElem (by omega)); have x2 : w3.cell? ⟨w.heap.size, k * 12 + 2, none⟩ = some (cs3[k * 12 + 2]'(by omega)) := (by rw [hblk.cell]; exact Array.getElem?_eq_getElem (by omega)); have x3 : w3.cell? ⟨w.heap.size, k * 12 + 3, none⟩ = some (cs3[k * 12 + 3]'(by omega)) := (by rw [hblk.cell]; exact Array.getElem?_eq_getElem (by omega)); have x4 : w3.cell? ⟨w.heap.size, k * 12 + 4, none⟩ = some (cs3[k * 12 + 4]'(by omega)) := (by rw [hblk.cell]; exact Array.getElem?_eq_getElem (by omega)); have x5 : w3.cell? ⟨w.heap.size, k * 12 + 5, none⟩ = some (cs3[k * 12 + 5]'(by omega)) := (by rw [hblk.cell]; exact Array.getElem?_eq_getElem (by omega)); have x6 : w3.cell? ⟨w.heap.size, k * 12 + 6, none⟩ = some (cs3[k * 12 + 6]'(by omega)) := (by rw [hblk.cell]; exact Array.getElem?_eq_getElem (by omega)); have x7 : w3.cell? ⟨w.heap.size, k * 12 + 7, none⟩ = some (cs3[k * 12 + 7]'(by omega)) := (by rw [hblk.cell]; exact Array.getElem?_eq_getElem (by omega)); have x8 : w3.cell? ⟨w.heap.size, k * 12 + 8, none⟩ = some (cs3[k * 12 + 8]'(by omega)) := (by rw [hblk.cell]; exact Array.getElem?_eq_getElem (by omega)); have x9 : w3.cell? ⟨w.heap.size, k * 12 + 9, none⟩ = some (cs3[k * 12 + 9]'(by omega)) := (by rw [hblk.cell]; exact Array.getElem?_eq_getElem (by omega)); have x10 : w3.cell? ⟨w.heap.size, k * 12 + 10, none⟩ = some (cs3[k * 12 + 10]'(by omega)) := (by rw [hblk.cell]; exact Array.getElem?_eq_getElem (by omega)); have x11 : w3.cell? ⟨w.heap.size, k * 12 + 11, none⟩ = some (cs3[k * 12 + 11]'(by omega)) := (by rw [hblk.cell]; exact Array.getElem?_eq_getElem (by omega))
      generalize cs3[k * 12 + 0]'(by omega) = y0 at x0; generalize cs3[k * 12 + 1]'(by omega) = y1 at x1; generalize cs3[k * 12 + 2]'(by omega) = y2 at x2; generalize cs3[k * 12 + 3]'(by omega) = y3 at x3; generalize cs3[k * 12 + 4]'(by omega) = y4 at x4; generalize cs3[k * 12 + 5]'(by omega) = y5 at x5; generalize cs3[k * 12 + 6]'(by omega) = y6 at x6; generalize cs3[k * 12 + 7]'(by omega) = y7 at x7; generalize cs3[k * 12 + 8]'(by omega) = y8 at x8; generalize cs3[k * 12 + 9]'(by omega) = y9 at x9; generalize cs3[k * 12 + 10]'(by omega) = y10 at x10; generalize cs3[k * 12 + 11]'(by omega) = y11 at x11
      rw [Nat.add_zero] at x0
      have uf := hblk.frozen
      have hl3 := hblk.lt
      clear hblk hsz hk12 hN hb3
      obtain ⟨g1, g2, rfl, _⟩ := HN.out
      go_wp2_with fail
      go_roundw
      case rel =>
        have st := HCP3.out.step HTK.out (HN.out.put (by omega)) HN.out.len (fun y es h => h.put (by omega))
        exact ⟨k + 1, by omega, by go_num, st, putAll_below (ds := [_, _, _, _, _, _, _, _, _, _, _, _]) hC3 (Nat.le_refl _)⟩
      case measure => simp [intOf]; omega
    · have hkl : k = l.length := by omega
      have HF := Lib.hid (show CopyG (PoolN (w.heap.size + 1)) 12 85 wr w.heap.size l l.length by rw [← hkl]; exact HCP.out)
      clear hkl
      go_wp2_with fail
      go_ret
      exact ⟨rfl, HF.out, hB⟩
set_option maxHeartbeats 1600000 in
set_option maxRecDepth 20000 in
theorem eqPoolS_same (v1 v2 : Value) (l : List PV) (w : World) (h1 : PoolSl w v1 l) (h2 : PoolSl w v2 l) (hlen : l.length ≤ 1048576) :
    Calls Tryz.prog 21 #[v1, v2] w fun e w' => e = .returned (.bool true) ∧ Below w.heap.size w w' := by
  obtain ⟨A, c, rfl, hA⟩ := h1.form
  obtain ⟨A', c', rfl, hA'⟩ := h2.form
  have HA := Lib.hid hA
  have HA' := Lib.hid hA'
  clear hA hA' h1 h2
  have hnn : ((l.length : Int) != (l.length : Int)) = false := by simp
  go_enter Tryz.func21, Tryz.ntmps21
  go_wp2_with fail
  go_loopw [5] (fun s5 wr => ∃ k : Nat, k ≤ l.length ∧ s5 = .int .i64 k ∧ Below w.heap.size w wr) (fun s5 _ => (l.length - intOf s5).toNat)
  case atStart => exact ⟨0, by omega, rfl, Below.refl _ _⟩
  case round =>
    obtain ⟨k, hk, rfl, hB⟩ := hrel
    have hzr := hB.size
    by_cases hlt : k < l.length
    · obtain ⟨b, off, rfl, hbw, hat⟩ := HA.out (by omega)
      obtain ⟨b', off', rfl, hbw', hat'⟩ := HA'.out (by omega)
      obtain ⟨t, ht⟩ : ∃ t, l[k]? = some t := ⟨_, List.getElem?_eq_getElem hlt⟩
      obtain ⟨ds, hR, hC⟩ := (hat'.below PoolR.kept hB hbw') k t ht
      have HR' := Lib.hid hR
      obtain ⟨v3, v4, rfl, sl, si, m1, m2⟩ := hR; obtain ⟨A3, c3, rfl, _⟩ := sl.form; obtain ⟨A4, c4, rfl, _⟩ := si.form; clear sl si m1 m2
      obtain ⟨p0, p1, p2, p3, p4, p5, p6, p7, p8, p9, p10, p11⟩ := pool_cells hC
      clear hC
      obtain ⟨cs, hR, hC⟩ := (hat.below PoolR.kept hB hbw) k t ht
      have HR := Lib.hid hR
      obtain ⟨v1, v2, rfl, sl, si, m1, m2⟩ := hR; obtain ⟨A1, c1, rfl, _⟩ := sl.form; obtain ⟨A2, c2, rfl, _⟩ := si.form
      clear sl si m1 m2
      obtain ⟨q0, q1, q2, q3, q4, q5, q6, q7, q8, q9, q10, q11⟩ := pool_cells hC
      have hbr : b < wr.heap.size := by omega
      have hbr' : b' < wr.heap.size := by omega
      have HK := Lib.hid (show ∀ w', Below wr.heap.size wr w' → Below wr.heap.size wr w' ∧ w'.cell? ⟨b, off + k * 12, none⟩ = some (.int .i64 t.id) ∧ w'.cell? ⟨b, off + k * 12 + 1, none⟩ = some (.int .i64 t.min) ∧ w'.cell? ⟨b, off + k * 12 + 2, none⟩ = some (.int .i64 t.max) ∧ w'.cell? ⟨b, off + k * 12 + 3, none⟩ = some (.int .i64 t.prio) ∧ w'.cell? ⟨b, off + k * 12 + 4, none⟩ = some (.int .i64 t.shape.id) ∧ w'.cell? ⟨b, off + k * 12 + 5, none⟩ = some (.int .i64 t.shape.pool) ∧ w'.cell? ⟨b, off + k * 12 + 6, none⟩ = some (.int .i64 t.shape.cap.c) ∧ w'.cell? ⟨b, off + k * 12 + 7, none⟩ = some (.int .i64 t.shape.cap.m) ∧ w'.cell? ⟨b, off + k * 12 + 8, none⟩ = some (.int .i64 t.shape.cap.p) ∧ w'.cell? ⟨b, off + k * 12 + 9, none⟩ = some (.slice A1 t.shape.labs.length c1) ∧ w'.cell? ⟨b, off + k * 12 + 10, none⟩ = some (.slice A2 t.shape.taints.length c2) ∧ w'.cell? ⟨b, off + k * 12 + 11, none⟩ = some (.bool t.shape.cordon) ∧ w'.cell? ⟨b', off' + k * 12, none⟩ = some (.int .i64 t.id) ∧ w'.cell? ⟨b', off' + k * 12 + 1, none⟩ = some (.int .i64 t.min) ∧ w'.cell? ⟨b', off' + k * 12 + 2, none⟩ = some (.int .i64 t.max) ∧ w'.cell? ⟨b', off' + k * 12 + 3, none⟩ = some (.int .i64 t.prio) ∧ w'.cell? ⟨b', off' + k * 12 + 4, none⟩ = some (.int .i64 t.shape.id) ∧ w'.cell? ⟨b', off' + k * 12 + 5, none⟩ = some (.int .i64 t.shape.pool) ∧ w'.cell? ⟨b', off' + k * 12 + 6, none⟩ = some (.int .i64 t.shape.cap.c) ∧ w'.cell? ⟨b', off' + k * 12 + 7, none⟩ = some (.int .i64 t.shape.cap.m) ∧ w'.cell? ⟨b', off' + k * 12 + 8, none⟩ = some (.int .i64 t.shape.cap.p) ∧ w'.cell? ⟨b', off' + k * 12 + 9, none⟩ = some (.slice A3 t.shape.labs.length c3) ∧ w'.cell? ⟨b', off' + k * 12 + 10, none⟩ = some (.slice A4 t.shape.taints.length c4) ∧ w'.cell? ⟨b', off' + k * 12 + 11, none⟩ = some (.bool t.shape.cordon) from fun w' hb => ⟨hb, (hb.cell (p := ⟨_, _, none⟩) hbr).trans q0, (hb.cell (p := ⟨_, _, none⟩) hbr).trans q1, (hb.cell (p := ⟨_, _, none⟩) hbr).trans q2, (hb.cell (p := ⟨_, _, none⟩) hbr).trans q3, (hb.cell (p := ⟨_, _, none⟩) hbr).trans q4, (hb.cell (p := ⟨_, _, none⟩) hbr).trans q5, (hb.cell (p := ⟨_, _, none⟩) hbr).trans q6, (hb.cell (p := ⟨_, _, none⟩) hbr).trans q7, (hb.cell (p := ⟨_, _, none⟩) hbr).trans q8, (hb.cell (p := ⟨_, _, none⟩) hbr).trans q9, (hb.cell (p := ⟨_, _, none⟩) hbr).trans q10, (hb.cell (p := ⟨_, _, none⟩) hbr).trans q11, (hb.cell (p := ⟨_, _, none⟩) hbr').trans p0, (hb.cell (p := ⟨_, _, none⟩) hbr').trans p1, (hb.cell (p := ⟨_, _, none⟩) hbr').trans p2, (hb.cell (p := ⟨_, _, none⟩) hbr').trans p3, (hb.cell (p := ⟨_, _, none⟩) hbr').trans p4, (hb.cell (p := ⟨_, _, none⟩) hbr').trans p5, (hb.cell (p := ⟨_, _, none⟩) hbr').trans p6, (hb.cell (p := ⟨_, _, none⟩) hbr').trans p7, (hb.cell (p := ⟨_, _, none⟩) hbr').trans p8, (hb.cell (p := ⟨_, _, none⟩) hbr').trans p9, (hb.cell (p := ⟨_, _, none⟩) hbr').trans p10, (hb.cell (p := ⟨_, _, none⟩) hbr').trans p11⟩)
      have hlti : (k : Int) < (l.length : Int) := by omega
      have hk0 : (0 : Int) ≤ (k : Int) := by omega
      clear hat hat' ht hC q0 q1 q2 q3 q4 q5 q6 q7 q8 q9 q10 q11 p0 p1 p2 p3 p4 p5 p6 p7 p8 p9 p10 p11
      go_wp2_with fail
      refine wp_region_held_drew (S := (fun w' => Below wr.heap.size wr w' ∧ w'.cell? ⟨b, off + k * 12, none⟩ = some (.int .i64 t.id) ∧ w'.cell? ⟨b, off + k * 12 + 1, none⟩ = some (.int .i64 t.min) ∧ w'.cell? ⟨b, off + k * 12 + 2, none⟩ = some (.int .i64 t.max) ∧ w'.cell? ⟨b, off + k * 12 + 3, none⟩ = some (.int .i64 t.prio) ∧ w'.cell? ⟨b, off + k * 12 + 4, none⟩ = some (.int .i64 t.shape.id) ∧ w'.cell? ⟨b, off + k * 12 + 5, none⟩ = some (.int .i64 t.shape.pool) ∧ w'.cell? ⟨b, off + k * 12 + 6, none⟩ = some (.int .i64 t.shape.cap.c) ∧ w'.cell? ⟨b, off + k * 12 + 7, none⟩ = some (.int .i64 t.shape.cap.m) ∧ w'.cell? ⟨b, off + k * 12 + 8, none⟩ = some (.int .i64 t.shape.cap.p) ∧ w'.cell? ⟨b, off + k * 12 + 9, none⟩ = some (.slice A1 t.shape.labs.length c1) ∧ w'.cell? ⟨b, off + k * 12 + 10, none⟩ = some (.slice A2 t.shape.taints.length c2) ∧ w'.cell? ⟨b, off + k * 12 + 11, none⟩ = some (.bool t.shape.cordon) ∧ w'.cell? ⟨b', off' + k * 12, none⟩ = some (.int .i64 t.id) ∧ w'.cell? ⟨b', off' + k * 12 + 1, none⟩ = some (.int .i64 t.min) ∧ w'.cell? ⟨b', off' + k * 12 + 2, none⟩ = some (.int .i64 t.max) ∧ w'.cell? ⟨b', off' + k * 12 + 3, none⟩ = some (.int .i64 t.prio) ∧ w'.cell? ⟨b', off' + k * 12 + 4, none⟩ = some (.int .i64 t.shape.id) ∧ w'.cell? ⟨b', off' + k * 12 + 5, none⟩ = some (.int .i64 t.shape.pool) ∧ w'.cell? ⟨b', off' + k * 12 + 6, none⟩ = some (.int .i64 t.shape.cap.c) ∧ w'.cell? ⟨b', off' + k * 12 + 7, none⟩ = some (.int .i64 t.shape.cap.m) ∧ w'.cell? ⟨b', off' + k * 12 + 8, none⟩ = some (.int .i64 t.shape.cap.p) ∧ w'.cell? ⟨b', off' + k * 12 + 9, none⟩ = some (.slice A3 t.shape.labs.length c3) ∧ w'.cell? ⟨b', off' + k * 12 + 10, none⟩ = some (.slice A4 t.shape.taints.length c4) ∧ w'.cell? ⟨b', off' + k * 12 + 11, none⟩ = some (.bool t.shape.cordon))) (by kernel_rfl) (by (try dsimp only); exact HK.out _ (by repeat' (first | exact Below.refl _ _ | refine Below.alloc ?_ ?_ _ | refine Below.setCell ?_ ?_ _ | refine Below.drew ?_ | (apply below_step; assumption) | (simp; done) | (simp; omega) | omega))) (fun hHeld => ?_)
      refine hT 0 ?_; simp only [Act.put, rhA, rhS, rhT]
      refine hT 1 ?_; simp only [Act.put, rhA, rhS, rhT]
      refine hT 2 ?_; simp only [Act.put, rhA, rhS, rhT]
      refine hT 3 ?_; simp only [Act.put, rhA, rhS, rhT]
      refine hT 4 ?_; simp only [Act.put, rhA, rhS, rhT]
      refine hT 5 ?_; simp only [Act.put, rhA, rhS, rhT]
      refine hT 6 ?_; simp only [Act.put, rhA, rhS, rhT]
      refine hT 7 ?_; simp only [Act.put, rhA, rhS, rhT]
      refine hCall (i := 8) (o := ?a10) ?b10 (by kernel_rfl) ?c10 (fun K hK => ?d10)
      case b10 => simp only [rhN, rhM]; try rfl
      case c10 => rfl
      go_simp
      refine (eqPool_r t _ _ _ (PoolR.kept _ _ _ _ (by repeat' (first | exact Below.refl _ _ | refine Below.alloc ?_ ?_ _ | refine Below.setCell ?_ ?_ _ | refine Below.drew ?_ | (apply below_step; assumption) | (simp; done) | (simp; omega) | omega)) HR.out) (PoolR.kept _ _ _ _ (by repeat' (first | exact Below.refl _ _ | refine Below.alloc ?_ ?_ _ | refine Below.setCell ?_ ?_ _ | refine Below.drew ?_ | (apply below_step; assumption) | (simp; done) | (simp; omega) | omega)) HR'.out)).mono ?_
      rintro e w3 ⟨rfl, hb3⟩
      have hz3 := hb3.size
      try simp at hz3
      go_wp2_with fail
      refine hK.out _ _ (by (try dsimp only); exact HK.out _ (by repeat' (first | exact Below.refl _ _ | refine Below.alloc ?_ ?_ _ | refine Below.setCell ?_ ?_ _ | refine Below.drew ?_ | (apply below_step; assumption) | (simp; done) | (simp; omega) | omega))) (fun hHeld => ?_)
      clear hK K
      try simp only [Act.put, rhA, rhS, rhT]
      refine hT 9 ?_; simp only [Act.put, rhA, rhS, rhT]
      refine wpAnyH_done (by kernel_rfl) ?_ _
      go_wp2_with fail
      go_roundw
      case rel => exact ⟨k + 1, by omega, by go_num, (by repeat' (first | exact Below.refl _ _ | refine Below.alloc ?_ ?_ _ | refine Below.setCell ?_ ?_ _ | refine Below.drew ?_ | (apply below_step; assumption) | (simp; done) | (simp; omega) | omega))⟩
      case measure => simp [intOf]; omega
    · go_wp2_with fail
      go_ret
      exact ⟨rfl, hB⟩
set_option maxHeartbeats 1600000 in
theorem szPoolS_any (v : Value) (l : List PV) (z : Int) (w : World) (hv : GSl PoolQ 12 w v l) (hl : l.length ≤ maxLen) (h0 : 0 ≤ z) (hz : z ≤ 1048576) :
    Calls Tryz.prog 15 #[v, .int .i64 z] w fun e w' => (∃ y : Int, e = .returned (.int .i64 y) ∧ (y = -1 ∨ (0 ≤ y ∧ y ≤ 1048576 ∧ l.length ≤ 1048576 ∧ ∀ t ∈ l, t.small))) ∧ Below w.heap.size w w' := by
  obtain ⟨A, c, rfl, hA⟩ := hv.form
  have HA := Lib.hid hA
  unfold maxLen at hl
  clear hA hv
  by_cases h1 : (l.length : Int) ≤ z
  · go_enter Tryz.func15, Tryz.ntmps15
    go_wp2_with fail
    go_loopw [1, 5] (fun s1 s5 wr => ∃ (k : Nat) (y : Int), k ≤ l.length ∧ s5 = .int .i64 k ∧ s1 = .int .i64 y ∧ 0 ≤ y ∧ y ≤ 1048576 ∧ (∀ t ∈ l.take k, t.small) ∧ Below w.heap.size w wr) (fun _ s5 _ => (l.length - intOf s5).toNat)
    case atStart => exact ⟨0, z - l.length, by omega, rfl, by first | rfl | go_num, by omega, by omega, by simp, Below.refl _ _⟩
    case round =>
      obtain ⟨k, y, hk, rfl, rfl, y0, y1, hall, hB⟩ := hrel
      have HALL := Lib.hid hall
      have hzr := hB.size
      clear hall
      by_cases hlt : k < l.length
      · obtain ⟨b, off, rfl, hbw, hat⟩ := HA.out (by omega)
        obtain ⟨t, ht⟩ : ∃ t, l[k]? = some t := ⟨_, List.getElem?_eq_getElem hlt⟩
        obtain ⟨cs, hR, hC⟩ := (hat.below PoolQ.kept hB hbw) k t ht
        have HTK := Lib.hid (take_at ht)
        obtain ⟨v1, v2, rfl, sl, si, m1, m2⟩ := hR; obtain ⟨A1, c1, rfl, _⟩ := sl.form; obtain ⟨A2, c2, rfl, _⟩ := si.form
        obtain ⟨q0, q1, q2, q3, q4, q5, q6, q7, q8, q9, q10, q11⟩ := pool_cells hC
        have hsz := fun w => szPool_any (.int .i64 t.id) (.int .i64 t.min) (.int .i64 t.max) (.int .i64 t.prio) (.int .i64 t.shape.id) (.int .i64 t.shape.pool) (.int .i64 t.shape.cap.c) (.int .i64 t.shape.cap.m) (.int .i64 t.shape.cap.p) (.bool t.shape.cordon) A1 A2 t.shape.labs.length c1 t.shape.taints.length c2 y w y0 y1 m1 m2
        generalize hy : szTV y t.shape.labs.length t.shape.taints.length = y' at hsz
        have HY := Lib.hid (szTV_ok hy)
        have HSZ := Lib.hid hsz
        have hki : (k : Int) < (l.length : Int) := by omega
        clear hat hC ht sl si m1 m2 hsz hy
        go_wp2_with fail
        refine (HSZ.out _).mono ?_
        rintro e w2 ⟨rfl, hb2⟩
        have hC2 := below_of hB hb2
        rcases HY.out with rfl | hy2
        · go_wp2_with fail
          go_ret
          exact ⟨⟨-1, rfl, .inl rfl⟩, hC2⟩
        · obtain ⟨a1, a2, a3, a4⟩ := hy2 y0
          go_wp2_with fail
          go_roundw
          case rel =>
            refine ⟨k + 1, y', by omega, by go_num, rfl, a1, by omega, ?_, hC2⟩
            rw [HTK.out]
            intro s hs
            rcases List.mem_append.1 hs with h | h
            · exact HALL.out s h
            · simp at h; subst h; exact ⟨by omega, by omega⟩
          case measure => simp [intOf]; omega
      · have hkl : k = l.length := by omega
        go_wp2_with fail
        go_ret
        refine ⟨⟨y, rfl, .inr ⟨y0, y1, by omega, ?_⟩⟩, hB⟩
        have := HALL.out
        rwa [hkl, List.take_length] at this
  · have h1' : z < l.length := by omega
    clear h1
    go_enter Tryz.func15, Tryz.ntmps15
    go_wp2_with fail
    go_ret
    exact ⟨⟨-1, rfl, .inl rfl⟩, (by repeat' (first | exact Below.refl _ _ | refine Below.alloc ?_ ?_ _ | refine Below.setCell ?_ ?_ _ | refine Below.drew ?_ | (apply below_step; assumption) | (simp; done) | (simp; omega) | omega))⟩

def poolsFrom : Int → List PV → Bool
  | _, [] => true
  | p, n :: r => n.ok && decide (p < n.id) && poolsFrom n.id r
def poolsOk (l : List PV) : Bool := decide (l.length ≤ 5) && poolsFrom (-1) l
theorem poolsFrom_yes {p : Int} {n : PV} {r : List PV} (h : n.ok = true) (hp : p < n.id) : poolsFrom p (n :: r) = poolsFrom n.id r := by simp [poolsFrom, h, hp]
theorem poolsFrom_bad {p : Int} {n : PV} {r : List PV} (h : n.ok = false) : poolsFrom p (n :: r) = false := by simp [poolsFrom, h]
theorem poolsFrom_low {p : Int} {n : PV} {r : List PV} (h : n.id ≤ p) : poolsFrom p (n :: r) = false := by
  have : ¬ p < n.id := by omega
  simp [poolsFrom, this]
theorem PV.ok_id {p : PV} (h : p.ok = true) : 0 ≤ p.id := by
  simp only [PV.ok, Bool.and_eq_true, decide_eq_true_eq] at h
  exact h.1.1.1.1.1.1.1.1.1.1
theorem poolsFrom_first {n : PV} {r : List PV} (h : n.ok = true) : poolsFrom (-1) (n :: r) = poolsFrom n.id r := poolsFrom_yes h (by have := PV.ok_id h; omega)
set_option maxHeartbeats 3200000 in
set_option maxRecDepth 20000 in
theorem PoolsOk_any (v : Value) (l : List PV) (w : World) (x : Addr) (hg : ErrAt x w) (hv : PoolSl w v l) (hlen : l.length ≤ 1048576) :
    Calls Tryz.prog 64 #[v] w fun e w' => e = .returned (.bool (poolsOk l)) ∧ Below w.heap.size w w' := by
  obtain ⟨A, c, rfl, hA⟩ := hv.form
  have HA := Lib.hid hA
  have HG := Lib.hid hg
  clear hA hv hg
  by_cases h5 : l.length ≤ 5
  · have HT := Lib.hid (show poolsOk l = poolsFrom (-1) l by simp [poolsOk, h5])
    go_enter Tryz.func64, Tryz.ntmps64
    go_wp2_with fail
    go_loopw [3, 11] (fun s3 s11 wr => ∃ (k : Nat) (p : Int), k ≤ l.length ∧ s11 = .int .i64 k ∧ s3 = .int .i64 p ∧ poolsFrom (-1) l = poolsFrom p (l.drop k) ∧ Below w.heap.size w wr) (fun _ s11 _ => (l.length - intOf s11).toNat)
    case atStart => exact ⟨0, -1, by omega, rfl, rfl, by simp, Below.refl _ _⟩
    case round =>
      obtain ⟨k, p, hk, rfl, rfl, hts, hB⟩ := hrel
      have HTS := Lib.hid hts
      have hzr := hB.size
      have HGR := Lib.hid (HG.out.below hB (Nat.le_refl _))
      clear hts
      by_cases hlt : k < l.length
      · obtain ⟨b, off, rfl, hbw, hat⟩ := HA.out (by omega)
        obtain ⟨t, ht⟩ : ∃ t, l[k]? = some t := ⟨_, List.getElem?_eq_getElem hlt⟩
        obtain ⟨cs, hR, hC⟩ := (hat.below PoolR.kept hB hbw) k t ht
        have HD := Lib.hid (drop_at ht)
        obtain ⟨v1, v2, rfl, sl, si, m1, m2⟩ := hR
        obtain ⟨A1, c1, rfl, _⟩ := sl.form
        obtain ⟨A2, c2, rfl, _⟩ := si.form
        have hok := fun w x hg h1 h2 => PoolOk_any t (.slice A1 t.shape.labs.length c1) (.slice A2 t.shape.taints.length c2) w x hg h1 h2 m1 m2
        have SL := Lib.hid sl
        have SI := Lib.hid si
        obtain ⟨q0, q1, q2, q3, q4, q5, q6, q7, q8, q9, q10, q11⟩ := pool_cells hC
        have hbr : b < wr.heap.size := by omega
        cases ho : t.ok
        all_goals
          rw [ho] at hok
          have HO := Lib.hid ho
          have HOK := Lib.hid hok
          clear hat hC ht sl si m1 m2 ho hok
        · go_wp2_with fail
          have hX : Below wr.heap.size wr (wr.alloc (.cells #[.int .i64 t.id, .int .i64 t.min, .int .i64 t.max, .int .i64 t.prio, .int .i64 t.shape.id, .int .i64 t.shape.pool, .int .i64 t.shape.cap.c, .int .i64 t.shape.cap.m, .int .i64 t.shape.cap.p, .slice A1 t.shape.labs.length c1, .slice A2 t.shape.taints.length c2, .bool t.shape.cordon] 85)) := (by repeat' (first | exact Below.refl _ _ | refine Below.alloc ?_ ?_ _ | refine Below.setCell ?_ ?_ _ | refine Below.drew ?_ | (apply below_step; assumption) | (simp; done) | (simp; omega) | omega))
          refine (HOK.out _ x (HGR.out.alloc _) (SL.out.below hX) (SI.out.below hX)).mono ?_
          rintro e w2 ⟨rfl, hb2⟩
          have hC2 := below_of hX hb2
          go_wp2_with fail
          go_ret
          exact ⟨by rw [HT.out, HTS.out, HD.out, poolsFrom_bad HO.out]; rfl, below_of hB hC2⟩
        · go_wp2_with fail
          have hX : Below wr.heap.size wr (wr.alloc (.cells #[.int .i64 t.id, .int .i64 t.min, .int .i64 t.max, .int .i64 t.prio, .int .i64 t.shape.id, .int .i64 t.shape.pool, .int .i64 t.shape.cap.c, .int .i64 t.shape.cap.m, .int .i64 t.shape.cap.p, .slice A1 t.shape.labs.length c1, .slice A2 t.shape.taints.length c2, .bool t.shape.cordon] 85)) := (by repeat' (first | exact Below.refl _ _ | refine Below.alloc ?_ ?_ _ | refine Below.setCell ?_ ?_ _ | refine Below.drew ?_ | (apply below_step; assumption) | (simp; done) | (simp; omega) | omega))
          refine (HOK.out _ x (HGR.out.alloc _) (SL.out.below hX) (SI.out.below hX)).mono ?_
          rintro e w2 ⟨rfl, hb2⟩
          have hC2 := below_of hX hb2
          have BX := (BlockIs.new wr 85 #[.int .i64 t.id, .int .i64 t.min, .int .i64 t.max, .int .i64 t.prio, .int .i64 t.shape.id, .int .i64 t.shape.pool, .int .i64 t.shape.cap.c, .int .i64 t.shape.cap.m, .int .i64 t.shape.cap.p, .slice A1 t.shape.labs.length c1, .slice A2 t.shape.taints.length c2, .bool t.shape.cordon]).below hb2 (by simp)
          have x0 := BX.cell 0
          simp at x0
          clear BX hb2
          by_cases hp : t.id ≤ p
          · have HP := Lib.hid hp
            go_wp2_with fail
            go_ret
            exact ⟨by rw [HT.out, HTS.out, HD.out, poolsFrom_low HP.out]; rfl, below_of hB hC2⟩
          · have hp' : p < t.id := by omega
            have HP := Lib.hid hp'
            clear hp
            go_wp2_with fail
            go_roundw
            case rel => exact ⟨k + 1, t.id, by omega, by go_num, rfl, by rw [HTS.out, HD.out, poolsFrom_yes HO.out HP.out], below_of hB hC2⟩
            case measure => simp [intOf]; omega
      · have hkl : k = l.length := by omega
        have HF := Lib.hid (show poolsFrom (-1) l = true by rw [HTS.out, hkl, List.drop_length]; rfl)
        clear hkl
        go_wp2_with fail
        go_ret
        exact ⟨by rw [HT.out, HF.out]; rfl, hB⟩
  · have HT := Lib.hid (show poolsOk l = false by simp [poolsOk, h5])
    have h5' : (5 : Int) < (l.length : Int) := by omega
    clear h5
    go_enter Tryz.func64, Tryz.ntmps64
    go_wp2_with fail
    go_ret
    exact ⟨by rw [HT.out]; rfl, (by repeat' (first | exact Below.refl _ _ | refine Below.alloc ?_ ?_ _ | refine Below.setCell ?_ ?_ _ | refine Below.drew ?_ | (apply below_step; assumption) | (simp; done) | (simp; omega) | omega))⟩
set_option maxHeartbeats 6400000 in
set_option maxRecDepth 20000 in
theorem sPoolsOk_any (v : Value) (l : List PV) (w : World) (hv : PoolSl w v l) (hlen : l.length ≤ 1048576) :
    Calls Tryz.prog 57 #[v] w fun e w' => e = .returned (.bool (poolsOk l)) ∧ Below w.heap.size w w' := by
  obtain ⟨A, c, rfl, hA⟩ := hv.form
  have HA := Lib.hid hA
  clear hA hv
  by_cases h5 : l.length ≤ 5
  · have HE := Lib.hid (show poolsOk l = poolsFrom (-1) l by simp [poolsOk, h5])
    have h5' : decide ((5 : Int) < (l.length : Int)) = false := by simp; omega
    go_enter Tryz.func57, Tryz.ntmps57
    go_wp2_with fail
    go_loopw [3] (fun s3 wr => ∃ k : Nat, k ≤ l.length ∧ s3 = .int .i64 k ∧ (∃ p : Int, poolsFrom (-1) l = poolsFrom p (l.drop k) ∧ ((k = 0 ∧ p = -1) ∨ ∃ m n0, k = m + 1 ∧ l[m]? = some n0 ∧ p = n0.id)) ∧ Below w.heap.size w wr) (fun s3 _ => (l.length - intOf s3).toNat)
    case atStart => exact ⟨0, by omega, rfl, ⟨-1, by simp, .inl ⟨rfl, rfl⟩⟩, Below.refl _ _⟩
    case round =>
      obtain ⟨k, hk, rfl, hts, hB⟩ := hrel
      have HTS := Lib.hid hts
      have hzr := hB.size
      clear hts
      by_cases hlt : k < l.length
      · obtain ⟨bn, on, rfl, hbw, hat⟩ := HA.out (by omega)
        obtain ⟨n, ht⟩ : ∃ t, l[k]? = some t := ⟨_, List.getElem?_eq_getElem hlt⟩
        obtain ⟨cs, hR, hC⟩ := (hat.below PoolR.kept hB hbw) k n ht
        have HD := Lib.hid (drop_at ht)
        have HTK := Lib.hid ht
        obtain ⟨v1, v2, rfl, sl, si, m1, m2⟩ := hR
        obtain ⟨A3, c3, rfl, _⟩ := sl.form
        obtain ⟨A4, c4, rfl, _⟩ := si.form
        obtain ⟨q0, q1, q2, q3, q4, q5, q6, q7, q8, q9, q10, q11⟩ := pool_cells hC
        have hki : (k : Int) < (l.length : Int) := by omega
        have hk0 : (0 : Int) ≤ (k : Int) := by omega
        have hbr : bn < wr.heap.size := by omega
        have hok := fun w h1 h2 => sPoolOk_any n (.slice A3 n.shape.labs.length c3) (.slice A4 n.shape.taints.length c4) w h1 h2 m1 m2
        have SL := Lib.hid sl
        have SI := Lib.hid si
        have HK := Lib.hid (show ∀ w', Below wr.heap.size wr w' → (fun w' => Below wr.heap.size wr w' ∧ w'.cell? ⟨bn, on + k * 12, none⟩ = some (.int .i64 n.id) ∧ w'.cell? ⟨bn, on + k * 12 + 1, none⟩ = some (.int .i64 n.min) ∧ w'.cell? ⟨bn, on + k * 12 + 2, none⟩ = some (.int .i64 n.max) ∧ w'.cell? ⟨bn, on + k * 12 + 3, none⟩ = some (.int .i64 n.prio) ∧ w'.cell? ⟨bn, on + k * 12 + 4, none⟩ = some (.int .i64 n.shape.id) ∧ w'.cell? ⟨bn, on + k * 12 + 5, none⟩ = some (.int .i64 n.shape.pool) ∧ w'.cell? ⟨bn, on + k * 12 + 6, none⟩ = some (.int .i64 n.shape.cap.c) ∧ w'.cell? ⟨bn, on + k * 12 + 7, none⟩ = some (.int .i64 n.shape.cap.m) ∧ w'.cell? ⟨bn, on + k * 12 + 8, none⟩ = some (.int .i64 n.shape.cap.p) ∧ w'.cell? ⟨bn, on + k * 12 + 9, none⟩ = some (.slice A3 n.shape.labs.length c3) ∧ w'.cell? ⟨bn, on + k * 12 + 10, none⟩ = some (.slice A4 n.shape.taints.length c4) ∧ w'.cell? ⟨bn, on + k * 12 + 11, none⟩ = some (.bool n.shape.cordon)) w' from fun w' hb => ⟨hb, (hb.cell (p := ⟨_, _, none⟩) hbr).trans q0, (hb.cell (p := ⟨_, _, none⟩) hbr).trans q1, (hb.cell (p := ⟨_, _, none⟩) hbr).trans q2, (hb.cell (p := ⟨_, _, none⟩) hbr).trans q3, (hb.cell (p := ⟨_, _, none⟩) hbr).trans q4, (hb.cell (p := ⟨_, _, none⟩) hbr).trans q5, (hb.cell (p := ⟨_, _, none⟩) hbr).trans q6, (hb.cell (p := ⟨_, _, none⟩) hbr).trans q7, (hb.cell (p := ⟨_, _, none⟩) hbr).trans q8, (hb.cell (p := ⟨_, _, none⟩) hbr).trans q9, (hb.cell (p := ⟨_, _, none⟩) hbr).trans q10, (hb.cell (p := ⟨_, _, none⟩) hbr).trans q11⟩)
        have HAT := Lib.hid hat
        cases ho : n.ok
        · rw [ho] at hok
          have HO := Lib.hid ho
          have HOK := Lib.hid hok
          clear ho hok hat hC ht sl si m1 m2
          go_wp2_with fail
          refine wp_region_held_drew (S := (fun w' => Below wr.heap.size wr w' ∧ w'.cell? ⟨bn, on + k * 12, none⟩ = some (.int .i64 n.id) ∧ w'.cell? ⟨bn, on + k * 12 + 1, none⟩ = some (.int .i64 n.min) ∧ w'.cell? ⟨bn, on + k * 12 + 2, none⟩ = some (.int .i64 n.max) ∧ w'.cell? ⟨bn, on + k * 12 + 3, none⟩ = some (.int .i64 n.prio) ∧ w'.cell? ⟨bn, on + k * 12 + 4, none⟩ = some (.int .i64 n.shape.id) ∧ w'.cell? ⟨bn, on + k * 12 + 5, none⟩ = some (.int .i64 n.shape.pool) ∧ w'.cell? ⟨bn, on + k * 12 + 6, none⟩ = some (.int .i64 n.shape.cap.c) ∧ w'.cell? ⟨bn, on + k * 12 + 7, none⟩ = some (.int .i64 n.shape.cap.m) ∧ w'.cell? ⟨bn, on + k * 12 + 8, none⟩ = some (.int .i64 n.shape.cap.p) ∧ w'.cell? ⟨bn, on + k * 12 + 9, none⟩ = some (.slice A3 n.shape.labs.length c3) ∧ w'.cell? ⟨bn, on + k * 12 + 10, none⟩ = some (.slice A4 n.shape.taints.length c4) ∧ w'.cell? ⟨bn, on + k * 12 + 11, none⟩ = some (.bool n.shape.cordon))) (by kernel_rfl) (by (try dsimp only); exact HK.out _ (by repeat' (first | exact Below.refl _ _ | refine Below.alloc ?_ ?_ _ | refine Below.setCell ?_ ?_ _ | refine Below.drew ?_ | (apply below_step; assumption) | (simp; done) | (simp; omega) | omega))) (fun hHeld => ?_)
          refine hT 0 ?_; simp only [Act.put, rhA, rhS, rhT]
          refine hT 1 ?_; simp only [Act.put, rhA, rhS, rhT]
          refine hT 2 ?_; simp only [Act.put, rhA, rhS, rhT]
          refine hT 3 ?_; simp only [Act.put, rhA, rhS, rhT]
          refine hCall (i := 4) (o := ?a18) ?b18 (by kernel_rfl) ?c18 (fun K hK => ?d18)
          case b18 => simp only [rhN, rhM]; try rfl
          case c18 => rfl
          go_simp
          refine (HOK.out _ (SL.out.below (by repeat' (first | exact Below.refl _ _ | refine Below.alloc ?_ ?_ _ | refine Below.setCell ?_ ?_ _ | refine Below.drew ?_ | (apply below_step; assumption) | (simp; done) | (simp; omega) | omega))) (SI.out.below (by repeat' (first | exact Below.refl _ _ | refine Below.alloc ?_ ?_ _ | refine Below.setCell ?_ ?_ _ | refine Below.drew ?_ | (apply below_step; assumption) | (simp; done) | (simp; omega) | omega)))).mono ?_
          rintro e w3 ⟨rfl, hb_w3⟩
          have hz_w3 := hb_w3.size
          try simp at hz_w3
          go_wp2_with fail
          refine hK.out _ _ (by (try dsimp only); exact HK.out _ (by repeat' (first | exact Below.refl _ _ | refine Below.alloc ?_ ?_ _ | refine Below.setCell ?_ ?_ _ | refine Below.drew ?_ | (apply below_step; assumption) | (simp; done) | (simp; omega) | omega))) (fun hHeld => ?_)
          clear hK K
          try simp only [Act.put, rhA, rhS, rhT]
          refine hT 5 ?_; simp only [Act.put, rhA, rhS, rhT]
          refine hT 6 ?_; simp only [Act.put, rhA, rhS, rhT]
          refine hP 7 ?_; simp only [Act.put, rhA, rhS, rhT]
          refine hP 8 ?_; simp only [Act.put, rhA, rhS, rhT]
          refine hP 9 ?_; simp only [Act.put, rhA, rhS, rhT]
          refine hP 10 ?_; simp only [Act.put, rhA, rhS, rhT]
          refine hP 11 ?_; simp only [Act.put, rhA, rhS, rhT]
          refine hP 12 ?_; simp only [Act.put, rhA, rhS, rhT]
          refine hP 13 ?_; simp only [Act.put, rhA, rhS, rhT]
          refine hP 14 ?_; simp only [Act.put, rhA, rhS, rhT]
          refine hP 15 ?_; simp only [Act.put, rhA, rhS, rhT]
          refine hP 16 ?_; simp only [Act.put, rhA, rhS, rhT]
          refine hP 17 ?_; simp only [Act.put, rhA, rhS, rhT]
          refine hP 18 ?_; simp only [Act.put, rhA, rhS, rhT]
          refine hP 19 ?_; simp only [Act.put, rhA, rhS, rhT]
          refine hP 20 ?_; simp only [Act.put, rhA, rhS, rhT]
          refine hP 21 ?_; simp only [Act.put, rhA, rhS, rhT]
          refine hP 22 ?_; simp only [Act.put, rhA, rhS, rhT]
          refine hT 23 ?_; simp only [Act.put, rhA, rhS, rhT]
          refine wpAnyH_done (by kernel_rfl) ?_ _
          go_wp2_with fail
          go_ret
          refine ⟨?_, below_of hB (by repeat' (first | exact Below.refl _ _ | refine Below.alloc ?_ ?_ _ | refine Below.setCell ?_ ?_ _ | refine Below.drew ?_ | (apply below_step; assumption) | (simp; done) | (simp; omega) | omega))⟩
          obtain ⟨p, hp, _⟩ := HTS.out
          rw [HE.out, hp, HD.out, poolsFrom_bad HO.out]; rfl
        · rw [ho] at hok
          have HO := Lib.hid ho
          have HOK := Lib.hid hok
          clear ho hok hat hC ht sl si m1 m2
          obtain ⟨p, hp, hcase⟩ := HTS.out
          have HP := Lib.hid hp
          clear hp HTS
          rcases hcase with ⟨rfl, rfl⟩ | ⟨m, n0, hkm, hm0, rfl⟩
          · simp only [Nat.zero_mul, Nat.add_zero] at q0 q1 q2 q3 q4 q5 q6 q7 q8 q9 q10 q11 HK
            go_wp2_with fail
            refine wp_region_held_drew (S := (fun w' => Below wr.heap.size wr w' ∧ w'.cell? ⟨bn, on, none⟩ = some (.int .i64 n.id) ∧ w'.cell? ⟨bn, on + 1, none⟩ = some (.int .i64 n.min) ∧ w'.cell? ⟨bn, on + 2, none⟩ = some (.int .i64 n.max) ∧ w'.cell? ⟨bn, on + 3, none⟩ = some (.int .i64 n.prio) ∧ w'.cell? ⟨bn, on + 4, none⟩ = some (.int .i64 n.shape.id) ∧ w'.cell? ⟨bn, on + 5, none⟩ = some (.int .i64 n.shape.pool) ∧ w'.cell? ⟨bn, on + 6, none⟩ = some (.int .i64 n.shape.cap.c) ∧ w'.cell? ⟨bn, on + 7, none⟩ = some (.int .i64 n.shape.cap.m) ∧ w'.cell? ⟨bn, on + 8, none⟩ = some (.int .i64 n.shape.cap.p) ∧ w'.cell? ⟨bn, on + 9, none⟩ = some (.slice A3 n.shape.labs.length c3) ∧ w'.cell? ⟨bn, on + 10, none⟩ = some (.slice A4 n.shape.taints.length c4) ∧ w'.cell? ⟨bn, on + 11, none⟩ = some (.bool n.shape.cordon))) (by kernel_rfl) (by (try dsimp only); exact HK.out _ (by repeat' (first | exact Below.refl _ _ | refine Below.alloc ?_ ?_ _ | refine Below.setCell ?_ ?_ _ | refine Below.drew ?_ | (apply below_step; assumption) | (simp; done) | (simp; omega) | omega))) (fun hHeld => ?_)
            refine hT 0 ?_; simp only [Act.put, rhA, rhS, rhT]
            refine hT 1 ?_; simp only [Act.put, rhA, rhS, rhT]
            refine hT 2 ?_; simp only [Act.put, rhA, rhS, rhT]
            refine hT 3 ?_; simp only [Act.put, rhA, rhS, rhT]
            refine hCall (i := 4) (o := ?a47) ?b47 (by kernel_rfl) ?c47 (fun K hK => ?d47)
            case b47 => simp only [rhN, rhM]; try rfl
            case c47 => rfl
            go_simp
            refine (HOK.out _ (SL.out.below (by repeat' (first | exact Below.refl _ _ | refine Below.alloc ?_ ?_ _ | refine Below.setCell ?_ ?_ _ | refine Below.drew ?_ | (apply below_step; assumption) | (simp; done) | (simp; omega) | omega))) (SI.out.below (by repeat' (first | exact Below.refl _ _ | refine Below.alloc ?_ ?_ _ | refine Below.setCell ?_ ?_ _ | refine Below.drew ?_ | (apply below_step; assumption) | (simp; done) | (simp; omega) | omega)))).mono ?_
            rintro e w3 ⟨rfl, hb_w3⟩
            have hz_w3 := hb_w3.size
            try simp at hz_w3
            go_wp2_with fail
            refine hK.out _ _ (by (try dsimp only); exact HK.out _ (by repeat' (first | exact Below.refl _ _ | refine Below.alloc ?_ ?_ _ | refine Below.setCell ?_ ?_ _ | refine Below.drew ?_ | (apply below_step; assumption) | (simp; done) | (simp; omega) | omega))) (fun hHeld => ?_)
            clear hK K
            try simp only [Act.put, rhA, rhS, rhT]
            refine hT 5 ?_; simp only [Act.put, rhA, rhS, rhT]
            refine hT 6 ?_; simp only [Act.put, rhA, rhS, rhT]
            refine hT 7 ?_; simp only [Act.put, rhA, rhS, rhT]
            refine hT 8 ?_; simp only [Act.put, rhA, rhS, rhT]
            refine hT 9 ?_; simp only [Act.put, rhA, rhS, rhT]
            refine hP 10 ?_; simp only [Act.put, rhA, rhS, rhT]
            refine hP 11 ?_; simp only [Act.put, rhA, rhS, rhT]
            refine hP 12 ?_; simp only [Act.put, rhA, rhS, rhT]
            refine hP 13 ?_; simp only [Act.put, rhA, rhS, rhT]
            refine hP 14 ?_; simp only [Act.put, rhA, rhS, rhT]
            refine hP 15 ?_; simp only [Act.put, rhA, rhS, rhT]
            refine hP 16 ?_; simp only [Act.put, rhA, rhS, rhT]
            refine hP 17 ?_; simp only [Act.put, rhA, rhS, rhT]
            refine hP 18 ?_; simp only [Act.put, rhA, rhS, rhT]
            refine hP 19 ?_; simp only [Act.put, rhA, rhS, rhT]
            refine hP 20 ?_; simp only [Act.put, rhA, rhS, rhT]
            refine hP 21 ?_; simp only [Act.put, rhA, rhS, rhT]
            refine hT 22 ?_; simp only [Act.put, rhA, rhS, rhT]
            refine hT 23 ?_; simp only [Act.put, rhA, rhS, rhT]
            refine wpAnyH_done (by kernel_rfl) ?_ _
            go_wp2_with fail
            go_roundw
            case rel =>
              have hD4 : Below wr.heap.size wr w3 := (by repeat' (first | exact Below.refl _ _ | refine Below.alloc ?_ ?_ _ | refine Below.setCell ?_ ?_ _ | refine Below.drew ?_ | (apply below_step; assumption) | (simp; done) | (simp; omega) | omega))
              refine ⟨1, by omega, by go_num, ⟨n.id, ?_, .inr ⟨0, n, rfl, HTK.out, rfl⟩⟩, below_of hB hD4⟩
              rw [HP.out, HD.out, poolsFrom_first HO.out]
            case measure => simp [intOf]; omega
          · obtain ⟨cs0, hR0, hC0⟩ := (HAT.out.below PoolR.kept hB hbw) m n0 hm0
            obtain ⟨y1, y2, rfl, _, _, _, _⟩ := hR0
            have p0 := (pool_cells hC0).1
            have hgt : 0 < k := by omega
            have hgti : (0 : Int) < (k : Int) := by omega
            have hwr : IntKind.i64.wrap ((k : Int) - 1) = (m : Int) := by rw [IntWalk.i64_in _ (by omega)]; omega
            have hmi : (m : Int) < (l.length : Int) := by omega
            have hm0' : (0 : Int) ≤ (m : Int) := by omega
            have HKM := Lib.hid hkm
            have HM0 := Lib.hid hm0
            have HK := Lib.hid (show ∀ w', Below wr.heap.size wr w' → (fun w' => Below wr.heap.size wr w' ∧ w'.cell? ⟨bn, on + k * 12, none⟩ = some (.int .i64 n.id) ∧ w'.cell? ⟨bn, on + k * 12 + 1, none⟩ = some (.int .i64 n.min) ∧ w'.cell? ⟨bn, on + k * 12 + 2, none⟩ = some (.int .i64 n.max) ∧ w'.cell? ⟨bn, on + k * 12 + 3, none⟩ = some (.int .i64 n.prio) ∧ w'.cell? ⟨bn, on + k * 12 + 4, none⟩ = some (.int .i64 n.shape.id) ∧ w'.cell? ⟨bn, on + k * 12 + 5, none⟩ = some (.int .i64 n.shape.pool) ∧ w'.cell? ⟨bn, on + k * 12 + 6, none⟩ = some (.int .i64 n.shape.cap.c) ∧ w'.cell? ⟨bn, on + k * 12 + 7, none⟩ = some (.int .i64 n.shape.cap.m) ∧ w'.cell? ⟨bn, on + k * 12 + 8, none⟩ = some (.int .i64 n.shape.cap.p) ∧ w'.cell? ⟨bn, on + k * 12 + 9, none⟩ = some (.slice A3 n.shape.labs.length c3) ∧ w'.cell? ⟨bn, on + k * 12 + 10, none⟩ = some (.slice A4 n.shape.taints.length c4) ∧ w'.cell? ⟨bn, on + k * 12 + 11, none⟩ = some (.bool n.shape.cordon) ∧ w'.cell? ⟨bn, on + m * 12, none⟩ = some (.int .i64 n0.id)) w' from fun w' hb => ⟨hb, (hb.cell (p := ⟨_, _, none⟩) hbr).trans q0, (hb.cell (p := ⟨_, _, none⟩) hbr).trans q1, (hb.cell (p := ⟨_, _, none⟩) hbr).trans q2, (hb.cell (p := ⟨_, _, none⟩) hbr).trans q3, (hb.cell (p := ⟨_, _, none⟩) hbr).trans q4, (hb.cell (p := ⟨_, _, none⟩) hbr).trans q5, (hb.cell (p := ⟨_, _, none⟩) hbr).trans q6, (hb.cell (p := ⟨_, _, none⟩) hbr).trans q7, (hb.cell (p := ⟨_, _, none⟩) hbr).trans q8, (hb.cell (p := ⟨_, _, none⟩) hbr).trans q9, (hb.cell (p := ⟨_, _, none⟩) hbr).trans q10, (hb.cell (p := ⟨_, _, none⟩) hbr).trans q11, (hb.cell (p := ⟨_, _, none⟩) hbr).trans p0⟩)
            clear hC0 hkm hm0
            cases hge : decide (n.id ≤ n0.id)
            · have HGE := Lib.hid (show n0.id < n.id by simpa using hge)
              go_wp2_with fail
              refine wp_region_held_drew (S := (fun w' => Below wr.heap.size wr w' ∧ w'.cell? ⟨bn, on + k * 12, none⟩ = some (.int .i64 n.id) ∧ w'.cell? ⟨bn, on + k * 12 + 1, none⟩ = some (.int .i64 n.min) ∧ w'.cell? ⟨bn, on + k * 12 + 2, none⟩ = some (.int .i64 n.max) ∧ w'.cell? ⟨bn, on + k * 12 + 3, none⟩ = some (.int .i64 n.prio) ∧ w'.cell? ⟨bn, on + k * 12 + 4, none⟩ = some (.int .i64 n.shape.id) ∧ w'.cell? ⟨bn, on + k * 12 + 5, none⟩ = some (.int .i64 n.shape.pool) ∧ w'.cell? ⟨bn, on + k * 12 + 6, none⟩ = some (.int .i64 n.shape.cap.c) ∧ w'.cell? ⟨bn, on + k * 12 + 7, none⟩ = some (.int .i64 n.shape.cap.m) ∧ w'.cell? ⟨bn, on + k * 12 + 8, none⟩ = some (.int .i64 n.shape.cap.p) ∧ w'.cell? ⟨bn, on + k * 12 + 9, none⟩ = some (.slice A3 n.shape.labs.length c3) ∧ w'.cell? ⟨bn, on + k * 12 + 10, none⟩ = some (.slice A4 n.shape.taints.length c4) ∧ w'.cell? ⟨bn, on + k * 12 + 11, none⟩ = some (.bool n.shape.cordon) ∧ w'.cell? ⟨bn, on + m * 12, none⟩ = some (.int .i64 n0.id))) (by kernel_rfl) (by (try dsimp only); exact HK.out _ (by repeat' (first | exact Below.refl _ _ | refine Below.alloc ?_ ?_ _ | refine Below.setCell ?_ ?_ _ | refine Below.drew ?_ | (apply below_step; assumption) | (simp; done) | (simp; omega) | omega))) (fun hHeld => ?_)
              refine hT 0 ?_; simp only [Act.put, rhA, rhS, rhT]
              refine hT 1 ?_; simp only [Act.put, rhA, rhS, rhT]
              refine hT 2 ?_; simp only [Act.put, rhA, rhS, rhT]
              refine hT 3 ?_; simp only [Act.put, rhA, rhS, rhT]
              refine hCall (i := 4) (o := ?a80) ?b80 (by kernel_rfl) ?c80 (fun K hK => ?d80)
              case b80 => simp only [rhN, rhM]; try rfl
              case c80 => rfl
              go_simp
              refine (HOK.out _ (SL.out.below (by repeat' (first | exact Below.refl _ _ | refine Below.alloc ?_ ?_ _ | refine Below.setCell ?_ ?_ _ | refine Below.drew ?_ | (apply below_step; assumption) | (simp; done) | (simp; omega) | omega))) (SI.out.below (by repeat' (first | exact Below.refl _ _ | refine Below.alloc ?_ ?_ _ | refine Below.setCell ?_ ?_ _ | refine Below.drew ?_ | (apply below_step; assumption) | (simp; done) | (simp; omega) | omega)))).mono ?_
              rintro e w3 ⟨rfl, hb_w3⟩
              have hz_w3 := hb_w3.size
              try simp at hz_w3
              go_wp2_with fail
              refine hK.out _ _ (by (try dsimp only); exact HK.out _ (by repeat' (first | exact Below.refl _ _ | refine Below.alloc ?_ ?_ _ | refine Below.setCell ?_ ?_ _ | refine Below.drew ?_ | (apply below_step; assumption) | (simp; done) | (simp; omega) | omega))) (fun hHeld => ?_)
              clear hK K
              try simp only [Act.put, rhA, rhS, rhT]
              refine hT 5 ?_; simp only [Act.put, rhA, rhS, rhT]
              refine hT 6 ?_; simp only [Act.put, rhA, rhS, rhT]
              refine hT 7 ?_; simp only [Act.put, rhA, rhS, rhT]
              refine hT 8 ?_; simp only [Act.put, rhA, rhS, rhT]
              refine hT 9 ?_; simp only [Act.put, rhA, rhS, rhT]
              refine hT 10 ?_; simp only [Act.put, rhA, rhS, rhT]
              refine hT 11 ?_; simp only [Act.put, rhA, rhS, rhT]
              refine hT 12 ?_; simp only [Act.put, rhA, rhS, rhT]
              refine hT 13 ?_; simp only [Act.put, rhA, rhS, rhT]
              refine hT 14 ?_; simp only [Act.put, rhA, rhS, rhT]
              refine hT 15 ?_; simp only [Act.put, rhA, rhS, rhT]
              refine hT 16 ?_; simp only [Act.put, rhA, rhS, rhT]
              refine hT 17 ?_; simp only [Act.put, rhA, rhS, rhT]
              refine hT 18 ?_; simp only [Act.put, rhA, rhS, rhT]
              refine hT 19 ?_; simp only [Act.put, rhA, rhS, rhT]
              refine hT 20 ?_; simp only [Act.put, rhA, rhS, rhT]
              refine hT 21 ?_; simp only [Act.put, rhA, rhS, rhT]
              refine hT 22 ?_; simp only [Act.put, rhA, rhS, rhT]
              refine hT 23 ?_; simp only [Act.put, rhA, rhS, rhT]
              refine wpAnyH_done (by kernel_rfl) ?_ _
              clear hwr hge
              go_wp2_with fail
              go_roundw
              case rel =>
                have hD4 : Below wr.heap.size wr w3 := (by repeat' (first | exact Below.refl _ _ | refine Below.alloc ?_ ?_ _ | refine Below.setCell ?_ ?_ _ | refine Below.drew ?_ | (apply below_step; assumption) | (simp; done) | (simp; omega) | omega))
                refine ⟨k + 1, by omega, by go_num, ⟨n.id, ?_, .inr ⟨k, n, rfl, HTK.out, rfl⟩⟩, below_of hB hD4⟩
                rw [HP.out, HD.out, poolsFrom_yes HO.out HGE.out]
              case measure => simp [intOf]; omega
            · have HGE := Lib.hid (show n.id ≤ n0.id by simpa using hge)
              go_wp2_with fail
              refine wp_region_held_drew (S := (fun w' => Below wr.heap.size wr w' ∧ w'.cell? ⟨bn, on + k * 12, none⟩ = some (.int .i64 n.id) ∧ w'.cell? ⟨bn, on + k * 12 + 1, none⟩ = some (.int .i64 n.min) ∧ w'.cell? ⟨bn, on + k * 12 + 2, none⟩ = some (.int .i64 n.max) ∧ w'.cell? ⟨bn, on + k * 12 + 3, none⟩ = some (.int .i64 n.prio) ∧ w'.cell? ⟨bn, on + k * 12 + 4, none⟩ = some (.int .i64 n.shape.id) ∧ w'.cell? ⟨bn, on + k * 12 + 5, none⟩ = some (.int .i64 n.shape.pool) ∧ w'.cell? ⟨bn, on + k * 12 + 6, none⟩ = some (.int .i64 n.shape.cap.c) ∧ w'.cell? ⟨bn, on + k * 12 + 7, none⟩ = some (.int .i64 n.shape.cap.m) ∧ w'.cell? ⟨bn, on + k * 12 + 8, none⟩ = some (.int .i64 n.shape.cap.p) ∧ w'.cell? ⟨bn, on + k * 12 + 9, none⟩ = some (.slice A3 n.shape.labs.length c3) ∧ w'.cell? ⟨bn, on + k * 12 + 10, none⟩ = some (.slice A4 n.shape.taints.length c4) ∧ w'.cell? ⟨bn, on + k * 12 + 11, none⟩ = some (.bool n.shape.cordon) ∧ w'.cell? ⟨bn, on + m * 12, none⟩ = some (.int .i64 n0.id))) (by kernel_rfl) (by (try dsimp only); exact HK.out _ (by repeat' (first | exact Below.refl _ _ | refine Below.alloc ?_ ?_ _ | refine Below.setCell ?_ ?_ _ | refine Below.drew ?_ | (apply below_step; assumption) | (simp; done) | (simp; omega) | omega))) (fun hHeld => ?_)
              refine hT 0 ?_; simp only [Act.put, rhA, rhS, rhT]
              refine hT 1 ?_; simp only [Act.put, rhA, rhS, rhT]
              refine hT 2 ?_; simp only [Act.put, rhA, rhS, rhT]
              refine hT 3 ?_; simp only [Act.put, rhA, rhS, rhT]
              refine hCall (i := 4) (o := ?a108) ?b108 (by kernel_rfl) ?c108 (fun K hK => ?d108)
              case b108 => simp only [rhN, rhM]; try rfl
              case c108 => rfl
              go_simp
              refine (HOK.out _ (SL.out.below (by repeat' (first | exact Below.refl _ _ | refine Below.alloc ?_ ?_ _ | refine Below.setCell ?_ ?_ _ | refine Below.drew ?_ | (apply below_step; assumption) | (simp; done) | (simp; omega) | omega))) (SI.out.below (by repeat' (first | exact Below.refl _ _ | refine Below.alloc ?_ ?_ _ | refine Below.setCell ?_ ?_ _ | refine Below.drew ?_ | (apply below_step; assumption) | (simp; done) | (simp; omega) | omega)))).mono ?_
              rintro e w3 ⟨rfl, hb_w3⟩
              have hz_w3 := hb_w3.size
              try simp at hz_w3
              go_wp2_with fail
              refine hK.out _ _ (by (try dsimp only); exact HK.out _ (by repeat' (first | exact Below.refl _ _ | refine Below.alloc ?_ ?_ _ | refine Below.setCell ?_ ?_ _ | refine Below.drew ?_ | (apply below_step; assumption) | (simp; done) | (simp; omega) | omega))) (fun hHeld => ?_)
              clear hK K
              try simp only [Act.put, rhA, rhS, rhT]
              refine hT 5 ?_; simp only [Act.put, rhA, rhS, rhT]
              refine hT 6 ?_; simp only [Act.put, rhA, rhS, rhT]
              refine hT 7 ?_; simp only [Act.put, rhA, rhS, rhT]
              refine hT 8 ?_; simp only [Act.put, rhA, rhS, rhT]
              refine hT 9 ?_; simp only [Act.put, rhA, rhS, rhT]
              refine hT 10 ?_; simp only [Act.put, rhA, rhS, rhT]
              refine hT 11 ?_; simp only [Act.put, rhA, rhS, rhT]
              refine hT 12 ?_; simp only [Act.put, rhA, rhS, rhT]
              refine hT 13 ?_; simp only [Act.put, rhA, rhS, rhT]
              refine hT 14 ?_; simp only [Act.put, rhA, rhS, rhT]
              refine hT 15 ?_; simp only [Act.put, rhA, rhS, rhT]
              refine hT 16 ?_; simp only [Act.put, rhA, rhS, rhT]
              refine hT 17 ?_; simp only [Act.put, rhA, rhS, rhT]
              refine hT 18 ?_; simp only [Act.put, rhA, rhS, rhT]
              refine hT 19 ?_; simp only [Act.put, rhA, rhS, rhT]
              refine hT 20 ?_; simp only [Act.put, rhA, rhS, rhT]
              refine hT 21 ?_; simp only [Act.put, rhA, rhS, rhT]
              refine hT 22 ?_; simp only [Act.put, rhA, rhS, rhT]
              refine hT 23 ?_; simp only [Act.put, rhA, rhS, rhT]
              refine wpAnyH_done (by kernel_rfl) ?_ _
              go_wp2_with fail
              go_ret
              exact ⟨by rw [HE.out, HP.out, HD.out, poolsFrom_low HGE.out]; rfl, below_of hB (by repeat' (first | exact Below.refl _ _ | refine Below.alloc ?_ ?_ _ | refine Below.setCell ?_ ?_ _ | refine Below.drew ?_ | (apply below_step; assumption) | (simp; done) | (simp; omega) | omega))⟩
      · have hkl : k = l.length := by omega
        have HF := Lib.hid (show poolsFrom (-1) l = true by obtain ⟨p, hp, _⟩ := HTS.out; rw [hp, hkl, List.drop_length]; rfl)
        clear hkl
        go_wp2_with fail
        go_ret
        exact ⟨by rw [HE.out, HF.out]; rfl, hB⟩
  · have HE := Lib.hid (show poolsOk l = false by simp [poolsOk, h5])
    have h5' : (5 : Int) < (l.length : Int) := by omega
    clear h5
    go_enter Tryz.func57, Tryz.ntmps57
    go_wp2_with fail
    go_ret
    exact ⟨by rw [HE.out]; rfl, (by repeat' (first | exact Below.refl _ _ | refine Below.alloc ?_ ?_ _ | refine Below.setCell ?_ ?_ _ | refine Below.drew ?_ | (apply below_step; assumption) | (simp; done) | (simp; omega) | omega))⟩
end Go.Proofs.YtmkpajjnjgnmkaaGreatDoor
namespace Go.Proofs.YtmkpajjnjgnmkaaGreatDoor
open Go.ChangeShapes Go.WideShapes Go.ChangeAt Go.RowKit Go.Joins
section
variable {H : Type} {enc : TypeId × Value → H} {W : World}
set_option maxRecDepth 100000 in
theorem open_pools {base : Nat} {v : Value} {d : DataW H} {p : List MemPlace} (hv : Value.okWide Tryz.prog W .any base 27 v) (h : DataW.Trod enc Tryz.prog W 0 (fun _ => true) true 27 v d p) :
    ∃ l : List PV, l.length ≤ maxLen ∧ GSl PoolQ 12 W v l := by
  obtain ⟨fuel, hf⟩ := h
  obtain ⟨A, n, c, rfl⟩ := okWide_slice Tryz.underlying27 hv
  exact open_gslice (R := PoolQ) PV.zero (by omega) Tryz.underlying27 Tryz.c_pool (fun fuel cs x h => open_poolC h) (by simpa [Value.cells] using hf)
end
end Go.Proofs.YtmkpajjnjgnmkaaGreatDoor

namespace Go.Proofs.YtmkpajjnjgnmkaaGreatDoor
open Go.RowKit

def suitsV (n : NV) (t : TV) : Bool := canHost n t && resSubOk n.cap t.need
def shapeV (t : TV) (p : PV) : Bool := decide (0 < p.max) && suitsV p.shape t
def mayV (c : CV) (l : List PV) (t : TV) : Bool := c.nodes.any (fun n => suitsV n t) || l.any (shapeV t)
def mayG (c : CV) (l : List PV) (z : Int) : Bool := match fstBy TV.id c.tasks z with
  | some t => clusterOk c && poolsOk l && mayV c l t
  | none => false
set_option maxHeartbeats 1600000 in
theorem suits_any (n : NV) (t : TV) (ns ts : List Value) (B : Nat) (w : World) (x : Addr) (hg : ErrAt x w) (hb : BlockIs w B 88 ts.toArray) (hn : NodeR w n ns) (ht : TaskR w t ts) :
    Calls Tryz.prog 122 #[.agg ns.toArray, .pointer (some ⟨B, 0, none⟩)] w fun e w' => e = .returned (.bool (suitsV n t)) ∧ Below w.heap.size w w' := by
  obtain ⟨u1, u2, rfl, k1, k2, m1, m2⟩ := hn
  obtain ⟨v1, v2, rfl, h1, h2, l1, l2⟩ := ht
  have hch := fun w1 hg1 (hw1 : Below w.heap.size w w1) => CanHost_any n t u1 u2 v1 v2 w1 x hg1 (k1.below hw1) (k2.below hw1) (h1.below hw1) (h2.below hw1) m1 m2 l1 l2
  have hrf := fun w1 hg1 => ResFits_any t.need n.cap w1 x hg1
  have hE : suitsV n t = (canHost n t && resSubOk n.cap t.need) := rfl
  obtain ⟨A1, c1, rfl, _⟩ := k1.form
  obtain ⟨A2, c2, rfl, _⟩ := k2.form
  obtain ⟨B1, d1, rfl, _⟩ := h1.form
  obtain ⟨B2, d2, rfl, _⟩ := h2.form
  generalize canHost n t = b at hch hE
  generalize resSubOk n.cap t.need = f at hrf hE
  generalize suitsV n t = r at hE ⊢
  have HE := Lib.hid hE
  have HCH := Lib.hid hch
  have HRF := Lib.hid hrf
  have HG := Lib.hid hg
  have HB := Lib.hid hb
  have t0 := hb.cell 0
  have t1 := hb.cell 1
  have t2 := hb.cell 2
  have t3 := hb.cell 3
  have t4 := hb.cell 4
  have t5 := hb.cell 5
  have t6 := hb.cell 6
  have tl := hb.lt
  simp at t0 t1 t2 t3 t4 t5 t6
  clear k1 k2 h1 h2 hE hg hb hch hrf m1 m2 l1 l2
  go_enter Tryz.func122, Tryz.ntmps122
  go_wp2_with fail
  have hX : Below w.heap.size w (w.alloc (.cells #[.int .i64 n.id, .int .i64 n.pool, .int .i64 n.cap.c, .int .i64 n.cap.m, .int .i64 n.cap.p, .slice A1 n.labs.length c1, .slice A2 n.taints.length c2, .bool n.cordon] 83)) := (by repeat' (first | exact Below.refl _ _ | refine Below.alloc ?_ ?_ _ | refine Below.setCell ?_ ?_ _ | refine Below.drew ?_ | (apply below_step; assumption) | (simp; done) | (simp; omega) | omega))
  refine (HCH.out _ (HG.out.below hX (Nat.le_refl _)) hX).mono ?_
  rintro e w2 ⟨rfl, hb2⟩
  have hC2 := below_of hX hb2
  have BN := (BlockIs.new w 83 #[.int .i64 n.id, .int .i64 n.pool, .int .i64 n.cap.c, .int .i64 n.cap.m, .int .i64 n.cap.p, .slice A1 n.labs.length c1, .slice A2 n.taints.length c2, .bool n.cordon]).below hb2 (by simp)
  have BT := HB.out.below hC2 HB.out.lt
  have n2 := BN.cell 2
  have n3 := BN.cell 3
  have n4 := BN.cell 4
  have nl := BN.lt
  simp at n2 n3 n4
  have t2 := BT.cell 2
  have t3 := BT.cell 3
  have t4 := BT.cell 4
  have tl := BT.lt
  simp at t2 t3 t4
  clear hb2 hX BN BT
  cases b
  · go_wp2_with fail
    go_ret
    exact ⟨by rw [HE.out]; rfl, hC2⟩
  · go_wp2_with fail
    refine (HRF.out _ (HG.out.below hC2 (Nat.le_refl _))).mono ?_
    rintro e w3 ⟨rfl, hb3⟩
    have hC3 := below_of hC2 hb3
    go_wp2_with fail
    go_ret
    exact ⟨by rw [HE.out]; rfl, hC3⟩
def SuitsAt (t : TV) (ts : List Value) (x : Addr) (B S : Nat) (w : World) : Prop := ErrAt x w ∧ BlockIs w B 88 ts.toArray ∧ TaskR w t ts ∧ BlockIs w S 125 #[.func (.func 122) #[] #[.pointer (some ⟨B, 0, none⟩)]]
theorem SuitsAt.below {t : TV} {ts : List Value} {x : Addr} {B S : Nat} {w w' : World} (h : SuitsAt t ts x B S w) (hb : Below w.heap.size w w') : SuitsAt t ts x B S w' :=
  ⟨h.1.below hb (Nat.le_refl _), h.2.1.below hb h.2.1.lt, TaskR.kept _ _ _ _ hb h.2.2.1, h.2.2.2.below hb h.2.2.2.lt⟩
set_option maxHeartbeats 1600000 in
theorem shape_any (p : PV) (t : TV) (ps ts : List Value) (B S : Nat) (w : World) (x : Addr) (hI : SuitsAt t ts x B S w) (hp : PoolR w p ps) :
    Calls Tryz.prog 127 #[.agg ps.toArray, .pointer (some ⟨S, 0, none⟩)] w fun e w' => e = .returned (.bool (shapeV t p)) ∧ Below w.heap.size w w' := by
  obtain ⟨u1, u2, rfl, k1, k2, m1, m2⟩ := hp
  have hsu := fun w1 (hw1 : Below w.heap.size w w1) => suits_any p.shape t [.int .i64 p.shape.id, .int .i64 p.shape.pool, .int .i64 p.shape.cap.c, .int .i64 p.shape.cap.m, .int .i64 p.shape.cap.p, u1, u2, .bool p.shape.cordon] ts B w1 x (hI.below hw1).1 (hI.below hw1).2.1 ⟨u1, u2, rfl, k1.below hw1, k2.below hw1, m1, m2⟩ (hI.below hw1).2.2.1
  have hE : shapeV t p = (decide (0 < p.max) && suitsV p.shape t) := rfl
  obtain ⟨A1, c1, rfl, _⟩ := k1.form
  obtain ⟨A2, c2, rfl, _⟩ := k2.form
  generalize suitsV p.shape t = b at hsu hE
  generalize shapeV t p = r at hE ⊢
  have HE := Lib.hid hE
  have HSU := Lib.hid hsu
  have s0 := hI.2.2.2.cell 0
  have sl := hI.2.2.2.lt
  simp at s0
  clear k1 k2 hE hI hsu m1 m2
  have hX : Below w.heap.size w (w.alloc (.cells #[.int .i64 p.id, .int .i64 p.min, .int .i64 p.max, .int .i64 p.prio, .int .i64 p.shape.id, .int .i64 p.shape.pool, .int .i64 p.shape.cap.c, .int .i64 p.shape.cap.m, .int .i64 p.shape.cap.p, .slice A1 p.shape.labs.length c1, .slice A2 p.shape.taints.length c2, .bool p.shape.cordon] 85)) := (by repeat' (first | exact Below.refl _ _ | refine Below.alloc ?_ ?_ _ | refine Below.setCell ?_ ?_ _ | refine Below.drew ?_ | (apply below_step; assumption) | (simp; done) | (simp; omega) | omega))
  have hcall := HSU.out _ hX
  generalize hmx : decide (0 < p.max) = mx at HE
  have hmx' : decide (p.max > 0) = mx := hmx
  have HMX := Lib.hid hmx
  cases mx
  · go_enter Tryz.func127, Tryz.ntmps127
    go_wp2_with fail
    go_ret
    exact ⟨by rw [HE.out]; rfl, (by repeat' (first | exact Below.refl _ _ | refine Below.alloc ?_ ?_ _ | refine Below.setCell ?_ ?_ _ | refine Below.drew ?_ | (apply below_step; assumption) | (simp; done) | (simp; omega) | omega))⟩
  · go_enter Tryz.func127, Tryz.ntmps127
    go_wp2_with fail
    refine hcall.mono ?_
    rintro e w2 ⟨rfl, hb2⟩
    go_wp2_with fail
    go_ret
    exact ⟨by rw [HE.out]; rfl, below_of hX hb2⟩
set_option maxHeartbeats 3200000 in
theorem mayHost_any (c : CV) (a0 a1 a2 v : Value) (l : List PV) (t : TV) (ts : List Value) (w0 w : World) (hw : Below w0.heap.size w0 w) (x : Addr) (hg : ErrAt x w) (hc : CluR w0 c a0 a1 a2) (hv : PoolSl w0 v l) (hl : l.length ≤ 1048576) (ht : TaskR w0 t ts) :
    Calls Tryz.prog 65 #[.agg #[a0, a1, a2], v, .agg ts.toArray] w fun e w' => e = .returned (.bool (mayV c l t)) ∧ Below w.heap.size w w' := by
  have hE : mayV c l t = (c.nodes.any (fun n => suitsV n t) || l.any (shapeV t)) := rfl
  have htr := fun w1 hw1 => TaskR.kept w0 w1 t ts hw1 ht
  obtain ⟨v1, v2, rfl, h1, h2, l1, l2⟩ := ht
  have hcn := fun (S : Nat) w1 (hw1 : Below w0.heap.size w0 w1) (hI : SuitsAt t [.int .i64 t.id, .int .i64 t.prio, .int .i64 t.need.c, .int .i64 t.need.m, .int .i64 t.need.p, v1, v2] x (w.heap.size + 1) S w1) => containsNode_by 122 #[.pointer (some ⟨w.heap.size + 1, 0, none⟩)] (fun n => suitsV n t) (SuitsAt t [.int .i64 t.id, .int .i64 t.prio, .int .i64 t.need.c, .int .i64 t.need.m, .int .i64 t.need.p, v1, v2] x (w.heap.size + 1) S) (enters_of Tryz.func122 (by kernel_rfl) rfl) (fun w n ns hI hn => suits_any n t ns _ _ w x hI.1 hI.2.1 hn hI.2.2.1) (fun _ _ hb h => h.below hb) a1 c.nodes w1 (hc.2.1.below hw1) hc.2.2.2.2.1 hI
  have hcp := fun (S : Nat) w1 (hw1 : Below w0.heap.size w0 w1) (hI : SuitsAt t [.int .i64 t.id, .int .i64 t.prio, .int .i64 t.need.c, .int .i64 t.need.m, .int .i64 t.need.p, v1, v2] x (w.heap.size + 1) S w1) => containsPool_by 127 #[.pointer (some ⟨S, 0, none⟩)] (shapeV t) (SuitsAt t [.int .i64 t.id, .int .i64 t.prio, .int .i64 t.need.c, .int .i64 t.need.m, .int .i64 t.need.p, v1, v2] x (w.heap.size + 1) S) (enters_of Tryz.func127 (by kernel_rfl) rfl) (fun w p ps hI hp => shape_any p t ps _ _ S w x hI hp) (fun _ _ hb h => h.below hb) v l w1 (hv.below hw1) hl hI
  obtain ⟨D0, e0, rfl, _⟩ := hc.1.form
  obtain ⟨D1, e1, rfl, _⟩ := hc.2.1.form
  obtain ⟨D2, e2, rfl, _⟩ := hc.2.2.1.form
  obtain ⟨P0, pc, rfl, _⟩ := hv.form
  obtain ⟨B1, d1, rfl, _⟩ := h1.form
  obtain ⟨B2, d2, rfl, _⟩ := h2.form
  generalize (c.nodes.any fun n => suitsV n t) = b1 at hcn hE
  generalize l.any (shapeV t) = b2 at hcp hE
  generalize mayV c l t = r at hE ⊢
  have hmf : ∀ (fn : Fn) (first cap : Array Value) (w : World), (Instr.makeFunc fn first cap).run Tryz.prog w = .ok (.func fn first cap) w := fun _ _ _ _ => rfl
  have HE := Lib.hid hE
  have HCN := Lib.hid hcn
  have HCP := Lib.hid hcp
  have HTR := Lib.hid htr
  have HW := Lib.hid hw
  have HG := Lib.hid hg
  clear hE hcn hcp htr hw hg hc hv h1 h2 l1 l2
  go_enter Tryz.func65, Tryz.ntmps65
  go_wp2_with fail
  have hX : Below w.heap.size w (((w.alloc (.cells #[.slice D0 c.tasks.length e0, .slice D1 c.nodes.length e1, .slice D2 c.binds.length e2] 35)).alloc (.cells #[.int .i64 t.id, .int .i64 t.prio, .int .i64 t.need.c, .int .i64 t.need.m, .int .i64 t.need.p, .slice B1 t.want.length d1, .slice B2 t.tols.length d2] 88)).alloc (.cells #[.func (.func 122) #[] #[.pointer (some ⟨w.heap.size + 1, 0, none⟩)]] 125)) := (by repeat' (first | exact Below.refl _ _ | refine Below.alloc ?_ ?_ _ | refine Below.setCell ?_ ?_ _ | refine Below.drew ?_ | (apply below_step; assumption) | (simp; done) | (simp; omega) | omega))
  have hI : SuitsAt t [.int .i64 t.id, .int .i64 t.prio, .int .i64 t.need.c, .int .i64 t.need.m, .int .i64 t.need.p, .slice B1 t.want.length d1, .slice B2 t.tols.length d2] x (w.heap.size + 1) (w.heap.size + 1 + 1) (((w.alloc (.cells #[.slice D0 c.tasks.length e0, .slice D1 c.nodes.length e1, .slice D2 c.binds.length e2] 35)).alloc (.cells #[.int .i64 t.id, .int .i64 t.prio, .int .i64 t.need.c, .int .i64 t.need.m, .int .i64 t.need.p, .slice B1 t.want.length d1, .slice B2 t.tols.length d2] 88)).alloc (.cells #[.func (.func 122) #[] #[.pointer (some ⟨w.heap.size + 1, 0, none⟩)]] 125)) :=
    ⟨HG.out.below hX (Nat.le_refl _), BlockIs.alloc (BlockIs.new' (by simp)) _, HTR.out _ (below_of HW.out hX), BlockIs.new' (by simp)⟩
  have HI := Lib.hid hI
  refine (HCN.out (w.heap.size + 1 + 1) _ (below_of HW.out hX) HI.out).mono ?_
  rintro e w2 ⟨rfl, hb2⟩
  have hC2 := below_of hX hb2
  have HI2 := Lib.hid (HI.out.below hb2)
  clear hb2 hI HI
  cases b1
  · go_wp2_with fail
    refine (HCP.out _ _ (below_of HW.out hC2) HI2.out).mono ?_
    rintro e w3 ⟨rfl, hb3⟩
    have hC3 := below_of hC2 hb3
    go_wp2_with fail
    go_ret
    exact ⟨by rw [HE.out]; rfl, hC3⟩
  · go_wp2_with fail
    go_ret
    exact ⟨by rw [HE.out]; rfl, hC2⟩
set_option maxHeartbeats 3200000 in
theorem MayHost_any (c : CV) (a0 a1 a2 v : Value) (l : List PV) (z : Int) (w : World) (x : Addr) (hg : ErrAt x w) (hc : CluR w c a0 a1 a2) (hv : PoolSl w v l) (hl : l.length ≤ 1048576) :
    Calls Tryz.prog 19 #[.agg #[a0, a1, a2], v, .int .i64 z] w fun e w' => e = .returned (.bool (mayG c l z)) ∧ Below w.heap.size w w' := by
  have hft := fun w1 hw1 => findTask_any c a0 a1 a2 z w w1 hw1 hc
  have hok := fun w1 hg1 hw1 => ClusterOk_any c a0 a1 a2 w1 x hg1 (hc.below hw1)
  have hpo := fun w1 hg1 hw1 => PoolsOk_any v l w1 x hg1 (hv.below hw1) hl
  have hmh := fun t ts w1 hw1 hg1 ht => mayHost_any c a0 a1 a2 v l t ts w w1 hw1 x hg1 hc hv hl ht
  have hE : mayG c l z = match fstBy TV.id c.tasks z with
    | some t => clusterOk c && poolsOk l && mayV c l t
    | none => false := rfl
  obtain ⟨D0, e0, rfl, _⟩ := hc.1.form
  obtain ⟨D1, e1, rfl, _⟩ := hc.2.1.form
  obtain ⟨D2, e2, rfl, _⟩ := hc.2.2.1.form
  obtain ⟨P0, pc, rfl, _⟩ := hv.form
  generalize fstBy TV.id c.tasks z = o1 at hft hE
  generalize clusterOk c = b1 at hok hE
  generalize poolsOk l = b2 at hpo hE
  generalize mayG c l z = r at hE ⊢
  have HE := Lib.hid hE
  have HFT := Lib.hid hft
  have HOK := Lib.hid hok
  have HPO := Lib.hid hpo
  have HMH := Lib.hid hmh
  have HG := Lib.hid hg
  clear hE hft hok hpo hmh hg hc hv
  go_enter Tryz.func19, Tryz.ntmps19
  go_wp2_with fail
  have hX : Below w.heap.size w (w.alloc (.cells #[.slice D0 c.tasks.length e0, .slice D1 c.nodes.length e1, .slice D2 c.binds.length e2] 35)) := (by repeat' (first | exact Below.refl _ _ | refine Below.alloc ?_ ?_ _ | refine Below.setCell ?_ ?_ _ | refine Below.drew ?_ | (apply below_step; assumption) | (simp; done) | (simp; omega) | omega))
  refine (HFT.out _ hX).mono ?_
  rintro e w2 ⟨ts, rfl, ht, hb2⟩
  have hC2 := below_of hX hb2
  have BC := (BlockIs.new w 35 #[.slice D0 c.tasks.length e0, .slice D1 c.nodes.length e1, .slice D2 c.binds.length e2]).below hb2 (by simp)
  have HBC := Lib.hid BC
  have HT := Lib.hid ht
  generalize hgt : o1.getD TV.zero = t at ht HT
  have HGT := Lib.hid hgt
  obtain ⟨v1, v2, rfl, h1, h2, l1, l2⟩ := ht
  obtain ⟨B1, d1, rfl, _⟩ := h1.form
  obtain ⟨B2, d2, rfl, _⟩ := h2.form
  clear h1 h2 l1 l2 hb2 BC hgt hX
  have hX3 : Below w2.heap.size w2 (w2.alloc (.cells #[.int .i64 t.id, .int .i64 t.prio, .int .i64 t.need.c, .int .i64 t.need.m, .int .i64 t.need.p, .slice B1 t.want.length d1, .slice B2 t.tols.length d2] 88)) := (by repeat' (first | exact Below.refl _ _ | refine Below.alloc ?_ ?_ _ | refine Below.setCell ?_ ?_ _ | refine Below.drew ?_ | (apply below_step; assumption) | (simp; done) | (simp; omega) | omega))
  have hC3 := below_of hC2 hX3
  cases o1 with
  | none =>
    go_wp2_with fail
    go_ret
    exact ⟨by rw [HE.out] <;> rfl, hC3⟩
  | some t' =>
    obtain rfl : t = t' := HGT.out.symm
    have BC := HBC.out.below hX3 HBC.out.lt
    have BT := BlockIs.new w2 88 #[.int .i64 t.id, .int .i64 t.prio, .int .i64 t.need.c, .int .i64 t.need.m, .int .i64 t.need.p, .slice B1 t.want.length d1, .slice B2 t.tols.length d2]
    have HBC3 := Lib.hid BC
    have HBT3 := Lib.hid BT
    have g0 := HBC.out.cell 0
    have g1 := HBC.out.cell 1
    have g2 := HBC.out.cell 2
    have cl := HBC.out.lt
    simp at g0 g1 g2
    clear BC BT HBC
    go_wp2_with fail
    refine (HOK.out _ (HG.out.below hC3 (Nat.le_refl _)) hC3).mono ?_
    rintro e w4 ⟨rfl, hb4⟩
    have hC4 := below_of hC3 hb4
    have HBC4 := Lib.hid (HBC3.out.below hb4 HBC3.out.lt)
    have HBT4 := Lib.hid (HBT3.out.below hb4 HBT3.out.lt)
    clear hb4 g0 g1 g2 HBC3 HBT3 hX3
    cases b1
    · go_wp2_with fail
      go_ret
      exact ⟨by rw [HE.out]; rfl, hC4⟩
    · go_wp2_with fail
      refine (HPO.out _ (HG.out.below hC4 (Nat.le_refl _)) hC4).mono ?_
      rintro e w5 ⟨rfl, hb5⟩
      have hC5 := below_of hC4 hb5
      have BC := HBC4.out.below hb5 HBC4.out.lt
      have BT := HBT4.out.below hb5 HBT4.out.lt
      have g0 := BC.cell 0
      have g1 := BC.cell 1
      have g2 := BC.cell 2
      have t0 := BT.cell 0
      have t1 := BT.cell 1
      have t2 := BT.cell 2
      have t3 := BT.cell 3
      have t4 := BT.cell 4
      have t5 := BT.cell 5
      have t6 := BT.cell 6
      have cl := BC.lt
      have tl := BT.lt
      simp at g0 g1 g2 t0 t1 t2 t3 t4 t5 t6
      clear BC BT hb5 HBC4 HBT4
      cases b2
      · go_wp2_with fail
        go_ret
        exact ⟨by rw [HE.out]; rfl, hC5⟩
      · go_wp2_with fail
        have hR : r = mayV c l t := by rw [HE.out]; rfl
        have HR := Lib.hid hR
        clear hR
        refine (HMH.out t _ _ hC5 (HG.out.below hC5 (Nat.le_refl _)) HT.out).mono ?_
        rintro e w6 ⟨rfl, hb6⟩
        have hC6 := below_of hC5 hb6
        go_wp2_with fail
        go_ret
        exact ⟨by rw [HR.out]; rfl, hC6⟩
end Go.Proofs.YtmkpajjnjgnmkaaGreatDoor

namespace Go.Proofs.YtmkpajjnjgnmkaaGreatDoor
open Go.RowKit

def suitsM (n : NV) (t : TV) : Bool := hosts n t && resSubOk n.cap t.need
def shapeM (t : TV) (p : PV) : Bool := decide (0 < p.max) && (hosts p.shape t && resSubOk p.shape.cap t.need)
def mayM (c : CV) (l : List PV) (z : Int) : Bool := match fstBy TV.id c.tasks z with
  | some t => c.nodes.any (fun n => suitsM n t) || l.any (shapeM t)
  | none => false
theorem any_congr' {α : Type} {p q : α → Bool} {l : List α} (h : ∀ x ∈ l, p x = q x) : l.any p = l.any q := by
  induction l with
  | nil => rfl
  | cons x r ih => simp only [List.any_cons, h x (List.mem_cons_self ..), ih (fun y hy => h y (List.mem_cons_of_mem _ hy))]
theorem poolsFrom_ok {p : Int} {l : List PV} (h : poolsFrom p l = true) : ∀ n ∈ l, n.ok = true := by
  induction l generalizing p with
  | nil => intro n hn; cases hn
  | cons x r ih =>
    simp only [poolsFrom, Bool.and_eq_true] at h
    intro n hn
    rcases List.mem_cons.1 hn with rfl | hn
    · exact h.1.1
    · exact ih h.2 n hn
theorem PV.ok_shape {p : PV} (h : p.ok = true) : p.shape.ok = true := by
  simp only [PV.ok, Bool.and_eq_true] at h
  exact h.1.1.1.2
theorem mayM_eq (c : CV) (l : List PV) (z : Int) : (clusterOk c && poolsOk l && mayM c l z) = mayG c l z := by
  unfold mayM mayG
  cases ht : fstBy TV.id c.tasks z with
  | none => simp
  | some t =>
    cases hc : clusterOk c with
    | false => rfl
    | true =>
      cases hl : poolsOk l with
      | false => rfl
      | true =>
        have ho := clusterOk_task hc ht
        have hn : ∀ n ∈ c.nodes, n.ok = true := by
          simp only [clusterOk, nodesOk, Bool.and_eq_true] at hc
          exact nodesFrom_ok hc.1.1.2.2
        have hp : ∀ p ∈ l, p.ok = true := by
          simp only [poolsOk, Bool.and_eq_true] at hl
          exact poolsFrom_ok hl.2
        simp only [Bool.true_and, mayV]
        rw [any_congr' (p := fun n => suitsM n t) (q := fun n => suitsV n t) (fun n h => by simp [suitsM, suitsV, canHost, hn n h, ho]), any_congr' (p := shapeM t) (q := shapeV t) (fun p h => by simp [shapeM, shapeV, suitsV, canHost, PV.ok_shape (hp p h), ho])]
theorem any_drop_hit {α : Type} {p : α → Bool} {x : α} {r : List α} (h : p x = true) : (x :: r).any p = true := by simp [h]
theorem any_drop_miss {α : Type} {p : α → Bool} {x : α} {r : List α} (h : p x = false) : (x :: r).any p = r.any p := by simp [h]
set_option maxHeartbeats 12800000 in
set_option maxRecDepth 20000 in
theorem l09May_any (c : CV) (a0 a1 a2 v : Value) (l : List PV) (z : Int) (w : World) (hc : CluR w c a0 a1 a2) (hv : PoolSl w v l) (hl : l.length ≤ 1048576) :
    Calls Tryz.prog 58 #[.agg #[a0, a1, a2], v, .int .i64 z] w fun e w' => e = .returned (.bool (mayM c l z)) ∧ Below w.heap.size w w' := by
  have hit := fun w1 hw1 => sTask_any c a0 a1 a2 z w w1 hw1 hc
  have hE : mayM c l z = match fstBy TV.id c.tasks z with
    | some t => c.nodes.any (fun n => suitsM n t) || l.any (shapeM t)
    | none => false := rfl
  obtain ⟨D0, D1, D2, e0, e1, e2, rfl, rfl, rfl, hF⟩ := hc.full
  obtain ⟨P0, pc, rfl, hP⟩ := hv.form
  generalize mayM c l z = r at hE ⊢
  have l0 := hF.l0
  have l1 := hF.l1
  have HF := Lib.hid hF
  have HP := Lib.hid hP
  have HE := Lib.hid hE
  generalize hjt : idxBy TV.id c.tasks z = jt at hit
  have HJT := Lib.hid hjt
  have HIT := Lib.hid hit
  clear hit hE hF hc hjt hv hP
  go_enter Tryz.func58, Tryz.ntmps58
  go_wp2_with fail
  have hX : Below w.heap.size w (w.alloc (.cells #[.slice D0 c.tasks.length e0, .slice D1 c.nodes.length e1, .slice D2 c.binds.length e2] 35)) := (by repeat' (first | exact Below.refl _ _ | refine Below.alloc ?_ ?_ _ | refine Below.setCell ?_ ?_ _ | refine Below.drew ?_ | (apply below_step; assumption) | (simp; done) | (simp; omega) | omega))
  refine (HIT.out _ hX).mono ?_
  rintro e w2 ⟨rfl, hb2⟩
  have hC2 := below_of hX hb2
  have BC := (BlockIs.new w 35 #[.slice D0 c.tasks.length e0, .slice D1 c.nodes.length e1, .slice D2 c.binds.length e2]).below hb2 (by simp)
  have g0 := BC.cell 0
  have g1 := BC.cell 1
  have g2 := BC.cell 2
  have cl := BC.lt
  simp at g0 g1 g2
  have HBC := Lib.hid BC
  clear hb2 BC hX
  cases hft : fstBy TV.id c.tasks z with
  | none =>
    obtain rfl : jt = -1 := by rw [← HJT.out]; exact idxBy_none hft
    have HR := Lib.hid (show r = false by rw [HE.out, hft])
    clear hft HJT
    go_wp2_with fail
    go_ret
    exact ⟨by rw [HR.out]; rfl, hC2⟩
  | some t =>
    obtain ⟨i, hi, hit', -, -⟩ := idxBy_some hft
    obtain rfl : jt = i := by rw [← HJT.out]; exact hi
    have HR := Lib.hid (show r = (c.nodes.any (fun n => suitsM n t) || l.any (shapeM t)) by rw [HE.out, hft])
    have hil : i < c.tasks.length := (List.getElem?_eq_some_iff.1 hit').1
    obtain ⟨bt, ot, rfl, hbt, hatt⟩ := HF.out.ht (by omega)
    obtain ⟨ts, hRt, hCt⟩ := (hatt.below TaskR.kept hC2 hbt) i t hit'
    have HTR := Lib.hid hRt
    obtain ⟨v1, v2, rfl, h1, h2, l1', l2'⟩ := hRt
    obtain ⟨B1, d1, rfl, _⟩ := h1.form
    obtain ⟨B2, d2, rfl, _⟩ := h2.form
    obtain ⟨p0, p1, p2, p3, p4, p5, p6⟩ := task_cells hCt
    have hni : decide ((i : Int) < 0) = false := by simp
    have hii : (i : Int) < (c.tasks.length : Int) := by omega
    have hi0 : (0 : Int) ≤ (i : Int) := by omega
    clear hft HJT hi hit' hatt hCt h1 h2 l1' l2' HE HIT
    go_upto_region 5 with fail
    have hX3 : Below w2.heap.size w2 (w2.alloc (.cells #[.int .i64 t.id, .int .i64 t.prio, .int .i64 t.need.c, .int .i64 t.need.m, .int .i64 t.need.p, .slice B1 t.want.length d1, .slice B2 t.tols.length d2] 88)) := (by repeat' (first | exact Below.refl _ _ | refine Below.alloc ?_ ?_ _ | refine Below.setCell ?_ ?_ _ | refine Below.drew ?_ | (apply below_step; assumption) | (simp; done) | (simp; omega) | omega))
    have hC3 := below_of hC2 hX3
    have BC := HBC.out.below hX3 HBC.out.lt
    have BT := BlockIs.new w2 88 #[.int .i64 t.id, .int .i64 t.prio, .int .i64 t.need.c, .int .i64 t.need.m, .int .i64 t.need.p, .slice B1 t.want.length d1, .slice B2 t.tols.length d2]
    generalize hg8 : w2.heap.size = g8 at BT ⊢
    generalize w2.alloc (.cells #[.int .i64 t.id, .int .i64 t.prio, .int .i64 t.need.c, .int .i64 t.need.m, .int .i64 t.need.p, .slice B1 t.want.length d1, .slice B2 t.tols.length d2] 88) = X at hX3 hC3 BC BT ⊢
    have HTX := Lib.hid (TaskR.kept _ _ _ _ (hX3.mono (Nat.le_refl _)) HTR.out)
    have HBC3 := Lib.hid BC
    have HBT3 := Lib.hid BT
    clear p0 p1 p2 p3 p4 p5 p6 g0 g1 g2 cl BC BT HBC HTR hX3 hg8
    go_wp2_with fail
    go_loopw [9] (fun s9 wr => ∃ k : Nat, k ≤ c.nodes.length ∧ s9 = .int .i64 k ∧ c.nodes.any (fun n => suitsM n t) = (c.nodes.drop k).any (fun n => suitsM n t) ∧ Below X.heap.size X wr) (fun s9 _ => (c.nodes.length - intOf s9).toNat)
    case atStart => exact ⟨0, by omega, rfl, by simp, Below.refl _ _⟩
    case round =>
      obtain ⟨k, hk, rfl, hidx, hB⟩ := hrel
      have HI := Lib.hid hidx
      have hCB := below_of hC3 hB
      have BC := HBC3.out.below hB HBC3.out.lt
      have BT := HBT3.out.below hB HBT3.out.lt
      have g1 := BC.cell 1
      simp at g1
      have cl := BC.lt
      have tl := BT.lt
      clear hidx
      by_cases hlt : k < c.nodes.length
      · obtain ⟨b, off, rfl, hbw, hat⟩ := HF.out.hn (by omega)
        obtain ⟨n, hn⟩ : ∃ n, c.nodes[k]? = some n := ⟨_, List.getElem?_eq_getElem hlt⟩
        obtain ⟨cs, hR, hC⟩ := (hat.below NodeR.kept hCB hbw) k n hn
        have HD := Lib.hid (drop_at hn)
        obtain ⟨u1, u2, rfl, k1, k2, m1, m2⟩ := hR
        obtain ⟨v1, v2, tse, h1, h2, l1', l2'⟩ := TaskR.kept _ _ _ _ hB HTX.out
        simp only [List.cons.injEq, and_true, true_and] at tse
        obtain ⟨rfl, rfl⟩ := tse
        have hho := fun w1 hw1 => sHosts_any n t u1 u2 (.slice B1 t.want.length d1) (.slice B2 t.tols.length d2) w1 (k1.below hw1) (k2.below hw1) (h1.below hw1) (h2.below hw1) m1 m2 l1' l2'
        have hft' := fun w1 => sResFits_any t.need n.cap w1
        obtain ⟨A1, c1, rfl, _⟩ := k1.form
        obtain ⟨A2, c2, rfl, _⟩ := k2.form
        obtain ⟨q0, q1, q2, q3, q4, q5, q6, q7⟩ := node_cells hC
        have hSM : suitsM n t = (hosts n t && resSubOk n.cap t.need) := rfl
        generalize hosts n t = ho at hho hSM
        generalize resSubOk n.cap t.need = fit at hft' hSM
        have HHO := Lib.hid hho
        have HFT := Lib.hid hft'
        have HSM := Lib.hid hSM
        have hji : (k : Int) < (c.nodes.length : Int) := by omega
        have hj0 : (0 : Int) ≤ (k : Int) := by omega
        have HK := Lib.hid (show ∀ w', Below wr.heap.size wr w' → (fun w' => Below wr.heap.size wr w' ∧ (∀ o, w'.cell? ⟨w.heap.size, o, none⟩ = (#[.slice (some ⟨bt, ot, none⟩) c.tasks.length e0, .slice (some ⟨b, off, none⟩) c.nodes.length e1, .slice D2 c.binds.length e2] : Array Value)[o]?) ∧ (∀ o, w'.cell? ⟨g8, o, none⟩ = (#[.int .i64 t.id, .int .i64 t.prio, .int .i64 t.need.c, .int .i64 t.need.m, .int .i64 t.need.p, .slice B1 t.want.length d1, .slice B2 t.tols.length d2] : Array Value)[o]?) ∧ w'.cell? ⟨b, off + k * 8, none⟩ = some (.int .i64 n.id) ∧ w'.cell? ⟨b, off + k * 8 + 1, none⟩ = some (.int .i64 n.pool) ∧ w'.cell? ⟨b, off + k * 8 + 2, none⟩ = some (.int .i64 n.cap.c) ∧ w'.cell? ⟨b, off + k * 8 + 3, none⟩ = some (.int .i64 n.cap.m) ∧ w'.cell? ⟨b, off + k * 8 + 4, none⟩ = some (.int .i64 n.cap.p) ∧ w'.cell? ⟨b, off + k * 8 + 5, none⟩ = some (.slice A1 n.labs.length c1) ∧ w'.cell? ⟨b, off + k * 8 + 6, none⟩ = some (.slice A2 n.taints.length c2) ∧ w'.cell? ⟨b, off + k * 8 + 7, none⟩ = some (.bool n.cordon)) w' from
          fun w' hb => ⟨hb, fun o => (hb.cell (p := ⟨_, _, none⟩) cl).trans (BC.cell o), fun o => (hb.cell (p := ⟨_, _, none⟩) tl).trans (BT.cell o), cellK hb q0, cellK hb q1, cellK hb q2, cellK hb q3, cellK hb q4, cellK hb q5, cellK hb q6, cellK hb q7⟩)
        clear hat hC hn k1 k2 m1 m2 h1 h2 l1' l2' hho hft' hSM BC BT q0 q1 q2 q3 q4 q5 q6 q7
        cases ho
        · go_wp2_with fail
          refine wp_region_held_drew (S := (fun w' => Below wr.heap.size wr w' ∧ (∀ o, w'.cell? ⟨w.heap.size, o, none⟩ = (#[.slice (some ⟨bt, ot, none⟩) c.tasks.length e0, .slice (some ⟨b, off, none⟩) c.nodes.length e1, .slice D2 c.binds.length e2] : Array Value)[o]?) ∧ (∀ o, w'.cell? ⟨g8, o, none⟩ = (#[.int .i64 t.id, .int .i64 t.prio, .int .i64 t.need.c, .int .i64 t.need.m, .int .i64 t.need.p, .slice B1 t.want.length d1, .slice B2 t.tols.length d2] : Array Value)[o]?) ∧ w'.cell? ⟨b, off + k * 8, none⟩ = some (.int .i64 n.id) ∧ w'.cell? ⟨b, off + k * 8 + 1, none⟩ = some (.int .i64 n.pool) ∧ w'.cell? ⟨b, off + k * 8 + 2, none⟩ = some (.int .i64 n.cap.c) ∧ w'.cell? ⟨b, off + k * 8 + 3, none⟩ = some (.int .i64 n.cap.m) ∧ w'.cell? ⟨b, off + k * 8 + 4, none⟩ = some (.int .i64 n.cap.p) ∧ w'.cell? ⟨b, off + k * 8 + 5, none⟩ = some (.slice A1 n.labs.length c1) ∧ w'.cell? ⟨b, off + k * 8 + 6, none⟩ = some (.slice A2 n.taints.length c2) ∧ w'.cell? ⟨b, off + k * 8 + 7, none⟩ = some (.bool n.cordon))) (by kernel_rfl) (by (try dsimp only); exact HK.out _ (by repeat' (first | exact Below.refl _ _ | refine Below.alloc ?_ ?_ _ | refine Below.setCell ?_ ?_ _ | refine Below.drew ?_ | (apply below_step; assumption) | (simp; done) | (simp; omega) | omega))) (fun hHeld => ?_)
          refine hT 0 ?_; simp only [Act.put, rhA, rhS, rhT]
          refine hT 1 ?_; simp only [Act.put, rhA, rhS, rhT]
          refine hT 2 ?_; simp only [Act.put, rhA, rhS, rhT]
          refine hT 3 ?_; simp only [Act.put, rhA, rhS, rhT]
          refine hT 4 ?_; simp only [Act.put, rhA, rhS, rhT]
          refine hT 5 ?_; simp only [Act.put, rhA, rhS, rhT]
          refine hCall (i := 6) (o := ?a8) ?b8 (by kernel_rfl) ?c8 (fun K hK => ?d8)
          case b8 => simp only [rhN, rhM]; try rfl
          case c8 => rfl
          go_simp
          refine (HHO.out _ (by repeat' (first | exact Below.refl _ _ | refine Below.alloc ?_ ?_ _ | refine Below.setCell ?_ ?_ _ | refine Below.drew ?_ | (apply below_step; assumption) | (simp; done) | (simp; omega) | omega))).mono ?_
          rintro e w4 ⟨rfl, hb4⟩
          have hz4 := hb4.size
          (try simp at hz4)
          go_wp2_with fail
          refine hK.out _ _ (by (try dsimp only); exact HK.out _ (by repeat' (first | exact Below.refl _ _ | refine Below.alloc ?_ ?_ _ | refine Below.setCell ?_ ?_ _ | refine Below.drew ?_ | (apply below_step; assumption) | (simp; done) | (simp; omega) | omega))) (fun hHeld => ?_)
          clear hK K
          try simp only [Act.put, rhA, rhS, rhT]
          refine hT 7 ?_; simp only [Act.put, rhA, rhS, rhT]
          refine hP 8 ?_; simp only [Act.put, rhA, rhS, rhT]
          refine hP 9 ?_; simp only [Act.put, rhA, rhS, rhT]
          refine hP 10 ?_; simp only [Act.put, rhA, rhS, rhT]
          refine hP 11 ?_; simp only [Act.put, rhA, rhS, rhT]
          refine hP 12 ?_; simp only [Act.put, rhA, rhS, rhT]
          refine hP 13 ?_; simp only [Act.put, rhA, rhS, rhT]
          refine hP 14 ?_; simp only [Act.put, rhA, rhS, rhT]
          refine hP 15 ?_; simp only [Act.put, rhA, rhS, rhT]
          refine hP 16 ?_; simp only [Act.put, rhA, rhS, rhT]
          refine hT 17 ?_; simp only [Act.put, rhA, rhS, rhT]
          refine wpAnyH_done (by kernel_rfl) ?_ _
          go_wp2_with fail
          go_roundw
          case rel => exact ⟨k + 1, by omega, by go_num, by rw [HI.out, HD.out, any_drop_miss (by rw [HSM.out]; rfl)], below_of hB (by repeat' (first | exact Below.refl _ _ | refine Below.alloc ?_ ?_ _ | refine Below.setCell ?_ ?_ _ | refine Below.drew ?_ | (apply below_step; assumption) | (simp; done) | (simp; omega) | omega))⟩
          case measure => simp [intOf]; omega
        · go_wp2_with fail
          refine wp_region_held_drew (S := (fun w' => Below wr.heap.size wr w' ∧ (∀ o, w'.cell? ⟨w.heap.size, o, none⟩ = (#[.slice (some ⟨bt, ot, none⟩) c.tasks.length e0, .slice (some ⟨b, off, none⟩) c.nodes.length e1, .slice D2 c.binds.length e2] : Array Value)[o]?) ∧ (∀ o, w'.cell? ⟨g8, o, none⟩ = (#[.int .i64 t.id, .int .i64 t.prio, .int .i64 t.need.c, .int .i64 t.need.m, .int .i64 t.need.p, .slice B1 t.want.length d1, .slice B2 t.tols.length d2] : Array Value)[o]?) ∧ w'.cell? ⟨b, off + k * 8, none⟩ = some (.int .i64 n.id) ∧ w'.cell? ⟨b, off + k * 8 + 1, none⟩ = some (.int .i64 n.pool) ∧ w'.cell? ⟨b, off + k * 8 + 2, none⟩ = some (.int .i64 n.cap.c) ∧ w'.cell? ⟨b, off + k * 8 + 3, none⟩ = some (.int .i64 n.cap.m) ∧ w'.cell? ⟨b, off + k * 8 + 4, none⟩ = some (.int .i64 n.cap.p) ∧ w'.cell? ⟨b, off + k * 8 + 5, none⟩ = some (.slice A1 n.labs.length c1) ∧ w'.cell? ⟨b, off + k * 8 + 6, none⟩ = some (.slice A2 n.taints.length c2) ∧ w'.cell? ⟨b, off + k * 8 + 7, none⟩ = some (.bool n.cordon))) (by kernel_rfl) (by (try dsimp only); exact HK.out _ (by repeat' (first | exact Below.refl _ _ | refine Below.alloc ?_ ?_ _ | refine Below.setCell ?_ ?_ _ | refine Below.drew ?_ | (apply below_step; assumption) | (simp; done) | (simp; omega) | omega))) (fun hHeld => ?_)
          refine hT 0 ?_; simp only [Act.put, rhA, rhS, rhT]
          refine hT 1 ?_; simp only [Act.put, rhA, rhS, rhT]
          refine hT 2 ?_; simp only [Act.put, rhA, rhS, rhT]
          refine hT 3 ?_; simp only [Act.put, rhA, rhS, rhT]
          refine hT 4 ?_; simp only [Act.put, rhA, rhS, rhT]
          refine hT 5 ?_; simp only [Act.put, rhA, rhS, rhT]
          refine hCall (i := 6) (o := ?a30) ?b30 (by kernel_rfl) ?c30 (fun K hK => ?d30)
          case b30 => simp only [rhN, rhM]; try rfl
          case c30 => rfl
          go_simp
          refine (HHO.out _ (by repeat' (first | exact Below.refl _ _ | refine Below.alloc ?_ ?_ _ | refine Below.setCell ?_ ?_ _ | refine Below.drew ?_ | (apply below_step; assumption) | (simp; done) | (simp; omega) | omega))).mono ?_
          rintro e w4 ⟨rfl, hb4⟩
          have hz4 := hb4.size
          (try simp at hz4)
          go_wp2_with fail
          refine hK.out _ _ (by (try dsimp only); exact HK.out _ (by repeat' (first | exact Below.refl _ _ | refine Below.alloc ?_ ?_ _ | refine Below.setCell ?_ ?_ _ | refine Below.drew ?_ | (apply below_step; assumption) | (simp; done) | (simp; omega) | omega))) (fun hHeld => ?_)
          clear hK K
          try simp only [Act.put, rhA, rhS, rhT]
          refine hT 7 ?_; simp only [Act.put, rhA, rhS, rhT]
          refine hT 8 ?_; simp only [Act.put, rhA, rhS, rhT]
          refine hT 9 ?_; simp only [Act.put, rhA, rhS, rhT]
          refine hT 10 ?_; simp only [Act.put, rhA, rhS, rhT]
          refine hT 11 ?_; simp only [Act.put, rhA, rhS, rhT]
          refine hT 12 ?_; simp only [Act.put, rhA, rhS, rhT]
          refine hT 13 ?_; simp only [Act.put, rhA, rhS, rhT]
          refine hT 14 ?_; simp only [Act.put, rhA, rhS, rhT]
          refine hT 15 ?_; simp only [Act.put, rhA, rhS, rhT]
          refine hCall (i := 16) (o := ?a42) ?b42 (by kernel_rfl) ?c42 (fun K hK => ?d42)
          case b42 => simp only [rhN, rhM]; try rfl
          case c42 => rfl
          go_simp
          refine (HFT.out _).mono ?_
          rintro e w5 ⟨rfl, hb5⟩
          have hz5 := hb5.size
          (try simp at hz5)
          go_wp2_with fail
          refine hK.out _ _ (by (try dsimp only); exact HK.out _ (by repeat' (first | exact Below.refl _ _ | refine Below.alloc ?_ ?_ _ | refine Below.setCell ?_ ?_ _ | refine Below.drew ?_ | (apply below_step; assumption) | (simp; done) | (simp; omega) | omega))) (fun hHeld => ?_)
          clear hK K
          try simp only [Act.put, rhA, rhS, rhT]
          refine hT 17 ?_; simp only [Act.put, rhA, rhS, rhT]
          refine wpAnyH_done (by kernel_rfl) ?_ _
          cases fit
          · go_wp2_with fail
            go_roundw
            case rel => exact ⟨k + 1, by omega, by go_num, by rw [HI.out, HD.out, any_drop_miss (by rw [HSM.out]; rfl)], below_of hB (by repeat' (first | exact Below.refl _ _ | refine Below.alloc ?_ ?_ _ | refine Below.setCell ?_ ?_ _ | refine Below.drew ?_ | (apply below_step; assumption) | (simp; done) | (simp; omega) | omega))⟩
            case measure => simp [intOf]; omega
          · go_wp2_with fail
            go_ret
            exact ⟨by rw [HR.out, HI.out, HD.out, any_drop_hit (by rw [HSM.out]; rfl)]; rfl, below_of hCB (by repeat' (first | exact Below.refl _ _ | refine Below.alloc ?_ ?_ _ | refine Below.setCell ?_ ?_ _ | refine Below.drew ?_ | (apply below_step; assumption) | (simp; done) | (simp; omega) | omega))⟩
      · have hkl : k = c.nodes.length := by omega
        have HN := Lib.hid (show c.nodes.any (fun n => suitsM n t) = false by rw [HI.out, hkl, List.drop_length]; rfl)
        have HBT4 := Lib.hid BT
        have HBC4 := Lib.hid BC
        have HT4 := Lib.hid (TaskR.kept _ _ _ _ hB HTX.out)
        clear hkl BC BT HI
        go_wp2_with fail
        generalize wr = Y at *
        go_loopw [10] (fun s10 wr => ∃ k : Nat, k ≤ l.length ∧ s10 = .int .i64 k ∧ l.any (shapeM t) = (l.drop k).any (shapeM t) ∧ Below Y.heap.size Y wr) (fun s10 _ => (l.length - intOf s10).toNat)
        case atStart => exact ⟨0, by omega, rfl, by simp, Below.refl _ _⟩
        case round =>
          obtain ⟨k, hk, rfl, hidx, hB⟩ := hrel
          have HI := Lib.hid hidx
          have hCB := below_of hCB hB
          have BC := HBC4.out.below hB HBC4.out.lt
          have BT := HBT4.out.below hB HBT4.out.lt
          have cl := BC.lt
          have tl := BT.lt
          clear hidx
          by_cases hlt : k < l.length
          · obtain ⟨b, off, rfl, hbw, hat⟩ := HP.out (by omega)
            obtain ⟨p, hp⟩ : ∃ p, l[k]? = some p := ⟨_, List.getElem?_eq_getElem hlt⟩
            obtain ⟨cs, hR, hC⟩ := (hat.below PoolR.kept hCB hbw) k p hp
            have HD := Lib.hid (drop_at hp)
            obtain ⟨u1, u2, rfl, k1, k2, m1, m2⟩ := hR
            obtain ⟨v1, v2, tse, h1, h2, l1', l2'⟩ := TaskR.kept _ _ _ _ hB HT4.out
            simp only [List.cons.injEq, and_true, true_and] at tse
            obtain ⟨rfl, rfl⟩ := tse
            have hho := fun w1 hw1 => sHosts_any p.shape t u1 u2 (.slice B1 t.want.length d1) (.slice B2 t.tols.length d2) w1 (k1.below hw1) (k2.below hw1) (h1.below hw1) (h2.below hw1) m1 m2 l1' l2'
            have hft' := fun w1 => sResFits_any t.need p.shape.cap w1
            obtain ⟨A1, c1, rfl, _⟩ := k1.form
            obtain ⟨A2, c2, rfl, _⟩ := k2.form
            obtain ⟨q0, q1, q2, q3, q4, q5, q6, q7, q8, q9, q10, q11⟩ := pool_cells hC
            have hSM : shapeM t p = (decide (0 < p.max) && (hosts p.shape t && resSubOk p.shape.cap t.need)) := rfl
            generalize hosts p.shape t = ho at hho hSM
            generalize resSubOk p.shape.cap t.need = fit at hft' hSM
            generalize hmx : decide (0 < p.max) = mx at hSM
            have hmx' : decide (p.max > 0) = mx := hmx
            have HHO := Lib.hid hho
            have HFT := Lib.hid hft'
            have HSM := Lib.hid hSM
            have hji : (k : Int) < (l.length : Int) := by omega
            have hj0 : (0 : Int) ≤ (k : Int) := by omega
            have HK := Lib.hid (show ∀ w', Below wr.heap.size wr w' → (fun w' => Below wr.heap.size wr w' ∧ (∀ o, w'.cell? ⟨w.heap.size, o, none⟩ = (#[.slice (some ⟨bt, ot, none⟩) c.tasks.length e0, .slice D1 c.nodes.length e1, .slice D2 c.binds.length e2] : Array Value)[o]?) ∧ (∀ o, w'.cell? ⟨g8, o, none⟩ = (#[.int .i64 t.id, .int .i64 t.prio, .int .i64 t.need.c, .int .i64 t.need.m, .int .i64 t.need.p, .slice B1 t.want.length d1, .slice B2 t.tols.length d2] : Array Value)[o]?) ∧ w'.cell? ⟨b, off + k * 12, none⟩ = some (.int .i64 p.id) ∧ w'.cell? ⟨b, off + k * 12 + 1, none⟩ = some (.int .i64 p.min) ∧ w'.cell? ⟨b, off + k * 12 + 2, none⟩ = some (.int .i64 p.max) ∧ w'.cell? ⟨b, off + k * 12 + 3, none⟩ = some (.int .i64 p.prio) ∧ w'.cell? ⟨b, off + k * 12 + 4, none⟩ = some (.int .i64 p.shape.id) ∧ w'.cell? ⟨b, off + k * 12 + 5, none⟩ = some (.int .i64 p.shape.pool) ∧ w'.cell? ⟨b, off + k * 12 + 6, none⟩ = some (.int .i64 p.shape.cap.c) ∧ w'.cell? ⟨b, off + k * 12 + 7, none⟩ = some (.int .i64 p.shape.cap.m) ∧ w'.cell? ⟨b, off + k * 12 + 8, none⟩ = some (.int .i64 p.shape.cap.p) ∧ w'.cell? ⟨b, off + k * 12 + 9, none⟩ = some (.slice A1 p.shape.labs.length c1) ∧ w'.cell? ⟨b, off + k * 12 + 10, none⟩ = some (.slice A2 p.shape.taints.length c2) ∧ w'.cell? ⟨b, off + k * 12 + 11, none⟩ = some (.bool p.shape.cordon)) w' from
              fun w' hb => ⟨hb, fun o => (hb.cell (p := ⟨_, _, none⟩) cl).trans (BC.cell o), fun o => (hb.cell (p := ⟨_, _, none⟩) tl).trans (BT.cell o), cellK hb q0, cellK hb q1, cellK hb q2, cellK hb q3, cellK hb q4, cellK hb q5, cellK hb q6, cellK hb q7, cellK hb q8, cellK hb q9, cellK hb q10, cellK hb q11⟩)
            clear hat hC hp k1 k2 m1 m2 h1 h2 l1' l2' hho hft' hSM BC BT q0 q1 q2 q3 q4 q5 q6 q7 q8 q9 q10 q11
            cases mx
            · go_wp2_with fail
              refine wp_region_held_drew (S := (fun w' => Below wr.heap.size wr w' ∧ (∀ o, w'.cell? ⟨w.heap.size, o, none⟩ = (#[.slice (some ⟨bt, ot, none⟩) c.tasks.length e0, .slice D1 c.nodes.length e1, .slice D2 c.binds.length e2] : Array Value)[o]?) ∧ (∀ o, w'.cell? ⟨g8, o, none⟩ = (#[.int .i64 t.id, .int .i64 t.prio, .int .i64 t.need.c, .int .i64 t.need.m, .int .i64 t.need.p, .slice B1 t.want.length d1, .slice B2 t.tols.length d2] : Array Value)[o]?) ∧ w'.cell? ⟨b, off + k * 12, none⟩ = some (.int .i64 p.id) ∧ w'.cell? ⟨b, off + k * 12 + 1, none⟩ = some (.int .i64 p.min) ∧ w'.cell? ⟨b, off + k * 12 + 2, none⟩ = some (.int .i64 p.max) ∧ w'.cell? ⟨b, off + k * 12 + 3, none⟩ = some (.int .i64 p.prio) ∧ w'.cell? ⟨b, off + k * 12 + 4, none⟩ = some (.int .i64 p.shape.id) ∧ w'.cell? ⟨b, off + k * 12 + 5, none⟩ = some (.int .i64 p.shape.pool) ∧ w'.cell? ⟨b, off + k * 12 + 6, none⟩ = some (.int .i64 p.shape.cap.c) ∧ w'.cell? ⟨b, off + k * 12 + 7, none⟩ = some (.int .i64 p.shape.cap.m) ∧ w'.cell? ⟨b, off + k * 12 + 8, none⟩ = some (.int .i64 p.shape.cap.p) ∧ w'.cell? ⟨b, off + k * 12 + 9, none⟩ = some (.slice A1 p.shape.labs.length c1) ∧ w'.cell? ⟨b, off + k * 12 + 10, none⟩ = some (.slice A2 p.shape.taints.length c2) ∧ w'.cell? ⟨b, off + k * 12 + 11, none⟩ = some (.bool p.shape.cordon))) (by kernel_rfl) (by (try dsimp only); exact HK.out _ (by repeat' (first | exact Below.refl _ _ | refine Below.alloc ?_ ?_ _ | refine Below.setCell ?_ ?_ _ | refine Below.drew ?_ | (apply below_step; assumption) | (simp; done) | (simp; omega) | omega))) (fun hHeld => ?_)
              refine hT 0 ?_; simp only [Act.put, rhA, rhS, rhT]
              refine hT 1 ?_; simp only [Act.put, rhA, rhS, rhT]
              refine hT 2 ?_; simp only [Act.put, rhA, rhS, rhT]
              refine hT 3 ?_; simp only [Act.put, rhA, rhS, rhT]
              refine hT 4 ?_; simp only [Act.put, rhA, rhS, rhT]
              refine hT 5 ?_; simp only [Act.put, rhA, rhS, rhT]
              refine hT 6 ?_; simp only [Act.put, rhA, rhS, rhT]
              refine hP 7 ?_; simp only [Act.put, rhA, rhS, rhT]
              refine hP 8 ?_; simp only [Act.put, rhA, rhS, rhT]
              refine hP 9 ?_; simp only [Act.put, rhA, rhS, rhT]
              refine hP 10 ?_; simp only [Act.put, rhA, rhS, rhT]
              refine hP 11 ?_; simp only [Act.put, rhA, rhS, rhT]
              refine hP 12 ?_; simp only [Act.put, rhA, rhS, rhT]
              refine hP 13 ?_; simp only [Act.put, rhA, rhS, rhT]
              refine hT 14 ?_; simp only [Act.put, rhA, rhS, rhT]
              refine hT 15 ?_; simp only [Act.put, rhA, rhS, rhT]
              refine hP 16 ?_; simp only [Act.put, rhA, rhS, rhT]
              refine hP 17 ?_; simp only [Act.put, rhA, rhS, rhT]
              refine hP 18 ?_; simp only [Act.put, rhA, rhS, rhT]
              refine hP 19 ?_; simp only [Act.put, rhA, rhS, rhT]
              refine hP 20 ?_; simp only [Act.put, rhA, rhS, rhT]
              refine hP 21 ?_; simp only [Act.put, rhA, rhS, rhT]
              refine hP 22 ?_; simp only [Act.put, rhA, rhS, rhT]
              refine hP 23 ?_; simp only [Act.put, rhA, rhS, rhT]
              refine hP 24 ?_; simp only [Act.put, rhA, rhS, rhT]
              refine hT 25 ?_; simp only [Act.put, rhA, rhS, rhT]
              refine wpAnyH_done (by kernel_rfl) ?_ _
              go_wp2_with fail
              go_roundw
              case rel => exact ⟨k + 1, by omega, by go_num, by rw [HI.out, HD.out, any_drop_miss (by rw [HSM.out]; rfl)], below_of hB (by repeat' (first | exact Below.refl _ _ | refine Below.alloc ?_ ?_ _ | refine Below.setCell ?_ ?_ _ | refine Below.drew ?_ | (apply below_step; assumption) | (simp; done) | (simp; omega) | omega))⟩
              case measure => simp [intOf]; omega
            · cases ho
              · go_wp2_with fail
                refine wp_region_held_drew (S := (fun w' => Below wr.heap.size wr w' ∧ (∀ o, w'.cell? ⟨w.heap.size, o, none⟩ = (#[.slice (some ⟨bt, ot, none⟩) c.tasks.length e0, .slice D1 c.nodes.length e1, .slice D2 c.binds.length e2] : Array Value)[o]?) ∧ (∀ o, w'.cell? ⟨g8, o, none⟩ = (#[.int .i64 t.id, .int .i64 t.prio, .int .i64 t.need.c, .int .i64 t.need.m, .int .i64 t.need.p, .slice B1 t.want.length d1, .slice B2 t.tols.length d2] : Array Value)[o]?) ∧ w'.cell? ⟨b, off + k * 12, none⟩ = some (.int .i64 p.id) ∧ w'.cell? ⟨b, off + k * 12 + 1, none⟩ = some (.int .i64 p.min) ∧ w'.cell? ⟨b, off + k * 12 + 2, none⟩ = some (.int .i64 p.max) ∧ w'.cell? ⟨b, off + k * 12 + 3, none⟩ = some (.int .i64 p.prio) ∧ w'.cell? ⟨b, off + k * 12 + 4, none⟩ = some (.int .i64 p.shape.id) ∧ w'.cell? ⟨b, off + k * 12 + 5, none⟩ = some (.int .i64 p.shape.pool) ∧ w'.cell? ⟨b, off + k * 12 + 6, none⟩ = some (.int .i64 p.shape.cap.c) ∧ w'.cell? ⟨b, off + k * 12 + 7, none⟩ = some (.int .i64 p.shape.cap.m) ∧ w'.cell? ⟨b, off + k * 12 + 8, none⟩ = some (.int .i64 p.shape.cap.p) ∧ w'.cell? ⟨b, off + k * 12 + 9, none⟩ = some (.slice A1 p.shape.labs.length c1) ∧ w'.cell? ⟨b, off + k * 12 + 10, none⟩ = some (.slice A2 p.shape.taints.length c2) ∧ w'.cell? ⟨b, off + k * 12 + 11, none⟩ = some (.bool p.shape.cordon))) (by kernel_rfl) (by (try dsimp only); exact HK.out _ (by repeat' (first | exact Below.refl _ _ | refine Below.alloc ?_ ?_ _ | refine Below.setCell ?_ ?_ _ | refine Below.drew ?_ | (apply below_step; assumption) | (simp; done) | (simp; omega) | omega))) (fun hHeld => ?_)
                refine hT 0 ?_; simp only [Act.put, rhA, rhS, rhT]
                refine hT 1 ?_; simp only [Act.put, rhA, rhS, rhT]
                refine hT 2 ?_; simp only [Act.put, rhA, rhS, rhT]
                refine hT 3 ?_; simp only [Act.put, rhA, rhS, rhT]
                refine hT 4 ?_; simp only [Act.put, rhA, rhS, rhT]
                refine hT 5 ?_; simp only [Act.put, rhA, rhS, rhT]
                refine hT 6 ?_; simp only [Act.put, rhA, rhS, rhT]
                refine hT 7 ?_; simp only [Act.put, rhA, rhS, rhT]
                refine hT 8 ?_; simp only [Act.put, rhA, rhS, rhT]
                refine hT 9 ?_; simp only [Act.put, rhA, rhS, rhT]
                refine hT 10 ?_; simp only [Act.put, rhA, rhS, rhT]
                refine hT 11 ?_; simp only [Act.put, rhA, rhS, rhT]
                refine hT 12 ?_; simp only [Act.put, rhA, rhS, rhT]
                refine hCall (i := 13) (o := ?a91) ?b91 (by kernel_rfl) ?c91 (fun K hK => ?d91)
                case b91 => simp only [rhN, rhM]; try rfl
                case c91 => rfl
                go_simp
                refine (HHO.out _ (by repeat' (first | exact Below.refl _ _ | refine Below.alloc ?_ ?_ _ | refine Below.setCell ?_ ?_ _ | refine Below.drew ?_ | (apply below_step; assumption) | (simp; done) | (simp; omega) | omega))).mono ?_
                rintro e w4 ⟨rfl, hb4⟩
                have hz4 := hb4.size
                (try simp at hz4)
                go_wp2_with fail
                refine hK.out _ _ (by (try dsimp only); exact HK.out _ (by repeat' (first | exact Below.refl _ _ | refine Below.alloc ?_ ?_ _ | refine Below.setCell ?_ ?_ _ | refine Below.drew ?_ | (apply below_step; assumption) | (simp; done) | (simp; omega) | omega))) (fun hHeld => ?_)
                clear hK K
                try simp only [Act.put, rhA, rhS, rhT]
                refine hT 14 ?_; simp only [Act.put, rhA, rhS, rhT]
                refine hT 15 ?_; simp only [Act.put, rhA, rhS, rhT]
                refine hP 16 ?_; simp only [Act.put, rhA, rhS, rhT]
                refine hP 17 ?_; simp only [Act.put, rhA, rhS, rhT]
                refine hP 18 ?_; simp only [Act.put, rhA, rhS, rhT]
                refine hP 19 ?_; simp only [Act.put, rhA, rhS, rhT]
                refine hP 20 ?_; simp only [Act.put, rhA, rhS, rhT]
                refine hP 21 ?_; simp only [Act.put, rhA, rhS, rhT]
                refine hP 22 ?_; simp only [Act.put, rhA, rhS, rhT]
                refine hP 23 ?_; simp only [Act.put, rhA, rhS, rhT]
                refine hP 24 ?_; simp only [Act.put, rhA, rhS, rhT]
                refine hT 25 ?_; simp only [Act.put, rhA, rhS, rhT]
                refine wpAnyH_done (by kernel_rfl) ?_ _
                go_wp2_with fail
                go_roundw
                case rel => exact ⟨k + 1, by omega, by go_num, by rw [HI.out, HD.out, any_drop_miss (by rw [HSM.out]; rfl)], below_of hB (by repeat' (first | exact Below.refl _ _ | refine Below.alloc ?_ ?_ _ | refine Below.setCell ?_ ?_ _ | refine Below.drew ?_ | (apply below_step; assumption) | (simp; done) | (simp; omega) | omega))⟩
                case measure => simp [intOf]; omega
              · go_wp2_with fail
                refine wp_region_held_drew (S := (fun w' => Below wr.heap.size wr w' ∧ (∀ o, w'.cell? ⟨w.heap.size, o, none⟩ = (#[.slice (some ⟨bt, ot, none⟩) c.tasks.length e0, .slice D1 c.nodes.length e1, .slice D2 c.binds.length e2] : Array Value)[o]?) ∧ (∀ o, w'.cell? ⟨g8, o, none⟩ = (#[.int .i64 t.id, .int .i64 t.prio, .int .i64 t.need.c, .int .i64 t.need.m, .int .i64 t.need.p, .slice B1 t.want.length d1, .slice B2 t.tols.length d2] : Array Value)[o]?) ∧ w'.cell? ⟨b, off + k * 12, none⟩ = some (.int .i64 p.id) ∧ w'.cell? ⟨b, off + k * 12 + 1, none⟩ = some (.int .i64 p.min) ∧ w'.cell? ⟨b, off + k * 12 + 2, none⟩ = some (.int .i64 p.max) ∧ w'.cell? ⟨b, off + k * 12 + 3, none⟩ = some (.int .i64 p.prio) ∧ w'.cell? ⟨b, off + k * 12 + 4, none⟩ = some (.int .i64 p.shape.id) ∧ w'.cell? ⟨b, off + k * 12 + 5, none⟩ = some (.int .i64 p.shape.pool) ∧ w'.cell? ⟨b, off + k * 12 + 6, none⟩ = some (.int .i64 p.shape.cap.c) ∧ w'.cell? ⟨b, off + k * 12 + 7, none⟩ = some (.int .i64 p.shape.cap.m) ∧ w'.cell? ⟨b, off + k * 12 + 8, none⟩ = some (.int .i64 p.shape.cap.p) ∧ w'.cell? ⟨b, off + k * 12 + 9, none⟩ = some (.slice A1 p.shape.labs.length c1) ∧ w'.cell? ⟨b, off + k * 12 + 10, none⟩ = some (.slice A2 p.shape.taints.length c2) ∧ w'.cell? ⟨b, off + k * 12 + 11, none⟩ = some (.bool p.shape.cordon))) (by kernel_rfl) (by (try dsimp only); exact HK.out _ (by repeat' (first | exact Below.refl _ _ | refine Below.alloc ?_ ?_ _ | refine Below.setCell ?_ ?_ _ | refine Below.drew ?_ | (apply below_step; assumption) | (simp; done) | (simp; omega) | omega))) (fun hHeld => ?_)
                refine hT 0 ?_; simp only [Act.put, rhA, rhS, rhT]
                refine hT 1 ?_; simp only [Act.put, rhA, rhS, rhT]
                refine hT 2 ?_; simp only [Act.put, rhA, rhS, rhT]
                refine hT 3 ?_; simp only [Act.put, rhA, rhS, rhT]
                refine hT 4 ?_; simp only [Act.put, rhA, rhS, rhT]
                refine hT 5 ?_; simp only [Act.put, rhA, rhS, rhT]
                refine hT 6 ?_; simp only [Act.put, rhA, rhS, rhT]
                refine hT 7 ?_; simp only [Act.put, rhA, rhS, rhT]
                refine hT 8 ?_; simp only [Act.put, rhA, rhS, rhT]
                refine hT 9 ?_; simp only [Act.put, rhA, rhS, rhT]
                refine hT 10 ?_; simp only [Act.put, rhA, rhS, rhT]
                refine hT 11 ?_; simp only [Act.put, rhA, rhS, rhT]
                refine hT 12 ?_; simp only [Act.put, rhA, rhS, rhT]
                refine hCall (i := 13) (o := ?a122) ?b122 (by kernel_rfl) ?c122 (fun K hK => ?d122)
                case b122 => simp only [rhN, rhM]; try rfl
                case c122 => rfl
                go_simp
                refine (HHO.out _ (by repeat' (first | exact Below.refl _ _ | refine Below.alloc ?_ ?_ _ | refine Below.setCell ?_ ?_ _ | refine Below.drew ?_ | (apply below_step; assumption) | (simp; done) | (simp; omega) | omega))).mono ?_
                rintro e w4 ⟨rfl, hb4⟩
                have hz4 := hb4.size
                (try simp at hz4)
                go_wp2_with fail
                refine hK.out _ _ (by (try dsimp only); exact HK.out _ (by repeat' (first | exact Below.refl _ _ | refine Below.alloc ?_ ?_ _ | refine Below.setCell ?_ ?_ _ | refine Below.drew ?_ | (apply below_step; assumption) | (simp; done) | (simp; omega) | omega))) (fun hHeld => ?_)
                clear hK K
                try simp only [Act.put, rhA, rhS, rhT]
                refine hT 14 ?_; simp only [Act.put, rhA, rhS, rhT]
                refine hT 15 ?_; simp only [Act.put, rhA, rhS, rhT]
                refine hT 16 ?_; simp only [Act.put, rhA, rhS, rhT]
                refine hT 17 ?_; simp only [Act.put, rhA, rhS, rhT]
                refine hT 18 ?_; simp only [Act.put, rhA, rhS, rhT]
                refine hT 19 ?_; simp only [Act.put, rhA, rhS, rhT]
                refine hT 20 ?_; simp only [Act.put, rhA, rhS, rhT]
                refine hT 21 ?_; simp only [Act.put, rhA, rhS, rhT]
                refine hT 22 ?_; simp only [Act.put, rhA, rhS, rhT]
                refine hT 23 ?_; simp only [Act.put, rhA, rhS, rhT]
                refine hCall (i := 24) (o := ?a134) ?b134 (by kernel_rfl) ?c134 (fun K hK => ?d134)
                case b134 => simp only [rhN, rhM]; try rfl
                case c134 => rfl
                go_simp
                refine (HFT.out _).mono ?_
                rintro e w5 ⟨rfl, hb5⟩
                have hz5 := hb5.size
                (try simp at hz5)
                go_wp2_with fail
                refine hK.out _ _ (by (try dsimp only); exact HK.out _ (by repeat' (first | exact Below.refl _ _ | refine Below.alloc ?_ ?_ _ | refine Below.setCell ?_ ?_ _ | refine Below.drew ?_ | (apply below_step; assumption) | (simp; done) | (simp; omega) | omega))) (fun hHeld => ?_)
                clear hK K
                try simp only [Act.put, rhA, rhS, rhT]
                refine hT 25 ?_; simp only [Act.put, rhA, rhS, rhT]
                refine wpAnyH_done (by kernel_rfl) ?_ _
                cases fit
                · go_wp2_with fail
                  go_roundw
                  case rel => exact ⟨k + 1, by omega, by go_num, by rw [HI.out, HD.out, any_drop_miss (by rw [HSM.out]; rfl)], below_of hB (by repeat' (first | exact Below.refl _ _ | refine Below.alloc ?_ ?_ _ | refine Below.setCell ?_ ?_ _ | refine Below.drew ?_ | (apply below_step; assumption) | (simp; done) | (simp; omega) | omega))⟩
                  case measure => simp [intOf]; omega
                · go_wp2_with fail
                  go_ret
                  exact ⟨by rw [HR.out, HN.out, HI.out, HD.out, any_drop_hit (by rw [HSM.out]; rfl)]; rfl, below_of hCB (by repeat' (first | exact Below.refl _ _ | refine Below.alloc ?_ ?_ _ | refine Below.setCell ?_ ?_ _ | refine Below.drew ?_ | (apply below_step; assumption) | (simp; done) | (simp; omega) | omega))⟩
          · have hkl : k = l.length := by omega
            have HM := Lib.hid (show l.any (shapeM t) = false by rw [HI.out, hkl, List.drop_length]; rfl)
            clear hkl
            go_wp2_with fail
            go_ret
            exact ⟨by rw [HR.out, HN.out, HM.out]; rfl, hCB⟩
set_option maxHeartbeats 3200000 in
theorem sMayHost_any (c : CV) (a0 a1 a2 v : Value) (l : List PV) (z : Int) (w : World) (hc : CluR w c a0 a1 a2) (hv : PoolSl w v l) (hl : l.length ≤ 1048576) :
    Calls Tryz.prog 16 #[.agg #[a0, a1, a2], v, .int .i64 z] w fun e w' => e = .returned (.bool (mayG c l z)) ∧ Below w.heap.size w w' := by
  have hok := fun w1 hw1 => sClusterOk_any c a0 a1 a2 w1 (hc.below hw1)
  have hpo := fun w1 hw1 => sPoolsOk_any v l w1 (hv.below hw1) hl
  have hma := fun w1 hw1 => l09May_any c a0 a1 a2 v l z w1 (hc.below hw1) (hv.below hw1) hl
  have hE := mayM_eq c l z
  obtain ⟨D0, D1, D2, e0, e1, e2, rfl, rfl, rfl, _⟩ := hc.full
  obtain ⟨P0, pc, rfl, _⟩ := hv.form
  generalize clusterOk c = b1 at hok hE
  generalize poolsOk l = b2 at hpo hE
  generalize mayM c l z = b3 at hma hE
  generalize mayG c l z = r at hE ⊢
  have HE := Lib.hid hE
  have HOK := Lib.hid hok
  have HPO := Lib.hid hpo
  have HMA := Lib.hid hma
  clear hE hok hpo hma hc hv
  go_enter Tryz.func16, Tryz.ntmps16
  go_wp2_with fail
  have hX : Below w.heap.size w (w.alloc (.cells #[.slice D0 c.tasks.length e0, .slice D1 c.nodes.length e1, .slice D2 c.binds.length e2] 35)) := (by repeat' (first | exact Below.refl _ _ | refine Below.alloc ?_ ?_ _ | refine Below.setCell ?_ ?_ _ | refine Below.drew ?_ | (apply below_step; assumption) | (simp; done) | (simp; omega) | omega))
  refine (HOK.out _ hX).mono ?_
  rintro e w2 ⟨rfl, hb2⟩
  have hC2 := below_of hX hb2
  have BC := (BlockIs.new w 35 #[.slice D0 c.tasks.length e0, .slice D1 c.nodes.length e1, .slice D2 c.binds.length e2]).below hb2 (by simp)
  have HBC := Lib.hid BC
  clear BC hb2 hX
  cases b1
  · go_wp2_with fail
    go_ret
    exact ⟨by rw [← HE.out]; rfl, hC2⟩
  · go_wp2_with fail
    refine (HPO.out _ hC2).mono ?_
    rintro e w3 ⟨rfl, hb3⟩
    have hC3 := below_of hC2 hb3
    have BC := HBC.out.below hb3 HBC.out.lt
    have g0 := BC.cell 0
    have g1 := BC.cell 1
    have g2 := BC.cell 2
    have cl := BC.lt
    simp at g0 g1 g2
    clear BC hb3 HBC
    cases b2
    · go_wp2_with fail
      go_ret
      exact ⟨by rw [← HE.out]; rfl, hC3⟩
    · go_wp2_with fail
      refine (HMA.out _ hC3).mono ?_
      rintro e w4 ⟨rfl, hb4⟩
      have hC4 := below_of hC3 hb4
      go_wp2_with fail
      go_ret
      exact ⟨by rw [← HE.out]; rfl, hC4⟩
end Go.Proofs.YtmkpajjnjgnmkaaGreatDoor
