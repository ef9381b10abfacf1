/- The draws of amounts out of a code; the laws' big, rest. -/
import Derived.Test.YtfgdefgnhhimcaaDoorCurR
namespace Go.Proofs.YtfgdefgnhhimcaaDoor
open Go.RowKit

theorem big_no (A : Option Addr) (n c : Nat) (w : World) (h : n ≤ 1048576) :
    Calls Tryd.prog 13 #[.slice A n c] w fun e w' => e = .returned (.bool false) ∧ w = w' := by
  have h1 : (n : Int) ≤ 1048576 := by omega
  go_enter Tryd.func13, Tryd.ntmps13
  go_wp2
  go_ret
  exact ⟨by simp; omega, rfl⟩
theorem big_yes (A : Option Addr) (n c : Nat) (w : World) (h : 1048576 < n) :
    Calls Tryd.prog 13 #[.slice A n c] w fun e w' => e = .returned (.bool true) ∧ w = w' := by
  have h1 : (1048576 : Int) < (n : Int) := by omega
  go_enter Tryd.func13, Tryd.ntmps13
  go_wp2
  go_ret
  exact ⟨by simp, rfl⟩

theorem l01Open_any (A : Option Addr) (n c : Nat) (w : World) (hn : n ≤ 1048576) (G : Nat) (hG : G ≤ w.heap.size) (hc : 0 < n → ∃ b off, A = some ⟨b, off, none⟩ ∧ b < G ∧ ∀ i, i < n → ∃ z : Int, 0 ≤ z ∧ z ≤ 255 ∧ w.cell? ⟨b, off + i, none⟩ = some (.int .u8 z)) :
    Calls Tryd.prog 38 #[.slice A n c] w fun e w' => e = .returned (.pointer (some ⟨w.heap.size, 0, none⟩)) ∧ Below w.heap.size w w' ∧ CurAt w.heap.size G A n c 0 w' := by
  have HC := Lib.hid hc
  clear hc
  have h1 : (n : Int) ≤ 1048576 := by omega
  have h0 : (0 : Int) ≤ (n : Int) := by omega
  go_enter Tryd.func38, Tryd.ntmps38
  go_wp2
  go_ret
  refine ⟨rfl, (by repeat' (first | exact Below.refl _ _ | refine Below.alloc ?_ ?_ _ | refine Below.setCell ?_ ?_ _ | refine Below.drew ?_ | (apply below_step; assumption) | (simp; done) | (simp; omega) | omega)), 0, 103 + (n : Int) % 1000, BlockIs.new _ _ _, by omega, by omega, by omega, by omega, fun hn => ?_⟩
  obtain ⟨b, off, rfl, hb, hc⟩ := HC.out hn
  refine ⟨b, off, rfl, hb, fun i hi => ?_⟩
  obtain ⟨z, z0, z1, hz⟩ := hc i hi
  exact ⟨z, z0, z1, (World.cell?_alloc_lt _ _ _ (by simp; omega)).trans hz⟩

/-- The ending of a draw of two amounts. -/
def DrawnRR (w : World) (e : Ending) (w' : World) : Prop := ∃ a b : RV, e = .returned (.tuple #[.agg #[.int .i64 a.c, .int .i64 a.m, .int .i64 a.p], .agg #[.int .i64 b.c, .int .i64 b.m, .int .i64 b.p]]) ∧ Below w.heap.size w w'

set_option maxHeartbeats 1600000 in
theorem DrawResAdd_any (A : Option Addr) (n c : Nat) (w : World) (hn : n ≤ 1048576) (hc : CodeAt w A n) :
    Calls Tryd.prog 14 #[.slice A n c] w (DrawnRR w) := by
  have hb0 : Below w.heap.size w ((w.alloc (.cells #[.int .i64 0, .int .i64 0, .int .i64 0] 25)).alloc (.cells #[.int .i64 0, .int .i64 0, .int .i64 0] 25)) := (by repeat' (first | exact Below.refl _ _ | refine Below.alloc ?_ ?_ _ | refine Below.setCell ?_ ?_ _ | refine Below.drew ?_ | (apply below_step; assumption) | (simp; done) | (simp; omega) | omega))
  have HC := Lib.hid (show 0 < n → ∃ b off, A = some ⟨b, off, none⟩ ∧ b < w.heap.size ∧ ∀ i, i < n → ∃ z : Int, 0 ≤ z ∧ z ≤ 255 ∧ ((w.alloc (.cells #[.int .i64 0, .int .i64 0, .int .i64 0] 25)).alloc (.cells #[.int .i64 0, .int .i64 0, .int .i64 0] 25)).cell? ⟨b, off + i, none⟩ = some (.int .u8 z) from fun h => by
    obtain ⟨b, off, rfl, hlt, hcc⟩ := hc h
    exact ⟨b, off, rfl, hlt, fun i hi => by
      obtain ⟨z, z0, z1, hz⟩ := hcc i hi
      exact ⟨z, z0, z1, (hb0.cell (p := ⟨b, _, none⟩) hlt).trans hz⟩⟩)
  have T2 := Lib.hid ((BlockIs.new w 25 #[.int .i64 0, .int .i64 0, .int .i64 0]).alloc (.cells #[.int .i64 0, .int .i64 0, .int .i64 0] 25))
  have T3 := Lib.hid (BlockIs.new (w.alloc (.cells #[.int .i64 0, .int .i64 0, .int .i64 0] 25)) 25 #[.int .i64 0, .int .i64 0, .int .i64 0])
  clear hc
  go_enter Tryd.func14, Tryd.ntmps14
  go_wp2_with fail
  refine (l01Open_any A n c _ hn w.heap.size (by simp; omega) HC.out).mono ?_
  rintro e w1 ⟨rfl, hb1, hc1⟩
  have hz1 := hb1.size
  simp at hz1 hc1
  go_wp2_with fail
  refine (res_any (w.heap.size + 1 + 1) w.heap.size A n c 0 _ (by omega) hn (by omega) hc1).mono ?_
  rintro e w2 ⟨a, rfl, hb2, hc2⟩
  have hz2 := hb2.size
  go_wp2_with fail
  refine (res_any (w.heap.size + 1 + 1) w.heap.size A n c (0 + 7) _ (by omega) hn (by omega) hc2).mono ?_
  rintro e w3 ⟨b, rfl, hb3, hc3⟩
  have hz3 := hb3.size
  have t2 := ((T2.out.below hb1 (by simp; omega)).but hb2 (by omega)).but hb3 (by omega)
  have t3 := ((T3.out.below hb1 (by simp)).but hb2 (by simp)).but hb3 (by simp)
  have f2 := t2.frozen
  have f3 := t3.frozen
  have k0 := t2.cell 0
  have k1 := t2.cell 1
  have k2 := t2.cell 2
  have l0 := t3.cell 0
  have l1 := t3.cell 1
  have l2 := t3.cell 2
  simp at k0 k1 k2 l0 l1 l2 f3
  have hB1 : Below w.heap.size w w1 := (by repeat' (first | exact Below.refl _ _ | refine Below.alloc ?_ ?_ _ | refine Below.setCell ?_ ?_ _ | refine Below.drew ?_ | (apply below_step; assumption) | (simp; done) | (simp; omega) | omega))
  have hB3 : Below w.heap.size w w3 := hB1.trans (((hb2.trans hb3)).below (by omega) (by omega))
  clear t2 t3 hb1 hb2 hb3 hc1 hc2 hc3 hb0
  go_wp2_with fail
  refine bodyPost_ret (v := .tuple #[.agg #[.int .i64 a.c, .int .i64 a.m, .int .i64 a.p], .agg #[.int .i64 b.c, .int .i64 b.m, .int .i64 b.p]]) (by simp [results, Tryd.results14, go_sem, k0, k1, k2, l0, l1, l2]) rfl ⟨a, b, rfl, ?_⟩
  exact (((((hB3.setCell (by simp) _).setCell (by simp) _).setCell (by simp) _).setCell (by simp) _).setCell (by simp) _).setCell (by simp) _
set_option maxHeartbeats 1600000 in
theorem DrawResShare_any (A : Option Addr) (n c : Nat) (w : World) (hn : n ≤ 1048576) (hc : CodeAt w A n) :
    Calls Tryd.prog 25 #[.slice A n c] w (DrawnRR w) := by
  have hb0 : Below w.heap.size w ((w.alloc (.cells #[.int .i64 0, .int .i64 0, .int .i64 0] 25)).alloc (.cells #[.int .i64 0, .int .i64 0, .int .i64 0] 25)) := (by repeat' (first | exact Below.refl _ _ | refine Below.alloc ?_ ?_ _ | refine Below.setCell ?_ ?_ _ | refine Below.drew ?_ | (apply below_step; assumption) | (simp; done) | (simp; omega) | omega))
  have HC := Lib.hid (show 0 < n → ∃ b off, A = some ⟨b, off, none⟩ ∧ b < w.heap.size ∧ ∀ i, i < n → ∃ z : Int, 0 ≤ z ∧ z ≤ 255 ∧ ((w.alloc (.cells #[.int .i64 0, .int .i64 0, .int .i64 0] 25)).alloc (.cells #[.int .i64 0, .int .i64 0, .int .i64 0] 25)).cell? ⟨b, off + i, none⟩ = some (.int .u8 z) from fun h => by
    obtain ⟨b, off, rfl, hlt, hcc⟩ := hc h
    exact ⟨b, off, rfl, hlt, fun i hi => by
      obtain ⟨z, z0, z1, hz⟩ := hcc i hi
      exact ⟨z, z0, z1, (hb0.cell (p := ⟨b, _, none⟩) hlt).trans hz⟩⟩)
  have T2 := Lib.hid ((BlockIs.new w 25 #[.int .i64 0, .int .i64 0, .int .i64 0]).alloc (.cells #[.int .i64 0, .int .i64 0, .int .i64 0] 25))
  have T3 := Lib.hid (BlockIs.new (w.alloc (.cells #[.int .i64 0, .int .i64 0, .int .i64 0] 25)) 25 #[.int .i64 0, .int .i64 0, .int .i64 0])
  clear hc
  go_enter Tryd.func25, Tryd.ntmps25
  go_wp2_with fail
  refine (l01Open_any A n c _ hn w.heap.size (by simp; omega) HC.out).mono ?_
  rintro e w1 ⟨rfl, hb1, hc1⟩
  have hz1 := hb1.size
  simp at hz1 hc1
  go_wp2_with fail
  refine (res_any (w.heap.size + 1 + 1) w.heap.size A n c 0 _ (by omega) hn (by omega) hc1).mono ?_
  rintro e w2 ⟨a, rfl, hb2, hc2⟩
  have hz2 := hb2.size
  go_wp2_with fail
  refine (res_any (w.heap.size + 1 + 1) w.heap.size A n c (0 + 7) _ (by omega) hn (by omega) hc2).mono ?_
  rintro e w3 ⟨b, rfl, hb3, hc3⟩
  have hz3 := hb3.size
  have t2 := ((T2.out.below hb1 (by simp; omega)).but hb2 (by omega)).but hb3 (by omega)
  have t3 := ((T3.out.below hb1 (by simp)).but hb2 (by simp)).but hb3 (by simp)
  have f2 := t2.frozen
  have f3 := t3.frozen
  have k0 := t2.cell 0
  have k1 := t2.cell 1
  have k2 := t2.cell 2
  have l0 := t3.cell 0
  have l1 := t3.cell 1
  have l2 := t3.cell 2
  simp at k0 k1 k2 l0 l1 l2 f3
  have hB1 : Below w.heap.size w w1 := (by repeat' (first | exact Below.refl _ _ | refine Below.alloc ?_ ?_ _ | refine Below.setCell ?_ ?_ _ | refine Below.drew ?_ | (apply below_step; assumption) | (simp; done) | (simp; omega) | omega))
  have hB3 : Below w.heap.size w w3 := hB1.trans (((hb2.trans hb3)).below (by omega) (by omega))
  clear t2 t3 hb1 hb2 hb3 hc1 hc2 hc3 hb0
  go_wp2_with fail
  refine bodyPost_ret (v := .tuple #[.agg #[.int .i64 a.c, .int .i64 a.m, .int .i64 a.p], .agg #[.int .i64 b.c, .int .i64 b.m, .int .i64 b.p]]) (by simp [results, Tryd.results25, go_sem, k0, k1, k2, l0, l1, l2]) rfl ⟨a, b, rfl, ?_⟩
  exact (((((hB3.setCell (by simp) _).setCell (by simp) _).setCell (by simp) _).setCell (by simp) _).setCell (by simp) _).setCell (by simp) _
end Go.Proofs.YtfgdefgnhhimcaaDoor
