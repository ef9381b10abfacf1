/- The draw of an amount and a number; the laws' pick. -/
import Derived.Test.YtfgdefgnhhimcaaDoorCurD
import Derived.Deep.RegionHeld3
namespace Go.Proofs.YtfgdefgnhhimcaaDoor
open Go.RowKit

/-- The ending of the laws' pick: a number below k. -/
def PickEnd (k : Int) (w : World) (e : Ending) (w' : World) : Prop := ∃ z : Int, 0 ≤ z ∧ z < k ∧ e = .returned (.int .i64 z) ∧ w = w'
set_option maxHeartbeats 1600000 in
theorem lpick_any (A : Option Addr) (n c : Nat) (at_ k : Int) (w : World) (hn : n ≤ 1048576) (hc : CodeAt w A n) (ha0 : 0 ≤ at_) (ha1 : at_ ≤ 1000000) (hk2 : 2 ≤ k) (hk : k ≤ 1000000) :
    Calls Tryd.prog 21 #[.slice A n c, .int .i64 at_, .int .i64 k] w (PickEnd k w) := by
  rcases Nat.eq_zero_or_pos n with rfl | hp
  · go_enter Tryd.func21, Tryd.ntmps21
    go_wp2
    go_ret
    exact ⟨0, by omega, by omega, rfl, rfl⟩
  · obtain ⟨b, off, rfl, hlt, hcc⟩ := hc hp
    have hm : ∀ j : Int, 0 ≤ j → 0 ≤ (at_ + j) % n ∧ (at_ + j) % n < n := fun j hj => ⟨Int.emod_nonneg _ (by omega), Int.emod_lt_of_pos _ (by omega)⟩
    obtain ⟨d00, d01⟩ := hm 0 (by omega)
    obtain ⟨d10, d11⟩ := hm 1 (by omega)
    obtain ⟨d20, d21⟩ := hm 2 (by omega)
    rw [Int.add_zero] at d00 d01
    obtain ⟨x0, x00, x01, hx0⟩ := hcc (at_ % n).toNat (by omega)
    obtain ⟨x1, x10, x11, hx1⟩ := hcc ((at_ + 1) % n).toNat (by omega)
    obtain ⟨x2, x20, x21, hx2⟩ := hcc ((at_ + 2) % n).toNat (by omega)
    have hn0 : ((n : Int) == 0) = false := by simp; omega
    have hn1 : (0 : Int) < (n : Int) := by omega
    clear hc hcc hm
    go_enter Tryd.func21, Tryd.ntmps21
    go_wp2
    refine wp_loop_rounds 4 ?_
    rw [rounds_succ]
    go_wp2
    rw [rounds_succ]
    go_wp2
    rw [rounds_succ]
    go_wp2
    rw [rounds_succ]
    go_wp2
    go_ret
    exact ⟨_, (mod_in hk2).1, (mod_in hk2).2, rfl, rfl⟩

theorem three' (x0 x1 x2 : Int) (z : Int) (h0 : 0 ≤ z) (h1 : z < 3) : ∃ v : Int, (#[Value.int .i64 x0, .int .i64 x1, .int .i64 x2] : Array Value)[z.toNat]? = some (.int .i64 v) ∧ ([Value.int .i64 x0, .int .i64 x1, .int .i64 x2] : List Value)[z.toNat]? = some (.int .i64 v) := by
  have : z.toNat < 3 := by omega
  generalize z.toNat = i at this
  match i, this with
  | 0, _ => exact ⟨x0, rfl, rfl⟩
  | 1, _ => exact ⟨x1, rfl, rfl⟩
  | 2, _ => exact ⟨x2, rfl, rfl⟩
/-- The ending of a draw of an amount and a number. -/
def DrawnRN (w : World) (e : Ending) (w' : World) : Prop := ∃ (a : RV) (k : Int), e = .returned (.tuple #[.agg #[.int .i64 a.c, .int .i64 a.m, .int .i64 a.p], .int .i64 k]) ∧ Below w.heap.size w w'
set_option maxHeartbeats 3200000 in
theorem DrawResTimes_any (A : Option Addr) (n c : Nat) (w : World) (hn : n ≤ 1048576) (hc : CodeAt w A n) :
    Calls Tryd.prog 20 #[.slice A n c] w (DrawnRN w) := by
  have hb0 : Below w.heap.size w (w.alloc (.cells #[.int .i64 0, .int .i64 0, .int .i64 0] 25)) := (by repeat' (first | exact Below.refl _ _ | refine Below.alloc ?_ ?_ _ | refine Below.setCell ?_ ?_ _ | refine Below.drew ?_ | (apply below_step; assumption) | (simp; done) | (simp; omega) | omega))
  have HC := Lib.hid (show 0 < n → ∃ b off, A = some ⟨b, off, none⟩ ∧ b < w.heap.size ∧ ∀ i, i < n → ∃ z : Int, 0 ≤ z ∧ z ≤ 255 ∧ (w.alloc (.cells #[.int .i64 0, .int .i64 0, .int .i64 0] 25)).cell? ⟨b, off + i, none⟩ = some (.int .u8 z) from fun h => by
    obtain ⟨b, off, rfl, hlt, hcc⟩ := hc h
    exact ⟨b, off, rfl, hlt, fun i hi => by
      obtain ⟨z, z0, z1, hz⟩ := hcc i hi
      exact ⟨z, z0, z1, (hb0.cell (p := ⟨b, _, none⟩) hlt).trans hz⟩⟩)
  have T2 := Lib.hid (BlockIs.new w 25 #[.int .i64 0, .int .i64 0, .int .i64 0])
  clear hc
  go_enter Tryd.func20, Tryd.ntmps20
  go_wp2_with fail
  refine (l01Open_any A n c _ hn w.heap.size (by simp) HC.out).mono ?_
  rintro e w1 ⟨rfl, hb1, hc1⟩
  have hz1 := hb1.size
  simp at hz1 hc1
  have hB1 : Below w.heap.size w w1 := (by repeat' (first | exact Below.refl _ _ | refine Below.alloc ?_ ?_ _ | refine Below.setCell ?_ ?_ _ | refine Below.drew ?_ | (apply below_step; assumption) | (simp; done) | (simp; omega) | omega))
  have T2b := Lib.hid (T2.out.below hb1 (by simp))
  have hgl1 := hc1.lt
  have hc1d : CurAt (w.heap.size + 1) w.heap.size A n c 0 w1.drew := hc1
  clear T2 hb1 hc1 hb0
  go_wp2_with fail
  go_region_with
    (first
      | (go_at_call 39; refine (res_any (w.heap.size + 1) w.heap.size A n c 0 _ (by omega) hn (by omega) hc1d).mono ?_; rintro e w2 ⟨a, rfl, hb2, hc2⟩; have hz2 := hb2.size; simp at hz2)
      | (go_at_call_of 43 (Value.int IntKind.i64 9); refine (pick_any (w.heap.size + 1) w.heap.size A n c 7 9 _ (by omega) hn (by omega) (by omega) (by omega) hc2).mono ?_; rintro e w3 ⟨y3, ⟨y30, y31⟩, rfl, hb3, hc3⟩; have hz3 := hb3.size)
      | (go_at_call 44; refine (raw_any (w.heap.size + 1) w.heap.size A n c 8 _ (by omega) hn (by omega) hc3).mono ?_; rintro e w4 ⟨y4, _, rfl, hb4, hc4⟩; have hz4 := hb4.size)
      | (go_at_call_of 43 (Value.int IntKind.i64 3); refine (pick_any (w.heap.size + 1) w.heap.size A n c 10 3 _ (by omega) hn (by omega) (by omega) (by omega) ?_).mono ?_; (first | exact hc4 | exact hc4.but_alloc (by omega) _); rintro e w5 ⟨y5, ⟨y50, y51⟩, rfl, hb5, hc5⟩; have hz5 := hb5.size; (first | have hv5 := three _ _ _ 3 w4.heap.size w5 ((BlockIs.new _ _ _).but hb5 (by omega)) y5 y50 y51 | have hv5 := three' y3 y4 1000000 y5 y50 y51); obtain ⟨v5, hv5⟩ := hv5; (first | have ht2 := (((T2b.out.drew.but hb2 (by omega)).but hb3 (by omega)).but hb4 (by omega)).but hb5 (by omega) | have ht2 := ((((T2b.out.drew.but hb2 (by omega)).but hb3 (by omega)).but hb4 (by omega)).alloc (.cells #[.int .i64 y3, .int .i64 y4, .int .i64 1000000] 3)).but hb5 (by omega)); have hf2 := ht2.frozen; have k0 := ht2.cell 0; have k1 := ht2.cell 1; have k2 := ht2.cell 2; simp at k0 k1 k2; have hl5 := ht2.lt; clear ht2))
  all_goals
    have hB5 : Below w.heap.size w w5 := by
      first
        | exact hB1.trans ((((((But.refl (w.heap.size + 1) w1).drew.trans hb2).trans hb3).trans hb4).trans hb5).below (by omega) (by omega))
        | exact hB1.trans (((((((But.refl (w.heap.size + 1) w1).drew.trans hb2).trans hb3).trans hb4).alloc _).trans hb5).below (by omega) (by omega))
    go_wp2_with fail
    refine bodyPost_ret (v := .tuple #[.agg #[.int .i64 a.c, .int .i64 a.m, .int .i64 a.p], .int .i64 v5]) (by first | (simp [results, Tryd.results20, go_sem, k0, k1, k2, hl5]; done) | (simp [results, Tryd.results20, go_sem, k0, k1, k2, hl5]; exact (List.getElem?_eq_some_iff.1 hv5.2).2)) rfl ⟨a, v5, rfl, ?_⟩
    exact (by repeat' (first | exact Below.refl _ _ | refine Below.alloc ?_ ?_ _ | refine Below.setCell ?_ ?_ _ | refine Below.drew ?_ | (apply below_step; assumption) | (simp; done) | (simp; omega) | omega))
end Go.Proofs.YtfgdefgnhhimcaaDoor
