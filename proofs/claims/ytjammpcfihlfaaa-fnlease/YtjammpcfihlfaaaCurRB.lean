/- The model's cursor: raw; its making; big. -/
import Derived.Test.YtjammpcfihlfaaaCur
namespace Go.Proofs.Ytjammpcfihlfaaa
open Go.RowKit

theorem CurAt.but_alloc {g G : Nat} {A : Option Addr} {n c m : Nat} {w : World} (hG : G ≤ g) (h : CurAt g G A n c m w) (o : Obj) : CurAt g G A n c m (w.alloc o) := by
  obtain ⟨a, s, hb, h0, h1, h2, h3, h4⟩ := h
  exact CurAt.step hG hb.lt ((But.refl g w).alloc o) (hb.alloc o) h0 h1 h2 h3 h4

theorem BlockIs.but {w w' : World} {b g : Nat} {t : TypeId} {cs : Array Value} (h : BlockIs w b t cs) (hb : But g w w') (hne : b ≠ g) : BlockIs w' b t cs := (hb.block b h.lt hne).trans h
/-- Whatever is asked of a row of eight numbers at an index within it is a number. -/
theorem eight (x0 x1 x2 x3 x4 x5 x6 x7 : Int) (t : TypeId) (w w' : World) (hb : w'.heap[w.heap.size]? = some (.cells #[.int .i64 x0, .int .i64 x1, .int .i64 x2, .int .i64 x3, .int .i64 x4, .int .i64 x5, .int .i64 x6, .int .i64 x7] t (0, 0))) (z : Int) (h0 : 0 ≤ z) (h1 : z < 8) :
    ∃ v : Int, w'.cell? ⟨w.heap.size, z.toNat, none⟩ = some (.int .i64 v) := by
  have : z.toNat < 8 := by omega
  generalize z.toNat = i at this
  simp only [World.cell?, hb]
  match i, this with
  | 0, _ => exact ⟨x0, rfl⟩
  | 1, _ => exact ⟨x1, rfl⟩
  | 2, _ => exact ⟨x2, rfl⟩
  | 3, _ => exact ⟨x3, rfl⟩
  | 4, _ => exact ⟨x4, rfl⟩
  | 5, _ => exact ⟨x5, rfl⟩
  | 6, _ => exact ⟨x6, rfl⟩
  | 7, _ => exact ⟨x7, rfl⟩

set_option maxHeartbeats 1600000 in
theorem raw_any (g G : Nat) (A : Option Addr) (n c m : Nat) (w : World) (hG : G ≤ g) (hn : n ≤ 1048576) (hm : m + 2 ≤ 1000000000) (h : CurAt g G A n c m w) :
    Calls Try.prog 43 #[.pointer (some ⟨g, 0, none⟩)] w (Drawn (fun _ => True) g G A n c (m + 2) w) := by
  go_enter Try.func43, Try.ntmps43
  go_wp2_with fail
  refine (pick_any g G A n c m 8 _ hG hn (by omega) (by omega) (by omega) h).mono ?_
  rintro e w1 ⟨z, ⟨z0, z1⟩, rfl, hb1, hc1⟩
  by_cases e0 : z = 0
  · subst e0
    go_wp2_with fail
    refine (pick_any g G A n c (m + 1) 256 _ hG hn (by omega) (by omega) (by omega) hc1).mono ?_
    rintro e w2 ⟨y, ⟨y0, y1⟩, rfl, hb2, hc2⟩
    go_wp2_with fail
    go_ret
    exact ⟨_, trivial, rfl, hb1.trans hb2, hc2⟩
  · by_cases e1 : z = 1
    · subst e1
      go_wp2_with fail
      refine (pick_any g G A n c (m + 1) 8 _ hG hn (by omega) (by omega) (by omega) (hc1.but_alloc hG _)).mono ?_
      rintro e w2 ⟨y, ⟨y0, y1⟩, rfl, hb2, hc2⟩
      have hg1 := hc1.lt
      obtain ⟨v, hv⟩ := eight _ _ _ _ _ _ _ _ 3 w1 w2 ((BlockIs.new _ _ _).but hb2 (by omega)) y y0 y1
      go_wp2_with fail
      go_ret
      exact ⟨_, trivial, rfl, (hb1.alloc _).trans hb2, hc2⟩
    · have f0 : (z == 0) = false := by simp [e0]
      have f1 : (z == 1) = false := by simp [e1]
      clear e0 e1
      go_wp2_with fail
      refine (pick_any g G A n c (m + 1) 14 _ hG hn (by omega) (by omega) (by omega) hc1).mono ?_
      rintro e w2 ⟨y, ⟨y0, y1⟩, rfl, hb2, hc2⟩
      go_wp2_with fail
      go_ret
      exact ⟨_, trivial, rfl, hb1.trans hb2, hc2⟩

/-- Whatever is asked of a row of three numbers at an index within it is a number. -/
theorem three (x0 x1 x2 : Int) (t : TypeId) (b : Nat) (w' : World) (hb : BlockIs w' b t #[.int .i64 x0, .int .i64 x1, .int .i64 x2]) (z : Int) (h0 : 0 ≤ z) (h1 : z < 3) :
    ∃ v : Int, w'.cell? ⟨b, z.toNat, none⟩ = some (.int .i64 v) := by
  have : z.toNat < 3 := by omega
  generalize z.toNat = i at this
  rw [hb.cell]
  match i, this with
  | 0, _ => exact ⟨x0, rfl⟩
  | 1, _ => exact ⟨x1, rfl⟩
  | 2, _ => exact ⟨x2, rfl⟩
theorem CurAt.more {g G : Nat} {A : Option Addr} {n c m m' : Nat} {w : World} (h : CurAt g G A n c m w) (hm : m ≤ m') : CurAt g G A n c m' w := by
  obtain ⟨a, s, hb, h0, h1, h2⟩ := h
  exact ⟨a, s, hb, h0, by omega, h2⟩

theorem CurAt.above {g G : Nat} {A : Option Addr} {n c m : Nat} {w : World} (hG : G ≤ g) {p : Addr} (hp : g < p.block) (h : CurAt g G A n c m w) (u : Value) : CurAt g G A n c m (w.setCell p u) := by
  obtain ⟨a, s, hb, h0, h1, h2, h3, h4⟩ := h
  refine ⟨a, s, hb.far (by omega) u, h0, h1, h2, h3, fun hn => ?_⟩
  obtain ⟨b, off, rfl, hbG, hc⟩ := h4 hn
  refine ⟨b, off, rfl, hbG, fun i hi => ?_⟩
  obtain ⟨z, z0, z1, hz⟩ := hc i hi
  exact ⟨z, z0, z1, (World.cell?_setCell_other _ _ _ _ (fun e => by have hq := congrArg Addr.block e; simp at hq; omega)).trans hz⟩

theorem big_no (A : Option Addr) (n c : Nat) (w : World) (h : n ≤ 1048576) :
    Calls Try.prog 12 #[.slice A n c] w fun e w' => e = .returned (.bool false) ∧ w = w' := by
  have h1 : (n : Int) ≤ 1048576 := by omega
  go_enter Try.func12, Try.ntmps12
  go_wp2
  go_ret
  exact ⟨by simp; omega, rfl⟩
theorem big_yes (A : Option Addr) (n c : Nat) (w : World) (h : 1048576 < n) :
    Calls Try.prog 12 #[.slice A n c] w fun e w' => e = .returned (.bool true) ∧ w = w' := by
  have h1 : (1048576 : Int) < (n : Int) := by omega
  go_enter Try.func12, Try.ntmps12
  go_wp2
  go_ret
  exact ⟨by simp, rfl⟩

theorem l01Open_any (A : Option Addr) (n c : Nat) (w : World) (hn : n ≤ 1048576) (G : Nat) (hG : G ≤ w.heap.size) (hc : 0 < n → ∃ b off, A = some ⟨b, off, none⟩ ∧ b < G ∧ ∀ i, i < n → ∃ z : Int, 0 ≤ z ∧ z ≤ 255 ∧ w.cell? ⟨b, off + i, none⟩ = some (.int .u8 z)) :
    Calls Try.prog 40 #[.slice A n c] w fun e w' => e = .returned (.pointer (some ⟨w.heap.size, 0, none⟩)) ∧ Below w.heap.size w w' ∧ CurAt w.heap.size G A n c 0 w' := by
  have HC := Lib.hid hc
  clear hc
  have h1 : (n : Int) ≤ 1048576 := by omega
  have h0 : (0 : Int) ≤ (n : Int) := by omega
  go_enter Try.func40, Try.ntmps40
  go_wp2
  go_ret
  refine ⟨rfl, (by repeat' (first | exact Below.refl _ _ | refine Below.alloc ?_ ?_ _ | refine Below.setCell ?_ ?_ _ | refine Below.drew ?_ | (apply below_step; assumption) | (simp; done) | (simp; omega) | omega)), 0, 103 + (n : Int) % 1000, BlockIs.new _ _ _, by omega, by omega, by omega, by omega, fun hn => ?_⟩
  obtain ⟨b, off, rfl, hb, hc⟩ := HC.out hn
  refine ⟨b, off, rfl, hb, fun i hi => ?_⟩
  obtain ⟨z, z0, z1, hz⟩ := hc i hi
  exact ⟨z, z0, z1, (World.cell?_alloc_lt _ _ _ (by simp; omega)).trans hz⟩

end Go.Proofs.Ytjammpcfihlfaaa
