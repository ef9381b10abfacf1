/- The model's cursor over a code: what its draws may answer, and what they leave as it was. -/
import Derived.Test.YtjammpcfihlfaaaBase
import Derived.Deep.QuietTactic
import Derived.BigQuiet
import Derived.WalkSmall
namespace Go.Proofs.Ytjammpcfihlfaaa
open Go.RowKit

/-- Of what was there only block g may have turned. -/
structure But (g : Nat) (w w' : World) : Prop where
  os : w'.os = w.os
  tape : w'.tape = w.tape
  output : w'.output = w.output
  size : w.heap.size ≤ w'.heap.size
  block : ∀ k, k < w.heap.size → k ≠ g → w'.heap[k]? = w.heap[k]?
section
variable {g B : Nat} {w w' w'' : World}
theorem But.refl (g : Nat) (w : World) : But g w w := ⟨rfl, rfl, rfl, Nat.le_refl _, fun _ _ _ => rfl⟩
theorem But.trans (h : But g w w') (h' : But g w' w'') : But g w w'' :=
  ⟨h'.os.trans h.os, h'.tape.trans h.tape, h'.output.trans h.output, Nat.le_trans h.size h'.size, fun k hk hg => (h'.block k (Nat.lt_of_lt_of_le hk h.size) hg).trans (h.block k hk hg)⟩
theorem But.of_below (h : Below w'.heap.size w' w'') (h0 : But g w w') : But g w w'' := h0.trans ⟨h.os, h.tape, h.output, h.size, fun k hk _ => h.block k hk⟩
theorem But.drew (h : But g w w') : But g w w'.drew := h.trans ⟨rfl, rfl, rfl, Nat.le_refl _, fun _ _ _ => rfl⟩
theorem But.drewN (h : But g w w') (n : Nat) : But g w (w'.drewN n) := h.trans ⟨rfl, rfl, rfl, Nat.le_refl _, fun _ _ _ => rfl⟩
theorem But.alloc (h : But g w w') (o : Obj) : But g w (w'.alloc o) := But.of_below ((Below.refl _ _).alloc (Nat.le_refl _) o) h
theorem But.put (h : But g w w') (o : Nat) (u : Value) : But g w (w'.setCell ⟨g, o, none⟩ u) :=
  h.trans ⟨rfl, rfl, rfl, by simp [World.setCell], fun k _ hg => Below.heap_setCell _ _ _ _ hg⟩
theorem But.above (h : But g w w') {p : Addr} (hp : w.heap.size ≤ p.block) (u : Value) : But g w (w'.setCell p u) :=
  ⟨h.os, h.tape, h.output, by simpa [World.setCell] using h.size, fun k hk hg => (Below.heap_setCell _ _ _ _ (by omega)).trans (h.block k hk hg)⟩
theorem But.below (h : But g w w') (hB : B ≤ w.heap.size) (hg : B ≤ g) : Below B w w' := ⟨h.os, h.tape, h.output, h.size, fun k hk => h.block k (by omega) (by omega)⟩
theorem But.cell (h : But g w w') {b : Nat} (o : Nat) (hb : b < w.heap.size) (hg : b ≠ g) : w'.cell? ⟨b, o, none⟩ = w.cell? ⟨b, o, none⟩ := World.cell?_of_block (w := w) (h.block b hb hg)
theorem But.frozen (h : But g w w') {b : Nat} (o : Nat) (hb : b < w.heap.size) (hg : b ≠ g) : w'.frozen? ⟨b, o, none⟩ = w.frozen? ⟨b, o, none⟩ := World.frozen?_of_block (w := w) (h.block b hb hg)
end

/-- The bytes of a code, whatever they are. -/
def CodeAt (w : World) (A : Option Addr) (n : Nat) : Prop := 0 < n → ∃ b off, A = some ⟨b, off, none⟩ ∧ b < w.heap.size ∧ ∀ i, i < n → ∃ z : Int, 0 ≤ z ∧ z ≤ 255 ∧ w.cell? ⟨b, off + i, none⟩ = some (.int .u8 z)
theorem CodeAt.below {w w' : World} {A : Option Addr} {n : Nat} (h : CodeAt w A n) (hb : Below w.heap.size w w') : CodeAt w' A n := fun hn => by
  obtain ⟨b, off, rfl, hlt, hc⟩ := h hn
  exact ⟨b, off, rfl, Nat.lt_of_lt_of_le hlt hb.size, fun i hi => by
    obtain ⟨z, h0, h1, h2⟩ := hc i hi
    exact ⟨z, h0, h1, (hb.cell (p := ⟨b, _, none⟩) hlt).trans h2⟩⟩
/-- Block g is a cursor over the code .slice A n c, its place at most m; the code lies below G. -/
def CurAt (g G : Nat) (A : Option Addr) (n c m : Nat) (w : World) : Prop := ∃ at_ seed : Int, BlockIs w g 88 #[.slice A n c, .int .i64 at_, .int .i64 seed] ∧ 0 ≤ at_ ∧ at_ ≤ m ∧ 0 ≤ seed ∧ seed ≤ 1000000 ∧
  (0 < n → ∃ b off, A = some ⟨b, off, none⟩ ∧ b < G ∧ ∀ i, i < n → ∃ z : Int, 0 ≤ z ∧ z ≤ 255 ∧ w.cell? ⟨b, off + i, none⟩ = some (.int .u8 z))
theorem CurAt.lt {g G : Nat} {A : Option Addr} {n c m : Nat} {w : World} (h : CurAt g G A n c m w) : g < w.heap.size := by
  obtain ⟨_, _, hb, _⟩ := h; exact hb.lt
/-- The ending of a draw: a number of which P holds; the cursor has gone on by at most d. -/
def Drawn (P : Int → Prop) (g G : Nat) (A : Option Addr) (n c m : Nat) (w : World) (e : Ending) (w' : World) : Prop := ∃ z : Int, P z ∧ e = .returned (.int .i64 z) ∧ But g w w' ∧ CurAt g G A n c m w'

theorem CurAt.step {g G : Nat} {A : Option Addr} {n c m : Nat} {w w' : World} {at_ seed : Int} (hG : G ≤ g) (hg : g < w.heap.size) (hbut : But g w w') (hblk : BlockIs w' g 88 #[.slice A n c, .int .i64 at_, .int .i64 seed]) (h0 : 0 ≤ at_) (h1 : at_ ≤ m) (h2 : 0 ≤ seed) (h3 : seed ≤ 1000000)
    (hcode : 0 < n → ∃ b off, A = some ⟨b, off, none⟩ ∧ b < G ∧ ∀ i, i < n → ∃ z : Int, 0 ≤ z ∧ z ≤ 255 ∧ w.cell? ⟨b, off + i, none⟩ = some (.int .u8 z)) : CurAt g G A n c m w' :=
  ⟨at_, seed, hblk, h0, h1, h2, h3, fun hn => by
    obtain ⟨b, off, rfl, hb, hc⟩ := hcode hn
    exact ⟨b, off, rfl, hb, fun i hi => by
      obtain ⟨z, z0, z1, hz⟩ := hc i hi
      exact ⟨z, z0, z1, (hbut.cell _ (by omega) (by omega)).trans hz⟩⟩⟩
theorem mod_in {x k : Int} (hk : 2 ≤ k) : 0 ≤ x % k ∧ x % k < k := ⟨Int.emod_nonneg _ (by omega), Int.emod_lt_of_pos _ (by omega)⟩

set_option maxHeartbeats 1600000 in
theorem pick_any (g G : Nat) (A : Option Addr) (n c m : Nat) (k : Int) (w : World) (hG : G ≤ g) (hn : n ≤ 1048576) (hm : m ≤ 1000000000) (hk2 : 2 ≤ k) (hk : k ≤ 1000000) (h : CurAt g G A n c m w) :
    Calls Try.prog 42 #[.pointer (some ⟨g, 0, none⟩), .int .i64 k] w (Drawn (fun z => 0 ≤ z ∧ z < k) g G A n c (m + 1) w) := by
  obtain ⟨at_, seed, hblk, ha0, ham, hs0, hs1, hcode⟩ := h
  have c0 := hblk.cell 0
  have c1 := hblk.cell 1
  have c2 := hblk.cell 2
  have cf := hblk.frozen
  have hgl := hblk.lt
  simp at c0 c1 c2
  have HB := Lib.hid hblk
  clear hblk
  have HCD := Lib.hid hcode
  clear hcode
  by_cases hlt : at_ < n
  · obtain ⟨b, off, rfl, hbG, hc⟩ := HCD.out (by omega)
    obtain ⟨z, z0, z1, hz⟩ := hc at_.toNat (by omega)
    clear hc
    go_enter Try.func42, Try.ntmps42
    go_wp2_with fail
    go_quiet (fail)
    go_wp2_with fail
    go_quiet (fail)
    go_wp2_with fail
    go_ret
    refine ⟨z % k, mod_in hk2, rfl, ((But.refl g w).drewN _).put 1 _, ?_⟩
    exact CurAt.step (at_ := at_ + 1) (seed := seed) hG hgl (((But.refl g w).drewN _).put 1 _) (by simpa using (HB.out.drewN _).put 1 (.int .i64 (at_ + 1))) (by omega) (by omega) hs0 hs1 HCD.out
  · have hsb : 0 ≤ (seed * 1103 + 12345) % 65521 ∧ (seed * 1103 + 12345) % 65521 ≤ 65520 := by omega
    obtain ⟨b0, b1⟩ := hsb
    have HSB := Lib.hid (And.intro b0 b1)
    by_cases hn0 : n = 0
    · subst hn0
      clear b0 b1
      go_enter Try.func42, Try.ntmps42
      go_wp2_with fail
      go_quiet (fail)
      go_wp2_with fail
      go_ret
      refine ⟨_, ⟨?_, ?_⟩, rfl, (((But.refl g w).drewN _).put 2 _).put 1 _, ?_⟩
      · exact Int.le_refl _
      · omega
      · exact CurAt.step (at_ := at_ + 1) (seed := (seed * 1103 + 12345) % 65521) hG hgl ((((But.refl g w).drewN _).put 2 _).put 1 _) (by simpa using ((HB.out.drewN _).put 2 (.int .i64 ((seed * 1103 + 12345) % 65521))).put 1 (.int .i64 (at_ + 1))) (by omega) (by omega) HSB.out.1 (by have := HSB.out.2; omega) HCD.out
    · obtain ⟨b, off, rfl, hbG, hc⟩ := HCD.out (by omega)
      have hmb : 0 ≤ at_ % n ∧ at_ % n < n := ⟨Int.emod_nonneg _ (by omega), Int.emod_lt_of_pos _ (by omega)⟩
      obtain ⟨d0, d1⟩ := hmb
      obtain ⟨z, z0, z1, hz⟩ := hc (at_ % n).toNat (by omega)
      have hbg : b ≠ g := by omega
      have hn1 : (0 : Int) < (n : Int) := by omega
      clear hc hn0
      go_enter Try.func42, Try.ntmps42
      go_wp2_with fail
      go_quiet (fail)
      go_wp2_with fail
      go_quiet (fail)
      go_wp2_with fail
      go_ret
      refine ⟨_, mod_in hk2, rfl, ((((But.refl g w).drewN _).put 2 _).drewN _).put 1 _, ?_⟩
      exact CurAt.step (at_ := at_ + 1) (seed := (seed * 1103 + 12345) % 65521) hG hgl (((((But.refl g w).drewN _).put 2 _).drewN _).put 1 _) (by simpa using (((HB.out.drewN _).put 2 (.int .i64 ((seed * 1103 + 12345) % 65521))).drewN _).put 1 (.int .i64 (at_ + 1))) (by omega) (by omega) HSB.out.1 (by have := HSB.out.2; omega) HCD.out
end Go.Proofs.Ytjammpcfihlfaaa
