/- Slices of bytes: toByteS, eqByteS. (mkbyt.py) -/
import Derived.Test.YtcngiinaneefjaaSlInt
namespace Go.Proofs.Ytcngiinaneefjaa
open Go.RowKit

/-- From block b, place off on, the cells are the list's integers. -/
def BytAt (w : World) (b off : Nat) (l : List Int) : Prop := ∀ i r, l[i]? = some r → w.cell? ⟨b, off + i, none⟩ = some (.int .u8 r)
/-- A slice value that reads as the list. -/
def BytSl (w : World) (v : Value) (l : List Int) : Prop := (l = [] ∧ ∃ A c, v = .slice A 0 c) ∨ ∃ b off c, v = .slice (some ⟨b, off, none⟩) l.length c ∧ b < w.heap.size ∧ BytAt w b off l
theorem BytAt.below {w w' : World} {b off B : Nat} {l : List Int} (h : BytAt w b off l) (hb : Below B w w') (hB : b < B) : BytAt w' b off l := fun i r hr =>
  (hb.cell (p := ⟨b, _, none⟩) hB).trans (h i r hr)
theorem BytSl.below {w w' : World} {v : Value} {l : List Int} (h : BytSl w v l) (hb : Below w.heap.size w w') : BytSl w' v l := by
  rcases h with h | ⟨b, off, c, rfl, hlt, h⟩
  · exact .inl h
  · exact .inr ⟨b, off, c, rfl, Nat.lt_of_lt_of_le hlt hb.size, h.below hb hlt⟩
theorem BytSl.form {w : World} {v : Value} {l : List Int} (h : BytSl w v l) : ∃ A c, v = .slice A l.length c ∧ (0 < l.length → ∃ b off, A = some ⟨b, off, none⟩ ∧ b < w.heap.size ∧ BytAt w b off l) := by
  rcases h with ⟨rfl, A, c, rfl⟩ | ⟨b, off, c, rfl, hlt, h⟩
  · exact ⟨A, c, rfl, fun h => absurd h (by simp)⟩
  · exact ⟨_, c, rfl, fun _ => ⟨b, off, rfl, hlt, h⟩⟩
theorem BytAt.of_block {w : World} {g : Nat} {t : TypeId} {l : List Int} {cs : Array Value} (h : BlockIs w g t cs) (hc : ∀ (j : Nat) (r : Int), l[j]? = some r → cs[j]? = some (.int .u8 r)) : BytAt w g 0 l := fun i r hr => by
  simp only [Nat.zero_add]
  exact (h.cell _).trans (hc _ _ hr)

theorem Try.infoY : (Try.prog.info? 5).map (fun i => (i.zero, i.size, i.bytes)) = some (some (.int .u8 0), 1, 1) := by kernel_rfl
theorem make_byt (n : Nat) (h : n ≤ 1048576) (w : World) : (Instr.makeSlice 22 (.int .i64 (n : Int)) (.int .i64 (n : Int))).run Try.prog w = .ok (.slice (some ⟨w.heap.size, 0, none⟩) n n) (w.alloc (.cells (madeCells #[.int .u8 0] n) 5)) := by
  obtain ⟨i, hi, hzz⟩ := Option.map_eq_some_iff.1 Try.infoY
  simp only [Prod.mk.injEq] at hzz
  obtain ⟨hz, hs, hb⟩ := hzz
  have := run_make (P := Try.prog) w 22 5 i _ Try.underlying22 hi hz .i64 .i64 n n (by omega) (Int.le_refl _) (by rw [hb]; omega) (by omega)
  rw [this, hs]
  simp [Value.cells]

/-- The first k elements have been copied into the new block g. -/
def CopyByt (w : World) (g : Nat) (l : List Int) (k : Nat) (wr : World) : Prop := ∃ cs : Array Value, BlockIs wr g 5 cs ∧ cs.size = l.length ∧
  (∀ i r, i < k → l[i]? = some r → cs[i]? = some (.int .u8 r)) ∧ Below w.heap.size w wr
theorem CopyByt.put {w : World} {g : Nat} {l : List Int} {k : Nat} {r : Int} {wr : World} {cs : Array Value} (hs : cs.size = l.length) (hr : l[k]? = some r)
    (hc : ∀ i r, i < k → l[i]? = some r → cs[i]? = some (.int .u8 r))
    (hb : BlockIs wr g 5 (cs.setIfInBounds k (.int .u8 r))) (hB : Below w.heap.size w wr) : CopyByt w g l (k + 1) wr := by
  have hk : k < l.length := (List.getElem?_eq_some_iff.1 hr).1
  refine ⟨_, hb, by simp [hs], fun i r' hi hr' => ?_, hB⟩
  by_cases hik : i = k
  · subst hik
    obtain rfl := Option.some.inj (hr.symm.trans hr')
    simp [Array.getElem?_setIfInBounds, hs]; omega
  · rw [Array.getElem?_setIfInBounds_ne (by omega)]; exact hc i r' (by omega) hr'
/-- The ending 'a slice of its own that reads as the list'. -/
def NewByt (w : World) (l : List Int) (e : Ending) (w' : World) : Prop := ∃ g, e = .returned (.slice (some ⟨g, 0, none⟩) l.length l.length) ∧ w.heap.size ≤ g ∧ g < w'.heap.size ∧ BytAt w' g 0 l ∧ Below w.heap.size w w'
theorem CopyByt.done {w wr : World} {g : Nat} {l : List Int} (h : CopyByt w g l l.length wr) : BytAt wr g 0 l := by
  obtain ⟨cs, hb, hs, hc, _⟩ := h
  exact BytAt.of_block hb (fun j r hr => hc j r (List.getElem?_eq_some_iff.1 hr).1 hr)

set_option maxHeartbeats 1600000 in
theorem toByteS_any (v : Value) (l : List Int) (w : World) (hv : BytSl w v l) (hlen : l.length ≤ 1048576) :
    Calls Try.prog 15 #[v] w (NewByt w l) := by
  obtain ⟨A, c, rfl, hA⟩ := hv.form
  have HA := Lib.hid hA
  clear hA hv
  have hmk := make_byt l.length hlen
  go_enter Try.func15, Try.ntmps15
  go_wp2_with fail
  go_loopw [4] (fun s4 wr => ∃ k : Nat, k ≤ l.length ∧ s4 = .int .i64 k ∧ CopyByt w w.heap.size l k wr) (fun s4 _ => (l.length - intOf s4).toNat)
  case atStart =>
    exact ⟨0, by omega, rfl, _, BlockIs.new _ _ _, by simpa using size_madeCells _ _, fun i r hi => absurd hi (by omega), (by repeat' (first | exact Below.refl _ _ | refine Below.alloc ?_ ?_ _ | refine Below.setCell ?_ ?_ _ | refine Below.drew ?_ | (apply below_step; assumption) | (simp; done) | (simp; omega) | omega))⟩
  case round =>
    obtain ⟨k, hk, rfl, HC⟩ := hrel
    by_cases hlt : k < l.length
    · obtain ⟨b, off, rfl, hbw, hat⟩ := HA.out (by omega)
      obtain ⟨r, hr⟩ : ∃ r, l[k]? = some r := ⟨_, List.getElem?_eq_getElem hlt⟩
      obtain ⟨cs, hblk, hs, hc, hB⟩ := HC
      have q0 := (hat.below hB hbw) k r hr
      have hzr := hB.size
      have hgl := hblk.lt
      have HR := Lib.hid hr
      have HCC := Lib.hid hc
      have HBL := Lib.hid hblk
      have HSZ := Lib.hid hs
      have u0 : wr.cell? ⟨w.heap.size, k, none⟩ = some (cs[k]'(by omega)) := by rw [hblk.cell]; exact Array.getElem?_eq_getElem (by omega)
      generalize cs[k]'(by omega) = x0 at u0
      have uf := hblk.frozen
      clear hat hr hc hblk hs
      go_wp2_with fail
      go_roundw
      case rel =>
        refine ⟨k + 1, by omega, by go_num, CopyByt.put HSZ.out HR.out HCC.out ?_ (by repeat' (first | exact Below.refl _ _ | refine Below.alloc ?_ ?_ _ | refine Below.setCell ?_ ?_ _ | refine Below.drew ?_ | (apply below_step; assumption) | (simp; done) | (simp; omega) | omega))⟩
        exact HBL.out.put _ _
      case measure => simp [intOf]; omega
    · have hkl : k = l.length := by omega
      subst hkl
      have HD := Lib.hid HC.done
      obtain ⟨cs, hblk, hs, hc, hB⟩ := HC
      have hgl := hblk.lt
      clear hblk hs hc
      go_wp2_with fail
      go_ret
      exact ⟨w.heap.size, rfl, Nat.le_refl _, hgl, HD.out, hB⟩

set_option maxHeartbeats 1600000 in
theorem eqByteS_same (v1 v2 : Value) (l : List Int) (w : World) (h1 : BytSl w v1 l) (h2 : BytSl w v2 l) (hlen : l.length ≤ 1048576) :
    Calls Try.prog 11 #[v1, v2] w fun e w' => e = .returned (.bool true) ∧ Below w.heap.size w w' := by
  obtain ⟨A, c, rfl, hA⟩ := h1.form
  obtain ⟨A2, c2, rfl, hA2⟩ := h2.form
  have HA := Lib.hid hA
  have HA2 := Lib.hid hA2
  clear hA hA2 h1 h2
  have hnn : ((l.length : Int) != (l.length : Int)) = false := by simp
  go_enter Try.func11, Try.ntmps11
  go_wp2_with fail
  go_loopw [5] (fun s5 wr => ∃ k : Nat, k ≤ l.length ∧ s5 = .int .i64 k ∧ Below w.heap.size w wr) (fun s5 _ => (l.length - intOf s5).toNat)
  case atStart => exact ⟨0, by omega, rfl, Below.refl _ _⟩
  case round =>
    obtain ⟨k, hk, rfl, hB⟩ := hrel
    have hzr := hB.size
    by_cases hlt : k < l.length
    · obtain ⟨b, off, rfl, hbw, hat⟩ := HA.out (by omega)
      obtain ⟨b2, off2, rfl, hbw2, hat2⟩ := HA2.out (by omega)
      obtain ⟨r, hr⟩ : ∃ r, l[k]? = some r := ⟨_, List.getElem?_eq_getElem hlt⟩
      have q0 := (hat.below hB hbw) k r hr
      have p0 := (hat2.below hB hbw2) k r hr
      have hlti : (k : Int) < (l.length : Int) := by omega
      have hk0 : (0 : Int) ≤ (k : Int) := by omega
      have hrr : (r != r) = false := by simp
      clear hat hat2 hr
      go_wp2_with fail
      go_quiet (fail)
      go_wp2_with fail
      go_roundw
      case rel => exact ⟨k + 1, by omega, by go_num, below_drewN hB _⟩
      case measure => simp [intOf]; omega
    · go_wp2_with fail
      go_ret
      exact ⟨rfl, hB⟩

end Go.Proofs.Ytcngiinaneefjaa
