/- The laws' helpers over slices of amounts: toResS, eqResS, szResS. -/
import Derived.Test.YtfgdefgnhhimcaaDoorSumI
import Derived.Test.YtfgdefgnhhimcaaDoorTwo
namespace Go.Proofs.YtfgdefgnhhimcaaDoor
open Go.RowKit

theorem szResS_yes (A : Option Addr) (n c : Nat) (w : World) (h : n ≤ 1048576) :
    Calls Tryd.prog 34 #[.slice A n c, .int .i64 1048576] w fun e w' => e = .returned (.int .i64 (1048576 - n)) ∧ w = w' := by
  have h1 : (n : Int) ≤ 1048576 := by omega
  go_enter Tryd.func34, Tryd.ntmps34
  go_wp2
  go_ret
  exact ⟨rfl, rfl⟩
theorem szResS_no (A : Option Addr) (n c : Nat) (w : World) (h : 1048576 < n) (hm : n ≤ maxLen) :
    Calls Tryd.prog 34 #[.slice A n c, .int .i64 1048576] w fun e w' => e = .returned (.int .i64 (-1)) ∧ w = w' := by
  unfold maxLen at hm
  have h1 : (1048576 : Int) < (n : Int) := by omega
  go_enter Tryd.func34, Tryd.ntmps34
  go_wp2
  go_ret
  exact ⟨rfl, rfl⟩

theorem Tryd.infoRes : (Tryd.prog.info? 25).map (fun i => (i.zero, i.size, i.bytes)) = some (some (.agg #[.int .i64 0, .int .i64 0, .int .i64 0]), 3, 24) := by kernel_rfl
theorem make_res (n : Nat) (h : n ≤ 1048576) (w : World) : (Instr.makeSlice 32 (.int .i64 (n : Int)) (.int .i64 (n : Int))).run Tryd.prog w = .ok (.slice (some ⟨w.heap.size, 0, none⟩) n n) (w.alloc (.cells (madeCells #[.int .i64 0, .int .i64 0, .int .i64 0] (n * 3)) 25)) := by
  obtain ⟨i, hi, hzz⟩ := Option.map_eq_some_iff.1 Tryd.infoRes
  simp only [Prod.mk.injEq] at hzz
  obtain ⟨hz, hs, hb⟩ := hzz
  have := run_make (P := Tryd.prog) w 32 25 i _ Tryd.underlying32 hi hz .i64 .i64 n n (by omega) (Int.le_refl _) (by rw [hb]; omega) (by omega)
  rw [this, hs]
  simp [Value.cells]

/-- The first k elements have been copied into the new block g. -/
def CopyAt (w : World) (g : Nat) (l : List RV) (k : Nat) (wr : World) : Prop := ∃ cs : Array Value, BlockIs wr g 25 cs ∧ cs.size = l.length * 3 ∧
  (∀ i r, i < k → l[i]? = some r → cs[i * 3]? = some (.int .i64 r.c) ∧ cs[i * 3 + 1]? = some (.int .i64 r.m) ∧ cs[i * 3 + 2]? = some (.int .i64 r.p)) ∧ Below w.heap.size w wr
theorem CopyAt.put {w : World} {g : Nat} {l : List RV} {k : Nat} {r : RV} {wr : World} {cs : Array Value} (hs : cs.size = l.length * 3) (hr : l[k]? = some r)
    (hc : ∀ i r, i < k → l[i]? = some r → cs[i * 3]? = some (.int .i64 r.c) ∧ cs[i * 3 + 1]? = some (.int .i64 r.m) ∧ cs[i * 3 + 2]? = some (.int .i64 r.p))
    (hb : BlockIs wr g 25 (((cs.setIfInBounds (k * 3) (.int .i64 r.c)).setIfInBounds (k * 3 + 1) (.int .i64 r.m)).setIfInBounds (k * 3 + 2) (.int .i64 r.p))) (hB : Below w.heap.size w wr) : CopyAt w g l (k + 1) wr := by
  have hk : k < l.length := (List.getElem?_eq_some_iff.1 hr).1
  refine ⟨_, hb, by simp [hs], fun i r' hi hr' => ?_, hB⟩
  by_cases hik : i = k
  · subst hik
    obtain rfl := Option.some.inj (hr.symm.trans hr')
    refine ⟨?_, ?_, ?_⟩ <;> simp [Array.getElem?_setIfInBounds, hs] <;> omega
  · obtain ⟨h1, h2, h3⟩ := hc i r' (by omega) hr'
    refine ⟨?_, ?_, ?_⟩
    · rw [Array.getElem?_setIfInBounds_ne (by omega), Array.getElem?_setIfInBounds_ne (by omega), Array.getElem?_setIfInBounds_ne (by omega)]; exact h1
    · rw [Array.getElem?_setIfInBounds_ne (by omega), Array.getElem?_setIfInBounds_ne (by omega), Array.getElem?_setIfInBounds_ne (by omega)]; exact h2
    · rw [Array.getElem?_setIfInBounds_ne (by omega), Array.getElem?_setIfInBounds_ne (by omega), Array.getElem?_setIfInBounds_ne (by omega)]; exact h3
/-- The ending 'a slice of its own that reads as the list'. -/
def NewSl (w : World) (l : List RV) (e : Ending) (w' : World) : Prop := ∃ g, e = .returned (.slice (some ⟨g, 0, none⟩) l.length l.length) ∧ w.heap.size ≤ g ∧ g < w'.heap.size ∧ ResAt w' g 0 l ∧ Below w.heap.size w w'
theorem CopyAt.done {w wr : World} {g : Nat} {l : List RV} (h : CopyAt w g l l.length wr) : ResAt wr g 0 l := by
  obtain ⟨cs, hb, hs, hc, _⟩ := h
  intro i r hr
  have hi : i < l.length := (List.getElem?_eq_some_iff.1 hr).1
  obtain ⟨h1, h2, h3⟩ := hc i r hi hr
  simp only [Nat.zero_add]
  exact ⟨(hb.cell _).trans h1, (hb.cell _).trans h2, (hb.cell _).trans h3⟩

set_option maxHeartbeats 1600000 in
theorem toResS_any (v : Value) (l : List RV) (w : World) (hv : ResSl w v l) (hlen : l.length ≤ 1048576) :
    Calls Tryd.prog 35 #[v] w (NewSl w l) := by
  obtain ⟨A, c, rfl, hA⟩ := hv.form
  have HA := Lib.hid hA
  clear hA hv
  have hmk := make_res l.length hlen
  go_enter Tryd.func35, Tryd.ntmps35
  go_wp2_with fail
  go_loopw [4] (fun s4 wr => ∃ k : Nat, k ≤ l.length ∧ s4 = .int .i64 k ∧ CopyAt w w.heap.size l k wr) (fun s4 _ => (l.length - intOf s4).toNat)
  case atStart =>
    exact ⟨0, by omega, rfl, _, BlockIs.new _ _ _, size_madeCells _ _, fun i r hi => absurd hi (by omega), (by repeat' (first | exact Below.refl _ _ | refine Below.alloc ?_ ?_ _ | refine Below.setCell ?_ ?_ _ | refine Below.drew ?_ | (apply below_step; assumption) | (simp; done) | (simp; omega) | omega))⟩
  case round =>
    obtain ⟨k, hk, rfl, HC⟩ := hrel
    by_cases hlt : k < l.length
    · obtain ⟨b, off, rfl, hbw, hat⟩ := HA.out (by omega)
      obtain ⟨r, hr⟩ : ∃ r, l[k]? = some r := ⟨_, List.getElem?_eq_getElem hlt⟩
      obtain ⟨cs, hblk, hs, hc, hB⟩ := HC
      obtain ⟨q0, q1, q2⟩ := (hat.below hB hbw) k r hr
      have hzr := hB.size
      have hgl := hblk.lt
      have HR := Lib.hid hr
      have HCC := Lib.hid hc
      have HBL := Lib.hid hblk
      have HSZ := Lib.hid hs
      clear hat hr hc hblk hs
      go_wp2_with fail
      refine (toRes_any r _).mono ?_
      rintro e w3 ⟨rfl, hb3⟩
      have hz3 := hb3.size
      have hB3 := HBL.out.below hb3 hgl
      have hs := HSZ.out
      have u0 : w3.cell? ⟨w.heap.size, k * 3, none⟩ = some (cs[k * 3]'(by omega)) := by rw [hB3.cell]; exact Array.getElem?_eq_getElem (by omega)
      have u1 : w3.cell? ⟨w.heap.size, k * 3 + 1, none⟩ = some (cs[k * 3 + 1]'(by omega)) := by rw [hB3.cell]; exact Array.getElem?_eq_getElem (by omega)
      have u2 : w3.cell? ⟨w.heap.size, k * 3 + 2, none⟩ = some (cs[k * 3 + 2]'(by omega)) := by rw [hB3.cell]; exact Array.getElem?_eq_getElem (by omega)
      generalize cs[k * 3]'(by omega) = x0 at u0
      generalize cs[k * 3 + 1]'(by omega) = x1 at u1
      generalize cs[k * 3 + 2]'(by omega) = x2 at u2
      have uf := hB3.frozen
      have HB3 := Lib.hid hB3
      clear hs hB3
      go_wp2_with fail
      go_roundw
      case rel =>
        refine ⟨k + 1, by omega, by go_num, CopyAt.put HSZ.out HR.out HCC.out ?_ (by repeat' (first | exact Below.refl _ _ | refine Below.alloc ?_ ?_ _ | refine Below.setCell ?_ ?_ _ | refine Below.drew ?_ | (apply below_step; assumption) | (simp; done) | (simp; omega) | omega))⟩
        exact ((HB3.out.put _ _).put _ _).put _ _
      case measure => simp [intOf]; omega
    · have hkl : k = l.length := by omega
      subst hkl
      have HD := Lib.hid HC.done
      obtain ⟨cs, hblk, hs, hc, hB⟩ := HC
      have hgl := hblk.lt
      clear hblk hs hc
      go_wp2_with fail
      go_ret
      exact ⟨w.heap.size, rfl, Nat.le_refl _, hgl, HD.out, hB⟩
end Go.Proofs.YtfgdefgnhhimcaaDoor
