/- The laws' helpers over slices of labels: toLab, toLabS, eqLab, eqLabS, szLabS. -/
import Derived.Test.YtcegofdmdemcbaaDoorLabD
import Derived.Deep.RegionHeld3
namespace Go.Proofs.YtcegofdmdemcbaaDoor
open Go.RowKit

theorem szLabS_yes (A : Option Addr) (n c : Nat) (z : Int) (w : World) (hz : z ≤ 1048576) (h : (n : Int) ≤ z) :
    Calls Tryd.prog 21 #[.slice A n c, .int .i64 z] w fun e w' => e = .returned (.int .i64 (z - n)) ∧ w = w' := by
  go_enter Tryd.func21, Tryd.ntmps21
  go_wp2
  go_ret
  exact ⟨rfl, rfl⟩
theorem szLabS_no (A : Option Addr) (n c : Nat) (z : Int) (w : World) (h0 : 0 ≤ z) (h : z < n) (hm : n ≤ maxLen) :
    Calls Tryd.prog 21 #[.slice A n c, .int .i64 z] w fun e w' => e = .returned (.int .i64 (-1)) ∧ w = w' := by
  unfold maxLen at hm
  go_enter Tryd.func21, Tryd.ntmps21
  go_wp2
  go_ret
  exact ⟨rfl, rfl⟩

theorem toLab_any (r : LV) (w : World) :
    Calls Tryd.prog 36 #[.agg #[.int .i64 r.k, .int .i64 r.v]] w fun e w' => e = .returned (.agg #[.int .i64 r.k, .int .i64 r.v]) ∧ Below w.heap.size w w' := by
  go_enter Tryd.func36, Tryd.ntmps36
  go_wp2
  exact bodyPost_ret (v := .agg #[.int .i64 r.k, .int .i64 r.v]) (by simp [results, Tryd.results36, go_sem]) rfl ⟨rfl, (by repeat' (first | exact Below.refl _ _ | refine Below.alloc ?_ ?_ _ | refine Below.setCell ?_ ?_ _ | refine Below.drew ?_ | (apply below_step; assumption) | (simp; done) | (simp; omega) | omega))⟩
/-- eqLab of two equal labels. -/
theorem eqLab_same (r : LV) (w : World) :
    Calls Tryd.prog 41 #[.agg #[.int .i64 r.k, .int .i64 r.v], .agg #[.int .i64 r.k, .int .i64 r.v]] w fun e w' => e = .returned (.bool true) ∧ Below w.heap.size w w' := by
  have h1 : (r.k != r.k) = false := by simp
  have h2 : (r.v != r.v) = false := by simp
  go_enter Tryd.func41, Tryd.ntmps41
  go_wp2
  go_ret
  exact ⟨rfl, (by repeat' (first | exact Below.refl _ _ | refine Below.alloc ?_ ?_ _ | refine Below.setCell ?_ ?_ _ | refine Below.drew ?_ | (apply below_step; assumption) | (simp; done) | (simp; omega) | omega))⟩

/-- The cells of a list of labels. -/
def labL (l : List LV) : List Value := l.flatMap fun x => [.int .i64 x.k, .int .i64 x.v]
theorem labL_len (l : List LV) : (labL l).length = l.length * 2 := by
  induction l with
  | nil => rfl
  | cons x r ih => simp [labL] at ih ⊢; omega
theorem labL_cons (x : LV) (r : List LV) : labL (x :: r) = .int .i64 x.k :: .int .i64 x.v :: labL r := rfl
theorem labL_at {l : List LV} {i : Nat} {x : LV} (h : l[i]? = some x) : (labL l)[i * 2]? = some (.int .i64 x.k) ∧ (labL l)[i * 2 + 1]? = some (.int .i64 x.v) := by
  induction l generalizing i with
  | nil => simp at h
  | cons y r ih =>
    cases i with
    | zero => simp at h; subst h; exact ⟨rfl, rfl⟩
    | succ i =>
      simp at h
      have := ih h
      rw [labL_cons, show (i + 1) * 2 = i * 2 + 1 + 1 by omega]
      simpa using this
theorem labL_ext {l : List LV} {cs : List Value} (hl : cs.length = l.length * 2) (h : ∀ i r, l[i]? = some r → cs[i * 2]? = some (.int .i64 r.k) ∧ cs[i * 2 + 1]? = some (.int .i64 r.v)) : cs = labL l := by
  apply List.ext_getElem?
  intro j
  rcases Nat.lt_or_ge (j / 2) l.length with hj | hj
  · obtain ⟨r, hr⟩ : ∃ r, l[j / 2]? = some r := ⟨_, List.getElem?_eq_getElem hj⟩
    obtain ⟨a1, a2⟩ := h _ _ hr
    obtain ⟨b1, b2⟩ := labL_at hr
    rcases Nat.mod_two_eq_zero_or_one j with e | e
    · have : j / 2 * 2 = j := by omega
      rw [this] at a1 b1; rw [a1, b1]
    · have : j / 2 * 2 + 1 = j := by omega
      rw [this] at a2 b2; rw [a2, b2]
  · rw [List.getElem?_eq_none (by omega), List.getElem?_eq_none (by rw [labL_len]; omega)]
theorem LabAt.of_block {w : World} {g : Nat} {t : TypeId} {l : List LV} {cs : Array Value} (h : BlockIs w g t cs) (hc : ∀ (j : Nat) (u : Value), (labL l)[j]? = some u → cs[j]? = some u) : LabAt w g 0 l := fun i r hr => by
  obtain ⟨h1, h2⟩ := labL_at hr
  simp only [Nat.zero_add]
  exact ⟨(h.cell _).trans (hc _ _ h1), (h.cell _).trans (hc _ _ h2)⟩
theorem LabAt.of_cells {w : World} {g : Nat} {t : TypeId} {l : List LV} (h : BlockIs w g t (labL l).toArray) : LabAt w g 0 l := LabAt.of_block h (fun j u hu => by simpa using hu)

theorem Tryd.infoLab : (Tryd.prog.info? 59).map (fun i => (i.zero, i.size, i.bytes)) = some (some (.agg #[.int .i64 0, .int .i64 0]), 2, 16) := by kernel_rfl
theorem make_lab (n : Nat) (h : n ≤ 1048576) (w : World) : (Instr.makeSlice 33 (.int .i64 (n : Int)) (.int .i64 (n : Int))).run Tryd.prog w = .ok (.slice (some ⟨w.heap.size, 0, none⟩) n n) (w.alloc (.cells (madeCells #[.int .i64 0, .int .i64 0] (n * 2)) 59)) := by
  obtain ⟨i, hi, hzz⟩ := Option.map_eq_some_iff.1 Tryd.infoLab
  simp only [Prod.mk.injEq] at hzz
  obtain ⟨hz, hs, hb⟩ := hzz
  have := run_make (P := Tryd.prog) w 33 59 i _ Tryd.underlying33 hi hz .i64 .i64 n n (by omega) (Int.le_refl _) (by rw [hb]; omega) (by omega)
  rw [this, hs]
  simp [Value.cells]

/-- The first k elements have been copied into the new block g. -/
def CopyLab (w : World) (g : Nat) (l : List LV) (k : Nat) (wr : World) : Prop := ∃ cs : Array Value, BlockIs wr g 59 cs ∧ cs.size = l.length * 2 ∧
  (∀ i r, i < k → l[i]? = some r → cs[i * 2]? = some (.int .i64 r.k) ∧ cs[i * 2 + 1]? = some (.int .i64 r.v)) ∧ Below w.heap.size w wr
theorem CopyLab.put {w : World} {g : Nat} {l : List LV} {k : Nat} {r : LV} {wr : World} {cs : Array Value} (hs : cs.size = l.length * 2) (hr : l[k]? = some r)
    (hc : ∀ i r, i < k → l[i]? = some r → cs[i * 2]? = some (.int .i64 r.k) ∧ cs[i * 2 + 1]? = some (.int .i64 r.v))
    (hb : BlockIs wr g 59 ((cs.setIfInBounds (k * 2) (.int .i64 r.k)).setIfInBounds (k * 2 + 1) (.int .i64 r.v))) (hB : Below w.heap.size w wr) : CopyLab w g l (k + 1) wr := by
  have hk : k < l.length := (List.getElem?_eq_some_iff.1 hr).1
  refine ⟨_, hb, by simp [hs], fun i r' hi hr' => ?_, hB⟩
  by_cases hik : i = k
  · subst hik
    obtain rfl := Option.some.inj (hr.symm.trans hr')
    refine ⟨?_, ?_⟩ <;> simp [Array.getElem?_setIfInBounds, hs] <;> omega
  · obtain ⟨h1, h2⟩ := hc i r' (by omega) hr'
    refine ⟨?_, ?_⟩
    · rw [Array.getElem?_setIfInBounds_ne (by omega), Array.getElem?_setIfInBounds_ne (by omega)]; exact h1
    · rw [Array.getElem?_setIfInBounds_ne (by omega), Array.getElem?_setIfInBounds_ne (by omega)]; exact h2
/-- The ending 'a slice of its own that reads as the list'. -/
def NewLab (w : World) (l : List LV) (e : Ending) (w' : World) : Prop := ∃ g, e = .returned (.slice (some ⟨g, 0, none⟩) l.length l.length) ∧ w.heap.size ≤ g ∧ BlockIs w' g 59 (labL l).toArray ∧ Below w.heap.size w w'
theorem CopyLab.done {w wr : World} {g : Nat} {l : List LV} (h : CopyLab w g l l.length wr) : BlockIs wr g 59 (labL l).toArray := by
  obtain ⟨cs, hb, hs, hc, _⟩ := h
  have : cs = (labL l).toArray := by
    rw [← labL_ext (cs := cs.toList) (by simpa using hs) (fun i r hr => by simpa using hc i r (List.getElem?_eq_some_iff.1 hr).1 hr)]
  rw [← this]; exact hb

set_option maxHeartbeats 1600000 in
theorem toLabS_any (v : Value) (l : List LV) (w : World) (hv : LabSl w v l) (hlen : l.length ≤ 1048576) :
    Calls Tryd.prog 27 #[v] w (NewLab w l) := by
  obtain ⟨A, c, rfl, hA⟩ := hv.form
  have HA := Lib.hid hA
  clear hA hv
  have hmk := make_lab l.length hlen
  go_enter Tryd.func27, Tryd.ntmps27
  go_wp2_with fail
  go_loopw [4] (fun s4 wr => ∃ k : Nat, k ≤ l.length ∧ s4 = .int .i64 k ∧ CopyLab w w.heap.size l k wr) (fun s4 _ => (l.length - intOf s4).toNat)
  case atStart =>
    exact ⟨0, by omega, rfl, _, BlockIs.new _ _ _, size_madeCells _ _, fun i r hi => absurd hi (by omega), (by repeat' (first | exact Below.refl _ _ | refine Below.alloc ?_ ?_ _ | refine Below.setCell ?_ ?_ _ | refine Below.drew ?_ | (apply below_step; assumption) | (simp; done) | (simp; omega) | omega))⟩
  case round =>
    obtain ⟨k, hk, rfl, HC⟩ := hrel
    by_cases hlt : k < l.length
    · obtain ⟨b, off, rfl, hbw, hat⟩ := HA.out (by omega)
      obtain ⟨r, hr⟩ : ∃ r, l[k]? = some r := ⟨_, List.getElem?_eq_getElem hlt⟩
      obtain ⟨cs, hblk, hs, hc, hB⟩ := HC
      obtain ⟨q0, q1⟩ := (hat.below hB hbw) k r hr
      have hzr := hB.size
      have hgl := hblk.lt
      have HR := Lib.hid hr
      have HCC := Lib.hid hc
      have HBL := Lib.hid hblk
      have HSZ := Lib.hid hs
      clear hat hr hc hblk hs
      go_wp2_with fail
      refine (toLab_any r _).mono ?_
      rintro e w3 ⟨rfl, hb3⟩
      have hz3 := hb3.size
      have hB3 := HBL.out.below hb3 hgl
      have hs := HSZ.out
      have u0 : w3.cell? ⟨w.heap.size, k * 2, none⟩ = some (cs[k * 2]'(by omega)) := by rw [hB3.cell]; exact Array.getElem?_eq_getElem (by omega)
      have u1 : w3.cell? ⟨w.heap.size, k * 2 + 1, none⟩ = some (cs[k * 2 + 1]'(by omega)) := by rw [hB3.cell]; exact Array.getElem?_eq_getElem (by omega)
      generalize cs[k * 2]'(by omega) = x0 at u0
      generalize cs[k * 2 + 1]'(by omega) = x1 at u1
      have uf := hB3.frozen
      have HB3 := Lib.hid hB3
      clear hs hB3
      go_wp2_with fail
      go_roundw
      case rel =>
        refine ⟨k + 1, by omega, by go_num, CopyLab.put HSZ.out HR.out HCC.out ?_ (by repeat' (first | exact Below.refl _ _ | refine Below.alloc ?_ ?_ _ | refine Below.setCell ?_ ?_ _ | refine Below.drew ?_ | (apply below_step; assumption) | (simp; done) | (simp; omega) | omega))⟩
        exact (HB3.out.put _ _).put _ _
      case measure => simp [intOf]; omega
    · have hkl : k = l.length := by omega
      subst hkl
      have HD := Lib.hid HC.done
      obtain ⟨cs, hblk, hs, hc, hB⟩ := HC
      have hgl := hblk.lt
      clear hblk hs hc
      go_wp2_with fail
      go_ret
      exact ⟨w.heap.size, rfl, Nat.le_refl _, HD.out, hB⟩

theorem four_keep (X : World) {b0 o0 b1 o1 b2 o2 b3 o3 : Nat} {v0 v1 v2 v3 : Value} (h : X.cell? ⟨b0, o0, none⟩ = some v0 ∧ X.cell? ⟨b1, o1, none⟩ = some v1 ∧ X.cell? ⟨b2, o2, none⟩ = some v2 ∧ X.cell? ⟨b3, o3, none⟩ = some v3) : ∀ w' : World, Below X.heap.size X w' → Below X.heap.size X w' ∧ w'.cell? ⟨b0, o0, none⟩ = some v0 ∧ w'.cell? ⟨b1, o1, none⟩ = some v1 ∧ w'.cell? ⟨b2, o2, none⟩ = some v2 ∧ w'.cell? ⟨b3, o3, none⟩ = some v3 := by
  intro w' hb
  obtain ⟨h0, h1, h2, h3⟩ := h
  refine ⟨hb, ?_, ?_, ?_, ?_⟩
  · exact (hb.cell (p := ⟨b0, o0, none⟩) (World.block_lt_of_cell? _ _ h0)).trans h0
  · exact (hb.cell (p := ⟨b1, o1, none⟩) (World.block_lt_of_cell? _ _ h1)).trans h1
  · exact (hb.cell (p := ⟨b2, o2, none⟩) (World.block_lt_of_cell? _ _ h2)).trans h2
  · exact (hb.cell (p := ⟨b3, o3, none⟩) (World.block_lt_of_cell? _ _ h3)).trans h3

set_option maxHeartbeats 1600000 in
theorem eqLabS_same (v1 v2 : Value) (l : List LV) (w : World) (h1 : LabSl w v1 l) (h2 : LabSl w v2 l) (hlen : l.length ≤ 1048576) :
    Calls Tryd.prog 33 #[v1, v2] w fun e w' => e = .returned (.bool true) ∧ Below w.heap.size w w' := by
  obtain ⟨A, c, rfl, hA⟩ := h1.form
  obtain ⟨A2, c2, rfl, hA2⟩ := h2.form
  have HA := Lib.hid hA
  have HA2 := Lib.hid hA2
  clear hA hA2 h1 h2
  have hnn : ((l.length : Int) != (l.length : Int)) = false := by simp
  go_enter Tryd.func33, Tryd.ntmps33
  go_wp2_with fail
  go_loopw [5] (fun s5 wr => ∃ k : Nat, k ≤ l.length ∧ s5 = .int .i64 k ∧ Below w.heap.size w wr) (fun s5 _ => (l.length - intOf s5).toNat)
  case atStart => exact ⟨0, by omega, rfl, Below.refl _ _⟩
  case round =>
    obtain ⟨k, hk, rfl, hB⟩ := hrel
    have hzr := hB.size
    by_cases hlt : k < l.length
    · obtain ⟨b, off, rfl, hbw, hat⟩ := HA.out (by omega)
      obtain ⟨b2, off2, rfl, hbw2, hat2⟩ := HA2.out (by omega)
      obtain ⟨r, hr⟩ : ∃ r, l[k]? = some r := ⟨_, List.getElem?_eq_getElem hlt⟩
      obtain ⟨q0, q1⟩ := (hat.below hB hbw) k r hr
      obtain ⟨p0, p1⟩ := (hat2.below hB hbw2) k r hr
      have HK := Lib.hid (four_keep wr ⟨q0, q1, p0, p1⟩)
      have hlti : (k : Int) < (l.length : Int) := by omega
      have hk0 : (0 : Int) ≤ (k : Int) := by omega
      clear hat hat2 hr
      go_wp2_with fail
      go_region_held3 (fun w' => Below wr.heap.size wr w' ∧ w'.cell? ⟨b, off + k * 2, none⟩ = some (.int .i64 r.k) ∧ w'.cell? ⟨b, off + k * 2 + 1, none⟩ = some (.int .i64 r.v) ∧ w'.cell? ⟨b2, off2 + k * 2, none⟩ = some (.int .i64 r.k) ∧ w'.cell? ⟨b2, off2 + k * 2 + 1, none⟩ = some (.int .i64 r.v))
        (exact HK.out _ (by repeat' (first | exact Below.refl _ _ | refine Below.alloc ?_ ?_ _ | refine Below.setCell ?_ ?_ _ | refine Below.drew ?_ | (apply below_step; assumption) | (simp; done) | (simp; omega) | omega)))
        (first | (go_at_call 41; refine (eqLab_same r _).mono ?_; rintro e w3 ⟨rfl, hb3⟩; have hz3 := hb3.size; try simp at hz3))
      go_wp2_with fail
      go_roundw
      case rel => exact ⟨k + 1, by omega, by go_num, (by repeat' (first | exact Below.refl _ _ | refine Below.alloc ?_ ?_ _ | refine Below.setCell ?_ ?_ _ | refine Below.drew ?_ | (apply below_step; assumption) | (simp; done) | (simp; omega) | omega))⟩
      case measure => simp [intOf]; omega
    · go_wp2_with fail
      go_ret
      exact ⟨rfl, hB⟩
end Go.Proofs.YtcegofdmdemcbaaDoor
