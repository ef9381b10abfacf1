/- The laws' helpers that write marks and look for them, over flat lists: markLabS, markIntS, markBindS, heldLabS, heldIntS, heldBindS. -/
import Derived.Test.YtocfgejceoenmaaDoorRowStep
import Derived.Test.YtocfgejceoenmaaDoorMarkV
import Derived.Test.YtocfgejceoenmaaDoorCluCopyC
namespace Go.Proofs.YtocfgejceoenmaaDoor
open Go.RowKit

theorem grown_set {w w' : World} {g : Nat} {row : Option Nat} (h : w.grownBy w' row) (hr : row = some g) (o : Nat) (u : Value) : w.grownBy (w'.setCell ⟨g, o, none⟩ u) row :=
  ⟨h.os, h.tape, h.output, by simpa [World.setCell] using h.size, fun k hk hg => (Below.heap_setCell _ _ _ _ (fun e => hg (by rw [e, hr]))).trans (h.block k hk hg)⟩
theorem labL_snoc (a : List LV) (x : LV) : labL (a ++ [x]) = labL a ++ [.int .i64 x.k, .int .i64 x.v] := by simp [labL]
theorem bindL_snoc (a : List BV) (x : BV) : bindL (a ++ [x]) = bindL a ++ [.int .i64 x.task, .int .i64 x.node] := by simp [bindL]
theorem bind_xs {w : World} {l : List BV} {xs : List Value} {b : List Nat} (h : Elems BindO w l xs b) : xs = bindL l ∧ b = [] := by
  induction l generalizing xs b with
  | nil => exact h
  | cons x r ih =>
    obtain ⟨cs, ys, b1, b2, rfl, rfl, ⟨rfl, rfl⟩, h2⟩ := h
    obtain ⟨rfl, rfl⟩ := ih h2
    exact ⟨rfl, rfl⟩
/-- A row of two ints an element. -/
def TwoO (ty : TypeId) (w : World) (v : Value) (n : Nat) (xs : List Value) : Prop := w.ownsRow 0 ty 2 v n xs

set_option maxHeartbeats 1600000 in
theorem markLabS_any (v : Value) (l : List LV) (k : Int) (w : World) (h : LabO w v l) (hl : l.length ≤ 1048576) (h0 : 0 ≤ k) (hk : k ≤ 1152921504606846976) :
    Calls Tryd.prog 33 #[v, .int .i64 k] w fun e w' => e = .returned (.int .i64 (k + 2 * l.length)) ∧ LabO w' v (mLabs k l.length) ∧ w.grownBy w' v.ownBlock := by
  obtain ⟨A, c, rfl, _⟩ := own_form h
  have HO := Lib.hid h
  clear h
  go_enter Tryd.func33, Tryd.ntmps33
  go_wp2_with fail
  go_loopw [1, 5] (fun s1 s5 wr => ∃ i : Nat, i ≤ l.length ∧ s5 = .int .i64 i ∧ s1 = .int .i64 (k + 2 * i) ∧ wr.ownsRow 0 74 2 (.slice A l.length c) l.length (labL (mLabs k i) ++ labL (l.drop i)) ∧ w.grownBy wr (Value.slice A l.length c).ownBlock) (fun _ s5 _ => (l.length - intOf s5).toNat)
  case atStart => exact ⟨0, by omega, rfl, by simp, HO.out, grownBy_refl _ _⟩
  case round =>
    obtain ⟨i, hi, rfl, rfl, hown, hg⟩ := hrel
    by_cases hlt : i < l.length
    · obtain ⟨r, hr⟩ : ∃ r, l[i]? = some r := ⟨_, List.getElem?_eq_getElem hlt⟩
      obtain ⟨g, cap, e, hgl, hcell, hfr⟩ := own_cells hown (by omega)
      simp only [Value.slice.injEq] at e
      obtain ⟨rfl, -, rfl⟩ := e
      rw [drop_at hr, labL_cons] at hown hcell
      have hxl : (labL (mLabs k i)).length = i * 2 := by rw [labL_len, mLabs_len]
      have u0 := hcell (i * 2) (.int .i64 r.k) (by rw [List.getElem?_append_right (by omega), hxl]; simp)
      have u1 := hcell (i * 2 + 1) (.int .i64 r.v) (by rw [List.getElem?_append_right (by omega), hxl]; simp)
      have HX := Lib.hid hown
      have HG := Lib.hid hg
      have HXL := Lib.hid hxl
      have hlti : (i : Int) < (l.length : Int) := by omega
      clear hown hg hcell hxl hr
      go_wp2_with fail
      go_roundw
      case rel =>
        refine ⟨i + 1, by omega, by go_num, by go_num, ?_, grown_set (grown_set HG.out rfl _ _) rfl _ _⟩
        have st := own_put (g := g) (xa := labL (mLabs k i)) (cs := [.int .i64 r.k, .int .i64 r.v]) (ds := [.int .i64 (k + 2 * i), .int .i64 (k + 2 * i + 1)]) HX.out rfl rfl
        rw [HXL.out] at st
        rw [mLabs_snoc, labL_snoc, List.append_assoc]
        exact st
      case measure => simp [intOf]; omega
    · obtain rfl : i = l.length := by omega
      have HX := Lib.hid hown
      have HG := Lib.hid hg
      clear hown hg
      go_wp2_with fail
      go_ret
      refine ⟨rfl, ?_, HG.out⟩
      have := HX.out
      rw [List.drop_length] at this
      unfold LabO
      rw [mLabs_len]
      simpa [labL] using this

set_option maxHeartbeats 1600000 in
theorem markIntS_any (v : Value) (l : List Int) (k : Int) (w : World) (h : IntO w v l) (hl : l.length ≤ 1048576) (h0 : 0 ≤ k) (hk : k ≤ 1152921504606846976) :
    Calls Tryd.prog 34 #[v, .int .i64 k] w fun e w' => e = .returned (.int .i64 (k + l.length)) ∧ IntO w' v (mInts k l.length) ∧ w.grownBy w' v.ownBlock := by
  obtain ⟨A, c, rfl, _⟩ := own_form h
  have HO := Lib.hid h
  clear h
  go_enter Tryd.func34, Tryd.ntmps34
  go_wp2_with fail
  go_loopw [1, 5] (fun s1 s5 wr => ∃ i : Nat, i ≤ l.length ∧ s5 = .int .i64 i ∧ s1 = .int .i64 (k + i) ∧ wr.ownsRow 0 3 1 (.slice A l.length c) l.length (intL (mInts k i) ++ intL (l.drop i)) ∧ w.grownBy wr (Value.slice A l.length c).ownBlock) (fun _ s5 _ => (l.length - intOf s5).toNat)
  case atStart => exact ⟨0, by omega, rfl, by simp, HO.out, grownBy_refl _ _⟩
  case round =>
    obtain ⟨i, hi, rfl, rfl, hown, hg⟩ := hrel
    by_cases hlt : i < l.length
    · obtain ⟨r, hr⟩ : ∃ r, l[i]? = some r := ⟨_, List.getElem?_eq_getElem hlt⟩
      obtain ⟨g, cap, e, hgl, hcell, hfr⟩ := own_cells hown (by omega)
      simp only [Value.slice.injEq] at e
      obtain ⟨rfl, -, rfl⟩ := e
      rw [drop_at hr] at hown hcell
      have hxl : (intL (mInts k i)).length = i := by simp [intL, mInts_len]
      have u0 := hcell i (.int .i64 r) (by rw [List.getElem?_append_right (by omega), hxl]; simp [intL])
      have HX := Lib.hid hown
      have HG := Lib.hid hg
      have HXL := Lib.hid hxl
      have hlti : (i : Int) < (l.length : Int) := by omega
      clear hown hg hcell hxl hr
      go_wp2_with fail
      go_roundw
      case rel =>
        refine ⟨i + 1, by omega, by go_num, by go_num, ?_, grown_set HG.out rfl _ _⟩
        have st := own_put (g := g) (xa := intL (mInts k i)) (cs := [.int .i64 r]) (ds := [.int .i64 (k + i)]) (xb := intL (l.drop (i + 1))) HX.out rfl rfl
        rw [HXL.out] at st
        rw [mInts_snoc]
        have e : intL (mInts k i ++ [k + (i : Int)]) = intL (mInts k i) ++ [.int .i64 (k + i)] := by simp [intL]
        rw [e, List.append_assoc]
        exact st
      case measure => simp [intOf]; omega
    · obtain rfl : i = l.length := by omega
      have HX := Lib.hid hown
      have HG := Lib.hid hg
      clear hown hg
      go_wp2_with fail
      go_ret
      refine ⟨rfl, ?_, HG.out⟩
      have := HX.out
      rw [List.drop_length] at this
      unfold IntO
      rw [mInts_len]
      simpa [intL] using this

set_option maxHeartbeats 1600000 in
theorem heldLabS_any (v : Value) (n : Nat) (k : Int) (w : World) (h : LabSl w v (mLabs k n)) (hl : n ≤ 1048576) (h0 : 0 ≤ k) (hk : k ≤ 1152921504606846976) :
    Calls Tryd.prog 35 #[v, .int .i64 k] w fun e w' => e = .returned (.int .i64 (k + 2 * n)) ∧ w = w' := by
  obtain ⟨A, c, rfl, hA⟩ := h.form
  rw [mLabs_len] at hA ⊢
  have HA := Lib.hid hA
  clear hA h
  go_enter Tryd.func35, Tryd.ntmps35
  go_wp2_with fail
  go_loop [1, 5] (fun s1 s5 => ∃ i : Nat, i ≤ n ∧ s5 = .int .i64 i ∧ s1 = .int .i64 (k + 2 * i)) (fun _ s5 => (n - intOf s5).toNat)
  case atStart => exact ⟨0, by omega, rfl, by simp⟩
  case round =>
    obtain ⟨i, hi, rfl, rfl⟩ := hrel
    by_cases hlt : i < n
    · obtain ⟨b, off, rfl, hbw, hat⟩ := HA.out (by omega)
      obtain ⟨u0, u1⟩ := hat i _ (mLabs_at k hlt)
      simp only at u0 u1
      have n0 : ((k + 2 * (i : Int)) != (k + 2 * (i : Int))) = false := by simp
      have n1 : ((k + 2 * (i : Int) + 1) != (k + 2 * (i : Int) + 1)) = false := by simp
      have hlti : (i : Int) < (n : Int) := by omega
      clear hat
      go_wp2_with fail
      go_round
      case rel => exact ⟨i + 1, by omega, by go_num, by go_num⟩
      case measure => simp [intOf]; omega
    · obtain rfl : i = n := by omega
      go_wp2_with fail
      go_ret
      exact ⟨rfl, rfl⟩

set_option maxHeartbeats 1600000 in
theorem heldIntS_any (v : Value) (n : Nat) (k : Int) (w : World) (h : IntSl w v (mInts k n)) (hl : n ≤ 1048576) (h0 : 0 ≤ k) (hk : k ≤ 1152921504606846976) :
    Calls Tryd.prog 36 #[v, .int .i64 k] w fun e w' => e = .returned (.int .i64 (k + n)) ∧ w = w' := by
  obtain ⟨A, c, rfl, hA⟩ := h.form
  rw [mInts_len] at hA ⊢
  have HA := Lib.hid hA
  clear hA h
  go_enter Tryd.func36, Tryd.ntmps36
  go_wp2_with fail
  go_loop [1, 5] (fun s1 s5 => ∃ i : Nat, i ≤ n ∧ s5 = .int .i64 i ∧ s1 = .int .i64 (k + i)) (fun _ s5 => (n - intOf s5).toNat)
  case atStart => exact ⟨0, by omega, rfl, by simp⟩
  case round =>
    obtain ⟨i, hi, rfl, rfl⟩ := hrel
    by_cases hlt : i < n
    · obtain ⟨b, off, rfl, hbw, hat⟩ := HA.out (by omega)
      have u0 := hat i _ (mInts_at k hlt)
      have n0 : ((k + (i : Int)) != (k + (i : Int))) = false := by simp
      have hlti : (i : Int) < (n : Int) := by omega
      clear hat
      go_wp2_with fail
      go_round
      case rel => exact ⟨i + 1, by omega, by go_num, by go_num⟩
      case measure => simp [intOf]; omega
    · obtain rfl : i = n := by omega
      go_wp2_with fail
      go_ret
      exact ⟨rfl, rfl⟩

end Go.Proofs.YtocfgejceoenmaaDoor
