/- The contract of LabsPut. -/
import Derived.Test.YtelfoedgbgandaaPutPure
namespace Go.Proofs.Ytelfoedgbgandaa
open Go.RowKit

/-- The ending 'a slice of the call's own and a bool'. -/
def RetOwnB (w : World) (l : List LV) (b : Bool) (e : Ending) (w' : World) : Prop := ∃ v, e = .returned (.tuple #[v, .bool b]) ∧ Owns w' w.heap.size v l ∧ Below w.heap.size w w'
theorem RetOwnB.of {w : World} {l l' : List LV} {b b' : Bool} (h : b' = b ∧ l' = l) : RetOwnB w l b = RetOwnB w l' b' := by rw [h.1, h.2]

set_option maxHeartbeats 1600000 in
theorem LabsPut_any (v : Value) (a : List LV) (x : LV) (w : World) (hv : LabSl w v a) (hlen : a.length ≤ 1048576) :
    Calls Try.prog 14 #[v, .agg #[.int .i64 x.k, .int .i64 x.v]] w (RetOwnB w (putList a x) (putOk a x)) := by
  have hr := readLabs_any v a (w.alloc (.cells #[.int .i64 x.k, .int .i64 x.v] 26)) (hv.below ((Below.refl _ _).alloc (Nat.le_refl _) _)) hlen
  clear hv
  cases ha : labsOk a
  · rw [ha] at hr
    rw [(put_bad1 (x := x) ha).1, (put_bad1 (x := x) ha).2]
    have HR := Lib.hid hr
    clear hr ha
    go_enter Try.func14, Try.ntmps14
    go_wp2_with fail
    refine HR.out.mono ?_
    rintro e w1 ⟨rfl, hb1⟩
    have hz1 := hb1.size
    simp at hz1
    go_wp2_with fail
    go_ret2
    exact ⟨_, rfl, Owns.nil _ _, (by repeat' (first | exact Below.refl _ _ | refine Below.alloc ?_ ?_ _ | refine Below.setCell ?_ ?_ _ | refine Below.drew ?_ | (apply below_step; assumption) | (simp; done) | (simp; omega) | omega))⟩
  · rw [ha] at hr
    cases hx : x.ok
    · rw [(put_bad2 (a := a) hx).1, (put_bad2 (a := a) hx).2]
      have HR := Lib.hid hr
      have HX := Lib.hid hx
      generalize readOf a = m at HR
      clear hr ha hx
      go_enter Try.func14, Try.ntmps14
      go_wp2_with fail
      refine HR.out.mono ?_
      rintro e w1 ⟨rfl, hb1⟩
      have hz1 := hb1.size
      simp at hz1
      have hT := ((BlockIs.new w 26 #[.int .i64 x.k, .int .i64 x.v]).below hb1 (by simp)).alloc (.cells #[.int .i64 (m 0), .int .i64 (m 1), .int .i64 (m 2), .int .i64 (m 3), .int .i64 (m 4), .int .i64 (m 5), .int .i64 (m 6), .int .i64 (m 7), .int .i64 (m 8), .int .i64 (m 9)] 57)
      have t0 := hT.cell 0
      have t1 := hT.cell 1
      simp at t0 t1
      clear hT
      have hwl : w.heap.size < w1.heap.size := by omega
      go_wp2_with fail
      refine (labInRange_no x _ HX.out).mono ?_
      rintro e w2 ⟨rfl, hb2⟩
      have hz2 := hb2.size
      simp at hz2
      go_wp2_with fail
      go_ret2
      exact ⟨_, rfl, Owns.nil _ _, (by repeat' (first | exact Below.refl _ _ | refine Below.alloc ?_ ?_ _ | refine Below.setCell ?_ ?_ _ | refine Below.drew ?_ | (apply below_step; assumption) | (simp; done) | (simp; omega) | omega))⟩
    · have HR := Lib.hid hr
      have HX := Lib.hid hx
      have HG := Lib.hid (put_good ha hx)
      have HW := Lib.hid (fun k => mwith_le ha hx k)
      have HL := Lib.hid (put_long ha hx)
      have HF := Lib.hid (put_fine ha hx)
      have HN := Lib.hid (show (ins x a).length ≤ 7 by have := ins_len x a; have := labsOk_len ha; omega)
      generalize readOf a = m at HR HG HW
      clear hr ha hx
      go_enter Try.func14, Try.ntmps14
      go_wp2_with fail
      refine HR.out.mono ?_
      rintro e w1 ⟨rfl, hb1⟩
      have hz1 := hb1.size
      simp at hz1
      have hT := ((BlockIs.new w 26 #[.int .i64 x.k, .int .i64 x.v]).below hb1 (by simp)).alloc (.cells #[.int .i64 (m 0), .int .i64 (m 1), .int .i64 (m 2), .int .i64 (m 3), .int .i64 (m 4), .int .i64 (m 5), .int .i64 (m 6), .int .i64 (m 7), .int .i64 (m 8), .int .i64 (m 9)] 57)
      have hM := BlockIs.new w1 57 #[.int .i64 (m 0), .int .i64 (m 1), .int .i64 (m 2), .int .i64 (m 3), .int .i64 (m 4), .int .i64 (m 5), .int .i64 (m 6), .int .i64 (m 7), .int .i64 (m 8), .int .i64 (m 9)]
      have HT := Lib.hid hT
      have HM := Lib.hid hM
      have t0 := hT.cell 0
      have t1 := hT.cell 1
      simp at t0 t1
      clear hT hM
      have hwl : w.heap.size < w1.heap.size := by omega
      go_wp2_with fail
      refine (labInRange_yes x _ HX.out).mono ?_
      rintro e w2 ⟨rfl, hb2⟩
      have hz2 := hb2.size
      simp at hz2
      have hT2 := HT.out.below hb2 (by simp; omega)
      have hM2 := HM.out.below hb2 (by simp)
      clear t0 t1
      have t0 := hT2.cell 0
      have t1 := hT2.cell 1
      simp at t0 t1
      have z0 := (hM2).cell 0; have z1 := (hM2).cell 1; have z2 := (hM2).cell 2; have z3 := (hM2).cell 3; have z4 := (hM2).cell 4; have z5 := (hM2).cell 5; have z6 := (hM2).cell 6; have z7 := (hM2).cell 7; have z8 := (hM2).cell 8; have z9 := (hM2).cell 9; simp at z0 z1 z2 z3 z4 z5 z6 z7 z8 z9
      clear hT2 hM2
      have hC2 : Below w.heap.size w w2 := (by repeat' (first | exact Below.refl _ _ | refine Below.alloc ?_ ?_ _ | refine Below.setCell ?_ ?_ _ | refine Below.drew ?_ | (apply below_step; assumption) | (simp; done) | (simp; omega) | omega))
      go_wp2_with fail
      refine (with_any m x _ HX.out).mono ?_
      rintro e w3 ⟨rfl, hb3⟩
      have hz3 := hb3.size
      have hC3 : Below w.heap.size w w3 := hC2.trans (hb3.mono (by omega))
      clear z0 z1 z2 z3 z4 z5 z6 z7 z8 z9 t0 t1
      go_wp2_with fail
      refine (labs_any (mwith m x) _ HW.out).mono ?_
      rintro e w4 ⟨v4, rfl, ho4, hb4⟩
      rw [HG.out] at ho4
      have hC4 : Below w.heap.size w w4 := hC3.trans (hb4.mono hC3.size)
      have HO4 := Lib.hid (ho4.lower hC3.size)
      obtain ⟨A4, c4, rfl⟩ := ho4.len
      clear ho4
      have hn7 := HN.out
      by_cases hl : (ins x a).length ≤ 6
      · have hli : ((ins x a).length : Int) ≤ 6 := by omega
        go_wp2_with fail
        go_ret2
        rw [(HF.out hl).1, (HF.out hl).2]
        exact ⟨_, rfl, HO4.out, hC4⟩
      · have hli : (6 : Int) < ((ins x a).length : Int) := by omega
        go_wp2_with fail
        go_ret2
        rw [(HL.out (by omega)).1, (HL.out (by omega)).2]
        exact ⟨_, rfl, Owns.nil _ _, hC4⟩
end Go.Proofs.Ytelfoedgbgandaa
