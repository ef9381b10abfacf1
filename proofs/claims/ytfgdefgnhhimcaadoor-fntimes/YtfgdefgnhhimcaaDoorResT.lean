/- The contracts of ResTimes and of its model; the equality of two amounts. -/
import Derived.Test.YtfgdefgnhhimcaaDoorResPure2
import Derived.Test.YtfgdefgnhhimcaaDoorResC
import Derived.Test.YtfgdefgnhhimcaaDoorResS
import Derived.Laws.StructEq
namespace Go.Proofs.YtfgdefgnhhimcaaDoor
open Go.RowKit

theorem eqIn_res (a b : RV) (w : World) : (Op.equalIn 10000 25 (.agg #[.int .i64 a.c, .int .i64 a.m, .int .i64 a.p]) (.agg #[.int .i64 b.c, .int .i64 b.m, .int .i64 b.p])).run Tryd.prog w = .ok (a.c == b.c && (a.m == b.m && a.p == b.p)) w := by
  have u3 := Tryd.underlying3
  have hS : Tryd.prog.underlying 25 = some (.struct (Tryd.prog.fieldsOf 25)) := by kernel_rfl
  have hp : Tryd.prog.stoodInHeld 25 = false := by kernel_rfl
  rw [show (10000 : Nat) = 9999 + 1 from rfl, run_equalIn_agg w 9999 25 _ _ hS hp]
  simp only [Program.fieldsOf, Tryd.underlying25]
  go_simp
  by_cases h1 : a.c = b.c <;> by_cases h2 : a.m = b.m <;> by_cases h3 : a.p = b.p <;> simp [h1, h2, h3]
theorem eq_res (a b : RV) (w : World) : (binOp .eql 25 (.agg #[.int .i64 a.c, .int .i64 a.m, .int .i64 a.p]) (.agg #[.int .i64 b.c, .int .i64 b.m, .int .i64 b.p])).run Tryd.prog w = .ok (.bool (a.c == b.c && (a.m == b.m && a.p == b.p))) w := by
  rw [run_eql_struct, eqIn_res]; rfl
theorem neq_res (a b : RV) (w : World) : (binOp .neq 25 (.agg #[.int .i64 a.c, .int .i64 a.m, .int .i64 a.p]) (.agg #[.int .i64 b.c, .int .i64 b.m, .int .i64 b.p])).run Tryd.prog w = .ok (.bool !(a.c == b.c && (a.m == b.m && a.p == b.p))) w := by
  rw [run_neq_struct, eqIn_res]; rfl
theorem guard_res (op : BinOp) (x y : Operand) (xs ys : Array Value) (w : World) : (eqGuard op 25 x y (.agg xs) (.agg ys)).run Tryd.prog w = .ok () w := run_eqGuard_agg w op 25 x y xs ys (by kernel_rfl)

theorem ResTimes_neg (a : RV) (n : Int) (w : World) (h : n < 0) :
    Calls Tryd.prog 22 #[.agg #[.int .i64 a.c, .int .i64 a.m, .int .i64 a.p], .int .i64 n] w (RetR RV.zero false w) := by
  go_enter Tryd.func22, Tryd.ntmps22
  go_wp2_with fail
  refine bodyPost_ret (v := .tuple #[.agg #[.int .i64 RV.zero.c, .int .i64 RV.zero.m, .int .i64 RV.zero.p], .bool false]) (by simp [results, Tryd.results22, go_sem, RV.zero]) rfl ⟨rfl, (by repeat' (first | exact Below.refl _ _ | refine Below.alloc ?_ ?_ _ | refine Below.setCell ?_ ?_ _ | refine Below.drew ?_ | (apply below_step; assumption) | (simp; done) | (simp; omega) | omega))⟩
theorem ResTimes_bad (a : RV) (n : Int) (w : World) (x : Addr) (hg : ErrAt x w) (h0 : 0 ≤ n) (h : a.ok = false) :
    Calls Tryd.prog 22 #[.agg #[.int .i64 a.c, .int .i64 a.m, .int .i64 a.p], .int .i64 n] w (RetR RV.zero false w) := by
  have H := Lib.hid h
  clear h
  go_enter Tryd.func22, Tryd.ntmps22
  go_wp2_with fail
  refine (checkRes_no a _ x ((hg.alloc _).alloc _) H.out).mono ?_
  rintro e w1 ⟨s, rfl, hb1⟩
  have hz1 := hb1.size
  simp at hz1
  obtain ⟨hc1, hf1⟩ := bcell hb1
  have hg1 := ((hg.alloc _).alloc _).below hb1 (Nat.le_refl _)
  go_wp2_with fail
  refine (outOfRange_bad s _ x hg1).mono ?_
  rintro e w2 ⟨rfl, hb2⟩
  have hz2 := hb2.size
  obtain ⟨hc2, hf2⟩ := bcell hb2
  have hs1 : w.heap.size + 1 < w1.heap.size := by omega
  go_wp2_with fail
  refine bodyPost_ret (v := .tuple #[.agg #[.int .i64 RV.zero.c, .int .i64 RV.zero.m, .int .i64 RV.zero.p], .bool false]) (by simp [results, Tryd.results22, go_sem, hc1, hc2, hs1, RV.zero]) rfl ⟨rfl, (by repeat' (first | exact Below.refl _ _ | refine Below.alloc ?_ ?_ _ | refine Below.setCell ?_ ?_ _ | refine Below.drew ?_ | (apply below_step; assumption) | (simp; done) | (simp; omega) | omega))⟩
theorem ResTimes_in (a : RV) (n : Int) (w : World) (x : Addr) (hg : ErrAt x w) (h0 : 0 ≤ n) (h : a.ok = true) :
    Calls Tryd.prog 22 #[.agg #[.int .i64 a.c, .int .i64 a.m, .int .i64 a.p], .int .i64 n] w (RetR (a.times (min n 1000001)).kept (a.times (min n 1000001)).ok w) := by
  obtain ⟨a1, a2, a3, a4, a5, a6⟩ := RV.ok_iff.1 h
  have H := Lib.hid h
  clear h
  by_cases hn : n ≤ 1000001
  · have hm : min n 1000001 = n := by omega
    rw [hm]
    obtain ⟨c1, c2⟩ := mul_bounds a1 a2 h0 hn
    obtain ⟨c3, c4⟩ := mul_bounds a3 a4 h0 hn
    obtain ⟨c5, c6⟩ := mul_bounds a5 a6 h0 hn
    clear hm
    go_enter Tryd.func22, Tryd.ntmps22
    go_wp2_with fail
    refine (checkRes_yes a _ H.out).mono ?_
    rintro e w1 ⟨rfl, hb1⟩
    have hz1 := hb1.size
    simp at hz1
    obtain ⟨hc1, hf1⟩ := bcell hb1
    have hg1 := ((hg.alloc _).alloc _).below hb1 (Nat.le_refl _)
    go_wp2_with fail
    refine (outOfRange_nil _ x hg1).mono ?_
    rintro e w2 ⟨rfl, rfl⟩
    go_wp2_with fail
    refine (keepValid_any ⟨a.c * n, a.m * n, a.p * n⟩ _ x hg1).mono ?_
    rintro e w2 ⟨rfl, hb2⟩
    have hz2 := hb2.size
    obtain ⟨hc2, hf2⟩ := bcell hb2
    have hs1 : w.heap.size + 1 < w1.heap.size := by omega
    go_wp2_with fail
    refine bodyPost_ret (v := .tuple #[.agg #[.int .i64 (a.times n).kept.c, .int .i64 (a.times n).kept.m, .int .i64 (a.times n).kept.p], .bool (a.times n).ok]) (by simp [results, Tryd.results22, go_sem, hc1, hc2, hs1]; exact ⟨⟨rfl, rfl, rfl⟩, rfl⟩) rfl ⟨rfl, (by repeat' (first | exact Below.refl _ _ | refine Below.alloc ?_ ?_ _ | refine Below.setCell ?_ ?_ _ | refine Below.drew ?_ | (apply below_step; assumption) | (simp; done) | (simp; omega) | omega))⟩
  · have hm : min n 1000001 = 1000001 := by omega
    rw [hm]
    clear hm
    go_enter Tryd.func22, Tryd.ntmps22
    go_wp2_with fail
    refine (checkRes_yes a _ H.out).mono ?_
    rintro e w1 ⟨rfl, hb1⟩
    have hz1 := hb1.size
    simp at hz1
    obtain ⟨hc1, hf1⟩ := bcell hb1
    have hg1 := ((hg.alloc _).alloc _).below hb1 (Nat.le_refl _)
    go_wp2_with fail
    refine (outOfRange_nil _ x hg1).mono ?_
    rintro e w2 ⟨rfl, rfl⟩
    go_wp2_with fail
    refine (keepValid_any ⟨a.c * 1000001, a.m * 1000001, a.p * 1000001⟩ _ x hg1).mono ?_
    rintro e w2 ⟨rfl, hb2⟩
    have hz2 := hb2.size
    obtain ⟨hc2, hf2⟩ := bcell hb2
    have hs1 : w.heap.size + 1 < w1.heap.size := by omega
    go_wp2_with fail
    refine bodyPost_ret (v := .tuple #[.agg #[.int .i64 (a.times 1000001).kept.c, .int .i64 (a.times 1000001).kept.m, .int .i64 (a.times 1000001).kept.p], .bool (a.times 1000001).ok]) (by simp [results, Tryd.results22, go_sem, hc1, hc2, hs1]; exact ⟨⟨rfl, rfl, rfl⟩, rfl⟩) rfl ⟨rfl, (by repeat' (first | exact Below.refl _ _ | refine Below.alloc ?_ ?_ _ | refine Below.setCell ?_ ?_ _ | refine Below.drew ?_ | (apply below_step; assumption) | (simp; done) | (simp; omega) | omega))⟩

theorem ResTimes_any (a : RV) (n : Int) (w : World) (x : Addr) (hg : ErrAt x w) : Calls Tryd.prog 22 #[.agg #[.int .i64 a.c, .int .i64 a.m, .int .i64 a.p], .int .i64 n] w (RetR (resTimes a n) (resTimesOk a n) w) := by
  by_cases h0 : 0 ≤ n
  · cases ha : a.ok
    · rw [(resTimes_out (.inr ha)).1, (resTimes_out (.inr ha)).2]; exact ResTimes_bad a n w x hg h0 ha
    · rw [(resTimes_in h0 ha).1, (resTimes_in h0 ha).2]; exact ResTimes_in a n w x hg h0 ha
  · rw [(resTimes_out (.inl (by omega))).1, (resTimes_out (.inl (by omega))).2]; exact ResTimes_neg a n w (by omega)
end Go.Proofs.YtfgdefgnhhimcaaDoor
