/- Pools in plain Lean and in memory; the contracts of PoolOk and of its model. -/
import Derived.Test.YtocfgejceoenmaaDoorCluMem
import Derived.Test.YtocfgejceoenmaaDoorTaskS
namespace Go.Proofs.YtocfgejceoenmaaDoor
open Go.RowKit

/-- A pool. -/
structure PV where
  id : Int
  min : Int
  max : Int
  prio : Int
  shape : NV
def PV.zero : PV := ⟨0, 0, 0, 0, NV.zero⟩
def PV.ok (p : PV) : Bool := decide (0 ≤ p.id) && decide (p.id < 5) && decide (0 ≤ p.min) && decide (p.min ≤ p.max) && decide (p.max ≤ 20) && decide (0 ≤ p.prio) && decide (p.prio ≤ 9) && p.shape.ok && (p.shape.id == 1) && (p.shape.pool == p.id) && !p.shape.cordon
theorem pv_ok_eq (p : PV) (b1 b2 b3 b4 b5 b6 b7 b8 b9 ba bb : Bool) (h1 : decide (0 ≤ p.id) = b1) (h2 : decide (p.id < 5) = b2) (h3 : decide (0 ≤ p.min) = b3) (h4 : decide (p.min ≤ p.max) = b4) (h5 : decide (p.max ≤ 20) = b5) (h6 : decide (0 ≤ p.prio) = b6) (h7 : decide (p.prio ≤ 9) = b7) (h8 : p.shape.ok = b8) (h9 : (p.shape.id == 1) = b9) (ha : (p.shape.pool == p.id) = ba) (hb : p.shape.cordon = bb) :
    p.ok = (b1 && b2 && b3 && b4 && b5 && b6 && b7 && b8 && b9 && ba && !bb) := by
  subst h1 h2 h3 h4 h5 h6 h7 h8 h9 ha hb; rfl
/-- The cells of a pool. -/
def PoolR (w : World) (t : PV) (cs : List Value) : Prop := ∃ v1 v2, cs = [.int .i64 t.id, .int .i64 t.min, .int .i64 t.max, .int .i64 t.prio, .int .i64 t.shape.id, .int .i64 t.shape.pool, .int .i64 t.shape.cap.c, .int .i64 t.shape.cap.m, .int .i64 t.shape.cap.p, v1, v2, .bool t.shape.cordon] ∧ LabSl w v1 t.shape.labs ∧ IntSl w v2 t.shape.taints ∧ t.shape.labs.length ≤ 1048576 ∧ t.shape.taints.length ≤ 1048576
theorem PoolR.kept : Kept PoolR := fun _ _ _ _ hb ⟨v1, v2, e, h1, h2, h3⟩ => ⟨v1, v2, e, h1.below hb, h2.below hb, h3⟩
def PoolSl (w : World) (v : Value) (l : List PV) : Prop := GSl PoolR 12 w v l
theorem PoolSl.below {w w' : World} {v : Value} {l : List PV} (h : PoolSl w v l) (hb : Below w.heap.size w w') : PoolSl w' v l := GSl.below PoolR.kept h hb
theorem PoolSl.form {w : World} {v : Value} {l : List PV} (h : PoolSl w v l) : ∃ A c, v = .slice A l.length c ∧ (0 < l.length → ∃ b off, A = some ⟨b, off, none⟩ ∧ b < w.heap.size ∧ SeqAt PoolR 12 w b off l) := GSl.form h
theorem pool_cells {w : World} {b o : Nat} {u0 u1 u2 u3 u4 u5 u6 u7 u8 u9 u10 u11 : Value} (h : CellsAt w b o [u0, u1, u2, u3, u4, u5, u6, u7, u8, u9, u10, u11]) : w.cell? ⟨b, o, none⟩ = some u0 ∧ w.cell? ⟨b, o + 1, none⟩ = some u1 ∧ w.cell? ⟨b, o + 2, none⟩ = some u2 ∧ w.cell? ⟨b, o + 3, none⟩ = some u3 ∧ w.cell? ⟨b, o + 4, none⟩ = some u4 ∧ w.cell? ⟨b, o + 5, none⟩ = some u5 ∧ w.cell? ⟨b, o + 6, none⟩ = some u6 ∧ w.cell? ⟨b, o + 7, none⟩ = some u7 ∧ w.cell? ⟨b, o + 8, none⟩ = some u8 ∧ w.cell? ⟨b, o + 9, none⟩ = some u9 ∧ w.cell? ⟨b, o + 10, none⟩ = some u10 ∧ w.cell? ⟨b, o + 11, none⟩ = some u11 :=
  ⟨h 0 _ rfl, h 1 _ rfl, h 2 _ rfl, h 3 _ rfl, h 4 _ rfl, h 5 _ rfl, h 6 _ rfl, h 7 _ rfl, h 8 _ rfl, h 9 _ rfl, h 10 _ rfl, h 11 _ rfl⟩
set_option maxHeartbeats 1600000 in
theorem PoolOk_any (p : PV) (v1 v2 : Value) (w : World) (x : Addr) (hg : ErrAt x w) (h1 : LabSl w v1 p.shape.labs) (h2 : IntSl w v2 p.shape.taints) (l1 : p.shape.labs.length ≤ 1048576) (l2 : p.shape.taints.length ≤ 1048576) :
    Calls Tryd.prog 9 #[.agg #[.int .i64 p.id, .int .i64 p.min, .int .i64 p.max, .int .i64 p.prio, .int .i64 p.shape.id, .int .i64 p.shape.pool, .int .i64 p.shape.cap.c, .int .i64 p.shape.cap.m, .int .i64 p.shape.cap.p, v1, v2, .bool p.shape.cordon]] w fun e w' => e = .returned (.bool p.ok) ∧ Below w.heap.size w w' := by
  have HL := Lib.hid h1
  have HI := Lib.hid h2
  have HE := Lib.hid (pv_ok_eq p)
  have HG := Lib.hid hg
  have hno := fun w hg a b => NodeOk_any p.shape v1 v2 w x hg a b l1 l2
  generalize p.ok = ok at *
  generalize e1 : decide (0 ≤ p.id) = b1
  generalize e2 : decide (p.id < 5) = b2
  generalize e3 : decide (0 ≤ p.min) = b3
  generalize e4 : decide (p.min ≤ p.max) = b4
  generalize e5 : decide (p.max ≤ 20) = b5
  generalize e6 : decide (0 ≤ p.prio) = b6
  generalize e7 : decide (p.prio ≤ 9) = b7
  generalize e8 : p.shape.ok = b8 at hno
  generalize e9 : (p.shape.id == 1) = b9
  generalize ea : (p.shape.pool == p.id) = ba
  generalize eb : p.shape.cordon = bb at hno ⊢
  have HE' := Lib.hid (HE.out _ _ _ _ _ _ _ _ _ _ _ e1 e2 e3 e4 e5 e6 e7 e8 e9 ea eb)
  have HNO := Lib.hid hno
  clear h1 h2 hno e8 HE l1 l2 eb hg
  go_enter Tryd.func9, Tryd.ntmps9
  cases b1
  · go_wp2_with fail
    go_ret
    exact ⟨by rw [HE'.out]; simp, (by repeat' (first | exact Below.refl _ _ | refine Below.alloc ?_ ?_ _ | refine Below.setCell ?_ ?_ _ | refine Below.drew ?_ | (apply below_step; assumption) | (simp; done) | (simp; omega) | omega))⟩
  cases b2
  · go_wp2_with fail
    go_ret
    exact ⟨by rw [HE'.out]; simp, (by repeat' (first | exact Below.refl _ _ | refine Below.alloc ?_ ?_ _ | refine Below.setCell ?_ ?_ _ | refine Below.drew ?_ | (apply below_step; assumption) | (simp; done) | (simp; omega) | omega))⟩
  cases b3
  · go_wp2_with fail
    go_ret
    exact ⟨by rw [HE'.out]; simp, (by repeat' (first | exact Below.refl _ _ | refine Below.alloc ?_ ?_ _ | refine Below.setCell ?_ ?_ _ | refine Below.drew ?_ | (apply below_step; assumption) | (simp; done) | (simp; omega) | omega))⟩
  cases b4
  · go_wp2_with fail
    go_ret
    exact ⟨by rw [HE'.out]; simp, (by repeat' (first | exact Below.refl _ _ | refine Below.alloc ?_ ?_ _ | refine Below.setCell ?_ ?_ _ | refine Below.drew ?_ | (apply below_step; assumption) | (simp; done) | (simp; omega) | omega))⟩
  cases b5
  · go_wp2_with fail
    go_ret
    exact ⟨by rw [HE'.out]; simp, (by repeat' (first | exact Below.refl _ _ | refine Below.alloc ?_ ?_ _ | refine Below.setCell ?_ ?_ _ | refine Below.drew ?_ | (apply below_step; assumption) | (simp; done) | (simp; omega) | omega))⟩
  cases b6
  · go_wp2_with fail
    go_ret
    exact ⟨by rw [HE'.out]; simp, (by repeat' (first | exact Below.refl _ _ | refine Below.alloc ?_ ?_ _ | refine Below.setCell ?_ ?_ _ | refine Below.drew ?_ | (apply below_step; assumption) | (simp; done) | (simp; omega) | omega))⟩
  cases b7
  · go_wp2_with fail
    go_ret
    exact ⟨by rw [HE'.out]; simp, (by repeat' (first | exact Below.refl _ _ | refine Below.alloc ?_ ?_ _ | refine Below.setCell ?_ ?_ _ | refine Below.drew ?_ | (apply below_step; assumption) | (simp; done) | (simp; omega) | omega))⟩
  go_wp2_with fail
  have hX : Below w.heap.size w (w.alloc (.cells #[.int .i64 p.id, .int .i64 p.min, .int .i64 p.max, .int .i64 p.prio, .int .i64 p.shape.id, .int .i64 p.shape.pool, .int .i64 p.shape.cap.c, .int .i64 p.shape.cap.m, .int .i64 p.shape.cap.p, v1, v2, .bool bb] 37)) := (by repeat' (first | exact Below.refl _ _ | refine Below.alloc ?_ ?_ _ | refine Below.setCell ?_ ?_ _ | refine Below.drew ?_ | (apply below_step; assumption) | (simp; done) | (simp; omega) | omega))
  refine (HNO.out _ (HG.out.below hX (Nat.le_refl _)) (HL.out.below hX) (HI.out.below hX)).mono ?_
  rintro e w1 ⟨rfl, hb1⟩
  have hC1 := below_of hX hb1
  have B1 := (BlockIs.new w 37 #[.int .i64 p.id, .int .i64 p.min, .int .i64 p.max, .int .i64 p.prio, .int .i64 p.shape.id, .int .i64 p.shape.pool, .int .i64 p.shape.cap.c, .int .i64 p.shape.cap.m, .int .i64 p.shape.cap.p, v1, v2, .bool bb]).below hb1 (by simp)
  have g0 := B1.cell 0
  have g4 := B1.cell 4
  have g5 := B1.cell 5
  have g11 := B1.cell 11
  simp at g0 g4 g5 g11
  clear B1 hb1 hX
  cases b8
  · go_wp2_with fail
    go_ret
    exact ⟨by rw [HE'.out]; simp, hC1⟩
  cases b9
  · go_wp2_with fail
    go_ret
    exact ⟨by rw [HE'.out]; simp, hC1⟩
  cases ba
  · go_wp2_with fail
    go_ret
    exact ⟨by rw [HE'.out]; simp, hC1⟩
  go_wp2_with fail
  go_ret
  exact ⟨by rw [HE'.out]; simp, hC1⟩
set_option maxHeartbeats 1600000 in
theorem sPoolOk_any (p : PV) (v1 v2 : Value) (w : World) (h1 : LabSl w v1 p.shape.labs) (h2 : IntSl w v2 p.shape.taints) (l1 : p.shape.labs.length ≤ 1048576) (l2 : p.shape.taints.length ≤ 1048576) :
    Calls Tryd.prog 7 #[.agg #[.int .i64 p.id, .int .i64 p.min, .int .i64 p.max, .int .i64 p.prio, .int .i64 p.shape.id, .int .i64 p.shape.pool, .int .i64 p.shape.cap.c, .int .i64 p.shape.cap.m, .int .i64 p.shape.cap.p, v1, v2, .bool p.shape.cordon]] w fun e w' => e = .returned (.bool p.ok) ∧ Below w.heap.size w w' := by
  have HL := Lib.hid h1
  have HI := Lib.hid h2
  have HE := Lib.hid (pv_ok_eq p)
  have hno := fun w a b => sNodeOk_any p.shape v1 v2 w a b l1 l2
  generalize p.ok = ok at *
  generalize e1 : decide (0 ≤ p.id) = b1
  generalize e2 : decide (p.id < 5) = b2
  generalize e3 : decide (0 ≤ p.min) = b3
  generalize e4 : decide (p.min ≤ p.max) = b4
  generalize e5 : decide (p.max ≤ 20) = b5
  generalize e6 : decide (0 ≤ p.prio) = b6
  generalize e7 : decide (p.prio ≤ 9) = b7
  generalize e8 : p.shape.ok = b8 at hno
  generalize e9 : (p.shape.id == 1) = b9
  generalize ea : (p.shape.pool == p.id) = ba
  generalize eb : p.shape.cordon = bb at hno ⊢
  have HE' := Lib.hid (HE.out _ _ _ _ _ _ _ _ _ _ _ e1 e2 e3 e4 e5 e6 e7 e8 e9 ea eb)
  have HNO := Lib.hid hno
  clear h1 h2 hno e8 HE l1 l2 eb
  go_enter Tryd.func7, Tryd.ntmps7
  cases b1
  · go_wp2_with fail
    go_ret
    exact ⟨by rw [HE'.out]; simp, (by repeat' (first | exact Below.refl _ _ | refine Below.alloc ?_ ?_ _ | refine Below.setCell ?_ ?_ _ | refine Below.drew ?_ | (apply below_step; assumption) | (simp; done) | (simp; omega) | omega))⟩
  cases b2
  · go_wp2_with fail
    go_ret
    exact ⟨by rw [HE'.out]; simp, (by repeat' (first | exact Below.refl _ _ | refine Below.alloc ?_ ?_ _ | refine Below.setCell ?_ ?_ _ | refine Below.drew ?_ | (apply below_step; assumption) | (simp; done) | (simp; omega) | omega))⟩
  cases b3
  · go_wp2_with fail
    go_ret
    exact ⟨by rw [HE'.out]; simp, (by repeat' (first | exact Below.refl _ _ | refine Below.alloc ?_ ?_ _ | refine Below.setCell ?_ ?_ _ | refine Below.drew ?_ | (apply below_step; assumption) | (simp; done) | (simp; omega) | omega))⟩
  cases b4
  · go_wp2_with fail
    go_ret
    exact ⟨by rw [HE'.out]; simp, (by repeat' (first | exact Below.refl _ _ | refine Below.alloc ?_ ?_ _ | refine Below.setCell ?_ ?_ _ | refine Below.drew ?_ | (apply below_step; assumption) | (simp; done) | (simp; omega) | omega))⟩
  cases b5
  · go_wp2_with fail
    go_ret
    exact ⟨by rw [HE'.out]; simp, (by repeat' (first | exact Below.refl _ _ | refine Below.alloc ?_ ?_ _ | refine Below.setCell ?_ ?_ _ | refine Below.drew ?_ | (apply below_step; assumption) | (simp; done) | (simp; omega) | omega))⟩
  cases b6
  · go_wp2_with fail
    go_ret
    exact ⟨by rw [HE'.out]; simp, (by repeat' (first | exact Below.refl _ _ | refine Below.alloc ?_ ?_ _ | refine Below.setCell ?_ ?_ _ | refine Below.drew ?_ | (apply below_step; assumption) | (simp; done) | (simp; omega) | omega))⟩
  cases b7
  · go_wp2_with fail
    go_ret
    exact ⟨by rw [HE'.out]; simp, (by repeat' (first | exact Below.refl _ _ | refine Below.alloc ?_ ?_ _ | refine Below.setCell ?_ ?_ _ | refine Below.drew ?_ | (apply below_step; assumption) | (simp; done) | (simp; omega) | omega))⟩
  go_wp2_with fail
  have hX : Below w.heap.size w (w.alloc (.cells #[.int .i64 p.id, .int .i64 p.min, .int .i64 p.max, .int .i64 p.prio, .int .i64 p.shape.id, .int .i64 p.shape.pool, .int .i64 p.shape.cap.c, .int .i64 p.shape.cap.m, .int .i64 p.shape.cap.p, v1, v2, .bool bb] 37)) := (by repeat' (first | exact Below.refl _ _ | refine Below.alloc ?_ ?_ _ | refine Below.setCell ?_ ?_ _ | refine Below.drew ?_ | (apply below_step; assumption) | (simp; done) | (simp; omega) | omega))
  refine (HNO.out _ (HL.out.below hX) (HI.out.below hX)).mono ?_
  rintro e w1 ⟨rfl, hb1⟩
  have hC1 := below_of hX hb1
  have B1 := (BlockIs.new w 37 #[.int .i64 p.id, .int .i64 p.min, .int .i64 p.max, .int .i64 p.prio, .int .i64 p.shape.id, .int .i64 p.shape.pool, .int .i64 p.shape.cap.c, .int .i64 p.shape.cap.m, .int .i64 p.shape.cap.p, v1, v2, .bool bb]).below hb1 (by simp)
  have g0 := B1.cell 0
  have g4 := B1.cell 4
  have g5 := B1.cell 5
  have g11 := B1.cell 11
  simp at g0 g4 g5 g11
  clear B1 hb1 hX
  cases b8
  · go_wp2_with fail
    go_ret
    exact ⟨by rw [HE'.out]; simp, hC1⟩
  cases b9
  · go_wp2_with fail
    go_ret
    exact ⟨by rw [HE'.out]; simp, hC1⟩
  cases ba
  · go_wp2_with fail
    go_ret
    exact ⟨by rw [HE'.out]; simp, hC1⟩
  go_wp2_with fail
  go_ret
  exact ⟨by rw [HE'.out]; simp, hC1⟩
end Go.Proofs.YtocfgejceoenmaaDoor
