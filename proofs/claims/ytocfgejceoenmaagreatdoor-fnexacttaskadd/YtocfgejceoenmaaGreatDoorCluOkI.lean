/- The contracts of tasksOk and nodesOk. -/
import Derived.Test.YtocfgejceoenmaaGreatDoorCluFind
import Derived.Test.YtocfgejceoenmaaGreatDoorTaskI
namespace Go.Proofs.YtocfgejceoenmaaGreatDoor
open Go.RowKit

/-- Block g is the array of the Ids that have been seen. -/
def SeenIs (w : World) (g : Nat) (s : List Int) : Prop := ∃ cs : Array Value, BlockIs w g 181 cs ∧ cs.size = 100 ∧ ∀ i : Nat, i < 100 → cs[i]? = some (.bool (s.contains (i : Int)))
theorem SeenIs.below {w w' : World} {g B : Nat} {s : List Int} (h : SeenIs w g s) (hb : Below B w w') (hg : g < B) : SeenIs w' g s := by
  obtain ⟨cs, h1, h2⟩ := h
  exact ⟨cs, h1.below hb hg, h2⟩
theorem SeenIs.put {w : World} {g : Nat} {s : List Int} {z : Int} (h : SeenIs w g s) (h0 : 0 ≤ z) (h1 : z < 100) : SeenIs (w.setCell ⟨g, z.toNat, none⟩ (.bool true)) g (z :: s) := by
  obtain ⟨cs, hb, hs, hc⟩ := h
  refine ⟨_, hb.put _ _, by simp [hs], fun i hi => ?_⟩
  by_cases e : i = z.toNat
  · subst e
    rw [Array.getElem?_setIfInBounds_self_of_lt (by omega)]
    have : ((z.toNat : Nat) : Int) = z := by omega
    simp [this]
  · rw [Array.getElem?_setIfInBounds_ne (by omega), hc i hi]
    have : (i : Int) ≠ z := by omega
    simp [this]
theorem SeenIs.at {w : World} {g : Nat} {s : List Int} {z : Int} (h : SeenIs w g s) (h0 : 0 ≤ z) (h1 : z < 100) : w.cell? ⟨g, z.toNat, none⟩ = some (.bool (s.contains z)) ∧ w.frozen? ⟨g, z.toNat, none⟩ = false ∧ g < w.heap.size := by
  obtain ⟨cs, hb, hs, hc⟩ := h
  refine ⟨?_, hb.frozen _, hb.lt⟩
  rw [hb.cell, hc _ (by omega)]
  have : ((z.toNat : Nat) : Int) = z := by omega
  rw [this]

theorem Tryz.zeroSeen : Tryz.zeroCells181 = Array.replicate 100 (.bool false) := by kernel_rfl
theorem SeenIs.new (w : World) : SeenIs (w.alloc (.cells Tryz.zeroCells181 181)) w.heap.size [] := by
  refine ⟨_, BlockIs.new _ _ _, by rw [Tryz.zeroSeen]; simp, fun i hi => ?_⟩
  rw [Tryz.zeroSeen]
  simp [hi]

set_option maxHeartbeats 1600000 in
theorem tasksOk_any (v : Value) (l : List TV) (w : World) (x : Addr) (hg : ErrAt x w) (hv : TaskSl w v l) (hlen : l.length ≤ 1048576) :
    Calls Tryz.prog 126 #[v] w fun e w' => e = .returned (.bool (tasksOk l)) ∧ Below w.heap.size w w' := by
  obtain ⟨A, c, rfl, hA⟩ := hv.form
  have HA := Lib.hid hA
  have HG := Lib.hid hg
  clear hA hv hg
  by_cases h30 : l.length ≤ 30
  · have HT := Lib.hid (show tasksOk l = tasksFrom [] l by simp [tasksOk, h30])
    go_enter Tryz.func126, Tryz.ntmps126
    go_wp2_with fail
    go_loopw [11] (fun s11 wr => ∃ (k : Nat) (s : List Int), k ≤ l.length ∧ s11 = .int .i64 k ∧ tasksFrom [] l = tasksFrom s (l.drop k) ∧ SeenIs wr w.heap.size s ∧ Below w.heap.size w wr) (fun s11 _ => (l.length - intOf s11).toNat)
    case atStart => exact ⟨0, [], by omega, rfl, by simp, SeenIs.new w, (by repeat' (first | exact Below.refl _ _ | refine Below.alloc ?_ ?_ _ | refine Below.setCell ?_ ?_ _ | refine Below.drew ?_ | (apply below_step; assumption) | (simp; done) | (simp; omega) | omega))⟩
    case round =>
      obtain ⟨k, s, hk, rfl, hts, hS, hB⟩ := hrel
      have HTS := Lib.hid hts
      have HS := Lib.hid hS
      have hzr := hB.size
      have hG : ErrAt x wr := HG.out.below hB (Nat.le_refl _)
      have HGR := Lib.hid hG
      clear hts hS hG
      by_cases hlt : k < l.length
      · obtain ⟨b, off, rfl, hbw, hat⟩ := HA.out (by omega)
        obtain ⟨t, ht⟩ : ∃ t, l[k]? = some t := ⟨_, List.getElem?_eq_getElem hlt⟩
        obtain ⟨cs, hR, hC⟩ := (hat.below TaskR.kept hB hbw) k t ht
        have HD := Lib.hid (drop_at ht)
        obtain ⟨v1, v2, rfl, sl, si, m1, m2⟩ := hR
        obtain ⟨A1, c1, rfl, _⟩ := sl.form
        obtain ⟨A2, c2, rfl, _⟩ := si.form
        have hok := fun w x hg h1 h2 => TaskOk_any t (.slice A1 t.want.length c1) (.slice A2 t.tols.length c2) w x hg h1 h2 m1 m2
        have SL := Lib.hid sl
        have SI := Lib.hid si
        obtain ⟨q0, q1, q2, q3, q4, q5, q6⟩ := task_cells hC
        have hbr : b < wr.heap.size := by omega
        cases ho : t.ok
        all_goals
          rw [ho] at hok
          have HO := Lib.hid ho
          have HOK := Lib.hid hok
        · clear hat hC ht sl si m1 m2 ho hok
          go_wp2_with fail
          have hX : Below wr.heap.size wr (wr.alloc (.cells #[.int .i64 t.id, .int .i64 t.prio, .int .i64 t.need.c, .int .i64 t.need.m, .int .i64 t.need.p, .slice A1 t.want.length c1, .slice A2 t.tols.length c2] 46)) := (by repeat' (first | exact Below.refl _ _ | refine Below.alloc ?_ ?_ _ | refine Below.setCell ?_ ?_ _ | refine Below.drew ?_ | (apply below_step; assumption) | (simp; done) | (simp; omega) | omega))
          refine (HOK.out _ x (HGR.out.alloc _) (SL.out.below hX) (SI.out.below hX)).mono ?_
          rintro e w2 ⟨rfl, hb2⟩
          have hC2 := below_of hX hb2
          go_wp2_with fail
          go_ret
          exact ⟨by rw [HT.out, HTS.out, HD.out, tasksFrom_bad HO.out]; rfl, below_of hB hC2⟩
        · obtain ⟨i1, i2⟩ := TV.ok_id ho
          clear hat hC ht sl si m1 m2 ho hok
          go_wp2_with fail
          have hX : Below wr.heap.size wr (wr.alloc (.cells #[.int .i64 t.id, .int .i64 t.prio, .int .i64 t.need.c, .int .i64 t.need.m, .int .i64 t.need.p, .slice A1 t.want.length c1, .slice A2 t.tols.length c2] 46)) := (by repeat' (first | exact Below.refl _ _ | refine Below.alloc ?_ ?_ _ | refine Below.setCell ?_ ?_ _ | refine Below.drew ?_ | (apply below_step; assumption) | (simp; done) | (simp; omega) | omega))
          refine (HOK.out _ x (HGR.out.alloc _) (SL.out.below hX) (SI.out.below hX)).mono ?_
          rintro e w2 ⟨rfl, hb2⟩
          have hC2 := below_of hX hb2
          have BX := (BlockIs.new wr 46 #[.int .i64 t.id, .int .i64 t.prio, .int .i64 t.need.c, .int .i64 t.need.m, .int .i64 t.need.p, .slice A1 t.want.length c1, .slice A2 t.tols.length c2]).below hb2 (by simp)
          have x0 := BX.cell 0
          simp at x0
          have S2 := HS.out.below hC2 (by obtain ⟨cs, h1, _⟩ := HS.out; exact h1.lt)
          obtain ⟨y0, yf, yl⟩ := S2.at (z := t.id) (by omega) (by omega)
          have HS2 := Lib.hid S2
          have hz2 := hC2.size
          clear BX S2 hb2
          cases hs : s.contains t.id
          all_goals
            rw [hs] at y0
            have HC := Lib.hid hs
            clear hs
          · go_wp2_with fail
            go_roundw
            case rel => exact ⟨k + 1, t.id :: s, by omega, by go_num, by rw [HTS.out, HD.out, tasksFrom_yes HO.out HC.out], HS2.out.put (by omega) (by omega), (below_of hB hC2).setCell (Nat.le_refl _) _⟩
            case measure => simp [intOf]; omega
          · go_wp2_with fail
            go_ret
            exact ⟨by rw [HT.out, HTS.out, HD.out, tasksFrom_twice HC.out]; rfl, below_of hB hC2⟩
      · have hkl : k = l.length := by omega
        have HF := Lib.hid (show tasksFrom [] l = true by rw [HTS.out, hkl, List.drop_length]; rfl)
        clear hkl
        go_wp2_with fail
        go_ret
        exact ⟨by rw [HT.out, HF.out]; rfl, hB⟩
  · have HT := Lib.hid (show tasksOk l = false by simp [tasksOk, h30])
    have h30' : (30 : Int) < (l.length : Int) := by omega
    clear h30
    go_enter Tryz.func126, Tryz.ntmps126
    go_wp2_with fail
    go_ret
    exact ⟨by rw [HT.out]; rfl, (by repeat' (first | exact Below.refl _ _ | refine Below.alloc ?_ ?_ _ | refine Below.setCell ?_ ?_ _ | refine Below.drew ?_ | (apply below_step; assumption) | (simp; done) | (simp; omega) | omega))⟩
end Go.Proofs.YtocfgejceoenmaaGreatDoor
namespace Go.Proofs.YtocfgejceoenmaaGreatDoor
open Go.RowKit

set_option maxHeartbeats 1600000 in
theorem nodesOk_any (v : Value) (l : List NV) (w : World) (x : Addr) (hg : ErrAt x w) (hv : NodeSl w v l) (hlen : l.length ≤ 1048576) :
    Calls Tryz.prog 127 #[v] w fun e w' => e = .returned (.bool (nodesOk l)) ∧ Below w.heap.size w w' := by
  obtain ⟨A, c, rfl, hA⟩ := hv.form
  have HA := Lib.hid hA
  have HG := Lib.hid hg
  clear hA hv hg
  by_cases h20 : l.length ≤ 20
  · have HT := Lib.hid (show nodesOk l = nodesFrom 0 l by simp [nodesOk, h20])
    go_enter Tryz.func127, Tryz.ntmps127
    go_wp2_with fail
    go_loopw [3, 11] (fun s3 s11 wr => ∃ (k : Nat) (p : Int), k ≤ l.length ∧ s11 = .int .i64 k ∧ s3 = .int .i64 p ∧ nodesFrom 0 l = nodesFrom p (l.drop k) ∧ Below w.heap.size w wr) (fun _ s11 _ => (l.length - intOf s11).toNat)
    case atStart => exact ⟨0, 0, by omega, rfl, rfl, by simp, Below.refl _ _⟩
    case round =>
      obtain ⟨k, p, hk, rfl, rfl, hts, hB⟩ := hrel
      have HTS := Lib.hid hts
      have hzr := hB.size
      have HGR := Lib.hid (HG.out.below hB (Nat.le_refl _))
      clear hts
      by_cases hlt : k < l.length
      · obtain ⟨b, off, rfl, hbw, hat⟩ := HA.out (by omega)
        obtain ⟨t, ht⟩ : ∃ t, l[k]? = some t := ⟨_, List.getElem?_eq_getElem hlt⟩
        obtain ⟨cs, hR, hC⟩ := (hat.below NodeR.kept hB hbw) k t ht
        have HD := Lib.hid (drop_at ht)
        obtain ⟨v1, v2, rfl, sl, si, m1, m2⟩ := hR
        obtain ⟨A1, c1, rfl, _⟩ := sl.form
        obtain ⟨A2, c2, rfl, _⟩ := si.form
        have hok := fun w x hg h1 h2 => NodeOk_any t (.slice A1 t.labs.length c1) (.slice A2 t.taints.length c2) w x hg h1 h2 m1 m2
        have SL := Lib.hid sl
        have SI := Lib.hid si
        obtain ⟨q0, q1, q2, q3, q4, q5, q6, q7⟩ := node_cells hC
        have hbr : b < wr.heap.size := by omega
        cases ho : t.ok
        all_goals
          rw [ho] at hok
          have HO := Lib.hid ho
          have HOK := Lib.hid hok
          clear hat hC ht sl si m1 m2 ho hok
        · go_wp2_with fail
          have hX : Below wr.heap.size wr (wr.alloc (.cells #[.int .i64 t.id, .int .i64 t.pool, .int .i64 t.cap.c, .int .i64 t.cap.m, .int .i64 t.cap.p, .slice A1 t.labs.length c1, .slice A2 t.taints.length c2, .bool t.cordon] 60)) := (by repeat' (first | exact Below.refl _ _ | refine Below.alloc ?_ ?_ _ | refine Below.setCell ?_ ?_ _ | refine Below.drew ?_ | (apply below_step; assumption) | (simp; done) | (simp; omega) | omega))
          refine (HOK.out _ x (HGR.out.alloc _) (SL.out.below hX) (SI.out.below hX)).mono ?_
          rintro e w2 ⟨rfl, hb2⟩
          have hC2 := below_of hX hb2
          go_wp2_with fail
          go_ret
          exact ⟨by rw [HT.out, HTS.out, HD.out, nodesFrom_bad HO.out]; rfl, below_of hB hC2⟩
        · go_wp2_with fail
          have hX : Below wr.heap.size wr (wr.alloc (.cells #[.int .i64 t.id, .int .i64 t.pool, .int .i64 t.cap.c, .int .i64 t.cap.m, .int .i64 t.cap.p, .slice A1 t.labs.length c1, .slice A2 t.taints.length c2, .bool t.cordon] 60)) := (by repeat' (first | exact Below.refl _ _ | refine Below.alloc ?_ ?_ _ | refine Below.setCell ?_ ?_ _ | refine Below.drew ?_ | (apply below_step; assumption) | (simp; done) | (simp; omega) | omega))
          refine (HOK.out _ x (HGR.out.alloc _) (SL.out.below hX) (SI.out.below hX)).mono ?_
          rintro e w2 ⟨rfl, hb2⟩
          have hC2 := below_of hX hb2
          have BX := (BlockIs.new wr 60 #[.int .i64 t.id, .int .i64 t.pool, .int .i64 t.cap.c, .int .i64 t.cap.m, .int .i64 t.cap.p, .slice A1 t.labs.length c1, .slice A2 t.taints.length c2, .bool t.cordon]).below hb2 (by simp)
          have x0 := BX.cell 0
          simp at x0
          clear BX hb2
          by_cases hp : t.id ≤ p
          · have HP := Lib.hid hp
            go_wp2_with fail
            go_ret
            exact ⟨by rw [HT.out, HTS.out, HD.out, nodesFrom_low HP.out]; rfl, below_of hB hC2⟩
          · have hp' : p < t.id := by omega
            have HP := Lib.hid hp'
            clear hp
            go_wp2_with fail
            go_roundw
            case rel => exact ⟨k + 1, t.id, by omega, by go_num, rfl, by rw [HTS.out, HD.out, nodesFrom_yes HO.out HP.out], below_of hB hC2⟩
            case measure => simp [intOf]; omega
      · have hkl : k = l.length := by omega
        have HF := Lib.hid (show nodesFrom 0 l = true by rw [HTS.out, hkl, List.drop_length]; rfl)
        clear hkl
        go_wp2_with fail
        go_ret
        exact ⟨by rw [HT.out, HF.out]; rfl, hB⟩
  · have HT := Lib.hid (show nodesOk l = false by simp [nodesOk, h20])
    have h20' : (20 : Int) < (l.length : Int) := by omega
    clear h20
    go_enter Tryz.func127, Tryz.ntmps127
    go_wp2_with fail
    go_ret
    exact ⟨by rw [HT.out]; rfl, (by repeat' (first | exact Below.refl _ _ | refine Below.alloc ?_ ?_ _ | refine Below.setCell ?_ ?_ _ | refine Below.drew ?_ | (apply below_step; assumption) | (simp; done) | (simp; omega) | omega))⟩

theorem bindOk_eq (c : CV) (b : BV) (b1 b2 ok : Bool) (t : TV) (n : NV) (h1 : (fstBy TV.id c.tasks b.task).isSome = b1) (h2 : (fstBy NV.id c.nodes b.node).isSome = b2)
    (ht : (fstBy TV.id c.tasks b.task).getD TV.zero = t) (hn : (fstBy NV.id c.nodes b.node).getD NV.zero = n) (hok : canHost n t = ok) : bindOk c b = (b1 && b2 && ok) := by
  subst h1 h2 ht hn hok
  unfold bindOk
  cases fstBy TV.id c.tasks b.task <;> cases fstBy NV.id c.nodes b.node <;> simp

set_option maxHeartbeats 3200000 in
theorem bindsOk_any (c : CV) (a0 a1 a2 : Value) (w : World) (x : Addr) (hg : ErrAt x w) (hc : CluR w c a0 a1 a2) :
    Calls Tryz.prog 128 #[.agg #[a0, a1, a2]] w fun e w' => e = .returned (.bool (bindsFrom c 0 c.binds)) ∧ Below w.heap.size w w' := by
  have HC := Lib.hid hc
  obtain ⟨h0, h1, h2, l0, l1, l2⟩ := hc
  obtain ⟨D0, e0, rfl, r0⟩ := h0.form
  obtain ⟨D1, e1, rfl, r1⟩ := h1.form
  obtain ⟨D2, e2, rfl, hA⟩ := h2.form
  have HA := Lib.hid hA
  have HG := Lib.hid hg
  clear hA h0 h1 h2 l0 l1 r0 r1 hg
  go_enter Tryz.func128, Tryz.ntmps128
  go_wp2_with fail
  go_loopw [3, 13] (fun s3 s13 wr => ∃ (k : Nat) (p : Int), k ≤ c.binds.length ∧ s13 = .int .i64 k ∧ s3 = .int .i64 p ∧ bindsFrom c 0 c.binds = bindsFrom c p (c.binds.drop k) ∧ BlockIs wr w.heap.size 39 #[.slice D0 c.tasks.length e0, .slice D1 c.nodes.length e1, .slice D2 c.binds.length e2] ∧ Below w.heap.size w wr) (fun _ s13 _ => (c.binds.length - intOf s13).toNat)
  case atStart => exact ⟨0, 0, by omega, rfl, rfl, by simp, BlockIs.new _ _ _, (by repeat' (first | exact Below.refl _ _ | refine Below.alloc ?_ ?_ _ | refine Below.setCell ?_ ?_ _ | refine Below.drew ?_ | (apply below_step; assumption) | (simp; done) | (simp; omega) | omega))⟩
  case round =>
    obtain ⟨k, p, hk, rfl, rfl, hts, hblk, hB⟩ := hrel
    have HTS := Lib.hid hts
    have HBK := Lib.hid hblk
    have hzr := hB.size
    have hgl := hblk.lt
    have HGR := Lib.hid (HG.out.below hB (Nat.le_refl _))
    clear hts
    by_cases hlt : k < c.binds.length
    · obtain ⟨b, off, rfl, hbw, hat⟩ := HA.out (by omega)
      obtain ⟨t, ht⟩ : ∃ t, c.binds[k]? = some t := ⟨_, List.getElem?_eq_getElem hlt⟩
      obtain ⟨cs, hR, hC⟩ := (hat.below BindR.kept hB hbw) k t ht
      have HD := Lib.hid (drop_at ht)
      obtain rfl := hR
      obtain ⟨q0, q1⟩ := bind_cells hC
      have g0 := hblk.cell 0
      have g1 := hblk.cell 1
      have g2 := hblk.cell 2
      simp at g0 g1 g2
      have hbr : b < wr.heap.size := by omega
      clear hat hC ht hblk
      go_wp2_with fail
      have hX : Below wr.heap.size wr (wr.alloc (.cells #[.int .i64 t.task, .int .i64 t.node] 70)) := (by repeat' (first | exact Below.refl _ _ | refine Below.alloc ?_ ?_ _ | refine Below.setCell ?_ ?_ _ | refine Below.drew ?_ | (apply below_step; assumption) | (simp; done) | (simp; omega) | omega))
      have hCX := below_of hB hX
      refine (findTask_any c _ _ _ t.task w _ hCX HC.out).mono ?_
      rintro e w2 ⟨cs1, rfl, hR1, hb2⟩
      generalize hb1 : (fstBy TV.id c.tasks t.task).isSome = b1
      generalize ht1 : (fstBy TV.id c.tasks t.task).getD TV.zero = t1 at hR1
      have HB1 := Lib.hid hb1
      have HT1 := Lib.hid ht1
      obtain ⟨v1, v2, rfl, sl1, si1, m1, m2⟩ := hR1
      obtain ⟨A1, c1, rfl, _⟩ := sl1.form
      obtain ⟨A2, c2, rfl, _⟩ := si1.form
      have hD2 := below_of hX hb2
      have hC2 := below_of hB hD2
      have BB2 := (BlockIs.new wr 70 #[.int .i64 t.task, .int .i64 t.node]).below hb2 (by simp)
      have BK2 := HBK.out.below hD2 HBK.out.lt
      have g0 := BK2.cell 0
      have g1 := BK2.cell 1
      have g2 := BK2.cell 2
      have y0 := BB2.cell 0
      have y1 := BB2.cell 1
      have yl := BB2.lt
      have kl := BK2.lt
      simp at g0 g1 g2 y0 y1
      have HBB := Lib.hid BB2
      have HBK2 := Lib.hid BK2
      have SL1 := Lib.hid sl1
      have SI1 := Lib.hid si1
      have M1 := Lib.hid (And.intro m1 m2)
      clear hb1 ht1 BB2 BK2 sl1 si1 m1 m2 hb2
      go_wp2_with fail
      have hX2 : Below w2.heap.size w2 (w2.alloc (.cells #[.int .i64 t1.id, .int .i64 t1.prio, .int .i64 t1.need.c, .int .i64 t1.need.m, .int .i64 t1.need.p, .slice A1 t1.want.length c1, .slice A2 t1.tols.length c2] 46)) := (by repeat' (first | exact Below.refl _ _ | refine Below.alloc ?_ ?_ _ | refine Below.setCell ?_ ?_ _ | refine Below.drew ?_ | (apply below_step; assumption) | (simp; done) | (simp; omega) | omega))
      have hCX2 := below_of hC2 hX2
      refine (findNode_any c _ _ _ t.node w _ hCX2 HC.out).mono ?_
      rintro e w3 ⟨cs2, rfl, hR2, hb3⟩
      generalize hb2 : (fstBy NV.id c.nodes t.node).isSome = b2
      generalize ht2 : (fstBy NV.id c.nodes t.node).getD NV.zero = n2 at hR2
      have HB2 := Lib.hid hb2
      have HT2 := Lib.hid ht2
      obtain ⟨u1, u2, rfl, sl2, si2, m3, m4⟩ := hR2
      obtain ⟨A3, c3, rfl, _⟩ := sl2.form
      obtain ⟨A4, c4, rfl, _⟩ := si2.form
      have hD3 := below_of hX2 hb3
      have hC3 := below_of hC2 hD3
      have BB3 := HBB.out.below hD3 HBB.out.lt
      have BK3 := HBK2.out.below hD3 HBK2.out.lt
      have BT3 := (BlockIs.new w2 46 #[.int .i64 t1.id, .int .i64 t1.prio, .int .i64 t1.need.c, .int .i64 t1.need.m, .int .i64 t1.need.p, .slice A1 t1.want.length c1, .slice A2 t1.tols.length c2]).below hb3 (by simp)
      have HR := Lib.hid (bindOk_eq c t b1 b2 _ t1 n2 HB1.out HB2.out HT1.out HT2.out rfl)
      have hch := fun w x hg h1 h2 h3 h4 => CanHost_any n2 t1 (.slice A3 n2.labs.length c3) (.slice A4 n2.taints.length c4) (.slice A1 t1.want.length c1) (.slice A2 t1.tols.length c2) w x hg h1 h2 h3 h4 m3 m4 M1.out.1 M1.out.2
      generalize canHost n2 t1 = ok at HR hch
      have HCH := Lib.hid hch
      have y0 := BB3.cell 0
      have yl := BB3.lt
      have tl := BT3.lt
      have kl := BK3.lt
      simp at y0
      have z0 := BT3.cell 0
      have z1 := BT3.cell 1
      have z2 := BT3.cell 2
      have z3 := BT3.cell 3
      have z4 := BT3.cell 4
      have z5 := BT3.cell 5
      have z6 := BT3.cell 6
      simp at z0 z1 z2 z3 z4 z5 z6
      have HBB3 := Lib.hid BB3
      have HBK3 := Lib.hid BK3
      have SL2 := Lib.hid sl2
      have SI2 := Lib.hid si2
      clear hb2 ht2 BB3 BK3 BT3 sl2 si2 hb3 m3 m4 hch HBB HBK2 g0 g1 g2 y1
      by_cases hp : t.task ≤ p
      · have HP := Lib.hid hp
        go_wp2_with fail
        go_ret
        exact ⟨by rw [HTS.out, HD.out, bindsFrom_low HP.out]; rfl, (by repeat' (first | exact Below.refl _ _ | refine Below.alloc ?_ ?_ _ | refine Below.setCell ?_ ?_ _ | refine Below.drew ?_ | (apply below_step; assumption) | (simp; done) | (simp; omega) | omega))⟩
      · have hp' : p < t.task := by omega
        have HP := Lib.hid hp'
        clear hp
        cases b1
        · go_wp2_with fail
          go_ret
          exact ⟨by rw [HTS.out, HD.out, bindsFrom_bad (by rw [HR.out]; rfl)]; rfl, (by repeat' (first | exact Below.refl _ _ | refine Below.alloc ?_ ?_ _ | refine Below.setCell ?_ ?_ _ | refine Below.drew ?_ | (apply below_step; assumption) | (simp; done) | (simp; omega) | omega))⟩
        cases b2
        · go_wp2_with fail
          go_ret
          exact ⟨by rw [HTS.out, HD.out, bindsFrom_bad (by rw [HR.out]; rfl)]; rfl, (by repeat' (first | exact Below.refl _ _ | refine Below.alloc ?_ ?_ _ | refine Below.setCell ?_ ?_ _ | refine Below.drew ?_ | (apply below_step; assumption) | (simp; done) | (simp; omega) | omega))⟩
        go_wp2_with fail
        have hX3 : Below w3.heap.size w3 (w3.alloc (.cells #[.int .i64 n2.id, .int .i64 n2.pool, .int .i64 n2.cap.c, .int .i64 n2.cap.m, .int .i64 n2.cap.p, .slice A3 n2.labs.length c3, .slice A4 n2.taints.length c4, .bool n2.cordon] 60)) := (by repeat' (first | exact Below.refl _ _ | refine Below.alloc ?_ ?_ _ | refine Below.setCell ?_ ?_ _ | refine Below.drew ?_ | (apply below_step; assumption) | (simp; done) | (simp; omega) | omega))
        have hCX3 := below_of hC3 hX3
        refine (HCH.out _ x (HG.out.below hCX3 (Nat.le_refl _)) (SL2.out.below hCX3) (SI2.out.below hCX3) (SL1.out.below hCX3) (SI1.out.below hCX3)).mono ?_
        rintro e w4 ⟨rfl, hb4⟩
        have hD4 := below_of hX3 hb4
        have hC4 := below_of hC3 hD4
        have BB4 := HBB3.out.below hD4 HBB3.out.lt
        have y0 := BB4.cell 0
        simp at y0
        have HBK4 := Lib.hid (HBK3.out.below hD4 HBK3.out.lt)
        clear BB4 hb4
        cases ok
        · go_wp2_with fail
          go_ret
          exact ⟨by rw [HTS.out, HD.out, bindsFrom_bad (by rw [HR.out]; rfl)]; rfl, hC4⟩
        · go_wp2_with fail
          go_roundw
          case rel => exact ⟨k + 1, t.task, by omega, by go_num, rfl, by rw [HTS.out, HD.out, bindsFrom_yes (by rw [HR.out]; rfl) HP.out], HBK4.out, hC4⟩
          case measure => simp [intOf]; omega
    · have hkl : k = c.binds.length := by omega
      have HF := Lib.hid (show bindsFrom c 0 c.binds = true by rw [HTS.out, hkl, List.drop_length]; rfl)
      clear hkl
      go_wp2_with fail
      go_ret
      exact ⟨by rw [HF.out]; rfl, hB⟩
end Go.Proofs.YtocfgejceoenmaaGreatDoor
