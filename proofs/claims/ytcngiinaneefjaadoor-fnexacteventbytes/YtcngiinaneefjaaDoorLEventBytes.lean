/- FnExactEventBytes answers true at every event: EventBytes and its model give the same bytes, the event is left as it was, and what is returned owns its memory. Tied to impl.errRange's text. (mkevbytes.py) -/
import Derived.Test.YtcngiinaneefjaaDoorMg06
import Derived.Test.YtcngiinaneefjaaDoorMg09
namespace Go.Proofs.YtcngiinaneefjaaDoor.fnExactEventBytes
open Go.ChangeShapes Go.WideShapes Go.ChangeAt Go.RowKit Go.Joins

set_option maxHeartbeats 1600000 in
theorem walk_long (t : EV) (v1 v2 : Value) (w : World) (h1 : LabSl w v1 t.task.want) (h2 : IntSl w v2 t.task.tols) (m1 : t.task.want.length ≤ maxLen) (m2 : t.task.tols.length ≤ maxLen) (h : 1048576 < t.task.want.length + t.task.tols.length) :
    Calls Tryd.prog 5 #[.agg #[.int .i64 t.kind, .int .i64 t.who, .int .i64 t.n, .bool t.works, .bool t.keep, .int .i64 t.task.id, .int .i64 t.task.prio, .int .i64 t.task.need.c, .int .i64 t.task.need.m, .int .i64 t.task.need.p, v1, v2]] w fun e w' => e = .returned (.bool true) ∧ Below w.heap.size w w' := by
  obtain ⟨A1, c1, rfl, _⟩ := h1.form
  obtain ⟨A2, c2, rfl, _⟩ := h2.form
  have HSZ := Lib.hid (show szTV 1048576 t.task.want.length t.task.tols.length = -1 by
    unfold szTV szLeft
    split
    · rw [if_neg (by omega)]
    · rfl)
  have M := Lib.hid (And.intro m1 m2)
  clear h1 h2 m1 m2 h
  go_enter Tryd.func5, Tryd.ntmps5
  go_wp2_with fail
  refine (szEvent_any _ _ _ _ _ _ _ _ _ _ A1 A2 _ c1 _ c2 1048576 _ (by omega) (by omega) M.out.1 M.out.2).mono ?_
  rintro e w1 ⟨rfl, hb1⟩
  rw [HSZ.out]
  have hz1 := hb1.size
  simp at hz1
  go_wp2_with fail
  go_ret
  exact ⟨rfl, (by repeat' (first | exact Below.refl _ _ | refine Below.alloc ?_ ?_ _ | refine Below.setCell ?_ ?_ _ | refine Below.drew ?_ | (apply below_step; assumption) | (simp; done) | (simp; omega) | omega))⟩

set_option maxHeartbeats 6400000 in
set_option maxRecDepth 20000 in
theorem walk (t : EV) (v1 v2 : Value) (w : World) (x : Addr) (hg : ErrAt x w) (h1 : LabSl w v1 t.task.want) (h2 : IntSl w v2 t.task.tols) (h : t.task.want.length + t.task.tols.length ≤ 1048576) :
    Calls Tryd.prog 5 #[.agg #[.int .i64 t.kind, .int .i64 t.who, .int .i64 t.n, .bool t.works, .bool t.keep, .int .i64 t.task.id, .int .i64 t.task.prio, .int .i64 t.task.need.c, .int .i64 t.task.need.m, .int .i64 t.task.need.p, v1, v2]] w fun e w' => e = .returned (.bool true) ∧ Below w.heap.size w w' := by
  have H1 := Lib.hid h1
  have H2 := Lib.hid h2
  have L1 := Lib.hid (show t.task.want.length ≤ 1048576 by omega)
  have L2 := Lib.hid (show t.task.tols.length ≤ 1048576 by omega)
  obtain ⟨A1, c1, e1, _⟩ := h1.form
  obtain ⟨A2, c2, e2, _⟩ := h2.form
  have HSZ := Lib.hid (show szTV 1048576 t.task.want.length t.task.tols.length = 1048576 - t.task.want.length - t.task.tols.length by
    unfold szTV szLeft
    rw [if_pos (by omega), if_pos (by omega)])
  have hle : (0 : Int) ≤ 1048576 - t.task.want.length - t.task.tols.length := by omega
  have HG := Lib.hid hg
  have hsz := fun w => szEvent_any (.int .i64 t.kind) (.int .i64 t.who) (.int .i64 t.n) (.bool t.works) (.bool t.keep) (.int .i64 t.task.id) (.int .i64 t.task.prio) (.int .i64 t.task.need.c) (.int .i64 t.task.need.m) (.int .i64 t.task.need.p) A1 A2 t.task.want.length c1 t.task.tols.length c2 1048576 w (by omega) (by omega) (by unfold maxLen; omega) (by unfold maxLen; omega)
  rw [← e1, ← e2, HSZ.out] at hsz
  have HS := Lib.hid hsz
  have so := fun a b w h1 h2 => sEventBytes_any t a b w h1 h2 L1.out L2.out
  have io := fun a b w hg h1 h2 => EventBytes_any t a b w x hg h1 h2 L1.out L2.out
  have hLn := eventBytes_len t
  generalize eventBytes t = L at so io hLn
  have hL : L.length ≤ 1048576 := by omega
  have SO := Lib.hid so
  have IO := Lib.hid io
  generalize (1048576 - (t.task.want.length : Int) - t.task.tols.length) = z at hle HS
  clear h1 h2 h hg e1 e2 hsz so io HSZ hLn
  go_enter Tryd.func5, Tryd.ntmps5
  go_wp2_with fail
  refine (HS.out _).mono ?_
  rintro e w1 ⟨rfl, hb1⟩
  have hz1 := hb1.size
  simp at hz1
  have B1 := (BlockIs.new w 46 #[.int .i64 t.kind, .int .i64 t.who, .int .i64 t.n, .bool t.works, .bool t.keep, .int .i64 t.task.id, .int .i64 t.task.prio, .int .i64 t.task.need.c, .int .i64 t.task.need.m, .int .i64 t.task.need.p, v1, v2]).below hb1 (by simp)
  have hC1 : Below w.heap.size w w1 := (by repeat' (first | exact Below.refl _ _ | refine Below.alloc ?_ ?_ _ | refine Below.setCell ?_ ?_ _ | refine Below.drew ?_ | (apply below_step; assumption) | (simp; done) | (simp; omega) | omega))
  have hx1 := B1.cell
  have HB1 := Lib.hid B1
  clear B1
  go_wp2_with fail
  refine (toEvent_any t v1 v2 _ (H1.out.below hC1) (H2.out.below hC1) L1.out L2.out).mono ?_
  rintro e w2 ⟨g1, g2, rfl, sl2, si2, hb2⟩
  have SL := Lib.hid sl2
  have SI := Lib.hid si2
  have hC2 : Below w.heap.size w w2 := hC1.trans (hb2.mono hC1.size)
  have HB2 := Lib.hid (HB1.out.below hb2 HB1.out.lt)
  clear sl2 si2 hx1
  go_wp2_with fail
  refine (SO.out _ _ _ SL.out SI.out).mono ?_
  rintro e w3 ⟨v0, rfl, hv0, hb3⟩
  have hC3 : Below w.heap.size w w3 := hC2.trans (hb3.mono hC2.size)
  have B3 := HB2.out.below hb3 HB2.out.lt
  have hx3 := B3.cell
  have HB3 := Lib.hid B3
  have HV0 := Lib.hid hv0.o
  obtain ⟨V0, cp0, rfl, -⟩ := own_form hv0.o
  clear B3 hb2 hb1 HB1 HB2 SL SI hC1 hC2 hb3 hv0
  go_wp2_with fail
  refine (toEvent_o t v1 v2 _ (H1.out.below hC3) (H2.out.below hC3) L1.out L2.out).mono ?_
  rintro e w4 ⟨x1, x2, rfl, k1, k2, k3, bl, it, hb4⟩
  have hC4 : Below w.heap.size w w4 := hC3.trans (hb4.mono hC3.size)
  have HLO := Lib.hid (labO_of bl L1.out)
  have HIO := Lib.hid (intO_of it L2.out)
  have HNE := Lib.hid (blk_ne bl it (by decide))
  have HXL := Lib.hid (And.intro (And.intro k1 bl.lt) (And.intro k2 k3))
  have HB4 := Lib.hid (HB3.out.below hb4 HB3.out.lt)
  have HVL := Lib.hid (own_lt HV0.out)
  have HV4 := Lib.hid (show BytO w4 _ L from own_agree HV0.out (Agree.of_below hb4 HVL.out))
  have hz4 := hb4.size
  have hwl := HB3.out.lt
  clear bl it k1 k2 k3 hx3 hb4 HV0 HB3
  go_wp2_with fail
  have hX4 : Below w4.heap.size w4 (w4.alloc (.cells #[.int .i64 t.kind, .int .i64 t.who, .int .i64 t.n, .bool t.works, .bool t.keep, .int .i64 t.task.id, .int .i64 t.task.prio, .int .i64 t.task.need.c, .int .i64 t.task.need.m, .int .i64 t.task.need.p, .slice (some ⟨x1, 0, none⟩) t.task.want.length t.task.want.length, .slice (some ⟨x2, 0, none⟩) t.task.tols.length t.task.tols.length] 50)) := (by repeat' (first | exact Below.refl _ _ | refine Below.alloc ?_ ?_ _ | refine Below.setCell ?_ ?_ _ | refine Below.drew ?_ | (apply below_step; assumption) | (simp; done) | (simp; omega) | omega))
  have hCX4 := below_of hC4 hX4
  refine (IO.out _ _ _ (HG.out.below hCX4 (Nat.le_refl _)) (HLO.out.sl.below hX4) (HIO.out.sl.below hX4)).mono ?_
  rintro e w5 ⟨u1, rfl, hu1, hb5⟩
  have hD5 := below_of hX4 hb5
  have hC5 := below_of hC4 hD5
  have HB5 := Lib.hid (HB4.out.below hD5 HB4.out.lt)
  have HX5 := Lib.hid ((BlockIs.new w4 50 #[.int .i64 t.kind, .int .i64 t.who, .int .i64 t.n, .bool t.works, .bool t.keep, .int .i64 t.task.id, .int .i64 t.task.prio, .int .i64 t.task.need.c, .int .i64 t.task.need.m, .int .i64 t.task.need.p, .slice (some ⟨x1, 0, none⟩) t.task.want.length t.task.want.length, .slice (some ⟨x2, 0, none⟩) t.task.tols.length t.task.tols.length]).below hb5 (by simp))
  have HLO5 := Lib.hid (show LabO w5 _ _ from own_agree HLO.out (Agree.of_below hD5 (own_lt HLO.out)))
  have HIO5 := Lib.hid (show IntO w5 _ _ from own_agree HIO.out (Agree.of_below hD5 (own_lt HIO.out)))
  have HV5 := Lib.hid (show BytO w5 _ L from own_agree HV4.out (Agree.of_below hD5 (own_lt HV4.out)))
  have HG1 := Lib.hid hu1.o
  have HGL := Lib.hid (show ∀ b ∈ blk u1, w4.heap.size < b from fun b hb => by have := hu1.low b hb; simp at this; omega)
  obtain ⟨V1, cp1, rfl, -⟩ := own_form hu1.o
  have hz5 := hD5.size
  clear hb5 HB4 HLO HIO HV4 hX4 hCX4 hu1
  go_wp2_with fail
  refine (eqByteS_same _ _ L _ HG1.out.sl HV5.out.sl hL).mono ?_
  rintro e w6 ⟨rfl, hb6⟩
  have hC6 := below_of hC5 hb6
  have B6 := HB5.out.below hb6 HB5.out.lt
  have X6 := HX5.out.below hb6 HX5.out.lt
  have HLO6 := Lib.hid (show LabO w6 _ _ from own_agree HLO5.out (Agree.of_below hb6 (own_lt HLO5.out)))
  have HIO6 := Lib.hid (show IntO w6 _ _ from own_agree HIO5.out (Agree.of_below hb6 (own_lt HIO5.out)))
  have HV6 := Lib.hid (show BytO w6 _ L from own_agree HV5.out (Agree.of_below hb6 (own_lt HV5.out)))
  have HG6 := Lib.hid (show BytO w6 _ L from own_agree HG1.out (Agree.of_below hb6 (own_lt HG1.out)))
  have hz6 := hb6.size
  have HK := Lib.hid (show ∀ w', Below w6.heap.size w6 w' → (fun w' => Below w6.heap.size w6 w' ∧ (∀ o, w'.cell? ⟨w.heap.size, o, none⟩ = (#[.int .i64 t.kind, .int .i64 t.who, .int .i64 t.n, .bool t.works, .bool t.keep, .int .i64 t.task.id, .int .i64 t.task.prio, .int .i64 t.task.need.c, .int .i64 t.task.need.m, .int .i64 t.task.need.p, v1, v2] : Array Value)[o]?) ∧ (∀ o, w'.cell? ⟨w4.heap.size, o, none⟩ = (#[.int .i64 t.kind, .int .i64 t.who, .int .i64 t.n, .bool t.works, .bool t.keep, .int .i64 t.task.id, .int .i64 t.task.prio, .int .i64 t.task.need.c, .int .i64 t.task.need.m, .int .i64 t.task.need.p, .slice (some ⟨x1, 0, none⟩) t.task.want.length t.task.want.length, .slice (some ⟨x2, 0, none⟩) t.task.tols.length t.task.tols.length] : Array Value)[o]?)) w' from fun w' hb => ⟨hb, (B6.below hb B6.lt).cell, (X6.below hb X6.lt).cell⟩)
  have HB6 := Lib.hid B6
  have HX6 := Lib.hid X6
  clear hb6 HB5 HX5 HLO5 HIO5 HV5 HG1 B6 X6
  go_wp2_with fail
  refine wp_region_held_drew (S := (fun w' => Below w6.heap.size w6 w' ∧ (∀ o, w'.cell? ⟨w.heap.size, o, none⟩ = (#[.int .i64 t.kind, .int .i64 t.who, .int .i64 t.n, .bool t.works, .bool t.keep, .int .i64 t.task.id, .int .i64 t.task.prio, .int .i64 t.task.need.c, .int .i64 t.task.need.m, .int .i64 t.task.need.p, v1, v2] : Array Value)[o]?) ∧ (∀ o, w'.cell? ⟨w4.heap.size, o, none⟩ = (#[.int .i64 t.kind, .int .i64 t.who, .int .i64 t.n, .bool t.works, .bool t.keep, .int .i64 t.task.id, .int .i64 t.task.prio, .int .i64 t.task.need.c, .int .i64 t.task.need.m, .int .i64 t.task.need.p, .slice (some ⟨x1, 0, none⟩) t.task.want.length t.task.want.length, .slice (some ⟨x2, 0, none⟩) t.task.tols.length t.task.tols.length] : Array Value)[o]?))) (by kernel_rfl) (by (try dsimp only); exact HK.out _ (by repeat' (first | exact Below.refl _ _ | refine Below.alloc ?_ ?_ _ | refine Below.setCell ?_ ?_ _ | refine Below.drew ?_ | (apply below_step; assumption) | (simp; done) | (simp; omega) | omega))) (fun hHeld => ?_)
  refine hT 0 ?_; simp only [Act.put, rhA, rhS, rhT]
  refine hT 1 ?_; simp only [Act.put, rhA, rhS, rhT]
  refine hCall (i := 2) (o := ?a5) ?b5 (by kernel_rfl) ?c5 (fun K hK => ?d5)
  case b5 => simp only [rhN, rhM]; try rfl
  case c5 => rfl
  go_simp
  refine (toEvent_any t v1 v2 _ (H1.out.below (below_of hC6 (by repeat' (first | exact Below.refl _ _ | refine Below.alloc ?_ ?_ _ | refine Below.setCell ?_ ?_ _ | refine Below.drew ?_ | (apply below_step; assumption) | (simp; done) | (simp; omega) | omega)))) (H2.out.below (below_of hC6 (by repeat' (first | exact Below.refl _ _ | refine Below.alloc ?_ ?_ _ | refine Below.setCell ?_ ?_ _ | refine Below.drew ?_ | (apply below_step; assumption) | (simp; done) | (simp; omega) | omega)))) L1.out L2.out).mono ?_
  rintro e w7 ⟨j1, j2, rfl, sl7, si7, hb7⟩
  have hz7 := hb7.size
  (try simp at hz7)
  go_wp2_with fail
  refine hK.out _ _ (by (try dsimp only); exact HK.out _ (by repeat' (first | exact Below.refl _ _ | refine Below.alloc ?_ ?_ _ | refine Below.setCell ?_ ?_ _ | refine Below.drew ?_ | (apply below_step; assumption) | (simp; done) | (simp; omega) | omega))) (fun hHeld => ?_)
  clear hK K
  try simp only [Act.put, rhA, rhS, rhT]
  refine hCall (i := 3) (o := ?a6) ?b6 (by kernel_rfl) ?c6 (fun K hK => ?d6)
  case b6 => simp only [rhN, rhM]; try rfl
  case c6 => rfl
  go_simp
  refine (eqEvent_same t _ _ _ _ _ (HLO6.out.sl.below (by repeat' (first | exact Below.refl _ _ | refine Below.alloc ?_ ?_ _ | refine Below.setCell ?_ ?_ _ | refine Below.drew ?_ | (apply below_step; assumption) | (simp; done) | (simp; omega) | omega))) (HIO6.out.sl.below (by repeat' (first | exact Below.refl _ _ | refine Below.alloc ?_ ?_ _ | refine Below.setCell ?_ ?_ _ | refine Below.drew ?_ | (apply below_step; assumption) | (simp; done) | (simp; omega) | omega))) sl7 si7 L1.out L2.out).mono ?_
  rintro e w8 ⟨rfl, hb8⟩
  have hz8 := hb8.size
  (try simp at hz8)
  go_wp2_with fail
  refine hK.out _ _ (by (try dsimp only); exact HK.out _ (by repeat' (first | exact Below.refl _ _ | refine Below.alloc ?_ ?_ _ | refine Below.setCell ?_ ?_ _ | refine Below.drew ?_ | (apply below_step; assumption) | (simp; done) | (simp; omega) | omega))) (fun hHeld => ?_)
  clear hK K
  try simp only [Act.put, rhA, rhS, rhT]
  refine hT 4 ?_; simp only [Act.put, rhA, rhS, rhT]
  refine wpAnyH_done (by kernel_rfl) ?_ _
  have hD8 : Below w6.heap.size w6 w8 := (by repeat' (first | exact Below.refl _ _ | refine Below.alloc ?_ ?_ _ | refine Below.setCell ?_ ?_ _ | refine Below.drew ?_ | (apply below_step; assumption) | (simp; done) | (simp; omega) | omega))
  have hC8 := below_of hC6 hD8
  have B8 := HB6.out.below hD8 HB6.out.lt
  have X8 := HX6.out.below hD8 HX6.out.lt
  have HLO8 := Lib.hid (show LabO w8 _ _ from own_agree HLO6.out (Agree.of_below hD8 (own_lt HLO6.out)))
  have HIO8 := Lib.hid (show IntO w8 _ _ from own_agree HIO6.out (Agree.of_below hD8 (own_lt HIO6.out)))
  have HV8 := Lib.hid (show BytO w8 _ L from own_agree HV6.out (Agree.of_below hD8 (own_lt HV6.out)))
  have HG8 := Lib.hid (show BytO w8 _ L from own_agree HG6.out (Agree.of_below hD8 (own_lt HG6.out)))
  have hz8' := hD8.size
  have q0 := X8.cell 0
  have q1 := X8.cell 1
  have q2 := X8.cell 2
  have q3 := X8.cell 3
  have q4 := X8.cell 4
  have q5 := X8.cell 5
  have q6 := X8.cell 6
  have q7 := X8.cell 7
  have q8 := X8.cell 8
  have q9 := X8.cell 9
  have q10 := X8.cell 10
  have q11 := X8.cell 11
  have ql := X8.lt
  simp at q0 q1 q2 q3 q4 q5 q6 q7 q8 q9 q10 q11
  have HB8 := Lib.hid B8
  clear hb7 hb8 HK HB6 HX6 HLO6 HIO6 HV6 HG6 hHeld hD8 B8 X8 hz7 hz8 sl7 si7
  go_wp2_with fail
  refine (markEvent_any t _ _ (blk (.slice (some ⟨x1, 0, none⟩) t.task.want.length t.task.want.length) ++ blk (.slice (some ⟨x2, 0, none⟩) t.task.tols.length t.task.tols.length)) 1 _ ⟨_, _, rfl, HLO8.out, HIO8.out, rfl, L1.out, L2.out⟩ (by have := HNE.out; simp [blk, Value.ownBlock]; omega) (by omega) (by omega)).mono ?_
  rintro e w9 ⟨rfl, hT9⟩
  have HBS := Lib.hid (show ∀ b ∈ blk (.slice (some ⟨x1, 0, none⟩) t.task.want.length t.task.want.length) ++ blk (.slice (some ⟨x2, 0, none⟩) t.task.tols.length t.task.tols.length), w3.heap.size ≤ b ∧ b < w4.heap.size from fun b hb => by
    have := HXL.out
    simp [blk, Value.ownBlock] at hb
    rcases hb with rfl | rfl <;> omega)
  have hC9 : Below w.heap.size w w9 := hC8.trans (hT9.below hC8.size (fun b hb => Nat.le_trans hC3.size (HBS.out b hb).1))
  have B9 := HB8.out.turn hT9 (fun hb => by have := (HBS.out _ hb).1; omega)
  have HV9 := Lib.hid (show BytO w9 _ L from own_agree HV8.out (hT9.agree (fun b hb => ⟨own_lt HV8.out b hb, fun hx => by have := (HBS.out b hx).1; have := HVL.out b hb; omega⟩)))
  have HG9 := Lib.hid (show BytO w9 _ L from own_agree HG8.out (hT9.agree (fun b hb => ⟨own_lt HG8.out b hb, fun hx => by have := (HBS.out b hx).2; have := HGL.out b hb; omega⟩)))
  have hz9 := hT9.size
  have hm1 : decide (1 + 2 * (t.task.want.length : Int) + (t.task.tols.length : Int) < 0) = false := by simp; omega
  have HB9 := Lib.hid B9
  clear hT9 B9 HV8 HG8 HLO8 HIO8 HB8 q0 q1 q2 q3 q4 q5 q6 q7 q8 q9 q10 q11
  go_wp2_with fail
  refine (eqByteS_same _ _ L _ HG9.out.sl HV9.out.sl hL).mono ?_
  rintro e w10 ⟨rfl, hb10⟩
  have hC10 := below_of hC9 hb10
  have HB10 := Lib.hid (HB9.out.below hb10 HB9.out.lt)
  have HV10 := Lib.hid (show BytO w10 _ L from own_agree HV9.out (Agree.of_below hb10 (own_lt HV9.out)))
  have HG10 := Lib.hid (show BytO w10 _ L from own_agree HG9.out (Agree.of_below hb10 (own_lt HG9.out)))
  have hz10 := hb10.size
  clear hb10 HV9 HG9 HB9 hm1
  go_wp2_with fail
  refine (markByteS_any _ L 1 _ HG10.out hL (by omega) (by omega)).mono ?_
  rintro e w11 ⟨rfl, hI11, hg11⟩
  have hT11 : TurnB (blk (.slice V1 L.length cp1)) w10 w11 := TurnB.of_grown hg11 (fun k e => blk_mem e)
  have hgw : ∀ b ∈ blk (.slice V1 L.length cp1), w.heap.size < b := fun b hb => by have := HGL.out b hb; have := hC4.size; omega
  have hC11 : Below w.heap.size w w11 := hC10.trans (hT11.below hC10.size (fun b hb => by have := hgw b hb; omega))
  have B11 := HB10.out.turn hT11 (fun hb => by have := hgw _ hb; omega)
  have HV11 := Lib.hid (show BytO w11 _ L from own_agree HV10.out (hT11.agree (fun b hb => ⟨own_lt HV10.out b hb, fun hx => by have := HGL.out b hx; have := HVL.out b hb; omega⟩)))
  have HI11 := Lib.hid (show BytO w11 _ _ from hI11)
  have b11 := B11.cell
  clear hT11 HV10 HG10 HB10 hI11 hg11 hgw
  have hn11 : ((1 + (L.length : Int)) != (1 + (L.length : Int))) = false := by simp
  have hm11 : decide ((1 + (L.length : Int)) < 0) = false := by simp; omega
  have hHE := fun w1 (h : BytSl w1 (.slice V1 L.length cp1) (mByts 1 L.length)) => heldByteS_any (.slice V1 L.length cp1) L.length 1 w1 h hL (by omega) (by omega)
  have HHE := Lib.hid hHE
  clear hHE B11
  go_wp2_with fail
  refine (HHE.out _ HI11.out.sl).mono ?_
  rintro e w12 ⟨rfl, rfl⟩
  go_wp2_with fail
  refine (toEvent_any t v1 v2 _ (H1.out.below hC11) (H2.out.below hC11) L1.out L2.out).mono ?_
  rintro e w13 ⟨j1, j2, rfl, sl13, si13, hb13⟩
  have hC13 := below_of hC11 hb13
  have SL := Lib.hid sl13
  have SI := Lib.hid si13
  have HV13 := Lib.hid (show BytO w13 _ L from own_agree HV11.out (Agree.of_below hb13 (own_lt HV11.out)))
  have HI13 := Lib.hid (show BytO w13 _ _ from own_agree HI11.out (Agree.of_below hb13 (own_lt HI11.out)))
  clear hb13 b11 HV11 HI11 sl13 si13
  go_wp2_with fail
  refine (IO.out _ _ _ (HG.out.below hC13 (Nat.le_refl _)) SL.out SI.out).mono ?_
  rintro e w14 ⟨u2, rfl, hu2, hb14⟩
  have hC14 := below_of hC13 hb14
  have HV14 := Lib.hid (show BytO w14 _ L from own_agree HV13.out (Agree.of_below hb14 (own_lt HV13.out)))
  have HI14 := Lib.hid (show BytO w14 _ _ from own_agree HI13.out (Agree.of_below hb14 (own_lt HI13.out)))
  have HH14 := Lib.hid hu2.o
  obtain ⟨V2, cp2, rfl, -⟩ := own_form hu2.o
  clear hb14 hu2 HV13 HI13 SL SI
  go_wp2_with fail
  refine (eqByteS_same _ _ L _ HH14.out.sl HV14.out.sl hL).mono ?_
  rintro e w15 ⟨rfl, hb15⟩
  have hC15 := below_of hC14 hb15
  have HI15 := Lib.hid (show BytO w15 _ _ from own_agree HI14.out (Agree.of_below hb15 (own_lt HI14.out)))
  clear hb15 HV14 HI14 HH14
  go_wp2_with fail
  refine (HHE.out _ HI15.out.sl).mono ?_
  rintro e w16 ⟨rfl, rfl⟩
  go_wp2_with fail
  go_ret
  exact ⟨rfl, hC15⟩

theorem rowVars : ∀ n ∈ Rows.fnExactEventBytesSpec.vars, ∃ g t ms, Tryd.prog.globalNamed n = some g ∧ (Tryd.prog.globals[g]?).map (·.type) = some t ∧ Tryd.prog.underlying t = some (.interface ms) := errVars
set_option maxRecDepth 100000 in
theorem contract (H : Type) (enc : TypeId × Value → H) (W : World) (base : Nat) (args : Array Value) (ds gs : List (DataW H)) (before : List MemPlace)
    (hval : ∀ (j : Nat) t v, Tryd.f5.params[j]? = some t → args[j]? = some v → Value.okWide Tryd.prog W .any base t v)
    (hW : DataW.Whole enc Tryd.prog Tryd.f5.params.toList Rows.fnExactEventBytesSpec.vars false W args.toList ds gs before) (hL : laidMetH Tryd.prog Rows.fnExactEventBytesRow.laid W) :
    Calls Tryd.prog 5 args W fun e W' => ∃ v, e = .returned v ∧ Rows.fnExactEventBytesSpec.post enc Tryd.prog Tryd.f5 false true false false W args v W' := by
  have hW' := hW
  obtain ⟨p, q, hA0, hV, rfl, hfz, hnd⟩ := hW
  have hA : DataW.TrodAll enc Tryd.prog W 0 (fun _ => true) true Tryd.f5.params.toList args.toList ds p := hA0
  rw [Tryd.params5] at hA hval
  obtain ⟨v0, vs0, d0, ds0, p0, q0, hargs, rfl, rfl, h0, r0⟩ := trodAll_cons hA
  obtain ⟨rfl, rfl, rfl⟩ := trodAll_nil r0
  obtain rfl : args = #[v0] := by cases args; simp_all
  rw [MakeChecks.laidMetH_plain _ _ _ (by kernel_rfl)] at hL
  obtain ⟨a0, x0, y0, rfl, sl0, si0, ml0, mi0⟩ := open_event (hval 0 _ v0 rfl rfl) h0
  obtain ⟨gg, tt, cs, fuel, d, pp, rfl, _⟩ := trodVars_one hV
  obtain ⟨x, hg⟩ := errAt_of_laid hL
  have fin : Calls Tryd.prog 5 #[.agg #[.int .i64 a0.kind, .int .i64 a0.who, .int .i64 a0.n, .bool a0.works, .bool a0.keep, .int .i64 a0.task.id, .int .i64 a0.task.prio, .int .i64 a0.task.need.c, .int .i64 a0.task.need.m, .int .i64 a0.task.need.p, x0, y0]] W fun e w' => e = .returned (.bool true) ∧ Below W.heap.size W w' := by
    by_cases hs : a0.task.want.length + a0.task.tols.length ≤ 1048576
    · exact walk a0 x0 y0 W x hg sl0 si0 hs
    · exact walk_long a0 x0 y0 W sl0 si0 ml0 mi0 (by omega)
  refine fin.mono fun e W' ⟨he, hb⟩ => ?_
  subst he
  exact ⟨_, rfl, law_post Tryd.laidOut (by rw [Tryd.params5]; intro t ht; have k0 : Tryd.prog.readableRec 46 = true ∧ 46 < Tryd.prog.types.size := ⟨by kernel_rfl, of_decide_eq_true (by kernel_rfl)⟩; simp at ht; subst ht; exact k0) rowVars (tb := 4) rfl Tryd.underlying4 hW' rfl hb⟩

theorem door_met (os : Os) (args : Array Value) : laidMet Tryd.prog Rows.fnExactEventBytesRow.laid ((World.doorLaid Tryd.prog 400 os).forCall (fun _ _ => 0) ⟨#[], args, []⟩).memory :=
  laidMet_of_run' 8 (by kernel_rfl) (by kernel_rfl)
set_option maxRecDepth 100000 in
theorem lifted (os : Os) (started : os.Started) (H : Type) (enc : TypeId × Value → H) (F : Stop.Interp) :
    ReturnsInHanded {} Tryd.checked os 5 .any ((OpenSpec.ofChange Rows.fnExactEventBytesSpec).preRow enc Tryd.prog Tryd.f5 Rows.fnExactEventBytesRow.domain false Rows.fnExactEventBytesRow.laid) (((OpenSpec.ofChange Rows.fnExactEventBytesSpec).at F).post enc Tryd.prog Tryd.f5 false true false false) := by
  refine returnsInHanded_of_row (C := Tryd.checked) (s := OpenSpec.ofChange Rows.fnExactEventBytesSpec) Tryd.own started (by kernel_rfl) Tryd.func5
    (witness_row_atRef (enc := enc) (C := Tryd.checked) false (World.doorLaid Tryd.prog 400 os) #[.agg #[.int .i64 0, .int .i64 0, .int .i64 0, .bool false, .bool false, .int .i64 0, .int .i64 0, .int .i64 0, .int .i64 0, .int .i64 0, .slice none 0 0, .slice none 0 0]] rfl (by kernel_rfl) (by kernel_rfl) (by kernel_rfl)
      (OpenSpec.preRow_of_B rfl 8 (by kernel_rfl) (by kernel_rfl) (door_met os _))) ?_
  intro W base args ds gs before hval hW _ _ _ hL _ _
  exact contract H enc W base args ds gs before hval hW hL

theorem jIn : (Rows.fnExactEventBytesRow.inPlace == Tryd.prog.inPlace 5) = true := by kernel_rfl
theorem jUn : (Rows.fnExactEventBytesRow.unfollowed == Tryd.prog.unfollowed 5) = true := by kernel_rfl
theorem jRe : (Rows.fnExactEventBytesRow.recurses == Tryd.prog.recurses 5) = true := by kernel_rfl
theorem jNa : (Rows.fnExactEventBytesRow.named == Tryd.prog.varsNamed 5) = true := by kernel_rfl
theorem joined : joinedFacts Tryd.prog 5 Tryd.f5 (OpenSpec.ofChange Rows.fnExactEventBytesSpec).bare Rows.fnExactEventBytesRow = true :=
  joined_mk (by kernel_rfl) Tryd.laidOut pRowed (by kernel_rfl) (by kernel_rfl) rfl pStops rfl pKnobs jIn jUn jRe jNa (by kernel_rfl) (by kernel_rfl) (by kernel_rfl) (by kernel_rfl) (by kernel_rfl) (by kernel_rfl) (by kernel_rfl) (by kernel_rfl) (by kernel_rfl) pKeys (by kernel_rfl) pHeard pEnter pLifts pMake (by kernel_rfl) (by kernel_rfl) (by kernel_rfl) (by kernel_rfl)
theorem said : Rows.FnExactEventBytesSaid :=
  OpenClaim.holds_of_cond 5 Tryd.f5 rfl rfl rfl rfl rfl rfl rfl ⟨rfl, rfl, rfl, rfl, rfl⟩ rfl rfl rfl rfl rfl (by kernel_rfl) Tryd.func5 joined
    (of_decide_eq_true (by kernel_rfl)) (by unfold Func.isWrapper; first | (rw [if_pos (by decide +kernel)]; kernel_rfl) | (rw [if_neg (by decide +kernel)]; exact ⟨rfl, rfl⟩))
    (fun os started H enc _ F => by rw [OpenClaim.pre_eq_preRow]; exact lifted os started H enc F)

theorem plain (f : FuncId) (fn : Func) (hf : Tryd.pinned.checked.prog.funcNamed "loop.example/g00718/laws.FnExactEventBytes" = some f) (hfn : Tryd.pinned.checked.prog.funcs[f]? = some fn) :
    true = Tryd.pinned.checked.prog.looks [] ∧ ∀ (j : Nat) t, fn.params[j]? = some t → Tryd.pinned.checked.prog.wantsStandIn t = false := by
  obtain rfl : f = 5 := Option.some.inj ((show Tryd.prog.funcNamed "loop.example/g00718/laws.FnExactEventBytes" = some 5 by kernel_rfl).symm.trans hf) |>.symm
  obtain rfl : fn = Tryd.f5 := (Option.some.inj (Tryd.func5.symm.trans hfn)).symm
  refine ⟨by kernel_rfl, fun j t ht => ?_⟩
  rw [Tryd.params5] at ht
  have hm := Array.mem_of_getElem? ht
  have k0 : Tryd.pinned.checked.prog.wantsStandIn 46 = false := (show Tryd.prog.wantsStandIn 46 = false by kernel_rfl)
  simp at hm
  subst hm; exact k0

theorem card : Rows.FnExactEventBytesCardSaid :=
  Claim7.holds_tied_plain_at .later [] _ _ _ _ said (fun _ h => by cases h) (by kernel_rfl) (fun _ h => by cases h) fnExactEventBytes_row_tie rfl ⟨rfl, rfl⟩ (by kernel_rfl) rfl plain (by kernel_rfl)
end Go.Proofs.YtcngiinaneefjaaDoor.fnExactEventBytes
