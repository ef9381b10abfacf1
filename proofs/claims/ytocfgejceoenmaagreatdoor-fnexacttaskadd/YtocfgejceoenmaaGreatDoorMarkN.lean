/- The laws' helpers that mark one task or node, and look for the marks of a node. -/
import Derived.Test.YtocfgejceoenmaaGreatDoorMgMark
namespace Go.Proofs.YtocfgejceoenmaaGreatDoor
open Go.RowKit

/-- A task, a node with its lists marked. -/
def inTask (k : Int) (t : TV) : TV := { t with want := mLabs k t.want.length, tols := mInts (k + 2 * t.want.length) t.tols.length }
def inNode (k : Int) (t : NV) : NV := { t with labs := mLabs k t.labs.length, taints := mInts (k + 2 * t.labs.length) t.taints.length }
set_option maxHeartbeats 1600000 in
theorem markTask_any (t : TV) (cs : List Value) (bs : List Nat) (k : Int) (w : World) (h : TaskO w t cs bs) (hnd : bs.Nodup) (h0 : 0 ≤ k) (hk : k ≤ 576460752303423488) :
    Calls Tryz.prog 20 #[.agg cs.toArray, .int .i64 k] w fun e w' => e = .returned (.int .i64 (k + 2 * t.want.length + t.tols.length)) ∧ TaskO w' (inTask k t) cs bs ∧ TurnB bs w w' := by
  have hlt := h.lt
  obtain ⟨v1, v2, rfl, h1, h2, rfl, m1, m2⟩ := h
  obtain ⟨A1, c1, rfl, -⟩ := own_form h1
  obtain ⟨A2, c2, rfl, -⟩ := own_form h2
  have hX : Below w.heap.size w (w.alloc (.cells #[.int .i64 t.id, .int .i64 t.prio, .int .i64 t.need.c, .int .i64 t.need.m, .int .i64 t.need.p, .slice A1 t.want.length c1, .slice A2 t.tols.length c2] 46)) := (by repeat' (first | exact Below.refl _ _ | refine Below.alloc ?_ ?_ _ | refine Below.setCell ?_ ?_ _ | refine Below.drew ?_ | (apply below_step; assumption) | (simp; done) | (simp; omega) | omega))
  have H1 := Lib.hid (show LabO _ _ _ from own_agree h1 (Agree.of_below hX (own_lt h1)))
  have H2 := Lib.hid (show IntO _ _ _ from own_agree h2 (Agree.of_below hX (own_lt h2)))
  have HL := Lib.hid (And.intro (own_lt h1) (own_lt h2))
  have HN := Lib.hid hnd
  have BX := Lib.hid (BlockIs.new w 46 #[.int .i64 t.id, .int .i64 t.prio, .int .i64 t.need.c, .int .i64 t.need.m, .int .i64 t.need.p, .slice A1 t.want.length c1, .slice A2 t.tols.length c2])
  have HX := Lib.hid hX
  clear h1 h2 hnd hlt
  go_enter Tryz.func20, Tryz.ntmps20
  go_wp2_with fail
  refine (markLabS_any _ t.want k _ H1.out m1 h0 (by omega)).mono ?_
  rintro e w1 ⟨rfl, hl1, hg1⟩
  have hT1 : TurnB (blk (.slice A1 t.want.length c1)) _ w1 := TurnB.of_grown hg1 (fun k e => blk_mem e)
  have B1 := BX.out.turn hT1 (fun hx => by have := HL.out.1 _ hx; omega)
  have hd : ∀ b ∈ blk (.slice A2 t.tols.length c2), b ∉ blk (.slice A1 t.want.length c1) := fun b hb hx => (List.nodup_append.1 HN.out).2.2 b hx b hb rfl
  have H21 := Lib.hid (show IntO w1 _ _ from own_agree H2.out (hT1.agree (fun b hb => ⟨own_lt H2.out b hb, hd b hb⟩)))
  have q6 := B1.cell 6
  have ql := B1.lt
  simp at q6
  have HT1 := Lib.hid hT1
  have HL1 := Lib.hid (show LabO w1 _ _ from hl1)
  have HD := Lib.hid hd
  clear B1 hT1 hl1 hg1 hd H1 H2 BX
  go_wp2_with fail
  refine (markIntS_any _ t.tols _ _ H21.out m2 (by omega) (by omega)).mono ?_
  rintro e w2 ⟨rfl, hl2, hg2⟩
  have hT2 : TurnB (blk (.slice A2 t.tols.length c2)) w1 w2 := TurnB.of_grown hg2 (fun k e => blk_mem e)
  have HL2 := Lib.hid (show IntO w2 _ _ from hl2)
  have HL12 := Lib.hid (show LabO w2 _ _ from own_agree HL1.out (hT2.agree (fun b hb => ⟨own_lt HL1.out b hb, fun hx => HD.out b hx hb⟩)))
  have HTT := Lib.hid (show TurnB (blk (.slice A1 t.want.length c1) ++ blk (.slice A2 t.tols.length c2)) w w2 from ((TurnB.of_below HX.out).trans (HT1.out.mono (fun b hb => List.mem_append_left _ hb))).trans (hT2.mono (fun b hb => List.mem_append_right _ hb)))
  clear hT2 hl2 hg2 HT1 HL1 H21 q6
  go_wp2_with fail
  go_ret
  refine ⟨rfl, ⟨_, _, rfl, ?_, ?_, rfl, ?_, ?_⟩, HTT.out⟩
  · have := HL12.out
    simpa [inTask, mLabs_len] using this
  · have := HL2.out
    simpa [inTask, mInts_len] using this
  · simp only [inTask, mLabs_len]; exact m1
  · simp only [inTask, mInts_len]; exact m2
set_option maxHeartbeats 1600000 in
theorem markNode_any (t : NV) (cs : List Value) (bs : List Nat) (k : Int) (w : World) (h : NodeO w t cs bs) (hnd : bs.Nodup) (h0 : 0 ≤ k) (hk : k ≤ 576460752303423488) :
    Calls Tryz.prog 29 #[.agg cs.toArray, .int .i64 k] w fun e w' => e = .returned (.int .i64 (k + 2 * t.labs.length + t.taints.length)) ∧ NodeO w' (inNode k t) cs bs ∧ TurnB bs w w' := by
  have hlt := h.lt
  obtain ⟨v1, v2, rfl, h1, h2, rfl, m1, m2⟩ := h
  obtain ⟨A1, c1, rfl, -⟩ := own_form h1
  obtain ⟨A2, c2, rfl, -⟩ := own_form h2
  have hX : Below w.heap.size w (w.alloc (.cells #[.int .i64 t.id, .int .i64 t.pool, .int .i64 t.cap.c, .int .i64 t.cap.m, .int .i64 t.cap.p, .slice A1 t.labs.length c1, .slice A2 t.taints.length c2, .bool t.cordon] 60)) := (by repeat' (first | exact Below.refl _ _ | refine Below.alloc ?_ ?_ _ | refine Below.setCell ?_ ?_ _ | refine Below.drew ?_ | (apply below_step; assumption) | (simp; done) | (simp; omega) | omega))
  have H1 := Lib.hid (show LabO _ _ _ from own_agree h1 (Agree.of_below hX (own_lt h1)))
  have H2 := Lib.hid (show IntO _ _ _ from own_agree h2 (Agree.of_below hX (own_lt h2)))
  have HL := Lib.hid (And.intro (own_lt h1) (own_lt h2))
  have HN := Lib.hid hnd
  have BX := Lib.hid (BlockIs.new w 60 #[.int .i64 t.id, .int .i64 t.pool, .int .i64 t.cap.c, .int .i64 t.cap.m, .int .i64 t.cap.p, .slice A1 t.labs.length c1, .slice A2 t.taints.length c2, .bool t.cordon])
  have HX := Lib.hid hX
  clear h1 h2 hnd hlt
  go_enter Tryz.func29, Tryz.ntmps29
  go_wp2_with fail
  refine (markLabS_any _ t.labs k _ H1.out m1 h0 (by omega)).mono ?_
  rintro e w1 ⟨rfl, hl1, hg1⟩
  have hT1 : TurnB (blk (.slice A1 t.labs.length c1)) _ w1 := TurnB.of_grown hg1 (fun k e => blk_mem e)
  have B1 := BX.out.turn hT1 (fun hx => by have := HL.out.1 _ hx; omega)
  have hd : ∀ b ∈ blk (.slice A2 t.taints.length c2), b ∉ blk (.slice A1 t.labs.length c1) := fun b hb hx => (List.nodup_append.1 HN.out).2.2 b hx b hb rfl
  have H21 := Lib.hid (show IntO w1 _ _ from own_agree H2.out (hT1.agree (fun b hb => ⟨own_lt H2.out b hb, hd b hb⟩)))
  have q6 := B1.cell 6
  have ql := B1.lt
  simp at q6
  have HT1 := Lib.hid hT1
  have HL1 := Lib.hid (show LabO w1 _ _ from hl1)
  have HD := Lib.hid hd
  clear B1 hT1 hl1 hg1 hd H1 H2 BX
  go_wp2_with fail
  refine (markIntS_any _ t.taints _ _ H21.out m2 (by omega) (by omega)).mono ?_
  rintro e w2 ⟨rfl, hl2, hg2⟩
  have hT2 : TurnB (blk (.slice A2 t.taints.length c2)) w1 w2 := TurnB.of_grown hg2 (fun k e => blk_mem e)
  have HL2 := Lib.hid (show IntO w2 _ _ from hl2)
  have HL12 := Lib.hid (show LabO w2 _ _ from own_agree HL1.out (hT2.agree (fun b hb => ⟨own_lt HL1.out b hb, fun hx => HD.out b hx hb⟩)))
  have HTT := Lib.hid (show TurnB (blk (.slice A1 t.labs.length c1) ++ blk (.slice A2 t.taints.length c2)) w w2 from ((TurnB.of_below HX.out).trans (HT1.out.mono (fun b hb => List.mem_append_left _ hb))).trans (hT2.mono (fun b hb => List.mem_append_right _ hb)))
  clear hT2 hl2 hg2 HT1 HL1 H21 q6
  go_wp2_with fail
  go_ret
  refine ⟨rfl, ⟨_, _, rfl, ?_, ?_, rfl, ?_, ?_⟩, HTT.out⟩
  · have := HL12.out
    simpa [inNode, mLabs_len] using this
  · have := HL2.out
    simpa [inNode, mInts_len] using this
  · simp only [inNode, mLabs_len]; exact m1
  · simp only [inNode, mInts_len]; exact m2
end Go.Proofs.YtocfgejceoenmaaGreatDoor
