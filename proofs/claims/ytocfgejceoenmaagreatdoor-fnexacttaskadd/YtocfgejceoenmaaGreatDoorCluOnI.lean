/- The iterator that tasksOn hands back. -/
import Derived.Test.YtocfgejceoenmaaGreatDoorCluOn
namespace Go.Proofs.YtocfgejceoenmaaGreatDoor
open Go.RowKit Go.Shelf
attribute [local go_sem] Oper.semAt_some

set_option maxRecDepth 100000 in
set_option maxHeartbeats 4000000 in
theorem tasksOn_stops (c : CV) (D0 D1 D2 : Option Addr) (e0 e1 e2 : Nat) (z : Int) (w0 w : World) (hw : Below w0.heap.size w0 w) (hc : CluR w0 c (.slice D0 c.tasks.length e0) (.slice D1 c.nodes.length e1) (.slice D2 c.binds.length e2)) (Bc Bn n₀ n : Nat) (hn₀ : w0.heap.size ≤ n₀) (h1 : 1 ≤ n)
    (hBc : BlockIs w Bc 39 #[.slice D0 c.tasks.length e0, .slice D1 c.nodes.length e1, .slice D2 c.binds.length e2]) (hBn : BlockIs w Bn 3 #[.int .i64 z]) :
    SeqStopsK Fence.wide n Tryz.prog 198 #[.pointer (some ⟨Bc, 0, none⟩), .pointer (some ⟨Bn, 0, none⟩)] (encT (w0 := w0)) (KpOn n₀ Bc Bn) (fun ys => ys.map OnT.t = tasksOnL c z c.binds) (fun _ => True) c.binds.length w := fun l J Jx W hW hJ hJx hY h0 => by
  have HC := Lib.hid hc
  obtain ⟨t0, t1, t2, l0, l1, l2⟩ := hc
  obtain ⟨X2, y2, ee, hA⟩ := t2.form
  simp only [Value.slice.injEq] at ee
  obtain ⟨rfl, -, rfl⟩ := ee
  have HA := Lib.hid hA
  have HW := Lib.hid (below_of hw hW)
  have BC := hBc.below hW hBc.lt
  have BN := hBn.below hW hBn.lt
  have HBC := Lib.hid BC
  have HBN := Lib.hid BN
  have g0 := BC.cell 0
  have g1 := BC.cell 1
  have g2 := BC.cell 2
  have n0 := BN.cell 0
  simp at g0 g1 g2 n0
  have HJ := Lib.hid hJ
  have HY := Lib.hid hY
  have H0 := Lib.hid h0
  clear hA t0 t1 t2 hw hW BC BN hBc hBn hJ hJx hY h0 l0 l1
  refine callsIn_of_wp Tryz.func198 rfl trivial ?_ rfl
  simp only [Tryz.ntmps198, List.size_toArray, List.length_cons, List.length_nil, Nat.reduceAdd, Nat.reduceSub, Array.replicate_succ, Array.replicate_zero, List.push_toArray, List.append_toArray, List.nil_append, List.cons_append]
  gi_wp2
  gi_loopw [11] (fun s11 wr => ∃ (k : Nat) (pre : List (OnT w0)), k ≤ c.binds.length ∧ s11 = .int .i64 k ∧ pre.map OnT.t = tasksOnL c z (c.binds.take k) ∧ J pre wr ∧ BlockIs wr Bc 39 #[.slice D0 c.tasks.length e0, .slice D1 c.nodes.length e1, .slice D2 c.binds.length e2] ∧ BlockIs wr Bn 3 #[.int .i64 z] ∧ Below w0.heap.size w0 wr) (fun s11 _ => (c.binds.length - intOf s11).toNat)
  case atStart => exact ⟨0, [], by omega, rfl, rfl, H0.out, HBC.out, HBN.out, HW.out⟩
  case round =>
    obtain ⟨k, pre, hk, rfl, hpre, hJp, bc, bn, hB⟩ := hrel
    have HP := Lib.hid hpre
    have HJP := Lib.hid hJp
    have HBc := Lib.hid bc
    have HBn := Lib.hid bn
    have q0 := bc.cell 0
    have q1 := bc.cell 1
    have q2 := bc.cell 2
    have m0 := bn.cell 0
    have lc := bc.lt
    have ln := bn.lt
    simp at q0 q1 q2 m0
    clear hpre hJp bc bn g0 g1 g2 n0
    by_cases hlt : k < c.binds.length
    · obtain ⟨b, off, rfl, hbw, hat⟩ := HA.out (by omega)
      obtain ⟨t, ht⟩ : ∃ t, c.binds[k]? = some t := ⟨_, List.getElem?_eq_getElem hlt⟩
      obtain ⟨cs, hR, hC⟩ := (hat.below BindR.kept hB hbw) k t ht
      have HBT := Lib.hid ht
      obtain rfl := hR
      obtain ⟨c0, c1⟩ := bind_cells hC
      have hbr : b < wr.heap.size := Nat.lt_of_lt_of_le hbw hB.size
      have hlti : (k : Int) < (c.binds.length : Int) := by omega
      clear hat hC ht
      by_cases e : t.node = z
      · have HE := Lib.hid e
        clear e
        have he' : (t.node != z) = false := by simpa using HE.out
        have hX1 : Below wr.heap.size wr (wr.alloc (.cells #[.int .i64 t.task, .int .i64 t.node] 70)) := (by repeat' (first | exact Below.refl _ _ | refine Below.alloc ?_ ?_ _ | refine Below.setCell ?_ ?_ _ | refine Below.drew ?_ | (apply below_step; assumption) | (simp; done) | (simp; omega) | omega))
        gi_wp2
        refine ⟨trivial, (callsIn_wide.2 (findTask_any c _ _ _ t.task w0 _ (below_of hB hX1) HC.out)).mono ?_⟩
        rintro e w2 ⟨cs1, rfl, hR1, hb2⟩
        have hD2 := below_of hX1 hb2
        have HJ2 := Lib.hid (abide HJ.out HJP.out hD2)
        have HBc2 := Lib.hid (HBc.out.below hD2 HBc.out.lt)
        have HBn2 := Lib.hid (HBn.out.below hD2 HBn.out.lt)
        have hz2 := hD2.size
        have hCB2 := below_of hB hD2
        clear hb2 hX1 hD2 c0 c1 q0 q1 q2 m0
        cases hf : fstBy TV.id c.tasks t.task with
        | none =>
          have HF := Lib.hid hf
          rw [hf] at hR1
          simp only [Option.getD_none, Option.isSome_none] at hR1 ⊢
          clear hf
          obtain ⟨v1, v2, rfl, sl1, si1, m1, m2⟩ := hR1
          obtain ⟨A1, k1, rfl, _⟩ := sl1.form
          obtain ⟨A2, k2, rfl, _⟩ := si1.form
          clear sl1 si1 m1 m2
          gi_wp2
          refine ⟨fun _ h => (by cases h), ?_⟩
          gi_wp2
          go_roundw
          case rel =>
            have hX3 : Below w2.heap.size w2 (w2.alloc (.cells #[.int .i64 TV.zero.id, .int .i64 TV.zero.prio, .int .i64 TV.zero.need.c, .int .i64 TV.zero.need.m, .int .i64 TV.zero.need.p, .slice A1 TV.zero.want.length k1, .slice A2 TV.zero.tols.length k2] 46)) := (by repeat' (first | exact Below.refl _ _ | refine Below.alloc ?_ ?_ _ | refine Below.setCell ?_ ?_ _ | refine Below.drew ?_ | (apply below_step; assumption) | (simp; done) | (simp; omega) | omega))
            exact ⟨k + 1, pre, by omega, by go_num, by rw [on_gone HBT.out HF.out]; exact HP.out, abide HJ.out HJ2.out hX3, HBc2.out.alloc _, HBn2.out.alloc _, below_of hCB2 hX3⟩
          case measure => simp [intOf]; omega
        | some t1 =>
          have HF := Lib.hid hf
          rw [hf] at hR1
          simp only [Option.getD_some, Option.isSome_some] at hR1 ⊢
          clear hf
          have HR1 := Lib.hid hR1
          obtain ⟨v1, v2, rfl, sl1, si1, m1, m2⟩ := hR1
          obtain ⟨A1, k1, rfl, _⟩ := sl1.form
          obtain ⟨A2, k2, rfl, _⟩ := si1.form
          clear sl1 si1 m1 m2
          have hX3 : Below w2.heap.size w2 (w2.alloc (.cells #[.int .i64 t1.id, .int .i64 t1.prio, .int .i64 t1.need.c, .int .i64 t1.need.m, .int .i64 t1.need.p, .slice A1 t1.want.length k1, .slice A2 t1.tols.length k2] 46)) := (by repeat' (first | exact Below.refl _ _ | refine Below.alloc ?_ ?_ _ | refine Below.setCell ?_ ?_ _ | refine Below.drew ?_ | (apply below_step; assumption) | (simp; done) | (simp; omega) | omega))
          have HL := Lib.hid (show pre.length < c.binds.length by
            have e1 := congrArg List.length HP.out
            have e2 := tasksOnL_len c z (c.binds.take k)
            rw [List.length_map] at e1
            rw [List.length_take] at e2
            omega)
          obtain ⟨fn, tmps, assign, body, hy, hRo⟩ := HY.out pre ⟨(t1, _), HR1.out⟩ _ (abide HJ.out HJ2.out hX3) HL.out
          dsimp only [encT] at hy
          have HRO := Lib.hid hRo
          clear hRo
          gi_wp2
          refine HRO.out.mono ?_
          rintro e W3 (⟨rfl, hJ3, hk3⟩ | ⟨rfl, hJx3⟩)
          · have HJ3 := Lib.hid hJ3
            have HK3 := Lib.hid hk3
            clear hJ3 hk3
            gi_wp2
            go_roundw
            case rel =>
              obtain ⟨hk, kc, kn⟩ := HK3.out
              refine ⟨k + 1, pre ++ [⟨(t1, _), HR1.out⟩], by omega, by go_num, ?_, HJ3.out, kc.trans (HBc2.out.alloc _), kn.trans (HBn2.out.alloc _), (below_of hCB2 hX3).trans (hk.mono hn₀)⟩
              rw [on_yes HBT.out HE.out HF.out, List.map_append, HP.out]; rfl
            case measure => simp [intOf]; omega
          · gi_wp2
            refine bodyPost_ret (results_none rfl _ _ _) rfl ?_
            exact ⟨⟨_, rfl⟩, .inr ⟨_, trivial, hJx3⟩⟩
      · have HE := Lib.hid e
        clear e
        have he' : (t.node != z) = true := by simpa using HE.out
        gi_wp2
        go_roundw
        case rel =>
          have hX1 : Below wr.heap.size wr (wr.alloc (.cells #[.int .i64 t.task, .int .i64 t.node] 70)) := (by repeat' (first | exact Below.refl _ _ | refine Below.alloc ?_ ?_ _ | refine Below.setCell ?_ ?_ _ | refine Below.drew ?_ | (apply below_step; assumption) | (simp; done) | (simp; omega) | omega))
          exact ⟨k + 1, pre, by omega, by go_num, by rw [on_no HBT.out HE.out]; exact HP.out, abide HJ.out HJP.out hX1, HBc.out.alloc _, HBn.out.alloc _, below_of hB hX1⟩
        case measure => simp [intOf]; omega
    · have hkl : k = c.binds.length := by omega
      have HF := Lib.hid (show pre.map OnT.t = tasksOnL c z c.binds by rw [HP.out, hkl, List.take_length])
      clear hkl
      gi_wp2
      go_end0
      exact ⟨⟨_, rfl⟩, .inl ⟨pre, HF.out, HJP.out⟩⟩
end Go.Proofs.YtocfgejceoenmaaGreatDoor
