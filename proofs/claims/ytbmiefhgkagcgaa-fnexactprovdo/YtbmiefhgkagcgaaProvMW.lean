/- The contracts of the model's l07Copy, ProvFail, ProvDo. -/
import Derived.Test.YtbmiefhgkagcgaaInstSp
import Derived.Test.YtbmiefhgkagcgaaProvX
import Derived.Test.YtbmiefhgkagcgaaProvS2
namespace Go.Proofs.Ytbmiefhgkagcgaa
open Go.RowKit

theorem TurnB.drewN' {bs : List Nat} {w w' : World} (h : TurnB bs w w') : TurnB bs w w'.drew := h.trans ⟨rfl, rfl, rfl, Nat.le_refl _, fun _ _ _ => rfl⟩
theorem TurnB.allocN {bs : List Nat} {w w' : World} (h : TurnB bs w w') (o : Obj) : TurnB bs w (w'.alloc o) := h.step ((Below.refl _ _).alloc (Nat.le_refl _) o)
theorem turn_stepN {bs : List Nat} {w w' w'' : World} (hb : Below w'.heap.size w' w'') (h : TurnB bs w w') : TurnB bs w w'' := h.step hb
set_option maxHeartbeats 1600000 in
theorem l07Copy_any (ep : Int) (v : Value) (l : List RV) (w : World) (hv : InSl w v l) (hlen : l.length ≤ 1048576) : Calls Try.prog 38 #[.agg #[.int .i64 ep, v]] w fun e w' => ∃ v', e = .returned (.agg #[.int .i64 ep, v']) ∧ OwnsN w' w.heap.size v' l ∧ Below w.heap.size w w' := by
  obtain ⟨A, c, rfl, hA⟩ := hv.form
  have HA := Lib.hid hA
  clear hA hv
  go_enter Try.func38, Try.ntmps38
  go_wp2_with fail
  have hX : Below w.heap.size w ((w.alloc (.cells #[.int .i64 ep, .slice A l.length c] 26)).alloc (.cells #[.int .i64 0, .slice none 0 0] 26)) := (by repeat' (first | exact Below.refl _ _ | refine Below.alloc ?_ ?_ _ | refine Below.setCell ?_ ?_ _ | refine Below.drew ?_ | (apply below_step; assumption) | (simp; done) | (simp; omega) | omega))
  have BX : BlockIs ((w.alloc (.cells #[.int .i64 ep, .slice A l.length c] 26)).alloc (.cells #[.int .i64 0, .slice none 0 0] 26)) w.heap.size 26 #[.int .i64 ep, .slice A l.length c] := (BlockIs.new _ _ _).alloc _
  have OX : BlockIs ((w.alloc (.cells #[.int .i64 ep, .slice A l.length c] 26)).alloc (.cells #[.int .i64 0, .slice none 0 0] 26)) (w.heap.size + 1) 26 #[.int .i64 0, .slice none 0 0] := BlockIs.new' (by simp)
  generalize ((w.alloc (.cells #[.int .i64 ep, .slice A l.length c] 26)).alloc (.cells #[.int .i64 0, .slice none 0 0] 26)) = X at hX BX OX ⊢
  have HBX := Lib.hid BX
  have HOX := Lib.hid OX
  have x0 := BX.cell 0
  have x1 := BX.cell 1
  have xl := BX.lt
  have ol := OX.lt
  simp at x0 x1
  clear BX OX
  go_region_law
    (refine step_spread_inst _ (by rfl) (.tmp 5) (.tmp 7) (by rfl) X.heap.size (.slice (some ⟨X.heap.size, 0, none⟩) 0 0) [] (by rfl) (by first | exact OwnsN.made _ rfl (Nat.le_refl _)) A l.length c l (by rfl) rfl (fun hm => by obtain ⟨b, off, e, hbw, hat⟩ := HA.out hm; exact ⟨b, off, e, hat.below (B := w.heap.size) (by repeat' (first | exact Below.refl _ _ | refine Below.alloc ?_ ?_ _ | refine Below.setCell ?_ ?_ _ | refine Below.drew ?_ | (apply below_step; assumption) | (simp; done) | (simp; omega) | omega)) hbw⟩) (by simp; omega) (by simp) ?_; intro v5 w5 hown5 hb5; rw [List.nil_append] at hown5; obtain ⟨A5, c5, rfl⟩ := hown5.len; have HO5 := Lib.hid hown5; have hz5 := hb5.size; (simp at hz5); have hB5 : Below X.heap.size X w5 := (Below.trans (b := X.drew.alloc (.cells #[] 38)) (by repeat' (first | exact Below.refl _ _ | refine Below.alloc ?_ ?_ _ | refine Below.setCell ?_ ?_ _ | refine Below.drew ?_ | (apply below_step; assumption) | (simp; done) | (simp; omega) | omega)) (hb5.mono (by omega))); have PB5 := HBX.out.below hB5 xl; have y0 := PB5.cell 0; have y1 := PB5.cell 1; (simp at y0 y1); have OB5 := HOX.out.below hB5 ol; have d0 := OB5.cell 0; have d1 := OB5.cell 1; have df := OB5.frozen; (simp at d0 d1); have HOB5 := Lib.hid OB5; clear hown5 hb5 OB5 PB5)
  all_goals go_wp2_with fail
  all_goals
    refine bodyPost_ret (v := .agg #[.int .i64 ep, .slice A5 l.length c5]) (by simp [results, Try.results38, go_sem, d0, d1]) rfl ⟨_, rfl, ?_, ?_⟩
    · exact ((HO5.out.far (p := ⟨w.heap.size + 1, 0, none⟩) (fun e => absurd (World.ownsRow.lt HO5.out _ e).1 (by simp; omega)) (.int .i64 ep)).far (p := ⟨w.heap.size + 1, 1, none⟩) (fun e => absurd (World.ownsRow.lt HO5.out _ e).1 (by simp; omega)) (.slice A5 l.length c5)).low (by omega)
    · exact ((below_of hX hB5).setCell (by simp) _).setCell (by simp) _
set_option maxRecDepth 20000 in
set_option maxHeartbeats 3200000 in
theorem sProvFail_any (ep : Int) (v : Value) (l : List RV) (id : Int) (w : World) (hv : InSl w v l) (hlen : l.length ≤ 1048576) : Calls Try.prog 19 #[.agg #[.int .i64 ep, v], .int .i64 id] w (RetPA (provFail ep l id) w) := by
  obtain ⟨A, c, rfl, hA⟩ := hv.form
  have HA := Lib.hid hA
  have HV := Lib.hid hv
  clear hA hv
  have hP := fun w h => sProvOk_any ep (.slice A l.length c) l w h
  have HCP := Lib.hid (fun w h => l07Copy_any ep (.slice A l.length c) l w h hlen)
  have HST := Lib.hid (fun w h => l07State_any ep (.slice A l.length c) l id w h hlen)
  have HAT := Lib.hid (fun w h => l07At_any ep (.slice A l.length c) l id w h (by omega))
  have HE := Lib.hid (show provFail ep l id = if provOk ep l then (if (itemAt l id).1.p = 1 then ⟨ep, goneAt id l, 0⟩ else .bad 6) else .bad 1 from rfl)
  have HOK := Lib.hid (@provOk_all ep l)
  generalize provFail ep l id = ans at *
  generalize provOk ep l = ok at *
  have HP := Lib.hid hP
  clear hP
  go_enter Try.func19, Try.ntmps19
  go_wp2_with fail
  have hX : Below w.heap.size w ((w.alloc (.cells #[.int .i64 ep, .slice A l.length c] 26)).alloc (.cells #[.int .i64 0, .slice none 0 0] 26)) := (by repeat' (first | exact Below.refl _ _ | refine Below.alloc ?_ ?_ _ | refine Below.setCell ?_ ?_ _ | refine Below.drew ?_ | (apply below_step; assumption) | (simp; done) | (simp; omega) | omega))
  refine (HP.out _ (HV.out.below hX)).mono ?_
  rintro e w1 ⟨rfl, hb1⟩
  have hC1 := below_of hX hb1
  have SB1 := Lib.hid (((BlockIs.new w 26 #[.int .i64 ep, .slice A l.length c]).alloc (.cells #[.int .i64 0, .slice none 0 0] 26)).below hb1 (by simp; omega))
  have OB1 := Lib.hid ((BlockIs.new' (w := w.alloc (.cells #[.int .i64 ep, .slice A l.length c] 26)) (t := 26) (cs := #[.int .i64 0, .slice none 0 0]) (g := w.heap.size + 1) (by simp)).below hb1 (by simp))
  have g1 := SB1.out.cell
  have d0 := OB1.out.cell 0
  have d1 := OB1.out.cell 1
  have df := OB1.out.frozen
  have dl := OB1.out.lt
  simp at d0 d1
  clear hX hb1
  cases ok
  · have HE1 := Lib.hid (show ans = .bad 1 by rw [HE.out]; rfl)
    clear HE HOK
    go_wp2_with fail
    refine bodyPost_ret (v := .tuple #[.agg #[.int .i64 0, .slice none 0 0], .int .i64 1]) (by simp [results, Try.results19, go_sem, d0, d1]) rfl ?_
    exact RetPA_bad HE1.out (by repeat' (first | exact Below.refl _ _ | refine Below.alloc ?_ ?_ _ | refine Below.setCell ?_ ?_ _ | refine Below.drew ?_ | (apply below_step; assumption) | (simp; done) | (simp; omega) | omega))
  have HE1 := Lib.hid (show ans = if (itemAt l id).1.p = 1 then ⟨ep, goneAt id l, 0⟩ else .bad 6 by rw [HE.out]; rfl)
  obtain ⟨_, _, _, hrise⟩ := HOK.out rfl
  have HR := Lib.hid hrise
  clear hrise HOK HE
  go_wp2_with fail
  refine (HST.out _ (HV.out.below hC1)).mono ?_
  rintro e w2 ⟨rfl, hb2⟩
  have hC2 := below_of hC1 hb2
  have SB2 := Lib.hid (SB1.out.below hb2 SB1.out.lt)
  have OB2 := Lib.hid (OB1.out.below hb2 OB1.out.lt)
  clear hb2 SB1 OB1 g1 d0 d1 df dl HST
  have g2 := SB2.out.cell
  have d0 := OB2.out.cell 0
  have d1 := OB2.out.cell 1
  have df := OB2.out.frozen
  have dl := OB2.out.lt
  simp at d0 d1
  rcases ins_spec id l 0 with ⟨hm, ha⟩ | ⟨j, x, hj, hx, hxz, hit⟩
  · have h0 : (itemAt l id).1.p = 0 := by rw [itemAt_no ha]; rfl
    rw [h0]
    have HE2 := Lib.hid (show ans = .bad 6 by rw [HE1.out, h0]; rfl)
    clear hm ha h0 HE1
    go_wp2_with fail
    refine bodyPost_ret (v := .tuple #[.agg #[.int .i64 0, .slice none 0 0], .int .i64 6]) (by simp [results, Try.results19, go_sem, d0, d1]) rfl ?_
    exact RetPA_bad HE2.out (by repeat' (first | exact Below.refl _ _ | refine Below.alloc ?_ ?_ _ | refine Below.setCell ?_ ?_ _ | refine Below.drew ?_ | (apply below_step; assumption) | (simp; done) | (simp; omega) | omega))
  have h0 : (itemAt l id).1.p = x.p := by rw [hit]
  rw [h0]
  by_cases hp : x.p = 1
  rotate_left
  · have HE2 := Lib.hid (show ans = .bad 6 by rw [HE1.out, h0, if_neg hp])
    clear hj hx hxz hit h0 HE1
    go_wp2_with fail
    refine bodyPost_ret (v := .tuple #[.agg #[.int .i64 0, .slice none 0 0], .int .i64 6]) (by simp [results, Try.results19, go_sem, d0, d1]) rfl ?_
    exact RetPA_bad HE2.out (by repeat' (first | exact Below.refl _ _ | refine Below.alloc ?_ ?_ _ | refine Below.setCell ?_ ?_ _ | refine Below.drew ?_ | (apply below_step; assumption) | (simp; done) | (simp; omega) | omega))
  have HE2 := Lib.hid (show ans = ⟨ep, l.set j ⟨x.c, x.m, 2⟩, 0⟩ by
    rw [HE1.out, h0, if_pos hp, ← hxz, goneAt_set HR.out hx])
  have hjl : j < l.length := (List.getElem?_eq_some_iff.1 hx).1
  have hjli : (j : Int) < (l.length : Int) := by omega
  have HX := Lib.hid hx
  rw [Nat.zero_add] at hj
  rw [hj] at HAT
  clear hj hx hxz hit h0 HE1
  go_wp2_with fail
  refine (HCP.out _ (HV.out.below hC2)).mono ?_
  rintro e w3 ⟨v3, rfl, ho3, hb3⟩
  have hC3 := below_of hC2 hb3
  obtain ⟨gv, cv, rfl, hgv, hgvl, p0, p1, p2, pf⟩ := ho3.at_ HX.out
  have SB3 := Lib.hid (SB2.out.below hb3 SB2.out.lt)
  have OB3 := Lib.hid (OB2.out.below hb3 OB2.out.lt)
  have HO3 := Lib.hid ho3
  clear ho3 hb3 SB2 OB2 g2 d0 d1 df HCP
  go_upto_region 6 with fail
  have hYw : Below w3.heap.size w3 (w3.alloc (.cells #[.int .i64 ep, .slice (some ⟨gv, 0, none⟩) l.length cv] 26)) := (by repeat' (first | exact Below.refl _ _ | refine Below.alloc ?_ ?_ _ | refine Below.setCell ?_ ?_ _ | refine Below.drew ?_ | (apply below_step; assumption) | (simp; done) | (simp; omega) | omega))
  have SBY := SB3.out.alloc (.cells #[.int .i64 ep, .slice (some ⟨gv, 0, none⟩) l.length cv] 26)
  have OBY := OB3.out.alloc (.cells #[.int .i64 ep, .slice (some ⟨gv, 0, none⟩) l.length cv] 26)
  have PBY : BlockIs (w3.alloc (.cells #[.int .i64 ep, .slice (some ⟨gv, 0, none⟩) l.length cv] 26)) w3.heap.size 26 #[.int .i64 ep, .slice (some ⟨gv, 0, none⟩) l.length cv] := BlockIs.new _ _ _
  have hOY := HO3.out.alloc (.cells #[.int .i64 ep, .slice (some ⟨gv, 0, none⟩) l.length cv] 26)
  have hzY : w3.heap.size < (w3.alloc (.cells #[.int .i64 ep, .slice (some ⟨gv, 0, none⟩) l.length cv] 26)).heap.size := by simp
  clear p0 p1 p2 pf
  generalize w3.alloc (.cells #[.int .i64 ep, .slice (some ⟨gv, 0, none⟩) l.length cv] 26) = Y at hYw SBY OBY PBY hOY hzY ⊢
  obtain ⟨gv', cv', e, _, hgvY, p0, p1, p2, pf⟩ := hOY.at_ HX.out
  simp only [Value.slice.injEq, Option.some.injEq, Addr.mk.injEq] at e
  obtain ⟨⟨rfl, -, -⟩, -, rfl⟩ := e
  have hCY := below_of hC3 hYw
  have hz2 := hC2.size
  have hn1 : gv ≠ w.heap.size := by have := dl; omega
  have hn2 : gv ≠ w3.heap.size := by omega
  have hn3 : gv ≠ w.heap.size + 1 := by have := dl; omega
  have HKT := Lib.hid (show ∀ w', TurnB [gv] Y w' → TurnB [gv] Y w' ∧ (∀ o, w'.cell? ⟨w.heap.size, o, none⟩ = (#[.int .i64 ep, .slice A l.length c] : Array Value)[o]?) ∧ (∀ o, w'.cell? ⟨w3.heap.size, o, none⟩ = (#[.int .i64 ep, .slice (some ⟨gv, 0, none⟩) l.length cv] : Array Value)[o]?) from
    fun w' ht => ⟨ht, (SBY.turn ht (by simpa using fun e => hn1 e.symm)).cell, (PBY.turn ht (by simpa using fun e => hn2 e.symm)).cell⟩)
  have HOB := Lib.hid OBY
  have HOYY := Lib.hid hOY
  clear SBY OBY PBY hOY SB3 OB3 HO3 dl
  go_cut [5] (fun s5 wx => s5 = .int .i64 0 ∧ ∃ w4, Below Y.heap.size Y w4 ∧ wx = w4.setCell ⟨gv, j * 3 + 2, none⟩ (.int .i64 2))
  case first =>
    go_region_held3 (fun w' => TurnB [gv] Y w' ∧ (∀ o, w'.cell? ⟨w.heap.size, o, none⟩ = (#[.int .i64 ep, .slice A l.length c] : Array Value)[o]?) ∧ (∀ o, w'.cell? ⟨w3.heap.size, o, none⟩ = (#[.int .i64 ep, .slice (some ⟨gv, 0, none⟩) l.length cv] : Array Value)[o]?))
      (exact HKT.out _ (by repeat' (first | with_reducible exact TurnB.refl _ _ | with_reducible refine TurnB.put ?_ (List.mem_singleton.2 rfl) _ _ | with_reducible refine TurnB.drewN' ?_ | with_reducible refine TurnB.allocN ?_ _ | (with_reducible apply turn_stepN; with_reducible assumption))))
      (first
        | (go_at_call 37; refine (HAT.out _ (HV.out.below (below_of hCY (by repeat' (first | exact Below.refl _ _ | refine Below.alloc ?_ ?_ _ | refine Below.setCell ?_ ?_ _ | refine Below.drew ?_ | (apply below_step; assumption) | (simp; done) | (simp; omega) | omega))))).mono ?_; rintro e w4 ⟨rfl, hb4⟩; have u2 := (hb4.cell (p := ⟨gv, j * 3 + 2, none⟩) hgvY).trans p2; have uf : ∀ o, w4.frozen? ⟨gv, o, none⟩ = false := (fun o => (hb4.frozen (p := ⟨gv, o, none⟩) hgvY).trans (pf o)); have hz4 := hb4.size; (try simp at hz4)))
    all_goals
      go_wp2_with fail
      go_meet
      exact ⟨rfl, w4, (by repeat' (first | exact Below.refl _ _ | refine Below.alloc ?_ ?_ _ | refine Below.setCell ?_ ?_ _ | refine Below.drew ?_ | (apply below_step; assumption) | (simp; done) | (simp; omega) | omega)), rfl⟩
  case rest =>
    obtain ⟨rfl, w4, hb4, rfl⟩ := hcut
    have hT : TurnB [gv] Y (w4.setCell ⟨gv, j * 3 + 2, none⟩ (.int .i64 2)) := (TurnB.of_below hb4).put (List.mem_singleton.2 rfl) _ _
    have OBW := HOB.out.turn hT (by simpa using fun e => hn3 e.symm)
    have HOW := Lib.hid ((HOYY.out.below hb4 (Nat.le_refl _)).gone HX.out)
    have hCW := hCY.trans (hT.below (B := w.heap.size) hCY.size (by simp; omega))
    obtain ⟨_, _, y3⟩ := HKT.out _ hT
    have hlY := hb4.size
    generalize w4.setCell ⟨gv, j * 3 + 2, none⟩ (.int .i64 2) = W5 at hT OBW HOW hCW y3 ⊢
    have d0 := OBW.cell 0
    have d1 := OBW.cell 1
    have df := OBW.frozen
    have dl := OBW.lt
    have y30 := y3 0
    have y31 := y3 1
    simp at d0 d1 y30 y31
    have HOBW := Lib.hid OBW
    clear OBW hT y3
    go_wp2_with fail
    have B2 := (HOBW.out.put 0 (.int .i64 ep)).put 1 (.slice (some ⟨gv, 0, none⟩) l.length cv)
    have z0 := B2.cell 0
    have z1 := B2.cell 1
    simp at z0 z1
    refine bodyPost_ret (v := .tuple #[.agg #[.int .i64 ep, .slice (some ⟨gv, 0, none⟩) l.length cv], .int .i64 0]) (by simp [results, Try.results19, go_sem, z0, z1]) rfl ?_
    refine RetPA_fine HE2.out ?_ ?_
    · have h1 := HOW.out
      rw [show l.length = (l.set j ⟨x.c, x.m, 2⟩).length by simp] at h1 ⊢
      exact ((h1.far (p := ⟨w.heap.size + 1, 0, none⟩) (by simp [Value.ownBlock]; omega) (.int .i64 ep)).far (p := ⟨w.heap.size + 1, 1, none⟩) (by simp [Value.ownBlock]; omega) (.slice (some ⟨gv, 0, none⟩) (l.set j ⟨x.c, x.m, 2⟩).length cv)).low (by omega)
    · exact (hCW.setCell (by simp) _).setCell (by simp) _
end Go.Proofs.Ytbmiefhgkagcgaa
