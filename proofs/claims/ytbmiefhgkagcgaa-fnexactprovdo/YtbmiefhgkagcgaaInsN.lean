/- slices.Insert of one instance into a row of the call's own, all roads. -/
import Derived.Test.YtbmiefhgkagcgaaIns
import Derived.Test.YtbmiefhgkagcgaaInstOwn
namespace Go.Proofs.Ytbmiefhgkagcgaa
open Go.RowKit Go.ChangeShapes Go.WideShapes Go.Maps

set_option maxHeartbeats 4000000 in
set_option maxRecDepth 20000 in
/-- There is room, and i is before the end: in place. -/
theorem insertInst_shift (b k c i vb : Nat) (cs vs : List Value) (w : World) (hi : i < k) (hroom : k + 1 ≤ c) (hc63 : c ≤ 9223372036854775807) (hvb : vb ≠ b)
    (hcl : cs.length = k * 3) (hvl : vs.length = 3)
    (hcs : ∀ j v, cs[j]? = some v → w.cell? ⟨b, j, none⟩ = some v) (hsp : ∀ j, j < (k + 1) * 3 → (w.cell? ⟨b, j, none⟩).isSome = true) (hfz : ∀ j, w.frozen? ⟨b, j, none⟩ = false)
    (hvs : ∀ j v, vs[j]? = some v → w.cell? ⟨vb, j, none⟩ = some v) (h1c : ∀ v ∈ cs, v.oneCell' = true) (h1v : ∀ v ∈ vs, v.oneCell' = true)
    (tA tB : TypeId) (kA kB : Nat) (hsa : w.shape? vb = some (tA, kA)) (hsb : w.shape? b = some (tB, kB)) (hkB : kB ≠ 0) (hfa : ∀ j, w.frozen? ⟨vb, j, none⟩ = false) :
    Calls Try.prog 42 #[.slice (some ⟨b, 0, none⟩) k c, .int .i64 i, .slice (some ⟨vb, 0, none⟩) 1 1] w fun e w' =>
      e = .returned (.slice (some ⟨b, 0, none⟩) (k + 1) c) ∧ w' = (w.drew.setCells b ((i + 1) * 3) (cs.drop (i * 3))).setCells b (i * 3) vs := by
  obtain ⟨i0, hi0, hz0, hs0, hy0⟩ := info_parts Try.infoInst
  have hsz : (Try.prog.info? 38).map (·.size) = some 3 := by rw [hi0]; simp [hs0]
  have hov : ∀ lb cb, (callFunc 61 #[.slice (some ⟨vb, 0, none⟩) 1 1, .slice (some ⟨b, (i + 1) * 3, none⟩) lb cb]).run Try.prog w = .ok (.value (.bool false)) w := fun lb cb => by
    rw [run_callFunc_extern Try.func61 (by kernel_rfl) (by kernel_rfl) (by kernel_rfl) (e := Extern.SlicesOverlaps.overlaps #[24, 24] #[4]) (by kernel_rfl),
      Lib.run_overlaps_apart w 24 4 38 Try.underlying24 3 (fun w => by simp [sizeOf, typeInfo, hi0, hs0]) ⟨vb, 0, none⟩ ⟨b, (i + 1) * 3, none⟩ 1 1 lb cb hvb tA tB kA kB hsa hsb hkB (hfa _) (hfa _)]
    rfl
  have hdl : (cs.drop (i * 3)).length = (k - i) * 3 := by rw [List.length_drop, hcl]; omega
  have hmin1 : Nat.min (k + 1 - i) (k - i) = k - i := by simp only [Nat.min_def]; split <;> omega
  have hmin2 : Nat.min 1 (k + 1 - i) = 1 := by simp only [Nat.min_def]; split <;> omega
  have hcp1 : ∀ ty dc sc, (Builtin.copy_ #[24, 24] ty #[.slice (some ⟨b, (i + 1) * 3, none⟩) (k - i) dc, .slice (some ⟨b, i * 3, none⟩) (k + 1 - i) sc]).run Try.prog w.drew = .ok (goInt ((k - i : Nat) : Int)) (w.drew.setCells b ((i + 1) * 3) (cs.drop (i * 3))) := fun ty dc sc => by
    have h := run_copy_many (P := Try.prog) w.drew 24 24 ty 38 3 b ((i + 1) * 3) (k - i) dc ⟨b, i * 3, none⟩ (k + 1 - i) sc (cs.drop (i * 3)) Try.underlying24 hsz (by rw [hdl, hmin1])
      (fun j v hj => by rw [Go.WideShapes.add_plain]; exact hcs (i * 3 + j) v (by rwa [List.getElem?_drop] at hj))
      (fun j hj => hsp _ (by omega)) (fun j hj => hfz _) (fun v hv => h1c v (List.mem_of_mem_drop hv))
    rw [hmin1] at h; exact h
  obtain ⟨W1, hW1⟩ : ∃ W1, W1 = w.drew.setCells b ((i + 1) * 3) (cs.drop (i * 3)) := ⟨_, rfl⟩
  have hsp1 : ∀ j, j < (k + 1) * 3 → (W1.cell? ⟨b, j, none⟩).isSome = true := fun j hj => by
    rw [hW1]
    exact isSome_set b _ _ w.drew (fun q hq => hsp _ (by rw [hdl] at hq; omega)) _ (hsp j hj)
  have hcp2 : ∀ ty dc, (Builtin.copy_ #[24, 24] ty #[.slice (some ⟨b, i * 3, none⟩) (k + 1 - i) dc, .slice (some ⟨vb, 0, none⟩) 1 1]).run Try.prog W1 = .ok (goInt 1) (W1.setCells b (i * 3) vs) := fun ty dc => by
    have h := run_copy_many (P := Try.prog) W1 24 24 ty 38 3 b (i * 3) (k + 1 - i) dc ⟨vb, 0, none⟩ 1 1 vs Try.underlying24 hsz (by rw [hmin2, hvl])
      (fun j v hj => by
        rw [Go.WideShapes.add_plain, Nat.zero_add, hW1, World.cell?_setCells_out b _ _ _ _ (fun h _ => absurd h hvb)]
        exact hvs j v hj)
      (fun j hj => hsp1 _ (by omega)) (fun j hj => by rw [hW1, World.frozen?_setCells]; exact hfz _) h1v
    rw [hmin2] at h; exact h
  rw [← hW1] at hcp1
  have hw1 : IntKind.i64.wrap ((i : Int) + 1) = ((i + 1 : Nat) : Int) := by rw [IntKind.wrap_i64]; omega
  have hw2 : IntKind.i64.wrap ((k : Int) + 1) = ((k + 1 : Nat) : Int) := by rw [IntKind.wrap_i64]; omega
  have hz2 : ¬ ((i : Int) = (k : Int)) := by omega
  have hb1 : (0 : Int) ≤ (i : Int) + 1 := by omega
  have hin : i ≤ k := by omega
  have hb2 : ¬ (c = i + 1) := by omega
  have hb3 : (i : Int) ≤ (k : Int) + 1 := by omega
  have hb4 : ¬ (c = i) := by omega
  have mixed : Try.prog.follows Departure.mixedOrders = true := by kernel_rfl
  rw [← hW1]
  generalize W1.setCells b (i * 3) vs = W2 at hcp2 ⊢
  clear hW1 hsp1 hdl hmin1 hmin2 hsz hi0 hz0 hs0 hy0 hcs hsp hfz hvs h1c h1v hsa hsb hkB hfa hcl hvl
  go_enter Try.func42, Try.ntmps42
  go_wp2_with fail
  go_region
  go_wp2_with fail
  go_ret
  exact ⟨rfl, rfl⟩
set_option maxHeartbeats 4000000 in
set_option maxRecDepth 20000 in
/-- There is no room, and i is before the end: a new row. -/
theorem insertInst_grow (b k c i vb : Nat) (cs vs : List Value) (w : World) (hi : i < k) (hk : k ≤ c) (hroom : c < k + 1) (hlen : k ≤ 1048576) 
    (hcl : cs.length = k * 3) (hvl : vs.length = 3) (hbw : b < w.heap.size) (hvw : vb < w.heap.size)
    (hcs : ∀ j v, cs[j]? = some v → w.cell? ⟨b, j, none⟩ = some v)
    (hvs : ∀ j v, vs[j]? = some v → w.cell? ⟨vb, j, none⟩ = some v) (h1c : ∀ v ∈ cs, v.oneCell' = true) (h1v : ∀ v ∈ vs, v.oneCell' = true) :
    Calls Try.prog 42 #[.slice (some ⟨b, 0, none⟩) k c, .int .i64 i, .slice (some ⟨vb, 0, none⟩) 1 1] w fun e w' => ∃ G,
      e = .returned (.slice (some ⟨w.heap.size, 0, none⟩) (k + 1) G) ∧ w'.ownsRow 0 38 3 (.slice (some ⟨w.heap.size, 0, none⟩) (k + 1) G) (k + 1) (cs.take (i * 3) ++ (vs ++ cs.drop (i * 3))) ∧ Below w.heap.size w w' := by
  obtain ⟨i0, hi0, hz0, hs0, hy0⟩ := info_parts Try.infoInst
  have hsz : (Try.prog.info? 38).map (·.size) = some 3 := by rw [hi0]; simp [hs0]
  have hik : i + (k + 1 - i) = k + 1 := by omega
  have hkk : (k : Int) + 1 - (i : Int) = ((k + 1 - i : Nat) : Int) := by omega
  have hold : (Builtin.firstCells i0.size i (.slice (some ⟨b, 0, none⟩) i c)).run Try.prog w.drew = .ok (cs.take (i * 3)).toArray w.drew := by
    rw [hs0]
    exact run_firstCells_some w.drew 3 i ⟨b, 0, none⟩ i c (cs.take (i * 3)) (by rw [List.length_take]; omega) (fun j v hj => by
      rw [Go.WideShapes.add_plain, Nat.zero_add]
      rw [List.getElem?_take] at hj
      split at hj
      · exact hcs j v hj
      · cases hj)
  obtain ⟨G, hG⟩ : ∃ G, G = grownCap w (k + 1) c 38 := ⟨_, rfl⟩
  obtain ⟨ROW, hROW⟩ : ∃ ROW : Array Value, ROW = (cs.take (i * 3)).toArray ++ Builtin.zeroCells (Value.agg #[.int .i64 0, .int .i64 0, .int .i64 0]).cells (k + 1 - i) ++ Builtin.zeroCells (Value.agg #[.int .i64 0, .int .i64 0, .int .i64 0]).cells (G - (k + 1)) := ⟨_, rfl⟩
  obtain ⟨W1, hW1⟩ : ∃ W1, W1 = w.drew.alloc (.cells ROW 38) := ⟨_, rfl⟩
  have hrz : ∀ ty, (Builtin.append_ #[24, 3] ty #[.slice (some ⟨b, 0, none⟩) i c, .int .i64 ((k : Int) + 1 - (i : Int))]).run Try.prog w = .ok (.slice (some ⟨w.heap.size, 0, none⟩) (k + 1) G) W1 := fun ty => by
    have h := Lib.run_append_grow_zeros (P := Try.prog) w 24 3 ty 38 i0 _ .i64 .i64 Try.underlying24 Try.underlying3 hi0 hz0 (some ⟨b, 0, none⟩) i c (cs.take (i * 3)) hold (k + 1 - i) (by omega) (by omega) (by omega) (by omega) (by rw [hy0]; omega) (by rw [hy0, hik]; exact growslice_fits hroom (by omega))
    rw [hik] at h
    rw [hkk, hW1, hROW, hG]
    exact h
  have hGn : k + 1 ≤ G := by rw [hG]; exact grownCap_ge w _ _ _
  have hGm : G ≤ maxLen := by rw [hG]; exact grownCap_le_maxLen w (k + 1) c 38 (by unfold maxLen; omega)
  have hzl : (Builtin.zeroCells (Value.agg #[.int .i64 0, .int .i64 0, .int .i64 0]).cells (k + 1 - i)).toList.length = (k + 1 - i) * 3 := by simp [Builtin.zeroCells, Value.cells]
  have hzl2 : (Builtin.zeroCells (Value.agg #[.int .i64 0, .int .i64 0, .int .i64 0]).cells (G - (k + 1))).toList.length = (G - (k + 1)) * 3 := by simp [Builtin.zeroCells, Value.cells]
  have htl : (cs.take (i * 3)).length = i * 3 := by rw [List.length_take]; omega
  have hO1 : W1.ownsRow 0 38 3 (.slice (some ⟨w.heap.size, 0, none⟩) (k + 1) G) (k + 1) (cs.take (i * 3) ++ (Builtin.zeroCells (Value.agg #[.int .i64 0, .int .i64 0, .int .i64 0]).cells (k + 1 - i)).toList) := by
    refine ⟨by rw [List.length_append, hzl, htl]; omega, .inr ⟨w.heap.size, G, ROW, rfl, Nat.zero_le _, ?_, hGn, hGm, ?_, ?_⟩⟩
    · rw [hW1]; exact BlockIs.new w.drew _ ROW
    · rw [← Array.length_toList, hROW]; simp only [Array.toList_append, List.length_append, hzl, hzl2, htl]; omega
    · rw [hROW]; simp only [Array.toList_append]
      rw [List.take_left']
      rw [List.length_append, hzl, htl]; omega
  generalize hZ : (Builtin.zeroCells (Value.agg #[.int .i64 0, .int .i64 0, .int .i64 0]).cells (k + 1 - i)).toList = Z at hO1 hzl
  have hZ2 : Z = Z.take 3 ++ Z.drop 3 := (List.take_append_drop _ _).symm
  rw [hZ2] at hO1
  have hO2 := own_put (g := w.heap.size) (ds := vs) hO1 (by rw [List.length_take]; omega) rfl
  rw [htl] at hO2
  obtain ⟨W2, hW2⟩ : ∃ W2, W2 = W1.setCells w.heap.size (i * 3) vs := ⟨_, rfl⟩
  rw [← putAll_setCells, ← hW2] at hO2
  have hO2' : W2.drew.ownsRow 0 38 3 (.slice (some ⟨w.heap.size, 0, none⟩) (k + 1) G) (k + 1) ((cs.take (i * 3) ++ vs) ++ (Z.drop 3 ++ [])) := by
    rw [List.append_nil, List.append_assoc]
    exact own_agree hO2 (fun _ _ => rfl)
  have hO3 := own_put (g := w.heap.size) (ds := cs.drop (i * 3)) hO2' (by rw [List.length_drop, List.length_drop]; omega) rfl
  rw [show (cs.take (i * 3) ++ vs).length = (i + 1) * 3 by rw [List.length_append, htl]; omega] at hO3
  obtain ⟨W3, hW3⟩ : ∃ W3, W3 = W2.drew.setCells w.heap.size ((i + 1) * 3) (cs.drop (i * 3)) := ⟨_, rfl⟩
  rw [← putAll_setCells, ← hW3, List.append_nil, List.append_assoc] at hO3
  have hB1 : Below w.heap.size w W1 := by rw [hW1]; exact ((Below.refl _ _).drew).alloc (Nat.le_refl _) _
  have hput : ∀ (W : World) o ds, Below w.heap.size w W → Below w.heap.size w (putAll W w.heap.size o ds) := fun W o ds hb =>
    ⟨(((TurnB.refl [w.heap.size] W).putAll (List.mem_singleton.2 rfl) o ds).os).trans hb.os, (((TurnB.refl [w.heap.size] W).putAll (List.mem_singleton.2 rfl) o ds).tape).trans hb.tape, (((TurnB.refl [w.heap.size] W).putAll (List.mem_singleton.2 rfl) o ds).output).trans hb.output, Nat.le_trans hb.size ((TurnB.refl [w.heap.size] W).putAll (List.mem_singleton.2 rfl) o ds).size, fun q hq => (putAll_block (by omega)).trans (hb.block q hq)⟩
  have hB2 : Below w.heap.size w W2 := by rw [hW2, putAll_setCells]; exact hput _ _ _ hB1
  have hB3 : Below w.heap.size w W3 := by rw [hW3, putAll_setCells]; exact hput _ _ _ hB2.drew
  obtain ⟨g1, c1, eq1, hgl1, hc1, hf1⟩ := own_cells hO1 (by omega)
  simp only [Value.slice.injEq, Option.some.injEq, Addr.mk.injEq] at eq1
  obtain ⟨⟨rfl, -, -⟩, -, -⟩ := eq1
  obtain ⟨g2, c2, eq2, hgl2, hc2, hf2⟩ := own_cells hO2' (by omega)
  simp only [Value.slice.injEq, Option.some.injEq, Addr.mk.injEq] at eq2
  obtain ⟨⟨rfl, -, -⟩, -, -⟩ := eq2
  have hsome1 : ∀ j, j < (k + 1) * 3 → (W1.cell? ⟨w.heap.size, j, none⟩).isSome = true := fun j hj => by
    rw [hc1 j _ (List.getElem?_eq_getElem (by rw [hO1.1]; exact hj))]; rfl
  have hsome2 : ∀ j, j < (k + 1) * 3 → (W2.drew.cell? ⟨w.heap.size, j, none⟩).isSome = true := fun j hj => by
    rw [hc2 j _ (List.getElem?_eq_getElem (by rw [hO2'.1]; exact hj))]; rfl
  have hmin2 : Nat.min 1 (k + 1 - i) = 1 := by simp only [Nat.min_def]; split <;> omega
  have hdl : (cs.drop (i * 3)).length = (k - i) * 3 := by rw [List.length_drop, hcl]; omega
  have hmin3 : Nat.min (k - i) (k - i) = k - i := by simp
  have hcpA : ∀ ty dc, (Builtin.copy_ #[24, 24] ty #[.slice (some ⟨w.heap.size, i * 3, none⟩) (k + 1 - i) dc, .slice (some ⟨vb, 0, none⟩) 1 1]).run Try.prog W1 = .ok (goInt 1) W2 := fun ty dc => by
    have h := run_copy_many (P := Try.prog) W1 24 24 ty 38 3 w.heap.size (i * 3) (k + 1 - i) dc ⟨vb, 0, none⟩ 1 1 vs Try.underlying24 hsz (by rw [hmin2, hvl])
      (fun j v hj => by
        rw [Go.WideShapes.add_plain, Nat.zero_add]
        exact (hB1.cell (p := ⟨vb, j, none⟩) hvw).trans (hvs j v hj))
      (fun j hj => hsome1 _ (by omega)) (fun j hj => hf1 _) h1v
    rw [hmin2, ← hW2] at h; exact h
  have hcpB : ∀ ty dc sc, (Builtin.copy_ #[24, 24] ty #[.slice (some ⟨w.heap.size, (i + 1) * 3, none⟩) (k - i) dc, .slice (some ⟨b, i * 3, none⟩) (k - i) sc]).run Try.prog W2.drew = .ok (goInt ((k - i : Nat) : Int)) W3 := fun ty dc sc => by
    have h := run_copy_many (P := Try.prog) W2.drew 24 24 ty 38 3 w.heap.size ((i + 1) * 3) (k - i) dc ⟨b, i * 3, none⟩ (k - i) sc (cs.drop (i * 3)) Try.underlying24 hsz (by rw [hdl, hmin3])
      (fun j v hj => by
        rw [Go.WideShapes.add_plain]
        exact (hB2.drew.cell (p := ⟨b, i * 3 + j, none⟩) hbw).trans (hcs (i * 3 + j) v (by rwa [List.getElem?_drop] at hj)))
      (fun j hj => hsome2 _ (by omega)) (fun j hj => hf2 _) (fun v hv => h1c v (List.mem_of_mem_drop hv))
    rw [hmin3, ← hW3] at h; exact h
  have HEND := Lib.hid (And.intro hO3 hB3)
  have mixed : Try.prog.follows Departure.mixedOrders = true := by kernel_rfl
  have hG63 : G ≤ 9223372036854775807 := by unfold maxLen at hGm; omega
  have hw1 : IntKind.i64.wrap ((i : Int) + 1) = ((i + 1 : Nat) : Int) := by rw [IntKind.wrap_i64]; omega
  have hz2 : ¬ ((i : Int) = (k : Int)) := by omega
  have hz3 : (c : Int) < (k : Int) + 1 := by omega
  have hb1 : (0 : Int) ≤ (i : Int) + 1 := by omega
  have hin : i ≤ k := by omega
  have hGi : ¬ (G = i) := by omega
  have hGi1 : ¬ (G = i + 1) := by omega
  have hci : ¬ (c = i) := by omega
  have hb3 : (i : Int) ≤ (k : Int) := by omega
  clear hO1 hO2 hO2' hO3 hB1 hB2 hB3 hc1 hc2 hf1 hf2 hsome1 hsome2 hmin2 hmin3 hdl hput hW1 hW2 hW3 hZ hZ2 hzl hzl2 htl hROW hold hkk hik hG hGm hi0 hz0 hs0 hy0 hsz hcs hvs h1c h1v hcl hvl hgl1 hgl2
  go_enter Try.func42, Try.ntmps42
  go_wp2_with (at_builtin; refine Lib.wpList_append_run _ rfl _ _ _ _ rfl _ _ rfl rfl _ _ (hrz _) ?_)
  go_region
  go_wp2_with fail
  go_ret
  exact ⟨G, rfl, HEND.out⟩
set_option maxHeartbeats 1600000 in
set_option maxRecDepth 20000 in
/-- At the end: append. -/
theorem insertInst_end (v : Value) (k vb : Nat) (xs vs : List Value) (w : World) (ho : w.ownsRow 0 38 3 v k xs) (hlen : k ≤ 1048576) (hvl : vs.length = 3) (hV : BlockIs w vb 38 vs.toArray) (h1v : ∀ v ∈ vs, v.oneCell' = true) :
    Calls Try.prog 42 #[v, .int .i64 k, .slice (some ⟨vb, 0, none⟩) 1 1] w fun e w' => ∃ v',
      e = .returned v' ∧ w'.ownsRow 0 38 3 v' (k + 1) (xs ++ vs) ∧ w.grownBy w' v.ownBlock ∧ (v'.ownBlock = v.ownBlock ∨ v'.ownBlock = some w.heap.size) := by
  obtain ⟨i0, hi0, hz0, hs0, hy0⟩ := info_parts Try.infoInst
  obtain ⟨A, c, rfl, hA⟩ := own_form ho
  have HO := Lib.hid ho
  have hcap : k ≤ c := by
    rcases ho.2 with ⟨e, hk⟩ | ⟨g, cap', cur, e, _, _, hnc, _⟩
    · omega
    · simp only [Value.slice.injEq] at e
      obtain ⟨_, _, rfl⟩ := e
      exact hnc
  have HV := Lib.hid (And.intro hV (And.intro hvl h1v))
  have HI := Lib.hid (And.intro hi0 (And.intro hz0 (And.intro hs0 hy0)))
  clear ho hV hvl h1v hA hi0 hz0 hs0 hy0
  go_enter Try.func42, Try.ntmps42
  go_wp2_with (at_builtin; refine wpList_spread _ (by rfl) (.tmp 23) (.tmp 24) 24 (by rfl) 38 i0 _ 3 24 Try.underlying24 HI.out.1 HI.out.2.1 HI.out.2.2.1 HI.out.2.2.2 (by rfl) (by omega) (.slice A k c) k xs (by rfl) HO.out (some ⟨vb, 0, none⟩) 1 1 vs (by rfl) (by rw [HV.out.2.1]) (fun _ => ⟨_, 0, rfl, CellsAt.of_block HV.out.1 (fun j u hu => by rw [Nat.zero_add]; simpa using hu)⟩) HV.out.2.2 (by unfold maxLen; omega) (by omega) ?_; intro v' w' hown hg hk; have HG := Lib.hid (And.intro hown (And.intro hg hk)); clear hown hg hk)
  all_goals
    go_ret
    obtain ⟨e1, e2, e3⟩ := HG.out
    exact ⟨v', rfl, e1, by cases A <;> exact e2, by cases A <;> exact e3⟩
/-- slices.Insert of one element into a row of the call's own. -/
theorem insertInst_own (v : Value) (k i vb : Nat) (xs vs : List Value) (w : World) (ho : w.ownsRow 0 38 3 v k xs) (hi : i ≤ k) (hlen : k ≤ 1048576) (hvl : vs.length = 3) (hV : BlockIs w vb 38 vs.toArray) (hvb : vb ∉ blk v) (h1c : ∀ v ∈ xs, v.oneCell' = true) (h1v : ∀ v ∈ vs, v.oneCell' = true) :
    Calls Try.prog 42 #[v, .int .i64 i, .slice (some ⟨vb, 0, none⟩) 1 1] w fun e w' => ∃ v',
      e = .returned v' ∧ w'.ownsRow 0 38 3 v' (k + 1) (xs.take (i * 3) ++ (vs ++ xs.drop (i * 3))) ∧ TurnB (blk v) w w' ∧ (blk v' = blk v ∨ blk v' = [w.heap.size]) := by
  rcases Nat.lt_or_ge i k with h | h
  · obtain ⟨b, c, rfl, hbw, hcs, hfz⟩ := own_cells ho (by omega)
    have hbb : blk (.slice (some ⟨b, 0, none⟩) k c) = [b] := rfl
    have hne : vb ≠ b := fun e => hvb (by rw [hbb, e]; exact List.mem_singleton.2 rfl)
    have hvs : ∀ j u, vs[j]? = some u → w.cell? ⟨vb, j, none⟩ = some u := fun j u hu => by rw [hV.cell]; simpa using hu
    obtain ⟨g', cap, cur, e', hb', hh, hnc, hcm, hs, ht⟩ : ∃ g cap cur, Value.slice (some ⟨b, 0, none⟩) k c = .slice (some ⟨g, 0, none⟩) k cap ∧ 0 ≤ g ∧ w.heap[g]? = some (.cells cur 38 (0, 0)) ∧ k ≤ cap ∧ cap ≤ maxLen ∧ cur.size = cap * 3 ∧ cur.toList.take (k * 3) = xs := by
      rcases ho.2 with ⟨e, _⟩ | h
      · cases e
      · exact h
    simp only [Value.slice.injEq, Option.some.injEq, Addr.mk.injEq] at e'
    obtain ⟨⟨rfl, -, -⟩, -, rfl⟩ := e'
    rcases Nat.lt_or_ge c (k + 1) with hr | hr
    · refine (insertInst_grow b k c i vb xs vs w h hnc hr hlen ho.1 hvl hbw hV.lt hcs hvs h1c h1v).mono ?_
      rintro e w' ⟨G, rfl, hO, hB⟩
      exact ⟨_, rfl, hO, TurnB.of_below hB, .inr rfl⟩
    · have hcells : ∀ j, j < (k + 1) * 3 → (w.cell? ⟨b, j, none⟩).isSome = true := fun j hj => by
        have hj2 : j < cur.size := by
          have : (k + 1) * 3 ≤ c * 3 := Nat.mul_le_mul_right _ hr
          omega
        have := BlockIs.cell (w := w) (t := 38) (cs := cur) hh j
        rw [this, Array.getElem?_eq_getElem hj2]; rfl
      refine (insertInst_shift b k c i vb xs vs w h hr (by unfold maxLen at hcm; omega) hne ho.1 hvl hcs hcells hfz hvs h1c h1v 38 38 vs.toArray.size cur.size (by simp [World.shape?, show w.heap[vb]? = some (.cells vs.toArray 38 (0, 0)) from hV]) (by simp [World.shape?, hh]) (by omega) (fun j => hV.frozen j)).mono ?_
      rintro e w' ⟨rfl, rfl⟩
      refine ⟨_, rfl, ?_, ?_, .inl rfl⟩
      · rw [putAll_setCells, putAll_setCells]
        exact own_ins (own_agree ho (fun _ _ => rfl)) hr h hvl
      · rw [putAll_setCells, putAll_setCells, hbb]
        exact ((TurnB.of_below (Below.refl w.heap.size w).drew).putAll (List.mem_singleton.2 rfl) _ _).putAll (List.mem_singleton.2 rfl) _ _
  · obtain rfl : i = k := by omega
    refine (insertInst_end v i vb xs vs w ho hlen hvl hV h1v).mono ?_
    rintro e w' ⟨v', rfl, hO, hg, hk⟩
    refine ⟨v', rfl, ?_, TurnB.of_grown hg (fun q hq => by simp [blk, hq]), ?_⟩
    · rw [← ho.1, List.take_length, List.drop_length, List.append_nil]; exact hO
    · rcases hk with e | e
      · left; simp [blk, e]
      · right; simp [blk, e]
end Go.Proofs.Ytbmiefhgkagcgaa
