/- append of several items; the contract of the model's StoreDrop. -/
import Derived.Test.YtjammpcfihlfaaaPutW
import Derived.Test.YtjammpcfihlfaaaStoreS
namespace Go.Proofs.Ytjammpcfihlfaaa
open Go.RowKit Go.Maps

theorem run_append_zeroI {P : Program} (w : World) (t ty e : TypeId) (i : TypeInfo) (size : Nat) (ht : P.underlying t = some (.slice e)) (hi : P.info? e = some i)
    (v : Value) (n : Nat) (xs : List Value) (A : Option Addr) (c : Nat) (hown : w.ownsRow 0 e size v n xs) :
    (Builtin.append_ #[t, t] ty #[v, .slice A 0 c]).run P w = .ok v w := by
  rcases hown.2 with ⟨rfl, rfl⟩ | ⟨g, cap, cur, rfl, _, _, hnc, _⟩
  · cases A <;> simp [Builtin.append_, run_underlying ht, sizeOf, typeInfo, hi, Builtin.lenOf, Builtin.firstCells, loadCells, loadCellsFrom]
  · cases A <;> simp [Builtin.append_, run_underlying ht, sizeOf, typeInfo, hi, Builtin.lenOf, Builtin.firstCells, hnc, storeCells, loadCells, loadCellsFrom]
theorem OwnsI.made (w : World) {g base : Nat} (hg : g = w.heap.size) (hb : base ≤ g) : OwnsI (w.alloc (.cells #[] 36)) base (.slice (some ⟨g, 0, none⟩) 0 0) [] :=
  ⟨rfl, .inr ⟨g, 0, #[], rfl, hb, BlockIs.new' hg, Nat.le_refl _, by unfold maxLen; omega, rfl, rfl⟩⟩
theorem ItAt.take {w : World} {b off : Nat} {l : List RV} (h : ItAt w b off l) (k : Nat) : ItAt w b off (l.take k) := fun i r hr => h i r (by
  have hi : i < k := by
    have := (List.getElem?_eq_some_iff.1 hr).1
    rw [List.length_take] at this; omega
  rwa [List.getElem?_take_of_lt hi] at hr)
theorem ItAt.drop {w : World} {b off : Nat} {l : List RV} (h : ItAt w b off l) (k : Nat) : ItAt w b (off + k * 3) (l.drop k) := fun i r hr => by
  rw [List.getElem?_drop] at hr
  have := h (k + i) r hr
  rw [show off + (k + i) * 3 = off + k * 3 + i * 3 by omega] at this
  exact this
theorem itL_one (l : List RV) : ∀ u ∈ itL l, u.oneCell' = true := by
  intro u hu
  simp only [itL, List.mem_flatMap, List.mem_cons, List.not_mem_nil, or_false] at hu
  obtain ⟨r, _, rfl | rfl | rfl⟩ := hu <;> rfl
theorem ItAt.cells {w : World} {b off : Nat} {l : List RV} (h : ItAt w b off l) : ∀ j u, (itL l)[j]? = some u → w.cell? ((⟨b, off, none⟩ : Addr).add j) = some u := fun j u hu => by
  rw [Go.WideShapes.add_plain]
  have hj : j < l.length * 3 := by
    have := (List.getElem?_eq_some_iff.1 hu).1
    rwa [itL_length] at this
  obtain ⟨r, hr⟩ : ∃ r, l[j / 3]? = some r := ⟨_, List.getElem?_eq_getElem (by omega)⟩
  obtain ⟨h1, h2, h3⟩ := h (j / 3) r hr
  obtain ⟨k1, k2, k3⟩ := itL_at hr
  rcases (show j = j / 3 * 3 ∨ j = j / 3 * 3 + 1 ∨ j = j / 3 * 3 + 2 by omega) with e | e | e
  · rw [← e] at h1 k1; rw [k1] at hu; cases hu; exact h1
  · rw [← e] at k2; rw [k2] at hu; cases hu; rw [Nat.add_assoc, ← e] at h2; exact h2
  · rw [← e] at k3; rw [k3] at hu; cases hu; rw [Nat.add_assoc, ← e] at h3; exact h3
/-- append of the items of another slice, as one step of a region that draws. -/
theorem step_spread_item {ops : Array Oper} {o : Oper} {a : Act} {K : Act → World → Prop} {Q : Exit → Act → World → Prop} {E : Prop} (w : World) (hgd : o.guard = none) (s x : Operand)
    (ho : o.op = .call { callee := .builtin .append, args := #[s, x], argTypes := #[32, 32] })
    (base : Nat) (v : Value) (l : List RV) (hs : a.eval s = v) (hown : OwnsI w base v l) (A : Option Addr) (m c : Nat) (new : List RV) (hx : a.eval x = .slice A m c) (hm : new.length = m)
    (hnew : 0 < m → ∃ b off, A = some ⟨b, off, none⟩ ∧ ItAt w b off new) (hl : l.length + m ≤ 2000000) (hbase : base ≤ w.heap.size)
    (h : ∀ v' w', OwnsI w' base v' (l ++ new) → Below base w w' → K (a.put o.dst v') w') : if Region.wanted o (yielded ops a.tmps) = true then Oper.wp Try.prog o a w K Q else E := by
  have hw : Region.wanted o (yielded ops a.tmps) = true := by simp [Region.wanted, hgd]
  rw [if_pos hw]
  obtain ⟨i0, hi0, hz0, hz1, hz2⟩ := info_parts infoI
  rcases Nat.eq_zero_or_pos m with rfl | hp
  · obtain rfl : new = [] := List.eq_nil_of_length_eq_zero hm
    have hrun := run_append_zeroI (P := Try.prog) w 32 o.type 36 i0 3 Try.underlying32 hi0 v l.length (itL l) A c (OwnsI.mono hown (Nat.zero_le _))
    unfold Oper.wp
    simp [execOp, ho, resolve, invoke, builtin, hs, hx, hrun, Result.andThen]
    exact h v w (by simpa using hown) (Below.refl _ _)
  · obtain ⟨b, off, rfl, hat⟩ := hnew hp
    refine wp_append_own w s x 32 ho base 36 i0 _ 3 24 Try.underlying32 hi0 hz0 hz1 hz2 rfl (by omega) v l.length (itL l) hs hown ⟨b, off, none⟩ m c (itL new) hx (by rw [itL_length, hm]) hat.cells (itL_one new) (by simp only [maxLen]; omega) (by omega) hbase ?_
    intro v' w' hown' hgrow _
    refine h v' w' ?_ ((Below.refl _ _).grown hgrow hbase (fun k hk => (World.ownsRow.lt hown k hk).1))
    unfold OwnsI
    rw [itL_append, List.length_append, hm]
    exact hown'
theorem itemDel_at {l : List RV} (hl : Rise l) {j : Nat} {r : RV} (hr : l[j]? = some r) : itemDel r.c l = l.take j ++ l.drop (j + 1) := by
  induction l generalizing j with
  | nil => simp at hr
  | cons y ys ih =>
    obtain ⟨h1, h2⟩ := List.pairwise_cons.1 hl
    cases j with
    | zero =>
      simp at hr
      subst hr
      show List.filter _ _ = _
      rw [List.filter_cons_of_neg (by simp)]
      simp only [List.take_zero, List.drop_succ_cons, List.drop_zero, List.nil_append]
      exact List.filter_eq_self.2 (fun x hx => by have := h1 x hx; simp; omega)
    | succ j =>
      simp at hr
      have hy := h1 r (List.mem_of_getElem? hr)
      show List.filter _ _ = _
      rw [List.filter_cons_of_pos (by simp; omega)]
      simp only [List.take_succ_cons, List.drop_succ_cons, List.cons_append]
      exact congrArg (List.cons y) (ih h2 hr)
set_option maxRecDepth 20000 in
set_option maxHeartbeats 6400000 in
theorem sStoreDrop_any (ep : Int) (A : Option Addr) (c : Nat) (l : List RV) (epoch key ver : Int) (w : World) (hv : ItSl w (.slice A l.length c) l) (hc : l.length ≤ c) : Calls Try.prog 39 #[.agg #[.int .i64 ep, .slice A l.length c], .int .i64 epoch, .int .i64 key, .int .i64 ver] w (RetSA (storeDrop ep l epoch key ver) w) := by
  obtain ⟨A0, c0, heq, hA⟩ := hv.form
  simp only [Value.slice.injEq] at heq
  obtain ⟨rfl, -, rfl⟩ := heq
  have HA := Lib.hid hA
  have HV := Lib.hid hv
  have h0 := fun w h => sStoreOk_any ep (.slice A l.length c) l w h
  have h1 := fun w => l06Epoch_any epoch w
  have HE := Lib.hid (storeDrop_eq ep l epoch key ver)
  have HALL := Lib.hid (storeOk_all (epoch := ep) (l := l))
  generalize storeDrop ep l epoch key ver = ans at *
  generalize storeOk ep l = b1 at *
  generalize lWithin epoch 1 1000 = b2 at *
  have HE' := Lib.hid (HE.out _ _ rfl rfl)
  have H0 := Lib.hid h0
  have H1 := Lib.hid h1
  clear h0 h1 hv hA HE
  go_enter Try.func39, Try.ntmps39
  go_wp2_with fail
  have hX : Below w.heap.size w ((w.alloc (.cells #[.int .i64 ep, .slice A l.length c] 34)).alloc (.cells #[.int .i64 0, .slice none 0 0] 34)) := (by repeat' (first | exact Below.refl _ _ | refine Below.alloc ?_ ?_ _ | refine Below.setCell ?_ ?_ _ | refine Below.drew ?_ | (apply below_step; assumption) | (simp; done) | (simp; omega) | omega))
  refine (H0.out _ (HV.out.below hX)).mono ?_
  rintro e w1 ⟨rfl, hb1⟩
  have hz1 := hb1.size
  simp at hz1
  have hC1 := below_of hX hb1
  have SB1 := Lib.hid (((BlockIs.new w 34 #[.int .i64 ep, .slice A l.length c]).alloc (.cells #[.int .i64 0, .slice none 0 0] 34)).below hb1 (by simp; omega))
  have OB1 := Lib.hid ((BlockIs.new' (w := w.alloc (.cells #[.int .i64 ep, .slice A l.length c] 34)) (t := 34) (cs := #[.int .i64 0, .slice none 0 0]) (g := w.heap.size + 1) (by simp)).below hb1 (by simp))
  have s0 := SB1.out.cell 0
  have s1 := SB1.out.cell 1
  have d0 := OB1.out.cell 0
  have d1 := OB1.out.cell 1
  have df := OB1.out.frozen
  simp at s0 s1 d0 d1
  clear hX hb1
  cases b1
  · go_wp2_with fail
    refine bodyPost_ret (v := .tuple #[.agg #[.int .i64 0, .slice none 0 0], .int .i64 1]) (by simp [results, Try.results39, go_sem, d0, d1]) rfl ?_
    exact RetSA_bad (by rw [HE'.out]; simp) (by repeat' (first | exact Below.refl _ _ | refine Below.alloc ?_ ?_ _ | refine Below.setCell ?_ ?_ _ | refine Below.drew ?_ | (apply below_step; assumption) | (simp; done) | (simp; omega) | omega))
  go_wp2_with fail
  refine (H1.out _).mono ?_
  rintro e w2 ⟨rfl, rfl⟩
  cases b2
  · go_wp2_with fail
    refine bodyPost_ret (v := .tuple #[.agg #[.int .i64 0, .slice none 0 0], .int .i64 1]) (by simp [results, Try.results39, go_sem, d0, d1]) rfl ?_
    exact RetSA_bad (by rw [HE'.out]; simp) (by repeat' (first | exact Below.refl _ _ | refine Below.alloc ?_ ?_ _ | refine Below.setCell ?_ ?_ _ | refine Below.drew ?_ | (apply below_step; assumption) | (simp; done) | (simp; omega) | omega))
  obtain ⟨_, l20, _, hrise⟩ := HALL.out (by simp)
  have HRISE := Lib.hid hrise
  have HP := Lib.hid (show ans = dropGot ep l epoch key ver by rw [HE'.out]; simp)
  clear HE' H1 H0 HALL hrise
  generalize e1 : decide (epoch < ep) = bo
  cases bo
  rotate_left
  · go_wp2_with fail
    refine bodyPost_ret (v := .tuple #[.agg #[.int .i64 0, .slice none 0 0], .int .i64 3]) (by simp [results, Try.results39, go_sem, d0, d1]) rfl ?_
    exact RetSA_bad (HP.out.trans (dropGot_old (of_decide_eq_true e1))) (by repeat' (first | exact Below.refl _ _ | refine Below.alloc ?_ ?_ _ | refine Below.setCell ?_ ?_ _ | refine Below.drew ?_ | (apply below_step; assumption) | (simp; done) | (simp; omega) | omega))
  have N1 := Lib.hid (of_decide_eq_false e1)
  have hat := fun w h => l06At_any ep (.slice A l.length c) l key w h (by omega)
  have HX := Lib.hid (idx_spec key l 0)
  generalize idxFrom key l 0 = ix at *
  have HAT := Lib.hid hat
  clear hat
  go_wp2_with fail
  refine (HAT.out _ (HV.out.below hC1)).mono ?_
  rintro e w3 ⟨rfl, hb3⟩
  have hz3 := hb3.size
  have hC3 := below_of hC1 hb3
  have SB3 := Lib.hid (SB1.out.below hb3 SB1.out.lt)
  have OB3 := Lib.hid (OB1.out.below hb3 OB1.out.lt)
  clear s0 s1 d0 d1 df SB1 OB1 hb3 HAT
  have s1 := SB3.out.cell 1
  have sl := SB3.out.lt
  have d0 := OB3.out.cell 0
  have d1 := OB3.out.cell 1
  have df := OB3.out.frozen
  have dl := OB3.out.lt
  simp at s1 d0 d1
  rcases HX.out with ⟨rfl, hno⟩ | ⟨j, r, hj, hr, hit⟩
  · have HN := Lib.hid (itemAt_no hno)
    clear hno HX
    go_wp2_with fail
    refine bodyPost_ret (v := .tuple #[.agg #[.int .i64 0, .slice none 0 0], .int .i64 6]) (by simp [results, Try.results39, go_sem, d0, d1]) rfl ?_
    exact RetSA_bad (HP.out.trans (dropGot_none (by have := N1.out; omega) HN.out)) (by repeat' (first | exact Below.refl _ _ | refine Below.alloc ?_ ?_ _ | refine Below.setCell ?_ ?_ _ | refine Below.drew ?_ | (apply below_step; assumption) | (simp; done) | (simp; omega) | omega))
  have hjl : j < l.length := (List.getElem?_eq_some_iff.1 hr).1
  obtain ⟨b, off, rfl, hbw, hat⟩ := HA.out (by omega)
  obtain ⟨_, _, q2⟩ := (hat.below hC3 hbw) j r hr
  rw [Nat.zero_add] at hj
  subst hj
  have HN := Lib.hid hit
  have hrc : r.c = key := by
    have h := itemAt_has l key
    rw [hit] at h
    have := (itemAt_yes h.symm).2
    rw [hit] at this
    exact this
  have HDEL := Lib.hid (hrc ▸ itemDel_at HRISE.out hr)
  have HATT := Lib.hid hat
  have hlti : (j : Int) < (l.length : Int) := by omega
  have hn0 : decide ((j : Int) < 0) = false := decide_eq_false (by omega)
  have hne : (r.p != ver) = (ver != r.p) := bne_comm
  clear hr hat hit HX hrc
  generalize e2 : (ver != r.p) = bc at hne
  cases bc
  rotate_left
  · go_wp2_with fail
    refine bodyPost_ret (v := .tuple #[.agg #[.int .i64 0, .slice none 0 0], .int .i64 4]) (by simp [results, Try.results39, go_sem, d0, d1]) rfl ?_
    exact RetSA_bad (HP.out.trans (dropGot_clash (by have := N1.out; omega) HN.out (by simpa using e2))) (by repeat' (first | exact Below.refl _ _ | refine Below.alloc ?_ ?_ _ | refine Below.setCell ?_ ?_ _ | refine Below.drew ?_ | (apply below_step; assumption) | (simp; done) | (simp; omega) | omega))
  have HANS := Lib.hid (show ans = ⟨epoch, l.take j ++ l.drop (j + 1), 0⟩ by rw [HP.out, dropGot_fine (by have := N1.out; omega) HN.out (by simpa using e2), HDEL.out])
  have h1j : (j : Int) ≤ (l.length : Int) := by omega
  have h2j : (j : Int) + 1 ≤ (l.length : Int) := by omega
  have h3j : j ≤ c := by omega
  have h3i : (j : Int) ≤ (c : Int) := by omega
  have h4j : j + 1 ≤ l.length := by omega
  have h4i : (l.length : Int) ≤ (c : Int) := by omega
  have h5j : ((j : Int) + 1).toNat = j + 1 := by omega
  have h6j : IntKind.i64.wrap ((j : Int) + 1) = (j : Int) + 1 := by rw [IntKind.wrap_i64]; omega
  have h7j : (0 : Int) ≤ (j : Int) + 1 := by omega
  go_wp2_with fail
  go_region_law
    (first
      | (refine step_spread_item _ (by rfl) (.tmp 41) (.tmp 45) (by rfl) w3.heap.size (.slice (some ⟨w3.heap.size, 0, none⟩) 0 0) [] (by rfl) (by first | exact OwnsI.made _ rfl (Nat.le_refl _)) (some ⟨b, off, none⟩) j c (l.take j) (by rfl) (by rw [List.length_take]; omega) (fun _ => ⟨b, off, rfl, (HATT.out.below (B := w.heap.size) (by repeat' (first | exact Below.refl _ _ | refine Below.alloc ?_ ?_ _ | refine Below.setCell ?_ ?_ _ | refine Below.drew ?_ | (apply below_step; assumption) | (simp; done) | (simp; omega) | omega)) hbw).take j⟩) (by simp; omega) (by simp) ?_; intro v5 w5 hown5 hb5; have HO5 := Lib.hid hown5; have hz5 := hb5.size; (simp at hz5); have hB5 : Below w.heap.size w w5 := (Below.trans (b := w3.drew.alloc (.cells #[] 36)) (by repeat' (first | exact Below.refl _ _ | refine Below.alloc ?_ ?_ _ | refine Below.setCell ?_ ?_ _ | refine Below.drew ?_ | (apply below_step; assumption) | (simp; done) | (simp; omega) | omega)) (hb5.mono (by omega))); have s5 := (hb5.cell (p := ⟨w.heap.size, 1, none⟩) sl).trans (show (w3.drew.alloc (.cells #[] 36)).cell? ⟨w.heap.size, 1, none⟩ = _ from (World.cell?_alloc_lt _ _ _ sl).trans s1); have OB5 := Lib.hid (((OB3.out.below (w' := w3.drew) (B := w3.heap.size) (by repeat' (first | exact Below.refl _ _ | refine Below.alloc ?_ ?_ _ | refine Below.setCell ?_ ?_ _ | refine Below.drew ?_ | (apply below_step; assumption) | (simp; done) | (simp; omega) | omega)) dl).alloc _).below hb5 dl); clear hown5 hb5)
      | (refine step_spread_item _ (by rfl) (.tmp 46) (.tmp 51) (by rfl) w3.heap.size v5 (l.take j) (by rfl) HO5.out (if c = j + 1 then some ⟨b, off, none⟩ else some ⟨b, off + (j + 1) * 3, none⟩) (l.length - (j + 1)) (c - (j + 1)) (l.drop (j + 1)) (by rfl) (by rw [List.length_drop]) (fun hm => ⟨_, _, if_neg (by omega), (HATT.out.below (B := w.heap.size) hB5 hbw).drop (j + 1)⟩) (by rw [List.length_take]; omega) (by omega) ?_; intro v6 w6 hown6 hb6; obtain ⟨A6, c6, hv6⟩ := hown6.len; obtain ⟨n6, hn6⟩ : ∃ n, n = (l.take j ++ l.drop (j + 1)).length := ⟨_, rfl⟩; rw [← hn6] at hv6; subst hv6; clear hn6; have HO6 := Lib.hid hown6; have hz6 := hb6.size; have hB6 : Below w.heap.size w w6 := hB5.trans (hb6.mono (by omega)); have OB6 := OB5.out.below hb6 dl; have e0 := OB6.cell 0; have e1 := OB6.cell 1; have ef := OB6.frozen; (simp at e0 e1); clear hown6 hb6 OB6))
  all_goals go_wp2_with fail
  all_goals
    refine bodyPost_ret (v := .tuple #[.agg #[.int .i64 epoch, .slice A6 n6 c6], .int .i64 0]) (by simp [results, Try.results39, go_sem, e0, e1]) rfl ?_
    refine RetSA_fine HANS.out ?_ (by repeat' (first | exact Below.refl _ _ | refine Below.alloc ?_ ?_ _ | refine Below.setCell ?_ ?_ _ | refine Below.drew ?_ | (apply below_step; assumption) | (simp; done) | (simp; omega) | omega))
    refine OwnsI.mono (OwnsI.setCell (OwnsI.setCell HO6.out ?_ _) ?_ _) (by omega)
    · show w.heap.size + 1 < w3.heap.size; omega
    · show w.heap.size + 1 < w3.heap.size; omega
end Go.Proofs.Ytjammpcfihlfaaa
