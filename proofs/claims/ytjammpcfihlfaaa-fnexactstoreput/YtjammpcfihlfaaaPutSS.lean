/- The contract of the model's StorePut. -/
import Derived.Test.YtjammpcfihlfaaaPutW
import Derived.Test.YtjammpcfihlfaaaStoreS
namespace Go.Proofs.Ytjammpcfihlfaaa
open Go.RowKit Go.Maps

/-- Block g holds a store of epoch ep and the items out; of what was there nothing else has turned since Y. -/
def SAt (w Y : World) (g : Nat) (ep : Int) (out : List RV) (wr : World) : Prop :=
  Below w.heap.size w wr ∧ Y.heap.size ≤ wr.heap.size ∧ (∀ i, i < Y.heap.size → i ≠ g → wr.heap[i]? = Y.heap[i]?) ∧ ∃ v, BlockIs wr g 34 #[.int .i64 ep, v] ∧ OwnsI wr Y.heap.size v out
theorem SAt.push {w Y wr wd w' : World} {g : Nat} {ep : Int} {out out' : List RV} {o : Obj} {v' : Value} (h : SAt w Y g ep out wr) (hbw : Below wr.heap.size wr wd) (hb : Below Y.heap.size (wd.alloc o) w') (ho : OwnsI w' Y.heap.size v' out') (hg : g < Y.heap.size) (hw : w.heap.size ≤ g) :
    SAt w Y g ep out' (w'.setCell ⟨g, 1, none⟩ v') := by
  obtain ⟨h1, h2, h3, v, h4, _⟩ := h
  have z1 := hbw.size
  have z2 := hb.size
  have hA : Below Y.heap.size wr w' := (hbw.mono h2).trans (((Below.refl Y.heap.size wd).alloc (by omega) o).trans hb)
  have z3 := hA.size
  refine ⟨(h1.trans (hA.mono (by omega))).setCell (p := ⟨g, 1, none⟩) (by show w.heap.size ≤ g; omega) _, by simp [World.setCell]; omega, fun i hi hne => ?_, v', ?_, ho.setCell (a := ⟨g, 1, none⟩) hg _⟩
  · rw [Below.heap_setCell _ _ _ _ (by show i ≠ g; exact hne), hA.block i hi]
    exact h3 i hi hne
  · have := (h4.below hA hg).put 1 v'
    simpa using this
theorem SAt.drew {w Y wr wd : World} {g : Nat} {ep : Int} {out : List RV} (h : SAt w Y g ep out wr) (hbw : Below wr.heap.size wr wd) (hg : g < Y.heap.size) : SAt w Y g ep out wd := by
  obtain ⟨h1, h2, h3, v, h4, h5⟩ := h
  have z1 := hbw.size
  have z0 := h1.size
  exact ⟨below_of h1 hbw, by omega, fun i hi hne => (hbw.block i (by omega)).trans (h3 i hi hne), v, h4.below hbw h4.lt, h5.below hbw (Nat.le_refl _)⟩
/-- How far the model has come: what is out, whether x is in, what is left. -/
def PutTo (x : RV) (a out : List RV) (inn : Bool) (rest : List RV) : Prop :=
  (inn = false ∧ itemPut x a = out ++ itemPut x rest ∧ Rise rest) ∨ (inn = true ∧ itemPut x a = out ++ rest ∧ (∀ y ∈ rest, x.c < y.c) ∧ Rise rest)
theorem putTo_len {x : RV} {a out rest : List RV} {inn : Bool} (h : PutTo x a out inn rest) (ha : a.length ≤ 20) : out.length ≤ 21 := by
  have hl := itemPut_len x a
  rcases h with ⟨_, h, _⟩ | ⟨_, h, _⟩ <;> (rw [h, List.length_append] at hl; omega)
theorem putTo_same {x y : RV} {a out r : List RV} (h : PutTo x a out false (y :: r)) (hk : y.c = x.c) : PutTo x a (out ++ [x]) true r := by
  rcases h with ⟨_, h, hp⟩ | ⟨h, _⟩
  · obtain ⟨p1, p2⟩ := List.pairwise_cons.1 hp
    refine .inr ⟨rfl, ?_, fun z hz => by have := p1 z hz; omega, p2⟩
    rw [h]
    have : ¬ x.c < y.c := by omega
    simp [itemPut, hk]
  · cases h
theorem putTo_more {x y : RV} {a out r : List RV} (h : PutTo x a out false (y :: r)) (hk : x.c < y.c) : PutTo x a (out ++ [x] ++ [y]) true r := by
  rcases h with ⟨_, h, hp⟩ | ⟨h, _⟩
  · obtain ⟨p1, p2⟩ := List.pairwise_cons.1 hp
    refine .inr ⟨rfl, ?_, fun z hz => by have := p1 z hz; omega, p2⟩
    rw [h]
    simp [itemPut, hk]
  · cases h
theorem putTo_less {x y : RV} {a out r : List RV} (h : PutTo x a out false (y :: r)) (hk : y.c < x.c) : PutTo x a (out ++ [y]) false r := by
  rcases h with ⟨_, h, hp⟩ | ⟨h, _⟩
  · obtain ⟨p1, p2⟩ := List.pairwise_cons.1 hp
    refine .inl ⟨rfl, ?_, p2⟩
    rw [h]
    have h1 : ¬ x.c < y.c := by omega
    have h2 : ¬ x.c = y.c := by omega
    simp [itemPut, h1, h2]
  · cases h
theorem putTo_in {x y : RV} {a out r : List RV} (h : PutTo x a out true (y :: r)) : x.c < y.c ∧ PutTo x a (out ++ [y]) true r := by
  rcases h with ⟨h, _⟩ | ⟨_, h, hp, hr⟩
  · cases h
  · refine ⟨hp y (by simp), .inr ⟨rfl, ?_, fun z hz => hp z (by simp [hz]), (List.pairwise_cons.1 hr).2⟩⟩
    rw [h]; simp
theorem drop_next {l : List RV} {k : Nat} {y : RV} (hy : l[k]? = some y) : l.drop k = y :: l.drop (k + 1) := by
  have hk : k < l.length := (List.getElem?_eq_some_iff.1 hy).1
  rw [List.drop_eq_getElem_cons hk, (List.getElem?_eq_some_iff.1 hy).2]
set_option maxRecDepth 20000 in
set_option maxHeartbeats 6400000 in
theorem sStorePut_any (ep : Int) (v : Value) (l : List RV) (epoch : Int) (it : RV) (w : World) (hv : ItSl w v l) : Calls Try.prog 19 #[.agg #[.int .i64 ep, v], .int .i64 epoch, .agg #[.int .i64 it.c, .int .i64 it.m, .int .i64 it.p]] w (RetSA (storePut ep l epoch it) w) := by
  obtain ⟨A, c, rfl, hA⟩ := hv.form
  have HA := Lib.hid hA
  have HV := Lib.hid hv
  have h0 := fun w h => sStoreOk_any ep (.slice A l.length c) l w h
  have h1 := fun w => l06Epoch_any epoch w
  have h2 := fun w => l06Item_any it 0 w
  have HE := Lib.hid (storePut_eq ep l epoch it)
  have HIT := Lib.hid (itemIn_iff (r := it) (least := 0)).1
  have HALL := Lib.hid (storeOk_all (epoch := ep) (l := l))
  generalize storePut ep l epoch it = ans at *
  generalize storeOk ep l = b1 at *
  generalize lWithin epoch 1 1000 = b2 at *
  generalize itemIn it 0 = b3 at *
  have HE' := Lib.hid (HE.out _ _ _ rfl rfl rfl)
  have H0 := Lib.hid h0
  have H1 := Lib.hid h1
  have H2 := Lib.hid h2
  clear h0 h1 h2 hv hA HE
  go_enter Try.func19, Try.ntmps19
  go_wp2_with fail
  have hX : Below w.heap.size w (((w.alloc (.cells #[.int .i64 ep, .slice A l.length c] 34)).alloc (.cells #[.int .i64 it.c, .int .i64 it.m, .int .i64 it.p] 36)).alloc (.cells #[.int .i64 0, .slice none 0 0] 34)) := (by repeat' (first | exact Below.refl _ _ | refine Below.alloc ?_ ?_ _ | refine Below.setCell ?_ ?_ _ | refine Below.drew ?_ | (apply below_step; assumption) | (simp; done) | (simp; omega) | omega))
  refine (H0.out _ (HV.out.below hX)).mono ?_
  rintro e w1 ⟨rfl, hb1⟩
  have hz1 := hb1.size
  simp at hz1
  have hC1 := below_of hX hb1
  have SB1 := Lib.hid ((((BlockIs.new w 34 #[.int .i64 ep, .slice A l.length c]).alloc (.cells #[.int .i64 it.c, .int .i64 it.m, .int .i64 it.p] 36)).alloc (.cells #[.int .i64 0, .slice none 0 0] 34)).below hb1 (by simp; omega))
  have IB1 := Lib.hid (((BlockIs.new' (w := w.alloc (.cells #[.int .i64 ep, .slice A l.length c] 34)) (t := 36) (cs := #[.int .i64 it.c, .int .i64 it.m, .int .i64 it.p]) (g := w.heap.size + 1) (by simp)).alloc (.cells #[.int .i64 0, .slice none 0 0] 34)).below hb1 (by simp))
  have OB1 := Lib.hid ((BlockIs.new' (w := (w.alloc (.cells #[.int .i64 ep, .slice A l.length c] 34)).alloc (.cells #[.int .i64 it.c, .int .i64 it.m, .int .i64 it.p] 36)) (t := 34) (cs := #[.int .i64 0, .slice none 0 0]) (g := w.heap.size + 1 + 1) (by simp)).below hb1 (by simp))
  have i0 := IB1.out.cell 0
  have i1 := IB1.out.cell 1
  have i2 := IB1.out.cell 2
  have d0 := OB1.out.cell 0
  have d1 := OB1.out.cell 1
  have df := OB1.out.frozen
  simp at i0 i1 i2 d0 d1
  clear hX hb1
  cases b1
  · go_wp2_with fail
    refine bodyPost_ret (v := .tuple #[.agg #[.int .i64 0, .slice none 0 0], .int .i64 1]) (by simp [results, Try.results19, go_sem, d0, d1]) rfl ?_
    exact RetSA_bad (by rw [HE'.out]; simp) (by repeat' (first | exact Below.refl _ _ | refine Below.alloc ?_ ?_ _ | refine Below.setCell ?_ ?_ _ | refine Below.drew ?_ | (apply below_step; assumption) | (simp; done) | (simp; omega) | omega))
  go_wp2_with fail
  refine (H1.out _).mono ?_
  rintro e w2 ⟨rfl, rfl⟩
  cases b2
  · go_wp2_with fail
    refine bodyPost_ret (v := .tuple #[.agg #[.int .i64 0, .slice none 0 0], .int .i64 1]) (by simp [results, Try.results19, go_sem, d0, d1]) rfl ?_
    exact RetSA_bad (by rw [HE'.out]; simp) (by repeat' (first | exact Below.refl _ _ | refine Below.alloc ?_ ?_ _ | refine Below.setCell ?_ ?_ _ | refine Below.drew ?_ | (apply below_step; assumption) | (simp; done) | (simp; omega) | omega))
  go_wp2_with fail
  refine (H2.out _).mono ?_
  rintro e w2 ⟨rfl, hb2⟩
  have hz2 := hb2.size
  have hC2 := below_of hC1 hb2
  have SB2 := Lib.hid (SB1.out.below hb2 SB1.out.lt)
  have IB2 := Lib.hid (IB1.out.below hb2 IB1.out.lt)
  have OB2 := Lib.hid (OB1.out.below hb2 OB1.out.lt)
  clear i0 i1 i2 d0 d1 df SB1 IB1 OB1 hb2
  have s0 := SB2.out.cell 0
  have s1 := SB2.out.cell 1
  have i0 := IB2.out.cell 0
  have d0 := OB2.out.cell 0
  have d1 := OB2.out.cell 1
  have df := OB2.out.frozen
  simp at s0 s1 i0 d0 d1
  cases b3
  · go_wp2_with fail
    refine bodyPost_ret (v := .tuple #[.agg #[.int .i64 0, .slice none 0 0], .int .i64 1]) (by simp [results, Try.results19, go_sem, d0, d1]) rfl ?_
    exact RetSA_bad (by rw [HE'.out]; simp) (by repeat' (first | exact Below.refl _ _ | refine Below.alloc ?_ ?_ _ | refine Below.setCell ?_ ?_ _ | refine Below.drew ?_ | (apply below_step; assumption) | (simp; done) | (simp; omega) | omega))
  obtain ⟨⟨j1, j2⟩, _, j3, j4⟩ := HIT.out (by simp)
  obtain ⟨_, l20, _, hrise⟩ := HALL.out (by simp)
  have HRISE := Lib.hid hrise
  have HP := Lib.hid (show ans = putGot ep l epoch it by rw [HE'.out]; simp)
  clear HE' HIT H1 H2 H0 HALL hrise
  generalize e1 : decide (epoch < ep) = bo
  cases bo
  rotate_left
  · go_wp2_with fail
    refine bodyPost_ret (v := .tuple #[.agg #[.int .i64 0, .slice none 0 0], .int .i64 3]) (by simp [results, Try.results19, go_sem, d0, d1]) rfl ?_
    exact RetSA_bad (HP.out.trans (putGot_old (of_decide_eq_true e1))) (by repeat' (first | exact Below.refl _ _ | refine Below.alloc ?_ ?_ _ | refine Below.setCell ?_ ?_ _ | refine Below.drew ?_ | (apply below_step; assumption) | (simp; done) | (simp; omega) | omega))
  have N1 := Lib.hid (of_decide_eq_false e1)
  have hat := fun w h => l06At_any ep (.slice A l.length c) l it.c w h (by omega)
  have HX := Lib.hid (idx_spec it.c l 0)
  generalize idxFrom it.c l 0 = ix at *
  have HAT := Lib.hid hat
  clear hat
  go_wp2_with fail
  refine (HAT.out _ (HV.out.below hC2)).mono ?_
  rintro e w3 ⟨rfl, hb3⟩
  have hz3 := hb3.size
  have hC3 := below_of hC2 hb3
  have SB3 := Lib.hid (SB2.out.below hb3 SB2.out.lt)
  have IB3 := Lib.hid (IB2.out.below hb3 IB2.out.lt)
  have OB3 := Lib.hid (OB2.out.below hb3 OB2.out.lt)
  clear s0 s1 i0 d0 d1 df SB2 IB2 OB2 hb3 HAT
  have s1 := SB3.out.cell 1
  have sl := SB3.out.lt
  have i0 := IB3.out.cell 0
  have i1 := IB3.out.cell 1
  have i2 := IB3.out.cell 2
  have jf := IB3.out.frozen
  have il := IB3.out.lt
  have d0 := OB3.out.cell 0
  have d1 := OB3.out.cell 1
  have df := OB3.out.frozen
  have dl := OB3.out.lt
  simp at s1 i0 i1 i2 d0 d1
  rcases HX.out with ⟨rfl, hno⟩ | ⟨j, r, hj, hr, hit⟩
  · have HN := Lib.hid (itemAt_no hno)
    clear hno HX
    have hne : ((0 : Int) != it.p) = (it.p != 0) := bne_comm
    generalize e2 : (it.p != 0) = bc at hne
    cases bc
    rotate_left
    · go_wp2_with fail
      refine bodyPost_ret (v := .tuple #[.agg #[.int .i64 0, .slice none 0 0], .int .i64 4]) (by simp [results, Try.results19, go_sem, d0, d1]) rfl ?_
      exact RetSA_bad (HP.out.trans (putGot_clash (by have := N1.out; omega) HN.out (by simpa [RV.zero] using e2))) (by repeat' (first | exact Below.refl _ _ | refine Below.alloc ?_ ?_ _ | refine Below.setCell ?_ ?_ _ | refine Below.drew ?_ | (apply below_step; assumption) | (simp; done) | (simp; omega) | omega))
    have N2 := Lib.hid (show it.p = RV.zero.p by simpa [RV.zero] using e2)
    have hnn : ((l.length : Int) == 20) = decide (l.length = 20) := by
      by_cases h : l.length = 20
      · simp [h]
      · have : ¬ (l.length : Int) = 20 := by omega
        simp [h, this]
    generalize e3 : decide (l.length = 20) = bf at hnn
    cases bf
    rotate_left
    · go_wp2_with fail
      refine bodyPost_ret (v := .tuple #[.agg #[.int .i64 0, .slice none 0 0], .int .i64 5]) (by simp [results, Try.results19, go_sem, d0, d1]) rfl ?_
      exact RetSA_bad (HP.out.trans (putGot_full (by have := N1.out; omega) HN.out N2.out (.inl ⟨rfl, of_decide_eq_true e3⟩))) (by repeat' (first | exact Below.refl _ _ | refine Below.alloc ?_ ?_ _ | refine Below.setCell ?_ ?_ _ | refine Below.drew ?_ | (apply below_step; assumption) | (simp; done) | (simp; omega) | omega))
    have HANS := Lib.hid (show ans = ⟨epoch, itemPut ⟨it.c, it.m, 1⟩ l, 0⟩ by rw [HP.out, putGot_fine (by have := N1.out; omega) HN.out N2.out (fun h => absurd h.2 (of_decide_eq_false e3)) (by have := N2.out; simp [RV.zero] at this; omega), N2.out]; rfl)
    have hYb : Below w.heap.size w ((w3.setCell ⟨w.heap.size + 1, 2, none⟩ (.int .i64 1)).alloc (.cells #[.int .i64 epoch, .slice none 0 0] 34)) := (by repeat' (first | exact Below.refl _ _ | refine Below.alloc ?_ ?_ _ | refine Below.setCell ?_ ?_ _ | refine Below.drew ?_ | (apply below_step; assumption) | (simp; done) | (simp; omega) | omega))
    have hYz : ((w3.setCell ⟨w.heap.size + 1, 2, none⟩ (.int .i64 1)).alloc (.cells #[.int .i64 epoch, .slice none 0 0] 34)).heap.size = w3.heap.size + 1 := by simp [World.setCell]
    have SBY := Lib.hid ((SB3.out.far (p := ⟨w.heap.size + 1, 2, none⟩) (by show w.heap.size ≠ w.heap.size + 1; omega) (.int .i64 1)).alloc (.cells #[.int .i64 epoch, .slice none 0 0] 34))
    have IBY := Lib.hid ((IB3.out.put 2 (.int .i64 1)).alloc (.cells #[.int .i64 epoch, .slice none 0 0] 34))
    have OBY := Lib.hid ((OB3.out.far (p := ⟨w.heap.size + 1, 2, none⟩) (by show w.heap.size + 1 + 1 ≠ w.heap.size + 1; omega) (.int .i64 1)).alloc (.cells #[.int .i64 epoch, .slice none 0 0] 34))
    have GBY := Lib.hid (BlockIs.new' (w := w3.setCell ⟨w.heap.size + 1, 2, none⟩ (.int .i64 1)) (t := 34) (cs := #[.int .i64 epoch, .slice none 0 0]) (g := w3.heap.size) (by simp [World.setCell]))
    simp at IBY
    go_wp2_with fail
    generalize ((w3.setCell ⟨w.heap.size + 1, 2, none⟩ (.int .i64 1)).alloc (.cells #[.int .i64 epoch, .slice none 0 0] 34)) = Y at hYb hYz SBY IBY OBY GBY ⊢
    have HYZ := Lib.hid hYz
    clear hYz s1 sl i0 i1 i2 jf il d0 d1 df dl SB3 IB3 OB3
    go_loopw [11, 12] (fun s11 s12 wr => ∃ (k : Nat) (out : List RV) (inn : Bool), k ≤ l.length ∧ s12 = .int .i64 k ∧ s11 = .bool inn ∧ PutTo ⟨it.c, it.m, 1⟩ l out inn (l.drop k) ∧ SAt w Y w3.heap.size epoch out wr) (fun _ s12 _ => (l.length - RowKit.intOf s12).toNat)
    case atStart =>
      exact ⟨0, [], false, by omega, rfl, rfl, .inl ⟨rfl, by simp, HRISE.out⟩, hYb, Nat.le_refl _, fun _ _ _ => rfl, _, GBY.out, OwnsI.nil _ _⟩
    case round =>
      obtain ⟨k, out, inn, hk, rfl, rfl, hst, hsat⟩ := hrel
      have hol := putTo_len hst l20
      have HST := Lib.hid hst
      clear hst
      have HSAT := Lib.hid hsat
      obtain ⟨hB, hzr, hsame, u, hblk, hown⟩ := hsat
      have z1 := HYZ.out
      have SBr : BlockIs wr w.heap.size 34 #[.int .i64 ep, .slice A l.length c] := (hsame w.heap.size (by omega) (by omega)).trans SBY.out
      have IBr : BlockIs wr (w.heap.size + 1) 36 #[.int .i64 it.c, .int .i64 it.m, .int .i64 1] := (hsame (w.heap.size + 1) (by omega) (by omega)).trans IBY.out
      have OBr : BlockIs wr (w.heap.size + 1 + 1) 34 #[.int .i64 0, .slice none 0 0] := (hsame (w.heap.size + 1 + 1) (by omega) (by omega)).trans OBY.out
      have HOB := Lib.hid OBr
      have HGB := Lib.hid hblk
      have HOW := Lib.hid hown
      have s1 := SBr.cell 1
      have i0 := IBr.cell 0
      have i1 := IBr.cell 1
      have i2 := IBr.cell 2
      have g0 := hblk.cell 0
      have g1 := hblk.cell 1
      have gf := hblk.frozen
      have gl := hblk.lt
      have sl := SBr.lt
      have il := IBr.lt
      have g3 : w3.heap.size < Y.heap.size := by omega
      have gw : w.heap.size ≤ w3.heap.size := by omega
      have hwr := hB.size
      simp at s1 i0 i1 i2 g0 g1
      have ga : ∀ n o, ((wr.drewN n).alloc o).cell? ⟨w3.heap.size, 1, none⟩ = some u := fun n o => (World.cell?_alloc_lt _ _ _ (show w3.heap.size < wr.heap.size from gl)).trans g1
      have GFA := Lib.hid (show ∀ n o x, ((wr.drewN n).alloc o).frozen? ⟨w3.heap.size, x, none⟩ = false from fun n o x => (((HGB.out.below (B := wr.heap.size) (below_drewN (Below.refl _ _) n) gl).alloc o).frozen x))
      clear SBr IBr OBr hblk hown hsame z1
      by_cases hlt : k < l.length
      · obtain ⟨b, off, rfl, hbw, hat⟩ := HA.out (by omega)
        obtain ⟨y, hy⟩ : ∃ r, l[k]? = some r := ⟨_, List.getElem?_eq_getElem hlt⟩
        obtain ⟨q0, q1, q2⟩ := (hat.below hB hbw) k y hy
        have HD := Lib.hid (drop_next hy)
        have hlti : (k : Int) < (l.length : Int) := by omega
        have hbr : b < wr.heap.size := by omega
        have HAT := Lib.hid hat
        have HY := Lib.hid hy
        clear hat hy
        cases inn
        · have HST' : Hid (PutTo ⟨it.c, it.m, 1⟩ l out false (y :: l.drop (k + 1))) := by
            show PutTo _ _ _ _ _
            rw [← HD.out]; exact HST.out
          rcases Int.lt_trichotomy y.c it.c with hc | hc | hc
          · have HN := Lib.hid (putTo_less HST'.out hc)
            have hne : (y.c != it.c) = true := by simp; omega
            have b1 : decide (it.c ≤ y.c) = false := by simp; omega
            clear hc
            go_wp2_with fail
            go_quiet (fail)
            go_wp2_with fail
            go_quiet (fail)
            go_wp2_with fail
            go_region_law
              (refine step_append_item _ (by rfl) (.tmp 103) (.tmp 109) (by rfl) Y.heap.size _ out y wr.heap.size (by rfl) (HOW.out.below (B := wr.heap.size) (by repeat' (first | exact Below.refl _ _ | refine Below.alloc ?_ ?_ _ | refine Below.setCell ?_ ?_ _ | refine Below.drew ?_ | refine below_drewN ?_ _ | (apply below_step; assumption) | (simp; done) | (simp; omega) | omega)) (Nat.le_refl _)) (by rfl) (by first | (simp; done) | exact (BlockIs.new' rfl).cell 0) (by first | (simp; done) | exact (BlockIs.new' rfl).cell 1) (by first | (simp; done) | exact (BlockIs.new' rfl).cell 2) (by first | omega | (simp; omega)) (by first | omega | (simp; omega)) ?_; intro v' w' hown' hb'; obtain ⟨A', c', rfl⟩ := hown'.len; have HO' := Lib.hid (And.intro hown' hb'); have k1 := (hb'.cell (p := ⟨w3.heap.size, 1, none⟩) g3).trans (ga _ _); have kf : ∀ x, w'.frozen? ⟨w3.heap.size, x, none⟩ = false := fun x => (hb'.frozen (p := ⟨w3.heap.size, x, none⟩) g3).trans (GFA.out _ _ x); clear hown' hb')
            all_goals
              go_wp2_with fail
              go_roundw
              case rel =>
                refine ⟨k + 1, out ++ [y], false, by omega, by go_num, rfl, HN.out, SAt.push HSAT.out (below_drewN (Below.refl _ _) _) HO'.out.2 ?_ g3 gw⟩
                have ho := HO'.out.1
                rw [show (out ++ [y]).length = out.length + 1 by simp] at ho
                exact ho
              case measure => simp [RowKit.intOf]; omega
          · have HN := Lib.hid (putTo_same HST'.out hc)
            have hne : (y.c != it.c) = false := by simp; omega
            have b1 : decide (it.c ≤ y.c) = true := by simp; omega
            clear hc
            go_wp2_with fail
            go_quiet (fail)
            go_wp2_with (at_builtin; refine wpList_append_item _ rfl (.tmp 88) (.tmp 90) rfl Y.heap.size _ out ⟨it.c, it.m, 1⟩ wr.heap.size rfl (HOW.out.below (B := wr.heap.size) (by repeat' (first | exact Below.refl _ _ | refine Below.alloc ?_ ?_ _ | refine Below.setCell ?_ ?_ _ | refine Below.drew ?_ | refine below_drewN ?_ _ | (apply below_step; assumption) | (simp; done) | (simp; omega) | omega)) (Nat.le_refl _)) rfl (by first | (simp; done) | exact (BlockIs.new' rfl).cell 0) (by first | (simp; done) | exact (BlockIs.new' rfl).cell 1) (by first | (simp; done) | exact (BlockIs.new' rfl).cell 2) (by omega) (by first | omega | (simp; omega) | (show _ ≤ (wr.heap.push _).size; simp; omega)) ?_; intro v' w' hown' hb'; obtain ⟨A', c', rfl⟩ := hown'.len; have HO' := Lib.hid (And.intro hown' hb'); have k1 := (hb'.cell (p := ⟨w3.heap.size, 1, none⟩) g3).trans (ga _ _); have kf : ∀ x, w'.frozen? ⟨w3.heap.size, x, none⟩ = false := fun x => (hb'.frozen (p := ⟨w3.heap.size, x, none⟩) g3).trans (GFA.out _ _ x); clear hown' hb')
            have ho := HO'.out.1
            rw [show (out ++ [(⟨it.c, it.m, 1⟩ : RV)]).length = out.length + 1 by simp] at ho
            have hsat := SAt.push HSAT.out (below_drewN (Below.refl _ _) _) HO'.out.2 ho g3 gw
            clear ho HO'
            generalize (w'.setCell ⟨w3.heap.size, 1, none⟩ (.slice A' (out.length + 1) c')) = X at hsat ⊢
            clear HSAT hB hzr HOB HGB HOW s1 i0 i1 i2 g0 g1 gf gl sl il g3 gw hwr ga GFA q0 q1 q2 k1 kf
            have HSAT := Lib.hid hsat
            obtain ⟨hB, hzr, hsame, u, hblk, hown⟩ := hsat
            have z1 := HYZ.out
            have SBr : BlockIs X w.heap.size 34 #[.int .i64 ep, .slice (some ⟨b, off, none⟩) l.length c] := (hsame w.heap.size (by omega) (by omega)).trans SBY.out
            have IBr : BlockIs X (w.heap.size + 1) 36 #[.int .i64 it.c, .int .i64 it.m, .int .i64 1] := (hsame (w.heap.size + 1) (by omega) (by omega)).trans IBY.out
            have OBr : BlockIs X (w.heap.size + 1 + 1) 34 #[.int .i64 0, .slice none 0 0] := (hsame (w.heap.size + 1 + 1) (by omega) (by omega)).trans OBY.out
            have HOB := Lib.hid OBr
            have HGB := Lib.hid hblk
            have HOW := Lib.hid hown
            have s1 := SBr.cell 1
            have i0 := IBr.cell 0
            have i1 := IBr.cell 1
            have i2 := IBr.cell 2
            have g0 := hblk.cell 0
            have g1 := hblk.cell 1
            have gf := hblk.frozen
            have gl := hblk.lt
            have sl := SBr.lt
            have il := IBr.lt
            have g3 : w3.heap.size < Y.heap.size := by omega
            have gw : w.heap.size ≤ w3.heap.size := by omega
            have hwr := hB.size
            simp at s1 i0 i1 i2 g0 g1
            have ga : ∀ n o, ((X.drewN n).alloc o).cell? ⟨w3.heap.size, 1, none⟩ = some u := fun n o => (World.cell?_alloc_lt _ _ _ (show w3.heap.size < X.heap.size from gl)).trans g1
            have GFA := Lib.hid (show ∀ n o x, ((X.drewN n).alloc o).frozen? ⟨w3.heap.size, x, none⟩ = false from fun n o x => (((HGB.out.below (B := X.heap.size) (below_drewN (Below.refl _ _) n) gl).alloc o).frozen x))
            clear SBr IBr OBr hblk hown hsame z1
            obtain ⟨q0, q1, q2⟩ := (HAT.out.below hB hbw) k y HY.out
            go_quiet (fail)
            go_wp2_with fail
            go_roundw
            case rel =>
              exact ⟨k + 1, _, true, by omega, by go_num, rfl, HN.out, SAt.drew HSAT.out (below_drewN (Below.refl _ _) _) g3⟩
            case measure => simp [RowKit.intOf]; omega
          · have HN := Lib.hid (putTo_more HST'.out hc)
            have hne : (y.c != it.c) = true := by simp; omega
            have b1 : decide (it.c ≤ y.c) = true := by simp; omega
            clear hc
            go_wp2_with fail
            go_quiet (fail)
            go_wp2_with (at_builtin; refine wpList_append_item _ rfl (.tmp 88) (.tmp 90) rfl Y.heap.size _ out ⟨it.c, it.m, 1⟩ wr.heap.size rfl (HOW.out.below (B := wr.heap.size) (by repeat' (first | exact Below.refl _ _ | refine Below.alloc ?_ ?_ _ | refine Below.setCell ?_ ?_ _ | refine Below.drew ?_ | refine below_drewN ?_ _ | (apply below_step; assumption) | (simp; done) | (simp; omega) | omega)) (Nat.le_refl _)) rfl (by first | (simp; done) | exact (BlockIs.new' rfl).cell 0) (by first | (simp; done) | exact (BlockIs.new' rfl).cell 1) (by first | (simp; done) | exact (BlockIs.new' rfl).cell 2) (by omega) (by first | omega | (simp; omega) | (show _ ≤ (wr.heap.push _).size; simp; omega)) ?_; intro v' w' hown' hb'; obtain ⟨A', c', rfl⟩ := hown'.len; have HO' := Lib.hid (And.intro hown' hb'); have k1 := (hb'.cell (p := ⟨w3.heap.size, 1, none⟩) g3).trans (ga _ _); have kf : ∀ x, w'.frozen? ⟨w3.heap.size, x, none⟩ = false := fun x => (hb'.frozen (p := ⟨w3.heap.size, x, none⟩) g3).trans (GFA.out _ _ x); clear hown' hb')
            have ho := HO'.out.1
            rw [show (out ++ [(⟨it.c, it.m, 1⟩ : RV)]).length = out.length + 1 by simp] at ho
            have hsat := SAt.push HSAT.out (below_drewN (Below.refl _ _) _) HO'.out.2 ho g3 gw
            clear ho HO'
            generalize (w'.setCell ⟨w3.heap.size, 1, none⟩ (.slice A' (out.length + 1) c')) = X at hsat ⊢
            clear HSAT hB hzr HOB HGB HOW s1 i0 i1 i2 g0 g1 gf gl sl il g3 gw hwr ga GFA q0 q1 q2 k1 kf
            have HSAT := Lib.hid hsat
            obtain ⟨hB, hzr, hsame, u, hblk, hown⟩ := hsat
            have z1 := HYZ.out
            have SBr : BlockIs X w.heap.size 34 #[.int .i64 ep, .slice (some ⟨b, off, none⟩) l.length c] := (hsame w.heap.size (by omega) (by omega)).trans SBY.out
            have IBr : BlockIs X (w.heap.size + 1) 36 #[.int .i64 it.c, .int .i64 it.m, .int .i64 1] := (hsame (w.heap.size + 1) (by omega) (by omega)).trans IBY.out
            have OBr : BlockIs X (w.heap.size + 1 + 1) 34 #[.int .i64 0, .slice none 0 0] := (hsame (w.heap.size + 1 + 1) (by omega) (by omega)).trans OBY.out
            have HOB := Lib.hid OBr
            have HGB := Lib.hid hblk
            have HOW := Lib.hid hown
            have s1 := SBr.cell 1
            have i0 := IBr.cell 0
            have i1 := IBr.cell 1
            have i2 := IBr.cell 2
            have g0 := hblk.cell 0
            have g1 := hblk.cell 1
            have gf := hblk.frozen
            have gl := hblk.lt
            have sl := SBr.lt
            have il := IBr.lt
            have g3 : w3.heap.size < Y.heap.size := by omega
            have gw : w.heap.size ≤ w3.heap.size := by omega
            have hwr := hB.size
            simp at s1 i0 i1 i2 g0 g1
            have ga : ∀ n o, ((X.drewN n).alloc o).cell? ⟨w3.heap.size, 1, none⟩ = some u := fun n o => (World.cell?_alloc_lt _ _ _ (show w3.heap.size < X.heap.size from gl)).trans g1
            have GFA := Lib.hid (show ∀ n o x, ((X.drewN n).alloc o).frozen? ⟨w3.heap.size, x, none⟩ = false from fun n o x => (((HGB.out.below (B := X.heap.size) (below_drewN (Below.refl _ _) n) gl).alloc o).frozen x))
            clear SBr IBr OBr hblk hown hsame z1
            obtain ⟨q0, q1, q2⟩ := (HAT.out.below hB hbw) k y HY.out
            go_quiet (fail)
            go_wp2_with fail
            go_region_law
              (refine step_append_item _ (by rfl) (.tmp 103) (.tmp 109) (by rfl) Y.heap.size _ (out ++ [(⟨it.c, it.m, 1⟩ : RV)]) y X.heap.size (by rfl) (HOW.out.below (B := X.heap.size) (by repeat' (first | exact Below.refl _ _ | refine Below.alloc ?_ ?_ _ | refine Below.setCell ?_ ?_ _ | refine Below.drew ?_ | refine below_drewN ?_ _ | (apply below_step; assumption) | (simp; done) | (simp; omega) | omega)) (Nat.le_refl _)) (by rfl) (by first | (simp; done) | exact (BlockIs.new' rfl).cell 0) (by first | (simp; done) | exact (BlockIs.new' rfl).cell 1) (by first | (simp; done) | exact (BlockIs.new' rfl).cell 2) (by first | omega | (simp; omega)) (by first | omega | (simp; omega)) ?_; intro v' w' hown' hb'; obtain ⟨A', c', rfl⟩ := hown'.len; have HO' := Lib.hid (And.intro hown' hb'); have k1 := (hb'.cell (p := ⟨w3.heap.size, 1, none⟩) g3).trans (ga _ _); have kf : ∀ x, w'.frozen? ⟨w3.heap.size, x, none⟩ = false := fun x => (hb'.frozen (p := ⟨w3.heap.size, x, none⟩) g3).trans (GFA.out _ _ x); clear hown' hb')
            all_goals
              go_wp2_with fail
              go_roundw
              case rel =>
                refine ⟨k + 1, (out ++ [(⟨it.c, it.m, 1⟩ : RV)]) ++ [y], true, by omega, by go_num, rfl, HN.out, SAt.push HSAT.out (below_drewN (Below.refl _ _) _) HO'.out.2 ?_ g3 gw⟩
                have ho := HO'.out.1
                rw [show ((out ++ [(⟨it.c, it.m, 1⟩ : RV)]) ++ [y]).length = out.length + 1 + 1 by simp] at ho
                exact ho
              case measure => simp [RowKit.intOf]; omega
        · have HN := Lib.hid (putTo_in (by rw [← HD.out]; exact HST.out))
          have hne : (y.c != it.c) = true := by have := HN.out.1; simp; dsimp only at this; omega
          go_wp2_with fail
          go_quiet (fail)
          go_wp2_with fail
          go_quiet (fail)
          go_wp2_with fail
          go_region_law
            (refine step_append_item _ (by rfl) (.tmp 103) (.tmp 109) (by rfl) Y.heap.size _ out y wr.heap.size (by rfl) (HOW.out.below (B := wr.heap.size) (by repeat' (first | exact Below.refl _ _ | refine Below.alloc ?_ ?_ _ | refine Below.setCell ?_ ?_ _ | refine Below.drew ?_ | refine below_drewN ?_ _ | (apply below_step; assumption) | (simp; done) | (simp; omega) | omega)) (Nat.le_refl _)) (by rfl) (by first | (simp; done) | exact (BlockIs.new' rfl).cell 0) (by first | (simp; done) | exact (BlockIs.new' rfl).cell 1) (by first | (simp; done) | exact (BlockIs.new' rfl).cell 2) (by first | omega | (simp; omega)) (by first | omega | (simp; omega)) ?_; intro v' w' hown' hb'; obtain ⟨A', c', rfl⟩ := hown'.len; have HO' := Lib.hid (And.intro hown' hb'); have k1 := (hb'.cell (p := ⟨w3.heap.size, 1, none⟩) g3).trans (ga _ _); have kf : ∀ x, w'.frozen? ⟨w3.heap.size, x, none⟩ = false := fun x => (hb'.frozen (p := ⟨w3.heap.size, x, none⟩) g3).trans (GFA.out _ _ x); clear hown' hb')
          all_goals
            go_wp2_with fail
            go_roundw
            case rel =>
              refine ⟨k + 1, out ++ [y], true, by omega, by go_num, rfl, HN.out.2, SAt.push HSAT.out (below_drewN (Below.refl _ _) _) HO'.out.2 ?_ g3 gw⟩
              have ho := HO'.out.1
              rw [show (out ++ [y]).length = out.length + 1 by simp] at ho
              exact ho
            case measure => simp [RowKit.intOf]; omega
      · have HST' : Hid (PutTo ⟨it.c, it.m, 1⟩ l out inn []) := by
          show PutTo _ _ _ _ _
          rw [← List.drop_length (l := l), ← show k = l.length by omega]; exact HST.out
        have hki : ¬ (k : Int) < (l.length : Int) := by omega
        cases inn
        · have HE : Hid (itemPut ⟨it.c, it.m, 1⟩ l = out ++ [⟨it.c, it.m, 1⟩]) := by
            show _ = _
            rcases HST'.out with ⟨_, h, _⟩ | ⟨h, _⟩
            · exact h
            · cases h
          go_wp2_with (at_builtin; refine wpList_append_item _ rfl (.tmp 115) (.tmp 117) rfl Y.heap.size _ out ⟨it.c, it.m, 1⟩ wr.heap.size rfl (HOW.out.alloc _) rfl (by simp) (by simp) (by simp) (by omega) (by simp; omega) ?_; intro v' w' hown' hb'; obtain ⟨A', c', rfl⟩ := hown'.len; have HO' := Lib.hid hown'; have hB' : Below w.heap.size w w' := ((hB.alloc (by omega) _).trans (hb'.mono (by omega))); have hz' := hb'.size; (simp at hz'); have GB' := (HGB.out.alloc (.cells #[.int .i64 it.c, .int .i64 it.m, .int .i64 1] 36)).below hb' g3; have k0 := GB'.cell 0; have k1 := GB'.cell 1; have kf := GB'.frozen; have OB' := (HOB.out.alloc (.cells #[.int .i64 it.c, .int .i64 it.m, .int .i64 1] 36)).below hb' (by omega); have d0 := OB'.cell 0; have d1 := OB'.cell 1; have df := OB'.frozen; (simp at k0 k1 d0 d1); have dne : ¬ w.heap.size + 1 + 1 = w3.heap.size := (by omega); have dne' : ¬ w3.heap.size = w.heap.size + 1 + 1 := (by omega); clear hown' hb' GB' OB')
          refine bodyPost_ret (v := .tuple #[.agg #[.int .i64 epoch, .slice A' (out.length + 1) c'], .int .i64 0]) (by simp [results, Try.results19, go_sem, d0, d1, dne, dne']) rfl ?_
          have ho := HO'.out
          rw [show (out ++ [(⟨it.c, it.m, 1⟩ : RV)]).length = out.length + 1 by simp, ← HE.out] at ho
          refine RetSA_fine HANS.out ?_ (by repeat' (first | exact Below.refl _ _ | refine Below.alloc ?_ ?_ _ | refine Below.setCell ?_ ?_ _ | refine Below.drew ?_ | (apply below_step; assumption) | (simp; done) | (simp; omega) | omega))
          refine OwnsI.mono (OwnsI.setCell (OwnsI.setCell (OwnsI.setCell ho ?_ _) ?_ _) ?_ _) (by omega)
          · show w3.heap.size < Y.heap.size; omega
          · show w.heap.size + 1 + 1 < Y.heap.size; omega
          · show w.heap.size + 1 + 1 < Y.heap.size; omega
        · have HE : Hid (itemPut ⟨it.c, it.m, 1⟩ l = out) := by
            show _ = _
            rcases HST'.out with ⟨h, _⟩ | ⟨_, h, _⟩
            · cases h
            · rw [h]; simp
          obtain ⟨Au, cu, hu⟩ := HOW.out.len
          subst hu
          have d0 := HOB.out.cell 0
          have d1 := HOB.out.cell 1
          have df := HOB.out.frozen
          have dl := HOB.out.lt
          simp at d0 d1
          go_wp2_with fail
          refine bodyPost_ret (v := .tuple #[.agg #[.int .i64 epoch, .slice Au out.length cu], .int .i64 0]) (by simp [results, Try.results19, go_sem, d0, d1]) rfl ?_
          refine RetSA_fine (HANS.out.trans (by rw [HE.out])) ?_ (by repeat' (first | exact Below.refl _ _ | refine Below.alloc ?_ ?_ _ | refine Below.setCell ?_ ?_ _ | refine Below.drew ?_ | (apply below_step; assumption) | (simp; done) | (simp; omega) | omega))
          refine OwnsI.mono (OwnsI.setCell (OwnsI.setCell HOW.out ?_ _) ?_ _) (by omega)
          · show w.heap.size + 1 + 1 < Y.heap.size; omega
          · show w.heap.size + 1 + 1 < Y.heap.size; omega
  · have hjl : j < l.length := (List.getElem?_eq_some_iff.1 hr).1
    obtain ⟨b, off, rfl, hbw, hat⟩ := HA.out (by omega)
    obtain ⟨_, _, q2⟩ := (hat.below hC3 hbw) j r hr
    rw [Nat.zero_add] at hj
    subst hj
    have HN := Lib.hid hit
    have hlti : (j : Int) < (l.length : Int) := by omega
    have hn0 : decide ((j : Int) < 0) = false := decide_eq_false (by omega)
    have hg0 : decide ((0 : Int) ≤ (j : Int)) = true := decide_eq_true (by omega)
    have hne : (r.p != it.p) = (it.p != r.p) := bne_comm
    clear hr hat hit HX
    generalize e2 : (it.p != r.p) = bc at hne
    cases bc
    rotate_left
    · go_wp2_with fail
      refine bodyPost_ret (v := .tuple #[.agg #[.int .i64 0, .slice none 0 0], .int .i64 4]) (by simp [results, Try.results19, go_sem, d0, d1]) rfl ?_
      exact RetSA_bad (HP.out.trans (putGot_clash (by have := N1.out; omega) HN.out (by simpa using e2))) (by repeat' (first | exact Below.refl _ _ | refine Below.alloc ?_ ?_ _ | refine Below.setCell ?_ ?_ _ | refine Below.drew ?_ | (apply below_step; assumption) | (simp; done) | (simp; omega) | omega))
    have N2 := Lib.hid (show it.p = r.p by simpa using e2)
    have r0 : 0 ≤ r.p := by have := N2.out; omega
    have r1 : r.p ≤ 1000000 := by have := N2.out; omega
    generalize e3 : (r.p == 1000000) = bf
    cases bf
    rotate_left
    · go_wp2_with fail
      refine bodyPost_ret (v := .tuple #[.agg #[.int .i64 0, .slice none 0 0], .int .i64 5]) (by simp [results, Try.results19, go_sem, d0, d1]) rfl ?_
      exact RetSA_bad (HP.out.trans (putGot_full (by have := N1.out; omega) HN.out N2.out (.inr (N2.out.trans (by simpa using e3))))) (by repeat' (first | exact Below.refl _ _ | refine Below.alloc ?_ ?_ _ | refine Below.setCell ?_ ?_ _ | refine Below.drew ?_ | (apply below_step; assumption) | (simp; done) | (simp; omega) | omega))
    have HANS := Lib.hid (show ans = ⟨epoch, itemPut ⟨it.c, it.m, r.p + 1⟩ l, 0⟩ by rw [HP.out, putGot_fine (by have := N1.out; omega) HN.out N2.out (fun h => absurd h.1 (by simp)) (by have := N2.out; have h3 : ¬ r.p = 1000000 := (by simpa using e3); omega), N2.out])
    have hYb : Below w.heap.size w ((w3.setCell ⟨w.heap.size + 1, 2, none⟩ (.int .i64 (r.p + 1))).alloc (.cells #[.int .i64 epoch, .slice none 0 0] 34)) := (by repeat' (first | exact Below.refl _ _ | refine Below.alloc ?_ ?_ _ | refine Below.setCell ?_ ?_ _ | refine Below.drew ?_ | (apply below_step; assumption) | (simp; done) | (simp; omega) | omega))
    have hYz : ((w3.setCell ⟨w.heap.size + 1, 2, none⟩ (.int .i64 (r.p + 1))).alloc (.cells #[.int .i64 epoch, .slice none 0 0] 34)).heap.size = w3.heap.size + 1 := by simp [World.setCell]
    have SBY := Lib.hid ((SB3.out.far (p := ⟨w.heap.size + 1, 2, none⟩) (by show w.heap.size ≠ w.heap.size + 1; omega) (.int .i64 (r.p + 1))).alloc (.cells #[.int .i64 epoch, .slice none 0 0] 34))
    have IBY := Lib.hid ((IB3.out.put 2 (.int .i64 (r.p + 1))).alloc (.cells #[.int .i64 epoch, .slice none 0 0] 34))
    have OBY := Lib.hid ((OB3.out.far (p := ⟨w.heap.size + 1, 2, none⟩) (by show w.heap.size + 1 + 1 ≠ w.heap.size + 1; omega) (.int .i64 (r.p + 1))).alloc (.cells #[.int .i64 epoch, .slice none 0 0] 34))
    have GBY := Lib.hid (BlockIs.new' (w := w3.setCell ⟨w.heap.size + 1, 2, none⟩ (.int .i64 (r.p + 1))) (t := 34) (cs := #[.int .i64 epoch, .slice none 0 0]) (g := w3.heap.size) (by simp [World.setCell]))
    simp at IBY
    go_wp2_with fail
    generalize ((w3.setCell ⟨w.heap.size + 1, 2, none⟩ (.int .i64 (r.p + 1))).alloc (.cells #[.int .i64 epoch, .slice none 0 0] 34)) = Y at hYb hYz SBY IBY OBY GBY ⊢
    have HYZ := Lib.hid hYz
    clear hYz s1 sl i0 i1 i2 jf il d0 d1 df dl SB3 IB3 OB3
    go_loopw [11, 12] (fun s11 s12 wr => ∃ (k : Nat) (out : List RV) (inn : Bool), k ≤ l.length ∧ s12 = .int .i64 k ∧ s11 = .bool inn ∧ PutTo ⟨it.c, it.m, (r.p + 1)⟩ l out inn (l.drop k) ∧ SAt w Y w3.heap.size epoch out wr) (fun _ s12 _ => (l.length - RowKit.intOf s12).toNat)
    case atStart =>
      exact ⟨0, [], false, by omega, rfl, rfl, .inl ⟨rfl, by simp, HRISE.out⟩, hYb, Nat.le_refl _, fun _ _ _ => rfl, _, GBY.out, OwnsI.nil _ _⟩
    case round =>
      obtain ⟨k, out, inn, hk, rfl, rfl, hst, hsat⟩ := hrel
      have hol := putTo_len hst l20
      have HST := Lib.hid hst
      clear hst
      have HSAT := Lib.hid hsat
      obtain ⟨hB, hzr, hsame, u, hblk, hown⟩ := hsat
      have z1 := HYZ.out
      have SBr : BlockIs wr w.heap.size 34 #[.int .i64 ep, .slice (some ⟨b, off, none⟩) l.length c] := (hsame w.heap.size (by omega) (by omega)).trans SBY.out
      have IBr : BlockIs wr (w.heap.size + 1) 36 #[.int .i64 it.c, .int .i64 it.m, .int .i64 (r.p + 1)] := (hsame (w.heap.size + 1) (by omega) (by omega)).trans IBY.out
      have OBr : BlockIs wr (w.heap.size + 1 + 1) 34 #[.int .i64 0, .slice none 0 0] := (hsame (w.heap.size + 1 + 1) (by omega) (by omega)).trans OBY.out
      have HOB := Lib.hid OBr
      have HGB := Lib.hid hblk
      have HOW := Lib.hid hown
      have s1 := SBr.cell 1
      have i0 := IBr.cell 0
      have i1 := IBr.cell 1
      have i2 := IBr.cell 2
      have g0 := hblk.cell 0
      have g1 := hblk.cell 1
      have gf := hblk.frozen
      have gl := hblk.lt
      have sl := SBr.lt
      have il := IBr.lt
      have g3 : w3.heap.size < Y.heap.size := by omega
      have gw : w.heap.size ≤ w3.heap.size := by omega
      have hwr := hB.size
      simp at s1 i0 i1 i2 g0 g1
      have ga : ∀ n o, ((wr.drewN n).alloc o).cell? ⟨w3.heap.size, 1, none⟩ = some u := fun n o => (World.cell?_alloc_lt _ _ _ (show w3.heap.size < wr.heap.size from gl)).trans g1
      have GFA := Lib.hid (show ∀ n o x, ((wr.drewN n).alloc o).frozen? ⟨w3.heap.size, x, none⟩ = false from fun n o x => (((HGB.out.below (B := wr.heap.size) (below_drewN (Below.refl _ _) n) gl).alloc o).frozen x))
      clear SBr IBr OBr hblk hown hsame z1
      by_cases hlt : k < l.length
      · obtain ⟨b2, off2, hbo, hbw, hat⟩ := HA.out (by omega)
        simp only [Option.some.injEq, Addr.mk.injEq, and_true] at hbo
        obtain ⟨rfl, rfl⟩ := hbo
        obtain ⟨y, hy⟩ : ∃ r, l[k]? = some r := ⟨_, List.getElem?_eq_getElem hlt⟩
        obtain ⟨q0, q1, q2⟩ := (hat.below hB hbw) k y hy
        have HD := Lib.hid (drop_next hy)
        have hlti : (k : Int) < (l.length : Int) := by omega
        have hbr : b < wr.heap.size := by omega
        have HAT := Lib.hid hat
        have HY := Lib.hid hy
        clear hat hy
        cases inn
        · have HST' : Hid (PutTo ⟨it.c, it.m, (r.p + 1)⟩ l out false (y :: l.drop (k + 1))) := by
            show PutTo _ _ _ _ _
            rw [← HD.out]; exact HST.out
          rcases Int.lt_trichotomy y.c it.c with hc | hc | hc
          · have HN := Lib.hid (putTo_less HST'.out hc)
            have hne : (y.c != it.c) = true := by simp; omega
            have b1 : decide (it.c ≤ y.c) = false := by simp; omega
            clear hc
            go_wp2_with fail
            go_quiet (fail)
            go_wp2_with fail
            go_quiet (fail)
            go_wp2_with fail
            go_region_law
              (refine step_append_item _ (by rfl) (.tmp 103) (.tmp 109) (by rfl) Y.heap.size _ out y wr.heap.size (by rfl) (HOW.out.below (B := wr.heap.size) (by repeat' (first | exact Below.refl _ _ | refine Below.alloc ?_ ?_ _ | refine Below.setCell ?_ ?_ _ | refine Below.drew ?_ | refine below_drewN ?_ _ | (apply below_step; assumption) | (simp; done) | (simp; omega) | omega)) (Nat.le_refl _)) (by rfl) (by first | (simp; done) | exact (BlockIs.new' rfl).cell 0) (by first | (simp; done) | exact (BlockIs.new' rfl).cell 1) (by first | (simp; done) | exact (BlockIs.new' rfl).cell 2) (by first | omega | (simp; omega)) (by first | omega | (simp; omega)) ?_; intro v' w' hown' hb'; obtain ⟨A', c', rfl⟩ := hown'.len; have HO' := Lib.hid (And.intro hown' hb'); have k1 := (hb'.cell (p := ⟨w3.heap.size, 1, none⟩) g3).trans (ga _ _); have kf : ∀ x, w'.frozen? ⟨w3.heap.size, x, none⟩ = false := fun x => (hb'.frozen (p := ⟨w3.heap.size, x, none⟩) g3).trans (GFA.out _ _ x); clear hown' hb')
            all_goals
              go_wp2_with fail
              go_roundw
              case rel =>
                refine ⟨k + 1, out ++ [y], false, by omega, by go_num, rfl, HN.out, SAt.push HSAT.out (below_drewN (Below.refl _ _) _) HO'.out.2 ?_ g3 gw⟩
                have ho := HO'.out.1
                rw [show (out ++ [y]).length = out.length + 1 by simp] at ho
                exact ho
              case measure => simp [RowKit.intOf]; omega
          · have HN := Lib.hid (putTo_same HST'.out hc)
            have hne : (y.c != it.c) = false := by simp; omega
            have b1 : decide (it.c ≤ y.c) = true := by simp; omega
            clear hc
            go_wp2_with fail
            go_quiet (fail)
            go_wp2_with (at_builtin; refine wpList_append_item _ rfl (.tmp 88) (.tmp 90) rfl Y.heap.size _ out ⟨it.c, it.m, (r.p + 1)⟩ wr.heap.size rfl (HOW.out.below (B := wr.heap.size) (by repeat' (first | exact Below.refl _ _ | refine Below.alloc ?_ ?_ _ | refine Below.setCell ?_ ?_ _ | refine Below.drew ?_ | refine below_drewN ?_ _ | (apply below_step; assumption) | (simp; done) | (simp; omega) | omega)) (Nat.le_refl _)) rfl (by first | (simp; done) | exact (BlockIs.new' rfl).cell 0) (by first | (simp; done) | exact (BlockIs.new' rfl).cell 1) (by first | (simp; done) | exact (BlockIs.new' rfl).cell 2) (by omega) (by first | omega | (simp; omega) | (show _ ≤ (wr.heap.push _).size; simp; omega)) ?_; intro v' w' hown' hb'; obtain ⟨A', c', rfl⟩ := hown'.len; have HO' := Lib.hid (And.intro hown' hb'); have k1 := (hb'.cell (p := ⟨w3.heap.size, 1, none⟩) g3).trans (ga _ _); have kf : ∀ x, w'.frozen? ⟨w3.heap.size, x, none⟩ = false := fun x => (hb'.frozen (p := ⟨w3.heap.size, x, none⟩) g3).trans (GFA.out _ _ x); clear hown' hb')
            have ho := HO'.out.1
            rw [show (out ++ [(⟨it.c, it.m, (r.p + 1)⟩ : RV)]).length = out.length + 1 by simp] at ho
            have hsat := SAt.push HSAT.out (below_drewN (Below.refl _ _) _) HO'.out.2 ho g3 gw
            clear ho HO'
            generalize (w'.setCell ⟨w3.heap.size, 1, none⟩ (.slice A' (out.length + 1) c')) = X at hsat ⊢
            clear HSAT hB hzr HOB HGB HOW s1 i0 i1 i2 g0 g1 gf gl sl il g3 gw hwr ga GFA q0 q1 q2 k1 kf
            have HSAT := Lib.hid hsat
            obtain ⟨hB, hzr, hsame, u, hblk, hown⟩ := hsat
            have z1 := HYZ.out
            have SBr : BlockIs X w.heap.size 34 #[.int .i64 ep, .slice (some ⟨b, off, none⟩) l.length c] := (hsame w.heap.size (by omega) (by omega)).trans SBY.out
            have IBr : BlockIs X (w.heap.size + 1) 36 #[.int .i64 it.c, .int .i64 it.m, .int .i64 (r.p + 1)] := (hsame (w.heap.size + 1) (by omega) (by omega)).trans IBY.out
            have OBr : BlockIs X (w.heap.size + 1 + 1) 34 #[.int .i64 0, .slice none 0 0] := (hsame (w.heap.size + 1 + 1) (by omega) (by omega)).trans OBY.out
            have HOB := Lib.hid OBr
            have HGB := Lib.hid hblk
            have HOW := Lib.hid hown
            have s1 := SBr.cell 1
            have i0 := IBr.cell 0
            have i1 := IBr.cell 1
            have i2 := IBr.cell 2
            have g0 := hblk.cell 0
            have g1 := hblk.cell 1
            have gf := hblk.frozen
            have gl := hblk.lt
            have sl := SBr.lt
            have il := IBr.lt
            have g3 : w3.heap.size < Y.heap.size := by omega
            have gw : w.heap.size ≤ w3.heap.size := by omega
            have hwr := hB.size
            simp at s1 i0 i1 i2 g0 g1
            have ga : ∀ n o, ((X.drewN n).alloc o).cell? ⟨w3.heap.size, 1, none⟩ = some u := fun n o => (World.cell?_alloc_lt _ _ _ (show w3.heap.size < X.heap.size from gl)).trans g1
            have GFA := Lib.hid (show ∀ n o x, ((X.drewN n).alloc o).frozen? ⟨w3.heap.size, x, none⟩ = false from fun n o x => (((HGB.out.below (B := X.heap.size) (below_drewN (Below.refl _ _) n) gl).alloc o).frozen x))
            clear SBr IBr OBr hblk hown hsame z1
            obtain ⟨q0, q1, q2⟩ := (HAT.out.below hB hbw) k y HY.out
            go_quiet (fail)
            go_wp2_with fail
            go_roundw
            case rel =>
              exact ⟨k + 1, _, true, by omega, by go_num, rfl, HN.out, SAt.drew HSAT.out (below_drewN (Below.refl _ _) _) g3⟩
            case measure => simp [RowKit.intOf]; omega
          · have HN := Lib.hid (putTo_more HST'.out hc)
            have hne : (y.c != it.c) = true := by simp; omega
            have b1 : decide (it.c ≤ y.c) = true := by simp; omega
            clear hc
            go_wp2_with fail
            go_quiet (fail)
            go_wp2_with (at_builtin; refine wpList_append_item _ rfl (.tmp 88) (.tmp 90) rfl Y.heap.size _ out ⟨it.c, it.m, (r.p + 1)⟩ wr.heap.size rfl (HOW.out.below (B := wr.heap.size) (by repeat' (first | exact Below.refl _ _ | refine Below.alloc ?_ ?_ _ | refine Below.setCell ?_ ?_ _ | refine Below.drew ?_ | refine below_drewN ?_ _ | (apply below_step; assumption) | (simp; done) | (simp; omega) | omega)) (Nat.le_refl _)) rfl (by first | (simp; done) | exact (BlockIs.new' rfl).cell 0) (by first | (simp; done) | exact (BlockIs.new' rfl).cell 1) (by first | (simp; done) | exact (BlockIs.new' rfl).cell 2) (by omega) (by first | omega | (simp; omega) | (show _ ≤ (wr.heap.push _).size; simp; omega)) ?_; intro v' w' hown' hb'; obtain ⟨A', c', rfl⟩ := hown'.len; have HO' := Lib.hid (And.intro hown' hb'); have k1 := (hb'.cell (p := ⟨w3.heap.size, 1, none⟩) g3).trans (ga _ _); have kf : ∀ x, w'.frozen? ⟨w3.heap.size, x, none⟩ = false := fun x => (hb'.frozen (p := ⟨w3.heap.size, x, none⟩) g3).trans (GFA.out _ _ x); clear hown' hb')
            have ho := HO'.out.1
            rw [show (out ++ [(⟨it.c, it.m, (r.p + 1)⟩ : RV)]).length = out.length + 1 by simp] at ho
            have hsat := SAt.push HSAT.out (below_drewN (Below.refl _ _) _) HO'.out.2 ho g3 gw
            clear ho HO'
            generalize (w'.setCell ⟨w3.heap.size, 1, none⟩ (.slice A' (out.length + 1) c')) = X at hsat ⊢
            clear HSAT hB hzr HOB HGB HOW s1 i0 i1 i2 g0 g1 gf gl sl il g3 gw hwr ga GFA q0 q1 q2 k1 kf
            have HSAT := Lib.hid hsat
            obtain ⟨hB, hzr, hsame, u, hblk, hown⟩ := hsat
            have z1 := HYZ.out
            have SBr : BlockIs X w.heap.size 34 #[.int .i64 ep, .slice (some ⟨b, off, none⟩) l.length c] := (hsame w.heap.size (by omega) (by omega)).trans SBY.out
            have IBr : BlockIs X (w.heap.size + 1) 36 #[.int .i64 it.c, .int .i64 it.m, .int .i64 (r.p + 1)] := (hsame (w.heap.size + 1) (by omega) (by omega)).trans IBY.out
            have OBr : BlockIs X (w.heap.size + 1 + 1) 34 #[.int .i64 0, .slice none 0 0] := (hsame (w.heap.size + 1 + 1) (by omega) (by omega)).trans OBY.out
            have HOB := Lib.hid OBr
            have HGB := Lib.hid hblk
            have HOW := Lib.hid hown
            have s1 := SBr.cell 1
            have i0 := IBr.cell 0
            have i1 := IBr.cell 1
            have i2 := IBr.cell 2
            have g0 := hblk.cell 0
            have g1 := hblk.cell 1
            have gf := hblk.frozen
            have gl := hblk.lt
            have sl := SBr.lt
            have il := IBr.lt
            have g3 : w3.heap.size < Y.heap.size := by omega
            have gw : w.heap.size ≤ w3.heap.size := by omega
            have hwr := hB.size
            simp at s1 i0 i1 i2 g0 g1
            have ga : ∀ n o, ((X.drewN n).alloc o).cell? ⟨w3.heap.size, 1, none⟩ = some u := fun n o => (World.cell?_alloc_lt _ _ _ (show w3.heap.size < X.heap.size from gl)).trans g1
            have GFA := Lib.hid (show ∀ n o x, ((X.drewN n).alloc o).frozen? ⟨w3.heap.size, x, none⟩ = false from fun n o x => (((HGB.out.below (B := X.heap.size) (below_drewN (Below.refl _ _) n) gl).alloc o).frozen x))
            clear SBr IBr OBr hblk hown hsame z1
            obtain ⟨q0, q1, q2⟩ := (HAT.out.below hB hbw) k y HY.out
            go_quiet (fail)
            go_wp2_with fail
            go_region_law
              (refine step_append_item _ (by rfl) (.tmp 103) (.tmp 109) (by rfl) Y.heap.size _ (out ++ [(⟨it.c, it.m, (r.p + 1)⟩ : RV)]) y X.heap.size (by rfl) (HOW.out.below (B := X.heap.size) (by repeat' (first | exact Below.refl _ _ | refine Below.alloc ?_ ?_ _ | refine Below.setCell ?_ ?_ _ | refine Below.drew ?_ | refine below_drewN ?_ _ | (apply below_step; assumption) | (simp; done) | (simp; omega) | omega)) (Nat.le_refl _)) (by rfl) (by first | (simp; done) | exact (BlockIs.new' rfl).cell 0) (by first | (simp; done) | exact (BlockIs.new' rfl).cell 1) (by first | (simp; done) | exact (BlockIs.new' rfl).cell 2) (by first | omega | (simp; omega)) (by first | omega | (simp; omega)) ?_; intro v' w' hown' hb'; obtain ⟨A', c', rfl⟩ := hown'.len; have HO' := Lib.hid (And.intro hown' hb'); have k1 := (hb'.cell (p := ⟨w3.heap.size, 1, none⟩) g3).trans (ga _ _); have kf : ∀ x, w'.frozen? ⟨w3.heap.size, x, none⟩ = false := fun x => (hb'.frozen (p := ⟨w3.heap.size, x, none⟩) g3).trans (GFA.out _ _ x); clear hown' hb')
            all_goals
              go_wp2_with fail
              go_roundw
              case rel =>
                refine ⟨k + 1, (out ++ [(⟨it.c, it.m, (r.p + 1)⟩ : RV)]) ++ [y], true, by omega, by go_num, rfl, HN.out, SAt.push HSAT.out (below_drewN (Below.refl _ _) _) HO'.out.2 ?_ g3 gw⟩
                have ho := HO'.out.1
                rw [show ((out ++ [(⟨it.c, it.m, (r.p + 1)⟩ : RV)]) ++ [y]).length = out.length + 1 + 1 by simp] at ho
                exact ho
              case measure => simp [RowKit.intOf]; omega
        · have HN := Lib.hid (putTo_in (by rw [← HD.out]; exact HST.out))
          have hne : (y.c != it.c) = true := by have := HN.out.1; simp; dsimp only at this; omega
          go_wp2_with fail
          go_quiet (fail)
          go_wp2_with fail
          go_quiet (fail)
          go_wp2_with fail
          go_region_law
            (refine step_append_item _ (by rfl) (.tmp 103) (.tmp 109) (by rfl) Y.heap.size _ out y wr.heap.size (by rfl) (HOW.out.below (B := wr.heap.size) (by repeat' (first | exact Below.refl _ _ | refine Below.alloc ?_ ?_ _ | refine Below.setCell ?_ ?_ _ | refine Below.drew ?_ | refine below_drewN ?_ _ | (apply below_step; assumption) | (simp; done) | (simp; omega) | omega)) (Nat.le_refl _)) (by rfl) (by first | (simp; done) | exact (BlockIs.new' rfl).cell 0) (by first | (simp; done) | exact (BlockIs.new' rfl).cell 1) (by first | (simp; done) | exact (BlockIs.new' rfl).cell 2) (by first | omega | (simp; omega)) (by first | omega | (simp; omega)) ?_; intro v' w' hown' hb'; obtain ⟨A', c', rfl⟩ := hown'.len; have HO' := Lib.hid (And.intro hown' hb'); have k1 := (hb'.cell (p := ⟨w3.heap.size, 1, none⟩) g3).trans (ga _ _); have kf : ∀ x, w'.frozen? ⟨w3.heap.size, x, none⟩ = false := fun x => (hb'.frozen (p := ⟨w3.heap.size, x, none⟩) g3).trans (GFA.out _ _ x); clear hown' hb')
          all_goals
            go_wp2_with fail
            go_roundw
            case rel =>
              refine ⟨k + 1, out ++ [y], true, by omega, by go_num, rfl, HN.out.2, SAt.push HSAT.out (below_drewN (Below.refl _ _) _) HO'.out.2 ?_ g3 gw⟩
              have ho := HO'.out.1
              rw [show (out ++ [y]).length = out.length + 1 by simp] at ho
              exact ho
            case measure => simp [RowKit.intOf]; omega
      · have HST' : Hid (PutTo ⟨it.c, it.m, (r.p + 1)⟩ l out inn []) := by
          show PutTo _ _ _ _ _
          rw [← List.drop_length (l := l), ← show k = l.length by omega]; exact HST.out
        have hki : ¬ (k : Int) < (l.length : Int) := by omega
        cases inn
        · have HE : Hid (itemPut ⟨it.c, it.m, (r.p + 1)⟩ l = out ++ [⟨it.c, it.m, (r.p + 1)⟩]) := by
            show _ = _
            rcases HST'.out with ⟨_, h, _⟩ | ⟨h, _⟩
            · exact h
            · cases h
          go_wp2_with (at_builtin; refine wpList_append_item _ rfl (.tmp 115) (.tmp 117) rfl Y.heap.size _ out ⟨it.c, it.m, (r.p + 1)⟩ wr.heap.size rfl (HOW.out.alloc _) rfl (by simp) (by simp) (by simp) (by omega) (by simp; omega) ?_; intro v' w' hown' hb'; obtain ⟨A', c', rfl⟩ := hown'.len; have HO' := Lib.hid hown'; have hB' : Below w.heap.size w w' := ((hB.alloc (by omega) _).trans (hb'.mono (by omega))); have hz' := hb'.size; (simp at hz'); have GB' := (HGB.out.alloc (.cells #[.int .i64 it.c, .int .i64 it.m, .int .i64 (r.p + 1)] 36)).below hb' g3; have k0 := GB'.cell 0; have k1 := GB'.cell 1; have kf := GB'.frozen; have OB' := (HOB.out.alloc (.cells #[.int .i64 it.c, .int .i64 it.m, .int .i64 (r.p + 1)] 36)).below hb' (by omega); have d0 := OB'.cell 0; have d1 := OB'.cell 1; have df := OB'.frozen; (simp at k0 k1 d0 d1); have dne : ¬ w.heap.size + 1 + 1 = w3.heap.size := (by omega); have dne' : ¬ w3.heap.size = w.heap.size + 1 + 1 := (by omega); clear hown' hb' GB' OB')
          refine bodyPost_ret (v := .tuple #[.agg #[.int .i64 epoch, .slice A' (out.length + 1) c'], .int .i64 0]) (by simp [results, Try.results19, go_sem, d0, d1, dne, dne']) rfl ?_
          have ho := HO'.out
          rw [show (out ++ [(⟨it.c, it.m, (r.p + 1)⟩ : RV)]).length = out.length + 1 by simp, ← HE.out] at ho
          refine RetSA_fine HANS.out ?_ (by repeat' (first | exact Below.refl _ _ | refine Below.alloc ?_ ?_ _ | refine Below.setCell ?_ ?_ _ | refine Below.drew ?_ | (apply below_step; assumption) | (simp; done) | (simp; omega) | omega))
          refine OwnsI.mono (OwnsI.setCell (OwnsI.setCell (OwnsI.setCell ho ?_ _) ?_ _) ?_ _) (by omega)
          · show w3.heap.size < Y.heap.size; omega
          · show w.heap.size + 1 + 1 < Y.heap.size; omega
          · show w.heap.size + 1 + 1 < Y.heap.size; omega
        · have HE : Hid (itemPut ⟨it.c, it.m, (r.p + 1)⟩ l = out) := by
            show _ = _
            rcases HST'.out with ⟨h, _⟩ | ⟨_, h, _⟩
            · cases h
            · rw [h]; simp
          obtain ⟨Au, cu, hu⟩ := HOW.out.len
          subst hu
          have d0 := HOB.out.cell 0
          have d1 := HOB.out.cell 1
          have df := HOB.out.frozen
          have dl := HOB.out.lt
          simp at d0 d1
          go_wp2_with fail
          refine bodyPost_ret (v := .tuple #[.agg #[.int .i64 epoch, .slice Au out.length cu], .int .i64 0]) (by simp [results, Try.results19, go_sem, d0, d1]) rfl ?_
          refine RetSA_fine (HANS.out.trans (by rw [HE.out])) ?_ (by repeat' (first | exact Below.refl _ _ | refine Below.alloc ?_ ?_ _ | refine Below.setCell ?_ ?_ _ | refine Below.drew ?_ | (apply below_step; assumption) | (simp; done) | (simp; omega) | omega))
          refine OwnsI.mono (OwnsI.setCell (OwnsI.setCell HOW.out ?_ _) ?_ _) (by omega)
          · show w.heap.size + 1 + 1 < Y.heap.size; omega
          · show w.heap.size + 1 + 1 < Y.heap.size; omega
end Go.Proofs.Ytjammpcfihlfaaa
