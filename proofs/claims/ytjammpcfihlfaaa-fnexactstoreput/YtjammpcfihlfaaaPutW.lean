/- The contracts of StorePut and StoreDrop. -/
import Derived.Test.YtjammpcfihlfaaaStoreW
import Derived.Test.YtjammpcfihlfaaaPutD
namespace Go.Proofs.Ytjammpcfihlfaaa
open Go.RowKit Go.Maps

/-- The ending 'a store of the call's own and a code'. -/
def RetSA (a : SA) (w : World) (e : Ending) (w' : World) : Prop := ∃ v, e = .returned (.tuple #[.agg #[.int .i64 a.ep, v], .int .i64 a.code]) ∧ OwnsI w' w.heap.size v a.items ∧ Below w.heap.size w w'
theorem RetSA_bad {a : SA} {w w' : World} {k : Int} (h : a = .bad k) (hb : Below w.heap.size w w') : RetSA a w (.returned (.tuple #[.agg #[.int .i64 0, .slice none 0 0], .int .i64 k])) w' := by subst h; exact ⟨_, rfl, OwnsI.nil _ _, hb⟩
theorem RetSA_fine {a : SA} {w w' : World} {ep : Int} {l : List RV} {v : Value} (h : a = ⟨ep, l, 0⟩) (ho : OwnsI w' w.heap.size v l) (hb : Below w.heap.size w w') : RetSA a w (.returned (.tuple #[.agg #[.int .i64 ep, v], .int .i64 0])) w' := by subst h; exact ⟨_, rfl, ho, hb⟩
set_option maxRecDepth 20000 in
set_option maxHeartbeats 3200000 in
theorem StorePut_any (ep : Int) (v : Value) (l : List RV) (epoch : Int) (it : RV) (w : World) (hv : ItSl w v l) : Calls Try.prog 20 #[.agg #[.int .i64 ep, v], .int .i64 epoch, .agg #[.int .i64 it.c, .int .i64 it.m, .int .i64 it.p]] w (RetSA (storePut ep l epoch it) w) := by
  have HV := Lib.hid hv
  have h1 := fun w => epochOk_any epoch w
  have h2 := fun w => itemOk_any it w
  have HE := Lib.hid (storePut_eq ep l epoch it)
  have HIT := Lib.hid (itemIn_iff (r := it) (least := 0)).1
  generalize storePut ep l epoch it = ans at *
  generalize lWithin epoch 1 1000 = b2 at *
  generalize itemIn it 0 = b3 at *
  have H1 := Lib.hid h1
  have H2 := Lib.hid h2
  clear h1 h2 hv
  go_enter Try.func20, Try.ntmps20
  go_wp2_with fail
  have hX : Below w.heap.size w (((w.alloc (.cells #[.int .i64 ep, v] 34)).alloc (.cells #[.int .i64 it.c, .int .i64 it.m, .int .i64 it.p] 36)).alloc (.cells #[.int .i64 0, .slice none 0 0] 34)) := (by repeat' (first | exact Below.refl _ _ | refine Below.alloc ?_ ?_ _ | refine Below.setCell ?_ ?_ _ | refine Below.drew ?_ | (apply below_step; assumption) | (simp; done) | (simp; omega) | omega))
  refine (readStore_any ep v l _ (HV.out.below hX)).mono ?_
  rintro e w1 ⟨hb1, h⟩
  have hz1 := hb1.size
  simp at hz1
  have hC1 := below_of hX hb1
  have SB1 := Lib.hid ((((BlockIs.new w 34 #[.int .i64 ep, v]).alloc (.cells #[.int .i64 it.c, .int .i64 it.m, .int .i64 it.p] 36)).alloc (.cells #[.int .i64 0, .slice none 0 0] 34)).below hb1 (by simp; omega))
  have IB1 := Lib.hid (((BlockIs.new' (w := w.alloc (.cells #[.int .i64 ep, v] 34)) (t := 36) (cs := #[.int .i64 it.c, .int .i64 it.m, .int .i64 it.p]) (g := w.heap.size + 1) (by simp)).alloc (.cells #[.int .i64 0, .slice none 0 0] 34)).below hb1 (by simp))
  have OB1 := Lib.hid ((BlockIs.new' (w := (w.alloc (.cells #[.int .i64 ep, v] 34)).alloc (.cells #[.int .i64 it.c, .int .i64 it.m, .int .i64 it.p] 36)) (t := 34) (cs := #[.int .i64 0, .slice none 0 0]) (g := w.heap.size + 1 + 1) (by simp)).below hb1 (by simp))
  have i0 := IB1.out.cell 0
  have i1 := IB1.out.cell 1
  have i2 := IB1.out.cell 2
  have d0 := OB1.out.cell 0
  have d1 := OB1.out.cell 1
  have df := OB1.out.frozen
  have dl := OB1.out.lt
  simp at i0 i1 i2 d0 d1
  clear hX hb1
  rcases h with ⟨hok, rfl⟩ | ⟨hok, b, rfl, hbb, hm⟩
  · have HA := Lib.hid (show ans = .bad 1 by rw [HE.out _ _ _ hok rfl rfl]; simp)
    clear hok HE
    go_wp2_with fail
    refine bodyPost_ret (v := .tuple #[.agg #[.int .i64 0, .slice none 0 0], .int .i64 1]) (by simp [results, Try.results20, go_sem, d0, d1]) rfl ?_
    exact RetSA_bad (HA.out) (by repeat' (first | exact Below.refl _ _ | refine Below.alloc ?_ ?_ _ | refine Below.setCell ?_ ?_ _ | refine Below.drew ?_ | (apply below_step; assumption) | (simp; done) | (simp; omega) | omega))
  have HA := Lib.hid (show ans = if b2 && b3 then putGot ep l epoch it else .bad 1 by rw [HE.out _ _ _ hok rfl rfl]; simp)
  have HOK := Lib.hid (storeOk_all hok)
  have HM := Lib.hid hm
  simp at hbb
  clear hok HE hm
  go_wp2_with fail
  refine (H1.out _).mono ?_
  rintro e w2 ⟨rfl, rfl⟩
  cases b2
  · go_wp2_with fail
    refine bodyPost_ret (v := .tuple #[.agg #[.int .i64 0, .slice none 0 0], .int .i64 1]) (by simp [results, Try.results20, go_sem, d0, d1]) rfl ?_
    exact RetSA_bad (by rw [HA.out]; simp) (by repeat' (first | exact Below.refl _ _ | refine Below.alloc ?_ ?_ _ | refine Below.setCell ?_ ?_ _ | refine Below.drew ?_ | (apply below_step; assumption) | (simp; done) | (simp; omega) | omega))
  go_wp2_with fail
  refine (H2.out _).mono ?_
  rintro e w2 ⟨rfl, hb2⟩
  have hz2 := hb2.size
  have hC2 := below_of hC1 hb2
  have SB2 := Lib.hid (SB1.out.below hb2 SB1.out.lt)
  have IB2 := Lib.hid (IB1.out.below hb2 IB1.out.lt)
  have OB2 := Lib.hid (OB1.out.below hb2 OB1.out.lt)
  have HM2 := Lib.hid (HM.out.below hb2 HM.out.lt)
  clear i0 i1 i2 d0 d1 df dl SB1 IB1 OB1 HM hb2
  have s0 := SB2.out.cell 0
  have sl := SB2.out.lt
  have i0 := IB2.out.cell 0
  have i1 := IB2.out.cell 1
  have i2 := IB2.out.cell 2
  have iff := IB2.out.frozen
  have il := IB2.out.lt
  have d0 := OB2.out.cell 0
  have d1 := OB2.out.cell 1
  have df := OB2.out.frozen
  have dl := OB2.out.lt
  simp at s0 i0 i1 i2 d0 d1
  cases b3
  · go_wp2_with fail
    refine bodyPost_ret (v := .tuple #[.agg #[.int .i64 0, .slice none 0 0], .int .i64 1]) (by simp [results, Try.results20, go_sem, d0, d1]) rfl ?_
    exact RetSA_bad (by rw [HA.out]; simp) (by repeat' (first | exact Below.refl _ _ | refine Below.alloc ?_ ?_ _ | refine Below.setCell ?_ ?_ _ | refine Below.drew ?_ | (apply below_step; assumption) | (simp; done) | (simp; omega) | omega))
  obtain ⟨⟨j1, j2⟩, _, j3, j4⟩ := HIT.out (by simp)
  have HP := Lib.hid (show ans = putGot ep l epoch it by rw [HA.out]; simp)
  have hlk := HM2.out.look (k := it.c) (fits_of (by omega) (by omega))
  clear HA HIT H1 H2
  generalize hgen : itemAt l it.c = at_ at hlk
  obtain ⟨old, f⟩ := at_
  have HAT := Lib.hid hgen
  dsimp only at hlk
  clear hgen
  have hlen := fun ty => (HM2.out.alloc (.cells #[.int .i64 old.c, .int .i64 old.m, .int .i64 old.p] 36)).len ty
  have hbl := HM2.out.lt
  generalize e1 : decide (epoch < ep) = bo
  cases bo
  rotate_left
  · go_wp2_with fail
    refine bodyPost_ret (v := .tuple #[.agg #[.int .i64 0, .slice none 0 0], .int .i64 3]) (by simp [results, Try.results20, go_sem, d0, d1, dl]) rfl ?_
    exact RetSA_bad (HP.out.trans (putGot_old (of_decide_eq_true e1))) (by repeat' (first | exact Below.refl _ _ | refine Below.alloc ?_ ?_ _ | refine Below.setCell ?_ ?_ _ | refine Below.drew ?_ | (apply below_step; assumption) | (simp; done) | (simp; omega) | omega))
  have n1 := of_decide_eq_false e1
  generalize e2 : (it.p != old.p) = bc
  cases bc
  rotate_left
  · go_wp2_with fail
    refine bodyPost_ret (v := .tuple #[.agg #[.int .i64 0, .slice none 0 0], .int .i64 4]) (by simp [results, Try.results20, go_sem, d0, d1, dl]) rfl ?_
    exact RetSA_bad (HP.out.trans (putGot_clash (by omega) HAT.out (by simpa using e2))) (by repeat' (first | exact Below.refl _ _ | refine Below.alloc ?_ ?_ _ | refine Below.setCell ?_ ?_ _ | refine Below.drew ?_ | (apply below_step; assumption) | (simp; done) | (simp; omega) | omega))
  have N2 := Lib.hid (show it.p = old.p by simpa using e2)
  have l20 := HOK.out.2.1
  have hnn : ((l.length : Int) == 20) = decide (l.length = 20) := by
    by_cases h : l.length = 20
    · simp [h]
    · have : ¬ (l.length : Int) = 20 := by omega
      simp [h, this]
  have hfull : (f = false ∧ l.length = 20) ∨ ¬ (f = false ∧ l.length = 20) := Decidable.em _
  rcases hfull with ⟨rfl, hn⟩ | hno
  · have hnt : ((l.length : Int) == 20) = true := by rw [hnn]; simp [hn]
    have HN20 := Lib.hid hn
    clear hn hnn
    go_wp2_with fail
    refine bodyPost_ret (v := .tuple #[.agg #[.int .i64 0, .slice none 0 0], .int .i64 5]) (by simp [results, Try.results20, go_sem, d0, d1, dl]) rfl ?_
    exact RetSA_bad (HP.out.trans (putGot_full (by omega) HAT.out N2.out (.inl ⟨rfl, HN20.out⟩))) (by repeat' (first | exact Below.refl _ _ | refine Below.alloc ?_ ?_ _ | refine Below.setCell ?_ ?_ _ | refine Below.drew ?_ | (apply below_step; assumption) | (simp; done) | (simp; omega) | omega))
  generalize e3 : (it.p == 1000000) = bm
  cases f
  · have hnf : ((l.length : Int) == 20) = false := by rw [hnn]; simpa using hno
    clear hnn
    cases bm
    rotate_left
    · go_wp2_with fail
      refine bodyPost_ret (v := .tuple #[.agg #[.int .i64 0, .slice none 0 0], .int .i64 5]) (by simp [results, Try.results20, go_sem, d0, d1, dl]) rfl ?_
      exact RetSA_bad (HP.out.trans (putGot_full (by omega) HAT.out N2.out (.inr (by simpa using e3)))) (by repeat' (first | exact Below.refl _ _ | refine Below.alloc ?_ ?_ _ | refine Below.setCell ?_ ?_ _ | refine Below.drew ?_ | (apply below_step; assumption) | (simp; done) | (simp; omega) | omega))
    have HM3 := Lib.hid ((HM2.out.setCell (a := ⟨w.heap.size + 1, 2, none⟩) (by show b ≠ w.heap.size + 1; omega) (.int .i64 (it.p + 1))).alloc (.cells #[.int .i64 old.c, .int .i64 old.m, .int .i64 old.p] 36))
    have OB3 := Lib.hid ((OB2.out.far (p := ⟨w.heap.size + 1, 2, none⟩) (by show w.heap.size + 1 + 1 ≠ w.heap.size + 1; omega) (.int .i64 (it.p + 1))).alloc (.cells #[.int .i64 old.c, .int .i64 old.m, .int .i64 old.p] 36))
    go_wp2_with (first
      | (at_mapUpdate; refine wpList_put_item _ rfl _ _ _ rfl b l.length l ⟨it.c, it.m, it.p + 1⟩ rfl rfl rfl HM3.out (by omega) (fits_of (by show _ ≤ it.c; omega) (by show it.c ≤ _; omega)) ?_; intro w5 hm5 hg5))
    have hz5 := hg5.size
    simp [World.setCell] at hz5
    have hB5 : Below w.heap.size w w5 := Below.grown (B := w.heap.size) (by repeat' (first | exact Below.refl _ _ | refine Below.alloc ?_ ?_ _ | refine Below.setCell ?_ ?_ _ | refine Below.drew ?_ | (apply below_step; assumption) | (simp; done) | (simp; omega) | omega)) hg5 (by simp [World.setCell]; omega) (fun j hj => by cases hj; omega)
    have OB5 : BlockIs w5 (w.heap.size + 1 + 1) 34 #[.int .i64 0, .slice none 0 0] := (hg5.block _ (by simp [World.setCell]; omega) (by simp; omega)).trans OB3.out
    refine (store_any epoch b (l.length + 1) _ w5 hm5 (Nat.le_trans (itemPut_len _ l) (by omega)) (fun x hx => ?_)).mono ?_
    · rcases (itemPut_mem HOK.out.2.2.2).1 hx with rfl | ⟨hx, _⟩
      · exact fits_of (by show _ ≤ it.c; omega) (by show it.c ≤ _; omega)
      · have := (itemIn_iff.1 (HOK.out.2.2.1 x hx)).1
        exact fits_of (by omega) (by omega)
    rintro e w6 ⟨v6, rfl, ho6, hb6⟩
    have hz6 := hb6.size
    have OB6 := OB5.below hb6 OB5.lt
    obtain ⟨A6, c6, rfl⟩ := ho6.len
    have HO6 := Lib.hid ho6
    clear i0 i1 i2 iff il d0 d1 df dl s0 sl hlk hlen OB5 ho6
    have d0 := OB6.cell 0
    have d1 := OB6.cell 1
    have df := OB6.frozen
    have dl := OB6.lt
    simp at d0 d1
    have hC6 := below_of hB5 hb6
    clear OB6 hg5 hm5 hb6 hB5
    have HANS := Lib.hid (HP.out.trans (putGot_fine (by omega) HAT.out N2.out (by first | (simp; done) | simpa using hno) (by simpa using e3)))
    generalize (itemPut ⟨it.c, it.m, it.p + 1⟩ l) = out at *
    go_wp2_with fail
    refine bodyPost_ret (v := .tuple #[.agg #[.int .i64 epoch, .slice A6 out.length c6], .int .i64 0]) (by simp [results, Try.results20, go_sem, d0, d1]) rfl ?_
    refine RetSA_fine HANS.out ?_ (by repeat' (first | exact Below.refl _ _ | refine Below.alloc ?_ ?_ _ | refine Below.setCell ?_ ?_ _ | refine Below.drew ?_ | (apply below_step; assumption) | (simp; done) | (simp; omega) | omega))
    refine OwnsI.mono (OwnsI.setCell (OwnsI.setCell HO6.out ?_ _) ?_ _) (by omega)
    · show w.heap.size + 1 + 1 < w5.heap.size; omega
    · show w.heap.size + 1 + 1 < w5.heap.size; omega
  · clear hnn
    cases bm
    rotate_left
    · go_wp2_with fail
      refine bodyPost_ret (v := .tuple #[.agg #[.int .i64 0, .slice none 0 0], .int .i64 5]) (by simp [results, Try.results20, go_sem, d0, d1, dl]) rfl ?_
      exact RetSA_bad (HP.out.trans (putGot_full (by omega) HAT.out N2.out (.inr (by simpa using e3)))) (by repeat' (first | exact Below.refl _ _ | refine Below.alloc ?_ ?_ _ | refine Below.setCell ?_ ?_ _ | refine Below.drew ?_ | (apply below_step; assumption) | (simp; done) | (simp; omega) | omega))
    have HM3 := Lib.hid ((HM2.out.setCell (a := ⟨w.heap.size + 1, 2, none⟩) (by show b ≠ w.heap.size + 1; omega) (.int .i64 (it.p + 1))).alloc (.cells #[.int .i64 old.c, .int .i64 old.m, .int .i64 old.p] 36))
    have OB3 := Lib.hid ((OB2.out.far (p := ⟨w.heap.size + 1, 2, none⟩) (by show w.heap.size + 1 + 1 ≠ w.heap.size + 1; omega) (.int .i64 (it.p + 1))).alloc (.cells #[.int .i64 old.c, .int .i64 old.m, .int .i64 old.p] 36))
    go_wp2_with (first
      | (at_mapUpdate; refine wpList_put_item _ rfl _ _ _ rfl b l.length l ⟨it.c, it.m, it.p + 1⟩ rfl rfl rfl HM3.out (by omega) (fits_of (by show _ ≤ it.c; omega) (by show it.c ≤ _; omega)) ?_; intro w5 hm5 hg5))
    have hz5 := hg5.size
    simp [World.setCell] at hz5
    have hB5 : Below w.heap.size w w5 := Below.grown (B := w.heap.size) (by repeat' (first | exact Below.refl _ _ | refine Below.alloc ?_ ?_ _ | refine Below.setCell ?_ ?_ _ | refine Below.drew ?_ | (apply below_step; assumption) | (simp; done) | (simp; omega) | omega)) hg5 (by simp [World.setCell]; omega) (fun j hj => by cases hj; omega)
    have OB5 : BlockIs w5 (w.heap.size + 1 + 1) 34 #[.int .i64 0, .slice none 0 0] := (hg5.block _ (by simp [World.setCell]; omega) (by simp; omega)).trans OB3.out
    refine (store_any epoch b (l.length + 1) _ w5 hm5 (Nat.le_trans (itemPut_len _ l) (by omega)) (fun x hx => ?_)).mono ?_
    · rcases (itemPut_mem HOK.out.2.2.2).1 hx with rfl | ⟨hx, _⟩
      · exact fits_of (by show _ ≤ it.c; omega) (by show it.c ≤ _; omega)
      · have := (itemIn_iff.1 (HOK.out.2.2.1 x hx)).1
        exact fits_of (by omega) (by omega)
    rintro e w6 ⟨v6, rfl, ho6, hb6⟩
    have hz6 := hb6.size
    have OB6 := OB5.below hb6 OB5.lt
    obtain ⟨A6, c6, rfl⟩ := ho6.len
    have HO6 := Lib.hid ho6
    clear i0 i1 i2 iff il d0 d1 df dl s0 sl hlk hlen OB5 ho6
    have d0 := OB6.cell 0
    have d1 := OB6.cell 1
    have df := OB6.frozen
    have dl := OB6.lt
    simp at d0 d1
    have hC6 := below_of hB5 hb6
    clear OB6 hg5 hm5 hb6 hB5
    have HANS := Lib.hid (HP.out.trans (putGot_fine (by omega) HAT.out N2.out (by first | (simp; done) | simpa using hno) (by simpa using e3)))
    generalize (itemPut ⟨it.c, it.m, it.p + 1⟩ l) = out at *
    go_wp2_with fail
    refine bodyPost_ret (v := .tuple #[.agg #[.int .i64 epoch, .slice A6 out.length c6], .int .i64 0]) (by simp [results, Try.results20, go_sem, d0, d1]) rfl ?_
    refine RetSA_fine HANS.out ?_ (by repeat' (first | exact Below.refl _ _ | refine Below.alloc ?_ ?_ _ | refine Below.setCell ?_ ?_ _ | refine Below.drew ?_ | (apply below_step; assumption) | (simp; done) | (simp; omega) | omega))
    refine OwnsI.mono (OwnsI.setCell (OwnsI.setCell HO6.out ?_ _) ?_ _) (by omega)
    · show w.heap.size + 1 + 1 < w5.heap.size; omega
    · show w.heap.size + 1 + 1 < w5.heap.size; omega
set_option maxRecDepth 20000 in
set_option maxHeartbeats 3200000 in
theorem StoreDrop_any (ep : Int) (v : Value) (l : List RV) (epoch key ver : Int) (w : World) (hv : ItSl w v l) (hkey : Fits key) : Calls Try.prog 23 #[.agg #[.int .i64 ep, v], .int .i64 epoch, .int .i64 key, .int .i64 ver] w (RetSA (storeDrop ep l epoch key ver) w) := by
  have HV := Lib.hid hv
  have HKE := Lib.hid hkey
  have h1 := fun w => epochOk_any epoch w
  have HE := Lib.hid (storeDrop_eq ep l epoch key ver)
  generalize storeDrop ep l epoch key ver = ans at *
  generalize lWithin epoch 1 1000 = b2 at *
  have H1 := Lib.hid h1
  clear h1 hv hkey
  go_enter Try.func23, Try.ntmps23
  go_wp2_with fail
  have hX : Below w.heap.size w ((w.alloc (.cells #[.int .i64 ep, v] 34)).alloc (.cells #[.int .i64 0, .slice none 0 0] 34)) := (by repeat' (first | exact Below.refl _ _ | refine Below.alloc ?_ ?_ _ | refine Below.setCell ?_ ?_ _ | refine Below.drew ?_ | (apply below_step; assumption) | (simp; done) | (simp; omega) | omega))
  refine (readStore_any ep v l _ (HV.out.below hX)).mono ?_
  rintro e w1 ⟨hb1, h⟩
  have hz1 := hb1.size
  simp at hz1
  have hC1 := below_of hX hb1
  have SB1 := Lib.hid (((BlockIs.new w 34 #[.int .i64 ep, v]).alloc (.cells #[.int .i64 0, .slice none 0 0] 34)).below hb1 (by simp; omega))
  have OB1 := Lib.hid ((BlockIs.new' (w := w.alloc (.cells #[.int .i64 ep, v] 34)) (t := 34) (cs := #[.int .i64 0, .slice none 0 0]) (g := w.heap.size + 1) (by simp)).below hb1 (by simp))
  have s0 := SB1.out.cell 0
  have sl := SB1.out.lt
  have d0 := OB1.out.cell 0
  have d1 := OB1.out.cell 1
  have df := OB1.out.frozen
  have dl := OB1.out.lt
  simp at s0 d0 d1
  clear hX hb1
  rcases h with ⟨hok, rfl⟩ | ⟨hok, b, rfl, hbb, hm⟩
  · have HA := Lib.hid (show ans = .bad 1 by rw [HE.out _ _ hok rfl]; simp)
    clear hok HE
    go_wp2_with fail
    refine bodyPost_ret (v := .tuple #[.agg #[.int .i64 0, .slice none 0 0], .int .i64 1]) (by simp [results, Try.results23, go_sem, d0, d1]) rfl ?_
    exact RetSA_bad (HA.out) (by repeat' (first | exact Below.refl _ _ | refine Below.alloc ?_ ?_ _ | refine Below.setCell ?_ ?_ _ | refine Below.drew ?_ | (apply below_step; assumption) | (simp; done) | (simp; omega) | omega))
  have HA := Lib.hid (show ans = if b2 then dropGot ep l epoch key ver else .bad 1 by rw [HE.out _ _ hok rfl]; simp)
  have HOK := Lib.hid (storeOk_all hok)
  have HM := Lib.hid hm
  simp at hbb
  clear hok HE hm
  go_wp2_with fail
  refine (H1.out _).mono ?_
  rintro e w2 ⟨rfl, rfl⟩
  cases b2
  · go_wp2_with fail
    refine bodyPost_ret (v := .tuple #[.agg #[.int .i64 0, .slice none 0 0], .int .i64 1]) (by simp [results, Try.results23, go_sem, d0, d1]) rfl ?_
    exact RetSA_bad (by rw [HA.out]; simp) (by repeat' (first | exact Below.refl _ _ | refine Below.alloc ?_ ?_ _ | refine Below.setCell ?_ ?_ _ | refine Below.drew ?_ | (apply below_step; assumption) | (simp; done) | (simp; omega) | omega))
  have HP := Lib.hid (show ans = dropGot ep l epoch key ver by rw [HA.out]; simp)
  have hlk := HM.out.look (k := key) HKE.out
  clear HA H1
  generalize hgen : itemAt l key = at_ at hlk
  obtain ⟨old, f⟩ := at_
  have HAT := Lib.hid hgen
  dsimp only at hlk
  clear hgen
  have hbl := HM.out.lt
  generalize e1 : decide (epoch < ep) = bo
  cases bo
  rotate_left
  · go_wp2_with fail
    refine bodyPost_ret (v := .tuple #[.agg #[.int .i64 0, .slice none 0 0], .int .i64 3]) (by simp [results, Try.results23, go_sem, d0, d1, dl]) rfl ?_
    exact RetSA_bad (HP.out.trans (dropGot_old (of_decide_eq_true e1))) (by repeat' (first | exact Below.refl _ _ | refine Below.alloc ?_ ?_ _ | refine Below.setCell ?_ ?_ _ | refine Below.drew ?_ | (apply below_step; assumption) | (simp; done) | (simp; omega) | omega))
  have n1 := of_decide_eq_false e1
  cases f
  · go_wp2_with fail
    refine bodyPost_ret (v := .tuple #[.agg #[.int .i64 0, .slice none 0 0], .int .i64 6]) (by simp [results, Try.results23, go_sem, d0, d1, dl]) rfl ?_
    exact RetSA_bad (HP.out.trans (dropGot_none (by omega) HAT.out)) (by repeat' (first | exact Below.refl _ _ | refine Below.alloc ?_ ?_ _ | refine Below.setCell ?_ ?_ _ | refine Below.drew ?_ | (apply below_step; assumption) | (simp; done) | (simp; omega) | omega))
  generalize e2 : (ver != old.p) = bc
  cases bc
  rotate_left
  · go_wp2_with fail
    refine bodyPost_ret (v := .tuple #[.agg #[.int .i64 0, .slice none 0 0], .int .i64 4]) (by simp [results, Try.results23, go_sem, d0, d1, dl]) rfl ?_
    exact RetSA_bad (HP.out.trans (dropGot_clash (by omega) HAT.out (by simpa using e2))) (by repeat' (first | exact Below.refl _ _ | refine Below.alloc ?_ ?_ _ | refine Below.setCell ?_ ?_ _ | refine Below.drew ?_ | (apply below_step; assumption) | (simp; done) | (simp; omega) | omega))
  have N2 := Lib.hid (show ver = old.p by simpa using e2)
  have l20 := HOK.out.2.1
  have HM3 := Lib.hid (HM.out.alloc (.cells #[.int .i64 old.c, .int .i64 old.m, .int .i64 old.p] 36))
  have OB3 := Lib.hid (OB1.out.alloc (.cells #[.int .i64 old.c, .int .i64 old.m, .int .i64 old.p] 36))
  go_wp2_with (first
    | (at_delete; refine wpList_del_item _ rfl _ _ rfl b l.length l key rfl rfl HM3.out HKE.out ?_; intro w5 hm5 hg5))
  have hz5 := hg5.size
  simp at hz5
  have hB5 : Below w.heap.size w w5 := Below.grown (B := w.heap.size) (by repeat' (first | exact Below.refl _ _ | refine Below.alloc ?_ ?_ _ | refine Below.setCell ?_ ?_ _ | refine Below.drew ?_ | (apply below_step; assumption) | (simp; done) | (simp; omega) | omega)) hg5 (by simp; omega) (fun j hj => by cases hj; omega)
  have OB5 : BlockIs w5 (w.heap.size + 1) 34 #[.int .i64 0, .slice none 0 0] := (hg5.block _ (by simp; omega) (by simp; omega)).trans OB3.out
  refine (store_any epoch b l.length _ w5 hm5 (Nat.le_trans (List.length_filter_le _ _) (by omega)) (fun x hx => ?_)).mono ?_
  · have := (itemIn_iff.1 (HOK.out.2.2.1 x (List.mem_filter.1 hx).1)).1
    exact fits_of (by omega) (by omega)
  rintro e w6 ⟨v6, rfl, ho6, hb6⟩
  have hz6 := hb6.size
  have OB6 := OB5.below hb6 OB5.lt
  obtain ⟨A6, c6, rfl⟩ := ho6.len
  have HO6 := Lib.hid ho6
  clear d0 d1 df dl s0 sl hlk OB5 ho6
  have d0 := OB6.cell 0
  have d1 := OB6.cell 1
  have df := OB6.frozen
  have dl := OB6.lt
  simp at d0 d1
  have hC6 := below_of hB5 hb6
  clear OB6 hg5 hm5 hb6 hB5
  have HANS := Lib.hid (HP.out.trans (dropGot_fine (by omega) HAT.out N2.out))
  generalize (itemDel key l) = out at *
  go_wp2_with fail
  refine bodyPost_ret (v := .tuple #[.agg #[.int .i64 epoch, .slice A6 out.length c6], .int .i64 0]) (by simp [results, Try.results23, go_sem, d0, d1]) rfl ?_
  refine RetSA_fine HANS.out ?_ (by repeat' (first | exact Below.refl _ _ | refine Below.alloc ?_ ?_ _ | refine Below.setCell ?_ ?_ _ | refine Below.drew ?_ | (apply below_step; assumption) | (simp; done) | (simp; omega) | omega))
  refine OwnsI.mono (OwnsI.setCell (OwnsI.setCell HO6.out ?_ _) ?_ _) (by omega)
  · show w.heap.size + 1 < w5.heap.size; omega
  · show w.heap.size + 1 < w5.heap.size; omega
end Go.Proofs.Ytjammpcfihlfaaa
