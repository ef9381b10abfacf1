/- The contract of the model's ProvDo. -/
import Derived.Test.YtbmiefhgkagcgaaProvMW
import Derived.Test.YtbmiefhgkagcgaaProvDoI
namespace Go.Proofs.Ytbmiefhgkagcgaa
open Go.RowKit

/-- A slice value with room enough for its length, of no spot within an element. -/
def Plain (v : Value) (n : Nat) : Prop := v = .slice none 0 0 ∨ ∃ b off c, v = .slice (some ⟨b, off, none⟩) n c ∧ n ≤ c
theorem InSl.takes {w : World} {A : Option Addr} {n c : Nat} {l : List RV} (h : InSl w (.slice A n c) l) (k : Nat) (hk : 0 < k) (hl : k ≤ l.length) : ∃ b off, A = some ⟨b, off, none⟩ ∧ CellsAt w b off (inL (l.take k)) := by
  rcases h with ⟨rfl, A', c', e⟩ | ⟨b, off, c', e, hb, hat⟩
  · simp at hl; omega
  · simp only [Value.slice.injEq] at e
    obtain ⟨rfl, -, -⟩ := e
    have h2 : InSl w (.slice (some ⟨b, off, none⟩) k c') (l.take k) := .inr ⟨b, off, c', by rw [List.length_take, Nat.min_eq_left hl], hb, hat.take k⟩
    exact h2.news hk
theorem InSl.drops {w : World} {b off n c : Nat} {l : List RV} (h : InSl w (.slice (some ⟨b, off, none⟩) n c) l) (k : Nat) (hk : k < l.length) : CellsAt w b (off + k * 3) (inL (l.drop k)) := by
  rcases h with ⟨rfl, A', c', e⟩ | ⟨b', off', c', e, hb, hat⟩
  · simp at hk
  · simp only [Value.slice.injEq, Option.some.injEq, Addr.mk.injEq] at e
    obtain ⟨⟨rfl, rfl, -⟩, -, -⟩ := e
    have h2 : InSl w (.slice (some ⟨b, off + k * 3, none⟩) (l.length - k) c') (l.drop k) := .inr ⟨b, off + k * 3, c', by rw [List.length_drop], hb, hat.drop k⟩
    obtain ⟨b2, off2, e2, h3⟩ := h2.news (by omega)
    simp only [Option.some.injEq, Addr.mk.injEq] at e2
    obtain ⟨rfl, rfl, -⟩ := e2
    exact h3
theorem slice_after {X w5 : World} {e0 : Obj} {T : TypeId} {cs : Array Value} (hg : ((X.alloc e0).alloc (.cells cs T)).drew.grownBy w5 (some X.heap.size)) : BlockIs w5 (X.heap.size + 1) T cs :=
  (hg.block (X.heap.size + 1) (by simp) (by simp)).trans (BlockIs.new' (w := X.alloc e0) (by simp))
theorem slice_before {X w5 : World} {e0 : Obj} {T : TypeId} {cs : Array Value} (hg : ((X.alloc (.cells cs T)).alloc e0).drew.grownBy w5 (some (X.heap.size + 1))) : BlockIs w5 X.heap.size T cs :=
  (hg.block X.heap.size (by simp; omega) (by simp)).trans ((BlockIs.new X T cs).alloc e0)
theorem news_of {w : World} {g : Nat} {T : TypeId} {cs : List Value} (h : BlockIs w g T cs.toArray) : ∃ b off, (some ⟨g, 0, none⟩ : Option Addr) = some ⟨b, off, none⟩ ∧ CellsAt w b off cs :=
  ⟨g, 0, rfl, CellsAt.of_block h (fun j u hu => by rw [Nat.zero_add]; simpa using hu)⟩
theorem own_inst {w : World} {base n : Nat} {v : Value} {xs : List Value} {L : List RV} (h : w.ownsRow 0 38 3 v n xs) (hx : xs = inL L) (hn : n = L.length) (hb : ∀ q, v.ownBlock = some q → base ≤ q) : OwnsN w base v L := by
  subst hx hn; exact own_rebase h (fun b hb' => hb b (by simpa [blk, Option.mem_toList] using hb'))
set_option maxRecDepth 20000 in
set_option maxHeartbeats 6400000 in
theorem sProvDo_any (ep : Int) (v : Value) (l : List RV) (m : MV) (works : Bool) (w : World) (hv : InSl w v l) (hlen : l.length ≤ 1048576) (hpl : Plain v l.length) : Calls Try.prog 13 #[.agg #[.int .i64 ep, v], .agg #[.int .i64 m.k, .int .i64 m.e, .int .i64 m.i, .int .i64 m.p], .bool works] w (RetPA (provDo ep l m works) w) := by
  obtain ⟨A, c, rfl, hA⟩ := hv.form
  have HA := Lib.hid hA
  have HV := Lib.hid hv
  have HPL := Lib.hid hpl
  clear hA hv hpl
  have HP := Lib.hid (fun w h => sProvOk_any ep (.slice A l.length c) l w h)
  have HM := Lib.hid (fun w => sMsgOk_any m w)
  have HCP := Lib.hid (fun w h => l07Copy_any ep (.slice A l.length c) l w h hlen)
  have HAT := Lib.hid (fun w h => l07At_any ep (.slice A l.length c) l m.i w h (by omega))
  have HB := Lib.hid (@provDo_bad ep l m works)
  have HBM := Lib.hid (@provDo_badM ep l m works)
  have HG := Lib.hid (@provDo_got ep l m works)
  have HOK := Lib.hid (@provOk_all ep l)
  have HMK := Lib.hid (@msgOk_iff m)
  generalize provDo ep l m works = ans at *
  generalize provOk ep l = ok at *
  generalize msgOk m = mok at *
  go_enter Try.func13, Try.ntmps13
  go_wp2_with fail
  have hX : Below w.heap.size w (((w.alloc (.cells #[.int .i64 ep, .slice A l.length c] 26)).alloc (.cells #[.int .i64 m.k, .int .i64 m.e, .int .i64 m.i, .int .i64 m.p] 28)).alloc (.cells #[.int .i64 0, .slice none 0 0] 26)) := (by repeat' (first | exact Below.refl _ _ | refine Below.alloc ?_ ?_ _ | refine Below.setCell ?_ ?_ _ | refine Below.drew ?_ | (apply below_step; assumption) | (simp; done) | (simp; omega) | omega))
  refine (HP.out _ (HV.out.below hX)).mono ?_
  rintro e w1 ⟨rfl, hb1⟩
  have hC1 := below_of hX hb1
  have SB1 := Lib.hid ((((BlockIs.new w 26 #[.int .i64 ep, .slice A l.length c]).alloc (.cells #[.int .i64 m.k, .int .i64 m.e, .int .i64 m.i, .int .i64 m.p] 28)).alloc (.cells #[.int .i64 0, .slice none 0 0] 26)).below hb1 (by simp; omega))
  have MB1 := Lib.hid (((BlockIs.new' (w := w.alloc (.cells #[.int .i64 ep, .slice A l.length c] 26)) (t := 28) (cs := #[.int .i64 m.k, .int .i64 m.e, .int .i64 m.i, .int .i64 m.p]) (g := w.heap.size + 1) (by simp)).alloc (.cells #[.int .i64 0, .slice none 0 0] 26)).below hb1 (by simp))
  have OB1 := Lib.hid ((BlockIs.new' (w := (w.alloc (.cells #[.int .i64 ep, .slice A l.length c] 26)).alloc (.cells #[.int .i64 m.k, .int .i64 m.e, .int .i64 m.i, .int .i64 m.p] 28)) (t := 26) (cs := #[.int .i64 0, .slice none 0 0]) (g := w.heap.size + 1 + 1) (by simp)).below hb1 (by simp))
  have m1 := MB1.out.cell
  have d0 := OB1.out.cell 0
  have d1 := OB1.out.cell 1
  have df := OB1.out.frozen
  have dl := OB1.out.lt
  simp at d0 d1
  clear hX hb1
  cases ok
  · have HE := Lib.hid (HB.out rfl)
    clear HB HBM HG HOK HMK
    go_wp2_with fail
    refine bodyPost_ret (v := .tuple #[.agg #[.int .i64 0, .slice none 0 0], .int .i64 1]) (by simp [results, Try.results13, go_sem, d0, d1]) rfl ?_
    exact RetPA_bad HE.out (by repeat' (first | exact Below.refl _ _ | refine Below.alloc ?_ ?_ _ | refine Below.setCell ?_ ?_ _ | refine Below.drew ?_ | (apply below_step; assumption) | (simp; done) | (simp; omega) | omega))
  obtain ⟨_, hl60, _, hrise⟩ := HOK.out rfl
  have HR := Lib.hid hrise
  have HG1 := Lib.hid (HG.out rfl)
  clear hrise HOK HB HG
  go_wp2_with fail
  refine (HM.out _).mono ?_
  rintro e w2 ⟨rfl, hb2⟩
  have hC2 := below_of hC1 hb2
  clear m1
  have SB2 := Lib.hid (SB1.out.below hb2 SB1.out.lt)
  have MB2 := Lib.hid (MB1.out.below hb2 MB1.out.lt)
  have OB2 := Lib.hid (OB1.out.below hb2 OB1.out.lt)
  clear SB1 MB1 OB1
  have g2 := SB2.out.cell
  have m2 := MB2.out.cell
  have d0 := OB2.out.cell 0
  have d1 := OB2.out.cell 1
  have df := OB2.out.frozen
  have dl := OB2.out.lt
  simp at d0 d1
  clear hb2
  cases mok
  · have HE := Lib.hid (HBM.out rfl)
    clear HBM HG1 HMK
    go_wp2_with fail
    refine bodyPost_ret (v := .tuple #[.agg #[.int .i64 0, .slice none 0 0], .int .i64 1]) (by simp [results, Try.results13, go_sem, d0, d1]) rfl ?_
    exact RetPA_bad HE.out (by repeat' (first | exact Below.refl _ _ | refine Below.alloc ?_ ?_ _ | refine Below.setCell ?_ ?_ _ | refine Below.drew ?_ | (apply below_step; assumption) | (simp; done) | (simp; omega) | omega))
  have HE := Lib.hid (HG1.out rfl)
  obtain ⟨⟨n1, n2⟩, ⟨n3, n4⟩, hk⟩ := HMK.out.1 rfl
  clear HG1 HBM HMK
  have HINS := Lib.hid (ins_spec m.i l 0)
  generalize insFrom m.i l 0 = ix at *
  have HK := Lib.hid hk
  clear hk
  go_wp2_with fail
  refine (HAT.out _ (HV.out.below hC2)).mono ?_
  rintro e w3 ⟨rfl, hb3⟩
  have hC3 := below_of hC2 hb3
  clear g2 m2 d0 d1 df dl
  have SB3 := Lib.hid (SB2.out.below hb3 SB2.out.lt)
  have MB3 := Lib.hid (MB2.out.below hb3 MB2.out.lt)
  have OB3 := Lib.hid (OB2.out.below hb3 OB2.out.lt)
  clear SB2 MB2 OB2
  have g3 := SB3.out.cell
  have m3 := MB3.out.cell
  have d0 := OB3.out.cell 0
  have d1 := OB3.out.cell 1
  have df := OB3.out.frozen
  have dl := OB3.out.lt
  simp at d0 d1
  clear hb3 HAT
  by_cases hold : m.e < ep
  · have HE := Lib.hid (HE.out.trans (doGot_old hold))
    clear HINS HK
    go_wp2_with fail
    refine bodyPost_ret (v := .tuple #[.agg #[.int .i64 0, .slice none 0 0], .int .i64 3]) (by simp [results, Try.results13, go_sem, d0, d1]) rfl ?_
    exact RetPA_bad HE.out (by repeat' (first | exact Below.refl _ _ | refine Below.alloc ?_ ?_ _ | refine Below.setCell ?_ ?_ _ | refine Below.drew ?_ | (apply below_step; assumption) | (simp; done) | (simp; omega) | omega))
  have HOLD := Lib.hid (show m.e < ep → False from hold)
  rcases HINS.out with ⟨rfl, ha⟩ | ⟨j, x, rfl, hx, hxz, _⟩
  · rcases HK.out with ⟨hk, _, _⟩ | ⟨hk, hp0⟩
    rotate_left
    · clear hp0
      have HE := Lib.hid (HE.out.trans (doGot_none HOLD.out hk ha))
      have hk2 : (m.k == 2) = true := by simpa using hk
      have hk1 : (m.k == 1) = false := by simp; omega
      clear ha hk HINS HK
      go_wp2_with fail
      refine bodyPost_ret (v := .tuple #[.agg #[.int .i64 0, .slice none 0 0], .int .i64 6]) (by simp [results, Try.results13, go_sem, d0, d1]) rfl ?_
      exact RetPA_bad HE.out (by repeat' (first | exact Below.refl _ _ | refine Below.alloc ?_ ?_ _ | refine Below.setCell ?_ ?_ _ | refine Below.drew ?_ | (apply below_step; assumption) | (simp; done) | (simp; omega) | omega))
    have hk2 : (m.k == 2) = false := by simp; omega
    have hk1 : (m.k == 1) = true := by simpa using hk
    by_cases hlen60 : l.length = 60
    · have HE := Lib.hid (HE.out.trans (doGot_full HOLD.out hk ha hlen60))
      have hl60i : ((l.length : Int) == 60) = true := by simp; omega
      clear ha hk HINS HK
      go_wp2_with fail
      refine bodyPost_ret (v := .tuple #[.agg #[.int .i64 0, .slice none 0 0], .int .i64 5]) (by simp [results, Try.results13, go_sem, d0, d1]) rfl ?_
      exact RetPA_bad HE.out (by repeat' (first | exact Below.refl _ _ | refine Below.alloc ?_ ?_ _ | refine Below.setCell ?_ ?_ _ | refine Below.drew ?_ | (apply below_step; assumption) | (simp; done) | (simp; omega) | omega))
    obtain ⟨st, hst⟩ : ∃ st : Int, st = if works then 1 else 2 := ⟨_, rfl⟩
    have HE2 := Lib.hid (HE.out.trans ((doGot_new HOLD.out hk ha hlen60).trans (by rw [← hst])))
    have hl60i : ((l.length : Int) == 60) = false := by simp; omega
    clear ha hk HINS HK
    go_wp2_with fail
    refine (HCP.out _ (HV.out.below hC3)).mono ?_
    rintro e w4 ⟨v4, rfl, ho4, hb4⟩
    have hC4 := below_of hC3 hb4
    obtain ⟨A4, c4, rfl⟩ := ho4.len
    have dlX := dl
    clear g3 m3 d0 d1 df dl
    have SB4 := Lib.hid (SB3.out.below hb4 SB3.out.lt)
    have MB4 := Lib.hid (MB3.out.below hb4 MB3.out.lt)
    have OB4 := Lib.hid (OB3.out.below hb4 OB3.out.lt)
    clear SB3 MB3 OB3
    have g4 := SB4.out.cell
    have m4 := MB4.out.cell
    have d0 := OB4.out.cell 0
    have d1 := OB4.out.cell 1
    have df := OB4.out.frozen
    have dl := OB4.out.lt
    simp at d0 d1
    have ml := MB4.out.lt
    have gl := SB4.out.lt
    have HO4 := Lib.hid ho4
    have hz3 := hC3.size
    have hz4 := hb4.size
    clear ho4 hb4 HCP

    have HROW := Lib.hid (fun q (e : (.slice A4 l.length c4 : Value).ownBlock = some q) => World.ownsRow.lt HO4.out q e)
    go_upto_if 78 with fail
    go_cut [8] (fun s8 wx => s8 = .int .i64 (-1) ∧ wx = (w4.alloc (.cells #[.int .i64 m.e, .slice A4 l.length c4] 26)).alloc (.cells #[.int .i64 m.i, .int .i64 m.p, .int .i64 st] 38))
    case first =>
      cases works
      all_goals
        subst hst
        go_wp2_with fail
        go_meet
        exact ⟨rfl, rfl⟩
    case rest =>
      obtain ⟨rfl, rfl⟩ := hcut
      clear hst
      have hV : Below w4.heap.size w4 ((w4.alloc (.cells #[.int .i64 m.e, .slice A4 l.length c4] 26)).alloc (.cells #[.int .i64 m.i, .int .i64 m.p, .int .i64 st] 38)) := (by repeat' (first | exact Below.refl _ _ | refine Below.alloc ?_ ?_ _ | refine Below.setCell ?_ ?_ _ | refine Below.drew ?_ | (apply below_step; assumption) | (simp; done) | (simp; omega) | omega))
      have GBV : BlockIs ((w4.alloc (.cells #[.int .i64 m.e, .slice A4 l.length c4] 26)).alloc (.cells #[.int .i64 m.i, .int .i64 m.p, .int .i64 st] 38)) w4.heap.size 26 #[.int .i64 m.e, .slice A4 l.length c4] := (BlockIs.new _ _ _).alloc _
      have XBV : BlockIs ((w4.alloc (.cells #[.int .i64 m.e, .slice A4 l.length c4] 26)).alloc (.cells #[.int .i64 m.i, .int .i64 m.p, .int .i64 st] 38)) (w4.heap.size + 1) 38 #[.int .i64 m.i, .int .i64 m.p, .int .i64 st] := BlockIs.new' (by simp)
      generalize ((w4.alloc (.cells #[.int .i64 m.e, .slice A4 l.length c4] 26)).alloc (.cells #[.int .i64 m.i, .int .i64 m.p, .int .i64 st] 38)) = V at hV GBV XBV ⊢
      have SBV := Lib.hid (SB4.out.below hV SB4.out.lt)
      have MBV := Lib.hid (MB4.out.below hV MB4.out.lt)
      have OBV := Lib.hid (OB4.out.below hV OB4.out.lt)
      have hCV := below_of hC4 hV
      have HGB := Lib.hid GBV
      have HXB := Lib.hid XBV
      have hgV := GBV.lt
      have hxV := XBV.lt
      clear g4 m4 d0 d1 df dl ml gl SB4 MB4 OB4 GBV XBV
      go_wp2_with fail
      go_loopw [11] (fun s11 wr => ∃ k : Nat, k ≤ l.length ∧ s11 = .int .i64 k ∧ (∀ (i : Nat) (y : RV), i < k → l[i]? = some y → y.c < m.i) ∧ Below V.heap.size V wr) (fun s11 _ => (l.length - RowKit.intOf s11).toNat)
      case atStart => exact ⟨0, by omega, rfl, fun i y hi => absurd hi (by omega), Below.refl _ _⟩
      case round =>
        obtain ⟨k, hk, rfl, hlow, hB⟩ := hrel
        have HLO := Lib.hid hlow
        have hzr := hB.size
        have hzV := hV.size
        have hCr := below_of hCV hB
        have SBr := Lib.hid (SBV.out.below hB SBV.out.lt)
        have MBr := Lib.hid (MBV.out.below hB MBV.out.lt)
        have gr := SBr.out.cell
        have mr := MBr.out.cell
        have grl := SBr.out.lt
        have mrl := MBr.out.lt
        clear hlow
        by_cases hlt : k < l.length
        · obtain ⟨b, off, rfl, hbw, hat⟩ := HA.out (by omega)
          obtain ⟨r, hr⟩ : ∃ r, l[k]? = some r := ⟨_, List.getElem?_eq_getElem hlt⟩
          obtain ⟨q0, q1, q2⟩ := (hat.below hCr hbw) k r hr
          have hlti : (k : Int) < (l.length : Int) := by omega
          have hlb : decide ((k : Int) < (l.length : Int)) = true := decide_eq_true hlti
          have HRR := Lib.hid hr
          clear hr hat
          cases hc : decide (r.c < m.i)
          · have HLOW := Lib.hid (show lowAt m.i l = k from lowAt_of hk HLO.out (fun y hy => by obtain rfl := Option.some.inj (HRR.out.symm.trans hy); have := of_decide_eq_false hc; omega))
            go_wp2_with fail
            go_quiet (fail)
            go_wp2_with fail
            rcases HPL.out with e | ⟨b0, off0, c0, e, hlc⟩
            · simp at e
            simp only [Value.slice.injEq, Option.some.injEq, Addr.mk.injEq] at e
            obtain ⟨⟨rfl, rfl, -⟩, -, rfl⟩ := e
            have h1j : (k : Int) ≤ (l.length : Int) := by omega
            have h3j : k ≤ c := by omega
            have h3i : (k : Int) ≤ (c : Int) := by omega
            have h4i : (l.length : Int) ≤ (c : Int) := by omega
            have hBU : Below V.heap.size V (wr.drewN nq) := below_drewN hB nq
            generalize wr.drewN nq = U at hBU ⊢
            have hCU := below_of hCV hBU
            have HE3 := Lib.hid (show ans = ⟨m.e, l.take k ++ ⟨m.i, m.p, st⟩ :: l.drop k, 0⟩ by rw [HE2.out, HLOW.out] <;> rfl)
            have HKT := Lib.hid (show ∀ w', TurnB [w4.heap.size] U w' → TurnB [w4.heap.size] U w' ∧ (∀ o, w'.cell? ⟨w.heap.size, o, none⟩ = (#[.int .i64 ep, .slice (some ⟨b, off, none⟩) l.length c] : Array Value)[o]?) ∧ (∀ o, w'.cell? ⟨w4.heap.size + 1, o, none⟩ = (#[.int .i64 m.i, .int .i64 m.p, .int .i64 st] : Array Value)[o]?) from
              fun w' ht => ⟨ht, ((SBV.out.below hBU SBV.out.lt).turn ht (by simp; omega)).cell, ((HXB.out.below hBU hxV).turn ht (by simp)).cell⟩)
            have GBU := Lib.hid (HGB.out.below hBU hgV)
            have OBU := Lib.hid (OBV.out.below hBU OBV.out.lt)
            have hgU := GBU.out.lt
            have hoU := OBU.out.lt
            have hzU := hBU.size
            have HNT := Lib.hid (fun w' (hb : Below w.heap.size w w') hm => (HV.out.below hb).takes k hm hk)
            have HND := Lib.hid (fun (A' : Option Addr) w' (hb : Below w.heap.size w w') (hm : 0 < l.length - k) (he : A' = if c = k then (some ⟨b, off, none⟩) else some ⟨b, off + k * 3, none⟩) => show ∃ b off, A' = some ⟨b, off, none⟩ ∧ CellsAt w' b off (inL (l.drop k)) from ⟨b, off + k * 3, by rw [he, if_neg (by omega)], (HV.out.below hb).drops k (by omega)⟩)
            obtain ⟨i0, hi0, hz0, hs0, hy0⟩ := info_parts Try.infoInst
            clear gr mr grl mrl hB hzr hCr SBr MBr HLO
            go_region_held3 (fun w' => TurnB [w4.heap.size] U w' ∧ (∀ o, w'.cell? ⟨w.heap.size, o, none⟩ = (#[.int .i64 ep, .slice (some ⟨b, off, none⟩) l.length c] : Array Value)[o]?) ∧ (∀ o, w'.cell? ⟨w4.heap.size + 1, o, none⟩ = (#[.int .i64 m.i, .int .i64 m.p, .int .i64 st] : Array Value)[o]?))
              (exact HKT.out _ (by repeat' (first | assumption | with_reducible exact TurnB.refl _ _ | with_reducible refine TurnB.put ?_ (List.mem_singleton.2 rfl) _ _ | with_reducible refine TurnB.drewN' ?_ | with_reducible refine TurnB.allocN ?_ _ | (with_reducible apply turn_stepN; with_reducible assumption))))
              (first
                | (refine step_spread_if _ (by rfl) (.tmp 98) (.tmp 102) 24 (by rfl) 38 i0 _ 3 24 Try.underlying24 hi0 hz0 hs0 hy0 (by rfl) (by omega) (.slice (some ⟨U.heap.size, 0, none⟩) 0 0) 0 [] (by rfl) (by first | exact made_own' (by simp) | exact World.ownsRow.alloc (made_own' (by simp)) _) _ _ _ (inL (l.take k)) (by rfl) (by simp only [inL_length, List.length_take] <;> omega) (fun hm => HNT.out _ (by repeat' (first | exact Below.refl _ _ | refine Below.alloc ?_ ?_ _ | refine Below.setCell ?_ ?_ _ | refine Below.drew ?_ | refine below_drewN ?_ _ | (apply below_step; assumption) | (simp; done) | (simp; omega) | omega)) hm) (inL_one _) (by unfold maxLen; omega) (by omega) ?_; intro v5 w5 hown5 hg5 hk5; rw [Nat.zero_add, List.nil_append] at hown5; have h5b : ∀ q, v5.ownBlock = some q → U.heap.size ≤ q := (by intro q hq; rcases hk5 with h | h <;> rw [h] at hq <;> simp [Value.ownBlock] at hq <;> omega); have hB5 : Below U.heap.size U w5 := (Below.grown (by repeat' (first | exact Below.refl _ _ | refine Below.alloc ?_ ?_ _ | refine Below.setCell ?_ ?_ _ | refine Below.drew ?_ | refine below_drewN ?_ _ | (apply below_step; assumption) | (simp; done) | (simp; omega) | omega)) hg5 (by simp; try omega) (fun q hq => by simp [Value.ownBlock] at hq; omega)); (first | have hx5 := slice_after (cs := #[.int .i64 m.i, .int .i64 m.p, .int .i64 st]) hg5 | have hx5 := slice_before (cs := #[.int .i64 m.i, .int .i64 m.p, .int .i64 st]) hg5 | have hx5 : True := trivial); obtain ⟨F5, f5, rfl, _⟩ := own_form hown5; have HO5 := Lib.hid hown5; have H5B := Lib.hid h5b; have hz5 := hB5.size; have hT5 : TurnB [w4.heap.size] U w5 := TurnB.of_below hB5; clear hown5 hg5 hk5 h5b)
                | (refine step_spread_if _ (by rfl) (.tmp 98) (.tmp 102) 24 (by rfl) 38 i0 _ 3 24 Try.underlying24 hi0 hz0 hs0 hy0 (by rfl) (by omega) (.slice (some ⟨U.heap.size + 1, 0, none⟩) 0 0) 0 [] (by rfl) (by first | exact made_own' (by simp) | exact World.ownsRow.alloc (made_own' (by simp)) _) _ _ _ (inL (l.take k)) (by rfl) (by simp only [inL_length, List.length_take] <;> omega) (fun hm => HNT.out _ (by repeat' (first | exact Below.refl _ _ | refine Below.alloc ?_ ?_ _ | refine Below.setCell ?_ ?_ _ | refine Below.drew ?_ | refine below_drewN ?_ _ | (apply below_step; assumption) | (simp; done) | (simp; omega) | omega)) hm) (inL_one _) (by unfold maxLen; omega) (by omega) ?_; intro v5 w5 hown5 hg5 hk5; rw [Nat.zero_add, List.nil_append] at hown5; have h5b : ∀ q, v5.ownBlock = some q → U.heap.size ≤ q := (by intro q hq; rcases hk5 with h | h <;> rw [h] at hq <;> simp [Value.ownBlock] at hq <;> omega); have hB5 : Below U.heap.size U w5 := (Below.grown (by repeat' (first | exact Below.refl _ _ | refine Below.alloc ?_ ?_ _ | refine Below.setCell ?_ ?_ _ | refine Below.drew ?_ | refine below_drewN ?_ _ | (apply below_step; assumption) | (simp; done) | (simp; omega) | omega)) hg5 (by simp; try omega) (fun q hq => by simp [Value.ownBlock] at hq; omega)); (first | have hx5 := slice_after (cs := #[.int .i64 m.i, .int .i64 m.p, .int .i64 st]) hg5 | have hx5 := slice_before (cs := #[.int .i64 m.i, .int .i64 m.p, .int .i64 st]) hg5 | have hx5 : True := trivial); obtain ⟨F5, f5, rfl, _⟩ := own_form hown5; have HO5 := Lib.hid hown5; have H5B := Lib.hid h5b; have hz5 := hB5.size; have hT5 : TurnB [w4.heap.size] U w5 := TurnB.of_below hB5; clear hown5 hg5 hk5 h5b)
                | (refine step_spread_if _ (by rfl) (.tmp 103) (.tmp 105) 24 (by rfl) 38 i0 _ 3 24 Try.underlying24 hi0 hz0 hs0 hy0 (by rfl) (by omega) (.slice F5 k f5) _ (inL (l.take k)) (by rfl) (by first | exact HO5.out | exact World.ownsRow.alloc HO5.out _) _ 1 1 [.int .i64 m.i, .int .i64 m.p, .int .i64 st] (by rfl) (by rfl) (fun _ => by first | exact news_of (BlockIs.new _ _ _) | exact news_of hx5) (by intro u hu; simp at hu; rcases hu with rfl | rfl | rfl <;> rfl) (by unfold maxLen; omega) (by omega) ?_; intro v6 w6 hown6 hg6 hk6; have h6b : ∀ q, v6.ownBlock = some q → U.heap.size ≤ q := (by intro q hq; rcases hk6 with h | h; exact H5B.out q (h ▸ hq); rw [h] at hq; simp at hq; omega); have hB6 : Below U.heap.size U w6 := (Below.grown (by repeat' (first | exact Below.refl _ _ | refine Below.alloc ?_ ?_ _ | refine Below.setCell ?_ ?_ _ | refine Below.drew ?_ | refine below_drewN ?_ _ | (apply below_step; assumption) | (simp; done) | (simp; omega) | omega)) hg6 (by (first | omega | (simp; omega))) (fun q hq => H5B.out q hq)); obtain ⟨F6, f6, rfl, _⟩ := own_form hown6; have HO6 := Lib.hid hown6; have H6B := Lib.hid h6b; have hz6 := hB6.size; have hT6 : TurnB [w4.heap.size] U w6 := TurnB.of_below hB6; clear hown6 hg6 hk6 h6b)
                | (refine step_spread_if _ (by rfl) (.tmp 106) (.tmp 110) 24 (by rfl) 38 i0 _ 3 24 Try.underlying24 hi0 hz0 hs0 hy0 (by rfl) (by omega) (.slice F6 (k + 1) f6) _ _ (by rfl) HO6.out _ _ _ (inL (l.drop k)) (by rfl) (by simp only [inL_length, List.length_drop] <;> omega) (fun hm => HND.out _ _ (by repeat' (first | exact Below.refl _ _ | refine Below.alloc ?_ ?_ _ | refine Below.setCell ?_ ?_ _ | refine Below.drew ?_ | refine below_drewN ?_ _ | (apply below_step; assumption) | (simp; done) | (simp; omega) | omega)) hm rfl) (inL_one _) (by unfold maxLen; omega) (by omega) ?_; intro v7 w7 hown7 hg7 hk7; have h7b : ∀ q, v7.ownBlock = some q → U.heap.size ≤ q := (by intro q hq; rcases hk7 with h | h; exact H6B.out q (h ▸ hq); rw [h] at hq; simp at hq; omega); have hB7 : Below U.heap.size U w7 := (Below.grown (by repeat' (first | exact Below.refl _ _ | refine Below.alloc ?_ ?_ _ | refine Below.setCell ?_ ?_ _ | refine Below.drew ?_ | refine below_drewN ?_ _ | (apply below_step; assumption) | (simp; done) | (simp; omega) | omega)) hg7 (by (first | omega | (simp; omega))) (fun q hq => H6B.out q hq)); have HO7 := Lib.hid (own_inst (L := l.take k ++ ⟨m.i, m.p, st⟩ :: l.drop k) hown7 (by rw [inL_append, inL_cons]; simp) (by simp; (try omega)) h7b); obtain ⟨F7, f7, hv7, _⟩ := own_form hown7; generalize hn7 : (_ + _ : Nat) = n7 at hv7; subst hv7; clear hn7; have H7B := Lib.hid h7b; have hz7 := hB7.size; have hT7 : TurnB [w4.heap.size] U w7 := TurnB.of_below hB7; have GB7 := GBU.out.below hB7 hgU; have OB7 := OBU.out.below hB7 hoU; have e0 := GB7.cell 0; have e1 := GB7.cell 1; have ef := GB7.frozen; have d0 := OB7.cell 0; have d1 := OB7.cell 1; have df := OB7.frozen; (simp at e0 e1 d0 d1); have HOB7 := Lib.hid OB7; clear hown7 hg7 hk7 h7b GB7 OB7))
            all_goals go_wp2_with fail
            all_goals
              have B2 := ((HOB7.out.far (p := ⟨w4.heap.size, 1, none⟩) (by simp; omega) (.slice F7 n7 f7)).put 0 (.int .i64 m.e)).put 1 (.slice F7 n7 f7)
              have z0 := B2.cell 0
              have z1 := B2.cell 1
              simp at z0 z1
              refine bodyPost_ret (v := .tuple #[.agg #[.int .i64 m.e, .slice F7 n7 f7], .int .i64 0]) (by simp [results, Try.results13, go_sem, z0, z1]) rfl ?_
              refine RetPA_fine HE3.out ?_ ?_
              · exact (((HO7.out.far (p := ⟨w4.heap.size, 1, none⟩) (fun e => absurd (H7B.out _ e) (by simp; omega)) (.slice F7 n7 f7)).far (p := ⟨w.heap.size + 1 + 1, 0, none⟩) (fun e => absurd (H7B.out _ e) (by simp; omega)) (.int .i64 m.e)).far (p := ⟨w.heap.size + 1 + 1, 1, none⟩) (fun e => absurd (H7B.out _ e) (by simp; omega)) (.slice F7 n7 f7)).low (by omega)
              · exact (((below_of hCU hB7).setCell (by simp; omega) _).setCell (by simp; omega) _).setCell (by simp; omega) _
          · have HC := Lib.hid (of_decide_eq_true hc)
            go_wp2_with fail
            go_quiet (fail)
            go_wp2_with fail
            go_roundw
            case rel =>
              refine ⟨k + 1, by omega, by go_num, fun i y hi hy => ?_, below_drewN hB nq⟩
              rcases Nat.lt_or_ge i k with h | h
              · exact HLO.out i y h hy
              · obtain rfl : i = k := by omega
                obtain rfl := Option.some.inj (HRR.out.symm.trans hy)
                exact HC.out
            case measure => simp [RowKit.intOf]; omega
        · obtain rfl : k = l.length := by omega
          have HLOW := Lib.hid (show lowAt m.i l = l.length from lowAt_of (Nat.le_refl _) HLO.out (fun y hy => absurd (List.getElem?_eq_some_iff.1 hy).1 (by omega)))
          have hlb : decide ((l.length : Int) < (l.length : Int)) = false := decide_eq_false (by omega)
          go_wp2_with fail
          go_quiet (fail)
          go_wp2_with fail
          rcases HPL.out with e | ⟨b, off, c0, e, hlc⟩
          · simp only [Value.slice.injEq] at e
            obtain ⟨rfl, hl0, rfl⟩ := e
            obtain rfl : l = [] := List.eq_nil_of_length_eq_zero hl0
            have hBU : Below V.heap.size V (wr.drewN nq) := below_drewN hB nq
            generalize wr.drewN nq = U at hBU ⊢
            have hCU := below_of hCV hBU
            have HE3 := Lib.hid (show ans = ⟨m.e, ([] : List RV).take 0 ++ ⟨m.i, m.p, st⟩ :: ([] : List RV).drop 0, 0⟩ by rw [HE2.out, HLOW.out] <;> rfl)
            have HKT := Lib.hid (show ∀ w', TurnB [w4.heap.size] U w' → TurnB [w4.heap.size] U w' ∧ (∀ o, w'.cell? ⟨w.heap.size, o, none⟩ = (#[.int .i64 ep, .slice none 0 0] : Array Value)[o]?) ∧ (∀ o, w'.cell? ⟨w4.heap.size + 1, o, none⟩ = (#[.int .i64 m.i, .int .i64 m.p, .int .i64 st] : Array Value)[o]?) from
              fun w' ht => ⟨ht, ((SBV.out.below hBU SBV.out.lt).turn ht (by simp; omega)).cell, ((HXB.out.below hBU hxV).turn ht (by simp)).cell⟩)
            have GBU := Lib.hid (HGB.out.below hBU hgV)
            have OBU := Lib.hid (OBV.out.below hBU OBV.out.lt)
            have hgU := GBU.out.lt
            have hoU := OBU.out.lt
            have hzU := hBU.size
            have HNT := Lib.hid (fun w' (hb : Below w.heap.size w w') hm => (HV.out.below hb).takes 0 hm hk)
            have HND := Lib.hid (fun (A' : Option Addr) w' (hb : Below w.heap.size w w') (hm : 0 < ([] : List RV).length - 0) (he : A' = if 0 = 0 then none else none) => show ∃ b off, A' = some ⟨b, off, none⟩ ∧ CellsAt w' b off (inL (([] : List RV).drop 0)) from absurd hm (by simp))
            obtain ⟨i0, hi0, hz0, hs0, hy0⟩ := info_parts Try.infoInst
            clear gr mr grl mrl hB hzr hCr SBr MBr HLO
            go_region_held3 (fun w' => TurnB [w4.heap.size] U w' ∧ (∀ o, w'.cell? ⟨w.heap.size, o, none⟩ = (#[.int .i64 ep, .slice none 0 0] : Array Value)[o]?) ∧ (∀ o, w'.cell? ⟨w4.heap.size + 1, o, none⟩ = (#[.int .i64 m.i, .int .i64 m.p, .int .i64 st] : Array Value)[o]?))
              (exact HKT.out _ (by repeat' (first | assumption | with_reducible exact TurnB.refl _ _ | with_reducible refine TurnB.put ?_ (List.mem_singleton.2 rfl) _ _ | with_reducible refine TurnB.drewN' ?_ | with_reducible refine TurnB.allocN ?_ _ | (with_reducible apply turn_stepN; with_reducible assumption))))
              (first
                | (refine step_spread_if _ (by rfl) (.tmp 98) (.tmp 102) 24 (by rfl) 38 i0 _ 3 24 Try.underlying24 hi0 hz0 hs0 hy0 (by rfl) (by omega) (.slice (some ⟨U.heap.size, 0, none⟩) 0 0) 0 [] (by rfl) (by first | exact made_own' (by simp) | exact World.ownsRow.alloc (made_own' (by simp)) _) _ _ _ (inL (([] : List RV).take 0)) (by rfl) (by simp only [inL_length, List.length_take] <;> omega) (fun hm => HNT.out _ (by repeat' (first | exact Below.refl _ _ | refine Below.alloc ?_ ?_ _ | refine Below.setCell ?_ ?_ _ | refine Below.drew ?_ | refine below_drewN ?_ _ | (apply below_step; assumption) | (simp; done) | (simp; omega) | omega)) hm) (inL_one _) (by unfold maxLen; omega) (by omega) ?_; intro v5 w5 hown5 hg5 hk5; rw [Nat.zero_add, List.nil_append] at hown5; have h5b : ∀ q, v5.ownBlock = some q → U.heap.size ≤ q := (by intro q hq; rcases hk5 with h | h <;> rw [h] at hq <;> simp [Value.ownBlock] at hq <;> omega); have hB5 : Below U.heap.size U w5 := (Below.grown (by repeat' (first | exact Below.refl _ _ | refine Below.alloc ?_ ?_ _ | refine Below.setCell ?_ ?_ _ | refine Below.drew ?_ | refine below_drewN ?_ _ | (apply below_step; assumption) | (simp; done) | (simp; omega) | omega)) hg5 (by simp; try omega) (fun q hq => by simp [Value.ownBlock] at hq; omega)); (first | have hx5 := slice_after (cs := #[.int .i64 m.i, .int .i64 m.p, .int .i64 st]) hg5 | have hx5 := slice_before (cs := #[.int .i64 m.i, .int .i64 m.p, .int .i64 st]) hg5 | have hx5 : True := trivial); obtain ⟨F5, f5, rfl, _⟩ := own_form hown5; have HO5 := Lib.hid hown5; have H5B := Lib.hid h5b; have hz5 := hB5.size; have hT5 : TurnB [w4.heap.size] U w5 := TurnB.of_below hB5; clear hown5 hg5 hk5 h5b)
                | (refine step_spread_if _ (by rfl) (.tmp 98) (.tmp 102) 24 (by rfl) 38 i0 _ 3 24 Try.underlying24 hi0 hz0 hs0 hy0 (by rfl) (by omega) (.slice (some ⟨U.heap.size + 1, 0, none⟩) 0 0) 0 [] (by rfl) (by first | exact made_own' (by simp) | exact World.ownsRow.alloc (made_own' (by simp)) _) _ _ _ (inL (([] : List RV).take 0)) (by rfl) (by simp only [inL_length, List.length_take] <;> omega) (fun hm => HNT.out _ (by repeat' (first | exact Below.refl _ _ | refine Below.alloc ?_ ?_ _ | refine Below.setCell ?_ ?_ _ | refine Below.drew ?_ | refine below_drewN ?_ _ | (apply below_step; assumption) | (simp; done) | (simp; omega) | omega)) hm) (inL_one _) (by unfold maxLen; omega) (by omega) ?_; intro v5 w5 hown5 hg5 hk5; rw [Nat.zero_add, List.nil_append] at hown5; have h5b : ∀ q, v5.ownBlock = some q → U.heap.size ≤ q := (by intro q hq; rcases hk5 with h | h <;> rw [h] at hq <;> simp [Value.ownBlock] at hq <;> omega); have hB5 : Below U.heap.size U w5 := (Below.grown (by repeat' (first | exact Below.refl _ _ | refine Below.alloc ?_ ?_ _ | refine Below.setCell ?_ ?_ _ | refine Below.drew ?_ | refine below_drewN ?_ _ | (apply below_step; assumption) | (simp; done) | (simp; omega) | omega)) hg5 (by simp; try omega) (fun q hq => by simp [Value.ownBlock] at hq; omega)); (first | have hx5 := slice_after (cs := #[.int .i64 m.i, .int .i64 m.p, .int .i64 st]) hg5 | have hx5 := slice_before (cs := #[.int .i64 m.i, .int .i64 m.p, .int .i64 st]) hg5 | have hx5 : True := trivial); obtain ⟨F5, f5, rfl, _⟩ := own_form hown5; have HO5 := Lib.hid hown5; have H5B := Lib.hid h5b; have hz5 := hB5.size; have hT5 : TurnB [w4.heap.size] U w5 := TurnB.of_below hB5; clear hown5 hg5 hk5 h5b)
                | (refine step_spread_if _ (by rfl) (.tmp 103) (.tmp 105) 24 (by rfl) 38 i0 _ 3 24 Try.underlying24 hi0 hz0 hs0 hy0 (by rfl) (by omega) (.slice F5 0 f5) _ (inL (([] : List RV).take 0)) (by rfl) (by first | exact HO5.out | exact World.ownsRow.alloc HO5.out _) _ 1 1 [.int .i64 m.i, .int .i64 m.p, .int .i64 st] (by rfl) (by rfl) (fun _ => by first | exact news_of (BlockIs.new _ _ _) | exact news_of hx5) (by intro u hu; simp at hu; rcases hu with rfl | rfl | rfl <;> rfl) (by unfold maxLen; omega) (by omega) ?_; intro v6 w6 hown6 hg6 hk6; have h6b : ∀ q, v6.ownBlock = some q → U.heap.size ≤ q := (by intro q hq; rcases hk6 with h | h; exact H5B.out q (h ▸ hq); rw [h] at hq; simp at hq; omega); have hB6 : Below U.heap.size U w6 := (Below.grown (by repeat' (first | exact Below.refl _ _ | refine Below.alloc ?_ ?_ _ | refine Below.setCell ?_ ?_ _ | refine Below.drew ?_ | refine below_drewN ?_ _ | (apply below_step; assumption) | (simp; done) | (simp; omega) | omega)) hg6 (by (first | omega | (simp; omega))) (fun q hq => H5B.out q hq)); obtain ⟨F6, f6, rfl, _⟩ := own_form hown6; have HO6 := Lib.hid hown6; have H6B := Lib.hid h6b; have hz6 := hB6.size; have hT6 : TurnB [w4.heap.size] U w6 := TurnB.of_below hB6; clear hown6 hg6 hk6 h6b)
                | (refine step_spread_if _ (by rfl) (.tmp 106) (.tmp 110) 24 (by rfl) 38 i0 _ 3 24 Try.underlying24 hi0 hz0 hs0 hy0 (by rfl) (by omega) (.slice F6 (0 + 1) f6) _ _ (by rfl) HO6.out _ _ _ (inL (([] : List RV).drop 0)) (by rfl) (by simp only [inL_length, List.length_drop] <;> omega) (fun hm => HND.out _ _ (by repeat' (first | exact Below.refl _ _ | refine Below.alloc ?_ ?_ _ | refine Below.setCell ?_ ?_ _ | refine Below.drew ?_ | refine below_drewN ?_ _ | (apply below_step; assumption) | (simp; done) | (simp; omega) | omega)) hm rfl) (inL_one _) (by unfold maxLen; omega) (by omega) ?_; intro v7 w7 hown7 hg7 hk7; have h7b : ∀ q, v7.ownBlock = some q → U.heap.size ≤ q := (by intro q hq; rcases hk7 with h | h; exact H6B.out q (h ▸ hq); rw [h] at hq; simp at hq; omega); have hB7 : Below U.heap.size U w7 := (Below.grown (by repeat' (first | exact Below.refl _ _ | refine Below.alloc ?_ ?_ _ | refine Below.setCell ?_ ?_ _ | refine Below.drew ?_ | refine below_drewN ?_ _ | (apply below_step; assumption) | (simp; done) | (simp; omega) | omega)) hg7 (by (first | omega | (simp; omega))) (fun q hq => H6B.out q hq)); have HO7 := Lib.hid (own_inst (L := ([] : List RV).take 0 ++ ⟨m.i, m.p, st⟩ :: ([] : List RV).drop 0) hown7 (by rw [inL_append, inL_cons]; simp) (by simp; (try omega)) h7b); obtain ⟨F7, f7, hv7, _⟩ := own_form hown7; generalize hn7 : (_ + _ : Nat) = n7 at hv7; subst hv7; clear hn7; have H7B := Lib.hid h7b; have hz7 := hB7.size; have hT7 : TurnB [w4.heap.size] U w7 := TurnB.of_below hB7; have GB7 := GBU.out.below hB7 hgU; have OB7 := OBU.out.below hB7 hoU; have e0 := GB7.cell 0; have e1 := GB7.cell 1; have ef := GB7.frozen; have d0 := OB7.cell 0; have d1 := OB7.cell 1; have df := OB7.frozen; (simp at e0 e1 d0 d1); have HOB7 := Lib.hid OB7; clear hown7 hg7 hk7 h7b GB7 OB7))
            all_goals go_wp2_with fail
            all_goals
              have B2 := ((HOB7.out.far (p := ⟨w4.heap.size, 1, none⟩) (by simp; omega) (.slice F7 n7 f7)).put 0 (.int .i64 m.e)).put 1 (.slice F7 n7 f7)
              have z0 := B2.cell 0
              have z1 := B2.cell 1
              simp at z0 z1
              refine bodyPost_ret (v := .tuple #[.agg #[.int .i64 m.e, .slice F7 n7 f7], .int .i64 0]) (by simp [results, Try.results13, go_sem, z0, z1]) rfl ?_
              refine RetPA_fine HE3.out ?_ ?_
              · exact (((HO7.out.far (p := ⟨w4.heap.size, 1, none⟩) (fun e => absurd (H7B.out _ e) (by simp; omega)) (.slice F7 n7 f7)).far (p := ⟨w.heap.size + 1 + 1, 0, none⟩) (fun e => absurd (H7B.out _ e) (by simp; omega)) (.int .i64 m.e)).far (p := ⟨w.heap.size + 1 + 1, 1, none⟩) (fun e => absurd (H7B.out _ e) (by simp; omega)) (.slice F7 n7 f7)).low (by omega)
              · exact (((below_of hCU hB7).setCell (by simp; omega) _).setCell (by simp; omega) _).setCell (by simp; omega) _
          · simp only [Value.slice.injEq] at e
            obtain ⟨rfl, -, rfl⟩ := e
            have h4i : (l.length : Int) ≤ (c : Int) := by omega
            have hBU : Below V.heap.size V (wr.drewN nq) := below_drewN hB nq
            generalize wr.drewN nq = U at hBU ⊢
            have hCU := below_of hCV hBU
            have HE3 := Lib.hid (show ans = ⟨m.e, l.take l.length ++ ⟨m.i, m.p, st⟩ :: l.drop l.length, 0⟩ by rw [HE2.out, HLOW.out] <;> rfl)
            have HKT := Lib.hid (show ∀ w', TurnB [w4.heap.size] U w' → TurnB [w4.heap.size] U w' ∧ (∀ o, w'.cell? ⟨w.heap.size, o, none⟩ = (#[.int .i64 ep, .slice (some ⟨b, off, none⟩) l.length c] : Array Value)[o]?) ∧ (∀ o, w'.cell? ⟨w4.heap.size + 1, o, none⟩ = (#[.int .i64 m.i, .int .i64 m.p, .int .i64 st] : Array Value)[o]?) from
              fun w' ht => ⟨ht, ((SBV.out.below hBU SBV.out.lt).turn ht (by simp; omega)).cell, ((HXB.out.below hBU hxV).turn ht (by simp)).cell⟩)
            have GBU := Lib.hid (HGB.out.below hBU hgV)
            have OBU := Lib.hid (OBV.out.below hBU OBV.out.lt)
            have hgU := GBU.out.lt
            have hoU := OBU.out.lt
            have hzU := hBU.size
            have HNT := Lib.hid (fun w' (hb : Below w.heap.size w w') hm => (HV.out.below hb).takes l.length hm hk)
            have HND := Lib.hid (fun (A' : Option Addr) w' (hb : Below w.heap.size w w') (hm : 0 < l.length - l.length) (he : A' = if c = l.length then (some ⟨b, off, none⟩) else some ⟨b, off + l.length * 3, none⟩) => show ∃ b off, A' = some ⟨b, off, none⟩ ∧ CellsAt w' b off (inL (l.drop l.length)) from ⟨b, off + l.length * 3, by rw [he, if_neg (by omega)], (HV.out.below hb).drops l.length (by omega)⟩)
            obtain ⟨i0, hi0, hz0, hs0, hy0⟩ := info_parts Try.infoInst
            clear gr mr grl mrl hB hzr hCr SBr MBr HLO
            go_region_held3 (fun w' => TurnB [w4.heap.size] U w' ∧ (∀ o, w'.cell? ⟨w.heap.size, o, none⟩ = (#[.int .i64 ep, .slice (some ⟨b, off, none⟩) l.length c] : Array Value)[o]?) ∧ (∀ o, w'.cell? ⟨w4.heap.size + 1, o, none⟩ = (#[.int .i64 m.i, .int .i64 m.p, .int .i64 st] : Array Value)[o]?))
              (exact HKT.out _ (by repeat' (first | assumption | with_reducible exact TurnB.refl _ _ | with_reducible refine TurnB.put ?_ (List.mem_singleton.2 rfl) _ _ | with_reducible refine TurnB.drewN' ?_ | with_reducible refine TurnB.allocN ?_ _ | (with_reducible apply turn_stepN; with_reducible assumption))))
              (first
                | (refine step_spread_if _ (by rfl) (.tmp 98) (.tmp 102) 24 (by rfl) 38 i0 _ 3 24 Try.underlying24 hi0 hz0 hs0 hy0 (by rfl) (by omega) (.slice (some ⟨U.heap.size, 0, none⟩) 0 0) 0 [] (by rfl) (by first | exact made_own' (by simp) | exact World.ownsRow.alloc (made_own' (by simp)) _) _ _ _ (inL (l.take l.length)) (by rfl) (by simp only [inL_length, List.length_take] <;> omega) (fun hm => HNT.out _ (by repeat' (first | exact Below.refl _ _ | refine Below.alloc ?_ ?_ _ | refine Below.setCell ?_ ?_ _ | refine Below.drew ?_ | refine below_drewN ?_ _ | (apply below_step; assumption) | (simp; done) | (simp; omega) | omega)) hm) (inL_one _) (by unfold maxLen; omega) (by omega) ?_; intro v5 w5 hown5 hg5 hk5; rw [Nat.zero_add, List.nil_append] at hown5; have h5b : ∀ q, v5.ownBlock = some q → U.heap.size ≤ q := (by intro q hq; rcases hk5 with h | h <;> rw [h] at hq <;> simp [Value.ownBlock] at hq <;> omega); have hB5 : Below U.heap.size U w5 := (Below.grown (by repeat' (first | exact Below.refl _ _ | refine Below.alloc ?_ ?_ _ | refine Below.setCell ?_ ?_ _ | refine Below.drew ?_ | refine below_drewN ?_ _ | (apply below_step; assumption) | (simp; done) | (simp; omega) | omega)) hg5 (by simp; try omega) (fun q hq => by simp [Value.ownBlock] at hq; omega)); (first | have hx5 := slice_after (cs := #[.int .i64 m.i, .int .i64 m.p, .int .i64 st]) hg5 | have hx5 := slice_before (cs := #[.int .i64 m.i, .int .i64 m.p, .int .i64 st]) hg5 | have hx5 : True := trivial); obtain ⟨F5, f5, rfl, _⟩ := own_form hown5; have HO5 := Lib.hid hown5; have H5B := Lib.hid h5b; have hz5 := hB5.size; have hT5 : TurnB [w4.heap.size] U w5 := TurnB.of_below hB5; clear hown5 hg5 hk5 h5b)
                | (refine step_spread_if _ (by rfl) (.tmp 98) (.tmp 102) 24 (by rfl) 38 i0 _ 3 24 Try.underlying24 hi0 hz0 hs0 hy0 (by rfl) (by omega) (.slice (some ⟨U.heap.size + 1, 0, none⟩) 0 0) 0 [] (by rfl) (by first | exact made_own' (by simp) | exact World.ownsRow.alloc (made_own' (by simp)) _) _ _ _ (inL (l.take l.length)) (by rfl) (by simp only [inL_length, List.length_take] <;> omega) (fun hm => HNT.out _ (by repeat' (first | exact Below.refl _ _ | refine Below.alloc ?_ ?_ _ | refine Below.setCell ?_ ?_ _ | refine Below.drew ?_ | refine below_drewN ?_ _ | (apply below_step; assumption) | (simp; done) | (simp; omega) | omega)) hm) (inL_one _) (by unfold maxLen; omega) (by omega) ?_; intro v5 w5 hown5 hg5 hk5; rw [Nat.zero_add, List.nil_append] at hown5; have h5b : ∀ q, v5.ownBlock = some q → U.heap.size ≤ q := (by intro q hq; rcases hk5 with h | h <;> rw [h] at hq <;> simp [Value.ownBlock] at hq <;> omega); have hB5 : Below U.heap.size U w5 := (Below.grown (by repeat' (first | exact Below.refl _ _ | refine Below.alloc ?_ ?_ _ | refine Below.setCell ?_ ?_ _ | refine Below.drew ?_ | refine below_drewN ?_ _ | (apply below_step; assumption) | (simp; done) | (simp; omega) | omega)) hg5 (by simp; try omega) (fun q hq => by simp [Value.ownBlock] at hq; omega)); (first | have hx5 := slice_after (cs := #[.int .i64 m.i, .int .i64 m.p, .int .i64 st]) hg5 | have hx5 := slice_before (cs := #[.int .i64 m.i, .int .i64 m.p, .int .i64 st]) hg5 | have hx5 : True := trivial); obtain ⟨F5, f5, rfl, _⟩ := own_form hown5; have HO5 := Lib.hid hown5; have H5B := Lib.hid h5b; have hz5 := hB5.size; have hT5 : TurnB [w4.heap.size] U w5 := TurnB.of_below hB5; clear hown5 hg5 hk5 h5b)
                | (refine step_spread_if _ (by rfl) (.tmp 103) (.tmp 105) 24 (by rfl) 38 i0 _ 3 24 Try.underlying24 hi0 hz0 hs0 hy0 (by rfl) (by omega) (.slice F5 l.length f5) _ (inL (l.take l.length)) (by rfl) (by first | exact HO5.out | exact World.ownsRow.alloc HO5.out _) _ 1 1 [.int .i64 m.i, .int .i64 m.p, .int .i64 st] (by rfl) (by rfl) (fun _ => by first | exact news_of (BlockIs.new _ _ _) | exact news_of hx5) (by intro u hu; simp at hu; rcases hu with rfl | rfl | rfl <;> rfl) (by unfold maxLen; omega) (by omega) ?_; intro v6 w6 hown6 hg6 hk6; have h6b : ∀ q, v6.ownBlock = some q → U.heap.size ≤ q := (by intro q hq; rcases hk6 with h | h; exact H5B.out q (h ▸ hq); rw [h] at hq; simp at hq; omega); have hB6 : Below U.heap.size U w6 := (Below.grown (by repeat' (first | exact Below.refl _ _ | refine Below.alloc ?_ ?_ _ | refine Below.setCell ?_ ?_ _ | refine Below.drew ?_ | refine below_drewN ?_ _ | (apply below_step; assumption) | (simp; done) | (simp; omega) | omega)) hg6 (by (first | omega | (simp; omega))) (fun q hq => H5B.out q hq)); obtain ⟨F6, f6, rfl, _⟩ := own_form hown6; have HO6 := Lib.hid hown6; have H6B := Lib.hid h6b; have hz6 := hB6.size; have hT6 : TurnB [w4.heap.size] U w6 := TurnB.of_below hB6; clear hown6 hg6 hk6 h6b)
                | (refine step_spread_if _ (by rfl) (.tmp 106) (.tmp 110) 24 (by rfl) 38 i0 _ 3 24 Try.underlying24 hi0 hz0 hs0 hy0 (by rfl) (by omega) (.slice F6 (l.length + 1) f6) _ _ (by rfl) HO6.out _ _ _ (inL (l.drop l.length)) (by rfl) (by simp only [inL_length, List.length_drop] <;> omega) (fun hm => absurd hm (by simp)) (inL_one _) (by unfold maxLen; omega) (by omega) ?_; intro v7 w7 hown7 hg7 hk7; have h7b : ∀ q, v7.ownBlock = some q → U.heap.size ≤ q := (by intro q hq; rcases hk7 with h | h; exact H6B.out q (h ▸ hq); rw [h] at hq; simp at hq; omega); have hB7 : Below U.heap.size U w7 := (Below.grown (by repeat' (first | exact Below.refl _ _ | refine Below.alloc ?_ ?_ _ | refine Below.setCell ?_ ?_ _ | refine Below.drew ?_ | refine below_drewN ?_ _ | (apply below_step; assumption) | (simp; done) | (simp; omega) | omega)) hg7 (by (first | omega | (simp; omega))) (fun q hq => H6B.out q hq)); have HO7 := Lib.hid (own_inst (L := l.take l.length ++ ⟨m.i, m.p, st⟩ :: l.drop l.length) hown7 (by rw [inL_append, inL_cons]; simp) (by simp; (try omega)) h7b); obtain ⟨F7, f7, hv7, _⟩ := own_form hown7; generalize hn7 : (_ + _ : Nat) = n7 at hv7; subst hv7; clear hn7; have H7B := Lib.hid h7b; have hz7 := hB7.size; have hT7 : TurnB [w4.heap.size] U w7 := TurnB.of_below hB7; have GB7 := GBU.out.below hB7 hgU; have OB7 := OBU.out.below hB7 hoU; have e0 := GB7.cell 0; have e1 := GB7.cell 1; have ef := GB7.frozen; have d0 := OB7.cell 0; have d1 := OB7.cell 1; have df := OB7.frozen; (simp at e0 e1 d0 d1); have HOB7 := Lib.hid OB7; clear hown7 hg7 hk7 h7b GB7 OB7))
            all_goals go_wp2_with fail
            all_goals
              have B2 := ((HOB7.out.far (p := ⟨w4.heap.size, 1, none⟩) (by simp; omega) (.slice F7 n7 f7)).put 0 (.int .i64 m.e)).put 1 (.slice F7 n7 f7)
              have z0 := B2.cell 0
              have z1 := B2.cell 1
              simp at z0 z1
              refine bodyPost_ret (v := .tuple #[.agg #[.int .i64 m.e, .slice F7 n7 f7], .int .i64 0]) (by simp [results, Try.results13, go_sem, z0, z1]) rfl ?_
              refine RetPA_fine HE3.out ?_ ?_
              · exact (((HO7.out.far (p := ⟨w4.heap.size, 1, none⟩) (fun e => absurd (H7B.out _ e) (by simp; omega)) (.slice F7 n7 f7)).far (p := ⟨w.heap.size + 1 + 1, 0, none⟩) (fun e => absurd (H7B.out _ e) (by simp; omega)) (.int .i64 m.e)).far (p := ⟨w.heap.size + 1 + 1, 1, none⟩) (fun e => absurd (H7B.out _ e) (by simp; omega)) (.slice F7 n7 f7)).low (by omega)
              · exact (((below_of hCU hB7).setCell (by simp; omega) _).setCell (by simp; omega) _).setCell (by simp; omega) _

  · rcases HK.out with ⟨hk, _, _⟩ | ⟨hk, hp0⟩
    · have HE2 := Lib.hid (HE.out.trans (doGot_here HOLD.out hk (List.any_eq_true.2 ⟨x, List.mem_of_getElem? hx, by simpa using hxz⟩)))
      have hk2 : (m.k == 2) = false := by simp; omega
      have hk1 : (m.k == 1) = true := by simpa using hk
      have hjn : decide (((0 + j : Nat) : Int) < 0) = false := decide_eq_false (by omega)
      have hjg : decide ((0 : Int) ≤ ((0 + j : Nat) : Int)) = true := decide_eq_true (by omega)
      generalize ((0 + j : Nat) : Int) = jz at *
      clear hx hxz hk HINS HK
      go_wp2_with fail
      refine (HCP.out _ (HV.out.below hC3)).mono ?_
      rintro e w4 ⟨v4, rfl, ho4, hb4⟩
      have hC4 := below_of hC3 hb4
      obtain ⟨A4, c4, rfl⟩ := ho4.len
      have dlX := dl
      clear g3 m3 d0 d1 df dl
      have SB4 := Lib.hid (SB3.out.below hb4 SB3.out.lt)
      have MB4 := Lib.hid (MB3.out.below hb4 MB3.out.lt)
      have OB4 := Lib.hid (OB3.out.below hb4 OB3.out.lt)
      clear SB3 MB3 OB3
      have g4 := SB4.out.cell
      have m4 := MB4.out.cell
      have d0 := OB4.out.cell 0
      have d1 := OB4.out.cell 1
      have df := OB4.out.frozen
      have dl := OB4.out.lt
      simp at d0 d1
      have ml := MB4.out.lt
      have gl := SB4.out.lt
      have HO4 := Lib.hid ho4
      have hz3 := hC3.size
      have hz4 := hb4.size
      clear ho4 hb4 HCP

      have HROW := Lib.hid (fun q (e : (.slice A4 l.length c4 : Value).ownBlock = some q) => (World.ownsRow.lt HO4.out q e).1)
      go_wp2_with fail
      have B2 := ((OB4.out.put 0 (.int .i64 m.e)).put 1 (.slice A4 l.length c4)).alloc (.cells #[.int .i64 m.e, .slice A4 l.length c4] 26)
      have z0 := B2.cell 0
      have z1 := B2.cell 1
      simp at z0 z1
      refine bodyPost_ret (v := .tuple #[.agg #[.int .i64 m.e, .slice A4 l.length c4], .int .i64 0]) (by simp [results, Try.results13, go_sem, z0, z1]) rfl ?_
      refine RetPA_fine HE2.out ?_ ?_
      · exact (((HO4.out.far (p := ⟨w.heap.size + 1 + 1, 0, none⟩) (fun e => absurd (HROW.out _ e) (by simp; omega)) (.int .i64 m.e)).far (p := ⟨w.heap.size + 1 + 1, 1, none⟩) (fun e => absurd (HROW.out _ e) (by simp; omega)) (.slice A4 l.length c4)).alloc _).low (by omega)
      · exact ((hC4.setCell (by simp; omega) _).setCell (by simp; omega) _).alloc (by simp; omega) _
    · clear hp0
      have HE2 := Lib.hid (HE.out.trans (doGot_gone HR.out HOLD.out hk hx hxz))
      have hjl : j < l.length := (List.getElem?_eq_some_iff.1 hx).1
      have hjli : (j : Int) < (l.length : Int) := by omega
      have HX := Lib.hid hx
      have hk2 : (m.k == 2) = true := by simpa using hk
      have hk1 : (m.k == 1) = false := by simp; omega
      simp only [Nat.zero_add]
      clear hx hxz hk HINS HK
      go_wp2_with fail
      refine (HCP.out _ (HV.out.below hC3)).mono ?_
      rintro e w4 ⟨v4, rfl, ho4, hb4⟩
      have hC4 := below_of hC3 hb4
      obtain ⟨A4, c4, rfl⟩ := ho4.len
      have dlX := dl
      clear g3 m3 d0 d1 df dl
      have SB4 := Lib.hid (SB3.out.below hb4 SB3.out.lt)
      have MB4 := Lib.hid (MB3.out.below hb4 MB3.out.lt)
      have OB4 := Lib.hid (OB3.out.below hb4 OB3.out.lt)
      clear SB3 MB3 OB3
      have g4 := SB4.out.cell
      have m4 := MB4.out.cell
      have d0 := OB4.out.cell 0
      have d1 := OB4.out.cell 1
      have df := OB4.out.frozen
      have dl := OB4.out.lt
      simp at d0 d1
      have ml := MB4.out.lt
      have gl := SB4.out.lt
      have HO4 := Lib.hid ho4
      have hz3 := hC3.size
      have hz4 := hb4.size
      clear ho4 hb4 HCP

      obtain ⟨gv, cv, ev, hgv, hgvl, p0, p1, p2, pf⟩ := HO4.out.at_ HX.out
      simp only [Value.slice.injEq] at ev
      obtain ⟨rfl, -, rfl⟩ := ev
      have HROW := Lib.hid (fun q (e : (.slice (some ⟨gv, 0, none⟩) l.length c4 : Value).ownBlock = some q) => (World.ownsRow.lt HO4.out q e).1)
      have hn1 : gv ≠ w4.heap.size := by omega
      have hn3 : gv ≠ w.heap.size + 1 + 1 := by omega
      go_wp2_with fail
      have B2 := (((OB4.out.far (p := ⟨gv, j * 3 + 2, none⟩) (fun e => hn3 e.symm) (.int .i64 2)).put 0 (.int .i64 m.e)).put 1 (.slice (some ⟨gv, 0, none⟩) l.length c4)).alloc (.cells #[.int .i64 m.e, .slice (some ⟨gv, 0, none⟩) l.length c4] 26)
      have z0 := B2.cell 0
      have z1 := B2.cell 1
      simp at z0 z1
      refine bodyPost_ret (v := .tuple #[.agg #[.int .i64 m.e, .slice (some ⟨gv, 0, none⟩) l.length c4], .int .i64 0]) (by simp [results, Try.results13, go_sem, z0, z1]) rfl ?_
      refine RetPA_fine HE2.out ?_ ?_
      · have h1 := HO4.out.gone HX.out
        have h2 := (((h1.far (p := ⟨w.heap.size + 1 + 1, 0, none⟩) (fun e => absurd (HROW.out _ e) (by simp; omega)) (.int .i64 m.e)).far (p := ⟨w.heap.size + 1 + 1, 1, none⟩) (fun e => absurd (HROW.out _ e) (by simp; omega)) (.slice (some ⟨gv, 0, none⟩) l.length c4)).alloc (.cells #[.int .i64 m.e, .slice (some ⟨gv, 0, none⟩) l.length c4] 26)).low (base' := w.heap.size) (by omega)
        simpa using h2
      · exact (((hC4.setCell (by simp; omega) _).setCell (by simp; omega) _).setCell (by simp; omega) _).alloc (by simp; omega) _

end Go.Proofs.Ytbmiefhgkagcgaa
