/- The contracts of ProvFail and ProvDo. -/
import Derived.Test.YtbmiefhgkagcgaaProvW
import Derived.Deep.RegionHeld3
namespace Go.Proofs.Ytbmiefhgkagcgaa
open Go.RowKit

/-- The ending 'a provider of the call's own and a code'. -/
def RetPA (a : SA) (w : World) (e : Ending) (w' : World) : Prop := ∃ v, e = .returned (.tuple #[.agg #[.int .i64 a.ep, v], .int .i64 a.code]) ∧ OwnsN w' w.heap.size v a.items ∧ Below w.heap.size w w'
theorem RetPA_bad {a : SA} {w w' : World} {k : Int} (h : a = .bad k) (hb : Below w.heap.size w w') : RetPA a w (.returned (.tuple #[.agg #[.int .i64 0, .slice none 0 0], .int .i64 k])) w' := by subst h; exact ⟨_, rfl, OwnsN.nil _ _, hb⟩
theorem RetPA_fine {a : SA} {w w' : World} {ep : Int} {l : List RV} {v : Value} (h : a = ⟨ep, l, 0⟩) (ho : OwnsN w' w.heap.size v l) (hb : Below w.heap.size w w') : RetPA a w (.returned (.tuple #[.agg #[.int .i64 ep, v], .int .i64 0])) w' := by subst h; exact ⟨_, rfl, ho, hb⟩
theorem OwnsN.far {w : World} {base : Nat} {v : Value} {l : List RV} (h : OwnsN w base v l) {p : Addr} (hne : v.ownBlock ≠ some p.block) (u : Value) : OwnsN (w.setCell p u) base v l := own_agree h (fun b hb => Below.heap_setCell w p u b (fun e => hne (by rw [← e]; simpa [blk, Option.mem_toList] using hb)))
theorem OwnsN.low {w : World} {base base' : Nat} {v : Value} {l : List RV} (h : OwnsN w base v l) (hb : base' ≤ base) : OwnsN w base' v l := by
  obtain ⟨h1, h2⟩ := h
  refine ⟨h1, ?_⟩
  rcases h2 with h | ⟨g, cap, cur, hv, hg, h⟩
  · exact .inl h
  · exact .inr ⟨g, cap, cur, hv, by omega, h⟩
/-- Behind 'out := Prov{.., copyList(..)}': box g holds an epoch and a row of its own. -/
def CutPv (X : World) (ep : Int) (l : List RV) (s : Value) (wx : World) : Prop := ∃ g v, s = .pointer (some ⟨g, 0, none⟩) ∧ X.heap.size ≤ g ∧ BlockIs wx g 26 #[.int .i64 ep, v] ∧ OwnsN wx X.heap.size v l ∧ v.ownBlock ≠ some g ∧ Below X.heap.size X wx
theorem cutPv_late {X w3 : World} {ep : Int} {l : List RV} {A : Option Addr} {n c : Nat} (hb : Below X.heap.size X w3) (ho : OwnsN w3 X.heap.size (.slice A n c) l) : CutPv X ep l (.pointer (some ⟨w3.heap.size, 0, none⟩)) (w3.alloc (.cells #[.int .i64 ep, .slice A n c] 26)) :=
  ⟨w3.heap.size, _, rfl, hb.size, BlockIs.new _ _ _, ho.alloc _, fun e => by have := (World.ownsRow.lt ho _ e).2; omega, hb.alloc hb.size _⟩
theorem cutPv_early {X w3 : World} {ep : Int} {l : List RV} {A : Option Addr} {n c : Nat} (hb : Below X.heap.size X w3) (hk : BlockIs w3 X.heap.size 26 #[.int .i64 0, .slice none 0 0]) (ho : OwnsN w3 (X.heap.size + 1) (.slice A n c) l) : CutPv X ep l (.pointer (some ⟨X.heap.size, 0, none⟩)) ((w3.setCell ⟨X.heap.size, 0, none⟩ (.int .i64 ep)).setCell ⟨X.heap.size, 1, none⟩ (.slice A n c)) := by
  have hne : (Value.slice A n c).ownBlock ≠ some X.heap.size := fun e => by have := (World.ownsRow.lt ho _ e).1; omega
  exact ⟨X.heap.size, _, rfl, Nat.le_refl _, (hk.put 0 _).put 1 _, ((ho.far hne _).far hne _).low (by omega), hne, (hb.setCell (Nat.le_refl _) _).setCell (Nat.le_refl _) _⟩
theorem provFail_bad {ep : Int} {l : List RV} {id : Int} (h : provOk ep l = false) : provFail ep l id = .bad 1 := by unfold provFail; rw [h]; rfl
theorem provFail_none {ep : Int} {l : List RV} {id : Int} (h : provOk ep l = true) (ha : l.any (fun x => x.c == id) = false) : provFail ep l id = .bad 6 := by unfold provFail; rw [h, itemAt_no ha]; rfl
theorem provFail_down {ep : Int} {l : List RV} {id : Int} {x : RV} (h : provOk ep l = true) (hx : l[lowAt id l]? = some x) (hz : x.c = id) (hp : ¬ x.p = 1) : provFail ep l id = .bad 6 := by
  unfold provFail; rw [h, itemAt_low (provOk_all h).2.2.2 hx hz, if_pos rfl, if_neg hp]
theorem provFail_fine {ep : Int} {l : List RV} {id : Int} {x : RV} (h : provOk ep l = true) (hx : l[lowAt id l]? = some x) (hz : x.c = id) (hp : x.p = 1) : provFail ep l id = ⟨ep, l.set (lowAt id l) ⟨x.c, x.m, 2⟩, 0⟩ := by
  have hr := (provOk_all h).2.2.2
  unfold provFail; rw [h, itemAt_low hr hx hz, if_pos rfl, if_pos hp]
  congr 1
  rw [← hz]; exact goneAt_set hr (by rw [hz]; exact hx)
set_option maxRecDepth 20000 in
set_option maxHeartbeats 3200000 in
theorem ProvFail_any (ep : Int) (v : Value) (l : List RV) (id : Int) (w : World) (hv : InSl w v l) (hlen : l.length ≤ 1048576) : Calls Try.prog 20 #[.agg #[.int .i64 ep, v], .int .i64 id] w (RetPA (provFail ep l id) w) := by
  obtain ⟨A, c, rfl, hA⟩ := hv.form
  have HA := Lib.hid hA
  have HV := Lib.hid hv
  clear hA hv
  have HP := Lib.hid (fun w h => ProvOk_any ep (.slice A l.length c) l w h)
  have HCP := Lib.hid (fun w h => copyInst_any (.slice A l.length c) l w h hlen)
  have HB := Lib.hid (@provFail_bad ep l id)
  have HN := Lib.hid (@provFail_none ep l id)
  have HD := Lib.hid (fun x : RV => @provFail_down ep l id x)
  have HF := Lib.hid (fun x : RV => @provFail_fine ep l id x)
  have HOK := Lib.hid (@provOk_all ep l)
  generalize provFail ep l id = ans at *
  generalize provOk ep l = ok at *
  go_enter Try.func20, Try.ntmps20
  go_wp2_with fail
  have hX : Below w.heap.size w ((w.alloc (.cells #[.int .i64 ep, .slice A l.length c] 26)).alloc (.cells #[.int .i64 0, .slice none 0 0] 26)) := (by repeat' (first | exact Below.refl _ _ | refine Below.alloc ?_ ?_ _ | refine Below.setCell ?_ ?_ _ | refine Below.drew ?_ | (apply below_step; assumption) | (simp; done) | (simp; omega) | omega))
  refine (HP.out _ (HV.out.below hX)).mono ?_
  rintro e w1 ⟨rfl, hb1⟩
  have hC1 := below_of hX hb1
  have SB1 := Lib.hid (((BlockIs.new w 26 #[.int .i64 ep, .slice A l.length c]).alloc (.cells #[.int .i64 0, .slice none 0 0] 26)).below hb1 (by simp; omega))
  have OB1 := Lib.hid ((BlockIs.new' (w := w.alloc (.cells #[.int .i64 ep, .slice A l.length c] 26)) (t := 26) (cs := #[.int .i64 0, .slice none 0 0]) (g := w.heap.size + 1) (by simp)).below hb1 (by simp))
  have g1 := SB1.out.cell
  have d0 := OB1.out.cell 0
  have d1 := OB1.out.cell 1
  have df := OB1.out.frozen
  have dl := OB1.out.lt
  simp at d0 d1
  clear hX hb1
  cases ok
  · have HE := Lib.hid (HB.out rfl)
    clear HB HN HD HF HOK
    go_wp2_with fail
    refine bodyPost_ret (v := .tuple #[.agg #[.int .i64 0, .slice none 0 0], .int .i64 1]) (by simp [results, Try.results20, go_sem, d0, d1]) rfl ?_
    exact RetPA_bad HE.out (by repeat' (first | exact Below.refl _ _ | refine Below.alloc ?_ ?_ _ | refine Below.setCell ?_ ?_ _ | refine Below.drew ?_ | (apply below_step; assumption) | (simp; done) | (simp; omega) | omega))
  obtain ⟨_, _, _, hrise⟩ := HOK.out rfl
  have HR := Lib.hid hrise
  have HN1 := Lib.hid (HN.out rfl)
  have HD1 := Lib.hid (fun x => HD.out x rfl)
  have HF1 := Lib.hid (fun x => HF.out x rfl)
  clear hrise HOK HB HN HD HF
  go_wp2_with fail
  refine (seek_any ep _ l id _ (HV.out.below hC1) hlen).mono ?_
  rintro e w2 ⟨i, b, rfl, hs, hb2⟩
  obtain ⟨rfl, hb⟩ := hs.2 HR.out
  have hC2 := below_of hC1 hb2
  have SB2 := Lib.hid (SB1.out.below hb2 SB1.out.lt)
  have OB2 := Lib.hid (OB1.out.below hb2 OB1.out.lt)
  have g2 := SB2.out.cell
  have d0 := OB2.out.cell 0
  have d1 := OB2.out.cell 1
  have df := OB2.out.frozen
  have dl := OB2.out.lt
  simp at d0 d1
  have HBB := Lib.hid hb
  clear hb hs hb2 SB1 OB1 g1
  cases b
  · have HE := Lib.hid (HN1.out HBB.out.symm)
    clear HN1 HD1 HF1 HBB
    go_wp2_with fail
    refine bodyPost_ret (v := .tuple #[.agg #[.int .i64 0, .slice none 0 0], .int .i64 6]) (by simp [results, Try.results20, go_sem, d0, d1]) rfl ?_
    exact RetPA_bad HE.out (by repeat' (first | exact Below.refl _ _ | refine Below.alloc ?_ ?_ _ | refine Below.setCell ?_ ?_ _ | refine Below.drew ?_ | (apply below_step; assumption) | (simp; done) | (simp; omega) | omega))
  obtain ⟨x, hx, hxz⟩ := (lowAt_has HR.out id).1 HBB.out.symm
  have hlt : lowAt id l < l.length := (List.getElem?_eq_some_iff.1 hx).1
  obtain ⟨b, off, rfl, hbw, hat⟩ := HA.out (by omega)
  obtain ⟨q0, q1, q2⟩ := (hat.below hC2 hbw) _ x hx
  have HDX := Lib.hid (HD1.out x hx hxz)
  have HFX := Lib.hid (HF1.out x hx hxz)
  have hlti : ((lowAt id l : Nat) : Int) < (l.length : Int) := by omega
  generalize lowAt id l = i at *
  have HX := Lib.hid hx
  clear hat hx hxz HN1 HD1 HF1 HBB
  by_cases hp : x.p = 1
  rotate_left
  · have HE := Lib.hid (HDX.out hp)
    clear HDX HFX
    go_wp2_with fail
    refine bodyPost_ret (v := .tuple #[.agg #[.int .i64 0, .slice none 0 0], .int .i64 6]) (by simp [results, Try.results20, go_sem, d0, d1]) rfl ?_
    exact RetPA_bad HE.out (by repeat' (first | exact Below.refl _ _ | refine Below.alloc ?_ ?_ _ | refine Below.setCell ?_ ?_ _ | refine Below.drew ?_ | (apply below_step; assumption) | (simp; done) | (simp; omega) | omega))
  have HE := Lib.hid (HFX.out hp)
  clear HDX HFX
  go_upto_region 6 with fail
  have HK := Lib.hid (show ∀ w', Below w2.heap.size w2 w' → Below w2.heap.size w2 w' ∧ (∀ o, w'.cell? ⟨w.heap.size, o, none⟩ = (#[.int .i64 ep, .slice (some ⟨b, off, none⟩) l.length c] : Array Value)[o]?) from
    fun w' hb => ⟨hb, (SB2.out.below hb SB2.out.lt).cell⟩)
  go_cut [8] (fun s8 wx => CutPv w2 ep l s8 wx)
  case first =>
    go_region_held3 (fun w' => Below w2.heap.size w2 w' ∧ (∀ o, w'.cell? ⟨w.heap.size, o, none⟩ = (#[.int .i64 ep, .slice (some ⟨b, off, none⟩) l.length c] : Array Value)[o]?))
      (exact HK.out _ (by repeat' (first | exact Below.refl _ _ | refine Below.alloc ?_ ?_ _ | refine Below.setCell ?_ ?_ _ | refine Below.drew ?_ | (apply below_step; assumption) | (simp; done) | (simp; omega) | omega)))
      (first
        | (go_at_call 41; refine (HCP.out _ (HV.out.below (below_of hC2 (by repeat' (first | exact Below.refl _ _ | refine Below.alloc ?_ ?_ _ | refine Below.setCell ?_ ?_ _ | refine Below.drew ?_ | (apply below_step; assumption) | (simp; done) | (simp; omega) | omega))))).mono ?_; rintro e w3 ⟨v3, rfl, ho3, hb3⟩; obtain ⟨A3, c3, rfl⟩ := ho3.len; have HO3 := Lib.hid ho3; clear ho3; obtain ⟨hc3, hf3⟩ := bcell hb3; have hz3 := hb3.size; (try simp at hz3); (first | have hn3 : w2.heap.size < w3.heap.size := by omega | skip)))
    all_goals
      go_wp2_with fail
      go_meet
      first
        | exact cutPv_late (by repeat' (first | exact Below.refl _ _ | refine Below.alloc ?_ ?_ _ | refine Below.setCell ?_ ?_ _ | refine Below.drew ?_ | (apply below_step; assumption) | (simp; done) | (simp; omega) | omega)) HO3.out
        | exact cutPv_early (by repeat' (first | exact Below.refl _ _ | refine Below.alloc ?_ ?_ _ | refine Below.setCell ?_ ?_ _ | refine Below.drew ?_ | (apply below_step; assumption) | (simp; done) | (simp; omega) | omega)) (((BlockIs.new w2 26 #[.int .i64 0, .slice none 0 0]).drew).below hb3 (by simp)) (HO3.out.low (by simp))
  case rest =>
    obtain ⟨g, v3, rfl, hg, hbk, ho, hne, hBx⟩ := hcut
    obtain ⟨gv, cv, rfl, hgv, hgvl, p0, p1, p2, pf⟩ := ho.at_ HX.out
    have hne' : gv ≠ g := fun e => hne (by rw [← e]; rfl)
    have hC3 := below_of hC2 hBx
    have OB3 := Lib.hid (OB2.out.below hBx OB2.out.lt)
    have e0 := hbk.cell 0
    have e1 := hbk.cell 1
    have ef := hbk.frozen
    have eg := hbk.lt
    have k0 := OB3.out.cell 0
    have k1 := OB3.out.cell 1
    have kf := OB3.out.frozen
    have kl := OB3.out.lt
    simp at e0 e1 k0 k1
    have HO := Lib.hid ho
    have hgr : gv ≠ w.heap.size + 1 := by omega
    have hgr' : g ≠ w.heap.size + 1 := by omega
    have hz2 := hC2.size
    have hzx := hBx.size
    clear ho hbk hne d0 d1 df dl OB2 g2
    go_wp2_with fail
    have B1 := OB3.out.far (p := ⟨gv, i * 3 + 2, none⟩) (by exact fun e => hgr e.symm) (.int .i64 2)
    have B2 := (B1.put 0 (.int .i64 ep)).put 1 (.slice (some ⟨gv, 0, none⟩) l.length cv)
    have z0 := B2.cell 0
    have z1 := B2.cell 1
    simp at z0 z1
    refine bodyPost_ret (v := .tuple #[.agg #[.int .i64 ep, .slice (some ⟨gv, 0, none⟩) l.length cv], .int .i64 0]) (by simp [results, Try.results20, go_sem, z0, z1]) rfl ?_
    refine RetPA_fine HE.out ?_ ?_
    · have h1 := HO.out.gone HX.out
      have h2 := (h1.far (p := ⟨w.heap.size + 1, 0, none⟩) (by simp [Value.ownBlock]; omega) (.int .i64 ep)).far (p := ⟨w.heap.size + 1, 1, none⟩) (by simp [Value.ownBlock]; omega) (.slice (some ⟨gv, 0, none⟩) l.length cv)
      have h3 := h2.low (base' := w.heap.size) (by omega)
      simpa using h3
    · exact ((hC3.setCell (by simp; omega) _).setCell (by simp) _).setCell (by simp) _
end Go.Proofs.Ytbmiefhgkagcgaa
