/- The contracts of the model's TaskOk, NodeOk, CanHost. The contracts of the model's l10Task and TaskBytes. The laws' helpers that write marks and look for them, over tasks and nodes: markTaskS, markNodeS, heldTaskS, heldNodeS. The laws' helpers that mark one task or node, and look for the marks of a node. The laws' helpers toIntS, toTask, toNode, toTaskS, toNodeS, toBindS: their results own their memory, block by block. -/
import Derived.Test.YtcngiinaneefjaaDoorMg03
import Derived.Test.YtcngiinaneefjaaDoorMg00
namespace Go.Proofs.YtcngiinaneefjaaDoor
open Go.RowKit

theorem sId_any (n : Int) (w : World) : Calls Tryd.prog 70 #[.int .i64 n] w fun e w' => e = .returned (.bool (idOk n)) ∧ w = w' := by
  by_cases h1 : 1 ≤ n
  · by_cases h2 : n ≤ 99
    · have H := Lib.hid (idOk_iff.2 ⟨h1, h2⟩)
      go_enter Tryd.func70, Tryd.ntmps70
      go_wp2
      go_ret
      exact ⟨by rw [H.out]; simp, rfl⟩
    · have H := Lib.hid (idBad_iff.2 (fun h => h2 h.2))
      have h3 : 99 < n := by omega
      clear h2
      go_enter Tryd.func70, Tryd.ntmps70
      go_wp2
      go_ret
      exact ⟨by rw [H.out]; simp; omega, rfl⟩
  · have H := Lib.hid (idBad_iff.2 (fun h => h1 h.1))
    have h2 : n < 1 := by omega
    clear h1
    go_enter Tryd.func70, Tryd.ntmps70
    go_wp2
    go_ret
    exact ⟨by rw [H.out]; rfl, rfl⟩

set_option maxHeartbeats 1600000 in
theorem sTaskOk_any (t : TV) (v1 v2 : Value) (w : World) (h1 : LabSl w v1 t.want) (h2 : IntSl w v2 t.tols) (l1 : t.want.length ≤ 1048576) (l2 : t.tols.length ≤ 1048576) :
    Calls Tryd.prog 42 #[.agg #[.int .i64 t.id, .int .i64 t.prio, .int .i64 t.need.c, .int .i64 t.need.m, .int .i64 t.need.p, v1, v2]] w fun e w' => e = .returned (.bool t.ok) ∧ Below w.heap.size w w' := by
  have HL := Lib.hid h1
  have HI := Lib.hid h2
  have HE := Lib.hid (tv_ok_eq t)
  have hid := sId_any t.id
  have hne : ∀ w, Calls Tryd.prog 71 #[.agg #[.int .i64 t.need.c, .int .i64 t.need.m, .int .i64 t.need.p]] w fun e w' => e = .returned (.bool t.need.ok) ∧ Below w.heap.size w w' := fun w => sResOk_any t.need w
  have hla : ∀ w (h : LabSl w v1 t.want), Calls Tryd.prog 72 #[v1] w fun e w' => e = .returned (.bool (labsOk t.want)) ∧ Below w.heap.size w w' := fun w h => sLabsOk_any v1 t.want w h l1
  have hta : ∀ w (h : IntSl w v2 t.tols), Calls Tryd.prog 73 #[v2] w fun e w' => e = .returned (.bool (labsOk (tl t.tols))) ∧ Below w.heap.size w w' := fun w h => sTaintsOk_any v2 t.tols w h l2
  generalize t.ok = ok at *
  generalize e1 : idOk t.id = b1 at hid
  generalize e2 : decide (0 ≤ t.prio) = b2
  generalize e3 : decide (t.prio ≤ 9) = b3
  generalize e4 : t.need.ok = b4 at hne
  generalize e5 : labsOk t.want = b5 at hla
  generalize e6 : labsOk (tl t.tols) = b6 at hta
  have HE' := Lib.hid (HE.out _ _ _ _ _ _ e1 e2 e3 e4 e5 e6)
  have HID := Lib.hid hid
  have HNE := Lib.hid hne
  have HLA := Lib.hid hla
  have HTA := Lib.hid hta
  clear h1 h2 hid hne hla hta e1 e4 e5 e6 HE l1 l2
  go_enter Tryd.func42, Tryd.ntmps42
  go_wp2_with fail
  refine (HID.out _).mono ?_
  rintro e w1 ⟨rfl, rfl⟩
  cases b1
  · go_wp2_with fail
    go_ret
    exact ⟨by rw [HE'.out]; simp, (by repeat' (first | exact Below.refl _ _ | refine Below.alloc ?_ ?_ _ | refine Below.setCell ?_ ?_ _ | refine Below.drew ?_ | (apply below_step; assumption) | (simp; done) | (simp; omega) | omega))⟩
  cases b2
  · go_wp2_with fail
    go_ret
    exact ⟨by rw [HE'.out]; simp, (by repeat' (first | exact Below.refl _ _ | refine Below.alloc ?_ ?_ _ | refine Below.setCell ?_ ?_ _ | refine Below.drew ?_ | (apply below_step; assumption) | (simp; done) | (simp; omega) | omega))⟩
  cases b3
  · go_wp2_with fail
    go_ret
    exact ⟨by rw [HE'.out]; simp, (by repeat' (first | exact Below.refl _ _ | refine Below.alloc ?_ ?_ _ | refine Below.setCell ?_ ?_ _ | refine Below.drew ?_ | (apply below_step; assumption) | (simp; done) | (simp; omega) | omega))⟩
  go_wp2_with fail
  refine (HNE.out _).mono ?_
  rintro e w2 ⟨rfl, hb2⟩
  have hz2 := hb2.size
  simp at hz2
  obtain ⟨hc2, hf2⟩ := bcell hb2
  have hC2 : Below w.heap.size w w2 := ((Below.refl _ _).alloc (Nat.le_refl _) _).trans (hb2.mono (by simp))
  cases b4
  · go_wp2_with fail
    go_ret
    exact ⟨by rw [HE'.out]; simp, hC2⟩
  go_wp2_with fail
  refine (HLA.out _ (HL.out.below hC2)).mono ?_
  rintro e w3 ⟨rfl, hb3⟩
  have hz3 := hb3.size
  obtain ⟨hc3, hf3⟩ := bcell hb3
  have hs2 : w.heap.size < w2.heap.size := by omega
  have hC3 : Below w.heap.size w w3 := hC2.trans (hb3.mono hC2.size)
  cases b5
  · go_wp2_with fail
    go_ret
    exact ⟨by rw [HE'.out]; simp, hC3⟩
  go_wp2_with fail
  refine (HTA.out _ (HI.out.below hC3)).mono ?_
  rintro e w4 ⟨rfl, hb4⟩
  have hC4 : Below w.heap.size w w4 := hC3.trans (hb4.mono hC3.size)
  go_wp2_with fail
  go_ret
  exact ⟨by rw [HE'.out]; simp, hC4⟩
end Go.Proofs.YtcngiinaneefjaaDoor

namespace Go.Proofs.YtcngiinaneefjaaDoor
open Go.RowKit

theorem IntSl.two {w : World} {g : Nat} {a b : Int} (h0 : w.cell? ⟨g, 0, none⟩ = some (.int .i64 a)) (h1 : w.cell? ⟨g, 1, none⟩ = some (.int .i64 b)) (hg : g < w.heap.size) : IntSl w (.slice (some ⟨g, 0, none⟩) 2 2) [a, b] := by
  refine .inr ⟨g, 0, 2, rfl, hg, fun i r hr => ?_⟩
  match i, hr with
  | 0, hr => simp at hr; subst hr; simpa using h0
  | 1, hr => simp at hr; subst hr; simpa using h1
  | i + 2, hr => simp at hr
theorem IntSl.one {w : World} {g : Nat} {a : Int} (h0 : w.cell? ⟨g, 0, none⟩ = some (.int .i64 a)) (hg : g < w.heap.size) : IntSl w (.slice (some ⟨g, 0, none⟩) 1 1) [a] := by
  refine .inr ⟨g, 0, 1, rfl, hg, fun i r hr => ?_⟩
  match i, hr with
  | 0, hr => simp at hr; subst hr; simpa using h0
  | i + 1, hr => simp at hr
def RetNums (w : World) (l : List Int) (e : Ending) (w' : World) : Prop := ∃ v, e = .returned v ∧ OwnsJ w' w.heap.size v l ∧ Below w.heap.size w w'
set_option maxHeartbeats 6400000 in
set_option maxRecDepth 20000 in
theorem sl10Task_any (t : TV) (v1 v2 : Value) (w : World) (h1 : LabSl w v1 t.want) (h2 : IntSl w v2 t.tols) (l1 : t.want.length ≤ 6) (l2 : t.tols.length ≤ 6) :
    Calls Tryd.prog 43 #[.agg #[.int .i64 t.id, .int .i64 t.prio, .int .i64 t.need.c, .int .i64 t.need.m, .int .i64 t.need.p, v1, v2]] w (RetNums w (taskNums t)) := by
  obtain ⟨A1, c1, rfl, hA1⟩ := h1.form
  obtain ⟨A2, c2, rfl, _⟩ := h2.form
  have HA := Lib.hid hA1
  have HI := Lib.hid h2
  clear hA1 h1 h2
  go_enter Tryd.func43, Tryd.ntmps43
  go_wp2_with fail
  have hX : Below w.heap.size w (w.alloc (.cells #[.int .i64 t.id, .int .i64 t.prio, .int .i64 t.need.c, .int .i64 t.need.m, .int .i64 t.need.p, .slice A1 t.want.length c1, .slice A2 t.tols.length c2] 34)) := (by repeat' (first | exact Below.refl _ _ | refine Below.alloc ?_ ?_ _ | refine Below.setCell ?_ ?_ _ | refine Below.drew ?_ | (apply below_step; assumption) | (simp; done) | (simp; omega) | omega))
  have BX := BlockIs.new w 34 #[.int .i64 t.id, .int .i64 t.prio, .int .i64 t.need.c, .int .i64 t.need.m, .int .i64 t.need.p, .slice A1 t.want.length c1, .slice A2 t.tols.length c2]
  have HO0 := Lib.hid (OwnsJ.new (w.alloc (.cells #[.int .i64 t.id, .int .i64 t.prio, .int .i64 t.need.c, .int .i64 t.need.m, .int .i64 t.need.p, .slice A1 t.want.length c1, .slice A2 t.tols.length c2] 34)) [t.id, t.prio, t.need.c, t.need.m, t.need.p, (t.want.length : Int)] (w.alloc (.cells #[.int .i64 t.id, .int .i64 t.prio, .int .i64 t.need.c, .int .i64 t.need.m, .int .i64 t.need.p, .slice A1 t.want.length c1, .slice A2 t.tols.length c2] 34)).heap.size (Nat.le_refl _) (by simp))
  have hXs : (w.alloc (.cells #[.int .i64 t.id, .int .i64 t.prio, .int .i64 t.need.c, .int .i64 t.need.m, .int .i64 t.need.p, .slice A1 t.want.length c1, .slice A2 t.tols.length c2] 34)).heap.size = w.heap.size + 1 := by simp
  generalize hXX : w.alloc (.cells #[.int .i64 t.id, .int .i64 t.prio, .int .i64 t.need.c, .int .i64 t.need.m, .int .i64 t.need.p, .slice A1 t.want.length c1, .slice A2 t.tols.length c2] 34) = X at hX BX HO0 hXs ⊢
  have HBX := Lib.hid BX
  clear BX hXX
  go_loopw [3, 4] (fun s3 s4 wr => ∃ k : Nat, k ≤ t.want.length ∧ s4 = .int .i64 k ∧ OwnsJ wr X.heap.size s3 ([t.id, t.prio, t.need.c, t.need.m, t.need.p, (t.want.length : Int)] ++ labNums (t.want.take k)) ∧ Below X.heap.size X wr) (fun _ s4 _ => (t.want.length - intOf s4).toNat)
  case atStart => exact ⟨0, by omega, rfl, by have := HO0.out; rw [hXs] at this ⊢; simpa [labNums, intL] using this, (by repeat' (first | exact Below.refl _ _ | refine Below.alloc ?_ ?_ _ | refine Below.setCell ?_ ?_ _ | refine Below.drew ?_ | (apply below_step; assumption) | (simp; done) | (simp; omega) | omega))⟩
  case round =>
    obtain ⟨k, hk, rfl, hown, hB⟩ := hrel
    have HO := Lib.hid hown
    have hzr := hB.size
    have HL := Lib.hid (show ([t.id, t.prio, t.need.c, t.need.m, t.need.p, (t.want.length : Int)] ++ labNums (t.want.take k)).length ≤ 100 by rw [List.length_append, labNums_len, List.length_take]; simp; omega)
    have BR := HBX.out.below hB HBX.out.lt
    have g5 := BR.cell 5
    have gl := BR.lt
    simp at g5
    clear hown HO0
    by_cases hlt : k < t.want.length
    · obtain ⟨b, off, rfl, hbw, hat⟩ := HA.out (by omega)
      obtain ⟨r, hr⟩ : ∃ r, t.want[k]? = some r := ⟨_, List.getElem?_eq_getElem hlt⟩
      obtain ⟨q0, q1⟩ := hat k r hr
      have hki : (k : Int) < (t.want.length : Int) := by omega
      have hk0 : (0 : Int) ≤ (k : Int) := by omega
      have HS := Lib.hid (labNums_snoc hr)
      have HK := Lib.hid (show ∀ w', Below X.heap.size X w' → (fun w' => Below X.heap.size X w' ∧ (∀ o, w'.cell? ⟨w.heap.size, o, none⟩ = (#[.int .i64 t.id, .int .i64 t.prio, .int .i64 t.need.c, .int .i64 t.need.m, .int .i64 t.need.p, .slice (some ⟨b, off, none⟩) t.want.length c1, .slice A2 t.tols.length c2] : Array Value)[o]?) ∧ w'.cell? ⟨b, off + k * 2, none⟩ = some (.int .i64 r.k) ∧ w'.cell? ⟨b, off + k * 2 + 1, none⟩ = some (.int .i64 r.v)) w' from fun w' hb => by
        have hw := hX.trans (hb.mono hX.size)
        exact ⟨hb, fun o => (hb.cell (p := ⟨_, _, none⟩) HBX.out.lt).trans (HBX.out.cell o), (hw.cell (p := ⟨_, _, none⟩) hbw).trans q0, (hw.cell (p := ⟨_, _, none⟩) hbw).trans q1⟩)
      have HKA := Lib.hid (show ∀ Y w' : World, Below X.heap.size X Y → Below X.heap.size Y w' → (fun w' => Below X.heap.size X w' ∧ (∀ o, w'.cell? ⟨w.heap.size, o, none⟩ = (#[.int .i64 t.id, .int .i64 t.prio, .int .i64 t.need.c, .int .i64 t.need.m, .int .i64 t.need.p, .slice (some ⟨b, off, none⟩) t.want.length c1, .slice A2 t.tols.length c2] : Array Value)[o]?) ∧ w'.cell? ⟨b, off + k * 2, none⟩ = some (.int .i64 r.k) ∧ w'.cell? ⟨b, off + k * 2 + 1, none⟩ = some (.int .i64 r.v)) w' from fun Y w' h1 h2 => HK.out _ (h1.trans h2))
      have hXH := Lib.hid hX
      clear hat hr q0 q1 BR hX
      go_wp2_with fail
      go_region_held3 (fun w' => Below X.heap.size X w' ∧ (∀ o, w'.cell? ⟨w.heap.size, o, none⟩ = (#[.int .i64 t.id, .int .i64 t.prio, .int .i64 t.need.c, .int .i64 t.need.m, .int .i64 t.need.p, .slice (some ⟨b, off, none⟩) t.want.length c1, .slice A2 t.tols.length c2] : Array Value)[o]?) ∧ w'.cell? ⟨b, off + k * 2, none⟩ = some (.int .i64 r.k) ∧ w'.cell? ⟨b, off + k * 2 + 1, none⟩ = some (.int .i64 r.v))
        (first | exact HS4.out | exact HK.out _ (by repeat' (first | exact Below.refl _ _ | refine Below.alloc ?_ ?_ _ | refine Below.setCell ?_ ?_ _ | refine Below.drew ?_ | (apply below_step; assumption) | (simp; done) | (simp; omega) | omega)))
        (first | (refine step_spread_j _ (by rfl) (.tmp 29) (.tmp 42) (by rfl) X.heap.size _ ([t.id, t.prio, t.need.c, t.need.m, t.need.p, (t.want.length : Int)] ++ labNums (t.want.take k)) [r.k, r.v] _ _ (by rfl) (by rfl) (HO.out.below (B := wr.heap.size) (by repeat' (first | exact Below.refl _ _ | refine Below.alloc ?_ ?_ _ | refine Below.setCell ?_ ?_ _ | refine Below.drew ?_ | (apply below_step; assumption) | (simp; done) | (simp; omega) | omega)) (Nat.le_refl _)) (IntSl.two (by simp) (by simp) (by simp)) (by have := HL.out; simp only [List.length_cons, List.length_nil]; omega) (by simp; omega) ?_; intro v' w4 hown4 hb4 hg4; have HS4 := Lib.hid (HKA.out _ _ (by repeat' (first | exact Below.refl _ _ | refine Below.alloc ?_ ?_ _ | refine Below.setCell ?_ ?_ _ | refine Below.drew ?_ | (apply below_step; assumption) | (simp; done) | (simp; omega) | omega)) hb4); have HB4 := Lib.hid ((show Below X.heap.size X _ from (by repeat' (first | exact Below.refl _ _ | refine Below.alloc ?_ ?_ _ | refine Below.setCell ?_ ?_ _ | refine Below.drew ?_ | (apply below_step; assumption) | (simp; done) | (simp; omega) | omega))).trans hb4); have hz4 := hb4.size; (try simp at hz4)))
      all_goals
        go_wp2_with fail
        go_roundw
        case rel =>
          refine ⟨k + 1, by omega, by go_num, ?_, HB4.out⟩
          rw [HS.out, ← List.append_assoc]; exact hown4
        case measure => simp [intOf]; omega
    · have hkl : k = t.want.length := by omega
      have HF := Lib.hid (show OwnsJ wr X.heap.size _ ([t.id, t.prio, t.need.c, t.need.m, t.need.p, (t.want.length : Int)] ++ labNums t.want) by have := HO.out; rw [hkl, List.take_length] at this; exact this)
      have HLF := Lib.hid (show ([t.id, t.prio, t.need.c, t.need.m, t.need.p, (t.want.length : Int)] ++ labNums t.want).length ≤ 100 by have := HL.out; rw [hkl, List.take_length] at this; exact this)
      clear hkl HO HL BR
      have HX := Lib.hid hX
      have HK := Lib.hid (show ∀ w', Below X.heap.size X w' → (fun w' => Below X.heap.size X w' ∧ (∀ o, w'.cell? ⟨w.heap.size, o, none⟩ = (#[.int .i64 t.id, .int .i64 t.prio, .int .i64 t.need.c, .int .i64 t.need.m, .int .i64 t.need.p, .slice A1 t.want.length c1, .slice A2 t.tols.length c2] : Array Value)[o]?)) w' from fun w' hb => ⟨hb, fun o => (hb.cell (p := ⟨_, _, none⟩) HBX.out.lt).trans (HBX.out.cell o)⟩)
      have HKA := Lib.hid (show ∀ Y w' : World, Below X.heap.size X Y → Below X.heap.size Y w' → (fun w' => Below X.heap.size X w' ∧ (∀ o, w'.cell? ⟨w.heap.size, o, none⟩ = (#[.int .i64 t.id, .int .i64 t.prio, .int .i64 t.need.c, .int .i64 t.need.m, .int .i64 t.need.p, .slice A1 t.want.length c1, .slice A2 t.tols.length c2] : Array Value)[o]?)) w' from fun Y w' h1 h2 => HK.out _ (h1.trans h2))
      clear hX
      go_wp2_with fail
      go_region_held3 (fun w' => Below X.heap.size X w' ∧ (∀ o, w'.cell? ⟨w.heap.size, o, none⟩ = (#[.int .i64 t.id, .int .i64 t.prio, .int .i64 t.need.c, .int .i64 t.need.m, .int .i64 t.need.p, .slice A1 t.want.length c1, .slice A2 t.tols.length c2] : Array Value)[o]?))
        (first | exact HS5.out | exact HS4.out | exact HK.out _ (HB4.out.trans (by repeat' (first | exact Below.refl _ _ | refine Below.alloc ?_ ?_ _ | refine Below.setCell ?_ ?_ _ | refine Below.drew ?_ | (apply below_step; assumption) | (simp; done) | (simp; omega) | omega))) | exact HK.out _ (by repeat' (first | exact Below.refl _ _ | refine Below.alloc ?_ ?_ _ | refine Below.setCell ?_ ?_ _ | refine Below.drew ?_ | (apply below_step; assumption) | (simp; done) | (simp; omega) | omega)))
        (first
          | (refine step_spread_j _ (by rfl) (.tmp 44) (.tmp 48) (by rfl) X.heap.size _ ([t.id, t.prio, t.need.c, t.need.m, t.need.p, (t.want.length : Int)] ++ labNums t.want) [(t.tols.length : Int)] _ _ (by rfl) (by rfl) (HF.out.below (B := wr.heap.size) (by repeat' (first | exact Below.refl _ _ | refine Below.alloc ?_ ?_ _ | refine Below.setCell ?_ ?_ _ | refine Below.drew ?_ | (apply below_step; assumption) | (simp; done) | (simp; omega) | omega)) (Nat.le_refl _)) (IntSl.one (by simp) (by simp)) (by have := HLF.out; simp only [List.length_cons, List.length_nil]; omega) (by simp; omega) ?_; intro v' w4 hown4 hb4 hg4; have HS4 := Lib.hid (HKA.out _ _ (by repeat' (first | exact Below.refl _ _ | refine Below.alloc ?_ ?_ _ | refine Below.setCell ?_ ?_ _ | refine Below.drew ?_ | (apply below_step; assumption) | (simp; done) | (simp; omega) | omega)) hb4); have HB4 := Lib.hid ((show Below X.heap.size X _ from (by repeat' (first | exact Below.refl _ _ | refine Below.alloc ?_ ?_ _ | refine Below.setCell ?_ ?_ _ | refine Below.drew ?_ | (apply below_step; assumption) | (simp; done) | (simp; omega) | omega))).trans hb4); have HO4 := Lib.hid hown4; have hz4 := hb4.size; (try simp at hz4); clear hown4 hb4 hg4)
          | (refine step_spread_j _ (by rfl) (.tmp 49) (.tmp 51) (by rfl) X.heap.size _ ([t.id, t.prio, t.need.c, t.need.m, t.need.p, (t.want.length : Int)] ++ labNums t.want ++ [(t.tols.length : Int)]) t.tols _ _ (by rfl) (by rfl) (HO4.out.below (B := w4.heap.size) (by repeat' (first | exact Below.refl _ _ | refine Below.alloc ?_ ?_ _ | refine Below.setCell ?_ ?_ _ | refine Below.drew ?_ | (apply below_step; assumption) | (simp; done) | (simp; omega) | omega)) (Nat.le_refl _)) (HI.out.below (HX.out.trans ((HB4.out.trans (Below.mono (by exact (by repeat' (first | exact Below.refl _ _ | refine Below.alloc ?_ ?_ _ | refine Below.setCell ?_ ?_ _ | refine Below.drew ?_ | (apply below_step; assumption) | (simp; done) | (simp; omega) | omega))) (show X.heap.size ≤ w4.heap.size by omega))).mono HX.out.size))) (by have := HLF.out; simp only [List.length_append, List.length_cons, List.length_nil] at this ⊢; omega) (by first | omega | (simp; omega)) ?_; intro v5 w5 hown5 hb5 hg5; have HS5 := Lib.hid (HK.out _ ((HB4.out.trans (Below.mono (by exact (by repeat' (first | exact Below.refl _ _ | refine Below.alloc ?_ ?_ _ | refine Below.setCell ?_ ?_ _ | refine Below.drew ?_ | (apply below_step; assumption) | (simp; done) | (simp; omega) | omega))) (show X.heap.size ≤ w4.heap.size by omega))).trans hb5)); have HB5 := Lib.hid ((HB4.out.trans (Below.mono (by exact (by repeat' (first | exact Below.refl _ _ | refine Below.alloc ?_ ?_ _ | refine Below.setCell ?_ ?_ _ | refine Below.drew ?_ | (apply below_step; assumption) | (simp; done) | (simp; omega) | omega))) (show X.heap.size ≤ w4.heap.size by omega))).trans hb5); have hz5 := hb5.size; (try simp at hz5)))
      all_goals
        go_wp2_with fail
        go_ret
        exact ⟨_, rfl, hown5.lower HX.out.size, HX.out.trans (HB5.out.mono HX.out.size)⟩

set_option maxHeartbeats 3200000 in
theorem sTaskBytes_any (t : TV) (v1 v2 : Value) (w : World) (h1 : LabSl w v1 t.want) (h2 : IntSl w v2 t.tols) (l1 : t.want.length ≤ 1048576) (l2 : t.tols.length ≤ 1048576) :
    Calls Tryd.prog 10 #[.agg #[.int .i64 t.id, .int .i64 t.prio, .int .i64 t.need.c, .int .i64 t.need.m, .int .i64 t.need.p, v1, v2]] w (RetByts w (taskBytes t)) := by
  have hok := fun w1 (hb : Below w.heap.size w w1) => sTaskOk_any t v1 v2 w1 (h1.below hb) (h2.below hb) l1 l2
  have hE : taskBytes t = if t.ok = true then allBytes (taskNums t) else [] := rfl
  have hM := @tv_marks t
  have hT := taskNums_len t
  have hln := fun (h : t.ok = true) w1 (hb : Below w.heap.size w w1) => sl10Task_any t v1 v2 w1 (h1.below hb) (h2.below hb) (hM h).1 (hM h).2
  obtain ⟨A1, c1, rfl, _⟩ := h1.form
  obtain ⟨A2, c2, rfl, _⟩ := h2.form
  generalize t.ok = ok at hok hE hM hln
  generalize taskNums t = L at hE hT hln
  have HE := Lib.hid hE
  have HOK := Lib.hid hok
  have HLN := Lib.hid hln
  have HLL := Lib.hid (show ok = true → L.length ≤ 30 from fun h => by have := hM h; omega)
  clear hE hok h1 h2 hM hln hT l1 l2
  go_enter Tryd.func10, Tryd.ntmps10
  go_wp2_with fail
  have hX : Below w.heap.size w (w.alloc (.cells #[.int .i64 t.id, .int .i64 t.prio, .int .i64 t.need.c, .int .i64 t.need.m, .int .i64 t.need.p, .slice A1 t.want.length c1, .slice A2 t.tols.length c2] 34)) := (by repeat' (first | exact Below.refl _ _ | refine Below.alloc ?_ ?_ _ | refine Below.setCell ?_ ?_ _ | refine Below.drew ?_ | (apply below_step; assumption) | (simp; done) | (simp; omega) | omega))
  refine (HOK.out _ hX).mono ?_
  rintro e w1 ⟨rfl, hb1⟩
  have hC1 := below_of hX hb1
  have B1 := (BlockIs.new w 34 #[.int .i64 t.id, .int .i64 t.prio, .int .i64 t.need.c, .int .i64 t.need.m, .int .i64 t.need.p, .slice A1 t.want.length c1, .slice A2 t.tols.length c2]).below hb1 (by simp)
  cases ok
  · go_wp2_with fail
    go_ret
    exact ⟨_, rfl, by rw [HE.out]; exact OwnsY.nil _ _, hC1⟩
  · have hz1 := hC1.size
    have HLB := HLL.out rfl
    have bl := B1.lt
    have g0 := B1.cell 0
    have g1 := B1.cell 1
    have g2 := B1.cell 2
    have g3 := B1.cell 3
    have g4 := B1.cell 4
    have g5 := B1.cell 5
    have g6 := B1.cell 6
    simp at g0 g1 g2 g3 g4 g5 g6
    have HO0 := Lib.hid (made_y w1 w1.heap.size (Nat.le_refl _))
    clear B1 hb1 HOK HLL
    go_wp2_with fail
    have hX1 : Below w1.heap.size w1 (w1.alloc (.cells #[] 5)) := (by repeat' (first | exact Below.refl _ _ | refine Below.alloc ?_ ?_ _ | refine Below.setCell ?_ ?_ _ | refine Below.drew ?_ | (apply below_step; assumption) | (simp; done) | (simp; omega) | omega))
    have hC2 := below_of hC1 hX1
    refine (HLN.out (by trivial) _ hC2).mono ?_
    rintro e w2 ⟨v, rfl, hv, hb2⟩
    have hD2 := below_of hX1 hb2
    have hC3 := below_of hC1 hD2
    have hz2 := hD2.size
    have HO2 := Lib.hid (HO0.out.below hb2 (Nat.le_refl _))
    have HV := Lib.hid hv.o
    have HVL := Lib.hid (show ∀ b ∈ blk v, w1.heap.size < b from fun b hb => by have := hv.low b hb; simp at this; omega)
    obtain ⟨A, cc, rfl, -⟩ := own_form hv.o
    clear hv hb2 hX1 g0 g1 g2 g3 g4 g5 g6 HO0 hC2
    go_wp2_with fail
    go_loopw [3, 5] (fun s3 s5 wr => ∃ k : Nat, k ≤ L.length ∧ s5 = .int .i64 k ∧ OwnsY wr w1.heap.size s3 (allBytes (L.take k)) ∧ Below w1.heap.size w1 wr ∧ IntO wr (.slice A L.length cc) L ∧ ∀ b ∈ blk (.slice A L.length cc), b ∉ blk s3) (fun _ s5 _ => (L.length - intOf s5).toNat)
    case atStart => exact ⟨0, by omega, rfl, by simpa [allBytes] using HO2.out, hD2, HV.out, fun b hb hx => by have h1 := HVL.out b hb; simp [blk, Value.ownBlock] at hx; omega⟩
    case round =>
      obtain ⟨k, hk, rfl, hown, hB, hI, hdis⟩ := hrel
      have HO := Lib.hid hown
      have HI := Lib.hid hI
      have HD := Lib.hid hdis
      have hzr := hB.size
      clear hown hdis
      by_cases hlt : k < L.length
      · obtain ⟨A', c', eA, hAt⟩ := hI.sl.form
        simp only [Value.slice.injEq] at eA
        obtain ⟨rfl, -, rfl⟩ := eA
        obtain ⟨b, off, rfl, hbw, hat⟩ := hAt (by omega)
        obtain ⟨r, hr⟩ : ∃ r, L[k]? = some r := ⟨_, List.getElem?_eq_getElem hlt⟩
        have q0 := hat k r hr
        have hlti : (k : Int) < (L.length : Int) := by omega
        have HS := Lib.hid (allBytes_snoc hr)
        have HL := Lib.hid (show (allBytes (L.take k)).length ≤ 500000 by have := allBytes_len (L.take k); rw [List.length_take] at this; omega)
        have hnl := numBytes_len r
        clear hat hr hAt hI
        go_wp2_with fail
        refine (sNumBytes_any r _).mono ?_
        rintro e w4 ⟨v4, rfl, hv4, hb4⟩
        have hz4 := hb4.size
        have HO4 := Lib.hid (HO.out.below hb4 (Nat.le_refl _))
        have HV4 := Lib.hid hv4.o.sl
        have HI4 := Lib.hid (show IntO w4 _ L from own_agree HI.out (Agree.of_below hb4 (own_lt HI.out)))
        have hB4 := below_of hB hb4
        have HBL := Lib.hid (own_lt HI.out)
        obtain ⟨V4, c4, rfl, -⟩ := own_form hv4.o
        clear hv4 hb4 q0
        go_wp2_with (at_builtin; refine wpList_spreadb_y _ rfl (.tmp 18) (.tmp 23) rfl w1.heap.size _ _ _ _ _ rfl rfl HO4.out HV4.out (by have := HL.out; omega) (by omega) ?_; intro v' w6 hown6 hb6 hg6 hw6)
        go_roundw
        case rel =>
          refine ⟨k + 1, by omega, by go_num, by rw [HS.out]; exact hown6, hB4.trans hb6, own_agree HI4.out (Agree.of_grown hg6 (fun x hx => ⟨own_lt HI4.out x hx, fun e => HD.out x hx ((congrArg (fun o => x ∈ Option.toList o) e).mp (List.mem_singleton_self x))⟩)), fun x hx hy => ?_⟩
          rcases hw6 with e | e
          · have hy' : x ∈ blk v' := hy
            exact HD.out x hx (by unfold blk at hy' ⊢; rw [e] at hy'; exact hy')
          · have h1 := HBL.out x hx
            have hy' : x ∈ blk v' := hy
            unfold blk at hy'; rw [e] at hy'
            have := List.mem_singleton.1 hy'
            omega
        case measure => simp [intOf]; omega
      · have hkl : k = L.length := by omega
        have HF := Lib.hid (show OwnsY wr w1.heap.size _ (allBytes L) by have := HO.out; rw [hkl, List.take_length] at this; exact this)
        have hCf := below_of hC1 hB
        clear hkl HO hI
        go_wp2_with fail
        go_ret
        refine ⟨_, rfl, ?_, hCf⟩
        rw [HE.out, if_pos (by trivial)]
        exact HF.out.lower hz1
end Go.Proofs.YtcngiinaneefjaaDoor

namespace Go.Proofs.YtcngiinaneefjaaDoor
open Go.RowKit

theorem blk_mem {v : Value} {k : Nat} (h : v.ownBlock = some k) : k ∈ blk v := by simp [blk, h]

end Go.Proofs.YtcngiinaneefjaaDoor

namespace Go.Proofs.YtcngiinaneefjaaDoor
open Go.RowKit

def inTask (k : Int) (t : TV) : TV := { t with want := mLabs k t.want.length, tols := mInts (k + 2 * t.want.length) t.tols.length }
set_option maxHeartbeats 1600000 in
theorem markTask_any (t : TV) (cs : List Value) (bs : List Nat) (k : Int) (w : World) (h : TaskO w t cs bs) (hnd : bs.Nodup) (h0 : 0 ≤ k) (hk : k ≤ 576460752303423488) :
    Calls Tryd.prog 15 #[.agg cs.toArray, .int .i64 k] w fun e w' => e = .returned (.int .i64 (k + 2 * t.want.length + t.tols.length)) ∧ TaskO w' (inTask k t) cs bs ∧ TurnB bs w w' := by
  have hlt := h.lt
  obtain ⟨v1, v2, rfl, h1, h2, rfl, m1, m2⟩ := h
  obtain ⟨A1, c1, rfl, -⟩ := own_form h1
  obtain ⟨A2, c2, rfl, -⟩ := own_form h2
  have hX : Below w.heap.size w (w.alloc (.cells #[.int .i64 t.id, .int .i64 t.prio, .int .i64 t.need.c, .int .i64 t.need.m, .int .i64 t.need.p, .slice A1 t.want.length c1, .slice A2 t.tols.length c2] 34)) := (by repeat' (first | exact Below.refl _ _ | refine Below.alloc ?_ ?_ _ | refine Below.setCell ?_ ?_ _ | refine Below.drew ?_ | (apply below_step; assumption) | (simp; done) | (simp; omega) | omega))
  have H1 := Lib.hid (show LabO _ _ _ from own_agree h1 (Agree.of_below hX (own_lt h1)))
  have H2 := Lib.hid (show IntO _ _ _ from own_agree h2 (Agree.of_below hX (own_lt h2)))
  have HL := Lib.hid (And.intro (own_lt h1) (own_lt h2))
  have HN := Lib.hid hnd
  have BX := Lib.hid (BlockIs.new w 34 #[.int .i64 t.id, .int .i64 t.prio, .int .i64 t.need.c, .int .i64 t.need.m, .int .i64 t.need.p, .slice A1 t.want.length c1, .slice A2 t.tols.length c2])
  have HX := Lib.hid hX
  clear h1 h2 hnd hlt
  go_enter Tryd.func15, Tryd.ntmps15
  go_wp2_with fail
  refine (markLabS_any _ t.want k _ H1.out m1 h0 (by omega)).mono ?_
  rintro e w1 ⟨rfl, hl1, hg1⟩
  have hT1 : TurnB (blk (.slice A1 t.want.length c1)) _ w1 := TurnB.of_grown hg1 (fun k e => blk_mem e)
  have B1 := BX.out.turn hT1 (fun hx => by have := HL.out.1 _ hx; omega)
  have hd : ∀ b ∈ blk (.slice A2 t.tols.length c2), b ∉ blk (.slice A1 t.want.length c1) := fun b hb hx => (List.nodup_append.1 HN.out).2.2 b hx b hb rfl
  have H21 := Lib.hid (show IntO w1 _ _ from own_agree H2.out (hT1.agree (fun b hb => ⟨own_lt H2.out b hb, hd b hb⟩)))
  have q6 := B1.cell 6
  have ql := B1.lt
  simp at q6
  have HT1 := Lib.hid hT1
  have HL1 := Lib.hid (show LabO w1 _ _ from hl1)
  have HD := Lib.hid hd
  clear B1 hT1 hl1 hg1 hd H1 H2 BX
  go_wp2_with fail
  refine (markIntS_any _ t.tols _ _ H21.out m2 (by omega) (by omega)).mono ?_
  rintro e w2 ⟨rfl, hl2, hg2⟩
  have hT2 : TurnB (blk (.slice A2 t.tols.length c2)) w1 w2 := TurnB.of_grown hg2 (fun k e => blk_mem e)
  have HL2 := Lib.hid (show IntO w2 _ _ from hl2)
  have HL12 := Lib.hid (show LabO w2 _ _ from own_agree HL1.out (hT2.agree (fun b hb => ⟨own_lt HL1.out b hb, fun hx => HD.out b hx hb⟩)))
  have HTT := Lib.hid (show TurnB (blk (.slice A1 t.want.length c1) ++ blk (.slice A2 t.tols.length c2)) w w2 from ((TurnB.of_below HX.out).trans (HT1.out.mono (fun b hb => List.mem_append_left _ hb))).trans (hT2.mono (fun b hb => List.mem_append_right _ hb)))
  clear hT2 hl2 hg2 HT1 HL1 H21 q6
  go_wp2_with fail
  go_ret
  refine ⟨rfl, ⟨_, _, rfl, ?_, ?_, rfl, ?_, ?_⟩, HTT.out⟩
  · have := HL12.out
    simpa [inTask, mLabs_len] using this
  · have := HL2.out
    simpa [inTask, mInts_len] using this
  · simp only [inTask, mLabs_len]; exact m1
  · simp only [inTask, mInts_len]; exact m2
end Go.Proofs.YtcngiinaneefjaaDoor

namespace Go.Proofs.YtcngiinaneefjaaDoor
open Go.RowKit

theorem labO_of {w : World} {g : Nat} {l : List LV} (h : BlockIs w g 78 (labL l).toArray) (hl : l.length ≤ 1048576) : LabO w (.slice (some ⟨g, 0, none⟩) l.length l.length) l :=
  ⟨labL_len l, .inr ⟨g, l.length, _, rfl, Nat.zero_le _, h, Nat.le_refl _, by simp only [maxLen]; omega, by simp [labL_len], by rw [← labL_len]; simp⟩⟩
theorem intO_of {w : World} {g : Nat} {l : List Int} (h : BlockIs w g 3 (intL l).toArray) (hl : l.length ≤ 1048576) : IntO w (.slice (some ⟨g, 0, none⟩) l.length l.length) l :=
  ⟨by simp [intL], .inr ⟨g, l.length, _, rfl, Nat.zero_le _, h, Nat.le_refl _, by simp only [maxLen]; omega, by simp [intL], by rw [show l.length * 1 = (intL l).length by simp [intL]]; simp⟩⟩
def NewIntO (w : World) (l : List Int) (e : Ending) (w' : World) : Prop := ∃ g, e = .returned (.slice (some ⟨g, 0, none⟩) l.length l.length) ∧ w.heap.size ≤ g ∧ g < w'.heap.size ∧ BlockIs w' g 3 (intL l).toArray ∧ Below w.heap.size w w'
theorem CopyInt.doneO {w wr : World} {g : Nat} {l : List Int} (h : CopyInt w g l l.length wr) : BlockIs wr g 3 (intL l).toArray := by
  obtain ⟨cs, hb, hs, hc, _⟩ := h
  have : cs = (intL l).toArray := by
    apply Array.ext_getElem?
    intro i
    rcases Nat.lt_or_ge i l.length with hi | hi
    · rw [hc i _ hi (List.getElem?_eq_getElem hi)]; simp [intL, hi]
    · rw [Array.getElem?_eq_none (by omega)]; simp [intL, hi]
  rw [← this]; exact hb
set_option maxHeartbeats 1600000 in
theorem toIntS_o (v : Value) (l : List Int) (w : World) (hv : IntSl w v l) (hlen : l.length ≤ 1048576) :
    Calls Tryd.prog 47 #[v] w (NewIntO w l) := by
  obtain ⟨A, c, rfl, hA⟩ := hv.form
  have HA := Lib.hid hA
  clear hA hv
  have hmk := make_int l.length hlen
  go_enter Tryd.func47, Tryd.ntmps47
  go_wp2_with fail
  go_loopw [4] (fun s4 wr => ∃ k : Nat, k ≤ l.length ∧ s4 = .int .i64 k ∧ CopyInt w w.heap.size l k wr) (fun s4 _ => (l.length - intOf s4).toNat)
  case atStart =>
    exact ⟨0, by omega, rfl, _, BlockIs.new _ _ _, by simpa using size_madeCells _ _, fun i r hi => absurd hi (by omega), (by repeat' (first | exact Below.refl _ _ | refine Below.alloc ?_ ?_ _ | refine Below.setCell ?_ ?_ _ | refine Below.drew ?_ | (apply below_step; assumption) | (simp; done) | (simp; omega) | omega))⟩
  case round =>
    obtain ⟨k, hk, rfl, HC⟩ := hrel
    by_cases hlt : k < l.length
    · obtain ⟨b, off, rfl, hbw, hat⟩ := HA.out (by omega)
      obtain ⟨r, hr⟩ : ∃ r, l[k]? = some r := ⟨_, List.getElem?_eq_getElem hlt⟩
      obtain ⟨cs, hblk, hs, hc, hB⟩ := HC
      have q0 := (hat.below hB hbw) k r hr
      have hzr := hB.size
      have hgl := hblk.lt
      have HR := Lib.hid hr
      have HCC := Lib.hid hc
      have HBL := Lib.hid hblk
      have HSZ := Lib.hid hs
      have u0 : wr.cell? ⟨w.heap.size, k, none⟩ = some (cs[k]'(by omega)) := by rw [hblk.cell]; exact Array.getElem?_eq_getElem (by omega)
      generalize cs[k]'(by omega) = x0 at u0
      have uf := hblk.frozen
      clear hat hr hc hblk hs
      go_wp2_with fail
      go_roundw
      case rel =>
        refine ⟨k + 1, by omega, by go_num, CopyInt.put HSZ.out HR.out HCC.out ?_ (by repeat' (first | exact Below.refl _ _ | refine Below.alloc ?_ ?_ _ | refine Below.setCell ?_ ?_ _ | refine Below.drew ?_ | (apply below_step; assumption) | (simp; done) | (simp; omega) | omega))⟩
        exact HBL.out.put _ _
      case measure => simp [intOf]; omega
    · have hkl : k = l.length := by omega
      subst hkl
      have HD := Lib.hid HC.doneO
      obtain ⟨cs, hblk, hs, hc, hB⟩ := HC
      have hgl := hblk.lt
      clear hblk hs hc
      go_wp2_with fail
      go_ret
      exact ⟨w.heap.size, rfl, Nat.le_refl _, hgl, HD.out, hB⟩

def NewTaskO (w : World) (t : TV) (e : Ending) (w' : World) : Prop := ∃ g1 g2, e = .returned (.agg #[.int .i64 t.id, .int .i64 t.prio, .int .i64 t.need.c, .int .i64 t.need.m, .int .i64 t.need.p, .slice (some ⟨g1, 0, none⟩) t.want.length t.want.length, .slice (some ⟨g2, 0, none⟩) t.tols.length t.tols.length]) ∧
  w.heap.size ≤ g1 ∧ w.heap.size ≤ g2 ∧ g2 < w'.heap.size ∧ BlockIs w' g1 78 (labL t.want).toArray ∧ BlockIs w' g2 3 (intL t.tols).toArray ∧ Below w.heap.size w w'
set_option maxHeartbeats 1600000 in
theorem toTask_o (t : TV) (v1 v2 : Value) (w : World) (h1 : LabSl w v1 t.want) (h2 : IntSl w v2 t.tols) (l1 : t.want.length ≤ 1048576) (l2 : t.tols.length ≤ 1048576) :
    Calls Tryd.prog 11 #[.agg #[.int .i64 t.id, .int .i64 t.prio, .int .i64 t.need.c, .int .i64 t.need.m, .int .i64 t.need.p, v1, v2]] w (NewTaskO w t) := by
  have H1 := Lib.hid h1
  have H2 := Lib.hid h2
  have L1 := Lib.hid l1
  have L2 := Lib.hid l2
  clear h1 h2 l1 l2
  go_enter Tryd.func11, Tryd.ntmps11
  go_wp2_with fail
  refine (toRes_any t.need _).mono ?_
  rintro e w1 ⟨rfl, hb1⟩
  have hz1 := hb1.size
  simp at hz1
  have B0 : BlockIs w1 w.heap.size 27 #[.int .i64 t.id, .int .i64 t.prio, .int .i64 t.need.c, .int .i64 t.need.m, .int .i64 t.need.p, v1, v2] := (((BlockIs.new w _ _).alloc _).alloc _).below hb1 (by simp; omega)
  have B1 : BlockIs w1 (w.heap.size + 1) 34 #[.int .i64 0, .int .i64 0, .int .i64 0, .int .i64 0, .int .i64 0, .slice none 0 0, .slice none 0 0] := (BlockIs.alloc (BlockIs.new' (by simp)) _).below hb1 (by simp)
  have B2 : BlockIs w1 (w.heap.size + 1 + 1) 34 #[.int .i64 t.id, .int .i64 t.prio, .int .i64 0, .int .i64 0, .int .i64 0, .slice none 0 0, .slice none 0 0] := (BlockIs.new' (by simp)).below hb1 (by simp)
  have hC1 : Below w.heap.size w w1 := (by repeat' (first | exact Below.refl _ _ | refine Below.alloc ?_ ?_ _ | refine Below.setCell ?_ ?_ _ | refine Below.drew ?_ | (apply below_step; assumption) | (simp; done) | (simp; omega) | omega))
  have c5 := B0.cell 5
  have c2 := B2.cell 2
  have c3 := B2.cell 3
  have c4 := B2.cell 4
  have f2 := B2.frozen
  simp at c5 c2 c3 c4
  have HB0 := Lib.hid B0
  have HB1 := Lib.hid B1
  have HB2 := Lib.hid B2
  clear B0 B1 B2 hb1
  go_wp2_with fail
  have hC2 : Below w.heap.size w (((w1.setCell ⟨w.heap.size + 1 + 1, 2, none⟩ (.int .i64 t.need.c)).setCell ⟨w.heap.size + 1 + 1, 2 + 1, none⟩ (.int .i64 t.need.m)).setCell ⟨w.heap.size + 1 + 1, 2 + 2, none⟩ (.int .i64 t.need.p)) := (by repeat' (first | exact Below.refl _ _ | refine Below.alloc ?_ ?_ _ | refine Below.setCell ?_ ?_ _ | refine Below.drew ?_ | (apply below_step; assumption) | (simp; done) | (simp; omega) | omega))
  have A0 : BlockIs (((w1.setCell ⟨w.heap.size + 1 + 1, 2, none⟩ (.int .i64 t.need.c)).setCell ⟨w.heap.size + 1 + 1, 2 + 1, none⟩ (.int .i64 t.need.m)).setCell ⟨w.heap.size + 1 + 1, 2 + 2, none⟩ (.int .i64 t.need.p)) w.heap.size 27 #[.int .i64 t.id, .int .i64 t.prio, .int .i64 t.need.c, .int .i64 t.need.m, .int .i64 t.need.p, v1, v2] := ((HB0.out.far (by dsimp only; omega) _).far (by dsimp only; omega) _).far (by dsimp only; omega) _
  have A1 : BlockIs (((w1.setCell ⟨w.heap.size + 1 + 1, 2, none⟩ (.int .i64 t.need.c)).setCell ⟨w.heap.size + 1 + 1, 2 + 1, none⟩ (.int .i64 t.need.m)).setCell ⟨w.heap.size + 1 + 1, 2 + 2, none⟩ (.int .i64 t.need.p)) (w.heap.size + 1) 34 #[.int .i64 0, .int .i64 0, .int .i64 0, .int .i64 0, .int .i64 0, .slice none 0 0, .slice none 0 0] := ((HB1.out.far (by dsimp only; omega) _).far (by dsimp only; omega) _).far (by dsimp only; omega) _
  have A2 : BlockIs (((w1.setCell ⟨w.heap.size + 1 + 1, 2, none⟩ (.int .i64 t.need.c)).setCell ⟨w.heap.size + 1 + 1, 2 + 1, none⟩ (.int .i64 t.need.m)).setCell ⟨w.heap.size + 1 + 1, 2 + 2, none⟩ (.int .i64 t.need.p)) (w.heap.size + 1 + 1) 34 #[.int .i64 t.id, .int .i64 t.prio, .int .i64 t.need.c, .int .i64 t.need.m, .int .i64 t.need.p, .slice none 0 0, .slice none 0 0] := by simpa using ((HB2.out.put 2 _).put 3 _).put 4 _
  generalize (((w1.setCell ⟨w.heap.size + 1 + 1, 2, none⟩ (.int .i64 t.need.c)).setCell ⟨w.heap.size + 1 + 1, 2 + 1, none⟩ (.int .i64 t.need.m)).setCell ⟨w.heap.size + 1 + 1, 2 + 2, none⟩ (.int .i64 t.need.p)) = X2 at hC2 A0 A1 A2 ⊢
  clear HB0 HB1 HB2 hC1 hz1 c5 c2 c3 c4 f2
  refine (toLabS_any v1 t.want _ (H1.out.below hC2) L1.out).mono ?_
  rintro e w3 ⟨g1, rfl, hg1, hblk1, hb3⟩
  have l2 := A2.lt
  have hz3 := hb3.size
  have hC3 : Below w.heap.size w w3 := hC2.trans (hb3.mono hC2.size)
  have B0 := A0.below hb3 A0.lt
  have B1 := A1.below hb3 A1.lt
  have B2 := A2.below hb3 A2.lt
  have c6 := B0.cell 6
  have c5 := B2.cell 5
  have f2 := B2.frozen
  simp at c6 c5
  have HB1 := Lib.hid B1
  have HB2 := Lib.hid B2
  have HG1 := Lib.hid hblk1
  clear A0 A1 A2 B0 B1 B2 hblk1
  go_wp2_with fail
  have hC4 : Below w.heap.size w (w3.setCell ⟨w.heap.size + 1 + 1, 5, none⟩ (.slice (some ⟨g1, 0, none⟩) t.want.length t.want.length)) := (by repeat' (first | exact Below.refl _ _ | refine Below.alloc ?_ ?_ _ | refine Below.setCell ?_ ?_ _ | refine Below.drew ?_ | (apply below_step; assumption) | (simp; done) | (simp; omega) | omega))
  have A1 : BlockIs (w3.setCell ⟨w.heap.size + 1 + 1, 5, none⟩ (.slice (some ⟨g1, 0, none⟩) t.want.length t.want.length)) (w.heap.size + 1) 34 #[.int .i64 0, .int .i64 0, .int .i64 0, .int .i64 0, .int .i64 0, .slice none 0 0, .slice none 0 0] := HB1.out.far (by dsimp only; omega) _
  have A2 : BlockIs (w3.setCell ⟨w.heap.size + 1 + 1, 5, none⟩ (.slice (some ⟨g1, 0, none⟩) t.want.length t.want.length)) (w.heap.size + 1 + 1) 34 #[.int .i64 t.id, .int .i64 t.prio, .int .i64 t.need.c, .int .i64 t.need.m, .int .i64 t.need.p, .slice (some ⟨g1, 0, none⟩) t.want.length t.want.length, .slice none 0 0] := by simpa using HB2.out.put 5 _
  have AG : BlockIs (w3.setCell ⟨w.heap.size + 1 + 1, 5, none⟩ (.slice (some ⟨g1, 0, none⟩) t.want.length t.want.length)) g1 78 (labL t.want).toArray := HG1.out.far (by dsimp only; omega) _
  generalize (w3.setCell ⟨w.heap.size + 1 + 1, 5, none⟩ (.slice (some ⟨g1, 0, none⟩) t.want.length t.want.length)) = X4 at hC4 A1 A2 AG ⊢
  clear HB1 HB2 HG1 hC3 hz3 c5 c6 f2 hb3
  refine (toIntS_o v2 t.tols _ (H2.out.below hC4) L2.out).mono ?_
  rintro e w5 ⟨g2, rfl, hg2, hlt2, hat2, hb5⟩
  have l4 := A2.lt
  have hz5 := hb5.size
  have hC5 : Below w.heap.size w w5 := hC4.trans (hb5.mono hC4.size)
  have B1 := A1.below hb5 A1.lt
  have B2 := A2.below hb5 A2.lt
  have BG := AG.below hb5 AG.lt
  have c0 := B2.cell 0
  have c1 := B2.cell 1
  have c2 := B2.cell 2
  have c3 := B2.cell 3
  have c4 := B2.cell 4
  have c5 := B2.cell 5
  have c6 := B2.cell 6
  have f2 := B2.frozen
  have d0 := B1.cell 0
  have d1 := B1.cell 1
  have d2 := B1.cell 2
  have d3 := B1.cell 3
  have d4 := B1.cell 4
  have d5 := B1.cell 5
  have d6 := B1.cell 6
  have f1 := B1.frozen
  simp at c0 c1 c2 c3 c4 c5 c6 d0 d1 d2 d3 d4 d5 d6
  have HB1 := Lib.hid B1
  have HB2 := Lib.hid B2
  have HG1 := Lib.hid BG
  have HG2 := Lib.hid hat2
  clear A1 A2 AG B1 B2 BG hat2
  go_wp2_with fail
  have hZ : BlockIs ((((((((w5.setCell ⟨w.heap.size + 1 + 1, 6, none⟩ (.slice (some ⟨g2, 0, none⟩) t.tols.length t.tols.length)).setCell ⟨w.heap.size + 1, 0, none⟩ (.int .i64 t.id)).setCell ⟨w.heap.size + 1, 1, none⟩ (.int .i64 t.prio)).setCell ⟨w.heap.size + 1, 2, none⟩ (.int .i64 t.need.c)).setCell ⟨w.heap.size + 1, 3, none⟩ (.int .i64 t.need.m)).setCell ⟨w.heap.size + 1, 4, none⟩ (.int .i64 t.need.p)).setCell ⟨w.heap.size + 1, 5, none⟩ (.slice (some ⟨g1, 0, none⟩) t.want.length t.want.length)).setCell ⟨w.heap.size + 1, 6, none⟩ (.slice (some ⟨g2, 0, none⟩) t.tols.length t.tols.length)) (w.heap.size + 1) 34 #[.int .i64 t.id, .int .i64 t.prio, .int .i64 t.need.c, .int .i64 t.need.m, .int .i64 t.need.p, .slice (some ⟨g1, 0, none⟩) t.want.length t.want.length, .slice (some ⟨g2, 0, none⟩) t.tols.length t.tols.length] := put7 _ _ _ _ _ _ _ (HB1.out.far (by dsimp only; omega) _) rfl
  have hG : BlockIs ((((((((w5.setCell ⟨w.heap.size + 1 + 1, 6, none⟩ (.slice (some ⟨g2, 0, none⟩) t.tols.length t.tols.length)).setCell ⟨w.heap.size + 1, 0, none⟩ (.int .i64 t.id)).setCell ⟨w.heap.size + 1, 1, none⟩ (.int .i64 t.prio)).setCell ⟨w.heap.size + 1, 2, none⟩ (.int .i64 t.need.c)).setCell ⟨w.heap.size + 1, 3, none⟩ (.int .i64 t.need.m)).setCell ⟨w.heap.size + 1, 4, none⟩ (.int .i64 t.need.p)).setCell ⟨w.heap.size + 1, 5, none⟩ (.slice (some ⟨g1, 0, none⟩) t.want.length t.want.length)).setCell ⟨w.heap.size + 1, 6, none⟩ (.slice (some ⟨g2, 0, none⟩) t.tols.length t.tols.length)) g1 78 (labL t.want).toArray := far7 (HG1.out.far (by dsimp only; omega) _) (by omega)
  have hI : BlockIs ((((((((w5.setCell ⟨w.heap.size + 1 + 1, 6, none⟩ (.slice (some ⟨g2, 0, none⟩) t.tols.length t.tols.length)).setCell ⟨w.heap.size + 1, 0, none⟩ (.int .i64 t.id)).setCell ⟨w.heap.size + 1, 1, none⟩ (.int .i64 t.prio)).setCell ⟨w.heap.size + 1, 2, none⟩ (.int .i64 t.need.c)).setCell ⟨w.heap.size + 1, 3, none⟩ (.int .i64 t.need.m)).setCell ⟨w.heap.size + 1, 4, none⟩ (.int .i64 t.need.p)).setCell ⟨w.heap.size + 1, 5, none⟩ (.slice (some ⟨g1, 0, none⟩) t.want.length t.want.length)).setCell ⟨w.heap.size + 1, 6, none⟩ (.slice (some ⟨g2, 0, none⟩) t.tols.length t.tols.length)) g2 3 (intL t.tols).toArray := far7 (HG2.out.far (by dsimp only; omega) _) (by omega)
  have hB : Below w.heap.size w ((((((((w5.setCell ⟨w.heap.size + 1 + 1, 6, none⟩ (.slice (some ⟨g2, 0, none⟩) t.tols.length t.tols.length)).setCell ⟨w.heap.size + 1, 0, none⟩ (.int .i64 t.id)).setCell ⟨w.heap.size + 1, 1, none⟩ (.int .i64 t.prio)).setCell ⟨w.heap.size + 1, 2, none⟩ (.int .i64 t.need.c)).setCell ⟨w.heap.size + 1, 3, none⟩ (.int .i64 t.need.m)).setCell ⟨w.heap.size + 1, 4, none⟩ (.int .i64 t.need.p)).setCell ⟨w.heap.size + 1, 5, none⟩ (.slice (some ⟨g1, 0, none⟩) t.want.length t.want.length)).setCell ⟨w.heap.size + 1, 6, none⟩ (.slice (some ⟨g2, 0, none⟩) t.tols.length t.tols.length)) := below7 (hC5.setCell (by dsimp only; omega) _) (by omega)
  have hs : ((((((((w5.setCell ⟨w.heap.size + 1 + 1, 6, none⟩ (.slice (some ⟨g2, 0, none⟩) t.tols.length t.tols.length)).setCell ⟨w.heap.size + 1, 0, none⟩ (.int .i64 t.id)).setCell ⟨w.heap.size + 1, 1, none⟩ (.int .i64 t.prio)).setCell ⟨w.heap.size + 1, 2, none⟩ (.int .i64 t.need.c)).setCell ⟨w.heap.size + 1, 3, none⟩ (.int .i64 t.need.m)).setCell ⟨w.heap.size + 1, 4, none⟩ (.int .i64 t.need.p)).setCell ⟨w.heap.size + 1, 5, none⟩ (.slice (some ⟨g1, 0, none⟩) t.want.length t.want.length)).setCell ⟨w.heap.size + 1, 6, none⟩ (.slice (some ⟨g2, 0, none⟩) t.tols.length t.tols.length)).heap.size = w5.heap.size := by simp [World.setCell]
  generalize ((((((((w5.setCell ⟨w.heap.size + 1 + 1, 6, none⟩ (.slice (some ⟨g2, 0, none⟩) t.tols.length t.tols.length)).setCell ⟨w.heap.size + 1, 0, none⟩ (.int .i64 t.id)).setCell ⟨w.heap.size + 1, 1, none⟩ (.int .i64 t.prio)).setCell ⟨w.heap.size + 1, 2, none⟩ (.int .i64 t.need.c)).setCell ⟨w.heap.size + 1, 3, none⟩ (.int .i64 t.need.m)).setCell ⟨w.heap.size + 1, 4, none⟩ (.int .i64 t.need.p)).setCell ⟨w.heap.size + 1, 5, none⟩ (.slice (some ⟨g1, 0, none⟩) t.want.length t.want.length)).setCell ⟨w.heap.size + 1, 6, none⟩ (.slice (some ⟨g2, 0, none⟩) t.tols.length t.tols.length)) = X at hZ hG hI hB hs ⊢
  have z0 := hZ.cell 0
  have z1 := hZ.cell 1
  have z2 := hZ.cell 2
  have z3 := hZ.cell 3
  have z4 := hZ.cell 4
  have z5 := hZ.cell 5
  have z6 := hZ.cell 6
  simp at z0 z1 z2 z3 z4 z5 z6
  exact bodyPost_ret (v := .agg #[.int .i64 t.id, .int .i64 t.prio, .int .i64 t.need.c, .int .i64 t.need.m, .int .i64 t.need.p, .slice (some ⟨g1, 0, none⟩) t.want.length t.want.length, .slice (some ⟨g2, 0, none⟩) t.tols.length t.tols.length]) (by simp [results, Tryd.results11, go_sem, z0, z1, z2, z3, z4, z5, z6]) rfl ⟨g1, g2, rfl, by omega, by omega, by omega, hG, hI, hB⟩

theorem blk_ne {w : World} {a b : Nat} {t u : TypeId} {x y : Array Value} (h : BlockIs w a t x) (k : BlockIs w b u y) (hne : t ≠ u) : a ≠ b := fun e => by
  subst e
  have := Option.some.inj (h.symm.trans k)
  simp at this
  exact hne this.2
end Go.Proofs.YtcngiinaneefjaaDoor
