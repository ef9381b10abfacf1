/- markEventS: what it returns; only the events' own blocks turn. (mkmarke.py) -/
import Derived.Test.YtcngiinaneefjaaDoorMg10
namespace Go.Proofs.YtcngiinaneefjaaDoor
open Go.RowKit

def szEvent (t : EV) : Int := 10 + 2 * t.task.want.length + t.task.tols.length
def sumEvent : List EV → Int
  | [] => 0
  | t :: r => szEvent t + sumEvent r
theorem sumEvent_snoc (l : List EV) (t : EV) : sumEvent (l ++ [t]) = sumEvent l + szEvent t := by
  induction l with
  | nil => simp [sumEvent]
  | cons x r ih => simp only [List.cons_append, sumEvent, ih]; omega
theorem sumEvent_nonneg (l : List EV) : 0 ≤ sumEvent l := by
  induction l with
  | nil => simp [sumEvent]
  | cons x r ih => simp only [sumEvent, szEvent]; omega
def allEvent (l : List EV) : Prop := ∀ t ∈ l, t.task.want.length ≤ 1048576 ∧ t.task.tols.length ≤ 1048576
theorem sumEvent_le {l : List EV} (h : allEvent l) : sumEvent l ≤ l.length * 3200000 := by
  induction l with
  | nil => simp [sumEvent]
  | cons x r ih =>
    have h1 := h x (by simp)
    have h2 := ih (fun t ht => h t (by simp [ht]))
    simp only [sumEvent, szEvent, List.length_cons, Int.natCast_add, Int.natCast_one]
    omega
theorem sumEvent_take {l : List EV} (h : allEvent l) (i : Nat) (hl : l.length ≤ 1100000) : 0 ≤ sumEvent (l.take i) ∧ sumEvent (l.take i) ≤ 3520000000000 := by
  refine ⟨sumEvent_nonneg _, ?_⟩
  have h1 := sumEvent_le (l := l.take i) (fun t ht => h t (List.mem_of_mem_take ht))
  have h2 : (l.take i).length ≤ l.length := by rw [List.length_take]; omega
  omega
theorem elems_allEvent {w : World} {l : List EV} {xs : List Value} {bs : List Nat} (h : Elems EventO w l xs bs) : allEvent l := by
  induction l generalizing xs bs with
  | nil => intro t ht; cases ht
  | cons x r ih =>
    obtain ⟨cs, ys, b1, b2, rfl, rfl, ⟨v1, v2, _, _, _, _, m⟩, h2⟩ := h
    intro t ht
    rcases List.mem_cons.1 ht with rfl | ht
    · exact m
    · exact ih h2 t ht
set_option maxRecDepth 20000 in
set_option maxHeartbeats 12800000 in
theorem markEventS_any (v : Value) (l : List EV) (bs : List Nat) (k : Int) (w : World) (h : RowO EventO 50 12 w v l bs) (hnd : bs.Nodup) (hl : l.length ≤ 1100000) (h0 : 0 ≤ k) (hk : k ≤ 576460752303423488) :
    Calls Tryd.prog 36 #[v, .int .i64 k] w fun e w' => e = .returned (.int .i64 (k + sumEvent l)) ∧ TurnB bs w w' := by
  obtain ⟨xs, b, hown, hel, rfl⟩ := h
  have HALL := Lib.hid (elems_allEvent hel)
  obtain ⟨A, c, rfl, _⟩ := own_form hown
  have HO := Lib.hid (And.intro hown hel)
  have HND := Lib.hid hnd
  clear hown hel hnd
  go_enter Tryd.func36, Tryd.ntmps36
  go_wp2_with fail
  go_loopw [1, 5] (fun s1 s5 wr => ∃ (i : Nat) (xa xb : List Value) (ba bb : List Nat), i ≤ l.length ∧ s5 = .int .i64 i ∧ s1 = .int .i64 (k + sumEvent (l.take i)) ∧ wr.ownsRow 0 50 12 (.slice A l.length c) l.length (xa ++ xb) ∧ xa.length = i * 12 ∧ Elems EventO wr (l.drop i) xb bb ∧ b = ba ++ bb ∧ TurnB (blk (.slice A l.length c) ++ b) w wr) (fun _ s5 _ => (l.length - intOf s5).toNat)
  case atStart => exact ⟨0, [], xs, [], b, by omega, rfl, by simp [sumEvent], HO.out.1, by simp, HO.out.2, rfl, TurnB.refl _ _⟩
  case round =>
    obtain ⟨i, xa, xb, ba, bb, hi, rfl, rfl, hown, hea, heb, hbe, htn⟩ := hrel
    obtain ⟨hs0, hs1⟩ := sumEvent_take HALL.out i hl
    by_cases hlt : i < l.length
    · obtain ⟨t, ht⟩ : ∃ t, l[i]? = some t := ⟨_, List.getElem?_eq_getElem hlt⟩
      rw [drop_at ht] at heb
      obtain ⟨cs, ys, b1, b2, rfl, rfl, hR, hel2⟩ := heb
      obtain ⟨v1, v2, rfl, h1, h2, rfl, m1, m2⟩ := hR
      obtain ⟨A1, c1, rfl, _⟩ := own_form h1
      obtain ⟨A2, c2, rfl, _⟩ := own_form h2
      obtain ⟨g, cap, e, hgl, hcell, hfr⟩ := own_cells hown (by omega)
      simp only [Value.slice.injEq] at e
      obtain ⟨rfl, -, rfl⟩ := e
      have hxl : xa.length = i * 12 := hea
      have nd := HND.out
      rw [hbe] at nd
      obtain ⟨da, d1, d2, dc⟩ := nd5 nd
      have u0 := hcell (i * 12 + 0) _ (by rw [List.getElem?_append_right (by omega), hxl, Nat.add_sub_cancel_left]; rfl); have u1 := hcell (i * 12 + 1) _ (by rw [List.getElem?_append_right (by omega), hxl, Nat.add_sub_cancel_left]; rfl); have u2 := hcell (i * 12 + 2) _ (by rw [List.getElem?_append_right (by omega), hxl, Nat.add_sub_cancel_left]; rfl); have u3 := hcell (i * 12 + 3) _ (by rw [List.getElem?_append_right (by omega), hxl, Nat.add_sub_cancel_left]; rfl); have u4 := hcell (i * 12 + 4) _ (by rw [List.getElem?_append_right (by omega), hxl, Nat.add_sub_cancel_left]; rfl); have u5 := hcell (i * 12 + 5) _ (by rw [List.getElem?_append_right (by omega), hxl, Nat.add_sub_cancel_left]; rfl); have u6 := hcell (i * 12 + 6) _ (by rw [List.getElem?_append_right (by omega), hxl, Nat.add_sub_cancel_left]; rfl); have u7 := hcell (i * 12 + 7) _ (by rw [List.getElem?_append_right (by omega), hxl, Nat.add_sub_cancel_left]; rfl); have u8 := hcell (i * 12 + 8) _ (by rw [List.getElem?_append_right (by omega), hxl, Nat.add_sub_cancel_left]; rfl); have u9 := hcell (i * 12 + 9) _ (by rw [List.getElem?_append_right (by omega), hxl, Nat.add_sub_cancel_left]; rfl); have u10 := hcell (i * 12 + 10) _ (by rw [List.getElem?_append_right (by omega), hxl, Nat.add_sub_cancel_left]; rfl); have u11 := hcell (i * 12 + 11) _ (by rw [List.getElem?_append_right (by omega), hxl, Nat.add_sub_cancel_left]; rfl)
      simp only [Nat.add_zero] at u0
      generalize hK : k + sumEvent (l.take i) = K
      have hK0 : 0 ≤ K := by omega
      have hK1 : K ≤ 576464272303423488 := by omega
      have HKK := Lib.hid hK
      have HT := Lib.hid (And.intro ht hbe)
      have HX := Lib.hid (And.intro hown (And.intro True.intro (And.intro hel2 (And.intro h1 h2))))
      have HD := Lib.hid (And.intro da (And.intro d1 (And.intro d2 dc)))
      have HXL := Lib.hid hxl
      have HTN := Lib.hid htn
      have hlti : (i : Int) < (l.length : Int) := by omega
      clear hown hel2 h1 h2 hcell hxl hea htn ht hbe nd da d1 d2 dc hK hs0 hs1
      go_wp2_with fail
      have hT5 : TurnB [g] wr (World.setCell (World.setCell (World.setCell (World.setCell (World.setCell (World.setCell (World.setCell (World.setCell (World.setCell (World.setCell wr ⟨g, i * 12, none⟩ (.int .i64 K)) ⟨g, i * 12 + 1, none⟩ (.int .i64 (K + 1))) ⟨g, i * 12 + 2, none⟩ (.int .i64 (K + 1 + 1))) ⟨g, i * 12 + 3, none⟩ (.bool ((K + 1 + 1 + 1) % 3 == 0))) ⟨g, i * 12 + 4, none⟩ (.bool ((K + 1 + 1 + 1 + 1) % 3 == 0))) ⟨g, i * 12 + 5, none⟩ (.int .i64 (K + 1 + 1 + 1 + 1 + 1))) ⟨g, i * 12 + 5 + 1, none⟩ (.int .i64 (K + 1 + 1 + 1 + 1 + 1 + 1))) ⟨g, i * 12 + 5 + 2, none⟩ (.int .i64 (K + 1 + 1 + 1 + 1 + 1 + 1 + 1))) ⟨g, i * 12 + 5 + 2 + 1, none⟩ (.int .i64 (K + 1 + 1 + 1 + 1 + 1 + 1 + 1 + 1))) ⟨g, i * 12 + 5 + 2 + 2, none⟩ (.int .i64 (K + 1 + 1 + 1 + 1 + 1 + 1 + 1 + 1 + 1))) := TurnB.put (TurnB.put (TurnB.put (TurnB.put (TurnB.put (TurnB.put (TurnB.put (TurnB.put (TurnB.put (TurnB.put (TurnB.refl _ _) (List.mem_singleton.2 rfl) _ _) (List.mem_singleton.2 rfl) _ _) (List.mem_singleton.2 rfl) _ _) (List.mem_singleton.2 rfl) _ _) (List.mem_singleton.2 rfl) _ _) (List.mem_singleton.2 rfl) _ _) (List.mem_singleton.2 rfl) _ _) (List.mem_singleton.2 rfl) _ _) (List.mem_singleton.2 rfl) _ _) (List.mem_singleton.2 rfl) _ _
      have hO5 : World.ownsRow (World.setCell (World.setCell (World.setCell (World.setCell (World.setCell (World.setCell (World.setCell (World.setCell (World.setCell (World.setCell wr ⟨g, i * 12, none⟩ (.int .i64 K)) ⟨g, i * 12 + 1, none⟩ (.int .i64 (K + 1))) ⟨g, i * 12 + 2, none⟩ (.int .i64 (K + 1 + 1))) ⟨g, i * 12 + 3, none⟩ (.bool ((K + 1 + 1 + 1) % 3 == 0))) ⟨g, i * 12 + 4, none⟩ (.bool ((K + 1 + 1 + 1 + 1) % 3 == 0))) ⟨g, i * 12 + 5, none⟩ (.int .i64 (K + 1 + 1 + 1 + 1 + 1))) ⟨g, i * 12 + 5 + 1, none⟩ (.int .i64 (K + 1 + 1 + 1 + 1 + 1 + 1))) ⟨g, i * 12 + 5 + 2, none⟩ (.int .i64 (K + 1 + 1 + 1 + 1 + 1 + 1 + 1))) ⟨g, i * 12 + 5 + 2 + 1, none⟩ (.int .i64 (K + 1 + 1 + 1 + 1 + 1 + 1 + 1 + 1))) ⟨g, i * 12 + 5 + 2 + 2, none⟩ (.int .i64 (K + 1 + 1 + 1 + 1 + 1 + 1 + 1 + 1 + 1))) 0 50 12 (.slice (some ⟨g, 0, none⟩) l.length c) l.length (xa ++ ([.int .i64 K, .int .i64 (K + 1), .int .i64 (K + 1 + 1), .bool ((K + 1 + 1 + 1) % 3 == 0), .bool ((K + 1 + 1 + 1 + 1) % 3 == 0), .int .i64 (K + 1 + 1 + 1 + 1 + 1), .int .i64 (K + 1 + 1 + 1 + 1 + 1 + 1), .int .i64 (K + 1 + 1 + 1 + 1 + 1 + 1 + 1), .int .i64 (K + 1 + 1 + 1 + 1 + 1 + 1 + 1 + 1), .int .i64 (K + 1 + 1 + 1 + 1 + 1 + 1 + 1 + 1 + 1)] ++ ([.slice A1 t.task.want.length c1, .slice A2 t.task.tols.length c2] ++ ys))) := by
        have st := own_put (v := .slice (some ⟨g, 0, none⟩) l.length c) (g := g) (xa := xa) (cs := [.int .i64 t.kind, .int .i64 t.who, .int .i64 t.n, .bool t.works, .bool t.keep, .int .i64 t.task.id, .int .i64 t.task.prio, .int .i64 t.task.need.c, .int .i64 t.task.need.m, .int .i64 t.task.need.p]) (xb := [.slice A1 t.task.want.length c1, .slice A2 t.task.tols.length c2] ++ ys) (ds := [.int .i64 K, .int .i64 (K + 1), .int .i64 (K + 1 + 1), .bool ((K + 1 + 1 + 1) % 3 == 0), .bool ((K + 1 + 1 + 1 + 1) % 3 == 0), .int .i64 (K + 1 + 1 + 1 + 1 + 1), .int .i64 (K + 1 + 1 + 1 + 1 + 1 + 1), .int .i64 (K + 1 + 1 + 1 + 1 + 1 + 1 + 1), .int .i64 (K + 1 + 1 + 1 + 1 + 1 + 1 + 1 + 1), .int .i64 (K + 1 + 1 + 1 + 1 + 1 + 1 + 1 + 1 + 1)]) HX.out.1 rfl rfl
        rw [HXL.out] at st
        exact st
      generalize (World.setCell (World.setCell (World.setCell (World.setCell (World.setCell (World.setCell (World.setCell (World.setCell (World.setCell (World.setCell wr ⟨g, i * 12, none⟩ (.int .i64 K)) ⟨g, i * 12 + 1, none⟩ (.int .i64 (K + 1))) ⟨g, i * 12 + 2, none⟩ (.int .i64 (K + 1 + 1))) ⟨g, i * 12 + 3, none⟩ (.bool ((K + 1 + 1 + 1) % 3 == 0))) ⟨g, i * 12 + 4, none⟩ (.bool ((K + 1 + 1 + 1 + 1) % 3 == 0))) ⟨g, i * 12 + 5, none⟩ (.int .i64 (K + 1 + 1 + 1 + 1 + 1))) ⟨g, i * 12 + 5 + 1, none⟩ (.int .i64 (K + 1 + 1 + 1 + 1 + 1 + 1))) ⟨g, i * 12 + 5 + 2, none⟩ (.int .i64 (K + 1 + 1 + 1 + 1 + 1 + 1 + 1))) ⟨g, i * 12 + 5 + 2 + 1, none⟩ (.int .i64 (K + 1 + 1 + 1 + 1 + 1 + 1 + 1 + 1))) ⟨g, i * 12 + 5 + 2 + 2, none⟩ (.int .i64 (K + 1 + 1 + 1 + 1 + 1 + 1 + 1 + 1 + 1))) = W5 at hT5 hO5 ⊢
      obtain ⟨hown, hea, hel2, h1, h2⟩ := HX.out
      obtain ⟨da, d1, d2, dc⟩ := HD.out
      have h15 := own_agree h1 (hT5.agree (fun b hb => ⟨own_lt h1 b hb, by simpa using (d1 b hb).1⟩))
      refine (markLabS_any _ t.task.want _ _ h15 m1 (by omega) (by omega)).mono ?_
      rintro e w3 ⟨rfl, hL3, hg3⟩
      have hT3 : TurnB (blk (.slice A1 t.task.want.length c1)) W5 w3 := TurnB.of_grown hg3 (fun k e => blk_mem e)
      have hO3 := own_agree hO5 (hT3.agree (fun b hb => by
        obtain rfl : b = g := by simpa [blk, Value.ownBlock] using hb
        exact ⟨own_lt hO5 b (by simp [blk, Value.ownBlock]), fun hx => (d1 b hx).1 rfl⟩))
      have h25 := own_agree h2 (hT5.agree (fun b hb => ⟨own_lt h2 b hb, by simpa using (d2 b hb).1⟩))
      have h23 := own_agree h25 (hT3.agree (fun b hb => ⟨own_lt h25 b hb, (d2 b hb).2⟩))
      have uf := own_frozen hO3 (by omega)
      have z6 := own_cell hO3 (j := i * 12 + 11) (by rw [List.getElem?_append_right (by rw [HXL.out]; omega), HXL.out, Nat.add_sub_cancel_left]; rfl)
      
      have HO3 := Lib.hid hO3
      have H23 := Lib.hid h23
      have HL3 := Lib.hid hL3
      have HT5 := Lib.hid hT5
      have HT3 := Lib.hid hT3
      clear hown hea hel2 h1 h2 da d1 d2 dc h15 h25 h23 hO3 hL3 hg3 hT3 hT5 hO5 u0 u1 u2 u3 u4 u5 u6 u7 u8 u9 u10 u11 
      go_wp2_with fail
      refine (markIntS_any _ t.task.tols _ _ H23.out m2 (by omega) (by omega)).mono ?_
      rintro e w4 ⟨rfl, hI4, hg4⟩
      have hT4 : TurnB (blk (.slice A2 t.task.tols.length c2)) w3 w4 := TurnB.of_grown hg4 (fun k e => blk_mem e)
      obtain ⟨da, d1, d2, dc⟩ := HD.out
      have hO4 := own_agree HO3.out (hT4.agree (fun b hb => by
        obtain rfl : b = g := by simpa [blk, Value.ownBlock] using hb
        exact ⟨own_lt HO3.out b (by simp [blk, Value.ownBlock]), fun hx => (d2 b hx).1 rfl⟩))
      have hL4 : LabO w4 _ _ := own_agree HL3.out (hT4.agree (fun b hb => ⟨own_lt HL3.out b hb, (d1 b hb).2⟩))
      
      
      have HO4 := Lib.hid hO4
      have HL4 := Lib.hid hL4
      have HI4 := Lib.hid (show IntO w4 _ _ from hI4)
      have HT4 := Lib.hid hT4
      clear da d1 d2 dc hO4 hL4 hI4 hg4 hT4 z6 HO3 HL3 H23
      go_wp2_with fail
      go_roundw
      case rel =>
        obtain ⟨hown, hea, hel2, -, -⟩ := HX.out
        obtain ⟨da, d1, d2, dc⟩ := HD.out
        obtain ⟨ht, hbe⟩ := HT.out
        have hT : TurnB (g :: (blk (.slice A1 t.task.want.length c1) ++ blk (.slice A2 t.task.tols.length c2))) wr w4 := ((HT5.out.mono (by simp)).trans (HT3.out.mono (fun b hb => by simp [hb]))).trans (HT4.out.mono (fun b hb => by simp [hb]))
        have hO6 := HO4.out
        have hL6 := HL4.out
        have hI6 := HI4.out
        have hT6 := hT
        
        
        
        
        
        have hel6 := hel2.agree EventO.framed (hT6.agree (fun b hb => ⟨elems_lt (fun _ _ _ h => h.lt) hel2 b hb, by simpa [not_or] using dc b hb⟩))
        refine ⟨i + 1, xa ++ [.int .i64 K, .int .i64 (K + 1), .int .i64 (K + 1 + 1), .bool ((K + 1 + 1 + 1) % 3 == 0), .bool ((K + 1 + 1 + 1 + 1) % 3 == 0), .int .i64 (K + 1 + 1 + 1 + 1 + 1), .int .i64 (K + 1 + 1 + 1 + 1 + 1 + 1), .int .i64 (K + 1 + 1 + 1 + 1 + 1 + 1 + 1), .int .i64 (K + 1 + 1 + 1 + 1 + 1 + 1 + 1 + 1), .int .i64 (K + 1 + 1 + 1 + 1 + 1 + 1 + 1 + 1 + 1), .slice A1 t.task.want.length c1, .slice A2 t.task.tols.length c2], ys, ba ++ (blk (.slice A1 t.task.want.length c1) ++ blk (.slice A2 t.task.tols.length c2)), b2, by omega, by go_num, ?_, ?_, ?_, hel6, by rw [hbe]; simp, HTN.out.trans (hT6.mono (fun b hb => ?_))⟩
        · rw [take_at ht, sumEvent_snoc]
          have := HKK.out
          unfold szEvent
          congr 1; omega
        · rw [List.append_assoc]; exact hO6
        · rw [List.length_append, HXL.out]; simp; omega
        · rw [hbe]
          rcases List.mem_cons.1 hb with rfl | hb
          · simp [blk, Value.ownBlock]
          · exact List.mem_append_right _ (List.mem_append_right _ (List.mem_append_left _ hb))
      case measure => simp [intOf]; omega
    · obtain rfl : i = l.length := by omega
      have HX := Lib.hid (And.intro hown (And.intro hea (And.intro heb htn)))
      have HBE := Lib.hid hbe
      clear hown hea heb htn hbe
      rw [List.take_length] at hs0 hs1 ⊢
      go_wp2_with fail
      go_ret
      obtain ⟨hown, hea, heb, htn⟩ := HX.out
      rw [List.drop_length] at heb
      obtain ⟨rfl, rfl⟩ := heb
      rw [List.append_nil] at hown
      have hbe := HBE.out
      rw [List.append_nil] at hbe
      subst hbe
      exact ⟨rfl, htn⟩
end Go.Proofs.YtcngiinaneefjaaDoor
