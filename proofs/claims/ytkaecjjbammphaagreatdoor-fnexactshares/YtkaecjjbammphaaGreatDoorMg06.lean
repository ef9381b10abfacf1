/- The laws' helpers that write marks and look for them, over tasks and nodes: markTaskS, markNodeS, heldTaskS, heldNodeS. The laws' helpers toIntS, toTask, toNode, toTaskS, toNodeS, toBindS: their results own their memory, block by block. The laws' helpers that write marks and look for them, over a cluster: markCluster, heldCluster. Boxes that a call has made, behind another call. The laws' helper toCluster: its result owns its memory, block by block. The contracts of chapter 1's functions: outOfRange, checkBoth, keepValid, ResOk, ResAdd, ResSub, ResFits. The contracts of ResOk, ResAdd, ResSub, ResFits. append of a label to a slice of the call's own; the contract of marks.labs. -/
import Derived.Test.YtkaecjjbammphaaGreatDoorMg05
import Derived.Test.YtkaecjjbammphaaGreatDoorMg02
import Derived.Deep.AppendLies
import Derived.OwnWalk
import Derived.Laws.OwnMore
namespace Go.Proofs.YtkaecjjbammphaaGreatDoor
open Go.RowKit

theorem own_cell {w : World} {e : TypeId} {size n g c : Nat} {xs : List Value} (h : w.ownsRow 0 e size (.slice (some ⟨g, 0, none⟩) n c) n xs) {j : Nat} {u : Value} (hu : xs[j]? = some u) : w.cell? ⟨g, j, none⟩ = some u := by
  rcases Nat.eq_zero_or_pos n with h0 | hp
  · have := h.1
    rw [h0, Nat.zero_mul] at this
    rw [List.eq_nil_of_length_eq_zero this] at hu; simp at hu
  · obtain ⟨g', cap, e, _, hc, _⟩ := own_cells h hp
    simp only [Value.slice.injEq, Option.some.injEq, Addr.mk.injEq] at e
    obtain ⟨⟨rfl, -, -⟩, -, -⟩ := e
    exact hc j u hu
theorem own_frozen {w : World} {e : TypeId} {size n g c : Nat} {xs : List Value} (h : w.ownsRow 0 e size (.slice (some ⟨g, 0, none⟩) n c) n xs) (hp : 0 < n) (o : Nat) : w.frozen? ⟨g, o, none⟩ = false := by
  obtain ⟨g', cap, e, _, _, hf⟩ := own_cells h hp
  simp only [Value.slice.injEq, Option.some.injEq, Addr.mk.injEq] at e
  obtain ⟨⟨rfl, -, -⟩, -, -⟩ := e
  exact hf o
theorem nd5 {g : Nat} {a x y c : List Nat} (h : (g :: (a ++ ((x ++ y) ++ c))).Nodup) : (∀ b ∈ a, b ≠ g ∧ b ∉ x ∧ b ∉ y) ∧ (∀ b ∈ x, b ≠ g ∧ b ∉ y) ∧ (∀ b ∈ y, b ≠ g ∧ b ∉ x) ∧ (∀ b ∈ c, b ≠ g ∧ b ∉ x ∧ b ∉ y) := by
  rw [List.nodup_cons] at h
  obtain ⟨hg, h⟩ := h
  simp only [List.mem_append, not_or] at hg
  obtain ⟨ga, ⟨gx, gy⟩, gc⟩ := hg
  simp only [List.nodup_append, List.mem_append] at h
  obtain ⟨-, ⟨⟨-, -, hxy⟩, -, hxc⟩, ha⟩ := h
  refine ⟨fun b hb => ⟨fun e => ga (e ▸ hb), fun hx => ha b hb b (.inl (.inl hx)) rfl, fun hy => ha b hb b (.inl (.inr hy)) rfl⟩, fun b hb => ⟨fun e => gx (e ▸ hb), fun hy => hxy b hb b hy rfl⟩,
    fun b hb => ⟨fun e => gy (e ▸ hb), fun hx => hxy b hx b hb rfl⟩, fun b hb => ⟨fun e => gc (e ▸ hb), fun hx => hxc b (.inl hx) b hb rfl, fun hy => hxc b (.inr hy) b hb rfl⟩⟩
theorem blk_mem {v : Value} {k : Nat} (h : v.ownBlock = some k) : k ∈ blk v := by simp [blk, h]

theorem elems_allTask {w : World} {l : List TV} {xs : List Value} {bs : List Nat} (h : Elems TaskO w l xs bs) : allTask l := by
  induction l generalizing xs bs with
  | nil => intro t ht; cases ht
  | cons x r ih =>
    obtain ⟨cs, ys, b1, b2, rfl, rfl, ⟨v1, v2, _, _, _, _, m⟩, h2⟩ := h
    intro t ht
    rcases List.mem_cons.1 ht with rfl | ht
    · exact m
    · exact ih h2 t ht
set_option maxHeartbeats 6400000 in
theorem markTaskS_any (v : Value) (l : List TV) (bs : List Nat) (k : Int) (w : World) (h : RowO TaskO 73 7 w v l bs) (hnd : bs.Nodup) (hl : l.length ≤ 1100000) (h0 : 0 ≤ k) (hk : k ≤ 576460752303423488) :
    Calls Tryz.prog 27 #[v, .int .i64 k] w fun e w' => e = .returned (.int .i64 (k + sumTask l)) ∧ RowO TaskO 73 7 w' v (mTasks k l) bs ∧ TurnB bs w w' := by
  obtain ⟨xs, b, hown, hel, rfl⟩ := h
  have HALL := Lib.hid (elems_allTask hel)
  obtain ⟨A, c, rfl, _⟩ := own_form hown
  have HO := Lib.hid (And.intro hown hel)
  have HND := Lib.hid hnd
  clear hown hel hnd
  go_enter Tryz.func27, Tryz.ntmps27
  go_wp2_with fail
  go_loopw [1, 5] (fun s1 s5 wr => ∃ (i : Nat) (xa xb : List Value) (ba bb : List Nat), i ≤ l.length ∧ s5 = .int .i64 i ∧ s1 = .int .i64 (k + sumTask (l.take i)) ∧ wr.ownsRow 0 73 7 (.slice A l.length c) l.length (xa ++ xb) ∧ Elems TaskO wr (mTasks k (l.take i)) xa ba ∧ Elems TaskO wr (l.drop i) xb bb ∧ b = ba ++ bb ∧ TurnB (blk (.slice A l.length c) ++ b) w wr) (fun _ s5 _ => (l.length - intOf s5).toNat)
  case atStart => exact ⟨0, [], xs, [], b, by omega, rfl, by simp [sumTask], HO.out.1, ⟨rfl, rfl⟩, HO.out.2, rfl, TurnB.refl _ _⟩
  case round =>
    obtain ⟨i, xa, xb, ba, bb, hi, rfl, rfl, hown, hea, heb, hbe, htn⟩ := hrel
    obtain ⟨hs0, hs1⟩ := sumTask_take HALL.out i hl
    by_cases hlt : i < l.length
    · obtain ⟨t, ht⟩ : ∃ t, l[i]? = some t := ⟨_, List.getElem?_eq_getElem hlt⟩
      rw [drop_at ht] at heb
      obtain ⟨cs, ys, b1, b2, rfl, rfl, hR, hel2⟩ := heb
      obtain ⟨v1, v2, rfl, h1, h2, rfl, m1, m2⟩ := hR
      obtain ⟨A1, c1, rfl, _⟩ := own_form h1
      obtain ⟨A2, c2, rfl, _⟩ := own_form h2
      obtain ⟨g, cap, e, hgl, hcell, hfr⟩ := own_cells hown (by omega)
      simp only [Value.slice.injEq] at e
      obtain ⟨rfl, -, rfl⟩ := e
      have hxl : xa.length = i * 7 := by rw [hea.len (fun _ _ _ h => h.len), mTasks_len, List.length_take, Nat.min_eq_left hi]
      have nd := HND.out
      rw [hbe] at nd
      obtain ⟨da, d1, d2, dc⟩ := nd5 nd
      have u0 := hcell (i * 7 + 0) _ (by rw [List.getElem?_append_right (by omega), hxl, Nat.add_sub_cancel_left]; rfl); have u1 := hcell (i * 7 + 1) _ (by rw [List.getElem?_append_right (by omega), hxl, Nat.add_sub_cancel_left]; rfl); have u2 := hcell (i * 7 + 2) _ (by rw [List.getElem?_append_right (by omega), hxl, Nat.add_sub_cancel_left]; rfl); have u3 := hcell (i * 7 + 3) _ (by rw [List.getElem?_append_right (by omega), hxl, Nat.add_sub_cancel_left]; rfl); have u4 := hcell (i * 7 + 4) _ (by rw [List.getElem?_append_right (by omega), hxl, Nat.add_sub_cancel_left]; rfl); have u5 := hcell (i * 7 + 5) _ (by rw [List.getElem?_append_right (by omega), hxl, Nat.add_sub_cancel_left]; rfl); have u6 := hcell (i * 7 + 6) _ (by rw [List.getElem?_append_right (by omega), hxl, Nat.add_sub_cancel_left]; rfl)
      simp only [Nat.add_zero] at u0
      generalize hK : k + sumTask (l.take i) = K
      have hK0 : 0 ≤ K := by omega
      have hK1 : K ≤ 576464272303423488 := by omega
      have HKK := Lib.hid hK
      have HT := Lib.hid (And.intro ht hbe)
      have HX := Lib.hid (And.intro hown (And.intro hea (And.intro hel2 (And.intro h1 h2))))
      have HD := Lib.hid (And.intro da (And.intro d1 (And.intro d2 dc)))
      have HXL := Lib.hid hxl
      have HTN := Lib.hid htn
      have hlti : (i : Int) < (l.length : Int) := by omega
      clear hown hea hel2 h1 h2 hcell hxl htn ht hbe nd da d1 d2 dc hK hs0 hs1
      go_wp2_with fail
      have hT5 : TurnB [g] wr (World.setCell (World.setCell (World.setCell (World.setCell (World.setCell wr ⟨g, i * 7, none⟩ (.int .i64 K)) ⟨g, i * 7 + 1, none⟩ (.int .i64 (K + 1))) ⟨g, i * 7 + 2, none⟩ (.int .i64 (K + 1 + 1))) ⟨g, i * 7 + 2 + 1, none⟩ (.int .i64 (K + 1 + 1 + 1))) ⟨g, i * 7 + 2 + 2, none⟩ (.int .i64 (K + 1 + 1 + 1 + 1))) := TurnB.put (TurnB.put (TurnB.put (TurnB.put (TurnB.put (TurnB.refl _ _) (List.mem_singleton.2 rfl) _ _) (List.mem_singleton.2 rfl) _ _) (List.mem_singleton.2 rfl) _ _) (List.mem_singleton.2 rfl) _ _) (List.mem_singleton.2 rfl) _ _
      have hO5 : World.ownsRow (World.setCell (World.setCell (World.setCell (World.setCell (World.setCell wr ⟨g, i * 7, none⟩ (.int .i64 K)) ⟨g, i * 7 + 1, none⟩ (.int .i64 (K + 1))) ⟨g, i * 7 + 2, none⟩ (.int .i64 (K + 1 + 1))) ⟨g, i * 7 + 2 + 1, none⟩ (.int .i64 (K + 1 + 1 + 1))) ⟨g, i * 7 + 2 + 2, none⟩ (.int .i64 (K + 1 + 1 + 1 + 1))) 0 73 7 (.slice (some ⟨g, 0, none⟩) l.length c) l.length (xa ++ ([.int .i64 K, .int .i64 (K + 1), .int .i64 (K + 1 + 1), .int .i64 (K + 1 + 1 + 1), .int .i64 (K + 1 + 1 + 1 + 1)] ++ ([.slice A1 t.want.length c1, .slice A2 t.tols.length c2] ++ ys))) := by
        have st := own_put (v := .slice (some ⟨g, 0, none⟩) l.length c) (g := g) (xa := xa) (cs := [.int .i64 t.id, .int .i64 t.prio, .int .i64 t.need.c, .int .i64 t.need.m, .int .i64 t.need.p]) (xb := [.slice A1 t.want.length c1, .slice A2 t.tols.length c2] ++ ys) (ds := [.int .i64 K, .int .i64 (K + 1), .int .i64 (K + 1 + 1), .int .i64 (K + 1 + 1 + 1), .int .i64 (K + 1 + 1 + 1 + 1)]) HX.out.1 rfl rfl
        rw [HXL.out] at st
        exact st
      generalize (World.setCell (World.setCell (World.setCell (World.setCell (World.setCell wr ⟨g, i * 7, none⟩ (.int .i64 K)) ⟨g, i * 7 + 1, none⟩ (.int .i64 (K + 1))) ⟨g, i * 7 + 2, none⟩ (.int .i64 (K + 1 + 1))) ⟨g, i * 7 + 2 + 1, none⟩ (.int .i64 (K + 1 + 1 + 1))) ⟨g, i * 7 + 2 + 2, none⟩ (.int .i64 (K + 1 + 1 + 1 + 1))) = W5 at hT5 hO5 ⊢
      obtain ⟨hown, hea, hel2, h1, h2⟩ := HX.out
      obtain ⟨da, d1, d2, dc⟩ := HD.out
      have h15 := own_agree h1 (hT5.agree (fun b hb => ⟨own_lt h1 b hb, by simpa using (d1 b hb).1⟩))
      refine (markLabS_any _ t.want _ _ h15 m1 (by omega) (by omega)).mono ?_
      rintro e w3 ⟨rfl, hL3, hg3⟩
      have hT3 : TurnB (blk (.slice A1 t.want.length c1)) W5 w3 := TurnB.of_grown hg3 (fun k e => blk_mem e)
      have hO3 := own_agree hO5 (hT3.agree (fun b hb => by
        obtain rfl : b = g := by simpa [blk, Value.ownBlock] using hb
        exact ⟨own_lt hO5 b (by simp [blk, Value.ownBlock]), fun hx => (d1 b hx).1 rfl⟩))
      have h25 := own_agree h2 (hT5.agree (fun b hb => ⟨own_lt h2 b hb, by simpa using (d2 b hb).1⟩))
      have h23 := own_agree h25 (hT3.agree (fun b hb => ⟨own_lt h25 b hb, (d2 b hb).2⟩))
      have uf := own_frozen hO3 (by omega)
      have z6 := own_cell hO3 (j := i * 7 + 6) (by rw [List.getElem?_append_right (by rw [HXL.out]; omega), HXL.out, Nat.add_sub_cancel_left]; rfl)
      
      have HO3 := Lib.hid hO3
      have H23 := Lib.hid h23
      have HL3 := Lib.hid hL3
      have HT5 := Lib.hid hT5
      have HT3 := Lib.hid hT3
      clear hown hea hel2 h1 h2 da d1 d2 dc h15 h25 h23 hO3 hL3 hg3 hT3 hT5 hO5 u0 u1 u2 u3 u4 u5 u6 
      go_wp2_with fail
      refine (markIntS_any _ t.tols _ _ H23.out m2 (by omega) (by omega)).mono ?_
      rintro e w4 ⟨rfl, hI4, hg4⟩
      have hT4 : TurnB (blk (.slice A2 t.tols.length c2)) w3 w4 := TurnB.of_grown hg4 (fun k e => blk_mem e)
      obtain ⟨da, d1, d2, dc⟩ := HD.out
      have hO4 := own_agree HO3.out (hT4.agree (fun b hb => by
        obtain rfl : b = g := by simpa [blk, Value.ownBlock] using hb
        exact ⟨own_lt HO3.out b (by simp [blk, Value.ownBlock]), fun hx => (d2 b hx).1 rfl⟩))
      have hL4 : LabO w4 _ _ := own_agree HL3.out (hT4.agree (fun b hb => ⟨own_lt HL3.out b hb, (d1 b hb).2⟩))
      
      
      have HO4 := Lib.hid hO4
      have HL4 := Lib.hid hL4
      have HI4 := Lib.hid (show IntO w4 _ _ from hI4)
      have HT4 := Lib.hid hT4
      clear da d1 d2 dc hO4 hL4 hI4 hg4 hT4 z6 HO3 HL3 H23
      go_wp2_with fail
      go_roundw
      case rel =>
        obtain ⟨hown, hea, hel2, -, -⟩ := HX.out
        obtain ⟨da, d1, d2, dc⟩ := HD.out
        obtain ⟨ht, hbe⟩ := HT.out
        have hT : TurnB (g :: (blk (.slice A1 t.want.length c1) ++ blk (.slice A2 t.tols.length c2))) wr w4 := ((HT5.out.mono (by simp)).trans (HT3.out.mono (fun b hb => by simp [hb]))).trans (HT4.out.mono (fun b hb => by simp [hb]))
        have hO6 := HO4.out
        have hL6 := HL4.out
        have hI6 := HI4.out
        have hT6 := hT
        
        
        
        
        
        have hea6 := hea.agree TaskO.framed (hT6.agree (fun b hb => ⟨elems_lt (fun _ _ _ h => h.lt) hea b hb, by simpa [not_or] using da b hb⟩))
        have hel6 := hel2.agree TaskO.framed (hT6.agree (fun b hb => ⟨elems_lt (fun _ _ _ h => h.lt) hel2 b hb, by simpa [not_or] using dc b hb⟩))
        refine ⟨i + 1, xa ++ [.int .i64 K, .int .i64 (K + 1), .int .i64 (K + 1 + 1), .int .i64 (K + 1 + 1 + 1), .int .i64 (K + 1 + 1 + 1 + 1), .slice A1 t.want.length c1, .slice A2 t.tols.length c2], ys, ba ++ (blk (.slice A1 t.want.length c1) ++ blk (.slice A2 t.tols.length c2)), b2, by omega, by go_num, ?_, ?_, ?_, hel6, by rw [hbe]; simp, HTN.out.trans (hT6.mono (fun b hb => ?_))⟩
        · rw [take_at ht, sumTask_snoc]
          have := HKK.out
          unfold szTask
          congr 1; omega
        · rw [List.append_assoc]; exact hO6
        · rw [take_at ht, mTasks_snoc, HKK.out]
          exact hea6.snoc ⟨_, _, rfl, by simpa [mTask, mLabs_len, LabO] using hL6, by simpa [mTask, mInts_len, IntO] using hI6, rfl, by simpa [mTask, mLabs_len] using m1, by simpa [mTask, mInts_len] using m2⟩
        · rw [hbe]
          rcases List.mem_cons.1 hb with rfl | hb
          · simp [blk, Value.ownBlock]
          · exact List.mem_append_right _ (List.mem_append_right _ (List.mem_append_left _ hb))
      case measure => simp [intOf]; omega
    · obtain rfl : i = l.length := by omega
      have HX := Lib.hid (And.intro hown (And.intro hea (And.intro heb htn)))
      have HBE := Lib.hid hbe
      clear hown hea heb htn hbe
      rw [List.take_length] at hs0 hs1 ⊢
      go_wp2_with fail
      go_ret
      obtain ⟨hown, hea, heb, htn⟩ := HX.out
      rw [List.drop_length] at heb
      obtain ⟨rfl, rfl⟩ := heb
      rw [List.append_nil] at hown
      have hbe := HBE.out
      rw [List.append_nil] at hbe
      subst hbe
      rw [List.take_length] at hea
      exact ⟨rfl, ⟨xa, b, by rw [mTasks_len]; exact hown, hea, rfl⟩, htn⟩
theorem elems_allNode {w : World} {l : List NV} {xs : List Value} {bs : List Nat} (h : Elems NodeO w l xs bs) : allNode l := by
  induction l generalizing xs bs with
  | nil => intro t ht; cases ht
  | cons x r ih =>
    obtain ⟨cs, ys, b1, b2, rfl, rfl, ⟨v1, v2, _, _, _, _, m⟩, h2⟩ := h
    intro t ht
    rcases List.mem_cons.1 ht with rfl | ht
    · exact m
    · exact ih h2 t ht
set_option maxHeartbeats 6400000 in
theorem markNodeS_any (v : Value) (l : List NV) (bs : List Nat) (k : Int) (w : World) (h : RowO NodeO 51 8 w v l bs) (hnd : bs.Nodup) (hl : l.length ≤ 1100000) (h0 : 0 ≤ k) (hk : k ≤ 576460752303423488) :
    Calls Tryz.prog 28 #[v, .int .i64 k] w fun e w' => e = .returned (.int .i64 (k + sumNode l)) ∧ RowO NodeO 51 8 w' v (mNodes k l) bs ∧ TurnB bs w w' := by
  obtain ⟨xs, b, hown, hel, rfl⟩ := h
  have HALL := Lib.hid (elems_allNode hel)
  obtain ⟨A, c, rfl, _⟩ := own_form hown
  have HO := Lib.hid (And.intro hown hel)
  have HND := Lib.hid hnd
  clear hown hel hnd
  go_enter Tryz.func28, Tryz.ntmps28
  go_wp2_with fail
  go_loopw [1, 5] (fun s1 s5 wr => ∃ (i : Nat) (xa xb : List Value) (ba bb : List Nat), i ≤ l.length ∧ s5 = .int .i64 i ∧ s1 = .int .i64 (k + sumNode (l.take i)) ∧ wr.ownsRow 0 51 8 (.slice A l.length c) l.length (xa ++ xb) ∧ Elems NodeO wr (mNodes k (l.take i)) xa ba ∧ Elems NodeO wr (l.drop i) xb bb ∧ b = ba ++ bb ∧ TurnB (blk (.slice A l.length c) ++ b) w wr) (fun _ s5 _ => (l.length - intOf s5).toNat)
  case atStart => exact ⟨0, [], xs, [], b, by omega, rfl, by simp [sumNode], HO.out.1, ⟨rfl, rfl⟩, HO.out.2, rfl, TurnB.refl _ _⟩
  case round =>
    obtain ⟨i, xa, xb, ba, bb, hi, rfl, rfl, hown, hea, heb, hbe, htn⟩ := hrel
    obtain ⟨hs0, hs1⟩ := sumNode_take HALL.out i hl
    by_cases hlt : i < l.length
    · obtain ⟨t, ht⟩ : ∃ t, l[i]? = some t := ⟨_, List.getElem?_eq_getElem hlt⟩
      rw [drop_at ht] at heb
      obtain ⟨cs, ys, b1, b2, rfl, rfl, hR, hel2⟩ := heb
      obtain ⟨v1, v2, rfl, h1, h2, rfl, m1, m2⟩ := hR
      obtain ⟨A1, c1, rfl, _⟩ := own_form h1
      obtain ⟨A2, c2, rfl, _⟩ := own_form h2
      obtain ⟨g, cap, e, hgl, hcell, hfr⟩ := own_cells hown (by omega)
      simp only [Value.slice.injEq] at e
      obtain ⟨rfl, -, rfl⟩ := e
      have hxl : xa.length = i * 8 := by rw [hea.len (fun _ _ _ h => h.len), mNodes_len, List.length_take, Nat.min_eq_left hi]
      have nd := HND.out
      rw [hbe] at nd
      obtain ⟨da, d1, d2, dc⟩ := nd5 nd
      have u0 := hcell (i * 8 + 0) _ (by rw [List.getElem?_append_right (by omega), hxl, Nat.add_sub_cancel_left]; rfl); have u1 := hcell (i * 8 + 1) _ (by rw [List.getElem?_append_right (by omega), hxl, Nat.add_sub_cancel_left]; rfl); have u2 := hcell (i * 8 + 2) _ (by rw [List.getElem?_append_right (by omega), hxl, Nat.add_sub_cancel_left]; rfl); have u3 := hcell (i * 8 + 3) _ (by rw [List.getElem?_append_right (by omega), hxl, Nat.add_sub_cancel_left]; rfl); have u4 := hcell (i * 8 + 4) _ (by rw [List.getElem?_append_right (by omega), hxl, Nat.add_sub_cancel_left]; rfl); have u5 := hcell (i * 8 + 5) _ (by rw [List.getElem?_append_right (by omega), hxl, Nat.add_sub_cancel_left]; rfl); have u6 := hcell (i * 8 + 6) _ (by rw [List.getElem?_append_right (by omega), hxl, Nat.add_sub_cancel_left]; rfl); have u7 := hcell (i * 8 + 7) _ (by rw [List.getElem?_append_right (by omega), hxl, Nat.add_sub_cancel_left]; rfl)
      simp only [Nat.add_zero] at u0
      generalize hK : k + sumNode (l.take i) = K
      have hK0 : 0 ≤ K := by omega
      have hK1 : K ≤ 576464272303423488 := by omega
      have HKK := Lib.hid hK
      have HT := Lib.hid (And.intro ht hbe)
      have HX := Lib.hid (And.intro hown (And.intro hea (And.intro hel2 (And.intro h1 h2))))
      have HD := Lib.hid (And.intro da (And.intro d1 (And.intro d2 dc)))
      have HXL := Lib.hid hxl
      have HTN := Lib.hid htn
      have hlti : (i : Int) < (l.length : Int) := by omega
      clear hown hea hel2 h1 h2 hcell hxl htn ht hbe nd da d1 d2 dc hK hs0 hs1
      go_wp2_with fail
      have hT5 : TurnB [g] wr (World.setCell (World.setCell (World.setCell (World.setCell (World.setCell wr ⟨g, i * 8, none⟩ (.int .i64 K)) ⟨g, i * 8 + 1, none⟩ (.int .i64 (K + 1))) ⟨g, i * 8 + 2, none⟩ (.int .i64 (K + 1 + 1))) ⟨g, i * 8 + 2 + 1, none⟩ (.int .i64 (K + 1 + 1 + 1))) ⟨g, i * 8 + 2 + 2, none⟩ (.int .i64 (K + 1 + 1 + 1 + 1))) := TurnB.put (TurnB.put (TurnB.put (TurnB.put (TurnB.put (TurnB.refl _ _) (List.mem_singleton.2 rfl) _ _) (List.mem_singleton.2 rfl) _ _) (List.mem_singleton.2 rfl) _ _) (List.mem_singleton.2 rfl) _ _) (List.mem_singleton.2 rfl) _ _
      have hO5 : World.ownsRow (World.setCell (World.setCell (World.setCell (World.setCell (World.setCell wr ⟨g, i * 8, none⟩ (.int .i64 K)) ⟨g, i * 8 + 1, none⟩ (.int .i64 (K + 1))) ⟨g, i * 8 + 2, none⟩ (.int .i64 (K + 1 + 1))) ⟨g, i * 8 + 2 + 1, none⟩ (.int .i64 (K + 1 + 1 + 1))) ⟨g, i * 8 + 2 + 2, none⟩ (.int .i64 (K + 1 + 1 + 1 + 1))) 0 51 8 (.slice (some ⟨g, 0, none⟩) l.length c) l.length (xa ++ ([.int .i64 K, .int .i64 (K + 1), .int .i64 (K + 1 + 1), .int .i64 (K + 1 + 1 + 1), .int .i64 (K + 1 + 1 + 1 + 1)] ++ ([.slice A1 t.labs.length c1, .slice A2 t.taints.length c2, .bool t.cordon] ++ ys))) := by
        have st := own_put (v := .slice (some ⟨g, 0, none⟩) l.length c) (g := g) (xa := xa) (cs := [.int .i64 t.id, .int .i64 t.pool, .int .i64 t.cap.c, .int .i64 t.cap.m, .int .i64 t.cap.p]) (xb := [.slice A1 t.labs.length c1, .slice A2 t.taints.length c2, .bool t.cordon] ++ ys) (ds := [.int .i64 K, .int .i64 (K + 1), .int .i64 (K + 1 + 1), .int .i64 (K + 1 + 1 + 1), .int .i64 (K + 1 + 1 + 1 + 1)]) HX.out.1 rfl rfl
        rw [HXL.out] at st
        exact st
      generalize (World.setCell (World.setCell (World.setCell (World.setCell (World.setCell wr ⟨g, i * 8, none⟩ (.int .i64 K)) ⟨g, i * 8 + 1, none⟩ (.int .i64 (K + 1))) ⟨g, i * 8 + 2, none⟩ (.int .i64 (K + 1 + 1))) ⟨g, i * 8 + 2 + 1, none⟩ (.int .i64 (K + 1 + 1 + 1))) ⟨g, i * 8 + 2 + 2, none⟩ (.int .i64 (K + 1 + 1 + 1 + 1))) = W5 at hT5 hO5 ⊢
      obtain ⟨hown, hea, hel2, h1, h2⟩ := HX.out
      obtain ⟨da, d1, d2, dc⟩ := HD.out
      have h15 := own_agree h1 (hT5.agree (fun b hb => ⟨own_lt h1 b hb, by simpa using (d1 b hb).1⟩))
      refine (markLabS_any _ t.labs _ _ h15 m1 (by omega) (by omega)).mono ?_
      rintro e w3 ⟨rfl, hL3, hg3⟩
      have hT3 : TurnB (blk (.slice A1 t.labs.length c1)) W5 w3 := TurnB.of_grown hg3 (fun k e => blk_mem e)
      have hO3 := own_agree hO5 (hT3.agree (fun b hb => by
        obtain rfl : b = g := by simpa [blk, Value.ownBlock] using hb
        exact ⟨own_lt hO5 b (by simp [blk, Value.ownBlock]), fun hx => (d1 b hx).1 rfl⟩))
      have h25 := own_agree h2 (hT5.agree (fun b hb => ⟨own_lt h2 b hb, by simpa using (d2 b hb).1⟩))
      have h23 := own_agree h25 (hT3.agree (fun b hb => ⟨own_lt h25 b hb, (d2 b hb).2⟩))
      have uf := own_frozen hO3 (by omega)
      have z6 := own_cell hO3 (j := i * 8 + 6) (by rw [List.getElem?_append_right (by rw [HXL.out]; omega), HXL.out, Nat.add_sub_cancel_left]; rfl)
      have z7 := own_cell hO3 (j := i * 8 + 7) (by rw [List.getElem?_append_right (by rw [HXL.out]; omega), HXL.out, Nat.add_sub_cancel_left]; rfl)
      have HO3 := Lib.hid hO3
      have H23 := Lib.hid h23
      have HL3 := Lib.hid hL3
      have HT5 := Lib.hid hT5
      have HT3 := Lib.hid hT3
      clear hown hea hel2 h1 h2 da d1 d2 dc h15 h25 h23 hO3 hL3 hg3 hT3 hT5 hO5 u0 u1 u2 u3 u4 u5 u6 u7
      go_wp2_with fail
      refine (markIntS_any _ t.taints _ _ H23.out m2 (by omega) (by omega)).mono ?_
      rintro e w4 ⟨rfl, hI4, hg4⟩
      have hT4 : TurnB (blk (.slice A2 t.taints.length c2)) w3 w4 := TurnB.of_grown hg4 (fun k e => blk_mem e)
      obtain ⟨da, d1, d2, dc⟩ := HD.out
      have hO4 := own_agree HO3.out (hT4.agree (fun b hb => by
        obtain rfl : b = g := by simpa [blk, Value.ownBlock] using hb
        exact ⟨own_lt HO3.out b (by simp [blk, Value.ownBlock]), fun hx => (d2 b hx).1 rfl⟩))
      have hL4 : LabO w4 _ _ := own_agree HL3.out (hT4.agree (fun b hb => ⟨own_lt HL3.out b hb, (d1 b hb).2⟩))
      have uf := own_frozen hO4 (by omega)
      have z7 := own_cell hO4 (j := i * 8 + 7) (by rw [List.getElem?_append_right (by rw [HXL.out]; omega), HXL.out, Nat.add_sub_cancel_left]; rfl)
      have HO4 := Lib.hid hO4
      have HL4 := Lib.hid hL4
      have HI4 := Lib.hid (show IntO w4 _ _ from hI4)
      have HT4 := Lib.hid hT4
      clear da d1 d2 dc hO4 hL4 hI4 hg4 hT4 z6 HO3 HL3 H23
      go_wp2_with fail
      go_roundw
      case rel =>
        obtain ⟨hown, hea, hel2, -, -⟩ := HX.out
        obtain ⟨da, d1, d2, dc⟩ := HD.out
        obtain ⟨ht, hbe⟩ := HT.out
        have hT : TurnB (g :: (blk (.slice A1 t.labs.length c1) ++ blk (.slice A2 t.taints.length c2))) wr w4 := ((HT5.out.mono (by simp)).trans (HT3.out.mono (fun b hb => by simp [hb]))).trans (HT4.out.mono (fun b hb => by simp [hb]))
        
        
        
        
        have hS6 : TurnB [g] w4 (w4.setCell ⟨g, i * 8 + 7, none⟩ (.bool ((K + 1 + 1 + 1 + 1 + 1 + 2 * t.labs.length + t.taints.length) % 3 == 0))) := TurnB.put (TurnB.refl _ _) (List.mem_singleton.2 rfl) _ _
        have hO6 : World.ownsRow (w4.setCell ⟨g, i * 8 + 7, none⟩ (.bool ((K + 1 + 1 + 1 + 1 + 1 + 2 * t.labs.length + t.taints.length) % 3 == 0))) 0 51 8 (.slice (some ⟨g, 0, none⟩) l.length c) l.length (xa ++ ([.int .i64 K, .int .i64 (K + 1), .int .i64 (K + 1 + 1), .int .i64 (K + 1 + 1 + 1), .int .i64 (K + 1 + 1 + 1 + 1)] ++ ([.slice A1 t.labs.length c1, .slice A2 t.taints.length c2, .bool ((K + 1 + 1 + 1 + 1 + 1 + 2 * t.labs.length + t.taints.length) % 3 == 0)] ++ ys))) := by
          have e4 : @Eq (List Value) (xa ++ ([.int .i64 K, .int .i64 (K + 1), .int .i64 (K + 1 + 1), .int .i64 (K + 1 + 1 + 1), .int .i64 (K + 1 + 1 + 1 + 1)] ++ ([.slice A1 t.labs.length c1, .slice A2 t.taints.length c2, .bool t.cordon] ++ ys))) ((xa ++ [.int .i64 K, .int .i64 (K + 1), .int .i64 (K + 1 + 1), .int .i64 (K + 1 + 1 + 1), .int .i64 (K + 1 + 1 + 1 + 1), .slice A1 t.labs.length c1, .slice A2 t.taints.length c2]) ++ ([.bool t.cordon] ++ ys)) := by simp
          have h4 := HO4.out
          rw [e4] at h4
          have st := own_put (v := .slice (some ⟨g, 0, none⟩) l.length c) (g := g) (ds := [.bool ((K + 1 + 1 + 1 + 1 + 1 + 2 * t.labs.length + t.taints.length) % 3 == 0)]) h4 rfl rfl
          have el : List.length (α := Value) (xa ++ [.int .i64 K, .int .i64 (K + 1), .int .i64 (K + 1 + 1), .int .i64 (K + 1 + 1 + 1), .int .i64 (K + 1 + 1 + 1 + 1), .slice A1 t.labs.length c1, .slice A2 t.taints.length c2]) = i * 8 + 7 := by rw [List.length_append, HXL.out]; rfl
          rw [el] at st
          have e5 : @Eq (List Value) ((xa ++ [.int .i64 K, .int .i64 (K + 1), .int .i64 (K + 1 + 1), .int .i64 (K + 1 + 1 + 1), .int .i64 (K + 1 + 1 + 1 + 1), .slice A1 t.labs.length c1, .slice A2 t.taints.length c2]) ++ ([.bool ((K + 1 + 1 + 1 + 1 + 1 + 2 * t.labs.length + t.taints.length) % 3 == 0)] ++ ys)) (xa ++ ([.int .i64 K, .int .i64 (K + 1), .int .i64 (K + 1 + 1), .int .i64 (K + 1 + 1 + 1), .int .i64 (K + 1 + 1 + 1 + 1)] ++ ([.slice A1 t.labs.length c1, .slice A2 t.taints.length c2, .bool ((K + 1 + 1 + 1 + 1 + 1 + 2 * t.labs.length + t.taints.length) % 3 == 0)] ++ ys))) := by simp
          rw [e5] at st
          exact st
        have hL6 : LabO (w4.setCell ⟨g, i * 8 + 7, none⟩ (.bool ((K + 1 + 1 + 1 + 1 + 1 + 2 * t.labs.length + t.taints.length) % 3 == 0))) _ _ := own_agree HL4.out (hS6.agree (fun b hb => ⟨own_lt HL4.out b hb, by simpa using (d1 b hb).1⟩))
        have hI6 : IntO (w4.setCell ⟨g, i * 8 + 7, none⟩ (.bool ((K + 1 + 1 + 1 + 1 + 1 + 2 * t.labs.length + t.taints.length) % 3 == 0))) _ _ := own_agree HI4.out (hS6.agree (fun b hb => ⟨own_lt HI4.out b hb, by simpa using (d2 b hb).1⟩))
        have hT6 := hT.trans (hS6.mono (by simp))
        have hea6 := hea.agree NodeO.framed (hT6.agree (fun b hb => ⟨elems_lt (fun _ _ _ h => h.lt) hea b hb, by simpa [not_or] using da b hb⟩))
        have hel6 := hel2.agree NodeO.framed (hT6.agree (fun b hb => ⟨elems_lt (fun _ _ _ h => h.lt) hel2 b hb, by simpa [not_or] using dc b hb⟩))
        refine ⟨i + 1, xa ++ [.int .i64 K, .int .i64 (K + 1), .int .i64 (K + 1 + 1), .int .i64 (K + 1 + 1 + 1), .int .i64 (K + 1 + 1 + 1 + 1), .slice A1 t.labs.length c1, .slice A2 t.taints.length c2, .bool ((K + 1 + 1 + 1 + 1 + 1 + 2 * t.labs.length + t.taints.length) % 3 == 0)], ys, ba ++ (blk (.slice A1 t.labs.length c1) ++ blk (.slice A2 t.taints.length c2)), b2, by omega, by go_num, ?_, ?_, ?_, hel6, by rw [hbe]; simp, HTN.out.trans (hT6.mono (fun b hb => ?_))⟩
        · rw [take_at ht, sumNode_snoc]
          have := HKK.out
          unfold szNode
          congr 1; omega
        · rw [List.append_assoc]; exact hO6
        · rw [take_at ht, mNodes_snoc, HKK.out]
          exact hea6.snoc ⟨_, _, rfl, by simpa [mNode, mLabs_len, LabO] using hL6, by simpa [mNode, mInts_len, IntO] using hI6, rfl, by simpa [mNode, mLabs_len] using m1, by simpa [mNode, mInts_len] using m2⟩
        · rw [hbe]
          rcases List.mem_cons.1 hb with rfl | hb
          · simp [blk, Value.ownBlock]
          · exact List.mem_append_right _ (List.mem_append_right _ (List.mem_append_left _ hb))
      case measure => simp [intOf]; omega
    · obtain rfl : i = l.length := by omega
      have HX := Lib.hid (And.intro hown (And.intro hea (And.intro heb htn)))
      have HBE := Lib.hid hbe
      clear hown hea heb htn hbe
      rw [List.take_length] at hs0 hs1 ⊢
      go_wp2_with fail
      go_ret
      obtain ⟨hown, hea, heb, htn⟩ := HX.out
      rw [List.drop_length] at heb
      obtain ⟨rfl, rfl⟩ := heb
      rw [List.append_nil] at hown
      have hbe := HBE.out
      rw [List.append_nil] at hbe
      subst hbe
      rw [List.take_length] at hea
      exact ⟨rfl, ⟨xa, b, by rw [mNodes_len]; exact hown, hea, rfl⟩, htn⟩
end Go.Proofs.YtkaecjjbammphaaGreatDoor

namespace Go.Proofs.YtkaecjjbammphaaGreatDoor
open Go.RowKit

theorem labO_of {w : World} {g : Nat} {l : List LV} (h : BlockIs w g 123 (labL l).toArray) (hl : l.length ≤ 1048576) : LabO w (.slice (some ⟨g, 0, none⟩) l.length l.length) l :=
  ⟨labL_len l, .inr ⟨g, l.length, _, rfl, Nat.zero_le _, h, Nat.le_refl _, by simp only [maxLen]; omega, by simp [labL_len], by rw [← labL_len]; simp⟩⟩
theorem intO_of {w : World} {g : Nat} {l : List Int} (h : BlockIs w g 3 (intL l).toArray) (hl : l.length ≤ 1048576) : IntO w (.slice (some ⟨g, 0, none⟩) l.length l.length) l :=
  ⟨by simp [intL], .inr ⟨g, l.length, _, rfl, Nat.zero_le _, h, Nat.le_refl _, by simp only [maxLen]; omega, by simp [intL], by rw [show l.length * 1 = (intL l).length by simp [intL]]; simp⟩⟩
def NewIntO (w : World) (l : List Int) (e : Ending) (w' : World) : Prop := ∃ g, e = .returned (.slice (some ⟨g, 0, none⟩) l.length l.length) ∧ w.heap.size ≤ g ∧ g < w'.heap.size ∧ BlockIs w' g 3 (intL l).toArray ∧ Below w.heap.size w w'
theorem CopyInt.doneO {w wr : World} {g : Nat} {l : List Int} (h : CopyInt w g l l.length wr) : BlockIs wr g 3 (intL l).toArray := by
  obtain ⟨cs, hb, hs, hc, _⟩ := h
  have : cs = (intL l).toArray := by
    apply Array.ext_getElem?
    intro i
    rcases Nat.lt_or_ge i l.length with hi | hi
    · rw [hc i _ hi (List.getElem?_eq_getElem hi)]; simp [intL, hi]
    · rw [Array.getElem?_eq_none (by omega)]; simp [intL, hi]
  rw [← this]; exact hb
set_option maxHeartbeats 1600000 in
theorem toIntS_o (v : Value) (l : List Int) (w : World) (hv : IntSl w v l) (hlen : l.length ≤ 1048576) :
    Calls Tryz.prog 64 #[v] w (NewIntO w l) := by
  obtain ⟨A, c, rfl, hA⟩ := hv.form
  have HA := Lib.hid hA
  clear hA hv
  have hmk := make_int l.length hlen
  go_enter Tryz.func64, Tryz.ntmps64
  go_wp2_with fail
  go_loopw [4] (fun s4 wr => ∃ k : Nat, k ≤ l.length ∧ s4 = .int .i64 k ∧ CopyInt w w.heap.size l k wr) (fun s4 _ => (l.length - intOf s4).toNat)
  case atStart =>
    exact ⟨0, by omega, rfl, _, BlockIs.new _ _ _, by simpa using size_madeCells _ _, fun i r hi => absurd hi (by omega), (by repeat' (first | exact Below.refl _ _ | refine Below.alloc ?_ ?_ _ | refine Below.setCell ?_ ?_ _ | refine Below.drew ?_ | (apply below_step; assumption) | (simp; done) | (simp; omega) | omega))⟩
  case round =>
    obtain ⟨k, hk, rfl, HC⟩ := hrel
    by_cases hlt : k < l.length
    · obtain ⟨b, off, rfl, hbw, hat⟩ := HA.out (by omega)
      obtain ⟨r, hr⟩ : ∃ r, l[k]? = some r := ⟨_, List.getElem?_eq_getElem hlt⟩
      obtain ⟨cs, hblk, hs, hc, hB⟩ := HC
      have q0 := (hat.below hB hbw) k r hr
      have hzr := hB.size
      have hgl := hblk.lt
      have HR := Lib.hid hr
      have HCC := Lib.hid hc
      have HBL := Lib.hid hblk
      have HSZ := Lib.hid hs
      have u0 : wr.cell? ⟨w.heap.size, k, none⟩ = some (cs[k]'(by omega)) := by rw [hblk.cell]; exact Array.getElem?_eq_getElem (by omega)
      generalize cs[k]'(by omega) = x0 at u0
      have uf := hblk.frozen
      clear hat hr hc hblk hs
      go_wp2_with fail
      go_roundw
      case rel =>
        refine ⟨k + 1, by omega, by go_num, CopyInt.put HSZ.out HR.out HCC.out ?_ (by repeat' (first | exact Below.refl _ _ | refine Below.alloc ?_ ?_ _ | refine Below.setCell ?_ ?_ _ | refine Below.drew ?_ | (apply below_step; assumption) | (simp; done) | (simp; omega) | omega))⟩
        exact HBL.out.put _ _
      case measure => simp [intOf]; omega
    · have hkl : k = l.length := by omega
      subst hkl
      have HD := Lib.hid HC.doneO
      obtain ⟨cs, hblk, hs, hc, hB⟩ := HC
      have hgl := hblk.lt
      clear hblk hs hc
      go_wp2_with fail
      go_ret
      exact ⟨w.heap.size, rfl, Nat.le_refl _, hgl, HD.out, hB⟩

def NewTaskO (w : World) (t : TV) (e : Ending) (w' : World) : Prop := ∃ g1 g2, e = .returned (.agg #[.int .i64 t.id, .int .i64 t.prio, .int .i64 t.need.c, .int .i64 t.need.m, .int .i64 t.need.p, .slice (some ⟨g1, 0, none⟩) t.want.length t.want.length, .slice (some ⟨g2, 0, none⟩) t.tols.length t.tols.length]) ∧
  w.heap.size ≤ g1 ∧ w.heap.size ≤ g2 ∧ g2 < w'.heap.size ∧ BlockIs w' g1 123 (labL t.want).toArray ∧ BlockIs w' g2 3 (intL t.tols).toArray ∧ Below w.heap.size w w'
set_option maxHeartbeats 1600000 in
theorem toTask_o (t : TV) (v1 v2 : Value) (w : World) (h1 : LabSl w v1 t.want) (h2 : IntSl w v2 t.tols) (l1 : t.want.length ≤ 1048576) (l2 : t.tols.length ≤ 1048576) :
    Calls Tryz.prog 41 #[.agg #[.int .i64 t.id, .int .i64 t.prio, .int .i64 t.need.c, .int .i64 t.need.m, .int .i64 t.need.p, v1, v2]] w (NewTaskO w t) := by
  have H1 := Lib.hid h1
  have H2 := Lib.hid h2
  have L1 := Lib.hid l1
  have L2 := Lib.hid l2
  clear h1 h2 l1 l2
  go_enter Tryz.func41, Tryz.ntmps41
  go_wp2_with fail
  refine (toRes_any t.need _).mono ?_
  rintro e w1 ⟨rfl, hb1⟩
  have hz1 := hb1.size
  simp at hz1
  have B0 : BlockIs w1 w.heap.size 67 #[.int .i64 t.id, .int .i64 t.prio, .int .i64 t.need.c, .int .i64 t.need.m, .int .i64 t.need.p, v1, v2] := (((BlockIs.new w _ _).alloc _).alloc _).below hb1 (by simp; omega)
  have B1 : BlockIs w1 (w.heap.size + 1) 73 #[.int .i64 0, .int .i64 0, .int .i64 0, .int .i64 0, .int .i64 0, .slice none 0 0, .slice none 0 0] := (BlockIs.alloc (BlockIs.new' (by simp)) _).below hb1 (by simp)
  have B2 : BlockIs w1 (w.heap.size + 1 + 1) 73 #[.int .i64 t.id, .int .i64 t.prio, .int .i64 0, .int .i64 0, .int .i64 0, .slice none 0 0, .slice none 0 0] := (BlockIs.new' (by simp)).below hb1 (by simp)
  have hC1 : Below w.heap.size w w1 := (by repeat' (first | exact Below.refl _ _ | refine Below.alloc ?_ ?_ _ | refine Below.setCell ?_ ?_ _ | refine Below.drew ?_ | (apply below_step; assumption) | (simp; done) | (simp; omega) | omega))
  have c5 := B0.cell 5
  have c2 := B2.cell 2
  have c3 := B2.cell 3
  have c4 := B2.cell 4
  have f2 := B2.frozen
  simp at c5 c2 c3 c4
  have HB0 := Lib.hid B0
  have HB1 := Lib.hid B1
  have HB2 := Lib.hid B2
  clear B0 B1 B2 hb1
  go_wp2_with fail
  have hC2 : Below w.heap.size w (((w1.setCell ⟨w.heap.size + 1 + 1, 2, none⟩ (.int .i64 t.need.c)).setCell ⟨w.heap.size + 1 + 1, 2 + 1, none⟩ (.int .i64 t.need.m)).setCell ⟨w.heap.size + 1 + 1, 2 + 2, none⟩ (.int .i64 t.need.p)) := (by repeat' (first | exact Below.refl _ _ | refine Below.alloc ?_ ?_ _ | refine Below.setCell ?_ ?_ _ | refine Below.drew ?_ | (apply below_step; assumption) | (simp; done) | (simp; omega) | omega))
  have A0 : BlockIs (((w1.setCell ⟨w.heap.size + 1 + 1, 2, none⟩ (.int .i64 t.need.c)).setCell ⟨w.heap.size + 1 + 1, 2 + 1, none⟩ (.int .i64 t.need.m)).setCell ⟨w.heap.size + 1 + 1, 2 + 2, none⟩ (.int .i64 t.need.p)) w.heap.size 67 #[.int .i64 t.id, .int .i64 t.prio, .int .i64 t.need.c, .int .i64 t.need.m, .int .i64 t.need.p, v1, v2] := ((HB0.out.far (by dsimp only; omega) _).far (by dsimp only; omega) _).far (by dsimp only; omega) _
  have A1 : BlockIs (((w1.setCell ⟨w.heap.size + 1 + 1, 2, none⟩ (.int .i64 t.need.c)).setCell ⟨w.heap.size + 1 + 1, 2 + 1, none⟩ (.int .i64 t.need.m)).setCell ⟨w.heap.size + 1 + 1, 2 + 2, none⟩ (.int .i64 t.need.p)) (w.heap.size + 1) 73 #[.int .i64 0, .int .i64 0, .int .i64 0, .int .i64 0, .int .i64 0, .slice none 0 0, .slice none 0 0] := ((HB1.out.far (by dsimp only; omega) _).far (by dsimp only; omega) _).far (by dsimp only; omega) _
  have A2 : BlockIs (((w1.setCell ⟨w.heap.size + 1 + 1, 2, none⟩ (.int .i64 t.need.c)).setCell ⟨w.heap.size + 1 + 1, 2 + 1, none⟩ (.int .i64 t.need.m)).setCell ⟨w.heap.size + 1 + 1, 2 + 2, none⟩ (.int .i64 t.need.p)) (w.heap.size + 1 + 1) 73 #[.int .i64 t.id, .int .i64 t.prio, .int .i64 t.need.c, .int .i64 t.need.m, .int .i64 t.need.p, .slice none 0 0, .slice none 0 0] := by simpa using ((HB2.out.put 2 _).put 3 _).put 4 _
  generalize (((w1.setCell ⟨w.heap.size + 1 + 1, 2, none⟩ (.int .i64 t.need.c)).setCell ⟨w.heap.size + 1 + 1, 2 + 1, none⟩ (.int .i64 t.need.m)).setCell ⟨w.heap.size + 1 + 1, 2 + 2, none⟩ (.int .i64 t.need.p)) = X2 at hC2 A0 A1 A2 ⊢
  clear HB0 HB1 HB2 hC1 hz1 c5 c2 c3 c4 f2
  refine (toLabS_any v1 t.want _ (H1.out.below hC2) L1.out).mono ?_
  rintro e w3 ⟨g1, rfl, hg1, hblk1, hb3⟩
  have l2 := A2.lt
  have hz3 := hb3.size
  have hC3 : Below w.heap.size w w3 := hC2.trans (hb3.mono hC2.size)
  have B0 := A0.below hb3 A0.lt
  have B1 := A1.below hb3 A1.lt
  have B2 := A2.below hb3 A2.lt
  have c6 := B0.cell 6
  have c5 := B2.cell 5
  have f2 := B2.frozen
  simp at c6 c5
  have HB1 := Lib.hid B1
  have HB2 := Lib.hid B2
  have HG1 := Lib.hid hblk1
  clear A0 A1 A2 B0 B1 B2 hblk1
  go_wp2_with fail
  have hC4 : Below w.heap.size w (w3.setCell ⟨w.heap.size + 1 + 1, 5, none⟩ (.slice (some ⟨g1, 0, none⟩) t.want.length t.want.length)) := (by repeat' (first | exact Below.refl _ _ | refine Below.alloc ?_ ?_ _ | refine Below.setCell ?_ ?_ _ | refine Below.drew ?_ | (apply below_step; assumption) | (simp; done) | (simp; omega) | omega))
  have A1 : BlockIs (w3.setCell ⟨w.heap.size + 1 + 1, 5, none⟩ (.slice (some ⟨g1, 0, none⟩) t.want.length t.want.length)) (w.heap.size + 1) 73 #[.int .i64 0, .int .i64 0, .int .i64 0, .int .i64 0, .int .i64 0, .slice none 0 0, .slice none 0 0] := HB1.out.far (by dsimp only; omega) _
  have A2 : BlockIs (w3.setCell ⟨w.heap.size + 1 + 1, 5, none⟩ (.slice (some ⟨g1, 0, none⟩) t.want.length t.want.length)) (w.heap.size + 1 + 1) 73 #[.int .i64 t.id, .int .i64 t.prio, .int .i64 t.need.c, .int .i64 t.need.m, .int .i64 t.need.p, .slice (some ⟨g1, 0, none⟩) t.want.length t.want.length, .slice none 0 0] := by simpa using HB2.out.put 5 _
  have AG : BlockIs (w3.setCell ⟨w.heap.size + 1 + 1, 5, none⟩ (.slice (some ⟨g1, 0, none⟩) t.want.length t.want.length)) g1 123 (labL t.want).toArray := HG1.out.far (by dsimp only; omega) _
  generalize (w3.setCell ⟨w.heap.size + 1 + 1, 5, none⟩ (.slice (some ⟨g1, 0, none⟩) t.want.length t.want.length)) = X4 at hC4 A1 A2 AG ⊢
  clear HB1 HB2 HG1 hC3 hz3 c5 c6 f2 hb3
  refine (toIntS_o v2 t.tols _ (H2.out.below hC4) L2.out).mono ?_
  rintro e w5 ⟨g2, rfl, hg2, hlt2, hat2, hb5⟩
  have l4 := A2.lt
  have hz5 := hb5.size
  have hC5 : Below w.heap.size w w5 := hC4.trans (hb5.mono hC4.size)
  have B1 := A1.below hb5 A1.lt
  have B2 := A2.below hb5 A2.lt
  have BG := AG.below hb5 AG.lt
  have c0 := B2.cell 0
  have c1 := B2.cell 1
  have c2 := B2.cell 2
  have c3 := B2.cell 3
  have c4 := B2.cell 4
  have c5 := B2.cell 5
  have c6 := B2.cell 6
  have f2 := B2.frozen
  have d0 := B1.cell 0
  have d1 := B1.cell 1
  have d2 := B1.cell 2
  have d3 := B1.cell 3
  have d4 := B1.cell 4
  have d5 := B1.cell 5
  have d6 := B1.cell 6
  have f1 := B1.frozen
  simp at c0 c1 c2 c3 c4 c5 c6 d0 d1 d2 d3 d4 d5 d6
  have HB1 := Lib.hid B1
  have HB2 := Lib.hid B2
  have HG1 := Lib.hid BG
  have HG2 := Lib.hid hat2
  clear A1 A2 AG B1 B2 BG hat2
  go_wp2_with fail
  have hZ : BlockIs ((((((((w5.setCell ⟨w.heap.size + 1 + 1, 6, none⟩ (.slice (some ⟨g2, 0, none⟩) t.tols.length t.tols.length)).setCell ⟨w.heap.size + 1, 0, none⟩ (.int .i64 t.id)).setCell ⟨w.heap.size + 1, 1, none⟩ (.int .i64 t.prio)).setCell ⟨w.heap.size + 1, 2, none⟩ (.int .i64 t.need.c)).setCell ⟨w.heap.size + 1, 3, none⟩ (.int .i64 t.need.m)).setCell ⟨w.heap.size + 1, 4, none⟩ (.int .i64 t.need.p)).setCell ⟨w.heap.size + 1, 5, none⟩ (.slice (some ⟨g1, 0, none⟩) t.want.length t.want.length)).setCell ⟨w.heap.size + 1, 6, none⟩ (.slice (some ⟨g2, 0, none⟩) t.tols.length t.tols.length)) (w.heap.size + 1) 73 #[.int .i64 t.id, .int .i64 t.prio, .int .i64 t.need.c, .int .i64 t.need.m, .int .i64 t.need.p, .slice (some ⟨g1, 0, none⟩) t.want.length t.want.length, .slice (some ⟨g2, 0, none⟩) t.tols.length t.tols.length] := put7 _ _ _ _ _ _ _ (HB1.out.far (by dsimp only; omega) _) rfl
  have hG : BlockIs ((((((((w5.setCell ⟨w.heap.size + 1 + 1, 6, none⟩ (.slice (some ⟨g2, 0, none⟩) t.tols.length t.tols.length)).setCell ⟨w.heap.size + 1, 0, none⟩ (.int .i64 t.id)).setCell ⟨w.heap.size + 1, 1, none⟩ (.int .i64 t.prio)).setCell ⟨w.heap.size + 1, 2, none⟩ (.int .i64 t.need.c)).setCell ⟨w.heap.size + 1, 3, none⟩ (.int .i64 t.need.m)).setCell ⟨w.heap.size + 1, 4, none⟩ (.int .i64 t.need.p)).setCell ⟨w.heap.size + 1, 5, none⟩ (.slice (some ⟨g1, 0, none⟩) t.want.length t.want.length)).setCell ⟨w.heap.size + 1, 6, none⟩ (.slice (some ⟨g2, 0, none⟩) t.tols.length t.tols.length)) g1 123 (labL t.want).toArray := far7 (HG1.out.far (by dsimp only; omega) _) (by omega)
  have hI : BlockIs ((((((((w5.setCell ⟨w.heap.size + 1 + 1, 6, none⟩ (.slice (some ⟨g2, 0, none⟩) t.tols.length t.tols.length)).setCell ⟨w.heap.size + 1, 0, none⟩ (.int .i64 t.id)).setCell ⟨w.heap.size + 1, 1, none⟩ (.int .i64 t.prio)).setCell ⟨w.heap.size + 1, 2, none⟩ (.int .i64 t.need.c)).setCell ⟨w.heap.size + 1, 3, none⟩ (.int .i64 t.need.m)).setCell ⟨w.heap.size + 1, 4, none⟩ (.int .i64 t.need.p)).setCell ⟨w.heap.size + 1, 5, none⟩ (.slice (some ⟨g1, 0, none⟩) t.want.length t.want.length)).setCell ⟨w.heap.size + 1, 6, none⟩ (.slice (some ⟨g2, 0, none⟩) t.tols.length t.tols.length)) g2 3 (intL t.tols).toArray := far7 (HG2.out.far (by dsimp only; omega) _) (by omega)
  have hB : Below w.heap.size w ((((((((w5.setCell ⟨w.heap.size + 1 + 1, 6, none⟩ (.slice (some ⟨g2, 0, none⟩) t.tols.length t.tols.length)).setCell ⟨w.heap.size + 1, 0, none⟩ (.int .i64 t.id)).setCell ⟨w.heap.size + 1, 1, none⟩ (.int .i64 t.prio)).setCell ⟨w.heap.size + 1, 2, none⟩ (.int .i64 t.need.c)).setCell ⟨w.heap.size + 1, 3, none⟩ (.int .i64 t.need.m)).setCell ⟨w.heap.size + 1, 4, none⟩ (.int .i64 t.need.p)).setCell ⟨w.heap.size + 1, 5, none⟩ (.slice (some ⟨g1, 0, none⟩) t.want.length t.want.length)).setCell ⟨w.heap.size + 1, 6, none⟩ (.slice (some ⟨g2, 0, none⟩) t.tols.length t.tols.length)) := below7 (hC5.setCell (by dsimp only; omega) _) (by omega)
  have hs : ((((((((w5.setCell ⟨w.heap.size + 1 + 1, 6, none⟩ (.slice (some ⟨g2, 0, none⟩) t.tols.length t.tols.length)).setCell ⟨w.heap.size + 1, 0, none⟩ (.int .i64 t.id)).setCell ⟨w.heap.size + 1, 1, none⟩ (.int .i64 t.prio)).setCell ⟨w.heap.size + 1, 2, none⟩ (.int .i64 t.need.c)).setCell ⟨w.heap.size + 1, 3, none⟩ (.int .i64 t.need.m)).setCell ⟨w.heap.size + 1, 4, none⟩ (.int .i64 t.need.p)).setCell ⟨w.heap.size + 1, 5, none⟩ (.slice (some ⟨g1, 0, none⟩) t.want.length t.want.length)).setCell ⟨w.heap.size + 1, 6, none⟩ (.slice (some ⟨g2, 0, none⟩) t.tols.length t.tols.length)).heap.size = w5.heap.size := by simp [World.setCell]
  generalize ((((((((w5.setCell ⟨w.heap.size + 1 + 1, 6, none⟩ (.slice (some ⟨g2, 0, none⟩) t.tols.length t.tols.length)).setCell ⟨w.heap.size + 1, 0, none⟩ (.int .i64 t.id)).setCell ⟨w.heap.size + 1, 1, none⟩ (.int .i64 t.prio)).setCell ⟨w.heap.size + 1, 2, none⟩ (.int .i64 t.need.c)).setCell ⟨w.heap.size + 1, 3, none⟩ (.int .i64 t.need.m)).setCell ⟨w.heap.size + 1, 4, none⟩ (.int .i64 t.need.p)).setCell ⟨w.heap.size + 1, 5, none⟩ (.slice (some ⟨g1, 0, none⟩) t.want.length t.want.length)).setCell ⟨w.heap.size + 1, 6, none⟩ (.slice (some ⟨g2, 0, none⟩) t.tols.length t.tols.length)) = X at hZ hG hI hB hs ⊢
  have z0 := hZ.cell 0
  have z1 := hZ.cell 1
  have z2 := hZ.cell 2
  have z3 := hZ.cell 3
  have z4 := hZ.cell 4
  have z5 := hZ.cell 5
  have z6 := hZ.cell 6
  simp at z0 z1 z2 z3 z4 z5 z6
  exact bodyPost_ret (v := .agg #[.int .i64 t.id, .int .i64 t.prio, .int .i64 t.need.c, .int .i64 t.need.m, .int .i64 t.need.p, .slice (some ⟨g1, 0, none⟩) t.want.length t.want.length, .slice (some ⟨g2, 0, none⟩) t.tols.length t.tols.length]) (by simp [results, Tryz.results41, go_sem, z0, z1, z2, z3, z4, z5, z6]) rfl ⟨g1, g2, rfl, by omega, by omega, by omega, hG, hI, hB⟩

def NewNodeO (w : World) (t : NV) (e : Ending) (w' : World) : Prop := ∃ g1 g2, e = .returned (.agg #[.int .i64 t.id, .int .i64 t.pool, .int .i64 t.cap.c, .int .i64 t.cap.m, .int .i64 t.cap.p, .slice (some ⟨g1, 0, none⟩) t.labs.length t.labs.length, .slice (some ⟨g2, 0, none⟩) t.taints.length t.taints.length, .bool t.cordon]) ∧
  w.heap.size ≤ g1 ∧ w.heap.size ≤ g2 ∧ g2 < w'.heap.size ∧ BlockIs w' g1 123 (labL t.labs).toArray ∧ BlockIs w' g2 3 (intL t.taints).toArray ∧ Below w.heap.size w w'
set_option maxHeartbeats 1600000 in
theorem toNode_o (t : NV) (v1 v2 : Value) (w : World) (h1 : LabSl w v1 t.labs) (h2 : IntSl w v2 t.taints) (l1 : t.labs.length ≤ 1048576) (l2 : t.taints.length ≤ 1048576) :
    Calls Tryz.prog 42 #[.agg #[.int .i64 t.id, .int .i64 t.pool, .int .i64 t.cap.c, .int .i64 t.cap.m, .int .i64 t.cap.p, v1, v2, .bool t.cordon]] w (NewNodeO w t) := by
  have H1 := Lib.hid h1
  have H2 := Lib.hid h2
  have L1 := Lib.hid l1
  have L2 := Lib.hid l2
  clear h1 h2 l1 l2
  go_enter Tryz.func42, Tryz.ntmps42
  go_wp2_with fail
  refine (toRes_any t.cap _).mono ?_
  rintro e w1 ⟨rfl, hb1⟩
  have hz1 := hb1.size
  simp at hz1
  have B0 : BlockIs w1 w.heap.size 70 #[.int .i64 t.id, .int .i64 t.pool, .int .i64 t.cap.c, .int .i64 t.cap.m, .int .i64 t.cap.p, v1, v2, .bool t.cordon] := (((BlockIs.new w _ _).alloc _).alloc _).below hb1 (by simp; omega)
  have B1 : BlockIs w1 (w.heap.size + 1) 51 #[.int .i64 0, .int .i64 0, .int .i64 0, .int .i64 0, .int .i64 0, .slice none 0 0, .slice none 0 0, .bool false] := (BlockIs.alloc (BlockIs.new' (by simp)) _).below hb1 (by simp)
  have B2 : BlockIs w1 (w.heap.size + 1 + 1) 51 #[.int .i64 t.id, .int .i64 t.pool, .int .i64 0, .int .i64 0, .int .i64 0, .slice none 0 0, .slice none 0 0, .bool false] := (BlockIs.new' (by simp)).below hb1 (by simp)
  have hC1 : Below w.heap.size w w1 := (by repeat' (first | exact Below.refl _ _ | refine Below.alloc ?_ ?_ _ | refine Below.setCell ?_ ?_ _ | refine Below.drew ?_ | (apply below_step; assumption) | (simp; done) | (simp; omega) | omega))
  have c5 := B0.cell 5
  have c2 := B2.cell 2
  have c3 := B2.cell 3
  have c4 := B2.cell 4
  have f2 := B2.frozen
  simp at c5 c2 c3 c4
  have HB0 := Lib.hid B0
  have HB1 := Lib.hid B1
  have HB2 := Lib.hid B2
  clear B0 B1 B2 hb1
  go_wp2_with fail
  have hC2 : Below w.heap.size w (((w1.setCell ⟨w.heap.size + 1 + 1, 2, none⟩ (.int .i64 t.cap.c)).setCell ⟨w.heap.size + 1 + 1, 2 + 1, none⟩ (.int .i64 t.cap.m)).setCell ⟨w.heap.size + 1 + 1, 2 + 2, none⟩ (.int .i64 t.cap.p)) := (by repeat' (first | exact Below.refl _ _ | refine Below.alloc ?_ ?_ _ | refine Below.setCell ?_ ?_ _ | refine Below.drew ?_ | (apply below_step; assumption) | (simp; done) | (simp; omega) | omega))
  have A0 : BlockIs (((w1.setCell ⟨w.heap.size + 1 + 1, 2, none⟩ (.int .i64 t.cap.c)).setCell ⟨w.heap.size + 1 + 1, 2 + 1, none⟩ (.int .i64 t.cap.m)).setCell ⟨w.heap.size + 1 + 1, 2 + 2, none⟩ (.int .i64 t.cap.p)) w.heap.size 70 #[.int .i64 t.id, .int .i64 t.pool, .int .i64 t.cap.c, .int .i64 t.cap.m, .int .i64 t.cap.p, v1, v2, .bool t.cordon] := ((HB0.out.far (by dsimp only; omega) _).far (by dsimp only; omega) _).far (by dsimp only; omega) _
  have A1 : BlockIs (((w1.setCell ⟨w.heap.size + 1 + 1, 2, none⟩ (.int .i64 t.cap.c)).setCell ⟨w.heap.size + 1 + 1, 2 + 1, none⟩ (.int .i64 t.cap.m)).setCell ⟨w.heap.size + 1 + 1, 2 + 2, none⟩ (.int .i64 t.cap.p)) (w.heap.size + 1) 51 #[.int .i64 0, .int .i64 0, .int .i64 0, .int .i64 0, .int .i64 0, .slice none 0 0, .slice none 0 0, .bool false] := ((HB1.out.far (by dsimp only; omega) _).far (by dsimp only; omega) _).far (by dsimp only; omega) _
  have A2 : BlockIs (((w1.setCell ⟨w.heap.size + 1 + 1, 2, none⟩ (.int .i64 t.cap.c)).setCell ⟨w.heap.size + 1 + 1, 2 + 1, none⟩ (.int .i64 t.cap.m)).setCell ⟨w.heap.size + 1 + 1, 2 + 2, none⟩ (.int .i64 t.cap.p)) (w.heap.size + 1 + 1) 51 #[.int .i64 t.id, .int .i64 t.pool, .int .i64 t.cap.c, .int .i64 t.cap.m, .int .i64 t.cap.p, .slice none 0 0, .slice none 0 0, .bool false] := by simpa using ((HB2.out.put 2 _).put 3 _).put 4 _
  generalize (((w1.setCell ⟨w.heap.size + 1 + 1, 2, none⟩ (.int .i64 t.cap.c)).setCell ⟨w.heap.size + 1 + 1, 2 + 1, none⟩ (.int .i64 t.cap.m)).setCell ⟨w.heap.size + 1 + 1, 2 + 2, none⟩ (.int .i64 t.cap.p)) = X2 at hC2 A0 A1 A2 ⊢
  clear HB0 HB1 HB2 hC1 hz1 c5 c2 c3 c4 f2
  refine (toLabS_any v1 t.labs _ (H1.out.below hC2) L1.out).mono ?_
  rintro e w3 ⟨g1, rfl, hg1, hblk1, hb3⟩
  have l2 := A2.lt
  have hz3 := hb3.size
  have hC3 : Below w.heap.size w w3 := hC2.trans (hb3.mono hC2.size)
  have B0 := A0.below hb3 A0.lt
  have B1 := A1.below hb3 A1.lt
  have B2 := A2.below hb3 A2.lt
  have c6 := B0.cell 6
  have c5 := B2.cell 5
  have f2 := B2.frozen
  simp at c6 c5
  have HB1 := Lib.hid B1
  have HB2 := Lib.hid B2
  have HG1 := Lib.hid hblk1
  have HB0 := Lib.hid B0
  clear A0 A1 A2 B0 B1 B2 hblk1
  go_wp2_with fail
  have hC4 : Below w.heap.size w (w3.setCell ⟨w.heap.size + 1 + 1, 5, none⟩ (.slice (some ⟨g1, 0, none⟩) t.labs.length t.labs.length)) := (by repeat' (first | exact Below.refl _ _ | refine Below.alloc ?_ ?_ _ | refine Below.setCell ?_ ?_ _ | refine Below.drew ?_ | (apply below_step; assumption) | (simp; done) | (simp; omega) | omega))
  have A1 : BlockIs (w3.setCell ⟨w.heap.size + 1 + 1, 5, none⟩ (.slice (some ⟨g1, 0, none⟩) t.labs.length t.labs.length)) (w.heap.size + 1) 51 #[.int .i64 0, .int .i64 0, .int .i64 0, .int .i64 0, .int .i64 0, .slice none 0 0, .slice none 0 0, .bool false] := HB1.out.far (by dsimp only; omega) _
  have A2 : BlockIs (w3.setCell ⟨w.heap.size + 1 + 1, 5, none⟩ (.slice (some ⟨g1, 0, none⟩) t.labs.length t.labs.length)) (w.heap.size + 1 + 1) 51 #[.int .i64 t.id, .int .i64 t.pool, .int .i64 t.cap.c, .int .i64 t.cap.m, .int .i64 t.cap.p, .slice (some ⟨g1, 0, none⟩) t.labs.length t.labs.length, .slice none 0 0, .bool false] := by simpa using HB2.out.put 5 _
  have A0 : BlockIs (w3.setCell ⟨w.heap.size + 1 + 1, 5, none⟩ (.slice (some ⟨g1, 0, none⟩) t.labs.length t.labs.length)) w.heap.size 70 #[.int .i64 t.id, .int .i64 t.pool, .int .i64 t.cap.c, .int .i64 t.cap.m, .int .i64 t.cap.p, v1, v2, .bool t.cordon] := HB0.out.far (by dsimp only; omega) _
  have AG : BlockIs (w3.setCell ⟨w.heap.size + 1 + 1, 5, none⟩ (.slice (some ⟨g1, 0, none⟩) t.labs.length t.labs.length)) g1 123 (labL t.labs).toArray := HG1.out.far (by dsimp only; omega) _
  generalize (w3.setCell ⟨w.heap.size + 1 + 1, 5, none⟩ (.slice (some ⟨g1, 0, none⟩) t.labs.length t.labs.length)) = X4 at hC4 A0 A1 A2 AG ⊢
  clear HB0 HB1 HB2 HG1 hC3 hz3 c5 c6 f2 hb3
  refine (toIntS_o v2 t.taints _ (H2.out.below hC4) L2.out).mono ?_
  rintro e w5 ⟨g2, rfl, hg2, hlt2, hat2, hb5⟩
  have l4 := A2.lt
  have hz5 := hb5.size
  have hC5 : Below w.heap.size w w5 := hC4.trans (hb5.mono hC4.size)
  have B1 := A1.below hb5 A1.lt
  have B2 := A2.below hb5 A2.lt
  have BG := AG.below hb5 AG.lt
  have B0 := A0.below hb5 A0.lt
  have b7 := B0.cell 7
  have f0 := B0.frozen
  have c7 := B2.cell 7
  have d7 := B1.cell 7
  have c0 := B2.cell 0
  have c1 := B2.cell 1
  have c2 := B2.cell 2
  have c3 := B2.cell 3
  have c4 := B2.cell 4
  have c5 := B2.cell 5
  have c6 := B2.cell 6
  have f2 := B2.frozen
  have d0 := B1.cell 0
  have d1 := B1.cell 1
  have d2 := B1.cell 2
  have d3 := B1.cell 3
  have d4 := B1.cell 4
  have d5 := B1.cell 5
  have d6 := B1.cell 6
  have f1 := B1.frozen
  simp at b7 c7 d7 c0 c1 c2 c3 c4 c5 c6 d0 d1 d2 d3 d4 d5 d6
  have HB1 := Lib.hid B1
  have HB2 := Lib.hid B2
  have HG1 := Lib.hid BG
  have HG2 := Lib.hid hat2
  clear A0 A1 A2 AG B0 B1 B2 BG hat2
  go_wp2_with fail
  have hZ : BlockIs ((((((((((w5.setCell ⟨w.heap.size + 1 + 1, 6, none⟩ (.slice (some ⟨g2, 0, none⟩) t.taints.length t.taints.length)).setCell ⟨w.heap.size + 1 + 1, 7, none⟩ (.bool t.cordon)).setCell ⟨w.heap.size + 1, 0, none⟩ (.int .i64 t.id)).setCell ⟨w.heap.size + 1, 1, none⟩ (.int .i64 t.pool)).setCell ⟨w.heap.size + 1, 2, none⟩ (.int .i64 t.cap.c)).setCell ⟨w.heap.size + 1, 3, none⟩ (.int .i64 t.cap.m)).setCell ⟨w.heap.size + 1, 4, none⟩ (.int .i64 t.cap.p)).setCell ⟨w.heap.size + 1, 5, none⟩ (.slice (some ⟨g1, 0, none⟩) t.labs.length t.labs.length)).setCell ⟨w.heap.size + 1, 6, none⟩ (.slice (some ⟨g2, 0, none⟩) t.taints.length t.taints.length)).setCell ⟨w.heap.size + 1, 7, none⟩ (.bool t.cordon)) (w.heap.size + 1) 51 #[.int .i64 t.id, .int .i64 t.pool, .int .i64 t.cap.c, .int .i64 t.cap.m, .int .i64 t.cap.p, .slice (some ⟨g1, 0, none⟩) t.labs.length t.labs.length, .slice (some ⟨g2, 0, none⟩) t.taints.length t.taints.length, .bool t.cordon] := put8 _ _ _ _ _ _ _ _ ((HB1.out.far (by dsimp only; omega) _).far (by dsimp only; omega) _) rfl
  have hG : BlockIs ((((((((((w5.setCell ⟨w.heap.size + 1 + 1, 6, none⟩ (.slice (some ⟨g2, 0, none⟩) t.taints.length t.taints.length)).setCell ⟨w.heap.size + 1 + 1, 7, none⟩ (.bool t.cordon)).setCell ⟨w.heap.size + 1, 0, none⟩ (.int .i64 t.id)).setCell ⟨w.heap.size + 1, 1, none⟩ (.int .i64 t.pool)).setCell ⟨w.heap.size + 1, 2, none⟩ (.int .i64 t.cap.c)).setCell ⟨w.heap.size + 1, 3, none⟩ (.int .i64 t.cap.m)).setCell ⟨w.heap.size + 1, 4, none⟩ (.int .i64 t.cap.p)).setCell ⟨w.heap.size + 1, 5, none⟩ (.slice (some ⟨g1, 0, none⟩) t.labs.length t.labs.length)).setCell ⟨w.heap.size + 1, 6, none⟩ (.slice (some ⟨g2, 0, none⟩) t.taints.length t.taints.length)).setCell ⟨w.heap.size + 1, 7, none⟩ (.bool t.cordon)) g1 123 (labL t.labs).toArray := far8 ((HG1.out.far (by dsimp only; omega) _).far (by dsimp only; omega) _) (by omega)
  have hI : BlockIs ((((((((((w5.setCell ⟨w.heap.size + 1 + 1, 6, none⟩ (.slice (some ⟨g2, 0, none⟩) t.taints.length t.taints.length)).setCell ⟨w.heap.size + 1 + 1, 7, none⟩ (.bool t.cordon)).setCell ⟨w.heap.size + 1, 0, none⟩ (.int .i64 t.id)).setCell ⟨w.heap.size + 1, 1, none⟩ (.int .i64 t.pool)).setCell ⟨w.heap.size + 1, 2, none⟩ (.int .i64 t.cap.c)).setCell ⟨w.heap.size + 1, 3, none⟩ (.int .i64 t.cap.m)).setCell ⟨w.heap.size + 1, 4, none⟩ (.int .i64 t.cap.p)).setCell ⟨w.heap.size + 1, 5, none⟩ (.slice (some ⟨g1, 0, none⟩) t.labs.length t.labs.length)).setCell ⟨w.heap.size + 1, 6, none⟩ (.slice (some ⟨g2, 0, none⟩) t.taints.length t.taints.length)).setCell ⟨w.heap.size + 1, 7, none⟩ (.bool t.cordon)) g2 3 (intL t.taints).toArray := far8 ((HG2.out.far (by dsimp only; omega) _).far (by dsimp only; omega) _) (by omega)
  have hB : Below w.heap.size w ((((((((((w5.setCell ⟨w.heap.size + 1 + 1, 6, none⟩ (.slice (some ⟨g2, 0, none⟩) t.taints.length t.taints.length)).setCell ⟨w.heap.size + 1 + 1, 7, none⟩ (.bool t.cordon)).setCell ⟨w.heap.size + 1, 0, none⟩ (.int .i64 t.id)).setCell ⟨w.heap.size + 1, 1, none⟩ (.int .i64 t.pool)).setCell ⟨w.heap.size + 1, 2, none⟩ (.int .i64 t.cap.c)).setCell ⟨w.heap.size + 1, 3, none⟩ (.int .i64 t.cap.m)).setCell ⟨w.heap.size + 1, 4, none⟩ (.int .i64 t.cap.p)).setCell ⟨w.heap.size + 1, 5, none⟩ (.slice (some ⟨g1, 0, none⟩) t.labs.length t.labs.length)).setCell ⟨w.heap.size + 1, 6, none⟩ (.slice (some ⟨g2, 0, none⟩) t.taints.length t.taints.length)).setCell ⟨w.heap.size + 1, 7, none⟩ (.bool t.cordon)) := below8 ((hC5.setCell (by dsimp only; omega) _).setCell (by dsimp only; omega) _) (by omega)
  have hs : ((((((((((w5.setCell ⟨w.heap.size + 1 + 1, 6, none⟩ (.slice (some ⟨g2, 0, none⟩) t.taints.length t.taints.length)).setCell ⟨w.heap.size + 1 + 1, 7, none⟩ (.bool t.cordon)).setCell ⟨w.heap.size + 1, 0, none⟩ (.int .i64 t.id)).setCell ⟨w.heap.size + 1, 1, none⟩ (.int .i64 t.pool)).setCell ⟨w.heap.size + 1, 2, none⟩ (.int .i64 t.cap.c)).setCell ⟨w.heap.size + 1, 3, none⟩ (.int .i64 t.cap.m)).setCell ⟨w.heap.size + 1, 4, none⟩ (.int .i64 t.cap.p)).setCell ⟨w.heap.size + 1, 5, none⟩ (.slice (some ⟨g1, 0, none⟩) t.labs.length t.labs.length)).setCell ⟨w.heap.size + 1, 6, none⟩ (.slice (some ⟨g2, 0, none⟩) t.taints.length t.taints.length)).setCell ⟨w.heap.size + 1, 7, none⟩ (.bool t.cordon)).heap.size = w5.heap.size := by simp [World.setCell]
  generalize ((((((((((w5.setCell ⟨w.heap.size + 1 + 1, 6, none⟩ (.slice (some ⟨g2, 0, none⟩) t.taints.length t.taints.length)).setCell ⟨w.heap.size + 1 + 1, 7, none⟩ (.bool t.cordon)).setCell ⟨w.heap.size + 1, 0, none⟩ (.int .i64 t.id)).setCell ⟨w.heap.size + 1, 1, none⟩ (.int .i64 t.pool)).setCell ⟨w.heap.size + 1, 2, none⟩ (.int .i64 t.cap.c)).setCell ⟨w.heap.size + 1, 3, none⟩ (.int .i64 t.cap.m)).setCell ⟨w.heap.size + 1, 4, none⟩ (.int .i64 t.cap.p)).setCell ⟨w.heap.size + 1, 5, none⟩ (.slice (some ⟨g1, 0, none⟩) t.labs.length t.labs.length)).setCell ⟨w.heap.size + 1, 6, none⟩ (.slice (some ⟨g2, 0, none⟩) t.taints.length t.taints.length)).setCell ⟨w.heap.size + 1, 7, none⟩ (.bool t.cordon)) = X at hZ hG hI hB hs ⊢
  have z0 := hZ.cell 0
  have z1 := hZ.cell 1
  have z2 := hZ.cell 2
  have z3 := hZ.cell 3
  have z4 := hZ.cell 4
  have z5 := hZ.cell 5
  have z6 := hZ.cell 6
  have z7 := hZ.cell 7
  simp at z7 z0 z1 z2 z3 z4 z5 z6
  exact bodyPost_ret (v := .agg #[.int .i64 t.id, .int .i64 t.pool, .int .i64 t.cap.c, .int .i64 t.cap.m, .int .i64 t.cap.p, .slice (some ⟨g1, 0, none⟩) t.labs.length t.labs.length, .slice (some ⟨g2, 0, none⟩) t.taints.length t.taints.length, .bool t.cordon]) (by simp [results, Tryz.results42, go_sem, z0, z1, z2, z3, z4, z5, z6, z7]) rfl ⟨g1, g2, rfl, by omega, by omega, by omega, hG, hI, hB⟩


theorem blk_ne {w : World} {a b : Nat} {t u : TypeId} {x y : Array Value} (h : BlockIs w a t x) (k : BlockIs w b u y) (hne : t ≠ u) : a ≠ b := fun e => by
  subst e
  have := Option.some.inj (h.symm.trans k)
  simp at this
  exact hne this.2
theorem own_some {w : World} {e : TypeId} {size n g c : Nat} {xs : List Value} (h : w.ownsRow 0 e size (.slice (some ⟨g, 0, none⟩) n c) n xs) {j : Nat} (hj : j < n * size) : ∃ u, w.cell? ⟨g, j, none⟩ = some u := by
  have h1 := h.1
  exact ⟨_, own_cell h (List.getElem?_eq_getElem (by omega))⟩
theorem toTask_ro (t : TV) (cs : List Value) (w : World) (h : TaskR w t cs) : Calls Tryz.prog 41 #[.agg cs.toArray] w (RetO TaskO w t) := by
  obtain ⟨v1, v2, rfl, h1, h2, l1, l2⟩ := h
  refine (toTask_o t v1 v2 w h1 h2 l1 l2).mono fun _ _ ⟨g1, g2, e, k1, k2, k3, bl, it, hb⟩ => ⟨_, [g1, g2], e, ⟨_, _, rfl, labO_of bl l1, intO_of it l2, rfl, l1, l2⟩, ?_, ?_, hb⟩
  · have := blk_ne bl it (by decide)
    simp [this]
  · intro b hb
    simp at hb
    rcases hb with rfl | rfl
    · exact k1
    · exact k2
theorem toNode_ro (t : NV) (cs : List Value) (w : World) (h : NodeR w t cs) : Calls Tryz.prog 42 #[.agg cs.toArray] w (RetO NodeO w t) := by
  obtain ⟨v1, v2, rfl, h1, h2, l1, l2⟩ := h
  refine (toNode_o t v1 v2 w h1 h2 l1 l2).mono fun _ _ ⟨g1, g2, e, k1, k2, k3, bl, it, hb⟩ => ⟨_, [g1, g2], e, ⟨_, _, rfl, labO_of bl l1, intO_of it l2, rfl, l1, l2⟩, ?_, ?_, hb⟩
  · have := blk_ne bl it (by decide)
    simp [this]
  · intro b hb
    simp at hb
    rcases hb with rfl | rfl
    · exact k1
    · exact k2
theorem toBind_ro (t : BV) (cs : List Value) (w : World) (h : BindR w t cs) : Calls Tryz.prog 43 #[.agg cs.toArray] w (RetO BindO w t) := by
  obtain rfl := h
  exact (toBind_any t w).mono fun _ _ ⟨e, hb⟩ => ⟨_, [], e, ⟨rfl, rfl⟩, by simp, by simp, hb⟩
set_option maxHeartbeats 3200000 in
theorem toTaskS_o (v : Value) (l : List TV) (w : World) (hv : TaskSl w v l) (hlen : l.length ≤ 1048576) :
    Calls Tryz.prog 19 #[v] w fun e w' => ∃ bs, e = .returned (.slice (some ⟨w.heap.size, 0, none⟩) l.length l.length) ∧ RowO TaskO 73 7 w' (.slice (some ⟨w.heap.size, 0, none⟩) l.length l.length) l bs ∧ bs.Nodup ∧ (∀ b ∈ bs, w.heap.size ≤ b) ∧ Below w.heap.size w w' := by
  obtain ⟨A, c, rfl, hA⟩ := hv.form
  have HA := Lib.hid hA
  clear hA hv
  have hmk := make_task l.length hlen
  go_enter Tryz.func19, Tryz.ntmps19
  go_wp2_with fail
  go_loopw [4] (fun s4 wr => ∃ (k : Nat) (xa xb : List Value) (ba : List Nat), k ≤ l.length ∧ s4 = .int .i64 k ∧ wr.ownsRow 0 73 7 (.slice (some ⟨w.heap.size, 0, none⟩) l.length l.length) l.length (xa ++ xb) ∧ Elems TaskO wr (l.take k) xa ba ∧ (w.heap.size :: ba).Nodup ∧ (∀ b ∈ ba, w.heap.size < b) ∧ Below w.heap.size w wr) (fun s4 _ => (l.length - intOf s4).toNat)
  case atStart =>
    refine ⟨0, [], (madeCells #[.int .i64 0, .int .i64 0, .int .i64 0, .int .i64 0, .int .i64 0, .slice none 0 0, .slice none 0 0] (l.length * 7)).toList, [], by omega, rfl, ⟨by simp [size_madeCells], .inr ⟨w.heap.size, l.length, _, rfl, Nat.zero_le _, BlockIs.new w _ _, Nat.le_refl _, by simp only [maxLen]; omega, size_madeCells _ _, ?_⟩⟩, ⟨rfl, rfl⟩, by simp, by simp, (by repeat' (first | exact Below.refl _ _ | refine Below.alloc ?_ ?_ _ | refine Below.setCell ?_ ?_ _ | refine Below.drew ?_ | (apply below_step; assumption) | (simp; done) | (simp; omega) | omega))⟩
    rw [List.nil_append, List.take_of_length_le]
    simp [size_madeCells]
  case round =>
    obtain ⟨k, xa, xb, ba, hk, rfl, hown, hel, hnd, hlo, hB⟩ := hrel
    have hzr := hB.size
    by_cases hlt : k < l.length
    · obtain ⟨b, off, rfl, hbw, hat⟩ := HA.out (by omega)
      obtain ⟨t, ht⟩ : ∃ t, l[k]? = some t := ⟨_, List.getElem?_eq_getElem hlt⟩
      obtain ⟨cs, hR, hC⟩ := (hat.below TaskR.kept hB hbw) k t ht
      have HTK := Lib.hid ht
      have HR := Lib.hid (toTask_ro t cs wr hR)
      obtain ⟨v1, v2, rfl, sl, si, m1, m2⟩ := hR; obtain ⟨A1, c1, rfl, _⟩ := sl.form; obtain ⟨A2, c2, rfl, _⟩ := si.form
      clear sl si m1 m2
      obtain ⟨q0, q1, q2, q3, q4, q5, q6⟩ := task_cells hC
      have HO := Lib.hid hown
      have HEL := Lib.hid hel
      have HND := Lib.hid (And.intro hnd hlo)
      have hgl := own_lt hown w.heap.size (by simp [blk, Value.ownBlock])
      clear hat hC ht hown hel hnd hlo
      go_wp2_with fail
      refine HR.out.mono ?_
      rintro e w3 ⟨ds, bx, rfl, hN, hndx, hlox, hb3⟩
      have hz3 := hb3.size
      have hC3 := below_of hB hb3
      have hO3 := own_agree HO.out (Agree.of_below hb3 (own_lt HO.out))
      have hk7 : k * 7 + 7 ≤ l.length * 7 := by
        have := Nat.mul_le_mul_right 7 (show k + 1 ≤ l.length from hlt)
        rw [Nat.add_mul, Nat.one_mul] at this; exact this
      obtain ⟨y0, x0⟩ := own_some hO3 (j := k * 7 + 0) (by omega); obtain ⟨y1, x1⟩ := own_some hO3 (j := k * 7 + 1) (by omega); obtain ⟨y2, x2⟩ := own_some hO3 (j := k * 7 + 2) (by omega); obtain ⟨y3, x3⟩ := own_some hO3 (j := k * 7 + 3) (by omega); obtain ⟨y4, x4⟩ := own_some hO3 (j := k * 7 + 4) (by omega); obtain ⟨y5, x5⟩ := own_some hO3 (j := k * 7 + 5) (by omega); obtain ⟨y6, x6⟩ := own_some hO3 (j := k * 7 + 6) (by omega)
      rw [Nat.add_zero] at x0
      have uf := own_frozen hO3 (by omega)
      have HO3 := Lib.hid hO3
      have HN := Lib.hid (And.intro hN (And.intro hndx hlox))
      obtain ⟨v3, v4, rfl, n1, n2, -, -, -⟩ := hN
      obtain ⟨E1, d1, rfl, -⟩ := own_form n1
      obtain ⟨E2, d2, rfl, -⟩ := own_form n2
      clear hndx hlox hO3 hk7 n1 n2
      go_wp2_with fail
      go_roundw
      case rel =>
        obtain ⟨hN, hndx, hlox⟩ := HN.out
        obtain ⟨hnd, hlo⟩ := HND.out
        have hxl : xa.length = k * 7 := by rw [HEL.out.len (fun _ _ _ h => h.len), List.length_take, Nat.min_eq_left hk]
        have hlx : (xa ++ xb).length = l.length * 7 := HO3.out.1
        rw [List.length_append, hxl] at hlx
        have hx0 : (xb.take 7).length = 7 := by
          rw [List.length_take]
          have := Nat.mul_le_mul_right 7 (show k + 1 ≤ l.length from hlt)
          rw [Nat.add_mul, Nat.one_mul] at this
          omega
        have h3 := HO3.out
        rw [← List.take_append_drop 7 xb] at h3
        have st := own_put (v := .slice (some ⟨w.heap.size, 0, none⟩) l.length l.length) (g := w.heap.size) (ds := [.int .i64 t.id, .int .i64 t.prio, .int .i64 t.need.c, .int .i64 t.need.m, .int .i64 t.need.p, .slice E1 t.want.length d1, .slice E2 t.tols.length d2]) h3 (by rw [hx0]; rfl) rfl
        rw [hxl] at st
        have hEA := HEL.out.agree TaskO.framed (Agree.of_below hb3 (elems_lt (fun _ _ _ h => h.lt) HEL.out))
        have hP : TurnB [w.heap.size] w3 (putAll w3 w.heap.size (k * 7) [.int .i64 t.id, .int .i64 t.prio, .int .i64 t.need.c, .int .i64 t.need.m, .int .i64 t.need.p, .slice E1 t.want.length d1, .slice E2 t.tols.length d2]) := (TurnB.refl _ _).putAll (List.mem_singleton.2 rfl) _ _
        have hEP := hEA.agree TaskO.framed (hP.agree (fun b hb => ⟨elems_lt (fun _ _ _ h => h.lt) hEA b hb, by have := hlo b hb; simp; omega⟩))
        have hNP := TaskO.framed _ _ _ _ _ hN (hP.agree (fun b hb => ⟨hN.lt b hb, by have := hlox b hb; simp; omega⟩))
        refine ⟨k + 1, xa ++ [.int .i64 t.id, .int .i64 t.prio, .int .i64 t.need.c, .int .i64 t.need.m, .int .i64 t.need.p, .slice E1 t.want.length d1, .slice E2 t.tols.length d2], xb.drop 7, ba ++ bx, by omega, by go_num, by rw [List.append_assoc]; exact st, by rw [take_at HTK.out]; exact hEP.snoc hNP, ?_, ?_, hP.below hC3.size (by simp) |> hC3.trans⟩
        · rw [List.nodup_cons] at hnd ⊢
          refine ⟨fun hm => ?_, ?_⟩
          · rcases List.mem_append.1 hm with hm | hm
            · exact hnd.1 hm
            · have := hlox _ hm; omega
          · rw [List.nodup_append]
            exact ⟨hnd.2, hndx, fun a ha b hb e => by have := elems_lt (fun _ _ _ h => h.lt) HEL.out a ha; have := hlox b hb; omega⟩
        · intro b hb
          rcases List.mem_append.1 hb with hb | hb
          · exact hlo b hb
          · have := hlox b hb; omega
      case measure => simp [intOf]; omega
    · have hkl : k = l.length := by omega
      have HF := Lib.hid (And.intro hown (And.intro hel (And.intro hnd hlo)))
      have HKL := Lib.hid hkl
      clear hkl hown hel hnd hlo
      go_wp2_with fail
      go_ret
      obtain ⟨hown, hel, hnd, hlo⟩ := HF.out
      have hkl := HKL.out
      subst hkl
      rw [List.take_length] at hel
      have hxl := hel.len (fun _ _ _ h => h.len)
      have h1 := hown.1
      rw [List.length_append, hxl] at h1
      obtain rfl : xb = [] := List.eq_nil_of_length_eq_zero (by omega)
      rw [List.append_nil] at hown
      exact ⟨w.heap.size :: ba, rfl, ⟨xa, ba, hown, hel, by simp [blk, Value.ownBlock]⟩, hnd, fun b hb => by
        rcases List.mem_cons.1 hb with rfl | hb
        · exact Nat.le_refl _
        · have := hlo b hb; omega, hB⟩
set_option maxHeartbeats 3200000 in
theorem toNodeS_o (v : Value) (l : List NV) (w : World) (hv : NodeSl w v l) (hlen : l.length ≤ 1048576) :
    Calls Tryz.prog 20 #[v] w fun e w' => ∃ bs, e = .returned (.slice (some ⟨w.heap.size, 0, none⟩) l.length l.length) ∧ RowO NodeO 51 8 w' (.slice (some ⟨w.heap.size, 0, none⟩) l.length l.length) l bs ∧ bs.Nodup ∧ (∀ b ∈ bs, w.heap.size ≤ b) ∧ Below w.heap.size w w' := by
  obtain ⟨A, c, rfl, hA⟩ := hv.form
  have HA := Lib.hid hA
  clear hA hv
  have hmk := make_node l.length hlen
  go_enter Tryz.func20, Tryz.ntmps20
  go_wp2_with fail
  go_loopw [4] (fun s4 wr => ∃ (k : Nat) (xa xb : List Value) (ba : List Nat), k ≤ l.length ∧ s4 = .int .i64 k ∧ wr.ownsRow 0 51 8 (.slice (some ⟨w.heap.size, 0, none⟩) l.length l.length) l.length (xa ++ xb) ∧ Elems NodeO wr (l.take k) xa ba ∧ (w.heap.size :: ba).Nodup ∧ (∀ b ∈ ba, w.heap.size < b) ∧ Below w.heap.size w wr) (fun s4 _ => (l.length - intOf s4).toNat)
  case atStart =>
    refine ⟨0, [], (madeCells #[.int .i64 0, .int .i64 0, .int .i64 0, .int .i64 0, .int .i64 0, .slice none 0 0, .slice none 0 0, .bool false] (l.length * 8)).toList, [], by omega, rfl, ⟨by simp [size_madeCells], .inr ⟨w.heap.size, l.length, _, rfl, Nat.zero_le _, BlockIs.new w _ _, Nat.le_refl _, by simp only [maxLen]; omega, size_madeCells _ _, ?_⟩⟩, ⟨rfl, rfl⟩, by simp, by simp, (by repeat' (first | exact Below.refl _ _ | refine Below.alloc ?_ ?_ _ | refine Below.setCell ?_ ?_ _ | refine Below.drew ?_ | (apply below_step; assumption) | (simp; done) | (simp; omega) | omega))⟩
    rw [List.nil_append, List.take_of_length_le]
    simp [size_madeCells]
  case round =>
    obtain ⟨k, xa, xb, ba, hk, rfl, hown, hel, hnd, hlo, hB⟩ := hrel
    have hzr := hB.size
    by_cases hlt : k < l.length
    · obtain ⟨b, off, rfl, hbw, hat⟩ := HA.out (by omega)
      obtain ⟨t, ht⟩ : ∃ t, l[k]? = some t := ⟨_, List.getElem?_eq_getElem hlt⟩
      obtain ⟨cs, hR, hC⟩ := (hat.below NodeR.kept hB hbw) k t ht
      have HTK := Lib.hid ht
      have HR := Lib.hid (toNode_ro t cs wr hR)
      obtain ⟨v1, v2, rfl, sl, si, m1, m2⟩ := hR; obtain ⟨A1, c1, rfl, _⟩ := sl.form; obtain ⟨A2, c2, rfl, _⟩ := si.form
      clear sl si m1 m2
      obtain ⟨q0, q1, q2, q3, q4, q5, q6, q7⟩ := node_cells hC
      have HO := Lib.hid hown
      have HEL := Lib.hid hel
      have HND := Lib.hid (And.intro hnd hlo)
      have hgl := own_lt hown w.heap.size (by simp [blk, Value.ownBlock])
      clear hat hC ht hown hel hnd hlo
      go_wp2_with fail
      refine HR.out.mono ?_
      rintro e w3 ⟨ds, bx, rfl, hN, hndx, hlox, hb3⟩
      have hz3 := hb3.size
      have hC3 := below_of hB hb3
      have hO3 := own_agree HO.out (Agree.of_below hb3 (own_lt HO.out))
      have hk8 : k * 8 + 8 ≤ l.length * 8 := by
        have := Nat.mul_le_mul_right 8 (show k + 1 ≤ l.length from hlt)
        rw [Nat.add_mul, Nat.one_mul] at this; exact this
      obtain ⟨y0, x0⟩ := own_some hO3 (j := k * 8 + 0) (by omega); obtain ⟨y1, x1⟩ := own_some hO3 (j := k * 8 + 1) (by omega); obtain ⟨y2, x2⟩ := own_some hO3 (j := k * 8 + 2) (by omega); obtain ⟨y3, x3⟩ := own_some hO3 (j := k * 8 + 3) (by omega); obtain ⟨y4, x4⟩ := own_some hO3 (j := k * 8 + 4) (by omega); obtain ⟨y5, x5⟩ := own_some hO3 (j := k * 8 + 5) (by omega); obtain ⟨y6, x6⟩ := own_some hO3 (j := k * 8 + 6) (by omega); obtain ⟨y7, x7⟩ := own_some hO3 (j := k * 8 + 7) (by omega)
      rw [Nat.add_zero] at x0
      have uf := own_frozen hO3 (by omega)
      have HO3 := Lib.hid hO3
      have HN := Lib.hid (And.intro hN (And.intro hndx hlox))
      obtain ⟨v3, v4, rfl, n1, n2, -, -, -⟩ := hN
      obtain ⟨E1, d1, rfl, -⟩ := own_form n1
      obtain ⟨E2, d2, rfl, -⟩ := own_form n2
      clear hndx hlox hO3 hk8 n1 n2
      go_wp2_with fail
      go_roundw
      case rel =>
        obtain ⟨hN, hndx, hlox⟩ := HN.out
        obtain ⟨hnd, hlo⟩ := HND.out
        have hxl : xa.length = k * 8 := by rw [HEL.out.len (fun _ _ _ h => h.len), List.length_take, Nat.min_eq_left hk]
        have hlx : (xa ++ xb).length = l.length * 8 := HO3.out.1
        rw [List.length_append, hxl] at hlx
        have hx0 : (xb.take 8).length = 8 := by
          rw [List.length_take]
          have := Nat.mul_le_mul_right 8 (show k + 1 ≤ l.length from hlt)
          rw [Nat.add_mul, Nat.one_mul] at this
          omega
        have h3 := HO3.out
        rw [← List.take_append_drop 8 xb] at h3
        have st := own_put (v := .slice (some ⟨w.heap.size, 0, none⟩) l.length l.length) (g := w.heap.size) (ds := [.int .i64 t.id, .int .i64 t.pool, .int .i64 t.cap.c, .int .i64 t.cap.m, .int .i64 t.cap.p, .slice E1 t.labs.length d1, .slice E2 t.taints.length d2, .bool t.cordon]) h3 (by rw [hx0]; rfl) rfl
        rw [hxl] at st
        have hEA := HEL.out.agree NodeO.framed (Agree.of_below hb3 (elems_lt (fun _ _ _ h => h.lt) HEL.out))
        have hP : TurnB [w.heap.size] w3 (putAll w3 w.heap.size (k * 8) [.int .i64 t.id, .int .i64 t.pool, .int .i64 t.cap.c, .int .i64 t.cap.m, .int .i64 t.cap.p, .slice E1 t.labs.length d1, .slice E2 t.taints.length d2, .bool t.cordon]) := (TurnB.refl _ _).putAll (List.mem_singleton.2 rfl) _ _
        have hEP := hEA.agree NodeO.framed (hP.agree (fun b hb => ⟨elems_lt (fun _ _ _ h => h.lt) hEA b hb, by have := hlo b hb; simp; omega⟩))
        have hNP := NodeO.framed _ _ _ _ _ hN (hP.agree (fun b hb => ⟨hN.lt b hb, by have := hlox b hb; simp; omega⟩))
        refine ⟨k + 1, xa ++ [.int .i64 t.id, .int .i64 t.pool, .int .i64 t.cap.c, .int .i64 t.cap.m, .int .i64 t.cap.p, .slice E1 t.labs.length d1, .slice E2 t.taints.length d2, .bool t.cordon], xb.drop 8, ba ++ bx, by omega, by go_num, by rw [List.append_assoc]; exact st, by rw [take_at HTK.out]; exact hEP.snoc hNP, ?_, ?_, hP.below hC3.size (by simp) |> hC3.trans⟩
        · rw [List.nodup_cons] at hnd ⊢
          refine ⟨fun hm => ?_, ?_⟩
          · rcases List.mem_append.1 hm with hm | hm
            · exact hnd.1 hm
            · have := hlox _ hm; omega
          · rw [List.nodup_append]
            exact ⟨hnd.2, hndx, fun a ha b hb e => by have := elems_lt (fun _ _ _ h => h.lt) HEL.out a ha; have := hlox b hb; omega⟩
        · intro b hb
          rcases List.mem_append.1 hb with hb | hb
          · exact hlo b hb
          · have := hlox b hb; omega
      case measure => simp [intOf]; omega
    · have hkl : k = l.length := by omega
      have HF := Lib.hid (And.intro hown (And.intro hel (And.intro hnd hlo)))
      have HKL := Lib.hid hkl
      clear hkl hown hel hnd hlo
      go_wp2_with fail
      go_ret
      obtain ⟨hown, hel, hnd, hlo⟩ := HF.out
      have hkl := HKL.out
      subst hkl
      rw [List.take_length] at hel
      have hxl := hel.len (fun _ _ _ h => h.len)
      have h1 := hown.1
      rw [List.length_append, hxl] at h1
      obtain rfl : xb = [] := List.eq_nil_of_length_eq_zero (by omega)
      rw [List.append_nil] at hown
      exact ⟨w.heap.size :: ba, rfl, ⟨xa, ba, hown, hel, by simp [blk, Value.ownBlock]⟩, hnd, fun b hb => by
        rcases List.mem_cons.1 hb with rfl | hb
        · exact Nat.le_refl _
        · have := hlo b hb; omega, hB⟩
set_option maxHeartbeats 3200000 in
theorem toBindS_o (v : Value) (l : List BV) (w : World) (hv : BindSl w v l) (hlen : l.length ≤ 1048576) :
    Calls Tryz.prog 21 #[v] w fun e w' => ∃ bs, e = .returned (.slice (some ⟨w.heap.size, 0, none⟩) l.length l.length) ∧ RowO BindO 76 2 w' (.slice (some ⟨w.heap.size, 0, none⟩) l.length l.length) l bs ∧ bs.Nodup ∧ (∀ b ∈ bs, w.heap.size ≤ b) ∧ Below w.heap.size w w' := by
  obtain ⟨A, c, rfl, hA⟩ := hv.form
  have HA := Lib.hid hA
  clear hA hv
  have hmk := make_bind l.length hlen
  go_enter Tryz.func21, Tryz.ntmps21
  go_wp2_with fail
  go_loopw [4] (fun s4 wr => ∃ (k : Nat) (xa xb : List Value) (ba : List Nat), k ≤ l.length ∧ s4 = .int .i64 k ∧ wr.ownsRow 0 76 2 (.slice (some ⟨w.heap.size, 0, none⟩) l.length l.length) l.length (xa ++ xb) ∧ Elems BindO wr (l.take k) xa ba ∧ (w.heap.size :: ba).Nodup ∧ (∀ b ∈ ba, w.heap.size < b) ∧ Below w.heap.size w wr) (fun s4 _ => (l.length - intOf s4).toNat)
  case atStart =>
    refine ⟨0, [], (madeCells #[.int .i64 0, .int .i64 0] (l.length * 2)).toList, [], by omega, rfl, ⟨by simp [size_madeCells], .inr ⟨w.heap.size, l.length, _, rfl, Nat.zero_le _, BlockIs.new w _ _, Nat.le_refl _, by simp only [maxLen]; omega, size_madeCells _ _, ?_⟩⟩, ⟨rfl, rfl⟩, by simp, by simp, (by repeat' (first | exact Below.refl _ _ | refine Below.alloc ?_ ?_ _ | refine Below.setCell ?_ ?_ _ | refine Below.drew ?_ | (apply below_step; assumption) | (simp; done) | (simp; omega) | omega))⟩
    rw [List.nil_append, List.take_of_length_le]
    simp [size_madeCells]
  case round =>
    obtain ⟨k, xa, xb, ba, hk, rfl, hown, hel, hnd, hlo, hB⟩ := hrel
    have hzr := hB.size
    by_cases hlt : k < l.length
    · obtain ⟨b, off, rfl, hbw, hat⟩ := HA.out (by omega)
      obtain ⟨t, ht⟩ : ∃ t, l[k]? = some t := ⟨_, List.getElem?_eq_getElem hlt⟩
      obtain ⟨cs, hR, hC⟩ := (hat.below BindR.kept hB hbw) k t ht
      have HTK := Lib.hid ht
      have HR := Lib.hid (toBind_ro t cs wr hR)
      obtain rfl := hR
      skip
      obtain ⟨q0, q1⟩ := bind_cells hC
      have HO := Lib.hid hown
      have HEL := Lib.hid hel
      have HND := Lib.hid (And.intro hnd hlo)
      have hgl := own_lt hown w.heap.size (by simp [blk, Value.ownBlock])
      clear hat hC ht hown hel hnd hlo
      go_wp2_with fail
      refine HR.out.mono ?_
      rintro e w3 ⟨ds, bx, rfl, hN, hndx, hlox, hb3⟩
      have hz3 := hb3.size
      have hC3 := below_of hB hb3
      have hO3 := own_agree HO.out (Agree.of_below hb3 (own_lt HO.out))
      have hk2 : k * 2 + 2 ≤ l.length * 2 := by
        have := Nat.mul_le_mul_right 2 (show k + 1 ≤ l.length from hlt)
        rw [Nat.add_mul, Nat.one_mul] at this; exact this
      obtain ⟨y0, x0⟩ := own_some hO3 (j := k * 2 + 0) (by omega); obtain ⟨y1, x1⟩ := own_some hO3 (j := k * 2 + 1) (by omega)
      rw [Nat.add_zero] at x0
      have uf := own_frozen hO3 (by omega)
      have HO3 := Lib.hid hO3
      have HN := Lib.hid (And.intro hN (And.intro hndx hlox))
      obtain ⟨rfl, -⟩ := hN
      
      
      clear hndx hlox hO3 hk2 
      go_wp2_with fail
      go_roundw
      case rel =>
        obtain ⟨hN, hndx, hlox⟩ := HN.out
        obtain ⟨hnd, hlo⟩ := HND.out
        have hxl : xa.length = k * 2 := by rw [HEL.out.len (fun _ _ _ h => h.len), List.length_take, Nat.min_eq_left hk]
        have hlx : (xa ++ xb).length = l.length * 2 := HO3.out.1
        rw [List.length_append, hxl] at hlx
        have hx0 : (xb.take 2).length = 2 := by
          rw [List.length_take]
          have := Nat.mul_le_mul_right 2 (show k + 1 ≤ l.length from hlt)
          rw [Nat.add_mul, Nat.one_mul] at this
          omega
        have h3 := HO3.out
        rw [← List.take_append_drop 2 xb] at h3
        have st := own_put (v := .slice (some ⟨w.heap.size, 0, none⟩) l.length l.length) (g := w.heap.size) (ds := [.int .i64 t.task, .int .i64 t.node]) h3 (by rw [hx0]; rfl) rfl
        rw [hxl] at st
        have hEA := HEL.out.agree BindO.framed (Agree.of_below hb3 (elems_lt (fun _ _ _ h => h.lt) HEL.out))
        have hP : TurnB [w.heap.size] w3 (putAll w3 w.heap.size (k * 2) [.int .i64 t.task, .int .i64 t.node]) := (TurnB.refl _ _).putAll (List.mem_singleton.2 rfl) _ _
        have hEP := hEA.agree BindO.framed (hP.agree (fun b hb => ⟨elems_lt (fun _ _ _ h => h.lt) hEA b hb, by have := hlo b hb; simp; omega⟩))
        have hNP := BindO.framed _ _ _ _ _ hN (hP.agree (fun b hb => ⟨hN.lt b hb, by have := hlox b hb; simp; omega⟩))
        refine ⟨k + 1, xa ++ [.int .i64 t.task, .int .i64 t.node], xb.drop 2, ba ++ bx, by omega, by go_num, by rw [List.append_assoc]; exact st, by rw [take_at HTK.out]; exact hEP.snoc hNP, ?_, ?_, hP.below hC3.size (by simp) |> hC3.trans⟩
        · rw [List.nodup_cons] at hnd ⊢
          refine ⟨fun hm => ?_, ?_⟩
          · rcases List.mem_append.1 hm with hm | hm
            · exact hnd.1 hm
            · have := hlox _ hm; omega
          · rw [List.nodup_append]
            exact ⟨hnd.2, hndx, fun a ha b hb e => by have := elems_lt (fun _ _ _ h => h.lt) HEL.out a ha; have := hlox b hb; omega⟩
        · intro b hb
          rcases List.mem_append.1 hb with hb | hb
          · exact hlo b hb
          · have := hlox b hb; omega
      case measure => simp [intOf]; omega
    · have hkl : k = l.length := by omega
      have HF := Lib.hid (And.intro hown (And.intro hel (And.intro hnd hlo)))
      have HKL := Lib.hid hkl
      clear hkl hown hel hnd hlo
      go_wp2_with fail
      go_ret
      obtain ⟨hown, hel, hnd, hlo⟩ := HF.out
      have hkl := HKL.out
      subst hkl
      rw [List.take_length] at hel
      have hxl := hel.len (fun _ _ _ h => h.len)
      have h1 := hown.1
      rw [List.length_append, hxl] at h1
      obtain rfl : xb = [] := List.eq_nil_of_length_eq_zero (by omega)
      rw [List.append_nil] at hown
      exact ⟨w.heap.size :: ba, rfl, ⟨xa, ba, hown, hel, by simp [blk, Value.ownBlock]⟩, hnd, fun b hb => by
        rcases List.mem_cons.1 hb with rfl | hb
        · exact Nat.le_refl _
        · have := hlo b hb; omega, hB⟩
end Go.Proofs.YtkaecjjbammphaaGreatDoor

namespace Go.Proofs.YtkaecjjbammphaaGreatDoor
open Go.RowKit

theorem nd3 {a b c : List Nat} (h : (a ++ (b ++ c)).Nodup) : a.Nodup ∧ b.Nodup ∧ c.Nodup ∧ (∀ x ∈ a, x ∉ b ∧ x ∉ c) ∧ (∀ x ∈ b, x ∉ a ∧ x ∉ c) ∧ (∀ x ∈ c, x ∉ a ∧ x ∉ b) := by
  simp only [List.nodup_append, List.mem_append] at h
  obtain ⟨ha, ⟨hb, hc, hbc⟩, hd⟩ := h
  exact ⟨ha, hb, hc, fun x hx => ⟨fun h => hd x hx x (.inl h) rfl, fun h => hd x hx x (.inr h) rfl⟩, fun x hx => ⟨fun h => hd x h x (.inl hx) rfl, fun h => hbc x hx x h rfl⟩, fun x hx => ⟨fun h => hd x h x (.inr hx) rfl, fun h => hbc x h x hx rfl⟩⟩
theorem CluO.all {w : World} {c : CV} {a0 a1 a2 : Value} {bs : List Nat} (h : CluO w c a0 a1 a2 bs) : allTask c.tasks ∧ allNode c.nodes ∧ c.tasks.length ≤ 1048576 ∧ c.nodes.length ≤ 1048576 ∧ c.binds.length ≤ 1048576 := by
  obtain ⟨b0, b1, b2, ⟨_, _, _, h0, _⟩, ⟨_, _, _, h1, _⟩, _, _, _, l⟩ := h
  exact ⟨elems_allTask h0, elems_allNode h1, l⟩
theorem CluO.lt {w : World} {c : CV} {a0 a1 a2 : Value} {bs : List Nat} (h : CluO w c a0 a1 a2 bs) : ∀ b ∈ bs, b < w.heap.size := by
  obtain ⟨b0, b1, b2, h0, h1, h2, rfl, _⟩ := h
  intro b hb
  rcases List.mem_append.1 hb with hb | hb
  · exact rowO_lt (fun _ _ _ h => h.lt) h0 b hb
  · rcases List.mem_append.1 hb with hb | hb
    · exact rowO_lt (fun _ _ _ h => h.lt) h1 b hb
    · exact rowO_lt (fun _ _ _ h => h.lt) h2 b hb
theorem rowO_form {α : Type} {R : World → α → List Value → List Nat → Prop} {ty : TypeId} {n : Nat} {w : World} {v : Value} {l : List α} {bs : List Nat} (h : RowO R ty n w v l bs) : ∃ A c, v = .slice A l.length c := by
  obtain ⟨xs, b, h1, _⟩ := h
  obtain ⟨A, c, e, _⟩ := own_form h1
  exact ⟨A, c, e⟩
theorem rowO_blk {α : Type} {R : World → α → List Value → List Nat → Prop} {ty : TypeId} {n : Nat} {w : World} {v : Value} {l : List α} {bs : List Nat} (h : RowO R ty n w v l bs) : ∀ b ∈ blk v, b ∈ bs := by
  obtain ⟨xs, b, _, _, rfl⟩ := h
  exact fun b hb => List.mem_append_left _ hb

theorem szClu_eq (c : CV) (k : Int) : k + szClu c = k + sumTask c.tasks + sumNode c.nodes + 2 * (c.binds.length : Int) := by unfold szClu; omega
set_option maxHeartbeats 3200000 in
theorem markCluster_any (c : CV) (a0 a1 a2 : Value) (bs : List Nat) (k : Int) (w : World) (h : CluO w c a0 a1 a2 bs) (h0 : 0 ≤ k) (hk : k ≤ 1000) :
    Calls Tryz.prog 10 #[.agg #[a0, a1, a2], .int .i64 k] w fun e w' => e = .returned (.int .i64 (k + szClu c)) ∧ CluO w' (mClu c k) a0 a1 a2 bs ∧ TurnB bs w w' := by
  obtain ⟨hT, hN, l0, l1, l2⟩ := h.all
  have hlt := h.lt
  obtain ⟨b0, b1, b2, r0, r1, r2, rfl, hnd, -⟩ := h
  obtain ⟨D0, e0, rfl⟩ := rowO_form r0
  obtain ⟨D1, e1, rfl⟩ := rowO_form r1
  obtain ⟨D2, e2, rfl⟩ := rowO_form r2
  obtain ⟨n0, n1, n2, d0, d1, d2⟩ := nd3 hnd
  have s0 := sumTask_take hT c.tasks.length (by omega)
  have s1 := sumNode_take hN c.nodes.length (by omega)
  rw [List.take_length] at s0 s1
  obtain ⟨s00, s01⟩ := s0
  obtain ⟨s10, s11⟩ := s1
  have hX : Below w.heap.size w (w.alloc (.cells #[.slice D0 c.tasks.length e0, .slice D1 c.nodes.length e1, .slice D2 c.binds.length e2] 34)) := (by repeat' (first | exact Below.refl _ _ | refine Below.alloc ?_ ?_ _ | refine Below.setCell ?_ ?_ _ | refine Below.drew ?_ | (apply below_step; assumption) | (simp; done) | (simp; omega) | omega))
  have H0 := Lib.hid (r0.agree TaskO.framed (Agree.of_below hX (fun b hb => hlt b (by simp [hb]))))
  have H1 := Lib.hid (r1.agree NodeO.framed (Agree.of_below hX (fun b hb => hlt b (by simp [hb]))))
  have H2 := Lib.hid (r2.agree BindO.framed (Agree.of_below hX (fun b hb => hlt b (by simp [hb]))))
  have HD := Lib.hid (And.intro hnd (And.intro hlt (And.intro d0 (And.intro d1 d2))))
  have BX := Lib.hid (BlockIs.new w 34 #[.slice D0 c.tasks.length e0, .slice D1 c.nodes.length e1, .slice D2 c.binds.length e2])
  clear r0 r1 r2 hnd hlt d0 d1 d2 hT hN
  go_enter Tryz.func10, Tryz.ntmps10
  go_wp2_with fail
  refine (markTaskS_any _ c.tasks b0 k _ H0.out n0 (by omega) h0 (by omega)).mono ?_
  rintro e w1 ⟨rfl, hr1, ht1⟩
  obtain ⟨hnd, hlt, d0, d1, d2⟩ := HD.out
  have BC := BX.out.turn ht1 (fun hx => by have := hlt _ (List.mem_append_left _ hx); omega)
  have H11 := H1.out.agree NodeO.framed (ht1.agree (fun b hb => ⟨rowO_lt (fun _ _ _ h => h.lt) H1.out b hb, (d1 b hb).1⟩))
  have H21 := H2.out.agree BindO.framed (ht1.agree (fun b hb => ⟨rowO_lt (fun _ _ _ h => h.lt) H2.out b hb, (d2 b hb).1⟩))
  have g1 := BC.cell 1
  have g2 := BC.cell 2
  have cl := BC.lt
  simp at g1 g2
  have HR1 := Lib.hid hr1
  have HT1 := Lib.hid ht1
  have HH11 := Lib.hid H11
  have HH21 := Lib.hid H21
  have HBC := Lib.hid BC
  clear hnd hlt d0 d1 d2 BC hr1 ht1 H11 H21
  go_wp2_with fail
  refine (markNodeS_any _ c.nodes b1 _ _ HH11.out n1 (by omega) (by omega) (by omega)).mono ?_
  rintro e w2 ⟨rfl, hr2, ht2⟩
  obtain ⟨hnd, hlt, d0, d1, d2⟩ := HD.out
  have BC := HBC.out.turn ht2 (fun hx => by have := hlt _ (List.mem_append_right _ (List.mem_append_left _ hx)); omega)
  have R12 := HR1.out.agree TaskO.framed (ht2.agree (fun b hb => ⟨rowO_lt (fun _ _ _ h => h.lt) HR1.out b hb, (d0 b hb).1⟩))
  have H22 := HH21.out.agree BindO.framed (ht2.agree (fun b hb => ⟨rowO_lt (fun _ _ _ h => h.lt) HH21.out b hb, (d2 b hb).2⟩))
  have g2 := BC.cell 2
  have cl := BC.lt
  simp at g2
  have HR12 := Lib.hid R12
  have HR2 := Lib.hid hr2
  have HT2 := Lib.hid ht2
  have HH22 := Lib.hid H22
  clear hnd hlt d0 d1 d2 BC hr2 ht2 H22 R12 g1 HBC
  go_wp2_with fail
  refine (markBindS_any _ c.binds b2 _ _ HH22.out (by omega) (by omega) (by omega)).mono ?_
  rintro e w3 ⟨rfl, hr3, hg3⟩
  have ht3 : TurnB b2 w2 w3 := TurnB.of_grown hg3 (fun k e => rowO_blk HH22.out k (blk_mem e))
  have HR3 := Lib.hid hr3
  have HT3 := Lib.hid ht3
  clear hr3 ht3 hg3 g2
  go_wp2_with fail
  go_ret
  obtain ⟨hnd, hlt, d0, d1, d2⟩ := HD.out
  refine ⟨by rw [szClu_eq]; rfl, ⟨b0, b1, b2, ?_, ?_, HR3.out, rfl, hnd, ?_⟩, ?_⟩
  · exact HR12.out.agree TaskO.framed (HT3.out.agree (fun b hb => ⟨rowO_lt (fun _ _ _ h => h.lt) HR12.out b hb, (d0 b hb).2⟩))
  · exact HR2.out.agree NodeO.framed (HT3.out.agree (fun b hb => ⟨rowO_lt (fun _ _ _ h => h.lt) HR2.out b hb, (d1 b hb).2⟩))
  · exact ⟨by simp only [mClu, mTasks_len]; exact l0, by simp only [mClu, mNodes_len]; exact l1, by simp only [mClu, mBinds_len]; exact l2⟩
  · exact (((TurnB.of_below hX).trans (HT1.out.mono (fun b hb => by simp [hb]))).trans (HT2.out.mono (fun b hb => by simp [hb]))).trans (HT3.out.mono (fun b hb => by simp [hb]))

end Go.Proofs.YtkaecjjbammphaaGreatDoor

namespace Go.Proofs.YtkaecjjbammphaaGreatDoor
open Go.RowKit

theorem boxes3 (w : World) (t0 t1 t2 : TypeId) (c0 c1 c2 : Array Value) {w2 : World} (hb : Below (((w.alloc (.cells c0 t0)).alloc (.cells c1 t1)).alloc (.cells c2 t2)).heap.size (((w.alloc (.cells c0 t0)).alloc (.cells c1 t1)).alloc (.cells c2 t2)) w2) :
    BlockIs w2 w.heap.size t0 c0 ∧ BlockIs w2 (w.heap.size + 1) t1 c1 ∧ BlockIs w2 (w.heap.size + 1 + 1) t2 c2 :=
  ⟨(((BlockIs.new w t0 c0).alloc _).alloc _).below hb (by simp; omega), (BlockIs.alloc (BlockIs.new' (by simp)) _).below hb (by simp), (BlockIs.new' (by simp)).below hb (by simp)⟩
end Go.Proofs.YtkaecjjbammphaaGreatDoor

namespace Go.Proofs.YtkaecjjbammphaaGreatDoor
open Go.RowKit

set_option maxHeartbeats 3200000 in
theorem toCluster_o (c : CV) (a0 a1 a2 : Value) (w : World) (hc : CluR w c a0 a1 a2) :
    Calls Tryz.prog 6 #[.agg #[a0, a1, a2]] w (RetClu w c) := by
  have HC := Lib.hid hc
  obtain ⟨h0, h1, h2, l0, l1, l2⟩ := hc
  obtain ⟨D0, e0, rfl, _⟩ := h0.form
  obtain ⟨D1, e1, rfl, _⟩ := h1.form
  obtain ⟨D2, e2, rfl, _⟩ := h2.form
  have L := Lib.hid (And.intro l0 (And.intro l1 l2))
  clear h0 h1 h2 l0 l1 l2
  go_enter Tryz.func6, Tryz.ntmps6
  go_wp2_with fail
  have hX : Below w.heap.size w (((w.alloc (.cells #[.slice D0 c.tasks.length e0, .slice D1 c.nodes.length e1, .slice D2 c.binds.length e2] 26)).alloc (.cells #[.slice none 0 0, .slice none 0 0, .slice none 0 0] 34)).alloc (.cells #[.slice none 0 0, .slice none 0 0, .slice none 0 0] 34)) := (by repeat' (first | exact Below.refl _ _ | refine Below.alloc ?_ ?_ _ | refine Below.setCell ?_ ?_ _ | refine Below.drew ?_ | (apply below_step; assumption) | (simp; done) | (simp; omega) | omega))
  have hs1 : ((((w.alloc (.cells #[.slice D0 c.tasks.length e0, .slice D1 c.nodes.length e1, .slice D2 c.binds.length e2] 26)).alloc (.cells #[.slice none 0 0, .slice none 0 0, .slice none 0 0] 34)).alloc (.cells #[.slice none 0 0, .slice none 0 0, .slice none 0 0] 34))).heap.size = w.heap.size + 3 := by simp
  refine (toTaskS_o _ c.tasks _ (HC.out.below hX).1 L.out.1).mono ?_
  rintro e w1 ⟨b0, rfl, hr1, hn1, hl1, hb1⟩
  obtain ⟨B0, B1, B2⟩ := boxes3 _ _ _ _ _ _ _ hb1
  have hC1 := below_of hX hb1
  have hz1 := hb1.size
  rw [hs1] at hz1 hr1 hl1 ⊢
  have c1 := B0.cell 1
  have d0 := B2.cell 0
  have f2 := B2.frozen
  simp at c1 d0
  have HB0 := Lib.hid B0
  have HB1 := Lib.hid B1
  have HB2 := Lib.hid B2
  have HR1 := Lib.hid (And.intro hr1 (And.intro hn1 hl1))
  clear B0 B1 B2 hb1 hX hr1 hn1 hl1 hs1
  go_wp2_with fail
  have hC1' : Below w.heap.size w (w1.setCell ⟨w.heap.size + 1 + 1, 0, none⟩ (.slice (some ⟨w.heap.size + 3, 0, none⟩) c.tasks.length c.tasks.length)) := hC1.setCell (by dsimp only; omega) _
  refine (toNodeS_o _ c.nodes _ (HC.out.below hC1').2.1 L.out.2.1).mono ?_
  rintro e w2 ⟨b1, rfl, hr2, hn2, hl2, hb2⟩
  have hsz1 : (w1.setCell ⟨w.heap.size + 1 + 1, 0, none⟩ (.slice (some ⟨w.heap.size + 3, 0, none⟩) c.tasks.length c.tasks.length)).heap.size = w1.heap.size := by simp [World.setCell]
  have hC2 := below_of hC1' hb2
  have B0 := (HB0.out.far (p := ⟨w.heap.size + 1 + 1, 0, none⟩) (by dsimp only; omega) (.slice (some ⟨w.heap.size + 3, 0, none⟩) c.tasks.length c.tasks.length)).below hb2 (by rw [hsz1]; omega)
  have B1 := (HB1.out.far (p := ⟨w.heap.size + 1 + 1, 0, none⟩) (by dsimp only; omega) (.slice (some ⟨w.heap.size + 3, 0, none⟩) c.tasks.length c.tasks.length)).below hb2 (by rw [hsz1]; omega)
  have B2 := (HB2.out.put 0 (.slice (some ⟨w.heap.size + 3, 0, none⟩) c.tasks.length c.tasks.length)).below hb2 (by rw [hsz1]; omega)
  have hT1 : TurnB [w.heap.size + 1 + 1] w1 w2 := (TurnB.put (TurnB.refl _ _) (List.mem_singleton.2 rfl) _ _).step hb2
  have hz2 := hb2.size
  rw [hsz1] at hz2 hr2 hl2 ⊢
  have c2 := B0.cell 2
  have d1 := B2.cell 1
  have f2 := B2.frozen
  simp at c2 d1
  have HB1 := Lib.hid B1
  have HB2 := Lib.hid B2
  have HR2 := Lib.hid (And.intro hr2 (And.intro hn2 hl2))
  have HT1 := Lib.hid hT1
  clear B0 B1 B2 hb2 hr2 hn2 hl2 HB0 hC1 hC1' c1 d0 hsz1 hT1
  go_wp2_with fail
  have hC2' : Below w.heap.size w (w2.setCell ⟨w.heap.size + 1 + 1, 1, none⟩ (.slice (some ⟨w1.heap.size, 0, none⟩) c.nodes.length c.nodes.length)) := hC2.setCell (by dsimp only; omega) _
  refine (toBindS_o _ c.binds _ (HC.out.below hC2').2.2.1 L.out.2.2).mono ?_
  rintro e w3 ⟨b2, rfl, hr3, hn3, hl3, hb3⟩
  have hsz2 : (w2.setCell ⟨w.heap.size + 1 + 1, 1, none⟩ (.slice (some ⟨w1.heap.size, 0, none⟩) c.nodes.length c.nodes.length)).heap.size = w2.heap.size := by simp [World.setCell]
  have hC3 := below_of hC2' hb3
  have B1 := (HB1.out.far (p := ⟨w.heap.size + 1 + 1, 1, none⟩) (by dsimp only; omega) (.slice (some ⟨w1.heap.size, 0, none⟩) c.nodes.length c.nodes.length)).below hb3 (by rw [hsz2]; omega)
  have B2 := (HB2.out.put 1 (.slice (some ⟨w1.heap.size, 0, none⟩) c.nodes.length c.nodes.length)).below hb3 (by rw [hsz2]; omega)
  have hT2 : TurnB [w.heap.size + 1 + 1] w2 w3 := (TurnB.put (TurnB.refl _ _) (List.mem_singleton.2 rfl) _ _).step hb3
  have hz3 := hb3.size
  rw [hsz2] at hz3 hr3 hl3 ⊢
  have d0 := B2.cell 0
  have d1 := B2.cell 1
  have d2 := B2.cell 2
  have f2 := B2.frozen
  have x0 := B1.cell 0
  have x1 := B1.cell 1
  have x2 := B1.cell 2
  have f1 := B1.frozen
  simp at d0 d1 d2 x0 x1 x2
  have HB1 := Lib.hid B1
  have HR3 := Lib.hid (And.intro hr3 (And.intro hn3 hl3))
  have HT2 := Lib.hid hT2
  clear B1 B2 hb3 hr3 hn3 hl3 HB2 hC2 hC2' c2 hsz2 hT2
  go_wp2_with fail
  have hZ : BlockIs ((((w3.setCell ⟨w.heap.size + 1 + 1, 2, none⟩ (.slice (some ⟨w2.heap.size, 0, none⟩) c.binds.length c.binds.length)).setCell ⟨w.heap.size + 1, 0, none⟩ (.slice (some ⟨w.heap.size + 3, 0, none⟩) c.tasks.length c.tasks.length)).setCell ⟨w.heap.size + 1, 1, none⟩ (.slice (some ⟨w1.heap.size, 0, none⟩) c.nodes.length c.nodes.length)).setCell ⟨w.heap.size + 1, 2, none⟩ (.slice (some ⟨w2.heap.size, 0, none⟩) c.binds.length c.binds.length)) (w.heap.size + 1) 34 #[.slice (some ⟨w.heap.size + 3, 0, none⟩) c.tasks.length c.tasks.length, .slice (some ⟨w1.heap.size, 0, none⟩) c.nodes.length c.nodes.length, .slice (some ⟨w2.heap.size, 0, none⟩) c.binds.length c.binds.length] := by
    have := (((HB1.out.far (p := ⟨w.heap.size + 1 + 1, 2, none⟩) (by dsimp only; omega) (.slice (some ⟨w2.heap.size, 0, none⟩) c.binds.length c.binds.length)).put 0 (.slice (some ⟨w.heap.size + 3, 0, none⟩) c.tasks.length c.tasks.length)).put 1 (.slice (some ⟨w1.heap.size, 0, none⟩) c.nodes.length c.nodes.length)).put 2 (.slice (some ⟨w2.heap.size, 0, none⟩) c.binds.length c.binds.length)
    simpa using this
  have hT3 : TurnB [w.heap.size + 1, w.heap.size + 1 + 1] w3 ((((w3.setCell ⟨w.heap.size + 1 + 1, 2, none⟩ (.slice (some ⟨w2.heap.size, 0, none⟩) c.binds.length c.binds.length)).setCell ⟨w.heap.size + 1, 0, none⟩ (.slice (some ⟨w.heap.size + 3, 0, none⟩) c.tasks.length c.tasks.length)).setCell ⟨w.heap.size + 1, 1, none⟩ (.slice (some ⟨w1.heap.size, 0, none⟩) c.nodes.length c.nodes.length)).setCell ⟨w.heap.size + 1, 2, none⟩ (.slice (some ⟨w2.heap.size, 0, none⟩) c.binds.length c.binds.length)) :=
    TurnB.put (TurnB.put (TurnB.put (TurnB.put (TurnB.refl _ _) (by simp) _ _) (by simp) _ _) (by simp) _ _) (by simp) _ _
  have hB : Below w.heap.size w ((((w3.setCell ⟨w.heap.size + 1 + 1, 2, none⟩ (.slice (some ⟨w2.heap.size, 0, none⟩) c.binds.length c.binds.length)).setCell ⟨w.heap.size + 1, 0, none⟩ (.slice (some ⟨w.heap.size + 3, 0, none⟩) c.tasks.length c.tasks.length)).setCell ⟨w.heap.size + 1, 1, none⟩ (.slice (some ⟨w1.heap.size, 0, none⟩) c.nodes.length c.nodes.length)).setCell ⟨w.heap.size + 1, 2, none⟩ (.slice (some ⟨w2.heap.size, 0, none⟩) c.binds.length c.binds.length)) := hC3.trans (hT3.below hC3.size (by simp; omega))
  generalize ((((w3.setCell ⟨w.heap.size + 1 + 1, 2, none⟩ (.slice (some ⟨w2.heap.size, 0, none⟩) c.binds.length c.binds.length)).setCell ⟨w.heap.size + 1, 0, none⟩ (.slice (some ⟨w.heap.size + 3, 0, none⟩) c.tasks.length c.tasks.length)).setCell ⟨w.heap.size + 1, 1, none⟩ (.slice (some ⟨w1.heap.size, 0, none⟩) c.nodes.length c.nodes.length)).setCell ⟨w.heap.size + 1, 2, none⟩ (.slice (some ⟨w2.heap.size, 0, none⟩) c.binds.length c.binds.length)) = Y at hZ hT3 hB ⊢
  have z0 := hZ.cell 0
  have z1 := hZ.cell 1
  have z2 := hZ.cell 2
  simp at z0 z1 z2
  refine bodyPost_ret (v := .agg #[.slice (some ⟨w.heap.size + 3, 0, none⟩) c.tasks.length c.tasks.length, .slice (some ⟨w1.heap.size, 0, none⟩) c.nodes.length c.nodes.length, .slice (some ⟨w2.heap.size, 0, none⟩) c.binds.length c.binds.length]) (by simp [results, Tryz.results6, go_sem, z0, z1, z2]) rfl ⟨_, _, _, b0 ++ (b1 ++ b2), rfl, ⟨b0, b1, b2, ?_, ?_, ?_, rfl, ?_, L.out⟩, ?_, hB⟩
  all_goals
    obtain ⟨r1, n1, k1⟩ := HR1.out
    obtain ⟨r2, n2, k2⟩ := HR2.out
    obtain ⟨r3, n3, k3⟩ := HR3.out
    have t1 := rowO_lt (fun _ _ _ h => h.lt) r1
    have t2 := rowO_lt (fun _ _ _ h => h.lt) r2
    have t3 := rowO_lt (fun _ _ _ h => h.lt) r3
  · have q1 := r1.agree TaskO.framed (HT1.out.agree (fun b hb => ⟨t1 b hb, by have := k1 b hb; simp; omega⟩))
    have q2 := q1.agree TaskO.framed (HT2.out.agree (fun b hb => ⟨by have := t1 b hb; omega, by have := k1 b hb; simp; omega⟩))
    exact q2.agree TaskO.framed (hT3.agree (fun b hb => ⟨by have := t1 b hb; omega, by have := k1 b hb; simp; omega⟩))
  · have q2 := r2.agree NodeO.framed (HT2.out.agree (fun b hb => ⟨t2 b hb, by have := k2 b hb; simp; omega⟩))
    exact q2.agree NodeO.framed (hT3.agree (fun b hb => ⟨by have := t2 b hb; omega, by have := k2 b hb; simp; omega⟩))
  · exact r3.agree BindO.framed (hT3.agree (fun b hb => ⟨t3 b hb, by have := k3 b hb; simp; omega⟩))
  · rw [List.nodup_append, List.nodup_append]
    refine ⟨n1, ⟨n2, n3, fun a ha b hb e => by have := t2 a ha; have := k3 b hb; omega⟩, fun a ha b hb e => ?_⟩
    have := t1 a ha
    rcases List.mem_append.1 hb with hb | hb
    · have := k2 b hb; omega
    · have := k3 b hb; omega
  · intro b hb
    rcases List.mem_append.1 hb with hb | hb
    · have := k1 b hb; omega
    · rcases List.mem_append.1 hb with hb | hb
      · have := k2 b hb; omega
      · have := k3 b hb; omega
end Go.Proofs.YtkaecjjbammphaaGreatDoor

namespace Go.Proofs.YtkaecjjbammphaaGreatDoor
open Go.RowKit

theorem outOfRange_nil (w : World) (a : Addr) (hg : ErrAt a w) :
    Calls Tryz.prog 73 #[.nilIface] w fun e w' => e = .returned (.bool false) ∧ w = w' := by
  unfold ErrAt at hg
  go_enter Tryz.func73, Tryz.ntmps73
  go_wp2_with (go_at_call 77; refine (is_nil a _).mono ?_; rintro e w1 ⟨rfl, rfl⟩)
  go_ret
  exact ⟨rfl, rfl⟩
theorem outOfRange_bad (s : ByteArray) (w : World) (a : Addr) (hg : ErrAt a w) :
    Calls Tryz.prog 73 #[.iface 130 (.agg #[.string s, .iface 161 (.pointer (some a))])] w fun e w' => e = .returned (.bool true) ∧ Below w.heap.size w w' := by
  unfold ErrAt at hg
  go_enter Tryz.func73, Tryz.ntmps73
  go_wp2_with (go_at_call 77; refine (is_field s a _).mono ?_; rintro e w1 ⟨rfl, hb⟩)
  go_ret
  exact ⟨rfl, hb⟩

theorem checkBoth_yes (a b : RV) (w : World) (ha : a.ok = true) (hb : b.ok = true) :
    Calls Tryz.prog 74 #[.agg #[.int .i64 a.c, .int .i64 a.m, .int .i64 a.p], .agg #[.int .i64 b.c, .int .i64 b.m, .int .i64 b.p]] w fun e w' => e = .returned .nilIface ∧ Below w.heap.size w w' := by
  have HA := Lib.hid ha
  have HB := Lib.hid hb
  clear ha hb
  go_enter Tryz.func74, Tryz.ntmps74
  go_wp2_with fail
  refine (checkRes_yes a _ HA.out).mono ?_
  rintro e w1 ⟨rfl, hb1⟩
  have hz1 := hb1.size
  simp at hz1
  obtain ⟨hc1, hf1⟩ := bcell hb1
  go_wp2_with fail
  refine (checkRes_yes b _ HB.out).mono ?_
  rintro e w2 ⟨rfl, hb2⟩
  have hz2 := hb2.size
  go_wp2_with fail
  go_ret
  exact ⟨rfl, (by repeat' (first | exact Below.refl _ _ | refine Below.alloc ?_ ?_ _ | refine Below.setCell ?_ ?_ _ | refine Below.drew ?_ | (apply below_step; assumption) | (simp; done) | (simp; omega) | omega))⟩

theorem checkBoth_no1 (a b : RV) (w : World) (x : Addr) (hg : ErrAt x w) (ha : a.ok = false) :
    Calls Tryz.prog 74 #[.agg #[.int .i64 a.c, .int .i64 a.m, .int .i64 a.p], .agg #[.int .i64 b.c, .int .i64 b.m, .int .i64 b.p]] w (BadAt x w) := by
  have HA := Lib.hid ha
  clear ha
  go_enter Tryz.func74, Tryz.ntmps74
  go_wp2_with fail
  refine (checkRes_no a _ x ((hg.alloc _).alloc _) HA.out).mono ?_
  rintro e w1 ⟨s, rfl, hb1⟩
  have hz1 := hb1.size
  simp at hz1
  go_wp2_with fail
  go_ret
  exact ⟨_, rfl, (by repeat' (first | exact Below.refl _ _ | refine Below.alloc ?_ ?_ _ | refine Below.setCell ?_ ?_ _ | refine Below.drew ?_ | (apply below_step; assumption) | (simp; done) | (simp; omega) | omega))⟩

theorem checkBoth_no2 (a b : RV) (w : World) (x : Addr) (hg : ErrAt x w) (ha : a.ok = true) (hb : b.ok = false) :
    Calls Tryz.prog 74 #[.agg #[.int .i64 a.c, .int .i64 a.m, .int .i64 a.p], .agg #[.int .i64 b.c, .int .i64 b.m, .int .i64 b.p]] w (BadAt x w) := by
  have HA := Lib.hid ha
  have HB := Lib.hid hb
  clear ha hb
  go_enter Tryz.func74, Tryz.ntmps74
  go_wp2_with fail
  refine (checkRes_yes a _ HA.out).mono ?_
  rintro e w1 ⟨rfl, hb1⟩
  have hz1 := hb1.size
  simp at hz1
  obtain ⟨hc1, hf1⟩ := bcell hb1
  go_wp2_with fail
  refine (checkRes_no b _ x (((hg.alloc _).alloc _).below hb1 (Nat.le_refl _)) HB.out).mono ?_
  rintro e w2 ⟨s, rfl, hb2⟩
  have hz2 := hb2.size
  go_wp2_with fail
  go_ret
  exact ⟨_, rfl, (by repeat' (first | exact Below.refl _ _ | refine Below.alloc ?_ ?_ _ | refine Below.setCell ?_ ?_ _ | refine Below.drew ?_ | (apply below_step; assumption) | (simp; done) | (simp; omega) | omega))⟩
theorem keepValid_yes (r : RV) (w : World) (x : Addr) (hg : ErrAt x w) (h : r.ok = true) :
    Calls Tryz.prog 107 #[.agg #[.int .i64 r.c, .int .i64 r.m, .int .i64 r.p]] w fun e w' => e = .returned (.tuple #[.agg #[.int .i64 r.c, .int .i64 r.m, .int .i64 r.p], .bool true]) ∧ Below w.heap.size w w' := by
  have H := Lib.hid h
  clear h
  go_enter Tryz.func107, Tryz.ntmps107
  go_wp2_with fail
  refine (checkRes_yes r _ H.out).mono ?_
  rintro e w1 ⟨rfl, hb1⟩
  have hz1 := hb1.size
  simp at hz1
  obtain ⟨hc1, hf1⟩ := bcell hb1
  go_wp2_with fail
  refine (outOfRange_nil _ x (((hg.alloc _).alloc _).below hb1 (Nat.le_refl _))).mono ?_
  rintro e w2 ⟨rfl, rfl⟩
  go_wp2_with fail
  exact bodyPost_ret (v := .tuple #[.agg #[.int .i64 r.c, .int .i64 r.m, .int .i64 r.p], .bool true]) (by simp [results, Tryz.results107, go_sem, hc1]) rfl ⟨rfl, (by repeat' (first | exact Below.refl _ _ | refine Below.alloc ?_ ?_ _ | refine Below.setCell ?_ ?_ _ | refine Below.drew ?_ | (apply below_step; assumption) | (simp; done) | (simp; omega) | omega))⟩

theorem keepValid_no (r : RV) (w : World) (x : Addr) (hg : ErrAt x w) (h : r.ok = false) :
    Calls Tryz.prog 107 #[.agg #[.int .i64 r.c, .int .i64 r.m, .int .i64 r.p]] w fun e w' => e = .returned (.tuple #[.agg #[.int .i64 0, .int .i64 0, .int .i64 0], .bool false]) ∧ Below w.heap.size w w' := by
  have H := Lib.hid h
  clear h
  go_enter Tryz.func107, Tryz.ntmps107
  go_wp2_with fail
  refine (checkRes_no r _ x ((hg.alloc _).alloc _) H.out).mono ?_
  rintro e w1 ⟨s, rfl, hb1⟩
  have hz1 := hb1.size
  simp at hz1
  obtain ⟨hc1, hf1⟩ := bcell hb1
  go_wp2_with fail
  refine (outOfRange_bad s _ x (((hg.alloc _).alloc _).below hb1 (Nat.le_refl _))).mono ?_
  rintro e w2 ⟨rfl, hb2⟩
  have hz2 := hb2.size
  obtain ⟨hc2, hf2⟩ := bcell hb2
  have hs1 : w.heap.size + 1 < w1.heap.size := by omega
  go_wp2_with fail
  exact bodyPost_ret (v := .tuple #[.agg #[.int .i64 0, .int .i64 0, .int .i64 0], .bool false]) (by simp [results, Tryz.results107, go_sem, hc1, hc2, hs1]) rfl ⟨rfl, (by repeat' (first | exact Below.refl _ _ | refine Below.alloc ?_ ?_ _ | refine Below.setCell ?_ ?_ _ | refine Below.drew ?_ | (apply below_step; assumption) | (simp; done) | (simp; omega) | omega))⟩
end Go.Proofs.YtkaecjjbammphaaGreatDoor

namespace Go.Proofs.YtkaecjjbammphaaGreatDoor
open Go.RowKit

theorem keepValid_any (r : RV) (w : World) (x : Addr) (hg : ErrAt x w) : Calls Tryz.prog 107 #[.agg #[.int .i64 r.c, .int .i64 r.m, .int .i64 r.p]] w (RetR r.kept r.ok w) := by
  cases h : r.ok
  · rw [RV.kept_no h]; exact keepValid_no r w x hg h
  · rw [RV.kept_yes h]; exact keepValid_yes r w x hg h
theorem ResOk_any (r : RV) (w : World) (x : Addr) (hg : ErrAt x w) :
    Calls Tryz.prog 84 #[.agg #[.int .i64 r.c, .int .i64 r.m, .int .i64 r.p]] w fun e w' => e = .returned (.bool r.ok) ∧ Below w.heap.size w w' := by
  cases h : r.ok
  · have H := Lib.hid h
    clear h
    go_enter Tryz.func84, Tryz.ntmps84
    go_wp2_with fail
    refine (checkRes_no r _ x (hg.alloc _) H.out).mono ?_
    rintro e w1 ⟨s, rfl, hb1⟩
    have hz1 := hb1.size
    simp at hz1
    go_wp2_with fail
    refine (outOfRange_bad s _ x ((hg.alloc _).below hb1 (Nat.le_refl _))).mono ?_
    rintro e w2 ⟨rfl, hb2⟩
    have hz2 := hb2.size
    go_wp2_with fail
    go_ret
    exact ⟨rfl, (by repeat' (first | exact Below.refl _ _ | refine Below.alloc ?_ ?_ _ | refine Below.setCell ?_ ?_ _ | refine Below.drew ?_ | (apply below_step; assumption) | (simp; done) | (simp; omega) | omega))⟩
  · have H := Lib.hid h
    clear h
    go_enter Tryz.func84, Tryz.ntmps84
    go_wp2_with fail
    refine (checkRes_yes r _ H.out).mono ?_
    rintro e w1 ⟨rfl, hb1⟩
    have hz1 := hb1.size
    simp at hz1
    go_wp2_with fail
    refine (outOfRange_nil _ x ((hg.alloc _).below hb1 (Nat.le_refl _))).mono ?_
    rintro e w2 ⟨rfl, rfl⟩
    go_wp2_with fail
    go_ret
    exact ⟨rfl, (by repeat' (first | exact Below.refl _ _ | refine Below.alloc ?_ ?_ _ | refine Below.setCell ?_ ?_ _ | refine Below.drew ?_ | (apply below_step; assumption) | (simp; done) | (simp; omega) | omega))⟩

theorem ResAdd_in (a b : RV) (w : World) (x : Addr) (hg : ErrAt x w) (ha : a.ok = true) (hb : b.ok = true) :
    Calls Tryz.prog 94 #[.agg #[.int .i64 a.c, .int .i64 a.m, .int .i64 a.p], .agg #[.int .i64 b.c, .int .i64 b.m, .int .i64 b.p]] w (RetR (a.add b).kept (a.add b).ok w) := by
  have hA := RV.ok_iff.1 ha
  have hB := RV.ok_iff.1 hb
  have HA := Lib.hid ha
  have HB := Lib.hid hb
  clear ha hb
  obtain ⟨a1, a2, a3, a4, a5, a6⟩ := hA
  obtain ⟨b1, b2, b3, b4, b5, b6⟩ := hB
  go_enter Tryz.func94, Tryz.ntmps94
  go_wp2_with fail
  refine (checkBoth_yes a b _ HA.out HB.out).mono ?_
  rintro e w1 ⟨rfl, hb1⟩
  have hz1 := hb1.size
  simp at hz1
  obtain ⟨hc1, hf1⟩ := bcell hb1
  have hg1 := (((hg.alloc _).alloc _).alloc _).below hb1 (Nat.le_refl _)
  go_wp2_with fail
  refine (outOfRange_nil _ x hg1).mono ?_
  rintro e w2 ⟨rfl, rfl⟩
  go_wp2_with fail
  refine (keepValid_any ⟨a.c + b.c, a.m + b.m, a.p + b.p⟩ _ x hg1).mono ?_
  rintro e w2 ⟨rfl, hb2⟩
  have hz2 := hb2.size
  obtain ⟨hc2, hf2⟩ := bcell hb2
  have hs1 : w.heap.size + 1 + 1 < w1.heap.size := by omega
  go_wp2_with fail
  refine bodyPost_ret (v := .tuple #[.agg #[.int .i64 (a.add b).kept.c, .int .i64 (a.add b).kept.m, .int .i64 (a.add b).kept.p], .bool (a.add b).ok]) (by simp [results, Tryz.results94, go_sem, hc1, hc2, hs1]; exact ⟨⟨rfl, rfl, rfl⟩, rfl⟩) rfl ⟨rfl, (by repeat' (first | exact Below.refl _ _ | refine Below.alloc ?_ ?_ _ | refine Below.setCell ?_ ?_ _ | refine Below.drew ?_ | (apply below_step; assumption) | (simp; done) | (simp; omega) | omega))⟩

theorem ResAdd_out (a b : RV) (w : World) (x : Addr) (hg : ErrAt x w) (h : a.ok = false ∨ b.ok = false) :
    Calls Tryz.prog 94 #[.agg #[.int .i64 a.c, .int .i64 a.m, .int .i64 a.p], .agg #[.int .i64 b.c, .int .i64 b.m, .int .i64 b.p]] w (RetR RV.zero false w) := by
  have hcb : ∀ w, ErrAt x w → Calls Tryz.prog 74 #[.agg #[.int .i64 a.c, .int .i64 a.m, .int .i64 a.p], .agg #[.int .i64 b.c, .int .i64 b.m, .int .i64 b.p]] w (BadAt x w) := by
    intro w hg
    cases ha : a.ok
    · exact checkBoth_no1 a b w x hg ha
    · exact checkBoth_no2 a b w x hg ha (by rcases h with h | h; (rw [ha] at h; cases h); exact h)
  have HC := Lib.hid hcb
  clear hcb h
  go_enter Tryz.func94, Tryz.ntmps94
  go_wp2_with fail
  refine (HC.out _ (((hg.alloc _).alloc _).alloc _)).mono ?_
  rintro e w1 ⟨s, rfl, hb1⟩
  have hz1 := hb1.size
  simp at hz1
  obtain ⟨hc1, hf1⟩ := bcell hb1
  have hg1 := (((hg.alloc _).alloc _).alloc _).below hb1 (Nat.le_refl _)
  go_wp2_with fail
  refine (outOfRange_bad s _ x hg1).mono ?_
  rintro e w2 ⟨rfl, hb2⟩
  have hz2 := hb2.size
  obtain ⟨hc2, hf2⟩ := bcell hb2
  have hs1 : w.heap.size + 1 + 1 < w1.heap.size := by omega
  go_wp2_with fail
  refine bodyPost_ret (v := .tuple #[.agg #[.int .i64 RV.zero.c, .int .i64 RV.zero.m, .int .i64 RV.zero.p], .bool false]) (by simp [results, Tryz.results94, go_sem, hc1, hc2, hs1, RV.zero]) rfl ⟨rfl, (by repeat' (first | exact Below.refl _ _ | refine Below.alloc ?_ ?_ _ | refine Below.setCell ?_ ?_ _ | refine Below.drew ?_ | (apply below_step; assumption) | (simp; done) | (simp; omega) | omega))⟩

theorem ResAdd_any (a b : RV) (w : World) (x : Addr) (hg : ErrAt x w) : Calls Tryz.prog 94 #[.agg #[.int .i64 a.c, .int .i64 a.m, .int .i64 a.p], .agg #[.int .i64 b.c, .int .i64 b.m, .int .i64 b.p]] w (RetR (resAdd a b) (resAddOk a b) w) := by
  by_cases h : a.ok = true ∧ b.ok = true
  · rw [(resAdd_in h.1 h.2).1, (resAdd_in h.1 h.2).2]; exact ResAdd_in a b w x hg h.1 h.2
  · have h' : a.ok = false ∨ b.ok = false := by
      cases ha : a.ok
      · exact Or.inl rfl
      · cases hb : b.ok
        · exact Or.inr rfl
        · exact absurd ⟨ha, hb⟩ h
    rw [(resAdd_out h').1, (resAdd_out h').2]; exact ResAdd_out a b w x hg h'
theorem ResSub_in (a b : RV) (w : World) (x : Addr) (hg : ErrAt x w) (ha : a.ok = true) (hb : b.ok = true) :
    Calls Tryz.prog 92 #[.agg #[.int .i64 a.c, .int .i64 a.m, .int .i64 a.p], .agg #[.int .i64 b.c, .int .i64 b.m, .int .i64 b.p]] w (RetR (a.sub b).kept (a.sub b).ok w) := by
  have hA := RV.ok_iff.1 ha
  have hB := RV.ok_iff.1 hb
  have HA := Lib.hid ha
  have HB := Lib.hid hb
  clear ha hb
  obtain ⟨a1, a2, a3, a4, a5, a6⟩ := hA
  obtain ⟨b1, b2, b3, b4, b5, b6⟩ := hB
  go_enter Tryz.func92, Tryz.ntmps92
  go_wp2_with fail
  refine (checkBoth_yes a b _ HA.out HB.out).mono ?_
  rintro e w1 ⟨rfl, hb1⟩
  have hz1 := hb1.size
  simp at hz1
  obtain ⟨hc1, hf1⟩ := bcell hb1
  have hg1 := (((hg.alloc _).alloc _).alloc _).below hb1 (Nat.le_refl _)
  go_wp2_with fail
  refine (outOfRange_nil _ x hg1).mono ?_
  rintro e w2 ⟨rfl, rfl⟩
  go_wp2_with fail
  refine (keepValid_any ⟨a.c - b.c, a.m - b.m, a.p - b.p⟩ _ x hg1).mono ?_
  rintro e w2 ⟨rfl, hb2⟩
  have hz2 := hb2.size
  obtain ⟨hc2, hf2⟩ := bcell hb2
  have hs1 : w.heap.size + 1 + 1 < w1.heap.size := by omega
  go_wp2_with fail
  refine bodyPost_ret (v := .tuple #[.agg #[.int .i64 (a.sub b).kept.c, .int .i64 (a.sub b).kept.m, .int .i64 (a.sub b).kept.p], .bool (a.sub b).ok]) (by simp [results, Tryz.results92, go_sem, hc1, hc2, hs1]; exact ⟨⟨rfl, rfl, rfl⟩, rfl⟩) rfl ⟨rfl, (by repeat' (first | exact Below.refl _ _ | refine Below.alloc ?_ ?_ _ | refine Below.setCell ?_ ?_ _ | refine Below.drew ?_ | (apply below_step; assumption) | (simp; done) | (simp; omega) | omega))⟩

theorem ResSub_out (a b : RV) (w : World) (x : Addr) (hg : ErrAt x w) (h : a.ok = false ∨ b.ok = false) :
    Calls Tryz.prog 92 #[.agg #[.int .i64 a.c, .int .i64 a.m, .int .i64 a.p], .agg #[.int .i64 b.c, .int .i64 b.m, .int .i64 b.p]] w (RetR RV.zero false w) := by
  have hcb : ∀ w, ErrAt x w → Calls Tryz.prog 74 #[.agg #[.int .i64 a.c, .int .i64 a.m, .int .i64 a.p], .agg #[.int .i64 b.c, .int .i64 b.m, .int .i64 b.p]] w (BadAt x w) := by
    intro w hg
    cases ha : a.ok
    · exact checkBoth_no1 a b w x hg ha
    · exact checkBoth_no2 a b w x hg ha (by rcases h with h | h; (rw [ha] at h; cases h); exact h)
  have HC := Lib.hid hcb
  clear hcb h
  go_enter Tryz.func92, Tryz.ntmps92
  go_wp2_with fail
  refine (HC.out _ (((hg.alloc _).alloc _).alloc _)).mono ?_
  rintro e w1 ⟨s, rfl, hb1⟩
  have hz1 := hb1.size
  simp at hz1
  obtain ⟨hc1, hf1⟩ := bcell hb1
  have hg1 := (((hg.alloc _).alloc _).alloc _).below hb1 (Nat.le_refl _)
  go_wp2_with fail
  refine (outOfRange_bad s _ x hg1).mono ?_
  rintro e w2 ⟨rfl, hb2⟩
  have hz2 := hb2.size
  obtain ⟨hc2, hf2⟩ := bcell hb2
  have hs1 : w.heap.size + 1 + 1 < w1.heap.size := by omega
  go_wp2_with fail
  refine bodyPost_ret (v := .tuple #[.agg #[.int .i64 RV.zero.c, .int .i64 RV.zero.m, .int .i64 RV.zero.p], .bool false]) (by simp [results, Tryz.results92, go_sem, hc1, hc2, hs1, RV.zero]) rfl ⟨rfl, (by repeat' (first | exact Below.refl _ _ | refine Below.alloc ?_ ?_ _ | refine Below.setCell ?_ ?_ _ | refine Below.drew ?_ | (apply below_step; assumption) | (simp; done) | (simp; omega) | omega))⟩

theorem ResSub_any (a b : RV) (w : World) (x : Addr) (hg : ErrAt x w) : Calls Tryz.prog 92 #[.agg #[.int .i64 a.c, .int .i64 a.m, .int .i64 a.p], .agg #[.int .i64 b.c, .int .i64 b.m, .int .i64 b.p]] w (RetR (resSub a b) (resSubOk a b) w) := by
  by_cases h : a.ok = true ∧ b.ok = true
  · rw [(resSub_in h.1 h.2).1, (resSub_in h.1 h.2).2]; exact ResSub_in a b w x hg h.1 h.2
  · have h' : a.ok = false ∨ b.ok = false := by
      cases ha : a.ok
      · exact Or.inl rfl
      · cases hb : b.ok
        · exact Or.inr rfl
        · exact absurd ⟨ha, hb⟩ h
    rw [(resSub_out h').1, (resSub_out h').2]; exact ResSub_out a b w x hg h'
end Go.Proofs.YtkaecjjbammphaaGreatDoor

namespace Go.Proofs.YtkaecjjbammphaaGreatDoor
open Go.RowKit

def Owns (w : World) (base : Nat) (v : Value) (l : List LV) : Prop := w.ownsRow base 123 2 v l.length (labL l)
theorem labL_append (a b : List LV) : labL (a ++ b) = labL a ++ labL b := by simp [labL]
section
variable {w w' : World} {base : Nat} {v : Value} {l : List LV}
theorem Owns.alloc (h : Owns w base v l) (o : Obj) : Owns (w.alloc o) base v l := World.ownsRow.alloc h o
theorem Owns.drewN (h : Owns w base v l) (n : Nat) : Owns (w.drewN n) base v l := h
theorem Owns.lower {b : Nat} (h : Owns w base v l) (hb : b ≤ base) : Owns w b v l := by
  obtain ⟨h1, h2⟩ := h
  refine ⟨h1, ?_⟩
  rcases h2 with h | ⟨g, cap, cur, hv, hg, h⟩
  · exact .inl h
  · exact .inr ⟨g, cap, cur, hv, Nat.le_trans hb hg, h⟩
theorem Owns.nil (w : World) (base : Nat) : Owns w base (.slice none 0 0) [] := World.ownsRow_nil w base _ _
theorem Owns.below {B : Nat} (h : Owns w base v l) (hb : Below B w w') (hB : w.heap.size ≤ B) : Owns w' base v l := by
  obtain ⟨h1, h2⟩ := h
  refine ⟨h1, ?_⟩
  rcases h2 with h | ⟨g, cap, cur, hv, hg, hh, h⟩
  · exact .inl h
  · have hlt : g < w.heap.size := (Array.getElem?_eq_some_iff.1 hh).1
    exact .inr ⟨g, cap, cur, hv, hg, (hb.block g (by omega)).trans hh, h⟩
theorem Owns.form (h : Owns w base v l) : (v = .slice none 0 0 ∧ l = []) ∨ ∃ g cap cur, v = .slice (some ⟨g, 0, none⟩) l.length cap ∧ base ≤ g ∧ BlockIs w g 123 cur ∧ cur.size = cap * 2 ∧ l.length ≤ cap ∧ ∀ (j : Nat) (u : Value), (labL l)[j]? = some u → cur[j]? = some u := by
  obtain ⟨h1, h2⟩ := h
  rcases h2 with ⟨hv, hn⟩ | ⟨g, cap, cur, hv, hg, hh, hnc, _, hs, ht⟩
  · exact .inl ⟨hv, List.eq_nil_of_length_eq_zero hn⟩
  · refine .inr ⟨g, cap, cur, hv, hg, hh, hs, hnc, fun j u hu => ?_⟩
    rw [← ht] at hu
    have hj : j < l.length * 2 := by
      have := (List.getElem?_eq_some_iff.1 hu).1
      rw [List.length_take] at this; omega
    rw [List.getElem?_take_of_lt hj] at hu
    simpa using hu
theorem Owns.sl (h : Owns w base v l) : LabSl w v l := by
  rcases h.form with ⟨rfl, rfl⟩ | ⟨g, cap, cur, rfl, _, hb, _, _, hc⟩
  · exact .inl ⟨rfl, _, _, rfl⟩
  · exact .inr ⟨g, 0, cap, rfl, hb.lt, LabAt.of_block hb hc⟩
theorem Owns.len (h : Owns w base v l) : ∃ A c, v = .slice A l.length c := by
  rcases h.form with ⟨rfl, rfl⟩ | ⟨g, cap, cur, rfl, _⟩
  · exact ⟨_, _, rfl⟩
  · exact ⟨_, _, rfl⟩
end

theorem wpList_append_lab {ops : Array Oper} {rest : List Oper} {o : Oper} {a : Act} {Q : Exit → Act → World → Prop} (w : World) (hgd : o.guard = none) (s x : Operand)
    (ho : o.op = .call { callee := .builtin .append, args := #[s, x], argTypes := #[49, 49] })
    (base : Nat) (v : Value) (l : List LV) (r : LV) (g : Nat) (hs : a.eval s = v) (hown : Owns w base v l) (hx : a.eval x = .slice (some ⟨g, 0, none⟩) 1 1)
    (h0 : w.cell? ⟨g, 0, none⟩ = some (.int .i64 r.k)) (h1 : w.cell? ⟨g, 1, none⟩ = some (.int .i64 r.v)) (hl : l.length ≤ 100000) (hbase : base ≤ w.heap.size)
    (h : ∀ v' w', Owns w' base v' (l ++ [r]) → Below base w w' → wpList Tryz.prog ops Q rest (a.put o.dst v') w') : wpList Tryz.prog ops Q (o :: rest) a w := by
  obtain ⟨i0, hi0, hz0, hz1, hz2⟩ := info_parts Tryz.infoLab
  refine wpList_append_own w hgd s x 49 ho base 123 i0 _ 2 16 Tryz.underlying49 hi0 hz0 hz1 hz2 rfl (by omega) v l.length (labL l) hs hown ⟨g, 0, none⟩ 1 1 [.int .i64 r.k, .int .i64 r.v] hx rfl ?_ ?_ (by simp only [maxLen]; omega) (by omega) hbase ?_
  · intro j u hj
    match j, hj with
    | 0, hj => simp at hj; subst hj; simpa [Addr.add] using h0
    | 1, hj => simp at hj; subst hj; simpa [Addr.add] using h1
  · intro u hu
    simp at hu
    rcases hu with rfl | rfl <;> rfl
  · intro v' w' hown' hgrow _
    refine h v' w' ?_ ((Below.refl _ _).grown hgrow hbase (fun k hk => (World.ownsRow.lt hown k hk).1))
    unfold Owns
    rw [labL_append, List.length_append]
    exact hown'

end Go.Proofs.YtkaecjjbammphaaGreatDoor
