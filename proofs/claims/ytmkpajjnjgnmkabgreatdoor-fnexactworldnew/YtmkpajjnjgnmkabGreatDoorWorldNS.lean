/- The contract of the model's WorldNew. (mkworldns.py) -/
import Derived.Test.YtmkpajjnjgnmkabGreatDoorMg06
import Derived.Test.YtmkpajjnjgnmkabGreatDoorMg07
import Derived.Test.YtmkpajjnjgnmkabGreatDoorWorldS2
namespace Go.Proofs.YtmkpajjnjgnmkabGreatDoor
open Go.RowKit

section
variable {P : Program} {ops : Array Oper} {Q : Exit → Act → World → Prop} {md : Region.Mode} {S : World → Prop}
theorem hTwoW {ia ib : Nat} {oa ob : Oper} {fuel : Nat} {listed : Array Bool} {a : Act} {w : World} (h1 : ops[ia]? = some oa) (h2 : ops[ib]? = some ob) (hr : Region.ready md ops listed = [ia, ib])
    (w1 : Region.wanted oa (yielded ops a.tmps) = true) (w2 : Region.wanted ob (yielded ops a.tmps) = true)
    (b1 : ∀ K' : Act → World → Prop, Shut (∀ a w, S w → (S w → wpAnyH P md ops Q S fuel (listed.setIfInBounds ia true) a w) → K' a w) → Oper.wp P oa a w K' Q)
    (b2 : ∀ K' : Act → World → Prop, Shut (∀ a w, S w → (S w → wpAnyH P md ops Q S fuel (listed.setIfInBounds ib true) a w) → K' a w) → Oper.wp P ob a w K' Q) : wpAnyH P md ops Q S (fuel + 1) listed a w :=
  wpAnyH_ready hr (by simp) (AllReadyH.cons h1 (fun K' hK => by rw [if_pos w1]; exact b1 K' hK) (AllReadyH.cons h2 (fun K' hK => by rw [if_pos w2]; exact b2 K' hK) AllReadyH.nil))
theorem hThreeW {ia ib ic : Nat} {oa ob oc : Oper} {fuel : Nat} {listed : Array Bool} {a : Act} {w : World} (h1 : ops[ia]? = some oa) (h2 : ops[ib]? = some ob) (h3 : ops[ic]? = some oc) (hr : Region.ready md ops listed = [ia, ib, ic])
    (w1 : Region.wanted oa (yielded ops a.tmps) = true) (w2 : Region.wanted ob (yielded ops a.tmps) = true) (w3 : Region.wanted oc (yielded ops a.tmps) = true)
    (b1 : ∀ K' : Act → World → Prop, Shut (∀ a w, S w → (S w → wpAnyH P md ops Q S fuel (listed.setIfInBounds ia true) a w) → K' a w) → Oper.wp P oa a w K' Q)
    (b2 : ∀ K' : Act → World → Prop, Shut (∀ a w, S w → (S w → wpAnyH P md ops Q S fuel (listed.setIfInBounds ib true) a w) → K' a w) → Oper.wp P ob a w K' Q)
    (b3 : ∀ K' : Act → World → Prop, Shut (∀ a w, S w → (S w → wpAnyH P md ops Q S fuel (listed.setIfInBounds ic true) a w) → K' a w) → Oper.wp P oc a w K' Q) : wpAnyH P md ops Q S (fuel + 1) listed a w :=
  wpAnyH_ready hr (by simp) (AllReadyH.cons h1 (fun K' hK => by rw [if_pos w1]; exact b1 K' hK) (AllReadyH.cons h2 (fun K' hK => by rw [if_pos w2]; exact b2 K' hK) (AllReadyH.cons h3 (fun K' hK => by rw [if_pos w3]; exact b3 K' hK) AllReadyH.nil)))
end
def NewAt (X : World) (l : List PV) (kind limit span : Int) (s : Value) (wx : World) : Prop := ∃ g ge P pc bp, s = .pointer (some ⟨g, 0, none⟩) ∧ X.heap.size ≤ g ∧ X.heap.size ≤ ge ∧ ge ≠ g ∧ BlockIs wx g 39 #[.int .i64 0, .int .i64 span, .int .i64 kind, .int .i64 limit, .int .i64 1, .int .i64 0, .int .i64 0, .int .i64 0, .slice (some ⟨ge, 0, none⟩) 4 4, .slice P l.length pc, .slice none 0 0, .slice none 0 0, .slice none 0 0, .slice none 0 0, .slice none 0 0, .int .i64 0, .slice none 0 0, .slice none 0 0] ∧ BlockIs wx ge 3 #[.int .i64 0, .int .i64 0, .int .i64 0, .int .i64 0] ∧
  RowO PoolO 63 12 wx (.slice P l.length pc) l bp ∧ bp.Nodup ∧ (∀ b ∈ bp, X.heap.size ≤ b ∧ b ≠ g ∧ b ≠ ge) ∧ Below X.heap.size X wx
set_option maxRecDepth 20000 in
set_option maxHeartbeats 12800000 in
theorem sWorldNew_any (v : Value) (l : List PV) (kind limit span : Int) (w : World) (hv : PoolSl w v l) (hl : l.length ≤ 1048576) :
    Calls Tryz.prog 5 #[v, .int .i64 kind, .int .i64 limit, .int .i64 span] w (RetWldB w (if worldOk (worldNew l kind limit span) then worldNew l kind limit span else WV.zero) (worldOk (worldNew l kind limit span))) := by
  have HV := Lib.hid hv
  obtain ⟨A, c, rfl, _⟩ := hv.form
  have hmk : ∀ w : World, (Instr.makeSlice 26 (.int .i64 4) (.int .i64 4)).run Tryz.prog w = .ok (.slice (some ⟨w.heap.size, 0, none⟩) 4 4) (w.alloc (.cells #[.int .i64 0, .int .i64 0, .int .i64 0, .int .i64 0] 3)) := fun w => by
    have h := make_int 4 (by omega) w
    rw [show madeCells #[Value.int .i64 0] 4 = #[.int .i64 0, .int .i64 0, .int .i64 0, .int .i64 0] from by kernel_rfl] at h
    exact h
  generalize hok : worldOk (worldNew l kind limit span) = ok
  have HOK := Lib.hid hok
  generalize ht : (if ok = true then worldNew l kind limit span else WV.zero) = t'
  have HT := Lib.hid ht
  clear hv hok ht
  go_enter Tryz.func5, Tryz.ntmps5
  go_upto_region 1 with fail
  have hX1 : Below w.heap.size w (w.alloc (.cells #[.int .i64 0, .int .i64 0, .int .i64 0, .int .i64 0, .int .i64 0, .int .i64 0, .int .i64 0, .int .i64 0, .slice none 0 0, .slice none 0 0, .slice none 0 0, .slice none 0 0, .slice none 0 0, .slice none 0 0, .slice none 0 0, .int .i64 0, .slice none 0 0, .slice none 0 0] 39)) := (by repeat' (first | exact Below.refl _ _ | refine Below.alloc ?_ ?_ _ | refine Below.setCell ?_ ?_ _ | refine Below.drew ?_ | (apply below_step; assumption) | (simp; done) | (simp; omega) | omega))
  have HR1 := Lib.hid (BlockIs.new w 39 #[.int .i64 0, .int .i64 0, .int .i64 0, .int .i64 0, .int .i64 0, .int .i64 0, .int .i64 0, .int .i64 0, .slice none 0 0, .slice none 0 0, .slice none 0 0, .slice none 0 0, .slice none 0 0, .slice none 0 0, .slice none 0 0, .int .i64 0, .slice none 0 0, .slice none 0 0])
  generalize hw1 : w.alloc (.cells #[.int .i64 0, .int .i64 0, .int .i64 0, .int .i64 0, .int .i64 0, .int .i64 0, .int .i64 0, .int .i64 0, .slice none 0 0, .slice none 0 0, .slice none 0 0, .slice none 0 0, .slice none 0 0, .slice none 0 0, .slice none 0 0, .int .i64 0, .slice none 0 0, .slice none 0 0] 39) = X at hX1 HR1 ⊢
  have hR := HR1.out.lt
  clear hw1
  go_cut [10] (fun s10 wx => NewAt X l kind limit span s10 wx)
  case first =>
    refine wp_region_held_drew (S := (fun w' => Below X.heap.size X w')) (by kernel_rfl) (by (try dsimp only); exact (by repeat' (first | exact Below.refl _ _ | refine Below.alloc ?_ ?_ _ | refine Below.setCell ?_ ?_ _ | refine Below.drew ?_ | (apply below_step; assumption) | (simp; done) | (simp; omega) | omega))) (fun hHeld => ?_)
    refine hT 0 ?_; simp only [Act.put, rhA, rhS, rhT]
    refine hT 1 ?_; simp only [Act.put, rhA, rhS, rhT]
    refine hT 2 ?_; simp only [Act.put, rhA, rhS, rhT]
    refine hT 4 ?_; simp only [Act.put, rhA, rhS, rhT]
    have hC : Below X.heap.size X X.drew := (by repeat' (first | exact Below.refl _ _ | refine Below.alloc ?_ ?_ _ | refine Below.setCell ?_ ?_ _ | refine Below.drew ?_ | (apply below_step; assumption) | (simp; done) | (simp; omega) | omega))
    generalize X.drew = x0 at hC hHeld ⊢
    refine hThreeW (ia := 3) (oa := ?oa1) (ib := 5) (ob := ?ob1) (ic := 7) (oc := ?oc1) ?ha1 ?hb1 ?hc1 (by kernel_rfl) ?wa1 ?wb1 ?wc1 (fun K hK => ?ca1) (fun K hK => ?cb1) (fun K hK => ?cc1)
    case ha1 => simp only [rhN, rhM]; try rfl
    case wa1 => rfl
    case hb1 => simp only [rhN, rhM]; try rfl
    case wb1 => rfl
    case hc1 => simp only [rhN, rhM]; try rfl
    case wc1 => rfl
    case ca1 =>
      go_simp
      have hbn : Below x0.heap.size x0 (x0.alloc (.cells #[.int .i64 0, .int .i64 0, .int .i64 0, .int .i64 0] 3)) := (by repeat' (first | exact Below.refl _ _ | refine Below.alloc ?_ ?_ _ | refine Below.setCell ?_ ?_ _ | refine Below.drew ?_ | (apply below_step; assumption) | (simp; done) | (simp; omega) | omega))
      have hEB := BlockIs.new x0 3 #[.int .i64 0, .int .i64 0, .int .i64 0, .int .i64 0]
      generalize (x0.alloc (.cells #[.int .i64 0, .int .i64 0, .int .i64 0, .int .i64 0] 3)) = x1 at hbn hEB ⊢
      generalize hn : x0.heap.size = ge at hEB ⊢
      have hEl := hEB.lt
      refine hK.out _ _ (by (try dsimp only); exact below_of hC hbn) (fun hHeld => ?_)
      clear hK K
      try simp only [Act.put, rhA, rhS, rhT]
      have hXe : X.heap.size ≤ ge := by have := hC.size; omega
      have hC := below_of hC hbn
      clear hbn hn
      refine hTwoW (ia := 5) (oa := ?oa2) (ib := 7) (ob := ?ob2) ?ha2 ?hb2 (by kernel_rfl) ?wa2 ?wb2 (fun K hK => ?ca2) (fun K hK => ?cb2)
      case ha2 => simp only [rhN, rhM]; try rfl
      case wa2 => rfl
      case hb2 => simp only [rhN, rhM]; try rfl
      case wb2 => rfl
      case ca2 =>
        go_simp
        go_at_call 14
        refine (l08Pools_any _ l w x1 (below_of hX1 hC) HV.out hl).mono ?_
        rintro e x2 ⟨vP, bp, rfl, hRow, hnd, hlo, hbn⟩
        obtain ⟨P, pc, rfl⟩ : ∃ P pc, vP = .slice P l.length pc := by obtain ⟨xs, b, h1, _⟩ := hRow; obtain ⟨F, f, e, _⟩ := own_form h1; exact ⟨F, f, e⟩
        refine hK.out _ _ (by (try dsimp only); exact below_of hC hbn) (fun hHeld => ?_)
        clear hK K
        try simp only [Act.put, rhA, rhS, rhT]
        have hplt := rowO_lt (fun _ _ _ h => h.lt) hRow
        have dPE : ∀ b ∈ bp, b ≠ ge := fun b hb => by have := hlo b hb; omega
        have hloP : ∀ b ∈ bp, X.heap.size ≤ b := fun b hb => by have := hlo b hb; have := hC.size; omega
        clear hlo
        have hEB := hEB.below hbn hEB.lt
        have hEl := hEB.lt
        have hC := below_of hC hbn
        clear hbn
        refine hT 6 ?_; simp only [Act.put, rhA, rhS, rhT]
        refine hCall (i := 7) (o := ?oa3) ?ha3 (by kernel_rfl) ?wa3 (fun K hK => ?ca3)
        case ha3 => simp only [rhN, rhM]; try rfl
        case wa3 => rfl
        go_simp
        have hbn : Below x2.heap.size x2 (x2.alloc (.cells #[.int .i64 0, .int .i64 0, .int .i64 0, .int .i64 0, .int .i64 0, .int .i64 0, .int .i64 0, .int .i64 0, .slice none 0 0, .slice none 0 0, .slice none 0 0, .slice none 0 0, .slice none 0 0, .slice none 0 0, .slice none 0 0, .int .i64 0, .slice none 0 0, .slice none 0 0] 39)) := (by repeat' (first | exact Below.refl _ _ | refine Below.alloc ?_ ?_ _ | refine Below.setCell ?_ ?_ _ | refine Below.drew ?_ | (apply below_step; assumption) | (simp; done) | (simp; omega) | omega))
        have hGB := BlockIs.new x2 39 #[.int .i64 0, .int .i64 0, .int .i64 0, .int .i64 0, .int .i64 0, .int .i64 0, .int .i64 0, .int .i64 0, .slice none 0 0, .slice none 0 0, .slice none 0 0, .slice none 0 0, .slice none 0 0, .slice none 0 0, .slice none 0 0, .int .i64 0, .slice none 0 0, .slice none 0 0]
        generalize (x2.alloc (.cells #[.int .i64 0, .int .i64 0, .int .i64 0, .int .i64 0, .int .i64 0, .int .i64 0, .int .i64 0, .int .i64 0, .slice none 0 0, .slice none 0 0, .slice none 0 0, .slice none 0 0, .slice none 0 0, .slice none 0 0, .slice none 0 0, .int .i64 0, .slice none 0 0, .slice none 0 0] 39)) = x3 at hbn hGB ⊢
        generalize hn : x2.heap.size = g at hGB ⊢
        have hGl := hGB.lt
        refine hK.out _ _ (by (try dsimp only); exact below_of hC hbn) (fun hHeld => ?_)
        clear hK K
        try simp only [Act.put, rhA, rhS, rhT]
        have dGE : ge ≠ g := by omega
        have dPG : ∀ b ∈ bp, b ≠ g := fun b hb => by have := hplt b hb; omega
        have hXg : X.heap.size ≤ g := by have := hC.size; omega
        have hEB := hEB.below hbn hEB.lt
        have hEl := hEB.lt
        have hRow := hRow.agree PoolO.framed (Agree.of_below hbn hplt)
        have hplt := rowO_lt (fun _ _ _ h => h.lt) hRow
        have hC := below_of hC hbn
        clear hbn hn
        have T : TurnB [g] x3 (x3.setRow g #[.int .i64 0, .int .i64 span, .int .i64 kind, .int .i64 limit, .int .i64 1, .int .i64 0, .int .i64 0, .int .i64 0, .slice (some ⟨ge, 0, none⟩) 4 4, .slice P l.length pc, .slice none 0 0, .slice none 0 0, .slice none 0 0, .slice none 0 0, .slice none 0 0, .int .i64 0, .slice none 0 0, .slice none 0 0]) := TurnB.setRow (TurnB.refl _ _) (by simp) _
        have hF : BlockIs (x3.setRow g #[.int .i64 0, .int .i64 span, .int .i64 kind, .int .i64 limit, .int .i64 1, .int .i64 0, .int .i64 0, .int .i64 0, .slice (some ⟨ge, 0, none⟩) 4 4, .slice P l.length pc, .slice none 0 0, .slice none 0 0, .slice none 0 0, .slice none 0 0, .slice none 0 0, .int .i64 0, .slice none 0 0, .slice none 0 0]) g 39 #[.int .i64 0, .int .i64 span, .int .i64 kind, .int .i64 limit, .int .i64 1, .int .i64 0, .int .i64 0, .int .i64 0, .slice (some ⟨ge, 0, none⟩) 4 4, .slice P l.length pc, .slice none 0 0, .slice none 0 0, .slice none 0 0, .slice none 0 0, .slice none 0 0, .int .i64 0, .slice none 0 0, .slice none 0 0] := setRow_heap _ _ _ _ _ _ hGB
        have hE2 := hEB.turn T (by simpa using dGE)
        have hR2 := hRow.agree PoolO.framed (T.agree (fun b hb => ⟨hplt b hb, by simpa using dPG b hb⟩))
        have hB2 : Below X.heap.size X (x3.setRow g #[.int .i64 0, .int .i64 span, .int .i64 kind, .int .i64 limit, .int .i64 1, .int .i64 0, .int .i64 0, .int .i64 0, .slice (some ⟨ge, 0, none⟩) 4 4, .slice P l.length pc, .slice none 0 0, .slice none 0 0, .slice none 0 0, .slice none 0 0, .slice none 0 0, .int .i64 0, .slice none 0 0, .slice none 0 0]) := hC.trans (T.below (B := X.heap.size) hC.size (by simpa using hXg))
        have HF := Lib.hid (And.intro hF (And.intro hE2 (And.intro hR2 hB2)))
        clear T hF hE2 hR2 hB2
        refine hCall (i := 8) (o := ?a11) ?b11 (by kernel_rfl) ?c11 (fun K hK => ?d11)
        case b11 => simp only [rhN, rhM]; try rfl
        case c11 => rfl
        refine wp_store_row 39 _ _ rfl g _ rfl rfl 39 _ hGB (by kernel_rfl) rfl (by simp [Value.oneCell']) ?_
        refine hK.out _ _ (by (try dsimp only); first | exact HF.out.2.2.2 | exact hC) (fun hHeld => ?_)
        clear hK K
        try simp only [Act.put, rhA, rhS, rhT]
        refine wpAnyH_done (by kernel_rfl) ?_ _
        go_wp2_with fail
        go_meet
        exact ⟨g, ge, P, pc, bp, rfl, hXg, hXe, dGE, HF.out.1, HF.out.2.1, HF.out.2.2.1, hnd, fun b hb => ⟨hloP b hb, dPG b hb, dPE b hb⟩, HF.out.2.2.2⟩
      case cb2 =>
        go_simp
        have hbn : Below x1.heap.size x1 (x1.alloc (.cells #[.int .i64 0, .int .i64 0, .int .i64 0, .int .i64 0, .int .i64 0, .int .i64 0, .int .i64 0, .int .i64 0, .slice none 0 0, .slice none 0 0, .slice none 0 0, .slice none 0 0, .slice none 0 0, .slice none 0 0, .slice none 0 0, .int .i64 0, .slice none 0 0, .slice none 0 0] 39)) := (by repeat' (first | exact Below.refl _ _ | refine Below.alloc ?_ ?_ _ | refine Below.setCell ?_ ?_ _ | refine Below.drew ?_ | (apply below_step; assumption) | (simp; done) | (simp; omega) | omega))
        have hGB := BlockIs.new x1 39 #[.int .i64 0, .int .i64 0, .int .i64 0, .int .i64 0, .int .i64 0, .int .i64 0, .int .i64 0, .int .i64 0, .slice none 0 0, .slice none 0 0, .slice none 0 0, .slice none 0 0, .slice none 0 0, .slice none 0 0, .slice none 0 0, .int .i64 0, .slice none 0 0, .slice none 0 0]
        generalize (x1.alloc (.cells #[.int .i64 0, .int .i64 0, .int .i64 0, .int .i64 0, .int .i64 0, .int .i64 0, .int .i64 0, .int .i64 0, .slice none 0 0, .slice none 0 0, .slice none 0 0, .slice none 0 0, .slice none 0 0, .slice none 0 0, .slice none 0 0, .int .i64 0, .slice none 0 0, .slice none 0 0] 39)) = x2 at hbn hGB ⊢
        generalize hn : x1.heap.size = g at hGB ⊢
        have hGl := hGB.lt
        refine hK.out _ _ (by (try dsimp only); exact below_of hC hbn) (fun hHeld => ?_)
        clear hK K
        try simp only [Act.put, rhA, rhS, rhT]
        have dGE : ge ≠ g := by omega
        have hXg : X.heap.size ≤ g := by have := hC.size; omega
        have hEB := hEB.below hbn hEB.lt
        have hEl := hEB.lt
        have hC := below_of hC hbn
        clear hbn hn
        refine hCall (i := 5) (o := ?oa4) ?ha4 (by kernel_rfl) ?wa4 (fun K hK => ?ca4)
        case ha4 => simp only [rhN, rhM]; try rfl
        case wa4 => rfl
        go_simp
        go_at_call 14
        refine (l08Pools_any _ l w x2 (below_of hX1 hC) HV.out hl).mono ?_
        rintro e x3 ⟨vP, bp, rfl, hRow, hnd, hlo, hbn⟩
        obtain ⟨P, pc, rfl⟩ : ∃ P pc, vP = .slice P l.length pc := by obtain ⟨xs, b, h1, _⟩ := hRow; obtain ⟨F, f, e, _⟩ := own_form h1; exact ⟨F, f, e⟩
        refine hK.out _ _ (by (try dsimp only); exact below_of hC hbn) (fun hHeld => ?_)
        clear hK K
        try simp only [Act.put, rhA, rhS, rhT]
        have hplt := rowO_lt (fun _ _ _ h => h.lt) hRow
        have dPE : ∀ b ∈ bp, b ≠ ge := fun b hb => by have := hlo b hb; omega
        have dPG : ∀ b ∈ bp, b ≠ g := fun b hb => by have := hlo b hb; omega
        have hloP : ∀ b ∈ bp, X.heap.size ≤ b := fun b hb => by have := hlo b hb; have := hC.size; omega
        clear hlo
        have hEB := hEB.below hbn hEB.lt
        have hEl := hEB.lt
        have hGB := hGB.below hbn hGB.lt
        have hGl := hGB.lt
        have hC := below_of hC hbn
        clear hbn
        have T : TurnB [g] x3 (x3.setRow g #[.int .i64 0, .int .i64 span, .int .i64 kind, .int .i64 limit, .int .i64 1, .int .i64 0, .int .i64 0, .int .i64 0, .slice (some ⟨ge, 0, none⟩) 4 4, .slice P l.length pc, .slice none 0 0, .slice none 0 0, .slice none 0 0, .slice none 0 0, .slice none 0 0, .int .i64 0, .slice none 0 0, .slice none 0 0]) := TurnB.setRow (TurnB.refl _ _) (by simp) _
        have hF : BlockIs (x3.setRow g #[.int .i64 0, .int .i64 span, .int .i64 kind, .int .i64 limit, .int .i64 1, .int .i64 0, .int .i64 0, .int .i64 0, .slice (some ⟨ge, 0, none⟩) 4 4, .slice P l.length pc, .slice none 0 0, .slice none 0 0, .slice none 0 0, .slice none 0 0, .slice none 0 0, .int .i64 0, .slice none 0 0, .slice none 0 0]) g 39 #[.int .i64 0, .int .i64 span, .int .i64 kind, .int .i64 limit, .int .i64 1, .int .i64 0, .int .i64 0, .int .i64 0, .slice (some ⟨ge, 0, none⟩) 4 4, .slice P l.length pc, .slice none 0 0, .slice none 0 0, .slice none 0 0, .slice none 0 0, .slice none 0 0, .int .i64 0, .slice none 0 0, .slice none 0 0] := setRow_heap _ _ _ _ _ _ hGB
        have hE2 := hEB.turn T (by simpa using dGE)
        have hR2 := hRow.agree PoolO.framed (T.agree (fun b hb => ⟨hplt b hb, by simpa using dPG b hb⟩))
        have hB2 : Below X.heap.size X (x3.setRow g #[.int .i64 0, .int .i64 span, .int .i64 kind, .int .i64 limit, .int .i64 1, .int .i64 0, .int .i64 0, .int .i64 0, .slice (some ⟨ge, 0, none⟩) 4 4, .slice P l.length pc, .slice none 0 0, .slice none 0 0, .slice none 0 0, .slice none 0 0, .slice none 0 0, .int .i64 0, .slice none 0 0, .slice none 0 0]) := hC.trans (T.below (B := X.heap.size) hC.size (by simpa using hXg))
        have HF := Lib.hid (And.intro hF (And.intro hE2 (And.intro hR2 hB2)))
        clear T hF hE2 hR2 hB2
        refine hT 6 ?_; simp only [Act.put, rhA, rhS, rhT]
        refine hCall (i := 8) (o := ?a14) ?b14 (by kernel_rfl) ?c14 (fun K hK => ?d14)
        case b14 => simp only [rhN, rhM]; try rfl
        case c14 => rfl
        refine wp_store_row 39 _ _ rfl g _ rfl rfl 39 _ hGB (by kernel_rfl) rfl (by simp [Value.oneCell']) ?_
        refine hK.out _ _ (by (try dsimp only); first | exact HF.out.2.2.2 | exact hC) (fun hHeld => ?_)
        clear hK K
        try simp only [Act.put, rhA, rhS, rhT]
        refine wpAnyH_done (by kernel_rfl) ?_ _
        go_wp2_with fail
        go_meet
        exact ⟨g, ge, P, pc, bp, rfl, hXg, hXe, dGE, HF.out.1, HF.out.2.1, HF.out.2.2.1, hnd, fun b hb => ⟨hloP b hb, dPG b hb, dPE b hb⟩, HF.out.2.2.2⟩
    case cb1 =>
      go_simp
      go_at_call 14
      refine (l08Pools_any _ l w x0 (below_of hX1 hC) HV.out hl).mono ?_
      rintro e x1 ⟨vP, bp, rfl, hRow, hnd, hlo, hbn⟩
      obtain ⟨P, pc, rfl⟩ : ∃ P pc, vP = .slice P l.length pc := by obtain ⟨xs, b, h1, _⟩ := hRow; obtain ⟨F, f, e, _⟩ := own_form h1; exact ⟨F, f, e⟩
      refine hK.out _ _ (by (try dsimp only); exact below_of hC hbn) (fun hHeld => ?_)
      clear hK K
      try simp only [Act.put, rhA, rhS, rhT]
      have hplt := rowO_lt (fun _ _ _ h => h.lt) hRow
      have hloP : ∀ b ∈ bp, X.heap.size ≤ b := fun b hb => by have := hlo b hb; have := hC.size; omega
      clear hlo
      have hC := below_of hC hbn
      clear hbn
      refine hTwoW (ia := 3) (oa := ?oa5) (ib := 7) (ob := ?ob5) ?ha5 ?hb5 (by kernel_rfl) ?wa5 ?wb5 (fun K hK => ?ca5) (fun K hK => ?cb5)
      case ha5 => simp only [rhN, rhM]; try rfl
      case wa5 => rfl
      case hb5 => simp only [rhN, rhM]; try rfl
      case wb5 => rfl
      case ca5 =>
        go_simp
        have hbn : Below x1.heap.size x1 (x1.alloc (.cells #[.int .i64 0, .int .i64 0, .int .i64 0, .int .i64 0] 3)) := (by repeat' (first | exact Below.refl _ _ | refine Below.alloc ?_ ?_ _ | refine Below.setCell ?_ ?_ _ | refine Below.drew ?_ | (apply below_step; assumption) | (simp; done) | (simp; omega) | omega))
        have hEB := BlockIs.new x1 3 #[.int .i64 0, .int .i64 0, .int .i64 0, .int .i64 0]
        generalize (x1.alloc (.cells #[.int .i64 0, .int .i64 0, .int .i64 0, .int .i64 0] 3)) = x2 at hbn hEB ⊢
        generalize hn : x1.heap.size = ge at hEB ⊢
        have hEl := hEB.lt
        refine hK.out _ _ (by (try dsimp only); exact below_of hC hbn) (fun hHeld => ?_)
        clear hK K
        try simp only [Act.put, rhA, rhS, rhT]
        have dPE : ∀ b ∈ bp, b ≠ ge := fun b hb => by have := hplt b hb; omega
        have hXe : X.heap.size ≤ ge := by have := hC.size; omega
        have hRow := hRow.agree PoolO.framed (Agree.of_below hbn hplt)
        have hplt := rowO_lt (fun _ _ _ h => h.lt) hRow
        have hC := below_of hC hbn
        clear hbn hn
        refine hT 6 ?_; simp only [Act.put, rhA, rhS, rhT]
        refine hCall (i := 7) (o := ?oa6) ?ha6 (by kernel_rfl) ?wa6 (fun K hK => ?ca6)
        case ha6 => simp only [rhN, rhM]; try rfl
        case wa6 => rfl
        go_simp
        have hbn : Below x2.heap.size x2 (x2.alloc (.cells #[.int .i64 0, .int .i64 0, .int .i64 0, .int .i64 0, .int .i64 0, .int .i64 0, .int .i64 0, .int .i64 0, .slice none 0 0, .slice none 0 0, .slice none 0 0, .slice none 0 0, .slice none 0 0, .slice none 0 0, .slice none 0 0, .int .i64 0, .slice none 0 0, .slice none 0 0] 39)) := (by repeat' (first | exact Below.refl _ _ | refine Below.alloc ?_ ?_ _ | refine Below.setCell ?_ ?_ _ | refine Below.drew ?_ | (apply below_step; assumption) | (simp; done) | (simp; omega) | omega))
        have hGB := BlockIs.new x2 39 #[.int .i64 0, .int .i64 0, .int .i64 0, .int .i64 0, .int .i64 0, .int .i64 0, .int .i64 0, .int .i64 0, .slice none 0 0, .slice none 0 0, .slice none 0 0, .slice none 0 0, .slice none 0 0, .slice none 0 0, .slice none 0 0, .int .i64 0, .slice none 0 0, .slice none 0 0]
        generalize (x2.alloc (.cells #[.int .i64 0, .int .i64 0, .int .i64 0, .int .i64 0, .int .i64 0, .int .i64 0, .int .i64 0, .int .i64 0, .slice none 0 0, .slice none 0 0, .slice none 0 0, .slice none 0 0, .slice none 0 0, .slice none 0 0, .slice none 0 0, .int .i64 0, .slice none 0 0, .slice none 0 0] 39)) = x3 at hbn hGB ⊢
        generalize hn : x2.heap.size = g at hGB ⊢
        have hGl := hGB.lt
        refine hK.out _ _ (by (try dsimp only); exact below_of hC hbn) (fun hHeld => ?_)
        clear hK K
        try simp only [Act.put, rhA, rhS, rhT]
        have dGE : ge ≠ g := by omega
        have dPG : ∀ b ∈ bp, b ≠ g := fun b hb => by have := hplt b hb; omega
        have hXg : X.heap.size ≤ g := by have := hC.size; omega
        have hRow := hRow.agree PoolO.framed (Agree.of_below hbn hplt)
        have hplt := rowO_lt (fun _ _ _ h => h.lt) hRow
        have hEB := hEB.below hbn hEB.lt
        have hEl := hEB.lt
        have hC := below_of hC hbn
        clear hbn hn
        have T : TurnB [g] x3 (x3.setRow g #[.int .i64 0, .int .i64 span, .int .i64 kind, .int .i64 limit, .int .i64 1, .int .i64 0, .int .i64 0, .int .i64 0, .slice (some ⟨ge, 0, none⟩) 4 4, .slice P l.length pc, .slice none 0 0, .slice none 0 0, .slice none 0 0, .slice none 0 0, .slice none 0 0, .int .i64 0, .slice none 0 0, .slice none 0 0]) := TurnB.setRow (TurnB.refl _ _) (by simp) _
        have hF : BlockIs (x3.setRow g #[.int .i64 0, .int .i64 span, .int .i64 kind, .int .i64 limit, .int .i64 1, .int .i64 0, .int .i64 0, .int .i64 0, .slice (some ⟨ge, 0, none⟩) 4 4, .slice P l.length pc, .slice none 0 0, .slice none 0 0, .slice none 0 0, .slice none 0 0, .slice none 0 0, .int .i64 0, .slice none 0 0, .slice none 0 0]) g 39 #[.int .i64 0, .int .i64 span, .int .i64 kind, .int .i64 limit, .int .i64 1, .int .i64 0, .int .i64 0, .int .i64 0, .slice (some ⟨ge, 0, none⟩) 4 4, .slice P l.length pc, .slice none 0 0, .slice none 0 0, .slice none 0 0, .slice none 0 0, .slice none 0 0, .int .i64 0, .slice none 0 0, .slice none 0 0] := setRow_heap _ _ _ _ _ _ hGB
        have hE2 := hEB.turn T (by simpa using dGE)
        have hR2 := hRow.agree PoolO.framed (T.agree (fun b hb => ⟨hplt b hb, by simpa using dPG b hb⟩))
        have hB2 : Below X.heap.size X (x3.setRow g #[.int .i64 0, .int .i64 span, .int .i64 kind, .int .i64 limit, .int .i64 1, .int .i64 0, .int .i64 0, .int .i64 0, .slice (some ⟨ge, 0, none⟩) 4 4, .slice P l.length pc, .slice none 0 0, .slice none 0 0, .slice none 0 0, .slice none 0 0, .slice none 0 0, .int .i64 0, .slice none 0 0, .slice none 0 0]) := hC.trans (T.below (B := X.heap.size) hC.size (by simpa using hXg))
        have HF := Lib.hid (And.intro hF (And.intro hE2 (And.intro hR2 hB2)))
        clear T hF hE2 hR2 hB2
        refine hCall (i := 8) (o := ?a17) ?b17 (by kernel_rfl) ?c17 (fun K hK => ?d17)
        case b17 => simp only [rhN, rhM]; try rfl
        case c17 => rfl
        refine wp_store_row 39 _ _ rfl g _ rfl rfl 39 _ hGB (by kernel_rfl) rfl (by simp [Value.oneCell']) ?_
        refine hK.out _ _ (by (try dsimp only); first | exact HF.out.2.2.2 | exact hC) (fun hHeld => ?_)
        clear hK K
        try simp only [Act.put, rhA, rhS, rhT]
        refine wpAnyH_done (by kernel_rfl) ?_ _
        go_wp2_with fail
        go_meet
        exact ⟨g, ge, P, pc, bp, rfl, hXg, hXe, dGE, HF.out.1, HF.out.2.1, HF.out.2.2.1, hnd, fun b hb => ⟨hloP b hb, dPG b hb, dPE b hb⟩, HF.out.2.2.2⟩
      case cb5 =>
        go_simp
        have hbn : Below x1.heap.size x1 (x1.alloc (.cells #[.int .i64 0, .int .i64 0, .int .i64 0, .int .i64 0, .int .i64 0, .int .i64 0, .int .i64 0, .int .i64 0, .slice none 0 0, .slice none 0 0, .slice none 0 0, .slice none 0 0, .slice none 0 0, .slice none 0 0, .slice none 0 0, .int .i64 0, .slice none 0 0, .slice none 0 0] 39)) := (by repeat' (first | exact Below.refl _ _ | refine Below.alloc ?_ ?_ _ | refine Below.setCell ?_ ?_ _ | refine Below.drew ?_ | (apply below_step; assumption) | (simp; done) | (simp; omega) | omega))
        have hGB := BlockIs.new x1 39 #[.int .i64 0, .int .i64 0, .int .i64 0, .int .i64 0, .int .i64 0, .int .i64 0, .int .i64 0, .int .i64 0, .slice none 0 0, .slice none 0 0, .slice none 0 0, .slice none 0 0, .slice none 0 0, .slice none 0 0, .slice none 0 0, .int .i64 0, .slice none 0 0, .slice none 0 0]
        generalize (x1.alloc (.cells #[.int .i64 0, .int .i64 0, .int .i64 0, .int .i64 0, .int .i64 0, .int .i64 0, .int .i64 0, .int .i64 0, .slice none 0 0, .slice none 0 0, .slice none 0 0, .slice none 0 0, .slice none 0 0, .slice none 0 0, .slice none 0 0, .int .i64 0, .slice none 0 0, .slice none 0 0] 39)) = x2 at hbn hGB ⊢
        generalize hn : x1.heap.size = g at hGB ⊢
        have hGl := hGB.lt
        refine hK.out _ _ (by (try dsimp only); exact below_of hC hbn) (fun hHeld => ?_)
        clear hK K
        try simp only [Act.put, rhA, rhS, rhT]
        have dPG : ∀ b ∈ bp, b ≠ g := fun b hb => by have := hplt b hb; omega
        have hXg : X.heap.size ≤ g := by have := hC.size; omega
        have hRow := hRow.agree PoolO.framed (Agree.of_below hbn hplt)
        have hplt := rowO_lt (fun _ _ _ h => h.lt) hRow
        have hC := below_of hC hbn
        clear hbn hn
        refine hCall (i := 3) (o := ?oa7) ?ha7 (by kernel_rfl) ?wa7 (fun K hK => ?ca7)
        case ha7 => simp only [rhN, rhM]; try rfl
        case wa7 => rfl
        go_simp
        have hbn : Below x2.heap.size x2 (x2.alloc (.cells #[.int .i64 0, .int .i64 0, .int .i64 0, .int .i64 0] 3)) := (by repeat' (first | exact Below.refl _ _ | refine Below.alloc ?_ ?_ _ | refine Below.setCell ?_ ?_ _ | refine Below.drew ?_ | (apply below_step; assumption) | (simp; done) | (simp; omega) | omega))
        have hEB := BlockIs.new x2 3 #[.int .i64 0, .int .i64 0, .int .i64 0, .int .i64 0]
        generalize (x2.alloc (.cells #[.int .i64 0, .int .i64 0, .int .i64 0, .int .i64 0] 3)) = x3 at hbn hEB ⊢
        generalize hn : x2.heap.size = ge at hEB ⊢
        have hEl := hEB.lt
        refine hK.out _ _ (by (try dsimp only); exact below_of hC hbn) (fun hHeld => ?_)
        clear hK K
        try simp only [Act.put, rhA, rhS, rhT]
        have dGE : ge ≠ g := by omega
        have dPE : ∀ b ∈ bp, b ≠ ge := fun b hb => by have := hplt b hb; omega
        have hXe : X.heap.size ≤ ge := by have := hC.size; omega
        have hRow := hRow.agree PoolO.framed (Agree.of_below hbn hplt)
        have hplt := rowO_lt (fun _ _ _ h => h.lt) hRow
        have hGB := hGB.below hbn hGB.lt
        have hGl := hGB.lt
        have hC := below_of hC hbn
        clear hbn hn
        have T : TurnB [g] x3 (x3.setRow g #[.int .i64 0, .int .i64 span, .int .i64 kind, .int .i64 limit, .int .i64 1, .int .i64 0, .int .i64 0, .int .i64 0, .slice (some ⟨ge, 0, none⟩) 4 4, .slice P l.length pc, .slice none 0 0, .slice none 0 0, .slice none 0 0, .slice none 0 0, .slice none 0 0, .int .i64 0, .slice none 0 0, .slice none 0 0]) := TurnB.setRow (TurnB.refl _ _) (by simp) _
        have hF : BlockIs (x3.setRow g #[.int .i64 0, .int .i64 span, .int .i64 kind, .int .i64 limit, .int .i64 1, .int .i64 0, .int .i64 0, .int .i64 0, .slice (some ⟨ge, 0, none⟩) 4 4, .slice P l.length pc, .slice none 0 0, .slice none 0 0, .slice none 0 0, .slice none 0 0, .slice none 0 0, .int .i64 0, .slice none 0 0, .slice none 0 0]) g 39 #[.int .i64 0, .int .i64 span, .int .i64 kind, .int .i64 limit, .int .i64 1, .int .i64 0, .int .i64 0, .int .i64 0, .slice (some ⟨ge, 0, none⟩) 4 4, .slice P l.length pc, .slice none 0 0, .slice none 0 0, .slice none 0 0, .slice none 0 0, .slice none 0 0, .int .i64 0, .slice none 0 0, .slice none 0 0] := setRow_heap _ _ _ _ _ _ hGB
        have hE2 := hEB.turn T (by simpa using dGE)
        have hR2 := hRow.agree PoolO.framed (T.agree (fun b hb => ⟨hplt b hb, by simpa using dPG b hb⟩))
        have hB2 : Below X.heap.size X (x3.setRow g #[.int .i64 0, .int .i64 span, .int .i64 kind, .int .i64 limit, .int .i64 1, .int .i64 0, .int .i64 0, .int .i64 0, .slice (some ⟨ge, 0, none⟩) 4 4, .slice P l.length pc, .slice none 0 0, .slice none 0 0, .slice none 0 0, .slice none 0 0, .slice none 0 0, .int .i64 0, .slice none 0 0, .slice none 0 0]) := hC.trans (T.below (B := X.heap.size) hC.size (by simpa using hXg))
        have HF := Lib.hid (And.intro hF (And.intro hE2 (And.intro hR2 hB2)))
        clear T hF hE2 hR2 hB2
        refine hT 6 ?_; simp only [Act.put, rhA, rhS, rhT]
        refine hCall (i := 8) (o := ?a20) ?b20 (by kernel_rfl) ?c20 (fun K hK => ?d20)
        case b20 => simp only [rhN, rhM]; try rfl
        case c20 => rfl
        refine wp_store_row 39 _ _ rfl g _ rfl rfl 39 _ hGB (by kernel_rfl) rfl (by simp [Value.oneCell']) ?_
        refine hK.out _ _ (by (try dsimp only); first | exact HF.out.2.2.2 | exact hC) (fun hHeld => ?_)
        clear hK K
        try simp only [Act.put, rhA, rhS, rhT]
        refine wpAnyH_done (by kernel_rfl) ?_ _
        go_wp2_with fail
        go_meet
        exact ⟨g, ge, P, pc, bp, rfl, hXg, hXe, dGE, HF.out.1, HF.out.2.1, HF.out.2.2.1, hnd, fun b hb => ⟨hloP b hb, dPG b hb, dPE b hb⟩, HF.out.2.2.2⟩
    case cc1 =>
      go_simp
      have hbn : Below x0.heap.size x0 (x0.alloc (.cells #[.int .i64 0, .int .i64 0, .int .i64 0, .int .i64 0, .int .i64 0, .int .i64 0, .int .i64 0, .int .i64 0, .slice none 0 0, .slice none 0 0, .slice none 0 0, .slice none 0 0, .slice none 0 0, .slice none 0 0, .slice none 0 0, .int .i64 0, .slice none 0 0, .slice none 0 0] 39)) := (by repeat' (first | exact Below.refl _ _ | refine Below.alloc ?_ ?_ _ | refine Below.setCell ?_ ?_ _ | refine Below.drew ?_ | (apply below_step; assumption) | (simp; done) | (simp; omega) | omega))
      have hGB := BlockIs.new x0 39 #[.int .i64 0, .int .i64 0, .int .i64 0, .int .i64 0, .int .i64 0, .int .i64 0, .int .i64 0, .int .i64 0, .slice none 0 0, .slice none 0 0, .slice none 0 0, .slice none 0 0, .slice none 0 0, .slice none 0 0, .slice none 0 0, .int .i64 0, .slice none 0 0, .slice none 0 0]
      generalize (x0.alloc (.cells #[.int .i64 0, .int .i64 0, .int .i64 0, .int .i64 0, .int .i64 0, .int .i64 0, .int .i64 0, .int .i64 0, .slice none 0 0, .slice none 0 0, .slice none 0 0, .slice none 0 0, .slice none 0 0, .slice none 0 0, .slice none 0 0, .int .i64 0, .slice none 0 0, .slice none 0 0] 39)) = x1 at hbn hGB ⊢
      generalize hn : x0.heap.size = g at hGB ⊢
      have hGl := hGB.lt
      refine hK.out _ _ (by (try dsimp only); exact below_of hC hbn) (fun hHeld => ?_)
      clear hK K
      try simp only [Act.put, rhA, rhS, rhT]
      have hXg : X.heap.size ≤ g := by have := hC.size; omega
      have hC := below_of hC hbn
      clear hbn hn
      refine hTwoW (ia := 3) (oa := ?oa8) (ib := 5) (ob := ?ob8) ?ha8 ?hb8 (by kernel_rfl) ?wa8 ?wb8 (fun K hK => ?ca8) (fun K hK => ?cb8)
      case ha8 => simp only [rhN, rhM]; try rfl
      case wa8 => rfl
      case hb8 => simp only [rhN, rhM]; try rfl
      case wb8 => rfl
      case ca8 =>
        go_simp
        have hbn : Below x1.heap.size x1 (x1.alloc (.cells #[.int .i64 0, .int .i64 0, .int .i64 0, .int .i64 0] 3)) := (by repeat' (first | exact Below.refl _ _ | refine Below.alloc ?_ ?_ _ | refine Below.setCell ?_ ?_ _ | refine Below.drew ?_ | (apply below_step; assumption) | (simp; done) | (simp; omega) | omega))
        have hEB := BlockIs.new x1 3 #[.int .i64 0, .int .i64 0, .int .i64 0, .int .i64 0]
        generalize (x1.alloc (.cells #[.int .i64 0, .int .i64 0, .int .i64 0, .int .i64 0] 3)) = x2 at hbn hEB ⊢
        generalize hn : x1.heap.size = ge at hEB ⊢
        have hEl := hEB.lt
        refine hK.out _ _ (by (try dsimp only); exact below_of hC hbn) (fun hHeld => ?_)
        clear hK K
        try simp only [Act.put, rhA, rhS, rhT]
        have dGE : ge ≠ g := by omega
        have hXe : X.heap.size ≤ ge := by have := hC.size; omega
        have hGB := hGB.below hbn hGB.lt
        have hGl := hGB.lt
        have hC := below_of hC hbn
        clear hbn hn
        refine hCall (i := 5) (o := ?oa9) ?ha9 (by kernel_rfl) ?wa9 (fun K hK => ?ca9)
        case ha9 => simp only [rhN, rhM]; try rfl
        case wa9 => rfl
        go_simp
        go_at_call 14
        refine (l08Pools_any _ l w x2 (below_of hX1 hC) HV.out hl).mono ?_
        rintro e x3 ⟨vP, bp, rfl, hRow, hnd, hlo, hbn⟩
        obtain ⟨P, pc, rfl⟩ : ∃ P pc, vP = .slice P l.length pc := by obtain ⟨xs, b, h1, _⟩ := hRow; obtain ⟨F, f, e, _⟩ := own_form h1; exact ⟨F, f, e⟩
        refine hK.out _ _ (by (try dsimp only); exact below_of hC hbn) (fun hHeld => ?_)
        clear hK K
        try simp only [Act.put, rhA, rhS, rhT]
        have hplt := rowO_lt (fun _ _ _ h => h.lt) hRow
        have dPE : ∀ b ∈ bp, b ≠ ge := fun b hb => by have := hlo b hb; omega
        have dPG : ∀ b ∈ bp, b ≠ g := fun b hb => by have := hlo b hb; omega
        have hloP : ∀ b ∈ bp, X.heap.size ≤ b := fun b hb => by have := hlo b hb; have := hC.size; omega
        clear hlo
        have hGB := hGB.below hbn hGB.lt
        have hGl := hGB.lt
        have hEB := hEB.below hbn hEB.lt
        have hEl := hEB.lt
        have hC := below_of hC hbn
        clear hbn
        have T : TurnB [g] x3 (x3.setRow g #[.int .i64 0, .int .i64 span, .int .i64 kind, .int .i64 limit, .int .i64 1, .int .i64 0, .int .i64 0, .int .i64 0, .slice (some ⟨ge, 0, none⟩) 4 4, .slice P l.length pc, .slice none 0 0, .slice none 0 0, .slice none 0 0, .slice none 0 0, .slice none 0 0, .int .i64 0, .slice none 0 0, .slice none 0 0]) := TurnB.setRow (TurnB.refl _ _) (by simp) _
        have hF : BlockIs (x3.setRow g #[.int .i64 0, .int .i64 span, .int .i64 kind, .int .i64 limit, .int .i64 1, .int .i64 0, .int .i64 0, .int .i64 0, .slice (some ⟨ge, 0, none⟩) 4 4, .slice P l.length pc, .slice none 0 0, .slice none 0 0, .slice none 0 0, .slice none 0 0, .slice none 0 0, .int .i64 0, .slice none 0 0, .slice none 0 0]) g 39 #[.int .i64 0, .int .i64 span, .int .i64 kind, .int .i64 limit, .int .i64 1, .int .i64 0, .int .i64 0, .int .i64 0, .slice (some ⟨ge, 0, none⟩) 4 4, .slice P l.length pc, .slice none 0 0, .slice none 0 0, .slice none 0 0, .slice none 0 0, .slice none 0 0, .int .i64 0, .slice none 0 0, .slice none 0 0] := setRow_heap _ _ _ _ _ _ hGB
        have hE2 := hEB.turn T (by simpa using dGE)
        have hR2 := hRow.agree PoolO.framed (T.agree (fun b hb => ⟨hplt b hb, by simpa using dPG b hb⟩))
        have hB2 : Below X.heap.size X (x3.setRow g #[.int .i64 0, .int .i64 span, .int .i64 kind, .int .i64 limit, .int .i64 1, .int .i64 0, .int .i64 0, .int .i64 0, .slice (some ⟨ge, 0, none⟩) 4 4, .slice P l.length pc, .slice none 0 0, .slice none 0 0, .slice none 0 0, .slice none 0 0, .slice none 0 0, .int .i64 0, .slice none 0 0, .slice none 0 0]) := hC.trans (T.below (B := X.heap.size) hC.size (by simpa using hXg))
        have HF := Lib.hid (And.intro hF (And.intro hE2 (And.intro hR2 hB2)))
        clear T hF hE2 hR2 hB2
        refine hT 6 ?_; simp only [Act.put, rhA, rhS, rhT]
        refine hCall (i := 8) (o := ?a23) ?b23 (by kernel_rfl) ?c23 (fun K hK => ?d23)
        case b23 => simp only [rhN, rhM]; try rfl
        case c23 => rfl
        refine wp_store_row 39 _ _ rfl g _ rfl rfl 39 _ hGB (by kernel_rfl) rfl (by simp [Value.oneCell']) ?_
        refine hK.out _ _ (by (try dsimp only); first | exact HF.out.2.2.2 | exact hC) (fun hHeld => ?_)
        clear hK K
        try simp only [Act.put, rhA, rhS, rhT]
        refine wpAnyH_done (by kernel_rfl) ?_ _
        go_wp2_with fail
        go_meet
        exact ⟨g, ge, P, pc, bp, rfl, hXg, hXe, dGE, HF.out.1, HF.out.2.1, HF.out.2.2.1, hnd, fun b hb => ⟨hloP b hb, dPG b hb, dPE b hb⟩, HF.out.2.2.2⟩
      case cb8 =>
        go_simp
        go_at_call 14
        refine (l08Pools_any _ l w x1 (below_of hX1 hC) HV.out hl).mono ?_
        rintro e x2 ⟨vP, bp, rfl, hRow, hnd, hlo, hbn⟩
        obtain ⟨P, pc, rfl⟩ : ∃ P pc, vP = .slice P l.length pc := by obtain ⟨xs, b, h1, _⟩ := hRow; obtain ⟨F, f, e, _⟩ := own_form h1; exact ⟨F, f, e⟩
        refine hK.out _ _ (by (try dsimp only); exact below_of hC hbn) (fun hHeld => ?_)
        clear hK K
        try simp only [Act.put, rhA, rhS, rhT]
        have hplt := rowO_lt (fun _ _ _ h => h.lt) hRow
        have dPG : ∀ b ∈ bp, b ≠ g := fun b hb => by have := hlo b hb; omega
        have hloP : ∀ b ∈ bp, X.heap.size ≤ b := fun b hb => by have := hlo b hb; have := hC.size; omega
        clear hlo
        have hGB := hGB.below hbn hGB.lt
        have hGl := hGB.lt
        have hC := below_of hC hbn
        clear hbn
        refine hCall (i := 3) (o := ?oa10) ?ha10 (by kernel_rfl) ?wa10 (fun K hK => ?ca10)
        case ha10 => simp only [rhN, rhM]; try rfl
        case wa10 => rfl
        go_simp
        have hbn : Below x2.heap.size x2 (x2.alloc (.cells #[.int .i64 0, .int .i64 0, .int .i64 0, .int .i64 0] 3)) := (by repeat' (first | exact Below.refl _ _ | refine Below.alloc ?_ ?_ _ | refine Below.setCell ?_ ?_ _ | refine Below.drew ?_ | (apply below_step; assumption) | (simp; done) | (simp; omega) | omega))
        have hEB := BlockIs.new x2 3 #[.int .i64 0, .int .i64 0, .int .i64 0, .int .i64 0]
        generalize (x2.alloc (.cells #[.int .i64 0, .int .i64 0, .int .i64 0, .int .i64 0] 3)) = x3 at hbn hEB ⊢
        generalize hn : x2.heap.size = ge at hEB ⊢
        have hEl := hEB.lt
        refine hK.out _ _ (by (try dsimp only); exact below_of hC hbn) (fun hHeld => ?_)
        clear hK K
        try simp only [Act.put, rhA, rhS, rhT]
        have dGE : ge ≠ g := by omega
        have dPE : ∀ b ∈ bp, b ≠ ge := fun b hb => by have := hplt b hb; omega
        have hXe : X.heap.size ≤ ge := by have := hC.size; omega
        have hGB := hGB.below hbn hGB.lt
        have hGl := hGB.lt
        have hRow := hRow.agree PoolO.framed (Agree.of_below hbn hplt)
        have hplt := rowO_lt (fun _ _ _ h => h.lt) hRow
        have hC := below_of hC hbn
        clear hbn hn
        have T : TurnB [g] x3 (x3.setRow g #[.int .i64 0, .int .i64 span, .int .i64 kind, .int .i64 limit, .int .i64 1, .int .i64 0, .int .i64 0, .int .i64 0, .slice (some ⟨ge, 0, none⟩) 4 4, .slice P l.length pc, .slice none 0 0, .slice none 0 0, .slice none 0 0, .slice none 0 0, .slice none 0 0, .int .i64 0, .slice none 0 0, .slice none 0 0]) := TurnB.setRow (TurnB.refl _ _) (by simp) _
        have hF : BlockIs (x3.setRow g #[.int .i64 0, .int .i64 span, .int .i64 kind, .int .i64 limit, .int .i64 1, .int .i64 0, .int .i64 0, .int .i64 0, .slice (some ⟨ge, 0, none⟩) 4 4, .slice P l.length pc, .slice none 0 0, .slice none 0 0, .slice none 0 0, .slice none 0 0, .slice none 0 0, .int .i64 0, .slice none 0 0, .slice none 0 0]) g 39 #[.int .i64 0, .int .i64 span, .int .i64 kind, .int .i64 limit, .int .i64 1, .int .i64 0, .int .i64 0, .int .i64 0, .slice (some ⟨ge, 0, none⟩) 4 4, .slice P l.length pc, .slice none 0 0, .slice none 0 0, .slice none 0 0, .slice none 0 0, .slice none 0 0, .int .i64 0, .slice none 0 0, .slice none 0 0] := setRow_heap _ _ _ _ _ _ hGB
        have hE2 := hEB.turn T (by simpa using dGE)
        have hR2 := hRow.agree PoolO.framed (T.agree (fun b hb => ⟨hplt b hb, by simpa using dPG b hb⟩))
        have hB2 : Below X.heap.size X (x3.setRow g #[.int .i64 0, .int .i64 span, .int .i64 kind, .int .i64 limit, .int .i64 1, .int .i64 0, .int .i64 0, .int .i64 0, .slice (some ⟨ge, 0, none⟩) 4 4, .slice P l.length pc, .slice none 0 0, .slice none 0 0, .slice none 0 0, .slice none 0 0, .slice none 0 0, .int .i64 0, .slice none 0 0, .slice none 0 0]) := hC.trans (T.below (B := X.heap.size) hC.size (by simpa using hXg))
        have HF := Lib.hid (And.intro hF (And.intro hE2 (And.intro hR2 hB2)))
        clear T hF hE2 hR2 hB2
        refine hT 6 ?_; simp only [Act.put, rhA, rhS, rhT]
        refine hCall (i := 8) (o := ?a26) ?b26 (by kernel_rfl) ?c26 (fun K hK => ?d26)
        case b26 => simp only [rhN, rhM]; try rfl
        case c26 => rfl
        refine wp_store_row 39 _ _ rfl g _ rfl rfl 39 _ hGB (by kernel_rfl) rfl (by simp [Value.oneCell']) ?_
        refine hK.out _ _ (by (try dsimp only); first | exact HF.out.2.2.2 | exact hC) (fun hHeld => ?_)
        clear hK K
        try simp only [Act.put, rhA, rhS, rhT]
        refine wpAnyH_done (by kernel_rfl) ?_ _
        go_wp2_with fail
        go_meet
        exact ⟨g, ge, P, pc, bp, rfl, hXg, hXe, dGE, HF.out.1, HF.out.2.1, HF.out.2.2.1, hnd, fun b hb => ⟨hloP b hb, dPG b hb, dPE b hb⟩, HF.out.2.2.2⟩
  case rest =>
    obtain ⟨g, ge, P, pc, bp, rfl, hgX, hgeX, hne, BO, BI, hRow, hnd, hdp, hXc⟩ := hcut
    have hX := below_of hX1 hXc
    have BR := HR1.out.below hXc hR
    have hz := WldO.zero wc
    have hWO : WldO wc (worldNew l kind limit span) ⟨.slice (some ⟨ge, 0, none⟩) 4 4, .slice P l.length pc, .slice none 0 0, .slice none 0 0, .slice none 0 0, .slice none 0 0, .slice none 0 0, .slice none 0 0, .slice none 0 0⟩ bp [] [] [] :=
      ⟨intO_of (l := [0, 0, 0, 0]) BI (by decide), hRow, hz.clu, hz.wa, hz.en, hz.ins, hz.ms, ⟨by simp [worldNew], hl, by simp [worldNew], by simp [worldNew], by simp [worldNew], by simp [worldNew]⟩⟩
    have hsok := sWorldOk_any (worldNew l kind limit span) _ wc hWO.wld
    rw [HOK.out] at hsok
    have HSOK := Lib.hid hsok
    have hwX : w.heap.size < X.heap.size := hR
    have HWO := Lib.hid (And.intro hWO (And.intro (show (ge :: bp).Nodup from List.nodup_cons.2 ⟨fun h => (hdp ge h).2.2 rfl, hnd⟩) (show ∀ b ∈ ge :: bp, w.heap.size < b ∧ b ≠ g from fun b hb => by
      rcases List.mem_cons.1 hb with rfl | hb
      · exact ⟨by omega, hne⟩
      · exact ⟨by have := (hdp b hb).1; omega, (hdp b hb).2.1⟩)))
    have HBO := Lib.hid BO
    have HBR := Lib.hid BR
    have lr := BR.lt
    have lo := BO.lt
    clear BO BR BI hRow hnd hdp hz hWO hsok HR1 HV hmk
    go_wp2_with (refine wpList_load_row rfl 39 _ rfl _ rfl 39 _ (0, 0) _ HBO.out Tryz.underlying39 rfl (by kernel_rfl) ?_)
    refine HSOK.out.mono ?_
    rintro e w1 ⟨rfl, hb1⟩
    have hC1 := below_of hX hb1
    have BO1 := Lib.hid (HBO.out.below hb1 HBO.out.lt)
    have BR1 := Lib.hid (HBR.out.below hb1 HBR.out.lt)
    have HW1 := Lib.hid (HWO.out.1.agree (Agree.of_below hb1 HWO.out.1.lt))
    have lr1 := BR1.out.lt
    have lo1 := BO1.out.lt
    have hz1 := hb1.size
    clear hb1 HBO HBR HSOK
    cases ok
    · have et := HT.out
      simp only [Bool.false_eq_true, if_false] at et
      subst et
      have hF : BlockIs (w1.setRow w.heap.size #[.int .i64 0, .int .i64 0, .int .i64 0, .int .i64 0, .int .i64 0, .int .i64 0, .int .i64 0, .int .i64 0, .slice none 0 0, .slice none 0 0, .slice none 0 0, .slice none 0 0, .slice none 0 0, .slice none 0 0, .slice none 0 0, .int .i64 0, .slice none 0 0, .slice none 0 0]) w.heap.size 39 #[.int .i64 0, .int .i64 0, .int .i64 0, .int .i64 0, .int .i64 0, .int .i64 0, .int .i64 0, .int .i64 0, .slice none 0 0, .slice none 0 0, .slice none 0 0, .slice none 0 0, .slice none 0 0, .slice none 0 0, .slice none 0 0, .int .i64 0, .slice none 0 0, .slice none 0 0] := setRow_heap _ _ _ _ _ _ BR1.out
      have hT : TurnB [w.heap.size] w1 (w1.setRow w.heap.size #[.int .i64 0, .int .i64 0, .int .i64 0, .int .i64 0, .int .i64 0, .int .i64 0, .int .i64 0, .int .i64 0, .slice none 0 0, .slice none 0 0, .slice none 0 0, .slice none 0 0, .slice none 0 0, .slice none 0 0, .slice none 0 0, .int .i64 0, .slice none 0 0, .slice none 0 0]) := TurnB.setRow (TurnB.refl _ _) (by simp) _
      have HF := Lib.hid hF
      have HTT := Lib.hid hT
      clear hF hT
      go_wp2_with (refine wpList_store_row rfl 39 _ _ rfl _ _ rfl rfl 39 _ BR1.out (by kernel_rfl) rfl (by simp [Value.oneCell']) ?_)
      generalize (w1.setRow w.heap.size #[.int .i64 0, .int .i64 0, .int .i64 0, .int .i64 0, .int .i64 0, .int .i64 0, .int .i64 0, .int .i64 0, .slice none 0 0, .slice none 0 0, .slice none 0 0, .slice none 0 0, .slice none 0 0, .slice none 0 0, .slice none 0 0, .int .i64 0, .slice none 0 0, .slice none 0 0]) = wf at HF HTT ⊢
      refine bodyPost_ret (v := .tuple #[.agg #[.int .i64 0, .int .i64 0, .int .i64 0, .int .i64 0, .int .i64 0, .int .i64 0, .int .i64 0, .int .i64 0, .slice none 0 0, .slice none 0 0, .slice none 0 0, .slice none 0 0, .slice none 0 0, .slice none 0 0, .slice none 0 0, .int .i64 0, .slice none 0 0, .slice none 0 0], .bool false]) (results_cell_two Tryz.results5 _ _ w.heap.size _ _ rfl rfl (run_loadVar_row _ w.heap.size 39 39 _ (0, 0) _ HF.out Tryz.underlying39 rfl (by kernel_rfl))) rfl ?_
      exact ⟨⟨.slice none 0 0, .slice none 0 0, .slice none 0 0, .slice none 0 0, .slice none 0 0, .slice none 0 0, .slice none 0 0, .slice none 0 0, .slice none 0 0⟩, [], [], [], [], rfl, WldO.zero _, by simp [wldB, blk, Value.ownBlock], by simp [wldB, blk, Value.ownBlock], hC1.trans (HTT.out.below (B := w.heap.size) hC1.size (by simp))⟩
    · have et := HT.out
      simp only [if_true] at et
      subst et
      have hF : BlockIs (w1.setRow w.heap.size #[.int .i64 0, .int .i64 span, .int .i64 kind, .int .i64 limit, .int .i64 1, .int .i64 0, .int .i64 0, .int .i64 0, .slice (some ⟨ge, 0, none⟩) 4 4, .slice P l.length pc, .slice none 0 0, .slice none 0 0, .slice none 0 0, .slice none 0 0, .slice none 0 0, .int .i64 0, .slice none 0 0, .slice none 0 0]) w.heap.size 39 #[.int .i64 0, .int .i64 span, .int .i64 kind, .int .i64 limit, .int .i64 1, .int .i64 0, .int .i64 0, .int .i64 0, .slice (some ⟨ge, 0, none⟩) 4 4, .slice P l.length pc, .slice none 0 0, .slice none 0 0, .slice none 0 0, .slice none 0 0, .slice none 0 0, .int .i64 0, .slice none 0 0, .slice none 0 0] := setRow_heap _ _ _ _ _ _ BR1.out
      have hT : TurnB [w.heap.size] w1 (w1.setRow w.heap.size #[.int .i64 0, .int .i64 span, .int .i64 kind, .int .i64 limit, .int .i64 1, .int .i64 0, .int .i64 0, .int .i64 0, .slice (some ⟨ge, 0, none⟩) 4 4, .slice P l.length pc, .slice none 0 0, .slice none 0 0, .slice none 0 0, .slice none 0 0, .slice none 0 0, .int .i64 0, .slice none 0 0, .slice none 0 0]) := TurnB.setRow (TurnB.refl _ _) (by simp) _
      have HF := Lib.hid hF
      have HTT := Lib.hid hT
      clear hF hT
      go_wp2_with (first
        | (refine wpList_load_row rfl 39 _ rfl _ rfl 39 _ (0, 0) _ BO1.out Tryz.underlying39 rfl (by kernel_rfl) ?_)
        | (refine wpList_store_row rfl 39 _ _ rfl _ _ rfl rfl 39 _ BR1.out (by kernel_rfl) rfl (by simp [Value.oneCell']) ?_))
      generalize (w1.setRow w.heap.size #[.int .i64 0, .int .i64 span, .int .i64 kind, .int .i64 limit, .int .i64 1, .int .i64 0, .int .i64 0, .int .i64 0, .slice (some ⟨ge, 0, none⟩) 4 4, .slice P l.length pc, .slice none 0 0, .slice none 0 0, .slice none 0 0, .slice none 0 0, .slice none 0 0, .int .i64 0, .slice none 0 0, .slice none 0 0]) = wf at HF HTT ⊢
      refine bodyPost_ret (v := .tuple #[.agg #[.int .i64 0, .int .i64 span, .int .i64 kind, .int .i64 limit, .int .i64 1, .int .i64 0, .int .i64 0, .int .i64 0, .slice (some ⟨ge, 0, none⟩) 4 4, .slice P l.length pc, .slice none 0 0, .slice none 0 0, .slice none 0 0, .slice none 0 0, .slice none 0 0, .int .i64 0, .slice none 0 0, .slice none 0 0], .bool true]) (results_cell_two Tryz.results5 _ _ w.heap.size _ _ rfl rfl (run_loadVar_row _ w.heap.size 39 39 _ (0, 0) _ HF.out Tryz.underlying39 rfl (by kernel_rfl))) rfl ?_
      have hwb : wldB ⟨.slice (some ⟨ge, 0, none⟩) 4 4, .slice P l.length pc, .slice none 0 0, .slice none 0 0, .slice none 0 0, .slice none 0 0, .slice none 0 0, .slice none 0 0, .slice none 0 0⟩ bp [] [] [] = ge :: bp := by simp [wldB, blk, Value.ownBlock]
      refine ⟨_, bp, [], [], [], rfl, HW1.out.agree (HTT.out.agree (fun b hb => ⟨HW1.out.lt b hb, ?_⟩)), by rw [hwb]; exact HWO.out.2.1, fun b hb => ?_, hC1.trans (HTT.out.below (B := w.heap.size) hC1.size (by simp))⟩
      · rw [hwb] at hb; have := HWO.out.2.2 b hb; simp; omega
      · rw [hwb] at hb; have := HWO.out.2.2 b hb; omega
end Go.Proofs.YtmkpajjnjgnmkabGreatDoor
