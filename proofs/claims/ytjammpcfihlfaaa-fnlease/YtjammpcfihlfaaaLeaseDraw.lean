/- The model's draw of a lease: whatever lease it is, of what was there only the cursor has turned. -/
import Derived.Test.YtjammpcfihlfaaaCurRB
import Derived.Test.YtjammpcfihlfaaaLeaseS
import Derived.Deep.RegionHeld3
import Derived.Deep.RegionLaw
import Derived.Deep.DeepCutAuto
namespace Go.Proofs.Ytjammpcfihlfaaa
open Go.RowKit

theorem CurAt.on {g G : Nat} {A : Option Addr} {n c m : Nat} {w w' : World} (hG : G ≤ g) (h : CurAt g G A n c m w) (hb : Below w.heap.size w w') : CurAt g G A n c m w' := by
  obtain ⟨a, s, hk, h0, h1, h2, h3, h4⟩ := h
  exact CurAt.step hG hk.lt (But.of_below hb (But.refl g w)) (hk.below hb hk.lt) h0 h1 h2 h3 h4

/-- The ending of the draw. -/
def DrawnL3 (g G : Nat) (A : Option Addr) (n c m : Nat) (w : World) (e : Ending) (w' : World) : Prop := ∃ r : RV, e = .returned (.agg #[.int .i64 r.c, .int .i64 r.m, .int .i64 r.p]) ∧ But g w w' ∧ CurAt g G A n c m w'
/-- Between two rounds. -/
def LeaseAt (g G : Nat) (A : Option Addr) (n c m : Nat) (w : World) (now k : Int) (wr : World) : Prop :=
  (0 ≤ k ∧ k ≤ 5) ∧ (0 ≤ now ∧ now + 9 * k ≤ 45) ∧ But g w wr ∧ w.heap.size + 2 ≤ wr.heap.size ∧ (∃ m' : Nat, (m' : Int) + 3 * k ≤ m + 16 ∧ CurAt g G A n c m' wr) ∧ BlockIs wr w.heap.size 25 #[.int .i64 0, .int .i64 0, .int .i64 0] ∧ ∃ r : RV, BlockIs wr (w.heap.size + 1) 25 #[.int .i64 r.c, .int .i64 r.m, .int .i64 r.p]
/-- What the cut inside a round hands on. -/
def LeaseGot (g G : Nat) (A : Option Addr) (n c m : Nat) (X : World) (s6 s7 : Value) (wx : World) : Prop :=
  ∃ (g6 : Nat) (r : RV) (k : Int), s6 = .pointer (some ⟨g6, 0, none⟩) ∧ s7 = .int .i64 k ∧ X.heap.size ≤ g6 ∧ BlockIs wx g6 25 #[.int .i64 r.c, .int .i64 r.m, .int .i64 r.p] ∧ But g X wx ∧ CurAt g G A n c (m + 2) wx
theorem tri_put {w : World} {g : Nat} {t : TypeId} {a b d : Value} (h : BlockIs w g t #[a, b, d]) (x y z : Value) : BlockIs (((w.setCell ⟨g, 0, none⟩ x).setCell ⟨g, 1, none⟩ y).setCell ⟨g, 2, none⟩ z) g t #[x, y, z] := by
  have := ((h.put 0 x).put 1 y).put 2 z
  simpa using this
theorem row_at {w : World} {b : Nat} {t : TypeId} {cs : Array Value} (hb : BlockIs w b t cs) (k : Nat) (hk : ∀ o, o < k → ∃ z : Int, cs[o]? = some (.int .i64 z)) (y : Int) (y0 : 0 ≤ y) (y1 : y < k) : ∃ v : Int, w.cell? ⟨b, y.toNat, none⟩ = some (.int .i64 v) := by
  obtain ⟨z, hz⟩ := hk y.toNat (by omega)
  exact ⟨z, (hb.cell _).trans hz⟩
set_option maxRecDepth 20000 in
set_option maxHeartbeats 6400000 in
theorem curLease_any (g G : Nat) (A : Option Addr) (n c m : Nat) (w : World) (hG : G ≤ g) (hn : n ≤ 1048576) (hm : m + 60 ≤ 1000000000) (h : CurAt g G A n c m w) :
    Calls Try.prog 41 #[.pointer (some ⟨g, 0, none⟩)] w (DrawnL3 g G A n c (m + 60) w) := by
  have hgw := h.lt
  go_enter Try.func41, Try.ntmps41
  go_wp2_with fail
  refine (pick_any g G A n c m 6 _ hG hn (by omega) (by omega) (by omega) ((h.but_alloc hG _).but_alloc hG _)).mono ?_
  rintro e w1 ⟨z, ⟨z0, z1⟩, rfl, hb1, hc1⟩
  have hz1 := hb1.size
  simp at hz1
  have B1 : BlockIs w1 w.heap.size 25 #[.int .i64 0, .int .i64 0, .int .i64 0] := ((BlockIs.new w _ _).alloc _).but hb1 (by omega)
  have B2 : BlockIs w1 (w.heap.size + 1) 25 #[.int .i64 0, .int .i64 0, .int .i64 0] := (BlockIs.new' (by simp)).but hb1 (by omega)
  have HB := Lib.hid (And.intro B1 B2)
  have hB1 : But g w w1 := (((But.refl g w).alloc _).alloc _).trans hb1
  have HC := Lib.hid hc1
  clear B1 B2 hb1 h hc1
  go_wp2_with fail
  go_loopw [4, 5] (fun s4 s5 wr => ∃ now k : Int, s4 = .int .i64 now ∧ s5 = .int .i64 k ∧ LeaseAt g G A n c m w now k wr) (fun _ s5 _ => (RowKit.intOf s5).toNat)
  case atStart =>
    exact ⟨0, z, rfl, rfl, ⟨by omega, by omega⟩, ⟨by omega, by omega⟩, hB1, by omega, ⟨m + 1, by omega, HC.out⟩, HB.out.1, ⟨0, 0, 0⟩, HB.out.2⟩
  case round =>
    obtain ⟨now, k, rfl, rfl, ⟨k0, k1⟩, ⟨n0, n1⟩, hB, hzr, ⟨m', hm', hc⟩, hR, r, hL⟩ := hrel
    have HR := Lib.hid hR
    have HL := Lib.hid hL
    have HC := Lib.hid hc
    have HB := Lib.hid hB
    clear hR hL hc hB hB1 z0 z1
    by_cases hk : 0 < k
    · go_wp2_with fail
      refine (pick_any g G A n c m' 9 _ hG hn (by omega) (by omega) (by omega) HC.out).mono ?_
      rintro e X ⟨y, ⟨y0, y1⟩, rfl, hbX, hcX⟩
      have hzX := hbX.size
      have RX := Lib.hid (HR.out.but hbX (by omega))
      have LX := Lib.hid (HL.out.but hbX (by omega))
      have HBX := Lib.hid (HB.out.trans hbX)
      have hgX := hcX.lt
      have HCX := Lib.hid hcX
      have HK := Lib.hid (show ∀ w', But g X w' → But g X w' ∧ (∀ o, w'.cell? ⟨w.heap.size + 1, o, none⟩ = (#[.int .i64 r.c, .int .i64 r.m, .int .i64 r.p] : Array Value)[o]?) from fun w' hb => ⟨hb, (LX.out.but hb (by omega)).cell⟩)
      clear hbX hcX HR HL HC HB
      go_upto_region 7 with fail
      go_cut [6, 7] (fun s6 s7 wx => LeaseGot g G A n c (m' + 1) X s6 s7 wx)
      case first =>
        go_region_held3 (fun w' => But g X w' ∧ (∀ o, w'.cell? ⟨w.heap.size + 1, o, none⟩ = (#[.int .i64 r.c, .int .i64 r.m, .int .i64 r.p] : Array Value)[o]?))
          (exact HK.out _ (by repeat' (first | assumption | exact But.refl _ _ | refine But.above ?_ ?_ _ | refine But.alloc ?_ _ | refine But.drew ?_ | omega | (dsimp only; omega) | (simp; omega))))
          (first
            | (go_at_call_of 42 (Value.int IntKind.i64 3); refine (pick_any g G A n c _ 3 _ hG hn ?_ (by omega) (by omega) (by first | exact HCX.out | exact HCX.out.but_alloc hG _)).mono ?_; (omega); rintro e u1 ⟨y1', ⟨y10, y11⟩, rfl, hb1, hc1⟩; have hz1' := hb1.size; (try simp at hz1'); (first | have hB1 : But g X u1 := hb1 | have hB1 : But g X u1 := But.trans ((But.refl g X).drew) hb1 | have hB1 : But g X u1 := But.trans (But.alloc ((But.refl g X).drew) _) hb1); have HB1' := Lib.hid hB1)
            | (go_at_call_of 42 (Value.int IntKind.i64 9); refine (pick_any g G A n c _ 9 _ hG hn ?_ (by omega) (by omega) (by first | exact hc1 | exact hc1.but_alloc hG _)).mono ?_; (omega); rintro e u2 ⟨y2', ⟨y20, y21⟩, rfl, hb2, hc2⟩; have hz2' := hb2.size; (try simp at hz2'); (first | have hB2 : But g X u2 := hB1.trans hb2 | have hB2 : But g X u2 := (hB1.alloc _).trans hb2))
            | (go_at_call 14; refine (sLeaseTry_any r _ _ _ _).mono ?_; rintro e u3 ⟨rfl, hb3⟩; have hz3' := hb3.size; (try simp at hz3'); (first | have hB3 : But g X u3 := But.of_below hb3 hB2 | have hB3 : But g X u3 := But.of_below hb3 (hB2.alloc _)); (first | have hc3 := hc2.on hG hb3 | have hc3 := (hc2.but_alloc hG _).on hG hb3); (first | (have q0 := BlockIs.new X.drew 25 #[.int .i64 0, .int .i64 0, .int .i64 0]; have q1 := q0.but hb1 (by first | omega | (simp; omega) | (show X.heap.size ≠ g; omega)); have q2 := q1.but hb2 (by first | omega | (simp; omega) | (show X.heap.size ≠ g; omega)); have BBa := q2.below hb3 q2.lt) | (have q0 := BlockIs.new u1 25 #[.int .i64 0, .int .i64 0, .int .i64 0]; have q1 := q0.but hb2 (by first | omega | (simp; omega) | (show X.heap.size ≠ g; omega)); have BBa := q1.below hb3 q1.lt) | (have q0 := BlockIs.new u2 25 #[.int .i64 0, .int .i64 0, .int .i64 0]; have BBa := q0.below hb3 q0.lt) | have BBa := True.intro); (first | (have bx0 := BBa.cell 0; have bx1 := BBa.cell 1; have bx2 := BBa.cell 2; have bxf := BBa.frozen; simp at bx0 bx1 bx2; (try simp at bxf); have HBB := Lib.hid BBa; clear BBa) | skip)))
        all_goals
          go_wp2_with fail
          go_meet
          refine ⟨_, (leaseTry r (IntKind.i64.wrap (1 + y1')) (now + y) (IntKind.i64.wrap (1 + y2'))).1, _, rfl, rfl, ?_, ?_, ?_, ?_⟩
          · first | omega | (simp; done) | (simp; omega)
          · first
              | exact BlockIs.new' (by simp; done)
              | exact tri_put HBB.out _ _ _
              | exact tri_put (BlockIs.drew HBB.out) _ _ _
          · repeat' (first | assumption | exact But.refl _ _ | refine But.above ?_ ?_ _ | refine But.alloc ?_ _ | refine But.drew ?_ | omega | (dsimp only; omega) | (simp; omega))
          · first
              | exact (hc3.but_alloc hG _).more (by omega)
              | exact CurAt.above hG (by first | omega | (dsimp only; omega) | (simp; omega)) (CurAt.above hG (by first | omega | (dsimp only; omega) | (simp; omega)) (CurAt.above hG (by first | omega | (dsimp only; omega) | (simp; omega)) (hc3.more (by omega)) _) _) _
      case rest =>
        obtain ⟨g6, r6, k6, rfl, rfl, hg6, hb6, hbx, hcx⟩ := hcut
        obtain ⟨w6, rfl⟩ : ∃ x : World, x = wc := ⟨wc, rfl⟩
        have hz6 := hbx.size
        have R6 := RX.out.but hbx (by omega)
        have L6 := LX.out.but hbx (by omega)
        have HB6 := Lib.hid hb6
        have HR6 := Lib.hid R6
        have HL6 := Lib.hid L6
        have HBW := Lib.hid (HBX.out.trans hbx)
        have HC6 := Lib.hid hcx
        have a0 := hb6.cell 0
        have a1 := hb6.cell 1
        have a2 := hb6.cell 2
        have b0 := L6.cell 0
        have b1 := L6.cell 1
        have b2 := L6.cell 2
        have bf := L6.frozen
        simp at a0 a1 a2 b0 b1 b2
        clear hb6 R6 L6 hbx hcx
        generalize e1 : (k6 == 0) = bk
        cases bk
        · go_wp2_with fail
          go_roundw
          case rel =>
            exact ⟨_, k - 1, rfl, by go_num, ⟨by omega, by omega⟩, ⟨by omega, by omega⟩, HBW.out, by omega, ⟨m' + 3, by omega, HC6.out.more (by omega)⟩, HR6.out, r, HL6.out⟩
          case measure => simp [RowKit.intOf]; omega
        · go_wp2_with fail
          go_roundw
          case rel =>
            refine ⟨_, k - 1, rfl, by go_num, ⟨by omega, by omega⟩, ⟨by omega, by omega⟩, ((HBW.out.above (p := ⟨w.heap.size + 1, 0, none⟩) (by show w.heap.size ≤ w.heap.size + 1; omega) _).above (p := ⟨w.heap.size + 1, 1, none⟩) (by show w.heap.size ≤ w.heap.size + 1; omega) _).above (p := ⟨w.heap.size + 1, 2, none⟩) (by show w.heap.size ≤ w.heap.size + 1; omega) _, by simp [World.setCell]; omega, ⟨m' + 3, by omega, ?_⟩, ?_, r6, tri_put HL6.out _ _ _⟩
            · exact CurAt.above hG (p := ⟨w.heap.size + 1, 2, none⟩) (by show g < w.heap.size + 1; omega) (CurAt.above hG (p := ⟨w.heap.size + 1, 1, none⟩) (by show g < w.heap.size + 1; omega) (CurAt.above hG (p := ⟨w.heap.size + 1, 0, none⟩) (by show g < w.heap.size + 1; omega) (HC6.out.more (by omega)) _) _) _
            · exact ((HR6.out.far (p := ⟨w.heap.size + 1, 0, none⟩) (by show w.heap.size ≠ w.heap.size + 1; omega) _).far (p := ⟨w.heap.size + 1, 1, none⟩) (by show w.heap.size ≠ w.heap.size + 1; omega) _).far (p := ⟨w.heap.size + 1, 2, none⟩) (by show w.heap.size ≠ w.heap.size + 1; omega) _
          case measure => simp [RowKit.intOf]; omega
    · obtain rfl : k = 0 := by omega
      have hgr := HC.out.lt
      go_wp2_with fail
      refine (pick_any g G A n c m' 14 _ hG hn (by omega) (by omega) (by omega) HC.out).mono ?_
      rintro e w2 ⟨y, ⟨y0, y1⟩, rfl, hb2, hc2⟩
      have hz2 := hb2.size
      have R2 := Lib.hid (HR.out.but hb2 (by omega))
      have L2 := Lib.hid (HL.out.but hb2 (by omega))
      have B2 := Lib.hid (HB.out.trans hb2)
      have C2 := Lib.hid hc2
      clear hb2 hc2 HR HL HC HB
      by_cases e0 : y = 0
      · subst e0
        go_wp2_with fail
        refine (raw_any g G A n c _ _ hG hn (by omega) C2.out).mono ?_
        rintro e w3 ⟨q, _, rfl, hb3, hc3⟩
        have hz3 := hb3.size
        go_wp2_with fail
        refine (pick_any g G A n c _ 4 _ hG hn (by omega) (by omega) (by omega) (hc3.but_alloc hG _)).mono ?_
        rintro e w4 ⟨x, ⟨x0, x1⟩, rfl, hb4, hc4⟩
        have hz4 := hb4.size
        simp at hz4
        obtain ⟨v, hv⟩ := row_at ((BlockIs.new w3 3 #[.int .i64 q, .int .i64 4, .int .i64 5, .int .i64 0]).but hb4 (by omega)) 4 (fun o ho => by match o, ho with | 0, _ => exact ⟨_, rfl⟩ | 1, _ => exact ⟨_, rfl⟩ | 2, _ => exact ⟨_, rfl⟩ | 3, _ => exact ⟨_, rfl⟩) x x0 x1
        have B4 := Lib.hid (((B2.out.trans hb3).alloc (.cells #[.int .i64 q, .int .i64 4, .int .i64 5, .int .i64 0] 3)).trans hb4)
        have R4 := Lib.hid (((R2.out.but hb3 (by omega)).alloc (.cells #[.int .i64 q, .int .i64 4, .int .i64 5, .int .i64 0] 3)).but hb4 (by omega))
        have L4 := Lib.hid (((L2.out.but hb3 (by omega)).alloc (.cells #[.int .i64 q, .int .i64 4, .int .i64 5, .int .i64 0] 3)).but hb4 (by omega))
        have C4 := Lib.hid hc4
        have l0 := L4.out.cell 0
        have l1 := L4.out.cell 1
        have l2 := L4.out.cell 2
        have lf := L4.out.frozen
        have m0 := R4.out.cell 0
        have m1 := R4.out.cell 1
        have m2 := R4.out.cell 2
        have mf := R4.out.frozen
        simp at l0 l1 l2 m0 m1 m2
        clear hb3 hc3 hb4 hc4
        go_wp2_with fail
        refine bodyPost_ret (v := .agg #[.int .i64 (⟨v, r.m, r.p⟩ : RV).c, .int .i64 (⟨v, r.m, r.p⟩ : RV).m, .int .i64 (⟨v, r.m, r.p⟩ : RV).p]) (by simp [results, Try.results41, go_sem, m0, m1, m2]) rfl ⟨⟨v, r.m, r.p⟩, rfl, ?_, ?_⟩
        · exact (((B4.out.above (p := ⟨w.heap.size + 1, 0, none⟩) (by show w.heap.size ≤ w.heap.size + 1; omega) _).above (p := ⟨w.heap.size, 0, none⟩) (Nat.le_refl _) _).above (p := ⟨w.heap.size, 1, none⟩) (Nat.le_refl _) _).above (p := ⟨w.heap.size, 2, none⟩) (Nat.le_refl _) _
        · exact CurAt.above hG (p := ⟨w.heap.size, 2, none⟩) hgw (CurAt.above hG (p := ⟨w.heap.size, 1, none⟩) hgw (CurAt.above hG (p := ⟨w.heap.size, 0, none⟩) hgw (CurAt.above hG (p := ⟨w.heap.size + 1, 0, none⟩) (by show g < w.heap.size + 1; omega) (C4.out.more (by omega)) _) _) _) _
      · have d0 : (y == 0) = false := by simpa using e0
        by_cases e1 : y = 1
        · subst e1
          go_wp2_with fail
          refine (raw_any g G A n c _ _ hG hn (by omega) C2.out).mono ?_
          rintro e w3 ⟨q, _, rfl, hb3, hc3⟩
          have hz3 := hb3.size
          go_wp2_with fail
          refine (pick_any g G A n c _ 4 _ hG hn (by omega) (by omega) (by omega) (hc3.but_alloc hG _)).mono ?_
          rintro e w4 ⟨x, ⟨x0, x1⟩, rfl, hb4, hc4⟩
          have hz4 := hb4.size
          simp at hz4
          obtain ⟨v, hv⟩ := row_at ((BlockIs.new w3 3 #[.int .i64 q, .int .i64 1000, .int .i64 1001, .int .i64 0]).but hb4 (by omega)) 4 (fun o ho => by match o, ho with | 0, _ => exact ⟨_, rfl⟩ | 1, _ => exact ⟨_, rfl⟩ | 2, _ => exact ⟨_, rfl⟩ | 3, _ => exact ⟨_, rfl⟩) x x0 x1
          have B4 := Lib.hid (((B2.out.trans hb3).alloc (.cells #[.int .i64 q, .int .i64 1000, .int .i64 1001, .int .i64 0] 3)).trans hb4)
          have R4 := Lib.hid (((R2.out.but hb3 (by omega)).alloc (.cells #[.int .i64 q, .int .i64 1000, .int .i64 1001, .int .i64 0] 3)).but hb4 (by omega))
          have L4 := Lib.hid (((L2.out.but hb3 (by omega)).alloc (.cells #[.int .i64 q, .int .i64 1000, .int .i64 1001, .int .i64 0] 3)).but hb4 (by omega))
          have C4 := Lib.hid hc4
          have l0 := L4.out.cell 0
          have l1 := L4.out.cell 1
          have l2 := L4.out.cell 2
          have lf := L4.out.frozen
          have m0 := R4.out.cell 0
          have m1 := R4.out.cell 1
          have m2 := R4.out.cell 2
          have mf := R4.out.frozen
          simp at l0 l1 l2 m0 m1 m2
          clear hb3 hc3 hb4 hc4
          go_wp2_with fail
          refine bodyPost_ret (v := .agg #[.int .i64 (⟨r.c, v, r.p⟩ : RV).c, .int .i64 (⟨r.c, v, r.p⟩ : RV).m, .int .i64 (⟨r.c, v, r.p⟩ : RV).p]) (by simp [results, Try.results41, go_sem, m0, m1, m2]) rfl ⟨⟨r.c, v, r.p⟩, rfl, ?_, ?_⟩
          · exact (((B4.out.above (p := ⟨w.heap.size + 1, 1, none⟩) (by show w.heap.size ≤ w.heap.size + 1; omega) _).above (p := ⟨w.heap.size, 0, none⟩) (Nat.le_refl _) _).above (p := ⟨w.heap.size, 1, none⟩) (Nat.le_refl _) _).above (p := ⟨w.heap.size, 2, none⟩) (Nat.le_refl _) _
          · exact CurAt.above hG (p := ⟨w.heap.size, 2, none⟩) hgw (CurAt.above hG (p := ⟨w.heap.size, 1, none⟩) hgw (CurAt.above hG (p := ⟨w.heap.size, 0, none⟩) hgw (CurAt.above hG (p := ⟨w.heap.size + 1, 1, none⟩) (by show g < w.heap.size + 1; omega) (C4.out.more (by omega)) _) _) _) _
        · have d1 : (y == 1) = false := by simpa using e1
          by_cases e2 : y = 2
          · subst e2
            go_wp2_with fail
            refine (raw_any g G A n c _ _ hG hn (by omega) C2.out).mono ?_
            rintro e w3 ⟨q, _, rfl, hb3, hc3⟩
            have hz3 := hb3.size
            go_wp2_with fail
            refine (pick_any g G A n c _ 3 _ hG hn (by omega) (by omega) (by omega) (hc3.but_alloc hG _)).mono ?_
            rintro e w4 ⟨x, ⟨x0, x1⟩, rfl, hb4, hc4⟩
            have hz4 := hb4.size
            simp at hz4
            obtain ⟨v, hv⟩ := row_at ((BlockIs.new w3 3 #[.int .i64 q, .int .i64 200000, .int .i64 200001]).but hb4 (by omega)) 3 (fun o ho => by match o, ho with | 0, _ => exact ⟨_, rfl⟩ | 1, _ => exact ⟨_, rfl⟩ | 2, _ => exact ⟨_, rfl⟩) x x0 x1
            have B4 := Lib.hid (((B2.out.trans hb3).alloc (.cells #[.int .i64 q, .int .i64 200000, .int .i64 200001] 3)).trans hb4)
            have R4 := Lib.hid (((R2.out.but hb3 (by omega)).alloc (.cells #[.int .i64 q, .int .i64 200000, .int .i64 200001] 3)).but hb4 (by omega))
            have L4 := Lib.hid (((L2.out.but hb3 (by omega)).alloc (.cells #[.int .i64 q, .int .i64 200000, .int .i64 200001] 3)).but hb4 (by omega))
            have C4 := Lib.hid hc4
            have l0 := L4.out.cell 0
            have l1 := L4.out.cell 1
            have l2 := L4.out.cell 2
            have lf := L4.out.frozen
            have m0 := R4.out.cell 0
            have m1 := R4.out.cell 1
            have m2 := R4.out.cell 2
            have mf := R4.out.frozen
            simp at l0 l1 l2 m0 m1 m2
            clear hb3 hc3 hb4 hc4
            go_wp2_with fail
            refine bodyPost_ret (v := .agg #[.int .i64 (⟨r.c, r.m, v⟩ : RV).c, .int .i64 (⟨r.c, r.m, v⟩ : RV).m, .int .i64 (⟨r.c, r.m, v⟩ : RV).p]) (by simp [results, Try.results41, go_sem, m0, m1, m2]) rfl ⟨⟨r.c, r.m, v⟩, rfl, ?_, ?_⟩
            · exact (((B4.out.above (p := ⟨w.heap.size + 1, 2, none⟩) (by show w.heap.size ≤ w.heap.size + 1; omega) _).above (p := ⟨w.heap.size, 0, none⟩) (Nat.le_refl _) _).above (p := ⟨w.heap.size, 1, none⟩) (Nat.le_refl _) _).above (p := ⟨w.heap.size, 2, none⟩) (Nat.le_refl _) _
            · exact CurAt.above hG (p := ⟨w.heap.size, 2, none⟩) hgw (CurAt.above hG (p := ⟨w.heap.size, 1, none⟩) hgw (CurAt.above hG (p := ⟨w.heap.size, 0, none⟩) hgw (CurAt.above hG (p := ⟨w.heap.size + 1, 2, none⟩) (by show g < w.heap.size + 1; omega) (C4.out.more (by omega)) _) _) _) _
          · have d2 : (y == 2) = false := by simpa using e2
            clear e0 e1 e2
            have hR := R2.out
            have hL := L2.out
            have a0 := hL.cell 0
            have a1 := hL.cell 1
            have a2 := hL.cell 2
            have b0 := hR.cell 0
            have b1 := hR.cell 1
            have b2 := hR.cell 2
            have bf := hR.frozen
            simp at a0 a1 a2 b0 b1 b2
            clear hL hR
            go_wp2_with fail
            refine bodyPost_ret (v := .agg #[.int .i64 r.c, .int .i64 r.m, .int .i64 r.p]) (by simp [results, Try.results41, go_sem, b0, b1, b2]) rfl ⟨r, rfl, ?_, ?_⟩
            · exact (((B2.out).above (p := ⟨w.heap.size, 0, none⟩) (Nat.le_refl _) _).above (p := ⟨w.heap.size, 1, none⟩) (Nat.le_refl _) _).above (p := ⟨w.heap.size, 2, none⟩) (Nat.le_refl _) _
            · exact CurAt.above hG (p := ⟨w.heap.size, 2, none⟩) hgw (CurAt.above hG (p := ⟨w.heap.size, 1, none⟩) hgw (CurAt.above hG (p := ⟨w.heap.size, 0, none⟩) hgw ((C2.out).more (by omega)) _) _) _
end Go.Proofs.Ytjammpcfihlfaaa
