/- The model's cursor: raw, res; the draws of amounts. -/
import Derived.Test.YtfgdefgnhhimcaaDoorCur
namespace Go.Proofs.YtfgdefgnhhimcaaDoor
open Go.RowKit

theorem CurAt.but_alloc {g G : Nat} {A : Option Addr} {n c m : Nat} {w : World} (hG : G ≤ g) (h : CurAt g G A n c m w) (o : Obj) : CurAt g G A n c m (w.alloc o) := by
  obtain ⟨a, s, hb, h0, h1, h2, h3, h4⟩ := h
  exact CurAt.step hG hb.lt ((But.refl g w).alloc o) (hb.alloc o) h0 h1 h2 h3 h4

theorem BlockIs.but {w w' : World} {b g : Nat} {t : TypeId} {cs : Array Value} (h : BlockIs w b t cs) (hb : But g w w') (hne : b ≠ g) : BlockIs w' b t cs := (hb.block b h.lt hne).trans h
/-- Whatever is asked of a row of eight numbers at an index within it is a number. -/
theorem eight (x0 x1 x2 x3 x4 x5 x6 x7 : Int) (t : TypeId) (w w' : World) (hb : w'.heap[w.heap.size]? = some (.cells #[.int .i64 x0, .int .i64 x1, .int .i64 x2, .int .i64 x3, .int .i64 x4, .int .i64 x5, .int .i64 x6, .int .i64 x7] t (0, 0))) (z : Int) (h0 : 0 ≤ z) (h1 : z < 8) :
    ∃ v : Int, w'.cell? ⟨w.heap.size, z.toNat, none⟩ = some (.int .i64 v) := by
  have : z.toNat < 8 := by omega
  generalize z.toNat = i at this
  simp only [World.cell?, hb]
  match i, this with
  | 0, _ => exact ⟨x0, rfl⟩
  | 1, _ => exact ⟨x1, rfl⟩
  | 2, _ => exact ⟨x2, rfl⟩
  | 3, _ => exact ⟨x3, rfl⟩
  | 4, _ => exact ⟨x4, rfl⟩
  | 5, _ => exact ⟨x5, rfl⟩
  | 6, _ => exact ⟨x6, rfl⟩
  | 7, _ => exact ⟨x7, rfl⟩

set_option maxHeartbeats 1600000 in
theorem raw_any (g G : Nat) (A : Option Addr) (n c m : Nat) (w : World) (hG : G ≤ g) (hn : n ≤ 1048576) (hm : m + 2 ≤ 1000000000) (h : CurAt g G A n c m w) :
    Calls Tryd.prog 44 #[.pointer (some ⟨g, 0, none⟩)] w (Drawn (fun _ => True) g G A n c (m + 2) w) := by
  go_enter Tryd.func44, Tryd.ntmps44
  go_wp2_with fail
  refine (pick_any g G A n c m 8 _ hG hn (by omega) (by omega) (by omega) h).mono ?_
  rintro e w1 ⟨z, ⟨z0, z1⟩, rfl, hb1, hc1⟩
  by_cases e0 : z = 0
  · subst e0
    go_wp2_with fail
    refine (pick_any g G A n c (m + 1) 256 _ hG hn (by omega) (by omega) (by omega) hc1).mono ?_
    rintro e w2 ⟨y, ⟨y0, y1⟩, rfl, hb2, hc2⟩
    go_wp2_with fail
    go_ret
    exact ⟨_, trivial, rfl, hb1.trans hb2, hc2⟩
  · by_cases e1 : z = 1
    · subst e1
      go_wp2_with fail
      refine (pick_any g G A n c (m + 1) 8 _ hG hn (by omega) (by omega) (by omega) (hc1.but_alloc hG _)).mono ?_
      rintro e w2 ⟨y, ⟨y0, y1⟩, rfl, hb2, hc2⟩
      have hg1 := hc1.lt
      obtain ⟨v, hv⟩ := eight _ _ _ _ _ _ _ _ 3 w1 w2 ((BlockIs.new _ _ _).but hb2 (by omega)) y y0 y1
      go_wp2_with fail
      go_ret
      exact ⟨_, trivial, rfl, (hb1.alloc _).trans hb2, hc2⟩
    · have f0 : (z == 0) = false := by simp [e0]
      have f1 : (z == 1) = false := by simp [e1]
      clear e0 e1
      go_wp2_with fail
      refine (pick_any g G A n c (m + 1) 14 _ hG hn (by omega) (by omega) (by omega) hc1).mono ?_
      rintro e w2 ⟨y, ⟨y0, y1⟩, rfl, hb2, hc2⟩
      go_wp2_with fail
      go_ret
      exact ⟨_, trivial, rfl, hb1.trans hb2, hc2⟩

/-- Whatever is asked of a row of three numbers at an index within it is a number. -/
theorem three (x0 x1 x2 : Int) (t : TypeId) (b : Nat) (w' : World) (hb : BlockIs w' b t #[.int .i64 x0, .int .i64 x1, .int .i64 x2]) (z : Int) (h0 : 0 ≤ z) (h1 : z < 3) :
    ∃ v : Int, w'.cell? ⟨b, z.toNat, none⟩ = some (.int .i64 v) := by
  have : z.toNat < 3 := by omega
  generalize z.toNat = i at this
  rw [hb.cell]
  match i, this with
  | 0, _ => exact ⟨x0, rfl⟩
  | 1, _ => exact ⟨x1, rfl⟩
  | 2, _ => exact ⟨x2, rfl⟩
/-- The ending of a draw of an amount. -/
def DrawnR (g G : Nat) (A : Option Addr) (n c m : Nat) (w : World) (e : Ending) (w' : World) : Prop := ∃ r : RV, e = .returned (.agg #[.int .i64 r.c, .int .i64 r.m, .int .i64 r.p]) ∧ But g w w' ∧ CurAt g G A n c m w'
theorem CurAt.more {g G : Nat} {A : Option Addr} {n c m m' : Nat} {w : World} (h : CurAt g G A n c m w) (hm : m ≤ m') : CurAt g G A n c m' w := by
  obtain ⟨a, s, hb, h0, h1, h2⟩ := h
  exact ⟨a, s, hb, h0, by omega, h2⟩

theorem CurAt.above {g G : Nat} {A : Option Addr} {n c m : Nat} {w : World} (hG : G ≤ g) {p : Addr} (hp : g < p.block) (h : CurAt g G A n c m w) (u : Value) : CurAt g G A n c m (w.setCell p u) := by
  obtain ⟨a, s, hb, h0, h1, h2, h3, h4⟩ := h
  refine ⟨a, s, hb.far (by omega) u, h0, h1, h2, h3, fun hn => ?_⟩
  obtain ⟨b, off, rfl, hbG, hc⟩ := h4 hn
  refine ⟨b, off, rfl, hbG, fun i hi => ?_⟩
  obtain ⟨z, z0, z1, hz⟩ := hc i hi
  exact ⟨z, z0, z1, (World.cell?_setCell_other _ _ _ _ (fun e => by have hq := congrArg Addr.block e; simp at hq; omega)).trans hz⟩

set_option maxHeartbeats 3200000 in
theorem res_any (g G : Nat) (A : Option Addr) (n c m : Nat) (w : World) (hG : G ≤ g) (hn : n ≤ 1048576) (hm : m + 7 ≤ 1000000000) (h : CurAt g G A n c m w) :
    Calls Tryd.prog 39 #[.pointer (some ⟨g, 0, none⟩)] w (DrawnR g G A n c (m + 7) w) := by
  have hgw := h.lt
  have T2 := Lib.hid (BlockIs.new w 25 #[.int .i64 0, .int .i64 0, .int .i64 0])
  go_enter Tryd.func39, Tryd.ntmps39
  go_wp2_with fail
  refine (pick_any g G A n c m 9 _ hG hn (by omega) (by omega) (by omega) (h.but_alloc hG _)).mono ?_
  rintro e w1 ⟨x0, ⟨_, _⟩, rfl, hb1, hc1⟩
  go_wp2_with fail
  refine (pick_any g G A n c (m + 1) 9 _ hG hn (by omega) (by omega) (by omega) hc1).mono ?_
  rintro e w2 ⟨x1, ⟨_, _⟩, rfl, hb2, hc2⟩
  go_wp2_with fail
  refine (pick_any g G A n c (m + 2) 4 _ hG hn (by omega) (by omega) (by omega) hc2).mono ?_
  rintro e w3 ⟨x2, ⟨_, _⟩, rfl, hb3, hc3⟩
  have hB3 := (hb1.trans hb2).trans hb3
  have hz3 := hB3.size
  simp at hz3
  have hg3 := hc3.lt
  have T3 := Lib.hid (BlockIs.new w3 25 #[.int .i64 x0, .int .i64 x1, .int .i64 x2])
  have T2b := Lib.hid ((T2.out.but hB3 (by omega)).alloc (.cells #[.int .i64 x0, .int .i64 x1, .int .i64 x2] 25))
  have hBw := (((But.refl g w).alloc (.cells #[.int .i64 0, .int .i64 0, .int .i64 0] 25)).trans hB3).alloc (.cells #[.int .i64 x0, .int .i64 x1, .int .i64 x2] 25)
  clear hb1 hb2 hb3 T2 hB3 hc1 hc2
  go_wp2_with fail
  refine (pick_any g G A n c (m + 3) 14 _ hG hn (by omega) (by omega) (by omega) (hc3.but_alloc hG _)).mono ?_
  rintro e w4 ⟨z, ⟨z0, z1⟩, rfl, hb4, hc4⟩
  have hBw4 := hBw.trans hb4
  have hz4 := hb4.size
  simp at hz4
  have t3 := T3.out.but hb4 (by omega)
  have t2 := T2b.out.but hb4 (by omega)
  clear T3 T2b hBw hb4 hc3
  generalize hgb : w3.heap.size = gb at *
  clear hgb
  by_cases e0 : z = 0
  · subst e0
    have T3 := Lib.hid t3
    have T2 := Lib.hid t2
    clear t3 t2
    go_wp2_with fail
    refine (raw_any g G A n c (m + 4) _ hG hn (by omega) hc4).mono ?_
    rintro e w5 ⟨y, _, rfl, hb5, hc5⟩
    have hg5 := hc5.lt
    go_wp2_with fail
    refine (pick_any g G A n c (m + 6) 3 _ hG hn (by omega) (by omega) (by omega) (hc5.but_alloc hG _)).mono ?_
    rintro e w6 ⟨q, ⟨q0, q1⟩, rfl, hb6, hc6⟩
    obtain ⟨v, hv⟩ := three _ _ _ 3 w5.heap.size w6 ((BlockIs.new _ _ _).but hb6 (by omega)) q q0 q1
    have hb46 := (hb5.alloc _).trans hb6
    have t3 := T3.out.but hb46 (by omega)
    have t2 := T2.out.but hb46 (by omega)
    have f3 := t3.frozen
    have f2 := t2.frozen
    have k0 := t3.cell 0
    have k1 := t3.cell 1
    have k2 := t3.cell 2
    have l0 := t2.cell 0
    have l1 := t2.cell 1
    have l2 := t2.cell 2
    simp at k0 k1 k2 l0 l1 l2
    clear t3 t2
    go_wp2_with fail
    refine bodyPost_ret (v := .agg #[.int .i64 v, .int .i64 x1, .int .i64 x2]) (by simp [results, Tryd.results39, go_sem, l0, l1, l2]) rfl ⟨⟨v, x1, x2⟩, rfl, ((((hBw4.trans hb46).above (by first | (simp; done) | (simp; omega) | omega) _).above (by first | (simp; done) | (simp; omega) | omega) _).above (by first | (simp; done) | (simp; omega) | omega) _).above (by first | (simp; done) | (simp; omega) | omega) _, ((((((((hc6).above hG (by first | (simp; done) | (simp; omega) | omega) _)).above hG (by first | (simp; done) | (simp; omega) | omega) _)).above hG (by first | (simp; done) | (simp; omega) | omega) _)).above hG (by first | (simp; done) | (simp; omega) | omega) _)⟩
  · by_cases e1 : z = 1
    · subst e1
      have T3 := Lib.hid t3
      have T2 := Lib.hid t2
      clear t3 t2
      go_wp2_with fail
      refine (raw_any g G A n c (m + 4) _ hG hn (by omega) hc4).mono ?_
      rintro e w5 ⟨y, _, rfl, hb5, hc5⟩
      have hg5 := hc5.lt
      go_wp2_with fail
      refine (pick_any g G A n c (m + 6) 3 _ hG hn (by omega) (by omega) (by omega) (hc5.but_alloc hG _)).mono ?_
      rintro e w6 ⟨q, ⟨q0, q1⟩, rfl, hb6, hc6⟩
      obtain ⟨v, hv⟩ := three _ _ _ 3 w5.heap.size w6 ((BlockIs.new _ _ _).but hb6 (by omega)) q q0 q1
      have hb46 := (hb5.alloc _).trans hb6
      have t3 := T3.out.but hb46 (by omega)
      have t2 := T2.out.but hb46 (by omega)
      have f3 := t3.frozen
      have f2 := t2.frozen
      have k0 := t3.cell 0
      have k1 := t3.cell 1
      have k2 := t3.cell 2
      have l0 := t2.cell 0
      have l1 := t2.cell 1
      have l2 := t2.cell 2
      simp at k0 k1 k2 l0 l1 l2
      clear t3 t2
      go_wp2_with fail
      refine bodyPost_ret (v := .agg #[.int .i64 x0, .int .i64 v, .int .i64 x2]) (by simp [results, Tryd.results39, go_sem, l0, l1, l2]) rfl ⟨⟨x0, v, x2⟩, rfl, ((((hBw4.trans hb46).above (by first | (simp; done) | (simp; omega) | omega) _).above (by first | (simp; done) | (simp; omega) | omega) _).above (by first | (simp; done) | (simp; omega) | omega) _).above (by first | (simp; done) | (simp; omega) | omega) _, ((((((((hc6).above hG (by first | (simp; done) | (simp; omega) | omega) _)).above hG (by first | (simp; done) | (simp; omega) | omega) _)).above hG (by first | (simp; done) | (simp; omega) | omega) _)).above hG (by first | (simp; done) | (simp; omega) | omega) _)⟩
    · by_cases e2 : z = 2
      · subst e2
        have T3 := Lib.hid t3
        have T2 := Lib.hid t2
        clear t3 t2
        go_wp2_with fail
        refine (raw_any g G A n c (m + 4) _ hG hn (by omega) hc4).mono ?_
        rintro e w5 ⟨v, _, rfl, hb5, hc5⟩
        have t3 := T3.out.but hb5 (by omega)
        have t2 := T2.out.but hb5 (by omega)
        have f3 := t3.frozen
        have f2 := t2.frozen
        have k0 := t3.cell 0
        have k1 := t3.cell 1
        have k2 := t3.cell 2
        have l0 := t2.cell 0
        have l1 := t2.cell 1
        have l2 := t2.cell 2
        simp at k0 k1 k2 l0 l1 l2
        clear t3 t2
        go_wp2_with fail
        refine bodyPost_ret (v := .agg #[.int .i64 x0, .int .i64 x1, .int .i64 v]) (by simp [results, Tryd.results39, go_sem, l0, l1, l2]) rfl ⟨⟨x0, x1, v⟩, rfl, ((((hBw4.trans hb5).above (by first | (simp; done) | (simp; omega) | omega) _).above (by first | (simp; done) | (simp; omega) | omega) _).above (by first | (simp; done) | (simp; omega) | omega) _).above (by first | (simp; done) | (simp; omega) | omega) _, ((((((((hc5.more (by omega)).above hG (by first | (simp; done) | (simp; omega) | omega) _)).above hG (by first | (simp; done) | (simp; omega) | omega) _)).above hG (by first | (simp; done) | (simp; omega) | omega) _)).above hG (by first | (simp; done) | (simp; omega) | omega) _)⟩
      · have f0 : (z == 0) = false := by simp [e0]
        have f1 : (z == 1) = false := by simp [e1]
        have f2' : (z == 2) = false := by simp [e2]
        clear e0 e1 e2
        have f3 := t3.frozen
        have f2 := t2.frozen
        have k0 := t3.cell 0
        have k1 := t3.cell 1
        have k2 := t3.cell 2
        have l0 := t2.cell 0
        have l1 := t2.cell 1
        have l2 := t2.cell 2
        simp at k0 k1 k2 l0 l1 l2
        clear t3 t2
        go_wp2_with fail
        refine bodyPost_ret (v := .agg #[.int .i64 x0, .int .i64 x1, .int .i64 x2]) (by simp [results, Tryd.results39, go_sem, l0, l1, l2]) rfl ⟨⟨x0, x1, x2⟩, rfl, (((hBw4).above (by first | (simp; done) | (simp; omega) | omega) _).above (by first | (simp; done) | (simp; omega) | omega) _).above (by first | (simp; done) | (simp; omega) | omega) _, ((((((hc4.more (by omega)).above hG (by first | (simp; done) | (simp; omega) | omega) _)).above hG (by first | (simp; done) | (simp; omega) | omega) _)).above hG (by first | (simp; done) | (simp; omega) | omega) _)⟩
end Go.Proofs.YtfgdefgnhhimcaaDoor
