/- The contract of the model's Shares. -/
import Derived.Test.YtkaecjjbammphaaGreatDoorMg08
import Derived.Test.YtkaecjjbammphaaGreatDoorMg11
namespace Go.Proofs.YtkaecjjbammphaaGreatDoor
open Go.RowKit

def PutAtL (X : World) (r : RV) (s5 : Value) (w' : World) : Prop := ∃ g5 : Nat, X.heap.size ≤ g5 ∧ s5 = .pointer (some ⟨g5, 0, none⟩) ∧ w'.cell? ⟨g5, 0, none⟩ = some (.int .i64 r.c) ∧ w'.cell? ⟨g5, 1, none⟩ = some (.int .i64 r.m) ∧ w'.cell? ⟨g5, 2, none⟩ = some (.int .i64 r.p) ∧ Below X.heap.size X w'
set_option maxHeartbeats 6400000 in
set_option maxRecDepth 20000 in
theorem sShares_any (c : CV) (a0 a1 a2 : Value) (w : World) (hc : CluR w c a0 a1 a2) :
    Calls Tryz.prog 5 #[.agg #[a0, a1, a2]] w (RetInts w (sharesV c)) := by
  have hok := fun w1 hw1 => sClusterOk_any c a0 a1 a2 w1 (hc.below hw1)
  have hus := fun (h : clusterOk c = true) z w1 hw1 => sUsed_any c a0 a1 a2 z w w1 hw1 hc (bindsFrom_all (clusterOk_binds h))
  have hE : sharesV c = if clusterOk c then c.nodes.map (shareN c) else [] := rfl
  obtain ⟨D0, D1, D2, e0, e1, e2, rfl, rfl, rfl, hF⟩ := hc.full
  have l1 := hF.l1
  have HF := Lib.hid hF
  have HUS := Lib.hid hus
  generalize hO : clusterOk c = ok at hok hE
  have HOO := Lib.hid hO
  have HE := Lib.hid hE
  have HOK := Lib.hid hok
  clear hok hus hE hF hc hO
  go_enter Tryz.func5, Tryz.ntmps5
  go_wp2_with fail
  have hX : Below w.heap.size w (w.alloc (.cells #[.slice D0 c.tasks.length e0, .slice D1 c.nodes.length e1, .slice D2 c.binds.length e2] 34)) := (by repeat' (first | exact Below.refl _ _ | refine Below.alloc ?_ ?_ _ | refine Below.setCell ?_ ?_ _ | refine Below.drew ?_ | (apply below_step; assumption) | (simp; done) | (simp; omega) | omega))
  have BX := BlockIs.new w 34 #[.slice D0 c.tasks.length e0, .slice D1 c.nodes.length e1, .slice D2 c.binds.length e2]
  have hXz' : w.heap.size + 1 = (w.alloc (.cells #[.slice D0 c.tasks.length e0, .slice D1 c.nodes.length e1, .slice D2 c.binds.length e2] 34)).heap.size := by simp
  generalize w.alloc (.cells #[.slice D0 c.tasks.length e0, .slice D1 c.nodes.length e1, .slice D2 c.binds.length e2] 34) = X at hX BX hXz' ⊢
  have HO : Hid (OwnsJ (X.alloc (.cells #[] 3)) X.heap.size (.slice (some ⟨w.heap.size + 1, 0, none⟩) 0 0) []) := by
    rw [hXz']
    exact World.ownsRow_made X #[] 0 (Nat.le_refl _) (by unfold maxLen; omega) rfl
  have HBX := Lib.hid BX
  clear BX hXz'
  go_loopw [3, 4] (fun s3 s4 wr => ∃ (k : Nat) (vl : Value), k ≤ c.nodes.length ∧ (ok = false → k = 0) ∧ s4 = .int .i64 k ∧ vl = s3 ∧ OwnsJ wr X.heap.size vl ((c.nodes.take k).map (shareN c)) ∧ Below X.heap.size X wr) (fun _ s4 _ => (c.nodes.length - intOf s4).toNat)
  case atStart => exact ⟨0, _, by omega, fun _ => rfl, rfl, rfl, by simpa using HO.out, (by repeat' (first | exact Below.refl _ _ | refine Below.alloc ?_ ?_ _ | refine Below.setCell ?_ ?_ _ | refine Below.drew ?_ | (apply below_step; assumption) | (simp; done) | (simp; omega) | omega))⟩
  case round =>
    obtain ⟨k, vl, hk, hk0, rfl, rfl, hown, hB⟩ := hrel
    have HOW := Lib.hid hown
    have HK0 := Lib.hid hk0
    have hCB := below_of hX hB
    have BC := HBX.out.below hB HBX.out.lt
    have q0 := BC.cell 0
    have q1 := BC.cell 1
    have q2 := BC.cell 2
    have cl := BC.lt
    have hzr := hB.size
    simp at q0 q1 q2
    have HBC := Lib.hid BC
    clear hown BC HO hk0
    go_wp2_with fail
    refine (HOK.out _ hCB).mono ?_
    rintro e w3 ⟨rfl, hb3⟩
    have hC3 := below_of hCB hb3
    have hX3 := below_of hB hb3
    have BC := HBC.out.below hb3 HBC.out.lt
    have q0 := BC.cell 0
    have q1 := BC.cell 1
    have q2 := BC.cell 2
    have cl := BC.lt
    have hz3 := hb3.size
    simp at q0 q1 q2
    have HBC3 := Lib.hid BC
    have HO3 := Lib.hid (HOW.out.below hb3 (Nat.le_refl _))
    clear BC hb3 HBC HOW hB hCB
    cases ok
    · go_wp2_with fail
      go_ret
      obtain rfl : k = 0 := by have := HK0.out; simpa using this
      exact ⟨_, rfl, by rw [HE.out]; simpa using HO3.out.lower hX.size, hC3⟩
    · by_cases hlt : k < c.nodes.length
      · obtain ⟨bn, on, rfl, hbn, hat⟩ := HF.out.hn (by omega)
        obtain ⟨n, hn⟩ : ∃ n, c.nodes[k]? = some n := ⟨_, List.getElem?_eq_getElem hlt⟩
        obtain ⟨cs, hR, hC⟩ := (hat.below NodeR.kept hC3 hbn) k n hn
        obtain ⟨u1, u2, rfl, k1, k2, m1, m2⟩ := hR
        obtain ⟨n0, n1, n2, n3, n4, n5, n6, n7⟩ := node_cells hC
        have HNT := Lib.hid (map_take_snoc (shareN c) hn)
        have hki : (k : Int) < (c.nodes.length : Int) := by omega
        have hk0 : (0 : Int) ≤ (k : Int) := by omega
        have hus := fun w1 hw1 => HUS.out HOO.out n.id w1 hw1
        have hSV : shareN c n = resShare (usedOf c n.id).1 n.cap := rfl
        generalize (usedOf c n.id).1 = u at hus hSV
        generalize (usedOf c n.id).2 = uo at hus
        have hsh := fun w1 => sResShare_any u n.cap w1
        generalize resShare u n.cap = sh at hsh hSV
        have HUN := Lib.hid hus
        have HSH := Lib.hid hsh
        have HSV := Lib.hid hSV
        have HN := Lib.hid (And.intro n2 (And.intro n3 n4))
        have HLN := Lib.hid (show ((c.nodes.take k).map (shareN c)).length ≤ 1048576 by rw [List.length_map, List.length_take]; omega)
        have HK := Lib.hid (show ∀ w', Below w3.heap.size w3 w' → (fun w' => Below w3.heap.size w3 w' ∧ (∀ o, w'.cell? ⟨w.heap.size, o, none⟩ = (#[.slice D0 c.tasks.length e0, .slice (some ⟨bn, on, none⟩) c.nodes.length e1, .slice D2 c.binds.length e2] : Array Value)[o]?) ∧ w'.cell? ⟨bn, on + k * 8, none⟩ = some (.int .i64 n.id)) w' from
          fun w' hb => ⟨hb, fun o => (hb.cell (p := ⟨_, _, none⟩) cl).trans (HBC3.out.cell o), cellK hb n0⟩)
        clear hat hC hn k1 k2 m1 m2 hus hsh hSV n0 n1 n2 n3 n4 n5 n6 n7
        go_upto_region 5 with fail
        clear q0 q1 q2
        go_cut [5] (fun s5 wx => PutAtL w3 u s5 wx)
        case first =>
          go_region_held3 (fun w' => Below w3.heap.size w3 w' ∧ (∀ o, w'.cell? ⟨w.heap.size, o, none⟩ = (#[.slice D0 c.tasks.length e0, .slice (some ⟨bn, on, none⟩) c.nodes.length e1, .slice D2 c.binds.length e2] : Array Value)[o]?) ∧ w'.cell? ⟨bn, on + k * 8, none⟩ = some (.int .i64 n.id))
            (exact HK.out _ (by repeat' (first | exact Below.refl _ _ | refine Below.alloc ?_ ?_ _ | refine Below.setCell ?_ ?_ _ | refine Below.drew ?_ | (apply below_step; assumption) | (simp; done) | (simp; omega) | omega)))
            (first | (go_at_call 17; refine (HUN.out _ (below_of hC3 (by repeat' (first | exact Below.refl _ _ | refine Below.alloc ?_ ?_ _ | refine Below.setCell ?_ ?_ _ | refine Below.drew ?_ | (apply below_step; assumption) | (simp; done) | (simp; omega) | omega)))).mono ?_; rintro e w9 ⟨rfl, hb9⟩; obtain ⟨hc9, hf9⟩ := bcell hb9; have hl9 := blt hb9; (first | have hm9 := (blast hb9).2.2 | have hm9 := (blastd hb9).2.2 | have hm9 := True.intro); (try simp at hm9); have hz9 := hb9.size; try simp at hz9))
          all_goals
            go_wp2_with fail
            go_meet
            exact ⟨_, by (first | (simp; done) | (simp; omega) | omega), rfl, by (first | (simp; done) | (go_simp; done)), by (first | (simp; done) | (go_simp; done)), by (first | (simp; done) | (go_simp; done)), (by repeat' (first | exact Below.refl _ _ | refine Below.alloc ?_ ?_ _ | refine Below.setCell ?_ ?_ _ | refine Below.drew ?_ | (apply below_step; assumption) | (simp; done) | (simp; omega) | omega))⟩
        case rest =>
          obtain ⟨g5, hg5, rfl, y0, y1, y2, hD⟩ := hcut
          have hC9 := below_of hC3 hD
          have hX9 := below_of hX3 hD
          have hzX := hX9.size
          have HO9 := Lib.hid (HO3.out.below hD (Nat.le_refl _))
          have BC := HBC3.out.below hD HBC3.out.lt
          have hwX : w.heap.size < X.heap.size := HBX.out.lt
          have HKW := Lib.hid (show ∀ w', Below wc.heap.size wc w' → (fun w' => Below X.heap.size wc w' ∧ (∀ o, w'.cell? ⟨w.heap.size, o, none⟩ = (#[.slice D0 c.tasks.length e0, .slice (some ⟨bn, on, none⟩) c.nodes.length e1, .slice D2 c.binds.length e2] : Array Value)[o]?) ∧ w'.cell? ⟨g5, 0, none⟩ = some (.int .i64 u.c) ∧ w'.cell? ⟨g5, 1, none⟩ = some (.int .i64 u.m) ∧ w'.cell? ⟨g5, 2, none⟩ = some (.int .i64 u.p) ∧ w'.cell? ⟨bn, on + k * 8 + 2, none⟩ = some (.int .i64 n.cap.c) ∧ w'.cell? ⟨bn, on + k * 8 + 3, none⟩ = some (.int .i64 n.cap.m) ∧ w'.cell? ⟨bn, on + k * 8 + 4, none⟩ = some (.int .i64 n.cap.p)) w' from fun w' hb => ⟨hb.mono hzX, fun o => (hb.cell (p := ⟨_, _, none⟩) (Nat.lt_of_lt_of_le hwX hzX)).trans (BC.cell o), cellK hb y0, cellK hb y1, cellK hb y2, cellK hb (cellK hD HN.out.1), cellK hb (cellK hD HN.out.2.1), cellK hb (cellK hD HN.out.2.2)⟩)
          have hbX : bn < X.heap.size := Nat.lt_of_lt_of_le hbn hX.size
          have hown := HO3.out.o
          have HKA := Lib.hid (show ∀ Y w' : World, Below wc.heap.size wc Y → Below X.heap.size Y w' → Y.grownBy w' (Value.ownBlock vl) → (fun w' => Below X.heap.size wc w' ∧ (∀ o, w'.cell? ⟨w.heap.size, o, none⟩ = (#[.slice D0 c.tasks.length e0, .slice (some ⟨bn, on, none⟩) c.nodes.length e1, .slice D2 c.binds.length e2] : Array Value)[o]?) ∧ w'.cell? ⟨g5, 0, none⟩ = some (.int .i64 u.c) ∧ w'.cell? ⟨g5, 1, none⟩ = some (.int .i64 u.m) ∧ w'.cell? ⟨g5, 2, none⟩ = some (.int .i64 u.p) ∧ w'.cell? ⟨bn, on + k * 8 + 2, none⟩ = some (.int .i64 n.cap.c) ∧ w'.cell? ⟨bn, on + k * 8 + 3, none⟩ = some (.int .i64 n.cap.m) ∧ w'.cell? ⟨bn, on + k * 8 + 4, none⟩ = some (.int .i64 n.cap.p)) w' from fun Y w' hY hb hg => by
            obtain ⟨-, s1, s2, s3', s4, s5, s6, s7⟩ := HKW.out Y hY
            have hne : some g5 ≠ Value.ownBlock vl := fun e => by have := own_lt hown g5 (by simp [blk, ← e]); omega
            exact ⟨(hY.mono hzX).trans hb, fun o => (hb.cell (p := ⟨_, _, none⟩) hwX).trans (s1 o), hg.cell s2 hne, hg.cell s3' hne, hg.cell s4 hne, (hb.cell (p := ⟨_, _, none⟩) hbX).trans s5, (hb.cell (p := ⟨_, _, none⟩) hbX).trans s6, (hb.cell (p := ⟨_, _, none⟩) hbX).trans s7⟩)
          clear HK HBC3 BC y0 y1 y2 HUN HN hown
          go_wp2_with fail
          go_region_held3 (fun w' => Below X.heap.size wc w' ∧ (∀ o, w'.cell? ⟨w.heap.size, o, none⟩ = (#[.slice D0 c.tasks.length e0, .slice (some ⟨bn, on, none⟩) c.nodes.length e1, .slice D2 c.binds.length e2] : Array Value)[o]?) ∧ w'.cell? ⟨g5, 0, none⟩ = some (.int .i64 u.c) ∧ w'.cell? ⟨g5, 1, none⟩ = some (.int .i64 u.m) ∧ w'.cell? ⟨g5, 2, none⟩ = some (.int .i64 u.p) ∧ w'.cell? ⟨bn, on + k * 8 + 2, none⟩ = some (.int .i64 n.cap.c) ∧ w'.cell? ⟨bn, on + k * 8 + 3, none⟩ = some (.int .i64 n.cap.m) ∧ w'.cell? ⟨bn, on + k * 8 + 4, none⟩ = some (.int .i64 n.cap.p))
            (first | exact HS4.out | exact HKW.out _ (by repeat' (first | exact Below.refl _ _ | refine Below.alloc ?_ ?_ _ | refine Below.setCell ?_ ?_ _ | refine Below.drew ?_ | (apply below_step; assumption) | (simp; done) | (simp; omega) | omega)))
            (first
              | (go_at_call 18; refine (HSH.out _).mono ?_; rintro e w10 ⟨rfl, hb10⟩; have hz10 := hb10.size; (try simp at hz10); have HO10 := Lib.hid ((HO9.out.below (B := wc.heap.size) (by repeat' (first | exact Below.refl _ _ | refine Below.alloc ?_ ?_ _ | refine Below.setCell ?_ ?_ _ | refine Below.drew ?_ | (apply below_step; assumption) | (simp; done) | (simp; omega) | omega)) (Nat.le_refl _)).below hb10 (Nat.le_refl _)))
              | (refine step_append_i2 _ (by rfl) (.tmp 30) (.tmp 39) (by rfl) X.heap.size _ ((c.nodes.take k).map (shareN c)) sh _ (by rfl) (by first | exact HO10.out.alloc _ | exact (HO10.out.below (B := w10.heap.size) (by repeat' (first | exact Below.refl _ _ | refine Below.alloc ?_ ?_ _ | refine Below.setCell ?_ ?_ _ | refine Below.drew ?_ | (apply below_step; assumption) | (simp; done) | (simp; omega) | omega)) (Nat.le_refl _))) (by rfl) (by simp) (by have := HLN.out; omega) (by simp; omega) ?_; intro v' w4 hown4 hb4 hg4; have HS4 := Lib.hid (HKA.out _ _ (by repeat' (first | exact Below.refl _ _ | refine Below.alloc ?_ ?_ _ | refine Below.setCell ?_ ?_ _ | refine Below.drew ?_ | (apply below_step; assumption) | (simp; done) | (simp; omega) | omega)) hb4 hg4); have hz4 := hb4.size; (try simp at hz4)))
          all_goals
            go_wp2_with fail
            go_roundw
            case rel =>
              refine ⟨k + 1, _, by omega, by simp, by go_num, rfl, ?_, ?_⟩
              · rw [HNT.out, HSV.out]; exact hown4
              · have h3 : Below X.heap.size wc w10 := (Below.refl X.heap.size wc).drew.trans (hb10.mono (by simpa using hzX))
                exact hX9.trans ((h3.alloc (by omega) _).trans hb4)
            case measure => simp [intOf]; omega
      · have hkl : k = c.nodes.length := by omega
        have HFF := Lib.hid (show OwnsJ w3 X.heap.size _ (c.nodes.map (shareN c)) by have := HO3.out; rw [hkl, List.take_length] at this; exact this)
        clear hkl
        go_wp2_with fail
        go_ret
        exact ⟨_, rfl, by rw [HE.out]; exact HFF.out.lower hX.size, hC3⟩
end Go.Proofs.YtkaecjjbammphaaGreatDoor
