/- Rows of instances that a call owns: copies, an instance gone, an instance inserted; orders behind their interface. -/
import Derived.Test.YtbmiefhgkagcgaaInsN
import Derived.Test.YtbmiefhgkagcgaaProvI
namespace Go.Proofs.Ytbmiefhgkagcgaa
open Go.RowKit

theorem own_rebase {w : World} {base : Nat} {e : TypeId} {size n : Nat} {v : Value} {xs : List Value} (h : w.ownsRow 0 e size v n xs) (hb : ∀ b ∈ blk v, base ≤ b) : w.ownsRow base e size v n xs := by
  obtain ⟨h1, h2⟩ := h
  refine ⟨h1, ?_⟩
  rcases h2 with h | ⟨g, cap, cur, rfl, _, hh, h⟩
  · exact .inl h
  · exact .inr ⟨g, cap, cur, rfl, hb g (by simp [blk, Value.ownBlock]), hh, h⟩
theorem own_zero {w : World} {base : Nat} {e : TypeId} {size n : Nat} {v : Value} {xs : List Value} (h : w.ownsRow base e size v n xs) : w.ownsRow 0 e size v n xs := by
  obtain ⟨h1, h2⟩ := h
  refine ⟨h1, ?_⟩
  rcases h2 with h | ⟨g, cap, cur, rfl, _, hh, h⟩
  · exact .inl h
  · exact .inr ⟨g, cap, cur, rfl, Nat.zero_le _, hh, h⟩
theorem inL_one (l : List RV) : ∀ u ∈ inL l, u.oneCell' = true := by
  intro u hu
  simp only [inL, List.mem_flatMap] at hu
  obtain ⟨x, _, hu⟩ := hu
  simp at hu
  rcases hu with rfl | rfl | rfl <;> rfl
theorem inL_take (l : List RV) (i : Nat) : (inL l).take (i * 3) = inL (l.take i) := by
  induction l generalizing i with
  | nil => simp [inL]
  | cons x r ih =>
    cases i with
    | zero => simp [inL]
    | succ i => rw [inL_cons, List.take_succ_cons, inL_cons, show (i + 1) * 3 = i * 3 + 1 + 1 + 1 by omega]; simp [ih]
theorem inL_drop (l : List RV) (i : Nat) : (inL l).drop (i * 3) = inL (l.drop i) := by
  induction l generalizing i with
  | nil => simp [inL]
  | cons x r ih =>
    cases i with
    | zero => simp
    | succ i => rw [inL_cons, List.drop_succ_cons, show (i + 1) * 3 = i * 3 + 1 + 1 + 1 by omega]; simp [ih]
theorem InSl.news {w : World} {A : Option Addr} {n c : Nat} {l : List RV} (h : InSl w (.slice A n c) l) : 0 < n → ∃ b off, A = some ⟨b, off, none⟩ ∧ CellsAt w b off (inL l) := by
  intro hp
  rcases h with ⟨rfl, A', c', e⟩ | ⟨b, off, c', e, _, hat⟩
  · simp only [Value.slice.injEq] at e; omega
  · simp only [Value.slice.injEq] at e
    obtain ⟨rfl, -, -⟩ := e
    refine ⟨b, off, rfl, fun j u hu => ?_⟩
    have hj : j < l.length * 3 := by have := (List.getElem?_eq_some_iff.1 hu).1; rwa [inL_length] at this
    obtain ⟨r, hr⟩ : ∃ r, l[j / 3]? = some r := ⟨_, List.getElem?_eq_getElem (by omega)⟩
    obtain ⟨h1, h2, h3⟩ := hat _ r hr
    obtain ⟨k1, k2, k3⟩ := inL_at hr
    rcases (show j = j / 3 * 3 ∨ j = j / 3 * 3 + 1 ∨ j = j / 3 * 3 + 2 by omega) with e | e | e
    · rw [← e] at k1 h1; rw [hu] at k1; rw [h1, k1]
    · rw [← e] at k2; rw [hu] at k2; rw [show off + j = off + j / 3 * 3 + 1 by omega, h2, k2]
    · rw [← e] at k3; rw [hu] at k3; rw [show off + j = off + j / 3 * 3 + 2 by omega, h3, k3]
theorem noneN_below {w w' : World} (h : w.grownBy w' none) : Below w.heap.size w w' := (Below.refl _ _).grown h (Nat.le_refl _) (fun k hk => by cases hk)
theorem noneN_blk {w : World} {v' : Value} (hk : v'.ownBlock = (none : Option Nat) ∨ v'.ownBlock = some w.heap.size) : ∀ b ∈ blk v', w.heap.size ≤ b := by
  rcases hk with e | e <;> simp [blk, e]
set_option maxHeartbeats 1600000 in
theorem copyInst_any (v : Value) (l : List RV) (w : World) (h : InSl w v l) (hl : l.length ≤ 1048576) :
    Calls Try.prog 41 #[v] w fun e w' => ∃ v', e = .returned v' ∧ OwnsN w' w.heap.size v' l ∧ Below w.heap.size w w' := by
  obtain ⟨i0, hi0, hz0, hs0, hy0⟩ := info_parts Try.infoInst
  obtain ⟨A, c, rfl, _⟩ := h.form
  have HN := Lib.hid h.news
  clear h
  go_enter Try.func41, Try.ntmps41
  go_wp2_with (at_builtin; refine wpList_spread _ rfl (.const (.slice none 0 0)) (.tmp 3) 24 rfl 38 i0 _ 3 24 Try.underlying24 hi0 hz0 hs0 hy0 rfl (by omega) (.slice none 0 0) 0 [] rfl (World.ownsRow_nil _ _ _ _) A l.length c (inL l) rfl (inL_length l) HN.out (inL_one l) (by simp only [maxLen]; omega) (by omega) ?_; intro v' w1 hown1 hg1 hk1)
  have hb1 := noneN_below hg1
  have hlo := noneN_blk hk1
  rw [Nat.zero_add, List.nil_append] at hown1
  go_ret
  exact ⟨v', rfl, own_rebase hown1 hlo, hb1⟩

/-- An order behind its interface. -/
def orderV (m : MV) (works : Bool) : Value := if m.k = 2 then .iface 69 (.agg #[]) else .iface 66 (.agg #[.int .i64 m.i, .int .i64 m.p, .int .i64 (if works then 1 else 2)])
theorem orderOf_any (m : MV) (works : Bool) (w : World) : Calls Try.prog 39 #[.agg #[.int .i64 m.k, .int .i64 m.e, .int .i64 m.i, .int .i64 m.p], .bool works] w fun e w' => e = .returned (orderV m works) ∧ Below w.heap.size w w' := by
  have HE := Lib.hid (show orderV m works = if m.k = 2 then .iface 69 (.agg #[]) else .iface 66 (.agg #[.int .i64 m.i, .int .i64 m.p, .int .i64 (if works then 1 else 2)]) from rfl)
  generalize orderV m works = ans at *
  go_enter Try.func39, Try.ntmps39
  by_cases hk : m.k = 2
  · have HE' := Lib.hid (show ans = .iface 69 (.agg #[]) by rw [HE.out, if_pos hk])
    go_wp2_with fail
    go_ret
    exact ⟨by rw [HE'.out]; rfl, (by repeat' (first | exact Below.refl _ _ | refine Below.alloc ?_ ?_ _ | refine Below.setCell ?_ ?_ _ | refine Below.drew ?_ | (apply below_step; assumption) | (simp; done) | (simp; omega) | omega))⟩
  · have HE' := Lib.hid (show ans = .iface 66 (.agg #[.int .i64 m.i, .int .i64 m.p, .int .i64 (if works then 1 else 2)]) by rw [HE.out, if_neg hk])
    clear HE
    cases works
    all_goals
      go_wp2_with fail
      go_ret
      exact ⟨by rw [HE'.out]; rfl, (by repeat' (first | exact Below.refl _ _ | refine Below.alloc ?_ ?_ _ | refine Below.setCell ?_ ?_ _ | refine Below.drew ?_ | (apply below_step; assumption) | (simp; done) | (simp; omega) | omega))⟩
/-- The refusals. -/
def refC (n : Nat) (b : Bool) : Int := if !b && decide (n = 60) then 5 else 0
def refT (b : Bool) : Int := if b then 0 else 6
theorem refusalC_any (r : RV) (ep : Int) (A : Option Addr) (n c : Nat) (b : Bool) (w : World) : Calls Try.prog 84 #[.agg #[.int .i64 r.c, .int .i64 r.m, .int .i64 r.p], .agg #[.int .i64 ep, .slice A n c], .bool b] w fun e w' => e = .returned (.int .i64 (refC n b)) ∧ Below w.heap.size w w' := by
  cases b
  · by_cases hn : n = 60
    · have hn' : (n : Int) = 60 := by omega
      have HE := Lib.hid (show refC n false = 5 by simp [refC, hn])
      go_enter Try.func84, Try.ntmps84
      go_wp2_with fail
      go_ret
      exact ⟨by rw [HE.out]; rfl, (by repeat' (first | exact Below.refl _ _ | refine Below.alloc ?_ ?_ _ | refine Below.setCell ?_ ?_ _ | refine Below.drew ?_ | (apply below_step; assumption) | (simp; done) | (simp; omega) | omega))⟩
    · have hn' : ¬ (n : Int) = 60 := by omega
      have HE := Lib.hid (show refC n false = 0 by simp [refC, hn])
      go_enter Try.func84, Try.ntmps84
      go_wp2_with fail
      go_ret
      exact ⟨by rw [HE.out]; rfl, (by repeat' (first | exact Below.refl _ _ | refine Below.alloc ?_ ?_ _ | refine Below.setCell ?_ ?_ _ | refine Below.drew ?_ | (apply below_step; assumption) | (simp; done) | (simp; omega) | omega))⟩
  · have HE := Lib.hid (show refC n true = 0 by simp [refC])
    go_enter Try.func84, Try.ntmps84
    go_wp2_with fail
    go_ret
    exact ⟨by rw [HE.out]; rfl, (by repeat' (first | exact Below.refl _ _ | refine Below.alloc ?_ ?_ _ | refine Below.setCell ?_ ?_ _ | refine Below.drew ?_ | (apply below_step; assumption) | (simp; done) | (simp; omega) | omega))⟩
theorem refusalT_any (ep : Int) (v : Value) (b : Bool) (w : World) : Calls Try.prog 85 #[.agg #[], .agg #[.int .i64 ep, v], .bool b] w fun e w' => e = .returned (.int .i64 (refT b)) ∧ Below w.heap.size w w' := by
  cases b
  all_goals
    go_enter Try.func85, Try.ntmps85
    go_wp2_with fail
    go_ret
    exact ⟨rfl, (by repeat' (first | exact Below.refl _ _ | refine Below.alloc ?_ ?_ _ | refine Below.setCell ?_ ?_ _ | refine Below.drew ?_ | (apply below_step; assumption) | (simp; done) | (simp; omega) | omega))⟩

theorem methodC (a b c : Int) (w : World) : (Go.method 206 66 (.agg #[.int .i64 a, .int .i64 b, .int .i64 c]) "loop.example/g00718/impl.refusal").run Try.prog w = .ok (84, .agg #[.int .i64 a, .int .i64 b, .int .i64 c]) w := by kernel_rfl
theorem methodT (w : World) : (Go.method 206 69 (.agg #[]) "loop.example/g00718/impl.refusal").run Try.prog w = .ok (85, .agg #[]) w := by kernel_rfl
theorem assertC (a b c : Int) (w : World) : (Instr.typeAssert (.iface 66 (.agg #[.int .i64 a, .int .i64 b, .int .i64 c])) 59 66 true).run Try.prog w = .ok (.tuple #[.agg #[.int .i64 a, .int .i64 b, .int .i64 c], .bool true]) w := by kernel_rfl
theorem assertT (w : World) : (Instr.typeAssert (.iface 69 (.agg #[])) 59 66 true).run Try.prog w = .ok (.tuple #[.agg #[.int .i64 0, .int .i64 0, .int .i64 0], .bool false]) w := by kernel_rfl
theorem assertTT (w : World) : (Instr.typeAssert (.iface 69 (.agg #[])) 59 69 true).run Try.prog w = .ok (.tuple #[.agg #[], .bool true]) w := by kernel_rfl

/-- The element k of an owned row is set. -/
theorem inL_set (l : List RV) (k : Nat) (x : RV) (hk : k < l.length) : inL (l.set k x) = inL (l.take k) ++ [.int .i64 x.c, .int .i64 x.m, .int .i64 x.p] ++ inL (l.drop (k + 1)) := by
  rw [List.set_eq_take_append_cons_drop, if_pos hk, inL_append, inL_cons]
  simp
theorem OwnsN.gone {w : World} {base g : Nat} {c : Nat} {l : List RV} {k : Nat} {x : RV} (h : OwnsN w base (.slice (some ⟨g, 0, none⟩) l.length c) l) (hx : l[k]? = some x) :
    OwnsN (w.setCell ⟨g, k * 3 + 2, none⟩ (.int .i64 2)) base (.slice (some ⟨g, 0, none⟩) l.length c) (l.set k ⟨x.c, x.m, 2⟩) := by
  have hk : k < l.length := (List.getElem?_eq_some_iff.1 hx).1
  obtain ⟨h1, h2⟩ := h
  rcases h2 with ⟨e, _⟩ | ⟨g', cap, cur, e, hb, hh, hnc, hcm, hs, ht⟩
  · cases e
  · simp only [Value.slice.injEq, Option.some.injEq, Addr.mk.injEq] at e
    obtain ⟨⟨rfl, -, -⟩, -, rfl⟩ := e
    refine ⟨by rw [inL_length, List.length_set], .inr ⟨g, c, cur.setIfInBounds (k * 3 + 2) (.int .i64 2), by rw [List.length_set], hb, BlockIs.put hh _ _, by rw [List.length_set]; exact hnc, hcm, by simpa using hs, ?_⟩⟩
    rw [List.length_set, Array.toList_setIfInBounds, List.take_set, ht]
    refine List.ext_getElem? fun j => ?_
    rw [List.getElem?_set]
    by_cases hj : j < l.length * 3
    · obtain ⟨y, hy⟩ : ∃ y, l[j / 3]? = some y := ⟨_, List.getElem?_eq_getElem (by omega)⟩
      obtain ⟨k1, k2, k3⟩ := inL_at hy
      have hz : (l.set k ⟨x.c, x.m, 2⟩)[j / 3]? = some (if k = j / 3 then ⟨x.c, x.m, 2⟩ else y) := by
        rw [List.getElem?_set]
        by_cases e : k = j / 3
        · rw [if_pos e, if_pos e, if_pos hk]
        · rw [if_neg e, if_neg e]; exact hy
      obtain ⟨z1, z2, z3⟩ := inL_at hz
      by_cases e : k = j / 3
      · rw [← e, hx] at hy
        obtain rfl := Option.some.inj hy
        rw [if_pos e] at z1 z2 z3
        rcases (show j = j / 3 * 3 ∨ j = j / 3 * 3 + 1 ∨ j = j / 3 * 3 + 2 by omega) with e' | e' | e'
        · rw [if_neg (by omega)]; rw [← e'] at k1 z1; rw [k1, z1]
        · rw [if_neg (by omega)]; rw [← e'] at k2 z2; rw [k2, z2]
        · rw [if_pos (by omega), if_pos (by rw [inL_length]; omega)]; rw [← e'] at z3; rw [z3]
      · rw [if_neg e] at z1 z2 z3
        rw [if_neg (by omega)]
        rcases (show j = j / 3 * 3 ∨ j = j / 3 * 3 + 1 ∨ j = j / 3 * 3 + 2 by omega) with e' | e' | e'
        · rw [← e'] at k1 z1; rw [k1, z1]
        · rw [← e'] at k2 z2; rw [k2, z2]
        · rw [← e'] at k3 z3; rw [k3, z3]
    · rw [if_neg (by omega), List.getElem?_eq_none (by rw [inL_length]; omega), List.getElem?_eq_none (by rw [inL_length, List.length_set]; omega)]
theorem OwnsN.frozen {w : World} {base g n c : Nat} {l : List RV} (h : OwnsN w base (.slice (some ⟨g, 0, none⟩) n c) l) (o : Nat) : w.frozen? ⟨g, o, none⟩ = false := by
  rcases h.2 with ⟨e, _⟩ | ⟨g', cap, cur, e, _, hh, _⟩
  · cases e
  · simp only [Value.slice.injEq, Option.some.injEq, Addr.mk.injEq] at e
    obtain ⟨⟨rfl, -, -⟩, -, -⟩ := e
    exact BlockIs.frozen (t := 38) hh o
theorem OwnsN.at_ {w : World} {base : Nat} {v : Value} {l : List RV} (h : OwnsN w base v l) {k : Nat} {x : RV} (hx : l[k]? = some x) : ∃ g c, v = .slice (some ⟨g, 0, none⟩) l.length c ∧ base ≤ g ∧ g < w.heap.size ∧ w.cell? ⟨g, k * 3, none⟩ = some (.int .i64 x.c) ∧ w.cell? ⟨g, k * 3 + 1, none⟩ = some (.int .i64 x.m) ∧ w.cell? ⟨g, k * 3 + 2, none⟩ = some (.int .i64 x.p) ∧ ∀ o, w.frozen? ⟨g, o, none⟩ = false := by
  rcases h.form with ⟨rfl, rfl⟩ | ⟨g, cap, cur, rfl, hg, hb, _, hc⟩
  · simp at hx
  · obtain ⟨h1, h2, h3⟩ := inL_at hx
    exact ⟨g, cap, rfl, hg, hb.lt, (hb.cell _).trans (hc _ _ h1), (hb.cell _).trans (hc _ _ h2), (hb.cell _).trans (hc _ _ h3), hb.frozen⟩
/-- slices.Insert of an instance. -/
theorem insInst_any (v : Value) (l : List RV) (r : RV) (i vb base : Nat) (w : World) (h : OwnsN w base v l) (hi : i ≤ l.length) (hlen : l.length ≤ 1048576) (hV : BlockIs w vb 38 #[.int .i64 r.c, .int .i64 r.m, .int .i64 r.p]) (hvb : v.ownBlock ≠ some vb) (hbw : base ≤ w.heap.size) :
    Calls Try.prog 42 #[v, .int .i64 i, .slice (some ⟨vb, 0, none⟩) 1 1] w fun e w' => ∃ v', e = .returned v' ∧ OwnsN w' base v' (l.take i ++ r :: l.drop i) ∧ (v'.ownBlock = v.ownBlock ∨ v'.ownBlock = some w.heap.size) ∧ TurnB (blk v) w w' := by
  refine (insertInst_own v l.length i vb (inL l) [.int .i64 r.c, .int .i64 r.m, .int .i64 r.p] w (own_zero h) hi hlen rfl hV (fun e => hvb (by simpa [blk, Option.mem_toList] using e)) (inL_one l) (by intro u hu; simp at hu; rcases hu with rfl | rfl | rfl <;> rfl)).mono ?_
  rintro e w' ⟨v', rfl, ho, ht, hk⟩
  have hlen' : (l.take i ++ r :: l.drop i).length = l.length + 1 := by
    rw [List.length_append, List.length_cons, List.length_take, List.length_drop]; omega
  have hkb : v'.ownBlock = v.ownBlock ∨ v'.ownBlock = some w.heap.size := by
    rcases hk with e | e
    · left
      cases h1 : v'.ownBlock <;> cases h2 : v.ownBlock <;> simp [blk, h1, h2] at e ⊢
      exact e
    · right
      cases h1 : v'.ownBlock <;> simp [blk, h1] at e ⊢
      exact e
  refine ⟨v', rfl, ?_, hkb, ht⟩
  unfold OwnsN
  rw [hlen', inL_append, inL_cons, ← inL_take, ← inL_drop]
  refine own_rebase ?_ (fun b hb => ?_)
  · simpa using ho
  · rcases hkb with e | e
    · have := (World.ownsRow.lt h b (by simpa [blk, e, Option.mem_toList] using hb)).1; exact this
    · simp [blk, e] at hb; omega
end Go.Proofs.Ytbmiefhgkagcgaa
