/- Rows of bytes of the call's own; append of a byte; markByteS, heldByteS. (mkbyt.py) -/
import Derived.Test.YtcngiinaneefjaaSlByt
import Derived.Test.YtcngiinaneefjaaOwnInt
import Derived.Test.YtcngiinaneefjaaMarkF
namespace Go.Proofs.Ytcngiinaneefjaa
open Go.RowKit

def bytL (l : List Int) : List Value := l.map (Value.int .u8)
def BytO (w : World) (v : Value) (l : List Int) : Prop := w.ownsRow 0 5 1 v l.length (bytL l)
theorem BytO.sl {w : World} {v : Value} {l : List Int} (h : BytO w v l) : BytSl w v l := by
  obtain ⟨A, c, rfl, hA⟩ := own_form h
  rcases Nat.eq_zero_or_pos l.length with h0 | hp
  · obtain rfl : l = [] := List.eq_nil_of_length_eq_zero h0
    exact .inl ⟨rfl, _, _, rfl⟩
  · obtain ⟨g, rfl, hlt, hc⟩ := hA hp
    exact .inr ⟨g, 0, c, rfl, hlt, fun i r hr => hc _ _ (by simp [bytL, hr])⟩
/-- The slice value v owns the ints l, in blocks from base on. -/
def OwnsY (w : World) (base : Nat) (v : Value) (l : List Int) : Prop := w.ownsRow base 5 1 v l.length (bytL l)
section
variable {w w' : World} {base : Nat} {v : Value} {l : List Int}
theorem OwnsY.alloc (h : OwnsY w base v l) (o : Obj) : OwnsY (w.alloc o) base v l := World.ownsRow.alloc h o
theorem OwnsY.nil (w : World) (base : Nat) : OwnsY w base (.slice none 0 0) [] := World.ownsRow_nil w base _ _
theorem OwnsY.o (h : OwnsY w base v l) : BytO w v l := by
  obtain ⟨h1, h2⟩ := h
  refine ⟨h1, ?_⟩
  rcases h2 with h | ⟨g, cap, cur, hv, hg, h⟩
  · exact .inl h
  · exact .inr ⟨g, cap, cur, hv, Nat.zero_le _, h⟩
theorem OwnsY.low (h : OwnsY w base v l) : ∀ b ∈ blk v, base ≤ b := by
  rcases h.2 with ⟨rfl, _⟩ | ⟨g, cap, cur, rfl, hg, _⟩
  · intro b hb; simp [blk, Value.ownBlock] at hb
  · intro b hb
    simp [blk, Value.ownBlock] at hb
    omega
theorem OwnsY.below {B : Nat} (h : OwnsY w base v l) (hb : Below B w w') (hB : w.heap.size ≤ B) : OwnsY w' base v l := by
  obtain ⟨h1, h2⟩ := h
  refine ⟨h1, ?_⟩
  rcases h2 with h | ⟨g, cap, cur, hv, hg, hh, h⟩
  · exact .inl h
  · have hlt : g < w.heap.size := (Array.getElem?_eq_some_iff.1 hh).1
    exact .inr ⟨g, cap, cur, hv, hg, (hb.block g (by omega)).trans hh, h⟩
theorem OwnsY.lower {b : Nat} (h : OwnsY w base v l) (hb : b ≤ base) : OwnsY w b v l := by
  obtain ⟨h1, h2⟩ := h
  refine ⟨h1, ?_⟩
  rcases h2 with h | ⟨g, cap, cur, hv, hg, h⟩
  · exact .inl h
  · exact .inr ⟨g, cap, cur, hv, Nat.le_trans hb hg, h⟩
end
theorem bytL_snoc (l : List Int) (r : Int) : bytL (l ++ [r]) = bytL l ++ [.int .u8 r] := by simp [bytL]
theorem wpList_append_y {ops : Array Oper} {rest : List Oper} {o : Oper} {a : Act} {Q : Exit → Act → World → Prop} (w : World) (hgd : o.guard = none) (s x : Operand)
    (ho : o.op = .call { callee := .builtin .append, args := #[s, x], argTypes := #[22, 22] })
    (base : Nat) (v : Value) (l : List Int) (r : Int) (g : Nat) (hs : a.eval s = v) (hown : OwnsY w base v l) (hx : a.eval x = .slice (some ⟨g, 0, none⟩) 1 1)
    (h0 : w.cell? ⟨g, 0, none⟩ = some (.int .u8 r)) (hl : l.length ≤ 2000000) (hbase : base ≤ w.heap.size)
    (h : ∀ v' w', OwnsY w' base v' (l ++ [r]) → Below base w w' → wpList Try.prog ops Q rest (a.put o.dst v') w') : wpList Try.prog ops Q (o :: rest) a w := by
  obtain ⟨i0, hi0, hz0, hz1, hz2⟩ := info_parts Try.infoY
  refine wpList_append_own w hgd s x 22 ho base 5 i0 _ 1 1 Try.underlying22 hi0 hz0 hz1 hz2 rfl (by omega) v l.length (bytL l) hs hown ⟨g, 0, none⟩ 1 1 [.int .u8 r] hx rfl ?_ ?_ (by simp only [maxLen]; omega) (by omega) hbase ?_
  · intro j u hj
    match j, hj with
    | 0, hj => simp at hj; subst hj; simpa [Addr.add] using h0
  · intro u hu
    simp at hu
    subst hu; rfl
  · intro v' w' hown' hgrow _
    refine h v' w' ?_ ((Below.refl _ _).grown hgrow hbase (fun k hk => (World.ownsRow.lt hown k hk).1))
    unfold OwnsY
    rw [bytL_snoc, List.length_append]
    exact hown'
theorem BytSl.news {w : World} {A : Option Addr} {c : Nat} {l : List Int} (h : BytSl w (.slice A l.length c) l) : 0 < l.length → ∃ b off, A = some ⟨b, off, none⟩ ∧ CellsAt w b off (bytL l) := by
  intro hp
  obtain ⟨A', c', e, h'⟩ := h.form
  simp only [Value.slice.injEq] at e
  obtain ⟨rfl, _, _⟩ := e
  obtain ⟨b, off, rfl, _, hat⟩ := h' hp
  refine ⟨b, off, rfl, fun j u hu => ?_⟩
  simp [bytL] at hu
  obtain ⟨r, hr, rfl⟩ := hu
  exact hat _ _ hr
theorem bytL_one (l : List Int) : ∀ u ∈ bytL l, u.oneCell' = true := by
  intro u hu
  simp [bytL] at hu
  obtain ⟨r, _, h⟩ := hu; subst h; rfl
/-- The marks that a list of bytes bears. -/
def mByts : Int → Nat → List Int
  | _, 0 => []
  | k, n + 1 => k % 256 :: mByts (k + 1) n
theorem mByts_len (k : Int) (n : Nat) : (mByts k n).length = n := by
  induction n generalizing k with
  | zero => rfl
  | succ n ih => simp [mByts, ih]
theorem mByts_snoc (k : Int) (n : Nat) : mByts k (n + 1) = mByts k n ++ [(k + n) % 256] := by
  induction n generalizing k with
  | zero => simp [mByts]
  | succ n ih =>
    rw [mByts, ih (k + 1)]
    simp only [mByts, List.cons_append, Int.natCast_add, Int.natCast_one]
    rw [show k + 1 + (n : Int) = k + ((n : Int) + 1) by omega]
theorem mByts_at (k : Int) {n i : Nat} (h : i < n) : (mByts k n)[i]? = some ((k + i) % 256) := by
  induction n generalizing k i with
  | zero => omega
  | succ n ih =>
    cases i with
    | zero => simp [mByts]
    | succ i =>
      rw [mByts, List.getElem?_cons_succ, ih (k + 1) (by omega)]
      congr 2; omega
theorem conv_byte (n : Int) (w : World) : (convert 3 5 (.int .i64 n)).run Try.prog w = .ok (.int .u8 (n % 256)) w := by
  have := IntKind.wrap_u8' n
  simp [go_sem, this]
set_option maxHeartbeats 1600000 in
theorem markByteS_any (v : Value) (l : List Int) (k : Int) (w : World) (h : BytO w v l) (hl : l.length ≤ 1048576) (h0 : 0 ≤ k) (hk : k ≤ 1152921504606846976) :
    Calls Try.prog 12 #[v, .int .i64 k] w fun e w' => e = .returned (.int .i64 (k + l.length)) ∧ BytO w' v (mByts k l.length) ∧ w.grownBy w' v.ownBlock := by
  obtain ⟨A, c, rfl, _⟩ := own_form h
  have HO := Lib.hid h
  clear h
  have cvt := conv_byte
  go_enter Try.func12, Try.ntmps12
  go_wp2_with fail
  go_loopw [1, 5] (fun s1 s5 wr => ∃ i : Nat, i ≤ l.length ∧ s5 = .int .i64 i ∧ s1 = .int .i64 (k + i) ∧ wr.ownsRow 0 5 1 (.slice A l.length c) l.length (bytL (mByts k i) ++ bytL (l.drop i)) ∧ w.grownBy wr (Value.slice A l.length c).ownBlock) (fun _ s5 _ => (l.length - intOf s5).toNat)
  case atStart => exact ⟨0, by omega, rfl, by simp, HO.out, grownBy_refl _ _⟩
  case round =>
    obtain ⟨i, hi, rfl, rfl, hown, hg⟩ := hrel
    by_cases hlt : i < l.length
    · obtain ⟨r, hr⟩ : ∃ r, l[i]? = some r := ⟨_, List.getElem?_eq_getElem hlt⟩
      obtain ⟨g, cap, e, hgl, hcell, hfr⟩ := own_cells hown (by omega)
      simp only [Value.slice.injEq] at e
      obtain ⟨rfl, -, rfl⟩ := e
      rw [drop_at hr] at hown hcell
      have hxl : (bytL (mByts k i)).length = i := by simp [bytL, mByts_len]
      have u0 := hcell i (.int .u8 r) (by rw [List.getElem?_append_right (by omega), hxl]; simp [bytL])
      have HX := Lib.hid hown
      have HG := Lib.hid hg
      have HXL := Lib.hid hxl
      have hlti : (i : Int) < (l.length : Int) := by omega
      clear hown hg hcell hxl hr
      go_wp2_with fail
      go_roundw
      case rel =>
        refine ⟨i + 1, by omega, by go_num, by go_num, ?_, grown_set HG.out rfl _ _⟩
        have st := own_put (g := g) (xa := bytL (mByts k i)) (cs := [.int .u8 r]) (ds := [.int .u8 ((k + i) % 256)]) (xb := bytL (l.drop (i + 1))) HX.out rfl rfl
        rw [HXL.out] at st
        rw [mByts_snoc]
        have e : bytL (mByts k i ++ [(k + (i : Int)) % 256]) = bytL (mByts k i) ++ [.int .u8 ((k + i) % 256)] := by simp [bytL]
        rw [e, List.append_assoc]
        exact st
      case measure => simp [intOf]; omega
    · obtain rfl : i = l.length := by omega
      have HX := Lib.hid hown
      have HG := Lib.hid hg
      clear hown hg
      go_wp2_with fail
      go_ret
      refine ⟨rfl, ?_, HG.out⟩
      have := HX.out
      rw [List.drop_length] at this
      unfold BytO
      rw [mByts_len]
      simpa [bytL] using this

set_option maxHeartbeats 1600000 in
theorem heldByteS_any (v : Value) (n : Nat) (k : Int) (w : World) (h : BytSl w v (mByts k n)) (hl : n ≤ 1048576) (h0 : 0 ≤ k) (hk : k ≤ 1152921504606846976) :
    Calls Try.prog 13 #[v, .int .i64 k] w fun e w' => e = .returned (.int .i64 (k + n)) ∧ w = w' := by
  obtain ⟨A, c, rfl, hA⟩ := h.form
  rw [mByts_len] at hA ⊢
  have HA := Lib.hid hA
  clear hA h
  have cvt := conv_byte
  go_enter Try.func13, Try.ntmps13
  go_wp2_with fail
  go_loop [1, 5] (fun s1 s5 => ∃ i : Nat, i ≤ n ∧ s5 = .int .i64 i ∧ s1 = .int .i64 (k + i)) (fun _ s5 => (n - intOf s5).toNat)
  case atStart => exact ⟨0, by omega, rfl, by simp⟩
  case round =>
    obtain ⟨i, hi, rfl, rfl⟩ := hrel
    by_cases hlt : i < n
    · obtain ⟨b, off, rfl, hbw, hat⟩ := HA.out (by omega)
      have u0 := hat i _ (mByts_at k hlt)
      have n0 : (((k + (i : Int)) % 256) != ((k + (i : Int)) % 256)) = false := by simp
      have hlti : (i : Int) < (n : Int) := by omega
      clear hat
      go_wp2_with fail
      go_round
      case rel => exact ⟨i + 1, by omega, by go_num, by go_num⟩
      case measure => simp [intOf]; omega
    · obtain rfl : i = n := by omega
      go_wp2_with fail
      go_ret
      exact ⟨rfl, rfl⟩

end Go.Proofs.Ytcngiinaneefjaa
