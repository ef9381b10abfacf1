/- Chapter 10 in plain Lean: the bytes of integers, and what is read out of bytes. -/
import Derived.Test.YtcngiinaneefjaaBase
namespace Go.Proofs.Ytcngiinaneefjaa

/-- The bytes of an integer, seven bits in each. -/
def numB (n : Nat) : List Int := if n < 128 then [(n : Int)] else ((n % 128 + 128 : Nat) : Int) :: numB (n / 128)
termination_by n
decreasing_by omega
def numBytes (n : Int) : List Int := if 0 ≤ n ∧ n ≤ 4294967295 then numB n.toNat else []
theorem numB_small {n : Nat} (h : n < 128) : numB n = [(n : Int)] := by rw [numB, if_pos h]
theorem numB_big {n : Nat} (h : 128 ≤ n) : numB n = ((n % 128 + 128 : Nat) : Int) :: numB (n / 128) := by rw [numB, if_neg (by omega)]
theorem numB_len (k : Nat) : ∀ n : Nat, n < 128 ^ (k + 1) → (numB n).length ≤ k + 1 := by
  induction k with
  | zero => intro n h; rw [numB_small (by omega)]; simp
  | succ k ih =>
    intro n h
    by_cases hn : n < 128
    · rw [numB_small hn]; simp
    · rw [numB_big (by omega)]
      have := ih (n / 128) (by rw [Nat.pow_succ] at h; omega)
      simp only [List.length_cons]; omega
theorem numBytes_len (n : Int) : (numBytes n).length ≤ 5 := by
  unfold numBytes
  split
  · exact numB_len 4 _ (by omega)
  · simp
theorem numB_pos (n : Nat) : 0 < (numB n).length := by
  by_cases h : n < 128
  · rw [numB_small h]; simp
  · rw [numB_big (by omega)]; simp

/-- What bytes stand for. -/
def valB : List Int → Int
  | [] => 0
  | b :: s => b % 128 + 128 * valB s
theorem valB_nonneg : ∀ l : List Int, 0 ≤ valB l
  | [] => by simp [valB]
  | b :: s => by have := valB_nonneg s; simp only [valB]; omega
theorem valB_snoc : ∀ (l : List Int) (b : Int), valB (l ++ [b]) = valB l + 128 ^ l.length * (b % 128)
  | [], b => by simp [valB]
  | c :: s, b => by
    simp only [List.cons_append, valB, valB_snoc s b, List.length_cons, Int.pow_succ, Int.mul_add]
    rw [show (128 : Int) ^ s.length * 128 * (b % 128) = 128 * (128 ^ s.length * (b % 128)) by rw [Int.mul_comm (128 ^ s.length) 128, Int.mul_assoc]]
    omega
/-- The bytes ahead of the last one, and the last. -/
theorem numB_of : ∀ (l : List Int) (b : Int), (∀ x ∈ l, 128 ≤ x ∧ x ≤ 255) → 0 ≤ b → b < 128 →
    ((numB (valB (l ++ [b])).toNat = l ++ [b]) ↔ (0 < b ∨ l = []))
  | [], b, _, h0, h1 => by
    have : valB ([] ++ [b]) = b := by simp [valB]; omega
    rw [this, numB_small (by omega)]
    simp; omega
  | c :: s, b, hl, h0, h1 => by
    have ih := numB_of s b (fun x hx => hl x (List.mem_cons_of_mem _ hx)) h0 h1
    have hc := hl c (by simp)
    have hv := valB_nonneg (s ++ [b])
    simp only [List.cons_append, valB]
    by_cases hz : valB (s ++ [b]) = 0
    · have hb : b = 0 := by
        rw [valB_snoc] at hz
        have h1' := valB_nonneg s
        have h2 : 0 ≤ (128 : Int) ^ s.length * (b % 128) := Int.mul_nonneg (Int.pow_nonneg (by omega)) (by omega)
        have h3 : (128 : Int) ^ s.length * (b % 128) = 0 := by omega
        have h4 : (0 : Int) < 128 ^ s.length := Int.pow_pos (by omega)
        rcases Int.mul_eq_zero.1 h3 with h | h <;> omega
      rw [hz, numB_small (by omega)]
      subst hb
      constructor
      · intro h
        have := congrArg List.length h
        simp at this
      · rintro (h | h)
        · omega
        · cases h
    · rw [numB_big (by omega)]
      rw [show (c % 128 + 128 * valB (s ++ [b])).toNat % 128 + 128 = c.toNat by omega, show (c % 128 + 128 * valB (s ++ [b])).toNat / 128 = (valB (s ++ [b])).toNat by omega, show ((c.toNat : Nat) : Int) = c by omega]
      simp only [List.cons.injEq, true_and, ih]
      constructor
      · rintro (h | h)
        · exact .inl h
        · subst h
          left
          simp [valB] at hz
          omega
      · rintro (h | h)
        · exact .inl h
        · cases h

/-- An integer of at most k bytes more, of which p were read and stand for n. -/
def numAt (l : List Int) : Nat → Nat → Int → Nat → Option (Int × Nat)
  | 0, _, _, _ => none
  | k + 1, p, n, a =>
    match l[a]? with
    | none => none
    | some b =>
      if b < 128 then (if n + b % 128 * 128 ^ p ≤ 4294967295 ∧ (0 < b ∨ p = 0) then some (n + b % 128 * 128 ^ p, a + 1) else none)
      else numAt l k (p + 1) (n + b % 128 * 128 ^ p) (a + 1)
/-- What stands at a place. -/
def numRead (l : List Int) (a : Int) : Option (Int × Nat) := if 0 ≤ a then numAt l 5 0 0 a.toNat else none
end Go.Proofs.Ytcngiinaneefjaa
