/- The contracts of NumBytes and of its model: the bytes of an integer, in a slice of the call's own. -/
import Derived.Test.YtcngiinaneefjaaOwnByt
import Derived.Test.YtcngiinaneefjaaBytP
import Derived.Test.YtcngiinaneefjaaLeaseI
import Derived.Laws.BitsAllLaws
namespace Go.Proofs.Ytcngiinaneefjaa
open Go.RowKit

/-- The ending 'bytes of the call's own'. -/
def RetByts (w : World) (l : List Int) (e : Ending) (w' : World) : Prop := ∃ v, e = .returned v ∧ OwnsY w' w.heap.size v l ∧ Below w.heap.size w w'
theorem bits_128 (m : Nat) : bits .or .u8 ((m : Int) % 128 % 256) 128 = ((m % 128 + 128 : Nat) : Int) := by
  have hx : (m % 128 ||| 128 : Nat) = m % 128 + 128 := by
    have := Nat.two_pow_add_eq_or_of_lt (b := m % 128) (i := 7) (by omega) 1
    rw [Nat.or_comm, show (128 : Nat) = 2 ^ 7 * 1 from rfl, ← this]
    omega
  rw [show ((m : Int) % 128 % 256) = ((m % 128 : Nat) : Int) by omega, show (128 : Int) = ((128 : Nat) : Int) from rfl, u8_or_nat _ _ (by omega) (by omega), hx]
theorem shr_7 (m : Nat) (w : World) : (binOp .shr 3 (.int .i64 m) (.int .u64 7)).run Try.prog w = .ok (.int .i64 ((m / 128 : Nat) : Int)) w := by
  simp [go_sem]

set_option maxHeartbeats 1600000 in
theorem NumBytes_any (n : Int) (w : World) : Calls Try.prog 8 #[.int .i64 n] w (RetByts w (numBytes n)) := by
  have cvt := conv_byte
  have hor := bits_128
  have hsh := shr_7
  by_cases hn : 0 ≤ n ∧ n ≤ 4294967295
  · have hE : numBytes n = numB n.toNat := by rw [numBytes, if_pos hn]
    have hlw : lWithin n 0 4294967295 = true := by simp [lWithin, hn]
    obtain ⟨N, rfl⟩ := Int.eq_ofNat_of_zero_le hn.1
    have hN : N ≤ 4294967295 := by omega
    rw [hE, Int.toNat_natCast]
    have HL := Lib.hid (numB_len 4 N (by omega))
    clear hE hn
    go_enter Try.func8, Try.ntmps8
    go_wp2_with (go_at_call 19; refine (within_any _ 0 4294967295 _).mono ?_; rintro e w1 ⟨rfl, rfl⟩; rw [hlw])
    go_loopw [0, 3] (fun s0 s3 wr => ∃ (m : Nat) (pre : List Int), s0 = .int .i64 m ∧ m ≤ 4294967295 ∧ numB N = pre ++ numB m ∧ OwnsY wr w.heap.size s3 pre ∧ Below w.heap.size w wr) (fun s0 _ _ => (intOf s0).toNat)
    case atStart => exact ⟨N, [], rfl, hN, rfl, OwnsY.nil _ _, Below.refl _ _⟩
    case round =>
      obtain ⟨m, pre, rfl, hm, hpre, hown, hB⟩ := hrel
      have HP := Lib.hid hpre
      have HO := Lib.hid hown
      have HLP := Lib.hid (show pre.length ≤ 5 by have := HL.out; rw [hpre, List.length_append] at this; omega)
      have hzr := hB.size
      clear hpre hown
      by_cases hlt : (128 : Int) ≤ (m : Int)
      · have HB := Lib.hid (numB_big (n := m) (by omega))
        go_wp2_with (at_builtin; refine wpList_append_y _ rfl (.tmp 11) (.tmp 16) rfl w.heap.size _ pre ((m % 128 + 128 : Nat) : Int) wr.heap.size rfl (HO.out.alloc _) rfl (by simp) (by have := HLP.out; omega) (by simp; omega) ?_; intro v' w6 hown6 hb6)
        go_roundw
        case rel =>
          refine ⟨m / 128, _, by go_num, by omega, ?_, hown6, (hB.alloc (by omega) _).trans hb6⟩
          rw [HP.out, HB.out, List.append_assoc]; rfl
        case measure => simp [intOf]; omega
      · have HB := Lib.hid (numB_small (n := m) (by omega))
        have hmm : (m : Int) % 256 = m := by omega
        go_wp2_with (at_builtin; refine wpList_append_y _ rfl (.tmp 18) (.tmp 21) rfl w.heap.size _ pre (m : Int) wr.heap.size rfl (HO.out.alloc _) rfl (by simp) (by have := HLP.out; omega) (by simp; omega) ?_; intro v' w6 hown6 hb6)
        go_ret
        exact ⟨_, rfl, by rw [HP.out, HB.out]; exact hown6, (hB.alloc (by omega) _).trans hb6⟩
  · have hE : numBytes n = [] := by rw [numBytes, if_neg hn]
    have hlw : lWithin n 0 4294967295 = false := by simp [lWithin]; omega
    rw [hE]
    clear hE
    go_enter Try.func8, Try.ntmps8
    go_wp2_with (go_at_call 19; refine (within_any _ 0 4294967295 _).mono ?_; rintro e w1 ⟨rfl, rfl⟩; rw [hlw])
    go_ret
    exact ⟨_, rfl, OwnsY.nil _ _, Below.refl _ _⟩
end Go.Proofs.Ytcngiinaneefjaa
