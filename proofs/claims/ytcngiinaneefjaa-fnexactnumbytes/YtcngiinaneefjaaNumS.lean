/- The contract of the model's NumBytes. -/
import Derived.Test.YtcngiinaneefjaaNumI
namespace Go.Proofs.Ytcngiinaneefjaa
open Go.RowKit

theorem made_y (w : World) (b : Nat) (hb : b ≤ w.heap.size) : OwnsY (w.alloc (.cells #[] 5)) b (.slice (some ⟨w.heap.size, 0, none⟩) 0 0) [] := by
  have := World.ownsRow_made (base := b) (e := 5) (size := 1) w #[] 0 hb (by unfold maxLen; omega) (by simp)
  simpa [OwnsY, bytL] using this
set_option maxHeartbeats 1600000 in
theorem sNumBytes_any (n : Int) (w : World) : Calls Try.prog 9 #[.int .i64 n] w (RetByts w (numBytes n)) := by
  have cvt := conv_byte
  by_cases hn : 0 ≤ n ∧ n ≤ 4294967295
  · have hE : numBytes n = numB n.toNat := by rw [numBytes, if_pos hn]
    obtain ⟨N, rfl⟩ := Int.eq_ofNat_of_zero_le hn.1
    have hN : N ≤ 4294967295 := by omega
    have h1 : ¬ (N : Int) < 0 := by omega
    have h2 : ¬ (4294967295 : Int) < (N : Int) := by omega
    rw [hE, Int.toNat_natCast]
    have HL := Lib.hid (numB_len 4 N (by omega))
    clear hE hn
    go_enter Try.func9, Try.ntmps9
    go_wp2_with fail
    go_loopw [0, 3] (fun s0 s3 wr => ∃ (m : Nat) (pre : List Int), s0 = .int .i64 m ∧ m ≤ 4294967295 ∧ numB N = pre ++ numB m ∧ OwnsY wr w.heap.size s3 pre ∧ Below w.heap.size w wr) (fun s0 _ _ => (intOf s0).toNat)
    case atStart => exact ⟨N, [], rfl, hN, rfl, made_y w _ (Nat.le_refl _), (by repeat' (first | exact Below.refl _ _ | refine Below.alloc ?_ ?_ _ | refine Below.setCell ?_ ?_ _ | refine Below.drew ?_ | (apply below_step; assumption) | (simp; done) | (simp; omega) | omega))⟩
    case round =>
      obtain ⟨m, pre, rfl, hm, hpre, hown, hB⟩ := hrel
      have HP := Lib.hid hpre
      have HO := Lib.hid hown
      have HLP := Lib.hid (show pre.length ≤ 5 by have := HL.out; rw [hpre, List.length_append] at this; omega)
      have hzr := hB.size
      clear hpre hown
      by_cases hlt : (128 : Int) ≤ (m : Int)
      · have HB := Lib.hid (numB_big (n := m) (by omega))
        have hmm : (128 + (m : Int) % 128) % 256 = ((m % 128 + 128 : Nat) : Int) := by omega
        go_wp2_with (at_builtin; refine wpList_append_y _ rfl (.tmp 13) (.tmp 18) rfl w.heap.size _ pre ((m % 128 + 128 : Nat) : Int) wr.heap.size rfl (HO.out.alloc _) rfl (by simp) (by have := HLP.out; omega) (by simp; omega) ?_; intro v' w6 hown6 hb6)
        go_roundw
        case rel =>
          refine ⟨m / 128, _, by go_num, by omega, ?_, hown6, (hB.alloc (by omega) _).trans hb6⟩
          rw [HP.out, HB.out, List.append_assoc]; rfl
        case measure => simp [intOf]; omega
      · have HB := Lib.hid (numB_small (n := m) (by omega))
        have hmm : (m : Int) % 256 = m := by omega
        go_wp2_with (at_builtin; refine wpList_append_y _ rfl (.tmp 22) (.tmp 25) rfl w.heap.size _ pre (m : Int) wr.heap.size rfl (HO.out.alloc _) rfl (by simp) (by have := HLP.out; omega) (by simp; omega) ?_; intro v' w6 hown6 hb6)
        go_ret
        exact ⟨_, rfl, by rw [HP.out, HB.out]; exact hown6, (hB.alloc (by omega) _).trans hb6⟩
  · have hE : numBytes n = [] := by rw [numBytes, if_neg hn]
    rw [hE]
    by_cases h1 : n < 0
    · clear hE
      go_enter Try.func9, Try.ntmps9
      go_wp2_with fail
      go_ret
      exact ⟨_, rfl, OwnsY.nil _ _, Below.refl _ _⟩
    · have h2 : (4294967295 : Int) < n := by omega
      clear hE
      go_enter Try.func9, Try.ntmps9
      go_wp2_with fail
      go_ret
      exact ⟨_, rfl, OwnsY.nil _ _, Below.refl _ _⟩
end Go.Proofs.Ytcngiinaneefjaa
