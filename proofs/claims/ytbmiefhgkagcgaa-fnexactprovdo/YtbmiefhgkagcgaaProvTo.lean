/- The laws' toProv, eqProv, szProv. -/
import Derived.Test.YtbmiefhgkagcgaaInstOwn
namespace Go.Proofs.Ytbmiefhgkagcgaa
open Go.RowKit

theorem szProv_yes (ep : Int) (A : Option Addr) (n c : Nat) (w : World) (h : n ≤ 1048576) :
    Calls Try.prog 22 #[.agg #[.int .i64 ep, .slice A n c], .int .i64 1048576] w fun e w' => e = .returned (.int .i64 (1048576 - n)) ∧ Below w.heap.size w w' := by
  have hle : decide ((1048576 : Int) - n < 0) = false := decide_eq_false (by omega)
  have HS := Lib.hid (fun w => szInstS_yes A n c w h)
  generalize ((1048576 : Int) - n) = z at *
  clear h
  go_enter Try.func22, Try.ntmps22
  go_wp2_with fail
  refine (HS.out _).mono ?_
  rintro e w1 ⟨rfl, rfl⟩
  go_wp2_with fail
  go_ret
  exact ⟨rfl, (by repeat' (first | exact Below.refl _ _ | refine Below.alloc ?_ ?_ _ | refine Below.setCell ?_ ?_ _ | refine Below.drew ?_ | (apply below_step; assumption) | (simp; done) | (simp; omega) | omega))⟩
theorem szProv_no (ep : Int) (A : Option Addr) (n c : Nat) (w : World) (h : 1048576 < n) (hm : n ≤ maxLen) :
    Calls Try.prog 22 #[.agg #[.int .i64 ep, .slice A n c], .int .i64 1048576] w fun e w' => e = .returned (.int .i64 (-1)) ∧ Below w.heap.size w w' := by
  have HS := Lib.hid (fun w => szInstS_no A n c w h hm)
  clear h hm
  go_enter Try.func22, Try.ntmps22
  go_wp2_with fail
  refine (HS.out _).mono ?_
  rintro e w1 ⟨rfl, rfl⟩
  go_wp2_with fail
  go_ret
  exact ⟨rfl, (by repeat' (first | exact Below.refl _ _ | refine Below.alloc ?_ ?_ _ | refine Below.setCell ?_ ?_ _ | refine Below.drew ?_ | (apply below_step; assumption) | (simp; done) | (simp; omega) | omega))⟩
/-- What toProv hands back: a provider whose instances lie in a block of its own. -/
def RetPv (w : World) (ep : Int) (l : List RV) (e : Ending) (w' : World) : Prop :=
  ∃ g, e = .returned (.agg #[.int .i64 ep, .slice (some ⟨g, 0, none⟩) l.length l.length]) ∧ w.heap.size ≤ g ∧ g < w'.heap.size ∧ InSl w' (.slice (some ⟨g, 0, none⟩) l.length l.length) l ∧ OwnsN w' w.heap.size (.slice (some ⟨g, 0, none⟩) l.length l.length) l ∧ Below w.heap.size w w'
theorem RetPv.of {w w' : World} {ep : Int} {l : List RV} {g : Nat} {cs : Array Value} (hb : BlockIs w' g 38 cs) (hs : cs.size = l.length * 3)
    (hc : ∀ i r, i < l.length → l[i]? = some r → cs[i * 3]? = some (.int .i64 r.c) ∧ cs[i * 3 + 1]? = some (.int .i64 r.m) ∧ cs[i * 3 + 2]? = some (.int .i64 r.p)) (hg : w.heap.size ≤ g) (hl : l.length ≤ 1048576) (hB : Below w.heap.size w w') :
    RetPv w ep l (.returned (.agg #[.int .i64 ep, .slice (some ⟨g, 0, none⟩) l.length l.length])) w' := by
  have hcp : CopyIn w g l l.length w' := ⟨cs, hb, hs, hc, hB⟩
  exact ⟨g, rfl, hg, hb.lt, .inr ⟨g, 0, _, rfl, hb.lt, hcp.done⟩, hcp.own (by omega) hg, hB⟩
set_option maxHeartbeats 1600000 in
theorem toProv_any (ep : Int) (v : Value) (l : List RV) (w : World) (hv : InSl w v l) (hlen : l.length ≤ 1048576) : Calls Try.prog 24 #[.agg #[.int .i64 ep, v]] w (RetPv w ep l) := by
  have HV := Lib.hid hv
  clear hv
  go_enter Try.func24, Try.ntmps24
  go_wp2_with fail
  have hX : Below w.heap.size w (((w.alloc (.cells #[.int .i64 ep, v] 41)).alloc (.cells #[.int .i64 0, .slice none 0 0] 26)).alloc (.cells #[.int .i64 ep, .slice none 0 0] 26)) := (by repeat' (first | exact Below.refl _ _ | refine Below.alloc ?_ ?_ _ | refine Below.setCell ?_ ?_ _ | refine Below.drew ?_ | (apply below_step; assumption) | (simp; done) | (simp; omega) | omega))
  refine (toInstS_any v l _ (HV.out.below hX) hlen).mono ?_
  rintro e w1 ⟨g, rfl, hg, hgl, hat, hb1, hcp⟩
  simp at hg
  have hz1 := hb1.size
  simp at hz1
  obtain ⟨hc1, hf1⟩ := bcell hb1
  have q0 : w.heap.size + 1 < w1.heap.size := by omega
  have q1 : w.heap.size + 1 + 1 < w1.heap.size := by omega
  obtain ⟨cs, hblk, hs, hc, _⟩ := hcp
  have HBK := Lib.hid hblk
  have HSZ := Lib.hid hs
  have HCC := Lib.hid hc
  clear hat hblk hs hc
  go_wp2_with fail
  refine bodyPost_ret (v := .agg #[.int .i64 ep, .slice (some ⟨g, 0, none⟩) l.length l.length]) (by simp [results, Try.results24, go_sem, hc1]) rfl ?_
  exact RetPv.of (by repeat' (first | exact HBK.out | refine BlockIs.far ?_ ?_ _ | (simp; omega))) HSZ.out HCC.out (by omega) hlen (by repeat' (first | exact Below.refl _ _ | refine Below.alloc ?_ ?_ _ | refine Below.setCell ?_ ?_ _ | refine Below.drew ?_ | (apply below_step; assumption) | (simp; done) | (simp; omega) | omega))
theorem eqProv_same (ep : Int) (v1 v2 : Value) (l : List RV) (w : World) (h1 : InSl w v1 l) (h2 : InSl w v2 l) (hlen : l.length ≤ 1048576) :
    Calls Try.prog 26 #[.agg #[.int .i64 ep, v1], .agg #[.int .i64 ep, v2]] w fun e w' => e = .returned (.bool true) ∧ Below w.heap.size w w' := by
  have H1 := Lib.hid h1
  have H2 := Lib.hid h2
  have hne : (ep != ep) = false := by simp
  clear h1 h2
  go_enter Try.func26, Try.ntmps26
  go_wp2_with fail
  have hX : Below w.heap.size w ((w.alloc (.cells #[.int .i64 ep, v1] 26)).alloc (.cells #[.int .i64 ep, v2] 26)) := (by repeat' (first | exact Below.refl _ _ | refine Below.alloc ?_ ?_ _ | refine Below.setCell ?_ ?_ _ | refine Below.drew ?_ | (apply below_step; assumption) | (simp; done) | (simp; omega) | omega))
  refine (eqInstS_same v1 v2 l _ (H1.out.below hX) (H2.out.below hX) hlen).mono ?_
  rintro e w1 ⟨rfl, hb1⟩
  go_wp2_with fail
  go_ret
  exact ⟨rfl, below_of hX hb1⟩
end Go.Proofs.Ytbmiefhgkagcgaa
