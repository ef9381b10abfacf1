/- The bytes of an event, of a record and of a journal in plain Lean. The contracts of flagsOf and EventBytes. Records and journals in plain Lean; slices of events. The contracts of sumOf, recordOf and JournalOf. The contract of the model's NumBytes. The contracts of the model's l10Task and TaskBytes. -/
import Derived.Test.YtcngiinaneefjaaDoorMg05
import Derived.Test.YtcngiinaneefjaaDoorEventI
import Derived.Test.YtcngiinaneefjaaDoorMg06
import Derived.Test.YtcngiinaneefjaaDoorCluMem
namespace Go.Proofs.YtcngiinaneefjaaDoor

def flagsN (e : EV) : Int := (if e.works then 1 else 0) + (if e.keep then 2 else 0)
def eventHead (e : EV) : List Int := [e.kind] ++ numBytes e.who ++ numBytes e.n ++ [flagsN e]
def eventBytes (e : EV) : List Int := if eventOk e then eventHead e ++ (if e.kind = 4 then taskBytes e.task else []) else []
theorem flagsN_range (e : EV) : 0 ≤ flagsN e ∧ flagsN e ≤ 3 := by
  unfold flagsN
  cases e.works <;> cases e.keep <;> simp
theorem eventOk_kind {e : EV} (h : eventOk e = true) : 1 ≤ e.kind ∧ e.kind ≤ 9 := by
  unfold eventOk at h
  split at h
  · omega
  split at h
  · omega
  split at h
  · omega
  split at h
  · omega
  split at h
  · omega
  split at h
  · omega
  · cases h
theorem eventHead_len (e : EV) : (eventHead e).length ≤ 12 := by
  have h1 := numBytes_len e.who
  have h2 := numBytes_len e.n
  simp only [eventHead, List.length_append, List.length_cons, List.length_nil]
  omega
theorem eventBytes_len (e : EV) : (eventBytes e).length ≤ 137 := by
  unfold eventBytes
  split
  · have h1 := eventHead_len e
    have h2 := taskBytes_len e.task
    rw [List.length_append]
    split
    · omega
    · simp; omega
  · simp
end Go.Proofs.YtcngiinaneefjaaDoor

namespace Go.Proofs.YtcngiinaneefjaaDoor
open Go.RowKit

theorem BytSl.one {w : World} {g : Nat} {a : Int} (h0 : w.cell? ⟨g, 0, none⟩ = some (.int .u8 a)) (hg : g < w.heap.size) : BytSl w (.slice (some ⟨g, 0, none⟩) 1 1) [a] := by
  refine .inr ⟨g, 0, 1, rfl, hg, fun i r hr => ?_⟩
  match i, hr with
  | 0, hr => simp at hr; subst hr; simpa using h0
  | i + 1, hr => simp at hr
theorem BytSl.of_blk {w : World} {g : Nat} {a : Int} {t : TypeId} (h : BlockIs w g t #[.int .u8 a]) : BytSl w (.slice (some ⟨g, 0, none⟩) 1 1) [a] := BytSl.one (h.cell 0) h.lt
theorem BytRows.three {w : World} {b : Nat} {t : TypeId} {v0 v1 v2 : Value} {l0 l1 l2 : List Int} (hb : BlockIs w b t #[v0, v1, v2]) (s0 : BytSl w v0 l0) (s1 : BytSl w v1 l1) (s2 : BytSl w v2 l2) : BytRows w (.slice (some ⟨b, 0, none⟩) 3 3) [l0, l1, l2] := by
  refine ⟨b, rfl, hb.lt, fun i l hl => ?_⟩
  match i, hl with
  | 0, hl => simp at hl; subst hl; exact ⟨_, hb.cell 0, s0⟩
  | 1, hl => simp at hl; subst hl; exact ⟨_, hb.cell 1, s1⟩
  | 2, hl => simp at hl; subst hl; exact ⟨_, hb.cell 2, s2⟩
  | i + 3, hl => simp at hl
theorem BytRows.four {w : World} {b : Nat} {t : TypeId} {v0 v1 v2 v3 : Value} {l0 l1 l2 l3 : List Int} (hb : BlockIs w b t #[v0, v1, v2, v3]) (s0 : BytSl w v0 l0) (s1 : BytSl w v1 l1) (s2 : BytSl w v2 l2) (s3 : BytSl w v3 l3) : BytRows w (.slice (some ⟨b, 0, none⟩) 4 4) [l0, l1, l2, l3] := by
  refine ⟨b, rfl, hb.lt, fun i l hl => ?_⟩
  match i, hl with
  | 0, hl => simp at hl; subst hl; exact ⟨_, hb.cell 0, s0⟩
  | 1, hl => simp at hl; subst hl; exact ⟨_, hb.cell 1, s1⟩
  | 2, hl => simp at hl; subst hl; exact ⟨_, hb.cell 2, s2⟩
  | 3, hl => simp at hl; subst hl; exact ⟨_, hb.cell 3, s3⟩
  | i + 4, hl => simp at hl
theorem flagsOf_any (e : EV) (v1 v2 : Value) (w : World) : Calls Tryd.prog 64 #[.agg #[.int .i64 e.kind, .int .i64 e.who, .int .i64 e.n, .bool e.works, .bool e.keep, .int .i64 e.task.id, .int .i64 e.task.prio, .int .i64 e.task.need.c, .int .i64 e.task.need.m, .int .i64 e.task.need.p, v1, v2]] w fun r w' => r = .returned (.int .u8 (flagsN e)) ∧ Below w.heap.size w w' := by
  obtain ⟨k, who, n, works, keep, t⟩ := e
  cases works <;> cases keep
  all_goals
    go_enter Tryd.func64, Tryd.ntmps64
    go_wp2_with fail
    go_ret
    exact ⟨by simp [flagsN], (by repeat' (first | exact Below.refl _ _ | refine Below.alloc ?_ ?_ _ | refine Below.setCell ?_ ?_ _ | refine Below.drew ?_ | (apply below_step; assumption) | (simp; done) | (simp; omega) | omega))⟩

set_option maxRecDepth 20000 in
set_option maxHeartbeats 6400000 in
theorem EventBytes_any (e : EV) (v1 v2 : Value) (w : World) (x : Addr) (hg : ErrAt x w) (h1 : LabSl w v1 e.task.want) (h2 : IntSl w v2 e.task.tols) (l1 : e.task.want.length ≤ 1048576) (l2 : e.task.tols.length ≤ 1048576) :
    Calls Tryd.prog 25 #[.agg #[.int .i64 e.kind, .int .i64 e.who, .int .i64 e.n, .bool e.works, .bool e.keep, .int .i64 e.task.id, .int .i64 e.task.prio, .int .i64 e.task.need.c, .int .i64 e.task.need.m, .int .i64 e.task.need.p, v1, v2]] w (RetByts w (eventBytes e)) := by
  have hok := fun w1 (hb : Below w.heap.size w w1) => EventOk_any e v1 v2 w1 x (hg.below hb (Nat.le_refl _)) (h1.below hb) (h2.below hb) l1 l2
  have htb := fun w1 (hb : Below w.heap.size w w1) => TaskBytes_any e.task v1 v2 w1 x (hg.below hb (Nat.le_refl _)) (h1.below hb) (h2.below hb) l1 l2
  have hE : eventBytes e = if eventOk e = true then eventHead e ++ (if e.kind = 4 then taskBytes e.task else []) else [] := rfl
  have hK := @eventOk_kind e
  have hTL := taskBytes_len e.task
  obtain ⟨A1, c1, rfl, _⟩ := h1.form
  obtain ⟨A2, c2, rfl, _⟩ := h2.form
  generalize eventOk e = ok at hok hE hK
  generalize taskBytes e.task = T at htb hE hTL
  have HE := Lib.hid hE
  have HOK := Lib.hid hok
  have HTB := Lib.hid htb
  have HKI := Lib.hid hK
  have HTL := Lib.hid hTL
  clear hE hok h1 h2 hg hK htb hTL l1 l2
  go_enter Tryd.func25, Tryd.ntmps25
  go_wp2_with fail
  have hX : Below w.heap.size w (w.alloc (.cells #[.int .i64 e.kind, .int .i64 e.who, .int .i64 e.n, .bool e.works, .bool e.keep, .int .i64 e.task.id, .int .i64 e.task.prio, .int .i64 e.task.need.c, .int .i64 e.task.need.m, .int .i64 e.task.need.p, .slice A1 e.task.want.length c1, .slice A2 e.task.tols.length c2] 50)) := (by repeat' (first | exact Below.refl _ _ | refine Below.alloc ?_ ?_ _ | refine Below.setCell ?_ ?_ _ | refine Below.drew ?_ | (apply below_step; assumption) | (simp; done) | (simp; omega) | omega))
  refine (HOK.out _ hX).mono ?_
  rintro r w1 ⟨rfl, hb1⟩
  have hC1 := below_of hX hb1
  have B1 := (BlockIs.new w 50 #[.int .i64 e.kind, .int .i64 e.who, .int .i64 e.n, .bool e.works, .bool e.keep, .int .i64 e.task.id, .int .i64 e.task.prio, .int .i64 e.task.need.c, .int .i64 e.task.need.m, .int .i64 e.task.need.p, .slice A1 e.task.want.length c1, .slice A2 e.task.tols.length c2]).below hb1 (by simp)
  cases ok
  · go_wp2_with fail
    go_ret
    exact ⟨_, rfl, by rw [HE.out]; exact OwnsY.nil _ _, hC1⟩
  · have hz1 := hC1.size
    have HB1 := Lib.hid B1
    have hkind := HKI.out (by trivial)
    have hkm : IntKind.u8.wrap e.kind = e.kind := by rw [IntKind.wrap_u8']; omega
    have HKN := Lib.hid hkind
    have bl := B1.lt
    have HK := Lib.hid (show ∀ w', Below w1.heap.size w1 w' → (fun w' => Below w1.heap.size w1 w' ∧ (∀ o, w'.cell? ⟨w.heap.size, o, none⟩ = (#[.int .i64 e.kind, .int .i64 e.who, .int .i64 e.n, .bool e.works, .bool e.keep, .int .i64 e.task.id, .int .i64 e.task.prio, .int .i64 e.task.need.c, .int .i64 e.task.need.m, .int .i64 e.task.need.p, .slice A1 e.task.want.length c1, .slice A2 e.task.tols.length c2] : Array Value)[o]?)) w' from fun w' hb => ⟨hb, fun o => (hb.cell (p := ⟨_, _, none⟩) bl).trans (HB1.out.cell o)⟩)
    have HC1 := Lib.hid hC1
    clear hb1 HOK HKI B1 hX hC1 hkind
    go_wp2_with fail
    go_cut [3] (fun s3 wx => OwnsY wx w1.heap.size s3 (eventHead e) ∧ Below w1.heap.size w1 wx)
    case first =>
      go_region_held3 (fun w' => Below w1.heap.size w1 w' ∧ (∀ o, w'.cell? ⟨w.heap.size, o, none⟩ = (#[.int .i64 e.kind, .int .i64 e.who, .int .i64 e.n, .bool e.works, .bool e.keep, .int .i64 e.task.id, .int .i64 e.task.prio, .int .i64 e.task.need.c, .int .i64 e.task.need.m, .int .i64 e.task.need.p, .slice A1 e.task.want.length c1, .slice A2 e.task.tols.length c2] : Array Value)[o]?))
        (exact HK.out _ (by repeat' (first | exact Below.refl _ _ | refine Below.alloc ?_ ?_ _ | refine Below.setCell ?_ ?_ _ | refine Below.drew ?_ | (apply below_step; assumption) | (simp; done) | (simp; omega) | omega)))
        (first
          | (go_at_call 64; refine (flagsOf_any e _ _ _).mono ?_; rintro r9 w9 ⟨rfl, hb9⟩; obtain ⟨hc9, hf9⟩ := bcell hb9; have hl9 := blt hb9; have hz9 := hb9.size; (try simp at hz9))
          | (go_at_call 62
             refine (concat_any _ [[e.kind], numBytes e.who, numBytes e.n, [flagsN e]] _ (BytRows.four (BlockIs.new' (by simp)) (by first | exact BytSl.of_blk ((BlockIs.new' (by simp; done)).alloc _) | exact BytSl.of_blk (((BlockIs.new' (by simp; done)).alloc _).alloc _) | exact (BytSl.one (w := w1.alloc (.cells #[.int .u8 e.kind] 5)) (g := w1.heap.size) (by simp) (by simp)).below (by repeat' (first | exact Below.refl _ _ | refine Below.alloc ?_ ?_ _ | refine Below.setCell ?_ ?_ _ | refine Below.drew ?_ | (apply below_step; assumption) | (simp; done) | (simp; omega) | omega)) | exact (BytSl.one (w := w7.alloc (.cells #[.int .u8 e.kind] 5)) (g := w7.heap.size) (by simp) (by simp)).below (by repeat' (first | exact Below.refl _ _ | refine Below.alloc ?_ ?_ _ | refine Below.setCell ?_ ?_ _ | refine Below.drew ?_ | (apply below_step; assumption) | (simp; done) | (simp; omega) | omega)) | exact (BytSl.one (w := w8.alloc (.cells #[.int .u8 e.kind] 5)) (g := w8.heap.size) (by simp) (by simp)).below (by repeat' (first | exact Below.refl _ _ | refine Below.alloc ?_ ?_ _ | refine Below.setCell ?_ ?_ _ | refine Below.drew ?_ | (apply below_step; assumption) | (simp; done) | (simp; omega) | omega)) | exact (BytSl.one (w := w9.alloc (.cells #[.int .u8 e.kind] 5)) (g := w9.heap.size) (by simp) (by simp)).below (by repeat' (first | exact Below.refl _ _ | refine Below.alloc ?_ ?_ _ | refine Below.setCell ?_ ?_ _ | refine Below.drew ?_ | (apply below_step; assumption) | (simp; done) | (simp; omega) | omega))) (HV7.out.below (by repeat' (first | exact Below.refl _ _ | refine Below.alloc ?_ ?_ _ | refine Below.setCell ?_ ?_ _ | refine Below.drew ?_ | (apply below_step; assumption) | (simp; done) | (simp; omega) | omega))) (HV8.out.below (by repeat' (first | exact Below.refl _ _ | refine Below.alloc ?_ ?_ _ | refine Below.setCell ?_ ?_ _ | refine Below.drew ?_ | (apply below_step; assumption) | (simp; done) | (simp; omega) | omega))) (by first | exact BytSl.of_blk ((BlockIs.new' (by simp; done)).alloc _) | exact BytSl.of_blk (((BlockIs.new' (by simp; done)).alloc _).alloc _))) (by simp) ?_).mono ?_
             · have := eventHead_len e
               simp only [eventHead, List.length_append, List.length_cons, List.length_nil, List.flatten_cons, List.flatten_nil] at this ⊢
               omega
             rintro r10 w10 ⟨v10, rfl, hv10, hb10⟩
             have hz10 := hb10.size
             (try simp at hz10))
          | (go_at_call 63; first
              | (have HV7' := HV7; clear HV7'; refine (NumBytes_any e.n _).mono ?_; rintro r8 w8 ⟨v8, rfl, hv8, hb8⟩; have HV8 := Lib.hid hv8.o.sl; obtain ⟨V8, cp8, rfl, -⟩ := own_form hv8.o; obtain ⟨hc8, hf8⟩ := bcell hb8; have hl8 := blt hb8; have hz8 := hb8.size; (try simp at hz8); clear hv8)
              | (refine (NumBytes_any e.who _).mono ?_; rintro r7 w7 ⟨v7, rfl, hv7, hb7⟩; have HV7 := Lib.hid hv7.o.sl; obtain ⟨V7, cp7, rfl, -⟩ := own_form hv7.o; obtain ⟨hc7, hf7⟩ := bcell hb7; have hl7 := blt hb7; have hz7 := hb7.size; (try simp at hz7); clear hv7)))
      all_goals
        go_wp2_with fail
        go_meet
        exact ⟨by have := hv10.lower (b := w1.heap.size) (by simp; omega); simpa [eventHead] using this, (by repeat' (first | exact Below.refl _ _ | refine Below.alloc ?_ ?_ _ | refine Below.setCell ?_ ?_ _ | refine Below.drew ?_ | (apply below_step; assumption) | (simp; done) | (simp; omega) | omega))⟩
    case rest =>
      obtain ⟨hown, hB⟩ := hcut
      have hCB := below_of HC1.out hB
      have hzc := hB.size
      have BC := HB1.out.below hB bl
      have HO := Lib.hid hown
      have HHL := Lib.hid (eventHead_len e)
      have g0 := BC.cell 0
      have g5 := BC.cell 5
      have g6 := BC.cell 6
      have g7 := BC.cell 7
      have g8 := BC.cell 8
      have g9 := BC.cell 9
      have g10 := BC.cell 10
      have g11 := BC.cell 11
      simp at g0 g5 g6 g7 g8 g9 g10 g11
      clear hown BC HK
      by_cases hk4 : e.kind = 4
      · have hk4' : (e.kind == 4) = true := by simp [hk4]
        have HK4 := Lib.hid hk4
        clear hk4
        go_wp2_with fail
        refine (HTB.out _ hCB).mono ?_
        rintro r9 w9 ⟨v9, rfl, hv9, hb9⟩
        have hz9 := hb9.size
        have HO9 := Lib.hid (HO.out.below hb9 (Nat.le_refl _))
        have HV9 := Lib.hid hv9.o.sl
        have hB9 := below_of hB hb9
        obtain ⟨V9, cp9, rfl, -⟩ := own_form hv9.o
        clear hv9 hb9 g0 g5 g6 g7 g8 g9 g10 g11
        go_wp2_with (at_builtin; refine wpList_spread_y _ rfl (.tmp 25) (.tmp 28) rfl w1.heap.size _ (eventHead e) T _ _ rfl rfl HO9.out HV9.out (by have := HHL.out; have := HTL.out; omega) (by omega) ?_; intro v' w6 hown6 hb6 hg6)
        go_ret
        refine ⟨_, rfl, ?_, below_of HC1.out (hB9.trans hb6)⟩
        rw [HE.out, if_pos (by trivial), if_pos HK4.out]
        exact hown6.lower hz1
      · have hk4' : (e.kind == 4) = false := by simp [hk4]
        have HK4 := Lib.hid hk4
        clear hk4
        go_wp2_with fail
        go_ret
        refine ⟨_, rfl, ?_, hCB⟩
        rw [HE.out, if_pos (by trivial), if_neg HK4.out, List.append_nil]
        exact HO.out.lower hz1
end Go.Proofs.YtcngiinaneefjaaDoor

namespace Go.Proofs.YtcngiinaneefjaaDoor
open Go.RowKit

def recB (d : List Int) : List Int := [(d.length : Int)] ++ d ++ [d.sum % 256]
def journalB (l : List EV) : List Int := l.flatMap fun e => recB (eventBytes e)
def journalOk (l : List EV) : Bool := decide (l.length ≤ 300) && l.all eventOk
def journalV (l : List EV) : List Int := if journalOk l then journalB l else []
theorem sum_snoc {l : List Int} {k : Nat} {r : Int} (h : l[k]? = some r) : (l.take (k + 1)).sum = (l.take k).sum + r := by
  obtain ⟨hk, rfl⟩ := List.getElem?_eq_some_iff.1 h
  rw [List.take_succ_eq_append_getElem hk, List.sum_append]
  simp only [List.sum_cons, List.sum_nil]
  omega
theorem journalB_snoc {l : List EV} {k : Nat} {e : EV} (h : l[k]? = some e) : journalB (l.take (k + 1)) = journalB (l.take k) ++ recB (eventBytes e) := by
  obtain ⟨hk, rfl⟩ := List.getElem?_eq_some_iff.1 h
  rw [List.take_succ_eq_append_getElem hk]
  simp only [journalB, List.flatMap_append, List.flatMap_cons, List.flatMap_nil, List.append_nil]
theorem recB_len (d : List Int) : (recB d).length = d.length + 2 := by simp [recB]
theorem journalB_len (l : List EV) : (journalB l).length ≤ 139 * l.length := by
  induction l with
  | nil => simp [journalB]
  | cons e r ih =>
    have h1 := eventBytes_len e
    have h2 := recB_len (eventBytes e)
    simp only [journalB, List.flatMap_cons, List.length_append, List.length_cons] at ih ⊢
    omega
theorem journal_bad {l : List EV} {k : Nat} {e : EV} (h : l[k]? = some e) (he : eventOk e = false) : journalOk l = false := by
  have hm := List.mem_of_getElem? h
  unfold journalOk
  rw [Bool.and_eq_false_iff]
  right
  rw [List.all_eq_false]
  exact ⟨e, hm, by simp [he]⟩
theorem journal_good {l : List EV} (hl : l.length ≤ 300) (h : ∀ (k : Nat) (e : EV), l[k]? = some e → eventOk e = true) : journalOk l = true := by
  unfold journalOk
  simp only [Bool.and_eq_true, decide_eq_true_eq]
  refine ⟨hl, List.all_eq_true.2 fun e he => ?_⟩
  obtain ⟨k, hk, rfl⟩ := List.getElem_of_mem he
  exact h k _ (List.getElem?_eq_getElem hk)
def EventR (w : World) (e : EV) (cs : List Value) : Prop := ∃ v1 v2, cs = [.int .i64 e.kind, .int .i64 e.who, .int .i64 e.n, .bool e.works, .bool e.keep, .int .i64 e.task.id, .int .i64 e.task.prio, .int .i64 e.task.need.c, .int .i64 e.task.need.m, .int .i64 e.task.need.p, v1, v2] ∧ LabSl w v1 e.task.want ∧ IntSl w v2 e.task.tols ∧ e.task.want.length ≤ 1048576 ∧ e.task.tols.length ≤ 1048576
theorem EventR.kept : Kept EventR := fun _ _ _ _ hb ⟨v1, v2, e, h1, h2, h3⟩ => ⟨v1, v2, e, h1.below hb, h2.below hb, h3⟩
def EventSl (w : World) (v : Value) (l : List EV) : Prop := GSl EventR 12 w v l
theorem EventSl.below {w w' : World} {v : Value} {l : List EV} (h : EventSl w v l) (hb : Below w.heap.size w w') : EventSl w' v l := GSl.below EventR.kept h hb
theorem EventSl.form {w : World} {v : Value} {l : List EV} (h : EventSl w v l) : ∃ A c, v = .slice A l.length c ∧ (0 < l.length → ∃ b off, A = some ⟨b, off, none⟩ ∧ b < w.heap.size ∧ SeqAt EventR 12 w b off l) := GSl.form h
theorem event_cells {w : World} {b o : Nat} {u0 u1 u2 u3 u4 u5 u6 u7 u8 u9 u10 u11 : Value} (h : CellsAt w b o [u0, u1, u2, u3, u4, u5, u6, u7, u8, u9, u10, u11]) :
    w.cell? ⟨b, o, none⟩ = some u0 ∧ w.cell? ⟨b, o + 1, none⟩ = some u1 ∧ w.cell? ⟨b, o + 2, none⟩ = some u2 ∧ w.cell? ⟨b, o + 3, none⟩ = some u3 ∧ w.cell? ⟨b, o + 4, none⟩ = some u4 ∧ w.cell? ⟨b, o + 5, none⟩ = some u5 ∧ w.cell? ⟨b, o + 6, none⟩ = some u6 ∧ w.cell? ⟨b, o + 7, none⟩ = some u7 ∧ w.cell? ⟨b, o + 8, none⟩ = some u8 ∧ w.cell? ⟨b, o + 9, none⟩ = some u9 ∧ w.cell? ⟨b, o + 10, none⟩ = some u10 ∧ w.cell? ⟨b, o + 11, none⟩ = some u11 :=
  ⟨h 0 _ rfl, h 1 _ rfl, h 2 _ rfl, h 3 _ rfl, h 4 _ rfl, h 5 _ rfl, h 6 _ rfl, h 7 _ rfl, h 8 _ rfl, h 9 _ rfl, h 10 _ rfl, h 11 _ rfl⟩
end Go.Proofs.YtcngiinaneefjaaDoor

namespace Go.Proofs.YtcngiinaneefjaaDoor
open Go.RowKit

set_option maxHeartbeats 1600000 in
theorem sumOf_any (v : Value) (l : List Int) (w : World) (hv : BytSl w v l) (hl : l.length ≤ 1048576) : Calls Tryd.prog 93 #[v] w fun e w' => e = .returned (.int .u8 (l.sum % 256)) ∧ Below w.heap.size w w' := by
  obtain ⟨A, c, rfl, hA⟩ := hv.form
  have HA := Lib.hid hA
  clear hA hv
  go_enter Tryd.func93, Tryd.ntmps93
  go_wp2_with fail
  go_loopw [3, 8] (fun s3 s8 wr => ∃ k : Nat, k ≤ l.length ∧ s8 = .int .i64 k ∧ s3 = .int .u8 ((l.take k).sum % 256) ∧ Below w.heap.size w wr) (fun _ s8 _ => (l.length - intOf s8).toNat)
  case atStart => exact ⟨0, by omega, rfl, by simp, Below.refl _ _⟩
  case round =>
    obtain ⟨k, hk, rfl, rfl, hB⟩ := hrel
    by_cases hlt : k < l.length
    · obtain ⟨b, off, rfl, hbw, hat⟩ := HA.out (by omega)
      obtain ⟨r, hr⟩ : ∃ r, l[k]? = some r := ⟨_, List.getElem?_eq_getElem hlt⟩
      have q0 := (hat.below hB hbw) k r hr
      have hlti : (k : Int) < (l.length : Int) := by omega
      have HS := Lib.hid (sum_snoc hr)
      clear hat hr
      generalize (l.take k).sum = s at HS
      have hw8 : IntKind.u8.wrap (s % 256 + r) = (s + r) % 256 := by rw [IntKind.wrap_u8']; omega
      go_wp2_with fail
      go_roundw
      case rel => exact ⟨k + 1, by omega, by go_num, by rw [HS.out], hB⟩
      case measure => simp [intOf]; omega
    · have hkl : k = l.length := by omega
      have HF := Lib.hid (show (l.take k).sum = l.sum by rw [hkl, List.take_length])
      clear hkl
      go_wp2_with fail
      go_ret
      exact ⟨by rw [HF.out]; rfl, hB⟩
set_option maxHeartbeats 3200000 in
set_option maxRecDepth 20000 in
theorem recordOf_any (e : EV) (v1 v2 : Value) (w : World) (x : Addr) (hg : ErrAt x w) (h1 : LabSl w v1 e.task.want) (h2 : IntSl w v2 e.task.tols) (l1 : e.task.want.length ≤ 1048576) (l2 : e.task.tols.length ≤ 1048576) :
    Calls Tryd.prog 68 #[.agg #[.int .i64 e.kind, .int .i64 e.who, .int .i64 e.n, .bool e.works, .bool e.keep, .int .i64 e.task.id, .int .i64 e.task.prio, .int .i64 e.task.need.c, .int .i64 e.task.need.m, .int .i64 e.task.need.p, v1, v2]] w (RetByts w (recB (eventBytes e))) := by
  have heb := fun w1 (hb : Below w.heap.size w w1) => EventBytes_any e v1 v2 w1 x (hg.below hb (Nat.le_refl _)) (h1.below hb) (h2.below hb) l1 l2
  have hln := eventBytes_len e
  obtain ⟨A1, c1, rfl, _⟩ := h1.form
  obtain ⟨A2, c2, rfl, _⟩ := h2.form
  generalize eventBytes e = d at heb hln ⊢
  have HEB := Lib.hid heb
  clear heb h1 h2 hg l1 l2
  go_enter Tryd.func68, Tryd.ntmps68
  go_wp2_with fail
  have hX : Below w.heap.size w (w.alloc (.cells #[.int .i64 e.kind, .int .i64 e.who, .int .i64 e.n, .bool e.works, .bool e.keep, .int .i64 e.task.id, .int .i64 e.task.prio, .int .i64 e.task.need.c, .int .i64 e.task.need.m, .int .i64 e.task.need.p, .slice A1 e.task.want.length c1, .slice A2 e.task.tols.length c2] 50)) := (by repeat' (first | exact Below.refl _ _ | refine Below.alloc ?_ ?_ _ | refine Below.setCell ?_ ?_ _ | refine Below.drew ?_ | (apply below_step; assumption) | (simp; done) | (simp; omega) | omega))
  refine (HEB.out _ hX).mono ?_
  rintro r w1 ⟨v, rfl, hv, hb1⟩
  have hC1 := below_of hX hb1
  have HV := Lib.hid hv.o.sl
  obtain ⟨V, cp, rfl, -⟩ := own_form hv.o
  have hw8 : IntKind.u8.wrap (d.length : Int) = (d.length : Int) := by rw [IntKind.wrap_u8']; omega
  clear hv hb1 hX
  go_wp2_with fail
  have hX1 : Below w1.heap.size w1 (w1.alloc (.cells #[.int .u8 (d.length : Int)] 5)) := (by repeat' (first | exact Below.refl _ _ | refine Below.alloc ?_ ?_ _ | refine Below.setCell ?_ ?_ _ | refine Below.drew ?_ | (apply below_step; assumption) | (simp; done) | (simp; omega) | omega))
  refine (sumOf_any _ d _ (HV.out.below hX1) (by omega)).mono ?_
  rintro r w2 ⟨rfl, hb2⟩
  have hD2 := below_of hX1 hb2
  have HB2 := Lib.hid ((BlockIs.new w1 5 #[.int .u8 (d.length : Int)]).below hb2 (by simp))
  have HV2 := Lib.hid (HV.out.below hD2)
  have hC2 := below_of hC1 hD2
  clear hb2 hX1 HV
  go_wp2_with fail
  refine (concat_any _ [[(d.length : Int)], d, [d.sum % 256]] _ (BytRows.three (BlockIs.new' (by simp; done)) (BytSl.of_blk ((HB2.out.alloc _).alloc _)) (HV2.out.below (by repeat' (first | exact Below.refl _ _ | refine Below.alloc ?_ ?_ _ | refine Below.setCell ?_ ?_ _ | refine Below.drew ?_ | (apply below_step; assumption) | (simp; done) | (simp; omega) | omega))) (BytSl.of_blk ((BlockIs.new' rfl).alloc _))) (by simp) (by simp; omega)).mono ?_
  rintro r w3 ⟨v3, rfl, hv3, hb3⟩
  have hz2 := hC2.size
  have hC3 := below_of (below_of hC2 (show Below w2.heap.size w2 _ from (by repeat' (first | exact Below.refl _ _ | refine Below.alloc ?_ ?_ _ | refine Below.setCell ?_ ?_ _ | refine Below.drew ?_ | (apply below_step; assumption) | (simp; done) | (simp; omega) | omega)))) hb3
  have HV3 := Lib.hid (hv3.lower (b := w.heap.size) (by simp; omega))
  clear hv3 hb3 HV2
  go_wp2_with fail
  go_ret
  exact ⟨_, rfl, by have := HV3.out; simpa [recB] using this, hC3⟩
def RetJour (w : World) (l : List EV) (e : Ending) (w' : World) : Prop := ∃ v, e = .returned (.tuple #[v, .bool (journalOk l)]) ∧ OwnsY w' w.heap.size v (journalV l) ∧ Below w.heap.size w w'
set_option maxHeartbeats 3200000 in
set_option maxRecDepth 20000 in
theorem JournalOf_any (v : Value) (l : List EV) (w : World) (x : Addr) (hg : ErrAt x w) (hv : EventSl w v l) (hl : l.length ≤ 1048576) : Calls Tryd.prog 34 #[v] w (RetJour w l) := by
  have hok : ∀ e v1 v2 w1, Below w.heap.size w w1 → LabSl w1 v1 e.task.want → IntSl w1 v2 e.task.tols → e.task.want.length ≤ 1048576 → e.task.tols.length ≤ 1048576 → Calls Tryd.prog 61 #[.agg #[.int .i64 e.kind, .int .i64 e.who, .int .i64 e.n, .bool e.works, .bool e.keep, .int .i64 e.task.id, .int .i64 e.task.prio, .int .i64 e.task.need.c, .int .i64 e.task.need.m, .int .i64 e.task.need.p, v1, v2]] w1 fun r w' => r = .returned (.bool (eventOk e)) ∧ Below w1.heap.size w1 w' :=
    fun e v1 v2 w1 hb h1 h2 l1 l2 => EventOk_any e v1 v2 w1 x (hg.below hb (Nat.le_refl _)) h1 h2 l1 l2
  have hrc : ∀ e v1 v2 w1, Below w.heap.size w w1 → LabSl w1 v1 e.task.want → IntSl w1 v2 e.task.tols → e.task.want.length ≤ 1048576 → e.task.tols.length ≤ 1048576 → Calls Tryd.prog 68 #[.agg #[.int .i64 e.kind, .int .i64 e.who, .int .i64 e.n, .bool e.works, .bool e.keep, .int .i64 e.task.id, .int .i64 e.task.prio, .int .i64 e.task.need.c, .int .i64 e.task.need.m, .int .i64 e.task.need.p, v1, v2]] w1 (RetByts w1 (recB (eventBytes e))) :=
    fun e v1 v2 w1 hb h1 h2 l1 l2 => recordOf_any e v1 v2 w1 x (hg.below hb (Nat.le_refl _)) h1 h2 l1 l2
  obtain ⟨A, c, rfl, hA⟩ := hv.form
  have HA := Lib.hid hA
  have HOK := Lib.hid hok
  have HRC := Lib.hid hrc
  clear hA hv hok hrc hg
  go_enter Tryd.func34, Tryd.ntmps34
  by_cases hbig : 300 < l.length
  · have hb1 : (300 : Int) < (l.length : Int) := by omega
    have hJ : journalOk l = false := by unfold journalOk; simp; omega
    go_wp2_with fail
    exact bodyPost_ret (v := .tuple #[.slice none 0 0, .bool false]) (by simp [results, Tryd.results34, go_sem]) rfl ⟨_, by rw [hJ], by rw [journalV, hJ]; exact OwnsY.nil _ _, Below.refl _ _⟩
  · have hb1 : ¬ (300 : Int) < (l.length : Int) := by omega
    have hl3 : l.length ≤ 300 := by omega
    clear hbig
    go_wp2_with fail
    go_loopw [4, 12] (fun s4 s12 wr => ∃ k : Nat, k ≤ l.length ∧ s12 = .int .i64 k ∧ OwnsY wr w.heap.size s4 (journalB (l.take k)) ∧ Below w.heap.size w wr ∧ ∀ (i : Nat) (e : EV), i < k → l[i]? = some e → eventOk e = true) (fun _ s12 _ => (l.length - intOf s12).toNat)
    case atStart => exact ⟨0, by omega, rfl, by simpa [journalB] using OwnsY.nil _ _, Below.refl _ _, fun i e h => absurd h (by omega)⟩
    case round =>
      obtain ⟨k, hk, rfl, hown, hB, hall⟩ := hrel
      have HO := Lib.hid hown
      have HAL := Lib.hid hall
      have hzr := hB.size
      clear hown hall
      by_cases hlt : k < l.length
      · obtain ⟨b, off, rfl, hbw, hat⟩ := HA.out (by omega)
        obtain ⟨e, he⟩ : ∃ e, l[k]? = some e := ⟨_, List.getElem?_eq_getElem hlt⟩
        obtain ⟨cs, hR, hC⟩ := (hat.below EventR.kept hB hbw) k e he
        obtain ⟨u1, u2, rfl, k1, k2, m1, m2⟩ := hR
        obtain ⟨A1, c1, rfl, _⟩ := k1.form
        obtain ⟨A2, c2, rfl, _⟩ := k2.form
        obtain ⟨n0, n1, n2, n3, n4, n5, n6, n7, n8, n9, n10, n11⟩ := event_cells hC
        have hlti : (k : Int) < (l.length : Int) := by omega
        have HE := Lib.hid he
        have HJ := Lib.hid (journalB_snoc he)
        have HL := Lib.hid (show (journalB (l.take k)).length ≤ 41700 by have := journalB_len (l.take k); rw [List.length_take] at this; omega)
        have HK1 := Lib.hid k1
        have HK2 := Lib.hid k2
        have HM := Lib.hid (And.intro m1 m2)
        clear hat hC he k1 k2 m1 m2
        go_wp2_with fail
        have hX3 : Below wr.heap.size wr (wr.alloc (.cells #[.int .i64 e.kind, .int .i64 e.who, .int .i64 e.n, .bool e.works, .bool e.keep, .int .i64 e.task.id, .int .i64 e.task.prio, .int .i64 e.task.need.c, .int .i64 e.task.need.m, .int .i64 e.task.need.p, .slice A1 e.task.want.length c1, .slice A2 e.task.tols.length c2] 50)) := (by repeat' (first | exact Below.refl _ _ | refine Below.alloc ?_ ?_ _ | refine Below.setCell ?_ ?_ _ | refine Below.drew ?_ | (apply below_step; assumption) | (simp; done) | (simp; omega) | omega))
        have hCX3 := below_of hB hX3
        refine (HOK.out e _ _ _ hCX3 (HK1.out.below hX3) (HK2.out.below hX3) HM.out.1 HM.out.2).mono ?_
        rintro r w3 ⟨rfl, hb3⟩
        have hD3 := below_of hX3 hb3
        have hC3 := below_of hB hD3
        have BN := (BlockIs.new wr 50 #[.int .i64 e.kind, .int .i64 e.who, .int .i64 e.n, .bool e.works, .bool e.keep, .int .i64 e.task.id, .int .i64 e.task.prio, .int .i64 e.task.need.c, .int .i64 e.task.need.m, .int .i64 e.task.need.p, .slice A1 e.task.want.length c1, .slice A2 e.task.tols.length c2]).below hb3 (by simp)
        have HO3 := Lib.hid (HO.out.below hD3 (Nat.le_refl _))
        have HK13 := Lib.hid (HK1.out.below hD3)
        have HK23 := Lib.hid (HK2.out.below hD3)
        cases hev : eventOk e with
        | false =>
          have hJ := journal_bad HE.out hev
          clear BN hX3 hCX3 hb3 n0 n1 n2 n3 n4 n5 n6 n7 n8 n9 n10 n11
          go_wp2_with fail
          exact bodyPost_ret (v := .tuple #[.slice none 0 0, .bool false]) (by simp [results, Tryd.results34, go_sem]) rfl ⟨_, by rw [hJ], by rw [journalV, hJ]; exact OwnsY.nil _ _, hC3⟩
        | true =>
          have q0 := BN.cell 0
          have q1 := BN.cell 1
          have q2 := BN.cell 2
          have q3 := BN.cell 3
          have q4 := BN.cell 4
          have q5 := BN.cell 5
          have q6 := BN.cell 6
          have q7 := BN.cell 7
          have q8 := BN.cell 8
          have q9 := BN.cell 9
          have q10 := BN.cell 10
          have q11 := BN.cell 11
          have ql := BN.lt
          have HEV := Lib.hid hev
          simp at q0 q1 q2 q3 q4 q5 q6 q7 q8 q9 q10 q11
          clear BN hX3 hCX3 hb3 hev n0 n1 n2 n3 n4 n5 n6 n7 n8 n9 n10 n11
          go_wp2_with fail
          refine (HRC.out e _ _ _ hC3 HK13.out HK23.out HM.out.1 HM.out.2).mono ?_
          rintro r w5 ⟨v5, rfl, hv5, hb5⟩
          have hz3 := hD3.size
          have hz5 := hb5.size
          have HO5 := Lib.hid (HO3.out.below hb5 (Nat.le_refl _))
          have HV5 := Lib.hid hv5.o.sl
          have hC5 := below_of hC3 hb5
          have HRL := Lib.hid (show (recB (eventBytes e)).length ≤ 139 by have := recB_len (eventBytes e); have := eventBytes_len e; omega)
          obtain ⟨V5, cp5, rfl, -⟩ := own_form hv5.o
          clear hv5 hb5 q0 q1 q2 q3 q4 q5 q6 q7 q8 q9 q10 q11
          generalize recB (eventBytes e) = d at HRL HJ HV5 ⊢
          go_wp2_with (at_builtin; refine wpList_spread_y _ rfl (.tmp 19) (.tmp 21) rfl w.heap.size _ _ d _ _ rfl rfl HO5.out HV5.out (by have := HL.out; have := HRL.out; omega) (by omega) ?_; intro v' w6 hown6 hb6 hg6)
          go_roundw
          case rel =>
            refine ⟨k + 1, by omega, by go_num, by rw [HJ.out]; exact hown6, hC5.trans hb6, fun i e' hi he' => ?_⟩
            by_cases hik : i = k
            · subst hik
              obtain rfl := Option.some.inj (HE.out.symm.trans he')
              exact HEV.out
            · exact HAL.out i e' (by omega) he'
          case measure => simp [intOf]; omega
      · have hkl : k = l.length := by omega
        have HJ := Lib.hid (journal_good hl3 (fun i e h => HAL.out i e (by have := (List.getElem?_eq_some_iff.1 h).1; omega) h))
        have HF := Lib.hid (show OwnsY wr w.heap.size _ (journalB l) by have := HO.out; rw [hkl, List.take_length] at this; exact this)
        clear hkl HO
        go_wp2_with fail
        refine bodyPost_ret (v := .tuple #[_, .bool true]) (by simp [results, Tryd.results34, go_sem]; rfl) rfl ⟨_, by rw [HJ.out], by rw [journalV, HJ.out]; exact HF.out, hB⟩
end Go.Proofs.YtcngiinaneefjaaDoor

namespace Go.Proofs.YtcngiinaneefjaaDoor
open Go.RowKit

theorem made_y (w : World) (b : Nat) (hb : b ≤ w.heap.size) : OwnsY (w.alloc (.cells #[] 5)) b (.slice (some ⟨w.heap.size, 0, none⟩) 0 0) [] := by
  have := World.ownsRow_made (base := b) (e := 5) (size := 1) w #[] 0 hb (by unfold maxLen; omega) (by simp)
  simpa [OwnsY, bytL] using this
set_option maxHeartbeats 1600000 in
theorem sNumBytes_any (n : Int) (w : World) : Calls Tryd.prog 44 #[.int .i64 n] w (RetByts w (numBytes n)) := by
  have cvt := conv_byte
  by_cases hn : 0 ≤ n ∧ n ≤ 4294967295
  · have hE : numBytes n = numB n.toNat := by rw [numBytes, if_pos hn]
    obtain ⟨N, rfl⟩ := Int.eq_ofNat_of_zero_le hn.1
    have hN : N ≤ 4294967295 := by omega
    have h1 : ¬ (N : Int) < 0 := by omega
    have h2 : ¬ (4294967295 : Int) < (N : Int) := by omega
    rw [hE, Int.toNat_natCast]
    have HL := Lib.hid (numB_len 4 N (by omega))
    clear hE hn
    go_enter Tryd.func44, Tryd.ntmps44
    go_wp2_with fail
    go_loopw [0, 3] (fun s0 s3 wr => ∃ (m : Nat) (pre : List Int), s0 = .int .i64 m ∧ m ≤ 4294967295 ∧ numB N = pre ++ numB m ∧ OwnsY wr w.heap.size s3 pre ∧ Below w.heap.size w wr) (fun s0 _ _ => (intOf s0).toNat)
    case atStart => exact ⟨N, [], rfl, hN, rfl, made_y w _ (Nat.le_refl _), (by repeat' (first | exact Below.refl _ _ | refine Below.alloc ?_ ?_ _ | refine Below.setCell ?_ ?_ _ | refine Below.drew ?_ | (apply below_step; assumption) | (simp; done) | (simp; omega) | omega))⟩
    case round =>
      obtain ⟨m, pre, rfl, hm, hpre, hown, hB⟩ := hrel
      have HP := Lib.hid hpre
      have HO := Lib.hid hown
      have HLP := Lib.hid (show pre.length ≤ 5 by have := HL.out; rw [hpre, List.length_append] at this; omega)
      have hzr := hB.size
      clear hpre hown
      by_cases hlt : (128 : Int) ≤ (m : Int)
      · have HB := Lib.hid (numB_big (n := m) (by omega))
        have hmm : (128 + (m : Int) % 128) % 256 = ((m % 128 + 128 : Nat) : Int) := by omega
        go_wp2_with (at_builtin; refine wpList_append_y _ rfl (.tmp 13) (.tmp 18) rfl w.heap.size _ pre ((m % 128 + 128 : Nat) : Int) wr.heap.size rfl (HO.out.alloc _) rfl (by simp) (by have := HLP.out; omega) (by simp; omega) ?_; intro v' w6 hown6 hb6)
        go_roundw
        case rel =>
          refine ⟨m / 128, _, by go_num, by omega, ?_, hown6, (hB.alloc (by omega) _).trans hb6⟩
          rw [HP.out, HB.out, List.append_assoc]; rfl
        case measure => simp [intOf]; omega
      · have HB := Lib.hid (numB_small (n := m) (by omega))
        have hmm : (m : Int) % 256 = m := by omega
        go_wp2_with (at_builtin; refine wpList_append_y _ rfl (.tmp 22) (.tmp 25) rfl w.heap.size _ pre (m : Int) wr.heap.size rfl (HO.out.alloc _) rfl (by simp) (by have := HLP.out; omega) (by simp; omega) ?_; intro v' w6 hown6 hb6)
        go_ret
        exact ⟨_, rfl, by rw [HP.out, HB.out]; exact hown6, (hB.alloc (by omega) _).trans hb6⟩
  · have hE : numBytes n = [] := by rw [numBytes, if_neg hn]
    rw [hE]
    by_cases h1 : n < 0
    · clear hE
      go_enter Tryd.func44, Tryd.ntmps44
      go_wp2_with fail
      go_ret
      exact ⟨_, rfl, OwnsY.nil _ _, Below.refl _ _⟩
    · have h2 : (4294967295 : Int) < n := by omega
      clear hE
      go_enter Tryd.func44, Tryd.ntmps44
      go_wp2_with fail
      go_ret
      exact ⟨_, rfl, OwnsY.nil _ _, Below.refl _ _⟩
end Go.Proofs.YtcngiinaneefjaaDoor

namespace Go.Proofs.YtcngiinaneefjaaDoor
open Go.RowKit

theorem IntSl.two {w : World} {g : Nat} {a b : Int} (h0 : w.cell? ⟨g, 0, none⟩ = some (.int .i64 a)) (h1 : w.cell? ⟨g, 1, none⟩ = some (.int .i64 b)) (hg : g < w.heap.size) : IntSl w (.slice (some ⟨g, 0, none⟩) 2 2) [a, b] := by
  refine .inr ⟨g, 0, 2, rfl, hg, fun i r hr => ?_⟩
  match i, hr with
  | 0, hr => simp at hr; subst hr; simpa using h0
  | 1, hr => simp at hr; subst hr; simpa using h1
  | i + 2, hr => simp at hr
theorem IntSl.one {w : World} {g : Nat} {a : Int} (h0 : w.cell? ⟨g, 0, none⟩ = some (.int .i64 a)) (hg : g < w.heap.size) : IntSl w (.slice (some ⟨g, 0, none⟩) 1 1) [a] := by
  refine .inr ⟨g, 0, 1, rfl, hg, fun i r hr => ?_⟩
  match i, hr with
  | 0, hr => simp at hr; subst hr; simpa using h0
  | i + 1, hr => simp at hr
def RetNums (w : World) (l : List Int) (e : Ending) (w' : World) : Prop := ∃ v, e = .returned v ∧ OwnsJ w' w.heap.size v l ∧ Below w.heap.size w w'
set_option maxHeartbeats 6400000 in
set_option maxRecDepth 20000 in
theorem sl10Task_any (t : TV) (v1 v2 : Value) (w : World) (h1 : LabSl w v1 t.want) (h2 : IntSl w v2 t.tols) (l1 : t.want.length ≤ 6) (l2 : t.tols.length ≤ 6) :
    Calls Tryd.prog 43 #[.agg #[.int .i64 t.id, .int .i64 t.prio, .int .i64 t.need.c, .int .i64 t.need.m, .int .i64 t.need.p, v1, v2]] w (RetNums w (taskNums t)) := by
  obtain ⟨A1, c1, rfl, hA1⟩ := h1.form
  obtain ⟨A2, c2, rfl, _⟩ := h2.form
  have HA := Lib.hid hA1
  have HI := Lib.hid h2
  clear hA1 h1 h2
  go_enter Tryd.func43, Tryd.ntmps43
  go_wp2_with fail
  have hX : Below w.heap.size w (w.alloc (.cells #[.int .i64 t.id, .int .i64 t.prio, .int .i64 t.need.c, .int .i64 t.need.m, .int .i64 t.need.p, .slice A1 t.want.length c1, .slice A2 t.tols.length c2] 34)) := (by repeat' (first | exact Below.refl _ _ | refine Below.alloc ?_ ?_ _ | refine Below.setCell ?_ ?_ _ | refine Below.drew ?_ | (apply below_step; assumption) | (simp; done) | (simp; omega) | omega))
  have BX := BlockIs.new w 34 #[.int .i64 t.id, .int .i64 t.prio, .int .i64 t.need.c, .int .i64 t.need.m, .int .i64 t.need.p, .slice A1 t.want.length c1, .slice A2 t.tols.length c2]
  have HO0 := Lib.hid (OwnsJ.new (w.alloc (.cells #[.int .i64 t.id, .int .i64 t.prio, .int .i64 t.need.c, .int .i64 t.need.m, .int .i64 t.need.p, .slice A1 t.want.length c1, .slice A2 t.tols.length c2] 34)) [t.id, t.prio, t.need.c, t.need.m, t.need.p, (t.want.length : Int)] (w.alloc (.cells #[.int .i64 t.id, .int .i64 t.prio, .int .i64 t.need.c, .int .i64 t.need.m, .int .i64 t.need.p, .slice A1 t.want.length c1, .slice A2 t.tols.length c2] 34)).heap.size (Nat.le_refl _) (by simp))
  have hXs : (w.alloc (.cells #[.int .i64 t.id, .int .i64 t.prio, .int .i64 t.need.c, .int .i64 t.need.m, .int .i64 t.need.p, .slice A1 t.want.length c1, .slice A2 t.tols.length c2] 34)).heap.size = w.heap.size + 1 := by simp
  generalize hXX : w.alloc (.cells #[.int .i64 t.id, .int .i64 t.prio, .int .i64 t.need.c, .int .i64 t.need.m, .int .i64 t.need.p, .slice A1 t.want.length c1, .slice A2 t.tols.length c2] 34) = X at hX BX HO0 hXs ⊢
  have HBX := Lib.hid BX
  clear BX hXX
  go_loopw [3, 4] (fun s3 s4 wr => ∃ k : Nat, k ≤ t.want.length ∧ s4 = .int .i64 k ∧ OwnsJ wr X.heap.size s3 ([t.id, t.prio, t.need.c, t.need.m, t.need.p, (t.want.length : Int)] ++ labNums (t.want.take k)) ∧ Below X.heap.size X wr) (fun _ s4 _ => (t.want.length - intOf s4).toNat)
  case atStart => exact ⟨0, by omega, rfl, by have := HO0.out; rw [hXs] at this ⊢; simpa [labNums, intL] using this, (by repeat' (first | exact Below.refl _ _ | refine Below.alloc ?_ ?_ _ | refine Below.setCell ?_ ?_ _ | refine Below.drew ?_ | (apply below_step; assumption) | (simp; done) | (simp; omega) | omega))⟩
  case round =>
    obtain ⟨k, hk, rfl, hown, hB⟩ := hrel
    have HO := Lib.hid hown
    have hzr := hB.size
    have HL := Lib.hid (show ([t.id, t.prio, t.need.c, t.need.m, t.need.p, (t.want.length : Int)] ++ labNums (t.want.take k)).length ≤ 100 by rw [List.length_append, labNums_len, List.length_take]; simp; omega)
    have BR := HBX.out.below hB HBX.out.lt
    have g5 := BR.cell 5
    have gl := BR.lt
    simp at g5
    clear hown HO0
    by_cases hlt : k < t.want.length
    · obtain ⟨b, off, rfl, hbw, hat⟩ := HA.out (by omega)
      obtain ⟨r, hr⟩ : ∃ r, t.want[k]? = some r := ⟨_, List.getElem?_eq_getElem hlt⟩
      obtain ⟨q0, q1⟩ := hat k r hr
      have hki : (k : Int) < (t.want.length : Int) := by omega
      have hk0 : (0 : Int) ≤ (k : Int) := by omega
      have HS := Lib.hid (labNums_snoc hr)
      have HK := Lib.hid (show ∀ w', Below X.heap.size X w' → (fun w' => Below X.heap.size X w' ∧ (∀ o, w'.cell? ⟨w.heap.size, o, none⟩ = (#[.int .i64 t.id, .int .i64 t.prio, .int .i64 t.need.c, .int .i64 t.need.m, .int .i64 t.need.p, .slice (some ⟨b, off, none⟩) t.want.length c1, .slice A2 t.tols.length c2] : Array Value)[o]?) ∧ w'.cell? ⟨b, off + k * 2, none⟩ = some (.int .i64 r.k) ∧ w'.cell? ⟨b, off + k * 2 + 1, none⟩ = some (.int .i64 r.v)) w' from fun w' hb => by
        have hw := hX.trans (hb.mono hX.size)
        exact ⟨hb, fun o => (hb.cell (p := ⟨_, _, none⟩) HBX.out.lt).trans (HBX.out.cell o), (hw.cell (p := ⟨_, _, none⟩) hbw).trans q0, (hw.cell (p := ⟨_, _, none⟩) hbw).trans q1⟩)
      have HKA := Lib.hid (show ∀ Y w' : World, Below X.heap.size X Y → Below X.heap.size Y w' → (fun w' => Below X.heap.size X w' ∧ (∀ o, w'.cell? ⟨w.heap.size, o, none⟩ = (#[.int .i64 t.id, .int .i64 t.prio, .int .i64 t.need.c, .int .i64 t.need.m, .int .i64 t.need.p, .slice (some ⟨b, off, none⟩) t.want.length c1, .slice A2 t.tols.length c2] : Array Value)[o]?) ∧ w'.cell? ⟨b, off + k * 2, none⟩ = some (.int .i64 r.k) ∧ w'.cell? ⟨b, off + k * 2 + 1, none⟩ = some (.int .i64 r.v)) w' from fun Y w' h1 h2 => HK.out _ (h1.trans h2))
      have hXH := Lib.hid hX
      clear hat hr q0 q1 BR hX
      go_wp2_with fail
      go_region_held3 (fun w' => Below X.heap.size X w' ∧ (∀ o, w'.cell? ⟨w.heap.size, o, none⟩ = (#[.int .i64 t.id, .int .i64 t.prio, .int .i64 t.need.c, .int .i64 t.need.m, .int .i64 t.need.p, .slice (some ⟨b, off, none⟩) t.want.length c1, .slice A2 t.tols.length c2] : Array Value)[o]?) ∧ w'.cell? ⟨b, off + k * 2, none⟩ = some (.int .i64 r.k) ∧ w'.cell? ⟨b, off + k * 2 + 1, none⟩ = some (.int .i64 r.v))
        (first | exact HS4.out | exact HK.out _ (by repeat' (first | exact Below.refl _ _ | refine Below.alloc ?_ ?_ _ | refine Below.setCell ?_ ?_ _ | refine Below.drew ?_ | (apply below_step; assumption) | (simp; done) | (simp; omega) | omega)))
        (first | (refine step_spread_j _ (by rfl) (.tmp 29) (.tmp 42) (by rfl) X.heap.size _ ([t.id, t.prio, t.need.c, t.need.m, t.need.p, (t.want.length : Int)] ++ labNums (t.want.take k)) [r.k, r.v] _ _ (by rfl) (by rfl) (HO.out.below (B := wr.heap.size) (by repeat' (first | exact Below.refl _ _ | refine Below.alloc ?_ ?_ _ | refine Below.setCell ?_ ?_ _ | refine Below.drew ?_ | (apply below_step; assumption) | (simp; done) | (simp; omega) | omega)) (Nat.le_refl _)) (IntSl.two (by simp) (by simp) (by simp)) (by have := HL.out; simp only [List.length_cons, List.length_nil]; omega) (by simp; omega) ?_; intro v' w4 hown4 hb4 hg4; have HS4 := Lib.hid (HKA.out _ _ (by repeat' (first | exact Below.refl _ _ | refine Below.alloc ?_ ?_ _ | refine Below.setCell ?_ ?_ _ | refine Below.drew ?_ | (apply below_step; assumption) | (simp; done) | (simp; omega) | omega)) hb4); have HB4 := Lib.hid ((show Below X.heap.size X _ from (by repeat' (first | exact Below.refl _ _ | refine Below.alloc ?_ ?_ _ | refine Below.setCell ?_ ?_ _ | refine Below.drew ?_ | (apply below_step; assumption) | (simp; done) | (simp; omega) | omega))).trans hb4); have hz4 := hb4.size; (try simp at hz4)))
      all_goals
        go_wp2_with fail
        go_roundw
        case rel =>
          refine ⟨k + 1, by omega, by go_num, ?_, HB4.out⟩
          rw [HS.out, ← List.append_assoc]; exact hown4
        case measure => simp [intOf]; omega
    · have hkl : k = t.want.length := by omega
      have HF := Lib.hid (show OwnsJ wr X.heap.size _ ([t.id, t.prio, t.need.c, t.need.m, t.need.p, (t.want.length : Int)] ++ labNums t.want) by have := HO.out; rw [hkl, List.take_length] at this; exact this)
      have HLF := Lib.hid (show ([t.id, t.prio, t.need.c, t.need.m, t.need.p, (t.want.length : Int)] ++ labNums t.want).length ≤ 100 by have := HL.out; rw [hkl, List.take_length] at this; exact this)
      clear hkl HO HL BR
      have HX := Lib.hid hX
      have HK := Lib.hid (show ∀ w', Below X.heap.size X w' → (fun w' => Below X.heap.size X w' ∧ (∀ o, w'.cell? ⟨w.heap.size, o, none⟩ = (#[.int .i64 t.id, .int .i64 t.prio, .int .i64 t.need.c, .int .i64 t.need.m, .int .i64 t.need.p, .slice A1 t.want.length c1, .slice A2 t.tols.length c2] : Array Value)[o]?)) w' from fun w' hb => ⟨hb, fun o => (hb.cell (p := ⟨_, _, none⟩) HBX.out.lt).trans (HBX.out.cell o)⟩)
      have HKA := Lib.hid (show ∀ Y w' : World, Below X.heap.size X Y → Below X.heap.size Y w' → (fun w' => Below X.heap.size X w' ∧ (∀ o, w'.cell? ⟨w.heap.size, o, none⟩ = (#[.int .i64 t.id, .int .i64 t.prio, .int .i64 t.need.c, .int .i64 t.need.m, .int .i64 t.need.p, .slice A1 t.want.length c1, .slice A2 t.tols.length c2] : Array Value)[o]?)) w' from fun Y w' h1 h2 => HK.out _ (h1.trans h2))
      clear hX
      go_wp2_with fail
      go_region_held3 (fun w' => Below X.heap.size X w' ∧ (∀ o, w'.cell? ⟨w.heap.size, o, none⟩ = (#[.int .i64 t.id, .int .i64 t.prio, .int .i64 t.need.c, .int .i64 t.need.m, .int .i64 t.need.p, .slice A1 t.want.length c1, .slice A2 t.tols.length c2] : Array Value)[o]?))
        (first | exact HS5.out | exact HS4.out | exact HK.out _ (HB4.out.trans (by repeat' (first | exact Below.refl _ _ | refine Below.alloc ?_ ?_ _ | refine Below.setCell ?_ ?_ _ | refine Below.drew ?_ | (apply below_step; assumption) | (simp; done) | (simp; omega) | omega))) | exact HK.out _ (by repeat' (first | exact Below.refl _ _ | refine Below.alloc ?_ ?_ _ | refine Below.setCell ?_ ?_ _ | refine Below.drew ?_ | (apply below_step; assumption) | (simp; done) | (simp; omega) | omega)))
        (first
          | (refine step_spread_j _ (by rfl) (.tmp 44) (.tmp 48) (by rfl) X.heap.size _ ([t.id, t.prio, t.need.c, t.need.m, t.need.p, (t.want.length : Int)] ++ labNums t.want) [(t.tols.length : Int)] _ _ (by rfl) (by rfl) (HF.out.below (B := wr.heap.size) (by repeat' (first | exact Below.refl _ _ | refine Below.alloc ?_ ?_ _ | refine Below.setCell ?_ ?_ _ | refine Below.drew ?_ | (apply below_step; assumption) | (simp; done) | (simp; omega) | omega)) (Nat.le_refl _)) (IntSl.one (by simp) (by simp)) (by have := HLF.out; simp only [List.length_cons, List.length_nil]; omega) (by simp; omega) ?_; intro v' w4 hown4 hb4 hg4; have HS4 := Lib.hid (HKA.out _ _ (by repeat' (first | exact Below.refl _ _ | refine Below.alloc ?_ ?_ _ | refine Below.setCell ?_ ?_ _ | refine Below.drew ?_ | (apply below_step; assumption) | (simp; done) | (simp; omega) | omega)) hb4); have HB4 := Lib.hid ((show Below X.heap.size X _ from (by repeat' (first | exact Below.refl _ _ | refine Below.alloc ?_ ?_ _ | refine Below.setCell ?_ ?_ _ | refine Below.drew ?_ | (apply below_step; assumption) | (simp; done) | (simp; omega) | omega))).trans hb4); have HO4 := Lib.hid hown4; have hz4 := hb4.size; (try simp at hz4); clear hown4 hb4 hg4)
          | (refine step_spread_j _ (by rfl) (.tmp 49) (.tmp 51) (by rfl) X.heap.size _ ([t.id, t.prio, t.need.c, t.need.m, t.need.p, (t.want.length : Int)] ++ labNums t.want ++ [(t.tols.length : Int)]) t.tols _ _ (by rfl) (by rfl) (HO4.out.below (B := w4.heap.size) (by repeat' (first | exact Below.refl _ _ | refine Below.alloc ?_ ?_ _ | refine Below.setCell ?_ ?_ _ | refine Below.drew ?_ | (apply below_step; assumption) | (simp; done) | (simp; omega) | omega)) (Nat.le_refl _)) (HI.out.below (HX.out.trans ((HB4.out.trans (Below.mono (by exact (by repeat' (first | exact Below.refl _ _ | refine Below.alloc ?_ ?_ _ | refine Below.setCell ?_ ?_ _ | refine Below.drew ?_ | (apply below_step; assumption) | (simp; done) | (simp; omega) | omega))) (show X.heap.size ≤ w4.heap.size by omega))).mono HX.out.size))) (by have := HLF.out; simp only [List.length_append, List.length_cons, List.length_nil] at this ⊢; omega) (by first | omega | (simp; omega)) ?_; intro v5 w5 hown5 hb5 hg5; have HS5 := Lib.hid (HK.out _ ((HB4.out.trans (Below.mono (by exact (by repeat' (first | exact Below.refl _ _ | refine Below.alloc ?_ ?_ _ | refine Below.setCell ?_ ?_ _ | refine Below.drew ?_ | (apply below_step; assumption) | (simp; done) | (simp; omega) | omega))) (show X.heap.size ≤ w4.heap.size by omega))).trans hb5)); have HB5 := Lib.hid ((HB4.out.trans (Below.mono (by exact (by repeat' (first | exact Below.refl _ _ | refine Below.alloc ?_ ?_ _ | refine Below.setCell ?_ ?_ _ | refine Below.drew ?_ | (apply below_step; assumption) | (simp; done) | (simp; omega) | omega))) (show X.heap.size ≤ w4.heap.size by omega))).trans hb5); have hz5 := hb5.size; (try simp at hz5)))
      all_goals
        go_wp2_with fail
        go_ret
        exact ⟨_, rfl, hown5.lower HX.out.size, HX.out.trans (HB5.out.mono HX.out.size)⟩

set_option maxHeartbeats 3200000 in
theorem sTaskBytes_any (t : TV) (v1 v2 : Value) (w : World) (h1 : LabSl w v1 t.want) (h2 : IntSl w v2 t.tols) (l1 : t.want.length ≤ 1048576) (l2 : t.tols.length ≤ 1048576) :
    Calls Tryd.prog 10 #[.agg #[.int .i64 t.id, .int .i64 t.prio, .int .i64 t.need.c, .int .i64 t.need.m, .int .i64 t.need.p, v1, v2]] w (RetByts w (taskBytes t)) := by
  have hok := fun w1 (hb : Below w.heap.size w w1) => sTaskOk_any t v1 v2 w1 (h1.below hb) (h2.below hb) l1 l2
  have hE : taskBytes t = if t.ok = true then allBytes (taskNums t) else [] := rfl
  have hM := @tv_marks t
  have hT := taskNums_len t
  have hln := fun (h : t.ok = true) w1 (hb : Below w.heap.size w w1) => sl10Task_any t v1 v2 w1 (h1.below hb) (h2.below hb) (hM h).1 (hM h).2
  obtain ⟨A1, c1, rfl, _⟩ := h1.form
  obtain ⟨A2, c2, rfl, _⟩ := h2.form
  generalize t.ok = ok at hok hE hM hln
  generalize taskNums t = L at hE hT hln
  have HE := Lib.hid hE
  have HOK := Lib.hid hok
  have HLN := Lib.hid hln
  have HLL := Lib.hid (show ok = true → L.length ≤ 30 from fun h => by have := hM h; omega)
  clear hE hok h1 h2 hM hln hT l1 l2
  go_enter Tryd.func10, Tryd.ntmps10
  go_wp2_with fail
  have hX : Below w.heap.size w (w.alloc (.cells #[.int .i64 t.id, .int .i64 t.prio, .int .i64 t.need.c, .int .i64 t.need.m, .int .i64 t.need.p, .slice A1 t.want.length c1, .slice A2 t.tols.length c2] 34)) := (by repeat' (first | exact Below.refl _ _ | refine Below.alloc ?_ ?_ _ | refine Below.setCell ?_ ?_ _ | refine Below.drew ?_ | (apply below_step; assumption) | (simp; done) | (simp; omega) | omega))
  refine (HOK.out _ hX).mono ?_
  rintro e w1 ⟨rfl, hb1⟩
  have hC1 := below_of hX hb1
  have B1 := (BlockIs.new w 34 #[.int .i64 t.id, .int .i64 t.prio, .int .i64 t.need.c, .int .i64 t.need.m, .int .i64 t.need.p, .slice A1 t.want.length c1, .slice A2 t.tols.length c2]).below hb1 (by simp)
  cases ok
  · go_wp2_with fail
    go_ret
    exact ⟨_, rfl, by rw [HE.out]; exact OwnsY.nil _ _, hC1⟩
  · have hz1 := hC1.size
    have HLB := HLL.out rfl
    have bl := B1.lt
    have g0 := B1.cell 0
    have g1 := B1.cell 1
    have g2 := B1.cell 2
    have g3 := B1.cell 3
    have g4 := B1.cell 4
    have g5 := B1.cell 5
    have g6 := B1.cell 6
    simp at g0 g1 g2 g3 g4 g5 g6
    have HO0 := Lib.hid (made_y w1 w1.heap.size (Nat.le_refl _))
    clear B1 hb1 HOK HLL
    go_wp2_with fail
    have hX1 : Below w1.heap.size w1 (w1.alloc (.cells #[] 5)) := (by repeat' (first | exact Below.refl _ _ | refine Below.alloc ?_ ?_ _ | refine Below.setCell ?_ ?_ _ | refine Below.drew ?_ | (apply below_step; assumption) | (simp; done) | (simp; omega) | omega))
    have hC2 := below_of hC1 hX1
    refine (HLN.out (by trivial) _ hC2).mono ?_
    rintro e w2 ⟨v, rfl, hv, hb2⟩
    have hD2 := below_of hX1 hb2
    have hC3 := below_of hC1 hD2
    have hz2 := hD2.size
    have HO2 := Lib.hid (HO0.out.below hb2 (Nat.le_refl _))
    have HV := Lib.hid hv.o
    have HVL := Lib.hid (show ∀ b ∈ blk v, w1.heap.size < b from fun b hb => by have := hv.low b hb; simp at this; omega)
    obtain ⟨A, cc, rfl, -⟩ := own_form hv.o
    clear hv hb2 hX1 g0 g1 g2 g3 g4 g5 g6 HO0 hC2
    go_wp2_with fail
    go_loopw [3, 5] (fun s3 s5 wr => ∃ k : Nat, k ≤ L.length ∧ s5 = .int .i64 k ∧ OwnsY wr w1.heap.size s3 (allBytes (L.take k)) ∧ Below w1.heap.size w1 wr ∧ IntO wr (.slice A L.length cc) L ∧ ∀ b ∈ blk (.slice A L.length cc), b ∉ blk s3) (fun _ s5 _ => (L.length - intOf s5).toNat)
    case atStart => exact ⟨0, by omega, rfl, by simpa [allBytes] using HO2.out, hD2, HV.out, fun b hb hx => by have h1 := HVL.out b hb; simp [blk, Value.ownBlock] at hx; omega⟩
    case round =>
      obtain ⟨k, hk, rfl, hown, hB, hI, hdis⟩ := hrel
      have HO := Lib.hid hown
      have HI := Lib.hid hI
      have HD := Lib.hid hdis
      have hzr := hB.size
      clear hown hdis
      by_cases hlt : k < L.length
      · obtain ⟨A', c', eA, hAt⟩ := hI.sl.form
        simp only [Value.slice.injEq] at eA
        obtain ⟨rfl, -, rfl⟩ := eA
        obtain ⟨b, off, rfl, hbw, hat⟩ := hAt (by omega)
        obtain ⟨r, hr⟩ : ∃ r, L[k]? = some r := ⟨_, List.getElem?_eq_getElem hlt⟩
        have q0 := hat k r hr
        have hlti : (k : Int) < (L.length : Int) := by omega
        have HS := Lib.hid (allBytes_snoc hr)
        have HL := Lib.hid (show (allBytes (L.take k)).length ≤ 500000 by have := allBytes_len (L.take k); rw [List.length_take] at this; omega)
        have hnl := numBytes_len r
        clear hat hr hAt hI
        go_wp2_with fail
        refine (sNumBytes_any r _).mono ?_
        rintro e w4 ⟨v4, rfl, hv4, hb4⟩
        have hz4 := hb4.size
        have HO4 := Lib.hid (HO.out.below hb4 (Nat.le_refl _))
        have HV4 := Lib.hid hv4.o.sl
        have HI4 := Lib.hid (show IntO w4 _ L from own_agree HI.out (Agree.of_below hb4 (own_lt HI.out)))
        have hB4 := below_of hB hb4
        have HBL := Lib.hid (own_lt HI.out)
        obtain ⟨V4, c4, rfl, -⟩ := own_form hv4.o
        clear hv4 hb4 q0
        go_wp2_with (at_builtin; refine wpList_spreadb_y _ rfl (.tmp 18) (.tmp 23) rfl w1.heap.size _ _ _ _ _ rfl rfl HO4.out HV4.out (by have := HL.out; omega) (by omega) ?_; intro v' w6 hown6 hb6 hg6 hw6)
        go_roundw
        case rel =>
          refine ⟨k + 1, by omega, by go_num, by rw [HS.out]; exact hown6, hB4.trans hb6, own_agree HI4.out (Agree.of_grown hg6 (fun x hx => ⟨own_lt HI4.out x hx, fun e => HD.out x hx ((congrArg (fun o => x ∈ Option.toList o) e).mp (List.mem_singleton_self x))⟩)), fun x hx hy => ?_⟩
          rcases hw6 with e | e
          · have hy' : x ∈ blk v' := hy
            exact HD.out x hx (by unfold blk at hy' ⊢; rw [e] at hy'; exact hy')
          · have h1 := HBL.out x hx
            have hy' : x ∈ blk v' := hy
            unfold blk at hy'; rw [e] at hy'
            have := List.mem_singleton.1 hy'
            omega
        case measure => simp [intOf]; omega
      · have hkl : k = L.length := by omega
        have HF := Lib.hid (show OwnsY wr w1.heap.size _ (allBytes L) by have := HO.out; rw [hkl, List.take_length] at this; exact this)
        have hCf := below_of hC1 hB
        clear hkl HO hI
        go_wp2_with fail
        go_ret
        refine ⟨_, rfl, ?_, hCf⟩
        rw [HE.out, if_pos (by trivial)]
        exact HF.out.lower hz1
end Go.Proofs.YtcngiinaneefjaaDoor
