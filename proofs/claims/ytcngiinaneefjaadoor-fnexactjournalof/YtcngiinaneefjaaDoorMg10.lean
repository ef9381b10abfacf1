/- The contract of the model's EventBytes. What was written as an integer is read as it, in plain Lean. The contracts of the model's l10Record and JournalOf. Whole structs as rows: a load that a guard asks for; a call's results out of a cell; what turned blocks leave. What this seat's rows share: the closed facts; a slice of labels, a slice of integers, a label, opened. A slice of integers, opened. Tasks and nodes as arguments, opened. The laws' szEvent, toEvent, eqEvent; an event as an argument, opened. The laws' helpers that write marks and look for them, over tasks and nodes: markTaskS, markNodeS, heldTaskS, heldNodeS. The laws' helpers toIntS, toTask, toNode, toTaskS, toNodeS, toBindS: their results own their memory, block by block. toEvent into memory of its own; markEvent. (mkevbytes.py) A cluster as an argument, opened. Slices of events: szEventS, toEventS, eqEventS; an argument opened. (mkevs.py, out of PoolS) Events of the call's own: EventO, toEventS_o. (mkevo.py, out of WorldO) -/
import Derived.Test.YtcngiinaneefjaaDoorMg08
import Derived.Test.YtcngiinaneefjaaDoorEventS
import Derived.Test.YtcngiinaneefjaaDoorMg05
import Derived.Laws.Rows
import Derived.Laws.Tables
import Derived.Laws.CopyOwn
import Derived.Test.YtcngiinaneefjaaDoorRowBase
import Derived.Test.YtcngiinaneefjaaDoorMg02
import Derived.Deep.Slices
import Derived.Deep.Fields
import Derived.ChangeSame
import Derived.Deep.Strs
import Derived.Test.YtcngiinaneefjaaDoorEventI
import Derived.Test.YtcngiinaneefjaaDoorCluOwn
namespace Go.Proofs.YtcngiinaneefjaaDoor
open Go.RowKit

theorem flags_cases (e : EV) : (e.works = false ∧ e.keep = false ∧ flagsN e = 0) ∨ (e.works = true ∧ e.keep = false ∧ flagsN e = 1) ∨ (e.works = false ∧ e.keep = true ∧ flagsN e = 2) ∨ (e.works = true ∧ e.keep = true ∧ flagsN e = 3) := by
  unfold flagsN
  cases e.works <;> cases e.keep <;> simp
set_option maxRecDepth 20000 in
set_option maxHeartbeats 6400000 in
theorem sEventBytes_any (e : EV) (v1 v2 : Value) (w : World) (h1 : LabSl w v1 e.task.want) (h2 : IntSl w v2 e.task.tols) (l1 : e.task.want.length ≤ 1048576) (l2 : e.task.tols.length ≤ 1048576) :
    Calls Tryd.prog 23 #[.agg #[.int .i64 e.kind, .int .i64 e.who, .int .i64 e.n, .bool e.works, .bool e.keep, .int .i64 e.task.id, .int .i64 e.task.prio, .int .i64 e.task.need.c, .int .i64 e.task.need.m, .int .i64 e.task.need.p, v1, v2]] w (RetByts w (eventBytes e)) := by
  have hok := fun w1 (hb : Below w.heap.size w w1) => sEventOk_any e v1 v2 w1 (h1.below hb) (h2.below hb) l1 l2
  have htb := fun w1 (hb : Below w.heap.size w w1) => sTaskBytes_any e.task v1 v2 w1 (h1.below hb) (h2.below hb) l1 l2
  have hE : eventBytes e = if eventOk e = true then eventHead e ++ (if e.kind = 4 then taskBytes e.task else []) else [] := rfl
  have hK := @eventOk_kind e
  have hTL := taskBytes_len e.task
  obtain ⟨A1, c1, rfl, _⟩ := h1.form
  obtain ⟨A2, c2, rfl, _⟩ := h2.form
  generalize eventOk e = ok at hok hE hK
  generalize taskBytes e.task = T at htb hE hTL
  have HE := Lib.hid hE
  have HOK := Lib.hid hok
  have HTB := Lib.hid htb
  have HKI := Lib.hid hK
  have HTL := Lib.hid hTL
  have HFR := Lib.hid (flagsN_range e)
  have HFL := Lib.hid (show (if e.works = true then (1 : Int) else 0) + (if e.keep = true then 2 else 0) = flagsN e from rfl)
  clear hE hok h1 h2 hK htb hTL l1 l2
  go_enter Tryd.func23, Tryd.ntmps23
  go_wp2_with fail
  have hX : Below w.heap.size w (w.alloc (.cells #[.int .i64 e.kind, .int .i64 e.who, .int .i64 e.n, .bool e.works, .bool e.keep, .int .i64 e.task.id, .int .i64 e.task.prio, .int .i64 e.task.need.c, .int .i64 e.task.need.m, .int .i64 e.task.need.p, .slice A1 e.task.want.length c1, .slice A2 e.task.tols.length c2] 50)) := (by repeat' (first | exact Below.refl _ _ | refine Below.alloc ?_ ?_ _ | refine Below.setCell ?_ ?_ _ | refine Below.drew ?_ | (apply below_step; assumption) | (simp; done) | (simp; omega) | omega))
  refine (HOK.out _ hX).mono ?_
  rintro r w1 ⟨rfl, hb1⟩
  have hC1 := below_of hX hb1
  have B1 := (BlockIs.new w 50 #[.int .i64 e.kind, .int .i64 e.who, .int .i64 e.n, .bool e.works, .bool e.keep, .int .i64 e.task.id, .int .i64 e.task.prio, .int .i64 e.task.need.c, .int .i64 e.task.need.m, .int .i64 e.task.need.p, .slice A1 e.task.want.length c1, .slice A2 e.task.tols.length c2]).below hb1 (by simp)
  cases ok
  · go_wp2_with fail
    go_ret
    exact ⟨_, rfl, by rw [HE.out]; exact OwnsY.nil _ _, hC1⟩
  · have hz1 := hC1.size
    have HB1 := Lib.hid B1
    have hkind := HKI.out (by trivial)
    have hkm : IntKind.u8.wrap e.kind = e.kind := by rw [IntKind.wrap_u8']; omega
    have hfm : IntKind.u8.wrap (flagsN e) = flagsN e := by have := HFR.out; rw [IntKind.wrap_u8']; omega
    have HKN := Lib.hid hkind
    have bl := B1.lt
    have HK := Lib.hid (show ∀ w', Below w1.heap.size w1 w' → (fun w' => Below w1.heap.size w1 w' ∧ (∀ o, w'.cell? ⟨w.heap.size, o, none⟩ = (#[.int .i64 e.kind, .int .i64 e.who, .int .i64 e.n, .bool e.works, .bool e.keep, .int .i64 e.task.id, .int .i64 e.task.prio, .int .i64 e.task.need.c, .int .i64 e.task.need.m, .int .i64 e.task.need.p, .slice A1 e.task.want.length c1, .slice A2 e.task.tols.length c2] : Array Value)[o]?)) w' from fun w' hb => ⟨hb, fun o => (hb.cell (p := ⟨_, _, none⟩) bl).trans (HB1.out.cell o)⟩)
    have HC1 := Lib.hid hC1
    have g0 := B1.cell 0
    have g3 := B1.cell 3
    have g4 := B1.cell 4
    simp at g0 g3 g4
    clear hb1 HOK HKI B1 hX hC1 hkind
    have HHL := Lib.hid (eventHead_len e)
    have HFD := Lib.hid (flags_cases e)
    rcases HFD.out with ⟨hw, hk, hf⟩ | ⟨hw, hk, hf⟩ | ⟨hw, hk, hf⟩ | ⟨hw, hk, hf⟩
    all_goals
      rw [hf] at hfm
      have HF := Lib.hid hf
      rw [hw] at g3
      rw [hk] at g4
      clear hw hk hf
      go_upto_region 8 with fail
      go_cut [4] (fun s4 wx => OwnsY wx w1.heap.size s4 ([e.kind] ++ numBytes e.who) ∧ Below w1.heap.size w1 wx)
      case first =>
        go_region_held3 (fun w' => Below w1.heap.size w1 w' ∧ (∀ o, w'.cell? ⟨w.heap.size, o, none⟩ = (#[.int .i64 e.kind, .int .i64 e.who, .int .i64 e.n, .bool e.works, .bool e.keep, .int .i64 e.task.id, .int .i64 e.task.prio, .int .i64 e.task.need.c, .int .i64 e.task.need.m, .int .i64 e.task.need.p, .slice A1 e.task.want.length c1, .slice A2 e.task.tols.length c2] : Array Value)[o]?))
          (first | exact HS6.out | exact HK.out _ (by repeat' (first | exact Below.refl _ _ | refine Below.alloc ?_ ?_ _ | refine Below.setCell ?_ ?_ _ | refine Below.drew ?_ | (apply below_step; assumption) | (simp; done) | (simp; omega) | omega)))
          (first
            | (go_at_call 44; refine (sNumBytes_any e.who _).mono ?_; rintro r7 w7 ⟨v7, rfl, hv7, hb7⟩; have HV7 := Lib.hid hv7.o.sl; obtain ⟨V7, cp7, rfl, -⟩ := own_form hv7.o; have hz7 := hb7.size; (try simp at hz7); clear hv7)
            | (refine step_spread_y _ (by rfl) (.tmp 19) (.tmp 22) (by rfl) w1.heap.size _ [e.kind] (numBytes e.who) _ _ (by rfl) (by rfl) (by first | exact (OwnsY.one_blk (w := w1) (Nat.le_refl _)).below (by repeat' (first | exact Below.refl _ _ | refine Below.alloc ?_ ?_ _ | refine Below.setCell ?_ ?_ _ | refine Below.drew ?_ | (apply below_step; assumption) | (simp; done) | (simp; omega) | omega)) (Nat.le_refl _) | exact (OwnsY.one_blk (w := w7) (by omega)).below (by repeat' (first | exact Below.refl _ _ | refine Below.alloc ?_ ?_ _ | refine Below.setCell ?_ ?_ _ | refine Below.drew ?_ | (apply below_step; assumption) | (simp; done) | (simp; omega) | omega)) (Nat.le_refl _)) (HV7.out.below (by repeat' (first | exact Below.refl _ _ | refine Below.alloc ?_ ?_ _ | refine Below.setCell ?_ ?_ _ | refine Below.drew ?_ | (apply below_step; assumption) | (simp; done) | (simp; omega) | omega))) (by have := numBytes_len e.who; simp only [List.length_cons, List.length_nil]; omega) (by first | omega | (simp; omega)) ?_; intro v6 w6 hown6 hb6 hg6; have HS6 := Lib.hid (HK.out _ ((show Below w1.heap.size w1 _ from (by repeat' (first | exact Below.refl _ _ | refine Below.alloc ?_ ?_ _ | refine Below.setCell ?_ ?_ _ | refine Below.drew ?_ | (apply below_step; assumption) | (simp; done) | (simp; omega) | omega))).trans hb6)); have HB6 := Lib.hid ((show Below w1.heap.size w1 _ from (by repeat' (first | exact Below.refl _ _ | refine Below.alloc ?_ ?_ _ | refine Below.setCell ?_ ?_ _ | refine Below.drew ?_ | (apply below_step; assumption) | (simp; done) | (simp; omega) | omega))).trans hb6); have hz6 := hb6.size; (try simp at hz6)))
        all_goals
          go_wp2_with fail
          go_meet
          exact ⟨hown6, HB6.out⟩
      case rest =>
        obtain ⟨hown, hB⟩ := hcut
        have hCB := below_of HC1.out hB
        have hzc := hB.size
        have BC := HB1.out.below hB bl
        have HO := Lib.hid hown
        have q2 := BC.cell 2
        simp at q2
        clear hown BC HK g0 g3 g4
        go_wp2_with fail
        refine (sNumBytes_any e.n _).mono ?_
        rintro r8 w8 ⟨v8, rfl, hv8, hb8⟩
        have hz8 := hb8.size
        have HO8 := Lib.hid (HO.out.below hb8 (Nat.le_refl _))
        have HV8 := Lib.hid hv8.o.sl
        have hB8 := below_of hB hb8
        obtain ⟨V8, cp8, rfl, -⟩ := own_form hv8.o
        have hnl := numBytes_len e.n
        have hwl := numBytes_len e.who
        clear hv8 hb8 q2
        go_upto_region 10 with (first
          | (at_builtin; refine wpList_spread_y _ rfl (.tmp 24) (.tmp 27) rfl w1.heap.size _ ([e.kind] ++ numBytes e.who) (numBytes e.n) _ _ rfl rfl HO8.out HV8.out (by simp; omega) (by omega) ?_; intro v9 w9 hown9 hb9 hg9; have HO9 := Lib.hid hown9; have hB9 := hB8.trans hb9; have hz9 := hB9.size; clear hown9 hg9)
          | (at_builtin; refine wpList_append_y _ rfl (.tmp 28) (.tmp 31) rfl w1.heap.size _ ([e.kind] ++ numBytes e.who ++ numBytes e.n) _ w9.heap.size rfl (HO9.out.alloc _) rfl (by simp; rfl) (by simp; omega) (by simp; omega) ?_; intro v10 w10 hown10 hb10; have hB10 := (hB9.alloc (by omega) _).trans hb10; have HO10 := Lib.hid (show OwnsY w10 w1.heap.size v10 (eventHead e) by unfold eventHead; rw [HF.out]; exact hown10); clear hown10))
        have hz10 := hB10.size
        have BC := HB1.out.below hB10 bl
        have hCB := below_of HC1.out hB10
        have g0 := BC.cell 0
        have g5 := BC.cell 5
        have g6 := BC.cell 6
        have g7 := BC.cell 7
        have g8 := BC.cell 8
        have g9 := BC.cell 9
        have g10 := BC.cell 10
        have g11 := BC.cell 11
        simp at g0 g5 g6 g7 g8 g9 g10 g11
        clear BC
        by_cases hk4 : e.kind = 4
        · have hk4' : (e.kind == 4) = true := by simp [hk4]
          have HK4 := Lib.hid hk4
          clear hk4
          go_wp2_with fail
          refine (HTB.out _ hCB).mono ?_
          rintro r11 w11 ⟨v11, rfl, hv11, hb11⟩
          have hz11 := hb11.size
          have HO11 := Lib.hid (HO10.out.below hb11 (Nat.le_refl _))
          have HV11 := Lib.hid hv11.o.sl
          have hB11 := below_of hB10 hb11
          obtain ⟨V11, cp11, rfl, -⟩ := own_form hv11.o
          clear hv11 hb11 g0 g5 g6 g7 g8 g9 g10 g11
          go_wp2_with (at_builtin; refine wpList_spread_y _ rfl (.tmp 36) (.tmp 39) rfl w1.heap.size _ (eventHead e) T _ _ rfl rfl HO11.out HV11.out (by have := HHL.out; have := HTL.out; omega) (by omega) ?_; intro v' w12 hown12 hb12 hg12)
          go_ret
          refine ⟨_, rfl, ?_, below_of HC1.out (hB11.trans hb12)⟩
          rw [HE.out, if_pos (by trivial), if_pos HK4.out]
          exact hown12.lower hz1
        · have hk4' : (e.kind == 4) = false := by simp [hk4]
          have HK4 := Lib.hid hk4
          clear hk4
          go_wp2_with fail
          go_ret
          refine ⟨_, rfl, ?_, hCB⟩
          rw [HE.out, if_pos (by trivial), if_neg HK4.out, List.append_nil]
          exact HO10.out.lower hz1
end Go.Proofs.YtcngiinaneefjaaDoor

namespace Go.Proofs.YtcngiinaneefjaaDoor

theorem numB_bytes : ∀ N : Nat, ∀ b ∈ numB N, 0 ≤ b ∧ b ≤ 255 := by
  intro N
  induction N using Nat.strongRecOn with
  | _ N ih =>
    intro b hb
    by_cases h : N < 128
    · rw [numB_small h] at hb
      simp at hb; omega
    · rw [numB_big (by omega)] at hb
      rcases List.mem_cons.1 hb with rfl | hb
      · omega
      · exact ih (N / 128) (by omega) b hb
theorem numBytes_bytes (n : Int) : ∀ b ∈ numBytes n, 0 ≤ b ∧ b ≤ 255 := by
  unfold numBytes
  split
  · exact numB_bytes _
  · simp
end Go.Proofs.YtcngiinaneefjaaDoor

namespace Go.Proofs.YtcngiinaneefjaaDoor
open Go.RowKit

theorem taskBytes_bytes (t : TV) : ∀ b ∈ taskBytes t, 0 ≤ b ∧ b ≤ 255 := by
  unfold taskBytes
  split
  · intro b hb
    obtain ⟨n, _, hn⟩ := List.mem_flatMap.1 hb
    exact numBytes_bytes n b hn
  · simp
theorem eventBytes_bytes (e : EV) : ∀ b ∈ eventBytes e, 0 ≤ b ∧ b ≤ 255 := by
  unfold eventBytes
  split
  · rename_i h
    have hk := eventOk_kind h
    have hf := flagsN_range e
    intro b hb
    rcases List.mem_append.1 hb with hb | hb
    · simp only [eventHead, List.mem_append, List.mem_singleton] at hb
      rcases hb with ((rfl | hb) | hb) | rfl
      · omega
      · exact numBytes_bytes _ b hb
      · exact numBytes_bytes _ b hb
      · omega
    · split at hb
      · exact taskBytes_bytes _ b hb
      · simp at hb
  · simp
set_option maxHeartbeats 3200000 in
theorem sl10Record_any (v : Value) (d : List Int) (w : World) (hv : BytSl w v d) (hl : d.length ≤ 137) (hb : ∀ b ∈ d, 0 ≤ b ∧ b ≤ 255) : Calls Tryd.prog 67 #[v] w (RetByts w (recB d)) := by
  obtain ⟨A, c, rfl, hA⟩ := hv.form
  have HA := Lib.hid hA
  have HV := Lib.hid hv
  have HB := Lib.hid hb
  clear hA hv hb
  go_enter Tryd.func67, Tryd.ntmps67
  go_wp2_with fail
  go_loopw [3, 4] (fun s3 s4 wr => ∃ k S : Nat, k ≤ d.length ∧ s4 = .int .i64 k ∧ s3 = .int .i64 S ∧ (S : Int) = (d.take k).sum ∧ S ≤ 255 * k ∧ Below w.heap.size w wr) (fun _ s4 _ => (d.length - intOf s4).toNat)
  case atStart => exact ⟨0, 0, by omega, rfl, rfl, by simp, by omega, Below.refl _ _⟩
  case round =>
    obtain ⟨k, S, hk, rfl, rfl, hS, hSl, hB⟩ := hrel
    have HS := Lib.hid hS
    clear hS
    by_cases hlt : k < d.length
    · obtain ⟨b, off, rfl, hbw, hat⟩ := HA.out (by omega)
      obtain ⟨r, hr⟩ : ∃ r, d[k]? = some r := ⟨_, List.getElem?_eq_getElem hlt⟩
      have q0 := (hat.below hB hbw) k r hr
      have hlti : (k : Int) < (d.length : Int) := by omega
      have hrb := HB.out r (List.mem_of_getElem? hr)
      have HN := Lib.hid (sum_snoc hr)
      obtain ⟨R, rfl⟩ := Int.eq_ofNat_of_zero_le hrb.1
      have hR : R ≤ 255 := by omega
      clear hat hr hrb
      go_wp2_with fail
      go_roundw
      case rel => exact ⟨k + 1, S + R, by omega, by go_num, by go_num, by rw [HN.out, ← HS.out]; omega, by omega, hB⟩
      case measure => simp [intOf]; omega
    · have hkl : k = d.length := by omega
      have HF := Lib.hid (show (S : Int) = d.sum by have := HS.out; rw [hkl, List.take_length] at this; exact this)
      have hw8 : IntKind.u8.wrap (d.length : Int) = (d.length : Int) := by rw [IntKind.wrap_u8']; omega
      have hw9 : IntKind.u8.wrap ((S : Int) % 256) = (S : Int) % 256 := by rw [IntKind.wrap_u8']; omega
      have HVr := Lib.hid (HV.out.below hB)
      have hzr := hB.size
      clear hkl HS
      go_wp2_with (first
        | (at_builtin; refine wpList_spread_y _ rfl (.tmp 21) (.tmp 22) rfl wr.heap.size _ [(d.length : Int)] d _ _ rfl rfl (OwnsY.one_blk (Nat.le_refl _)) (HVr.out.below (by repeat' (first | exact Below.refl _ _ | refine Below.alloc ?_ ?_ _ | refine Below.setCell ?_ ?_ _ | refine Below.drew ?_ | (apply below_step; assumption) | (simp; done) | (simp; omega) | omega))) (by simp; omega) (by simp) ?_; intro v5 w5 hown5 hb5 hg5; have HO5 := Lib.hid hown5; have hz5 := hb5.size; simp at hz5)
        | (at_builtin; refine wpList_append_y _ rfl (.tmp 23) (.tmp 27) rfl wr.heap.size _ ([(d.length : Int)] ++ d) ((S : Int) % 256) w5.heap.size rfl (HO5.out.alloc _) rfl (by simp) (by simp; omega) (by simp; omega) ?_; intro v6 w6 hown6 hb6; have HO6 := Lib.hid hown6))
      go_ret
      refine ⟨_, rfl, by rw [recB, ← HF.out]; exact HO6.out.lower hzr, ?_⟩
      have hD5 : Below wr.heap.size wr w5 := (show Below wr.heap.size wr (wr.alloc _) from (by repeat' (first | exact Below.refl _ _ | refine Below.alloc ?_ ?_ _ | refine Below.setCell ?_ ?_ _ | refine Below.drew ?_ | (apply below_step; assumption) | (simp; done) | (simp; omega) | omega))).trans hb5
      exact below_of hB ((hD5.alloc (by omega) _).trans hb6)
set_option maxHeartbeats 3200000 in
set_option maxRecDepth 20000 in
theorem sJournalOf_any (v : Value) (l : List EV) (w : World) (hv : EventSl w v l) (hl : l.length ≤ 1048576) : Calls Tryd.prog 32 #[v] w (RetJour w l) := by
  obtain ⟨A, c, rfl, hA⟩ := hv.form
  have HA := Lib.hid hA
  clear hA hv
  go_enter Tryd.func32, Tryd.ntmps32
  by_cases hbig : 300 < l.length
  · have hb1 : (300 : Int) < (l.length : Int) := by omega
    have hJ : journalOk l = false := by unfold journalOk; simp; omega
    go_wp2_with fail
    exact bodyPost_ret (v := .tuple #[.slice none 0 0, .bool false]) (by simp [results, Tryd.results32, go_sem]) rfl ⟨_, by rw [hJ], by rw [journalV, hJ]; exact OwnsY.nil _ _, Below.refl _ _⟩
  · have hb1 : ¬ (300 : Int) < (l.length : Int) := by omega
    have hl3 : l.length ≤ 300 := by omega
    have HO0 := Lib.hid (made_y w w.heap.size (Nat.le_refl _))
    clear hbig
    go_wp2_with fail
    go_loopw [4, 5] (fun s4 s5 wr => ∃ k : Nat, k ≤ l.length ∧ s5 = .int .i64 k ∧ OwnsY wr w.heap.size s4 (journalB (l.take k)) ∧ Below w.heap.size w wr ∧ ∀ (i : Nat) (e : EV), i < k → l[i]? = some e → eventOk e = true) (fun _ s5 _ => (l.length - intOf s5).toNat)
    case atStart => exact ⟨0, by omega, rfl, by simpa [journalB] using HO0.out, (by repeat' (first | exact Below.refl _ _ | refine Below.alloc ?_ ?_ _ | refine Below.setCell ?_ ?_ _ | refine Below.drew ?_ | (apply below_step; assumption) | (simp; done) | (simp; omega) | omega)), fun i e h => absurd h (by omega)⟩
    case round =>
      obtain ⟨k, hk, rfl, hown, hB, hall⟩ := hrel
      have HO := Lib.hid hown
      have HAL := Lib.hid hall
      have hzr := hB.size
      clear hown hall
      by_cases hlt : k < l.length
      · obtain ⟨b, off, rfl, hbw, hat⟩ := HA.out (by omega)
        obtain ⟨e, he⟩ : ∃ e, l[k]? = some e := ⟨_, List.getElem?_eq_getElem hlt⟩
        obtain ⟨cs, hR, hC⟩ := (hat.below EventR.kept hB hbw) k e he
        obtain ⟨u1, u2, rfl, k1, k2, m1, m2⟩ := hR
        obtain ⟨A1, c1, rfl, _⟩ := k1.form
        obtain ⟨A2, c2, rfl, _⟩ := k2.form
        have HCE := Lib.hid (And.intro hC hbw)
        obtain ⟨n0, n1, n2, n3, n4, n5, n6, n7, n8, n9, n10, n11⟩ := event_cells hC
        have hlti : (k : Int) < (l.length : Int) := by omega
        have hk0 : (0 : Int) ≤ (k : Int) := by omega
        have HE := Lib.hid he
        have HJ := Lib.hid (journalB_snoc he)
        have HL := Lib.hid (show (journalB (l.take k)).length ≤ 41700 by have := journalB_len (l.take k); rw [List.length_take] at this; omega)
        have HK1 := Lib.hid k1
        have HK2 := Lib.hid k2
        have HM := Lib.hid (And.intro m1 m2)
        clear hat hC he k1 k2 m1 m2
        go_wp2_with fail
        refine (sEventOk_any e _ _ _ HK1.out HK2.out HM.out.1 HM.out.2).mono ?_
        rintro r w3 ⟨rfl, hb3⟩
        have hC3 := below_of hB hb3
        have HO3 := Lib.hid (HO.out.below hb3 (Nat.le_refl _))
        have HK13 := Lib.hid (HK1.out.below hb3)
        have HK23 := Lib.hid (HK2.out.below hb3)
        have hz3 := hb3.size
        cases hev : eventOk e with
        | false =>
          have hJ := journal_bad HE.out hev
          clear n0 n1 n2 n3 n4 n5 n6 n7 n8 n9 n10 n11
          go_wp2_with fail
          exact bodyPost_ret (v := .tuple #[.slice none 0 0, .bool false]) (by simp [results, Tryd.results32, go_sem]) rfl ⟨_, by rw [hJ], by rw [journalV, hJ]; exact OwnsY.nil _ _, hC3⟩
        | true =>
          have HEV := Lib.hid hev
          clear n0 n1 n2 n3 n4 n5 n6 n7 n8 n9 n10 n11
          obtain ⟨n0, n1, n2, n3, n4, n5, n6, n7, n8, n9, n10, n11⟩ := event_cells (HCE.out.1.below hb3 (by have := HCE.out.2; omega))
          clear hev
          go_wp2_with fail
          refine (sEventBytes_any e _ _ _ HK13.out HK23.out HM.out.1 HM.out.2).mono ?_
          rintro r w4 ⟨v4, rfl, hv4, hb4⟩
          have hC4 := below_of hC3 hb4
          have HV4 := Lib.hid hv4.o.sl
          have HO4 := Lib.hid (HO3.out.below hb4 (Nat.le_refl _))
          have hz4 := hb4.size
          obtain ⟨V4, cp4, rfl, -⟩ := own_form hv4.o
          clear hv4 hb4 n0 n1 n2 n3 n4 n5 n6 n7 n8 n9 n10 n11
          go_wp2_with fail
          refine (sl10Record_any _ (eventBytes e) _ HV4.out (eventBytes_len e) (eventBytes_bytes e)).mono ?_
          rintro r w5 ⟨v5, rfl, hv5, hb5⟩
          have hz5 := hb5.size
          have HO5 := Lib.hid (HO4.out.below hb5 (Nat.le_refl _))
          have HV5 := Lib.hid hv5.o.sl
          have hC5 := below_of hC4 hb5
          have HRL := Lib.hid (show (recB (eventBytes e)).length ≤ 139 by have := recB_len (eventBytes e); have := eventBytes_len e; omega)
          obtain ⟨V5, cp5, rfl, -⟩ := own_form hv5.o
          clear hv5 hb5 HV4
          generalize recB (eventBytes e) = d at HRL HJ HV5 ⊢
          go_wp2_with (at_builtin; refine wpList_spread_y _ rfl (.tmp 22) (.tmp 28) rfl w.heap.size _ _ d _ _ rfl rfl HO5.out HV5.out (by have := HL.out; have := HRL.out; omega) (by omega) ?_; intro v' w6 hown6 hb6 hg6)
          go_roundw
          case rel =>
            refine ⟨k + 1, by omega, by go_num, by rw [HJ.out]; exact hown6, hC5.trans hb6, fun i e' hi he' => ?_⟩
            by_cases hik : i = k
            · subst hik
              obtain rfl := Option.some.inj (HE.out.symm.trans he')
              exact HEV.out
            · exact HAL.out i e' (by omega) he'
          case measure => simp [intOf]; omega
      · have hkl : k = l.length := by omega
        have HJ := Lib.hid (journal_good hl3 (fun i e h => HAL.out i e (by have := (List.getElem?_eq_some_iff.1 h).1; omega) h))
        have HF := Lib.hid (show OwnsY wr w.heap.size _ (journalB l) by have := HO.out; rw [hkl, List.take_length] at this; exact this)
        clear hkl HO
        go_wp2_with fail
        refine bodyPost_ret (v := .tuple #[_, .bool true]) (by simp [results, Tryd.results32, go_sem]; rfl) rfl ⟨_, by rw [HJ.out], by rw [journalV, HJ.out]; exact HF.out, hB⟩
end Go.Proofs.YtcngiinaneefjaaDoor

namespace Go.Proofs.YtcngiinaneefjaaDoor
open Go.RowKit

theorem cell_turn {bs : List Nat} {w w' : World} {b o : Nat} (h : TurnB bs w w') (hb : b < w.heap.size) (hn : b ∉ bs) : w'.cell? ⟨b, o, none⟩ = w.cell? ⟨b, o, none⟩ := by
  simp only [World.cell?, h.block b hb hn]
theorem TurnB.setRow {bs : List Nat} {w w' : World} {g : Nat} (h : TurnB bs w w') (hg : g ∈ bs) (cs : Array Value) : TurnB bs w (w'.setRow g cs) :=
  h.trans ⟨rfl, rfl, rfl, by simp [World.setRow], fun k _ hne => setRow_other _ _ _ _ (fun e => hne (by rw [e]; exact hg))⟩
theorem IntAt.turn {bs : List Nat} {w w' : World} {b off : Nat} {l : List Int} (h : IntAt w b off l) (ht : TurnB bs w w') (hb : b < w.heap.size) (hn : b ∉ bs) : IntAt w' b off l := fun i r hr => (cell_turn ht hb hn).trans (h i r hr)
theorem BlockIs.row {w : World} {g : Nat} {t : TypeId} {old cs : Array Value} (h : BlockIs w g t old) : BlockIs (w.setRow g cs) g t cs := setRow_heap _ _ _ _ _ _ h
end Go.Proofs.YtcngiinaneefjaaDoor

namespace Go.Proofs.YtcngiinaneefjaaDoor
open Go.ChangeShapes Go.WideShapes Go.ChangeAt Go.RowKit Go.Joins

theorem Tryd.cellsLab : Tryd.prog.cellsOf 102 = 2 := by kernel_rfl

section
variable {H : Type} {enc : TypeId × Value → H} {W : World}
set_option maxRecDepth 100000 in
theorem open_labC {fuel : Nat} {v : Value} {x : DataW H × List MemPlace} (h : DataW.trod enc Tryd.prog W 0 (fun _ => true) true fuel 24 [v] = some x) :
    ∃ A n c, v = .slice A n c ∧ n ≤ maxLen ∧ ∃ l : List LV, l.length = n ∧ LabSl W v l := by
  rcases Go.Deep.open_slice Tryd.underlying24 h with ⟨hcs, _⟩ | ⟨a, n, cap, m, n', D, Pl, hcs, hb, hl, hm, hmm, hx, hi⟩
  · simp at hcs
    subst hcs
    exact ⟨none, 0, 0, rfl, by unfold maxLen; omega, [], rfl, .inl ⟨rfl, _, _, rfl⟩⟩
  · simp at hcs
    subst hcs
    rw [if_pos rfl] at hmm
    subst hmm
    have hel : ∀ i, i < n → ∃ r : LV, W.cell? (a.add (i * 2)) = some (.int .i64 r.k) ∧ W.cell? (a.add (i * 2 + 1)) = some (.int .i64 r.v) := by
      intro i hin
      obtain ⟨cs', hc, ht⟩ := hi i (by omega)
      rw [Tryd.cellsLab] at hc
      obtain ⟨y0, y1, k, _, hlen, g0, g1⟩ := trod_struct2 Tryd.underlying102 ht
      rw [Tryd.cellsLab] at hlen
      obtain ⟨_, _, hat⟩ := World.cells?_some hc
      match cs', hlen with
      | [c0, c1], _ =>
        obtain ⟨r0, e0, _, _⟩ := DataW.trod_int Tryd.underlying3 g0
        obtain ⟨r1, e1, _, _⟩ := DataW.trod_int Tryd.underlying3 g1
        have k3 : Tryd.prog.cellsOf 3 = 1 := by kernel_rfl
        simp [k3] at e0 e1
        subst e0 e1
        have a0 := hat 0 (by omega)
        have a1 := hat 1 (by omega)
        rw [Go.Deep.add_add] at a0 a1
        exact ⟨⟨r0, r1⟩, by simpa using a0, by simpa using a1⟩
    obtain ⟨f, hf⟩ : ∃ f : Nat → LV, ∀ i, i < n → W.cell? (a.add (i * 2)) = some (.int .i64 (f i).k) ∧ W.cell? (a.add (i * 2 + 1)) = some (.int .i64 (f i).v) := by
      classical
      refine ⟨fun i => if hi : i < n then Classical.choose (hel i hi) else ⟨0, 0⟩, fun i hi => ?_⟩
      simp only [dif_pos hi]
      exact Classical.choose_spec (hel i hi)
    refine ⟨_, n, _, rfl, by omega, (List.range n).map f, by simp, ?_⟩
    rcases Nat.eq_zero_or_pos n with rfl | hp
    · exact .inl ⟨rfl, _, _, rfl⟩
    · obtain ⟨b, off, spot⟩ := a
      have h0 := (hf 0 hp).1
      have hspot : spot = none := by simpa [Addr.add] using World.cell?_spot h0
      subst hspot
      have hlt := World.block_lt_of_cell? _ _ h0
      refine .inr ⟨b, off, m, by simp, by simpa [Addr.add] using hlt, fun i r hr => ?_⟩
      have hi : i < n := by
        have := (List.getElem?_eq_some_iff.1 hr).1
        simpa using this
      have hri : f i = r := by simpa [hi] using hr
      obtain ⟨h1, h2⟩ := hf i hi
      rw [hri] at h1 h2
      rw [add_plain] at h1 h2
      exact ⟨h1, h2⟩
end
end Go.Proofs.YtcngiinaneefjaaDoor

namespace Go.Proofs.YtcngiinaneefjaaDoor
open Go.ChangeShapes Go.WideShapes Go.ChangeAt Go.RowKit Go.Joins

section
variable {H : Type} {enc : TypeId × Value → H} {W : World}
set_option maxRecDepth 100000 in
theorem open_intC {fuel : Nat} {v : Value} {x : DataW H × List MemPlace} (hf : DataW.trod enc Tryd.prog W 0 (fun _ => true) true fuel 25 [v] = some x) :
    ∃ A n c, v = .slice A n c ∧ n ≤ maxLen ∧ ∃ l : List Int, l.length = n ∧ IntSl W v l := by
  have cb : Tryd.prog.cellsOf 3 = 1 := by kernel_rfl
  rcases open_ints Tryd.underlying25 Tryd.underlying3 cb hf with ⟨hcs, hx⟩ | ⟨a, n, c, zs, hcs, _, hl, hm, hz, hx, hcell, hwz⟩
  · simp at hcs
    subst hcs
    exact ⟨none, 0, 0, rfl, by unfold maxLen; omega, [], rfl, .inl ⟨rfl, _, _, rfl⟩⟩
  · simp at hcs
    subst hcs
    rw [if_pos rfl] at hz
    refine ⟨_, n, c, rfl, by omega, zs.take n, by rw [List.length_take]; omega, ?_⟩
    rcases Nat.eq_zero_or_pos n with rfl | hp
    · exact .inl ⟨by simp, _, _, rfl⟩
    · obtain ⟨b, off, rfl, hc⟩ := ints_at hcell (by omega)
      refine .inr ⟨b, off, c, by rw [List.length_take, Nat.min_eq_left (by omega)], by simpa using World.block_lt_of_cell? _ _ (hc 0 (by omega)), fun i r hr => ?_⟩
      have hi : i < n := by
        have := (List.getElem?_eq_some_iff.1 hr).1
        rw [List.length_take] at this; omega
      rw [List.getElem?_take_of_lt hi] at hr
      have := hc i (by omega)
      rw [List.getD, hr] at this
      simpa using this
end
end Go.Proofs.YtcngiinaneefjaaDoor

namespace Go.Proofs.YtcngiinaneefjaaDoor
open Go.ChangeShapes Go.WideShapes Go.ChangeAt Go.RowKit Go.Joins

section
variable {H : Type} {enc : TypeId × Value → H} {W : World} {P : Program} {base : Nat} {spare : Nat → Bool} {held : Bool}
theorem trod_struct5 {t : TypeId} {f0 f1 f2 f3 f4 : Field} {fuel : Nat} {cs : List Value} {x : DataW H × List MemPlace} (ht : P.underlying t = some (.struct #[f0, f1, f2, f3, f4])) (h : DataW.trod enc P W base spare held fuel t cs = some x) :
    ∃ y0 y1 y2 y3 y4 n, cs.length = P.cellsOf t ∧ DataW.trod enc P W base spare held n f0.type ((cs.drop f0.offset).take (P.cellsOf f0.type)) = some y0 ∧
      DataW.trod enc P W base spare held n f1.type ((cs.drop f1.offset).take (P.cellsOf f1.type)) = some y1 ∧ DataW.trod enc P W base spare held n f2.type ((cs.drop f2.offset).take (P.cellsOf f2.type)) = some y2 ∧
      DataW.trod enc P W base spare held n f3.type ((cs.drop f3.offset).take (P.cellsOf f3.type)) = some y3 ∧ DataW.trod enc P W base spare held n f4.type ((cs.drop f4.offset).take (P.cellsOf f4.type)) = some y4 := by
  obtain ⟨xs, n, _, rfl, hl, hlen, hf⟩ := DataW.trod_struct ht h
  match xs, hlen with
  | [y0, y1, y2, y3, y4], _ => exact ⟨y0, y1, y2, y3, y4, n, hl, by simpa using hf 0 f0 rfl, by simpa using hf 1 f1 rfl, by simpa using hf 2 f2 rfl, by simpa using hf 3 f3 rfl, by simpa using hf 4 f4 rfl⟩
theorem trod_struct6 {t : TypeId} {f0 f1 f2 f3 f4 f5 : Field} {fuel : Nat} {cs : List Value} {x : DataW H × List MemPlace} (ht : P.underlying t = some (.struct #[f0, f1, f2, f3, f4, f5])) (h : DataW.trod enc P W base spare held fuel t cs = some x) :
    ∃ y0 y1 y2 y3 y4 y5 n, cs.length = P.cellsOf t ∧ DataW.trod enc P W base spare held n f0.type ((cs.drop f0.offset).take (P.cellsOf f0.type)) = some y0 ∧
      DataW.trod enc P W base spare held n f1.type ((cs.drop f1.offset).take (P.cellsOf f1.type)) = some y1 ∧ DataW.trod enc P W base spare held n f2.type ((cs.drop f2.offset).take (P.cellsOf f2.type)) = some y2 ∧
      DataW.trod enc P W base spare held n f3.type ((cs.drop f3.offset).take (P.cellsOf f3.type)) = some y3 ∧ DataW.trod enc P W base spare held n f4.type ((cs.drop f4.offset).take (P.cellsOf f4.type)) = some y4 ∧
      DataW.trod enc P W base spare held n f5.type ((cs.drop f5.offset).take (P.cellsOf f5.type)) = some y5 := by
  obtain ⟨xs, n, _, rfl, hl, hlen, hf⟩ := DataW.trod_struct ht h
  match xs, hlen with
  | [y0, y1, y2, y3, y4, y5], _ => exact ⟨y0, y1, y2, y3, y4, y5, n, hl, by simpa using hf 0 f0 rfl, by simpa using hf 1 f1 rfl, by simpa using hf 2 f2 rfl, by simpa using hf 3 f3 rfl, by simpa using hf 4 f4 rfl, by simpa using hf 5 f5 rfl⟩
theorem list7 {α : Type} {l : List α} (h : l.length = 7) : ∃ a b c d e f g, l = [a, b, c, d, e, f, g] := by
  match l, h with
  | [a, b, c, d, e, f, g], _ => exact ⟨a, b, c, d, e, f, g, rfl⟩
end

section
variable {H : Type} {enc : TypeId × Value → H} {W : World}
theorem Tryd.c_int : Tryd.prog.cellsOf 3 = 1 := by kernel_rfl
theorem Tryd.c_res : Tryd.prog.cellsOf 23 = 3 := by kernel_rfl
theorem Tryd.c_labs : Tryd.prog.cellsOf 24 = 1 := by kernel_rfl
theorem Tryd.c_ints : Tryd.prog.cellsOf 25 = 1 := by kernel_rfl
theorem Tryd.c_bool : Tryd.prog.cellsOf 4 = 1 := by kernel_rfl
theorem Tryd.c_task : Tryd.prog.cellsOf 27 = 7 := by kernel_rfl
set_option maxRecDepth 100000 in
theorem open_taskC {fuel : Nat} {cs : List Value} {x : DataW H × List MemPlace} (h : DataW.trod enc Tryd.prog W 0 (fun _ => true) true fuel 27 cs = some x) :
    ∃ (t : TV) (v1 v2 : Value), cs = [.int .i64 t.id, .int .i64 t.prio, .int .i64 t.need.c, .int .i64 t.need.m, .int .i64 t.need.p, v1, v2] ∧ LabSl W v1 t.want ∧ IntSl W v2 t.tols ∧ t.want.length ≤ maxLen ∧ t.tols.length ≤ maxLen := by
  obtain ⟨y0, y1, y2, y3, y4, n, hl, h0, h1, h2, h3, h4⟩ := trod_struct5 Tryd.underlying27 h
  rw [Tryd.c_task] at hl
  obtain ⟨a, b, c, d, e, f, g, rfl⟩ := list7 hl
  simp only [Tryd.c_int, Tryd.c_res, Tryd.c_labs, Tryd.c_ints] at h0 h1 h2 h3 h4
  simp at h0 h1 h2 h3 h4
  obtain ⟨z0, e0, _, _⟩ := DataW.trod_int Tryd.underlying3 h0
  obtain ⟨z1, e1, _, _⟩ := DataW.trod_int Tryd.underlying3 h1
  obtain ⟨r0, r1, r2, m, _, _, g0, g1, g2⟩ := Go.Deep.trod_struct3 Tryd.underlying23 h2
  simp only [Tryd.c_int] at g0 g1 g2
  simp at g0 g1 g2
  obtain ⟨z2, e2, _, _⟩ := DataW.trod_int Tryd.underlying3 g0
  obtain ⟨z3, e3, _, _⟩ := DataW.trod_int Tryd.underlying3 g1
  obtain ⟨z4, e4, _, _⟩ := DataW.trod_int Tryd.underlying3 g2
  simp at e0 e1 e2 e3 e4
  subst e0 e1 e2 e3 e4
  obtain ⟨A1, n1, c1, _, hn1, l1, hl1, hs1⟩ := open_labC h3
  obtain ⟨A2, n2, c2, _, hn2, l2, hl2, hs2⟩ := open_intC h4
  exact ⟨⟨z0, z1, ⟨z2, z3, z4⟩, l1, l2⟩, f, g, rfl, hs1, hs2, by simp only []; omega, by simp only []; omega⟩
end
end Go.Proofs.YtcngiinaneefjaaDoor

namespace Go.Proofs.YtcngiinaneefjaaDoor
open Go.RowKit

set_option maxHeartbeats 800000 in
theorem szEvent_any (c0 c1 c2 c3 c4 c5 c6 c7 c8 c9 : Value) (A1 A2 : Option Addr) (n1 k1 n2 k2 : Nat) (z : Int) (w : World) (h0 : 0 ≤ z) (hz : z ≤ 1048576) (hm1 : n1 ≤ maxLen) (hm2 : n2 ≤ maxLen) :
    Calls Tryd.prog 22 #[.agg #[c0, c1, c2, c3, c4, c5, c6, c7, c8, c9, .slice A1 n1 k1, .slice A2 n2 k2], .int .i64 z] w fun e w' => e = .returned (.int .i64 (szTV z n1 n2)) ∧ Below w.heap.size w w' := by
  have hs := fun w => szTask_any c5 c6 c7 c8 c9 A1 A2 n1 k1 n2 k2 z w h0 hz hm1 hm2
  generalize hy : szTV z n1 n2 = y at hs
  have HY := Lib.hid (szTV_ok hy)
  have HS := Lib.hid hs
  clear hs hy hm1 hm2
  go_enter Tryd.func22, Tryd.ntmps22
  go_wp2_with fail
  refine (HS.out _).mono ?_
  rintro e w1 ⟨rfl, hb1⟩
  have hz1 := hb1.size
  simp at hz1
  rcases HY.out with rfl | hy
  · go_wp2_with fail
    go_ret
    exact ⟨rfl, (by repeat' (first | exact Below.refl _ _ | refine Below.alloc ?_ ?_ _ | refine Below.setCell ?_ ?_ _ | refine Below.drew ?_ | (apply below_step; assumption) | (simp; done) | (simp; omega) | omega))⟩
  · obtain ⟨a1, -, -, -⟩ := hy h0
    have a1' : decide (y < 0) = false := by simp; omega
    go_wp2_with fail
    go_ret
    exact ⟨rfl, (by repeat' (first | exact Below.refl _ _ | refine Below.alloc ?_ ?_ _ | refine Below.setCell ?_ ?_ _ | refine Below.drew ?_ | (apply below_step; assumption) | (simp; done) | (simp; omega) | omega))⟩
set_option maxHeartbeats 1600000 in
theorem eqEvent_same (e : EV) (v1 v2 u1 u2 : Value) (w : World) (h1 : LabSl w v1 e.task.want) (h2 : IntSl w v2 e.task.tols) (k1 : LabSl w u1 e.task.want) (k2 : IntSl w u2 e.task.tols) (l1 : e.task.want.length ≤ 1048576) (l2 : e.task.tols.length ≤ 1048576) :
    Calls Tryd.prog 26 #[.agg #[.int .i64 e.kind, .int .i64 e.who, .int .i64 e.n, .bool e.works, .bool e.keep, .int .i64 e.task.id, .int .i64 e.task.prio, .int .i64 e.task.need.c, .int .i64 e.task.need.m, .int .i64 e.task.need.p, v1, v2], .agg #[.int .i64 e.kind, .int .i64 e.who, .int .i64 e.n, .bool e.works, .bool e.keep, .int .i64 e.task.id, .int .i64 e.task.prio, .int .i64 e.task.need.c, .int .i64 e.task.need.m, .int .i64 e.task.need.p, u1, u2]] w fun r w' => r = .returned (.bool true) ∧ Below w.heap.size w w' := by
  have HE := Lib.hid (fun w a b c d => eqTask_same e.task v1 v2 u1 u2 w a b c d l1 l2)
  have H1 := Lib.hid h1
  have H2 := Lib.hid h2
  have K1 := Lib.hid k1
  have K2 := Lib.hid k2
  have n1 : (e.kind != e.kind) = false := by simp
  have n2 : (e.who != e.who) = false := by simp
  have n3 : (e.n != e.n) = false := by simp
  have n4 : (e.works != e.works) = false := by simp
  have n5 : (e.keep != e.keep) = false := by simp
  clear h1 h2 k1 k2 l1 l2
  go_enter Tryd.func26, Tryd.ntmps26
  go_wp2_with fail
  have hX : Below w.heap.size w ((w.alloc (.cells #[.int .i64 e.kind, .int .i64 e.who, .int .i64 e.n, .bool e.works, .bool e.keep, .int .i64 e.task.id, .int .i64 e.task.prio, .int .i64 e.task.need.c, .int .i64 e.task.need.m, .int .i64 e.task.need.p, v1, v2] 50)).alloc (.cells #[.int .i64 e.kind, .int .i64 e.who, .int .i64 e.n, .bool e.works, .bool e.keep, .int .i64 e.task.id, .int .i64 e.task.prio, .int .i64 e.task.need.c, .int .i64 e.task.need.m, .int .i64 e.task.need.p, u1, u2] 50)) := (by repeat' (first | exact Below.refl _ _ | refine Below.alloc ?_ ?_ _ | refine Below.setCell ?_ ?_ _ | refine Below.drew ?_ | (apply below_step; assumption) | (simp; done) | (simp; omega) | omega))
  refine (HE.out _ (H1.out.below hX) (H2.out.below hX) (K1.out.below hX) (K2.out.below hX)).mono ?_
  rintro r w1 ⟨rfl, hb1⟩
  have hC1 := below_of hX hb1
  go_wp2_with fail
  go_ret
  exact ⟨rfl, hC1⟩
end Go.Proofs.YtcngiinaneefjaaDoor
namespace Go.Proofs.YtcngiinaneefjaaDoor
open Go.ChangeShapes Go.WideShapes Go.ChangeAt Go.RowKit Go.Joins
section
variable {H : Type} {enc : TypeId × Value → H} {W : World}
theorem list12e {α : Type} {l : List α} (h : l.length = 12) : ∃ a b c d e f g i j k m n, l = [a, b, c, d, e, f, g, i, j, k, m, n] := by
  match l, h with
  | [a, b, c, d, e, f, g, i, j, k, m, n], _ => exact ⟨a, b, c, d, e, f, g, i, j, k, m, n, rfl⟩
theorem Tryd.c_event : Tryd.prog.cellsOf 46 = 12 := by kernel_rfl
set_option maxRecDepth 100000 in
theorem open_eventC {fuel : Nat} {cs : List Value} {x : DataW H × List MemPlace} (h : DataW.trod enc Tryd.prog W 0 (fun _ => true) true fuel 46 cs = some x) :
    ∃ (t : EV) (v1 v2 : Value), cs = [.int .i64 t.kind, .int .i64 t.who, .int .i64 t.n, .bool t.works, .bool t.keep, .int .i64 t.task.id, .int .i64 t.task.prio, .int .i64 t.task.need.c, .int .i64 t.task.need.m, .int .i64 t.task.need.p, v1, v2] ∧ LabSl W v1 t.task.want ∧ IntSl W v2 t.task.tols ∧ t.task.want.length ≤ maxLen ∧ t.task.tols.length ≤ maxLen := by
  obtain ⟨y0, y1, y2, y3, y4, y5, n, hl, h0, h1, h2, h3, h4, h5⟩ := trod_struct6 Tryd.underlying46 h
  rw [Tryd.c_event] at hl
  obtain ⟨a, b, c, d, e, f, g, i, j, k, m, o, rfl⟩ := list12e hl
  simp only [Tryd.c_int, Tryd.c_task, Tryd.c_bool] at h0 h1 h2 h3 h4 h5
  simp at h0 h1 h2 h3 h4 h5
  obtain ⟨z0, e0, _, _⟩ := DataW.trod_int Tryd.underlying3 h0
  obtain ⟨z1, e1, _, _⟩ := DataW.trod_int Tryd.underlying3 h1
  obtain ⟨z2, e2, _, _⟩ := DataW.trod_int Tryd.underlying3 h2
  obtain ⟨z3, e3, _⟩ := DataW.trod_bool Tryd.underlying4 h3
  obtain ⟨z4, e4, _⟩ := DataW.trod_bool Tryd.underlying4 h4
  obtain ⟨t, v1, v2, e5, s1, s2, s3, s4⟩ := open_taskC h5
  simp at e0 e1 e2 e3 e4 e5
  obtain ⟨rfl, rfl, rfl, rfl, rfl, rfl, rfl⟩ := e5
  subst e0 e1 e2 e3 e4
  exact ⟨⟨z0, z1, z2, z3, z4, t⟩, _, _, rfl, s1, s2, s3, s4⟩
end
end Go.Proofs.YtcngiinaneefjaaDoor

namespace Go.Proofs.YtcngiinaneefjaaDoor
open Go.RowKit

theorem own_cell {w : World} {e : TypeId} {size n g c : Nat} {xs : List Value} (h : w.ownsRow 0 e size (.slice (some ⟨g, 0, none⟩) n c) n xs) {j : Nat} {u : Value} (hu : xs[j]? = some u) : w.cell? ⟨g, j, none⟩ = some u := by
  rcases Nat.eq_zero_or_pos n with h0 | hp
  · have := h.1
    rw [h0, Nat.zero_mul] at this
    rw [List.eq_nil_of_length_eq_zero this] at hu; simp at hu
  · obtain ⟨g', cap, e, _, hc, _⟩ := own_cells h hp
    simp only [Value.slice.injEq, Option.some.injEq, Addr.mk.injEq] at e
    obtain ⟨⟨rfl, -, -⟩, -, -⟩ := e
    exact hc j u hu
theorem own_frozen {w : World} {e : TypeId} {size n g c : Nat} {xs : List Value} (h : w.ownsRow 0 e size (.slice (some ⟨g, 0, none⟩) n c) n xs) (hp : 0 < n) (o : Nat) : w.frozen? ⟨g, o, none⟩ = false := by
  obtain ⟨g', cap, e, _, _, hf⟩ := own_cells h hp
  simp only [Value.slice.injEq, Option.some.injEq, Addr.mk.injEq] at e
  obtain ⟨⟨rfl, -, -⟩, -, -⟩ := e
  exact hf o
theorem nd5 {g : Nat} {a x y c : List Nat} (h : (g :: (a ++ ((x ++ y) ++ c))).Nodup) : (∀ b ∈ a, b ≠ g ∧ b ∉ x ∧ b ∉ y) ∧ (∀ b ∈ x, b ≠ g ∧ b ∉ y) ∧ (∀ b ∈ y, b ≠ g ∧ b ∉ x) ∧ (∀ b ∈ c, b ≠ g ∧ b ∉ x ∧ b ∉ y) := by
  rw [List.nodup_cons] at h
  obtain ⟨hg, h⟩ := h
  simp only [List.mem_append, not_or] at hg
  obtain ⟨ga, ⟨gx, gy⟩, gc⟩ := hg
  simp only [List.nodup_append, List.mem_append] at h
  obtain ⟨-, ⟨⟨-, -, hxy⟩, -, hxc⟩, ha⟩ := h
  refine ⟨fun b hb => ⟨fun e => ga (e ▸ hb), fun hx => ha b hb b (.inl (.inl hx)) rfl, fun hy => ha b hb b (.inl (.inr hy)) rfl⟩, fun b hb => ⟨fun e => gx (e ▸ hb), fun hy => hxy b hb b hy rfl⟩,
    fun b hb => ⟨fun e => gy (e ▸ hb), fun hx => hxy b hx b hb rfl⟩, fun b hb => ⟨fun e => gc (e ▸ hb), fun hx => hxc b (.inl hx) b hb rfl, fun hy => hxc b (.inr hy) b hb rfl⟩⟩
theorem blk_mem {v : Value} {k : Nat} (h : v.ownBlock = some k) : k ∈ blk v := by simp [blk, h]

end Go.Proofs.YtcngiinaneefjaaDoor

namespace Go.Proofs.YtcngiinaneefjaaDoor
open Go.RowKit

theorem labO_of {w : World} {g : Nat} {l : List LV} (h : BlockIs w g 78 (labL l).toArray) (hl : l.length ≤ 1048576) : LabO w (.slice (some ⟨g, 0, none⟩) l.length l.length) l :=
  ⟨labL_len l, .inr ⟨g, l.length, _, rfl, Nat.zero_le _, h, Nat.le_refl _, by simp only [maxLen]; omega, by simp [labL_len], by rw [← labL_len]; simp⟩⟩
theorem intO_of {w : World} {g : Nat} {l : List Int} (h : BlockIs w g 3 (intL l).toArray) (hl : l.length ≤ 1048576) : IntO w (.slice (some ⟨g, 0, none⟩) l.length l.length) l :=
  ⟨by simp [intL], .inr ⟨g, l.length, _, rfl, Nat.zero_le _, h, Nat.le_refl _, by simp only [maxLen]; omega, by simp [intL], by rw [show l.length * 1 = (intL l).length by simp [intL]]; simp⟩⟩
def NewIntO (w : World) (l : List Int) (e : Ending) (w' : World) : Prop := ∃ g, e = .returned (.slice (some ⟨g, 0, none⟩) l.length l.length) ∧ w.heap.size ≤ g ∧ g < w'.heap.size ∧ BlockIs w' g 3 (intL l).toArray ∧ Below w.heap.size w w'
theorem CopyInt.doneO {w wr : World} {g : Nat} {l : List Int} (h : CopyInt w g l l.length wr) : BlockIs wr g 3 (intL l).toArray := by
  obtain ⟨cs, hb, hs, hc, _⟩ := h
  have : cs = (intL l).toArray := by
    apply Array.ext_getElem?
    intro i
    rcases Nat.lt_or_ge i l.length with hi | hi
    · rw [hc i _ hi (List.getElem?_eq_getElem hi)]; simp [intL, hi]
    · rw [Array.getElem?_eq_none (by omega)]; simp [intL, hi]
  rw [← this]; exact hb
set_option maxHeartbeats 1600000 in
theorem toIntS_o (v : Value) (l : List Int) (w : World) (hv : IntSl w v l) (hlen : l.length ≤ 1048576) :
    Calls Tryd.prog 47 #[v] w (NewIntO w l) := by
  obtain ⟨A, c, rfl, hA⟩ := hv.form
  have HA := Lib.hid hA
  clear hA hv
  have hmk := make_int l.length hlen
  go_enter Tryd.func47, Tryd.ntmps47
  go_wp2_with fail
  go_loopw [4] (fun s4 wr => ∃ k : Nat, k ≤ l.length ∧ s4 = .int .i64 k ∧ CopyInt w w.heap.size l k wr) (fun s4 _ => (l.length - intOf s4).toNat)
  case atStart =>
    exact ⟨0, by omega, rfl, _, BlockIs.new _ _ _, by simpa using size_madeCells _ _, fun i r hi => absurd hi (by omega), (by repeat' (first | exact Below.refl _ _ | refine Below.alloc ?_ ?_ _ | refine Below.setCell ?_ ?_ _ | refine Below.drew ?_ | (apply below_step; assumption) | (simp; done) | (simp; omega) | omega))⟩
  case round =>
    obtain ⟨k, hk, rfl, HC⟩ := hrel
    by_cases hlt : k < l.length
    · obtain ⟨b, off, rfl, hbw, hat⟩ := HA.out (by omega)
      obtain ⟨r, hr⟩ : ∃ r, l[k]? = some r := ⟨_, List.getElem?_eq_getElem hlt⟩
      obtain ⟨cs, hblk, hs, hc, hB⟩ := HC
      have q0 := (hat.below hB hbw) k r hr
      have hzr := hB.size
      have hgl := hblk.lt
      have HR := Lib.hid hr
      have HCC := Lib.hid hc
      have HBL := Lib.hid hblk
      have HSZ := Lib.hid hs
      have u0 : wr.cell? ⟨w.heap.size, k, none⟩ = some (cs[k]'(by omega)) := by rw [hblk.cell]; exact Array.getElem?_eq_getElem (by omega)
      generalize cs[k]'(by omega) = x0 at u0
      have uf := hblk.frozen
      clear hat hr hc hblk hs
      go_wp2_with fail
      go_roundw
      case rel =>
        refine ⟨k + 1, by omega, by go_num, CopyInt.put HSZ.out HR.out HCC.out ?_ (by repeat' (first | exact Below.refl _ _ | refine Below.alloc ?_ ?_ _ | refine Below.setCell ?_ ?_ _ | refine Below.drew ?_ | (apply below_step; assumption) | (simp; done) | (simp; omega) | omega))⟩
        exact HBL.out.put _ _
      case measure => simp [intOf]; omega
    · have hkl : k = l.length := by omega
      subst hkl
      have HD := Lib.hid HC.doneO
      obtain ⟨cs, hblk, hs, hc, hB⟩ := HC
      have hgl := hblk.lt
      clear hblk hs hc
      go_wp2_with fail
      go_ret
      exact ⟨w.heap.size, rfl, Nat.le_refl _, hgl, HD.out, hB⟩

def NewTaskO (w : World) (t : TV) (e : Ending) (w' : World) : Prop := ∃ g1 g2, e = .returned (.agg #[.int .i64 t.id, .int .i64 t.prio, .int .i64 t.need.c, .int .i64 t.need.m, .int .i64 t.need.p, .slice (some ⟨g1, 0, none⟩) t.want.length t.want.length, .slice (some ⟨g2, 0, none⟩) t.tols.length t.tols.length]) ∧
  w.heap.size ≤ g1 ∧ w.heap.size ≤ g2 ∧ g2 < w'.heap.size ∧ BlockIs w' g1 78 (labL t.want).toArray ∧ BlockIs w' g2 3 (intL t.tols).toArray ∧ Below w.heap.size w w'
set_option maxHeartbeats 1600000 in
theorem toTask_o (t : TV) (v1 v2 : Value) (w : World) (h1 : LabSl w v1 t.want) (h2 : IntSl w v2 t.tols) (l1 : t.want.length ≤ 1048576) (l2 : t.tols.length ≤ 1048576) :
    Calls Tryd.prog 11 #[.agg #[.int .i64 t.id, .int .i64 t.prio, .int .i64 t.need.c, .int .i64 t.need.m, .int .i64 t.need.p, v1, v2]] w (NewTaskO w t) := by
  have H1 := Lib.hid h1
  have H2 := Lib.hid h2
  have L1 := Lib.hid l1
  have L2 := Lib.hid l2
  clear h1 h2 l1 l2
  go_enter Tryd.func11, Tryd.ntmps11
  go_wp2_with fail
  refine (toRes_any t.need _).mono ?_
  rintro e w1 ⟨rfl, hb1⟩
  have hz1 := hb1.size
  simp at hz1
  have B0 : BlockIs w1 w.heap.size 27 #[.int .i64 t.id, .int .i64 t.prio, .int .i64 t.need.c, .int .i64 t.need.m, .int .i64 t.need.p, v1, v2] := (((BlockIs.new w _ _).alloc _).alloc _).below hb1 (by simp; omega)
  have B1 : BlockIs w1 (w.heap.size + 1) 34 #[.int .i64 0, .int .i64 0, .int .i64 0, .int .i64 0, .int .i64 0, .slice none 0 0, .slice none 0 0] := (BlockIs.alloc (BlockIs.new' (by simp)) _).below hb1 (by simp)
  have B2 : BlockIs w1 (w.heap.size + 1 + 1) 34 #[.int .i64 t.id, .int .i64 t.prio, .int .i64 0, .int .i64 0, .int .i64 0, .slice none 0 0, .slice none 0 0] := (BlockIs.new' (by simp)).below hb1 (by simp)
  have hC1 : Below w.heap.size w w1 := (by repeat' (first | exact Below.refl _ _ | refine Below.alloc ?_ ?_ _ | refine Below.setCell ?_ ?_ _ | refine Below.drew ?_ | (apply below_step; assumption) | (simp; done) | (simp; omega) | omega))
  have c5 := B0.cell 5
  have c2 := B2.cell 2
  have c3 := B2.cell 3
  have c4 := B2.cell 4
  have f2 := B2.frozen
  simp at c5 c2 c3 c4
  have HB0 := Lib.hid B0
  have HB1 := Lib.hid B1
  have HB2 := Lib.hid B2
  clear B0 B1 B2 hb1
  go_wp2_with fail
  have hC2 : Below w.heap.size w (((w1.setCell ⟨w.heap.size + 1 + 1, 2, none⟩ (.int .i64 t.need.c)).setCell ⟨w.heap.size + 1 + 1, 2 + 1, none⟩ (.int .i64 t.need.m)).setCell ⟨w.heap.size + 1 + 1, 2 + 2, none⟩ (.int .i64 t.need.p)) := (by repeat' (first | exact Below.refl _ _ | refine Below.alloc ?_ ?_ _ | refine Below.setCell ?_ ?_ _ | refine Below.drew ?_ | (apply below_step; assumption) | (simp; done) | (simp; omega) | omega))
  have A0 : BlockIs (((w1.setCell ⟨w.heap.size + 1 + 1, 2, none⟩ (.int .i64 t.need.c)).setCell ⟨w.heap.size + 1 + 1, 2 + 1, none⟩ (.int .i64 t.need.m)).setCell ⟨w.heap.size + 1 + 1, 2 + 2, none⟩ (.int .i64 t.need.p)) w.heap.size 27 #[.int .i64 t.id, .int .i64 t.prio, .int .i64 t.need.c, .int .i64 t.need.m, .int .i64 t.need.p, v1, v2] := ((HB0.out.far (by dsimp only; omega) _).far (by dsimp only; omega) _).far (by dsimp only; omega) _
  have A1 : BlockIs (((w1.setCell ⟨w.heap.size + 1 + 1, 2, none⟩ (.int .i64 t.need.c)).setCell ⟨w.heap.size + 1 + 1, 2 + 1, none⟩ (.int .i64 t.need.m)).setCell ⟨w.heap.size + 1 + 1, 2 + 2, none⟩ (.int .i64 t.need.p)) (w.heap.size + 1) 34 #[.int .i64 0, .int .i64 0, .int .i64 0, .int .i64 0, .int .i64 0, .slice none 0 0, .slice none 0 0] := ((HB1.out.far (by dsimp only; omega) _).far (by dsimp only; omega) _).far (by dsimp only; omega) _
  have A2 : BlockIs (((w1.setCell ⟨w.heap.size + 1 + 1, 2, none⟩ (.int .i64 t.need.c)).setCell ⟨w.heap.size + 1 + 1, 2 + 1, none⟩ (.int .i64 t.need.m)).setCell ⟨w.heap.size + 1 + 1, 2 + 2, none⟩ (.int .i64 t.need.p)) (w.heap.size + 1 + 1) 34 #[.int .i64 t.id, .int .i64 t.prio, .int .i64 t.need.c, .int .i64 t.need.m, .int .i64 t.need.p, .slice none 0 0, .slice none 0 0] := by simpa using ((HB2.out.put 2 _).put 3 _).put 4 _
  generalize (((w1.setCell ⟨w.heap.size + 1 + 1, 2, none⟩ (.int .i64 t.need.c)).setCell ⟨w.heap.size + 1 + 1, 2 + 1, none⟩ (.int .i64 t.need.m)).setCell ⟨w.heap.size + 1 + 1, 2 + 2, none⟩ (.int .i64 t.need.p)) = X2 at hC2 A0 A1 A2 ⊢
  clear HB0 HB1 HB2 hC1 hz1 c5 c2 c3 c4 f2
  refine (toLabS_any v1 t.want _ (H1.out.below hC2) L1.out).mono ?_
  rintro e w3 ⟨g1, rfl, hg1, hblk1, hb3⟩
  have l2 := A2.lt
  have hz3 := hb3.size
  have hC3 : Below w.heap.size w w3 := hC2.trans (hb3.mono hC2.size)
  have B0 := A0.below hb3 A0.lt
  have B1 := A1.below hb3 A1.lt
  have B2 := A2.below hb3 A2.lt
  have c6 := B0.cell 6
  have c5 := B2.cell 5
  have f2 := B2.frozen
  simp at c6 c5
  have HB1 := Lib.hid B1
  have HB2 := Lib.hid B2
  have HG1 := Lib.hid hblk1
  clear A0 A1 A2 B0 B1 B2 hblk1
  go_wp2_with fail
  have hC4 : Below w.heap.size w (w3.setCell ⟨w.heap.size + 1 + 1, 5, none⟩ (.slice (some ⟨g1, 0, none⟩) t.want.length t.want.length)) := (by repeat' (first | exact Below.refl _ _ | refine Below.alloc ?_ ?_ _ | refine Below.setCell ?_ ?_ _ | refine Below.drew ?_ | (apply below_step; assumption) | (simp; done) | (simp; omega) | omega))
  have A1 : BlockIs (w3.setCell ⟨w.heap.size + 1 + 1, 5, none⟩ (.slice (some ⟨g1, 0, none⟩) t.want.length t.want.length)) (w.heap.size + 1) 34 #[.int .i64 0, .int .i64 0, .int .i64 0, .int .i64 0, .int .i64 0, .slice none 0 0, .slice none 0 0] := HB1.out.far (by dsimp only; omega) _
  have A2 : BlockIs (w3.setCell ⟨w.heap.size + 1 + 1, 5, none⟩ (.slice (some ⟨g1, 0, none⟩) t.want.length t.want.length)) (w.heap.size + 1 + 1) 34 #[.int .i64 t.id, .int .i64 t.prio, .int .i64 t.need.c, .int .i64 t.need.m, .int .i64 t.need.p, .slice (some ⟨g1, 0, none⟩) t.want.length t.want.length, .slice none 0 0] := by simpa using HB2.out.put 5 _
  have AG : BlockIs (w3.setCell ⟨w.heap.size + 1 + 1, 5, none⟩ (.slice (some ⟨g1, 0, none⟩) t.want.length t.want.length)) g1 78 (labL t.want).toArray := HG1.out.far (by dsimp only; omega) _
  generalize (w3.setCell ⟨w.heap.size + 1 + 1, 5, none⟩ (.slice (some ⟨g1, 0, none⟩) t.want.length t.want.length)) = X4 at hC4 A1 A2 AG ⊢
  clear HB1 HB2 HG1 hC3 hz3 c5 c6 f2 hb3
  refine (toIntS_o v2 t.tols _ (H2.out.below hC4) L2.out).mono ?_
  rintro e w5 ⟨g2, rfl, hg2, hlt2, hat2, hb5⟩
  have l4 := A2.lt
  have hz5 := hb5.size
  have hC5 : Below w.heap.size w w5 := hC4.trans (hb5.mono hC4.size)
  have B1 := A1.below hb5 A1.lt
  have B2 := A2.below hb5 A2.lt
  have BG := AG.below hb5 AG.lt
  have c0 := B2.cell 0
  have c1 := B2.cell 1
  have c2 := B2.cell 2
  have c3 := B2.cell 3
  have c4 := B2.cell 4
  have c5 := B2.cell 5
  have c6 := B2.cell 6
  have f2 := B2.frozen
  have d0 := B1.cell 0
  have d1 := B1.cell 1
  have d2 := B1.cell 2
  have d3 := B1.cell 3
  have d4 := B1.cell 4
  have d5 := B1.cell 5
  have d6 := B1.cell 6
  have f1 := B1.frozen
  simp at c0 c1 c2 c3 c4 c5 c6 d0 d1 d2 d3 d4 d5 d6
  have HB1 := Lib.hid B1
  have HB2 := Lib.hid B2
  have HG1 := Lib.hid BG
  have HG2 := Lib.hid hat2
  clear A1 A2 AG B1 B2 BG hat2
  go_wp2_with fail
  have hZ : BlockIs ((((((((w5.setCell ⟨w.heap.size + 1 + 1, 6, none⟩ (.slice (some ⟨g2, 0, none⟩) t.tols.length t.tols.length)).setCell ⟨w.heap.size + 1, 0, none⟩ (.int .i64 t.id)).setCell ⟨w.heap.size + 1, 1, none⟩ (.int .i64 t.prio)).setCell ⟨w.heap.size + 1, 2, none⟩ (.int .i64 t.need.c)).setCell ⟨w.heap.size + 1, 3, none⟩ (.int .i64 t.need.m)).setCell ⟨w.heap.size + 1, 4, none⟩ (.int .i64 t.need.p)).setCell ⟨w.heap.size + 1, 5, none⟩ (.slice (some ⟨g1, 0, none⟩) t.want.length t.want.length)).setCell ⟨w.heap.size + 1, 6, none⟩ (.slice (some ⟨g2, 0, none⟩) t.tols.length t.tols.length)) (w.heap.size + 1) 34 #[.int .i64 t.id, .int .i64 t.prio, .int .i64 t.need.c, .int .i64 t.need.m, .int .i64 t.need.p, .slice (some ⟨g1, 0, none⟩) t.want.length t.want.length, .slice (some ⟨g2, 0, none⟩) t.tols.length t.tols.length] := put7 _ _ _ _ _ _ _ (HB1.out.far (by dsimp only; omega) _) rfl
  have hG : BlockIs ((((((((w5.setCell ⟨w.heap.size + 1 + 1, 6, none⟩ (.slice (some ⟨g2, 0, none⟩) t.tols.length t.tols.length)).setCell ⟨w.heap.size + 1, 0, none⟩ (.int .i64 t.id)).setCell ⟨w.heap.size + 1, 1, none⟩ (.int .i64 t.prio)).setCell ⟨w.heap.size + 1, 2, none⟩ (.int .i64 t.need.c)).setCell ⟨w.heap.size + 1, 3, none⟩ (.int .i64 t.need.m)).setCell ⟨w.heap.size + 1, 4, none⟩ (.int .i64 t.need.p)).setCell ⟨w.heap.size + 1, 5, none⟩ (.slice (some ⟨g1, 0, none⟩) t.want.length t.want.length)).setCell ⟨w.heap.size + 1, 6, none⟩ (.slice (some ⟨g2, 0, none⟩) t.tols.length t.tols.length)) g1 78 (labL t.want).toArray := far7 (HG1.out.far (by dsimp only; omega) _) (by omega)
  have hI : BlockIs ((((((((w5.setCell ⟨w.heap.size + 1 + 1, 6, none⟩ (.slice (some ⟨g2, 0, none⟩) t.tols.length t.tols.length)).setCell ⟨w.heap.size + 1, 0, none⟩ (.int .i64 t.id)).setCell ⟨w.heap.size + 1, 1, none⟩ (.int .i64 t.prio)).setCell ⟨w.heap.size + 1, 2, none⟩ (.int .i64 t.need.c)).setCell ⟨w.heap.size + 1, 3, none⟩ (.int .i64 t.need.m)).setCell ⟨w.heap.size + 1, 4, none⟩ (.int .i64 t.need.p)).setCell ⟨w.heap.size + 1, 5, none⟩ (.slice (some ⟨g1, 0, none⟩) t.want.length t.want.length)).setCell ⟨w.heap.size + 1, 6, none⟩ (.slice (some ⟨g2, 0, none⟩) t.tols.length t.tols.length)) g2 3 (intL t.tols).toArray := far7 (HG2.out.far (by dsimp only; omega) _) (by omega)
  have hB : Below w.heap.size w ((((((((w5.setCell ⟨w.heap.size + 1 + 1, 6, none⟩ (.slice (some ⟨g2, 0, none⟩) t.tols.length t.tols.length)).setCell ⟨w.heap.size + 1, 0, none⟩ (.int .i64 t.id)).setCell ⟨w.heap.size + 1, 1, none⟩ (.int .i64 t.prio)).setCell ⟨w.heap.size + 1, 2, none⟩ (.int .i64 t.need.c)).setCell ⟨w.heap.size + 1, 3, none⟩ (.int .i64 t.need.m)).setCell ⟨w.heap.size + 1, 4, none⟩ (.int .i64 t.need.p)).setCell ⟨w.heap.size + 1, 5, none⟩ (.slice (some ⟨g1, 0, none⟩) t.want.length t.want.length)).setCell ⟨w.heap.size + 1, 6, none⟩ (.slice (some ⟨g2, 0, none⟩) t.tols.length t.tols.length)) := below7 (hC5.setCell (by dsimp only; omega) _) (by omega)
  have hs : ((((((((w5.setCell ⟨w.heap.size + 1 + 1, 6, none⟩ (.slice (some ⟨g2, 0, none⟩) t.tols.length t.tols.length)).setCell ⟨w.heap.size + 1, 0, none⟩ (.int .i64 t.id)).setCell ⟨w.heap.size + 1, 1, none⟩ (.int .i64 t.prio)).setCell ⟨w.heap.size + 1, 2, none⟩ (.int .i64 t.need.c)).setCell ⟨w.heap.size + 1, 3, none⟩ (.int .i64 t.need.m)).setCell ⟨w.heap.size + 1, 4, none⟩ (.int .i64 t.need.p)).setCell ⟨w.heap.size + 1, 5, none⟩ (.slice (some ⟨g1, 0, none⟩) t.want.length t.want.length)).setCell ⟨w.heap.size + 1, 6, none⟩ (.slice (some ⟨g2, 0, none⟩) t.tols.length t.tols.length)).heap.size = w5.heap.size := by simp [World.setCell]
  generalize ((((((((w5.setCell ⟨w.heap.size + 1 + 1, 6, none⟩ (.slice (some ⟨g2, 0, none⟩) t.tols.length t.tols.length)).setCell ⟨w.heap.size + 1, 0, none⟩ (.int .i64 t.id)).setCell ⟨w.heap.size + 1, 1, none⟩ (.int .i64 t.prio)).setCell ⟨w.heap.size + 1, 2, none⟩ (.int .i64 t.need.c)).setCell ⟨w.heap.size + 1, 3, none⟩ (.int .i64 t.need.m)).setCell ⟨w.heap.size + 1, 4, none⟩ (.int .i64 t.need.p)).setCell ⟨w.heap.size + 1, 5, none⟩ (.slice (some ⟨g1, 0, none⟩) t.want.length t.want.length)).setCell ⟨w.heap.size + 1, 6, none⟩ (.slice (some ⟨g2, 0, none⟩) t.tols.length t.tols.length)) = X at hZ hG hI hB hs ⊢
  have z0 := hZ.cell 0
  have z1 := hZ.cell 1
  have z2 := hZ.cell 2
  have z3 := hZ.cell 3
  have z4 := hZ.cell 4
  have z5 := hZ.cell 5
  have z6 := hZ.cell 6
  simp at z0 z1 z2 z3 z4 z5 z6
  exact bodyPost_ret (v := .agg #[.int .i64 t.id, .int .i64 t.prio, .int .i64 t.need.c, .int .i64 t.need.m, .int .i64 t.need.p, .slice (some ⟨g1, 0, none⟩) t.want.length t.want.length, .slice (some ⟨g2, 0, none⟩) t.tols.length t.tols.length]) (by simp [results, Tryd.results11, go_sem, z0, z1, z2, z3, z4, z5, z6]) rfl ⟨g1, g2, rfl, by omega, by omega, by omega, hG, hI, hB⟩

theorem blk_ne {w : World} {a b : Nat} {t u : TypeId} {x y : Array Value} (h : BlockIs w a t x) (k : BlockIs w b u y) (hne : t ≠ u) : a ≠ b := fun e => by
  subst e
  have := Option.some.inj (h.symm.trans k)
  simp at this
  exact hne this.2
theorem own_some {w : World} {e : TypeId} {size n g c : Nat} {xs : List Value} (h : w.ownsRow 0 e size (.slice (some ⟨g, 0, none⟩) n c) n xs) {j : Nat} (hj : j < n * size) : ∃ u, w.cell? ⟨g, j, none⟩ = some u := by
  have h1 := h.1
  exact ⟨_, own_cell h (List.getElem?_eq_getElem (by omega))⟩
end Go.Proofs.YtcngiinaneefjaaDoor

namespace Go.Proofs.YtcngiinaneefjaaDoor
open Go.RowKit

def RetEvO (w : World) (e : EV) (r : Ending) (w' : World) : Prop := ∃ g1 g2, r = .returned (.agg #[.int .i64 e.kind, .int .i64 e.who, .int .i64 e.n, .bool e.works, .bool e.keep, .int .i64 e.task.id, .int .i64 e.task.prio, .int .i64 e.task.need.c, .int .i64 e.task.need.m, .int .i64 e.task.need.p, .slice (some ⟨g1, 0, none⟩) e.task.want.length e.task.want.length, .slice (some ⟨g2, 0, none⟩) e.task.tols.length e.task.tols.length]) ∧
  w.heap.size ≤ g1 ∧ w.heap.size ≤ g2 ∧ g2 < w'.heap.size ∧ BlockIs w' g1 78 (labL e.task.want).toArray ∧ BlockIs w' g2 3 (intL e.task.tols).toArray ∧ Below w.heap.size w w'
set_option maxHeartbeats 3200000 in
theorem toEvent_o (e : EV) (v1 v2 : Value) (w : World) (h1 : LabSl w v1 e.task.want) (h2 : IntSl w v2 e.task.tols) (l1 : e.task.want.length ≤ 1048576) (l2 : e.task.tols.length ≤ 1048576) :
    Calls Tryd.prog 24 #[.agg #[.int .i64 e.kind, .int .i64 e.who, .int .i64 e.n, .bool e.works, .bool e.keep, .int .i64 e.task.id, .int .i64 e.task.prio, .int .i64 e.task.need.c, .int .i64 e.task.need.m, .int .i64 e.task.need.p, v1, v2]] w (RetEvO w e) := by
  have H1 := Lib.hid h1
  have H2 := Lib.hid h2
  have L := Lib.hid (And.intro l1 l2)
  clear h1 h2 l1 l2
  go_enter Tryd.func24, Tryd.ntmps24
  go_wp2_with fail
  have hX : Below w.heap.size w (((w.alloc (.cells #[.int .i64 e.kind, .int .i64 e.who, .int .i64 e.n, .bool e.works, .bool e.keep, .int .i64 e.task.id, .int .i64 e.task.prio, .int .i64 e.task.need.c, .int .i64 e.task.need.m, .int .i64 e.task.need.p, v1, v2] 46)).alloc (.cells #[.int .i64 0, .int .i64 0, .int .i64 0, .bool false, .bool false, .int .i64 0, .int .i64 0, .int .i64 0, .int .i64 0, .int .i64 0, .slice none 0 0, .slice none 0 0] 50)).alloc (.cells #[.int .i64 e.kind, .int .i64 e.who, .int .i64 e.n, .bool e.works, .bool e.keep, .int .i64 0, .int .i64 0, .int .i64 0, .int .i64 0, .int .i64 0, .slice none 0 0, .slice none 0 0] 50)) := (by repeat' (first | exact Below.refl _ _ | refine Below.alloc ?_ ?_ _ | refine Below.setCell ?_ ?_ _ | refine Below.drew ?_ | (apply below_step; assumption) | (simp; done) | (simp; omega) | omega))
  refine (toTask_o e.task v1 v2 _ (H1.out.below hX) (H2.out.below hX) L.out.1 L.out.2).mono ?_
  rintro r w1 ⟨g1, g2, rfl, k1, k2, k3, bl, it, hb1⟩
  have B1 : BlockIs w1 (w.heap.size + 1) 50 #[.int .i64 0, .int .i64 0, .int .i64 0, .bool false, .bool false, .int .i64 0, .int .i64 0, .int .i64 0, .int .i64 0, .int .i64 0, .slice none 0 0, .slice none 0 0] := (BlockIs.alloc (BlockIs.new' (by simp)) _).below hb1 (by simp)
  have B2 : BlockIs w1 (w.heap.size + 1 + 1) 50 #[.int .i64 e.kind, .int .i64 e.who, .int .i64 e.n, .bool e.works, .bool e.keep, .int .i64 0, .int .i64 0, .int .i64 0, .int .i64 0, .int .i64 0, .slice none 0 0, .slice none 0 0] := (BlockIs.new' (by simp)).below hb1 (by simp)
  have hC1 := below_of hX hb1
  have hz1 := hb1.size
  simp at hz1 k1 k2
  have d5 := B2.cell 5
  have d6 := B2.cell 6
  have d7 := B2.cell 7
  have d8 := B2.cell 8
  have d9 := B2.cell 9
  have d10 := B2.cell 10
  have d11 := B2.cell 11
  have ff := B2.frozen
  have hl2 := B2.lt
  simp at d5 d6 d7 d8 d9 d10 d11
  have HB1 := Lib.hid B1
  have HB2 := Lib.hid B2
  have BL := Lib.hid bl
  have IT := Lib.hid it
  clear B1 B2 hX hb1 bl it
  go_upto_region 8 with fail
  have hT : TurnB [w.heap.size + 1 + 1] w1 (((((((w1.setCell ⟨w.heap.size + 1 + 1, 5, none⟩ (.int .i64 e.task.id)).setCell ⟨w.heap.size + 1 + 1, 5 + 1, none⟩ (.int .i64 e.task.prio)).setCell ⟨w.heap.size + 1 + 1, 5 + 2, none⟩ (.int .i64 e.task.need.c)).setCell ⟨w.heap.size + 1 + 1, 5 + 3, none⟩ (.int .i64 e.task.need.m)).setCell ⟨w.heap.size + 1 + 1, 5 + 4, none⟩ (.int .i64 e.task.need.p)).setCell ⟨w.heap.size + 1 + 1, 5 + 5, none⟩ (.slice (some ⟨g1, 0, none⟩) e.task.want.length e.task.want.length)).setCell ⟨w.heap.size + 1 + 1, 5 + 6, none⟩ (.slice (some ⟨g2, 0, none⟩) e.task.tols.length e.task.tols.length)) :=
    TurnB.put (TurnB.put (TurnB.put (TurnB.put (TurnB.put (TurnB.put (TurnB.put (TurnB.refl _ _) (by simp) _ _) (by simp) _ _) (by simp) _ _) (by simp) _ _) (by simp) _ _) (by simp) _ _) (by simp) _ _
  have hO : BlockIs (((((((w1.setCell ⟨w.heap.size + 1 + 1, 5, none⟩ (.int .i64 e.task.id)).setCell ⟨w.heap.size + 1 + 1, 5 + 1, none⟩ (.int .i64 e.task.prio)).setCell ⟨w.heap.size + 1 + 1, 5 + 2, none⟩ (.int .i64 e.task.need.c)).setCell ⟨w.heap.size + 1 + 1, 5 + 3, none⟩ (.int .i64 e.task.need.m)).setCell ⟨w.heap.size + 1 + 1, 5 + 4, none⟩ (.int .i64 e.task.need.p)).setCell ⟨w.heap.size + 1 + 1, 5 + 5, none⟩ (.slice (some ⟨g1, 0, none⟩) e.task.want.length e.task.want.length)).setCell ⟨w.heap.size + 1 + 1, 5 + 6, none⟩ (.slice (some ⟨g2, 0, none⟩) e.task.tols.length e.task.tols.length)) (w.heap.size + 1 + 1) 50 #[.int .i64 e.kind, .int .i64 e.who, .int .i64 e.n, .bool e.works, .bool e.keep, .int .i64 e.task.id, .int .i64 e.task.prio, .int .i64 e.task.need.c, .int .i64 e.task.need.m, .int .i64 e.task.need.p, .slice (some ⟨g1, 0, none⟩) e.task.want.length e.task.want.length, .slice (some ⟨g2, 0, none⟩) e.task.tols.length e.task.tols.length] := by
    simpa using (((((((HB2.out.put 5 (.int .i64 e.task.id)).put 6 (.int .i64 e.task.prio)).put 7 (.int .i64 e.task.need.c)).put 8 (.int .i64 e.task.need.m)).put 9 (.int .i64 e.task.need.p)).put 10 (.slice (some ⟨g1, 0, none⟩) e.task.want.length e.task.want.length)).put 11 (.slice (some ⟨g2, 0, none⟩) e.task.tols.length e.task.tols.length))
  have hR : BlockIs (((((((w1.setCell ⟨w.heap.size + 1 + 1, 5, none⟩ (.int .i64 e.task.id)).setCell ⟨w.heap.size + 1 + 1, 5 + 1, none⟩ (.int .i64 e.task.prio)).setCell ⟨w.heap.size + 1 + 1, 5 + 2, none⟩ (.int .i64 e.task.need.c)).setCell ⟨w.heap.size + 1 + 1, 5 + 3, none⟩ (.int .i64 e.task.need.m)).setCell ⟨w.heap.size + 1 + 1, 5 + 4, none⟩ (.int .i64 e.task.need.p)).setCell ⟨w.heap.size + 1 + 1, 5 + 5, none⟩ (.slice (some ⟨g1, 0, none⟩) e.task.want.length e.task.want.length)).setCell ⟨w.heap.size + 1 + 1, 5 + 6, none⟩ (.slice (some ⟨g2, 0, none⟩) e.task.tols.length e.task.tols.length)) (w.heap.size + 1) 50 #[.int .i64 0, .int .i64 0, .int .i64 0, .bool false, .bool false, .int .i64 0, .int .i64 0, .int .i64 0, .int .i64 0, .int .i64 0, .slice none 0 0, .slice none 0 0] := HB1.out.turn hT (by simp)
  clear d5 d6 d7 d8 d9 d10 d11 ff
  generalize (((((((w1.setCell ⟨w.heap.size + 1 + 1, 5, none⟩ (.int .i64 e.task.id)).setCell ⟨w.heap.size + 1 + 1, 5 + 1, none⟩ (.int .i64 e.task.prio)).setCell ⟨w.heap.size + 1 + 1, 5 + 2, none⟩ (.int .i64 e.task.need.c)).setCell ⟨w.heap.size + 1 + 1, 5 + 3, none⟩ (.int .i64 e.task.need.m)).setCell ⟨w.heap.size + 1 + 1, 5 + 4, none⟩ (.int .i64 e.task.need.p)).setCell ⟨w.heap.size + 1 + 1, 5 + 5, none⟩ (.slice (some ⟨g1, 0, none⟩) e.task.want.length e.task.want.length)).setCell ⟨w.heap.size + 1 + 1, 5 + 6, none⟩ (.slice (some ⟨g2, 0, none⟩) e.task.tols.length e.task.tols.length)) = Y at hT hO hR ⊢
  have HO := Lib.hid hO
  have HR := Lib.hid hR
  have HT := Lib.hid hT
  clear hO hR hT
  go_wp2_with (first
    | (refine wpList_store_row rfl 50 _ _ rfl _ _ rfl rfl 50 _ HR.out (by kernel_rfl) rfl (by simp [Value.oneCell']) ?_)
    | (refine wpList_load_row rfl 50 _ rfl _ rfl 50 _ (0, 0) _ HO.out Tryd.underlying50 rfl (by kernel_rfl) ?_))
  have hF := HR.out.row (cs := #[.int .i64 e.kind, .int .i64 e.who, .int .i64 e.n, .bool e.works, .bool e.keep, .int .i64 e.task.id, .int .i64 e.task.prio, .int .i64 e.task.need.c, .int .i64 e.task.need.m, .int .i64 e.task.need.p, .slice (some ⟨g1, 0, none⟩) e.task.want.length e.task.want.length, .slice (some ⟨g2, 0, none⟩) e.task.tols.length e.task.tols.length])
  have hT := (HT.out.mono (cs := [w.heap.size + 1, w.heap.size + 1 + 1]) (by simp)).setRow (g := w.heap.size + 1) (by simp) #[.int .i64 e.kind, .int .i64 e.who, .int .i64 e.n, .bool e.works, .bool e.keep, .int .i64 e.task.id, .int .i64 e.task.prio, .int .i64 e.task.need.c, .int .i64 e.task.need.m, .int .i64 e.task.need.p, .slice (some ⟨g1, 0, none⟩) e.task.want.length e.task.want.length, .slice (some ⟨g2, 0, none⟩) e.task.tols.length e.task.tols.length]
  refine bodyPost_ret (v := .agg #[.int .i64 e.kind, .int .i64 e.who, .int .i64 e.n, .bool e.works, .bool e.keep, .int .i64 e.task.id, .int .i64 e.task.prio, .int .i64 e.task.need.c, .int .i64 e.task.need.m, .int .i64 e.task.need.p, .slice (some ⟨g1, 0, none⟩) e.task.want.length e.task.want.length, .slice (some ⟨g2, 0, none⟩) e.task.tols.length e.task.tols.length]) (results_cell_row Tryd.results24 _ _ (w.heap.size + 1) 50 _ (0, 0) _ rfl hF Tryd.underlying50 rfl (by kernel_rfl)) rfl ?_
  refine ⟨_, _, rfl, by omega, by omega, by have := hT.size; omega, BL.out.turn hT (by simp; omega), IT.out.turn hT (by simp; omega), hC1.trans (hT.below (by omega) (by simp; omega))⟩
end Go.Proofs.YtcngiinaneefjaaDoor

namespace Go.Proofs.YtcngiinaneefjaaDoor
open Go.ChangeShapes Go.WideShapes Go.ChangeAt Go.RowKit Go.Joins

section
variable {H : Type} {enc : TypeId × Value → H} {W : World}
theorem open_gslice {α : Type} {R : World → α → List Value → Prop} {n : Nat} {T E : TypeId} (z : α) (hn : 0 < n) (hu : Tryd.prog.underlying T = some (.slice E)) (hcE : Tryd.prog.cellsOf E = n)
    (hop : ∀ (fuel : Nat) (cs : List Value) (x : DataW H × List MemPlace), DataW.trod enc Tryd.prog W 0 (fun _ => true) true fuel E cs = some x → ∃ t, R W t cs)
    {fuel : Nat} {v : Value} {x : DataW H × List MemPlace} (h : DataW.trod enc Tryd.prog W 0 (fun _ => true) true fuel T [v] = some x) : ∃ l : List α, l.length ≤ maxLen ∧ GSl R n W v l := by
  rcases Go.Deep.open_slice hu h with ⟨hcs, _⟩ | ⟨a, len, cap, m, n', D, Pl, hcs, hb, hl, hm, hmm, hx, hi⟩
  · simp at hcs
    subst hcs
    exact ⟨[], by simp, .inl ⟨rfl, _, _, rfl⟩⟩
  · simp at hcs
    subst hcs
    rw [if_pos rfl] at hmm
    subst hmm
    have hel : ∀ i, i < len → ∃ (t : α) (cs : List Value), R W t cs ∧ cs.length = n ∧ ∀ (j : Nat) (u : Value), cs[j]? = some u → W.cell? (a.add (i * n + j)) = some u := by
      intro i hin
      obtain ⟨cs', hc, ht⟩ := hi i (by omega)
      rw [hcE] at hc
      obtain ⟨t, hR⟩ := hop _ _ _ ht
      obtain ⟨_, hlen, hat⟩ := World.cells?_some hc
      refine ⟨t, cs', hR, hlen, fun j u hj => ?_⟩
      have hjn : j < n := by rw [← hlen]; exact (List.getElem?_eq_some_iff.1 hj).1
      have := hat j hjn
      rw [Go.Deep.add_add] at this
      exact this.trans hj
    obtain ⟨f, hf⟩ : ∃ f : Nat → α, ∀ i, i < len → ∃ cs : List Value, R W (f i) cs ∧ cs.length = n ∧ ∀ (j : Nat) (u : Value), cs[j]? = some u → W.cell? (a.add (i * n + j)) = some u := by
      classical
      refine ⟨fun i => if hi : i < len then Classical.choose (hel i hi) else z, fun i hi => ?_⟩
      simp only [dif_pos hi]
      exact Classical.choose_spec (hel i hi)
    refine ⟨(List.range len).map f, by simp; omega, ?_⟩
    rcases Nat.eq_zero_or_pos len with rfl | hp
    · exact .inl ⟨rfl, _, _, rfl⟩
    · obtain ⟨b, off, spot⟩ := a
      obtain ⟨cs0, _, hl0, h0⟩ := hf 0 hp
      obtain ⟨u0, hu0⟩ : ∃ u, cs0[0]? = some u := ⟨_, List.getElem?_eq_getElem (by omega)⟩
      have h0 := h0 0 u0 hu0
      have hspot : spot = none := by simpa [Addr.add] using World.cell?_spot h0
      subst hspot
      have hlt := World.block_lt_of_cell? _ _ h0
      refine .inr ⟨b, off, m, by simp, by simpa [Addr.add] using hlt, fun i r hr => ?_⟩
      have hi : i < len := by
        have := (List.getElem?_eq_some_iff.1 hr).1
        simpa using this
      have hri : f i = r := by simpa [hi] using hr
      obtain ⟨cs, hR, _, hc⟩ := hf i hi
      rw [hri] at hR
      refine ⟨cs, hR, fun j u hj => ?_⟩
      have := hc j u hj
      rw [add_plain, ← Nat.add_assoc] at this
      exact this
end
end Go.Proofs.YtcngiinaneefjaaDoor

namespace Go.Proofs.YtcngiinaneefjaaDoor
open Go.RowKit

def EventQ (w : World) (t : EV) (cs : List Value) : Prop := ∃ v1 v2, cs = [.int .i64 t.kind, .int .i64 t.who, .int .i64 t.n, .bool t.works, .bool t.keep, .int .i64 t.task.id, .int .i64 t.task.prio, .int .i64 t.task.need.c, .int .i64 t.task.need.m, .int .i64 t.task.need.p, v1, v2] ∧ LabSl w v1 t.task.want ∧ IntSl w v2 t.task.tols ∧ t.task.want.length ≤ maxLen ∧ t.task.tols.length ≤ maxLen
theorem EventQ.kept : Kept EventQ := fun _ _ _ _ hb ⟨v1, v2, e, h1, h2, h3⟩ => ⟨v1, v2, e, h1.below hb, h2.below hb, h3⟩
def EV.zero : EV := ⟨0, 0, 0, false, false, TV.zero⟩
def EV.small (t : EV) : Prop := t.task.want.length ≤ 1048576 ∧ t.task.tols.length ≤ 1048576
def EventN (base : Nat) (w : World) (t : EV) (cs : List Value) : Prop := ∃ g1 g2, cs = [.int .i64 t.kind, .int .i64 t.who, .int .i64 t.n, .bool t.works, .bool t.keep, .int .i64 t.task.id, .int .i64 t.task.prio, .int .i64 t.task.need.c, .int .i64 t.task.need.m, .int .i64 t.task.need.p, .slice (some ⟨g1, 0, none⟩) t.task.want.length t.task.want.length, .slice (some ⟨g2, 0, none⟩) t.task.tols.length t.task.tols.length] ∧
  base ≤ g1 ∧ base ≤ g2 ∧ g2 < w.heap.size ∧ BlockIs w g1 78 (labL t.task.want).toArray ∧ IntAt w g2 0 t.task.tols ∧ t.task.want.length ≤ 1048576 ∧ t.task.tols.length ≤ 1048576
theorem EventN.kept (base : Nat) : Kept (EventN base) := fun _ _ _ _ hb ⟨g1, g2, e, h1, h2, h3, h4, h5, h6⟩ => ⟨g1, g2, e, h1, h2, Nat.lt_of_lt_of_le h3 hb.size, h4.below hb h4.lt, h5.below hb h3, h6⟩
theorem EventN.put {base g o : Nat} {w : World} {t : EV} {cs ds : List Value} (h : EventN base w t cs) (hg : g < base) : EventN base (putAll w g o ds) t cs := by
  obtain ⟨g1, g2, e, h1, h2, h3, h4, h5, h6⟩ := h
  exact ⟨g1, g2, e, h1, h2, by rw [putAll_size]; exact h3, h4.putFar (by omega), h5.putFar (by omega), h6⟩
theorem EventN.r {base : Nat} {w : World} {t : EV} {cs : List Value} (h : EventN base w t cs) : EventR w t cs := by
  obtain ⟨g1, g2, e, h1, h2, h3, h4, h5, h6⟩ := h
  exact ⟨_, _, e, .inr ⟨g1, 0, _, rfl, h4.lt, LabAt.of_cells h4⟩, .inr ⟨g2, 0, _, rfl, h3, h5⟩, h6⟩
theorem EventN.len {base : Nat} {w : World} {t : EV} {cs : List Value} (h : EventN base w t cs) : cs.length = 12 := by
  obtain ⟨g1, g2, e, _⟩ := h; subst e; rfl
theorem toEvent_n (t : EV) (cs : List Value) (w : World) (h : EventR w t cs) : Calls Tryd.prog 24 #[.agg cs.toArray] w (RetN EventN w t) := by
  obtain ⟨v1, v2, rfl, h1, h2, l1, l2⟩ := h
  exact (toEvent_o t v1 v2 w h1 h2 l1 l2).mono fun _ _ ⟨g1, g2, e, k1, k2, k3, bl, it, hb⟩ => ⟨_, e, ⟨g1, g2, rfl, k1, k2, k3, bl, fun i r hr => (it.cell _).trans (by simp [intL, hr]), l1, l2⟩, hb⟩
theorem eqEvent_r (t : EV) (cs ds : List Value) (w : World) (h : EventR w t cs) (k : EventR w t ds) : Calls Tryd.prog 26 #[.agg cs.toArray, .agg ds.toArray] w fun e w' => e = .returned (.bool true) ∧ Below w.heap.size w w' := by
  obtain ⟨v1, v2, rfl, h1, h2, l1, l2⟩ := h
  obtain ⟨u1, u2, rfl, k1, k2, _, _⟩ := k
  exact eqEvent_same t v1 v2 u1 u2 w h1 h2 k1 k2 l1 l2
theorem Tryd.infoEvent : (Tryd.prog.info? 50).map (fun i => (i.zero, i.size, i.bytes)) = some (some (.agg #[.int .i64 0, .int .i64 0, .int .i64 0, .bool false, .bool false, .int .i64 0, .int .i64 0, .int .i64 0, .int .i64 0, .int .i64 0, .slice none 0 0, .slice none 0 0]), 12, 120) := by kernel_rfl
theorem make_event (n : Nat) (h : n ≤ 1048576) (w : World) : (Instr.makeSlice 62 (.int .i64 (n : Int)) (.int .i64 (n : Int))).run Tryd.prog w = .ok (.slice (some ⟨w.heap.size, 0, none⟩) n n) (w.alloc (.cells (madeCells #[.int .i64 0, .int .i64 0, .int .i64 0, .bool false, .bool false, .int .i64 0, .int .i64 0, .int .i64 0, .int .i64 0, .int .i64 0, .slice none 0 0, .slice none 0 0] (n * 12)) 50)) := by
  obtain ⟨i, hi, hzz⟩ := Option.map_eq_some_iff.1 Tryd.infoEvent
  simp only [Prod.mk.injEq] at hzz
  obtain ⟨hz, hs, hb⟩ := hzz
  have := run_make (P := Tryd.prog) w 62 50 i _ Tryd.underlying62 hi hz .i64 .i64 n n (by omega) (Int.le_refl _) (by rw [hb]; omega) (by omega)
  rw [this, hs]
  simp [Value.cells]
def NewEventS (w : World) (l : List EV) (e : Ending) (w' : World) : Prop := e = .returned (.slice (some ⟨w.heap.size, 0, none⟩) l.length l.length) ∧ CopyG (EventN (w.heap.size + 1)) 12 50 w' w.heap.size l l.length ∧ Below w.heap.size w w'

set_option maxHeartbeats 1600000 in
theorem toEventS_any (v : Value) (l : List EV) (w : World) (hv : EventSl w v l) (hlen : l.length ≤ 1048576) :
    Calls Tryd.prog 33 #[v] w (NewEventS w l) := by
  obtain ⟨A, c, rfl, hA⟩ := hv.form
  have HA := Lib.hid hA
  clear hA hv
  have hmk := make_event l.length hlen
  go_enter Tryd.func33, Tryd.ntmps33
  go_wp2_with fail
  go_loopw [4] (fun s4 wr => ∃ k : Nat, k ≤ l.length ∧ s4 = .int .i64 k ∧ CopyG (EventN (w.heap.size + 1)) 12 50 wr w.heap.size l k ∧ Below w.heap.size w wr) (fun s4 _ => (l.length - intOf s4).toNat)
  case atStart =>
    exact ⟨0, by omega, rfl, ⟨_, BlockIs.new _ _ _, size_madeCells _ _, fun i r hi => absurd hi (by omega)⟩, (by repeat' (first | exact Below.refl _ _ | refine Below.alloc ?_ ?_ _ | refine Below.setCell ?_ ?_ _ | refine Below.drew ?_ | (apply below_step; assumption) | (simp; done) | (simp; omega) | omega))⟩
  case round =>
    obtain ⟨k, hk, rfl, hcp, hB⟩ := hrel
    have HCP := Lib.hid hcp
    have hgl := hcp.lt
    have hzr := hB.size
    clear hcp
    by_cases hlt : k < l.length
    · obtain ⟨b, off, rfl, hbw, hat⟩ := HA.out (by omega)
      obtain ⟨t, ht⟩ : ∃ t, l[k]? = some t := ⟨_, List.getElem?_eq_getElem hlt⟩
      obtain ⟨cs, hR, hC⟩ := (hat.below EventR.kept hB hbw) k t ht
      have HTK := Lib.hid ht
      have HR := Lib.hid (toEvent_n t cs wr hR)
      obtain ⟨v1, v2, rfl, sl, si, m1, m2⟩ := hR; obtain ⟨A1, c1, rfl, _⟩ := sl.form; obtain ⟨A2, c2, rfl, _⟩ := si.form
      clear sl si m1 m2
      obtain ⟨q0, q1, q2, q3, q4, q5, q6, q7, q8, q9, q10, q11⟩ := event_cells hC
      clear hat hC ht
      go_wp2_with fail
      refine HR.out.mono ?_
      rintro e w3 ⟨ds, rfl, hN, hb3⟩
      have hz3 := hb3.size
      have hC3 := below_of hB hb3
      have hcp := HCP.out.below (EventN.kept _) hb3
      have HN := Lib.hid (show EventN (w.heap.size + 1) w3 t ds from by obtain ⟨g1, g2, e, h1, h2, h3⟩ := hN; exact ⟨g1, g2, e, by omega, by omega, h3⟩)
      have HCP3 := Lib.hid hcp
      obtain ⟨cs3, hblk, hsz, _⟩ := hcp
      have hk12 : k * 12 + 12 ≤ cs3.size := by omega
      have x0 : w3.cell? ⟨w.heap.size, k * 12 + 0, none⟩ = some (cs3[k * 12 + 0]'(by omega)) := (by rw [hblk.cell]; exact Array.getElem?_eq_getElem (by omega)); have x1 : w3.cell? ⟨w.heap.size, k * 12 + 1, none⟩ = some (cs3[k * 12 + 1]'(by omega)) := (by rw [hblk.cell]; exact Array.getElem?_eq_getElem (by omega)); have x2 : w3.cell? ⟨w.heap.size, k * 12 + 2, none⟩ = some (cs3[k * 12 + 2]'(by omega)) := (by rw [hblk.cell]; exact Array.getElem?_eq_getElem (by omega)); have x3 : w3.cell? ⟨w.heap.size, k * 12 + 3, none⟩ = some (cs3[k * 12 + 3]'(by omega)) := (by rw [hblk.cell]; exact Array.getElem?_eq_getElem (by omega)); have x4 : w3.cell? ⟨w.heap.size, k * 12 + 4, none⟩ = some (cs3[k * 12 + 4]'(by omega)) := (by rw [hblk.cell]; exact Array.getElem?_eq_getElem (by omega)); have x5 : w3.cell? ⟨w.heap.size, k * 12 + 5, none⟩ = some (cs3[k * 12 + 5]'(by omega)) := (by rw [hblk.cell]; exact Array.getElem?_eq_getElem (by omega)); have x6 : w3.cell? ⟨w.heap.size, k * 12 + 6, none⟩ = some (cs3[k * 12 + 6]'(by omega)) := (by rw [hblk.cell]; exact Array.getElem?_eq_getElem (by omega)); have x7 : w3.cell? ⟨w.heap.size, k * 12 + 7, none⟩ = some (cs3[k * 12 + 7]'(by omega)) := (by rw [hblk.cell]; exact Array.getElem?_eq_getElem (by omega)); have x8 : w3.cell? ⟨w.heap.size, k * 12 + 8, none⟩ = some (cs3[k * 12 + 8]'(by omega)) := (by rw [hblk.cell]; exact Array.getElem?_eq_getElem (by omega)); have x9 : w3.cell? ⟨w.heap.size, k * 12 + 9, none⟩ = some (cs3[k * 12 + 9]'(by omega)) := (by rw [hblk.cell]; exact Array.getElem?_eq_getElem (by omega)); have x10 : w3.cell? ⟨w.heap.size, k * 12 + 10, none⟩ = some (cs3[k * 12 + 10]'(by omega)) := (by rw [hblk.cell]; exact Array.getElem?_eq_getElem (by omega)); have x11 : w3.cell? ⟨w.heap.size, k * 12 + 11, none⟩ = some (cs3[k * 12 + 11]'(by omega)) := (by rw [hblk.cell]; exact Array.getElem?_eq_getElem (by omega))
      generalize cs3[k * 12 + 0]'(by omega) = y0 at x0; generalize cs3[k * 12 + 1]'(by omega) = y1 at x1; generalize cs3[k * 12 + 2]'(by omega) = y2 at x2; generalize cs3[k * 12 + 3]'(by omega) = y3 at x3; generalize cs3[k * 12 + 4]'(by omega) = y4 at x4; generalize cs3[k * 12 + 5]'(by omega) = y5 at x5; generalize cs3[k * 12 + 6]'(by omega) = y6 at x6; generalize cs3[k * 12 + 7]'(by omega) = y7 at x7; generalize cs3[k * 12 + 8]'(by omega) = y8 at x8; generalize cs3[k * 12 + 9]'(by omega) = y9 at x9; generalize cs3[k * 12 + 10]'(by omega) = y10 at x10; generalize cs3[k * 12 + 11]'(by omega) = y11 at x11
      rw [Nat.add_zero] at x0
      have uf := hblk.frozen
      have hl3 := hblk.lt
      clear hblk hsz hk12 hN hb3
      obtain ⟨g1, g2, rfl, _⟩ := HN.out
      go_wp2_with fail
      go_roundw
      case rel =>
        have st := HCP3.out.step HTK.out (HN.out.put (by omega)) HN.out.len (fun y es h => h.put (by omega))
        exact ⟨k + 1, by omega, by go_num, st, putAll_below (ds := [_, _, _, _, _, _, _, _, _, _, _, _]) hC3 (Nat.le_refl _)⟩
      case measure => simp [intOf]; omega
    · have hkl : k = l.length := by omega
      have HF := Lib.hid (show CopyG (EventN (w.heap.size + 1)) 12 50 wr w.heap.size l l.length by rw [← hkl]; exact HCP.out)
      clear hkl
      go_wp2_with fail
      go_ret
      exact ⟨rfl, HF.out, hB⟩
set_option maxHeartbeats 1600000 in
set_option maxRecDepth 20000 in
theorem eqEventS_same (v1 v2 : Value) (l : List EV) (w : World) (h1 : EventSl w v1 l) (h2 : EventSl w v2 l) (hlen : l.length ≤ 1048576) :
    Calls Tryd.prog 35 #[v1, v2] w fun e w' => e = .returned (.bool true) ∧ Below w.heap.size w w' := by
  obtain ⟨A, c, rfl, hA⟩ := h1.form
  obtain ⟨A', c', rfl, hA'⟩ := h2.form
  have HA := Lib.hid hA
  have HA' := Lib.hid hA'
  clear hA hA' h1 h2
  have hnn : ((l.length : Int) != (l.length : Int)) = false := by simp
  go_enter Tryd.func35, Tryd.ntmps35
  go_wp2_with fail
  go_loopw [5] (fun s5 wr => ∃ k : Nat, k ≤ l.length ∧ s5 = .int .i64 k ∧ Below w.heap.size w wr) (fun s5 _ => (l.length - intOf s5).toNat)
  case atStart => exact ⟨0, by omega, rfl, Below.refl _ _⟩
  case round =>
    obtain ⟨k, hk, rfl, hB⟩ := hrel
    have hzr := hB.size
    by_cases hlt : k < l.length
    · obtain ⟨b, off, rfl, hbw, hat⟩ := HA.out (by omega)
      obtain ⟨b', off', rfl, hbw', hat'⟩ := HA'.out (by omega)
      obtain ⟨t, ht⟩ : ∃ t, l[k]? = some t := ⟨_, List.getElem?_eq_getElem hlt⟩
      obtain ⟨ds, hR, hC⟩ := (hat'.below EventR.kept hB hbw') k t ht
      have HR' := Lib.hid hR
      obtain ⟨v3, v4, rfl, sl, si, m1, m2⟩ := hR; obtain ⟨A3, c3, rfl, _⟩ := sl.form; obtain ⟨A4, c4, rfl, _⟩ := si.form; clear sl si m1 m2
      obtain ⟨p0, p1, p2, p3, p4, p5, p6, p7, p8, p9, p10, p11⟩ := event_cells hC
      clear hC
      obtain ⟨cs, hR, hC⟩ := (hat.below EventR.kept hB hbw) k t ht
      have HR := Lib.hid hR
      obtain ⟨v1, v2, rfl, sl, si, m1, m2⟩ := hR; obtain ⟨A1, c1, rfl, _⟩ := sl.form; obtain ⟨A2, c2, rfl, _⟩ := si.form
      clear sl si m1 m2
      obtain ⟨q0, q1, q2, q3, q4, q5, q6, q7, q8, q9, q10, q11⟩ := event_cells hC
      have hbr : b < wr.heap.size := by omega
      have hbr' : b' < wr.heap.size := by omega
      have HK := Lib.hid (show ∀ w', Below wr.heap.size wr w' → Below wr.heap.size wr w' ∧ w'.cell? ⟨b, off + k * 12, none⟩ = some (.int .i64 t.kind) ∧ w'.cell? ⟨b, off + k * 12 + 1, none⟩ = some (.int .i64 t.who) ∧ w'.cell? ⟨b, off + k * 12 + 2, none⟩ = some (.int .i64 t.n) ∧ w'.cell? ⟨b, off + k * 12 + 3, none⟩ = some (.bool t.works) ∧ w'.cell? ⟨b, off + k * 12 + 4, none⟩ = some (.bool t.keep) ∧ w'.cell? ⟨b, off + k * 12 + 5, none⟩ = some (.int .i64 t.task.id) ∧ w'.cell? ⟨b, off + k * 12 + 6, none⟩ = some (.int .i64 t.task.prio) ∧ w'.cell? ⟨b, off + k * 12 + 7, none⟩ = some (.int .i64 t.task.need.c) ∧ w'.cell? ⟨b, off + k * 12 + 8, none⟩ = some (.int .i64 t.task.need.m) ∧ w'.cell? ⟨b, off + k * 12 + 9, none⟩ = some (.int .i64 t.task.need.p) ∧ w'.cell? ⟨b, off + k * 12 + 10, none⟩ = some (.slice A1 t.task.want.length c1) ∧ w'.cell? ⟨b, off + k * 12 + 11, none⟩ = some (.slice A2 t.task.tols.length c2) ∧ w'.cell? ⟨b', off' + k * 12, none⟩ = some (.int .i64 t.kind) ∧ w'.cell? ⟨b', off' + k * 12 + 1, none⟩ = some (.int .i64 t.who) ∧ w'.cell? ⟨b', off' + k * 12 + 2, none⟩ = some (.int .i64 t.n) ∧ w'.cell? ⟨b', off' + k * 12 + 3, none⟩ = some (.bool t.works) ∧ w'.cell? ⟨b', off' + k * 12 + 4, none⟩ = some (.bool t.keep) ∧ w'.cell? ⟨b', off' + k * 12 + 5, none⟩ = some (.int .i64 t.task.id) ∧ w'.cell? ⟨b', off' + k * 12 + 6, none⟩ = some (.int .i64 t.task.prio) ∧ w'.cell? ⟨b', off' + k * 12 + 7, none⟩ = some (.int .i64 t.task.need.c) ∧ w'.cell? ⟨b', off' + k * 12 + 8, none⟩ = some (.int .i64 t.task.need.m) ∧ w'.cell? ⟨b', off' + k * 12 + 9, none⟩ = some (.int .i64 t.task.need.p) ∧ w'.cell? ⟨b', off' + k * 12 + 10, none⟩ = some (.slice A3 t.task.want.length c3) ∧ w'.cell? ⟨b', off' + k * 12 + 11, none⟩ = some (.slice A4 t.task.tols.length c4) from fun w' hb => ⟨hb, (hb.cell (p := ⟨_, _, none⟩) hbr).trans q0, (hb.cell (p := ⟨_, _, none⟩) hbr).trans q1, (hb.cell (p := ⟨_, _, none⟩) hbr).trans q2, (hb.cell (p := ⟨_, _, none⟩) hbr).trans q3, (hb.cell (p := ⟨_, _, none⟩) hbr).trans q4, (hb.cell (p := ⟨_, _, none⟩) hbr).trans q5, (hb.cell (p := ⟨_, _, none⟩) hbr).trans q6, (hb.cell (p := ⟨_, _, none⟩) hbr).trans q7, (hb.cell (p := ⟨_, _, none⟩) hbr).trans q8, (hb.cell (p := ⟨_, _, none⟩) hbr).trans q9, (hb.cell (p := ⟨_, _, none⟩) hbr).trans q10, (hb.cell (p := ⟨_, _, none⟩) hbr).trans q11, (hb.cell (p := ⟨_, _, none⟩) hbr').trans p0, (hb.cell (p := ⟨_, _, none⟩) hbr').trans p1, (hb.cell (p := ⟨_, _, none⟩) hbr').trans p2, (hb.cell (p := ⟨_, _, none⟩) hbr').trans p3, (hb.cell (p := ⟨_, _, none⟩) hbr').trans p4, (hb.cell (p := ⟨_, _, none⟩) hbr').trans p5, (hb.cell (p := ⟨_, _, none⟩) hbr').trans p6, (hb.cell (p := ⟨_, _, none⟩) hbr').trans p7, (hb.cell (p := ⟨_, _, none⟩) hbr').trans p8, (hb.cell (p := ⟨_, _, none⟩) hbr').trans p9, (hb.cell (p := ⟨_, _, none⟩) hbr').trans p10, (hb.cell (p := ⟨_, _, none⟩) hbr').trans p11⟩)
      have hlti : (k : Int) < (l.length : Int) := by omega
      have hk0 : (0 : Int) ≤ (k : Int) := by omega
      clear hat hat' ht hC q0 q1 q2 q3 q4 q5 q6 q7 q8 q9 q10 q11 p0 p1 p2 p3 p4 p5 p6 p7 p8 p9 p10 p11
      go_wp2_with fail
      refine wp_region_held_drew (S := (fun w' => Below wr.heap.size wr w' ∧ w'.cell? ⟨b, off + k * 12, none⟩ = some (.int .i64 t.kind) ∧ w'.cell? ⟨b, off + k * 12 + 1, none⟩ = some (.int .i64 t.who) ∧ w'.cell? ⟨b, off + k * 12 + 2, none⟩ = some (.int .i64 t.n) ∧ w'.cell? ⟨b, off + k * 12 + 3, none⟩ = some (.bool t.works) ∧ w'.cell? ⟨b, off + k * 12 + 4, none⟩ = some (.bool t.keep) ∧ w'.cell? ⟨b, off + k * 12 + 5, none⟩ = some (.int .i64 t.task.id) ∧ w'.cell? ⟨b, off + k * 12 + 6, none⟩ = some (.int .i64 t.task.prio) ∧ w'.cell? ⟨b, off + k * 12 + 7, none⟩ = some (.int .i64 t.task.need.c) ∧ w'.cell? ⟨b, off + k * 12 + 8, none⟩ = some (.int .i64 t.task.need.m) ∧ w'.cell? ⟨b, off + k * 12 + 9, none⟩ = some (.int .i64 t.task.need.p) ∧ w'.cell? ⟨b, off + k * 12 + 10, none⟩ = some (.slice A1 t.task.want.length c1) ∧ w'.cell? ⟨b, off + k * 12 + 11, none⟩ = some (.slice A2 t.task.tols.length c2) ∧ w'.cell? ⟨b', off' + k * 12, none⟩ = some (.int .i64 t.kind) ∧ w'.cell? ⟨b', off' + k * 12 + 1, none⟩ = some (.int .i64 t.who) ∧ w'.cell? ⟨b', off' + k * 12 + 2, none⟩ = some (.int .i64 t.n) ∧ w'.cell? ⟨b', off' + k * 12 + 3, none⟩ = some (.bool t.works) ∧ w'.cell? ⟨b', off' + k * 12 + 4, none⟩ = some (.bool t.keep) ∧ w'.cell? ⟨b', off' + k * 12 + 5, none⟩ = some (.int .i64 t.task.id) ∧ w'.cell? ⟨b', off' + k * 12 + 6, none⟩ = some (.int .i64 t.task.prio) ∧ w'.cell? ⟨b', off' + k * 12 + 7, none⟩ = some (.int .i64 t.task.need.c) ∧ w'.cell? ⟨b', off' + k * 12 + 8, none⟩ = some (.int .i64 t.task.need.m) ∧ w'.cell? ⟨b', off' + k * 12 + 9, none⟩ = some (.int .i64 t.task.need.p) ∧ w'.cell? ⟨b', off' + k * 12 + 10, none⟩ = some (.slice A3 t.task.want.length c3) ∧ w'.cell? ⟨b', off' + k * 12 + 11, none⟩ = some (.slice A4 t.task.tols.length c4))) (by kernel_rfl) (by (try dsimp only); exact HK.out _ (by repeat' (first | exact Below.refl _ _ | refine Below.alloc ?_ ?_ _ | refine Below.setCell ?_ ?_ _ | refine Below.drew ?_ | (apply below_step; assumption) | (simp; done) | (simp; omega) | omega))) (fun hHeld => ?_)
      refine hT 0 ?_; simp only [Act.put, rhA, rhS, rhT]
      refine hT 1 ?_; simp only [Act.put, rhA, rhS, rhT]
      refine hT 2 ?_; simp only [Act.put, rhA, rhS, rhT]
      refine hT 3 ?_; simp only [Act.put, rhA, rhS, rhT]
      refine hT 4 ?_; simp only [Act.put, rhA, rhS, rhT]
      refine hT 5 ?_; simp only [Act.put, rhA, rhS, rhT]
      refine hT 6 ?_; simp only [Act.put, rhA, rhS, rhT]
      refine hT 7 ?_; simp only [Act.put, rhA, rhS, rhT]
      refine hCall (i := 8) (o := ?a10) ?b10 (by kernel_rfl) ?c10 (fun K hK => ?d10)
      case b10 => simp only [rhN, rhM]; try rfl
      case c10 => rfl
      go_simp
      refine (eqEvent_r t _ _ _ (EventR.kept _ _ _ _ (by repeat' (first | exact Below.refl _ _ | refine Below.alloc ?_ ?_ _ | refine Below.setCell ?_ ?_ _ | refine Below.drew ?_ | (apply below_step; assumption) | (simp; done) | (simp; omega) | omega)) HR.out) (EventR.kept _ _ _ _ (by repeat' (first | exact Below.refl _ _ | refine Below.alloc ?_ ?_ _ | refine Below.setCell ?_ ?_ _ | refine Below.drew ?_ | (apply below_step; assumption) | (simp; done) | (simp; omega) | omega)) HR'.out)).mono ?_
      rintro e w3 ⟨rfl, hb3⟩
      have hz3 := hb3.size
      try simp at hz3
      go_wp2_with fail
      refine hK.out _ _ (by (try dsimp only); exact HK.out _ (by repeat' (first | exact Below.refl _ _ | refine Below.alloc ?_ ?_ _ | refine Below.setCell ?_ ?_ _ | refine Below.drew ?_ | (apply below_step; assumption) | (simp; done) | (simp; omega) | omega))) (fun hHeld => ?_)
      clear hK K
      try simp only [Act.put, rhA, rhS, rhT]
      refine hT 9 ?_; simp only [Act.put, rhA, rhS, rhT]
      refine wpAnyH_done (by kernel_rfl) ?_ _
      go_wp2_with fail
      go_roundw
      case rel => exact ⟨k + 1, by omega, by go_num, (by repeat' (first | exact Below.refl _ _ | refine Below.alloc ?_ ?_ _ | refine Below.setCell ?_ ?_ _ | refine Below.drew ?_ | (apply below_step; assumption) | (simp; done) | (simp; omega) | omega))⟩
      case measure => simp [intOf]; omega
    · go_wp2_with fail
      go_ret
      exact ⟨rfl, hB⟩
set_option maxHeartbeats 1600000 in
theorem szEventS_any (v : Value) (l : List EV) (z : Int) (w : World) (hv : GSl EventQ 12 w v l) (hl : l.length ≤ maxLen) (h0 : 0 ≤ z) (hz : z ≤ 1048576) :
    Calls Tryd.prog 31 #[v, .int .i64 z] w fun e w' => (∃ y : Int, e = .returned (.int .i64 y) ∧ (y = -1 ∨ (0 ≤ y ∧ y ≤ 1048576 ∧ l.length ≤ 1048576 ∧ ∀ t ∈ l, t.small))) ∧ Below w.heap.size w w' := by
  obtain ⟨A, c, rfl, hA⟩ := hv.form
  have HA := Lib.hid hA
  unfold maxLen at hl
  clear hA hv
  by_cases h1 : (l.length : Int) ≤ z
  · go_enter Tryd.func31, Tryd.ntmps31
    go_wp2_with fail
    go_loopw [1, 5] (fun s1 s5 wr => ∃ (k : Nat) (y : Int), k ≤ l.length ∧ s5 = .int .i64 k ∧ s1 = .int .i64 y ∧ 0 ≤ y ∧ y ≤ 1048576 ∧ (∀ t ∈ l.take k, t.small) ∧ Below w.heap.size w wr) (fun _ s5 _ => (l.length - intOf s5).toNat)
    case atStart => exact ⟨0, z - l.length, by omega, rfl, by first | rfl | go_num, by omega, by omega, by simp, Below.refl _ _⟩
    case round =>
      obtain ⟨k, y, hk, rfl, rfl, y0, y1, hall, hB⟩ := hrel
      have HALL := Lib.hid hall
      have hzr := hB.size
      clear hall
      by_cases hlt : k < l.length
      · obtain ⟨b, off, rfl, hbw, hat⟩ := HA.out (by omega)
        obtain ⟨t, ht⟩ : ∃ t, l[k]? = some t := ⟨_, List.getElem?_eq_getElem hlt⟩
        obtain ⟨cs, hR, hC⟩ := (hat.below EventQ.kept hB hbw) k t ht
        have HTK := Lib.hid (take_at ht)
        obtain ⟨v1, v2, rfl, sl, si, m1, m2⟩ := hR; obtain ⟨A1, c1, rfl, _⟩ := sl.form; obtain ⟨A2, c2, rfl, _⟩ := si.form
        obtain ⟨q0, q1, q2, q3, q4, q5, q6, q7, q8, q9, q10, q11⟩ := event_cells hC
        have hsz := fun w => szEvent_any (.int .i64 t.kind) (.int .i64 t.who) (.int .i64 t.n) (.bool t.works) (.bool t.keep) (.int .i64 t.task.id) (.int .i64 t.task.prio) (.int .i64 t.task.need.c) (.int .i64 t.task.need.m) (.int .i64 t.task.need.p) A1 A2 t.task.want.length c1 t.task.tols.length c2 y w y0 y1 m1 m2
        generalize hy : szTV y t.task.want.length t.task.tols.length = y' at hsz
        have HY := Lib.hid (szTV_ok hy)
        have HSZ := Lib.hid hsz
        have hki : (k : Int) < (l.length : Int) := by omega
        clear hat hC ht sl si m1 m2 hsz hy
        go_wp2_with fail
        refine (HSZ.out _).mono ?_
        rintro e w2 ⟨rfl, hb2⟩
        have hC2 := below_of hB hb2
        rcases HY.out with rfl | hy2
        · go_wp2_with fail
          go_ret
          exact ⟨⟨-1, rfl, .inl rfl⟩, hC2⟩
        · obtain ⟨a1, a2, a3, a4⟩ := hy2 y0
          go_wp2_with fail
          go_roundw
          case rel =>
            refine ⟨k + 1, y', by omega, by go_num, rfl, a1, by omega, ?_, hC2⟩
            rw [HTK.out]
            intro s hs
            rcases List.mem_append.1 hs with h | h
            · exact HALL.out s h
            · simp at h; subst h; exact ⟨by omega, by omega⟩
          case measure => simp [intOf]; omega
      · have hkl : k = l.length := by omega
        go_wp2_with fail
        go_ret
        refine ⟨⟨y, rfl, .inr ⟨y0, y1, by omega, ?_⟩⟩, hB⟩
        have := HALL.out
        rwa [hkl, List.take_length] at this
  · have h1' : z < l.length := by omega
    clear h1
    go_enter Tryd.func31, Tryd.ntmps31
    go_wp2_with fail
    go_ret
    exact ⟨⟨-1, rfl, .inl rfl⟩, (by repeat' (first | exact Below.refl _ _ | refine Below.alloc ?_ ?_ _ | refine Below.setCell ?_ ?_ _ | refine Below.drew ?_ | (apply below_step; assumption) | (simp; done) | (simp; omega) | omega))⟩

end Go.Proofs.YtcngiinaneefjaaDoor
namespace Go.Proofs.YtcngiinaneefjaaDoor
open Go.ChangeShapes Go.WideShapes Go.ChangeAt Go.RowKit Go.Joins
section
variable {H : Type} {enc : TypeId × Value → H} {W : World}
set_option maxRecDepth 100000 in
theorem open_events {base : Nat} {v : Value} {d : DataW H} {p : List MemPlace} (hv : Value.okWide Tryd.prog W .any base 58 v) (h : DataW.Trod enc Tryd.prog W 0 (fun _ => true) true 58 v d p) :
    ∃ l : List EV, l.length ≤ maxLen ∧ GSl EventQ 12 W v l := by
  obtain ⟨fuel, hf⟩ := h
  obtain ⟨A, n, c, rfl⟩ := okWide_slice Tryd.underlying58 hv
  exact open_gslice (R := EventQ) EV.zero (by omega) Tryd.underlying58 Tryd.c_event (fun fuel cs x h => open_eventC h) (by simpa [Value.cells] using hf)
end
end Go.Proofs.YtcngiinaneefjaaDoor

namespace Go.Proofs.YtcngiinaneefjaaDoor
open Go.RowKit

def EventO (w : World) (t : EV) (cs : List Value) (bs : List Nat) : Prop := ∃ v1 v2, cs = [.int .i64 t.kind, .int .i64 t.who, .int .i64 t.n, .bool t.works, .bool t.keep, .int .i64 t.task.id, .int .i64 t.task.prio, .int .i64 t.task.need.c, .int .i64 t.task.need.m, .int .i64 t.task.need.p, v1, v2] ∧ LabO w v1 t.task.want ∧ IntO w v2 t.task.tols ∧ bs = blk v1 ++ blk v2 ∧ t.task.want.length ≤ 1048576 ∧ t.task.tols.length ≤ 1048576
theorem EventO.framed : Framed EventO := fun _ _ _ _ _ ⟨v1, v2, e, h1, h2, hb, h3⟩ ha => by
  subst hb
  exact ⟨v1, v2, e, own_agree h1 ha.left, own_agree h2 ha.right, rfl, h3⟩
theorem EventO.r {w : World} {t : EV} {cs : List Value} {bs : List Nat} (h : EventO w t cs bs) : EventR w t cs := by
  obtain ⟨v1, v2, e, h1, h2, _, h3⟩ := h
  exact ⟨v1, v2, e, h1.sl, h2.sl, h3⟩
theorem EventO.len {w : World} {t : EV} {cs : List Value} {bs : List Nat} (h : EventO w t cs bs) : cs.length = 12 := by
  obtain ⟨v1, v2, e, _⟩ := h; subst e; rfl
theorem EventO.lt {w : World} {t : EV} {cs : List Value} {bs : List Nat} (h : EventO w t cs bs) : ∀ b ∈ bs, b < w.heap.size := by
  obtain ⟨v1, v2, _, h1, h2, rfl, _⟩ := h
  intro b hb
  rcases List.mem_append.1 hb with hb | hb
  · exact own_lt h1 b hb
  · exact own_lt h2 b hb
theorem toEvent_ro (t : EV) (cs : List Value) (w : World) (h : EventR w t cs) : Calls Tryd.prog 24 #[.agg cs.toArray] w (RetO EventO w t) := by
  obtain ⟨v1, v2, rfl, h1, h2, l1, l2⟩ := h
  refine (toEvent_o t v1 v2 w h1 h2 l1 l2).mono fun _ _ ⟨g1, g2, e, k1, k2, k3, bl, it, hb⟩ => ⟨_, [g1, g2], e, ⟨_, _, rfl, labO_of bl l1, intO_of it l2, rfl, l1, l2⟩, ?_, ?_, hb⟩
  · have := blk_ne bl it (by decide)
    simp [this]
  · intro b hb
    simp at hb
    rcases hb with rfl | rfl
    · exact k1
    · exact k2
set_option maxHeartbeats 3200000 in
theorem toEventS_o (v : Value) (l : List EV) (w : World) (hv : EventSl w v l) (hlen : l.length ≤ 1048576) :
    Calls Tryd.prog 33 #[v] w fun e w' => ∃ bs, e = .returned (.slice (some ⟨w.heap.size, 0, none⟩) l.length l.length) ∧ RowO EventO 50 12 w' (.slice (some ⟨w.heap.size, 0, none⟩) l.length l.length) l bs ∧ bs.Nodup ∧ (∀ b ∈ bs, w.heap.size ≤ b) ∧ Below w.heap.size w w' := by
  obtain ⟨A, c, rfl, hA⟩ := hv.form
  have HA := Lib.hid hA
  clear hA hv
  have hmk := make_event l.length hlen
  go_enter Tryd.func33, Tryd.ntmps33
  go_wp2_with fail
  go_loopw [4] (fun s4 wr => ∃ (k : Nat) (xa xb : List Value) (ba : List Nat), k ≤ l.length ∧ s4 = .int .i64 k ∧ wr.ownsRow 0 50 12 (.slice (some ⟨w.heap.size, 0, none⟩) l.length l.length) l.length (xa ++ xb) ∧ Elems EventO wr (l.take k) xa ba ∧ (w.heap.size :: ba).Nodup ∧ (∀ b ∈ ba, w.heap.size < b) ∧ Below w.heap.size w wr) (fun s4 _ => (l.length - intOf s4).toNat)
  case atStart =>
    refine ⟨0, [], (madeCells #[.int .i64 0, .int .i64 0, .int .i64 0, .bool false, .bool false, .int .i64 0, .int .i64 0, .int .i64 0, .int .i64 0, .int .i64 0, .slice none 0 0, .slice none 0 0] (l.length * 12)).toList, [], by omega, rfl, ⟨by simp [size_madeCells], .inr ⟨w.heap.size, l.length, _, rfl, Nat.zero_le _, BlockIs.new w _ _, Nat.le_refl _, by simp only [maxLen]; omega, size_madeCells _ _, ?_⟩⟩, ⟨rfl, rfl⟩, by simp, by simp, (by repeat' (first | exact Below.refl _ _ | refine Below.alloc ?_ ?_ _ | refine Below.setCell ?_ ?_ _ | refine Below.drew ?_ | (apply below_step; assumption) | (simp; done) | (simp; omega) | omega))⟩
    rw [List.nil_append, List.take_of_length_le]
    simp [size_madeCells]
  case round =>
    obtain ⟨k, xa, xb, ba, hk, rfl, hown, hel, hnd, hlo, hB⟩ := hrel
    have hzr := hB.size
    by_cases hlt : k < l.length
    · obtain ⟨b, off, rfl, hbw, hat⟩ := HA.out (by omega)
      obtain ⟨t, ht⟩ : ∃ t, l[k]? = some t := ⟨_, List.getElem?_eq_getElem hlt⟩
      obtain ⟨cs, hR, hC⟩ := (hat.below EventR.kept hB hbw) k t ht
      have HTK := Lib.hid ht
      have HR := Lib.hid (toEvent_ro t cs wr hR)
      obtain ⟨v1, v2, rfl, sl, si, m1, m2⟩ := hR; obtain ⟨A1, c1, rfl, _⟩ := sl.form; obtain ⟨A2, c2, rfl, _⟩ := si.form
      clear sl si m1 m2
      obtain ⟨q0, q1, q2, q3, q4, q5, q6, q7, q8, q9, q10, q11⟩ := event_cells hC
      have HO := Lib.hid hown
      have HEL := Lib.hid hel
      have HND := Lib.hid (And.intro hnd hlo)
      have hgl := own_lt hown w.heap.size (by simp [blk, Value.ownBlock])
      clear hat hC ht hown hel hnd hlo
      go_wp2_with fail
      refine HR.out.mono ?_
      rintro e w3 ⟨ds, bx, rfl, hN, hndx, hlox, hb3⟩
      have hz3 := hb3.size
      have hC3 := below_of hB hb3
      have hO3 := own_agree HO.out (Agree.of_below hb3 (own_lt HO.out))
      have hk12 : k * 12 + 12 ≤ l.length * 12 := by
        have := Nat.mul_le_mul_right 12 (show k + 1 ≤ l.length from hlt)
        rw [Nat.add_mul, Nat.one_mul] at this; exact this
      obtain ⟨y0, x0⟩ := own_some hO3 (j := k * 12 + 0) (by omega); obtain ⟨y1, x1⟩ := own_some hO3 (j := k * 12 + 1) (by omega); obtain ⟨y2, x2⟩ := own_some hO3 (j := k * 12 + 2) (by omega); obtain ⟨y3, x3⟩ := own_some hO3 (j := k * 12 + 3) (by omega); obtain ⟨y4, x4⟩ := own_some hO3 (j := k * 12 + 4) (by omega); obtain ⟨y5, x5⟩ := own_some hO3 (j := k * 12 + 5) (by omega); obtain ⟨y6, x6⟩ := own_some hO3 (j := k * 12 + 6) (by omega); obtain ⟨y7, x7⟩ := own_some hO3 (j := k * 12 + 7) (by omega); obtain ⟨y8, x8⟩ := own_some hO3 (j := k * 12 + 8) (by omega); obtain ⟨y9, x9⟩ := own_some hO3 (j := k * 12 + 9) (by omega); obtain ⟨y10, x10⟩ := own_some hO3 (j := k * 12 + 10) (by omega); obtain ⟨y11, x11⟩ := own_some hO3 (j := k * 12 + 11) (by omega)
      rw [Nat.add_zero] at x0
      have uf := own_frozen hO3 (by omega)
      have HO3 := Lib.hid hO3
      have HN := Lib.hid (And.intro hN (And.intro hndx hlox))
      obtain ⟨v3, v4, rfl, n1, n2, -, -, -⟩ := hN
      obtain ⟨E1, d1, rfl, -⟩ := own_form n1
      obtain ⟨E2, d2, rfl, -⟩ := own_form n2
      clear hndx hlox hO3 hk12 n1 n2
      go_wp2_with fail
      go_roundw
      case rel =>
        obtain ⟨hN, hndx, hlox⟩ := HN.out
        obtain ⟨hnd, hlo⟩ := HND.out
        have hxl : xa.length = k * 12 := by rw [HEL.out.len (fun _ _ _ h => h.len), List.length_take, Nat.min_eq_left hk]
        have hlx : (xa ++ xb).length = l.length * 12 := HO3.out.1
        rw [List.length_append, hxl] at hlx
        have hx0 : (xb.take 12).length = 12 := by
          rw [List.length_take]
          have := Nat.mul_le_mul_right 12 (show k + 1 ≤ l.length from hlt)
          rw [Nat.add_mul, Nat.one_mul] at this
          omega
        have h3 := HO3.out
        rw [← List.take_append_drop 12 xb] at h3
        have st := own_put (v := .slice (some ⟨w.heap.size, 0, none⟩) l.length l.length) (g := w.heap.size) (ds := [.int .i64 t.kind, .int .i64 t.who, .int .i64 t.n, .bool t.works, .bool t.keep, .int .i64 t.task.id, .int .i64 t.task.prio, .int .i64 t.task.need.c, .int .i64 t.task.need.m, .int .i64 t.task.need.p, .slice E1 t.task.want.length d1, .slice E2 t.task.tols.length d2]) h3 (by rw [hx0]; rfl) rfl
        rw [hxl] at st
        have hEA := HEL.out.agree EventO.framed (Agree.of_below hb3 (elems_lt (fun _ _ _ h => h.lt) HEL.out))
        have hP : TurnB [w.heap.size] w3 (putAll w3 w.heap.size (k * 12) [.int .i64 t.kind, .int .i64 t.who, .int .i64 t.n, .bool t.works, .bool t.keep, .int .i64 t.task.id, .int .i64 t.task.prio, .int .i64 t.task.need.c, .int .i64 t.task.need.m, .int .i64 t.task.need.p, .slice E1 t.task.want.length d1, .slice E2 t.task.tols.length d2]) := (TurnB.refl _ _).putAll (List.mem_singleton.2 rfl) _ _
        have hEP := hEA.agree EventO.framed (hP.agree (fun b hb => ⟨elems_lt (fun _ _ _ h => h.lt) hEA b hb, by have := hlo b hb; simp; omega⟩))
        have hNP := EventO.framed _ _ _ _ _ hN (hP.agree (fun b hb => ⟨hN.lt b hb, by have := hlox b hb; simp; omega⟩))
        refine ⟨k + 1, xa ++ [.int .i64 t.kind, .int .i64 t.who, .int .i64 t.n, .bool t.works, .bool t.keep, .int .i64 t.task.id, .int .i64 t.task.prio, .int .i64 t.task.need.c, .int .i64 t.task.need.m, .int .i64 t.task.need.p, .slice E1 t.task.want.length d1, .slice E2 t.task.tols.length d2], xb.drop 12, ba ++ bx, by omega, by go_num, by rw [List.append_assoc]; exact st, by rw [take_at HTK.out]; exact hEP.snoc hNP, ?_, ?_, hP.below hC3.size (by simp) |> hC3.trans⟩
        · rw [List.nodup_cons] at hnd ⊢
          refine ⟨fun hm => ?_, ?_⟩
          · rcases List.mem_append.1 hm with hm | hm
            · exact hnd.1 hm
            · have := hlox _ hm; omega
          · rw [List.nodup_append]
            exact ⟨hnd.2, hndx, fun a ha b hb e => by have := elems_lt (fun _ _ _ h => h.lt) HEL.out a ha; have := hlox b hb; omega⟩
        · intro b hb
          rcases List.mem_append.1 hb with hb | hb
          · exact hlo b hb
          · have := hlox b hb; omega
      case measure => simp [intOf]; omega
    · have hkl : k = l.length := by omega
      have HF := Lib.hid (And.intro hown (And.intro hel (And.intro hnd hlo)))
      have HKL := Lib.hid hkl
      clear hkl hown hel hnd hlo
      go_wp2_with fail
      go_ret
      obtain ⟨hown, hel, hnd, hlo⟩ := HF.out
      have hkl := HKL.out
      subst hkl
      rw [List.take_length] at hel
      have hxl := hel.len (fun _ _ _ h => h.len)
      have h1 := hown.1
      rw [List.length_append, hxl] at h1
      obtain rfl : xb = [] := List.eq_nil_of_length_eq_zero (by omega)
      rw [List.append_nil] at hown
      exact ⟨w.heap.size :: ba, rfl, ⟨xa, ba, hown, hel, by simp [blk, Value.ownBlock]⟩, hnd, fun b hb => by
        rcases List.mem_cons.1 hb with rfl | hb
        · exact Nat.le_refl _
        · have := hlo b hb; omega, hB⟩
end Go.Proofs.YtcngiinaneefjaaDoor
