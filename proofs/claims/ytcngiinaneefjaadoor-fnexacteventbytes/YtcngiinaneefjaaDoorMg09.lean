/- The contract of the model's EventBytes. What this seat's rows share: the closed facts, the sentinel's cell out of 'laid', a world for the witness. -/
import Derived.Test.YtcngiinaneefjaaDoorMg07
import Derived.Test.YtcngiinaneefjaaDoorEventS
import Derived.Test.YtcngiinaneefjaaDoorCards
import Derived.Test.YtcngiinaneefjaaDoorTie
import Derived.Test.YtcngiinaneefjaaDoorRowBase
import Derived.Test.YtcngiinaneefjaaDoorMg00
namespace Go.Proofs.YtcngiinaneefjaaDoor
open Go.RowKit

theorem OwnsY.one_blk {w : World} {b : Nat} {a : Int} (hb : b ≤ w.heap.size) : OwnsY (w.alloc (.cells #[.int .u8 a] 5)) b (.slice (some ⟨w.heap.size, 0, none⟩) 1 1) [a] := OwnsY.new w [a] b hb (by simp)
theorem flags_cases (e : EV) : (e.works = false ∧ e.keep = false ∧ flagsN e = 0) ∨ (e.works = true ∧ e.keep = false ∧ flagsN e = 1) ∨ (e.works = false ∧ e.keep = true ∧ flagsN e = 2) ∨ (e.works = true ∧ e.keep = true ∧ flagsN e = 3) := by
  unfold flagsN
  cases e.works <;> cases e.keep <;> simp
set_option maxRecDepth 20000 in
set_option maxHeartbeats 6400000 in
theorem sEventBytes_any (e : EV) (v1 v2 : Value) (w : World) (h1 : LabSl w v1 e.task.want) (h2 : IntSl w v2 e.task.tols) (l1 : e.task.want.length ≤ 1048576) (l2 : e.task.tols.length ≤ 1048576) :
    Calls Tryd.prog 23 #[.agg #[.int .i64 e.kind, .int .i64 e.who, .int .i64 e.n, .bool e.works, .bool e.keep, .int .i64 e.task.id, .int .i64 e.task.prio, .int .i64 e.task.need.c, .int .i64 e.task.need.m, .int .i64 e.task.need.p, v1, v2]] w (RetByts w (eventBytes e)) := by
  have hok := fun w1 (hb : Below w.heap.size w w1) => sEventOk_any e v1 v2 w1 (h1.below hb) (h2.below hb) l1 l2
  have htb := fun w1 (hb : Below w.heap.size w w1) => sTaskBytes_any e.task v1 v2 w1 (h1.below hb) (h2.below hb) l1 l2
  have hE : eventBytes e = if eventOk e = true then eventHead e ++ (if e.kind = 4 then taskBytes e.task else []) else [] := rfl
  have hK := @eventOk_kind e
  have hTL := taskBytes_len e.task
  obtain ⟨A1, c1, rfl, _⟩ := h1.form
  obtain ⟨A2, c2, rfl, _⟩ := h2.form
  generalize eventOk e = ok at hok hE hK
  generalize taskBytes e.task = T at htb hE hTL
  have HE := Lib.hid hE
  have HOK := Lib.hid hok
  have HTB := Lib.hid htb
  have HKI := Lib.hid hK
  have HTL := Lib.hid hTL
  have HFR := Lib.hid (flagsN_range e)
  have HFL := Lib.hid (show (if e.works = true then (1 : Int) else 0) + (if e.keep = true then 2 else 0) = flagsN e from rfl)
  clear hE hok h1 h2 hK htb hTL l1 l2
  go_enter Tryd.func23, Tryd.ntmps23
  go_wp2_with fail
  have hX : Below w.heap.size w (w.alloc (.cells #[.int .i64 e.kind, .int .i64 e.who, .int .i64 e.n, .bool e.works, .bool e.keep, .int .i64 e.task.id, .int .i64 e.task.prio, .int .i64 e.task.need.c, .int .i64 e.task.need.m, .int .i64 e.task.need.p, .slice A1 e.task.want.length c1, .slice A2 e.task.tols.length c2] 50)) := (by repeat' (first | exact Below.refl _ _ | refine Below.alloc ?_ ?_ _ | refine Below.setCell ?_ ?_ _ | refine Below.drew ?_ | (apply below_step; assumption) | (simp; done) | (simp; omega) | omega))
  refine (HOK.out _ hX).mono ?_
  rintro r w1 ⟨rfl, hb1⟩
  have hC1 := below_of hX hb1
  have B1 := (BlockIs.new w 50 #[.int .i64 e.kind, .int .i64 e.who, .int .i64 e.n, .bool e.works, .bool e.keep, .int .i64 e.task.id, .int .i64 e.task.prio, .int .i64 e.task.need.c, .int .i64 e.task.need.m, .int .i64 e.task.need.p, .slice A1 e.task.want.length c1, .slice A2 e.task.tols.length c2]).below hb1 (by simp)
  cases ok
  · go_wp2_with fail
    go_ret
    exact ⟨_, rfl, by rw [HE.out]; exact OwnsY.nil _ _, hC1⟩
  · have hz1 := hC1.size
    have HB1 := Lib.hid B1
    have hkind := HKI.out (by trivial)
    have hkm : IntKind.u8.wrap e.kind = e.kind := by rw [IntKind.wrap_u8']; omega
    have hfm : IntKind.u8.wrap (flagsN e) = flagsN e := by have := HFR.out; rw [IntKind.wrap_u8']; omega
    have HKN := Lib.hid hkind
    have bl := B1.lt
    have HK := Lib.hid (show ∀ w', Below w1.heap.size w1 w' → (fun w' => Below w1.heap.size w1 w' ∧ (∀ o, w'.cell? ⟨w.heap.size, o, none⟩ = (#[.int .i64 e.kind, .int .i64 e.who, .int .i64 e.n, .bool e.works, .bool e.keep, .int .i64 e.task.id, .int .i64 e.task.prio, .int .i64 e.task.need.c, .int .i64 e.task.need.m, .int .i64 e.task.need.p, .slice A1 e.task.want.length c1, .slice A2 e.task.tols.length c2] : Array Value)[o]?)) w' from fun w' hb => ⟨hb, fun o => (hb.cell (p := ⟨_, _, none⟩) bl).trans (HB1.out.cell o)⟩)
    have HC1 := Lib.hid hC1
    have g0 := B1.cell 0
    have g3 := B1.cell 3
    have g4 := B1.cell 4
    simp at g0 g3 g4
    clear hb1 HOK HKI B1 hX hC1 hkind
    have HHL := Lib.hid (eventHead_len e)
    have HFD := Lib.hid (flags_cases e)
    rcases HFD.out with ⟨hw, hk, hf⟩ | ⟨hw, hk, hf⟩ | ⟨hw, hk, hf⟩ | ⟨hw, hk, hf⟩
    all_goals
      rw [hf] at hfm
      have HF := Lib.hid hf
      rw [hw] at g3
      rw [hk] at g4
      clear hw hk hf
      go_upto_region 8 with fail
      go_cut [4] (fun s4 wx => OwnsY wx w1.heap.size s4 ([e.kind] ++ numBytes e.who) ∧ Below w1.heap.size w1 wx)
      case first =>
        go_region_held3 (fun w' => Below w1.heap.size w1 w' ∧ (∀ o, w'.cell? ⟨w.heap.size, o, none⟩ = (#[.int .i64 e.kind, .int .i64 e.who, .int .i64 e.n, .bool e.works, .bool e.keep, .int .i64 e.task.id, .int .i64 e.task.prio, .int .i64 e.task.need.c, .int .i64 e.task.need.m, .int .i64 e.task.need.p, .slice A1 e.task.want.length c1, .slice A2 e.task.tols.length c2] : Array Value)[o]?))
          (first | exact HS6.out | exact HK.out _ (by repeat' (first | exact Below.refl _ _ | refine Below.alloc ?_ ?_ _ | refine Below.setCell ?_ ?_ _ | refine Below.drew ?_ | (apply below_step; assumption) | (simp; done) | (simp; omega) | omega)))
          (first
            | (go_at_call 44; refine (sNumBytes_any e.who _).mono ?_; rintro r7 w7 ⟨v7, rfl, hv7, hb7⟩; have HV7 := Lib.hid hv7.o.sl; obtain ⟨V7, cp7, rfl, -⟩ := own_form hv7.o; have hz7 := hb7.size; (try simp at hz7); clear hv7)
            | (refine step_spread_y _ (by rfl) (.tmp 19) (.tmp 22) (by rfl) w1.heap.size _ [e.kind] (numBytes e.who) _ _ (by rfl) (by rfl) (by first | exact (OwnsY.one_blk (w := w1) (Nat.le_refl _)).below (by repeat' (first | exact Below.refl _ _ | refine Below.alloc ?_ ?_ _ | refine Below.setCell ?_ ?_ _ | refine Below.drew ?_ | (apply below_step; assumption) | (simp; done) | (simp; omega) | omega)) (Nat.le_refl _) | exact (OwnsY.one_blk (w := w7) (by omega)).below (by repeat' (first | exact Below.refl _ _ | refine Below.alloc ?_ ?_ _ | refine Below.setCell ?_ ?_ _ | refine Below.drew ?_ | (apply below_step; assumption) | (simp; done) | (simp; omega) | omega)) (Nat.le_refl _)) (HV7.out.below (by repeat' (first | exact Below.refl _ _ | refine Below.alloc ?_ ?_ _ | refine Below.setCell ?_ ?_ _ | refine Below.drew ?_ | (apply below_step; assumption) | (simp; done) | (simp; omega) | omega))) (by have := numBytes_len e.who; simp only [List.length_cons, List.length_nil]; omega) (by first | omega | (simp; omega)) ?_; intro v6 w6 hown6 hb6 hg6; have HS6 := Lib.hid (HK.out _ ((show Below w1.heap.size w1 _ from (by repeat' (first | exact Below.refl _ _ | refine Below.alloc ?_ ?_ _ | refine Below.setCell ?_ ?_ _ | refine Below.drew ?_ | (apply below_step; assumption) | (simp; done) | (simp; omega) | omega))).trans hb6)); have HB6 := Lib.hid ((show Below w1.heap.size w1 _ from (by repeat' (first | exact Below.refl _ _ | refine Below.alloc ?_ ?_ _ | refine Below.setCell ?_ ?_ _ | refine Below.drew ?_ | (apply below_step; assumption) | (simp; done) | (simp; omega) | omega))).trans hb6); have hz6 := hb6.size; (try simp at hz6)))
        all_goals
          go_wp2_with fail
          go_meet
          exact ⟨hown6, HB6.out⟩
      case rest =>
        obtain ⟨hown, hB⟩ := hcut
        have hCB := below_of HC1.out hB
        have hzc := hB.size
        have BC := HB1.out.below hB bl
        have HO := Lib.hid hown
        have q2 := BC.cell 2
        simp at q2
        clear hown BC HK g0 g3 g4
        go_wp2_with fail
        refine (sNumBytes_any e.n _).mono ?_
        rintro r8 w8 ⟨v8, rfl, hv8, hb8⟩
        have hz8 := hb8.size
        have HO8 := Lib.hid (HO.out.below hb8 (Nat.le_refl _))
        have HV8 := Lib.hid hv8.o.sl
        have hB8 := below_of hB hb8
        obtain ⟨V8, cp8, rfl, -⟩ := own_form hv8.o
        have hnl := numBytes_len e.n
        have hwl := numBytes_len e.who
        clear hv8 hb8 q2
        go_upto_region 10 with (first
          | (at_builtin; refine wpList_spread_y _ rfl (.tmp 24) (.tmp 27) rfl w1.heap.size _ ([e.kind] ++ numBytes e.who) (numBytes e.n) _ _ rfl rfl HO8.out HV8.out (by simp; omega) (by omega) ?_; intro v9 w9 hown9 hb9 hg9; have HO9 := Lib.hid hown9; have hB9 := hB8.trans hb9; have hz9 := hB9.size; clear hown9 hg9)
          | (at_builtin; refine wpList_append_y _ rfl (.tmp 28) (.tmp 31) rfl w1.heap.size _ ([e.kind] ++ numBytes e.who ++ numBytes e.n) _ w9.heap.size rfl (HO9.out.alloc _) rfl (by simp; rfl) (by simp; omega) (by simp; omega) ?_; intro v10 w10 hown10 hb10; have hB10 := (hB9.alloc (by omega) _).trans hb10; have HO10 := Lib.hid (show OwnsY w10 w1.heap.size v10 (eventHead e) by unfold eventHead; rw [HF.out]; exact hown10); clear hown10))
        have hz10 := hB10.size
        have BC := HB1.out.below hB10 bl
        have hCB := below_of HC1.out hB10
        have g0 := BC.cell 0
        have g5 := BC.cell 5
        have g6 := BC.cell 6
        have g7 := BC.cell 7
        have g8 := BC.cell 8
        have g9 := BC.cell 9
        have g10 := BC.cell 10
        have g11 := BC.cell 11
        simp at g0 g5 g6 g7 g8 g9 g10 g11
        clear BC
        by_cases hk4 : e.kind = 4
        · have hk4' : (e.kind == 4) = true := by simp [hk4]
          have HK4 := Lib.hid hk4
          clear hk4
          go_wp2_with fail
          refine (HTB.out _ hCB).mono ?_
          rintro r11 w11 ⟨v11, rfl, hv11, hb11⟩
          have hz11 := hb11.size
          have HO11 := Lib.hid (HO10.out.below hb11 (Nat.le_refl _))
          have HV11 := Lib.hid hv11.o.sl
          have hB11 := below_of hB10 hb11
          obtain ⟨V11, cp11, rfl, -⟩ := own_form hv11.o
          clear hv11 hb11 g0 g5 g6 g7 g8 g9 g10 g11
          go_wp2_with (at_builtin; refine wpList_spread_y _ rfl (.tmp 36) (.tmp 39) rfl w1.heap.size _ (eventHead e) T _ _ rfl rfl HO11.out HV11.out (by have := HHL.out; have := HTL.out; omega) (by omega) ?_; intro v' w12 hown12 hb12 hg12)
          go_ret
          refine ⟨_, rfl, ?_, below_of HC1.out (hB11.trans hb12)⟩
          rw [HE.out, if_pos (by trivial), if_pos HK4.out]
          exact hown12.lower hz1
        · have hk4' : (e.kind == 4) = false := by simp [hk4]
          have HK4 := Lib.hid hk4
          clear hk4
          go_wp2_with fail
          go_ret
          refine ⟨_, rfl, ?_, hCB⟩
          rw [HE.out, if_pos (by trivial), if_neg HK4.out, List.append_nil]
          exact HO10.out.lower hz1
end Go.Proofs.YtcngiinaneefjaaDoor

namespace Go.Proofs.YtcngiinaneefjaaDoor
open Go.ChangeShapes Go.WideShapes Go.ChangeAt Go.RowKit Go.Joins

theorem Tryd.errG : Tryd.prog.globalNamed "loop.example/g00718/impl.errRange" = some 3 := by kernel_rfl
theorem Tryd.errT : (Tryd.prog.globals[3]?).map (·.type) = some 114 := by kernel_rfl
theorem Tryd.cellsEs : Tryd.prog.cellsOf 179 = 1 := by kernel_rfl
theorem Tryd.cellsStr : Tryd.prog.cellsOf 9 = 1 := by kernel_rfl
theorem Tryd.star : "*" ++ "errors.errorString" = "*errors.errorString" := by decide
theorem Tryd.rowPtr : ∀ u, Tryd.prog.typeName? 3 u = some "*errors.errorString" → u = 153 := fun u h =>
  typeName_ptr_named (nm := "errors.errorString") (by rw [Tryd.star]; kernel_rfl) (by kernel_rfl) (by decide) u (by rw [Tryd.star]; exact h)
theorem errAt_of_laid {r : List (String × DataW Unit)} {W : World} (h : laidMet Tryd.prog (("loop.example/g00718/impl.errRange", Rows.laid_loop_example_g00718_impl_errRange) :: r) W) : ∃ a, ErrAt a W := by
  obtain ⟨a, s, hv, _⟩ := laid_sentinel h Tryd.errG Tryd.errT Tryd.underlying114 Tryd.rowPtr Tryd.underlying153 Tryd.underlying179 rfl rfl Tryd.underlying9 Tryd.cellsEs Tryd.cellsStr
  exact ⟨a, by simpa [ErrAt] using World.var?_cell Tryd.errG hv 0⟩

theorem errVars : ∀ n ∈ ["loop.example/g00718/impl.errRange"], ∃ g t ms, Tryd.prog.globalNamed n = some g ∧ (Tryd.prog.globals[g]?).map (·.type) = some t ∧ Tryd.prog.underlying t = some (.interface ms) := fun n hn => by
  obtain rfl := List.mem_singleton.1 hn
  exact ⟨_, _, _, Tryd.errG, Tryd.errT, Tryd.underlying114⟩
end Go.Proofs.YtcngiinaneefjaaDoor
