/- The frame of every law: a call that answers true and has turned nothing that was there leaves what its row asks. The closed facts that every row asks of the program. Words for memory that every seat shares: what a call that makes memory leaves; a block that is known whole. Labels in plain Lean: what chapter 2's functions compute. Slices of labels; the contract of readLabs. The model's cursor over a code: what its draws may answer, and what they leave as it was. A code, opened: the bytes of a []byte argument. The model's cursor: raw; its making; big. DrawNumBytes draws some integer. The laws' helpers over slices of labels: toLab, toLabS, eqLab, eqLabS, szLabS. Slices of integers: toIntS, eqIntS; taints as labels with the Val 0. Slices of bytes: toByteS, eqByteS. (mkbyt.py) Amounts in plain Lean: what chapter 1's functions compute. Tasks, nodes, bindings and clusters in plain Lean: what chapter 3's functions compute. Slices of tasks, nodes and bindings, and what they read as. -/
import Derived.Carry
import Derived.WalkSmall
import Derived.OpenShut
import Derived.ProofKit
import Derived.Stop.LaidErr
import Derived.Test.YtcngiinaneefjaaRows
import Derived.Test.YtcngiinaneefjaaChecked
import Derived.Deep.DeepHandedRow
import Derived.Deep.DeepWitnessRowRef
import Derived.Lib.SmallJoins
import Derived.LaidMore
import Derived.WalkKit
import Derived.Deep.DeepCutAuto
import Derived.Lib.Hide
import Derived.Laws.MakeOwn
import Derived.Deep.QuietTactic
import Derived.BigQuiet
import Derived.DeepKeys
import Derived.Laws.StructEq
import Derived.Deep.Slices
import Derived.Deep.Fields
import Derived.ChangeSame
import Derived.Deep.RegionHeld3
namespace Go.Proofs.Ytcngiinaneefjaa
open Go.ChangeShapes Go.WideShapes Go.ChangeAt Go.RowKit

section
variable {H : Type} {enc : TypeId × Value → H} {P : Program}

theorem trodAll_below (hl : laidOutB P = true) {W W' : World} (hb : Below W.heap.size W W') :
    ∀ {ts : List TypeId} {vs : List Value} {ds : List (DataW H)} {ps : List MemPlace}, (∀ t ∈ ts, P.readableRec t = true ∧ t < P.types.size) →
      DataW.TrodAll enc P W 0 (fun _ => true) true ts vs ds ps → (∀ x ∈ ps, x.block < W.heap.size) → DataW.TrodAll enc P W' 0 (fun b => decide (b < W.heap.size)) true ts vs ds ps
  | [], [], [], _, _, h, _ => h
  | _ :: _, _ :: _, _ :: _, _, hts, ⟨p, q, h1, h2, e⟩, hlt => by
    subst e
    refine ⟨p, q, h1.elim fun fuel hf => ?_, trodAll_below hl hb (fun t ht => hts t (List.mem_cons.2 (Or.inr ht))) h2 (fun x hx => hlt x (List.mem_append_right _ hx)), rfl⟩
    exact Below.trod hl (hts _ (List.mem_cons.2 (Or.inl rfl))).1 (hts _ (List.mem_cons.2 (Or.inl rfl))).2 ⟨fuel, hf⟩ hb (fun x hx => hlt x (List.mem_append_left _ hx))

theorem trodVars_below {W W' : World} (hb : Below W.heap.size W W') :
    ∀ {ns : List String} {gs : List (DataW H)} {ps : List MemPlace}, (∀ n ∈ ns, ∃ g t ms, P.globalNamed n = some g ∧ (P.globals[g]?).map (·.type) = some t ∧ P.underlying t = some (.interface ms)) →
      DataW.TrodVars enc P W (fun _ => true) ns gs ps → ∃ ps', DataW.TrodVars enc P W' (fun b => decide (b < W.heap.size)) ns gs ps'
  | [], [], _, _, _ => ⟨[], rfl⟩
  | n :: ns, _ :: _, _, hns, ⟨g, t, cs, fuel, p, q, h1, h2, h3, h4, h5, _⟩ => by
    obtain ⟨q', hq⟩ := trodVars_below hb (fun m hm => hns m (List.mem_cons.2 (Or.inr hm))) h5
    obtain ⟨g', t', ms, e1, e2, e3⟩ := hns n (List.mem_cons.2 (Or.inl rfl))
    obtain rfl := Option.some.inj (h1.symm.trans e1)
    obtain rfl := Option.some.inj (h2.symm.trans e2)
    obtain ⟨x, rfl, ix, rfl, rfl, hc⟩ := token_of h1 e3 h3 h4
    have hg : g < W.heap.size := by
      rcases Nat.lt_or_ge g W.heap.size with h' | h'
      · exact h'
      · simp [World.cell?, Array.getElem?_eq_none h'] at hc
    exact ⟨_, g, t, #[x], 1, [], q', h1, h2, var?_below hb h1 hg h3, trod_held e3 ix 0, hq, rfl⟩

theorem law_post {f : Func} {s : ChangeSpec} {apart fresh handsOn : Bool} {W W' : World} {args : Array Value} {ds gs : List (DataW H)} {before : List MemPlace} {tb : TypeId}
    (hl : laidOutB P = true) (hts : ∀ t ∈ f.params.toList, P.readableRec t = true ∧ t < P.types.size)
    (hns : ∀ n ∈ s.vars, ∃ g t ms, P.globalNamed n = some g ∧ (P.globals[g]?).map (·.type) = some t ∧ P.underlying t = some (.interface ms))
    (hr : f.resultTypes = #[tb]) (hu : P.underlying tb = some .bool)
    (hW : DataW.Whole enc P f.params.toList s.vars apart W args.toList ds gs before)
    (hfn : s.fn H (ds ++ gs) = { results := [.lit (.bool true)], args := ds, vars := gs })
    (hb : Below W.heap.size W W') : s.post enc P f apart fresh handsOn false W args (.bool true) W' := by
  have hlt := hW.lt
  obtain ⟨p, q, hA, hV, rfl, hfz, hnd⟩ := id hW
  obtain ⟨q', hV'⟩ := trodVars_below hb hns hV
  have hA' := trodAll_below hl hb hts hA (fun x hx => hlt x (List.mem_append_left _ hx))
  refine ⟨ds, gs, p ++ q, [], p, q', hW, ?_, ?_, ?_, hb.frame _, fun h => by cases h⟩
  · rw [hfn, hr]; exact trodAll_mk1 (shut_bool hu true)
  · rw [hfn]; exact hA'
  · rw [hfn]; exact hV'
end
end Go.Proofs.Ytcngiinaneefjaa

namespace Go.Proofs.Ytcngiinaneefjaa
open Go.ChangeShapes Go.WideShapes Go.ChangeAt Go.RowKit Go.Joins

theorem Try.own : ownKnob Try.prog.godebug = none := by kernel_rfl
theorem Try.laidOut : laidOutB Try.prog = true := by kernel_rfl
open Go.ChangeShapes Go.WideShapes Go.ChangeAt Go.RowKit Go.Joins
theorem joined_mk {P : Program} {f : FuncId} {fn : Func} {s : ChangeSpec} {c : OpenClaim} (h0 : (c.wf (OpenSpec.ofChange s)) = true) (h1 : (laidOutB P) = true) (h2 : (mapsRowed P) = true) (h3 : (fn.params.all (P.readableRec ·)) = true) (h4 : (namedTie P c.named s.vars) = true) (h5 : ((c.stops == [])) = true) (h6 : ((P.stops == [])) = true) (h7 : ((c.knobs == [])) = true) (h8 : ((P.stopKnobs == [])) = true) (h9 : ((c.inPlace == P.inPlace f)) = true) (h10 : ((c.unfollowed == P.unfollowed f)) = true) (h11 : ((c.recurses == P.recurses f)) = true) (h12 : ((c.named == P.varsNamed f)) = true) (h13 : ((c.maps == (fn.params.toList ++ s.plain.varTypes P).any (P.mapsRec ·))) = true) (h14 : ((c.ifaces == (fn.params.toList ++ s.plain.varTypes P).any (P.ifacesRec ·))) = true) (h15 : ((c.mapsOut == P.mapsAmong fn.resultTypes.toList)) = true) (h16 : ((c.loops == (fn.params.toList ++ s.plain.varTypes P).any (P.loopsFrom ·))) = true) (h17 : ((c.wideKeys == (fn.params.toList ++ s.plain.varTypes P ++ fn.resultTypes.toList).any (P.wideKeysFrom ·))) = true) (h18 : (s.vars.all (P.varReadable ·)) = true) (h19 : (fn.resultTypes.all (fun t => P.readableRec t && decide (t < P.types.size))) = true) (h20 : ((c.ifacesOut == fn.resultTypes.toList.any (P.ifacesRec ·))) = true) (h21 : ((c.loopsOut == fn.resultTypes.toList.any (P.loopsFrom ·))) = true) (h22 : ((c.plainKeys == P.plainKeys)) = true) (h23 : (c.shortTexts.isNone) = true) (h24 : (P.stopsHeard) = true) (h25 : (P.mayEnter) = true) (h26 : ((c.lifted == P.liftsFinal)) = true) (h27 : ((P.make == some c.make)) = true) (h28 : ((c.kinds == (if c.domain.isEmpty then [] else fn.params.toList.map fun t => match P.underlying t with | some (.int k) => some k | _ => none))) = true) (h29 : ((c.pinned == c.pinnedBy)) = true) (h30 : ((c.veiled == (fn.params.toList ++ s.plain.varTypes P ++ fn.resultTypes.toList).any (P.veiledRec ·))) = true) (h31 : (c.veiledFits P fn.params.toList (fn.params.toList ++ s.plain.varTypes P ++ fn.resultTypes.toList)) = true) : joinedFacts P f fn s c = true := by
  simp only [joinedFacts, Bool.and_eq_true]
  exact ⟨⟨⟨⟨⟨⟨⟨⟨⟨⟨⟨⟨⟨⟨⟨⟨⟨⟨⟨⟨⟨⟨⟨⟨⟨⟨⟨⟨⟨⟨⟨h0, h1⟩, h2⟩, h3⟩, h4⟩, h5⟩, h6⟩, h7⟩, h8⟩, h9⟩, h10⟩, h11⟩, h12⟩, h13⟩, h14⟩, h15⟩, h16⟩, h17⟩, h18⟩, h19⟩, h20⟩, h21⟩, h22⟩, h23⟩, h24⟩, h25⟩, h26⟩, h27⟩, h28⟩, h29⟩, h30⟩, h31⟩
theorem pRowed : mapsRowed Try.prog = true := by kernel_rfl
theorem pStops : (Try.prog.stops == []) = true := by kernel_rfl
theorem pKnobs : (Try.prog.stopKnobs == []) = true := by kernel_rfl
theorem pKeys : (Rows.fnNumBackRow.plainKeys == Try.prog.plainKeys) = true := by kernel_rfl
theorem pHeard : Try.prog.stopsHeard = true := by kernel_rfl
theorem pEnter : Try.prog.mayEnter = true := by kernel_rfl
theorem pLifts : (Rows.fnNumBackRow.lifted == Try.prog.liftsFinal) = true := by kernel_rfl
theorem pMake : (Try.prog.make == some Rows.fnNumBackRow.make) = true := by kernel_rfl
end Go.Proofs.Ytcngiinaneefjaa

namespace Go.Proofs.Ytcngiinaneefjaa
open Go.RowKit

theorem below_step {B C : Nat} {a w w1 : World} (hb : Below C w w1) (h : Below B a w) (hBC : B ≤ C) : Below B a w1 := h.trans (hb.mono hBC)
theorem below_of {a w w1 : World} (h : Below a.heap.size a w) (hb : Below w.heap.size w w1) : Below a.heap.size a w1 := h.trans (hb.mono h.size)
theorem below_drewN {B : Nat} {a w : World} (h : Below B a w) (n : Nat) : Below B a (w.drewN n) := h.trans ⟨rfl, rfl, rfl, Nat.le_refl _, fun _ _ => rfl⟩
def BlockIs (w : World) (g : Nat) (t : TypeId) (cs : Array Value) : Prop := w.heap[g]? = some (.cells cs t (0, 0))
section
variable {w w' : World} {g : Nat} {t : TypeId} {cs : Array Value}
theorem BlockIs.lt (h : BlockIs w g t cs) : g < w.heap.size := by
  rcases Nat.lt_or_ge g w.heap.size with h' | h'
  · exact h'
  · unfold BlockIs at h; rw [Array.getElem?_eq_none h'] at h; cases h
theorem BlockIs.cell (h : BlockIs w g t cs) (o : Nat) : w.cell? ⟨g, o, none⟩ = cs[o]? := by
  unfold BlockIs at h; simp [World.cell?, h]
theorem BlockIs.frozen (h : BlockIs w g t cs) (o : Nat) : w.frozen? ⟨g, o, none⟩ = false := by
  unfold BlockIs at h; simp [World.frozen?, h]
theorem BlockIs.new (w : World) (t : TypeId) (cs : Array Value) : BlockIs (w.alloc (.cells cs t)) w.heap.size t cs := by
  show (w.heap.push _)[w.heap.size]? = _
  simp
theorem BlockIs.new' {w : World} {g : Nat} {t : TypeId} {cs : Array Value} (h : g = w.heap.size) : BlockIs (w.alloc (.cells cs t)) g t cs := h ▸ BlockIs.new w t cs
theorem BlockIs.below {B : Nat} (h : BlockIs w g t cs) (hb : Below B w w') (hg : g < B) : BlockIs w' g t cs := (hb.block g hg).trans h
theorem BlockIs.alloc (h : BlockIs w g t cs) (o : Obj) : BlockIs (w.alloc o) g t cs := h.below ((Below.refl _ _).alloc (Nat.le_refl _) o) h.lt
theorem BlockIs.put (h : BlockIs w g t cs) (o : Nat) (u : Value) : BlockIs (w.setCell ⟨g, o, none⟩ u) g t (cs.setIfInBounds o u) := by
  unfold BlockIs at h ⊢
  simp [World.setCell, Array.getElem?_modify, h]
theorem BlockIs.drew (h : BlockIs w g t cs) : BlockIs w.drew g t cs := h
theorem BlockIs.drewN (h : BlockIs w g t cs) (k : Nat) : BlockIs (w.drewN k) g t cs := h
end
end Go.Proofs.Ytcngiinaneefjaa

namespace Go.Proofs.Ytcngiinaneefjaa

structure LV where
  k : Int
  v : Int
def LV.ok (l : LV) : Bool := decide (0 ≤ l.k ∧ l.k ≤ 9 ∧ 0 ≤ l.v ∧ l.v ≤ 9)
def labsFrom : Int → List LV → Bool
  | _, [] => true
  | p, l :: r => (l.ok && decide (p < l.k)) && labsFrom l.k r
def labsOk (l : List LV) : Bool := decide (l.length ≤ 6) && labsFrom (-1) l
def tl (t : List Int) : List LV := t.map fun z => ⟨z, 0⟩
end Go.Proofs.Ytcngiinaneefjaa

namespace Go.Proofs.Ytcngiinaneefjaa
open Go.RowKit

def LabAt (w : World) (b off : Nat) (l : List LV) : Prop :=
  ∀ i r, l[i]? = some r → w.cell? ⟨b, off + i * 2, none⟩ = some (.int .i64 r.k) ∧ w.cell? ⟨b, off + i * 2 + 1, none⟩ = some (.int .i64 r.v)
def LabSl (w : World) (v : Value) (l : List LV) : Prop := (l = [] ∧ ∃ A c, v = .slice A 0 c) ∨ ∃ b off c, v = .slice (some ⟨b, off, none⟩) l.length c ∧ b < w.heap.size ∧ LabAt w b off l
theorem LabAt.below {w w' : World} {b off B : Nat} {l : List LV} (h : LabAt w b off l) (hb : Below B w w') (hB : b < B) : LabAt w' b off l := fun i r hr => by
  obtain ⟨h1, h2⟩ := h i r hr
  exact ⟨(hb.cell (p := ⟨b, _, none⟩) hB).trans h1, (hb.cell (p := ⟨b, _, none⟩) hB).trans h2⟩
theorem LabSl.below {w w' : World} {v : Value} {l : List LV} (h : LabSl w v l) (hb : Below w.heap.size w w') : LabSl w' v l := by
  rcases h with h | ⟨b, off, c, rfl, hlt, h⟩
  · exact .inl h
  · exact .inr ⟨b, off, c, rfl, Nat.lt_of_lt_of_le hlt hb.size, h.below hb hlt⟩
theorem LabSl.form {w : World} {v : Value} {l : List LV} (h : LabSl w v l) : ∃ A c, v = .slice A l.length c ∧ (0 < l.length → ∃ b off, A = some ⟨b, off, none⟩ ∧ b < w.heap.size ∧ LabAt w b off l) := by
  rcases h with ⟨rfl, A, c, rfl⟩ | ⟨b, off, c, rfl, hlt, h⟩
  · exact ⟨A, c, rfl, fun h => absurd h (by simp)⟩
  · exact ⟨_, c, rfl, fun _ => ⟨b, off, rfl, hlt, h⟩⟩
end Go.Proofs.Ytcngiinaneefjaa

namespace Go.Proofs.Ytcngiinaneefjaa
open Go.RowKit

structure But (g : Nat) (w w' : World) : Prop where
  os : w'.os = w.os
  tape : w'.tape = w.tape
  output : w'.output = w.output
  size : w.heap.size ≤ w'.heap.size
  block : ∀ k, k < w.heap.size → k ≠ g → w'.heap[k]? = w.heap[k]?
section
variable {g B : Nat} {w w' w'' : World}
theorem But.refl (g : Nat) (w : World) : But g w w := ⟨rfl, rfl, rfl, Nat.le_refl _, fun _ _ _ => rfl⟩
theorem But.trans (h : But g w w') (h' : But g w' w'') : But g w w'' :=
  ⟨h'.os.trans h.os, h'.tape.trans h.tape, h'.output.trans h.output, Nat.le_trans h.size h'.size, fun k hk hg => (h'.block k (Nat.lt_of_lt_of_le hk h.size) hg).trans (h.block k hk hg)⟩
theorem But.of_below (h : Below w'.heap.size w' w'') (h0 : But g w w') : But g w w'' := h0.trans ⟨h.os, h.tape, h.output, h.size, fun k hk _ => h.block k hk⟩
theorem But.drew (h : But g w w') : But g w w'.drew := h.trans ⟨rfl, rfl, rfl, Nat.le_refl _, fun _ _ _ => rfl⟩
theorem But.drewN (h : But g w w') (n : Nat) : But g w (w'.drewN n) := h.trans ⟨rfl, rfl, rfl, Nat.le_refl _, fun _ _ _ => rfl⟩
theorem But.alloc (h : But g w w') (o : Obj) : But g w (w'.alloc o) := But.of_below ((Below.refl _ _).alloc (Nat.le_refl _) o) h
theorem But.put (h : But g w w') (o : Nat) (u : Value) : But g w (w'.setCell ⟨g, o, none⟩ u) :=
  h.trans ⟨rfl, rfl, rfl, by simp [World.setCell], fun k _ hg => Below.heap_setCell _ _ _ _ hg⟩
theorem But.below (h : But g w w') (hB : B ≤ w.heap.size) (hg : B ≤ g) : Below B w w' := ⟨h.os, h.tape, h.output, h.size, fun k hk => h.block k (by omega) (by omega)⟩
theorem But.cell (h : But g w w') {b : Nat} (o : Nat) (hb : b < w.heap.size) (hg : b ≠ g) : w'.cell? ⟨b, o, none⟩ = w.cell? ⟨b, o, none⟩ := World.cell?_of_block (w := w) (h.block b hb hg)
theorem But.frozen (h : But g w w') {b : Nat} (o : Nat) (hb : b < w.heap.size) (hg : b ≠ g) : w'.frozen? ⟨b, o, none⟩ = w.frozen? ⟨b, o, none⟩ := World.frozen?_of_block (w := w) (h.block b hb hg)
end

def CodeAt (w : World) (A : Option Addr) (n : Nat) : Prop := 0 < n → ∃ b off, A = some ⟨b, off, none⟩ ∧ b < w.heap.size ∧ ∀ i, i < n → ∃ z : Int, 0 ≤ z ∧ z ≤ 255 ∧ w.cell? ⟨b, off + i, none⟩ = some (.int .u8 z)
theorem CodeAt.below {w w' : World} {A : Option Addr} {n : Nat} (h : CodeAt w A n) (hb : Below w.heap.size w w') : CodeAt w' A n := fun hn => by
  obtain ⟨b, off, rfl, hlt, hc⟩ := h hn
  exact ⟨b, off, rfl, Nat.lt_of_lt_of_le hlt hb.size, fun i hi => by
    obtain ⟨z, h0, h1, h2⟩ := hc i hi
    exact ⟨z, h0, h1, (hb.cell (p := ⟨b, _, none⟩) hlt).trans h2⟩⟩
def CurAt (g G : Nat) (A : Option Addr) (n c m : Nat) (w : World) : Prop := ∃ at_ seed : Int, BlockIs w g 47 #[.slice A n c, .int .i64 at_, .int .i64 seed] ∧ 0 ≤ at_ ∧ at_ ≤ m ∧ 0 ≤ seed ∧ seed ≤ 1000000 ∧
  (0 < n → ∃ b off, A = some ⟨b, off, none⟩ ∧ b < G ∧ ∀ i, i < n → ∃ z : Int, 0 ≤ z ∧ z ≤ 255 ∧ w.cell? ⟨b, off + i, none⟩ = some (.int .u8 z))
theorem CurAt.lt {g G : Nat} {A : Option Addr} {n c m : Nat} {w : World} (h : CurAt g G A n c m w) : g < w.heap.size := by
  obtain ⟨_, _, hb, _⟩ := h; exact hb.lt
def Drawn (P : Int → Prop) (g G : Nat) (A : Option Addr) (n c m : Nat) (w : World) (e : Ending) (w' : World) : Prop := ∃ z : Int, P z ∧ e = .returned (.int .i64 z) ∧ But g w w' ∧ CurAt g G A n c m w'

theorem CurAt.step {g G : Nat} {A : Option Addr} {n c m : Nat} {w w' : World} {at_ seed : Int} (hG : G ≤ g) (hg : g < w.heap.size) (hbut : But g w w') (hblk : BlockIs w' g 47 #[.slice A n c, .int .i64 at_, .int .i64 seed]) (h0 : 0 ≤ at_) (h1 : at_ ≤ m) (h2 : 0 ≤ seed) (h3 : seed ≤ 1000000)
    (hcode : 0 < n → ∃ b off, A = some ⟨b, off, none⟩ ∧ b < G ∧ ∀ i, i < n → ∃ z : Int, 0 ≤ z ∧ z ≤ 255 ∧ w.cell? ⟨b, off + i, none⟩ = some (.int .u8 z)) : CurAt g G A n c m w' :=
  ⟨at_, seed, hblk, h0, h1, h2, h3, fun hn => by
    obtain ⟨b, off, rfl, hb, hc⟩ := hcode hn
    exact ⟨b, off, rfl, hb, fun i hi => by
      obtain ⟨z, z0, z1, hz⟩ := hc i hi
      exact ⟨z, z0, z1, (hbut.cell _ (by omega) (by omega)).trans hz⟩⟩⟩
theorem mod_in {x k : Int} (hk : 2 ≤ k) : 0 ≤ x % k ∧ x % k < k := ⟨Int.emod_nonneg _ (by omega), Int.emod_lt_of_pos _ (by omega)⟩

set_option maxHeartbeats 1600000 in
theorem pick_any (g G : Nat) (A : Option Addr) (n c m : Nat) (k : Int) (w : World) (hG : G ≤ g) (hn : n ≤ 1048576) (hm : m ≤ 1000000000) (hk2 : 2 ≤ k) (hk : k ≤ 1000000) (h : CurAt g G A n c m w) :
    Calls Try.prog 18 #[.pointer (some ⟨g, 0, none⟩), .int .i64 k] w (Drawn (fun z => 0 ≤ z ∧ z < k) g G A n c (m + 1) w) := by
  obtain ⟨at_, seed, hblk, ha0, ham, hs0, hs1, hcode⟩ := h
  have c0 := hblk.cell 0
  have c1 := hblk.cell 1
  have c2 := hblk.cell 2
  have cf := hblk.frozen
  have hgl := hblk.lt
  simp at c0 c1 c2
  have HB := Lib.hid hblk
  clear hblk
  have HCD := Lib.hid hcode
  clear hcode
  by_cases hlt : at_ < n
  · obtain ⟨b, off, rfl, hbG, hc⟩ := HCD.out (by omega)
    obtain ⟨z, z0, z1, hz⟩ := hc at_.toNat (by omega)
    clear hc
    go_enter Try.func18, Try.ntmps18
    go_wp2_with fail
    go_quiet (fail)
    go_wp2_with fail
    go_quiet (fail)
    go_wp2_with fail
    go_ret
    refine ⟨z % k, mod_in hk2, rfl, ((But.refl g w).drewN _).put 1 _, ?_⟩
    exact CurAt.step (at_ := at_ + 1) (seed := seed) hG hgl (((But.refl g w).drewN _).put 1 _) (by simpa using (HB.out.drewN _).put 1 (.int .i64 (at_ + 1))) (by omega) (by omega) hs0 hs1 HCD.out
  · have hsb : 0 ≤ (seed * 1103 + 12345) % 65521 ∧ (seed * 1103 + 12345) % 65521 ≤ 65520 := by omega
    obtain ⟨b0, b1⟩ := hsb
    have HSB := Lib.hid (And.intro b0 b1)
    by_cases hn0 : n = 0
    · subst hn0
      clear b0 b1
      go_enter Try.func18, Try.ntmps18
      go_wp2_with fail
      go_quiet (fail)
      go_wp2_with fail
      go_ret
      refine ⟨_, ⟨?_, ?_⟩, rfl, (((But.refl g w).drewN _).put 2 _).put 1 _, ?_⟩
      · exact Int.le_refl _
      · omega
      · exact CurAt.step (at_ := at_ + 1) (seed := (seed * 1103 + 12345) % 65521) hG hgl ((((But.refl g w).drewN _).put 2 _).put 1 _) (by simpa using ((HB.out.drewN _).put 2 (.int .i64 ((seed * 1103 + 12345) % 65521))).put 1 (.int .i64 (at_ + 1))) (by omega) (by omega) HSB.out.1 (by have := HSB.out.2; omega) HCD.out
    · obtain ⟨b, off, rfl, hbG, hc⟩ := HCD.out (by omega)
      have hmb : 0 ≤ at_ % n ∧ at_ % n < n := ⟨Int.emod_nonneg _ (by omega), Int.emod_lt_of_pos _ (by omega)⟩
      obtain ⟨d0, d1⟩ := hmb
      obtain ⟨z, z0, z1, hz⟩ := hc (at_ % n).toNat (by omega)
      have hbg : b ≠ g := by omega
      have hn1 : (0 : Int) < (n : Int) := by omega
      clear hc hn0
      go_enter Try.func18, Try.ntmps18
      go_wp2_with fail
      go_quiet (fail)
      go_wp2_with fail
      go_quiet (fail)
      go_wp2_with fail
      go_ret
      refine ⟨_, mod_in hk2, rfl, ((((But.refl g w).drewN _).put 2 _).drewN _).put 1 _, ?_⟩
      exact CurAt.step (at_ := at_ + 1) (seed := (seed * 1103 + 12345) % 65521) hG hgl (((((But.refl g w).drewN _).put 2 _).drewN _).put 1 _) (by simpa using (((HB.out.drewN _).put 2 (.int .i64 ((seed * 1103 + 12345) % 65521))).drewN _).put 1 (.int .i64 (at_ + 1))) (by omega) (by omega) HSB.out.1 (by have := HSB.out.2; omega) HCD.out
end Go.Proofs.Ytcngiinaneefjaa

namespace Go.Proofs.Ytcngiinaneefjaa
open Go.ChangeShapes Go.WideShapes Go.ChangeAt Go.RowKit Go.Joins

set_option maxRecDepth 100000 in
theorem open_code {H : Type} {enc : TypeId × Value → H} {W : World} {base : Nat} {v : Value} {d : DataW H} {p : List MemPlace} (hv : Value.okWide Try.prog W .any base 22 v) (h : DataW.Trod enc Try.prog W 0 (fun _ => true) true 22 v d p) :
    ∃ A n c, v = .slice A n c ∧ n ≤ maxLen ∧ n ≤ c ∧ CodeAt W A n := by
  have cb : Try.prog.cellsOf 5 = 1 := by kernel_rfl
  obtain ⟨A, n, c, rfl⟩ := okWide_slice Try.underlying22 hv
  obtain ⟨fuel, hf⟩ := h
  rcases open_ints Try.underlying22 Try.underlying5 cb hf with ⟨hcs, hx⟩ | ⟨a, len', cap', zs, hcs, _, hl, hm, hz, hx, hcell, hwz⟩
  · simp [Value.cells] at hcs
    obtain ⟨rfl, rfl, rfl⟩ := hcs
    exact ⟨none, 0, 0, rfl, by unfold maxLen; omega, Nat.le_refl _, fun h => absurd h (by omega)⟩
  · simp [Value.cells] at hcs
    obtain ⟨rfl, rfl, rfl⟩ := hcs
    refine ⟨_, n, c, rfl, by omega, hl, fun hn => ?_⟩
    rw [if_pos rfl] at hz
    obtain ⟨b, off, rfl, hc⟩ := ints_at hcell (by omega)
    refine ⟨b, off, rfl, by simpa using World.block_lt_of_cell? _ _ (hc 0 (by omega)), fun i hi => ?_⟩
    have hm : zs.getD i 0 ∈ zs := by
      have hi' : i < zs.length := by omega
      simp [List.getD, hi']
    exact ⟨zs.getD i 0, (bounds_u8 (hwz _ hm)).1, (bounds_u8 (hwz _ hm)).2, hc i (by omega)⟩
end Go.Proofs.Ytcngiinaneefjaa

namespace Go.Proofs.Ytcngiinaneefjaa
open Go.RowKit

theorem CurAt.but_alloc {g G : Nat} {A : Option Addr} {n c m : Nat} {w : World} (hG : G ≤ g) (h : CurAt g G A n c m w) (o : Obj) : CurAt g G A n c m (w.alloc o) := by
  obtain ⟨a, s, hb, h0, h1, h2, h3, h4⟩ := h
  exact CurAt.step hG hb.lt ((But.refl g w).alloc o) (hb.alloc o) h0 h1 h2 h3 h4

theorem BlockIs.but {w w' : World} {b g : Nat} {t : TypeId} {cs : Array Value} (h : BlockIs w b t cs) (hb : But g w w') (hne : b ≠ g) : BlockIs w' b t cs := (hb.block b h.lt hne).trans h
theorem eight (x0 x1 x2 x3 x4 x5 x6 x7 : Int) (t : TypeId) (w w' : World) (hb : w'.heap[w.heap.size]? = some (.cells #[.int .i64 x0, .int .i64 x1, .int .i64 x2, .int .i64 x3, .int .i64 x4, .int .i64 x5, .int .i64 x6, .int .i64 x7] t (0, 0))) (z : Int) (h0 : 0 ≤ z) (h1 : z < 8) :
    ∃ v : Int, w'.cell? ⟨w.heap.size, z.toNat, none⟩ = some (.int .i64 v) := by
  have : z.toNat < 8 := by omega
  generalize z.toNat = i at this
  simp only [World.cell?, hb]
  match i, this with
  | 0, _ => exact ⟨x0, rfl⟩
  | 1, _ => exact ⟨x1, rfl⟩
  | 2, _ => exact ⟨x2, rfl⟩
  | 3, _ => exact ⟨x3, rfl⟩
  | 4, _ => exact ⟨x4, rfl⟩
  | 5, _ => exact ⟨x5, rfl⟩
  | 6, _ => exact ⟨x6, rfl⟩
  | 7, _ => exact ⟨x7, rfl⟩

set_option maxHeartbeats 1600000 in
theorem raw_any (g G : Nat) (A : Option Addr) (n c m : Nat) (w : World) (hG : G ≤ g) (hn : n ≤ 1048576) (hm : m + 2 ≤ 1000000000) (h : CurAt g G A n c m w) :
    Calls Try.prog 17 #[.pointer (some ⟨g, 0, none⟩)] w (Drawn (fun _ => True) g G A n c (m + 2) w) := by
  go_enter Try.func17, Try.ntmps17
  go_wp2_with fail
  refine (pick_any g G A n c m 8 _ hG hn (by omega) (by omega) (by omega) h).mono ?_
  rintro e w1 ⟨z, ⟨z0, z1⟩, rfl, hb1, hc1⟩
  by_cases e0 : z = 0
  · subst e0
    go_wp2_with fail
    refine (pick_any g G A n c (m + 1) 256 _ hG hn (by omega) (by omega) (by omega) hc1).mono ?_
    rintro e w2 ⟨y, ⟨y0, y1⟩, rfl, hb2, hc2⟩
    go_wp2_with fail
    go_ret
    exact ⟨_, trivial, rfl, hb1.trans hb2, hc2⟩
  · by_cases e1 : z = 1
    · subst e1
      go_wp2_with fail
      refine (pick_any g G A n c (m + 1) 8 _ hG hn (by omega) (by omega) (by omega) (hc1.but_alloc hG _)).mono ?_
      rintro e w2 ⟨y, ⟨y0, y1⟩, rfl, hb2, hc2⟩
      have hg1 := hc1.lt
      obtain ⟨v, hv⟩ := eight _ _ _ _ _ _ _ _ 3 w1 w2 ((BlockIs.new _ _ _).but hb2 (by omega)) y y0 y1
      go_wp2_with fail
      go_ret
      exact ⟨_, trivial, rfl, (hb1.alloc _).trans hb2, hc2⟩
    · have f0 : (z == 0) = false := by simp [e0]
      have f1 : (z == 1) = false := by simp [e1]
      clear e0 e1
      go_wp2_with fail
      refine (pick_any g G A n c (m + 1) 14 _ hG hn (by omega) (by omega) (by omega) hc1).mono ?_
      rintro e w2 ⟨y, ⟨y0, y1⟩, rfl, hb2, hc2⟩
      go_wp2_with fail
      go_ret
      exact ⟨_, trivial, rfl, hb1.trans hb2, hc2⟩

theorem CurAt.more {g G : Nat} {A : Option Addr} {n c m m' : Nat} {w : World} (h : CurAt g G A n c m w) (hm : m ≤ m') : CurAt g G A n c m' w := by
  obtain ⟨a, s, hb, h0, h1, h2⟩ := h
  exact ⟨a, s, hb, h0, by omega, h2⟩

theorem big_no (A : Option Addr) (n c : Nat) (w : World) (h : n ≤ 1048576) :
    Calls Try.prog 6 #[.slice A n c] w fun e w' => e = .returned (.bool false) ∧ w = w' := by
  have h1 : (n : Int) ≤ 1048576 := by omega
  go_enter Try.func6, Try.ntmps6
  go_wp2
  go_ret
  exact ⟨by simp; omega, rfl⟩
theorem big_yes (A : Option Addr) (n c : Nat) (w : World) (h : 1048576 < n) :
    Calls Try.prog 6 #[.slice A n c] w fun e w' => e = .returned (.bool true) ∧ w = w' := by
  have h1 : (1048576 : Int) < (n : Int) := by omega
  go_enter Try.func6, Try.ntmps6
  go_wp2
  go_ret
  exact ⟨by simp, rfl⟩

theorem l01Open_any (A : Option Addr) (n c : Nat) (w : World) (hn : n ≤ 1048576) (G : Nat) (hG : G ≤ w.heap.size) (hc : 0 < n → ∃ b off, A = some ⟨b, off, none⟩ ∧ b < G ∧ ∀ i, i < n → ∃ z : Int, 0 ≤ z ∧ z ≤ 255 ∧ w.cell? ⟨b, off + i, none⟩ = some (.int .u8 z)) :
    Calls Try.prog 16 #[.slice A n c] w fun e w' => e = .returned (.pointer (some ⟨w.heap.size, 0, none⟩)) ∧ Below w.heap.size w w' ∧ CurAt w.heap.size G A n c 0 w' := by
  have HC := Lib.hid hc
  clear hc
  have h1 : (n : Int) ≤ 1048576 := by omega
  have h0 : (0 : Int) ≤ (n : Int) := by omega
  go_enter Try.func16, Try.ntmps16
  go_wp2
  go_ret
  refine ⟨rfl, (by repeat' (first | exact Below.refl _ _ | refine Below.alloc ?_ ?_ _ | refine Below.setCell ?_ ?_ _ | refine Below.drew ?_ | (apply below_step; assumption) | (simp; done) | (simp; omega) | omega)), 0, 103 + (n : Int) % 1000, BlockIs.new _ _ _, by omega, by omega, by omega, by omega, fun hn => ?_⟩
  obtain ⟨b, off, rfl, hb, hc⟩ := HC.out hn
  refine ⟨b, off, rfl, hb, fun i hi => ?_⟩
  obtain ⟨z, z0, z1, hz⟩ := hc i hi
  exact ⟨z, z0, z1, (World.cell?_alloc_lt _ _ _ (by simp; omega)).trans hz⟩

end Go.Proofs.Ytcngiinaneefjaa

namespace Go.Proofs.Ytcngiinaneefjaa
open Go.RowKit

theorem five (x0 x1 x2 x3 x4 z : Int) (w : World) (b : Nat) (t : TypeId) (h : BlockIs w b t #[.int .i64 x0, .int .i64 x1, .int .i64 x2, .int .i64 x3, .int .i64 x4]) (h0 : 0 ≤ z) (h1 : z < 5) : ∃ y : Int, w.cell? ⟨b, z.toNat, none⟩ = some (.int .i64 y) := by
  have hc := h.cell z.toNat
  have : z = 0 ∨ z = 1 ∨ z = 2 ∨ z = 3 ∨ z = 4 := by omega
  rcases this with rfl | rfl | rfl | rfl | rfl
  · exact ⟨x0, hc⟩
  · exact ⟨x1, hc⟩
  · exact ⟨x2, hc⟩
  · exact ⟨x3, hc⟩
  · exact ⟨x4, hc⟩
set_option maxHeartbeats 1600000 in
theorem drawNum_any (A : Option Addr) (n c : Nat) (w : World) (hn : n ≤ 1048576) (hc : 0 < n → ∃ b off, A = some ⟨b, off, none⟩ ∧ b < w.heap.size ∧ ∀ i, i < n → ∃ z : Int, 0 ≤ z ∧ z ≤ 255 ∧ w.cell? ⟨b, off + i, none⟩ = some (.int .u8 z)) :
    Calls Try.prog 7 #[.slice A n c] w fun e w' => ∃ z : Int, e = .returned (.int .i64 z) ∧ Below w.heap.size w w' := by
  have ho := l01Open_any A n c w hn w.heap.size (Nat.le_refl _) hc
  have HO := Lib.hid ho
  clear ho hc
  go_enter Try.func7, Try.ntmps7
  go_wp2_with fail
  refine HO.out.mono ?_
  rintro e w1 ⟨rfl, hb1, hk1⟩
  have HK1 := Lib.hid hk1
  have hz1 := hk1.lt
  clear hk1
  go_wp2_with fail
  refine (raw_any w.heap.size w.heap.size A n c 0 _ (Nat.le_refl _) hn (by omega) HK1.out).mono ?_
  rintro e w2 ⟨y1, -, rfl, ht2, hk2⟩
  have HK2 := Lib.hid hk2
  have HT2 := Lib.hid ht2
  clear hk2 ht2
  go_wp2_with fail
  refine (pick_any w.heap.size w.heap.size A n c 2 300 _ (Nat.le_refl _) hn (by omega) (by omega) (by omega) HK2.out).mono ?_
  rintro e w3 ⟨y2, ⟨p20, p21⟩, rfl, ht3, hk3⟩
  have HK3 := Lib.hid hk3
  have HT3 := Lib.hid (HT2.out.trans ht3)
  clear hk3 ht3 HK2
  go_wp2_with fail
  refine (pick_any w.heap.size w.heap.size A n c 3 3 _ (Nat.le_refl _) hn (by omega) (by omega) (by omega) HK3.out).mono ?_
  rintro e w4 ⟨y3, ⟨p30, p31⟩, rfl, ht4, hk4⟩
  have HT4 := Lib.hid (HT3.out.trans ht4)
  have hg4 := HT4.out.size
  have HA4 := Lib.hid (HT4.out.alloc (.cells #[.int .i64 y1, .int .i64 y2, .int .i64 4294967295, .int .i64 4294967296, .int .i64 (16383 + y3)] 3))
  have HK4 := Lib.hid (hk4.but_alloc (Nat.le_refl _) (.cells #[.int .i64 y1, .int .i64 y2, .int .i64 4294967295, .int .i64 4294967296, .int .i64 (16383 + y3)] 3))
  clear hk4 ht4 HK3
  go_wp2_with fail
  have hB5 := BlockIs.new w4 3 #[.int .i64 y1, .int .i64 y2, .int .i64 4294967295, .int .i64 4294967296, .int .i64 (16383 + y3)]
  refine (pick_any w.heap.size w.heap.size A n c 4 5 _ (Nat.le_refl _) hn (by omega) (by omega) (by omega) HK4.out).mono ?_
  rintro e w5 ⟨y4, ⟨p40, p41⟩, rfl, ht5, hk5⟩
  have hB5' := hB5.but ht5 (by omega)
  obtain ⟨y, hy⟩ := five _ _ _ _ _ y4 w5 _ _ hB5' p40 p41
  have HT5 := Lib.hid (HA4.out.trans ht5)
  clear hk5 ht5 hB5 hB5'
  go_wp2_with fail
  go_ret
  exact ⟨y, rfl, hb1.trans (HT5.out.below hb1.size (Nat.le_refl _))⟩
end Go.Proofs.Ytcngiinaneefjaa

namespace Go.Proofs.Ytcngiinaneefjaa
open Go.RowKit

def labL (l : List LV) : List Value := l.flatMap fun x => [.int .i64 x.k, .int .i64 x.v]
theorem labL_len (l : List LV) : (labL l).length = l.length * 2 := by
  induction l with
  | nil => rfl
  | cons x r ih => simp [labL] at ih ⊢; omega
theorem labL_cons (x : LV) (r : List LV) : labL (x :: r) = .int .i64 x.k :: .int .i64 x.v :: labL r := rfl
theorem labL_at {l : List LV} {i : Nat} {x : LV} (h : l[i]? = some x) : (labL l)[i * 2]? = some (.int .i64 x.k) ∧ (labL l)[i * 2 + 1]? = some (.int .i64 x.v) := by
  induction l generalizing i with
  | nil => simp at h
  | cons y r ih =>
    cases i with
    | zero => simp at h; subst h; exact ⟨rfl, rfl⟩
    | succ i =>
      simp at h
      have := ih h
      rw [labL_cons, show (i + 1) * 2 = i * 2 + 1 + 1 by omega]
      simpa using this
theorem LabAt.of_block {w : World} {g : Nat} {t : TypeId} {l : List LV} {cs : Array Value} (h : BlockIs w g t cs) (hc : ∀ (j : Nat) (u : Value), (labL l)[j]? = some u → cs[j]? = some u) : LabAt w g 0 l := fun i r hr => by
  obtain ⟨h1, h2⟩ := labL_at hr
  simp only [Nat.zero_add]
  exact ⟨(h.cell _).trans (hc _ _ h1), (h.cell _).trans (hc _ _ h2)⟩
end Go.Proofs.Ytcngiinaneefjaa

namespace Go.Proofs.Ytcngiinaneefjaa
open Go.RowKit

def IntAt (w : World) (b off : Nat) (l : List Int) : Prop := ∀ i r, l[i]? = some r → w.cell? ⟨b, off + i, none⟩ = some (.int .i64 r)
def IntSl (w : World) (v : Value) (l : List Int) : Prop := (l = [] ∧ ∃ A c, v = .slice A 0 c) ∨ ∃ b off c, v = .slice (some ⟨b, off, none⟩) l.length c ∧ b < w.heap.size ∧ IntAt w b off l
theorem IntAt.below {w w' : World} {b off B : Nat} {l : List Int} (h : IntAt w b off l) (hb : Below B w w') (hB : b < B) : IntAt w' b off l := fun i r hr =>
  (hb.cell (p := ⟨b, _, none⟩) hB).trans (h i r hr)
theorem IntSl.below {w w' : World} {v : Value} {l : List Int} (h : IntSl w v l) (hb : Below w.heap.size w w') : IntSl w' v l := by
  rcases h with h | ⟨b, off, c, rfl, hlt, h⟩
  · exact .inl h
  · exact .inr ⟨b, off, c, rfl, Nat.lt_of_lt_of_le hlt hb.size, h.below hb hlt⟩
theorem IntSl.form {w : World} {v : Value} {l : List Int} (h : IntSl w v l) : ∃ A c, v = .slice A l.length c ∧ (0 < l.length → ∃ b off, A = some ⟨b, off, none⟩ ∧ b < w.heap.size ∧ IntAt w b off l) := by
  rcases h with ⟨rfl, A, c, rfl⟩ | ⟨b, off, c, rfl, hlt, h⟩
  · exact ⟨A, c, rfl, fun h => absurd h (by simp)⟩
  · exact ⟨_, c, rfl, fun _ => ⟨b, off, rfl, hlt, h⟩⟩
theorem IntAt.of_block {w : World} {g : Nat} {t : TypeId} {l : List Int} {cs : Array Value} (h : BlockIs w g t cs) (hc : ∀ (j : Nat) (r : Int), l[j]? = some r → cs[j]? = some (.int .i64 r)) : IntAt w g 0 l := fun i r hr => by
  simp only [Nat.zero_add]
  exact (h.cell _).trans (hc _ _ hr)

def CopyInt (w : World) (g : Nat) (l : List Int) (k : Nat) (wr : World) : Prop := ∃ cs : Array Value, BlockIs wr g 3 cs ∧ cs.size = l.length ∧
  (∀ i r, i < k → l[i]? = some r → cs[i]? = some (.int .i64 r)) ∧ Below w.heap.size w wr
theorem CopyInt.put {w : World} {g : Nat} {l : List Int} {k : Nat} {r : Int} {wr : World} {cs : Array Value} (hs : cs.size = l.length) (hr : l[k]? = some r)
    (hc : ∀ i r, i < k → l[i]? = some r → cs[i]? = some (.int .i64 r))
    (hb : BlockIs wr g 3 (cs.setIfInBounds k (.int .i64 r))) (hB : Below w.heap.size w wr) : CopyInt w g l (k + 1) wr := by
  have hk : k < l.length := (List.getElem?_eq_some_iff.1 hr).1
  refine ⟨_, hb, by simp [hs], fun i r' hi hr' => ?_, hB⟩
  by_cases hik : i = k
  · subst hik
    obtain rfl := Option.some.inj (hr.symm.trans hr')
    simp [Array.getElem?_setIfInBounds, hs]; omega
  · rw [Array.getElem?_setIfInBounds_ne (by omega)]; exact hc i r' (by omega) hr'
theorem CopyInt.done {w wr : World} {g : Nat} {l : List Int} (h : CopyInt w g l l.length wr) : IntAt wr g 0 l := by
  obtain ⟨cs, hb, hs, hc, _⟩ := h
  exact IntAt.of_block hb (fun j r hr => hc j r (List.getElem?_eq_some_iff.1 hr).1 hr)

end Go.Proofs.Ytcngiinaneefjaa

namespace Go.Proofs.Ytcngiinaneefjaa
open Go.RowKit

def BytAt (w : World) (b off : Nat) (l : List Int) : Prop := ∀ i r, l[i]? = some r → w.cell? ⟨b, off + i, none⟩ = some (.int .u8 r)
def BytSl (w : World) (v : Value) (l : List Int) : Prop := (l = [] ∧ ∃ A c, v = .slice A 0 c) ∨ ∃ b off c, v = .slice (some ⟨b, off, none⟩) l.length c ∧ b < w.heap.size ∧ BytAt w b off l
theorem BytAt.below {w w' : World} {b off B : Nat} {l : List Int} (h : BytAt w b off l) (hb : Below B w w') (hB : b < B) : BytAt w' b off l := fun i r hr =>
  (hb.cell (p := ⟨b, _, none⟩) hB).trans (h i r hr)
theorem BytSl.below {w w' : World} {v : Value} {l : List Int} (h : BytSl w v l) (hb : Below w.heap.size w w') : BytSl w' v l := by
  rcases h with h | ⟨b, off, c, rfl, hlt, h⟩
  · exact .inl h
  · exact .inr ⟨b, off, c, rfl, Nat.lt_of_lt_of_le hlt hb.size, h.below hb hlt⟩
theorem BytSl.form {w : World} {v : Value} {l : List Int} (h : BytSl w v l) : ∃ A c, v = .slice A l.length c ∧ (0 < l.length → ∃ b off, A = some ⟨b, off, none⟩ ∧ b < w.heap.size ∧ BytAt w b off l) := by
  rcases h with ⟨rfl, A, c, rfl⟩ | ⟨b, off, c, rfl, hlt, h⟩
  · exact ⟨A, c, rfl, fun h => absurd h (by simp)⟩
  · exact ⟨_, c, rfl, fun _ => ⟨b, off, rfl, hlt, h⟩⟩
theorem BytAt.of_block {w : World} {g : Nat} {t : TypeId} {l : List Int} {cs : Array Value} (h : BlockIs w g t cs) (hc : ∀ (j : Nat) (r : Int), l[j]? = some r → cs[j]? = some (.int .u8 r)) : BytAt w g 0 l := fun i r hr => by
  simp only [Nat.zero_add]
  exact (h.cell _).trans (hc _ _ hr)

theorem Try.infoY : (Try.prog.info? 5).map (fun i => (i.zero, i.size, i.bytes)) = some (some (.int .u8 0), 1, 1) := by kernel_rfl
def CopyByt (w : World) (g : Nat) (l : List Int) (k : Nat) (wr : World) : Prop := ∃ cs : Array Value, BlockIs wr g 5 cs ∧ cs.size = l.length ∧
  (∀ i r, i < k → l[i]? = some r → cs[i]? = some (.int .u8 r)) ∧ Below w.heap.size w wr
theorem CopyByt.put {w : World} {g : Nat} {l : List Int} {k : Nat} {r : Int} {wr : World} {cs : Array Value} (hs : cs.size = l.length) (hr : l[k]? = some r)
    (hc : ∀ i r, i < k → l[i]? = some r → cs[i]? = some (.int .u8 r))
    (hb : BlockIs wr g 5 (cs.setIfInBounds k (.int .u8 r))) (hB : Below w.heap.size w wr) : CopyByt w g l (k + 1) wr := by
  have hk : k < l.length := (List.getElem?_eq_some_iff.1 hr).1
  refine ⟨_, hb, by simp [hs], fun i r' hi hr' => ?_, hB⟩
  by_cases hik : i = k
  · subst hik
    obtain rfl := Option.some.inj (hr.symm.trans hr')
    simp [Array.getElem?_setIfInBounds, hs]; omega
  · rw [Array.getElem?_setIfInBounds_ne (by omega)]; exact hc i r' (by omega) hr'
theorem CopyByt.done {w wr : World} {g : Nat} {l : List Int} (h : CopyByt w g l l.length wr) : BytAt wr g 0 l := by
  obtain ⟨cs, hb, hs, hc, _⟩ := h
  exact BytAt.of_block hb (fun j r hr => hc j r (List.getElem?_eq_some_iff.1 hr).1 hr)

end Go.Proofs.Ytcngiinaneefjaa

namespace Go.Proofs.Ytcngiinaneefjaa

structure RV where
  c : Int
  m : Int
  p : Int

def RV.ok (r : RV) : Bool := decide (0 ≤ r.c ∧ r.c ≤ 1000000 ∧ 0 ≤ r.m ∧ r.m ≤ 1000000 ∧ 0 ≤ r.p ∧ r.p ≤ 1000000)
def RV.zero : RV := ⟨0, 0, 0⟩
def RV.add (a b : RV) : RV := ⟨a.c + b.c, a.m + b.m, a.p + b.p⟩
def RV.sub (a b : RV) : RV := ⟨a.c - b.c, a.m - b.m, a.p - b.p⟩

def RV.kept (r : RV) : RV := if r.ok then r else RV.zero
def RetR (r : RV) (b : Bool) (w : World) (e : Ending) (w' : World) : Prop := e = .returned (.tuple #[.agg #[.int .i64 r.c, .int .i64 r.m, .int .i64 r.p], .bool b]) ∧ Go.RowKit.Below w.heap.size w w'
theorem RetR.of {r r' : RV} {b b' : Bool} {w : World} (hr : r' = r) (hb : b' = b) : RetR r b w = RetR r' b' w := by rw [hr, hb]
end Go.Proofs.Ytcngiinaneefjaa

namespace Go.Proofs.Ytcngiinaneefjaa

structure TV where
  id : Int
  prio : Int
  need : RV
  want : List LV
  tols : List Int
structure NV where
  id : Int
  pool : Int
  cap : RV
  labs : List LV
  taints : List Int
  cordon : Bool
structure BV where
  task : Int
  node : Int
structure CV where
  tasks : List TV
  nodes : List NV
  binds : List BV
def TV.zero : TV := ⟨0, 0, RV.zero, [], []⟩
def NV.zero : NV := ⟨0, 0, RV.zero, [], [], false⟩
def BV.zero : BV := ⟨0, 0⟩
def CV.zero : CV := ⟨[], [], []⟩

def idOk (n : Int) : Bool := decide (1 ≤ n ∧ n ≤ 99)
def TV.ok (t : TV) : Bool := idOk t.id && decide (0 ≤ t.prio) && decide (t.prio ≤ 9) && t.need.ok && labsOk t.want && labsOk (tl t.tols)
def NV.ok (n : NV) : Bool := idOk n.id && decide (0 ≤ n.pool) && decide (n.pool < 5) && n.cap.ok && labsOk n.labs && labsOk (tl n.taints)
section
variable {α : Type} {key : α → Int} {l : List α} {z : Int}
end

end Go.Proofs.Ytcngiinaneefjaa

namespace Go.Proofs.Ytcngiinaneefjaa
open Go.RowKit

def CellsAt (w : World) (b o : Nat) (cs : List Value) : Prop := ∀ (j : Nat) (u : Value), cs[j]? = some u → w.cell? ⟨b, o + j, none⟩ = some u
theorem CellsAt.below {w w' : World} {b o B : Nat} {cs : List Value} (h : CellsAt w b o cs) (hb : Below B w w') (hB : b < B) : CellsAt w' b o cs := fun j u hu => (hb.cell (p := ⟨b, _, none⟩) hB).trans (h j u hu)
theorem CellsAt.of_block {w : World} {g o : Nat} {t : TypeId} {cs : List Value} {ds : Array Value} (h : BlockIs w g t ds) (hc : ∀ (j : Nat) (u : Value), cs[j]? = some u → ds[o + j]? = some u) : CellsAt w g o cs := fun j u hu => (h.cell _).trans (hc j u hu)

section
variable {α : Type} {R S : World → α → List Value → Prop} {n : Nat} {w w' : World} {v : Value} {l : List α}
def Kept (R : World → α → List Value → Prop) : Prop := ∀ (w w' : World) (x : α) (cs : List Value), Below w.heap.size w w' → R w x cs → R w' x cs
def SeqAt (R : World → α → List Value → Prop) (n : Nat) (w : World) (b off : Nat) (l : List α) : Prop := ∀ (i : Nat) (x : α), l[i]? = some x → ∃ cs, R w x cs ∧ CellsAt w b (off + i * n) cs
def GSl (R : World → α → List Value → Prop) (n : Nat) (w : World) (v : Value) (l : List α) : Prop := (l = [] ∧ ∃ A c, v = .slice A 0 c) ∨ ∃ b off c, v = .slice (some ⟨b, off, none⟩) l.length c ∧ b < w.heap.size ∧ SeqAt R n w b off l
theorem SeqAt.below (hR : Kept R) {b off : Nat} (h : SeqAt R n w b off l) (hb : Below w.heap.size w w') (hB : b < w.heap.size) : SeqAt R n w' b off l := fun i x hx => by
  obtain ⟨cs, h1, h2⟩ := h i x hx
  exact ⟨cs, hR _ _ _ _ hb h1, h2.below hb hB⟩
theorem GSl.below (hR : Kept R) (h : GSl R n w v l) (hb : Below w.heap.size w w') : GSl R n w' v l := by
  rcases h with h | ⟨b, off, c, rfl, hlt, h⟩
  · exact .inl h
  · exact .inr ⟨b, off, c, rfl, Nat.lt_of_lt_of_le hlt hb.size, h.below hR hb hlt⟩
theorem GSl.form (h : GSl R n w v l) : ∃ A c, v = .slice A l.length c ∧ (0 < l.length → ∃ b off, A = some ⟨b, off, none⟩ ∧ b < w.heap.size ∧ SeqAt R n w b off l) := by
  rcases h with ⟨rfl, A, c, rfl⟩ | ⟨b, off, c, rfl, hlt, h⟩
  · exact ⟨A, c, rfl, fun h => absurd h (by simp)⟩
  · exact ⟨_, c, rfl, fun _ => ⟨b, off, rfl, hlt, h⟩⟩
theorem GSl.nil (R : World → α → List Value → Prop) (n : Nat) (w : World) (A : Option Addr) (c : Nat) : GSl R n w (.slice A 0 c) [] := .inl ⟨rfl, A, c, rfl⟩
end

def TaskR (w : World) (t : TV) (cs : List Value) : Prop := ∃ v1 v2, cs = [.int .i64 t.id, .int .i64 t.prio, .int .i64 t.need.c, .int .i64 t.need.m, .int .i64 t.need.p, v1, v2] ∧ LabSl w v1 t.want ∧ IntSl w v2 t.tols ∧ t.want.length ≤ 1048576 ∧ t.tols.length ≤ 1048576
def NodeR (w : World) (t : NV) (cs : List Value) : Prop := ∃ v1 v2, cs = [.int .i64 t.id, .int .i64 t.pool, .int .i64 t.cap.c, .int .i64 t.cap.m, .int .i64 t.cap.p, v1, v2, .bool t.cordon] ∧ LabSl w v1 t.labs ∧ IntSl w v2 t.taints ∧ t.labs.length ≤ 1048576 ∧ t.taints.length ≤ 1048576
def BindR (_ : World) (t : BV) (cs : List Value) : Prop := cs = [.int .i64 t.task, .int .i64 t.node]
theorem TaskR.kept : Kept TaskR := fun _ _ _ _ hb ⟨v1, v2, e, h1, h2, h3⟩ => ⟨v1, v2, e, h1.below hb, h2.below hb, h3⟩
theorem NodeR.kept : Kept NodeR := fun _ _ _ _ hb ⟨v1, v2, e, h1, h2, h3⟩ => ⟨v1, v2, e, h1.below hb, h2.below hb, h3⟩
theorem BindR.kept : Kept BindR := fun _ _ _ _ _ h => h
theorem TaskR.zero (w : World) : TaskR w TV.zero [.int .i64 0, .int .i64 0, .int .i64 0, .int .i64 0, .int .i64 0, .slice none 0 0, .slice none 0 0] := ⟨_, _, rfl, .inl ⟨rfl, _, _, rfl⟩, .inl ⟨rfl, _, _, rfl⟩, by simp [TV.zero], by simp [TV.zero]⟩
theorem NodeR.zero (w : World) : NodeR w NV.zero [.int .i64 0, .int .i64 0, .int .i64 0, .int .i64 0, .int .i64 0, .slice none 0 0, .slice none 0 0, .bool false] := ⟨_, _, rfl, .inl ⟨rfl, _, _, rfl⟩, .inl ⟨rfl, _, _, rfl⟩, by simp [NV.zero], by simp [NV.zero]⟩
theorem BindR.zero (w : World) : BindR w BV.zero [.int .i64 0, .int .i64 0] := rfl
def TaskSl (w : World) (v : Value) (l : List TV) : Prop := GSl TaskR 7 w v l
theorem TaskSl.below {w w' : World} {v : Value} {l : List TV} (h : TaskSl w v l) (hb : Below w.heap.size w w') : TaskSl w' v l := GSl.below TaskR.kept h hb
theorem TaskSl.form {w : World} {v : Value} {l : List TV} (h : TaskSl w v l) : ∃ A c, v = .slice A l.length c ∧ (0 < l.length → ∃ b off, A = some ⟨b, off, none⟩ ∧ b < w.heap.size ∧ SeqAt TaskR 7 w b off l) := GSl.form h
def NodeSl (w : World) (v : Value) (l : List NV) : Prop := GSl NodeR 8 w v l
theorem NodeSl.below {w w' : World} {v : Value} {l : List NV} (h : NodeSl w v l) (hb : Below w.heap.size w w') : NodeSl w' v l := GSl.below NodeR.kept h hb
theorem NodeSl.form {w : World} {v : Value} {l : List NV} (h : NodeSl w v l) : ∃ A c, v = .slice A l.length c ∧ (0 < l.length → ∃ b off, A = some ⟨b, off, none⟩ ∧ b < w.heap.size ∧ SeqAt NodeR 8 w b off l) := GSl.form h
def BindSl (w : World) (v : Value) (l : List BV) : Prop := GSl BindR 2 w v l
theorem BindSl.below {w w' : World} {v : Value} {l : List BV} (h : BindSl w v l) (hb : Below w.heap.size w w') : BindSl w' v l := GSl.below BindR.kept h hb
theorem BindSl.form {w : World} {v : Value} {l : List BV} (h : BindSl w v l) : ∃ A c, v = .slice A l.length c ∧ (0 < l.length → ∃ b off, A = some ⟨b, off, none⟩ ∧ b < w.heap.size ∧ SeqAt BindR 2 w b off l) := GSl.form h
theorem bind_cells {w : World} {b o : Nat} {u0 u1 : Value} (h : CellsAt w b o [u0, u1]) : w.cell? ⟨b, o, none⟩ = some u0 ∧ w.cell? ⟨b, o + 1, none⟩ = some u1 := ⟨h 0 _ rfl, h 1 _ rfl⟩
end Go.Proofs.Ytcngiinaneefjaa
