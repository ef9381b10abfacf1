/- append of an int to a slice of the call's own. The contracts of find, findTask, findNode, findBind. A region that draws its order, op by op: what is wanted is taken first, what is not wanted is passed. The laws' helpers over clusters: szCluster; toTaskS, toNodeS, toBindS, toCluster. The laws' helpers over clusters: toTaskS, toNodeS, toBindS, toCluster. Rows of a call's own, element by element: which blocks turn; rows split and joined; cells of one element set anew. What the laws' marks make of a list of labels, ints, tasks, nodes, bindings, in plain Lean. The contracts of the model's l03CopyTask and l03CopyNode. The contract of the model's l03Copy. Rows of bytes of the call's own; append of a byte; markByteS, heldByteS. (mkbyt.py) Chapter 10 in plain Lean: the bytes of integers, and what is read out of bytes. The reader of chapter 10: must, take, octet. The reader of chapter 10: number. decode at an integer: its closure's two contracts, and its own. (mkrdd.py) The contract of NumRead. What was written as an integer is read as it, in plain Lean. Leases in plain Lean: what chapter 6's lease functions compute (Who, Epoch, Till are c, m, p of a triple). The contracts of LeaseOk, LeaseTry, LeaseHolds and of what they call. The contracts of NumBytes and of its model: the bytes of an integer, in a slice of the call's own. The contract of the model's NumBytes. append of any slice of ints, of bytes, onto a row of the call's own. (mkspread.py) -/
import Derived.Test.YtcngiinaneefjaaCluOwn
import Derived.OwnWalk
import Derived.Deep.RegionHeld3
import Derived.Test.YtcngiinaneefjaaMg00
import Derived.Test.YtcngiinaneefjaaChecked
import Derived.WalkKit
import Derived.LaidEql
import Derived.Stop.Asserts
import Derived.RowKitTokens
import Derived.Outline
import Derived.Deep.RegionLaw
import Derived.WalkLawsBesides
import Derived.Deep.QuietTactic
import Derived.Laws.BitsAllLaws
import Derived.Tactics
import Derived.Tactics2
import Derived.Defers
import Derived.Recover
import Derived.Laws.StructEq
import Derived.Laws.OwnMore
namespace Go.Proofs.Ytcngiinaneefjaa
open Go.RowKit

def OwnsJ (w : World) (base : Nat) (v : Value) (l : List Int) : Prop := w.ownsRow base 3 1 v l.length (intL l)
section
variable {w w' : World} {base : Nat} {v : Value} {l : List Int}
theorem OwnsJ.alloc (h : OwnsJ w base v l) (o : Obj) : OwnsJ (w.alloc o) base v l := World.ownsRow.alloc h o
theorem OwnsJ.nil (w : World) (base : Nat) : OwnsJ w base (.slice none 0 0) [] := World.ownsRow_nil w base _ _
theorem OwnsJ.o (h : OwnsJ w base v l) : IntO w v l := by
  obtain ⟨h1, h2⟩ := h
  refine ⟨h1, ?_⟩
  rcases h2 with h | ⟨g, cap, cur, hv, hg, h⟩
  · exact .inl h
  · exact .inr ⟨g, cap, cur, hv, Nat.zero_le _, h⟩
theorem OwnsJ.below {B : Nat} (h : OwnsJ w base v l) (hb : Below B w w') (hB : w.heap.size ≤ B) : OwnsJ w' base v l := by
  obtain ⟨h1, h2⟩ := h
  refine ⟨h1, ?_⟩
  rcases h2 with h | ⟨g, cap, cur, hv, hg, hh, h⟩
  · exact .inl h
  · have hlt : g < w.heap.size := (Array.getElem?_eq_some_iff.1 hh).1
    exact .inr ⟨g, cap, cur, hv, hg, (hb.block g (by omega)).trans hh, h⟩
end
end Go.Proofs.Ytcngiinaneefjaa

namespace Go.Proofs.Ytcngiinaneefjaa
open Go.RowKit

end Go.Proofs.Ytcngiinaneefjaa
namespace Go.Proofs.Ytcngiinaneefjaa
open Go.RowKit

def CluR (w : World) (c : CV) (a0 a1 a2 : Value) : Prop := TaskSl w a0 c.tasks ∧ NodeSl w a1 c.nodes ∧ BindSl w a2 c.binds ∧ c.tasks.length ≤ 1048576 ∧ c.nodes.length ≤ 1048576 ∧ c.binds.length ≤ 1048576
theorem CluR.below {w w' : World} {c : CV} {a0 a1 a2 : Value} (h : CluR w c a0 a1 a2) (hb : Below w.heap.size w w') : CluR w' c a0 a1 a2 := by
  obtain ⟨h0, h1, h2, h3⟩ := h
  exact ⟨h0.below hb, h1.below hb, h2.below hb, h3⟩

end Go.Proofs.Ytcngiinaneefjaa

namespace Go.Proofs.Ytcngiinaneefjaa
open Go.RowKit

theorem rhN {α : Type} (a : α) (l : List α) : (a :: l).toArray[0]? = some a := rfl
theorem rhM {α : Type} (a : α) (l : List α) (n : Nat) : (a :: l).toArray[n + 1]? = l.toArray[n]? := by simp
theorem rhA {α : Type} (l : List α) (i : Nat) (a : α) : l.toArray.setIfInBounds i a = (l.set i a).toArray := by simp
theorem rhS {α : Type} (x a : α) (l : List α) : (x :: l).set 0 a = a :: l := rfl
theorem rhT {α : Type} (x a : α) (l : List α) (n : Nat) : (x :: l).set (n + 1) a = x :: l.set n a := rfl
section
variable {P : Program} {ops : Array Oper} {Q : Exit → Act → World → Prop} {md : Region.Mode} {S : World → Prop}
theorem hTake {i : Nat} {oi : Oper} {v : Value} {d : Option Tmp} {fuel : Nat} {listed : Array Bool} {a : Act} {w : World} (hi : ops[i]? = some oi) (hd : oi.dst = d)
    (hb : (Region.noSelect ops && (Region.free md ops listed i && (Region.ready md ops listed).contains i)) = true)
    (hQ : ∀ c a w, Q (.panic c) (a.put d v) w → Q (.panic c) a w) (hw : Region.wanted oi (yielded ops a.tmps) = true) (hy : ∀ w, S w → (execOp a.eval oi).run P w = .ok (.value v) w) (hS : S w)
    (h : wpAnyH P md ops Q S fuel (listed.setIfInBounds i true) (a.put d v) w) : wpAnyH P md ops Q S (fuel + 1) listed a w := by
  subst hd
  simp only [Bool.and_eq_true] at hb
  exact wpAnyH_take hi hb.1 hb.2.1 hb.2.2 hQ (.inl ⟨hw, hy⟩) hS h
theorem hSkip {i : Nat} {oi : Oper} {d : Option Tmp} {fuel : Nat} {listed : Array Bool} {a : Act} {w : World} (hi : ops[i]? = some oi) (hd : oi.dst = d)
    (hb : (Region.noSelect ops && (Region.free md ops listed i && (Region.ready md ops listed).contains i)) = true)
    (hQ : ∀ c a w, Q (.panic c) (a.put d undef) w → Q (.panic c) a w) (hw : Region.wanted oi (yielded ops a.tmps) = false) (hS : S w)
    (h : wpAnyH P md ops Q S fuel (listed.setIfInBounds i true) (a.put d undef) w) : wpAnyH P md ops Q S (fuel + 1) listed a w := by
  subst hd
  simp only [Bool.and_eq_true] at hb
  exact wpAnyH_take hi hb.1 hb.2.1 hb.2.2 hQ (.inr ⟨hw, rfl⟩) hS h
theorem hT (i : Nat) {oi : Oper} {v : Value} {d : Option Tmp} {fuel : Nat} {listed : Array Bool} {a : Act} {w : World} (h : wpAnyH P md ops Q S fuel (listed.setIfInBounds i true) (a.put d v) w)
    (hi : ops[i]? = some oi := by (simp only [rhN, rhM]; try rfl)) (hd : oi.dst = d := by first | rfl | (dsimp only; rfl)) (hw : Region.wanted oi (yielded ops a.tmps) = true := by rfl)
    (hQ : ∀ c a w, Q (.panic c) (a.put d v) w → Q (.panic c) a w := by exact fun _ _ _ h => h) (hy : ∀ w, S w → (execOp a.eval oi).run P w = .ok (.value v) w := by (intro w hSw; (try dsimp only at hSw); go_simp <;> with_reducible rfl))
    (hS : S w := by assumption) (hb : (Region.noSelect ops && (Region.free md ops listed i && (Region.ready md ops listed).contains i)) = true := by kernel_rfl) : wpAnyH P md ops Q S (fuel + 1) listed a w := hTake hi hd hb hQ hw hy hS h
theorem hP (i : Nat) {oi : Oper} {d : Option Tmp} {fuel : Nat} {listed : Array Bool} {a : Act} {w : World} (h : wpAnyH P md ops Q S fuel (listed.setIfInBounds i true) (a.put d undef) w)
    (hi : ops[i]? = some oi := by (simp only [rhN, rhM]; try rfl)) (hd : oi.dst = d := by first | rfl | (dsimp only; rfl)) (hw : Region.wanted oi (yielded ops a.tmps) = false := by rfl)
    (hQ : ∀ c a w, Q (.panic c) (a.put d undef) w → Q (.panic c) a w := by exact fun _ _ _ h => h) (hS : S w := by assumption)
    (hb : (Region.noSelect ops && (Region.free md ops listed i && (Region.ready md ops listed).contains i)) = true := by kernel_rfl) : wpAnyH P md ops Q S (fuel + 1) listed a w := hSkip hi hd hb hQ hw hS h
theorem hCall {i : Nat} {o : Oper} {fuel : Nat} {listed : Array Bool} {a : Act} {w : World} (ho : ops[i]? = some o) (hr : Region.ready md ops listed = [i]) (hw : Region.wanted o (yielded ops a.tmps) = true)
    (h : ∀ K' : Act → World → Prop, Shut (∀ a w, S w → (S w → wpAnyH P md ops Q S fuel (listed.setIfInBounds i true) a w) → K' a w) → Oper.wp P o a w K' Q) : wpAnyH P md ops Q S (fuel + 1) listed a w :=
  wpAnyH_ready hr (by simp) (AllReadyH.cons ho (fun K' hK => by rw [if_pos hw]; exact h K' hK) AllReadyH.nil)
end
end Go.Proofs.Ytcngiinaneefjaa

namespace Go.Proofs.Ytcngiinaneefjaa
open Go.RowKit

def TaskQ (w : World) (t : TV) (cs : List Value) : Prop := ∃ v1 v2, cs = [.int .i64 t.id, .int .i64 t.prio, .int .i64 t.need.c, .int .i64 t.need.m, .int .i64 t.need.p, v1, v2] ∧ LabSl w v1 t.want ∧ IntSl w v2 t.tols ∧ t.want.length ≤ maxLen ∧ t.tols.length ≤ maxLen
def NodeQ (w : World) (t : NV) (cs : List Value) : Prop := ∃ v1 v2, cs = [.int .i64 t.id, .int .i64 t.pool, .int .i64 t.cap.c, .int .i64 t.cap.m, .int .i64 t.cap.p, v1, v2, .bool t.cordon] ∧ LabSl w v1 t.labs ∧ IntSl w v2 t.taints ∧ t.labs.length ≤ maxLen ∧ t.taints.length ≤ maxLen
theorem TaskQ.kept : Kept TaskQ := fun _ _ _ _ hb ⟨v1, v2, e, h1, h2, h3⟩ => ⟨v1, v2, e, h1.below hb, h2.below hb, h3⟩
theorem NodeQ.kept : Kept NodeQ := fun _ _ _ _ hb ⟨v1, v2, e, h1, h2, h3⟩ => ⟨v1, v2, e, h1.below hb, h2.below hb, h3⟩
def CluQ (w : World) (c : CV) (a0 a1 a2 : Value) : Prop := GSl TaskQ 7 w a0 c.tasks ∧ GSl NodeQ 8 w a1 c.nodes ∧ BindSl w a2 c.binds ∧ c.tasks.length ≤ maxLen ∧ c.nodes.length ≤ maxLen ∧ c.binds.length ≤ maxLen
theorem CluQ.below {w w' : World} {c : CV} {a0 a1 a2 : Value} (h : CluQ w c a0 a1 a2) (hb : Below w.heap.size w w') : CluQ w' c a0 a1 a2 := by
  obtain ⟨h0, h1, h2, h3⟩ := h
  exact ⟨h0.below TaskQ.kept hb, h1.below NodeQ.kept hb, h2.below hb, h3⟩
end Go.Proofs.Ytcngiinaneefjaa

namespace Go.Proofs.Ytcngiinaneefjaa
open Go.RowKit

def setAll (cs : Array Value) (o : Nat) : List Value → Array Value
  | [] => cs
  | u :: r => setAll (cs.setIfInBounds o u) (o + 1) r
def putAll (w : World) (g o : Nat) : List Value → World
  | [] => w
  | u :: r => putAll (w.setCell ⟨g, o, none⟩ u) g (o + 1) r
theorem setAll_size (cs : Array Value) (o : Nat) (ds : List Value) : (setAll cs o ds).size = cs.size := by
  induction ds generalizing cs o with
  | nil => rfl
  | cons u r ih => simp [setAll, ih]
theorem setAll_far {cs : Array Value} {o i : Nat} {ds : List Value} (h : i < o ∨ o + ds.length ≤ i) : (setAll cs o ds)[i]? = cs[i]? := by
  induction ds generalizing cs o with
  | nil => rfl
  | cons u r ih =>
    simp only [List.length_cons] at h
    rw [setAll, ih (by omega), Array.getElem?_setIfInBounds_ne (by omega)]
theorem setAll_at {cs : Array Value} {o j : Nat} {ds : List Value} {u : Value} (hj : ds[j]? = some u) (h : o + ds.length ≤ cs.size) : (setAll cs o ds)[o + j]? = some u := by
  induction ds generalizing cs o j with
  | nil => simp at hj
  | cons x r ih =>
    simp only [List.length_cons] at h
    cases j with
    | zero =>
      simp at hj; subst hj
      rw [setAll, setAll_far (by omega), Nat.add_zero, Array.getElem?_setIfInBounds_self_of_lt (by omega)]
    | succ j =>
      have := ih (cs := cs.setIfInBounds o x) (o := o + 1) (j := j) (by simpa using hj) (by simp; omega)
      rw [setAll, show o + (j + 1) = o + 1 + j by omega]
      exact this
theorem BlockIs.putAll {w : World} {g o : Nat} {t : TypeId} {cs : Array Value} {ds : List Value} (h : BlockIs w g t cs) : BlockIs (putAll w g o ds) g t (setAll cs o ds) := by
  induction ds generalizing w o cs with
  | nil => exact h
  | cons u r ih => exact ih (h.put o u)
def BindN (_ : Nat) (_ : World) (t : BV) (cs : List Value) : Prop := cs = [.int .i64 t.task, .int .i64 t.node]
theorem BindN.kept (base : Nat) : Kept (BindN base) := fun _ _ _ _ _ h => h
theorem BindN.put {base g o : Nat} {w : World} {t : BV} {cs ds : List Value} (h : BindN base w t cs) (_ : g < base) : BindN base (putAll w g o ds) t cs := h
theorem BindN.r {base : Nat} {w : World} {t : BV} {cs : List Value} (h : BindN base w t cs) : BindR w t cs := h
theorem BindN.len {base : Nat} {w : World} {t : BV} {cs : List Value} (h : BindN base w t cs) : cs.length = 2 := by rw [h]; rfl

def CopyG {α : Type} (R : World → α → List Value → Prop) (n : Nat) (ty : TypeId) (w : World) (g : Nat) (l : List α) (k : Nat) : Prop :=
  ∃ cs : Array Value, BlockIs w g ty cs ∧ cs.size = l.length * n ∧ ∀ (i : Nat) (x : α), i < k → l[i]? = some x → ∃ ds, R w x ds ∧ ds.length = n ∧ ∀ (j : Nat) (u : Value), ds[j]? = some u → cs[i * n + j]? = some u
section
variable {α : Type} {R : World → α → List Value → Prop} {n g k : Nat} {ty : TypeId} {w w' : World} {l : List α}
theorem CopyG.lt (h : CopyG R n ty w g l k) : g < w.heap.size := by obtain ⟨cs, hb, _⟩ := h; exact hb.lt
theorem CopyG.below (hR : Kept R) (h : CopyG R n ty w g l k) (hb : Below w.heap.size w w') : CopyG R n ty w' g l k := by
  obtain ⟨cs, h1, h2, h3⟩ := h
  refine ⟨cs, h1.below hb h1.lt, h2, fun i x hi hx => ?_⟩
  obtain ⟨ds, a, b⟩ := h3 i x hi hx
  exact ⟨ds, hR _ _ _ _ hb a, b⟩
theorem CopyG.step {x : α} {ds : List Value} (h : CopyG R n ty w g l k) (hx : l[k]? = some x) (hd : R (putAll w g (k * n) ds) x ds) (hn : ds.length = n) (hp : ∀ y es, R w y es → R (putAll w g (k * n) ds) y es) : CopyG R n ty (putAll w g (k * n) ds) g l (k + 1) := by
  obtain ⟨cs, h1, h2, h3⟩ := h
  have hk : k < l.length := (List.getElem?_eq_some_iff.1 hx).1
  have hkn : k * n + n ≤ l.length * n := by
    have := Nat.mul_le_mul_right n (show k + 1 ≤ l.length from hk)
    rw [Nat.add_mul, Nat.one_mul] at this; exact this
  refine ⟨_, h1.putAll, by rw [setAll_size, h2], fun i y hi hy => ?_⟩
  by_cases e : i = k
  · subst e
    obtain rfl := Option.some.inj (hx.symm.trans hy)
    exact ⟨ds, hd, hn, fun j u hu => setAll_at hu (by omega)⟩
  · obtain ⟨es, a, b, d⟩ := h3 i y (by omega) hy
    refine ⟨es, hp y es a, b, fun j u hu => ?_⟩
    have hj : j < n := by rw [← b]; exact (List.getElem?_eq_some_iff.1 hu).1
    have hin : i * n + n ≤ k * n := by
      have := Nat.mul_le_mul_right n (show i + 1 ≤ k by omega)
      rw [Nat.add_mul, Nat.one_mul] at this; exact this
    rw [setAll_far (by omega)]; exact d j u hu
theorem CopyG.sl {S : World → α → List Value → Prop} (hRS : ∀ x cs, R w x cs → S w x cs) (h : CopyG R n ty w g l l.length) : GSl S n w (.slice (some ⟨g, 0, none⟩) l.length l.length) l := by
  obtain ⟨cs, h1, h2, h3⟩ := h
  refine .inr ⟨g, 0, _, rfl, h1.lt, fun i x hx => ?_⟩
  obtain ⟨ds, a, b, d⟩ := h3 i x (List.getElem?_eq_some_iff.1 hx).1 hx
  exact ⟨ds, hRS _ _ a, CellsAt.of_block h1 (fun j u hu => by rw [Nat.zero_add]; exact d j u hu)⟩
end

end Go.Proofs.Ytcngiinaneefjaa
namespace Go.Proofs.Ytcngiinaneefjaa
open Go.RowKit

section
variable {α : Type} {R S : World → α → List Value → Prop} {n g k : Nat} {ty : TypeId} {w w' : World} {l : List α}
end
end Go.Proofs.Ytcngiinaneefjaa

namespace Go.Proofs.Ytcngiinaneefjaa
open Go.RowKit

structure TurnB (bs : List Nat) (w w' : World) : Prop where
  os : w'.os = w.os
  tape : w'.tape = w.tape
  output : w'.output = w.output
  size : w.heap.size ≤ w'.heap.size
  block : ∀ k, k < w.heap.size → k ∉ bs → w'.heap[k]? = w.heap[k]?
section
variable {bs cs : List Nat} {w w' w'' : World}
theorem TurnB.refl (bs : List Nat) (w : World) : TurnB bs w w := ⟨rfl, rfl, rfl, Nat.le_refl _, fun _ _ _ => rfl⟩
theorem TurnB.trans (h : TurnB bs w w') (k : TurnB bs w' w'') : TurnB bs w w'' :=
  ⟨k.os.trans h.os, k.tape.trans h.tape, k.output.trans h.output, Nat.le_trans h.size k.size, fun b hb hne => (k.block b (Nat.lt_of_lt_of_le hb h.size) hne).trans (h.block b hb hne)⟩
theorem TurnB.mono (h : TurnB bs w w') (hs : ∀ b ∈ bs, b ∈ cs) : TurnB cs w w' := ⟨h.os, h.tape, h.output, h.size, fun b hb hn => h.block b hb (fun e => hn (hs b e))⟩
theorem TurnB.of_below (hb : Below w.heap.size w w') : TurnB bs w w' := ⟨hb.os, hb.tape, hb.output, hb.size, fun k hk _ => hb.block k hk⟩
theorem TurnB.step (h : TurnB bs w w') (hb : Below w'.heap.size w' w'') : TurnB bs w w'' := h.trans (.of_below hb)
theorem TurnB.put {g : Nat} (h : TurnB bs w w') (hg : g ∈ bs) (o : Nat) (u : Value) : TurnB bs w (w'.setCell ⟨g, o, none⟩ u) :=
  h.trans ⟨rfl, rfl, rfl, by simp [World.setCell], fun k _ hne => Below.heap_setCell _ _ _ k (fun e => hne (by rw [e]; exact hg))⟩
theorem TurnB.putAll {g : Nat} (h : TurnB bs w w') (hg : g ∈ bs) (o : Nat) (ds : List Value) : TurnB bs w (Go.Proofs.Ytcngiinaneefjaa.putAll w' g o ds) := by
  induction ds generalizing w' o with
  | nil => exact h
  | cons u r ih => exact ih (h.put hg o u) _
theorem TurnB.below {B : Nat} (h : TurnB bs w w') (hB : B ≤ w.heap.size) (hg : ∀ b ∈ bs, B ≤ b) : Below B w w' :=
  ⟨h.os, h.tape, h.output, h.size, fun k hk => h.block k (by omega) (fun e => by have := hg k e; omega)⟩
theorem TurnB.old (h : TurnB (bs ++ cs) w w') (hc : ∀ b ∈ cs, w.heap.size ≤ b) : TurnB bs w w' :=
  ⟨h.os, h.tape, h.output, h.size, fun k hk hne => h.block k hk (fun e => by
    rcases List.mem_append.1 e with e | e
    · exact hne e
    · have := hc k e; omega)⟩
theorem BlockIs.turn {g : Nat} {t : TypeId} {c : Array Value} (h : BlockIs w g t c) (k : TurnB bs w w') (hn : g ∉ bs) : BlockIs w' g t c := (k.block g h.lt hn).trans h
end

section
variable {α : Type} {R S : World → α → List Value → List Nat → Prop} {w w' : World} {a b l : List α} {xs xa xb : List Value} {bs ba bb : List Nat}
theorem Elems.split (h : Elems R w (a ++ b) xs bs) : ∃ xa xb ba bb, xs = xa ++ xb ∧ bs = ba ++ bb ∧ Elems R w a xa ba ∧ Elems R w b xb bb := by
  induction a generalizing xs bs with
  | nil => exact ⟨[], xs, [], bs, rfl, rfl, ⟨rfl, rfl⟩, h⟩
  | cons x r ih =>
    obtain ⟨cs, ys, b1, b2, rfl, rfl, h1, h2⟩ := h
    obtain ⟨xa, xb, ba, bb, rfl, rfl, h3, h4⟩ := ih h2
    exact ⟨cs ++ xa, xb, b1 ++ ba, bb, by simp, by simp, ⟨cs, xa, b1, ba, rfl, rfl, h1, h3⟩, h4⟩
theorem Elems.len {n : Nat} (hn : ∀ x cs b, R w x cs b → cs.length = n) (h : Elems R w l xs bs) : xs.length = l.length * n := by
  induction l generalizing xs bs with
  | nil => obtain ⟨rfl, rfl⟩ := h; simp
  | cons x r ih =>
    obtain ⟨cs, ys, b1, b2, rfl, rfl, h1, h2⟩ := h
    rw [List.length_append, ih h2, hn _ _ _ h1, List.length_cons, Nat.add_mul]; omega
end
end Go.Proofs.Ytcngiinaneefjaa

namespace Go.Proofs.Ytcngiinaneefjaa

def szTask (t : TV) : Int := 5 + 2 * t.want.length + t.tols.length
def szNode (n : NV) : Int := 6 + 2 * n.labs.length + n.taints.length
end Go.Proofs.Ytcngiinaneefjaa

namespace Go.Proofs.Ytcngiinaneefjaa
open Go.RowKit

theorem LabSl.news {w : World} {A : Option Addr} {c : Nat} {l : List LV} (h : LabSl w (.slice A l.length c) l) : 0 < l.length → ∃ b off, A = some ⟨b, off, none⟩ ∧ CellsAt w b off (labL l) := by
  intro hp
  obtain ⟨A', c', e, h'⟩ := h.form
  simp only [Value.slice.injEq] at e
  obtain ⟨rfl, _, _⟩ := e
  obtain ⟨b, off, rfl, _, hat⟩ := h' hp
  refine ⟨b, off, rfl, fun j u hu => ?_⟩
  have hj : j < l.length * 2 := by
    have := (List.getElem?_eq_some_iff.1 hu).1
    rwa [labL_len] at this
  obtain ⟨r, hr⟩ : ∃ r, l[j / 2]? = some r := ⟨_, List.getElem?_eq_getElem (by omega)⟩
  obtain ⟨a1, a2⟩ := hat _ _ hr
  obtain ⟨b1, b2⟩ := labL_at hr
  rcases Nat.mod_two_eq_zero_or_one j with e | e
  · have ej : j / 2 * 2 = j := by omega
    rw [ej] at a1 b1
    rw [b1] at hu
    obtain rfl := Option.some.inj hu
    exact a1
  · have ej : j / 2 * 2 + 1 = j := by omega
    rw [Nat.add_assoc, ej] at a2
    rw [ej] at b2
    rw [b2] at hu
    obtain rfl := Option.some.inj hu
    exact a2
theorem IntSl.news {w : World} {A : Option Addr} {c : Nat} {l : List Int} (h : IntSl w (.slice A l.length c) l) : 0 < l.length → ∃ b off, A = some ⟨b, off, none⟩ ∧ CellsAt w b off (intL l) := by
  intro hp
  obtain ⟨A', c', e, h'⟩ := h.form
  simp only [Value.slice.injEq] at e
  obtain ⟨rfl, _, _⟩ := e
  obtain ⟨b, off, rfl, _, hat⟩ := h' hp
  refine ⟨b, off, rfl, fun j u hu => ?_⟩
  simp [intL] at hu
  obtain ⟨r, hr, rfl⟩ := hu
  exact hat _ _ hr
end Go.Proofs.Ytcngiinaneefjaa

namespace Go.Proofs.Ytcngiinaneefjaa
open Go.RowKit

structure KeepB (g : Nat) (w w' : World) : Prop where
  os : w'.os = w.os
  tape : w'.tape = w.tape
  output : w'.output = w.output
  size : w.heap.size ≤ w'.heap.size
  block : ∀ k, k < w.heap.size → k ≠ g → w'.heap[k]? = w.heap[k]?
section
variable {g : Nat} {w w' w'' : World}
theorem KeepB.refl (g : Nat) (w : World) : KeepB g w w := ⟨rfl, rfl, rfl, Nat.le_refl _, fun _ _ _ => rfl⟩
theorem KeepB.trans (h : KeepB g w w') (k : KeepB g w' w'') : KeepB g w w'' :=
  ⟨k.os.trans h.os, k.tape.trans h.tape, k.output.trans h.output, Nat.le_trans h.size k.size, fun b hb hne => (k.block b (Nat.lt_of_lt_of_le hb h.size) hne).trans (h.block b hb hne)⟩
theorem KeepB.step (h : KeepB g w w') (hb : Below w'.heap.size w' w'') : KeepB g w w'' := h.trans ⟨hb.os, hb.tape, hb.output, hb.size, fun k hk _ => hb.block k hk⟩
theorem KeepB.put (h : KeepB g w w') (o : Nat) (u : Value) : KeepB g w (w'.setCell ⟨g, o, none⟩ u) := h.trans ⟨rfl, rfl, rfl, by simp [World.setCell], fun k _ hne => Below.heap_setCell _ _ _ k hne⟩
theorem KeepB.grown (h : KeepB g w w') {row : Option Nat} (hg : w'.grownBy w'' row) (hr : ∀ k, row = some k → w.heap.size ≤ k) : KeepB g w w'' :=
  ⟨hg.os.trans h.os, hg.tape.trans h.tape, hg.output.trans h.output, Nat.le_trans h.size hg.size, fun k hk hne => (hg.block k (Nat.lt_of_lt_of_le hk h.size) (fun e => by have := hr k e.symm; omega)).trans (h.block k hk hne)⟩
theorem KeepB.below {B : Nat} (h : KeepB g w w') (hB : B ≤ w.heap.size) (hg : B ≤ g) : Below B w w' := ⟨h.os, h.tape, h.output, h.size, fun k hk => h.block k (by omega) (by omega)⟩
end

section
variable {P : Program} {ops : Array Oper} {o : Oper} {a : Act} {Q : Exit → Act → World → Prop}
end
def bindL (l : List BV) : List Value := l.flatMap fun x => [.int .i64 x.task, .int .i64 x.node]
theorem bindL_cons (x : BV) (r : List BV) : bindL (x :: r) = .int .i64 x.task :: .int .i64 x.node :: bindL r := rfl
theorem bindL_len (l : List BV) : (bindL l).length = l.length * 2 := by
  induction l with
  | nil => rfl
  | cons x r ih => rw [bindL_cons]; simp only [List.length_cons, ih]; omega
theorem bindL_at {l : List BV} {i : Nat} {x : BV} (h : l[i]? = some x) : (bindL l)[i * 2]? = some (.int .i64 x.task) ∧ (bindL l)[i * 2 + 1]? = some (.int .i64 x.node) := by
  induction l generalizing i with
  | nil => simp at h
  | cons y r ih =>
    cases i with
    | zero => simp at h; subst h; exact ⟨rfl, rfl⟩
    | succ i =>
      simp at h
      have := ih h
      rw [bindL_cons, show (i + 1) * 2 = i * 2 + 1 + 1 by omega]
      simpa using this
theorem BindSl.news {w : World} {A : Option Addr} {c : Nat} {l : List BV} (h : BindSl w (.slice A l.length c) l) : 0 < l.length → ∃ b off, A = some ⟨b, off, none⟩ ∧ CellsAt w b off (bindL l) := by
  intro hp
  obtain ⟨A', c', e, h'⟩ := h.form
  simp only [Value.slice.injEq] at e
  obtain ⟨rfl, _, _⟩ := e
  obtain ⟨b, off, rfl, _, hat⟩ := h' hp
  refine ⟨b, off, rfl, fun j u hu => ?_⟩
  have hj : j < l.length * 2 := by
    have := (List.getElem?_eq_some_iff.1 hu).1
    rwa [bindL_len] at this
  obtain ⟨r, hr⟩ : ∃ r, l[j / 2]? = some r := ⟨_, List.getElem?_eq_getElem (by omega)⟩
  obtain ⟨cs, hc, a⟩ := hat _ _ hr
  obtain rfl : cs = [.int .i64 r.task, .int .i64 r.node] := hc
  obtain ⟨b1, b2⟩ := bindL_at hr
  obtain ⟨a1, a2⟩ := bind_cells a
  rcases Nat.mod_two_eq_zero_or_one j with e | e
  · have ej : j / 2 * 2 = j := by omega
    rw [ej] at a1 b1
    rw [b1] at hu
    obtain rfl := Option.some.inj hu
    exact a1
  · have ej : j / 2 * 2 + 1 = j := by omega
    rw [Nat.add_assoc, ej] at a2
    rw [ej] at b2
    rw [b2] at hu
    obtain rfl := Option.some.inj hu
    exact a2
end Go.Proofs.Ytcngiinaneefjaa

namespace Go.Proofs.Ytcngiinaneefjaa
open Go.RowKit

def bytL (l : List Int) : List Value := l.map (Value.int .u8)
def BytO (w : World) (v : Value) (l : List Int) : Prop := w.ownsRow 0 5 1 v l.length (bytL l)
theorem BytO.sl {w : World} {v : Value} {l : List Int} (h : BytO w v l) : BytSl w v l := by
  obtain ⟨A, c, rfl, hA⟩ := own_form h
  rcases Nat.eq_zero_or_pos l.length with h0 | hp
  · obtain rfl : l = [] := List.eq_nil_of_length_eq_zero h0
    exact .inl ⟨rfl, _, _, rfl⟩
  · obtain ⟨g, rfl, hlt, hc⟩ := hA hp
    exact .inr ⟨g, 0, c, rfl, hlt, fun i r hr => hc _ _ (by simp [bytL, hr])⟩
def OwnsY (w : World) (base : Nat) (v : Value) (l : List Int) : Prop := w.ownsRow base 5 1 v l.length (bytL l)
section
variable {w w' : World} {base : Nat} {v : Value} {l : List Int}
theorem OwnsY.alloc (h : OwnsY w base v l) (o : Obj) : OwnsY (w.alloc o) base v l := World.ownsRow.alloc h o
theorem OwnsY.nil (w : World) (base : Nat) : OwnsY w base (.slice none 0 0) [] := World.ownsRow_nil w base _ _
theorem OwnsY.o (h : OwnsY w base v l) : BytO w v l := by
  obtain ⟨h1, h2⟩ := h
  refine ⟨h1, ?_⟩
  rcases h2 with h | ⟨g, cap, cur, hv, hg, h⟩
  · exact .inl h
  · exact .inr ⟨g, cap, cur, hv, Nat.zero_le _, h⟩
theorem OwnsY.below {B : Nat} (h : OwnsY w base v l) (hb : Below B w w') (hB : w.heap.size ≤ B) : OwnsY w' base v l := by
  obtain ⟨h1, h2⟩ := h
  refine ⟨h1, ?_⟩
  rcases h2 with h | ⟨g, cap, cur, hv, hg, hh, h⟩
  · exact .inl h
  · have hlt : g < w.heap.size := (Array.getElem?_eq_some_iff.1 hh).1
    exact .inr ⟨g, cap, cur, hv, hg, (hb.block g (by omega)).trans hh, h⟩
end
theorem bytL_snoc (l : List Int) (r : Int) : bytL (l ++ [r]) = bytL l ++ [.int .u8 r] := by simp [bytL]
theorem wpList_append_y {ops : Array Oper} {rest : List Oper} {o : Oper} {a : Act} {Q : Exit → Act → World → Prop} (w : World) (hgd : o.guard = none) (s x : Operand)
    (ho : o.op = .call { callee := .builtin .append, args := #[s, x], argTypes := #[22, 22] })
    (base : Nat) (v : Value) (l : List Int) (r : Int) (g : Nat) (hs : a.eval s = v) (hown : OwnsY w base v l) (hx : a.eval x = .slice (some ⟨g, 0, none⟩) 1 1)
    (h0 : w.cell? ⟨g, 0, none⟩ = some (.int .u8 r)) (hl : l.length ≤ 2000000) (hbase : base ≤ w.heap.size)
    (h : ∀ v' w', OwnsY w' base v' (l ++ [r]) → Below base w w' → wpList Try.prog ops Q rest (a.put o.dst v') w') : wpList Try.prog ops Q (o :: rest) a w := by
  obtain ⟨i0, hi0, hz0, hz1, hz2⟩ := info_parts Try.infoY
  refine wpList_append_own w hgd s x 22 ho base 5 i0 _ 1 1 Try.underlying22 hi0 hz0 hz1 hz2 rfl (by omega) v l.length (bytL l) hs hown ⟨g, 0, none⟩ 1 1 [.int .u8 r] hx rfl ?_ ?_ (by simp only [maxLen]; omega) (by omega) hbase ?_
  · intro j u hj
    match j, hj with
    | 0, hj => simp at hj; subst hj; simpa [Addr.add] using h0
  · intro u hu
    simp at hu
    subst hu; rfl
  · intro v' w' hown' hgrow _
    refine h v' w' ?_ ((Below.refl _ _).grown hgrow hbase (fun k hk => (World.ownsRow.lt hown k hk).1))
    unfold OwnsY
    rw [bytL_snoc, List.length_append]
    exact hown'
theorem BytSl.news {w : World} {A : Option Addr} {c : Nat} {l : List Int} (h : BytSl w (.slice A l.length c) l) : 0 < l.length → ∃ b off, A = some ⟨b, off, none⟩ ∧ CellsAt w b off (bytL l) := by
  intro hp
  obtain ⟨A', c', e, h'⟩ := h.form
  simp only [Value.slice.injEq] at e
  obtain ⟨rfl, _, _⟩ := e
  obtain ⟨b, off, rfl, _, hat⟩ := h' hp
  refine ⟨b, off, rfl, fun j u hu => ?_⟩
  simp [bytL] at hu
  obtain ⟨r, hr, rfl⟩ := hu
  exact hat _ _ hr
theorem bytL_one (l : List Int) : ∀ u ∈ bytL l, u.oneCell' = true := by
  intro u hu
  simp [bytL] at hu
  obtain ⟨r, _, h⟩ := hu; subst h; rfl
theorem conv_byte (n : Int) (w : World) : (convert 3 5 (.int .i64 n)).run Try.prog w = .ok (.int .u8 (n % 256)) w := by
  have := IntKind.wrap_u8' n
  simp [go_sem, this]
end Go.Proofs.Ytcngiinaneefjaa

namespace Go.Proofs.Ytcngiinaneefjaa

def numB (n : Nat) : List Int := if n < 128 then [(n : Int)] else ((n % 128 + 128 : Nat) : Int) :: numB (n / 128)
termination_by n
decreasing_by omega
def numBytes (n : Int) : List Int := if 0 ≤ n ∧ n ≤ 4294967295 then numB n.toNat else []
theorem numB_small {n : Nat} (h : n < 128) : numB n = [(n : Int)] := by rw [numB, if_pos h]
theorem numB_big {n : Nat} (h : 128 ≤ n) : numB n = ((n % 128 + 128 : Nat) : Int) :: numB (n / 128) := by rw [numB, if_neg (by omega)]
theorem numB_len (k : Nat) : ∀ n : Nat, n < 128 ^ (k + 1) → (numB n).length ≤ k + 1 := by
  induction k with
  | zero => intro n h; rw [numB_small (by omega)]; simp
  | succ k ih =>
    intro n h
    by_cases hn : n < 128
    · rw [numB_small hn]; simp
    · rw [numB_big (by omega)]
      have := ih (n / 128) (by rw [Nat.pow_succ] at h; omega)
      simp only [List.length_cons]; omega
theorem numBytes_len (n : Int) : (numBytes n).length ≤ 5 := by
  unfold numBytes
  split
  · exact numB_len 4 _ (by omega)
  · simp
theorem numB_pos (n : Nat) : 0 < (numB n).length := by
  by_cases h : n < 128
  · rw [numB_small h]; simp
  · rw [numB_big (by omega)]; simp

def numAt (l : List Int) : Nat → Nat → Int → Nat → Option (Int × Nat)
  | 0, _, _, _ => none
  | k + 1, p, n, a =>
    match l[a]? with
    | none => none
    | some b =>
      if b < 128 then (if n + b % 128 * 128 ^ p ≤ 4294967295 ∧ (0 < b ∨ p = 0) then some (n + b % 128 * 128 ^ p, a + 1) else none)
      else numAt l k (p + 1) (n + b % 128 * 128 ^ p) (a + 1)
def numRead (l : List Int) (a : Int) : Option (Int × Nat) := if 0 ≤ a then numAt l 5 0 0 a.toNat else none
end Go.Proofs.Ytcngiinaneefjaa

namespace Go.Proofs.Ytcngiinaneefjaa
open Go.RowKit

def VarAt (g : Nat) (w : World) : Prop := ∃ t u, w.cell? ⟨g, 0, none⟩ = some (.iface t u)
theorem VarAt.lt {g : Nat} {w : World} (h : VarAt g w) : g < w.heap.size := by
  obtain ⟨t, u, h⟩ := h
  exact World.block_lt_of_cell? _ _ h
theorem VarAt.turn {g : Nat} {w w' : World} {bs : List Nat} (h : VarAt g w) (hb : TurnB bs w w') (hn : g ∉ bs) : VarAt g w' := by
  have hl := h.lt
  obtain ⟨t, u, h⟩ := h
  have hk := hb.block g hl hn
  refine ⟨t, u, ?_⟩
  unfold World.cell? at h ⊢
  simp only at h ⊢
  rw [hk]; exact h
def HasAt (g : Nat) (w : World) : Prop := ∃ v, w.cell? ⟨g, 0, none⟩ = some v
theorem HasAt.lt {g : Nat} {w : World} (h : HasAt g w) : g < w.heap.size := by
  obtain ⟨v, h⟩ := h
  exact World.block_lt_of_cell? _ _ h
theorem HasAt.turn {g : Nat} {w w' : World} {bs : List Nat} (h : HasAt g w) (hb : TurnB bs w w') (hn : g ∉ bs) : HasAt g w' := by
  have hl := h.lt
  obtain ⟨u, h⟩ := h
  have hk := hb.block g hl hn
  refine ⟨u, ?_⟩
  unfold World.cell? at h ⊢
  simp only at h ⊢
  rw [hk]; exact h
theorem VarAt.has {g : Nat} {w : World} (h : VarAt g w) : HasAt g w := by
  obtain ⟨t, u, h⟩ := h
  exact ⟨_, h⟩
theorem must_ok (v : Value) (w : World) : Calls Try.prog 24 #[.bool true, v] w fun e w' => e = .returned (.tuple #[]) ∧ w = w' := by
  go_enter Try.func24, Try.ntmps24
  go_wp2_with fail
  first | go_end0 | refine bodyPost_ret (results_none rfl _ _ _) rfl ?_
  exact ⟨rfl, rfl⟩
theorem must_bad (t : TypeId) (u : Value) (w : World) : Calls Try.prog 24 #[.bool false, .iface t u] w fun e w' => e = .panicked [{ v := .iface t u, recovered := false }] ∧ w = w' := by
  go_enter Try.func24, Try.ntmps24
  go_wp2_with fail
  exact ⟨rfl, rfl, rfl⟩
def RdAt (w : World) (g : Nat) (t : TypeId) (A : Option Addr) (l : List Int) (c : Nat) (z : Int) : Prop := BlockIs w g t #[.slice A l.length c, .int .i64 z] ∧ l.length ≤ c
def Threw (e : Ending) : Prop := ∃ t u, e = .panicked [{ v := .iface t u, recovered := false }]
theorem BytSl.sub {w : World} {A : Option Addr} {l : List Int} {c z n : Nat} (h : BytSl w (.slice A l.length c) l) (hb : z + n ≤ l.length) (hlc : l.length ≤ c) :
    BytSl w (.slice (if c = z then A else Option.map (fun x => x.add z) A) (z + n - z) (c - z)) ((l.drop z).take n) := by
  have hlen : ((l.drop z).take n).length = n := by rw [List.length_take, List.length_drop]; omega
  rcases Nat.eq_zero_or_pos n with rfl | hn
  · exact .inl ⟨by simp, _, _, by rw [show z + 0 - z = 0 by omega]⟩
  · obtain ⟨A', c', e, h'⟩ := h.form
    simp only [Value.slice.injEq] at e
    obtain ⟨rfl, -, rfl⟩ := e
    obtain ⟨b, off, rfl, hbw, hat⟩ := h' (by omega)
    refine .inr ⟨b, off + z, c - z, ?_, hbw, fun i r hr => ?_⟩
    · rw [if_neg (by omega), hlen, Nat.add_sub_cancel_left]; simp [Go.WideShapes.add_plain]
    · have hi : i < n := by have := (List.getElem?_eq_some_iff.1 hr).1; omega
      rw [List.getElem?_take_of_lt hi, List.getElem?_drop] at hr
      have := hat (z + i) r hr
      rw [← Nat.add_assoc] at this
      exact this
set_option maxHeartbeats 1600000 in
theorem take_bad (w : World) (g : Nat) (t : TypeId) (A : Option Addr) (l : List Int) (c : Nat) (z : Int) (n : Nat) (h : RdAt w g t A l c z) (hl : l.length ≤ 1048576) (hn : n ≤ 255) (hz : z ≤ 9223372036854775807) (he : VarAt 1 w) (hb : z < 0 ∨ (l.length : Int) < z + n) :
    Calls Try.prog 25 #[.pointer (some ⟨g, 0, none⟩), .int .i64 n] w fun e w' => Threw e ∧ TurnB [] w w' := by
  obtain ⟨tt, u, hv⟩ := he
  have hc := h.1.cell
  by_cases hz0 : z < 0
  · have hz1 : decide ((0 : Int) ≤ z) = false := by simp; omega
    clear hb h
    go_enter Try.func25, Try.ntmps25
    go_wp2_with fail
    refine wp_region_held_drew (S := (fun w' => (∀ o, w'.cell? ⟨g, o, none⟩ = (#[.slice A l.length c, .int .i64 z] : Array Value)[o]?) ∧ w'.cell? ⟨1, 0, none⟩ = some (.iface tt u) ∧ TurnB [] w w')) (by kernel_rfl) (by (try dsimp only); exact ⟨hc, hv, TurnB.of_below (by repeat' (first | exact Below.refl _ _ | refine Below.alloc ?_ ?_ _ | refine Below.setCell ?_ ?_ _ | refine Below.drew ?_ | (apply below_step; assumption) | (simp; done) | (simp; omega) | omega))⟩) (fun hHeld => ?_)
    refine hT 0 ?_; simp only [Act.put, rhA, rhS, rhT]
    refine hT 1 ?_; simp only [Act.put, rhA, rhS, rhT]
    refine hT 2 ?_; simp only [Act.put, rhA, rhS, rhT]
    refine hT 3 ?_; simp only [Act.put, rhA, rhS, rhT]
    refine hT 4 ?_; simp only [Act.put, rhA, rhS, rhT]
    refine hT 5 ?_; simp only [Act.put, rhA, rhS, rhT]
    refine hP 6 ?_; simp only [Act.put, rhA, rhS, rhT]
    refine hP 7 ?_; simp only [Act.put, rhA, rhS, rhT]
    refine hP 8 ?_; simp only [Act.put, rhA, rhS, rhT]
    refine hP 9 ?_; simp only [Act.put, rhA, rhS, rhT]
    refine hP 10 ?_; simp only [Act.put, rhA, rhS, rhT]
    refine hP 11 ?_; simp only [Act.put, rhA, rhS, rhT]
    refine hP 12 ?_; simp only [Act.put, rhA, rhS, rhT]
    refine hP 13 ?_; simp only [Act.put, rhA, rhS, rhT]
    refine hP 14 ?_; simp only [Act.put, rhA, rhS, rhT]
    refine hP 15 ?_; simp only [Act.put, rhA, rhS, rhT]
    refine hP 16 ?_; simp only [Act.put, rhA, rhS, rhT]
    refine hP 17 ?_; simp only [Act.put, rhA, rhS, rhT]
    refine hT 18 ?_; simp only [Act.put, rhA, rhS, rhT]
    refine hT 19 ?_; simp only [Act.put, rhA, rhS, rhT]
    refine hCall (i := 20) (o := ?a27) ?b27 (by kernel_rfl) ?c27 (fun K hK => ?d27)
    case b27 => simp only [rhN, rhM]; try rfl
    case c27 => rfl
    go_simp
    refine (must_bad tt u _).mono ?_
    rintro e w1 ⟨rfl, rfl⟩
    exact ⟨rfl, ⟨_, _, rfl⟩, TurnB.of_below (by repeat' (first | exact Below.refl _ _ | refine Below.alloc ?_ ?_ _ | refine Below.setCell ?_ ?_ _ | refine Below.drew ?_ | (apply below_step; assumption) | (simp; done) | (simp; omega) | omega))⟩
  · have hz1 : decide ((0 : Int) ≤ z) = true := by simp; omega
    have hsub : IntKind.i64.wrap ((l.length : Int) - z) = (l.length : Int) - z := by rw [IntKind.wrap_i64]; omega
    have hb1 : decide ((n : Int) ≤ (l.length : Int) - z) = false := by simp; omega
    clear hb h hz0
    go_enter Try.func25, Try.ntmps25
    go_wp2_with fail
    refine wp_region_held_drew (S := (fun w' => (∀ o, w'.cell? ⟨g, o, none⟩ = (#[.slice A l.length c, .int .i64 z] : Array Value)[o]?) ∧ w'.cell? ⟨1, 0, none⟩ = some (.iface tt u) ∧ TurnB [] w w')) (by kernel_rfl) (by (try dsimp only); exact ⟨hc, hv, TurnB.of_below (by repeat' (first | exact Below.refl _ _ | refine Below.alloc ?_ ?_ _ | refine Below.setCell ?_ ?_ _ | refine Below.drew ?_ | (apply below_step; assumption) | (simp; done) | (simp; omega) | omega))⟩) (fun hHeld => ?_)
    refine hT 0 ?_; simp only [Act.put, rhA, rhS, rhT]
    refine hT 1 ?_; simp only [Act.put, rhA, rhS, rhT]
    refine hT 2 ?_; simp only [Act.put, rhA, rhS, rhT]
    refine hT 3 ?_; simp only [Act.put, rhA, rhS, rhT]
    refine hT 4 ?_; simp only [Act.put, rhA, rhS, rhT]
    refine hT 5 ?_; simp only [Act.put, rhA, rhS, rhT]
    refine hT 6 ?_; simp only [Act.put, rhA, rhS, rhT]
    refine hT 7 ?_; simp only [Act.put, rhA, rhS, rhT]
    refine hT 8 ?_; simp only [Act.put, rhA, rhS, rhT]
    refine hT 9 ?_; simp only [Act.put, rhA, rhS, rhT]
    refine hT 10 ?_; simp only [Act.put, rhA, rhS, rhT]
    refine hT 11 ?_; simp only [Act.put, rhA, rhS, rhT]
    refine hT 12 ?_; simp only [Act.put, rhA, rhS, rhT]
    refine hT 13 ?_; simp only [Act.put, rhA, rhS, rhT]
    refine hT 14 ?_; simp only [Act.put, rhA, rhS, rhT]
    refine hT 15 ?_; simp only [Act.put, rhA, rhS, rhT]
    refine hT 16 ?_; simp only [Act.put, rhA, rhS, rhT]
    refine hT 17 ?_; simp only [Act.put, rhA, rhS, rhT]
    refine hT 18 ?_; simp only [Act.put, rhA, rhS, rhT]
    refine hT 19 ?_; simp only [Act.put, rhA, rhS, rhT]
    refine hCall (i := 20) (o := ?a55) ?b55 (by kernel_rfl) ?c55 (fun K hK => ?d55)
    case b55 => simp only [rhN, rhM]; try rfl
    case c55 => rfl
    go_simp
    refine (must_bad tt u _).mono ?_
    rintro e w1 ⟨rfl, rfl⟩
    exact ⟨rfl, ⟨_, _, rfl⟩, TurnB.of_below (by repeat' (first | exact Below.refl _ _ | refine Below.alloc ?_ ?_ _ | refine Below.setCell ?_ ?_ _ | refine Below.drew ?_ | (apply below_step; assumption) | (simp; done) | (simp; omega) | omega))⟩
set_option maxHeartbeats 1600000 in
theorem take_ok (w0 w : World) (g : Nat) (t : TypeId) (A : Option Addr) (l : List Int) (c z n : Nat) (h : RdAt w g t A l c z) (hs : BytSl w0 (.slice A l.length c) l) (hl : l.length ≤ 1048576) (hn : n ≤ 255) (he : HasAt 1 w) (hb : z + n ≤ l.length) :
    Calls Try.prog 25 #[.pointer (some ⟨g, 0, none⟩), .int .i64 n] w fun e w' => (∃ B m, e = .returned (.slice B n m) ∧ BytSl w0 (.slice B n m) ((l.drop z).take n)) ∧ TurnB [g] w w' ∧ RdAt w' g t A l c ((z : Int) + n) := by
  obtain ⟨uv, hv⟩ := he
  have hlc := h.2
  have hc := h.1.cell
  have qf := h.1.frozen
  have hz1 : decide ((0 : Int) ≤ (z : Int)) = true := by simp
  have hsub : IntKind.i64.wrap ((l.length : Int) - (z : Int)) = (l.length : Int) - (z : Int) := by rw [IntKind.wrap_i64]; omega
  have hb1 : decide ((n : Int) ≤ (l.length : Int) - (z : Int)) = true := by simp; omega
  have HR := Lib.hid h
  clear h
  go_enter Try.func25, Try.ntmps25
  go_wp2_with fail
  refine wp_region_held_drew (S := (fun w' => (∀ o, w'.cell? ⟨g, o, none⟩ = (#[.slice A l.length c, .int .i64 (z : Int)] : Array Value)[o]?) ∧ w'.cell? ⟨1, 0, none⟩ = some uv ∧ TurnB [] w w')) (by kernel_rfl) (by (try dsimp only); exact ⟨hc, hv, TurnB.of_below (by repeat' (first | exact Below.refl _ _ | refine Below.alloc ?_ ?_ _ | refine Below.setCell ?_ ?_ _ | refine Below.drew ?_ | (apply below_step; assumption) | (simp; done) | (simp; omega) | omega))⟩) (fun hHeld => ?_)
  refine hT 0 ?_; simp only [Act.put, rhA, rhS, rhT]
  refine hT 1 ?_; simp only [Act.put, rhA, rhS, rhT]
  refine hT 2 ?_; simp only [Act.put, rhA, rhS, rhT]
  refine hT 3 ?_; simp only [Act.put, rhA, rhS, rhT]
  refine hT 4 ?_; simp only [Act.put, rhA, rhS, rhT]
  refine hT 5 ?_; simp only [Act.put, rhA, rhS, rhT]
  refine hT 6 ?_; simp only [Act.put, rhA, rhS, rhT]
  refine hT 7 ?_; simp only [Act.put, rhA, rhS, rhT]
  refine hT 8 ?_; simp only [Act.put, rhA, rhS, rhT]
  refine hT 9 ?_; simp only [Act.put, rhA, rhS, rhT]
  refine hT 10 ?_; simp only [Act.put, rhA, rhS, rhT]
  refine hT 11 ?_; simp only [Act.put, rhA, rhS, rhT]
  refine hT 12 ?_; simp only [Act.put, rhA, rhS, rhT]
  refine hT 13 ?_; simp only [Act.put, rhA, rhS, rhT]
  refine hT 14 ?_; simp only [Act.put, rhA, rhS, rhT]
  refine hT 15 ?_; simp only [Act.put, rhA, rhS, rhT]
  refine hT 16 ?_; simp only [Act.put, rhA, rhS, rhT]
  refine hT 17 ?_; simp only [Act.put, rhA, rhS, rhT]
  refine hT 18 ?_; simp only [Act.put, rhA, rhS, rhT]
  refine hT 19 ?_; simp only [Act.put, rhA, rhS, rhT]
  refine hCall (i := 20) (o := ?a83) ?b83 (by kernel_rfl) ?c83 (fun K hK => ?d83)
  case b83 => simp only [rhN, rhM]; try rfl
  case c83 => rfl
  go_simp
  refine (must_ok _ _).mono ?_
  rintro e w1 ⟨rfl, rfl⟩
  refine hK.out _ _ (by (try dsimp only); exact ⟨hc, hv, TurnB.of_below (by repeat' (first | exact Below.refl _ _ | refine Below.alloc ?_ ?_ _ | refine Below.setCell ?_ ?_ _ | refine Below.drew ?_ | (apply below_step; assumption) | (simp; done) | (simp; omega) | omega))⟩) (fun hHeld => ?_)
  clear hK K
  try simp only [Act.put, rhA, rhS, rhT]
  refine wpAnyH_done (by kernel_rfl) ?_ _
  have q0 := hc 0
  have q1 := hc 1
  simp at q0 q1
  have hadd : IntKind.i64.wrap ((z : Int) + (n : Int)) = (z : Int) + (n : Int) := by rw [IntKind.wrap_i64]; omega
  have hzn : (z : Int) ≤ (z : Int) + (n : Int) := by omega
  have hcp : (z : Int) + (n : Int) ≤ (c : Int) := by omega
  clear hHeld hc hsub
  go_wp2_with fail
  go_quiet (fail)
  have hsb := hs.sub hb hlc
  simp only [Nat.add_sub_cancel_left] at hsb ⊢
  generalize (if c = z then A else Option.map (fun x => x.add z) A) = B at hsb ⊢
  have HSB := Lib.hid hsb
  clear hsb
  go_wp2_with fail
  go_ret
  refine ⟨⟨_, _, rfl, HSB.out⟩, (TurnB.of_below (below_drewN (Below.refl _ _) _)).put (by simp) _ _, ?_, hlc⟩
  have := HR.out.1.put 1 (.int .i64 ((z : Int) + n))
  simpa [BlockIs, World.setCell, World.drewN] using this
theorem octet_bad (w : World) (g : Nat) (t : TypeId) (A : Option Addr) (l : List Int) (c : Nat) (z : Int) (h : RdAt w g t A l c z) (hl : l.length ≤ 1048576) (hz : z ≤ 9223372036854775807) (he : VarAt 1 w) (hb : z < 0 ∨ (l.length : Int) ≤ z) :
    Calls Try.prog 23 #[.pointer (some ⟨g, 0, none⟩)] w fun e w' => Threw e ∧ TurnB [] w w' := by
  have ht := take_bad w g t A l c z 1 h hl (by omega) hz he (by omega)
  go_enter Try.func23, Try.ntmps23
  go_wp2_with fail
  refine ht.mono ?_
  rintro e w1 ⟨⟨tt, u, rfl⟩, hT⟩
  exact ⟨rfl, ⟨_, _, rfl⟩, hT⟩
theorem octet_ok (w0 w : World) (g : Nat) (t : TypeId) (A : Option Addr) (l : List Int) (c z : Nat) (b : Int) (h : RdAt w g t A l c z) (hs : BytSl w0 (.slice A l.length c) l) (hw : Below w0.heap.size w0 w) (hg : w0.heap.size ≤ g) (hl : l.length ≤ 1048576) (he : HasAt 1 w) (hb : l[z]? = some b) :
    Calls Try.prog 23 #[.pointer (some ⟨g, 0, none⟩)] w fun e w' => e = .returned (.int .u8 b) ∧ TurnB [g] w w' ∧ RdAt w' g t A l c ((z : Int) + 1) := by
  have hzl := (List.getElem?_eq_some_iff.1 hb).1
  have ht := take_ok w0 w g t A l c z 1 h hs hl (by omega) he (by omega)
  have hd : (l.drop z).take 1 = [b] := by
    obtain ⟨hk, rfl⟩ := List.getElem?_eq_some_iff.1 hb
    rw [List.drop_eq_getElem_cons hk]; rfl
  rw [hd] at ht
  have HT := Lib.hid ht
  clear ht hd hs hb h
  go_enter Try.func23, Try.ntmps23
  go_wp2_with fail
  refine HT.out.mono ?_
  rintro e w1 ⟨⟨B, m, rfl, hS⟩, hT, hR⟩
  have hB : Below w0.heap.size w0 w1 := hw.trans (hT.below hw.size (by simpa using hg))
  obtain ⟨A', c', e', hf⟩ := hS.form
  simp only [Value.slice.injEq] at e'
  obtain ⟨rfl, -, rfl⟩ := e'
  obtain ⟨b', off, rfl, hbw, hat⟩ := hf (by simp)
  have q0 := (hat.below hB hbw) 0 b (by simp)
  simp at q0
  have HR := Lib.hid hR
  have HTT := Lib.hid hT
  clear hR hT hat hS hf
  go_wp2_with fail
  go_ret
  exact ⟨rfl, HTT.out, HR.out⟩
end Go.Proofs.Ytcngiinaneefjaa

namespace Go.Proofs.Ytcngiinaneefjaa
open Go.RowKit

def RdOut (w : World) (g : Nat) (t : TypeId) (A : Option Addr) (l : List Int) (c : Nat) (r : Option (Value × Nat)) (e : Ending) (w' : World) : Prop :=
  TurnB [g] w w' ∧ (match r with | some (v, z) => e = .returned v ∧ RdAt w' g t A l c z | none => Threw e)
structure RdCtx (w0 w : World) (g : Nat) (A : Option Addr) (l : List Int) (c : Nat) : Prop where
  sl : BytSl w0 (.slice A l.length c) l
  old : Below w0.heap.size w0 w
  new : w0.heap.size ≤ g
  len : l.length ≤ 1048576
  byte : ∀ b ∈ l, 0 ≤ b ∧ b ≤ 255
  ends : HasAt 1 w0
  num : HasAt 0 w0
section
variable {w0 w w' : World} {g : Nat} {A : Option Addr} {l : List Int} {c : Nat}
theorem VarAt.below {k : Nat} (h : VarAt k w0) (hb : Below w0.heap.size w0 w) : VarAt k w := by
  have hl := h.lt
  obtain ⟨t, u, h⟩ := h
  exact ⟨t, u, (hb.cell (p := ⟨k, 0, none⟩) hl).trans h⟩
theorem HasAt.below {k : Nat} (h : HasAt k w0) (hb : Below w0.heap.size w0 w) : HasAt k w := by
  have hl := h.lt
  obtain ⟨u, h⟩ := h
  exact ⟨u, (hb.cell (p := ⟨k, 0, none⟩) hl).trans h⟩
def Thrown (w : World) : Prop := VarAt 1 w ∧ VarAt 0 w
theorem RdCtx.turn (h : RdCtx w0 w g A l c) (hT : TurnB [g] w w') : RdCtx w0 w' g A l c := ⟨h.sl, h.old.trans (hT.below h.old.size (by simpa using h.new)), h.new, h.len, h.byte, h.ends, h.num⟩
end
theorem i64_or_nat (a b : Nat) (ha : a < 2 ^ 62) (hb : b < 2 ^ 62) : bits .or .i64 (a : Int) (b : Int) = ((a ||| b : Nat) : Int) := by
  have hx : a ||| b < 2 ^ 62 := Nat.or_lt_two_pow ha hb
  have e : ∀ x : Nat, x < 2 ^ 62 → (BitVec.ofInt 64 (x : Int)).toNat = x := fun x hx => by
    rw [BitVec.ofInt_natCast, BitVec.toNat_ofNat]; exact Nat.mod_eq_of_lt (by omega)
  show IntKind.i64.wrap ((BitVec.ofInt 64 (a : Int) ||| BitVec.ofInt 64 (b : Int)).toNat : Int) = _
  rw [BitVec.toNat_or, e a ha, e b hb, IntKind.wrap_i64]
  omega
def more (p n : Nat) (b : Int) : Nat := n + (b % 128).toNat * 128 ^ p
theorem pow_le (p : Nat) (hp : p < 5) : 128 ^ p ≤ 268435456 := by
  have : p = 0 ∨ p = 1 ∨ p = 2 ∨ p = 3 ∨ p = 4 := by omega
  rcases this with rfl | rfl | rfl | rfl | rfl <;> decide
theorem num_bits (p n : Nat) (b : Int) (hp : p < 5) (hn : n < 128 ^ p) : bits .or .i64 (n : Int) (wrap64 (b % 128 * 2 ^ (p * 7))) = (more p n b : Int) := by
  obtain ⟨x, hx⟩ : ∃ x : Nat, b % 128 = (x : Int) := ⟨(b % 128).toNat, by omega⟩
  have hx8 : x < 128 := by omega
  have hP := pow_le p hp
  have h2 : (2 : Nat) ^ (p * 7) = 128 ^ p := by rw [Nat.mul_comm, Nat.pow_mul]
  have h2' : (2 : Int) ^ (p * 7) = ((128 ^ p : Nat) : Int) := by rw [← h2]; simp
  have hm : x * 128 ^ p ≤ 127 * 268435456 := Nat.mul_le_mul (by omega) hP
  unfold more
  rw [hx, Int.toNat_natCast, h2', ← Int.natCast_mul]
  have hw : wrap64 ((x * 128 ^ p : Nat) : Int) = ((x * 128 ^ p : Nat) : Int) := by
    generalize x * 128 ^ p = y at hm
    simp only [wrap64]
    omega
  rw [hw, i64_or_nat _ _ (by omega) (by omega)]
  have := Nat.two_pow_add_eq_or_of_lt (b := n) (i := p * 7) (by rw [h2]; exact hn) x
  rw [h2] at this
  rw [Nat.or_comm, Nat.mul_comm x, ← this, Nat.add_comm]
theorem more_lt {p n : Nat} (b : Int) (hn : n < 128 ^ p) : more p n b < 128 ^ (p + 1) := by
  have hx : (b % 128).toNat ≤ 127 := by omega
  have := Nat.mul_le_mul_right (128 ^ p) hx
  unfold more
  rw [Nat.pow_succ]
  omega
theorem more_int (p n : Nat) (b : Int) : (n : Int) + b % 128 * 128 ^ p = (more p n b : Int) := by
  unfold more
  have : ((b % 128).toNat : Int) = b % 128 := by omega
  simp [this]
theorem numAt_step {l : List Int} {p n i : Nat} {b : Int} (hp : p < 5) (hb : l[i]? = some b) : numAt l (5 - p) p n i =
    if b < 128 then (if (more p n b : Int) ≤ 4294967295 ∧ (0 < b ∨ p = 0) then some ((more p n b : Int), i + 1) else none) else numAt l (5 - (p + 1)) (p + 1) (more p n b) (i + 1) := by
  rw [show 5 - p = (5 - (p + 1)) + 1 by omega]
  simp only [numAt, hb, more_int]
def numV (r : Option (Int × Nat)) : Option (Value × Nat) := r.map fun x => (.int .i64 x.1, x.2)
set_option maxRecDepth 20000 in
set_option maxHeartbeats 3200000 in
theorem number_any (w0 w : World) (g : Nat) (t : TypeId) (A : Option Addr) (l : List Int) (c : Nat) (z : Int) (h : RdAt w g t A l c z) (hx : RdCtx w0 w g A l c) (hz : z ≤ 9223372036854775807) (hv : Thrown w0 ∨ (numRead l z).isSome = true) :
    Calls Try.prog 21 #[.pointer (some ⟨g, 0, none⟩)] w (RdOut w g t A l c (numV (numRead l z))) := by
  by_cases hz0 : z < 0
  · have hE : numRead l z = none := by unfold numRead; rw [if_neg (by omega)]
    rw [hE]
    rw [hE] at hv
    have hv' := hv.resolve_right (by simp)
    have ho := octet_bad w g t A l c z h hx.len hz (hv'.1.below hx.old) (.inl hz0)
    have HO := Lib.hid ho
    clear ho h hx hE hv hv'
    go_enter Try.func21, Try.ntmps21
    go_wp2_with fail
    refine wp_loop_rounds 1 ?_
    rw [rounds_succ]
    go_wp2_with fail
    refine HO.out.mono ?_
    rintro e w1 ⟨⟨tt, u, rfl⟩, hT⟩
    exact ⟨rfl, hT.mono (by simp), ⟨_, _, rfl⟩⟩
  · obtain ⟨a, rfl⟩ := Int.eq_ofNat_of_zero_le (show 0 ≤ z by omega)
    have hE : numRead l (a : Int) = numAt l 5 0 0 a := by unfold numRead; rw [if_pos (by omega), Int.toNat_natCast]
    rw [hE] at hv ⊢
    have HV := Lib.hid hv
    have HX := Lib.hid hx
    have HR := Lib.hid h
    clear hE hx h hz0 hv
    go_enter Try.func21, Try.ntmps21
    go_wp2_with fail
    go_loopw [3, 6] (fun s3 s6 wr => ∃ p n : Nat, p ≤ 5 ∧ s6 = .int .i64 p ∧ s3 = .int .i64 n ∧ n < 128 ^ p ∧ numAt l 5 0 0 a = numAt l (5 - p) p n (a + p) ∧ RdAt wr g t A l c ((a + p : Nat) : Int) ∧ TurnB [g] w wr ∧ (p = 0 ∨ a + p ≤ l.length)) (fun _ s6 _ => (5 - intOf s6).toNat)
    case atStart => exact ⟨0, 0, by omega, rfl, rfl, by simp, rfl, by simpa using HR.out, TurnB.refl _ _, .inl rfl⟩
    case round =>
      obtain ⟨p, n, hp, rfl, rfl, hn, heq, hR, hT, hap⟩ := hrel
      have HQ := Lib.hid heq
      have HRR := Lib.hid hR
      have HT := Lib.hid hT
      have HN := Lib.hid hn
      clear heq hR hT hn
      by_cases hlt : p < 5
      · have hlti : (p : Int) < 5 := by omega
        cases hb : l[a + p]? with
        | none =>
          have HB := Lib.hid hb
          clear hb
          go_wp2_with fail
          have hcx := HX.out.turn HT.out
          have hlen : l.length ≤ a + p := List.getElem?_eq_none_iff.1 HB.out
          have hno : numAt l (5 - p) p n (a + p) = none := by
            rw [show 5 - p = (4 - p) + 1 by omega]
            simp only [numAt, HB.out]
          have hv' := HV.out.resolve_right (by rw [HQ.out, hno]; simp)
          refine (octet_bad _ g t A l c _ HRR.out hcx.len (by have := hcx.len; omega) (hv'.1.below hcx.old) (.inr (by omega))).mono ?_
          rintro e w1 ⟨⟨tt, u, rfl⟩, hT1⟩
          refine ⟨rfl, HT.out.trans (hT1.mono (by simp)), ?_⟩
          rw [HQ.out, hno]
          exact ⟨_, _, rfl⟩
        | some b =>
          have HB := Lib.hid hb
          clear hb
          go_wp2_with fail
          have hcx := HX.out.turn HT.out
          refine (octet_ok w0 _ g t A l c _ b HRR.out hcx.sl hcx.old hcx.new hcx.len (hcx.ends.below hcx.old) HB.out).mono ?_
          rintro e w1 ⟨rfl, hT1, hR1⟩
          have hby := hcx.byte b (List.mem_of_getElem? HB.out)
          have hn := num_bits p n b hlt HN.out
          have hstep := numAt_step (n := n) hlt HB.out
          obtain ⟨uv, hnum⟩ := (hcx.num.below hcx.old).turn hT1 (by have := hcx.num.lt; have := hcx.new; simp; omega)
          have HNV := Lib.hid (fun h : VarAt 0 w0 => (h.below hcx.old).turn hT1 (by have := hcx.num.lt; have := hcx.new; simp; omega))
          have HRR1 := Lib.hid hR1
          have HTT := Lib.hid (HT.out.trans hT1)
          have HML := Lib.hid (more_lt b HN.out)
          have hmb : more p n b ≤ 34359738367 := by have := HML.out; have := Nat.pow_le_pow_right (show 0 < 128 by omega) (show p + 1 ≤ 5 by omega); omega
          have hb0 := hby.1
          have hb255 := hby.2
          have HST := Lib.hid hstep
          generalize more p n b = m at hn HML HST hmb
          clear hstep hR1 hT1 hcx hby
          have hal : a + p < l.length := (List.getElem?_eq_some_iff.1 HB.out).1
          by_cases hb7 : b < 128
          · have hs1 := HST.out
            rw [if_pos hb7] at hs1
            have HS1 := Lib.hid hs1
            clear hs1 HST
            by_cases hle : (m : Int) ≤ 4294967295
            · by_cases hbp : 0 < b
              · have hd1 : decide (0 < b) = true := by simp [hbp]
                go_wp2_with (go_at_call 24; refine (must_ok _ _).mono ?_; rintro e w2 ⟨rfl, rfl⟩)
                go_ret
                refine ⟨HTT.out, ?_⟩
                rw [HQ.out, HS1.out, if_pos ⟨hle, .inl hbp⟩]
                exact ⟨rfl, by have := HRR1.out; simpa using this⟩
              · have hd1 : decide (0 < b) = false := by simp; omega
                by_cases hp0 : p = 0
                · have hd2 : ((p : Int) == 0) = true := by simp [hp0]
                  have HP := Lib.hid hp0
                  clear hp0
                  go_wp2_with (go_at_call 24; refine (must_ok _ _).mono ?_; rintro e w2 ⟨rfl, rfl⟩)
                  go_ret
                  refine ⟨HTT.out, ?_⟩
                  rw [HQ.out, HS1.out, if_pos ⟨hle, .inr HP.out⟩]
                  exact ⟨rfl, by have := HRR1.out; simpa using this⟩
                · have hd2 : ((p : Int) == 0) = false := by simp [hp0]
                  have HP := Lib.hid hp0
                  clear hp0
                  have hno := HS1.out
                  rw [if_neg (fun h => h.2.elim (fun h' => absurd h' (by omega)) HP.out)] at hno
                  obtain ⟨tt, uu, hnv⟩ := HNV.out (HV.out.resolve_right (by rw [HQ.out, hno]; simp)).2
                  obtain rfl := Option.some.inj (hnum.symm.trans hnv)
                  have HNO := Lib.hid hno
                  clear hno hnv
                  go_wp2_with fail
                  refine (must_bad _ _ _).mono ?_
                  rintro e w2 ⟨rfl, rfl⟩
                  refine ⟨rfl, HTT.out, ?_⟩
                  rw [HQ.out, HNO.out]
                  exact ⟨_, _, rfl⟩
            · have hno := HS1.out
              rw [if_neg (fun h => absurd h.1 (by omega))] at hno
              obtain ⟨tt, uu, hnv⟩ := HNV.out (HV.out.resolve_right (by rw [HQ.out, hno]; simp)).2
              obtain rfl := Option.some.inj (hnum.symm.trans hnv)
              have HNO := Lib.hid hno
              clear hno hnv
              go_wp2_with fail
              refine (must_bad _ _ _).mono ?_
              rintro e w2 ⟨rfl, rfl⟩
              refine ⟨rfl, HTT.out, ?_⟩
              rw [HQ.out, HNO.out]
              exact ⟨_, _, rfl⟩
          · have hs1 := HST.out
            rw [if_neg hb7] at hs1
            have HS1 := Lib.hid hs1
            clear hs1 HST
            go_wp2_with fail
            go_roundw
            case rel =>
              refine ⟨p + 1, m, by omega, by go_num, rfl, HML.out, ?_, ?_, HTT.out, .inr (by omega)⟩
              · rw [HQ.out, HS1.out]; rfl
              · rw [show ((a + (p + 1) : Nat) : Int) = ((a + p : Nat) : Int) + 1 by omega]; exact HRR1.out
            case measure => simp [intOf]; omega
      · have hp5 : p = 5 := by omega
        subst hp5
        have hcx := HX.out.turn HT.out
        have hv' := HV.out.resolve_right (by rw [HQ.out]; simp [numAt])
        obtain ⟨tt, uu, hnum⟩ := hv'.2.below hcx.old
        clear hv'
        go_wp2_with fail
        refine ⟨rfl, HT.out, ?_⟩
        rw [HQ.out]
        exact ⟨_, _, rfl⟩
end Go.Proofs.Ytcngiinaneefjaa

namespace Go.Proofs.Ytcngiinaneefjaa
open Go.RowKit

theorem catch_bad_i (p : Addr) (t : TypeId) (x : Value) (b : Bool) (w : World) (hc : w.cell? p = some (.bool b)) (hz : w.frozen? p = false) :
    CallsD Try.prog 22 #[.pointer (some p)] (.panicking [{ v := .iface t x, recovered := false }]) w fun e u' w' =>
      e = .returned (.tuple #[]) ∧ u' = .panicking [{ v := .iface t x, recovered := true }] ∧ w' = w.setCell p (.bool false) := by
  refine callsD_of_wpS Try.func22 rfl fun c₀ cs hu => ?_
  apply wpS_region
  simp [wpOpsS, go_sem, recoverD, hu, hc, hz, Try.ntmps22, bodyPostS, results, Try.results22]
theorem catch_idle_i (p : Addr) (b : Bool) (w : World) (hc : w.cell? p = some (.bool b)) (hz : w.frozen? p = false) :
    CallsD Try.prog 22 #[.pointer (some p)] .returning w fun e u' w' => e = .returned (.tuple #[]) ∧ u' = .returning ∧ w' = w.setCell p (.bool true) := by
  refine callsD_of_wpS Try.func22 rfl fun c₀ cs hu => ?_
  apply wpS_region
  simp [wpOpsS, go_sem, recoverD, hu, hc, hz, Try.ntmps22, bodyPostS, results, Try.results22]
  cases c₀
  simp_all

def decI (r : Option (Int × Nat)) : Value := match r with | some (n, z) => .tuple #[.int .i64 n, .int .i64 z, .bool true] | none => .tuple #[.int .i64 0, .int .i64 0, .bool false]
set_option maxRecDepth 20000 in
set_option maxHeartbeats 3200000 in
theorem decodeI_any (w : World) (A : Option Addr) (l : List Int) (c : Nat) (z : Int) (hs : BytSl w (.slice A l.length c) l) (hl : l.length ≤ 1048576) (hlc : l.length ≤ c) (hb : ∀ b ∈ l, 0 ≤ b ∧ b ≤ 255) (hz : z ≤ 9223372036854775807) (he : HasAt 1 w) (hn : HasAt 0 w) (hv : Thrown w ∨ (numRead l z).isSome = true) :
    Calls Try.prog 20 #[.slice A l.length c, .int .i64 z, .func (.methodOf 48 "loop.example/g00718/impl.number") #[] #[]] w fun e w' => e = .returned (decI (numRead l z)) ∧ Below w.heap.size w w' := by
  have hmf : ∀ (fn : Fn) (first cap : Array Value) (w : World), (Instr.makeFunc fn first cap).run Try.prog w = .ok (.func fn first cap) w := fun _ _ _ _ => rfl
  have hm : ∀ (b : Nat) (w : World), (method 173 48 (.pointer (some ⟨b, 0, none⟩)) "loop.example/g00718/impl.number").run Try.prog w = .ok (21, .pointer (some ⟨b, 0, none⟩)) w := fun b w => by kernel_rfl
  have hX : Below w.heap.size w ((w.alloc (.cells #[.bool false] 4)).alloc (.cells #[.slice A l.length c, .int .i64 z] 45)) := (by repeat' (first | exact Below.refl _ _ | refine Below.alloc ?_ ?_ _ | refine Below.setCell ?_ ?_ _ | refine Below.drew ?_ | (apply below_step; assumption) | (simp; done) | (simp; omega) | omega))
  have hcx : RdCtx w ((w.alloc (.cells #[.bool false] 4)).alloc (.cells #[.slice A l.length c, .int .i64 z] 45)) (w.heap.size + 1) A l c := ⟨hs, hX, by omega, hl, hb, he, hn⟩
  have hrd : RdAt ((w.alloc (.cells #[.bool false] 4)).alloc (.cells #[.slice A l.length c, .int .i64 z] 45)) (w.heap.size + 1) 45 A l c z := ⟨BlockIs.new' (by simp), hlc⟩
  have hnum := number_any w _ (w.heap.size + 1) 45 A l c z hrd hcx hz hv
  clear hv
  generalize numRead l z = q at hnum ⊢
  have BK : BlockIs ((w.alloc (.cells #[.bool false] 4)).alloc (.cells #[.slice A l.length c, .int .i64 z] 45)) w.heap.size 4 #[.bool false] := (BlockIs.new w _ _).alloc _
  have HNU := Lib.hid hnum
  have HBK := Lib.hid BK
  have HX := Lib.hid hX
  clear hnum hcx hrd hs he hn BK hX
  go_enter_defers Try.func20, Try.ntmps20
  go_wp2_with fail
  refine HNU.out.mono ?_
  rintro e w2 ⟨hT, hr⟩
  have B2 := HBK.out.turn hT (by simp)
  have hC2 : Below w.heap.size w w2 := HX.out.trans (hT.below HX.out.size (by simp))
  have k0 := B2.cell 0
  have kf := B2.frozen 0
  simp at k0
  have HC2 := Lib.hid hC2
  cases q with
  | none =>
    obtain ⟨tt, x, rfl⟩ := hr
    clear hT B2 hC2
    go_wp2_with fail
    refine leaves_cons (f := 22) (args := #[.pointer (some ⟨w.heap.size, 0, none⟩)]) (by simp) (by simp [go_sem]) ?_
    refine (catch_bad_i ⟨w.heap.size, 0, none⟩ tt x false _ k0 kf).mono ?_
    rintro e u' w'' ⟨rfl, rfl, rfl⟩
    have hl2 := World.block_lt_of_cell? _ _ k0
    simp [Leaves, settle, results, Try.results20, go_sem, k0, decI]
    exact HC2.out.setCell (p := ⟨w.heap.size, 0, none⟩) (Nat.le_refl _) _
  | some q =>
    obtain ⟨n, z'⟩ := q
    obtain ⟨rfl, hR⟩ := hr
    have q1 := hR.1.cell 1
    simp at q1
    have hl2 := World.block_lt_of_cell? _ _ k0
    clear hT B2 hR hC2
    dsimp only
    go_wp2_with fail
    go_region_held3 (fun w' => w'.cell? ⟨w.heap.size + 1, 1, none⟩ = some (.int .i64 z') ∧ Below w.heap.size w w' ∧ w'.frozen? ⟨w.heap.size, 0, none⟩ = false)
      (exact ⟨by (first | exact q1 | (go_simp; done)), by (first | exact HC2.out | exact HC2.out.drew | exact (HC2.out.setCell (p := ⟨w.heap.size, 0, none⟩) (Nat.le_refl _) _).drew | exact (HC2.out.setCell (p := ⟨w.heap.size, 0, none⟩) (Nat.le_refl _) _) | exact (HC2.out.drew.setCell (p := ⟨w.heap.size, 0, none⟩) (Nat.le_refl _) _)), by (first | exact kf | (go_simp; done))⟩)
      (first | fail)
    have k1 : (w2.setCell ⟨w.heap.size, 0, none⟩ (.bool true)).drew.cell? ⟨w.heap.size, 0, none⟩ = some (.bool true) := by go_simp
    have kf1 : (w2.setCell ⟨w.heap.size, 0, none⟩ (.bool true)).drew.frozen? ⟨w.heap.size, 0, none⟩ = false := by go_simp
    have hC3 : Below w.heap.size w (w2.setCell ⟨w.heap.size, 0, none⟩ (.bool true)).drew := (HC2.out.setCell (p := ⟨w.heap.size, 0, none⟩) (Nat.le_refl _) _).drew
    generalize (w2.setCell ⟨w.heap.size, 0, none⟩ (.bool true)).drew = w3 at k1 kf1 hC3 ⊢
    have HC3 := Lib.hid hC3
    clear hC3 k0 kf q1
    go_wp2_with fail
    refine leaves_cons (f := 22) (args := #[.pointer (some ⟨w.heap.size, 0, none⟩)]) (by simp) (by simp [go_sem]) ?_
    refine (catch_idle_i ⟨w.heap.size, 0, none⟩ true _ k1 kf1).mono ?_
    rintro e u' w'' ⟨rfl, rfl, rfl⟩
    simp [Leaves, settle, results, Try.results20, go_sem, k1, decI]
    exact HC3.out.setCell (p := ⟨w.heap.size, 0, none⟩) (Nat.le_refl _) _
end Go.Proofs.Ytcngiinaneefjaa

namespace Go.Proofs.Ytcngiinaneefjaa
open Go.RowKit

theorem NumRead_any (w : World) (A : Option Addr) (l : List Int) (c : Nat) (z : Int) (hs : BytSl w (.slice A l.length c) l) (hl : l.length ≤ 1048576) (hlc : l.length ≤ c) (hb : ∀ b ∈ l, 0 ≤ b ∧ b ≤ 255) (hz : z ≤ 9223372036854775807) (he : HasAt 1 w) (hn : HasAt 0 w) (hv : Thrown w ∨ (numRead l z).isSome = true) :
    Calls Try.prog 10 #[.slice A l.length c, .int .i64 z] w fun e w' => e = .returned (decI (numRead l z)) ∧ Below w.heap.size w w' := by
  have hd := decodeI_any w A l c z hs hl hlc hb hz he hn hv
  clear hv
  generalize numRead l z = q at hd ⊢
  have HD := Lib.hid hd
  clear hd hs he hn
  go_enter Try.func10, Try.ntmps10
  go_wp2_with fail
  refine HD.out.mono ?_
  rintro e w1 ⟨rfl, hb1⟩
  cases q with
  | none =>
    unfold decI
    go_wp2_with fail
    exact bodyPost_ret (v := .tuple #[.int .i64 0, .int .i64 0, .bool false]) (by simp [results, Try.results10, go_sem]) rfl ⟨rfl, hb1⟩
  | some q =>
    obtain ⟨n, z'⟩ := q
    unfold decI
    go_wp2_with fail
    exact bodyPost_ret (v := .tuple #[.int .i64 n, .int .i64 z', .bool true]) (by simp [results, Try.results10, go_sem]) rfl ⟨rfl, hb1⟩
end Go.Proofs.Ytcngiinaneefjaa

namespace Go.Proofs.Ytcngiinaneefjaa

theorem drop_cons {l : List Int} {i : Nat} {b : Int} {r : List Int} (h : l.drop i = b :: r) : l[i]? = some b ∧ l.drop (i + 1) = r := by
  constructor
  · have : (l.drop i)[0]? = some b := by rw [h]; rfl
    simpa using this
  · rw [← List.drop_drop, h]; rfl
theorem numAt_numB : ∀ (k : Nat) (l post : List Int) (p : Nat) (acc : Int) (N i : Nat), (numB N).length ≤ k → l.drop i = numB N ++ post → acc + N * 128 ^ p ≤ 4294967295 → (p = 0 ∨ 0 < N) →
    numAt l k p acc i = some (acc + N * 128 ^ p, i + (numB N).length) := by
  intro k
  induction k with
  | zero =>
    intro l post p acc N i hk
    have := numB_pos N
    omega
  | succ k ih =>
    intro l post p acc N i hk hd hm hp
    by_cases hN : N < 128
    · rw [numB_small hN] at hd ⊢
      obtain ⟨hb, _⟩ := drop_cons hd
      have e : ((N : Int) % 128) = N := by omega
      simp only [numAt, hb, e]
      rw [if_pos (by omega), if_pos ⟨hm, by omega⟩]
      simp
    · rw [numB_big (by omega)] at hd ⊢
      obtain ⟨hb, hr⟩ := drop_cons hd
      have e : (((N % 128 + 128 : Nat) : Int) % 128) = ((N % 128 : Nat) : Int) := by omega
      have hq : acc + ((N % 128 : Nat) : Int) * 128 ^ p + ((N / 128 : Nat) : Int) * 128 ^ (p + 1) = acc + (N : Int) * 128 ^ p := by
        have hN' : (N : Int) = ((N % 128 : Nat) : Int) + 128 * ((N / 128 : Nat) : Int) := by omega
        rw [Int.pow_succ, Int.add_assoc]
        congr 1
        conv => rhs; rw [hN', Int.add_mul]
        congr 1
        rw [Int.mul_comm ((128 : Int) ^ p) 128, ← Int.mul_assoc, Int.mul_comm _ 128]
      simp only [numAt, hb, e]
      rw [if_neg (by omega), ih l post (p + 1) _ (N / 128) (i + 1) (by rw [numB_big (by omega)] at hk; simpa using hk) hr (by rw [hq]; exact hm) (.inr (by omega)), hq]
      simp only [List.length_cons, Option.some.injEq, Prod.mk.injEq, true_and]
      omega
theorem num_back {n : Int} (h : 0 ≤ n ∧ n ≤ 4294967295) (pre post : List Int) : numRead (pre ++ numBytes n ++ post) pre.length = some (n, pre.length + (numBytes n).length) := by
  obtain ⟨N, rfl⟩ := Int.eq_ofNat_of_zero_le h.1
  have hl := numBytes_len (N : Int)
  have e : numBytes (N : Int) = numB N := by rw [numBytes, if_pos h, Int.toNat_natCast]
  rw [e] at hl ⊢
  unfold numRead
  rw [if_pos (by omega), Int.toNat_natCast, numAt_numB 5 _ post 0 0 N pre.length hl (by rw [List.append_assoc, List.drop_append_of_le_length (Nat.le_refl _), List.drop_length, List.nil_append]) (by simp; omega) (.inl rfl)]
  simp
theorem numB_bytes : ∀ N : Nat, ∀ b ∈ numB N, 0 ≤ b ∧ b ≤ 255 := by
  intro N
  induction N using Nat.strongRecOn with
  | _ N ih =>
    intro b hb
    by_cases h : N < 128
    · rw [numB_small h] at hb
      simp at hb; omega
    · rw [numB_big (by omega)] at hb
      rcases List.mem_cons.1 hb with rfl | hb
      · omega
      · exact ih (N / 128) (by omega) b hb
theorem numBytes_bytes (n : Int) : ∀ b ∈ numBytes n, 0 ≤ b ∧ b ≤ 255 := by
  unfold numBytes
  split
  · exact numB_bytes _
  · simp
end Go.Proofs.Ytcngiinaneefjaa

namespace Go.Proofs.Ytcngiinaneefjaa

def lWithin (n a b : Int) : Bool := decide (a ≤ n) && decide (n ≤ b)
def RetL (r : RV × Int) (w : World) (e : Ending) (w' : World) : Prop := e = .returned (.tuple #[.agg #[.int .i64 r.1.c, .int .i64 r.1.m, .int .i64 r.1.p], .int .i64 r.2]) ∧ Go.RowKit.Below w.heap.size w w'
theorem RetL.of {r r' : RV × Int} {w : World} (h : r' = r) : RetL r w = RetL r' w := by rw [h]
end Go.Proofs.Ytcngiinaneefjaa

namespace Go.Proofs.Ytcngiinaneefjaa
open Go.RowKit

theorem within_any (n a b : Int) (w : World) : Calls Try.prog 19 #[.int .i64 n, .int .i64 a, .int .i64 b] w fun e w' => e = .returned (.bool (lWithin n a b)) ∧ w = w' := by
  unfold lWithin
  generalize e1 : decide (a ≤ n) = b1
  cases b1
  all_goals
    go_enter Try.func19, Try.ntmps19
    go_wp2
    go_ret
    exact ⟨by simp, rfl⟩
end Go.Proofs.Ytcngiinaneefjaa

namespace Go.Proofs.Ytcngiinaneefjaa
open Go.RowKit

def RetByts (w : World) (l : List Int) (e : Ending) (w' : World) : Prop := ∃ v, e = .returned v ∧ OwnsY w' w.heap.size v l ∧ Below w.heap.size w w'
theorem bits_128 (m : Nat) : bits .or .u8 ((m : Int) % 128 % 256) 128 = ((m % 128 + 128 : Nat) : Int) := by
  have hx : (m % 128 ||| 128 : Nat) = m % 128 + 128 := by
    have := Nat.two_pow_add_eq_or_of_lt (b := m % 128) (i := 7) (by omega) 1
    rw [Nat.or_comm, show (128 : Nat) = 2 ^ 7 * 1 from rfl, ← this]
    omega
  rw [show ((m : Int) % 128 % 256) = ((m % 128 : Nat) : Int) by omega, show (128 : Int) = ((128 : Nat) : Int) from rfl, u8_or_nat _ _ (by omega) (by omega), hx]
theorem shr_7 (m : Nat) (w : World) : (binOp .shr 3 (.int .i64 m) (.int .u64 7)).run Try.prog w = .ok (.int .i64 ((m / 128 : Nat) : Int)) w := by
  simp [go_sem]

set_option maxHeartbeats 1600000 in
theorem NumBytes_any (n : Int) (w : World) : Calls Try.prog 8 #[.int .i64 n] w (RetByts w (numBytes n)) := by
  have cvt := conv_byte
  have hor := bits_128
  have hsh := shr_7
  by_cases hn : 0 ≤ n ∧ n ≤ 4294967295
  · have hE : numBytes n = numB n.toNat := by rw [numBytes, if_pos hn]
    have hlw : lWithin n 0 4294967295 = true := by simp [lWithin, hn]
    obtain ⟨N, rfl⟩ := Int.eq_ofNat_of_zero_le hn.1
    have hN : N ≤ 4294967295 := by omega
    rw [hE, Int.toNat_natCast]
    have HL := Lib.hid (numB_len 4 N (by omega))
    clear hE hn
    go_enter Try.func8, Try.ntmps8
    go_wp2_with (go_at_call 19; refine (within_any _ 0 4294967295 _).mono ?_; rintro e w1 ⟨rfl, rfl⟩; rw [hlw])
    go_loopw [0, 3] (fun s0 s3 wr => ∃ (m : Nat) (pre : List Int), s0 = .int .i64 m ∧ m ≤ 4294967295 ∧ numB N = pre ++ numB m ∧ OwnsY wr w.heap.size s3 pre ∧ Below w.heap.size w wr) (fun s0 _ _ => (intOf s0).toNat)
    case atStart => exact ⟨N, [], rfl, hN, rfl, OwnsY.nil _ _, Below.refl _ _⟩
    case round =>
      obtain ⟨m, pre, rfl, hm, hpre, hown, hB⟩ := hrel
      have HP := Lib.hid hpre
      have HO := Lib.hid hown
      have HLP := Lib.hid (show pre.length ≤ 5 by have := HL.out; rw [hpre, List.length_append] at this; omega)
      have hzr := hB.size
      clear hpre hown
      by_cases hlt : (128 : Int) ≤ (m : Int)
      · have HB := Lib.hid (numB_big (n := m) (by omega))
        go_wp2_with (at_builtin; refine wpList_append_y _ rfl (.tmp 11) (.tmp 16) rfl w.heap.size _ pre ((m % 128 + 128 : Nat) : Int) wr.heap.size rfl (HO.out.alloc _) rfl (by simp) (by have := HLP.out; omega) (by simp; omega) ?_; intro v' w6 hown6 hb6)
        go_roundw
        case rel =>
          refine ⟨m / 128, _, by go_num, by omega, ?_, hown6, (hB.alloc (by omega) _).trans hb6⟩
          rw [HP.out, HB.out, List.append_assoc]; rfl
        case measure => simp [intOf]; omega
      · have HB := Lib.hid (numB_small (n := m) (by omega))
        have hmm : (m : Int) % 256 = m := by omega
        go_wp2_with (at_builtin; refine wpList_append_y _ rfl (.tmp 18) (.tmp 21) rfl w.heap.size _ pre (m : Int) wr.heap.size rfl (HO.out.alloc _) rfl (by simp) (by have := HLP.out; omega) (by simp; omega) ?_; intro v' w6 hown6 hb6)
        go_ret
        exact ⟨_, rfl, by rw [HP.out, HB.out]; exact hown6, (hB.alloc (by omega) _).trans hb6⟩
  · have hE : numBytes n = [] := by rw [numBytes, if_neg hn]
    have hlw : lWithin n 0 4294967295 = false := by simp [lWithin]; omega
    rw [hE]
    clear hE
    go_enter Try.func8, Try.ntmps8
    go_wp2_with (go_at_call 19; refine (within_any _ 0 4294967295 _).mono ?_; rintro e w1 ⟨rfl, rfl⟩; rw [hlw])
    go_ret
    exact ⟨_, rfl, OwnsY.nil _ _, Below.refl _ _⟩
end Go.Proofs.Ytcngiinaneefjaa

namespace Go.Proofs.Ytcngiinaneefjaa
open Go.RowKit

theorem made_y (w : World) (b : Nat) (hb : b ≤ w.heap.size) : OwnsY (w.alloc (.cells #[] 5)) b (.slice (some ⟨w.heap.size, 0, none⟩) 0 0) [] := by
  have := World.ownsRow_made (base := b) (e := 5) (size := 1) w #[] 0 hb (by unfold maxLen; omega) (by simp)
  simpa [OwnsY, bytL] using this
set_option maxHeartbeats 1600000 in
theorem sNumBytes_any (n : Int) (w : World) : Calls Try.prog 9 #[.int .i64 n] w (RetByts w (numBytes n)) := by
  have cvt := conv_byte
  by_cases hn : 0 ≤ n ∧ n ≤ 4294967295
  · have hE : numBytes n = numB n.toNat := by rw [numBytes, if_pos hn]
    obtain ⟨N, rfl⟩ := Int.eq_ofNat_of_zero_le hn.1
    have hN : N ≤ 4294967295 := by omega
    have h1 : ¬ (N : Int) < 0 := by omega
    have h2 : ¬ (4294967295 : Int) < (N : Int) := by omega
    rw [hE, Int.toNat_natCast]
    have HL := Lib.hid (numB_len 4 N (by omega))
    clear hE hn
    go_enter Try.func9, Try.ntmps9
    go_wp2_with fail
    go_loopw [0, 3] (fun s0 s3 wr => ∃ (m : Nat) (pre : List Int), s0 = .int .i64 m ∧ m ≤ 4294967295 ∧ numB N = pre ++ numB m ∧ OwnsY wr w.heap.size s3 pre ∧ Below w.heap.size w wr) (fun s0 _ _ => (intOf s0).toNat)
    case atStart => exact ⟨N, [], rfl, hN, rfl, made_y w _ (Nat.le_refl _), (by repeat' (first | exact Below.refl _ _ | refine Below.alloc ?_ ?_ _ | refine Below.setCell ?_ ?_ _ | refine Below.drew ?_ | (apply below_step; assumption) | (simp; done) | (simp; omega) | omega))⟩
    case round =>
      obtain ⟨m, pre, rfl, hm, hpre, hown, hB⟩ := hrel
      have HP := Lib.hid hpre
      have HO := Lib.hid hown
      have HLP := Lib.hid (show pre.length ≤ 5 by have := HL.out; rw [hpre, List.length_append] at this; omega)
      have hzr := hB.size
      clear hpre hown
      by_cases hlt : (128 : Int) ≤ (m : Int)
      · have HB := Lib.hid (numB_big (n := m) (by omega))
        have hmm : (128 + (m : Int) % 128) % 256 = ((m % 128 + 128 : Nat) : Int) := by omega
        go_wp2_with (at_builtin; refine wpList_append_y _ rfl (.tmp 13) (.tmp 18) rfl w.heap.size _ pre ((m % 128 + 128 : Nat) : Int) wr.heap.size rfl (HO.out.alloc _) rfl (by simp) (by have := HLP.out; omega) (by simp; omega) ?_; intro v' w6 hown6 hb6)
        go_roundw
        case rel =>
          refine ⟨m / 128, _, by go_num, by omega, ?_, hown6, (hB.alloc (by omega) _).trans hb6⟩
          rw [HP.out, HB.out, List.append_assoc]; rfl
        case measure => simp [intOf]; omega
      · have HB := Lib.hid (numB_small (n := m) (by omega))
        have hmm : (m : Int) % 256 = m := by omega
        go_wp2_with (at_builtin; refine wpList_append_y _ rfl (.tmp 22) (.tmp 25) rfl w.heap.size _ pre (m : Int) wr.heap.size rfl (HO.out.alloc _) rfl (by simp) (by have := HLP.out; omega) (by simp; omega) ?_; intro v' w6 hown6 hb6)
        go_ret
        exact ⟨_, rfl, by rw [HP.out, HB.out]; exact hown6, (hB.alloc (by omega) _).trans hb6⟩
  · have hE : numBytes n = [] := by rw [numBytes, if_neg hn]
    rw [hE]
    by_cases h1 : n < 0
    · clear hE
      go_enter Try.func9, Try.ntmps9
      go_wp2_with fail
      go_ret
      exact ⟨_, rfl, OwnsY.nil _ _, Below.refl _ _⟩
    · have h2 : (4294967295 : Int) < n := by omega
      clear hE
      go_enter Try.func9, Try.ntmps9
      go_wp2_with fail
      go_ret
      exact ⟨_, rfl, OwnsY.nil _ _, Below.refl _ _⟩
end Go.Proofs.Ytcngiinaneefjaa

namespace Go.Proofs.Ytcngiinaneefjaa
open Go.RowKit

theorem IntSl.new (w : World) (l : List Int) : IntSl (w.alloc (.cells (intL l).toArray 3)) (.slice (some ⟨w.heap.size, 0, none⟩) l.length l.length) l := by
  rcases Nat.eq_zero_or_pos l.length with h0 | hp
  · obtain rfl : l = [] := List.eq_nil_of_length_eq_zero h0
    exact .inl ⟨rfl, _, _, rfl⟩
  · refine .inr ⟨w.heap.size, 0, _, rfl, by simp, fun i r hr => ?_⟩
    rw [(BlockIs.new w 3 (intL l).toArray).cell]
    simp [intL, hr]
theorem OwnsJ.new (w : World) (l : List Int) (b : Nat) (hb : b ≤ w.heap.size) (hl : l.length ≤ 4000000) : OwnsJ (w.alloc (.cells (intL l).toArray 3)) b (.slice (some ⟨w.heap.size, 0, none⟩) l.length l.length) l := by
  have := World.ownsRow_lit (base := b) (e := 3) (size := 1) w (intL l).toArray l.length hb (by unfold maxLen; omega) (by simp [intL])
  simpa [OwnsJ] using this

theorem run_zero_y {base : Nat} (w : World) (ty : TypeId) (v : Value) (l : List Int) (A : Option Addr) (c : Nat) (hown : OwnsY w base v l) :
    (Builtin.append_ #[22, 22] ty #[v, .slice A 0 c]).run Try.prog w = .ok v w := by
  obtain ⟨i0, hi0, hz0, hz1, hz2⟩ := info_parts Try.infoY
  exact run_append_zero w 22 ty 5 i0 1 Try.underlying22 hi0 v l.length (bytL l) A c hown.o
theorem run_spread_y (w : World) (ty : TypeId) (base : Nat) (v : Value) (l news : List Int) (A : Option Addr) (c : Nat) (hown : OwnsY w base v l) (hn : BytSl w (.slice A news.length c) news)
    (hl : l.length + news.length ≤ 4000000) (hbase : base ≤ w.heap.size) :
    ∃ v' w', (Builtin.append_ #[22, 22] ty #[v, .slice A news.length c]).run Try.prog w = .ok v' w' ∧ OwnsY w' base v' (l ++ news) ∧ Below base w w' ∧ w.grownBy w' v.ownBlock ∧ (v'.ownBlock = v.ownBlock ∨ v'.ownBlock = some w.heap.size) := by
  obtain ⟨i0, hi0, hz0, hz1, hz2⟩ := info_parts Try.infoY
  rcases Nat.eq_zero_or_pos news.length with h0 | hp
  · obtain rfl : news = [] := List.eq_nil_of_length_eq_zero h0
    exact ⟨v, w, run_zero_y w ty v l A c hown, by simpa using hown, Below.refl _ _, grownBy_refl _ _, .inl rfl⟩
  · obtain ⟨b, off, rfl, hc⟩ := hn.news hp
    obtain ⟨v', w', hr, h2, h3, _, h5⟩ := run_append_own_at (P := Try.prog) w base 22 ty 5 i0 _ 1 1 Try.underlying22 hi0 hz0 hz1 hz2 rfl (by omega) v l.length (bytL l) hown ⟨b, off, none⟩ news.length c (bytL news) (by simp [bytL]) (cellsAt_add hc) (bytL_one _) (by simp only [maxLen]; omega) (by omega) hbase
    refine ⟨v', w', hr, ?_, (Below.refl _ _).grown h3 hbase (fun k hk => (World.ownsRow.lt hown k hk).1), h3, h5⟩
    unfold OwnsY
    rw [List.length_append, show bytL (l ++ news) = bytL l ++ bytL news by simp [bytL]]
    exact h2
theorem wpList_spread_y {ops : Array Oper} {rest : List Oper} {o : Oper} {a : Act} {Q : Exit → Act → World → Prop} (w : World) (hgd : o.guard = none) (s x : Operand)
    (ho : o.op = .call { callee := .builtin .append, args := #[s, x], argTypes := #[22, 22] })
    (base : Nat) (v : Value) (l news : List Int) (A : Option Addr) (c : Nat) (hs : a.eval s = v) (hx : a.eval x = .slice A news.length c) (hown : OwnsY w base v l) (hn : BytSl w (.slice A news.length c) news)
    (hl : l.length + news.length ≤ 4000000) (hbase : base ≤ w.heap.size)
    (h : ∀ v' w', OwnsY w' base v' (l ++ news) → Below base w w' → w.grownBy w' v.ownBlock → wpList Try.prog ops Q rest (a.put o.dst v') w') : wpList Try.prog ops Q (o :: rest) a w := by
  obtain ⟨v', w', hr, h2, h3, h4, h5⟩ := run_spread_y w o.type base v l news A c hown hn hl hbase
  refine wpList_plain hgd fun K hK => ?_
  unfold Oper.wp execOp
  simp only [ho, resolve, invoke, builtin, Sem.run_bind, Sem.run_pure, Result.andThen_ok, List.map_toArray, List.map_cons, List.map_nil, hs, hx, hr]
  exact hK _ _ (h v' w' h2 h3 h4)
theorem BytSl.new (w : World) (l : List Int) : BytSl (w.alloc (.cells (bytL l).toArray 5)) (.slice (some ⟨w.heap.size, 0, none⟩) l.length l.length) l := by
  rcases Nat.eq_zero_or_pos l.length with h0 | hp
  · obtain rfl : l = [] := List.eq_nil_of_length_eq_zero h0
    exact .inl ⟨rfl, _, _, rfl⟩
  · refine .inr ⟨w.heap.size, 0, _, rfl, by simp, fun i r hr => ?_⟩
    rw [(BlockIs.new w 5 (bytL l).toArray).cell]
    simp [bytL, hr]
theorem OwnsY.new (w : World) (l : List Int) (b : Nat) (hb : b ≤ w.heap.size) (hl : l.length ≤ 4000000) : OwnsY (w.alloc (.cells (bytL l).toArray 5)) b (.slice (some ⟨w.heap.size, 0, none⟩) l.length l.length) l := by
  have := World.ownsRow_lit (base := b) (e := 5) (size := 1) w (bytL l).toArray l.length hb (by unfold maxLen; omega) (by simp [bytL])
  simpa [OwnsY] using this
theorem OwnsY.one_blk {w : World} {b : Nat} {a : Int} (hb : b ≤ w.heap.size) : OwnsY (w.alloc (.cells #[.int .u8 a] 5)) b (.slice (some ⟨w.heap.size, 0, none⟩) 1 1) [a] := OwnsY.new w [a] b hb (by simp)
end Go.Proofs.Ytcngiinaneefjaa
