/- errors.As at what this program hands it: nil, and a rejection. What the handle variable errors.errorType holds, out of 'laid'. The contracts of answer and of (request).check at the kinds that TaskAdd, NodeAdd and the drops ask for. TaskAdd in plain Lean; what an operation hands back. The contract of the model's TaskAdd. The operations that need what they name (TaskDrop, NodeDrop, Cordon, BindDrop) in plain Lean; a valid cluster's Ids. What an operation's inner function gives (a cluster of the call's own and an error) and what answer makes of it. The contracts of copyList, copyTask, copyNode. The contract of copyCluster. The contracts of withTask and TaskAdd. A function value that tells of each element whether p holds; the first place at which it holds: slices.IndexFunc over tasks, nodes and bindings. slices.DeleteFunc over rows of tasks, nodes and bindings that a call owns. -/
import Derived.Test.YtocfgejceoenmaaDoorBase
import Derived.LaidEql
import Derived.Stop.Asserts
import Derived.RowKitTokens
import Derived.Test.YtocfgejceoenmaaDoorResRow
import Derived.LaidHandle
import Derived.Test.YtocfgejceoenmaaDoorCluUsed
import Derived.Test.YtocfgejceoenmaaDoorMgMark
import Derived.Test.YtocfgejceoenmaaDoorCluSOk
import Derived.Deep.RegionHeld3
import Derived.Test.YtocfgejceoenmaaDoorRegHeld
import Derived.Laws.Tables
import Derived.Laws.Rows
import Derived.Laws.CopyOwn
import Derived.Shelf.Abstract
import Derived.Lib.SliceRun
namespace Go.Proofs.YtocfgejceoenmaaDoor
open Go.RowKit Go.Extern.Stop Go.Stop Go.Extern

theorem asMKind (t : Nat) (w : World) : (Go.method 250 102 (.agg #[.pointer (some ⟨1, t, none⟩)]) "Kind").run Tryd.prog w = .ok (84, .pointer (some ⟨1, t, none⟩)) w := by kernel_rfl
theorem asMElem (v : Value) (w : World) : (Go.method 250 102 v "Elem").run Tryd.prog w = .ok (88, v) w := by kernel_rfl
theorem asMImpl (v : Value) (w : World) : (Go.method 250 102 v "Implements").run Tryd.prog w = .ok (89, v) w := by kernel_rfl
theorem asMAssign (v : Value) (w : World) : (Go.method 250 102 v "AssignableTo").run Tryd.prog w = .ok (86, v) w := by kernel_rfl
theorem rlm (z : Sem Value) (f : TypeId → Addr → Nat → Nat → Sem Value) (v : Value) :
    ReflectliteValue.method z f #[v] = (do match ← ReflectliteValue.parts v with | none => z | some (t, a, fl) => f t a fl (fl % 32)) := rfl
theorem rls (v x : Value) : ReflectliteValue.set #[v, x] = (do
    let (some (dst, a, fl), some (src, b, _)) := (← ReflectliteValue.parts v, ← ReflectliteValue.parts x)
      | unsupported (.noEntry "extern/(internal/reflectlite.Value).Set.zeroValue")
    if fl / ReflectliteValue.flagAddr % 2 == 0 then unsupported (.noEntry "extern/(internal/reflectlite.Value).Set.unaddressable")
    let val ← loadVar src b
    if ← Rtype.directlyAssignable dst src then storeVar dst a val
    else if ← Rtype.implements dst src then
      if (← Rtype.kind src) == 20 then
        match val with
        | .nilIface => unsupported (.noEntry "extern/reflectlite: a nil value of one interface type handed on as a value of another")
        | _ => storeVar dst a val
      else storeVar dst a (.iface src val)
    else panicString ("reflectlite.Set: value of type " ++ (← Rtype.spelt src) ++ " is not assignable to type " ++ (← Rtype.spelt dst))
    pure (.tuple #[])) := rfl
end Go.Proofs.YtocfgejceoenmaaDoor

namespace Go.Proofs.YtocfgejceoenmaaDoor
open Go.ChangeShapes Go.WideShapes Go.ChangeAt Go.RowKit Go.Joins

theorem Tryd.rtT : (Tryd.prog.cutTypes.find? (·.1 == "internal/reflectlite.rtype")).map (·.2) = some 102 := by kernel_rfl
theorem Tryd.oneRow : ((List.range 150).filter fun t => Tryd.prog.rowNamed t [101, 114, 114, 111, 114]) = [79] := by kernel_rfl
theorem Tryd.tsize : Tryd.prog.types.size = 150 := by kernel_rfl
theorem Tryd.hand : typeHandle Tryd.prog 79 = .pointer (some ⟨1, 79, none⟩) := by kernel_rfl
end Go.Proofs.YtocfgejceoenmaaDoor

namespace Go.Proofs.YtocfgejceoenmaaDoor
open Go.RowKit

/-- The kind of a rejection where something is to be added. -/
def codeAdd (inv ok ex full : Bool) : Int := if inv || !ok then 1 else if ex then 2 else if full then 4 else 0
/-- The kind where something is needed. -/
def codeNone (inv ok ex : Bool) : Int := if inv || !ok then 1 else if ex then 0 else 3
end Go.Proofs.YtocfgejceoenmaaDoor

namespace Go.Proofs.YtocfgejceoenmaaDoor
open Go.RowKit

def taskAddG (c : CV) (t : TV) : CV × Int :=
  if clusterOk c && t.ok then
    match fstBy TV.id c.tasks t.id with
    | some _ => (CV.zero, 2)
    | none => if c.tasks.length = 30 then (CV.zero, 4) else ({ c with tasks := c.tasks ++ [t] }, 0)
  else (CV.zero, 1)
theorem taskAddG_form {c : CV} {t : TV} (h : (clusterOk c && t.ok) = false) : taskAddG c t = (CV.zero, 1) := by unfold taskAddG; rw [h]; rfl
theorem taskAddG_twice {c : CV} {t x : TV} (h : (clusterOk c && t.ok) = true) (hx : fstBy TV.id c.tasks t.id = some x) : taskAddG c t = (CV.zero, 2) := by unfold taskAddG; rw [h, hx]; rfl
theorem taskAddG_full {c : CV} {t : TV} (h : (clusterOk c && t.ok) = true) (hx : fstBy TV.id c.tasks t.id = none) (hl : c.tasks.length = 30) : taskAddG c t = (CV.zero, 4) := by unfold taskAddG; rw [h, hx]; simp [hl]
theorem taskAddG_fine {c : CV} {t : TV} (h : (clusterOk c && t.ok) = true) (hx : fstBy TV.id c.tasks t.id = none) (hl : c.tasks.length ≠ 30) : taskAddG c t = ({ c with tasks := c.tasks ++ [t] }, 0) := by unfold taskAddG; rw [h, hx]; simp [hl]
end Go.Proofs.YtocfgejceoenmaaDoor

namespace Go.Proofs.YtocfgejceoenmaaDoor
open Go.RowKit

theorem clu_put {w : World} {g : Nat} {t : TypeId} {a b c : Value} (h : BlockIs w g t #[a, b, c]) (x y z : Value) : BlockIs (((w.setCell ⟨g, 0, none⟩ (x)).setCell ⟨g, 1, none⟩ (y)).setCell ⟨g, 2, none⟩ (z)) g t #[x, y, z] := by
  simpa using ((h.put 0 x).put 1 y).put 2 z
theorem clu_below {B : Nat} {a w : World} {g : Nat} (h : Below B a w) (hg : B ≤ g) (u v x : Value) : Below B a (((w.setCell ⟨g, 0, none⟩ (u)).setCell ⟨g, 1, none⟩ (v)).setCell ⟨g, 2, none⟩ (x)) := ((h.setCell hg _).setCell hg _).setCell hg _
theorem clusterOk_len {c : CV} (h : clusterOk c = true) : c.tasks.length ≤ 30 ∧ c.nodes.length ≤ 20 := by
  simp only [clusterOk, tasksOk, nodesOk, Bool.and_eq_true, decide_eq_true_eq] at h
  exact ⟨h.1.1.1.1, h.1.1.2.1⟩
/-- One element more at the end of a row of the call's own; then a store into block G. -/
theorem copy_push {α : Type} {R : World → α → List Value → List Nat → Prop} (hR : Framed R) (hRlt : ∀ (w : World) x cs b, R w x cs b → ∀ c ∈ b, c < w.heap.size) {ty : TypeId} {n G k off : Nat} {wr w3 w4 : World} {l : List α} {x : α} {xs cs : List Value} {bi bx : List Nat} {v v' u : Value} {o : Obj}
    (hl : l.length = k) (hown : wr.ownsRow 0 ty n v k xs) (hel : Elems R wr l xs bi) (hnd : (blk v ++ bi).Nodup) (hG1 : ∀ b ∈ blk v ++ bi, b ≠ G) (hG2 : G < wr.heap.size)
    (hb3 : Below wr.heap.size wr w3) (hO3 : R w3 x cs bx) (hnd3 : bx.Nodup) (hlo3 : ∀ b ∈ bx, wr.heap.size ≤ b)
    (hg4 : (w3.alloc o).grownBy w4 v.ownBlock) (hk4 : v'.ownBlock = v.ownBlock ∨ v'.ownBlock = some (w3.alloc o).heap.size) (hown4 : w4.ownsRow 0 ty n v' (k + 1) (xs ++ cs)) :
    ∃ bT, RowO R ty n (w4.setCell ⟨G, off, none⟩ u) v' (l ++ [x]) bT ∧ bT.Nodup ∧ ∀ b ∈ bT, b ∈ blk v ++ bi ∨ wr.heap.size ≤ b := by
  have hA : Below w3.heap.size w3 (w3.alloc o) := (Below.refl _ _).alloc (Nat.le_refl _) o
  have hz := hb3.size
  have hza := hA.size
  have hlv := own_lt hown
  have hli := elems_lt (fun x cs b h => hRlt _ x cs b h) hel
  have hlx := hRlt _ _ _ _ hO3
  have hel3 := hel.agree hR (Agree.of_below (below_of hb3 hA) hli)
  have hO3' := hR _ _ _ _ _ hO3 (Agree.of_below hA hlx)
  rw [List.nodup_append] at hnd
  obtain ⟨n1, n2, n3⟩ := hnd
  have hn : (blk v ++ (bi ++ bx)).Nodup := by
    rw [List.nodup_append, List.nodup_append]
    refine ⟨n1, ⟨n2, hnd3, fun a ha b hb e => by have := hli a ha; have := hlo3 b hb; omega⟩, fun a ha b hb e => ?_⟩
    rcases List.mem_append.1 hb with hb | hb
    · exact n3 a ha b hb e
    · have := hlv a ha; have := hlo3 b hb; omega
  obtain ⟨hr4, hnd4⟩ := pushed (ty := ty) (n := n) hR hel3 hO3' hn (by
    intro c hc
    rcases List.mem_append.1 hc with h | h
    · have := hli c h; omega
    · have := hlx c h; omega) (by intro c hc; have := hlv c hc; omega) (by rw [hl]; exact hown4) hg4 hk4
  have hlo4 : ∀ b ∈ blk v' ++ (bi ++ bx), b ∈ blk v ++ bi ∨ wr.heap.size ≤ b := by
    intro b hb
    rcases List.mem_append.1 hb with h | h
    · rcases hk4 with e | e
      · exact .inl (List.mem_append_left _ (by simpa [blk, e] using h))
      · right; simp [blk, e] at h; simp at hza; omega
    · rcases List.mem_append.1 h with h | h
      · exact .inl (List.mem_append_right _ h)
      · exact .inr (hlo3 b h)
  refine ⟨_, hr4.agree hR (fun b hb => Below.heap_setCell _ _ _ b (by
    rcases hlo4 b hb with h | h
    · exact hG1 b h
    · dsimp only; omega)), hnd4, hlo4⟩
end Go.Proofs.YtocfgejceoenmaaDoor

namespace Go.Proofs.YtocfgejceoenmaaDoor

/-- Without the elements of a key. -/
def dropBy {α : Type} (key : α → Int) (z : Int) (l : List α) : List α := l.filter fun x => !decide (key x = z)
def cordonOn (z : Int) (on : Bool) (l : List NV) : List NV := l.map fun n => if n.id = z then { n with cordon := on } else n
def needG (c : CV) (some : Bool) (r : CV) : CV × Int := if clusterOk c then (if some then (r, 0) else (CV.zero, 3)) else (CV.zero, 1)
def taskDropG (c : CV) (z : Int) : CV × Int := needG c (fstBy TV.id c.tasks z).isSome { c with tasks := dropBy TV.id z c.tasks, binds := dropBy BV.task z c.binds }
def nodeDropG (c : CV) (z : Int) : CV × Int := needG c (fstBy NV.id c.nodes z).isSome { c with nodes := dropBy NV.id z c.nodes, binds := dropBy BV.node z c.binds }
def bindDropG (c : CV) (z : Int) : CV × Int := needG c (fstBy BV.task c.binds z).isSome { c with binds := dropBy BV.task z c.binds }
def cordonG (c : CV) (z : Int) (on : Bool) : CV × Int := needG c (fstBy NV.id c.nodes z).isSome { c with nodes := cordonOn z on c.nodes }
theorem needG_form {c r : CV} {s : Bool} (h : clusterOk c = false) : needG c s r = (CV.zero, 1) := by unfold needG; rw [h]; rfl
theorem needG_none {c r : CV} (h : clusterOk c = true) : needG c false r = (CV.zero, 3) := by unfold needG; rw [h]; rfl
theorem needG_fine {c r : CV} (h : clusterOk c = true) : needG c true r = (r, 0) := by unfold needG; rw [h]; rfl
theorem needG_zero {c r : CV} {s : Bool} (h : (needG c s r).2 ≠ 0) : (needG c s r).1 = CV.zero := by
  cases hk : clusterOk c
  · rw [needG_form hk]
  · cases s
    · rw [needG_none hk]
    · rw [needG_fine hk] at h; exact absurd rfl h

section
variable {α : Type} {key : α → Int} {z : Int} {l : List α}
theorem dropBy_le : (dropBy key z l).length ≤ l.length := List.length_filter_le _ _
theorem dropBy_none (h : ∀ x ∈ l, key x ≠ z) : dropBy key z l = l := List.filter_eq_self.2 (fun x hx => by simp [h x hx])
/-- Where the keys are distinct one element goes. -/
theorem dropBy_one {j : Nat} {x : α} (hx : l[j]? = some x) (hk : key x = z) (hd : (l.map key).Nodup) : l.take j ++ l.drop (j + 1) = dropBy key z l := by
  induction l generalizing j with
  | nil => simp at hx
  | cons y r ih =>
    rw [List.map_cons, List.nodup_cons] at hd
    cases j with
    | zero =>
      simp at hx; subst hx
      have : ∀ a ∈ r, key a ≠ z := fun a ha e => hd.1 (List.mem_map.2 ⟨a, ha, by rw [e, hk]⟩)
      have h2 := dropBy_none this
      unfold dropBy at h2 ⊢
      simp [hk, h2]
    | succ j =>
      simp at hx
      have hne : key y ≠ z := fun e => hd.1 (List.mem_map.2 ⟨x, List.mem_of_getElem? hx, by rw [hk, e]⟩)
      have h2 := ih hx hd.2
      unfold dropBy at h2 ⊢
      simp [hne, h2]
end
theorem tasksFrom_nodup {s : List Int} {l : List TV} (h : tasksFrom s l = true) : (l.map TV.id).Nodup ∧ ∀ t ∈ l, t.id ∉ s := by
  induction l generalizing s with
  | nil => simp
  | cons t r ih =>
    simp only [tasksFrom, Bool.and_eq_true, Bool.not_eq_true', List.contains_eq_mem, decide_eq_false_iff_not] at h
    obtain ⟨⟨_, h2⟩, h3⟩ := h
    obtain ⟨a, b⟩ := ih h3
    refine ⟨?_, ?_⟩
    · rw [List.map_cons, List.nodup_cons]
      refine ⟨fun hm => ?_, a⟩
      obtain ⟨y, hy, e⟩ := List.mem_map.1 hm
      exact b y hy (by rw [e]; simp)
    · intro x hx
      rcases List.mem_cons.1 hx with rfl | hx
      · exact h2
      · exact fun hs => b x hx (by simp [hs])
theorem nodesFrom_nodup {p : Int} {l : List NV} (h : nodesFrom p l = true) : (l.map NV.id).Nodup ∧ ∀ t ∈ l, p < t.id := by
  induction l generalizing p with
  | nil => simp
  | cons t r ih =>
    simp only [nodesFrom, Bool.and_eq_true, decide_eq_true_eq] at h
    obtain ⟨⟨_, h2⟩, h3⟩ := h
    obtain ⟨a, b⟩ := ih h3
    refine ⟨?_, ?_⟩
    · rw [List.map_cons, List.nodup_cons]
      refine ⟨fun hm => ?_, a⟩
      obtain ⟨y, hy, e⟩ := List.mem_map.1 hm
      have := b y hy; omega
    · intro x hx
      rcases List.mem_cons.1 hx with rfl | hx
      · exact h2
      · have := b x hx; omega
theorem bindsFrom_mem {c : CV} {p : Int} {l : List BV} (h : bindsFrom c p l = true) : ∀ b ∈ l, p < b.task ∧ bindOk c b = true := by
  induction l generalizing p with
  | nil => simp
  | cons t r ih =>
    simp only [bindsFrom, Bool.and_eq_true, decide_eq_true_eq] at h
    obtain ⟨⟨h1, h2⟩, h3⟩ := h
    intro x hx
    rcases List.mem_cons.1 hx with rfl | hx
    · exact ⟨h1, h2⟩
    · have := ih h3 x hx; exact ⟨by omega, this.2⟩
theorem clusterOk_parts {c : CV} (h : clusterOk c = true) : (c.tasks.map TV.id).Nodup ∧ (c.nodes.map NV.id).Nodup ∧ ∀ b ∈ c.binds, 0 < b.task ∧ 0 < b.node := by
  simp only [clusterOk, tasksOk, nodesOk, Bool.and_eq_true] at h
  refine ⟨(tasksFrom_nodup h.1.1.1.2).1, (nodesFrom_nodup h.1.1.2.2).1, fun b hb => ?_⟩
  obtain ⟨h1, h2⟩ := bindsFrom_mem h.1.2 b hb
  refine ⟨h1, ?_⟩
  unfold bindOk at h2
  split at h2
  · rename_i t n ht hn
    have := (nodesFrom_nodup h.1.1.2.2).2 n (fstBy_mem hn)
    rw [fstBy_key hn] at this; exact this
  · cases h2
/-- The model's way: neither the task nor the node. -/
def unbound (t n : Int) (l : List BV) : List BV := l.filter fun b => !decide (b.task = t) && !decide (b.node = n)
theorem unbound_task {t : Int} {l : List BV} (h : ∀ b ∈ l, 0 < b.task ∧ 0 < b.node) : unbound t 0 l = dropBy BV.task t l := by
  unfold unbound dropBy
  exact List.filter_congr (fun b hb => by have := (h b hb).2; have hne : b.node ≠ 0 := (by omega); simp [hne])
theorem unbound_node {n : Int} {l : List BV} (h : ∀ b ∈ l, 0 < b.task ∧ 0 < b.node) : unbound 0 n l = dropBy BV.node n l := by
  unfold unbound dropBy
  exact List.filter_congr (fun b hb => by have := (h b hb).1; have hne : b.task ≠ 0 := (by omega); simp [hne])
/-- With distinct Ids setting the flag at one place is setting it at the Id. -/
theorem cordon_at {l : List NV} {z : Int} {on : Bool} {j : Nat} {x : NV} (hx : l[j]? = some x) (hk : x.id = z) (hd : (l.map NV.id).Nodup) : l.take j ++ ({ x with cordon := on } :: l.drop (j + 1)) = cordonOn z on l := by
  induction l generalizing j with
  | nil => simp at hx
  | cons y r ih =>
    rw [List.map_cons, List.nodup_cons] at hd
    cases j with
    | zero =>
      simp at hx; subst hx
      have : r.map (fun n => if n.id = z then { n with cordon := on } else n) = r := by
        refine (List.map_congr_left (fun a ha => ?_)).trans (List.map_id r)
        have : a.id ≠ z := fun e => hd.1 (List.mem_map.2 ⟨a, ha, by rw [e, hk]⟩)
        simp [this]
      simp [cordonOn, hk, this]
    | succ j =>
      simp at hx
      have hne : y.id ≠ z := fun e => hd.1 (List.mem_map.2 ⟨x, List.mem_of_getElem? hx, by rw [hk, e]⟩)
      have h2 := ih hx hd.2
      unfold cordonOn at h2 ⊢
      simp [hne, h2]
end Go.Proofs.YtocfgejceoenmaaDoor

namespace Go.Proofs.YtocfgejceoenmaaDoor
open Go.RowKit

theorem taskAddG_zero {c : CV} {t : TV} (h : (taskAddG c t).2 ≠ 0) : (taskAddG c t).1 = CV.zero := by
  cases hk : (clusterOk c && t.ok)
  · rw [taskAddG_form hk]
  · cases hf : fstBy TV.id c.tasks t.id with
    | some x => rw [taskAddG_twice hk hf]
    | none =>
      by_cases h30 : c.tasks.length = 30
      · rw [taskAddG_full hk hf h30]
      · rw [taskAddG_fine hk hf h30] at h; exact absurd rfl h
end Go.Proofs.YtocfgejceoenmaaDoor

namespace Go.Proofs.YtocfgejceoenmaaDoor
open Go.RowKit

/-- An element that still reads in w0: nothing of it is the call's own. -/
def Bor {α : Type} (R : World → α → List Value → Prop) (w0 : World) (_ : World) (x : α) (cs : List Value) (bs : List Nat) : Prop := R w0 x cs ∧ bs = []
section
variable {α : Type} {R : World → α → List Value → Prop} {n : Nat} {w w' : World}
theorem Bor.framed (w0 : World) : Framed (Bor R w0) := fun _ _ _ _ _ h _ => h
theorem seq_news (hn : ∀ x cs, R w x cs → cs.length = n) (w' : World) {b : Nat} {l : List α} : ∀ {off : Nat}, SeqAt R n w b off l → ∃ xs, Elems (Bor R w) w' l xs [] ∧ CellsAt w b off xs ∧ xs.length = l.length * n := by
  induction l with
  | nil => exact fun _ => ⟨[], ⟨rfl, rfl⟩, fun j u hu => by simp at hu, by simp⟩
  | cons x r ih =>
    intro off h
    obtain ⟨cs, hR, hC⟩ := h 0 x rfl
    have hr : SeqAt R n w b (off + n) r := fun i y hy => by
      obtain ⟨ds, h1, h2⟩ := h (i + 1) y (by simpa using hy)
      exact ⟨ds, h1, by rw [show off + n + i * n = off + (i + 1) * n by rw [Nat.add_mul]; omega]; exact h2⟩
    obtain ⟨xs, h1, h2, h3⟩ := ih hr
    have hl := hn _ _ hR
    refine ⟨cs ++ xs, ⟨cs, xs, [], [], rfl, rfl, ⟨hR, rfl⟩, h1⟩, fun j u hu => ?_, by rw [List.length_append, hl, h3, List.length_cons, Nat.add_mul]; omega⟩
    rcases Nat.lt_or_ge j n with hj | hj
    · rw [List.getElem?_append_left (by omega)] at hu
      have := hC j u hu
      rwa [Nat.zero_mul, Nat.add_zero] at this
    · rw [List.getElem?_append_right (by omega), hl] at hu
      have := h2 _ _ hu
      rwa [show off + n + (j - n) = off + j by omega] at this
theorem bor_one (h1 : ∀ x cs, R w x cs → ∀ u ∈ cs, u.oneCell' = true) {l : List α} {xs : List Value} {bs : List Nat} (h : Elems (Bor R w) w' l xs bs) : ∀ u ∈ xs, u.oneCell' = true := by
  induction l generalizing xs bs with
  | nil => obtain ⟨rfl, _⟩ := h; simp
  | cons x r ih =>
    obtain ⟨cs, ys, b1, b2, rfl, rfl, ⟨hR, _⟩, h2⟩ := h
    intro u hu
    rcases List.mem_append.1 hu with hu | hu
    · exact h1 _ _ hR u hu
    · exact ih h2 u hu
end
theorem taskR_len {w : World} {x : TV} {cs : List Value} (h : TaskR w x cs) : cs.length = 7 := by obtain ⟨v1, v2, rfl, _⟩ := h; rfl
theorem nodeR_len {w : World} {x : NV} {cs : List Value} (h : NodeR w x cs) : cs.length = 8 := by obtain ⟨v1, v2, rfl, _⟩ := h; rfl
theorem bindR_len {w : World} {x : BV} {cs : List Value} (h : BindR w x cs) : cs.length = 2 := by obtain rfl := h; rfl
theorem taskR_one {w : World} {x : TV} {cs : List Value} (h : TaskR w x cs) : ∀ u ∈ cs, u.oneCell' = true := by
  obtain ⟨v1, v2, rfl, h1, h2, _⟩ := h
  obtain ⟨A1, c1, rfl, _⟩ := h1.form
  obtain ⟨A2, c2, rfl, _⟩ := h2.form
  intro u hu
  simp at hu
  rcases hu with rfl | rfl | rfl | rfl | rfl | rfl | rfl <;> rfl
theorem nodeR_one {w : World} {x : NV} {cs : List Value} (h : NodeR w x cs) : ∀ u ∈ cs, u.oneCell' = true := by
  obtain ⟨v1, v2, rfl, h1, h2, _⟩ := h
  obtain ⟨A1, c1, rfl, _⟩ := h1.form
  obtain ⟨A2, c2, rfl, _⟩ := h2.form
  intro u hu
  simp at hu
  rcases hu with rfl | rfl | rfl | rfl | rfl | rfl | rfl | rfl <;> rfl
theorem bindR_one {w : World} {x : BV} {cs : List Value} (h : BindR w x cs) : ∀ u ∈ cs, u.oneCell' = true := by
  obtain rfl := h
  intro u hu
  simp at hu
  rcases hu with rfl | rfl <;> rfl
theorem none_below {w w' : World} (h : w.grownBy w' none) : Below w.heap.size w w' := ⟨h.os, h.tape, h.output, h.size, fun k hk => h.block k hk (by simp)⟩
theorem none_blk {w : World} {v' : Value} (hk : v'.ownBlock = (none : Option Nat) ∨ v'.ownBlock = some w.heap.size) : (∀ b ∈ blk v', w.heap.size ≤ b) ∧ (blk v').Nodup := by
  rcases hk with e | e <;> simp [blk, e]
set_option maxHeartbeats 1600000 in
theorem copyListLab_any (v : Value) (l : List LV) (w : World) (h : LabSl w v l) (hl : l.length ≤ 1048576) :
    Calls Tryd.prog 57 #[v] w fun e w' => ∃ v', e = .returned v' ∧ LabO w' v' l ∧ (∀ b ∈ blk v', w.heap.size ≤ b) ∧ (blk v').Nodup ∧ Below w.heap.size w w' := by
  obtain ⟨i0, hi0, hz0, hs0, hy0⟩ := info_parts Tryd.infoLab
  obtain ⟨A, c, rfl, _⟩ := h.form
  have HN := Lib.hid h.news
  clear h
  go_enter Tryd.func57, Tryd.ntmps57
  go_wp2_with (at_builtin; refine wpList_spread _ rfl (.const (.slice none 0 0)) (.tmp 3) 33 rfl 74 i0 _ 2 16 Tryd.underlying33 hi0 hz0 hs0 hy0 rfl (by omega) (.slice none 0 0) 0 [] rfl (World.ownsRow_nil _ _ _ _) A l.length c (labL l) rfl (labL_len l) HN.out (labL_one l) (by simp only [maxLen]; omega) (by omega) ?_; intro v' w1 hown1 hg1 hk1)
  have hb1 := none_below hg1
  obtain ⟨hlo, hnd⟩ := none_blk hk1
  rw [Nat.zero_add, List.nil_append] at hown1
  go_ret
  exact ⟨v', rfl, hown1, hlo, hnd, hb1⟩
set_option maxHeartbeats 1600000 in
theorem copyListInt_any (v : Value) (l : List Int) (w : World) (h : IntSl w v l) (hl : l.length ≤ 1048576) :
    Calls Tryd.prog 58 #[v] w fun e w' => ∃ v', e = .returned v' ∧ IntO w' v' l ∧ (∀ b ∈ blk v', w.heap.size ≤ b) ∧ (blk v').Nodup ∧ Below w.heap.size w w' := by
  obtain ⟨i0, hi0, hz0, hs0, hy0⟩ := info_parts Tryd.infoI
  obtain ⟨A, c, rfl, _⟩ := h.form
  have HN := Lib.hid h.news
  clear h
  go_enter Tryd.func58, Tryd.ntmps58
  go_wp2_with (at_builtin; refine wpList_spread _ rfl (.const (.slice none 0 0)) (.tmp 3) 25 rfl 3 i0 _ 1 8 Tryd.underlying25 hi0 hz0 hs0 hy0 rfl (by omega) (.slice none 0 0) 0 [] rfl (World.ownsRow_nil _ _ _ _) A l.length c (intL l) rfl (by simp [intL]) HN.out (intL_one l) (by simp only [maxLen]; omega) (by omega) ?_; intro v' w1 hown1 hg1 hk1)
  have hb1 := none_below hg1
  obtain ⟨hlo, hnd⟩ := none_blk hk1
  rw [Nat.zero_add, List.nil_append] at hown1
  go_ret
  exact ⟨v', rfl, hown1, hlo, hnd, hb1⟩

set_option maxHeartbeats 3200000 in
theorem copyNode_any (t : NV) (cs : List Value) (w : World) (hR : NodeR w t cs) : Calls Tryd.prog 49 #[.agg cs.toArray] w (RetO NodeO w t) := by
  obtain ⟨v1, v2, rfl, sl, si, m1, m2⟩ := hR
  have hc1 := fun w1 hb => copyListLab_any v1 t.labs w1 (sl.below hb) m1
  have hc2 := fun w1 hb => copyListInt_any v2 t.taints w1 (si.below hb) m2
  obtain ⟨A1, c1, rfl, _⟩ := sl.form
  obtain ⟨A2, c2, rfl, _⟩ := si.form
  have HC1 := Lib.hid hc1
  have HC2 := Lib.hid hc2
  have M := Lib.hid (And.intro m1 m2)
  clear sl si m1 m2 hc1 hc2
  go_enter Tryd.func49, Tryd.ntmps49
  go_wp2_with fail
  have hX : Below w.heap.size w ((w.alloc (.cells #[.int .i64 t.id, .int .i64 t.pool, .int .i64 t.cap.c, .int .i64 t.cap.m, .int .i64 t.cap.p, .slice A1 t.labs.length c1, .slice A2 t.taints.length c2, .bool t.cordon] 35)).alloc (.cells #[.int .i64 0, .int .i64 0, .int .i64 0, .int .i64 0, .int .i64 0, .slice none 0 0, .slice none 0 0, .bool false] 35)) := (by repeat' (first | exact Below.refl _ _ | refine Below.alloc ?_ ?_ _ | refine Below.setCell ?_ ?_ _ | refine Below.drew ?_ | (apply below_step; assumption) | (simp; done) | (simp; omega) | omega))
  have hXz : ((w.alloc (.cells #[.int .i64 t.id, .int .i64 t.pool, .int .i64 t.cap.c, .int .i64 t.cap.m, .int .i64 t.cap.p, .slice A1 t.labs.length c1, .slice A2 t.taints.length c2, .bool t.cordon] 35)).alloc (.cells #[.int .i64 0, .int .i64 0, .int .i64 0, .int .i64 0, .int .i64 0, .slice none 0 0, .slice none 0 0, .bool false] 35)).heap.size = w.heap.size + 2 := by simp
  refine (HC1.out _ hX).mono ?_
  rintro e w1 ⟨u1, rfl, hL1, hlo1, hnd1, hb1⟩
  obtain ⟨B0, B1⟩ := boxes2 _ _ _ _ _ hb1
  have hC1 := below_of hX hb1
  have hz1 := hb1.size
  rw [hXz] at hz1 hlo1
  obtain ⟨E1, d1, rfl, _⟩ := own_form hL1
  have y5 := B0.cell 5
  have y6 := B0.cell 6
  have yf := B0.frozen
  simp at y5 y6
  have HB0 := Lib.hid B0
  have HB1 := Lib.hid B1
  have HL1 := Lib.hid (And.intro hL1 (And.intro hlo1 hnd1))
  clear B0 B1 hb1 hX hXz hL1 hlo1 hnd1
  go_wp2_with fail
  have hC1' : Below w.heap.size w (w1.setCell ⟨w.heap.size, 5, none⟩ (.slice E1 t.labs.length d1)) := hC1.setCell (Nat.le_refl _) _
  have hsz : (w1.setCell ⟨w.heap.size, 5, none⟩ (.slice E1 t.labs.length d1)).heap.size = w1.heap.size := by simp [World.setCell]
  refine (HC2.out _ hC1').mono ?_
  rintro e w2 ⟨u2, rfl, hI2, hlo2, hnd2, hb2⟩
  have hC2 := below_of hC1' hb2
  have hz2 := hb2.size
  have B0 := (HB0.out.put 5 (.slice E1 t.labs.length d1)).below hb2 (by rw [hsz]; omega)
  have B1 := (HB1.out.far (p := ⟨w.heap.size, 5, none⟩) (by dsimp only; omega) (.slice E1 t.labs.length d1)).below hb2 (by rw [hsz]; omega)
  rw [hsz] at hz2 hlo2
  obtain ⟨hL1, hlo1, hnd1⟩ := HL1.out
  have hT1 : TurnB [w.heap.size] w1 w2 := (TurnB.put (TurnB.refl _ _) (List.mem_singleton.2 rfl) _ _).step hb2
  have hl1 := own_lt hL1
  have hL2 := own_agree hL1 (hT1.agree (fun b hb => ⟨hl1 b hb, by have := hlo1 b hb; simp; omega⟩))
  obtain ⟨E2, d2, rfl, _⟩ := own_form hI2
  have y0 := B0.cell 0; have y1 := B0.cell 1; have y2 := B0.cell 2; have y3 := B0.cell 3; have y4 := B0.cell 4; have y5 := B0.cell 5; have y6 := B0.cell 6; have y7 := B0.cell 7
  have yf := B0.frozen
  have z0 := B1.cell 0; have z1 := B1.cell 1; have z2 := B1.cell 2; have z3 := B1.cell 3; have z4 := B1.cell 4; have z5 := B1.cell 5; have z6 := B1.cell 6; have z7 := B1.cell 7
  have zf := B1.frozen
  simp at y0 y1 y2 y3 y4 y5 y6 y7 z0 z1 z2 z3 z4 z5 z6 z7
  have HB1 := Lib.hid B1
  have HF := Lib.hid (And.intro hL2 (And.intro hI2 (And.intro hlo1 (And.intro hnd1 (And.intro hlo2 (And.intro hnd2 hl1))))))
  clear B0 B1 hb2 hL1 hlo1 hnd1 hT1 hL2 hI2 hlo2 hnd2 HL1 hsz hC1' hl1 HB0
  go_wp2_with fail
  have hZ : BlockIs (((((((((w2.setCell ⟨w.heap.size, 6, none⟩ (.slice E2 t.taints.length d2)).setCell ⟨w.heap.size + 1, 0, none⟩ (.int .i64 t.id)).setCell ⟨w.heap.size + 1, 1, none⟩ (.int .i64 t.pool)).setCell ⟨w.heap.size + 1, 2, none⟩ (.int .i64 t.cap.c)).setCell ⟨w.heap.size + 1, 3, none⟩ (.int .i64 t.cap.m)).setCell ⟨w.heap.size + 1, 4, none⟩ (.int .i64 t.cap.p)).setCell ⟨w.heap.size + 1, 5, none⟩ (.slice E1 t.labs.length d1)).setCell ⟨w.heap.size + 1, 6, none⟩ (.slice E2 t.taints.length d2)).setCell ⟨w.heap.size + 1, 7, none⟩ (.bool t.cordon)) (w.heap.size + 1) 35 #[.int .i64 t.id, .int .i64 t.pool, .int .i64 t.cap.c, .int .i64 t.cap.m, .int .i64 t.cap.p, .slice E1 t.labs.length d1, .slice E2 t.taints.length d2, .bool t.cordon] := put8 _ _ _ _ _ _ _ _ (HB1.out.far (p := ⟨w.heap.size, 6, none⟩) (by dsimp only; omega) _) rfl
  have hT : TurnB [w.heap.size, w.heap.size + 1] w2 (((((((((w2.setCell ⟨w.heap.size, 6, none⟩ (.slice E2 t.taints.length d2)).setCell ⟨w.heap.size + 1, 0, none⟩ (.int .i64 t.id)).setCell ⟨w.heap.size + 1, 1, none⟩ (.int .i64 t.pool)).setCell ⟨w.heap.size + 1, 2, none⟩ (.int .i64 t.cap.c)).setCell ⟨w.heap.size + 1, 3, none⟩ (.int .i64 t.cap.m)).setCell ⟨w.heap.size + 1, 4, none⟩ (.int .i64 t.cap.p)).setCell ⟨w.heap.size + 1, 5, none⟩ (.slice E1 t.labs.length d1)).setCell ⟨w.heap.size + 1, 6, none⟩ (.slice E2 t.taints.length d2)).setCell ⟨w.heap.size + 1, 7, none⟩ (.bool t.cordon)) :=
    TurnB.putAll (g := w.heap.size + 1) (TurnB.put (g := w.heap.size) (TurnB.refl _ _) (by simp) 6 (.slice E2 t.taints.length d2)) (by simp) 0 [.int .i64 t.id, .int .i64 t.pool, .int .i64 t.cap.c, .int .i64 t.cap.m, .int .i64 t.cap.p, .slice E1 t.labs.length d1, .slice E2 t.taints.length d2, .bool t.cordon]
  generalize (((((((((w2.setCell ⟨w.heap.size, 6, none⟩ (.slice E2 t.taints.length d2)).setCell ⟨w.heap.size + 1, 0, none⟩ (.int .i64 t.id)).setCell ⟨w.heap.size + 1, 1, none⟩ (.int .i64 t.pool)).setCell ⟨w.heap.size + 1, 2, none⟩ (.int .i64 t.cap.c)).setCell ⟨w.heap.size + 1, 3, none⟩ (.int .i64 t.cap.m)).setCell ⟨w.heap.size + 1, 4, none⟩ (.int .i64 t.cap.p)).setCell ⟨w.heap.size + 1, 5, none⟩ (.slice E1 t.labs.length d1)).setCell ⟨w.heap.size + 1, 6, none⟩ (.slice E2 t.taints.length d2)).setCell ⟨w.heap.size + 1, 7, none⟩ (.bool t.cordon)) = Y at hZ hT ⊢
  have hB : Below w.heap.size w Y := hC2.trans (hT.below hC2.size (by simp))
  have z0 := hZ.cell 0; have z1 := hZ.cell 1; have z2 := hZ.cell 2; have z3 := hZ.cell 3; have z4 := hZ.cell 4; have z5 := hZ.cell 5; have z6 := hZ.cell 6; have z7 := hZ.cell 7
  simp at z0 z1 z2 z3 z4 z5 z6 z7
  obtain ⟨hL2, hI2, hlo1, hnd1, hlo2, hnd2, hl1⟩ := HF.out
  refine bodyPost_ret (v := .agg #[.int .i64 t.id, .int .i64 t.pool, .int .i64 t.cap.c, .int .i64 t.cap.m, .int .i64 t.cap.p, .slice E1 t.labs.length d1, .slice E2 t.taints.length d2, .bool t.cordon]) (by simp [results, Tryd.results49, go_sem, z0, z1, z2, z3, z4, z5, z6, z7]) rfl ⟨_, _, rfl, ⟨_, _, rfl, own_agree hL2 (hT.agree (fun b hb => ⟨own_lt hL2 b hb, by have := hlo1 b hb; simp; omega⟩)), own_agree hI2 (hT.agree (fun b hb => ⟨own_lt hI2 b hb, by have := hlo2 b hb; simp; omega⟩)), rfl, M.out⟩, ?_, ?_, hB⟩
  · rw [List.nodup_append]
    exact ⟨hnd1, hnd2, fun a ha b hb e => by have := hl1 a ha; have := hlo2 b hb; omega⟩
  · intro b hb
    rcases List.mem_append.1 hb with hb | hb
    · have := hlo1 b hb; omega
    · have := hlo2 b hb; omega
end Go.Proofs.YtocfgejceoenmaaDoor

namespace Go.Proofs.YtocfgejceoenmaaDoor
open Go.RowKit

theorem turn_step {bs : List Nat} {w w' w'' : World} (hb : Below w'.heap.size w' w'') (h : TurnB bs w w') : TurnB bs w w'' := h.step hb
theorem TurnB.alloc {bs : List Nat} {w w' : World} (h : TurnB bs w w') (o : Obj) : TurnB bs w (w'.alloc o) := h.step ((Below.refl _ _).alloc (Nat.le_refl _) o)
theorem TurnB.drew {bs : List Nat} {w w' : World} (h : TurnB bs w w') : TurnB bs w w'.drew := h.step (Below.refl _ _).drew
theorem blk_nodup (v : Value) : (blk v).Nodup := by unfold blk; cases v.ownBlock <;> simp
theorem own_ne {w : World} {t u : TypeId} {m n k l : Nat} {v v' : Value} {xs ys : List Value} (h : w.ownsRow 0 t m v k xs) (h' : w.ownsRow 0 u n v' l ys) (hne : t ≠ u) : ∀ a ∈ blk v, ∀ b ∈ blk v', a ≠ b := by
  intro a ha b hb e
  subst e
  rcases h.2 with ⟨rfl, _⟩ | ⟨g, cap, cur, rfl, _, h1, _⟩
  · simp [blk, Value.ownBlock] at ha
  · rcases h'.2 with ⟨rfl, _⟩ | ⟨g', cap', cur', rfl, _, h2, _⟩
    · simp [blk, Value.ownBlock] at hb
    · simp [blk, Value.ownBlock] at ha hb
      subst ha
      subst hb
      rw [h1] at h2
      simp at h2
      exact hne h2.2
theorem TurnB.cell {bs : List Nat} {w w' : World} (h : TurnB bs w w') {p : Addr} {v : Value} (hc : w.cell? p = some v) (hn : p.block ∉ bs) : w'.cell? p = some v :=
  (World.cell?_of_block (h.block p.block (World.block_lt_of_cell? _ _ hc) hn)).trans hc
end Go.Proofs.YtocfgejceoenmaaDoor

namespace Go.Proofs.YtocfgejceoenmaaDoor
open Go.RowKit

section
variable {P : Program} {ops : Array Oper} {Q : Exit → Act → World → Prop} {md : Region.Mode} {S : World → Prop}
theorem hTwo {i j : Nat} {o1 o2 : Oper} {fuel : Nat} {listed : Array Bool} {a : Act} {w : World} (h1 : ops[i]? = some o1) (h2 : ops[j]? = some o2) (hr : Region.ready md ops listed = [i, j])
    (w1 : Region.wanted o1 (yielded ops a.tmps) = true) (w2 : Region.wanted o2 (yielded ops a.tmps) = true)
    (b1 : ∀ K' : Act → World → Prop, Shut (∀ a w, S w → (S w → wpAnyH P md ops Q S fuel (listed.setIfInBounds i true) a w) → K' a w) → Oper.wp P o1 a w K' Q)
    (b2 : ∀ K' : Act → World → Prop, Shut (∀ a w, S w → (S w → wpAnyH P md ops Q S fuel (listed.setIfInBounds j true) a w) → K' a w) → Oper.wp P o2 a w K' Q) : wpAnyH P md ops Q S (fuel + 1) listed a w :=
  wpAnyH_ready hr (by simp) (AllReadyH.cons h1 (fun K' hK => by rw [if_pos w1]; exact b1 K' hK) (AllReadyH.cons h2 (fun K' hK => by rw [if_pos w2]; exact b2 K' hK) AllReadyH.nil))
end
theorem add_bad {c : CV} {t : TV} (h : codeAdd (!t.ok) (clusterOk c) (fstBy TV.id c.tasks t.id).isSome (decide (c.tasks.length = 30)) ≠ 0) : taskAddG c t = (CV.zero, codeAdd (!t.ok) (clusterOk c) (fstBy TV.id c.tasks t.id).isSome (decide (c.tasks.length = 30))) := by
  cases h1 : clusterOk c <;> cases h2 : t.ok
  · rw [taskAddG_form (by rw [h1]; rfl)]; rfl
  · rw [taskAddG_form (by rw [h1]; rfl)]; rfl
  · rw [taskAddG_form (by rw [h1, h2]; rfl)]; rfl
  · have hk : (clusterOk c && t.ok) = true := by rw [h1, h2]; rfl
    cases hf : fstBy TV.id c.tasks t.id with
    | some x => rw [taskAddG_twice hk hf]; rfl
    | none =>
      by_cases h30 : c.tasks.length = 30
      · rw [taskAddG_full hk hf h30]; simp [codeAdd, h30]
      · simp [codeAdd, h1, h2, hf, h30] at h
theorem add_good {c : CV} {t : TV} (h : codeAdd (!t.ok) (clusterOk c) (fstBy TV.id c.tasks t.id).isSome (decide (c.tasks.length = 30)) = 0) : (clusterOk c && t.ok) = true ∧ fstBy TV.id c.tasks t.id = none ∧ c.tasks.length ≠ 30 := by
  unfold codeAdd at h
  cases h1 : clusterOk c <;> cases h2 : t.ok <;> cases h3 : fstBy TV.id c.tasks t.id <;> by_cases h4 : c.tasks.length = 30 <;> simp_all
end Go.Proofs.YtocfgejceoenmaaDoor

namespace Go.Proofs.YtocfgejceoenmaaDoor
open Go.RowKit

/-- In every world of Inv the function value tells of each element whether p holds. -/
def Tells {α : Type} (R : World → α → List Value → Prop) (g : Nat) (lb : Array Value) (p : α → Bool) (Inv : World → Prop) : Prop :=
  ∀ (w : World) (x : α) (cs : List Value), Inv w → R w x cs → Calls Tryd.prog g (#[.agg cs.toArray] ++ lb) w fun e w' => e = .returned (.bool (p x)) ∧ Below w.heap.size w w'
/-- The first place at which p holds, or -1. -/
def pIdxGo {α : Type} (p : α → Bool) : Int → List α → Int
  | _, [] => -1
  | k, x :: r => if p x then k else pIdxGo p (k + 1) r
def pIdx {α : Type} (p : α → Bool) (l : List α) : Int := pIdxGo p 0 l
section
variable {α : Type} {p : α → Bool} {l : List α}
theorem pIdxGo_hit {k : Int} {x : α} {r : List α} (h : p x = true) : pIdxGo p k (x :: r) = k := by rw [pIdxGo, if_pos h]
theorem pIdxGo_miss {k : Int} {x : α} {r : List α} (h : p x = false) : pIdxGo p k (x :: r) = pIdxGo p (k + 1) r := by rw [pIdxGo, h]; rfl
theorem pIdxGo_spec (k : Int) : (pIdxGo p k l = -1 ∧ ∀ x ∈ l, p x = false) ∨ ∃ (j : Nat) (x : α), pIdxGo p k l = k + j ∧ l[j]? = some x ∧ p x = true ∧ ∀ y ∈ l.take j, p y = false := by
  induction l generalizing k with
  | nil => exact .inl ⟨rfl, by simp⟩
  | cons x r ih =>
    cases h : p x with
    | true => exact .inr ⟨0, x, by rw [pIdxGo_hit h]; simp, rfl, h, by simp⟩
    | false =>
      rcases ih (k + 1) with ⟨e, ha⟩ | ⟨j, y, e, h1, h2, h3⟩
      · exact .inl ⟨by rw [pIdxGo_miss h, e], by simpa [h] using ha⟩
      · exact .inr ⟨j + 1, y, by rw [pIdxGo_miss h, e]; simp; omega, by simpa using h1, h2, by simpa [h] using h3⟩
theorem pIdx_spec : (pIdx p l = -1 ∧ ∀ x ∈ l, p x = false) ∨ ∃ (j : Nat) (x : α), pIdx p l = j ∧ l[j]? = some x ∧ p x = true ∧ ∀ y ∈ l.take j, p y = false := by
  rcases pIdxGo_spec (p := p) (l := l) 0 with h | ⟨j, x, e, h⟩
  · exact .inl h
  · exact .inr ⟨j, x, by unfold pIdx; rw [e]; omega, h⟩
theorem filter_none (h : ∀ x ∈ l, p x = false) : (l.filter fun x => !p x) = l := List.filter_eq_self.2 (fun x hx => by simp [h x hx])
end

end Go.Proofs.YtocfgejceoenmaaDoor

namespace Go.Proofs.YtocfgejceoenmaaDoor
open Go.RowKit

theorem putAll_setCells (w : World) (g o : Nat) (ds : List Value) : w.setCells g o ds = putAll w g o ds := by
  induction ds generalizing w o with
  | nil => rfl
  | cons u r ih => rw [World.setCells, putAll, ih]
/-- 'clear(s)': its cells hold the zero value's. -/
theorem run_clear_row {P : Program} (w : World) (t e ty : TypeId) (z : Value) (ht : P.underlying t = some (.slice e)) (hv : ∀ w, (zeroValue e).run P w = .ok z w) (h1 : (z.cells.toList.all fun u => u.oneCell') = true) (b o n c : Nat) (hn : 0 < n)
    (hc : ∀ j, j < n * z.cells.size → (w.cell? ⟨b, o + j, none⟩).isSome = true) (hf : ∀ j, w.frozen? ⟨b, o + j, none⟩ = false) :
    (Builtin.clear_ #[t] ty #[.slice (some ⟨b, o, none⟩) n c]).run P w = .ok (.tuple #[]) (putAll w b o (Builtin.zeroCells z.cells n).toList) := by
  have hl : (Builtin.zeroCells z.cells n).toList.length = n * z.cells.size := by simp [Builtin.zeroCells]
  have hst := run_storeCells_cells (P := P) b o (Builtin.zeroCells z.cells n).toList 0 w (fun j hj => by rw [hl] at hj; simpa using hc j hj) (fun j _ => by simpa using hf j) (by
    intro u hu
    simp only [Builtin.zeroCells, Array.toList_map, List.mem_map] at hu
    obtain ⟨i, hi, rfl⟩ := hu
    simp at hi
    have hp : 0 < z.cells.size := Nat.pos_of_ne_zero (fun e => by rw [e] at hi; simp at hi)
    have hm := Nat.mod_lt i hp
    rw [getElem!_pos z.cells (i % z.cells.size) hm]
    exact List.all_eq_true.1 h1 _ (by simp))
  simp only [Nat.add_zero] at hst
  obtain ⟨m, rfl⟩ : ∃ m, n = m + 1 := ⟨n - 1, by omega⟩
  simp [Builtin.clear_, run_underlying ht, hv, hst, putAll_setCells]

section
variable {α : Type} {R : World → α → List Value → List Nat → Prop} {n cap gr : Nat} {ty : TypeId} {p : α → Bool} {w wr : World} {l : List α} {bi : List Nat} {i j : Nat}
/-- Of the first j elements those that stay lie at the front, i of them. -/
def DelInv (R : World → α → List Value → List Nat → Prop) (n : Nat) (ty : TypeId) (p : α → Bool) (w : World) (gr cap : Nat) (l : List α) (bi : List Nat) (i j : Nat) (wr : World) : Prop :=
  ∃ xa xm xb ba bb, i < j ∧ j ≤ l.length ∧ wr.ownsRow 0 ty n (.slice (some ⟨gr, 0, none⟩) l.length cap) l.length (xa ++ (xm ++ xb)) ∧ Elems R wr ((l.take j).filter fun x => !p x) xa ba ∧ ((l.take j).filter fun x => !p x).length = i ∧
    xm.length = (j - i) * n ∧ Elems R wr (l.drop j) xb bb ∧ (ba ++ bb).Nodup ∧ (∀ b ∈ ba ++ bb, b ∈ bi) ∧ TurnB [gr] w wr
theorem DelInv.start {xs : List Value} {x : α} (hR : Framed R) (hlen : ∀ (w : World) x cs b, R w x cs b → cs.length = n) (hRlt : ∀ (w : World) x cs b, R w x cs b → ∀ c ∈ b, c < w.heap.size) (ho : w.ownsRow 0 ty n (.slice (some ⟨gr, 0, none⟩) l.length cap) l.length xs) (he : Elems R w l xs bi) (hnd : bi.Nodup)
    (hx : l[j]? = some x) (hp : p x = true) (ha : ∀ y ∈ l.take j, p y = false) (hb : Below w.heap.size w wr) : DelInv R n ty p w gr cap l bi j (j + 1) wr := by
  have hj : j < l.length := (List.getElem?_eq_some_iff.1 hx).1
  have hl : l = l.take j ++ (x :: l.drop (j + 1)) := by rw [← drop_at hx, List.take_append_drop]
  have he' := he
  rw [hl] at he'
  obtain ⟨xa, xr, ba, br, e1, e2, h1, h2⟩ := he'.split
  obtain ⟨cs, ys, b1, b2, e3, e4, h3, h4⟩ := h2
  subst e1 e2 e3 e4
  have ho2 := own_agree ho (Agree.of_below hb (own_lt ho))
  have hlt := elems_lt (fun x cs b h => hRlt _ x cs b h) he
  have hag : Agree (ba ++ (b1 ++ b2)) w wr := Agree.of_below hb hlt
  have hf : ((l.take (j + 1)).filter fun x => !p x) = l.take j := by
    rw [take_at hx, List.filter_append, filter_none ha]
    simp [hp]
  refine ⟨xa, cs, ys, ba, b2, by omega, by omega, ho2, by rw [hf]; exact h1.agree hR hag.left, by rw [hf, List.length_take]; omega, by rw [hlen _ _ _ _ h3]; simp, h4.agree hR hag.right.right, ?_, ?_, TurnB.of_below hb⟩
  · simp only [List.nodup_append, List.mem_append] at hnd ⊢
    exact ⟨hnd.1, hnd.2.1.2.1, fun a ha b hb => hnd.2.2 a ha b (.inr hb)⟩
  · intro b hb
    rcases List.mem_append.1 hb with h | h
    · exact List.mem_append_left _ h
    · exact List.mem_append_right _ (List.mem_append_right _ h)
theorem DelInv.turn (h : DelInv R n ty p w gr cap l bi i j wr) : TurnB [gr] w wr := by
  obtain ⟨_, _, _, _, _, _, _, _, _, _, _, _, _, _, h⟩ := h; exact h
theorem DelInv.lt (h : DelInv R n ty p w gr cap l bi i j wr) : i < j ∧ j ≤ l.length := by
  obtain ⟨_, _, _, _, _, h1, h2, _⟩ := h; exact ⟨h1, h2⟩
theorem DelInv.capLe (h : DelInv R n ty p w gr cap l bi i j wr) : l.length ≤ cap := by
  obtain ⟨_, _, _, _, _, _, _, ho, _⟩ := h
  rcases ho.2 with ⟨e, _⟩ | ⟨g, cap', cur, e, _, _, hnc, _⟩
  · cases e
  · simp only [Value.slice.injEq] at e
    obtain ⟨_, _, rfl⟩ := e
    exact hnc
theorem DelInv.block (h : DelInv R n ty p w gr cap l bi i j wr) : gr < wr.heap.size ∧ (∀ q, q < l.length * n → ∃ u, wr.cell? ⟨gr, q, none⟩ = some u) ∧ ∀ o, wr.frozen? ⟨gr, o, none⟩ = false := by
  obtain ⟨_, _, _, _, _, h1, h2, ho, _⟩ := h
  have hl := ho.1
  obtain ⟨g, c, e, hg, hc, hf⟩ := own_cells ho (by omega)
  simp only [Value.slice.injEq, Option.some.injEq, Addr.mk.injEq] at e
  obtain ⟨⟨rfl, -, -⟩, -, -⟩ := e
  refine ⟨hg, fun q hq => ?_, hf⟩
  obtain ⟨u, hu⟩ : ∃ u, (_ : List Value)[q]? = some u := ⟨_, List.getElem?_eq_getElem (by rw [hl]; exact hq)⟩
  exact ⟨u, hc q u hu⟩
theorem DelInv.round {u : α} (hR : Framed R) (hlen : ∀ (w : World) x cs b, R w x cs b → cs.length = n) (hRlt : ∀ (w : World) x cs b, R w x cs b → ∀ c ∈ b, c < w.heap.size) (hgi : gr ∉ bi) (h : DelInv R n ty p w gr cap l bi i j wr) (hu : l[j]? = some u) :
    ∃ cs b1, R wr u cs b1 ∧ (∀ q x, cs[q]? = some x → wr.cell? ⟨gr, j * n + q, none⟩ = some x) ∧
      (∀ w2, Below wr.heap.size wr w2 → p u = false → DelInv R n ty p w gr cap l bi (i + 1) (j + 1) (putAll w2 gr (i * n) cs)) ∧
      (∀ w2, Below wr.heap.size wr w2 → p u = true → DelInv R n ty p w gr cap l bi i (j + 1) w2) := by
  obtain ⟨xa, xm, xb, ba, bb, hij, hjl, ho, ha, hi, hm, hb, hnd, hin, ht⟩ := h
  rw [drop_at hu] at hb
  obtain ⟨cs, ys, b1, b2, rfl, rfl, h1, h2⟩ := hb
  have hc := hlen _ _ _ _ h1
  have hxa : xa.length = i * n := by rw [Elems.len (fun x cs b h => hlen _ x cs b h) ha, hi]
  have hj : j < l.length := (List.getElem?_eq_some_iff.1 hu).1
  have hjn : i * n + (j - i) * n = j * n := by rw [← Nat.add_mul]; congr 1; omega
  obtain ⟨g, c, e, hg, hcell, hf⟩ := own_cells ho (by omega)
  simp only [Value.slice.injEq, Option.some.injEq, Addr.mk.injEq] at e
  obtain ⟨⟨rfl, -, -⟩, -, -⟩ := e
  have hlta := elems_lt (fun x cs b h => hRlt _ x cs b h) ha
  have hltb := elems_lt (fun x cs b h => hRlt _ x cs b h) h2
  have hlt1 := hRlt _ _ _ _ h1
  have hgn : ∀ b ∈ ba ++ (b1 ++ b2), b ≠ gr := fun b hb e => hgi (by rw [← e]; exact hin b hb)
  refine ⟨cs, b1, h1, fun q x hx => ?_, fun w2 hb2 hp => ?_, fun w2 hb2 hp => ?_⟩
  · have hq : q < cs.length := (List.getElem?_eq_some_iff.1 hx).1
    refine hcell _ _ ?_
    rw [List.getElem?_append_right (by omega), List.getElem?_append_right (by omega), List.getElem?_append_left (by omega)]
    rw [show j * n + q - xa.length - xm.length = q by omega]; exact hx
  · have hn0 : n ≤ xm.length := by
      rw [hm]
      have := Nat.mul_le_mul_right n (show 1 ≤ j - i by omega)
      omega
    have ho2 := own_agree ho (Agree.of_below hb2 (own_lt ho))
    have hxm : xm = xm.take n ++ xm.drop n := (List.take_append_drop _ _).symm
    rw [hxm, List.append_assoc] at ho2
    have st := own_put (g := gr) (ds := cs) ho2 (by rw [List.length_take]; omega) rfl
    rw [hxa] at st
    have hP : TurnB [gr] w2 (putAll w2 gr (i * n) cs) := (TurnB.refl _ _).putAll (List.mem_singleton.2 rfl) _ _
    have hs2 := hb2.size
    have hE : ∀ bs : List Nat, (∀ b ∈ bs, b < wr.heap.size) → (∀ b ∈ bs, b ≠ gr) → Agree bs wr (putAll w2 gr (i * n) cs) := fun bs hl hne => (Agree.of_below hb2 hl).trans (hP.agree (fun b hb => ⟨by have := hl b hb; omega, by simpa using hne b hb⟩))
    have hfl : ((l.take (j + 1)).filter fun x => !p x) = ((l.take j).filter fun x => !p x) ++ [u] := by
      rw [take_at hu, List.filter_append]
      simp [hp]
    refine ⟨xa ++ cs, xm.drop n ++ cs, ys, ba ++ b1, b2, by omega, by omega, ?_, ?_, by rw [hfl, List.length_append, hi]; rfl, ?_, ?_, by rw [List.append_assoc]; exact hnd, fun b hb => hin b (by rw [List.append_assoc] at hb; exact hb), (ht.step hb2).trans hP⟩
    · simpa [List.append_assoc] using st
    · rw [hfl]
      exact (ha.agree hR (hE ba hlta (fun b hb => hgn b (List.mem_append_left _ hb)))).snoc (hR _ _ _ _ _ h1 (hE b1 hlt1 (fun b hb => hgn b (List.mem_append_right _ (List.mem_append_left _ hb)))))
    · rw [List.length_append, List.length_drop, hm, hc]
      rw [show j + 1 - (i + 1) = j - i by omega]
      rw [hm] at hn0; omega
    · exact h2.agree hR (hE b2 hltb (fun b hb => hgn b (List.mem_append_right _ (List.mem_append_right _ hb))))
  · have hag : Agree (ba ++ (b1 ++ b2)) wr w2 := Agree.of_below hb2 (fun b hb => by
      rcases List.mem_append.1 hb with h | h
      · exact hlta b h
      · rcases List.mem_append.1 h with h | h
        · exact hlt1 b h
        · exact hltb b h)
    have hfl : ((l.take (j + 1)).filter fun x => !p x) = ((l.take j).filter fun x => !p x) := by
      rw [take_at hu, List.filter_append]
      simp [hp]
    refine ⟨xa, xm ++ cs, ys, ba, b2, by omega, by omega, ?_, by rw [hfl]; exact ha.agree hR hag.left, by rw [hfl]; exact hi, ?_, h2.agree hR hag.right.right, ?_, ?_, ht.step hb2⟩
    · rw [List.append_assoc]
      exact own_agree ho (Agree.of_below hb2 (own_lt ho))
    · rw [List.length_append, hm, hc, show j + 1 - i = (j - i) + 1 by omega, Nat.add_mul, Nat.one_mul]
    · simp only [List.nodup_append, List.mem_append] at hnd ⊢
      exact ⟨hnd.1, hnd.2.1.2.1, fun a ha b hb => hnd.2.2 a ha b (.inr hb)⟩
    · intro b hb
      rcases List.mem_append.1 hb with h | h
      · exact hin b (List.mem_append_left _ h)
      · exact hin b (List.mem_append_right _ (List.mem_append_right _ h))
theorem DelInv.done {zs : List Value} (hR : Framed R) (hlen : ∀ (w : World) x cs b, R w x cs b → cs.length = n) (hRlt : ∀ (w : World) x cs b, R w x cs b → ∀ c ∈ b, c < w.heap.size) (hgi : gr ∉ bi) (h : DelInv R n ty p w gr cap l bi i l.length wr) (hz : zs.length = (l.length - i) * n) :
    ∃ bs, RowO R ty n (putAll wr gr (i * n) zs) (.slice (some ⟨gr, 0, none⟩) i cap) (l.filter fun x => !p x) bs ∧ (l.filter fun x => !p x).length = i ∧ bs.Nodup ∧ (∀ b ∈ bs, b ∈ gr :: bi) ∧ TurnB [gr] w (putAll wr gr (i * n) zs) := by
  obtain ⟨xa, xm, xb, ba, bb, hij, hjl, ho, ha, hi, hm, hb, hnd, hin, ht⟩ := h
  rw [List.drop_length] at hb
  obtain ⟨rfl, rfl⟩ := hb
  rw [List.take_length] at ha hi
  rw [List.append_nil] at ho hnd hin
  have hxa : xa.length = i * n := by rw [Elems.len (fun x cs b h => hlen _ x cs b h) ha, hi]
  have ho' : wr.ownsRow 0 ty n (.slice (some ⟨gr, 0, none⟩) l.length cap) l.length (xa ++ (xm ++ [])) := by simpa using ho
  have st := own_put (g := gr) (ds := zs) ho' (by omega) rfl
  rw [hxa] at st
  have hP : TurnB [gr] wr (putAll wr gr (i * n) zs) := (TurnB.refl _ _).putAll (List.mem_singleton.2 rfl) _ _
  have hlta := elems_lt (fun x cs b h => hRlt _ x cs b h) ha
  refine ⟨gr :: ba, ⟨xa, ba, ?_, ha.agree hR (hP.agree (fun b hb => ⟨hlta b hb, by simp; intro e; exact hgi (by rw [← e]; exact hin b hb)⟩)), by simp [blk, Value.ownBlock]⟩, hi, ?_, ?_, ht.trans hP⟩
  · rw [hi]
    obtain ⟨_, h2⟩ := st
    refine ⟨hxa, ?_⟩
    rcases h2 with ⟨e, _⟩ | ⟨g, cap', cur, e, hg, hh, hnc, hcm, hs, ht2⟩
    · cases e
    · simp only [Value.slice.injEq, Option.some.injEq, Addr.mk.injEq] at e
      obtain ⟨⟨rfl, -, -⟩, -, rfl⟩ := e
      refine .inr ⟨gr, cap, cur, rfl, hg, hh, by omega, hcm, hs, ?_⟩
      have hle : i * n ≤ l.length * n := Nat.mul_le_mul_right n (by omega)
      have := congrArg (List.take (i * n)) ht2
      rw [List.take_take, Nat.min_eq_left hle, ← hxa, List.take_left'] at this
      · rw [← hxa]; exact this
      · rfl
  · simp only [List.nodup_cons]
    exact ⟨fun h => hgi (hin gr h), hnd⟩
  · intro b hb
    rcases List.mem_cons.1 hb with h | h
    · exact List.mem_cons.2 (.inl h)
    · exact List.mem_cons.2 (.inr (hin b h))
end

end Go.Proofs.YtocfgejceoenmaaDoor
