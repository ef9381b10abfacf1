/- Slices of tasks, nodes and bindings, and what they read as. -/
import Derived.Test.YtcngiinaneefjaaDoorMg02
namespace Go.Proofs.YtcngiinaneefjaaDoor
open Go.RowKit

def CellsAt (w : World) (b o : Nat) (cs : List Value) : Prop := ∀ (j : Nat) (u : Value), cs[j]? = some u → w.cell? ⟨b, o + j, none⟩ = some u
theorem CellsAt.below {w w' : World} {b o B : Nat} {cs : List Value} (h : CellsAt w b o cs) (hb : Below B w w') (hB : b < B) : CellsAt w' b o cs := fun j u hu => (hb.cell (p := ⟨b, _, none⟩) hB).trans (h j u hu)
theorem CellsAt.of_block {w : World} {g o : Nat} {t : TypeId} {cs : List Value} {ds : Array Value} (h : BlockIs w g t ds) (hc : ∀ (j : Nat) (u : Value), cs[j]? = some u → ds[o + j]? = some u) : CellsAt w g o cs := fun j u hu => (h.cell _).trans (hc j u hu)

section
variable {α : Type} {R S : World → α → List Value → Prop} {n : Nat} {w w' : World} {v : Value} {l : List α}
def Kept (R : World → α → List Value → Prop) : Prop := ∀ (w w' : World) (x : α) (cs : List Value), Below w.heap.size w w' → R w x cs → R w' x cs
def SeqAt (R : World → α → List Value → Prop) (n : Nat) (w : World) (b off : Nat) (l : List α) : Prop := ∀ (i : Nat) (x : α), l[i]? = some x → ∃ cs, R w x cs ∧ CellsAt w b (off + i * n) cs
def GSl (R : World → α → List Value → Prop) (n : Nat) (w : World) (v : Value) (l : List α) : Prop := (l = [] ∧ ∃ A c, v = .slice A 0 c) ∨ ∃ b off c, v = .slice (some ⟨b, off, none⟩) l.length c ∧ b < w.heap.size ∧ SeqAt R n w b off l
theorem SeqAt.below (hR : Kept R) {b off : Nat} (h : SeqAt R n w b off l) (hb : Below w.heap.size w w') (hB : b < w.heap.size) : SeqAt R n w' b off l := fun i x hx => by
  obtain ⟨cs, h1, h2⟩ := h i x hx
  exact ⟨cs, hR _ _ _ _ hb h1, h2.below hb hB⟩
theorem GSl.below (hR : Kept R) (h : GSl R n w v l) (hb : Below w.heap.size w w') : GSl R n w' v l := by
  rcases h with h | ⟨b, off, c, rfl, hlt, h⟩
  · exact .inl h
  · exact .inr ⟨b, off, c, rfl, Nat.lt_of_lt_of_le hlt hb.size, h.below hR hb hlt⟩
theorem GSl.form (h : GSl R n w v l) : ∃ A c, v = .slice A l.length c ∧ (0 < l.length → ∃ b off, A = some ⟨b, off, none⟩ ∧ b < w.heap.size ∧ SeqAt R n w b off l) := by
  rcases h with ⟨rfl, A, c, rfl⟩ | ⟨b, off, c, rfl, hlt, h⟩
  · exact ⟨A, c, rfl, fun h => absurd h (by simp)⟩
  · exact ⟨_, c, rfl, fun _ => ⟨b, off, rfl, hlt, h⟩⟩
theorem GSl.nil (R : World → α → List Value → Prop) (n : Nat) (w : World) (A : Option Addr) (c : Nat) : GSl R n w (.slice A 0 c) [] := .inl ⟨rfl, A, c, rfl⟩
end

def TaskR (w : World) (t : TV) (cs : List Value) : Prop := ∃ v1 v2, cs = [.int .i64 t.id, .int .i64 t.prio, .int .i64 t.need.c, .int .i64 t.need.m, .int .i64 t.need.p, v1, v2] ∧ LabSl w v1 t.want ∧ IntSl w v2 t.tols ∧ t.want.length ≤ 1048576 ∧ t.tols.length ≤ 1048576
def NodeR (w : World) (t : NV) (cs : List Value) : Prop := ∃ v1 v2, cs = [.int .i64 t.id, .int .i64 t.pool, .int .i64 t.cap.c, .int .i64 t.cap.m, .int .i64 t.cap.p, v1, v2, .bool t.cordon] ∧ LabSl w v1 t.labs ∧ IntSl w v2 t.taints ∧ t.labs.length ≤ 1048576 ∧ t.taints.length ≤ 1048576
def BindR (_ : World) (t : BV) (cs : List Value) : Prop := cs = [.int .i64 t.task, .int .i64 t.node]
theorem TaskR.kept : Kept TaskR := fun _ _ _ _ hb ⟨v1, v2, e, h1, h2, h3⟩ => ⟨v1, v2, e, h1.below hb, h2.below hb, h3⟩
theorem NodeR.kept : Kept NodeR := fun _ _ _ _ hb ⟨v1, v2, e, h1, h2, h3⟩ => ⟨v1, v2, e, h1.below hb, h2.below hb, h3⟩
theorem BindR.kept : Kept BindR := fun _ _ _ _ _ h => h
theorem TaskR.zero (w : World) : TaskR w TV.zero [.int .i64 0, .int .i64 0, .int .i64 0, .int .i64 0, .int .i64 0, .slice none 0 0, .slice none 0 0] := ⟨_, _, rfl, .inl ⟨rfl, _, _, rfl⟩, .inl ⟨rfl, _, _, rfl⟩, by simp [TV.zero], by simp [TV.zero]⟩
theorem NodeR.zero (w : World) : NodeR w NV.zero [.int .i64 0, .int .i64 0, .int .i64 0, .int .i64 0, .int .i64 0, .slice none 0 0, .slice none 0 0, .bool false] := ⟨_, _, rfl, .inl ⟨rfl, _, _, rfl⟩, .inl ⟨rfl, _, _, rfl⟩, by simp [NV.zero], by simp [NV.zero]⟩
theorem BindR.zero (w : World) : BindR w BV.zero [.int .i64 0, .int .i64 0] := rfl
def TaskSl (w : World) (v : Value) (l : List TV) : Prop := GSl TaskR 7 w v l
theorem TaskSl.below {w w' : World} {v : Value} {l : List TV} (h : TaskSl w v l) (hb : Below w.heap.size w w') : TaskSl w' v l := GSl.below TaskR.kept h hb
theorem TaskSl.form {w : World} {v : Value} {l : List TV} (h : TaskSl w v l) : ∃ A c, v = .slice A l.length c ∧ (0 < l.length → ∃ b off, A = some ⟨b, off, none⟩ ∧ b < w.heap.size ∧ SeqAt TaskR 7 w b off l) := GSl.form h
def NodeSl (w : World) (v : Value) (l : List NV) : Prop := GSl NodeR 8 w v l
theorem NodeSl.below {w w' : World} {v : Value} {l : List NV} (h : NodeSl w v l) (hb : Below w.heap.size w w') : NodeSl w' v l := GSl.below NodeR.kept h hb
theorem NodeSl.form {w : World} {v : Value} {l : List NV} (h : NodeSl w v l) : ∃ A c, v = .slice A l.length c ∧ (0 < l.length → ∃ b off, A = some ⟨b, off, none⟩ ∧ b < w.heap.size ∧ SeqAt NodeR 8 w b off l) := GSl.form h
def BindSl (w : World) (v : Value) (l : List BV) : Prop := GSl BindR 2 w v l
theorem BindSl.below {w w' : World} {v : Value} {l : List BV} (h : BindSl w v l) (hb : Below w.heap.size w w') : BindSl w' v l := GSl.below BindR.kept h hb
theorem BindSl.form {w : World} {v : Value} {l : List BV} (h : BindSl w v l) : ∃ A c, v = .slice A l.length c ∧ (0 < l.length → ∃ b off, A = some ⟨b, off, none⟩ ∧ b < w.heap.size ∧ SeqAt BindR 2 w b off l) := GSl.form h
theorem bind_cells {w : World} {b o : Nat} {u0 u1 : Value} (h : CellsAt w b o [u0, u1]) : w.cell? ⟨b, o, none⟩ = some u0 ∧ w.cell? ⟨b, o + 1, none⟩ = some u1 := ⟨h 0 _ rfl, h 1 _ rfl⟩
end Go.Proofs.YtcngiinaneefjaaDoor
