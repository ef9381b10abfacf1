/- Boxes that a call has made, behind another call. -/
import Derived.Test.YtbmiefhgkagcgaaBase
namespace Go.Proofs.Ytbmiefhgkagcgaa
open Go.RowKit

theorem boxes2 (w : World) (t0 t1 : TypeId) (c0 c1 : Array Value) {w2 : World} (hb : Below ((w.alloc (.cells c0 t0)).alloc (.cells c1 t1)).heap.size ((w.alloc (.cells c0 t0)).alloc (.cells c1 t1)) w2) :
    BlockIs w2 w.heap.size t0 c0 ∧ BlockIs w2 (w.heap.size + 1) t1 c1 :=
  ⟨((BlockIs.new w t0 c0).alloc _).below hb (by simp; omega), (BlockIs.new' (by simp)).below hb (by simp)⟩
theorem boxes3 (w : World) (t0 t1 t2 : TypeId) (c0 c1 c2 : Array Value) {w2 : World} (hb : Below (((w.alloc (.cells c0 t0)).alloc (.cells c1 t1)).alloc (.cells c2 t2)).heap.size (((w.alloc (.cells c0 t0)).alloc (.cells c1 t1)).alloc (.cells c2 t2)) w2) :
    BlockIs w2 w.heap.size t0 c0 ∧ BlockIs w2 (w.heap.size + 1) t1 c1 ∧ BlockIs w2 (w.heap.size + 1 + 1) t2 c2 :=
  ⟨(((BlockIs.new w t0 c0).alloc _).alloc _).below hb (by simp; omega), (BlockIs.alloc (BlockIs.new' (by simp)) _).below hb (by simp), (BlockIs.new' (by simp)).below hb (by simp)⟩
end Go.Proofs.Ytbmiefhgkagcgaa
