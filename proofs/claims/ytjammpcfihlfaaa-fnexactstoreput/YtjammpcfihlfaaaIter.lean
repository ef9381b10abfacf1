/- slices.Sorted(maps.Keys(m)) over a map of items: the library's contracts laid at this program, and what the two calls hand back. -/
import Derived.Shelf.SlIterI.Nil
import Derived.Shelf.SortM.Plain
import Derived.Shelf.SortM.SortNone
import Derived.Test.YtjammpcfihlfaaaItemMap
namespace Go.Proofs.Ytjammpcfihlfaaa
open Go.RowKit Go.Maps Go.Sort Go.Shelf

def Try.keysK_ren : Go.Shelf.Ren := ⟨fun | 7 => 68 | 10 => 71 | n => n, fun | 23 => 77 | 26 => 3 | 3 => 36 | 28 => 91 | 0 => 0 | 27 => 90 | 33 => 71 | 4 => 4 | n => n, fun | n => n⟩
theorem Try.keysK : Go.Proofs.SlLaysZI.n7 Try.prog Try.keysK_ren := {
  mixed := by kernel_rfl,
  f7 := ⟨Try.f68.name, by decide, Try.func68.trans (congrArg some (by kernel_rfl))⟩,
  f10 := ⟨Try.f71.name, by decide, Try.func71.trans (congrArg some (by kernel_rfl))⟩,
  t0 := Try.underlying0,
  a0 := Try.isAgg0,
  z0 := Try.sizeOf0,
  v0 := Try.zeroValue0,
  t4 := Try.underlying4,
  a4 := Try.isAgg4,
  z4 := Try.sizeOf4,
  v4 := Try.zeroValue4,
  t23 := Try.underlying77,
  a23 := Try.isAgg77,
  z23 := Try.sizeOf77,
  v23 := Try.zeroValue77,
  t26 := Try.underlying3,
  a26 := Try.isAgg3,
  z26 := Try.sizeOf3,
  v26 := Try.zeroValue3,
  t27 := Try.underlying90,
  a27 := Try.isAgg90,
  z27 := Try.sizeOf90,
  v27 := Try.zeroValue90,
  t28 := Try.underlying91,
  a28 := Try.isAgg91,
  z28 := Try.sizeOf91,
  v28 := Try.zeroValue91,
  t33 := Try.underlying71,
  a33 := Try.isAgg71,
  z33 := Try.sizeOf71,
  v33 := Try.zeroValue71 }
def Try.sortedK_ren : Go.Shelf.Ren := ⟨fun | 6 => 67 | 8 => 69 | 9 => 70 | 11 => 72 | 13 => 74 | 12 => 73 | 23 => 84 | 24 => 85 | 14 => 75 | 15 => 76 | 16 => 77 | 17 => 78 | 18 => 79 | 19 => 80 | 20 => 81 | 21 => 82 | 22 => 83 | 25 => 86 | 26 => 87 | 27 => 88 | 28 => 89 | 29 => 90 | 30 => 91 | 31 => 92 | n => n, fun | 26 => 3 | 28 => 91 | 24 => 70 | 0 => 0 | 3 => 3 | 37 => 97 | 48 => 108 | 50 => 110 | 4 => 4 | 40 => 100 | 39 => 99 | 45 => 105 | 5 => 5 | 9 => 9 | 51 => 111 | 55 => 115 | 57 => 117 | 58 => 118 | 33 => 71 | n => n, fun | n => n⟩
theorem Try.sortedK : Go.Proofs.SlLaysZI.n6 Try.prog Try.sortedK_ren := {
  mixed := by kernel_rfl,
  f6 := ⟨Try.f67.name, by decide, Try.func67.trans (congrArg some (by kernel_rfl))⟩,
  f8 := ⟨Try.f69.name, by decide, Try.func69.trans (congrArg some (by kernel_rfl))⟩,
  f11 := ⟨Try.f72.name, by decide, Try.func72.trans (congrArg some (by kernel_rfl))⟩,
  t0 := Try.underlying0,
  a0 := Try.isAgg0,
  z0 := Try.sizeOf0,
  v0 := Try.zeroValue0,
  t24 := Try.underlying70,
  a24 := Try.isAgg70,
  z24 := Try.sizeOf70,
  v24 := Try.zeroValue70,
  t26 := Try.underlying3,
  a26 := Try.isAgg3,
  z26 := Try.sizeOf3,
  v26 := Try.zeroValue3,
  t28 := Try.underlying91,
  a28 := Try.isAgg91,
  z28 := Try.sizeOf91,
  v28 := Try.zeroValue91,
  i26 := by kernel_rfl }
def Try.sortK_ren : Go.Shelf.Ren := ⟨fun | 5 => 70 | 8 => 74 | 7 => 73 | 19 => 84 | 20 => 85 | 10 => 75 | 11 => 76 | 12 => 77 | 13 => 78 | 14 => 79 | 15 => 80 | 16 => 81 | 17 => 82 | 18 => 83 | 30 => 86 | 31 => 87 | 32 => 88 | 33 => 89 | 34 => 90 | 35 => 91 | 40 => 92 | n => n, fun | 23 => 70 | 25 => 3 | 3 => 3 | 32 => 97 | 22 => 70 | 0 => 0 | 44 => 108 | 46 => 110 | 4 => 4 | 36 => 100 | 35 => 99 | 41 => 105 | 5 => 5 | 9 => 9 | 53 => 111 | 57 => 115 | 63 => 117 | 64 => 118 | n => n, fun | n => n⟩
theorem Try.sortK : Go.Proofs.SlLaysM.n5 Try.prog Try.sortK_ren := {
  mixed := by kernel_rfl,
  f5 := ⟨Try.f70.name, by decide, Try.func70.trans (congrArg some (by kernel_rfl))⟩,
  f7 := ⟨Try.f73.name, by decide, Try.func73.trans (congrArg some (by kernel_rfl))⟩,
  f8 := Try.func74.trans (congrArg some (by kernel_rfl)),
  f10 := ⟨Try.f75.name, by decide, Try.func75.trans (congrArg some (by kernel_rfl))⟩,
  f11 := ⟨Try.f76.name, by decide, Try.func76.trans (congrArg some (by kernel_rfl))⟩,
  f12 := ⟨Try.f77.name, by decide, Try.func77.trans (congrArg some (by kernel_rfl))⟩,
  f13 := ⟨Try.f78.name, by decide, Try.func78.trans (congrArg some (by kernel_rfl))⟩,
  f14 := ⟨Try.f79.name, by decide, Try.func79.trans (congrArg some (by kernel_rfl))⟩,
  f15 := ⟨Try.f80.name, by decide, Try.func80.trans (congrArg some (by kernel_rfl))⟩,
  f16 := ⟨Try.f81.name, by decide, Try.func81.trans (congrArg some (by kernel_rfl))⟩,
  f17 := ⟨Try.f82.name, by decide, Try.func82.trans (congrArg some (by kernel_rfl))⟩,
  f18 := ⟨Try.f83.name, by decide, Try.func83.trans (congrArg some (by kernel_rfl))⟩,
  f19 := Try.func84.trans (congrArg some (by kernel_rfl)),
  f20 := Try.func85.trans (congrArg some (by kernel_rfl)),
  f30 := ⟨Try.f86.name, by decide, Try.func86.trans (congrArg some (by kernel_rfl))⟩,
  f31 := Try.func87.trans (congrArg some (by kernel_rfl)),
  f32 := Try.func88.trans (congrArg some (by kernel_rfl)),
  f33 := ⟨Try.f89.name, by decide, Try.func89.trans (congrArg some (by kernel_rfl))⟩,
  f34 := ⟨Try.f90.name, by decide, Try.func90.trans (congrArg some (by kernel_rfl))⟩,
  f35 := ⟨Try.f91.name, by decide, Try.func91.trans (congrArg some (by kernel_rfl))⟩,
  f40 := ⟨Try.f92.name, by decide, Try.func92.trans (congrArg some (by kernel_rfl))⟩,
  t0 := Try.underlying0,
  a0 := Try.isAgg0,
  z0 := Try.sizeOf0,
  v0 := Try.zeroValue0,
  t3 := Try.underlying3,
  a3 := Try.isAgg3,
  z3 := Try.sizeOf3,
  v3 := Try.zeroValue3,
  t4 := Try.underlying4,
  a4 := Try.isAgg4,
  z4 := Try.sizeOf4,
  v4 := Try.zeroValue4,
  t5 := Try.underlying5,
  a5 := Try.isAgg5,
  z5 := Try.sizeOf5,
  v5 := Try.zeroValue5,
  t9 := Try.underlying9,
  a9 := Try.isAgg9,
  z9 := Try.sizeOf9,
  v9 := Try.zeroValue9,
  t22 := Try.underlying70,
  a22 := Try.isAgg70,
  z22 := Try.sizeOf70,
  v22 := Try.zeroValue70,
  t23 := Try.underlying70,
  a23 := Try.isAgg70,
  z23 := Try.sizeOf70,
  v23 := Try.zeroValue70,
  t25 := Try.underlying3,
  a25 := Try.isAgg3,
  z25 := Try.sizeOf3,
  v25 := Try.zeroValue3,
  t32 := Try.underlying97,
  a32 := Try.isAgg97,
  z32 := Try.sizeOf97,
  v32 := Try.zeroValue97,
  t35 := Try.underlying99,
  a35 := Try.isAgg99,
  z35 := Try.sizeOf99,
  v35 := Try.zeroValue99,
  t36 := Try.underlying100,
  a36 := Try.isAgg100,
  z36 := Try.sizeOf100,
  v36 := Try.zeroValue100,
  t41 := Try.underlying105,
  a41 := Try.isAgg105,
  z41 := Try.sizeOf105,
  v41 := Try.zeroValue105,
  t44 := Try.underlying108,
  a44 := Try.isAgg108,
  z44 := Try.sizeOf108,
  v44 := Try.zeroValue108,
  t46 := Try.underlying110,
  a46 := Try.isAgg110,
  z46 := Try.sizeOf110,
  v46 := Try.zeroValue110,
  t53 := Try.underlying111,
  a53 := Try.isAgg111,
  z53 := Try.sizeOf111,
  v53 := Try.zeroValue111,
  t57 := Try.underlying115,
  a57 := Try.isAgg115,
  z57 := Try.sizeOf115,
  v57 := Try.zeroValue115,
  t63 := Try.underlying117,
  a63 := Try.isAgg117,
  z63 := Try.sizeOf117,
  v63 := Try.zeroValue117,
  t64 := Try.underlying118,
  a64 := Try.isAgg118,
  z64 := Try.sizeOf118,
  v64 := Try.zeroValue118 }
theorem Try.sortsK (m : Nat) : AnyZI.SortsIn Try.prog Try.sortedK_ren Fence.wide m :=
  ⟨fun blk off cap ss W hH hblk hsz => callsIn_wide.2 (AnyM.slices_Sort_int Try.sortK blk off cap ss W hH hblk hsz),
   fun p cap W => callsIn_wide.2 (AnyM.slices_Sort_int_none Try.sortK p cap W)⟩
/-- maps.Keys(m): a function value over one new block that holds the map. -/
theorem keys_call (mb : Option Nat) (W : World) : Calls Try.prog 68 #[.map mb] W fun e w' => e = .returned (.func (.func 71) #[] #[.pointer (some ⟨W.heap.size, 0, none⟩)]) ∧ w' = W.alloc (.cells #[.map mb] 77) :=
  (callsIn_wide (n := 5)).1 (AnyZI.keys_in Try.keysK Fence.wide 5 trivial rfl mb W)
/-- slices.Sorted of what maps.Keys handed back: the Keys of the items, in their order. -/
theorem sorted_call (w : World) (b n g : Nat) (l : List RV) (hg : g = w.heap.size) (h : MapIs w b n l) (hl : l.length ≤ 1000) :
    Calls Try.prog 67 #[.func (.func 71) #[] #[.pointer (some ⟨g, 0, none⟩)]] (w.alloc (.cells #[.map (some b)] 77)) fun e w' =>
      ∃ v, e = .returned v ∧ w'.ownsRow (g + 1) 3 1 v l.length (l.map fun r => .int .i64 r.c) ∧ Below (g + 1) (w.alloc (.cells #[.map (some b)] 77)) w' := by
  subst hg
  obtain ⟨D0, hown, hp, hs⟩ := h.keys
  have hbl := hown.lt
  have hseq : SeqGives Fence.wide 2 Try.prog 71 #[.pointer (some ⟨w.heap.size, 0, none⟩)] encZ (fun ss => ss.Perm (intKeys D0)) (Maps.size D0) (w.alloc (.cells #[.map (some b)] 77)) :=
    AnyZI.keys_gives (ρ := Try.keysK_ren) { Try.keysK with } Fence.wide _ trivial rfl (by omega) w.heap.size b n D0 _ (by simp) (by simp) (by
      obtain ⟨es, clock, hb, Ft, hs, hD⟩ := hown
      exact ⟨es, clock, (Below.heap_alloc _ _ b hbl).trans hb, Ft, hs, hD⟩)
  have cS := AnyZI.sorted_in Try.sortedK Fence.wide 5 trivial trivial trivial trivial rfl (by omega) (Try.sortsK _) (enters_of Try.func70 (by kernel_rfl) rfl) 71 #[.pointer (some ⟨w.heap.size, 0, none⟩)] trivial (enters_of Try.func71 (by kernel_rfl) rfl) _ _ (by rw [hs]; unfold maxLen; omega) (by rw [hs]; omega) _ hseq
  refine ((callsIn_wide (n := 5)).1 cS).mono ?_
  rintro e w' ⟨v, ss, rfl, hS, hrow, hnil, hb⟩
  have hsize : (w.alloc (.cells #[.map (some b)] 77)).heap.size = w.heap.size + 1 := by simp
  rw [hsize] at hrow hb
  refine ⟨v, rfl, ?_, hb⟩
  have hpp : ss.Perm (l.map (·.c)) := hS.trans hp.symm
  have e1 : ss.length = l.length := by rw [hpp.length_eq]; simp
  have e2 : ss.mergeSort (fun x y => decide (x ≤ y)) = l.map (·.c) := by
    rw [show ss.mergeSort (fun x y => decide (x ≤ y)) = (l.map (·.c)).mergeSort (fun x y => decide (x ≤ y)) from mergeSort_of_perm_i hpp]
    refine List.mergeSort_of_pairwise (List.pairwise_map.2 (h.rise.imp fun h => ?_))
    exact decide_eq_true (Int.le_of_lt h)
  rw [e1, e2, List.map_map] at hrow
  exact hrow
end Go.Proofs.Ytjammpcfihlfaaa
