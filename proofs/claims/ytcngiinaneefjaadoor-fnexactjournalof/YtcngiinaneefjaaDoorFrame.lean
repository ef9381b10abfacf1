/- The frame of every law: a call that answers true and has turned nothing that was there leaves what its row asks. -/
import Derived.Carry
import Derived.WalkSmall
import Derived.OpenShut
import Derived.ProofKit
import Derived.Stop.LaidErr
namespace Go.Proofs.YtcngiinaneefjaaDoor
open Go.ChangeShapes Go.WideShapes Go.ChangeAt Go.RowKit

section
variable {H : Type} {enc : TypeId × Value → H} {P : Program}

theorem trodAll_below (hl : laidOutB P = true) {W W' : World} (hb : Below W.heap.size W W') :
    ∀ {ts : List TypeId} {vs : List Value} {ds : List (DataW H)} {ps : List MemPlace}, (∀ t ∈ ts, P.readableRec t = true ∧ t < P.types.size) →
      DataW.TrodAll enc P W 0 (fun _ => true) true ts vs ds ps → (∀ x ∈ ps, x.block < W.heap.size) → DataW.TrodAll enc P W' 0 (fun b => decide (b < W.heap.size)) true ts vs ds ps
  | [], [], [], _, _, h, _ => h
  | _ :: _, _ :: _, _ :: _, _, hts, ⟨p, q, h1, h2, e⟩, hlt => by
    subst e
    refine ⟨p, q, h1.elim fun fuel hf => ?_, trodAll_below hl hb (fun t ht => hts t (List.mem_cons.2 (Or.inr ht))) h2 (fun x hx => hlt x (List.mem_append_right _ hx)), rfl⟩
    exact Below.trod hl (hts _ (List.mem_cons.2 (Or.inl rfl))).1 (hts _ (List.mem_cons.2 (Or.inl rfl))).2 ⟨fuel, hf⟩ hb (fun x hx => hlt x (List.mem_append_left _ hx))

theorem trodVars_below {W W' : World} (hb : Below W.heap.size W W') :
    ∀ {ns : List String} {gs : List (DataW H)} {ps : List MemPlace}, (∀ n ∈ ns, ∃ g t ms, P.globalNamed n = some g ∧ (P.globals[g]?).map (·.type) = some t ∧ P.underlying t = some (.interface ms)) →
      DataW.TrodVars enc P W (fun _ => true) ns gs ps → ∃ ps', DataW.TrodVars enc P W' (fun b => decide (b < W.heap.size)) ns gs ps'
  | [], [], _, _, _ => ⟨[], rfl⟩
  | n :: ns, _ :: _, _, hns, ⟨g, t, cs, fuel, p, q, h1, h2, h3, h4, h5, _⟩ => by
    obtain ⟨q', hq⟩ := trodVars_below hb (fun m hm => hns m (List.mem_cons.2 (Or.inr hm))) h5
    obtain ⟨g', t', ms, e1, e2, e3⟩ := hns n (List.mem_cons.2 (Or.inl rfl))
    obtain rfl := Option.some.inj (h1.symm.trans e1)
    obtain rfl := Option.some.inj (h2.symm.trans e2)
    obtain ⟨x, rfl, ix, rfl, rfl, hc⟩ := token_of h1 e3 h3 h4
    have hg : g < W.heap.size := by
      rcases Nat.lt_or_ge g W.heap.size with h' | h'
      · exact h'
      · simp [World.cell?, Array.getElem?_eq_none h'] at hc
    exact ⟨_, g, t, #[x], 1, [], q', h1, h2, var?_below hb h1 hg h3, trod_held e3 ix 0, hq, rfl⟩

theorem law_post {f : Func} {s : ChangeSpec} {apart fresh handsOn : Bool} {W W' : World} {args : Array Value} {ds gs : List (DataW H)} {before : List MemPlace} {tb : TypeId}
    (hl : laidOutB P = true) (hts : ∀ t ∈ f.params.toList, P.readableRec t = true ∧ t < P.types.size)
    (hns : ∀ n ∈ s.vars, ∃ g t ms, P.globalNamed n = some g ∧ (P.globals[g]?).map (·.type) = some t ∧ P.underlying t = some (.interface ms))
    (hr : f.resultTypes = #[tb]) (hu : P.underlying tb = some .bool)
    (hW : DataW.Whole enc P f.params.toList s.vars apart W args.toList ds gs before)
    (hfn : s.fn H (ds ++ gs) = { results := [.lit (.bool true)], args := ds, vars := gs })
    (hb : Below W.heap.size W W') : s.post enc P f apart fresh handsOn false W args (.bool true) W' := by
  have hlt := hW.lt
  obtain ⟨p, q, hA, hV, rfl, hfz, hnd⟩ := id hW
  obtain ⟨q', hV'⟩ := trodVars_below hb hns hV
  have hA' := trodAll_below hl hb hts hA (fun x hx => hlt x (List.mem_append_left _ hx))
  refine ⟨ds, gs, p ++ q, [], p, q', hW, ?_, ?_, ?_, hb.frame _, fun h => by cases h⟩
  · rw [hfn, hr]; exact trodAll_mk1 (shut_bool hu true)
  · rw [hfn]; exact hA'
  · rw [hfn]; exact hV'
end
end Go.Proofs.YtcngiinaneefjaaDoor
