/-
  A drawn region's walk, op by op: what a guard passes over is taken first, too.
-/
import Derived.Deep.RegionHeld3
import Derived.Test.YtojdgcalpdbifaaMA
namespace Go.Proofs.Ytojdgcalpdbifaa
open Go.RowKit

/-- The operation at a place, written out: 'rfl' for 'ops[i]? = some _' leaves '#[..][i]', and the state then grows twofold at each step. -/
theorem op_of {ops : Array Oper} {i : Nat} {oi : Oper} (h : ops.toList[i]? = some oi) : ops[i]? = some oi := by rw [← Array.getElem?_toList]; exact h

/-- An operation that its guard passes over leaves nothing in its temporary. -/
theorem take_skip {P : Program} {md : Region.Mode} {ops : Array Oper} {Q : Exit → Act → World → Prop} {S : World → Prop} {i : Nat} {oi : Oper} {fuel : Nat} {listed : Array Bool} {a : Act} {w : World} (hi : ops[i]? = some oi)
    (hs : Region.noSelect ops = true) (hf : Region.free md ops listed i = true) (hr : (Region.ready md ops listed).contains i = true)
    (hQ : ∀ c a w, Q (.panic c) (a.put oi.dst undef) w → Q (.panic c) a w) (hw : Region.wanted oi (yielded ops a.tmps) = false) (hS : S w)
    (h : wpAnyH P md ops Q S fuel (listed.setIfInBounds i true) (a.put oi.dst undef) w) : wpAnyH P md ops Q S (fuel + 1) listed a w :=
  wpAnyH_take hi hs hf hr hQ (Or.inr ⟨hw, rfl⟩) hS h

/-- The condition on the world may be sharpened on the way. -/
theorem wpAnyH_more {P : Program} {md : Region.Mode} {ops : Array Oper} {Q : Exit → Act → World → Prop} {S S' : World → Prop} (hs : ∀ W, S' W → S W) : ∀ {fuel : Nat} {listed : Array Bool} {a : Act} {w : World},
    wpAnyH P md ops Q S' fuel listed a w → wpAnyH P md ops Q S fuel listed a w
  | 0, _, _, _, h => h
  | _ + 1, _, _, _, h => ⟨h.1, fun i hi => wpOp_mono (fun _ _ k => ⟨hs _ k.1, wpAnyH_more hs k.2⟩) (h.2 i hi)⟩
/-- .. to: 'all that is there now stays as it is'. -/
theorem wpAnyH_from {P : Program} {md : Region.Mode} {ops : Array Oper} {Q : Exit → Act → World → Prop} {w0 w : World} (hb : Below w0.heap.size w0 w) {fuel : Nat} {listed : Array Bool} {a : Act}
    (h : Below w.heap.size w w → wpAnyH P md ops Q (fun W => Below w.heap.size w W) fuel listed a w) : wpAnyH P md ops Q (fun W => Below w0.heap.size w0 W) fuel listed a w :=
  wpAnyH_more (fun _ hW => hb.trans (hW.mono hb.size)) (h (Below.refl _ _))
end Go.Proofs.Ytojdgcalpdbifaa
