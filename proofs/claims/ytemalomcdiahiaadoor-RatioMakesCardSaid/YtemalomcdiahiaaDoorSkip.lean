/-
  A drawn region's walk, op by op: what a guard passes over is taken first, too.
-/
import Derived.Deep.RegionHeld3
import Derived.Test.YtemalomcdiahiaaDoorMA
namespace Go.Proofs.YtemalomcdiahiaaDoor

/-- The operation at a place, written out: 'rfl' for 'ops[i]? = some _' leaves '#[..][i]', and the state then grows twofold at each step. -/
theorem op_of {ops : Array Oper} {i : Nat} {oi : Oper} (h : ops.toList[i]? = some oi) : ops[i]? = some oi := by rw [← Array.getElem?_toList]; exact h

/-- An operation that its guard passes over leaves nothing in its temporary. -/
theorem take_skip {P : Program} {md : Region.Mode} {ops : Array Oper} {Q : Exit → Act → World → Prop} {S : World → Prop} {i : Nat} {oi : Oper} {fuel : Nat} {listed : Array Bool} {a : Act} {w : World} (hi : ops[i]? = some oi)
    (hs : Region.noSelect ops = true) (hf : Region.free md ops listed i = true) (hr : (Region.ready md ops listed).contains i = true)
    (hQ : ∀ c a w, Q (.panic c) (a.put oi.dst undef) w → Q (.panic c) a w) (hw : Region.wanted oi (yielded ops a.tmps) = false) (hS : S w)
    (h : wpAnyH P md ops Q S fuel (listed.setIfInBounds i true) (a.put oi.dst undef) w) : wpAnyH P md ops Q S (fuel + 1) listed a w :=
  wpAnyH_take hi hs hf hr hQ (Or.inr ⟨hw, rfl⟩) hS h
end Go.Proofs.YtemalomcdiahiaaDoor
