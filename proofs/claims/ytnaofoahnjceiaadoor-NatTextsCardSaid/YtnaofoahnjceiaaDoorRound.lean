/-
  A region that draws its order, in a round of a loop over an iterator: the kit's plain walk of such a region (held cells) serves there too.
-/
import Derived.Test.YtnaofoahnjceiaaDoorRangeF
import Derived.Deep.RegionHeld3
import Derived.OrdersIn
namespace Go.Proofs.YtnaofoahnjceiaaDoor
open Go.RowKit
set_option maxRecDepth 100000

/-- No operation is a 'defer' statement, none waits on channels, none calls by a row. -/
def calmOps (ops : Array Oper) : Bool := ops.all fun o => match o.op with
  | .defer _ => false
  | _ => true

variable {P : Program} {ops : Array Oper} {Q : Exit → Act → World → Prop} {md : Region.Mode}

theorem about_wide {l : Nat} {o : Oper} {w : World} {a : Act} : ∀ f, o.about P w a.eval = some f → (Fence.wide.inRound l).fn f := fun _ _ => trivial

theorem wp_inRound {l n : Nat} {o : Oper} {a : Act} {w : World} {K : Act → World → Prop} (hd : ∀ c, o.op ≠ .defer c) (h : o.wp P a w K Q) : o.wpIn (Fence.wide.inRound l) n P a w K Q := by
  refine ⟨about_wide, ?_⟩
  rw [Oper.semAt_eq _ _ _ hd]
  unfold Oper.wp at h
  generalize (execOp a.eval o).run P w = r at h ⊢
  cases r with
  | ok x w' =>
    cases x <;> first
      | exact h
      | exact h.elim
      | exact ⟨fun h => (by cases h), CallsIn.inRound l (callsIn_wide.2 h)⟩
      | exact ⟨fun h => (by cases h), fun c cs _ => let ⟨v, w', r, s⟩ := h c cs; ⟨v, w', r, stepsIn_wide.2 s⟩⟩
  | halt x w' => cases x <;> exact h

theorem any_inRound {l n : Nat} (hc : calmOps ops = true) (hlo : ¬ LetsOut Q) : ∀ (fuel : Nat) (listed : Array Bool) (a : Act) (w : World), wpAny P md ops Q fuel listed a w → wpAnyIn (Fence.wide.inRound l) n P md ops Q fuel listed a w := by
  intro fuel
  induction fuel with
  | zero => intro listed a w h; exact h
  | succ fuel ih =>
    intro listed a w h
    refine ⟨h.1, fun i hi => ?_⟩
    have hw := h.2 i hi
    unfold wpOp at hw
    unfold wpOpIn
    cases ho : ops[i]? with
    | none => rw [ho] at hw; exact ih _ _ _ hw
    | some o =>
      rw [ho] at hw
      simp only at hw ⊢
      have hd : ∀ c, o.op ≠ .defer c := fun c e => by
        obtain ⟨hi2, he⟩ := Array.getElem?_eq_some_iff.1 ho
        have := Array.all_eq_true.1 hc i hi2
        rw [he, e] at this
        cases this
      split at hw
      · next hwt =>
        rw [if_pos hwt]
        rcases hw with hw | ⟨_, hw⟩
        · exact Oper.wpIn_mono (fun a w h => ih _ a w h) (wp_inRound hd hw)
        · exact absurd hw hlo
      · next hwt =>
        rw [if_neg hwt]
        exact ⟨about_wide, ih _ _ _ hw⟩

/-- The beginning. -/
theorem round_held {l n id : Nat} {a : Act} {w : World} {S : World → Prop} (hm : P.follows .mixedOrders = true) (hc : calmOps ops = true) (hlo : ¬ LetsOut Q) (hS : S w.drew)
    (h : S w.drew → wpAnyH P .any ops Q S ops.size (Array.replicate ops.size false) a w.drew) : (Code.region id ops true).wpIn (Fence.wide.inRound l) n P Q a w :=
  wpIn_region_any hm (any_inRound hc hlo _ _ _ _ (wpAny_of_held _ _ _ _ (h hS)))
end Go.Proofs.YtnaofoahnjceiaaDoor
