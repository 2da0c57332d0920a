/-
  The least common number of any right fractions, and what they are times it, are the document's: the walk.
-/
import Derived.Test.YtaifigkbblncpaaGreatDoorMH
import Derived.Deep.DeepCutAuto
namespace Go.Proofs.YtaifigkbblncpaaGreatDoor
open Go.RowKit
set_option maxRecDepth 100000

theorem two_cells {W : World} {g : Nat} {u v : Value} (h0 : W.cell? ⟨g, 0, none⟩ = some u) (h1 : W.cell? ⟨g, 1, none⟩ = some v) : ∀ j x, [u, v][j]? = some x → W.cell? ((⟨g, 0, none⟩ : Addr).add j) = some x := by
  intro j x hj
  match j, hj with
  | 0, hj => simp at hj; subst hj; rw [Go.WideShapes.add_plain]; exact h0
  | 1, hj => simp at hj; subst hj; rw [Go.WideShapes.add_plain]; exact h1
/-- What is right of a fraction. -/
def Good (xs ys : List Nat) : Prop := xs.length ≤ 6 ∧ ys.length ≤ 6 ∧ rightB xs ys = true
theorem Good.pos {xs ys : List Nat} (h : Good xs ys) : 0 < U ys := by
  have := h.2.2
  simp only [rightB, Bool.and_eq_true, Bool.not_eq_true', decide_eq_false_iff_not] at this
  omega

end Go.Proofs.YtaifigkbblncpaaGreatDoor
