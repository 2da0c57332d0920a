/-
  Alias tables: package alias's Fair.
-/
import Derived.Test.YtojdgcalpdbifaaAliC
namespace Go.Proofs.Ytojdgcalpdbifaa
open Go.RowKit
set_option maxRecDepth 100000

/-- Is a table fair for weights? -/
def Fr12 (t n : Nat) (c : Nat → Nat) (o : Nat → Int) (ys : List Nat) : Prop := up9 ys ys.length = t ∧ ys.length = n ∧ Rt12 t n c o ∧ ∀ j, j < n → cu t c o (j : Int) n = n * nth ys j

theorem if12 {a b c d : Int} {α : Type} {x y : α} (h : ¬ (a = b ∧ c = d)) : (if a = b then if c = d then x else y else y) = y := by
  by_cases h1 : a = b
  · rw [if_pos h1, if_neg (fun h2 => h ⟨h1, h2⟩)]
  · rw [if_neg h1]
end Go.Proofs.Ytojdgcalpdbifaa
