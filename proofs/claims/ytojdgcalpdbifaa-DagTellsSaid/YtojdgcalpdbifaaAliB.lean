/-
  Alias tables: package alias's counts: how many numbers pick each place.
-/
import Derived.Test.YtojdgcalpdbifaaAliA
namespace Go.Proofs.Ytojdgcalpdbifaa
open Go.RowKit
set_option maxRecDepth 100000

theorem made_two12 (a b : Value) (n j : Nat) (hj : j < n) : (madeCells #[a, b] (n * 2))[j * 2]? = some a ∧ (madeCells #[a, b] (n * 2))[j * 2 + 1]? = some b := by
  have hs : (madeCells #[a, b] (n * 2)).size = n * 2 := size_madeCells _ _
  constructor
  · rw [Array.getElem?_eq_getElem (by omega)]
    simp [madeCells, Array.getElem_ofFn]
  · rw [Array.getElem?_eq_getElem (by omega)]
    simp [madeCells, Array.getElem_ofFn]

end Go.Proofs.Ytojdgcalpdbifaa
