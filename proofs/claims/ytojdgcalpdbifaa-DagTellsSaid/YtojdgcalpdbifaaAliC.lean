/-
  Alias tables: package alias's Count, Pick.
-/
import Derived.Test.YtojdgcalpdbifaaAliB
namespace Go.Proofs.Ytojdgcalpdbifaa
open Go.RowKit
set_option maxRecDepth 100000

theorem wv_zero : wv 0 = .agg #[.int .u64 0, .int .u64 0] := rfl

/-- What a number picks. -/
def Pk12 (t n : Nat) (c : Nat → Nat) (o : Nat → Int) (r : Nat) (v : Int) (b : Bool) : Prop :=
  (¬ (Rt12 t n c o ∧ n * t < 18446744073709551616 ∧ r < n * t) ∧ v = -1 ∧ b = false) ∨
  (Rt12 t n c o ∧ n * t < 18446744073709551616 ∧ r < n * t ∧ v = (if r % t < c (r / t) then ((r / t : Nat) : Int) else o (r / t)) ∧ b = true)

end Go.Proofs.Ytojdgcalpdbifaa
