/-
  What is taken, and given back: the great question behind each call, a theorem for each way that the call's number may be.
-/
import Derived.Test.YthgenoepgjkfoaaDoorLawSlotA
import Derived.Test.YthgenoepgjkfoaaDoorRowV
namespace Go.Proofs.YthgenoepgjkfoaaDoor
open Go.RowKit
set_option maxRecDepth 100000

/-- The operations of a region of a function's body. -/
def regionOf11 : Code → Nat → Option (Array Oper)
  | .region id ops _, n => if id = n then some ops else none
  | .seq x y, n => (regionOf11 x n).orElse fun _ => regionOf11 y n
  | .cond _ x y, n => (regionOf11 x n).orElse fun _ => regionOf11 y n
  | .block _ x, n => regionOf11 x n
  | .loop x, n => regionOf11 x n
  | _, _ => none
def ops24s : { o : Array Oper // (match Go.Func.body Tryd.f3 with | some c => regionOf11 c 24 | none => none) = some o } := ⟨_, rfl⟩
def ops24 : Array Oper := ops24s.1

end Go.Proofs.YthgenoepgjkfoaaDoor
