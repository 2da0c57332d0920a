/-
  The document's numbers, in digits: Back.
-/
import Derived.Test.YtojdgcalpdbifaaMF
namespace Go.Proofs.Ytojdgcalpdbifaa
open Go.RowKit

end Go.Proofs.Ytojdgcalpdbifaa
