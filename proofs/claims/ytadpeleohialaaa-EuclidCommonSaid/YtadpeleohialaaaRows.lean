/-
  No cell of these rows narrows 'for every input' (looked for: loops, veiled, ifaces, maps, wideKeys, modest, calm, conditions, laid).
  DERIVED. THE GIVEN ROWS OF THIS SEAT. 3 by the template 'for every input the law returns true; each argument reads behind the call as it read before'; 0 by the template 'total and deterministic' (their statements: YtadpeleohialaaaTotals.lean).
  GIVEN WITH THE SEED: the statements are not yours to turn. If you find one false, say at which input.
  Laid BY PROGRAM, IN A SANDBOX (cutbox-rows.mjs): the forced cells as the released guide's own fill.sh prints them over the translation fa7c7b75bcf2411c… (all of the seat's roots in one cut). By AI agents, Wed Nov 11 2026. No macro, syntax, notation, axiom, sorry.
-/
import Derived.Test.YtadpeleohialaaaChecked
import GoSem.Claim
import GoSem.ClaimJoined
import GoSem.ClaimMapViews
import Derived.JoinedTies
import Derived.KernelRfl
namespace Go.Proofs.Ytadpeleohialaaa
/- THE CELL 'sum', in the pinned program and in every row, IS THE sha256 OF THE DUMP (.gsa) THAT YtadpeleohialaaaProg.lean LOADS. Nothing in Lean hashes anything: it is a label: what it is worth is what the hold of that sum in a sandbox is worth. -/
noncomputable def Try.pinned : Pinned := { name := "ytadpeleohialaaa", sum := "fa7c7b75bcf2411c8a27bfd763e54ee3babc8ab8737cb232fce3687001856742", checked := Try.checked }
namespace Rows
def none {H : Type} : Left H := { results := [], args := [] }

/-- 'tombolalaw02.EuclidCommon': WHATEVER THE INPUT: true; the input reads as it did. -/
def euclidCommonSpec : ChangeSpec := { name := "euclidCommon", fn := fun _ => fun
  | [d1, d2, d3] => { results := [.lit (.bool true)], args := [d1, d2, d3] }
  | _ => none }
def euclidCommonRow : OpenClaim := { program := "ytadpeleohialaaa", sum := "fa7c7b75bcf2411c8a27bfd763e54ee3babc8ab8737cb232fce3687001856742", func := "tombola/tombolalaw02.EuclidCommon", spec := "euclidCommon", named := ["math/bits.divideError", "math/bits.overflowError"], apart := false }
def EuclidCommonSaid : Prop := euclidCommonRow.holds Try.pinned (OpenSpec.ofChange euclidCommonSpec)

/-- ITS FALSE NEIGHBOUR: 'it returns false'. Refute it at one input. -/
def euclidCommonWrong : ChangeSpec := { name := "euclidCommon", fn := fun _ => fun
  | [d1, d2, d3] => { results := [.lit (.bool false)], args := [d1, d2, d3] }
  | _ => none }
def EuclidCommonWrongFalsely : Prop := euclidCommonRow.holds Try.pinned (OpenSpec.ofChange euclidCommonWrong)

/-- 'tombolalaw02.EuclidMods': WHATEVER THE INPUT: true; the input reads as it did. -/
def euclidModsSpec : ChangeSpec := { name := "euclidMods", fn := fun _ => fun
  | [d1, d2, d3] => { results := [.lit (.bool true)], args := [d1, d2, d3] }
  | _ => none }
def euclidModsRow : OpenClaim := { program := "ytadpeleohialaaa", sum := "fa7c7b75bcf2411c8a27bfd763e54ee3babc8ab8737cb232fce3687001856742", func := "tombola/tombolalaw02.EuclidMods", spec := "euclidMods", named := ["math/bits.divideError", "math/bits.overflowError"], apart := false }
def EuclidModsSaid : Prop := euclidModsRow.holds Try.pinned (OpenSpec.ofChange euclidModsSpec)

/-- ITS FALSE NEIGHBOUR: 'it returns false'. Refute it at one input. -/
def euclidModsWrong : ChangeSpec := { name := "euclidMods", fn := fun _ => fun
  | [d1, d2, d3] => { results := [.lit (.bool false)], args := [d1, d2, d3] }
  | _ => none }
def EuclidModsWrongFalsely : Prop := euclidModsRow.holds Try.pinned (OpenSpec.ofChange euclidModsWrong)

/-- 'tombolalaw02.EuclidInverse': WHATEVER THE INPUT: true; the input reads as it did. -/
def euclidInverseSpec : ChangeSpec := { name := "euclidInverse", fn := fun _ => fun
  | [d1, d2] => { results := [.lit (.bool true)], args := [d1, d2] }
  | _ => none }
def euclidInverseRow : OpenClaim := { program := "ytadpeleohialaaa", sum := "fa7c7b75bcf2411c8a27bfd763e54ee3babc8ab8737cb232fce3687001856742", func := "tombola/tombolalaw02.EuclidInverse", spec := "euclidInverse", named := ["math/bits.divideError", "math/bits.overflowError"], apart := false }
def EuclidInverseSaid : Prop := euclidInverseRow.holds Try.pinned (OpenSpec.ofChange euclidInverseSpec)

/-- ITS FALSE NEIGHBOUR: 'it returns false'. Refute it at one input. -/
def euclidInverseWrong : ChangeSpec := { name := "euclidInverse", fn := fun _ => fun
  | [d1, d2] => { results := [.lit (.bool false)], args := [d1, d2] }
  | _ => none }
def EuclidInverseWrongFalsely : Prop := euclidInverseRow.holds Try.pinned (OpenSpec.ofChange euclidInverseWrong)

/- THE SECOND FORM. 'bulk': how many values and letters a reading holds, each counted each time it is reached (what is shared counts as often as it is met; a slice's spare places count too). A statement '..UptoSaid' is the law's where the arguments, and the package variables that the reading takes, are together of bulk at most 1048576: NARROWER than '..Said'. Prove '..Said' where nothing that the law and all that it calls make is longer than what came in: it says more and counts as full. Else prove '..UptoSaid'. A law counts once. -/
mutual
def uptoBulk {H : Type} : DataW H → Nat
  | .lit (.string bytes) => bytes.length + 1
  | .lit _ => 1
  | .nil => 1
  | .ptr d => uptoBulk d + 1
  | .slice elems spare => uptoBulkAll elems + uptoBulkAll spare + 1
  | .agg parts => uptoBulkAll parts + 1
  | .iface _ d => uptoBulk d + 1
  | .map entries => uptoBulkEntries entries + 1
  | .held _ => 1
def uptoBulkAll {H : Type} : List (DataW H) → Nat
  | [] => 0
  | d :: r => uptoBulk d + uptoBulkAll r
def uptoBulkEntries {H : Type} : List (Lit × DataW H) → Nat
  | [] => 0
  | x :: r => uptoBulkEntry x + uptoBulkEntries r
def uptoBulkEntry {H : Type} : Lit × DataW H → Nat
  | (.string bytes, d) => bytes.length + uptoBulk d + 1
  | (_, d) => uptoBulk d + 1
 end
def uptoSmall : (H : Type) → List (DataW H) → Bool := fun _ ds => decide (uptoBulkAll ds ≤ 1048576)
def OpenSpec.upto (s : _root_.Go.ChangeSpec) : _root_.Go.OpenSpec := { _root_.Go.OpenSpec.ofChange s with cond := some uptoSmall }

/-- 'tombolalaw02.EuclidCommon', WHERE WHAT IT READS IS OF BULK AT MOST 1048576: true; the input reads as it did. -/
def euclidCommonUptoRow : OpenClaim := { program := "ytadpeleohialaaa", sum := "fa7c7b75bcf2411c8a27bfd763e54ee3babc8ab8737cb232fce3687001856742", func := "tombola/tombolalaw02.EuclidCommon", spec := "euclidCommon", named := ["math/bits.divideError", "math/bits.overflowError"], apart := false, narrowed := true }
def EuclidCommonUptoSaid : Prop := euclidCommonUptoRow.holds Try.pinned (OpenSpec.upto euclidCommonSpec)

/-- 'tombolalaw02.EuclidMods', WHERE WHAT IT READS IS OF BULK AT MOST 1048576: true; the input reads as it did. -/
def euclidModsUptoRow : OpenClaim := { program := "ytadpeleohialaaa", sum := "fa7c7b75bcf2411c8a27bfd763e54ee3babc8ab8737cb232fce3687001856742", func := "tombola/tombolalaw02.EuclidMods", spec := "euclidMods", named := ["math/bits.divideError", "math/bits.overflowError"], apart := false, narrowed := true }
def EuclidModsUptoSaid : Prop := euclidModsUptoRow.holds Try.pinned (OpenSpec.upto euclidModsSpec)

/-- 'tombolalaw02.EuclidInverse', WHERE WHAT IT READS IS OF BULK AT MOST 1048576: true; the input reads as it did. -/
def euclidInverseUptoRow : OpenClaim := { program := "ytadpeleohialaaa", sum := "fa7c7b75bcf2411c8a27bfd763e54ee3babc8ab8737cb232fce3687001856742", func := "tombola/tombolalaw02.EuclidInverse", spec := "euclidInverse", named := ["math/bits.divideError", "math/bits.overflowError"], apart := false, narrowed := true }
def EuclidInverseUptoSaid : Prop := euclidInverseUptoRow.holds Try.pinned (OpenSpec.upto euclidInverseSpec)

end Rows
end Go.Proofs.Ytadpeleohialaaa
