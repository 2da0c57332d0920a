/-
  No cell of these rows narrows 'for every input' (looked for: loops, veiled, ifaces, maps, wideKeys, modest, calm, conditions, laid).
  DERIVED. THE GIVEN ROWS OF THIS SEAT. 2 by the template 'for every input the law returns true; each argument reads behind the call as it read before'; 0 by the template 'total and deterministic' (their statements: YtgopgbfgbddggaaGreatTotals.lean).
  GIVEN WITH THE SEED: the statements are not yours to turn. If you find one false, say at which input.
  Laid BY PROGRAM, IN A SANDBOX (cutbox-rows.mjs): the forced cells as the released guide's own fill.sh prints them over the translation cf775a3217403f31… (all of the seat's roots in one cut). By AI agents, Wed Nov 11 2026. No macro, syntax, notation, axiom, sorry.
-/
import Derived.Test.YtgopgbfgbddggaaGreatChecked
import GoSem.Claim
import GoSem.ClaimJoined
import GoSem.ClaimMapViews
import Derived.JoinedTies
import Derived.KernelRfl
namespace Go.Proofs.YtgopgbfgbddggaaGreat
/- THE CELL 'sum', in the pinned program and in every row, IS THE sha256 OF THE DUMP (.gsa) THAT YtgopgbfgbddggaaGreatProg.lean LOADS. Nothing in Lean hashes anything: it is a label: what it is worth is what the hold of that sum in a sandbox is worth. -/
noncomputable def Tryz.pinned : Pinned := { name := "ytgopgbfgbddggaagreat", sum := "cf775a3217403f31f3b7fe42ee4b3b6d5ad0c94ccb0abbf7eddde90f89f9bd14", checked := Tryz.checked }
namespace Rows
def none {H : Type} : Left H := { results := [], args := [] }

/-- 'tombolalaw18.WorthTells': WHATEVER THE INPUT: true; the input reads as it did. -/
def worthTellsSpec : ChangeSpec := { name := "worthTells", fn := fun _ => fun
  | [d] => { results := [.lit (.bool true)], args := [d] }
  | _ => none }
def worthTellsRow : OpenClaim := { program := "ytgopgbfgbddggaagreat", sum := "cf775a3217403f31f3b7fe42ee4b3b6d5ad0c94ccb0abbf7eddde90f89f9bd14", func := "tombola/tombolalaw18.WorthTells", spec := "worthTells", inPlace := ["slices.overlaps[int]"], unfollowed := true, recurses := true, named := ["math/bits.overflowError"], apart := false }
def WorthTellsSaid : Prop := worthTellsRow.holds Tryz.pinned (OpenSpec.ofChange worthTellsSpec)

/-- ITS FALSE NEIGHBOUR: 'it returns false'. Refute it at one input. -/
def worthTellsWrong : ChangeSpec := { name := "worthTells", fn := fun _ => fun
  | [d] => { results := [.lit (.bool false)], args := [d] }
  | _ => none }
def WorthTellsWrongFalsely : Prop := worthTellsRow.holds Tryz.pinned (OpenSpec.ofChange worthTellsWrong)

/-- 'tombolalaw18.WorthKeeps': WHATEVER THE INPUT: true; the input reads as it did. -/
def worthKeepsSpec : ChangeSpec := { name := "worthKeeps", fn := fun _ => fun
  | [d] => { results := [.lit (.bool true)], args := [d] }
  | _ => none }
def worthKeepsRow : OpenClaim := { program := "ytgopgbfgbddggaagreat", sum := "cf775a3217403f31f3b7fe42ee4b3b6d5ad0c94ccb0abbf7eddde90f89f9bd14", func := "tombola/tombolalaw18.WorthKeeps", spec := "worthKeeps", inPlace := ["slices.overlaps[int]"], unfollowed := true, recurses := true, named := ["math/bits.overflowError"], apart := false }
def WorthKeepsSaid : Prop := worthKeepsRow.holds Tryz.pinned (OpenSpec.ofChange worthKeepsSpec)

/-- ITS FALSE NEIGHBOUR: 'it returns false'. Refute it at one input. -/
def worthKeepsWrong : ChangeSpec := { name := "worthKeeps", fn := fun _ => fun
  | [d] => { results := [.lit (.bool false)], args := [d] }
  | _ => none }
def WorthKeepsWrongFalsely : Prop := worthKeepsRow.holds Tryz.pinned (OpenSpec.ofChange worthKeepsWrong)

/- THE SECOND FORM. 'bulk': how many values and letters a reading holds, each counted each time it is reached (what is shared counts as often as it is met; a slice's spare places count too). A statement '..UptoSaid' is the law's where the arguments, and the package variables that the reading takes, are together of bulk at most 1048576: NARROWER than '..Said'. Prove '..Said' where nothing that the law and all that it calls make is longer than what came in: it says more and counts as full. Else prove '..UptoSaid'. A law counts once. -/
mutual
def uptoBulk {H : Type} : DataW H → Nat
  | .lit (.string bytes) => bytes.length + 1
  | .lit _ => 1
  | .nil => 1
  | .ptr d => uptoBulk d + 1
  | .slice elems spare => uptoBulkAll elems + uptoBulkAll spare + 1
  | .agg parts => uptoBulkAll parts + 1
  | .iface _ d => uptoBulk d + 1
  | .map entries => uptoBulkEntries entries + 1
  | .held _ => 1
def uptoBulkAll {H : Type} : List (DataW H) → Nat
  | [] => 0
  | d :: r => uptoBulk d + uptoBulkAll r
def uptoBulkEntries {H : Type} : List (Lit × DataW H) → Nat
  | [] => 0
  | x :: r => uptoBulkEntry x + uptoBulkEntries r
def uptoBulkEntry {H : Type} : Lit × DataW H → Nat
  | (.string bytes, d) => bytes.length + uptoBulk d + 1
  | (_, d) => uptoBulk d + 1
 end
def uptoSmall : (H : Type) → List (DataW H) → Bool := fun _ ds => decide (uptoBulkAll ds ≤ 1048576)
def OpenSpec.upto (s : _root_.Go.ChangeSpec) : _root_.Go.OpenSpec := { _root_.Go.OpenSpec.ofChange s with cond := some uptoSmall }

/-- 'tombolalaw18.WorthTells', WHERE WHAT IT READS IS OF BULK AT MOST 1048576: true; the input reads as it did. -/
def worthTellsUptoRow : OpenClaim := { program := "ytgopgbfgbddggaagreat", sum := "cf775a3217403f31f3b7fe42ee4b3b6d5ad0c94ccb0abbf7eddde90f89f9bd14", func := "tombola/tombolalaw18.WorthTells", spec := "worthTells", inPlace := ["slices.overlaps[int]"], unfollowed := true, recurses := true, named := ["math/bits.overflowError"], apart := false, narrowed := true }
def WorthTellsUptoSaid : Prop := worthTellsUptoRow.holds Tryz.pinned (OpenSpec.upto worthTellsSpec)

/-- 'tombolalaw18.WorthKeeps', WHERE WHAT IT READS IS OF BULK AT MOST 1048576: true; the input reads as it did. -/
def worthKeepsUptoRow : OpenClaim := { program := "ytgopgbfgbddggaagreat", sum := "cf775a3217403f31f3b7fe42ee4b3b6d5ad0c94ccb0abbf7eddde90f89f9bd14", func := "tombola/tombolalaw18.WorthKeeps", spec := "worthKeeps", inPlace := ["slices.overlaps[int]"], unfollowed := true, recurses := true, named := ["math/bits.overflowError"], apart := false, narrowed := true }
def WorthKeepsUptoSaid : Prop := worthKeepsUptoRow.holds Tryz.pinned (OpenSpec.upto worthKeepsSpec)

end Rows
end Go.Proofs.YtgopgbfgbddggaaGreat
