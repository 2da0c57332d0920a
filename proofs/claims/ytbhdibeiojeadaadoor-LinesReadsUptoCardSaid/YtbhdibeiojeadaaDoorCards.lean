/-
  DERIVED. GIVEN WITH THE SEED: THE CARDS: each row of YtbhdibeiojeadaaDoorRows.lean that lists a variable, with what it lists TIED to the program's text (the seventh form; the later family's looks); each row that meets fmt, with fmt's text TOLD by the authors' own Lean function (tested against real Go, not proved from fmt's source: count such statements apart). THE CARD IS WHAT COUNTS. Prove the row's statement (the work); the ties are given (YtbhdibeiojeadaaDoorTie.lean); close each card by the builder's one call (the guide's Derived/Test/ToyasCard.lean, 'card_holds'). Laid BY PROGRAM, IN A SANDBOX (cutbox-door.mjs). By AI agents, Wed Nov 11 2026. No macro, syntax, notation, axiom, sorry.
-/
import Derived.Test.YtbhdibeiojeadaaDoorRows
import GoSem.ClaimSeven
namespace Go.Proofs.YtbhdibeiojeadaaDoor
namespace Rows

/-- THE TIED CARD OF 'tombolalaw06.LinesNums'. -/
def linesNumsCard : Claim7 := { stood := { row := linesNumsRow, standIns := [], harness := (true, "fb30425cc0d1d7f54cdfe25d9944a496055263fc2b5e7269667eba0f2f54b741"), looks := true }, kinds := [], alts := [], laidByText := true, laidKinds := [.data, .data, .data, .data, .sentinel, .sentinel, .pinned], laidTests := true, laidLooks := .later }
def LinesNumsCardSaid : Prop := Claim7.holds Tryd.pinned (.plain (OpenSpec.ofChange linesNumsSpec)) linesNumsCard

/-- THE TIED CARD OF 'tombolalaw06.LinesReads'. -/
def linesReadsCard : Claim7 := { stood := { row := linesReadsRow, standIns := [], harness := (true, "fb30425cc0d1d7f54cdfe25d9944a496055263fc2b5e7269667eba0f2f54b741"), looks := true }, kinds := [], alts := [], laidByText := true, laidKinds := [.data, .data, .data, .data, .sentinel, .sentinel, .pinned], laidTests := true, laidLooks := .later }
def LinesReadsCardSaid : Prop := Claim7.holds Tryd.pinned (.plain (OpenSpec.ofChange linesReadsSpec)) linesReadsCard

/-- THE SECOND FORM's CARD OF 'tombolalaw06.LinesNums'. -/
def linesNumsUptoCard : Claim7 := { stood := { row := linesNumsUptoRow, standIns := [], harness := (true, "fb30425cc0d1d7f54cdfe25d9944a496055263fc2b5e7269667eba0f2f54b741"), looks := true }, kinds := [], alts := [], laidByText := true, laidKinds := [.data, .data, .data, .data, .sentinel, .sentinel, .pinned], laidTests := true, laidLooks := .later }
def LinesNumsUptoCardSaid : Prop := Claim7.holds Tryd.pinned (.plain (OpenSpec.upto linesNumsSpec)) linesNumsUptoCard

/-- THE SECOND FORM's CARD OF 'tombolalaw06.LinesReads'. -/
def linesReadsUptoCard : Claim7 := { stood := { row := linesReadsUptoRow, standIns := [], harness := (true, "fb30425cc0d1d7f54cdfe25d9944a496055263fc2b5e7269667eba0f2f54b741"), looks := true }, kinds := [], alts := [], laidByText := true, laidKinds := [.data, .data, .data, .data, .sentinel, .sentinel, .pinned], laidTests := true, laidLooks := .later }
def LinesReadsUptoCardSaid : Prop := Claim7.holds Tryd.pinned (.plain (OpenSpec.upto linesReadsSpec)) linesReadsUptoCard
end Rows
end Go.Proofs.YtbhdibeiojeadaaDoor
