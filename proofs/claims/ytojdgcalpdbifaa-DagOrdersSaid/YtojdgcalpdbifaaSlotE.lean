/-
  Slots: how many are taken.
-/
import Derived.Test.YtojdgcalpdbifaaSlotD
namespace Go.Proofs.Ytojdgcalpdbifaa
open Go.RowKit
attribute [local go_sem] Oper.semAt_some
set_option maxRecDepth 100000

theorem blk11_kept {w w' : World} {g : Nat} {t : TypeId} {cs : Array Value} (h : Blk w g t cs) {row : Option Nat} (hg : w.grownBy w' row) (hr : ∀ r, row = some r → ∃ o : Obj, w.heap[r]? = some o ∧ o.isCells = false) : Blk w' g t cs := by
  refine Blk.grown h hg (fun e => ?_)
  obtain ⟨o, ho, hc⟩ := hr g e.symm
  rw [show w.heap[g]? = _ from h] at ho
  cases ho
  cases hc
/-- Between two rounds of Len. -/
structure LenMem (w : World) (M k : Nat) (W : World) : Prop where
  below : Below w.heap.size w W
  many : Blk W M 3 #[.int .i64 (k : Int)]
theorem LenMem.kept {w : World} {M k : Nat} {X Y : World} {row : Option Nat} (h : LenMem w M k X) (hg : X.grownBy Y row) {C : Nat} (hC : w.heap.size ≤ C)
    (hr : ∀ r, row = some r → C ≤ r ∧ ∃ o : Obj, X.heap[r]? = some o ∧ o.isCells = false) : LenMem w M k Y :=
  ⟨h.below.grown hg h.below.size (fun r e => by have := (hr r e).1; omega), blk11_kept h.many hg (fun r e => (hr r e).2)⟩

end Go.Proofs.Ytojdgcalpdbifaa
