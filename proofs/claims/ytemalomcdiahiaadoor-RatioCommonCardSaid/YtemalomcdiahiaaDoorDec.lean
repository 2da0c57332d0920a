/-
  Numbers in digits of 32 bits: isDecimal.
-/
import Derived.Test.YtemalomcdiahiaaDoorNatM
import Derived.Lib.ConvBytes
import Derived.Lib.AtoiErrMem
namespace Go.Proofs.YtemalomcdiahiaaDoor
open Go.RowKit
set_option maxRecDepth 100000

def digB (b : UInt8) : Bool := 48 ≤ b.toNat && b.toNat ≤ 57
/-- Decimal digits without noughts ahead. -/
def isDecB (l : List UInt8) : Bool := !l.isEmpty && !((l.headD 0).toNat == 48 && l.length != 1) && l.all digB

theorem ba_eq {s : ByteArray} {l : List UInt8} (h : s.data.toList = l) : s = ⟨l.toArray⟩ := by cases s; simp at h; simp [← h]
theorem all_getD {l : List UInt8} : l.all digB = true ↔ ∀ j, j < l.length → digB (l.getD j 0) = true := by
  constructor
  · intro h j hj
    rw [List.all_eq_true] at h
    rw [List.getD_eq_getElem?_getD, List.getElem?_eq_getElem hj]
    exact h _ (List.getElem_mem hj)
  · intro h
    rw [List.all_eq_true]
    intro x hx
    obtain ⟨j, hj, rfl⟩ := List.getElem_of_mem hx
    have := h j hj
    rwa [List.getD_eq_getElem?_getD, List.getElem?_eq_getElem hj] at this

theorem not_all {l : List UInt8} {n k : Nat} (hl : l.length = n) (hk : k < n) (h : digB (l.getD k 0) = false) : l.all digB = false := by
  cases ha : l.all digB with
  | false => rfl
  | true => rw [all_getD.1 ha k (by omega)] at h; cases h
end Go.Proofs.YtemalomcdiahiaaDoor
