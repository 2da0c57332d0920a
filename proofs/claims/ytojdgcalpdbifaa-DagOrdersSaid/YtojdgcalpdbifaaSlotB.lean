/-
  Slots: the places in memory; math/bits.TrailingZeros64; is a place taken, turned.
-/
import Derived.Test.YtojdgcalpdbifaaSlotA
import Derived.Test.YtojdgcalpdbifaaMB
import Derived.Test.YtojdgcalpdbifaaSrcA
import Derived.Test.YtojdgcalpdbifaaSkip
import Derived.Test.YtojdgcalpdbifaaProg
import Derived.Deep.RegionHeld3
import Derived.Shelf.Spec.TrailingZeros
import Derived.Deep.MidRow
namespace Go.Proofs.Ytojdgcalpdbifaa
open Go.RowKit
set_option maxRecDepth 100000

section
variable {w w' : World} {g n : Nat} {S : Nat → Nat}
end
/-- The rows, as values. -/
def vals11 (S : Nat → Nat) : List Value := (List.range 64).map fun i => .int .u64 ((S i : Nat) : Int)
theorem vals11_len (S : Nat → Nat) : (vals11 S).length = 64 := by simp [vals11]
theorem vals11_get (S : Nat → Nat) {i : Nat} (h : i < 64) : (vals11 S)[i]? = some (.int .u64 ((S i : Nat) : Int)) := by
  simp [vals11, h]
theorem bit11_is (x k : Nat) (hx : x < 2 ^ 64) : (bits BinOp.and IntKind.u64 ((x : Int) / 2 ^ k) 1 == 1) = x.testBit k := by
  have e : (x : Int) / 2 ^ k = ((x / 2 ^ k : Nat) : Int) := by simp
  have e1 : (1 : Int) = ((1 : Nat) : Int) := rfl
  rw [e, e1, bits_and_u64_nat _ 1 (Nat.lt_of_le_of_lt (Nat.div_le_self _ _) hx) (by omega), Nat.testBit_eq_decide_div_mod_eq, Nat.and_one_is_mod]
  obtain ⟨m, hm⟩ : ∃ m, x / 2 ^ k % 2 = m := ⟨_, rfl⟩
  rw [hm]
  rw [Bool.eq_iff_iff]
  simp
  omega
theorem lack11_xor {x : Nat} (h : x < 18446744073709551616) : bits BinOp.xor IntKind.u64 IntKind.u64.max (x : Int) = ((lack11 x : Nat) : Int) := by
  have e : IntKind.u64.max = ((18446744073709551615 : Nat) : Int) := rfl
  rw [e, bits_xor_u64_nat _ x (by omega) h]
  congr 1
  apply Nat.eq_of_testBit_eq
  intro k
  rw [Nat.testBit_xor, show (18446744073709551615 : Nat) = 2 ^ 64 - 1 by decide, Nat.testBit_two_pow_sub_one]
  rcases Nat.lt_or_ge k 64 with h1 | h1
  · rw [lack11_bit h h1]
    simp [h1]
  · have h2 : ¬ k < 64 := by omega
    rw [Nat.testBit_lt_two_pow (Nat.lt_of_lt_of_le (show x < 2 ^ 64 from h) (Nat.pow_le_pow_right (by decide) h1)), Nat.testBit_lt_two_pow (Nat.lt_of_lt_of_le (lack11_lt x) (Nat.pow_le_pow_right (by decide) h1))]
    simp [h2]
section
variable {w w' : World} {g n : Nat} {T : Nat → Bool}
end
end Go.Proofs.Ytojdgcalpdbifaa
