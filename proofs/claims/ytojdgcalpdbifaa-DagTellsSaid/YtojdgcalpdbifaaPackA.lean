/-
  Package wide of the program: halves, Full, Add, Sub, Mul, Fits.
-/
import Derived.Test.YtojdgcalpdbifaaProg
import Derived.WalkKit
import Derived.BigQuiet
import Derived.Outline
import Derived.Lib.Hide
namespace Go.Proofs.Ytojdgcalpdbifaa
open Go.RowKit

theorem below_drewN {w : World} (n : Nat) : Below w.heap.size w (w.drewN n) := ⟨rfl, rfl, rfl, Nat.le_refl _, fun _ _ => rfl⟩

theorem and_mask32 (a : Nat) (ha : a < 18446744073709551616) : bits .and .u64 (a : Int) 4294967295 = ((a % 4294967296 : Nat) : Int) := by
  have h := bits_and_u64_nat a 4294967295 ha (by decide)
  have e : a &&& 4294967295 = a % 4294967296 := Nat.and_two_pow_sub_one_eq_mod a 32
  rw [e] at h
  exact h
theorem or_low32 (h l : Nat) (hh : h < 4294967296) (hl : l < 4294967296) : bits .or .u64 (((h * 4294967296 : Nat)) : Int) (l : Int) = ((h * 4294967296 + l : Nat) : Int) := by
  have h1 := bits_or_u64_nat (h * 4294967296) l (by omega) (by omega)
  have e : h * 4294967296 ||| l = h * 4294967296 + l := by
    have := Nat.two_pow_add_eq_or_of_lt (i := 32) (b := l) hl h
    rw [Nat.mul_comm] at this
    exact this.symm
  rw [e] at h1
  exact h1

/-- The high and the low half of a. -/
def Halves (a : Nat) (w : World) (e : Ending) (w' : World) : Prop :=
  ∃ h l : Nat, e = .returned (.tuple #[.int .u64 (h : Int), .int .u64 (l : Int)]) ∧ a = h * 4294967296 + l ∧ h < 4294967296 ∧ l < 4294967296 ∧ w = w'

theorem prod32 {a b : Nat} (ha : a < 4294967296) (hb : b < 4294967296) : a * b ≤ 18446744065119617025 := by
  have := Nat.mul_le_mul (show a ≤ 4294967295 by omega) (show b ≤ 4294967295 by omega)
  omega
theorem u64_in (n : Nat) (h : n < 18446744073709551616) : IntKind.u64.wrap (n : Int) = (n : Int) := by rw [IntKind.wrap_u64]; omega
/-- A product of halves, and a half: no wrap. -/
theorem mul_u64 {a b : Nat} (ha : a < 4294967296) (hb : b < 4294967296) : IntKind.u64.wrap ((a : Int) * (b : Int)) = ((a * b : Nat) : Int) := by
  have h := prod32 ha hb
  rw [show (a : Int) * (b : Int) = ((a * b : Nat) : Int) by simp, u64_in _ (by omega)]
theorem mul_add_u64 {a b c : Nat} (ha : a < 4294967296) (hb : b < 4294967296) (hc : c < 4294967296) : IntKind.u64.wrap (IntKind.u64.wrap ((a : Int) * (b : Int)) + (c : Int)) = ((a * b + c : Nat) : Int) := by
  have h := prod32 ha hb
  rw [mul_u64 ha hb, show ((a * b : Nat) : Int) + (c : Int) = ((a * b + c : Nat) : Int) by simp, u64_in _ (by omega)]

/-- What is answered is the wide number p. -/
def RetWide (p : Nat) (w : World) (e : Ending) (w' : World) : Prop :=
  ∃ H L : Nat, e = .returned (.agg #[.int .u64 (H : Int), .int .u64 (L : Int)]) ∧ p = H * 18446744073709551616 + L ∧ H < 18446744073709551616 ∧ L < 18446744073709551616 ∧ Below w.heap.size w w'

theorem full_math {a b ah al bh bl c1 l1 c2 m2 c3 m3 : Nat} (ha : a < 18446744073709551616) (hb : b < 18446744073709551616) (hea : a = ah * 4294967296 + al) (heb : b = bh * 4294967296 + bl)
    (he1 : al * bl = c1 * 4294967296 + l1) (he2 : ah * bl + c1 = c2 * 4294967296 + m2) (he3 : al * bh + m2 = c3 * 4294967296 + m3) (hl : l1 < 4294967296) (hm : m3 < 4294967296) :
    ah * bh + c2 + c3 = a * b / 18446744073709551616 ∧ m3 * 4294967296 + l1 = a * b % 18446744073709551616 ∧ ah * bh + c2 + c3 < 18446744073709551616 := by
  have e : a * b = (ah * bh + c2 + c3) * 18446744073709551616 + (m3 * 4294967296 + l1) := by
    subst hea heb
    grind
  have hle := Nat.mul_le_mul (show a ≤ 18446744073709551615 by omega) (show b ≤ 18446744073709551615 by omega)
  omega

/-- A number that fits a word, and whether it does. -/
def fw (n : Nat) : Nat := if n < 18446744073709551616 then n else 0
def fb (n : Nat) : Bool := decide (n < 18446744073709551616)
theorem fw_in {n : Nat} (h : n < 18446744073709551616) : fw n = n := by simp [fw, h]
theorem fw_out {n : Nat} (h : 18446744073709551616 ≤ n) : fw n = 0 := by simp [fw]; omega
theorem fb_in {n : Nat} (h : n < 18446744073709551616) : fb n = true := by simp [fb, h]
theorem fb_out {n : Nat} (h : 18446744073709551616 ≤ n) : fb n = false := by simp [fb]; omega

end Go.Proofs.Ytojdgcalpdbifaa
