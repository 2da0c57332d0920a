/-
  Weights laid side by side: the sums up to a place; whose span has a number; package span's Total, behind and Has; the document's Total and Pick.
-/
import Derived.Test.YtojdgcalpdbifaaMemU
import Derived.Test.YtojdgcalpdbifaaNums
import Derived.Test.YtojdgcalpdbifaaSkip
import Derived.Deep.RegionHeld3
namespace Go.Proofs.Ytojdgcalpdbifaa
open Go.RowKit
set_option maxRecDepth 100000

/-- The sum of the first k weights. -/
def up9 (xs : List Nat) : Nat → Nat
  | 0 => 0
  | k + 1 => up9 xs k + nth xs k
theorem up9_zero (xs : List Nat) : up9 xs 0 = 0 := rfl
theorem up9_succ (xs : List Nat) (k : Nat) : up9 xs (k + 1) = up9 xs k + nth xs k := rfl
theorem up9_mono (xs : List Nat) {j k : Nat} (h : j ≤ k) : up9 xs j ≤ up9 xs k := by
  induction k with
  | zero => obtain rfl : j = 0 := by omega
            exact Nat.le_refl _
  | succ k ih =>
    rcases (show j ≤ k ∨ j = k + 1 by omega) with h1 | rfl
    · have := ih h1
      rw [up9_succ]
      omega
    · exact Nat.le_refl _
theorem nth_lt9 {xs : List Nat} (h : ∀ x ∈ xs, x < 18446744073709551616) (k : Nat) : nth xs k < 18446744073709551616 := by
  rcases Nat.lt_or_ge k xs.length with h1 | h1
  · rw [nth_in h1]
    exact h _ (List.getElem_mem h1)
  · rw [nth_out h1]
    omega
theorem up9_le {xs : List Nat} (h : ∀ x ∈ xs, x < 18446744073709551616) (k : Nat) : up9 xs k ≤ k * 18446744073709551616 := by
  induction k with
  | zero => simp [up9]
  | succ k ih =>
    have := nth_lt9 h k
    rw [up9_succ, Nat.succ_mul]
    omega
theorem up9_pow {xs : List Nat} (h : ∀ x ∈ xs, x < 18446744073709551616) {k : Nat} (hk : k ≤ 1000000) : up9 xs k < 65536 ^ 100 := by
  have := up9_le h k
  have h2 : k * 18446744073709551616 ≤ 1000000 * 18446744073709551616 := Nat.mul_le_mul_right _ hk
  exact pow_big (by omega)

/-- The span of the weight at k has the number r. -/
def Pk9 (xs : List Nat) (r k : Nat) : Prop := k < xs.length ∧ up9 xs k ≤ r ∧ r < up9 xs (k + 1)
theorem Pk9.one {xs : List Nat} {r j k : Nat} (h : Pk9 xs r j) (h' : Pk9 xs r k) : j = k := by
  obtain ⟨a1, a2, a3⟩ := h
  obtain ⟨b1, b2, b3⟩ := h'
  rcases (show j < k ∨ k < j ∨ j = k by omega) with h | h | h
  · have := up9_mono xs (show j + 1 ≤ k by omega)
    omega
  · have := up9_mono xs (show k + 1 ≤ j by omega)
    omega
  · exact h
theorem Pk9.below {xs : List Nat} {r k : Nat} (h : Pk9 xs r k) : r < up9 xs xs.length := by
  obtain ⟨a1, a2, a3⟩ := h
  have := up9_mono xs (show k + 1 ≤ xs.length by omega)
  omega
theorem Pk9.upto {xs : List Nat} {r m : Nat} (h : r < up9 xs m) (hm : m ≤ xs.length) : ∃ k, Pk9 xs r k := by
  induction m with
  | zero => rw [up9_zero] at h; omega
  | succ m ih =>
    rcases Nat.lt_or_ge r (up9 xs m) with h1 | h1
    · exact ih h1 (by omega)
    · exact ⟨m, by omega, h1, h⟩
theorem Pk9.any {xs : List Nat} {r : Nat} (h : r < up9 xs xs.length) : ∃ k, Pk9 xs r k := Pk9.upto h (Nat.le_refl _)
/-- Whether the span of the weight at k has r, as it is reckoned. -/
theorem Pk9.has {xs : List Nat} {r i k : Nat} (h : Pk9 xs r i) (hk : k < xs.length) : decide (up9 xs k ≤ r ∧ r - up9 xs k < nth xs k) = decide (k = i) := by
  apply decide_eq_decide.2
  constructor
  · rintro ⟨h1, h2⟩
    exact Pk9.one ⟨hk, h1, by rw [up9_succ]; omega⟩ h
  · rintro rfl
    obtain ⟨_, h1, h2⟩ := h
    rw [up9_succ] at h2
    exact ⟨h1, by omega⟩

end Go.Proofs.Ytojdgcalpdbifaa
