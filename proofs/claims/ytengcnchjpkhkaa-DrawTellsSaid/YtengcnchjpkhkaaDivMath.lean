/-
  Long division by halves, one digit of 32 bits a step: the plain mathematics.
-/
import Derived.Lib.BitFns
import Derived.WalkKit
namespace Go.Proofs.Ytengcnchjpkhkaa

theorem bitLen_pow (f : Nat) : ∀ y : Nat, 0 < y → y < 2 ^ f → 2 ^ (Lib.bitLenAux f y) ≤ 2 * y ∧ y < 2 ^ (Lib.bitLenAux f y) ∧ 0 < Lib.bitLenAux f y ∧ Lib.bitLenAux f y ≤ f := by
  induction f with
  | zero => intro y h0 h1; simp at h1; omega
  | succ f ih =>
    intro y h0 h1
    unfold Lib.bitLenAux
    rw [if_neg (by omega)]
    by_cases hy : y = 1
    · subst hy
      have hz : Lib.bitLenAux f (1 / 2) = 0 := by
        cases f with
        | zero => rfl
        | succ f => simp [Lib.bitLenAux]
      rw [hz]
      omega
    · rw [Nat.pow_succ] at h1
      have := ih (y / 2) (by omega) (by omega)
      rw [Nat.add_comm 1, Nat.pow_succ]
      omega

theorem bitLen_bounds (y : Nat) (h0 : 0 < y) (h1 : y < 18446744073709551616) : ∃ s : Nat, s ≤ 63 ∧ (64 - (Lib.bitLen y : Int)) = (s : Int) ∧ 9223372036854775808 ≤ y * 2 ^ s ∧ y * 2 ^ s < 18446744073709551616 := by
  obtain ⟨a, b, c, d⟩ := bitLen_pow 64 y h0 h1
  unfold Lib.bitLen
  generalize Lib.bitLenAux 64 y = k at *
  have e : 2 ^ k * 2 ^ (64 - k) = 18446744073709551616 := by rw [← Nat.pow_add, show k + (64 - k) = 64 by omega]
  refine ⟨64 - k, by omega, by omega, ?_, ?_⟩
  · have := Nat.mul_le_mul_right (2 ^ (64 - k)) a
    rw [e, Nat.mul_assoc] at this
    omega
  · have hp : 0 < 2 ^ (64 - k) := Nat.pow_pos (by omega)
    have := Nat.mul_lt_mul_of_pos_right b hp
    rw [e] at this
    exact this

/-- One step's numbers: the divisor Y in two halves, the rest un below it, the next half u; Q is the digit. -/
structure Step (Y y1 y0 un u Q R : Nat) : Prop where
  hY : Y = y1 * 4294967296 + y0
  y1lo : 2147483648 ≤ y1
  y1hi : y1 < 4294967296
  y0hi : y0 < 4294967296
  hun : un < Y
  hu : u < 4294967296
  heq : un * 4294967296 + u = Q * Y + R
  hR : R < Y

theorem Step.digit {Y y1 y0 un u Q R : Nat} (h : Step Y y1 y0 un u Q R) : Q < 4294967296 := by
  rcases Nat.lt_or_ge Q 4294967296 with h1 | h1
  · exact h1
  · have h2 := Nat.mul_le_mul_right Y h1
    have := h.heq; have := h.hun; have := h.hu
    omega
/-- The guess is not below the digit, and at most one too great beyond a half. -/
theorem Step.start {Y y1 y0 un u Q R : Nat} (h : Step Y y1 y0 un u Q R) : un = (un / y1) * y1 + un % y1 ∧ un % y1 < 4294967296 ∧ un / y1 ≤ 4294967297 ∧ Q ≤ un / y1 := by
  obtain ⟨hY, a, b, c, d, e, f, g⟩ := h
  have hm := Nat.div_add_mod un y1
  have hml := Nat.mod_lt un (show 0 < y1 by omega)
  refine ⟨by rw [Nat.mul_comm]; omega, by omega, ?_, ?_⟩
  · have : un < y1 * 4294967298 := by omega
    have := (Nat.div_lt_iff_lt_mul (show 0 < y1 by omega)).2 (by rw [Nat.mul_comm]; exact this)
    omega
  · rw [Nat.le_div_iff_mul_le (by omega)]
    subst hY
    have e1 : Q * (y1 * 4294967296 + y0) = (Q * y1) * 4294967296 + Q * y0 := by grind
    rw [e1] at f
    generalize Q * y1 = p at *
    generalize Q * y0 = q at *
    omega
theorem Step.test {Y y1 y0 un u Q R q r : Nat} (h : Step Y y1 y0 un u Q R) (hq : un = q * y1 + r) : q * y0 ≤ 4294967296 * r + u ↔ q ≤ Q := by
  obtain ⟨hY, a, b, c, d, e, f, g⟩ := h
  have key : q * Y = (q * y1) * 4294967296 + q * y0 := by subst hY; grind
  constructor
  · intro hle
    rcases Nat.lt_or_ge Q q with h1 | h1
    · exfalso
      have h2 := Nat.mul_le_mul_right Y (show Q + 1 ≤ q by omega)
      rw [Nat.add_mul] at h2
      generalize q * y1 = p at *
      generalize q * y0 = t at *
      omega
    · exact h1
  · intro hle
    have h2 := Nat.mul_le_mul_right Y hle
    generalize q * y1 = p at *
    generalize q * y0 = t at *
    omega
/-- The guess is too great: the next one is not below the digit. -/
theorem Step.down {Y y1 y0 un u Q R q r : Nat} (h : Step Y y1 y0 un u Q R) (hq : un = q * y1 + r) (hbad : 4294967296 ≤ q ∨ 4294967296 * r + u < q * y0) : 0 < q ∧ Q ≤ q - 1 ∧ un = (q - 1) * y1 + (r + y1) := by
  have hd := h.digit
  have ht := h.test hq
  have h1 : Q < q := by
    rcases hbad with h1 | h1
    · omega
    · rcases Nat.lt_or_ge Q q with h2 | h2
      · exact h2
      · have := ht.2 h2; omega
  refine ⟨by omega, by omega, ?_⟩
  obtain ⟨p, rfl⟩ : ∃ p, q = p + 1 := ⟨q - 1, by omega⟩
  rw [hq, Nat.add_mul, Nat.add_sub_cancel]
  omega
/-- The rest has grown past a half: the guess is right. -/
theorem Step.stop {Y y1 y0 un u Q R q r : Nat} (h : Step Y y1 y0 un u Q R) (hq : un = q * y1 + r) (hr : 4294967296 ≤ r) (hq2 : q ≤ 4294967296) (hQ : Q ≤ q) : q = Q := by
  have ht := (h.test hq).1 (by
    have h0 := h.y0hi
    have := Nat.mul_le_mul hq2 (show y0 ≤ 4294967295 by omega)
    omega)
  omega

theorem rest_mod (a u p R : Nat) (hu : u < 4294967296) (h : a * 4294967296 + u = p + R) (hR : R < 18446744073709551616) :
    IntKind.u64.wrap (IntKind.u64.wrap (IntKind.u64.wrap ((a : Int) * 4294967296) + (u : Int)) - IntKind.u64.wrap (p : Int)) = (R : Int) := by
  simp only [IntKind.wrap_u64]
  omega

/-- All of it: from the two steps' digits to the quotient and the rest. -/
theorem whole {hi lo y s Y un10 un32 u1 u0 Q1 Q0 R1 R0 : Nat} (hs : s ≤ 63) (hy : 0 < y) (hY : Y = y * 2 ^ s) (hlo : lo < 18446744073709551616)
    (h32 : un32 = hi * 2 ^ s + lo / 2 ^ (64 - s)) (h10 : un10 = lo * 2 ^ s % 18446744073709551616) (hu : un10 = u1 * 4294967296 + u0)
    (e1 : un32 * 4294967296 + u1 = Q1 * Y + R1) (e0 : R1 * 4294967296 + u0 = Q0 * Y + R0) (hR : R0 < Y) :
    hi * 18446744073709551616 + lo = (Q1 * 4294967296 + Q0) * y + R0 / 2 ^ s ∧ R0 / 2 ^ s < y := by
  have hP : 0 < 2 ^ s := Nat.pow_pos (by omega)
  have ep : 2 ^ s * 2 ^ (64 - s) = 18446744073709551616 := by rw [← Nat.pow_add, show s + (64 - s) = 64 by omega]
  have hlow : lo * 2 ^ s = (lo / 2 ^ (64 - s)) * 18446744073709551616 + un10 := by
    have h1 : lo * 2 ^ s / 18446744073709551616 = lo / 2 ^ (64 - s) := by
      rw [← ep, Nat.mul_comm lo, Nat.mul_div_mul_left _ _ hP]
    have := Nat.div_add_mod (lo * 2 ^ s) 18446744073709551616
    rw [h1] at this
    omega
  generalize 2 ^ (64 - s) = T at *
  generalize 2 ^ s = P at *
  have tot : (hi * 18446744073709551616 + lo) * P = ((Q1 * 4294967296 + Q0) * y) * P + R0 := by
    subst hY
    generalize lo / T = t at *
    grind
  have hdvd : R0 = (R0 / P) * P := by
    have h1 : R0 % P = 0 := by
      have h2 : ((hi * 18446744073709551616 + lo) * P) % P = 0 := Nat.mul_mod_left _ _
      rw [tot, Nat.mul_add_mod_self_right] at h2
      exact h2
    have := Nat.div_add_mod R0 P
    rw [h1] at this
    rw [Nat.mul_comm]; omega
  refine ⟨?_, ?_⟩
  · apply Nat.eq_of_mul_eq_mul_right hP
    rw [tot, Nat.add_mul (_ * y), ← hdvd]
  · rw [Nat.div_lt_iff_lt_mul hP, ← hY]
    exact hR

end Go.Proofs.Ytengcnchjpkhkaa
