/-
  The statements' own helpers: small, big, alive.
-/
import Derived.Test.YtengcnchjpkhkaaPackB
import Derived.Test.YtengcnchjpkhkaaBack
import Derived.Test.YtengcnchjpkhkaaNums
namespace Go.Proofs.Ytengcnchjpkhkaa
open Go.RowKit

theorem Num.wide_small {w : World} {L : Nat} {v : Value} {a : Nat} (h : Num w L v a) :
    (a < 340282366920938463463374607431768211456 → ∃ A xs n c, v = .agg #[.slice A n c] ∧ xs.length = n ∧ Rd w w.heap.size A xs ∧ Dig xs ∧ n ≤ 8 ∧ n ≤ c ∧ V (xs.drop 4) = a / 18446744073709551616 ∧ V (xs.take 4) = a % 18446744073709551616) ∧
    (340282366920938463463374607431768211456 ≤ a → ∃ A n c, v = .agg #[.slice A n c] ∧ 8 < n) := by
  obtain ⟨A, xs, n, c, h1, hl, h2, h3, h4, h5, h6⟩ := h
  refine ⟨fun ha => ⟨A, xs, n, c, h1, hl, h3, h5.1, by have := h5.len (k := 8) (by omega); omega, h2, ?_⟩, fun ha => ⟨A, n, c, h1, ?_⟩⟩
  · have e : V xs = V (xs.take 4) + 18446744073709551616 * V (xs.drop 4) := by
      rcases Nat.lt_or_ge xs.length 4 with h7 | h7
      · rw [List.take_of_length_le (by omega), List.drop_eq_nil_of_le (by omega)]; simp [V]
      · have := V_append (xs.take 4) (xs.drop 4)
        rw [List.take_append_drop, show (xs.take 4).length = 4 by simp; omega] at this
        exact this
    have hlow : V (xs.take 4) < 18446744073709551616 := by
      have h7 := V_lt (h5.1.take 4)
      have h8 : 65536 ^ (xs.take 4).length ≤ 65536 ^ 4 := Nat.pow_le_pow_right (by omega) (by simp; omega)
      omega
    omega
  · rcases Nat.lt_or_ge 8 n with h7 | h7
    · exact h7
    · have h8 := V_lt h5.1
      have h9 : 65536 ^ xs.length ≤ 65536 ^ 8 := Nat.pow_le_pow_right (by omega) (by omega)
      omega

theorem below1 (w : World) (a : Obj) : Below w.heap.size w (w.alloc a) := (Below.refl _ _).alloc (Nat.le_refl _) _

theorem wide_fields : Try.prog.underlying 26 = some (.struct (Try.prog.fieldsOf 26)) := by kernel_rfl
theorem wide_held : Try.prog.stoodInHeld 26 = false := by kernel_rfl
theorem wide_guard : Try.prog.eqGuardType Try.prog.depth 26 = false := by kernel_rfl
theorem wide_eq (a b c d : Int) (w : World) : (binOp .eql 26 (.agg #[.int .u64 a, .int .u64 b]) (.agg #[.int .u64 c, .int .u64 d])).run Try.prog w = .ok (.bool (a == c && b == d)) w := by
  have e : (Try.prog.fieldsOf 26).toList.map (fun f => (f.name == "_", f.offset, f.type)) = [(false, 0, 22), (false, 1, 22)] := by kernel_rfl
  have hu : Try.prog.underlying 22 = some (.int .u64) := Try.underlying22
  have hag := Try.isAgg22
  rw [run_eql_struct, run_equalIn_struct w 9999 _ _ _ wide_fields wide_held]
  generalize (Try.prog.fieldsOf 26).toList = l at e
  rcases l with _ | ⟨f, _ | ⟨g, _ | ⟨_, _⟩⟩⟩
  · simp at e
  · simp at e
  · simp only [List.map_cons, List.map_nil, List.cons.injEq, Prod.mk.injEq, and_true] at e
    obtain ⟨⟨hf0, hf1, hf2⟩, hg0, hg1, hg2⟩ := e
    have hf0' : f.name ≠ "_" := by simpa using hf0
    have hg0' : g.name ≠ "_" := by simpa using hg0
    simp only [Op.eqFields, if_pos hf0', if_pos hg0', hf1, hf2, hg1, hg2]
    by_cases h1 : (a == c) = true
    · by_cases h2 : (b == d) = true <;> simp [go_sem, part, hag, run_equalIn_int w _ _ _ .u64 _ _ hu, h1, h2]
    · simp [go_sem, part, hag, run_equalIn_int w _ _ _ .u64 _ _ hu, h1]
  · simp at e

end Go.Proofs.Ytengcnchjpkhkaa
