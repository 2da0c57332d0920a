/-
  The document's numbers: contracts of the calls, by the number alone.
-/
import Derived.Test.YtojdgcalpdbifaaPackA
import Derived.Test.YtojdgcalpdbifaaMF
import Derived.Test.YtojdgcalpdbifaaMO
namespace Go.Proofs.Ytojdgcalpdbifaa
open Go.RowKit

theorem Num.word_small {w : World} {L : Nat} {v : Value} {a : Nat} (h : Num w L v a) : (a < 18446744073709551616 → ∃ A xs n c, v = .agg #[.slice A n c] ∧ xs.length = n ∧ Rd w w.heap.size A xs ∧ Dig xs ∧ n ≤ 4 ∧ V xs = a) ∧
    (18446744073709551616 ≤ a → ∃ A n c, v = .agg #[.slice A n c] ∧ 4 < n) := by
  obtain ⟨A, xs, n, c, h1, hl, h2, h3, h4, h5, h6⟩ := h
  refine ⟨fun ha => ⟨A, xs, n, c, h1, hl, h3, h5.1, by have := h5.len (k := 4) (by omega); omega, h6⟩, fun ha => ⟨A, n, c, h1, ?_⟩⟩
  rcases Nat.lt_or_ge 4 n with h7 | h7
  · exact h7
  · have h8 := V_lt h5.1
    have h9 : 65536 ^ xs.length ≤ 65536 ^ 4 := Nat.pow_le_pow_right (by omega) (by omega)
    omega
theorem pow_big {a : Nat} (h : a < 340282366920938463463374607431768211456) : a < 65536 ^ 100 := Nat.lt_of_lt_of_le h (by
  have : (65536 : Nat) ^ 8 ≤ 65536 ^ 100 := Nat.pow_le_pow_right (by omega) (by omega)
  omega)
theorem pow_word {a : Nat} (h : a < 18446744073709551616) : a < 65536 ^ 100 := pow_big (by omega)

theorem wide_big {H L : Nat} (h1 : H < 18446744073709551616) (h2 : L < 18446744073709551616) : H * 18446744073709551616 + L < 340282366920938463463374607431768211456 := by omega
theorem held_one {wr W W' : World} {p : Addr} {u : Value} (hb : Below W.heap.size W W') (h : W.cell? p = some u ∧ Below wr.heap.size wr W) : W'.cell? p = some u ∧ Below wr.heap.size wr W' :=
  ⟨(hb.cell (World.block_lt_of_cell? W _ h.1)).trans h.1, h.2.trans (hb.mono h.2.size)⟩
theorem held_none {wr W W' : World} (hb : Below W.heap.size W W') (h : Below wr.heap.size wr W) : Below wr.heap.size wr W' := h.trans (hb.mono h.size)
end Go.Proofs.Ytojdgcalpdbifaa
