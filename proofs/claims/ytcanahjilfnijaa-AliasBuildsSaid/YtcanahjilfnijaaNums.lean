/-
  The document's numbers: contracts of the calls, by the number alone.
-/
import Derived.Test.YtcanahjilfnijaaPackA
import Derived.Test.YtcanahjilfnijaaMF
import Derived.Test.YtcanahjilfnijaaMO
namespace Go.Proofs.Ytcanahjilfnijaa
open Go.RowKit

theorem Num.word_small {w : World} {L : Nat} {v : Value} {a : Nat} (h : Num w L v a) : (a < 18446744073709551616 → ∃ A xs n c, v = .agg #[.slice A n c] ∧ xs.length = n ∧ Rd w w.heap.size A xs ∧ Dig xs ∧ n ≤ 4 ∧ V xs = a) ∧
    (18446744073709551616 ≤ a → ∃ A n c, v = .agg #[.slice A n c] ∧ 4 < n) := by
  obtain ⟨A, xs, n, c, h1, hl, h2, h3, h4, h5, h6⟩ := h
  refine ⟨fun ha => ⟨A, xs, n, c, h1, hl, h3, h5.1, by have := h5.len (k := 4) (by omega); omega, h6⟩, fun ha => ⟨A, n, c, h1, ?_⟩⟩
  rcases Nat.lt_or_ge 4 n with h7 | h7
  · exact h7
  · have h8 := V_lt h5.1
    have h9 : 65536 ^ xs.length ≤ 65536 ^ 4 := Nat.pow_le_pow_right (by omega) (by omega)
    omega
theorem pow_big {a : Nat} (h : a < 340282366920938463463374607431768211456) : a < 65536 ^ 100 := Nat.lt_of_lt_of_le h (by
  have : (65536 : Nat) ^ 8 ≤ 65536 ^ 100 := Nat.pow_le_pow_right (by omega) (by omega)
  omega)
theorem pow_word {a : Nat} (h : a < 18446744073709551616) : a < 65536 ^ 100 := pow_big (by omega)

theorem add_num {j k : Nat} (v1 v2 : Value) (a b L1 L2 : Nat) (w : World) (h1 : Num w L1 v1 a) (h2 : Num w L2 v2 b) (ha : a < 65536 ^ j) (hb : b < 65536 ^ k) (hj : j ≤ 5000 := by omega) (hk : k ≤ 5000 := by omega) :
    Calls Try.prog 24 #[v1, v2] w (RetNum w (a + b)) := by
  obtain ⟨A1, xs, n1, c1, rfl, hl1, _, hr1, hc1, e1, hn1⟩ := h1.form ha
  obtain ⟨A2, ys, n2, c2, rfl, hl2, _, hr2, hc2, e2, hn2⟩ := h2.form hb
  have := add_any A1 A2 xs ys n1 c1 n2 c2 5000 w hl1.out hl2.out hr1 hr2 hc1.1 hc2.1 (by omega) (by omega) (by omega)
  rw [e1.out, e2.out] at this
  exact this
theorem mul_num {j k : Nat} (v1 v2 : Value) (a b L1 L2 : Nat) (w : World) (h1 : Num w L1 v1 a) (h2 : Num w L2 v2 b) (ha : a < 65536 ^ j) (hb : b < 65536 ^ k) (hj : j ≤ 5000 := by omega) (hk : k ≤ 5000 := by omega) :
    Calls Try.prog 9 #[v1, v2] w (RetNum w (a * b)) := by
  obtain ⟨A1, xs, n1, c1, rfl, hl1, _, hr1, hc1, e1, hn1⟩ := h1.form ha
  obtain ⟨A2, ys, n2, c2, rfl, hl2, _, hr2, hc2, e2, hn2⟩ := h2.form hb
  have := mul_any A1 A2 xs ys n1 c1 n2 c2 w hl1.out hl2.out hr1 hr2 hc1.1 hc2.1 (by omega) (by omega)
  rw [e1.out, e2.out] at this
  exact this
theorem wide_big {H L : Nat} (h1 : H < 18446744073709551616) (h2 : L < 18446744073709551616) : H * 18446744073709551616 + L < 340282366920938463463374607431768211456 := by omega
theorem cmp_num {j k : Nat} (v1 v2 : Value) (a b L1 L2 : Nat) (w : World) (h1 : Num w L1 v1 a) (h2 : Num w L2 v2 b) (ha : a < 65536 ^ j) (hb : b < 65536 ^ k) (hj : j ≤ 5000 := by omega) (hk : k ≤ 5000 := by omega) :
    Calls Try.prog 14 #[v1, v2] w fun e w' => e = .returned (.int .i64 (cmpI a b)) ∧ Below w.heap.size w w' := by
  obtain ⟨A1, xs, n1, c1, rfl, hl1, _, hr1, hc1, e1, hn1⟩ := h1.form ha
  obtain ⟨A2, ys, n2, c2, rfl, hl2, _, hr2, hc2, e2, hn2⟩ := h2.form hb
  have := cmp_loop A1 A2 xs ys n1 c1 n2 c2 5000 w hl1.out hl2.out hr1 hr2 hc1.1 hc2.1 (by omega) (by omega) (by omega)
  rw [e1.out, e2.out] at this
  exact this
theorem cmp_same {j : Nat} (v1 v2 : Value) (a b L1 L2 : Nat) (w : World) (h1 : Num w L1 v1 a) (h2 : Num w L2 v2 b) (hb : b < 65536 ^ j) (he : a = b) (hj : j ≤ 5000 := by omega) :
    Calls Try.prog 14 #[v1, v2] w fun e w' => e = .returned (.int .i64 0) ∧ Below w.heap.size w w' := by
  subst he
  have := cmp_num v1 v2 a a L1 L2 w h1 h2 hb hb
  rw [cmpI_eq rfl] at this
  exact this

theorem word_num (v : Value) (a L : Nat) (w : World) (h : Num w L v a) :
    Calls Try.prog 8 #[v] w fun e w' => e = .returned (.tuple #[.int .u64 ((fw a : Nat) : Int), .bool (fb a)]) ∧ Below w.heap.size w w' := by
  rcases Nat.lt_or_ge a 18446744073709551616 with ha | ha
  · obtain ⟨A, xs, n, c, rfl, hl, hr, hd, hn, hv⟩ := h.word_small.1 ha
    have := word_any A xs n c w hl hr hd hn
    rw [hv] at this
    rw [fw_in ha, fb_in ha]
    exact this
  · obtain ⟨A, n, c, rfl, hn⟩ := h.word_small.2 ha
    rw [fw_out ha, fb_out ha]
    exact word_no A n c w hn

theorem held_one {wr W W' : World} {p : Addr} {u : Value} (hb : Below W.heap.size W W') (h : W.cell? p = some u ∧ Below wr.heap.size wr W) : W'.cell? p = some u ∧ Below wr.heap.size wr W' :=
  ⟨(hb.cell (World.block_lt_of_cell? W _ h.1)).trans h.1, h.2.trans (hb.mono h.2.size)⟩
theorem held_none {wr W W' : World} (hb : Below W.heap.size W W') (h : Below wr.heap.size wr W) : Below wr.heap.size wr W' := h.trans (hb.mono h.size)
end Go.Proofs.Ytcanahjilfnijaa
