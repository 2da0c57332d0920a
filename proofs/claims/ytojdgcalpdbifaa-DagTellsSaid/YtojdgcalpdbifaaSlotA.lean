/-
  Places in rows of bits: a row's places, from the lowest one on; those of all rows; the lowest one that is free.
-/
import Derived.Test.YtojdgcalpdbifaaMemU
import Derived.Lib.TrailingZeros
namespace Go.Proofs.Ytojdgcalpdbifaa
open Go.RowKit

/-- The lowest bit: it is set, and none below it. -/
theorem ctz11 {x : Nat} (h0 : x ≠ 0) (h : x < 2 ^ 64) : Lib.ctz 64 x < 64 ∧ x.testBit (Lib.ctz 64 x) = true ∧ (∀ k, k < Lib.ctz 64 x → x.testBit k = false) ∧
    ∀ k, (x &&& (x - 1)).testBit k = (x.testBit k && decide (k ≠ Lib.ctz 64 x)) := by
  obtain ⟨m, hm, hk⟩ := Lib.ctzFrom_spec 64 x (by omega) h
  have e : Lib.ctz 64 x = Lib.ctzFrom 64 x := by simp [Lib.ctz, h0]
  rw [e]
  obtain ⟨c, hc⟩ : ∃ c, Lib.ctzFrom 64 x = c := ⟨_, rfl⟩
  rw [hc] at hm hk ⊢
  have hp : 0 < 2 ^ c := Nat.pow_pos (by decide)
  have hx : ∀ k, x.testBit k = (decide (c ≤ k) && (2 * m + 1).testBit (k - c)) := fun k => by
    rw [hm, Nat.mul_comm, Nat.testBit_mul_two_pow]
  have hy : x - 1 = 2 ^ c * (2 * m) + (2 ^ c - 1) := by
    rw [hm, Nat.mul_add]
    omega
  have hy2 : ∀ k, (x - 1).testBit k = if k < c then (2 ^ c - 1).testBit k else (2 * m).testBit (k - c) := fun k => by
    rw [hy, Nat.testBit_two_pow_mul_add _ (by omega)]
  refine ⟨hk, ?_, fun k hkc => ?_, fun k => ?_⟩
  · rw [hx, Nat.sub_self]
    simp
  · rw [hx]
    simp
    omega
  · rw [Nat.testBit_and, hy2, hx]
    rcases Nat.lt_trichotomy k c with h1 | h1 | h1
    · have e1 : ¬ c ≤ k := by omega
      simp [e1]
    · subst h1
      simp
    · have h2 : ¬ k < c := by omega
      obtain ⟨j, rfl⟩ : ∃ j, k = c + (j + 1) := ⟨k - c - 1, by omega⟩
      have e3 : c + (j + 1) - c = j + 1 := by omega
      have e4 : c + (j + 1) ≠ c := by omega
      simp only [h2, if_false, e3, Nat.testBit_succ, e4, ne_eq, not_false_eq_true, decide_true, Bool.and_true]
      have d1 : (2 * m + 1) / 2 = m := by omega
      have d2 : 2 * m / 2 = m := by omega
      rw [d1, d2]
      cases m.testBit j <;> simp

theorem filter_first (p : Nat → Bool) (c : Nat) (hc : p c = true) (hl : ∀ k, k < c → p k = false) : ∀ n, c < n → (List.range n).filter p = c :: (List.range n).filter (fun k => p k && decide (k ≠ c))
  | 0, h => by omega
  | n + 1, h => by
    rw [List.range_succ, List.filter_append, List.filter_append]
    rcases Nat.lt_or_ge c n with h1 | h1
    · rw [filter_first p c hc hl n h1]
      have e : n ≠ c := by omega
      simp [List.filter_cons, e]
    · obtain rfl : c = n := by omega
      have e1 : (List.range c).filter p = [] := List.filter_eq_nil_iff.2 (fun k hk => by rw [hl k (List.mem_range.1 hk)]; simp)
      have e2 : (List.range c).filter (fun k => p k && decide (k ≠ c)) = [] := List.filter_eq_nil_iff.2 (fun k hk => by rw [hl k (List.mem_range.1 hk)]; simp)
      rw [e1, e2]
      simp [hc]

/-- A row's places, from the lowest one on. -/
def low11 (x : Nat) : List Nat := (List.range 64).filter fun k => x.testBit k
theorem low11_zero : low11 0 = [] := by
  unfold low11
  exact List.filter_eq_nil_iff.2 (fun k _ => by simp)
theorem low11_step {x : Nat} (h0 : x ≠ 0) (h : x < 2 ^ 64) : low11 x = Lib.ctz 64 x :: low11 (x &&& (x - 1)) := by
  obtain ⟨h1, h2, h3, h4⟩ := ctz11 h0 h
  unfold low11
  rw [filter_first _ _ h2 h3 64 h1]
  congr 1
  exact List.filter_congr (fun k _ => (h4 k).symm)
/-- The places of the rows from r on. -/
def rows11 (S : Nat → Nat) (r : Nat) : List Nat := (List.range' r (64 - r)).flatMap fun i => (low11 (S i)).map fun k => i * 64 + k
theorem rows11_end (S : Nat → Nat) : rows11 S 64 = [] := rfl
theorem rows11_step (S : Nat → Nat) {r : Nat} (h : r < 64) : rows11 S r = ((low11 (S r)).map fun k => r * 64 + k) ++ rows11 S (r + 1) := by
  unfold rows11
  obtain ⟨d, hd⟩ : ∃ d, 64 - r = d + 1 := ⟨63 - r, by omega⟩
  rw [hd, show 64 - (r + 1) = d by omega, List.range'_succ, List.flatMap_cons]

/-- Those of n places that are taken. -/
def all11 (T : Nat → Bool) (n : Nat) : List Nat := (List.range n).filter T
/-- The rows hold the places T, of n. -/
structure Good11 (S : Nat → Nat) (n : Nat) (T : Nat → Bool) : Prop where
  low : 1 ≤ n
  many : n ≤ 4096
  fits : ∀ r, S r < 2 ^ 64
  bit : ∀ r k, r < 64 → k < 64 → (S r).testBit k = T (r * 64 + k)
  most : ∀ i, T i = true → i < n
theorem rows11_from (S : Nat → Nat) (T : Nat → Bool) (hb : ∀ r k, r < 64 → k < 64 → (S r).testBit k = T (r * 64 + k)) : ∀ R, R ≤ 64 → (List.range R).flatMap (fun i => (low11 (S i)).map fun k => i * 64 + k) = (List.range (R * 64)).filter T
  | 0, _ => rfl
  | R + 1, h => by
    rw [List.range_succ, List.flatMap_append, rows11_from S T hb R (by omega), show (R + 1) * 64 = R * 64 + 64 by omega, List.range_add, List.filter_append, List.filter_map]
    congr 1
    simp only [List.flatMap_cons, List.flatMap_nil, List.append_nil]
    congr 1
    unfold low11
    exact List.filter_congr (fun k hk => hb R k (by omega) (List.mem_range.1 hk))
theorem all11_more {T : Nat → Bool} {n m : Nat} (h : n ≤ m) (ht : ∀ i, T i = true → i < n) : all11 T m = all11 T n := by
  obtain ⟨d, rfl⟩ : ∃ d, m = n + d := ⟨m - n, by omega⟩
  unfold all11
  rw [List.range_add, List.filter_append, List.filter_map]
  have : (List.range d).filter (T ∘ fun x => n + x) = [] := List.filter_eq_nil_iff.2 (fun k _ => by
    intro hk
    have h2 : n + k < n := ht _ hk
    omega)
  rw [this]
  simp
theorem Good11.all {S : Nat → Nat} {n : Nat} {T : Nat → Bool} (h : Good11 S n T) : rows11 S 0 = all11 T n := by
  have h1 := rows11_from S T h.bit 64 (Nat.le_refl _)
  have h2 : rows11 S 0 = (List.range 64).flatMap (fun i => (low11 (S i)).map fun k => i * 64 + k) := by
    unfold rows11
    rw [List.range_eq_range']
  rw [h2, h1]
  obtain ⟨m, hm⟩ : ∃ m, 64 * 64 = m := ⟨_, rfl⟩
  rw [hm]
  exact all11_more (by have := h.many; omega) h.most
theorem all11_len (T : Nat → Bool) (n : Nat) : (all11 T n).length ≤ n := Nat.le_trans (List.length_filter_le _ _) (by simp)

/-- Place k is the lowest one that is free. -/
structure Free11 (T : Nat → Bool) (n k : Nat) : Prop where
  lt : k < n
  is : T k = false
  low : ∀ j, j < k → T j = true
theorem free11_or (T : Nat → Bool) : ∀ n, (∃ k, Free11 T n k) ∨ ∀ j, j < n → T j = true
  | 0 => .inr (fun j hj => by omega)
  | n + 1 => by
    rcases free11_or T n with ⟨k, h1, h2, h3⟩ | h
    · exact .inl ⟨k, by omega, h2, h3⟩
    · cases e : T n with
      | false => exact .inl ⟨n, by omega, e, h⟩
      | true =>
        refine .inr (fun j hj => ?_)
        rcases Nat.lt_or_ge j n with h1 | h1
        · exact h j h1
        · obtain rfl : j = n := by omega
          exact e
/-- What a row lacks. -/
def lack11 (x : Nat) : Nat := 18446744073709551615 - x
theorem lack11_lt (x : Nat) : lack11 x < 2 ^ 64 := by unfold lack11; omega
theorem lack11_bit {x : Nat} (h : x < 2 ^ 64) {k : Nat} (hk : k < 64) : (lack11 x).testBit k = !x.testBit k := by
  have e : lack11 x = 2 ^ 64 - (x + 1) := by unfold lack11; omega
  rw [e, Nat.testBit_two_pow_sub_succ h]
  simp [hk]
theorem lack11_none {x : Nat} (h : x < 2 ^ 64) : lack11 x = 0 ↔ x = 18446744073709551615 := by unfold lack11; omega
/-- A row that lacks some: the lowest one that it lacks. -/
theorem lack11_low {x : Nat} (h : x < 2 ^ 64) (hx : x ≠ 18446744073709551615) : Lib.ctz 64 (lack11 x) < 64 ∧ x.testBit (Lib.ctz 64 (lack11 x)) = false ∧ ∀ k, k < Lib.ctz 64 (lack11 x) → x.testBit k = true := by
  obtain ⟨h1, h2, h3, _⟩ := ctz11 (fun e => hx ((lack11_none h).1 e)) (lack11_lt x)
  refine ⟨h1, ?_, fun k hk => ?_⟩
  · rw [lack11_bit h h1] at h2
    simpa using h2
  · have := h3 k hk
    rw [lack11_bit h (by omega)] at this
    simpa using this
theorem full11 {x : Nat} (h : x < 2 ^ 64) (hb : ∀ k, k < 64 → x.testBit k = true) : x = 18446744073709551615 := by
  rcases Nat.decEq x 18446744073709551615 with e | e
  · obtain ⟨h1, h2, _⟩ := lack11_low h e
    rw [hb _ h1] at h2
    cases h2
  · exact e
section
variable {S : Nat → Nat} {n : Nat} {T : Nat → Bool}
/-- The row of the lowest place that is free: it lacks just that one, first. -/
theorem Good11.free_row (h : Good11 S n T) {k : Nat} (hf : Free11 T n k) : S (k / 64) ≠ 18446744073709551615 ∧ k / 64 < 64 ∧ k / 64 * 64 + Lib.ctz 64 (lack11 (S (k / 64))) = k := by
  have hlt := hf.lt
  have hm := h.many
  have hr : k / 64 < 64 := by omega
  have hk : k / 64 * 64 + k % 64 = k := by omega
  have hbit := h.bit (k / 64) (k % 64) hr (by omega)
  rw [hk, hf.is] at hbit
  have hne : S (k / 64) ≠ 18446744073709551615 := fun e => by
    have := lack11_bit (h.fits (k / 64)) (k := k % 64) (by omega)
    rw [(lack11_none (h.fits _)).2 e, hbit] at this
    simp at this
  obtain ⟨h1, h2, h3⟩ := lack11_low (h.fits (k / 64)) hne
  refine ⟨hne, hr, ?_⟩
  obtain ⟨c, hc⟩ : ∃ c, Lib.ctz 64 (lack11 (S (k / 64))) = c := ⟨_, rfl⟩
  rw [hc] at h1 h2 h3 ⊢
  rcases Nat.lt_trichotomy c (k % 64) with h4 | h4 | h4
  · have := hf.low (k / 64 * 64 + c) (by omega)
    rw [← h.bit _ _ hr h1, h2] at this
    cases this
  · omega
  · rw [h3 _ h4] at hbit
    cases hbit
/-- The rows before it are full. -/
theorem Good11.free_before (h : Good11 S n T) {k : Nat} (hf : Free11 T n k) {r : Nat} (hr : r < k / 64) : S r = 18446744073709551615 :=
  full11 (h.fits r) (fun j hj => by
    have := hf.lt
    have := h.many
    rw [h.bit r j (by omega) hj]
    exact hf.low _ (by omega))
/-- Where all are taken, what a row lacks is no place. -/
theorem Good11.full_row (h : Good11 S n T) (hf : ∀ j, j < n → T j = true) {r : Nat} (hr : r < 64) (hne : S r ≠ 18446744073709551615) : n ≤ r * 64 + Lib.ctz 64 (lack11 (S r)) := by
  obtain ⟨h1, h2, _⟩ := lack11_low (h.fits r) hne
  rcases Nat.lt_or_ge (r * 64 + Lib.ctz 64 (lack11 (S r))) n with h3 | h3
  · have := hf _ h3
    rw [← h.bit r _ hr h1, h2] at this
    cases this
  · exact h3
end
/-- One place is another way. -/
def turn11 (T : Nat → Bool) (i : Nat) (b : Bool) : Nat → Bool := fun j => if j = i then b else T j
def updS (S : Nat → Nat) (k v : Nat) : Nat → Nat := fun i => if i = k then v else S i
theorem Good11.flip {S : Nat → Nat} {n : Nat} {T : Nat → Bool} (h : Good11 S n T) {i : Nat} (hi : i < n) : Good11 (updS S (i / 64) (S (i / 64) ^^^ 2 ^ (i % 64))) n (turn11 T i (!T i)) := by
  have hm := h.many
  have h2 : 2 ^ (i % 64) < 2 ^ 64 := Nat.pow_lt_pow_right (by decide) (by omega)
  refine ⟨h.low, hm, fun r => ?_, fun r k hr hk => ?_, fun j hj => ?_⟩
  · unfold updS
    split
    · exact Nat.xor_lt_two_pow (h.fits _) h2
    · exact h.fits r
  · unfold updS turn11
    by_cases e : r = i / 64
    · subst e
      simp only [if_true]
      rw [Nat.testBit_xor, Nat.testBit_two_pow, h.bit _ _ hr hk]
      by_cases e2 : k = i % 64
      · have e3 : i / 64 * 64 + k = i := by omega
        rw [if_pos e3, e3, e2]
        simp
      · have e3 : i / 64 * 64 + k ≠ i := by omega
        rw [if_neg e3]
        have : ¬ i % 64 = k := fun e => e2 e.symm
        simp [this]
    · have e3 : r * 64 + k ≠ i := by omega
      rw [if_neg e, if_neg e3]
      exact h.bit r k hr hk
  · unfold turn11 at hj
    split at hj
    · omega
    · exact h.most j hj
theorem nth_all {L : List Nat} {k x : Nat} {r : List Nat} (h : L.drop k = x :: r) : k < L.length ∧ nth L k = x ∧ L.drop (k + 1) = r := by
  have hk : k < L.length := by
    rcases Nat.lt_or_ge k L.length with h1 | h1
    · exact h1
    · rw [List.drop_eq_nil_of_le h1] at h; cases h
  rw [List.drop_eq_getElem_cons hk] at h
  injection h with h1 h2
  exact ⟨hk, by rw [nth_in hk]; exact h1, h2⟩
end Go.Proofs.Ytojdgcalpdbifaa
