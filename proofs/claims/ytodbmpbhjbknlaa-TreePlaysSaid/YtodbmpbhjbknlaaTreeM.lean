/-
  A tree of sums: what its sums are, level by level; what a weight that is set, or a tree that grows, does to them.
-/
import Derived.Test.YtodbmpbhjbknlaaTreeB
namespace Go.Proofs.Ytodbmpbhjbknlaa
open Go.RowKit
set_option maxRecDepth 100000

/-- The first node of the level j, the leaves' being 0. -/
def lv10 (j : Nat) : Nat := 4096 / 2 ^ j
theorem rt10_lv (n : Nat) : rt10 n = lv10 (hgt10 n) := rfl
theorem lv10_zero : lv10 0 = 4096 := rfl
theorem lv10_mul {j : Nat} (h : j ≤ 12) : lv10 j * 2 ^ j = 4096 := pow12 h
theorem lv10_pos {j : Nat} (h : j ≤ 12) : 1 ≤ lv10 j := by
  rcases Nat.eq_zero_or_pos (lv10 j) with e | e
  · have := lv10_mul h
    rw [e] at this
    omega
  · exact e
theorem lv10_half {j : Nat} (h : j < 12) : lv10 j = 2 * lv10 (j + 1) := by
  have h1 := lv10_mul (show j ≤ 12 by omega)
  have h2 := lv10_mul (show j + 1 ≤ 12 by omega)
  rw [Nat.pow_succ] at h2
  have h3 : lv10 (j + 1) * (2 ^ j * 2) = (2 * lv10 (j + 1)) * 2 ^ j := by
    rw [Nat.mul_comm (2 ^ j) 2, ← Nat.mul_assoc, Nat.mul_comm _ 2]
  rw [h3] at h2
  exact Nat.eq_of_mul_eq_mul_right (Nat.pow_pos (by decide)) (h1.trans h2.symm)
theorem lv10_far {a b : Nat} (h : a < b) (hb : b ≤ 12) : 2 * lv10 b ≤ lv10 a := by
  induction b with
  | zero => omega
  | succ b ih =>
    rcases (show a < b ∨ a = b by omega) with h1 | rfl
    · have := ih h1 (by omega)
      have := lv10_half (show b < 12 by omega)
      omega
    · rw [lv10_half (show a < 12 by omega)]
      exact Nat.le_refl _
theorem lv10_one {a b s t : Nat} (ha : a ≤ 12) (hb : b ≤ 12) (hs : s < lv10 a) (ht : t < lv10 b) (h : lv10 a + s = lv10 b + t) : a = b ∧ s = t := by
  rcases (show a < b ∨ b < a ∨ a = b by omega) with h1 | h1 | rfl
  · have := lv10_far h1 hb
    omega
  · have := lv10_far h1 ha
    omega
  · exact ⟨rfl, by omega⟩
theorem lv10_le (j : Nat) : lv10 j ≤ 4096 := Nat.div_le_self _ _
/-- The place i lies below the node at i / 2^j. -/
theorem lv10_in {i j : Nat} (hi : i < 4096) (hj : j ≤ 12) : i / 2 ^ j < lv10 j := by
  rw [Nat.div_lt_iff_lt_mul (Nat.pow_pos (by decide)), lv10_mul hj]
  exact hi
theorem div_two10 (i j : Nat) : i / 2 ^ j / 2 = i / 2 ^ (j + 1) := by rw [Nat.div_div_eq_div_mul, Nat.pow_succ]
theorem half10 {i j : Nat} (h : j < 12) : (lv10 j + i / 2 ^ j) / 2 = lv10 (j + 1) + i / 2 ^ (j + 1) := by
  have := lv10_half h
  have := div_two10 i j
  omega
theorem mul_two10 (t j : Nat) : t * 2 ^ (j + 1) = 2 * t * 2 ^ j := by rw [Nat.pow_succ, Nat.mul_comm (2 ^ j) 2, ← Nat.mul_assoc, Nat.mul_comm t 2]

/-- The sums of the level j are those of the weights xs. -/
def Lev10 (S : Nat → Nat) (xs : List Nat) (j : Nat) : Prop := ∀ t, t < lv10 j → S (lv10 j + t) + up9 xs (t * 2 ^ j) = up9 xs ((t + 1) * 2 ^ j)
/-- A tree's sums: of n places, whose weights are xs. -/
structure Good10 (S : Nat → Nat) (n : Nat) (xs : List Nat) : Prop where
  one : 1 ≤ n
  many : n ≤ 4096
  len : xs.length = n
  fits : up9 xs n < 18446744073709551616
  sums : ∀ j, j ≤ hgt10 n → Lev10 S xs j
  rest : ∀ k, k < rt10 n → S k = 0

theorem up9_out {xs : List Nat} {m : Nat} (h : xs.length ≤ m) : up9 xs m = up9 xs xs.length := by
  induction m with
  | zero => rw [show xs.length = 0 by omega]
  | succ m ih =>
    rcases (show xs.length ≤ m ∨ xs.length = m + 1 by omega) with h1 | h1
    · rw [up9_succ, ih h1, nth_out h1, Nat.add_zero]
    · rw [h1]
theorem up9_all {xs : List Nat} (m : Nat) : up9 xs m ≤ up9 xs xs.length := by
  rcases Nat.le_total m xs.length with h | h
  · exact up9_mono xs h
  · rw [up9_out h]
    exact Nat.le_refl _
theorem up9_congr {xs ys : List Nat} {m : Nat} (h : ∀ k, k < m → nth xs k = nth ys k) : up9 xs m = up9 ys m := by
  induction m with
  | zero => rfl
  | succ m ih => rw [up9_succ, up9_succ, ih (fun k hk => h k (by omega)), h m (by omega)]
theorem nth_le9 {xs : List Nat} {k : Nat} : nth xs k ≤ up9 xs xs.length := by
  rcases Nat.lt_or_ge k xs.length with h | h
  · have := up9_mono xs (show k + 1 ≤ xs.length by omega)
    rw [up9_succ] at this
    omega
  · rw [nth_out h]
    omega

theorem Good10.leaf {S : Nat → Nat} {n : Nat} {xs : List Nat} (h : Good10 S n xs) {i : Nat} (hi : i < 4096) : S (4096 + i) = nth xs i := by
  have h1 := h.sums 0 (Nat.zero_le _) i hi
  rw [lv10_zero, Nat.pow_zero, Nat.mul_one, Nat.mul_one, up9_succ] at h1
  omega
theorem Good10.root {S : Nat → Nat} {n : Nat} {xs : List Nat} (h : Good10 S n xs) : S (rt10 n) = up9 xs n := by
  have h1 := h.sums (hgt10 n) (Nat.le_refl _) 0 (lv10_pos (hgt10_le h.many))
  rw [← rt10_lv, Nat.zero_mul, up9_zero, Nat.zero_add, Nat.one_mul] at h1
  have h2 := hgt10_up h.one h.many
  have h3 := h.len
  have h4 := up9_out (xs := xs) (m := 2 ^ hgt10 n) (by omega)
  rw [h3] at h4
  have h5 : S (rt10 n) = S (rt10 n + 0) := rfl
  omega
theorem Good10.weight {S : Nat → Nat} {n : Nat} {xs : List Nat} (h : Good10 S n xs) (k : Nat) : nth xs k < 18446744073709551616 := by
  have h1 := nth_le9 (xs := xs) (k := k)
  have h2 := h.len
  have h3 := h.fits
  rw [h2] at h1
  omega
theorem Good10.words {S : Nat → Nat} {n : Nat} {xs : List Nat} (h : Good10 S n xs) : ∀ x ∈ xs, x < 18446744073709551616 := by
  intro x hx
  obtain ⟨k, hk, rfl⟩ := List.getElem_of_mem hx
  have := h.weight k
  rwa [nth_in hk] at this
theorem good10_new {n : Nat} (h1 : 1 ≤ n) (h2 : n ≤ 4096) : Good10 (fun _ => 0) n (List.replicate n 0) := by
  have h : ∀ m, up9 (List.replicate n 0) m = 0 := fun m => by
    induction m with
    | zero => rfl
    | succ m ih =>
      rw [up9_succ, ih]
      simp [nth, List.getD_eq_getElem?_getD, List.getElem?_replicate]
      split <;> rfl
  exact ⟨h1, h2, by simp, by rw [h]; decide, fun j hj t ht => by rw [h, h], fun _ _ => rfl⟩

/-- A list with another weight at a place. -/
def put10 (xs : List Nat) (i v : Nat) : List Nat := xs.set i v
theorem put10_length (xs : List Nat) (i v : Nat) : (put10 xs i v).length = xs.length := by simp [put10]
theorem put10_self {xs : List Nat} {i : Nat} (v : Nat) (h : i < xs.length) : nth (put10 xs i v) i = v := by
  simp [nth, put10, List.getD_eq_getElem?_getD, h]
theorem put10_other (xs : List Nat) {i k : Nat} (v : Nat) (h : k ≠ i) : nth (put10 xs i v) k = nth xs k := by
  simp [nth, put10, List.getD_eq_getElem?_getD, List.getElem?_set_ne (Ne.symm h)]
theorem put10_low (xs : List Nat) {i m : Nat} (v : Nat) (h : m ≤ i) : up9 (put10 xs i v) m = up9 xs m := up9_congr (fun k hk => put10_other xs v (by omega))
theorem put10_up {xs : List Nat} {i m : Nat} (v : Nat) (hi : i < xs.length) (h : i < m) : up9 (put10 xs i v) m + nth xs i = up9 xs m + v := by
  induction m with
  | zero => omega
  | succ m ih =>
    rcases (show i < m ∨ i = m by omega) with h1 | rfl
    · have := ih h1
      rw [up9_succ, up9_succ, put10_other xs v (by omega)]
      omega
    · rw [up9_succ, up9_succ, put10_low xs v (Nat.le_refl _), put10_self v hi]
      omega

/-- On the way up from the place i: the levels up to j are right, and above them all but what lies above the place. -/
def Way10 (S : Nat → Nat) (xs : List Nat) (h i j : Nat) : Prop :=
  ∀ a, a ≤ h → ∀ t, t < lv10 a → a ≤ j ∨ t ≠ i / 2 ^ a → S (lv10 a + t) + up9 xs (t * 2 ^ a) = up9 xs ((t + 1) * 2 ^ a)
theorem way10_leaf {S : Nat → Nat} {xs : List Nat} {h i v : Nat} (hh : h ≤ 12) (hi : i < xs.length) (hi2 : i < 4096) (hs : ∀ j, j ≤ h → Lev10 S xs j) : Way10 (upd10 S (4096 + i) v) (put10 xs i v) h i 0 := by
  intro a ha t ht hor
  by_cases h0 : a = 0 ∧ t = i
  · obtain ⟨rfl, rfl⟩ := h0
    rw [lv10_zero, upd10_self, Nat.pow_zero, Nat.mul_one, Nat.mul_one, up9_succ, put10_self v hi]
    omega
  · have hne : lv10 a + t ≠ 4096 + i := fun e => by
      obtain ⟨e1, e2⟩ := lv10_one (a := a) (b := 0) (by omega) (by omega) ht (by rw [lv10_zero]; exact hi2) (by rw [lv10_zero]; exact e)
      exact h0 ⟨e1, e2⟩
    have hti : t ≠ i / 2 ^ a := by
      rcases hor with h1 | h1
      · intro e
        obtain rfl : a = 0 := by omega
        rw [Nat.pow_zero, Nat.div_one] at e
        exact h0 ⟨rfl, e⟩
      · exact h1
    rw [upd10_other S v hne]
    have h2 := hs a ha t ht
    have h3 := up9_mono xs (show t * 2 ^ a ≤ (t + 1) * 2 ^ a from Nat.mul_le_mul_right _ (by omega))
    rcases (show t < i / 2 ^ a ∨ i / 2 ^ a < t by omega) with h4 | h4
    · have h5 : (t + 1) * 2 ^ a ≤ i := Nat.le_trans (Nat.mul_le_mul_right _ h4) (Nat.div_mul_le_self _ _)
      have h6 : t * 2 ^ a ≤ (t + 1) * 2 ^ a := Nat.mul_le_mul_right _ (by omega)
      rw [put10_low xs v h5, put10_low xs v (by omega)]
      exact h2
    · have h5 : i < t * 2 ^ a := (Nat.div_lt_iff_lt_mul (Nat.pow_pos (by decide))).1 h4
      have h6 : t * 2 ^ a ≤ (t + 1) * 2 ^ a := Nat.mul_le_mul_right _ (by omega)
      have h7 := put10_up (m := t * 2 ^ a) v hi h5
      have h8 := put10_up (m := (t + 1) * 2 ^ a) v hi (by omega)
      omega
/-- The two sums below a node are its own. -/
theorem Lev10.two {S : Nat → Nat} {xs : List Nat} {a t : Nat} (ha : a < 12) (ht : t < lv10 (a + 1)) (h : ∀ u, u < lv10 a → u / 2 = t → S (lv10 a + u) + up9 xs (u * 2 ^ a) = up9 xs ((u + 1) * 2 ^ a)) :
    S (2 * (lv10 (a + 1) + t)) + S (2 * (lv10 (a + 1) + t) + 1) + up9 xs (t * 2 ^ (a + 1)) = up9 xs ((t + 1) * 2 ^ (a + 1)) := by
  have e := lv10_half ha
  have h0 := h (2 * t) (by omega) (by omega)
  have h1 := h (2 * t + 1) (by omega) (by omega)
  rw [mul_two10, mul_two10, show 2 * (t + 1) = 2 * t + 1 + 1 by omega, show 2 * (lv10 (a + 1) + t) = lv10 a + 2 * t by omega, show lv10 a + 2 * t + 1 = lv10 a + (2 * t + 1) by omega]
  omega
theorem Way10.two {S : Nat → Nat} {xs : List Nat} {h i j : Nat} (hh : h ≤ 12) (hj : j < h) (hi : i < 4096) (hw : Way10 S xs h i j) :
    S (2 * (lv10 (j + 1) + i / 2 ^ (j + 1))) + S (2 * (lv10 (j + 1) + i / 2 ^ (j + 1)) + 1) + up9 xs (i / 2 ^ (j + 1) * 2 ^ (j + 1)) = up9 xs ((i / 2 ^ (j + 1) + 1) * 2 ^ (j + 1)) :=
  Lev10.two (by omega) (lv10_in hi (by omega)) (fun u hu _ => hw j (by omega) u hu (.inl (Nat.le_refl _)))
theorem Way10.next {S : Nat → Nat} {xs : List Nat} {h i j : Nat} (hh : h ≤ 12) (hj : j < h) (hi : i < 4096) (hw : Way10 S xs h i j) {k : Nat} (hk : k = lv10 (j + 1) + i / 2 ^ (j + 1)) :
    Way10 (upd10 S k (S (2 * k) + S (2 * k + 1))) xs h i (j + 1) := by
  subst hk
  intro a ha t ht hor
  by_cases h0 : a = j + 1 ∧ t = i / 2 ^ (j + 1)
  · obtain ⟨rfl, rfl⟩ := h0
    rw [upd10_self]
    exact hw.two hh hj hi
  · have hne : lv10 a + t ≠ lv10 (j + 1) + i / 2 ^ (j + 1) := fun e => h0 (lv10_one (by omega) (by omega) ht (lv10_in hi (by omega)) e)
    rw [upd10_other S _ hne]
    refine hw a ha t ht ?_
    rcases hor with h1 | h1
    · rcases (show a ≤ j ∨ a = j + 1 by omega) with h2 | rfl
      · exact .inl h2
      · exact .inr (fun e => h0 ⟨rfl, e⟩)
    · exact .inr h1
theorem Way10.done {S : Nat → Nat} {xs : List Nat} {h i : Nat} (hw : Way10 S xs h i h) : ∀ j, j ≤ h → Lev10 S xs j := fun j hj t ht => hw j hj t ht (.inl hj)
end Go.Proofs.Ytodbmpbhjbknlaa
