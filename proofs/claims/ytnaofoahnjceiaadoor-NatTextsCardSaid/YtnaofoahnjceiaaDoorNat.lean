/-
  Numbers in digits of 32 bits, the lowest first: the plain mathematics (no program).
-/
import Derived.Test.YtnaofoahnjceiaaDoorNum
namespace Go.Proofs.YtnaofoahnjceiaaDoor

/-- The number of a list of digits. -/
def U : List Nat → Nat
  | [] => 0
  | d :: r => d + 4294967296 * U r
/-- Digits all below 2^32. -/
def Dg (xs : List Nat) : Prop := ∀ d ∈ xs, d < 4294967296
/-- Without noughts at the end. -/
def Cn (xs : List Nat) : Prop := Dg xs ∧ (xs ≠ [] → nth xs (xs.length - 1) ≠ 0)

theorem Dg.nil : Dg [] := by intro d h; simp at h
theorem Dg.nth {xs : List Nat} (h : Dg xs) (i : Nat) : nth xs i < 4294967296 := by
  by_cases hi : i < xs.length
  · rw [nth_in hi]; exact h _ (List.getElem_mem hi)
  · rw [nth_out (by omega)]; omega
theorem Dg.snoc {xs : List Nat} (h : Dg xs) {d : Nat} (hd : d < 4294967296) : Dg (xs ++ [d]) := by
  intro x hx
  rcases List.mem_append.1 hx with hx | hx
  · exact h x hx
  · simp at hx; omega
theorem Dg.take {xs : List Nat} (h : Dg xs) (k : Nat) : Dg (xs.take k) := fun d hd => h d (List.mem_of_mem_take hd)
theorem Dg.drop {xs : List Nat} (h : Dg xs) (k : Nat) : Dg (xs.drop k) := fun d hd => h d (List.mem_of_mem_drop hd)
theorem Dg.tail {d : Nat} {xs : List Nat} (h : Dg (d :: xs)) : Dg xs := fun x hx => h x (List.mem_cons_of_mem _ hx)
theorem Cn.nil : Cn [] := ⟨Dg.nil, fun h => absurd rfl h⟩

theorem U_append (xs ys : List Nat) : U (xs ++ ys) = U xs + 4294967296 ^ xs.length * U ys := by
  induction xs with
  | nil => simp [U]
  | cons d r ih =>
    simp only [List.cons_append, U, ih, List.length_cons, Nat.pow_succ]
    grind
theorem U_snoc (xs : List Nat) (d : Nat) : U (xs ++ [d]) = U xs + 4294967296 ^ xs.length * d := by
  rw [U_append]; simp [U]
/-- One digit more, also behind the end. -/
theorem U_take_succ (xs : List Nat) (k : Nat) : U (xs.take (k + 1)) = U (xs.take k) + 4294967296 ^ k * nth xs k := by
  by_cases h : k < xs.length
  · rw [take_snoc xs k h, U_snoc]
    simp [Nat.min_eq_left (Nat.le_of_lt h)]
  · rw [List.take_of_length_le (by omega), List.take_of_length_le (by omega), nth_out (by omega)]
    simp
theorem U_take_all (xs : List Nat) (k : Nat) (h : xs.length ≤ k) : U (xs.take k) = U xs := by rw [List.take_of_length_le h]
theorem U_drop (xs : List Nat) (k : Nat) : U (xs.drop k) = nth xs k + 4294967296 * U (xs.drop (k + 1)) := by
  by_cases h : k < xs.length
  · rw [List.drop_eq_getElem_cons h, nth_in h]; rfl
  · rw [List.drop_eq_nil_of_le (by omega), List.drop_eq_nil_of_le (by omega), nth_out (by omega)]; rfl
theorem U_lt {xs : List Nat} (h : Dg xs) : U xs < 4294967296 ^ xs.length := by
  induction xs with
  | nil => simp [U]
  | cons d r ih =>
    have h1 := ih h.tail
    have h2 := h d (by simp)
    simp only [U, List.length_cons, Nat.pow_succ]
    omega
theorem U_ge {xs : List Nat} (h : Cn xs) (hx : xs ≠ []) : 4294967296 ^ (xs.length - 1) ≤ U xs := by
  obtain ⟨hd, hl⟩ := h
  have h0 := hl hx
  have hlen := List.length_pos_iff.2 hx
  have e : xs = xs.take (xs.length - 1) ++ [nth xs (xs.length - 1)] := by
    rw [← take_snoc xs (xs.length - 1) (by omega), List.take_of_length_le (by omega)]
  have e2 : U xs = U (xs.take (xs.length - 1)) + 4294967296 ^ (xs.length - 1) * nth xs (xs.length - 1) := by
    have := U_take_succ xs (xs.length - 1)
    rw [U_take_all xs _ (by omega)] at this
    exact this
  have : 4294967296 ^ (xs.length - 1) * 1 ≤ 4294967296 ^ (xs.length - 1) * nth xs (xs.length - 1) := Nat.mul_le_mul_left _ (by omega)
  omega
/-- A canonical list of a number below 4294967296^k has at most k digits. -/
theorem Cn.len {xs : List Nat} (h : Cn xs) {k : Nat} (hk : U xs < 4294967296 ^ k) : xs.length ≤ k := by
  rcases Nat.lt_or_ge k xs.length with hlt | hge
  · have hx : xs ≠ [] := by rintro rfl; simp at hlt
    have h1 := U_ge h hx
    have h2 : 4294967296 ^ k ≤ 4294967296 ^ (xs.length - 1) := Nat.pow_le_pow_right (by omega) (by omega)
    omega
  · exact hge
theorem U_zeros (xs : List Nat) (n : Nat) (h : ∀ j, n ≤ j → nth xs j = 0) : U (xs.take n) = U xs := by
  induction xs generalizing n with
  | nil => simp
  | cons d r ih =>
    cases n with
    | zero =>
      have h0 : d = 0 := by have := h 0 (Nat.zero_le _); rwa [nth_cons0] at this
      have := ih 0 (fun j _ => by have := h (j + 1) (Nat.zero_le _); rwa [nth_cons] at this)
      simp only [List.take_zero, U] at this ⊢
      omega
    | succ n =>
      have := ih n (fun j hj => by have := h (j + 1) (by omega); rwa [nth_cons] at this)
      simp only [List.take_succ_cons, U, this]
theorem Cn.of_take {xs : List Nat} (h : Dg xs) {n : Nat} (hn : n ≤ xs.length) (h0 : 0 < n → nth xs (n - 1) ≠ 0) : Cn (xs.take n) := by
  refine ⟨h.take n, fun hx => ?_⟩
  have hl : (xs.take n).length = n := by simp [hn]
  have hpos : 0 < n := by
    rcases Nat.eq_zero_or_pos n with h | h
    · subst h; simp at hx
    · exact h
  rw [hl, nth_take (by omega)]
  exact h0 hpos
theorem Cn.snoc {xs : List Nat} (h : Dg xs) {d : Nat} (hd : d < 4294967296) (h0 : d ≠ 0) : Cn (xs ++ [d]) := by
  refine ⟨h.snoc hd, fun _ => ?_⟩
  simp only [nth, List.length_append, List.length_singleton, Nat.add_sub_cancel]
  simpa using h0
theorem U_inj {xs ys : List Nat} (hx : Cn xs) (hy : Cn ys) (h : U xs = U ys) : xs = ys := by
  induction xs generalizing ys with
  | nil =>
    cases ys with
    | nil => rfl
    | cons d r =>
      have := U_ge hy (by simp)
      have h2 : 0 < 4294967296 ^ ((d :: r).length - 1) := Nat.pow_pos (by omega)
      rw [← h] at this
      simp only [U] at this
      omega
  | cons d r ih =>
    cases ys with
    | nil =>
      have := U_ge hx (by simp)
      have h2 : 0 < 4294967296 ^ ((d :: r).length - 1) := Nat.pow_pos (by omega)
      rw [h] at this
      simp only [U] at this
      omega
    | cons e s =>
      have h1 := hx.1 d (by simp)
      have h2 := hy.1 e (by simp)
      simp only [U] at h
      have hde : d = e := by omega
      have hrs : U r = U s := by omega
      have tl : ∀ {a : Nat} {l : List Nat}, Cn (a :: l) → Cn l := by
        intro a l hc
        refine ⟨hc.1.tail, fun hl => ?_⟩
        have := hc.2 (by simp)
        have hlen := List.length_pos_iff.2 hl
        rw [show (a :: l).length - 1 = (l.length - 1) + 1 by simp; omega, nth_cons] at this
        exact this
      rw [hde, ih (tl hx) (tl hy) hrs]

end Go.Proofs.YtnaofoahnjceiaaDoor
