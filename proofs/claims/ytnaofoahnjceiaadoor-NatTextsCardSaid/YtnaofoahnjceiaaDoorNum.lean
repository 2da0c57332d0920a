/-
  Numbers in digits of 16 bits, the lowest first: the plain mathematics (no program).
-/
import Derived.Test.YtnaofoahnjceiaaDoorWords
namespace Go.Proofs.YtnaofoahnjceiaaDoor

/-- The number of a list of digits. -/
def V : List Nat → Nat
  | [] => 0
  | d :: r => d + 65536 * V r
/-- Digits all below 65536. -/
def Dig (xs : List Nat) : Prop := ∀ d ∈ xs, d < 65536
/-- Without noughts at the end. -/
def Can (xs : List Nat) : Prop := Dig xs ∧ (xs ≠ [] → nth xs (xs.length - 1) ≠ 0)

theorem Dig.nil : Dig [] := by intro d h; simp at h
theorem Dig.nth {xs : List Nat} (h : Dig xs) (i : Nat) : nth xs i < 65536 := by
  by_cases hi : i < xs.length
  · rw [nth_in hi]; exact h _ (List.getElem_mem hi)
  · rw [nth_out (by omega)]; omega
theorem Dig.snoc {xs : List Nat} (h : Dig xs) {d : Nat} (hd : d < 65536) : Dig (xs ++ [d]) := by
  intro x hx
  rcases List.mem_append.1 hx with hx | hx
  · exact h x hx
  · simp at hx; omega
theorem Dig.take {xs : List Nat} (h : Dig xs) (k : Nat) : Dig (xs.take k) := fun d hd => h d (List.mem_of_mem_take hd)
theorem Dig.drop {xs : List Nat} (h : Dig xs) (k : Nat) : Dig (xs.drop k) := fun d hd => h d (List.mem_of_mem_drop hd)
theorem Dig.tail {d : Nat} {xs : List Nat} (h : Dig (d :: xs)) : Dig xs := fun x hx => h x (List.mem_cons_of_mem _ hx)
theorem Can.nil : Can [] := ⟨Dig.nil, fun h => absurd rfl h⟩

theorem V_append (xs ys : List Nat) : V (xs ++ ys) = V xs + 65536 ^ xs.length * V ys := by
  induction xs with
  | nil => simp [V]
  | cons d r ih =>
    simp only [List.cons_append, V, ih, List.length_cons, Nat.pow_succ]
    grind
theorem V_snoc (xs : List Nat) (d : Nat) : V (xs ++ [d]) = V xs + 65536 ^ xs.length * d := by
  rw [V_append]; simp [V]
theorem take_snoc (xs : List Nat) (k : Nat) (h : k < xs.length) : xs.take (k + 1) = xs.take k ++ [nth xs k] := by
  rw [List.take_succ_eq_append_getElem h, nth_in h]
/-- One digit more, also behind the end. -/
theorem V_take_succ (xs : List Nat) (k : Nat) : V (xs.take (k + 1)) = V (xs.take k) + 65536 ^ k * nth xs k := by
  by_cases h : k < xs.length
  · rw [take_snoc xs k h, V_snoc]
    simp [Nat.min_eq_left (Nat.le_of_lt h)]
  · rw [List.take_of_length_le (by omega), List.take_of_length_le (by omega), nth_out (by omega)]
    simp
theorem V_take_all (xs : List Nat) (k : Nat) (h : xs.length ≤ k) : V (xs.take k) = V xs := by rw [List.take_of_length_le h]
theorem V_drop (xs : List Nat) (k : Nat) : V (xs.drop k) = nth xs k + 65536 * V (xs.drop (k + 1)) := by
  by_cases h : k < xs.length
  · rw [List.drop_eq_getElem_cons h, nth_in h]; rfl
  · rw [List.drop_eq_nil_of_le (by omega), List.drop_eq_nil_of_le (by omega), nth_out (by omega)]; rfl
theorem V_lt {xs : List Nat} (h : Dig xs) : V xs < 65536 ^ xs.length := by
  induction xs with
  | nil => simp [V]
  | cons d r ih =>
    have h1 := ih h.tail
    have h2 := h d (by simp)
    simp only [V, List.length_cons, Nat.pow_succ]
    omega
theorem V_ge {xs : List Nat} (h : Can xs) (hx : xs ≠ []) : 65536 ^ (xs.length - 1) ≤ V xs := by
  obtain ⟨hd, hl⟩ := h
  have h0 := hl hx
  have hlen := List.length_pos_iff.2 hx
  have e : xs = xs.take (xs.length - 1) ++ [nth xs (xs.length - 1)] := by
    rw [← take_snoc xs (xs.length - 1) (by omega), List.take_of_length_le (by omega)]
  have e2 : V xs = V (xs.take (xs.length - 1)) + 65536 ^ (xs.length - 1) * nth xs (xs.length - 1) := by
    have := V_take_succ xs (xs.length - 1)
    rw [V_take_all xs _ (by omega)] at this
    exact this
  have : 65536 ^ (xs.length - 1) * 1 ≤ 65536 ^ (xs.length - 1) * nth xs (xs.length - 1) := Nat.mul_le_mul_left _ (by omega)
  omega
/-- A canonical list of a number below 65536^k has at most k digits. -/
theorem Can.len {xs : List Nat} (h : Can xs) {k : Nat} (hk : V xs < 65536 ^ k) : xs.length ≤ k := by
  rcases Nat.lt_or_ge k xs.length with hlt | hge
  · have hx : xs ≠ [] := by rintro rfl; simp at hlt
    have h1 := V_ge h hx
    have h2 : 65536 ^ k ≤ 65536 ^ (xs.length - 1) := Nat.pow_le_pow_right (by omega) (by omega)
    omega
  · exact hge
theorem V_zeros (xs : List Nat) (n : Nat) (h : ∀ j, n ≤ j → nth xs j = 0) : V (xs.take n) = V xs := by
  induction xs generalizing n with
  | nil => simp
  | cons d r ih =>
    cases n with
    | zero =>
      have h0 : d = 0 := by have := h 0 (Nat.zero_le _); rwa [nth_cons0] at this
      have := ih 0 (fun j _ => by have := h (j + 1) (Nat.zero_le _); rwa [nth_cons] at this)
      simp only [List.take_zero, V] at this ⊢
      omega
    | succ n =>
      have := ih n (fun j hj => by have := h (j + 1) (by omega); rwa [nth_cons] at this)
      simp only [List.take_succ_cons, V, this]
theorem Can.of_take {xs : List Nat} (h : Dig xs) {n : Nat} (hn : n ≤ xs.length) (h0 : 0 < n → nth xs (n - 1) ≠ 0) : Can (xs.take n) := by
  refine ⟨h.take n, fun hx => ?_⟩
  have hl : (xs.take n).length = n := by simp [hn]
  have hpos : 0 < n := by
    rcases Nat.eq_zero_or_pos n with h | h
    · subst h; simp at hx
    · exact h
  rw [hl, nth_take (by omega)]
  exact h0 hpos
theorem Can.snoc {xs : List Nat} (h : Dig xs) {d : Nat} (hd : d < 65536) (h0 : d ≠ 0) : Can (xs ++ [d]) := by
  refine ⟨h.snoc hd, fun _ => ?_⟩
  simp only [nth, List.length_append, List.length_singleton, Nat.add_sub_cancel]
  simpa using h0
theorem V_inj {xs ys : List Nat} (hx : Can xs) (hy : Can ys) (h : V xs = V ys) : xs = ys := by
  induction xs generalizing ys with
  | nil =>
    cases ys with
    | nil => rfl
    | cons d r =>
      have := V_ge hy (by simp)
      have h2 : 0 < 65536 ^ ((d :: r).length - 1) := Nat.pow_pos (by omega)
      rw [← h] at this
      simp only [V] at this
      omega
  | cons d r ih =>
    cases ys with
    | nil =>
      have := V_ge hx (by simp)
      have h2 : 0 < 65536 ^ ((d :: r).length - 1) := Nat.pow_pos (by omega)
      rw [h] at this
      simp only [V] at this
      omega
    | cons e s =>
      have h1 := hx.1 d (by simp)
      have h2 := hy.1 e (by simp)
      simp only [V] at h
      have hde : d = e := by omega
      have hrs : V r = V s := by omega
      have tl : ∀ {a : Nat} {l : List Nat}, Can (a :: l) → Can l := by
        intro a l hc
        refine ⟨hc.1.tail, fun hl => ?_⟩
        have := hc.2 (by simp)
        have hlen := List.length_pos_iff.2 hl
        rw [show (a :: l).length - 1 = (l.length - 1) + 1 by simp; omega, nth_cons] at this
        exact this
      rw [hde, ih (tl hx) (tl hy) hrs]

end Go.Proofs.YtnaofoahnjceiaaDoor
