/-
  Lines: what was written is read, what was read is written as it stood: the mathematics, in lists of bytes.
-/
import Derived.Test.YtbhdibeiojeadaaDoorL6G
namespace Go.Proofs.YtbhdibeiojeadaaDoor
open Go.RowKit
set_option maxRecDepth 100000

/-- One byte more for the pieces. -/
def stepB (c : UInt8) (r : List (List UInt8)) (b : UInt8) : List (List UInt8) := if b = c then r ++ [[]] else r.dropLast ++ [(r.getLastD []) ++ [b]]
def cutB (c : UInt8) (l : List UInt8) : List (List UInt8) := l.foldl (stepB c) [[]]
def joinB (c : UInt8) : List (List UInt8) → List UInt8
  | [] => []
  | [x] => x
  | x :: y :: r => x ++ c :: joinB c (y :: r)

theorem stepB_ne (c : UInt8) (r : List (List UInt8)) (b : UInt8) : stepB c r b ≠ [] := by
  unfold stepB; split <;> simp
theorem cutB_snoc (c : UInt8) (l : List UInt8) (b : UInt8) : cutB c (l ++ [b]) = stepB c (cutB c l) b := by
  unfold cutB; rw [List.foldl_append]; rfl
theorem fold_ne (c : UInt8) (r : List (List UInt8)) (h : r ≠ []) : ∀ l : List UInt8, l.foldl (stepB c) r ≠ [] := by
  intro l
  induction l generalizing r with
  | nil => exact h
  | cons b l ih => exact ih _ (stepB_ne c r b)
theorem cutB_ne (c : UInt8) (l : List UInt8) : cutB c l ≠ [] := fold_ne c _ (by simp) l
theorem stepB_app (c : UInt8) (r1 r2 : List (List UInt8)) (b : UInt8) (h : r2 ≠ []) : stepB c (r1 ++ r2) b = r1 ++ stepB c r2 b := by
  unfold stepB
  split
  · rw [List.append_assoc]
  · obtain ⟨q, x, hq⟩ : ∃ q x, r2 = q ++ [x] := ⟨_, _, (List.dropLast_concat_getLast h).symm⟩
    rw [hq, ← List.append_assoc, List.dropLast_concat, List.getLastD_concat, List.dropLast_concat, List.getLastD_concat, List.append_assoc]
theorem fold_app (c : UInt8) : ∀ (y : List UInt8) (r1 r2 : List (List UInt8)), r2 ≠ [] → y.foldl (stepB c) (r1 ++ r2) = r1 ++ y.foldl (stepB c) r2
  | [], _, _, _ => rfl
  | b :: y, r1, r2, h => by
    rw [List.foldl_cons, List.foldl_cons, stepB_app c r1 r2 b h]
    exact fold_app c y r1 _ (stepB_ne c r2 b)
/-- At the byte itself the pieces part. -/
theorem cutB_sep (c : UInt8) (x y : List UInt8) : cutB c (x ++ c :: y) = cutB c x ++ cutB c y := by
  unfold cutB
  rw [List.foldl_append, List.foldl_cons]
  show y.foldl (stepB c) (stepB c (x.foldl (stepB c) [[]]) c) = _
  have : stepB c (x.foldl (stepB c) [[]]) c = x.foldl (stepB c) [[]] ++ [[]] := by unfold stepB; rw [if_pos rfl]
  rw [this]
  exact fold_app c y _ _ (by simp)
theorem fold_plain (c : UInt8) : ∀ (y p : List UInt8), (∀ b ∈ y, b ≠ c) → y.foldl (stepB c) [p] = [p ++ y]
  | [], p, _ => by simp
  | b :: y, p, h => by
    rw [List.foldl_cons]
    have : stepB c [p] b = [p ++ [b]] := by unfold stepB; rw [if_neg (h b (by simp))]; rfl
    rw [this, fold_plain c y _ (fun a ha => h a (by simp [ha]))]
    simp
/-- Without the byte there is one piece. -/
theorem cutB_plain (c : UInt8) (y : List UInt8) (h : ∀ b ∈ y, b ≠ c) : cutB c y = [y] := by
  unfold cutB; rw [fold_plain c y [] h]; rfl
theorem joinB_app (c : UInt8) : ∀ (r1 r2 : List (List UInt8)), r1 ≠ [] → r2 ≠ [] → joinB c (r1 ++ r2) = joinB c r1 ++ c :: joinB c r2
  | [], _, h, _ => absurd rfl h
  | [x], [], _, h => absurd rfl h
  | [x], y :: r, _, _ => rfl
  | x :: y :: r, r2, _, h2 => by
    show x ++ c :: joinB c ((y :: r) ++ r2) = (x ++ c :: joinB c (y :: r)) ++ c :: joinB c r2
    rw [joinB_app c (y :: r) r2 (by simp) h2]
    simp
/-- Pieces without the byte, joined by it, come back. -/
theorem cut_join (c : UInt8) : ∀ (r : List (List UInt8)), r ≠ [] → (∀ x ∈ r, ∀ b ∈ x, b ≠ c) → cutB c (joinB c r) = r
  | [], h, _ => absurd rfl h
  | [x], _, h => cutB_plain c x (h x (by simp))
  | x :: y :: r, _, h => by
    show cutB c (x ++ c :: joinB c (y :: r)) = _
    rw [cutB_sep, cutB_plain c x (h x (by simp)), cut_join c (y :: r) (by simp) (fun z hz => h z (by simp [hz]))]
    rfl
theorem joinB_snoc (c : UInt8) (r : List (List UInt8)) (h : r ≠ []) (x : List UInt8) : joinB c (r ++ [x]) = joinB c r ++ c :: x := joinB_app c r [x] h (by simp)
/-- A text's pieces, joined, are the text. -/
theorem join_cut (c : UInt8) (l : List UInt8) : joinB c (cutB c l) = l := by
  have key : ∀ (n : Nat) (l : List UInt8), l.length = n → joinB c (cutB c l) = l := by
    intro n
    induction n with
    | zero => intro l hl; obtain rfl := List.eq_nil_of_length_eq_zero hl; rfl
    | succ n ih =>
      intro l hl
      obtain ⟨r, b, rfl⟩ : ∃ r b, l = r ++ [b] := ⟨l.dropLast, l.getLast (by intro e; subst e; simp at hl), (List.dropLast_concat_getLast _).symm⟩
      have hr := ih r (by simpa using hl)
      rw [cutB_snoc]
      have hne := cutB_ne c r
      unfold stepB
      by_cases hb : b = c
      · rw [if_pos hb, joinB_snoc c _ hne, hr, hb]
      · rw [if_neg hb]
        obtain ⟨q, x, hq⟩ : ∃ q x, cutB c r = q ++ [x] := ⟨_, _, (List.dropLast_concat_getLast hne).symm⟩
        rw [hq] at hr ⊢
        rw [List.dropLast_concat, List.getLastD_concat]
        rcases q with _ | ⟨y, q⟩
        · simp only [List.nil_append] at hr ⊢
          rw [← hr]; rfl
        · rw [joinB_snoc c _ (by simp)] at hr ⊢
          rw [← hr]
          simp
  exact key _ l rfl
end Go.Proofs.YtbhdibeiojeadaaDoor
