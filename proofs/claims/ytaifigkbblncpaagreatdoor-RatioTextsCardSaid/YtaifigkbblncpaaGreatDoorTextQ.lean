/-
  Texts of fractions: where the slash stands, what the two sides are, and what text comes back.
-/
import Derived.Test.YtaifigkbblncpaaGreatDoorLawTexts
import Derived.Test.YtaifigkbblncpaaGreatDoorML
import Derived.Lib.IndexMore
namespace Go.Proofs.YtaifigkbblncpaaGreatDoor
open Go.RowKit
set_option maxRecDepth 100000

/-- Where the first slash stands; the length, if there is none. -/
def slashAt : List UInt8 → Nat
  | [] => 0
  | b :: l => if b = 47 then 0 else slashAt l + 1
theorem slashAt_le : ∀ l : List UInt8, slashAt l ≤ l.length
  | [] => Nat.le_refl _
  | b :: l => by
    unfold slashAt
    split
    · omega
    · have := slashAt_le l
      simp only [List.length_cons]
      omega
theorem slashAt_no : ∀ l : List UInt8, (∀ b ∈ l, b ≠ 47) → slashAt l = l.length
  | [], _ => rfl
  | b :: l, h => by
    unfold slashAt
    rw [if_neg (h b (by simp)), slashAt_no l (fun c hc => h c (by simp [hc]))]
    rfl
theorem slashAt_app : ∀ (l r : List UInt8), (∀ b ∈ l, b ≠ 47) → slashAt (l ++ 47 :: r) = l.length
  | [], _, _ => by simp [slashAt]
  | b :: l, r, h => by
    rw [List.cons_append]
    unfold slashAt
    rw [if_neg (h b (by simp)), slashAt_app l r (fun c hc => h c (by simp [hc]))]
    rfl
theorem slashAt_get : ∀ (l : List UInt8), slashAt l < l.length → l = l.take (slashAt l) ++ 47 :: l.drop (slashAt l + 1)
  | [], h => absurd h (by simp)
  | b :: l, h => by
    unfold slashAt at h ⊢
    by_cases hb : b = 47
    · subst hb
      simp
    · rw [if_neg hb] at h ⊢
      have := slashAt_get l (by simpa using h)
      rw [List.take_succ_cons, List.drop_succ_cons, List.cons_append, ← this]
theorem slashAt_none : ∀ (l : List UInt8), ¬ slashAt l < l.length → ∀ b ∈ l, b ≠ 47
  | [], _ => by simp
  | b :: l, h => by
    unfold slashAt at h
    by_cases hb : b = 47
    · rw [if_pos hb] at h; simp at h
    · rw [if_neg hb] at h
      intro c hc
      rcases List.mem_cons.1 hc with rfl | hc
      · exact hb
      · exact slashAt_none l (by simpa using h) c hc
theorem slashAt_before : ∀ (l : List UInt8) (j : Nat), j < slashAt l → l.getD j 0 ≠ 47
  | [], j, h => by simp [slashAt] at h
  | b :: l, j, h => by
    unfold slashAt at h
    by_cases hb : b = 47
    · rw [if_pos hb] at h; omega
    · rw [if_neg hb] at h
      cases j with
      | zero => simpa using hb
      | succ j => simpa using slashAt_before l j (by omega)

theorem index_slash : ∀ l : List UInt8, Lib.index l [47] = if slashAt l < l.length then (slashAt l : Int) else -1
  | [] => by simp [Lib.index, slashAt]
  | b :: l => by
    unfold Lib.index slashAt
    by_cases hb : b = 47
    · subst hb
      simp
    · have hp : ([47] : List UInt8).isPrefixOf (b :: l) = false := by
        simp only [List.isPrefixOf, Bool.and_true, beq_eq_false_iff_ne]
        exact fun e => hb e.symm
      rw [hp, if_neg (by simp), if_neg hb, index_slash l]
      by_cases h : slashAt l < l.length
      · have h' : slashAt l + 1 < (b :: l).length := by simp only [List.length_cons]; omega
        have e : ((slashAt l : Int) == -1) = false := by simp
        simp only [if_pos h, if_pos h', e]
        simp
      · have h' : ¬ slashAt l + 1 < (b :: l).length := by simp only [List.length_cons]; omega
        simp only [if_neg h, if_neg h']
        rfl
theorem cut_slash (l : List UInt8) : Lib.cut l [47] = (l.take (slashAt l), l.drop (slashAt l + 1), decide (slashAt l < l.length)) := by
  unfold Lib.cut
  rw [index_slash]
  have hl := slashAt_le l
  by_cases h : slashAt l < l.length
  · rw [if_pos h, if_pos (by omega), decide_eq_true h]
    simp
  · rw [if_neg h, if_neg (by decide), decide_eq_false h, show slashAt l = l.length by omega]
    simp

theorem dig_not {b : UInt8} (h : digB b = true) : b ≠ 47 := by
  rintro rfl
  exact absurd h (by decide)
theorem dec_noslash (u : Nat) : ∀ b ∈ Lib.decDigits u, b ≠ 47 := fun b hb => dig_not (List.all_eq_true.1 (dec_reads u).1 b hb)
theorem isDec_all {l : List UInt8} (h : isDecB l = true) : l.all digB = true := by
  simp only [isDecB, Bool.and_eq_true] at h
  exact h.2

theorem dec_dig {c : UInt8} (h : digB c = true) : UInt8.ofNat (48 + (c.toNat - 48)) = c ∧ c.toNat - 48 < 10 ∧ 48 ≤ c.toNat := by
  unfold digB at h
  simp only [Bool.and_eq_true, decide_eq_true_eq] at h
  refine ⟨?_, by omega, by omega⟩
  rw [show 48 + (c.toNat - 48) = c.toNat by omega]
  simp
/-- Digits without noughts ahead, in reverse: they are what their number's text is. -/
theorem dec_back : ∀ (n : Nat) (l : List UInt8), l.length = n → 0 < n → l.all digB = true → ((l.headD 0).toNat ≠ 48 ∨ n = 1) → Lib.decDigits (DV 0 l) = l ∧ ((l.headD 0).toNat ≠ 48 → 0 < DV 0 l) := by
  intro n
  induction n with
  | zero => intro l _ h; omega
  | succ n ih =>
    intro l hl _ ha hh
    obtain ⟨r, c, rfl⟩ : ∃ r c, l = r ++ [c] := ⟨l.dropLast, l.getLast (by intro e; subst e; simp at hl), (List.dropLast_concat_getLast _).symm⟩
    rw [List.all_append, List.all_cons, List.all_nil, Bool.and_true, Bool.and_eq_true] at ha
    obtain ⟨e1, e2, e3⟩ := dec_dig ha.2
    have hr : r.length = n := by simpa using hl
    rw [DV_app, DV_cons, DV_nil]
    cases n with
    | zero =>
      obtain rfl : r = [] := List.eq_nil_of_length_eq_zero hr
      rw [DV_nil, Nat.zero_mul, Nat.zero_add, Lib.decDigits_one e2, e1]
      refine ⟨rfl, fun h => ?_⟩
      simp at h
      omega
    | succ m =>
      have hne : r ≠ [] := by intro e; subst e; simp at hr
      have hd : ((r ++ [c]).headD 0) = r.headD 0 := by
        rcases r with _ | ⟨b, t⟩
        · exact absurd rfl hne
        · rfl
      rw [hd] at hh ⊢
      have hh' : (r.headD 0).toNat ≠ 48 := by
        rcases hh with h | h
        · exact h
        · omega
      obtain ⟨i1, i2⟩ := ih r hr (by omega) ha.1 (.inl hh')
      have hp := i2 hh'
      refine ⟨?_, fun _ => by omega⟩
      rw [decDigits_step (by omega), show (DV 0 r * 10 + (c.toNat - 48)) / 10 = DV 0 r by omega, show (DV 0 r * 10 + (c.toNat - 48)) % 10 = c.toNat - 48 by omega, i1, e1]
theorem dec_of {l : List UInt8} (h : isDecB l = true) : Lib.decDigits (DV 0 l) = l := by
  have ha := isDec_all h
  have hl : 0 < l.length := by
    rcases l with _ | ⟨b, r⟩
    · exact absurd h (by decide)
    · simp
  refine (dec_back l.length l rfl hl ha ?_).1
  rw [isDec_split rfl hl ha] at h
  have := of_decide_eq_true h
  by_cases h1 : (l.headD 0).toNat = 48
  · right
    have : ¬ 1 < l.length := fun h2 => this ⟨h1, h2⟩
    omega
  · exact .inl h1

/-- The text of a fraction. -/
def ftxt (q : Nat × Nat) : List UInt8 := if q.2 = 1 then Lib.decDigits q.1 else Lib.decDigits q.1 ++ 47 :: Lib.decDigits q.2
/-- The fraction of a text. -/
def fp (l : List UInt8) : Option (Nat × Nat) :=
  if slashAt l < l.length then
    if isDecB (l.take (slashAt l)) && isDecB (l.drop (slashAt l + 1)) && decide (DV 0 (l.drop (slashAt l + 1)) ≠ 1) && decide (0 < DV 0 (l.drop (slashAt l + 1))) && decide (Nat.gcd (DV 0 (l.take (slashAt l))) (DV 0 (l.drop (slashAt l + 1))) = 1) then some (DV 0 (l.take (slashAt l)), DV 0 (l.drop (slashAt l + 1))) else none
  else if isDecB (l.take (slashAt l)) then some (DV 0 (l.take (slashAt l)), 1) else none

theorem fp_txt {q : Nat × Nat} (h : Rt q) : fp (ftxt q) = some q := by
  unfold ftxt
  by_cases h1 : q.2 = 1
  · rw [if_pos h1]
    have hn := slashAt_no _ (dec_noslash q.1)
    unfold fp
    rw [if_neg (by omega), hn, List.take_of_length_le (Nat.le_refl _), if_pos (dec_isDec _), (dec_reads q.1).2.1, ← h1]
  · rw [if_neg h1]
    have hn := slashAt_app (Lib.decDigits q.1) (Lib.decDigits q.2) (dec_noslash q.1)
    unfold fp
    rw [hn, if_pos (by simp), List.take_left' rfl, show (Lib.decDigits q.1).length + 1 = (Lib.decDigits q.1 ++ [47]).length by simp,
      show Lib.decDigits q.1 ++ 47 :: Lib.decDigits q.2 = (Lib.decDigits q.1 ++ [47]) ++ Lib.decDigits q.2 by simp, List.drop_left' rfl, dec_isDec, dec_isDec, (dec_reads q.1).2.1, (dec_reads q.2).2.1,
      decide_eq_true h1, decide_eq_true h.1, decide_eq_true h.2]
    rfl
/-- What the document asks of a text whose sides are numbers: that it is its fraction's text. -/
theorem fp_yes {l : List UInt8} (hk : slashAt l < l.length) (h1 : isDecB (l.take (slashAt l)) = true) (h2 : isDecB (l.drop (slashAt l + 1)) = true) :
    decide (ftxt (DV 0 (l.take (slashAt l)), DV 0 (l.drop (slashAt l + 1))) = l) = decide (DV 0 (l.drop (slashAt l + 1)) ≠ 1) := by
  have hs := slashAt_get l hk
  unfold ftxt
  simp only
  rw [dec_of h1, dec_of h2]
  by_cases hd : DV 0 (l.drop (slashAt l + 1)) = 1
  · rw [if_pos hd, decide_eq_false, decide_eq_false (by simp [hd])]
    intro e
    have := congrArg List.length e
    rw [List.length_take] at this
    omega
  · rw [if_neg hd, ← hs, decide_eq_true rfl, decide_eq_true hd]
theorem fp_one {l : List UInt8} (hk : ¬ slashAt l < l.length) (h1 : isDecB (l.take (slashAt l)) = true) : ftxt (DV 0 (l.take (slashAt l)), 1) = l := by
  have hl := slashAt_le l
  unfold ftxt
  simp only [if_true]
  rw [dec_of h1, List.take_of_length_le (by omega)]
theorem fp_rt {l : List UInt8} {q : Nat × Nat} (h : fp l = some q) : Rt q := by
  unfold fp at h
  split at h
  · split at h
    · rename_i h0
      simp only [Bool.and_eq_true, decide_eq_true_eq] at h0
      injection h with h
      subst h
      exact ⟨h0.1.2, h0.2⟩
    · cases h
  · split at h
    · injection h with h
      subst h
      exact ⟨Nat.one_pos, Nat.gcd_one_right _⟩
    · cases h
end Go.Proofs.YtaifigkbblncpaaGreatDoor
