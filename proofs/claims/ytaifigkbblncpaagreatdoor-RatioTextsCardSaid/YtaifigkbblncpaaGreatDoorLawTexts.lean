/-
  The text of any number, and the number of any text: the walk.
-/
import Derived.Test.YtaifigkbblncpaaGreatDoorLawTells
import Derived.Test.YtaifigkbblncpaaGreatDoorRefText
import Derived.Test.YtaifigkbblncpaaGreatDoorRefParse
namespace Go.Proofs.YtaifigkbblncpaaGreatDoor
open Go.RowKit
set_option maxRecDepth 100000

/-- What a text's number is, and its fault. -/
def pn (s : ByteArray) : Nat := if 4096 < s.size then 0 else if isDecB s.data.toList then DV 0 s.data.toList else 0
def pe (s : ByteArray) : Int := if 4096 < s.size then 5 else if isDecB s.data.toList then 0 else 3
theorem nv_nil (w : World) (L : Nat) : Nv w L (.slice none 0 0) 0 := ⟨none, [], 0, 0, rfl, rfl, Nat.le_refl _, Ra.nil _ _ _, fun h => absurd rfl h, Cn.nil, rfl⟩

theorem parse_all (s : ByteArray) (w : World) :
    Calls Tryz.prog 20 #[.string s] w fun e w' => ∃ v, e = .returned (.tuple #[v, .int .i64 (pe s)]) ∧ Nv w' w.heap.size v (pn s) ∧ Below w.heap.size w w' := by
  by_cases h : 4096 < s.size
  · rw [show pe s = 5 by unfold pe; rw [if_pos h], show pn s = 0 by unfold pn; rw [if_pos h]]
    exact (parse_many s h w).mono fun e w' ⟨h1, h2⟩ => ⟨_, h1, nv_nil _ _, by subst h2; exact Below.refl _ _⟩
  · cases hd : isDecB s.data.toList with
    | false =>
      rw [show pe s = 3 by unfold pe; rw [if_neg h, hd]; rfl, show pn s = 0 by unfold pn; rw [if_neg h, hd]; rfl]
      exact (parse_form s (by omega) hd w).mono fun e w' ⟨h1, h2⟩ => ⟨_, h1, nv_nil _ _, h2⟩
    | true =>
      rw [show pe s = 0 by unfold pe; rw [if_neg h, hd]; rfl, show pn s = DV 0 s.data.toList by unfold pn; rw [if_neg h, hd]; rfl]
      exact (parse_ok s (by omega) hd w).mono fun e w' ⟨A, n, c, zs, h1, h2, h3, _, h5, h6, h7⟩ => ⟨_, h1, by rw [← h6]; exact h2.nv h3 h5, h7⟩
theorem refParse_all (s : ByteArray) (w : World) : Calls Tryz.prog 23 #[.string s] w (RefParsed w (pn s) (pe s)) := by
  by_cases h : 4096 < s.size
  · rw [show pe s = 5 by unfold pe; rw [if_pos h], show pn s = 0 by unfold pn; rw [if_pos h]]
    exact refParse_many s h w
  · refine (refParse_any s (by omega) w).mono fun e w' h2 => ?_
    rcases h2 with ⟨hd, h2⟩ | ⟨hd, h2⟩
    · rw [show pe s = 0 by unfold pe; rw [if_neg h, hd]; rfl, show pn s = DV 0 s.data.toList by unfold pn; rw [if_neg h, hd]; rfl]
      exact h2
    · rw [show pe s = 3 by unfold pe; rw [if_neg h, hd]; rfl, show pn s = 0 by unfold pn; rw [if_neg h, hd]; rfl]
      exact h2
theorem pn_small (s : ByteArray) (h : s.size ≤ 300 ∨ 4096 < s.size) : ∃ K, K ≤ 5000 ∧ pn s < 65536 ^ K := by
  obtain ⟨K, hK, hK2⟩ : ∃ K, 300 ≤ K ∧ K ≤ 300 := ⟨300, by omega, by omega⟩
  have h0 : 0 < 65536 ^ K := Nat.pow_pos (by omega)
  refine ⟨K, by omega, ?_⟩
  unfold pn
  by_cases h1 : 4096 < s.size
  · rw [if_pos h1]; exact h0
  · rw [if_neg h1]
    cases hd : isDecB s.data.toList with
    | false => exact h0
    | true =>
      have hall : s.data.toList.all digB = true := by
        simp only [isDecB, Bool.and_eq_true] at hd
        exact hd.2
      have h2 := DV_lt _ hall
      rw [ba_len] at h2
      have h3 : (10 : Nat) ^ s.size ≤ 10 ^ K := Nat.pow_le_pow_right (by omega) (by omega)
      have h4 : (10 : Nat) ^ K ≤ 65536 ^ K := Nat.pow_le_pow_left (by omega) _
      simp only [if_true]
      omega
theorem dig_of {d : Nat} (h : d < 10) : digB (UInt8.ofNat (48 + d)) = true ∧ (UInt8.ofNat (48 + d)).toNat - 48 = d ∧ ((UInt8.ofNat (48 + d)).toNat = 48 → d = 0) := by
  have h1 : (UInt8.ofNat (48 + d)).toNat = 48 + d := by simp; omega
  refine ⟨?_, by omega, by omega⟩
  unfold digB
  rw [h1, decide_eq_true (by omega), decide_eq_true (by omega)]
  rfl
theorem dec_reads (u : Nat) : (Lib.decDigits u).all digB = true ∧ DV 0 (Lib.decDigits u) = u ∧ (0 < u → ((Lib.decDigits u).headD 0).toNat ≠ 48) := by
  induction u using Nat.strongRecOn with
  | ind u ih =>
    by_cases h : u < 10
    · obtain ⟨h1, h2, h3⟩ := dig_of h
      rw [Lib.decDigits_one h]
      refine ⟨by rw [List.all_cons, List.all_nil, h1]; rfl, by rw [DV_cons, DV_nil]; omega, fun hp => ?_⟩
      simp only [List.headD_cons]
      intro h4
      have := h3 h4
      omega
    · obtain ⟨i1, i2, i3⟩ := ih (u / 10) (by omega)
      obtain ⟨h1, h2, _⟩ := dig_of (d := u % 10) (by omega)
      rw [decDigits_step (by omega)]
      refine ⟨by rw [List.all_append, i1, List.all_cons, List.all_nil, h1]; rfl, by rw [DV_app, i2, DV_cons, DV_nil, h2]; omega, fun _ => ?_⟩
      have := i3 (by omega)
      rcases hl : Lib.decDigits (u / 10) with _ | ⟨b, r⟩
      · have h5 := Lib.decDigits_length (u / 10)
        have h6 := Lib.nDigits_pos (u / 10)
        rw [hl] at h5
        simp at h5
        omega
      · rw [hl] at this
        simpa using this
theorem dec_isDec (u : Nat) : isDecB (Lib.decDigits u) = true := by
  obtain ⟨h1, _, h3⟩ := dec_reads u
  have hp := Lib.decDigits_length u
  have hq := Lib.nDigits_pos u
  unfold isDecB
  rw [h1]
  rcases hl : Lib.decDigits u with _ | ⟨b, r⟩
  · rw [hl] at hp; simp at hp; omega
  · rcases Nat.eq_zero_or_pos u with rfl | h0
    · rw [Lib.decDigits_one (by omega)] at hl
      injection hl with e1 e2
      subst e1 e2
      rfl
    · have := h3 h0
      rw [hl] at this
      simp only [List.headD_cons] at this
      have hf : (((b :: r).headD 0).toNat == 48 && (b :: r).length != 1) = false := by
        simp only [List.headD_cons, Bool.and_eq_false_iff]
        exact .inl (beq_eq_false_iff_ne.2 this)
      rw [hf]
      rfl

end Go.Proofs.YtaifigkbblncpaaGreatDoor
