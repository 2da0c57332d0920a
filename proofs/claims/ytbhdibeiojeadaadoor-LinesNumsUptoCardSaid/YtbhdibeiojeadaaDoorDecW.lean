/-
  Lines: the decimals of words and of ints: what the library's parsers and printers say, in the document's words.
-/
import Derived.Test.YtbhdibeiojeadaaDoorL6A
import Derived.Lib.ItoaMem
import Derived.Lib.ItoaLen
import Derived.Lib.AtoiAllCases
import Derived.Lib.ParseIntBCases
namespace Go.Proofs.YtbhdibeiojeadaaDoor
open Go.RowKit
set_option maxRecDepth 100000

theorem dq_step {u : Nat} (h : 10 ≤ u) : Lib.decDigits u = Lib.decDigits (u / 10) ++ [UInt8.ofNat (48 + u % 10)] := by rw [Lib.decDigits, dif_neg (by omega)]
theorem dq_digit {d : Nat} (h : d < 10) : digB (UInt8.ofNat (48 + d)) = true ∧ (UInt8.ofNat (48 + d)).toNat - 48 = d ∧ ((UInt8.ofNat (48 + d)).toNat = 48 → d = 0) := by
  have h1 : (UInt8.ofNat (48 + d)).toNat = 48 + d := by simp; omega
  refine ⟨?_, by omega, by omega⟩
  unfold digB
  rw [h1, decide_eq_true (by omega), decide_eq_true (by omega)]
  rfl
theorem dq_reads (u : Nat) : (Lib.decDigits u).all digB = true ∧ DV 0 (Lib.decDigits u) = u ∧ (0 < u → ((Lib.decDigits u).headD 0).toNat ≠ 48) := by
  induction u using Nat.strongRecOn with
  | ind u ih =>
    by_cases h : u < 10
    · obtain ⟨h1, h2, h3⟩ := dq_digit h
      rw [Lib.decDigits_one h]
      refine ⟨by rw [List.all_cons, List.all_nil, h1]; rfl, by rw [DV_cons, DV_nil]; omega, fun hp => ?_⟩
      simp only [List.headD_cons]
      intro h4
      have := h3 h4
      omega
    · obtain ⟨i1, i2, i3⟩ := ih (u / 10) (by omega)
      obtain ⟨h1, h2, _⟩ := dq_digit (d := u % 10) (by omega)
      rw [dq_step (by omega)]
      refine ⟨by rw [List.all_append, i1, List.all_cons, List.all_nil, h1]; rfl, by rw [DV_app, i2, DV_cons, DV_nil, h2]; omega, fun _ => ?_⟩
      have := i3 (by omega)
      rcases hl : Lib.decDigits (u / 10) with _ | ⟨b, r⟩
      · have h5 := Lib.decDigits_length (u / 10)
        have h6 := Lib.nDigits_pos (u / 10)
        rw [hl] at h5
        simp at h5
        omega
      · rw [hl] at this
        simpa using this
theorem dq_isDec (u : Nat) : isDecB (Lib.decDigits u) = true := by
  obtain ⟨h1, _, h3⟩ := dq_reads u
  have hp := Lib.decDigits_length u
  have hq := Lib.nDigits_pos u
  unfold isDecB
  rw [h1]
  rcases hl : Lib.decDigits u with _ | ⟨b, r⟩
  · rw [hl] at hp; simp at hp; omega
  · rcases Nat.eq_zero_or_pos u with rfl | h0
    · rw [Lib.decDigits_one (by omega)] at hl
      injection hl with e1 e2
      subst e1 e2
      rfl
    · have := h3 h0
      rw [hl] at this
      simp only [List.headD_cons] at this
      have hf : (((b :: r).headD 0).toNat == 48 && (b :: r).length != 1) = false := by
        simp only [List.headD_cons, Bool.and_eq_false_iff]
        exact .inl (beq_eq_false_iff_ne.2 this)
      rw [hf]
      rfl
theorem dq_all {l : List UInt8} (h : isDecB l = true) : l.all digB = true := by
  simp only [isDecB, Bool.and_eq_true] at h
  exact h.2
theorem dq_dig {c : UInt8} (h : digB c = true) : UInt8.ofNat (48 + (c.toNat - 48)) = c ∧ c.toNat - 48 < 10 ∧ 48 ≤ c.toNat := by
  unfold digB at h
  simp only [Bool.and_eq_true, decide_eq_true_eq] at h
  refine ⟨?_, by omega, by omega⟩
  rw [show 48 + (c.toNat - 48) = c.toNat by omega]
  simp
theorem dq_back : ∀ (n : Nat) (l : List UInt8), l.length = n → 0 < n → l.all digB = true → ((l.headD 0).toNat ≠ 48 ∨ n = 1) → Lib.decDigits (DV 0 l) = l ∧ ((l.headD 0).toNat ≠ 48 → 0 < DV 0 l) := by
  intro n
  induction n with
  | zero => intro l _ h; omega
  | succ n ih =>
    intro l hl _ ha hh
    obtain ⟨r, c, rfl⟩ : ∃ r c, l = r ++ [c] := ⟨l.dropLast, l.getLast (by intro e; subst e; simp at hl), (List.dropLast_concat_getLast _).symm⟩
    rw [List.all_append, List.all_cons, List.all_nil, Bool.and_true, Bool.and_eq_true] at ha
    obtain ⟨e1, e2, e3⟩ := dq_dig ha.2
    have hr : r.length = n := by simpa using hl
    rw [DV_app, DV_cons, DV_nil]
    cases n with
    | zero =>
      obtain rfl : r = [] := List.eq_nil_of_length_eq_zero hr
      rw [DV_nil, Nat.zero_mul, Nat.zero_add, Lib.decDigits_one e2, e1]
      refine ⟨rfl, fun h => ?_⟩
      simp at h
      omega
    | succ m =>
      have hne : r ≠ [] := by intro e; subst e; simp at hr
      have hd : ((r ++ [c]).headD 0) = r.headD 0 := by
        rcases r with _ | ⟨b, t⟩
        · exact absurd rfl hne
        · rfl
      rw [hd] at hh ⊢
      have hh' : (r.headD 0).toNat ≠ 48 := by
        rcases hh with h | h
        · exact h
        · omega
      obtain ⟨i1, i2⟩ := ih r hr (by omega) ha.1 (.inl hh')
      have hp := i2 hh'
      refine ⟨?_, fun _ => by omega⟩
      rw [dq_step (by omega), show (DV 0 r * 10 + (c.toNat - 48)) / 10 = DV 0 r by omega, show (DV 0 r * 10 + (c.toNat - 48)) % 10 = c.toNat - 48 by omega, i1, e1]
theorem dq_same {l : List UInt8} (h : isDecB l = true) : Lib.decDigits (DV 0 l) = l := by
  have ha := dq_all h
  have hl : 0 < l.length := by
    rcases l with _ | ⟨b, r⟩
    · exact absurd h (by decide)
    · simp
  refine (dq_back l.length l rfl hl ha ?_).1
  rw [isDec_split rfl hl ha] at h
  have := of_decide_eq_true h
  by_cases h1 : (l.headD 0).toNat = 48
  · right
    have : ¬ 1 < l.length := fun h2 => this ⟨h1, h2⟩
    omega
  · exact .inl h1

theorem wide_iff {l : List UInt8} {n : Nat} : wideO l = some n ↔ n < 18446744073709551616 ∧ Lib.decDigits n = l := by
  constructor
  · intro h
    unfold wideO at h
    split at h
    · rename_i hc
      simp only [Bool.and_eq_true, decide_eq_true_eq] at hc
      injection h with h
      subst h
      exact ⟨hc.2, dq_same hc.1.1⟩
    · cases h
  · rintro ⟨hn, rfl⟩
    have := wideO_yes (dq_isDec n) (by rw [Lib.decDigits_length]; exact Lib.nDigits_le20 n hn) (by rw [(dq_reads n).2.1]; exact hn)
    rwa [(dq_reads n).2.1] at this
theorem DV_ge (acc : Nat) (l : List UInt8) : acc ≤ DV acc l := by
  rw [DV_acc]
  have : acc ≤ acc * 10 ^ l.length := Nat.le_mul_of_pos_right _ (Nat.pow_pos (by omega))
  omega
theorem pu10_ok : ∀ (l : List UInt8) (acc : Nat), l.all digB = true → DV acc l < 18446744073709551616 → Lib.parseUint10 acc l = .ok (DV acc l)
  | [], acc, _, _ => rfl
  | c :: r, acc, ha, hd => by
    rw [List.all_cons, Bool.and_eq_true] at ha
    have hc := ha.1
    unfold digB at hc
    simp only [Bool.and_eq_true, decide_eq_true_eq] at hc
    rw [DV_cons] at hd ⊢
    have hg := DV_ge (acc * 10 + (c.toNat - 48)) r
    unfold Lib.parseUint10
    rw [if_pos hc, if_neg (by omega), if_neg (by omega)]
    exact pu10_ok r _ ha.2 hd
theorem dec_ne (n : Nat) : Lib.decDigits n ≠ [] := fun h => by
  have h1 := Lib.decDigits_length n
  have h2 := Lib.nDigits_pos n
  rw [h] at h1
  simp at h1
  omega
theorem mag_ok {n : Nat} (hn : n < 18446744073709551616) : Lib.parseMag (Lib.decDigits n) = .ok n := by
  unfold Lib.parseMag
  rw [if_neg (dec_ne n)]
  have := pu10_ok (Lib.decDigits n) 0 (dq_reads n).1 (by rw [(dq_reads n).2.1]; exact hn)
  rwa [(dq_reads n).2.1] at this
theorem pu_ok {l : List UInt8} {n : Nat} (h : wideO l = some n) : Lib.parseUintB 64 l = .ok n := by
  obtain ⟨hn, rfl⟩ := wide_iff.1 h
  rw [Lib.parseUintB_64]
  exact mag_ok hn
theorem dec_head (n : Nat) : 48 ≤ ((Lib.decDigits n).headD 0).toNat ∧ ((Lib.decDigits n).headD 0).toNat ≤ 57 := by
  have h := (dq_reads n).1
  rcases hl : Lib.decDigits n with _ | ⟨b, r⟩
  · exact absurd hl (dec_ne n)
  · rw [hl, List.all_cons, Bool.and_eq_true] at h
    have hb := h.1
    unfold digB at hb
    simp only [Bool.and_eq_true, decide_eq_true_eq] at hb
    exact hb
theorem u8_45 {b : UInt8} : b = 45 ↔ b.toNat = 45 := ⟨fun h => by rw [h]; rfl, fun h => UInt8.toNat_inj.1 h⟩
theorem num_iff {l : List UInt8} {z : Int} : numO l = some z ↔ (-9223372036854775808 ≤ z ∧ z ≤ 9223372036854775807) ∧ Lib.itoa z = l := by
  constructor
  · intro h
    unfold numO at h
    split at h
    · rename_i hc
      split at h
      · rename_i n hw
        split at h
        · rename_i hr
          injection h with h
          subst h
          obtain ⟨_, hd⟩ := wide_iff.1 hw
          refine ⟨by omega, ?_⟩
          rw [Lib.itoa_neg n (by omega), hd]
          rcases l with _ | ⟨b, r⟩
          · exact absurd hc (by decide)
          · simp only [List.headD_cons] at hc
            rw [hc]
            rfl
        · cases h
      · cases h
    · split at h
      · rename_i n hw
        split at h
        · injection h with h
          subst h
          obtain ⟨_, hd⟩ := wide_iff.1 hw
          exact ⟨by omega, by rw [Lib.itoa_nonneg, hd]⟩
        · cases h
      · cases h
  · rintro ⟨⟨h0, h1⟩, rfl⟩
    rcases Int.lt_or_le z 0 with hz | hz
    · obtain ⟨n, rfl⟩ : ∃ n : Nat, z = -(n : Int) := ⟨z.natAbs, by omega⟩
      rw [Lib.itoa_neg n (by omega)]
      unfold numO
      rw [if_pos (show (45 :: Lib.decDigits n).headD 0 = 45 from rfl)]
      have hw : wideO ((45 :: Lib.decDigits n).drop 1) = some n := wide_iff.2 ⟨by omega, rfl⟩
      rw [hw]
      show (if 0 < n ∧ n ≤ 9223372036854775808 then some (-(n : Int)) else none) = _
      rw [if_pos (by omega)]
    · obtain ⟨n, rfl⟩ : ∃ n : Nat, z = (n : Int) := ⟨z.toNat, by omega⟩
      rw [Lib.itoa_nonneg]
      unfold numO
      have hh := dec_head n
      rw [if_neg (fun e => by have := u8_45.1 e; omega), wide_iff.2 ⟨by omega, rfl⟩]
      show (if n ≤ 9223372036854775807 then some (n : Int) else none) = _
      rw [if_pos (by omega)]
theorem atoi_of {l : List UInt8} {z : Int} (h : numO l = some z) : Lib.atoiAll l = .ok z := by
  obtain ⟨⟨h0, h1⟩, rfl⟩ := num_iff.1 h
  rcases Int.lt_or_le z 0 with hz | hz
  · obtain ⟨n, rfl⟩ : ∃ n : Nat, z = -(n : Int) := ⟨z.natAbs, by omega⟩
    rw [Lib.itoa_neg n (by omega), Lib.atoiAll_minus, mag_ok (by omega)]
    show (if 9223372036854775808 < n then _ else _) = _
    rw [if_neg (by omega)]
  · obtain ⟨n, rfl⟩ : ∃ n : Nat, z = (n : Int) := ⟨z.toNat, by omega⟩
    rw [Lib.itoa_nonneg]
    have hh := dec_head n
    have hm := mag_ok (n := n) (by omega)
    rcases hl : Lib.decDigits n with _ | ⟨b, r⟩
    · exact absurd hl (dec_ne n)
    · rw [hl] at hh hm
      simp only [List.headD_cons] at hh
      rw [Lib.atoiAll_plain b r (by omega) (by omega), hm]
      show (if 9223372036854775808 ≤ n then _ else _) = _
      rw [if_neg (by omega)]
end Go.Proofs.YtbhdibeiojeadaaDoor
