/-
  The text of any number, and the number of any text: the walk.
-/
import Derived.Test.YtnaofoahnjceiaaDoorLawTells
import Derived.Test.YtnaofoahnjceiaaDoorRefText
import Derived.Test.YtnaofoahnjceiaaDoorRefParse
namespace Go.Proofs.YtnaofoahnjceiaaDoor
open Go.RowKit
set_option maxRecDepth 100000

/-- What a text's number is, and its fault. -/
def pn (s : ByteArray) : Nat := if 4096 < s.size then 0 else if isDecB s.data.toList then DV 0 s.data.toList else 0
def pe (s : ByteArray) : Int := if 4096 < s.size then 5 else if isDecB s.data.toList then 0 else 3
theorem nv_nil (w : World) (L : Nat) : Nv w L (.slice none 0 0) 0 := ⟨none, [], 0, 0, rfl, rfl, Nat.le_refl _, Ra.nil _ _ _, fun h => absurd rfl h, Cn.nil, rfl⟩

theorem parse_all (s : ByteArray) (w : World) :
    Calls Tryd.prog 31 #[.string s] w fun e w' => ∃ v, e = .returned (.tuple #[v, .int .i64 (pe s)]) ∧ Nv w' w.heap.size v (pn s) ∧ Below w.heap.size w w' := by
  by_cases h : 4096 < s.size
  · rw [show pe s = 5 by unfold pe; rw [if_pos h], show pn s = 0 by unfold pn; rw [if_pos h]]
    exact (parse_many s h w).mono fun e w' ⟨h1, h2⟩ => ⟨_, h1, nv_nil _ _, by subst h2; exact Below.refl _ _⟩
  · cases hd : isDecB s.data.toList with
    | false =>
      rw [show pe s = 3 by unfold pe; rw [if_neg h, hd]; rfl, show pn s = 0 by unfold pn; rw [if_neg h, hd]; rfl]
      exact (parse_form s (by omega) hd w).mono fun e w' ⟨h1, h2⟩ => ⟨_, h1, nv_nil _ _, h2⟩
    | true =>
      rw [show pe s = 0 by unfold pe; rw [if_neg h, hd]; rfl, show pn s = DV 0 s.data.toList by unfold pn; rw [if_neg h, hd]; rfl]
      exact (parse_ok s (by omega) hd w).mono fun e w' ⟨A, n, c, zs, h1, h2, h3, _, h5, h6, h7⟩ => ⟨_, h1, by rw [← h6]; exact h2.nv h3 h5, h7⟩
theorem refParse_all (s : ByteArray) (w : World) : Calls Tryd.prog 32 #[.string s] w (RefParsed w (pn s) (pe s)) := by
  by_cases h : 4096 < s.size
  · rw [show pe s = 5 by unfold pe; rw [if_pos h], show pn s = 0 by unfold pn; rw [if_pos h]]
    exact refParse_many s h w
  · refine (refParse_any s (by omega) w).mono fun e w' h2 => ?_
    rcases h2 with ⟨hd, h2⟩ | ⟨hd, h2⟩
    · rw [show pe s = 0 by unfold pe; rw [if_neg h, hd]; rfl, show pn s = DV 0 s.data.toList by unfold pn; rw [if_neg h, hd]; rfl]
      exact h2
    · rw [show pe s = 3 by unfold pe; rw [if_neg h, hd]; rfl, show pn s = 0 by unfold pn; rw [if_neg h, hd]; rfl]
      exact h2
theorem pn_small (s : ByteArray) (h : s.size ≤ 300 ∨ 4096 < s.size) : ∃ K, K ≤ 5000 ∧ pn s < 65536 ^ K := by
  obtain ⟨K, hK, hK2⟩ : ∃ K, 300 ≤ K ∧ K ≤ 300 := ⟨300, by omega, by omega⟩
  have h0 : 0 < 65536 ^ K := Nat.pow_pos (by omega)
  refine ⟨K, by omega, ?_⟩
  unfold pn
  by_cases h1 : 4096 < s.size
  · rw [if_pos h1]; exact h0
  · rw [if_neg h1]
    cases hd : isDecB s.data.toList with
    | false => exact h0
    | true =>
      have hall : s.data.toList.all digB = true := by
        simp only [isDecB, Bool.and_eq_true] at hd
        exact hd.2
      have h2 := DV_lt _ hall
      rw [ba_len] at h2
      have h3 : (10 : Nat) ^ s.size ≤ 10 ^ K := Nat.pow_le_pow_right (by omega) (by omega)
      have h4 : (10 : Nat) ^ K ≤ 65536 ^ K := Nat.pow_le_pow_left (by omega) _
      simp only [if_true]
      omega
theorem dig_of {d : Nat} (h : d < 10) : digB (UInt8.ofNat (48 + d)) = true ∧ (UInt8.ofNat (48 + d)).toNat - 48 = d ∧ ((UInt8.ofNat (48 + d)).toNat = 48 → d = 0) := by
  have h1 : (UInt8.ofNat (48 + d)).toNat = 48 + d := by simp; omega
  refine ⟨?_, by omega, by omega⟩
  unfold digB
  rw [h1, decide_eq_true (by omega), decide_eq_true (by omega)]
  rfl
theorem dec_reads (u : Nat) : (Lib.decDigits u).all digB = true ∧ DV 0 (Lib.decDigits u) = u ∧ (0 < u → ((Lib.decDigits u).headD 0).toNat ≠ 48) := by
  induction u using Nat.strongRecOn with
  | ind u ih =>
    by_cases h : u < 10
    · obtain ⟨h1, h2, h3⟩ := dig_of h
      rw [Lib.decDigits_one h]
      refine ⟨by rw [List.all_cons, List.all_nil, h1]; rfl, by rw [DV_cons, DV_nil]; omega, fun hp => ?_⟩
      simp only [List.headD_cons]
      intro h4
      have := h3 h4
      omega
    · obtain ⟨i1, i2, i3⟩ := ih (u / 10) (by omega)
      obtain ⟨h1, h2, _⟩ := dig_of (d := u % 10) (by omega)
      rw [decDigits_step (by omega)]
      refine ⟨by rw [List.all_append, i1, List.all_cons, List.all_nil, h1]; rfl, by rw [DV_app, i2, DV_cons, DV_nil, h2]; omega, fun _ => ?_⟩
      have := i3 (by omega)
      rcases hl : Lib.decDigits (u / 10) with _ | ⟨b, r⟩
      · have h5 := Lib.decDigits_length (u / 10)
        have h6 := Lib.nDigits_pos (u / 10)
        rw [hl] at h5
        simp at h5
        omega
      · rw [hl] at this
        simpa using this
theorem dec_isDec (u : Nat) : isDecB (Lib.decDigits u) = true := by
  obtain ⟨h1, _, h3⟩ := dec_reads u
  have hp := Lib.decDigits_length u
  have hq := Lib.nDigits_pos u
  unfold isDecB
  rw [h1]
  rcases hl : Lib.decDigits u with _ | ⟨b, r⟩
  · rw [hl] at hp; simp at hp; omega
  · rcases Nat.eq_zero_or_pos u with rfl | h0
    · rw [Lib.decDigits_one (by omega)] at hl
      injection hl with e1 e2
      subst e1 e2
      rfl
    · have := h3 h0
      rw [hl] at this
      simp only [List.headD_cons] at this
      have hf : (((b :: r).headD 0).toNat == 48 && (b :: r).length != 1) = false := by
        simp only [List.headD_cons, Bool.and_eq_false_iff]
        exact .inl (beq_eq_false_iff_ne.2 this)
      rw [hf]
      rfl

set_option maxHeartbeats 4000000 in
theorem texts_long (A1 : Option Addr) (n1 c1 : Nat) (s : ByteArray) (w : World) (hlong : 20 < n1 ∨ (n1 ≤ 20 ∧ 300 < s.size ∧ s.size ≤ 4096) ∨ (n1 ≤ 20 ∧ 5000 < s.size)) (htab : Tab w) :
    Calls Tryd.prog 5 #[.slice A1 n1 c1, .string s] w fun e w' => e = .returned (.bool true) ∧ Below w.heap.size w w' := by
  rcases hlong with h | ⟨h, h2, h3⟩ | ⟨h, h2⟩
  all_goals
    go_enter Tryd.func5, Tryd.ntmps5
    go_wp2_with fail
    refine (alive3_any w htab).mono ?_
    rintro e w1 ⟨rfl, hb⟩
    go_wp2_with fail
    go_ret
    exact ⟨rfl, hb⟩

set_option maxHeartbeats 8000000 in
theorem texts_walk (A1 : Option Addr) (xs : List Nat) (n1 c1 : Nat) (s : ByteArray) (w : World) (hl1 : xs.length = n1) (hc1 : n1 ≤ c1) (hr1 : Ra w w.heap.size A1 xs) (hd1 : Dg xs) (h1 : n1 ≤ 20) (hs : s.size ≤ 300 ∨ 4096 < s.size) (hs2 : s.size ≤ 5000) (htab : Tab w) :
    Calls Tryd.prog 5 #[.slice A1 n1 c1, .string s] w fun e w' => e = .returned (.bool true) ∧ Below w.heap.size w w' := by
  have HL1 := Lib.hid hl1
  have px : U xs < 65536 ^ (2 * 20) := U_small16 hd1 (by omega)
  obtain ⟨K, hK, hps⟩ := pn_small s hs
  have PS := Lib.hid hps
  obtain ⟨v, hv⟩ : ∃ v, pn s = v := ⟨_, rfl⟩
  obtain ⟨er, her⟩ : ∃ er, pe s = er := ⟨_, rfl⟩
  have hp1 := fun wz => parse_all s wz
  have hp2 := fun wz => refParse_all s wz
  rw [hv] at PS
  simp only [hv, her] at hp1 hp2
  have hsm : (Lib.decDigits (U xs)).length ≤ 10 * 20 + 1 := decDigits_len (Nat.lt_of_lt_of_le (dec_small hd1 hl1) (Nat.pow_le_pow_right (by omega) (by omega)))
  obtain ⟨T, hT⟩ : ∃ T, Lib.decDigits (U xs) = T := ⟨_, rfl⟩
  have hTd : isDecB T = true := by rw [← hT]; exact dec_isDec _
  have hTv : DV 0 T = U xs := by rw [← hT]; exact (dec_reads _).2.1
  rw [hT] at hsm
  have hp3 := fun wz => parse_ok ⟨T.toArray⟩ (by simp [ByteArray.size]; omega) (by simpa using hTd) wz
  simp only [hTv] at hp3
  have HT := Lib.hid hT
  clear hl1 hv her hT hTd hTv hps
  rcases hs with hs | hs
  all_goals
    go_enter Tryd.func5, Tryd.ntmps5
    go_wp2_with fail
    refine (text_any A1 xs n1 c1 w HL1.out hr1 hd1 (by omega) hc1 htab).mono ?_
    rintro e w1 ⟨rfl, hb1⟩
    rw [HT.out]
    have hra := (hr1.below hb1 (Nat.le_refl _)).more hb1.size
    go_wp2_with fail
    refine (hp3 w1).mono ?_
    rintro e w2 ⟨B1, m1, k1, zs, rfl, how, hk1, hm1, hcn, hU, hb2⟩
    have HOW := Lib.hid how
    have HCN := Lib.hid hcn
    have HU := Lib.hid hU
    have hB2 := hb1.trans (hb2.mono hb1.size)
    have hra := (hra.below hb2 (Nat.le_refl _)).more hb2.size
    clear how hcn hU
    go_wp2_with fail
    refine (hp1 w2).mono ?_
    rintro e w3 ⟨v3, rfl, hn3, hb3⟩
    have HV3 := Lib.hid hn3
    have HOW := Lib.hid (HOW.out.below hb3)
    have hB3 := hB2.trans (hb3.mono hB2.size)
    have hra := (hra.below hb3 (Nat.le_refl _)).more hb3.size
    clear hn3
    go_wp2_with fail
    refine (hp2 w3).mono ?_
    rintro e w4 ⟨s4, rfl, ⟨L4, hn4⟩, hb4⟩
    obtain ⟨A4, n4, c4, hs4⟩ := hn4.shape
    obtain rfl : s4 = .slice A4 n4 c4 := by simpa using hs4
    have hb5 := below1n w4 (.cells #[.slice A4 n4 c4] 28)
    have HN4 := Lib.hid (hn4.below hb5)
    have cx5 : (w4.alloc (.cells #[.slice A4 n4 c4] 28)).cell? ⟨w4.heap.size, 0, none⟩ = some (.slice A4 n4 c4) := (Blk.new w4 _ _).cell 0
    have HV3 := Lib.hid ((HV3.out.below hb4).below hb5)
    have HOW := Lib.hid ((HOW.out.below hb4).below hb5)
    have hB4 := hB3.trans (hb4.mono hB3.size)
    have hB5 := hB4.trans (hb5.mono hB4.size)
    have hra := (hra.below hb4 (Nat.le_refl _)).more hb4.size
    have hra := (hra.below hb5 (Nat.le_refl _)).more hb5.size
    clear hn4 hs4 hp1 hp2 hp3
    go_wp2_with fail
    refine (in_any A1 xs n1 c1 _ HL1.out hra hd1 (by omega)).mono ?_
    rintro e w6 ⟨v6, rfl, hn6, hb6⟩
    obtain ⟨A6, n6, c6, rfl⟩ := hn6.shape
    have HN6 := Lib.hid hn6
    have HN4 := Lib.hid (HN4.out.below hb6)
    have HV3 := Lib.hid (HV3.out.below hb6)
    have HOW := Lib.hid (HOW.out.below hb6)
    have hB6 := hB5.trans (hb6.mono hB5.size)
    have hra := (hra.below hb6 (Nat.le_refl _)).more hb6.size
    have cx6 := (hb6.cell (World.block_lt_of_cell? _ _ cx5)).trans cx5
    clear hn6
    go_wp2_with fail
    refine (refText_any _ (U xs) _ w6 HN6.out px (by omega)).mono ?_
    rintro e w7 ⟨rfl, hb7⟩
    rw [HT.out]
    have HN4 := Lib.hid (HN4.out.below hb7)
    have HV3 := Lib.hid (HV3.out.below hb7)
    have HOW := Lib.hid (HOW.out.below hb7)
    have hB7 := hB6.trans (hb7.mono hB6.size)
    have hra := (hra.below hb7 (Nat.le_refl _)).more hb7.size
    have cx7 := (hb7.cell (World.block_lt_of_cell? _ _ cx6)).trans cx6
    go_wp2_with fail
    refine (natCut_own A1 xs n1 c1 _ HL1.out hra hd1 (by omega) hc1).mono ?_
    rintro e w8 ⟨m, hm, hcn, hUt, v8, rfl, how, hb8⟩
    generalize List.take m xs = zs8 at hcn hUt how
    obtain ⟨A8, c8, rfl, hc8⟩ := how.form
    have heq : zs = zs8 := U_inj HCN.out hcn (by rw [HU.out, hUt])
    have HEQ := Lib.hid heq
    have HOW8 := Lib.hid how
    have HN4 := Lib.hid (HN4.out.below hb8)
    have HV3 := Lib.hid (HV3.out.below hb8)
    have HOW := Lib.hid (HOW.out.below hb8)
    have hB8 := hB7.trans (hb8.mono hB7.size)
    have cx8 := (hb8.cell (World.block_lt_of_cell? _ _ cx7)).trans cx7
    clear how hcn hUt heq
    go_wp2_with fail
    refine (same_any B1 A8 zs zs8 m1 k1 zs8.length c8 w8 HOW.out.len rfl HOW.out.reads.1 HOW8.out.reads.1 (by omega)).mono ?_
    rintro e w9 ⟨rfl, hb9⟩
    rw [decide_eq_true HEQ.out]
    have HN4 := Lib.hid (HN4.out.below hb9)
    have HV3 := Lib.hid (HV3.out.below hb9)
    have hB9 := hB8.trans (hb9.mono hB8.size)
    have cx9 := (hb9.cell (World.block_lt_of_cell? _ _ cx8)).trans cx8
    go_wp2_with fail
    refine (is_yes v3 (.agg #[.slice A4 n4 c4]) v _ _ w9 HV3.out HN4.out PS.out).mono ?_
    rintro e w10 ⟨rfl, hb10⟩
    have hB10 := hB9.trans (hb10.mono hB9.size)
    go_wp2_with fail
    refine (alive3_any w10 (htab.below hB10)).mono ?_
    rintro e w11 ⟨rfl, hb11⟩
    have hB11 := hB10.trans (hb11.mono hB10.size)
    go_wp2_with fail
    go_ret
    exact ⟨rfl, hB11⟩
end Go.Proofs.YtnaofoahnjceiaaDoor
