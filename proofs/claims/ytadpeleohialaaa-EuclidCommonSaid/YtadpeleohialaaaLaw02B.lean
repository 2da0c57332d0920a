/-
  For any words a, m: what has an inverse modulo m is made 1 by it, and has nothing in common with m; all others have none; the Gcd times the Lcm of two is their product. No conditions.
-/
import Derived.Test.YtadpeleohialaaaLaw02A
import Derived.Deep.DeepCutAuto
import Derived.Deep.CutBlock
namespace Go.Proofs.Ytadpeleohialaaa
open Go.ChangeShapes Go.WideShapes Go.ChangeAt Go.RowKit

theorem gcds_two (a m : Nat) : gcds [a, m] = Nat.gcd a m := by simp [gcds]
theorem lcm_two {a m : Nat} (ha : a < 18446744073709551616) : ∃ n fits, lcmR [a, m] = (n, fits) ∧
    ((fits = false ∨ a = 0 ∨ m = 0) ∨ (fits = true ∧ a ≠ 0 ∧ m ≠ 0 ∧ n < 18446744073709551616 ∧ n * Nat.gcd a m = a * m)) := by
  by_cases h0 : hasW [a, m] 0 = true
  · refine ⟨0, true, by rw [lcmR, if_pos h0], .inl (.inr ?_)⟩
    simp [hasW] at h0
    omega
  · have h1 : a ≠ 0 ∧ m ≠ 0 := by simp [hasW] at h0; omega
    have e : lcmR [a, m] = lcmF [m] a := by
      rw [lcmR, if_neg h0, lcmF, Nat.gcd_one_left, Nat.div_one, Nat.one_mul, if_pos ha]
    rw [e, lcmF]
    by_cases hf : a * (m / Nat.gcd a m) < 18446744073709551616
    · rw [if_pos hf, lcmF]
      exact ⟨_, _, rfl, .inr ⟨rfl, h1.1, h1.2, hf, by rw [Nat.mul_assoc, Nat.div_mul_cancel (Nat.gcd_dvd_right a m)]⟩⟩
    · rw [if_neg hf]
      exact ⟨_, _, rfl, .inl (.inl rfl)⟩

theorem pow_prod100 {a b : Nat} (ha : a < 18446744073709551616) (hb : b < 18446744073709551616) : a * b < 65536 ^ 100 :=
  Nat.lt_of_lt_of_le (pow_prod90 ha hb) (Nat.pow_le_pow_right (by omega) (by omega))

set_option maxRecDepth 100000 in
set_option maxHeartbeats 3200000 in
theorem euclidInverse_all (a m : Nat) (ha : a < 18446744073709551616) (hm : m < 18446744073709551616) (w : World) :
    Calls Try.prog 5 #[.int .u64 (a : Int), .int .u64 (m : Int)] w fun e w' => e = .returned (.bool true) ∧ Below w.heap.size w w' := by
  have hwz : Wds [a, m] := Wds.of_all (by simp; omega)
  obtain ⟨n, fits, hL, hcase⟩ := lcm_two (m := m) ha
  have HL := Lib.hid hL
  have HCASE := Lib.hid hcase
  have HG2 := Lib.hid (gcds_two a m)
  clear hL hcase
  have hgl : Nat.gcd a m < 18446744073709551616 := gcd_lt ha hm
  obtain ⟨g, hg⟩ : ∃ g, Nat.gcd a m = g := ⟨_, rfl⟩
  rw [hg] at hgl
  have HG := Lib.hid hg
  clear hg
  go_enter Try.func5, Try.ntmps5
  go_wp2_with fail
  refine (inverse_any a m _ hm).mono ?_
  rintro e w1 ⟨i, ok, rfl, k1, k2, k3, hb1⟩
  have hcases : (m < 2 ∧ ok = false ∧ i = 0) ∨ (2 ≤ m ∧ g = 1 ∧ ok = true) ∨ (2 ≤ m ∧ g ≠ 1 ∧ ok = false ∧ i = 0) := by
    have e1 := k1.out
    by_cases h2 : 2 ≤ m
    · by_cases h3 : g = 1
      · exact .inr (.inl ⟨h2, h3, by rw [e1, decide_eq_true_eq]; exact ⟨h2, by rw [HG.out]; exact h3⟩⟩)
      · have : ok = false := by rw [e1, decide_eq_false_iff_not]; exact fun h => h3 (by rw [← HG.out]; exact h.2)
        exact .inr (.inr ⟨h2, h3, this, k3.out this⟩)
    · have : ok = false := by rw [e1, decide_eq_false_iff_not]; exact fun h => h2 h.1
      exact .inl ⟨by omega, this, k3.out this⟩
  have hc := HCASE.out
  clear HCASE k1
  go_upto_region 2 with (fail)
  go_cut [47] (fun y wx => y = .bool false ∧ Below w.heap.size w wx)
  case first =>
    clear hc
    rcases hcases with ⟨h2, rfl, rfl⟩ | ⟨h2, hg1, rfl⟩ | ⟨h2, hg1, rfl, rfl⟩
    · have h2' : ¬ (2 : Int) ≤ (m : Int) := by omega
      clear k2 k3
      go_wp2_with fail
      go_meet
      exact ⟨rfl, hb1⟩
    · have h2' : (2 : Int) ≤ (m : Int) := by omega
      have hk := k2.out rfl
      have c3 := fun wz => refMulmod_any a i m wz ha (by omega) hm (by omega)
      simp only [hk.2] at c3
      have him : i < m := hk.1
      have him' : ¬ (m : Int) ≤ (i : Int) := by omega
      clear k2 k3 hk
      go_wp2_with fail
      refine (refGcd_any a m _ ha hm).mono ?_
      rintro e w2 ⟨rfl, hb2⟩
      rw [HG.out, hg1]
      have hB2 := hb1.trans (hb2.mono hb1.size)
      clear hb1 hb2
      go_wp2_with fail
      refine (c3 _).mono ?_
      rintro e w3 ⟨rfl, hb3⟩
      have hB := hB2.trans (hb3.mono hB2.size)
      clear hB2 hb3 c3
      go_wp2_with fail
      go_meet
      exact ⟨rfl, hB⟩
    · have h2' : (2 : Int) ≤ (m : Int) := by omega
      have hg2 : ((g : Int) == 1) = false := by simp; omega
      clear k2 k3
      go_wp2_with fail
      refine (refGcd_any a m _ ha hm).mono ?_
      rintro e w2 ⟨rfl, hb2⟩
      rw [HG.out]
      have hB := hb1.trans (hb2.mono hb1.size)
      clear hb1 hb2
      go_wp2_with fail
      go_meet
      exact ⟨rfl, hB⟩
  case rest =>
    obtain ⟨rfl, hB⟩ := hcut
    clear hcases k2 k3 hb1
    go_wp2_with fail
    refine (lcm_any _ [a, m] 2 2 _ rfl (by decide) (Ru.lit _ _ [a, m]) hwz).mono ?_
    rintro e w4 ⟨rfl, hb4⟩
    rw [HL.out]
    have hB4 := (hB.alloc hB.size _).trans (hb4.mono (by have := hB.size; simp; omega))
    clear hb4 hB
    rcases hc with hc | ⟨rfl, ha0, hm0, hn, hprod⟩
    · have hc3 : fits = false ∨ (fits = true ∧ a = 0) ∨ (fits = true ∧ a ≠ 0 ∧ m = 0) := by
        rcases fits with _ | _
        · exact .inl rfl
        · by_cases h : a = 0
          · exact .inr (.inl ⟨rfl, h⟩)
          · exact .inr (.inr ⟨rfl, h, (hc.resolve_left (by simp)).resolve_left h⟩)
      have HA0 : Hid (((a : Int) == 0) = decide (a = 0)) := Lib.hid (by by_cases h : a = 0 <;> simp [h])
      have HM0 : Hid (((m : Int) == 0) = decide (m = 0)) := Lib.hid (by by_cases h : m = 0 <;> simp [h])
      rcases hc3 with rfl | ⟨rfl, hz⟩ | ⟨rfl, hz, hz2⟩
      · go_wp2_with fail
        refine (alive02_any _).mono ?_
        rintro e w5 ⟨rfl, hb5⟩
        have hB5 := hB4.trans (hb5.mono hB4.size)
        go_wp2_with fail
        go_ret
        exact ⟨rfl, hB5⟩
      · have hz1 : ((a : Int) == 0) = true := by rw [HA0.out]; simpa using hz
        go_wp2_with fail
        refine (alive02_any _).mono ?_
        rintro e w5 ⟨rfl, hb5⟩
        have hB5 := hB4.trans (hb5.mono hB4.size)
        go_wp2_with fail
        go_ret
        exact ⟨rfl, hB5⟩
      · have hz1 : ((a : Int) == 0) = false := by rw [HA0.out]; simpa using hz
        have hz3 : ((m : Int) == 0) = true := by rw [HM0.out]; simpa using hz2
        go_wp2_with fail
        refine (alive02_any _).mono ?_
        rintro e w5 ⟨rfl, hb5⟩
        have hB5 := hB4.trans (hb5.mono hB4.size)
        go_wp2_with fail
        go_ret
        exact ⟨rfl, hB5⟩
    · have hz1 : ((a : Int) == 0) = false := by simp; omega
      have hz3 : ((m : Int) == 0) = false := by simp; omega
      have HP := Lib.hid hprod
      clear hprod
      go_wp2_with fail
      refine (of_any n _ hn).mono ?_
      rintro e w5 ⟨v5, rfl, hn5, hb5⟩
      have N5 := Lib.hid hn5
      have hB5 := hB4.trans (hb5.mono hB4.size)
      clear hn5 hb5 hB4
      go_wp2_with fail
      refine (gcdl_any _ [a, m] 2 2 _ rfl (by decide) (Ru.lit _ _ [a, m]) hwz).mono ?_
      rintro e w6 ⟨rfl, hb6⟩
      rw [HG2.out, HG.out]
      have N5b := Lib.hid ((N5.out.alloc _).below hb6)
      have hB6 := (hB5.alloc hB5.size _).trans (hb6.mono (by have := hB5.size; simp; omega))
      clear hb6 hB5 N5
      go_wp2_with fail
      refine (of_any g _ hgl).mono ?_
      rintro e w7 ⟨v7, rfl, hn7, hb7⟩
      have N7 := Lib.hid hn7
      have N5c := Lib.hid (N5b.out.below hb7)
      have hB7 := hB6.trans (hb7.mono hB6.size)
      clear hn7 hb7 hB6 N5b
      go_wp2_with fail
      refine (mul_num v5 v7 n g _ _ _ N5c.out N7.out (pow_word hn) (pow_word hgl)).mono ?_
      rintro e w8 ⟨v8, rfl, hn8, hb8⟩
      have N8 := Lib.hid hn8
      have hB8 := hB7.trans (hb8.mono hB7.size)
      clear hn8 hb8 hB7 N5c N7
      go_wp2_with fail
      refine (of_any a _ ha).mono ?_
      rintro e w9 ⟨v9, rfl, hn9, hb9⟩
      have N9 := Lib.hid hn9
      have N8b := Lib.hid (N8.out.below hb9)
      have hB9 := hB8.trans (hb9.mono hB8.size)
      clear hn9 hb9 hB8 N8
      go_wp2_with fail
      refine (of_any m _ hm).mono ?_
      rintro e u1 ⟨v10, rfl, hn10, hb10⟩
      have N10 := Lib.hid hn10
      have N9b := Lib.hid (N9.out.below hb10)
      have N8c := Lib.hid (N8b.out.below hb10)
      have hB10 := hB9.trans (hb10.mono hB9.size)
      clear hn10 hb10 hB9 N9 N8b
      go_wp2_with fail
      refine (mul_num v9 v10 a m _ _ _ N9b.out N10.out (pow_word ha) (pow_word hm)).mono ?_
      rintro e u2 ⟨v11, rfl, hn11, hb11⟩
      have N11 := Lib.hid hn11
      have N8d := Lib.hid (N8c.out.below hb11)
      have hB11 := hB10.trans (hb11.mono hB10.size)
      clear hn11 hb11 hB10 N9b N10 N8c
      go_wp2_with fail
      refine (cmp_same v8 v11 (n * g) (a * m) _ _ _ N8d.out N11.out (pow_prod100 ha hm) (by have := HP.out; rw [HG.out] at this; exact this)).mono ?_
      rintro e u3 ⟨rfl, hb12⟩
      have hB12 := hB11.trans (hb12.mono hB11.size)
      clear hb12 hB11 N8d N11
      go_wp2_with fail
      refine (alive02_any _).mono ?_
      rintro e u4 ⟨rfl, hb13⟩
      have hB13 := hB12.trans (hb13.mono hB12.size)
      go_wp2_with fail
      go_ret
      exact ⟨rfl, hB13⟩

set_option maxRecDepth 100000 in
theorem euclidInverse_lifted (os : Os) (started : os.Started) (H : Type) (enc : TypeId × Value → H) :
    ReturnsInHanded {} Try.checked os 5 .any (Rows.euclidInverseSpec.pre6 enc Try.prog Try.f5 Rows.euclidInverseRow.domain false) (Rows.euclidInverseSpec.post enc Try.prog Try.f5 false true false false) := by
  refine returnsInHanded_of_change (C := Try.checked) own_knob started (by kernel_rfl) Try.func5
    (ChangeSpec.witness6 (enc := enc) (C := Try.checked) false ⟨#[], #[.int .u64 0, .int .u64 0], []⟩ 8 (by kernel_rfl) (by kernel_rfl) (by kernel_rfl) (by kernel_rfl)) ?_
  intro W base args ds gs before hval0 hW hcnd _
  have hval : ∀ (j : Nat) t v, Try.f5.params[j]? = some t → args[j]? = some v → Value.okWide Try.prog W .any base t v := hval0
  have hW' : DataW.Whole enc Try.prog Try.f5.params.toList Rows.euclidInverseSpec.vars false W args.toList ds gs before := hW
  obtain ⟨p, q, hA0, hV, hpq, hfz, hnd⟩ := hW
  have hA : DataW.TrodAll enc Try.prog W 0 (fun _ => true) true Try.f5.params.toList args.toList ds p := hA0
  rw [Try.params5] at hA hval
  obtain ⟨v0, vs0, d0, ds0, p0, q0, hargs, rfl, rfl, t0, r0⟩ := trodAll_cons hA
  obtain ⟨v1, vs1, d1, ds1, p1, q1, rfl, rfl, rfl, t1, r1⟩ := trodAll_cons r0
  obtain ⟨rfl, rfl, rfl⟩ := trodAll_nil r1
  obtain rfl : args = #[v0, v1] := by cases args; simp_all
  obtain ⟨a0, rfl, h0⟩ := open_u64 (hval 0 23 v0 rfl rfl) t0
  obtain ⟨a1, rfl, h1⟩ := open_u64 (hval 1 23 v1 rfl rfl) t1
  have hwalk : Calls Try.prog 5 #[.int .u64 (a0 : Int), .int .u64 (a1 : Int)] W fun e w' => e = .returned (.bool true) ∧ Below W.heap.size W w' := euclidInverse_all a0 a1 h0 h1 W
  refine hwalk.mono fun e W' ⟨he, hg⟩ => ?_
  subst he
  exact ⟨_, rfl, law_post laid_out (by kernel_rfl) Try.underlying4 (by kernel_rfl) rfl hW' rfl hg⟩

theorem euclidInverse_over : Rows.euclidInverseRow.holds Try.pinned (OpenSpec.ofChange Rows.euclidInverseSpec) :=
  OpenClaim.holds_of_wide 5 Try.f5 rfl rfl rfl rfl rfl rfl rfl ⟨rfl, rfl, rfl, rfl, rfl⟩ rfl rfl rfl rfl rfl (by kernel_rfl) Try.func5 (by kernel_rfl)
    (of_decide_eq_true (by kernel_rfl)) (by unfold Func.isWrapper; first | (rw [if_pos (by decide +kernel)]; kernel_rfl) | (rw [if_neg (by decide +kernel)]; exact ⟨rfl, rfl⟩))
    (fun os started H enc _ => euclidInverse_lifted os started H enc)

theorem euclidInverse_holds : Rows.EuclidInverseSaid :=
  euclidInverse_over
end Go.Proofs.Ytadpeleohialaaa
