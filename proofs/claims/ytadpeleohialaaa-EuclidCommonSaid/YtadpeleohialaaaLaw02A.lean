/-
  For any words a, b, m: products and powers modulo m of package euclid are the document's. No conditions.
-/
import Derived.Test.YtadpeleohialaaaRows
import Derived.Test.YtadpeleohialaaaEucF
import Derived.Test.YtadpeleohialaaaRow
import Derived.ProofKit
import Derived.OpenShut
namespace Go.Proofs.Ytadpeleohialaaa
open Go.ChangeShapes Go.WideShapes Go.ChangeAt Go.RowKit

theorem below_one (w : World) (a : Obj) : Below w.heap.size w (w.alloc a) := (Below.refl _ _).alloc (Nat.le_refl _) _

set_option maxHeartbeats 800000 in
theorem alive02_any (w : World) : Calls Try.prog 6 #[] w fun e w' => e = .returned (.bool true) ∧ Below w.heap.size w w' := by
  have hz : Wds [12, 18] := Wds.of_all (by decide)
  have e1 : lcmR [12, 18] = (36, true) := by decide
  have e2 : gcds [12, 18] = 6 := by decide
  have e3 : gcds [] = 0 := by decide
  have hb0 := below_one w (.cells #[.int .u64 12, .int .u64 18] 23)
  go_enter Try.func6, Try.ntmps6
  go_wp2_with fail
  have h1 := lcm_any (some ⟨w.heap.size, 0, none⟩) [12, 18] 2 2 (w.alloc (.cells #[.int .u64 12, .int .u64 18] 23)) rfl (by decide) (Ru.lit w 23 [12, 18]) hz
  rw [e1] at h1
  refine h1.mono ?_
  rintro e w1 ⟨rfl, hb1⟩
  have hB1 := hb0.trans (hb1.mono hb0.size)
  clear h1 hb0 hb1
  go_wp2_with fail
  refine (inverse_any 3 7 _ (by decide)).mono ?_
  rintro e w2 ⟨i, ok, rfl, k1, k2, k3, hb2⟩
  obtain rfl : ok = true := by rw [k1.out]; decide
  obtain rfl : i = 5 := by have := k2.out rfl; omega
  have hB2 := hB1.trans (hb2.mono hB1.size)
  clear k1 k2 k3 hb2 hB1
  go_wp2_with fail
  refine (inverse_any 3 6 _ (by decide)).mono ?_
  rintro e w3 ⟨i, ok, rfl, k1, k2, k3, hb3⟩
  obtain rfl : ok = false := by rw [k1.out]; decide
  obtain rfl : i = 0 := k3.out rfl
  have hB3 := hB2.trans (hb3.mono hB2.size)
  have hB4 := hB3.alloc hB3.size (.cells #[.int .u64 12, .int .u64 18] 23)
  clear k1 k2 k3 hb3 hB2
  go_wp2_with fail
  have h2 := gcdl_any (some ⟨w3.heap.size, 0, none⟩) [12, 18] 2 2 (w3.alloc (.cells #[.int .u64 12, .int .u64 18] 23)) rfl (by decide) (Ru.lit w3 23 [12, 18]) hz
  rw [e2] at h2
  refine h2.mono ?_
  rintro e w4 ⟨rfl, hb4⟩
  have hB5 := hB4.trans (hb4.mono hB4.size)
  clear h2 hb4 hB3 hB4
  go_wp2_with fail
  have h3 := gcdl_any none [] 0 0 w4 rfl (by decide) (Ru.nil _ _) Wds.nil
  rw [e3] at h3
  refine h3.mono ?_
  rintro e w5 ⟨rfl, hb5⟩
  have hB6 := hB5.trans (hb5.mono hB5.size)
  clear h3 hb5 hB5
  go_wp2_with fail
  go_ret
  exact ⟨by simp, hB6⟩

set_option maxHeartbeats 800000 in
theorem euclidMods_zero (a b : Nat) (w : World) (ha : a < 18446744073709551616) (hb : b < 18446744073709551616) :
    Calls Try.prog 4 #[.int .u64 (a : Int), .int .u64 (b : Int), .int .u64 0] w fun e w' => e = .returned (.bool true) ∧ Below w.heap.size w w' := by
  go_enter Try.func4, Try.ntmps4
  go_wp2_with fail
  refine (mulmod_zero a b _ ha hb).mono ?_
  rintro e w1 ⟨rfl, hb1⟩
  go_wp2_with fail
  refine (powmod_zero a b _).mono ?_
  rintro e w2 ⟨rfl, hb2⟩
  have hB2 := hb1.trans (hb2.mono hb1.size)
  clear hb1 hb2
  go_wp2_with fail
  refine (alive02_any _).mono ?_
  rintro e w3 ⟨rfl, hb3⟩
  have hB3 := hB2.trans (hb3.mono hB2.size)
  go_wp2_with fail
  go_ret
  exact ⟨by simp, hB3⟩

set_option maxHeartbeats 800000 in
theorem euclidMods_walk (a b m : Nat) (w : World) (ha : a < 18446744073709551616) (hb : b < 18446744073709551616) (hm : m < 18446744073709551616) (h0 : 0 < m) :
    Calls Try.prog 4 #[.int .u64 (a : Int), .int .u64 (b : Int), .int .u64 (m : Int)] w fun e w' => e = .returned (.bool true) ∧ Below w.heap.size w w' := by
  have c1 := fun wz => mulmod_any a b m wz ha hb hm h0
  have c2 := fun wz => powmod_any a b m wz hb hm h0
  have c3 := fun wz => refMulmod_any a b m wz ha hb hm h0
  have c4 := fun wz => refPowmod_any a b m wz ha hb hm h0
  obtain ⟨x, hx⟩ : ∃ x, a * b % m = x := ⟨_, rfl⟩
  obtain ⟨y, hy⟩ : ∃ y, a ^ b % m = y := ⟨_, rfl⟩
  simp only [hx] at c1 c3
  simp only [hy] at c2 c4
  have hm0 : ((m : Int) == 0) = false := by simp; omega
  clear hx hy
  go_enter Try.func4, Try.ntmps4
  go_wp2_with fail
  refine (c1 _).mono ?_
  rintro e w1 ⟨rfl, hb1⟩
  clear c1
  go_wp2_with fail
  refine (c2 _).mono ?_
  rintro e w2 ⟨rfl, hb2⟩
  have hB2 := hb1.trans (hb2.mono hb1.size)
  clear hb1 hb2 c2
  go_wp2_with fail
  refine (c3 _).mono ?_
  rintro e w3 ⟨rfl, hb3⟩
  have hB3 := hB2.trans (hb3.mono hB2.size)
  clear hb3 c3 hB2
  go_wp2_with fail
  refine (c4 _).mono ?_
  rintro e w4 ⟨rfl, hb4⟩
  have hB4 := hB3.trans (hb4.mono hB3.size)
  clear hb4 c4 hB3
  go_wp2_with fail
  refine (alive02_any _).mono ?_
  rintro e w5 ⟨rfl, hb5⟩
  have hB5 := hB4.trans (hb5.mono hB4.size)
  go_wp2_with fail
  go_ret
  exact ⟨by simp, hB5⟩

set_option maxRecDepth 100000 in
theorem euclidMods_lifted (os : Os) (started : os.Started) (H : Type) (enc : TypeId × Value → H) :
    ReturnsInHanded {} Try.checked os 4 .any (Rows.euclidModsSpec.pre6 enc Try.prog Try.f4 Rows.euclidModsRow.domain false) (Rows.euclidModsSpec.post enc Try.prog Try.f4 false true false false) := by
  refine returnsInHanded_of_change (C := Try.checked) own_knob started (by kernel_rfl) Try.func4
    (ChangeSpec.witness6 (enc := enc) (C := Try.checked) false ⟨#[], #[.int .u64 0, .int .u64 0, .int .u64 0], []⟩ 8 (by kernel_rfl) (by kernel_rfl) (by kernel_rfl) (by kernel_rfl)) ?_
  intro W base args ds gs before hval0 hW hcnd _
  have hval : ∀ (j : Nat) t v, Try.f4.params[j]? = some t → args[j]? = some v → Value.okWide Try.prog W .any base t v := hval0
  have hW' : DataW.Whole enc Try.prog Try.f4.params.toList Rows.euclidModsSpec.vars false W args.toList ds gs before := hW
  obtain ⟨p, q, hA0, hV, hpq, hfz, hnd⟩ := hW
  have hA : DataW.TrodAll enc Try.prog W 0 (fun _ => true) true Try.f4.params.toList args.toList ds p := hA0
  rw [Try.params4] at hA hval
  obtain ⟨v0, vs0, d0, ds0, p0, q0, hargs, rfl, rfl, h0, r0⟩ := trodAll_cons hA
  obtain ⟨v1, vs1, d1, ds1, p1, q1, rfl, rfl, rfl, h1, r1⟩ := trodAll_cons r0
  obtain ⟨v2, vs2, d2, ds2, p2, q2, rfl, rfl, rfl, h2, r2⟩ := trodAll_cons r1
  obtain ⟨rfl, rfl, rfl⟩ := trodAll_nil r2
  obtain rfl : args = #[v0, v1, v2] := by cases args; simp_all
  obtain ⟨a, rfl, ha⟩ := open_u64 (hval 0 23 v0 rfl rfl) h0
  obtain ⟨b, rfl, hb⟩ := open_u64 (hval 1 23 v1 rfl rfl) h1
  obtain ⟨m, rfl, hm⟩ := open_u64 (hval 2 23 v2 rfl rfl) h2
  have hwalk : Calls Try.prog 4 #[.int .u64 (a : Int), .int .u64 (b : Int), .int .u64 (m : Int)] W fun e w' => e = .returned (.bool true) ∧ Below W.heap.size W w' := by
    rcases Nat.eq_zero_or_pos m with h | h
    · subst h; exact euclidMods_zero a b W ha hb
    · exact euclidMods_walk a b m W ha hb hm h
  refine hwalk.mono fun e W' ⟨he, hg⟩ => ?_
  subst he
  exact ⟨_, rfl, law_post laid_out (by kernel_rfl) Try.underlying4 (by kernel_rfl) rfl hW' rfl hg⟩

theorem euclidMods_over : Rows.euclidModsRow.holds Try.pinned (OpenSpec.ofChange Rows.euclidModsSpec) :=
  OpenClaim.holds_of_wide 4 Try.f4 rfl rfl rfl rfl rfl rfl rfl ⟨rfl, rfl, rfl, rfl, rfl⟩ rfl rfl rfl rfl rfl (by kernel_rfl) Try.func4 (by kernel_rfl)
    (of_decide_eq_true (by kernel_rfl)) (by unfold Func.isWrapper; first | (rw [if_pos (by decide +kernel)]; kernel_rfl) | (rw [if_neg (by decide +kernel)]; exact ⟨rfl, rfl⟩))
    (fun os started H enc _ => euclidMods_lifted os started H enc)

theorem euclidMods_holds : Rows.EuclidModsSaid :=
  euclidMods_over
end Go.Proofs.Ytadpeleohialaaa
