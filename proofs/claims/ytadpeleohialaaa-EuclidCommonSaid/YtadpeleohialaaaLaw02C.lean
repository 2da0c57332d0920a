/-
  For any words l, a, b: what l have in common, the least that all of l divide, and a and b reduced, are the document's. No conditions.
-/
import Derived.Test.YtadpeleohialaaaLaw02B
namespace Go.Proofs.Ytadpeleohialaaa
open Go.ChangeShapes Go.WideShapes Go.ChangeAt Go.RowKit

set_option maxHeartbeats 800000 in
theorem euclidCommon_long (A : Option Addr) (n c a b : Nat) (w : World) (hn : 50 < n) :
    Calls Try.prog 3 #[.slice A n c, .int .u64 (a : Int), .int .u64 (b : Int)] w fun e w' => e = .returned (.bool true) ∧ Below w.heap.size w w' := by
  have hn' : (50 : Int) < (n : Int) := by omega
  go_enter Try.func3, Try.ntmps3
  go_wp2_with fail
  refine (alive02_any _).mono ?_
  rintro e w1 ⟨rfl, hb1⟩
  go_wp2_with fail
  go_ret
  exact ⟨rfl, hb1⟩

set_option maxHeartbeats 1600000 in
theorem euclidCommon_short (A : Option Addr) (n c : Nat) (xs : List Nat) (a b : Nat) (w : World) (hl : xs.length = n) (hr : Ru w A xs) (hw : Wds xs) (hn : n ≤ 50) (ha : a < 18446744073709551616) (hb : b < 18446744073709551616) :
    Calls Try.prog 3 #[.slice A n c, .int .u64 (a : Int), .int .u64 (b : Int)] w fun e w' => e = .returned (.bool true) ∧ Below w.heap.size w w' := by
  have hn' : ¬ (50 : Int) < (n : Int) := by omega
  have c1 := fun wz hr => lcm_any A xs n c wz hl (by omega) hr hw
  have c2 := fun wz hr => refLcm_any A xs n c wz hl (by omega) hr hw
  have c3 := fun wz => reduce_any a b wz ha hb
  have c4 := fun wz => refGcd_any a b wz ha hb
  have c5 := fun wz hr => gcdl_any A xs n c wz hl (by omega) hr hw
  have c6 := fun wz hr => refAll_any A xs n c wz hl (by omega) hr hw
  obtain ⟨q, f, hR⟩ : ∃ q f, lcmR xs = (q, f) := ⟨_, _, rfl⟩
  obtain ⟨gl, hgl⟩ : ∃ g, gcds xs = g := ⟨_, rfl⟩
  obtain ⟨g, hg⟩ : ∃ g, Nat.gcd a b = g := ⟨_, rfl⟩
  simp only [hR] at c1 c2
  simp only [hgl] at c5 c6
  simp only [hg] at c3 c4
  have HG := Lib.hid hg
  have hqa : a / g ≤ a := Nat.div_le_self _ _
  have hqb : b / g ≤ b := Nat.div_le_self _ _
  have e1 : IntKind.u64.wrap ((a : Int) / (g : Int)) = ((a / g : Nat) : Int) := by rw [show (a : Int) / (g : Int) = ((a / g : Nat) : Int) by simp, u64_in _ (by omega)]
  have e2 : IntKind.u64.wrap ((b : Int) / (g : Int)) = ((b / g : Nat) : Int) := by rw [show (b : Int) / (g : Int) = ((b / g : Nat) : Int) by simp, u64_in _ (by omega)]
  have HZ : Hid (g = 0 → a / g = 0 ∧ b / g = 0) := Lib.hid (fun h => by subst h; simp)
  obtain ⟨qa, hqa0⟩ : ∃ x, a / g = x := ⟨_, rfl⟩
  obtain ⟨qb, hqb0⟩ : ∃ x, b / g = x := ⟨_, rfl⟩
  simp only [hqa0, hqb0] at c3 e1 e2 HZ
  clear hR hgl hg hl hqa hqb hqa0 hqb0
  go_enter Try.func3, Try.ntmps3
  go_wp2_with fail
  refine (c1 _ hr).mono ?_
  rintro e w1 ⟨rfl, hb1⟩
  clear c1
  go_wp2_with fail
  refine (c2 _ (hr.below hb1)).mono ?_
  rintro e w2 ⟨rfl, hb2⟩
  have hB2 := hb1.trans (hb2.mono hb1.size)
  clear c2 hb1 hb2
  go_wp2_with fail
  refine (c3 _).mono ?_
  rintro e w3 ⟨rfl, hb3⟩
  have hB3 := hB2.trans (hb3.mono hB2.size)
  clear c3 hB2 hb3
  go_wp2_with fail
  refine (c4 _).mono ?_
  rintro e w4 ⟨rfl, hb4⟩
  have hB4 := hB3.trans (hb4.mono hB3.size)
  clear c4 hB3 hb4
  by_cases hg0 : g = 0
  · subst hg0
    obtain ⟨rfl, rfl⟩ := HZ.out rfl
    clear e1 e2
    go_wp2_with fail
    refine (alive02_any _).mono ?_
    rintro e w5 ⟨rfl, hb5⟩
    have hB5 := hB4.trans (hb5.mono hB4.size)
    go_wp2_with fail
    go_ret
    exact ⟨rfl, hB5⟩
  · have hg1 : ((g : Int) == 0) = false := by simp; omega
    have hg2 : ¬ (g : Int) = 0 := by omega
    clear HZ
    go_wp2_with fail
    refine (c5 _ (hr.below hB4)).mono ?_
    rintro e w5 ⟨rfl, hb5⟩
    have hB5 := hB4.trans (hb5.mono hB4.size)
    clear c5 hB4 hb5
    go_wp2_with fail
    refine (c6 _ (hr.below hB5)).mono ?_
    rintro e w6 ⟨rfl, hb6⟩
    have hB6 := hB5.trans (hb6.mono hB5.size)
    clear c6 hB5 hb6
    go_wp2_with fail
    refine (alive02_any _).mono ?_
    rintro e w7 ⟨rfl, hb7⟩
    have hB7 := hB6.trans (hb7.mono hB6.size)
    go_wp2_with fail
    go_ret
    exact ⟨rfl, hB7⟩

theorem euclidCommon_all (w : World) (A : Option Addr) (n c : Nat) (xs : List Nat) (a b : Nat) (hl : xs.length = n) (hr : Ru w A xs) (hw : Wds xs) (_ : n ≤ maxLen) (ha : a < 18446744073709551616) (hb : b < 18446744073709551616) :
    Calls Try.prog 3 #[.slice A n c, .int .u64 (a : Int), .int .u64 (b : Int)] w fun e w' => e = .returned (.bool true) ∧ Below w.heap.size w w' := by
  rcases Nat.lt_or_ge 50 n with h | h
  · exact euclidCommon_long A n c a b w h
  · exact euclidCommon_short A n c xs a b w hl hr hw h ha hb

set_option maxRecDepth 100000 in
theorem euclidCommon_lifted (os : Os) (started : os.Started) (H : Type) (enc : TypeId × Value → H) :
    ReturnsInHanded {} Try.checked os 3 .any (Rows.euclidCommonSpec.pre6 enc Try.prog Try.f3 Rows.euclidCommonRow.domain false) (Rows.euclidCommonSpec.post enc Try.prog Try.f3 false true false false) := by
  refine returnsInHanded_of_change (C := Try.checked) own_knob started (by kernel_rfl) Try.func3
    (ChangeSpec.witness6 (enc := enc) (C := Try.checked) false ⟨#[], #[.slice none 0 0, .int .u64 0, .int .u64 0], []⟩ 8 (by kernel_rfl) (by kernel_rfl) (by kernel_rfl) (by kernel_rfl)) ?_
  intro W base args ds gs before hval0 hW hcnd _
  have hval : ∀ (j : Nat) t v, Try.f3.params[j]? = some t → args[j]? = some v → Value.okWide Try.prog W .any base t v := hval0
  have hW' : DataW.Whole enc Try.prog Try.f3.params.toList Rows.euclidCommonSpec.vars false W args.toList ds gs before := hW
  obtain ⟨p, q, hA0, hV, hpq, hfz, hnd⟩ := hW
  have hA : DataW.TrodAll enc Try.prog W 0 (fun _ => true) true Try.f3.params.toList args.toList ds p := hA0
  rw [Try.params3] at hA hval
  obtain ⟨v0, vs0, d0, ds0, p0, q0, hargs, rfl, rfl, t0, r0⟩ := trodAll_cons hA
  obtain ⟨v1, vs1, d1, ds1, p1, q1, rfl, rfl, rfl, t1, r1⟩ := trodAll_cons r0
  obtain ⟨v2, vs2, d2, ds2, p2, q2, rfl, rfl, rfl, t2, r2⟩ := trodAll_cons r1
  obtain ⟨rfl, rfl, rfl⟩ := trodAll_nil r2
  obtain rfl : args = #[v0, v1, v2] := by cases args; simp_all
  obtain ⟨A0, n0, c0, xs0, rfl, h0, k0, m0, l0⟩ := open_u64s (hval 0 22 v0 rfl rfl) t0
  obtain ⟨a1, rfl, h1⟩ := open_u64 (hval 1 23 v1 rfl rfl) t1
  obtain ⟨a2, rfl, h2⟩ := open_u64 (hval 2 23 v2 rfl rfl) t2
  have hwalk : Calls Try.prog 3 #[.slice A0 n0 c0, .int .u64 (a1 : Int), .int .u64 (a2 : Int)] W fun e w' => e = .returned (.bool true) ∧ Below W.heap.size W w' := euclidCommon_all W A0 n0 c0 xs0 a1 a2 h0 k0 m0 l0 h1 h2
  refine hwalk.mono fun e W' ⟨he, hg⟩ => ?_
  subst he
  exact ⟨_, rfl, law_post laid_out (by kernel_rfl) Try.underlying4 (by kernel_rfl) rfl hW' rfl hg⟩

theorem euclidCommon_over : Rows.euclidCommonRow.holds Try.pinned (OpenSpec.ofChange Rows.euclidCommonSpec) :=
  OpenClaim.holds_of_wide 3 Try.f3 rfl rfl rfl rfl rfl rfl rfl ⟨rfl, rfl, rfl, rfl, rfl⟩ rfl rfl rfl rfl rfl (by kernel_rfl) Try.func3 (by kernel_rfl)
    (of_decide_eq_true (by kernel_rfl)) (by unfold Func.isWrapper; first | (rw [if_pos (by decide +kernel)]; kernel_rfl) | (rw [if_neg (by decide +kernel)]; exact ⟨rfl, rfl⟩))
    (fun os started H enc _ => euclidCommon_lifted os started H enc)

theorem euclidCommon_holds : Rows.EuclidCommonSaid :=
  euclidCommon_over
end Go.Proofs.Ytadpeleohialaaa
