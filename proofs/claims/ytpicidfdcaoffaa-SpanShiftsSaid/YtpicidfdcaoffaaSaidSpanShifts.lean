/-
  For any weights, any place and any number: where the number is the span's of the weight at the place, or nobody's, or there is no such place, Shift says none; else what Shift tells is a number that is not greater, below the total without the weight, and picked for the same weight as before. No conditions.
-/
import Derived.Test.YtpicidfdcaoffaaLawSpanS
import Derived.Test.YtpicidfdcaoffaaRow
import Derived.Test.YtpicidfdcaoffaaRowB
namespace Go.Proofs.Ytpicidfdcaoffaa
open Go.ChangeShapes Go.WideShapes Go.ChangeAt Go.RowKit
set_option maxRecDepth 100000

theorem wds_any9 {xs : List Nat} (h : Wds xs) : ∀ x ∈ xs, x < 18446744073709551616 := by
  intro x hx
  obtain ⟨k, hk, rfl⟩ := List.getElem_of_mem hx
  rw [← nth_in hk]
  exact h.nth k
theorem spanShifts_all (W : World) (A : Option Addr) (n c : Nat) (xs : List Nat) (i : Int) (r : Nat) (hl : xs.length = n) (hr : Ru W A xs) (hx : Wds xs) (_ : n ≤ maxLen) (_ : -9223372036854775808 ≤ i) (_ : i ≤ 9223372036854775807) (hr64 : r < 18446744073709551616) :
    Calls Try.prog 4 #[.slice A n c, .int .i64 i, .int .u64 (r : Int)] W fun e w' => e = .returned (.bool true) ∧ Below W.heap.size W w' :=
  spanShifts_walk A xs n c r i W hl (Rq.of_ru hr) (wds_any9 hx) hr64

set_option maxRecDepth 100000 in
theorem spanShifts_lifted (os : Os) (started : os.Started) (H : Type) (enc : TypeId × Value → H) :
    ReturnsInHanded {} Try.checked os 4 .any (Rows.spanShiftsSpec.pre6 enc Try.prog Try.f4 Rows.spanShiftsRow.domain false) (Rows.spanShiftsSpec.post enc Try.prog Try.f4 false true false false) := by
  refine returnsInHanded_of_change (C := Try.checked) own_knob started (by kernel_rfl) Try.func4
    (ChangeSpec.witness6 (enc := enc) (C := Try.checked) false ⟨#[], #[.slice none 0 0, .int .i64 0, .int .u64 0], []⟩ 8 (by kernel_rfl) (by kernel_rfl) (by kernel_rfl) (by kernel_rfl)) ?_
  intro W base args ds gs before hval0 hW hcnd _
  have hval : ∀ (j : Nat) t v, Try.f4.params[j]? = some t → args[j]? = some v → Value.okWide Try.prog W .any base t v := hval0
  have hW' : DataW.Whole enc Try.prog Try.f4.params.toList Rows.spanShiftsSpec.vars false W args.toList ds gs before := hW
  obtain ⟨p, q, hA0, hV, hpq, hfz, hnd⟩ := hW
  have hA : DataW.TrodAll enc Try.prog W 0 (fun _ => true) true Try.f4.params.toList args.toList ds p := hA0
  rw [Try.params4] at hA hval
  obtain ⟨v0, vs0, d0, ds0, p0, q0, hargs, rfl, rfl, t0, r0⟩ := trodAll_cons hA
  obtain ⟨v1, vs1, d1, ds1, p1, q1, rfl, rfl, rfl, t1, r1⟩ := trodAll_cons r0
  obtain ⟨v2, vs2, d2, ds2, p2, q2, rfl, rfl, rfl, t2, r2⟩ := trodAll_cons r1
  obtain ⟨rfl, rfl, rfl⟩ := trodAll_nil r2
  obtain rfl : args = #[v0, v1, v2] := by cases args; simp_all
  obtain ⟨A0, n0, c0, xs0, rfl, h0, k0, m0, l0⟩ := open_u64s (hval 0 22 v0 rfl rfl) t0
  obtain ⟨a1, rfl, h1, k1⟩ := open_i64 (hval 1 3 v1 rfl rfl) t1
  obtain ⟨a2, rfl, h2⟩ := open_u64 (hval 2 23 v2 rfl rfl) t2
  have hwalk : Calls Try.prog 4 #[.slice A0 n0 c0, .int .i64 a1, .int .u64 (a2 : Int)] W fun e w' => e = .returned (.bool true) ∧ Below W.heap.size W w' := spanShifts_all W A0 n0 c0 xs0 a1 a2 h0 k0 m0 l0 h1 k1 h2
  refine hwalk.mono fun e W' ⟨he, hg⟩ => ?_
  subst he
  exact ⟨_, rfl, law_post laid_out (by kernel_rfl) Try.underlying4 (by kernel_rfl) rfl hW' rfl hg⟩

theorem spanShifts_over : Rows.spanShiftsRow.holds Try.pinned (OpenSpec.ofChange Rows.spanShiftsSpec) :=
  OpenClaim.holds_of_wide 4 Try.f4 rfl rfl rfl rfl rfl rfl rfl ⟨rfl, rfl, rfl, rfl, rfl⟩ rfl rfl rfl rfl rfl (by kernel_rfl) Try.func4 (by kernel_rfl)
    (of_decide_eq_true (by kernel_rfl)) (by unfold Func.isWrapper; first | (rw [if_pos (by decide +kernel)]; kernel_rfl) | (rw [if_neg (by decide +kernel)]; exact ⟨rfl, rfl⟩))
    (fun os started H enc _ => spanShifts_lifted os started H enc)

theorem spanShifts_holds : Rows.SpanShiftsSaid :=
  spanShifts_over

end Go.Proofs.Ytpicidfdcaoffaa
