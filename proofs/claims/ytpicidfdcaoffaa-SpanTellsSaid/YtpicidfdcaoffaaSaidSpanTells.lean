/-
  For any weights and any number: whether the total fits, the total, the spans, and whose span has the number are the document's; a number that is not below the total is nobody's; each number below it is in just one span. No conditions.
-/
import Derived.Test.YtpicidfdcaoffaaLawSpanT
import Derived.Test.YtpicidfdcaoffaaRow
import Derived.Test.YtpicidfdcaoffaaRowB
namespace Go.Proofs.Ytpicidfdcaoffaa
open Go.ChangeShapes Go.WideShapes Go.ChangeAt Go.RowKit
set_option maxRecDepth 100000

theorem wds_all9 {xs : List Nat} (h : Wds xs) : ∀ x ∈ xs, x < 18446744073709551616 := by
  intro x hx
  obtain ⟨k, hk, rfl⟩ := List.getElem_of_mem hx
  rw [← nth_in hk]
  exact h.nth k
theorem spanTells_all (W : World) (A : Option Addr) (n c : Nat) (xs : List Nat) (r : Nat) (hl : xs.length = n) (hr : Ru W A xs) (hx : Wds xs) (_ : n ≤ maxLen) (hr64 : r < 18446744073709551616) :
    Calls Try.prog 3 #[.slice A n c, .int .u64 (r : Int)] W fun e w' => e = .returned (.bool true) ∧ Below W.heap.size W w' :=
  spanTells_walk A xs n c r W hl (Rq.of_ru hr) (wds_all9 hx) hr64

set_option maxRecDepth 100000 in
theorem spanTells_lifted (os : Os) (started : os.Started) (H : Type) (enc : TypeId × Value → H) :
    ReturnsInHanded {} Try.checked os 3 .any (Rows.spanTellsSpec.pre6 enc Try.prog Try.f3 Rows.spanTellsRow.domain false) (Rows.spanTellsSpec.post enc Try.prog Try.f3 false true false false) := by
  refine returnsInHanded_of_change (C := Try.checked) own_knob started (by kernel_rfl) Try.func3
    (ChangeSpec.witness6 (enc := enc) (C := Try.checked) false ⟨#[], #[.slice none 0 0, .int .u64 0], []⟩ 8 (by kernel_rfl) (by kernel_rfl) (by kernel_rfl) (by kernel_rfl)) ?_
  intro W base args ds gs before hval0 hW hcnd _
  have hval : ∀ (j : Nat) t v, Try.f3.params[j]? = some t → args[j]? = some v → Value.okWide Try.prog W .any base t v := hval0
  have hW' : DataW.Whole enc Try.prog Try.f3.params.toList Rows.spanTellsSpec.vars false W args.toList ds gs before := hW
  obtain ⟨p, q, hA0, hV, hpq, hfz, hnd⟩ := hW
  have hA : DataW.TrodAll enc Try.prog W 0 (fun _ => true) true Try.f3.params.toList args.toList ds p := hA0
  rw [Try.params3] at hA hval
  obtain ⟨v0, vs0, d0, ds0, p0, q0, hargs, rfl, rfl, t0, r0⟩ := trodAll_cons hA
  obtain ⟨v1, vs1, d1, ds1, p1, q1, rfl, rfl, rfl, t1, r1⟩ := trodAll_cons r0
  obtain ⟨rfl, rfl, rfl⟩ := trodAll_nil r1
  obtain rfl : args = #[v0, v1] := by cases args; simp_all
  obtain ⟨A0, n0, c0, xs0, rfl, h0, k0, m0, l0⟩ := open_u64s (hval 0 22 v0 rfl rfl) t0
  obtain ⟨a1, rfl, h1⟩ := open_u64 (hval 1 23 v1 rfl rfl) t1
  have hwalk : Calls Try.prog 3 #[.slice A0 n0 c0, .int .u64 (a1 : Int)] W fun e w' => e = .returned (.bool true) ∧ Below W.heap.size W w' := spanTells_all W A0 n0 c0 xs0 a1 h0 k0 m0 l0 h1
  refine hwalk.mono fun e W' ⟨he, hg⟩ => ?_
  subst he
  exact ⟨_, rfl, law_post laid_out (by kernel_rfl) Try.underlying4 (by kernel_rfl) rfl hW' rfl hg⟩

theorem spanTells_over : Rows.spanTellsRow.holds Try.pinned (OpenSpec.ofChange Rows.spanTellsSpec) :=
  OpenClaim.holds_of_wide 3 Try.f3 rfl rfl rfl rfl rfl rfl rfl ⟨rfl, rfl, rfl, rfl, rfl⟩ rfl rfl rfl rfl rfl (by kernel_rfl) Try.func3 (by kernel_rfl)
    (of_decide_eq_true (by kernel_rfl)) (by unfold Func.isWrapper; first | (rw [if_pos (by decide +kernel)]; kernel_rfl) | (rw [if_neg (by decide +kernel)]; exact ⟨rfl, rfl⟩))
    (fun os started H enc _ => spanTells_lifted os started H enc)

theorem spanTells_holds : Rows.SpanTellsSaid :=
  spanTells_over

end Go.Proofs.Ytpicidfdcaoffaa
