/-
  For any weights: Build makes a table that is right and fair: each place is picked by its count times its weight of all numbers; which weights have none, and with which error, is the document's. No conditions.
-/
import Derived.Test.YtcanahjilfnijaaLawAliB
import Derived.Test.YtcanahjilfnijaaRow
import Derived.Test.YtcanahjilfnijaaRowB
namespace Go.Proofs.Ytcanahjilfnijaa
open Go.ChangeShapes Go.WideShapes Go.ChangeAt Go.RowKit
set_option maxRecDepth 100000

theorem wds_all12b {xs : List Nat} (h : Wds xs) : ∀ x ∈ xs, x < 18446744073709551616 := by
  intro x hx
  obtain ⟨k, hk, rfl⟩ := List.getElem_of_mem hx
  rw [← nth_in hk]
  exact h.nth k
theorem aliasBuilds_all (W : World) (A : Option Addr) (n c : Nat) (xs : List Nat) (hl : xs.length = n) (hr : Ru W A xs) (hx : Wds xs) (_ : n ≤ maxLen) :
    Calls Try.prog 3 #[.slice A n c] W fun e w' => e = .returned (.bool true) ∧ Below W.heap.size W w' :=
  aliasBuilds_walk A xs n c W hl (Rq.of_ru hr) (wds_all12b hx)

set_option maxRecDepth 100000 in
theorem aliasBuilds_lifted (os : Os) (started : os.Started) (H : Type) (enc : TypeId × Value → H) :
    ReturnsInHanded {} Try.checked os 3 .any (Rows.aliasBuildsSpec.pre6 enc Try.prog Try.f3 Rows.aliasBuildsRow.domain false) (Rows.aliasBuildsSpec.post enc Try.prog Try.f3 false true false false) := by
  refine returnsInHanded_of_change (C := Try.checked) own_knob started (by kernel_rfl) Try.func3
    (ChangeSpec.witness6 (enc := enc) (C := Try.checked) false ⟨#[], #[.slice none 0 0], []⟩ 8 (by kernel_rfl) (by kernel_rfl) (by kernel_rfl) (by kernel_rfl)) ?_
  intro W base args ds gs before hval0 hW hcnd _
  have hval : ∀ (j : Nat) t v, Try.f3.params[j]? = some t → args[j]? = some v → Value.okWide Try.prog W .any base t v := hval0
  have hW' : DataW.Whole enc Try.prog Try.f3.params.toList Rows.aliasBuildsSpec.vars false W args.toList ds gs before := hW
  obtain ⟨p, q, hA0, hV, hpq, hfz, hnd⟩ := hW
  have hA : DataW.TrodAll enc Try.prog W 0 (fun _ => true) true Try.f3.params.toList args.toList ds p := hA0
  rw [Try.params3] at hA hval
  obtain ⟨v0, vs0, d0, ds0, p0, q0, hargs, rfl, rfl, t0, r0⟩ := trodAll_cons hA
  obtain ⟨rfl, rfl, rfl⟩ := trodAll_nil r0
  obtain rfl : args = #[v0] := by cases args; simp_all
  obtain ⟨A0, n0, c0, xs0, rfl, h0, k0, m0, l0⟩ := open_u64s (hval 0 22 v0 rfl rfl) t0
  have hwalk : Calls Try.prog 3 #[.slice A0 n0 c0] W fun e w' => e = .returned (.bool true) ∧ Below W.heap.size W w' := aliasBuilds_all W A0 n0 c0 xs0 h0 k0 m0 l0
  refine hwalk.mono fun e W' ⟨he, hg⟩ => ?_
  subst he
  exact ⟨_, rfl, law_post laid_out (by kernel_rfl) Try.underlying4 (by kernel_rfl) rfl hW' rfl hg⟩

theorem aliasBuilds_over : Rows.aliasBuildsRow.holds Try.pinned (OpenSpec.ofChange Rows.aliasBuildsSpec) :=
  OpenClaim.holds_of_wide 3 Try.f3 rfl rfl rfl rfl rfl rfl rfl ⟨rfl, rfl, rfl, rfl, rfl⟩ rfl rfl rfl rfl rfl (by kernel_rfl) Try.func3 (by kernel_rfl)
    (of_decide_eq_true (by kernel_rfl)) (by unfold Func.isWrapper; first | (rw [if_pos (by decide +kernel)]; kernel_rfl) | (rw [if_neg (by decide +kernel)]; exact ⟨rfl, rfl⟩))
    (fun os started H enc _ => aliasBuilds_lifted os started H enc)

theorem aliasBuilds_holds : Rows.AliasBuildsSaid :=
  aliasBuilds_over

end Go.Proofs.Ytcanahjilfnijaa
