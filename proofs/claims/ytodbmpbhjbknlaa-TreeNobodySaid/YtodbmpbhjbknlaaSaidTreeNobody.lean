/-
  For any int n and word w: of a nil tree of sums Find answers -1 and false, Set, Grow and Fill ErrNil; Get, Len, Total, Ahead, Height and Steps 0, All nothing. No conditions.
-/
import Derived.Test.YtodbmpbhjbknlaaLawTreeA
import Derived.Test.YtodbmpbhjbknlaaRowB
namespace Go.Proofs.Ytodbmpbhjbknlaa
open Go.ChangeShapes Go.WideShapes Go.ChangeAt Go.RowKit
set_option maxRecDepth 100000

theorem treeNobody_all (w : World) (n : Int) (r : Nat) (_ : -9223372036854775808 ≤ n) (_ : n ≤ 9223372036854775807) (_ : r < 18446744073709551616) :
    Calls Try.prog 4 #[.int .i64 n, .int .u64 (r : Int)] w fun e w' => e = .returned (.bool true) ∧ Below w.heap.size w w' := nobody10_walk n r w

set_option maxRecDepth 100000 in
theorem treeNobody_lifted (os : Os) (started : os.Started) (H : Type) (enc : TypeId × Value → H) :
    ReturnsInHanded {} Try.checked os 4 .any (Rows.treeNobodySpec.pre6 enc Try.prog Try.f4 Rows.treeNobodyRow.domain false) (Rows.treeNobodySpec.post enc Try.prog Try.f4 false true false false) := by
  refine returnsInHanded_of_change (C := Try.checked) own_knob started (by kernel_rfl) Try.func4
    (ChangeSpec.witness6 (enc := enc) (C := Try.checked) false ⟨#[], #[.int .i64 0, .int .u64 0], []⟩ 8 (by kernel_rfl) (by kernel_rfl) (by kernel_rfl) (by kernel_rfl)) ?_
  intro W base args ds gs before hval0 hW hcnd _
  have hval : ∀ (j : Nat) t v, Try.f4.params[j]? = some t → args[j]? = some v → Value.okWide Try.prog W .any base t v := hval0
  have hW' : DataW.Whole enc Try.prog Try.f4.params.toList Rows.treeNobodySpec.vars false W args.toList ds gs before := hW
  obtain ⟨p, q, hA0, hV, hpq, hfz, hnd⟩ := hW
  have hA : DataW.TrodAll enc Try.prog W 0 (fun _ => true) true Try.f4.params.toList args.toList ds p := hA0
  rw [Try.params4] at hA hval
  obtain ⟨v0, vs0, d0, ds0, p0, q0, hargs, rfl, rfl, t0, r0⟩ := trodAll_cons hA
  obtain ⟨v1, vs1, d1, ds1, p1, q1, rfl, rfl, rfl, t1, r1⟩ := trodAll_cons r0
  obtain ⟨rfl, rfl, rfl⟩ := trodAll_nil r1
  obtain rfl : args = #[v0, v1] := by cases args; simp_all
  obtain ⟨a0, rfl, h0, k0⟩ := open_i64 (hval 0 3 v0 rfl rfl) t0
  obtain ⟨a1, rfl, h1⟩ := open_u64 (hval 1 30 v1 rfl rfl) t1
  have hwalk : Calls Try.prog 4 #[.int .i64 a0, .int .u64 (a1 : Int)] W fun e w' => e = .returned (.bool true) ∧ Below W.heap.size W w' := treeNobody_all W a0 a1 h0 k0 h1
  refine hwalk.mono fun e W' ⟨he, hg⟩ => ?_
  subst he
  exact ⟨_, rfl, law_post laid_out (by kernel_rfl) Try.underlying4 (by kernel_rfl) rfl hW' rfl hg⟩

theorem treeNobody_over : Rows.treeNobodyRow.holds Try.pinned (OpenSpec.ofChange Rows.treeNobodySpec) :=
  OpenClaim.holds_of_wide 4 Try.f4 rfl rfl rfl rfl rfl rfl rfl ⟨rfl, rfl, rfl, rfl, rfl⟩ rfl rfl rfl rfl rfl (by kernel_rfl) Try.func4 (by kernel_rfl)
    (of_decide_eq_true (by kernel_rfl)) (by unfold Func.isWrapper; first | (rw [if_pos (by decide +kernel)]; kernel_rfl) | (rw [if_neg (by decide +kernel)]; exact ⟨rfl, rfl⟩))
    (fun os started H enc _ => treeNobody_lifted os started H enc)

theorem treeNobody_holds : Rows.TreeNobodySaid :=
  treeNobody_over


end Go.Proofs.Ytodbmpbhjbknlaa
