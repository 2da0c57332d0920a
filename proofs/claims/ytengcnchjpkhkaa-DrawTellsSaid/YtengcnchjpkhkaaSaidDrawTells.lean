/-
  For any total t and any word w: how many words are left out, whether w is taken, what it tells, and how many words tell one number, is the document's. No conditions.
-/
import Derived.Test.YtengcnchjpkhkaaLawDrawT
import Derived.Test.YtengcnchjpkhkaaRow
namespace Go.Proofs.Ytengcnchjpkhkaa
open Go.ChangeShapes Go.WideShapes Go.ChangeAt Go.RowKit
set_option maxRecDepth 100000

theorem drawTells_all (W : World) (t x : Nat) (ht : t < 18446744073709551616) (hx : x < 18446744073709551616) :
    Calls Try.prog 3 #[.int .u64 (t : Int), .int .u64 (x : Int)] W fun e w' => e = .returned (.bool true) ∧ Below W.heap.size W w' :=
  tells8_walk t x W ht hx

set_option maxRecDepth 100000 in
theorem drawTells_lifted (os : Os) (started : os.Started) (H : Type) (enc : TypeId × Value → H) :
    ReturnsInHanded {} Try.checked os 3 .any (Rows.drawTellsSpec.pre6 enc Try.prog Try.f3 Rows.drawTellsRow.domain false) (Rows.drawTellsSpec.post enc Try.prog Try.f3 false true false false) := by
  refine returnsInHanded_of_change (C := Try.checked) own_knob started (by kernel_rfl) Try.func3
    (ChangeSpec.witness6 (enc := enc) (C := Try.checked) false ⟨#[], #[.int .u64 0, .int .u64 0], []⟩ 8 (by kernel_rfl) (by kernel_rfl) (by kernel_rfl) (by kernel_rfl)) ?_
  intro W base args ds gs before hval0 hW hcnd _
  have hval : ∀ (j : Nat) t v, Try.f3.params[j]? = some t → args[j]? = some v → Value.okWide Try.prog W .any base t v := hval0
  have hW' : DataW.Whole enc Try.prog Try.f3.params.toList Rows.drawTellsSpec.vars false W args.toList ds gs before := hW
  obtain ⟨p, q, hA0, hV, hpq, hfz, hnd⟩ := hW
  have hA : DataW.TrodAll enc Try.prog W 0 (fun _ => true) true Try.f3.params.toList args.toList ds p := hA0
  rw [Try.params3] at hA hval
  obtain ⟨v0, vs0, d0, ds0, p0, q0, hargs, rfl, rfl, t0, r0⟩ := trodAll_cons hA
  obtain ⟨v1, vs1, d1, ds1, p1, q1, rfl, rfl, rfl, t1, r1⟩ := trodAll_cons r0
  obtain ⟨rfl, rfl, rfl⟩ := trodAll_nil r1
  obtain rfl : args = #[v0, v1] := by cases args; simp_all
  obtain ⟨a0, rfl, h0⟩ := open_u64 (hval 0 22 v0 rfl rfl) t0
  obtain ⟨a1, rfl, h1⟩ := open_u64 (hval 1 22 v1 rfl rfl) t1
  have hwalk : Calls Try.prog 3 #[.int .u64 (a0 : Int), .int .u64 (a1 : Int)] W fun e w' => e = .returned (.bool true) ∧ Below W.heap.size W w' := drawTells_all W a0 a1 h0 h1
  refine hwalk.mono fun e W' ⟨he, hg⟩ => ?_
  subst he
  exact ⟨_, rfl, law_post laid_out (by kernel_rfl) Try.underlying4 (by kernel_rfl) rfl hW' rfl hg⟩

theorem drawTells_over : Rows.drawTellsRow.holds Try.pinned (OpenSpec.ofChange Rows.drawTellsSpec) :=
  OpenClaim.holds_of_wide 3 Try.f3 rfl rfl rfl rfl rfl rfl rfl ⟨rfl, rfl, rfl, rfl, rfl⟩ rfl rfl rfl rfl rfl (by kernel_rfl) Try.func3 (by kernel_rfl)
    (of_decide_eq_true (by kernel_rfl)) (by unfold Func.isWrapper; first | (rw [if_pos (by decide +kernel)]; kernel_rfl) | (rw [if_neg (by decide +kernel)]; exact ⟨rfl, rfl⟩))
    (fun os started H enc _ => drawTells_lifted os started H enc)

theorem drawTells_holds : Rows.DrawTellsSaid :=
  drawTells_over

end Go.Proofs.Ytengcnchjpkhkaa
