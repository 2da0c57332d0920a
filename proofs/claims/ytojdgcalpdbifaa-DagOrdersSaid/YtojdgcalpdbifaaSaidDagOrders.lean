/-
  For any count and arrows: in an order each arrow leads from one that stands ahead, each number stands there once, and an arrow back makes a ring; where there is no order there is a ring. No conditions.
-/
import Derived.Test.YtojdgcalpdbifaaLawDagO
import Derived.Test.YtojdgcalpdbifaaRowX
namespace Go.Proofs.Ytojdgcalpdbifaa
open Go.ChangeShapes Go.WideShapes Go.ChangeAt Go.RowKit
set_option maxRecDepth 100000

theorem dagOrders_all (W : World) (n : Int) (Ad : Option Addr) (m c : Nat) (l : List (Int × Int)) (_ : -9223372036854775808 ≤ n) (_ : n ≤ 9223372036854775807) (hl : l.length = m) (hr : Aq W W.heap.size Ad l) :
    Calls Try.prog 4 #[.int .i64 n, .slice Ad m c] W fun e w' => e = .returned (.bool true) ∧ Below W.heap.size W w' := by
  by_cases h : 200 < m ∨ 300 < n
  · exact dagOrders_alive n Ad m c W h
  · exact dagOrders_walk n Ad l m c W hl hr (by omega) (by omega)

set_option maxRecDepth 100000 in
theorem dagOrders_lifted (os : Os) (started : os.Started) (H : Type) (enc : TypeId × Value → H) :
    ReturnsInHanded {} Try.checked os 4 .any (Rows.dagOrdersSpec.pre6 enc Try.prog Try.f4 Rows.dagOrdersRow.domain false) (Rows.dagOrdersSpec.post enc Try.prog Try.f4 false true false false) := by
  refine returnsInHanded_of_change (C := Try.checked) own_knob started (by kernel_rfl) Try.func4
    (ChangeSpec.witness6 (enc := enc) (C := Try.checked) false ⟨#[], #[.int .i64 0, .slice none 0 0], []⟩ 8 (by kernel_rfl) (by kernel_rfl) (by kernel_rfl) (by kernel_rfl)) ?_
  intro W base args ds gs before hval0 hW hcnd _
  have hval : ∀ (j : Nat) t v, Try.f4.params[j]? = some t → args[j]? = some v → Value.okWide Try.prog W .any base t v := hval0
  have hW' : DataW.Whole enc Try.prog Try.f4.params.toList Rows.dagOrdersSpec.vars false W args.toList ds gs before := hW
  obtain ⟨p, q, hA0, hV, hpq, hfz, hnd⟩ := hW
  have hA : DataW.TrodAll enc Try.prog W 0 (fun _ => true) true Try.f4.params.toList args.toList ds p := hA0
  rw [Try.params4] at hA hval
  obtain ⟨v0, vs0, d0, ds0, p0, q0, hargs, rfl, rfl, t0, r0⟩ := trodAll_cons hA
  obtain ⟨v1, vs1, d1, ds1, p1, q1, rfl, rfl, rfl, t1, r1⟩ := trodAll_cons r0
  obtain ⟨rfl, rfl, rfl⟩ := trodAll_nil r1
  obtain rfl : args = #[v0, v1] := by cases args; simp_all
  obtain ⟨a0, rfl, h0, k0⟩ := open_i64 (hval 0 3 v0 rfl rfl) t0
  obtain ⟨A1, n1, c1, l1, rfl, h1, k1⟩ := open_arrs13 (hval 1 22 v1 rfl rfl) t1
  have hwalk : Calls Try.prog 4 #[.int .i64 a0, .slice A1 n1 c1] W fun e w' => e = .returned (.bool true) ∧ Below W.heap.size W w' := dagOrders_all W a0 A1 n1 c1 l1 h0 k0 h1 k1
  refine hwalk.mono fun e W' ⟨he, hg⟩ => ?_
  subst he
  exact ⟨_, rfl, law_post laid_out (by kernel_rfl) Try.underlying4 (by kernel_rfl) rfl hW' rfl hg⟩

theorem dagOrders_over : Rows.dagOrdersRow.holds Try.pinned (OpenSpec.ofChange Rows.dagOrdersSpec) :=
  OpenClaim.holds_of_wide 4 Try.f4 rfl rfl rfl rfl rfl rfl rfl ⟨rfl, rfl, rfl, rfl, rfl⟩ rfl rfl rfl rfl rfl (by kernel_rfl) Try.func4 (by kernel_rfl)
    (of_decide_eq_true (by kernel_rfl)) (by unfold Func.isWrapper; first | (rw [if_pos (by decide +kernel)]; kernel_rfl) | (rw [if_neg (by decide +kernel)]; exact ⟨rfl, rfl⟩))
    (fun os started H enc _ => dagOrders_lifted os started H enc)

theorem dagOrders_holds : Rows.DagOrdersSaid :=
  dagOrders_over
end Go.Proofs.Ytojdgcalpdbifaa
