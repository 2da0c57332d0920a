/-
  For any count, arrows and two numbers: whom the first one comes to, whether it comes to the second one, whether there is a ring, and, if not, the order and the depths, is the document's. No conditions.
-/
import Derived.Test.YtojdgcalpdbifaaLawDagT
import Derived.Test.YtojdgcalpdbifaaRowX
namespace Go.Proofs.Ytojdgcalpdbifaa
open Go.ChangeShapes Go.WideShapes Go.ChangeAt Go.RowKit
set_option maxRecDepth 100000

theorem dagTells_all (W : World) (n : Int) (Ad : Option Addr) (m c : Nat) (l : List (Int × Int)) (a b : Int) (_ : -9223372036854775808 ≤ n) (_ : n ≤ 9223372036854775807) (hl : l.length = m) (hr : Aq W W.heap.size Ad l) (_ : -9223372036854775808 ≤ a) (_ : a ≤ 9223372036854775807) (_ : -9223372036854775808 ≤ b) (_ : b ≤ 9223372036854775807) :
    Calls Try.prog 3 #[.int .i64 n, .slice Ad m c, .int .i64 a, .int .i64 b] W fun e w' => e = .returned (.bool true) ∧ Below W.heap.size W w' := by
  by_cases h : n < 0 ∨ 40 < n ∨ 80 < m
  · exact dagTells_alive n a b Ad m c W h
  · obtain ⟨N, rfl⟩ : ∃ N : Nat, n = (N : Int) := ⟨n.toNat, by omega⟩
    exact dagTells_walk N a b Ad l m c W hl hr (by omega) (by omega)

set_option maxRecDepth 100000 in
theorem dagTells_lifted (os : Os) (started : os.Started) (H : Type) (enc : TypeId × Value → H) :
    ReturnsInHanded {} Try.checked os 3 .any (Rows.dagTellsSpec.pre6 enc Try.prog Try.f3 Rows.dagTellsRow.domain false) (Rows.dagTellsSpec.post enc Try.prog Try.f3 false true false false) := by
  refine returnsInHanded_of_change (C := Try.checked) own_knob started (by kernel_rfl) Try.func3
    (ChangeSpec.witness6 (enc := enc) (C := Try.checked) false ⟨#[], #[.int .i64 0, .slice none 0 0, .int .i64 0, .int .i64 0], []⟩ 8 (by kernel_rfl) (by kernel_rfl) (by kernel_rfl) (by kernel_rfl)) ?_
  intro W base args ds gs before hval0 hW hcnd _
  have hval : ∀ (j : Nat) t v, Try.f3.params[j]? = some t → args[j]? = some v → Value.okWide Try.prog W .any base t v := hval0
  have hW' : DataW.Whole enc Try.prog Try.f3.params.toList Rows.dagTellsSpec.vars false W args.toList ds gs before := hW
  obtain ⟨p, q, hA0, hV, hpq, hfz, hnd⟩ := hW
  have hA : DataW.TrodAll enc Try.prog W 0 (fun _ => true) true Try.f3.params.toList args.toList ds p := hA0
  rw [Try.params3] at hA hval
  obtain ⟨v0, vs0, d0, ds0, p0, q0, hargs, rfl, rfl, t0, r0⟩ := trodAll_cons hA
  obtain ⟨v1, vs1, d1, ds1, p1, q1, rfl, rfl, rfl, t1, r1⟩ := trodAll_cons r0
  obtain ⟨v2, vs2, d2, ds2, p2, q2, rfl, rfl, rfl, t2, r2⟩ := trodAll_cons r1
  obtain ⟨v3, vs3, d3, ds3, p3, q3, rfl, rfl, rfl, t3, r3⟩ := trodAll_cons r2
  obtain ⟨rfl, rfl, rfl⟩ := trodAll_nil r3
  obtain rfl : args = #[v0, v1, v2, v3] := by cases args; simp_all
  obtain ⟨a0, rfl, h0, k0⟩ := open_i64 (hval 0 3 v0 rfl rfl) t0
  obtain ⟨A1, n1, c1, l1, rfl, h1, k1⟩ := open_arrs13 (hval 1 22 v1 rfl rfl) t1
  obtain ⟨a2, rfl, h2, k2⟩ := open_i64 (hval 2 3 v2 rfl rfl) t2
  obtain ⟨a3, rfl, h3, k3⟩ := open_i64 (hval 3 3 v3 rfl rfl) t3
  have hwalk : Calls Try.prog 3 #[.int .i64 a0, .slice A1 n1 c1, .int .i64 a2, .int .i64 a3] W fun e w' => e = .returned (.bool true) ∧ Below W.heap.size W w' := dagTells_all W a0 A1 n1 c1 l1 a2 a3 h0 k0 h1 k1 h2 k2 h3 k3
  refine hwalk.mono fun e W' ⟨he, hg⟩ => ?_
  subst he
  exact ⟨_, rfl, law_post laid_out (by kernel_rfl) Try.underlying4 (by kernel_rfl) rfl hW' rfl hg⟩

theorem dagTells_over : Rows.dagTellsRow.holds Try.pinned (OpenSpec.ofChange Rows.dagTellsSpec) :=
  OpenClaim.holds_of_wide 3 Try.f3 rfl rfl rfl rfl rfl rfl rfl ⟨rfl, rfl, rfl, rfl, rfl⟩ rfl rfl rfl rfl rfl (by kernel_rfl) Try.func3 (by kernel_rfl)
    (of_decide_eq_true (by kernel_rfl)) (by unfold Func.isWrapper; first | (rw [if_pos (by decide +kernel)]; kernel_rfl) | (rw [if_neg (by decide +kernel)]; exact ⟨rfl, rfl⟩))
    (fun os started H enc _ => dagTells_lifted os started H enc)

theorem dagTells_holds : Rows.DagTellsSaid :=
  dagTells_over
end Go.Proofs.Ytojdgcalpdbifaa
