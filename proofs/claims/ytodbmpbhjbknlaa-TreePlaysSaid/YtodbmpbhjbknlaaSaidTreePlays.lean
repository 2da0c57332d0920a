/-
  For any int n and any calls of a tree of n places (Set, Grow, Fill, Find): what each of them answers, all weights, sums, the height, and what is found, are the document's; no more sums are touched than the height and 1 says. No conditions.
-/
import Derived.Test.YtodbmpbhjbknlaaLawTree
import Derived.Test.YtodbmpbhjbknlaaRowB
namespace Go.Proofs.Ytodbmpbhjbknlaa
open Go.ChangeShapes Go.WideShapes Go.ChangeAt Go.RowKit
set_option maxRecDepth 100000

theorem treePlays_all (w : World) (n : Int) (B : Option Addr) (m d : Nat) (q : Nat → Act10) (_ : -9223372036854775808 ≤ n) (_ : n ≤ 9223372036854775807) (hac : Acts10 w B m q) :
    Calls Try.prog 3 #[.int .i64 n, .slice B m d] w fun e w' => e = .returned (.bool true) ∧ Below w.heap.size w w' := by
  by_cases h1 : m ≤ 60
  · by_cases h2 : n < 1 ∨ 4096 < n
    · exact plays10_bad n B m d w h1 h2
    · obtain ⟨j, rfl⟩ := Int.eq_ofNat_of_zero_le (show 0 ≤ n by omega)
      by_cases h3 : j ≤ 300
      · exact plays10_walk j B m d q w hac h1 (by omega) h3
      · exact plays10_great j B m d w h1 (by omega) (by omega)
  · exact plays10_long n B m d w (by omega)

set_option maxRecDepth 100000 in
theorem treePlays_lifted (os : Os) (started : os.Started) (H : Type) (enc : TypeId × Value → H) :
    ReturnsInHanded {} Try.checked os 3 .any (Rows.treePlaysSpec.pre6 enc Try.prog Try.f3 Rows.treePlaysRow.domain false) (Rows.treePlaysSpec.post enc Try.prog Try.f3 false true false false) := by
  refine returnsInHanded_of_change (C := Try.checked) own_knob started (by kernel_rfl) Try.func3
    (ChangeSpec.witness6 (enc := enc) (C := Try.checked) false ⟨#[], #[.int .i64 0, .slice none 0 0], []⟩ 8 (by kernel_rfl) (by kernel_rfl) (by kernel_rfl) (by kernel_rfl)) ?_
  intro W base args ds gs before hval0 hW hcnd _
  have hval : ∀ (j : Nat) t v, Try.f3.params[j]? = some t → args[j]? = some v → Value.okWide Try.prog W .any base t v := hval0
  have hW' : DataW.Whole enc Try.prog Try.f3.params.toList Rows.treePlaysSpec.vars false W args.toList ds gs before := hW
  obtain ⟨p, q, hA0, hV, hpq, hfz, hnd⟩ := hW
  have hA : DataW.TrodAll enc Try.prog W 0 (fun _ => true) true Try.f3.params.toList args.toList ds p := hA0
  rw [Try.params3] at hA hval
  obtain ⟨v0, vs0, d0, ds0, p0, q0, hargs, rfl, rfl, t0, r0⟩ := trodAll_cons hA
  obtain ⟨v1, vs1, d1, ds1, p1, q1, rfl, rfl, rfl, t1, r1⟩ := trodAll_cons r0
  obtain ⟨rfl, rfl, rfl⟩ := trodAll_nil r1
  obtain rfl : args = #[v0, v1] := by cases args; simp_all
  obtain ⟨a0, rfl, h0, k0⟩ := open_i64 (hval 0 3 v0 rfl rfl) t0
  obtain ⟨A1, n1, c1, q1, rfl, h1⟩ := open_acts10 (hval 1 22 v1 rfl rfl) t1
  have hwalk : Calls Try.prog 3 #[.int .i64 a0, .slice A1 n1 c1] W fun e w' => e = .returned (.bool true) ∧ Below W.heap.size W w' := treePlays_all W a0 A1 n1 c1 q1 h0 k0 h1
  refine hwalk.mono fun e W' ⟨he, hg⟩ => ?_
  subst he
  exact ⟨_, rfl, law_post laid_out (by kernel_rfl) Try.underlying4 (by kernel_rfl) rfl hW' rfl hg⟩

theorem treePlays_over : Rows.treePlaysRow.holds Try.pinned (OpenSpec.ofChange Rows.treePlaysSpec) :=
  OpenClaim.holds_of_wide 3 Try.f3 rfl rfl rfl rfl rfl rfl rfl ⟨rfl, rfl, rfl, rfl, rfl⟩ rfl rfl rfl rfl rfl (by kernel_rfl) Try.func3 (by kernel_rfl)
    (of_decide_eq_true (by kernel_rfl)) (by unfold Func.isWrapper; first | (rw [if_pos (by decide +kernel)]; kernel_rfl) | (rw [if_neg (by decide +kernel)]; exact ⟨rfl, rfl⟩))
    (fun os started H enc _ => treePlays_lifted os started H enc)

theorem treePlays_holds : Rows.TreePlaysSaid :=
  treePlays_over


end Go.Proofs.Ytodbmpbhjbknlaa
