/-
  For any words l and any calls of a source: what a source of package words takes, and peeks, is what stands at its place; its place, what is left, and all its words are the document's; what is done to l behind New does not show, and a source that was forked goes its own way. No conditions.
-/
import Derived.Test.YteollilmfgipcaaLawPlay
namespace Go.Proofs.Yteollilmfgipcaa
open Go.ChangeShapes Go.WideShapes Go.ChangeAt Go.RowKit
set_option maxRecDepth 100000

theorem wordsPlay_all (w : World) (A : Option Addr) (n c : Nat) (xs : List Nat) (B : Option Addr) (m d : Nat) (ac : (Nat → Int) × (Nat → Int) × (Nat → Option Addr × Nat × Nat) × (Nat → List Nat)) (hl : xs.length = n) (hr : Ru w A xs) (hac : Acts7 w B m ac.1 ac.2.1 ac.2.2.1 ac.2.2.2) :
    Calls Try.prog 3 #[.slice A n c, .slice B m d] w fun e w' => e = .returned (.bool true) ∧ Below w.heap.size w w' := by
  by_cases h1 : n ≤ 200
  · by_cases h2 : m ≤ 60
    · exact plays_walk A B xs n c m d ac.1 ac.2.1 ac.2.2.1 ac.2.2.2 w hl (Rq.of_ru hr) hac h1 h2
    · exact plays_long A B n c m d w (.inr ⟨h1, by omega⟩)
  · exact plays_long A B n c m d w (.inl (by omega))

set_option maxRecDepth 100000 in
theorem wordsPlay_lifted (os : Os) (started : os.Started) (H : Type) (enc : TypeId × Value → H) :
    ReturnsInHanded {} Try.checked os 3 .any (Rows.wordsPlaySpec.pre6 enc Try.prog Try.f3 Rows.wordsPlayRow.domain false) (Rows.wordsPlaySpec.post enc Try.prog Try.f3 false true false false) := by
  refine returnsInHanded_of_change (C := Try.checked) own_knob started (by kernel_rfl) Try.func3
    (ChangeSpec.witness6 (enc := enc) (C := Try.checked) false ⟨#[], #[.slice none 0 0, .slice none 0 0], []⟩ 8 (by kernel_rfl) (by kernel_rfl) (by kernel_rfl) (by kernel_rfl)) ?_
  intro W base args ds gs before hval0 hW hcnd _
  have hval : ∀ (j : Nat) t v, Try.f3.params[j]? = some t → args[j]? = some v → Value.okWide Try.prog W .any base t v := hval0
  have hW' : DataW.Whole enc Try.prog Try.f3.params.toList Rows.wordsPlaySpec.vars false W args.toList ds gs before := hW
  obtain ⟨p, q, hA0, hV, hpq, hfz, hnd⟩ := hW
  have hA : DataW.TrodAll enc Try.prog W 0 (fun _ => true) true Try.f3.params.toList args.toList ds p := hA0
  rw [Try.params3] at hA hval
  obtain ⟨v0, vs0, d0, ds0, p0, q0, hargs, rfl, rfl, t0, r0⟩ := trodAll_cons hA
  obtain ⟨v1, vs1, d1, ds1, p1, q1, rfl, rfl, rfl, t1, r1⟩ := trodAll_cons r0
  obtain ⟨rfl, rfl, rfl⟩ := trodAll_nil r1
  obtain rfl : args = #[v0, v1] := by cases args; simp_all
  obtain ⟨A0, n0, c0, xs0, rfl, h0, k0, _, _⟩ := open_u64s (hval 0 22 v0 rfl rfl) t0
  obtain ⟨A1, n1, c1, xs1, rfl, h1⟩ := open_acts7 (hval 1 23 v1 rfl rfl) t1
  have hwalk : Calls Try.prog 3 #[.slice A0 n0 c0, .slice A1 n1 c1] W fun e w' => e = .returned (.bool true) ∧ Below W.heap.size W w' := wordsPlay_all W A0 n0 c0 xs0 A1 n1 c1 xs1 h0 k0 h1
  refine hwalk.mono fun e W' ⟨he, hg⟩ => ?_
  subst he
  exact ⟨_, rfl, law_post laid_out (by kernel_rfl) Try.underlying4 (by kernel_rfl) rfl hW' rfl hg⟩

theorem wordsPlay_over : Rows.wordsPlayRow.holds Try.pinned (OpenSpec.ofChange Rows.wordsPlaySpec) :=
  OpenClaim.holds_of_wide 3 Try.f3 rfl rfl rfl rfl rfl rfl rfl ⟨rfl, rfl, rfl, rfl, rfl⟩ rfl rfl rfl rfl rfl (by kernel_rfl) Try.func3 (by kernel_rfl)
    (of_decide_eq_true (by kernel_rfl)) (by unfold Func.isWrapper; first | (rw [if_pos (by decide +kernel)]; kernel_rfl) | (rw [if_neg (by decide +kernel)]; exact ⟨rfl, rfl⟩))
    (fun os started H enc _ => wordsPlay_lifted os started H enc)

theorem wordsPlay_holds : Rows.WordsPlaySaid :=
  wordsPlay_over

end Go.Proofs.Yteollilmfgipcaa
