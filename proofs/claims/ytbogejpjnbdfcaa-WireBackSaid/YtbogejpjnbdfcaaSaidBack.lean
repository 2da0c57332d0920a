/-
  For any numbers l and any text s: what was put by package wire is read by its reader, with nothing left and no error. No conditions.
-/
import Derived.Test.YtbogejpjnbdfcaaLawBack
import Derived.Test.YtbogejpjnbdfcaaRowB
namespace Go.Proofs.Ytbogejpjnbdfcaa
open Go.ChangeShapes Go.WideShapes Go.ChangeAt Go.RowKit
set_option maxRecDepth 100000

theorem wireBack_all (w : World) (B : Option Addr) (m d : Nat) (ls : List Nat) (s : ByteArray) (hm : ls.length = m) (hru : Ru w B ls) (hw : Wds ls) (_ : m ≤ maxLen) (_ : True) :
    Calls Try.prog 5 #[.slice B m d, .string s] w fun e w' => e = .returned (.bool true) ∧ Below w.heap.size w w' := by
  by_cases h2 : m ≤ 50
  · by_cases h3 : s.size ≤ 300
    · exact back_walk B ls m d s w hm hru hw h2 h3
    · exact back_long B m d s w (.inr ⟨h2, by omega⟩)
  · exact back_long B m d s w (.inl (by omega))

set_option maxRecDepth 100000 in
theorem wireBack_lifted (os : Os) (started : os.Started) (H : Type) (enc : TypeId × Value → H) :
    ReturnsInHanded {} Try.checked os 5 .any (Rows.wireBackSpec.pre6 enc Try.prog Try.f5 Rows.wireBackRow.domain false) (Rows.wireBackSpec.post enc Try.prog Try.f5 false true false false) := by
  refine returnsInHanded_of_change (C := Try.checked) own_knob started (by kernel_rfl) Try.func5
    (ChangeSpec.witness6 (enc := enc) (C := Try.checked) false ⟨#[], #[.slice none 0 0, .string ⟨#[]⟩], []⟩ 8 (by kernel_rfl) (by kernel_rfl) (by kernel_rfl) (by kernel_rfl)) ?_
  intro W base args ds gs before hval0 hW hcnd _
  have hval : ∀ (j : Nat) t v, Try.f5.params[j]? = some t → args[j]? = some v → Value.okWide Try.prog W .any base t v := hval0
  have hW' : DataW.Whole enc Try.prog Try.f5.params.toList Rows.wireBackSpec.vars false W args.toList ds gs before := hW
  obtain ⟨p, q, hA0, hV, hpq, hfz, hnd⟩ := hW
  have hA : DataW.TrodAll enc Try.prog W 0 (fun _ => true) true Try.f5.params.toList args.toList ds p := hA0
  rw [Try.params5] at hA hval
  obtain ⟨v0, vs0, d0, ds0, p0, q0, hargs, rfl, rfl, t0, r0⟩ := trodAll_cons hA
  obtain ⟨v1, vs1, d1, ds1, p1, q1, rfl, rfl, rfl, t1, r1⟩ := trodAll_cons r0
  obtain ⟨rfl, rfl, rfl⟩ := trodAll_nil r1
  obtain rfl : args = #[v0, v1] := by cases args; simp_all
  obtain ⟨A0, n0, c0, xs0, rfl, h0, k0, m0, l0⟩ := open_u64s (hval 0 23 v0 rfl rfl) t0
  obtain ⟨s1, rfl, h1⟩ := open_str (hval 1 9 v1 rfl rfl) t1
  have hwalk : Calls Try.prog 5 #[.slice A0 n0 c0, .string s1] W fun e w' => e = .returned (.bool true) ∧ Below W.heap.size W w' := wireBack_all W A0 n0 c0 xs0 s1 h0 k0 m0 l0 h1
  refine hwalk.mono fun e W' ⟨he, hg⟩ => ?_
  subst he
  exact ⟨_, rfl, law_post laid_out (by kernel_rfl) Try.underlying4 (by kernel_rfl) rfl hW' rfl hg⟩

theorem wireBack_over : Rows.wireBackRow.holds Try.pinned (OpenSpec.ofChange Rows.wireBackSpec) :=
  OpenClaim.holds_of_wide 5 Try.f5 rfl rfl rfl rfl rfl rfl rfl ⟨rfl, rfl, rfl, rfl, rfl⟩ rfl rfl rfl rfl rfl (by kernel_rfl) Try.func5 (by kernel_rfl)
    (of_decide_eq_true (by kernel_rfl)) (by unfold Func.isWrapper; first | (rw [if_pos (by decide +kernel)]; kernel_rfl) | (rw [if_neg (by decide +kernel)]; exact ⟨rfl, rfl⟩))
    (fun os started H enc _ => wireBack_lifted os started H enc)

theorem wireBack_holds : Rows.WireBackSaid :=
  wireBack_over

end Go.Proofs.Ytbogejpjnbdfcaa
