/-
  For any words t, r, k and w: the k-th word that tells r below t is there just where r is below t and k below Each(t), and it is told as r; a word w that is taken for t is the word of what it tells at the place w by t. No conditions.
-/
import Derived.Test.YtengcnchjpkhkaaLawDrawW
import Derived.Test.YtengcnchjpkhkaaRow
namespace Go.Proofs.Ytengcnchjpkhkaa
open Go.ChangeShapes Go.WideShapes Go.ChangeAt Go.RowKit
set_option maxRecDepth 100000

theorem drawWords_all (W : World) (t r k x : Nat) (ht : t < 18446744073709551616) (hr : r < 18446744073709551616) (hk : k < 18446744073709551616) (hx : x < 18446744073709551616) :
    Calls Try.prog 4 #[.int .u64 (t : Int), .int .u64 (r : Int), .int .u64 (k : Int), .int .u64 (x : Int)] W fun e w' => e = .returned (.bool true) ∧ Below W.heap.size W w' :=
  words8_walk t r k x W ht hr hk hx

set_option maxRecDepth 100000 in
theorem drawWords_lifted (os : Os) (started : os.Started) (H : Type) (enc : TypeId × Value → H) :
    ReturnsInHanded {} Try.checked os 4 .any (Rows.drawWordsSpec.pre6 enc Try.prog Try.f4 Rows.drawWordsRow.domain false) (Rows.drawWordsSpec.post enc Try.prog Try.f4 false true false false) := by
  refine returnsInHanded_of_change (C := Try.checked) own_knob started (by kernel_rfl) Try.func4
    (ChangeSpec.witness6 (enc := enc) (C := Try.checked) false ⟨#[], #[.int .u64 0, .int .u64 0, .int .u64 0, .int .u64 0], []⟩ 8 (by kernel_rfl) (by kernel_rfl) (by kernel_rfl) (by kernel_rfl)) ?_
  intro W base args ds gs before hval0 hW hcnd _
  have hval : ∀ (j : Nat) t v, Try.f4.params[j]? = some t → args[j]? = some v → Value.okWide Try.prog W .any base t v := hval0
  have hW' : DataW.Whole enc Try.prog Try.f4.params.toList Rows.drawWordsSpec.vars false W args.toList ds gs before := hW
  obtain ⟨p, q, hA0, hV, hpq, hfz, hnd⟩ := hW
  have hA : DataW.TrodAll enc Try.prog W 0 (fun _ => true) true Try.f4.params.toList args.toList ds p := hA0
  rw [Try.params4] at hA hval
  obtain ⟨v0, vs0, d0, ds0, p0, q0, hargs, rfl, rfl, t0, r0⟩ := trodAll_cons hA
  obtain ⟨v1, vs1, d1, ds1, p1, q1, rfl, rfl, rfl, t1, r1⟩ := trodAll_cons r0
  obtain ⟨v2, vs2, d2, ds2, p2, q2, rfl, rfl, rfl, t2, r2⟩ := trodAll_cons r1
  obtain ⟨v3, vs3, d3, ds3, p3, q3, rfl, rfl, rfl, t3, r3⟩ := trodAll_cons r2
  obtain ⟨rfl, rfl, rfl⟩ := trodAll_nil r3
  obtain rfl : args = #[v0, v1, v2, v3] := by cases args; simp_all
  obtain ⟨a0, rfl, h0⟩ := open_u64 (hval 0 22 v0 rfl rfl) t0
  obtain ⟨a1, rfl, h1⟩ := open_u64 (hval 1 22 v1 rfl rfl) t1
  obtain ⟨a2, rfl, h2⟩ := open_u64 (hval 2 22 v2 rfl rfl) t2
  obtain ⟨a3, rfl, h3⟩ := open_u64 (hval 3 22 v3 rfl rfl) t3
  have hwalk : Calls Try.prog 4 #[.int .u64 (a0 : Int), .int .u64 (a1 : Int), .int .u64 (a2 : Int), .int .u64 (a3 : Int)] W fun e w' => e = .returned (.bool true) ∧ Below W.heap.size W w' := drawWords_all W a0 a1 a2 a3 h0 h1 h2 h3
  refine hwalk.mono fun e W' ⟨he, hg⟩ => ?_
  subst he
  exact ⟨_, rfl, law_post laid_out (by kernel_rfl) Try.underlying4 (by kernel_rfl) rfl hW' rfl hg⟩

theorem drawWords_over : Rows.drawWordsRow.holds Try.pinned (OpenSpec.ofChange Rows.drawWordsSpec) :=
  OpenClaim.holds_of_wide 4 Try.f4 rfl rfl rfl rfl rfl rfl rfl ⟨rfl, rfl, rfl, rfl, rfl⟩ rfl rfl rfl rfl rfl (by kernel_rfl) Try.func4 (by kernel_rfl)
    (of_decide_eq_true (by kernel_rfl)) (by unfold Func.isWrapper; first | (rw [if_pos (by decide +kernel)]; kernel_rfl) | (rw [if_neg (by decide +kernel)]; exact ⟨rfl, rfl⟩))
    (fun os started H enc _ => drawWords_lifted os started H enc)

theorem drawWords_holds : Rows.DrawWordsSaid :=
  drawWords_over

end Go.Proofs.Ytengcnchjpkhkaa
