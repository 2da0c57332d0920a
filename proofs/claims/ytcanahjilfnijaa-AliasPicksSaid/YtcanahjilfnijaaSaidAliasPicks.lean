/-
  For any table, number, place and weights: how many numbers pick at all, what the number picks, how many numbers pick the place, and whether the table is fair for the weights, is the document's. No conditions.
-/
import Derived.Test.YtcanahjilfnijaaLawAliP
import Derived.Test.YtcanahjilfnijaaRowW
namespace Go.Proofs.Ytcanahjilfnijaa
open Go.ChangeShapes Go.WideShapes Go.ChangeAt Go.RowKit
set_option maxRecDepth 100000

theorem wds_all12p {xs : List Nat} (h : Wds xs) : ∀ x ∈ xs, x < 18446744073709551616 := by
  intro x hx
  obtain ⟨k, hk, rfl⟩ := List.getElem_of_mem hx
  rw [← nth_in hk]
  exact h.nth k
theorem aliasPicks_all (W : World) (t : Nat) (A : Option Addr) (n c : Nat) (cs : Nat → Nat) (os : Nat → Int) (r : Nat) (i : Int) (B : Option Addr) (m d : Nat) (ys : List Nat) (ht : t < 18446744073709551616) (h : Cq W W.heap.size A n cs os) (hc : ∀ j, j < n → cs j < 18446744073709551616) (hr : r < 18446744073709551616) (_ : -9223372036854775808 ≤ i) (_ : i ≤ 9223372036854775807)
    (hl : ys.length = m) (hy : Ru W B ys) (hx : Wds ys) (_ : m ≤ maxLen) :
    Calls Try.prog 4 #[.agg #[.int .u64 (t : Int), .slice A n c], .int .u64 (r : Int), .int .i64 i, .slice B m d] W fun e w' => e = .returned (.bool true) ∧ Below W.heap.size W w' :=
  aliasPicks_walk t n c A cs os r i B ys m d W h ht hc hr hl (Rq.of_ru hy) (wds_all12p hx)

set_option maxRecDepth 100000 in
theorem aliasPicks_lifted (os : Os) (started : os.Started) (H : Type) (enc : TypeId × Value → H) :
    ReturnsInHanded {} Try.checked os 4 .any (Rows.aliasPicksSpec.pre6 enc Try.prog Try.f4 Rows.aliasPicksRow.domain false) (Rows.aliasPicksSpec.post enc Try.prog Try.f4 false true false false) := by
  refine returnsInHanded_of_change (C := Try.checked) own_knob started (by kernel_rfl) Try.func4
    (ChangeSpec.witness6 (enc := enc) (C := Try.checked) false ⟨#[], #[.agg #[.int .u64 0, .slice none 0 0], .int .u64 0, .int .i64 0, .slice none 0 0], []⟩ 8 (by kernel_rfl) (by kernel_rfl) (by kernel_rfl) (by kernel_rfl)) ?_
  intro W base args ds gs before hval0 hW hcnd _
  have hval : ∀ (j : Nat) t v, Try.f4.params[j]? = some t → args[j]? = some v → Value.okWide Try.prog W .any base t v := hval0
  have hW' : DataW.Whole enc Try.prog Try.f4.params.toList Rows.aliasPicksSpec.vars false W args.toList ds gs before := hW
  obtain ⟨p, q, hA0, hV, hpq, hfz, hnd⟩ := hW
  have hA : DataW.TrodAll enc Try.prog W 0 (fun _ => true) true Try.f4.params.toList args.toList ds p := hA0
  rw [Try.params4] at hA hval
  obtain ⟨v0, vs0, d0, ds0, p0, q0, hargs, rfl, rfl, t0, r0⟩ := trodAll_cons hA
  obtain ⟨v1, vs1, d1, ds1, p1, q1, rfl, rfl, rfl, t1, r1⟩ := trodAll_cons r0
  obtain ⟨v2, vs2, d2, ds2, p2, q2, rfl, rfl, rfl, t2, r2⟩ := trodAll_cons r1
  obtain ⟨v3, vs3, d3, ds3, p3, q3, rfl, rfl, rfl, t3, r3⟩ := trodAll_cons r2
  obtain ⟨rfl, rfl, rfl⟩ := trodAll_nil r3
  obtain rfl : args = #[v0, v1, v2, v3] := by cases args; simp_all
  obtain ⟨a0, A0, n0, c0, cs0, os0, rfl, h0, k0, m0⟩ := open_tab12 (hval 0 27 v0 rfl rfl) t0
  obtain ⟨a1, rfl, h1⟩ := open_u64 (hval 1 24 v1 rfl rfl) t1
  obtain ⟨a2, rfl, h2, k2⟩ := open_i64 (hval 2 3 v2 rfl rfl) t2
  obtain ⟨A3, n3, c3, xs3, rfl, h3, k3, m3, l3⟩ := open_u64s (hval 3 22 v3 rfl rfl) t3
  have hwalk : Calls Try.prog 4 #[.agg #[.int .u64 (a0 : Int), .slice A0 n0 c0], .int .u64 (a1 : Int), .int .i64 a2, .slice A3 n3 c3] W fun e w' => e = .returned (.bool true) ∧ Below W.heap.size W w' := aliasPicks_all W a0 A0 n0 c0 cs0 os0 a1 a2 A3 n3 c3 xs3 h0 k0 m0 h1 h2 k2 h3 k3 m3 l3
  refine hwalk.mono fun e W' ⟨he, hg⟩ => ?_
  subst he
  exact ⟨_, rfl, law_post laid_out (by kernel_rfl) Try.underlying4 (by kernel_rfl) rfl hW' rfl hg⟩

theorem aliasPicks_over : Rows.aliasPicksRow.holds Try.pinned (OpenSpec.ofChange Rows.aliasPicksSpec) :=
  OpenClaim.holds_of_wide 4 Try.f4 rfl rfl rfl rfl rfl rfl rfl ⟨rfl, rfl, rfl, rfl, rfl⟩ rfl rfl rfl rfl rfl (by kernel_rfl) Try.func4 (by kernel_rfl)
    (of_decide_eq_true (by kernel_rfl)) (by unfold Func.isWrapper; first | (rw [if_pos (by decide +kernel)]; kernel_rfl) | (rw [if_neg (by decide +kernel)]; exact ⟨rfl, rfl⟩))
    (fun os started H enc _ => aliasPicks_lifted os started H enc)

theorem aliasPicks_holds : Rows.AliasPicksSaid :=
  aliasPicks_over

end Go.Proofs.Ytcanahjilfnijaa
