/-
  For any list of words, any place and any total: what is taken off a source of the list at the place is what the first word from there on tells that is taken, and the source then stands behind that word; where there is none, and for the total 0, the place is as it was; Least counts the words up to that one; of nobody's source nothing is taken. No conditions.
-/
import Derived.Test.YtengcnchjpkhkaaLawDrawF
import Derived.Test.YtengcnchjpkhkaaRowB
namespace Go.Proofs.Ytengcnchjpkhkaa
open Go.ChangeShapes Go.WideShapes Go.ChangeAt Go.RowKit
set_option maxRecDepth 100000

/-- A slice of uint64, opened, with its capacity. -/
theorem open_u64s8 {H : Type} {enc : TypeId × Value → H} {W : World} {base : Nat} {v : Value} {d : DataW H} {p : List MemPlace} (hv : Value.okWide Try.prog W .any base 39 v) (h : DataW.Trod enc Try.prog W 0 (fun _ => true) true 39 v d p) :
    ∃ (A : Option Addr) (n c : Nat) (xs : List Nat), v = .slice A n c ∧ xs.length = n ∧ Ru W A xs ∧ (∀ x ∈ xs, x < 18446744073709551616) ∧ n ≤ c := by
  obtain ⟨a0, len, cap, rfl⟩ := okWide_slice Try.underlying39 hv
  obtain ⟨fuel, hf⟩ := h
  rcases open_ints Try.underlying39 Try.underlying22 (by kernel_rfl) hf with ⟨hcs, hx⟩ | ⟨a, len', cap', zs, hcs, _, hl, hm, hz, hx, hcell, hwz⟩
  · simp [Value.cells] at hcs
    obtain ⟨rfl, rfl, rfl⟩ := hcs
    exact ⟨none, 0, 0, [], rfl, rfl, Ru.nil _ _, by simp, Nat.le_refl _⟩
  · simp [Value.cells] at hcs
    obtain ⟨rfl, rfl, rfl⟩ := hcs
    simp only [if_true] at hz
    have bnd : ∀ z ∈ zs, 0 ≤ z ∧ z ≤ 18446744073709551615 := fun z hz' => by
      have h5 := hwz z hz'
      simpa [Lit.wf, IntKind.min, IntKind.max, IntKind.signed, IntKind.bits] using h5
    have hlen : ((zs.take len).map Int.toNat).length = len := by simp; omega
    refine ⟨some a, len, cap, (zs.take len).map Int.toNat, rfl, hlen, fun hne => ?_, fun x hx => ?_, hl⟩
    · have hpos : 0 < zs.length := by
        rcases Nat.eq_zero_or_pos zs.length with h0 | h0
        · rw [List.eq_nil_of_length_eq_zero h0] at hne; simp at hne
        · exact h0
      obtain ⟨b, off, rfl, hc⟩ := ints_at hcell hpos
      refine ⟨b, off, rfl, fun k hk => ?_⟩
      rw [hlen] at hk
      rw [hc k (by omega), nth_in (by omega)]
      have hb := bnd zs[k] (List.getElem_mem (by omega))
      simp only [List.getElem_map, List.getElem_take, List.getD_eq_getElem?_getD, List.getElem?_eq_getElem (show k < zs.length by omega), Option.getD_some]
      rw [Int.toNat_of_nonneg hb.1]
    · obtain ⟨z, hz', rfl⟩ := List.mem_map.1 hx
      have hb := bnd z (List.mem_of_mem_take hz')
      omega

theorem drawFrom_all (W : World) (A : Option Addr) (n c : Nat) (xs : List Nat) (p : Int) (t : Nat) (hl : xs.length = n) (hr : Ru W A xs) (hx : ∀ x ∈ xs, x < 18446744073709551616) (hc : n ≤ c) (_ : -9223372036854775808 ≤ p) (_ : p ≤ 9223372036854775807) (ht : t < 18446744073709551616) :
    Calls Try.prog 5 #[.slice A n c, .int .i64 p, .int .u64 (t : Int)] W fun e w' => e = .returned (.bool true) ∧ Below W.heap.size W w' :=
  from8_walk A xs n c t p W hl (Rq.of_ru hr) hx hc ht

set_option maxRecDepth 100000 in
theorem drawFrom_lifted (os : Os) (started : os.Started) (H : Type) (enc : TypeId × Value → H) :
    ReturnsInHanded {} Try.checked os 5 .any (Rows.drawFromSpec.pre6 enc Try.prog Try.f5 Rows.drawFromRow.domain false) (Rows.drawFromSpec.post enc Try.prog Try.f5 false true false false) := by
  refine returnsInHanded_of_change (C := Try.checked) own_knob started (by kernel_rfl) Try.func5
    (ChangeSpec.witness6 (enc := enc) (C := Try.checked) false ⟨#[], #[.slice none 0 0, .int .i64 0, .int .u64 0], []⟩ 8 (by kernel_rfl) (by kernel_rfl) (by kernel_rfl) (by kernel_rfl)) ?_
  intro W base args ds gs before hval0 hW hcnd _
  have hval : ∀ (j : Nat) t v, Try.f5.params[j]? = some t → args[j]? = some v → Value.okWide Try.prog W .any base t v := hval0
  have hW' : DataW.Whole enc Try.prog Try.f5.params.toList Rows.drawFromSpec.vars false W args.toList ds gs before := hW
  obtain ⟨p, q, hA0, hV, hpq, hfz, hnd⟩ := hW
  have hA : DataW.TrodAll enc Try.prog W 0 (fun _ => true) true Try.f5.params.toList args.toList ds p := hA0
  rw [Try.params5] at hA hval
  obtain ⟨v0, vs0, d0, ds0, p0, q0, hargs, rfl, rfl, t0, r0⟩ := trodAll_cons hA
  obtain ⟨v1, vs1, d1, ds1, p1, q1, rfl, rfl, rfl, t1, r1⟩ := trodAll_cons r0
  obtain ⟨v2, vs2, d2, ds2, p2, q2, rfl, rfl, rfl, t2, r2⟩ := trodAll_cons r1
  obtain ⟨rfl, rfl, rfl⟩ := trodAll_nil r2
  obtain rfl : args = #[v0, v1, v2] := by cases args; simp_all
  obtain ⟨A0, n0, c0, xs0, rfl, h0, k0, m0, l0⟩ := open_u64s8 (hval 0 39 v0 rfl rfl) t0
  obtain ⟨a1, rfl, h1, k1⟩ := open_i64 (hval 1 3 v1 rfl rfl) t1
  obtain ⟨a2, rfl, h2⟩ := open_u64 (hval 2 22 v2 rfl rfl) t2
  have hwalk : Calls Try.prog 5 #[.slice A0 n0 c0, .int .i64 a1, .int .u64 (a2 : Int)] W fun e w' => e = .returned (.bool true) ∧ Below W.heap.size W w' := drawFrom_all W A0 n0 c0 xs0 a1 a2 h0 k0 m0 l0 h1 k1 h2
  refine hwalk.mono fun e W' ⟨he, hg⟩ => ?_
  subst he
  exact ⟨_, rfl, law_post laid_out (by kernel_rfl) Try.underlying4 (by kernel_rfl) rfl hW' rfl hg⟩

theorem drawFrom_over : Rows.drawFromRow.holds Try.pinned (OpenSpec.ofChange Rows.drawFromSpec) :=
  OpenClaim.holds_of_wide 5 Try.f5 rfl rfl rfl rfl rfl rfl rfl ⟨rfl, rfl, rfl, rfl, rfl⟩ rfl rfl rfl rfl rfl (by kernel_rfl) Try.func5 (by kernel_rfl)
    (of_decide_eq_true (by kernel_rfl)) (by unfold Func.isWrapper; first | (rw [if_pos (by decide +kernel)]; kernel_rfl) | (rw [if_neg (by decide +kernel)]; exact ⟨rfl, rfl⟩))
    (fun os started H enc _ => drawFrom_lifted os started H enc)

theorem drawFrom_holds : Rows.DrawFromSaid :=
  drawFrom_over

end Go.Proofs.Ytengcnchjpkhkaa
