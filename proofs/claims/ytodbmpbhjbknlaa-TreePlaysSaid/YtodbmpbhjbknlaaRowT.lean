/-
  A slice of calls of a source as an argument, opened: each has two ints and a slice of words.
-/
import Derived.Test.YtodbmpbhjbknlaaRowB
import Derived.Test.YtodbmpbhjbknlaaMemU
import Derived.Deep.Slices
import Derived.Deep.Strs
namespace Go.Proofs.Ytodbmpbhjbknlaa
open Go.ChangeShapes Go.WideShapes Go.ChangeAt Go.RowKit
set_option maxRecDepth 100000

/-- The slice at A reads as n calls: kinds K, places T, slices S, which read as the words X. -/
def Acts7 (w : World) (A : Option Addr) (n : Nat) (K T : Nat → Int) (S : Nat → Option Addr × Nat × Nat) (X : Nat → List Nat) : Prop :=
  0 < n → ∃ b o, A = some ⟨b, o, none⟩ ∧ b < w.heap.size ∧ ∀ k, k < n → w.cell? ⟨b, o + k * 3, none⟩ = some (.int .i64 (K k)) ∧ w.cell? ⟨b, o + k * 3 + 1, none⟩ = some (.int .i64 (T k)) ∧
    w.cell? ⟨b, o + k * 3 + 2, none⟩ = some (.slice (S k).1 (S k).2.1 (S k).2.2) ∧ (X k).length = (S k).2.1 ∧ Rq w w.heap.size (S k).1 (X k)
theorem Acts7.below {w w' : World} {A : Option Addr} {n : Nat} {K T : Nat → Int} {S : Nat → Option Addr × Nat × Nat} {X : Nat → List Nat} (h : Acts7 w A n K T S X) (hb : Below w.heap.size w w') : Acts7 w' A n K T S X := fun hn => by
  obtain ⟨b, o, h1, h2, h3⟩ := h hn
  refine ⟨b, o, h1, Nat.lt_of_lt_of_le h2 hb.size, fun k hk => ?_⟩
  obtain ⟨a0, a1, a2, a3, a4⟩ := h3 k hk
  exact ⟨(hb.cell h2).trans a0, (hb.cell h2).trans a1, (hb.cell h2).trans a2, a3, Rv.step a4 hb⟩

/-- A slice of words, wherever it lies. -/
theorem open_wc {H : Type} {enc : TypeId × Value → H} {W : World} {v : Value} {n : Nat} {x : DataW H × List MemPlace} (h : DataW.trod enc Try.prog W 0 (fun _ => true) true n 29 [v] = some x) :
    ∃ (A : Option Addr) (n c : Nat) (xs : List Nat), v = .slice A n c ∧ xs.length = n ∧ Rq W W.heap.size A xs := by
  rcases open_ints Try.underlying29 Try.underlying30 (by kernel_rfl) h with ⟨hcs, hx⟩ | ⟨a, len, cap, zs, hcs, _, hl, hm, hz, hx, hcell, hwz⟩
  · simp at hcs
    subst hcs
    exact ⟨none, 0, 0, [], rfl, rfl, Rq.nil _ _ _⟩
  · simp at hcs
    subst hcs
    simp only [if_true] at hz
    have bnd : ∀ z ∈ zs, 0 ≤ z ∧ z ≤ 18446744073709551615 := fun z hz' => by
      have h5 := hwz z hz'
      simpa [Lit.wf, IntKind.min, IntKind.max, IntKind.signed, IntKind.bits] using h5
    have hlen : ((zs.take len).map Int.toNat).length = len := by simp; omega
    refine ⟨some a, len, cap, (zs.take len).map Int.toNat, rfl, hlen, Rq.of_ru fun hne => ?_⟩
    have hpos : 0 < zs.length := by
      rcases Nat.eq_zero_or_pos zs.length with h0 | h0
      · rw [List.eq_nil_of_length_eq_zero h0] at hne; simp at hne
      · exact h0
    obtain ⟨b, off, rfl, hc⟩ := ints_at hcell hpos
    refine ⟨b, off, rfl, fun k hk => ?_⟩
    rw [hlen] at hk
    rw [hc k (by omega), nth_in (by omega)]
    have hb := bnd zs[k] (List.getElem_mem (by omega))
    simp only [List.getElem_map, List.getElem_take, List.getD_eq_getElem?_getD, List.getElem?_eq_getElem (show k < zs.length by omega), Option.getD_some]
    rw [Int.toNat_of_nonneg hb.1]

end Go.Proofs.Ytodbmpbhjbknlaa
