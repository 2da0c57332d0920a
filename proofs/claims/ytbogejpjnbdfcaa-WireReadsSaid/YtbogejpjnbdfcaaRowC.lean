/-
  A slice of calls of a reader as an argument, opened.
-/
import Derived.Test.YtbogejpjnbdfcaaRowB
import Derived.Deep.Slices
import Derived.Deep.Strs
namespace Go.Proofs.Ytbogejpjnbdfcaa
open Go.ChangeShapes Go.WideShapes Go.ChangeAt Go.RowKit
set_option maxRecDepth 100000

/-- The slice at A reads as n calls: kinds K, tops T, words U. -/
def Acts (w : World) (A : Option Addr) (n : Nat) (K T : Nat → Int) (U : Nat → Nat) : Prop :=
  0 < n → ∃ b o, A = some ⟨b, o, none⟩ ∧ b < w.heap.size ∧ ∀ k, k < n → w.cell? ⟨b, o + k * 3, none⟩ = some (.int .i64 (K k)) ∧ w.cell? ⟨b, o + k * 3 + 1, none⟩ = some (.int .i64 (T k)) ∧ w.cell? ⟨b, o + k * 3 + 2, none⟩ = some (.int .u64 (U k : Int))
theorem Acts.below {w w' : World} {A : Option Addr} {n : Nat} {K T : Nat → Int} {U : Nat → Nat} (h : Acts w A n K T U) (hb : Below w.heap.size w w') : Acts w' A n K T U := fun hn => by
  obtain ⟨b, o, h1, h2, h3⟩ := h hn
  exact ⟨b, o, h1, Nat.lt_of_lt_of_le h2 hb.size, fun k hk => ⟨(hb.cell h2).trans (h3 k hk).1, (hb.cell h2).trans (h3 k hk).2.1, (hb.cell h2).trans (h3 k hk).2.2⟩⟩

theorem open_acts {H : Type} {enc : TypeId × Value → H} {W : World} {base : Nat} {v : Value} {d : DataW H} {p : List MemPlace} (hv : Value.okWide Try.prog W .any base 30 v) (h : DataW.Trod enc Try.prog W 0 (fun _ => true) true 30 v d p) :
    ∃ (A : Option Addr) (n c : Nat) (xs : (Nat → Int) × (Nat → Int) × (Nat → Nat)), v = .slice A n c ∧ Acts W A n xs.1 xs.2.1 xs.2.2 ∧ (∀ k, k < n → xs.2.1 k ≤ 9223372036854775807 ∧ xs.2.2 k < 18446744073709551616) ∧ n ≤ maxLen := by
  obtain ⟨a0, len, cap, rfl⟩ := okWide_slice Try.underlying30 hv
  obtain ⟨fuel, hf⟩ := h
  rcases Go.Deep.open_slice Try.underlying30 hf with ⟨hcs, hx⟩ | ⟨a, len', cap', m, n, D, Pl, hcs, hb, hl, hm, hmm, hx, hel⟩
  · simp [Value.cells] at hcs
    obtain ⟨rfl, rfl, rfl⟩ := hcs
    exact ⟨none, 0, 0, (fun _ => 0, fun _ => 0, fun _ => 0), rfl, fun h => absurd h (by omega), fun k hk => absurd hk (by omega), by simp⟩
  · simp [Value.cells] at hcs
    obtain ⟨rfl, rfl, rfl⟩ := hcs
    simp only [if_true] at hmm
    have each : ∀ i, i < len → ∃ q : Int × Int × Nat, (W.cell? (a.add (i * 3)) = some (.int .i64 q.1) ∧ W.cell? (a.add (i * 3 + 1)) = some (.int .i64 q.2.1) ∧ W.cell? (a.add (i * 3 + 2)) = some (.int .u64 (q.2.2 : Int))) ∧ q.2.1 ≤ 9223372036854775807 ∧ q.2.2 < 18446744073709551616 := by
      intro i hi
      obtain ⟨cs', h1, h2⟩ := hel i (by omega)
      rw [show (Try.prog).cellsOf 36 = 3 by kernel_rfl] at h1
      obtain ⟨_, hlen, hcell⟩ := World.cells?_some h1
      match cs', hlen, hcell, h2 with
      | [c0, c1, c2], _, hcell, h2 =>
        obtain ⟨y0, y1, y2, n', _, _, g0, g1, g2⟩ := Go.Deep.trod_struct3 Try.underlying36 h2
        obtain ⟨x, e0, _, w0⟩ := DataW.trod_int Try.underlying3 g0
        obtain ⟨y, e1, _, w1⟩ := DataW.trod_int Try.underlying3 g1
        obtain ⟨z, e2, _, w2⟩ := DataW.trod_int Try.underlying26 g2
        simp only [show (Try.prog).cellsOf 3 = 1 by kernel_rfl, show (Try.prog).cellsOf 26 = 1 by kernel_rfl] at e0 e1 e2
        simp at e0 e1 e2
        subst e0 e1 e2
        have q1 : -9223372036854775808 ≤ y ∧ y ≤ 9223372036854775807 := by simpa [Lit.wf, IntKind.min, IntKind.max, IntKind.signed, IntKind.bits] using w1
        have q2 : 0 ≤ z ∧ z ≤ 18446744073709551615 := by simpa [Lit.wf, IntKind.min, IntKind.max, IntKind.signed, IntKind.bits] using w2
        have a0 := hcell 0 (by omega)
        have a1 := hcell 1 (by omega)
        have a2 := hcell 2 (by omega)
        rw [Go.Deep.add_add] at a0 a1 a2
        refine ⟨(x, y, z.toNat), ⟨by simpa using a0, by simpa using a1, ?_⟩, q1.2, by simp only; omega⟩
        simp only [Int.toNat_of_nonneg q2.1]
        simpa using a2
    obtain ⟨q, hq⟩ := Go.Deep.choose_lt each
    refine ⟨some a, len, cap, (fun k => (q k).1, fun k => (q k).2.1, fun k => (q k).2.2), rfl, fun hn => ?_, fun k hk => (hq k hk).2, by omega⟩
    obtain ⟨b, off, spot⟩ := a
    have hspot : spot = none := by
      have := (hq 0 hn).1.1
      simpa [Addr.add] using World.cell?_spot this
    subst hspot
    refine ⟨b, off, rfl, ?_, fun k hk => ?_⟩
    · have := (hq 0 hn).1.1
      simpa [Addr.add] using World.block_lt_of_cell? W _ this
    · have h3 := (hq k hk).1
      simp only [Go.WideShapes.add_plain] at h3
      simpa only [Nat.add_assoc] using h3
end Go.Proofs.Ytbogejpjnbdfcaa
