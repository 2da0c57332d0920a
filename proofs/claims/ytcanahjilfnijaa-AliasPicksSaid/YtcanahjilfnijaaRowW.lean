/-
  A table as an argument, opened: its total, and a slice of columns.
-/
import Derived.Test.YtcanahjilfnijaaAliA
import Derived.Test.YtcanahjilfnijaaRow
import Derived.Test.YtcanahjilfnijaaRowB
import Derived.Deep.Slices
import Derived.Deep.Strs
namespace Go.Proofs.Ytcanahjilfnijaa
open Go.ChangeShapes Go.WideShapes Go.ChangeAt Go.RowKit
set_option maxRecDepth 100000

theorem trod_struct12 {P : Program} {H : Type} {enc : TypeId × Value → H} {w : World} {base : Nat} {spare : Nat → Bool} {held : Bool} {t : TypeId} {f0 f1 : Field} {fuel : Nat} {cs : List Value} {x : DataW H × List MemPlace} (ht : P.underlying t = some (.struct #[f0, f1])) (h : DataW.trod enc P w base spare held fuel t cs = some x) :
    ∃ y0 y1 n, cs.length = P.cellsOf t ∧ DataW.trod enc P w base spare held n f0.type ((cs.drop f0.offset).take (P.cellsOf f0.type)) = some y0 ∧
      DataW.trod enc P w base spare held n f1.type ((cs.drop f1.offset).take (P.cellsOf f1.type)) = some y1 := by
  obtain ⟨xs, n, _, rfl, hl, hlen, hf⟩ := DataW.trod_struct ht h
  match xs, hlen with
  | [y0, y1], _ => exact ⟨y0, y1, n, hl, by simpa using hf 0 f0 rfl, by simpa using hf 1 f1 rfl⟩

/-- A slice of columns, wherever it lies. -/
theorem open_cols12 {H : Type} {enc : TypeId × Value → H} {W : World} {v : Value} {f : Nat} {x : DataW H × List MemPlace} (h : DataW.trod enc Try.prog W 0 (fun _ => true) true f 25 [v] = some x) :
    ∃ (A : Option Addr) (n c : Nat) (cs : Nat → Nat) (os : Nat → Int), v = .slice A n c ∧ Cq W W.heap.size A n cs os ∧ (∀ j, j < n → cs j < 18446744073709551616) := by
  rcases Go.Deep.open_slice Try.underlying25 h with ⟨hcs, hx⟩ | ⟨a, len, cap, m, n, D, Pl, hcs, hb, hl, hm, hmm, hx, hel⟩
  · simp at hcs
    subst hcs
    exact ⟨none, 0, 0, fun _ => 0, fun _ => 0, rfl, fun h => absurd h (by omega), fun j hj => by omega⟩
  · simp at hcs
    subst hcs
    simp only [if_true] at hmm
    have each : ∀ i, i < len → ∃ q : Nat × Int, W.cell? (a.add (i * 2)) = some (.int .u64 ((q.1 : Nat) : Int)) ∧ W.cell? (a.add (i * 2 + 1)) = some (.int .i64 q.2) ∧ q.1 < 18446744073709551616 := by
      intro i hi
      obtain ⟨cs', h1, h2⟩ := hel i (by omega)
      rw [show (Try.prog).cellsOf 64 = 2 by kernel_rfl] at h1
      obtain ⟨_, hlen, hcell⟩ := World.cells?_some h1
      match cs', hlen, hcell, h2 with
      | [c0, c1], _, hcell, h2 =>
        obtain ⟨y0, y1, n', _, g0, g1⟩ := trod_struct12 Try.underlying64 h2
        obtain ⟨z, e0, _, w0⟩ := DataW.trod_int Try.underlying24 g0
        obtain ⟨y, e1, _, w1⟩ := DataW.trod_int Try.underlying3 g1
        simp only [show (Try.prog).cellsOf 3 = 1 by kernel_rfl, show (Try.prog).cellsOf 24 = 1 by kernel_rfl] at e0 e1
        simp at e0 e1
        subst e0 e1
        have hz : 0 ≤ z ∧ z ≤ 18446744073709551615 := by simpa [Lit.wf, IntKind.min, IntKind.max, IntKind.signed, IntKind.bits] using w0
        obtain ⟨zn, rfl⟩ := Int.eq_ofNat_of_zero_le hz.1
        have a0 := hcell 0 (by omega)
        have a1 := hcell 1 (by omega)
        rw [Go.Deep.add_add] at a0 a1
        exact ⟨(zn, y), by simpa using a0, by simpa using a1, by simp only; omega⟩
    obtain ⟨q, hq⟩ := Go.Deep.choose_lt each
    refine ⟨some a, len, cap, fun j => (q j).1, fun j => (q j).2, rfl, fun hn => ?_, fun j hj => (hq j hj).2.2⟩
    obtain ⟨b, off, spot⟩ := a
    have hspot : spot = none := by
      have := (hq 0 hn).1
      simpa [Addr.add] using World.cell?_spot this
    subst hspot
    refine ⟨b, off, rfl, ?_, fun k hk => ?_⟩
    · have := (hq 0 hn).1
      simpa [Addr.add] using World.block_lt_of_cell? W _ this
    · have h3 := hq k hk
      simp only [Go.WideShapes.add_plain] at h3
      exact ⟨h3.1, by simpa only [Nat.add_assoc] using h3.2.1⟩

theorem open_tab12 {H : Type} {enc : TypeId × Value → H} {W : World} {base : Nat} {v : Value} {d : DataW H} {p : List MemPlace} (hv : Value.okWide Try.prog W .any base 27 v) (h : DataW.Trod enc Try.prog W 0 (fun _ => true) true 27 v d p) :
    ∃ (t : Nat) (A : Option Addr) (n c : Nat) (cs : Nat → Nat) (os : Nat → Int), v = .agg #[.int .u64 (t : Int), .slice A n c] ∧ t < 18446744073709551616 ∧ Cq W W.heap.size A n cs os ∧ (∀ j, j < n → cs j < 18446744073709551616) := by
  obtain ⟨c0, c1, y0, y1, m, rfl, _, _, hy0, hy1⟩ := Go.Joins.open_agg2 Try.underlying27 (by kernel_rfl) (by kernel_rfl) hv h
  obtain ⟨a, e0, _, wa⟩ := DataW.trod_int Try.underlying24 hy0
  simp at e0
  subst e0
  have x : 0 ≤ a ∧ a ≤ 18446744073709551615 := by simpa [Lit.wf, IntKind.min, IntKind.max, IntKind.signed, IntKind.bits] using wa
  obtain ⟨t, rfl⟩ := Int.eq_ofNat_of_zero_le x.1
  obtain ⟨A, n, c, cs, os, rfl, h1, h2⟩ := open_cols12 hy1
  exact ⟨t, A, n, c, cs, os, rfl, by omega, h1, h2⟩
end Go.Proofs.Ytcanahjilfnijaa
