/-
  A slice of arrows as an argument, opened.
-/
import Derived.Test.YtojdgcalpdbifaaDagA
import Derived.Test.YtojdgcalpdbifaaRow
import Derived.Test.YtojdgcalpdbifaaRowB
import Derived.Deep.Slices
import Derived.Deep.Strs
namespace Go.Proofs.Ytojdgcalpdbifaa
open Go.ChangeShapes Go.WideShapes Go.ChangeAt Go.RowKit
set_option maxRecDepth 100000

theorem trod_struct13 {P : Program} {H : Type} {enc : TypeId × Value → H} {w : World} {base : Nat} {spare : Nat → Bool} {held : Bool} {t : TypeId} {f0 f1 : Field} {fuel : Nat} {cs : List Value} {x : DataW H × List MemPlace} (ht : P.underlying t = some (.struct #[f0, f1])) (h : DataW.trod enc P w base spare held fuel t cs = some x) :
    ∃ y0 y1 n, cs.length = P.cellsOf t ∧ DataW.trod enc P w base spare held n f0.type ((cs.drop f0.offset).take (P.cellsOf f0.type)) = some y0 ∧
      DataW.trod enc P w base spare held n f1.type ((cs.drop f1.offset).take (P.cellsOf f1.type)) = some y1 := by
  obtain ⟨xs, n, _, rfl, hl, hlen, hf⟩ := DataW.trod_struct ht h
  match xs, hlen with
  | [y0, y1], _ => exact ⟨y0, y1, n, hl, by simpa using hf 0 f0 rfl, by simpa using hf 1 f1 rfl⟩

theorem open_arrs13 {H : Type} {enc : TypeId × Value → H} {W : World} {base : Nat} {v : Value} {d : DataW H} {p : List MemPlace} (hv : Value.okWide Try.prog W .any base 22 v) (h : DataW.Trod enc Try.prog W 0 (fun _ => true) true 22 v d p) :
    ∃ (A : Option Addr) (n c : Nat) (l : List (Int × Int)), v = .slice A n c ∧ l.length = n ∧ Aq W W.heap.size A l := by
  obtain ⟨a0, len, cap, rfl⟩ := okWide_slice Try.underlying22 hv
  obtain ⟨fuel, hf⟩ := h
  rcases Go.Deep.open_slice Try.underlying22 hf with ⟨hcs, hx⟩ | ⟨a, len', cap', m, n, D, Pl, hcs, hb, hl, hm, hmm, hx, hel⟩
  · simp [Value.cells] at hcs
    obtain ⟨rfl, rfl, rfl⟩ := hcs
    exact ⟨none, 0, 0, [], rfl, rfl, fun h => absurd rfl h⟩
  · simp [Value.cells] at hcs
    obtain ⟨rfl, rfl, rfl⟩ := hcs
    simp only [if_true] at hmm
    have each : ∀ i, i < len → ∃ q : Int × Int, W.cell? (a.add (i * 2)) = some (.int .i64 q.1) ∧ W.cell? (a.add (i * 2 + 1)) = some (.int .i64 q.2) := by
      intro i hi
      obtain ⟨cs', h1, h2⟩ := hel i (by omega)
      rw [show (Try.prog).cellsOf 39 = 2 by kernel_rfl] at h1
      obtain ⟨_, hlen, hcell⟩ := World.cells?_some h1
      match cs', hlen, hcell, h2 with
      | [c0, c1], _, hcell, h2 =>
        obtain ⟨y0, y1, n', _, g0, g1⟩ := trod_struct13 Try.underlying39 h2
        obtain ⟨x, e0, _, w0⟩ := DataW.trod_int Try.underlying3 g0
        obtain ⟨y, e1, _, w1⟩ := DataW.trod_int Try.underlying3 g1
        simp only [show (Try.prog).cellsOf 3 = 1 by kernel_rfl] at e0 e1
        simp at e0 e1
        subst e0 e1
        have a0 := hcell 0 (by omega)
        have a1 := hcell 1 (by omega)
        rw [Go.Deep.add_add] at a0 a1
        exact ⟨(x, y), by simpa using a0, by simpa using a1⟩
    obtain ⟨q, hq⟩ := Go.Deep.choose_lt each
    refine ⟨some a, len, cap, (List.range len).map q, rfl, by simp, fun hne => ?_⟩
    have hpos : 0 < len := by
      rcases Nat.eq_zero_or_pos len with h0 | h0
      · subst h0
        exact absurd rfl hne
      · exact h0
    obtain ⟨b, off, spot⟩ := a
    have hspot : spot = none := by
      have := (hq 0 hpos).1
      simpa [Addr.add] using World.cell?_spot this
    subst hspot
    refine ⟨b, off, rfl, ?_, fun k v hk => ?_⟩
    · have := (hq 0 hpos).1
      simpa [Addr.add] using World.block_lt_of_cell? W _ this
    · have hll : ((List.range len).map q).length = len := by simp
      have hkl : k < len * 2 := by
        have := (List.getElem?_eq_some_iff.1 hk).1
        rw [acs_len, hll] at this
        exact this
      have harr : ∀ j, j < len → arr ((List.range len).map q) j = q j := fun j hj => by simp [arr, hj]
      rcases (show k = k / 2 * 2 ∨ k = k / 2 * 2 + 1 by omega) with e | e
      · have h3 := (hq (k / 2) (by omega)).1
        have h4 := (acs_get (l := (List.range len).map q) (j := k / 2) (by rw [hll]; omega)).1
        rw [← e] at h3 h4
        rw [h4, harr _ (by omega)] at hk
        injection hk with hk
        rw [← hk]
        simpa only [Go.WideShapes.add_plain] using h3
      · have h3 := (hq (k / 2) (by omega)).2
        have h4 := (acs_get (l := (List.range len).map q) (j := k / 2) (by rw [hll]; omega)).2
        rw [← e] at h3 h4
        rw [h4, harr _ (by omega)] at hk
        injection hk with hk
        rw [← hk]
        simpa only [Go.WideShapes.add_plain] using h3
end Go.Proofs.Ytojdgcalpdbifaa
