/-
  A slice of ints as an argument, opened; what math/bits' table holds where a law begins.
-/
import Derived.Test.YthgenoepgjkfoaaDoorRowB
import Derived.Test.YthgenoepgjkfoaaDoorSlotR
import Derived.LaidMore
import Derived.Lay
import Derived.MakeChecks
import Derived.Lib.LaidTab
namespace Go.Proofs.YthgenoepgjkfoaaDoor
open Go.ChangeShapes Go.WideShapes Go.ChangeAt Go.RowKit
set_option maxRecDepth 100000

/-- The cells of a list of ints, whatever they are. -/
def ints8 (zs : List Int) : List Value := zs.map fun z => Value.int .i64 z
theorem ints8_get {zs : List Int} {k : Nat} (h : k < zs.length) : (ints8 zs)[k]? = some (.int .i64 (zs.getD k 0)) := by
  simp [ints8, h]
theorem open_ints11 {H : Type} {enc : TypeId × Value → H} {W : World} {base : Nat} {v : Value} {d : DataW H} {p : List MemPlace} (hv : Value.okWide Tryd.prog W .any base 22 v) (h : DataW.Trod enc Tryd.prog W 0 (fun _ => true) true 22 v d p) :
    ∃ (A : Option Addr) (n c : Nat) (zs : List Int), v = .slice A n c ∧ zs.length = n ∧ Rv W W.heap.size A (ints8 zs) ∧ n ≤ maxLen := by
  obtain ⟨a0, len, cap, rfl⟩ := okWide_slice Tryd.underlying22 hv
  obtain ⟨fuel, hf⟩ := h
  rcases open_ints Tryd.underlying22 Tryd.underlying3 (by kernel_rfl) hf with ⟨hcs, hx⟩ | ⟨a, len', cap', zs, hcs, hlc, hl, hm, hz, hx, hcell, hwz⟩
  · simp [Value.cells] at hcs
    obtain ⟨rfl, rfl, rfl⟩ := hcs
    exact ⟨none, 0, 0, [], rfl, rfl, Rv.nil _ _ _, by simp⟩
  · simp [Value.cells] at hcs
    obtain ⟨rfl, rfl, rfl⟩ := hcs
    simp only [if_true] at hz
    have hlen : (zs.take len).length = len := by simp; omega
    refine ⟨some a, len, cap, zs.take len, rfl, hlen, fun hne => ?_, by omega⟩
    have hpos : 0 < zs.length := by
      rcases Nat.eq_zero_or_pos zs.length with h0 | h0
      · rw [List.eq_nil_of_length_eq_zero h0] at hne; simp [ints8] at hne
      · exact h0
    obtain ⟨b, off, rfl, hc⟩ := ints_at hcell hpos
    refine ⟨b, off, rfl, ?_, fun k u hk => ?_⟩
    · have := hc 0 hpos
      exact World.block_lt_of_cell? W _ this
    · have hk2 : k < (zs.take len).length := by
        have := (List.getElem?_eq_some_iff.1 hk).1
        simpa [ints8] using this
      rw [ints8_get hk2] at hk
      injection hk with hk
      rw [← hk, hc k (by omega)]
      congr 2
      rw [List.getD_eq_getElem?_getD, List.getD_eq_getElem?_getD, List.getElem?_take]
      rw [if_pos (by omega)]

theorem g11_tab : Tryd.prog.globalNamed "math/bits.deBruijn64tab" = some 0 := by kernel_rfl
theorem tab11_of {W : World} (h : laidMet Tryd.prog [("math/bits.deBruijn64tab", Rows.laid_math_bits_deBruijn64tab)] W) : Tab11 W := by
  have h1 : Lib.TabIs Tryd.prog W "math/bits.deBruijn64tab" .u8 (Lib.deBruijn64tab.map Int.ofNat) :=
    Lib.tabIs_of_head (t := 52) (rest := []) g11_tab (by kernel_rfl) Tryd.underlying52 Tryd.underlying5 (by kernel_rfl) (by kernel_rfl) h
  intro j hj
  rw [World.var?_cell g11_tab h1 j]
  simp [hj]
end Go.Proofs.YthgenoepgjkfoaaDoor
