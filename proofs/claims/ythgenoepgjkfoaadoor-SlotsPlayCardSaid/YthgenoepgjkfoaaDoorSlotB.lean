/-
  Slots: the places in memory; math/bits.TrailingZeros64; is a place taken, turned.
-/
import Derived.Test.YthgenoepgjkfoaaDoorSlotA
import Derived.Test.YthgenoepgjkfoaaDoorMB
import Derived.Test.YthgenoepgjkfoaaDoorSrcA
import Derived.Test.YthgenoepgjkfoaaDoorSkip
import Derived.Test.YthgenoepgjkfoaaDoorProg
import Derived.Deep.RegionHeld3
import Derived.Shelf.Spec.TrailingZeros
import Derived.Deep.MidRow
namespace Go.Proofs.YthgenoepgjkfoaaDoor
open Go.RowKit
set_option maxRecDepth 100000

/-- The library's table is what its text lays. -/
def Tab11 (w : World) : Prop := TabAt 0 Lib.deBruijn64tab w
theorem Tab11.below {w w' : World} {B : Nat} (h : Tab11 w) (hb : Below B w w') (hB : 0 < B) : Tab11 w' := fun j hj => (hb.cell hB).trans (h j hj)
theorem Tab11.same {w w' : World} (h : Tab11 w) (hs : Same (fun p => p.block = 0) w w') : Tab11 w' := fun j hj => hs.cell _ _ rfl (h j hj)

theorem tz11_zero (w : World) : Calls Tryd.prog 18 #[.int .u64 0] w fun e w' => e = .returned (.int .i64 64) ∧ w' = w := by
  go_enter Tryd.func18, Tryd.ntmps18
  go_wp2
  go_ret
  exact ⟨rfl, rfl⟩
set_option maxHeartbeats 1000000 in
theorem tz11_core (x k idx : Nat) (w : World) (hx0 : ((x : Int) == 0) = false)
    (key : IntKind.u64.wrap (bits BinOp.and IntKind.u64 (x : Int) (IntKind.u64.wrap (-(x : Int))) * 285870213051353865) / 288230376151711744 = (idx : Int))
    (hi : idx < 64) (hk : k < 64) (hcell : w.cell? ⟨0, idx, none⟩ = some (.int .u8 k)) :
    Calls Tryd.prog 18 #[.int .u64 x] w fun e w' => e = .returned (.int .i64 k) ∧ w' = w := by
  go_enter Tryd.func18, Tryd.ntmps18
  go_wp2_with (simp only [key])
  go_ret
  exact ⟨rfl, rfl⟩
/-- math/bits.TrailingZeros64. -/
theorem tz11 (x : Nat) (hx : x < 18446744073709551616) (w : World) (hT : Tab11 w) :
    Calls Tryd.prog 18 #[.int .u64 x] w fun e w' => e = .returned (.int .i64 ((Lib.ctz 64 x : Nat) : Int)) ∧ w' = w := by
  by_cases hx0 : x = 0
  · subst hx0
    exact tz11_zero w
  · obtain ⟨hlow, hk⟩ := Lib.lowest_bit 64 x hx0 hx
    obtain ⟨hi, htab⟩ := Lib.deBruijn64_at _ hk
    have hcell := hT _ hi
    rw [htab] at hcell
    exact tz11_core x _ _ w (by simp; omega) (tz64_key x _ hx hx0 hlow) hi hk hcell

/-- Block g is places: rows S, of n. -/
def Sb (w : World) (g n : Nat) (S : Nat → Nat) : Prop :=
  ∃ cs : Array Value, Blk w g 45 cs ∧ cs.size = 65 ∧ (∀ i, i < 64 → cs[i]? = some (.int .u64 ((S i : Nat) : Int))) ∧ cs[64]? = some (.int .i64 (n : Int))
section
variable {w w' : World} {g n : Nat} {S : Nat → Nat}
theorem Sb.lt (h : Sb w g n S) : g < w.heap.size := by
  obtain ⟨cs, h, _⟩ := h
  exact h.lt
theorem Sb.below (h : Sb w g n S) (hb : Below w.heap.size w w') : Sb w' g n S := by
  obtain ⟨cs, h1, h2⟩ := h
  exact ⟨cs, h1.below hb h1.lt, h2⟩
theorem Sb.grown {row : Option Nat} (h : Sb w g n S) (hb : w.grownBy w' row) (hr : some g ≠ row) : Sb w' g n S := by
  obtain ⟨cs, h1, h2⟩ := h
  exact ⟨cs, h1.grown hb hr, h2⟩
theorem Sb.quiet (h : Sb w g n S) (hb : w.grownBy w' none) : Sb w' g n S := h.grown hb (by simp)
theorem Sb.row (h : Sb w g n S) {i : Nat} (hi : i < 64) : w.cell? ⟨g, i, none⟩ = some (.int .u64 ((S i : Nat) : Int)) := by
  obtain ⟨cs, h1, h2, h3, _⟩ := h
  rw [h1.cell]
  exact h3 i hi
theorem Sb.places (h : Sb w g n S) : w.cell? ⟨g, 64, none⟩ = some (.int .i64 (n : Int)) := by
  obtain ⟨cs, h1, h2, h3, h4⟩ := h
  rw [h1.cell]
  exact h4
theorem Sb.frozen (h : Sb w g n S) (i : Nat) : w.frozen? ⟨g, i, none⟩ = false := by
  obtain ⟨cs, h1, _⟩ := h
  exact h1.frozen i
theorem Sb.put (h : Sb w g n S) {k : Nat} (hk : k < 64) (v : Nat) : Sb (w.setCell ⟨g, k, none⟩ (.int .u64 ((v : Nat) : Int))) g n (updS S k v) := by
  obtain ⟨cs, h1, h2, h3, h4⟩ := h
  refine ⟨_, h1.set_ k _, by simp [h2], fun i hi => ?_, ?_⟩
  · by_cases e : i = k
    · subst e
      rw [Array.getElem?_setIfInBounds_self_of_lt (by omega)]
      unfold updS
      rw [if_pos rfl]
    · rw [Array.getElem?_setIfInBounds_ne (by omega), h3 i hi]
      unfold updS
      rw [if_neg e]
  · rw [Array.getElem?_setIfInBounds_ne (by omega), h4]
end
/-- The rows, as values. -/
def vals11 (S : Nat → Nat) : List Value := (List.range 64).map fun i => .int .u64 ((S i : Nat) : Int)
theorem vals11_len (S : Nat → Nat) : (vals11 S).length = 64 := by simp [vals11]
theorem vals11_get (S : Nat → Nat) {i : Nat} (h : i < 64) : (vals11 S)[i]? = some (.int .u64 ((S i : Nat) : Int)) := by
  simp [vals11, h]
theorem Sb.range {w : World} {g n : Nat} {S : Nat → Nat} (h : Sb w g n S) : w.rangeAt g 0 (vals11 S) := fun j v hv => by
  have hj : j < 64 := by
    have := (List.getElem?_eq_some_iff.1 hv).1
    rw [vals11_len] at this
    exact this
  rw [vals11_get S hj] at hv
  rw [Nat.zero_add, ← hv]
  exact h.row hj

theorem bit11_is (x k : Nat) (hx : x < 2 ^ 64) : (bits BinOp.and IntKind.u64 ((x : Int) / 2 ^ k) 1 == 1) = x.testBit k := by
  have e : (x : Int) / 2 ^ k = ((x / 2 ^ k : Nat) : Int) := by simp
  have e1 : (1 : Int) = ((1 : Nat) : Int) := rfl
  rw [e, e1, bits_and_u64_nat _ 1 (Nat.lt_of_le_of_lt (Nat.div_le_self _ _) hx) (by omega), Nat.testBit_eq_decide_div_mod_eq, Nat.and_one_is_mod]
  obtain ⟨m, hm⟩ : ∃ m, x / 2 ^ k % 2 = m := ⟨_, rfl⟩
  rw [hm]
  rw [Bool.eq_iff_iff]
  simp
  omega
set_option maxHeartbeats 2000000 in
theorem hasP11 {g n i : Nat} {S : Nat → Nat} (w : World) (h : Sb w g n S) (hf : ∀ r, S r < 2 ^ 64) (hi : i < 4096) :
    Calls Tryd.prog 20 #[.pointer (some ⟨g, 0, none⟩), .int .i64 (i : Int)] w fun e w' => e = .returned (.bool ((S (i / 64)).testBit (i % 64))) ∧ w' = w := by
  have hc := h.row (show i / 64 < 64 by omega)
  clear h
  go_enter Tryd.func20, Tryd.ntmps20
  go_wp2_with fail
  go_ret
  exact ⟨congrArg (fun b => Ending.returned (.bool b)) (bit11_is _ _ (hf _)), rfl⟩
theorem lack11_xor {x : Nat} (h : x < 18446744073709551616) : bits BinOp.xor IntKind.u64 IntKind.u64.max (x : Int) = ((lack11 x : Nat) : Int) := by
  have e : IntKind.u64.max = ((18446744073709551615 : Nat) : Int) := rfl
  rw [e, bits_xor_u64_nat _ x (by omega) h]
  congr 1
  apply Nat.eq_of_testBit_eq
  intro k
  rw [Nat.testBit_xor, show (18446744073709551615 : Nat) = 2 ^ 64 - 1 by decide, Nat.testBit_two_pow_sub_one]
  rcases Nat.lt_or_ge k 64 with h1 | h1
  · rw [lack11_bit h h1]
    simp [h1]
  · have h2 : ¬ k < 64 := by omega
    rw [Nat.testBit_lt_two_pow (Nat.lt_of_lt_of_le (show x < 2 ^ 64 from h) (Nat.pow_le_pow_right (by decide) h1)), Nat.testBit_lt_two_pow (Nat.lt_of_lt_of_le (lack11_lt x) (Nat.pow_le_pow_right (by decide) h1))]
    simp [h2]
/-- Block g is places: T, of n. -/
def Sl (w : World) (g n : Nat) (T : Nat → Bool) : Prop := ∃ S, Sb w g n S ∧ Good11 S n T
section
variable {w w' : World} {g n : Nat} {T : Nat → Bool}
theorem Sl.lt (h : Sl w g n T) : g < w.heap.size := by
  obtain ⟨S, h, _⟩ := h
  exact h.lt
theorem Sl.below (h : Sl w g n T) (hb : Below w.heap.size w w') : Sl w' g n T := by
  obtain ⟨S, h1, h2⟩ := h
  exact ⟨S, h1.below hb, h2⟩
theorem Sl.grown {row : Option Nat} (h : Sl w g n T) (hb : w.grownBy w' row) (hr : some g ≠ row) : Sl w' g n T := by
  obtain ⟨S, h1, h2⟩ := h
  exact ⟨S, h1.grown hb hr, h2⟩
theorem Sl.quiet (h : Sl w g n T) (hb : w.grownBy w' none) : Sl w' g n T := h.grown hb (by simp)
theorem Sl.many (h : Sl w g n T) : n ≤ 4096 := by
  obtain ⟨S, h1, h2⟩ := h
  exact h2.many
theorem Sl.most (h : Sl w g n T) {i : Nat} (hi : T i = true) : i < n := by
  obtain ⟨S, h1, h2⟩ := h
  exact h2.most i hi
end
set_option maxHeartbeats 2000000 in
theorem has11_bit {g n i : Nat} {T : Nat → Bool} (w : World) (h : Sl w g n T) (hi : i < n) :
    Calls Tryd.prog 20 #[.pointer (some ⟨g, 0, none⟩), .int .i64 (i : Int)] w fun e w' => e = .returned (.bool (T i)) ∧ w' = w := by
  obtain ⟨S, h1, h2⟩ := h
  have hm := h2.many
  have e : (S (i / 64)).testBit (i % 64) = T i := by
    rw [h2.bit _ _ (by omega) (by omega)]
    congr 1
    omega
  rw [← e]
  exact hasP11 w h1 h2.fits (by omega)
set_option maxHeartbeats 2000000 in
theorem flip11_any {g n i : Nat} {T : Nat → Bool} (w : World) (h : Sl w g n T) (hi : i < n) :
    Calls Tryd.prog 17 #[.pointer (some ⟨g, 0, none⟩), .int .i64 (i : Int)] w fun e w' => e = .returned (.tuple #[]) ∧ Sl w' g n (turn11 T i (!T i)) ∧ w.grownBy w' (some g) := by
  obtain ⟨S, h1, h2⟩ := h
  have hm := h2.many
  have hi4 : i < 4096 := by omega
  have hc := h1.row (show i / 64 < 64 by omega)
  have hfr := h1.frozen (i / 64)
  have hlt : 2 ^ (i % 64) < 2 ^ 64 := Nat.pow_lt_pow_right (by decide) (by omega)
  have hw : IntKind.u64.wrap (2 ^ (i % 64)) = ((2 ^ (i % 64) : Nat) : Int) := by
    rw [IntKind.wrap_u64, show (2 : Int) ^ (i % 64) = ((2 ^ (i % 64) : Nat) : Int) by simp]
    generalize 2 ^ (i % 64) = p at hlt ⊢
    omega
  have hx : bits BinOp.xor IntKind.u64 ((S (i / 64) : Nat) : Int) (IntKind.u64.wrap (2 ^ (i % 64))) = ((S (i / 64) ^^^ 2 ^ (i % 64) : Nat) : Int) := by
    rw [hw]
    exact bits_xor_u64_nat _ _ (h2.fits _) hlt
  have HR : Hid (Sl (w.setCell ⟨g, i / 64, none⟩ (.int .u64 ((S (i / 64) ^^^ 2 ^ (i % 64) : Nat) : Int))) g n (turn11 T i (!T i))) := Lib.hid ⟨_, h1.put (by omega) _, h2.flip hi⟩
  have HX := Lib.hid hx
  clear h1 h2 hlt hw hx
  go_enter Tryd.func17, Tryd.ntmps17
  go_wp2_with fail
  go_region
  go_end0
  rw [HX.out]
  exact ⟨rfl, HR.out.quiet (grown7_drew _ _), (grown7_set w g _ _).trans (grown7_drew _ _)⟩

/-- What the walk asks of a whole row of rows: it is read, and each of it. -/
theorem load11 (w : World) {g n : Nat} {S : Nat → Nat} (h : Sb w g n S) : (Instr.loadAt 43 (.pointer (some ⟨g, 0, none⟩))).run Tryd.prog w = .ok (.agg (vals11 S).toArray) w :=
  run_loadAt_mid w g 0 _ (vals11 S) _ h.range Tryd.underlying43 rfl (by rw [vals11_len]; kernel_rfl)
theorem index11 (S : Nat → Nat) {r : Nat} (hr : r < 64) (w : World) : (Instr.index 43 (.agg (vals11 S).toArray) (.int .i64 (r : Int))).run Tryd.prog w = .ok (.int .u64 ((S r : Nat) : Int)) w := by
  have e : (vals11 S).toArray[r]? = some (.int .u64 ((S r : Nat) : Int)) := by simpa using vals11_get S hr
  obtain ⟨cs, hcs⟩ : ∃ cs, (vals11 S).toArray = cs := ⟨_, rfl⟩
  rw [hcs] at e ⊢
  have h1 : (0 : Int) ≤ (r : Int) ∧ (r : Int) < 64 := by omega
  simp [Instr.index, go_sem, run_underlying Tryd.underlying43, h1, part, e]
  omega
end Go.Proofs.YthgenoepgjkfoaaDoor
