/-
  Package draw of the program: how many words tell a number, how many are left out, which are taken, and what they tell.
-/
import Derived.Test.YtengcnchjpkhkaaPackA
import Derived.Test.YtengcnchjpkhkaaPackB
namespace Go.Proofs.Ytengcnchjpkhkaa
open Go.RowKit
set_option maxRecDepth 100000

/-- How many words tell one number below t; how many words are left out; where the words that are taken end. -/
def eachN (t : Nat) : Nat := 18446744073709551616 / t
def restN (t : Nat) : Nat := if t = 0 then 0 else 18446744073709551616 % t
def endN (t : Nat) : Nat := eachN t * t
theorem b1d (w : World) (a : Obj) : Below w.heap.size w (w.alloc a) := (Below.refl _ _).alloc (Nat.le_refl _) _
theorem each_zero : eachN 0 = 0 := rfl
theorem rest_zero : restN 0 = 0 := rfl
theorem end_zero : endN 0 = 0 := rfl
theorem whole_split (t : Nat) (h : 0 < t) : 18446744073709551616 = endN t + restN t ∧ restN t < t := by
  have h1 := Nat.div_add_mod 18446744073709551616 t
  have h2 := Nat.mod_lt 18446744073709551616 h
  have h3 : ¬ t = 0 := by omega
  simp only [endN, eachN, restN, h3, if_false]
  rw [Nat.mul_comm]
  exact ⟨h1.symm, h2⟩
theorem each_of {t q r : Nat} (h : 18446744073709551616 = q * t + r) (hr : r < t) : eachN t = q ∧ restN t = r := by
  have h3 : ¬ t = 0 := by omega
  have hp : 0 < t := by omega
  simp only [eachN, restN, h3, if_false]
  rw [h]
  constructor
  · rw [Nat.mul_comm, Nat.mul_add_div hp, Nat.div_eq_of_lt hr, Nat.add_zero]
  · rw [Nat.mul_comm, Nat.mul_add_mod, Nat.mod_eq_of_lt hr]
theorem each_le (t : Nat) : eachN t ≤ 18446744073709551616 := Nat.div_le_self _ _
theorem end_le (t : Nat) : endN t ≤ 18446744073709551616 := Nat.div_mul_le_self _ _
theorem rest_lt (t : Nat) (ht : t < 18446744073709551616) : restN t < 18446744073709551616 := by
  rcases Nat.eq_zero_or_pos t with rfl | h
  · rw [rest_zero]; omega
  · have := (whole_split t h).2; omega

/-- 2^64 by t: each, the rest, and whether t is above 0. -/
def RetSplitB (t : Nat) (w : World) (e : Ending) (w' : World) : Prop :=
  ∃ (H L : Nat) (b : Bool), e = .returned (.tuple #[.agg #[.int .u64 (H : Int), .int .u64 (L : Int)], .int .u64 ((restN t : Nat) : Int), .bool b]) ∧ eachN t = H * 18446744073709551616 + L ∧ H < 18446744073709551616 ∧ L < 18446744073709551616 ∧ Below w.heap.size w w'
theorem divw_split (t : Nat) (w : World) (ht : t < 18446744073709551616) : Calls Try.prog 41 #[.agg #[.int .u64 1, .int .u64 0], .int .u64 (t : Int)] w (RetSplitB t w) := by
  rcases Nat.eq_zero_or_pos t with rfl | h
  · refine (divw_zero 1 0 w).mono ?_
    rintro e w' ⟨rfl, hb⟩
    exact ⟨0, 0, false, rfl, rfl, by omega, by omega, hb⟩
  · refine (divw_any 1 0 t w (by omega) (by omega) ht h).mono ?_
    rintro e w' ⟨H, L, r, rfl, hH, hL, hn, hr, hb⟩
    obtain ⟨h1, h2⟩ := each_of (t := t) (q := H * 18446744073709551616 + L) (r := r) (by omega) hr
    exact ⟨H, L, true, by rw [h2], h1, hH, hL, hb⟩

def RetSplit (t : Nat) (w : World) (e : Ending) (w' : World) : Prop :=
  ∃ H L : Nat, e = .returned (.tuple #[.agg #[.int .u64 (H : Int), .int .u64 (L : Int)], .int .u64 ((restN t : Nat) : Int)]) ∧ eachN t = H * 18446744073709551616 + L ∧ H < 18446744073709551616 ∧ L < 18446744073709551616 ∧ Below w.heap.size w w'

set_option maxHeartbeats 2000000 in
theorem split_any (t : Nat) (w : World) (ht : t < 18446744073709551616) : Calls Try.prog 28 #[.int .u64 (t : Int)] w (RetSplit t w) := by
  have HC := Lib.hid (divw_split t (w.alloc (.cells #[.int .u64 0, .int .u64 0] 26)) ht)
  have HRES := Lib.hid (Blk.new w 26 #[.int .u64 0, .int .u64 0])
  have hb0 := b1d w (.cells #[.int .u64 0, .int .u64 0] 26)
  obtain ⟨r, hr⟩ : ∃ r, restN t = r := ⟨_, rfl⟩
  go_enter Try.func28, Try.ntmps28
  go_wp2_with fail
  refine HC.out.mono ?_
  rintro e w1 ⟨H, L, b, rfl, hE, hH, hL, hb1⟩
  rw [hr]
  have HE := Lib.hid hE
  have hB1 := hb0.trans (hb1.mono hb0.size)
  have hres1 := HRES.out.below hb1 HRES.out.lt
  have r0 := hres1.cell 0
  have r1 := hres1.cell 1
  have f0 := hres1.frozen 0
  have f1 := hres1.frozen 1
  have hset := (((hres1.set_ 0 (.int .u64 (H : Int))).set_ 1 (.int .u64 (L : Int))).set_ 0 (.int .u64 (H : Int))).set_ 1 (.int .u64 (L : Int))
  have s0 := hset.cell 0
  have s1 := hset.cell 1
  have g0 := hset.frozen 0
  have g1 := hset.frozen 1
  have hB2 := (((hB1.setCell (p := ⟨w.heap.size, 0, none⟩) (Nat.le_refl _) (.int .u64 (H : Int))).setCell (p := ⟨w.heap.size, 1, none⟩) (Nat.le_refl _) (.int .u64 (L : Int))).setCell (p := ⟨w.heap.size, 0, none⟩) (Nat.le_refl _) (.int .u64 (H : Int))).setCell (p := ⟨w.heap.size, 1, none⟩) (Nat.le_refl _) (.int .u64 (L : Int))
  clear hE hb0 hb1 HC HRES hset hres1
  go_wp2_with fail
  exact bodyPost_ret (v := .tuple #[.agg #[.int .u64 (H : Int), .int .u64 (L : Int)], .int .u64 (r : Int)]) (by simp [results, Try.results28, go_sem, s0, s1, g0, g1]) rfl
    ⟨H, L, by rw [hr], HE.out, hH, hL, hB2⟩

theorem rest_any (t : Nat) (w : World) (ht : t < 18446744073709551616) : Calls Try.prog 10 #[.int .u64 (t : Int)] w fun e w' => e = .returned (.int .u64 ((restN t : Nat) : Int)) ∧ Below w.heap.size w w' := by
  have HC := Lib.hid (split_any t w ht)
  obtain ⟨r, hr⟩ : ∃ r, restN t = r := ⟨_, rfl⟩
  go_enter Try.func10, Try.ntmps10
  go_wp2_with fail
  refine HC.out.mono ?_
  rintro e w1 ⟨H, L, rfl, hE, hH, hL, hb1⟩
  rw [hr]
  clear HC hE
  go_wp2_with fail
  go_ret
  exact ⟨by rw [hr]; rfl, hb1.alloc hb1.size _⟩

set_option maxHeartbeats 2000000 in
theorem each_any (t : Nat) (w : World) (ht : t < 18446744073709551616) : Calls Try.prog 13 #[.int .u64 (t : Int)] w (RetWide (eachN t) w) := by
  have HC := Lib.hid (split_any t (w.alloc (.cells #[.int .u64 0, .int .u64 0] 26)) ht)
  have HRES := Lib.hid (Blk.new w 26 #[.int .u64 0, .int .u64 0])
  have hb0 := b1d w (.cells #[.int .u64 0, .int .u64 0] 26)
  go_enter Try.func13, Try.ntmps13
  go_wp2_with fail
  refine HC.out.mono ?_
  rintro e w1 ⟨H, L, rfl, hE, hH, hL, hb1⟩
  have HE := Lib.hid hE
  have hB1 := hb0.trans (hb1.mono hb0.size)
  have hres1 := (HRES.out.below hb1 HRES.out.lt).alloc (.cells #[.int .u64 (H : Int), .int .u64 (L : Int)] 26)
  have r0 := hres1.cell 0
  have r1 := hres1.cell 1
  have f0 := hres1.frozen 0
  have f1 := hres1.frozen 1
  have hset := (hres1.set_ 0 (.int .u64 (H : Int))).set_ 1 (.int .u64 (L : Int))
  have s0 := hset.cell 0
  have s1 := hset.cell 1
  have g0 := hset.frozen 0
  have g1 := hset.frozen 1
  have hB2 := ((hB1.alloc hB1.size (.cells #[.int .u64 (H : Int), .int .u64 (L : Int)] 26)).setCell (p := ⟨w.heap.size, 0, none⟩) (Nat.le_refl _) (.int .u64 (H : Int))).setCell (p := ⟨w.heap.size, 1, none⟩) (Nat.le_refl _) (.int .u64 (L : Int))
  clear hE HC hb0 hb1 HRES hset hres1
  go_wp2_with fail
  exact bodyPost_ret (v := .agg #[.int .u64 (H : Int), .int .u64 (L : Int)]) (by simp [results, Try.results13, go_sem, s0, s1, g0, g1]) rfl
    ⟨H, L, rfl, HE.out, hH, hL, hB2⟩
end Go.Proofs.Ytengcnchjpkhkaa
