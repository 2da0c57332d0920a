/-
  The statements of layer 8: the chapter's example; the words that tell a number.
-/
import Derived.Test.YtengcnchjpkhkaaDrawF
namespace Go.Proofs.Ytengcnchjpkhkaa
open Go.RowKit
set_option maxRecDepth 100000

theorem end_three : endN 3 = 18446744073709551615 := by decide +kernel
theorem tell_three (w : World) : Calls Try.prog 6 #[.int .u64 3, .int .u64 5] w fun e w' => e = .returned (.tuple #[.int .u64 2, .bool true]) ∧ Below w.heap.size w w' := by
  have h := tell_any 3 5 w (by omega) (by omega)
  rw [show tellN 3 5 = 2 by decide +kernel, show decide (5 < endN 3) = true by decide +kernel] at h
  exact h
theorem taken_three (w : World) : Calls Try.prog 12 #[.int .u64 3, .int .u64 18446744073709551615] w fun e w' => e = .returned (.bool false) ∧ Below w.heap.size w w' := by
  have h := taken_any 3 18446744073709551615 w (by omega) (by omega)
  rw [show decide (18446744073709551615 < endN 3) = false by decide +kernel] at h
  exact h
theorem each_val (t E1 E2 : Nat) (w : World) (ht : t < 18446744073709551616) (h : eachN t = E1 * 18446744073709551616 + E2) (h2 : E2 < 18446744073709551616) :
    Calls Try.prog 13 #[.int .u64 (t : Int)] w fun e w' => e = .returned (.agg #[.int .u64 (E1 : Int), .int .u64 (E2 : Int)]) ∧ Below w.heap.size w w' := by
  refine (each_any t w ht).mono ?_
  rintro e w' ⟨H, L, rfl, hE, hH, hL, hb⟩
  obtain ⟨rfl, rfl⟩ : H = E1 ∧ L = E2 := by omega
  exact ⟨rfl, hb⟩
theorem each_three (w : World) : Calls Try.prog 13 #[.int .u64 3] w fun e w' => e = .returned (.agg #[.int .u64 0, .int .u64 6148914691236517205]) ∧ Below w.heap.size w w' :=
  each_val 3 0 6148914691236517205 w (by omega) (by decide +kernel) (by omega)
theorem each_one (w : World) : Calls Try.prog 13 #[.int .u64 1] w fun e w' => e = .returned (.agg #[.int .u64 1, .int .u64 0]) ∧ Below w.heap.size w w' :=
  each_val 1 1 0 w (by omega) (by decide +kernel) (by omega)
theorem from_three {L g : Nat} {b : Option Nat} (w : World) (h : Src w L g b [18446744073709551615, 5] 0) : Calls Try.prog 18 #[.pointer (some ⟨g, 0, none⟩), .int .u64 3] w fun e w' =>
    e = .returned (.tuple #[.int .u64 2, .int .i64 0]) ∧ Src w' L g b [18446744073709551615, 5] 2 ∧ w.grownBy w' (some g) := by
  have hf : First8 3 [18446744073709551615, 5] 0 1 := by
    refine ⟨by omega, by simp, by simp [nth, end_three], fun j _ hj => ?_⟩
    obtain rfl : j = 0 := by omega
    simp [nth, end_three]
  have h := from_yes 3 w h (by omega) (by intro x hx; simp at hx; omega) hf
  rw [show tellN 3 (nth [18446744073709551615, 5] 1) = 2 by decide +kernel] at h
  exact h

set_option maxHeartbeats 2000000 in
theorem alive8_any (w : World) : Calls Try.prog 14 #[] w fun en w' => en = .returned (.bool true) ∧ Below w.heap.size w w' := by
  have HT := Lib.hid (tell_three w)
  go_enter Try.func14, Try.ntmps14
  go_wp2_with fail
  refine HT.out.mono ?_
  rintro en w0 ⟨rfl, hb0⟩
  have hlit := Rq.lit w0 22 [18446744073709551615, 5]
  have hba := hb0.trans ((b1d w0 (.cells #[.int .u64 18446744073709551615, .int .u64 5] 22)).mono hb0.size)
  have HN := Lib.hid (new_any (some ⟨w0.heap.size, 0, none⟩) [18446744073709551615, 5] 2 2 (w0.alloc (.cells #[.int .u64 18446744073709551615, .int .u64 5] 22)) rfl (Rv.more hlit (by simp)) (by omega))
  have HBA := Lib.hid hba
  clear hlit hba HT hb0
  go_wp2_with fail
  refine HN.out.mono ?_
  rintro en w1 ⟨g, b, rfl, hg, hs1, hb1⟩
  have hB1 := HBA.out.trans (hb1.mono HBA.out.size)
  have hgw : w.heap.size ≤ g := Nat.le_trans HBA.out.size hg
  have HT := Lib.hid (from_three w1 hs1)
  have HB1 := Lib.hid hB1
  clear HN HBA hb1 hB1 hs1 hg
  go_wp2_with fail
  refine HT.out.mono ?_
  rintro en w2 ⟨rfl, hs2, hg2⟩
  have HB2 := Lib.hid (wrote7_b HB1.out hg2 hgw HB1.out.size)
  have HS2 := Lib.hid hs2
  have HT2 := Lib.hid (taken_three w2)
  clear hs2 hg2 HT HB1
  go_wp2_with fail
  refine HT2.out.mono ?_
  rintro en w3 ⟨rfl, hb3⟩
  have HB3 := Lib.hid (HB2.out.trans (hb3.mono HB2.out.size))
  have HS3 := Lib.hid (HS2.out.below hb3)
  have HT3 := Lib.hid (each_three w3)
  clear hb3 HT2 HB2 HS2
  go_wp2_with fail
  refine HT3.out.mono ?_
  rintro en w4 ⟨rfl, hb4⟩
  have HB4 := Lib.hid (HB3.out.trans (hb4.mono HB3.out.size))
  have HS4 := Lib.hid (HS3.out.below hb4)
  have HT4 := Lib.hid (each_one w4)
  clear hb4 HT3 HB3 HS3
  go_wp2_with fail
  refine HT4.out.mono ?_
  rintro en w5 ⟨rfl, hb5⟩
  have HB5 := Lib.hid (HB4.out.trans (hb5.mono HB4.out.size))
  have HT5 := Lib.hid (at_any w5 (HS4.out.below hb5))
  clear hb5 HT4 HB4 HS4
  go_wp2_with fail
  refine HT5.out.mono ?_
  rintro en w6 ⟨rfl, hg6⟩
  have HB6 := Lib.hid (HB5.out.grown hg6 HB5.out.size (fun k hk => by cases hk))
  clear hg6 HT5 HB5
  go_wp2_with fail
  go_ret
  exact ⟨rfl, HB6.out⟩
end Go.Proofs.Ytengcnchjpkhkaa
