/-
  The statements of layer 9: the chapter's example.
-/
import Derived.Test.YtpicidfdcaoffaaSpanB
import Derived.Test.YtpicidfdcaoffaaSpanC
namespace Go.Proofs.Ytpicidfdcaoffaa
open Go.RowKit
set_option maxRecDepth 100000

theorem pick_example : Pb9 [2, 0, 3] 4 2 true := .inl ⟨2, by simp [up9, nth], ⟨by simp, by simp [up9, nth], by simp [up9, nth]⟩, rfl, rfl⟩
theorem sum_example : up9 [2, 0, 3] 3 < 18446744073709551616 := by simp [up9, nth]
theorem sum_large : up9 [1, 18446744073709551615] 2 = 18446744073709551616 := by simp [up9, nth]
theorem three_small : ∀ x ∈ [2, 0, 3], x < 18446744073709551616 := by intro x hx; simp at hx; omega
theorem two_small : ∀ x ∈ [1, 18446744073709551615], x < 18446744073709551616 := by intro x hx; simp at hx; omega

set_option maxHeartbeats 2000000 in
theorem alive9_any (w : World) : Calls Try.prog 5 #[] w fun en w' => en = .returned (.bool true) ∧ Below w.heap.size w w' := by
  have hlit : Rq (w.alloc (.cells #[.int .u64 2, .int .u64 0, .int .u64 3] 23)) (w.alloc (.cells #[.int .u64 2, .int .u64 0, .int .u64 3] 23)).heap.size (some ⟨w.heap.size, 0, none⟩) [2, 0, 3] := Rv.more (Rq.lit w 23 [2, 0, 3]) (by simp)
  have hb0 := b1' w (.cells #[.int .u64 2, .int .u64 0, .int .u64 3] 23)
  have HLIT := Lib.hid hlit
  have HB0 := Lib.hid hb0
  have HP := Lib.hid (pick_any _ [2, 0, 3] 3 3 4 2 true _ rfl hlit three_small (by omega) (by omega) pick_example)
  clear hlit hb0
  go_enter Try.func5, Try.ntmps5
  go_wp2_with fail
  refine HP.out.mono ?_
  rintro en w1 ⟨rfl, hb1⟩
  have HB1 := Lib.hid (HB0.out.trans (hb1.mono HB0.out.size))
  have HS := Lib.hid (spans_yes _ [2, 0, 3] 3 3 w1 rfl (Rv.step HLIT.out hb1) three_small (by omega) sum_example)
  clear HP hb1 HB0 HLIT
  go_wp2_with fail
  refine HS.out.mono ?_
  rintro en w2 ⟨g, rfl, hg, hs, hb2⟩
  have HB2 := Lib.hid (HB1.out.trans (hb2.mono HB1.out.size))
  have hlit2 : Rq (w2.alloc (.cells #[.int .u64 1, .int .u64 18446744073709551615] 23)) (w2.alloc (.cells #[.int .u64 1, .int .u64 18446744073709551615] 23)).heap.size (some ⟨w2.heap.size, 0, none⟩) [1, 18446744073709551615] := Rv.more (Rq.lit w2 23 [1, 18446744073709551615]) (by simp)
  have HT := Lib.hid (total_any _ [1, 18446744073709551615] 2 2 _ rfl hlit2 two_small (by omega))
  rw [sum_large, fw_out (Nat.le_refl _), fb_out (Nat.le_refl _)] at HT
  have HB3 := Lib.hid (HB2.out.trans ((b1' w2 (.cells #[.int .u64 1, .int .u64 18446744073709551615] 23)).mono HB2.out.size))
  have hs3 := hs.below (b1' w2 (.cells #[.int .u64 1, .int .u64 18446744073709551615] 23))
  have c0 : (w2.alloc (.cells #[.int .u64 1, .int .u64 18446744073709551615] 23)).cell? ⟨g, 2, none⟩ = some (.int .u64 2) := (hs3.2 1 (by omega)).1
  have c1 : (w2.alloc (.cells #[.int .u64 1, .int .u64 18446744073709551615] 23)).cell? ⟨g, 3, none⟩ = some (.int .u64 0) := (hs3.2 1 (by omega)).2
  have c2 : (w2.alloc (.cells #[.int .u64 1, .int .u64 18446744073709551615] 23)).cell? ⟨g, 4, none⟩ = some (.int .u64 2) := (hs3.2 2 (by omega)).1
  have c3 : (w2.alloc (.cells #[.int .u64 1, .int .u64 18446744073709551615] 23)).cell? ⟨g, 5, none⟩ = some (.int .u64 3) := (hs3.2 2 (by omega)).2
  obtain ⟨w3, hw3⟩ : ∃ W, w2.alloc (.cells #[.int .u64 1, .int .u64 18446744073709551615] 23) = W := ⟨_, rfl⟩
  have HW3 := Lib.hid hw3
  rw [hw3] at HT HB3 c0 c1 c2 c3
  clear HS hs hb2 hg hlit2 hs3 hw3
  go_wp2_with fail
  rw [HW3.out]
  refine HT.out.mono ?_
  rintro en w4 ⟨rfl, rfl⟩
  clear HT
  go_wp2_with fail
  go_ret
  exact ⟨rfl, HB3.out⟩
end Go.Proofs.Ytpicidfdcaoffaa
