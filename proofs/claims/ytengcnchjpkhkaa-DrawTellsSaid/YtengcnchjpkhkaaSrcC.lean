/-
  Random words, as they are told: the document's 'the same words'; a nil source; the chapter's example.
-/
import Derived.Test.YtengcnchjpkhkaaSrcB
namespace Go.Proofs.Ytengcnchjpkhkaa
open Go.RowKit
set_option maxRecDepth 100000

theorem at_nil7 (w : World) : Calls Try.prog 21 #[.pointer none] w fun en w' => en = .returned (.int .i64 0) ∧ w' = w := by
  go_enter Try.func21, Try.ntmps21
  go_wp2_with fail
  go_ret
  exact ⟨rfl, rfl⟩
theorem left_nil7 (w : World) : Calls Try.prog 50 #[.pointer none] w fun en w' => en = .returned (.int .i64 0) ∧ w' = w := by
  go_enter Try.func50, Try.ntmps50
  go_wp2_with fail
  go_ret
  exact ⟨rfl, rfl⟩
theorem seek_nil7 (q : Int) (w : World) : Calls Try.prog 17 #[.pointer none, .int .i64 q] w fun en w' => en = .returned (.int .i64 2) ∧ w' = w := by
  go_enter Try.func17, Try.ntmps17
  go_wp2_with fail
  go_ret
  exact ⟨rfl, rfl⟩
theorem peek_nil7 (w : World) : Calls Try.prog 46 #[.pointer none] w fun en w' => en = .returned (.tuple #[.int .u64 0, .int .i64 2]) ∧ w' = w := by
  go_enter Try.func46, Try.ntmps46
  go_wp2_with fail
  go_ret2
  exact ⟨rfl, rfl⟩
theorem take_nil7 (w : World) : Calls Try.prog 35 #[.pointer none] w fun en w' => en = .returned (.tuple #[.int .u64 0, .int .i64 2]) ∧ w' = w := by
  go_enter Try.func35, Try.ntmps35
  go_wp2_with fail
  refine (peek_nil7 w).mono ?_
  rintro en w1 ⟨rfl, rfl⟩
  go_wp2_with fail
  go_ret2
  exact ⟨rfl, rfl⟩
theorem wrote7_b {B g : Nat} {w W W' : World} (h : Below B w W) (hg : W.grownBy W' (some g)) (hB : B ≤ g) (hs : B ≤ W.heap.size) : Below B w W' := h.grown hg hs (fun k hk => by cases hk; exact hB)

end Go.Proofs.Ytengcnchjpkhkaa
