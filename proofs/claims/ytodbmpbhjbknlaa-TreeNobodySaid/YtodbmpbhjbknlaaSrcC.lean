/-
  Random words, as they are told: the document's 'the same words'; a nil source; the chapter's example.
-/
import Derived.Test.YtodbmpbhjbknlaaSrcB
namespace Go.Proofs.Ytodbmpbhjbknlaa
open Go.RowKit
set_option maxRecDepth 100000

set_option maxHeartbeats 1000000 in
theorem same7_any (A B : Option Addr) (xs : List Nat) (n c d : Nat) (w : World) (hl : xs.length = n) (hr : Rq w w.heap.size A xs) (hs : Rq w w.heap.size B xs) (hn : n ≤ 1000000) :
    Calls Try.prog 26 #[.slice A n c, .slice B n d] w fun en w' => en = .returned (.bool true) ∧ w.grownBy w' none := by
  have HL := Lib.hid hl
  have HR := Lib.hid hr
  have HS := Lib.hid hs
  clear hl hr hs
  go_enter Try.func26, Try.ntmps26
  go_wp2_with fail
  go_loopw [5] (fun i wr => ∃ k : Nat, i = .int .i64 (k : Int) ∧ k ≤ n ∧ Hid (w.grownBy wr none)) (fun i _ => n - (intOf i).toNat)
  case atStart => exact ⟨0, rfl, by omega, Lib.hid (World.grownBy.refl _ _)⟩
  case round =>
    obtain ⟨k, rfl, hk, HG⟩ := hrel
    by_cases ht : k < n
    · obtain ⟨a, o, hA, _, ca⟩ := Rq.at_ (Rv.below HR.out (grown7_below HG.out) (Nat.le_refl _)) (show k < xs.length by have := HL.out; omega)
      obtain ⟨b, q, hB, _, cb⟩ := Rq.at_ (Rv.below HS.out (grown7_below HG.out) (Nat.le_refl _)) (show k < xs.length by have := HL.out; omega)
      subst hA
      subst hB
      obtain ⟨x, hx⟩ : ∃ x, nth xs k = x := ⟨_, rfl⟩
      rw [hx] at ca cb
      have hself : ((x : Int) != (x : Int)) = false := by simp
      have hi0 : (0 : Int) ≤ (k : Int) := by omega
      have hi1 : (k : Int) < (n : Int) := by omega
      clear hx
      go_wp2_with fail
      go_region
      go_wp2_with fail
      go_roundw
      case rel => exact ⟨k + 1, by go_num, by omega, Lib.hid (HG.out.trans (grown7_drew _ _))⟩
      case measure => simp [intOf]; omega
    · go_wp2_with fail
      go_ret
      exact ⟨rfl, HG.out⟩

theorem wrote7_b {B g : Nat} {w W W' : World} (h : Below B w W) (hg : W.grownBy W' (some g)) (hB : B ≤ g) (hs : B ≤ W.heap.size) : Below B w W' := h.grown hg hs (fun k hk => by cases hk; exact hB)

end Go.Proofs.Ytodbmpbhjbknlaa
