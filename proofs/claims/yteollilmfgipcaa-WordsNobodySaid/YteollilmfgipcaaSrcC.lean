/-
  Random words, as they are told: the document's 'the same words'; a nil source; the chapter's example.
-/
import Derived.Test.YteollilmfgipcaaSrcB
namespace Go.Proofs.Yteollilmfgipcaa
open Go.RowKit
set_option maxRecDepth 100000

set_option maxHeartbeats 1000000 in
theorem same7_any (A B : Option Addr) (xs : List Nat) (n c d : Nat) (w : World) (hl : xs.length = n) (hr : Rq w w.heap.size A xs) (hs : Rq w w.heap.size B xs) (hn : n ≤ 1000000) :
    Calls Try.prog 12 #[.slice A n c, .slice B n d] w fun en w' => en = .returned (.bool true) ∧ w.grownBy w' none := by
  have HL := Lib.hid hl
  have HR := Lib.hid hr
  have HS := Lib.hid hs
  clear hl hr hs
  go_enter Try.func12, Try.ntmps12
  go_wp2_with fail
  go_loopw [5] (fun i wr => ∃ k : Nat, i = .int .i64 (k : Int) ∧ k ≤ n ∧ Hid (w.grownBy wr none)) (fun i _ => n - (intOf i).toNat)
  case atStart => exact ⟨0, rfl, by omega, Lib.hid (World.grownBy.refl _ _)⟩
  case round =>
    obtain ⟨k, rfl, hk, HG⟩ := hrel
    by_cases ht : k < n
    · obtain ⟨a, o, hA, _, ca⟩ := Rq.at_ (Rv.below HR.out (grown7_below HG.out) (Nat.le_refl _)) (show k < xs.length by have := HL.out; omega)
      obtain ⟨b, q, hB, _, cb⟩ := Rq.at_ (Rv.below HS.out (grown7_below HG.out) (Nat.le_refl _)) (show k < xs.length by have := HL.out; omega)
      subst hA
      subst hB
      obtain ⟨x, hx⟩ : ∃ x, nth xs k = x := ⟨_, rfl⟩
      rw [hx] at ca cb
      have hself : ((x : Int) != (x : Int)) = false := by simp
      have hi0 : (0 : Int) ≤ (k : Int) := by omega
      have hi1 : (k : Int) < (n : Int) := by omega
      clear hx
      go_wp2_with fail
      go_region
      go_wp2_with fail
      go_roundw
      case rel => exact ⟨k + 1, by go_num, by omega, Lib.hid (HG.out.trans (grown7_drew _ _))⟩
      case measure => simp [intOf]; omega
    · go_wp2_with fail
      go_ret
      exact ⟨rfl, HG.out⟩

theorem at_nil7 (w : World) : Calls Try.prog 14 #[.pointer none] w fun en w' => en = .returned (.int .i64 0) ∧ w' = w := by
  go_enter Try.func14, Try.ntmps14
  go_wp2_with fail
  go_ret
  exact ⟨rfl, rfl⟩
theorem left_nil7 (w : World) : Calls Try.prog 15 #[.pointer none] w fun en w' => en = .returned (.int .i64 0) ∧ w' = w := by
  go_enter Try.func15, Try.ntmps15
  go_wp2_with fail
  go_ret
  exact ⟨rfl, rfl⟩
theorem all_nil7 (w : World) : Calls Try.prog 13 #[.pointer none] w fun en w' => en = .returned (.slice none 0 0) ∧ w' = w := by
  go_enter Try.func13, Try.ntmps13
  go_wp2_with fail
  go_ret
  exact ⟨rfl, rfl⟩
theorem fork_nil7 (w : World) : Calls Try.prog 11 #[.pointer none] w fun en w' => en = .returned (.pointer none) ∧ w' = w := by
  go_enter Try.func11, Try.ntmps11
  go_wp2_with fail
  go_ret
  exact ⟨rfl, rfl⟩
theorem seek_nil7 (q : Int) (w : World) : Calls Try.prog 9 #[.pointer none, .int .i64 q] w fun en w' => en = .returned (.int .i64 2) ∧ w' = w := by
  go_enter Try.func9, Try.ntmps9
  go_wp2_with fail
  go_ret
  exact ⟨rfl, rfl⟩
theorem peek_nil7 (w : World) : Calls Try.prog 7 #[.pointer none] w fun en w' => en = .returned (.tuple #[.int .u64 0, .int .i64 2]) ∧ w' = w := by
  go_enter Try.func7, Try.ntmps7
  go_wp2_with fail
  go_ret2
  exact ⟨rfl, rfl⟩
theorem take_nil7 (w : World) : Calls Try.prog 8 #[.pointer none] w fun en w' => en = .returned (.tuple #[.int .u64 0, .int .i64 2]) ∧ w' = w := by
  go_enter Try.func8, Try.ntmps8
  go_wp2_with fail
  refine (peek_nil7 w).mono ?_
  rintro en w1 ⟨rfl, rfl⟩
  go_wp2_with fail
  go_ret2
  exact ⟨rfl, rfl⟩
theorem add_nil7 (v : Value) (w : World) : Calls Try.prog 10 #[.pointer none, v] w fun en w' => en = .returned (.tuple #[]) ∧ w' = w := by
  go_enter Try.func10, Try.ntmps10
  go_wp2_with fail
  go_end0
  exact ⟨rfl, rfl⟩

theorem wrote7_b {B g : Nat} {w W W' : World} (h : Below B w W) (hg : W.grownBy W' (some g)) (hB : B ≤ g) (hs : B ≤ W.heap.size) : Below B w W' := h.grown hg hs (fun k hk => by cases hk; exact hB)

set_option maxHeartbeats 2000000 in
theorem alive7_any (w : World) : Calls Try.prog 5 #[] w fun en w' => en = .returned (.bool true) ∧ Below w.heap.size w w' := by
  have hlit := Rq.lit w 27 [5, 6]
  have hba := b1' w (.cells #[.int .u64 5, .int .u64 6] 27)
  have HN := Lib.hid (new_any (some ⟨w.heap.size, 0, none⟩) [5, 6] 2 2 (w.alloc (.cells #[.int .u64 5, .int .u64 6] 27)) rfl (Rv.more hlit (by simp)) (by omega))
  have HBA := Lib.hid hba
  clear hlit hba
  go_enter Try.func5, Try.ntmps5
  go_wp2_with fail
  refine HN.out.mono ?_
  rintro en w1 ⟨g, b, rfl, hg, hs1, hb1⟩
  have hB1 := HBA.out.trans (hb1.mono HBA.out.size)
  have hgw : w.heap.size ≤ g := Nat.le_trans HBA.out.size hg
  have HT := Lib.hid (take_ok w1 hs1 (by simp))
  have HB1 := Lib.hid hB1
  clear HN HBA hb1 hB1 hs1 hg
  go_wp2_with fail
  refine HT.out.mono ?_
  rintro en w2 ⟨rfl, hs2, hg2⟩
  have HB2 := Lib.hid (wrote7_b HB1.out hg2 hgw HB1.out.size)
  have HT2 := Lib.hid (seek_ok 0 w2 hs2 (by simp))
  clear hs2 hg2 HT HB1
  go_wp2_with fail
  refine HT2.out.mono ?_
  rintro en w3 ⟨rfl, hs3, hg3⟩
  have HB3 := Lib.hid (wrote7_b HB2.out hg3 hgw HB2.out.size)
  have HT3 := Lib.hid (take_ok w3 hs3 (by simp))
  clear hs3 hg3 HT2 HB2
  go_wp2_with fail
  refine HT3.out.mono ?_
  rintro en w4 ⟨rfl, hs4, hg4⟩
  have HB4 := Lib.hid (wrote7_b HB3.out hg4 hgw HB3.out.size)
  have HT4 := Lib.hid (left7_any w4 hs4)
  have HS4 := Lib.hid hs4
  clear hs4 hg4 HT3 HB3
  go_wp2_with fail
  refine HT4.out.mono ?_
  rintro en w5 ⟨rfl, hg5⟩
  have HB5 := Lib.hid (HB4.out.grown hg5 HB4.out.size (fun k hk => by cases hk))
  have HT5 := Lib.hid (seek_no 3 w5 (HS4.out.quiet hg5) (.inr (by simp)))
  clear hg5 HT4 HB4 HS4
  go_wp2_with fail
  refine HT5.out.mono ?_
  rintro en w6 ⟨rfl, rfl⟩
  go_wp2_with fail
  go_ret
  exact ⟨rfl, HB5.out⟩

set_option maxHeartbeats 2000000 in
theorem nobody7_walk (n : Int) (w : World) : Calls Try.prog 4 #[.int .i64 n] w fun en w' => en = .returned (.bool true) ∧ Below w.heap.size w w' := by
  have HBA := Lib.hid (b1' w (.cells #[.int .u64 1] 27))
  go_enter Try.func4, Try.ntmps4
  go_wp2_with fail
  refine (add_nil7 _ _).mono ?_
  rintro en w1 ⟨rfl, rfl⟩
  go_wp2_with fail
  refine (take_nil7 _).mono ?_
  rintro en w1 ⟨rfl, rfl⟩
  go_wp2_with fail
  refine (peek_nil7 _).mono ?_
  rintro en w1 ⟨rfl, rfl⟩
  go_wp2_with fail
  refine (seek_nil7 _ _).mono ?_
  rintro en w1 ⟨rfl, rfl⟩
  go_wp2_with fail
  refine (at_nil7 _).mono ?_
  rintro en w1 ⟨rfl, rfl⟩
  go_wp2_with fail
  refine (left_nil7 _).mono ?_
  rintro en w1 ⟨rfl, rfl⟩
  go_wp2_with fail
  refine (all_nil7 _).mono ?_
  rintro en w1 ⟨rfl, rfl⟩
  go_wp2_with fail
  refine (fork_nil7 _).mono ?_
  rintro en w1 ⟨rfl, rfl⟩
  go_wp2_with fail
  refine (alive7_any _).mono ?_
  rintro en w1 ⟨rfl, hb1⟩
  go_wp2_with fail
  go_ret
  exact ⟨rfl, HBA.out.trans (hb1.mono HBA.out.size)⟩
end Go.Proofs.Yteollilmfgipcaa
