/-
  Arrows: the chapter's example.
-/
import Derived.Test.YtojdgcalpdbifaaDagU
import Derived.Test.YtojdgcalpdbifaaDagS
import Derived.Test.YtojdgcalpdbifaaDagT
namespace Go.Proofs.Ytojdgcalpdbifaa
open Go.RowKit
set_option maxRecDepth 100000

theorem Rd.step13 {w w' : World} {A : Option Addr} {xs : List Nat} (h : Rd w w.heap.size A xs) (hb : Below w.heap.size w w') : Rd w' w'.heap.size A xs := (h.below hb (Nat.le_refl _)).more hb.size
theorem aq13_one (w : World) (x y : Int) : Aq (w.alloc (.cells #[.int .i64 x, .int .i64 y] 39)) (w.alloc (.cells #[.int .i64 x, .int .i64 y] 39)).heap.size (some ⟨w.heap.size, 0, none⟩) [(x, y)] := by
  intro _
  have hk := Blk.new w 39 #[.int .i64 x, .int .i64 y]
  refine ⟨w.heap.size, 0, rfl, by simp, fun k v hv => ?_⟩
  rw [Nat.zero_add, hk.cell]
  simpa [acs] using hv
theorem ex13_cut : cut13 3 [((2 : Int), (0 : Int))] = [(2, 0)] := by decide +kernel
theorem ex13_cut1 : cut13 1 [((0 : Int), (0 : Int))] = [(0, 0)] := by decide +kernel
theorem ex13_done : Done13 (cut13 3 [((2 : Int), (0 : Int))]) 3 [1, 2, 0] := by
  rw [ex13_cut]
  have h1 : Told13 [(2, 0)] 3 [1] := Told13.next (os := []) .nil ⟨by omega, by simp, fun f hf => by simp at hf⟩ (fun j hj h => by
    obtain rfl : j = 0 := by omega
    have := h.2.2 2 (by simp)
    simp at this)
  have h2 : Told13 [(2, 0)] 3 [1, 2] := Told13.next (os := [1]) h1 ⟨by omega, by simp, fun f hf => by simp at hf⟩ (fun j hj h => by
    rcases (show j = 0 ∨ j = 1 by omega) with rfl | rfl
    · have := h.2.2 2 (by simp)
      simp at this
    · exact h.2.1 (by simp))
  have h3 : Told13 [(2, 0)] 3 [1, 2, 0] := Told13.next (os := [1, 2]) h2 ⟨by omega, by simp, fun f hf => by simp at hf; simp [hf]⟩ (fun j hj => by omega)
  exact ⟨h3, fun i hi => by
    have h4 := hi.1
    exact hi.2.1 (by rcases (show i = 0 ∨ i = 1 ∨ i = 2 by omega) with rfl | rfl | rfl <;> simp)⟩
theorem ex13_done1 : Done13 (cut13 1 [((0 : Int), (0 : Int))]) 1 [] := by
  rw [ex13_cut1]
  exact ⟨.nil, fun i hi => by
    have h4 := hi.1
    obtain rfl : i = 0 := by omega
    have := hi.2.2 0 (by simp)
    simp at this⟩
theorem ex13_comes : cms13 3 [((2 : Int), (0 : Int))] 2 0 = true := by
  unfold cms13
  rw [ex13_cut, wayb_yes.2 (.one (by simp))]
  rfl

set_option maxHeartbeats 4000000 in
theorem alive13_any (w : World) :
    Calls Try.prog 5 #[] w fun e w' => e = .returned (.bool true) ∧ Below w.heap.size w w' := by
  obtain ⟨w1, hw1⟩ : ∃ W, w.alloc (.cells #[.int .i64 2, .int .i64 0] 39) = W := ⟨_, rfl⟩
  have hq := aq13_one w 2 0
  have hb1 := b1' w (.cells #[.int .i64 2, .int .i64 0] 39)
  rw [hw1] at hq hb1
  have HQ := Lib.hid hq
  have HB1 := Lib.hid hb1
  have HO := Lib.hid (dorder13_any 3 3 rfl _ _ 1 1 [1, 2, 0] w1 rfl hq (by omega) ex13_done)
  clear hq hb1
  go_enter Try.func5, Try.ntmps5
  go_wp2_with fail
  refine HO.out.mono ?_
  rintro e w2 ⟨v, rfl, h1, h2, hb2⟩
  obtain ⟨A, c, rfl, hown⟩ := h1 rfl
  have HB2 := Lib.hid (HB1.out.trans (hb2.mono HB1.out.size))
  have HQ2 : Hid (Aq w2 w2.heap.size _ _) := Lib.hid (Rv.step HQ.out hb2)
  have HRD := Lib.hid (Rd.of_own hown)
  obtain ⟨w3, hw3⟩ : ∃ W, w2.alloc (.cells #[.int .i64 1, .int .i64 2, .int .i64 0] 3) = W := ⟨_, rfl⟩
  have hb3 := b1' w2 (.cells #[.int .i64 1, .int .i64 2, .int .i64 0] 3)
  have hrl : Rd (w2.alloc (.cells #[.int .i64 1, .int .i64 2, .int .i64 0] 3)) (w2.alloc (.cells #[.int .i64 1, .int .i64 2, .int .i64 0] 3)).heap.size (some ⟨w2.heap.size, 0, none⟩) [1, 2, 0] := fun _ => by
    have hk := Blk.new w2 3 #[.int .i64 1, .int .i64 2, .int .i64 0]
    refine ⟨w2.heap.size, 0, rfl, by simp, fun k hk2 => ?_⟩
    rw [Nat.zero_add, hk.cell]
    rcases (show k = 0 ∨ k = 1 ∨ k = 2 by simp at hk2; omega) with rfl | rfl | rfl <;> rfl
  rw [hw3] at hb3 hrl
  have HI := Lib.hid (rints11_yes A (some ⟨w2.heap.size, 0, none⟩) [1, 2, 0] 3 c 3 w3 rfl (HRD.out.step13 hb3) hrl (by omega))
  have HB3 := Lib.hid (HB2.out.trans (hb3.mono HB2.out.size))
  have HQ3 : Hid (Aq w3 w3.heap.size _ _) := Lib.hid (Rv.step HQ2.out hb3)
  have hlen : [1, 2, 0].length = 3 := rfl
  rw [decide_eq_true hlen, hlen]
  clear HO h1 h2 hown hb2 hb3 hrl HRD
  go_wp2_with fail
  refine HI.out.mono ?_
  rintro e w4 ⟨rfl, hg4⟩
  have hb4 := grown7_below hg4
  have HQ4 : Hid (Aq w4 w4.heap.size _ _) := Lib.hid (Rv.step HQ3.out hb4)
  have HB4 := Lib.hid (HB3.out.trans (hb4.mono HB3.out.size))
  have hc := dcomes13_any 3 3 rfl _ _ 1 1 2 0 w4 rfl HQ4.out (by omega)
  rw [ex13_comes] at hc
  have HC := Lib.hid hc
  clear HI hg4 hb4 hc
  go_wp2_with fail
  refine HC.out.mono ?_
  rintro e w5 ⟨rfl, hb5⟩
  have HQ5 : Hid (Aq w5 w5.heap.size _ _) := Lib.hid (Rv.step HQ4.out hb5)
  have HB5 := Lib.hid (HB4.out.trans (hb5.mono HB4.out.size))
  have hr := dring13_any 3 3 rfl _ _ 1 1 [1, 2, 0] w5 rfl HQ5.out (by omega) ex13_done
  rw [decide_eq_true hlen] at hr
  have HR := Lib.hid hr
  clear HC hb5 hr
  go_wp2_with fail
  refine HR.out.mono ?_
  rintro e w6 ⟨rfl, hb6⟩
  have HB6 := Lib.hid (HB5.out.trans (hb6.mono HB5.out.size))
  obtain ⟨w7, hw7⟩ : ∃ W, w6.alloc (.cells #[.int .i64 0, .int .i64 0] 39) = W := ⟨_, rfl⟩
  have hq7 := aq13_one w6 0 0
  have hb7 := b1' w6 (.cells #[.int .i64 0, .int .i64 0] 39)
  rw [hw7] at hq7 hb7
  have HB7 := Lib.hid (HB6.out.trans (hb7.mono HB6.out.size))
  have hr1 := dring13_any 1 1 rfl _ _ 1 1 [] w7 rfl hq7 (by omega) ex13_done1
  rw [decide_eq_false (by simp)] at hr1
  have HR1 := Lib.hid hr1
  clear HR hb6 hb7 hq7 hr1
  go_wp2_with fail
  refine HR1.out.mono ?_
  rintro e w8 ⟨rfl, hb8⟩
  have HB8 := Lib.hid (HB7.out.trans (hb8.mono HB7.out.size))
  clear HR1 hb8
  go_wp2_with fail
  go_ret
  exact ⟨rfl, HB8.out⟩
end Go.Proofs.Ytojdgcalpdbifaa
