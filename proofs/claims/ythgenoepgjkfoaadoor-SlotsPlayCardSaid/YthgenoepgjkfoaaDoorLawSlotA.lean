/-
  Slots: the chapter's example; nil.
-/
import Derived.Test.YthgenoepgjkfoaaDoorSlotR
namespace Go.Proofs.YthgenoepgjkfoaaDoor
open Go.RowKit
set_option maxRecDepth 100000

/-- The first i are taken. -/
def tk11 (i : Nat) : Nat → Bool := fun j => decide (j < i)
theorem tk11_zero : tk11 0 = fun _ => false := by
  funext j
  simp [tk11]
theorem tk11_free {i n : Nat} (h : i < n) : Free11 (tk11 i) n i := ⟨h, by simp [tk11], fun j hj => by simp [tk11, hj]⟩
theorem tk11_next (i : Nat) : turn11 (tk11 i) i true = tk11 (i + 1) := by
  funext j
  unfold turn11 tk11
  by_cases e : j = i
  · subst e; simp
  · simp [e]; omega
theorem tk11_full (n : Nat) : ∀ j, j < n → tk11 n j = true := fun j hj => by simp [tk11, hj]
theorem tk11_back : turn11 (turn11 (tk11 3) 1 false) 1 true = tk11 3 := by
  funext j
  unfold turn11 tk11
  by_cases e : j = 1
  · subst e; simp
  · simp [e]
theorem tk11_gap : Free11 (turn11 (tk11 3) 1 false) 3 1 := ⟨by decide, by decide, fun j hj => by
  obtain rfl : j = 0 := by omega
  decide⟩
theorem below11_row {B g : Nat} {w X Y : World} (h : Below B w X) (hg : X.grownBy Y (some g)) (hB : B ≤ w.heap.size) (hgB : B ≤ g) : Below B w Y := h.grown hg (Nat.le_trans hB h.size) (fun r e => by cases e; exact hgB)

set_option maxHeartbeats 4000000 in
theorem alive11 (w : World) (hT : Tab11 w) (hT0 : 0 < w.heap.size) : Calls Tryd.prog 5 #[] w fun e w' => e = .returned (.bool true) ∧ Below w.heap.size w w' := by
  have HT := Lib.hid hT
  clear hT
  go_enter Tryd.func5, Tryd.ntmps5
  go_wp2_with fail
  refine (new11_yes 3 w (by decide) (by decide)).mono ?_
  rintro e w1 ⟨g, rfl, hgw, hs1, hb1⟩
  rw [← tk11_zero] at hs1
  have HS1 := Lib.hid hs1
  have HB1 := Lib.hid hb1
  clear hs1 hb1
  go_wp2_with fail
  refine (new11_no 0 w1 (by decide)).mono ?_
  rintro e w2 ⟨rfl, rfl⟩
  go_wp2_with fail
  go_loopw [5] (fun iv wr => ∃ i : Nat, iv = .int .i64 (i : Int) ∧ i ≤ 3 ∧ Hid (Sl wr g 3 (tk11 i)) ∧ Hid (Below w.heap.size w wr)) (fun iv _ => 3 - (intOf iv).toNat)
  case atStart => exact ⟨0, rfl, by omega, HS1, HB1⟩
  case round =>
    obtain ⟨i, rfl, hi, HS, HB⟩ := hrel
    by_cases hi3 : i < 3
    · have HK := Lib.hid (take11_yes wr HS.out (HT.out.below HB.out hT0) (tk11_free hi3))
      have i0 : (0 : Int) ≤ (i : Int) := by omega
      have i1 : (i : Int) < 3 := by omega
      have hself : ((i : Int) != (i : Int)) = false := by simp
      go_wp2_with fail
      refine HK.out.mono ?_
      rintro e w3 ⟨rfl, hs, hg⟩
      rw [tk11_next] at hs
      have HS3 := Lib.hid hs
      have HB3 := Lib.hid (below11_row HB.out hg (Nat.le_refl _) hgw)
      clear hs hg HK
      go_wp2_with fail
      go_roundw
      case rel => exact ⟨i + 1, by go_num, by omega, HS3, HB3⟩
      case measure => simp [intOf]; omega
    · obtain rfl : i = 3 := by omega
      have HK := Lib.hid (take11_no wr HS.out (HT.out.below HB.out hT0) (tk11_full 3))
      go_wp2_with fail
      refine HK.out.mono ?_
      rintro e w3 ⟨rfl, rfl⟩
      have HG := Lib.hid (give11_yes (i := 1) w3 HS.out (by decide))
      clear HK
      go_wp2_with fail
      refine HG.out.mono ?_
      rintro e w4 ⟨rfl, hs, hg⟩
      have HS4 := Lib.hid hs
      have HB4 := Lib.hid (below11_row HB.out hg (Nat.le_refl _) hgw)
      clear hs hg HG
      have HK4 := Lib.hid (take11_yes w4 HS4.out (HT.out.below HB4.out hT0) tk11_gap)
      go_wp2_with fail
      refine HK4.out.mono ?_
      rintro e w5 ⟨rfl, hs, hg⟩
      rw [tk11_back] at hs
      have HS5 := Lib.hid hs
      have HB5 := Lib.hid (below11_row HB4.out hg (Nat.le_refl _) hgw)
      clear hs hg HK4
      have HLN := len11_any w5 (.inr ⟨g, 3, tk11 3, rfl, HS5.out, rfl⟩) (HT.out.below HB5.out hT0) (Nat.lt_of_lt_of_le hT0 HB5.out.size)
      rw [show (all11 (tk11 3) 3).length = 3 by decide] at HLN
      have HLN2 := Lib.hid HLN
      clear HLN
      go_wp2_with fail
      refine HLN2.out.mono ?_
      rintro e w6 ⟨rfl, hb6⟩
      have HB6 := Lib.hid (HB5.out.trans (hb6.mono HB5.out.size))
      clear hb6
      go_wp2_with fail
      go_ret
      exact ⟨rfl, HB6.out⟩

set_option maxHeartbeats 4000000 in
theorem slotsNobody_walk (i : Int) (w : World) (hT : Tab11 w) (hT0 : 0 < w.heap.size) : Calls Tryd.prog 4 #[.int .i64 i] w fun e w' => e = .returned (.bool true) ∧ Below w.heap.size w w' := by
  have HT := Lib.hid hT
  clear hT
  go_enter Tryd.func4, Tryd.ntmps4
  go_wp2_with fail
  refine (take11_nil w).mono ?_
  rintro e w1 ⟨rfl, rfl⟩
  go_wp2_with fail
  refine (give11_nil i w1).mono ?_
  rintro e w2 ⟨rfl, rfl⟩
  go_wp2_with fail
  refine (has11_nil i w2).mono ?_
  rintro e w3 ⟨rfl, rfl⟩
  go_wp2_with fail
  refine (len11_any (L := []) w3 (.inl ⟨rfl, rfl⟩) HT.out hT0).mono ?_
  rintro e w4 ⟨rfl, hb4⟩
  have HB4 := Lib.hid hb4
  clear hb4
  go_wp2_with fail
  refine (free11_nil w4).mono ?_
  rintro e w5 ⟨rfl, rfl⟩
  go_wp2_with fail
  refine (list11_any (L := []) (most := 3) w5 (.inl ⟨rfl, rfl⟩) (HT.out.below HB4.out hT0) (Nat.lt_of_lt_of_le hT0 HB4.out.size) (by decide)).mono ?_
  rintro e w6 ⟨A, c, rfl, _, hb6⟩
  have HB6 := Lib.hid (HB4.out.trans (hb6.mono HB4.out.size))
  clear hb6
  go_wp2_with fail
  refine (alive11 w6 (HT.out.below HB6.out hT0) (Nat.lt_of_lt_of_le hT0 HB6.out.size)).mono ?_
  rintro e w7 ⟨rfl, hb7⟩
  have HB7 := Lib.hid (HB6.out.trans (hb7.mono HB6.out.size))
  clear hb7
  go_wp2_with fail
  go_ret
  exact ⟨rfl, HB7.out⟩
end Go.Proofs.YthgenoepgjkfoaaDoor
