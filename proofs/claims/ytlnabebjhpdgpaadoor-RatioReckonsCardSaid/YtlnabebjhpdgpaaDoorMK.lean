/-
  Sums, differences, products, quotients, order: the walk.
  Sums, differences, products, quotients, order: what the walk's parts ask for.
  Sums, differences, products, quotients, order: the regions.
-/
import Derived.Test.YtlnabebjhpdgpaaDoorML
import Derived.Test.YtlnabebjhpdgpaaDoorLawCommon
import Derived.Test.YtlnabebjhpdgpaaDoorSkip
namespace Go.Proofs.YtlnabebjhpdgpaaDoor
open Go.RowKit
set_option maxRecDepth 100000

set_option maxHeartbeats 4000000 in
theorem reckons_no0 (A1 A2 A3 A4 A5 A6 : Option Addr) (X1 X2 X3 X4 X5 X6 : List Nat) (n1 c1 n2 c2 n3 c3 n4 c4 n5 c5 n6 c6 : Nat) (w : World) (hl1 : X1.length = n1) (hr1 : Ra w w.heap.size A1 X1) (hd1 : Dg X1) (hl2 : X2.length = n2) (hr2 : Ra w w.heap.size A2 X2) (hd2 : Dg X2) (hl3 : X3.length = n3) (hr3 : Ra w w.heap.size A3 X3) (hd3 : Dg X3) (hl4 : X4.length = n4) (hr4 : Ra w w.heap.size A4 X4) (hd4 : Dg X4) (hl5 : X5.length = n5) (hr5 : Ra w w.heap.size A5 X5) (hd5 : Dg X5) (hl6 : X6.length = n6) (hr6 : Ra w w.heap.size A6 X6) (hd6 : Dg X6) (htab : Tab w) (hs0 : ¬ (n1 ≤ 6 ∧ n2 ≤ 6)) :
    Calls Tryd.prog 3 #[.agg #[.slice A1 n1 c1, .slice A2 n2 c2], .agg #[.slice A3 n3 c3, .slice A4 n4 c4], .agg #[.slice A5 n5 c5, .slice A6 n6 c6]] w fun e w' => e = .returned (.bool true) ∧ Below w.heap.size w w' := by
  obtain ⟨W0, hW0⟩ : ∃ W, w.alloc (.cells #[.slice A1 n1 c1, .slice A2 n2 c2] 25) = W := ⟨_, rfl⟩
  obtain ⟨W1, hW1⟩ : ∃ W, W0.alloc (.cells #[.slice A3 n3 c3, .slice A4 n4 c4] 25) = W := ⟨_, rfl⟩
  obtain ⟨W2, hW2⟩ : ∃ W, W1.alloc (.cells #[.slice A5 n5 c5, .slice A6 n6 c6] 25) = W := ⟨_, rfl⟩
  have s0 : W0.heap.size = w.heap.size + 1 := by rw [← hW0]; simp
  have s1 : W1.heap.size = w.heap.size + 1 + 1 := by rw [← hW1]; simp [s0]
  have s2 : W2.heap.size = w.heap.size + 1 + 1 + 1 := by rw [← hW2]; simp [s1]
  have e0 : Below w.heap.size w W0 := by rw [← hW0]; exact b1 _ _
  have e1 : Below w.heap.size w W1 := by rw [← hW1]; exact e0.trans ((b1 _ _).mono e0.size)
  have hbb : Below w.heap.size w W2 := by rw [← hW2]; exact e1.trans ((b1 _ _).mono e1.size)
  have q0 : Blk W2 (w.heap.size) 25 #[.slice A1 n1 c1, .slice A2 n2 c2] := by rw [← hW2, ← hW1, ← hW0]; exact ((Blk.new _ _ _).alloc _).alloc _
  have q1 : Blk W2 (w.heap.size + 1) 25 #[.slice A3 n3 c3, .slice A4 n4 c4] := by rw [← hW2, ← hW1, ← s0]; exact (Blk.new _ _ _).alloc _
  have q2 : Blk W2 (w.heap.size + 1 + 1) 25 #[.slice A5 n5 c5, .slice A6 n6 c6] := by rw [← hW2, ← s1]; exact Blk.new _ _ _
  have hWb : ((w.alloc (.cells #[.slice A1 n1 c1, .slice A2 n2 c2] 25)).alloc (.cells #[.slice A3 n3 c3, .slice A4 n4 c4] 25)).alloc (.cells #[.slice A5 n5 c5, .slice A6 n6 c6] 25) = W2 := by rw [hW0, hW1, hW2]
  clear hW0 hW1 hW2 e0 e1 s0 s1
  have HR1 := Lib.hid ((hr1.below hbb (Nat.le_refl _)).more hbb.size)
  have HL1 := Lib.hid hl1
  have HD1 := Lib.hid hd1
  have HR2 := Lib.hid ((hr2.below hbb (Nat.le_refl _)).more hbb.size)
  have HL2 := Lib.hid hl2
  have HD2 := Lib.hid hd2
  have HR3 := Lib.hid ((hr3.below hbb (Nat.le_refl _)).more hbb.size)
  have HL3 := Lib.hid hl3
  have HD3 := Lib.hid hd3
  have HR4 := Lib.hid ((hr4.below hbb (Nat.le_refl _)).more hbb.size)
  have HL4 := Lib.hid hl4
  have HD4 := Lib.hid hd4
  have HR5 := Lib.hid ((hr5.below hbb (Nat.le_refl _)).more hbb.size)
  have HL5 := Lib.hid hl5
  have HD5 := Lib.hid hd5
  have HR6 := Lib.hid ((hr6.below hbb (Nat.le_refl _)).more hbb.size)
  have HL6 := Lib.hid hl6
  have HD6 := Lib.hid hd6
  have HTAB := Lib.hid (htab.below hbb)
  have HBB := Lib.hid hbb
  have HS2 := Lib.hid s2
  have HQ0 := Lib.hid q0
  have HQ1 := Lib.hid q1
  have HQ2 := Lib.hid q2
  clear hr1 hl1 hd1 hr2 hl2 hd2 hr3 hl3 hd3 hr4 hl4 hd4 hr5 hl5 hd5 hr6 hl6 hd6 htab hbb s2
  have HB := Lib.hid (Below.refl W2.heap.size W2)
  have x0 := q0.cell 0
  have x1 := q0.cell 1
  clear q0 q1 q2
  simp only [List.getElem?_toArray, List.getElem?_cons_zero, List.getElem?_cons_succ] at x0 x1
  go_enter Tryd.func3, Tryd.ntmps3
  go_wp2_with fail
  clear hWb
  have hc := short_yes A1 A2 n1 c1 n2 c2 false W2 (by rw [Bool.and_eq_false_iff]; simp; omega)
  have HC := Lib.hid hc
  clear hc
  skip
  refine HC.out.mono ?_
  rintro en w3 ⟨rfl, hb⟩
  have HB := Lib.hid (HB.out.trans (hb.mono HB.out.size))
  clear hb HC x0 x1
  go_wp2_with fail
  refine (alive4_any _ (HTAB.out.below HB.out)).mono ?_
  rintro en wz ⟨rfl, hb⟩
  go_wp2_with fail
  go_ret
  exact ⟨rfl, HBB.out.trans ((HB.out.trans (hb.mono HB.out.size)).mono HBB.out.size)⟩

set_option maxHeartbeats 4000000 in
theorem reckons_no1 (A1 A2 A3 A4 A5 A6 : Option Addr) (X1 X2 X3 X4 X5 X6 : List Nat) (n1 c1 n2 c2 n3 c3 n4 c4 n5 c5 n6 c6 : Nat) (w : World) (hl1 : X1.length = n1) (hr1 : Ra w w.heap.size A1 X1) (hd1 : Dg X1) (hl2 : X2.length = n2) (hr2 : Ra w w.heap.size A2 X2) (hd2 : Dg X2) (hl3 : X3.length = n3) (hr3 : Ra w w.heap.size A3 X3) (hd3 : Dg X3) (hl4 : X4.length = n4) (hr4 : Ra w w.heap.size A4 X4) (hd4 : Dg X4) (hl5 : X5.length = n5) (hr5 : Ra w w.heap.size A5 X5) (hd5 : Dg X5) (hl6 : X6.length = n6) (hr6 : Ra w w.heap.size A6 X6) (hd6 : Dg X6) (htab : Tab w) (hs0 : n1 ≤ 6 ∧ n2 ≤ 6) (hs1 : ¬ (n3 ≤ 6 ∧ n4 ≤ 6)) :
    Calls Tryd.prog 3 #[.agg #[.slice A1 n1 c1, .slice A2 n2 c2], .agg #[.slice A3 n3 c3, .slice A4 n4 c4], .agg #[.slice A5 n5 c5, .slice A6 n6 c6]] w fun e w' => e = .returned (.bool true) ∧ Below w.heap.size w w' := by
  obtain ⟨W0, hW0⟩ : ∃ W, w.alloc (.cells #[.slice A1 n1 c1, .slice A2 n2 c2] 25) = W := ⟨_, rfl⟩
  obtain ⟨W1, hW1⟩ : ∃ W, W0.alloc (.cells #[.slice A3 n3 c3, .slice A4 n4 c4] 25) = W := ⟨_, rfl⟩
  obtain ⟨W2, hW2⟩ : ∃ W, W1.alloc (.cells #[.slice A5 n5 c5, .slice A6 n6 c6] 25) = W := ⟨_, rfl⟩
  have s0 : W0.heap.size = w.heap.size + 1 := by rw [← hW0]; simp
  have s1 : W1.heap.size = w.heap.size + 1 + 1 := by rw [← hW1]; simp [s0]
  have s2 : W2.heap.size = w.heap.size + 1 + 1 + 1 := by rw [← hW2]; simp [s1]
  have e0 : Below w.heap.size w W0 := by rw [← hW0]; exact b1 _ _
  have e1 : Below w.heap.size w W1 := by rw [← hW1]; exact e0.trans ((b1 _ _).mono e0.size)
  have hbb : Below w.heap.size w W2 := by rw [← hW2]; exact e1.trans ((b1 _ _).mono e1.size)
  have q0 : Blk W2 (w.heap.size) 25 #[.slice A1 n1 c1, .slice A2 n2 c2] := by rw [← hW2, ← hW1, ← hW0]; exact ((Blk.new _ _ _).alloc _).alloc _
  have q1 : Blk W2 (w.heap.size + 1) 25 #[.slice A3 n3 c3, .slice A4 n4 c4] := by rw [← hW2, ← hW1, ← s0]; exact (Blk.new _ _ _).alloc _
  have q2 : Blk W2 (w.heap.size + 1 + 1) 25 #[.slice A5 n5 c5, .slice A6 n6 c6] := by rw [← hW2, ← s1]; exact Blk.new _ _ _
  have hWb : ((w.alloc (.cells #[.slice A1 n1 c1, .slice A2 n2 c2] 25)).alloc (.cells #[.slice A3 n3 c3, .slice A4 n4 c4] 25)).alloc (.cells #[.slice A5 n5 c5, .slice A6 n6 c6] 25) = W2 := by rw [hW0, hW1, hW2]
  clear hW0 hW1 hW2 e0 e1 s0 s1
  have HR1 := Lib.hid ((hr1.below hbb (Nat.le_refl _)).more hbb.size)
  have HL1 := Lib.hid hl1
  have HD1 := Lib.hid hd1
  have HR2 := Lib.hid ((hr2.below hbb (Nat.le_refl _)).more hbb.size)
  have HL2 := Lib.hid hl2
  have HD2 := Lib.hid hd2
  have HR3 := Lib.hid ((hr3.below hbb (Nat.le_refl _)).more hbb.size)
  have HL3 := Lib.hid hl3
  have HD3 := Lib.hid hd3
  have HR4 := Lib.hid ((hr4.below hbb (Nat.le_refl _)).more hbb.size)
  have HL4 := Lib.hid hl4
  have HD4 := Lib.hid hd4
  have HR5 := Lib.hid ((hr5.below hbb (Nat.le_refl _)).more hbb.size)
  have HL5 := Lib.hid hl5
  have HD5 := Lib.hid hd5
  have HR6 := Lib.hid ((hr6.below hbb (Nat.le_refl _)).more hbb.size)
  have HL6 := Lib.hid hl6
  have HD6 := Lib.hid hd6
  have HTAB := Lib.hid (htab.below hbb)
  have HBB := Lib.hid hbb
  have HS2 := Lib.hid s2
  have HQ0 := Lib.hid q0
  have HQ1 := Lib.hid q1
  have HQ2 := Lib.hid q2
  clear hr1 hl1 hd1 hr2 hl2 hd2 hr3 hl3 hd3 hr4 hl4 hd4 hr5 hl5 hd5 hr6 hl6 hd6 htab hbb s2
  have HB := Lib.hid (Below.refl W2.heap.size W2)
  have x0 := q0.cell 0
  have x1 := q0.cell 1
  clear q0 q1 q2
  simp only [List.getElem?_toArray, List.getElem?_cons_zero, List.getElem?_cons_succ] at x0 x1
  go_enter Tryd.func3, Tryd.ntmps3
  go_wp2_with fail
  clear hWb
  have hc := short_yes A1 A2 n1 c1 n2 c2 true W2 (by simp [hs0])
  have HC := Lib.hid hc
  clear hc
  skip
  refine HC.out.mono ?_
  rintro en w3 ⟨rfl, hb⟩
  have HB := Lib.hid (HB.out.trans (hb.mono HB.out.size))
  clear hb HC x0 x1
  have x0 := ((HQ1.out.below HB.out (by have := HS2.out; omega)).cell 0)
  have x1 := ((HQ1.out.below HB.out (by have := HS2.out; omega)).cell 1)
  simp only [List.getElem?_toArray, List.getElem?_cons_zero, List.getElem?_cons_succ] at x0 x1
  have hc := short_yes A3 A4 n3 c3 n4 c4 false w3 (by rw [Bool.and_eq_false_iff]; simp; omega)
  have HC := Lib.hid hc
  clear hc
  go_wp2_with fail
  refine HC.out.mono ?_
  rintro en w4 ⟨rfl, hb⟩
  have HB := Lib.hid (HB.out.trans (hb.mono HB.out.size))
  clear hb HC x0 x1
  go_wp2_with fail
  refine (alive4_any _ (HTAB.out.below HB.out)).mono ?_
  rintro en wz ⟨rfl, hb⟩
  go_wp2_with fail
  go_ret
  exact ⟨rfl, HBB.out.trans ((HB.out.trans (hb.mono HB.out.size)).mono HBB.out.size)⟩

set_option maxHeartbeats 4000000 in
theorem reckons_no2 (A1 A2 A3 A4 A5 A6 : Option Addr) (X1 X2 X3 X4 X5 X6 : List Nat) (n1 c1 n2 c2 n3 c3 n4 c4 n5 c5 n6 c6 : Nat) (w : World) (hl1 : X1.length = n1) (hr1 : Ra w w.heap.size A1 X1) (hd1 : Dg X1) (hl2 : X2.length = n2) (hr2 : Ra w w.heap.size A2 X2) (hd2 : Dg X2) (hl3 : X3.length = n3) (hr3 : Ra w w.heap.size A3 X3) (hd3 : Dg X3) (hl4 : X4.length = n4) (hr4 : Ra w w.heap.size A4 X4) (hd4 : Dg X4) (hl5 : X5.length = n5) (hr5 : Ra w w.heap.size A5 X5) (hd5 : Dg X5) (hl6 : X6.length = n6) (hr6 : Ra w w.heap.size A6 X6) (hd6 : Dg X6) (htab : Tab w) (hs0 : n1 ≤ 6 ∧ n2 ≤ 6) (hs1 : n3 ≤ 6 ∧ n4 ≤ 6) (hs2 : ¬ (n5 ≤ 6 ∧ n6 ≤ 6)) :
    Calls Tryd.prog 3 #[.agg #[.slice A1 n1 c1, .slice A2 n2 c2], .agg #[.slice A3 n3 c3, .slice A4 n4 c4], .agg #[.slice A5 n5 c5, .slice A6 n6 c6]] w fun e w' => e = .returned (.bool true) ∧ Below w.heap.size w w' := by
  obtain ⟨W0, hW0⟩ : ∃ W, w.alloc (.cells #[.slice A1 n1 c1, .slice A2 n2 c2] 25) = W := ⟨_, rfl⟩
  obtain ⟨W1, hW1⟩ : ∃ W, W0.alloc (.cells #[.slice A3 n3 c3, .slice A4 n4 c4] 25) = W := ⟨_, rfl⟩
  obtain ⟨W2, hW2⟩ : ∃ W, W1.alloc (.cells #[.slice A5 n5 c5, .slice A6 n6 c6] 25) = W := ⟨_, rfl⟩
  have s0 : W0.heap.size = w.heap.size + 1 := by rw [← hW0]; simp
  have s1 : W1.heap.size = w.heap.size + 1 + 1 := by rw [← hW1]; simp [s0]
  have s2 : W2.heap.size = w.heap.size + 1 + 1 + 1 := by rw [← hW2]; simp [s1]
  have e0 : Below w.heap.size w W0 := by rw [← hW0]; exact b1 _ _
  have e1 : Below w.heap.size w W1 := by rw [← hW1]; exact e0.trans ((b1 _ _).mono e0.size)
  have hbb : Below w.heap.size w W2 := by rw [← hW2]; exact e1.trans ((b1 _ _).mono e1.size)
  have q0 : Blk W2 (w.heap.size) 25 #[.slice A1 n1 c1, .slice A2 n2 c2] := by rw [← hW2, ← hW1, ← hW0]; exact ((Blk.new _ _ _).alloc _).alloc _
  have q1 : Blk W2 (w.heap.size + 1) 25 #[.slice A3 n3 c3, .slice A4 n4 c4] := by rw [← hW2, ← hW1, ← s0]; exact (Blk.new _ _ _).alloc _
  have q2 : Blk W2 (w.heap.size + 1 + 1) 25 #[.slice A5 n5 c5, .slice A6 n6 c6] := by rw [← hW2, ← s1]; exact Blk.new _ _ _
  have hWb : ((w.alloc (.cells #[.slice A1 n1 c1, .slice A2 n2 c2] 25)).alloc (.cells #[.slice A3 n3 c3, .slice A4 n4 c4] 25)).alloc (.cells #[.slice A5 n5 c5, .slice A6 n6 c6] 25) = W2 := by rw [hW0, hW1, hW2]
  clear hW0 hW1 hW2 e0 e1 s0 s1
  have HR1 := Lib.hid ((hr1.below hbb (Nat.le_refl _)).more hbb.size)
  have HL1 := Lib.hid hl1
  have HD1 := Lib.hid hd1
  have HR2 := Lib.hid ((hr2.below hbb (Nat.le_refl _)).more hbb.size)
  have HL2 := Lib.hid hl2
  have HD2 := Lib.hid hd2
  have HR3 := Lib.hid ((hr3.below hbb (Nat.le_refl _)).more hbb.size)
  have HL3 := Lib.hid hl3
  have HD3 := Lib.hid hd3
  have HR4 := Lib.hid ((hr4.below hbb (Nat.le_refl _)).more hbb.size)
  have HL4 := Lib.hid hl4
  have HD4 := Lib.hid hd4
  have HR5 := Lib.hid ((hr5.below hbb (Nat.le_refl _)).more hbb.size)
  have HL5 := Lib.hid hl5
  have HD5 := Lib.hid hd5
  have HR6 := Lib.hid ((hr6.below hbb (Nat.le_refl _)).more hbb.size)
  have HL6 := Lib.hid hl6
  have HD6 := Lib.hid hd6
  have HTAB := Lib.hid (htab.below hbb)
  have HBB := Lib.hid hbb
  have HS2 := Lib.hid s2
  have HQ0 := Lib.hid q0
  have HQ1 := Lib.hid q1
  have HQ2 := Lib.hid q2
  clear hr1 hl1 hd1 hr2 hl2 hd2 hr3 hl3 hd3 hr4 hl4 hd4 hr5 hl5 hd5 hr6 hl6 hd6 htab hbb s2
  have HB := Lib.hid (Below.refl W2.heap.size W2)
  have x0 := q0.cell 0
  have x1 := q0.cell 1
  clear q0 q1 q2
  simp only [List.getElem?_toArray, List.getElem?_cons_zero, List.getElem?_cons_succ] at x0 x1
  go_enter Tryd.func3, Tryd.ntmps3
  go_wp2_with fail
  clear hWb
  have hc := short_yes A1 A2 n1 c1 n2 c2 true W2 (by simp [hs0])
  have HC := Lib.hid hc
  clear hc
  skip
  refine HC.out.mono ?_
  rintro en w3 ⟨rfl, hb⟩
  have HB := Lib.hid (HB.out.trans (hb.mono HB.out.size))
  clear hb HC x0 x1
  have x0 := ((HQ1.out.below HB.out (by have := HS2.out; omega)).cell 0)
  have x1 := ((HQ1.out.below HB.out (by have := HS2.out; omega)).cell 1)
  simp only [List.getElem?_toArray, List.getElem?_cons_zero, List.getElem?_cons_succ] at x0 x1
  have hc := short_yes A3 A4 n3 c3 n4 c4 true w3 (by simp [hs1])
  have HC := Lib.hid hc
  clear hc
  go_wp2_with fail
  refine HC.out.mono ?_
  rintro en w4 ⟨rfl, hb⟩
  have HB := Lib.hid (HB.out.trans (hb.mono HB.out.size))
  clear hb HC x0 x1
  have x0 := ((HQ2.out.below HB.out (by have := HS2.out; omega)).cell 0)
  have x1 := ((HQ2.out.below HB.out (by have := HS2.out; omega)).cell 1)
  simp only [List.getElem?_toArray, List.getElem?_cons_zero, List.getElem?_cons_succ] at x0 x1
  have hc := short_yes A5 A6 n5 c5 n6 c6 false w4 (by rw [Bool.and_eq_false_iff]; simp; omega)
  have HC := Lib.hid hc
  clear hc
  go_wp2_with fail
  refine HC.out.mono ?_
  rintro en w5 ⟨rfl, hb⟩
  have HB := Lib.hid (HB.out.trans (hb.mono HB.out.size))
  clear hb HC x0 x1
  go_wp2_with fail
  refine (alive4_any _ (HTAB.out.below HB.out)).mono ?_
  rintro en wz ⟨rfl, hb⟩
  go_wp2_with fail
  go_ret
  exact ⟨rfl, HBB.out.trans ((HB.out.trans (hb.mono HB.out.size)).mono HBB.out.size)⟩

set_option maxHeartbeats 4000000 in
theorem reckons_no3 (A1 A2 A3 A4 A5 A6 : Option Addr) (X1 X2 X3 X4 X5 X6 : List Nat) (n1 c1 n2 c2 n3 c3 n4 c4 n5 c5 n6 c6 : Nat) (w : World) (hl1 : X1.length = n1) (hr1 : Ra w w.heap.size A1 X1) (hd1 : Dg X1) (hl2 : X2.length = n2) (hr2 : Ra w w.heap.size A2 X2) (hd2 : Dg X2) (hl3 : X3.length = n3) (hr3 : Ra w w.heap.size A3 X3) (hd3 : Dg X3) (hl4 : X4.length = n4) (hr4 : Ra w w.heap.size A4 X4) (hd4 : Dg X4) (hl5 : X5.length = n5) (hr5 : Ra w w.heap.size A5 X5) (hd5 : Dg X5) (hl6 : X6.length = n6) (hr6 : Ra w w.heap.size A6 X6) (hd6 : Dg X6) (htab : Tab w) (hs0 : n1 ≤ 6 ∧ n2 ≤ 6) (hs1 : n3 ≤ 6 ∧ n4 ≤ 6) (hs2 : n5 ≤ 6 ∧ n6 ≤ 6) (hg0 : rightB X1 X2 = false) :
    Calls Tryd.prog 3 #[.agg #[.slice A1 n1 c1, .slice A2 n2 c2], .agg #[.slice A3 n3 c3, .slice A4 n4 c4], .agg #[.slice A5 n5 c5, .slice A6 n6 c6]] w fun e w' => e = .returned (.bool true) ∧ Below w.heap.size w w' := by
  have HRT0 := Lib.hid hg0
  clear hg0
  obtain ⟨W0, hW0⟩ : ∃ W, w.alloc (.cells #[.slice A1 n1 c1, .slice A2 n2 c2] 25) = W := ⟨_, rfl⟩
  obtain ⟨W1, hW1⟩ : ∃ W, W0.alloc (.cells #[.slice A3 n3 c3, .slice A4 n4 c4] 25) = W := ⟨_, rfl⟩
  obtain ⟨W2, hW2⟩ : ∃ W, W1.alloc (.cells #[.slice A5 n5 c5, .slice A6 n6 c6] 25) = W := ⟨_, rfl⟩
  have s0 : W0.heap.size = w.heap.size + 1 := by rw [← hW0]; simp
  have s1 : W1.heap.size = w.heap.size + 1 + 1 := by rw [← hW1]; simp [s0]
  have s2 : W2.heap.size = w.heap.size + 1 + 1 + 1 := by rw [← hW2]; simp [s1]
  have e0 : Below w.heap.size w W0 := by rw [← hW0]; exact b1 _ _
  have e1 : Below w.heap.size w W1 := by rw [← hW1]; exact e0.trans ((b1 _ _).mono e0.size)
  have hbb : Below w.heap.size w W2 := by rw [← hW2]; exact e1.trans ((b1 _ _).mono e1.size)
  have q0 : Blk W2 (w.heap.size) 25 #[.slice A1 n1 c1, .slice A2 n2 c2] := by rw [← hW2, ← hW1, ← hW0]; exact ((Blk.new _ _ _).alloc _).alloc _
  have q1 : Blk W2 (w.heap.size + 1) 25 #[.slice A3 n3 c3, .slice A4 n4 c4] := by rw [← hW2, ← hW1, ← s0]; exact (Blk.new _ _ _).alloc _
  have q2 : Blk W2 (w.heap.size + 1 + 1) 25 #[.slice A5 n5 c5, .slice A6 n6 c6] := by rw [← hW2, ← s1]; exact Blk.new _ _ _
  have hWb : ((w.alloc (.cells #[.slice A1 n1 c1, .slice A2 n2 c2] 25)).alloc (.cells #[.slice A3 n3 c3, .slice A4 n4 c4] 25)).alloc (.cells #[.slice A5 n5 c5, .slice A6 n6 c6] 25) = W2 := by rw [hW0, hW1, hW2]
  clear hW0 hW1 hW2 e0 e1 s0 s1
  have HR1 := Lib.hid ((hr1.below hbb (Nat.le_refl _)).more hbb.size)
  have HL1 := Lib.hid hl1
  have HD1 := Lib.hid hd1
  have HR2 := Lib.hid ((hr2.below hbb (Nat.le_refl _)).more hbb.size)
  have HL2 := Lib.hid hl2
  have HD2 := Lib.hid hd2
  have HR3 := Lib.hid ((hr3.below hbb (Nat.le_refl _)).more hbb.size)
  have HL3 := Lib.hid hl3
  have HD3 := Lib.hid hd3
  have HR4 := Lib.hid ((hr4.below hbb (Nat.le_refl _)).more hbb.size)
  have HL4 := Lib.hid hl4
  have HD4 := Lib.hid hd4
  have HR5 := Lib.hid ((hr5.below hbb (Nat.le_refl _)).more hbb.size)
  have HL5 := Lib.hid hl5
  have HD5 := Lib.hid hd5
  have HR6 := Lib.hid ((hr6.below hbb (Nat.le_refl _)).more hbb.size)
  have HL6 := Lib.hid hl6
  have HD6 := Lib.hid hd6
  have HTAB := Lib.hid (htab.below hbb)
  have HBB := Lib.hid hbb
  have HS2 := Lib.hid s2
  have HQ0 := Lib.hid q0
  have HQ1 := Lib.hid q1
  have HQ2 := Lib.hid q2
  clear hr1 hl1 hd1 hr2 hl2 hd2 hr3 hl3 hd3 hr4 hl4 hd4 hr5 hl5 hd5 hr6 hl6 hd6 htab hbb s2
  have HB := Lib.hid (Below.refl W2.heap.size W2)
  have x0 := q0.cell 0
  have x1 := q0.cell 1
  clear q0 q1 q2
  simp only [List.getElem?_toArray, List.getElem?_cons_zero, List.getElem?_cons_succ] at x0 x1
  go_enter Tryd.func3, Tryd.ntmps3
  go_wp2_with fail
  clear hWb
  have hc := short_yes A1 A2 n1 c1 n2 c2 true W2 (by simp [hs0])
  have HC := Lib.hid hc
  clear hc
  skip
  refine HC.out.mono ?_
  rintro en w3 ⟨rfl, hb⟩
  have HB := Lib.hid (HB.out.trans (hb.mono HB.out.size))
  clear hb HC x0 x1
  have x0 := ((HQ1.out.below HB.out (by have := HS2.out; omega)).cell 0)
  have x1 := ((HQ1.out.below HB.out (by have := HS2.out; omega)).cell 1)
  simp only [List.getElem?_toArray, List.getElem?_cons_zero, List.getElem?_cons_succ] at x0 x1
  have hc := short_yes A3 A4 n3 c3 n4 c4 true w3 (by simp [hs1])
  have HC := Lib.hid hc
  clear hc
  go_wp2_with fail
  refine HC.out.mono ?_
  rintro en w4 ⟨rfl, hb⟩
  have HB := Lib.hid (HB.out.trans (hb.mono HB.out.size))
  clear hb HC x0 x1
  have x0 := ((HQ2.out.below HB.out (by have := HS2.out; omega)).cell 0)
  have x1 := ((HQ2.out.below HB.out (by have := HS2.out; omega)).cell 1)
  simp only [List.getElem?_toArray, List.getElem?_cons_zero, List.getElem?_cons_succ] at x0 x1
  have hc := short_yes A5 A6 n5 c5 n6 c6 true w4 (by simp [hs2])
  have HC := Lib.hid hc
  clear hc
  go_wp2_with fail
  refine HC.out.mono ?_
  rintro en w5 ⟨rfl, hb⟩
  have HB := Lib.hid (HB.out.trans (hb.mono HB.out.size))
  clear hb HC x0 x1
  have x0 := ((HQ0.out.below HB.out (by have := HS2.out; omega)).cell 0)
  have x1 := ((HQ0.out.below HB.out (by have := HS2.out; omega)).cell 1)
  simp only [List.getElem?_toArray, List.getElem?_cons_zero, List.getElem?_cons_succ] at x0 x1
  have hc := right4_r A1 A2 X1 X2 n1 c1 n2 c2 w5 HL1.out HL2.out ((HR1.out.below HB.out (Nat.le_refl _)).more HB.out.size) ((HR2.out.below HB.out (Nat.le_refl _)).more HB.out.size) HD1.out HD2.out (by omega) (by omega)
  rw [HRT0.out] at hc
  have HC := Lib.hid hc
  clear hc
  go_wp2_with fail
  refine HC.out.mono ?_
  rintro en w6 ⟨rfl, hb⟩
  have HB := Lib.hid (HB.out.trans (hb.mono HB.out.size))
  clear hb HC x0 x1
  go_wp2_with fail
  refine (alive4_any _ (HTAB.out.below HB.out)).mono ?_
  rintro en wz ⟨rfl, hb⟩
  go_wp2_with fail
  go_ret
  exact ⟨rfl, HBB.out.trans ((HB.out.trans (hb.mono HB.out.size)).mono HBB.out.size)⟩

set_option maxHeartbeats 4000000 in
theorem reckons_no4 (A1 A2 A3 A4 A5 A6 : Option Addr) (X1 X2 X3 X4 X5 X6 : List Nat) (n1 c1 n2 c2 n3 c3 n4 c4 n5 c5 n6 c6 : Nat) (w : World) (hl1 : X1.length = n1) (hr1 : Ra w w.heap.size A1 X1) (hd1 : Dg X1) (hl2 : X2.length = n2) (hr2 : Ra w w.heap.size A2 X2) (hd2 : Dg X2) (hl3 : X3.length = n3) (hr3 : Ra w w.heap.size A3 X3) (hd3 : Dg X3) (hl4 : X4.length = n4) (hr4 : Ra w w.heap.size A4 X4) (hd4 : Dg X4) (hl5 : X5.length = n5) (hr5 : Ra w w.heap.size A5 X5) (hd5 : Dg X5) (hl6 : X6.length = n6) (hr6 : Ra w w.heap.size A6 X6) (hd6 : Dg X6) (htab : Tab w) (hs0 : n1 ≤ 6 ∧ n2 ≤ 6) (hs1 : n3 ≤ 6 ∧ n4 ≤ 6) (hs2 : n5 ≤ 6 ∧ n6 ≤ 6) (hg0 : rightB X1 X2 = true) (hg1 : rightB X3 X4 = false) :
    Calls Tryd.prog 3 #[.agg #[.slice A1 n1 c1, .slice A2 n2 c2], .agg #[.slice A3 n3 c3, .slice A4 n4 c4], .agg #[.slice A5 n5 c5, .slice A6 n6 c6]] w fun e w' => e = .returned (.bool true) ∧ Below w.heap.size w w' := by
  have HRT0 := Lib.hid hg0
  have HRT1 := Lib.hid hg1
  clear hg0 hg1
  obtain ⟨W0, hW0⟩ : ∃ W, w.alloc (.cells #[.slice A1 n1 c1, .slice A2 n2 c2] 25) = W := ⟨_, rfl⟩
  obtain ⟨W1, hW1⟩ : ∃ W, W0.alloc (.cells #[.slice A3 n3 c3, .slice A4 n4 c4] 25) = W := ⟨_, rfl⟩
  obtain ⟨W2, hW2⟩ : ∃ W, W1.alloc (.cells #[.slice A5 n5 c5, .slice A6 n6 c6] 25) = W := ⟨_, rfl⟩
  have s0 : W0.heap.size = w.heap.size + 1 := by rw [← hW0]; simp
  have s1 : W1.heap.size = w.heap.size + 1 + 1 := by rw [← hW1]; simp [s0]
  have s2 : W2.heap.size = w.heap.size + 1 + 1 + 1 := by rw [← hW2]; simp [s1]
  have e0 : Below w.heap.size w W0 := by rw [← hW0]; exact b1 _ _
  have e1 : Below w.heap.size w W1 := by rw [← hW1]; exact e0.trans ((b1 _ _).mono e0.size)
  have hbb : Below w.heap.size w W2 := by rw [← hW2]; exact e1.trans ((b1 _ _).mono e1.size)
  have q0 : Blk W2 (w.heap.size) 25 #[.slice A1 n1 c1, .slice A2 n2 c2] := by rw [← hW2, ← hW1, ← hW0]; exact ((Blk.new _ _ _).alloc _).alloc _
  have q1 : Blk W2 (w.heap.size + 1) 25 #[.slice A3 n3 c3, .slice A4 n4 c4] := by rw [← hW2, ← hW1, ← s0]; exact (Blk.new _ _ _).alloc _
  have q2 : Blk W2 (w.heap.size + 1 + 1) 25 #[.slice A5 n5 c5, .slice A6 n6 c6] := by rw [← hW2, ← s1]; exact Blk.new _ _ _
  have hWb : ((w.alloc (.cells #[.slice A1 n1 c1, .slice A2 n2 c2] 25)).alloc (.cells #[.slice A3 n3 c3, .slice A4 n4 c4] 25)).alloc (.cells #[.slice A5 n5 c5, .slice A6 n6 c6] 25) = W2 := by rw [hW0, hW1, hW2]
  clear hW0 hW1 hW2 e0 e1 s0 s1
  have HR1 := Lib.hid ((hr1.below hbb (Nat.le_refl _)).more hbb.size)
  have HL1 := Lib.hid hl1
  have HD1 := Lib.hid hd1
  have HR2 := Lib.hid ((hr2.below hbb (Nat.le_refl _)).more hbb.size)
  have HL2 := Lib.hid hl2
  have HD2 := Lib.hid hd2
  have HR3 := Lib.hid ((hr3.below hbb (Nat.le_refl _)).more hbb.size)
  have HL3 := Lib.hid hl3
  have HD3 := Lib.hid hd3
  have HR4 := Lib.hid ((hr4.below hbb (Nat.le_refl _)).more hbb.size)
  have HL4 := Lib.hid hl4
  have HD4 := Lib.hid hd4
  have HR5 := Lib.hid ((hr5.below hbb (Nat.le_refl _)).more hbb.size)
  have HL5 := Lib.hid hl5
  have HD5 := Lib.hid hd5
  have HR6 := Lib.hid ((hr6.below hbb (Nat.le_refl _)).more hbb.size)
  have HL6 := Lib.hid hl6
  have HD6 := Lib.hid hd6
  have HTAB := Lib.hid (htab.below hbb)
  have HBB := Lib.hid hbb
  have HS2 := Lib.hid s2
  have HQ0 := Lib.hid q0
  have HQ1 := Lib.hid q1
  have HQ2 := Lib.hid q2
  clear hr1 hl1 hd1 hr2 hl2 hd2 hr3 hl3 hd3 hr4 hl4 hd4 hr5 hl5 hd5 hr6 hl6 hd6 htab hbb s2
  have HB := Lib.hid (Below.refl W2.heap.size W2)
  have x0 := q0.cell 0
  have x1 := q0.cell 1
  clear q0 q1 q2
  simp only [List.getElem?_toArray, List.getElem?_cons_zero, List.getElem?_cons_succ] at x0 x1
  go_enter Tryd.func3, Tryd.ntmps3
  go_wp2_with fail
  clear hWb
  have hc := short_yes A1 A2 n1 c1 n2 c2 true W2 (by simp [hs0])
  have HC := Lib.hid hc
  clear hc
  skip
  refine HC.out.mono ?_
  rintro en w3 ⟨rfl, hb⟩
  have HB := Lib.hid (HB.out.trans (hb.mono HB.out.size))
  clear hb HC x0 x1
  have x0 := ((HQ1.out.below HB.out (by have := HS2.out; omega)).cell 0)
  have x1 := ((HQ1.out.below HB.out (by have := HS2.out; omega)).cell 1)
  simp only [List.getElem?_toArray, List.getElem?_cons_zero, List.getElem?_cons_succ] at x0 x1
  have hc := short_yes A3 A4 n3 c3 n4 c4 true w3 (by simp [hs1])
  have HC := Lib.hid hc
  clear hc
  go_wp2_with fail
  refine HC.out.mono ?_
  rintro en w4 ⟨rfl, hb⟩
  have HB := Lib.hid (HB.out.trans (hb.mono HB.out.size))
  clear hb HC x0 x1
  have x0 := ((HQ2.out.below HB.out (by have := HS2.out; omega)).cell 0)
  have x1 := ((HQ2.out.below HB.out (by have := HS2.out; omega)).cell 1)
  simp only [List.getElem?_toArray, List.getElem?_cons_zero, List.getElem?_cons_succ] at x0 x1
  have hc := short_yes A5 A6 n5 c5 n6 c6 true w4 (by simp [hs2])
  have HC := Lib.hid hc
  clear hc
  go_wp2_with fail
  refine HC.out.mono ?_
  rintro en w5 ⟨rfl, hb⟩
  have HB := Lib.hid (HB.out.trans (hb.mono HB.out.size))
  clear hb HC x0 x1
  have x0 := ((HQ0.out.below HB.out (by have := HS2.out; omega)).cell 0)
  have x1 := ((HQ0.out.below HB.out (by have := HS2.out; omega)).cell 1)
  simp only [List.getElem?_toArray, List.getElem?_cons_zero, List.getElem?_cons_succ] at x0 x1
  have hc := right4_r A1 A2 X1 X2 n1 c1 n2 c2 w5 HL1.out HL2.out ((HR1.out.below HB.out (Nat.le_refl _)).more HB.out.size) ((HR2.out.below HB.out (Nat.le_refl _)).more HB.out.size) HD1.out HD2.out (by omega) (by omega)
  rw [HRT0.out] at hc
  have HC := Lib.hid hc
  clear hc
  go_wp2_with fail
  refine HC.out.mono ?_
  rintro en w6 ⟨rfl, hb⟩
  have HB := Lib.hid (HB.out.trans (hb.mono HB.out.size))
  clear hb HC x0 x1
  have x0 := ((HQ1.out.below HB.out (by have := HS2.out; omega)).cell 0)
  have x1 := ((HQ1.out.below HB.out (by have := HS2.out; omega)).cell 1)
  simp only [List.getElem?_toArray, List.getElem?_cons_zero, List.getElem?_cons_succ] at x0 x1
  have hc := right4_r A3 A4 X3 X4 n3 c3 n4 c4 w6 HL3.out HL4.out ((HR3.out.below HB.out (Nat.le_refl _)).more HB.out.size) ((HR4.out.below HB.out (Nat.le_refl _)).more HB.out.size) HD3.out HD4.out (by omega) (by omega)
  rw [HRT1.out] at hc
  have HC := Lib.hid hc
  clear hc
  go_wp2_with fail
  refine HC.out.mono ?_
  rintro en w7 ⟨rfl, hb⟩
  have HB := Lib.hid (HB.out.trans (hb.mono HB.out.size))
  clear hb HC x0 x1
  go_wp2_with fail
  refine (alive4_any _ (HTAB.out.below HB.out)).mono ?_
  rintro en wz ⟨rfl, hb⟩
  go_wp2_with fail
  go_ret
  exact ⟨rfl, HBB.out.trans ((HB.out.trans (hb.mono HB.out.size)).mono HBB.out.size)⟩

set_option maxHeartbeats 4000000 in
theorem reckons_no5 (A1 A2 A3 A4 A5 A6 : Option Addr) (X1 X2 X3 X4 X5 X6 : List Nat) (n1 c1 n2 c2 n3 c3 n4 c4 n5 c5 n6 c6 : Nat) (w : World) (hl1 : X1.length = n1) (hr1 : Ra w w.heap.size A1 X1) (hd1 : Dg X1) (hl2 : X2.length = n2) (hr2 : Ra w w.heap.size A2 X2) (hd2 : Dg X2) (hl3 : X3.length = n3) (hr3 : Ra w w.heap.size A3 X3) (hd3 : Dg X3) (hl4 : X4.length = n4) (hr4 : Ra w w.heap.size A4 X4) (hd4 : Dg X4) (hl5 : X5.length = n5) (hr5 : Ra w w.heap.size A5 X5) (hd5 : Dg X5) (hl6 : X6.length = n6) (hr6 : Ra w w.heap.size A6 X6) (hd6 : Dg X6) (htab : Tab w) (hs0 : n1 ≤ 6 ∧ n2 ≤ 6) (hs1 : n3 ≤ 6 ∧ n4 ≤ 6) (hs2 : n5 ≤ 6 ∧ n6 ≤ 6) (hg0 : rightB X1 X2 = true) (hg1 : rightB X3 X4 = true) (hg2 : rightB X5 X6 = false) :
    Calls Tryd.prog 3 #[.agg #[.slice A1 n1 c1, .slice A2 n2 c2], .agg #[.slice A3 n3 c3, .slice A4 n4 c4], .agg #[.slice A5 n5 c5, .slice A6 n6 c6]] w fun e w' => e = .returned (.bool true) ∧ Below w.heap.size w w' := by
  have HRT0 := Lib.hid hg0
  have HRT1 := Lib.hid hg1
  have HRT2 := Lib.hid hg2
  clear hg0 hg1 hg2
  obtain ⟨W0, hW0⟩ : ∃ W, w.alloc (.cells #[.slice A1 n1 c1, .slice A2 n2 c2] 25) = W := ⟨_, rfl⟩
  obtain ⟨W1, hW1⟩ : ∃ W, W0.alloc (.cells #[.slice A3 n3 c3, .slice A4 n4 c4] 25) = W := ⟨_, rfl⟩
  obtain ⟨W2, hW2⟩ : ∃ W, W1.alloc (.cells #[.slice A5 n5 c5, .slice A6 n6 c6] 25) = W := ⟨_, rfl⟩
  have s0 : W0.heap.size = w.heap.size + 1 := by rw [← hW0]; simp
  have s1 : W1.heap.size = w.heap.size + 1 + 1 := by rw [← hW1]; simp [s0]
  have s2 : W2.heap.size = w.heap.size + 1 + 1 + 1 := by rw [← hW2]; simp [s1]
  have e0 : Below w.heap.size w W0 := by rw [← hW0]; exact b1 _ _
  have e1 : Below w.heap.size w W1 := by rw [← hW1]; exact e0.trans ((b1 _ _).mono e0.size)
  have hbb : Below w.heap.size w W2 := by rw [← hW2]; exact e1.trans ((b1 _ _).mono e1.size)
  have q0 : Blk W2 (w.heap.size) 25 #[.slice A1 n1 c1, .slice A2 n2 c2] := by rw [← hW2, ← hW1, ← hW0]; exact ((Blk.new _ _ _).alloc _).alloc _
  have q1 : Blk W2 (w.heap.size + 1) 25 #[.slice A3 n3 c3, .slice A4 n4 c4] := by rw [← hW2, ← hW1, ← s0]; exact (Blk.new _ _ _).alloc _
  have q2 : Blk W2 (w.heap.size + 1 + 1) 25 #[.slice A5 n5 c5, .slice A6 n6 c6] := by rw [← hW2, ← s1]; exact Blk.new _ _ _
  have hWb : ((w.alloc (.cells #[.slice A1 n1 c1, .slice A2 n2 c2] 25)).alloc (.cells #[.slice A3 n3 c3, .slice A4 n4 c4] 25)).alloc (.cells #[.slice A5 n5 c5, .slice A6 n6 c6] 25) = W2 := by rw [hW0, hW1, hW2]
  clear hW0 hW1 hW2 e0 e1 s0 s1
  have HR1 := Lib.hid ((hr1.below hbb (Nat.le_refl _)).more hbb.size)
  have HL1 := Lib.hid hl1
  have HD1 := Lib.hid hd1
  have HR2 := Lib.hid ((hr2.below hbb (Nat.le_refl _)).more hbb.size)
  have HL2 := Lib.hid hl2
  have HD2 := Lib.hid hd2
  have HR3 := Lib.hid ((hr3.below hbb (Nat.le_refl _)).more hbb.size)
  have HL3 := Lib.hid hl3
  have HD3 := Lib.hid hd3
  have HR4 := Lib.hid ((hr4.below hbb (Nat.le_refl _)).more hbb.size)
  have HL4 := Lib.hid hl4
  have HD4 := Lib.hid hd4
  have HR5 := Lib.hid ((hr5.below hbb (Nat.le_refl _)).more hbb.size)
  have HL5 := Lib.hid hl5
  have HD5 := Lib.hid hd5
  have HR6 := Lib.hid ((hr6.below hbb (Nat.le_refl _)).more hbb.size)
  have HL6 := Lib.hid hl6
  have HD6 := Lib.hid hd6
  have HTAB := Lib.hid (htab.below hbb)
  have HBB := Lib.hid hbb
  have HS2 := Lib.hid s2
  have HQ0 := Lib.hid q0
  have HQ1 := Lib.hid q1
  have HQ2 := Lib.hid q2
  clear hr1 hl1 hd1 hr2 hl2 hd2 hr3 hl3 hd3 hr4 hl4 hd4 hr5 hl5 hd5 hr6 hl6 hd6 htab hbb s2
  have HB := Lib.hid (Below.refl W2.heap.size W2)
  have x0 := q0.cell 0
  have x1 := q0.cell 1
  clear q0 q1 q2
  simp only [List.getElem?_toArray, List.getElem?_cons_zero, List.getElem?_cons_succ] at x0 x1
  go_enter Tryd.func3, Tryd.ntmps3
  go_wp2_with fail
  clear hWb
  have hc := short_yes A1 A2 n1 c1 n2 c2 true W2 (by simp [hs0])
  have HC := Lib.hid hc
  clear hc
  skip
  refine HC.out.mono ?_
  rintro en w3 ⟨rfl, hb⟩
  have HB := Lib.hid (HB.out.trans (hb.mono HB.out.size))
  clear hb HC x0 x1
  have x0 := ((HQ1.out.below HB.out (by have := HS2.out; omega)).cell 0)
  have x1 := ((HQ1.out.below HB.out (by have := HS2.out; omega)).cell 1)
  simp only [List.getElem?_toArray, List.getElem?_cons_zero, List.getElem?_cons_succ] at x0 x1
  have hc := short_yes A3 A4 n3 c3 n4 c4 true w3 (by simp [hs1])
  have HC := Lib.hid hc
  clear hc
  go_wp2_with fail
  refine HC.out.mono ?_
  rintro en w4 ⟨rfl, hb⟩
  have HB := Lib.hid (HB.out.trans (hb.mono HB.out.size))
  clear hb HC x0 x1
  have x0 := ((HQ2.out.below HB.out (by have := HS2.out; omega)).cell 0)
  have x1 := ((HQ2.out.below HB.out (by have := HS2.out; omega)).cell 1)
  simp only [List.getElem?_toArray, List.getElem?_cons_zero, List.getElem?_cons_succ] at x0 x1
  have hc := short_yes A5 A6 n5 c5 n6 c6 true w4 (by simp [hs2])
  have HC := Lib.hid hc
  clear hc
  go_wp2_with fail
  refine HC.out.mono ?_
  rintro en w5 ⟨rfl, hb⟩
  have HB := Lib.hid (HB.out.trans (hb.mono HB.out.size))
  clear hb HC x0 x1
  have x0 := ((HQ0.out.below HB.out (by have := HS2.out; omega)).cell 0)
  have x1 := ((HQ0.out.below HB.out (by have := HS2.out; omega)).cell 1)
  simp only [List.getElem?_toArray, List.getElem?_cons_zero, List.getElem?_cons_succ] at x0 x1
  have hc := right4_r A1 A2 X1 X2 n1 c1 n2 c2 w5 HL1.out HL2.out ((HR1.out.below HB.out (Nat.le_refl _)).more HB.out.size) ((HR2.out.below HB.out (Nat.le_refl _)).more HB.out.size) HD1.out HD2.out (by omega) (by omega)
  rw [HRT0.out] at hc
  have HC := Lib.hid hc
  clear hc
  go_wp2_with fail
  refine HC.out.mono ?_
  rintro en w6 ⟨rfl, hb⟩
  have HB := Lib.hid (HB.out.trans (hb.mono HB.out.size))
  clear hb HC x0 x1
  have x0 := ((HQ1.out.below HB.out (by have := HS2.out; omega)).cell 0)
  have x1 := ((HQ1.out.below HB.out (by have := HS2.out; omega)).cell 1)
  simp only [List.getElem?_toArray, List.getElem?_cons_zero, List.getElem?_cons_succ] at x0 x1
  have hc := right4_r A3 A4 X3 X4 n3 c3 n4 c4 w6 HL3.out HL4.out ((HR3.out.below HB.out (Nat.le_refl _)).more HB.out.size) ((HR4.out.below HB.out (Nat.le_refl _)).more HB.out.size) HD3.out HD4.out (by omega) (by omega)
  rw [HRT1.out] at hc
  have HC := Lib.hid hc
  clear hc
  go_wp2_with fail
  refine HC.out.mono ?_
  rintro en w7 ⟨rfl, hb⟩
  have HB := Lib.hid (HB.out.trans (hb.mono HB.out.size))
  clear hb HC x0 x1
  have x0 := ((HQ2.out.below HB.out (by have := HS2.out; omega)).cell 0)
  have x1 := ((HQ2.out.below HB.out (by have := HS2.out; omega)).cell 1)
  simp only [List.getElem?_toArray, List.getElem?_cons_zero, List.getElem?_cons_succ] at x0 x1
  have hc := right4_r A5 A6 X5 X6 n5 c5 n6 c6 w7 HL5.out HL6.out ((HR5.out.below HB.out (Nat.le_refl _)).more HB.out.size) ((HR6.out.below HB.out (Nat.le_refl _)).more HB.out.size) HD5.out HD6.out (by omega) (by omega)
  rw [HRT2.out] at hc
  have HC := Lib.hid hc
  clear hc
  go_wp2_with fail
  refine HC.out.mono ?_
  rintro en w8 ⟨rfl, hb⟩
  have HB := Lib.hid (HB.out.trans (hb.mono HB.out.size))
  clear hb HC x0 x1
  go_wp2_with fail
  refine (alive4_any _ (HTAB.out.below HB.out)).mono ?_
  rintro en wz ⟨rfl, hb⟩
  go_wp2_with fail
  go_ret
  exact ⟨rfl, HBB.out.trans ((HB.out.trans (hb.mono HB.out.size)).mono HBB.out.size)⟩

end Go.Proofs.YtlnabebjhpdgpaaDoor

namespace Go.Proofs.YtlnabebjhpdgpaaDoor
open Go.RowKit
set_option maxRecDepth 100000

theorem nofrac_yes (w : World) : Calls Tryd.prog 18 #[.agg #[.slice none 0 0, .slice none 0 0]] w fun e w' => e = .returned (.bool true) ∧ Below w.heap.size w w' := by
  go_enter Tryd.func18, Tryd.ntmps18
  go_wp2_with fail
  go_ret
  exact ⟨rfl, b1 _ _⟩

theorem num_len {w : World} {L n c a : Nat} {A : Option Addr} (h : Num w L (.agg #[.slice A n c]) a) : decide (n = 0) = decide (a = 0) := by
  obtain ⟨A', xs, n', c', hv, hl, _, _, _, hc, rfl⟩ := h
  simp only [Value.agg.injEq, Array.mk.injEq, List.cons.injEq, Value.slice.injEq, and_true] at hv
  obtain ⟨rfl, rfl, rfl⟩ := hv
  rcases Nat.eq_zero_or_pos n with h0 | h0
  · subst h0
    have : xs = [] := List.eq_nil_of_length_eq_zero hl
    subst this
    rfl
  · have hne : xs ≠ [] := fun e => by rw [e] at hl; simp at hl; omega
    have := V_ge hc hne
    have hp : 0 < 65536 ^ (xs.length - 1) := Nat.pow_pos (by omega)
    rw [decide_eq_false (by omega), decide_eq_false (by omega)]

set_option maxHeartbeats 2000000 in
theorem zero4_r {B1 B2 : Option Addr} {i1 e1 i2 e2 : Nat} {q : Nat × Nat} (z : Bool) (w : World) (h : QNum w B1 i1 e1 B2 i2 e2 q) (hz : decide (q.1 = 0) = z) :
    Calls Tryd.prog 20 #[.agg #[.slice B1 i1 e1, .slice B2 i2 e2]] w fun e w' => e = .returned (.bool z) ∧ Below w.heap.size w w' := by
  obtain ⟨⟨L1, h1⟩, _⟩ := h
  have hn := num_len h1
  rw [hz] at hn
  have hn' : ((i1 : Int) == 0) = z := by
    rw [← hn]
    rcases Nat.eq_zero_or_pos i1 with h0 | h0
    · subst h0; rfl
    · rw [decide_eq_false (by omega)]; simp; omega
  have hb := b1 w (.cells #[.slice B1 i1 e1, .slice B2 i2 e2] 32)
  have x0 := cn0 w 32 (.slice B1 i1 e1) (.slice B2 i2 e2)
  have x1 := cn1 w 32 (.slice B1 i1 e1) (.slice B2 i2 e2)
  clear h1 hn hz
  go_enter Tryd.func20, Tryd.ntmps20
  go_wp2_with fail
  go_ret
  exact ⟨rfl, hb⟩

theorem rt_of {X Y : List Nat} (h : rightB X Y = true) : Rt (U X, U Y) := by
  simp only [rightB, Bool.and_eq_true, Bool.not_eq_true', decide_eq_false_iff_not, decide_eq_true_eq] at h
  exact ⟨Nat.pos_of_ne_zero h.2.2.1, h.2.2.2⟩

/-- Right fractions are the same just if neither is more. -/
theorem same_cmp {a b : Nat × Nat} (ha : Rt a) (hb : Rt b) : sameQ a.1 a.2 b.1 b.2 = (cmpI (a.1 * b.2) (b.1 * a.2) == 0) := by
  rw [cmpI_zero]
  unfold sameQ
  by_cases h : a.1 * b.2 = b.1 * a.2
  · have := rt_ext ha hb h
    subst this
    simp
  · rw [decide_eq_false h, Bool.and_eq_false_iff]
    rcases Nat.decEq a.1 b.1 with h1 | h1
    · left; exact decide_eq_false h1
    · right
      refine decide_eq_false fun h2 => h ?_
      rw [h1, h2]
theorem sameQ_self (p q : Nat) : sameQ p q p q = true := by simp [sameQ]
theorem cmpI_neg {a b : Nat} (h : a < b) : (decide (cmpI a b ≥ 0)) = false := by rw [cmpI_lt h]; rfl
theorem cmpI_pos {a b : Nat} (h : b ≤ a) : (decide (cmpI a b ≥ 0)) = true := by
  unfold cmpI
  rw [if_neg (by omega)]
  split <;> rfl
theorem lt_of_rd {X : List Nat} (h : Dg X) {k : Nat} (hk : X.length ≤ k) (hk6 : k ≤ 6) {j : Nat} (hj : j = 12) : U X < 65536 ^ j := by
  subst hj
  exact Nat.lt_of_lt_of_le (U_small_k (2 * k) h hk rfl) (Nat.pow_le_pow_right (by omega) (by omega))
theorem pow16_32 {x j k : Nat} (h : x < 65536 ^ k) (hk : k = 2 * j) : x < 4294967296 ^ j := by
  subst hk
  rwa [Nat.pow_mul, show (65536 : Nat) ^ 2 = 4294967296 by decide] at h

/-- What a difference is: that of the pairs, or none. -/
def DiffP (W : World) (z : Bool) (v1 v2 : Value) (s q : Nat × Nat) : Prop :=
  (z = true ∧ q.1 * s.2 ≤ s.1 * q.2 ∧ (∃ L, Nv W L v1 (subR s q).1) ∧ (∃ L, Nv W L v2 (subR s q).2)) ∨ (z = false ∧ s.1 * q.2 < q.1 * s.2 ∧ v1 = .slice none 0 0 ∧ v2 = .slice none 0 0)
/-- What a quotient is: that of the pairs, or none. -/
def QuotP (W : World) (z : Bool) (v1 v2 : Value) (s q : Nat × Nat) : Prop :=
  (z = true ∧ 0 < q.1 ∧ (∃ L, Nv W L v1 (mulR s (q.2, q.1)).1) ∧ (∃ L, Nv W L v2 (mulR s (q.2, q.1)).2)) ∨ (z = false ∧ q.1 = 0 ∧ v1 = .slice none 0 0 ∧ v2 = .slice none 0 0)
theorem sumback_r {W : World} {g M : Nat} {a b : Nat × Nat} (hr : Rats W W.heap.size (some ⟨g, 0, none⟩) [subR a b, b] M) (ha : Rt a) (hb : Rt b) (hle : b.1 * a.2 ≤ a.1 * b.2) (hM : M ≤ 100) :
    Calls Tryd.prog 9 #[.slice (some ⟨g, 0, none⟩) 2 2] W (RetP W a) := by
  have := sum2_r hr (subR_rt ha.1 hb.1) hb hM
  rwa [sub_back ha hb hle] at this
theorem prodback_r {W : World} {g M : Nat} {a b : Nat × Nat} (hr : Rats W W.heap.size (some ⟨g, 0, none⟩) [mulR a (b.2, b.1), b] M) (ha : Rt a) (hb : Rt b) (h0 : 0 < b.1) (hM : M ≤ 100) :
    Calls Tryd.prog 11 #[.slice (some ⟨g, 0, none⟩) 2 2] W (RetP W a) := by
  have := prod2_r hr (mulR_rt ha.1 h0) hb hM
  rwa [div_back ha hb h0] at this
end Go.Proofs.YtlnabebjhpdgpaaDoor

namespace Go.Proofs.YtlnabebjhpdgpaaDoor
open Go.RowKit
set_option maxRecDepth 100000

/-- The operations of a region of a function's body. -/
def regionOf : Code → Nat → Option (Array Oper)
  | .region id ops _, n => if id = n then some ops else none
  | .seq x y, n => (regionOf x n).orElse fun _ => regionOf y n
  | .cond _ x y, n => (regionOf x n).orElse fun _ => regionOf y n
  | .block _ x, n => regionOf x n
  | .loop x, n => regionOf x n
  | _, _ => none
def ops3s : { o : Array Oper // (match Go.Func.body Tryd.f3 with | some c => regionOf c 3 | none => none) = some o } := ⟨_, rfl⟩
def ops3 : Array Oper := ops3s.1
def ops4s : { o : Array Oper // (match Go.Func.body Tryd.f3 with | some c => regionOf c 4 | none => none) = some o } := ⟨_, rfl⟩
def ops4 : Array Oper := ops4s.1
def ops7s : { o : Array Oper // (match Go.Func.body Tryd.f3 with | some c => regionOf c 7 | none => none) = some o } := ⟨_, rfl⟩
def ops7 : Array Oper := ops7s.1
def ops10s : { o : Array Oper // (match Go.Func.body Tryd.f3 with | some c => regionOf c 10 | none => none) = some o } := ⟨_, rfl⟩
def ops10 : Array Oper := ops10s.1
def ops13s : { o : Array Oper // (match Go.Func.body Tryd.f3 with | some c => regionOf c 13 | none => none) = some o } := ⟨_, rfl⟩
def ops13 : Array Oper := ops13s.1
theorem memoH {P : Program} {md : Region.Mode} {ops : Array Oper} {Q : Exit → Act → World → Prop} {S : World → Prop} {f : Nat} {l : Array Bool} {a : Act} {w : World} (I : Act → (Act → World → Prop) → Prop) (f1 : Nat) (l1 : Array Bool)
    (h1 : I a (fun a' w' => wpAnyH P md ops Q S f1 l1 a' w')) (h0 : I a (fun a' w' => wpAnyH P md ops Q S f1 l1 a' w') → wpAnyH P md ops Q S f l a w) : wpAnyH P md ops Q S f l a w := h0 h1

/-- A variable that holds a fraction of the document's. -/
def QBox (W : World) (g a b : Nat) : Prop := ∃ A1 n1 c1 A2 n2 c2, Blk W g 32 #[.slice A1 n1 c1, .slice A2 n2 c2] ∧ (∃ L, Num W L (.agg #[.slice A1 n1 c1]) a) ∧ (∃ L, Num W L (.agg #[.slice A2 n2 c2]) b)

end Go.Proofs.YtlnabebjhpdgpaaDoor
