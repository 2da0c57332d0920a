/-
  Sums, differences, products, quotients, order: the walk.
-/
import Derived.Test.YtlnabebjhpdgpaaDoorLawReck3
import Derived.Test.YtlnabebjhpdgpaaDoorLawReck4
import Derived.Test.YtlnabebjhpdgpaaDoorLawReck7
import Derived.Test.YtlnabebjhpdgpaaDoorLawReck10
import Derived.Test.YtlnabebjhpdgpaaDoorLawReck13
namespace Go.Proofs.YtlnabebjhpdgpaaDoor
open Go.RowKit
set_option maxRecDepth 100000

set_option maxHeartbeats 64000000 in
theorem reckons_walk (A1 A2 A3 A4 A5 A6 : Option Addr) (X1 X2 X3 X4 X5 X6 : List Nat) (n1 c1 n2 c2 n3 c3 n4 c4 n5 c5 n6 c6 : Nat) (w : World) (hl1 : X1.length = n1) (hr1 : Ra w w.heap.size A1 X1) (hd1 : Dg X1) (hl2 : X2.length = n2) (hr2 : Ra w w.heap.size A2 X2) (hd2 : Dg X2) (hl3 : X3.length = n3) (hr3 : Ra w w.heap.size A3 X3) (hd3 : Dg X3) (hl4 : X4.length = n4) (hr4 : Ra w w.heap.size A4 X4) (hd4 : Dg X4) (hl5 : X5.length = n5) (hr5 : Ra w w.heap.size A5 X5) (hd5 : Dg X5) (hl6 : X6.length = n6) (hr6 : Ra w w.heap.size A6 X6) (hd6 : Dg X6) (htab : Tab w) (hk1 : n1 ≤ c1) (hk2 : n2 ≤ c2) (hk3 : n3 ≤ c3) (hk4 : n4 ≤ c4) (hk5 : n5 ≤ c5) (hk6 : n6 ≤ c6) (hs0 : n1 ≤ 6 ∧ n2 ≤ 6) (hs1 : n3 ≤ 6 ∧ n4 ≤ 6) (hs2 : n5 ≤ 6 ∧ n6 ≤ 6) (hg0 : rightB X1 X2 = true) (hg1 : rightB X3 X4 = true) (hg2 : rightB X5 X6 = true) :
    Calls Tryd.prog 3 #[.agg #[.slice A1 n1 c1, .slice A2 n2 c2], .agg #[.slice A3 n3 c3, .slice A4 n4 c4], .agg #[.slice A5 n5 c5, .slice A6 n6 c6]] w fun e w' => e = .returned (.bool true) ∧ Below w.heap.size w w' := by
  have HK1 := Lib.hid hk1
  have HK2 := Lib.hid hk2
  have HK3 := Lib.hid hk3
  have HK4 := Lib.hid hk4
  have HK5 := Lib.hid hk5
  have HK6 := Lib.hid hk6
  clear hk1 hk2 hk3 hk4 hk5 hk6
  have HRT0 := Lib.hid hg0
  have HRT1 := Lib.hid hg1
  have HRT2 := Lib.hid hg2
  clear hg0 hg1 hg2
  obtain ⟨W0, hW0⟩ : ∃ W, w.alloc (.cells #[.slice A1 n1 c1, .slice A2 n2 c2] 25) = W := ⟨_, rfl⟩
  obtain ⟨W1, hW1⟩ : ∃ W, W0.alloc (.cells #[.slice A3 n3 c3, .slice A4 n4 c4] 25) = W := ⟨_, rfl⟩
  obtain ⟨W2, hW2⟩ : ∃ W, W1.alloc (.cells #[.slice A5 n5 c5, .slice A6 n6 c6] 25) = W := ⟨_, rfl⟩
  have s0 : W0.heap.size = w.heap.size + 1 := by rw [← hW0]; simp
  have s1 : W1.heap.size = w.heap.size + 1 + 1 := by rw [← hW1]; simp [s0]
  have s2 : W2.heap.size = w.heap.size + 1 + 1 + 1 := by rw [← hW2]; simp [s1]
  have e0 : Below w.heap.size w W0 := by rw [← hW0]; exact b1 _ _
  have e1 : Below w.heap.size w W1 := by rw [← hW1]; exact e0.trans ((b1 _ _).mono e0.size)
  have hbb : Below w.heap.size w W2 := by rw [← hW2]; exact e1.trans ((b1 _ _).mono e1.size)
  have q0 : Blk W2 (w.heap.size) 25 #[.slice A1 n1 c1, .slice A2 n2 c2] := by rw [← hW2, ← hW1, ← hW0]; exact ((Blk.new _ _ _).alloc _).alloc _
  have q1 : Blk W2 (w.heap.size + 1) 25 #[.slice A3 n3 c3, .slice A4 n4 c4] := by rw [← hW2, ← hW1, ← s0]; exact (Blk.new _ _ _).alloc _
  have q2 : Blk W2 (w.heap.size + 1 + 1) 25 #[.slice A5 n5 c5, .slice A6 n6 c6] := by rw [← hW2, ← s1]; exact Blk.new _ _ _
  have hWb : ((w.alloc (.cells #[.slice A1 n1 c1, .slice A2 n2 c2] 25)).alloc (.cells #[.slice A3 n3 c3, .slice A4 n4 c4] 25)).alloc (.cells #[.slice A5 n5 c5, .slice A6 n6 c6] 25) = W2 := by rw [hW0, hW1, hW2]
  clear hW0 hW1 hW2 e0 e1 s0 s1
  have HR1 := Lib.hid ((hr1.below hbb (Nat.le_refl _)).more hbb.size)
  have HL1 := Lib.hid hl1
  have HD1 := Lib.hid hd1
  have HR2 := Lib.hid ((hr2.below hbb (Nat.le_refl _)).more hbb.size)
  have HL2 := Lib.hid hl2
  have HD2 := Lib.hid hd2
  have HR3 := Lib.hid ((hr3.below hbb (Nat.le_refl _)).more hbb.size)
  have HL3 := Lib.hid hl3
  have HD3 := Lib.hid hd3
  have HR4 := Lib.hid ((hr4.below hbb (Nat.le_refl _)).more hbb.size)
  have HL4 := Lib.hid hl4
  have HD4 := Lib.hid hd4
  have HR5 := Lib.hid ((hr5.below hbb (Nat.le_refl _)).more hbb.size)
  have HL5 := Lib.hid hl5
  have HD5 := Lib.hid hd5
  have HR6 := Lib.hid ((hr6.below hbb (Nat.le_refl _)).more hbb.size)
  have HL6 := Lib.hid hl6
  have HD6 := Lib.hid hd6
  have HTAB := Lib.hid (htab.below hbb)
  have HBB := Lib.hid hbb
  have HS2 := Lib.hid s2
  have HQ0 := Lib.hid q0
  have HQ1 := Lib.hid q1
  have HQ2 := Lib.hid q2
  clear hr1 hl1 hd1 hr2 hl2 hd2 hr3 hl3 hd3 hr4 hl4 hd4 hr5 hl5 hd5 hr6 hl6 hd6 htab hbb s2
  have HB := Lib.hid (Below.refl W2.heap.size W2)
  have x0 := q0.cell 0
  have x1 := q0.cell 1
  clear q0 q1 q2
  simp only [List.getElem?_toArray, List.getElem?_cons_zero, List.getElem?_cons_succ] at x0 x1
  go_enter Tryd.func3, Tryd.ntmps3
  go_wp2_with fail
  clear hWb
  have hc := short_yes A1 A2 n1 c1 n2 c2 true W2 (by simp [hs0])
  have HC := Lib.hid hc
  clear hc
  skip
  refine HC.out.mono ?_
  rintro en w3 ⟨rfl, hb⟩
  have HB := Lib.hid (HB.out.trans (hb.mono HB.out.size))
  clear hb HC x0 x1
  have x0 := ((HQ1.out.below HB.out (by have := HS2.out; omega)).cell 0)
  have x1 := ((HQ1.out.below HB.out (by have := HS2.out; omega)).cell 1)
  simp only [List.getElem?_toArray, List.getElem?_cons_zero, List.getElem?_cons_succ] at x0 x1
  have hc := short_yes A3 A4 n3 c3 n4 c4 true w3 (by simp [hs1])
  have HC := Lib.hid hc
  clear hc
  go_wp2_with fail
  refine HC.out.mono ?_
  rintro en w4 ⟨rfl, hb⟩
  have HB := Lib.hid (HB.out.trans (hb.mono HB.out.size))
  clear hb HC x0 x1
  have x0 := ((HQ2.out.below HB.out (by have := HS2.out; omega)).cell 0)
  have x1 := ((HQ2.out.below HB.out (by have := HS2.out; omega)).cell 1)
  simp only [List.getElem?_toArray, List.getElem?_cons_zero, List.getElem?_cons_succ] at x0 x1
  have hc := short_yes A5 A6 n5 c5 n6 c6 true w4 (by simp [hs2])
  have HC := Lib.hid hc
  clear hc
  go_wp2_with fail
  refine HC.out.mono ?_
  rintro en w5 ⟨rfl, hb⟩
  have HB := Lib.hid (HB.out.trans (hb.mono HB.out.size))
  clear hb HC x0 x1
  have x0 := ((HQ0.out.below HB.out (by have := HS2.out; omega)).cell 0)
  have x1 := ((HQ0.out.below HB.out (by have := HS2.out; omega)).cell 1)
  simp only [List.getElem?_toArray, List.getElem?_cons_zero, List.getElem?_cons_succ] at x0 x1
  have hc := right4_r A1 A2 X1 X2 n1 c1 n2 c2 w5 HL1.out HL2.out ((HR1.out.below HB.out (Nat.le_refl _)).more HB.out.size) ((HR2.out.below HB.out (Nat.le_refl _)).more HB.out.size) HD1.out HD2.out (by omega) (by omega)
  rw [HRT0.out] at hc
  have HC := Lib.hid hc
  clear hc
  go_wp2_with fail
  refine HC.out.mono ?_
  rintro en w6 ⟨rfl, hb⟩
  have HB := Lib.hid (HB.out.trans (hb.mono HB.out.size))
  clear hb HC x0 x1
  have x0 := ((HQ1.out.below HB.out (by have := HS2.out; omega)).cell 0)
  have x1 := ((HQ1.out.below HB.out (by have := HS2.out; omega)).cell 1)
  simp only [List.getElem?_toArray, List.getElem?_cons_zero, List.getElem?_cons_succ] at x0 x1
  have hc := right4_r A3 A4 X3 X4 n3 c3 n4 c4 w6 HL3.out HL4.out ((HR3.out.below HB.out (Nat.le_refl _)).more HB.out.size) ((HR4.out.below HB.out (Nat.le_refl _)).more HB.out.size) HD3.out HD4.out (by omega) (by omega)
  rw [HRT1.out] at hc
  have HC := Lib.hid hc
  clear hc
  go_wp2_with fail
  refine HC.out.mono ?_
  rintro en w7 ⟨rfl, hb⟩
  have HB := Lib.hid (HB.out.trans (hb.mono HB.out.size))
  clear hb HC x0 x1
  have x0 := ((HQ2.out.below HB.out (by have := HS2.out; omega)).cell 0)
  have x1 := ((HQ2.out.below HB.out (by have := HS2.out; omega)).cell 1)
  simp only [List.getElem?_toArray, List.getElem?_cons_zero, List.getElem?_cons_succ] at x0 x1
  have hc := right4_r A5 A6 X5 X6 n5 c5 n6 c6 w7 HL5.out HL6.out ((HR5.out.below HB.out (Nat.le_refl _)).more HB.out.size) ((HR6.out.below HB.out (Nat.le_refl _)).more HB.out.size) HD5.out HD6.out (by omega) (by omega)
  rw [HRT2.out] at hc
  have HC := Lib.hid hc
  clear hc
  go_wp2_with fail
  refine HC.out.mono ?_
  rintro en w8 ⟨rfl, hb⟩
  have HB := Lib.hid (HB.out.trans (hb.mono HB.out.size))
  clear hb HC x0 x1
  have x0 := ((HQ0.out.below HB.out (by have := HS2.out; omega)).cell 0)
  have x1 := ((HQ0.out.below HB.out (by have := HS2.out; omega)).cell 1)
  simp only [List.getElem?_toArray, List.getElem?_cons_zero, List.getElem?_cons_succ] at x0 x1
  go_upto_region 3 with (fail)
  obtain ⟨W9, hW9⟩ : ∃ W, w8 = W := ⟨_, rfl⟩
  rw [hW9] at HB ⊢
  clear x0 x1
  have HR1 := Lib.hid ((HR1.out.below HB.out (Nat.le_refl _)).more HB.out.size)
  have HR2 := Lib.hid ((HR2.out.below HB.out (Nat.le_refl _)).more HB.out.size)
  have HR3 := Lib.hid ((HR3.out.below HB.out (Nat.le_refl _)).more HB.out.size)
  have HR4 := Lib.hid ((HR4.out.below HB.out (Nat.le_refl _)).more HB.out.size)
  have HR5 := Lib.hid ((HR5.out.below HB.out (Nat.le_refl _)).more HB.out.size)
  have HR6 := Lib.hid ((HR6.out.below HB.out (Nat.le_refl _)).more HB.out.size)
  have HQ09 := Lib.hid (HQ0.out.below HB.out (by have := HS2.out; omega))
  have HQ19 := Lib.hid (HQ1.out.below HB.out (by have := HS2.out; omega))
  have HQ29 := Lib.hid (HQ2.out.below HB.out (by have := HS2.out; omega))
  go_cut [7, 8, 9] (fun u v x wr => ∃ g6 g7 g8, u = .pointer (some ⟨g6, 0, none⟩) ∧ v = .pointer (some ⟨g7, 0, none⟩) ∧ x = .pointer (some ⟨g8, 0, none⟩) ∧ QBox wr g6 (U X1) (U X2) ∧ QBox wr g7 (U X3) (U X4) ∧ QBox wr g8 (U X5) (U X6) ∧ Below W9.heap.size W9 wr ∧ W9.heap.size ≤ g6 ∧ W9.heap.size ≤ g7 ∧ W9.heap.size ≤ g8)
  case first =>
    refine reg3_r HQ09 HQ19 HQ29 HR1 HR2 HR3 HR4 HR5 HR6 HL1 HL2 HL3 HL4 HL5 HL6 HD1 HD2 HD3 HD4 HD5 HD6 hs0 hs1 hs2 (fun _ _ _ _ _ h => h) (fun _ _ _ _ _ _ g6 g7 g8 wn z6 z7 z8 hb h6 h7 h8 => ?_)
    go_wp2_with fail
    go_meet
    exact ⟨_, _, _, rfl, rfl, rfl, z6, z7, z8, hb, h6, h7, h8⟩
  case rest =>
    clear HQ09 HQ19 HQ29
    obtain ⟨g6, g7, g8, rfl, rfl, rfl, z6, z7, z8, hbr, hg6, hg7, hg8⟩ := hcut
    obtain ⟨B1, i1, e1, B2, i2, e2, q0, m0, p0⟩ := z6
    have HZ0 := Lib.hid q0
    have HU0 := Lib.hid (show QNum wc B1 i1 e1 B2 i2 e2 (U X1, U X2) from ⟨m0, p0⟩)
    clear q0 m0 p0
    obtain ⟨B3, i3, e3, B4, i4, e4, q1, m1, p1⟩ := z7
    have HZ1 := Lib.hid q1
    have HU1 := Lib.hid (show QNum wc B3 i3 e3 B4 i4 e4 (U X3, U X4) from ⟨m1, p1⟩)
    clear q1 m1 p1
    obtain ⟨B5, i5, e5, B6, i6, e6, q2, m2, p2⟩ := z8
    have HZ2 := Lib.hid q2
    have HU2 := Lib.hid (show QNum wc B5 i5 e5 B6 i6 e6 (U X5, U X6) from ⟨m2, p2⟩)
    clear q2 m2 p2
    have HQ0 := Lib.hid ((HQ0.out.below HB.out (by have := HS2.out; omega)).below hbr (by have := HS2.out; have := HB.out.size; omega))
    have HQ1 := Lib.hid ((HQ1.out.below HB.out (by have := HS2.out; omega)).below hbr (by have := HS2.out; have := HB.out.size; omega))
    have HQ2 := Lib.hid ((HQ2.out.below HB.out (by have := HS2.out; omega)).below hbr (by have := HS2.out; have := HB.out.size; omega))
    have HN1 : Hid (Nr wc (.slice A1 n1 c1) (U X1) 6) := Lib.hid ⟨A1, X1, n1, c1, rfl, HL1.out, HK1.out, (HR1.out.below hbr (Nat.le_refl _)).more hbr.size, HD1.out, rfl, by omega⟩
    have HN2 : Hid (Nr wc (.slice A2 n2 c2) (U X2) 6) := Lib.hid ⟨A2, X2, n2, c2, rfl, HL2.out, HK2.out, (HR2.out.below hbr (Nat.le_refl _)).more hbr.size, HD2.out, rfl, by omega⟩
    have HN3 : Hid (Nr wc (.slice A3 n3 c3) (U X3) 6) := Lib.hid ⟨A3, X3, n3, c3, rfl, HL3.out, HK3.out, (HR3.out.below hbr (Nat.le_refl _)).more hbr.size, HD3.out, rfl, by omega⟩
    have HN4 : Hid (Nr wc (.slice A4 n4 c4) (U X4) 6) := Lib.hid ⟨A4, X4, n4, c4, rfl, HL4.out, HK4.out, (HR4.out.below hbr (Nat.le_refl _)).more hbr.size, HD4.out, rfl, by omega⟩
    have HN5 : Hid (Nr wc (.slice A5 n5 c5) (U X5) 6) := Lib.hid ⟨A5, X5, n5, c5, rfl, HL5.out, HK5.out, (HR5.out.below hbr (Nat.le_refl _)).more hbr.size, HD5.out, rfl, by omega⟩
    have HN6 : Hid (Nr wc (.slice A6 n6 c6) (U X6) 6) := Lib.hid ⟨A6, X6, n6, c6, rfl, HL6.out, HK6.out, (HR6.out.below hbr (Nat.le_refl _)).more hbr.size, HD6.out, rfl, by omega⟩
    have HB := Lib.hid (HB.out.trans (hbr.mono HB.out.size))
    clear hbr hg6 hg7 hg8
    have HT0 := Lib.hid (rt_of HRT0.out)
    have HT1 := Lib.hid (rt_of HRT1.out)
    have HT2 := Lib.hid (rt_of HRT2.out)
    obtain ⟨J1, hJ1⟩ : ∃ J : Nat, J = 12 := ⟨_, rfl⟩
    obtain ⟨J2, hJ2⟩ : ∃ J : Nat, J = J1 + J1 + 1 := ⟨_, rfl⟩
    obtain ⟨J3, hJ3⟩ : ∃ J : Nat, J = J2 + J2 + 1 := ⟨_, rfl⟩
    have HW1 : Hid (U X1 < 65536 ^ J1) := Lib.hid (lt_of_rd HD1.out (k := n1) (by have := HL1.out; omega) (by omega) hJ1)
    have HW2 : Hid (U X2 < 65536 ^ J1) := Lib.hid (lt_of_rd HD2.out (k := n2) (by have := HL2.out; omega) (by omega) hJ1)
    have HW3 : Hid (U X3 < 65536 ^ J1) := Lib.hid (lt_of_rd HD3.out (k := n3) (by have := HL3.out; omega) (by omega) hJ1)
    have HW4 : Hid (U X4 < 65536 ^ J1) := Lib.hid (lt_of_rd HD4.out (k := n4) (by have := HL4.out; omega) (by omega) hJ1)
    have HW5 : Hid (U X5 < 65536 ^ J1) := Lib.hid (lt_of_rd HD5.out (k := n5) (by have := HL5.out; omega) (by omega) hJ1)
    have HW6 : Hid (U X6 < 65536 ^ J1) := Lib.hid (lt_of_rd HD6.out (k := n6) (by have := HL6.out; omega) (by omega) hJ1)
    have HL12 : Hid (Lt4 (U X1, U X2) (U X3, U X4) J1) := Lib.hid ⟨HW1.out, HW2.out, HW3.out, HW4.out⟩
    have hsa := addR_lt (s := (U X1, U X2)) (q := (U X3, U X4)) HW1.out HW2.out HW3.out HW4.out
    have hsm := mulR_lt (s := (U X1, U X2)) (q := (U X3, U X4)) HW1.out HW2.out HW3.out HW4.out
    rw [← hJ2] at hsa
    have HLa3 : Hid (Lt4 (addR (U X1, U X2) (U X3, U X4)) (U X5, U X6) J2) := Lib.hid ⟨hsa.1, hsa.2, up16 HW5.out (by omega), up16 HW6.out (by omega)⟩
    have HLm3 : Hid (Lt4 (mulR (U X1, U X2) (U X3, U X4)) (U X5, U X6) J2) := Lib.hid ⟨up16 hsm.1 (by omega), up16 hsm.2 (by omega), up16 HW5.out (by omega), up16 HW6.out (by omega)⟩
    have HTa := Lib.hid (addR_rt HT0.out.1 HT1.out.1)
    have HTm := Lib.hid (mulR_rt HT0.out.1 HT1.out.1)
    have hsa2 := addR_lt HLa3.out.1 HLa3.out.2.1 HLa3.out.2.2.1 HLa3.out.2.2.2
    have hsm2 := mulR_lt HLm3.out.1 HLm3.out.2.1 HLm3.out.2.2.1 HLm3.out.2.2.2
    rw [← hJ3] at hsa2
    have HBa : Hid ((addR (addR (U X1, U X2) (U X3, U X4)) (U X5, U X6)).1 < 65536 ^ J3 ∧ (addR (addR (U X1, U X2) (U X3, U X4)) (U X5, U X6)).2 < 65536 ^ J3) := Lib.hid hsa2
    have HBm : Hid ((mulR (mulR (U X1, U X2) (U X3, U X4)) (U X5, U X6)).1 < 65536 ^ J3 ∧ (mulR (mulR (U X1, U X2) (U X3, U X4)) (U X5, U X6)).2 < 65536 ^ J3) := Lib.hid ⟨up16 hsm2.1 (by omega), up16 hsm2.2 (by omega)⟩
    clear hsa hsm hsa2 hsm2
    obtain ⟨cz, hcz⟩ : ∃ c, cmpI (U X1 * U X4) (U X3 * U X2) = c := ⟨_, rfl⟩
    obtain ⟨bz, hbz⟩ : ∃ b, sameQ (U X1) (U X2) (U X3) (U X4) = b := ⟨_, rfl⟩
    have HCB : Hid ((cz == 0) = bz) := Lib.hid (by rw [← hcz, ← hbz]; exact (same_cmp HT0.out HT1.out).symm)
    have HCZ := Lib.hid hcz
    have HBZ := Lib.hid hbz
    clear hcz hbz
    as_aux_lemma =>
      go_upto_region 4 with (fail)
      go_cut [109] (fun b wr => b = .bool false ∧ Below wc.heap.size wc wr)
      case first =>
        refine reg4_r HQ0 HZ0 HU0 HT0 HQ1 HZ1 HU1 HT1 HQ2 HZ2 HU2 HT2 HN1 HN2 HN3 HN4 HN5 HN6 HL12 HLa3 HLm3 HTa HTm HBa HBm HCZ HBZ HCB hJ1 hJ2 hJ3 (fun _ _ _ _ _ h => h) (fun _ _ _ _ _ _ _ _ _ _ _ _ _ _ _ _ _ _ _ _ _ _ _ _ _ _ _ _ _ _ _ _ _ _ _ _ _ _ _ _ _ _ _ _ _ _ _ _ _ _ _ _ _ _ _ _ _ _ wn hb => ?_)
        go_wp2_with fail
        go_meet
        exact ⟨rfl, hb⟩
      case rest =>
        obtain ⟨rfl, hb⟩ := hcut
        have HQ0 := Lib.hid (HQ0.out.below hb HQ0.out.lt)
        have HZ0 := Lib.hid (HZ0.out.below hb HZ0.out.lt)
        have HU0 := Lib.hid (HU0.out.below hb)
        have HQ1 := Lib.hid (HQ1.out.below hb HQ1.out.lt)
        have HZ1 := Lib.hid (HZ1.out.below hb HZ1.out.lt)
        have HU1 := Lib.hid (HU1.out.below hb)
        have HQ2 := Lib.hid (HQ2.out.below hb HQ2.out.lt)
        have HZ2 := Lib.hid (HZ2.out.below hb HZ2.out.lt)
        have HU2 := Lib.hid (HU2.out.below hb)
        have HN1 := Lib.hid (HN1.out.below hb)
        have HN2 := Lib.hid (HN2.out.below hb)
        have HN3 := Lib.hid (HN3.out.below hb)
        have HN4 := Lib.hid (HN4.out.below hb)
        have HN5 := Lib.hid (HN5.out.below hb)
        have HN6 := Lib.hid (HN6.out.below hb)
        have HB := Lib.hid (HB.out.trans (hb.mono HB.out.size))
        clear hb
        as_aux_lemma =>
          go_upto_region 6 with (fail)
          have y00 := HQ0.out.cell 0
          have y01 := HQ0.out.cell 1
          have x00 := HZ0.out.cell 0
          have x01 := HZ0.out.cell 1
          have y10 := HQ1.out.cell 0
          have y11 := HQ1.out.cell 1
          have x10 := HZ1.out.cell 0
          have x11 := HZ1.out.cell 1
          have y20 := HQ2.out.cell 0
          have y21 := HQ2.out.cell 1
          have x20 := HZ2.out.cell 0
          have x21 := HZ2.out.cell 1
          simp only [List.getElem?_toArray, List.getElem?_cons_zero, List.getElem?_cons_succ] at y00 y01 x00 x01 y10 y11 x10 x11 y20 y21 x20 x21
          go_cut [10, 11] (fun u v wx => ∃ (g : Nat) (z : Bool) (P1 : Option Addr) (p1 r1 : Nat) (P2 : Option Addr) (p2 r2 : Nat), u = .pointer (some ⟨g, 0, none⟩) ∧ v = .bool z ∧ Blk wx g 25 #[.slice P1 p1 r1, .slice P2 p2 r2] ∧ Below wc.heap.size wc wx ∧ DiffP wx z (.slice P1 p1 r1) (.slice P2 p2 r2) (U X1, U X2) (U X3, U X4))
          case first =>
            by_cases hle : U X3 * U X2 ≤ U X1 * U X4
            · have HC := Lib.hid (diff_r (M := 6) (a := (U X1, U X2)) (b := (U X3, U X4)) wc HN1.out HN2.out HN3.out HN4.out HT0.out HT1.out (by omega) hle)
              have HLE := Lib.hid hle
              clear hle
              go_wp2_with fail
              refine HC.out.mono ?_
              rintro en w1 ⟨P1, p1, r1, P2, p2, r2, rfl, hv1, hv2, hb⟩
              have HV1 := Lib.hid hv1
              have HV2 := Lib.hid hv2
              have HBW := Lib.hid hb
              clear hv1 hv2 hb HC
              go_wp2_with fail
              go_meet
              exact ⟨_, _, _, _, _, _, _, _, rfl, rfl, Blk.new _ _ _, HBW.out.trans ((b1 _ _).mono HBW.out.size), Or.inl ⟨rfl, HLE.out, ⟨_, HV1.out.below (b1 _ _)⟩, ⟨_, HV2.out.below (b1 _ _)⟩⟩⟩
            · have HC := Lib.hid (diff_no (M := 6) (a := (U X1, U X2)) (b := (U X3, U X4)) wc HN1.out HN2.out HN3.out HN4.out HT0.out (by omega) (by show U X1 * U X4 < U X3 * U X2; omega))
              have HLE := Lib.hid (show U X1 * U X4 < U X3 * U X2 by omega)
              clear hle
              go_wp2_with fail
              refine HC.out.mono ?_
              rintro en w1 ⟨rfl, hb⟩
              have HBW := Lib.hid hb
              clear hb HC
              go_wp2_with fail
              go_meet
              exact ⟨_, _, _, _, _, _, _, _, rfl, rfl, Blk.new _ _ _, HBW.out.trans ((b1 _ _).mono HBW.out.size), Or.inr ⟨rfl, HLE.out, rfl, rfl⟩⟩
          case rest =>
            clear y00 y01 x00 x01 y10 y11 x10 x11 y20 y21 x20 x21
            obtain ⟨g1, z, P1, p1, r1, P2, p2, r2, rfl, rfl, hk, hb, hd⟩ := hcut
            have HQ0 := Lib.hid (HQ0.out.below hb HQ0.out.lt)
            have HZ0 := Lib.hid (HZ0.out.below hb HZ0.out.lt)
            have HU0 := Lib.hid (HU0.out.below hb)
            have HQ1 := Lib.hid (HQ1.out.below hb HQ1.out.lt)
            have HZ1 := Lib.hid (HZ1.out.below hb HZ1.out.lt)
            have HU1 := Lib.hid (HU1.out.below hb)
            have HQ2 := Lib.hid (HQ2.out.below hb HQ2.out.lt)
            have HZ2 := Lib.hid (HZ2.out.below hb HZ2.out.lt)
            have HU2 := Lib.hid (HU2.out.below hb)
            have HN1 := Lib.hid (HN1.out.below hb)
            have HN2 := Lib.hid (HN2.out.below hb)
            have HN3 := Lib.hid (HN3.out.below hb)
            have HN4 := Lib.hid (HN4.out.below hb)
            have HN5 := Lib.hid (HN5.out.below hb)
            have HN6 := Lib.hid (HN6.out.below hb)
            have HB := Lib.hid (HB.out.trans (hb.mono HB.out.size))
            have HG1 := Lib.hid hk
            have HDP := Lib.hid hd
            clear hk hb hd
            go_upto_region 7 with (fail)
            go_cut [150] (fun b wr => b = .bool false ∧ Below wc.heap.size wc wr)
            case first =>
              rcases HDP.out with ⟨rfl, hle, ⟨La, ha⟩, ⟨Lb, hlb⟩⟩ | ⟨rfl, hlt, hp1, hp2⟩
              · have hge : decide (cz ≥ 0) = true := by rw [← HCZ.out]; exact cmpI_pos hle
                have hst2 := subR_lt (s := (U X1, U X2)) (q := (U X3, U X4)) HW1.out HW2.out HW4.out
                refine reg7t_r HQ0 HQ1 HZ0 HZ1 HU0 HU1 HN1 HN2 HN3 HN4 HT0 HT1 HL12 HG1 HCZ hJ1 hJ2 hJ3 (Lib.hid ha) (Lib.hid hlb) (Lib.hid hle) (Lib.hid hge) (Lib.hid ⟨up16 hst2.1 (by omega), up16 hst2.2 (by omega)⟩) (Lib.hid ⟨pow16_32 hst2.1 (by omega), pow16_32 hst2.2 (by omega)⟩) (fun _ _ _ _ _ h => h) (fun _ _ _ _ _ _ _ _ _ _ _ _ _ _ _ _ _ _ _ _ _ _ _ _ _ _ _ _ _ _ _ _ _ _ wn hb => ?_)
                go_wp2_with fail
                go_meet
                exact ⟨rfl, hb⟩
              · injection hp1 with hq1 hq2 hq3
                subst hq1 hq2 hq3
                injection hp2 with hq1 hq2 hq3
                subst hq1 hq2 hq3
                refine reg7f_r HQ0 HQ1 HZ0 HZ1 HU0 HU1 HN1 HN2 HN3 HN4 HT0 HT1 HL12 HG1 HCZ hJ1 hJ2 hJ3 (Lib.hid (by rw [← HCZ.out]; exact cmpI_neg hlt)) (fun _ _ _ _ _ h => h) (fun _ _ _ _ _ _ _ _ _ _ _ _ _ _ _ _ _ _ _ _ _ _ _ _ _ _ _ _ _ _ _ _ _ _ wn hb => ?_)
                go_wp2_with fail
                go_meet
                exact ⟨rfl, hb⟩
            case rest =>
              clear HG1 HDP
              obtain ⟨rfl, hb⟩ := hcut
              have HQ0 := Lib.hid (HQ0.out.below hb HQ0.out.lt)
              have HZ0 := Lib.hid (HZ0.out.below hb HZ0.out.lt)
              have HU0 := Lib.hid (HU0.out.below hb)
              have HQ1 := Lib.hid (HQ1.out.below hb HQ1.out.lt)
              have HZ1 := Lib.hid (HZ1.out.below hb HZ1.out.lt)
              have HU1 := Lib.hid (HU1.out.below hb)
              have HQ2 := Lib.hid (HQ2.out.below hb HQ2.out.lt)
              have HZ2 := Lib.hid (HZ2.out.below hb HZ2.out.lt)
              have HU2 := Lib.hid (HU2.out.below hb)
              have HN1 := Lib.hid (HN1.out.below hb)
              have HN2 := Lib.hid (HN2.out.below hb)
              have HN3 := Lib.hid (HN3.out.below hb)
              have HN4 := Lib.hid (HN4.out.below hb)
              have HN5 := Lib.hid (HN5.out.below hb)
              have HN6 := Lib.hid (HN6.out.below hb)
              have HB := Lib.hid (HB.out.trans (hb.mono HB.out.size))
              clear hb
              as_aux_lemma =>
                go_upto_region 9 with (fail)
                have y00 := HQ0.out.cell 0
                have y01 := HQ0.out.cell 1
                have x00 := HZ0.out.cell 0
                have x01 := HZ0.out.cell 1
                have y10 := HQ1.out.cell 0
                have y11 := HQ1.out.cell 1
                have x10 := HZ1.out.cell 0
                have x11 := HZ1.out.cell 1
                have y20 := HQ2.out.cell 0
                have y21 := HQ2.out.cell 1
                have x20 := HZ2.out.cell 0
                have x21 := HZ2.out.cell 1
                simp only [List.getElem?_toArray, List.getElem?_cons_zero, List.getElem?_cons_succ] at y00 y01 x00 x01 y10 y11 x10 x11 y20 y21 x20 x21
                go_cut [12, 13] (fun u v wx => ∃ (g : Nat) (z : Bool) (P1 : Option Addr) (p1 r1 : Nat) (P2 : Option Addr) (p2 r2 : Nat), u = .pointer (some ⟨g, 0, none⟩) ∧ v = .bool z ∧ Blk wx g 25 #[.slice P1 p1 r1, .slice P2 p2 r2] ∧ Below wc.heap.size wc wx ∧ QuotP wx z (.slice P1 p1 r1) (.slice P2 p2 r2) (U X1, U X2) (U X3, U X4))
                case first =>
                  by_cases hle : 0 < U X3
                  · have HC := Lib.hid (quotq_r (M := 6) (a := (U X1, U X2)) (b := (U X3, U X4)) wc HN1.out HN2.out HN3.out HN4.out HT0.out HT1.out (by omega) hle)
                    have HLE := Lib.hid hle
                    clear hle
                    go_wp2_with fail
                    refine HC.out.mono ?_
                    rintro en w1 ⟨P1, p1, r1, P2, p2, r2, rfl, hv1, hv2, hb⟩
                    have HV1 := Lib.hid hv1
                    have HV2 := Lib.hid hv2
                    have HBW := Lib.hid hb
                    clear hv1 hv2 hb HC
                    go_wp2_with fail
                    go_meet
                    exact ⟨_, _, _, _, _, _, _, _, rfl, rfl, Blk.new _ _ _, HBW.out.trans ((b1 _ _).mono HBW.out.size), Or.inl ⟨rfl, HLE.out, ⟨_, HV1.out.below (b1 _ _)⟩, ⟨_, HV2.out.below (b1 _ _)⟩⟩⟩
                  · have HC := Lib.hid (ratioDiv_no (M := 6) wc HN1.out HN2.out HN3.out HN4.out (by omega) (by omega))
                    have HLE := Lib.hid (show U X3 = 0 by omega)
                    clear hle
                    go_wp2_with fail
                    refine HC.out.mono ?_
                    rintro en w1 ⟨rfl, hb⟩
                    have HBW := Lib.hid hb
                    clear hb HC
                    go_wp2_with fail
                    go_meet
                    exact ⟨_, _, _, _, _, _, _, _, rfl, rfl, Blk.new _ _ _, HBW.out.trans ((b1 _ _).mono HBW.out.size), Or.inr ⟨rfl, HLE.out, rfl, rfl⟩⟩
                case rest =>
                  clear y00 y01 x00 x01 y10 y11 x10 x11 y20 y21 x20 x21
                  obtain ⟨g1, z, P1, p1, r1, P2, p2, r2, rfl, rfl, hk, hb, hd⟩ := hcut
                  have HQ0 := Lib.hid (HQ0.out.below hb HQ0.out.lt)
                  have HZ0 := Lib.hid (HZ0.out.below hb HZ0.out.lt)
                  have HU0 := Lib.hid (HU0.out.below hb)
                  have HQ1 := Lib.hid (HQ1.out.below hb HQ1.out.lt)
                  have HZ1 := Lib.hid (HZ1.out.below hb HZ1.out.lt)
                  have HU1 := Lib.hid (HU1.out.below hb)
                  have HQ2 := Lib.hid (HQ2.out.below hb HQ2.out.lt)
                  have HZ2 := Lib.hid (HZ2.out.below hb HZ2.out.lt)
                  have HU2 := Lib.hid (HU2.out.below hb)
                  have HN1 := Lib.hid (HN1.out.below hb)
                  have HN2 := Lib.hid (HN2.out.below hb)
                  have HN3 := Lib.hid (HN3.out.below hb)
                  have HN4 := Lib.hid (HN4.out.below hb)
                  have HN5 := Lib.hid (HN5.out.below hb)
                  have HN6 := Lib.hid (HN6.out.below hb)
                  have HB := Lib.hid (HB.out.trans (hb.mono HB.out.size))
                  have HG1 := Lib.hid hk
                  have HDP := Lib.hid hd
                  clear hk hb hd
                  go_upto_region 10 with (fail)
                  go_cut [190] (fun b wr => b = .bool false ∧ Below wc.heap.size wc wr)
                  case first =>
                    rcases HDP.out with ⟨rfl, hle, ⟨La, ha⟩, ⟨Lb, hlb⟩⟩ | ⟨rfl, hlt, hp1, hp2⟩
                    · have hst2 := mulR_lt (s := (U X1, U X2)) (q := (U X4, U X3)) HW1.out HW2.out HW4.out HW3.out
                      refine reg10t_r HQ0 HQ1 HZ0 HZ1 HU0 HU1 HN1 HN2 HN3 HN4 HT0 HT1 HL12 HG1 hJ1 hJ2 hJ3 (Lib.hid ha) (Lib.hid hlb) (Lib.hid hle) (Lib.hid (decide_eq_false (by show ¬ U X3 = 0; exact Nat.pos_iff_ne_zero.1 hle))) (Lib.hid ⟨up16 hst2.1 (by omega), up16 hst2.2 (by omega)⟩) (Lib.hid ⟨pow16_32 hst2.1 (by omega), pow16_32 hst2.2 (by omega)⟩) (fun _ _ _ _ _ h => h) (fun _ _ _ _ _ _ _ _ _ _ _ _ _ _ _ _ _ _ _ _ _ _ _ _ _ _ _ _ _ _ _ _ _ wn hb => ?_)
                      go_wp2_with fail
                      go_meet
                      exact ⟨rfl, hb⟩
                    · injection hp1 with hq1 hq2 hq3
                      subst hq1 hq2 hq3
                      injection hp2 with hq1 hq2 hq3
                      subst hq1 hq2 hq3
                      refine reg10f_r HQ0 HQ1 HZ0 HZ1 HU0 HU1 HN1 HN2 HN3 HN4 HT0 HT1 HL12 HG1 hJ1 hJ2 hJ3 (Lib.hid (decide_eq_true hlt)) (fun _ _ _ _ _ h => h) (fun _ _ _ _ _ _ _ _ _ _ _ _ _ _ _ _ _ _ _ _ _ _ _ _ _ _ _ _ _ _ _ _ _ wn hb => ?_)
                      go_wp2_with fail
                      go_meet
                      exact ⟨rfl, hb⟩
                  case rest =>
                    clear HG1 HDP
                    obtain ⟨rfl, hb⟩ := hcut
                    have HQ0 := Lib.hid (HQ0.out.below hb HQ0.out.lt)
                    have HZ0 := Lib.hid (HZ0.out.below hb HZ0.out.lt)
                    have HU0 := Lib.hid (HU0.out.below hb)
                    have HQ1 := Lib.hid (HQ1.out.below hb HQ1.out.lt)
                    have HZ1 := Lib.hid (HZ1.out.below hb HZ1.out.lt)
                    have HU1 := Lib.hid (HU1.out.below hb)
                    have HQ2 := Lib.hid (HQ2.out.below hb HQ2.out.lt)
                    have HZ2 := Lib.hid (HZ2.out.below hb HZ2.out.lt)
                    have HU2 := Lib.hid (HU2.out.below hb)
                    have HN1 := Lib.hid (HN1.out.below hb)
                    have HN2 := Lib.hid (HN2.out.below hb)
                    have HN3 := Lib.hid (HN3.out.below hb)
                    have HN4 := Lib.hid (HN4.out.below hb)
                    have HN5 := Lib.hid (HN5.out.below hb)
                    have HN6 := Lib.hid (HN6.out.below hb)
                    have HB := Lib.hid (HB.out.trans (hb.mono HB.out.size))
                    clear hb
                    as_aux_lemma =>
                      go_upto_region 12 with (fail)
                      have y00 := HQ0.out.cell 0
                      have y01 := HQ0.out.cell 1
                      have x00 := HZ0.out.cell 0
                      have x01 := HZ0.out.cell 1
                      have y10 := HQ1.out.cell 0
                      have y11 := HQ1.out.cell 1
                      have x10 := HZ1.out.cell 0
                      have x11 := HZ1.out.cell 1
                      have y20 := HQ2.out.cell 0
                      have y21 := HQ2.out.cell 1
                      have x20 := HZ2.out.cell 0
                      have x21 := HZ2.out.cell 1
                      simp only [List.getElem?_toArray, List.getElem?_cons_zero, List.getElem?_cons_succ] at y00 y01 x00 x01 y10 y11 x10 x11 y20 y21 x20 x21
                      obtain ⟨⟨La, ha⟩, ⟨Lb, hlb⟩⟩ := HU0.out
                      have HDV := Lib.hid (div_num (j := J1) (k := J1) _ _ (U X1) (U X2) La Lb wc ha hlb HW1.out HW2.out HT0.out.1 (by omega) (by omega))
                      clear ha hlb
                      go_wp2_with fail
                      refine HDV.out.mono ?_
                      rintro en w1 ⟨v1, v2, rfl, hv1, hv2, hb⟩
                      obtain ⟨Aw, nw, cw, rfl⟩ := hv1.shape
                      obtain ⟨Ax, nx, cx, rfl⟩ := hv2.shape
                      have hbw := hb.trans ((b2 w1 (.cells #[.slice Aw nw cw] 30) (.cells #[.slice Ax nx cx] 30)).mono hb.size)
                      have HNW := Lib.hid (hv1.below (b2 w1 (.cells #[.slice Aw nw cw] 30) (.cells #[.slice Ax nx cx] 30)))
                      have hk := (Blk.new w1 30 #[.slice Aw nw cw]).alloc (.cells #[.slice Ax nx cx] 30)
                      have hw0 := hk.cell 0
                      simp only [List.getElem?_toArray, List.getElem?_cons_zero, List.getElem?_cons_succ] at hw0
                      clear hv1 hv2 hb hk HDV
                      go_upto_region 13 with (fail)
                      obtain ⟨gw, hgw⟩ : ∃ g, w1.heap.size = g := ⟨_, rfl⟩
                      obtain ⟨wb, hwb⟩ : ∃ W, (w1.alloc (.cells #[.slice Aw nw cw] 30)).alloc (.cells #[.slice Ax nx cx] 30) = W := ⟨_, rfl⟩
                      try rw [hwb]
                      rw [hwb] at hbw HNW
                      rw [hgw, hwb] at hw0
                      try rw [hgw]
                      clear hgw hwb
                      clear y00 y01 x00 x01 y10 y11 x10 x11 y20 y21 x20 x21
                      have HQ0 := Lib.hid (HQ0.out.below hbw HQ0.out.lt)
                      have HZ0 := Lib.hid (HZ0.out.below hbw HZ0.out.lt)
                      have HU0 := Lib.hid (HU0.out.below hbw)
                      have HQ1 := Lib.hid (HQ1.out.below hbw HQ1.out.lt)
                      have HZ1 := Lib.hid (HZ1.out.below hbw HZ1.out.lt)
                      have HU1 := Lib.hid (HU1.out.below hbw)
                      have HQ2 := Lib.hid (HQ2.out.below hbw HQ2.out.lt)
                      have HZ2 := Lib.hid (HZ2.out.below hbw HZ2.out.lt)
                      have HU2 := Lib.hid (HU2.out.below hbw)
                      have HN1 := Lib.hid (HN1.out.below hbw)
                      have HN2 := Lib.hid (HN2.out.below hbw)
                      have HN3 := Lib.hid (HN3.out.below hbw)
                      have HN4 := Lib.hid (HN4.out.below hbw)
                      have HN5 := Lib.hid (HN5.out.below hbw)
                      have HN6 := Lib.hid (HN6.out.below hbw)
                      have HB := Lib.hid (HB.out.trans (hbw.mono HB.out.size))
                      clear hbw
                      have hlf : U X1 / U X2 < 65536 ^ J1 := Nat.lt_of_le_of_lt (Nat.div_le_self _ _) HW1.out
                      have hlg : U X1 / U X2 < 4294967296 ^ J1 := Nat.lt_of_lt_of_le hlf (Nat.pow_le_pow_left (by omega) _)
                      skip
                      refine reg13_r HQ0 HN1 HN2 hJ1 hJ2 hJ3 hw0 HNW (Lib.hid hlf) (Lib.hid hlg) (Lib.hid (HTAB.out.below HB.out)) (fun _ _ _ _ _ h => h) (fun _ _ _ _ _ _ _ _ wn hb => ?_)
                      go_wp2_with fail
                      go_ret
                      exact ⟨rfl, HBB.out.trans ((HB.out.trans (hb.mono HB.out.size)).mono HBB.out.size)⟩
end Go.Proofs.YtlnabebjhpdgpaaDoor
