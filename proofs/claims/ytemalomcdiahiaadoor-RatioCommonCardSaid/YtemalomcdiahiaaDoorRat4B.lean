/-
  The document's fractions: In, Right; none.
-/
import Derived.Test.YtemalomcdiahiaaDoorRat4A
import Derived.Deep.QuietTactic
import Derived.BigQuiet
import Derived.RegionTactic
import Derived.Deep.RegionLaw
namespace Go.Proofs.YtemalomcdiahiaaDoor
open Go.RowKit
set_option maxRecDepth 100000

set_option maxHeartbeats 2000000 in
theorem in4_r (A1 A2 : Option Addr) (xs ys : List Nat) (n1 c1 n2 c2 : Nat) (w : World) (hl1 : xs.length = n1) (hl2 : ys.length = n2) (hr1 : Ra w w.heap.size A1 xs) (hr2 : Ra w w.heap.size A2 ys) (hd1 : Dg xs) (hd2 : Dg ys) (hn1 : n1 ≤ 1000) (hn2 : n2 ≤ 1000) :
    Calls Tryd.prog 19 #[.agg #[.slice A1 n1 c1, .slice A2 n2 c2]] w (RetD w (U xs) (U ys)) := by
  have hbb := b2 w (.cells #[.slice A1 n1 c1, .slice A2 n2 c2] 27) (.cells #[.slice none 0 0, .slice none 0 0] 38)
  have q1 := (Blk.new w 27 #[.slice A1 n1 c1, .slice A2 n2 c2]).alloc (.cells #[.slice none 0 0, .slice none 0 0] 38)
  have q2 := Blk.new (w.alloc (.cells #[.slice A1 n1 c1, .slice A2 n2 c2] 27)) 38 #[.slice none 0 0, .slice none 0 0]
  rw [World.size_alloc] at q2
  obtain ⟨W0, hW0⟩ : ∃ W0, (w.alloc (.cells #[.slice A1 n1 c1, .slice A2 n2 c2] 27)).alloc (.cells #[.slice none 0 0, .slice none 0 0] 38) = W0 := ⟨_, rfl⟩
  rw [hW0] at hbb q1 q2
  have x0 : W0.cell? ⟨w.heap.size, 0, none⟩ = some (.slice A1 n1 c1) := q1.cell 0
  have x1 : W0.cell? ⟨w.heap.size, 1, none⟩ = some (.slice A2 n2 c2) := q1.cell 1
  have hi1 := fun wz (h : Below W0.heap.size W0 wz) => in_any A1 xs n1 c1 wz hl1 (((hr1.below hbb (Nat.le_refl _)).more hbb.size).below h (Nat.le_refl _) |>.more h.size) hd1 (by omega)
  have hi2 := fun wz (h : Below W0.heap.size W0 wz) => in_any A2 ys n2 c2 wz hl2 (((hr2.below hbb (Nat.le_refl _)).more hbb.size).below h (Nat.le_refl _) |>.more h.size) hd2 (by omega)
  obtain ⟨a, ha⟩ : ∃ a, U xs = a := ⟨_, rfl⟩
  obtain ⟨b, hb⟩ : ∃ b, U ys = b := ⟨_, rfl⟩
  simp only [ha] at hi1
  simp only [hb] at hi2
  rw [ha, hb]
  have hl2' := q2.lt
  have Q2 := Lib.hid q2
  have HI1 := Lib.hid hi1
  have HI2 := Lib.hid hi2
  clear ha hb hl1 hl2 hr1 hr2 hd1 hd2 q1 q2 hi1 hi2
  go_enter Tryd.func19, Tryd.ntmps19
  go_wp2_with fail
  go_region_held3 (fun u => u.cell? ⟨w.heap.size, 0, none⟩ = some (.slice A1 n1 c1) ∧ u.cell? ⟨w.heap.size, 1, none⟩ = some (.slice A2 n2 c2))
    (first | exact ⟨x0, x1⟩ | assumption | exact cells2_put (by omega) (cells2_put (by omega) (by assumption)))
    (first
      | (go_at_call 9; (with_reducible refine Calls.mono (HI1.out _ ?_) ?_); (focus (first | exact (Below.refl _ _).drew | exact BX2)); rintro e y1 ⟨v1, rfl, hn1, hb1⟩; obtain ⟨B1, i1, e1, rfl⟩ := hn1.shape; have N1 := Lib.hid hn1; clear hn1; (first | (have BX1 := BX2.trans (hb1.mono BX2.size); have N2 := Lib.hid (N2.out.below hb1)) | (have BX1 := drew_then hb1)); have hS1 := cells2 BX1 ⟨x0, x1⟩; have u0 : y1.cell? ⟨w.heap.size + 1, 0, none⟩ = some (.slice none 0 0) := (Q2.out.below BX1 hl2').cell 0; have u1 : y1.cell? ⟨w.heap.size + 1, 1, none⟩ = some (.slice none 0 0) := (Q2.out.below BX1 hl2').cell 1; have u2 := (Q2.out.below BX1 hl2').frozen 0; have u3 := (Q2.out.below BX1 hl2').frozen 1)
      | (go_at_call 9; (with_reducible refine Calls.mono (HI2.out _ ?_) ?_); (focus (first | exact (Below.refl _ _).drew | exact BX1)); rintro e y2 ⟨v2, rfl, hn2, hb2⟩; obtain ⟨B2, i2, e2, rfl⟩ := hn2.shape; have N2 := Lib.hid hn2; clear hn2; (first | (have BX2 := BX1.trans (hb2.mono BX1.size); have N1 := Lib.hid (N1.out.below hb2)) | (have BX2 := drew_then hb2)); have hS2 := cells2 BX2 ⟨x0, x1⟩; have u0 : y2.cell? ⟨w.heap.size + 1, 0, none⟩ = some (.slice none 0 0) := (Q2.out.below BX2 hl2').cell 0; have u1 : y2.cell? ⟨w.heap.size + 1, 1, none⟩ = some (.slice none 0 0) := (Q2.out.below BX2 hl2').cell 1; have u2 := (Q2.out.below BX2 hl2').frozen 0; have u3 := (Q2.out.below BX2 hl2').frozen 1))
  all_goals
    go_wp2_with fail
    first
      | exact bodyPost_ret (v := .agg #[.slice B1 i1 e1, .slice B2 i2 e2]) (by simp [results, Tryd.results19, go_sem, (put_Q (Q2.out.below BX2 hl2') (.slice B1 i1 e1) (.slice B2 i2 e2)).cell 0, (put_Q (Q2.out.below BX2 hl2') (.slice B1 i1 e1) (.slice B2 i2 e2)).cell 1]) rfl
          ⟨_, _, _, _, _, _, rfl, ⟨_, (N1.out.setSi u0).setSi ((World.cell?_setCell_other _ _ _ _ (by intro e; injection e; omega)).trans u1)⟩, ⟨_, (N2.out.setSi u0).setSi ((World.cell?_setCell_other _ _ _ _ (by intro e; injection e; omega)).trans u1)⟩,
            ((hbb.trans (BX2.mono hbb.size)).setCell (by show w.heap.size ≤ w.heap.size + 1; omega) _).setCell (by show w.heap.size ≤ w.heap.size + 1; omega) _⟩
      | exact bodyPost_ret (v := .agg #[.slice B1 i1 e1, .slice B2 i2 e2]) (by simp [results, Tryd.results19, go_sem, (put_Q (Q2.out.below BX1 hl2') (.slice B1 i1 e1) (.slice B2 i2 e2)).cell 0, (put_Q (Q2.out.below BX1 hl2') (.slice B1 i1 e1) (.slice B2 i2 e2)).cell 1]) rfl
          ⟨_, _, _, _, _, _, rfl, ⟨_, (N1.out.setSi u0).setSi ((World.cell?_setCell_other _ _ _ _ (by intro e; injection e; omega)).trans u1)⟩, ⟨_, (N2.out.setSi u0).setSi ((World.cell?_setCell_other _ _ _ _ (by intro e; injection e; omega)).trans u1)⟩,
            ((hbb.trans (BX1.mono hbb.size)).setCell (by show w.heap.size ≤ w.heap.size + 1; omega) _).setCell (by show w.heap.size ≤ w.heap.size + 1; omega) _⟩

theorem U_small_k {xs : List Nat} (j : Nat) (h : Dg xs) {k : Nat} (hl : xs.length ≤ k) (hj : 2 * k = j) : U xs < 65536 ^ j := by subst hj; exact U_small16 h hl
theorem ra_far2 {wb W : World} {A : Option Addr} {xs : List Nat} {a b : Prop} (h : Ra wb wb.heap.size A xs) (hs : a ∧ b ∧ Below wb.heap.size wb W) : Ra W W.heap.size A xs := (h.below hs.2.2 (Nat.le_refl _)).more hs.2.2.size
theorem cmpI_zero (a b : Nat) : (cmpI a b == 0) = decide (a = b) := by
  rcases Nat.lt_trichotomy a b with h | h | h
  · rw [cmpI_lt h, decide_eq_false (by omega)]; rfl
  · rw [cmpI_eq h, decide_eq_true h]; rfl
  · rw [cmpI_gt h, decide_eq_false (by omega)]; rfl

set_option maxHeartbeats 4000000 in
theorem right4_r (A1 A2 : Option Addr) (xs ys : List Nat) (n1 c1 n2 c2 : Nat) (w : World) (hl1 : xs.length = n1) (hl2 : ys.length = n2) (hr1 : Ra w w.heap.size A1 xs) (hr2 : Ra w w.heap.size A2 ys) (hd1 : Dg xs) (hd2 : Dg ys) (hn1 : n1 ≤ 500) (hn2 : n2 ≤ 500) :
    Calls Tryd.prog 11 #[.agg #[.slice A1 n1 c1, .slice A2 n2 c2]] w fun e w' => e = .returned (.bool (rightB xs ys)) ∧ Below w.heap.size w w' := by
  have hb := b1 w (.cells #[.slice A1 n1 c1, .slice A2 n2 c2] 27)
  have hbk := Blk.new w 27 #[.slice A1 n1 c1, .slice A2 n2 c2]
  obtain ⟨W0, hW0⟩ : ∃ W0, w.alloc (.cells #[.slice A1 n1 c1, .slice A2 n2 c2] 27) = W0 := ⟨_, rfl⟩
  rw [hW0] at hb hbk
  have k0 : W0.cell? ⟨w.heap.size, 0, none⟩ = some (.slice A1 n1 c1) := hbk.cell 0
  have k1 : W0.cell? ⟨w.heap.size, 1, none⟩ = some (.slice A2 n2 c2) := hbk.cell 1
  have R1 := Lib.hid ((hr1.below hb (Nat.le_refl _)).more hb.size)
  have R2 := Lib.hid ((hr2.below hb (Nat.le_refl _)).more hb.size)
  have hin := in4_r A1 A2 xs ys n1 c1 n2 c2 W0 hl1 hl2 R1.out R2.out hd1 hd2 (by omega) (by omega)
  obtain ⟨E, hE, hE1⟩ : ∃ E, 2 * 500 = E ∧ E ≤ 1000 := ⟨1000, by omega, by omega⟩
  have px : U xs < 65536 ^ E := U_small_k E hd1 (k := 500) (by omega) hE
  have py : U ys < 65536 ^ E := U_small_k E hd2 (k := 500) (by omega) hE
  clear hE
  have PX := Lib.hid px
  have PY := Lib.hid py
  have PG := Lib.hid (gcd_small px py)
  have HL1 := Lib.hid hl1
  have HL2 := Lib.hid hl2
  obtain ⟨z1, hz1⟩ : ∃ z, cutB xs = z := ⟨_, rfl⟩
  obtain ⟨z2, hz2⟩ : ∃ z, cutB ys = z := ⟨_, rfl⟩
  obtain ⟨z4, hz4⟩ : ∃ z, decide (Nat.gcd (U xs) (U ys) = 1) = z := ⟨_, rfl⟩
  obtain ⟨rb, hrbv⟩ : ∃ rb, rightB xs ys = rb := ⟨_, rfl⟩
  have HRB : Hid (rb = (z1 && (z2 && (!decide (U ys = 0) && z4)))) := Lib.hid (by rw [← hrbv, rightB, hz1, hz2, hz4])
  rw [hrbv]
  have HZ1 := Lib.hid hz1
  have HZ2 := Lib.hid hz2
  have HZ4 := Lib.hid hz4
  obtain ⟨a, ha⟩ : ∃ a, U xs = a := ⟨_, rfl⟩
  obtain ⟨b, hbv⟩ : ∃ b, U ys = b := ⟨_, rfl⟩
  have HA := Lib.hid ha
  have HBV := Lib.hid hbv
  rw [ha] at PX PG hin HZ4
  rw [hbv] at PY PG hin HRB HZ4
  clear hl1 hl2 hr1 hr2 px py hz1 hz2 hz4 hbk ha hbv hrbv
  go_enter Tryd.func11, Tryd.ntmps11
  go_wp2_with fail
  refine hin.mono ?_
  rintro e w1 ⟨B1, i1, e1, B2, i2, e2, rfl, ⟨L1, hx⟩, ⟨L2, hy⟩, hb1⟩
  have ha1 := b1 w1 (.cells #[.slice B1 i1 e1, .slice B2 i2 e2] 38)
  have hb2 := hb1.trans (ha1.mono hb1.size)
  have kk := cells2 hb2 ⟨k0, k1⟩
  have m0 := cn0 w1 38 (.slice B1 i1 e1) (.slice B2 i2 e2)
  have m1 := cn1 w1 38 (.slice B1 i1 e1) (.slice B2 i2 e2)
  have HX := Lib.hid (hx.below ha1)
  have HY := Lib.hid (hy.below ha1)
  have hlen := num_len3 hy
  have R1 := Lib.hid ((R1.out.below hb2 (Nat.le_refl _)).more hb2.size)
  have R2 := Lib.hid ((R2.out.below hb2 (Nat.le_refl _)).more hb2.size)
  have hBw := hb.trans (hb2.mono hb.size)
  clear hx hy hb1 hb2 ha1 hin k0 k1 hW0 hb
  go_upto_region 2 with (fail)
  obtain ⟨g3, hg3⟩ : ∃ g3, w1.heap.size = g3 := ⟨_, rfl⟩
  obtain ⟨W1, hW1⟩ : ∃ W1, w1.alloc (.cells #[.slice B1 i1 e1, .slice B2 i2 e2] 38) = W1 := ⟨_, rfl⟩
  rw [hW1] at kk HX HY R1 R2 hBw
  rw [hg3, hW1] at m0 m1
  rw [hg3, hW1]
  clear hg3 hW1
  obtain ⟨k0, k1⟩ := kk
  rcases hlen with ⟨rfl, rfl⟩ | ⟨hi2, hb0⟩
  · obtain rfl : rb = false := by rw [HRB.out]; cases z1 <;> cases z2 <;> rfl
    clear HRB
    go_quiet (fail)
    go_wp2_with fail
    go_ret
    exact ⟨rfl, hBw.trans ((below_drewN _).mono hBw.size)⟩
  · have hz : decide (b = 0) = false := decide_eq_false (by omega)
    obtain rfl : rb = (z1 && (z2 && z4)) := by rw [HRB.out, hz]; simp
    have hi2b : ((i2 : Int) == 0) = false := by simp; omega
    clear HRB hz
    cases z1
    · first | (go_region_law (first
        | (go_simp; go_at_call 35; (with_reducible refine (out_num (a := a) W1.drew (HX.out.below (Below.refl _ _).drew) PX.out (by omega)).mono ?_); rintro e x1 ⟨v1, rfl, hn1, hb1⟩; have N1 := Lib.hid hn1; clear hn1; have BX1 := drew_then hb1; have kx := (cells2 BX1 ⟨k0, k1⟩).1)
        | (go_simp; go_at_call 33; (with_reducible refine (same_cut (M := 0) false x1 HL1.out ((R1.out.below BX1 (Nat.le_refl _)).more BX1.size) hd1 (by omega) (HA.out ▸ N1.out) HZ1.out).mono ?_); rintro e x2 ⟨rfl, hb2⟩; have BX2 := BX1.trans (hb2.mono BX1.size)))) | fail
      all_goals
        go_wp2_with fail
        go_ret
        exact ⟨rfl, hBw.trans (BX2.mono hBw.size)⟩
    cases z2
    · go_region_held3 (fun u => (u.cell? ⟨w.heap.size, 0, none⟩ = some (.slice A1 n1 c1) ∧ u.cell? ⟨w.heap.size, 1, none⟩ = some (.slice A2 n2 c2)) ∧ (u.cell? ⟨g3, 0, none⟩ = some (.slice B1 i1 e1) ∧ u.cell? ⟨g3, 1, none⟩ = some (.slice B2 i2 e2)) ∧ Below W1.heap.size W1 u)
        (first | exact ⟨⟨k0, k1⟩, ⟨m0, m1⟩, (Below.refl _ _).drew⟩ | assumption)
        (first
          | (go_at_call 35; (with_reducible refine (out_num (a := a) _ (num_far2 HX.out (by assumption)) PX.out (by omega)).mono ?_); rintro e x1 ⟨v1, rfl, hn1, hb1⟩; have N1 := Lib.hid hn1; clear hn1; have hS1 := cells4 hb1 (by assumption))
          | (go_at_call 33; (with_reducible refine (same_cut (M := 0) true _ HL1.out (ra_far2 R1.out (by assumption)) hd1 (by omega) (HA.out ▸ N1.out) HZ1.out).mono ?_); rintro e x2 ⟨rfl, hb2⟩; have hS2 := cells4 hb2 (by assumption))
          | (go_at_call 35; (with_reducible refine (out_num (a := b) _ (num_far2 HY.out (by assumption)) PY.out (by omega)).mono ?_); rintro e x3 ⟨v3, rfl, hn3, hb3⟩; have N3 := Lib.hid hn3; clear hn3; have hS3 := cells4 hb3 (by assumption))
          | (go_at_call 33; (with_reducible refine (same_cut (M := 0) false _ HL2.out (ra_far2 R2.out (by assumption)) hd2 (by omega) (HBV.out ▸ N3.out) HZ2.out).mono ?_); rintro e x4 ⟨rfl, hb4⟩; have hS4 := cells4 hb4 (by assumption)))
      all_goals
        go_wp2_with fail
        go_ret
        exact ⟨rfl, hBw.trans (hS4.2.2.mono hBw.size)⟩
    · go_region_held3 (fun u => (u.cell? ⟨w.heap.size, 0, none⟩ = some (.slice A1 n1 c1) ∧ u.cell? ⟨w.heap.size, 1, none⟩ = some (.slice A2 n2 c2)) ∧ (u.cell? ⟨g3, 0, none⟩ = some (.slice B1 i1 e1) ∧ u.cell? ⟨g3, 1, none⟩ = some (.slice B2 i2 e2)) ∧ Below W1.heap.size W1 u)
        (first | exact ⟨⟨k0, k1⟩, ⟨m0, m1⟩, (Below.refl _ _).drew⟩ | assumption)
        (first
          | (go_at_call 35; (with_reducible refine (out_num (a := a) _ (num_far2 HX.out (by assumption)) PX.out (by omega)).mono ?_); rintro e x1 ⟨v1, rfl, hn1, hb1⟩; have N1 := Lib.hid hn1; clear hn1; have hS1 := cells4 hb1 (by assumption))
          | (go_at_call 33; (with_reducible refine (same_cut (M := 0) true _ HL1.out (ra_far2 R1.out (by assumption)) hd1 (by omega) (HA.out ▸ N1.out) HZ1.out).mono ?_); rintro e x2 ⟨rfl, hb2⟩; have hS2 := cells4 hb2 (by assumption))
          | (go_at_call 35; (with_reducible refine (out_num (a := b) _ (num_far2 HY.out (by assumption)) PY.out (by omega)).mono ?_); rintro e x3 ⟨v3, rfl, hn3, hb3⟩; have N3 := Lib.hid hn3; clear hn3; have hS3 := cells4 hb3 (by assumption))
          | (go_at_call 33; (with_reducible refine (same_cut (M := 0) true _ HL2.out (ra_far2 R2.out (by assumption)) hd2 (by omega) (HBV.out ▸ N3.out) HZ2.out).mono ?_); rintro e x4 ⟨rfl, hb4⟩; have hS4 := cells4 hb4 (by assumption)))
      all_goals
        have HX4 := Lib.hid (num_far2 HX.out hS4)
        have HY4 := Lib.hid (num_far2 HY.out hS4)
        have hB4 := hBw.trans (hS4.2.2.mono hBw.size)
        have y0 := hS4.2.1.1
        have y1 := hS4.2.1.2
        go_wp2_with fail
        refine (refGcd3_any B1 B2 i1 e1 i2 e2 a b _ _ x4 HX4.out HY4.out PX.out PY.out (by omega)).mono ?_
        rintro e x5 ⟨v5, rfl, ⟨L5, hn5⟩, hb5⟩
        obtain ⟨D5, d5, f5, rfl⟩ := hn5.shape
        have N5 := Lib.hid hn5
        clear hn5
        go_wp2_with fail
        refine (of_one x5).mono ?_
        rintro e x6 ⟨v6, rfl, hn6, hb6⟩
        obtain ⟨D6, d6, f6, rfl⟩ := hn6.shape
        have N6 := Lib.hid hn6
        have N5' := Lib.hid (N5.out.below hb6)
        clear hn6
        have hcz : ((cmpI (Nat.gcd a b) 1) == 0) = z4 := by rw [cmpI_zero]; exact HZ4.out
        obtain ⟨cz, hcze⟩ : ∃ cz, cmpI (Nat.gcd a b) 1 = cz := ⟨_, rfl⟩
        have hcm := cmp_num _ _ (Nat.gcd a b) 1 _ _ x6 N5'.out N6.out PG.out (pow_word (a := 1) (by omega))
        rw [hcze] at hcm hcz
        clear hcze
        go_wp2_with fail
        refine hcm.mono ?_
        rintro e x7 ⟨rfl, hb7⟩
        go_wp2_with fail
        go_ret
        exact ⟨by first | rfl | simp, ((hB4.trans (hb5.mono hB4.size)).trans (hb6.mono (Nat.le_trans hB4.size hb5.size))).trans (hb7.mono (Nat.le_trans hB4.size (Nat.le_trans hb5.size hb6.size)))⟩
end Go.Proofs.YtemalomcdiahiaaDoor
