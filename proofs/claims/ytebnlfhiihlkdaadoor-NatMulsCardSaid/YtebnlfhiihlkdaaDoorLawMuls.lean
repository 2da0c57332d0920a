/-
  Products, quotients and rests, and what two numbers have in common: the walk.
-/
import Derived.Test.YtebnlfhiihlkdaaDoorLawTells
import Derived.Test.YtebnlfhiihlkdaaDoorRefLcm
import Derived.Test.YtebnlfhiihlkdaaDoorLawNatA
namespace Go.Proofs.YtebnlfhiihlkdaaDoor
open Go.RowKit
set_option maxRecDepth 100000

/-- The arguments, and the document's numbers of them in cells of their own. -/
structure MulsMem (w : World) (v1 v2 : Value) (a b g1 g2 M : Nat) (s1 s2 : Value) (wr : World) : Prop where
  below : Below w.heap.size w wr
  ra : Nr wr v1 a M
  rb : Nr wr v2 b M
  x : wr.cell? ⟨g1, 0, none⟩ = some s1
  y : wr.cell? ⟨g2, 0, none⟩ = some s2
  nx : ∃ L, Num wr L (.agg #[s1]) a
  ny : ∃ L, Num wr L (.agg #[s2]) b
theorem MulsMem.step {w wr w' : World} {v1 v2 : Value} {a b g1 g2 M : Nat} {s1 s2 : Value} (h : MulsMem w v1 v2 a b g1 g2 M s1 s2 wr) (hb : Below wr.heap.size wr w') : MulsMem w v1 v2 a b g1 g2 M s1 s2 w' := by
  have k : ∀ {a : Addr} {u : Value}, wr.cell? a = some u → w'.cell? a = some u := fun h => (hb.cell (World.block_lt_of_cell? wr _ h)).trans h
  obtain ⟨L1, n1⟩ := h.nx
  obtain ⟨L2, n2⟩ := h.ny
  exact ⟨h.below.trans (hb.mono h.below.size), h.ra.below hb, h.rb.below hb, k h.x, k h.y, ⟨_, n1.below hb⟩, ⟨_, n2.below hb⟩⟩
theorem nr_far2 {wb W : World} {v : Value} {x M : Nat} {a b : Prop} (hn : Nr wb v x M) (hs : a ∧ b ∧ Below wb.heap.size wb W) : Nr W v x M := hn.below hs.2.2
theorem tab_far2 {wb W : World} {a b : Prop} (h : Tab wb) (hs : a ∧ b ∧ Below wb.heap.size wb W) : Tab W := h.below hs.2.2

set_option maxHeartbeats 4000000 in
theorem muls_long (A1 A2 : Option Addr) (n1 c1 n2 c2 : Nat) (w : World) (hlong : 24 < n1 ∨ (n1 ≤ 24 ∧ 24 < n2)) (htab : Tab w) :
    Calls Tryd.prog 3 #[.slice A1 n1 c1, .slice A2 n2 c2] w fun e w' => e = .returned (.bool true) ∧ Below w.heap.size w w' := by
  rcases hlong with h | ⟨h, h2⟩
  all_goals
    go_enter Tryd.func3, Tryd.ntmps3
    go_wp2_with fail
    refine (alive3_any w htab).mono ?_
    rintro e w1 ⟨rfl, hb⟩
    go_wp2_with fail
    go_ret
    exact ⟨rfl, hb⟩

theorem cn0 (u : World) (t : TypeId) (v1 v2 : Value) : (u.alloc (.cells #[v1, v2] t)).cell? ⟨u.heap.size, 0, none⟩ = some v1 := (Blk.new u t #[v1, v2]).cell 0
theorem cn1 (u : World) (t : TypeId) (v1 v2 : Value) : (u.alloc (.cells #[v1, v2] t)).cell? ⟨u.heap.size, 1, none⟩ = some v2 := (Blk.new u t #[v1, v2]).cell 1
theorem cn0d (u : World) (t : TypeId) (v1 v2 : Value) : (u.alloc (.cells #[v1, v2] t)).drew.cell? ⟨u.heap.size, 0, none⟩ = some v1 := cn0 u t v1 v2
theorem cn1d (u : World) (t : TypeId) (v1 v2 : Value) : (u.alloc (.cells #[v1, v2] t)).drew.cell? ⟨u.heap.size, 1, none⟩ = some v2 := cn1 u t v1 v2
theorem lt_new (u : World) (o : Obj) : u.heap.size < (u.alloc o).heap.size := by simp
theorem of_one (w : World) : Calls Tryd.prog 16 #[.int .u64 1] w (RetNum w 1) := of_any 1 w (by omega)
theorem lcm_le (a b : Nat) : Nat.lcm a b ≤ a * b := by rw [Nat.lcm]; exact Nat.div_le_self _ _

set_option maxHeartbeats 8000000 in
theorem muls_walk (A1 A2 : Option Addr) (xs ys : List Nat) (n1 c1 n2 c2 : Nat) (w : World) (hl1 : xs.length = n1) (hl2 : ys.length = n2) (hc1 : n1 ≤ c1) (hc2 : n2 ≤ c2)
    (hr1 : Ra w w.heap.size A1 xs) (hr2 : Ra w w.heap.size A2 ys) (hd1 : Dg xs) (hd2 : Dg ys) (h1 : n1 ≤ 24) (h2 : n2 ≤ 24) (htab : Tab w) :
    Calls Tryd.prog 3 #[.slice A1 n1 c1, .slice A2 n2 c2] w fun e w' => e = .returned (.bool true) ∧ Below w.heap.size w w' := by
  have px : U xs < 65536 ^ 48 := U_small16 (k := 24) hd1 (by omega)
  have py : U ys < 65536 ^ 48 := U_small16 (k := 24) hd2 (by omega)
  have hN1 : Nr w (.slice A1 n1 c1) (U xs) 24 := ⟨A1, xs, n1, c1, rfl, hl1, hc1, hr1, hd1, rfl, h1⟩
  have hN2 : Nr w (.slice A2 n2 c2) (U ys) 24 := ⟨A2, ys, n2, c2, rfl, hl2, hc2, hr2, hd2, rfl, h2⟩
  have hi1 := fun wz (h : Below w.heap.size w wz) => in_any A1 xs n1 c1 wz hl1 ((hr1.below h (Nat.le_refl _)).more h.size) hd1 (by omega)
  have hi2 := fun wz (h : Below w.heap.size w wz) => in_any A2 ys n2 c2 wz hl2 ((hr2.below h (Nat.le_refl _)).more h.size) hd2 (by omega)
  obtain ⟨a, ha⟩ : ∃ a, U xs = a := ⟨_, rfl⟩
  obtain ⟨b, hb⟩ : ∃ b, U ys = b := ⟨_, rfl⟩
  simp only [ha] at px hN1 hi1
  simp only [hb] at py hN2 hi2
  have HN1 := Lib.hid hN1
  have HN2 := Lib.hid hN2
  have HI1 := Lib.hid hi1
  have HI2 := Lib.hid hi2
  have pm : a * b < 65536 ^ 96 := by rw [show 96 = 48 + 48 by rfl, Nat.pow_add]; exact Nat.mul_lt_mul'' px py
  have pg : Nat.gcd a b < 65536 ^ 48 := by
    rcases Nat.eq_zero_or_pos b with h | h
    · subst h; rw [Nat.gcd_zero_right]; exact px
    · exact Nat.lt_of_le_of_lt (Nat.le_of_dvd h (Nat.gcd_dvd_right a b)) py
  have pl : Nat.lcm a b < 65536 ^ 96 := Nat.lt_of_le_of_lt (lcm_le a b) pm
  have PX := Lib.hid px
  have PY := Lib.hid py
  have PM := Lib.hid pm
  have PG := Lib.hid pg
  have PL := Lib.hid pl
  clear px py pm pg pl hN1 hN2 hi1 hi2 ha hb hl1 hl2 hr1 hr2 hd1 hd2
  go_enter Tryd.func3, Tryd.ntmps3
  go_wp2_with fail
  refine (HI1.out w (Below.refl _ _)).mono ?_
  rintro e w1 ⟨v1, rfl, hnum1, hb1⟩
  obtain ⟨B1, m1, k1, rfl⟩ := hnum1.shape
  have HX1 := Lib.hid hnum1
  clear hnum1
  go_wp2_with fail
  refine (HI2.out w1 hb1).mono ?_
  rintro e w2 ⟨v2, rfl, hnum2, hb2⟩
  obtain ⟨B2, m2, k2, rfl⟩ := hnum2.shape
  have HX2 := Lib.hid (HX1.out.below hb2)
  have HY2 := Lib.hid hnum2
  have hB2 : Below w.heap.size w w2 := hb1.trans (hb2.mono hb1.size)
  clear hnum2 hb1 hb2 HX1
  go_upto_region 4 with (fail)
  have hb3 := b2 w2 (.cells #[.slice B1 m1 k1] 27) (.cells #[.slice B2 m2 k2] 27)
  have q1 := (Blk.new w2 27 #[.slice B1 m1 k1]).alloc (.cells #[.slice B2 m2 k2] 27)
  have q2 := Blk.new (w2.alloc (.cells #[.slice B1 m1 k1] 27)) 27 #[.slice B2 m2 k2]
  have hB3 := hB2.trans (hb3.mono hB2.size)
  have hm3 : MulsMem w (.slice A1 n1 c1) (.slice A2 n2 c2) a b w2.heap.size (w2.heap.size + 1) 24 (.slice B1 m1 k1) (.slice B2 m2 k2) _ := ⟨hB3, HN1.out.below hB3, HN2.out.below hB3, q1.cell 0, by have h := q2.cell 0; rw [World.size_alloc] at h; exact h, ⟨_, HX2.out.below hb3⟩, ⟨_, HY2.out.below hb3⟩⟩
  obtain ⟨w3, hw3⟩ : ∃ w3, (w2.alloc (.cells #[.slice B1 m1 k1] 27)).alloc (.cells #[.slice B2 m2 k2] 27) = w3 := ⟨_, rfl⟩
  rw [hw3] at hm3 ⊢
  clear hw3 q1 q2 hb3 hB3 HX2 HY2
  obtain ⟨Lx, hx⟩ := hm3.nx
  obtain ⟨Ly, hy⟩ := hm3.ny
  have HX := Lib.hid hx
  have HY := Lib.hid hy
  have HRA := Lib.hid hm3.ra
  have HRB := Lib.hid hm3.rb
  have t1 := hm3.x
  have t2 := hm3.y
  have HM := Lib.hid hm3
  clear hm3 hx hy
  go_cut [59] (fun y wr => y = .bool false ∧ MulsMem w (.slice A1 n1 c1) (.slice A2 n2 c2) a b w2.heap.size (w2.heap.size + 1) 24 (.slice B1 m1 k1) (.slice B2 m2 k2) wr)
  case first =>
    go_region_held3 (fun u => u.cell? ⟨w2.heap.size, 0, none⟩ = some (.slice B1 m1 k1) ∧ u.cell? ⟨w2.heap.size + 1, 0, none⟩ = some (.slice B2 m2 k2) ∧ Below w3.heap.size w3 u)
      (first | exact ⟨t1, t2, (Below.refl _ _).drew⟩ | assumption | exact held2 (b1 _ _) ⟨t1, t2, (Below.refl _ _).drew⟩ | exact held2 (b1 _ _) (by assumption))
      (first
        | (go_at_call 10; (with_reducible refine (mul2_r _ (by first | exact cn0 _ _ _ _ | exact cn0d _ _ _ _ | exact (hb2.cell (p := ⟨w3.heap.size, 0, none⟩) (lt_new _ _)).trans (cn0d _ _ _ _) | exact (hb2.cell (p := ⟨w3.heap.size, 0, none⟩) (lt_new _ _)).trans (cn0 _ _ _ _)) (by first | exact cn1 _ _ _ _ | exact cn1d _ _ _ _ | exact (hb2.cell (p := ⟨w3.heap.size, 1, none⟩) (lt_new _ _)).trans (cn1d _ _ _ _) | exact (hb2.cell (p := ⟨w3.heap.size, 1, none⟩) (lt_new _ _)).trans (cn1 _ _ _ _)) (nr_far2 HRA.out (by assumption)) (nr_far2 HRB.out (by assumption)) (by omega)).mono ?_); rintro e u1 ⟨v1, rfl, hn1, hb1⟩; have N1 := Lib.hid hn1; clear hn1; have hS1 := held2 hb1 (by assumption))
        | (go_at_call 11; (with_reducible refine (mul_num _ _ a b _ _ _ (num_far2 HX.out (by assumption)) (num_far2 HY.out (by assumption)) PX.out PY.out).mono ?_); rintro e u2 ⟨v2, rfl, hn2, hb2⟩; have N2 := Lib.hid hn2; clear hn2; have hS2 := held2 hb2 (by assumption))
        | (go_at_call 9; (with_reducible refine (is_yes v1 v2 (a * b) _ _ _ (by first | exact N1.out | exact N1.out.below (by assumption)) (by first | exact N2.out | exact N2.out.below (by assumption) | exact (N2.out.alloc _).below (by assumption)) PM.out).mono ?_); rintro e u3 ⟨rfl, hb3⟩; have hS3 := held2 hb3 (by assumption))
        | (go_at_call 12; (with_reducible refine (gcd_r _ (nr_far2 HRA.out (by assumption)) (nr_far2 HRB.out (by assumption)) (by omega)).mono ?_); rintro e u4 ⟨v4, rfl, hn4, hb4⟩; have N4 := Lib.hid hn4; clear hn4; have hS4 := held2 hb4 (by assumption))
        | (go_at_call 13; (with_reducible refine (refGcd3_any _ _ _ _ _ _ a b _ _ _ (num_far2 HX.out (by assumption)) (num_far2 HY.out (by assumption)) PX.out PY.out (by omega)).mono ?_); rintro e u5 ⟨v5, rfl, ⟨L5, hn5⟩, hb5⟩; have N5 := Lib.hid hn5; clear hn5; have hS5 := held2 hb5 (by assumption))
        | (go_at_call 9; (with_reducible refine (is_yes v4 v5 (Nat.gcd a b) _ _ _ (by first | exact N4.out | exact N4.out.below (by assumption)) (by first | exact N5.out | exact N5.out.below (by assumption)) PG.out).mono ?_); rintro e u6 ⟨rfl, hb6⟩; have hS6 := held2 hb6 (by assumption))
        | (go_at_call 14; (with_reducible refine (lcm_r _ (nr_far2 HRA.out (by assumption)) (nr_far2 HRB.out (by assumption)) (by omega)).mono ?_); rintro e u7 ⟨v7, rfl, hn7, hb7⟩; have N7 := Lib.hid hn7; clear hn7; have hS7 := held2 hb7 (by assumption))
        | (go_at_call 15; (with_reducible refine (refLcm3_any _ _ _ _ _ _ a b _ _ _ (num_far2 HX.out (by assumption)) (num_far2 HY.out (by assumption)) PX.out PY.out (by omega)).mono ?_); rintro e u8 ⟨v8, rfl, ⟨L8, hn8⟩, hb8⟩; have N8 := Lib.hid hn8; clear hn8; have hS8 := held2 hb8 (by assumption))
        | (go_at_call 9; (with_reducible refine (is_yes v7 v8 (Nat.lcm a b) _ _ _ (by first | exact N7.out | exact N7.out.below (by assumption)) (by first | exact N8.out | exact N8.out.below (by assumption)) PL.out).mono ?_); rintro e u9 ⟨rfl, hb9⟩; have hS9 := held2 hb9 (by assumption))
        | (go_at_call 10; (with_reducible refine (mul0_r _ _).mono ?_); rintro e u10 ⟨v10, rfl, hn10, hb10⟩; have N10 := Lib.hid hn10; clear hn10; have hS10 := held2 hb10 (by assumption))
        | (go_at_call 16; (with_reducible refine (of_one _).mono ?_); rintro e u11 ⟨v11, rfl, hn11, hb11⟩; have N11 := Lib.hid hn11; clear hn11; have hS11 := held2 hb11 (by assumption))
        | (go_at_call 9; (with_reducible refine (is_yes v10 v11 1 _ _ _ (by first | exact N10.out | exact N10.out.below (by assumption)) (by first | exact N11.out | exact N11.out.below (by assumption)) (pow_word (by omega))).mono ?_); rintro e u12 ⟨rfl, hb12⟩; have hS12 := held2 hb12 (by assumption)))
    all_goals
      go_wp2_with fail
      go_meet
      exact ⟨rfl, HM.out.step hS12.2.2⟩
  case rest =>
    obtain ⟨rfl, hm⟩ := hcut
    clear HX HY HRA HRB t1 t2 HM
    have t1 := hm.x
    have t2 := hm.y
    obtain ⟨Lx, hx⟩ := hm.nx
    obtain ⟨Ly, hy⟩ := hm.ny
    have hlen := num_len3 hy
    have HM := Lib.hid hm
    clear hm hx hy
    rcases hlen with ⟨rfl, rfl⟩ | ⟨hm2, hb0⟩
    · go_wp2_with fail
      refine (div_z _ HM.out.ra HM.out.rb (by omega) (by omega)).mono ?_
      rintro e w7 ⟨rfl, rfl⟩
      go_wp2_with fail
      refine (alive3_any _ (htab.below HM.out.below)).mono ?_
      rintro e w8 ⟨rfl, hb8⟩
      go_wp2_with fail
      go_ret
      exact ⟨rfl, HM.out.below.trans (hb8.mono HM.out.below.size)⟩
    · have hm2z : ((m2 : Int) == 0) = false := by simp; omega
      go_wp2_with fail
      refine (div_r _ HM.out.ra HM.out.rb (by omega) (by omega) hb0).mono ?_
      rintro e w7 ⟨q1, q2, rfl, hq1, hq2, hb7⟩
      obtain ⟨D1, i1, e1, rfl⟩ := hq1.shape
      obtain ⟨D2, i2, e2, rfl⟩ := hq2.shape
      have hm7 := HM.out.step hb7
      have t1 := hm7.x
      have t2 := hm7.y
      obtain ⟨Lx, hx⟩ := hm7.nx
      obtain ⟨Ly, hy⟩ := hm7.ny
      have HQ1 := Lib.hid hq1
      have HQ2 := Lib.hid hq2
      have HX := Lib.hid hx
      have HY := Lib.hid hy
      have HM7 := Lib.hid hm7
      clear hm7 hq1 hq2 hx hy hb7 HM
      go_wp2_with fail
      refine (div_num _ _ a b _ _ _ HX.out HY.out PX.out PY.out hb0).mono ?_
      rintro e w8 ⟨p1, p2, rfl, hp1, hp2, hb8⟩
      obtain ⟨E1, i3, e3, rfl⟩ := hp1.shape
      obtain ⟨E2, i4, e4, rfl⟩ := hp2.shape
      have hB8 := HM7.out.below.trans (hb8.mono HM7.out.below.size)
      have hb9 := b2 w8 (.cells #[.slice E1 i3 e3] 27) (.cells #[.slice E2 i4 e4] 27)
      have r1 := ((Blk.new w8 27 #[.slice E1 i3 e3]).alloc (.cells #[.slice E2 i4 e4] 27)).cell 0
      have r2 : _ = some (Value.slice E2 i4 e4) := (Blk.new (w8.alloc (.cells #[.slice E1 i3 e3] 27)) 27 #[.slice E2 i4 e4]).cell 0
      rw [World.size_alloc] at r2
      have HQ1' := Lib.hid ((HQ1.out.below hb8).below hb9)
      have HQ2' := Lib.hid ((HQ2.out.below hb8).below hb9)
      have HP1 := Lib.hid (hp1.below hb9)
      have HP2 := Lib.hid (hp2.below hb9)
      have hB9 := hB8.trans (hb9.mono hB8.size)
      clear hp1 hp2 hb8 HX HY HM7 HQ1 HQ2 t1 t2
      go_upto_region 10 with (fail)
      obtain ⟨w9, hw9⟩ : ∃ w9, (w8.alloc (.cells #[.slice E1 i3 e3] 27)).alloc (.cells #[.slice E2 i4 e4] 27) = w9 := ⟨_, rfl⟩
      rw [hw9] at r1 r2 HQ1' HQ2' HP1 HP2 hB9 ⊢
      have pd : a / b < 65536 ^ 48 := Nat.lt_of_le_of_lt (Nat.div_le_self _ _) PX.out
      have pr : a % b < 65536 ^ 48 := Nat.lt_trans (Nat.mod_lt _ hb0) PY.out
      have PD := Lib.hid pd
      have PR := Lib.hid pr
      clear hw9 hB8 hb9 pd pr
      go_wp2_with fail
      refine (is_yes _ _ (a / b) _ _ _ HQ1'.out HP1.out PD.out).mono ?_
      rintro e w10 ⟨rfl, hb10⟩
      have r2' : w10.cell? ⟨w8.heap.size + 1, 0, none⟩ = some (.slice E2 i4 e4) := (hb10.cell (World.block_lt_of_cell? _ _ r2)).trans r2
      have hB10 := hB9.trans (hb10.mono hB9.size)
      go_wp2_with fail
      refine (is_yes _ _ (a % b) _ _ _ (HQ2'.out.below hb10) (HP2.out.below hb10) PR.out).mono ?_
      rintro e w11 ⟨rfl, hb11⟩
      have hB11 := hB10.trans (hb11.mono hB10.size)
      go_wp2_with fail
      refine (alive3_any _ (htab.below hB11)).mono ?_
      rintro e w12 ⟨rfl, hb12⟩
      go_wp2_with fail
      go_ret
      exact ⟨rfl, hB11.trans (hb12.mono hB11.size)⟩
end Go.Proofs.YtebnlfhiihlkdaaDoor
