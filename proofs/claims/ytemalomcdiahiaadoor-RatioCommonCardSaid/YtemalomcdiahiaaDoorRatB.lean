/-
  Fractions: which are right, what a sum is made of, texts.
-/
import Derived.Test.YtemalomcdiahiaaDoorRatA
import Derived.Test.YtemalomcdiahiaaDoorLawNatA
namespace Go.Proofs.YtemalomcdiahiaaDoor
open Go.RowKit
set_option maxRecDepth 100000

/-- Has a number no noughts at its end? -/
def cutB (xs : List Nat) : Bool := decide (xs = [] ∨ nth xs (xs.length - 1) ≠ 0)
theorem isCut_any (A : Option Addr) (xs : List Nat) (n c : Nat) (z : Bool) (w : World) (hl : xs.length = n) (hr : Ra w w.heap.size A xs) (hd : Dg xs) (hn : n ≤ 100000) (hc : n ≤ c) (hz : cutB xs = z) :
    Calls Tryd.prog 44 #[.slice A n c] w fun e w' => e = .returned (.bool z) ∧ w = w' := by
  rcases Nat.eq_zero_or_pos n with rfl | hpos
  · have hx : xs = [] := List.eq_nil_of_length_eq_zero hl
    have hz1 : z = true := by rw [← hz, hx]; rfl
    subst hz1
    clear hz hx hl hr hd
    go_enter Tryd.func44, Tryd.ntmps44
    go_wp2_with fail
    go_ret
    exact ⟨rfl, rfl⟩
  · obtain ⟨b, o, hA, hb, cx⟩ := hr.at_ (k := n - 1) (by omega)
    subst hA
    obtain ⟨x, hx⟩ : ∃ x, nth xs (n - 1) = x := ⟨_, rfl⟩
    have hxb := hd.nth (n - 1)
    rw [hx] at cx hxb
    have hz1 : ((x : Int) != 0) = z := by
      rw [← hz, cutB, hl, hx, Bool.eq_iff_iff]
      have hne : xs ≠ [] := by intro h; rw [h] at hl; simp at hl; omega
      simp [hne]
    have hn0 : ((n : Int) == 0) = false := by simp; omega
    clear hz hx hl hr hd
    go_enter Tryd.func44, Tryd.ntmps44
    go_wp2_with fail
    go_ret
    exact ⟨rfl, rfl⟩

theorem cut_can {xs : List Nat} (hd : Dg xs) (h : cutB xs = true) : Cn xs := ⟨hd, fun hne => by
  rcases of_decide_eq_true h with h1 | h1
  · exact absurd h1 hne
  · exact h1⟩
theorem can_cut {xs : List Nat} (h : Cn xs) : cutB xs = true := decide_eq_true (by
  rcases xs with _ | ⟨d, r⟩
  · exact .inl rfl
  · exact .inr (h.2 (by simp)))

/-- Is a fraction right? -/
def rightB (xs ys : List Nat) : Bool := cutB xs && (cutB ys && (!decide (U ys = 0) && decide (Nat.gcd (U xs) (U ys) = 1)))

set_option maxHeartbeats 4000000 in
theorem right_any (A1 A2 : Option Addr) (xs ys : List Nat) (n1 c1 n2 c2 : Nat) (w : World) (hl1 : xs.length = n1) (hl2 : ys.length = n2) (hr1 : Ra w w.heap.size A1 xs) (hr2 : Ra w w.heap.size A2 ys)
    (hd1 : Dg xs) (hd2 : Dg ys) (hn1 : n1 ≤ 100000) (hn2 : n2 ≤ 100000) (hc1 : n1 ≤ c1) (hc2 : n2 ≤ c2) :
    Calls Tryd.prog 10 #[.agg #[.slice A1 n1 c1, .slice A2 n2 c2]] w fun e w' => e = .returned (.bool (rightB xs ys)) ∧ Below w.heap.size w w' := by
  have hb := b1 w (.cells #[.slice A1 n1 c1, .slice A2 n2 c2] 27)
  have hbk := Blk.new w 27 #[.slice A1 n1 c1, .slice A2 n2 c2]
  obtain ⟨W0, hW0⟩ : ∃ W0, w.alloc (.cells #[.slice A1 n1 c1, .slice A2 n2 c2] 27) = W0 := ⟨_, rfl⟩
  rw [hW0] at hb hbk
  have k0 := hbk.cell 0
  have k1 := hbk.cell 1
  have hra := (hr1.below hb (Nat.le_refl _)).more hb.size
  have hrb := (hr2.below hb (Nat.le_refl _)).more hb.size
  obtain ⟨z1, hz1⟩ : ∃ z, cutB xs = z := ⟨_, rfl⟩
  obtain ⟨z2, hz2⟩ : ∃ z, cutB ys = z := ⟨_, rfl⟩
  obtain ⟨z3, hz3⟩ : ∃ z, decide (U ys = 0) = z := ⟨_, rfl⟩
  obtain ⟨z4, hz4⟩ : ∃ z, decide (Nat.gcd (U xs) (U ys) = 1) = z := ⟨_, rfl⟩
  have q1 := isCut_any A1 xs n1 c1 z1 W0 hl1 hra hd1 hn1 hc1 hz1
  have q2 := isCut_any A2 ys n2 c2 z2 W0 hl2 hrb hd2 hn2 hc2 hz2
  have r1 : Nr W0 (.slice A1 n1 c1) (U xs) 100000 := ⟨A1, xs, n1, c1, rfl, hl1, hc1, hra, hd1, rfl, hn1⟩
  have r2 : Nr W0 (.slice A2 n2 c2) (U ys) 100000 := ⟨A2, ys, n2, c2, rfl, hl2, hc2, hrb, hd2, rfl, hn2⟩
  have q3 := isZero_r z3 W0 r2 (Nat.le_refl _) hz3
  have q4 := gcd_r W0 r1 r2 (Nat.le_refl _)
  have hgl : Nat.gcd (U xs) (U ys) < 4294967296 ^ 100000 := gcd_small r1.lt r2.lt
  have q5 := fun (wz : World) (v : Value) (L : Nat) (h : Nv wz L v (Nat.gcd (U xs) (U ys))) => isOne_r z4 wz (h.nr hgl) (Nat.le_refl _) hz4
  have HRB : Hid (rightB xs ys = (z1 && (z2 && (!z3 && z4)))) := Lib.hid (by rw [rightB, hz1, hz2, hz3, hz4])
  have Q5 := Lib.hid q5
  rw [HRB.out]
  clear hl1 hl2 hr1 hr2 hd1 hd2 hra hrb hz1 hz2 hz3 hz4 r1 r2 hgl q5 hbk HRB
  cases z1
  · go_enter Tryd.func10, Tryd.ntmps10
    go_wp2_with fail
    refine q1.mono ?_
    rintro e w1 ⟨rfl, rfl⟩
    go_wp2_with fail
    go_ret
    exact ⟨rfl, hb⟩
  cases z2
  · go_enter Tryd.func10, Tryd.ntmps10
    go_wp2_with fail
    refine q1.mono ?_
    rintro e w1 ⟨rfl, rfl⟩
    go_wp2_with fail
    refine q2.mono ?_
    rintro e w1 ⟨rfl, rfl⟩
    go_wp2_with fail
    go_ret
    exact ⟨rfl, hb⟩
  cases z3
  rotate_left
  · go_enter Tryd.func10, Tryd.ntmps10
    go_wp2_with fail
    refine q1.mono ?_
    rintro e w1 ⟨rfl, rfl⟩
    go_wp2_with fail
    refine q2.mono ?_
    rintro e w1 ⟨rfl, rfl⟩
    go_wp2_with fail
    refine q3.mono ?_
    rintro e w1 ⟨rfl, rfl⟩
    go_wp2_with fail
    go_ret
    exact ⟨rfl, hb⟩
  · go_enter Tryd.func10, Tryd.ntmps10
    go_wp2_with fail
    refine q1.mono ?_
    rintro e w1 ⟨rfl, rfl⟩
    go_wp2_with fail
    refine q2.mono ?_
    rintro e w1 ⟨rfl, rfl⟩
    go_wp2_with fail
    refine q3.mono ?_
    rintro e w1 ⟨rfl, rfl⟩
    go_wp2_with fail
    refine q4.mono ?_
    rintro e w2 ⟨v, rfl, hv, hb2⟩
    obtain ⟨A3, n3, c3, rfl⟩ := hv.shape
    have q6 := Q5.out w2 _ _ hv
    clear hv
    go_wp2_with fail
    refine q6.mono ?_
    rintro e w3 ⟨rfl, rfl⟩
    go_wp2_with fail
    go_ret
    exact ⟨rfl, hb.trans (hb2.mono hb.size)⟩

/-- What a sum's or a difference's parts make. -/
theorem over_r {v1 v2 v3 v4 : Value} {a b c d M : Nat} (w : World) (h1 : Nr w v1 a M) (h2 : Nr w v2 b M) (h3 : Nr w v3 c M) (h4 : Nr w v4 d M) (hM : M ≤ 5000) :
    Calls Tryd.prog 52 #[v1, v2, v3, v4] w (RetQ w (a / Nat.gcd a b) (c * (d / Nat.gcd a b))) := by
  have hb := b1 w (.cells #[.slice none 0 0, .slice none 0 0] 27)
  have hbk := nilbox w
  have hg : Nat.gcd a b < 4294967296 ^ M := gcd_small h1.lt h2.lt
  have hd : d / Nat.gcd a b < 4294967296 ^ M := Nat.lt_of_le_of_lt (Nat.div_le_self _ _) h4.lt
  obtain ⟨W0, hW0⟩ : ∃ W0, w.alloc (.cells #[.slice none 0 0, .slice none 0 0] 27) = W0 := ⟨_, rfl⟩
  rw [hW0] at hb hbk
  have hl := hbk.lt
  obtain ⟨A1, n1, c1, rfl⟩ := h1.shape
  obtain ⟨A2, n2, c2, rfl⟩ := h2.shape
  obtain ⟨A3, n3, c3, rfl⟩ := h3.shape
  obtain ⟨A4, n4, c4, rfl⟩ := h4.shape
  have hgcd := gcd_r W0 (h1.below hb) (h2.below hb) (by omega)
  have HG := Lib.hid hg
  have HD := Lib.hid hd
  have H1 := Lib.hid (h1.below hb)
  have H3 := Lib.hid (h3.below hb)
  have H4 := Lib.hid (h4.below hb)
  have HBK := Lib.hid hbk
  clear h1 h2 h3 h4 hg hd hbk
  go_enter Tryd.func52, Tryd.ntmps52
  go_wp2_with fail
  refine hgcd.mono ?_
  rintro e w1 ⟨v, rfl, hnv, hb1⟩
  obtain ⟨A5, n5, c5, rfl⟩ := hnv.shape
  have HV := Lib.hid hnv
  clear hnv hgcd
  go_wp2_with fail
  refine (quot_r w1 (H1.out.below hb1) (HV.out.nr HG.out) (by omega) (by omega)).mono ?_
  rintro e w2 ⟨v5, rfl, hv5, hb2⟩
  obtain ⟨B1, j1, e1, rfl⟩ := hv5.shape
  have hB2 := hb1.trans (hb2.mono hb1.size)
  have HX := Lib.hid (hv5.more hb1.size)
  clear hv5
  go_wp2_with fail
  refine (quot_r w2 (H4.out.below hB2) ((HV.out.below hb2).nr HG.out) (by omega) (by omega)).mono ?_
  rintro e w3 ⟨v6, rfl, hv6, hb3⟩
  obtain ⟨B2, j2, e2, rfl⟩ := hv6.shape
  have hB3 := hB2.trans (hb3.mono hB2.size)
  have hmul := mul_new w3 (H3.out.below hB3) (hv6.nr HD.out) hM
  have HX3 := Lib.hid (HX.out.below hb3)
  clear hv6
  go_wp2_with fail
  refine hmul.mono ?_
  rintro e w4 ⟨v7, rfl, hv7, hb4⟩
  obtain ⟨B4, j4, e4, rfl⟩ := hv7.shape
  have hs3 := hB3.size
  have hba := b1 w3 (.cells #[.slice A3 n3 c3, .slice B2 j2 e2] 23)
  have hB4 : Below W0.heap.size W0 w4 := (hB3.trans (hba.mono hs3)).trans (hb4.mono (Nat.le_trans hs3 hba.size))
  have HX4 := Lib.hid ((HX3.out.below hba).below hb4)
  have HY4 := Lib.hid (hv7.more (show W0.heap.size ≤ _ from Nat.le_trans hs3 hba.size))
  have hbk4 := HBK.out.below hB4 hl
  have k0 := hbk4.cell 0
  have k1 := hbk4.cell 1
  have f0 := hbk4.frozen 0
  have f1 := hbk4.frozen 1
  have HBK4 := Lib.hid hbk4
  have hBw := hb.trans (hB4.mono hb.size)
  clear hv7 hbk4 hb4 hba hB4 hmul
  go_wp2_with fail
  have hp := put_q HBK4.out (.slice B1 j1 e1) (.slice B4 j4 e4)
  exact bodyPost_ret (v := .agg #[.slice B1 j1 e1, .slice B4 j4 e4]) (by simp [results, Tryd.results52, go_sem, hp.cell 0, hp.cell 1]) rfl
    ⟨_, _, _, _, _, _, rfl, (HX4.out.put_q hl _ _).more (by omega), (HY4.out.put_q hl _ _).more (by omega), (hBw.setCell (Nat.le_refl _) _).setCell (Nat.le_refl _) _⟩
end Go.Proofs.YtemalomcdiahiaaDoor
