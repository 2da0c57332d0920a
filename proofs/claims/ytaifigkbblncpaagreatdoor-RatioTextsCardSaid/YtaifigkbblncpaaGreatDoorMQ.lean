/-
  Fractions: what is 0, what is 1, quotients, shares, Make, Of, Zero.
  Fractions: which are right, what a sum is made of, texts.
-/
import Derived.Test.YtaifigkbblncpaaGreatDoorRefLcm
import Derived.Test.YtaifigkbblncpaaGreatDoorMP
import Derived.Test.YtaifigkbblncpaaGreatDoorLawNatA
namespace Go.Proofs.YtaifigkbblncpaaGreatDoor
open Go.RowKit
set_option maxRecDepth 100000

theorem IsBits.zero_iff {a b : Nat} (h : IsBits a b) : b = 0 ↔ a = 0 := by
  obtain ⟨h1, h2⟩ := h
  constructor
  · rintro rfl; simp at h1; omega
  · rintro rfl
    rcases h2 with h2 | h2
    · exact h2
    · have : 0 < 2 ^ (b - 1) := Nat.pow_pos (by omega)
      omega
theorem IsBits.one_iff {a b : Nat} (h : IsBits a b) : b = 1 ↔ a = 1 := by
  have hz := h.zero_iff
  obtain ⟨h1, h2⟩ := h
  constructor
  · rintro rfl; simp at h1; omega
  · rintro rfl
    rcases Nat.lt_or_ge b 2 with h | h
    · omega
    · rcases h2 with h2 | h2
      · omega
      · have : 2 ^ 1 ≤ 2 ^ (b - 1) := Nat.pow_le_pow_right (by omega) (by omega)
        omega

theorem isZero_r {v : Value} {a M : Nat} (z : Bool) (w : World) (h : Nr w v a M) (hM : M ≤ 100000) (hz : decide (a = 0) = z) : Calls Tryz.prog 47 #[v] w fun e w' => e = .returned (.bool z) ∧ w = w' := by
  obtain ⟨A, xs, n, c, rfl, hl, hc, hr, hd, rfl, hn⟩ := h
  have hb := natBits_any A xs n c w hl hr hd (by omega) hc
  go_enter Tryz.func47, Tryz.ntmps47
  go_wp2_with fail
  refine hb.mono ?_
  rintro e w' ⟨b, rfl, hbits, rfl⟩
  have hzb : ((b : Int) == 0) = z := by
    rw [← hz]
    have := hbits.zero_iff
    rw [Bool.eq_iff_iff]; simp; omega
  clear hl hr hd hz hbits hb
  go_wp2_with fail
  go_ret
  exact ⟨rfl, rfl⟩
theorem isOne_r {v : Value} {a M : Nat} (z : Bool) (w : World) (h : Nr w v a M) (hM : M ≤ 100000) (hz : decide (a = 1) = z) : Calls Tryz.prog 21 #[v] w fun e w' => e = .returned (.bool z) ∧ w = w' := by
  obtain ⟨A, xs, n, c, rfl, hl, hc, hr, hd, rfl, hn⟩ := h
  have hb := natBits_any A xs n c w hl hr hd (by omega) hc
  go_enter Tryz.func21, Tryz.ntmps21
  go_wp2_with fail
  refine hb.mono ?_
  rintro e w' ⟨b, rfl, hbits, rfl⟩
  have hzb : ((b : Int) == 1) = z := by
    rw [← hz]
    have := hbits.one_iff
    rw [Bool.eq_iff_iff]; simp; omega
  clear hl hr hd hz hbits hb
  go_wp2_with fail
  go_ret
  exact ⟨rfl, rfl⟩

theorem quot_r {v1 v2 : Value} {a b M1 M2 : Nat} (w : World) (h1 : Nr w v1 a M1) (h2 : Nr w v2 b M2) (hM1 : M1 ≤ 100000) (hM2 : M2 ≤ 100000) : Calls Tryz.prog 36 #[v1, v2] w (RetNv w (a / b)) := by
  obtain ⟨A1, n1, c1, rfl⟩ := h1.shape
  obtain ⟨A2, n2, c2, rfl⟩ := h2.shape
  have H1 := Lib.hid h1
  have H2 := Lib.hid h2
  clear h1 h2
  rcases Nat.eq_zero_or_pos b with rfl | hb
  · go_enter Tryz.func36, Tryz.ntmps36
    go_wp2_with fail
    refine (div_z w H1.out H2.out hM1 hM2).mono ?_
    rintro e w1 ⟨rfl, rfl⟩
    go_wp2_with fail
    go_ret
    exact ⟨_, rfl, by rw [Nat.div_zero]; exact nv_zero_nil _ _, Below.refl _ _⟩
  · go_enter Tryz.func36, Tryz.ntmps36
    go_wp2_with fail
    refine (div_r w H1.out H2.out hM1 hM2 hb).mono ?_
    rintro e w1 ⟨v1, v2, rfl, hv1, hv2, hb1⟩
    obtain ⟨B1, j1, e1, rfl⟩ := hv1.shape
    obtain ⟨B2, j2, e2, rfl⟩ := hv2.shape
    have HV1 := Lib.hid hv1
    clear hv1 hv2
    go_wp2_with fail
    go_ret
    exact ⟨_, rfl, HV1.out, hb1⟩

theorem gcd_small {a b K : Nat} (ha : a < K) (hb : b < K) : Nat.gcd a b < K := by
  rcases Nat.eq_zero_or_pos b with h | h
  · subst h; rw [Nat.gcd_zero_right]; exact ha
  · exact Nat.lt_of_le_of_lt (Nat.le_of_dvd h (Nat.gcd_dvd_right a b)) hb

/-- What two numbers share, and each of them by it. -/
def SharesRet (w : World) (a b : Nat) (e : Ending) (w' : World) : Prop := ∃ A1 n1 c1 A2 n2 c2 A3 n3 c3, e = .returned (.tuple #[.slice A1 n1 c1, .slice A2 n2 c2, .slice A3 n3 c3]) ∧
  Nv w' w.heap.size (.slice A1 n1 c1) (Nat.gcd a b) ∧ Nv w' w.heap.size (.slice A2 n2 c2) (a / Nat.gcd a b) ∧ Nv w' w.heap.size (.slice A3 n3 c3) (b / Nat.gcd a b) ∧ Below w.heap.size w w'
theorem shares_r {v1 v2 : Value} {a b M : Nat} (w : World) (h1 : Nr w v1 a M) (h2 : Nr w v2 b M) (hM : M ≤ 100000) : Calls Tryz.prog 38 #[v1, v2] w (SharesRet w a b) := by
  have hgM : Nat.gcd a b < 4294967296 ^ M := gcd_small h1.lt h2.lt
  have hgcd := gcd_r w h1 h2 hM
  obtain ⟨A1, n1, c1, rfl⟩ := h1.shape
  obtain ⟨A2, n2, c2, rfl⟩ := h2.shape
  have H1 := Lib.hid h1
  have H2 := Lib.hid h2
  have HG := Lib.hid hgM
  clear h1 h2 hgM
  go_enter Tryz.func38, Tryz.ntmps38
  go_wp2_with fail
  refine hgcd.mono ?_
  rintro e w1 ⟨v, rfl, hnv, hb1⟩
  obtain ⟨A3, n3, c3, rfl⟩ := hnv.shape
  have HV := Lib.hid hnv
  clear hnv
  go_wp2_with fail
  refine (quot_r w1 (H1.out.below hb1) (HV.out.nr HG.out) hM hM).mono ?_
  rintro e w2 ⟨v5, rfl, hv5, hb2⟩
  obtain ⟨B1, j1, e1, rfl⟩ := hv5.shape
  have HV2 := Lib.hid (HV.out.below hb2)
  have HQ := Lib.hid (hv5.more hb1.size)
  have hB2 := hb1.trans (hb2.mono hb1.size)
  clear hv5
  go_wp2_with fail
  refine (quot_r w2 (H2.out.below hB2) (HV2.out.nr HG.out) hM hM).mono ?_
  rintro e w3 ⟨v6, rfl, hv6, hb3⟩
  obtain ⟨B2, j2, e2, rfl⟩ := hv6.shape
  have HV3 := Lib.hid (HV2.out.below hb3)
  have HQ2 := Lib.hid (HQ.out.below hb3)
  have HR := Lib.hid (hv6.more hB2.size)
  clear hv6
  go_wp2_with fail
  go_ret3
  exact ⟨_, _, _, _, _, _, _, _, _, rfl, HV3.out, HQ2.out, HR.out, hB2.trans (hb3.mono hB2.size)⟩

/-- A fraction that is answered. -/
def RetQ (w : World) (n d : Nat) (e : Ending) (w' : World) : Prop := ∃ A1 n1 c1 A2 n2 c2, e = .returned (.agg #[.slice A1 n1 c1, .slice A2 n2 c2]) ∧ Nv w' w.heap.size (.slice A1 n1 c1) n ∧ Nv w' w.heap.size (.slice A2 n2 c2) d ∧ Below w.heap.size w w'
/-- A fraction, and true, that are answered. -/
def RetQt (w : World) (n d : Nat) (e : Ending) (w' : World) : Prop := ∃ A1 n1 c1 A2 n2 c2, e = .returned (.tuple #[.agg #[.slice A1 n1 c1, .slice A2 n2 c2], .bool true]) ∧ Nv w' w.heap.size (.slice A1 n1 c1) n ∧ Nv w' w.heap.size (.slice A2 n2 c2) d ∧ Below w.heap.size w w'
def RetQf (w : World) (e : Ending) (w' : World) : Prop := e = .returned (.tuple #[.agg #[.slice none 0 0, .slice none 0 0], .bool false]) ∧ Below w.heap.size w w'

theorem nilbox (w : World) : Blk (w.alloc (.cells #[.slice none 0 0, .slice none 0 0] 25)) w.heap.size 25 #[.slice none 0 0, .slice none 0 0] := Blk.new _ _ _

theorem lt_w2 {n : Nat} (h : n < 18446744073709551616) : n < 4294967296 ^ 2 := by
  have : (4294967296 : Nat) ^ 2 = 18446744073709551616 := by decide
  omega
theorem put_q {W : World} {g : Nat} {p q : Value} (h : Blk W g 25 #[p, q]) (x y : Value) : Blk ((W.setCell ⟨g, 0, none⟩ x).setCell ⟨g, 1, none⟩ y) g 25 #[x, y] := by
  have := (h.set_ 0 x).set_ 1 y
  exact this
theorem Nv.put_q {W : World} {L g a : Nat} {v : Value} (h : Nv W L v a) (hg : g < L) (x y : Value) : Nv ((W.setCell ⟨g, 0, none⟩ x).setCell ⟨g, 1, none⟩ y) L v a := (h.old (p := ⟨g, 0, none⟩) hg x).old (p := ⟨g, 1, none⟩) hg y

set_option maxHeartbeats 2000000 in
theorem make_no {v1 v2 : Value} {M : Nat} (w : World) (h2 : Nr w v2 0 M) (hM : M ≤ 100000) : Calls Tryz.prog 32 #[v1, v2] w (RetQf w) := by
  have hb := b1 w (.cells #[.slice none 0 0, .slice none 0 0] 25)
  have hz := isZero_r true _ (h2.below hb) hM (by simp)
  clear h2
  go_enter Tryz.func32, Tryz.ntmps32
  go_wp2_with fail
  refine hz.mono ?_
  rintro e w1 ⟨rfl, rfl⟩
  go_wp2_with fail
  exact bodyPost_ret (v := .tuple #[.agg #[.slice none 0 0, .slice none 0 0], .bool false]) (by simp [results, Tryz.results32, go_sem]) rfl ⟨rfl, hb⟩

set_option maxHeartbeats 2000000 in
theorem make_r {v1 v2 : Value} {a b M : Nat} (w : World) (h1 : Nr w v1 a M) (h2 : Nr w v2 b M) (hM : M ≤ 100000) (hb0 : 0 < b) : Calls Tryz.prog 32 #[v1, v2] w (RetQt w (a / Nat.gcd a b) (b / Nat.gcd a b)) := by
  have hb := b1 w (.cells #[.slice none 0 0, .slice none 0 0] 25)
  have hz := isZero_r false _ (h2.below hb) hM (by simp; omega)
  have hs := shares_r _ (h1.below hb) (h2.below hb) hM
  obtain ⟨A1, n1, c1, rfl⟩ := h1.shape
  obtain ⟨A2, n2, c2, rfl⟩ := h2.shape
  obtain ⟨W0, hW0⟩ : ∃ W0, w.alloc (.cells #[.slice none 0 0, .slice none 0 0] 25) = W0 := ⟨_, rfl⟩
  have hbk := nilbox w
  rw [hW0] at hb hz hs hbk
  clear h1 h2
  go_enter Tryz.func32, Tryz.ntmps32
  go_wp2_with fail
  refine hz.mono ?_
  rintro e w1 ⟨rfl, rfl⟩
  go_wp2_with fail
  refine hs.mono ?_
  rintro e w2 ⟨B1, i1, e1, B2, i2, e2, B3, i3, e3, rfl, hg, hx, hy, hb2⟩
  have hbk2 := hbk.below hb2 hbk.lt
  have k0 := hbk2.cell 0
  have k1 := hbk2.cell 1
  have f0 := hbk2.frozen 0
  have f1 := hbk2.frozen 1
  have hl := hbk.lt
  have hB2 := hb.trans (hb2.mono hb.size)
  have HX := Lib.hid hx
  have HY := Lib.hid hy
  have HBK := Lib.hid hbk2
  clear hg hx hy hbk hbk2 hs hz hW0
  go_wp2_with fail
  have hp := put_q HBK.out (.slice B2 i2 e2) (.slice B3 i3 e3)
  exact bodyPost_ret (v := .tuple #[.agg #[.slice B2 i2 e2, .slice B3 i3 e3], .bool true]) (by simp [results, Tryz.results32, go_sem, hp.cell 0, hp.cell 1]) rfl
    ⟨_, _, _, _, _, _, rfl, (HX.out.put_q hl _ _).more (by omega), (HY.out.put_q hl _ _).more (by omega), (hB2.setCell (Nat.le_refl _) _).setCell (Nat.le_refl _) _⟩

set_option maxHeartbeats 2000000 in
theorem ratioOf_no (n : Nat) (w : World) (hn : n < 18446744073709551616) : Calls Tryz.prog 15 #[.int .u64 (n : Int), .int .u64 0] w (RetQf w) := by
  have hb := b1 w (.cells #[.slice none 0 0, .slice none 0 0] 25)
  obtain ⟨W0, hW0⟩ : ∃ W0, w.alloc (.cells #[.slice none 0 0, .slice none 0 0] 25) = W0 := ⟨_, rfl⟩
  have hbk := nilbox w
  rw [hW0] at hb hbk
  have h0 := natOf_any 0
  go_enter Tryz.func15, Tryz.ntmps15
  go_wp2_with fail
  refine (natOf_any n W0 hn).mono ?_
  rintro e w1 ⟨v1, rfl, hv1, hb1⟩
  obtain ⟨A1, n1, c1, rfl⟩ := hv1.shape
  have hbk1 := hbk.below hb1 hbk.lt
  have hB1 := hb.trans (hb1.mono hb.size)
  clear hv1 hb1
  go_wp2_with fail
  refine (h0 w1 (by omega)).mono ?_
  rintro e w2 ⟨v2, rfl, hv2, hb2⟩
  obtain ⟨A2, n2, c2, rfl⟩ := hv2.shape
  have hbk2 := hbk1.below hb2 hbk1.lt
  have hB2 := hB1.trans (hb2.mono hB1.size)
  have hm := make_no (v1 := .slice A1 n1 c1) w2 (hv2.nr (M := 0) (by simp)) (by omega)
  clear hv2 hb2
  go_wp2_with fail
  refine hm.mono ?_
  rintro e w3 ⟨rfl, hb3⟩
  have hbk3 := hbk2.below hb3 hbk2.lt
  have hB3 := hB2.trans (hb3.mono hB2.size)
  have k0 := hbk3.cell 0
  have k1 := hbk3.cell 1
  have f0 := hbk3.frozen 0
  have f1 := hbk3.frozen 1
  have HBK := Lib.hid hbk3
  clear hbk hbk1 hbk2 hbk3 hb3 hm
  go_wp2_with fail
  have hp := put_q HBK.out (.slice none 0 0) (.slice none 0 0)
  first
    | exact bodyPost_ret (v := .tuple #[.agg #[.slice none 0 0, .slice none 0 0], .bool false]) (by simp [results, Tryz.results15, go_sem, hp.cell 0, hp.cell 1]) rfl ⟨rfl, (hB3.setCell (Nat.le_refl _) _).setCell (Nat.le_refl _) _⟩
    | exact bodyPost_ret (v := .tuple #[.agg #[.slice none 0 0, .slice none 0 0], .bool false]) (by simp [results, Tryz.results15, go_sem, k0, k1]) rfl ⟨rfl, hB3⟩

set_option maxHeartbeats 2000000 in
theorem ratioOf_r (n d : Nat) (w : World) (hn : n < 18446744073709551616) (hd : d < 18446744073709551616) (hd0 : 0 < d) : Calls Tryz.prog 15 #[.int .u64 (n : Int), .int .u64 (d : Int)] w (RetQt w (n / Nat.gcd n d) (d / Nat.gcd n d)) := by
  have hb := b1 w (.cells #[.slice none 0 0, .slice none 0 0] 25)
  obtain ⟨W0, hW0⟩ : ∃ W0, w.alloc (.cells #[.slice none 0 0, .slice none 0 0] 25) = W0 := ⟨_, rfl⟩
  have hbk := nilbox w
  rw [hW0] at hb hbk
  have hl := hbk.lt
  go_enter Tryz.func15, Tryz.ntmps15
  go_wp2_with fail
  refine (natOf_any n W0 hn).mono ?_
  rintro e w1 ⟨v1, rfl, hv1, hb1⟩
  obtain ⟨A1, n1, c1, rfl⟩ := hv1.shape
  have hbk1 := hbk.below hb1 hbk.lt
  have hB1 := hb.trans (hb1.mono hb.size)
  have HV1 := Lib.hid hv1
  clear hv1
  go_wp2_with fail
  refine (natOf_any d w1 hd).mono ?_
  rintro e w2 ⟨v2, rfl, hv2, hb2⟩
  obtain ⟨A2, n2, c2, rfl⟩ := hv2.shape
  have hbk2 := hbk1.below hb2 hbk1.lt
  have hB2 := hB1.trans (hb2.mono hB1.size)
  have hW2 : W0.heap.size ≤ w2.heap.size := Nat.le_trans hb1.size hb2.size
  have hm := make_r w2 ((HV1.out.below hb2).nr (M := 2) (lt_w2 hn)) (hv2.nr (M := 2) (lt_w2 hd)) (by omega) hd0
  clear hv2 hb2 hb1
  go_wp2_with fail
  refine hm.mono ?_
  rintro e w3 ⟨B2, i2, e2, B3, i3, e3, rfl, hx, hy, hb3⟩
  have hbk3 := hbk2.below hb3 hbk2.lt
  have hB3 := hB2.trans (hb3.mono hB2.size)
  have k0 := hbk3.cell 0
  have k1 := hbk3.cell 1
  have f0 := hbk3.frozen 0
  have f1 := hbk3.frozen 1
  have HX := Lib.hid (hx.more hW2)
  have HY := Lib.hid (hy.more hW2)
  have HBK := Lib.hid hbk3
  clear hx hy hbk hbk1 hbk2 hbk3 hb3 hm
  go_wp2_with fail
  have hp := put_q HBK.out (.slice B2 i2 e2) (.slice B3 i3 e3)
  exact bodyPost_ret (v := .tuple #[.agg #[.slice B2 i2 e2, .slice B3 i3 e3], .bool true]) (by simp [results, Tryz.results15, go_sem, hp.cell 0, hp.cell 1]) rfl
    ⟨_, _, _, _, _, _, rfl, (HX.out.put_q hl _ _).more (by omega), (HY.out.put_q hl _ _).more (by omega), (hB3.setCell (Nat.le_refl _) _).setCell (Nat.le_refl _) _⟩

set_option maxHeartbeats 2000000 in
theorem ratioZero_r (w : World) : Calls Tryz.prog 37 #[] w (RetQ w 0 1) := by
  have hb := b1 w (.cells #[.slice none 0 0, .slice none 0 0] 25)
  obtain ⟨W0, hW0⟩ : ∃ W0, w.alloc (.cells #[.slice none 0 0, .slice none 0 0] 25) = W0 := ⟨_, rfl⟩
  have hbk := nilbox w
  rw [hW0] at hb hbk
  have hl := hbk.lt
  have h0 := natOf_any 0
  have h1 := natOf_any 1
  go_enter Tryz.func37, Tryz.ntmps37
  go_wp2_with fail
  refine (h0 W0 (by omega)).mono ?_
  rintro e w1 ⟨v1, rfl, hv1, hb1⟩
  obtain ⟨A1, n1, c1, rfl⟩ := hv1.shape
  have hbk1 := hbk.below hb1 hbk.lt
  have hB1 := hb.trans (hb1.mono hb.size)
  have HV1 := Lib.hid hv1
  clear hv1
  go_wp2_with fail
  refine (h1 w1 (by omega)).mono ?_
  rintro e w2 ⟨v2, rfl, hv2, hb2⟩
  obtain ⟨A2, n2, c2, rfl⟩ := hv2.shape
  have hbk2 := hbk1.below hb2 hbk1.lt
  have hB2 := hB1.trans (hb2.mono hB1.size)
  have k0 := hbk2.cell 0
  have k1 := hbk2.cell 1
  have f0 := hbk2.frozen 0
  have f1 := hbk2.frozen 1
  have HX := Lib.hid (HV1.out.below hb2)
  have HY := Lib.hid (hv2.more (show W0.heap.size ≤ w1.heap.size from hb1.size))
  have HBK := Lib.hid hbk2
  clear hv2 hbk hbk1 hbk2 hb2 hb1
  go_wp2_with fail
  have hp := put_q HBK.out (.slice A1 n1 c1) (.slice A2 n2 c2)
  exact bodyPost_ret (v := .agg #[.slice A1 n1 c1, .slice A2 n2 c2]) (by simp [results, Tryz.results37, go_sem, hp.cell 0, hp.cell 1]) rfl
    ⟨_, _, _, _, _, _, rfl, (HX.out.put_q hl _ _).more (by omega), (HY.out.put_q hl _ _).more (by omega), (hB2.setCell (Nat.le_refl _) _).setCell (Nat.le_refl _) _⟩
end Go.Proofs.YtaifigkbblncpaaGreatDoor

namespace Go.Proofs.YtaifigkbblncpaaGreatDoor
open Go.RowKit
set_option maxRecDepth 100000

/-- Has a number no noughts at its end? -/
def cutB (xs : List Nat) : Bool := decide (xs = [] ∨ nth xs (xs.length - 1) ≠ 0)
theorem isCut_any (A : Option Addr) (xs : List Nat) (n c : Nat) (z : Bool) (w : World) (hl : xs.length = n) (hr : Ra w w.heap.size A xs) (hd : Dg xs) (hn : n ≤ 100000) (hc : n ≤ c) (hz : cutB xs = z) :
    Calls Tryz.prog 46 #[.slice A n c] w fun e w' => e = .returned (.bool z) ∧ w = w' := by
  rcases Nat.eq_zero_or_pos n with rfl | hpos
  · have hx : xs = [] := List.eq_nil_of_length_eq_zero hl
    have hz1 : z = true := by rw [← hz, hx]; rfl
    subst hz1
    clear hz hx hl hr hd
    go_enter Tryz.func46, Tryz.ntmps46
    go_wp2_with fail
    go_ret
    exact ⟨rfl, rfl⟩
  · obtain ⟨b, o, hA, hb, cx⟩ := hr.at_ (k := n - 1) (by omega)
    subst hA
    obtain ⟨x, hx⟩ : ∃ x, nth xs (n - 1) = x := ⟨_, rfl⟩
    have hxb := hd.nth (n - 1)
    rw [hx] at cx hxb
    have hz1 : ((x : Int) != 0) = z := by
      rw [← hz, cutB, hl, hx, Bool.eq_iff_iff]
      have hne : xs ≠ [] := by intro h; rw [h] at hl; simp at hl; omega
      simp [hne]
    have hn0 : ((n : Int) == 0) = false := by simp; omega
    clear hz hx hl hr hd
    go_enter Tryz.func46, Tryz.ntmps46
    go_wp2_with fail
    go_ret
    exact ⟨rfl, rfl⟩

theorem cut_can {xs : List Nat} (hd : Dg xs) (h : cutB xs = true) : Cn xs := ⟨hd, fun hne => by
  rcases of_decide_eq_true h with h1 | h1
  · exact absurd h1 hne
  · exact h1⟩
theorem can_cut {xs : List Nat} (h : Cn xs) : cutB xs = true := decide_eq_true (by
  rcases xs with _ | ⟨d, r⟩
  · exact .inl rfl
  · exact .inr (h.2 (by simp)))

/-- Is a fraction right? -/
def rightB (xs ys : List Nat) : Bool := cutB xs && (cutB ys && (!decide (U ys = 0) && decide (Nat.gcd (U xs) (U ys) = 1)))

set_option maxHeartbeats 4000000 in
theorem right_any (A1 A2 : Option Addr) (xs ys : List Nat) (n1 c1 n2 c2 : Nat) (w : World) (hl1 : xs.length = n1) (hl2 : ys.length = n2) (hr1 : Ra w w.heap.size A1 xs) (hr2 : Ra w w.heap.size A2 ys)
    (hd1 : Dg xs) (hd2 : Dg ys) (hn1 : n1 ≤ 100000) (hn2 : n2 ≤ 100000) (hc1 : n1 ≤ c1) (hc2 : n2 ≤ c2) :
    Calls Tryz.prog 22 #[.agg #[.slice A1 n1 c1, .slice A2 n2 c2]] w fun e w' => e = .returned (.bool (rightB xs ys)) ∧ Below w.heap.size w w' := by
  have hb := b1 w (.cells #[.slice A1 n1 c1, .slice A2 n2 c2] 25)
  have hbk := Blk.new w 25 #[.slice A1 n1 c1, .slice A2 n2 c2]
  obtain ⟨W0, hW0⟩ : ∃ W0, w.alloc (.cells #[.slice A1 n1 c1, .slice A2 n2 c2] 25) = W0 := ⟨_, rfl⟩
  rw [hW0] at hb hbk
  have k0 := hbk.cell 0
  have k1 := hbk.cell 1
  have hra := (hr1.below hb (Nat.le_refl _)).more hb.size
  have hrb := (hr2.below hb (Nat.le_refl _)).more hb.size
  obtain ⟨z1, hz1⟩ : ∃ z, cutB xs = z := ⟨_, rfl⟩
  obtain ⟨z2, hz2⟩ : ∃ z, cutB ys = z := ⟨_, rfl⟩
  obtain ⟨z3, hz3⟩ : ∃ z, decide (U ys = 0) = z := ⟨_, rfl⟩
  obtain ⟨z4, hz4⟩ : ∃ z, decide (Nat.gcd (U xs) (U ys) = 1) = z := ⟨_, rfl⟩
  have q1 := isCut_any A1 xs n1 c1 z1 W0 hl1 hra hd1 hn1 hc1 hz1
  have q2 := isCut_any A2 ys n2 c2 z2 W0 hl2 hrb hd2 hn2 hc2 hz2
  have r1 : Nr W0 (.slice A1 n1 c1) (U xs) 100000 := ⟨A1, xs, n1, c1, rfl, hl1, hc1, hra, hd1, rfl, hn1⟩
  have r2 : Nr W0 (.slice A2 n2 c2) (U ys) 100000 := ⟨A2, ys, n2, c2, rfl, hl2, hc2, hrb, hd2, rfl, hn2⟩
  have q3 := isZero_r z3 W0 r2 (Nat.le_refl _) hz3
  have q4 := gcd_r W0 r1 r2 (Nat.le_refl _)
  have hgl : Nat.gcd (U xs) (U ys) < 4294967296 ^ 100000 := gcd_small r1.lt r2.lt
  have q5 := fun (wz : World) (v : Value) (L : Nat) (h : Nv wz L v (Nat.gcd (U xs) (U ys))) => isOne_r z4 wz (h.nr hgl) (Nat.le_refl _) hz4
  have HRB : Hid (rightB xs ys = (z1 && (z2 && (!z3 && z4)))) := Lib.hid (by rw [rightB, hz1, hz2, hz3, hz4])
  have Q5 := Lib.hid q5
  rw [HRB.out]
  clear hl1 hl2 hr1 hr2 hd1 hd2 hra hrb hz1 hz2 hz3 hz4 r1 r2 hgl q5 hbk HRB
  cases z1
  · go_enter Tryz.func22, Tryz.ntmps22
    go_wp2_with fail
    refine q1.mono ?_
    rintro e w1 ⟨rfl, rfl⟩
    go_wp2_with fail
    go_ret
    exact ⟨rfl, hb⟩
  cases z2
  · go_enter Tryz.func22, Tryz.ntmps22
    go_wp2_with fail
    refine q1.mono ?_
    rintro e w1 ⟨rfl, rfl⟩
    go_wp2_with fail
    refine q2.mono ?_
    rintro e w1 ⟨rfl, rfl⟩
    go_wp2_with fail
    go_ret
    exact ⟨rfl, hb⟩
  cases z3
  rotate_left
  · go_enter Tryz.func22, Tryz.ntmps22
    go_wp2_with fail
    refine q1.mono ?_
    rintro e w1 ⟨rfl, rfl⟩
    go_wp2_with fail
    refine q2.mono ?_
    rintro e w1 ⟨rfl, rfl⟩
    go_wp2_with fail
    refine q3.mono ?_
    rintro e w1 ⟨rfl, rfl⟩
    go_wp2_with fail
    go_ret
    exact ⟨rfl, hb⟩
  · go_enter Tryz.func22, Tryz.ntmps22
    go_wp2_with fail
    refine q1.mono ?_
    rintro e w1 ⟨rfl, rfl⟩
    go_wp2_with fail
    refine q2.mono ?_
    rintro e w1 ⟨rfl, rfl⟩
    go_wp2_with fail
    refine q3.mono ?_
    rintro e w1 ⟨rfl, rfl⟩
    go_wp2_with fail
    refine q4.mono ?_
    rintro e w2 ⟨v, rfl, hv, hb2⟩
    obtain ⟨A3, n3, c3, rfl⟩ := hv.shape
    have q6 := Q5.out w2 _ _ hv
    clear hv
    go_wp2_with fail
    refine q6.mono ?_
    rintro e w3 ⟨rfl, rfl⟩
    go_wp2_with fail
    go_ret
    exact ⟨rfl, hb.trans (hb2.mono hb.size)⟩

/-- What a sum's or a difference's parts make. -/
theorem over_r {v1 v2 v3 v4 : Value} {a b c d M : Nat} (w : World) (h1 : Nr w v1 a M) (h2 : Nr w v2 b M) (h3 : Nr w v3 c M) (h4 : Nr w v4 d M) (hM : M ≤ 5000) :
    Calls Tryz.prog 40 #[v1, v2, v3, v4] w (RetQ w (a / Nat.gcd a b) (c * (d / Nat.gcd a b))) := by
  have hb := b1 w (.cells #[.slice none 0 0, .slice none 0 0] 25)
  have hbk := nilbox w
  have hg : Nat.gcd a b < 4294967296 ^ M := gcd_small h1.lt h2.lt
  have hd : d / Nat.gcd a b < 4294967296 ^ M := Nat.lt_of_le_of_lt (Nat.div_le_self _ _) h4.lt
  obtain ⟨W0, hW0⟩ : ∃ W0, w.alloc (.cells #[.slice none 0 0, .slice none 0 0] 25) = W0 := ⟨_, rfl⟩
  rw [hW0] at hb hbk
  have hl := hbk.lt
  obtain ⟨A1, n1, c1, rfl⟩ := h1.shape
  obtain ⟨A2, n2, c2, rfl⟩ := h2.shape
  obtain ⟨A3, n3, c3, rfl⟩ := h3.shape
  obtain ⟨A4, n4, c4, rfl⟩ := h4.shape
  have hgcd := gcd_r W0 (h1.below hb) (h2.below hb) (by omega)
  have HG := Lib.hid hg
  have HD := Lib.hid hd
  have H1 := Lib.hid (h1.below hb)
  have H3 := Lib.hid (h3.below hb)
  have H4 := Lib.hid (h4.below hb)
  have HBK := Lib.hid hbk
  clear h1 h2 h3 h4 hg hd hbk
  go_enter Tryz.func40, Tryz.ntmps40
  go_wp2_with fail
  refine hgcd.mono ?_
  rintro e w1 ⟨v, rfl, hnv, hb1⟩
  obtain ⟨A5, n5, c5, rfl⟩ := hnv.shape
  have HV := Lib.hid hnv
  clear hnv hgcd
  go_wp2_with fail
  refine (quot_r w1 (H1.out.below hb1) (HV.out.nr HG.out) (by omega) (by omega)).mono ?_
  rintro e w2 ⟨v5, rfl, hv5, hb2⟩
  obtain ⟨B1, j1, e1, rfl⟩ := hv5.shape
  have hB2 := hb1.trans (hb2.mono hb1.size)
  have HX := Lib.hid (hv5.more hb1.size)
  clear hv5
  go_wp2_with fail
  refine (quot_r w2 (H4.out.below hB2) ((HV.out.below hb2).nr HG.out) (by omega) (by omega)).mono ?_
  rintro e w3 ⟨v6, rfl, hv6, hb3⟩
  obtain ⟨B2, j2, e2, rfl⟩ := hv6.shape
  have hB3 := hB2.trans (hb3.mono hB2.size)
  have hmul := mul_new w3 (H3.out.below hB3) (hv6.nr HD.out) hM
  have HX3 := Lib.hid (HX.out.below hb3)
  clear hv6
  go_wp2_with fail
  refine hmul.mono ?_
  rintro e w4 ⟨v7, rfl, hv7, hb4⟩
  obtain ⟨B4, j4, e4, rfl⟩ := hv7.shape
  have hs3 := hB3.size
  have hba := b1 w3 (.cells #[.slice A3 n3 c3, .slice B2 j2 e2] 23)
  have hB4 : Below W0.heap.size W0 w4 := (hB3.trans (hba.mono hs3)).trans (hb4.mono (Nat.le_trans hs3 hba.size))
  have HX4 := Lib.hid ((HX3.out.below hba).below hb4)
  have HY4 := Lib.hid (hv7.more (show W0.heap.size ≤ _ from Nat.le_trans hs3 hba.size))
  have hbk4 := HBK.out.below hB4 hl
  have k0 := hbk4.cell 0
  have k1 := hbk4.cell 1
  have f0 := hbk4.frozen 0
  have f1 := hbk4.frozen 1
  have HBK4 := Lib.hid hbk4
  have hBw := hb.trans (hB4.mono hb.size)
  clear hv7 hbk4 hb4 hba hB4 hmul
  go_wp2_with fail
  have hp := put_q HBK4.out (.slice B1 j1 e1) (.slice B4 j4 e4)
  exact bodyPost_ret (v := .agg #[.slice B1 j1 e1, .slice B4 j4 e4]) (by simp [results, Tryz.results40, go_sem, hp.cell 0, hp.cell 1]) rfl
    ⟨_, _, _, _, _, _, rfl, (HX4.out.put_q hl _ _).more (by omega), (HY4.out.put_q hl _ _).more (by omega), (hBw.setCell (Nat.le_refl _) _).setCell (Nat.le_refl _) _⟩
end Go.Proofs.YtaifigkbblncpaaGreatDoor
