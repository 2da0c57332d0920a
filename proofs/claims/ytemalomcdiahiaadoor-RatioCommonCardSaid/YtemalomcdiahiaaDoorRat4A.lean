/-
  The document's fractions: Low, Of, Int, Same.
-/
import Derived.Test.YtemalomcdiahiaaDoorRatE
namespace Go.Proofs.YtemalomcdiahiaaDoor
open Go.RowKit
set_option maxRecDepth 100000

theorem put_Q {W : World} {g : Nat} {p q : Value} (h : Blk W g 38 #[p, q]) (x y : Value) : Blk ((W.setCell ⟨g, 0, none⟩ x).setCell ⟨g, 1, none⟩ y) g 38 #[x, y] := by
  have := (h.set_ 0 x).set_ 1 y
  exact this
theorem Num.setSi {w : World} {L g i n c a : Nat} {A : Option Addr} {v u : Value} (h : Num w L v a) (hg : w.cell? ⟨g, i, none⟩ = some (.slice A n c)) : Num (w.setCell ⟨g, i, none⟩ u) L v a := by
  obtain ⟨A', xs, n', c', h1, hl, h2, h3, h4, h5⟩ := h
  refine ⟨A', xs, n', c', h1, hl, h2, ?_, h4, h5⟩
  rw [setCell_size]
  intro hx
  obtain ⟨b, o, e1, e2, e3⟩ := h3 hx
  refine ⟨b, o, e1, e2, fun k hk => ?_⟩
  rw [World.cell?_setCell_other w _ _ u (fun e => by have := e3 k hk; rw [← e, hg] at this; cases this)]
  exact e3 k hk

/-- A fraction of the document's that is answered. -/
def RetD (w : World) (a b : Nat) (e : Ending) (w' : World) : Prop := ∃ A1 n1 c1 A2 n2 c2, e = .returned (.agg #[.slice A1 n1 c1, .slice A2 n2 c2]) ∧ (∃ L, Num w' L (.agg #[.slice A1 n1 c1]) a) ∧ (∃ L, Num w' L (.agg #[.slice A2 n2 c2]) b) ∧ Below w.heap.size w w'

set_option maxHeartbeats 2000000 in
theorem low_any {j : Nat} (A1 A2 : Option Addr) (n1 c1 n2 c2 a b L1 L2 : Nat) (w : World) (h1 : Num w L1 (.agg #[.slice A1 n1 c1]) a) (h2 : Num w L2 (.agg #[.slice A2 n2 c2]) b) (ha : a < 65536 ^ j) (hb : b < 65536 ^ j) (hb0 : 0 < b) (hj : j ≤ 2000) :
    Calls Tryd.prog 13 #[.agg #[.slice A1 n1 c1, .slice A2 n2 c2]] w (RetD w (a / Nat.gcd a b) (b / Nat.gcd a b)) := by
  have hbb := b2 w (.cells #[.slice A1 n1 c1, .slice A2 n2 c2] 38) (.cells #[.slice none 0 0, .slice none 0 0] 38)
  have q1 := (Blk.new w 38 #[.slice A1 n1 c1, .slice A2 n2 c2]).alloc (.cells #[.slice none 0 0, .slice none 0 0] 38)
  have q2 := Blk.new (w.alloc (.cells #[.slice A1 n1 c1, .slice A2 n2 c2] 38)) 38 #[.slice none 0 0, .slice none 0 0]
  rw [World.size_alloc] at q2
  obtain ⟨W0, hW0⟩ : ∃ W0, (w.alloc (.cells #[.slice A1 n1 c1, .slice A2 n2 c2] 38)).alloc (.cells #[.slice none 0 0, .slice none 0 0] 38) = W0 := ⟨_, rfl⟩
  rw [hW0] at hbb q1 q2
  have hg : Nat.gcd a b < 65536 ^ j := gcd_small ha hb
  have hg0 : 0 < Nat.gcd a b := Nat.gcd_pos_of_pos_right _ hb0
  have HX := Lib.hid (h1.below hbb)
  have HY := Lib.hid (h2.below hbb)
  have HA := Lib.hid ha
  have HB := Lib.hid hb
  obtain ⟨G, hG⟩ : ∃ G, Nat.gcd a b = G := ⟨_, rfl⟩
  have hgc := refGcd3_any A1 A2 n1 c1 n2 c2 a b _ _ W0 HX.out HY.out ha hb (by omega)
  rw [hG] at hg hg0 hgc ⊢
  have HG := Lib.hid hg
  have HG0 := Lib.hid hg0
  have x0 : W0.cell? ⟨w.heap.size, 0, none⟩ = some (.slice A1 n1 c1) := q1.cell 0
  have x1 : W0.cell? ⟨w.heap.size, 1, none⟩ = some (.slice A2 n2 c2) := q1.cell 1
  have hl1 := q1.lt
  have hl2 := q2.lt
  have Q2 := Lib.hid q2
  clear h1 h2 ha hb hg hg0 hG q1 q2
  go_enter Tryd.func13, Tryd.ntmps13
  go_wp2_with fail
  refine hgc.mono ?_
  rintro e w1 ⟨v, rfl, ⟨L3, hv⟩, hb1⟩
  obtain ⟨A3, n3, c3, rfl⟩ := hv.shape
  have ha1 := b1 w1 (.cells #[.slice A3 n3 c3] 33)
  have hb2 := hb1.trans (ha1.mono hb1.size)
  have xx := cells2 hb2 ⟨x0, x1⟩
  have HX := Lib.hid (HX.out.below hb2)
  have HY := Lib.hid (HY.out.below hb2)
  have HV := Lib.hid (hv.below ha1)
  have g0 : (w1.alloc (.cells #[.slice A3 n3 c3] 33)).cell? ⟨w1.heap.size, 0, none⟩ = some (.slice A3 n3 c3) := (Blk.new w1 _ _).cell 0
  have Q2 := Lib.hid (Q2.out.below hb2 hl2)
  have hBw := hbb.trans (hb2.mono hbb.size)
  have hl1 : w.heap.size < (w1.alloc (.cells #[.slice A3 n3 c3] 33)).heap.size := Nat.lt_of_lt_of_le hl1 hb2.size
  have hgl : w1.heap.size < (w1.alloc (.cells #[.slice A3 n3 c3] 33)).heap.size := by simp
  clear hgc hv hb1 hb2 ha1 x0 x1 hbb hl2 hW0
  go_upto_region 2 with (fail)
  obtain ⟨g3, hg3⟩ : ∃ g3, w1.heap.size = g3 := ⟨_, rfl⟩
  obtain ⟨W1, hW1⟩ : ∃ W1, w1.alloc (.cells #[.slice A3 n3 c3] 33) = W1 := ⟨_, rfl⟩
  rw [hW1] at xx HX HY HV g0 Q2 hBw hl1 hgl
  rw [hg3] at g0 hgl
  rw [hg3, hW1]
  clear hg3 hW1
  obtain ⟨x0, x1⟩ := xx
  go_wp2_with fail
  refine (div_num _ _ a G _ _ W1 HX.out HV.out HA.out HG.out HG0.out).mono ?_
  rintro e w2 ⟨v1, v2, rfl, hv1, hv2, hb3⟩
  obtain ⟨B1, i1, e1, rfl⟩ := hv1.shape
  obtain ⟨B2, i2, e2, rfl⟩ := hv2.shape
  have ha2 := b2 w2 (.cells #[.slice B1 i1 e1] 33) (.cells #[.slice B2 i2 e2] 33)
  have hb4 := hb3.trans (ha2.mono hb3.size)
  have xx := cells2 hb4 ⟨x0, x1⟩
  have gg := (hb4.cell (p := ⟨g3, 0, none⟩) hgl).trans g0
  have HY := Lib.hid (HY.out.below hb4)
  have HV := Lib.hid (HV.out.below hb4)
  have HN := Lib.hid (hv1.below ha2)
  have n0 : ((w2.alloc (.cells #[.slice B1 i1 e1] 33)).alloc (.cells #[.slice B2 i2 e2] 33)).cell? ⟨w2.heap.size, 0, none⟩ = some (.slice B1 i1 e1) := ((Blk.new w2 33 #[.slice B1 i1 e1]).alloc _).cell 0
  have Q2 := Lib.hid (Q2.out.below hb4 Q2.out.lt)
  have hBw := hBw.trans (hb4.mono hBw.size)
  have hnl : w2.heap.size < ((w2.alloc (.cells #[.slice B1 i1 e1] 33)).alloc (.cells #[.slice B2 i2 e2] 33)).heap.size := by simp; omega
  clear hv1 hv2 hb3 hb4 ha2 x0 x1 g0 HX hl1 hgl
  go_upto_region 3 with (fail)
  obtain ⟨g4, hg4⟩ : ∃ g4, w2.heap.size = g4 := ⟨_, rfl⟩
  obtain ⟨W2, hW2⟩ : ∃ W2, (w2.alloc (.cells #[.slice B1 i1 e1] 33)).alloc (.cells #[.slice B2 i2 e2] 33) = W2 := ⟨_, rfl⟩
  rw [hW2] at xx gg HY HV HN n0 Q2 hBw hnl
  rw [hg4] at n0 hnl
  rw [hg4, hW2]
  clear hg4 hW2
  obtain ⟨x0, x1⟩ := xx
  go_wp2_with fail
  refine (div_num _ _ b G _ _ W2 HY.out HV.out HB.out HG.out HG0.out).mono ?_
  rintro e w3 ⟨v3, v4, rfl, hv3, hv4, hb5⟩
  obtain ⟨B3, i3, e3, rfl⟩ := hv3.shape
  obtain ⟨B4, i4, e4, rfl⟩ := hv4.shape
  have ha3 := b2 w3 (.cells #[.slice B3 i3 e3] 33) (.cells #[.slice B4 i4 e4] 33)
  have hb6 := hb5.trans (ha3.mono hb5.size)
  have m0 := (hb6.cell (p := ⟨g4, 0, none⟩) hnl).trans n0
  have HN := Lib.hid (HN.out.below hb6)
  have HD := Lib.hid (hv3.below ha3)
  have d0 : ((w3.alloc (.cells #[.slice B3 i3 e3] 33)).alloc (.cells #[.slice B4 i4 e4] 33)).cell? ⟨w3.heap.size, 0, none⟩ = some (.slice B3 i3 e3) := ((Blk.new w3 33 #[.slice B3 i3 e3]).alloc _).cell 0
  have Q2 := Lib.hid (Q2.out.below hb6 Q2.out.lt)
  have hBw := hBw.trans (hb6.mono hBw.size)
  clear hv3 hv4 hb5 hb6 ha3 x0 x1 gg n0 HY HV hnl
  go_upto_region 4 with (fail)
  obtain ⟨W3, hW3⟩ : ∃ W3, (w3.alloc (.cells #[.slice B3 i3 e3] 33)).alloc (.cells #[.slice B4 i4 e4] 33) = W3 := ⟨_, rfl⟩
  rw [hW3] at m0 HN HD d0 Q2 hBw
  rw [hW3]
  clear hW3
  have k0 : W3.cell? ⟨w.heap.size + 1, 0, none⟩ = some (.slice none 0 0) := Q2.out.cell 0
  have k1 : W3.cell? ⟨w.heap.size + 1, 1, none⟩ = some (.slice none 0 0) := Q2.out.cell 1
  have f0 := Q2.out.frozen 0
  have f1 := Q2.out.frozen 1
  go_wp2_with fail
  have hp := put_Q Q2.out (.slice B1 i1 e1) (.slice B3 i3 e3)
  have k1' : (W3.setCell ⟨w.heap.size + 1, 0, none⟩ (.slice B1 i1 e1)).cell? ⟨w.heap.size + 1, 1, none⟩ = some (.slice none 0 0) := (World.cell?_setCell_other _ _ _ _ (by intro e; injection e; omega)).trans k1
  exact bodyPost_ret (v := .agg #[.slice B1 i1 e1, .slice B3 i3 e3]) (by simp [results, Tryd.results13, go_sem, hp.cell 0, hp.cell 1]) rfl
    ⟨_, _, _, _, _, _, rfl, ⟨_, (HN.out.setSi k0).setSi k1'⟩, ⟨_, (HD.out.setSi k0).setSi k1'⟩, (hBw.setCell (by show w.heap.size ≤ w.heap.size + 1; omega) _).setCell (by show w.heap.size ≤ w.heap.size + 1; omega) _⟩

theorem of_word (n : Nat) (w : World) (hn : n < 18446744073709551616) : Calls Tryd.prog 49 #[.int .u64 (n : Int)] w (RetNum w n) := of_any n w hn
theorem of_zero (w : World) : Calls Tryd.prog 49 #[.int .u64 0] w (RetNum w 0) := of_any 0 w (by omega)
theorem qbox (w : World) : Blk (w.alloc (.cells #[.slice none 0 0, .slice none 0 0] 38)) w.heap.size 38 #[.slice none 0 0, .slice none 0 0] := Blk.new _ _ _

set_option maxHeartbeats 2000000 in
theorem of4_r (n d : Nat) (w : World) (hn : n < 18446744073709551616) (hd : d < 18446744073709551616) (hd0 : 0 < d) : Calls Tryd.prog 15 #[.int .u64 (n : Int), .int .u64 (d : Int)] w (RetD w (n / Nat.gcd n d) (d / Nat.gcd n d)) := by
  have hb := b1 w (.cells #[.slice none 0 0, .slice none 0 0] 38)
  have hbk := qbox w
  obtain ⟨W0, hW0⟩ : ∃ W0, w.alloc (.cells #[.slice none 0 0, .slice none 0 0] 38) = W0 := ⟨_, rfl⟩
  rw [hW0] at hb hbk
  have HBK := Lib.hid hbk
  have PN := Lib.hid (pow_word hn)
  have PD := Lib.hid (pow_word hd)
  clear hbk
  go_enter Tryd.func15, Tryd.ntmps15
  go_wp2_with fail
  refine (of_word n W0 hn).mono ?_
  rintro e w1 ⟨v1, rfl, hv1, hb1⟩
  obtain ⟨A1, n1, c1, rfl⟩ := hv1.shape
  have H1 := Lib.hid hv1
  clear hv1
  go_wp2_with fail
  refine (of_word d w1 hd).mono ?_
  rintro e w2 ⟨v2, rfl, hv2, hb2⟩
  obtain ⟨A2, n2, c2, rfl⟩ := hv2.shape
  have hB2 := hb1.trans (hb2.mono hb1.size)
  have hlow := low_any A1 A2 n1 c1 n2 c2 n d _ _ w2 (H1.out.below hb2) hv2 PN.out PD.out hd0 (by omega)
  clear hv2 H1 hb1 hb2
  go_wp2_with fail
  refine hlow.mono ?_
  rintro e w3 ⟨B1, i1, e1, B2, i2, e2, rfl, ⟨L1, hx⟩, ⟨L2, hy⟩, hb3⟩
  have hB3 := hB2.trans (hb3.mono hB2.size)
  have hbk3 := HBK.out.below hB3 HBK.out.lt
  have k0 : w3.cell? ⟨w.heap.size, 0, none⟩ = some (.slice none 0 0) := hbk3.cell 0
  have k1 : w3.cell? ⟨w.heap.size, 1, none⟩ = some (.slice none 0 0) := hbk3.cell 1
  have f0 := hbk3.frozen 0
  have f1 := hbk3.frozen 1
  have HX := Lib.hid hx
  have HY := Lib.hid hy
  have HBK3 := Lib.hid hbk3
  have hBw := hb.trans (hB3.mono hb.size)
  clear hx hy hbk3 hb3 hlow hW0
  go_wp2_with fail
  have hp := put_Q HBK3.out (.slice B1 i1 e1) (.slice B2 i2 e2)
  have k1' : (w3.setCell ⟨w.heap.size, 0, none⟩ (.slice B1 i1 e1)).cell? ⟨w.heap.size, 1, none⟩ = some (.slice none 0 0) := (World.cell?_setCell_other _ _ _ _ (by intro e; injection e; omega)).trans k1
  exact bodyPost_ret (v := .agg #[.slice B1 i1 e1, .slice B2 i2 e2]) (by simp [results, Tryd.results15, go_sem, hp.cell 0, hp.cell 1]) rfl
    ⟨_, _, _, _, _, _, rfl, ⟨_, (HX.out.setSi k0).setSi k1'⟩, ⟨_, (HY.out.setSi k0).setSi k1'⟩, (hBw.setCell (Nat.le_refl _) _).setCell (Nat.le_refl _) _⟩

set_option maxHeartbeats 2000000 in
theorem int0_r (w : World) : Calls Tryd.prog 17 #[.int .u64 0] w (RetD w 0 1) := by
  have hb := b1 w (.cells #[.slice none 0 0, .slice none 0 0] 38)
  have hbk := qbox w
  obtain ⟨W0, hW0⟩ : ∃ W0, w.alloc (.cells #[.slice none 0 0, .slice none 0 0] 38) = W0 := ⟨_, rfl⟩
  rw [hW0] at hb hbk
  have HBK := Lib.hid hbk
  clear hbk
  go_enter Tryd.func17, Tryd.ntmps17
  go_wp2_with fail
  refine (of_zero W0).mono ?_
  rintro e w1 ⟨v1, rfl, hv1, hb1⟩
  obtain ⟨A1, n1, c1, rfl⟩ := hv1.shape
  have H1 := Lib.hid hv1
  clear hv1
  go_wp2_with fail
  refine (of_one w1).mono ?_
  rintro e w2 ⟨v2, rfl, hv2, hb2⟩
  obtain ⟨A2, n2, c2, rfl⟩ := hv2.shape
  have hB3 := hb1.trans (hb2.mono hb1.size)
  have hbk3 := HBK.out.below hB3 HBK.out.lt
  have k0 : w2.cell? ⟨w.heap.size, 0, none⟩ = some (.slice none 0 0) := hbk3.cell 0
  have k1 : w2.cell? ⟨w.heap.size, 1, none⟩ = some (.slice none 0 0) := hbk3.cell 1
  have f0 := hbk3.frozen 0
  have f1 := hbk3.frozen 1
  have HX := Lib.hid (H1.out.below hb2)
  have HY := Lib.hid hv2
  have HBK3 := Lib.hid hbk3
  have hBw := hb.trans (hB3.mono hb.size)
  clear hv2 hbk3 hb2 hb1 hW0
  go_wp2_with fail
  have hp := put_Q HBK3.out (.slice A1 n1 c1) (.slice A2 n2 c2)
  have k1' : (w2.setCell ⟨w.heap.size, 0, none⟩ (.slice A1 n1 c1)).cell? ⟨w.heap.size, 1, none⟩ = some (.slice none 0 0) := (World.cell?_setCell_other _ _ _ _ (by intro e; injection e; omega)).trans k1
  exact bodyPost_ret (v := .agg #[.slice A1 n1 c1, .slice A2 n2 c2]) (by simp [results, Tryd.results17, go_sem, hp.cell 0, hp.cell 1]) rfl
    ⟨_, _, _, _, _, _, rfl, ⟨_, (HX.out.setSi k0).setSi k1'⟩, ⟨_, (HY.out.setSi k0).setSi k1'⟩, (hBw.setCell (Nat.le_refl _) _).setCell (Nat.le_refl _) _⟩

/-- A number of the document's, as it is answered. -/
theorem out_num {v : Value} {a L j : Nat} (w : World) (h : Num w L v a) (ha : a < 65536 ^ j) (hj : j ≤ 5000) : Calls Tryd.prog 35 #[v] w (RetNv w a) := by
  obtain ⟨A, xs, n, c, rfl, hl, hc, hr, hcan, hV, hn⟩ := h.form ha
  have := out_any A xs n c w hl.out hr hcan (by omega)
  rwa [hV.out] at this
/-- A number's digits are those of a number without noughts at the end just if it has none. -/
theorem same_cut {A : Option Addr} {xs : List Nat} {n c L M : Nat} {u : Value} (z : Bool) (w : World) (hl : xs.length = n) (hr : Ra w w.heap.size A xs) (hd : Dg xs) (hn : n ≤ 1000) (h2 : Nv w L u (U xs)) (hz : cutB xs = z) :
    Calls Tryd.prog 33 #[.slice A n c, u] w fun e w' => e = .returned (.bool z) ∧ Below w.heap.size w w' := by
  obtain ⟨A2, ys, n2, c2, rfl, hl2, hc2, hr2, _, hcan2, hU2⟩ := h2
  have := same_any A A2 xs ys n c n2 c2 w hl hl2 hr hr2 (by omega)
  have e : decide (xs = ys) = z := by
    rw [← hz]
    cases hcb : cutB xs
    · refine decide_eq_false (fun h => ?_)
      rw [h, can_cut hcan2] at hcb
      cases hcb
    · exact decide_eq_true (U_inj (cut_can hd hcb) hcan2 hU2.symm)
  rwa [e] at this
theorem same_nv {v u : Value} {a L1 L2 j : Nat} (w : World) (h1 : Nv w L1 v a) (h2 : Nv w L2 u a) (ha : a < 4294967296 ^ j) (hj : j ≤ 1000) :
    Calls Tryd.prog 33 #[v, u] w fun e w' => e = .returned (.bool true) ∧ Below w.heap.size w w' := by
  obtain ⟨A, xs, n, c, rfl, hl, hc, hr, _, hcan, hU⟩ := h1
  have hn := hcan.len (k := j) (by omega)
  exact same_cut (M := 0) true w hl hr hcan.1 (by omega) (by rw [hU]; exact h2) (can_cut hcan)

theorem cells4 {wb W W' : World} {p q r s : Addr} {a b c d : Value} (hb : Below W.heap.size W W') (h : (W.cell? p = some a ∧ W.cell? q = some b) ∧ (W.cell? r = some c ∧ W.cell? s = some d) ∧ Below wb.heap.size wb W) :
    (W'.cell? p = some a ∧ W'.cell? q = some b) ∧ (W'.cell? r = some c ∧ W'.cell? s = some d) ∧ Below wb.heap.size wb W' := ⟨cells2 hb h.1, cells2 hb h.2.1, h.2.2.trans (hb.mono h.2.2.size)⟩
theorem nv_far2 {wb W : World} {L : Nat} {v : Value} {n : Nat} {a b : Prop} (hn : Nv wb L v n) (hs : a ∧ b ∧ Below wb.heap.size wb W) : Nv W L v n := hn.below hs.2.2

set_option maxHeartbeats 2000000 in
theorem same4_r {A1 A2 B1 B2 : Option Addr} {n1 c1 n2 c2 i1 e1 i2 e2 a b L1 L2 L3 L4 j : Nat} (w : World) (h1 : Nv w L1 (.slice A1 n1 c1) a) (h2 : Nv w L2 (.slice A2 n2 c2) b) (h3 : Num w L3 (.agg #[.slice B1 i1 e1]) a) (h4 : Num w L4 (.agg #[.slice B2 i2 e2]) b)
    (ha : a < 65536 ^ j) (hb : b < 65536 ^ j) (hj : j ≤ 1000) :
    Calls Tryd.prog 12 #[.agg #[.slice A1 n1 c1, .slice A2 n2 c2], .agg #[.slice B1 i1 e1, .slice B2 i2 e2]] w fun e w' => e = .returned (.bool true) ∧ Below w.heap.size w w' := by
  have hbb := b2 w (.cells #[.slice A1 n1 c1, .slice A2 n2 c2] 27) (.cells #[.slice B1 i1 e1, .slice B2 i2 e2] 38)
  have q1 := (Blk.new w 27 #[.slice A1 n1 c1, .slice A2 n2 c2]).alloc (.cells #[.slice B1 i1 e1, .slice B2 i2 e2] 38)
  have q2 := Blk.new (w.alloc (.cells #[.slice A1 n1 c1, .slice A2 n2 c2] 27)) 38 #[.slice B1 i1 e1, .slice B2 i2 e2]
  rw [World.size_alloc] at q2
  obtain ⟨W0, hW0⟩ : ∃ W0, (w.alloc (.cells #[.slice A1 n1 c1, .slice A2 n2 c2] 27)).alloc (.cells #[.slice B1 i1 e1, .slice B2 i2 e2] 38) = W0 := ⟨_, rfl⟩
  rw [hW0] at hbb q1 q2
  have x0 : W0.cell? ⟨w.heap.size, 0, none⟩ = some (.slice A1 n1 c1) := q1.cell 0
  have x1 : W0.cell? ⟨w.heap.size, 1, none⟩ = some (.slice A2 n2 c2) := q1.cell 1
  have y0 : W0.cell? ⟨w.heap.size + 1, 0, none⟩ = some (.slice B1 i1 e1) := q2.cell 0
  have y1 : W0.cell? ⟨w.heap.size + 1, 1, none⟩ = some (.slice B2 i2 e2) := q2.cell 1
  have hp32 : ∀ x : Nat, x < 65536 ^ j → x < 4294967296 ^ j := fun x h => Nat.lt_of_lt_of_le h (Nat.pow_le_pow_left (by omega) j)
  have PA := Lib.hid (hp32 a ha)
  have PB := Lib.hid (hp32 b hb)
  have HA := Lib.hid ha
  have HB := Lib.hid hb
  have H1 := Lib.hid (h1.below hbb)
  have H2 := Lib.hid (h2.below hbb)
  have H3 := Lib.hid (h3.below hbb)
  have H4 := Lib.hid (h4.below hbb)
  clear h1 h2 h3 h4 q1 q2 hp32 ha hb
  go_enter Tryd.func12, Tryd.ntmps12
  go_wp2_with fail
  go_region_held3 (fun u => (u.cell? ⟨w.heap.size, 0, none⟩ = some (.slice A1 n1 c1) ∧ u.cell? ⟨w.heap.size, 1, none⟩ = some (.slice A2 n2 c2)) ∧ (u.cell? ⟨w.heap.size + 1, 0, none⟩ = some (.slice B1 i1 e1) ∧ u.cell? ⟨w.heap.size + 1, 1, none⟩ = some (.slice B2 i2 e2)) ∧ Below W0.heap.size W0 u)
    (first | exact ⟨⟨x0, x1⟩, ⟨y0, y1⟩, (Below.refl _ _).drew⟩ | assumption)
    (first
      | (go_at_call 35; (with_reducible refine (out_num (a := a) _ (num_far2 H3.out (by assumption)) HA.out (by omega)).mono ?_); rintro e x1 ⟨v1, rfl, hn1, hb1⟩; have N1 := Lib.hid hn1; clear hn1; have hS1 := cells4 hb1 (by assumption))
      | (go_at_call 33; (with_reducible refine (same_nv (a := a) _ (nv_far2 H1.out (by assumption)) N1.out PA.out hj).mono ?_); rintro e x2 ⟨rfl, hb2⟩; have hS2 := cells4 hb2 (by assumption))
      | (go_at_call 35; (with_reducible refine (out_num (a := b) _ (num_far2 H4.out (by assumption)) HB.out (by omega)).mono ?_); rintro e x3 ⟨v3, rfl, hn3, hb3⟩; have N3 := Lib.hid hn3; clear hn3; have hS3 := cells4 hb3 (by assumption))
      | (go_at_call 33; (with_reducible refine (same_nv (a := b) _ (nv_far2 H2.out (by assumption)) N3.out PB.out hj).mono ?_); rintro e x4 ⟨rfl, hb4⟩; have hS4 := cells4 hb4 (by assumption)))
  all_goals
    go_wp2_with fail
    go_ret
    exact ⟨rfl, hbb.trans (hS4.2.2.mono hbb.size)⟩
end Go.Proofs.YtemalomcdiahiaaDoor
