/-
  The document's numbers in digits: Lcm.
-/
import Derived.Test.YtemalomcdiahiaaDoorRefGcd
import Derived.Test.YtemalomcdiahiaaDoorME
import Derived.Deep.DeepCutAuto
namespace Go.Proofs.YtemalomcdiahiaaDoor
open Go.RowKit
set_option maxRecDepth 100000

theorem bcell {W w1 : World} (hb : Below W.heap.size W w1) : (∀ b o, b < W.heap.size → w1.cell? ⟨b, o, none⟩ = W.cell? ⟨b, o, none⟩) ∧ (∀ b o, b < W.heap.size → w1.frozen? ⟨b, o, none⟩ = W.frozen? ⟨b, o, none⟩) :=
  ⟨fun b o h => hb.cell (p := ⟨b, o, none⟩) h, fun b o h => hb.frozen (p := ⟨b, o, none⟩) h⟩
/-- A store into a variable that holds a slice moves no number. -/
theorem num_setS {w : World} {L g n c a : Nat} {A : Option Addr} {v u : Value} (h : Num w L v a) (hg : w.cell? ⟨g, 0, none⟩ = some (.slice A n c)) : Num (w.setCell ⟨g, 0, none⟩ u) L v a := by
  obtain ⟨A', xs, n', c', h1, hl, h2, h3, h4, h5⟩ := h
  refine ⟨A', xs, n', c', h1, hl, h2, ?_, h4, h5⟩
  rw [setCell_size]
  intro hx
  obtain ⟨b, o, e1, e2, e3⟩ := h3 hx
  refine ⟨b, o, e1, e2, fun k hk => ?_⟩
  rw [World.cell?_setCell_other w _ _ u (fun e => by have := e3 k hk; rw [← e, hg] at this; cases this)]
  exact e3 k hk
theorem held2 {wb W W' : World} {p q : Addr} {a b : Value} (hb : Below W.heap.size W W') (h : W.cell? p = some a ∧ W.cell? q = some b ∧ Below wb.heap.size wb W) :
    W'.cell? p = some a ∧ W'.cell? q = some b ∧ Below wb.heap.size wb W' :=
  ⟨(hb.cell (World.block_lt_of_cell? W _ h.1)).trans h.1, (hb.cell (World.block_lt_of_cell? W _ h.2.1)).trans h.2.1, h.2.2.trans (hb.mono h.2.2.size)⟩
theorem held2_set {wb W : World} {p q : Addr} {u v x : Value} {g : Nat} (hg : wb.heap.size ≤ g) (hp : p.block < wb.heap.size) (hq : q.block < wb.heap.size) (h : W.cell? p = some u ∧ W.cell? q = some v ∧ Below wb.heap.size wb W) :
    (W.setCell ⟨g, 0, none⟩ x).cell? p = some u ∧ (W.setCell ⟨g, 0, none⟩ x).cell? q = some v ∧ Below wb.heap.size wb (W.setCell ⟨g, 0, none⟩ x) :=
  ⟨(World.cell?_setCell_other W _ _ _ (fun e => by rw [← e] at hp; simp at hp; omega)).trans h.1, (World.cell?_setCell_other W _ _ _ (fun e => by rw [← e] at hq; simp at hq; omega)).trans h.2.1, h.2.2.setCell hg _⟩
theorem num_far2 {wb W : World} {L : Nat} {v : Value} {n : Nat} {a b : Prop} (hn : Num wb L v n) (hs : a ∧ b ∧ Below wb.heap.size wb W) : Num W L v n := hn.below hs.2.2

theorem num_setN {w : World} {L g a : Nat} {v u : Value} (h : Num w L v a) (hg : w.cell? ⟨g, 0, none⟩ = some (.slice none 0 0)) : Num (w.setCell ⟨g, 0, none⟩ u) L v a := num_setS h hg
theorem thd_of {wb W : World} {p q : Addr} {a b : Value} (h : W.cell? p = some a ∧ W.cell? q = some b ∧ Below wb.heap.size wb W) : Below wb.heap.size wb W := h.2.2
theorem cell_put {w : World} {p : Addr} {u : Value} (h : w.cell? p = some (.slice none 0 0)) : (w.setCell p u).cell? p = some u := World.cell?_setCell_same' _ _ _ (by rw [h]; rfl)
theorem num_zero (w : World) (L : Nat) : Num w L (.agg #[.slice none 0 0]) 0 := ⟨none, [], 0, 0, rfl, rfl, Nat.le_refl _, Rd.nil _ _ _, fun h => absurd rfl h, Can.nil, rfl⟩

set_option maxHeartbeats 8000000 in
theorem refLcm3_any {j : Nat} (A1 A2 : Option Addr) (n1 c1 n2 c2 a b L1 L2 : Nat) (w : World) (h1 : Num w L1 (.agg #[.slice A1 n1 c1]) a) (h2 : Num w L2 (.agg #[.slice A2 n2 c2]) b) (ha : a < 65536 ^ j) (hb : b < 65536 ^ j) (hj : j ≤ 2000) :
    Calls Tryd.prog 62 #[.agg #[.slice A1 n1 c1], .agg #[.slice A2 n2 c2]] w fun e w' => ∃ v, e = .returned v ∧ (∃ L, Num w' L v (Nat.lcm a b)) ∧ Below w.heap.size w w' := by
  have hz1 := num_len3 h1
  have hz2 := num_len3 h2
  have hb0 : Below w.heap.size w (((w.alloc (.cells #[.slice A1 n1 c1] 33)).alloc (.cells #[.slice A2 n2 c2] 33)).alloc (.cells #[.slice none 0 0] 33)) :=
    (((Below.refl _ _).alloc (Nat.le_refl _) _).alloc (by simp) _).alloc (by simp; omega) _
  have q1 := ((Blk.new w 33 #[.slice A1 n1 c1]).alloc (.cells #[.slice A2 n2 c2] 33)).alloc (.cells #[.slice none 0 0] 33)
  have q2 := (Blk.new (w.alloc (.cells #[.slice A1 n1 c1] 33)) 33 #[.slice A2 n2 c2]).alloc (.cells #[.slice none 0 0] 33)
  have q3 := Blk.new ((w.alloc (.cells #[.slice A1 n1 c1] 33)).alloc (.cells #[.slice A2 n2 c2] 33)) 33 #[.slice none 0 0]
  have hx0 := h1.below hb0
  have hy0 := h2.below hb0
  have HX := Lib.hid ha
  have HY := Lib.hid hb
  rcases (show (n1 = 0 ∧ a = 0) ∨ (0 < n1 ∧ 0 < a ∧ n2 = 0 ∧ b = 0) ∨ (0 < n1 ∧ 0 < a ∧ 0 < n2 ∧ 0 < b) by omega) with ⟨rfl, rfl⟩ | ⟨hn, ha0, rfl, rfl⟩ | ⟨hn1, ha0, hn2, hb0'⟩
  · clear hz1 hz2 ha hb hx0 hy0 h1 h2
    go_enter Tryd.func62, Tryd.ntmps62
    go_wp2_with fail
    exact bodyPost_ret (v := .agg #[.slice none 0 0]) (by simp [results, Tryd.results62, go_sem]) rfl ⟨_, rfl, ⟨0, by first | (rw [Nat.lcm_zero_left]; exact num_zero _ _) | (rw [Nat.lcm_zero_right]; exact num_zero _ _)⟩, hb0⟩
  · clear hz1 hz2 ha hb hx0 hy0 h1 h2
    have hnn : ¬ n1 = 0 := by omega
    go_enter Tryd.func62, Tryd.ntmps62
    go_wp2_with fail
    exact bodyPost_ret (v := .agg #[.slice none 0 0]) (by simp [results, Tryd.results62, go_sem]) rfl ⟨_, rfl, ⟨0, by first | (rw [Nat.lcm_zero_left]; exact num_zero _ _) | (rw [Nat.lcm_zero_right]; exact num_zero _ _)⟩, hb0⟩
  · obtain ⟨W0, hW0⟩ : ∃ W0, ((w.alloc (.cells #[.slice A1 n1 c1] 33)).alloc (.cells #[.slice A2 n2 c2] 33)).alloc (.cells #[.slice none 0 0] 33) = W0 := ⟨_, rfl⟩
    have hbm : a * b < 65536 ^ (j + j) := by rw [Nat.pow_add]; exact Nat.mul_lt_mul'' ha hb
    have hgb : Nat.gcd a b < 65536 ^ j := Nat.lt_of_le_of_lt (Nat.le_of_dvd hb0' (Nat.gcd_dvd_right a b)) hb
    have hg0 : 0 < Nat.gcd a b := Nat.gcd_pos_of_pos_left _ ha0
    have HM := Lib.hid hbm
    have HGB := Lib.hid hgb
    have HG0 := Lib.hid hg0
    clear hz1 hz2 ha hb hbm hgb hg0 h1 h2
    rw [hW0] at hx0 hy0 hb0
    have z1b : ((n1 : Int) == 0) = false := by simp; omega
    have z2b : ((n2 : Int) == 0) = false := by simp; omega
    go_enter Tryd.func62, Tryd.ntmps62
    go_upto_region 1 with (fail)
    have e1 : W0.cell? ⟨w.heap.size, 0, none⟩ = some (.slice A1 n1 c1) := by rw [← hW0]; exact q1.cell 0
    have e2 : W0.cell? ⟨w.heap.size + 1, 0, none⟩ = some (.slice A2 n2 c2) := by rw [← hW0]; have := q2.cell 0; simpa using this
    have e3 : W0.cell? ⟨w.heap.size + 1 + 1, 0, none⟩ = some (.slice none 0 0) := by rw [← hW0]; have := q3.cell 0; simpa using this
    have f3 : W0.frozen? ⟨w.heap.size + 1 + 1, 0, none⟩ = false := by rw [← hW0]; have := q3.frozen 0; simpa using this
    have hs0 : w.heap.size + 2 < W0.heap.size := by rw [← hW0]; simp
    have HNX := Lib.hid hx0
    have HNY := Lib.hid hy0
    clear q1 q2 q3 hW0 hx0 hy0
    have h1lt : w.heap.size < W0.heap.size := by omega
    have h2lt : w.heap.size + 1 < W0.heap.size := by omega
    go_upto_region 3 with (fail)
    go_cut [5] (fun p5 wx => ∃ (g5 : Nat) (A5 : Option Addr) (n5 c5 : Nat), p5 = .pointer (some ⟨g5, 0, none⟩) ∧ wx.cell? ⟨g5, 0, none⟩ = some (.slice A5 n5 c5) ∧ Below W0.heap.size W0 wx ∧ (∃ L, Num wx L (.agg #[.slice A5 n5 c5]) (a * b / Nat.gcd a b)))
    case first =>
      go_region_held3 (fun u => u.cell? ⟨w.heap.size, 0, none⟩ = some (.slice A1 n1 c1) ∧ u.cell? ⟨w.heap.size + 1, 0, none⟩ = some (.slice A2 n2 c2) ∧ Below W0.heap.size W0 u)
        (first | exact ⟨e1, e2, (Below.refl _ _).drew⟩ | assumption | exact held2 (b1 _ _) ⟨e1, e2, (Below.refl _ _).drew⟩ | exact held2 (b2 _ _ _) ⟨e1, e2, (Below.refl _ _).drew⟩ | exact held2 (b1 _ _) (by assumption) | exact held2 (b2 _ _ _) (by assumption) | exact held2_set (by first | omega | (simp; omega)) h1lt h2lt (by assumption) | exact held2 (b1 _ _) (held2_set (by first | omega | (simp; omega)) h1lt h2lt (by assumption)) | exact held2_set (by first | omega | (simp; omega)) h1lt h2lt (held2_set (by first | omega | (simp; omega)) h1lt h2lt (by assumption)))
        (first
          | (go_at_call 54; (with_reducible refine (mul_num _ _ a b _ _ _ (num_far2 HNX.out (by assumption)) (num_far2 HNY.out (by assumption)) HX.out HY.out).mono ?_); rintro e u1 ⟨v1, rfl, hn1, hb1⟩; have N1 := Lib.hid hn1; clear hn1; have hz1 := hb1.size; (try simp at hz1); have hS1 := held2 hb1 (by assumption); (try have N2 := Lib.hid (N2.out.below hb1)); (try have N2 := Lib.hid ((N2.out.alloc _).below hb1)); (try have N2 := Lib.hid (((N2.out.alloc _).alloc _).below hb1)); have hq := bcell hb1; obtain ⟨hc1, hf1⟩ := hq; (try have lu1W00 : W0.heap.size < u1.heap.size := by omega); (try have lu1W01 : W0.heap.size + 1 < u1.heap.size := by omega); (try have lu1u20 : u2.heap.size < u1.heap.size := by omega); (try have lu1u21 : u2.heap.size + 1 < u1.heap.size := by omega))
          | (go_at_call 48; (with_reducible refine (refGcd3_any _ _ _ _ _ _ a b _ _ _ (num_far2 HNX.out (by assumption)) (num_far2 HNY.out (by assumption)) HX.out HY.out (by omega)).mono ?_); rintro e u2 ⟨v2, rfl, ⟨L2', hn2⟩, hb2⟩; have N2 := Lib.hid hn2; clear hn2; have hz2 := hb2.size; (try simp at hz2); have hS2 := held2 hb2 (by assumption); (try have N1 := Lib.hid (N1.out.below hb2)); (try have N1 := Lib.hid ((N1.out.alloc _).below hb2)); (try have N1 := Lib.hid (((N1.out.alloc _).alloc _).below hb2)); have hq := bcell hb2; obtain ⟨hc2, hf2⟩ := hq; (try have lu2W00 : W0.heap.size < u2.heap.size := by omega); (try have lu2W01 : W0.heap.size + 1 < u2.heap.size := by omega); (try have lu2u10 : u1.heap.size < u2.heap.size := by omega); (try have lu2u11 : u1.heap.size + 1 < u2.heap.size := by omega))
          | (go_at_call 32; (with_reducible refine (div_num v1 v2 (a * b) (Nat.gcd a b) _ _ _ (by first | exact N1.out | exact N1.out.alloc _ | exact (N1.out.alloc _).alloc _) (by first | exact N2.out | exact N2.out.alloc _ | exact (N2.out.alloc _).alloc _) HM.out HGB.out HG0.out).mono ?_); rintro e u3 ⟨v4, v5, rfl, hn4, hn5, hb3⟩; obtain ⟨A4, n4, c4, rfl⟩ := hn4.shape; obtain ⟨A5, n5, c5, rfl⟩ := hn5.shape; have N4 := Lib.hid hn4; clear hn4 hn5; have hz3 := hb3.size; (try simp at hz3); have hS3 := held2 hb3 (by assumption); have hq := bcell hb3; obtain ⟨hc3, hf3⟩ := hq; (try have lu3W00 : W0.heap.size < u3.heap.size := by omega); (try have lu3W01 : W0.heap.size + 1 < u3.heap.size := by omega); (try have lu3u10 : u1.heap.size < u3.heap.size := by omega); (try have lu3u11 : u1.heap.size + 1 < u3.heap.size := by omega); (try have lu3u20 : u2.heap.size < u3.heap.size := by omega); (try have lu3u21 : u2.heap.size + 1 < u3.heap.size := by omega)))
      all_goals
        go_wp2_with fail
        go_meet
        refine ⟨_, A4, n4, c4, rfl, ?_, thd_of (p := ⟨w.heap.size, 0, none⟩) (a := .slice A1 n1 c1) (q := ⟨w.heap.size + 1, 0, none⟩) (b := .slice A2 n2 c2) (by assumption), ?_⟩
        · first | (go_simp; done) | rfl | exact (World.cell?_setCell_other _ _ _ _ (by intro e; injection e; omega)).trans (cell_put (by go_simp))
        · first
            | exact ⟨_, (N4.out.alloc _).alloc _⟩
            | exact ⟨_, (num_setN N4.out (by first | (go_simp; done) | (rw [World.cell?_setCell_other _ _ _ _ (by intro e; injection e; omega)]; go_simp; done))).alloc _⟩
            | exact ⟨_, num_setN (N4.out.alloc _) (by first | (go_simp; done) | (rw [World.cell?_setCell_other _ _ _ _ (by intro e; injection e; omega)]; go_simp; done))⟩
            | exact ⟨_, num_setN (num_setN N4.out (by first | (go_simp; done) | (rw [World.cell?_setCell_other _ _ _ _ (by intro e; injection e; omega)]; go_simp; done))) (by first | (go_simp; done) | (rw [World.cell?_setCell_other _ _ _ _ (by intro e; injection e; omega)]; go_simp; done))⟩
    case rest =>
      obtain ⟨g5, A5, n5, c5, rfl, c5', hb, ⟨L5, h5⟩⟩ := hcut
      have d3 : wc.cell? ⟨w.heap.size + 1 + 1, 0, none⟩ = some (.slice none 0 0) := (hb.cell (p := ⟨w.heap.size + 1 + 1, 0, none⟩) hs0).trans e3
      have g3 : wc.frozen? ⟨w.heap.size + 1 + 1, 0, none⟩ = false := (hb.frozen (p := ⟨w.heap.size + 1 + 1, 0, none⟩) hs0).trans f3
      have hB := hb0.trans (hb.mono (by omega))
      have H5 := Lib.hid h5
      clear h5 hb HNX HNY e1 e2 e3 f3 h1lt h2lt
      go_wp2_with fail
      have cc : (wc.setCell ⟨w.heap.size + 1 + 1, 0, none⟩ (.slice A5 n5 c5)).cell? ⟨w.heap.size + 1 + 1, 0, none⟩ = some (.slice A5 n5 c5) := World.cell?_setCell_same' _ _ _ (by rw [d3]; rfl)
      exact bodyPost_ret (v := .agg #[.slice A5 n5 c5]) (by simp [results, Tryd.results62, go_sem, cc]) rfl ⟨_, rfl, ⟨_, num_setN H5.out d3⟩, hB.setCell (by show w.heap.size ≤ w.heap.size + 1 + 1; omega) _⟩
end Go.Proofs.YtemalomcdiahiaaDoor
