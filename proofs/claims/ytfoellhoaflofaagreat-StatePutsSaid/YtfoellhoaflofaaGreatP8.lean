/-
  SaidStatePuts, part 8 of 26: what the theorem statePuts_holds reaches.
-/
import Derived.Test.YtfoellhoaflofaaGreatP7
namespace Go.Proofs.YtfoellhoaflofaaGreat
open Go.RowKit
set_option maxRecDepth 100000
theorem lq14_set {α : Type} {cl : α → List Value} {W : World} {A : Option Addr} {xs : List α} {L : Nat} (h : Lq cl W W.heap.size A xs) (hf : Fv L A (fl14 cl xs)) {q : Addr} (hq : q.block < L) (u : Value) : Lq cl (W.setCell q u) (W.setCell q u).heap.size A xs := by
  have h1 := Rv.old h hf hq u
  have h2 : (W.setCell q u).heap.size = W.heap.size := by simp [World.setCell]
  rw [h2]
  exact h1
theorem sa14_set {W : World} {S : Sv14} {A0 A1 A2 A3 A4 : Option Addr} {n0 n1 n2 n3 n4 c0 c1 c2 c3 c4 : Nat} {sq : Int} (h : SA14 W S A0 A1 A2 A3 A4 n0 n1 n2 n3 n4 c0 c1 c2 c3 c4 sq) {L : Nat} (hf : FA14 L S A0 A1 A2 A3 A4) {q : Addr} (hq : q.block < L) (u : Value) : SA14 (W.setCell q u) S A0 A1 A2 A3 A4 n0 n1 n2 n3 n4 c0 c1 c2 c3 c4 sq :=
  ⟨h.l0, h.l1, h.l2, h.l3, h.l4, lq14_set h.r0 hf.f0 hq u, lq14_set h.r1 hf.f1 hq u, lq14_set h.r2 hf.f2 hq u, lq14_set h.r3 hf.f3 hq u, lq14_set h.r4 hf.f4 hq u, h.k0, h.k1, h.k2, h.k3, h.k4, h.m0, h.m1, h.m2, h.m3, h.m4, h.e⟩
/-- A state without what is not used at the lists' ends. -/
def trim14 (S : Sv14) : Sv14 := ⟨cut14 usC S.C, cut14 usT S.T, cut14 usH S.H, cut14 usL S.L, S.Q, S.q⟩
set_option maxHeartbeats 8000000 in
theorem copy14 (v : Value) (S : Sv14) (w : World) (h : St14 w v S) : Calls Tryz.prog 12 #[v] w (RetSt14 w S) := by
  obtain ⟨A0, A1, A2, A3, A4, n0, n1, n2, n3, n4, c0, c1, c2, c3, c4, sq, rfl, hs⟩ := h
  have hb := (b1' w (.cells #[.slice A0 n0 c0, .slice A1 n1 c1, .slice A2 n2 c2, .slice A3 n3 c3, .slice A4 n4 c4, .int .i64 sq] 28)).alloc (by simp) (.cells #[.slice none 0 0, .slice none 0 0, .slice none 0 0, .slice none 0 0, .slice none 0 0, .int .i64 0] 28)
  have hk := (Blk.new w 28 #[.slice A0 n0 c0, .slice A1 n1 c1, .slice A2 n2 c2, .slice A3 n3 c3, .slice A4 n4 c4, .int .i64 sq]).alloc (.cells #[.slice none 0 0, .slice none 0 0, .slice none 0 0, .slice none 0 0, .slice none 0 0, .int .i64 0] 28)
  have hr := Blk.new (w.alloc (.cells #[.slice A0 n0 c0, .slice A1 n1 c1, .slice A2 n2 c2, .slice A3 n3 c3, .slice A4 n4 c4, .int .i64 sq] 28)) 28 #[.slice none 0 0, .slice none 0 0, .slice none 0 0, .slice none 0 0, .slice none 0 0, .int .i64 0]
  rw [show (w.alloc (.cells #[.slice A0 n0 c0, .slice A1 n1 c1, .slice A2 n2 c2, .slice A3 n3 c3, .slice A4 n4 c4, .int .i64 sq] 28)).heap.size = w.heap.size + 1 by simp] at hr
  have hz : ((w.alloc (.cells #[.slice A0 n0 c0, .slice A1 n1 c1, .slice A2 n2 c2, .slice A3 n3 c3, .slice A4 n4 c4, .int .i64 sq] 28)).alloc (.cells #[.slice none 0 0, .slice none 0 0, .slice none 0 0, .slice none 0 0, .slice none 0 0, .int .i64 0] 28)).heap.size = w.heap.size + 2 := by simp
  obtain ⟨W0, hW0⟩ : ∃ W, (w.alloc (.cells #[.slice A0 n0 c0, .slice A1 n1 c1, .slice A2 n2 c2, .slice A3 n3 c3, .slice A4 n4 c4, .int .i64 sq] 28)).alloc (.cells #[.slice none 0 0, .slice none 0 0, .slice none 0 0, .slice none 0 0, .slice none 0 0, .int .i64 0] 28) = W := ⟨_, rfl⟩
  rw [hW0] at hb hk hr hz
  obtain ⟨m0, hm0⟩ : ∃ m, (S.C).length = m := ⟨_, rfl⟩
  obtain ⟨m1, hm1⟩ : ∃ m, (S.T).length = m := ⟨_, rfl⟩
  obtain ⟨m2, hm2⟩ : ∃ m, (S.H).length = m := ⟨_, rfl⟩
  obtain ⟨m3, hm3⟩ : ∃ m, (S.L).length = m := ⟨_, rfl⟩
  obtain ⟨m4, hm4⟩ : ∃ m, (S.Q).length = m := ⟨_, rfl⟩
  have HM0 := Lib.hid hm0
  have HM1 := Lib.hid hm1
  have HM2 := Lib.hid hm2
  have HM3 := Lib.hid hm3
  have HM4 := Lib.hid hm4
  have HS := Lib.hid hs
  have HB0 := Lib.hid hb
  have HK0 := Lib.hid hk
  have HR0 := Lib.hid hr
  have HZ := Lib.hid hz
  have HC0 := Lib.hid (clone14C A0 S.C n0 c0 W0 HS.out.l0 ((HS.out.r0.below HB0.out (Nat.le_refl _)).more HB0.out.size) (by have := HS.out.m0; omega))
  have q0 := hk.cell 0
  clear hs hb hk hr hz hm0 hm1 hm2 hm3 hm4
  go_enter Tryz.func12, Tryz.ntmps12
  go_wp2_with fail
  refine HC0.out.mono ?_
  rintro e u0 ⟨B0, d0, rfl, hcap0, hq0, hf0, hb0⟩
  rw [HM0.out] at hcap0 ⊢
  have hk0 := (HK0.out.below hb0 HK0.out.lt).set_ 0 (.slice B0 m0 d0)
  have kf := (HK0.out.below hb0 HK0.out.lt).frozen 0
  have kc := (HK0.out.below hb0 HK0.out.lt).cell 0
  have hr0 := (HR0.out.below hb0 HR0.out.lt).far (p := ⟨w.heap.size, 0, none⟩) (by simp) (.slice B0 m0 d0)
  have hbn := (HB0.out.trans (hb0.mono HB0.out.size)).setCell (p := ⟨w.heap.size, 0, none⟩) (Nat.le_refl _) (.slice B0 m0 d0)
  have hf02 := fv14_more (L' := w.heap.size + 2) hf0 (by rw [HZ.out]; exact Nat.le_refl _)
  have hzn : w.heap.size + 2 ≤ (u0.setCell ⟨w.heap.size, 0, none⟩ (.slice B0 m0 d0)).heap.size := by
    have h1 := hb0.size
    have h2 : (u0.setCell ⟨w.heap.size, 0, none⟩ (.slice B0 m0 d0)).heap.size = u0.heap.size := by simp [World.setCell]
    have h3 := HZ.out
    omega
  have hl0 := lq14_set hq0 hf02 (q := ⟨w.heap.size, 0, none⟩) (by simp) (.slice B0 m0 d0)
  obtain ⟨W1, hW1⟩ : ∃ W, u0.setCell ⟨w.heap.size, 0, none⟩ (.slice B0 m0 d0) = W := ⟨_, rfl⟩
  rw [hW1] at hk0 hr0 hbn hzn hl0
  have HK1 : Hid (Blk W1 w.heap.size 28 #[.slice B0 m0 d0, .slice A1 n1 c1, .slice A2 n2 c2, .slice A3 n3 c3, .slice A4 n4 c4, .int .i64 sq]) := Lib.hid (by simpa using hk0)
  have HR1 := Lib.hid hr0
  have HB1 := Lib.hid hbn
  have HZ1 := Lib.hid hzn
  have HF0 := Lib.hid hf02
  have HCAP0 := Lib.hid hcap0
  skip
  have HL0 := Lib.hid hl0
  have HC1 := Lib.hid (clone14T A1 S.T n1 c1 W1 HS.out.l1 ((HS.out.r1.below HB1.out (Nat.le_refl _)).more HB1.out.size) (by have := HS.out.m1; omega))
  have r1 := HK1.out.cell 1
  clear HC0 hk0 hr0 hbn hzn hq0 hf0 hf02 hb0 hcap0 hl0
  go_wp2_with fail
  refine HC1.out.mono ?_
  rintro e u1 ⟨B1, d1, rfl, hcap1, hq1, hf1, hb1⟩
  rw [HM1.out] at hcap1 ⊢
  have hk0 := (HK1.out.below hb1 HK1.out.lt).set_ 1 (.slice B1 m1 d1)
  have kf := (HK1.out.below hb1 HK1.out.lt).frozen 1
  have kc := (HK1.out.below hb1 HK1.out.lt).cell 1
  have hr0 := (HR1.out.below hb1 HR1.out.lt).far (p := ⟨w.heap.size, 1, none⟩) (by simp) (.slice B1 m1 d1)
  have hbn := (HB1.out.trans (hb1.mono HB1.out.size)).setCell (p := ⟨w.heap.size, 1, none⟩) (Nat.le_refl _) (.slice B1 m1 d1)
  have hf12 := fv14_more (L' := w.heap.size + 2) hf1 (by exact HZ1.out)
  have hzn : w.heap.size + 2 ≤ (u1.setCell ⟨w.heap.size, 1, none⟩ (.slice B1 m1 d1)).heap.size := by
    have h1 := hb1.size
    have h2 : (u1.setCell ⟨w.heap.size, 1, none⟩ (.slice B1 m1 d1)).heap.size = u1.heap.size := by simp [World.setCell]
    have h3 := HZ1.out
    omega
  have hl0 := lq14_set (HL0.out.step hb1) HF0.out (q := ⟨w.heap.size, 1, none⟩) (by simp) (.slice B1 m1 d1)
  have hl1 := lq14_set hq1 hf12 (q := ⟨w.heap.size, 1, none⟩) (by simp) (.slice B1 m1 d1)
  obtain ⟨W2, hW2⟩ : ∃ W, u1.setCell ⟨w.heap.size, 1, none⟩ (.slice B1 m1 d1) = W := ⟨_, rfl⟩
  rw [hW2] at hk0 hr0 hbn hzn hl0 hl1
  have HK2 : Hid (Blk W2 w.heap.size 28 #[.slice B0 m0 d0, .slice B1 m1 d1, .slice A2 n2 c2, .slice A3 n3 c3, .slice A4 n4 c4, .int .i64 sq]) := Lib.hid (by simpa using hk0)
  have HR2 := Lib.hid hr0
  have HB2 := Lib.hid hbn
  have HZ2 := Lib.hid hzn
  have HF1 := Lib.hid hf12
  have HCAP1 := Lib.hid hcap1
  clear HL0
  have HL0 := Lib.hid hl0
  have HL1 := Lib.hid hl1
  have HC2 := Lib.hid (clone14H A2 S.H n2 c2 W2 HS.out.l2 ((HS.out.r2.below HB2.out (Nat.le_refl _)).more HB2.out.size) (by have := HS.out.m2; omega))
  have r2 := HK2.out.cell 2
  clear HC1 hk0 hr0 hbn hzn hq1 hf1 hf12 hb1 hcap1 hl0 hl1
  go_wp2_with fail
  refine HC2.out.mono ?_
  rintro e u2 ⟨B2, d2, rfl, hcap2, hq2, hf2, hb2⟩
  rw [HM2.out] at hcap2 ⊢
  have hk0 := (HK2.out.below hb2 HK2.out.lt).set_ 2 (.slice B2 m2 d2)
  have kf := (HK2.out.below hb2 HK2.out.lt).frozen 2
  have kc := (HK2.out.below hb2 HK2.out.lt).cell 2
  have hr0 := (HR2.out.below hb2 HR2.out.lt).far (p := ⟨w.heap.size, 2, none⟩) (by simp) (.slice B2 m2 d2)
  have hbn := (HB2.out.trans (hb2.mono HB2.out.size)).setCell (p := ⟨w.heap.size, 2, none⟩) (Nat.le_refl _) (.slice B2 m2 d2)
  have hf22 := fv14_more (L' := w.heap.size + 2) hf2 (by exact HZ2.out)
  have hzn : w.heap.size + 2 ≤ (u2.setCell ⟨w.heap.size, 2, none⟩ (.slice B2 m2 d2)).heap.size := by
    have h1 := hb2.size
    have h2 : (u2.setCell ⟨w.heap.size, 2, none⟩ (.slice B2 m2 d2)).heap.size = u2.heap.size := by simp [World.setCell]
    have h3 := HZ2.out
    omega
  have hl0 := lq14_set (HL0.out.step hb2) HF0.out (q := ⟨w.heap.size, 2, none⟩) (by simp) (.slice B2 m2 d2)
  have hl1 := lq14_set (HL1.out.step hb2) HF1.out (q := ⟨w.heap.size, 2, none⟩) (by simp) (.slice B2 m2 d2)
  have hl2 := lq14_set hq2 hf22 (q := ⟨w.heap.size, 2, none⟩) (by simp) (.slice B2 m2 d2)
  obtain ⟨W3, hW3⟩ : ∃ W, u2.setCell ⟨w.heap.size, 2, none⟩ (.slice B2 m2 d2) = W := ⟨_, rfl⟩
  rw [hW3] at hk0 hr0 hbn hzn hl0 hl1 hl2
  have HK3 : Hid (Blk W3 w.heap.size 28 #[.slice B0 m0 d0, .slice B1 m1 d1, .slice B2 m2 d2, .slice A3 n3 c3, .slice A4 n4 c4, .int .i64 sq]) := Lib.hid (by simpa using hk0)
  have HR3 := Lib.hid hr0
  have HB3 := Lib.hid hbn
  have HZ3 := Lib.hid hzn
  have HF2 := Lib.hid hf22
  have HCAP2 := Lib.hid hcap2
  clear HL0 HL1
  have HL0 := Lib.hid hl0
  have HL1 := Lib.hid hl1
  have HL2 := Lib.hid hl2
  have HC3 := Lib.hid (clone14L A3 S.L n3 c3 W3 HS.out.l3 ((HS.out.r3.below HB3.out (Nat.le_refl _)).more HB3.out.size) (by have := HS.out.m3; omega))
  have r3 := HK3.out.cell 3
  clear HC2 hk0 hr0 hbn hzn hq2 hf2 hf22 hb2 hcap2 hl0 hl1 hl2
  go_wp2_with fail
  refine HC3.out.mono ?_
  rintro e u3 ⟨B3, d3, rfl, hcap3, hq3, hf3, hb3⟩
  rw [HM3.out] at hcap3 ⊢
  have hk0 := (HK3.out.below hb3 HK3.out.lt).set_ 3 (.slice B3 m3 d3)
  have kf := (HK3.out.below hb3 HK3.out.lt).frozen 3
  have kc := (HK3.out.below hb3 HK3.out.lt).cell 3
  have hr0 := (HR3.out.below hb3 HR3.out.lt).far (p := ⟨w.heap.size, 3, none⟩) (by simp) (.slice B3 m3 d3)
  have hbn := (HB3.out.trans (hb3.mono HB3.out.size)).setCell (p := ⟨w.heap.size, 3, none⟩) (Nat.le_refl _) (.slice B3 m3 d3)
  have hf32 := fv14_more (L' := w.heap.size + 2) hf3 (by exact HZ3.out)
  have hzn : w.heap.size + 2 ≤ (u3.setCell ⟨w.heap.size, 3, none⟩ (.slice B3 m3 d3)).heap.size := by
    have h1 := hb3.size
    have h2 : (u3.setCell ⟨w.heap.size, 3, none⟩ (.slice B3 m3 d3)).heap.size = u3.heap.size := by simp [World.setCell]
    have h3 := HZ3.out
    omega
  have hl0 := lq14_set (HL0.out.step hb3) HF0.out (q := ⟨w.heap.size, 3, none⟩) (by simp) (.slice B3 m3 d3)
  have hl1 := lq14_set (HL1.out.step hb3) HF1.out (q := ⟨w.heap.size, 3, none⟩) (by simp) (.slice B3 m3 d3)
  have hl2 := lq14_set (HL2.out.step hb3) HF2.out (q := ⟨w.heap.size, 3, none⟩) (by simp) (.slice B3 m3 d3)
  have hl3 := lq14_set hq3 hf32 (q := ⟨w.heap.size, 3, none⟩) (by simp) (.slice B3 m3 d3)
  obtain ⟨W4, hW4⟩ : ∃ W, u3.setCell ⟨w.heap.size, 3, none⟩ (.slice B3 m3 d3) = W := ⟨_, rfl⟩
  rw [hW4] at hk0 hr0 hbn hzn hl0 hl1 hl2 hl3
  have HK4 : Hid (Blk W4 w.heap.size 28 #[.slice B0 m0 d0, .slice B1 m1 d1, .slice B2 m2 d2, .slice B3 m3 d3, .slice A4 n4 c4, .int .i64 sq]) := Lib.hid (by simpa using hk0)
  have HR4 := Lib.hid hr0
  have HB4 := Lib.hid hbn
  have HZ4 := Lib.hid hzn
  have HF3 := Lib.hid hf32
  have HCAP3 := Lib.hid hcap3
  clear HL0 HL1 HL2
  have HL0 := Lib.hid hl0
  have HL1 := Lib.hid hl1
  have HL2 := Lib.hid hl2
  have HL3 := Lib.hid hl3
  have HC4 := Lib.hid (clone14I A4 S.Q n4 c4 W4 HS.out.l4 ((HS.out.r4.below HB4.out (Nat.le_refl _)).more HB4.out.size) (by have := HS.out.m4; omega))
  have r4 := HK4.out.cell 4
  clear HC3 hk0 hr0 hbn hzn hq3 hf3 hf32 hb3 hcap3 hl0 hl1 hl2 hl3
  go_wp2_with fail
  refine HC4.out.mono ?_
  rintro e u4 ⟨B4, d4, rfl, hcap4, hq4, hf4, hb4⟩
  rw [HM4.out] at hcap4 ⊢
  have hk0 := (HK4.out.below hb4 HK4.out.lt).set_ 4 (.slice B4 m4 d4)
  have kf := (HK4.out.below hb4 HK4.out.lt).frozen 4
  have kc := (HK4.out.below hb4 HK4.out.lt).cell 4
  have hr0 := (HR4.out.below hb4 HR4.out.lt).far (p := ⟨w.heap.size, 4, none⟩) (by simp) (.slice B4 m4 d4)
  have hbn := (HB4.out.trans (hb4.mono HB4.out.size)).setCell (p := ⟨w.heap.size, 4, none⟩) (Nat.le_refl _) (.slice B4 m4 d4)
  have hf42 := fv14_more (L' := w.heap.size + 2) hf4 (by exact HZ4.out)
  have hzn : w.heap.size + 2 ≤ (u4.setCell ⟨w.heap.size, 4, none⟩ (.slice B4 m4 d4)).heap.size := by
    have h1 := hb4.size
    have h2 : (u4.setCell ⟨w.heap.size, 4, none⟩ (.slice B4 m4 d4)).heap.size = u4.heap.size := by simp [World.setCell]
    have h3 := HZ4.out
    omega
  have hl0 := lq14_set (HL0.out.step hb4) HF0.out (q := ⟨w.heap.size, 4, none⟩) (by simp) (.slice B4 m4 d4)
  have hl1 := lq14_set (HL1.out.step hb4) HF1.out (q := ⟨w.heap.size, 4, none⟩) (by simp) (.slice B4 m4 d4)
  have hl2 := lq14_set (HL2.out.step hb4) HF2.out (q := ⟨w.heap.size, 4, none⟩) (by simp) (.slice B4 m4 d4)
  have hl3 := lq14_set (HL3.out.step hb4) HF3.out (q := ⟨w.heap.size, 4, none⟩) (by simp) (.slice B4 m4 d4)
  have hl4 := lq14_set hq4 hf42 (q := ⟨w.heap.size, 4, none⟩) (by simp) (.slice B4 m4 d4)
  obtain ⟨W5, hW5⟩ : ∃ W, u4.setCell ⟨w.heap.size, 4, none⟩ (.slice B4 m4 d4) = W := ⟨_, rfl⟩
  rw [hW5] at hk0 hr0 hbn hzn hl0 hl1 hl2 hl3 hl4
  have HK5 : Hid (Blk W5 w.heap.size 28 #[.slice B0 m0 d0, .slice B1 m1 d1, .slice B2 m2 d2, .slice B3 m3 d3, .slice B4 m4 d4, .int .i64 sq]) := Lib.hid (by simpa using hk0)
  have HR5 := Lib.hid hr0
  have HB5 := Lib.hid hbn
  have HZ5 := Lib.hid hzn
  have HF4 := Lib.hid hf42
  have HCAP4 := Lib.hid hcap4
  clear HL0 HL1 HL2 HL3
  have HL0 := Lib.hid hl0
  have HL1 := Lib.hid hl1
  have HL2 := Lib.hid hl2
  have HL3 := Lib.hid hl3
  have HL4 := Lib.hid hl4
  have r0 := HK5.out.cell 0
  have r1 := HK5.out.cell 1
  have r2 := HK5.out.cell 2
  have r3 := HK5.out.cell 3
  have r4 := HK5.out.cell 4
  have r5 := HK5.out.cell 5
  have y0 := HR5.out.cell 0
  have yf0 := HR5.out.frozen 0
  have y1 := HR5.out.cell 1
  have yf1 := HR5.out.frozen 1
  have y2 := HR5.out.cell 2
  have yf2 := HR5.out.frozen 2
  have y3 := HR5.out.cell 3
  have yf3 := HR5.out.frozen 3
  have y4 := HR5.out.cell 4
  have yf4 := HR5.out.frozen 4
  have y5 := HR5.out.cell 5
  have yf5 := HR5.out.frozen 5
  clear HC4 hk0 hr0 hbn hzn hq4 hf4 hf42 hb4 hcap4 hl0 hl1 hl2 hl3 hl4
  have hk6 : Blk ((((((W5.setCell ⟨w.heap.size + 1, 0, none⟩ (.slice B0 m0 d0)).setCell ⟨w.heap.size + 1, 1, none⟩ (.slice B1 m1 d1)).setCell ⟨w.heap.size + 1, 2, none⟩ (.slice B2 m2 d2)).setCell ⟨w.heap.size + 1, 3, none⟩ (.slice B3 m3 d3)).setCell ⟨w.heap.size + 1, 4, none⟩ (.slice B4 m4 d4)).setCell ⟨w.heap.size + 1, 5, none⟩ (.int .i64 sq)) (w.heap.size + 1) 28 #[.slice B0 m0 d0, .slice B1 m1 d1, .slice B2 m2 d2, .slice B3 m3 d3, .slice B4 m4 d4, .int .i64 sq] := by
    have h := (((((HR5.out.set_ 0 (.slice B0 m0 d0)).set_ 1 (.slice B1 m1 d1)).set_ 2 (.slice B2 m2 d2)).set_ 3 (.slice B3 m3 d3)).set_ 4 (.slice B4 m4 d4)).set_ 5 (.int .i64 sq)
    simpa using h
  have HB6 := Lib.hid (((((((HB5.out.setCell (p := ⟨w.heap.size + 1, 0, none⟩) (by simp) (.slice B0 m0 d0)).setCell (p := ⟨w.heap.size + 1, 1, none⟩) (by simp) (.slice B1 m1 d1)).setCell (p := ⟨w.heap.size + 1, 2, none⟩) (by simp) (.slice B2 m2 d2)).setCell (p := ⟨w.heap.size + 1, 3, none⟩) (by simp) (.slice B3 m3 d3)).setCell (p := ⟨w.heap.size + 1, 4, none⟩) (by simp) (.slice B4 m4 d4)).setCell (p := ⟨w.heap.size + 1, 5, none⟩) (by simp) (.int .i64 sq)))
  have HX0 := Lib.hid (lq14_set (lq14_set (lq14_set (lq14_set (lq14_set (lq14_set HL0.out HF0.out (q := ⟨w.heap.size + 1, 0, none⟩) (by simp) (.slice B0 m0 d0)) HF0.out (q := ⟨w.heap.size + 1, 1, none⟩) (by simp) (.slice B1 m1 d1)) HF0.out (q := ⟨w.heap.size + 1, 2, none⟩) (by simp) (.slice B2 m2 d2)) HF0.out (q := ⟨w.heap.size + 1, 3, none⟩) (by simp) (.slice B3 m3 d3)) HF0.out (q := ⟨w.heap.size + 1, 4, none⟩) (by simp) (.slice B4 m4 d4)) HF0.out (q := ⟨w.heap.size + 1, 5, none⟩) (by simp) (.int .i64 sq))
  have HX1 := Lib.hid (lq14_set (lq14_set (lq14_set (lq14_set (lq14_set (lq14_set HL1.out HF1.out (q := ⟨w.heap.size + 1, 0, none⟩) (by simp) (.slice B0 m0 d0)) HF1.out (q := ⟨w.heap.size + 1, 1, none⟩) (by simp) (.slice B1 m1 d1)) HF1.out (q := ⟨w.heap.size + 1, 2, none⟩) (by simp) (.slice B2 m2 d2)) HF1.out (q := ⟨w.heap.size + 1, 3, none⟩) (by simp) (.slice B3 m3 d3)) HF1.out (q := ⟨w.heap.size + 1, 4, none⟩) (by simp) (.slice B4 m4 d4)) HF1.out (q := ⟨w.heap.size + 1, 5, none⟩) (by simp) (.int .i64 sq))
  have HX2 := Lib.hid (lq14_set (lq14_set (lq14_set (lq14_set (lq14_set (lq14_set HL2.out HF2.out (q := ⟨w.heap.size + 1, 0, none⟩) (by simp) (.slice B0 m0 d0)) HF2.out (q := ⟨w.heap.size + 1, 1, none⟩) (by simp) (.slice B1 m1 d1)) HF2.out (q := ⟨w.heap.size + 1, 2, none⟩) (by simp) (.slice B2 m2 d2)) HF2.out (q := ⟨w.heap.size + 1, 3, none⟩) (by simp) (.slice B3 m3 d3)) HF2.out (q := ⟨w.heap.size + 1, 4, none⟩) (by simp) (.slice B4 m4 d4)) HF2.out (q := ⟨w.heap.size + 1, 5, none⟩) (by simp) (.int .i64 sq))
  have HX3 := Lib.hid (lq14_set (lq14_set (lq14_set (lq14_set (lq14_set (lq14_set HL3.out HF3.out (q := ⟨w.heap.size + 1, 0, none⟩) (by simp) (.slice B0 m0 d0)) HF3.out (q := ⟨w.heap.size + 1, 1, none⟩) (by simp) (.slice B1 m1 d1)) HF3.out (q := ⟨w.heap.size + 1, 2, none⟩) (by simp) (.slice B2 m2 d2)) HF3.out (q := ⟨w.heap.size + 1, 3, none⟩) (by simp) (.slice B3 m3 d3)) HF3.out (q := ⟨w.heap.size + 1, 4, none⟩) (by simp) (.slice B4 m4 d4)) HF3.out (q := ⟨w.heap.size + 1, 5, none⟩) (by simp) (.int .i64 sq))
  have HX4 := Lib.hid (lq14_set (lq14_set (lq14_set (lq14_set (lq14_set (lq14_set HL4.out HF4.out (q := ⟨w.heap.size + 1, 0, none⟩) (by simp) (.slice B0 m0 d0)) HF4.out (q := ⟨w.heap.size + 1, 1, none⟩) (by simp) (.slice B1 m1 d1)) HF4.out (q := ⟨w.heap.size + 1, 2, none⟩) (by simp) (.slice B2 m2 d2)) HF4.out (q := ⟨w.heap.size + 1, 3, none⟩) (by simp) (.slice B3 m3 d3)) HF4.out (q := ⟨w.heap.size + 1, 4, none⟩) (by simp) (.slice B4 m4 d4)) HF4.out (q := ⟨w.heap.size + 1, 5, none⟩) (by simp) (.int .i64 sq))
  have s0 := hk6.cell 0
  have g0 := hk6.frozen 0
  have s1 := hk6.cell 1
  have g1 := hk6.frozen 1
  have s2 := hk6.cell 2
  have g2 := hk6.frozen 2
  have s3 := hk6.cell 3
  have g3 := hk6.frozen 3
  have s4 := hk6.cell 4
  have g4 := hk6.frozen 4
  have s5 := hk6.cell 5
  have g5 := hk6.frozen 5
  clear hk6 HL0 HL1 HL2 HL3 HL4
  go_wp2_with fail
  exact bodyPost_ret (v := .agg #[.slice B0 m0 d0, .slice B1 m1 d1, .slice B2 m2 d2, .slice B3 m3 d3, .slice B4 m4 d4, .int .i64 sq]) (by simp [results, Tryz.results12, go_sem, hW5, s0, s1, s2, s3, s4, s5, g0, g1, g2, g3, g4, g5]) rfl
    ⟨B0, B1, B2, B3, B4, m0, m1, m2, m3, m4, d0, d1, d2, d3, d4, sq, rfl, ⟨HM0.out, HM1.out, HM2.out, HM3.out, HM4.out, HX0.out, HX1.out, HX2.out, HX3.out, HX4.out, HCAP0.out, HCAP1.out, HCAP2.out, HCAP3.out, HCAP4.out, by have h1 := HS.out.m0; have h2 := HS.out.l0; have h3 := HM0.out; omega, by have h1 := HS.out.m1; have h2 := HS.out.l1; have h3 := HM1.out; omega, by have h1 := HS.out.m2; have h2 := HS.out.l2; have h3 := HM2.out; omega, by have h1 := HS.out.m3; have h2 := HS.out.l3; have h3 := HM3.out; omega, by have h1 := HS.out.m4; have h2 := HS.out.l4; have h3 := HM4.out; omega, HS.out.e⟩, ⟨fv14_more HF0.out (by omega), fv14_more HF1.out (by omega), fv14_more HF2.out (by omega), fv14_more HF3.out (by omega), fv14_more HF4.out (by omega)⟩, HB6.out⟩
set_option maxHeartbeats 8000000 in
theorem trimp14 (v : Value) (S : Sv14) (w : World) (h : St14 w v S) : Calls Tryz.prog 13 #[v] w (RetSt14 w (trim14 S)) := by
  obtain ⟨A0, A1, A2, A3, A4, n0, n1, n2, n3, n4, c0, c1, c2, c3, c4, sq, rfl, hs⟩ := h
  have hb := (b1' w (.cells #[.slice A0 n0 c0, .slice A1 n1 c1, .slice A2 n2 c2, .slice A3 n3 c3, .slice A4 n4 c4, .int .i64 sq] 28)).alloc (by simp) (.cells #[.slice none 0 0, .slice none 0 0, .slice none 0 0, .slice none 0 0, .slice none 0 0, .int .i64 0] 28)
  have hk := (Blk.new w 28 #[.slice A0 n0 c0, .slice A1 n1 c1, .slice A2 n2 c2, .slice A3 n3 c3, .slice A4 n4 c4, .int .i64 sq]).alloc (.cells #[.slice none 0 0, .slice none 0 0, .slice none 0 0, .slice none 0 0, .slice none 0 0, .int .i64 0] 28)
  have hr := Blk.new (w.alloc (.cells #[.slice A0 n0 c0, .slice A1 n1 c1, .slice A2 n2 c2, .slice A3 n3 c3, .slice A4 n4 c4, .int .i64 sq] 28)) 28 #[.slice none 0 0, .slice none 0 0, .slice none 0 0, .slice none 0 0, .slice none 0 0, .int .i64 0]
  rw [show (w.alloc (.cells #[.slice A0 n0 c0, .slice A1 n1 c1, .slice A2 n2 c2, .slice A3 n3 c3, .slice A4 n4 c4, .int .i64 sq] 28)).heap.size = w.heap.size + 1 by simp] at hr
  have hz : ((w.alloc (.cells #[.slice A0 n0 c0, .slice A1 n1 c1, .slice A2 n2 c2, .slice A3 n3 c3, .slice A4 n4 c4, .int .i64 sq] 28)).alloc (.cells #[.slice none 0 0, .slice none 0 0, .slice none 0 0, .slice none 0 0, .slice none 0 0, .int .i64 0] 28)).heap.size = w.heap.size + 2 := by simp
  obtain ⟨W0, hW0⟩ : ∃ W, (w.alloc (.cells #[.slice A0 n0 c0, .slice A1 n1 c1, .slice A2 n2 c2, .slice A3 n3 c3, .slice A4 n4 c4, .int .i64 sq] 28)).alloc (.cells #[.slice none 0 0, .slice none 0 0, .slice none 0 0, .slice none 0 0, .slice none 0 0, .int .i64 0] 28) = W := ⟨_, rfl⟩
  rw [hW0] at hb hk hr hz
  obtain ⟨m0, hm0⟩ : ∃ m, (cut14 usC S.C).length = m := ⟨_, rfl⟩
  obtain ⟨m1, hm1⟩ : ∃ m, (cut14 usT S.T).length = m := ⟨_, rfl⟩
  obtain ⟨m2, hm2⟩ : ∃ m, (cut14 usH S.H).length = m := ⟨_, rfl⟩
  obtain ⟨m3, hm3⟩ : ∃ m, (cut14 usL S.L).length = m := ⟨_, rfl⟩
  obtain ⟨m4, hm4⟩ : ∃ m, (S.Q).length = m := ⟨_, rfl⟩
  have HM0 := Lib.hid hm0
  have HM1 := Lib.hid hm1
  have HM2 := Lib.hid hm2
  have HM3 := Lib.hid hm3
  have HM4 := Lib.hid hm4
  have HS := Lib.hid hs
  have HB0 := Lib.hid hb
  have HK0 := Lib.hid hk
  have HR0 := Lib.hid hr
  have HZ := Lib.hid hz
  have HC0 := Lib.hid (cut14C A0 S.C n0 c0 W0 HS.out.l0 HS.out.k0 ((HS.out.r0.below HB0.out (Nat.le_refl _)).more HB0.out.size) (by have := HS.out.m0; omega))
  have q0 := hk.cell 0
  clear hs hb hk hr hz hm0 hm1 hm2 hm3 hm4
  go_enter Tryz.func13, Tryz.ntmps13
  go_wp2_with fail
  refine HC0.out.mono ?_
  rintro e u0 ⟨B0, d0, rfl, hcap0, hq0, hf0, hb0⟩
  rw [HM0.out] at hcap0 ⊢
  have hk0 := (HK0.out.below hb0 HK0.out.lt).set_ 0 (.slice B0 m0 d0)
  have kf := (HK0.out.below hb0 HK0.out.lt).frozen 0
  have kc := (HK0.out.below hb0 HK0.out.lt).cell 0
  have hr0 := (HR0.out.below hb0 HR0.out.lt).far (p := ⟨w.heap.size, 0, none⟩) (by simp) (.slice B0 m0 d0)
  have hbn := (HB0.out.trans (hb0.mono HB0.out.size)).setCell (p := ⟨w.heap.size, 0, none⟩) (Nat.le_refl _) (.slice B0 m0 d0)
  have hf02 := fv14_more (L' := w.heap.size + 2) hf0 (by rw [HZ.out]; exact Nat.le_refl _)
  have hzn : w.heap.size + 2 ≤ (u0.setCell ⟨w.heap.size, 0, none⟩ (.slice B0 m0 d0)).heap.size := by
    have h1 := hb0.size
    have h2 : (u0.setCell ⟨w.heap.size, 0, none⟩ (.slice B0 m0 d0)).heap.size = u0.heap.size := by simp [World.setCell]
    have h3 := HZ.out
    omega
  have hl0 := lq14_set hq0 hf02 (q := ⟨w.heap.size, 0, none⟩) (by simp) (.slice B0 m0 d0)
  obtain ⟨W1, hW1⟩ : ∃ W, u0.setCell ⟨w.heap.size, 0, none⟩ (.slice B0 m0 d0) = W := ⟨_, rfl⟩
  rw [hW1] at hk0 hr0 hbn hzn hl0
  have HK1 : Hid (Blk W1 w.heap.size 28 #[.slice B0 m0 d0, .slice A1 n1 c1, .slice A2 n2 c2, .slice A3 n3 c3, .slice A4 n4 c4, .int .i64 sq]) := Lib.hid (by simpa using hk0)
  have HR1 := Lib.hid hr0
  have HB1 := Lib.hid hbn
  have HZ1 := Lib.hid hzn
  have HF0 := Lib.hid hf02
  have HCAP0 := Lib.hid hcap0
  skip
  have HL0 := Lib.hid hl0
  have HC1 := Lib.hid (cut14T A1 S.T n1 c1 W1 HS.out.l1 HS.out.k1 ((HS.out.r1.below HB1.out (Nat.le_refl _)).more HB1.out.size) (by have := HS.out.m1; omega))
  have r1 := HK1.out.cell 1
  clear HC0 hk0 hr0 hbn hzn hq0 hf0 hf02 hb0 hcap0 hl0
  go_wp2_with fail
  refine HC1.out.mono ?_
  rintro e u1 ⟨B1, d1, rfl, hcap1, hq1, hf1, hb1⟩
  rw [HM1.out] at hcap1 ⊢
  have hk0 := (HK1.out.below hb1 HK1.out.lt).set_ 1 (.slice B1 m1 d1)
  have kf := (HK1.out.below hb1 HK1.out.lt).frozen 1
  have kc := (HK1.out.below hb1 HK1.out.lt).cell 1
  have hr0 := (HR1.out.below hb1 HR1.out.lt).far (p := ⟨w.heap.size, 1, none⟩) (by simp) (.slice B1 m1 d1)
  have hbn := (HB1.out.trans (hb1.mono HB1.out.size)).setCell (p := ⟨w.heap.size, 1, none⟩) (Nat.le_refl _) (.slice B1 m1 d1)
  have hf12 := fv14_more (L' := w.heap.size + 2) hf1 (by exact HZ1.out)
  have hzn : w.heap.size + 2 ≤ (u1.setCell ⟨w.heap.size, 1, none⟩ (.slice B1 m1 d1)).heap.size := by
    have h1 := hb1.size
    have h2 : (u1.setCell ⟨w.heap.size, 1, none⟩ (.slice B1 m1 d1)).heap.size = u1.heap.size := by simp [World.setCell]
    have h3 := HZ1.out
    omega
  have hl0 := lq14_set (HL0.out.step hb1) HF0.out (q := ⟨w.heap.size, 1, none⟩) (by simp) (.slice B1 m1 d1)
  have hl1 := lq14_set hq1 hf12 (q := ⟨w.heap.size, 1, none⟩) (by simp) (.slice B1 m1 d1)
  obtain ⟨W2, hW2⟩ : ∃ W, u1.setCell ⟨w.heap.size, 1, none⟩ (.slice B1 m1 d1) = W := ⟨_, rfl⟩
  rw [hW2] at hk0 hr0 hbn hzn hl0 hl1
  have HK2 : Hid (Blk W2 w.heap.size 28 #[.slice B0 m0 d0, .slice B1 m1 d1, .slice A2 n2 c2, .slice A3 n3 c3, .slice A4 n4 c4, .int .i64 sq]) := Lib.hid (by simpa using hk0)
  have HR2 := Lib.hid hr0
  have HB2 := Lib.hid hbn
  have HZ2 := Lib.hid hzn
  have HF1 := Lib.hid hf12
  have HCAP1 := Lib.hid hcap1
  clear HL0
  have HL0 := Lib.hid hl0
  have HL1 := Lib.hid hl1
  have HC2 := Lib.hid (cut14H A2 S.H n2 c2 W2 HS.out.l2 HS.out.k2 ((HS.out.r2.below HB2.out (Nat.le_refl _)).more HB2.out.size) (by have := HS.out.m2; omega))
  have r2 := HK2.out.cell 2
  clear HC1 hk0 hr0 hbn hzn hq1 hf1 hf12 hb1 hcap1 hl0 hl1
  go_wp2_with fail
  refine HC2.out.mono ?_
  rintro e u2 ⟨B2, d2, rfl, hcap2, hq2, hf2, hb2⟩
  rw [HM2.out] at hcap2 ⊢
  have hk0 := (HK2.out.below hb2 HK2.out.lt).set_ 2 (.slice B2 m2 d2)
  have kf := (HK2.out.below hb2 HK2.out.lt).frozen 2
  have kc := (HK2.out.below hb2 HK2.out.lt).cell 2
  have hr0 := (HR2.out.below hb2 HR2.out.lt).far (p := ⟨w.heap.size, 2, none⟩) (by simp) (.slice B2 m2 d2)
  have hbn := (HB2.out.trans (hb2.mono HB2.out.size)).setCell (p := ⟨w.heap.size, 2, none⟩) (Nat.le_refl _) (.slice B2 m2 d2)
  have hf22 := fv14_more (L' := w.heap.size + 2) hf2 (by exact HZ2.out)
  have hzn : w.heap.size + 2 ≤ (u2.setCell ⟨w.heap.size, 2, none⟩ (.slice B2 m2 d2)).heap.size := by
    have h1 := hb2.size
    have h2 : (u2.setCell ⟨w.heap.size, 2, none⟩ (.slice B2 m2 d2)).heap.size = u2.heap.size := by simp [World.setCell]
    have h3 := HZ2.out
    omega
  have hl0 := lq14_set (HL0.out.step hb2) HF0.out (q := ⟨w.heap.size, 2, none⟩) (by simp) (.slice B2 m2 d2)
  have hl1 := lq14_set (HL1.out.step hb2) HF1.out (q := ⟨w.heap.size, 2, none⟩) (by simp) (.slice B2 m2 d2)
  have hl2 := lq14_set hq2 hf22 (q := ⟨w.heap.size, 2, none⟩) (by simp) (.slice B2 m2 d2)
  obtain ⟨W3, hW3⟩ : ∃ W, u2.setCell ⟨w.heap.size, 2, none⟩ (.slice B2 m2 d2) = W := ⟨_, rfl⟩
  rw [hW3] at hk0 hr0 hbn hzn hl0 hl1 hl2
  have HK3 : Hid (Blk W3 w.heap.size 28 #[.slice B0 m0 d0, .slice B1 m1 d1, .slice B2 m2 d2, .slice A3 n3 c3, .slice A4 n4 c4, .int .i64 sq]) := Lib.hid (by simpa using hk0)
  have HR3 := Lib.hid hr0
  have HB3 := Lib.hid hbn
  have HZ3 := Lib.hid hzn
  have HF2 := Lib.hid hf22
  have HCAP2 := Lib.hid hcap2
  clear HL0 HL1
  have HL0 := Lib.hid hl0
  have HL1 := Lib.hid hl1
  have HL2 := Lib.hid hl2
  have HC3 := Lib.hid (cut14L A3 S.L n3 c3 W3 HS.out.l3 HS.out.k3 ((HS.out.r3.below HB3.out (Nat.le_refl _)).more HB3.out.size) (by have := HS.out.m3; omega))
  have r3 := HK3.out.cell 3
  clear HC2 hk0 hr0 hbn hzn hq2 hf2 hf22 hb2 hcap2 hl0 hl1 hl2
  go_wp2_with fail
  refine HC3.out.mono ?_
  rintro e u3 ⟨B3, d3, rfl, hcap3, hq3, hf3, hb3⟩
  rw [HM3.out] at hcap3 ⊢
  have hk0 := (HK3.out.below hb3 HK3.out.lt).set_ 3 (.slice B3 m3 d3)
  have kf := (HK3.out.below hb3 HK3.out.lt).frozen 3
  have kc := (HK3.out.below hb3 HK3.out.lt).cell 3
  have hr0 := (HR3.out.below hb3 HR3.out.lt).far (p := ⟨w.heap.size, 3, none⟩) (by simp) (.slice B3 m3 d3)
  have hbn := (HB3.out.trans (hb3.mono HB3.out.size)).setCell (p := ⟨w.heap.size, 3, none⟩) (Nat.le_refl _) (.slice B3 m3 d3)
  have hf32 := fv14_more (L' := w.heap.size + 2) hf3 (by exact HZ3.out)
  have hzn : w.heap.size + 2 ≤ (u3.setCell ⟨w.heap.size, 3, none⟩ (.slice B3 m3 d3)).heap.size := by
    have h1 := hb3.size
    have h2 : (u3.setCell ⟨w.heap.size, 3, none⟩ (.slice B3 m3 d3)).heap.size = u3.heap.size := by simp [World.setCell]
    have h3 := HZ3.out
    omega
  have hl0 := lq14_set (HL0.out.step hb3) HF0.out (q := ⟨w.heap.size, 3, none⟩) (by simp) (.slice B3 m3 d3)
  have hl1 := lq14_set (HL1.out.step hb3) HF1.out (q := ⟨w.heap.size, 3, none⟩) (by simp) (.slice B3 m3 d3)
  have hl2 := lq14_set (HL2.out.step hb3) HF2.out (q := ⟨w.heap.size, 3, none⟩) (by simp) (.slice B3 m3 d3)
  have hl3 := lq14_set hq3 hf32 (q := ⟨w.heap.size, 3, none⟩) (by simp) (.slice B3 m3 d3)
  obtain ⟨W4, hW4⟩ : ∃ W, u3.setCell ⟨w.heap.size, 3, none⟩ (.slice B3 m3 d3) = W := ⟨_, rfl⟩
  rw [hW4] at hk0 hr0 hbn hzn hl0 hl1 hl2 hl3
  have HK4 : Hid (Blk W4 w.heap.size 28 #[.slice B0 m0 d0, .slice B1 m1 d1, .slice B2 m2 d2, .slice B3 m3 d3, .slice A4 n4 c4, .int .i64 sq]) := Lib.hid (by simpa using hk0)
  have HR4 := Lib.hid hr0
  have HB4 := Lib.hid hbn
  have HZ4 := Lib.hid hzn
  have HF3 := Lib.hid hf32
  have HCAP3 := Lib.hid hcap3
  clear HL0 HL1 HL2
  have HL0 := Lib.hid hl0
  have HL1 := Lib.hid hl1
  have HL2 := Lib.hid hl2
  have HL3 := Lib.hid hl3
  have HC4 := Lib.hid (clone14I A4 S.Q n4 c4 W4 HS.out.l4 ((HS.out.r4.below HB4.out (Nat.le_refl _)).more HB4.out.size) (by have := HS.out.m4; omega))
  have r4 := HK4.out.cell 4
  clear HC3 hk0 hr0 hbn hzn hq3 hf3 hf32 hb3 hcap3 hl0 hl1 hl2 hl3
  go_wp2_with fail
  refine HC4.out.mono ?_
  rintro e u4 ⟨B4, d4, rfl, hcap4, hq4, hf4, hb4⟩
  rw [HM4.out] at hcap4 ⊢
  have hk0 := (HK4.out.below hb4 HK4.out.lt).set_ 4 (.slice B4 m4 d4)
  have kf := (HK4.out.below hb4 HK4.out.lt).frozen 4
  have kc := (HK4.out.below hb4 HK4.out.lt).cell 4
  have hr0 := (HR4.out.below hb4 HR4.out.lt).far (p := ⟨w.heap.size, 4, none⟩) (by simp) (.slice B4 m4 d4)
  have hbn := (HB4.out.trans (hb4.mono HB4.out.size)).setCell (p := ⟨w.heap.size, 4, none⟩) (Nat.le_refl _) (.slice B4 m4 d4)
  have hf42 := fv14_more (L' := w.heap.size + 2) hf4 (by exact HZ4.out)
  have hzn : w.heap.size + 2 ≤ (u4.setCell ⟨w.heap.size, 4, none⟩ (.slice B4 m4 d4)).heap.size := by
    have h1 := hb4.size
    have h2 : (u4.setCell ⟨w.heap.size, 4, none⟩ (.slice B4 m4 d4)).heap.size = u4.heap.size := by simp [World.setCell]
    have h3 := HZ4.out
    omega
  have hl0 := lq14_set (HL0.out.step hb4) HF0.out (q := ⟨w.heap.size, 4, none⟩) (by simp) (.slice B4 m4 d4)
  have hl1 := lq14_set (HL1.out.step hb4) HF1.out (q := ⟨w.heap.size, 4, none⟩) (by simp) (.slice B4 m4 d4)
  have hl2 := lq14_set (HL2.out.step hb4) HF2.out (q := ⟨w.heap.size, 4, none⟩) (by simp) (.slice B4 m4 d4)
  have hl3 := lq14_set (HL3.out.step hb4) HF3.out (q := ⟨w.heap.size, 4, none⟩) (by simp) (.slice B4 m4 d4)
  have hl4 := lq14_set hq4 hf42 (q := ⟨w.heap.size, 4, none⟩) (by simp) (.slice B4 m4 d4)
  obtain ⟨W5, hW5⟩ : ∃ W, u4.setCell ⟨w.heap.size, 4, none⟩ (.slice B4 m4 d4) = W := ⟨_, rfl⟩
  rw [hW5] at hk0 hr0 hbn hzn hl0 hl1 hl2 hl3 hl4
  have HK5 : Hid (Blk W5 w.heap.size 28 #[.slice B0 m0 d0, .slice B1 m1 d1, .slice B2 m2 d2, .slice B3 m3 d3, .slice B4 m4 d4, .int .i64 sq]) := Lib.hid (by simpa using hk0)
  have HR5 := Lib.hid hr0
  have HB5 := Lib.hid hbn
  have HZ5 := Lib.hid hzn
  have HF4 := Lib.hid hf42
  have HCAP4 := Lib.hid hcap4
  clear HL0 HL1 HL2 HL3
  have HL0 := Lib.hid hl0
  have HL1 := Lib.hid hl1
  have HL2 := Lib.hid hl2
  have HL3 := Lib.hid hl3
  have HL4 := Lib.hid hl4
  have r0 := HK5.out.cell 0
  have r1 := HK5.out.cell 1
  have r2 := HK5.out.cell 2
  have r3 := HK5.out.cell 3
  have r4 := HK5.out.cell 4
  have r5 := HK5.out.cell 5
  have y0 := HR5.out.cell 0
  have yf0 := HR5.out.frozen 0
  have y1 := HR5.out.cell 1
  have yf1 := HR5.out.frozen 1
  have y2 := HR5.out.cell 2
  have yf2 := HR5.out.frozen 2
  have y3 := HR5.out.cell 3
  have yf3 := HR5.out.frozen 3
  have y4 := HR5.out.cell 4
  have yf4 := HR5.out.frozen 4
  have y5 := HR5.out.cell 5
  have yf5 := HR5.out.frozen 5
  clear HC4 hk0 hr0 hbn hzn hq4 hf4 hf42 hb4 hcap4 hl0 hl1 hl2 hl3 hl4
  have hk6 : Blk ((((((W5.setCell ⟨w.heap.size + 1, 0, none⟩ (.slice B0 m0 d0)).setCell ⟨w.heap.size + 1, 1, none⟩ (.slice B1 m1 d1)).setCell ⟨w.heap.size + 1, 2, none⟩ (.slice B2 m2 d2)).setCell ⟨w.heap.size + 1, 3, none⟩ (.slice B3 m3 d3)).setCell ⟨w.heap.size + 1, 4, none⟩ (.slice B4 m4 d4)).setCell ⟨w.heap.size + 1, 5, none⟩ (.int .i64 sq)) (w.heap.size + 1) 28 #[.slice B0 m0 d0, .slice B1 m1 d1, .slice B2 m2 d2, .slice B3 m3 d3, .slice B4 m4 d4, .int .i64 sq] := by
    have h := (((((HR5.out.set_ 0 (.slice B0 m0 d0)).set_ 1 (.slice B1 m1 d1)).set_ 2 (.slice B2 m2 d2)).set_ 3 (.slice B3 m3 d3)).set_ 4 (.slice B4 m4 d4)).set_ 5 (.int .i64 sq)
    simpa using h
  have HB6 := Lib.hid (((((((HB5.out.setCell (p := ⟨w.heap.size + 1, 0, none⟩) (by simp) (.slice B0 m0 d0)).setCell (p := ⟨w.heap.size + 1, 1, none⟩) (by simp) (.slice B1 m1 d1)).setCell (p := ⟨w.heap.size + 1, 2, none⟩) (by simp) (.slice B2 m2 d2)).setCell (p := ⟨w.heap.size + 1, 3, none⟩) (by simp) (.slice B3 m3 d3)).setCell (p := ⟨w.heap.size + 1, 4, none⟩) (by simp) (.slice B4 m4 d4)).setCell (p := ⟨w.heap.size + 1, 5, none⟩) (by simp) (.int .i64 sq)))
  have HX0 := Lib.hid (lq14_set (lq14_set (lq14_set (lq14_set (lq14_set (lq14_set HL0.out HF0.out (q := ⟨w.heap.size + 1, 0, none⟩) (by simp) (.slice B0 m0 d0)) HF0.out (q := ⟨w.heap.size + 1, 1, none⟩) (by simp) (.slice B1 m1 d1)) HF0.out (q := ⟨w.heap.size + 1, 2, none⟩) (by simp) (.slice B2 m2 d2)) HF0.out (q := ⟨w.heap.size + 1, 3, none⟩) (by simp) (.slice B3 m3 d3)) HF0.out (q := ⟨w.heap.size + 1, 4, none⟩) (by simp) (.slice B4 m4 d4)) HF0.out (q := ⟨w.heap.size + 1, 5, none⟩) (by simp) (.int .i64 sq))
  have HX1 := Lib.hid (lq14_set (lq14_set (lq14_set (lq14_set (lq14_set (lq14_set HL1.out HF1.out (q := ⟨w.heap.size + 1, 0, none⟩) (by simp) (.slice B0 m0 d0)) HF1.out (q := ⟨w.heap.size + 1, 1, none⟩) (by simp) (.slice B1 m1 d1)) HF1.out (q := ⟨w.heap.size + 1, 2, none⟩) (by simp) (.slice B2 m2 d2)) HF1.out (q := ⟨w.heap.size + 1, 3, none⟩) (by simp) (.slice B3 m3 d3)) HF1.out (q := ⟨w.heap.size + 1, 4, none⟩) (by simp) (.slice B4 m4 d4)) HF1.out (q := ⟨w.heap.size + 1, 5, none⟩) (by simp) (.int .i64 sq))
  have HX2 := Lib.hid (lq14_set (lq14_set (lq14_set (lq14_set (lq14_set (lq14_set HL2.out HF2.out (q := ⟨w.heap.size + 1, 0, none⟩) (by simp) (.slice B0 m0 d0)) HF2.out (q := ⟨w.heap.size + 1, 1, none⟩) (by simp) (.slice B1 m1 d1)) HF2.out (q := ⟨w.heap.size + 1, 2, none⟩) (by simp) (.slice B2 m2 d2)) HF2.out (q := ⟨w.heap.size + 1, 3, none⟩) (by simp) (.slice B3 m3 d3)) HF2.out (q := ⟨w.heap.size + 1, 4, none⟩) (by simp) (.slice B4 m4 d4)) HF2.out (q := ⟨w.heap.size + 1, 5, none⟩) (by simp) (.int .i64 sq))
  have HX3 := Lib.hid (lq14_set (lq14_set (lq14_set (lq14_set (lq14_set (lq14_set HL3.out HF3.out (q := ⟨w.heap.size + 1, 0, none⟩) (by simp) (.slice B0 m0 d0)) HF3.out (q := ⟨w.heap.size + 1, 1, none⟩) (by simp) (.slice B1 m1 d1)) HF3.out (q := ⟨w.heap.size + 1, 2, none⟩) (by simp) (.slice B2 m2 d2)) HF3.out (q := ⟨w.heap.size + 1, 3, none⟩) (by simp) (.slice B3 m3 d3)) HF3.out (q := ⟨w.heap.size + 1, 4, none⟩) (by simp) (.slice B4 m4 d4)) HF3.out (q := ⟨w.heap.size + 1, 5, none⟩) (by simp) (.int .i64 sq))
  have HX4 := Lib.hid (lq14_set (lq14_set (lq14_set (lq14_set (lq14_set (lq14_set HL4.out HF4.out (q := ⟨w.heap.size + 1, 0, none⟩) (by simp) (.slice B0 m0 d0)) HF4.out (q := ⟨w.heap.size + 1, 1, none⟩) (by simp) (.slice B1 m1 d1)) HF4.out (q := ⟨w.heap.size + 1, 2, none⟩) (by simp) (.slice B2 m2 d2)) HF4.out (q := ⟨w.heap.size + 1, 3, none⟩) (by simp) (.slice B3 m3 d3)) HF4.out (q := ⟨w.heap.size + 1, 4, none⟩) (by simp) (.slice B4 m4 d4)) HF4.out (q := ⟨w.heap.size + 1, 5, none⟩) (by simp) (.int .i64 sq))
  have s0 := hk6.cell 0
  have g0 := hk6.frozen 0
  have s1 := hk6.cell 1
  have g1 := hk6.frozen 1
  have s2 := hk6.cell 2
  have g2 := hk6.frozen 2
  have s3 := hk6.cell 3
  have g3 := hk6.frozen 3
  have s4 := hk6.cell 4
  have g4 := hk6.frozen 4
  have s5 := hk6.cell 5
  have g5 := hk6.frozen 5
  clear hk6 HL0 HL1 HL2 HL3 HL4
  go_wp2_with fail
  exact bodyPost_ret (v := .agg #[.slice B0 m0 d0, .slice B1 m1 d1, .slice B2 m2 d2, .slice B3 m3 d3, .slice B4 m4 d4, .int .i64 sq]) (by simp [results, Tryz.results13, go_sem, hW5, s0, s1, s2, s3, s4, s5, g0, g1, g2, g3, g4, g5]) rfl
    ⟨B0, B1, B2, B3, B4, m0, m1, m2, m3, m4, d0, d1, d2, d3, d4, sq, rfl, ⟨HM0.out, HM1.out, HM2.out, HM3.out, HM4.out, HX0.out, HX1.out, HX2.out, HX3.out, HX4.out, HCAP0.out, HCAP1.out, HCAP2.out, HCAP3.out, HCAP4.out, by have h1 := HS.out.m0; have h2 := HS.out.l0; have h3 := HM0.out; rw [cut14_len, h2] at h3; have h4 := en14_le usC S.C n0; omega, by have h1 := HS.out.m1; have h2 := HS.out.l1; have h3 := HM1.out; rw [cut14_len, h2] at h3; have h4 := en14_le usT S.T n1; omega, by have h1 := HS.out.m2; have h2 := HS.out.l2; have h3 := HM2.out; rw [cut14_len, h2] at h3; have h4 := en14_le usH S.H n2; omega, by have h1 := HS.out.m3; have h2 := HS.out.l3; have h3 := HM3.out; rw [cut14_len, h2] at h3; have h4 := en14_le usL S.L n3; omega, by have h1 := HS.out.m4; have h2 := HS.out.l4; have h3 := HM4.out; omega, HS.out.e⟩, ⟨fv14_more HF0.out (by omega), fv14_more HF1.out (by omega), fv14_more HF2.out (by omega), fv14_more HF3.out (by omega), fv14_more HF4.out (by omega)⟩, HB6.out⟩
end Go.Proofs.YtfoellhoaflofaaGreat
