/-
  SaidStatePuts, part 9 of 26: what the theorem statePuts_holds reaches.
-/
import Derived.Test.YtfoellhoaflofaaGreatP8
namespace Go.Proofs.YtfoellhoaflofaaGreat
open Go.RowKit
set_option maxRecDepth 100000
def putCoin14 (S : Sv14) (i : Int) (x : Bool) : Sv14 := if 0 ≤ i ∧ i < 16 then trim14 { S with C := put14 S.C i.toNat x } else S
set_option maxHeartbeats 8000000 in
theorem putCoin14_any (v : Value) (S : Sv14) (i : Int) (xu : Bool) (w : World) (h : St14 w v S) : Calls Tryz.prog 20 #[v, .int .i64 i, .bool xu] w (RetSt14 w (putCoin14 S i xu)) := by
  obtain ⟨A0, A1, A2, A3, A4, n0, n1, n2, n3, n4, c0, c1, c2, c3, c4, sq, rfl, hs⟩ := h
  have hb : Below w.heap.size w ((w.alloc (.cells #[.slice A0 n0 c0, .slice A1 n1 c1, .slice A2 n2 c2, .slice A3 n3 c3, .slice A4 n4 c4, .int .i64 sq] 28)).alloc (.cells #[.slice none 0 0, .slice none 0 0, .slice none 0 0, .slice none 0 0, .slice none 0 0, .int .i64 0] 28)) := by
    refine Below.alloc ?_ (by simp) _
    exact b1' w _
  have hr : Blk ((w.alloc (.cells #[.slice A0 n0 c0, .slice A1 n1 c1, .slice A2 n2 c2, .slice A3 n3 c3, .slice A4 n4 c4, .int .i64 sq] 28)).alloc (.cells #[.slice none 0 0, .slice none 0 0, .slice none 0 0, .slice none 0 0, .slice none 0 0, .int .i64 0] 28)) (w.heap.size + 1) 28 #[.slice none 0 0, .slice none 0 0, .slice none 0 0, .slice none 0 0, .slice none 0 0, .int .i64 0] := by
    have h := Blk.new (w.alloc (.cells #[.slice A0 n0 c0, .slice A1 n1 c1, .slice A2 n2 c2, .slice A3 n3 c3, .slice A4 n4 c4, .int .i64 sq] 28)) 28 #[.slice none 0 0, .slice none 0 0, .slice none 0 0, .slice none 0 0, .slice none 0 0, .int .i64 0]
    rwa [show (w.alloc (.cells #[.slice A0 n0 c0, .slice A1 n1 c1, .slice A2 n2 c2, .slice A3 n3 c3, .slice A4 n4 c4, .int .i64 sq] 28)).heap.size = w.heap.size + 1 by simp] at h
  have hk : Blk ((w.alloc (.cells #[.slice A0 n0 c0, .slice A1 n1 c1, .slice A2 n2 c2, .slice A3 n3 c3, .slice A4 n4 c4, .int .i64 sq] 28)).alloc (.cells #[.slice none 0 0, .slice none 0 0, .slice none 0 0, .slice none 0 0, .slice none 0 0, .int .i64 0] 28)) w.heap.size 28 #[.slice A0 n0 c0, .slice A1 n1 c1, .slice A2 n2 c2, .slice A3 n3 c3, .slice A4 n4 c4, .int .i64 sq] := (Blk.new w 28 #[.slice A0 n0 c0, .slice A1 n1 c1, .slice A2 n2 c2, .slice A3 n3 c3, .slice A4 n4 c4, .int .i64 sq]).alloc _
  have hz : ((w.alloc (.cells #[.slice A0 n0 c0, .slice A1 n1 c1, .slice A2 n2 c2, .slice A3 n3 c3, .slice A4 n4 c4, .int .i64 sq] 28)).alloc (.cells #[.slice none 0 0, .slice none 0 0, .slice none 0 0, .slice none 0 0, .slice none 0 0, .int .i64 0] 28)).heap.size = w.heap.size + 1 + 1 := by simp
  obtain ⟨W0, hW0⟩ : ∃ W, ((w.alloc (.cells #[.slice A0 n0 c0, .slice A1 n1 c1, .slice A2 n2 c2, .slice A3 n3 c3, .slice A4 n4 c4, .int .i64 sq] 28)).alloc (.cells #[.slice none 0 0, .slice none 0 0, .slice none 0 0, .slice none 0 0, .slice none 0 0, .int .i64 0] 28)) = W := ⟨_, rfl⟩
  rw [hW0] at hb hk hr hz
  by_cases hin : 0 ≤ i ∧ i < 16
  · obtain ⟨k, rfl⟩ : ∃ k : Nat, i = (k : Int) := ⟨i.toNat, by omega⟩
    have HW := Lib.hid (fun W => within14 (k : Int) 16 true (by simpa using hin) W)
    have hpe : putCoin14 S (k : Int) xu = trim14 { S with C := put14 S.C k xu } := by unfold putCoin14; rw [if_pos hin]; simp
    rw [hpe]
    obtain ⟨m, hm⟩ : ∃ m, (put14 S.C k xu).length = m := ⟨_, rfl⟩
    have hmb : m ≤ 1000 := by
      rw [← hm, put14_len, hs.l0]
      have := hs.m0
      omega
    have HM := Lib.hid hm
    have HMB := Lib.hid hmb
    have HPUT := Lib.hid (put14C A0 S.C n0 c0 k xu W0 hs.l0 ((hs.r0.below hb (Nat.le_refl _)).more hb.size) (by have := hs.m0; omega) (by omega))
    have HS := Lib.hid hs
    have HB0 := Lib.hid hb
    have HK0 := Lib.hid hk
    have HR0 := Lib.hid hr
    have HZ := Lib.hid hz
    have j0 := hk.cell 0
    clear hs hb hk hr hz hm hmb hpe
    go_enter Tryz.func20, Tryz.ntmps20
    go_wp2_with fail
    refine (HW.out _).mono ?_
    rintro e w9 ⟨rfl, rfl⟩
    clear HW
    go_wp2_with fail
    refine HPUT.out.mono ?_
    rintro e u ⟨B, dd, rfl, hcap, hq, hf, hb⟩
    rw [HM.out] at hcap ⊢
    have hk1 := (HK0.out.below hb HK0.out.lt).set_ 0 (.slice B m dd)
    have kc := (HK0.out.below hb HK0.out.lt).cell 0
    have kf := (HK0.out.below hb HK0.out.lt).frozen 0
    have hr1 := (HR0.out.below hb HR0.out.lt).far (p := ⟨w.heap.size, 0, none⟩) (by simp) (.slice B m dd)
    have hbn := (HB0.out.trans (hb.mono HB0.out.size)).setCell (p := ⟨w.heap.size, 0, none⟩) (Nat.le_refl _) (.slice B m dd)
    have hlq := lq14_set hq hf (q := ⟨w.heap.size, 0, none⟩) (by rw [HZ.out]; simp; omega) (.slice B m dd)
    have hzu : (u.setCell ⟨w.heap.size, 0, none⟩ (.slice B m dd)).heap.size = u.heap.size := by simp [World.setCell]
    have hzn : w.heap.size + 1 + 1 ≤ (u.setCell ⟨w.heap.size, 0, none⟩ (.slice B m dd)).heap.size := by rw [hzu, ← HZ.out]; exact hb.size
    obtain ⟨W1, hW1⟩ : ∃ W, u.setCell ⟨w.heap.size, 0, none⟩ (.slice B m dd) = W := ⟨_, rfl⟩
    rw [hW1] at hk1 hr1 hbn hlq hzn
    have hk2 : Blk W1 w.heap.size 28 #[.slice B m dd, .slice A1 n1 c1, .slice A2 n2 c2, .slice A3 n3 c3, .slice A4 n4 c4, .int .i64 sq] := by simpa using hk1
    have t0 := hk2.cell 0
    have t1 := hk2.cell 1
    have t2 := hk2.cell 2
    have t3 := hk2.cell 3
    have t4 := hk2.cell 4
    have t5 := hk2.cell 5
    have hold := fun {α : Type} {cl : α → List Value} {A : Option Addr} {l : List α} (h : Lq cl w w.heap.size A l) => (h.below hbn (Nat.le_refl _)).more hbn.size
    have HT := Lib.hid (trimp14 (.agg #[.slice B m dd, .slice A1 n1 c1, .slice A2 n2 c2, .slice A3 n3 c3, .slice A4 n4 c4, .int .i64 sq]) ({ S with C := put14 S.C k xu }) W1 ⟨B, A1, A2, A3, A4, m, n1, n2, n3, n4, dd, c1, c2, c3, c4, sq, rfl, ⟨HM.out, HS.out.l1, HS.out.l2, HS.out.l3, HS.out.l4, hlq, hold HS.out.r1, hold HS.out.r2, hold HS.out.r3, hold HS.out.r4, hcap, HS.out.k1, HS.out.k2, HS.out.k3, HS.out.k4, HMB.out, HS.out.m1, HS.out.m2, HS.out.m3, HS.out.m4, HS.out.e⟩⟩)
    have HR1 := Lib.hid hr1
    have HBN := Lib.hid hbn
    have HZN := Lib.hid hzn
    clear hk1 hk2 hr1 hbn hlq hzu hzn hcap hq hf hb HPUT hold
    go_wp2_with fail
    refine HT.out.mono ?_
    rintro e w2 ⟨B0, B1, B2, B3, B4, m0, m1, m2, m3, m4, d0, d1, d2, d3, d4, sr, rfl, hs2, hf2, hb2⟩
    have hR := HR1.out.below hb2 HR1.out.lt
    have hB := HBN.out.trans (hb2.mono HBN.out.size)
    clear HT hb2
    have hk6 : Blk ((((((w2.setCell ⟨w.heap.size + 1, 0, none⟩ (.slice B0 m0 d0)).setCell ⟨w.heap.size + 1, 1, none⟩ (.slice B1 m1 d1)).setCell ⟨w.heap.size + 1, 2, none⟩ (.slice B2 m2 d2)).setCell ⟨w.heap.size + 1, 3, none⟩ (.slice B3 m3 d3)).setCell ⟨w.heap.size + 1, 4, none⟩ (.slice B4 m4 d4)).setCell ⟨w.heap.size + 1, 5, none⟩ (.int .i64 sr)) (w.heap.size + 1) 28 #[.slice B0 m0 d0, .slice B1 m1 d1, .slice B2 m2 d2, .slice B3 m3 d3, .slice B4 m4 d4, .int .i64 sr] := by
      have h := (((((hR.set_ 0 (.slice B0 m0 d0)).set_ 1 (.slice B1 m1 d1)).set_ 2 (.slice B2 m2 d2)).set_ 3 (.slice B3 m3 d3)).set_ 4 (.slice B4 m4 d4)).set_ 5 (.int .i64 sr)
      simpa using h
    have HB6 := Lib.hid ((((((hB.setCell (p := ⟨w.heap.size + 1, 0, none⟩) (by simp) (.slice B0 m0 d0)).setCell (p := ⟨w.heap.size + 1, 1, none⟩) (by simp) (.slice B1 m1 d1)).setCell (p := ⟨w.heap.size + 1, 2, none⟩) (by simp) (.slice B2 m2 d2)).setCell (p := ⟨w.heap.size + 1, 3, none⟩) (by simp) (.slice B3 m3 d3)).setCell (p := ⟨w.heap.size + 1, 4, none⟩) (by simp) (.slice B4 m4 d4)).setCell (p := ⟨w.heap.size + 1, 5, none⟩) (by simp) (.int .i64 sr))
    have HX := Lib.hid (sa14_set (sa14_set (sa14_set (sa14_set (sa14_set (sa14_set hs2 hf2 (q := ⟨w.heap.size + 1, 0, none⟩) (by have := HZN.out; simp; omega) (.slice B0 m0 d0)) hf2 (q := ⟨w.heap.size + 1, 1, none⟩) (by have := HZN.out; simp; omega) (.slice B1 m1 d1)) hf2 (q := ⟨w.heap.size + 1, 2, none⟩) (by have := HZN.out; simp; omega) (.slice B2 m2 d2)) hf2 (q := ⟨w.heap.size + 1, 3, none⟩) (by have := HZN.out; simp; omega) (.slice B3 m3 d3)) hf2 (q := ⟨w.heap.size + 1, 4, none⟩) (by have := HZN.out; simp; omega) (.slice B4 m4 d4)) hf2 (q := ⟨w.heap.size + 1, 5, none⟩) (by have := HZN.out; simp; omega) (.int .i64 sr))
    have y0 := hR.cell 0
    have yf0 := hR.frozen 0
    have y1 := hR.cell 1
    have yf1 := hR.frozen 1
    have y2 := hR.cell 2
    have yf2 := hR.frozen 2
    have y3 := hR.cell 3
    have yf3 := hR.frozen 3
    have y4 := hR.cell 4
    have yf4 := hR.frozen 4
    have y5 := hR.cell 5
    have yf5 := hR.frozen 5
    have s0 := hk6.cell 0
    have g0 := hk6.frozen 0
    have s1 := hk6.cell 1
    have g1 := hk6.frozen 1
    have s2 := hk6.cell 2
    have g2 := hk6.frozen 2
    have s3 := hk6.cell 3
    have g3 := hk6.frozen 3
    have s4 := hk6.cell 4
    have g4 := hk6.frozen 4
    have s5 := hk6.cell 5
    have g5 := hk6.frozen 5
    have HF2 := Lib.hid (hf2.more (L' := w.heap.size) HBN.out.size)
    clear hk6 hB hs2 hf2 hR
    go_wp2_with fail
    exact bodyPost_ret (v := .agg #[.slice B0 m0 d0, .slice B1 m1 d1, .slice B2 m2 d2, .slice B3 m3 d3, .slice B4 m4 d4, .int .i64 sr]) (by simp [results, Tryz.results20, go_sem, s0, s1, s2, s3, s4, s5, g0, g1, g2, g3, g4, g5]) rfl ⟨B0, B1, B2, B3, B4, m0, m1, m2, m3, m4, d0, d1, d2, d3, d4, sr, rfl, HX.out, HF2.out, HB6.out⟩
  · have HW := Lib.hid (fun W => within14 i 16 false (by simpa using hin) W)
    have hpe : putCoin14 S i xu = S := by unfold putCoin14; rw [if_neg hin]
    rw [hpe]
    have HT := Lib.hid (copy14 (.agg #[.slice A0 n0 c0, .slice A1 n1 c1, .slice A2 n2 c2, .slice A3 n3 c3, .slice A4 n4 c4, .int .i64 sq]) S W0 ⟨A0, A1, A2, A3, A4, n0, n1, n2, n3, n4, c0, c1, c2, c3, c4, sq, rfl, ⟨hs.l0, hs.l1, hs.l2, hs.l3, hs.l4, ((hs.r0.below hb (Nat.le_refl _)).more hb.size), ((hs.r1.below hb (Nat.le_refl _)).more hb.size), ((hs.r2.below hb (Nat.le_refl _)).more hb.size), ((hs.r3.below hb (Nat.le_refl _)).more hb.size), ((hs.r4.below hb (Nat.le_refl _)).more hb.size), hs.k0, hs.k1, hs.k2, hs.k3, hs.k4, hs.m0, hs.m1, hs.m2, hs.m3, hs.m4, hs.e⟩⟩)
    have HB0 := Lib.hid hb
    have HR0 := Lib.hid hr
    have HZ := Lib.hid hz
    have t0 := hk.cell 0
    have t1 := hk.cell 1
    have t2 := hk.cell 2
    have t3 := hk.cell 3
    have t4 := hk.cell 4
    have t5 := hk.cell 5
    clear hs hb hk hr hz hpe hin
    go_enter Tryz.func20, Tryz.ntmps20
    go_wp2_with fail
    refine (HW.out _).mono ?_
    rintro e w9 ⟨rfl, rfl⟩
    clear HW
    go_wp2_with fail
    refine HT.out.mono ?_
    rintro e w2 ⟨B0, B1, B2, B3, B4, m0, m1, m2, m3, m4, d0, d1, d2, d3, d4, sr, rfl, hs2, hf2, hb2⟩
    have hR := HR0.out.below hb2 HR0.out.lt
    have hB := HB0.out.trans (hb2.mono HB0.out.size)
    clear HT hb2
    have hk6 : Blk ((((((w2.setCell ⟨w.heap.size + 1, 0, none⟩ (.slice B0 m0 d0)).setCell ⟨w.heap.size + 1, 1, none⟩ (.slice B1 m1 d1)).setCell ⟨w.heap.size + 1, 2, none⟩ (.slice B2 m2 d2)).setCell ⟨w.heap.size + 1, 3, none⟩ (.slice B3 m3 d3)).setCell ⟨w.heap.size + 1, 4, none⟩ (.slice B4 m4 d4)).setCell ⟨w.heap.size + 1, 5, none⟩ (.int .i64 sr)) (w.heap.size + 1) 28 #[.slice B0 m0 d0, .slice B1 m1 d1, .slice B2 m2 d2, .slice B3 m3 d3, .slice B4 m4 d4, .int .i64 sr] := by
      have h := (((((hR.set_ 0 (.slice B0 m0 d0)).set_ 1 (.slice B1 m1 d1)).set_ 2 (.slice B2 m2 d2)).set_ 3 (.slice B3 m3 d3)).set_ 4 (.slice B4 m4 d4)).set_ 5 (.int .i64 sr)
      simpa using h
    have HB6 := Lib.hid ((((((hB.setCell (p := ⟨w.heap.size + 1, 0, none⟩) (by simp) (.slice B0 m0 d0)).setCell (p := ⟨w.heap.size + 1, 1, none⟩) (by simp) (.slice B1 m1 d1)).setCell (p := ⟨w.heap.size + 1, 2, none⟩) (by simp) (.slice B2 m2 d2)).setCell (p := ⟨w.heap.size + 1, 3, none⟩) (by simp) (.slice B3 m3 d3)).setCell (p := ⟨w.heap.size + 1, 4, none⟩) (by simp) (.slice B4 m4 d4)).setCell (p := ⟨w.heap.size + 1, 5, none⟩) (by simp) (.int .i64 sr))
    have HX := Lib.hid (sa14_set (sa14_set (sa14_set (sa14_set (sa14_set (sa14_set hs2 hf2 (q := ⟨w.heap.size + 1, 0, none⟩) (by have := HZ.out; simp; omega) (.slice B0 m0 d0)) hf2 (q := ⟨w.heap.size + 1, 1, none⟩) (by have := HZ.out; simp; omega) (.slice B1 m1 d1)) hf2 (q := ⟨w.heap.size + 1, 2, none⟩) (by have := HZ.out; simp; omega) (.slice B2 m2 d2)) hf2 (q := ⟨w.heap.size + 1, 3, none⟩) (by have := HZ.out; simp; omega) (.slice B3 m3 d3)) hf2 (q := ⟨w.heap.size + 1, 4, none⟩) (by have := HZ.out; simp; omega) (.slice B4 m4 d4)) hf2 (q := ⟨w.heap.size + 1, 5, none⟩) (by have := HZ.out; simp; omega) (.int .i64 sr))
    have y0 := hR.cell 0
    have yf0 := hR.frozen 0
    have y1 := hR.cell 1
    have yf1 := hR.frozen 1
    have y2 := hR.cell 2
    have yf2 := hR.frozen 2
    have y3 := hR.cell 3
    have yf3 := hR.frozen 3
    have y4 := hR.cell 4
    have yf4 := hR.frozen 4
    have y5 := hR.cell 5
    have yf5 := hR.frozen 5
    have s0 := hk6.cell 0
    have g0 := hk6.frozen 0
    have s1 := hk6.cell 1
    have g1 := hk6.frozen 1
    have s2 := hk6.cell 2
    have g2 := hk6.frozen 2
    have s3 := hk6.cell 3
    have g3 := hk6.frozen 3
    have s4 := hk6.cell 4
    have g4 := hk6.frozen 4
    have s5 := hk6.cell 5
    have g5 := hk6.frozen 5
    have HF2 := Lib.hid (hf2.more (L' := w.heap.size) HB0.out.size)
    clear hk6 hB hs2 hf2 hR
    go_wp2_with fail
    exact bodyPost_ret (v := .agg #[.slice B0 m0 d0, .slice B1 m1 d1, .slice B2 m2 d2, .slice B3 m3 d3, .slice B4 m4 d4, .int .i64 sr]) (by simp [results, Tryz.results20, go_sem, s0, s1, s2, s3, s4, s5, g0, g1, g2, g3, g4, g5]) rfl ⟨B0, B1, B2, B3, B4, m0, m1, m2, m3, m4, d0, d1, d2, d3, d4, sr, rfl, HX.out, HF2.out, HB6.out⟩
def putTicket14 (S : Sv14) (i : Int) (x : Tk14) : Sv14 := if 0 ≤ i ∧ i < 96 then trim14 { S with T := put14 S.T i.toNat x } else S
set_option maxHeartbeats 8000000 in
theorem putTicket14_any (v : Value) (S : Sv14) (i : Int) (xu : Bool) (xc : Int) (xa : Int) (xk : Int) (xt : Int) (xo : Bool) (w : World) (h : St14 w v S) : Calls Tryz.prog 21 #[v, .int .i64 i, .agg #[.bool xu, .int .i64 xc, .int .i64 xa, .int .i64 xk, .int .i64 xt, .bool xo]] w (RetSt14 w (putTicket14 S i ⟨xu, xc, xa, xk, xt, xo⟩)) := by
  obtain ⟨A0, A1, A2, A3, A4, n0, n1, n2, n3, n4, c0, c1, c2, c3, c4, sq, rfl, hs⟩ := h
  have hb : Below w.heap.size w (((w.alloc (.cells #[.slice A0 n0 c0, .slice A1 n1 c1, .slice A2 n2 c2, .slice A3 n3 c3, .slice A4 n4 c4, .int .i64 sq] 28)).alloc (.cells #[.bool xu, .int .i64 xc, .int .i64 xa, .int .i64 xk, .int .i64 xt, .bool xo] 43)).alloc (.cells #[.slice none 0 0, .slice none 0 0, .slice none 0 0, .slice none 0 0, .slice none 0 0, .int .i64 0] 28)) := by
    refine Below.alloc ?_ (by simp; try omega) _
    refine Below.alloc ?_ (by simp) _
    exact b1' w _
  have hr : Blk (((w.alloc (.cells #[.slice A0 n0 c0, .slice A1 n1 c1, .slice A2 n2 c2, .slice A3 n3 c3, .slice A4 n4 c4, .int .i64 sq] 28)).alloc (.cells #[.bool xu, .int .i64 xc, .int .i64 xa, .int .i64 xk, .int .i64 xt, .bool xo] 43)).alloc (.cells #[.slice none 0 0, .slice none 0 0, .slice none 0 0, .slice none 0 0, .slice none 0 0, .int .i64 0] 28)) (w.heap.size + 2) 28 #[.slice none 0 0, .slice none 0 0, .slice none 0 0, .slice none 0 0, .slice none 0 0, .int .i64 0] := by
    have h := Blk.new ((w.alloc (.cells #[.slice A0 n0 c0, .slice A1 n1 c1, .slice A2 n2 c2, .slice A3 n3 c3, .slice A4 n4 c4, .int .i64 sq] 28)).alloc (.cells #[.bool xu, .int .i64 xc, .int .i64 xa, .int .i64 xk, .int .i64 xt, .bool xo] 43)) 28 #[.slice none 0 0, .slice none 0 0, .slice none 0 0, .slice none 0 0, .slice none 0 0, .int .i64 0]
    rwa [show ((w.alloc (.cells #[.slice A0 n0 c0, .slice A1 n1 c1, .slice A2 n2 c2, .slice A3 n3 c3, .slice A4 n4 c4, .int .i64 sq] 28)).alloc (.cells #[.bool xu, .int .i64 xc, .int .i64 xa, .int .i64 xk, .int .i64 xt, .bool xo] 43)).heap.size = w.heap.size + 2 by simp] at h
  have hk : Blk (((w.alloc (.cells #[.slice A0 n0 c0, .slice A1 n1 c1, .slice A2 n2 c2, .slice A3 n3 c3, .slice A4 n4 c4, .int .i64 sq] 28)).alloc (.cells #[.bool xu, .int .i64 xc, .int .i64 xa, .int .i64 xk, .int .i64 xt, .bool xo] 43)).alloc (.cells #[.slice none 0 0, .slice none 0 0, .slice none 0 0, .slice none 0 0, .slice none 0 0, .int .i64 0] 28)) w.heap.size 28 #[.slice A0 n0 c0, .slice A1 n1 c1, .slice A2 n2 c2, .slice A3 n3 c3, .slice A4 n4 c4, .int .i64 sq] := ((Blk.new w 28 #[.slice A0 n0 c0, .slice A1 n1 c1, .slice A2 n2 c2, .slice A3 n3 c3, .slice A4 n4 c4, .int .i64 sq]).alloc _).alloc _
  have hx : Blk (((w.alloc (.cells #[.slice A0 n0 c0, .slice A1 n1 c1, .slice A2 n2 c2, .slice A3 n3 c3, .slice A4 n4 c4, .int .i64 sq] 28)).alloc (.cells #[.bool xu, .int .i64 xc, .int .i64 xa, .int .i64 xk, .int .i64 xt, .bool xo] 43)).alloc (.cells #[.slice none 0 0, .slice none 0 0, .slice none 0 0, .slice none 0 0, .slice none 0 0, .int .i64 0] 28)) (w.heap.size + 1) 43 #[.bool xu, .int .i64 xc, .int .i64 xa, .int .i64 xk, .int .i64 xt, .bool xo] := by
    have h := (Blk.new (w.alloc (.cells #[.slice A0 n0 c0, .slice A1 n1 c1, .slice A2 n2 c2, .slice A3 n3 c3, .slice A4 n4 c4, .int .i64 sq] 28)) 43 #[.bool xu, .int .i64 xc, .int .i64 xa, .int .i64 xk, .int .i64 xt, .bool xo]).alloc (.cells #[.slice none 0 0, .slice none 0 0, .slice none 0 0, .slice none 0 0, .slice none 0 0, .int .i64 0] 28)
    rwa [show (w.alloc (.cells #[.slice A0 n0 c0, .slice A1 n1 c1, .slice A2 n2 c2, .slice A3 n3 c3, .slice A4 n4 c4, .int .i64 sq] 28)).heap.size = w.heap.size + 1 by simp] at h
  have hz : (((w.alloc (.cells #[.slice A0 n0 c0, .slice A1 n1 c1, .slice A2 n2 c2, .slice A3 n3 c3, .slice A4 n4 c4, .int .i64 sq] 28)).alloc (.cells #[.bool xu, .int .i64 xc, .int .i64 xa, .int .i64 xk, .int .i64 xt, .bool xo] 43)).alloc (.cells #[.slice none 0 0, .slice none 0 0, .slice none 0 0, .slice none 0 0, .slice none 0 0, .int .i64 0] 28)).heap.size = w.heap.size + 2 + 1 := by simp
  obtain ⟨W0, hW0⟩ : ∃ W, (((w.alloc (.cells #[.slice A0 n0 c0, .slice A1 n1 c1, .slice A2 n2 c2, .slice A3 n3 c3, .slice A4 n4 c4, .int .i64 sq] 28)).alloc (.cells #[.bool xu, .int .i64 xc, .int .i64 xa, .int .i64 xk, .int .i64 xt, .bool xo] 43)).alloc (.cells #[.slice none 0 0, .slice none 0 0, .slice none 0 0, .slice none 0 0, .slice none 0 0, .int .i64 0] 28)) = W := ⟨_, rfl⟩
  rw [hW0] at hb hk hr hz hx
  by_cases hin : 0 ≤ i ∧ i < 96
  · obtain ⟨k, rfl⟩ : ∃ k : Nat, i = (k : Int) := ⟨i.toNat, by omega⟩
    have HW := Lib.hid (fun W => within14 (k : Int) 96 true (by simpa using hin) W)
    have hpe : putTicket14 S (k : Int) ⟨xu, xc, xa, xk, xt, xo⟩ = trim14 { S with T := put14 S.T k ⟨xu, xc, xa, xk, xt, xo⟩ } := by unfold putTicket14; rw [if_pos hin]; simp
    rw [hpe]
    obtain ⟨m, hm⟩ : ∃ m, (put14 S.T k ⟨xu, xc, xa, xk, xt, xo⟩).length = m := ⟨_, rfl⟩
    have hmb : m ≤ 1000 := by
      rw [← hm, put14_len, hs.l1]
      have := hs.m1
      omega
    have HM := Lib.hid hm
    have HMB := Lib.hid hmb
    have HPUT := Lib.hid (put14T A1 S.T n1 c1 k xu xc xa xk xt xo W0 hs.l1 ((hs.r1.below hb (Nat.le_refl _)).more hb.size) (by have := hs.m1; omega) (by omega))
    have HS := Lib.hid hs
    have HB0 := Lib.hid hb
    have HK0 := Lib.hid hk
    have HR0 := Lib.hid hr
    have HZ := Lib.hid hz
    have j0 := hk.cell 1
    have x0 := hx.cell 0
    have x1 := hx.cell 1
    have x2 := hx.cell 2
    have x3 := hx.cell 3
    have x4 := hx.cell 4
    have x5 := hx.cell 5
    clear hs hb hk hr hz hm hmb hpe hx
    go_enter Tryz.func21, Tryz.ntmps21
    go_wp2_with fail
    refine (HW.out _).mono ?_
    rintro e w9 ⟨rfl, rfl⟩
    clear HW
    go_wp2_with fail
    refine HPUT.out.mono ?_
    rintro e u ⟨B, dd, rfl, hcap, hq, hf, hb⟩
    rw [HM.out] at hcap ⊢
    have hk1 := (HK0.out.below hb HK0.out.lt).set_ 1 (.slice B m dd)
    have kc := (HK0.out.below hb HK0.out.lt).cell 1
    have kf := (HK0.out.below hb HK0.out.lt).frozen 1
    have hr1 := (HR0.out.below hb HR0.out.lt).far (p := ⟨w.heap.size, 1, none⟩) (by simp) (.slice B m dd)
    have hbn := (HB0.out.trans (hb.mono HB0.out.size)).setCell (p := ⟨w.heap.size, 1, none⟩) (Nat.le_refl _) (.slice B m dd)
    have hlq := lq14_set hq hf (q := ⟨w.heap.size, 1, none⟩) (by rw [HZ.out]; simp; omega) (.slice B m dd)
    have hzu : (u.setCell ⟨w.heap.size, 1, none⟩ (.slice B m dd)).heap.size = u.heap.size := by simp [World.setCell]
    have hzn : w.heap.size + 2 + 1 ≤ (u.setCell ⟨w.heap.size, 1, none⟩ (.slice B m dd)).heap.size := by rw [hzu, ← HZ.out]; exact hb.size
    obtain ⟨W1, hW1⟩ : ∃ W, u.setCell ⟨w.heap.size, 1, none⟩ (.slice B m dd) = W := ⟨_, rfl⟩
    rw [hW1] at hk1 hr1 hbn hlq hzn
    have hk2 : Blk W1 w.heap.size 28 #[.slice A0 n0 c0, .slice B m dd, .slice A2 n2 c2, .slice A3 n3 c3, .slice A4 n4 c4, .int .i64 sq] := by simpa using hk1
    have t0 := hk2.cell 0
    have t1 := hk2.cell 1
    have t2 := hk2.cell 2
    have t3 := hk2.cell 3
    have t4 := hk2.cell 4
    have t5 := hk2.cell 5
    have hold := fun {α : Type} {cl : α → List Value} {A : Option Addr} {l : List α} (h : Lq cl w w.heap.size A l) => (h.below hbn (Nat.le_refl _)).more hbn.size
    have HT := Lib.hid (trimp14 (.agg #[.slice A0 n0 c0, .slice B m dd, .slice A2 n2 c2, .slice A3 n3 c3, .slice A4 n4 c4, .int .i64 sq]) ({ S with T := put14 S.T k ⟨xu, xc, xa, xk, xt, xo⟩ }) W1 ⟨A0, B, A2, A3, A4, n0, m, n2, n3, n4, c0, dd, c2, c3, c4, sq, rfl, ⟨HS.out.l0, HM.out, HS.out.l2, HS.out.l3, HS.out.l4, hold HS.out.r0, hlq, hold HS.out.r2, hold HS.out.r3, hold HS.out.r4, HS.out.k0, hcap, HS.out.k2, HS.out.k3, HS.out.k4, HS.out.m0, HMB.out, HS.out.m2, HS.out.m3, HS.out.m4, HS.out.e⟩⟩)
    have HR1 := Lib.hid hr1
    have HBN := Lib.hid hbn
    have HZN := Lib.hid hzn
    clear hk1 hk2 hr1 hbn hlq hzu hzn hcap hq hf hb HPUT hold
    go_wp2_with fail
    refine HT.out.mono ?_
    rintro e w2 ⟨B0, B1, B2, B3, B4, m0, m1, m2, m3, m4, d0, d1, d2, d3, d4, sr, rfl, hs2, hf2, hb2⟩
    have hR := HR1.out.below hb2 HR1.out.lt
    have hB := HBN.out.trans (hb2.mono HBN.out.size)
    clear HT hb2
    have hk6 : Blk ((((((w2.setCell ⟨w.heap.size + 2, 0, none⟩ (.slice B0 m0 d0)).setCell ⟨w.heap.size + 2, 1, none⟩ (.slice B1 m1 d1)).setCell ⟨w.heap.size + 2, 2, none⟩ (.slice B2 m2 d2)).setCell ⟨w.heap.size + 2, 3, none⟩ (.slice B3 m3 d3)).setCell ⟨w.heap.size + 2, 4, none⟩ (.slice B4 m4 d4)).setCell ⟨w.heap.size + 2, 5, none⟩ (.int .i64 sr)) (w.heap.size + 2) 28 #[.slice B0 m0 d0, .slice B1 m1 d1, .slice B2 m2 d2, .slice B3 m3 d3, .slice B4 m4 d4, .int .i64 sr] := by
      have h := (((((hR.set_ 0 (.slice B0 m0 d0)).set_ 1 (.slice B1 m1 d1)).set_ 2 (.slice B2 m2 d2)).set_ 3 (.slice B3 m3 d3)).set_ 4 (.slice B4 m4 d4)).set_ 5 (.int .i64 sr)
      simpa using h
    have HB6 := Lib.hid ((((((hB.setCell (p := ⟨w.heap.size + 2, 0, none⟩) (by simp) (.slice B0 m0 d0)).setCell (p := ⟨w.heap.size + 2, 1, none⟩) (by simp) (.slice B1 m1 d1)).setCell (p := ⟨w.heap.size + 2, 2, none⟩) (by simp) (.slice B2 m2 d2)).setCell (p := ⟨w.heap.size + 2, 3, none⟩) (by simp) (.slice B3 m3 d3)).setCell (p := ⟨w.heap.size + 2, 4, none⟩) (by simp) (.slice B4 m4 d4)).setCell (p := ⟨w.heap.size + 2, 5, none⟩) (by simp) (.int .i64 sr))
    have HX := Lib.hid (sa14_set (sa14_set (sa14_set (sa14_set (sa14_set (sa14_set hs2 hf2 (q := ⟨w.heap.size + 2, 0, none⟩) (by have := HZN.out; simp; omega) (.slice B0 m0 d0)) hf2 (q := ⟨w.heap.size + 2, 1, none⟩) (by have := HZN.out; simp; omega) (.slice B1 m1 d1)) hf2 (q := ⟨w.heap.size + 2, 2, none⟩) (by have := HZN.out; simp; omega) (.slice B2 m2 d2)) hf2 (q := ⟨w.heap.size + 2, 3, none⟩) (by have := HZN.out; simp; omega) (.slice B3 m3 d3)) hf2 (q := ⟨w.heap.size + 2, 4, none⟩) (by have := HZN.out; simp; omega) (.slice B4 m4 d4)) hf2 (q := ⟨w.heap.size + 2, 5, none⟩) (by have := HZN.out; simp; omega) (.int .i64 sr))
    have y0 := hR.cell 0
    have yf0 := hR.frozen 0
    have y1 := hR.cell 1
    have yf1 := hR.frozen 1
    have y2 := hR.cell 2
    have yf2 := hR.frozen 2
    have y3 := hR.cell 3
    have yf3 := hR.frozen 3
    have y4 := hR.cell 4
    have yf4 := hR.frozen 4
    have y5 := hR.cell 5
    have yf5 := hR.frozen 5
    have s0 := hk6.cell 0
    have g0 := hk6.frozen 0
    have s1 := hk6.cell 1
    have g1 := hk6.frozen 1
    have s2 := hk6.cell 2
    have g2 := hk6.frozen 2
    have s3 := hk6.cell 3
    have g3 := hk6.frozen 3
    have s4 := hk6.cell 4
    have g4 := hk6.frozen 4
    have s5 := hk6.cell 5
    have g5 := hk6.frozen 5
    have HF2 := Lib.hid (hf2.more (L' := w.heap.size) HBN.out.size)
    clear hk6 hB hs2 hf2 hR
    go_wp2_with fail
    exact bodyPost_ret (v := .agg #[.slice B0 m0 d0, .slice B1 m1 d1, .slice B2 m2 d2, .slice B3 m3 d3, .slice B4 m4 d4, .int .i64 sr]) (by simp [results, Tryz.results21, go_sem, s0, s1, s2, s3, s4, s5, g0, g1, g2, g3, g4, g5]) rfl ⟨B0, B1, B2, B3, B4, m0, m1, m2, m3, m4, d0, d1, d2, d3, d4, sr, rfl, HX.out, HF2.out, HB6.out⟩
  · have HW := Lib.hid (fun W => within14 i 96 false (by simpa using hin) W)
    have hpe : putTicket14 S i ⟨xu, xc, xa, xk, xt, xo⟩ = S := by unfold putTicket14; rw [if_neg hin]
    rw [hpe]
    have HT := Lib.hid (copy14 (.agg #[.slice A0 n0 c0, .slice A1 n1 c1, .slice A2 n2 c2, .slice A3 n3 c3, .slice A4 n4 c4, .int .i64 sq]) S W0 ⟨A0, A1, A2, A3, A4, n0, n1, n2, n3, n4, c0, c1, c2, c3, c4, sq, rfl, ⟨hs.l0, hs.l1, hs.l2, hs.l3, hs.l4, ((hs.r0.below hb (Nat.le_refl _)).more hb.size), ((hs.r1.below hb (Nat.le_refl _)).more hb.size), ((hs.r2.below hb (Nat.le_refl _)).more hb.size), ((hs.r3.below hb (Nat.le_refl _)).more hb.size), ((hs.r4.below hb (Nat.le_refl _)).more hb.size), hs.k0, hs.k1, hs.k2, hs.k3, hs.k4, hs.m0, hs.m1, hs.m2, hs.m3, hs.m4, hs.e⟩⟩)
    have HB0 := Lib.hid hb
    have HR0 := Lib.hid hr
    have HZ := Lib.hid hz
    have t0 := hk.cell 0
    have t1 := hk.cell 1
    have t2 := hk.cell 2
    have t3 := hk.cell 3
    have t4 := hk.cell 4
    have t5 := hk.cell 5
    clear hs hb hk hr hz hpe hin hx
    go_enter Tryz.func21, Tryz.ntmps21
    go_wp2_with fail
    refine (HW.out _).mono ?_
    rintro e w9 ⟨rfl, rfl⟩
    clear HW
    go_wp2_with fail
    refine HT.out.mono ?_
    rintro e w2 ⟨B0, B1, B2, B3, B4, m0, m1, m2, m3, m4, d0, d1, d2, d3, d4, sr, rfl, hs2, hf2, hb2⟩
    have hR := HR0.out.below hb2 HR0.out.lt
    have hB := HB0.out.trans (hb2.mono HB0.out.size)
    clear HT hb2
    have hk6 : Blk ((((((w2.setCell ⟨w.heap.size + 2, 0, none⟩ (.slice B0 m0 d0)).setCell ⟨w.heap.size + 2, 1, none⟩ (.slice B1 m1 d1)).setCell ⟨w.heap.size + 2, 2, none⟩ (.slice B2 m2 d2)).setCell ⟨w.heap.size + 2, 3, none⟩ (.slice B3 m3 d3)).setCell ⟨w.heap.size + 2, 4, none⟩ (.slice B4 m4 d4)).setCell ⟨w.heap.size + 2, 5, none⟩ (.int .i64 sr)) (w.heap.size + 2) 28 #[.slice B0 m0 d0, .slice B1 m1 d1, .slice B2 m2 d2, .slice B3 m3 d3, .slice B4 m4 d4, .int .i64 sr] := by
      have h := (((((hR.set_ 0 (.slice B0 m0 d0)).set_ 1 (.slice B1 m1 d1)).set_ 2 (.slice B2 m2 d2)).set_ 3 (.slice B3 m3 d3)).set_ 4 (.slice B4 m4 d4)).set_ 5 (.int .i64 sr)
      simpa using h
    have HB6 := Lib.hid ((((((hB.setCell (p := ⟨w.heap.size + 2, 0, none⟩) (by simp) (.slice B0 m0 d0)).setCell (p := ⟨w.heap.size + 2, 1, none⟩) (by simp) (.slice B1 m1 d1)).setCell (p := ⟨w.heap.size + 2, 2, none⟩) (by simp) (.slice B2 m2 d2)).setCell (p := ⟨w.heap.size + 2, 3, none⟩) (by simp) (.slice B3 m3 d3)).setCell (p := ⟨w.heap.size + 2, 4, none⟩) (by simp) (.slice B4 m4 d4)).setCell (p := ⟨w.heap.size + 2, 5, none⟩) (by simp) (.int .i64 sr))
    have HX := Lib.hid (sa14_set (sa14_set (sa14_set (sa14_set (sa14_set (sa14_set hs2 hf2 (q := ⟨w.heap.size + 2, 0, none⟩) (by have := HZ.out; simp; omega) (.slice B0 m0 d0)) hf2 (q := ⟨w.heap.size + 2, 1, none⟩) (by have := HZ.out; simp; omega) (.slice B1 m1 d1)) hf2 (q := ⟨w.heap.size + 2, 2, none⟩) (by have := HZ.out; simp; omega) (.slice B2 m2 d2)) hf2 (q := ⟨w.heap.size + 2, 3, none⟩) (by have := HZ.out; simp; omega) (.slice B3 m3 d3)) hf2 (q := ⟨w.heap.size + 2, 4, none⟩) (by have := HZ.out; simp; omega) (.slice B4 m4 d4)) hf2 (q := ⟨w.heap.size + 2, 5, none⟩) (by have := HZ.out; simp; omega) (.int .i64 sr))
    have y0 := hR.cell 0
    have yf0 := hR.frozen 0
    have y1 := hR.cell 1
    have yf1 := hR.frozen 1
    have y2 := hR.cell 2
    have yf2 := hR.frozen 2
    have y3 := hR.cell 3
    have yf3 := hR.frozen 3
    have y4 := hR.cell 4
    have yf4 := hR.frozen 4
    have y5 := hR.cell 5
    have yf5 := hR.frozen 5
    have s0 := hk6.cell 0
    have g0 := hk6.frozen 0
    have s1 := hk6.cell 1
    have g1 := hk6.frozen 1
    have s2 := hk6.cell 2
    have g2 := hk6.frozen 2
    have s3 := hk6.cell 3
    have g3 := hk6.frozen 3
    have s4 := hk6.cell 4
    have g4 := hk6.frozen 4
    have s5 := hk6.cell 5
    have g5 := hk6.frozen 5
    have HF2 := Lib.hid (hf2.more (L' := w.heap.size) HB0.out.size)
    clear hk6 hB hs2 hf2 hR
    go_wp2_with fail
    exact bodyPost_ret (v := .agg #[.slice B0 m0 d0, .slice B1 m1 d1, .slice B2 m2 d2, .slice B3 m3 d3, .slice B4 m4 d4, .int .i64 sr]) (by simp [results, Tryz.results21, go_sem, s0, s1, s2, s3, s4, s5, g0, g1, g2, g3, g4, g5]) rfl ⟨B0, B1, B2, B3, B4, m0, m1, m2, m3, m4, d0, d1, d2, d3, d4, sr, rfl, HX.out, HF2.out, HB6.out⟩
def putThread14 (S : Sv14) (i : Int) (x : Th14) : Sv14 := if 0 ≤ i ∧ i < 32 then trim14 { S with H := put14 S.H i.toNat x } else S
set_option maxHeartbeats 8000000 in
theorem putThread14_any (v : Value) (S : Sv14) (i : Int) (xz : Int) (xf : Int) (xc : Int) (xq : Int) (xu : Int) (w : World) (h : St14 w v S) : Calls Tryz.prog 22 #[v, .int .i64 i, .agg #[.int .i64 xz, .int .i64 xf, .int .i64 xc, .int .i64 xq, .int .i64 xu]] w (RetSt14 w (putThread14 S i ⟨xz, xf, xc, xq, xu⟩)) := by
  obtain ⟨A0, A1, A2, A3, A4, n0, n1, n2, n3, n4, c0, c1, c2, c3, c4, sq, rfl, hs⟩ := h
  have hb : Below w.heap.size w (((w.alloc (.cells #[.slice A0 n0 c0, .slice A1 n1 c1, .slice A2 n2 c2, .slice A3 n3 c3, .slice A4 n4 c4, .int .i64 sq] 28)).alloc (.cells #[.int .i64 xz, .int .i64 xf, .int .i64 xc, .int .i64 xq, .int .i64 xu] 45)).alloc (.cells #[.slice none 0 0, .slice none 0 0, .slice none 0 0, .slice none 0 0, .slice none 0 0, .int .i64 0] 28)) := by
    refine Below.alloc ?_ (by simp; try omega) _
    refine Below.alloc ?_ (by simp) _
    exact b1' w _
  have hr : Blk (((w.alloc (.cells #[.slice A0 n0 c0, .slice A1 n1 c1, .slice A2 n2 c2, .slice A3 n3 c3, .slice A4 n4 c4, .int .i64 sq] 28)).alloc (.cells #[.int .i64 xz, .int .i64 xf, .int .i64 xc, .int .i64 xq, .int .i64 xu] 45)).alloc (.cells #[.slice none 0 0, .slice none 0 0, .slice none 0 0, .slice none 0 0, .slice none 0 0, .int .i64 0] 28)) (w.heap.size + 2) 28 #[.slice none 0 0, .slice none 0 0, .slice none 0 0, .slice none 0 0, .slice none 0 0, .int .i64 0] := by
    have h := Blk.new ((w.alloc (.cells #[.slice A0 n0 c0, .slice A1 n1 c1, .slice A2 n2 c2, .slice A3 n3 c3, .slice A4 n4 c4, .int .i64 sq] 28)).alloc (.cells #[.int .i64 xz, .int .i64 xf, .int .i64 xc, .int .i64 xq, .int .i64 xu] 45)) 28 #[.slice none 0 0, .slice none 0 0, .slice none 0 0, .slice none 0 0, .slice none 0 0, .int .i64 0]
    rwa [show ((w.alloc (.cells #[.slice A0 n0 c0, .slice A1 n1 c1, .slice A2 n2 c2, .slice A3 n3 c3, .slice A4 n4 c4, .int .i64 sq] 28)).alloc (.cells #[.int .i64 xz, .int .i64 xf, .int .i64 xc, .int .i64 xq, .int .i64 xu] 45)).heap.size = w.heap.size + 2 by simp] at h
  have hk : Blk (((w.alloc (.cells #[.slice A0 n0 c0, .slice A1 n1 c1, .slice A2 n2 c2, .slice A3 n3 c3, .slice A4 n4 c4, .int .i64 sq] 28)).alloc (.cells #[.int .i64 xz, .int .i64 xf, .int .i64 xc, .int .i64 xq, .int .i64 xu] 45)).alloc (.cells #[.slice none 0 0, .slice none 0 0, .slice none 0 0, .slice none 0 0, .slice none 0 0, .int .i64 0] 28)) w.heap.size 28 #[.slice A0 n0 c0, .slice A1 n1 c1, .slice A2 n2 c2, .slice A3 n3 c3, .slice A4 n4 c4, .int .i64 sq] := ((Blk.new w 28 #[.slice A0 n0 c0, .slice A1 n1 c1, .slice A2 n2 c2, .slice A3 n3 c3, .slice A4 n4 c4, .int .i64 sq]).alloc _).alloc _
  have hx : Blk (((w.alloc (.cells #[.slice A0 n0 c0, .slice A1 n1 c1, .slice A2 n2 c2, .slice A3 n3 c3, .slice A4 n4 c4, .int .i64 sq] 28)).alloc (.cells #[.int .i64 xz, .int .i64 xf, .int .i64 xc, .int .i64 xq, .int .i64 xu] 45)).alloc (.cells #[.slice none 0 0, .slice none 0 0, .slice none 0 0, .slice none 0 0, .slice none 0 0, .int .i64 0] 28)) (w.heap.size + 1) 45 #[.int .i64 xz, .int .i64 xf, .int .i64 xc, .int .i64 xq, .int .i64 xu] := by
    have h := (Blk.new (w.alloc (.cells #[.slice A0 n0 c0, .slice A1 n1 c1, .slice A2 n2 c2, .slice A3 n3 c3, .slice A4 n4 c4, .int .i64 sq] 28)) 45 #[.int .i64 xz, .int .i64 xf, .int .i64 xc, .int .i64 xq, .int .i64 xu]).alloc (.cells #[.slice none 0 0, .slice none 0 0, .slice none 0 0, .slice none 0 0, .slice none 0 0, .int .i64 0] 28)
    rwa [show (w.alloc (.cells #[.slice A0 n0 c0, .slice A1 n1 c1, .slice A2 n2 c2, .slice A3 n3 c3, .slice A4 n4 c4, .int .i64 sq] 28)).heap.size = w.heap.size + 1 by simp] at h
  have hz : (((w.alloc (.cells #[.slice A0 n0 c0, .slice A1 n1 c1, .slice A2 n2 c2, .slice A3 n3 c3, .slice A4 n4 c4, .int .i64 sq] 28)).alloc (.cells #[.int .i64 xz, .int .i64 xf, .int .i64 xc, .int .i64 xq, .int .i64 xu] 45)).alloc (.cells #[.slice none 0 0, .slice none 0 0, .slice none 0 0, .slice none 0 0, .slice none 0 0, .int .i64 0] 28)).heap.size = w.heap.size + 2 + 1 := by simp
  obtain ⟨W0, hW0⟩ : ∃ W, (((w.alloc (.cells #[.slice A0 n0 c0, .slice A1 n1 c1, .slice A2 n2 c2, .slice A3 n3 c3, .slice A4 n4 c4, .int .i64 sq] 28)).alloc (.cells #[.int .i64 xz, .int .i64 xf, .int .i64 xc, .int .i64 xq, .int .i64 xu] 45)).alloc (.cells #[.slice none 0 0, .slice none 0 0, .slice none 0 0, .slice none 0 0, .slice none 0 0, .int .i64 0] 28)) = W := ⟨_, rfl⟩
  rw [hW0] at hb hk hr hz hx
  by_cases hin : 0 ≤ i ∧ i < 32
  · obtain ⟨k, rfl⟩ : ∃ k : Nat, i = (k : Int) := ⟨i.toNat, by omega⟩
    have HW := Lib.hid (fun W => within14 (k : Int) 32 true (by simpa using hin) W)
    have hpe : putThread14 S (k : Int) ⟨xz, xf, xc, xq, xu⟩ = trim14 { S with H := put14 S.H k ⟨xz, xf, xc, xq, xu⟩ } := by unfold putThread14; rw [if_pos hin]; simp
    rw [hpe]
    obtain ⟨m, hm⟩ : ∃ m, (put14 S.H k ⟨xz, xf, xc, xq, xu⟩).length = m := ⟨_, rfl⟩
    have hmb : m ≤ 1000 := by
      rw [← hm, put14_len, hs.l2]
      have := hs.m2
      omega
    have HM := Lib.hid hm
    have HMB := Lib.hid hmb
    have HPUT := Lib.hid (put14H A2 S.H n2 c2 k xz xf xc xq xu W0 hs.l2 ((hs.r2.below hb (Nat.le_refl _)).more hb.size) (by have := hs.m2; omega) (by omega))
    have HS := Lib.hid hs
    have HB0 := Lib.hid hb
    have HK0 := Lib.hid hk
    have HR0 := Lib.hid hr
    have HZ := Lib.hid hz
    have j0 := hk.cell 2
    have x0 := hx.cell 0
    have x1 := hx.cell 1
    have x2 := hx.cell 2
    have x3 := hx.cell 3
    have x4 := hx.cell 4
    clear hs hb hk hr hz hm hmb hpe hx
    go_enter Tryz.func22, Tryz.ntmps22
    go_wp2_with fail
    refine (HW.out _).mono ?_
    rintro e w9 ⟨rfl, rfl⟩
    clear HW
    go_wp2_with fail
    refine HPUT.out.mono ?_
    rintro e u ⟨B, dd, rfl, hcap, hq, hf, hb⟩
    rw [HM.out] at hcap ⊢
    have hk1 := (HK0.out.below hb HK0.out.lt).set_ 2 (.slice B m dd)
    have kc := (HK0.out.below hb HK0.out.lt).cell 2
    have kf := (HK0.out.below hb HK0.out.lt).frozen 2
    have hr1 := (HR0.out.below hb HR0.out.lt).far (p := ⟨w.heap.size, 2, none⟩) (by simp) (.slice B m dd)
    have hbn := (HB0.out.trans (hb.mono HB0.out.size)).setCell (p := ⟨w.heap.size, 2, none⟩) (Nat.le_refl _) (.slice B m dd)
    have hlq := lq14_set hq hf (q := ⟨w.heap.size, 2, none⟩) (by rw [HZ.out]; simp; omega) (.slice B m dd)
    have hzu : (u.setCell ⟨w.heap.size, 2, none⟩ (.slice B m dd)).heap.size = u.heap.size := by simp [World.setCell]
    have hzn : w.heap.size + 2 + 1 ≤ (u.setCell ⟨w.heap.size, 2, none⟩ (.slice B m dd)).heap.size := by rw [hzu, ← HZ.out]; exact hb.size
    obtain ⟨W1, hW1⟩ : ∃ W, u.setCell ⟨w.heap.size, 2, none⟩ (.slice B m dd) = W := ⟨_, rfl⟩
    rw [hW1] at hk1 hr1 hbn hlq hzn
    have hk2 : Blk W1 w.heap.size 28 #[.slice A0 n0 c0, .slice A1 n1 c1, .slice B m dd, .slice A3 n3 c3, .slice A4 n4 c4, .int .i64 sq] := by simpa using hk1
    have t0 := hk2.cell 0
    have t1 := hk2.cell 1
    have t2 := hk2.cell 2
    have t3 := hk2.cell 3
    have t4 := hk2.cell 4
    have t5 := hk2.cell 5
    have hold := fun {α : Type} {cl : α → List Value} {A : Option Addr} {l : List α} (h : Lq cl w w.heap.size A l) => (h.below hbn (Nat.le_refl _)).more hbn.size
    have HT := Lib.hid (trimp14 (.agg #[.slice A0 n0 c0, .slice A1 n1 c1, .slice B m dd, .slice A3 n3 c3, .slice A4 n4 c4, .int .i64 sq]) ({ S with H := put14 S.H k ⟨xz, xf, xc, xq, xu⟩ }) W1 ⟨A0, A1, B, A3, A4, n0, n1, m, n3, n4, c0, c1, dd, c3, c4, sq, rfl, ⟨HS.out.l0, HS.out.l1, HM.out, HS.out.l3, HS.out.l4, hold HS.out.r0, hold HS.out.r1, hlq, hold HS.out.r3, hold HS.out.r4, HS.out.k0, HS.out.k1, hcap, HS.out.k3, HS.out.k4, HS.out.m0, HS.out.m1, HMB.out, HS.out.m3, HS.out.m4, HS.out.e⟩⟩)
    have HR1 := Lib.hid hr1
    have HBN := Lib.hid hbn
    have HZN := Lib.hid hzn
    clear hk1 hk2 hr1 hbn hlq hzu hzn hcap hq hf hb HPUT hold
    go_wp2_with fail
    refine HT.out.mono ?_
    rintro e w2 ⟨B0, B1, B2, B3, B4, m0, m1, m2, m3, m4, d0, d1, d2, d3, d4, sr, rfl, hs2, hf2, hb2⟩
    have hR := HR1.out.below hb2 HR1.out.lt
    have hB := HBN.out.trans (hb2.mono HBN.out.size)
    clear HT hb2
    have hk6 : Blk ((((((w2.setCell ⟨w.heap.size + 2, 0, none⟩ (.slice B0 m0 d0)).setCell ⟨w.heap.size + 2, 1, none⟩ (.slice B1 m1 d1)).setCell ⟨w.heap.size + 2, 2, none⟩ (.slice B2 m2 d2)).setCell ⟨w.heap.size + 2, 3, none⟩ (.slice B3 m3 d3)).setCell ⟨w.heap.size + 2, 4, none⟩ (.slice B4 m4 d4)).setCell ⟨w.heap.size + 2, 5, none⟩ (.int .i64 sr)) (w.heap.size + 2) 28 #[.slice B0 m0 d0, .slice B1 m1 d1, .slice B2 m2 d2, .slice B3 m3 d3, .slice B4 m4 d4, .int .i64 sr] := by
      have h := (((((hR.set_ 0 (.slice B0 m0 d0)).set_ 1 (.slice B1 m1 d1)).set_ 2 (.slice B2 m2 d2)).set_ 3 (.slice B3 m3 d3)).set_ 4 (.slice B4 m4 d4)).set_ 5 (.int .i64 sr)
      simpa using h
    have HB6 := Lib.hid ((((((hB.setCell (p := ⟨w.heap.size + 2, 0, none⟩) (by simp) (.slice B0 m0 d0)).setCell (p := ⟨w.heap.size + 2, 1, none⟩) (by simp) (.slice B1 m1 d1)).setCell (p := ⟨w.heap.size + 2, 2, none⟩) (by simp) (.slice B2 m2 d2)).setCell (p := ⟨w.heap.size + 2, 3, none⟩) (by simp) (.slice B3 m3 d3)).setCell (p := ⟨w.heap.size + 2, 4, none⟩) (by simp) (.slice B4 m4 d4)).setCell (p := ⟨w.heap.size + 2, 5, none⟩) (by simp) (.int .i64 sr))
    have HX := Lib.hid (sa14_set (sa14_set (sa14_set (sa14_set (sa14_set (sa14_set hs2 hf2 (q := ⟨w.heap.size + 2, 0, none⟩) (by have := HZN.out; simp; omega) (.slice B0 m0 d0)) hf2 (q := ⟨w.heap.size + 2, 1, none⟩) (by have := HZN.out; simp; omega) (.slice B1 m1 d1)) hf2 (q := ⟨w.heap.size + 2, 2, none⟩) (by have := HZN.out; simp; omega) (.slice B2 m2 d2)) hf2 (q := ⟨w.heap.size + 2, 3, none⟩) (by have := HZN.out; simp; omega) (.slice B3 m3 d3)) hf2 (q := ⟨w.heap.size + 2, 4, none⟩) (by have := HZN.out; simp; omega) (.slice B4 m4 d4)) hf2 (q := ⟨w.heap.size + 2, 5, none⟩) (by have := HZN.out; simp; omega) (.int .i64 sr))
    have y0 := hR.cell 0
    have yf0 := hR.frozen 0
    have y1 := hR.cell 1
    have yf1 := hR.frozen 1
    have y2 := hR.cell 2
    have yf2 := hR.frozen 2
    have y3 := hR.cell 3
    have yf3 := hR.frozen 3
    have y4 := hR.cell 4
    have yf4 := hR.frozen 4
    have y5 := hR.cell 5
    have yf5 := hR.frozen 5
    have s0 := hk6.cell 0
    have g0 := hk6.frozen 0
    have s1 := hk6.cell 1
    have g1 := hk6.frozen 1
    have s2 := hk6.cell 2
    have g2 := hk6.frozen 2
    have s3 := hk6.cell 3
    have g3 := hk6.frozen 3
    have s4 := hk6.cell 4
    have g4 := hk6.frozen 4
    have s5 := hk6.cell 5
    have g5 := hk6.frozen 5
    have HF2 := Lib.hid (hf2.more (L' := w.heap.size) HBN.out.size)
    clear hk6 hB hs2 hf2 hR
    go_wp2_with fail
    exact bodyPost_ret (v := .agg #[.slice B0 m0 d0, .slice B1 m1 d1, .slice B2 m2 d2, .slice B3 m3 d3, .slice B4 m4 d4, .int .i64 sr]) (by simp [results, Tryz.results22, go_sem, s0, s1, s2, s3, s4, s5, g0, g1, g2, g3, g4, g5]) rfl ⟨B0, B1, B2, B3, B4, m0, m1, m2, m3, m4, d0, d1, d2, d3, d4, sr, rfl, HX.out, HF2.out, HB6.out⟩
  · have HW := Lib.hid (fun W => within14 i 32 false (by simpa using hin) W)
    have hpe : putThread14 S i ⟨xz, xf, xc, xq, xu⟩ = S := by unfold putThread14; rw [if_neg hin]
    rw [hpe]
    have HT := Lib.hid (copy14 (.agg #[.slice A0 n0 c0, .slice A1 n1 c1, .slice A2 n2 c2, .slice A3 n3 c3, .slice A4 n4 c4, .int .i64 sq]) S W0 ⟨A0, A1, A2, A3, A4, n0, n1, n2, n3, n4, c0, c1, c2, c3, c4, sq, rfl, ⟨hs.l0, hs.l1, hs.l2, hs.l3, hs.l4, ((hs.r0.below hb (Nat.le_refl _)).more hb.size), ((hs.r1.below hb (Nat.le_refl _)).more hb.size), ((hs.r2.below hb (Nat.le_refl _)).more hb.size), ((hs.r3.below hb (Nat.le_refl _)).more hb.size), ((hs.r4.below hb (Nat.le_refl _)).more hb.size), hs.k0, hs.k1, hs.k2, hs.k3, hs.k4, hs.m0, hs.m1, hs.m2, hs.m3, hs.m4, hs.e⟩⟩)
    have HB0 := Lib.hid hb
    have HR0 := Lib.hid hr
    have HZ := Lib.hid hz
    have t0 := hk.cell 0
    have t1 := hk.cell 1
    have t2 := hk.cell 2
    have t3 := hk.cell 3
    have t4 := hk.cell 4
    have t5 := hk.cell 5
    clear hs hb hk hr hz hpe hin hx
    go_enter Tryz.func22, Tryz.ntmps22
    go_wp2_with fail
    refine (HW.out _).mono ?_
    rintro e w9 ⟨rfl, rfl⟩
    clear HW
    go_wp2_with fail
    refine HT.out.mono ?_
    rintro e w2 ⟨B0, B1, B2, B3, B4, m0, m1, m2, m3, m4, d0, d1, d2, d3, d4, sr, rfl, hs2, hf2, hb2⟩
    have hR := HR0.out.below hb2 HR0.out.lt
    have hB := HB0.out.trans (hb2.mono HB0.out.size)
    clear HT hb2
    have hk6 : Blk ((((((w2.setCell ⟨w.heap.size + 2, 0, none⟩ (.slice B0 m0 d0)).setCell ⟨w.heap.size + 2, 1, none⟩ (.slice B1 m1 d1)).setCell ⟨w.heap.size + 2, 2, none⟩ (.slice B2 m2 d2)).setCell ⟨w.heap.size + 2, 3, none⟩ (.slice B3 m3 d3)).setCell ⟨w.heap.size + 2, 4, none⟩ (.slice B4 m4 d4)).setCell ⟨w.heap.size + 2, 5, none⟩ (.int .i64 sr)) (w.heap.size + 2) 28 #[.slice B0 m0 d0, .slice B1 m1 d1, .slice B2 m2 d2, .slice B3 m3 d3, .slice B4 m4 d4, .int .i64 sr] := by
      have h := (((((hR.set_ 0 (.slice B0 m0 d0)).set_ 1 (.slice B1 m1 d1)).set_ 2 (.slice B2 m2 d2)).set_ 3 (.slice B3 m3 d3)).set_ 4 (.slice B4 m4 d4)).set_ 5 (.int .i64 sr)
      simpa using h
    have HB6 := Lib.hid ((((((hB.setCell (p := ⟨w.heap.size + 2, 0, none⟩) (by simp) (.slice B0 m0 d0)).setCell (p := ⟨w.heap.size + 2, 1, none⟩) (by simp) (.slice B1 m1 d1)).setCell (p := ⟨w.heap.size + 2, 2, none⟩) (by simp) (.slice B2 m2 d2)).setCell (p := ⟨w.heap.size + 2, 3, none⟩) (by simp) (.slice B3 m3 d3)).setCell (p := ⟨w.heap.size + 2, 4, none⟩) (by simp) (.slice B4 m4 d4)).setCell (p := ⟨w.heap.size + 2, 5, none⟩) (by simp) (.int .i64 sr))
    have HX := Lib.hid (sa14_set (sa14_set (sa14_set (sa14_set (sa14_set (sa14_set hs2 hf2 (q := ⟨w.heap.size + 2, 0, none⟩) (by have := HZ.out; simp; omega) (.slice B0 m0 d0)) hf2 (q := ⟨w.heap.size + 2, 1, none⟩) (by have := HZ.out; simp; omega) (.slice B1 m1 d1)) hf2 (q := ⟨w.heap.size + 2, 2, none⟩) (by have := HZ.out; simp; omega) (.slice B2 m2 d2)) hf2 (q := ⟨w.heap.size + 2, 3, none⟩) (by have := HZ.out; simp; omega) (.slice B3 m3 d3)) hf2 (q := ⟨w.heap.size + 2, 4, none⟩) (by have := HZ.out; simp; omega) (.slice B4 m4 d4)) hf2 (q := ⟨w.heap.size + 2, 5, none⟩) (by have := HZ.out; simp; omega) (.int .i64 sr))
    have y0 := hR.cell 0
    have yf0 := hR.frozen 0
    have y1 := hR.cell 1
    have yf1 := hR.frozen 1
    have y2 := hR.cell 2
    have yf2 := hR.frozen 2
    have y3 := hR.cell 3
    have yf3 := hR.frozen 3
    have y4 := hR.cell 4
    have yf4 := hR.frozen 4
    have y5 := hR.cell 5
    have yf5 := hR.frozen 5
    have s0 := hk6.cell 0
    have g0 := hk6.frozen 0
    have s1 := hk6.cell 1
    have g1 := hk6.frozen 1
    have s2 := hk6.cell 2
    have g2 := hk6.frozen 2
    have s3 := hk6.cell 3
    have g3 := hk6.frozen 3
    have s4 := hk6.cell 4
    have g4 := hk6.frozen 4
    have s5 := hk6.cell 5
    have g5 := hk6.frozen 5
    have HF2 := Lib.hid (hf2.more (L' := w.heap.size) HB0.out.size)
    clear hk6 hB hs2 hf2 hR
    go_wp2_with fail
    exact bodyPost_ret (v := .agg #[.slice B0 m0 d0, .slice B1 m1 d1, .slice B2 m2 d2, .slice B3 m3 d3, .slice B4 m4 d4, .int .i64 sr]) (by simp [results, Tryz.results22, go_sem, s0, s1, s2, s3, s4, s5, g0, g1, g2, g3, g4, g5]) rfl ⟨B0, B1, B2, B3, B4, m0, m1, m2, m3, m4, d0, d1, d2, d3, d4, sr, rfl, HX.out, HF2.out, HB6.out⟩
def putLock14 (S : Sv14) (i : Int) (x : Lk14) : Sv14 := if 0 ≤ i ∧ i < 8 then trim14 { S with L := put14 S.L i.toNat x } else S
set_option maxHeartbeats 8000000 in
theorem putLock14_any (v : Value) (S : Sv14) (i : Int) (xu : Bool) (xh : Int) (w : World) (h : St14 w v S) : Calls Tryz.prog 23 #[v, .int .i64 i, .agg #[.bool xu, .int .i64 xh]] w (RetSt14 w (putLock14 S i ⟨xu, xh⟩)) := by
  obtain ⟨A0, A1, A2, A3, A4, n0, n1, n2, n3, n4, c0, c1, c2, c3, c4, sq, rfl, hs⟩ := h
  have hb : Below w.heap.size w (((w.alloc (.cells #[.slice A0 n0 c0, .slice A1 n1 c1, .slice A2 n2 c2, .slice A3 n3 c3, .slice A4 n4 c4, .int .i64 sq] 28)).alloc (.cells #[.bool xu, .int .i64 xh] 47)).alloc (.cells #[.slice none 0 0, .slice none 0 0, .slice none 0 0, .slice none 0 0, .slice none 0 0, .int .i64 0] 28)) := by
    refine Below.alloc ?_ (by simp; try omega) _
    refine Below.alloc ?_ (by simp) _
    exact b1' w _
  have hr : Blk (((w.alloc (.cells #[.slice A0 n0 c0, .slice A1 n1 c1, .slice A2 n2 c2, .slice A3 n3 c3, .slice A4 n4 c4, .int .i64 sq] 28)).alloc (.cells #[.bool xu, .int .i64 xh] 47)).alloc (.cells #[.slice none 0 0, .slice none 0 0, .slice none 0 0, .slice none 0 0, .slice none 0 0, .int .i64 0] 28)) (w.heap.size + 2) 28 #[.slice none 0 0, .slice none 0 0, .slice none 0 0, .slice none 0 0, .slice none 0 0, .int .i64 0] := by
    have h := Blk.new ((w.alloc (.cells #[.slice A0 n0 c0, .slice A1 n1 c1, .slice A2 n2 c2, .slice A3 n3 c3, .slice A4 n4 c4, .int .i64 sq] 28)).alloc (.cells #[.bool xu, .int .i64 xh] 47)) 28 #[.slice none 0 0, .slice none 0 0, .slice none 0 0, .slice none 0 0, .slice none 0 0, .int .i64 0]
    rwa [show ((w.alloc (.cells #[.slice A0 n0 c0, .slice A1 n1 c1, .slice A2 n2 c2, .slice A3 n3 c3, .slice A4 n4 c4, .int .i64 sq] 28)).alloc (.cells #[.bool xu, .int .i64 xh] 47)).heap.size = w.heap.size + 2 by simp] at h
  have hk : Blk (((w.alloc (.cells #[.slice A0 n0 c0, .slice A1 n1 c1, .slice A2 n2 c2, .slice A3 n3 c3, .slice A4 n4 c4, .int .i64 sq] 28)).alloc (.cells #[.bool xu, .int .i64 xh] 47)).alloc (.cells #[.slice none 0 0, .slice none 0 0, .slice none 0 0, .slice none 0 0, .slice none 0 0, .int .i64 0] 28)) w.heap.size 28 #[.slice A0 n0 c0, .slice A1 n1 c1, .slice A2 n2 c2, .slice A3 n3 c3, .slice A4 n4 c4, .int .i64 sq] := ((Blk.new w 28 #[.slice A0 n0 c0, .slice A1 n1 c1, .slice A2 n2 c2, .slice A3 n3 c3, .slice A4 n4 c4, .int .i64 sq]).alloc _).alloc _
  have hx : Blk (((w.alloc (.cells #[.slice A0 n0 c0, .slice A1 n1 c1, .slice A2 n2 c2, .slice A3 n3 c3, .slice A4 n4 c4, .int .i64 sq] 28)).alloc (.cells #[.bool xu, .int .i64 xh] 47)).alloc (.cells #[.slice none 0 0, .slice none 0 0, .slice none 0 0, .slice none 0 0, .slice none 0 0, .int .i64 0] 28)) (w.heap.size + 1) 47 #[.bool xu, .int .i64 xh] := by
    have h := (Blk.new (w.alloc (.cells #[.slice A0 n0 c0, .slice A1 n1 c1, .slice A2 n2 c2, .slice A3 n3 c3, .slice A4 n4 c4, .int .i64 sq] 28)) 47 #[.bool xu, .int .i64 xh]).alloc (.cells #[.slice none 0 0, .slice none 0 0, .slice none 0 0, .slice none 0 0, .slice none 0 0, .int .i64 0] 28)
    rwa [show (w.alloc (.cells #[.slice A0 n0 c0, .slice A1 n1 c1, .slice A2 n2 c2, .slice A3 n3 c3, .slice A4 n4 c4, .int .i64 sq] 28)).heap.size = w.heap.size + 1 by simp] at h
  have hz : (((w.alloc (.cells #[.slice A0 n0 c0, .slice A1 n1 c1, .slice A2 n2 c2, .slice A3 n3 c3, .slice A4 n4 c4, .int .i64 sq] 28)).alloc (.cells #[.bool xu, .int .i64 xh] 47)).alloc (.cells #[.slice none 0 0, .slice none 0 0, .slice none 0 0, .slice none 0 0, .slice none 0 0, .int .i64 0] 28)).heap.size = w.heap.size + 2 + 1 := by simp
  obtain ⟨W0, hW0⟩ : ∃ W, (((w.alloc (.cells #[.slice A0 n0 c0, .slice A1 n1 c1, .slice A2 n2 c2, .slice A3 n3 c3, .slice A4 n4 c4, .int .i64 sq] 28)).alloc (.cells #[.bool xu, .int .i64 xh] 47)).alloc (.cells #[.slice none 0 0, .slice none 0 0, .slice none 0 0, .slice none 0 0, .slice none 0 0, .int .i64 0] 28)) = W := ⟨_, rfl⟩
  rw [hW0] at hb hk hr hz hx
  by_cases hin : 0 ≤ i ∧ i < 8
  · obtain ⟨k, rfl⟩ : ∃ k : Nat, i = (k : Int) := ⟨i.toNat, by omega⟩
    have HW := Lib.hid (fun W => within14 (k : Int) 8 true (by simpa using hin) W)
    have hpe : putLock14 S (k : Int) ⟨xu, xh⟩ = trim14 { S with L := put14 S.L k ⟨xu, xh⟩ } := by unfold putLock14; rw [if_pos hin]; simp
    rw [hpe]
    obtain ⟨m, hm⟩ : ∃ m, (put14 S.L k ⟨xu, xh⟩).length = m := ⟨_, rfl⟩
    have hmb : m ≤ 1000 := by
      rw [← hm, put14_len, hs.l3]
      have := hs.m3
      omega
    have HM := Lib.hid hm
    have HMB := Lib.hid hmb
    have HPUT := Lib.hid (put14L A3 S.L n3 c3 k xu xh W0 hs.l3 ((hs.r3.below hb (Nat.le_refl _)).more hb.size) (by have := hs.m3; omega) (by omega))
    have HS := Lib.hid hs
    have HB0 := Lib.hid hb
    have HK0 := Lib.hid hk
    have HR0 := Lib.hid hr
    have HZ := Lib.hid hz
    have j0 := hk.cell 3
    have x0 := hx.cell 0
    have x1 := hx.cell 1
    clear hs hb hk hr hz hm hmb hpe hx
    go_enter Tryz.func23, Tryz.ntmps23
    go_wp2_with fail
    refine (HW.out _).mono ?_
    rintro e w9 ⟨rfl, rfl⟩
    clear HW
    go_wp2_with fail
    refine HPUT.out.mono ?_
    rintro e u ⟨B, dd, rfl, hcap, hq, hf, hb⟩
    rw [HM.out] at hcap ⊢
    have hk1 := (HK0.out.below hb HK0.out.lt).set_ 3 (.slice B m dd)
    have kc := (HK0.out.below hb HK0.out.lt).cell 3
    have kf := (HK0.out.below hb HK0.out.lt).frozen 3
    have hr1 := (HR0.out.below hb HR0.out.lt).far (p := ⟨w.heap.size, 3, none⟩) (by simp) (.slice B m dd)
    have hbn := (HB0.out.trans (hb.mono HB0.out.size)).setCell (p := ⟨w.heap.size, 3, none⟩) (Nat.le_refl _) (.slice B m dd)
    have hlq := lq14_set hq hf (q := ⟨w.heap.size, 3, none⟩) (by rw [HZ.out]; simp; omega) (.slice B m dd)
    have hzu : (u.setCell ⟨w.heap.size, 3, none⟩ (.slice B m dd)).heap.size = u.heap.size := by simp [World.setCell]
    have hzn : w.heap.size + 2 + 1 ≤ (u.setCell ⟨w.heap.size, 3, none⟩ (.slice B m dd)).heap.size := by rw [hzu, ← HZ.out]; exact hb.size
    obtain ⟨W1, hW1⟩ : ∃ W, u.setCell ⟨w.heap.size, 3, none⟩ (.slice B m dd) = W := ⟨_, rfl⟩
    rw [hW1] at hk1 hr1 hbn hlq hzn
    have hk2 : Blk W1 w.heap.size 28 #[.slice A0 n0 c0, .slice A1 n1 c1, .slice A2 n2 c2, .slice B m dd, .slice A4 n4 c4, .int .i64 sq] := by simpa using hk1
    have t0 := hk2.cell 0
    have t1 := hk2.cell 1
    have t2 := hk2.cell 2
    have t3 := hk2.cell 3
    have t4 := hk2.cell 4
    have t5 := hk2.cell 5
    have hold := fun {α : Type} {cl : α → List Value} {A : Option Addr} {l : List α} (h : Lq cl w w.heap.size A l) => (h.below hbn (Nat.le_refl _)).more hbn.size
    have HT := Lib.hid (trimp14 (.agg #[.slice A0 n0 c0, .slice A1 n1 c1, .slice A2 n2 c2, .slice B m dd, .slice A4 n4 c4, .int .i64 sq]) ({ S with L := put14 S.L k ⟨xu, xh⟩ }) W1 ⟨A0, A1, A2, B, A4, n0, n1, n2, m, n4, c0, c1, c2, dd, c4, sq, rfl, ⟨HS.out.l0, HS.out.l1, HS.out.l2, HM.out, HS.out.l4, hold HS.out.r0, hold HS.out.r1, hold HS.out.r2, hlq, hold HS.out.r4, HS.out.k0, HS.out.k1, HS.out.k2, hcap, HS.out.k4, HS.out.m0, HS.out.m1, HS.out.m2, HMB.out, HS.out.m4, HS.out.e⟩⟩)
    have HR1 := Lib.hid hr1
    have HBN := Lib.hid hbn
    have HZN := Lib.hid hzn
    clear hk1 hk2 hr1 hbn hlq hzu hzn hcap hq hf hb HPUT hold
    go_wp2_with fail
    refine HT.out.mono ?_
    rintro e w2 ⟨B0, B1, B2, B3, B4, m0, m1, m2, m3, m4, d0, d1, d2, d3, d4, sr, rfl, hs2, hf2, hb2⟩
    have hR := HR1.out.below hb2 HR1.out.lt
    have hB := HBN.out.trans (hb2.mono HBN.out.size)
    clear HT hb2
    have hk6 : Blk ((((((w2.setCell ⟨w.heap.size + 2, 0, none⟩ (.slice B0 m0 d0)).setCell ⟨w.heap.size + 2, 1, none⟩ (.slice B1 m1 d1)).setCell ⟨w.heap.size + 2, 2, none⟩ (.slice B2 m2 d2)).setCell ⟨w.heap.size + 2, 3, none⟩ (.slice B3 m3 d3)).setCell ⟨w.heap.size + 2, 4, none⟩ (.slice B4 m4 d4)).setCell ⟨w.heap.size + 2, 5, none⟩ (.int .i64 sr)) (w.heap.size + 2) 28 #[.slice B0 m0 d0, .slice B1 m1 d1, .slice B2 m2 d2, .slice B3 m3 d3, .slice B4 m4 d4, .int .i64 sr] := by
      have h := (((((hR.set_ 0 (.slice B0 m0 d0)).set_ 1 (.slice B1 m1 d1)).set_ 2 (.slice B2 m2 d2)).set_ 3 (.slice B3 m3 d3)).set_ 4 (.slice B4 m4 d4)).set_ 5 (.int .i64 sr)
      simpa using h
    have HB6 := Lib.hid ((((((hB.setCell (p := ⟨w.heap.size + 2, 0, none⟩) (by simp) (.slice B0 m0 d0)).setCell (p := ⟨w.heap.size + 2, 1, none⟩) (by simp) (.slice B1 m1 d1)).setCell (p := ⟨w.heap.size + 2, 2, none⟩) (by simp) (.slice B2 m2 d2)).setCell (p := ⟨w.heap.size + 2, 3, none⟩) (by simp) (.slice B3 m3 d3)).setCell (p := ⟨w.heap.size + 2, 4, none⟩) (by simp) (.slice B4 m4 d4)).setCell (p := ⟨w.heap.size + 2, 5, none⟩) (by simp) (.int .i64 sr))
    have HX := Lib.hid (sa14_set (sa14_set (sa14_set (sa14_set (sa14_set (sa14_set hs2 hf2 (q := ⟨w.heap.size + 2, 0, none⟩) (by have := HZN.out; simp; omega) (.slice B0 m0 d0)) hf2 (q := ⟨w.heap.size + 2, 1, none⟩) (by have := HZN.out; simp; omega) (.slice B1 m1 d1)) hf2 (q := ⟨w.heap.size + 2, 2, none⟩) (by have := HZN.out; simp; omega) (.slice B2 m2 d2)) hf2 (q := ⟨w.heap.size + 2, 3, none⟩) (by have := HZN.out; simp; omega) (.slice B3 m3 d3)) hf2 (q := ⟨w.heap.size + 2, 4, none⟩) (by have := HZN.out; simp; omega) (.slice B4 m4 d4)) hf2 (q := ⟨w.heap.size + 2, 5, none⟩) (by have := HZN.out; simp; omega) (.int .i64 sr))
    have y0 := hR.cell 0
    have yf0 := hR.frozen 0
    have y1 := hR.cell 1
    have yf1 := hR.frozen 1
    have y2 := hR.cell 2
    have yf2 := hR.frozen 2
    have y3 := hR.cell 3
    have yf3 := hR.frozen 3
    have y4 := hR.cell 4
    have yf4 := hR.frozen 4
    have y5 := hR.cell 5
    have yf5 := hR.frozen 5
    have s0 := hk6.cell 0
    have g0 := hk6.frozen 0
    have s1 := hk6.cell 1
    have g1 := hk6.frozen 1
    have s2 := hk6.cell 2
    have g2 := hk6.frozen 2
    have s3 := hk6.cell 3
    have g3 := hk6.frozen 3
    have s4 := hk6.cell 4
    have g4 := hk6.frozen 4
    have s5 := hk6.cell 5
    have g5 := hk6.frozen 5
    have HF2 := Lib.hid (hf2.more (L' := w.heap.size) HBN.out.size)
    clear hk6 hB hs2 hf2 hR
    go_wp2_with fail
    exact bodyPost_ret (v := .agg #[.slice B0 m0 d0, .slice B1 m1 d1, .slice B2 m2 d2, .slice B3 m3 d3, .slice B4 m4 d4, .int .i64 sr]) (by simp [results, Tryz.results23, go_sem, s0, s1, s2, s3, s4, s5, g0, g1, g2, g3, g4, g5]) rfl ⟨B0, B1, B2, B3, B4, m0, m1, m2, m3, m4, d0, d1, d2, d3, d4, sr, rfl, HX.out, HF2.out, HB6.out⟩
  · have HW := Lib.hid (fun W => within14 i 8 false (by simpa using hin) W)
    have hpe : putLock14 S i ⟨xu, xh⟩ = S := by unfold putLock14; rw [if_neg hin]
    rw [hpe]
    have HT := Lib.hid (copy14 (.agg #[.slice A0 n0 c0, .slice A1 n1 c1, .slice A2 n2 c2, .slice A3 n3 c3, .slice A4 n4 c4, .int .i64 sq]) S W0 ⟨A0, A1, A2, A3, A4, n0, n1, n2, n3, n4, c0, c1, c2, c3, c4, sq, rfl, ⟨hs.l0, hs.l1, hs.l2, hs.l3, hs.l4, ((hs.r0.below hb (Nat.le_refl _)).more hb.size), ((hs.r1.below hb (Nat.le_refl _)).more hb.size), ((hs.r2.below hb (Nat.le_refl _)).more hb.size), ((hs.r3.below hb (Nat.le_refl _)).more hb.size), ((hs.r4.below hb (Nat.le_refl _)).more hb.size), hs.k0, hs.k1, hs.k2, hs.k3, hs.k4, hs.m0, hs.m1, hs.m2, hs.m3, hs.m4, hs.e⟩⟩)
    have HB0 := Lib.hid hb
    have HR0 := Lib.hid hr
    have HZ := Lib.hid hz
    have t0 := hk.cell 0
    have t1 := hk.cell 1
    have t2 := hk.cell 2
    have t3 := hk.cell 3
    have t4 := hk.cell 4
    have t5 := hk.cell 5
    clear hs hb hk hr hz hpe hin hx
    go_enter Tryz.func23, Tryz.ntmps23
    go_wp2_with fail
    refine (HW.out _).mono ?_
    rintro e w9 ⟨rfl, rfl⟩
    clear HW
    go_wp2_with fail
    refine HT.out.mono ?_
    rintro e w2 ⟨B0, B1, B2, B3, B4, m0, m1, m2, m3, m4, d0, d1, d2, d3, d4, sr, rfl, hs2, hf2, hb2⟩
    have hR := HR0.out.below hb2 HR0.out.lt
    have hB := HB0.out.trans (hb2.mono HB0.out.size)
    clear HT hb2
    have hk6 : Blk ((((((w2.setCell ⟨w.heap.size + 2, 0, none⟩ (.slice B0 m0 d0)).setCell ⟨w.heap.size + 2, 1, none⟩ (.slice B1 m1 d1)).setCell ⟨w.heap.size + 2, 2, none⟩ (.slice B2 m2 d2)).setCell ⟨w.heap.size + 2, 3, none⟩ (.slice B3 m3 d3)).setCell ⟨w.heap.size + 2, 4, none⟩ (.slice B4 m4 d4)).setCell ⟨w.heap.size + 2, 5, none⟩ (.int .i64 sr)) (w.heap.size + 2) 28 #[.slice B0 m0 d0, .slice B1 m1 d1, .slice B2 m2 d2, .slice B3 m3 d3, .slice B4 m4 d4, .int .i64 sr] := by
      have h := (((((hR.set_ 0 (.slice B0 m0 d0)).set_ 1 (.slice B1 m1 d1)).set_ 2 (.slice B2 m2 d2)).set_ 3 (.slice B3 m3 d3)).set_ 4 (.slice B4 m4 d4)).set_ 5 (.int .i64 sr)
      simpa using h
    have HB6 := Lib.hid ((((((hB.setCell (p := ⟨w.heap.size + 2, 0, none⟩) (by simp) (.slice B0 m0 d0)).setCell (p := ⟨w.heap.size + 2, 1, none⟩) (by simp) (.slice B1 m1 d1)).setCell (p := ⟨w.heap.size + 2, 2, none⟩) (by simp) (.slice B2 m2 d2)).setCell (p := ⟨w.heap.size + 2, 3, none⟩) (by simp) (.slice B3 m3 d3)).setCell (p := ⟨w.heap.size + 2, 4, none⟩) (by simp) (.slice B4 m4 d4)).setCell (p := ⟨w.heap.size + 2, 5, none⟩) (by simp) (.int .i64 sr))
    have HX := Lib.hid (sa14_set (sa14_set (sa14_set (sa14_set (sa14_set (sa14_set hs2 hf2 (q := ⟨w.heap.size + 2, 0, none⟩) (by have := HZ.out; simp; omega) (.slice B0 m0 d0)) hf2 (q := ⟨w.heap.size + 2, 1, none⟩) (by have := HZ.out; simp; omega) (.slice B1 m1 d1)) hf2 (q := ⟨w.heap.size + 2, 2, none⟩) (by have := HZ.out; simp; omega) (.slice B2 m2 d2)) hf2 (q := ⟨w.heap.size + 2, 3, none⟩) (by have := HZ.out; simp; omega) (.slice B3 m3 d3)) hf2 (q := ⟨w.heap.size + 2, 4, none⟩) (by have := HZ.out; simp; omega) (.slice B4 m4 d4)) hf2 (q := ⟨w.heap.size + 2, 5, none⟩) (by have := HZ.out; simp; omega) (.int .i64 sr))
    have y0 := hR.cell 0
    have yf0 := hR.frozen 0
    have y1 := hR.cell 1
    have yf1 := hR.frozen 1
    have y2 := hR.cell 2
    have yf2 := hR.frozen 2
    have y3 := hR.cell 3
    have yf3 := hR.frozen 3
    have y4 := hR.cell 4
    have yf4 := hR.frozen 4
    have y5 := hR.cell 5
    have yf5 := hR.frozen 5
    have s0 := hk6.cell 0
    have g0 := hk6.frozen 0
    have s1 := hk6.cell 1
    have g1 := hk6.frozen 1
    have s2 := hk6.cell 2
    have g2 := hk6.frozen 2
    have s3 := hk6.cell 3
    have g3 := hk6.frozen 3
    have s4 := hk6.cell 4
    have g4 := hk6.frozen 4
    have s5 := hk6.cell 5
    have g5 := hk6.frozen 5
    have HF2 := Lib.hid (hf2.more (L' := w.heap.size) HB0.out.size)
    clear hk6 hB hs2 hf2 hR
    go_wp2_with fail
    exact bodyPost_ret (v := .agg #[.slice B0 m0 d0, .slice B1 m1 d1, .slice B2 m2 d2, .slice B3 m3 d3, .slice B4 m4 d4, .int .i64 sr]) (by simp [results, Tryz.results23, go_sem, s0, s1, s2, s3, s4, s5, g0, g1, g2, g3, g4, g5]) rfl ⟨B0, B1, B2, B3, B4, m0, m1, m2, m3, m4, d0, d1, d2, d3, d4, sr, rfl, HX.out, HF2.out, HB6.out⟩
end Go.Proofs.YtfoellhoaflofaaGreat
