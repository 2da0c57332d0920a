/-
  SaidStatePuts, part 10 of 26: what the theorem statePuts_holds reaches.
-/
import Derived.Test.YtfoellhoaflofaaGreatP9
namespace Go.Proofs.YtfoellhoaflofaaGreat
open Go.RowKit
set_option maxRecDepth 100000
theorem sv14_eq {S R : Sv14} : S = R ↔ S.C = R.C ∧ S.T = R.T ∧ S.H = R.H ∧ S.L = R.L ∧ S.Q = R.Q ∧ S.q = R.q := by
  cases S; cases R
  simp
theorem bool14_of {b : Bool} {P : Prop} (h : b = true ↔ P) (hp : ¬ P) : b = false := by
  cases b with
  | false => rfl
  | true => exact absurd (h.1 rfl) hp
/-- Two boxed states. -/
structure Two14 (w : World) (S R : Sv14) (A0 A1 A2 A3 A4 : Option Addr) (n0 n1 n2 n3 n4 c0 c1 c2 c3 c4 : Nat) (sq : Int) (B0 B1 B2 B3 B4 : Option Addr) (m0 m1 m2 m3 m4 d0 d1 d2 d3 d4 : Nat) (sr : Int) (W : World) : Prop where
  b : Below w.heap.size w W
  x : Blk W w.heap.size 28 #[.slice A0 n0 c0, .slice A1 n1 c1, .slice A2 n2 c2, .slice A3 n3 c3, .slice A4 n4 c4, .int .i64 sq]
  y : Blk W (w.heap.size + 1) 28 #[.slice B0 m0 d0, .slice B1 m1 d1, .slice B2 m2 d2, .slice B3 m3 d3, .slice B4 m4 d4, .int .i64 sr]
  s : SA14 W S A0 A1 A2 A3 A4 n0 n1 n2 n3 n4 c0 c1 c2 c3 c4 sq
  r : SA14 W R B0 B1 B2 B3 B4 m0 m1 m2 m3 m4 d0 d1 d2 d3 d4 sr
theorem Two14.new {w : World} {S R : Sv14} {A0 A1 A2 A3 A4 : Option Addr} {n0 n1 n2 n3 n4 c0 c1 c2 c3 c4 : Nat} {sq : Int} {B0 B1 B2 B3 B4 : Option Addr} {m0 m1 m2 m3 m4 d0 d1 d2 d3 d4 : Nat} {sr : Int} (hs : SA14 w S A0 A1 A2 A3 A4 n0 n1 n2 n3 n4 c0 c1 c2 c3 c4 sq) (hr : SA14 w R B0 B1 B2 B3 B4 m0 m1 m2 m3 m4 d0 d1 d2 d3 d4 sr) :
    Two14 w S R A0 A1 A2 A3 A4 n0 n1 n2 n3 n4 c0 c1 c2 c3 c4 sq B0 B1 B2 B3 B4 m0 m1 m2 m3 m4 d0 d1 d2 d3 d4 sr ((w.alloc (.cells #[.slice A0 n0 c0, .slice A1 n1 c1, .slice A2 n2 c2, .slice A3 n3 c3, .slice A4 n4 c4, .int .i64 sq] 28)).alloc (.cells #[.slice B0 m0 d0, .slice B1 m1 d1, .slice B2 m2 d2, .slice B3 m3 d3, .slice B4 m4 d4, .int .i64 sr] 28)) := by
  have hb := (b1' w (.cells #[.slice A0 n0 c0, .slice A1 n1 c1, .slice A2 n2 c2, .slice A3 n3 c3, .slice A4 n4 c4, .int .i64 sq] 28)).alloc (by simp) (.cells #[.slice B0 m0 d0, .slice B1 m1 d1, .slice B2 m2 d2, .slice B3 m3 d3, .slice B4 m4 d4, .int .i64 sr] 28)
  refine ⟨hb, (Blk.new w _ _).alloc _, ?_, hs.step hb, hr.step hb⟩
  have h := Blk.new (w.alloc (.cells #[.slice A0 n0 c0, .slice A1 n1 c1, .slice A2 n2 c2, .slice A3 n3 c3, .slice A4 n4 c4, .int .i64 sq] 28)) 28 #[.slice B0 m0 d0, .slice B1 m1 d1, .slice B2 m2 d2, .slice B3 m3 d3, .slice B4 m4 d4, .int .i64 sr]
  rwa [show (w.alloc (.cells #[.slice A0 n0 c0, .slice A1 n1 c1, .slice A2 n2 c2, .slice A3 n3 c3, .slice A4 n4 c4, .int .i64 sq] 28)).heap.size = w.heap.size + 1 by simp] at h
theorem Two14.step {w : World} {S R : Sv14} {A0 A1 A2 A3 A4 : Option Addr} {n0 n1 n2 n3 n4 c0 c1 c2 c3 c4 : Nat} {sq : Int} {B0 B1 B2 B3 B4 : Option Addr} {m0 m1 m2 m3 m4 d0 d1 d2 d3 d4 : Nat} {sr : Int} {W W' : World} (h : Two14 w S R A0 A1 A2 A3 A4 n0 n1 n2 n3 n4 c0 c1 c2 c3 c4 sq B0 B1 B2 B3 B4 m0 m1 m2 m3 m4 d0 d1 d2 d3 d4 sr W) (hb : Below W.heap.size W W') : Two14 w S R A0 A1 A2 A3 A4 n0 n1 n2 n3 n4 c0 c1 c2 c3 c4 sq B0 B1 B2 B3 B4 m0 m1 m2 m3 m4 d0 d1 d2 d3 d4 sr W' :=
  ⟨h.b.trans (hb.mono h.b.size), h.x.below hb h.x.lt, h.y.below hb h.y.lt, h.s.step hb, h.r.step hb⟩
set_option maxHeartbeats 4000000 in
theorem same14_0 (v u : Value) (S R : Sv14) (w : World) (h : St14 w v S) (g : St14 w u R) (ne : ¬ S.C = R.C) :
    Calls Tryz.prog 11 #[v, u] w fun e w' => e = .returned (.bool false) ∧ Below w.heap.size w w' := by
  obtain ⟨A0, A1, A2, A3, A4, n0, n1, n2, n3, n4, c0, c1, c2, c3, c4, sq, rfl, hs⟩ := h
  obtain ⟨B0, B1, B2, B3, B4, m0, m1, m2, m3, m4, d0, d1, d2, d3, d4, sr, rfl, hr⟩ := g
  have HT0 := Lib.hid (Two14.new hs hr)
  have HC0 := Lib.hid (fun W (h : Two14 w S R A0 A1 A2 A3 A4 n0 n1 n2 n3 n4 c0 c1 c2 c3 c4 sq B0 B1 B2 B3 B4 m0 m1 m2 m3 m4 d0 d1 d2 d3 d4 sr W) => equal14C A0 B0 S.C R.C n0 c0 m0 d0 W h.s.l0 h.s.r0 (by have := h.s.m0; omega) h.r.l0 h.r.r0 (by have := h.r.m0; omega) false (by simp [ne]))
  have t0 := HT0.out.x.cell 0
  have y0 := HT0.out.y.cell 0
  clear hs hr ne
  go_enter Tryz.func11, Tryz.ntmps11
  go_wp2_with fail
  refine (HC0.out _ HT0.out).mono ?_
  rintro e w1 ⟨rfl, hb1⟩
  have HT1 := Lib.hid (HT0.out.step hb1)
  clear HC0 hb1
  go_wp2_with fail
  go_ret
  exact ⟨rfl, HT1.out.b⟩
set_option maxHeartbeats 4000000 in
theorem same14_1 (v u : Value) (S R : Sv14) (w : World) (h : St14 w v S) (g : St14 w u R) (e0 : S.C = R.C) (ne : ¬ S.T = R.T) :
    Calls Tryz.prog 11 #[v, u] w fun e w' => e = .returned (.bool false) ∧ Below w.heap.size w w' := by
  obtain ⟨A0, A1, A2, A3, A4, n0, n1, n2, n3, n4, c0, c1, c2, c3, c4, sq, rfl, hs⟩ := h
  obtain ⟨B0, B1, B2, B3, B4, m0, m1, m2, m3, m4, d0, d1, d2, d3, d4, sr, rfl, hr⟩ := g
  have HT0 := Lib.hid (Two14.new hs hr)
  have HC0 := Lib.hid (fun W (h : Two14 w S R A0 A1 A2 A3 A4 n0 n1 n2 n3 n4 c0 c1 c2 c3 c4 sq B0 B1 B2 B3 B4 m0 m1 m2 m3 m4 d0 d1 d2 d3 d4 sr W) => equal14C A0 B0 S.C R.C n0 c0 m0 d0 W h.s.l0 h.s.r0 (by have := h.s.m0; omega) h.r.l0 h.r.r0 (by have := h.r.m0; omega) true (by simp [e0]))
  have HC1 := Lib.hid (fun W (h : Two14 w S R A0 A1 A2 A3 A4 n0 n1 n2 n3 n4 c0 c1 c2 c3 c4 sq B0 B1 B2 B3 B4 m0 m1 m2 m3 m4 d0 d1 d2 d3 d4 sr W) => equal14T A1 B1 S.T R.T n1 c1 m1 d1 W h.s.l1 h.s.r1 (by have := h.s.m1; omega) h.r.l1 h.r.r1 (by have := h.r.m1; omega) false (by simp [ne]))
  have t0 := HT0.out.x.cell 0
  have y0 := HT0.out.y.cell 0
  clear hs hr e0 ne
  go_enter Tryz.func11, Tryz.ntmps11
  go_wp2_with fail
  refine (HC0.out _ HT0.out).mono ?_
  rintro e w1 ⟨rfl, hb1⟩
  have HT1 := Lib.hid (HT0.out.step hb1)
  have t1 := HT1.out.x.cell 1
  have y1 := HT1.out.y.cell 1
  clear HC0 hb1
  go_wp2_with fail
  refine (HC1.out _ HT1.out).mono ?_
  rintro e w2 ⟨rfl, hb2⟩
  have HT2 := Lib.hid (HT1.out.step hb2)
  clear HC1 hb2
  go_wp2_with fail
  go_ret
  exact ⟨rfl, HT2.out.b⟩
set_option maxHeartbeats 4000000 in
theorem same14_2 (v u : Value) (S R : Sv14) (w : World) (h : St14 w v S) (g : St14 w u R) (e0 : S.C = R.C) (e1 : S.T = R.T) (ne : ¬ S.H = R.H) :
    Calls Tryz.prog 11 #[v, u] w fun e w' => e = .returned (.bool false) ∧ Below w.heap.size w w' := by
  obtain ⟨A0, A1, A2, A3, A4, n0, n1, n2, n3, n4, c0, c1, c2, c3, c4, sq, rfl, hs⟩ := h
  obtain ⟨B0, B1, B2, B3, B4, m0, m1, m2, m3, m4, d0, d1, d2, d3, d4, sr, rfl, hr⟩ := g
  have HT0 := Lib.hid (Two14.new hs hr)
  have HC0 := Lib.hid (fun W (h : Two14 w S R A0 A1 A2 A3 A4 n0 n1 n2 n3 n4 c0 c1 c2 c3 c4 sq B0 B1 B2 B3 B4 m0 m1 m2 m3 m4 d0 d1 d2 d3 d4 sr W) => equal14C A0 B0 S.C R.C n0 c0 m0 d0 W h.s.l0 h.s.r0 (by have := h.s.m0; omega) h.r.l0 h.r.r0 (by have := h.r.m0; omega) true (by simp [e0]))
  have HC1 := Lib.hid (fun W (h : Two14 w S R A0 A1 A2 A3 A4 n0 n1 n2 n3 n4 c0 c1 c2 c3 c4 sq B0 B1 B2 B3 B4 m0 m1 m2 m3 m4 d0 d1 d2 d3 d4 sr W) => equal14T A1 B1 S.T R.T n1 c1 m1 d1 W h.s.l1 h.s.r1 (by have := h.s.m1; omega) h.r.l1 h.r.r1 (by have := h.r.m1; omega) true (by simp [e1]))
  have HC2 := Lib.hid (fun W (h : Two14 w S R A0 A1 A2 A3 A4 n0 n1 n2 n3 n4 c0 c1 c2 c3 c4 sq B0 B1 B2 B3 B4 m0 m1 m2 m3 m4 d0 d1 d2 d3 d4 sr W) => equal14H A2 B2 S.H R.H n2 c2 m2 d2 W h.s.l2 h.s.r2 (by have := h.s.m2; omega) h.r.l2 h.r.r2 (by have := h.r.m2; omega) false (by simp [ne]))
  have t0 := HT0.out.x.cell 0
  have y0 := HT0.out.y.cell 0
  clear hs hr e0 e1 ne
  go_enter Tryz.func11, Tryz.ntmps11
  go_wp2_with fail
  refine (HC0.out _ HT0.out).mono ?_
  rintro e w1 ⟨rfl, hb1⟩
  have HT1 := Lib.hid (HT0.out.step hb1)
  have t1 := HT1.out.x.cell 1
  have y1 := HT1.out.y.cell 1
  clear HC0 hb1
  go_wp2_with fail
  refine (HC1.out _ HT1.out).mono ?_
  rintro e w2 ⟨rfl, hb2⟩
  have HT2 := Lib.hid (HT1.out.step hb2)
  have t2 := HT2.out.x.cell 2
  have y2 := HT2.out.y.cell 2
  clear HC1 hb2
  go_wp2_with fail
  refine (HC2.out _ HT2.out).mono ?_
  rintro e w3 ⟨rfl, hb3⟩
  have HT3 := Lib.hid (HT2.out.step hb3)
  clear HC2 hb3
  go_wp2_with fail
  go_ret
  exact ⟨rfl, HT3.out.b⟩
set_option maxHeartbeats 4000000 in
theorem same14_3 (v u : Value) (S R : Sv14) (w : World) (h : St14 w v S) (g : St14 w u R) (e0 : S.C = R.C) (e1 : S.T = R.T) (e2 : S.H = R.H) (ne : ¬ S.L = R.L) :
    Calls Tryz.prog 11 #[v, u] w fun e w' => e = .returned (.bool false) ∧ Below w.heap.size w w' := by
  obtain ⟨A0, A1, A2, A3, A4, n0, n1, n2, n3, n4, c0, c1, c2, c3, c4, sq, rfl, hs⟩ := h
  obtain ⟨B0, B1, B2, B3, B4, m0, m1, m2, m3, m4, d0, d1, d2, d3, d4, sr, rfl, hr⟩ := g
  have HT0 := Lib.hid (Two14.new hs hr)
  have HC0 := Lib.hid (fun W (h : Two14 w S R A0 A1 A2 A3 A4 n0 n1 n2 n3 n4 c0 c1 c2 c3 c4 sq B0 B1 B2 B3 B4 m0 m1 m2 m3 m4 d0 d1 d2 d3 d4 sr W) => equal14C A0 B0 S.C R.C n0 c0 m0 d0 W h.s.l0 h.s.r0 (by have := h.s.m0; omega) h.r.l0 h.r.r0 (by have := h.r.m0; omega) true (by simp [e0]))
  have HC1 := Lib.hid (fun W (h : Two14 w S R A0 A1 A2 A3 A4 n0 n1 n2 n3 n4 c0 c1 c2 c3 c4 sq B0 B1 B2 B3 B4 m0 m1 m2 m3 m4 d0 d1 d2 d3 d4 sr W) => equal14T A1 B1 S.T R.T n1 c1 m1 d1 W h.s.l1 h.s.r1 (by have := h.s.m1; omega) h.r.l1 h.r.r1 (by have := h.r.m1; omega) true (by simp [e1]))
  have HC2 := Lib.hid (fun W (h : Two14 w S R A0 A1 A2 A3 A4 n0 n1 n2 n3 n4 c0 c1 c2 c3 c4 sq B0 B1 B2 B3 B4 m0 m1 m2 m3 m4 d0 d1 d2 d3 d4 sr W) => equal14H A2 B2 S.H R.H n2 c2 m2 d2 W h.s.l2 h.s.r2 (by have := h.s.m2; omega) h.r.l2 h.r.r2 (by have := h.r.m2; omega) true (by simp [e2]))
  have HC3 := Lib.hid (fun W (h : Two14 w S R A0 A1 A2 A3 A4 n0 n1 n2 n3 n4 c0 c1 c2 c3 c4 sq B0 B1 B2 B3 B4 m0 m1 m2 m3 m4 d0 d1 d2 d3 d4 sr W) => equal14L A3 B3 S.L R.L n3 c3 m3 d3 W h.s.l3 h.s.r3 (by have := h.s.m3; omega) h.r.l3 h.r.r3 (by have := h.r.m3; omega) false (by simp [ne]))
  have t0 := HT0.out.x.cell 0
  have y0 := HT0.out.y.cell 0
  clear hs hr e0 e1 e2 ne
  go_enter Tryz.func11, Tryz.ntmps11
  go_wp2_with fail
  refine (HC0.out _ HT0.out).mono ?_
  rintro e w1 ⟨rfl, hb1⟩
  have HT1 := Lib.hid (HT0.out.step hb1)
  have t1 := HT1.out.x.cell 1
  have y1 := HT1.out.y.cell 1
  clear HC0 hb1
  go_wp2_with fail
  refine (HC1.out _ HT1.out).mono ?_
  rintro e w2 ⟨rfl, hb2⟩
  have HT2 := Lib.hid (HT1.out.step hb2)
  have t2 := HT2.out.x.cell 2
  have y2 := HT2.out.y.cell 2
  clear HC1 hb2
  go_wp2_with fail
  refine (HC2.out _ HT2.out).mono ?_
  rintro e w3 ⟨rfl, hb3⟩
  have HT3 := Lib.hid (HT2.out.step hb3)
  have t3 := HT3.out.x.cell 3
  have y3 := HT3.out.y.cell 3
  clear HC2 hb3
  go_wp2_with fail
  refine (HC3.out _ HT3.out).mono ?_
  rintro e w4 ⟨rfl, hb4⟩
  have HT4 := Lib.hid (HT3.out.step hb4)
  clear HC3 hb4
  go_wp2_with fail
  go_ret
  exact ⟨rfl, HT4.out.b⟩
set_option maxHeartbeats 4000000 in
theorem same14_4 (v u : Value) (S R : Sv14) (w : World) (h : St14 w v S) (g : St14 w u R) (e0 : S.C = R.C) (e1 : S.T = R.T) (e2 : S.H = R.H) (e3 : S.L = R.L) (ne : ¬ S.Q = R.Q) :
    Calls Tryz.prog 11 #[v, u] w fun e w' => e = .returned (.bool false) ∧ Below w.heap.size w w' := by
  obtain ⟨A0, A1, A2, A3, A4, n0, n1, n2, n3, n4, c0, c1, c2, c3, c4, sq, rfl, hs⟩ := h
  obtain ⟨B0, B1, B2, B3, B4, m0, m1, m2, m3, m4, d0, d1, d2, d3, d4, sr, rfl, hr⟩ := g
  have HT0 := Lib.hid (Two14.new hs hr)
  have HC0 := Lib.hid (fun W (h : Two14 w S R A0 A1 A2 A3 A4 n0 n1 n2 n3 n4 c0 c1 c2 c3 c4 sq B0 B1 B2 B3 B4 m0 m1 m2 m3 m4 d0 d1 d2 d3 d4 sr W) => equal14C A0 B0 S.C R.C n0 c0 m0 d0 W h.s.l0 h.s.r0 (by have := h.s.m0; omega) h.r.l0 h.r.r0 (by have := h.r.m0; omega) true (by simp [e0]))
  have HC1 := Lib.hid (fun W (h : Two14 w S R A0 A1 A2 A3 A4 n0 n1 n2 n3 n4 c0 c1 c2 c3 c4 sq B0 B1 B2 B3 B4 m0 m1 m2 m3 m4 d0 d1 d2 d3 d4 sr W) => equal14T A1 B1 S.T R.T n1 c1 m1 d1 W h.s.l1 h.s.r1 (by have := h.s.m1; omega) h.r.l1 h.r.r1 (by have := h.r.m1; omega) true (by simp [e1]))
  have HC2 := Lib.hid (fun W (h : Two14 w S R A0 A1 A2 A3 A4 n0 n1 n2 n3 n4 c0 c1 c2 c3 c4 sq B0 B1 B2 B3 B4 m0 m1 m2 m3 m4 d0 d1 d2 d3 d4 sr W) => equal14H A2 B2 S.H R.H n2 c2 m2 d2 W h.s.l2 h.s.r2 (by have := h.s.m2; omega) h.r.l2 h.r.r2 (by have := h.r.m2; omega) true (by simp [e2]))
  have HC3 := Lib.hid (fun W (h : Two14 w S R A0 A1 A2 A3 A4 n0 n1 n2 n3 n4 c0 c1 c2 c3 c4 sq B0 B1 B2 B3 B4 m0 m1 m2 m3 m4 d0 d1 d2 d3 d4 sr W) => equal14L A3 B3 S.L R.L n3 c3 m3 d3 W h.s.l3 h.s.r3 (by have := h.s.m3; omega) h.r.l3 h.r.r3 (by have := h.r.m3; omega) true (by simp [e3]))
  have HC4 := Lib.hid (fun W (h : Two14 w S R A0 A1 A2 A3 A4 n0 n1 n2 n3 n4 c0 c1 c2 c3 c4 sq B0 B1 B2 B3 B4 m0 m1 m2 m3 m4 d0 d1 d2 d3 d4 sr W) => equal14I A4 B4 S.Q R.Q n4 c4 m4 d4 W h.s.l4 h.s.r4 (by have := h.s.m4; omega) h.r.l4 h.r.r4 (by have := h.r.m4; omega) false (by simp [ne]))
  have t0 := HT0.out.x.cell 0
  have y0 := HT0.out.y.cell 0
  clear hs hr e0 e1 e2 e3 ne
  go_enter Tryz.func11, Tryz.ntmps11
  go_wp2_with fail
  refine (HC0.out _ HT0.out).mono ?_
  rintro e w1 ⟨rfl, hb1⟩
  have HT1 := Lib.hid (HT0.out.step hb1)
  have t1 := HT1.out.x.cell 1
  have y1 := HT1.out.y.cell 1
  clear HC0 hb1
  go_wp2_with fail
  refine (HC1.out _ HT1.out).mono ?_
  rintro e w2 ⟨rfl, hb2⟩
  have HT2 := Lib.hid (HT1.out.step hb2)
  have t2 := HT2.out.x.cell 2
  have y2 := HT2.out.y.cell 2
  clear HC1 hb2
  go_wp2_with fail
  refine (HC2.out _ HT2.out).mono ?_
  rintro e w3 ⟨rfl, hb3⟩
  have HT3 := Lib.hid (HT2.out.step hb3)
  have t3 := HT3.out.x.cell 3
  have y3 := HT3.out.y.cell 3
  clear HC2 hb3
  go_wp2_with fail
  refine (HC3.out _ HT3.out).mono ?_
  rintro e w4 ⟨rfl, hb4⟩
  have HT4 := Lib.hid (HT3.out.step hb4)
  have t4 := HT4.out.x.cell 4
  have y4 := HT4.out.y.cell 4
  clear HC3 hb4
  go_wp2_with fail
  refine (HC4.out _ HT4.out).mono ?_
  rintro e w5 ⟨rfl, hb5⟩
  have HT5 := Lib.hid (HT4.out.step hb5)
  clear HC4 hb5
  go_wp2_with fail
  go_ret
  exact ⟨rfl, HT5.out.b⟩
set_option maxHeartbeats 4000000 in
theorem same14_5 (v u : Value) (S R : Sv14) (w : World) (h : St14 w v S) (g : St14 w u R) (e0 : S.C = R.C) (e1 : S.T = R.T) (e2 : S.H = R.H) (e3 : S.L = R.L) (e4 : S.Q = R.Q) (ne : ¬ S.q = R.q) :
    Calls Tryz.prog 11 #[v, u] w fun e w' => e = .returned (.bool false) ∧ Below w.heap.size w w' := by
  obtain ⟨A0, A1, A2, A3, A4, n0, n1, n2, n3, n4, c0, c1, c2, c3, c4, sq, rfl, hs⟩ := h
  obtain ⟨B0, B1, B2, B3, B4, m0, m1, m2, m3, m4, d0, d1, d2, d3, d4, sr, rfl, hr⟩ := g
  have HT0 := Lib.hid (Two14.new hs hr)
  have HC0 := Lib.hid (fun W (h : Two14 w S R A0 A1 A2 A3 A4 n0 n1 n2 n3 n4 c0 c1 c2 c3 c4 sq B0 B1 B2 B3 B4 m0 m1 m2 m3 m4 d0 d1 d2 d3 d4 sr W) => equal14C A0 B0 S.C R.C n0 c0 m0 d0 W h.s.l0 h.s.r0 (by have := h.s.m0; omega) h.r.l0 h.r.r0 (by have := h.r.m0; omega) true (by simp [e0]))
  have HC1 := Lib.hid (fun W (h : Two14 w S R A0 A1 A2 A3 A4 n0 n1 n2 n3 n4 c0 c1 c2 c3 c4 sq B0 B1 B2 B3 B4 m0 m1 m2 m3 m4 d0 d1 d2 d3 d4 sr W) => equal14T A1 B1 S.T R.T n1 c1 m1 d1 W h.s.l1 h.s.r1 (by have := h.s.m1; omega) h.r.l1 h.r.r1 (by have := h.r.m1; omega) true (by simp [e1]))
  have HC2 := Lib.hid (fun W (h : Two14 w S R A0 A1 A2 A3 A4 n0 n1 n2 n3 n4 c0 c1 c2 c3 c4 sq B0 B1 B2 B3 B4 m0 m1 m2 m3 m4 d0 d1 d2 d3 d4 sr W) => equal14H A2 B2 S.H R.H n2 c2 m2 d2 W h.s.l2 h.s.r2 (by have := h.s.m2; omega) h.r.l2 h.r.r2 (by have := h.r.m2; omega) true (by simp [e2]))
  have HC3 := Lib.hid (fun W (h : Two14 w S R A0 A1 A2 A3 A4 n0 n1 n2 n3 n4 c0 c1 c2 c3 c4 sq B0 B1 B2 B3 B4 m0 m1 m2 m3 m4 d0 d1 d2 d3 d4 sr W) => equal14L A3 B3 S.L R.L n3 c3 m3 d3 W h.s.l3 h.s.r3 (by have := h.s.m3; omega) h.r.l3 h.r.r3 (by have := h.r.m3; omega) true (by simp [e3]))
  have HC4 := Lib.hid (fun W (h : Two14 w S R A0 A1 A2 A3 A4 n0 n1 n2 n3 n4 c0 c1 c2 c3 c4 sq B0 B1 B2 B3 B4 m0 m1 m2 m3 m4 d0 d1 d2 d3 d4 sr W) => equal14I A4 B4 S.Q R.Q n4 c4 m4 d4 W h.s.l4 h.s.r4 (by have := h.s.m4; omega) h.r.l4 h.r.r4 (by have := h.r.m4; omega) true (by simp [e4]))
  have t0 := HT0.out.x.cell 0
  have y0 := HT0.out.y.cell 0
  have HNE : Hid ((sq == sr) = false) := Lib.hid (by rw [← hs.e, ← hr.e]; simpa using ne)
  clear hs hr e0 e1 e2 e3 e4 ne
  go_enter Tryz.func11, Tryz.ntmps11
  go_wp2_with fail
  refine (HC0.out _ HT0.out).mono ?_
  rintro e w1 ⟨rfl, hb1⟩
  have HT1 := Lib.hid (HT0.out.step hb1)
  have t1 := HT1.out.x.cell 1
  have y1 := HT1.out.y.cell 1
  clear HC0 hb1
  go_wp2_with fail
  refine (HC1.out _ HT1.out).mono ?_
  rintro e w2 ⟨rfl, hb2⟩
  have HT2 := Lib.hid (HT1.out.step hb2)
  have t2 := HT2.out.x.cell 2
  have y2 := HT2.out.y.cell 2
  clear HC1 hb2
  go_wp2_with fail
  refine (HC2.out _ HT2.out).mono ?_
  rintro e w3 ⟨rfl, hb3⟩
  have HT3 := Lib.hid (HT2.out.step hb3)
  have t3 := HT3.out.x.cell 3
  have y3 := HT3.out.y.cell 3
  clear HC2 hb3
  go_wp2_with fail
  refine (HC3.out _ HT3.out).mono ?_
  rintro e w4 ⟨rfl, hb4⟩
  have HT4 := Lib.hid (HT3.out.step hb4)
  have t4 := HT4.out.x.cell 4
  have y4 := HT4.out.y.cell 4
  clear HC3 hb4
  go_wp2_with fail
  refine (HC4.out _ HT4.out).mono ?_
  rintro e w5 ⟨rfl, hb5⟩
  have HT5 := Lib.hid (HT4.out.step hb5)
  have t5 := HT5.out.x.cell 5
  have y5 := HT5.out.y.cell 5
  clear HC4 hb5
  go_wp2_with fail
  go_ret
  exact ⟨by show Ending.returned (Value.bool (sq == sr)) = _; rw [HNE.out], HT5.out.b⟩
set_option maxHeartbeats 4000000 in
theorem same14_6 (v u : Value) (S R : Sv14) (w : World) (h : St14 w v S) (g : St14 w u R) (e0 : S.C = R.C) (e1 : S.T = R.T) (e2 : S.H = R.H) (e3 : S.L = R.L) (e4 : S.Q = R.Q) (e5 : S.q = R.q) :
    Calls Tryz.prog 11 #[v, u] w fun e w' => e = .returned (.bool true) ∧ Below w.heap.size w w' := by
  obtain ⟨A0, A1, A2, A3, A4, n0, n1, n2, n3, n4, c0, c1, c2, c3, c4, sq, rfl, hs⟩ := h
  obtain ⟨B0, B1, B2, B3, B4, m0, m1, m2, m3, m4, d0, d1, d2, d3, d4, sr, rfl, hr⟩ := g
  have HT0 := Lib.hid (Two14.new hs hr)
  have HC0 := Lib.hid (fun W (h : Two14 w S R A0 A1 A2 A3 A4 n0 n1 n2 n3 n4 c0 c1 c2 c3 c4 sq B0 B1 B2 B3 B4 m0 m1 m2 m3 m4 d0 d1 d2 d3 d4 sr W) => equal14C A0 B0 S.C R.C n0 c0 m0 d0 W h.s.l0 h.s.r0 (by have := h.s.m0; omega) h.r.l0 h.r.r0 (by have := h.r.m0; omega) true (by simp [e0]))
  have HC1 := Lib.hid (fun W (h : Two14 w S R A0 A1 A2 A3 A4 n0 n1 n2 n3 n4 c0 c1 c2 c3 c4 sq B0 B1 B2 B3 B4 m0 m1 m2 m3 m4 d0 d1 d2 d3 d4 sr W) => equal14T A1 B1 S.T R.T n1 c1 m1 d1 W h.s.l1 h.s.r1 (by have := h.s.m1; omega) h.r.l1 h.r.r1 (by have := h.r.m1; omega) true (by simp [e1]))
  have HC2 := Lib.hid (fun W (h : Two14 w S R A0 A1 A2 A3 A4 n0 n1 n2 n3 n4 c0 c1 c2 c3 c4 sq B0 B1 B2 B3 B4 m0 m1 m2 m3 m4 d0 d1 d2 d3 d4 sr W) => equal14H A2 B2 S.H R.H n2 c2 m2 d2 W h.s.l2 h.s.r2 (by have := h.s.m2; omega) h.r.l2 h.r.r2 (by have := h.r.m2; omega) true (by simp [e2]))
  have HC3 := Lib.hid (fun W (h : Two14 w S R A0 A1 A2 A3 A4 n0 n1 n2 n3 n4 c0 c1 c2 c3 c4 sq B0 B1 B2 B3 B4 m0 m1 m2 m3 m4 d0 d1 d2 d3 d4 sr W) => equal14L A3 B3 S.L R.L n3 c3 m3 d3 W h.s.l3 h.s.r3 (by have := h.s.m3; omega) h.r.l3 h.r.r3 (by have := h.r.m3; omega) true (by simp [e3]))
  have HC4 := Lib.hid (fun W (h : Two14 w S R A0 A1 A2 A3 A4 n0 n1 n2 n3 n4 c0 c1 c2 c3 c4 sq B0 B1 B2 B3 B4 m0 m1 m2 m3 m4 d0 d1 d2 d3 d4 sr W) => equal14I A4 B4 S.Q R.Q n4 c4 m4 d4 W h.s.l4 h.s.r4 (by have := h.s.m4; omega) h.r.l4 h.r.r4 (by have := h.r.m4; omega) true (by simp [e4]))
  have t0 := HT0.out.x.cell 0
  have y0 := HT0.out.y.cell 0
  have hee : sq = sr := by rw [← hs.e, ← hr.e]; exact e5
  subst hee
  clear hs hr e0 e1 e2 e3 e4 e5
  go_enter Tryz.func11, Tryz.ntmps11
  go_wp2_with fail
  refine (HC0.out _ HT0.out).mono ?_
  rintro e w1 ⟨rfl, hb1⟩
  have HT1 := Lib.hid (HT0.out.step hb1)
  have t1 := HT1.out.x.cell 1
  have y1 := HT1.out.y.cell 1
  clear HC0 hb1
  go_wp2_with fail
  refine (HC1.out _ HT1.out).mono ?_
  rintro e w2 ⟨rfl, hb2⟩
  have HT2 := Lib.hid (HT1.out.step hb2)
  have t2 := HT2.out.x.cell 2
  have y2 := HT2.out.y.cell 2
  clear HC1 hb2
  go_wp2_with fail
  refine (HC2.out _ HT2.out).mono ?_
  rintro e w3 ⟨rfl, hb3⟩
  have HT3 := Lib.hid (HT2.out.step hb3)
  have t3 := HT3.out.x.cell 3
  have y3 := HT3.out.y.cell 3
  clear HC2 hb3
  go_wp2_with fail
  refine (HC3.out _ HT3.out).mono ?_
  rintro e w4 ⟨rfl, hb4⟩
  have HT4 := Lib.hid (HT3.out.step hb4)
  have t4 := HT4.out.x.cell 4
  have y4 := HT4.out.y.cell 4
  clear HC3 hb4
  go_wp2_with fail
  refine (HC4.out _ HT4.out).mono ?_
  rintro e w5 ⟨rfl, hb5⟩
  have HT5 := Lib.hid (HT4.out.step hb5)
  have t5 := HT5.out.x.cell 5
  have y5 := HT5.out.y.cell 5
  clear HC4 hb5
  go_wp2_with fail
  go_ret
  exact ⟨rfl, HT5.out.b⟩
theorem same14 (v u : Value) (S R : Sv14) (w : World) (h : St14 w v S) (g : St14 w u R) (b : Bool) (hb : b = true ↔ S = R) :
    Calls Tryz.prog 11 #[v, u] w fun e w' => e = .returned (.bool b) ∧ Below w.heap.size w w' := by
  rw [sv14_eq] at hb
  by_cases e0 : S.C = R.C
  case neg =>
    obtain rfl : b = false := bool14_of hb (fun h => e0 h.1)
    exact same14_0 v u S R w h g e0
  by_cases e1 : S.T = R.T
  case neg =>
    obtain rfl : b = false := bool14_of hb (fun h => e1 h.2.1)
    exact same14_1 v u S R w h g e0 e1
  by_cases e2 : S.H = R.H
  case neg =>
    obtain rfl : b = false := bool14_of hb (fun h => e2 h.2.2.1)
    exact same14_2 v u S R w h g e0 e1 e2
  by_cases e3 : S.L = R.L
  case neg =>
    obtain rfl : b = false := bool14_of hb (fun h => e3 h.2.2.2.1)
    exact same14_3 v u S R w h g e0 e1 e2 e3
  by_cases e4 : S.Q = R.Q
  case neg =>
    obtain rfl : b = false := bool14_of hb (fun h => e4 h.2.2.2.2.1)
    exact same14_4 v u S R w h g e0 e1 e2 e3 e4
  by_cases e5 : S.q = R.q
  case neg =>
    obtain rfl : b = false := bool14_of hb (fun h => e5 h.2.2.2.2.2)
    exact same14_5 v u S R w h g e0 e1 e2 e3 e4 e5
  obtain rfl : b = true := hb.2 ⟨e0, e1, e2, e3, e4, e5⟩
  exact same14_6 v u S R w h g e0 e1 e2 e3 e4 e5
set_option maxHeartbeats 2000000 in
theorem new14_no (q : Int) (w : World) (h : ¬ (1 ≤ q ∧ q ≤ 1000)) :
    Calls Tryz.prog 7 #[.int .i64 q] w fun e w' => e = .returned (.tuple #[.agg #[.slice none 0 0, .slice none 0 0, .slice none 0 0, .slice none 0 0, .slice none 0 0, .int .i64 0], .int .i64 1]) ∧ Below w.heap.size w w' := by
  have hk := Blk.new w 28 #[.slice none 0 0, .slice none 0 0, .slice none 0 0, .slice none 0 0, .slice none 0 0, .int .i64 0]

  have hb := b1' w (.cells #[.slice none 0 0, .slice none 0 0, .slice none 0 0, .slice none 0 0, .slice none 0 0, .int .i64 0] 28)
  obtain ⟨W0, hW0⟩ : ∃ W, w.alloc (.cells #[.slice none 0 0, .slice none 0 0, .slice none 0 0, .slice none 0 0, .slice none 0 0, .int .i64 0] 28) = W := ⟨_, rfl⟩
  rw [hW0] at hk hb
  have y0 := hk.cell 0
  have yf0 := hk.frozen 0
  have y1 := hk.cell 1
  have yf1 := hk.frozen 1
  have y2 := hk.cell 2
  have yf2 := hk.frozen 2
  have y3 := hk.cell 3
  have yf3 := hk.frozen 3
  have y4 := hk.cell 4
  have yf4 := hk.frozen 4
  have y5 := hk.cell 5
  have yf5 := hk.frozen 5
  have HB := Lib.hid ((((((hb.setCell (p := ⟨w.heap.size, 0, none⟩) (Nat.le_refl _) (.slice none 0 0)).setCell (p := ⟨w.heap.size, 1, none⟩) (Nat.le_refl _) (.slice none 0 0)).setCell (p := ⟨w.heap.size, 2, none⟩) (Nat.le_refl _) (.slice none 0 0)).setCell (p := ⟨w.heap.size, 3, none⟩) (Nat.le_refl _) (.slice none 0 0)).setCell (p := ⟨w.heap.size, 4, none⟩) (Nat.le_refl _) (.slice none 0 0)).setCell (p := ⟨w.heap.size, 5, none⟩) (Nat.le_refl _) (.int .i64 0))
  have hk2 : Blk (((((((W0.setCell ⟨w.heap.size, 0, none⟩ (.slice none 0 0)).setCell ⟨w.heap.size, 1, none⟩ (.slice none 0 0)).setCell ⟨w.heap.size, 2, none⟩ (.slice none 0 0)).setCell ⟨w.heap.size, 3, none⟩ (.slice none 0 0)).setCell ⟨w.heap.size, 4, none⟩ (.slice none 0 0)).setCell ⟨w.heap.size, 5, none⟩ (.int .i64 0))) w.heap.size 28 #[.slice none 0 0, .slice none 0 0, .slice none 0 0, .slice none 0 0, .slice none 0 0, .int .i64 0] := by
    have h := ((((((hk.set_ 0 (.slice none 0 0)).set_ 1 (.slice none 0 0)).set_ 2 (.slice none 0 0)).set_ 3 (.slice none 0 0)).set_ 4 (.slice none 0 0)).set_ 5 (.int .i64 0))
    simpa using h
  have s0 := hk2.cell 0
  have g0 := hk2.frozen 0
  have s1 := hk2.cell 1
  have g1 := hk2.frozen 1
  have s2 := hk2.cell 2
  have g2 := hk2.frozen 2
  have s3 := hk2.cell 3
  have g3 := hk2.frozen 3
  have s4 := hk2.cell 4
  have g4 := hk2.frozen 4
  have s5 := hk2.cell 5
  have g5 := hk2.frozen 5
  clear hk2 hk hb
  by_cases h1 : q < 1
  · clear h
    go_enter Tryz.func7, Tryz.ntmps7
    go_wp2_with fail
    exact bodyPost_ret (v := .tuple #[.agg #[.slice none 0 0, .slice none 0 0, .slice none 0 0, .slice none 0 0, .slice none 0 0, .int .i64 0], .int .i64 1]) (by simp [results, Tryz.results7, go_sem, hW0, s0, s1, s2, s3, s4, s5, g0, g1, g2, g3, g4, g5]) rfl ⟨rfl, HB.out⟩
  · have h2 : 1000 < q := by omega
    clear h
    go_enter Tryz.func7, Tryz.ntmps7
    go_wp2_with fail
    exact bodyPost_ret (v := .tuple #[.agg #[.slice none 0 0, .slice none 0 0, .slice none 0 0, .slice none 0 0, .slice none 0 0, .int .i64 0], .int .i64 1]) (by simp [results, Tryz.results7, go_sem, hW0, s0, s1, s2, s3, s4, s5, g0, g1, g2, g3, g4, g5]) rfl ⟨rfl, HB.out⟩
theorem st14_zero (w : World) : St14 w (.agg #[.slice none 0 0, .slice none 0 0, .slice none 0 0, .slice none 0 0, .slice none 0 0, .int .i64 0]) ⟨[], [], [], [], [], 0⟩ :=
  ⟨none, none, none, none, none, 0, 0, 0, 0, 0, 0, 0, 0, 0, 0, 0, rfl, ⟨rfl, rfl, rfl, rfl, rfl, Lq.nil _ _ _ _, Lq.nil _ _ _ _, Lq.nil _ _ _ _, Lq.nil _ _ _ _, Lq.nil _ _ _ _, Nat.le_refl _, Nat.le_refl _, Nat.le_refl _, Nat.le_refl _, Nat.le_refl _, (Nat.zero_le _), (Nat.zero_le _), (Nat.zero_le _), (Nat.zero_le _), (Nat.zero_le _), rfl⟩⟩
theorem sa14_new (w : World) (q : Int) {g : Nat} (h : w.cell? ⟨g, 0, none⟩ = some (.bool true)) : SA14 w ⟨[true], [], [], [], [], q⟩ (some ⟨g, 0, none⟩) none none none none 1 0 0 0 0 1 0 0 0 0 q :=
  ⟨rfl, rfl, rfl, rfl, rfl, (fun _ => ⟨g, 0, rfl, World.block_lt_of_cell? w _ h, fun k v hk => by
    match k, hk with
    | 0, hk => simp [fl14, clC] at hk; subst hk; exact h
    | k + 1, hk => simp [fl14, clC] at hk⟩), Lq.nil _ _ _ _, Lq.nil _ _ _ _, Lq.nil _ _ _ _, Lq.nil _ _ _ _, Nat.le_refl _, Nat.le_refl _, Nat.le_refl _, Nat.le_refl _, Nat.le_refl _, (by omega), (by omega), (by omega), (by omega), (by omega), rfl⟩
set_option maxHeartbeats 2000000 in
theorem new14_yes (q : Int) (w : World) (h1 : 1 ≤ q) (h2 : q ≤ 1000) :
    Calls Tryz.prog 7 #[.int .i64 q] w fun e w' => ∃ v, e = .returned (.tuple #[v, .int .i64 0]) ∧ St14 w' v ⟨[true], [], [], [], [], q⟩ ∧ Below w.heap.size w w' := by
  have hk := (Blk.new w 28 #[.slice none 0 0, .slice none 0 0, .slice none 0 0, .slice none 0 0, .slice none 0 0, .int .i64 0]).alloc (.cells #[.bool true] 4)
  have hl := Blk.new (w.alloc (.cells #[.slice none 0 0, .slice none 0 0, .slice none 0 0, .slice none 0 0, .slice none 0 0, .int .i64 0] 28)) 4 #[.bool true]
  rw [show (w.alloc (.cells #[.slice none 0 0, .slice none 0 0, .slice none 0 0, .slice none 0 0, .slice none 0 0, .int .i64 0] 28)).heap.size = w.heap.size + 1 by simp] at hl
  have hb := (b1' w (.cells #[.slice none 0 0, .slice none 0 0, .slice none 0 0, .slice none 0 0, .slice none 0 0, .int .i64 0] 28)).alloc (by simp) (.cells #[.bool true] 4)
  obtain ⟨W0, hW0⟩ : ∃ W, (w.alloc (.cells #[.slice none 0 0, .slice none 0 0, .slice none 0 0, .slice none 0 0, .slice none 0 0, .int .i64 0] 28)).alloc (.cells #[.bool true] 4) = W := ⟨_, rfl⟩
  rw [hW0] at hk hl hb
  have y0 := hk.cell 0
  have yf0 := hk.frozen 0
  have y1 := hk.cell 1
  have yf1 := hk.frozen 1
  have y2 := hk.cell 2
  have yf2 := hk.frozen 2
  have y3 := hk.cell 3
  have yf3 := hk.frozen 3
  have y4 := hk.cell 4
  have yf4 := hk.frozen 4
  have y5 := hk.cell 5
  have yf5 := hk.frozen 5
  have hk2 : Blk (((((((W0.setCell ⟨w.heap.size, 0, none⟩ (.slice (some ⟨w.heap.size + 1, 0, none⟩) 1 1)).setCell ⟨w.heap.size, 1, none⟩ (.slice none 0 0)).setCell ⟨w.heap.size, 2, none⟩ (.slice none 0 0)).setCell ⟨w.heap.size, 3, none⟩ (.slice none 0 0)).setCell ⟨w.heap.size, 4, none⟩ (.slice none 0 0)).setCell ⟨w.heap.size, 5, none⟩ (.int .i64 q))) w.heap.size 28 #[.slice (some ⟨w.heap.size + 1, 0, none⟩) 1 1, .slice none 0 0, .slice none 0 0, .slice none 0 0, .slice none 0 0, .int .i64 q] := by
    have h := ((((((hk.set_ 0 (.slice (some ⟨w.heap.size + 1, 0, none⟩) 1 1)).set_ 1 (.slice none 0 0)).set_ 2 (.slice none 0 0)).set_ 3 (.slice none 0 0)).set_ 4 (.slice none 0 0)).set_ 5 (.int .i64 q))
    simpa using h
  have HB := Lib.hid ((((((hb.setCell (p := ⟨w.heap.size, 0, none⟩) (Nat.le_refl _) (.slice (some ⟨w.heap.size + 1, 0, none⟩) 1 1)).setCell (p := ⟨w.heap.size, 1, none⟩) (Nat.le_refl _) (.slice none 0 0)).setCell (p := ⟨w.heap.size, 2, none⟩) (Nat.le_refl _) (.slice none 0 0)).setCell (p := ⟨w.heap.size, 3, none⟩) (Nat.le_refl _) (.slice none 0 0)).setCell (p := ⟨w.heap.size, 4, none⟩) (Nat.le_refl _) (.slice none 0 0)).setCell (p := ⟨w.heap.size, 5, none⟩) (Nat.le_refl _) (.int .i64 q))
  have HL := Lib.hid ((((((((hl.far (p := ⟨w.heap.size, 0, none⟩) (by simp) (.slice (some ⟨w.heap.size + 1, 0, none⟩) 1 1)).far (p := ⟨w.heap.size, 1, none⟩) (by simp) (.slice none 0 0)).far (p := ⟨w.heap.size, 2, none⟩) (by simp) (.slice none 0 0)).far (p := ⟨w.heap.size, 3, none⟩) (by simp) (.slice none 0 0)).far (p := ⟨w.heap.size, 4, none⟩) (by simp) (.slice none 0 0)).far (p := ⟨w.heap.size, 5, none⟩) (by simp) (.int .i64 q))).cell 0)
  have s0 := hk2.cell 0
  have g0 := hk2.frozen 0
  have s1 := hk2.cell 1
  have g1 := hk2.frozen 1
  have s2 := hk2.cell 2
  have g2 := hk2.frozen 2
  have s3 := hk2.cell 3
  have g3 := hk2.frozen 3
  have s4 := hk2.cell 4
  have g4 := hk2.frozen 4
  have s5 := hk2.cell 5
  have g5 := hk2.frozen 5
  have i1 : ¬ q < 1 := by omega
  have i2 : ¬ 1000 < q := by omega
  clear hk hk2 hl hb h1 h2
  go_enter Tryz.func7, Tryz.ntmps7
  go_wp2_with fail
  exact bodyPost_ret (v := .tuple #[.agg #[.slice (some ⟨w.heap.size + 1, 0, none⟩) 1 1, .slice none 0 0, .slice none 0 0, .slice none 0 0, .slice none 0 0, .int .i64 q], .int .i64 0]) (by simp [results, Tryz.results7, go_sem, hW0, s0, s1, s2, s3, s4, s5, g0, g1, g2, g3, g4, g5]) rfl ⟨_, rfl, ⟨some ⟨w.heap.size + 1, 0, none⟩, none, none, none, none, 1, 0, 0, 0, 0, 1, 0, 0, 0, 0, q, rfl, sa14_new _ q HL.out⟩, HB.out⟩
end Go.Proofs.YtfoellhoaflofaaGreat
namespace Go.Proofs.YtfoellhoaflofaaGreat
open Go.RowKit
set_option maxRecDepth 100000
/-- Is a state not too long? -/
def Small14 (n0 n1 n2 n3 n4 : Nat) : Prop := n0 ≤ 40 ∧ n1 ≤ 200 ∧ n2 ≤ 80 ∧ n3 ≤ 40 ∧ n4 ≤ 100
set_option maxHeartbeats 2000000 in
theorem small14 (A0 A1 A2 A3 A4 : Option Addr) (n0 n1 n2 n3 n4 c0 c1 c2 c3 c4 : Nat) (sq : Int) (b : Bool) (w : World) (hb : b = true ↔ Small14 n0 n1 n2 n3 n4) :
    Calls Tryz.prog 5 #[.agg #[.slice A0 n0 c0, .slice A1 n1 c1, .slice A2 n2 c2, .slice A3 n3 c3, .slice A4 n4 c4, .int .i64 sq]] w fun e w' => e = .returned (.bool b) ∧ Below w.heap.size w w' := by
  have hk := Blk.new w 28 #[.slice A0 n0 c0, .slice A1 n1 c1, .slice A2 n2 c2, .slice A3 n3 c3, .slice A4 n4 c4, .int .i64 sq]
  have q0 := hk.cell 0
  have q1 := hk.cell 1
  have q2 := hk.cell 2
  have q3 := hk.cell 3
  have q4 := hk.cell 4
  have hb1 := b1' w (.cells #[.slice A0 n0 c0, .slice A1 n1 c1, .slice A2 n2 c2, .slice A3 n3 c3, .slice A4 n4 c4, .int .i64 sq] 28)
  clear hk
  by_cases e0 : n0 ≤ 40
  case neg =>
    obtain rfl : b = false := bool14_of hb (fun h => e0 h.1)
    have f0 : ¬ (n0 : Int) ≤ 40 := by omega
    have g0 : decide ((n0 : Int) ≤ 40) = false := decide_eq_false f0
    clear hb e0
    go_enter Tryz.func5, Tryz.ntmps5
    go_wp2_with fail
    go_ret
    exact ⟨rfl, hb1⟩
  have f0 : (n0 : Int) ≤ 40 := by omega
  by_cases e1 : n1 ≤ 200
  case neg =>
    obtain rfl : b = false := bool14_of hb (fun h => e1 h.2.1)
    have f1 : ¬ (n1 : Int) ≤ 200 := by omega
    have g1 : decide ((n1 : Int) ≤ 200) = false := decide_eq_false f1
    clear hb e1
    go_enter Tryz.func5, Tryz.ntmps5
    go_wp2_with fail
    go_ret
    exact ⟨rfl, hb1⟩
  have f1 : (n1 : Int) ≤ 200 := by omega
  by_cases e2 : n2 ≤ 80
  case neg =>
    obtain rfl : b = false := bool14_of hb (fun h => e2 h.2.2.1)
    have f2 : ¬ (n2 : Int) ≤ 80 := by omega
    have g2 : decide ((n2 : Int) ≤ 80) = false := decide_eq_false f2
    clear hb e2
    go_enter Tryz.func5, Tryz.ntmps5
    go_wp2_with fail
    go_ret
    exact ⟨rfl, hb1⟩
  have f2 : (n2 : Int) ≤ 80 := by omega
  by_cases e3 : n3 ≤ 40
  case neg =>
    obtain rfl : b = false := bool14_of hb (fun h => e3 h.2.2.2.1)
    have f3 : ¬ (n3 : Int) ≤ 40 := by omega
    have g3 : decide ((n3 : Int) ≤ 40) = false := decide_eq_false f3
    clear hb e3
    go_enter Tryz.func5, Tryz.ntmps5
    go_wp2_with fail
    go_ret
    exact ⟨rfl, hb1⟩
  have f3 : (n3 : Int) ≤ 40 := by omega
  by_cases e4 : n4 ≤ 100
  case neg =>
    obtain rfl : b = false := bool14_of hb (fun h => e4 h.2.2.2.2)
    have f4 : ¬ (n4 : Int) ≤ 100 := by omega
    have g4 : decide ((n4 : Int) ≤ 100) = false := decide_eq_false f4
    clear hb e4
    go_enter Tryz.func5, Tryz.ntmps5
    go_wp2_with fail
    go_ret
    exact ⟨rfl, hb1⟩
  have f4 : (n4 : Int) ≤ 100 := by omega
  obtain rfl : b = true := hb.2 ⟨e0, e1, e2, e3, e4⟩
  clear hb e0 e1 e2 e3 e4
  go_enter Tryz.func5, Tryz.ntmps5
  go_wp2_with fail
  go_ret
  exact ⟨rfl, hb1⟩
set_option maxHeartbeats 2000000 in
theorem rCoin14 (v : Value) (S : Sv14) (i : Int) (b : Bool) (w : World) (h : St14 w v S) (hb : us14 usC S.C i = b) :
    Calls Tryz.prog 32 #[v, .int .i64 i] w fun e w' => e = .returned (.bool b) ∧ Below w.heap.size w w' := by
  obtain ⟨A0, A1, A2, A3, A4, n0, n1, n2, n3, n4, c0, c1, c2, c3, c4, sq, rfl, hs⟩ := h
  have hb1 := b1' w (.cells #[.slice A0 n0 c0, .slice A1 n1 c1, .slice A2 n2 c2, .slice A3 n3 c3, .slice A4 n4 c4, .int .i64 sq] 28)
  have hk1 := Blk.new w 28 #[.slice A0 n0 c0, .slice A1 n1 c1, .slice A2 n2 c2, .slice A3 n3 c3, .slice A4 n4 c4, .int .i64 sq]
  have hs1 := hs.step hb1
  obtain ⟨w1, hw1⟩ : ∃ W, w.alloc (.cells #[.slice A0 n0 c0, .slice A1 n1 c1, .slice A2 n2 c2, .slice A3 n3 c3, .slice A4 n4 c4, .int .i64 sq] 28) = W := ⟨_, rfl⟩
  rw [hw1] at hb1 hk1 hs1
  have q0 := hk1.cell 0
  by_cases hin : 0 ≤ i ∧ i < (n0 : Int)
  · obtain ⟨k, rfl⟩ : ∃ k : Nat, i = (k : Int) := ⟨i.toNat, by omega⟩
    obtain ⟨a, o, hA, hab, hq⟩ := Lq.at_ len14C (by omega) hs1.r0 (show k < S.C.length by rw [hs1.l0]; omega)
    subst hA
    rw [us14_nat] at hb
    obtain ⟨x, hx⟩ : ∃ x, gt14 S.C k = x := ⟨_, rfl⟩
    rw [hx] at hq hb
    obtain ⟨xu, hxe⟩ : ∃ z0, z0 = x := ⟨_, rfl⟩; subst hxe
    have p0 : w1.cell? ⟨a, o + k, none⟩ = some (.bool xu) := by have h := hq 0 _ rfl; rwa [Nat.mul_one] at h
    have i0 : (0 : Int) ≤ (k : Int) := by omega
    have i1 : (k : Int) < (n0 : Int) := by omega
    have HU : Hid (b = xu) := Lib.hid hb.symm
    clear hb hq hx hin hs hs1 hk1
    go_enter Tryz.func32, Tryz.ntmps32
    go_wp2_with fail
    go_ret
    exact ⟨by rw [HU.out]; rfl, hb1⟩
  · have HF : Hid (b = false) := Lib.hid (by rw [← hb]; exact us14_off def14C (by rw [hs1.l0]; exact hin))
    clear hb hs hs1 hk1
    by_cases h0 : 0 ≤ i
    · have h1 : ¬ i < (n0 : Int) := by omega
      have h2 : decide (i < (n0 : Int)) = false := decide_eq_false h1
      clear hin
      go_enter Tryz.func32, Tryz.ntmps32
      go_wp2_with fail
      go_ret
      exact ⟨by rw [HF.out]; rfl, hb1⟩
    · clear hin
      go_enter Tryz.func32, Tryz.ntmps32
      go_wp2_with fail
      go_ret
      exact ⟨by rw [HF.out]; rfl, hb1⟩
set_option maxHeartbeats 2000000 in
theorem rTicket14 (v : Value) (S : Sv14) (i : Int) (b : Bool) (w : World) (h : St14 w v S) (hb : us14 usT S.T i = b) :
    Calls Tryz.prog 33 #[v, .int .i64 i] w fun e w' => e = .returned (.bool b) ∧ Below w.heap.size w w' := by
  obtain ⟨A0, A1, A2, A3, A4, n0, n1, n2, n3, n4, c0, c1, c2, c3, c4, sq, rfl, hs⟩ := h
  have hb1 := b1' w (.cells #[.slice A0 n0 c0, .slice A1 n1 c1, .slice A2 n2 c2, .slice A3 n3 c3, .slice A4 n4 c4, .int .i64 sq] 28)
  have hk1 := Blk.new w 28 #[.slice A0 n0 c0, .slice A1 n1 c1, .slice A2 n2 c2, .slice A3 n3 c3, .slice A4 n4 c4, .int .i64 sq]
  have hs1 := hs.step hb1
  obtain ⟨w1, hw1⟩ : ∃ W, w.alloc (.cells #[.slice A0 n0 c0, .slice A1 n1 c1, .slice A2 n2 c2, .slice A3 n3 c3, .slice A4 n4 c4, .int .i64 sq] 28) = W := ⟨_, rfl⟩
  rw [hw1] at hb1 hk1 hs1
  have q1 := hk1.cell 1
  by_cases hin : 0 ≤ i ∧ i < (n1 : Int)
  · obtain ⟨k, rfl⟩ : ∃ k : Nat, i = (k : Int) := ⟨i.toNat, by omega⟩
    obtain ⟨a, o, hA, hab, hq⟩ := Lq.at_ len14T (by omega) hs1.r1 (show k < S.T.length by rw [hs1.l1]; omega)
    subst hA
    rw [us14_nat] at hb
    obtain ⟨x, hx⟩ : ∃ x, gt14 S.T k = x := ⟨_, rfl⟩
    rw [hx] at hq hb
    obtain ⟨xu, xc, xa, xk, xt, xo⟩ := x
    have p0 : w1.cell? ⟨a, o + k * 6, none⟩ = some (.bool xu) := hq 0 _ rfl
    have i0 : (0 : Int) ≤ (k : Int) := by omega
    have i1 : (k : Int) < (n1 : Int) := by omega
    have HU : Hid (b = xu) := Lib.hid hb.symm
    clear hb hq hx hin hs hs1 hk1
    go_enter Tryz.func33, Tryz.ntmps33
    go_wp2_with fail
    go_ret
    exact ⟨by rw [HU.out]; rfl, hb1⟩
  · have HF : Hid (b = false) := Lib.hid (by rw [← hb]; exact us14_off def14T (by rw [hs1.l1]; exact hin))
    clear hb hs hs1 hk1
    by_cases h0 : 0 ≤ i
    · have h1 : ¬ i < (n1 : Int) := by omega
      have h2 : decide (i < (n1 : Int)) = false := decide_eq_false h1
      clear hin
      go_enter Tryz.func33, Tryz.ntmps33
      go_wp2_with fail
      go_ret
      exact ⟨by rw [HF.out]; rfl, hb1⟩
    · clear hin
      go_enter Tryz.func33, Tryz.ntmps33
      go_wp2_with fail
      go_ret
      exact ⟨by rw [HF.out]; rfl, hb1⟩
set_option maxHeartbeats 2000000 in
theorem rThread14 (v : Value) (S : Sv14) (i : Int) (b : Bool) (w : World) (h : St14 w v S) (hb : us14 usH S.H i = b) :
    Calls Tryz.prog 34 #[v, .int .i64 i] w fun e w' => e = .returned (.bool b) ∧ Below w.heap.size w w' := by
  obtain ⟨A0, A1, A2, A3, A4, n0, n1, n2, n3, n4, c0, c1, c2, c3, c4, sq, rfl, hs⟩ := h
  have hb1 := b1' w (.cells #[.slice A0 n0 c0, .slice A1 n1 c1, .slice A2 n2 c2, .slice A3 n3 c3, .slice A4 n4 c4, .int .i64 sq] 28)
  have hk1 := Blk.new w 28 #[.slice A0 n0 c0, .slice A1 n1 c1, .slice A2 n2 c2, .slice A3 n3 c3, .slice A4 n4 c4, .int .i64 sq]
  have hs1 := hs.step hb1
  obtain ⟨w1, hw1⟩ : ∃ W, w.alloc (.cells #[.slice A0 n0 c0, .slice A1 n1 c1, .slice A2 n2 c2, .slice A3 n3 c3, .slice A4 n4 c4, .int .i64 sq] 28) = W := ⟨_, rfl⟩
  rw [hw1] at hb1 hk1 hs1
  have q2 := hk1.cell 2
  by_cases hin : 0 ≤ i ∧ i < (n2 : Int)
  · obtain ⟨k, rfl⟩ : ∃ k : Nat, i = (k : Int) := ⟨i.toNat, by omega⟩
    obtain ⟨a, o, hA, hab, hq⟩ := Lq.at_ len14H (by omega) hs1.r2 (show k < S.H.length by rw [hs1.l2]; omega)
    subst hA
    rw [us14_nat] at hb
    obtain ⟨x, hx⟩ : ∃ x, gt14 S.H k = x := ⟨_, rfl⟩
    rw [hx] at hq hb
    obtain ⟨xz, xf, xc, xq, xu⟩ := x
    have p0 : w1.cell? ⟨a, o + k * 5, none⟩ = some (.int .i64 xz) := hq 0 _ rfl
    have i0 : (0 : Int) ≤ (k : Int) := by omega
    have i1 : (k : Int) < (n2 : Int) := by omega
    have HU : Hid (b = (xz != 0)) := Lib.hid (by rw [← hb]; by_cases h : xz = 0 <;> simp [usH, h])
    clear hb hq hx hin hs hs1 hk1
    go_enter Tryz.func34, Tryz.ntmps34
    go_wp2_with fail
    go_ret
    exact ⟨by rw [HU.out]; rfl, hb1⟩
  · have HF : Hid (b = false) := Lib.hid (by rw [← hb]; exact us14_off def14H (by rw [hs1.l2]; exact hin))
    clear hb hs hs1 hk1
    by_cases h0 : 0 ≤ i
    · have h1 : ¬ i < (n2 : Int) := by omega
      have h2 : decide (i < (n2 : Int)) = false := decide_eq_false h1
      clear hin
      go_enter Tryz.func34, Tryz.ntmps34
      go_wp2_with fail
      go_ret
      exact ⟨by rw [HF.out]; rfl, hb1⟩
    · clear hin
      go_enter Tryz.func34, Tryz.ntmps34
      go_wp2_with fail
      go_ret
      exact ⟨by rw [HF.out]; rfl, hb1⟩
set_option maxHeartbeats 2000000 in
theorem rLock14 (v : Value) (S : Sv14) (i : Int) (b : Bool) (w : World) (h : St14 w v S) (hb : us14 usL S.L i = b) :
    Calls Tryz.prog 35 #[v, .int .i64 i] w fun e w' => e = .returned (.bool b) ∧ Below w.heap.size w w' := by
  obtain ⟨A0, A1, A2, A3, A4, n0, n1, n2, n3, n4, c0, c1, c2, c3, c4, sq, rfl, hs⟩ := h
  have hb1 := b1' w (.cells #[.slice A0 n0 c0, .slice A1 n1 c1, .slice A2 n2 c2, .slice A3 n3 c3, .slice A4 n4 c4, .int .i64 sq] 28)
  have hk1 := Blk.new w 28 #[.slice A0 n0 c0, .slice A1 n1 c1, .slice A2 n2 c2, .slice A3 n3 c3, .slice A4 n4 c4, .int .i64 sq]
  have hs1 := hs.step hb1
  obtain ⟨w1, hw1⟩ : ∃ W, w.alloc (.cells #[.slice A0 n0 c0, .slice A1 n1 c1, .slice A2 n2 c2, .slice A3 n3 c3, .slice A4 n4 c4, .int .i64 sq] 28) = W := ⟨_, rfl⟩
  rw [hw1] at hb1 hk1 hs1
  have q3 := hk1.cell 3
  by_cases hin : 0 ≤ i ∧ i < (n3 : Int)
  · obtain ⟨k, rfl⟩ : ∃ k : Nat, i = (k : Int) := ⟨i.toNat, by omega⟩
    obtain ⟨a, o, hA, hab, hq⟩ := Lq.at_ len14L (by omega) hs1.r3 (show k < S.L.length by rw [hs1.l3]; omega)
    subst hA
    rw [us14_nat] at hb
    obtain ⟨x, hx⟩ : ∃ x, gt14 S.L k = x := ⟨_, rfl⟩
    rw [hx] at hq hb
    obtain ⟨xu, xh⟩ := x
    have p0 : w1.cell? ⟨a, o + k * 2, none⟩ = some (.bool xu) := hq 0 _ rfl
    have i0 : (0 : Int) ≤ (k : Int) := by omega
    have i1 : (k : Int) < (n3 : Int) := by omega
    have HU : Hid (b = xu) := Lib.hid hb.symm
    clear hb hq hx hin hs hs1 hk1
    go_enter Tryz.func35, Tryz.ntmps35
    go_wp2_with fail
    go_ret
    exact ⟨by rw [HU.out]; rfl, hb1⟩
  · have HF : Hid (b = false) := Lib.hid (by rw [← hb]; exact us14_off def14L (by rw [hs1.l3]; exact hin))
    clear hb hs hs1 hk1
    by_cases h0 : 0 ≤ i
    · have h1 : ¬ i < (n3 : Int) := by omega
      have h2 : decide (i < (n3 : Int)) = false := decide_eq_false h1
      clear hin
      go_enter Tryz.func35, Tryz.ntmps35
      go_wp2_with fail
      go_ret
      exact ⟨by rw [HF.out]; rfl, hb1⟩
    · clear hin
      go_enter Tryz.func35, Tryz.ntmps35
      go_wp2_with fail
      go_ret
      exact ⟨by rw [HF.out]; rfl, hb1⟩
set_option maxHeartbeats 4000000 in
theorem ints14 (A B : Option Addr) (xs ys : List Int) (n c m d : Nat) (w : World) (hl : xs.length = n) (hr : Lq clI w w.heap.size A xs) (hn : n ≤ 1000000) (hm : ys.length = m) (hs : Lq clI w w.heap.size B ys) (hmn : m ≤ 1000000)
    (b : Bool) (hb : b = true ↔ xs = ys) :
    Calls Tryz.prog 41 #[.slice A n c, .slice B m d] w fun e w' => e = .returned (.bool b) ∧ Below w.heap.size w w' := by
  have HB := Lib.hid hb
  have HL := Lib.hid hl
  have HM := Lib.hid hm
  have HR := Lib.hid hr
  have HS := Lib.hid hs
  clear hb hl hm hr hs
  by_cases hnm : n = m
  · subst hnm
    go_enter Tryz.func41, Tryz.ntmps41
    go_wp2_with fail
    go_loopw [5] (fun i wr => ∃ k : Nat, i = .int .i64 (k : Int) ∧ k ≤ n ∧ Hid (∀ j, j < k → gt14 xs j = gt14 ys j) ∧ Hid (Below w.heap.size w wr)) (fun i _ => n - (intOf i).toNat)
    case atStart => exact ⟨0, rfl, by omega, Lib.hid (fun j h => by omega), Lib.hid (Below.refl _ _)⟩
    case round =>
      obtain ⟨k, rfl, hk, HE, HG⟩ := hrel
      by_cases hkn : k < n
      · obtain ⟨g, o, hA, hag, hq⟩ := Lq.at_ len14I (by omega) (Lq.below HR.out HG.out (Nat.le_refl _)) (show k < xs.length by have := HL.out; omega)
        subst hA
        obtain ⟨g2, o2, hB, hbg, hq2⟩ := Lq.at_ len14I (by omega) (Lq.below HS.out HG.out (Nat.le_refl _)) (show k < ys.length by have := HM.out; omega)
        subst hB
        obtain ⟨x, hx⟩ : ∃ x, gt14 xs k = x := ⟨_, rfl⟩
        obtain ⟨y, hy⟩ : ∃ y, gt14 ys k = y := ⟨_, rfl⟩
        rw [hx] at hq
        rw [hy] at hq2
        have HX := Lib.hid hx
        have HY := Lib.hid hy
        have i0 : (0 : Int) ≤ (k : Int) := by omega
        have i1 : (k : Int) < (n : Int) := by omega
        have q0 : wr.cell? ⟨g, o + k, none⟩ = some (.int .i64 x) := by have h := hq 0 _ rfl; rwa [Nat.mul_one] at h
        have p0 : wr.cell? ⟨g2, o2 + k, none⟩ = some (.int .i64 y) := by have h := hq2 0 _ rfl; rwa [Nat.mul_one] at h
        clear hq hq2 hx hy
        by_cases he : x = y
        · have HE2 : Hid (∀ j, j < k + 1 → gt14 xs j = gt14 ys j) := Lib.hid (fun j hj => by
            rcases (show j < k ∨ j = k by omega) with h | rfl
            · exact HE.out j h
            · rw [HX.out, HY.out, he])
          have he2 : y = x := he.symm
          subst he2
          go_wp2_with fail
          go_region
          go_wp2_with fail
          go_roundw
          case rel => exact ⟨k + 1, by go_num, by omega, HE2, Lib.hid (by have := HG.out; exact this.drew)⟩
          case measure => simp [intOf]; omega
        · have HF : Hid (b = false) := Lib.hid (bool14_of HB.out (fun h => he (by rw [← HX.out, ← HY.out, h])))
          go_wp2_with fail
          go_region
          go_wp2_with fail
          go_ret
          exact ⟨by rw [HF.out]; rfl, by have := HG.out; exact this.drew⟩
      · have HT : Hid (b = true) := Lib.hid (HB.out.2 (ext14 (by rw [HL.out, HM.out]) (fun j hj => HE.out j (by have := HL.out; omega))))
        obtain rfl : k = n := by omega
        have h1 : ¬ (k : Int) < (k : Int) := by omega
        go_wp2_with fail
        go_ret
        exact ⟨by rw [HT.out]; rfl, HG.out⟩
  · have HF : Hid (b = false) := Lib.hid (bool14_of HB.out (fun h => hnm (by rw [← HL.out, ← HM.out, h])))
    have hnm2 : ¬ (n : Int) = (m : Int) := by omega
    clear hnm
    go_enter Tryz.func41, Tryz.ntmps41
    go_wp2_with fail
    go_ret
    exact ⟨by rw [HF.out]; rfl, Below.refl _ _⟩
end Go.Proofs.YtfoellhoaflofaaGreat
