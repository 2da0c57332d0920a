/-
  SaidStatePuts, part 7 of 26: what the theorem statePuts_holds reaches.
-/
import Derived.Test.YtfoellhoaflofaaGreatP6
namespace Go.Proofs.YtfoellhoaflofaaGreat
open Go.RowKit
set_option maxRecDepth 100000
/-- A state. -/
structure Sv14 where
  C : List Bool
  T : List Tk14
  H : List Th14
  L : List Lk14
  Q : List Int
  q : Int
/-- Its lists in memory. -/
structure SA14 (w : World) (S : Sv14) (A0 A1 A2 A3 A4 : Option Addr) (n0 n1 n2 n3 n4 c0 c1 c2 c3 c4 : Nat) (sq : Int) : Prop where
  l0 : S.C.length = n0
  l1 : S.T.length = n1
  l2 : S.H.length = n2
  l3 : S.L.length = n3
  l4 : S.Q.length = n4
  r0 : Lq clC w w.heap.size A0 S.C
  r1 : Lq clT w w.heap.size A1 S.T
  r2 : Lq clH w w.heap.size A2 S.H
  r3 : Lq clL w w.heap.size A3 S.L
  r4 : Lq clI w w.heap.size A4 S.Q
  k0 : n0 ≤ c0
  k1 : n1 ≤ c1
  k2 : n2 ≤ c2
  k3 : n3 ≤ c3
  k4 : n4 ≤ c4
  m0 : n0 ≤ 1000
  m1 : n1 ≤ 1000
  m2 : n2 ≤ 1000
  m3 : n3 ≤ 1000
  m4 : n4 ≤ 1000
  e : S.q = sq
theorem SA14.step {w w' : World} {S : Sv14} {A0 A1 A2 A3 A4 : Option Addr} {n0 n1 n2 n3 n4 c0 c1 c2 c3 c4 : Nat} {sq : Int} (h : SA14 w S A0 A1 A2 A3 A4 n0 n1 n2 n3 n4 c0 c1 c2 c3 c4 sq) (hb : Below w.heap.size w w') : SA14 w' S A0 A1 A2 A3 A4 n0 n1 n2 n3 n4 c0 c1 c2 c3 c4 sq :=
  ⟨h.l0, h.l1, h.l2, h.l3, h.l4, h.r0.step hb, h.r1.step hb, h.r2.step hb, h.r3.step hb, h.r4.step hb, h.k0, h.k1, h.k2, h.k3, h.k4, h.m0, h.m1, h.m2, h.m3, h.m4, h.e⟩
/-- The value reads as the state. -/
def St14 (w : World) (v : Value) (S : Sv14) : Prop := ∃ (A0 A1 A2 A3 A4 : Option Addr) (n0 n1 n2 n3 n4 c0 c1 c2 c3 c4 : Nat) (sq : Int), v = .agg #[.slice A0 n0 c0, .slice A1 n1 c1, .slice A2 n2 c2, .slice A3 n3 c3, .slice A4 n4 c4, .int .i64 sq] ∧ SA14 w S A0 A1 A2 A3 A4 n0 n1 n2 n3 n4 c0 c1 c2 c3 c4 sq
theorem St14.step {w w' : World} {v : Value} {S : Sv14} (h : St14 w v S) (hb : Below w.heap.size w w') : St14 w' v S := by
  obtain ⟨A0, A1, A2, A3, A4, n0, n1, n2, n3, n4, c0, c1, c2, c3, c4, sq, h1, h2⟩ := h
  exact ⟨A0, A1, A2, A3, A4, n0, n1, n2, n3, n4, c0, c1, c2, c3, c4, sq, h1, h2.step hb⟩
/-- Its lists lie from block L on. -/
structure FA14 (L : Nat) (S : Sv14) (A0 A1 A2 A3 A4 : Option Addr) : Prop where
  f0 : Fv L A0 (fl14 clC S.C)
  f1 : Fv L A1 (fl14 clT S.T)
  f2 : Fv L A2 (fl14 clH S.H)
  f3 : Fv L A3 (fl14 clL S.L)
  f4 : Fv L A4 (fl14 clI S.Q)
theorem FA14.more {L L' : Nat} {S : Sv14} {A0 A1 A2 A3 A4 : Option Addr} (h : FA14 L S A0 A1 A2 A3 A4) (hL : L' ≤ L) : FA14 L' S A0 A1 A2 A3 A4 := ⟨fv14_more h.f0 hL, fv14_more h.f1 hL, fv14_more h.f2 hL, fv14_more h.f3 hL, fv14_more h.f4 hL⟩
/-- A state is answered. -/
def RetSt14 (w : World) (S : Sv14) (e : Ending) (w' : World) : Prop := ∃ (A0 A1 A2 A3 A4 : Option Addr) (n0 n1 n2 n3 n4 c0 c1 c2 c3 c4 : Nat) (sq : Int), e = .returned (.agg #[.slice A0 n0 c0, .slice A1 n1 c1, .slice A2 n2 c2, .slice A3 n3 c3, .slice A4 n4 c4, .int .i64 sq]) ∧ SA14 w' S A0 A1 A2 A3 A4 n0 n1 n2 n3 n4 c0 c1 c2 c3 c4 sq ∧ FA14 w.heap.size S A0 A1 A2 A3 A4 ∧ Below w.heap.size w w'
theorem at14C_any (A : Option Addr) (xs : List Bool) (n c : Nat) (i : Int) (xu : Bool) (b : Bool) (w : World) (hl : xs.length = n) (hr : Lq clC w w.heap.size A xs) (hn : n ≤ 1000000) (hb : us14 usC xs i = b) (hx : at14 usC xs i = xu) :
    Calls Tryz.prog 80 #[.slice A n c, .int .i64 i, .func (.func 64) #[] #[]] w fun e w' => e = .returned (.tuple #[.bool xu, .bool b]) ∧ Below w.heap.size w w' := by
  cases b with
  | false =>
    rw [at14_no hb] at hx
    have hx2 : (false : Bool) = xu := hx
    cases hx2
    exact at14C_no A xs n c i w hl hr hn hb
  | true =>
    have h0 : 0 ≤ i ∧ i < (xs.length : Int) := Classical.byContradiction (fun h => by rw [us14_off def14C h] at hb; cases hb)
    obtain ⟨k, rfl⟩ : ∃ k : Nat, i = (k : Int) := ⟨i.toNat, by omega⟩
    have hu : usC (gt14 xs k) = true := by have h := hb; rwa [us14_nat] at h
    rw [at14_nat hu] at hx
    exact at14C_yes A xs n c k xu w hl hr hn (by omega) hx (by rw [← hx]; exact hu)
theorem at14T_any (A : Option Addr) (xs : List Tk14) (n c : Nat) (i : Int) (xu : Bool) (xc : Int) (xa : Int) (xk : Int) (xt : Int) (xo : Bool) (b : Bool) (w : World) (hl : xs.length = n) (hr : Lq clT w w.heap.size A xs) (hn : n ≤ 1000000) (hb : us14 usT xs i = b) (hx : at14 usT xs i = ⟨xu, xc, xa, xk, xt, xo⟩) :
    Calls Tryz.prog 77 #[.slice A n c, .int .i64 i, .func (.func 66) #[] #[]] w fun e w' => e = .returned (.tuple #[.agg #[.bool xu, .int .i64 xc, .int .i64 xa, .int .i64 xk, .int .i64 xt, .bool xo], .bool b]) ∧ Below w.heap.size w w' := by
  cases b with
  | false =>
    rw [at14_no hb] at hx
    have hx2 : (⟨false, 0, 0, 0, 0, false⟩ : Tk14) = ⟨xu, xc, xa, xk, xt, xo⟩ := hx
    cases hx2
    exact at14T_no A xs n c i w hl hr hn hb
  | true =>
    have h0 : 0 ≤ i ∧ i < (xs.length : Int) := Classical.byContradiction (fun h => by rw [us14_off def14T h] at hb; cases hb)
    obtain ⟨k, rfl⟩ : ∃ k : Nat, i = (k : Int) := ⟨i.toNat, by omega⟩
    have hu : usT (gt14 xs k) = true := by have h := hb; rwa [us14_nat] at h
    rw [at14_nat hu] at hx
    exact at14T_yes A xs n c k xu xc xa xk xt xo w hl hr hn (by omega) hx (by rw [← hx]; exact hu)
theorem at14H_any (A : Option Addr) (xs : List Th14) (n c : Nat) (i : Int) (xz : Int) (xf : Int) (xc : Int) (xq : Int) (xu : Int) (b : Bool) (w : World) (hl : xs.length = n) (hr : Lq clH w w.heap.size A xs) (hn : n ≤ 1000000) (hb : us14 usH xs i = b) (hx : at14 usH xs i = ⟨xz, xf, xc, xq, xu⟩) :
    Calls Tryz.prog 78 #[.slice A n c, .int .i64 i, .func (.func 68) #[] #[]] w fun e w' => e = .returned (.tuple #[.agg #[.int .i64 xz, .int .i64 xf, .int .i64 xc, .int .i64 xq, .int .i64 xu], .bool b]) ∧ Below w.heap.size w w' := by
  cases b with
  | false =>
    rw [at14_no hb] at hx
    have hx2 : (⟨0, 0, 0, 0, 0⟩ : Th14) = ⟨xz, xf, xc, xq, xu⟩ := hx
    cases hx2
    exact at14H_no A xs n c i w hl hr hn hb
  | true =>
    have h0 : 0 ≤ i ∧ i < (xs.length : Int) := Classical.byContradiction (fun h => by rw [us14_off def14H h] at hb; cases hb)
    obtain ⟨k, rfl⟩ : ∃ k : Nat, i = (k : Int) := ⟨i.toNat, by omega⟩
    have hu : usH (gt14 xs k) = true := by have h := hb; rwa [us14_nat] at h
    rw [at14_nat hu] at hx
    exact at14H_yes A xs n c k xz xf xc xq xu w hl hr hn (by omega) hx (by rw [← hx]; exact hu)
theorem at14L_any (A : Option Addr) (xs : List Lk14) (n c : Nat) (i : Int) (xu : Bool) (xh : Int) (b : Bool) (w : World) (hl : xs.length = n) (hr : Lq clL w w.heap.size A xs) (hn : n ≤ 1000000) (hb : us14 usL xs i = b) (hx : at14 usL xs i = ⟨xu, xh⟩) :
    Calls Tryz.prog 79 #[.slice A n c, .int .i64 i, .func (.func 70) #[] #[]] w fun e w' => e = .returned (.tuple #[.agg #[.bool xu, .int .i64 xh], .bool b]) ∧ Below w.heap.size w w' := by
  cases b with
  | false =>
    rw [at14_no hb] at hx
    have hx2 : (⟨false, 0⟩ : Lk14) = ⟨xu, xh⟩ := hx
    cases hx2
    exact at14L_no A xs n c i w hl hr hn hb
  | true =>
    have h0 : 0 ≤ i ∧ i < (xs.length : Int) := Classical.byContradiction (fun h => by rw [us14_off def14L h] at hb; cases hb)
    obtain ⟨k, rfl⟩ : ∃ k : Nat, i = (k : Int) := ⟨i.toNat, by omega⟩
    have hu : usL (gt14 xs k) = true := by have h := hb; rwa [us14_nat] at h
    rw [at14_nat hu] at hx
    exact at14L_yes A xs n c k xu xh w hl hr hn (by omega) hx (by rw [← hx]; exact hu)
set_option maxHeartbeats 2000000 in
theorem coin14 (v : Value) (S : Sv14) (i : Int) (b : Bool) (w : World) (h : St14 w v S) (hb : us14 usC S.C i = b) :
    Calls Tryz.prog 31 #[v, .int .i64 i] w fun e w' => e = .returned (.bool b) ∧ Below w.heap.size w w' := by
  obtain ⟨A0, A1, A2, A3, A4, n0, n1, n2, n3, n4, c0, c1, c2, c3, c4, sq, rfl, hs⟩ := h
  have hb1 := b1' w (.cells #[.slice A0 n0 c0, .slice A1 n1 c1, .slice A2 n2 c2, .slice A3 n3 c3, .slice A4 n4 c4, .int .i64 sq] 28)
  have hk1 := Blk.new w 28 #[.slice A0 n0 c0, .slice A1 n1 c1, .slice A2 n2 c2, .slice A3 n3 c3, .slice A4 n4 c4, .int .i64 sq]
  have hs1 := hs.step hb1
  obtain ⟨w1, hw1⟩ : ∃ W, w.alloc (.cells #[.slice A0 n0 c0, .slice A1 n1 c1, .slice A2 n2 c2, .slice A3 n3 c3, .slice A4 n4 c4, .int .i64 sq] 28) = W := ⟨_, rfl⟩
  rw [hw1] at hb1 hk1 hs1
  obtain ⟨xu, hx⟩ : ∃ y, at14 usC S.C i = y := ⟨_, rfl⟩
  have HA := Lib.hid (at14C_any A0 S.C n0 c0 i xu b w1 hs1.l0 hs1.r0 (by have := hs1.m0; omega) hb hx)
  have HB1 := Lib.hid hb1
  have q0 := hk1.cell 0
  clear hs hs1 hk1 hb1 hb hx
  go_enter Tryz.func31, Tryz.ntmps31
  go_wp2_with fail
  refine HA.out.mono ?_
  rintro e w2 ⟨rfl, hb2⟩
  have HB2 := Lib.hid (HB1.out.trans (hb2.mono HB1.out.size))
  clear HA hb2
  go_wp2_with fail
  go_ret
  exact ⟨rfl, HB2.out⟩
set_option maxHeartbeats 2000000 in
theorem ticket14 (v : Value) (S : Sv14) (i : Int) (xu : Bool) (xc : Int) (xa : Int) (xk : Int) (xt : Int) (xo : Bool) (b : Bool) (w : World) (h : St14 w v S) (hb : us14 usT S.T i = b) (hx : at14 usT S.T i = ⟨xu, xc, xa, xk, xt, xo⟩) :
    Calls Tryz.prog 28 #[v, .int .i64 i] w fun e w' => e = .returned (.tuple #[.agg #[.bool xu, .int .i64 xc, .int .i64 xa, .int .i64 xk, .int .i64 xt, .bool xo], .bool b]) ∧ Below w.heap.size w w' := by
  obtain ⟨A0, A1, A2, A3, A4, n0, n1, n2, n3, n4, c0, c1, c2, c3, c4, sq, rfl, hs⟩ := h
  have hb1 := b1' w (.cells #[.slice A0 n0 c0, .slice A1 n1 c1, .slice A2 n2 c2, .slice A3 n3 c3, .slice A4 n4 c4, .int .i64 sq] 28)
  have hk1 := Blk.new w 28 #[.slice A0 n0 c0, .slice A1 n1 c1, .slice A2 n2 c2, .slice A3 n3 c3, .slice A4 n4 c4, .int .i64 sq]
  have hs1 := hs.step hb1
  obtain ⟨w1, hw1⟩ : ∃ W, w.alloc (.cells #[.slice A0 n0 c0, .slice A1 n1 c1, .slice A2 n2 c2, .slice A3 n3 c3, .slice A4 n4 c4, .int .i64 sq] 28) = W := ⟨_, rfl⟩
  rw [hw1] at hb1 hk1 hs1
  have hz1 : w1.heap.size = w.heap.size + 1 := by rw [← hw1]; simp
  have hb2 := b1' w1 (.cells #[.bool false, .int .i64 0, .int .i64 0, .int .i64 0, .int .i64 0, .bool false] 43)
  have hk2 := Blk.new w1 43 #[.bool false, .int .i64 0, .int .i64 0, .int .i64 0, .int .i64 0, .bool false]
  have hk12 := hk1.alloc (.cells #[.bool false, .int .i64 0, .int .i64 0, .int .i64 0, .int .i64 0, .bool false] 43)
  have hs2 := hs1.step hb2
  rw [hz1] at hk2
  obtain ⟨w2, hw2⟩ : ∃ W, w1.alloc (.cells #[.bool false, .int .i64 0, .int .i64 0, .int .i64 0, .int .i64 0, .bool false] 43) = W := ⟨_, rfl⟩
  rw [hw2] at hb2 hk2 hk12 hs2
  have HA := Lib.hid (at14T_any A1 S.T n1 c1 i xu xc xa xk xt xo b w2 hs2.l1 hs2.r1 (by have := hs2.m1; omega) hb hx)
  have HB2 := Lib.hid (hb1.trans (hb2.mono hb1.size))
  have HK2 := Lib.hid hk2
  have q0 := hk12.cell 1
  clear hs hs1 hs2 hk1 hk12 hk2 hb1 hb2 hb hx
  go_enter Tryz.func28, Tryz.ntmps28
  go_wp2_with fail
  refine HA.out.mono ?_
  rintro e w3 ⟨rfl, hb3⟩
  have hk3 := HK2.out.below hb3 HK2.out.lt
  have k0 := hk3.cell 0
  have l0 := hk3.frozen 0
  have k1 := hk3.cell 1
  have l1 := hk3.frozen 1
  have k2 := hk3.cell 2
  have l2 := hk3.frozen 2
  have k3 := hk3.cell 3
  have l3 := hk3.frozen 3
  have k4 := hk3.cell 4
  have l4 := hk3.frozen 4
  have k5 := hk3.cell 5
  have l5 := hk3.frozen 5
  have hk4 : Blk ((((((w3.setCell ⟨w.heap.size + 1, 0, none⟩ (.bool xu)).setCell ⟨w.heap.size + 1, 1, none⟩ (.int .i64 xc)).setCell ⟨w.heap.size + 1, 2, none⟩ (.int .i64 xa)).setCell ⟨w.heap.size + 1, 3, none⟩ (.int .i64 xk)).setCell ⟨w.heap.size + 1, 4, none⟩ (.int .i64 xt)).setCell ⟨w.heap.size + 1, 5, none⟩ (.bool xo)) (w.heap.size + 1) 43 #[.bool xu, .int .i64 xc, .int .i64 xa, .int .i64 xk, .int .i64 xt, .bool xo] := by
    have h := (((((hk3.set_ 0 (.bool xu)).set_ 1 (.int .i64 xc)).set_ 2 (.int .i64 xa)).set_ 3 (.int .i64 xk)).set_ 4 (.int .i64 xt)).set_ 5 (.bool xo)
    simpa using h
  have HB4 : Hid (Below w.heap.size w ((((((w3.setCell ⟨w.heap.size + 1, 0, none⟩ (.bool xu)).setCell ⟨w.heap.size + 1, 1, none⟩ (.int .i64 xc)).setCell ⟨w.heap.size + 1, 2, none⟩ (.int .i64 xa)).setCell ⟨w.heap.size + 1, 3, none⟩ (.int .i64 xk)).setCell ⟨w.heap.size + 1, 4, none⟩ (.int .i64 xt)).setCell ⟨w.heap.size + 1, 5, none⟩ (.bool xo))) := Lib.hid (by
    have hB := HB2.out.trans (hb3.mono HB2.out.size)
    exact (((((hB.setCell (p := ⟨w.heap.size + 1, 0, none⟩) (by simp) (.bool xu)).setCell (p := ⟨w.heap.size + 1, 1, none⟩) (by simp) (.int .i64 xc)).setCell (p := ⟨w.heap.size + 1, 2, none⟩) (by simp) (.int .i64 xa)).setCell (p := ⟨w.heap.size + 1, 3, none⟩) (by simp) (.int .i64 xk)).setCell (p := ⟨w.heap.size + 1, 4, none⟩) (by simp) (.int .i64 xt)).setCell (p := ⟨w.heap.size + 1, 5, none⟩) (by simp) (.bool xo))
  have s0 := hk4.cell 0
  have g0 := hk4.frozen 0
  have s1 := hk4.cell 1
  have g1 := hk4.frozen 1
  have s2 := hk4.cell 2
  have g2 := hk4.frozen 2
  have s3 := hk4.cell 3
  have g3 := hk4.frozen 3
  have s4 := hk4.cell 4
  have g4 := hk4.frozen 4
  have s5 := hk4.cell 5
  have g5 := hk4.frozen 5
  clear HA hb3 hk3 hk4
  go_wp2_with fail
  exact bodyPost_ret (v := .tuple #[.agg #[.bool xu, .int .i64 xc, .int .i64 xa, .int .i64 xk, .int .i64 xt, .bool xo], .bool b]) (by simp [results, Tryz.results28, go_sem, s0, s1, s2, s3, s4, s5, g0, g1, g2, g3, g4, g5]) rfl ⟨rfl, HB4.out⟩
set_option maxHeartbeats 2000000 in
theorem thread14 (v : Value) (S : Sv14) (i : Int) (xz : Int) (xf : Int) (xc : Int) (xq : Int) (xu : Int) (b : Bool) (w : World) (h : St14 w v S) (hb : us14 usH S.H i = b) (hx : at14 usH S.H i = ⟨xz, xf, xc, xq, xu⟩) :
    Calls Tryz.prog 29 #[v, .int .i64 i] w fun e w' => e = .returned (.tuple #[.agg #[.int .i64 xz, .int .i64 xf, .int .i64 xc, .int .i64 xq, .int .i64 xu], .bool b]) ∧ Below w.heap.size w w' := by
  obtain ⟨A0, A1, A2, A3, A4, n0, n1, n2, n3, n4, c0, c1, c2, c3, c4, sq, rfl, hs⟩ := h
  have hb1 := b1' w (.cells #[.slice A0 n0 c0, .slice A1 n1 c1, .slice A2 n2 c2, .slice A3 n3 c3, .slice A4 n4 c4, .int .i64 sq] 28)
  have hk1 := Blk.new w 28 #[.slice A0 n0 c0, .slice A1 n1 c1, .slice A2 n2 c2, .slice A3 n3 c3, .slice A4 n4 c4, .int .i64 sq]
  have hs1 := hs.step hb1
  obtain ⟨w1, hw1⟩ : ∃ W, w.alloc (.cells #[.slice A0 n0 c0, .slice A1 n1 c1, .slice A2 n2 c2, .slice A3 n3 c3, .slice A4 n4 c4, .int .i64 sq] 28) = W := ⟨_, rfl⟩
  rw [hw1] at hb1 hk1 hs1
  have hz1 : w1.heap.size = w.heap.size + 1 := by rw [← hw1]; simp
  have hb2 := b1' w1 (.cells #[.int .i64 0, .int .i64 0, .int .i64 0, .int .i64 0, .int .i64 0] 45)
  have hk2 := Blk.new w1 45 #[.int .i64 0, .int .i64 0, .int .i64 0, .int .i64 0, .int .i64 0]
  have hk12 := hk1.alloc (.cells #[.int .i64 0, .int .i64 0, .int .i64 0, .int .i64 0, .int .i64 0] 45)
  have hs2 := hs1.step hb2
  rw [hz1] at hk2
  obtain ⟨w2, hw2⟩ : ∃ W, w1.alloc (.cells #[.int .i64 0, .int .i64 0, .int .i64 0, .int .i64 0, .int .i64 0] 45) = W := ⟨_, rfl⟩
  rw [hw2] at hb2 hk2 hk12 hs2
  have HA := Lib.hid (at14H_any A2 S.H n2 c2 i xz xf xc xq xu b w2 hs2.l2 hs2.r2 (by have := hs2.m2; omega) hb hx)
  have HB2 := Lib.hid (hb1.trans (hb2.mono hb1.size))
  have HK2 := Lib.hid hk2
  have q0 := hk12.cell 2
  clear hs hs1 hs2 hk1 hk12 hk2 hb1 hb2 hb hx
  go_enter Tryz.func29, Tryz.ntmps29
  go_wp2_with fail
  refine HA.out.mono ?_
  rintro e w3 ⟨rfl, hb3⟩
  have hk3 := HK2.out.below hb3 HK2.out.lt
  have k0 := hk3.cell 0
  have l0 := hk3.frozen 0
  have k1 := hk3.cell 1
  have l1 := hk3.frozen 1
  have k2 := hk3.cell 2
  have l2 := hk3.frozen 2
  have k3 := hk3.cell 3
  have l3 := hk3.frozen 3
  have k4 := hk3.cell 4
  have l4 := hk3.frozen 4
  have hk4 : Blk (((((w3.setCell ⟨w.heap.size + 1, 0, none⟩ (.int .i64 xz)).setCell ⟨w.heap.size + 1, 1, none⟩ (.int .i64 xf)).setCell ⟨w.heap.size + 1, 2, none⟩ (.int .i64 xc)).setCell ⟨w.heap.size + 1, 3, none⟩ (.int .i64 xq)).setCell ⟨w.heap.size + 1, 4, none⟩ (.int .i64 xu)) (w.heap.size + 1) 45 #[.int .i64 xz, .int .i64 xf, .int .i64 xc, .int .i64 xq, .int .i64 xu] := by
    have h := ((((hk3.set_ 0 (.int .i64 xz)).set_ 1 (.int .i64 xf)).set_ 2 (.int .i64 xc)).set_ 3 (.int .i64 xq)).set_ 4 (.int .i64 xu)
    simpa using h
  have HB4 : Hid (Below w.heap.size w (((((w3.setCell ⟨w.heap.size + 1, 0, none⟩ (.int .i64 xz)).setCell ⟨w.heap.size + 1, 1, none⟩ (.int .i64 xf)).setCell ⟨w.heap.size + 1, 2, none⟩ (.int .i64 xc)).setCell ⟨w.heap.size + 1, 3, none⟩ (.int .i64 xq)).setCell ⟨w.heap.size + 1, 4, none⟩ (.int .i64 xu))) := Lib.hid (by
    have hB := HB2.out.trans (hb3.mono HB2.out.size)
    exact ((((hB.setCell (p := ⟨w.heap.size + 1, 0, none⟩) (by simp) (.int .i64 xz)).setCell (p := ⟨w.heap.size + 1, 1, none⟩) (by simp) (.int .i64 xf)).setCell (p := ⟨w.heap.size + 1, 2, none⟩) (by simp) (.int .i64 xc)).setCell (p := ⟨w.heap.size + 1, 3, none⟩) (by simp) (.int .i64 xq)).setCell (p := ⟨w.heap.size + 1, 4, none⟩) (by simp) (.int .i64 xu))
  have s0 := hk4.cell 0
  have g0 := hk4.frozen 0
  have s1 := hk4.cell 1
  have g1 := hk4.frozen 1
  have s2 := hk4.cell 2
  have g2 := hk4.frozen 2
  have s3 := hk4.cell 3
  have g3 := hk4.frozen 3
  have s4 := hk4.cell 4
  have g4 := hk4.frozen 4
  clear HA hb3 hk3 hk4
  go_wp2_with fail
  exact bodyPost_ret (v := .tuple #[.agg #[.int .i64 xz, .int .i64 xf, .int .i64 xc, .int .i64 xq, .int .i64 xu], .bool b]) (by simp [results, Tryz.results29, go_sem, s0, s1, s2, s3, s4, g0, g1, g2, g3, g4]) rfl ⟨rfl, HB4.out⟩
set_option maxHeartbeats 2000000 in
theorem lock14 (v : Value) (S : Sv14) (i : Int) (xu : Bool) (xh : Int) (b : Bool) (w : World) (h : St14 w v S) (hb : us14 usL S.L i = b) (hx : at14 usL S.L i = ⟨xu, xh⟩) :
    Calls Tryz.prog 30 #[v, .int .i64 i] w fun e w' => e = .returned (.tuple #[.agg #[.bool xu, .int .i64 xh], .bool b]) ∧ Below w.heap.size w w' := by
  obtain ⟨A0, A1, A2, A3, A4, n0, n1, n2, n3, n4, c0, c1, c2, c3, c4, sq, rfl, hs⟩ := h
  have hb1 := b1' w (.cells #[.slice A0 n0 c0, .slice A1 n1 c1, .slice A2 n2 c2, .slice A3 n3 c3, .slice A4 n4 c4, .int .i64 sq] 28)
  have hk1 := Blk.new w 28 #[.slice A0 n0 c0, .slice A1 n1 c1, .slice A2 n2 c2, .slice A3 n3 c3, .slice A4 n4 c4, .int .i64 sq]
  have hs1 := hs.step hb1
  obtain ⟨w1, hw1⟩ : ∃ W, w.alloc (.cells #[.slice A0 n0 c0, .slice A1 n1 c1, .slice A2 n2 c2, .slice A3 n3 c3, .slice A4 n4 c4, .int .i64 sq] 28) = W := ⟨_, rfl⟩
  rw [hw1] at hb1 hk1 hs1
  have hz1 : w1.heap.size = w.heap.size + 1 := by rw [← hw1]; simp
  have hb2 := b1' w1 (.cells #[.bool false, .int .i64 0] 47)
  have hk2 := Blk.new w1 47 #[.bool false, .int .i64 0]
  have hk12 := hk1.alloc (.cells #[.bool false, .int .i64 0] 47)
  have hs2 := hs1.step hb2
  rw [hz1] at hk2
  obtain ⟨w2, hw2⟩ : ∃ W, w1.alloc (.cells #[.bool false, .int .i64 0] 47) = W := ⟨_, rfl⟩
  rw [hw2] at hb2 hk2 hk12 hs2
  have HA := Lib.hid (at14L_any A3 S.L n3 c3 i xu xh b w2 hs2.l3 hs2.r3 (by have := hs2.m3; omega) hb hx)
  have HB2 := Lib.hid (hb1.trans (hb2.mono hb1.size))
  have HK2 := Lib.hid hk2
  have q0 := hk12.cell 3
  clear hs hs1 hs2 hk1 hk12 hk2 hb1 hb2 hb hx
  go_enter Tryz.func30, Tryz.ntmps30
  go_wp2_with fail
  refine HA.out.mono ?_
  rintro e w3 ⟨rfl, hb3⟩
  have hk3 := HK2.out.below hb3 HK2.out.lt
  have k0 := hk3.cell 0
  have l0 := hk3.frozen 0
  have k1 := hk3.cell 1
  have l1 := hk3.frozen 1
  have hk4 : Blk ((w3.setCell ⟨w.heap.size + 1, 0, none⟩ (.bool xu)).setCell ⟨w.heap.size + 1, 1, none⟩ (.int .i64 xh)) (w.heap.size + 1) 47 #[.bool xu, .int .i64 xh] := by
    have h := (hk3.set_ 0 (.bool xu)).set_ 1 (.int .i64 xh)
    simpa using h
  have HB4 : Hid (Below w.heap.size w ((w3.setCell ⟨w.heap.size + 1, 0, none⟩ (.bool xu)).setCell ⟨w.heap.size + 1, 1, none⟩ (.int .i64 xh))) := Lib.hid (by
    have hB := HB2.out.trans (hb3.mono HB2.out.size)
    exact (hB.setCell (p := ⟨w.heap.size + 1, 0, none⟩) (by simp) (.bool xu)).setCell (p := ⟨w.heap.size + 1, 1, none⟩) (by simp) (.int .i64 xh))
  have s0 := hk4.cell 0
  have g0 := hk4.frozen 0
  have s1 := hk4.cell 1
  have g1 := hk4.frozen 1
  clear HA hb3 hk3 hk4
  go_wp2_with fail
  exact bodyPost_ret (v := .tuple #[.agg #[.bool xu, .int .i64 xh], .bool b]) (by simp [results, Tryz.results30, go_sem, s0, s1, g0, g1]) rfl ⟨rfl, HB4.out⟩
set_option maxHeartbeats 2000000 in
theorem freeCoin14 (v : Value) (S : Sv14) (r : Int) (w : World) (h : St14 w v S) (hf : Free14 usC S.C 16 r) :
    Calls Tryz.prog 36 #[v] w fun e w' => e = .returned (.int .i64 r) ∧ Below w.heap.size w w' := by
  obtain ⟨A0, A1, A2, A3, A4, n0, n1, n2, n3, n4, c0, c1, c2, c3, c4, sq, rfl, hs⟩ := h
  have hb1 := b1' w (.cells #[.slice A0 n0 c0, .slice A1 n1 c1, .slice A2 n2 c2, .slice A3 n3 c3, .slice A4 n4 c4, .int .i64 sq] 28)
  have hk1 := Blk.new w 28 #[.slice A0 n0 c0, .slice A1 n1 c1, .slice A2 n2 c2, .slice A3 n3 c3, .slice A4 n4 c4, .int .i64 sq]
  have hs1 := hs.step hb1
  obtain ⟨w1, hw1⟩ : ∃ W, w.alloc (.cells #[.slice A0 n0 c0, .slice A1 n1 c1, .slice A2 n2 c2, .slice A3 n3 c3, .slice A4 n4 c4, .int .i64 sq] 28) = W := ⟨_, rfl⟩
  rw [hw1] at hb1 hk1 hs1
  have HA := Lib.hid (free14C A0 S.C n0 c0 16 r w1 hs1.l0 hs1.r0 (by have := hs1.m0; omega) (by omega) hf)
  have HB1 := Lib.hid hb1
  have q0 := hk1.cell 0
  clear hs hs1 hk1 hb1 hf
  go_enter Tryz.func36, Tryz.ntmps36
  go_wp2_with fail
  refine HA.out.mono ?_
  rintro e w2 ⟨rfl, hb2⟩
  have HB2 := Lib.hid (HB1.out.trans (hb2.mono HB1.out.size))
  clear HA hb2
  go_wp2_with fail
  go_ret
  exact ⟨rfl, HB2.out⟩
set_option maxHeartbeats 2000000 in
theorem freeTicket14 (v : Value) (S : Sv14) (r : Int) (w : World) (h : St14 w v S) (hf : Free14 usT S.T 96 r) :
    Calls Tryz.prog 38 #[v] w fun e w' => e = .returned (.int .i64 r) ∧ Below w.heap.size w w' := by
  obtain ⟨A0, A1, A2, A3, A4, n0, n1, n2, n3, n4, c0, c1, c2, c3, c4, sq, rfl, hs⟩ := h
  have hb1 := b1' w (.cells #[.slice A0 n0 c0, .slice A1 n1 c1, .slice A2 n2 c2, .slice A3 n3 c3, .slice A4 n4 c4, .int .i64 sq] 28)
  have hk1 := Blk.new w 28 #[.slice A0 n0 c0, .slice A1 n1 c1, .slice A2 n2 c2, .slice A3 n3 c3, .slice A4 n4 c4, .int .i64 sq]
  have hs1 := hs.step hb1
  obtain ⟨w1, hw1⟩ : ∃ W, w.alloc (.cells #[.slice A0 n0 c0, .slice A1 n1 c1, .slice A2 n2 c2, .slice A3 n3 c3, .slice A4 n4 c4, .int .i64 sq] 28) = W := ⟨_, rfl⟩
  rw [hw1] at hb1 hk1 hs1
  have HA := Lib.hid (free14T A1 S.T n1 c1 96 r w1 hs1.l1 hs1.r1 (by have := hs1.m1; omega) (by omega) hf)
  have HB1 := Lib.hid hb1
  have q0 := hk1.cell 1
  clear hs hs1 hk1 hb1 hf
  go_enter Tryz.func38, Tryz.ntmps38
  go_wp2_with fail
  refine HA.out.mono ?_
  rintro e w2 ⟨rfl, hb2⟩
  have HB2 := Lib.hid (HB1.out.trans (hb2.mono HB1.out.size))
  clear HA hb2
  go_wp2_with fail
  go_ret
  exact ⟨rfl, HB2.out⟩
set_option maxHeartbeats 2000000 in
theorem freeThread14 (v : Value) (S : Sv14) (r : Int) (w : World) (h : St14 w v S) (hf : Free14 usH S.H 32 r) :
    Calls Tryz.prog 39 #[v] w fun e w' => e = .returned (.int .i64 r) ∧ Below w.heap.size w w' := by
  obtain ⟨A0, A1, A2, A3, A4, n0, n1, n2, n3, n4, c0, c1, c2, c3, c4, sq, rfl, hs⟩ := h
  have hb1 := b1' w (.cells #[.slice A0 n0 c0, .slice A1 n1 c1, .slice A2 n2 c2, .slice A3 n3 c3, .slice A4 n4 c4, .int .i64 sq] 28)
  have hk1 := Blk.new w 28 #[.slice A0 n0 c0, .slice A1 n1 c1, .slice A2 n2 c2, .slice A3 n3 c3, .slice A4 n4 c4, .int .i64 sq]
  have hs1 := hs.step hb1
  obtain ⟨w1, hw1⟩ : ∃ W, w.alloc (.cells #[.slice A0 n0 c0, .slice A1 n1 c1, .slice A2 n2 c2, .slice A3 n3 c3, .slice A4 n4 c4, .int .i64 sq] 28) = W := ⟨_, rfl⟩
  rw [hw1] at hb1 hk1 hs1
  have HA := Lib.hid (free14H A2 S.H n2 c2 32 r w1 hs1.l2 hs1.r2 (by have := hs1.m2; omega) (by omega) hf)
  have HB1 := Lib.hid hb1
  have q0 := hk1.cell 2
  clear hs hs1 hk1 hb1 hf
  go_enter Tryz.func39, Tryz.ntmps39
  go_wp2_with fail
  refine HA.out.mono ?_
  rintro e w2 ⟨rfl, hb2⟩
  have HB2 := Lib.hid (HB1.out.trans (hb2.mono HB1.out.size))
  clear HA hb2
  go_wp2_with fail
  go_ret
  exact ⟨rfl, HB2.out⟩
set_option maxHeartbeats 2000000 in
theorem freeLock14 (v : Value) (S : Sv14) (r : Int) (w : World) (h : St14 w v S) (hf : Free14 usL S.L 8 r) :
    Calls Tryz.prog 40 #[v] w fun e w' => e = .returned (.int .i64 r) ∧ Below w.heap.size w w' := by
  obtain ⟨A0, A1, A2, A3, A4, n0, n1, n2, n3, n4, c0, c1, c2, c3, c4, sq, rfl, hs⟩ := h
  have hb1 := b1' w (.cells #[.slice A0 n0 c0, .slice A1 n1 c1, .slice A2 n2 c2, .slice A3 n3 c3, .slice A4 n4 c4, .int .i64 sq] 28)
  have hk1 := Blk.new w 28 #[.slice A0 n0 c0, .slice A1 n1 c1, .slice A2 n2 c2, .slice A3 n3 c3, .slice A4 n4 c4, .int .i64 sq]
  have hs1 := hs.step hb1
  obtain ⟨w1, hw1⟩ : ∃ W, w.alloc (.cells #[.slice A0 n0 c0, .slice A1 n1 c1, .slice A2 n2 c2, .slice A3 n3 c3, .slice A4 n4 c4, .int .i64 sq] 28) = W := ⟨_, rfl⟩
  rw [hw1] at hb1 hk1 hs1
  have HA := Lib.hid (free14L A3 S.L n3 c3 8 r w1 hs1.l3 hs1.r3 (by have := hs1.m3; omega) (by omega) hf)
  have HB1 := Lib.hid hb1
  have q0 := hk1.cell 3
  clear hs hs1 hk1 hb1 hf
  go_enter Tryz.func40, Tryz.ntmps40
  go_wp2_with fail
  refine HA.out.mono ?_
  rintro e w2 ⟨rfl, hb2⟩
  have HB2 := Lib.hid (HB1.out.trans (hb2.mono HB1.out.size))
  clear HA hb2
  go_wp2_with fail
  go_ret
  exact ⟨rfl, HB2.out⟩
end Go.Proofs.YtfoellhoaflofaaGreat
