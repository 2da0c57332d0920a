/-
  SaidStatePuts, part 16 of 26: what the theorem statePuts_holds reaches.
-/
import Derived.Test.YtfoellhoaflofaaGreatP15
import Derived.WalkSmall
namespace Go.Proofs.YtfoellhoaflofaaGreat
open Go.RowKit
set_option maxRecDepth 100000
def Tidies14 (S : Sv14) : Prop := Tidy14 usC S.C 16 ∧ Tidy14 usT S.T 96 ∧ Tidy14 usH S.H 32 ∧ Tidy14 usL S.L 8
def Tickets14 (S : Sv14) : Prop := ∀ j, j < S.T.length → usT (gt14 S.T j) = true → Ticket14 S (gt14 S.T j)
/-- How many of the first k run. -/
def runs14 (xs : List Th14) : Nat → Nat
  | 0 => 0
  | k + 1 => runs14 xs k + if (gt14 xs k).s = 3 then 1 else 0
theorem runs14_le (xs : List Th14) (k : Nat) : runs14 xs k ≤ k := by
  induction k with
  | zero => exact Nat.le_refl _
  | succ k ih => rw [runs14]; split <;> omega
def Threads14 (S : Sv14) : Prop := (∀ j, j < S.H.length → usH (gt14 S.H j) = true → Thrd14 S j (gt14 S.H j)) ∧ runs14 S.H S.H.length ≤ 1
def Locks14 (S : Sv14) : Prop := ∀ j, j < S.L.length → usL (gt14 S.L j) = true → Holder14 S j (gt14 S.L j)
/-- A boxed state. -/
structure Bx14 (w : World) (S : Sv14) (A0 A1 A2 A3 A4 : Option Addr) (n0 n1 n2 n3 n4 c0 c1 c2 c3 c4 : Nat) (sq : Int) (W : World) : Prop where
  b : Below w.heap.size w W
  x : Blk W w.heap.size 28 #[.slice A0 n0 c0, .slice A1 n1 c1, .slice A2 n2 c2, .slice A3 n3 c3, .slice A4 n4 c4, .int .i64 sq]
  s : SA14 W S A0 A1 A2 A3 A4 n0 n1 n2 n3 n4 c0 c1 c2 c3 c4 sq
theorem Bx14.step {w : World} {S : Sv14} {A0 A1 A2 A3 A4 : Option Addr} {n0 n1 n2 n3 n4 c0 c1 c2 c3 c4 : Nat} {sq : Int} {W W' : World} (h : Bx14 w S A0 A1 A2 A3 A4 n0 n1 n2 n3 n4 c0 c1 c2 c3 c4 sq W) (hb : Below W.heap.size W W') : Bx14 w S A0 A1 A2 A3 A4 n0 n1 n2 n3 n4 c0 c1 c2 c3 c4 sq W' :=
  ⟨h.b.trans (hb.mono h.b.size), h.x.below hb h.x.lt, h.s.step hb⟩
theorem Bx14.st {w : World} {S : Sv14} {A0 A1 A2 A3 A4 : Option Addr} {n0 n1 n2 n3 n4 c0 c1 c2 c3 c4 : Nat} {sq : Int} {W : World} (h : Bx14 w S A0 A1 A2 A3 A4 n0 n1 n2 n3 n4 c0 c1 c2 c3 c4 sq W) : St14 W (.agg #[.slice A0 n0 c0, .slice A1 n1 c1, .slice A2 n2 c2, .slice A3 n3 c3, .slice A4 n4 c4, .int .i64 sq]) S := ⟨A0, A1, A2, A3, A4, n0, n1, n2, n3, n4, c0, c1, c2, c3, c4, sq, rfl, h.s⟩
theorem Bx14.new {w : World} {S : Sv14} {A0 A1 A2 A3 A4 : Option Addr} {n0 n1 n2 n3 n4 c0 c1 c2 c3 c4 : Nat} {sq : Int} (h : SA14 w S A0 A1 A2 A3 A4 n0 n1 n2 n3 n4 c0 c1 c2 c3 c4 sq) : Bx14 w S A0 A1 A2 A3 A4 n0 n1 n2 n3 n4 c0 c1 c2 c3 c4 sq (w.alloc (.cells #[.slice A0 n0 c0, .slice A1 n1 c1, .slice A2 n2 c2, .slice A3 n3 c3, .slice A4 n4 c4, .int .i64 sq] 28)) := ⟨b1' w _, Blk.new w _ _, h.step (b1' w _)⟩
set_option maxHeartbeats 4000000 in
theorem tidyLists14_0 (v : Value) (S : Sv14) (w : World) (h : St14 w v S) (ne : ¬ Tidy14 usC S.C 16) :
    Calls Tryz.prog 42 #[v] w fun e w' => e = .returned (.bool false) ∧ Below w.heap.size w w' := by
  obtain ⟨A0, A1, A2, A3, A4, n0, n1, n2, n3, n4, c0, c1, c2, c3, c4, sq, rfl, hs⟩ := h
  have HT0 := Lib.hid (Bx14.new hs)
  have HC0 := Lib.hid (fun W (h : Bx14 w S A0 A1 A2 A3 A4 n0 n1 n2 n3 n4 c0 c1 c2 c3 c4 sq W) => tidy14C A0 S.C n0 c0 16 W h.s.l0 h.s.r0 (by have := h.s.m0; omega) false (by simp [ne]))
  have t0 := HT0.out.x.cell 0
  clear hs ne
  go_enter Tryz.func42, Tryz.ntmps42
  go_wp2_with fail
  refine (HC0.out _ HT0.out).mono ?_
  rintro e w1 ⟨rfl, hb1⟩
  have HT1 := Lib.hid (HT0.out.step hb1)
  clear HC0 hb1
  go_wp2_with fail
  go_ret
  exact ⟨rfl, HT1.out.b⟩
set_option maxHeartbeats 4000000 in
theorem tidyLists14_1 (v : Value) (S : Sv14) (w : World) (h : St14 w v S) (e0 : Tidy14 usC S.C 16) (ne : ¬ Tidy14 usT S.T 96) :
    Calls Tryz.prog 42 #[v] w fun e w' => e = .returned (.bool false) ∧ Below w.heap.size w w' := by
  obtain ⟨A0, A1, A2, A3, A4, n0, n1, n2, n3, n4, c0, c1, c2, c3, c4, sq, rfl, hs⟩ := h
  have HT0 := Lib.hid (Bx14.new hs)
  have HC0 := Lib.hid (fun W (h : Bx14 w S A0 A1 A2 A3 A4 n0 n1 n2 n3 n4 c0 c1 c2 c3 c4 sq W) => tidy14C A0 S.C n0 c0 16 W h.s.l0 h.s.r0 (by have := h.s.m0; omega) true (by simp [e0]))
  have HC1 := Lib.hid (fun W (h : Bx14 w S A0 A1 A2 A3 A4 n0 n1 n2 n3 n4 c0 c1 c2 c3 c4 sq W) => tidy14T A1 S.T n1 c1 96 W h.s.l1 h.s.r1 (by have := h.s.m1; omega) false (by simp [ne]))
  have t0 := HT0.out.x.cell 0
  clear hs e0 ne
  go_enter Tryz.func42, Tryz.ntmps42
  go_wp2_with fail
  refine (HC0.out _ HT0.out).mono ?_
  rintro e w1 ⟨rfl, hb1⟩
  have HT1 := Lib.hid (HT0.out.step hb1)
  have t1 := HT1.out.x.cell 1
  clear HC0 hb1
  go_wp2_with fail
  refine (HC1.out _ HT1.out).mono ?_
  rintro e w2 ⟨rfl, hb2⟩
  have HT2 := Lib.hid (HT1.out.step hb2)
  clear HC1 hb2
  go_wp2_with fail
  go_ret
  exact ⟨rfl, HT2.out.b⟩
set_option maxHeartbeats 4000000 in
theorem tidyLists14_2 (v : Value) (S : Sv14) (w : World) (h : St14 w v S) (e0 : Tidy14 usC S.C 16) (e1 : Tidy14 usT S.T 96) (ne : ¬ Tidy14 usH S.H 32) :
    Calls Tryz.prog 42 #[v] w fun e w' => e = .returned (.bool false) ∧ Below w.heap.size w w' := by
  obtain ⟨A0, A1, A2, A3, A4, n0, n1, n2, n3, n4, c0, c1, c2, c3, c4, sq, rfl, hs⟩ := h
  have HT0 := Lib.hid (Bx14.new hs)
  have HC0 := Lib.hid (fun W (h : Bx14 w S A0 A1 A2 A3 A4 n0 n1 n2 n3 n4 c0 c1 c2 c3 c4 sq W) => tidy14C A0 S.C n0 c0 16 W h.s.l0 h.s.r0 (by have := h.s.m0; omega) true (by simp [e0]))
  have HC1 := Lib.hid (fun W (h : Bx14 w S A0 A1 A2 A3 A4 n0 n1 n2 n3 n4 c0 c1 c2 c3 c4 sq W) => tidy14T A1 S.T n1 c1 96 W h.s.l1 h.s.r1 (by have := h.s.m1; omega) true (by simp [e1]))
  have HC2 := Lib.hid (fun W (h : Bx14 w S A0 A1 A2 A3 A4 n0 n1 n2 n3 n4 c0 c1 c2 c3 c4 sq W) => tidy14H A2 S.H n2 c2 32 W h.s.l2 h.s.r2 (by have := h.s.m2; omega) false (by simp [ne]))
  have t0 := HT0.out.x.cell 0
  clear hs e0 e1 ne
  go_enter Tryz.func42, Tryz.ntmps42
  go_wp2_with fail
  refine (HC0.out _ HT0.out).mono ?_
  rintro e w1 ⟨rfl, hb1⟩
  have HT1 := Lib.hid (HT0.out.step hb1)
  have t1 := HT1.out.x.cell 1
  clear HC0 hb1
  go_wp2_with fail
  refine (HC1.out _ HT1.out).mono ?_
  rintro e w2 ⟨rfl, hb2⟩
  have HT2 := Lib.hid (HT1.out.step hb2)
  have t2 := HT2.out.x.cell 2
  clear HC1 hb2
  go_wp2_with fail
  refine (HC2.out _ HT2.out).mono ?_
  rintro e w3 ⟨rfl, hb3⟩
  have HT3 := Lib.hid (HT2.out.step hb3)
  clear HC2 hb3
  go_wp2_with fail
  go_ret
  exact ⟨rfl, HT3.out.b⟩
set_option maxHeartbeats 4000000 in
theorem tidyLists14_3 (v : Value) (S : Sv14) (w : World) (h : St14 w v S) (e0 : Tidy14 usC S.C 16) (e1 : Tidy14 usT S.T 96) (e2 : Tidy14 usH S.H 32) (ne : ¬ Tidy14 usL S.L 8) :
    Calls Tryz.prog 42 #[v] w fun e w' => e = .returned (.bool false) ∧ Below w.heap.size w w' := by
  obtain ⟨A0, A1, A2, A3, A4, n0, n1, n2, n3, n4, c0, c1, c2, c3, c4, sq, rfl, hs⟩ := h
  have HT0 := Lib.hid (Bx14.new hs)
  have HC0 := Lib.hid (fun W (h : Bx14 w S A0 A1 A2 A3 A4 n0 n1 n2 n3 n4 c0 c1 c2 c3 c4 sq W) => tidy14C A0 S.C n0 c0 16 W h.s.l0 h.s.r0 (by have := h.s.m0; omega) true (by simp [e0]))
  have HC1 := Lib.hid (fun W (h : Bx14 w S A0 A1 A2 A3 A4 n0 n1 n2 n3 n4 c0 c1 c2 c3 c4 sq W) => tidy14T A1 S.T n1 c1 96 W h.s.l1 h.s.r1 (by have := h.s.m1; omega) true (by simp [e1]))
  have HC2 := Lib.hid (fun W (h : Bx14 w S A0 A1 A2 A3 A4 n0 n1 n2 n3 n4 c0 c1 c2 c3 c4 sq W) => tidy14H A2 S.H n2 c2 32 W h.s.l2 h.s.r2 (by have := h.s.m2; omega) true (by simp [e2]))
  have HC3 := Lib.hid (fun W (h : Bx14 w S A0 A1 A2 A3 A4 n0 n1 n2 n3 n4 c0 c1 c2 c3 c4 sq W) => tidy14L A3 S.L n3 c3 8 W h.s.l3 h.s.r3 (by have := h.s.m3; omega) false (by simp [ne]))
  have t0 := HT0.out.x.cell 0
  clear hs e0 e1 e2 ne
  go_enter Tryz.func42, Tryz.ntmps42
  go_wp2_with fail
  refine (HC0.out _ HT0.out).mono ?_
  rintro e w1 ⟨rfl, hb1⟩
  have HT1 := Lib.hid (HT0.out.step hb1)
  have t1 := HT1.out.x.cell 1
  clear HC0 hb1
  go_wp2_with fail
  refine (HC1.out _ HT1.out).mono ?_
  rintro e w2 ⟨rfl, hb2⟩
  have HT2 := Lib.hid (HT1.out.step hb2)
  have t2 := HT2.out.x.cell 2
  clear HC1 hb2
  go_wp2_with fail
  refine (HC2.out _ HT2.out).mono ?_
  rintro e w3 ⟨rfl, hb3⟩
  have HT3 := Lib.hid (HT2.out.step hb3)
  have t3 := HT3.out.x.cell 3
  clear HC2 hb3
  go_wp2_with fail
  refine (HC3.out _ HT3.out).mono ?_
  rintro e w4 ⟨rfl, hb4⟩
  have HT4 := Lib.hid (HT3.out.step hb4)
  clear HC3 hb4
  go_wp2_with fail
  go_ret
  exact ⟨rfl, HT4.out.b⟩
set_option maxHeartbeats 4000000 in
theorem tidyLists14_4 (v : Value) (S : Sv14) (w : World) (h : St14 w v S) (e0 : Tidy14 usC S.C 16) (e1 : Tidy14 usT S.T 96) (e2 : Tidy14 usH S.H 32) (e3 : Tidy14 usL S.L 8) :
    Calls Tryz.prog 42 #[v] w fun e w' => e = .returned (.bool true) ∧ Below w.heap.size w w' := by
  obtain ⟨A0, A1, A2, A3, A4, n0, n1, n2, n3, n4, c0, c1, c2, c3, c4, sq, rfl, hs⟩ := h
  have HT0 := Lib.hid (Bx14.new hs)
  have HC0 := Lib.hid (fun W (h : Bx14 w S A0 A1 A2 A3 A4 n0 n1 n2 n3 n4 c0 c1 c2 c3 c4 sq W) => tidy14C A0 S.C n0 c0 16 W h.s.l0 h.s.r0 (by have := h.s.m0; omega) true (by simp [e0]))
  have HC1 := Lib.hid (fun W (h : Bx14 w S A0 A1 A2 A3 A4 n0 n1 n2 n3 n4 c0 c1 c2 c3 c4 sq W) => tidy14T A1 S.T n1 c1 96 W h.s.l1 h.s.r1 (by have := h.s.m1; omega) true (by simp [e1]))
  have HC2 := Lib.hid (fun W (h : Bx14 w S A0 A1 A2 A3 A4 n0 n1 n2 n3 n4 c0 c1 c2 c3 c4 sq W) => tidy14H A2 S.H n2 c2 32 W h.s.l2 h.s.r2 (by have := h.s.m2; omega) true (by simp [e2]))
  have HC3 := Lib.hid (fun W (h : Bx14 w S A0 A1 A2 A3 A4 n0 n1 n2 n3 n4 c0 c1 c2 c3 c4 sq W) => tidy14L A3 S.L n3 c3 8 W h.s.l3 h.s.r3 (by have := h.s.m3; omega) true (by simp [e3]))
  have t0 := HT0.out.x.cell 0
  clear hs e0 e1 e2 e3
  go_enter Tryz.func42, Tryz.ntmps42
  go_wp2_with fail
  refine (HC0.out _ HT0.out).mono ?_
  rintro e w1 ⟨rfl, hb1⟩
  have HT1 := Lib.hid (HT0.out.step hb1)
  have t1 := HT1.out.x.cell 1
  clear HC0 hb1
  go_wp2_with fail
  refine (HC1.out _ HT1.out).mono ?_
  rintro e w2 ⟨rfl, hb2⟩
  have HT2 := Lib.hid (HT1.out.step hb2)
  have t2 := HT2.out.x.cell 2
  clear HC1 hb2
  go_wp2_with fail
  refine (HC2.out _ HT2.out).mono ?_
  rintro e w3 ⟨rfl, hb3⟩
  have HT3 := Lib.hid (HT2.out.step hb3)
  have t3 := HT3.out.x.cell 3
  clear HC2 hb3
  go_wp2_with fail
  refine (HC3.out _ HT3.out).mono ?_
  rintro e w4 ⟨rfl, hb4⟩
  have HT4 := Lib.hid (HT3.out.step hb4)
  clear HC3 hb4
  go_wp2_with fail
  go_ret
  exact ⟨rfl, HT4.out.b⟩
theorem tidyLists14 (v : Value) (S : Sv14) (b : Bool) (w : World) (h : St14 w v S) (hb : b = true ↔ Tidies14 S) :
    Calls Tryz.prog 42 #[v] w fun e w' => e = .returned (.bool b) ∧ Below w.heap.size w w' := by
  by_cases e0 : Tidy14 usC S.C 16
  case neg =>
    obtain rfl : b = false := bool14_of hb (fun h => e0 h.1)
    exact tidyLists14_0 v S w h e0
  by_cases e1 : Tidy14 usT S.T 96
  case neg =>
    obtain rfl : b = false := bool14_of hb (fun h => e1 h.2.1)
    exact tidyLists14_1 v S w h e0 e1
  by_cases e2 : Tidy14 usH S.H 32
  case neg =>
    obtain rfl : b = false := bool14_of hb (fun h => e2 h.2.2.1)
    exact tidyLists14_2 v S w h e0 e1 e2
  by_cases e3 : Tidy14 usL S.L 8
  case neg =>
    obtain rfl : b = false := bool14_of hb (fun h => e3 h.2.2.2)
    exact tidyLists14_3 v S w h e0 e1 e2 e3
  obtain rfl : b = true := hb.2 ⟨e0, e1, e2, e3⟩
  exact tidyLists14_4 v S w h e0 e1 e2 e3
set_option maxHeartbeats 1200000 in
theorem fineTickets14 (v : Value) (S : Sv14) (b : Bool) (w : World) (h : St14 w v S) (hbt : b = true ↔ Tickets14 S) :
    Calls Tryz.prog 43 #[v] w fun e w' => e = .returned (.bool b) ∧ Below w.heap.size w w' := by
  obtain ⟨A0, A1, A2, A3, A4, n0, n1, n2, n3, n4, c0, c1, c2, c3, c4, sq, rfl, hs⟩ := h
  have HX0 := Lib.hid (Bx14.new hs)
  have HBT := Lib.hid hbt
  have hnT := hs.m1
  have hnH := hs.m2
  have hnL := hs.m3
  have HLT := Lib.hid hs.l1
  have HLH := Lib.hid hs.l2
  have HLL := Lib.hid hs.l3
  have t1 := HX0.out.x.cell 1
  clear hs hbt
  go_enter Tryz.func43, Tryz.ntmps43
  go_wp2_with fail
  clear t1
  go_loopw [9] (fun i wr => ∃ k : Nat, i = .int .i64 (k : Int) ∧ k ≤ n1 ∧ Hid (∀ j, j < k → usT (gt14 S.T j) = true → Ticket14 S (gt14 S.T j)) ∧ Hid (Bx14 w S A0 A1 A2 A3 A4 n0 n1 n2 n3 n4 c0 c1 c2 c3 c4 sq wr)) (fun i _ => n1 - (intOf i).toNat)
  case atStart => exact ⟨0, rfl, by omega, Lib.hid (fun j h => by omega), HX0⟩
  case round =>
    obtain ⟨k, rfl, hk, HN, HW⟩ := hrel
    by_cases hkn : k < n1
    · skip
      obtain ⟨a, of, hA, hab, hq⟩ := Lq.at_ len14T (by omega) HW.out.s.r1 (show k < S.T.length by rw [HW.out.s.l1]; omega)
      have HAE := Lib.hid hA
      obtain ⟨x, hx⟩ : ∃ x, gt14 S.T k = x := ⟨_, rfl⟩
      rw [hx] at hq
      obtain ⟨xu, xc, xa, xk, xt, xo⟩ := x
      have e0 : wr.cell? ⟨a, of + k * 6, none⟩ = some (.bool xu) := hq 0 _ rfl
      have e1 : wr.cell? ⟨a, of + k * 6 + 1, none⟩ = some (.int .i64 xc) := hq 1 _ rfl
      have e2 : wr.cell? ⟨a, of + k * 6 + 2, none⟩ = some (.int .i64 xa) := hq 2 _ rfl
      have e3 : wr.cell? ⟨a, of + k * 6 + 3, none⟩ = some (.int .i64 xk) := hq 3 _ rfl
      have e4 : wr.cell? ⟨a, of + k * 6 + 4, none⟩ = some (.int .i64 xt) := hq 4 _ rfl
      have e5 : wr.cell? ⟨a, of + k * 6 + 5, none⟩ = some (.bool xo) := hq 5 _ rfl
      have i0 : (0 : Int) ≤ (k : Int) := by omega
      have i1 : (k : Int) < (n1 : Int) := by omega
      have HV := Lib.hid (Bx14.step HW.out (b1' wr (.cells #[.bool xu, .int .i64 xc, .int .i64 xa, .int .i64 xk, .int .i64 xt, .bool xo] 43)))
      have hv := Blk.new wr 43 #[.bool xu, .int .i64 xc, .int .i64 xa, .int .i64 xk, .int .i64 xt, .bool xo]
      have v0 := hv.cell 0
      have v1 := hv.cell 1
      have v2 := hv.cell 2
      have v3 := hv.cell 3
      have v4 := hv.cell 4
      have v5 := hv.cell 5
      have HVB := Lib.hid hv
      have HXE := Lib.hid hx
      have p0 := HV.out.x.cell 0
      have p1 := HV.out.x.cell 1
      have p2 := HV.out.x.cell 2
      have p3 := HV.out.x.cell 3
      have p4 := HV.out.x.cell 4
      have p5 := HV.out.x.cell 5
      obtain ⟨X, hX⟩ : ∃ X, wr.alloc (.cells #[.bool xu, .int .i64 xc, .int .i64 xa, .int .i64 xk, .int .i64 xt, .bool xo] 43) = X := ⟨_, rfl⟩
      rw [hX] at HV HVB v0 v1 v2 v3 v4 v5 p0 p1 p2 p3 p4 p5
      clear hv hq hx hab
      subst hA
      have HN2 : xu = false ∨ Ticket14 S ⟨xu, xc, xa, xk, xt, xo⟩ → Hid (∀ j, j < k + 1 → usT (gt14 S.T j) = true → Ticket14 S (gt14 S.T j)) := fun h => Lib.hid (fun j hj hu => by
        rcases (show j < k ∨ j = k by omega) with h5 | h5
        · exact HN.out j h5 hu
        · rw [h5, HXE.out] at hu ⊢
          rcases h with h | h
          · rw [show usT ⟨xu, xc, xa, xk, xt, xo⟩ = xu from rfl, h] at hu; cases hu
          · exact h)
      have HFF : xu = true → ¬ Ticket14 S ⟨xu, xc, xa, xk, xt, xo⟩ → Hid (b = false) := fun h1 h2 => Lib.hid (bool14_of HBT.out (fun h => h2 (by
        have h3 := h k (by rw [HLT.out]; exact hkn) (by rw [HXE.out]; exact h1)
        rwa [HXE.out] at h3)))
      have HN3 := Lib.hid HN2
      have HFF2 := Lib.hid HFF
      obtain ⟨bc, hbc⟩ : ∃ bc, us14 usC S.C xc = bc := ⟨_, rfl⟩
      have HBC := Lib.hid hbc
      have HCC := Lib.hid (coin14 _ S xc bc X HV.out.st hbc)
      clear HN2 HFF hbc
      cases bc with
      | false =>
        cases xu with
        | true =>
          have HF := HFF2.out rfl (fun h => by have h1 := h.1; rw [HBC.out] at h1; cases h1)
          go_wp2_with fail
          refine HCC.out.mono ?_
          rintro e u ⟨rfl, hbu⟩
          have HU := Lib.hid (HV.out.step hbu)
          have HBX := Lib.hid hbu
          have HVU := Lib.hid (HVB.out.below hbu HVB.out.lt)
          have w0_ := HVU.out.cell 0
          have w1_ := HVU.out.cell 1
          have w2_ := HVU.out.cell 2
          have w3_ := HVU.out.cell 3
          have w4_ := HVU.out.cell 4
          have w5_ := HVU.out.cell 5
          have z0 := HU.out.x.cell 0
          have z1 := HU.out.x.cell 1
          have z2 := HU.out.x.cell 2
          have z3 := HU.out.x.cell 3
          have z4 := HU.out.x.cell 4
          have z5 := HU.out.x.cell 5
          clear HCC hbu
          go_wp2_with fail
          go_ret
          exact ⟨by rw [HF.out]; rfl, HU.out.b⟩
        | false =>
          have HN2 := HN3.out (.inl rfl)
          go_wp2_with fail
          refine HCC.out.mono ?_
          rintro e u ⟨rfl, hbu⟩
          have HU := Lib.hid (HV.out.step hbu)
          have HBX := Lib.hid hbu
          have HVU := Lib.hid (HVB.out.below hbu HVB.out.lt)
          have w0_ := HVU.out.cell 0
          have w1_ := HVU.out.cell 1
          have w2_ := HVU.out.cell 2
          have w3_ := HVU.out.cell 3
          have w4_ := HVU.out.cell 4
          have w5_ := HVU.out.cell 5
          have z0 := HU.out.x.cell 0
          have z1 := HU.out.x.cell 1
          have z2 := HU.out.x.cell 2
          have z3 := HU.out.x.cell 3
          have z4 := HU.out.x.cell 4
          have z5 := HU.out.x.cell 5
          clear HCC hbu
          go_wp2_with fail
          go_roundw
          case rel => exact ⟨k + 1, by go_num, by omega, HN2, HU⟩
          case measure => simp [intOf]; omega
      | true =>
        by_cases a1 : 1 ≤ xa
        · by_cases a2 : xa ≤ 1048576
          · obtain ⟨bt, hbt2⟩ := ex_bool14 (Target14 S ⟨xu, xc, xa, xk, xt, xo⟩)
            have HBT2 := Lib.hid hbt2
            have HTG := Lib.hid (fun W (h : Below X.heap.size X W) => fineTarget14 _ S xu xc xa xk xt xo bt W (HV.out.step h).st hbt2)
            have HAA := Lib.hid (And.intro a1 a2)
            clear hbt2
            go_wp2_with fail
            refine HCC.out.mono ?_
            rintro e u ⟨rfl, hbu⟩
            have HU := Lib.hid (HV.out.step hbu)
            have HBX := Lib.hid hbu
            have HVU := Lib.hid (HVB.out.below hbu HVB.out.lt)
            have w0_ := HVU.out.cell 0
            have w1_ := HVU.out.cell 1
            have w2_ := HVU.out.cell 2
            have w3_ := HVU.out.cell 3
            have w4_ := HVU.out.cell 4
            have w5_ := HVU.out.cell 5
            have z0 := HU.out.x.cell 0
            have z1 := HU.out.x.cell 1
            have z2 := HU.out.x.cell 2
            have z3 := HU.out.x.cell 3
            have z4 := HU.out.x.cell 4
            have z5 := HU.out.x.cell 5
            clear HCC hbu
            go_wp2_with fail
            refine (HTG.out _ HBX.out).mono ?_
            rintro e u2 ⟨rfl, hb2⟩
            have HU2 := Lib.hid (HU.out.step hb2)
            have HV2 := Lib.hid (HVU.out.below hb2 HVU.out.lt)
            have y0 := HV2.out.cell 0
            clear HTG hb2
            cases xu with
            | false =>
              have HN2 := HN3.out (.inl rfl)
              go_wp2_with fail
              go_roundw
              case rel => exact ⟨k + 1, by go_num, by omega, HN2, HU2⟩
              case measure => simp [intOf]; omega
            | true =>
              cases bt with
              | true =>
                have HN2 := HN3.out (.inr ⟨HBC.out, HAA.out.1, HAA.out.2, HBT2.out.1 rfl⟩)
                go_wp2_with fail
                go_roundw
                case rel => exact ⟨k + 1, by go_num, by omega, HN2, HU2⟩
                case measure => simp [intOf]; omega
              | false =>
                have HF := HFF2.out rfl (fun h => by have := HBT2.out.2 h.2.2.2; cases this)
                go_wp2_with fail
                go_ret
                exact ⟨by rw [HF.out]; rfl, HU2.out.b⟩
          · have g2 : ¬ xa ≤ 1048576 := a2
            have g3 : decide (xa ≤ 1048576) = false := decide_eq_false a2
            have HA2 := Lib.hid a2
            clear a2
            cases xu with
            | true =>
              have HF := HFF2.out rfl (fun h => HA2.out h.2.2.1)
              go_wp2_with fail
              refine HCC.out.mono ?_
              rintro e u ⟨rfl, hbu⟩
              have HU := Lib.hid (HV.out.step hbu)
              have HBX := Lib.hid hbu
              have HVU := Lib.hid (HVB.out.below hbu HVB.out.lt)
              have w0_ := HVU.out.cell 0
              have w1_ := HVU.out.cell 1
              have w2_ := HVU.out.cell 2
              have w3_ := HVU.out.cell 3
              have w4_ := HVU.out.cell 4
              have w5_ := HVU.out.cell 5
              have z0 := HU.out.x.cell 0
              have z1 := HU.out.x.cell 1
              have z2 := HU.out.x.cell 2
              have z3 := HU.out.x.cell 3
              have z4 := HU.out.x.cell 4
              have z5 := HU.out.x.cell 5
              clear HCC hbu
              go_wp2_with fail
              go_ret
              exact ⟨by rw [HF.out]; rfl, HU.out.b⟩
            | false =>
              have HN2 := HN3.out (.inl rfl)
              go_wp2_with fail
              refine HCC.out.mono ?_
              rintro e u ⟨rfl, hbu⟩
              have HU := Lib.hid (HV.out.step hbu)
              have HBX := Lib.hid hbu
              have HVU := Lib.hid (HVB.out.below hbu HVB.out.lt)
              have w0_ := HVU.out.cell 0
              have w1_ := HVU.out.cell 1
              have w2_ := HVU.out.cell 2
              have w3_ := HVU.out.cell 3
              have w4_ := HVU.out.cell 4
              have w5_ := HVU.out.cell 5
              have z0 := HU.out.x.cell 0
              have z1 := HU.out.x.cell 1
              have z2 := HU.out.x.cell 2
              have z3 := HU.out.x.cell 3
              have z4 := HU.out.x.cell 4
              have z5 := HU.out.x.cell 5
              clear HCC hbu
              go_wp2_with fail
              go_roundw
              case rel => exact ⟨k + 1, by go_num, by omega, HN2, HU⟩
              case measure => simp [intOf]; omega
        · have g3 : decide (1 ≤ xa) = false := decide_eq_false a1
          have HA1 := Lib.hid a1
          cases xu with
          | true =>
            have HF := HFF2.out rfl (fun h => HA1.out h.2.1)
            go_wp2_with fail
            refine HCC.out.mono ?_
            rintro e u ⟨rfl, hbu⟩
            have HU := Lib.hid (HV.out.step hbu)
            have HBX := Lib.hid hbu
            have HVU := Lib.hid (HVB.out.below hbu HVB.out.lt)
            have w0_ := HVU.out.cell 0
            have w1_ := HVU.out.cell 1
            have w2_ := HVU.out.cell 2
            have w3_ := HVU.out.cell 3
            have w4_ := HVU.out.cell 4
            have w5_ := HVU.out.cell 5
            have z0 := HU.out.x.cell 0
            have z1 := HU.out.x.cell 1
            have z2 := HU.out.x.cell 2
            have z3 := HU.out.x.cell 3
            have z4 := HU.out.x.cell 4
            have z5 := HU.out.x.cell 5
            clear HCC hbu
            go_wp2_with fail
            go_ret
            exact ⟨by rw [HF.out]; rfl, HU.out.b⟩
          | false =>
            have HN2 := HN3.out (.inl rfl)
            go_wp2_with fail
            refine HCC.out.mono ?_
            rintro e u ⟨rfl, hbu⟩
            have HU := Lib.hid (HV.out.step hbu)
            have HBX := Lib.hid hbu
            have HVU := Lib.hid (HVB.out.below hbu HVB.out.lt)
            have w0_ := HVU.out.cell 0
            have w1_ := HVU.out.cell 1
            have w2_ := HVU.out.cell 2
            have w3_ := HVU.out.cell 3
            have w4_ := HVU.out.cell 4
            have w5_ := HVU.out.cell 5
            have z0 := HU.out.x.cell 0
            have z1 := HU.out.x.cell 1
            have z2 := HU.out.x.cell 2
            have z3 := HU.out.x.cell 3
            have z4 := HU.out.x.cell 4
            have z5 := HU.out.x.cell 5
            clear HCC hbu
            go_wp2_with fail
            go_roundw
            case rel => exact ⟨k + 1, by go_num, by omega, HN2, HU⟩
            case measure => simp [intOf]; omega
    · have HT : Hid (b = true) := Lib.hid (HBT.out.2 (fun j hj => HN.out j (by rw [HLT.out] at hj; omega)))
      go_wp2_with fail
      go_ret
      exact ⟨by rw [HT.out]; rfl, HW.out.b⟩
set_option maxHeartbeats 1200000 in
theorem fineThreads14 (v : Value) (S : Sv14) (b : Bool) (w : World) (h : St14 w v S) (hbt : b = true ↔ Threads14 S) :
    Calls Tryz.prog 44 #[v] w fun e w' => e = .returned (.bool b) ∧ Below w.heap.size w w' := by
  obtain ⟨A0, A1, A2, A3, A4, n0, n1, n2, n3, n4, c0, c1, c2, c3, c4, sq, rfl, hs⟩ := h
  have HX0 := Lib.hid (Bx14.new hs)
  have HBT := Lib.hid hbt
  have hnT := hs.m1
  have hnH := hs.m2
  have hnL := hs.m3
  have HLT := Lib.hid hs.l1
  have HLH := Lib.hid hs.l2
  have HLL := Lib.hid hs.l3
  have t1 := HX0.out.x.cell 2
  clear hs hbt
  go_enter Tryz.func44, Tryz.ntmps44
  go_wp2_with fail
  clear t1
  go_loopw [3, 10] (fun r i wr => ∃ k : Nat, r = .int .i64 ((runs14 S.H k : Nat) : Int) ∧ i = .int .i64 (k : Int) ∧ k ≤ n2 ∧ Hid (∀ j, j < k → usH (gt14 S.H j) = true → Thrd14 S j (gt14 S.H j)) ∧ Hid (Bx14 w S A0 A1 A2 A3 A4 n0 n1 n2 n3 n4 c0 c1 c2 c3 c4 sq wr)) (fun _ i _ => n2 - (intOf i).toNat)
  case atStart => exact ⟨0, rfl, rfl, by omega, Lib.hid (fun j h => by omega), HX0⟩
  case round =>
    obtain ⟨k, rfl, rfl, hk, HN, HW⟩ := hrel
    obtain ⟨rn, hrn⟩ : ∃ r, runs14 S.H k = r := ⟨_, rfl⟩
    have hrk : rn ≤ k := by rw [← hrn]; exact runs14_le _ _
    have HRN := Lib.hid hrn
    rw [hrn]
    clear hrn
    by_cases hkn : k < n2
    · skip
      obtain ⟨a, of, hA, hab, hq⟩ := Lq.at_ len14H (by omega) HW.out.s.r2 (show k < S.H.length by rw [HW.out.s.l2]; omega)
      have HAE := Lib.hid hA
      obtain ⟨x, hx⟩ : ∃ x, gt14 S.H k = x := ⟨_, rfl⟩
      rw [hx] at hq
      obtain ⟨xz, xf, xc, xq, xu⟩ := x
      have e0 : wr.cell? ⟨a, of + k * 5, none⟩ = some (.int .i64 xz) := hq 0 _ rfl
      have e1 : wr.cell? ⟨a, of + k * 5 + 1, none⟩ = some (.int .i64 xf) := hq 1 _ rfl
      have e2 : wr.cell? ⟨a, of + k * 5 + 2, none⟩ = some (.int .i64 xc) := hq 2 _ rfl
      have e3 : wr.cell? ⟨a, of + k * 5 + 3, none⟩ = some (.int .i64 xq) := hq 3 _ rfl
      have e4 : wr.cell? ⟨a, of + k * 5 + 4, none⟩ = some (.int .i64 xu) := hq 4 _ rfl
      have i0 : (0 : Int) ≤ (k : Int) := by omega
      have i1 : (k : Int) < (n2 : Int) := by omega
      have HV := Lib.hid (Bx14.step HW.out (b1' wr (.cells #[.int .i64 xz, .int .i64 xf, .int .i64 xc, .int .i64 xq, .int .i64 xu] 45)))
      have hv := Blk.new wr 45 #[.int .i64 xz, .int .i64 xf, .int .i64 xc, .int .i64 xq, .int .i64 xu]
      have v0 := hv.cell 0
      have v1 := hv.cell 1
      have v2 := hv.cell 2
      have v3 := hv.cell 3
      have v4 := hv.cell 4
      have HVB := Lib.hid hv
      have HXE := Lib.hid hx
      have p0 := HV.out.x.cell 0
      have p1 := HV.out.x.cell 1
      have p2 := HV.out.x.cell 2
      have p3 := HV.out.x.cell 3
      have p4 := HV.out.x.cell 4
      have p5 := HV.out.x.cell 5
      obtain ⟨X, hX⟩ : ∃ X, wr.alloc (.cells #[.int .i64 xz, .int .i64 xf, .int .i64 xc, .int .i64 xq, .int .i64 xu] 45) = X := ⟨_, rfl⟩
      rw [hX] at HV HVB v0 v1 v2 v3 v4 p0 p1 p2 p3 p4 p5
      clear hv hq hx hab
      subst hA
      have HNN : xz = 0 ∨ Thrd14 S k ⟨xz, xf, xc, xq, xu⟩ → Hid (∀ j, j < k + 1 → usH (gt14 S.H j) = true → Thrd14 S j (gt14 S.H j)) := fun h => Lib.hid (fun j hj hu => by
        rcases (show j < k ∨ j = k by omega) with h5 | h5
        · exact HN.out j h5 hu
        · rw [h5, HXE.out] at hu ⊢
          rcases h with h | h
          · rw [h] at hu; simp [usH] at hu
          · exact h)
      have HFF : xz ≠ 0 → ¬ Thrd14 S k ⟨xz, xf, xc, xq, xu⟩ → Hid (b = false) := fun h1 h2 => Lib.hid (bool14_of HBT.out (fun h => h2 (by
        have h3 := h.1 k (by rw [HLH.out]; exact hkn) (by rw [HXE.out]; simp [usH, h1])
        rwa [HXE.out] at h3)))
      have HR3 : Hid (runs14 S.H (k + 1) = rn + if xz = 3 then 1 else 0) := Lib.hid (by rw [runs14, HRN.out, HXE.out])
      have HN3 := Lib.hid HNN
      have HFF2 := Lib.hid HFF
      have HKL : Hid (k < S.H.length) := Lib.hid (by rw [HLH.out]; exact hkn)
      obtain ⟨bf, hbf⟩ := ex_bool14 (For14 S k ⟨xz, xf, xc, xq, xu⟩)
      obtain ⟨bc, hbc⟩ := ex_bool14 (Client14 S k ⟨xz, xf, xc, xq, xu⟩)
      obtain ⟨bq, hbq⟩ := ex_bool14 (Factor14 sq ⟨xz, xf, xc, xq, xu⟩)
      have HSQ := Lib.hid HV.out.s.e
      have HBF := Lib.hid hbf
      have HBC := Lib.hid hbc
      have HBQ := Lib.hid hbq
      have HCF := Lib.hid (fun W (h : Below X.heap.size X W) => fineFor14 _ S k xz xf xc xq xu bf W (HV.out.step h).st HKL.out HXE.out hbf)
      have HCC := Lib.hid (fun W (h : Below X.heap.size X W) => fineClient14 _ S k xz xf xc xq xu bc W (HV.out.step h).st HKL.out HXE.out hbc)
      have HCQ := Lib.hid (fun W => fineFactor14 xz xf xc xq xu sq bq W hbq)
      have hw1 : IntKind.i64.wrap ((rn : Int) + 1) = ((rn + 1 : Nat) : Int) := by rw [IntKind.wrap_i64]; omega
      clear HNN HFF hbf hbc hbq HN
      by_cases z0 : xz = 0
      · subst z0
        obtain rfl : bf = false := bool14_of HBF.out (fun h => by simp [For14] at h)
        have HN2 := HN3.out (.inl rfl)
        have HUS := Lib.hid (fun W => used14H 0 xf xc xq xu false (by simp [usH]) W)
        go_wp2_with fail
        refine (HCF.out _ (Below.refl _ _)).mono ?_
        rintro e u1 ⟨rfl, hb1⟩
        have HU1 := Lib.hid (HV.out.step hb1)
        have HBX1 := Lib.hid (hb1)
        have HY1 := Lib.hid (HVB.out.below hb1 HVB.out.lt)
        have a10 := HY1.out.cell 0
        have a11 := HY1.out.cell 1
        have a12 := HY1.out.cell 2
        have a13 := HY1.out.cell 3
        have a14 := HY1.out.cell 4
        have b10 := HU1.out.x.cell 0
        have b11 := HU1.out.x.cell 1
        have b12 := HU1.out.x.cell 2
        have b13 := HU1.out.x.cell 3
        have b14 := HU1.out.x.cell 4
        have b15 := HU1.out.x.cell 5
        clear hb1
        go_wp2_with fail
        refine (HUS.out _).mono ?_
        rintro e u2 ⟨rfl, hb2⟩
        have HU2 := Lib.hid (HU1.out.step hb2)
        have HY2 := Lib.hid (HY1.out.below hb2 HY1.out.lt)
        have a20 := HY2.out.cell 0
        clear hb2 HUS
        have HRE : Hid (runs14 S.H (k + 1) = rn) := Lib.hid (HR3.out.trans (by simp))
        go_wp2_with fail
        go_roundw
        case rel => exact ⟨k + 1, by rw [HRE.out], by go_num, by omega, HN2, HU2⟩
        case measure => simp [intOf]; omega
      · have HUS := Lib.hid (fun W => used14H xz xf xc xq xu true (by simp [usH, z0]) W)
        have HZ0 := Lib.hid z0
        cases bf with
        | false =>
          have HF := HFF2.out z0 (fun h => by have := HBF.out.2 h.1; cases this)
          go_wp2_with fail
          refine (HCF.out _ (Below.refl _ _)).mono ?_
          rintro e u1 ⟨rfl, hb1⟩
          have HU1 := Lib.hid (HV.out.step hb1)
          have HBX1 := Lib.hid (hb1)
          have HY1 := Lib.hid (HVB.out.below hb1 HVB.out.lt)
          have a10 := HY1.out.cell 0
          have a11 := HY1.out.cell 1
          have a12 := HY1.out.cell 2
          have a13 := HY1.out.cell 3
          have a14 := HY1.out.cell 4
          have b10 := HU1.out.x.cell 0
          have b11 := HU1.out.x.cell 1
          have b12 := HU1.out.x.cell 2
          have b13 := HU1.out.x.cell 3
          have b14 := HU1.out.x.cell 4
          have b15 := HU1.out.x.cell 5
          clear hb1
          go_wp2_with fail
          refine (HUS.out _).mono ?_
          rintro e u2 ⟨rfl, hb2⟩
          have HU2 := Lib.hid (HU1.out.step hb2)
          have HY2 := Lib.hid (HY1.out.below hb2 HY1.out.lt)
          have a20 := HY2.out.cell 0
          clear hb2 HUS
          go_wp2_with fail
          go_ret
          exact ⟨by rw [HF.out]; rfl, HU2.out.b⟩
        | true =>
          cases bc with
          | false =>
            have HF := HFF2.out z0 (fun h => by have := HBC.out.2 h.2.1; cases this)
            go_wp2_with fail
            refine (HCF.out _ (Below.refl _ _)).mono ?_
            rintro e u1 ⟨rfl, hb1⟩
            have HU1 := Lib.hid (HV.out.step hb1)
            have HBX1 := Lib.hid (hb1)
            have HY1 := Lib.hid (HVB.out.below hb1 HVB.out.lt)
            have a10 := HY1.out.cell 0
            have a11 := HY1.out.cell 1
            have a12 := HY1.out.cell 2
            have a13 := HY1.out.cell 3
            have a14 := HY1.out.cell 4
            have b10 := HU1.out.x.cell 0
            have b11 := HU1.out.x.cell 1
            have b12 := HU1.out.x.cell 2
            have b13 := HU1.out.x.cell 3
            have b14 := HU1.out.x.cell 4
            have b15 := HU1.out.x.cell 5
            clear hb1
            go_wp2_with fail
            refine (HCC.out _ HBX1.out).mono ?_
            rintro e u2 ⟨rfl, hb2⟩
            have HU2 := Lib.hid (HU1.out.step hb2)
            have HBX2 := Lib.hid (HBX1.out.trans (hb2.mono HBX1.out.size))
            have HY2 := Lib.hid (HY1.out.below hb2 HY1.out.lt)
            have a20 := HY2.out.cell 0
            have a21 := HY2.out.cell 1
            have a22 := HY2.out.cell 2
            have a23 := HY2.out.cell 3
            have a24 := HY2.out.cell 4
            have b20 := HU2.out.x.cell 0
            have b21 := HU2.out.x.cell 1
            have b22 := HU2.out.x.cell 2
            have b23 := HU2.out.x.cell 3
            have b24 := HU2.out.x.cell 4
            have b25 := HU2.out.x.cell 5
            clear hb2
            go_wp2_with fail
            refine (HUS.out _).mono ?_
            rintro e u3 ⟨rfl, hb3⟩
            have HU3 := Lib.hid (HU2.out.step hb3)
            have HY3 := Lib.hid (HY2.out.below hb3 HY2.out.lt)
            have a30 := HY3.out.cell 0
            clear hb3 HUS
            go_wp2_with fail
            go_ret
            exact ⟨by rw [HF.out]; rfl, HU3.out.b⟩
          | true =>
            cases bq with
            | false =>
              have HF := HFF2.out z0 (fun h => by have h2 := h.2.2; rw [HSQ.out] at h2; have := HBQ.out.2 h2; cases this)
              go_wp2_with fail
              refine (HCF.out _ (Below.refl _ _)).mono ?_
              rintro e u1 ⟨rfl, hb1⟩
              have HU1 := Lib.hid (HV.out.step hb1)
              have HBX1 := Lib.hid (hb1)
              have HY1 := Lib.hid (HVB.out.below hb1 HVB.out.lt)
              have a10 := HY1.out.cell 0
              have a11 := HY1.out.cell 1
              have a12 := HY1.out.cell 2
              have a13 := HY1.out.cell 3
              have a14 := HY1.out.cell 4
              have b10 := HU1.out.x.cell 0
              have b11 := HU1.out.x.cell 1
              have b12 := HU1.out.x.cell 2
              have b13 := HU1.out.x.cell 3
              have b14 := HU1.out.x.cell 4
              have b15 := HU1.out.x.cell 5
              clear hb1
              go_wp2_with fail
              refine (HCC.out _ HBX1.out).mono ?_
              rintro e u2 ⟨rfl, hb2⟩
              have HU2 := Lib.hid (HU1.out.step hb2)
              have HBX2 := Lib.hid (HBX1.out.trans (hb2.mono HBX1.out.size))
              have HY2 := Lib.hid (HY1.out.below hb2 HY1.out.lt)
              have a20 := HY2.out.cell 0
              have a21 := HY2.out.cell 1
              have a22 := HY2.out.cell 2
              have a23 := HY2.out.cell 3
              have a24 := HY2.out.cell 4
              have b20 := HU2.out.x.cell 0
              have b21 := HU2.out.x.cell 1
              have b22 := HU2.out.x.cell 2
              have b23 := HU2.out.x.cell 3
              have b24 := HU2.out.x.cell 4
              have b25 := HU2.out.x.cell 5
              clear hb2
              go_wp2_with fail
              refine (HCQ.out _).mono ?_
              rintro e u3 ⟨rfl, hb3⟩
              have HU3 := Lib.hid (HU2.out.step hb3)
              have HBX3 := Lib.hid (HBX2.out.trans (hb3.mono HBX2.out.size))
              have HY3 := Lib.hid (HY2.out.below hb3 HY2.out.lt)
              have a30 := HY3.out.cell 0
              have a31 := HY3.out.cell 1
              have a32 := HY3.out.cell 2
              have a33 := HY3.out.cell 3
              have a34 := HY3.out.cell 4
              have b30 := HU3.out.x.cell 0
              have b31 := HU3.out.x.cell 1
              have b32 := HU3.out.x.cell 2
              have b33 := HU3.out.x.cell 3
              have b34 := HU3.out.x.cell 4
              have b35 := HU3.out.x.cell 5
              clear hb3
              go_wp2_with fail
              refine (HUS.out _).mono ?_
              rintro e u4 ⟨rfl, hb4⟩
              have HU4 := Lib.hid (HU3.out.step hb4)
              have HY4 := Lib.hid (HY3.out.below hb4 HY3.out.lt)
              have a40 := HY4.out.cell 0
              clear hb4 HUS
              go_wp2_with fail
              go_ret
              exact ⟨by rw [HF.out]; rfl, HU4.out.b⟩
            | true =>
              have HN2 := HN3.out (.inr ⟨HBF.out.1 rfl, HBC.out.1 rfl, by rw [HSQ.out]; exact HBQ.out.1 rfl⟩)
              go_wp2_with fail
              refine (HCF.out _ (Below.refl _ _)).mono ?_
              rintro e u1 ⟨rfl, hb1⟩
              have HU1 := Lib.hid (HV.out.step hb1)
              have HBX1 := Lib.hid (hb1)
              have HY1 := Lib.hid (HVB.out.below hb1 HVB.out.lt)
              have a10 := HY1.out.cell 0
              have a11 := HY1.out.cell 1
              have a12 := HY1.out.cell 2
              have a13 := HY1.out.cell 3
              have a14 := HY1.out.cell 4
              have b10 := HU1.out.x.cell 0
              have b11 := HU1.out.x.cell 1
              have b12 := HU1.out.x.cell 2
              have b13 := HU1.out.x.cell 3
              have b14 := HU1.out.x.cell 4
              have b15 := HU1.out.x.cell 5
              clear hb1
              go_wp2_with fail
              refine (HCC.out _ HBX1.out).mono ?_
              rintro e u2 ⟨rfl, hb2⟩
              have HU2 := Lib.hid (HU1.out.step hb2)
              have HBX2 := Lib.hid (HBX1.out.trans (hb2.mono HBX1.out.size))
              have HY2 := Lib.hid (HY1.out.below hb2 HY1.out.lt)
              have a20 := HY2.out.cell 0
              have a21 := HY2.out.cell 1
              have a22 := HY2.out.cell 2
              have a23 := HY2.out.cell 3
              have a24 := HY2.out.cell 4
              have b20 := HU2.out.x.cell 0
              have b21 := HU2.out.x.cell 1
              have b22 := HU2.out.x.cell 2
              have b23 := HU2.out.x.cell 3
              have b24 := HU2.out.x.cell 4
              have b25 := HU2.out.x.cell 5
              clear hb2
              go_wp2_with fail
              refine (HCQ.out _).mono ?_
              rintro e u3 ⟨rfl, hb3⟩
              have HU3 := Lib.hid (HU2.out.step hb3)
              have HBX3 := Lib.hid (HBX2.out.trans (hb3.mono HBX2.out.size))
              have HY3 := Lib.hid (HY2.out.below hb3 HY2.out.lt)
              have a30 := HY3.out.cell 0
              have a31 := HY3.out.cell 1
              have a32 := HY3.out.cell 2
              have a33 := HY3.out.cell 3
              have a34 := HY3.out.cell 4
              have b30 := HU3.out.x.cell 0
              have b31 := HU3.out.x.cell 1
              have b32 := HU3.out.x.cell 2
              have b33 := HU3.out.x.cell 3
              have b34 := HU3.out.x.cell 4
              have b35 := HU3.out.x.cell 5
              clear hb3
              go_wp2_with fail
              refine (HUS.out _).mono ?_
              rintro e u4 ⟨rfl, hb4⟩
              have HU4 := Lib.hid (HU3.out.step hb4)
              have HY4 := Lib.hid (HY3.out.below hb4 HY3.out.lt)
              have a40 := HY4.out.cell 0
              clear hb4 HUS
              by_cases z3 : xz = 3
              · have HRE : Hid (runs14 S.H (k + 1) = rn + 1) := Lib.hid (by rw [HR3.out, if_pos z3])
                rw [z3] at a40
                clear z0
                go_wp2_with fail
                go_roundw
                case rel => exact ⟨k + 1, by rw [HRE.out]; rfl, by go_num, by omega, HN2, HU4⟩
                case measure => simp [intOf]; omega
              · have HRE : Hid (runs14 S.H (k + 1) = rn) := Lib.hid (by rw [HR3.out, if_neg z3]; rfl)
                go_wp2_with fail
                go_roundw
                case rel => exact ⟨k + 1, by rw [HRE.out], by go_num, by omega, HN2, HU4⟩
                case measure => simp [intOf]; omega
    · have hkk : k = n2 := by omega
      have HE : Hid (b = decide ((rn : Int) ≤ 1)) := Lib.hid (by
        rw [Bool.eq_iff_iff, HBT.out, decide_eq_true_iff]
        constructor
        · intro h
          have h2 := h.2
          rw [HLH.out, ← hkk, HRN.out] at h2
          omega
        · intro h
          refine ⟨fun j hj => HN.out j (by rw [HLH.out] at hj; omega), ?_⟩
          rw [HLH.out, ← hkk, HRN.out]
          omega)
      clear hkk
      go_wp2_with fail
      go_ret
      exact ⟨by rw [HE.out]; rfl, HW.out.b⟩
set_option maxHeartbeats 1200000 in
theorem fineLocks14 (v : Value) (S : Sv14) (b : Bool) (w : World) (h : St14 w v S) (hbt : b = true ↔ Locks14 S) :
    Calls Tryz.prog 45 #[v] w fun e w' => e = .returned (.bool b) ∧ Below w.heap.size w w' := by
  obtain ⟨A0, A1, A2, A3, A4, n0, n1, n2, n3, n4, c0, c1, c2, c3, c4, sq, rfl, hs⟩ := h
  have HX0 := Lib.hid (Bx14.new hs)
  have HBT := Lib.hid hbt
  have hnT := hs.m1
  have hnH := hs.m2
  have hnL := hs.m3
  have HLT := Lib.hid hs.l1
  have HLH := Lib.hid hs.l2
  have HLL := Lib.hid hs.l3
  have t1 := HX0.out.x.cell 3
  clear hs hbt
  go_enter Tryz.func45, Tryz.ntmps45
  go_wp2_with fail
  clear t1
  go_loopw [8] (fun i wr => ∃ k : Nat, i = .int .i64 (k : Int) ∧ k ≤ n3 ∧ Hid (∀ j, j < k → usL (gt14 S.L j) = true → Holder14 S j (gt14 S.L j)) ∧ Hid (Bx14 w S A0 A1 A2 A3 A4 n0 n1 n2 n3 n4 c0 c1 c2 c3 c4 sq wr)) (fun i _ => n3 - (intOf i).toNat)
  case atStart => exact ⟨0, rfl, by omega, Lib.hid (fun j h => by omega), HX0⟩
  case round =>
    obtain ⟨k, rfl, hk, HN, HW⟩ := hrel
    by_cases hkn : k < n3
    · skip
      obtain ⟨a, of, hA, hab, hq⟩ := Lq.at_ len14L (by omega) HW.out.s.r3 (show k < S.L.length by rw [HW.out.s.l3]; omega)
      have HAE := Lib.hid hA
      obtain ⟨x, hx⟩ : ∃ x, gt14 S.L k = x := ⟨_, rfl⟩
      rw [hx] at hq
      obtain ⟨xu, xh⟩ := x
      have e0 : wr.cell? ⟨a, of + k * 2, none⟩ = some (.bool xu) := hq 0 _ rfl
      have e1 : wr.cell? ⟨a, of + k * 2 + 1, none⟩ = some (.int .i64 xh) := hq 1 _ rfl
      have i0 : (0 : Int) ≤ (k : Int) := by omega
      have i1 : (k : Int) < (n3 : Int) := by omega
      have HV := Lib.hid (Bx14.step HW.out (b1' wr (.cells #[.bool xu, .int .i64 xh] 47)))
      have hv := Blk.new wr 47 #[.bool xu, .int .i64 xh]
      have v0 := hv.cell 0
      have v1 := hv.cell 1
      have HVB := Lib.hid hv
      have HXE := Lib.hid hx
      have p0 := HV.out.x.cell 0
      have p1 := HV.out.x.cell 1
      have p2 := HV.out.x.cell 2
      have p3 := HV.out.x.cell 3
      have p4 := HV.out.x.cell 4
      have p5 := HV.out.x.cell 5
      obtain ⟨X, hX⟩ : ∃ X, wr.alloc (.cells #[.bool xu, .int .i64 xh] 47) = X := ⟨_, rfl⟩
      rw [hX] at HV HVB v0 v1 p0 p1 p2 p3 p4 p5
      clear hv hq hx hab
      subst hA
      have HNN : xu = false ∨ Holder14 S k ⟨xu, xh⟩ → Hid (∀ j, j < k + 1 → usL (gt14 S.L j) = true → Holder14 S j (gt14 S.L j)) := fun h => Lib.hid (fun j hj hu => by
        rcases (show j < k ∨ j = k by omega) with h5 | h5
        · exact HN.out j h5 hu
        · rw [h5, HXE.out] at hu ⊢
          rcases h with h | h
          · rw [show usL ⟨xu, xh⟩ = xu from rfl, h] at hu; cases hu
          · exact h)
      have HFF : xu = true → ¬ Holder14 S k ⟨xu, xh⟩ → Hid (b = false) := fun h1 h2 => Lib.hid (bool14_of HBT.out (fun h => h2 (by
        have h3 := h k (by rw [HLL.out]; exact hkn) (by rw [HXE.out]; exact h1)
        rwa [HXE.out] at h3)))
      have HN3 := Lib.hid HNN
      have HFF2 := Lib.hid HFF
      obtain ⟨bh, hbh⟩ := ex_bool14 (Holder14 S k ⟨xu, xh⟩)
      have HBH := Lib.hid hbh
      have HCH := Lib.hid (fineHolder14 _ S k xu xh bh X HV.out.st (by rw [HLL.out]; exact hkn) HXE.out hbh)
      clear HNN HFF hbh
      cases xu with
      | false =>
        have HN2 := HN3.out (.inl rfl)
        go_wp2_with fail
        go_roundw
        case rel => exact ⟨k + 1, by go_num, by omega, HN2, HV⟩
        case measure => simp [intOf]; omega
      | true =>
        go_wp2_with fail
        refine HCH.out.mono ?_
        rintro e u ⟨rfl, hbu⟩
        have HU := Lib.hid (HV.out.step hbu)
        clear HCH hbu
        cases bh with
        | true =>
          have HN2 := HN3.out (.inr (HBH.out.1 rfl))
          go_wp2_with fail
          go_roundw
          case rel => exact ⟨k + 1, by go_num, by omega, HN2, HU⟩
          case measure => simp [intOf]; omega
        | false =>
          have HF := HFF2.out (by first | rfl | trivial) (fun h => by have := HBH.out.2 h; cases this)
          go_wp2_with fail
          go_ret
          exact ⟨by rw [HF.out]; rfl, HU.out.b⟩
    · have HT : Hid (b = true) := Lib.hid (HBT.out.2 (fun j hj => HN.out j (by rw [HLL.out] at hj; omega)))
      go_wp2_with fail
      go_ret
      exact ⟨by rw [HT.out]; rfl, HW.out.b⟩
end Go.Proofs.YtfoellhoaflofaaGreat
namespace Go.Proofs.YtfoellhoaflofaaGreat
open Go.RowKit
set_option maxRecDepth 100000
/-- The numbers fall. -/
def Fall (xs : List Nat) : Prop := xs.Pairwise (fun a b => b < a)
theorem Fall.nth {xs : List Nat} (h : Fall xs) {i j : Nat} (hij : i < j) (hj : j < xs.length) : nth xs j < nth xs i := by
  rw [nth_in hj, nth_in (show i < xs.length by omega)]
  exact List.pairwise_iff_getElem.1 h i j (by omega) hj hij
/-- The place of x among falling numbers, of which it is none. -/
structure Plc (xs : List Nat) (x p : Nat) : Prop where
  le : p ≤ xs.length
  low : ∀ t, t < p → x < nth xs t
  high : ∀ t, p ≤ t → t < xs.length → nth xs t < x
theorem plc_ex {xs : List Nat} (h : Fall xs) {x : Nat} (hx : x ∉ xs) : ∃ p, Plc xs x p := by
  induction xs with
  | nil => exact ⟨0, Nat.le_refl _, fun t h => by omega, fun t _ h => by simp at h⟩
  | cons a r ih =>
    have h1 : Fall r := (List.pairwise_cons.1 h).2
    have h2 := (List.pairwise_cons.1 h).1
    obtain ⟨p, p1, p2, p3⟩ := ih h1 (fun e => hx (by simp [e]))
    rcases Nat.lt_trichotomy x a with h3 | h3 | h3
    · refine ⟨p + 1, by simp; exact p1, fun t ht => ?_, fun t h4 h5 => ?_⟩
      · cases t with
        | zero => rw [nth_cons0]; exact h3
        | succ t => rw [nth_cons]; exact p2 t (by omega)
      · cases t with
        | zero => omega
        | succ t => rw [nth_cons]; exact p3 t (by omega) (by simpa using h5)
    · exact absurd (by simp [h3]) hx
    · refine ⟨0, Nat.zero_le _, fun t ht => by omega, fun t _ h5 => ?_⟩
      cases t with
      | zero => rw [nth_cons0]; exact h3
      | succ t =>
        have h6 : t < r.length := by simpa using h5
        have h7 := h2 _ (List.getElem_mem h6)
        rw [nth_cons, nth_in h6]
        omega
theorem Plc.fall {xs : List Nat} {x p : Nat} (h : Plc xs x p) (hf : Fall xs) : Fall (ins13 xs p x) := by
  unfold Fall ins13
  rw [List.pairwise_append]
  refine ⟨List.Pairwise.sublist (List.take_sublist _ _) hf, ?_, ?_⟩
  · rw [List.pairwise_cons]
    refine ⟨fun y hy => ?_, List.Pairwise.sublist (List.drop_sublist _ _) hf⟩
    obtain ⟨t, ht, rfl⟩ := List.getElem_of_mem hy
    rw [List.length_drop] at ht
    rw [List.getElem_drop, ← nth_in]
    exact h.high _ (by omega) (by omega)
  · intro a ha b hb
    obtain ⟨t, ht, rfl⟩ := List.getElem_of_mem ha
    rw [List.length_take] at ht
    have h1 := h.low t (by omega)
    rw [List.getElem_take, ← nth_in]
    rw [List.mem_cons] at hb
    rcases hb with rfl | hb
    · exact h1
    · obtain ⟨s, hs, rfl⟩ := List.getElem_of_mem hb
      rw [List.length_drop] at hs
      rw [List.getElem_drop, ← nth_in]
      have h2 := h.high (p + s) (by omega) (by omega)
      omega
theorem ins13_mem {xs : List Nat} {x p j : Nat} : j ∈ ins13 xs p x ↔ j = x ∨ j ∈ xs := by
  unfold ins13
  rw [List.mem_append, List.mem_cons]
  have h : j ∈ xs ↔ j ∈ xs.take p ∨ j ∈ xs.drop p := by rw [← List.mem_append, List.take_append_drop]
  rw [h]
  constructor
  · rintro (h | h | h)
    · exact .inr (.inl h)
    · exact .inl h
    · exact .inr (.inr h)
  · rintro (h | h | h)
    · exact .inr (.inl h)
    · exact .inl h
    · exact .inr (.inr h)
set_option maxHeartbeats 1000000 in
theorem cmp13_any (a b : Nat) (w : World) (ha : a < 1000000) (hb : b < 1000000) :
    Calls Tryz.prog 132 #[.int .i64 (a : Int), .int .i64 (b : Int)] w fun e w' => e = .returned (.int .i64 ((b : Int) - (a : Int))) ∧ w' = w := by
  have hw : IntKind.i64.wrap ((b : Int) - (a : Int)) = (b : Int) - (a : Int) := by rw [IntKind.wrap_i64]; omega
  go_enter Tryz.func132, Tryz.ntmps132
  go_wp2_with fail
  go_ret
  exact ⟨rfl, rfl⟩
set_option maxHeartbeats 4000000 in
theorem bsf13_any {xs : List Nat} {x p n c : Nat} {A : Option Addr} (w : World) (hl : xs.length = n) (hr : Rd w w.heap.size A xs) (hp : Plc xs x p) (hn : n ≤ 1000000) (hx : x < 1000000) (hxs : ∀ y, y ∈ xs → y < 1000000) :
    Calls Tryz.prog 131 #[.slice A n c, .int .i64 (x : Int), .func (.func 132) #[] #[]] w fun e w' => e = .returned (.tuple #[.int .i64 (p : Int), .bool false]) ∧ w' = w := by
  have hpn : p ≤ n := by have := hp.le; omega
  have HL := Lib.hid hl
  have HR := Lib.hid hr
  have HP := Lib.hid hp
  have HX := Lib.hid hxs
  clear hl hr hp hxs
  go_enter Tryz.func131, Tryz.ntmps131
  go_wp2_with fail
  go_loopw [9, 10] (fun s9 s10 wr => wr = w ∧ ∃ lo hi : Nat, s9 = .int .i64 (lo : Int) ∧ s10 = .int .i64 (hi : Int) ∧ lo ≤ p ∧ p ≤ hi ∧ hi ≤ n) (fun s9 s10 _ => (intOf s10).toNat - (intOf s9).toNat)
  case atStart => exact ⟨by first | trivial | rfl, 0, n, rfl, rfl, by omega, hpn, Nat.le_refl _⟩
  case round =>
    obtain ⟨rfl, lo, hi, rfl, rfl, h1, h2, h3⟩ := hrel
    by_cases hlt : lo < hi
    · obtain ⟨m, hm⟩ : ∃ m, (lo + hi) / 2 = m := ⟨_, rfl⟩
      obtain ⟨b, o, hA, _, ca⟩ := HR.out.at_ (show m < xs.length by have := HL.out; omega)
      subst hA
      obtain ⟨y, hy⟩ : ∃ y, nth xs m = y := ⟨_, rfl⟩
      have hyb : y < 1000000 := by
        have hml : m < xs.length := by have := HL.out; omega
        rw [← hy, nth_in hml]
        exact HX.out _ (List.getElem_mem hml)
      rw [hy] at ca
      have HC := Lib.hid (cmp13_any y x wr hyb hx)
      have hdiv : ((lo : Int) + (hi : Int)) / 2 = (m : Int) := by omega
      have i0 : (0 : Int) ≤ (m : Int) := by omega
      have i1 : (m : Int) < (n : Int) := by omega
      have hw0 : IntKind.i64.wrap ((lo : Int) + (hi : Int)) = (lo : Int) + (hi : Int) := by rw [IntKind.wrap_i64]; omega
      have hw1 : IntKind.u64.wrap ((lo : Int) + (hi : Int)) = (lo : Int) + (hi : Int) := by rw [IntKind.wrap_u64]; omega
      have hw2 : IntKind.i64.wrap (m : Int) = (m : Int) := by rw [IntKind.wrap_i64]; omega
      have hw3 : IntKind.u64.wrap (m : Int) = (m : Int) := by rw [IntKind.wrap_u64]; omega
      by_cases hmp : m < p
      · have hyx : x < y := by rw [← hy]; exact HP.out.low m hmp
        have hneg : (x : Int) - (y : Int) < 0 := by omega
        clear hy hm
        go_wp2_with fail
        refine HC.out.mono ?_
        rintro e w3 ⟨rfl, rfl⟩
        go_wp2_with fail
        go_roundw
        case rel => exact ⟨by first | trivial | rfl, m + 1, hi, by go_num, rfl, by omega, h2, h3⟩
        case measure => simp [intOf]; omega
      · have hyx : y < x := by rw [← hy]; exact HP.out.high m (by omega) (by have := HL.out; omega)
        have hneg : ¬ (x : Int) - (y : Int) < 0 := by omega
        clear hy
        go_wp2_with fail
        refine HC.out.mono ?_
        rintro e w3 ⟨rfl, rfl⟩
        go_wp2_with fail
        go_roundw
        case rel => exact ⟨by first | trivial | rfl, lo, m, rfl, rfl, h1, by omega, by omega⟩
        case measure => simp [intOf]; omega
    · obtain rfl : lo = p := by omega
      obtain rfl : hi = lo := by omega
      by_cases hpn2 : hi < n
      · obtain ⟨b, o, hA, _, ca⟩ := HR.out.at_ (show hi < xs.length by have := HL.out; omega)
        subst hA
        obtain ⟨y, hy⟩ : ∃ y, nth xs hi = y := ⟨_, rfl⟩
        have hyb : y < 1000000 := by
          have hml : hi < xs.length := by have := HL.out; omega
          rw [← hy, nth_in hml]
          exact HX.out _ (List.getElem_mem hml)
        have hyx : y < x := by rw [← hy]; exact HP.out.high hi (by omega) (by have := HL.out; omega)
        rw [hy] at ca
        have HC := Lib.hid (cmp13_any y x wr hyb hx)
        have hz : ¬ (x : Int) - (y : Int) = 0 := by omega
        have i0 : (0 : Int) ≤ (hi : Int) := by omega
        have i1 : (hi : Int) < (n : Int) := by omega
        clear hy
        go_wp2_with fail
        refine HC.out.mono ?_
        rintro e w3 ⟨rfl, rfl⟩
        go_wp2_with fail
        go_ret2
        exact ⟨by first | rfl | simp [hz], rfl⟩
      · have i1 : ¬ (hi : Int) < (n : Int) := by omega
        go_wp2_with fail
        go_ret2
        exact ⟨rfl, rfl⟩
/-- What stays: all below block L, and all that was there but block g and the row. -/
structure Bk13 (L g : Nat) (row : Option Nat) (w w' : World) : Prop where
  below : Below L w w'
  size : w.heap.size ≤ w'.heap.size
  keep : ∀ b, b < w.heap.size → b ≠ g → some b ≠ row → w'.heap[b]? = w.heap[b]?
theorem Bk13.blk {L g : Nat} {row : Option Nat} {w w' : World} (h : Bk13 L g row w w') {b : Nat} {t : TypeId} {cs : Array Value} (hb : Blk w b t cs) (h1 : b ≠ g) (h2 : some b ≠ row) : Blk w' b t cs := (h.keep b hb.lt h1 h2).trans hb
theorem Bk13.own {L g : Nat} {row : Option Nat} {w w' : World} (h : Bk13 L g row w w') {base n : Nat} {e : TypeId} {v : Value} {xs : List Value} (ho : w.ownsRow base e 1 v n xs) (h1 : v.ownBlock ≠ some g) (h2 : ∀ r, v.ownBlock = some r → row ≠ some r) : w'.ownsRow base e 1 v n xs := by
  have hlt := ho.lt
  obtain ⟨k1, k2⟩ := ho
  refine ⟨k1, ?_⟩
  rcases k2 with k2 | ⟨b, cap, cur, rfl, hb, hh, r⟩
  · exact .inl k2
  · refine .inr ⟨b, cap, cur, rfl, hb, ?_, r⟩
    rw [h.keep b (hlt b rfl).2 (fun e => h1 (by rw [← e]; rfl)) (fun e => h2 b rfl e.symm)]
    exact hh
/-- What put leaves behind. -/
def Pt13 (w : World) (L g : Nat) (v : Value) (ys : List Nat) (e : Ending) (w' : World) : Prop :=
  e = .returned (.tuple #[]) ∧ ∃ A' c', Blk w' g 26 #[.slice A' ys.length c'] ∧ w'.ownsRow L 3 1 (.slice A' ys.length c') ys.length (ints ys) ∧ (∀ r, (Value.slice A' ys.length c').ownBlock = some r → v.ownBlock = some r ∨ w.heap.size ≤ r) ∧ Bk13 L g v.ownBlock w w'
set_option maxHeartbeats 2000000 in
theorem put13_any {L g k c x p : Nat} {A : Option Addr} {xs : List Nat} (w : World) (hv : Blk w g 26 #[.slice A k c]) (ho : w.ownsRow L 3 1 (.slice A k c) k (ints xs)) (hl : xs.length = k) (hp : Plc xs x p) (hL : L ≤ w.heap.size) (hLg : L ≤ g)
    (hk : k ≤ 100000) (hx : x < 1000000) (hxs : ∀ y, y ∈ xs → y < 1000000) :
    Calls Tryz.prog 122 #[.pointer (some ⟨g, 0, none⟩), .int .i64 (x : Int)] w (Pt13 w L g (.slice A k c) (ins13 xs p x)) := by
  have hpk : p ≤ k := by have := hp.le; omega
  have HPT : Hid (Pt13 w L g (.slice A k c) (ins13 xs p x) = fun e w' => e = .returned (.tuple #[]) ∧ ∃ A' c', Blk w' g 26 #[.slice A' (ins13 xs p x).length c'] ∧ w'.ownsRow L 3 1 (.slice A' (ins13 xs p x).length c') (ins13 xs p x).length (ints (ins13 xs p x)) ∧ (∀ r, (Value.slice A' (ins13 xs p x).length c').ownBlock = some r → (Value.slice A k c).ownBlock = some r ∨ w.heap.size ≤ r) ∧ Bk13 L g (Value.slice A k c).ownBlock w w') := Lib.hid rfl
  have c0 := hv.cell 0
  have HB := Lib.hid (bsf13_any (c := c) w hl (Rd.of_own ho) hp (by omega) hx hxs)
  have hba := b1' w (.cells #[.int .i64 (x : Int)] 3)
  have HI := Lib.hid (insert13_any (w.alloc (.cells #[.int .i64 (x : Int)] 3)) hl (own7_keep ho hba) hpk (Blk.new w _ _) (fun e => by have := (ho.lt _ e).2; omega) (by omega) (by simp; omega))
  have hv1 := hv.below hba hv.lt
  have d0 := hv1.cell 0
  have HV := Lib.hid hv1
  have HO := Lib.hid ho
  have HVW := Lib.hid hv
  have HBA := Lib.hid hba
  clear hv hv1 ho hl hp hxs hba
  go_enter Tryz.func122, Tryz.ntmps122
  go_wp2_with fail
  refine HB.out.mono ?_
  rintro e w1 ⟨rfl, rfl⟩
  clear HB
  go_wp2_with fail
  refine HI.out.mono ?_
  rintro e w2 ⟨A', c', rfl, h2, h3, h4⟩
  have hgne : (Value.slice A k c).ownBlock ≠ some g := own7_ne HO.out HVW.out (by decide)
  have hv2 := HV.out.grown h3 (fun e => hgne e.symm)
  have e0 := hv2.cell 0
  have f0 := hv2.frozen 0
  have H2 := Lib.hid h2
  have H3 := Lib.hid h3
  have H4 := Lib.hid h4
  have HV2 := Lib.hid hv2
  have HN := Lib.hid hgne
  clear h2 h3 h4 hv2 hgne HI
  go_wp2_with fail
  go_end0
  rw [HPT.out]
  have hs : (w1.alloc (.cells #[.int .i64 (x : Int)] 3)).heap.size = w1.heap.size + 1 := by simp
  have hbel : Below L w1 w2 := (HBA.out.mono hL).grown H3.out (by omega) (fun r hr => (HO.out.lt r hr).1)
  refine ⟨rfl, A', c', by simpa using HV2.out.set_ 0 _, own7_far H2.out (grownBy_setCell' w2 g _) (own7_ne H2.out HV2.out (by decide)), fun r hr => ?_, ⟨hbel.setCell hLg _, ?_, fun b hb h5 h6 => ?_⟩⟩
  · rcases H4.out r hr with h | h
    · exact .inl h
    · exact .inr (by omega)
  · have := hbel.size
    simpa [World.setCell] using this
  · exact (Below.heap_setCell w2 ⟨g, 0, none⟩ _ b h5).trans ((H3.out.block b (by omega) h6).trans (HBA.out.block b hb))
end Go.Proofs.YtfoellhoaflofaaGreat
namespace Go.Proofs.YtfoellhoaflofaaGreat
open Go.RowKit
set_option maxRecDepth 100000
theorem blk_ne12 {w : World} {g g' : Nat} {t t' : TypeId} {cs cs' : Array Value} (h : Blk w g t cs) (h' : Blk w g' t' cs') (ht : t ≠ t') : g ≠ g' := by
  rintro rfl
  unfold Blk at h h'
  rw [h] at h'
  injection h' with h'
  injection h' with _ h2 _
  exact ht h2
theorem own12_far {w w' : World} {base : Nat} {e : TypeId} {v : Value} {n : Nat} {xs : List Value} {row : Option Nat} (h : w.ownsRow base e 1 v n xs) (hg : w.grownBy w' row) (hr : ∀ r, row = some r → v.ownBlock ≠ some r) : w'.ownsRow base e 1 v n xs := by
  cases row with
  | none => exact own7_none h hg
  | some r => exact own7_far h hg (hr r rfl)
section
variable {W : World} {L g gh gc n t : Nat} {h c o : Nat → Nat} {Al : Option Addr} {kl cl : Nat} {Am : Option Addr} {km cm : Nat} {ls ms : List Nat}
end
end Go.Proofs.YtfoellhoaflofaaGreat
namespace Go.Proofs.YtfoellhoaflofaaGreat
open Go.RowKit
set_option maxRecDepth 100000
theorem info_int12 : (Tryz.prog.info? 3).map (fun i => (i.zero, i.size, i.bytes)) = some (some (.int .i64 0), 1, 8) := by kernel_rfl
theorem own12_some {w : World} {base : Nat} {e : TypeId} {A : Option Addr} {cc m : Nat} {vs : List Value} (h : w.ownsRow base e 1 (.slice A (m + 1) cc) (m + 1) vs) : ∃ r, A = some ⟨r, 0, none⟩ ∧ m + 1 ≤ cc := by
  rcases h.2 with ⟨h0, _⟩ | ⟨r, cap, cur, hv, _, _, hn, _⟩
  · cases h0
  · injection hv with h1 h2 h3
    subst h3
    exact ⟨r, h1, hn⟩
theorem own12_last {w : World} {base : Nat} {e : TypeId} {r cc m : Nat} {xs : List Nat} {a : Nat} (h : w.ownsRow base e 1 (.slice (some ⟨r, 0, none⟩) (m + 1) cc) (m + 1) (ints (xs ++ [a]))) (hx : xs.length = m) : w.cell? ⟨r, m, none⟩ = some (.int .i64 (a : Int)) := by
  have h1 := h.cells (g := r) rfl m (.int .i64 (a : Int)) (by rw [ints_append, List.getElem?_append_right (by rw [ints_length]; omega), ints_length, hx, Nat.sub_self]; rfl)
  rw [Go.WideShapes.add_plain, Nat.zero_add] at h1
  exact h1
section
variable {W : World} {L g gh gc n t : Nat} {h c o : Nat → Nat} {Al : Option Addr} {kl cl : Nat} {Am : Option Addr} {km cm : Nat} {ls ms : List Nat}
end
theorem rv12_one (w : World) (d : Nat) (t : TypeId) : Rv (w.alloc (.cells #[.int .i64 (d : Int)] t)) (w.heap.size + 1) (some ⟨w.heap.size, 0, none⟩) (ints [d]) := by
  intro _
  refine ⟨w.heap.size, 0, rfl, by omega, fun k v hk => ?_⟩
  match k, hk with
  | 0, hk =>
    obtain rfl : Value.int .i64 (d : Int) = v := by simpa [ints] using hk
    exact cell_one_new w (.int .i64 (d : Int)) t 0 _ rfl
  | k + 1, hk => simp [ints] at hk
end Go.Proofs.YtfoellhoaflofaaGreat
