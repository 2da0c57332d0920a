/-
  SaidFundCloses, part 12 of 13: what the theorem fundCloses_holds reaches.
-/
import Derived.Test.YtljpgfnjaagkaaaFC11
namespace Go.Proofs.Ytljpgfnjaagkaaa
open Go.RowKit
set_option maxRecDepth 100000
theorem rdring14 (n : Nat) (hn : n ≤ 4096) (Ad : Option Addr) (l : List (Int × Int)) (c : Nat) (b : Bool) (w : World) (hr : Aq w w.heap.size Ad l) (hm : l.length ≤ 1000000) (hb : b = true ↔ Free14R n l) :
    Calls Try.prog 28 #[.int .i64 (n : Int), .slice Ad l.length c] w fun e w' => e = .returned (.bool (!b)) ∧ Below w.heap.size w w' := by
  obtain ⟨os, hd⟩ := done13_ex (cut13 n l) n
  have h := rring13_any n Ad l l.length c os w rfl hr hm (by omega) hd
  rwa [show decide (os.length = n) = b by rw [Bool.eq_iff_iff, decide_eq_true_iff, hb, free14R_iff hd]] at h
set_option maxHeartbeats 4000000 in
theorem rfine14_0 (v : Value) (S : Sv14) (w : World) (h : St14 w v S) (ne : ¬ 1 ≤ S.q) :
    Calls Try.prog 6 #[v] w fun e w' => e = .returned (.bool false) ∧ Below w.heap.size w w' := by
  obtain ⟨A0, A1, A2, A3, A4, n0, n1, n2, n3, n4, c0, c1, c2, c3, c4, sq, rfl, hs⟩ := h
  have HX := Lib.hid (Bx14.new hs)
  have hl0 := hs.l0
  have hl2 := hs.l2
  have hl1 := hs.l1
  have hm0 := hs.m0
  have hm1 := hs.m1
  have hm2 := hs.m2
  obtain ⟨W1, hW1⟩ : ∃ W, w.alloc (.cells #[.slice A0 n0 c0, .slice A1 n1 c1, .slice A2 n2 c2, .slice A3 n3 c3, .slice A4 n4 c4, .int .i64 sq] 28) = W := ⟨_, rfl⟩
  rw [hW1] at HX
  have q0 := HX.out.x.cell 0
  have q5 := HX.out.x.cell 5
  have g0 : sq < 1 := by rw [← hs.e]; omega
  clear hs ne hl0 hl1 hl2 hm0 hm1 hm2
  go_enter Try.func6, Try.ntmps6
  go_wp2_with fail
  go_ret
  exact ⟨rfl, HX.out.b⟩
set_option maxHeartbeats 4000000 in
theorem rfine14_1 (v : Value) (S : Sv14) (w : World) (h : St14 w v S) (e0 : 1 ≤ S.q) (ne : ¬ S.q ≤ 1000) :
    Calls Try.prog 6 #[v] w fun e w' => e = .returned (.bool false) ∧ Below w.heap.size w w' := by
  obtain ⟨A0, A1, A2, A3, A4, n0, n1, n2, n3, n4, c0, c1, c2, c3, c4, sq, rfl, hs⟩ := h
  have HX := Lib.hid (Bx14.new hs)
  have hl0 := hs.l0
  have hl2 := hs.l2
  have hl1 := hs.l1
  have hm0 := hs.m0
  have hm1 := hs.m1
  have hm2 := hs.m2
  obtain ⟨W1, hW1⟩ : ∃ W, w.alloc (.cells #[.slice A0 n0 c0, .slice A1 n1 c1, .slice A2 n2 c2, .slice A3 n3 c3, .slice A4 n4 c4, .int .i64 sq] 28) = W := ⟨_, rfl⟩
  rw [hW1] at HX
  have q0 := HX.out.x.cell 0
  have q5 := HX.out.x.cell 5
  have g0 : ¬ sq < 1 := by rw [← hs.e]; omega
  have g1 : 1000 < sq := by rw [← hs.e]; omega
  clear hs e0 ne hl0 hl1 hl2 hm0 hm1 hm2
  go_enter Try.func6, Try.ntmps6
  go_wp2_with fail
  go_ret
  exact ⟨rfl, HX.out.b⟩
set_option maxHeartbeats 4000000 in
theorem rfine14_2 (v : Value) (S : Sv14) (w : World) (h : St14 w v S) (e0 : 1 ≤ S.q) (e1 : S.q ≤ 1000) (ne : ¬ 1 ≤ S.C.length) :
    Calls Try.prog 6 #[v] w fun e w' => e = .returned (.bool false) ∧ Below w.heap.size w w' := by
  obtain ⟨A0, A1, A2, A3, A4, n0, n1, n2, n3, n4, c0, c1, c2, c3, c4, sq, rfl, hs⟩ := h
  have HX := Lib.hid (Bx14.new hs)
  have hl0 := hs.l0
  have hl2 := hs.l2
  have hl1 := hs.l1
  have hm0 := hs.m0
  have hm1 := hs.m1
  have hm2 := hs.m2
  obtain ⟨W1, hW1⟩ : ∃ W, w.alloc (.cells #[.slice A0 n0 c0, .slice A1 n1 c1, .slice A2 n2 c2, .slice A3 n3 c3, .slice A4 n4 c4, .int .i64 sq] 28) = W := ⟨_, rfl⟩
  rw [hW1] at HX
  have q0 := HX.out.x.cell 0
  have q5 := HX.out.x.cell 5
  have g0 : ¬ sq < 1 := by rw [← hs.e]; omega
  have g1 : ¬ 1000 < sq := by rw [← hs.e]; omega
  have g2 : (n0 : Int) < 1 := by rw [← hl0]; omega
  clear hs e0 e1 ne hl0 hl1 hl2 hm0 hm1 hm2
  go_enter Try.func6, Try.ntmps6
  go_wp2_with fail
  go_ret
  exact ⟨rfl, HX.out.b⟩
set_option maxHeartbeats 4000000 in
theorem rfine14_3 (v : Value) (S : Sv14) (w : World) (h : St14 w v S) (e0 : 1 ≤ S.q) (e1 : S.q ≤ 1000) (e2 : 1 ≤ S.C.length) (ne : ¬ S.C.length ≤ 16) :
    Calls Try.prog 6 #[v] w fun e w' => e = .returned (.bool false) ∧ Below w.heap.size w w' := by
  obtain ⟨A0, A1, A2, A3, A4, n0, n1, n2, n3, n4, c0, c1, c2, c3, c4, sq, rfl, hs⟩ := h
  have HX := Lib.hid (Bx14.new hs)
  have hl0 := hs.l0
  have hl2 := hs.l2
  have hl1 := hs.l1
  have hm0 := hs.m0
  have hm1 := hs.m1
  have hm2 := hs.m2
  obtain ⟨W1, hW1⟩ : ∃ W, w.alloc (.cells #[.slice A0 n0 c0, .slice A1 n1 c1, .slice A2 n2 c2, .slice A3 n3 c3, .slice A4 n4 c4, .int .i64 sq] 28) = W := ⟨_, rfl⟩
  rw [hW1] at HX
  have q0 := HX.out.x.cell 0
  have q5 := HX.out.x.cell 5
  have g0 : ¬ sq < 1 := by rw [← hs.e]; omega
  have g1 : ¬ 1000 < sq := by rw [← hs.e]; omega
  have g2 : ¬ (n0 : Int) < 1 := by rw [← hl0]; omega
  have g3 : 16 < (n0 : Int) := by rw [← hl0]; omega
  clear hs e0 e1 e2 ne hl0 hl1 hl2 hm0 hm1 hm2
  go_enter Try.func6, Try.ntmps6
  go_wp2_with fail
  go_ret
  exact ⟨rfl, HX.out.b⟩
set_option maxHeartbeats 4000000 in
theorem rfine14_4 (v : Value) (S : Sv14) (w : World) (h : St14 w v S) (e0 : 1 ≤ S.q) (e1 : S.q ≤ 1000) (e2 : 1 ≤ S.C.length) (e3 : S.C.length ≤ 16) (ne : ¬ gt14 S.C 0 = true) :
    Calls Try.prog 6 #[v] w fun e w' => e = .returned (.bool false) ∧ Below w.heap.size w w' := by
  obtain ⟨A0, A1, A2, A3, A4, n0, n1, n2, n3, n4, c0, c1, c2, c3, c4, sq, rfl, hs⟩ := h
  have HX := Lib.hid (Bx14.new hs)
  have hl0 := hs.l0
  have hl2 := hs.l2
  have hl1 := hs.l1
  have hm0 := hs.m0
  have hm1 := hs.m1
  have hm2 := hs.m2
  obtain ⟨W1, hW1⟩ : ∃ W, w.alloc (.cells #[.slice A0 n0 c0, .slice A1 n1 c1, .slice A2 n2 c2, .slice A3 n3 c3, .slice A4 n4 c4, .int .i64 sq] 28) = W := ⟨_, rfl⟩
  rw [hW1] at HX
  have q0 := HX.out.x.cell 0
  have q5 := HX.out.x.cell 5
  have g0 : ¬ sq < 1 := by rw [← hs.e]; omega
  have g1 : ¬ 1000 < sq := by rw [← hs.e]; omega
  have g2 : ¬ (n0 : Int) < 1 := by rw [← hl0]; omega
  have g3 : ¬ 16 < (n0 : Int) := by rw [← hl0]; omega
  obtain ⟨q, hq0⟩ : ∃ q, n0 = q + 1 := ⟨n0 - 1, by omega⟩
  obtain ⟨a, of, hA, hab, hq⟩ := Lq.at_ len14C (by omega) HX.out.s.r0 (show q < S.C.length by omega)
  obtain ⟨a', of', hA', hab', hq'⟩ := Lq.at_ len14C (by omega) HX.out.s.r0 (show 0 < S.C.length by omega)
  rw [hA] at hA'
  injection hA' with hA'
  injection hA' with ha2 ho2
  subst ha2 ho2
  obtain ⟨x0, hx0⟩ : ∃ x, gt14 S.C 0 = x := ⟨_, rfl⟩
  obtain ⟨x1, hx1⟩ : ∃ x, gt14 S.C q = x := ⟨_, rfl⟩
  rw [hx1] at hq
  rw [hx0] at hq'
  have f0 : W1.cell? ⟨a, of, none⟩ = some (.bool x0) := by have h := hq' 0 _ rfl; rwa [Nat.mul_one] at h
  have f1 : W1.cell? ⟨a, of + q, none⟩ = some (.bool x1) := by have h := hq 0 _ rfl; rwa [Nat.mul_one] at h
  have hw : IntKind.i64.wrap ((n0 : Int) - 1) = (q : Int) := by rw [IntKind.wrap_i64]; omega
  have i0 : (0 : Int) ≤ (q : Int) := by omega
  have i1 : (q : Int) < (n0 : Int) := by omega
  have i2 : (0 : Int) < (n0 : Int) := by omega
  obtain rfl : x0 = false := by rw [← hx0]; simpa using ne
  clear hq hq' hx0 hx1 hab hab'
  clear hs e0 e1 e2 e3 ne hl0 hl1 hl2 hm0 hm1 hm2 hq0
  have HA := Lib.hid hA
  subst hA
  go_enter Try.func6, Try.ntmps6
  go_wp2_with fail
  go_ret
  exact ⟨rfl, HX.out.b⟩
set_option maxHeartbeats 4000000 in
theorem rfine14_5 (v : Value) (S : Sv14) (w : World) (h : St14 w v S) (e0 : 1 ≤ S.q) (e1 : S.q ≤ 1000) (e2 : 1 ≤ S.C.length) (e3 : S.C.length ≤ 16) (e4 : gt14 S.C 0 = true) (ne : ¬ gt14 S.C (S.C.length - 1) = true) :
    Calls Try.prog 6 #[v] w fun e w' => e = .returned (.bool false) ∧ Below w.heap.size w w' := by
  obtain ⟨A0, A1, A2, A3, A4, n0, n1, n2, n3, n4, c0, c1, c2, c3, c4, sq, rfl, hs⟩ := h
  have HX := Lib.hid (Bx14.new hs)
  have hl0 := hs.l0
  have hl2 := hs.l2
  have hl1 := hs.l1
  have hm0 := hs.m0
  have hm1 := hs.m1
  have hm2 := hs.m2
  obtain ⟨W1, hW1⟩ : ∃ W, w.alloc (.cells #[.slice A0 n0 c0, .slice A1 n1 c1, .slice A2 n2 c2, .slice A3 n3 c3, .slice A4 n4 c4, .int .i64 sq] 28) = W := ⟨_, rfl⟩
  rw [hW1] at HX
  have q0 := HX.out.x.cell 0
  have q5 := HX.out.x.cell 5
  have g0 : ¬ sq < 1 := by rw [← hs.e]; omega
  have g1 : ¬ 1000 < sq := by rw [← hs.e]; omega
  have g2 : ¬ (n0 : Int) < 1 := by rw [← hl0]; omega
  have g3 : ¬ 16 < (n0 : Int) := by rw [← hl0]; omega
  obtain ⟨q, hq0⟩ : ∃ q, n0 = q + 1 := ⟨n0 - 1, by omega⟩
  obtain ⟨a, of, hA, hab, hq⟩ := Lq.at_ len14C (by omega) HX.out.s.r0 (show q < S.C.length by omega)
  obtain ⟨a', of', hA', hab', hq'⟩ := Lq.at_ len14C (by omega) HX.out.s.r0 (show 0 < S.C.length by omega)
  rw [hA] at hA'
  injection hA' with hA'
  injection hA' with ha2 ho2
  subst ha2 ho2
  obtain ⟨x0, hx0⟩ : ∃ x, gt14 S.C 0 = x := ⟨_, rfl⟩
  obtain ⟨x1, hx1⟩ : ∃ x, gt14 S.C q = x := ⟨_, rfl⟩
  rw [hx1] at hq
  rw [hx0] at hq'
  have f0 : W1.cell? ⟨a, of, none⟩ = some (.bool x0) := by have h := hq' 0 _ rfl; rwa [Nat.mul_one] at h
  have f1 : W1.cell? ⟨a, of + q, none⟩ = some (.bool x1) := by have h := hq 0 _ rfl; rwa [Nat.mul_one] at h
  have hw : IntKind.i64.wrap ((n0 : Int) - 1) = (q : Int) := by rw [IntKind.wrap_i64]; omega
  have i0 : (0 : Int) ≤ (q : Int) := by omega
  have i1 : (q : Int) < (n0 : Int) := by omega
  have i2 : (0 : Int) < (n0 : Int) := by omega
  obtain rfl : x0 = true := by rw [← hx0]; simpa using e4
  obtain rfl : x1 = false := by rw [← hx1, show q = S.C.length - 1 by omega]; simpa using ne
  clear hq hq' hx0 hx1 hab hab'
  clear hs e0 e1 e2 e3 e4 ne hl0 hl1 hl2 hm0 hm1 hm2 hq0
  have HA := Lib.hid hA
  subst hA
  go_enter Try.func6, Try.ntmps6
  go_wp2_with fail
  go_ret
  exact ⟨rfl, HX.out.b⟩
set_option maxHeartbeats 4000000 in
theorem rfine14_6 (v : Value) (S : Sv14) (w : World) (h : St14 w v S) (e0 : 1 ≤ S.q) (e1 : S.q ≤ 1000) (e2 : 1 ≤ S.C.length) (e3 : S.C.length ≤ 16) (e4 : gt14 S.C 0 = true) (e5 : gt14 S.C (S.C.length - 1) = true) (ne : ¬ RTickets14 S) :
    Calls Try.prog 6 #[v] w fun e w' => e = .returned (.bool false) ∧ Below w.heap.size w w' := by
  obtain ⟨A0, A1, A2, A3, A4, n0, n1, n2, n3, n4, c0, c1, c2, c3, c4, sq, rfl, hs⟩ := h
  have HX := Lib.hid (Bx14.new hs)
  have hl0 := hs.l0
  have hl2 := hs.l2
  have hl1 := hs.l1
  have hm0 := hs.m0
  have hm1 := hs.m1
  have hm2 := hs.m2
  obtain ⟨W1, hW1⟩ : ∃ W, w.alloc (.cells #[.slice A0 n0 c0, .slice A1 n1 c1, .slice A2 n2 c2, .slice A3 n3 c3, .slice A4 n4 c4, .int .i64 sq] 28) = W := ⟨_, rfl⟩
  rw [hW1] at HX
  have q0 := HX.out.x.cell 0
  have q5 := HX.out.x.cell 5
  have g0 : ¬ sq < 1 := by rw [← hs.e]; omega
  have g1 : ¬ 1000 < sq := by rw [← hs.e]; omega
  have g2 : ¬ (n0 : Int) < 1 := by rw [← hl0]; omega
  have g3 : ¬ 16 < (n0 : Int) := by rw [← hl0]; omega
  obtain ⟨q, hq0⟩ : ∃ q, n0 = q + 1 := ⟨n0 - 1, by omega⟩
  obtain ⟨a, of, hA, hab, hq⟩ := Lq.at_ len14C (by omega) HX.out.s.r0 (show q < S.C.length by omega)
  obtain ⟨a', of', hA', hab', hq'⟩ := Lq.at_ len14C (by omega) HX.out.s.r0 (show 0 < S.C.length by omega)
  rw [hA] at hA'
  injection hA' with hA'
  injection hA' with ha2 ho2
  subst ha2 ho2
  obtain ⟨x0, hx0⟩ : ∃ x, gt14 S.C 0 = x := ⟨_, rfl⟩
  obtain ⟨x1, hx1⟩ : ∃ x, gt14 S.C q = x := ⟨_, rfl⟩
  rw [hx1] at hq
  rw [hx0] at hq'
  have f0 : W1.cell? ⟨a, of, none⟩ = some (.bool x0) := by have h := hq' 0 _ rfl; rwa [Nat.mul_one] at h
  have f1 : W1.cell? ⟨a, of + q, none⟩ = some (.bool x1) := by have h := hq 0 _ rfl; rwa [Nat.mul_one] at h
  have hw : IntKind.i64.wrap ((n0 : Int) - 1) = (q : Int) := by rw [IntKind.wrap_i64]; omega
  have i0 : (0 : Int) ≤ (q : Int) := by omega
  have i1 : (q : Int) < (n0 : Int) := by omega
  have i2 : (0 : Int) < (n0 : Int) := by omega
  obtain rfl : x0 = true := by rw [← hx0]; simpa using e4
  obtain rfl : x1 = true := by rw [← hx1, show q = S.C.length - 1 by omega]; simpa using e5
  clear hq hq' hx0 hx1 hab hab'
  have HC6 := Lib.hid (fun W (h : Bx14 w S A0 A1 A2 A3 A4 n0 n1 n2 n3 n4 c0 c1 c2 c3 c4 sq W) => rtickets14 _ S false W h.st (by simp [ne]))
  clear hs e0 e1 e2 e3 e4 e5 ne hl0 hl1 hl2 hm0 hm1 hm2 hq0
  have HA := Lib.hid hA
  subst hA
  go_enter Try.func6, Try.ntmps6
  have c6_0 := HX.out.x.cell 0
  have c6_1 := HX.out.x.cell 1
  have c6_2 := HX.out.x.cell 2
  have c6_3 := HX.out.x.cell 3
  have c6_4 := HX.out.x.cell 4
  have c6_5 := HX.out.x.cell 5
  go_wp2_with fail
  refine (HC6.out _ HX.out).mono ?_
  rintro e w6 ⟨rfl, hb6⟩
  have HX6 := Lib.hid (HX.out.step hb6)
  clear HC6 hb6
  go_wp2_with fail
  go_ret
  exact ⟨rfl, HX6.out.b⟩
set_option maxHeartbeats 4000000 in
theorem rfine14_7 (v : Value) (S : Sv14) (w : World) (h : St14 w v S) (e0 : 1 ≤ S.q) (e1 : S.q ≤ 1000) (e2 : 1 ≤ S.C.length) (e3 : S.C.length ≤ 16) (e4 : gt14 S.C 0 = true) (e5 : gt14 S.C (S.C.length - 1) = true) (e6 : RTickets14 S) (ne : ¬ RThreads14 S) :
    Calls Try.prog 6 #[v] w fun e w' => e = .returned (.bool false) ∧ Below w.heap.size w w' := by
  obtain ⟨A0, A1, A2, A3, A4, n0, n1, n2, n3, n4, c0, c1, c2, c3, c4, sq, rfl, hs⟩ := h
  have HX := Lib.hid (Bx14.new hs)
  have hl0 := hs.l0
  have hl2 := hs.l2
  have hl1 := hs.l1
  have hm0 := hs.m0
  have hm1 := hs.m1
  have hm2 := hs.m2
  obtain ⟨W1, hW1⟩ : ∃ W, w.alloc (.cells #[.slice A0 n0 c0, .slice A1 n1 c1, .slice A2 n2 c2, .slice A3 n3 c3, .slice A4 n4 c4, .int .i64 sq] 28) = W := ⟨_, rfl⟩
  rw [hW1] at HX
  have q0 := HX.out.x.cell 0
  have q5 := HX.out.x.cell 5
  have g0 : ¬ sq < 1 := by rw [← hs.e]; omega
  have g1 : ¬ 1000 < sq := by rw [← hs.e]; omega
  have g2 : ¬ (n0 : Int) < 1 := by rw [← hl0]; omega
  have g3 : ¬ 16 < (n0 : Int) := by rw [← hl0]; omega
  obtain ⟨q, hq0⟩ : ∃ q, n0 = q + 1 := ⟨n0 - 1, by omega⟩
  obtain ⟨a, of, hA, hab, hq⟩ := Lq.at_ len14C (by omega) HX.out.s.r0 (show q < S.C.length by omega)
  obtain ⟨a', of', hA', hab', hq'⟩ := Lq.at_ len14C (by omega) HX.out.s.r0 (show 0 < S.C.length by omega)
  rw [hA] at hA'
  injection hA' with hA'
  injection hA' with ha2 ho2
  subst ha2 ho2
  obtain ⟨x0, hx0⟩ : ∃ x, gt14 S.C 0 = x := ⟨_, rfl⟩
  obtain ⟨x1, hx1⟩ : ∃ x, gt14 S.C q = x := ⟨_, rfl⟩
  rw [hx1] at hq
  rw [hx0] at hq'
  have f0 : W1.cell? ⟨a, of, none⟩ = some (.bool x0) := by have h := hq' 0 _ rfl; rwa [Nat.mul_one] at h
  have f1 : W1.cell? ⟨a, of + q, none⟩ = some (.bool x1) := by have h := hq 0 _ rfl; rwa [Nat.mul_one] at h
  have hw : IntKind.i64.wrap ((n0 : Int) - 1) = (q : Int) := by rw [IntKind.wrap_i64]; omega
  have i0 : (0 : Int) ≤ (q : Int) := by omega
  have i1 : (q : Int) < (n0 : Int) := by omega
  have i2 : (0 : Int) < (n0 : Int) := by omega
  obtain rfl : x0 = true := by rw [← hx0]; simpa using e4
  obtain rfl : x1 = true := by rw [← hx1, show q = S.C.length - 1 by omega]; simpa using e5
  clear hq hq' hx0 hx1 hab hab'
  have HC6 := Lib.hid (fun W (h : Bx14 w S A0 A1 A2 A3 A4 n0 n1 n2 n3 n4 c0 c1 c2 c3 c4 sq W) => rtickets14 _ S true W h.st (by simp [e6]))
  have HC7 := Lib.hid (fun W (h : Bx14 w S A0 A1 A2 A3 A4 n0 n1 n2 n3 n4 c0 c1 c2 c3 c4 sq W) => rthreads14 _ S false W h.st (by simp [ne]))
  clear hs e0 e1 e2 e3 e4 e5 e6 ne hl0 hl1 hl2 hm0 hm1 hm2 hq0
  have HA := Lib.hid hA
  subst hA
  go_enter Try.func6, Try.ntmps6
  have c6_0 := HX.out.x.cell 0
  have c6_1 := HX.out.x.cell 1
  have c6_2 := HX.out.x.cell 2
  have c6_3 := HX.out.x.cell 3
  have c6_4 := HX.out.x.cell 4
  have c6_5 := HX.out.x.cell 5
  go_wp2_with fail
  refine (HC6.out _ HX.out).mono ?_
  rintro e w6 ⟨rfl, hb6⟩
  have HX6 := Lib.hid (HX.out.step hb6)
  clear HC6 hb6
  have c7_0 := HX6.out.x.cell 0
  have c7_1 := HX6.out.x.cell 1
  have c7_2 := HX6.out.x.cell 2
  have c7_3 := HX6.out.x.cell 3
  have c7_4 := HX6.out.x.cell 4
  have c7_5 := HX6.out.x.cell 5
  go_wp2_with fail
  refine (HC7.out _ HX6.out).mono ?_
  rintro e w7 ⟨rfl, hb7⟩
  have HX7 := Lib.hid (HX6.out.step hb7)
  clear HC7 hb7
  go_wp2_with fail
  go_ret
  exact ⟨rfl, HX7.out.b⟩
set_option maxHeartbeats 4000000 in
theorem rfine14_8 (v : Value) (S : Sv14) (w : World) (h : St14 w v S) (e0 : 1 ≤ S.q) (e1 : S.q ≤ 1000) (e2 : 1 ≤ S.C.length) (e3 : S.C.length ≤ 16) (e4 : gt14 S.C 0 = true) (e5 : gt14 S.C (S.C.length - 1) = true) (e6 : RTickets14 S) (e7 : RThreads14 S) (ne : ¬ RLocks14 S) :
    Calls Try.prog 6 #[v] w fun e w' => e = .returned (.bool false) ∧ Below w.heap.size w w' := by
  obtain ⟨A0, A1, A2, A3, A4, n0, n1, n2, n3, n4, c0, c1, c2, c3, c4, sq, rfl, hs⟩ := h
  have HX := Lib.hid (Bx14.new hs)
  have hl0 := hs.l0
  have hl2 := hs.l2
  have hl1 := hs.l1
  have hm0 := hs.m0
  have hm1 := hs.m1
  have hm2 := hs.m2
  obtain ⟨W1, hW1⟩ : ∃ W, w.alloc (.cells #[.slice A0 n0 c0, .slice A1 n1 c1, .slice A2 n2 c2, .slice A3 n3 c3, .slice A4 n4 c4, .int .i64 sq] 28) = W := ⟨_, rfl⟩
  rw [hW1] at HX
  have q0 := HX.out.x.cell 0
  have q5 := HX.out.x.cell 5
  have g0 : ¬ sq < 1 := by rw [← hs.e]; omega
  have g1 : ¬ 1000 < sq := by rw [← hs.e]; omega
  have g2 : ¬ (n0 : Int) < 1 := by rw [← hl0]; omega
  have g3 : ¬ 16 < (n0 : Int) := by rw [← hl0]; omega
  obtain ⟨q, hq0⟩ : ∃ q, n0 = q + 1 := ⟨n0 - 1, by omega⟩
  obtain ⟨a, of, hA, hab, hq⟩ := Lq.at_ len14C (by omega) HX.out.s.r0 (show q < S.C.length by omega)
  obtain ⟨a', of', hA', hab', hq'⟩ := Lq.at_ len14C (by omega) HX.out.s.r0 (show 0 < S.C.length by omega)
  rw [hA] at hA'
  injection hA' with hA'
  injection hA' with ha2 ho2
  subst ha2 ho2
  obtain ⟨x0, hx0⟩ : ∃ x, gt14 S.C 0 = x := ⟨_, rfl⟩
  obtain ⟨x1, hx1⟩ : ∃ x, gt14 S.C q = x := ⟨_, rfl⟩
  rw [hx1] at hq
  rw [hx0] at hq'
  have f0 : W1.cell? ⟨a, of, none⟩ = some (.bool x0) := by have h := hq' 0 _ rfl; rwa [Nat.mul_one] at h
  have f1 : W1.cell? ⟨a, of + q, none⟩ = some (.bool x1) := by have h := hq 0 _ rfl; rwa [Nat.mul_one] at h
  have hw : IntKind.i64.wrap ((n0 : Int) - 1) = (q : Int) := by rw [IntKind.wrap_i64]; omega
  have i0 : (0 : Int) ≤ (q : Int) := by omega
  have i1 : (q : Int) < (n0 : Int) := by omega
  have i2 : (0 : Int) < (n0 : Int) := by omega
  obtain rfl : x0 = true := by rw [← hx0]; simpa using e4
  obtain rfl : x1 = true := by rw [← hx1, show q = S.C.length - 1 by omega]; simpa using e5
  clear hq hq' hx0 hx1 hab hab'
  have HC6 := Lib.hid (fun W (h : Bx14 w S A0 A1 A2 A3 A4 n0 n1 n2 n3 n4 c0 c1 c2 c3 c4 sq W) => rtickets14 _ S true W h.st (by simp [e6]))
  have HC7 := Lib.hid (fun W (h : Bx14 w S A0 A1 A2 A3 A4 n0 n1 n2 n3 n4 c0 c1 c2 c3 c4 sq W) => rthreads14 _ S true W h.st (by simp [e7]))
  have HC8 := Lib.hid (fun W (h : Bx14 w S A0 A1 A2 A3 A4 n0 n1 n2 n3 n4 c0 c1 c2 c3 c4 sq W) => rlocks14 _ S false W h.st (by simp [ne]))
  clear hs e0 e1 e2 e3 e4 e5 e6 e7 ne hl0 hl1 hl2 hm0 hm1 hm2 hq0
  have HA := Lib.hid hA
  subst hA
  go_enter Try.func6, Try.ntmps6
  have c6_0 := HX.out.x.cell 0
  have c6_1 := HX.out.x.cell 1
  have c6_2 := HX.out.x.cell 2
  have c6_3 := HX.out.x.cell 3
  have c6_4 := HX.out.x.cell 4
  have c6_5 := HX.out.x.cell 5
  go_wp2_with fail
  refine (HC6.out _ HX.out).mono ?_
  rintro e w6 ⟨rfl, hb6⟩
  have HX6 := Lib.hid (HX.out.step hb6)
  clear HC6 hb6
  have c7_0 := HX6.out.x.cell 0
  have c7_1 := HX6.out.x.cell 1
  have c7_2 := HX6.out.x.cell 2
  have c7_3 := HX6.out.x.cell 3
  have c7_4 := HX6.out.x.cell 4
  have c7_5 := HX6.out.x.cell 5
  go_wp2_with fail
  refine (HC7.out _ HX6.out).mono ?_
  rintro e w7 ⟨rfl, hb7⟩
  have HX7 := Lib.hid (HX6.out.step hb7)
  clear HC7 hb7
  have c8_0 := HX7.out.x.cell 0
  have c8_1 := HX7.out.x.cell 1
  have c8_2 := HX7.out.x.cell 2
  have c8_3 := HX7.out.x.cell 3
  have c8_4 := HX7.out.x.cell 4
  have c8_5 := HX7.out.x.cell 5
  go_wp2_with fail
  refine (HC8.out _ HX7.out).mono ?_
  rintro e w8 ⟨rfl, hb8⟩
  have HX8 := Lib.hid (HX7.out.step hb8)
  clear HC8 hb8
  go_wp2_with fail
  go_ret
  exact ⟨rfl, HX8.out.b⟩
set_option maxHeartbeats 4000000 in
theorem rfine14_9 (v : Value) (S : Sv14) (w : World) (h : St14 w v S) (e0 : 1 ≤ S.q) (e1 : S.q ≤ 1000) (e2 : 1 ≤ S.C.length) (e3 : S.C.length ≤ 16) (e4 : gt14 S.C 0 = true) (e5 : gt14 S.C (S.C.length - 1) = true) (e6 : RTickets14 S) (e7 : RThreads14 S) (e8 : RLocks14 S) (ne : ¬ Queue14 S) :
    Calls Try.prog 6 #[v] w fun e w' => e = .returned (.bool false) ∧ Below w.heap.size w w' := by
  obtain ⟨A0, A1, A2, A3, A4, n0, n1, n2, n3, n4, c0, c1, c2, c3, c4, sq, rfl, hs⟩ := h
  have HX := Lib.hid (Bx14.new hs)
  have hl0 := hs.l0
  have hl2 := hs.l2
  have hl1 := hs.l1
  have hm0 := hs.m0
  have hm1 := hs.m1
  have hm2 := hs.m2
  obtain ⟨W1, hW1⟩ : ∃ W, w.alloc (.cells #[.slice A0 n0 c0, .slice A1 n1 c1, .slice A2 n2 c2, .slice A3 n3 c3, .slice A4 n4 c4, .int .i64 sq] 28) = W := ⟨_, rfl⟩
  rw [hW1] at HX
  have q0 := HX.out.x.cell 0
  have q5 := HX.out.x.cell 5
  have g0 : ¬ sq < 1 := by rw [← hs.e]; omega
  have g1 : ¬ 1000 < sq := by rw [← hs.e]; omega
  have g2 : ¬ (n0 : Int) < 1 := by rw [← hl0]; omega
  have g3 : ¬ 16 < (n0 : Int) := by rw [← hl0]; omega
  obtain ⟨q, hq0⟩ : ∃ q, n0 = q + 1 := ⟨n0 - 1, by omega⟩
  obtain ⟨a, of, hA, hab, hq⟩ := Lq.at_ len14C (by omega) HX.out.s.r0 (show q < S.C.length by omega)
  obtain ⟨a', of', hA', hab', hq'⟩ := Lq.at_ len14C (by omega) HX.out.s.r0 (show 0 < S.C.length by omega)
  rw [hA] at hA'
  injection hA' with hA'
  injection hA' with ha2 ho2
  subst ha2 ho2
  obtain ⟨x0, hx0⟩ : ∃ x, gt14 S.C 0 = x := ⟨_, rfl⟩
  obtain ⟨x1, hx1⟩ : ∃ x, gt14 S.C q = x := ⟨_, rfl⟩
  rw [hx1] at hq
  rw [hx0] at hq'
  have f0 : W1.cell? ⟨a, of, none⟩ = some (.bool x0) := by have h := hq' 0 _ rfl; rwa [Nat.mul_one] at h
  have f1 : W1.cell? ⟨a, of + q, none⟩ = some (.bool x1) := by have h := hq 0 _ rfl; rwa [Nat.mul_one] at h
  have hw : IntKind.i64.wrap ((n0 : Int) - 1) = (q : Int) := by rw [IntKind.wrap_i64]; omega
  have i0 : (0 : Int) ≤ (q : Int) := by omega
  have i1 : (q : Int) < (n0 : Int) := by omega
  have i2 : (0 : Int) < (n0 : Int) := by omega
  obtain rfl : x0 = true := by rw [← hx0]; simpa using e4
  obtain rfl : x1 = true := by rw [← hx1, show q = S.C.length - 1 by omega]; simpa using e5
  clear hq hq' hx0 hx1 hab hab'
  have HC6 := Lib.hid (fun W (h : Bx14 w S A0 A1 A2 A3 A4 n0 n1 n2 n3 n4 c0 c1 c2 c3 c4 sq W) => rtickets14 _ S true W h.st (by simp [e6]))
  have HC7 := Lib.hid (fun W (h : Bx14 w S A0 A1 A2 A3 A4 n0 n1 n2 n3 n4 c0 c1 c2 c3 c4 sq W) => rthreads14 _ S true W h.st (by simp [e7]))
  have HC8 := Lib.hid (fun W (h : Bx14 w S A0 A1 A2 A3 A4 n0 n1 n2 n3 n4 c0 c1 c2 c3 c4 sq W) => rlocks14 _ S true W h.st (by simp [e8]))
  have hok4 : ∀ j, j < S.H.length → (gt14 S.H j).s = 4 → us14 usH S.H (gt14 S.H j).f = true := fun j hj h4 => by
    have h5 := (e7.2.1 j hj (by obtain ⟨x, hx⟩ : ∃ x, gt14 S.H j = x := ⟨_, rfl⟩; rw [hx] at h4 ⊢; simp [usH, h4])).1
    rcases h5 with h5 | h5 | h5
    · exact h5.2.1
    · rw [h4] at h5; exact absurd h5.1 (by decide)
    · rw [h4] at h5; exact absurd h5.1 (by decide)
  have HC9 := Lib.hid (fun W (h : Bx14 w S A0 A1 A2 A3 A4 n0 n1 n2 n3 n4 c0 c1 c2 c3 c4 sq W) => rqueue14 _ S false W h.st e7.1.1 hok4 (by simp [ne]))
  clear hs e0 e1 e2 e3 e4 e5 e6 e7 e8 ne hok4 hl0 hl1 hl2 hm0 hm1 hm2 hq0
  have HA := Lib.hid hA
  subst hA
  go_enter Try.func6, Try.ntmps6
  have c6_0 := HX.out.x.cell 0
  have c6_1 := HX.out.x.cell 1
  have c6_2 := HX.out.x.cell 2
  have c6_3 := HX.out.x.cell 3
  have c6_4 := HX.out.x.cell 4
  have c6_5 := HX.out.x.cell 5
  go_wp2_with fail
  refine (HC6.out _ HX.out).mono ?_
  rintro e w6 ⟨rfl, hb6⟩
  have HX6 := Lib.hid (HX.out.step hb6)
  clear HC6 hb6
  have c7_0 := HX6.out.x.cell 0
  have c7_1 := HX6.out.x.cell 1
  have c7_2 := HX6.out.x.cell 2
  have c7_3 := HX6.out.x.cell 3
  have c7_4 := HX6.out.x.cell 4
  have c7_5 := HX6.out.x.cell 5
  go_wp2_with fail
  refine (HC7.out _ HX6.out).mono ?_
  rintro e w7 ⟨rfl, hb7⟩
  have HX7 := Lib.hid (HX6.out.step hb7)
  clear HC7 hb7
  have c8_0 := HX7.out.x.cell 0
  have c8_1 := HX7.out.x.cell 1
  have c8_2 := HX7.out.x.cell 2
  have c8_3 := HX7.out.x.cell 3
  have c8_4 := HX7.out.x.cell 4
  have c8_5 := HX7.out.x.cell 5
  go_wp2_with fail
  refine (HC8.out _ HX7.out).mono ?_
  rintro e w8 ⟨rfl, hb8⟩
  have HX8 := Lib.hid (HX7.out.step hb8)
  clear HC8 hb8
  have c9_0 := HX8.out.x.cell 0
  have c9_1 := HX8.out.x.cell 1
  have c9_2 := HX8.out.x.cell 2
  have c9_3 := HX8.out.x.cell 3
  have c9_4 := HX8.out.x.cell 4
  have c9_5 := HX8.out.x.cell 5
  go_wp2_with fail
  refine (HC9.out _ HX8.out).mono ?_
  rintro e w9 ⟨rfl, hb9⟩
  have HX9 := Lib.hid (HX8.out.step hb9)
  clear HC9 hb9
  go_wp2_with fail
  go_ret
  exact ⟨rfl, HX9.out.b⟩
set_option maxHeartbeats 4000000 in
theorem rfine14_10 (v : Value) (S : Sv14) (w : World) (h : St14 w v S) (e0 : 1 ≤ S.q) (e1 : S.q ≤ 1000) (e2 : 1 ≤ S.C.length) (e3 : S.C.length ≤ 16) (e4 : gt14 S.C 0 = true) (e5 : gt14 S.C (S.C.length - 1) = true) (e6 : RTickets14 S) (e7 : RThreads14 S) (e8 : RLocks14 S) (e9 : Queue14 S) (ne : ¬ Free14R S.C.length (cArr14 S S.T.length)) :
    Calls Try.prog 6 #[v] w fun e w' => e = .returned (.bool false) ∧ Below w.heap.size w w' := by
  obtain ⟨A0, A1, A2, A3, A4, n0, n1, n2, n3, n4, c0, c1, c2, c3, c4, sq, rfl, hs⟩ := h
  have HX := Lib.hid (Bx14.new hs)
  have hl0 := hs.l0
  have hl2 := hs.l2
  have hl1 := hs.l1
  have hm0 := hs.m0
  have hm1 := hs.m1
  have hm2 := hs.m2
  obtain ⟨W1, hW1⟩ : ∃ W, w.alloc (.cells #[.slice A0 n0 c0, .slice A1 n1 c1, .slice A2 n2 c2, .slice A3 n3 c3, .slice A4 n4 c4, .int .i64 sq] 28) = W := ⟨_, rfl⟩
  rw [hW1] at HX
  have q0 := HX.out.x.cell 0
  have q5 := HX.out.x.cell 5
  have g0 : ¬ sq < 1 := by rw [← hs.e]; omega
  have g1 : ¬ 1000 < sq := by rw [← hs.e]; omega
  have g2 : ¬ (n0 : Int) < 1 := by rw [← hl0]; omega
  have g3 : ¬ 16 < (n0 : Int) := by rw [← hl0]; omega
  obtain ⟨q, hq0⟩ : ∃ q, n0 = q + 1 := ⟨n0 - 1, by omega⟩
  obtain ⟨a, of, hA, hab, hq⟩ := Lq.at_ len14C (by omega) HX.out.s.r0 (show q < S.C.length by omega)
  obtain ⟨a', of', hA', hab', hq'⟩ := Lq.at_ len14C (by omega) HX.out.s.r0 (show 0 < S.C.length by omega)
  rw [hA] at hA'
  injection hA' with hA'
  injection hA' with ha2 ho2
  subst ha2 ho2
  obtain ⟨x0, hx0⟩ : ∃ x, gt14 S.C 0 = x := ⟨_, rfl⟩
  obtain ⟨x1, hx1⟩ : ∃ x, gt14 S.C q = x := ⟨_, rfl⟩
  rw [hx1] at hq
  rw [hx0] at hq'
  have f0 : W1.cell? ⟨a, of, none⟩ = some (.bool x0) := by have h := hq' 0 _ rfl; rwa [Nat.mul_one] at h
  have f1 : W1.cell? ⟨a, of + q, none⟩ = some (.bool x1) := by have h := hq 0 _ rfl; rwa [Nat.mul_one] at h
  have hw : IntKind.i64.wrap ((n0 : Int) - 1) = (q : Int) := by rw [IntKind.wrap_i64]; omega
  have i0 : (0 : Int) ≤ (q : Int) := by omega
  have i1 : (q : Int) < (n0 : Int) := by omega
  have i2 : (0 : Int) < (n0 : Int) := by omega
  obtain rfl : x0 = true := by rw [← hx0]; simpa using e4
  obtain rfl : x1 = true := by rw [← hx1, show q = S.C.length - 1 by omega]; simpa using e5
  clear hq hq' hx0 hx1 hab hab'
  have HC6 := Lib.hid (fun W (h : Bx14 w S A0 A1 A2 A3 A4 n0 n1 n2 n3 n4 c0 c1 c2 c3 c4 sq W) => rtickets14 _ S true W h.st (by simp [e6]))
  have HC7 := Lib.hid (fun W (h : Bx14 w S A0 A1 A2 A3 A4 n0 n1 n2 n3 n4 c0 c1 c2 c3 c4 sq W) => rthreads14 _ S true W h.st (by simp [e7]))
  have HC8 := Lib.hid (fun W (h : Bx14 w S A0 A1 A2 A3 A4 n0 n1 n2 n3 n4 c0 c1 c2 c3 c4 sq W) => rlocks14 _ S true W h.st (by simp [e8]))
  have hok4 : ∀ j, j < S.H.length → (gt14 S.H j).s = 4 → us14 usH S.H (gt14 S.H j).f = true := fun j hj h4 => by
    have h5 := (e7.2.1 j hj (by obtain ⟨x, hx⟩ : ∃ x, gt14 S.H j = x := ⟨_, rfl⟩; rw [hx] at h4 ⊢; simp [usH, h4])).1
    rcases h5 with h5 | h5 | h5
    · exact h5.2.1
    · rw [h4] at h5; exact absurd h5.1 (by decide)
    · rw [h4] at h5; exact absurd h5.1 (by decide)
  have HC9 := Lib.hid (fun W (h : Bx14 w S A0 A1 A2 A3 A4 n0 n1 n2 n3 n4 c0 c1 c2 c3 c4 sq W) => rqueue14 _ S true W h.st e7.1.1 hok4 (by simp [e9]))
  have HCA := Lib.hid (fun W (h : Bx14 w S A0 A1 A2 A3 A4 n0 n1 n2 n3 n4 c0 c1 c2 c3 c4 sq W) => rcoinArrows14 _ S W h.st)
  have HLA : Hid ((cArr14 S S.T.length).length ≤ 1000000) := Lib.hid (by have := cArr14_len S S.T.length; omega)
  have HRA := Lib.hid (fun W Ad c (hr : Aq W W.heap.size Ad (cArr14 S S.T.length)) => rdring14 n0 (by omega) Ad _ c false W hr HLA.out (by rw [← hl0]; simp [ne]))
  clear hs e0 e1 e2 e3 e4 e5 e6 e7 e8 e9 ne hok4 hl0 hl1 hl2 hm0 hm1 hm2 hq0
  have HA := Lib.hid hA
  subst hA
  go_enter Try.func6, Try.ntmps6
  have c6_0 := HX.out.x.cell 0
  have c6_1 := HX.out.x.cell 1
  have c6_2 := HX.out.x.cell 2
  have c6_3 := HX.out.x.cell 3
  have c6_4 := HX.out.x.cell 4
  have c6_5 := HX.out.x.cell 5
  go_wp2_with fail
  refine (HC6.out _ HX.out).mono ?_
  rintro e w6 ⟨rfl, hb6⟩
  have HX6 := Lib.hid (HX.out.step hb6)
  clear HC6 hb6
  have c7_0 := HX6.out.x.cell 0
  have c7_1 := HX6.out.x.cell 1
  have c7_2 := HX6.out.x.cell 2
  have c7_3 := HX6.out.x.cell 3
  have c7_4 := HX6.out.x.cell 4
  have c7_5 := HX6.out.x.cell 5
  go_wp2_with fail
  refine (HC7.out _ HX6.out).mono ?_
  rintro e w7 ⟨rfl, hb7⟩
  have HX7 := Lib.hid (HX6.out.step hb7)
  clear HC7 hb7
  have c8_0 := HX7.out.x.cell 0
  have c8_1 := HX7.out.x.cell 1
  have c8_2 := HX7.out.x.cell 2
  have c8_3 := HX7.out.x.cell 3
  have c8_4 := HX7.out.x.cell 4
  have c8_5 := HX7.out.x.cell 5
  go_wp2_with fail
  refine (HC8.out _ HX7.out).mono ?_
  rintro e w8 ⟨rfl, hb8⟩
  have HX8 := Lib.hid (HX7.out.step hb8)
  clear HC8 hb8
  have c9_0 := HX8.out.x.cell 0
  have c9_1 := HX8.out.x.cell 1
  have c9_2 := HX8.out.x.cell 2
  have c9_3 := HX8.out.x.cell 3
  have c9_4 := HX8.out.x.cell 4
  have c9_5 := HX8.out.x.cell 5
  go_wp2_with fail
  refine (HC9.out _ HX8.out).mono ?_
  rintro e w9 ⟨rfl, hb9⟩
  have HX9 := Lib.hid (HX8.out.step hb9)
  clear HC9 hb9
  have HXN := Lib.hid (HX9.out.step (Below.refl _ _).drew)
  obtain ⟨wn, hwn⟩ : ∃ W, w9.drew = W := ⟨_, rfl⟩
  rw [hwn] at HXN
  go_wp2_with fail
  refine wp_region_held_drew (S := Bx14 w S (some ⟨a, of, none⟩) A1 A2 A3 A4 n0 n1 n2 n3 n4 c0 c1 c2 c3 c4 sq) (by kernel_rfl) (by rw [hwn]; exact HXN.out) (fun hHeld => ?_)
  rw [hwn] at hHeld ⊢
  clear hwn
  have HBS := HXN
  refine tk 0 (v := ?_) (fun W hS => ?_) ?_
  rotate_left
  · (go_simp; try with_reducible rfl)
  (try dsimp only [Act.put]); try simp only [pt1, pt2, pt3]
  refine tk 1 (v := ?_) (fun W hS => ?_) ?_
  rotate_left
  · try try dsimp only at hS
    have z0 := hS.x.cell 0
    have z1 := hS.x.cell 1
    have z2 := hS.x.cell 2
    have z3 := hS.x.cell 3
    have z4 := hS.x.cell 4
    have z5 := hS.x.cell 5
    go_simp
    try with_reducible rfl
  (try dsimp only [Act.put]); try simp only [pt1, pt2, pt3]
  refine rdy 2 (fun K hK => ?_)
  have HBS0 := HBS
  go_simp
  refine (HCA.out _ HBS0.out).mono ?_
  rintro e wn ⟨Ac, cc, rfl, hqa, hb⟩
  have HBS := Lib.hid (HBS0.out.step hb)
  have HQA := Lib.hid hqa
  clear hb hqa HBS0
  refine hK.out _ _ HBS.out (fun hHeld => ?_)
  clear hK K
  (try dsimp only [Act.put]); try simp only [pt1, pt2, pt3]
  refine rdy 3 (fun K hK => ?_)
  have HBS0 := HBS
  go_simp
  refine (HRA.out _ Ac cc HQA.out).mono ?_
  rintro e wn ⟨rfl, hb⟩
  have HBS := Lib.hid (HBS0.out.step hb)
  clear hb HBS0 HQA
  refine hK.out _ _ HBS.out (fun hHeld => ?_)
  clear hK K
  (try dsimp only [Act.put]); try simp only [pt1, pt2, pt3]
  refine tk 4 (v := ?_) (fun W hS => ?_) ?_
  rotate_left
  · (go_simp; try with_reducible rfl)
  (try dsimp only [Act.put]); try simp only [pt1, pt2, pt3]
  refine tk 5 (v := ?_) (fun W hS => ?_) ?_
  rotate_left
  · (go_simp; try with_reducible rfl)
  (try dsimp only [Act.put]); try simp only [pt1, pt2, pt3]
  refine sk 6 ?_
  (try dsimp only [Act.put]); try simp only [pt1, pt2, pt3]
  refine sk 7 ?_
  (try dsimp only [Act.put]); try simp only [pt1, pt2, pt3]
  refine sk 8 ?_
  (try dsimp only [Act.put]); try simp only [pt1, pt2, pt3]
  refine sk 9 ?_
  (try dsimp only [Act.put]); try simp only [pt1, pt2, pt3]
  refine sk 10 ?_
  (try dsimp only [Act.put]); try simp only [pt1, pt2, pt3]
  refine sk 11 ?_
  (try dsimp only [Act.put]); try simp only [pt1, pt2, pt3]
  refine sk 12 ?_
  (try dsimp only [Act.put]); try simp only [pt1, pt2, pt3]
  refine tk 13 (v := ?_) (fun W hS => ?_) ?_
  rotate_left
  · (go_simp; try with_reducible rfl)
  (try dsimp only [Act.put]); try simp only [pt1, pt2, pt3]
  refine rdy 14 (fun K hK => ?_)
  go_simp
  refine hK.out _ _ HBS.out (fun hHeld => ?_)
  clear hK K
  (try dsimp only [Act.put]); try simp only [pt1, pt2, pt3]
  refine wpAnyH_done (by kernel_rfl) ?_ _
  clear hHeld
  go_wp2_with fail
  go_ret
  exact ⟨rfl, HBS.out.b⟩
set_option maxHeartbeats 4000000 in
theorem rfine14_11 (v : Value) (S : Sv14) (w : World) (h : St14 w v S) (e0 : 1 ≤ S.q) (e1 : S.q ≤ 1000) (e2 : 1 ≤ S.C.length) (e3 : S.C.length ≤ 16) (e4 : gt14 S.C 0 = true) (e5 : gt14 S.C (S.C.length - 1) = true) (e6 : RTickets14 S) (e7 : RThreads14 S) (e8 : RLocks14 S) (e9 : Queue14 S) (e10 : Free14R S.C.length (cArr14 S S.T.length)) (b : Bool) (hb : b = true ↔ Free14R S.H.length (tArr14 S S.H.length)) :
    Calls Try.prog 6 #[v] w fun e w' => e = .returned (.bool b) ∧ Below w.heap.size w w' := by
  obtain ⟨A0, A1, A2, A3, A4, n0, n1, n2, n3, n4, c0, c1, c2, c3, c4, sq, rfl, hs⟩ := h
  have HX := Lib.hid (Bx14.new hs)
  have hl0 := hs.l0
  have hl2 := hs.l2
  have hl1 := hs.l1
  have hm0 := hs.m0
  have hm1 := hs.m1
  have hm2 := hs.m2
  obtain ⟨W1, hW1⟩ : ∃ W, w.alloc (.cells #[.slice A0 n0 c0, .slice A1 n1 c1, .slice A2 n2 c2, .slice A3 n3 c3, .slice A4 n4 c4, .int .i64 sq] 28) = W := ⟨_, rfl⟩
  rw [hW1] at HX
  have q0 := HX.out.x.cell 0
  have q5 := HX.out.x.cell 5
  have g0 : ¬ sq < 1 := by rw [← hs.e]; omega
  have g1 : ¬ 1000 < sq := by rw [← hs.e]; omega
  have g2 : ¬ (n0 : Int) < 1 := by rw [← hl0]; omega
  have g3 : ¬ 16 < (n0 : Int) := by rw [← hl0]; omega
  obtain ⟨q, hq0⟩ : ∃ q, n0 = q + 1 := ⟨n0 - 1, by omega⟩
  obtain ⟨a, of, hA, hab, hq⟩ := Lq.at_ len14C (by omega) HX.out.s.r0 (show q < S.C.length by omega)
  obtain ⟨a', of', hA', hab', hq'⟩ := Lq.at_ len14C (by omega) HX.out.s.r0 (show 0 < S.C.length by omega)
  rw [hA] at hA'
  injection hA' with hA'
  injection hA' with ha2 ho2
  subst ha2 ho2
  obtain ⟨x0, hx0⟩ : ∃ x, gt14 S.C 0 = x := ⟨_, rfl⟩
  obtain ⟨x1, hx1⟩ : ∃ x, gt14 S.C q = x := ⟨_, rfl⟩
  rw [hx1] at hq
  rw [hx0] at hq'
  have f0 : W1.cell? ⟨a, of, none⟩ = some (.bool x0) := by have h := hq' 0 _ rfl; rwa [Nat.mul_one] at h
  have f1 : W1.cell? ⟨a, of + q, none⟩ = some (.bool x1) := by have h := hq 0 _ rfl; rwa [Nat.mul_one] at h
  have hw : IntKind.i64.wrap ((n0 : Int) - 1) = (q : Int) := by rw [IntKind.wrap_i64]; omega
  have i0 : (0 : Int) ≤ (q : Int) := by omega
  have i1 : (q : Int) < (n0 : Int) := by omega
  have i2 : (0 : Int) < (n0 : Int) := by omega
  obtain rfl : x0 = true := by rw [← hx0]; simpa using e4
  obtain rfl : x1 = true := by rw [← hx1, show q = S.C.length - 1 by omega]; simpa using e5
  clear hq hq' hx0 hx1 hab hab'
  have HC6 := Lib.hid (fun W (h : Bx14 w S A0 A1 A2 A3 A4 n0 n1 n2 n3 n4 c0 c1 c2 c3 c4 sq W) => rtickets14 _ S true W h.st (by simp [e6]))
  have HC7 := Lib.hid (fun W (h : Bx14 w S A0 A1 A2 A3 A4 n0 n1 n2 n3 n4 c0 c1 c2 c3 c4 sq W) => rthreads14 _ S true W h.st (by simp [e7]))
  have HC8 := Lib.hid (fun W (h : Bx14 w S A0 A1 A2 A3 A4 n0 n1 n2 n3 n4 c0 c1 c2 c3 c4 sq W) => rlocks14 _ S true W h.st (by simp [e8]))
  have hok4 : ∀ j, j < S.H.length → (gt14 S.H j).s = 4 → us14 usH S.H (gt14 S.H j).f = true := fun j hj h4 => by
    have h5 := (e7.2.1 j hj (by obtain ⟨x, hx⟩ : ∃ x, gt14 S.H j = x := ⟨_, rfl⟩; rw [hx] at h4 ⊢; simp [usH, h4])).1
    rcases h5 with h5 | h5 | h5
    · exact h5.2.1
    · rw [h4] at h5; exact absurd h5.1 (by decide)
    · rw [h4] at h5; exact absurd h5.1 (by decide)
  have HC9 := Lib.hid (fun W (h : Bx14 w S A0 A1 A2 A3 A4 n0 n1 n2 n3 n4 c0 c1 c2 c3 c4 sq W) => rqueue14 _ S true W h.st e7.1.1 hok4 (by simp [e9]))
  have HCA := Lib.hid (fun W (h : Bx14 w S A0 A1 A2 A3 A4 n0 n1 n2 n3 n4 c0 c1 c2 c3 c4 sq W) => rcoinArrows14 _ S W h.st)
  have HLA : Hid ((cArr14 S S.T.length).length ≤ 1000000) := Lib.hid (by have := cArr14_len S S.T.length; omega)
  have HRA := Lib.hid (fun W Ad c (hr : Aq W W.heap.size Ad (cArr14 S S.T.length)) => rdring14 n0 (by omega) Ad _ c true W hr HLA.out (by rw [← hl0]; simp [e10]))
  have hok6 : ∀ j, j < S.H.length → (gt14 S.H j).s = 6 → us14 usL S.L (gt14 S.H j).f = true := fun j hj h4 => by
    have h5 := (e7.2.1 j hj (by obtain ⟨x, hx⟩ : ∃ x, gt14 S.H j = x := ⟨_, rfl⟩; rw [hx] at h4 ⊢; simp [usH, h4])).1
    rcases h5 with h5 | h5 | h5
    · rw [h4] at h5; exact absurd h5.1 (by decide)
    · exact h5.2
    · rw [h4] at h5; exact absurd h5.1 (by decide)
  have HCB := Lib.hid (fun W (h : Bx14 w S A0 A1 A2 A3 A4 n0 n1 n2 n3 n4 c0 c1 c2 c3 c4 sq W) => rthreadArrows14 _ S W h.st hok6)
  have HLB : Hid ((tArr14 S S.H.length).length ≤ 1000000) := Lib.hid (by have := tArr14_len S S.H.length; omega)
  have HRB := Lib.hid (fun W Ad c (hr : Aq W W.heap.size Ad (tArr14 S S.H.length)) => rdring14 n2 (by omega) Ad _ c b W hr HLB.out (by rw [← hl2]; exact hb))
  clear hs e0 e1 e2 e3 e4 e5 e6 e7 e8 e9 e10 hb hok4 hok6 hl0 hl1 hl2 hm0 hm1 hm2 hq0
  have HA := Lib.hid hA
  subst hA
  go_enter Try.func6, Try.ntmps6
  have c6_0 := HX.out.x.cell 0
  have c6_1 := HX.out.x.cell 1
  have c6_2 := HX.out.x.cell 2
  have c6_3 := HX.out.x.cell 3
  have c6_4 := HX.out.x.cell 4
  have c6_5 := HX.out.x.cell 5
  go_wp2_with fail
  refine (HC6.out _ HX.out).mono ?_
  rintro e w6 ⟨rfl, hb6⟩
  have HX6 := Lib.hid (HX.out.step hb6)
  clear HC6 hb6
  have c7_0 := HX6.out.x.cell 0
  have c7_1 := HX6.out.x.cell 1
  have c7_2 := HX6.out.x.cell 2
  have c7_3 := HX6.out.x.cell 3
  have c7_4 := HX6.out.x.cell 4
  have c7_5 := HX6.out.x.cell 5
  go_wp2_with fail
  refine (HC7.out _ HX6.out).mono ?_
  rintro e w7 ⟨rfl, hb7⟩
  have HX7 := Lib.hid (HX6.out.step hb7)
  clear HC7 hb7
  have c8_0 := HX7.out.x.cell 0
  have c8_1 := HX7.out.x.cell 1
  have c8_2 := HX7.out.x.cell 2
  have c8_3 := HX7.out.x.cell 3
  have c8_4 := HX7.out.x.cell 4
  have c8_5 := HX7.out.x.cell 5
  go_wp2_with fail
  refine (HC8.out _ HX7.out).mono ?_
  rintro e w8 ⟨rfl, hb8⟩
  have HX8 := Lib.hid (HX7.out.step hb8)
  clear HC8 hb8
  have c9_0 := HX8.out.x.cell 0
  have c9_1 := HX8.out.x.cell 1
  have c9_2 := HX8.out.x.cell 2
  have c9_3 := HX8.out.x.cell 3
  have c9_4 := HX8.out.x.cell 4
  have c9_5 := HX8.out.x.cell 5
  go_wp2_with fail
  refine (HC9.out _ HX8.out).mono ?_
  rintro e w9 ⟨rfl, hb9⟩
  have HX9 := Lib.hid (HX8.out.step hb9)
  clear HC9 hb9
  have HXN := Lib.hid (HX9.out.step (Below.refl _ _).drew)
  obtain ⟨wn, hwn⟩ : ∃ W, w9.drew = W := ⟨_, rfl⟩
  rw [hwn] at HXN
  go_wp2_with fail
  refine wp_region_held_drew (S := Bx14 w S (some ⟨a, of, none⟩) A1 A2 A3 A4 n0 n1 n2 n3 n4 c0 c1 c2 c3 c4 sq) (by kernel_rfl) (by rw [hwn]; exact HXN.out) (fun hHeld => ?_)
  rw [hwn] at hHeld ⊢
  clear hwn
  have HBS := HXN
  refine tk 0 (v := ?_) (fun W hS => ?_) ?_
  rotate_left
  · (go_simp; try with_reducible rfl)
  (try dsimp only [Act.put]); try simp only [pt1, pt2, pt3]
  refine tk 1 (v := ?_) (fun W hS => ?_) ?_
  rotate_left
  · try try dsimp only at hS
    have z0 := hS.x.cell 0
    have z1 := hS.x.cell 1
    have z2 := hS.x.cell 2
    have z3 := hS.x.cell 3
    have z4 := hS.x.cell 4
    have z5 := hS.x.cell 5
    go_simp
    try with_reducible rfl
  (try dsimp only [Act.put]); try simp only [pt1, pt2, pt3]
  refine rdy 2 (fun K hK => ?_)
  have HBS0 := HBS
  go_simp
  refine (HCA.out _ HBS0.out).mono ?_
  rintro e wn ⟨Ac, cc, rfl, hqa, hb⟩
  have HBS := Lib.hid (HBS0.out.step hb)
  have HQA := Lib.hid hqa
  clear hb hqa HBS0
  refine hK.out _ _ HBS.out (fun hHeld => ?_)
  clear hK K
  (try dsimp only [Act.put]); try simp only [pt1, pt2, pt3]
  refine rdy 3 (fun K hK => ?_)
  have HBS0 := HBS
  go_simp
  refine (HRA.out _ Ac cc HQA.out).mono ?_
  rintro e wn ⟨rfl, hb⟩
  have HBS := Lib.hid (HBS0.out.step hb)
  clear hb HBS0 HQA
  refine hK.out _ _ HBS.out (fun hHeld => ?_)
  clear hK K
  (try dsimp only [Act.put]); try simp only [pt1, pt2, pt3]
  refine tk 4 (v := ?_) (fun W hS => ?_) ?_
  rotate_left
  · (go_simp; try with_reducible rfl)
  (try dsimp only [Act.put]); try simp only [pt1, pt2, pt3]
  refine tk 5 (v := ?_) (fun W hS => ?_) ?_
  rotate_left
  · (go_simp; try with_reducible rfl)
  (try dsimp only [Act.put]); try simp only [pt1, pt2, pt3]
  refine tk 6 (v := ?_) (fun W hS => ?_) ?_
  rotate_left
  · (go_simp; try with_reducible rfl)
  (try dsimp only [Act.put]); try simp only [pt1, pt2, pt3]
  refine tk 7 (v := ?_) (fun W hS => ?_) ?_
  rotate_left
  · try try dsimp only at hS
    have z0 := hS.x.cell 2
    go_simp
    try with_reducible rfl
  (try dsimp only [Act.put]); try simp only [pt1, pt2, pt3]
  refine tk 8 (v := ?_) (fun W hS => ?_) ?_
  rotate_left
  · (go_simp; try with_reducible rfl)
  (try dsimp only [Act.put]); try simp only [pt1, pt2, pt3]
  refine tk 9 (v := ?_) (fun W hS => ?_) ?_
  rotate_left
  · try try dsimp only at hS
    have z0 := hS.x.cell 0
    have z1 := hS.x.cell 1
    have z2 := hS.x.cell 2
    have z3 := hS.x.cell 3
    have z4 := hS.x.cell 4
    have z5 := hS.x.cell 5
    go_simp
    try with_reducible rfl
  (try dsimp only [Act.put]); try simp only [pt1, pt2, pt3]
  refine rdy 10 (fun K hK => ?_)
  have HBS0 := HBS
  go_simp
  refine (HCB.out _ HBS0.out).mono ?_
  rintro e wn ⟨Ad, cd, rfl, hqa, hb⟩
  have HBS := Lib.hid (HBS0.out.step hb)
  have HQA := Lib.hid hqa
  clear hb hqa HBS0
  refine hK.out _ _ HBS.out (fun hHeld => ?_)
  clear hK K
  (try dsimp only [Act.put]); try simp only [pt1, pt2, pt3]
  refine rdy 11 (fun K hK => ?_)
  have HBS0 := HBS
  go_simp
  refine (HRB.out _ Ad cd HQA.out).mono ?_
  rintro e wn ⟨rfl, hb⟩
  have HBS := Lib.hid (HBS0.out.step hb)
  clear hb HBS0 HQA
  refine hK.out _ _ HBS.out (fun hHeld => ?_)
  clear hK K
  (try dsimp only [Act.put]); try simp only [pt1, pt2, pt3]
  refine tk 12 (v := ?_) (fun W hS => ?_) ?_
  rotate_left
  · (go_simp; try with_reducible rfl)
  (try dsimp only [Act.put]); try simp only [pt1, pt2, pt3]
  refine tk 13 (v := ?_) (fun W hS => ?_) ?_
  rotate_left
  · (go_simp; try with_reducible rfl)
  (try dsimp only [Act.put]); try simp only [pt1, pt2, pt3]
  refine rdy 14 (fun K hK => ?_)
  go_simp
  refine hK.out _ _ HBS.out (fun hHeld => ?_)
  clear hK K
  (try dsimp only [Act.put]); try simp only [pt1, pt2, pt3]
  refine wpAnyH_done (by kernel_rfl) ?_ _
  clear hHeld
  go_wp2_with fail
  go_ret
  exact ⟨by simp, HBS.out.b⟩
theorem tidyC14 (S : Sv14) (h : 1 ≤ S.C.length) : Tidy14 usC S.C 16 ↔ S.C.length ≤ 16 ∧ gt14 S.C (S.C.length - 1) = true := by
  unfold Tidy14
  rw [en14_full]
  constructor
  · rintro ⟨h1, h2 | h2, _⟩
    · omega
    · exact ⟨h1, h2⟩
  · rintro ⟨h1, h2⟩
    exact ⟨h1, .inr h2, fun j _ hu => hu⟩
theorem used0_14 (S : Sv14) : us14 usC S.C 0 = true ↔ 1 ≤ S.C.length ∧ gt14 S.C 0 = true := by
  have hn : us14 usC S.C ((0 : Nat) : Int) = usC (gt14 S.C 0) := us14_nat _ _ _
  constructor
  · intro h
    have h2 : gt14 S.C 0 = true := hn.symm.trans h
    refine ⟨Classical.byContradiction (fun hl => ?_), h2⟩
    rw [gt14_out (by omega)] at h2
    cases h2
  · rintro ⟨_, h⟩
    exact hn.trans h
theorem rfine14_iff (S : Sv14) : Fine14 S ↔ 1 ≤ S.q ∧ S.q ≤ 1000 ∧ 1 ≤ S.C.length ∧ S.C.length ≤ 16 ∧ gt14 S.C 0 = true ∧ gt14 S.C (S.C.length - 1) = true ∧ RTickets14 S ∧ RThreads14 S ∧ RLocks14 S ∧ Queue14 S ∧ Free14R S.C.length (cArr14 S S.T.length) ∧ Free14R S.H.length (tArr14 S S.H.length) := by
  constructor
  · rintro ⟨h0, h1, ⟨t0, t1, t2, t3⟩, hu, ht, hh, hl, hq, f0, f1⟩
    obtain ⟨h2, h4⟩ := (used0_14 S).1 hu
    obtain ⟨h3, h5⟩ := (tidyC14 S h2).1 t0
    exact ⟨h0, h1, h2, h3, h4, h5, ⟨t1, ht⟩, ⟨t2, hh⟩, ⟨t3, hl⟩, hq, f0, f1⟩
  · rintro ⟨h0, h1, h2, h3, h4, h5, ⟨t1, ht⟩, ⟨t2, hh⟩, ⟨t3, hl⟩, hq, f0, f1⟩
    exact ⟨h0, h1, ⟨(tidyC14 S h2).2 ⟨h3, h5⟩, t1, t2, t3⟩, (used0_14 S).2 ⟨h2, h4⟩, ht, hh, hl, hq, f0, f1⟩
theorem rfine14 (v : Value) (S : Sv14) (b : Bool) (w : World) (h : St14 w v S) (hb0 : b = true ↔ Fine14 S) :
    Calls Try.prog 6 #[v] w fun e w' => e = .returned (.bool b) ∧ Below w.heap.size w w' := by
  have hb := hb0.trans (rfine14_iff S)
  by_cases e0 : 1 ≤ S.q
  case neg =>
    obtain rfl : b = false := bool14_of hb (fun h => e0 h.1)
    exact rfine14_0 v S w h e0
  by_cases e1 : S.q ≤ 1000
  case neg =>
    obtain rfl : b = false := bool14_of hb (fun h => e1 h.2.1)
    exact rfine14_1 v S w h e0 e1
  by_cases e2 : 1 ≤ S.C.length
  case neg =>
    obtain rfl : b = false := bool14_of hb (fun h => e2 h.2.2.1)
    exact rfine14_2 v S w h e0 e1 e2
  by_cases e3 : S.C.length ≤ 16
  case neg =>
    obtain rfl : b = false := bool14_of hb (fun h => e3 h.2.2.2.1)
    exact rfine14_3 v S w h e0 e1 e2 e3
  by_cases e4 : gt14 S.C 0 = true
  case neg =>
    obtain rfl : b = false := bool14_of hb (fun h => e4 h.2.2.2.2.1)
    exact rfine14_4 v S w h e0 e1 e2 e3 e4
  by_cases e5 : gt14 S.C (S.C.length - 1) = true
  case neg =>
    obtain rfl : b = false := bool14_of hb (fun h => e5 h.2.2.2.2.2.1)
    exact rfine14_5 v S w h e0 e1 e2 e3 e4 e5
  by_cases e6 : RTickets14 S
  case neg =>
    obtain rfl : b = false := bool14_of hb (fun h => e6 h.2.2.2.2.2.2.1)
    exact rfine14_6 v S w h e0 e1 e2 e3 e4 e5 e6
  by_cases e7 : RThreads14 S
  case neg =>
    obtain rfl : b = false := bool14_of hb (fun h => e7 h.2.2.2.2.2.2.2.1)
    exact rfine14_7 v S w h e0 e1 e2 e3 e4 e5 e6 e7
  by_cases e8 : RLocks14 S
  case neg =>
    obtain rfl : b = false := bool14_of hb (fun h => e8 h.2.2.2.2.2.2.2.2.1)
    exact rfine14_8 v S w h e0 e1 e2 e3 e4 e5 e6 e7 e8
  by_cases e9 : Queue14 S
  case neg =>
    obtain rfl : b = false := bool14_of hb (fun h => e9 h.2.2.2.2.2.2.2.2.2.1)
    exact rfine14_9 v S w h e0 e1 e2 e3 e4 e5 e6 e7 e8 e9
  by_cases e10 : Free14R S.C.length (cArr14 S S.T.length)
  case neg =>
    obtain rfl : b = false := bool14_of hb (fun h => e10 h.2.2.2.2.2.2.2.2.2.2.1)
    exact rfine14_10 v S w h e0 e1 e2 e3 e4 e5 e6 e7 e8 e9 e10
  exact rfine14_11 v S w h e0 e1 e2 e3 e4 e5 e6 e7 e8 e9 e10 b (by rw [hb]; exact ⟨fun h => h.2.2.2.2.2.2.2.2.2.2.2, fun h => ⟨e0, e1, e2, e3, e4, e5, e6, e7, e8, e9, e10, h⟩⟩)
end Go.Proofs.Ytljpgfnjaagkaaa
namespace Go.Proofs.Ytljpgfnjaagkaaa
open Go.RowKit
set_option maxRecDepth 100000
theorem below15_of {w w' : World} (h : w.grownBy w' none) : Below w.heap.size w w' := (Below.refl _ _).grown h (Nat.le_refl _) (fun r hr => by cases hr)
theorem rd15_two (W : World) : Rd (W.alloc (.cells #[.int .i64 0, .int .i64 1] 3)) (W.alloc (.cells #[.int .i64 0, .int .i64 1] 3)).heap.size (some ⟨W.heap.size, 0, none⟩) [0, 1] := fun _ =>
  ⟨W.heap.size, 0, rfl, by simp, fun k hk => by
    have h := (Blk.new W 3 #[.int .i64 0, .int .i64 1]).cell
    match k, hk with
    | 0, _ => exact h 0
    | 1, _ => exact h 1⟩
theorem rd15_one (W : World) : Rd (W.alloc (.cells #[.int .i64 0] 3)) (W.alloc (.cells #[.int .i64 0] 3)).heap.size (some ⟨W.heap.size, 0, none⟩) [0] := fun _ =>
  ⟨W.heap.size, 0, rfl, by simp, fun k hk => by
    have h := (Blk.new W 3 #[.int .i64 0]).cell
    match k, hk with
    | 0, _ => exact h 0⟩
def exS15 : Sv14 := ⟨[true, true], [⟨true, 0, 1, 2, 1, false⟩], [], [], [], 5⟩
theorem exs15_ca : Ca15 exS15 = [(0, 1)] := by decide +kernel
theorem exs15_us0 : us14 usC exS15.C 0 = true := by decide +kernel
theorem exs15_us1 : us14 usC exS15.C 1 = true := by decide +kernel
theorem exs15_fre : Fre13 [(0, 1)] 2 [] 0 := ⟨by decide, by decide, fun f hf => by simp at hf⟩
theorem exs15_done : Done13 (Ca15 exS15) exS15.C.length [0, 1] := by
  rw [exs15_ca]
  show Done13 [(0, 1)] 2 [0, 1]
  refine ⟨.next (os := [0]) (.next (os := []) .nil exs15_fre (fun j hj => by omega)) ⟨by decide, by decide, fun f hf => ?_⟩ (fun j hj h => ?_), fun i h => ?_⟩
  · simp at hf
    simp [hf]
  · obtain rfl : j = 0 := by omega
    exact h.2.1 (by simp)
  · have h1 := h.1
    have h2 := h.2.1
    simp at h2
    omega
theorem exs15_way : Way [(0, 1)] 0 1 := .one (by simp)
theorem exs15_noway {a b : Nat} (h : Way [(0, 1)] a b) : b = 1 := by
  cases h with
  | one h => simp at h; exact h.2
  | step _ h => simp at h; exact h.2
theorem exs15_f01 : Fnd15 exS15 0 1 := ⟨exs15_us0, exs15_us1, by rw [exs15_ca]; exact exs15_way⟩
theorem exs15_f10 : ¬ Fnd15 exS15 1 0 := fun h => by
  have h1 := h.2.2
  rw [exs15_ca] at h1
  have := exs15_noway h1
  simp at this
theorem exs15_c10 : Clo15 exS15 1 0 := .inr exs15_f01
theorem exs15_c01 : ¬ Clo15 exS15 0 1 := fun h => by
  rcases h with h | h
  · exact absurd h.2 (by decide)
  · exact exs15_f10 h
theorem exs15_ord : ord15 exS15 [0, 1] = [0, 1] := by decide +kernel
theorem exs15_bck : bck15 exS15 1 = [0] := by decide +kernel
theorem exs15_tk : Tickets14 exS15 := fun j hj _ => by
  obtain rfl : j = 0 := by simpa [exS15] using hj
  exact ⟨exs15_us0, by decide, by decide, .inr (.inr ⟨rfl, by decide, exs15_us1⟩)⟩
theorem exs15_own : all11 (ownb15 exS15 0) exS15.C.length = [0, 1] := by
  have h0 : ownb15 exS15 0 0 = true := (ownb15_one (x := 0) exs15_us0).2 (.inl rfl)
  have h1 : ownb15 exS15 0 1 = true := (ownb15_one (x := 1) exs15_us1).2 (.inr ⟨by show bck15 exS15 1 ≠ []; rw [exs15_bck]; simp, fun j hj => by
    have hj' : j ∈ bck15 exS15 1 := hj
    rw [exs15_bck] at hj'
    obtain rfl : j = 0 := by simpa using hj'
    exact ⟨by decide, h0⟩⟩)
  show all11 (ownb15 exS15 0) 2 = [0, 1]
  simp [all11, List.range_succ, h0, h1]
set_option maxHeartbeats 8000000 in
theorem alive15_any (w : World) : Calls Try.prog 7 #[] w fun e w' => e = .returned (.bool true) ∧ Below w.heap.size w w' := by
  have hb1 := b1' w (.cells #[.bool true, .bool true] 4)
  have hk1 := Blk.new w 4 #[.bool true, .bool true]
  have hz1 : (w.alloc (.cells #[.bool true, .bool true] 4)).heap.size = w.heap.size + 1 := by simp
  obtain ⟨wa, hwa⟩ : ∃ W, w.alloc (.cells #[.bool true, .bool true] 4) = W := ⟨_, rfl⟩
  rw [hwa] at hb1 hk1 hz1
  have hb2 := b1' wa (.cells #[.bool true, .int .i64 0, .int .i64 1, .int .i64 2, .int .i64 1, .bool false] 40)
  have hk2 := Blk.new wa 40 #[.bool true, .int .i64 0, .int .i64 1, .int .i64 2, .int .i64 1, .bool false]
  have hz2 : (wa.alloc (.cells #[.bool true, .int .i64 0, .int .i64 1, .int .i64 2, .int .i64 1, .bool false] 40)).heap.size = w.heap.size + 2 := by simp [hz1]
  rw [hz1] at hk2
  obtain ⟨wb, hwb⟩ : ∃ W, wa.alloc (.cells #[.bool true, .int .i64 0, .int .i64 1, .int .i64 2, .int .i64 1, .bool false] 40) = W := ⟨_, rfl⟩
  rw [hwb] at hb2 hk2 hz2
  have hb3 := b1' wb (.cells #[.slice (some ⟨w.heap.size, 0, none⟩) 2 2, .slice (some ⟨w.heap.size + 1, 0, none⟩) 1 1, .slice none 0 0, .slice none 0 0, .slice none 0 0, .int .i64 5] 28)
  have hk3 := Blk.new wb 28 #[.slice (some ⟨w.heap.size, 0, none⟩) 2 2, .slice (some ⟨w.heap.size + 1, 0, none⟩) 1 1, .slice none 0 0, .slice none 0 0, .slice none 0 0, .int .i64 5]
  rw [hz2] at hk3
  obtain ⟨wc, hwc⟩ : ∃ W, wb.alloc (.cells #[.slice (some ⟨w.heap.size, 0, none⟩) 2 2, .slice (some ⟨w.heap.size + 1, 0, none⟩) 1 1, .slice none 0 0, .slice none 0 0, .slice none 0 0, .int .i64 5] 28) = W := ⟨_, rfl⟩
  rw [hwc] at hb3 hk3
  have HB0 : Hid (Below w.heap.size w wc) := Lib.hid ((hb1.trans (hb2.mono (by omega))).trans (hb3.mono (by omega)))
  have HK0 := Lib.hid hk3
  have HS0 : Hid (SA14 wc exS15 (some ⟨w.heap.size, 0, none⟩) (some ⟨w.heap.size + 1, 0, none⟩) none none none 2 1 0 0 0 2 1 0 0 0 5) := Lib.hid (by
    have hc1 := (hk1.below hb2 hk1.lt).below hb3 (by have := hk1.lt; omega)
    have hc2 := hk2.below hb3 hk2.lt
    refine ⟨rfl, rfl, rfl, rfl, rfl, ?_, ?_, Lq.nil _ _ _ _, Lq.nil _ _ _ _, Lq.nil _ _ _ _, by omega, by omega, by omega, by omega, by omega, by omega, by omega, by omega, by omega, by omega, rfl⟩
    · refine fun _ => ⟨w.heap.size, 0, rfl, hc1.lt, fun k v hk => ?_⟩
      rw [Nat.zero_add, hc1.cell]
      rw [show fl14 clC exS15.C = [.bool true, .bool true] from rfl] at hk
      simpa using hk
    · refine fun _ => ⟨w.heap.size + 1, 0, rfl, hc2.lt, fun k v hk => ?_⟩
      rw [Nat.zero_add, hc2.cell]
      rw [show fl14 clT exS15.T = [.bool true, .int .i64 0, .int .i64 1, .int .i64 2, .int .i64 1, .bool false] from rfl] at hk
      simpa using hk)
  have x0 := hk3.cell 0
  have x1 := hk3.cell 1
  have x2 := hk3.cell 2
  have x3 := hk3.cell 3
  have x4 := hk3.cell 4
  have x5 := hk3.cell 5
  clear hb1 hk1 hb2 hk2 hb3 hk3
  have HC0 := Lib.hid (funds15 (.agg #[.slice (some ⟨w.heap.size, 0, none⟩) 2 2, .slice (some ⟨w.heap.size + 1, 0, none⟩) 1 1, .slice none 0 0, .slice none 0 0, .slice none 0 0, .int .i64 5]) exS15 0 1 wc ⟨_, _, _, _, _, _, _, _, _, _, _, _, _, _, _, _, rfl, HS0.out⟩ true (by simp [exs15_f01]))
  go_enter Try.func7, Try.ntmps7
  go_wp2_with fail
  refine HC0.out.mono ?_
  rintro e W1 ⟨rfl, hb⟩
  have HB1 := Lib.hid (HB0.out.trans (hb.mono HB0.out.size))
  have HK1 := Lib.hid (HK0.out.below hb HK0.out.lt)
  have HS1 := Lib.hid (HS0.out.step hb)
  clear HB0 HK0 HS0 hb HC0
  have HC1 := Lib.hid (funds15 (.agg #[.slice (some ⟨w.heap.size, 0, none⟩) 2 2, .slice (some ⟨w.heap.size + 1, 0, none⟩) 1 1, .slice none 0 0, .slice none 0 0, .slice none 0 0, .int .i64 5]) exS15 1 0 W1 ⟨_, _, _, _, _, _, _, _, _, _, _, _, _, _, _, _, rfl, HS1.out⟩ false (by simp [exs15_f10]))
  have y0_0 := HK1.out.cell 0
  have y0_1 := HK1.out.cell 1
  have y0_2 := HK1.out.cell 2
  have y0_3 := HK1.out.cell 3
  have y0_4 := HK1.out.cell 4
  have y0_5 := HK1.out.cell 5
  go_wp2_with fail
  clear y0_0 y0_1 y0_2 y0_3 y0_4 y0_5
  refine HC1.out.mono ?_
  rintro e W2 ⟨rfl, hb⟩
  have HB2 := Lib.hid (HB1.out.trans (hb.mono HB1.out.size))
  have HK2 := Lib.hid (HK1.out.below hb HK1.out.lt)
  have HS2 := Lib.hid (HS1.out.step hb)
  clear HB1 HK1 HS1 hb HC1
  have HC2 := Lib.hid (closes15 (.agg #[.slice (some ⟨w.heap.size, 0, none⟩) 2 2, .slice (some ⟨w.heap.size + 1, 0, none⟩) 1 1, .slice none 0 0, .slice none 0 0, .slice none 0 0, .int .i64 5]) exS15 1 0 W2 ⟨_, _, _, _, _, _, _, _, _, _, _, _, _, _, _, _, rfl, HS2.out⟩ true (by simp [exs15_c10]))
  have y1_0 := HK2.out.cell 0
  have y1_1 := HK2.out.cell 1
  have y1_2 := HK2.out.cell 2
  have y1_3 := HK2.out.cell 3
  have y1_4 := HK2.out.cell 4
  have y1_5 := HK2.out.cell 5
  go_wp2_with fail
  clear y1_0 y1_1 y1_2 y1_3 y1_4 y1_5
  refine HC2.out.mono ?_
  rintro e W3 ⟨rfl, hb⟩
  have HB3 := Lib.hid (HB2.out.trans (hb.mono HB2.out.size))
  have HK3 := Lib.hid (HK2.out.below hb HK2.out.lt)
  have HS3 := Lib.hid (HS2.out.step hb)
  clear HB2 HK2 HS2 hb HC2
  have HC3 := Lib.hid (closes15 (.agg #[.slice (some ⟨w.heap.size, 0, none⟩) 2 2, .slice (some ⟨w.heap.size + 1, 0, none⟩) 1 1, .slice none 0 0, .slice none 0 0, .slice none 0 0, .int .i64 5]) exS15 0 1 W3 ⟨_, _, _, _, _, _, _, _, _, _, _, _, _, _, _, _, rfl, HS3.out⟩ false (by simp [exs15_c01]))
  have y2_0 := HK3.out.cell 0
  have y2_1 := HK3.out.cell 1
  have y2_2 := HK3.out.cell 2
  have y2_3 := HK3.out.cell 3
  have y2_4 := HK3.out.cell 4
  have y2_5 := HK3.out.cell 5
  go_wp2_with fail
  clear y2_0 y2_1 y2_2 y2_3 y2_4 y2_5
  refine HC3.out.mono ?_
  rintro e W4 ⟨rfl, hb⟩
  have HB4 := Lib.hid (HB3.out.trans (hb.mono HB3.out.size))
  have HK4 := Lib.hid (HK3.out.below hb HK3.out.lt)
  have HS4 := Lib.hid (HS3.out.step hb)
  clear HB3 HK3 HS3 hb HC3
  have HC4 := Lib.hid (order15 (.agg #[.slice (some ⟨w.heap.size, 0, none⟩) 2 2, .slice (some ⟨w.heap.size + 1, 0, none⟩) 1 1, .slice none 0 0, .slice none 0 0, .slice none 0 0, .int .i64 5]) exS15 [0, 1] W4 ⟨_, _, _, _, _, _, _, _, _, _, _, _, _, _, _, _, rfl, HS4.out⟩ exs15_done rfl)
  have y3_0 := HK4.out.cell 0
  have y3_1 := HK4.out.cell 1
  have y3_2 := HK4.out.cell 2
  have y3_3 := HK4.out.cell 3
  have y3_4 := HK4.out.cell 4
  have y3_5 := HK4.out.cell 5
  go_wp2_with fail
  clear y3_0 y3_1 y3_2 y3_3 y3_4 y3_5
  refine HC4.out.mono ?_
  rintro e wd ⟨Aa, ca, rfl, hr, hbd⟩
  rw [exs15_ord] at hr ⊢
  have hbe := hbd.trans ((b1' wd (.cells #[.int .i64 0, .int .i64 1] 3)).mono hbd.size)
  have HRA : Hid (Rd (wd.alloc (.cells #[.int .i64 0, .int .i64 1] 3)) (wd.alloc (.cells #[.int .i64 0, .int .i64 1] 3)).heap.size Aa [0, 1]) := Lib.hid ((hr.alloc (Nat.le_refl _) _).more (by simp))
  have HRB := Lib.hid (rd15_two wd)
  have HBE := Lib.hid hbe
  clear HC4 hr hbd hbe
  go_wp2_with fail
  refine (rints11_yes Aa (some ⟨wd.heap.size, 0, none⟩) [0, 1] 2 ca 2 _ rfl HRA.out HRB.out (by omega)).mono ?_
  rintro e W5 ⟨rfl, hg⟩
  have hb := HBE.out.trans ((below15_of hg).mono HBE.out.size)
  clear hg HRA HRB HBE
  have HB5 := Lib.hid (HB4.out.trans (hb.mono HB4.out.size))
  have HK5 := Lib.hid (HK4.out.below hb HK4.out.lt)
  have HS5 := Lib.hid (HS4.out.step hb)
  clear HB4 HK4 HS4 hb
  have HC5 := Lib.hid (backing15 (.agg #[.slice (some ⟨w.heap.size, 0, none⟩) 2 2, .slice (some ⟨w.heap.size + 1, 0, none⟩) 1 1, .slice none 0 0, .slice none 0 0, .slice none 0 0, .int .i64 5]) exS15 1 W5 ⟨_, _, _, _, _, _, _, _, _, _, _, _, _, _, _, _, rfl, HS5.out⟩)
  have y4_0 := HK5.out.cell 0
  have y4_1 := HK5.out.cell 1
  have y4_2 := HK5.out.cell 2
  have y4_3 := HK5.out.cell 3
  have y4_4 := HK5.out.cell 4
  have y4_5 := HK5.out.cell 5
  go_wp2_with fail
  clear y4_0 y4_1 y4_2 y4_3 y4_4 y4_5
  refine HC5.out.mono ?_
  rintro e wd ⟨Aa, ca, rfl, hr, hbd⟩
  rw [exs15_bck] at hr ⊢
  have hbe := hbd.trans ((b1' wd (.cells #[.int .i64 0] 3)).mono hbd.size)
  have HRA : Hid (Rd (wd.alloc (.cells #[.int .i64 0] 3)) (wd.alloc (.cells #[.int .i64 0] 3)).heap.size Aa [0]) := Lib.hid ((hr.alloc (Nat.le_refl _) _).more (by simp))
  have HRB := Lib.hid (rd15_one wd)
  have HBE := Lib.hid hbe
  clear HC5 hr hbd hbe
  go_wp2_with fail
  refine (rints11_yes Aa (some ⟨wd.heap.size, 0, none⟩) [0] 1 ca 1 _ rfl HRA.out HRB.out (by omega)).mono ?_
  rintro e W6 ⟨rfl, hg⟩
  have hb := HBE.out.trans ((below15_of hg).mono HBE.out.size)
  clear hg HRA HRB HBE
  have HB6 := Lib.hid (HB5.out.trans (hb.mono HB5.out.size))
  have HK6 := Lib.hid (HK5.out.below hb HK5.out.lt)
  have HS6 := Lib.hid (HS5.out.step hb)
  clear HB5 HK5 HS5 hb
  have HC6 := Lib.hid (own15 (.agg #[.slice (some ⟨w.heap.size, 0, none⟩) 2 2, .slice (some ⟨w.heap.size + 1, 0, none⟩) 1 1, .slice none 0 0, .slice none 0 0, .slice none 0 0, .int .i64 5]) exS15 0 [0, 1] W6 ⟨_, _, _, _, _, _, _, _, _, _, _, _, _, _, _, _, rfl, HS6.out⟩ exs15_tk exs15_done rfl)
  have y5_0 := HK6.out.cell 0
  have y5_1 := HK6.out.cell 1
  have y5_2 := HK6.out.cell 2
  have y5_3 := HK6.out.cell 3
  have y5_4 := HK6.out.cell 4
  have y5_5 := HK6.out.cell 5
  go_wp2_with fail
  clear y5_0 y5_1 y5_2 y5_3 y5_4 y5_5
  refine HC6.out.mono ?_
  rintro e wd ⟨Aa, ca, rfl, hr, hbd⟩
  rw [exs15_own] at hr ⊢
  have hbe := hbd.trans ((b1' wd (.cells #[.int .i64 0, .int .i64 1] 3)).mono hbd.size)
  have HRA : Hid (Rd (wd.alloc (.cells #[.int .i64 0, .int .i64 1] 3)) (wd.alloc (.cells #[.int .i64 0, .int .i64 1] 3)).heap.size Aa [0, 1]) := Lib.hid ((hr.alloc (Nat.le_refl _) _).more (by simp))
  have HRB := Lib.hid (rd15_two wd)
  have HBE := Lib.hid hbe
  clear HC6 hr hbd hbe
  go_wp2_with fail
  refine (rints11_yes Aa (some ⟨wd.heap.size, 0, none⟩) [0, 1] 2 ca 2 _ rfl HRA.out HRB.out (by omega)).mono ?_
  rintro e W7 ⟨rfl, hg⟩
  have hb := HBE.out.trans ((below15_of hg).mono HBE.out.size)
  clear hg HRA HRB HBE
  have HB7 := Lib.hid (HB6.out.trans (hb.mono HB6.out.size))
  have HK7 := Lib.hid (HK6.out.below hb HK6.out.lt)
  have HS7 := Lib.hid (HS6.out.step hb)
  clear HB6 HK6 HS6 hb
  go_wp2_with fail
  go_ret
  exact ⟨rfl, HB7.out⟩
end Go.Proofs.Ytljpgfnjaagkaaa
