/-
  SaidLiveOff, part 13 of 15: what the theorem liveOff_holds reaches.
-/
import Derived.Test.YtllcmjdfgbiijaaLO12
namespace Go.Proofs.Ytllcmjdfgbiijaa
open Go.RowKit
set_option maxRecDepth 100000
theorem rdring14 (n : Nat) (hn : n ≤ 4096) (Ad : Option Addr) (l : List (Int × Int)) (c : Nat) (b : Bool) (w : World) (hr : Aq w w.heap.size Ad l) (hm : l.length ≤ 1000000) (hb : b = true ↔ Free14R n l) :
    Calls Try.prog 25 #[.int .i64 (n : Int), .slice Ad l.length c] w fun e w' => e = .returned (.bool (!b)) ∧ Below w.heap.size w w' := by
  obtain ⟨os, hd⟩ := done13_ex (cut13 n l) n
  have h := rring13_any n Ad l l.length c os w rfl hr hm (by omega) hd
  rwa [show decide (os.length = n) = b by rw [Bool.eq_iff_iff, decide_eq_true_iff, hb, free14R_iff hd]] at h
set_option maxHeartbeats 4000000 in
theorem rfine14_0 (v : Value) (S : Sv14) (w : World) (h : St14 w v S) (ne : ¬ 1 ≤ S.q) :
    Calls Try.prog 7 #[v] w fun e w' => e = .returned (.bool false) ∧ Below w.heap.size w w' := by
  obtain ⟨A0, A1, A2, A3, A4, n0, n1, n2, n3, n4, c0, c1, c2, c3, c4, sq, rfl, hs⟩ := h
  have HX := Lib.hid (Bx14.new hs)
  have hl0 := hs.l0
  have hl2 := hs.l2
  have hl1 := hs.l1
  have hm0 := hs.m0
  have hm1 := hs.m1
  have hm2 := hs.m2
  obtain ⟨W1, hW1⟩ : ∃ W, w.alloc (.cells #[.slice A0 n0 c0, .slice A1 n1 c1, .slice A2 n2 c2, .slice A3 n3 c3, .slice A4 n4 c4, .int .i64 sq] 28) = W := ⟨_, rfl⟩
  rw [hW1] at HX
  have q0 := HX.out.x.cell 0
  have q5 := HX.out.x.cell 5
  have g0 : sq < 1 := by rw [← hs.e]; omega
  clear hs ne hl0 hl1 hl2 hm0 hm1 hm2
  go_enter Try.func7, Try.ntmps7
  go_wp2_with fail
  go_ret
  exact ⟨rfl, HX.out.b⟩
set_option maxHeartbeats 4000000 in
theorem rfine14_1 (v : Value) (S : Sv14) (w : World) (h : St14 w v S) (e0 : 1 ≤ S.q) (ne : ¬ S.q ≤ 1000) :
    Calls Try.prog 7 #[v] w fun e w' => e = .returned (.bool false) ∧ Below w.heap.size w w' := by
  obtain ⟨A0, A1, A2, A3, A4, n0, n1, n2, n3, n4, c0, c1, c2, c3, c4, sq, rfl, hs⟩ := h
  have HX := Lib.hid (Bx14.new hs)
  have hl0 := hs.l0
  have hl2 := hs.l2
  have hl1 := hs.l1
  have hm0 := hs.m0
  have hm1 := hs.m1
  have hm2 := hs.m2
  obtain ⟨W1, hW1⟩ : ∃ W, w.alloc (.cells #[.slice A0 n0 c0, .slice A1 n1 c1, .slice A2 n2 c2, .slice A3 n3 c3, .slice A4 n4 c4, .int .i64 sq] 28) = W := ⟨_, rfl⟩
  rw [hW1] at HX
  have q0 := HX.out.x.cell 0
  have q5 := HX.out.x.cell 5
  have g0 : ¬ sq < 1 := by rw [← hs.e]; omega
  have g1 : 1000 < sq := by rw [← hs.e]; omega
  clear hs e0 ne hl0 hl1 hl2 hm0 hm1 hm2
  go_enter Try.func7, Try.ntmps7
  go_wp2_with fail
  go_ret
  exact ⟨rfl, HX.out.b⟩
set_option maxHeartbeats 4000000 in
theorem rfine14_2 (v : Value) (S : Sv14) (w : World) (h : St14 w v S) (e0 : 1 ≤ S.q) (e1 : S.q ≤ 1000) (ne : ¬ 1 ≤ S.C.length) :
    Calls Try.prog 7 #[v] w fun e w' => e = .returned (.bool false) ∧ Below w.heap.size w w' := by
  obtain ⟨A0, A1, A2, A3, A4, n0, n1, n2, n3, n4, c0, c1, c2, c3, c4, sq, rfl, hs⟩ := h
  have HX := Lib.hid (Bx14.new hs)
  have hl0 := hs.l0
  have hl2 := hs.l2
  have hl1 := hs.l1
  have hm0 := hs.m0
  have hm1 := hs.m1
  have hm2 := hs.m2
  obtain ⟨W1, hW1⟩ : ∃ W, w.alloc (.cells #[.slice A0 n0 c0, .slice A1 n1 c1, .slice A2 n2 c2, .slice A3 n3 c3, .slice A4 n4 c4, .int .i64 sq] 28) = W := ⟨_, rfl⟩
  rw [hW1] at HX
  have q0 := HX.out.x.cell 0
  have q5 := HX.out.x.cell 5
  have g0 : ¬ sq < 1 := by rw [← hs.e]; omega
  have g1 : ¬ 1000 < sq := by rw [← hs.e]; omega
  have g2 : (n0 : Int) < 1 := by rw [← hl0]; omega
  clear hs e0 e1 ne hl0 hl1 hl2 hm0 hm1 hm2
  go_enter Try.func7, Try.ntmps7
  go_wp2_with fail
  go_ret
  exact ⟨rfl, HX.out.b⟩
set_option maxHeartbeats 4000000 in
theorem rfine14_3 (v : Value) (S : Sv14) (w : World) (h : St14 w v S) (e0 : 1 ≤ S.q) (e1 : S.q ≤ 1000) (e2 : 1 ≤ S.C.length) (ne : ¬ S.C.length ≤ 16) :
    Calls Try.prog 7 #[v] w fun e w' => e = .returned (.bool false) ∧ Below w.heap.size w w' := by
  obtain ⟨A0, A1, A2, A3, A4, n0, n1, n2, n3, n4, c0, c1, c2, c3, c4, sq, rfl, hs⟩ := h
  have HX := Lib.hid (Bx14.new hs)
  have hl0 := hs.l0
  have hl2 := hs.l2
  have hl1 := hs.l1
  have hm0 := hs.m0
  have hm1 := hs.m1
  have hm2 := hs.m2
  obtain ⟨W1, hW1⟩ : ∃ W, w.alloc (.cells #[.slice A0 n0 c0, .slice A1 n1 c1, .slice A2 n2 c2, .slice A3 n3 c3, .slice A4 n4 c4, .int .i64 sq] 28) = W := ⟨_, rfl⟩
  rw [hW1] at HX
  have q0 := HX.out.x.cell 0
  have q5 := HX.out.x.cell 5
  have g0 : ¬ sq < 1 := by rw [← hs.e]; omega
  have g1 : ¬ 1000 < sq := by rw [← hs.e]; omega
  have g2 : ¬ (n0 : Int) < 1 := by rw [← hl0]; omega
  have g3 : 16 < (n0 : Int) := by rw [← hl0]; omega
  clear hs e0 e1 e2 ne hl0 hl1 hl2 hm0 hm1 hm2
  go_enter Try.func7, Try.ntmps7
  go_wp2_with fail
  go_ret
  exact ⟨rfl, HX.out.b⟩
set_option maxHeartbeats 4000000 in
theorem rfine14_4 (v : Value) (S : Sv14) (w : World) (h : St14 w v S) (e0 : 1 ≤ S.q) (e1 : S.q ≤ 1000) (e2 : 1 ≤ S.C.length) (e3 : S.C.length ≤ 16) (ne : ¬ gt14 S.C 0 = true) :
    Calls Try.prog 7 #[v] w fun e w' => e = .returned (.bool false) ∧ Below w.heap.size w w' := by
  obtain ⟨A0, A1, A2, A3, A4, n0, n1, n2, n3, n4, c0, c1, c2, c3, c4, sq, rfl, hs⟩ := h
  have HX := Lib.hid (Bx14.new hs)
  have hl0 := hs.l0
  have hl2 := hs.l2
  have hl1 := hs.l1
  have hm0 := hs.m0
  have hm1 := hs.m1
  have hm2 := hs.m2
  obtain ⟨W1, hW1⟩ : ∃ W, w.alloc (.cells #[.slice A0 n0 c0, .slice A1 n1 c1, .slice A2 n2 c2, .slice A3 n3 c3, .slice A4 n4 c4, .int .i64 sq] 28) = W := ⟨_, rfl⟩
  rw [hW1] at HX
  have q0 := HX.out.x.cell 0
  have q5 := HX.out.x.cell 5
  have g0 : ¬ sq < 1 := by rw [← hs.e]; omega
  have g1 : ¬ 1000 < sq := by rw [← hs.e]; omega
  have g2 : ¬ (n0 : Int) < 1 := by rw [← hl0]; omega
  have g3 : ¬ 16 < (n0 : Int) := by rw [← hl0]; omega
  obtain ⟨q, hq0⟩ : ∃ q, n0 = q + 1 := ⟨n0 - 1, by omega⟩
  obtain ⟨a, of, hA, hab, hq⟩ := Lq.at_ len14C (by omega) HX.out.s.r0 (show q < S.C.length by omega)
  obtain ⟨a', of', hA', hab', hq'⟩ := Lq.at_ len14C (by omega) HX.out.s.r0 (show 0 < S.C.length by omega)
  rw [hA] at hA'
  injection hA' with hA'
  injection hA' with ha2 ho2
  subst ha2 ho2
  obtain ⟨x0, hx0⟩ : ∃ x, gt14 S.C 0 = x := ⟨_, rfl⟩
  obtain ⟨x1, hx1⟩ : ∃ x, gt14 S.C q = x := ⟨_, rfl⟩
  rw [hx1] at hq
  rw [hx0] at hq'
  have f0 : W1.cell? ⟨a, of, none⟩ = some (.bool x0) := by have h := hq' 0 _ rfl; rwa [Nat.mul_one] at h
  have f1 : W1.cell? ⟨a, of + q, none⟩ = some (.bool x1) := by have h := hq 0 _ rfl; rwa [Nat.mul_one] at h
  have hw : IntKind.i64.wrap ((n0 : Int) - 1) = (q : Int) := by rw [IntKind.wrap_i64]; omega
  have i0 : (0 : Int) ≤ (q : Int) := by omega
  have i1 : (q : Int) < (n0 : Int) := by omega
  have i2 : (0 : Int) < (n0 : Int) := by omega
  obtain rfl : x0 = false := by rw [← hx0]; simpa using ne
  clear hq hq' hx0 hx1 hab hab'
  clear hs e0 e1 e2 e3 ne hl0 hl1 hl2 hm0 hm1 hm2 hq0
  have HA := Lib.hid hA
  subst hA
  go_enter Try.func7, Try.ntmps7
  go_wp2_with fail
  go_ret
  exact ⟨rfl, HX.out.b⟩
set_option maxHeartbeats 4000000 in
theorem rfine14_5 (v : Value) (S : Sv14) (w : World) (h : St14 w v S) (e0 : 1 ≤ S.q) (e1 : S.q ≤ 1000) (e2 : 1 ≤ S.C.length) (e3 : S.C.length ≤ 16) (e4 : gt14 S.C 0 = true) (ne : ¬ gt14 S.C (S.C.length - 1) = true) :
    Calls Try.prog 7 #[v] w fun e w' => e = .returned (.bool false) ∧ Below w.heap.size w w' := by
  obtain ⟨A0, A1, A2, A3, A4, n0, n1, n2, n3, n4, c0, c1, c2, c3, c4, sq, rfl, hs⟩ := h
  have HX := Lib.hid (Bx14.new hs)
  have hl0 := hs.l0
  have hl2 := hs.l2
  have hl1 := hs.l1
  have hm0 := hs.m0
  have hm1 := hs.m1
  have hm2 := hs.m2
  obtain ⟨W1, hW1⟩ : ∃ W, w.alloc (.cells #[.slice A0 n0 c0, .slice A1 n1 c1, .slice A2 n2 c2, .slice A3 n3 c3, .slice A4 n4 c4, .int .i64 sq] 28) = W := ⟨_, rfl⟩
  rw [hW1] at HX
  have q0 := HX.out.x.cell 0
  have q5 := HX.out.x.cell 5
  have g0 : ¬ sq < 1 := by rw [← hs.e]; omega
  have g1 : ¬ 1000 < sq := by rw [← hs.e]; omega
  have g2 : ¬ (n0 : Int) < 1 := by rw [← hl0]; omega
  have g3 : ¬ 16 < (n0 : Int) := by rw [← hl0]; omega
  obtain ⟨q, hq0⟩ : ∃ q, n0 = q + 1 := ⟨n0 - 1, by omega⟩
  obtain ⟨a, of, hA, hab, hq⟩ := Lq.at_ len14C (by omega) HX.out.s.r0 (show q < S.C.length by omega)
  obtain ⟨a', of', hA', hab', hq'⟩ := Lq.at_ len14C (by omega) HX.out.s.r0 (show 0 < S.C.length by omega)
  rw [hA] at hA'
  injection hA' with hA'
  injection hA' with ha2 ho2
  subst ha2 ho2
  obtain ⟨x0, hx0⟩ : ∃ x, gt14 S.C 0 = x := ⟨_, rfl⟩
  obtain ⟨x1, hx1⟩ : ∃ x, gt14 S.C q = x := ⟨_, rfl⟩
  rw [hx1] at hq
  rw [hx0] at hq'
  have f0 : W1.cell? ⟨a, of, none⟩ = some (.bool x0) := by have h := hq' 0 _ rfl; rwa [Nat.mul_one] at h
  have f1 : W1.cell? ⟨a, of + q, none⟩ = some (.bool x1) := by have h := hq 0 _ rfl; rwa [Nat.mul_one] at h
  have hw : IntKind.i64.wrap ((n0 : Int) - 1) = (q : Int) := by rw [IntKind.wrap_i64]; omega
  have i0 : (0 : Int) ≤ (q : Int) := by omega
  have i1 : (q : Int) < (n0 : Int) := by omega
  have i2 : (0 : Int) < (n0 : Int) := by omega
  obtain rfl : x0 = true := by rw [← hx0]; simpa using e4
  obtain rfl : x1 = false := by rw [← hx1, show q = S.C.length - 1 by omega]; simpa using ne
  clear hq hq' hx0 hx1 hab hab'
  clear hs e0 e1 e2 e3 e4 ne hl0 hl1 hl2 hm0 hm1 hm2 hq0
  have HA := Lib.hid hA
  subst hA
  go_enter Try.func7, Try.ntmps7
  go_wp2_with fail
  go_ret
  exact ⟨rfl, HX.out.b⟩
set_option maxHeartbeats 4000000 in
theorem rfine14_6 (v : Value) (S : Sv14) (w : World) (h : St14 w v S) (e0 : 1 ≤ S.q) (e1 : S.q ≤ 1000) (e2 : 1 ≤ S.C.length) (e3 : S.C.length ≤ 16) (e4 : gt14 S.C 0 = true) (e5 : gt14 S.C (S.C.length - 1) = true) (ne : ¬ RTickets14 S) :
    Calls Try.prog 7 #[v] w fun e w' => e = .returned (.bool false) ∧ Below w.heap.size w w' := by
  obtain ⟨A0, A1, A2, A3, A4, n0, n1, n2, n3, n4, c0, c1, c2, c3, c4, sq, rfl, hs⟩ := h
  have HX := Lib.hid (Bx14.new hs)
  have hl0 := hs.l0
  have hl2 := hs.l2
  have hl1 := hs.l1
  have hm0 := hs.m0
  have hm1 := hs.m1
  have hm2 := hs.m2
  obtain ⟨W1, hW1⟩ : ∃ W, w.alloc (.cells #[.slice A0 n0 c0, .slice A1 n1 c1, .slice A2 n2 c2, .slice A3 n3 c3, .slice A4 n4 c4, .int .i64 sq] 28) = W := ⟨_, rfl⟩
  rw [hW1] at HX
  have q0 := HX.out.x.cell 0
  have q5 := HX.out.x.cell 5
  have g0 : ¬ sq < 1 := by rw [← hs.e]; omega
  have g1 : ¬ 1000 < sq := by rw [← hs.e]; omega
  have g2 : ¬ (n0 : Int) < 1 := by rw [← hl0]; omega
  have g3 : ¬ 16 < (n0 : Int) := by rw [← hl0]; omega
  obtain ⟨q, hq0⟩ : ∃ q, n0 = q + 1 := ⟨n0 - 1, by omega⟩
  obtain ⟨a, of, hA, hab, hq⟩ := Lq.at_ len14C (by omega) HX.out.s.r0 (show q < S.C.length by omega)
  obtain ⟨a', of', hA', hab', hq'⟩ := Lq.at_ len14C (by omega) HX.out.s.r0 (show 0 < S.C.length by omega)
  rw [hA] at hA'
  injection hA' with hA'
  injection hA' with ha2 ho2
  subst ha2 ho2
  obtain ⟨x0, hx0⟩ : ∃ x, gt14 S.C 0 = x := ⟨_, rfl⟩
  obtain ⟨x1, hx1⟩ : ∃ x, gt14 S.C q = x := ⟨_, rfl⟩
  rw [hx1] at hq
  rw [hx0] at hq'
  have f0 : W1.cell? ⟨a, of, none⟩ = some (.bool x0) := by have h := hq' 0 _ rfl; rwa [Nat.mul_one] at h
  have f1 : W1.cell? ⟨a, of + q, none⟩ = some (.bool x1) := by have h := hq 0 _ rfl; rwa [Nat.mul_one] at h
  have hw : IntKind.i64.wrap ((n0 : Int) - 1) = (q : Int) := by rw [IntKind.wrap_i64]; omega
  have i0 : (0 : Int) ≤ (q : Int) := by omega
  have i1 : (q : Int) < (n0 : Int) := by omega
  have i2 : (0 : Int) < (n0 : Int) := by omega
  obtain rfl : x0 = true := by rw [← hx0]; simpa using e4
  obtain rfl : x1 = true := by rw [← hx1, show q = S.C.length - 1 by omega]; simpa using e5
  clear hq hq' hx0 hx1 hab hab'
  have HC6 := Lib.hid (fun W (h : Bx14 w S A0 A1 A2 A3 A4 n0 n1 n2 n3 n4 c0 c1 c2 c3 c4 sq W) => rtickets14 _ S false W h.st (by simp [ne]))
  clear hs e0 e1 e2 e3 e4 e5 ne hl0 hl1 hl2 hm0 hm1 hm2 hq0
  have HA := Lib.hid hA
  subst hA
  go_enter Try.func7, Try.ntmps7
  have c6_0 := HX.out.x.cell 0
  have c6_1 := HX.out.x.cell 1
  have c6_2 := HX.out.x.cell 2
  have c6_3 := HX.out.x.cell 3
  have c6_4 := HX.out.x.cell 4
  have c6_5 := HX.out.x.cell 5
  go_wp2_with fail
  refine (HC6.out _ HX.out).mono ?_
  rintro e w6 ⟨rfl, hb6⟩
  have HX6 := Lib.hid (HX.out.step hb6)
  clear HC6 hb6
  go_wp2_with fail
  go_ret
  exact ⟨rfl, HX6.out.b⟩
set_option maxHeartbeats 4000000 in
theorem rfine14_7 (v : Value) (S : Sv14) (w : World) (h : St14 w v S) (e0 : 1 ≤ S.q) (e1 : S.q ≤ 1000) (e2 : 1 ≤ S.C.length) (e3 : S.C.length ≤ 16) (e4 : gt14 S.C 0 = true) (e5 : gt14 S.C (S.C.length - 1) = true) (e6 : RTickets14 S) (ne : ¬ RThreads14 S) :
    Calls Try.prog 7 #[v] w fun e w' => e = .returned (.bool false) ∧ Below w.heap.size w w' := by
  obtain ⟨A0, A1, A2, A3, A4, n0, n1, n2, n3, n4, c0, c1, c2, c3, c4, sq, rfl, hs⟩ := h
  have HX := Lib.hid (Bx14.new hs)
  have hl0 := hs.l0
  have hl2 := hs.l2
  have hl1 := hs.l1
  have hm0 := hs.m0
  have hm1 := hs.m1
  have hm2 := hs.m2
  obtain ⟨W1, hW1⟩ : ∃ W, w.alloc (.cells #[.slice A0 n0 c0, .slice A1 n1 c1, .slice A2 n2 c2, .slice A3 n3 c3, .slice A4 n4 c4, .int .i64 sq] 28) = W := ⟨_, rfl⟩
  rw [hW1] at HX
  have q0 := HX.out.x.cell 0
  have q5 := HX.out.x.cell 5
  have g0 : ¬ sq < 1 := by rw [← hs.e]; omega
  have g1 : ¬ 1000 < sq := by rw [← hs.e]; omega
  have g2 : ¬ (n0 : Int) < 1 := by rw [← hl0]; omega
  have g3 : ¬ 16 < (n0 : Int) := by rw [← hl0]; omega
  obtain ⟨q, hq0⟩ : ∃ q, n0 = q + 1 := ⟨n0 - 1, by omega⟩
  obtain ⟨a, of, hA, hab, hq⟩ := Lq.at_ len14C (by omega) HX.out.s.r0 (show q < S.C.length by omega)
  obtain ⟨a', of', hA', hab', hq'⟩ := Lq.at_ len14C (by omega) HX.out.s.r0 (show 0 < S.C.length by omega)
  rw [hA] at hA'
  injection hA' with hA'
  injection hA' with ha2 ho2
  subst ha2 ho2
  obtain ⟨x0, hx0⟩ : ∃ x, gt14 S.C 0 = x := ⟨_, rfl⟩
  obtain ⟨x1, hx1⟩ : ∃ x, gt14 S.C q = x := ⟨_, rfl⟩
  rw [hx1] at hq
  rw [hx0] at hq'
  have f0 : W1.cell? ⟨a, of, none⟩ = some (.bool x0) := by have h := hq' 0 _ rfl; rwa [Nat.mul_one] at h
  have f1 : W1.cell? ⟨a, of + q, none⟩ = some (.bool x1) := by have h := hq 0 _ rfl; rwa [Nat.mul_one] at h
  have hw : IntKind.i64.wrap ((n0 : Int) - 1) = (q : Int) := by rw [IntKind.wrap_i64]; omega
  have i0 : (0 : Int) ≤ (q : Int) := by omega
  have i1 : (q : Int) < (n0 : Int) := by omega
  have i2 : (0 : Int) < (n0 : Int) := by omega
  obtain rfl : x0 = true := by rw [← hx0]; simpa using e4
  obtain rfl : x1 = true := by rw [← hx1, show q = S.C.length - 1 by omega]; simpa using e5
  clear hq hq' hx0 hx1 hab hab'
  have HC6 := Lib.hid (fun W (h : Bx14 w S A0 A1 A2 A3 A4 n0 n1 n2 n3 n4 c0 c1 c2 c3 c4 sq W) => rtickets14 _ S true W h.st (by simp [e6]))
  have HC7 := Lib.hid (fun W (h : Bx14 w S A0 A1 A2 A3 A4 n0 n1 n2 n3 n4 c0 c1 c2 c3 c4 sq W) => rthreads14 _ S false W h.st (by simp [ne]))
  clear hs e0 e1 e2 e3 e4 e5 e6 ne hl0 hl1 hl2 hm0 hm1 hm2 hq0
  have HA := Lib.hid hA
  subst hA
  go_enter Try.func7, Try.ntmps7
  have c6_0 := HX.out.x.cell 0
  have c6_1 := HX.out.x.cell 1
  have c6_2 := HX.out.x.cell 2
  have c6_3 := HX.out.x.cell 3
  have c6_4 := HX.out.x.cell 4
  have c6_5 := HX.out.x.cell 5
  go_wp2_with fail
  refine (HC6.out _ HX.out).mono ?_
  rintro e w6 ⟨rfl, hb6⟩
  have HX6 := Lib.hid (HX.out.step hb6)
  clear HC6 hb6
  have c7_0 := HX6.out.x.cell 0
  have c7_1 := HX6.out.x.cell 1
  have c7_2 := HX6.out.x.cell 2
  have c7_3 := HX6.out.x.cell 3
  have c7_4 := HX6.out.x.cell 4
  have c7_5 := HX6.out.x.cell 5
  go_wp2_with fail
  refine (HC7.out _ HX6.out).mono ?_
  rintro e w7 ⟨rfl, hb7⟩
  have HX7 := Lib.hid (HX6.out.step hb7)
  clear HC7 hb7
  go_wp2_with fail
  go_ret
  exact ⟨rfl, HX7.out.b⟩
set_option maxHeartbeats 4000000 in
theorem rfine14_8 (v : Value) (S : Sv14) (w : World) (h : St14 w v S) (e0 : 1 ≤ S.q) (e1 : S.q ≤ 1000) (e2 : 1 ≤ S.C.length) (e3 : S.C.length ≤ 16) (e4 : gt14 S.C 0 = true) (e5 : gt14 S.C (S.C.length - 1) = true) (e6 : RTickets14 S) (e7 : RThreads14 S) (ne : ¬ RLocks14 S) :
    Calls Try.prog 7 #[v] w fun e w' => e = .returned (.bool false) ∧ Below w.heap.size w w' := by
  obtain ⟨A0, A1, A2, A3, A4, n0, n1, n2, n3, n4, c0, c1, c2, c3, c4, sq, rfl, hs⟩ := h
  have HX := Lib.hid (Bx14.new hs)
  have hl0 := hs.l0
  have hl2 := hs.l2
  have hl1 := hs.l1
  have hm0 := hs.m0
  have hm1 := hs.m1
  have hm2 := hs.m2
  obtain ⟨W1, hW1⟩ : ∃ W, w.alloc (.cells #[.slice A0 n0 c0, .slice A1 n1 c1, .slice A2 n2 c2, .slice A3 n3 c3, .slice A4 n4 c4, .int .i64 sq] 28) = W := ⟨_, rfl⟩
  rw [hW1] at HX
  have q0 := HX.out.x.cell 0
  have q5 := HX.out.x.cell 5
  have g0 : ¬ sq < 1 := by rw [← hs.e]; omega
  have g1 : ¬ 1000 < sq := by rw [← hs.e]; omega
  have g2 : ¬ (n0 : Int) < 1 := by rw [← hl0]; omega
  have g3 : ¬ 16 < (n0 : Int) := by rw [← hl0]; omega
  obtain ⟨q, hq0⟩ : ∃ q, n0 = q + 1 := ⟨n0 - 1, by omega⟩
  obtain ⟨a, of, hA, hab, hq⟩ := Lq.at_ len14C (by omega) HX.out.s.r0 (show q < S.C.length by omega)
  obtain ⟨a', of', hA', hab', hq'⟩ := Lq.at_ len14C (by omega) HX.out.s.r0 (show 0 < S.C.length by omega)
  rw [hA] at hA'
  injection hA' with hA'
  injection hA' with ha2 ho2
  subst ha2 ho2
  obtain ⟨x0, hx0⟩ : ∃ x, gt14 S.C 0 = x := ⟨_, rfl⟩
  obtain ⟨x1, hx1⟩ : ∃ x, gt14 S.C q = x := ⟨_, rfl⟩
  rw [hx1] at hq
  rw [hx0] at hq'
  have f0 : W1.cell? ⟨a, of, none⟩ = some (.bool x0) := by have h := hq' 0 _ rfl; rwa [Nat.mul_one] at h
  have f1 : W1.cell? ⟨a, of + q, none⟩ = some (.bool x1) := by have h := hq 0 _ rfl; rwa [Nat.mul_one] at h
  have hw : IntKind.i64.wrap ((n0 : Int) - 1) = (q : Int) := by rw [IntKind.wrap_i64]; omega
  have i0 : (0 : Int) ≤ (q : Int) := by omega
  have i1 : (q : Int) < (n0 : Int) := by omega
  have i2 : (0 : Int) < (n0 : Int) := by omega
  obtain rfl : x0 = true := by rw [← hx0]; simpa using e4
  obtain rfl : x1 = true := by rw [← hx1, show q = S.C.length - 1 by omega]; simpa using e5
  clear hq hq' hx0 hx1 hab hab'
  have HC6 := Lib.hid (fun W (h : Bx14 w S A0 A1 A2 A3 A4 n0 n1 n2 n3 n4 c0 c1 c2 c3 c4 sq W) => rtickets14 _ S true W h.st (by simp [e6]))
  have HC7 := Lib.hid (fun W (h : Bx14 w S A0 A1 A2 A3 A4 n0 n1 n2 n3 n4 c0 c1 c2 c3 c4 sq W) => rthreads14 _ S true W h.st (by simp [e7]))
  have HC8 := Lib.hid (fun W (h : Bx14 w S A0 A1 A2 A3 A4 n0 n1 n2 n3 n4 c0 c1 c2 c3 c4 sq W) => rlocks14 _ S false W h.st (by simp [ne]))
  clear hs e0 e1 e2 e3 e4 e5 e6 e7 ne hl0 hl1 hl2 hm0 hm1 hm2 hq0
  have HA := Lib.hid hA
  subst hA
  go_enter Try.func7, Try.ntmps7
  have c6_0 := HX.out.x.cell 0
  have c6_1 := HX.out.x.cell 1
  have c6_2 := HX.out.x.cell 2
  have c6_3 := HX.out.x.cell 3
  have c6_4 := HX.out.x.cell 4
  have c6_5 := HX.out.x.cell 5
  go_wp2_with fail
  refine (HC6.out _ HX.out).mono ?_
  rintro e w6 ⟨rfl, hb6⟩
  have HX6 := Lib.hid (HX.out.step hb6)
  clear HC6 hb6
  have c7_0 := HX6.out.x.cell 0
  have c7_1 := HX6.out.x.cell 1
  have c7_2 := HX6.out.x.cell 2
  have c7_3 := HX6.out.x.cell 3
  have c7_4 := HX6.out.x.cell 4
  have c7_5 := HX6.out.x.cell 5
  go_wp2_with fail
  refine (HC7.out _ HX6.out).mono ?_
  rintro e w7 ⟨rfl, hb7⟩
  have HX7 := Lib.hid (HX6.out.step hb7)
  clear HC7 hb7
  have c8_0 := HX7.out.x.cell 0
  have c8_1 := HX7.out.x.cell 1
  have c8_2 := HX7.out.x.cell 2
  have c8_3 := HX7.out.x.cell 3
  have c8_4 := HX7.out.x.cell 4
  have c8_5 := HX7.out.x.cell 5
  go_wp2_with fail
  refine (HC8.out _ HX7.out).mono ?_
  rintro e w8 ⟨rfl, hb8⟩
  have HX8 := Lib.hid (HX7.out.step hb8)
  clear HC8 hb8
  go_wp2_with fail
  go_ret
  exact ⟨rfl, HX8.out.b⟩
set_option maxHeartbeats 4000000 in
theorem rfine14_9 (v : Value) (S : Sv14) (w : World) (h : St14 w v S) (e0 : 1 ≤ S.q) (e1 : S.q ≤ 1000) (e2 : 1 ≤ S.C.length) (e3 : S.C.length ≤ 16) (e4 : gt14 S.C 0 = true) (e5 : gt14 S.C (S.C.length - 1) = true) (e6 : RTickets14 S) (e7 : RThreads14 S) (e8 : RLocks14 S) (ne : ¬ Queue14 S) :
    Calls Try.prog 7 #[v] w fun e w' => e = .returned (.bool false) ∧ Below w.heap.size w w' := by
  obtain ⟨A0, A1, A2, A3, A4, n0, n1, n2, n3, n4, c0, c1, c2, c3, c4, sq, rfl, hs⟩ := h
  have HX := Lib.hid (Bx14.new hs)
  have hl0 := hs.l0
  have hl2 := hs.l2
  have hl1 := hs.l1
  have hm0 := hs.m0
  have hm1 := hs.m1
  have hm2 := hs.m2
  obtain ⟨W1, hW1⟩ : ∃ W, w.alloc (.cells #[.slice A0 n0 c0, .slice A1 n1 c1, .slice A2 n2 c2, .slice A3 n3 c3, .slice A4 n4 c4, .int .i64 sq] 28) = W := ⟨_, rfl⟩
  rw [hW1] at HX
  have q0 := HX.out.x.cell 0
  have q5 := HX.out.x.cell 5
  have g0 : ¬ sq < 1 := by rw [← hs.e]; omega
  have g1 : ¬ 1000 < sq := by rw [← hs.e]; omega
  have g2 : ¬ (n0 : Int) < 1 := by rw [← hl0]; omega
  have g3 : ¬ 16 < (n0 : Int) := by rw [← hl0]; omega
  obtain ⟨q, hq0⟩ : ∃ q, n0 = q + 1 := ⟨n0 - 1, by omega⟩
  obtain ⟨a, of, hA, hab, hq⟩ := Lq.at_ len14C (by omega) HX.out.s.r0 (show q < S.C.length by omega)
  obtain ⟨a', of', hA', hab', hq'⟩ := Lq.at_ len14C (by omega) HX.out.s.r0 (show 0 < S.C.length by omega)
  rw [hA] at hA'
  injection hA' with hA'
  injection hA' with ha2 ho2
  subst ha2 ho2
  obtain ⟨x0, hx0⟩ : ∃ x, gt14 S.C 0 = x := ⟨_, rfl⟩
  obtain ⟨x1, hx1⟩ : ∃ x, gt14 S.C q = x := ⟨_, rfl⟩
  rw [hx1] at hq
  rw [hx0] at hq'
  have f0 : W1.cell? ⟨a, of, none⟩ = some (.bool x0) := by have h := hq' 0 _ rfl; rwa [Nat.mul_one] at h
  have f1 : W1.cell? ⟨a, of + q, none⟩ = some (.bool x1) := by have h := hq 0 _ rfl; rwa [Nat.mul_one] at h
  have hw : IntKind.i64.wrap ((n0 : Int) - 1) = (q : Int) := by rw [IntKind.wrap_i64]; omega
  have i0 : (0 : Int) ≤ (q : Int) := by omega
  have i1 : (q : Int) < (n0 : Int) := by omega
  have i2 : (0 : Int) < (n0 : Int) := by omega
  obtain rfl : x0 = true := by rw [← hx0]; simpa using e4
  obtain rfl : x1 = true := by rw [← hx1, show q = S.C.length - 1 by omega]; simpa using e5
  clear hq hq' hx0 hx1 hab hab'
  have HC6 := Lib.hid (fun W (h : Bx14 w S A0 A1 A2 A3 A4 n0 n1 n2 n3 n4 c0 c1 c2 c3 c4 sq W) => rtickets14 _ S true W h.st (by simp [e6]))
  have HC7 := Lib.hid (fun W (h : Bx14 w S A0 A1 A2 A3 A4 n0 n1 n2 n3 n4 c0 c1 c2 c3 c4 sq W) => rthreads14 _ S true W h.st (by simp [e7]))
  have HC8 := Lib.hid (fun W (h : Bx14 w S A0 A1 A2 A3 A4 n0 n1 n2 n3 n4 c0 c1 c2 c3 c4 sq W) => rlocks14 _ S true W h.st (by simp [e8]))
  have hok4 : ∀ j, j < S.H.length → (gt14 S.H j).s = 4 → us14 usH S.H (gt14 S.H j).f = true := fun j hj h4 => by
    have h5 := (e7.2.1 j hj (by obtain ⟨x, hx⟩ : ∃ x, gt14 S.H j = x := ⟨_, rfl⟩; rw [hx] at h4 ⊢; simp [usH, h4])).1
    rcases h5 with h5 | h5 | h5
    · exact h5.2.1
    · rw [h4] at h5; exact absurd h5.1 (by decide)
    · rw [h4] at h5; exact absurd h5.1 (by decide)
  have HC9 := Lib.hid (fun W (h : Bx14 w S A0 A1 A2 A3 A4 n0 n1 n2 n3 n4 c0 c1 c2 c3 c4 sq W) => rqueue14 _ S false W h.st e7.1.1 hok4 (by simp [ne]))
  clear hs e0 e1 e2 e3 e4 e5 e6 e7 e8 ne hok4 hl0 hl1 hl2 hm0 hm1 hm2 hq0
  have HA := Lib.hid hA
  subst hA
  go_enter Try.func7, Try.ntmps7
  have c6_0 := HX.out.x.cell 0
  have c6_1 := HX.out.x.cell 1
  have c6_2 := HX.out.x.cell 2
  have c6_3 := HX.out.x.cell 3
  have c6_4 := HX.out.x.cell 4
  have c6_5 := HX.out.x.cell 5
  go_wp2_with fail
  refine (HC6.out _ HX.out).mono ?_
  rintro e w6 ⟨rfl, hb6⟩
  have HX6 := Lib.hid (HX.out.step hb6)
  clear HC6 hb6
  have c7_0 := HX6.out.x.cell 0
  have c7_1 := HX6.out.x.cell 1
  have c7_2 := HX6.out.x.cell 2
  have c7_3 := HX6.out.x.cell 3
  have c7_4 := HX6.out.x.cell 4
  have c7_5 := HX6.out.x.cell 5
  go_wp2_with fail
  refine (HC7.out _ HX6.out).mono ?_
  rintro e w7 ⟨rfl, hb7⟩
  have HX7 := Lib.hid (HX6.out.step hb7)
  clear HC7 hb7
  have c8_0 := HX7.out.x.cell 0
  have c8_1 := HX7.out.x.cell 1
  have c8_2 := HX7.out.x.cell 2
  have c8_3 := HX7.out.x.cell 3
  have c8_4 := HX7.out.x.cell 4
  have c8_5 := HX7.out.x.cell 5
  go_wp2_with fail
  refine (HC8.out _ HX7.out).mono ?_
  rintro e w8 ⟨rfl, hb8⟩
  have HX8 := Lib.hid (HX7.out.step hb8)
  clear HC8 hb8
  have c9_0 := HX8.out.x.cell 0
  have c9_1 := HX8.out.x.cell 1
  have c9_2 := HX8.out.x.cell 2
  have c9_3 := HX8.out.x.cell 3
  have c9_4 := HX8.out.x.cell 4
  have c9_5 := HX8.out.x.cell 5
  go_wp2_with fail
  refine (HC9.out _ HX8.out).mono ?_
  rintro e w9 ⟨rfl, hb9⟩
  have HX9 := Lib.hid (HX8.out.step hb9)
  clear HC9 hb9
  go_wp2_with fail
  go_ret
  exact ⟨rfl, HX9.out.b⟩
set_option maxHeartbeats 4000000 in
theorem rfine14_10 (v : Value) (S : Sv14) (w : World) (h : St14 w v S) (e0 : 1 ≤ S.q) (e1 : S.q ≤ 1000) (e2 : 1 ≤ S.C.length) (e3 : S.C.length ≤ 16) (e4 : gt14 S.C 0 = true) (e5 : gt14 S.C (S.C.length - 1) = true) (e6 : RTickets14 S) (e7 : RThreads14 S) (e8 : RLocks14 S) (e9 : Queue14 S) (ne : ¬ Free14R S.C.length (cArr14 S S.T.length)) :
    Calls Try.prog 7 #[v] w fun e w' => e = .returned (.bool false) ∧ Below w.heap.size w w' := by
  obtain ⟨A0, A1, A2, A3, A4, n0, n1, n2, n3, n4, c0, c1, c2, c3, c4, sq, rfl, hs⟩ := h
  have HX := Lib.hid (Bx14.new hs)
  have hl0 := hs.l0
  have hl2 := hs.l2
  have hl1 := hs.l1
  have hm0 := hs.m0
  have hm1 := hs.m1
  have hm2 := hs.m2
  obtain ⟨W1, hW1⟩ : ∃ W, w.alloc (.cells #[.slice A0 n0 c0, .slice A1 n1 c1, .slice A2 n2 c2, .slice A3 n3 c3, .slice A4 n4 c4, .int .i64 sq] 28) = W := ⟨_, rfl⟩
  rw [hW1] at HX
  have q0 := HX.out.x.cell 0
  have q5 := HX.out.x.cell 5
  have g0 : ¬ sq < 1 := by rw [← hs.e]; omega
  have g1 : ¬ 1000 < sq := by rw [← hs.e]; omega
  have g2 : ¬ (n0 : Int) < 1 := by rw [← hl0]; omega
  have g3 : ¬ 16 < (n0 : Int) := by rw [← hl0]; omega
  obtain ⟨q, hq0⟩ : ∃ q, n0 = q + 1 := ⟨n0 - 1, by omega⟩
  obtain ⟨a, of, hA, hab, hq⟩ := Lq.at_ len14C (by omega) HX.out.s.r0 (show q < S.C.length by omega)
  obtain ⟨a', of', hA', hab', hq'⟩ := Lq.at_ len14C (by omega) HX.out.s.r0 (show 0 < S.C.length by omega)
  rw [hA] at hA'
  injection hA' with hA'
  injection hA' with ha2 ho2
  subst ha2 ho2
  obtain ⟨x0, hx0⟩ : ∃ x, gt14 S.C 0 = x := ⟨_, rfl⟩
  obtain ⟨x1, hx1⟩ : ∃ x, gt14 S.C q = x := ⟨_, rfl⟩
  rw [hx1] at hq
  rw [hx0] at hq'
  have f0 : W1.cell? ⟨a, of, none⟩ = some (.bool x0) := by have h := hq' 0 _ rfl; rwa [Nat.mul_one] at h
  have f1 : W1.cell? ⟨a, of + q, none⟩ = some (.bool x1) := by have h := hq 0 _ rfl; rwa [Nat.mul_one] at h
  have hw : IntKind.i64.wrap ((n0 : Int) - 1) = (q : Int) := by rw [IntKind.wrap_i64]; omega
  have i0 : (0 : Int) ≤ (q : Int) := by omega
  have i1 : (q : Int) < (n0 : Int) := by omega
  have i2 : (0 : Int) < (n0 : Int) := by omega
  obtain rfl : x0 = true := by rw [← hx0]; simpa using e4
  obtain rfl : x1 = true := by rw [← hx1, show q = S.C.length - 1 by omega]; simpa using e5
  clear hq hq' hx0 hx1 hab hab'
  have HC6 := Lib.hid (fun W (h : Bx14 w S A0 A1 A2 A3 A4 n0 n1 n2 n3 n4 c0 c1 c2 c3 c4 sq W) => rtickets14 _ S true W h.st (by simp [e6]))
  have HC7 := Lib.hid (fun W (h : Bx14 w S A0 A1 A2 A3 A4 n0 n1 n2 n3 n4 c0 c1 c2 c3 c4 sq W) => rthreads14 _ S true W h.st (by simp [e7]))
  have HC8 := Lib.hid (fun W (h : Bx14 w S A0 A1 A2 A3 A4 n0 n1 n2 n3 n4 c0 c1 c2 c3 c4 sq W) => rlocks14 _ S true W h.st (by simp [e8]))
  have hok4 : ∀ j, j < S.H.length → (gt14 S.H j).s = 4 → us14 usH S.H (gt14 S.H j).f = true := fun j hj h4 => by
    have h5 := (e7.2.1 j hj (by obtain ⟨x, hx⟩ : ∃ x, gt14 S.H j = x := ⟨_, rfl⟩; rw [hx] at h4 ⊢; simp [usH, h4])).1
    rcases h5 with h5 | h5 | h5
    · exact h5.2.1
    · rw [h4] at h5; exact absurd h5.1 (by decide)
    · rw [h4] at h5; exact absurd h5.1 (by decide)
  have HC9 := Lib.hid (fun W (h : Bx14 w S A0 A1 A2 A3 A4 n0 n1 n2 n3 n4 c0 c1 c2 c3 c4 sq W) => rqueue14 _ S true W h.st e7.1.1 hok4 (by simp [e9]))
  have HCA := Lib.hid (fun W (h : Bx14 w S A0 A1 A2 A3 A4 n0 n1 n2 n3 n4 c0 c1 c2 c3 c4 sq W) => rcoinArrows14 _ S W h.st)
  have HLA : Hid ((cArr14 S S.T.length).length ≤ 1000000) := Lib.hid (by have := cArr14_len S S.T.length; omega)
  have HRA := Lib.hid (fun W Ad c (hr : Aq W W.heap.size Ad (cArr14 S S.T.length)) => rdring14 n0 (by omega) Ad _ c false W hr HLA.out (by rw [← hl0]; simp [ne]))
  clear hs e0 e1 e2 e3 e4 e5 e6 e7 e8 e9 ne hok4 hl0 hl1 hl2 hm0 hm1 hm2 hq0
  have HA := Lib.hid hA
  subst hA
  go_enter Try.func7, Try.ntmps7
  have c6_0 := HX.out.x.cell 0
  have c6_1 := HX.out.x.cell 1
  have c6_2 := HX.out.x.cell 2
  have c6_3 := HX.out.x.cell 3
  have c6_4 := HX.out.x.cell 4
  have c6_5 := HX.out.x.cell 5
  go_wp2_with fail
  refine (HC6.out _ HX.out).mono ?_
  rintro e w6 ⟨rfl, hb6⟩
  have HX6 := Lib.hid (HX.out.step hb6)
  clear HC6 hb6
  have c7_0 := HX6.out.x.cell 0
  have c7_1 := HX6.out.x.cell 1
  have c7_2 := HX6.out.x.cell 2
  have c7_3 := HX6.out.x.cell 3
  have c7_4 := HX6.out.x.cell 4
  have c7_5 := HX6.out.x.cell 5
  go_wp2_with fail
  refine (HC7.out _ HX6.out).mono ?_
  rintro e w7 ⟨rfl, hb7⟩
  have HX7 := Lib.hid (HX6.out.step hb7)
  clear HC7 hb7
  have c8_0 := HX7.out.x.cell 0
  have c8_1 := HX7.out.x.cell 1
  have c8_2 := HX7.out.x.cell 2
  have c8_3 := HX7.out.x.cell 3
  have c8_4 := HX7.out.x.cell 4
  have c8_5 := HX7.out.x.cell 5
  go_wp2_with fail
  refine (HC8.out _ HX7.out).mono ?_
  rintro e w8 ⟨rfl, hb8⟩
  have HX8 := Lib.hid (HX7.out.step hb8)
  clear HC8 hb8
  have c9_0 := HX8.out.x.cell 0
  have c9_1 := HX8.out.x.cell 1
  have c9_2 := HX8.out.x.cell 2
  have c9_3 := HX8.out.x.cell 3
  have c9_4 := HX8.out.x.cell 4
  have c9_5 := HX8.out.x.cell 5
  go_wp2_with fail
  refine (HC9.out _ HX8.out).mono ?_
  rintro e w9 ⟨rfl, hb9⟩
  have HX9 := Lib.hid (HX8.out.step hb9)
  clear HC9 hb9
  have HXN := Lib.hid (HX9.out.step (Below.refl _ _).drew)
  obtain ⟨wn, hwn⟩ : ∃ W, w9.drew = W := ⟨_, rfl⟩
  rw [hwn] at HXN
  go_wp2_with fail
  refine wp_region_held_drew (S := Bx14 w S (some ⟨a, of, none⟩) A1 A2 A3 A4 n0 n1 n2 n3 n4 c0 c1 c2 c3 c4 sq) (by kernel_rfl) (by rw [hwn]; exact HXN.out) (fun hHeld => ?_)
  rw [hwn] at hHeld ⊢
  clear hwn
  have HBS := HXN
  refine tk 0 (v := ?_) (fun W hS => ?_) ?_
  rotate_left
  · (go_simp; try with_reducible rfl)
  (try dsimp only [Act.put]); try simp only [pt1, pt2, pt3]
  refine tk 1 (v := ?_) (fun W hS => ?_) ?_
  rotate_left
  · try try dsimp only at hS
    have z0 := hS.x.cell 0
    have z1 := hS.x.cell 1
    have z2 := hS.x.cell 2
    have z3 := hS.x.cell 3
    have z4 := hS.x.cell 4
    have z5 := hS.x.cell 5
    go_simp
    try with_reducible rfl
  (try dsimp only [Act.put]); try simp only [pt1, pt2, pt3]
  refine rdy 2 (fun K hK => ?_)
  have HBS0 := HBS
  go_simp
  refine (HCA.out _ HBS0.out).mono ?_
  rintro e wn ⟨Ac, cc, rfl, hqa, hb⟩
  have HBS := Lib.hid (HBS0.out.step hb)
  have HQA := Lib.hid hqa
  clear hb hqa HBS0
  refine hK.out _ _ HBS.out (fun hHeld => ?_)
  clear hK K
  (try dsimp only [Act.put]); try simp only [pt1, pt2, pt3]
  refine rdy 3 (fun K hK => ?_)
  have HBS0 := HBS
  go_simp
  refine (HRA.out _ Ac cc HQA.out).mono ?_
  rintro e wn ⟨rfl, hb⟩
  have HBS := Lib.hid (HBS0.out.step hb)
  clear hb HBS0 HQA
  refine hK.out _ _ HBS.out (fun hHeld => ?_)
  clear hK K
  (try dsimp only [Act.put]); try simp only [pt1, pt2, pt3]
  refine tk 4 (v := ?_) (fun W hS => ?_) ?_
  rotate_left
  · (go_simp; try with_reducible rfl)
  (try dsimp only [Act.put]); try simp only [pt1, pt2, pt3]
  refine tk 5 (v := ?_) (fun W hS => ?_) ?_
  rotate_left
  · (go_simp; try with_reducible rfl)
  (try dsimp only [Act.put]); try simp only [pt1, pt2, pt3]
  refine sk 6 ?_
  (try dsimp only [Act.put]); try simp only [pt1, pt2, pt3]
  refine sk 7 ?_
  (try dsimp only [Act.put]); try simp only [pt1, pt2, pt3]
  refine sk 8 ?_
  (try dsimp only [Act.put]); try simp only [pt1, pt2, pt3]
  refine sk 9 ?_
  (try dsimp only [Act.put]); try simp only [pt1, pt2, pt3]
  refine sk 10 ?_
  (try dsimp only [Act.put]); try simp only [pt1, pt2, pt3]
  refine sk 11 ?_
  (try dsimp only [Act.put]); try simp only [pt1, pt2, pt3]
  refine sk 12 ?_
  (try dsimp only [Act.put]); try simp only [pt1, pt2, pt3]
  refine tk 13 (v := ?_) (fun W hS => ?_) ?_
  rotate_left
  · (go_simp; try with_reducible rfl)
  (try dsimp only [Act.put]); try simp only [pt1, pt2, pt3]
  refine rdy 14 (fun K hK => ?_)
  go_simp
  refine hK.out _ _ HBS.out (fun hHeld => ?_)
  clear hK K
  (try dsimp only [Act.put]); try simp only [pt1, pt2, pt3]
  refine wpAnyH_done (by kernel_rfl) ?_ _
  clear hHeld
  go_wp2_with fail
  go_ret
  exact ⟨rfl, HBS.out.b⟩
set_option maxHeartbeats 4000000 in
theorem rfine14_11 (v : Value) (S : Sv14) (w : World) (h : St14 w v S) (e0 : 1 ≤ S.q) (e1 : S.q ≤ 1000) (e2 : 1 ≤ S.C.length) (e3 : S.C.length ≤ 16) (e4 : gt14 S.C 0 = true) (e5 : gt14 S.C (S.C.length - 1) = true) (e6 : RTickets14 S) (e7 : RThreads14 S) (e8 : RLocks14 S) (e9 : Queue14 S) (e10 : Free14R S.C.length (cArr14 S S.T.length)) (b : Bool) (hb : b = true ↔ Free14R S.H.length (tArr14 S S.H.length)) :
    Calls Try.prog 7 #[v] w fun e w' => e = .returned (.bool b) ∧ Below w.heap.size w w' := by
  obtain ⟨A0, A1, A2, A3, A4, n0, n1, n2, n3, n4, c0, c1, c2, c3, c4, sq, rfl, hs⟩ := h
  have HX := Lib.hid (Bx14.new hs)
  have hl0 := hs.l0
  have hl2 := hs.l2
  have hl1 := hs.l1
  have hm0 := hs.m0
  have hm1 := hs.m1
  have hm2 := hs.m2
  obtain ⟨W1, hW1⟩ : ∃ W, w.alloc (.cells #[.slice A0 n0 c0, .slice A1 n1 c1, .slice A2 n2 c2, .slice A3 n3 c3, .slice A4 n4 c4, .int .i64 sq] 28) = W := ⟨_, rfl⟩
  rw [hW1] at HX
  have q0 := HX.out.x.cell 0
  have q5 := HX.out.x.cell 5
  have g0 : ¬ sq < 1 := by rw [← hs.e]; omega
  have g1 : ¬ 1000 < sq := by rw [← hs.e]; omega
  have g2 : ¬ (n0 : Int) < 1 := by rw [← hl0]; omega
  have g3 : ¬ 16 < (n0 : Int) := by rw [← hl0]; omega
  obtain ⟨q, hq0⟩ : ∃ q, n0 = q + 1 := ⟨n0 - 1, by omega⟩
  obtain ⟨a, of, hA, hab, hq⟩ := Lq.at_ len14C (by omega) HX.out.s.r0 (show q < S.C.length by omega)
  obtain ⟨a', of', hA', hab', hq'⟩ := Lq.at_ len14C (by omega) HX.out.s.r0 (show 0 < S.C.length by omega)
  rw [hA] at hA'
  injection hA' with hA'
  injection hA' with ha2 ho2
  subst ha2 ho2
  obtain ⟨x0, hx0⟩ : ∃ x, gt14 S.C 0 = x := ⟨_, rfl⟩
  obtain ⟨x1, hx1⟩ : ∃ x, gt14 S.C q = x := ⟨_, rfl⟩
  rw [hx1] at hq
  rw [hx0] at hq'
  have f0 : W1.cell? ⟨a, of, none⟩ = some (.bool x0) := by have h := hq' 0 _ rfl; rwa [Nat.mul_one] at h
  have f1 : W1.cell? ⟨a, of + q, none⟩ = some (.bool x1) := by have h := hq 0 _ rfl; rwa [Nat.mul_one] at h
  have hw : IntKind.i64.wrap ((n0 : Int) - 1) = (q : Int) := by rw [IntKind.wrap_i64]; omega
  have i0 : (0 : Int) ≤ (q : Int) := by omega
  have i1 : (q : Int) < (n0 : Int) := by omega
  have i2 : (0 : Int) < (n0 : Int) := by omega
  obtain rfl : x0 = true := by rw [← hx0]; simpa using e4
  obtain rfl : x1 = true := by rw [← hx1, show q = S.C.length - 1 by omega]; simpa using e5
  clear hq hq' hx0 hx1 hab hab'
  have HC6 := Lib.hid (fun W (h : Bx14 w S A0 A1 A2 A3 A4 n0 n1 n2 n3 n4 c0 c1 c2 c3 c4 sq W) => rtickets14 _ S true W h.st (by simp [e6]))
  have HC7 := Lib.hid (fun W (h : Bx14 w S A0 A1 A2 A3 A4 n0 n1 n2 n3 n4 c0 c1 c2 c3 c4 sq W) => rthreads14 _ S true W h.st (by simp [e7]))
  have HC8 := Lib.hid (fun W (h : Bx14 w S A0 A1 A2 A3 A4 n0 n1 n2 n3 n4 c0 c1 c2 c3 c4 sq W) => rlocks14 _ S true W h.st (by simp [e8]))
  have hok4 : ∀ j, j < S.H.length → (gt14 S.H j).s = 4 → us14 usH S.H (gt14 S.H j).f = true := fun j hj h4 => by
    have h5 := (e7.2.1 j hj (by obtain ⟨x, hx⟩ : ∃ x, gt14 S.H j = x := ⟨_, rfl⟩; rw [hx] at h4 ⊢; simp [usH, h4])).1
    rcases h5 with h5 | h5 | h5
    · exact h5.2.1
    · rw [h4] at h5; exact absurd h5.1 (by decide)
    · rw [h4] at h5; exact absurd h5.1 (by decide)
  have HC9 := Lib.hid (fun W (h : Bx14 w S A0 A1 A2 A3 A4 n0 n1 n2 n3 n4 c0 c1 c2 c3 c4 sq W) => rqueue14 _ S true W h.st e7.1.1 hok4 (by simp [e9]))
  have HCA := Lib.hid (fun W (h : Bx14 w S A0 A1 A2 A3 A4 n0 n1 n2 n3 n4 c0 c1 c2 c3 c4 sq W) => rcoinArrows14 _ S W h.st)
  have HLA : Hid ((cArr14 S S.T.length).length ≤ 1000000) := Lib.hid (by have := cArr14_len S S.T.length; omega)
  have HRA := Lib.hid (fun W Ad c (hr : Aq W W.heap.size Ad (cArr14 S S.T.length)) => rdring14 n0 (by omega) Ad _ c true W hr HLA.out (by rw [← hl0]; simp [e10]))
  have hok6 : ∀ j, j < S.H.length → (gt14 S.H j).s = 6 → us14 usL S.L (gt14 S.H j).f = true := fun j hj h4 => by
    have h5 := (e7.2.1 j hj (by obtain ⟨x, hx⟩ : ∃ x, gt14 S.H j = x := ⟨_, rfl⟩; rw [hx] at h4 ⊢; simp [usH, h4])).1
    rcases h5 with h5 | h5 | h5
    · rw [h4] at h5; exact absurd h5.1 (by decide)
    · exact h5.2
    · rw [h4] at h5; exact absurd h5.1 (by decide)
  have HCB := Lib.hid (fun W (h : Bx14 w S A0 A1 A2 A3 A4 n0 n1 n2 n3 n4 c0 c1 c2 c3 c4 sq W) => rthreadArrows14 _ S W h.st hok6)
  have HLB : Hid ((tArr14 S S.H.length).length ≤ 1000000) := Lib.hid (by have := tArr14_len S S.H.length; omega)
  have HRB := Lib.hid (fun W Ad c (hr : Aq W W.heap.size Ad (tArr14 S S.H.length)) => rdring14 n2 (by omega) Ad _ c b W hr HLB.out (by rw [← hl2]; exact hb))
  clear hs e0 e1 e2 e3 e4 e5 e6 e7 e8 e9 e10 hb hok4 hok6 hl0 hl1 hl2 hm0 hm1 hm2 hq0
  have HA := Lib.hid hA
  subst hA
  go_enter Try.func7, Try.ntmps7
  have c6_0 := HX.out.x.cell 0
  have c6_1 := HX.out.x.cell 1
  have c6_2 := HX.out.x.cell 2
  have c6_3 := HX.out.x.cell 3
  have c6_4 := HX.out.x.cell 4
  have c6_5 := HX.out.x.cell 5
  go_wp2_with fail
  refine (HC6.out _ HX.out).mono ?_
  rintro e w6 ⟨rfl, hb6⟩
  have HX6 := Lib.hid (HX.out.step hb6)
  clear HC6 hb6
  have c7_0 := HX6.out.x.cell 0
  have c7_1 := HX6.out.x.cell 1
  have c7_2 := HX6.out.x.cell 2
  have c7_3 := HX6.out.x.cell 3
  have c7_4 := HX6.out.x.cell 4
  have c7_5 := HX6.out.x.cell 5
  go_wp2_with fail
  refine (HC7.out _ HX6.out).mono ?_
  rintro e w7 ⟨rfl, hb7⟩
  have HX7 := Lib.hid (HX6.out.step hb7)
  clear HC7 hb7
  have c8_0 := HX7.out.x.cell 0
  have c8_1 := HX7.out.x.cell 1
  have c8_2 := HX7.out.x.cell 2
  have c8_3 := HX7.out.x.cell 3
  have c8_4 := HX7.out.x.cell 4
  have c8_5 := HX7.out.x.cell 5
  go_wp2_with fail
  refine (HC8.out _ HX7.out).mono ?_
  rintro e w8 ⟨rfl, hb8⟩
  have HX8 := Lib.hid (HX7.out.step hb8)
  clear HC8 hb8
  have c9_0 := HX8.out.x.cell 0
  have c9_1 := HX8.out.x.cell 1
  have c9_2 := HX8.out.x.cell 2
  have c9_3 := HX8.out.x.cell 3
  have c9_4 := HX8.out.x.cell 4
  have c9_5 := HX8.out.x.cell 5
  go_wp2_with fail
  refine (HC9.out _ HX8.out).mono ?_
  rintro e w9 ⟨rfl, hb9⟩
  have HX9 := Lib.hid (HX8.out.step hb9)
  clear HC9 hb9
  have HXN := Lib.hid (HX9.out.step (Below.refl _ _).drew)
  obtain ⟨wn, hwn⟩ : ∃ W, w9.drew = W := ⟨_, rfl⟩
  rw [hwn] at HXN
  go_wp2_with fail
  refine wp_region_held_drew (S := Bx14 w S (some ⟨a, of, none⟩) A1 A2 A3 A4 n0 n1 n2 n3 n4 c0 c1 c2 c3 c4 sq) (by kernel_rfl) (by rw [hwn]; exact HXN.out) (fun hHeld => ?_)
  rw [hwn] at hHeld ⊢
  clear hwn
  have HBS := HXN
  refine tk 0 (v := ?_) (fun W hS => ?_) ?_
  rotate_left
  · (go_simp; try with_reducible rfl)
  (try dsimp only [Act.put]); try simp only [pt1, pt2, pt3]
  refine tk 1 (v := ?_) (fun W hS => ?_) ?_
  rotate_left
  · try try dsimp only at hS
    have z0 := hS.x.cell 0
    have z1 := hS.x.cell 1
    have z2 := hS.x.cell 2
    have z3 := hS.x.cell 3
    have z4 := hS.x.cell 4
    have z5 := hS.x.cell 5
    go_simp
    try with_reducible rfl
  (try dsimp only [Act.put]); try simp only [pt1, pt2, pt3]
  refine rdy 2 (fun K hK => ?_)
  have HBS0 := HBS
  go_simp
  refine (HCA.out _ HBS0.out).mono ?_
  rintro e wn ⟨Ac, cc, rfl, hqa, hb⟩
  have HBS := Lib.hid (HBS0.out.step hb)
  have HQA := Lib.hid hqa
  clear hb hqa HBS0
  refine hK.out _ _ HBS.out (fun hHeld => ?_)
  clear hK K
  (try dsimp only [Act.put]); try simp only [pt1, pt2, pt3]
  refine rdy 3 (fun K hK => ?_)
  have HBS0 := HBS
  go_simp
  refine (HRA.out _ Ac cc HQA.out).mono ?_
  rintro e wn ⟨rfl, hb⟩
  have HBS := Lib.hid (HBS0.out.step hb)
  clear hb HBS0 HQA
  refine hK.out _ _ HBS.out (fun hHeld => ?_)
  clear hK K
  (try dsimp only [Act.put]); try simp only [pt1, pt2, pt3]
  refine tk 4 (v := ?_) (fun W hS => ?_) ?_
  rotate_left
  · (go_simp; try with_reducible rfl)
  (try dsimp only [Act.put]); try simp only [pt1, pt2, pt3]
  refine tk 5 (v := ?_) (fun W hS => ?_) ?_
  rotate_left
  · (go_simp; try with_reducible rfl)
  (try dsimp only [Act.put]); try simp only [pt1, pt2, pt3]
  refine tk 6 (v := ?_) (fun W hS => ?_) ?_
  rotate_left
  · (go_simp; try with_reducible rfl)
  (try dsimp only [Act.put]); try simp only [pt1, pt2, pt3]
  refine tk 7 (v := ?_) (fun W hS => ?_) ?_
  rotate_left
  · try try dsimp only at hS
    have z0 := hS.x.cell 2
    go_simp
    try with_reducible rfl
  (try dsimp only [Act.put]); try simp only [pt1, pt2, pt3]
  refine tk 8 (v := ?_) (fun W hS => ?_) ?_
  rotate_left
  · (go_simp; try with_reducible rfl)
  (try dsimp only [Act.put]); try simp only [pt1, pt2, pt3]
  refine tk 9 (v := ?_) (fun W hS => ?_) ?_
  rotate_left
  · try try dsimp only at hS
    have z0 := hS.x.cell 0
    have z1 := hS.x.cell 1
    have z2 := hS.x.cell 2
    have z3 := hS.x.cell 3
    have z4 := hS.x.cell 4
    have z5 := hS.x.cell 5
    go_simp
    try with_reducible rfl
  (try dsimp only [Act.put]); try simp only [pt1, pt2, pt3]
  refine rdy 10 (fun K hK => ?_)
  have HBS0 := HBS
  go_simp
  refine (HCB.out _ HBS0.out).mono ?_
  rintro e wn ⟨Ad, cd, rfl, hqa, hb⟩
  have HBS := Lib.hid (HBS0.out.step hb)
  have HQA := Lib.hid hqa
  clear hb hqa HBS0
  refine hK.out _ _ HBS.out (fun hHeld => ?_)
  clear hK K
  (try dsimp only [Act.put]); try simp only [pt1, pt2, pt3]
  refine rdy 11 (fun K hK => ?_)
  have HBS0 := HBS
  go_simp
  refine (HRB.out _ Ad cd HQA.out).mono ?_
  rintro e wn ⟨rfl, hb⟩
  have HBS := Lib.hid (HBS0.out.step hb)
  clear hb HBS0 HQA
  refine hK.out _ _ HBS.out (fun hHeld => ?_)
  clear hK K
  (try dsimp only [Act.put]); try simp only [pt1, pt2, pt3]
  refine tk 12 (v := ?_) (fun W hS => ?_) ?_
  rotate_left
  · (go_simp; try with_reducible rfl)
  (try dsimp only [Act.put]); try simp only [pt1, pt2, pt3]
  refine tk 13 (v := ?_) (fun W hS => ?_) ?_
  rotate_left
  · (go_simp; try with_reducible rfl)
  (try dsimp only [Act.put]); try simp only [pt1, pt2, pt3]
  refine rdy 14 (fun K hK => ?_)
  go_simp
  refine hK.out _ _ HBS.out (fun hHeld => ?_)
  clear hK K
  (try dsimp only [Act.put]); try simp only [pt1, pt2, pt3]
  refine wpAnyH_done (by kernel_rfl) ?_ _
  clear hHeld
  go_wp2_with fail
  go_ret
  exact ⟨by simp, HBS.out.b⟩
theorem tidyC14 (S : Sv14) (h : 1 ≤ S.C.length) : Tidy14 usC S.C 16 ↔ S.C.length ≤ 16 ∧ gt14 S.C (S.C.length - 1) = true := by
  unfold Tidy14
  rw [en14_full]
  constructor
  · rintro ⟨h1, h2 | h2, _⟩
    · omega
    · exact ⟨h1, h2⟩
  · rintro ⟨h1, h2⟩
    exact ⟨h1, .inr h2, fun j _ hu => hu⟩
theorem used0_14 (S : Sv14) : us14 usC S.C 0 = true ↔ 1 ≤ S.C.length ∧ gt14 S.C 0 = true := by
  have hn : us14 usC S.C ((0 : Nat) : Int) = usC (gt14 S.C 0) := us14_nat _ _ _
  constructor
  · intro h
    have h2 : gt14 S.C 0 = true := hn.symm.trans h
    refine ⟨Classical.byContradiction (fun hl => ?_), h2⟩
    rw [gt14_out (by omega)] at h2
    cases h2
  · rintro ⟨_, h⟩
    exact hn.trans h
theorem rfine14_iff (S : Sv14) : Fine14 S ↔ 1 ≤ S.q ∧ S.q ≤ 1000 ∧ 1 ≤ S.C.length ∧ S.C.length ≤ 16 ∧ gt14 S.C 0 = true ∧ gt14 S.C (S.C.length - 1) = true ∧ RTickets14 S ∧ RThreads14 S ∧ RLocks14 S ∧ Queue14 S ∧ Free14R S.C.length (cArr14 S S.T.length) ∧ Free14R S.H.length (tArr14 S S.H.length) := by
  constructor
  · rintro ⟨h0, h1, ⟨t0, t1, t2, t3⟩, hu, ht, hh, hl, hq, f0, f1⟩
    obtain ⟨h2, h4⟩ := (used0_14 S).1 hu
    obtain ⟨h3, h5⟩ := (tidyC14 S h2).1 t0
    exact ⟨h0, h1, h2, h3, h4, h5, ⟨t1, ht⟩, ⟨t2, hh⟩, ⟨t3, hl⟩, hq, f0, f1⟩
  · rintro ⟨h0, h1, h2, h3, h4, h5, ⟨t1, ht⟩, ⟨t2, hh⟩, ⟨t3, hl⟩, hq, f0, f1⟩
    exact ⟨h0, h1, ⟨(tidyC14 S h2).2 ⟨h3, h5⟩, t1, t2, t3⟩, (used0_14 S).2 ⟨h2, h4⟩, ht, hh, hl, hq, f0, f1⟩
theorem rfine14 (v : Value) (S : Sv14) (b : Bool) (w : World) (h : St14 w v S) (hb0 : b = true ↔ Fine14 S) :
    Calls Try.prog 7 #[v] w fun e w' => e = .returned (.bool b) ∧ Below w.heap.size w w' := by
  have hb := hb0.trans (rfine14_iff S)
  by_cases e0 : 1 ≤ S.q
  case neg =>
    obtain rfl : b = false := bool14_of hb (fun h => e0 h.1)
    exact rfine14_0 v S w h e0
  by_cases e1 : S.q ≤ 1000
  case neg =>
    obtain rfl : b = false := bool14_of hb (fun h => e1 h.2.1)
    exact rfine14_1 v S w h e0 e1
  by_cases e2 : 1 ≤ S.C.length
  case neg =>
    obtain rfl : b = false := bool14_of hb (fun h => e2 h.2.2.1)
    exact rfine14_2 v S w h e0 e1 e2
  by_cases e3 : S.C.length ≤ 16
  case neg =>
    obtain rfl : b = false := bool14_of hb (fun h => e3 h.2.2.2.1)
    exact rfine14_3 v S w h e0 e1 e2 e3
  by_cases e4 : gt14 S.C 0 = true
  case neg =>
    obtain rfl : b = false := bool14_of hb (fun h => e4 h.2.2.2.2.1)
    exact rfine14_4 v S w h e0 e1 e2 e3 e4
  by_cases e5 : gt14 S.C (S.C.length - 1) = true
  case neg =>
    obtain rfl : b = false := bool14_of hb (fun h => e5 h.2.2.2.2.2.1)
    exact rfine14_5 v S w h e0 e1 e2 e3 e4 e5
  by_cases e6 : RTickets14 S
  case neg =>
    obtain rfl : b = false := bool14_of hb (fun h => e6 h.2.2.2.2.2.2.1)
    exact rfine14_6 v S w h e0 e1 e2 e3 e4 e5 e6
  by_cases e7 : RThreads14 S
  case neg =>
    obtain rfl : b = false := bool14_of hb (fun h => e7 h.2.2.2.2.2.2.2.1)
    exact rfine14_7 v S w h e0 e1 e2 e3 e4 e5 e6 e7
  by_cases e8 : RLocks14 S
  case neg =>
    obtain rfl : b = false := bool14_of hb (fun h => e8 h.2.2.2.2.2.2.2.2.1)
    exact rfine14_8 v S w h e0 e1 e2 e3 e4 e5 e6 e7 e8
  by_cases e9 : Queue14 S
  case neg =>
    obtain rfl : b = false := bool14_of hb (fun h => e9 h.2.2.2.2.2.2.2.2.2.1)
    exact rfine14_9 v S w h e0 e1 e2 e3 e4 e5 e6 e7 e8 e9
  by_cases e10 : Free14R S.C.length (cArr14 S S.T.length)
  case neg =>
    obtain rfl : b = false := bool14_of hb (fun h => e10 h.2.2.2.2.2.2.2.2.2.2.1)
    exact rfine14_10 v S w h e0 e1 e2 e3 e4 e5 e6 e7 e8 e9 e10
  exact rfine14_11 v S w h e0 e1 e2 e3 e4 e5 e6 e7 e8 e9 e10 b (by rw [hb]; exact ⟨fun h => h.2.2.2.2.2.2.2.2.2.2.2, fun h => ⟨e0, e1, e2, e3, e4, e5, e6, e7, e8, e9, e10, h⟩⟩)
end Go.Proofs.Ytllcmjdfgbiijaa
namespace Go.Proofs.Ytllcmjdfgbiijaa
open Go.RowKit
set_option maxRecDepth 100000
theorem SA14.to {w : World} {S : Sv14} {A0 A1 A2 A3 A4 : Option Addr} {n0 n1 n2 n3 n4 c0 c1 c2 c3 c4 : Nat} {sq : Int} (h : SA14 w S A0 A1 A2 A3 A4 n0 n1 n2 n3 n4 c0 c1 c2 c3 c4 sq) : St14 w (.agg #[.slice A0 n0 c0, .slice A1 n1 c1, .slice A2 n2 c2, .slice A3 n3 c3, .slice A4 n4 c4, .int .i64 sq]) S := ⟨A0, A1, A2, A3, A4, n0, n1, n2, n3, n4, c0, c1, c2, c3, c4, sq, rfl, h⟩
end Go.Proofs.Ytllcmjdfgbiijaa
namespace Go.Proofs.Ytllcmjdfgbiijaa
open Go.RowKit
set_option maxRecDepth 100000
/-- A row's block is another one. -/
def Fx14 (g : Nat) (A : Option Addr) (vs : List Value) : Prop := vs ≠ [] → ∃ b o, A = some ⟨b, o, none⟩ ∧ b ≠ g
theorem lq14_far {α : Type} {cl : α → List Value} {W : World} {A : Option Addr} {xs : List α} {p : Addr} (h : Lq cl W W.heap.size A xs) (hf : Fx14 p.block A (fl14 cl xs)) (u : Value) : Lq cl (W.setCell p u) (W.setCell p u).heap.size A xs := by
  have h2 : (W.setCell p u).heap.size = W.heap.size := by simp [World.setCell]
  rw [h2]
  intro hx
  obtain ⟨b, o, h1, h3⟩ := hf hx
  obtain ⟨b', o', e1, e2, e3⟩ := h hx
  rw [h1] at e1
  injection e1 with e1
  injection e1 with eb eo
  subst eb eo
  exact ⟨b, o, h1, e2, fun k v hk => (World.cell?_setCell_other _ _ _ _ (by intro e; first | exact h3 (by rw [← e]) | exact h3 (by rw [e]))).trans (e3 k v hk)⟩
/-- A state's rows lie in other blocks. -/
structure Ap14 (g : Nat) (S : Sv14) (A0 A1 A2 A3 A4 : Option Addr) : Prop where
  f0 : Fx14 g A0 (fl14 clC S.C)
  f1 : Fx14 g A1 (fl14 clT S.T)
  f2 : Fx14 g A2 (fl14 clH S.H)
  f3 : Fx14 g A3 (fl14 clL S.L)
  f4 : Fx14 g A4 (fl14 clI S.Q)
theorem SA14.far {W : World} {S : Sv14} {A0 A1 A2 A3 A4 : Option Addr} {n0 n1 n2 n3 n4 c0 c1 c2 c3 c4 : Nat} {sq : Int} {q : Addr} (h : SA14 W S A0 A1 A2 A3 A4 n0 n1 n2 n3 n4 c0 c1 c2 c3 c4 sq) (hf : Ap14 q.block S A0 A1 A2 A3 A4) (u : Value) : SA14 (W.setCell q u) S A0 A1 A2 A3 A4 n0 n1 n2 n3 n4 c0 c1 c2 c3 c4 sq :=
  ⟨h.l0, h.l1, h.l2, h.l3, h.l4, lq14_far h.r0 hf.f0 u, lq14_far h.r1 hf.f1 u, lq14_far h.r2 hf.f2 u, lq14_far h.r3 hf.f3 u, lq14_far h.r4 hf.f4 u, h.k0, h.k1, h.k2, h.k3, h.k4, h.m0, h.m1, h.m2, h.m3, h.m4, h.e⟩
/-- A state is written into its variable. -/
def put6 (W : World) (g : Nat) (A0 A1 A2 A3 A4 : Option Addr) (n0 n1 n2 n3 n4 c0 c1 c2 c3 c4 : Nat) (sq : Int) : World := ((((((W.setCell ⟨g, 0, none⟩ (.slice A0 n0 c0)).setCell ⟨g, 1, none⟩ (.slice A1 n1 c1)).setCell ⟨g, 2, none⟩ (.slice A2 n2 c2)).setCell ⟨g, 3, none⟩ (.slice A3 n3 c3)).setCell ⟨g, 4, none⟩ (.slice A4 n4 c4)).setCell ⟨g, 5, none⟩ (.int .i64 sq))
theorem Blk.put6 {W : World} {g : Nat} {x0 x1 x2 x3 x4 x5 : Value} (h : Blk W g 28 #[x0, x1, x2, x3, x4, x5]) (A0 A1 A2 A3 A4 : Option Addr) (n0 n1 n2 n3 n4 c0 c1 c2 c3 c4 : Nat) (sq : Int) : Blk (put6 W g A0 A1 A2 A3 A4 n0 n1 n2 n3 n4 c0 c1 c2 c3 c4 sq) g 28 #[.slice A0 n0 c0, .slice A1 n1 c1, .slice A2 n2 c2, .slice A3 n3 c3, .slice A4 n4 c4, .int .i64 sq] := by
  have h1 := ((((((h.set_ 0 (.slice A0 n0 c0)).set_ 1 (.slice A1 n1 c1)).set_ 2 (.slice A2 n2 c2)).set_ 3 (.slice A3 n3 c3)).set_ 4 (.slice A4 n4 c4)).set_ 5 (.int .i64 sq))
  simp only [List.setIfInBounds_toArray, List.set_cons_zero, List.set_cons_succ] at h1
  unfold Go.Proofs.Ytllcmjdfgbiijaa.put6
  exact h1
theorem put6_below {B : Nat} {W0 W : World} (h : Below B W0 W) {g : Nat} (hg : B ≤ g) (A0 A1 A2 A3 A4 : Option Addr) (n0 n1 n2 n3 n4 c0 c1 c2 c3 c4 : Nat) (sq : Int) : Below B W0 (put6 W g A0 A1 A2 A3 A4 n0 n1 n2 n3 n4 c0 c1 c2 c3 c4 sq) :=
  ((((((h.setCell (p := ⟨g, 0, none⟩) hg _).setCell (p := ⟨g, 1, none⟩) hg _).setCell (p := ⟨g, 2, none⟩) hg _).setCell (p := ⟨g, 3, none⟩) hg _).setCell (p := ⟨g, 4, none⟩) hg _).setCell (p := ⟨g, 5, none⟩) hg _)
theorem SA14.put6 {W : World} {S : Sv14} {A0 A1 A2 A3 A4 : Option Addr} {n0 n1 n2 n3 n4 c0 c1 c2 c3 c4 : Nat} {sq : Int} {g : Nat} (h : SA14 W S A0 A1 A2 A3 A4 n0 n1 n2 n3 n4 c0 c1 c2 c3 c4 sq) (hf : Ap14 g S A0 A1 A2 A3 A4) (B0 B1 B2 B3 B4 : Option Addr) (m0 m1 m2 m3 m4 d0 d1 d2 d3 d4 : Nat) (sp : Int) : SA14 (put6 W g B0 B1 B2 B3 B4 m0 m1 m2 m3 m4 d0 d1 d2 d3 d4 sp) S A0 A1 A2 A3 A4 n0 n1 n2 n3 n4 c0 c1 c2 c3 c4 sq :=
  ((((((h.far (q := ⟨g, 0, none⟩) hf _).far (q := ⟨g, 1, none⟩) hf _).far (q := ⟨g, 2, none⟩) hf _).far (q := ⟨g, 3, none⟩) hf _).far (q := ⟨g, 4, none⟩) hf _).far (q := ⟨g, 5, none⟩) hf _)
theorem Blk.put6_far {W : World} {b : Nat} {t : TypeId} {cs : Array Value} (h : Blk W b t cs) {g : Nat} (hb : b ≠ g) (A0 A1 A2 A3 A4 : Option Addr) (n0 n1 n2 n3 n4 c0 c1 c2 c3 c4 : Nat) (sq : Int) : Blk (Go.Proofs.Ytllcmjdfgbiijaa.put6 W g A0 A1 A2 A3 A4 n0 n1 n2 n3 n4 c0 c1 c2 c3 c4 sq) b t cs :=
  ((((((h.far (p := ⟨g, 0, none⟩) hb _).far (p := ⟨g, 1, none⟩) hb _).far (p := ⟨g, 2, none⟩) hb _).far (p := ⟨g, 3, none⟩) hb _).far (p := ⟨g, 4, none⟩) hb _).far (p := ⟨g, 5, none⟩) hb _)
end Go.Proofs.Ytllcmjdfgbiijaa
