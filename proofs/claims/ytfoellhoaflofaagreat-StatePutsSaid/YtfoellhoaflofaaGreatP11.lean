/-
  SaidStatePuts, part 11 of 26: what the theorem statePuts_holds reaches.
-/
import Derived.Test.YtfoellhoaflofaaGreatP10
namespace Go.Proofs.YtfoellhoaflofaaGreat
open Go.RowKit
set_option maxRecDepth 100000
set_option maxHeartbeats 8000000 in
theorem rsame14_q (v u : Value) (S R : Sv14) (w : World) (h : St14 w v S) (g : St14 w u R) (ne : ¬ S.q = R.q) :
    Calls Tryz.prog 8 #[v, u] w fun e w' => e = .returned (.bool false) ∧ Below w.heap.size w w' := by
  obtain ⟨A0, A1, A2, A3, A4, n0, n1, n2, n3, n4, c0, c1, c2, c3, c4, sq, rfl, hs⟩ := h
  obtain ⟨B0, B1, B2, B3, B4, m0, m1, m2, m3, m4, d0, d1, d2, d3, d4, sr, rfl, hr⟩ := g
  have HT0 := Lib.hid (Two14.new hs hr)
  have hne : ¬ sq = sr := by rw [← hs.e, ← hr.e]; exact ne
  have t0 := HT0.out.x.cell 0
  have y0 := HT0.out.y.cell 0
  have t1 := HT0.out.x.cell 1
  have y1 := HT0.out.y.cell 1
  have t2 := HT0.out.x.cell 2
  have y2 := HT0.out.y.cell 2
  have t3 := HT0.out.x.cell 3
  have y3 := HT0.out.y.cell 3
  have t4 := HT0.out.x.cell 4
  have y4 := HT0.out.y.cell 4
  have t5 := HT0.out.x.cell 5
  have y5 := HT0.out.y.cell 5
  clear hs hr ne
  go_enter Tryz.func8, Tryz.ntmps8
  go_wp2_with fail
  go_ret
  exact ⟨rfl, HT0.out.b⟩
set_option maxHeartbeats 8000000 in
theorem rsame14_l0 (v u : Value) (S R : Sv14) (w : World) (h : St14 w v S) (g : St14 w u R) (eq : S.q = R.q) (ne : ¬ S.C.length = R.C.length) :
    Calls Tryz.prog 8 #[v, u] w fun e w' => e = .returned (.bool false) ∧ Below w.heap.size w w' := by
  obtain ⟨A0, A1, A2, A3, A4, n0, n1, n2, n3, n4, c0, c1, c2, c3, c4, sq, rfl, hs⟩ := h
  obtain ⟨B0, B1, B2, B3, B4, m0, m1, m2, m3, m4, d0, d1, d2, d3, d4, sr, rfl, hr⟩ := g
  have HT0 := Lib.hid (Two14.new hs hr)
  obtain rfl : sq = sr := by rw [← hs.e, ← hr.e]; exact eq
  have hne : ¬ (n0 : Int) = (m0 : Int) := by have := hs.l0; have := hr.l0; omega
  have t0 := HT0.out.x.cell 0
  have y0 := HT0.out.y.cell 0
  have t1 := HT0.out.x.cell 1
  have y1 := HT0.out.y.cell 1
  have t2 := HT0.out.x.cell 2
  have y2 := HT0.out.y.cell 2
  have t3 := HT0.out.x.cell 3
  have y3 := HT0.out.y.cell 3
  have t4 := HT0.out.x.cell 4
  have y4 := HT0.out.y.cell 4
  have t5 := HT0.out.x.cell 5
  have y5 := HT0.out.y.cell 5
  clear hs hr ne eq
  go_enter Tryz.func8, Tryz.ntmps8
  go_wp2_with fail
  go_ret
  exact ⟨rfl, HT0.out.b⟩
set_option maxHeartbeats 8000000 in
theorem rsame14_l1 (v u : Value) (S R : Sv14) (w : World) (h : St14 w v S) (g : St14 w u R) (eq : S.q = R.q) (l0 : S.C.length = R.C.length) (ne : ¬ S.T.length = R.T.length) :
    Calls Tryz.prog 8 #[v, u] w fun e w' => e = .returned (.bool false) ∧ Below w.heap.size w w' := by
  obtain ⟨A0, A1, A2, A3, A4, n0, n1, n2, n3, n4, c0, c1, c2, c3, c4, sq, rfl, hs⟩ := h
  obtain ⟨B0, B1, B2, B3, B4, m0, m1, m2, m3, m4, d0, d1, d2, d3, d4, sr, rfl, hr⟩ := g
  have HT0 := Lib.hid (Two14.new hs hr)
  obtain rfl : sq = sr := by rw [← hs.e, ← hr.e]; exact eq
  obtain rfl : n0 = m0 := by rw [← hs.l0, ← hr.l0]; exact l0
  have hne : ¬ (n1 : Int) = (m1 : Int) := by have := hs.l1; have := hr.l1; omega
  have t0 := HT0.out.x.cell 0
  have y0 := HT0.out.y.cell 0
  have t1 := HT0.out.x.cell 1
  have y1 := HT0.out.y.cell 1
  have t2 := HT0.out.x.cell 2
  have y2 := HT0.out.y.cell 2
  have t3 := HT0.out.x.cell 3
  have y3 := HT0.out.y.cell 3
  have t4 := HT0.out.x.cell 4
  have y4 := HT0.out.y.cell 4
  have t5 := HT0.out.x.cell 5
  have y5 := HT0.out.y.cell 5
  clear hs hr ne eq l0
  go_enter Tryz.func8, Tryz.ntmps8
  go_wp2_with fail
  go_ret
  exact ⟨rfl, HT0.out.b⟩
set_option maxHeartbeats 8000000 in
theorem rsame14_l2 (v u : Value) (S R : Sv14) (w : World) (h : St14 w v S) (g : St14 w u R) (eq : S.q = R.q) (l0 : S.C.length = R.C.length) (l1 : S.T.length = R.T.length) (ne : ¬ S.H.length = R.H.length) :
    Calls Tryz.prog 8 #[v, u] w fun e w' => e = .returned (.bool false) ∧ Below w.heap.size w w' := by
  obtain ⟨A0, A1, A2, A3, A4, n0, n1, n2, n3, n4, c0, c1, c2, c3, c4, sq, rfl, hs⟩ := h
  obtain ⟨B0, B1, B2, B3, B4, m0, m1, m2, m3, m4, d0, d1, d2, d3, d4, sr, rfl, hr⟩ := g
  have HT0 := Lib.hid (Two14.new hs hr)
  obtain rfl : sq = sr := by rw [← hs.e, ← hr.e]; exact eq
  obtain rfl : n0 = m0 := by rw [← hs.l0, ← hr.l0]; exact l0
  obtain rfl : n1 = m1 := by rw [← hs.l1, ← hr.l1]; exact l1
  have hne : ¬ (n2 : Int) = (m2 : Int) := by have := hs.l2; have := hr.l2; omega
  have t0 := HT0.out.x.cell 0
  have y0 := HT0.out.y.cell 0
  have t1 := HT0.out.x.cell 1
  have y1 := HT0.out.y.cell 1
  have t2 := HT0.out.x.cell 2
  have y2 := HT0.out.y.cell 2
  have t3 := HT0.out.x.cell 3
  have y3 := HT0.out.y.cell 3
  have t4 := HT0.out.x.cell 4
  have y4 := HT0.out.y.cell 4
  have t5 := HT0.out.x.cell 5
  have y5 := HT0.out.y.cell 5
  clear hs hr ne eq l0 l1
  go_enter Tryz.func8, Tryz.ntmps8
  go_wp2_with fail
  go_ret
  exact ⟨rfl, HT0.out.b⟩
set_option maxHeartbeats 8000000 in
theorem rsame14_l3 (v u : Value) (S R : Sv14) (w : World) (h : St14 w v S) (g : St14 w u R) (eq : S.q = R.q) (l0 : S.C.length = R.C.length) (l1 : S.T.length = R.T.length) (l2 : S.H.length = R.H.length) (ne : ¬ S.L.length = R.L.length) :
    Calls Tryz.prog 8 #[v, u] w fun e w' => e = .returned (.bool false) ∧ Below w.heap.size w w' := by
  obtain ⟨A0, A1, A2, A3, A4, n0, n1, n2, n3, n4, c0, c1, c2, c3, c4, sq, rfl, hs⟩ := h
  obtain ⟨B0, B1, B2, B3, B4, m0, m1, m2, m3, m4, d0, d1, d2, d3, d4, sr, rfl, hr⟩ := g
  have HT0 := Lib.hid (Two14.new hs hr)
  obtain rfl : sq = sr := by rw [← hs.e, ← hr.e]; exact eq
  obtain rfl : n0 = m0 := by rw [← hs.l0, ← hr.l0]; exact l0
  obtain rfl : n1 = m1 := by rw [← hs.l1, ← hr.l1]; exact l1
  obtain rfl : n2 = m2 := by rw [← hs.l2, ← hr.l2]; exact l2
  have hne : ¬ (n3 : Int) = (m3 : Int) := by have := hs.l3; have := hr.l3; omega
  have t0 := HT0.out.x.cell 0
  have y0 := HT0.out.y.cell 0
  have t1 := HT0.out.x.cell 1
  have y1 := HT0.out.y.cell 1
  have t2 := HT0.out.x.cell 2
  have y2 := HT0.out.y.cell 2
  have t3 := HT0.out.x.cell 3
  have y3 := HT0.out.y.cell 3
  have t4 := HT0.out.x.cell 4
  have y4 := HT0.out.y.cell 4
  have t5 := HT0.out.x.cell 5
  have y5 := HT0.out.y.cell 5
  clear hs hr ne eq l0 l1 l2
  go_enter Tryz.func8, Tryz.ntmps8
  go_wp2_with fail
  go_ret
  exact ⟨rfl, HT0.out.b⟩
set_option maxHeartbeats 8000000 in
theorem rsame14_Q (v u : Value) (S R : Sv14) (w : World) (h : St14 w v S) (g : St14 w u R) (eq : S.q = R.q) (l0 : S.C.length = R.C.length) (l1 : S.T.length = R.T.length) (l2 : S.H.length = R.H.length) (l3 : S.L.length = R.L.length) (ne : ¬ S.Q = R.Q) :
    Calls Tryz.prog 8 #[v, u] w fun e w' => e = .returned (.bool false) ∧ Below w.heap.size w w' := by
  obtain ⟨A0, A1, A2, A3, A4, n0, n1, n2, n3, n4, c0, c1, c2, c3, c4, sq, rfl, hs⟩ := h
  obtain ⟨B0, B1, B2, B3, B4, m0, m1, m2, m3, m4, d0, d1, d2, d3, d4, sr, rfl, hr⟩ := g
  have HT0 := Lib.hid (Two14.new hs hr)
  obtain rfl : sq = sr := by rw [← hs.e, ← hr.e]; exact eq
  obtain rfl : n0 = m0 := by rw [← hs.l0, ← hr.l0]; exact l0
  obtain rfl : n1 = m1 := by rw [← hs.l1, ← hr.l1]; exact l1
  obtain rfl : n2 = m2 := by rw [← hs.l2, ← hr.l2]; exact l2
  obtain rfl : n3 = m3 := by rw [← hs.l3, ← hr.l3]; exact l3
  have HI := Lib.hid (fun W (h : Two14 w S R A0 A1 A2 A3 A4 n0 n1 n2 n3 n4 c0 c1 c2 c3 c4 sq B0 B1 B2 B3 B4 n0 n1 n2 n3 m4 d0 d1 d2 d3 d4 sq W) => ints14 A4 B4 S.Q R.Q n4 c4 m4 d4 W h.s.l4 h.s.r4 (by have := h.s.m4; omega) h.r.l4 h.r.r4 (by have := h.r.m4; omega) false (by simp [ne]))
  have t0 := HT0.out.x.cell 0
  have y0 := HT0.out.y.cell 0
  have t1 := HT0.out.x.cell 1
  have y1 := HT0.out.y.cell 1
  have t2 := HT0.out.x.cell 2
  have y2 := HT0.out.y.cell 2
  have t3 := HT0.out.x.cell 3
  have y3 := HT0.out.y.cell 3
  have t4 := HT0.out.x.cell 4
  have y4 := HT0.out.y.cell 4
  have t5 := HT0.out.x.cell 5
  have y5 := HT0.out.y.cell 5
  clear hs hr ne eq l0 l1 l2 l3
  go_enter Tryz.func8, Tryz.ntmps8
  go_wp2_with fail
  refine (HI.out _ HT0.out).mono ?_
  rintro e w1 ⟨rfl, hb1⟩
  have HT1 := Lib.hid (HT0.out.step hb1)
  clear HI hb1
  go_wp2_with fail
  go_ret
  exact ⟨rfl, HT1.out.b⟩
set_option maxHeartbeats 8000000 in
theorem rsame14_all (v u : Value) (S R : Sv14) (w : World) (h : St14 w v S) (g : St14 w u R) (eq : S.q = R.q) (l0 : S.C.length = R.C.length) (l1 : S.T.length = R.T.length) (l2 : S.H.length = R.H.length) (l3 : S.L.length = R.L.length) (eQ : S.Q = R.Q) (b : Bool) (hb : b = true ↔ S = R) :
    Calls Tryz.prog 8 #[v, u] w fun e w' => e = .returned (.bool b) ∧ Below w.heap.size w w' := by
  obtain ⟨A0, A1, A2, A3, A4, n0, n1, n2, n3, n4, c0, c1, c2, c3, c4, sq, rfl, hs⟩ := h
  obtain ⟨B0, B1, B2, B3, B4, m0, m1, m2, m3, m4, d0, d1, d2, d3, d4, sr, rfl, hr⟩ := g
  have HT0 := Lib.hid (Two14.new hs hr)
  obtain rfl : sq = sr := by rw [← hs.e, ← hr.e]; exact eq
  obtain rfl : n0 = m0 := by rw [← hs.l0, ← hr.l0]; exact l0
  obtain rfl : n1 = m1 := by rw [← hs.l1, ← hr.l1]; exact l1
  obtain rfl : n2 = m2 := by rw [← hs.l2, ← hr.l2]; exact l2
  obtain rfl : n3 = m3 := by rw [← hs.l3, ← hr.l3]; exact l3
  have HI := Lib.hid (fun W (h : Two14 w S R A0 A1 A2 A3 A4 n0 n1 n2 n3 n4 c0 c1 c2 c3 c4 sq B0 B1 B2 B3 B4 n0 n1 n2 n3 m4 d0 d1 d2 d3 d4 sq W) => ints14 A4 B4 S.Q R.Q n4 c4 m4 d4 W h.s.l4 h.s.r4 (by have := h.s.m4; omega) h.r.l4 h.r.r4 (by have := h.r.m4; omega) true (by simp [eQ]))
  have t0 := HT0.out.x.cell 0
  have y0 := HT0.out.y.cell 0
  have t1 := HT0.out.x.cell 1
  have y1 := HT0.out.y.cell 1
  have t2 := HT0.out.x.cell 2
  have y2 := HT0.out.y.cell 2
  have t3 := HT0.out.x.cell 3
  have y3 := HT0.out.y.cell 3
  have t4 := HT0.out.x.cell 4
  have y4 := HT0.out.y.cell 4
  have t5 := HT0.out.x.cell 5
  have y5 := HT0.out.y.cell 5
  have HB := Lib.hid hb
  have HEQ := Lib.hid eq
  have HEQQ := Lib.hid eQ
  have HL0 := Lib.hid hs.l0
  have HM0 := Lib.hid hr.l0
  have HL1 := Lib.hid hs.l1
  have HM1 := Lib.hid hr.l1
  have HL2 := Lib.hid hs.l2
  have HM2 := Lib.hid hr.l2
  have HL3 := Lib.hid hs.l3
  have HM3 := Lib.hid hr.l3
  clear hs hr eQ eq l0 l1 l2 l3 hb
  go_enter Tryz.func8, Tryz.ntmps8
  go_wp2_with fail
  refine (HI.out _ HT0.out).mono ?_
  rintro e w1 ⟨rfl, hb1⟩
  have HT1 := Lib.hid (HT0.out.step hb1)
  clear HI hb1 t0 y0 t1 y1 t2 y2 t3 y3 t4 y4 t5 y5
  go_wp2_with fail
  go_loopw [5] (fun i wr => ∃ k : Nat, i = .int .i64 (k : Int) ∧ k ≤ n0 ∧ Hid (∀ j, j < k → gt14 S.C j = gt14 R.C j) ∧ Hid (Two14 w S R A0 A1 A2 A3 A4 n0 n1 n2 n3 n4 c0 c1 c2 c3 c4 sq B0 B1 B2 B3 B4 n0 n1 n2 n3 m4 d0 d1 d2 d3 d4 sq wr)) (fun i _ => n0 - (intOf i).toNat)
  case atStart => exact ⟨0, rfl, by omega, Lib.hid (fun j h => by omega), HT1⟩
  case round =>
    obtain ⟨k, rfl, hk, HE0, HW0⟩ := hrel
    have t0 := HW0.out.x.cell 0
    have y0 := HW0.out.y.cell 0
    have hnb := HW0.out.s.m0
    by_cases hkn : k < n0
    · obtain ⟨g, o, hA, hag, hq⟩ := Lq.at_ len14C (by omega) HW0.out.s.r0 (show k < S.C.length by have := HL0.out; omega)
      subst hA
      obtain ⟨g2, o2, hB, hbg, hq2⟩ := Lq.at_ len14C (by omega) HW0.out.r.r0 (show k < R.C.length by have := HM0.out; omega)
      subst hB
      obtain ⟨x, hx⟩ : ∃ x, gt14 S.C k = x := ⟨_, rfl⟩
      obtain ⟨y, hy⟩ : ∃ y, gt14 R.C k = y := ⟨_, rfl⟩
      rw [hx] at hq
      rw [hy] at hq2
      have HX := Lib.hid hx
      have HY := Lib.hid hy
      obtain ⟨xu, hxe⟩ : ∃ z0, z0 = x := ⟨_, rfl⟩; subst hxe
      obtain ⟨yu, hxe⟩ : ∃ z0, z0 = y := ⟨_, rfl⟩; subst hxe
      have i0 : (0 : Int) ≤ (k : Int) := by omega
      have i1 : (k : Int) < (n0 : Int) := by omega
      have q0 : wr.cell? ⟨g, o + k, none⟩ = some (.bool xu) := by have h := hq 0 _ rfl; rwa [Nat.mul_one] at h
      have p0 : wr.cell? ⟨g2, o2 + k, none⟩ = some (.bool yu) := by have h := hq2 0 _ rfl; rwa [Nat.mul_one] at h
      clear hq hq2 hx hy
      by_cases he : (xu : Bool) = yu
      · have HE2 : Hid (∀ j, j < k + 1 → gt14 S.C j = gt14 R.C j) := Lib.hid (fun j hj => by
          rcases (show j < k ∨ j = k by omega) with h | rfl
          · exact HE0.out j h
          · rw [HX.out, HY.out, he])
        cases xu with
        | false =>
          obtain rfl : yu = false := he.symm
          clear he
          go_wp2_with fail
          go_region
          go_wp2_with fail
          go_roundw
          case rel => exact ⟨k + 1, by go_num, by omega, HE2, Lib.hid (HW0.out.step (Below.refl _ _).drew)⟩
          case measure => simp [intOf]; omega
        | true =>
          obtain rfl : yu = true := he.symm
          clear he
          go_wp2_with fail
          go_region
          go_wp2_with fail
          go_roundw
          case rel => exact ⟨k + 1, by go_num, by omega, HE2, Lib.hid (HW0.out.step (Below.refl _ _).drew)⟩
          case measure => simp [intOf]; omega
      · have HF : Hid (b = false) := Lib.hid (bool14_of HB.out (fun h => he (by rw [← HX.out, ← HY.out, h])))
        cases xu with
        | false =>
          obtain rfl : yu = true := bool14f he
          clear he
          go_wp2_with fail
          go_region
          go_wp2_with fail
          go_ret
          exact ⟨by rw [HF.out]; rfl, (HW0.out.step (Below.refl _ _).drew).b⟩
        | true =>
          obtain rfl : yu = false := bool14t he
          clear he
          go_wp2_with fail
          go_region
          go_wp2_with fail
          go_ret
          exact ⟨by rw [HF.out]; rfl, (HW0.out.step (Below.refl _ _).drew).b⟩
    · have h1 : ¬ (k : Int) < (n0 : Int) := by omega
      have HD0 : Hid (S.C = R.C) := Lib.hid (ext14 (by rw [HL0.out, HM0.out]) (fun j hj => HE0.out j (by have := HL0.out; omega)))
      go_wp2_with fail
      go_loopw [6] (fun i wr => ∃ k : Nat, i = .int .i64 (k : Int) ∧ k ≤ n1 ∧ Hid (∀ j, j < k → gt14 S.T j = gt14 R.T j) ∧ Hid (Two14 w S R A0 A1 A2 A3 A4 n0 n1 n2 n3 n4 c0 c1 c2 c3 c4 sq B0 B1 B2 B3 B4 n0 n1 n2 n3 m4 d0 d1 d2 d3 d4 sq wr)) (fun i _ => n1 - (intOf i).toNat)
      case atStart => exact ⟨0, rfl, by omega, Lib.hid (fun j h => by omega), HW0⟩
      case round =>
        obtain ⟨k, rfl, hk, HE1, HW1⟩ := hrel
        have t0 := HW1.out.x.cell 1
        have y0 := HW1.out.y.cell 1
        have hnb := HW1.out.s.m1
        by_cases hkn : k < n1
        · obtain ⟨g, o, hA, hag, hq⟩ := Lq.at_ len14T (by omega) HW1.out.s.r1 (show k < S.T.length by have := HL1.out; omega)
          subst hA
          obtain ⟨g2, o2, hB, hbg, hq2⟩ := Lq.at_ len14T (by omega) HW1.out.r.r1 (show k < R.T.length by have := HM1.out; omega)
          subst hB
          obtain ⟨x, hx⟩ : ∃ x, gt14 S.T k = x := ⟨_, rfl⟩
          obtain ⟨y, hy⟩ : ∃ y, gt14 R.T k = y := ⟨_, rfl⟩
          rw [hx] at hq
          rw [hy] at hq2
          have HX := Lib.hid hx
          have HY := Lib.hid hy
          obtain ⟨xu, xc, xa, xk, xt, xo⟩ := x
          obtain ⟨yu, yc, ya, yk, yt, yo⟩ := y
          have i0 : (0 : Int) ≤ (k : Int) := by omega
          have i1 : (k : Int) < (n1 : Int) := by omega
          have q0 : wr.cell? ⟨g, o + k * 6, none⟩ = some (.bool xu) := hq 0 _ rfl
          have q1 : wr.cell? ⟨g, o + k * 6 + 1, none⟩ = some (.int .i64 xc) := hq 1 _ rfl
          have q2 : wr.cell? ⟨g, o + k * 6 + 2, none⟩ = some (.int .i64 xa) := hq 2 _ rfl
          have q3 : wr.cell? ⟨g, o + k * 6 + 3, none⟩ = some (.int .i64 xk) := hq 3 _ rfl
          have q4 : wr.cell? ⟨g, o + k * 6 + 4, none⟩ = some (.int .i64 xt) := hq 4 _ rfl
          have q5 : wr.cell? ⟨g, o + k * 6 + 5, none⟩ = some (.bool xo) := hq 5 _ rfl
          have p0 : wr.cell? ⟨g2, o2 + k * 6, none⟩ = some (.bool yu) := hq2 0 _ rfl
          have p1 : wr.cell? ⟨g2, o2 + k * 6 + 1, none⟩ = some (.int .i64 yc) := hq2 1 _ rfl
          have p2 : wr.cell? ⟨g2, o2 + k * 6 + 2, none⟩ = some (.int .i64 ya) := hq2 2 _ rfl
          have p3 : wr.cell? ⟨g2, o2 + k * 6 + 3, none⟩ = some (.int .i64 yk) := hq2 3 _ rfl
          have p4 : wr.cell? ⟨g2, o2 + k * 6 + 4, none⟩ = some (.int .i64 yt) := hq2 4 _ rfl
          have p5 : wr.cell? ⟨g2, o2 + k * 6 + 5, none⟩ = some (.bool yo) := hq2 5 _ rfl
          have hneq := neq14T xu xc xa xk xt xo yu yc ya yk yt yo
          have hgd := guard14T
          clear hq hq2 hx hy
          by_cases he : (⟨xu, xc, xa, xk, xt, xo⟩ : Tk14) = ⟨yu, yc, ya, yk, yt, yo⟩
          · have HE2 : Hid (∀ j, j < k + 1 → gt14 S.T j = gt14 R.T j) := Lib.hid (fun j hj => by
              rcases (show j < k ∨ j = k by omega) with h | rfl
              · exact HE1.out j h
              · rw [HX.out, HY.out, he])
            rw [decide_eq_true he] at hneq
            clear he
            go_wp2_with fail
            go_region
            go_wp2_with fail
            go_roundw
            case rel => exact ⟨k + 1, by go_num, by omega, HE2, Lib.hid (HW1.out.step (Below.refl _ _).drew)⟩
            case measure => simp [intOf]; omega
          · have HF : Hid (b = false) := Lib.hid (bool14_of HB.out (fun h => he (by rw [← HX.out, ← HY.out, h])))
            rw [decide_eq_false he] at hneq
            clear he
            go_wp2_with fail
            go_region
            go_wp2_with fail
            go_ret
            exact ⟨by rw [HF.out]; rfl, (HW1.out.step (Below.refl _ _).drew).b⟩
        · have h1 : ¬ (k : Int) < (n1 : Int) := by omega
          have HD1 : Hid (S.T = R.T) := Lib.hid (ext14 (by rw [HL1.out, HM1.out]) (fun j hj => HE1.out j (by have := HL1.out; omega)))
          go_wp2_with fail
          go_loopw [7] (fun i wr => ∃ k : Nat, i = .int .i64 (k : Int) ∧ k ≤ n2 ∧ Hid (∀ j, j < k → gt14 S.H j = gt14 R.H j) ∧ Hid (Two14 w S R A0 A1 A2 A3 A4 n0 n1 n2 n3 n4 c0 c1 c2 c3 c4 sq B0 B1 B2 B3 B4 n0 n1 n2 n3 m4 d0 d1 d2 d3 d4 sq wr)) (fun i _ => n2 - (intOf i).toNat)
          case atStart => exact ⟨0, rfl, by omega, Lib.hid (fun j h => by omega), HW1⟩
          case round =>
            obtain ⟨k, rfl, hk, HE2, HW2⟩ := hrel
            have t0 := HW2.out.x.cell 2
            have y0 := HW2.out.y.cell 2
            have hnb := HW2.out.s.m2
            by_cases hkn : k < n2
            · obtain ⟨g, o, hA, hag, hq⟩ := Lq.at_ len14H (by omega) HW2.out.s.r2 (show k < S.H.length by have := HL2.out; omega)
              subst hA
              obtain ⟨g2, o2, hB, hbg, hq2⟩ := Lq.at_ len14H (by omega) HW2.out.r.r2 (show k < R.H.length by have := HM2.out; omega)
              subst hB
              obtain ⟨x, hx⟩ : ∃ x, gt14 S.H k = x := ⟨_, rfl⟩
              obtain ⟨y, hy⟩ : ∃ y, gt14 R.H k = y := ⟨_, rfl⟩
              rw [hx] at hq
              rw [hy] at hq2
              have HX := Lib.hid hx
              have HY := Lib.hid hy
              obtain ⟨xz, xf, xc, xq, xu⟩ := x
              obtain ⟨yz, yf, yc, yq, yu⟩ := y
              have i0 : (0 : Int) ≤ (k : Int) := by omega
              have i1 : (k : Int) < (n2 : Int) := by omega
              have q0 : wr.cell? ⟨g, o + k * 5, none⟩ = some (.int .i64 xz) := hq 0 _ rfl
              have q1 : wr.cell? ⟨g, o + k * 5 + 1, none⟩ = some (.int .i64 xf) := hq 1 _ rfl
              have q2 : wr.cell? ⟨g, o + k * 5 + 2, none⟩ = some (.int .i64 xc) := hq 2 _ rfl
              have q3 : wr.cell? ⟨g, o + k * 5 + 3, none⟩ = some (.int .i64 xq) := hq 3 _ rfl
              have q4 : wr.cell? ⟨g, o + k * 5 + 4, none⟩ = some (.int .i64 xu) := hq 4 _ rfl
              have p0 : wr.cell? ⟨g2, o2 + k * 5, none⟩ = some (.int .i64 yz) := hq2 0 _ rfl
              have p1 : wr.cell? ⟨g2, o2 + k * 5 + 1, none⟩ = some (.int .i64 yf) := hq2 1 _ rfl
              have p2 : wr.cell? ⟨g2, o2 + k * 5 + 2, none⟩ = some (.int .i64 yc) := hq2 2 _ rfl
              have p3 : wr.cell? ⟨g2, o2 + k * 5 + 3, none⟩ = some (.int .i64 yq) := hq2 3 _ rfl
              have p4 : wr.cell? ⟨g2, o2 + k * 5 + 4, none⟩ = some (.int .i64 yu) := hq2 4 _ rfl
              have hneq := neq14H xz xf xc xq xu yz yf yc yq yu
              have hgd := guard14H
              clear hq hq2 hx hy
              by_cases he : (⟨xz, xf, xc, xq, xu⟩ : Th14) = ⟨yz, yf, yc, yq, yu⟩
              · have HE2 : Hid (∀ j, j < k + 1 → gt14 S.H j = gt14 R.H j) := Lib.hid (fun j hj => by
                  rcases (show j < k ∨ j = k by omega) with h | rfl
                  · exact HE2.out j h
                  · rw [HX.out, HY.out, he])
                rw [decide_eq_true he] at hneq
                clear he
                go_wp2_with fail
                go_region
                go_wp2_with fail
                go_roundw
                case rel => exact ⟨k + 1, by go_num, by omega, HE2, Lib.hid (HW2.out.step (Below.refl _ _).drew)⟩
                case measure => simp [intOf]; omega
              · have HF : Hid (b = false) := Lib.hid (bool14_of HB.out (fun h => he (by rw [← HX.out, ← HY.out, h])))
                rw [decide_eq_false he] at hneq
                clear he
                go_wp2_with fail
                go_region
                go_wp2_with fail
                go_ret
                exact ⟨by rw [HF.out]; rfl, (HW2.out.step (Below.refl _ _).drew).b⟩
            · have h1 : ¬ (k : Int) < (n2 : Int) := by omega
              have HD2 : Hid (S.H = R.H) := Lib.hid (ext14 (by rw [HL2.out, HM2.out]) (fun j hj => HE2.out j (by have := HL2.out; omega)))
              go_wp2_with fail
              go_loopw [8] (fun i wr => ∃ k : Nat, i = .int .i64 (k : Int) ∧ k ≤ n3 ∧ Hid (∀ j, j < k → gt14 S.L j = gt14 R.L j) ∧ Hid (Two14 w S R A0 A1 A2 A3 A4 n0 n1 n2 n3 n4 c0 c1 c2 c3 c4 sq B0 B1 B2 B3 B4 n0 n1 n2 n3 m4 d0 d1 d2 d3 d4 sq wr)) (fun i _ => n3 - (intOf i).toNat)
              case atStart => exact ⟨0, rfl, by omega, Lib.hid (fun j h => by omega), HW2⟩
              case round =>
                obtain ⟨k, rfl, hk, HE3, HW3⟩ := hrel
                have t0 := HW3.out.x.cell 3
                have y0 := HW3.out.y.cell 3
                have hnb := HW3.out.s.m3
                by_cases hkn : k < n3
                · obtain ⟨g, o, hA, hag, hq⟩ := Lq.at_ len14L (by omega) HW3.out.s.r3 (show k < S.L.length by have := HL3.out; omega)
                  subst hA
                  obtain ⟨g2, o2, hB, hbg, hq2⟩ := Lq.at_ len14L (by omega) HW3.out.r.r3 (show k < R.L.length by have := HM3.out; omega)
                  subst hB
                  obtain ⟨x, hx⟩ : ∃ x, gt14 S.L k = x := ⟨_, rfl⟩
                  obtain ⟨y, hy⟩ : ∃ y, gt14 R.L k = y := ⟨_, rfl⟩
                  rw [hx] at hq
                  rw [hy] at hq2
                  have HX := Lib.hid hx
                  have HY := Lib.hid hy
                  obtain ⟨xu, xh⟩ := x
                  obtain ⟨yu, yh⟩ := y
                  have i0 : (0 : Int) ≤ (k : Int) := by omega
                  have i1 : (k : Int) < (n3 : Int) := by omega
                  have q0 : wr.cell? ⟨g, o + k * 2, none⟩ = some (.bool xu) := hq 0 _ rfl
                  have q1 : wr.cell? ⟨g, o + k * 2 + 1, none⟩ = some (.int .i64 xh) := hq 1 _ rfl
                  have p0 : wr.cell? ⟨g2, o2 + k * 2, none⟩ = some (.bool yu) := hq2 0 _ rfl
                  have p1 : wr.cell? ⟨g2, o2 + k * 2 + 1, none⟩ = some (.int .i64 yh) := hq2 1 _ rfl
                  have hneq := neq14L xu xh yu yh
                  have hgd := guard14L
                  clear hq hq2 hx hy
                  by_cases he : (⟨xu, xh⟩ : Lk14) = ⟨yu, yh⟩
                  · have HE2 : Hid (∀ j, j < k + 1 → gt14 S.L j = gt14 R.L j) := Lib.hid (fun j hj => by
                      rcases (show j < k ∨ j = k by omega) with h | rfl
                      · exact HE3.out j h
                      · rw [HX.out, HY.out, he])
                    rw [decide_eq_true he] at hneq
                    clear he
                    go_wp2_with fail
                    go_region
                    go_wp2_with fail
                    go_roundw
                    case rel => exact ⟨k + 1, by go_num, by omega, HE2, Lib.hid (HW3.out.step (Below.refl _ _).drew)⟩
                    case measure => simp [intOf]; omega
                  · have HF : Hid (b = false) := Lib.hid (bool14_of HB.out (fun h => he (by rw [← HX.out, ← HY.out, h])))
                    rw [decide_eq_false he] at hneq
                    clear he
                    go_wp2_with fail
                    go_region
                    go_wp2_with fail
                    go_ret
                    exact ⟨by rw [HF.out]; rfl, (HW3.out.step (Below.refl _ _).drew).b⟩
                · have h1 : ¬ (k : Int) < (n3 : Int) := by omega
                  have HD3 : Hid (S.L = R.L) := Lib.hid (ext14 (by rw [HL3.out, HM3.out]) (fun j hj => HE3.out j (by have := HL3.out; omega)))
                  have HT : Hid (b = true) := Lib.hid (HB.out.2 (sv14_eq.2 ⟨HD0.out, HD1.out, HD2.out, HD3.out, HEQQ.out, HEQ.out⟩))
                  go_wp2_with fail
                  go_ret
                  exact ⟨by rw [HT.out]; rfl, HW3.out.b⟩
theorem rsame14 (v u : Value) (S R : Sv14) (w : World) (h : St14 w v S) (g : St14 w u R) (b : Bool) (hb : b = true ↔ S = R) :
    Calls Tryz.prog 8 #[v, u] w fun e w' => e = .returned (.bool b) ∧ Below w.heap.size w w' := by
  by_cases eq : S.q = R.q
  case neg =>
    obtain rfl : b = false := bool14_of hb (fun h => eq (by rw [h]))
    exact rsame14_q v u S R w h g eq
  by_cases l0 : S.C.length = R.C.length
  case neg =>
    obtain rfl : b = false := bool14_of hb (fun h => l0 (by rw [h]))
    exact rsame14_l0 v u S R w h g eq l0
  by_cases l1 : S.T.length = R.T.length
  case neg =>
    obtain rfl : b = false := bool14_of hb (fun h => l1 (by rw [h]))
    exact rsame14_l1 v u S R w h g eq l0 l1
  by_cases l2 : S.H.length = R.H.length
  case neg =>
    obtain rfl : b = false := bool14_of hb (fun h => l2 (by rw [h]))
    exact rsame14_l2 v u S R w h g eq l0 l1 l2
  by_cases l3 : S.L.length = R.L.length
  case neg =>
    obtain rfl : b = false := bool14_of hb (fun h => l3 (by rw [h]))
    exact rsame14_l3 v u S R w h g eq l0 l1 l2 l3
  by_cases eQ : S.Q = R.Q
  case neg =>
    obtain rfl : b = false := bool14_of hb (fun h => eQ (by rw [h]))
    exact rsame14_Q v u S R w h g eq l0 l1 l2 l3 eQ
  exact rsame14_all v u S R w h g eq l0 l1 l2 l3 eQ b hb
end Go.Proofs.YtfoellhoaflofaaGreat
namespace Go.Proofs.YtfoellhoaflofaaGreat
open Go.RowKit
set_option maxRecDepth 100000
theorem own14_base {w : World} {base base' : Nat} {e : TypeId} {k : Nat} {v : Value} {n : Nat} {xs : List Value} (h : w.ownsRow base e k v n xs) (hb : base' ≤ base) : w.ownsRow base' e k v n xs :=
  ⟨h.1, h.2.imp id (fun ⟨g, cap, cur, h1, h2, r⟩ => ⟨g, cap, cur, h1, Nat.le_trans hb h2, r⟩)⟩
theorem fv14_take {α : Type} {cl : α → List Value} {L : Nat} {A : Option Addr} {xs : List α} (h : Fv L A (fl14 cl xs)) (m : Nat) : Fv L A (fl14 cl (xs.take m)) := fun hx => h (fun e => hx (by
  have h1 : fl14 cl (xs.take m) ++ fl14 cl (xs.drop m) = fl14 cl xs := by rw [← fl14_append, List.take_append_drop]
  rw [e] at h1
  exact (List.append_eq_nil_iff.1 h1).1))
/-- The lists of a state, each of them the call's own, from block L on. -/
structure OA14 (w : World) (L : Nat) (S : Sv14) (A0 A1 A2 A3 A4 : Option Addr) (n0 n1 n2 n3 n4 c0 c1 c2 c3 c4 : Nat) (sq : Int) : Prop where
  o0 : w.ownsRow L 4 1 (.slice A0 n0 c0) n0 (fl14 clC S.C)
  o1 : w.ownsRow L 43 6 (.slice A1 n1 c1) n1 (fl14 clT S.T)
  o2 : w.ownsRow L 45 5 (.slice A2 n2 c2) n2 (fl14 clH S.H)
  o3 : w.ownsRow L 47 2 (.slice A3 n3 c3) n3 (fl14 clL S.L)
  o4 : w.ownsRow L 3 1 (.slice A4 n4 c4) n4 (fl14 clI S.Q)
  l0 : S.C.length = n0
  l1 : S.T.length = n1
  l2 : S.H.length = n2
  l3 : S.L.length = n3
  l4 : S.Q.length = n4
  m0 : n0 ≤ 1000
  m1 : n1 ≤ 1000
  m2 : n2 ≤ 1000
  m3 : n3 ≤ 1000
  m4 : n4 ≤ 1000
  e : S.q = sq
theorem OA14.sa {w : World} {L : Nat} {S : Sv14} {A0 A1 A2 A3 A4 : Option Addr} {n0 n1 n2 n3 n4 c0 c1 c2 c3 c4 : Nat} {sq : Int} (h : OA14 w L S A0 A1 A2 A3 A4 n0 n1 n2 n3 n4 c0 c1 c2 c3 c4 sq) : SA14 w S A0 A1 A2 A3 A4 n0 n1 n2 n3 n4 c0 c1 c2 c3 c4 sq := ⟨h.l0, h.l1, h.l2, h.l3, h.l4, Lq.of_own (by omega) h.o0, Lq.of_own (by omega) h.o1, Lq.of_own (by omega) h.o2, Lq.of_own (by omega) h.o3, Lq.of_own (by omega) h.o4, own14_cap h.o0, own14_cap h.o1, own14_cap h.o2, own14_cap h.o3, own14_cap h.o4, h.m0, h.m1, h.m2, h.m3, h.m4, h.e⟩
theorem OA14.fa {w : World} {L : Nat} {S : Sv14} {A0 A1 A2 A3 A4 : Option Addr} {n0 n1 n2 n3 n4 c0 c1 c2 c3 c4 : Nat} {sq : Int} (h : OA14 w L S A0 A1 A2 A3 A4 n0 n1 n2 n3 n4 c0 c1 c2 c3 c4 sq) : FA14 L S A0 A1 A2 A3 A4 := ⟨fv14_own h.o0, fv14_own h.o1, fv14_own h.o2, fv14_own h.o3, fv14_own h.o4⟩
theorem OA14.step {w : World} {L : Nat} {S : Sv14} {A0 A1 A2 A3 A4 : Option Addr} {n0 n1 n2 n3 n4 c0 c1 c2 c3 c4 : Nat} {sq : Int} {w' : World} (h : OA14 w L S A0 A1 A2 A3 A4 n0 n1 n2 n3 n4 c0 c1 c2 c3 c4 sq) (hb : Below w.heap.size w w') : OA14 w' L S A0 A1 A2 A3 A4 n0 n1 n2 n3 n4 c0 c1 c2 c3 c4 sq := ⟨own12_keep2 h.o0 hb, own12_keep2 h.o1 hb, own12_keep2 h.o2 hb, own12_keep2 h.o3 hb, own12_keep2 h.o4 hb, h.l0, h.l1, h.l2, h.l3, h.l4, h.m0, h.m1, h.m2, h.m3, h.m4, h.e⟩
theorem OA14.far {w : World} {L : Nat} {S : Sv14} {A0 A1 A2 A3 A4 : Option Addr} {n0 n1 n2 n3 n4 c0 c1 c2 c3 c4 : Nat} {sq : Int} (h : OA14 w L S A0 A1 A2 A3 A4 n0 n1 n2 n3 n4 c0 c1 c2 c3 c4 sq) {q : Addr} (hq : q.block < L) (u : Value) : OA14 (w.setCell q u) L S A0 A1 A2 A3 A4 n0 n1 n2 n3 n4 c0 c1 c2 c3 c4 sq := ⟨ownsRow_setCell_below h.o0 hq u, ownsRow_setCell_below h.o1 hq u, ownsRow_setCell_below h.o2 hq u, ownsRow_setCell_below h.o3 hq u, ownsRow_setCell_below h.o4 hq u, h.l0, h.l1, h.l2, h.l3, h.l4, h.m0, h.m1, h.m2, h.m3, h.m4, h.e⟩
theorem OA14.base {w : World} {L : Nat} {S : Sv14} {A0 A1 A2 A3 A4 : Option Addr} {n0 n1 n2 n3 n4 c0 c1 c2 c3 c4 : Nat} {sq : Int} {L' : Nat} (h : OA14 w L S A0 A1 A2 A3 A4 n0 n1 n2 n3 n4 c0 c1 c2 c3 c4 sq) (hL : L' ≤ L) : OA14 w L' S A0 A1 A2 A3 A4 n0 n1 n2 n3 n4 c0 c1 c2 c3 c4 sq := ⟨own14_base h.o0 hL, own14_base h.o1 hL, own14_base h.o2 hL, own14_base h.o3 hL, own14_base h.o4 hL, h.l0, h.l1, h.l2, h.l3, h.l4, h.m0, h.m1, h.m2, h.m3, h.m4, h.e⟩
def RetO14 (w : World) (S : Sv14) (e : Ending) (w' : World) : Prop := ∃ (A0 A1 A2 A3 A4 : Option Addr) (n0 n1 n2 n3 n4 c0 c1 c2 c3 c4 : Nat) (sq : Int), e = .returned (.agg #[.slice A0 n0 c0, .slice A1 n1 c1, .slice A2 n2 c2, .slice A3 n3 c3, .slice A4 n4 c4, .int .i64 sq]) ∧ OA14 w' w.heap.size S A0 A1 A2 A3 A4 n0 n1 n2 n3 n4 c0 c1 c2 c3 c4 sq ∧ Below w.heap.size w w'
set_option maxHeartbeats 8000000 in
theorem rcopy14 (v : Value) (S : Sv14) (w : World) (h : St14 w v S) : Calls Tryz.prog 71 #[v] w (RetO14 w S) := by
  obtain ⟨A0, A1, A2, A3, A4, n0, n1, n2, n3, n4, c0, c1, c2, c3, c4, sq, rfl, hs⟩ := h
  have hb0 := (b1' w (.cells #[.slice A0 n0 c0, .slice A1 n1 c1, .slice A2 n2 c2, .slice A3 n3 c3, .slice A4 n4 c4, .int .i64 sq] 28)).alloc (by simp) (.cells #[.slice none 0 0, .slice none 0 0, .slice none 0 0, .slice none 0 0, .slice none 0 0, .int .i64 0] 28)
  have hk0 := (Blk.new w 28 #[.slice A0 n0 c0, .slice A1 n1 c1, .slice A2 n2 c2, .slice A3 n3 c3, .slice A4 n4 c4, .int .i64 sq]).alloc (.cells #[.slice none 0 0, .slice none 0 0, .slice none 0 0, .slice none 0 0, .slice none 0 0, .int .i64 0] 28)
  have hr0 := Blk.new (w.alloc (.cells #[.slice A0 n0 c0, .slice A1 n1 c1, .slice A2 n2 c2, .slice A3 n3 c3, .slice A4 n4 c4, .int .i64 sq] 28)) 28 #[.slice none 0 0, .slice none 0 0, .slice none 0 0, .slice none 0 0, .slice none 0 0, .int .i64 0]
  rw [show (w.alloc (.cells #[.slice A0 n0 c0, .slice A1 n1 c1, .slice A2 n2 c2, .slice A3 n3 c3, .slice A4 n4 c4, .int .i64 sq] 28)).heap.size = w.heap.size + 1 by simp] at hr0
  have hz0 : ((w.alloc (.cells #[.slice A0 n0 c0, .slice A1 n1 c1, .slice A2 n2 c2, .slice A3 n3 c3, .slice A4 n4 c4, .int .i64 sq] 28)).alloc (.cells #[.slice none 0 0, .slice none 0 0, .slice none 0 0, .slice none 0 0, .slice none 0 0, .int .i64 0] 28)).heap.size = w.heap.size + 2 := by simp
  obtain ⟨W0, hW0⟩ : ∃ W, (w.alloc (.cells #[.slice A0 n0 c0, .slice A1 n1 c1, .slice A2 n2 c2, .slice A3 n3 c3, .slice A4 n4 c4, .int .i64 sq] 28)).alloc (.cells #[.slice none 0 0, .slice none 0 0, .slice none 0 0, .slice none 0 0, .slice none 0 0, .int .i64 0] 28) = W := ⟨_, rfl⟩
  rw [hW0] at hb0 hk0 hr0 hz0
  have hzz0 : w.heap.size + 2 ≤ W0.heap.size := by omega
  have hbx0 := b1' W0 (.cells #[] 4)
  have own0 := owns14_nil W0 W0.heap.size (Nat.le_refl _) 4 1
  have hsx0 : (W0.alloc (.cells #[] 4)).heap.size = W0.heap.size + 1 := by simp
  obtain ⟨X0, hX0⟩ : ∃ X, W0.alloc (.cells #[] 4) = X := ⟨_, rfl⟩
  rw [hX0] at hbx0 own0 hsx0
  have q0 := (hk0.below hbx0 hk0.lt).cell 0
  obtain ⟨B0, d0, u0, hrun0, hown0, hg0⟩ := run_append_14 (P := Tryz.prog) X0 W0.heap.size 22 22 4 _ 1 1 Tryz.underlying22 info14C rfl (by omega) (by omega) _ 0 [] own0 w.heap.size A0 (fl14 clC S.C) n0 c0 (by rw [fl14_len len14C, hs.l0]) (hs.r0.below (hb0.trans (hbx0.mono hb0.size)) (Nat.le_refl _)) (fl14_one clC_one _) (by have := hs.m0; omega) (by omega)
  rw [Nat.zero_add] at hrun0 hown0
  rw [List.nil_append] at hown0
  have hbu0 : Below W0.heap.size W0 u0 := hbx0.grown hg0 (by omega) (fun r hr => by cases hr; exact Nat.le_refl _)
  have kc0 := (hk0.below hbu0 hk0.lt).cell 0
  have kf0 := (hk0.below hbu0 hk0.lt).frozen 0
  have hk1' := (hk0.below hbu0 hk0.lt).set_ 0 (.slice B0 n0 d0)
  have hr1 := (hr0.below hbu0 hr0.lt).far (p := ⟨w.heap.size, 0, none⟩) (by simp) (.slice B0 n0 d0)
  have hb1 := (hb0.trans (hbu0.mono hb0.size)).setCell (p := ⟨w.heap.size, 0, none⟩) (Nat.le_refl _) (.slice B0 n0 d0)
  have hzz1 : w.heap.size + 2 ≤ (u0.setCell ⟨w.heap.size, 0, none⟩ (.slice B0 n0 d0)).heap.size := by
    have h1 := hbu0.size
    have h2 : (u0.setCell ⟨w.heap.size, 0, none⟩ (.slice B0 n0 d0)).heap.size = u0.heap.size := by simp [World.setCell]
    omega
  have on0_1 := ownsRow_setCell_below (own14_base hown0 hzz0) (a := ⟨w.heap.size, 0, none⟩) (by simp) (.slice B0 n0 d0)
  obtain ⟨W1, hW1⟩ : ∃ W, u0.setCell ⟨w.heap.size, 0, none⟩ (.slice B0 n0 d0) = W := ⟨_, rfl⟩
  rw [hW1] at hk1' hr1 hb1 hzz1 on0_1
  have hk1 : Blk W1 w.heap.size 28 #[.slice B0 n0 d0, .slice A1 n1 c1, .slice A2 n2 c2, .slice A3 n3 c3, .slice A4 n4 c4, .int .i64 sq] := by simpa using hk1'
  have hbx1 := b1' W1 (.cells #[] 43)
  have own1 := owns14_nil W1 W1.heap.size (Nat.le_refl _) 43 6
  have hsx1 : (W1.alloc (.cells #[] 43)).heap.size = W1.heap.size + 1 := by simp
  obtain ⟨X1, hX1⟩ : ∃ X, W1.alloc (.cells #[] 43) = X := ⟨_, rfl⟩
  rw [hX1] at hbx1 own1 hsx1
  have q1 := (hk1.below hbx1 hk1.lt).cell 1
  obtain ⟨B1, d1, u1, hrun1, hown1, hg1⟩ := run_append_14 (P := Tryz.prog) X1 W1.heap.size 23 23 43 _ 6 48 Tryz.underlying23 info14T rfl (by omega) (by omega) _ 0 [] own1 w.heap.size A1 (fl14 clT S.T) n1 c1 (by rw [fl14_len len14T, hs.l1]) (hs.r1.below (hb1.trans (hbx1.mono hb1.size)) (Nat.le_refl _)) (fl14_one clT_one _) (by have := hs.m1; omega) (by omega)
  rw [Nat.zero_add] at hrun1 hown1
  rw [List.nil_append] at hown1
  have hbu1 : Below W1.heap.size W1 u1 := hbx1.grown hg1 (by omega) (fun r hr => by cases hr; exact Nat.le_refl _)
  have kc1 := (hk1.below hbu1 hk1.lt).cell 1
  have kf1 := (hk1.below hbu1 hk1.lt).frozen 1
  have hk2' := (hk1.below hbu1 hk1.lt).set_ 1 (.slice B1 n1 d1)
  have hr2 := (hr1.below hbu1 hr1.lt).far (p := ⟨w.heap.size, 1, none⟩) (by simp) (.slice B1 n1 d1)
  have hb2 := (hb1.trans (hbu1.mono hb1.size)).setCell (p := ⟨w.heap.size, 1, none⟩) (Nat.le_refl _) (.slice B1 n1 d1)
  have hzz2 : w.heap.size + 2 ≤ (u1.setCell ⟨w.heap.size, 1, none⟩ (.slice B1 n1 d1)).heap.size := by
    have h1 := hbu1.size
    have h2 : (u1.setCell ⟨w.heap.size, 1, none⟩ (.slice B1 n1 d1)).heap.size = u1.heap.size := by simp [World.setCell]
    omega
  have on0_2 := ownsRow_setCell_below (own12_keep2 on0_1 hbu1) (a := ⟨w.heap.size, 1, none⟩) (by simp) (.slice B1 n1 d1)
  have on1_2 := ownsRow_setCell_below (own14_base hown1 hzz1) (a := ⟨w.heap.size, 1, none⟩) (by simp) (.slice B1 n1 d1)
  obtain ⟨W2, hW2⟩ : ∃ W, u1.setCell ⟨w.heap.size, 1, none⟩ (.slice B1 n1 d1) = W := ⟨_, rfl⟩
  rw [hW2] at hk2' hr2 hb2 hzz2 on0_2 on1_2
  have hk2 : Blk W2 w.heap.size 28 #[.slice B0 n0 d0, .slice B1 n1 d1, .slice A2 n2 c2, .slice A3 n3 c3, .slice A4 n4 c4, .int .i64 sq] := by simpa using hk2'
  have hbx2 := b1' W2 (.cells #[] 45)
  have own2 := owns14_nil W2 W2.heap.size (Nat.le_refl _) 45 5
  have hsx2 : (W2.alloc (.cells #[] 45)).heap.size = W2.heap.size + 1 := by simp
  obtain ⟨X2, hX2⟩ : ∃ X, W2.alloc (.cells #[] 45) = X := ⟨_, rfl⟩
  rw [hX2] at hbx2 own2 hsx2
  have q2 := (hk2.below hbx2 hk2.lt).cell 2
  obtain ⟨B2, d2, u2, hrun2, hown2, hg2⟩ := run_append_14 (P := Tryz.prog) X2 W2.heap.size 24 24 45 _ 5 40 Tryz.underlying24 info14H rfl (by omega) (by omega) _ 0 [] own2 w.heap.size A2 (fl14 clH S.H) n2 c2 (by rw [fl14_len len14H, hs.l2]) (hs.r2.below (hb2.trans (hbx2.mono hb2.size)) (Nat.le_refl _)) (fl14_one clH_one _) (by have := hs.m2; omega) (by omega)
  rw [Nat.zero_add] at hrun2 hown2
  rw [List.nil_append] at hown2
  have hbu2 : Below W2.heap.size W2 u2 := hbx2.grown hg2 (by omega) (fun r hr => by cases hr; exact Nat.le_refl _)
  have kc2 := (hk2.below hbu2 hk2.lt).cell 2
  have kf2 := (hk2.below hbu2 hk2.lt).frozen 2
  have hk3' := (hk2.below hbu2 hk2.lt).set_ 2 (.slice B2 n2 d2)
  have hr3 := (hr2.below hbu2 hr2.lt).far (p := ⟨w.heap.size, 2, none⟩) (by simp) (.slice B2 n2 d2)
  have hb3 := (hb2.trans (hbu2.mono hb2.size)).setCell (p := ⟨w.heap.size, 2, none⟩) (Nat.le_refl _) (.slice B2 n2 d2)
  have hzz3 : w.heap.size + 2 ≤ (u2.setCell ⟨w.heap.size, 2, none⟩ (.slice B2 n2 d2)).heap.size := by
    have h1 := hbu2.size
    have h2 : (u2.setCell ⟨w.heap.size, 2, none⟩ (.slice B2 n2 d2)).heap.size = u2.heap.size := by simp [World.setCell]
    omega
  have on0_3 := ownsRow_setCell_below (own12_keep2 on0_2 hbu2) (a := ⟨w.heap.size, 2, none⟩) (by simp) (.slice B2 n2 d2)
  have on1_3 := ownsRow_setCell_below (own12_keep2 on1_2 hbu2) (a := ⟨w.heap.size, 2, none⟩) (by simp) (.slice B2 n2 d2)
  have on2_3 := ownsRow_setCell_below (own14_base hown2 hzz2) (a := ⟨w.heap.size, 2, none⟩) (by simp) (.slice B2 n2 d2)
  obtain ⟨W3, hW3⟩ : ∃ W, u2.setCell ⟨w.heap.size, 2, none⟩ (.slice B2 n2 d2) = W := ⟨_, rfl⟩
  rw [hW3] at hk3' hr3 hb3 hzz3 on0_3 on1_3 on2_3
  have hk3 : Blk W3 w.heap.size 28 #[.slice B0 n0 d0, .slice B1 n1 d1, .slice B2 n2 d2, .slice A3 n3 c3, .slice A4 n4 c4, .int .i64 sq] := by simpa using hk3'
  have hbx3 := b1' W3 (.cells #[] 47)
  have own3 := owns14_nil W3 W3.heap.size (Nat.le_refl _) 47 2
  have hsx3 : (W3.alloc (.cells #[] 47)).heap.size = W3.heap.size + 1 := by simp
  obtain ⟨X3, hX3⟩ : ∃ X, W3.alloc (.cells #[] 47) = X := ⟨_, rfl⟩
  rw [hX3] at hbx3 own3 hsx3
  have q3 := (hk3.below hbx3 hk3.lt).cell 3
  obtain ⟨B3, d3, u3, hrun3, hown3, hg3⟩ := run_append_14 (P := Tryz.prog) X3 W3.heap.size 25 25 47 _ 2 16 Tryz.underlying25 info14L rfl (by omega) (by omega) _ 0 [] own3 w.heap.size A3 (fl14 clL S.L) n3 c3 (by rw [fl14_len len14L, hs.l3]) (hs.r3.below (hb3.trans (hbx3.mono hb3.size)) (Nat.le_refl _)) (fl14_one clL_one _) (by have := hs.m3; omega) (by omega)
  rw [Nat.zero_add] at hrun3 hown3
  rw [List.nil_append] at hown3
  have hbu3 : Below W3.heap.size W3 u3 := hbx3.grown hg3 (by omega) (fun r hr => by cases hr; exact Nat.le_refl _)
  have kc3 := (hk3.below hbu3 hk3.lt).cell 3
  have kf3 := (hk3.below hbu3 hk3.lt).frozen 3
  have hk4' := (hk3.below hbu3 hk3.lt).set_ 3 (.slice B3 n3 d3)
  have hr4 := (hr3.below hbu3 hr3.lt).far (p := ⟨w.heap.size, 3, none⟩) (by simp) (.slice B3 n3 d3)
  have hb4 := (hb3.trans (hbu3.mono hb3.size)).setCell (p := ⟨w.heap.size, 3, none⟩) (Nat.le_refl _) (.slice B3 n3 d3)
  have hzz4 : w.heap.size + 2 ≤ (u3.setCell ⟨w.heap.size, 3, none⟩ (.slice B3 n3 d3)).heap.size := by
    have h1 := hbu3.size
    have h2 : (u3.setCell ⟨w.heap.size, 3, none⟩ (.slice B3 n3 d3)).heap.size = u3.heap.size := by simp [World.setCell]
    omega
  have on0_4 := ownsRow_setCell_below (own12_keep2 on0_3 hbu3) (a := ⟨w.heap.size, 3, none⟩) (by simp) (.slice B3 n3 d3)
  have on1_4 := ownsRow_setCell_below (own12_keep2 on1_3 hbu3) (a := ⟨w.heap.size, 3, none⟩) (by simp) (.slice B3 n3 d3)
  have on2_4 := ownsRow_setCell_below (own12_keep2 on2_3 hbu3) (a := ⟨w.heap.size, 3, none⟩) (by simp) (.slice B3 n3 d3)
  have on3_4 := ownsRow_setCell_below (own14_base hown3 hzz3) (a := ⟨w.heap.size, 3, none⟩) (by simp) (.slice B3 n3 d3)
  obtain ⟨W4, hW4⟩ : ∃ W, u3.setCell ⟨w.heap.size, 3, none⟩ (.slice B3 n3 d3) = W := ⟨_, rfl⟩
  rw [hW4] at hk4' hr4 hb4 hzz4 on0_4 on1_4 on2_4 on3_4
  have hk4 : Blk W4 w.heap.size 28 #[.slice B0 n0 d0, .slice B1 n1 d1, .slice B2 n2 d2, .slice B3 n3 d3, .slice A4 n4 c4, .int .i64 sq] := by simpa using hk4'
  have hbx4 := b1' W4 (.cells #[] 3)
  have own4 := owns14_nil W4 W4.heap.size (Nat.le_refl _) 3 1
  have hsx4 : (W4.alloc (.cells #[] 3)).heap.size = W4.heap.size + 1 := by simp
  obtain ⟨X4, hX4⟩ : ∃ X, W4.alloc (.cells #[] 3) = X := ⟨_, rfl⟩
  rw [hX4] at hbx4 own4 hsx4
  have q4 := (hk4.below hbx4 hk4.lt).cell 4
  obtain ⟨B4, d4, u4, hrun4, hown4, hg4⟩ := run_append_14 (P := Tryz.prog) X4 W4.heap.size 26 26 3 _ 1 8 Tryz.underlying26 info14I rfl (by omega) (by omega) _ 0 [] own4 w.heap.size A4 (fl14 clI S.Q) n4 c4 (by rw [fl14_len len14I, hs.l4]) (hs.r4.below (hb4.trans (hbx4.mono hb4.size)) (Nat.le_refl _)) (fl14_one clI_one _) (by have := hs.m4; omega) (by omega)
  rw [Nat.zero_add] at hrun4 hown4
  rw [List.nil_append] at hown4
  have hbu4 : Below W4.heap.size W4 u4 := hbx4.grown hg4 (by omega) (fun r hr => by cases hr; exact Nat.le_refl _)
  have kc4 := (hk4.below hbu4 hk4.lt).cell 4
  have kf4 := (hk4.below hbu4 hk4.lt).frozen 4
  have hk5' := (hk4.below hbu4 hk4.lt).set_ 4 (.slice B4 n4 d4)
  have hr5 := (hr4.below hbu4 hr4.lt).far (p := ⟨w.heap.size, 4, none⟩) (by simp) (.slice B4 n4 d4)
  have hb5 := (hb4.trans (hbu4.mono hb4.size)).setCell (p := ⟨w.heap.size, 4, none⟩) (Nat.le_refl _) (.slice B4 n4 d4)
  have hzz5 : w.heap.size + 2 ≤ (u4.setCell ⟨w.heap.size, 4, none⟩ (.slice B4 n4 d4)).heap.size := by
    have h1 := hbu4.size
    have h2 : (u4.setCell ⟨w.heap.size, 4, none⟩ (.slice B4 n4 d4)).heap.size = u4.heap.size := by simp [World.setCell]
    omega
  have on0_5 := ownsRow_setCell_below (own12_keep2 on0_4 hbu4) (a := ⟨w.heap.size, 4, none⟩) (by simp) (.slice B4 n4 d4)
  have on1_5 := ownsRow_setCell_below (own12_keep2 on1_4 hbu4) (a := ⟨w.heap.size, 4, none⟩) (by simp) (.slice B4 n4 d4)
  have on2_5 := ownsRow_setCell_below (own12_keep2 on2_4 hbu4) (a := ⟨w.heap.size, 4, none⟩) (by simp) (.slice B4 n4 d4)
  have on3_5 := ownsRow_setCell_below (own12_keep2 on3_4 hbu4) (a := ⟨w.heap.size, 4, none⟩) (by simp) (.slice B4 n4 d4)
  have on4_5 := ownsRow_setCell_below (own14_base hown4 hzz4) (a := ⟨w.heap.size, 4, none⟩) (by simp) (.slice B4 n4 d4)
  obtain ⟨W5, hW5⟩ : ∃ W, u4.setCell ⟨w.heap.size, 4, none⟩ (.slice B4 n4 d4) = W := ⟨_, rfl⟩
  rw [hW5] at hk5' hr5 hb5 hzz5 on0_5 on1_5 on2_5 on3_5 on4_5
  have hk5 : Blk W5 w.heap.size 28 #[.slice B0 n0 d0, .slice B1 n1 d1, .slice B2 n2 d2, .slice B3 n3 d3, .slice B4 n4 d4, .int .i64 sq] := by simpa using hk5'
  have r0 := hk5.cell 0
  have y0 := hr5.cell 0
  have yf0 := hr5.frozen 0
  have r1 := hk5.cell 1
  have y1 := hr5.cell 1
  have yf1 := hr5.frozen 1
  have r2 := hk5.cell 2
  have y2 := hr5.cell 2
  have yf2 := hr5.frozen 2
  have r3 := hk5.cell 3
  have y3 := hr5.cell 3
  have yf3 := hr5.frozen 3
  have r4 := hk5.cell 4
  have y4 := hr5.cell 4
  have yf4 := hr5.frozen 4
  have r5 := hk5.cell 5
  have y5 := hr5.cell 5
  have yf5 := hr5.frozen 5
  have hk6 : Blk ((((((W5.setCell ⟨w.heap.size + 1, 0, none⟩ (.slice B0 n0 d0)).setCell ⟨w.heap.size + 1, 1, none⟩ (.slice B1 n1 d1)).setCell ⟨w.heap.size + 1, 2, none⟩ (.slice B2 n2 d2)).setCell ⟨w.heap.size + 1, 3, none⟩ (.slice B3 n3 d3)).setCell ⟨w.heap.size + 1, 4, none⟩ (.slice B4 n4 d4)).setCell ⟨w.heap.size + 1, 5, none⟩ (.int .i64 sq)) (w.heap.size + 1) 28 #[.slice B0 n0 d0, .slice B1 n1 d1, .slice B2 n2 d2, .slice B3 n3 d3, .slice B4 n4 d4, .int .i64 sq] := by
    have h := ((((((hr5.set_ 0 (.slice B0 n0 d0)).set_ 1 (.slice B1 n1 d1)).set_ 2 (.slice B2 n2 d2)).set_ 3 (.slice B3 n3 d3)).set_ 4 (.slice B4 n4 d4)).set_ 5 (.int .i64 sq))
    simpa using h
  have HB6 := Lib.hid ((((((hb5.setCell (p := ⟨w.heap.size + 1, 0, none⟩) (by simp) (.slice B0 n0 d0)).setCell (p := ⟨w.heap.size + 1, 1, none⟩) (by simp) (.slice B1 n1 d1)).setCell (p := ⟨w.heap.size + 1, 2, none⟩) (by simp) (.slice B2 n2 d2)).setCell (p := ⟨w.heap.size + 1, 3, none⟩) (by simp) (.slice B3 n3 d3)).setCell (p := ⟨w.heap.size + 1, 4, none⟩) (by simp) (.slice B4 n4 d4)).setCell (p := ⟨w.heap.size + 1, 5, none⟩) (by simp) (.int .i64 sq))
  have hoa : OA14 W5 (w.heap.size + 2) S B0 B1 B2 B3 B4 n0 n1 n2 n3 n4 d0 d1 d2 d3 d4 sq := ⟨on0_5, on1_5, on2_5, on3_5, on4_5, hs.l0, hs.l1, hs.l2, hs.l3, hs.l4, hs.m0, hs.m1, hs.m2, hs.m3, hs.m4, hs.e⟩
  have HOA := Lib.hid (OA14.base (L' := w.heap.size) (OA14.far (OA14.far (OA14.far (OA14.far (OA14.far (OA14.far hoa (q := ⟨w.heap.size + 1, 0, none⟩) (by simp) (.slice B0 n0 d0)) (q := ⟨w.heap.size + 1, 1, none⟩) (by simp) (.slice B1 n1 d1)) (q := ⟨w.heap.size + 1, 2, none⟩) (by simp) (.slice B2 n2 d2)) (q := ⟨w.heap.size + 1, 3, none⟩) (by simp) (.slice B3 n3 d3)) (q := ⟨w.heap.size + 1, 4, none⟩) (by simp) (.slice B4 n4 d4)) (q := ⟨w.heap.size + 1, 5, none⟩) (by simp) (.int .i64 sq)) (by omega))
  have s0 := hk6.cell 0
  have g0 := hk6.frozen 0
  have s1 := hk6.cell 1
  have g1 := hk6.frozen 1
  have s2 := hk6.cell 2
  have g2 := hk6.frozen 2
  have s3 := hk6.cell 3
  have g3 := hk6.frozen 3
  have s4 := hk6.cell 4
  have g4 := hk6.frozen 4
  have s5 := hk6.cell 5
  have g5 := hk6.frozen 5
  have HRUN0 := Lib.hid hrun0
  have HRUN1 := Lib.hid hrun1
  have HRUN2 := Lib.hid hrun2
  have HRUN3 := Lib.hid hrun3
  have HRUN4 := Lib.hid hrun4
  clear hs hk6 hoa hk0 hr0 hb0 hk1 hr1 hb1 hk2 hr2 hb2 hk3 hr3 hb3 hk4 hr4 hb4 hk5 hr5 hb5 hk1' hk2' hk3' hk4' hk5' hbx0 own0 hsx0 hrun0 hown0 hg0 hbu0 hzz0 hbx1 own1 hsx1 hrun1 hown1 hg1 hbu1 hzz1 hbx2 own2 hsx2 hrun2 hown2 hg2 hbu2 hzz2 hbx3 own3 hsx3 hrun3 hown3 hg3 hbu3 hzz3 hbx4 own4 hsx4 hrun4 hown4 hg4 hbu4 hzz4 hzz5 hz0 on0_1 on0_2 on1_2 on0_3 on1_3 on2_3 on0_4 on1_4 on2_4 on3_4 on0_5 on1_5 on2_5 on3_5 on4_5
  go_enter Tryz.func71, Tryz.ntmps71
  go_wp2_with (at_builtin; go_loud (first
    | (refine wpList_append_14 _ rfl (.tmp 3) (.tmp 5) 22 rfl _ _ _ _ rfl rfl HRUN0.out ?_)
    | (refine wpList_append_14 _ rfl (.tmp 8) (.tmp 10) 23 rfl _ _ _ _ rfl rfl HRUN1.out ?_)
    | (refine wpList_append_14 _ rfl (.tmp 13) (.tmp 15) 24 rfl _ _ _ _ rfl rfl HRUN2.out ?_)
    | (refine wpList_append_14 _ rfl (.tmp 18) (.tmp 20) 25 rfl _ _ _ _ rfl rfl HRUN3.out ?_)
    | (refine wpList_append_14 _ rfl (.tmp 23) (.tmp 25) 26 rfl _ _ _ _ rfl rfl HRUN4.out ?_)))
  exact bodyPost_ret (v := .agg #[.slice B0 n0 d0, .slice B1 n1 d1, .slice B2 n2 d2, .slice B3 n3 d3, .slice B4 n4 d4, .int .i64 sq]) (by simp [results, Tryz.results71, go_sem, s0, s1, s2, s3, s4, s5, g0, g1, g2, g3, g4, g5]) rfl
    ⟨B0, B1, B2, B3, B4, n0, n1, n2, n3, n4, d0, d1, d2, d3, d4, sq, rfl, HOA.out, HB6.out⟩
end Go.Proofs.YtfoellhoaflofaaGreat
