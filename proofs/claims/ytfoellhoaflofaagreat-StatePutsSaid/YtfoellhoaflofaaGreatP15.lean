/-
  SaidStatePuts, part 15 of 26: what the theorem statePuts_holds reaches.
-/
import Derived.Test.YtfoellhoaflofaaGreatP14
namespace Go.Proofs.YtfoellhoaflofaaGreat
open Go.RowKit
set_option maxRecDepth 100000
/-- May a ticket fund what it does? -/
def Target14 (S : Sv14) (t : Tk14) : Prop := t.k = 0 ∧ t.t = 0 ∨ t.k = 1 ∧ us14 usH S.H t.t = true ∨ t.k = 2 ∧ t.t ≠ 0 ∧ us14 usC S.C t.t = true
/-- May a ticket that is used be? -/
def Ticket14 (S : Sv14) (t : Tk14) : Prop := us14 usC S.C t.c = true ∧ 1 ≤ t.a ∧ t.a ≤ 1048576 ∧ Target14 S t
/-- May the i-th thread wait for what it does? -/
def For14 (S : Sv14) (i : Nat) (t : Th14) : Prop := t.s = 4 ∧ us14 usH S.H t.f = true ∧ t.f ≠ (i : Int) ∨ t.s = 6 ∧ us14 usL S.L t.f = true ∨ (t.s = 1 ∨ t.s = 2 ∨ t.s = 3 ∨ t.s = 5) ∧ t.f = -1
/-- May it serve whom it does? -/
def Client14 (S : Sv14) (i : Nat) (t : Th14) : Prop := t.c = -1 ∨ t.s ≠ 5 ∧ (at14 usH S.H t.c).s = 4 ∧ (at14 usH S.H t.c).f = (i : Int)
/-- May it have its factor? -/
def Factor14 (q : Int) (t : Th14) : Prop := t.q = 1 ∧ t.u = 1 ∨ 1 ≤ t.u ∧ t.u < t.q ∧ t.q ≤ q
/-- May a thread that is used be? -/
def Thrd14 (S : Sv14) (i : Nat) (t : Th14) : Prop := For14 S i t ∧ Client14 S i t ∧ Factor14 S.q t
/-- Is a thread Waiting for a lock? -/
def Waits14 (t : Th14) (l : Int) : Prop := t.s = 6 ∧ t.f = l
instance (t : Th14) (l : Int) : Decidable (Waits14 t l) := by unfold Waits14; infer_instance
/-- May a lock that is used have its Holder? -/
def Holder14 (S : Sv14) (i : Nat) (l : Lk14) : Prop := l.h = -1 ∧ (∀ j, j < S.H.length → ¬ Waits14 (gt14 S.H j) (i : Int)) ∨ l.h ≠ -1 ∧ us14 usH S.H l.h = true ∧ ¬ Waits14 (at14 usH S.H l.h) (i : Int)
/-- Does a thread belong into the Queue? -/
def Queues14 (S : Sv14) (i : Nat) (t : Th14) : Prop := t.s = 6 ∨ t.s = 4 ∧ (at14 usH S.H t.f).c ≠ (i : Int)
set_option maxHeartbeats 2000000 in
theorem waits14 (xz xf xc xq xu l : Int) (b : Bool) (w : World) (hb : b = true ↔ Waits14 ⟨xz, xf, xc, xq, xu⟩ l) :
    Calls Tryz.prog 115 #[.agg #[.int .i64 xz, .int .i64 xf, .int .i64 xc, .int .i64 xq, .int .i64 xu], .int .i64 l] w fun e w' => e = .returned (.bool b) ∧ Below w.heap.size w w' := by
  have hk := Blk.new w 45 #[.int .i64 xz, .int .i64 xf, .int .i64 xc, .int .i64 xq, .int .i64 xu]
  have c0 := hk.cell 0
  have c1 := hk.cell 1
  have hb1 := b1' w (.cells #[.int .i64 xz, .int .i64 xf, .int .i64 xc, .int .i64 xq, .int .i64 xu] 45)
  clear hk
  by_cases h6 : xz = 6
  · subst h6
    have HB : Hid (b = (xf == l)) := Lib.hid (by
      rw [Bool.eq_iff_iff, hb]
      simp [Waits14])
    clear hb
    go_enter Tryz.func115, Tryz.ntmps115
    go_wp2_with fail
    go_ret
    exact ⟨by rw [HB.out]; rfl, hb1⟩
  · obtain rfl : b = false := bool14_of hb (fun h => h6 h.1)
    clear hb
    go_enter Tryz.func115, Tryz.ntmps115
    go_wp2_with fail
    go_ret
    exact ⟨rfl, hb1⟩
set_option maxHeartbeats 2000000 in
theorem wclos14 (xz xf xc xq xu l : Int) (gu : Nat) (b : Bool) (w : World) (hl : w.cell? ⟨gu, 0, none⟩ = some (.int .i64 l)) (hb : b = true ↔ Waits14 ⟨xz, xf, xc, xq, xu⟩ l) :
    Calls Tryz.prog 114 #[.agg #[.int .i64 xz, .int .i64 xf, .int .i64 xc, .int .i64 xq, .int .i64 xu], .pointer (some ⟨gu, 0, none⟩)] w fun e w' => e = .returned (.bool b) ∧ Below w.heap.size w w' := by
  have hk := Blk.new w 45 #[.int .i64 xz, .int .i64 xf, .int .i64 xc, .int .i64 xq, .int .i64 xu]
  have c0 := hk.cell 0
  have c1 := hk.cell 1
  have c2 := hk.cell 2
  have c3 := hk.cell 3
  have c4 := hk.cell 4
  have hb1 := b1' w (.cells #[.int .i64 xz, .int .i64 xf, .int .i64 xc, .int .i64 xq, .int .i64 xu] 45)
  have l0 := (hb1.cell (p := ⟨gu, 0, none⟩) (World.block_lt_of_cell? w _ hl)).trans hl
  have HC := Lib.hid (fun W => waits14 xz xf xc xq xu l b W hb)
  clear hk hl hb
  go_enter Tryz.func114, Tryz.ntmps114
  go_wp2_with fail
  refine (HC.out _).mono ?_
  rintro e w2 ⟨rfl, hb2⟩
  have HB2 := Lib.hid (hb1.trans (hb2.mono hb1.size))
  clear HC hb2
  go_wp2_with fail
  go_ret
  exact ⟨rfl, HB2.out⟩
set_option maxHeartbeats 2000000 in
theorem fineFactor14 (xz xf xc xq xu q : Int) (b : Bool) (w : World) (hb : b = true ↔ Factor14 q ⟨xz, xf, xc, xq, xu⟩) :
    Calls Tryz.prog 92 #[.agg #[.int .i64 xz, .int .i64 xf, .int .i64 xc, .int .i64 xq, .int .i64 xu], .int .i64 q] w fun e w' => e = .returned (.bool b) ∧ Below w.heap.size w w' := by
  have hk := Blk.new w 45 #[.int .i64 xz, .int .i64 xf, .int .i64 xc, .int .i64 xq, .int .i64 xu]
  have c3 := hk.cell 3
  have c4 := hk.cell 4
  have HB := Lib.hid (b1' w (.cells #[.int .i64 xz, .int .i64 xf, .int .i64 xc, .int .i64 xq, .int .i64 xu] 45))
  clear hk
  by_cases h1 : xq = 1 ∧ xu = 1
  · obtain ⟨rfl, rfl⟩ := h1
    obtain rfl : b = true := hb.2 (.inl ⟨rfl, rfl⟩)
    clear hb
    go_enter Tryz.func92, Tryz.ntmps92
    go_wp2_with fail
    go_ret
    exact ⟨rfl, HB.out⟩
  · by_cases h2 : 1 ≤ xu
    · by_cases h3 : xu < xq
      · have hq1 : ¬ xq = 1 := by omega
        have HE : Hid (b = decide (xq ≤ q)) := Lib.hid (by
          rw [Bool.eq_iff_iff, hb, decide_eq_true_iff]
          simp only [Factor14]
          constructor
          · rintro (h | h)
            · exact absurd h h1
            · exact h.2.2
          · exact fun h => .inr ⟨h2, h3, h⟩)
        clear hb h1
        go_enter Tryz.func92, Tryz.ntmps92
        go_wp2_with fail
        go_ret
        exact ⟨by rw [HE.out]; rfl, HB.out⟩
      · obtain rfl : b = false := bool14_of hb (fun h => by
          rcases h with h | h
          · exact h1 h
          · exact h3 h.2.1)
        have h3' : xq ≤ xu := by omega
        clear hb
        by_cases hq1 : xq = 1
        · subst hq1
          have hu1 : ¬ xu = 1 := fun h => h1 ⟨rfl, h⟩
          have HU1 : Hid ((xu == 1) = false) := Lib.hid (by simpa using hu1)
          clear h1
          go_enter Tryz.func92, Tryz.ntmps92
          go_wp2_with fail
          go_ret
          exact ⟨by show Ending.returned (Value.bool (xu == 1)) = _; rw [HU1.out], HB.out⟩
        · clear h1
          go_enter Tryz.func92, Tryz.ntmps92
          go_wp2_with fail
          go_ret
          exact ⟨rfl, HB.out⟩
    · obtain rfl : b = false := bool14_of hb (fun h => by
        rcases h with h | h
        · exact h1 h
        · exact h2 h.1)
      have hu1 : ¬ xu = 1 := by omega
      have HU1 : Hid ((xu == 1) = false) := Lib.hid (by simpa using hu1)
      clear hb h1
      by_cases hq1 : xq = 1
      · subst hq1
        go_enter Tryz.func92, Tryz.ntmps92
        go_wp2_with fail
        go_ret
        exact ⟨by show Ending.returned (Value.bool (xu == 1)) = _; rw [HU1.out], HB.out⟩
      ·
        go_enter Tryz.func92, Tryz.ntmps92
        go_wp2_with fail
        go_ret
        exact ⟨rfl, HB.out⟩
set_option maxHeartbeats 2000000 in
theorem fineTarget14 (v : Value) (S : Sv14) (xu : Bool) (xc : Int) (xa : Int) (xk : Int) (xt : Int) (xo : Bool) (b : Bool) (w : World) (h : St14 w v S) (hbt : b = true ↔ Target14 S ⟨xu, xc, xa, xk, xt, xo⟩) :
    Calls Tryz.prog 89 #[v, .agg #[.bool xu, .int .i64 xc, .int .i64 xa, .int .i64 xk, .int .i64 xt, .bool xo]] w fun e w' => e = .returned (.bool b) ∧ Below w.heap.size w w' := by
  obtain ⟨A0, A1, A2, A3, A4, n0, n1, n2, n3, n4, c0, c1, c2, c3, c4, sq, rfl, hs⟩ := h
  have hb : Below w.heap.size w ((w.alloc (.cells #[.slice A0 n0 c0, .slice A1 n1 c1, .slice A2 n2 c2, .slice A3 n3 c3, .slice A4 n4 c4, .int .i64 sq] 28)).alloc (.cells #[.bool xu, .int .i64 xc, .int .i64 xa, .int .i64 xk, .int .i64 xt, .bool xo] 43)) := ((b1' w _).alloc (by simp) _)
  have hk0 : Blk ((w.alloc (.cells #[.slice A0 n0 c0, .slice A1 n1 c1, .slice A2 n2 c2, .slice A3 n3 c3, .slice A4 n4 c4, .int .i64 sq] 28)).alloc (.cells #[.bool xu, .int .i64 xc, .int .i64 xa, .int .i64 xk, .int .i64 xt, .bool xo] 43)) (w.heap.size) 28 #[.slice A0 n0 c0, .slice A1 n1 c1, .slice A2 n2 c2, .slice A3 n3 c3, .slice A4 n4 c4, .int .i64 sq] := by
    have h := ((Blk.new w 28 #[.slice A0 n0 c0, .slice A1 n1 c1, .slice A2 n2 c2, .slice A3 n3 c3, .slice A4 n4 c4, .int .i64 sq]).alloc (.cells #[.bool xu, .int .i64 xc, .int .i64 xa, .int .i64 xk, .int .i64 xt, .bool xo] 43))
    exact h
  have hk1 : Blk ((w.alloc (.cells #[.slice A0 n0 c0, .slice A1 n1 c1, .slice A2 n2 c2, .slice A3 n3 c3, .slice A4 n4 c4, .int .i64 sq] 28)).alloc (.cells #[.bool xu, .int .i64 xc, .int .i64 xa, .int .i64 xk, .int .i64 xt, .bool xo] 43)) (w.heap.size + 1) 43 #[.bool xu, .int .i64 xc, .int .i64 xa, .int .i64 xk, .int .i64 xt, .bool xo] := by
    have h := (Blk.new (w.alloc (.cells #[.slice A0 n0 c0, .slice A1 n1 c1, .slice A2 n2 c2, .slice A3 n3 c3, .slice A4 n4 c4, .int .i64 sq] 28)) 43 #[.bool xu, .int .i64 xc, .int .i64 xa, .int .i64 xk, .int .i64 xt, .bool xo])
    rwa [show (w.alloc (.cells #[.slice A0 n0 c0, .slice A1 n1 c1, .slice A2 n2 c2, .slice A3 n3 c3, .slice A4 n4 c4, .int .i64 sq] 28)).heap.size = w.heap.size + 1 by simp] at h
  have hs0 := hs.step hb
  have hz0 : ((w.alloc (.cells #[.slice A0 n0 c0, .slice A1 n1 c1, .slice A2 n2 c2, .slice A3 n3 c3, .slice A4 n4 c4, .int .i64 sq] 28)).alloc (.cells #[.bool xu, .int .i64 xc, .int .i64 xa, .int .i64 xk, .int .i64 xt, .bool xo] 43)).heap.size = w.heap.size + 2 := by simp
  obtain ⟨W0, hW0⟩ : ∃ W, ((w.alloc (.cells #[.slice A0 n0 c0, .slice A1 n1 c1, .slice A2 n2 c2, .slice A3 n3 c3, .slice A4 n4 c4, .int .i64 sq] 28)).alloc (.cells #[.bool xu, .int .i64 xc, .int .i64 xa, .int .i64 xk, .int .i64 xt, .bool xo] 43)) = W := ⟨_, rfl⟩
  rw [hW0] at hb hs0 hz0 hk0 hk1
  have HB := Lib.hid hb
  have q0 := hk0.cell 0
  have q1 := hk0.cell 1
  have q2 := hk0.cell 2
  have q3 := hk0.cell 3
  have q4 := hk0.cell 4
  have q5 := hk0.cell 5
  have t3 := hk1.cell 3
  have t4 := hk1.cell 4
  have HS := Lib.hid hs0
  clear hs hs0 hb hk0 hk1 hz0
  by_cases k0 : xk = 0
  · subst k0
    have HE : Hid (b = (xt == 0)) := Lib.hid (by
      rw [Bool.eq_iff_iff, hbt]
      simp [Target14])
    clear hbt
    go_enter Tryz.func89, Tryz.ntmps89
    go_wp2_with fail
    go_ret
    exact ⟨by rw [HE.out]; rfl, HB.out⟩
  · by_cases k1 : xk = 1
    · subst k1
      obtain ⟨y, hy⟩ : ∃ y, at14 usH S.H xt = y := ⟨_, rfl⟩
      obtain ⟨yz, yf, yc, yq, yu⟩ := y
      have HTH := Lib.hid (thread14 (_) S xt yz yf yc yq yu b W0 ⟨_, _, _, _, _, _, _, _, _, _, _, _, _, _, _, _, rfl, HS.out⟩ (by rw [Bool.eq_iff_iff, hbt]; simp [Target14]) hy)
      clear hbt hy
      go_enter Tryz.func89, Tryz.ntmps89
      go_wp2_with fail
      refine HTH.out.mono ?_
      rintro e u ⟨rfl, hbu⟩
      have HB2 := Lib.hid ((HB.out.trans (hbu.mono HB.out.size)).alloc (HB.out.trans (hbu.mono HB.out.size)).size (.cells #[.int .i64 yz, .int .i64 yf, .int .i64 yc, .int .i64 yq, .int .i64 yu] 45))
      clear HTH hbu
      go_wp2_with fail
      go_ret
      exact ⟨rfl, HB2.out⟩
    · by_cases k2 : xk = 2
      · subst k2
        by_cases t0 : xt = 0
        · subst t0
          obtain rfl : b = false := bool14_of hbt (fun h => by simp [Target14] at h)
          clear hbt
          go_enter Tryz.func89, Tryz.ntmps89
          go_wp2_with fail
          go_ret
          exact ⟨rfl, HB.out⟩
        · have HCN := Lib.hid (coin14 (_) S xt b W0 ⟨_, _, _, _, _, _, _, _, _, _, _, _, _, _, _, _, rfl, HS.out⟩ (by rw [Bool.eq_iff_iff, hbt]; simp [Target14, t0]))
          have HXT : Hid ((xt != 0) = true) := Lib.hid (by simp [bne, t0])
          clear hbt
          go_enter Tryz.func89, Tryz.ntmps89
          go_wp2_with fail
          refine HCN.out.mono ?_
          rintro e u ⟨rfl, hbu⟩
          have HB2 := Lib.hid (HB.out.trans (hbu.mono HB.out.size))
          clear HCN hbu
          go_wp2_with fail
          go_ret
          exact ⟨by show Ending.returned (Value.bool (xt != 0 && b)) = _; rw [HXT.out]; rfl, HB2.out⟩
      · obtain rfl : b = false := bool14_of hbt (fun h => by simp [Target14, k0, k1, k2] at h)
        clear hbt
        go_enter Tryz.func89, Tryz.ntmps89
        go_wp2_with fail
        go_ret
        exact ⟨rfl, HB.out⟩
set_option maxHeartbeats 4000000 in
theorem fineFor14 (v : Value) (S : Sv14) (k : Nat) (xz xf xc xq xu : Int) (b : Bool) (w : World) (h : St14 w v S) (hk : k < S.H.length) (hx : gt14 S.H k = ⟨xz, xf, xc, xq, xu⟩) (hbt : b = true ↔ For14 S k ⟨xz, xf, xc, xq, xu⟩) :
    Calls Tryz.prog 90 #[v, .int .i64 (k : Int)] w fun e w' => e = .returned (.bool b) ∧ Below w.heap.size w w' := by
  obtain ⟨A0, A1, A2, A3, A4, n0, n1, n2, n3, n4, c0, c1, c2, c3, c4, sq, rfl, hs⟩ := h
  rw [hs.l2] at hk
  have hb : Below w.heap.size w (w.alloc (.cells #[.slice A0 n0 c0, .slice A1 n1 c1, .slice A2 n2 c2, .slice A3 n3 c3, .slice A4 n4 c4, .int .i64 sq] 28)) := (b1' w _)
  have hk0 : Blk (w.alloc (.cells #[.slice A0 n0 c0, .slice A1 n1 c1, .slice A2 n2 c2, .slice A3 n3 c3, .slice A4 n4 c4, .int .i64 sq] 28)) (w.heap.size) 28 #[.slice A0 n0 c0, .slice A1 n1 c1, .slice A2 n2 c2, .slice A3 n3 c3, .slice A4 n4 c4, .int .i64 sq] := by
    have h := (Blk.new w 28 #[.slice A0 n0 c0, .slice A1 n1 c1, .slice A2 n2 c2, .slice A3 n3 c3, .slice A4 n4 c4, .int .i64 sq])
    exact h
  have hs0 := hs.step hb
  have hz0 : (w.alloc (.cells #[.slice A0 n0 c0, .slice A1 n1 c1, .slice A2 n2 c2, .slice A3 n3 c3, .slice A4 n4 c4, .int .i64 sq] 28)).heap.size = w.heap.size + 1 := by simp
  obtain ⟨W0, hW0⟩ : ∃ W, (w.alloc (.cells #[.slice A0 n0 c0, .slice A1 n1 c1, .slice A2 n2 c2, .slice A3 n3 c3, .slice A4 n4 c4, .int .i64 sq] 28)) = W := ⟨_, rfl⟩
  rw [hW0] at hb hs0 hz0 hk0
  have hkl : k < S.H.length := by rw [hs0.l2]; exact hk
  obtain ⟨a, of, hA, hab, hq⟩ := Lq.at_ len14H (by omega) hs0.r2 hkl
  subst hA
  rw [hx] at hq
  have e0 : W0.cell? ⟨a, of + k * 5, none⟩ = some (.int .i64 xz) := hq 0 _ rfl
  have e1 : W0.cell? ⟨a, of + k * 5 + 1, none⟩ = some (.int .i64 xf) := hq 1 _ rfl
  have e2 : W0.cell? ⟨a, of + k * 5 + 2, none⟩ = some (.int .i64 xc) := hq 2 _ rfl
  have e3 : W0.cell? ⟨a, of + k * 5 + 3, none⟩ = some (.int .i64 xq) := hq 3 _ rfl
  have e4 : W0.cell? ⟨a, of + k * 5 + 4, none⟩ = some (.int .i64 xu) := hq 4 _ rfl
  have i0 : (0 : Int) ≤ (k : Int) := by omega
  have i1 : (k : Int) < (n2 : Int) := by omega
  have q2 := hk0.cell 2
  have hb2 := hb.alloc hb.size (.cells #[.int .i64 xz, .int .i64 xf, .int .i64 xc, .int .i64 xq, .int .i64 xu] 45)
  have hkx := Blk.new W0 45 #[.int .i64 xz, .int .i64 xf, .int .i64 xc, .int .i64 xq, .int .i64 xu]
  have f0 := hkx.cell 0
  have f1 := hkx.cell 1
  have f2 := hkx.cell 2
  have f3 := hkx.cell 3
  have f4 := hkx.cell 4
  have hkb := hk0.alloc (.cells #[.int .i64 xz, .int .i64 xf, .int .i64 xc, .int .i64 xq, .int .i64 xu] 45)
  have p0 := hkb.cell 0
  have p1 := hkb.cell 1
  have p2 := hkb.cell 2
  have p3 := hkb.cell 3
  have p4 := hkb.cell 4
  have p5 := hkb.cell 5
  have hs2 := hs0.step (b1' W0 (.cells #[.int .i64 xz, .int .i64 xf, .int .i64 xc, .int .i64 xq, .int .i64 xu] 45))
  have HB := Lib.hid hb2
  have HS := Lib.hid hs2
  have HKX := Lib.hid hkx
  clear hs hs0 hs2 hb hb2 hk0 hkb hkx hq hx hkl hz0
  by_cases z4 : xz = 4
  · subst z4
    obtain ⟨bt, hbu⟩ : ∃ bt, us14 usH S.H xf = bt := ⟨_, rfl⟩
    obtain ⟨y, hy⟩ : ∃ y, at14 usH S.H xf = y := ⟨_, rfl⟩
    obtain ⟨yz, yf, yc, yq, yu⟩ := y
    have HTH := Lib.hid (thread14 (_) S xf yz yf yc yq yu bt _ ⟨_, _, _, _, _, _, _, _, _, _, _, _, _, _, _, _, rfl, HS.out⟩ hbu hy)
    have HE : Hid (b = (bt && xf != (k : Int))) := Lib.hid (by
      rw [Bool.eq_iff_iff, hbt, ← hbu]
      simp [For14])
    clear hbt hbu hy
    go_enter Tryz.func90, Tryz.ntmps90
    go_wp2_with fail
    refine HTH.out.mono ?_
    rintro e u ⟨rfl, hbu⟩
    have hbU := HB.out.trans (hbu.mono HB.out.size)
    have HB2 := Lib.hid (hbU.alloc hbU.size (.cells #[.int .i64 yz, .int .i64 yf, .int .i64 yc, .int .i64 yq, .int .i64 yu] 45))
    have hky := Blk.new u 45 #[.int .i64 yz, .int .i64 yf, .int .i64 yc, .int .i64 yq, .int .i64 yu]
    have g0 := hky.cell 0
    have g1 := hky.cell 1
    have g2 := hky.cell 2
    have g3 := hky.cell 3
    have g4 := hky.cell 4
    have hkx2 := (HKX.out.below hbu HKX.out.lt).alloc (.cells #[.int .i64 yz, .int .i64 yf, .int .i64 yc, .int .i64 yq, .int .i64 yu] 45)
    have h0 := hkx2.cell 0
    have h1 := hkx2.cell 1
    have h2 := hkx2.cell 2
    have h3 := hkx2.cell 3
    have h4 := hkx2.cell 4
    clear HTH hbu hbU hky hkx2
    cases bt with
    | true =>
      go_wp2_with fail
      go_ret
      exact ⟨by rw [HE.out]; rfl, HB2.out⟩
    | false =>
      go_wp2_with fail
      go_ret
      exact ⟨by rw [HE.out]; rfl, HB2.out⟩
  · by_cases z6 : xz = 6
    · subst z6
      obtain ⟨y, hy⟩ : ∃ y, at14 usL S.L xf = y := ⟨_, rfl⟩
      obtain ⟨yu, yh⟩ := y
      have HTH := Lib.hid (lock14 (_) S xf yu yh b _ ⟨_, _, _, _, _, _, _, _, _, _, _, _, _, _, _, _, rfl, HS.out⟩ (by rw [Bool.eq_iff_iff, hbt]; simp [For14]) hy)
      clear hbt hy
      go_enter Tryz.func90, Tryz.ntmps90
      go_wp2_with fail
      refine HTH.out.mono ?_
      rintro e u ⟨rfl, hbu⟩
      have hbU := HB.out.trans (hbu.mono HB.out.size)
      have HB2 := Lib.hid (hbU.alloc hbU.size (.cells #[.bool yu, .int .i64 yh] 47))
      clear HTH hbu hbU
      go_wp2_with fail
      go_ret
      exact ⟨rfl, HB2.out⟩
    · by_cases z1 : xz = 1
      · subst z1
        have HE : Hid (b = (xf == -1)) := Lib.hid (by
          rw [Bool.eq_iff_iff, hbt]
          simp [For14])
        clear hbt
        go_enter Tryz.func90, Tryz.ntmps90
        go_wp2_with fail
        go_ret
        exact ⟨by rw [HE.out]; rfl, HB.out⟩
      · by_cases z2 : xz = 2
        · subst z2
          have HE : Hid (b = (xf == -1)) := Lib.hid (by
            rw [Bool.eq_iff_iff, hbt]
            simp [For14])
          clear hbt
          go_enter Tryz.func90, Tryz.ntmps90
          go_wp2_with fail
          go_ret
          exact ⟨by rw [HE.out]; rfl, HB.out⟩
        · by_cases z3 : xz = 3
          · subst z3
            have HE : Hid (b = (xf == -1)) := Lib.hid (by
              rw [Bool.eq_iff_iff, hbt]
              simp [For14])
            clear hbt
            go_enter Tryz.func90, Tryz.ntmps90
            go_wp2_with fail
            go_ret
            exact ⟨by rw [HE.out]; rfl, HB.out⟩
          · by_cases z5 : xz = 5
            · subst z5
              have HE : Hid (b = (xf == -1)) := Lib.hid (by
                rw [Bool.eq_iff_iff, hbt]
                simp [For14])
              clear hbt
              go_enter Tryz.func90, Tryz.ntmps90
              go_wp2_with fail
              go_ret
              exact ⟨by rw [HE.out]; rfl, HB.out⟩
            · obtain rfl : b = false := bool14_of hbt (fun h => by simp [For14, z1, z2, z3, z4, z5, z6] at h)
              clear hbt
              go_enter Tryz.func90, Tryz.ntmps90
              go_wp2_with fail
              go_ret
              exact ⟨rfl, HB.out⟩
set_option maxHeartbeats 4000000 in
theorem fineClient14 (v : Value) (S : Sv14) (k : Nat) (xz xf xc xq xu : Int) (b : Bool) (w : World) (h : St14 w v S) (hk : k < S.H.length) (hx : gt14 S.H k = ⟨xz, xf, xc, xq, xu⟩) (hbt : b = true ↔ Client14 S k ⟨xz, xf, xc, xq, xu⟩) :
    Calls Tryz.prog 91 #[v, .int .i64 (k : Int)] w fun e w' => e = .returned (.bool b) ∧ Below w.heap.size w w' := by
  obtain ⟨A0, A1, A2, A3, A4, n0, n1, n2, n3, n4, c0, c1, c2, c3, c4, sq, rfl, hs⟩ := h
  rw [hs.l2] at hk
  have hb : Below w.heap.size w (w.alloc (.cells #[.slice A0 n0 c0, .slice A1 n1 c1, .slice A2 n2 c2, .slice A3 n3 c3, .slice A4 n4 c4, .int .i64 sq] 28)) := (b1' w _)
  have hk0 : Blk (w.alloc (.cells #[.slice A0 n0 c0, .slice A1 n1 c1, .slice A2 n2 c2, .slice A3 n3 c3, .slice A4 n4 c4, .int .i64 sq] 28)) (w.heap.size) 28 #[.slice A0 n0 c0, .slice A1 n1 c1, .slice A2 n2 c2, .slice A3 n3 c3, .slice A4 n4 c4, .int .i64 sq] := by
    have h := (Blk.new w 28 #[.slice A0 n0 c0, .slice A1 n1 c1, .slice A2 n2 c2, .slice A3 n3 c3, .slice A4 n4 c4, .int .i64 sq])
    exact h
  have hs0 := hs.step hb
  have hz0 : (w.alloc (.cells #[.slice A0 n0 c0, .slice A1 n1 c1, .slice A2 n2 c2, .slice A3 n3 c3, .slice A4 n4 c4, .int .i64 sq] 28)).heap.size = w.heap.size + 1 := by simp
  obtain ⟨W0, hW0⟩ : ∃ W, (w.alloc (.cells #[.slice A0 n0 c0, .slice A1 n1 c1, .slice A2 n2 c2, .slice A3 n3 c3, .slice A4 n4 c4, .int .i64 sq] 28)) = W := ⟨_, rfl⟩
  rw [hW0] at hb hs0 hz0 hk0
  have hkl : k < S.H.length := by rw [hs0.l2]; exact hk
  obtain ⟨a, of, hA, hab, hq⟩ := Lq.at_ len14H (by omega) hs0.r2 hkl
  subst hA
  rw [hx] at hq
  have e0 : W0.cell? ⟨a, of + k * 5, none⟩ = some (.int .i64 xz) := hq 0 _ rfl
  have e1 : W0.cell? ⟨a, of + k * 5 + 1, none⟩ = some (.int .i64 xf) := hq 1 _ rfl
  have e2 : W0.cell? ⟨a, of + k * 5 + 2, none⟩ = some (.int .i64 xc) := hq 2 _ rfl
  have e3 : W0.cell? ⟨a, of + k * 5 + 3, none⟩ = some (.int .i64 xq) := hq 3 _ rfl
  have e4 : W0.cell? ⟨a, of + k * 5 + 4, none⟩ = some (.int .i64 xu) := hq 4 _ rfl
  have i0 : (0 : Int) ≤ (k : Int) := by omega
  have i1 : (k : Int) < (n2 : Int) := by omega
  have q2 := hk0.cell 2
  have hb2 := hb.alloc hb.size (.cells #[.int .i64 xz, .int .i64 xf, .int .i64 xc, .int .i64 xq, .int .i64 xu] 45)
  have hkx := Blk.new W0 45 #[.int .i64 xz, .int .i64 xf, .int .i64 xc, .int .i64 xq, .int .i64 xu]
  have f0 := hkx.cell 0
  have f1 := hkx.cell 1
  have f2 := hkx.cell 2
  have f3 := hkx.cell 3
  have f4 := hkx.cell 4
  have hkb := hk0.alloc (.cells #[.int .i64 xz, .int .i64 xf, .int .i64 xc, .int .i64 xq, .int .i64 xu] 45)
  have p0 := hkb.cell 0
  have p1 := hkb.cell 1
  have p2 := hkb.cell 2
  have p3 := hkb.cell 3
  have p4 := hkb.cell 4
  have p5 := hkb.cell 5
  have hs2 := hs0.step (b1' W0 (.cells #[.int .i64 xz, .int .i64 xf, .int .i64 xc, .int .i64 xq, .int .i64 xu] 45))
  have HB := Lib.hid hb2
  have HS := Lib.hid hs2
  have HKX := Lib.hid hkx
  clear hs hs0 hs2 hb hb2 hk0 hkb hkx hq hx hkl hz0
  by_cases cm : xc = -1
  · subst cm
    obtain rfl : b = true := hbt.2 (.inl rfl)
    clear hbt
    go_enter Tryz.func91, Tryz.ntmps91
    go_wp2_with fail
    go_ret
    exact ⟨rfl, HB.out⟩
  · obtain ⟨bt, hbu⟩ : ∃ bt, us14 usH S.H xc = bt := ⟨_, rfl⟩
    obtain ⟨y, hy⟩ : ∃ y, at14 usH S.H xc = y := ⟨_, rfl⟩
    obtain ⟨yz, yf, yc, yq, yu⟩ := y
    have HTH := Lib.hid (thread14 (_) S xc yz yf yc yq yu bt _ ⟨_, _, _, _, _, _, _, _, _, _, _, _, _, _, _, _, rfl, HS.out⟩ hbu hy)
    have hbt2 : b = true ↔ xz ≠ 5 ∧ yz = 4 ∧ yf = (k : Int) := by
      rw [hbt]
      simp [Client14, cm, hy]
    clear hbt hbu hy
    by_cases z5 : xz = 5
    · subst z5
      obtain rfl : b = false := bool14_of hbt2 (fun h => h.1 rfl)
      clear hbt2
      go_enter Tryz.func91, Tryz.ntmps91
      go_wp2_with fail
      refine HTH.out.mono ?_
      rintro e u ⟨rfl, hbu⟩
      have hbU := HB.out.trans (hbu.mono HB.out.size)
      have HB2 := Lib.hid (hbU.alloc hbU.size (.cells #[.int .i64 yz, .int .i64 yf, .int .i64 yc, .int .i64 yq, .int .i64 yu] 45))
      have hky := Blk.new u 45 #[.int .i64 yz, .int .i64 yf, .int .i64 yc, .int .i64 yq, .int .i64 yu]
      have g0 := hky.cell 0
      have g1 := hky.cell 1
      have g2 := hky.cell 2
      have g3 := hky.cell 3
      have g4 := hky.cell 4
      have hkx2 := (HKX.out.below hbu HKX.out.lt).alloc (.cells #[.int .i64 yz, .int .i64 yf, .int .i64 yc, .int .i64 yq, .int .i64 yu] 45)
      have h0 := hkx2.cell 0
      have h1 := hkx2.cell 1
      have h2 := hkx2.cell 2
      have h3 := hkx2.cell 3
      have h4 := hkx2.cell 4
      clear HTH hbu hbU hky hkx2
      go_wp2_with fail
      go_ret
      exact ⟨rfl, HB2.out⟩
    · by_cases y4 : yz = 4
      · subst y4
        have HE : Hid (b = (xz != 5 && yf == (k : Int))) := Lib.hid (by
          rw [Bool.eq_iff_iff, hbt2]
          simp)
        clear hbt2
        go_enter Tryz.func91, Tryz.ntmps91
        go_wp2_with fail
        refine HTH.out.mono ?_
        rintro e u ⟨rfl, hbu⟩
        have hbU := HB.out.trans (hbu.mono HB.out.size)
        have HB2 := Lib.hid (hbU.alloc hbU.size (.cells #[.int .i64 4, .int .i64 yf, .int .i64 yc, .int .i64 yq, .int .i64 yu] 45))
        have hky := Blk.new u 45 #[.int .i64 4, .int .i64 yf, .int .i64 yc, .int .i64 yq, .int .i64 yu]
        have g0 := hky.cell 0
        have g1 := hky.cell 1
        have g2 := hky.cell 2
        have g3 := hky.cell 3
        have g4 := hky.cell 4
        have hkx2 := (HKX.out.below hbu HKX.out.lt).alloc (.cells #[.int .i64 4, .int .i64 yf, .int .i64 yc, .int .i64 yq, .int .i64 yu] 45)
        have h0 := hkx2.cell 0
        have h1 := hkx2.cell 1
        have h2 := hkx2.cell 2
        have h3 := hkx2.cell 3
        have h4 := hkx2.cell 4
        clear HTH hbu hbU hky hkx2
        go_wp2_with fail
        go_ret
        exact ⟨by rw [HE.out]; rfl, HB2.out⟩
      · obtain rfl : b = false := bool14_of hbt2 (fun h => y4 h.2.1)
        clear hbt2
        go_enter Tryz.func91, Tryz.ntmps91
        go_wp2_with fail
        refine HTH.out.mono ?_
        rintro e u ⟨rfl, hbu⟩
        have hbU := HB.out.trans (hbu.mono HB.out.size)
        have HB2 := Lib.hid (hbU.alloc hbU.size (.cells #[.int .i64 yz, .int .i64 yf, .int .i64 yc, .int .i64 yq, .int .i64 yu] 45))
        have hky := Blk.new u 45 #[.int .i64 yz, .int .i64 yf, .int .i64 yc, .int .i64 yq, .int .i64 yu]
        have g0 := hky.cell 0
        have g1 := hky.cell 1
        have g2 := hky.cell 2
        have g3 := hky.cell 3
        have g4 := hky.cell 4
        have hkx2 := (HKX.out.below hbu HKX.out.lt).alloc (.cells #[.int .i64 yz, .int .i64 yf, .int .i64 yc, .int .i64 yq, .int .i64 yu] 45)
        have h0 := hkx2.cell 0
        have h1 := hkx2.cell 1
        have h2 := hkx2.cell 2
        have h3 := hkx2.cell 3
        have h4 := hkx2.cell 4
        clear HTH hbu hbU hky hkx2
        go_wp2_with fail
        go_ret
        exact ⟨rfl, HB2.out⟩
set_option maxHeartbeats 4000000 in
theorem queues14 (v : Value) (S : Sv14) (k : Nat) (xz xf xc xq xu : Int) (b : Bool) (w : World) (h : St14 w v S) (hk : k < S.H.length) (hx : gt14 S.H k = ⟨xz, xf, xc, xq, xu⟩) (hbt : b = true ↔ Queues14 S k ⟨xz, xf, xc, xq, xu⟩) :
    Calls Tryz.prog 94 #[v, .int .i64 (k : Int)] w fun e w' => e = .returned (.bool b) ∧ Below w.heap.size w w' := by
  obtain ⟨A0, A1, A2, A3, A4, n0, n1, n2, n3, n4, c0, c1, c2, c3, c4, sq, rfl, hs⟩ := h
  rw [hs.l2] at hk
  have hb : Below w.heap.size w (w.alloc (.cells #[.slice A0 n0 c0, .slice A1 n1 c1, .slice A2 n2 c2, .slice A3 n3 c3, .slice A4 n4 c4, .int .i64 sq] 28)) := (b1' w _)
  have hk0 : Blk (w.alloc (.cells #[.slice A0 n0 c0, .slice A1 n1 c1, .slice A2 n2 c2, .slice A3 n3 c3, .slice A4 n4 c4, .int .i64 sq] 28)) (w.heap.size) 28 #[.slice A0 n0 c0, .slice A1 n1 c1, .slice A2 n2 c2, .slice A3 n3 c3, .slice A4 n4 c4, .int .i64 sq] := by
    have h := (Blk.new w 28 #[.slice A0 n0 c0, .slice A1 n1 c1, .slice A2 n2 c2, .slice A3 n3 c3, .slice A4 n4 c4, .int .i64 sq])
    exact h
  have hs0 := hs.step hb
  have hz0 : (w.alloc (.cells #[.slice A0 n0 c0, .slice A1 n1 c1, .slice A2 n2 c2, .slice A3 n3 c3, .slice A4 n4 c4, .int .i64 sq] 28)).heap.size = w.heap.size + 1 := by simp
  obtain ⟨W0, hW0⟩ : ∃ W, (w.alloc (.cells #[.slice A0 n0 c0, .slice A1 n1 c1, .slice A2 n2 c2, .slice A3 n3 c3, .slice A4 n4 c4, .int .i64 sq] 28)) = W := ⟨_, rfl⟩
  rw [hW0] at hb hs0 hz0 hk0
  have hkl : k < S.H.length := by rw [hs0.l2]; exact hk
  obtain ⟨a, of, hA, hab, hq⟩ := Lq.at_ len14H (by omega) hs0.r2 hkl
  subst hA
  rw [hx] at hq
  have e0 : W0.cell? ⟨a, of + k * 5, none⟩ = some (.int .i64 xz) := hq 0 _ rfl
  have e1 : W0.cell? ⟨a, of + k * 5 + 1, none⟩ = some (.int .i64 xf) := hq 1 _ rfl
  have e2 : W0.cell? ⟨a, of + k * 5 + 2, none⟩ = some (.int .i64 xc) := hq 2 _ rfl
  have e3 : W0.cell? ⟨a, of + k * 5 + 3, none⟩ = some (.int .i64 xq) := hq 3 _ rfl
  have e4 : W0.cell? ⟨a, of + k * 5 + 4, none⟩ = some (.int .i64 xu) := hq 4 _ rfl
  have i0 : (0 : Int) ≤ (k : Int) := by omega
  have i1 : (k : Int) < (n2 : Int) := by omega
  have q2 := hk0.cell 2
  have hb2 := hb.alloc hb.size (.cells #[.int .i64 xz, .int .i64 xf, .int .i64 xc, .int .i64 xq, .int .i64 xu] 45)
  have hkx := Blk.new W0 45 #[.int .i64 xz, .int .i64 xf, .int .i64 xc, .int .i64 xq, .int .i64 xu]
  have f0 := hkx.cell 0
  have f1 := hkx.cell 1
  have f2 := hkx.cell 2
  have f3 := hkx.cell 3
  have f4 := hkx.cell 4
  have hkb := hk0.alloc (.cells #[.int .i64 xz, .int .i64 xf, .int .i64 xc, .int .i64 xq, .int .i64 xu] 45)
  have p0 := hkb.cell 0
  have p1 := hkb.cell 1
  have p2 := hkb.cell 2
  have p3 := hkb.cell 3
  have p4 := hkb.cell 4
  have p5 := hkb.cell 5
  have hs2 := hs0.step (b1' W0 (.cells #[.int .i64 xz, .int .i64 xf, .int .i64 xc, .int .i64 xq, .int .i64 xu] 45))
  have HB := Lib.hid hb2
  have HS := Lib.hid hs2
  have HKX := Lib.hid hkx
  clear hs hs0 hs2 hb hb2 hk0 hkb hkx hq hx hkl hz0
  obtain ⟨bt, hbu⟩ : ∃ bt, us14 usH S.H xf = bt := ⟨_, rfl⟩
  obtain ⟨y, hy⟩ : ∃ y, at14 usH S.H xf = y := ⟨_, rfl⟩
  obtain ⟨yz, yf, yc, yq, yu⟩ := y
  have HTH := Lib.hid (thread14 (_) S xf yz yf yc yq yu bt _ ⟨_, _, _, _, _, _, _, _, _, _, _, _, _, _, _, _, rfl, HS.out⟩ hbu hy)
  have hbt2 : b = true ↔ xz = 6 ∨ xz = 4 ∧ yc ≠ (k : Int) := by
    rw [hbt]
    simp [Queues14, hy]
  clear hbt hbu hy
  by_cases z6 : xz = 6
  · subst z6
    obtain rfl : b = true := hbt2.2 (.inl rfl)
    clear hbt2
    go_enter Tryz.func94, Tryz.ntmps94
    go_wp2_with fail
    refine HTH.out.mono ?_
    rintro e u ⟨rfl, hbu⟩
    have hbU := HB.out.trans (hbu.mono HB.out.size)
    have HB2 := Lib.hid (hbU.alloc hbU.size (.cells #[.int .i64 yz, .int .i64 yf, .int .i64 yc, .int .i64 yq, .int .i64 yu] 45))
    have hky := Blk.new u 45 #[.int .i64 yz, .int .i64 yf, .int .i64 yc, .int .i64 yq, .int .i64 yu]
    have g0 := hky.cell 0
    have g1 := hky.cell 1
    have g2 := hky.cell 2
    have g3 := hky.cell 3
    have g4 := hky.cell 4
    have hkx2 := (HKX.out.below hbu HKX.out.lt).alloc (.cells #[.int .i64 yz, .int .i64 yf, .int .i64 yc, .int .i64 yq, .int .i64 yu] 45)
    have h0 := hkx2.cell 0
    have h1 := hkx2.cell 1
    have h2 := hkx2.cell 2
    have h3 := hkx2.cell 3
    have h4 := hkx2.cell 4
    clear HTH hbu hbU hky hkx2
    go_wp2_with fail
    go_ret
    exact ⟨rfl, HB2.out⟩
  · by_cases z4 : xz = 4
    · subst z4
      have HE : Hid (b = (yc != (k : Int))) := Lib.hid (by
        rw [Bool.eq_iff_iff, hbt2]
        simp)
      clear hbt2 z6
      go_enter Tryz.func94, Tryz.ntmps94
      go_wp2_with fail
      refine HTH.out.mono ?_
      rintro e u ⟨rfl, hbu⟩
      have hbU := HB.out.trans (hbu.mono HB.out.size)
      have HB2 := Lib.hid (hbU.alloc hbU.size (.cells #[.int .i64 yz, .int .i64 yf, .int .i64 yc, .int .i64 yq, .int .i64 yu] 45))
      have hky := Blk.new u 45 #[.int .i64 yz, .int .i64 yf, .int .i64 yc, .int .i64 yq, .int .i64 yu]
      have g0 := hky.cell 0
      have g1 := hky.cell 1
      have g2 := hky.cell 2
      have g3 := hky.cell 3
      have g4 := hky.cell 4
      have hkx2 := (HKX.out.below hbu HKX.out.lt).alloc (.cells #[.int .i64 yz, .int .i64 yf, .int .i64 yc, .int .i64 yq, .int .i64 yu] 45)
      have h0 := hkx2.cell 0
      have h1 := hkx2.cell 1
      have h2 := hkx2.cell 2
      have h3 := hkx2.cell 3
      have h4 := hkx2.cell 4
      clear HTH hbu hbU hky hkx2
      go_wp2_with fail
      go_ret
      exact ⟨by rw [HE.out]; rfl, HB2.out⟩
    · have HE : Hid ((xz == 6 || (xz == 4 && false)) = false) := Lib.hid (by simp [z6])
      have HZ4 : Hid ((xz == 6) = false) := Lib.hid (by simp [z6])
      obtain rfl : b = false := bool14_of hbt2 (fun h => by rcases h with h | h; exact z6 h; exact z4 h.1)
      clear hbt2
      go_enter Tryz.func94, Tryz.ntmps94
      go_wp2_with fail
      refine HTH.out.mono ?_
      rintro e u ⟨rfl, hbu⟩
      have hbU := HB.out.trans (hbu.mono HB.out.size)
      have HB2 := Lib.hid (hbU.alloc hbU.size (.cells #[.int .i64 yz, .int .i64 yf, .int .i64 yc, .int .i64 yq, .int .i64 yu] 45))
      have hky := Blk.new u 45 #[.int .i64 yz, .int .i64 yf, .int .i64 yc, .int .i64 yq, .int .i64 yu]
      have g0 := hky.cell 0
      have g1 := hky.cell 1
      have g2 := hky.cell 2
      have g3 := hky.cell 3
      have g4 := hky.cell 4
      have hkx2 := (HKX.out.below hbu HKX.out.lt).alloc (.cells #[.int .i64 yz, .int .i64 yf, .int .i64 yc, .int .i64 yq, .int .i64 yu] 45)
      have h0 := hkx2.cell 0
      have h1 := hkx2.cell 1
      have h2 := hkx2.cell 2
      have h3 := hkx2.cell 3
      have h4 := hkx2.cell 4
      clear HTH hbu hbU hky hkx2
      go_wp2_with fail
      go_ret
      exact ⟨by show Ending.returned (Value.bool (xz == 6)) = _; rw [HZ4.out], HB2.out⟩
set_option maxHeartbeats 4000000 in
theorem fineHolder14 (v : Value) (S : Sv14) (k : Nat) (xu : Bool) (xh : Int) (b : Bool) (w : World) (h : St14 w v S) (hk : k < S.L.length) (hx : gt14 S.L k = ⟨xu, xh⟩) (hbt : b = true ↔ Holder14 S k ⟨xu, xh⟩) :
    Calls Tryz.prog 93 #[v, .int .i64 (k : Int)] w fun e w' => e = .returned (.bool b) ∧ Below w.heap.size w w' := by
  obtain ⟨A0, A1, A2, A3, A4, n0, n1, n2, n3, n4, c0, c1, c2, c3, c4, sq, rfl, hs⟩ := h
  rw [hs.l3] at hk
  have hb : Below w.heap.size w ((w.alloc (.cells #[.slice A0 n0 c0, .slice A1 n1 c1, .slice A2 n2 c2, .slice A3 n3 c3, .slice A4 n4 c4, .int .i64 sq] 28)).alloc (.cells #[.int .i64 (k : Int)] 3)) := ((b1' w _).alloc (by simp) _)
  have hk0 : Blk ((w.alloc (.cells #[.slice A0 n0 c0, .slice A1 n1 c1, .slice A2 n2 c2, .slice A3 n3 c3, .slice A4 n4 c4, .int .i64 sq] 28)).alloc (.cells #[.int .i64 (k : Int)] 3)) (w.heap.size) 28 #[.slice A0 n0 c0, .slice A1 n1 c1, .slice A2 n2 c2, .slice A3 n3 c3, .slice A4 n4 c4, .int .i64 sq] := by
    have h := ((Blk.new w 28 #[.slice A0 n0 c0, .slice A1 n1 c1, .slice A2 n2 c2, .slice A3 n3 c3, .slice A4 n4 c4, .int .i64 sq]).alloc (.cells #[.int .i64 (k : Int)] 3))
    exact h
  have hk1 : Blk ((w.alloc (.cells #[.slice A0 n0 c0, .slice A1 n1 c1, .slice A2 n2 c2, .slice A3 n3 c3, .slice A4 n4 c4, .int .i64 sq] 28)).alloc (.cells #[.int .i64 (k : Int)] 3)) (w.heap.size + 1) 3 #[.int .i64 (k : Int)] := by
    have h := (Blk.new (w.alloc (.cells #[.slice A0 n0 c0, .slice A1 n1 c1, .slice A2 n2 c2, .slice A3 n3 c3, .slice A4 n4 c4, .int .i64 sq] 28)) 3 #[.int .i64 (k : Int)])
    rwa [show (w.alloc (.cells #[.slice A0 n0 c0, .slice A1 n1 c1, .slice A2 n2 c2, .slice A3 n3 c3, .slice A4 n4 c4, .int .i64 sq] 28)).heap.size = w.heap.size + 1 by simp] at h
  have hs0 := hs.step hb
  have hz0 : ((w.alloc (.cells #[.slice A0 n0 c0, .slice A1 n1 c1, .slice A2 n2 c2, .slice A3 n3 c3, .slice A4 n4 c4, .int .i64 sq] 28)).alloc (.cells #[.int .i64 (k : Int)] 3)).heap.size = w.heap.size + 2 := by simp
  obtain ⟨W0, hW0⟩ : ∃ W, ((w.alloc (.cells #[.slice A0 n0 c0, .slice A1 n1 c1, .slice A2 n2 c2, .slice A3 n3 c3, .slice A4 n4 c4, .int .i64 sq] 28)).alloc (.cells #[.int .i64 (k : Int)] 3)) = W := ⟨_, rfl⟩
  rw [hW0] at hb hs0 hz0 hk0 hk1
  obtain ⟨a, of, hA, hab, hq⟩ := Lq.at_ len14L (by omega) hs0.r3 (show k < S.L.length by rw [hs0.l3]; exact hk)
  subst hA
  rw [hx] at hq
  have e1 : W0.cell? ⟨a, of + k * 2 + 1, none⟩ = some (.int .i64 xh) := hq 1 _ rfl
  have i0 : (0 : Int) ≤ (k : Int) := by omega
  have i1 : (k : Int) < (n3 : Int) := by omega
  have q0 := hk0.cell 0
  have q1 := hk0.cell 1
  have q2 := hk0.cell 2
  have q3 := hk0.cell 3
  have q4 := hk0.cell 4
  have q5 := hk0.cell 5
  have l0 := hk1.cell 0
  have HB := Lib.hid hb
  have HS := Lib.hid hs0
  have HK1 := Lib.hid hk1
  have hmf : ∀ (fn : Fn) (first cap : Array Value) (w : World), (Instr.makeFunc fn first cap).run Tryz.prog w = .ok (.func fn first cap) w := fun _ _ _ _ => rfl
  clear hs hs0 hb hk0 hk1 hq hx hz0
  by_cases hm : xh = -1
  · subst hm
    have hbt2 : b = true ↔ ∀ j, j < n2 → ¬ Waits14 (gt14 S.H j) (k : Int) := by
      rw [hbt]
      have := HS.out.l2
      simp [Holder14, this]
    obtain ⟨bn, hbn⟩ := ex_bool14 (∃ j, j < n2 ∧ decide (Waits14 (gt14 S.H j) (k : Int)) = true)
    have HCT := Lib.hid (cont14Hw A2 S.H n2 c2 (w.heap.size + 1) W0 HS.out.l2 HS.out.r2 (by have := HS.out.m2; omega) (fun x => decide (Waits14 x (k : Int)))
      (fun W hW xz xf xc xq xu => wclos14 xz xf xc xq xu (k : Int) (w.heap.size + 1) _ W ((hW.cell (p := ⟨w.heap.size + 1, 0, none⟩) HK1.out.lt).trans (HK1.out.cell 0)) (by rw [decide_eq_true_iff])) bn hbn)
    have HE : Hid (b = !bn) := Lib.hid (by
      rw [Bool.eq_iff_iff, hbt2, Bool.not_eq_true', ← Bool.not_eq_true, hbn]
      constructor
      · rintro h ⟨j, hj, hp⟩
        exact h j hj (of_decide_eq_true hp)
      · exact fun h j hj hp => h ⟨j, hj, decide_eq_true hp⟩)
    clear hbt hbt2 hbn
    go_enter Tryz.func93, Tryz.ntmps93
    go_wp2_with fail
    refine HCT.out.mono ?_
    rintro e u ⟨rfl, hbu⟩
    have HB2 := Lib.hid (HB.out.trans (hbu.mono HB.out.size))
    clear HCT hbu
    go_wp2_with fail
    go_ret
    exact ⟨by rw [HE.out]; rfl, HB2.out⟩
  · obtain ⟨bt, hbu⟩ : ∃ bt, us14 usH S.H xh = bt := ⟨_, rfl⟩
    obtain ⟨y, hy⟩ : ∃ y, at14 usH S.H xh = y := ⟨_, rfl⟩
    obtain ⟨yz, yf, yc, yq, yu⟩ := y
    have HTH := Lib.hid (thread14 (_) S xh yz yf yc yq yu bt _ ⟨_, _, _, _, _, _, _, _, _, _, _, _, _, _, _, _, rfl, HS.out⟩ hbu hy)
    have hbt2 : b = true ↔ bt = true ∧ ¬ Waits14 ⟨yz, yf, yc, yq, yu⟩ (k : Int) := by
      rw [hbt, ← hbu]
      simp [Holder14, hm, hy]
    obtain ⟨bw, hbw⟩ := ex_bool14 (Waits14 ⟨yz, yf, yc, yq, yu⟩ (k : Int))
    have HWT := Lib.hid (fun W => waits14 yz yf yc yq yu (k : Int) bw W hbw)
    have HE : Hid (b = (bt && !bw)) := Lib.hid (by
      rw [Bool.eq_iff_iff, hbt2, ← hbw]
      simp)
    clear hbt hbt2 hbu hbw hy
    go_enter Tryz.func93, Tryz.ntmps93
    go_wp2_with fail
    refine HTH.out.mono ?_
    rintro e u ⟨rfl, hbu⟩
    have hbU := HB.out.trans (hbu.mono HB.out.size)
    have hbV := hbU.alloc hbU.size (.cells #[.int .i64 yz, .int .i64 yf, .int .i64 yc, .int .i64 yq, .int .i64 yu] 45)
    have hky := Blk.new u 45 #[.int .i64 yz, .int .i64 yf, .int .i64 yc, .int .i64 yq, .int .i64 yu]
    have g0 := hky.cell 0
    have g1 := hky.cell 1
    have g2 := hky.cell 2
    have g3 := hky.cell 3
    have g4 := hky.cell 4
    have m0 := ((HK1.out.below hbu HK1.out.lt).alloc (.cells #[.int .i64 yz, .int .i64 yf, .int .i64 yc, .int .i64 yq, .int .i64 yu] 45)).cell 0
    have HB2 := Lib.hid hbV
    clear HTH hbu hbU hky hbV
    cases bt with
    | true =>
      go_wp2_with fail
      refine (HWT.out _).mono ?_
      rintro e u2 ⟨rfl, hb3⟩
      have HB3 := Lib.hid (HB2.out.trans (hb3.mono HB2.out.size))
      clear HWT hb3
      go_wp2_with fail
      go_ret
      exact ⟨by rw [HE.out]; rfl, HB3.out⟩
    | false =>
      go_wp2_with fail
      go_ret
      exact ⟨by rw [HE.out]; rfl, HB2.out⟩
end Go.Proofs.YtfoellhoaflofaaGreat
