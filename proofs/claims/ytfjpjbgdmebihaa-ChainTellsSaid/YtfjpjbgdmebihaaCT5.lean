/-
  SaidChainTells, part 5 of 9: what the theorem chainTells_holds reaches.
-/
import Derived.Test.YtfjpjbgdmebihaaCT4
namespace Go.Proofs.Ytfjpjbgdmebihaa
open Go.RowKit
set_option maxRecDepth 100000
theorem us14_in {α : Type} [Inhabited α] {us : α → Bool} (hus : us default = false) {xs : List α} {i : Int} (h : us14 us xs i = true) : ∃ q : Nat, i = (q : Int) ∧ q < xs.length ∧ us (gt14 xs q) = true ∧ at14 us xs i = gt14 xs q := by
  have h0 : 0 ≤ i ∧ i < (xs.length : Int) := Classical.byContradiction (fun hn => by rw [us14_off hus hn] at h; cases h)
  obtain ⟨q, rfl⟩ : ∃ q : Nat, i = (q : Int) := ⟨i.toNat, by omega⟩
  have hu : us (gt14 xs q) = true := by have h2 := h; rwa [us14_nat] at h2
  exact ⟨q, rfl, by omega, hu, at14_nat hu⟩
set_option maxHeartbeats 4000000 in
theorem ris14 (v : Value) (S : Sv14) (i st wh : Int) (b : Bool) (w : World) (h : St14 w v S) (hbt : b = true ↔ us14 usH S.H i = true ∧ (at14 usH S.H i).s = st ∧ (at14 usH S.H i).f = wh) :
    Calls Try.prog 39 #[v, .int .i64 i, .int .i64 st, .int .i64 wh] w fun e w' => e = .returned (.bool b) ∧ Below w.heap.size w w' := by
  obtain ⟨A0, A1, A2, A3, A4, n0, n1, n2, n3, n4, c0, c1, c2, c3, c4, sq, rfl, hs⟩ := h
  have HX0 := Lib.hid (Bx14.new hs)
  obtain ⟨W1, hW1⟩ : ∃ W, w.alloc (.cells #[.slice A0 n0 c0, .slice A1 n1 c1, .slice A2 n2 c2, .slice A3 n3 c3, .slice A4 n4 c4, .int .i64 sq] 28) = W := ⟨_, rfl⟩
  rw [hW1] at HX0
  have q0 := HX0.out.x.cell 0
  have q1 := HX0.out.x.cell 1
  have q2 := HX0.out.x.cell 2
  have q3 := HX0.out.x.cell 3
  have q4 := HX0.out.x.cell 4
  have q5 := HX0.out.x.cell 5
  obtain ⟨bu, hbu⟩ : ∃ y, us14 usH S.H i = y := ⟨_, rfl⟩
  have HTH := Lib.hid (rThread14 _ S i bu W1 HX0.out.st hbu)
  cases bu with
  | false =>
    obtain rfl : b = false := bool14_of hbt (fun h => by have := h.1; rw [hbu] at this; cases this)
    clear hbt hbu hs
    go_enter Try.func39, Try.ntmps39
    go_wp2_with fail
    refine HTH.out.mono ?_
    rintro e u ⟨rfl, hb⟩
    have HB2 := Lib.hid (HX0.out.step hb).b
    clear HTH hb
    go_wp2_with fail
    go_ret
    exact ⟨rfl, HB2.out⟩
  | true =>
    obtain ⟨q, rfl, hq, _, hat⟩ := us14_in def14H hbu
    rw [hat] at hbt
    obtain ⟨x, hx⟩ : ∃ x, gt14 S.H q = x := ⟨_, rfl⟩
    rw [hx] at hbt
    obtain ⟨xz, xf, xc, xq, xu⟩ := x
    have hb2 : b = true ↔ xz = st ∧ xf = wh := by rw [hbt]; simp [hbu]
    have HE : Hid (b = (xz == st && xf == wh)) := Lib.hid (by rw [Bool.eq_iff_iff, hb2]; simp)
    have HQ := Lib.hid hq
    have HXE := Lib.hid hx
    have hqn : q < n2 := by rw [← hs.l2]; exact hq
    clear hbt hbu hat hb2 hx hq hs
    go_enter Try.func39, Try.ntmps39
    go_wp2_with fail
    refine HTH.out.mono ?_
    rintro e u ⟨rfl, hb⟩
    have HX2 := Lib.hid (HX0.out.step hb)
    have hB2 := HX2.out.b
    have HB2 := Lib.hid hB2
    obtain ⟨a, of, hA, hab, hq⟩ := Lq.at_ len14H (by omega) HX2.out.s.r2 HQ.out
    subst hA
    rw [HXE.out] at hq
    have e0 : u.cell? ⟨a, of + q * 5, none⟩ = some (.int .i64 xz) := hq 0 _ rfl
    have e1 : u.cell? ⟨a, of + q * 5 + 1, none⟩ = some (.int .i64 xf) := hq 1 _ rfl
    have i0 : (0 : Int) ≤ (q : Int) := by omega
    have i1 : (q : Int) < (n2 : Int) := by omega
    have y2 := HX2.out.x.cell 2
    clear HTH hb hB2 hq hab
    by_cases hz : xz = st
    · subst hz
      go_wp2_with fail
      go_ret
      exact ⟨by rw [HE.out]; simp, HB2.out⟩
    · have HF : Hid ((xz == st) = false) := Lib.hid (by simpa using hz)
      go_wp2_with fail
      go_ret
      exact ⟨by rw [HE.out, HF.out]; first | rfl | (show Ending.returned (Value.bool (xz == st)) = _; rw [HF.out]; rfl), HB2.out⟩
set_option maxHeartbeats 4000000 in
theorem rqueues14 (v : Value) (S : Sv14) (k : Nat) (xz xf xc xq xu : Int) (b : Bool) (w : World) (h : St14 w v S) (hk : k < S.H.length) (hx : gt14 S.H k = ⟨xz, xf, xc, xq, xu⟩) (hok : xz = 4 → us14 usH S.H xf = true) (hbt : b = true ↔ Queues14 S k ⟨xz, xf, xc, xq, xu⟩) :
    Calls Try.prog 40 #[v, .int .i64 (k : Int)] w fun e w' => e = .returned (.bool b) ∧ Below w.heap.size w w' := by
  obtain ⟨A0, A1, A2, A3, A4, n0, n1, n2, n3, n4, c0, c1, c2, c3, c4, sq, rfl, hs⟩ := h
  rw [hs.l2] at hk
  have hb : Below w.heap.size w (w.alloc (.cells #[.slice A0 n0 c0, .slice A1 n1 c1, .slice A2 n2 c2, .slice A3 n3 c3, .slice A4 n4 c4, .int .i64 sq] 28)) := (b1' w _)
  have hk0 : Blk (w.alloc (.cells #[.slice A0 n0 c0, .slice A1 n1 c1, .slice A2 n2 c2, .slice A3 n3 c3, .slice A4 n4 c4, .int .i64 sq] 28)) (w.heap.size) 28 #[.slice A0 n0 c0, .slice A1 n1 c1, .slice A2 n2 c2, .slice A3 n3 c3, .slice A4 n4 c4, .int .i64 sq] := by
    have h := (Blk.new w 28 #[.slice A0 n0 c0, .slice A1 n1 c1, .slice A2 n2 c2, .slice A3 n3 c3, .slice A4 n4 c4, .int .i64 sq])
    exact h
  have hs0 := hs.step hb
  have hz0 : (w.alloc (.cells #[.slice A0 n0 c0, .slice A1 n1 c1, .slice A2 n2 c2, .slice A3 n3 c3, .slice A4 n4 c4, .int .i64 sq] 28)).heap.size = w.heap.size + 1 := by simp
  obtain ⟨W0, hW0⟩ : ∃ W, (w.alloc (.cells #[.slice A0 n0 c0, .slice A1 n1 c1, .slice A2 n2 c2, .slice A3 n3 c3, .slice A4 n4 c4, .int .i64 sq] 28)) = W := ⟨_, rfl⟩
  rw [hW0] at hb hs0 hz0 hk0
  have hkl : k < S.H.length := by rw [hs0.l2]; exact hk
  obtain ⟨a, of, hA, hab, hq⟩ := Lq.at_ len14H (by omega) hs0.r2 hkl
  subst hA
  rw [hx] at hq
  have e0 : W0.cell? ⟨a, of + k * 5, none⟩ = some (.int .i64 xz) := hq 0 _ rfl
  have e1 : W0.cell? ⟨a, of + k * 5 + 1, none⟩ = some (.int .i64 xf) := hq 1 _ rfl
  have e2 : W0.cell? ⟨a, of + k * 5 + 2, none⟩ = some (.int .i64 xc) := hq 2 _ rfl
  have e3 : W0.cell? ⟨a, of + k * 5 + 3, none⟩ = some (.int .i64 xq) := hq 3 _ rfl
  have e4 : W0.cell? ⟨a, of + k * 5 + 4, none⟩ = some (.int .i64 xu) := hq 4 _ rfl
  have i0 : (0 : Int) ≤ (k : Int) := by omega
  have i1 : (k : Int) < (n2 : Int) := by omega
  have q2 := hk0.cell 2
  have hb2 := hb.alloc hb.size (.cells #[.int .i64 xz, .int .i64 xf, .int .i64 xc, .int .i64 xq, .int .i64 xu] 38)
  have hkx := Blk.new W0 38 #[.int .i64 xz, .int .i64 xf, .int .i64 xc, .int .i64 xq, .int .i64 xu]
  have f0 := hkx.cell 0
  have f1 := hkx.cell 1
  have f2 := hkx.cell 2
  have f3 := hkx.cell 3
  have f4 := hkx.cell 4
  have hkb := hk0.alloc (.cells #[.int .i64 xz, .int .i64 xf, .int .i64 xc, .int .i64 xq, .int .i64 xu] 38)
  have p2 := hkb.cell 2
  have HS := Lib.hid (hs0.step (b1' W0 (.cells #[.int .i64 xz, .int .i64 xf, .int .i64 xc, .int .i64 xq, .int .i64 xu] 38)))
  have HB2 := Lib.hid hb2
  by_cases z4 : xz = 4
  · subst z4
    obtain ⟨q, rfl, hql, _, hat⟩ := us14_in def14H (hok rfl)
    obtain ⟨y, hy⟩ : ∃ y, gt14 S.H q = y := ⟨_, rfl⟩
    obtain ⟨yz, yf, yc, yq, yu⟩ := y
    have HE : Hid (b = (yc != (k : Int))) := Lib.hid (by rw [Bool.eq_iff_iff, hbt]; simp [Queues14, hat, hy])
    obtain ⟨a2, of2, hA2, _, hq2⟩ := Lq.at_ len14H (by omega) HS.out.r2 hql
    injection hA2 with hA2
    injection hA2 with ha2 ho2
    subst ha2 ho2
    rw [hy] at hq2
    have g2 : (W0.alloc (.cells #[.int .i64 4, .int .i64 (q : Int), .int .i64 xc, .int .i64 xq, .int .i64 xu] 38)).cell? ⟨a, of + q * 5 + 2, none⟩ = some (.int .i64 yc) := hq2 2 _ rfl
    have j0 : (0 : Int) ≤ (q : Int) := by omega
    have j1 : (q : Int) < (n2 : Int) := by rw [HS.out.l2] at hql; omega
    clear hs hs0 hb hb2 hk0 hkb hkx hq hx hkl hz0 hbt hok hat hy hq2 hab hql
    go_enter Try.func40, Try.ntmps40
    go_wp2_with fail
    go_ret
    exact ⟨by rw [HE.out]; rfl, HB2.out⟩
  · have HE : Hid (b = (xz == 6)) := Lib.hid (by rw [Bool.eq_iff_iff, hbt]; simp [Queues14, z4])
    clear hs hs0 hb hb2 hk0 hkb hkx hq hx hkl hz0 hbt hok hab
    go_enter Try.func40, Try.ntmps40
    go_wp2_with fail
    go_ret
    exact ⟨by rw [HE.out]; rfl, HB2.out⟩
theorem info14B : (Try.prog.info? 49).map (fun i => (i.zero, i.size, i.bytes)) = some (some (.agg #[.int .i64 0, .int .i64 0]), 2, 16) := by kernel_rfl
/-- Between two rounds: the row of arrows so far. -/
structure Br14 (w : World) (S : Sv14) (A0 A1 A2 A3 A4 : Option Addr) (n0 n1 n2 n3 n4 c0 c1 c2 c3 c4 : Nat) (sq : Int) (A : Option Addr) (m c : Nat) (l : List (Int × Int)) (W : World) : Prop where
  b : Bx14 w S A0 A1 A2 A3 A4 n0 n1 n2 n3 n4 c0 c1 c2 c3 c4 sq W
  o : W.ownsRow (w.heap.size + 1) 49 2 (.slice A m c) m (acs l)
  l : l.length = m
theorem Br14.step {w : World} {S : Sv14} {A0 A1 A2 A3 A4 : Option Addr} {n0 n1 n2 n3 n4 c0 c1 c2 c3 c4 : Nat} {sq : Int} {A : Option Addr} {m c : Nat} {l : List (Int × Int)} {W W' : World} (h : Br14 w S A0 A1 A2 A3 A4 n0 n1 n2 n3 n4 c0 c1 c2 c3 c4 sq A m c l W) (hb : Below W.heap.size W W') : Br14 w S A0 A1 A2 A3 A4 n0 n1 n2 n3 n4 c0 c1 c2 c3 c4 sq A m c l W' :=
  ⟨h.b.step hb, own12_keep2 h.o hb, h.l⟩
theorem Br14.congr {w : World} {S : Sv14} {A0 A1 A2 A3 A4 : Option Addr} {n0 n1 n2 n3 n4 c0 c1 c2 c3 c4 : Nat} {sq : Int} {A : Option Addr} {m c : Nat} {l l2 : List (Int × Int)} {W : World} (h : Br14 w S A0 A1 A2 A3 A4 n0 n1 n2 n3 n4 c0 c1 c2 c3 c4 sq A m c l W) (e : l = l2) : Br14 w S A0 A1 A2 A3 A4 n0 n1 n2 n3 n4 c0 c1 c2 c3 c4 sq A m c l2 W := e ▸ h
/-- An arrow is appended. -/
theorem Br14.push {w : World} {S : Sv14} {A0 A1 A2 A3 A4 : Option Addr} {n0 n1 n2 n3 n4 c0 c1 c2 c3 c4 : Nat} {sq : Int} {A : Option Addr} {m c : Nat} {l : List (Int × Int)} {W : World} (hs : SA14 w S A0 A1 A2 A3 A4 n0 n1 n2 n3 n4 c0 c1 c2 c3 c4 sq) (h : Br14 w S A0 A1 A2 A3 A4 n0 n1 n2 n3 n4 c0 c1 c2 c3 c4 sq A m c l W) (x y : Int) (hm : m ≤ 2000) :
    ∃ Az cz W2, (Builtin.append_ #[40, 40] 40 #[.slice A m c, .slice (some ⟨W.heap.size, 0, none⟩) 1 1]).run Try.prog (W.alloc (.cells #[.int .i64 x, .int .i64 y] 49)) = .ok (.slice Az (m + 1) cz) W2 ∧ Br14 w S A0 A1 A2 A3 A4 n0 n1 n2 n3 n4 c0 c1 c2 c3 c4 sq Az (m + 1) cz (l ++ [(x, y)]) W2 ∧ (∀ g t cs, Blk W g t cs → t ≠ 49 → Blk W2 g t cs) := by
  have hbz := b1' W (.cells #[.int .i64 x, .int .i64 y] 49)
  have hkz := Blk.new W 49 #[.int .i64 x, .int .i64 y]
  have h1 := h.step hbz
  have hsy : (W.alloc (.cells #[.int .i64 x, .int .i64 y] 49)).heap.size = W.heap.size + 1 := by simp
  have hkeep : ∀ g t cs, Blk W g t cs → Blk (W.alloc (.cells #[.int .i64 x, .int .i64 y] 49)) g t cs := fun g t cs hg => hg.alloc _
  obtain ⟨Y, hY⟩ : ∃ Y, W.alloc (.cells #[.int .i64 x, .int .i64 y] 49) = Y := ⟨_, rfl⟩
  rw [hY] at hbz hkz h1 hsy hkeep ⊢
  have hrv : Rv Y Y.heap.size (some ⟨W.heap.size, 0, none⟩) [.int .i64 x, .int .i64 y] := fun _ => ⟨W.heap.size, 0, rfl, by omega, fun j v hj => by rw [Nat.zero_add, hkz.cell]; simpa using hj⟩
  have hxl := h1.b.x.lt
  obtain ⟨Az, cz, W2, hrun, hown, hg⟩ := run_append_14 (P := Try.prog) Y (w.heap.size + 1) 40 40 49 _ 2 16 Try.underlying40 info14B rfl (by omega) (by omega) _ m _ h1.o Y.heap.size (some ⟨W.heap.size, 0, none⟩) [.int .i64 x, .int .i64 y] 1 1 rfl hrv (by simp [Value.oneCell']) (by omega) (by omega)
  have hB : Below w.heap.size w W2 := h1.b.b.grown hg h1.b.b.size (fun r hr => by have := (h1.o.lt r hr).1; omega)
  refine ⟨Az, cz, W2, hrun, ⟨⟨hB, h1.b.x.grown hg (fun e => by have := (h1.o.lt _ e.symm).1; omega), hs.step hB⟩, ?_, by simp [h.l]⟩, fun g t cs hb hne => (hkeep g t cs hb).grown hg (own14_blk h1.o (hkeep g t cs hb) hne)⟩
  rw [acs_append]
  exact hown
set_option maxHeartbeats 2000000 in
theorem rcoinArrows14 (v : Value) (S : Sv14) (w : World) (h : St14 w v S) : Calls Try.prog 26 #[v] w (RetAq14 w (cArr14 S S.T.length)) := by
  obtain ⟨A0, A1, A2, A3, A4, n0, n1, n2, n3, n4, c0, c1, c2, c3, c4, sq, rfl, hs⟩ := h
  have HP : Hid (RetAq14 w (cArr14 S S.T.length) = fun e w' => ∃ A c, e = .returned (.slice A (cArr14 S n1).length c) ∧ Aq w' w'.heap.size A (cArr14 S n1) ∧ Below w.heap.size w w') := Lib.hid (by rw [hs.l1]; rfl)
  have HX0 : Hid (Br14 w S A0 A1 A2 A3 A4 n0 n1 n2 n3 n4 c0 c1 c2 c3 c4 sq none 0 0 (cArr14 S 0) (w.alloc (.cells #[.slice A0 n0 c0, .slice A1 n1 c1, .slice A2 n2 c2, .slice A3 n3 c3, .slice A4 n4 c4, .int .i64 sq] 28))) := Lib.hid ⟨Bx14.new hs, World.ownsRow_nil _ _ _ _, rfl⟩
  have HS := Lib.hid hs
  have hnb := hs.m1
  clear hs
  go_enter Try.func26, Try.ntmps26
  go_wp2_with fail
  go_loopw [3, 4] (fun v i wr => ∃ (k : Nat) (A : Option Addr) (m c : Nat), v = .slice A m c ∧ i = .int .i64 (k : Int) ∧ k ≤ n1 ∧ Hid (Br14 w S A0 A1 A2 A3 A4 n0 n1 n2 n3 n4 c0 c1 c2 c3 c4 sq A m c (cArr14 S k) wr)) (fun _ i _ => n1 - (intOf i).toNat)
  case atStart => exact ⟨0, none, 0, 0, rfl, rfl, by omega, HX0⟩
  case round =>
    obtain ⟨k, A, m, c, rfl, rfl, hk, HW⟩ := hrel
    have t0_ := HW.out.b.x.cell 1
    by_cases hkn : k < n1
    · skip
      obtain ⟨a, of, hA, hab, hq⟩ := Lq.at_ len14T (by omega) HW.out.b.s.r1 (show k < S.T.length by rw [HW.out.b.s.l1]; omega)
      have HAE := Lib.hid hA
      obtain ⟨x, hx⟩ : ∃ x, gt14 S.T k = x := ⟨_, rfl⟩
      rw [hx] at hq
      obtain ⟨xu, xc, xa, xk, xt, xo⟩ := x
      have e0 : wr.cell? ⟨a, of + k * 6, none⟩ = some (.bool xu) := hq 0 _ rfl
      have e1 : wr.cell? ⟨a, of + k * 6 + 1, none⟩ = some (.int .i64 xc) := hq 1 _ rfl
      have e2 : wr.cell? ⟨a, of + k * 6 + 2, none⟩ = some (.int .i64 xa) := hq 2 _ rfl
      have e3 : wr.cell? ⟨a, of + k * 6 + 3, none⟩ = some (.int .i64 xk) := hq 3 _ rfl
      have e4 : wr.cell? ⟨a, of + k * 6 + 4, none⟩ = some (.int .i64 xt) := hq 4 _ rfl
      have e5 : wr.cell? ⟨a, of + k * 6 + 5, none⟩ = some (.bool xo) := hq 5 _ rfl
      have i0 : (0 : Int) ≤ (k : Int) := by omega
      have i1 : (k : Int) < (n1 : Int) := by omega
      have HV := Lib.hid (Br14.step HW.out (b1' wr (.cells #[.bool xu, .int .i64 xc, .int .i64 xa, .int .i64 xk, .int .i64 xt, .bool xo] 55)))
      have hv := Blk.new wr 55 #[.bool xu, .int .i64 xc, .int .i64 xa, .int .i64 xk, .int .i64 xt, .bool xo]
      have v0 := hv.cell 0
      have v1 := hv.cell 1
      have v2 := hv.cell 2
      have v3 := hv.cell 3
      have v4 := hv.cell 4
      have v5 := hv.cell 5
      have HVB := Lib.hid hv
      have HXE := Lib.hid hx
      have p0 := HV.out.b.x.cell 0
      have p1 := HV.out.b.x.cell 1
      have p2 := HV.out.b.x.cell 2
      have p3 := HV.out.b.x.cell 3
      have p4 := HV.out.b.x.cell 4
      have p5 := HV.out.b.x.cell 5
      obtain ⟨X, hX⟩ : ∃ X, wr.alloc (.cells #[.bool xu, .int .i64 xc, .int .i64 xa, .int .i64 xk, .int .i64 xt, .bool xo] 55) = X := ⟨_, rfl⟩
      rw [hX] at HV HVB v0 v1 v2 v3 v4 v5 p0 p1 p2 p3 p4 p5
      clear hv hq hx hab
      subst hA
      have hmk : m ≤ k := by rw [← HW.out.l]; exact cArr14_len S k
      cases xu with
      | false =>
        have HN := Lib.hid (HV.out.congr (l2 := cArr14 S (k + 1)) (by rw [cArr14, HXE.out, if_neg (by simp), List.append_nil]))
        go_wp2_with fail
        go_roundw
        case rel => exact ⟨k + 1, A, m, c, rfl, by go_num, by omega, HN⟩
        case measure => simp [intOf]; omega
      | true =>
        by_cases k2 : xk = 2
        · subst k2
          have HE : Hid (cArr14 S (k + 1) = cArr14 S k ++ [(xc, xt)]) := Lib.hid (by rw [cArr14, HXE.out, if_pos (by simp)])
          obtain ⟨Az, cz, W2, hrun, har, hkp⟩ := HV.out.push HS.out xc xt (by omega)
          have vz := (hkp _ _ _ HVB.out (by decide)).cell 0
          clear hkp
          have HRUN := Lib.hid hrun
          have HAR := Lib.hid (har.congr HE.out.symm)
          clear hrun har
          go_wp2_with (at_builtin; go_loud (refine wpList_append_14 _ rfl (.tmp 25) (.tmp 31) 40 rfl _ _ _ _ rfl rfl HRUN.out ?_))
          go_roundw
          case rel => exact ⟨k + 1, Az, m + 1, cz, rfl, by go_num, by omega, HAR⟩
          case measure => simp [intOf]; omega
        · have HN := Lib.hid (HV.out.congr (l2 := cArr14 S (k + 1)) (by rw [cArr14, HXE.out, if_neg (by simp [k2]), List.append_nil]))
          go_wp2_with fail
          go_roundw
          case rel => exact ⟨k + 1, A, m, c, rfl, by go_num, by omega, HN⟩
          case measure => simp [intOf]; omega
    · obtain rfl : k = n1 := by omega
      have HL := Lib.hid HW.out.l
      have h1 : ¬ (k : Int) < (k : Int) := by omega
      go_wp2_with fail
      go_ret
      rw [HP.out]
      exact ⟨A, c, by rw [HL.out]; rfl, aq14_own HW.out.o, HW.out.b.b⟩
set_option maxHeartbeats 2000000 in
theorem rthreadArrows14 (v : Value) (S : Sv14) (w : World) (h : St14 w v S) (hok : ∀ j, j < S.H.length → (gt14 S.H j).s = 6 → us14 usL S.L (gt14 S.H j).f = true) : Calls Try.prog 27 #[v] w (RetAq14 w (tArr14 S S.H.length)) := by
  obtain ⟨A0, A1, A2, A3, A4, n0, n1, n2, n3, n4, c0, c1, c2, c3, c4, sq, rfl, hs⟩ := h
  have HP : Hid (RetAq14 w (tArr14 S S.H.length) = fun e w' => ∃ A c, e = .returned (.slice A (tArr14 S n2).length c) ∧ Aq w' w'.heap.size A (tArr14 S n2) ∧ Below w.heap.size w w') := Lib.hid (by rw [hs.l2]; rfl)
  have HX0 : Hid (Br14 w S A0 A1 A2 A3 A4 n0 n1 n2 n3 n4 c0 c1 c2 c3 c4 sq none 0 0 (tArr14 S 0) (w.alloc (.cells #[.slice A0 n0 c0, .slice A1 n1 c1, .slice A2 n2 c2, .slice A3 n3 c3, .slice A4 n4 c4, .int .i64 sq] 28))) := Lib.hid ⟨Bx14.new hs, World.ownsRow_nil _ _ _ _, rfl⟩
  have HS := Lib.hid hs
  have hnb := hs.m2
  have HOK := Lib.hid hok
  have HLH := Lib.hid hs.l2
  clear hs
  go_enter Try.func27, Try.ntmps27
  go_wp2_with fail
  go_loopw [3, 4] (fun v i wr => ∃ (k : Nat) (A : Option Addr) (m c : Nat), v = .slice A m c ∧ i = .int .i64 (k : Int) ∧ k ≤ n2 ∧ Hid (Br14 w S A0 A1 A2 A3 A4 n0 n1 n2 n3 n4 c0 c1 c2 c3 c4 sq A m c (tArr14 S k) wr)) (fun _ i _ => n2 - (intOf i).toNat)
  case atStart => exact ⟨0, none, 0, 0, rfl, rfl, by omega, HX0⟩
  case round =>
    obtain ⟨k, A, m, c, rfl, rfl, hk, HW⟩ := hrel
    have t0_ := HW.out.b.x.cell 2
    by_cases hkn : k < n2
    · skip
      obtain ⟨a, of, hA, hab, hq⟩ := Lq.at_ len14H (by omega) HW.out.b.s.r2 (show k < S.H.length by rw [HW.out.b.s.l2]; omega)
      have HAE := Lib.hid hA
      obtain ⟨x, hx⟩ : ∃ x, gt14 S.H k = x := ⟨_, rfl⟩
      rw [hx] at hq
      obtain ⟨xz, xf, xc, xq, xu⟩ := x
      have e0 : wr.cell? ⟨a, of + k * 5, none⟩ = some (.int .i64 xz) := hq 0 _ rfl
      have e1 : wr.cell? ⟨a, of + k * 5 + 1, none⟩ = some (.int .i64 xf) := hq 1 _ rfl
      have e2 : wr.cell? ⟨a, of + k * 5 + 2, none⟩ = some (.int .i64 xc) := hq 2 _ rfl
      have e3 : wr.cell? ⟨a, of + k * 5 + 3, none⟩ = some (.int .i64 xq) := hq 3 _ rfl
      have e4 : wr.cell? ⟨a, of + k * 5 + 4, none⟩ = some (.int .i64 xu) := hq 4 _ rfl
      have i0 : (0 : Int) ≤ (k : Int) := by omega
      have i1 : (k : Int) < (n2 : Int) := by omega
      have HV := Lib.hid (Br14.step HW.out (b1' wr (.cells #[.int .i64 xz, .int .i64 xf, .int .i64 xc, .int .i64 xq, .int .i64 xu] 38)))
      have hv := Blk.new wr 38 #[.int .i64 xz, .int .i64 xf, .int .i64 xc, .int .i64 xq, .int .i64 xu]
      have v0 := hv.cell 0
      have v1 := hv.cell 1
      have v2 := hv.cell 2
      have v3 := hv.cell 3
      have v4 := hv.cell 4
      have HVB := Lib.hid hv
      have HXE := Lib.hid hx
      have p0 := HV.out.b.x.cell 0
      have p1 := HV.out.b.x.cell 1
      have p2 := HV.out.b.x.cell 2
      have p3 := HV.out.b.x.cell 3
      have p4 := HV.out.b.x.cell 4
      have p5 := HV.out.b.x.cell 5
      obtain ⟨X, hX⟩ : ∃ X, wr.alloc (.cells #[.int .i64 xz, .int .i64 xf, .int .i64 xc, .int .i64 xq, .int .i64 xu] 38) = X := ⟨_, rfl⟩
      rw [hX] at HV HVB v0 v1 v2 v3 v4 p0 p1 p2 p3 p4 p5
      clear hv hq hx hab
      subst hA
      have hmk : m ≤ k := by rw [← HW.out.l]; exact tArr14_len S k
      by_cases z4 : xz = 4
      · subst z4
        have HE : Hid (tArr14 S (k + 1) = tArr14 S k ++ [((k : Int), xf)]) := Lib.hid (by rw [tArr14, HXE.out, if_pos rfl])
        obtain ⟨Az, cz, W2, hrun, har, hkp⟩ := HV.out.push HS.out (k : Int) xf (by omega)
        have vz := (hkp _ _ _ HVB.out (by decide)).cell 0
        clear hkp
        have HRUN := Lib.hid hrun
        have HAR := Lib.hid (har.congr HE.out.symm)
        clear hrun har
        go_wp2_with (at_builtin; go_loud (refine wpList_append_14 _ rfl (.tmp 21) (.tmp 26) 40 rfl _ _ _ _ rfl rfl HRUN.out ?_))
        go_roundw
        case rel => exact ⟨k + 1, Az, m + 1, cz, rfl, by go_num, by omega, HAR⟩
        case measure => simp [intOf]; omega
      · by_cases z6 : xz = 6
        · subst z6
          obtain ⟨q, hxq, hql, _, hat⟩ := us14_in def14L (by have h := HOK.out k (by rw [HLH.out]; exact hkn) (by rw [HXE.out]); rwa [HXE.out] at h : us14 usL S.L xf = true)
          subst hxq
          obtain ⟨y, hy⟩ : ∃ y, gt14 S.L q = y := ⟨_, rfl⟩
          obtain ⟨yu, yh⟩ := y
          have HE : Hid (tArr14 S (k + 1) = tArr14 S k ++ [((k : Int), yh)]) := Lib.hid (by rw [tArr14, HXE.out, if_neg (by simp), if_pos rfl, hat, hy])
          obtain ⟨a3, of3, hA3, _, hq3⟩ := Lq.at_ len14L (by omega) HV.out.b.s.r3 hql
          subst hA3
          rw [hy] at hq3
          have g1 : X.cell? ⟨a3, of3 + q * 2 + 1, none⟩ = some (.int .i64 yh) := hq3 1 _ rfl
          have j0 : (0 : Int) ≤ (q : Int) := by omega
          have j1 : (q : Int) < (n3 : Int) := by rw [HV.out.b.s.l3] at hql; omega
          clear hat hy hq3 hql
          obtain ⟨Az, cz, W2, hrun, har, hkp⟩ := HV.out.push HS.out (k : Int) yh (by omega)
          have vz := (hkp _ _ _ HVB.out (by decide)).cell 0
          clear hkp
          have HRUN := Lib.hid hrun
          have HAR := Lib.hid (har.congr HE.out.symm)
          clear hrun har
          go_wp2_with (at_builtin; go_loud (refine wpList_append_14 _ rfl (.tmp 31) (.tmp 41) 40 rfl _ _ _ _ rfl rfl HRUN.out ?_))
          go_roundw
          case rel => exact ⟨k + 1, Az, m + 1, cz, rfl, by go_num, by omega, HAR⟩
          case measure => simp [intOf]; omega
        · have HN := Lib.hid (HV.out.congr (l2 := tArr14 S (k + 1)) (by rw [tArr14, HXE.out, if_neg z4, if_neg z6, List.append_nil]))
          go_wp2_with fail
          go_roundw
          case rel => exact ⟨k + 1, A, m, c, rfl, by go_num, by omega, HN⟩
          case measure => simp [intOf]; omega
    · obtain rfl : k = n2 := by omega
      have HL := Lib.hid HW.out.l
      have h1 : ¬ (k : Int) < (k : Int) := by omega
      go_wp2_with fail
      go_ret
      rw [HP.out]
      exact ⟨A, c, by rw [HL.out]; rfl, aq14_own HW.out.o, HW.out.b.b⟩
end Go.Proofs.Ytfjpjbgdmebihaa
namespace Go.Proofs.Ytfjpjbgdmebihaa
open Go.RowKit
set_option maxRecDepth 100000
theorem fine16_lock {S : Sv14} (hf : Fine14 S) : ∀ j, j < S.H.length → (gt14 S.H j).s = 6 → us14 usL S.L (gt14 S.H j).f = true := by
  intro j hj h6
  have hth := (hf.2.2.2.2.2.1.1 j hj (by rw [usH, h6]; rfl)).1
  rcases hth with h | h | h
  · rw [h.1] at h6; cases h6
  · exact h.2
  · have := h.1; omega
theorem arr16_mem {l : List (Int × Int)} {k : Nat} (hk : k < l.length) : arr l k ∈ l := by
  have e : arr l k = l[k] := by simp [arr, List.getElem?_eq_getElem hk]
  rw [e]
  exact List.getElem_mem hk
theorem fnx16 {S : Sv14} {k : Nat} {i : Int} (hk : k < (tArr14 S S.H.length).length) (h : (arr (tArr14 S S.H.length) k).1 = i) : (arr (tArr14 S S.H.length) k).2 = nxt16 S i := by
  have h1 : (i, (arr (tArr14 S S.H.length) k).2) ∈ tArr14 S S.H.length := by
    rw [← h]
    exact arr16_mem hk
  obtain ⟨j, hj, rfl, _⟩ := tarr16_mem.1 h1
  exact ((nxt16_arr hj).1 h1).2.symm
theorem fnx16_no {S : Sv14} {i : Int} (hf : Fine14 S) (h : ∀ k, k < (tArr14 S S.H.length).length → (arr (tArr14 S S.H.length) k).1 ≠ i) : nxt16 S i = -1 := by
  rcases nxt16_used hf i with h1 | ⟨h1, h2⟩
  · exact h1
  · exfalso
    have hu : us14 usH S.H i = true := by
      cases hu : us14 usH S.H i with
      | true => rfl
      | false => rw [nxt16_no hu, tl16_neg] at h1; cases h1
    have hin := ush16_lt hu
    obtain ⟨q, rfl⟩ : ∃ q : Nat, i = (q : Int) := ⟨i.toNat, by omega⟩
    rw [at14_yes hu, Int.toNat_natCast] at h2
    have hm : ((q : Int), nxt16 S (q : Int)) ∈ tArr14 S S.H.length := (nxt16_arr (by omega)).2 ⟨h2, rfl⟩
    obtain ⟨k, hk, he⟩ := List.getElem_of_mem hm
    refine h k hk ?_
    have e : arr (tArr14 S S.H.length) k = (tArr14 S S.H.length)[k] := by simp [arr, List.getElem?_eq_getElem hk]
    rw [e, he]
set_option maxHeartbeats 4000000 in
theorem rnext16 (v : Value) (S : Sv14) (i : Int) (w : World) (h : St14 w v S) (hf : Fine14 S) :
    Calls Try.prog 10 #[v, .int .i64 i] w fun e w' => e = .returned (.int .i64 (nxt16 S i)) ∧ Below w.heap.size w w' := by
  obtain ⟨A0, A1, A2, A3, A4, n0, n1, n2, n3, n4, c0, c1, c2, c3, c4, sq, rfl, hs⟩ := h
  have hx0 := Bx14.new hs
  have hxn := hx0.step (Below.refl _ _).drew
  obtain ⟨W1, hW1⟩ : ∃ W, w.alloc (.cells #[.slice A0 n0 c0, .slice A1 n1 c1, .slice A2 n2 c2, .slice A3 n3 c3, .slice A4 n4 c4, .int .i64 sq] 28) = W := ⟨_, rfl⟩
  rw [hW1] at hx0 hxn
  have HX0 := Lib.hid hx0
  have p0 := hx0.x.cell 0
  have p1 := hx0.x.cell 1
  have p2 := hx0.x.cell 2
  have p3 := hx0.x.cell 3
  have p4 := hx0.x.cell 4
  have p5 := hx0.x.cell 5
  obtain ⟨m, hm⟩ : ∃ m, (tArr14 S S.H.length).length = m := ⟨_, rfl⟩
  have hmn : m ≤ 1000000 := by have := tArr14_len S S.H.length; have := hs.l2; have := hs.m2; omega
  have HT := Lib.hid (fun W h => rthreadArrows14 (.agg #[.slice A0 n0 c0, .slice A1 n1 c1, .slice A2 n2 c2, .slice A3 n3 c3, .slice A4 n4 c4, .int .i64 sq]) S W h (fine16_lock hf))
  have HF := Lib.hid hf
  have HM := Lib.hid hm
  clear hs hx0 hxn hf hm
  go_enter Try.func10, Try.ntmps10
  go_wp2_with fail
  refine (HT.out _ HX0.out.st).mono ?_
  rintro e u1 ⟨A, c, rfl, hr, hb1⟩
  have HR := Lib.hid hr
  have HB1 := Lib.hid (HX0.out.b.trans (hb1.mono HX0.out.b.size))
  rw [HM.out]
  clear hb1 HT HX0 p0 p1 p2 p3 p4 p5 hW1 hr
  go_wp2_with fail
  go_loopw [6] (fun v wr => ∃ k : Nat, v = .int .i64 (k : Int) ∧ k ≤ m ∧ Hid (∀ q, q < k → (arr (tArr14 S S.H.length) q).1 ≠ i) ∧ Hid (Below u1.heap.size u1 wr)) (fun v _ => m - (intOf v).toNat)
  case atStart => exact ⟨0, rfl, by omega, Lib.hid (fun q h => by omega), Lib.hid (Below.refl _ _)⟩
  case round =>
    obtain ⟨k, rfl, hk, HN, HG⟩ := hrel
    by_cases hkm : k < m
    · obtain ⟨ba, o, hA, hab, c0, c1⟩ := Aq.at_ (Rv.below HR.out HG.out (Nat.le_refl _)) (show k < (tArr14 S S.H.length).length by rw [HM.out]; exact hkm)
      subst hA
      obtain ⟨fi, hfi⟩ : ∃ x, (arr (tArr14 S S.H.length) k).1 = x := ⟨_, rfl⟩
      obtain ⟨ti, hti⟩ : ∃ x, (arr (tArr14 S S.H.length) k).2 = x := ⟨_, rfl⟩
      have HI := Lib.hid hfi
      have HJ := Lib.hid hti
      rw [hfi] at c0
      rw [hti] at c1
      have i0 : (0 : Int) ≤ (k : Int) := by omega
      have i1 : (k : Int) < (m : Int) := by omega
      clear hfi hti hab
      by_cases hi : fi = i
      · have hib : (fi == i) = true := by simp [hi]
        have HE : Hid (nxt16 S i = ti) := Lib.hid (by rw [← HJ.out]; exact (fnx16 (by rw [HM.out]; exact hkm) (by rw [HI.out]; exact hi)).symm)
        clear hi
        go_wp2_with fail
        go_ret
        exact ⟨by rw [HE.out]; rfl, HB1.out.trans (HG.out.mono HB1.out.size)⟩
      · have hib : (fi == i) = false := by simp [hi]
        have HNI := Lib.hid hi
        clear hi
        go_wp2_with fail
        go_roundw
        case rel => exact ⟨k + 1, by go_num, by omega, Lib.hid (fun q hq => by
          rcases (show q < k ∨ q = k by omega) with h5 | h5
          · exact HN.out q h5
          · rw [h5, HI.out]; exact HNI.out), HG⟩
        case measure => simp [intOf]; omega
    · obtain rfl : k = m := by omega
      have i1 : ¬ (k : Int) < (k : Int) := by omega
      have HE : Hid (nxt16 S i = -1) := Lib.hid (fnx16_no HF.out (by rw [HM.out]; exact HN.out))
      go_wp2_with fail
      go_ret
      exact ⟨by rw [HE.out]; rfl, HB1.out.trans (HG.out.mono HB1.out.size)⟩
theorem one16_own (W : World) (L : Nat) (x : Nat) (hL : L ≤ W.heap.size) : (W.alloc (.cells #[.int .i64 (x : Int)] 3)).ownsRow L 3 1 (.slice (some ⟨W.heap.size, 0, none⟩) 1 1) 1 (ints [x]) :=
  ⟨by simp [ints], .inr ⟨W.heap.size, 1, #[.int .i64 (x : Int)], rfl, hL, heap_alloc_new W _, by omega, by decide, by simp, by simp [ints]⟩⟩
set_option maxHeartbeats 4000000 in
theorem rtail16 (l : List Nat) : ∀ (v : Value) (S : Sv14) (i : Int) (w : World) (_ : St14 w v S) (_ : Fine14 S) (_ : Tl16 S i l),
    Calls Try.prog 8 #[v, .int .i64 i] w (RetR15 w l) := by
  induction l with
  | nil =>
    intro v S i w h hf hl
    obtain ⟨A0, A1, A2, A3, A4, n0, n1, n2, n3, n4, c0, c1, c2, c3, c4, sq, rfl, hs⟩ := h
    have hx0 := Bx14.new hs
    have hxn := hx0.step (Below.refl _ _).drew
    obtain ⟨W1, hW1⟩ : ∃ W, w.alloc (.cells #[.slice A0 n0 c0, .slice A1 n1 c1, .slice A2 n2 c2, .slice A3 n3 c3, .slice A4 n4 c4, .int .i64 sq] 28) = W := ⟨_, rfl⟩
    rw [hW1] at hx0 hxn
    have HP : Hid (RetR15 w [] = fun e w' => ∃ A c, e = .returned (.slice A 0 c) ∧ Rd w' w'.heap.size A [] ∧ Below w.heap.size w w') := Lib.hid rfl
    have HX0 := Lib.hid hx0
    have p0 := hx0.x.cell 0
    have p1 := hx0.x.cell 1
    have p2 := hx0.x.cell 2
    have p3 := hx0.x.cell 3
    have p4 := hx0.x.cell 4
    have p5 := hx0.x.cell 5
    have HU := Lib.hid (fun W h => rThread14 (.agg #[.slice A0 n0 c0, .slice A1 n1 c1, .slice A2 n2 c2, .slice A3 n3 c3, .slice A4 n4 c4, .int .i64 sq]) S i false W h (hl.nil.1 rfl))
    clear hs hx0 hxn hf hl
    go_enter Try.func8, Try.ntmps8
    go_wp2_with fail
    refine (HU.out _ HX0.out.st).mono ?_
    rintro e u1 ⟨rfl, hb1⟩
    have HB1 := Lib.hid (HX0.out.b.trans (hb1.mono HX0.out.b.size))
    clear hb1 HU HX0 p0 p1 p2 p3 p4 p5 hW1
    go_wp2_with fail
    go_ret
    rw [HP.out]
    exact ⟨none, 0, rfl, fun hx => absurd rfl hx, HB1.out⟩
  | cons k r ih =>
    intro v S i w h hf hl
    obtain ⟨A0, A1, A2, A3, A4, n0, n1, n2, n3, n4, c0, c1, c2, c3, c4, sq, rfl, hs⟩ := h
    have hx0 := Bx14.new hs
    have hxn := hx0.step (Below.refl _ _).drew
    obtain ⟨W1, hW1⟩ : ∃ W, w.alloc (.cells #[.slice A0 n0 c0, .slice A1 n1 c1, .slice A2 n2 c2, .slice A3 n3 c3, .slice A4 n4 c4, .int .i64 sq] 28) = W := ⟨_, rfl⟩
    rw [hW1] at hx0 hxn
    have HP : Hid (RetR15 w (k :: r) = fun e w' => ∃ A c, e = .returned (.slice A (r.length + 1) c) ∧ Rd w' w'.heap.size A (k :: r) ∧ Below w.heap.size w w') := Lib.hid rfl
    have HX0 := Lib.hid hx0
    have p0 := hx0.x.cell 0
    have p1 := hx0.x.cell 1
    have p2 := hx0.x.cell 2
    have p3 := hx0.x.cell 3
    have p4 := hx0.x.cell 4
    have p5 := hx0.x.cell 5
    have hu : us14 usH S.H i = true := by
      cases hu : us14 usH S.H i with
      | true => rfl
      | false => cases hl.no hu
    obtain ⟨k2, r2, hik, he, ht⟩ := hl.cons hf hu
    injection he with hk hr
    subst hk hr hik
    have HU := Lib.hid (fun W h => rThread14 (.agg #[.slice A0 n0 c0, .slice A1 n1 c1, .slice A2 n2 c2, .slice A3 n3 c3, .slice A4 n4 c4, .int .i64 sq]) S (k : Int) true W h hu)
    have HN := Lib.hid (fun W h => rnext16 (.agg #[.slice A0 n0 c0, .slice A1 n1 c1, .slice A2 n2 c2, .slice A3 n3 c3, .slice A4 n4 c4, .int .i64 sq]) S (k : Int) W h hf)
    have HI := Lib.hid (fun W h => ih (.agg #[.slice A0 n0 c0, .slice A1 n1 c1, .slice A2 n2 c2, .slice A3 n3 c3, .slice A4 n4 c4, .int .i64 sq]) S (nxt16 S (k : Int)) W h hf ht)
    have HLN : Hid (r.length ≤ 1000) := Lib.hid (by have := hl.len hf; have := hs.l2; have := hs.m2; simp at *; omega)
    have HT := Lib.hid ht
    have hnu := nxt16_used hf (k : Int)
    clear hs hx0 hxn hf hl ih hu ht
    go_enter Try.func8, Try.ntmps8
    go_wp2_with fail
    refine (HU.out _ HX0.out.st).mono ?_
    rintro e u1 ⟨rfl, hb1⟩
    have HX1 := Lib.hid (HX0.out.step hb1)
    have q0 := HX1.out.x.cell 0
    have q1 := HX1.out.x.cell 1
    have q2 := HX1.out.x.cell 2
    have q3 := HX1.out.x.cell 3
    have q4 := HX1.out.x.cell 4
    have q5 := HX1.out.x.cell 5
    clear hb1 HU HX0 p0 p1 p2 p3 p4 p5 hW1
    go_wp2_with fail
    refine (HN.out _ HX1.out.st).mono ?_
    rintro e u2 ⟨rfl, hb2⟩
    have HX2 := Lib.hid (HX1.out.step hb2)
    have y0 := HX2.out.x.cell 0
    have y1 := HX2.out.x.cell 1
    have y2 := HX2.out.x.cell 2
    have y3 := HX2.out.x.cell 3
    have y4 := HX2.out.x.cell 4
    have y5 := HX2.out.x.cell 5
    clear hb2 HN HX1 q0 q1 q2 q3 q4 q5
    obtain ⟨nx, hnx⟩ : ∃ x, nxt16 S (k : Int) = x := ⟨_, rfl⟩
    rw [hnx] at HT HI hnu ⊢
    clear hnx
    rcases hnu with h0 | h0
    · subst h0
      have HE : Hid (r = []) := Lib.hid (HT.out.no (tl16_neg S))
      have hb3 := b1' u2 (.cells #[.int .i64 (k : Int)] 3)
      have HR : Hid (Rd (u2.alloc (.cells #[.int .i64 (k : Int)] 3)) (u2.alloc (.cells #[.int .i64 (k : Int)] 3)).heap.size (some ⟨u2.heap.size, 0, none⟩) [k]) := Lib.hid (rd15_own (one16_own u2 0 k (by omega)) rfl)
      have HB3 := Lib.hid (HX2.out.b.trans (hb3.mono HX2.out.b.size))
      clear hb3
      go_wp2_with fail
      go_ret
      rw [HP.out, HE.out]
      exact ⟨_, 1, rfl, HR.out, HB3.out⟩
    · have hge : 0 ≤ nx := (ush16_lt h0.1).1
      have hlt : ¬ nx < 0 := by omega
      have hb3 := b1' u2 (.cells #[.int .i64 (k : Int)] 3)
      have HX3 := Lib.hid (HX2.out.step hb3)
      have HO := Lib.hid (one16_own u2 (w.heap.size + 1) k (by have := HX2.out.x.lt; omega))
      have z0 := HX3.out.x.cell 0
      have z1 := HX3.out.x.cell 1
      have z2 := HX3.out.x.cell 2
      have z3 := HX3.out.x.cell 3
      have z4 := HX3.out.x.cell 4
      have z5 := HX3.out.x.cell 5
      obtain ⟨g, hg⟩ : ∃ g, u2.heap.size = g := ⟨_, rfl⟩
      obtain ⟨u3, hu3⟩ : ∃ W, u2.alloc (.cells #[.int .i64 (k : Int)] 3) = W := ⟨_, rfl⟩
      rw [hu3] at HX3 HO z0 z1 z2 z3 z4 z5
      rw [hg] at HO
      clear h0 hge hb3 y0 y1 y2 y3 y4 y5
      go_wp2_with fail
      refine (HI.out _ HX3.out.st).mono ?_
      rintro e u4 ⟨A, c, rfl, hr, hb4⟩
      have HX4 := Lib.hid (HX3.out.step hb4)
      have ho4 := own7_keep HO.out hb4
      have hsz := HX4.out.x.lt
      obtain ⟨Az, cz, W2, hrun, hown, hgr⟩ := run_append_14 (P := Try.prog) u4 (w.heap.size + 1) 26 26 3 _ 1 8 Try.underlying26 info_int11 rfl (by omega) (by omega) _ 1 _ ho4 u4.heap.size A (ints r) r.length c (by simp [ints]) hr.rv11 (ints_one r) (by have := HLN.out; omega) (by omega)
      have hW2 : Below (w.heap.size + 1) u4 W2 := (Below.refl _ _).grown hgr (by omega) (fun q hq => (ho4.lt q hq).1)
      have HB2 := Lib.hid (HX4.out.b.trans (hW2.mono (by omega)))
      rw [Nat.add_comm 1 r.length] at hrun hown
      rw [← ints_append, List.singleton_append] at hown
      have HRD := Lib.hid (rd15_own hown (by simp))
      have HRUN := Lib.hid hrun
      clear hb4 HI hr ho4 hsz hrun hown hgr hW2 HX3 HX4 HO z0 z1 z2 z3 z4 z5
      go_wp2_with (at_builtin; go_loud (refine wpList_append_14 _ rfl (.tmp 18) (.tmp 21) 26 rfl _ _ _ _ rfl rfl HRUN.out ?_))
      go_ret
      rw [HP.out]
      exact ⟨Az, cz, rfl, HRD.out, HB2.out⟩
set_option maxHeartbeats 4000000 in
theorem rend16 (v : Value) (S : Sv14) (i : Int) (l : List Nat) (w : World) (h : St14 w v S) (hf : Fine14 S) (hl : Tl16 S i l) :
    Calls Try.prog 14 #[v, .int .i64 i] w fun e w' => e = .returned (.int .i64 (en16 l)) ∧ Below w.heap.size w w' := by
  obtain ⟨A0, A1, A2, A3, A4, n0, n1, n2, n3, n4, c0, c1, c2, c3, c4, sq, rfl, hs⟩ := h
  have hx0 := Bx14.new hs
  have hxn := hx0.step (Below.refl _ _).drew
  obtain ⟨W1, hW1⟩ : ∃ W, w.alloc (.cells #[.slice A0 n0 c0, .slice A1 n1 c1, .slice A2 n2 c2, .slice A3 n3 c3, .slice A4 n4 c4, .int .i64 sq] 28) = W := ⟨_, rfl⟩
  rw [hW1] at hx0 hxn
  have HX0 := Lib.hid hx0
  have p0 := hx0.x.cell 0
  have p1 := hx0.x.cell 1
  have p2 := hx0.x.cell 2
  have p3 := hx0.x.cell 3
  have p4 := hx0.x.cell 4
  have p5 := hx0.x.cell 5
  have HLN : Hid (l.length ≤ 1000000) := Lib.hid (by have := hl.len hf; have := hs.l2; have := hs.m2; omega)
  have HT := Lib.hid (fun W h => rtail16 l (.agg #[.slice A0 n0 c0, .slice A1 n1 c1, .slice A2 n2 c2, .slice A3 n3 c3, .slice A4 n4 c4, .int .i64 sq]) S i W h hf hl)
  clear hs hx0 hxn hf hl
  go_enter Try.func14, Try.ntmps14
  go_wp2_with fail
  refine (HT.out _ HX0.out.st).mono ?_
  rintro e u1 ⟨A, c, rfl, hr, hb1⟩
  have HB1 := Lib.hid (HX0.out.b.trans (hb1.mono HX0.out.b.size))
  clear hb1 HT HX0 p0 p1 p2 p3 p4 p5 hW1
  by_cases hl0 : l = []
  · subst hl0
    have HE : Hid (en16 [] = -1) := Lib.hid rfl
    clear hr
    go_wp2_with fail
    go_ret
    exact ⟨by rw [HE.out]; rfl, HB1.out⟩
  · obtain ⟨d, hd⟩ : ∃ d, l.length = d + 1 := ⟨l.length - 1, by have := List.length_pos_iff.2 hl0; omega⟩
    obtain ⟨a, of, hA, hab, hq⟩ := hr.at_ (show d < l.length by omega)
    subst hA
    have HE : Hid (en16 l = ((nth l d : Nat) : Int)) := Lib.hid (by rw [en16, if_neg hl0, lst16, hd]; rfl)
    have hnz : (((d + 1 : Nat) : Int) == 0) = false := by simp; omega
    have hdm : d + 1 ≤ 1000000 := by have := HLN.out; omega
    rw [hd]
    clear hr hab hd hl0
    have i0 : (0 : Int) ≤ (d : Int) := by omega
    have i1 : (d : Int) < ((d + 1 : Nat) : Int) := by omega
    have hsb : ((d + 1 : Nat) : Int) - 1 = (d : Int) := by omega
    go_wp2_with fail
    go_ret
    exact ⟨by rw [HE.out]; rfl, HB1.out⟩
set_option maxHeartbeats 4000000 in
theorem rlives16 (v : Value) (S : Sv14) (i : Int) (l : List Nat) (w : World) (h : St14 w v S) (hf : Fine14 S) (hl : Tl16 S i l) :
    Calls Try.prog 17 #[v, .int .i64 i] w fun e w' => e = .returned (.bool (lv16 S (en16 l))) ∧ Below w.heap.size w w' := by
  obtain ⟨A0, A1, A2, A3, A4, n0, n1, n2, n3, n4, c0, c1, c2, c3, c4, sq, rfl, hs⟩ := h
  have hx0 := Bx14.new hs
  have hxn := hx0.step (Below.refl _ _).drew
  obtain ⟨W1, hW1⟩ : ∃ W, w.alloc (.cells #[.slice A0 n0 c0, .slice A1 n1 c1, .slice A2 n2 c2, .slice A3 n3 c3, .slice A4 n4 c4, .int .i64 sq] 28) = W := ⟨_, rfl⟩
  rw [hW1] at hx0 hxn
  have HX0 := Lib.hid hx0
  have p0 := hx0.x.cell 0
  have p1 := hx0.x.cell 1
  have p2 := hx0.x.cell 2
  have p3 := hx0.x.cell 3
  have p4 := hx0.x.cell 4
  have p5 := hx0.x.cell 5
  have hus := en16_used hf hl
  have HT := Lib.hid (fun W h => rend16 (.agg #[.slice A0 n0 c0, .slice A1 n1 c1, .slice A2 n2 c2, .slice A3 n3 c3, .slice A4 n4 c4, .int .i64 sq]) S i l W h hf hl)
  obtain ⟨en, hen⟩ : ∃ x, en16 l = x := ⟨_, rfl⟩
  rw [hen] at hus HT ⊢
  have HL2 := Lib.hid hs.l2
  have hnm : n2 ≤ 1000 := by have := hs.m2; omega
  have hge : en < 0 → en = -1 := by
    intro h
    cases hu : us14 usH S.H i with
    | false => rw [← hen]; exact en16_no (hl.no hu)
    | true => rw [hu] at hus; have := ush16_lt hus; omega
  have hu1 : 0 ≤ en → us14 usH S.H en = true := by
    intro h
    cases hu : us14 usH S.H i with
    | true => rw [hus, hu]
    | false => rw [← hen, en16_no (hl.no hu)] at h; omega
  clear hs hx0 hxn hf hl hus hen
  go_enter Try.func17, Try.ntmps17
  go_wp2_with fail
  refine (HT.out _ HX0.out.st).mono ?_
  rintro e u1 ⟨rfl, hb1⟩
  have HX1 := Lib.hid (HX0.out.step hb1)
  have q0 := HX1.out.x.cell 0
  have q1 := HX1.out.x.cell 1
  have q2 := HX1.out.x.cell 2
  have q3 := HX1.out.x.cell 3
  have q4 := HX1.out.x.cell 4
  have q5 := HX1.out.x.cell 5
  clear hb1 HT HX0 p0 p1 p2 p3 p4 p5 hW1
  by_cases h0 : 0 ≤ en
  · have hu := hu1 h0
    have hin := ush16_lt hu
    obtain ⟨k, rfl⟩ : ∃ k : Nat, en = (k : Int) := ⟨en.toNat, by omega⟩
    obtain ⟨a, of, hA, hab, hq⟩ := Lq.at_ len14H (by omega) HX1.out.s.r2 (show k < S.H.length by omega)
    subst hA
    obtain ⟨x, hx⟩ : ∃ x, gt14 S.H k = x := ⟨_, rfl⟩
    rw [hx] at hq
    obtain ⟨xz, xf, xc, xq, xu⟩ := x
    have e0 : u1.cell? ⟨a, of + k * 5, none⟩ = some (.int .i64 xz) := hq 0 _ rfl
    have HE : Hid (lv16 S (k : Int) = ((xz == 2) || (xz == 3))) := Lib.hid (by rw [lv16, at14_yes hu, Int.toNat_natCast, hx])
    have i1 : (k : Int) < (n2 : Int) := by have := HL2.out; omega
    have hgb : decide ((k : Int) ≥ 0) = true := by simp
    clear hq hx hab hge hu1 hu hin
    by_cases z2 : xz = 2
    · subst z2
      go_wp2_with fail
      go_ret
      exact ⟨by rw [HE.out]; rfl, HX1.out.b⟩
    · have z2b : (xz == 2) = false := by simp [z2]
      rw [z2b] at HE
      go_wp2_with fail
      go_ret
      exact ⟨by rw [HE.out]; rfl, HX1.out.b⟩
  · obtain rfl := hge (by omega)
    have HE : Hid (lv16 S (-1) = false) := Lib.hid (lv16_no (tl16_neg S))
    clear hge hu1 h0
    go_wp2_with fail
    go_ret
    exact ⟨by rw [HE.out]; rfl, HX1.out.b⟩
end Go.Proofs.Ytfjpjbgdmebihaa
namespace Go.Proofs.Ytfjpjbgdmebihaa
open Go.RowKit
set_option maxRecDepth 100000
set_option maxHeartbeats 8000000 in
theorem rbehind16 (v : Value) (S : Sv14) (i : Int) (near : Bool) (w : World) (h : St14 w v S) (hf : Fine14 S) :
    Calls Try.prog 19 #[v, .int .i64 i, .bool near] w (RetR15 w (bh16 S i near)) := by
  obtain ⟨A0, A1, A2, A3, A4, n0, n1, n2, n3, n4, c0, c1, c2, c3, c4, sq, rfl, hs⟩ := h
  have HP : Hid (RetR15 w (bh16 S i near) = fun e w' => ∃ A c, e = .returned (.slice A (bh16 S i near).length c) ∧ Rd w' w'.heap.size A (bh16 S i near) ∧ Below w.heap.size w w') := Lib.hid rfl
  have HX0 : Hid (Ti15 w (w.heap.size + 1) S A0 A1 A2 A3 A4 n0 n1 n2 n3 n4 c0 c1 c2 c3 c4 sq none 0 0 (all11 (bhb16 S i near) 0) (w.alloc (.cells #[.slice A0 n0 c0, .slice A1 n1 c1, .slice A2 n2 c2, .slice A3 n3 c3, .slice A4 n4 c4, .int .i64 sq] 28))) := Lib.hid (Ti15.start hs (Bx14.new hs) (by omega) (by simp))
  obtain ⟨b, hb⟩ : ∃ b, us14 usH S.H i = b := ⟨_, rfl⟩
  have HB := Lib.hid hb
  have HU := Lib.hid (fun W (h : Bx14 w S A0 A1 A2 A3 A4 n0 n1 n2 n3 n4 c0 c1 c2 c3 c4 sq W) => rThread14 (.agg #[.slice A0 n0 c0, .slice A1 n1 c1, .slice A2 n2 c2, .slice A3 n3 c3, .slice A4 n4 c4, .int .i64 sq]) S i b W h.st hb)
  have HT := Lib.hid (fun W (h : Bx14 w S A0 A1 A2 A3 A4 n0 n1 n2 n3 n4 c0 c1 c2 c3 c4 sq W) => rthreadArrows14 (.agg #[.slice A0 n0 c0, .slice A1 n1 c1, .slice A2 n2 c2, .slice A3 n3 c3, .slice A4 n4 c4, .int .i64 sq]) S W h.st (fine16_lock hf))
  have HN := Lib.hid (fun W (h : Bx14 w S A0 A1 A2 A3 A4 n0 n1 n2 n3 n4 c0 c1 c2 c3 c4 sq W) k => rnext16 (.agg #[.slice A0 n0 c0, .slice A1 n1 c1, .slice A2 n2 c2, .slice A3 n3 c3, .slice A4 n4 c4, .int .i64 sq]) S k W h.st hf)
  have HL2 := Lib.hid hs.l2
  have hnb := hs.m2
  have HLN : Hid ((tArr14 S S.H.length).length ≤ 1000000) := Lib.hid (by have := tArr14_len S S.H.length; have := hs.l2; omega)
  clear hs hf hb
  go_enter Try.func19, Try.ntmps19
  go_wp2_with fail
  go_loopw [7, 8] (fun v iv wr => ∃ (k : Nat) (A : Option Addr) (m c : Nat), v = .slice A m c ∧ iv = .int .i64 (k : Int) ∧ k ≤ n2 ∧ Hid (Ti15 w (w.heap.size + 1) S A0 A1 A2 A3 A4 n0 n1 n2 n3 n4 c0 c1 c2 c3 c4 sq A m c (all11 (bhb16 S i near) k) wr)) (fun _ iv _ => n2 - (intOf iv).toNat)
  case atStart => exact ⟨0, none, 0, 0, rfl, rfl, by omega, HX0⟩
  case round =>
    clear HX0
    obtain ⟨k, A, m, c, rfl, rfl, hk, HW⟩ := hrel
    have p0 := HW.out.b.x.cell 0
    have p1 := HW.out.b.x.cell 1
    have p2 := HW.out.b.x.cell 2
    have p3 := HW.out.b.x.cell 3
    have p4 := HW.out.b.x.cell 4
    have p5 := HW.out.b.x.cell 5
    by_cases hkn : k < n2
    · have i0 : (0 : Int) ≤ (k : Int) := by omega
      have i1 : (k : Int) < (n2 : Int) := by omega
      have hmk : m ≤ k := by rw [← HW.out.l]; exact all11_len _ k
      cases b with
      | false =>
        have HE : Hid (bh16 S i near = all11 (bhb16 S i near) k) := Lib.hid (by
          have z : ∀ n, all11 (bhb16 S i near) n = [] := fun n => List.eq_nil_iff_forall_not_mem.2 fun x hx => by
            unfold all11 at hx
            rw [List.mem_filter, bhb16, HB.out] at hx
            cases hx.2
          unfold bh16
          rw [z, z])
        have HL := Lib.hid HW.out.l
        go_wp2_with fail
        refine (HU.out _ HW.out.b).mono ?_
        rintro e u1 ⟨rfl, hb1⟩
        have HW1 := Lib.hid (HW.out.step hb1)
        clear hb1 HU
        go_wp2_with fail
        go_ret
        rw [HP.out, HE.out]
        exact ⟨A, c, by rw [HL.out]; rfl, HW1.out.rd, HW1.out.b.b⟩
      | true =>
        have hin := ush16_lt HB.out
        obtain ⟨q, hq⟩ : ∃ q : Nat, i = (q : Int) := ⟨i.toNat, by omega⟩
        subst hq
        have hqn : q < n2 := by have := HL2.out; omega
        have j0 : (0 : Int) ≤ (q : Int) := by omega
        have j1 : (q : Int) < (n2 : Int) := by omega
        have HNX : Hid (all11 (bhb16 S (q : Int) near) (k + 1) = all11 (bhb16 S (q : Int) near) k ++ if bhb16 S (q : Int) near k then [k] else []) := Lib.hid (all11_next _ k)
        have HBQ : Hid (bhb16 S (q : Int) near k = if near then (nxt16 S (k : Int) == (q : Int)) else wayb (Ta16 S) k q) := Lib.hid (by
          rw [bhb16, HB.out, Bool.true_and, Int.toNat_natCast]
          rfl)
        clear hin
        go_wp2_with fail
        refine (HU.out _ HW.out.b).mono ?_
        rintro e u1 ⟨rfl, hb1⟩
        have HQ := Lib.hid (HW.out.step hb1)
        clear hb1 HW p0 p1 p2 p3 p4 p5
        have HXN : Hid (Ti15 w (w.heap.size + 1) S A0 A1 A2 A3 A4 n0 n1 n2 n3 n4 c0 c1 c2 c3 c4 sq A m c (all11 (bhb16 S ((q : Nat) : Int) near) k) u1.drew) := Lib.hid (HQ.out.step (Below.refl _ _).drew)
        clear HQ
        obtain ⟨wn, hwn⟩ : ∃ W, u1.drew = W := ⟨_, rfl⟩
        rw [hwn] at HXN
        go_wp2_with fail
        refine wp_region_held_drew (S := Ti15 w (w.heap.size + 1) S A0 A1 A2 A3 A4 n0 n1 n2 n3 n4 c0 c1 c2 c3 c4 sq A m c (all11 (bhb16 S ((q : Nat) : Int) near) k)) (by kernel_rfl) (by rw [hwn]; exact HXN.out) (fun hHeld => ?_)
        rw [hwn] at hHeld ⊢
        clear hwn
        have HBS := HXN
        refine tk 0 (v := ?_) (fun W hS => ?_) ?_
        rotate_left
        · try dsimp only at hS
          have z0 := hS.b.x.cell 0
          have z1 := hS.b.x.cell 1
          have z2 := hS.b.x.cell 2
          have z3 := hS.b.x.cell 3
          have z4 := hS.b.x.cell 4
          have z5 := hS.b.x.cell 5
          go_simp
          try with_reducible rfl
        (try dsimp only [Act.put]); try simp only [pt1, pt2, pt3]
        refine tk 1 (v := ?_) (fun W hS => ?_) ?_
        rotate_left
        · try dsimp only at hS
          have z0 := hS.b.x.cell 0
          have z1 := hS.b.x.cell 1
          have z2 := hS.b.x.cell 2
          have z3 := hS.b.x.cell 3
          have z4 := hS.b.x.cell 4
          have z5 := hS.b.x.cell 5
          go_simp
          try with_reducible rfl
        (try dsimp only [Act.put]); try simp only [pt1, pt2, pt3]
        refine tk 2 (v := ?_) (fun W hS => ?_) ?_
        rotate_left
        · (go_simp; try with_reducible rfl)
        (try dsimp only [Act.put]); try simp only [pt1, pt2, pt3]
        refine tk 3 (v := ?_) (fun W hS => ?_) ?_
        rotate_left
        · try dsimp only at hS
          have z0 := hS.b.x.cell 0
          have z1 := hS.b.x.cell 1
          have z2 := hS.b.x.cell 2
          have z3 := hS.b.x.cell 3
          have z4 := hS.b.x.cell 4
          have z5 := hS.b.x.cell 5
          go_simp
          try with_reducible rfl
        (try dsimp only [Act.put]); try simp only [pt1, pt2, pt3]
        refine tk 5 (v := ?_) (fun W hS => ?_) ?_
        rotate_left
        · (go_simp; try with_reducible rfl)
        (try dsimp only [Act.put]); try simp only [pt1, pt2, pt3]
        refine tk 7 (v := ?_) (fun W hS => ?_) ?_
        rotate_left
        · (go_simp; try with_reducible rfl)
        (try dsimp only [Act.put]); try simp only [pt1, pt2, pt3]
        refine rdy 4 (fun K hK => ?_)
        have HBS0 := HBS
        go_simp
        refine (HT.out _ HBS0.out.b).mono ?_
        rintro e wn ⟨Ad, cd, rfl, hr, hb⟩
        have HBS := Lib.hid (HBS0.out.step hb)
        have HRA := Lib.hid hr
        clear hr
        clear hb HBS0
        refine hK.out _ _ HBS.out (fun hHeld => ?_)
        clear hK K
        (try dsimp only [Act.put]); try simp only [pt1, pt2, pt3]
        refine rdy 6 (fun K hK => ?_)
        have HBS0 := HBS
        go_simp
        refine (rreach13_any n2 Ad (tArr14 S S.H.length) _ cd (k : Int) wn rfl HRA.out HLN.out (by omega)).mono ?_
        rintro e wn ⟨gr, Tm, rfl, hrv, hT, hb⟩
        have HBS := Lib.hid (HBS0.out.step hb)
        have HTQ : Hid (Tm q = wayb (Ta16 S) k q) := Lib.hid (by have h := hT k rfl q; rw [h, Ta16, HL2.out])
        have HCL : Hid (wn.cell? ⟨gr, q, none⟩ = some (.bool (Tm q))) := Lib.hid (by
            obtain ⟨gb, ob, h1, _, h2⟩ := hrv (by intro e; have := bls_len Tm n2; rw [e] at this; simp at this; omega)
            injection h1 with h1
            injection h1 with h3 h4
            subst h3 h4
            have h5 := h2 q (.bool (Tm q)) (bls_get Tm hqn)
            rwa [Nat.zero_add] at h5)
        clear hrv hT
        clear hb HBS0 HRA
        refine hK.out _ _ HBS.out (fun hHeld => ?_)
        clear hK K
        (try dsimp only [Act.put]); try simp only [pt1, pt2, pt3]
        refine tk 8 (v := ?_) (fun W hS => ?_) ?_
        rotate_left
        · (go_simp; try with_reducible rfl)
        (try dsimp only [Act.put]); try simp only [pt1, pt2, pt3]
        refine rdy 9 (fun K hK => ?_)
        have c9 := HCL.out
        go_simp
        refine hK.out _ _ HBS.out (fun hHeld => ?_)
        clear hK K
        (try dsimp only [Act.put]); try simp only [pt1, pt2, pt3]
        refine rdy 10 (fun K hK => ?_)
        go_simp
        refine hK.out _ _ HBS.out (fun hHeld => ?_)
        clear hK K
        (try dsimp only [Act.put]); try simp only [pt1, pt2, pt3]
        refine wpAnyH_done (by kernel_rfl) ?_ _
        clear hHeld
        have HQ := HBS
        clear HBS HXN HCL HT
        cases near with
        | false =>
          obtain ⟨bp, hbp⟩ : ∃ y, Tm q = y := ⟨_, rfl⟩
          rw [hbp] at HTQ ⊢
          have HB2 : Hid (bhb16 S (q : Int) false k = bp) := Lib.hid (by rw [HBQ.out, if_neg (by decide), HTQ.out])
          clear hbp HTQ
          cases bp with
          | false =>
            have HN2 := Lib.hid (HQ.out.congr (ys := all11 (bhb16 S (q : Int) false) (k + 1)) (by rw [HNX.out, HB2.out]; simp))
            go_wp2_with fail
            go_roundw
            case rel => exact ⟨k + 1, A, m, c, rfl, by go_num, by omega, HN2⟩
            case measure => simp [intOf]; omega
          | true =>
            obtain ⟨Az, cz, W2, hrun, har, _⟩ := HQ.out.push k (by omega)
            have HRUN := Lib.hid hrun
            have HAR := Lib.hid (har.congr (ys := all11 (bhb16 S (q : Int) false) (k + 1)) (by rw [HNX.out, HB2.out]; simp))
            clear hrun har
            go_wp2_with (at_builtin; go_loud (refine wpList_append_14 _ rfl (.tmp 39) (.tmp 41) 26 rfl _ _ _ _ rfl rfl HRUN.out ?_))
            go_roundw
            case rel => exact ⟨k + 1, Az, m + 1, cz, rfl, by go_num, by omega, HAR⟩
            case measure => simp [intOf]; omega
        | true =>
          have HB2 : Hid (bhb16 S (q : Int) true k = (nxt16 S (k : Int) == (q : Int))) := Lib.hid (by rw [HBQ.out, if_pos rfl])
          clear HTQ
          have y0 := HQ.out.b.x.cell 0
          have y1 := HQ.out.b.x.cell 1
          have y2 := HQ.out.b.x.cell 2
          have y3 := HQ.out.b.x.cell 3
          have y4 := HQ.out.b.x.cell 4
          have y5 := HQ.out.b.x.cell 5
          go_wp2_with fail
          refine (HN.out _ HQ.out.b (k : Int)).mono ?_
          rintro e u3 ⟨rfl, hb3⟩
          have HQ3 := Lib.hid (HQ.out.step hb3)
          obtain ⟨bp, hbp⟩ : ∃ y, (nxt16 S (k : Int) == (q : Int)) = y := ⟨_, rfl⟩
          rw [hbp] at HB2
          clear hb3 HQ y0 y1 y2 y3 y4 y5
          cases bp with
          | false =>
            have HN2 := Lib.hid (HQ3.out.congr (ys := all11 (bhb16 S (q : Int) true) (k + 1)) (by rw [HNX.out, HB2.out]; simp))
            go_wp2_with fail
            go_roundw
            case rel => exact ⟨k + 1, A, m, c, rfl, by go_num, by omega, HN2⟩
            case measure => simp [intOf]; omega
          | true =>
            obtain ⟨Az, cz, W2, hrun, har, _⟩ := HQ3.out.push k (by omega)
            have HRUN := Lib.hid hrun
            have HAR := Lib.hid (har.congr (ys := all11 (bhb16 S (q : Int) true) (k + 1)) (by rw [HNX.out, HB2.out]; simp))
            clear hrun har
            go_wp2_with (at_builtin; go_loud (refine wpList_append_14 _ rfl (.tmp 39) (.tmp 41) 26 rfl _ _ _ _ rfl rfl HRUN.out ?_))
            go_roundw
            case rel => exact ⟨k + 1, Az, m + 1, cz, rfl, by go_num, by omega, HAR⟩
            case measure => simp [intOf]; omega
    · obtain rfl : k = n2 := by omega
      have HL := Lib.hid HW.out.l
      have HE : Hid (bh16 S i near = all11 (bhb16 S i near) k) := Lib.hid (by unfold bh16; rw [HL2.out])
      have h1 : ¬ (k : Int) < (k : Int) := by omega
      have h2 : decide ((k : Int) < (k : Int)) = false := decide_eq_false h1
      go_wp2_with fail
      go_ret
      rw [HP.out, HE.out]
      exact ⟨A, c, by rw [HL.out]; rfl, HW.out.rd, HW.out.b.b⟩
end Go.Proofs.Ytfjpjbgdmebihaa
