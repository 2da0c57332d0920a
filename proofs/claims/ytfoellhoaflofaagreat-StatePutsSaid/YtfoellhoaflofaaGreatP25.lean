/-
  SaidStatePuts, part 25 of 26: what the theorem statePuts_holds reaches.
-/
import Derived.Test.YtfoellhoaflofaaGreatP24
namespace Go.Proofs.YtfoellhoaflofaaGreat
open Go.RowKit
set_option maxRecDepth 100000
/-- Four variables of states, each apart from the others. -/
structure Al14 (wb : World) (p q r s : Nat) (Xp Xq Xr Xs : Sv14) (W : World) : Prop where
  b : Below wb.heap.size wb W
  fp : wb.heap.size ≤ p
  fq : wb.heap.size ≤ q
  fr : wb.heap.size ≤ r
  fs : wb.heap.size ≤ s
  dpq : p ≠ q
  dpr : p ≠ r
  dps : p ≠ s
  dqr : q ≠ r
  dqs : q ≠ s
  drs : r ≠ s
  vp : Vb14 W p Xp [p, q, r, s]
  vq : Vb14 W q Xq [p, q, r, s]
  vr : Vb14 W r Xr [p, q, r, s]
  vs : Vb14 W s Xs [p, q, r, s]
theorem Al14.step {wb : World} {p q r s : Nat} {Xp Xq Xr Xs : Sv14} {W W2 : World} (h : Al14 wb p q r s Xp Xq Xr Xs W) (hb : Below W.heap.size W W2) : Al14 wb p q r s Xp Xq Xr Xs W2 :=
  ⟨h.b.trans (hb.mono h.b.size), h.fp, h.fq, h.fr, h.fs, h.dpq, h.dpr, h.dps, h.dqr, h.dqs, h.drs, h.vp.step hb, h.vq.step hb, h.vr.step hb, h.vs.step hb⟩
theorem Al14.put_p {wb : World} {p q r s : Nat} {Xp Xq Xr Xs : Sv14} {W W2 : World} {Y : Sv14} {A0 A1 A2 A3 A4 : Option Addr} {n0 n1 n2 n3 n4 c0 c1 c2 c3 c4 : Nat} {sq : Int} (h : Al14 wb p q r s Xp Xq Xr Xs W) (hb : Below W.heap.size W W2) (hs : SA14 W2 Y A0 A1 A2 A3 A4 n0 n1 n2 n3 n4 c0 c1 c2 c3 c4 sq) (hf : FA14 W.heap.size Y A0 A1 A2 A3 A4) : Al14 wb p q r s Y Xq Xr Xs (put6 W2 p A0 A1 A2 A3 A4 n0 n1 n2 n3 n4 c0 c1 c2 c3 c4 sq) := by
  have hlt : ∀ {g : Nat} {X : Sv14} {G : List Nat}, Vb14 W g X G → g < W.heap.size := fun hv => by
    obtain ⟨_, _, _, _, _, _, _, _, _, _, _, _, _, _, _, _, hk, _⟩ := hv
    exact hk.lt
  have hap : ∀ g ∈ [p, q, r, s], Ap14 g Y A0 A1 A2 A3 A4 := fun g hg => by
    simp only [List.mem_cons, List.not_mem_nil, or_false] at hg
    rcases hg with e | e | e | e
    · subst e; exact Ap14.of_fa hf (hlt h.vp)
    · subst e; exact Ap14.of_fa hf (hlt h.vq)
    · subst e; exact Ap14.of_fa hf (hlt h.vr)
    · subst e; exact Ap14.of_fa hf (hlt h.vs)
  have h2 := h.step hb
  obtain ⟨B0, B1, B2, B3, B4, m0, m1, m2, m3, m4, e0, e1, e2, e3, e4, sx, hk, _, _⟩ := h2.vp
  exact ⟨put6_below h2.b h2.fp A0 A1 A2 A3 A4 n0 n1 n2 n3 n4 c0 c1 c2 c3 c4 sq, h2.fp, h2.fq, h2.fr, h2.fs, h2.dpq, h2.dpr, h2.dps, h2.dqr, h2.dqs, h2.drs, ⟨A0, A1, A2, A3, A4, n0, n1, n2, n3, n4, c0, c1, c2, c3, c4, sq, hk.put6 A0 A1 A2 A3 A4 n0 n1 n2 n3 n4 c0 c1 c2 c3 c4 sq, hs.put6 (hap _ (by simp)) A0 A1 A2 A3 A4 n0 n1 n2 n3 n4 c0 c1 c2 c3 c4 sq, hap⟩, h2.vq.put6 (by simp) h2.dpq.symm A0 A1 A2 A3 A4 n0 n1 n2 n3 n4 c0 c1 c2 c3 c4 sq, h2.vr.put6 (by simp) h2.dpr.symm A0 A1 A2 A3 A4 n0 n1 n2 n3 n4 c0 c1 c2 c3 c4 sq, h2.vs.put6 (by simp) h2.dps.symm A0 A1 A2 A3 A4 n0 n1 n2 n3 n4 c0 c1 c2 c3 c4 sq⟩
theorem Al14.put_q {wb : World} {p q r s : Nat} {Xp Xq Xr Xs : Sv14} {W W2 : World} {Y : Sv14} {A0 A1 A2 A3 A4 : Option Addr} {n0 n1 n2 n3 n4 c0 c1 c2 c3 c4 : Nat} {sq : Int} (h : Al14 wb p q r s Xp Xq Xr Xs W) (hb : Below W.heap.size W W2) (hs : SA14 W2 Y A0 A1 A2 A3 A4 n0 n1 n2 n3 n4 c0 c1 c2 c3 c4 sq) (hf : FA14 W.heap.size Y A0 A1 A2 A3 A4) : Al14 wb p q r s Xp Y Xr Xs (put6 W2 q A0 A1 A2 A3 A4 n0 n1 n2 n3 n4 c0 c1 c2 c3 c4 sq) := by
  have hlt : ∀ {g : Nat} {X : Sv14} {G : List Nat}, Vb14 W g X G → g < W.heap.size := fun hv => by
    obtain ⟨_, _, _, _, _, _, _, _, _, _, _, _, _, _, _, _, hk, _⟩ := hv
    exact hk.lt
  have hap : ∀ g ∈ [p, q, r, s], Ap14 g Y A0 A1 A2 A3 A4 := fun g hg => by
    simp only [List.mem_cons, List.not_mem_nil, or_false] at hg
    rcases hg with e | e | e | e
    · subst e; exact Ap14.of_fa hf (hlt h.vp)
    · subst e; exact Ap14.of_fa hf (hlt h.vq)
    · subst e; exact Ap14.of_fa hf (hlt h.vr)
    · subst e; exact Ap14.of_fa hf (hlt h.vs)
  have h2 := h.step hb
  obtain ⟨B0, B1, B2, B3, B4, m0, m1, m2, m3, m4, e0, e1, e2, e3, e4, sx, hk, _, _⟩ := h2.vq
  exact ⟨put6_below h2.b h2.fq A0 A1 A2 A3 A4 n0 n1 n2 n3 n4 c0 c1 c2 c3 c4 sq, h2.fp, h2.fq, h2.fr, h2.fs, h2.dpq, h2.dpr, h2.dps, h2.dqr, h2.dqs, h2.drs, h2.vp.put6 (by simp) h2.dpq A0 A1 A2 A3 A4 n0 n1 n2 n3 n4 c0 c1 c2 c3 c4 sq, ⟨A0, A1, A2, A3, A4, n0, n1, n2, n3, n4, c0, c1, c2, c3, c4, sq, hk.put6 A0 A1 A2 A3 A4 n0 n1 n2 n3 n4 c0 c1 c2 c3 c4 sq, hs.put6 (hap _ (by simp)) A0 A1 A2 A3 A4 n0 n1 n2 n3 n4 c0 c1 c2 c3 c4 sq, hap⟩, h2.vr.put6 (by simp) h2.dqr.symm A0 A1 A2 A3 A4 n0 n1 n2 n3 n4 c0 c1 c2 c3 c4 sq, h2.vs.put6 (by simp) h2.dqs.symm A0 A1 A2 A3 A4 n0 n1 n2 n3 n4 c0 c1 c2 c3 c4 sq⟩
theorem Al14.put_r {wb : World} {p q r s : Nat} {Xp Xq Xr Xs : Sv14} {W W2 : World} {Y : Sv14} {A0 A1 A2 A3 A4 : Option Addr} {n0 n1 n2 n3 n4 c0 c1 c2 c3 c4 : Nat} {sq : Int} (h : Al14 wb p q r s Xp Xq Xr Xs W) (hb : Below W.heap.size W W2) (hs : SA14 W2 Y A0 A1 A2 A3 A4 n0 n1 n2 n3 n4 c0 c1 c2 c3 c4 sq) (hf : FA14 W.heap.size Y A0 A1 A2 A3 A4) : Al14 wb p q r s Xp Xq Y Xs (put6 W2 r A0 A1 A2 A3 A4 n0 n1 n2 n3 n4 c0 c1 c2 c3 c4 sq) := by
  have hlt : ∀ {g : Nat} {X : Sv14} {G : List Nat}, Vb14 W g X G → g < W.heap.size := fun hv => by
    obtain ⟨_, _, _, _, _, _, _, _, _, _, _, _, _, _, _, _, hk, _⟩ := hv
    exact hk.lt
  have hap : ∀ g ∈ [p, q, r, s], Ap14 g Y A0 A1 A2 A3 A4 := fun g hg => by
    simp only [List.mem_cons, List.not_mem_nil, or_false] at hg
    rcases hg with e | e | e | e
    · subst e; exact Ap14.of_fa hf (hlt h.vp)
    · subst e; exact Ap14.of_fa hf (hlt h.vq)
    · subst e; exact Ap14.of_fa hf (hlt h.vr)
    · subst e; exact Ap14.of_fa hf (hlt h.vs)
  have h2 := h.step hb
  obtain ⟨B0, B1, B2, B3, B4, m0, m1, m2, m3, m4, e0, e1, e2, e3, e4, sx, hk, _, _⟩ := h2.vr
  exact ⟨put6_below h2.b h2.fr A0 A1 A2 A3 A4 n0 n1 n2 n3 n4 c0 c1 c2 c3 c4 sq, h2.fp, h2.fq, h2.fr, h2.fs, h2.dpq, h2.dpr, h2.dps, h2.dqr, h2.dqs, h2.drs, h2.vp.put6 (by simp) h2.dpr A0 A1 A2 A3 A4 n0 n1 n2 n3 n4 c0 c1 c2 c3 c4 sq, h2.vq.put6 (by simp) h2.dqr A0 A1 A2 A3 A4 n0 n1 n2 n3 n4 c0 c1 c2 c3 c4 sq, ⟨A0, A1, A2, A3, A4, n0, n1, n2, n3, n4, c0, c1, c2, c3, c4, sq, hk.put6 A0 A1 A2 A3 A4 n0 n1 n2 n3 n4 c0 c1 c2 c3 c4 sq, hs.put6 (hap _ (by simp)) A0 A1 A2 A3 A4 n0 n1 n2 n3 n4 c0 c1 c2 c3 c4 sq, hap⟩, h2.vs.put6 (by simp) h2.drs.symm A0 A1 A2 A3 A4 n0 n1 n2 n3 n4 c0 c1 c2 c3 c4 sq⟩
theorem Al14.put_s {wb : World} {p q r s : Nat} {Xp Xq Xr Xs : Sv14} {W W2 : World} {Y : Sv14} {A0 A1 A2 A3 A4 : Option Addr} {n0 n1 n2 n3 n4 c0 c1 c2 c3 c4 : Nat} {sq : Int} (h : Al14 wb p q r s Xp Xq Xr Xs W) (hb : Below W.heap.size W W2) (hs : SA14 W2 Y A0 A1 A2 A3 A4 n0 n1 n2 n3 n4 c0 c1 c2 c3 c4 sq) (hf : FA14 W.heap.size Y A0 A1 A2 A3 A4) : Al14 wb p q r s Xp Xq Xr Y (put6 W2 s A0 A1 A2 A3 A4 n0 n1 n2 n3 n4 c0 c1 c2 c3 c4 sq) := by
  have hlt : ∀ {g : Nat} {X : Sv14} {G : List Nat}, Vb14 W g X G → g < W.heap.size := fun hv => by
    obtain ⟨_, _, _, _, _, _, _, _, _, _, _, _, _, _, _, _, hk, _⟩ := hv
    exact hk.lt
  have hap : ∀ g ∈ [p, q, r, s], Ap14 g Y A0 A1 A2 A3 A4 := fun g hg => by
    simp only [List.mem_cons, List.not_mem_nil, or_false] at hg
    rcases hg with e | e | e | e
    · subst e; exact Ap14.of_fa hf (hlt h.vp)
    · subst e; exact Ap14.of_fa hf (hlt h.vq)
    · subst e; exact Ap14.of_fa hf (hlt h.vr)
    · subst e; exact Ap14.of_fa hf (hlt h.vs)
  have h2 := h.step hb
  obtain ⟨B0, B1, B2, B3, B4, m0, m1, m2, m3, m4, e0, e1, e2, e3, e4, sx, hk, _, _⟩ := h2.vs
  exact ⟨put6_below h2.b h2.fs A0 A1 A2 A3 A4 n0 n1 n2 n3 n4 c0 c1 c2 c3 c4 sq, h2.fp, h2.fq, h2.fr, h2.fs, h2.dpq, h2.dpr, h2.dps, h2.dqr, h2.dqs, h2.drs, h2.vp.put6 (by simp) h2.dps A0 A1 A2 A3 A4 n0 n1 n2 n3 n4 c0 c1 c2 c3 c4 sq, h2.vq.put6 (by simp) h2.dqs A0 A1 A2 A3 A4 n0 n1 n2 n3 n4 c0 c1 c2 c3 c4 sq, h2.vr.put6 (by simp) h2.drs A0 A1 A2 A3 A4 n0 n1 n2 n3 n4 c0 c1 c2 c3 c4 sq, ⟨A0, A1, A2, A3, A4, n0, n1, n2, n3, n4, c0, c1, c2, c3, c4, sq, hk.put6 A0 A1 A2 A3 A4 n0 n1 n2 n3 n4 c0 c1 c2 c3 c4 sq, hs.put6 (hap _ (by simp)) A0 A1 A2 A3 A4 n0 n1 n2 n3 n4 c0 c1 c2 c3 c4 sq, hap⟩⟩
theorem ex14_at (S : Sv14) (i : Int) : ∃ (bC bT bH bL xu : Bool) (xc xa xk xt : Int) (xo : Bool) (ys yf yc yq yu : Int) (zu : Bool) (zh : Int), us14 usC S.C i = bC ∧ us14 usT S.T i = bT ∧ us14 usH S.H i = bH ∧ us14 usL S.L i = bL ∧ at14 usT S.T i = ⟨xu, xc, xa, xk, xt, xo⟩ ∧ at14 usH S.H i = ⟨ys, yf, yc, yq, yu⟩ ∧ at14 usL S.L i = ⟨zu, zh⟩ :=
  ⟨_, _, _, _, _, _, _, _, _, _, _, _, _, _, _, _, _, rfl, rfl, rfl, rfl, rfl, rfl, rfl⟩
set_option maxHeartbeats 8000000 in
theorem lputs14_neg (A0 A1 A2 A3 A4 : Option Addr) (n0 n1 n2 n3 n4 c0 c1 c2 c3 c4 : Nat) (sq : Int) (S : Sv14) (i : Int) (pc : Bool) (pt : Tk14) (ph : Th14) (pl : Lk14) (w : World) (hs : SA14 w S A0 A1 A2 A3 A4 n0 n1 n2 n3 n4 c0 c1 c2 c3 c4 sq) (hn : Small14 n0 n1 n2 n3 n4) (hi : i < 0) :
    Calls Tryz.prog 4 #[.agg #[.slice A0 n0 c0, .slice A1 n1 c1, .slice A2 n2 c2, .slice A3 n3 c3, .slice A4 n4 c4, .int .i64 sq], .int .i64 i, .agg #[.bool pc, .bool pt.u, .int .i64 pt.c, .int .i64 pt.a, .int .i64 pt.k, .int .i64 pt.t, .bool pt.o, .int .i64 ph.s, .int .i64 ph.f, .int .i64 ph.c, .int .i64 ph.q, .int .i64 ph.u, .bool pl.u, .int .i64 pl.h]] w fun e w' => e = .returned (.bool true) ∧ Below w.heap.size w w' := by
  have HX := Lib.hid (Lp14.new (pc := pc) (pt := pt) (ph := ph) (pl := pl) hs)
  have HC := Lib.hid (fun W => small14 A0 A1 A2 A3 A4 n0 n1 n2 n3 n4 c0 c1 c2 c3 c4 sq true W (by simp [hn]))
  have HEp : Hid (putCoin14 S i pc = S) := Lib.hid (by rw [putCoin14, if_neg (by omega)])
  have HEq : Hid (putTicket14 S i pt = S) := Lib.hid (by rw [putTicket14, if_neg (by omega)])
  have HEr : Hid (putThread14 S i ph = S) := Lib.hid (by rw [putThread14, if_neg (by omega)])
  have HEs : Hid (putLock14 S i pl = S) := Lib.hid (by rw [putLock14, if_neg (by omega)])
  have j0 : ¬ 0 ≤ i := by omega
  have j0d : decide (0 ≤ i) = false := decide_eq_false j0
  obtain ⟨W0, hW0⟩ : ∃ W, ((w.alloc (.cells #[.slice A0 n0 c0, .slice A1 n1 c1, .slice A2 n2 c2, .slice A3 n3 c3, .slice A4 n4 c4, .int .i64 sq] 28)).alloc (.cells #[.bool pc, .bool pt.u, .int .i64 pt.c, .int .i64 pt.a, .int .i64 pt.k, .int .i64 pt.t, .bool pt.o, .int .i64 ph.s, .int .i64 ph.f, .int .i64 ph.c, .int .i64 ph.q, .int .i64 ph.u, .bool pl.u, .int .i64 pl.h] 49)) = W := ⟨_, rfl⟩
  rw [hW0] at HX
  have p0 := HX.out.x.cell 0
  have p1 := HX.out.x.cell 1
  have p2 := HX.out.x.cell 2
  have p3 := HX.out.x.cell 3
  have p4 := HX.out.x.cell 4
  have p5 := HX.out.x.cell 5
  have q0 := HX.out.y.cell 0
  have q1 := HX.out.y.cell 1
  have q2 := HX.out.y.cell 2
  have q3 := HX.out.y.cell 3
  have q4 := HX.out.y.cell 4
  have q5 := HX.out.y.cell 5
  have q6 := HX.out.y.cell 6
  have q7 := HX.out.y.cell 7
  have q8 := HX.out.y.cell 8
  have q9 := HX.out.y.cell 9
  have q10 := HX.out.y.cell 10
  have q11 := HX.out.y.cell 11
  have q12 := HX.out.y.cell 12
  have q13 := HX.out.y.cell 13
  obtain ⟨bC, bT, bH, bL, xu, xc, xa, xk, xt, xo, ys, yf, yc, yq, yu, zu, zh, hC, hT, hH, hL, aT, aH, aL⟩ := ex14_at S i
  have HT := Lib.hid hT
  have HH := Lib.hid hH
  have HL := Lib.hid hL
  have HCC := Lib.hid hC
  have HAT := Lib.hid aT
  have HAH := Lib.hid aH
  have HAL := Lib.hid aL
  obtain ⟨rC, fC⟩ := Free14.ex usC S.C 16
  obtain ⟨rT, fT⟩ := Free14.ex usT S.T 96
  obtain ⟨rH, fH⟩ := Free14.ex usH S.H 32
  obtain ⟨rL, fL⟩ := Free14.ex usL S.L 8
  have HF := Lib.hid (And.intro fC (And.intro fT (And.intro fH fL)))
  clear fC fT fH fL hT hH hL hC aT aH aL
  clear hs hn hi
  go_enter Tryz.func4, Tryz.ntmps4
  go_wp2_with fail
  refine (HC.out _).mono ?_
  rintro e u1 ⟨rfl, hb1⟩
  have HX1 := Lib.hid (HX.out.step hb1)
  clear hb1 HC HX hW0 p0 p1 p2 p3 p4 p5 q0 q1 q2 q3 q4 q5 q6 q7 q8 q9 q10 q11 q12 q13
  go_wp2_with fail
  refine reg14_3 HX1.out (by intro _ _ _ _ _ h; exact h) (fun _ _ _ _ _ _ _ _ _ _ _ _ _ _ _ _ _ _ _ _ g7 g8 g9 g10 u2 hb2 va vb vc vd _ _ _ _ _ _ _ _ _ _ => ?_)
  have HX2 := Lib.hid (HX1.out.step hb2)
  rw [HEp.out] at va
  rw [HEq.out] at vb
  rw [HEr.out] at vc
  rw [HEs.out] at vd
  have HVA := Lib.hid va
  have HVB := Lib.hid vb
  have HVC := Lib.hid vc
  have HVD := Lib.hid vd
  clear va vb vc vd hb2 HX1
  go_wp2_with fail
  refine reg14_4 (i := 0) (pc := pc) (pt := pt) (ph := ph) (pl := pl) HX2.out (by intro _ _ _ _ _ h; exact h) (fun _ _ _ _ p q r s u3 hb3 vp vq vr vs fp fq fr fs d1 d2 d3 d4 d5 d6 => ?_)
  have HA := Lib.hid (⟨hb3, fp, fq, fr, fs, d1, d2, d3, d4, d5, d6, vp, vq, vr, vs⟩ : Al14 u2 p q r s S S S S u3)
  clear hb3 fp fq fr fs d1 d2 d3 d4 d5 d6 vp vq vr vs
  have hva := HVA.out.step HA.out.b
  have hvw := HA.out.vp
  obtain ⟨K0, K1, K2, K3, K4, h0, h1, h2, h3, h4, l0, l1, l2, l3, l4, sy, hk, hsa, _⟩ := hva
  obtain ⟨B0, B1, B2, B3, B4, m0, m1, m2, m3, m4, d0, d1, d2, d3, d4, sz, hk2, hsb, _⟩ := hvw
  have k0 := hk.cell 0
  have k1 := hk.cell 1
  have k2 := hk.cell 2
  have k3 := hk.cell 3
  have k4 := hk.cell 4
  have k5 := hk.cell 5
  have y0 := hk2.cell 0
  have y1 := hk2.cell 1
  have y2 := hk2.cell 2
  have y3 := hk2.cell 3
  have y4 := hk2.cell 4
  have y5 := hk2.cell 5
  have HSA := Lib.hid hsa
  have HSB := Lib.hid hsb
  clear hk hk2 hsa hsb
  go_wp2_with fail
  refine (rsame14 _ _ _ _ _ HSA.out.to HSB.out.to true (by simp)).mono ?_
  rintro e v0 ⟨rfl, hb⟩
  have HB := Lib.hid (HA.out.step hb)
  clear HA HSA HSB hb k0 y0 k1 y1 k2 y2 k3 y3 k4 y4 k5 y5
  have HA := HB
  clear HB
  have hva := HVB.out.step HA.out.b
  have hvw := HA.out.vq
  obtain ⟨K0, K1, K2, K3, K4, h0, h1, h2, h3, h4, l0, l1, l2, l3, l4, sy, hk, hsa, _⟩ := hva
  obtain ⟨B0, B1, B2, B3, B4, m0, m1, m2, m3, m4, d0, d1, d2, d3, d4, sz, hk2, hsb, _⟩ := hvw
  have k0 := hk.cell 0
  have k1 := hk.cell 1
  have k2 := hk.cell 2
  have k3 := hk.cell 3
  have k4 := hk.cell 4
  have k5 := hk.cell 5
  have y0 := hk2.cell 0
  have y1 := hk2.cell 1
  have y2 := hk2.cell 2
  have y3 := hk2.cell 3
  have y4 := hk2.cell 4
  have y5 := hk2.cell 5
  have HSA := Lib.hid hsa
  have HSB := Lib.hid hsb
  clear hk hk2 hsa hsb
  go_wp2_with fail
  refine (rsame14 _ _ _ _ _ HSA.out.to HSB.out.to true (by simp)).mono ?_
  rintro e v1 ⟨rfl, hb⟩
  have HB := Lib.hid (HA.out.step hb)
  clear HA HSA HSB hb k0 y0 k1 y1 k2 y2 k3 y3 k4 y4 k5 y5
  have HA := HB
  clear HB
  have hva := HVC.out.step HA.out.b
  have hvw := HA.out.vr
  obtain ⟨K0, K1, K2, K3, K4, h0, h1, h2, h3, h4, l0, l1, l2, l3, l4, sy, hk, hsa, _⟩ := hva
  obtain ⟨B0, B1, B2, B3, B4, m0, m1, m2, m3, m4, d0, d1, d2, d3, d4, sz, hk2, hsb, _⟩ := hvw
  have k0 := hk.cell 0
  have k1 := hk.cell 1
  have k2 := hk.cell 2
  have k3 := hk.cell 3
  have k4 := hk.cell 4
  have k5 := hk.cell 5
  have y0 := hk2.cell 0
  have y1 := hk2.cell 1
  have y2 := hk2.cell 2
  have y3 := hk2.cell 3
  have y4 := hk2.cell 4
  have y5 := hk2.cell 5
  have HSA := Lib.hid hsa
  have HSB := Lib.hid hsb
  clear hk hk2 hsa hsb
  go_wp2_with fail
  refine (rsame14 _ _ _ _ _ HSA.out.to HSB.out.to true (by simp)).mono ?_
  rintro e v2 ⟨rfl, hb⟩
  have HB := Lib.hid (HA.out.step hb)
  clear HA HSA HSB hb k0 y0 k1 y1 k2 y2 k3 y3 k4 y4 k5 y5
  have HA := HB
  clear HB
  have hva := HVD.out.step HA.out.b
  have hvw := HA.out.vs
  obtain ⟨K0, K1, K2, K3, K4, h0, h1, h2, h3, h4, l0, l1, l2, l3, l4, sy, hk, hsa, _⟩ := hva
  obtain ⟨B0, B1, B2, B3, B4, m0, m1, m2, m3, m4, d0, d1, d2, d3, d4, sz, hk2, hsb, _⟩ := hvw
  have k0 := hk.cell 0
  have k1 := hk.cell 1
  have k2 := hk.cell 2
  have k3 := hk.cell 3
  have k4 := hk.cell 4
  have k5 := hk.cell 5
  have y0 := hk2.cell 0
  have y1 := hk2.cell 1
  have y2 := hk2.cell 2
  have y3 := hk2.cell 3
  have y4 := hk2.cell 4
  have y5 := hk2.cell 5
  have HSA := Lib.hid hsa
  have HSB := Lib.hid hsb
  clear hk hk2 hsa hsb
  go_wp2_with fail
  refine (rsame14 _ _ _ _ _ HSA.out.to HSB.out.to true (by simp)).mono ?_
  rintro e v3 ⟨rfl, hb⟩
  have HB := Lib.hid (HA.out.step hb)
  clear HA HSA HSB hb k0 y0 k1 y1 k2 y2 k3 y3 k4 y4 k5 y5
  have HA := HB
  clear HB
  have HX9 := Lib.hid (HX2.out.step HA.out.b)
  clear HA HVA HVB HVC HVD HX2
  have p0 := HX9.out.x.cell 0
  have p1 := HX9.out.x.cell 1
  have p2 := HX9.out.x.cell 2
  have p3 := HX9.out.x.cell 3
  have p4 := HX9.out.x.cell 4
  have p5 := HX9.out.x.cell 5
  go_wp2_with fail
  refine (ticket14 _ S i xu xc xa xk xt xo bT _ HX9.out.st HT.out HAT.out).mono ?_
  rintro e z0 ⟨rfl, hb⟩
  have hx := hb.trans ((b1' z0 (.cells #[.bool xu, .int .i64 xc, .int .i64 xa, .int .i64 xk, .int .i64 xt, .bool xo] 43)).mono hb.size)
  have HXA := Lib.hid (HX9.out.step hx)
  have HKT := Lib.hid (Blk.new z0 43 #[.bool xu, .int .i64 xc, .int .i64 xa, .int .i64 xk, .int .i64 xt, .bool xo])
  skip
  obtain ⟨Z0, hZ0⟩ : ∃ X, z0.alloc (.cells #[.bool xu, .int .i64 xc, .int .i64 xa, .int .i64 xk, .int .i64 xt, .bool xo] 43) = X := ⟨_, rfl⟩
  rw [hZ0] at HXA HKT
  clear hb hx HX9 p0 p1 p2 p3 p4 p5
  have HX9 := HXA
  clear HXA
  have p0 := HX9.out.x.cell 0
  have p1 := HX9.out.x.cell 1
  have p2 := HX9.out.x.cell 2
  have p3 := HX9.out.x.cell 3
  have p4 := HX9.out.x.cell 4
  have p5 := HX9.out.x.cell 5
  go_wp2_with fail
  refine (thread14 _ S i ys yf yc yq yu bH _ HX9.out.st HH.out HAH.out).mono ?_
  rintro e z1 ⟨rfl, hb⟩
  have hx := hb.trans ((b1' z1 (.cells #[.int .i64 ys, .int .i64 yf, .int .i64 yc, .int .i64 yq, .int .i64 yu] 45)).mono hb.size)
  have HXA := Lib.hid (HX9.out.step hx)
  have HKT2 := Lib.hid (HKT.out.below hx HKT.out.lt)
  have HKH := Lib.hid (Blk.new z1 45 #[.int .i64 ys, .int .i64 yf, .int .i64 yc, .int .i64 yq, .int .i64 yu])
  skip
  obtain ⟨Z1, hZ1⟩ : ∃ X, z1.alloc (.cells #[.int .i64 ys, .int .i64 yf, .int .i64 yc, .int .i64 yq, .int .i64 yu] 45) = X := ⟨_, rfl⟩
  rw [hZ1] at HXA HKH HKT2
  clear hb hx HX9 p0 p1 p2 p3 p4 p5 HKT
  have HX9 := HXA
  clear HXA
  have HKT := HKT2
  clear HKT2
  have p0 := HX9.out.x.cell 0
  have p1 := HX9.out.x.cell 1
  have p2 := HX9.out.x.cell 2
  have p3 := HX9.out.x.cell 3
  have p4 := HX9.out.x.cell 4
  have p5 := HX9.out.x.cell 5
  go_wp2_with fail
  refine (lock14 _ S i zu zh bL _ HX9.out.st HL.out HAL.out).mono ?_
  rintro e z2 ⟨rfl, hb⟩
  have hx := hb.trans ((b1' z2 (.cells #[.bool zu, .int .i64 zh] 47)).mono hb.size)
  have HXA := Lib.hid (HX9.out.step hx)
  have HKT2 := Lib.hid (HKT.out.below hx HKT.out.lt)
  have HKH2 := Lib.hid (HKH.out.below hx HKH.out.lt)
  have HKL := Lib.hid (Blk.new z2 47 #[.bool zu, .int .i64 zh])
  skip
  obtain ⟨Z2, hZ2⟩ : ∃ X, z2.alloc (.cells #[.bool zu, .int .i64 zh] 47) = X := ⟨_, rfl⟩
  rw [hZ2] at HXA HKL HKT2 HKH2
  clear hb hx HX9 p0 p1 p2 p3 p4 p5 HKT HKH
  have HX9 := HXA
  clear HXA
  have HKT := HKT2
  clear HKT2
  have HKH := HKH2
  clear HKH2
  go_wp2_with fail
  refine reg14_18 HX9.out HCC.out HT.out HH.out HL.out (by intro _ _ _ _ _ h; exact h) (fun _ _ _ _ _ _ _ _ _ _ _ _ _ _ _ _ _ _ _ _ _ _ _ _ _ _ _ v4 hb => ?_)
  have HX8 := Lib.hid (HX9.out.step hb)
  have HKT2 := Lib.hid (HKT.out.below hb HKT.out.lt)
  have HKH2 := Lib.hid (HKH.out.below hb HKH.out.lt)
  have HKL2 := Lib.hid (HKL.out.below hb HKL.out.lt)
  clear hb HX9 HKT HKH HKL
  go_wp2_with fail
  refine reg14_20 HX8.out HT.out HH.out HL.out HAT.out HAH.out HAL.out HKT2.out HKH2.out HKL2.out (by intro _ _ _ _ _ h; exact h) (fun _ _ _ _ _ _ _ _ _ _ _ _ _ _ _ _ _ _ _ _ _ _ _ _ _ _ _ _ _ _ _ _ _ _ _ _ _ _ _ _ _ _ _ _ _ _ _ _ _ _ _ _ _ _ _ _ _ _ _ _ v5 hb => ?_)
  have HX7 := Lib.hid (HX8.out.step hb)
  clear hb HX8 HKT2 HKH2 HKL2
  go_wp2_with fail
  obtain ⟨fC, fT, fH, fL⟩ := HF.out
  refine reg14_22 HX7.out fC fT fH fL (by intro _ _ _ _ _ h; exact h) (fun _ _ _ _ _ _ _ _ _ _ _ _ _ _ _ _ _ _ _ _ _ _ _ _ _ _ _ _ v6 hb => ?_)
  have HB9 := Lib.hid (HX7.out.step hb).b
  clear hb HX7
  go_wp2_with fail
  go_ret
  exact ⟨rfl, HB9.out⟩
set_option maxHeartbeats 8000000 in
theorem lputs14_a (A0 A1 A2 A3 A4 : Option Addr) (n0 n1 n2 n3 n4 c0 c1 c2 c3 c4 : Nat) (sq : Int) (S : Sv14) (k : Nat) (pc : Bool) (pt : Tk14) (ph : Th14) (pl : Lk14) (w : World) (hs : SA14 w S A0 A1 A2 A3 A4 n0 n1 n2 n3 n4 c0 c1 c2 c3 c4 sq) (hn : Small14 n0 n1 n2 n3 n4) (hi : 0 ≤ k ∧ k < 8) :
    Calls Tryz.prog 4 #[.agg #[.slice A0 n0 c0, .slice A1 n1 c1, .slice A2 n2 c2, .slice A3 n3 c3, .slice A4 n4 c4, .int .i64 sq], .int .i64 (k : Int), .agg #[.bool pc, .bool pt.u, .int .i64 pt.c, .int .i64 pt.a, .int .i64 pt.k, .int .i64 pt.t, .bool pt.o, .int .i64 ph.s, .int .i64 ph.f, .int .i64 ph.c, .int .i64 ph.q, .int .i64 ph.u, .bool pl.u, .int .i64 pl.h]] w fun e w' => e = .returned (.bool true) ∧ Below w.heap.size w w' := by
  have HX := Lib.hid (Lp14.new (pc := pc) (pt := pt) (ph := ph) (pl := pl) hs)
  have HC := Lib.hid (fun W => small14 A0 A1 A2 A3 A4 n0 n1 n2 n3 n4 c0 c1 c2 c3 c4 sq true W (by simp [hn]))
  have HEp : Hid (putCoin14 S (k : Int) pc = trim14 { S with C := put14 S.C k pc }) := Lib.hid (by rw [putCoin14, if_pos (by omega)]; rfl)
  have HEq : Hid (putTicket14 S (k : Int) pt = trim14 { S with T := put14 S.T k pt }) := Lib.hid (by rw [putTicket14, if_pos (by omega)]; rfl)
  have HEr : Hid (putThread14 S (k : Int) ph = trim14 { S with H := put14 S.H k ph }) := Lib.hid (by rw [putThread14, if_pos (by omega)]; rfl)
  have HEs : Hid (putLock14 S (k : Int) pl = trim14 { S with L := put14 S.L k pl }) := Lib.hid (by rw [putLock14, if_pos (by omega)]; rfl)
  have j0 : (0 : Int) ≤ (k : Int) := by omega
  have j16 : (k : Int) < 16 := by omega
  have j16d : decide ((k : Int) < 16) = true := decide_eq_true j16
  have j96 : (k : Int) < 96 := by omega
  have j96d : decide ((k : Int) < 96) = true := decide_eq_true j96
  have j32 : (k : Int) < 32 := by omega
  have j32d : decide ((k : Int) < 32) = true := decide_eq_true j32
  have j8 : (k : Int) < 8 := by omega
  have j8d : decide ((k : Int) < 8) = true := decide_eq_true j8
  have HK9 : Hid (k ≤ 900) := Lib.hid (by omega)
  obtain ⟨W0, hW0⟩ : ∃ W, ((w.alloc (.cells #[.slice A0 n0 c0, .slice A1 n1 c1, .slice A2 n2 c2, .slice A3 n3 c3, .slice A4 n4 c4, .int .i64 sq] 28)).alloc (.cells #[.bool pc, .bool pt.u, .int .i64 pt.c, .int .i64 pt.a, .int .i64 pt.k, .int .i64 pt.t, .bool pt.o, .int .i64 ph.s, .int .i64 ph.f, .int .i64 ph.c, .int .i64 ph.q, .int .i64 ph.u, .bool pl.u, .int .i64 pl.h] 49)) = W := ⟨_, rfl⟩
  rw [hW0] at HX
  have p0 := HX.out.x.cell 0
  have p1 := HX.out.x.cell 1
  have p2 := HX.out.x.cell 2
  have p3 := HX.out.x.cell 3
  have p4 := HX.out.x.cell 4
  have p5 := HX.out.x.cell 5
  have q0 := HX.out.y.cell 0
  have q1 := HX.out.y.cell 1
  have q2 := HX.out.y.cell 2
  have q3 := HX.out.y.cell 3
  have q4 := HX.out.y.cell 4
  have q5 := HX.out.y.cell 5
  have q6 := HX.out.y.cell 6
  have q7 := HX.out.y.cell 7
  have q8 := HX.out.y.cell 8
  have q9 := HX.out.y.cell 9
  have q10 := HX.out.y.cell 10
  have q11 := HX.out.y.cell 11
  have q12 := HX.out.y.cell 12
  have q13 := HX.out.y.cell 13
  obtain ⟨bC, bT, bH, bL, xu, xc, xa, xk, xt, xo, ys, yf, yc, yq, yu, zu, zh, hC, hT, hH, hL, aT, aH, aL⟩ := ex14_at S (k : Int)
  have HT := Lib.hid hT
  have HH := Lib.hid hH
  have HL := Lib.hid hL
  have HCC := Lib.hid hC
  have HAT := Lib.hid aT
  have HAH := Lib.hid aH
  have HAL := Lib.hid aL
  obtain ⟨rC, fC⟩ := Free14.ex usC S.C 16
  obtain ⟨rT, fT⟩ := Free14.ex usT S.T 96
  obtain ⟨rH, fH⟩ := Free14.ex usH S.H 32
  obtain ⟨rL, fL⟩ := Free14.ex usL S.L 8
  have HF := Lib.hid (And.intro fC (And.intro fT (And.intro fH fL)))
  clear fC fT fH fL hT hH hL hC aT aH aL
  clear hs hn hi
  go_enter Tryz.func4, Tryz.ntmps4
  go_wp2_with fail
  refine (HC.out _).mono ?_
  rintro e u1 ⟨rfl, hb1⟩
  have HX1 := Lib.hid (HX.out.step hb1)
  clear hb1 HC HX hW0 p0 p1 p2 p3 p4 p5 q0 q1 q2 q3 q4 q5 q6 q7 q8 q9 q10 q11 q12 q13
  go_wp2_with fail
  refine reg14_3 HX1.out (by intro _ _ _ _ _ h; exact h) (fun _ _ _ _ _ _ _ _ _ _ _ _ _ _ _ _ _ _ _ _ g7 g8 g9 g10 u2 hb2 va vb vc vd _ _ _ _ _ _ _ _ _ _ => ?_)
  have HX2 := Lib.hid (HX1.out.step hb2)
  rw [HEp.out] at va
  rw [HEq.out] at vb
  rw [HEr.out] at vc
  rw [HEs.out] at vd
  have HVA := Lib.hid va
  have HVB := Lib.hid vb
  have HVC := Lib.hid vc
  have HVD := Lib.hid vd
  clear va vb vc vd hb2 HX1
  go_wp2_with fail
  refine reg14_4 (i := 0) (pc := pc) (pt := pt) (ph := ph) (pl := pl) HX2.out (by intro _ _ _ _ _ h; exact h) (fun _ _ _ _ p q r s u3 hb3 vp vq vr vs fp fq fr fs d1 d2 d3 d4 d5 d6 => ?_)
  have HA := Lib.hid (⟨hb3, fp, fq, fr, fs, d1, d2, d3, d4, d5, d6, vp, vq, vr, vs⟩ : Al14 u2 p q r s S S S S u3)
  clear hb3 fp fq fr fs d1 d2 d3 d4 d5 d6 vp vq vr vs
  have HX4 := Lib.hid (HX2.out.step HA.out.b)
  have p0 := HX4.out.x.cell 0
  have p1 := HX4.out.x.cell 1
  have p2 := HX4.out.x.cell 2
  have p3 := HX4.out.x.cell 3
  have p4 := HX4.out.x.cell 4
  have p5 := HX4.out.x.cell 5
  have q0 := HX4.out.y.cell 0
  have q1 := HX4.out.y.cell 1
  have q2 := HX4.out.y.cell 2
  have q3 := HX4.out.y.cell 3
  have q4 := HX4.out.y.cell 4
  have q5 := HX4.out.y.cell 5
  have q6 := HX4.out.y.cell 6
  have q7 := HX4.out.y.cell 7
  have q8 := HX4.out.y.cell 8
  have q9 := HX4.out.y.cell 9
  have q10 := HX4.out.y.cell 10
  have q11 := HX4.out.y.cell 11
  have q12 := HX4.out.y.cell 12
  have q13 := HX4.out.y.cell 13
  go_wp2_with fail
  refine (rputCoin14 _ S k pc _ HX4.out.st HK9.out).mono ?_
  rintro e u4 ⟨B0, B1, B2, B3, B4, m0, m1, m2, m3, m4, d0, d1, d2, d3, d4, sx, rfl, hsa, hfa, hb⟩
  have HB := Lib.hid (HA.out.put_p hb hsa hfa)
  have hk := (HA.out.step hb).vp
  obtain ⟨K0, K1, K2, K3, K4, h0, h1, h2, h3, h4, l0, l1, l2, l3, l4, sy, hk, _, _⟩ := hk
  have k0 := hk.cell 0
  have k1 := hk.cell 1
  have k2 := hk.cell 2
  have k3 := hk.cell 3
  have k4 := hk.cell 4
  have k5 := hk.cell 5
  have y0 := hk.frozen 0
  have y1 := hk.frozen 1
  have y2 := hk.frozen 2
  have y3 := hk.frozen 3
  have y4 := hk.frozen 4
  have y5 := hk.frozen 5
  clear HA HX4 hk hsa hfa hb p0 p1 p2 p3 p4 p5 q0 q1 q2 q3 q4 q5 q6 q7 q8 q9 q10 q11 q12 q13
  go_upto_region 7 with (fail)
  have hw6 : ((((((u4.setCell ⟨p, 0, none⟩ (.slice B0 m0 d0)).setCell ⟨p, 1, none⟩ (.slice B1 m1 d1)).setCell ⟨p, 2, none⟩ (.slice B2 m2 d2)).setCell ⟨p, 3, none⟩ (.slice B3 m3 d3)).setCell ⟨p, 4, none⟩ (.slice B4 m4 d4)).setCell ⟨p, 5, none⟩ (.int .i64 sx)) = put6 u4 p B0 B1 B2 B3 B4 m0 m1 m2 m3 m4 d0 d1 d2 d3 d4 sx := rfl
  rw [hw6]
  obtain ⟨U4, hU⟩ : ∃ W, put6 u4 p B0 B1 B2 B3 B4 m0 m1 m2 m3 m4 d0 d1 d2 d3 d4 sx = W := ⟨_, rfl⟩
  rw [hU] at HB ⊢
  have HA := HB
  clear HB hU hw6 k0 y0 k1 y1 k2 y2 k3 y3 k4 y4 k5 y5
  have HX5 := Lib.hid (HX2.out.step HA.out.b)
  have p0 := HX5.out.x.cell 0
  have p1 := HX5.out.x.cell 1
  have p2 := HX5.out.x.cell 2
  have p3 := HX5.out.x.cell 3
  have p4 := HX5.out.x.cell 4
  have p5 := HX5.out.x.cell 5
  have q0 := HX5.out.y.cell 0
  have q1 := HX5.out.y.cell 1
  have q2 := HX5.out.y.cell 2
  have q3 := HX5.out.y.cell 3
  have q4 := HX5.out.y.cell 4
  have q5 := HX5.out.y.cell 5
  have q6 := HX5.out.y.cell 6
  have q7 := HX5.out.y.cell 7
  have q8 := HX5.out.y.cell 8
  have q9 := HX5.out.y.cell 9
  have q10 := HX5.out.y.cell 10
  have q11 := HX5.out.y.cell 11
  have q12 := HX5.out.y.cell 12
  have q13 := HX5.out.y.cell 13
  go_wp2_with fail
  refine (rputTicket14 _ S k pt.u pt.c pt.a pt.k pt.t pt.o _ HX5.out.st HK9.out).mono ?_
  rintro e u5 ⟨B0, B1, B2, B3, B4, m0, m1, m2, m3, m4, d0, d1, d2, d3, d4, sx, rfl, hsa, hfa, hb⟩
  have HB := Lib.hid (HA.out.put_q hb hsa hfa)
  have hk := (HA.out.step hb).vq
  obtain ⟨K0, K1, K2, K3, K4, h0, h1, h2, h3, h4, l0, l1, l2, l3, l4, sy, hk, _, _⟩ := hk
  have k0 := hk.cell 0
  have k1 := hk.cell 1
  have k2 := hk.cell 2
  have k3 := hk.cell 3
  have k4 := hk.cell 4
  have k5 := hk.cell 5
  have y0 := hk.frozen 0
  have y1 := hk.frozen 1
  have y2 := hk.frozen 2
  have y3 := hk.frozen 3
  have y4 := hk.frozen 4
  have y5 := hk.frozen 5
  clear HA HX5 hk hsa hfa hb p0 p1 p2 p3 p4 p5 q0 q1 q2 q3 q4 q5 q6 q7 q8 q9 q10 q11 q12 q13
  go_upto_region 9 with (fail)
  have hw6 : ((((((u5.setCell ⟨q, 0, none⟩ (.slice B0 m0 d0)).setCell ⟨q, 1, none⟩ (.slice B1 m1 d1)).setCell ⟨q, 2, none⟩ (.slice B2 m2 d2)).setCell ⟨q, 3, none⟩ (.slice B3 m3 d3)).setCell ⟨q, 4, none⟩ (.slice B4 m4 d4)).setCell ⟨q, 5, none⟩ (.int .i64 sx)) = put6 u5 q B0 B1 B2 B3 B4 m0 m1 m2 m3 m4 d0 d1 d2 d3 d4 sx := rfl
  rw [hw6]
  obtain ⟨U5, hU⟩ : ∃ W, put6 u5 q B0 B1 B2 B3 B4 m0 m1 m2 m3 m4 d0 d1 d2 d3 d4 sx = W := ⟨_, rfl⟩
  rw [hU] at HB ⊢
  have HA := HB
  clear HB hU hw6 k0 y0 k1 y1 k2 y2 k3 y3 k4 y4 k5 y5
  have HX6 := Lib.hid (HX2.out.step HA.out.b)
  have p0 := HX6.out.x.cell 0
  have p1 := HX6.out.x.cell 1
  have p2 := HX6.out.x.cell 2
  have p3 := HX6.out.x.cell 3
  have p4 := HX6.out.x.cell 4
  have p5 := HX6.out.x.cell 5
  have q0 := HX6.out.y.cell 0
  have q1 := HX6.out.y.cell 1
  have q2 := HX6.out.y.cell 2
  have q3 := HX6.out.y.cell 3
  have q4 := HX6.out.y.cell 4
  have q5 := HX6.out.y.cell 5
  have q6 := HX6.out.y.cell 6
  have q7 := HX6.out.y.cell 7
  have q8 := HX6.out.y.cell 8
  have q9 := HX6.out.y.cell 9
  have q10 := HX6.out.y.cell 10
  have q11 := HX6.out.y.cell 11
  have q12 := HX6.out.y.cell 12
  have q13 := HX6.out.y.cell 13
  go_wp2_with fail
  refine (rputThread14 _ S k ph.s ph.f ph.c ph.q ph.u _ HX6.out.st HK9.out).mono ?_
  rintro e u6 ⟨B0, B1, B2, B3, B4, m0, m1, m2, m3, m4, d0, d1, d2, d3, d4, sx, rfl, hsa, hfa, hb⟩
  have HB := Lib.hid (HA.out.put_r hb hsa hfa)
  have hk := (HA.out.step hb).vr
  obtain ⟨K0, K1, K2, K3, K4, h0, h1, h2, h3, h4, l0, l1, l2, l3, l4, sy, hk, _, _⟩ := hk
  have k0 := hk.cell 0
  have k1 := hk.cell 1
  have k2 := hk.cell 2
  have k3 := hk.cell 3
  have k4 := hk.cell 4
  have k5 := hk.cell 5
  have y0 := hk.frozen 0
  have y1 := hk.frozen 1
  have y2 := hk.frozen 2
  have y3 := hk.frozen 3
  have y4 := hk.frozen 4
  have y5 := hk.frozen 5
  clear HA HX6 hk hsa hfa hb p0 p1 p2 p3 p4 p5 q0 q1 q2 q3 q4 q5 q6 q7 q8 q9 q10 q11 q12 q13
  go_upto_region 11 with (fail)
  have hw6 : ((((((u6.setCell ⟨r, 0, none⟩ (.slice B0 m0 d0)).setCell ⟨r, 1, none⟩ (.slice B1 m1 d1)).setCell ⟨r, 2, none⟩ (.slice B2 m2 d2)).setCell ⟨r, 3, none⟩ (.slice B3 m3 d3)).setCell ⟨r, 4, none⟩ (.slice B4 m4 d4)).setCell ⟨r, 5, none⟩ (.int .i64 sx)) = put6 u6 r B0 B1 B2 B3 B4 m0 m1 m2 m3 m4 d0 d1 d2 d3 d4 sx := rfl
  rw [hw6]
  obtain ⟨U6, hU⟩ : ∃ W, put6 u6 r B0 B1 B2 B3 B4 m0 m1 m2 m3 m4 d0 d1 d2 d3 d4 sx = W := ⟨_, rfl⟩
  rw [hU] at HB ⊢
  have HA := HB
  clear HB hU hw6 k0 y0 k1 y1 k2 y2 k3 y3 k4 y4 k5 y5
  have HX7 := Lib.hid (HX2.out.step HA.out.b)
  have p0 := HX7.out.x.cell 0
  have p1 := HX7.out.x.cell 1
  have p2 := HX7.out.x.cell 2
  have p3 := HX7.out.x.cell 3
  have p4 := HX7.out.x.cell 4
  have p5 := HX7.out.x.cell 5
  have q0 := HX7.out.y.cell 0
  have q1 := HX7.out.y.cell 1
  have q2 := HX7.out.y.cell 2
  have q3 := HX7.out.y.cell 3
  have q4 := HX7.out.y.cell 4
  have q5 := HX7.out.y.cell 5
  have q6 := HX7.out.y.cell 6
  have q7 := HX7.out.y.cell 7
  have q8 := HX7.out.y.cell 8
  have q9 := HX7.out.y.cell 9
  have q10 := HX7.out.y.cell 10
  have q11 := HX7.out.y.cell 11
  have q12 := HX7.out.y.cell 12
  have q13 := HX7.out.y.cell 13
  go_wp2_with fail
  refine (rputLock14 _ S k pl.u pl.h _ HX7.out.st HK9.out).mono ?_
  rintro e u7 ⟨B0, B1, B2, B3, B4, m0, m1, m2, m3, m4, d0, d1, d2, d3, d4, sx, rfl, hsa, hfa, hb⟩
  have HB := Lib.hid (HA.out.put_s hb hsa hfa)
  have hk := (HA.out.step hb).vs
  obtain ⟨K0, K1, K2, K3, K4, h0, h1, h2, h3, h4, l0, l1, l2, l3, l4, sy, hk, _, _⟩ := hk
  have k0 := hk.cell 0
  have k1 := hk.cell 1
  have k2 := hk.cell 2
  have k3 := hk.cell 3
  have k4 := hk.cell 4
  have k5 := hk.cell 5
  have y0 := hk.frozen 0
  have y1 := hk.frozen 1
  have y2 := hk.frozen 2
  have y3 := hk.frozen 3
  have y4 := hk.frozen 4
  have y5 := hk.frozen 5
  clear HA HX7 hk hsa hfa hb p0 p1 p2 p3 p4 p5 q0 q1 q2 q3 q4 q5 q6 q7 q8 q9 q10 q11 q12 q13
  go_upto_region 13 with (fail)
  have hw6 : ((((((u7.setCell ⟨s, 0, none⟩ (.slice B0 m0 d0)).setCell ⟨s, 1, none⟩ (.slice B1 m1 d1)).setCell ⟨s, 2, none⟩ (.slice B2 m2 d2)).setCell ⟨s, 3, none⟩ (.slice B3 m3 d3)).setCell ⟨s, 4, none⟩ (.slice B4 m4 d4)).setCell ⟨s, 5, none⟩ (.int .i64 sx)) = put6 u7 s B0 B1 B2 B3 B4 m0 m1 m2 m3 m4 d0 d1 d2 d3 d4 sx := rfl
  rw [hw6]
  obtain ⟨U7, hU⟩ : ∃ W, put6 u7 s B0 B1 B2 B3 B4 m0 m1 m2 m3 m4 d0 d1 d2 d3 d4 sx = W := ⟨_, rfl⟩
  rw [hU] at HB ⊢
  have HA := HB
  clear HB hU hw6 k0 y0 k1 y1 k2 y2 k3 y3 k4 y4 k5 y5
  have hva := HVA.out.step HA.out.b
  have hvw := HA.out.vp
  obtain ⟨K0, K1, K2, K3, K4, h0, h1, h2, h3, h4, l0, l1, l2, l3, l4, sy, hk, hsa, _⟩ := hva
  obtain ⟨B0, B1, B2, B3, B4, m0, m1, m2, m3, m4, d0, d1, d2, d3, d4, sz, hk2, hsb, _⟩ := hvw
  have k0 := hk.cell 0
  have k1 := hk.cell 1
  have k2 := hk.cell 2
  have k3 := hk.cell 3
  have k4 := hk.cell 4
  have k5 := hk.cell 5
  have y0 := hk2.cell 0
  have y1 := hk2.cell 1
  have y2 := hk2.cell 2
  have y3 := hk2.cell 3
  have y4 := hk2.cell 4
  have y5 := hk2.cell 5
  have HSA := Lib.hid hsa
  have HSB := Lib.hid hsb
  clear hk hk2 hsa hsb
  go_wp2_with fail
  refine (rsame14 _ _ _ _ _ HSA.out.to HSB.out.to true (by simp)).mono ?_
  rintro e v0 ⟨rfl, hb⟩
  have HB := Lib.hid (HA.out.step hb)
  clear HA HSA HSB hb k0 y0 k1 y1 k2 y2 k3 y3 k4 y4 k5 y5
  have HA := HB
  clear HB
  have hva := HVB.out.step HA.out.b
  have hvw := HA.out.vq
  obtain ⟨K0, K1, K2, K3, K4, h0, h1, h2, h3, h4, l0, l1, l2, l3, l4, sy, hk, hsa, _⟩ := hva
  obtain ⟨B0, B1, B2, B3, B4, m0, m1, m2, m3, m4, d0, d1, d2, d3, d4, sz, hk2, hsb, _⟩ := hvw
  have k0 := hk.cell 0
  have k1 := hk.cell 1
  have k2 := hk.cell 2
  have k3 := hk.cell 3
  have k4 := hk.cell 4
  have k5 := hk.cell 5
  have y0 := hk2.cell 0
  have y1 := hk2.cell 1
  have y2 := hk2.cell 2
  have y3 := hk2.cell 3
  have y4 := hk2.cell 4
  have y5 := hk2.cell 5
  have HSA := Lib.hid hsa
  have HSB := Lib.hid hsb
  clear hk hk2 hsa hsb
  go_wp2_with fail
  refine (rsame14 _ _ _ _ _ HSA.out.to HSB.out.to true (by simp)).mono ?_
  rintro e v1 ⟨rfl, hb⟩
  have HB := Lib.hid (HA.out.step hb)
  clear HA HSA HSB hb k0 y0 k1 y1 k2 y2 k3 y3 k4 y4 k5 y5
  have HA := HB
  clear HB
  have hva := HVC.out.step HA.out.b
  have hvw := HA.out.vr
  obtain ⟨K0, K1, K2, K3, K4, h0, h1, h2, h3, h4, l0, l1, l2, l3, l4, sy, hk, hsa, _⟩ := hva
  obtain ⟨B0, B1, B2, B3, B4, m0, m1, m2, m3, m4, d0, d1, d2, d3, d4, sz, hk2, hsb, _⟩ := hvw
  have k0 := hk.cell 0
  have k1 := hk.cell 1
  have k2 := hk.cell 2
  have k3 := hk.cell 3
  have k4 := hk.cell 4
  have k5 := hk.cell 5
  have y0 := hk2.cell 0
  have y1 := hk2.cell 1
  have y2 := hk2.cell 2
  have y3 := hk2.cell 3
  have y4 := hk2.cell 4
  have y5 := hk2.cell 5
  have HSA := Lib.hid hsa
  have HSB := Lib.hid hsb
  clear hk hk2 hsa hsb
  go_wp2_with fail
  refine (rsame14 _ _ _ _ _ HSA.out.to HSB.out.to true (by simp)).mono ?_
  rintro e v2 ⟨rfl, hb⟩
  have HB := Lib.hid (HA.out.step hb)
  clear HA HSA HSB hb k0 y0 k1 y1 k2 y2 k3 y3 k4 y4 k5 y5
  have HA := HB
  clear HB
  have hva := HVD.out.step HA.out.b
  have hvw := HA.out.vs
  obtain ⟨K0, K1, K2, K3, K4, h0, h1, h2, h3, h4, l0, l1, l2, l3, l4, sy, hk, hsa, _⟩ := hva
  obtain ⟨B0, B1, B2, B3, B4, m0, m1, m2, m3, m4, d0, d1, d2, d3, d4, sz, hk2, hsb, _⟩ := hvw
  have k0 := hk.cell 0
  have k1 := hk.cell 1
  have k2 := hk.cell 2
  have k3 := hk.cell 3
  have k4 := hk.cell 4
  have k5 := hk.cell 5
  have y0 := hk2.cell 0
  have y1 := hk2.cell 1
  have y2 := hk2.cell 2
  have y3 := hk2.cell 3
  have y4 := hk2.cell 4
  have y5 := hk2.cell 5
  have HSA := Lib.hid hsa
  have HSB := Lib.hid hsb
  clear hk hk2 hsa hsb
  go_wp2_with fail
  refine (rsame14 _ _ _ _ _ HSA.out.to HSB.out.to true (by simp)).mono ?_
  rintro e v3 ⟨rfl, hb⟩
  have HB := Lib.hid (HA.out.step hb)
  clear HA HSA HSB hb k0 y0 k1 y1 k2 y2 k3 y3 k4 y4 k5 y5
  have HA := HB
  clear HB
  have HX9 := Lib.hid (HX2.out.step HA.out.b)
  clear HA HVA HVB HVC HVD HX2
  have p0 := HX9.out.x.cell 0
  have p1 := HX9.out.x.cell 1
  have p2 := HX9.out.x.cell 2
  have p3 := HX9.out.x.cell 3
  have p4 := HX9.out.x.cell 4
  have p5 := HX9.out.x.cell 5
  go_wp2_with fail
  refine (ticket14 _ S (k : Int) xu xc xa xk xt xo bT _ HX9.out.st HT.out HAT.out).mono ?_
  rintro e z0 ⟨rfl, hb⟩
  have hx := hb.trans ((b1' z0 (.cells #[.bool xu, .int .i64 xc, .int .i64 xa, .int .i64 xk, .int .i64 xt, .bool xo] 43)).mono hb.size)
  have HXA := Lib.hid (HX9.out.step hx)
  have HKT := Lib.hid (Blk.new z0 43 #[.bool xu, .int .i64 xc, .int .i64 xa, .int .i64 xk, .int .i64 xt, .bool xo])
  skip
  obtain ⟨Z0, hZ0⟩ : ∃ X, z0.alloc (.cells #[.bool xu, .int .i64 xc, .int .i64 xa, .int .i64 xk, .int .i64 xt, .bool xo] 43) = X := ⟨_, rfl⟩
  rw [hZ0] at HXA HKT
  clear hb hx HX9 p0 p1 p2 p3 p4 p5
  have HX9 := HXA
  clear HXA
  have p0 := HX9.out.x.cell 0
  have p1 := HX9.out.x.cell 1
  have p2 := HX9.out.x.cell 2
  have p3 := HX9.out.x.cell 3
  have p4 := HX9.out.x.cell 4
  have p5 := HX9.out.x.cell 5
  go_wp2_with fail
  refine (thread14 _ S (k : Int) ys yf yc yq yu bH _ HX9.out.st HH.out HAH.out).mono ?_
  rintro e z1 ⟨rfl, hb⟩
  have hx := hb.trans ((b1' z1 (.cells #[.int .i64 ys, .int .i64 yf, .int .i64 yc, .int .i64 yq, .int .i64 yu] 45)).mono hb.size)
  have HXA := Lib.hid (HX9.out.step hx)
  have HKT2 := Lib.hid (HKT.out.below hx HKT.out.lt)
  have HKH := Lib.hid (Blk.new z1 45 #[.int .i64 ys, .int .i64 yf, .int .i64 yc, .int .i64 yq, .int .i64 yu])
  skip
  obtain ⟨Z1, hZ1⟩ : ∃ X, z1.alloc (.cells #[.int .i64 ys, .int .i64 yf, .int .i64 yc, .int .i64 yq, .int .i64 yu] 45) = X := ⟨_, rfl⟩
  rw [hZ1] at HXA HKH HKT2
  clear hb hx HX9 p0 p1 p2 p3 p4 p5 HKT
  have HX9 := HXA
  clear HXA
  have HKT := HKT2
  clear HKT2
  have p0 := HX9.out.x.cell 0
  have p1 := HX9.out.x.cell 1
  have p2 := HX9.out.x.cell 2
  have p3 := HX9.out.x.cell 3
  have p4 := HX9.out.x.cell 4
  have p5 := HX9.out.x.cell 5
  go_wp2_with fail
  refine (lock14 _ S (k : Int) zu zh bL _ HX9.out.st HL.out HAL.out).mono ?_
  rintro e z2 ⟨rfl, hb⟩
  have hx := hb.trans ((b1' z2 (.cells #[.bool zu, .int .i64 zh] 47)).mono hb.size)
  have HXA := Lib.hid (HX9.out.step hx)
  have HKT2 := Lib.hid (HKT.out.below hx HKT.out.lt)
  have HKH2 := Lib.hid (HKH.out.below hx HKH.out.lt)
  have HKL := Lib.hid (Blk.new z2 47 #[.bool zu, .int .i64 zh])
  skip
  obtain ⟨Z2, hZ2⟩ : ∃ X, z2.alloc (.cells #[.bool zu, .int .i64 zh] 47) = X := ⟨_, rfl⟩
  rw [hZ2] at HXA HKL HKT2 HKH2
  clear hb hx HX9 p0 p1 p2 p3 p4 p5 HKT HKH
  have HX9 := HXA
  clear HXA
  have HKT := HKT2
  clear HKT2
  have HKH := HKH2
  clear HKH2
  go_wp2_with fail
  refine reg14_18 HX9.out HCC.out HT.out HH.out HL.out (by intro _ _ _ _ _ h; exact h) (fun _ _ _ _ _ _ _ _ _ _ _ _ _ _ _ _ _ _ _ _ _ _ _ _ _ _ _ v4 hb => ?_)
  have HX8 := Lib.hid (HX9.out.step hb)
  have HKT2 := Lib.hid (HKT.out.below hb HKT.out.lt)
  have HKH2 := Lib.hid (HKH.out.below hb HKH.out.lt)
  have HKL2 := Lib.hid (HKL.out.below hb HKL.out.lt)
  clear hb HX9 HKT HKH HKL
  go_wp2_with fail
  refine reg14_20 HX8.out HT.out HH.out HL.out HAT.out HAH.out HAL.out HKT2.out HKH2.out HKL2.out (by intro _ _ _ _ _ h; exact h) (fun _ _ _ _ _ _ _ _ _ _ _ _ _ _ _ _ _ _ _ _ _ _ _ _ _ _ _ _ _ _ _ _ _ _ _ _ _ _ _ _ _ _ _ _ _ _ _ _ _ _ _ _ _ _ _ _ _ _ _ _ v5 hb => ?_)
  have HX7 := Lib.hid (HX8.out.step hb)
  clear hb HX8 HKT2 HKH2 HKL2
  go_wp2_with fail
  obtain ⟨fC, fT, fH, fL⟩ := HF.out
  refine reg14_22 HX7.out fC fT fH fL (by intro _ _ _ _ _ h; exact h) (fun _ _ _ _ _ _ _ _ _ _ _ _ _ _ _ _ _ _ _ _ _ _ _ _ _ _ _ _ v6 hb => ?_)
  have HB9 := Lib.hid (HX7.out.step hb).b
  clear hb HX7
  go_wp2_with fail
  go_ret
  exact ⟨rfl, HB9.out⟩
set_option maxHeartbeats 8000000 in
theorem lputs14_b (A0 A1 A2 A3 A4 : Option Addr) (n0 n1 n2 n3 n4 c0 c1 c2 c3 c4 : Nat) (sq : Int) (S : Sv14) (k : Nat) (pc : Bool) (pt : Tk14) (ph : Th14) (pl : Lk14) (w : World) (hs : SA14 w S A0 A1 A2 A3 A4 n0 n1 n2 n3 n4 c0 c1 c2 c3 c4 sq) (hn : Small14 n0 n1 n2 n3 n4) (hi : 8 ≤ k ∧ k < 16) :
    Calls Tryz.prog 4 #[.agg #[.slice A0 n0 c0, .slice A1 n1 c1, .slice A2 n2 c2, .slice A3 n3 c3, .slice A4 n4 c4, .int .i64 sq], .int .i64 (k : Int), .agg #[.bool pc, .bool pt.u, .int .i64 pt.c, .int .i64 pt.a, .int .i64 pt.k, .int .i64 pt.t, .bool pt.o, .int .i64 ph.s, .int .i64 ph.f, .int .i64 ph.c, .int .i64 ph.q, .int .i64 ph.u, .bool pl.u, .int .i64 pl.h]] w fun e w' => e = .returned (.bool true) ∧ Below w.heap.size w w' := by
  have HX := Lib.hid (Lp14.new (pc := pc) (pt := pt) (ph := ph) (pl := pl) hs)
  have HC := Lib.hid (fun W => small14 A0 A1 A2 A3 A4 n0 n1 n2 n3 n4 c0 c1 c2 c3 c4 sq true W (by simp [hn]))
  have HEp : Hid (putCoin14 S (k : Int) pc = trim14 { S with C := put14 S.C k pc }) := Lib.hid (by rw [putCoin14, if_pos (by omega)]; rfl)
  have HEq : Hid (putTicket14 S (k : Int) pt = trim14 { S with T := put14 S.T k pt }) := Lib.hid (by rw [putTicket14, if_pos (by omega)]; rfl)
  have HEr : Hid (putThread14 S (k : Int) ph = trim14 { S with H := put14 S.H k ph }) := Lib.hid (by rw [putThread14, if_pos (by omega)]; rfl)
  have HEs : Hid (putLock14 S (k : Int) pl = S) := Lib.hid (by rw [putLock14, if_neg (by omega)])
  have j0 : (0 : Int) ≤ (k : Int) := by omega
  have j16 : (k : Int) < 16 := by omega
  have j16d : decide ((k : Int) < 16) = true := decide_eq_true j16
  have j96 : (k : Int) < 96 := by omega
  have j96d : decide ((k : Int) < 96) = true := decide_eq_true j96
  have j32 : (k : Int) < 32 := by omega
  have j32d : decide ((k : Int) < 32) = true := decide_eq_true j32
  have j8 : ¬ (k : Int) < 8 := by omega
  have j8d : decide ((k : Int) < 8) = false := decide_eq_false j8
  have HK9 : Hid (k ≤ 900) := Lib.hid (by omega)
  obtain ⟨W0, hW0⟩ : ∃ W, ((w.alloc (.cells #[.slice A0 n0 c0, .slice A1 n1 c1, .slice A2 n2 c2, .slice A3 n3 c3, .slice A4 n4 c4, .int .i64 sq] 28)).alloc (.cells #[.bool pc, .bool pt.u, .int .i64 pt.c, .int .i64 pt.a, .int .i64 pt.k, .int .i64 pt.t, .bool pt.o, .int .i64 ph.s, .int .i64 ph.f, .int .i64 ph.c, .int .i64 ph.q, .int .i64 ph.u, .bool pl.u, .int .i64 pl.h] 49)) = W := ⟨_, rfl⟩
  rw [hW0] at HX
  have p0 := HX.out.x.cell 0
  have p1 := HX.out.x.cell 1
  have p2 := HX.out.x.cell 2
  have p3 := HX.out.x.cell 3
  have p4 := HX.out.x.cell 4
  have p5 := HX.out.x.cell 5
  have q0 := HX.out.y.cell 0
  have q1 := HX.out.y.cell 1
  have q2 := HX.out.y.cell 2
  have q3 := HX.out.y.cell 3
  have q4 := HX.out.y.cell 4
  have q5 := HX.out.y.cell 5
  have q6 := HX.out.y.cell 6
  have q7 := HX.out.y.cell 7
  have q8 := HX.out.y.cell 8
  have q9 := HX.out.y.cell 9
  have q10 := HX.out.y.cell 10
  have q11 := HX.out.y.cell 11
  have q12 := HX.out.y.cell 12
  have q13 := HX.out.y.cell 13
  obtain ⟨bC, bT, bH, bL, xu, xc, xa, xk, xt, xo, ys, yf, yc, yq, yu, zu, zh, hC, hT, hH, hL, aT, aH, aL⟩ := ex14_at S (k : Int)
  have HT := Lib.hid hT
  have HH := Lib.hid hH
  have HL := Lib.hid hL
  have HCC := Lib.hid hC
  have HAT := Lib.hid aT
  have HAH := Lib.hid aH
  have HAL := Lib.hid aL
  obtain ⟨rC, fC⟩ := Free14.ex usC S.C 16
  obtain ⟨rT, fT⟩ := Free14.ex usT S.T 96
  obtain ⟨rH, fH⟩ := Free14.ex usH S.H 32
  obtain ⟨rL, fL⟩ := Free14.ex usL S.L 8
  have HF := Lib.hid (And.intro fC (And.intro fT (And.intro fH fL)))
  clear fC fT fH fL hT hH hL hC aT aH aL
  clear hs hn hi
  go_enter Tryz.func4, Tryz.ntmps4
  go_wp2_with fail
  refine (HC.out _).mono ?_
  rintro e u1 ⟨rfl, hb1⟩
  have HX1 := Lib.hid (HX.out.step hb1)
  clear hb1 HC HX hW0 p0 p1 p2 p3 p4 p5 q0 q1 q2 q3 q4 q5 q6 q7 q8 q9 q10 q11 q12 q13
  go_wp2_with fail
  refine reg14_3 HX1.out (by intro _ _ _ _ _ h; exact h) (fun _ _ _ _ _ _ _ _ _ _ _ _ _ _ _ _ _ _ _ _ g7 g8 g9 g10 u2 hb2 va vb vc vd _ _ _ _ _ _ _ _ _ _ => ?_)
  have HX2 := Lib.hid (HX1.out.step hb2)
  rw [HEp.out] at va
  rw [HEq.out] at vb
  rw [HEr.out] at vc
  rw [HEs.out] at vd
  have HVA := Lib.hid va
  have HVB := Lib.hid vb
  have HVC := Lib.hid vc
  have HVD := Lib.hid vd
  clear va vb vc vd hb2 HX1
  go_wp2_with fail
  refine reg14_4 (i := 0) (pc := pc) (pt := pt) (ph := ph) (pl := pl) HX2.out (by intro _ _ _ _ _ h; exact h) (fun _ _ _ _ p q r s u3 hb3 vp vq vr vs fp fq fr fs d1 d2 d3 d4 d5 d6 => ?_)
  have HA := Lib.hid (⟨hb3, fp, fq, fr, fs, d1, d2, d3, d4, d5, d6, vp, vq, vr, vs⟩ : Al14 u2 p q r s S S S S u3)
  clear hb3 fp fq fr fs d1 d2 d3 d4 d5 d6 vp vq vr vs
  have HX4 := Lib.hid (HX2.out.step HA.out.b)
  have p0 := HX4.out.x.cell 0
  have p1 := HX4.out.x.cell 1
  have p2 := HX4.out.x.cell 2
  have p3 := HX4.out.x.cell 3
  have p4 := HX4.out.x.cell 4
  have p5 := HX4.out.x.cell 5
  have q0 := HX4.out.y.cell 0
  have q1 := HX4.out.y.cell 1
  have q2 := HX4.out.y.cell 2
  have q3 := HX4.out.y.cell 3
  have q4 := HX4.out.y.cell 4
  have q5 := HX4.out.y.cell 5
  have q6 := HX4.out.y.cell 6
  have q7 := HX4.out.y.cell 7
  have q8 := HX4.out.y.cell 8
  have q9 := HX4.out.y.cell 9
  have q10 := HX4.out.y.cell 10
  have q11 := HX4.out.y.cell 11
  have q12 := HX4.out.y.cell 12
  have q13 := HX4.out.y.cell 13
  go_wp2_with fail
  refine (rputCoin14 _ S k pc _ HX4.out.st HK9.out).mono ?_
  rintro e u4 ⟨B0, B1, B2, B3, B4, m0, m1, m2, m3, m4, d0, d1, d2, d3, d4, sx, rfl, hsa, hfa, hb⟩
  have HB := Lib.hid (HA.out.put_p hb hsa hfa)
  have hk := (HA.out.step hb).vp
  obtain ⟨K0, K1, K2, K3, K4, h0, h1, h2, h3, h4, l0, l1, l2, l3, l4, sy, hk, _, _⟩ := hk
  have k0 := hk.cell 0
  have k1 := hk.cell 1
  have k2 := hk.cell 2
  have k3 := hk.cell 3
  have k4 := hk.cell 4
  have k5 := hk.cell 5
  have y0 := hk.frozen 0
  have y1 := hk.frozen 1
  have y2 := hk.frozen 2
  have y3 := hk.frozen 3
  have y4 := hk.frozen 4
  have y5 := hk.frozen 5
  clear HA HX4 hk hsa hfa hb p0 p1 p2 p3 p4 p5 q0 q1 q2 q3 q4 q5 q6 q7 q8 q9 q10 q11 q12 q13
  go_upto_region 7 with (fail)
  have hw6 : ((((((u4.setCell ⟨p, 0, none⟩ (.slice B0 m0 d0)).setCell ⟨p, 1, none⟩ (.slice B1 m1 d1)).setCell ⟨p, 2, none⟩ (.slice B2 m2 d2)).setCell ⟨p, 3, none⟩ (.slice B3 m3 d3)).setCell ⟨p, 4, none⟩ (.slice B4 m4 d4)).setCell ⟨p, 5, none⟩ (.int .i64 sx)) = put6 u4 p B0 B1 B2 B3 B4 m0 m1 m2 m3 m4 d0 d1 d2 d3 d4 sx := rfl
  rw [hw6]
  obtain ⟨U4, hU⟩ : ∃ W, put6 u4 p B0 B1 B2 B3 B4 m0 m1 m2 m3 m4 d0 d1 d2 d3 d4 sx = W := ⟨_, rfl⟩
  rw [hU] at HB ⊢
  have HA := HB
  clear HB hU hw6 k0 y0 k1 y1 k2 y2 k3 y3 k4 y4 k5 y5
  have HX5 := Lib.hid (HX2.out.step HA.out.b)
  have p0 := HX5.out.x.cell 0
  have p1 := HX5.out.x.cell 1
  have p2 := HX5.out.x.cell 2
  have p3 := HX5.out.x.cell 3
  have p4 := HX5.out.x.cell 4
  have p5 := HX5.out.x.cell 5
  have q0 := HX5.out.y.cell 0
  have q1 := HX5.out.y.cell 1
  have q2 := HX5.out.y.cell 2
  have q3 := HX5.out.y.cell 3
  have q4 := HX5.out.y.cell 4
  have q5 := HX5.out.y.cell 5
  have q6 := HX5.out.y.cell 6
  have q7 := HX5.out.y.cell 7
  have q8 := HX5.out.y.cell 8
  have q9 := HX5.out.y.cell 9
  have q10 := HX5.out.y.cell 10
  have q11 := HX5.out.y.cell 11
  have q12 := HX5.out.y.cell 12
  have q13 := HX5.out.y.cell 13
  go_wp2_with fail
  refine (rputTicket14 _ S k pt.u pt.c pt.a pt.k pt.t pt.o _ HX5.out.st HK9.out).mono ?_
  rintro e u5 ⟨B0, B1, B2, B3, B4, m0, m1, m2, m3, m4, d0, d1, d2, d3, d4, sx, rfl, hsa, hfa, hb⟩
  have HB := Lib.hid (HA.out.put_q hb hsa hfa)
  have hk := (HA.out.step hb).vq
  obtain ⟨K0, K1, K2, K3, K4, h0, h1, h2, h3, h4, l0, l1, l2, l3, l4, sy, hk, _, _⟩ := hk
  have k0 := hk.cell 0
  have k1 := hk.cell 1
  have k2 := hk.cell 2
  have k3 := hk.cell 3
  have k4 := hk.cell 4
  have k5 := hk.cell 5
  have y0 := hk.frozen 0
  have y1 := hk.frozen 1
  have y2 := hk.frozen 2
  have y3 := hk.frozen 3
  have y4 := hk.frozen 4
  have y5 := hk.frozen 5
  clear HA HX5 hk hsa hfa hb p0 p1 p2 p3 p4 p5 q0 q1 q2 q3 q4 q5 q6 q7 q8 q9 q10 q11 q12 q13
  go_upto_region 9 with (fail)
  have hw6 : ((((((u5.setCell ⟨q, 0, none⟩ (.slice B0 m0 d0)).setCell ⟨q, 1, none⟩ (.slice B1 m1 d1)).setCell ⟨q, 2, none⟩ (.slice B2 m2 d2)).setCell ⟨q, 3, none⟩ (.slice B3 m3 d3)).setCell ⟨q, 4, none⟩ (.slice B4 m4 d4)).setCell ⟨q, 5, none⟩ (.int .i64 sx)) = put6 u5 q B0 B1 B2 B3 B4 m0 m1 m2 m3 m4 d0 d1 d2 d3 d4 sx := rfl
  rw [hw6]
  obtain ⟨U5, hU⟩ : ∃ W, put6 u5 q B0 B1 B2 B3 B4 m0 m1 m2 m3 m4 d0 d1 d2 d3 d4 sx = W := ⟨_, rfl⟩
  rw [hU] at HB ⊢
  have HA := HB
  clear HB hU hw6 k0 y0 k1 y1 k2 y2 k3 y3 k4 y4 k5 y5
  have HX6 := Lib.hid (HX2.out.step HA.out.b)
  have p0 := HX6.out.x.cell 0
  have p1 := HX6.out.x.cell 1
  have p2 := HX6.out.x.cell 2
  have p3 := HX6.out.x.cell 3
  have p4 := HX6.out.x.cell 4
  have p5 := HX6.out.x.cell 5
  have q0 := HX6.out.y.cell 0
  have q1 := HX6.out.y.cell 1
  have q2 := HX6.out.y.cell 2
  have q3 := HX6.out.y.cell 3
  have q4 := HX6.out.y.cell 4
  have q5 := HX6.out.y.cell 5
  have q6 := HX6.out.y.cell 6
  have q7 := HX6.out.y.cell 7
  have q8 := HX6.out.y.cell 8
  have q9 := HX6.out.y.cell 9
  have q10 := HX6.out.y.cell 10
  have q11 := HX6.out.y.cell 11
  have q12 := HX6.out.y.cell 12
  have q13 := HX6.out.y.cell 13
  go_wp2_with fail
  refine (rputThread14 _ S k ph.s ph.f ph.c ph.q ph.u _ HX6.out.st HK9.out).mono ?_
  rintro e u6 ⟨B0, B1, B2, B3, B4, m0, m1, m2, m3, m4, d0, d1, d2, d3, d4, sx, rfl, hsa, hfa, hb⟩
  have HB := Lib.hid (HA.out.put_r hb hsa hfa)
  have hk := (HA.out.step hb).vr
  obtain ⟨K0, K1, K2, K3, K4, h0, h1, h2, h3, h4, l0, l1, l2, l3, l4, sy, hk, _, _⟩ := hk
  have k0 := hk.cell 0
  have k1 := hk.cell 1
  have k2 := hk.cell 2
  have k3 := hk.cell 3
  have k4 := hk.cell 4
  have k5 := hk.cell 5
  have y0 := hk.frozen 0
  have y1 := hk.frozen 1
  have y2 := hk.frozen 2
  have y3 := hk.frozen 3
  have y4 := hk.frozen 4
  have y5 := hk.frozen 5
  clear HA HX6 hk hsa hfa hb p0 p1 p2 p3 p4 p5 q0 q1 q2 q3 q4 q5 q6 q7 q8 q9 q10 q11 q12 q13
  go_upto_region 11 with (fail)
  have hw6 : ((((((u6.setCell ⟨r, 0, none⟩ (.slice B0 m0 d0)).setCell ⟨r, 1, none⟩ (.slice B1 m1 d1)).setCell ⟨r, 2, none⟩ (.slice B2 m2 d2)).setCell ⟨r, 3, none⟩ (.slice B3 m3 d3)).setCell ⟨r, 4, none⟩ (.slice B4 m4 d4)).setCell ⟨r, 5, none⟩ (.int .i64 sx)) = put6 u6 r B0 B1 B2 B3 B4 m0 m1 m2 m3 m4 d0 d1 d2 d3 d4 sx := rfl
  rw [hw6]
  obtain ⟨U6, hU⟩ : ∃ W, put6 u6 r B0 B1 B2 B3 B4 m0 m1 m2 m3 m4 d0 d1 d2 d3 d4 sx = W := ⟨_, rfl⟩
  rw [hU] at HB ⊢
  have HA := HB
  clear HB hU hw6 k0 y0 k1 y1 k2 y2 k3 y3 k4 y4 k5 y5
  have hva := HVA.out.step HA.out.b
  have hvw := HA.out.vp
  obtain ⟨K0, K1, K2, K3, K4, h0, h1, h2, h3, h4, l0, l1, l2, l3, l4, sy, hk, hsa, _⟩ := hva
  obtain ⟨B0, B1, B2, B3, B4, m0, m1, m2, m3, m4, d0, d1, d2, d3, d4, sz, hk2, hsb, _⟩ := hvw
  have k0 := hk.cell 0
  have k1 := hk.cell 1
  have k2 := hk.cell 2
  have k3 := hk.cell 3
  have k4 := hk.cell 4
  have k5 := hk.cell 5
  have y0 := hk2.cell 0
  have y1 := hk2.cell 1
  have y2 := hk2.cell 2
  have y3 := hk2.cell 3
  have y4 := hk2.cell 4
  have y5 := hk2.cell 5
  have HSA := Lib.hid hsa
  have HSB := Lib.hid hsb
  clear hk hk2 hsa hsb
  go_wp2_with fail
  refine (rsame14 _ _ _ _ _ HSA.out.to HSB.out.to true (by simp)).mono ?_
  rintro e v0 ⟨rfl, hb⟩
  have HB := Lib.hid (HA.out.step hb)
  clear HA HSA HSB hb k0 y0 k1 y1 k2 y2 k3 y3 k4 y4 k5 y5
  have HA := HB
  clear HB
  have hva := HVB.out.step HA.out.b
  have hvw := HA.out.vq
  obtain ⟨K0, K1, K2, K3, K4, h0, h1, h2, h3, h4, l0, l1, l2, l3, l4, sy, hk, hsa, _⟩ := hva
  obtain ⟨B0, B1, B2, B3, B4, m0, m1, m2, m3, m4, d0, d1, d2, d3, d4, sz, hk2, hsb, _⟩ := hvw
  have k0 := hk.cell 0
  have k1 := hk.cell 1
  have k2 := hk.cell 2
  have k3 := hk.cell 3
  have k4 := hk.cell 4
  have k5 := hk.cell 5
  have y0 := hk2.cell 0
  have y1 := hk2.cell 1
  have y2 := hk2.cell 2
  have y3 := hk2.cell 3
  have y4 := hk2.cell 4
  have y5 := hk2.cell 5
  have HSA := Lib.hid hsa
  have HSB := Lib.hid hsb
  clear hk hk2 hsa hsb
  go_wp2_with fail
  refine (rsame14 _ _ _ _ _ HSA.out.to HSB.out.to true (by simp)).mono ?_
  rintro e v1 ⟨rfl, hb⟩
  have HB := Lib.hid (HA.out.step hb)
  clear HA HSA HSB hb k0 y0 k1 y1 k2 y2 k3 y3 k4 y4 k5 y5
  have HA := HB
  clear HB
  have hva := HVC.out.step HA.out.b
  have hvw := HA.out.vr
  obtain ⟨K0, K1, K2, K3, K4, h0, h1, h2, h3, h4, l0, l1, l2, l3, l4, sy, hk, hsa, _⟩ := hva
  obtain ⟨B0, B1, B2, B3, B4, m0, m1, m2, m3, m4, d0, d1, d2, d3, d4, sz, hk2, hsb, _⟩ := hvw
  have k0 := hk.cell 0
  have k1 := hk.cell 1
  have k2 := hk.cell 2
  have k3 := hk.cell 3
  have k4 := hk.cell 4
  have k5 := hk.cell 5
  have y0 := hk2.cell 0
  have y1 := hk2.cell 1
  have y2 := hk2.cell 2
  have y3 := hk2.cell 3
  have y4 := hk2.cell 4
  have y5 := hk2.cell 5
  have HSA := Lib.hid hsa
  have HSB := Lib.hid hsb
  clear hk hk2 hsa hsb
  go_wp2_with fail
  refine (rsame14 _ _ _ _ _ HSA.out.to HSB.out.to true (by simp)).mono ?_
  rintro e v2 ⟨rfl, hb⟩
  have HB := Lib.hid (HA.out.step hb)
  clear HA HSA HSB hb k0 y0 k1 y1 k2 y2 k3 y3 k4 y4 k5 y5
  have HA := HB
  clear HB
  have hva := HVD.out.step HA.out.b
  have hvw := HA.out.vs
  obtain ⟨K0, K1, K2, K3, K4, h0, h1, h2, h3, h4, l0, l1, l2, l3, l4, sy, hk, hsa, _⟩ := hva
  obtain ⟨B0, B1, B2, B3, B4, m0, m1, m2, m3, m4, d0, d1, d2, d3, d4, sz, hk2, hsb, _⟩ := hvw
  have k0 := hk.cell 0
  have k1 := hk.cell 1
  have k2 := hk.cell 2
  have k3 := hk.cell 3
  have k4 := hk.cell 4
  have k5 := hk.cell 5
  have y0 := hk2.cell 0
  have y1 := hk2.cell 1
  have y2 := hk2.cell 2
  have y3 := hk2.cell 3
  have y4 := hk2.cell 4
  have y5 := hk2.cell 5
  have HSA := Lib.hid hsa
  have HSB := Lib.hid hsb
  clear hk hk2 hsa hsb
  go_wp2_with fail
  refine (rsame14 _ _ _ _ _ HSA.out.to HSB.out.to true (by simp)).mono ?_
  rintro e v3 ⟨rfl, hb⟩
  have HB := Lib.hid (HA.out.step hb)
  clear HA HSA HSB hb k0 y0 k1 y1 k2 y2 k3 y3 k4 y4 k5 y5
  have HA := HB
  clear HB
  have HX9 := Lib.hid (HX2.out.step HA.out.b)
  clear HA HVA HVB HVC HVD HX2
  have p0 := HX9.out.x.cell 0
  have p1 := HX9.out.x.cell 1
  have p2 := HX9.out.x.cell 2
  have p3 := HX9.out.x.cell 3
  have p4 := HX9.out.x.cell 4
  have p5 := HX9.out.x.cell 5
  go_wp2_with fail
  refine (ticket14 _ S (k : Int) xu xc xa xk xt xo bT _ HX9.out.st HT.out HAT.out).mono ?_
  rintro e z0 ⟨rfl, hb⟩
  have hx := hb.trans ((b1' z0 (.cells #[.bool xu, .int .i64 xc, .int .i64 xa, .int .i64 xk, .int .i64 xt, .bool xo] 43)).mono hb.size)
  have HXA := Lib.hid (HX9.out.step hx)
  have HKT := Lib.hid (Blk.new z0 43 #[.bool xu, .int .i64 xc, .int .i64 xa, .int .i64 xk, .int .i64 xt, .bool xo])
  skip
  obtain ⟨Z0, hZ0⟩ : ∃ X, z0.alloc (.cells #[.bool xu, .int .i64 xc, .int .i64 xa, .int .i64 xk, .int .i64 xt, .bool xo] 43) = X := ⟨_, rfl⟩
  rw [hZ0] at HXA HKT
  clear hb hx HX9 p0 p1 p2 p3 p4 p5
  have HX9 := HXA
  clear HXA
  have p0 := HX9.out.x.cell 0
  have p1 := HX9.out.x.cell 1
  have p2 := HX9.out.x.cell 2
  have p3 := HX9.out.x.cell 3
  have p4 := HX9.out.x.cell 4
  have p5 := HX9.out.x.cell 5
  go_wp2_with fail
  refine (thread14 _ S (k : Int) ys yf yc yq yu bH _ HX9.out.st HH.out HAH.out).mono ?_
  rintro e z1 ⟨rfl, hb⟩
  have hx := hb.trans ((b1' z1 (.cells #[.int .i64 ys, .int .i64 yf, .int .i64 yc, .int .i64 yq, .int .i64 yu] 45)).mono hb.size)
  have HXA := Lib.hid (HX9.out.step hx)
  have HKT2 := Lib.hid (HKT.out.below hx HKT.out.lt)
  have HKH := Lib.hid (Blk.new z1 45 #[.int .i64 ys, .int .i64 yf, .int .i64 yc, .int .i64 yq, .int .i64 yu])
  skip
  obtain ⟨Z1, hZ1⟩ : ∃ X, z1.alloc (.cells #[.int .i64 ys, .int .i64 yf, .int .i64 yc, .int .i64 yq, .int .i64 yu] 45) = X := ⟨_, rfl⟩
  rw [hZ1] at HXA HKH HKT2
  clear hb hx HX9 p0 p1 p2 p3 p4 p5 HKT
  have HX9 := HXA
  clear HXA
  have HKT := HKT2
  clear HKT2
  have p0 := HX9.out.x.cell 0
  have p1 := HX9.out.x.cell 1
  have p2 := HX9.out.x.cell 2
  have p3 := HX9.out.x.cell 3
  have p4 := HX9.out.x.cell 4
  have p5 := HX9.out.x.cell 5
  go_wp2_with fail
  refine (lock14 _ S (k : Int) zu zh bL _ HX9.out.st HL.out HAL.out).mono ?_
  rintro e z2 ⟨rfl, hb⟩
  have hx := hb.trans ((b1' z2 (.cells #[.bool zu, .int .i64 zh] 47)).mono hb.size)
  have HXA := Lib.hid (HX9.out.step hx)
  have HKT2 := Lib.hid (HKT.out.below hx HKT.out.lt)
  have HKH2 := Lib.hid (HKH.out.below hx HKH.out.lt)
  have HKL := Lib.hid (Blk.new z2 47 #[.bool zu, .int .i64 zh])
  skip
  obtain ⟨Z2, hZ2⟩ : ∃ X, z2.alloc (.cells #[.bool zu, .int .i64 zh] 47) = X := ⟨_, rfl⟩
  rw [hZ2] at HXA HKL HKT2 HKH2
  clear hb hx HX9 p0 p1 p2 p3 p4 p5 HKT HKH
  have HX9 := HXA
  clear HXA
  have HKT := HKT2
  clear HKT2
  have HKH := HKH2
  clear HKH2
  go_wp2_with fail
  refine reg14_18 HX9.out HCC.out HT.out HH.out HL.out (by intro _ _ _ _ _ h; exact h) (fun _ _ _ _ _ _ _ _ _ _ _ _ _ _ _ _ _ _ _ _ _ _ _ _ _ _ _ v4 hb => ?_)
  have HX8 := Lib.hid (HX9.out.step hb)
  have HKT2 := Lib.hid (HKT.out.below hb HKT.out.lt)
  have HKH2 := Lib.hid (HKH.out.below hb HKH.out.lt)
  have HKL2 := Lib.hid (HKL.out.below hb HKL.out.lt)
  clear hb HX9 HKT HKH HKL
  go_wp2_with fail
  refine reg14_20 HX8.out HT.out HH.out HL.out HAT.out HAH.out HAL.out HKT2.out HKH2.out HKL2.out (by intro _ _ _ _ _ h; exact h) (fun _ _ _ _ _ _ _ _ _ _ _ _ _ _ _ _ _ _ _ _ _ _ _ _ _ _ _ _ _ _ _ _ _ _ _ _ _ _ _ _ _ _ _ _ _ _ _ _ _ _ _ _ _ _ _ _ _ _ _ _ v5 hb => ?_)
  have HX7 := Lib.hid (HX8.out.step hb)
  clear hb HX8 HKT2 HKH2 HKL2
  go_wp2_with fail
  obtain ⟨fC, fT, fH, fL⟩ := HF.out
  refine reg14_22 HX7.out fC fT fH fL (by intro _ _ _ _ _ h; exact h) (fun _ _ _ _ _ _ _ _ _ _ _ _ _ _ _ _ _ _ _ _ _ _ _ _ _ _ _ _ v6 hb => ?_)
  have HB9 := Lib.hid (HX7.out.step hb).b
  clear hb HX7
  go_wp2_with fail
  go_ret
  exact ⟨rfl, HB9.out⟩
set_option maxHeartbeats 8000000 in
theorem lputs14_c (A0 A1 A2 A3 A4 : Option Addr) (n0 n1 n2 n3 n4 c0 c1 c2 c3 c4 : Nat) (sq : Int) (S : Sv14) (k : Nat) (pc : Bool) (pt : Tk14) (ph : Th14) (pl : Lk14) (w : World) (hs : SA14 w S A0 A1 A2 A3 A4 n0 n1 n2 n3 n4 c0 c1 c2 c3 c4 sq) (hn : Small14 n0 n1 n2 n3 n4) (hi : 16 ≤ k ∧ k < 32) :
    Calls Tryz.prog 4 #[.agg #[.slice A0 n0 c0, .slice A1 n1 c1, .slice A2 n2 c2, .slice A3 n3 c3, .slice A4 n4 c4, .int .i64 sq], .int .i64 (k : Int), .agg #[.bool pc, .bool pt.u, .int .i64 pt.c, .int .i64 pt.a, .int .i64 pt.k, .int .i64 pt.t, .bool pt.o, .int .i64 ph.s, .int .i64 ph.f, .int .i64 ph.c, .int .i64 ph.q, .int .i64 ph.u, .bool pl.u, .int .i64 pl.h]] w fun e w' => e = .returned (.bool true) ∧ Below w.heap.size w w' := by
  have HX := Lib.hid (Lp14.new (pc := pc) (pt := pt) (ph := ph) (pl := pl) hs)
  have HC := Lib.hid (fun W => small14 A0 A1 A2 A3 A4 n0 n1 n2 n3 n4 c0 c1 c2 c3 c4 sq true W (by simp [hn]))
  have HEp : Hid (putCoin14 S (k : Int) pc = S) := Lib.hid (by rw [putCoin14, if_neg (by omega)])
  have HEq : Hid (putTicket14 S (k : Int) pt = trim14 { S with T := put14 S.T k pt }) := Lib.hid (by rw [putTicket14, if_pos (by omega)]; rfl)
  have HEr : Hid (putThread14 S (k : Int) ph = trim14 { S with H := put14 S.H k ph }) := Lib.hid (by rw [putThread14, if_pos (by omega)]; rfl)
  have HEs : Hid (putLock14 S (k : Int) pl = S) := Lib.hid (by rw [putLock14, if_neg (by omega)])
  have j0 : (0 : Int) ≤ (k : Int) := by omega
  have j16 : ¬ (k : Int) < 16 := by omega
  have j16d : decide ((k : Int) < 16) = false := decide_eq_false j16
  have j96 : (k : Int) < 96 := by omega
  have j96d : decide ((k : Int) < 96) = true := decide_eq_true j96
  have j32 : (k : Int) < 32 := by omega
  have j32d : decide ((k : Int) < 32) = true := decide_eq_true j32
  have j8 : ¬ (k : Int) < 8 := by omega
  have j8d : decide ((k : Int) < 8) = false := decide_eq_false j8
  have HK9 : Hid (k ≤ 900) := Lib.hid (by omega)
  obtain ⟨W0, hW0⟩ : ∃ W, ((w.alloc (.cells #[.slice A0 n0 c0, .slice A1 n1 c1, .slice A2 n2 c2, .slice A3 n3 c3, .slice A4 n4 c4, .int .i64 sq] 28)).alloc (.cells #[.bool pc, .bool pt.u, .int .i64 pt.c, .int .i64 pt.a, .int .i64 pt.k, .int .i64 pt.t, .bool pt.o, .int .i64 ph.s, .int .i64 ph.f, .int .i64 ph.c, .int .i64 ph.q, .int .i64 ph.u, .bool pl.u, .int .i64 pl.h] 49)) = W := ⟨_, rfl⟩
  rw [hW0] at HX
  have p0 := HX.out.x.cell 0
  have p1 := HX.out.x.cell 1
  have p2 := HX.out.x.cell 2
  have p3 := HX.out.x.cell 3
  have p4 := HX.out.x.cell 4
  have p5 := HX.out.x.cell 5
  have q0 := HX.out.y.cell 0
  have q1 := HX.out.y.cell 1
  have q2 := HX.out.y.cell 2
  have q3 := HX.out.y.cell 3
  have q4 := HX.out.y.cell 4
  have q5 := HX.out.y.cell 5
  have q6 := HX.out.y.cell 6
  have q7 := HX.out.y.cell 7
  have q8 := HX.out.y.cell 8
  have q9 := HX.out.y.cell 9
  have q10 := HX.out.y.cell 10
  have q11 := HX.out.y.cell 11
  have q12 := HX.out.y.cell 12
  have q13 := HX.out.y.cell 13
  obtain ⟨bC, bT, bH, bL, xu, xc, xa, xk, xt, xo, ys, yf, yc, yq, yu, zu, zh, hC, hT, hH, hL, aT, aH, aL⟩ := ex14_at S (k : Int)
  have HT := Lib.hid hT
  have HH := Lib.hid hH
  have HL := Lib.hid hL
  have HCC := Lib.hid hC
  have HAT := Lib.hid aT
  have HAH := Lib.hid aH
  have HAL := Lib.hid aL
  obtain ⟨rC, fC⟩ := Free14.ex usC S.C 16
  obtain ⟨rT, fT⟩ := Free14.ex usT S.T 96
  obtain ⟨rH, fH⟩ := Free14.ex usH S.H 32
  obtain ⟨rL, fL⟩ := Free14.ex usL S.L 8
  have HF := Lib.hid (And.intro fC (And.intro fT (And.intro fH fL)))
  clear fC fT fH fL hT hH hL hC aT aH aL
  clear hs hn hi
  go_enter Tryz.func4, Tryz.ntmps4
  go_wp2_with fail
  refine (HC.out _).mono ?_
  rintro e u1 ⟨rfl, hb1⟩
  have HX1 := Lib.hid (HX.out.step hb1)
  clear hb1 HC HX hW0 p0 p1 p2 p3 p4 p5 q0 q1 q2 q3 q4 q5 q6 q7 q8 q9 q10 q11 q12 q13
  go_wp2_with fail
  refine reg14_3 HX1.out (by intro _ _ _ _ _ h; exact h) (fun _ _ _ _ _ _ _ _ _ _ _ _ _ _ _ _ _ _ _ _ g7 g8 g9 g10 u2 hb2 va vb vc vd _ _ _ _ _ _ _ _ _ _ => ?_)
  have HX2 := Lib.hid (HX1.out.step hb2)
  rw [HEp.out] at va
  rw [HEq.out] at vb
  rw [HEr.out] at vc
  rw [HEs.out] at vd
  have HVA := Lib.hid va
  have HVB := Lib.hid vb
  have HVC := Lib.hid vc
  have HVD := Lib.hid vd
  clear va vb vc vd hb2 HX1
  go_wp2_with fail
  refine reg14_4 (i := 0) (pc := pc) (pt := pt) (ph := ph) (pl := pl) HX2.out (by intro _ _ _ _ _ h; exact h) (fun _ _ _ _ p q r s u3 hb3 vp vq vr vs fp fq fr fs d1 d2 d3 d4 d5 d6 => ?_)
  have HA := Lib.hid (⟨hb3, fp, fq, fr, fs, d1, d2, d3, d4, d5, d6, vp, vq, vr, vs⟩ : Al14 u2 p q r s S S S S u3)
  clear hb3 fp fq fr fs d1 d2 d3 d4 d5 d6 vp vq vr vs
  have HX4 := Lib.hid (HX2.out.step HA.out.b)
  have p0 := HX4.out.x.cell 0
  have p1 := HX4.out.x.cell 1
  have p2 := HX4.out.x.cell 2
  have p3 := HX4.out.x.cell 3
  have p4 := HX4.out.x.cell 4
  have p5 := HX4.out.x.cell 5
  have q0 := HX4.out.y.cell 0
  have q1 := HX4.out.y.cell 1
  have q2 := HX4.out.y.cell 2
  have q3 := HX4.out.y.cell 3
  have q4 := HX4.out.y.cell 4
  have q5 := HX4.out.y.cell 5
  have q6 := HX4.out.y.cell 6
  have q7 := HX4.out.y.cell 7
  have q8 := HX4.out.y.cell 8
  have q9 := HX4.out.y.cell 9
  have q10 := HX4.out.y.cell 10
  have q11 := HX4.out.y.cell 11
  have q12 := HX4.out.y.cell 12
  have q13 := HX4.out.y.cell 13
  go_wp2_with fail
  refine (rputTicket14 _ S k pt.u pt.c pt.a pt.k pt.t pt.o _ HX4.out.st HK9.out).mono ?_
  rintro e u4 ⟨B0, B1, B2, B3, B4, m0, m1, m2, m3, m4, d0, d1, d2, d3, d4, sx, rfl, hsa, hfa, hb⟩
  have HB := Lib.hid (HA.out.put_q hb hsa hfa)
  have hk := (HA.out.step hb).vq
  obtain ⟨K0, K1, K2, K3, K4, h0, h1, h2, h3, h4, l0, l1, l2, l3, l4, sy, hk, _, _⟩ := hk
  have k0 := hk.cell 0
  have k1 := hk.cell 1
  have k2 := hk.cell 2
  have k3 := hk.cell 3
  have k4 := hk.cell 4
  have k5 := hk.cell 5
  have y0 := hk.frozen 0
  have y1 := hk.frozen 1
  have y2 := hk.frozen 2
  have y3 := hk.frozen 3
  have y4 := hk.frozen 4
  have y5 := hk.frozen 5
  clear HA HX4 hk hsa hfa hb p0 p1 p2 p3 p4 p5 q0 q1 q2 q3 q4 q5 q6 q7 q8 q9 q10 q11 q12 q13
  go_upto_region 9 with (fail)
  have hw6 : ((((((u4.setCell ⟨q, 0, none⟩ (.slice B0 m0 d0)).setCell ⟨q, 1, none⟩ (.slice B1 m1 d1)).setCell ⟨q, 2, none⟩ (.slice B2 m2 d2)).setCell ⟨q, 3, none⟩ (.slice B3 m3 d3)).setCell ⟨q, 4, none⟩ (.slice B4 m4 d4)).setCell ⟨q, 5, none⟩ (.int .i64 sx)) = put6 u4 q B0 B1 B2 B3 B4 m0 m1 m2 m3 m4 d0 d1 d2 d3 d4 sx := rfl
  rw [hw6]
  obtain ⟨U4, hU⟩ : ∃ W, put6 u4 q B0 B1 B2 B3 B4 m0 m1 m2 m3 m4 d0 d1 d2 d3 d4 sx = W := ⟨_, rfl⟩
  rw [hU] at HB ⊢
  have HA := HB
  clear HB hU hw6 k0 y0 k1 y1 k2 y2 k3 y3 k4 y4 k5 y5
  have HX5 := Lib.hid (HX2.out.step HA.out.b)
  have p0 := HX5.out.x.cell 0
  have p1 := HX5.out.x.cell 1
  have p2 := HX5.out.x.cell 2
  have p3 := HX5.out.x.cell 3
  have p4 := HX5.out.x.cell 4
  have p5 := HX5.out.x.cell 5
  have q0 := HX5.out.y.cell 0
  have q1 := HX5.out.y.cell 1
  have q2 := HX5.out.y.cell 2
  have q3 := HX5.out.y.cell 3
  have q4 := HX5.out.y.cell 4
  have q5 := HX5.out.y.cell 5
  have q6 := HX5.out.y.cell 6
  have q7 := HX5.out.y.cell 7
  have q8 := HX5.out.y.cell 8
  have q9 := HX5.out.y.cell 9
  have q10 := HX5.out.y.cell 10
  have q11 := HX5.out.y.cell 11
  have q12 := HX5.out.y.cell 12
  have q13 := HX5.out.y.cell 13
  go_wp2_with fail
  refine (rputThread14 _ S k ph.s ph.f ph.c ph.q ph.u _ HX5.out.st HK9.out).mono ?_
  rintro e u5 ⟨B0, B1, B2, B3, B4, m0, m1, m2, m3, m4, d0, d1, d2, d3, d4, sx, rfl, hsa, hfa, hb⟩
  have HB := Lib.hid (HA.out.put_r hb hsa hfa)
  have hk := (HA.out.step hb).vr
  obtain ⟨K0, K1, K2, K3, K4, h0, h1, h2, h3, h4, l0, l1, l2, l3, l4, sy, hk, _, _⟩ := hk
  have k0 := hk.cell 0
  have k1 := hk.cell 1
  have k2 := hk.cell 2
  have k3 := hk.cell 3
  have k4 := hk.cell 4
  have k5 := hk.cell 5
  have y0 := hk.frozen 0
  have y1 := hk.frozen 1
  have y2 := hk.frozen 2
  have y3 := hk.frozen 3
  have y4 := hk.frozen 4
  have y5 := hk.frozen 5
  clear HA HX5 hk hsa hfa hb p0 p1 p2 p3 p4 p5 q0 q1 q2 q3 q4 q5 q6 q7 q8 q9 q10 q11 q12 q13
  go_upto_region 11 with (fail)
  have hw6 : ((((((u5.setCell ⟨r, 0, none⟩ (.slice B0 m0 d0)).setCell ⟨r, 1, none⟩ (.slice B1 m1 d1)).setCell ⟨r, 2, none⟩ (.slice B2 m2 d2)).setCell ⟨r, 3, none⟩ (.slice B3 m3 d3)).setCell ⟨r, 4, none⟩ (.slice B4 m4 d4)).setCell ⟨r, 5, none⟩ (.int .i64 sx)) = put6 u5 r B0 B1 B2 B3 B4 m0 m1 m2 m3 m4 d0 d1 d2 d3 d4 sx := rfl
  rw [hw6]
  obtain ⟨U5, hU⟩ : ∃ W, put6 u5 r B0 B1 B2 B3 B4 m0 m1 m2 m3 m4 d0 d1 d2 d3 d4 sx = W := ⟨_, rfl⟩
  rw [hU] at HB ⊢
  have HA := HB
  clear HB hU hw6 k0 y0 k1 y1 k2 y2 k3 y3 k4 y4 k5 y5
  have hva := HVA.out.step HA.out.b
  have hvw := HA.out.vp
  obtain ⟨K0, K1, K2, K3, K4, h0, h1, h2, h3, h4, l0, l1, l2, l3, l4, sy, hk, hsa, _⟩ := hva
  obtain ⟨B0, B1, B2, B3, B4, m0, m1, m2, m3, m4, d0, d1, d2, d3, d4, sz, hk2, hsb, _⟩ := hvw
  have k0 := hk.cell 0
  have k1 := hk.cell 1
  have k2 := hk.cell 2
  have k3 := hk.cell 3
  have k4 := hk.cell 4
  have k5 := hk.cell 5
  have y0 := hk2.cell 0
  have y1 := hk2.cell 1
  have y2 := hk2.cell 2
  have y3 := hk2.cell 3
  have y4 := hk2.cell 4
  have y5 := hk2.cell 5
  have HSA := Lib.hid hsa
  have HSB := Lib.hid hsb
  clear hk hk2 hsa hsb
  go_wp2_with fail
  refine (rsame14 _ _ _ _ _ HSA.out.to HSB.out.to true (by simp)).mono ?_
  rintro e v0 ⟨rfl, hb⟩
  have HB := Lib.hid (HA.out.step hb)
  clear HA HSA HSB hb k0 y0 k1 y1 k2 y2 k3 y3 k4 y4 k5 y5
  have HA := HB
  clear HB
  have hva := HVB.out.step HA.out.b
  have hvw := HA.out.vq
  obtain ⟨K0, K1, K2, K3, K4, h0, h1, h2, h3, h4, l0, l1, l2, l3, l4, sy, hk, hsa, _⟩ := hva
  obtain ⟨B0, B1, B2, B3, B4, m0, m1, m2, m3, m4, d0, d1, d2, d3, d4, sz, hk2, hsb, _⟩ := hvw
  have k0 := hk.cell 0
  have k1 := hk.cell 1
  have k2 := hk.cell 2
  have k3 := hk.cell 3
  have k4 := hk.cell 4
  have k5 := hk.cell 5
  have y0 := hk2.cell 0
  have y1 := hk2.cell 1
  have y2 := hk2.cell 2
  have y3 := hk2.cell 3
  have y4 := hk2.cell 4
  have y5 := hk2.cell 5
  have HSA := Lib.hid hsa
  have HSB := Lib.hid hsb
  clear hk hk2 hsa hsb
  go_wp2_with fail
  refine (rsame14 _ _ _ _ _ HSA.out.to HSB.out.to true (by simp)).mono ?_
  rintro e v1 ⟨rfl, hb⟩
  have HB := Lib.hid (HA.out.step hb)
  clear HA HSA HSB hb k0 y0 k1 y1 k2 y2 k3 y3 k4 y4 k5 y5
  have HA := HB
  clear HB
  have hva := HVC.out.step HA.out.b
  have hvw := HA.out.vr
  obtain ⟨K0, K1, K2, K3, K4, h0, h1, h2, h3, h4, l0, l1, l2, l3, l4, sy, hk, hsa, _⟩ := hva
  obtain ⟨B0, B1, B2, B3, B4, m0, m1, m2, m3, m4, d0, d1, d2, d3, d4, sz, hk2, hsb, _⟩ := hvw
  have k0 := hk.cell 0
  have k1 := hk.cell 1
  have k2 := hk.cell 2
  have k3 := hk.cell 3
  have k4 := hk.cell 4
  have k5 := hk.cell 5
  have y0 := hk2.cell 0
  have y1 := hk2.cell 1
  have y2 := hk2.cell 2
  have y3 := hk2.cell 3
  have y4 := hk2.cell 4
  have y5 := hk2.cell 5
  have HSA := Lib.hid hsa
  have HSB := Lib.hid hsb
  clear hk hk2 hsa hsb
  go_wp2_with fail
  refine (rsame14 _ _ _ _ _ HSA.out.to HSB.out.to true (by simp)).mono ?_
  rintro e v2 ⟨rfl, hb⟩
  have HB := Lib.hid (HA.out.step hb)
  clear HA HSA HSB hb k0 y0 k1 y1 k2 y2 k3 y3 k4 y4 k5 y5
  have HA := HB
  clear HB
  have hva := HVD.out.step HA.out.b
  have hvw := HA.out.vs
  obtain ⟨K0, K1, K2, K3, K4, h0, h1, h2, h3, h4, l0, l1, l2, l3, l4, sy, hk, hsa, _⟩ := hva
  obtain ⟨B0, B1, B2, B3, B4, m0, m1, m2, m3, m4, d0, d1, d2, d3, d4, sz, hk2, hsb, _⟩ := hvw
  have k0 := hk.cell 0
  have k1 := hk.cell 1
  have k2 := hk.cell 2
  have k3 := hk.cell 3
  have k4 := hk.cell 4
  have k5 := hk.cell 5
  have y0 := hk2.cell 0
  have y1 := hk2.cell 1
  have y2 := hk2.cell 2
  have y3 := hk2.cell 3
  have y4 := hk2.cell 4
  have y5 := hk2.cell 5
  have HSA := Lib.hid hsa
  have HSB := Lib.hid hsb
  clear hk hk2 hsa hsb
  go_wp2_with fail
  refine (rsame14 _ _ _ _ _ HSA.out.to HSB.out.to true (by simp)).mono ?_
  rintro e v3 ⟨rfl, hb⟩
  have HB := Lib.hid (HA.out.step hb)
  clear HA HSA HSB hb k0 y0 k1 y1 k2 y2 k3 y3 k4 y4 k5 y5
  have HA := HB
  clear HB
  have HX9 := Lib.hid (HX2.out.step HA.out.b)
  clear HA HVA HVB HVC HVD HX2
  have p0 := HX9.out.x.cell 0
  have p1 := HX9.out.x.cell 1
  have p2 := HX9.out.x.cell 2
  have p3 := HX9.out.x.cell 3
  have p4 := HX9.out.x.cell 4
  have p5 := HX9.out.x.cell 5
  go_wp2_with fail
  refine (ticket14 _ S (k : Int) xu xc xa xk xt xo bT _ HX9.out.st HT.out HAT.out).mono ?_
  rintro e z0 ⟨rfl, hb⟩
  have hx := hb.trans ((b1' z0 (.cells #[.bool xu, .int .i64 xc, .int .i64 xa, .int .i64 xk, .int .i64 xt, .bool xo] 43)).mono hb.size)
  have HXA := Lib.hid (HX9.out.step hx)
  have HKT := Lib.hid (Blk.new z0 43 #[.bool xu, .int .i64 xc, .int .i64 xa, .int .i64 xk, .int .i64 xt, .bool xo])
  skip
  obtain ⟨Z0, hZ0⟩ : ∃ X, z0.alloc (.cells #[.bool xu, .int .i64 xc, .int .i64 xa, .int .i64 xk, .int .i64 xt, .bool xo] 43) = X := ⟨_, rfl⟩
  rw [hZ0] at HXA HKT
  clear hb hx HX9 p0 p1 p2 p3 p4 p5
  have HX9 := HXA
  clear HXA
  have p0 := HX9.out.x.cell 0
  have p1 := HX9.out.x.cell 1
  have p2 := HX9.out.x.cell 2
  have p3 := HX9.out.x.cell 3
  have p4 := HX9.out.x.cell 4
  have p5 := HX9.out.x.cell 5
  go_wp2_with fail
  refine (thread14 _ S (k : Int) ys yf yc yq yu bH _ HX9.out.st HH.out HAH.out).mono ?_
  rintro e z1 ⟨rfl, hb⟩
  have hx := hb.trans ((b1' z1 (.cells #[.int .i64 ys, .int .i64 yf, .int .i64 yc, .int .i64 yq, .int .i64 yu] 45)).mono hb.size)
  have HXA := Lib.hid (HX9.out.step hx)
  have HKT2 := Lib.hid (HKT.out.below hx HKT.out.lt)
  have HKH := Lib.hid (Blk.new z1 45 #[.int .i64 ys, .int .i64 yf, .int .i64 yc, .int .i64 yq, .int .i64 yu])
  skip
  obtain ⟨Z1, hZ1⟩ : ∃ X, z1.alloc (.cells #[.int .i64 ys, .int .i64 yf, .int .i64 yc, .int .i64 yq, .int .i64 yu] 45) = X := ⟨_, rfl⟩
  rw [hZ1] at HXA HKH HKT2
  clear hb hx HX9 p0 p1 p2 p3 p4 p5 HKT
  have HX9 := HXA
  clear HXA
  have HKT := HKT2
  clear HKT2
  have p0 := HX9.out.x.cell 0
  have p1 := HX9.out.x.cell 1
  have p2 := HX9.out.x.cell 2
  have p3 := HX9.out.x.cell 3
  have p4 := HX9.out.x.cell 4
  have p5 := HX9.out.x.cell 5
  go_wp2_with fail
  refine (lock14 _ S (k : Int) zu zh bL _ HX9.out.st HL.out HAL.out).mono ?_
  rintro e z2 ⟨rfl, hb⟩
  have hx := hb.trans ((b1' z2 (.cells #[.bool zu, .int .i64 zh] 47)).mono hb.size)
  have HXA := Lib.hid (HX9.out.step hx)
  have HKT2 := Lib.hid (HKT.out.below hx HKT.out.lt)
  have HKH2 := Lib.hid (HKH.out.below hx HKH.out.lt)
  have HKL := Lib.hid (Blk.new z2 47 #[.bool zu, .int .i64 zh])
  skip
  obtain ⟨Z2, hZ2⟩ : ∃ X, z2.alloc (.cells #[.bool zu, .int .i64 zh] 47) = X := ⟨_, rfl⟩
  rw [hZ2] at HXA HKL HKT2 HKH2
  clear hb hx HX9 p0 p1 p2 p3 p4 p5 HKT HKH
  have HX9 := HXA
  clear HXA
  have HKT := HKT2
  clear HKT2
  have HKH := HKH2
  clear HKH2
  go_wp2_with fail
  refine reg14_18 HX9.out HCC.out HT.out HH.out HL.out (by intro _ _ _ _ _ h; exact h) (fun _ _ _ _ _ _ _ _ _ _ _ _ _ _ _ _ _ _ _ _ _ _ _ _ _ _ _ v4 hb => ?_)
  have HX8 := Lib.hid (HX9.out.step hb)
  have HKT2 := Lib.hid (HKT.out.below hb HKT.out.lt)
  have HKH2 := Lib.hid (HKH.out.below hb HKH.out.lt)
  have HKL2 := Lib.hid (HKL.out.below hb HKL.out.lt)
  clear hb HX9 HKT HKH HKL
  go_wp2_with fail
  refine reg14_20 HX8.out HT.out HH.out HL.out HAT.out HAH.out HAL.out HKT2.out HKH2.out HKL2.out (by intro _ _ _ _ _ h; exact h) (fun _ _ _ _ _ _ _ _ _ _ _ _ _ _ _ _ _ _ _ _ _ _ _ _ _ _ _ _ _ _ _ _ _ _ _ _ _ _ _ _ _ _ _ _ _ _ _ _ _ _ _ _ _ _ _ _ _ _ _ _ v5 hb => ?_)
  have HX7 := Lib.hid (HX8.out.step hb)
  clear hb HX8 HKT2 HKH2 HKL2
  go_wp2_with fail
  obtain ⟨fC, fT, fH, fL⟩ := HF.out
  refine reg14_22 HX7.out fC fT fH fL (by intro _ _ _ _ _ h; exact h) (fun _ _ _ _ _ _ _ _ _ _ _ _ _ _ _ _ _ _ _ _ _ _ _ _ _ _ _ _ v6 hb => ?_)
  have HB9 := Lib.hid (HX7.out.step hb).b
  clear hb HX7
  go_wp2_with fail
  go_ret
  exact ⟨rfl, HB9.out⟩
set_option maxHeartbeats 8000000 in
theorem lputs14_d (A0 A1 A2 A3 A4 : Option Addr) (n0 n1 n2 n3 n4 c0 c1 c2 c3 c4 : Nat) (sq : Int) (S : Sv14) (k : Nat) (pc : Bool) (pt : Tk14) (ph : Th14) (pl : Lk14) (w : World) (hs : SA14 w S A0 A1 A2 A3 A4 n0 n1 n2 n3 n4 c0 c1 c2 c3 c4 sq) (hn : Small14 n0 n1 n2 n3 n4) (hi : 32 ≤ k ∧ k < 96) :
    Calls Tryz.prog 4 #[.agg #[.slice A0 n0 c0, .slice A1 n1 c1, .slice A2 n2 c2, .slice A3 n3 c3, .slice A4 n4 c4, .int .i64 sq], .int .i64 (k : Int), .agg #[.bool pc, .bool pt.u, .int .i64 pt.c, .int .i64 pt.a, .int .i64 pt.k, .int .i64 pt.t, .bool pt.o, .int .i64 ph.s, .int .i64 ph.f, .int .i64 ph.c, .int .i64 ph.q, .int .i64 ph.u, .bool pl.u, .int .i64 pl.h]] w fun e w' => e = .returned (.bool true) ∧ Below w.heap.size w w' := by
  have HX := Lib.hid (Lp14.new (pc := pc) (pt := pt) (ph := ph) (pl := pl) hs)
  have HC := Lib.hid (fun W => small14 A0 A1 A2 A3 A4 n0 n1 n2 n3 n4 c0 c1 c2 c3 c4 sq true W (by simp [hn]))
  have HEp : Hid (putCoin14 S (k : Int) pc = S) := Lib.hid (by rw [putCoin14, if_neg (by omega)])
  have HEq : Hid (putTicket14 S (k : Int) pt = trim14 { S with T := put14 S.T k pt }) := Lib.hid (by rw [putTicket14, if_pos (by omega)]; rfl)
  have HEr : Hid (putThread14 S (k : Int) ph = S) := Lib.hid (by rw [putThread14, if_neg (by omega)])
  have HEs : Hid (putLock14 S (k : Int) pl = S) := Lib.hid (by rw [putLock14, if_neg (by omega)])
  have j0 : (0 : Int) ≤ (k : Int) := by omega
  have j16 : ¬ (k : Int) < 16 := by omega
  have j16d : decide ((k : Int) < 16) = false := decide_eq_false j16
  have j96 : (k : Int) < 96 := by omega
  have j96d : decide ((k : Int) < 96) = true := decide_eq_true j96
  have j32 : ¬ (k : Int) < 32 := by omega
  have j32d : decide ((k : Int) < 32) = false := decide_eq_false j32
  have j8 : ¬ (k : Int) < 8 := by omega
  have j8d : decide ((k : Int) < 8) = false := decide_eq_false j8
  have HK9 : Hid (k ≤ 900) := Lib.hid (by omega)
  obtain ⟨W0, hW0⟩ : ∃ W, ((w.alloc (.cells #[.slice A0 n0 c0, .slice A1 n1 c1, .slice A2 n2 c2, .slice A3 n3 c3, .slice A4 n4 c4, .int .i64 sq] 28)).alloc (.cells #[.bool pc, .bool pt.u, .int .i64 pt.c, .int .i64 pt.a, .int .i64 pt.k, .int .i64 pt.t, .bool pt.o, .int .i64 ph.s, .int .i64 ph.f, .int .i64 ph.c, .int .i64 ph.q, .int .i64 ph.u, .bool pl.u, .int .i64 pl.h] 49)) = W := ⟨_, rfl⟩
  rw [hW0] at HX
  have p0 := HX.out.x.cell 0
  have p1 := HX.out.x.cell 1
  have p2 := HX.out.x.cell 2
  have p3 := HX.out.x.cell 3
  have p4 := HX.out.x.cell 4
  have p5 := HX.out.x.cell 5
  have q0 := HX.out.y.cell 0
  have q1 := HX.out.y.cell 1
  have q2 := HX.out.y.cell 2
  have q3 := HX.out.y.cell 3
  have q4 := HX.out.y.cell 4
  have q5 := HX.out.y.cell 5
  have q6 := HX.out.y.cell 6
  have q7 := HX.out.y.cell 7
  have q8 := HX.out.y.cell 8
  have q9 := HX.out.y.cell 9
  have q10 := HX.out.y.cell 10
  have q11 := HX.out.y.cell 11
  have q12 := HX.out.y.cell 12
  have q13 := HX.out.y.cell 13
  obtain ⟨bC, bT, bH, bL, xu, xc, xa, xk, xt, xo, ys, yf, yc, yq, yu, zu, zh, hC, hT, hH, hL, aT, aH, aL⟩ := ex14_at S (k : Int)
  have HT := Lib.hid hT
  have HH := Lib.hid hH
  have HL := Lib.hid hL
  have HCC := Lib.hid hC
  have HAT := Lib.hid aT
  have HAH := Lib.hid aH
  have HAL := Lib.hid aL
  obtain ⟨rC, fC⟩ := Free14.ex usC S.C 16
  obtain ⟨rT, fT⟩ := Free14.ex usT S.T 96
  obtain ⟨rH, fH⟩ := Free14.ex usH S.H 32
  obtain ⟨rL, fL⟩ := Free14.ex usL S.L 8
  have HF := Lib.hid (And.intro fC (And.intro fT (And.intro fH fL)))
  clear fC fT fH fL hT hH hL hC aT aH aL
  clear hs hn hi
  go_enter Tryz.func4, Tryz.ntmps4
  go_wp2_with fail
  refine (HC.out _).mono ?_
  rintro e u1 ⟨rfl, hb1⟩
  have HX1 := Lib.hid (HX.out.step hb1)
  clear hb1 HC HX hW0 p0 p1 p2 p3 p4 p5 q0 q1 q2 q3 q4 q5 q6 q7 q8 q9 q10 q11 q12 q13
  go_wp2_with fail
  refine reg14_3 HX1.out (by intro _ _ _ _ _ h; exact h) (fun _ _ _ _ _ _ _ _ _ _ _ _ _ _ _ _ _ _ _ _ g7 g8 g9 g10 u2 hb2 va vb vc vd _ _ _ _ _ _ _ _ _ _ => ?_)
  have HX2 := Lib.hid (HX1.out.step hb2)
  rw [HEp.out] at va
  rw [HEq.out] at vb
  rw [HEr.out] at vc
  rw [HEs.out] at vd
  have HVA := Lib.hid va
  have HVB := Lib.hid vb
  have HVC := Lib.hid vc
  have HVD := Lib.hid vd
  clear va vb vc vd hb2 HX1
  go_wp2_with fail
  refine reg14_4 (i := 0) (pc := pc) (pt := pt) (ph := ph) (pl := pl) HX2.out (by intro _ _ _ _ _ h; exact h) (fun _ _ _ _ p q r s u3 hb3 vp vq vr vs fp fq fr fs d1 d2 d3 d4 d5 d6 => ?_)
  have HA := Lib.hid (⟨hb3, fp, fq, fr, fs, d1, d2, d3, d4, d5, d6, vp, vq, vr, vs⟩ : Al14 u2 p q r s S S S S u3)
  clear hb3 fp fq fr fs d1 d2 d3 d4 d5 d6 vp vq vr vs
  have HX4 := Lib.hid (HX2.out.step HA.out.b)
  have p0 := HX4.out.x.cell 0
  have p1 := HX4.out.x.cell 1
  have p2 := HX4.out.x.cell 2
  have p3 := HX4.out.x.cell 3
  have p4 := HX4.out.x.cell 4
  have p5 := HX4.out.x.cell 5
  have q0 := HX4.out.y.cell 0
  have q1 := HX4.out.y.cell 1
  have q2 := HX4.out.y.cell 2
  have q3 := HX4.out.y.cell 3
  have q4 := HX4.out.y.cell 4
  have q5 := HX4.out.y.cell 5
  have q6 := HX4.out.y.cell 6
  have q7 := HX4.out.y.cell 7
  have q8 := HX4.out.y.cell 8
  have q9 := HX4.out.y.cell 9
  have q10 := HX4.out.y.cell 10
  have q11 := HX4.out.y.cell 11
  have q12 := HX4.out.y.cell 12
  have q13 := HX4.out.y.cell 13
  go_wp2_with fail
  refine (rputTicket14 _ S k pt.u pt.c pt.a pt.k pt.t pt.o _ HX4.out.st HK9.out).mono ?_
  rintro e u4 ⟨B0, B1, B2, B3, B4, m0, m1, m2, m3, m4, d0, d1, d2, d3, d4, sx, rfl, hsa, hfa, hb⟩
  have HB := Lib.hid (HA.out.put_q hb hsa hfa)
  have hk := (HA.out.step hb).vq
  obtain ⟨K0, K1, K2, K3, K4, h0, h1, h2, h3, h4, l0, l1, l2, l3, l4, sy, hk, _, _⟩ := hk
  have k0 := hk.cell 0
  have k1 := hk.cell 1
  have k2 := hk.cell 2
  have k3 := hk.cell 3
  have k4 := hk.cell 4
  have k5 := hk.cell 5
  have y0 := hk.frozen 0
  have y1 := hk.frozen 1
  have y2 := hk.frozen 2
  have y3 := hk.frozen 3
  have y4 := hk.frozen 4
  have y5 := hk.frozen 5
  clear HA HX4 hk hsa hfa hb p0 p1 p2 p3 p4 p5 q0 q1 q2 q3 q4 q5 q6 q7 q8 q9 q10 q11 q12 q13
  go_upto_region 9 with (fail)
  have hw6 : ((((((u4.setCell ⟨q, 0, none⟩ (.slice B0 m0 d0)).setCell ⟨q, 1, none⟩ (.slice B1 m1 d1)).setCell ⟨q, 2, none⟩ (.slice B2 m2 d2)).setCell ⟨q, 3, none⟩ (.slice B3 m3 d3)).setCell ⟨q, 4, none⟩ (.slice B4 m4 d4)).setCell ⟨q, 5, none⟩ (.int .i64 sx)) = put6 u4 q B0 B1 B2 B3 B4 m0 m1 m2 m3 m4 d0 d1 d2 d3 d4 sx := rfl
  rw [hw6]
  obtain ⟨U4, hU⟩ : ∃ W, put6 u4 q B0 B1 B2 B3 B4 m0 m1 m2 m3 m4 d0 d1 d2 d3 d4 sx = W := ⟨_, rfl⟩
  rw [hU] at HB ⊢
  have HA := HB
  clear HB hU hw6 k0 y0 k1 y1 k2 y2 k3 y3 k4 y4 k5 y5
  have hva := HVA.out.step HA.out.b
  have hvw := HA.out.vp
  obtain ⟨K0, K1, K2, K3, K4, h0, h1, h2, h3, h4, l0, l1, l2, l3, l4, sy, hk, hsa, _⟩ := hva
  obtain ⟨B0, B1, B2, B3, B4, m0, m1, m2, m3, m4, d0, d1, d2, d3, d4, sz, hk2, hsb, _⟩ := hvw
  have k0 := hk.cell 0
  have k1 := hk.cell 1
  have k2 := hk.cell 2
  have k3 := hk.cell 3
  have k4 := hk.cell 4
  have k5 := hk.cell 5
  have y0 := hk2.cell 0
  have y1 := hk2.cell 1
  have y2 := hk2.cell 2
  have y3 := hk2.cell 3
  have y4 := hk2.cell 4
  have y5 := hk2.cell 5
  have HSA := Lib.hid hsa
  have HSB := Lib.hid hsb
  clear hk hk2 hsa hsb
  go_wp2_with fail
  refine (rsame14 _ _ _ _ _ HSA.out.to HSB.out.to true (by simp)).mono ?_
  rintro e v0 ⟨rfl, hb⟩
  have HB := Lib.hid (HA.out.step hb)
  clear HA HSA HSB hb k0 y0 k1 y1 k2 y2 k3 y3 k4 y4 k5 y5
  have HA := HB
  clear HB
  have hva := HVB.out.step HA.out.b
  have hvw := HA.out.vq
  obtain ⟨K0, K1, K2, K3, K4, h0, h1, h2, h3, h4, l0, l1, l2, l3, l4, sy, hk, hsa, _⟩ := hva
  obtain ⟨B0, B1, B2, B3, B4, m0, m1, m2, m3, m4, d0, d1, d2, d3, d4, sz, hk2, hsb, _⟩ := hvw
  have k0 := hk.cell 0
  have k1 := hk.cell 1
  have k2 := hk.cell 2
  have k3 := hk.cell 3
  have k4 := hk.cell 4
  have k5 := hk.cell 5
  have y0 := hk2.cell 0
  have y1 := hk2.cell 1
  have y2 := hk2.cell 2
  have y3 := hk2.cell 3
  have y4 := hk2.cell 4
  have y5 := hk2.cell 5
  have HSA := Lib.hid hsa
  have HSB := Lib.hid hsb
  clear hk hk2 hsa hsb
  go_wp2_with fail
  refine (rsame14 _ _ _ _ _ HSA.out.to HSB.out.to true (by simp)).mono ?_
  rintro e v1 ⟨rfl, hb⟩
  have HB := Lib.hid (HA.out.step hb)
  clear HA HSA HSB hb k0 y0 k1 y1 k2 y2 k3 y3 k4 y4 k5 y5
  have HA := HB
  clear HB
  have hva := HVC.out.step HA.out.b
  have hvw := HA.out.vr
  obtain ⟨K0, K1, K2, K3, K4, h0, h1, h2, h3, h4, l0, l1, l2, l3, l4, sy, hk, hsa, _⟩ := hva
  obtain ⟨B0, B1, B2, B3, B4, m0, m1, m2, m3, m4, d0, d1, d2, d3, d4, sz, hk2, hsb, _⟩ := hvw
  have k0 := hk.cell 0
  have k1 := hk.cell 1
  have k2 := hk.cell 2
  have k3 := hk.cell 3
  have k4 := hk.cell 4
  have k5 := hk.cell 5
  have y0 := hk2.cell 0
  have y1 := hk2.cell 1
  have y2 := hk2.cell 2
  have y3 := hk2.cell 3
  have y4 := hk2.cell 4
  have y5 := hk2.cell 5
  have HSA := Lib.hid hsa
  have HSB := Lib.hid hsb
  clear hk hk2 hsa hsb
  go_wp2_with fail
  refine (rsame14 _ _ _ _ _ HSA.out.to HSB.out.to true (by simp)).mono ?_
  rintro e v2 ⟨rfl, hb⟩
  have HB := Lib.hid (HA.out.step hb)
  clear HA HSA HSB hb k0 y0 k1 y1 k2 y2 k3 y3 k4 y4 k5 y5
  have HA := HB
  clear HB
  have hva := HVD.out.step HA.out.b
  have hvw := HA.out.vs
  obtain ⟨K0, K1, K2, K3, K4, h0, h1, h2, h3, h4, l0, l1, l2, l3, l4, sy, hk, hsa, _⟩ := hva
  obtain ⟨B0, B1, B2, B3, B4, m0, m1, m2, m3, m4, d0, d1, d2, d3, d4, sz, hk2, hsb, _⟩ := hvw
  have k0 := hk.cell 0
  have k1 := hk.cell 1
  have k2 := hk.cell 2
  have k3 := hk.cell 3
  have k4 := hk.cell 4
  have k5 := hk.cell 5
  have y0 := hk2.cell 0
  have y1 := hk2.cell 1
  have y2 := hk2.cell 2
  have y3 := hk2.cell 3
  have y4 := hk2.cell 4
  have y5 := hk2.cell 5
  have HSA := Lib.hid hsa
  have HSB := Lib.hid hsb
  clear hk hk2 hsa hsb
  go_wp2_with fail
  refine (rsame14 _ _ _ _ _ HSA.out.to HSB.out.to true (by simp)).mono ?_
  rintro e v3 ⟨rfl, hb⟩
  have HB := Lib.hid (HA.out.step hb)
  clear HA HSA HSB hb k0 y0 k1 y1 k2 y2 k3 y3 k4 y4 k5 y5
  have HA := HB
  clear HB
  have HX9 := Lib.hid (HX2.out.step HA.out.b)
  clear HA HVA HVB HVC HVD HX2
  have p0 := HX9.out.x.cell 0
  have p1 := HX9.out.x.cell 1
  have p2 := HX9.out.x.cell 2
  have p3 := HX9.out.x.cell 3
  have p4 := HX9.out.x.cell 4
  have p5 := HX9.out.x.cell 5
  go_wp2_with fail
  refine (ticket14 _ S (k : Int) xu xc xa xk xt xo bT _ HX9.out.st HT.out HAT.out).mono ?_
  rintro e z0 ⟨rfl, hb⟩
  have hx := hb.trans ((b1' z0 (.cells #[.bool xu, .int .i64 xc, .int .i64 xa, .int .i64 xk, .int .i64 xt, .bool xo] 43)).mono hb.size)
  have HXA := Lib.hid (HX9.out.step hx)
  have HKT := Lib.hid (Blk.new z0 43 #[.bool xu, .int .i64 xc, .int .i64 xa, .int .i64 xk, .int .i64 xt, .bool xo])
  skip
  obtain ⟨Z0, hZ0⟩ : ∃ X, z0.alloc (.cells #[.bool xu, .int .i64 xc, .int .i64 xa, .int .i64 xk, .int .i64 xt, .bool xo] 43) = X := ⟨_, rfl⟩
  rw [hZ0] at HXA HKT
  clear hb hx HX9 p0 p1 p2 p3 p4 p5
  have HX9 := HXA
  clear HXA
  have p0 := HX9.out.x.cell 0
  have p1 := HX9.out.x.cell 1
  have p2 := HX9.out.x.cell 2
  have p3 := HX9.out.x.cell 3
  have p4 := HX9.out.x.cell 4
  have p5 := HX9.out.x.cell 5
  go_wp2_with fail
  refine (thread14 _ S (k : Int) ys yf yc yq yu bH _ HX9.out.st HH.out HAH.out).mono ?_
  rintro e z1 ⟨rfl, hb⟩
  have hx := hb.trans ((b1' z1 (.cells #[.int .i64 ys, .int .i64 yf, .int .i64 yc, .int .i64 yq, .int .i64 yu] 45)).mono hb.size)
  have HXA := Lib.hid (HX9.out.step hx)
  have HKT2 := Lib.hid (HKT.out.below hx HKT.out.lt)
  have HKH := Lib.hid (Blk.new z1 45 #[.int .i64 ys, .int .i64 yf, .int .i64 yc, .int .i64 yq, .int .i64 yu])
  skip
  obtain ⟨Z1, hZ1⟩ : ∃ X, z1.alloc (.cells #[.int .i64 ys, .int .i64 yf, .int .i64 yc, .int .i64 yq, .int .i64 yu] 45) = X := ⟨_, rfl⟩
  rw [hZ1] at HXA HKH HKT2
  clear hb hx HX9 p0 p1 p2 p3 p4 p5 HKT
  have HX9 := HXA
  clear HXA
  have HKT := HKT2
  clear HKT2
  have p0 := HX9.out.x.cell 0
  have p1 := HX9.out.x.cell 1
  have p2 := HX9.out.x.cell 2
  have p3 := HX9.out.x.cell 3
  have p4 := HX9.out.x.cell 4
  have p5 := HX9.out.x.cell 5
  go_wp2_with fail
  refine (lock14 _ S (k : Int) zu zh bL _ HX9.out.st HL.out HAL.out).mono ?_
  rintro e z2 ⟨rfl, hb⟩
  have hx := hb.trans ((b1' z2 (.cells #[.bool zu, .int .i64 zh] 47)).mono hb.size)
  have HXA := Lib.hid (HX9.out.step hx)
  have HKT2 := Lib.hid (HKT.out.below hx HKT.out.lt)
  have HKH2 := Lib.hid (HKH.out.below hx HKH.out.lt)
  have HKL := Lib.hid (Blk.new z2 47 #[.bool zu, .int .i64 zh])
  skip
  obtain ⟨Z2, hZ2⟩ : ∃ X, z2.alloc (.cells #[.bool zu, .int .i64 zh] 47) = X := ⟨_, rfl⟩
  rw [hZ2] at HXA HKL HKT2 HKH2
  clear hb hx HX9 p0 p1 p2 p3 p4 p5 HKT HKH
  have HX9 := HXA
  clear HXA
  have HKT := HKT2
  clear HKT2
  have HKH := HKH2
  clear HKH2
  go_wp2_with fail
  refine reg14_18 HX9.out HCC.out HT.out HH.out HL.out (by intro _ _ _ _ _ h; exact h) (fun _ _ _ _ _ _ _ _ _ _ _ _ _ _ _ _ _ _ _ _ _ _ _ _ _ _ _ v4 hb => ?_)
  have HX8 := Lib.hid (HX9.out.step hb)
  have HKT2 := Lib.hid (HKT.out.below hb HKT.out.lt)
  have HKH2 := Lib.hid (HKH.out.below hb HKH.out.lt)
  have HKL2 := Lib.hid (HKL.out.below hb HKL.out.lt)
  clear hb HX9 HKT HKH HKL
  go_wp2_with fail
  refine reg14_20 HX8.out HT.out HH.out HL.out HAT.out HAH.out HAL.out HKT2.out HKH2.out HKL2.out (by intro _ _ _ _ _ h; exact h) (fun _ _ _ _ _ _ _ _ _ _ _ _ _ _ _ _ _ _ _ _ _ _ _ _ _ _ _ _ _ _ _ _ _ _ _ _ _ _ _ _ _ _ _ _ _ _ _ _ _ _ _ _ _ _ _ _ _ _ _ _ v5 hb => ?_)
  have HX7 := Lib.hid (HX8.out.step hb)
  clear hb HX8 HKT2 HKH2 HKL2
  go_wp2_with fail
  obtain ⟨fC, fT, fH, fL⟩ := HF.out
  refine reg14_22 HX7.out fC fT fH fL (by intro _ _ _ _ _ h; exact h) (fun _ _ _ _ _ _ _ _ _ _ _ _ _ _ _ _ _ _ _ _ _ _ _ _ _ _ _ _ v6 hb => ?_)
  have HB9 := Lib.hid (HX7.out.step hb).b
  clear hb HX7
  go_wp2_with fail
  go_ret
  exact ⟨rfl, HB9.out⟩
set_option maxHeartbeats 8000000 in
theorem lputs14_e (A0 A1 A2 A3 A4 : Option Addr) (n0 n1 n2 n3 n4 c0 c1 c2 c3 c4 : Nat) (sq : Int) (S : Sv14) (k : Nat) (pc : Bool) (pt : Tk14) (ph : Th14) (pl : Lk14) (w : World) (hs : SA14 w S A0 A1 A2 A3 A4 n0 n1 n2 n3 n4 c0 c1 c2 c3 c4 sq) (hn : Small14 n0 n1 n2 n3 n4) (hi : 96 ≤ k) :
    Calls Tryz.prog 4 #[.agg #[.slice A0 n0 c0, .slice A1 n1 c1, .slice A2 n2 c2, .slice A3 n3 c3, .slice A4 n4 c4, .int .i64 sq], .int .i64 (k : Int), .agg #[.bool pc, .bool pt.u, .int .i64 pt.c, .int .i64 pt.a, .int .i64 pt.k, .int .i64 pt.t, .bool pt.o, .int .i64 ph.s, .int .i64 ph.f, .int .i64 ph.c, .int .i64 ph.q, .int .i64 ph.u, .bool pl.u, .int .i64 pl.h]] w fun e w' => e = .returned (.bool true) ∧ Below w.heap.size w w' := by
  have HX := Lib.hid (Lp14.new (pc := pc) (pt := pt) (ph := ph) (pl := pl) hs)
  have HC := Lib.hid (fun W => small14 A0 A1 A2 A3 A4 n0 n1 n2 n3 n4 c0 c1 c2 c3 c4 sq true W (by simp [hn]))
  have HEp : Hid (putCoin14 S (k : Int) pc = S) := Lib.hid (by rw [putCoin14, if_neg (by omega)])
  have HEq : Hid (putTicket14 S (k : Int) pt = S) := Lib.hid (by rw [putTicket14, if_neg (by omega)])
  have HEr : Hid (putThread14 S (k : Int) ph = S) := Lib.hid (by rw [putThread14, if_neg (by omega)])
  have HEs : Hid (putLock14 S (k : Int) pl = S) := Lib.hid (by rw [putLock14, if_neg (by omega)])
  have j0 : (0 : Int) ≤ (k : Int) := by omega
  have j16 : ¬ (k : Int) < 16 := by omega
  have j16d : decide ((k : Int) < 16) = false := decide_eq_false j16
  have j96 : ¬ (k : Int) < 96 := by omega
  have j96d : decide ((k : Int) < 96) = false := decide_eq_false j96
  have j32 : ¬ (k : Int) < 32 := by omega
  have j32d : decide ((k : Int) < 32) = false := decide_eq_false j32
  have j8 : ¬ (k : Int) < 8 := by omega
  have j8d : decide ((k : Int) < 8) = false := decide_eq_false j8
  obtain ⟨W0, hW0⟩ : ∃ W, ((w.alloc (.cells #[.slice A0 n0 c0, .slice A1 n1 c1, .slice A2 n2 c2, .slice A3 n3 c3, .slice A4 n4 c4, .int .i64 sq] 28)).alloc (.cells #[.bool pc, .bool pt.u, .int .i64 pt.c, .int .i64 pt.a, .int .i64 pt.k, .int .i64 pt.t, .bool pt.o, .int .i64 ph.s, .int .i64 ph.f, .int .i64 ph.c, .int .i64 ph.q, .int .i64 ph.u, .bool pl.u, .int .i64 pl.h] 49)) = W := ⟨_, rfl⟩
  rw [hW0] at HX
  have p0 := HX.out.x.cell 0
  have p1 := HX.out.x.cell 1
  have p2 := HX.out.x.cell 2
  have p3 := HX.out.x.cell 3
  have p4 := HX.out.x.cell 4
  have p5 := HX.out.x.cell 5
  have q0 := HX.out.y.cell 0
  have q1 := HX.out.y.cell 1
  have q2 := HX.out.y.cell 2
  have q3 := HX.out.y.cell 3
  have q4 := HX.out.y.cell 4
  have q5 := HX.out.y.cell 5
  have q6 := HX.out.y.cell 6
  have q7 := HX.out.y.cell 7
  have q8 := HX.out.y.cell 8
  have q9 := HX.out.y.cell 9
  have q10 := HX.out.y.cell 10
  have q11 := HX.out.y.cell 11
  have q12 := HX.out.y.cell 12
  have q13 := HX.out.y.cell 13
  obtain ⟨bC, bT, bH, bL, xu, xc, xa, xk, xt, xo, ys, yf, yc, yq, yu, zu, zh, hC, hT, hH, hL, aT, aH, aL⟩ := ex14_at S (k : Int)
  have HT := Lib.hid hT
  have HH := Lib.hid hH
  have HL := Lib.hid hL
  have HCC := Lib.hid hC
  have HAT := Lib.hid aT
  have HAH := Lib.hid aH
  have HAL := Lib.hid aL
  obtain ⟨rC, fC⟩ := Free14.ex usC S.C 16
  obtain ⟨rT, fT⟩ := Free14.ex usT S.T 96
  obtain ⟨rH, fH⟩ := Free14.ex usH S.H 32
  obtain ⟨rL, fL⟩ := Free14.ex usL S.L 8
  have HF := Lib.hid (And.intro fC (And.intro fT (And.intro fH fL)))
  clear fC fT fH fL hT hH hL hC aT aH aL
  clear hs hn hi
  go_enter Tryz.func4, Tryz.ntmps4
  go_wp2_with fail
  refine (HC.out _).mono ?_
  rintro e u1 ⟨rfl, hb1⟩
  have HX1 := Lib.hid (HX.out.step hb1)
  clear hb1 HC HX hW0 p0 p1 p2 p3 p4 p5 q0 q1 q2 q3 q4 q5 q6 q7 q8 q9 q10 q11 q12 q13
  go_wp2_with fail
  refine reg14_3 HX1.out (by intro _ _ _ _ _ h; exact h) (fun _ _ _ _ _ _ _ _ _ _ _ _ _ _ _ _ _ _ _ _ g7 g8 g9 g10 u2 hb2 va vb vc vd _ _ _ _ _ _ _ _ _ _ => ?_)
  have HX2 := Lib.hid (HX1.out.step hb2)
  rw [HEp.out] at va
  rw [HEq.out] at vb
  rw [HEr.out] at vc
  rw [HEs.out] at vd
  have HVA := Lib.hid va
  have HVB := Lib.hid vb
  have HVC := Lib.hid vc
  have HVD := Lib.hid vd
  clear va vb vc vd hb2 HX1
  go_wp2_with fail
  refine reg14_4 (i := 0) (pc := pc) (pt := pt) (ph := ph) (pl := pl) HX2.out (by intro _ _ _ _ _ h; exact h) (fun _ _ _ _ p q r s u3 hb3 vp vq vr vs fp fq fr fs d1 d2 d3 d4 d5 d6 => ?_)
  have HA := Lib.hid (⟨hb3, fp, fq, fr, fs, d1, d2, d3, d4, d5, d6, vp, vq, vr, vs⟩ : Al14 u2 p q r s S S S S u3)
  clear hb3 fp fq fr fs d1 d2 d3 d4 d5 d6 vp vq vr vs
  have hva := HVA.out.step HA.out.b
  have hvw := HA.out.vp
  obtain ⟨K0, K1, K2, K3, K4, h0, h1, h2, h3, h4, l0, l1, l2, l3, l4, sy, hk, hsa, _⟩ := hva
  obtain ⟨B0, B1, B2, B3, B4, m0, m1, m2, m3, m4, d0, d1, d2, d3, d4, sz, hk2, hsb, _⟩ := hvw
  have k0 := hk.cell 0
  have k1 := hk.cell 1
  have k2 := hk.cell 2
  have k3 := hk.cell 3
  have k4 := hk.cell 4
  have k5 := hk.cell 5
  have y0 := hk2.cell 0
  have y1 := hk2.cell 1
  have y2 := hk2.cell 2
  have y3 := hk2.cell 3
  have y4 := hk2.cell 4
  have y5 := hk2.cell 5
  have HSA := Lib.hid hsa
  have HSB := Lib.hid hsb
  clear hk hk2 hsa hsb
  go_wp2_with fail
  refine (rsame14 _ _ _ _ _ HSA.out.to HSB.out.to true (by simp)).mono ?_
  rintro e v0 ⟨rfl, hb⟩
  have HB := Lib.hid (HA.out.step hb)
  clear HA HSA HSB hb k0 y0 k1 y1 k2 y2 k3 y3 k4 y4 k5 y5
  have HA := HB
  clear HB
  have hva := HVB.out.step HA.out.b
  have hvw := HA.out.vq
  obtain ⟨K0, K1, K2, K3, K4, h0, h1, h2, h3, h4, l0, l1, l2, l3, l4, sy, hk, hsa, _⟩ := hva
  obtain ⟨B0, B1, B2, B3, B4, m0, m1, m2, m3, m4, d0, d1, d2, d3, d4, sz, hk2, hsb, _⟩ := hvw
  have k0 := hk.cell 0
  have k1 := hk.cell 1
  have k2 := hk.cell 2
  have k3 := hk.cell 3
  have k4 := hk.cell 4
  have k5 := hk.cell 5
  have y0 := hk2.cell 0
  have y1 := hk2.cell 1
  have y2 := hk2.cell 2
  have y3 := hk2.cell 3
  have y4 := hk2.cell 4
  have y5 := hk2.cell 5
  have HSA := Lib.hid hsa
  have HSB := Lib.hid hsb
  clear hk hk2 hsa hsb
  go_wp2_with fail
  refine (rsame14 _ _ _ _ _ HSA.out.to HSB.out.to true (by simp)).mono ?_
  rintro e v1 ⟨rfl, hb⟩
  have HB := Lib.hid (HA.out.step hb)
  clear HA HSA HSB hb k0 y0 k1 y1 k2 y2 k3 y3 k4 y4 k5 y5
  have HA := HB
  clear HB
  have hva := HVC.out.step HA.out.b
  have hvw := HA.out.vr
  obtain ⟨K0, K1, K2, K3, K4, h0, h1, h2, h3, h4, l0, l1, l2, l3, l4, sy, hk, hsa, _⟩ := hva
  obtain ⟨B0, B1, B2, B3, B4, m0, m1, m2, m3, m4, d0, d1, d2, d3, d4, sz, hk2, hsb, _⟩ := hvw
  have k0 := hk.cell 0
  have k1 := hk.cell 1
  have k2 := hk.cell 2
  have k3 := hk.cell 3
  have k4 := hk.cell 4
  have k5 := hk.cell 5
  have y0 := hk2.cell 0
  have y1 := hk2.cell 1
  have y2 := hk2.cell 2
  have y3 := hk2.cell 3
  have y4 := hk2.cell 4
  have y5 := hk2.cell 5
  have HSA := Lib.hid hsa
  have HSB := Lib.hid hsb
  clear hk hk2 hsa hsb
  go_wp2_with fail
  refine (rsame14 _ _ _ _ _ HSA.out.to HSB.out.to true (by simp)).mono ?_
  rintro e v2 ⟨rfl, hb⟩
  have HB := Lib.hid (HA.out.step hb)
  clear HA HSA HSB hb k0 y0 k1 y1 k2 y2 k3 y3 k4 y4 k5 y5
  have HA := HB
  clear HB
  have hva := HVD.out.step HA.out.b
  have hvw := HA.out.vs
  obtain ⟨K0, K1, K2, K3, K4, h0, h1, h2, h3, h4, l0, l1, l2, l3, l4, sy, hk, hsa, _⟩ := hva
  obtain ⟨B0, B1, B2, B3, B4, m0, m1, m2, m3, m4, d0, d1, d2, d3, d4, sz, hk2, hsb, _⟩ := hvw
  have k0 := hk.cell 0
  have k1 := hk.cell 1
  have k2 := hk.cell 2
  have k3 := hk.cell 3
  have k4 := hk.cell 4
  have k5 := hk.cell 5
  have y0 := hk2.cell 0
  have y1 := hk2.cell 1
  have y2 := hk2.cell 2
  have y3 := hk2.cell 3
  have y4 := hk2.cell 4
  have y5 := hk2.cell 5
  have HSA := Lib.hid hsa
  have HSB := Lib.hid hsb
  clear hk hk2 hsa hsb
  go_wp2_with fail
  refine (rsame14 _ _ _ _ _ HSA.out.to HSB.out.to true (by simp)).mono ?_
  rintro e v3 ⟨rfl, hb⟩
  have HB := Lib.hid (HA.out.step hb)
  clear HA HSA HSB hb k0 y0 k1 y1 k2 y2 k3 y3 k4 y4 k5 y5
  have HA := HB
  clear HB
  have HX9 := Lib.hid (HX2.out.step HA.out.b)
  clear HA HVA HVB HVC HVD HX2
  have p0 := HX9.out.x.cell 0
  have p1 := HX9.out.x.cell 1
  have p2 := HX9.out.x.cell 2
  have p3 := HX9.out.x.cell 3
  have p4 := HX9.out.x.cell 4
  have p5 := HX9.out.x.cell 5
  go_wp2_with fail
  refine (ticket14 _ S (k : Int) xu xc xa xk xt xo bT _ HX9.out.st HT.out HAT.out).mono ?_
  rintro e z0 ⟨rfl, hb⟩
  have hx := hb.trans ((b1' z0 (.cells #[.bool xu, .int .i64 xc, .int .i64 xa, .int .i64 xk, .int .i64 xt, .bool xo] 43)).mono hb.size)
  have HXA := Lib.hid (HX9.out.step hx)
  have HKT := Lib.hid (Blk.new z0 43 #[.bool xu, .int .i64 xc, .int .i64 xa, .int .i64 xk, .int .i64 xt, .bool xo])
  skip
  obtain ⟨Z0, hZ0⟩ : ∃ X, z0.alloc (.cells #[.bool xu, .int .i64 xc, .int .i64 xa, .int .i64 xk, .int .i64 xt, .bool xo] 43) = X := ⟨_, rfl⟩
  rw [hZ0] at HXA HKT
  clear hb hx HX9 p0 p1 p2 p3 p4 p5
  have HX9 := HXA
  clear HXA
  have p0 := HX9.out.x.cell 0
  have p1 := HX9.out.x.cell 1
  have p2 := HX9.out.x.cell 2
  have p3 := HX9.out.x.cell 3
  have p4 := HX9.out.x.cell 4
  have p5 := HX9.out.x.cell 5
  go_wp2_with fail
  refine (thread14 _ S (k : Int) ys yf yc yq yu bH _ HX9.out.st HH.out HAH.out).mono ?_
  rintro e z1 ⟨rfl, hb⟩
  have hx := hb.trans ((b1' z1 (.cells #[.int .i64 ys, .int .i64 yf, .int .i64 yc, .int .i64 yq, .int .i64 yu] 45)).mono hb.size)
  have HXA := Lib.hid (HX9.out.step hx)
  have HKT2 := Lib.hid (HKT.out.below hx HKT.out.lt)
  have HKH := Lib.hid (Blk.new z1 45 #[.int .i64 ys, .int .i64 yf, .int .i64 yc, .int .i64 yq, .int .i64 yu])
  skip
  obtain ⟨Z1, hZ1⟩ : ∃ X, z1.alloc (.cells #[.int .i64 ys, .int .i64 yf, .int .i64 yc, .int .i64 yq, .int .i64 yu] 45) = X := ⟨_, rfl⟩
  rw [hZ1] at HXA HKH HKT2
  clear hb hx HX9 p0 p1 p2 p3 p4 p5 HKT
  have HX9 := HXA
  clear HXA
  have HKT := HKT2
  clear HKT2
  have p0 := HX9.out.x.cell 0
  have p1 := HX9.out.x.cell 1
  have p2 := HX9.out.x.cell 2
  have p3 := HX9.out.x.cell 3
  have p4 := HX9.out.x.cell 4
  have p5 := HX9.out.x.cell 5
  go_wp2_with fail
  refine (lock14 _ S (k : Int) zu zh bL _ HX9.out.st HL.out HAL.out).mono ?_
  rintro e z2 ⟨rfl, hb⟩
  have hx := hb.trans ((b1' z2 (.cells #[.bool zu, .int .i64 zh] 47)).mono hb.size)
  have HXA := Lib.hid (HX9.out.step hx)
  have HKT2 := Lib.hid (HKT.out.below hx HKT.out.lt)
  have HKH2 := Lib.hid (HKH.out.below hx HKH.out.lt)
  have HKL := Lib.hid (Blk.new z2 47 #[.bool zu, .int .i64 zh])
  skip
  obtain ⟨Z2, hZ2⟩ : ∃ X, z2.alloc (.cells #[.bool zu, .int .i64 zh] 47) = X := ⟨_, rfl⟩
  rw [hZ2] at HXA HKL HKT2 HKH2
  clear hb hx HX9 p0 p1 p2 p3 p4 p5 HKT HKH
  have HX9 := HXA
  clear HXA
  have HKT := HKT2
  clear HKT2
  have HKH := HKH2
  clear HKH2
  go_wp2_with fail
  refine reg14_18 HX9.out HCC.out HT.out HH.out HL.out (by intro _ _ _ _ _ h; exact h) (fun _ _ _ _ _ _ _ _ _ _ _ _ _ _ _ _ _ _ _ _ _ _ _ _ _ _ _ v4 hb => ?_)
  have HX8 := Lib.hid (HX9.out.step hb)
  have HKT2 := Lib.hid (HKT.out.below hb HKT.out.lt)
  have HKH2 := Lib.hid (HKH.out.below hb HKH.out.lt)
  have HKL2 := Lib.hid (HKL.out.below hb HKL.out.lt)
  clear hb HX9 HKT HKH HKL
  go_wp2_with fail
  refine reg14_20 HX8.out HT.out HH.out HL.out HAT.out HAH.out HAL.out HKT2.out HKH2.out HKL2.out (by intro _ _ _ _ _ h; exact h) (fun _ _ _ _ _ _ _ _ _ _ _ _ _ _ _ _ _ _ _ _ _ _ _ _ _ _ _ _ _ _ _ _ _ _ _ _ _ _ _ _ _ _ _ _ _ _ _ _ _ _ _ _ _ _ _ _ _ _ _ _ v5 hb => ?_)
  have HX7 := Lib.hid (HX8.out.step hb)
  clear hb HX8 HKT2 HKH2 HKL2
  go_wp2_with fail
  obtain ⟨fC, fT, fH, fL⟩ := HF.out
  refine reg14_22 HX7.out fC fT fH fL (by intro _ _ _ _ _ h; exact h) (fun _ _ _ _ _ _ _ _ _ _ _ _ _ _ _ _ _ _ _ _ _ _ _ _ _ _ _ _ v6 hb => ?_)
  have HB9 := Lib.hid (HX7.out.step hb).b
  clear hb HX7
  go_wp2_with fail
  go_ret
  exact ⟨rfl, HB9.out⟩
set_option maxHeartbeats 4000000 in
theorem lputs14_big (A0 A1 A2 A3 A4 : Option Addr) (n0 n1 n2 n3 n4 c0 c1 c2 c3 c4 : Nat) (sq : Int) (i : Int) (pc : Bool) (pt : Tk14) (ph : Th14) (pl : Lk14) (w : World) (hn : ¬ Small14 n0 n1 n2 n3 n4) :
    Calls Tryz.prog 4 #[.agg #[.slice A0 n0 c0, .slice A1 n1 c1, .slice A2 n2 c2, .slice A3 n3 c3, .slice A4 n4 c4, .int .i64 sq], .int .i64 i, .agg #[.bool pc, .bool pt.u, .int .i64 pt.c, .int .i64 pt.a, .int .i64 pt.k, .int .i64 pt.t, .bool pt.o, .int .i64 ph.s, .int .i64 ph.f, .int .i64 ph.c, .int .i64 ph.q, .int .i64 ph.u, .bool pl.u, .int .i64 pl.h]] w fun e w' => e = .returned (.bool true) ∧ Below w.heap.size w w' := by
  have hb0 : Below w.heap.size w ((w.alloc (.cells #[.slice A0 n0 c0, .slice A1 n1 c1, .slice A2 n2 c2, .slice A3 n3 c3, .slice A4 n4 c4, .int .i64 sq] 28)).alloc (.cells #[.bool pc, .bool pt.u, .int .i64 pt.c, .int .i64 pt.a, .int .i64 pt.k, .int .i64 pt.t, .bool pt.o, .int .i64 ph.s, .int .i64 ph.f, .int .i64 ph.c, .int .i64 ph.q, .int .i64 ph.u, .bool pl.u, .int .i64 pl.h] 49)) := (b1' w _).alloc (by simp) _
  have hk0 : Blk ((w.alloc (.cells #[.slice A0 n0 c0, .slice A1 n1 c1, .slice A2 n2 c2, .slice A3 n3 c3, .slice A4 n4 c4, .int .i64 sq] 28)).alloc (.cells #[.bool pc, .bool pt.u, .int .i64 pt.c, .int .i64 pt.a, .int .i64 pt.k, .int .i64 pt.t, .bool pt.o, .int .i64 ph.s, .int .i64 ph.f, .int .i64 ph.c, .int .i64 ph.q, .int .i64 ph.u, .bool pl.u, .int .i64 pl.h] 49)) w.heap.size 28 #[.slice A0 n0 c0, .slice A1 n1 c1, .slice A2 n2 c2, .slice A3 n3 c3, .slice A4 n4 c4, .int .i64 sq] := (Blk.new w 28 #[.slice A0 n0 c0, .slice A1 n1 c1, .slice A2 n2 c2, .slice A3 n3 c3, .slice A4 n4 c4, .int .i64 sq]).alloc _
  obtain ⟨W0, hW0⟩ : ∃ W, ((w.alloc (.cells #[.slice A0 n0 c0, .slice A1 n1 c1, .slice A2 n2 c2, .slice A3 n3 c3, .slice A4 n4 c4, .int .i64 sq] 28)).alloc (.cells #[.bool pc, .bool pt.u, .int .i64 pt.c, .int .i64 pt.a, .int .i64 pt.k, .int .i64 pt.t, .bool pt.o, .int .i64 ph.s, .int .i64 ph.f, .int .i64 ph.c, .int .i64 ph.q, .int .i64 ph.u, .bool pl.u, .int .i64 pl.h] 49)) = W := ⟨_, rfl⟩
  rw [hW0] at hb0 hk0
  have p0 := hk0.cell 0
  have p1 := hk0.cell 1
  have p2 := hk0.cell 2
  have p3 := hk0.cell 3
  have p4 := hk0.cell 4
  have p5 := hk0.cell 5
  have HB0 := Lib.hid hb0
  have HC := Lib.hid (fun W => small14 A0 A1 A2 A3 A4 n0 n1 n2 n3 n4 c0 c1 c2 c3 c4 sq false W (by simp [hn]))
  clear hb0 hk0 hn
  go_enter Tryz.func4, Tryz.ntmps4
  go_wp2_with fail
  refine (HC.out _).mono ?_
  rintro e u1 ⟨rfl, hb1⟩
  have HB1 := Lib.hid (HB0.out.trans (hb1.mono HB0.out.size))
  clear hb1 HC
  go_wp2_with fail
  refine (alive14_any _).mono ?_
  rintro e u2 ⟨rfl, hb2⟩
  have HB2 := Lib.hid (HB1.out.trans (hb2.mono HB1.out.size))
  clear hb2
  go_wp2_with fail
  go_ret
  exact ⟨rfl, HB2.out⟩
theorem lputs14_all (A0 A1 A2 A3 A4 : Option Addr) (n0 n1 n2 n3 n4 c0 c1 c2 c3 c4 : Nat) (sq : Int) (S : Sv14) (i : Int) (pc : Bool) (pt : Tk14) (ph : Th14) (pl : Lk14) (w : World) (hs : Small14 n0 n1 n2 n3 n4 → SA14 w S A0 A1 A2 A3 A4 n0 n1 n2 n3 n4 c0 c1 c2 c3 c4 sq) :
    Calls Tryz.prog 4 #[.agg #[.slice A0 n0 c0, .slice A1 n1 c1, .slice A2 n2 c2, .slice A3 n3 c3, .slice A4 n4 c4, .int .i64 sq], .int .i64 i, .agg #[.bool pc, .bool pt.u, .int .i64 pt.c, .int .i64 pt.a, .int .i64 pt.k, .int .i64 pt.t, .bool pt.o, .int .i64 ph.s, .int .i64 ph.f, .int .i64 ph.c, .int .i64 ph.q, .int .i64 ph.u, .bool pl.u, .int .i64 pl.h]] w fun e w' => e = .returned (.bool true) ∧ Below w.heap.size w w' := by
  by_cases hn : Small14 n0 n1 n2 n3 n4
  case neg => exact lputs14_big A0 A1 A2 A3 A4 n0 n1 n2 n3 n4 c0 c1 c2 c3 c4 sq i pc pt ph pl w hn
  by_cases h0 : i < 0
  · exact lputs14_neg A0 A1 A2 A3 A4 n0 n1 n2 n3 n4 c0 c1 c2 c3 c4 sq S i pc pt ph pl w (hs hn) hn h0
  obtain ⟨k, rfl⟩ : ∃ k : Nat, i = (k : Int) := ⟨i.toNat, by omega⟩
  by_cases h1 : k < 8
  · exact lputs14_a A0 A1 A2 A3 A4 n0 n1 n2 n3 n4 c0 c1 c2 c3 c4 sq S k pc pt ph pl w (hs hn) hn (by omega)
  by_cases h2 : k < 16
  · exact lputs14_b A0 A1 A2 A3 A4 n0 n1 n2 n3 n4 c0 c1 c2 c3 c4 sq S k pc pt ph pl w (hs hn) hn (by omega)
  by_cases h3 : k < 32
  · exact lputs14_c A0 A1 A2 A3 A4 n0 n1 n2 n3 n4 c0 c1 c2 c3 c4 sq S k pc pt ph pl w (hs hn) hn (by omega)
  by_cases h4 : k < 96
  · exact lputs14_d A0 A1 A2 A3 A4 n0 n1 n2 n3 n4 c0 c1 c2 c3 c4 sq S k pc pt ph pl w (hs hn) hn (by omega)
  exact lputs14_e A0 A1 A2 A3 A4 n0 n1 n2 n3 n4 c0 c1 c2 c3 c4 sq S k pc pt ph pl w (hs hn) hn (by omega)
end Go.Proofs.YtfoellhoaflofaaGreat
