/-
  SaidLiveOff, part 9 of 15: what the theorem liveOff_holds reaches.
-/
import Derived.Test.YtllcmjdfgbiijaaLO8
namespace Go.Proofs.Ytllcmjdfgbiijaa
open Go.RowKit
set_option maxRecDepth 100000
set_option maxHeartbeats 2000000 in
theorem used16 (v : Value) (S : Sv14) (i : Int) (b : Bool) (w : World) (h : St14 w v S) (hb : us14 usH S.H i = b) :
    Calls Try.prog 63 #[v, .int .i64 i] w fun e w' => e = .returned (.bool b) ∧ Below w.heap.size w w' := by
  obtain ⟨A0, A1, A2, A3, A4, n0, n1, n2, n3, n4, c0, c1, c2, c3, c4, sq, rfl, hs⟩ := h
  have hx0 := Bx14.new hs
  have hxn := hx0.step (Below.refl _ _).drew
  obtain ⟨W1, hW1⟩ : ∃ W, w.alloc (.cells #[.slice A0 n0 c0, .slice A1 n1 c1, .slice A2 n2 c2, .slice A3 n3 c3, .slice A4 n4 c4, .int .i64 sq] 28) = W := ⟨_, rfl⟩
  rw [hW1] at hx0 hxn
  obtain ⟨x, hx⟩ : ∃ x, at14 usH S.H i = x := ⟨_, rfl⟩
  obtain ⟨xz, xf, xc, xq, xu⟩ := x
  have HX0 := Lib.hid hx0
  have p0 := hx0.x.cell 0
  have p1 := hx0.x.cell 1
  have p2 := hx0.x.cell 2
  have p3 := hx0.x.cell 3
  have p4 := hx0.x.cell 4
  have p5 := hx0.x.cell 5
  have HT := Lib.hid (fun W h => thread14 (.agg #[.slice A0 n0 c0, .slice A1 n1 c1, .slice A2 n2 c2, .slice A3 n3 c3, .slice A4 n4 c4, .int .i64 sq]) S i xz xf xc xq xu b W h hb hx)
  clear hs hx0 hxn hb hx
  go_enter Try.func63, Try.ntmps63
  go_wp2_with fail
  refine (HT.out _ HX0.out.st).mono ?_
  rintro e u1 ⟨rfl, hb1⟩
  have HB1 := Lib.hid (HX0.out.b.trans (hb1.mono HX0.out.b.size))
  clear hb1 HT HX0 p0 p1 p2 p3 p4 p5 hW1
  go_wp2_with fail
  go_ret
  exact ⟨rfl, HB1.out.trans ((b1' _ _).mono HB1.out.size)⟩
set_option maxHeartbeats 4000000 in
theorem next16 (v : Value) (S : Sv14) (i : Int) (w : World) (h : St14 w v S) :
    Calls Try.prog 64 #[v, .int .i64 i] w fun e w' => e = .returned (.int .i64 (nxt16 S i)) ∧ Below w.heap.size w w' := by
  obtain ⟨A0, A1, A2, A3, A4, n0, n1, n2, n3, n4, c0, c1, c2, c3, c4, sq, rfl, hs⟩ := h
  have hx0 := Bx14.new hs
  have hxn := hx0.step (Below.refl _ _).drew
  obtain ⟨W1, hW1⟩ : ∃ W, w.alloc (.cells #[.slice A0 n0 c0, .slice A1 n1 c1, .slice A2 n2 c2, .slice A3 n3 c3, .slice A4 n4 c4, .int .i64 sq] 28) = W := ⟨_, rfl⟩
  rw [hW1] at hx0 hxn
  obtain ⟨x, hx⟩ : ∃ x, at14 usH S.H i = x := ⟨_, rfl⟩
  obtain ⟨xz, xf, xc, xq, xu⟩ := x
  obtain ⟨b, hb⟩ : ∃ b, us14 usH S.H i = b := ⟨_, rfl⟩
  obtain ⟨y, hy⟩ : ∃ y, at14 usL S.L xf = y := ⟨_, rfl⟩
  obtain ⟨yu, yh⟩ := y
  obtain ⟨c, hc⟩ : ∃ c, us14 usL S.L xf = c := ⟨_, rfl⟩
  have HN : Hid (nxt16 S i = if xz = 4 then xf else if xz = 6 then yh else -1) := Lib.hid (by rw [nxt16, hx, hy])
  have HX0 := Lib.hid hx0
  have p0 := hx0.x.cell 0
  have p1 := hx0.x.cell 1
  have p2 := hx0.x.cell 2
  have p3 := hx0.x.cell 3
  have p4 := hx0.x.cell 4
  have p5 := hx0.x.cell 5
  have HT := Lib.hid (fun W h => thread14 (.agg #[.slice A0 n0 c0, .slice A1 n1 c1, .slice A2 n2 c2, .slice A3 n3 c3, .slice A4 n4 c4, .int .i64 sq]) S i xz xf xc xq xu b W h hb hx)
  have HK := Lib.hid (fun W h => lock14 (.agg #[.slice A0 n0 c0, .slice A1 n1 c1, .slice A2 n2 c2, .slice A3 n3 c3, .slice A4 n4 c4, .int .i64 sq]) S xf yu yh c W h hc hy)
  clear hs hx0 hxn hb hx hc hy
  go_enter Try.func64, Try.ntmps64
  go_wp2_with fail
  refine (HT.out _ HX0.out.st).mono ?_
  rintro e u1 ⟨rfl, hb1⟩
  have HX1 := Lib.hid ((HX0.out.step hb1).step (b1' u1 (.cells #[.int .i64 xz, .int .i64 xf, .int .i64 xc, .int .i64 xq, .int .i64 xu] 43)))
  have hk1 := Blk.new u1 43 #[.int .i64 xz, .int .i64 xf, .int .i64 xc, .int .i64 xq, .int .i64 xu]
  obtain ⟨g1, hg1⟩ : ∃ g, u1.heap.size = g := ⟨_, rfl⟩
  have c0 := hk1.cell 0
  have c1 := hk1.cell 1
  have q0 := HX1.out.x.cell 0
  have q1 := HX1.out.x.cell 1
  have q2 := HX1.out.x.cell 2
  have q3 := HX1.out.x.cell 3
  have q4 := HX1.out.x.cell 4
  have q5 := HX1.out.x.cell 5
  clear hb1 hk1 HT HX0 p0 p1 p2 p3 p4 p5 hW1
  by_cases z4 : xz = 4
  · subst z4
    have HE : Hid (nxt16 S i = xf) := Lib.hid (by rw [HN.out, if_pos rfl])
    go_wp2_with fail
    go_ret
    exact ⟨by rw [HE.out]; rfl, HX1.out.b⟩
  · have z4b : (xz == 4) = false := by simp [z4]
    by_cases z6 : xz = 6
    · subst z6
      have HE : Hid (nxt16 S i = yh) := Lib.hid (by rw [HN.out, if_neg (by decide), if_pos rfl])
      go_wp2_with fail
      refine (HK.out _ HX1.out.st).mono ?_
      rintro e u2 ⟨rfl, hb2⟩
      have hk2 := Blk.new u2 50 #[.bool yu, .int .i64 yh]
      have d1 := hk2.cell 1
      have HB2 := Lib.hid (HX1.out.b.trans (hb2.mono HX1.out.b.size))
      clear hk2 hb2 HK HX1 q0 q1 q2 q3 q4 q5 c0 c1
      go_wp2_with fail
      go_ret
      exact ⟨by rw [HE.out]; rfl, HB2.out.trans ((b1' _ _).mono HB2.out.size)⟩
    · have z6b : (xz == 6) = false := by simp [z6]
      have HE : Hid (nxt16 S i = -1) := Lib.hid (by rw [HN.out, if_neg z4, if_neg z6])
      go_wp2_with fail
      go_ret
      exact ⟨by rw [HE.out]; rfl, HX1.out.b⟩
set_option maxHeartbeats 8000000 in
theorem tail16 (v : Value) (S : Sv14) (i : Int) (l : List Nat) (w : World) (h : St14 w v S) (hf : Fine14 S) (hl : Tl16 S i l) :
    Calls Try.prog 53 #[v, .int .i64 i] w (RetR15 w l) := by
  obtain ⟨A0, A1, A2, A3, A4, n0, n1, n2, n3, n4, c0, c1, c2, c3, c4, sq, rfl, hs⟩ := h
  have HP : Hid (RetR15 w l = fun e w' => ∃ A c, e = .returned (.slice A l.length c) ∧ Rd w' w'.heap.size A l ∧ Below w.heap.size w w') := Lib.hid rfl
  have HX0 : Hid (Ti15 w (w.heap.size + 1) S A0 A1 A2 A3 A4 n0 n1 n2 n3 n4 c0 c1 c2 c3 c4 sq none 0 0 [] (w.alloc (.cells #[.slice A0 n0 c0, .slice A1 n1 c1, .slice A2 n2 c2, .slice A3 n3 c3, .slice A4 n4 c4, .int .i64 sq] 28))) := Lib.hid (Ti15.start hs (Bx14.new hs) (by omega) (by simp))
  have HL2 := Lib.hid hs.l2
  have hm2 := hs.m2
  have HLN : Hid (l.length ≤ n2) := Lib.hid (by have := hl.len hf; rw [hs.l2] at this; exact this)
  have HF := Lib.hid hf
  have HI := Lib.hid hl
  have HU := Lib.hid (fun W j b (h : Bx14 w S A0 A1 A2 A3 A4 n0 n1 n2 n3 n4 c0 c1 c2 c3 c4 sq W) hb => used16 (.agg #[.slice A0 n0 c0, .slice A1 n1 c1, .slice A2 n2 c2, .slice A3 n3 c3, .slice A4 n4 c4, .int .i64 sq]) S j b W h.st hb)
  have HN := Lib.hid (fun W j (h : Bx14 w S A0 A1 A2 A3 A4 n0 n1 n2 n3 n4 c0 c1 c2 c3 c4 sq W) => next16 (.agg #[.slice A0 n0 c0, .slice A1 n1 c1, .slice A2 n2 c2, .slice A3 n3 c3, .slice A4 n4 c4, .int .i64 sq]) S j W h.st)
  clear hs hf hl
  go_enter Try.func53, Try.ntmps53
  go_wp2_with fail
  go_loopg [1, 4] (n2 + 1) (fun kx iv ov wr => ∃ (j : Int) (r p : List Nat) (A : Option Addr) (m c : Nat), iv = .int .i64 j ∧ ov = .slice A m c ∧ m + kx = n2 + 1 ∧ m ≤ n2 ∧ Hid (Tl16 S j r) ∧ Hid (p ++ r = l) ∧ Hid (Ti15 w (w.heap.size + 1) S A0 A1 A2 A3 A4 n0 n1 n2 n3 n4 c0 c1 c2 c3 c4 sq A m c p wr))
  case atStart => exact ⟨i, l, [], none, 0, 0, rfl, rfl, by omega, by omega, HI, Lib.hid rfl, HX0⟩
  case round =>
    clear HX0 HI
    obtain ⟨j, r, p, A, m, c, rfl, rfl, hm, hmn, HI, HA, HW⟩ := hrel
    have p0 := HW.out.b.x.cell 0
    have p1 := HW.out.b.x.cell 1
    have p2 := HW.out.b.x.cell 2
    have p3 := HW.out.b.x.cell 3
    have p4 := HW.out.b.x.cell 4
    have p5 := HW.out.b.x.cell 5
    cases hu : us14 usH S.H j with
    | false =>
      have hc := HU.out wr j false HW.out.b hu
      have HE : Hid (p = l) := Lib.hid (by rw [← HA.out, HI.out.no hu, List.append_nil])
      have HCU := Lib.hid hc
      clear hc hu
      go_wp2_with fail
      refine HCU.out.mono ?_
      rintro e u1 ⟨rfl, hb1⟩
      have HW1 := Lib.hid (HW.out.step (hb1))
      clear hb1 HCU
      go_wp2_with fail
      go_ret
      rw [HP.out]
      exact ⟨A, c, by rw [← HW1.out.l, HE.out]; rfl, by rw [← HE.out]; exact HW1.out.rd, HW1.out.b.b⟩
    | true =>
      obtain ⟨k, r2, hk, hr, ht⟩ := HI.out.cons HF.out hu
      subst hk hr
      have hc := HU.out wr (k : Int) true HW.out.b hu
      have HCU := Lib.hid hc
      have HT := Lib.hid ht
      have hlt : m < n2 := by
        have h1 := HLN.out
        have h2 := HW.out.l
        rw [← HA.out, List.length_append, List.length_cons] at h1
        omega
      have hltI : (m : Int) < (n2 : Int) := by omega
      have HCN := Lib.hid (fun W h => HN.out W (k : Int) h)
      clear hc hu ht
      go_wp2_with fail
      refine HCU.out.mono ?_
      rintro e u1 ⟨rfl, hb1⟩
      have HW1 := Lib.hid (HW.out.step (hb1))
      have q0 := HW1.out.b.x.cell 0
      have q1 := HW1.out.b.x.cell 1
      have q2 := HW1.out.b.x.cell 2
      have q3 := HW1.out.b.x.cell 3
      have q4 := HW1.out.b.x.cell 4
      have q5 := HW1.out.b.x.cell 5
      obtain ⟨Az, cz, W2, hrun, hti, hbl⟩ := HW1.out.push k (by omega)
      have HRUN := Lib.hid hrun
      have HW2 := Lib.hid hti
      have y0 := HW2.out.b.x.cell 0
      have y1 := HW2.out.b.x.cell 1
      have y2 := HW2.out.b.x.cell 2
      have y3 := HW2.out.b.x.cell 3
      have y4 := HW2.out.b.x.cell 4
      have y5 := HW2.out.b.x.cell 5
      clear hb1 HCU hrun hti hbl
      go_wp2_with (at_builtin; go_loud (refine wpList_append_14 _ rfl (.tmp 16) (.tmp 18) 26 rfl _ _ _ _ rfl rfl HRUN.out ?_))
      refine (HCN.out _ HW2.out.b).mono ?_
      rintro e u3 ⟨rfl, hb3⟩
      have HW3 := Lib.hid (HW2.out.step hb3)
      clear hb3
      go_wp2_with fail
      go_roundg (n2 + 1 - (m + 1))
      case measure => omega
      case rel => exact ⟨nxt16 S (k : Int), r2, p ++ [k], Az, m + 1, cz, rfl, rfl, by omega, by omega, HT, Lib.hid (by rw [← HA.out]; simp), HW3⟩
end Go.Proofs.Ytllcmjdfgbiijaa
namespace Go.Proofs.Ytllcmjdfgbiijaa
open Go.RowKit
set_option maxRecDepth 100000
/-- Between two steps: a boxed state whose lists stood there before it. -/
structure By16 (w : World) (S : Sv14) (A0 A1 A2 A3 A4 : Option Addr) (n0 n1 n2 n3 n4 c0 c1 c2 c3 c4 : Nat) (sq : Int) (W : World) : Prop where
  b : Bx14 w S A0 A1 A2 A3 A4 n0 n1 n2 n3 n4 c0 c1 c2 c3 c4 sq W
  s : SA14 w S A0 A1 A2 A3 A4 n0 n1 n2 n3 n4 c0 c1 c2 c3 c4 sq
theorem By16.step {w : World} {S : Sv14} {A0 A1 A2 A3 A4 : Option Addr} {n0 n1 n2 n3 n4 c0 c1 c2 c3 c4 : Nat} {sq : Int} {W W' : World} (h : By16 w S A0 A1 A2 A3 A4 n0 n1 n2 n3 n4 c0 c1 c2 c3 c4 sq W) (hb : Below W.heap.size W W') : By16 w S A0 A1 A2 A3 A4 n0 n1 n2 n3 n4 c0 c1 c2 c3 c4 sq W' := ⟨h.b.step hb, h.s⟩
theorem By16.low {w : World} {S : Sv14} {A0 A1 A2 A3 A4 : Option Addr} {n0 n1 n2 n3 n4 c0 c1 c2 c3 c4 : Nat} {sq : Int} {W W' : World} (h : By16 w S A0 A1 A2 A3 A4 n0 n1 n2 n3 n4 c0 c1 c2 c3 c4 sq W) (hb : Below (w.heap.size + 1) W W') : By16 w S A0 A1 A2 A3 A4 n0 n1 n2 n3 n4 c0 c1 c2 c3 c4 sq W' :=
  ⟨⟨h.b.b.trans (hb.mono (by omega)), h.b.x.below hb (by omega), h.s.step (h.b.b.trans (hb.mono (by omega)))⟩, h.s⟩
set_option maxHeartbeats 4000000 in
theorem end16 (v : Value) (S : Sv14) (i : Int) (l : List Nat) (w : World) (h : St14 w v S) (hf : Fine14 S) (hl : Tl16 S i l) :
    Calls Try.prog 41 #[v, .int .i64 i] w fun e w' => e = .returned (.int .i64 (en16 l)) ∧ Below w.heap.size w w' := by
  obtain ⟨A0, A1, A2, A3, A4, n0, n1, n2, n3, n4, c0, c1, c2, c3, c4, sq, rfl, hs⟩ := h
  have hx0 := Bx14.new hs
  have hxn := hx0.step (Below.refl _ _).drew
  obtain ⟨W1, hW1⟩ : ∃ W, w.alloc (.cells #[.slice A0 n0 c0, .slice A1 n1 c1, .slice A2 n2 c2, .slice A3 n3 c3, .slice A4 n4 c4, .int .i64 sq] 28) = W := ⟨_, rfl⟩
  rw [hW1] at hx0 hxn
  have HX0 := Lib.hid hx0
  have p0 := hx0.x.cell 0
  have p1 := hx0.x.cell 1
  have p2 := hx0.x.cell 2
  have p3 := hx0.x.cell 3
  have p4 := hx0.x.cell 4
  have p5 := hx0.x.cell 5
  have HLN : Hid (l.length ≤ 1000000) := Lib.hid (by have := hl.len hf; have := hs.l2; have := hs.m2; omega)
  have HT := Lib.hid (fun W h => tail16 (.agg #[.slice A0 n0 c0, .slice A1 n1 c1, .slice A2 n2 c2, .slice A3 n3 c3, .slice A4 n4 c4, .int .i64 sq]) S i l W h hf hl)
  clear hs hx0 hxn hf hl
  go_enter Try.func41, Try.ntmps41
  go_wp2_with fail
  refine (HT.out _ HX0.out.st).mono ?_
  rintro e u1 ⟨A, c, rfl, hr, hb1⟩
  have HB1 := Lib.hid (HX0.out.b.trans (hb1.mono HX0.out.b.size))
  clear hb1 HT HX0 p0 p1 p2 p3 p4 p5 hW1
  by_cases hl0 : l = []
  · subst hl0
    have HE : Hid (en16 [] = -1) := Lib.hid rfl
    clear hr
    go_wp2_with fail
    go_ret
    exact ⟨by rw [HE.out]; rfl, HB1.out⟩
  · obtain ⟨d, hd⟩ : ∃ d, l.length = d + 1 := ⟨l.length - 1, by have := List.length_pos_iff.2 hl0; omega⟩
    obtain ⟨a, of, hA, hab, hq⟩ := hr.at_ (show d < l.length by omega)
    subst hA
    have HE : Hid (en16 l = ((nth l d : Nat) : Int)) := Lib.hid (by rw [en16, if_neg hl0, lst16, hd]; rfl)
    have hnz : (((d + 1 : Nat) : Int) == 0) = false := by simp; omega
    have hdm : d + 1 ≤ 1000000 := by have := HLN.out; omega
    rw [hd]
    clear hr hab hd hl0
    have i0 : (0 : Int) ≤ (d : Int) := by omega
    have i1 : (d : Int) < ((d + 1 : Nat) : Int) := by omega
    have hsb : ((d + 1 : Nat) : Int) - 1 = (d : Int) := by omega
    go_wp2_with fail
    go_ret
    exact ⟨by rw [HE.out]; rfl, HB1.out⟩
set_option maxHeartbeats 8000000 in
theorem lives16 (v : Value) (S : Sv14) (i : Int) (l : List Nat) (w : World) (h : St14 w v S) (hf : Fine14 S) (hl : Tl16 S i l) :
    Calls Try.prog 29 #[v, .int .i64 i] w fun e w' => e = .returned (.bool (lv16 S (en16 l))) ∧ Below w.heap.size w w' := by
  obtain ⟨A0, A1, A2, A3, A4, n0, n1, n2, n3, n4, c0, c1, c2, c3, c4, sq, rfl, hs⟩ := h
  have hx0 : By16 w S A0 A1 A2 A3 A4 n0 n1 n2 n3 n4 c0 c1 c2 c3 c4 sq _ := ⟨Bx14.new hs, hs⟩
  have hxn := hx0.step (Below.refl _ _).drew
  obtain ⟨W1, hW1⟩ : ∃ W, w.alloc (.cells #[.slice A0 n0 c0, .slice A1 n1 c1, .slice A2 n2 c2, .slice A3 n3 c3, .slice A4 n4 c4, .int .i64 sq] 28) = W := ⟨_, rfl⟩
  rw [hW1] at hx0 hxn
  obtain ⟨x, hx⟩ : ∃ x, at14 usH S.H (en16 l) = x := ⟨_, rfl⟩
  obtain ⟨xz, xf, xc, xq, xu⟩ := x
  obtain ⟨b, hb⟩ : ∃ b, us14 usH S.H (en16 l) = b := ⟨_, rfl⟩
  have HLV : Hid (lv16 S (en16 l) = ((xz == 2) || (xz == 3))) := Lib.hid (by rw [lv16, hx])
  have HE := Lib.hid (fun W h => end16 (.agg #[.slice A0 n0 c0, .slice A1 n1 c1, .slice A2 n2 c2, .slice A3 n3 c3, .slice A4 n4 c4, .int .i64 sq]) S i l W h hf hl)
  have HT := Lib.hid (fun W h => thread14 (.agg #[.slice A0 n0 c0, .slice A1 n1 c1, .slice A2 n2 c2, .slice A3 n3 c3, .slice A4 n4 c4, .int .i64 sq]) S (en16 l) xz xf xc xq xu b W h hb hx)
  have HXN := Lib.hid hxn
  clear hs hx0 hxn hf hl hx hb
  go_enter Try.func29, Try.ntmps29
  obtain ⟨wn, hwn⟩ : ∃ W, W1.drew = W := ⟨_, rfl⟩
  rw [hwn] at HXN
  go_wp2_with fail
  refine wp_region_held_drew (S := By16 w S A0 A1 A2 A3 A4 n0 n1 n2 n3 n4 c0 c1 c2 c3 c4 sq) (by kernel_rfl) (by rw [hwn]; exact HXN.out) (fun hHeld => ?_)
  rw [hwn] at hHeld ⊢
  clear hwn
  have HBS := HXN
  refine tk 0 (v := ?_) (fun W hS => ?_) ?_
  rotate_left
  · try dsimp only at hS
    have z0 := hS.b.x.cell 0
    have z1 := hS.b.x.cell 1
    have z2 := hS.b.x.cell 2
    have z3 := hS.b.x.cell 3
    have z4 := hS.b.x.cell 4
    have z5 := hS.b.x.cell 5
    go_simp
    try with_reducible rfl
  (try dsimp only [Act.put]); try simp only [pt1, pt2, pt3]
  refine tk 1 (v := ?_) (fun W hS => ?_) ?_
  rotate_left
  · try dsimp only at hS
    have z0 := hS.b.x.cell 0
    have z1 := hS.b.x.cell 1
    have z2 := hS.b.x.cell 2
    have z3 := hS.b.x.cell 3
    have z4 := hS.b.x.cell 4
    have z5 := hS.b.x.cell 5
    go_simp
    try with_reducible rfl
  (try dsimp only [Act.put]); try simp only [pt1, pt2, pt3]
  refine tk 2 (v := ?_) (fun W hS => ?_) ?_
  rotate_left
  · (go_simp; try with_reducible rfl)
  (try dsimp only [Act.put]); try simp only [pt1, pt2, pt3]
  refine wpAnyH_ready (rs := [3, 8]) (by kernel_rfl) (by simp) (AllReadyH.cons (op_of rfl) (fun K hK => ?_) (AllReadyH.cons (op_of rfl) (fun K hK => ?_) AllReadyH.nil))
  · skip
    have HBS0 := HBS
    go_simp
    refine (HE.out _ HBS0.out.b.st).mono ?_
    rintro e wo ⟨rfl, hb⟩
    have HBS := Lib.hid (HBS0.out.step hb)
    clear hb HBS0
    obtain ⟨wn, hwn⟩ : ∃ W, W = wo := ⟨_, rfl⟩
    subst hwn
    refine hK.out _ _ HBS.out (fun hHeld => ?_)
    clear hK K
    (try dsimp only [Act.put]); try simp only [pt1, pt2, pt3]
    refine wpAnyH_ready (rs := [4, 8]) (by kernel_rfl) (by simp) (AllReadyH.cons (op_of rfl) (fun K hK => ?_) (AllReadyH.cons (op_of rfl) (fun K hK => ?_) AllReadyH.nil))
    · skip
      have HBS0 := HBS
      go_simp
      refine (HT.out _ HBS0.out.b.st).mono ?_
      rintro e wo ⟨rfl, hb⟩
      have HBS := Lib.hid (HBS0.out.step hb)
      clear hb HBS0
      obtain ⟨wn, hwn⟩ : ∃ W, W = wo := ⟨_, rfl⟩
      subst hwn
      refine hK.out _ _ HBS.out (fun hHeld => ?_)
      clear hK K
      (try dsimp only [Act.put]); try simp only [pt1, pt2, pt3]
      refine tk 5 (v := ?_) (fun W hS => ?_) ?_
      rotate_left
      · (go_simp; try with_reducible rfl)
      (try dsimp only [Act.put]); try simp only [pt1, pt2, pt3]
      refine tk 6 (v := ?_) (fun W hS => ?_) ?_
      rotate_left
      · (go_simp; try with_reducible rfl)
      (try dsimp only [Act.put]); try simp only [pt1, pt2, pt3]
      refine tk 7 (v := ?_) (fun W hS => ?_) ?_
      rotate_left
      · (go_simp; try with_reducible rfl)
      (try dsimp only [Act.put]); try simp only [pt1, pt2, pt3]
      refine rdy 8 (fun K hK => ?_)
      have HBS0 := HBS
      go_simp
      have HBS := Lib.hid (HBS0.out.step (b1' wn (.cells #[.int .i64 0, .int .i64 0, .int .i64 0, .int .i64 0, .int .i64 0] 43)))
      have HK0 := Lib.hid (Blk.new wn 43 #[.int .i64 0, .int .i64 0, .int .i64 0, .int .i64 0, .int .i64 0])
      have hgl : w.heap.size < wn.heap.size := HBS0.out.b.x.lt
      obtain ⟨g, hg⟩ : ∃ g, wn.heap.size = g := ⟨_, rfl⟩
      obtain ⟨wm, hwm⟩ : ∃ W, wn.alloc (.cells #[.int .i64 0, .int .i64 0, .int .i64 0, .int .i64 0, .int .i64 0] 43) = W := ⟨_, rfl⟩
      rw [hg] at HK0 hgl
      rw [hwm] at HBS HK0
      rw [hg, hwm]
      clear hg hwm HBS0
      obtain ⟨wn, hwn⟩ : ∃ W, W = wm := ⟨_, rfl⟩
      subst hwn
      refine hK.out _ _ HBS.out (fun hHeld => ?_)
      clear hK K
      (try dsimp only [Act.put]); try simp only [pt1, pt2, pt3]
      refine rdy 9 (fun K hK => ?_)
      have k0 := HK0.out.cell 0
      have k1 := HK0.out.cell 1
      have k2 := HK0.out.cell 2
      have k3 := HK0.out.cell 3
      have k4 := HK0.out.cell 4
      have f0 := HK0.out.frozen 0
      have f1 := HK0.out.frozen 1
      have f2 := HK0.out.frozen 2
      have f3 := HK0.out.frozen 3
      have f4 := HK0.out.frozen 4
      go_simp
      obtain ⟨wm, hwm⟩ : ∃ W, ((((wn.setCell ⟨g, 0, none⟩ (.int .i64 xz)).setCell ⟨g, 1, none⟩ (.int .i64 xf)).setCell ⟨g, 2, none⟩ (.int .i64 xc)).setCell ⟨g, 3, none⟩ (.int .i64 xq)).setCell ⟨g, 4, none⟩ (.int .i64 xu) = W := ⟨_, rfl⟩
      have hk2 : Blk wm g 43 #[.int .i64 xz, .int .i64 xf, .int .i64 xc, .int .i64 xq, .int .i64 xu] := by
        rw [← hwm]
        have h := ((((HK0.out.set_ 0 (.int .i64 xz)).set_ 1 (.int .i64 xf)).set_ 2 (.int .i64 xc)).set_ 3 (.int .i64 xq)).set_ 4 (.int .i64 xu)
        simpa using h
      have hl5 : Below (w.heap.size + 1) wn wm := by
        rw [← hwm]
        exact (((((Below.refl _ _).setCell (p := ⟨g, 0, none⟩) hgl _).setCell (p := ⟨g, 1, none⟩) hgl _).setCell (p := ⟨g, 2, none⟩) hgl _).setCell (p := ⟨g, 3, none⟩) hgl _).setCell (p := ⟨g, 4, none⟩) hgl _
      rw [hwm]
      have HBS0 := HBS
      have HBS := Lib.hid (HBS0.out.low hl5)
      have HK1 := Lib.hid hk2
      clear hwm hk2 hl5 HK0 HBS0 k0 f0 k1 f1 k2 f2 k3 f3 k4 f4
      obtain ⟨wn, hwn⟩ : ∃ W, W = wm := ⟨_, rfl⟩
      subst hwn
      refine hK.out _ _ HBS.out (fun hHeld => ?_)
      clear hK K
      (try dsimp only [Act.put]); try simp only [pt1, pt2, pt3]
      refine rdy 10 (fun K hK => ?_)
      go_simp
      refine hK.out _ _ HBS.out (fun hHeld => ?_)
      clear hK K
      (try dsimp only [Act.put]); try simp only [pt1, pt2, pt3]
      refine wpAnyH_done (by kernel_rfl) ?_ _
      clear hHeld
      have c0 := HK1.out.cell 0
      have HB := Lib.hid HBS.out.b.b
      clear HK1 HBS HXN
      by_cases z2 : xz = 2
      · subst z2
        have HE : Hid (lv16 S (en16 l) = true) := Lib.hid (by rw [HLV.out]; rfl)
        go_wp2_with fail
        go_ret
        exact ⟨by rw [HE.out]; rfl, HB.out⟩
      · have hz2 : (xz == 2) = false := by simp [z2]
        have HE : Hid (lv16 S (en16 l) = (xz == 3)) := Lib.hid (by rw [HLV.out, hz2]; rfl)
        go_wp2_with fail
        go_ret
        exact ⟨by rw [HE.out]; rfl, HB.out⟩
    · skip
      have HBS0 := HBS
      go_simp
      have HBS := Lib.hid (HBS0.out.step (b1' wn (.cells #[.int .i64 0, .int .i64 0, .int .i64 0, .int .i64 0, .int .i64 0] 43)))
      have HK0 := Lib.hid (Blk.new wn 43 #[.int .i64 0, .int .i64 0, .int .i64 0, .int .i64 0, .int .i64 0])
      have hgl : w.heap.size < wn.heap.size := HBS0.out.b.x.lt
      obtain ⟨g, hg⟩ : ∃ g, wn.heap.size = g := ⟨_, rfl⟩
      obtain ⟨wm, hwm⟩ : ∃ W, wn.alloc (.cells #[.int .i64 0, .int .i64 0, .int .i64 0, .int .i64 0, .int .i64 0] 43) = W := ⟨_, rfl⟩
      rw [hg] at HK0 hgl
      rw [hwm] at HBS HK0
      rw [hg, hwm]
      clear hg hwm HBS0
      obtain ⟨wn, hwn⟩ : ∃ W, W = wm := ⟨_, rfl⟩
      subst hwn
      refine hK.out _ _ HBS.out (fun hHeld => ?_)
      clear hK K
      (try dsimp only [Act.put]); try simp only [pt1, pt2, pt3]
      refine rdy 4 (fun K hK => ?_)
      have HBS0 := HBS
      go_simp
      refine (HT.out _ HBS0.out.b.st).mono ?_
      rintro e wo ⟨rfl, hb⟩
      have HBS := Lib.hid (HBS0.out.step hb)
      have HK0 := Lib.hid (HK0.out.below hb HK0.out.lt)
      clear hb HBS0
      obtain ⟨wn, hwn⟩ : ∃ W, W = wo := ⟨_, rfl⟩
      subst hwn
      refine hK.out _ _ HBS.out (fun hHeld => ?_)
      clear hK K
      (try dsimp only [Act.put]); try simp only [pt1, pt2, pt3]
      refine tk 5 (v := ?_) (fun W hS => ?_) ?_
      rotate_left
      · (go_simp; try with_reducible rfl)
      (try dsimp only [Act.put]); try simp only [pt1, pt2, pt3]
      refine tk 6 (v := ?_) (fun W hS => ?_) ?_
      rotate_left
      · (go_simp; try with_reducible rfl)
      (try dsimp only [Act.put]); try simp only [pt1, pt2, pt3]
      refine tk 7 (v := ?_) (fun W hS => ?_) ?_
      rotate_left
      · (go_simp; try with_reducible rfl)
      (try dsimp only [Act.put]); try simp only [pt1, pt2, pt3]
      refine rdy 9 (fun K hK => ?_)
      have k0 := HK0.out.cell 0
      have k1 := HK0.out.cell 1
      have k2 := HK0.out.cell 2
      have k3 := HK0.out.cell 3
      have k4 := HK0.out.cell 4
      have f0 := HK0.out.frozen 0
      have f1 := HK0.out.frozen 1
      have f2 := HK0.out.frozen 2
      have f3 := HK0.out.frozen 3
      have f4 := HK0.out.frozen 4
      go_simp
      obtain ⟨wm, hwm⟩ : ∃ W, ((((wn.setCell ⟨g, 0, none⟩ (.int .i64 xz)).setCell ⟨g, 1, none⟩ (.int .i64 xf)).setCell ⟨g, 2, none⟩ (.int .i64 xc)).setCell ⟨g, 3, none⟩ (.int .i64 xq)).setCell ⟨g, 4, none⟩ (.int .i64 xu) = W := ⟨_, rfl⟩
      have hk2 : Blk wm g 43 #[.int .i64 xz, .int .i64 xf, .int .i64 xc, .int .i64 xq, .int .i64 xu] := by
        rw [← hwm]
        have h := ((((HK0.out.set_ 0 (.int .i64 xz)).set_ 1 (.int .i64 xf)).set_ 2 (.int .i64 xc)).set_ 3 (.int .i64 xq)).set_ 4 (.int .i64 xu)
        simpa using h
      have hl5 : Below (w.heap.size + 1) wn wm := by
        rw [← hwm]
        exact (((((Below.refl _ _).setCell (p := ⟨g, 0, none⟩) hgl _).setCell (p := ⟨g, 1, none⟩) hgl _).setCell (p := ⟨g, 2, none⟩) hgl _).setCell (p := ⟨g, 3, none⟩) hgl _).setCell (p := ⟨g, 4, none⟩) hgl _
      rw [hwm]
      have HBS0 := HBS
      have HBS := Lib.hid (HBS0.out.low hl5)
      have HK1 := Lib.hid hk2
      clear hwm hk2 hl5 HK0 HBS0 k0 f0 k1 f1 k2 f2 k3 f3 k4 f4
      obtain ⟨wn, hwn⟩ : ∃ W, W = wm := ⟨_, rfl⟩
      subst hwn
      refine hK.out _ _ HBS.out (fun hHeld => ?_)
      clear hK K
      (try dsimp only [Act.put]); try simp only [pt1, pt2, pt3]
      refine rdy 10 (fun K hK => ?_)
      go_simp
      refine hK.out _ _ HBS.out (fun hHeld => ?_)
      clear hK K
      (try dsimp only [Act.put]); try simp only [pt1, pt2, pt3]
      refine wpAnyH_done (by kernel_rfl) ?_ _
      clear hHeld
      have c0 := HK1.out.cell 0
      have HB := Lib.hid HBS.out.b.b
      clear HK1 HBS HXN
      by_cases z2 : xz = 2
      · subst z2
        have HE : Hid (lv16 S (en16 l) = true) := Lib.hid (by rw [HLV.out]; rfl)
        go_wp2_with fail
        go_ret
        exact ⟨by rw [HE.out]; rfl, HB.out⟩
      · have hz2 : (xz == 2) = false := by simp [z2]
        have HE : Hid (lv16 S (en16 l) = (xz == 3)) := Lib.hid (by rw [HLV.out, hz2]; rfl)
        go_wp2_with fail
        go_ret
        exact ⟨by rw [HE.out]; rfl, HB.out⟩
  · skip
    have HBS0 := HBS
    go_simp
    have HBS := Lib.hid (HBS0.out.step (b1' wn (.cells #[.int .i64 0, .int .i64 0, .int .i64 0, .int .i64 0, .int .i64 0] 43)))
    have HK0 := Lib.hid (Blk.new wn 43 #[.int .i64 0, .int .i64 0, .int .i64 0, .int .i64 0, .int .i64 0])
    have hgl : w.heap.size < wn.heap.size := HBS0.out.b.x.lt
    obtain ⟨g, hg⟩ : ∃ g, wn.heap.size = g := ⟨_, rfl⟩
    obtain ⟨wm, hwm⟩ : ∃ W, wn.alloc (.cells #[.int .i64 0, .int .i64 0, .int .i64 0, .int .i64 0, .int .i64 0] 43) = W := ⟨_, rfl⟩
    rw [hg] at HK0 hgl
    rw [hwm] at HBS HK0
    rw [hg, hwm]
    clear hg hwm HBS0
    obtain ⟨wn, hwn⟩ : ∃ W, W = wm := ⟨_, rfl⟩
    subst hwn
    refine hK.out _ _ HBS.out (fun hHeld => ?_)
    clear hK K
    (try dsimp only [Act.put]); try simp only [pt1, pt2, pt3]
    refine rdy 3 (fun K hK => ?_)
    have HBS0 := HBS
    go_simp
    refine (HE.out _ HBS0.out.b.st).mono ?_
    rintro e wo ⟨rfl, hb⟩
    have HBS := Lib.hid (HBS0.out.step hb)
    have HK0 := Lib.hid (HK0.out.below hb HK0.out.lt)
    clear hb HBS0
    obtain ⟨wn, hwn⟩ : ∃ W, W = wo := ⟨_, rfl⟩
    subst hwn
    refine hK.out _ _ HBS.out (fun hHeld => ?_)
    clear hK K
    (try dsimp only [Act.put]); try simp only [pt1, pt2, pt3]
    refine rdy 4 (fun K hK => ?_)
    have HBS0 := HBS
    go_simp
    refine (HT.out _ HBS0.out.b.st).mono ?_
    rintro e wo ⟨rfl, hb⟩
    have HBS := Lib.hid (HBS0.out.step hb)
    have HK0 := Lib.hid (HK0.out.below hb HK0.out.lt)
    clear hb HBS0
    obtain ⟨wn, hwn⟩ : ∃ W, W = wo := ⟨_, rfl⟩
    subst hwn
    refine hK.out _ _ HBS.out (fun hHeld => ?_)
    clear hK K
    (try dsimp only [Act.put]); try simp only [pt1, pt2, pt3]
    refine tk 5 (v := ?_) (fun W hS => ?_) ?_
    rotate_left
    · (go_simp; try with_reducible rfl)
    (try dsimp only [Act.put]); try simp only [pt1, pt2, pt3]
    refine tk 6 (v := ?_) (fun W hS => ?_) ?_
    rotate_left
    · (go_simp; try with_reducible rfl)
    (try dsimp only [Act.put]); try simp only [pt1, pt2, pt3]
    refine tk 7 (v := ?_) (fun W hS => ?_) ?_
    rotate_left
    · (go_simp; try with_reducible rfl)
    (try dsimp only [Act.put]); try simp only [pt1, pt2, pt3]
    refine rdy 9 (fun K hK => ?_)
    have k0 := HK0.out.cell 0
    have k1 := HK0.out.cell 1
    have k2 := HK0.out.cell 2
    have k3 := HK0.out.cell 3
    have k4 := HK0.out.cell 4
    have f0 := HK0.out.frozen 0
    have f1 := HK0.out.frozen 1
    have f2 := HK0.out.frozen 2
    have f3 := HK0.out.frozen 3
    have f4 := HK0.out.frozen 4
    go_simp
    obtain ⟨wm, hwm⟩ : ∃ W, ((((wn.setCell ⟨g, 0, none⟩ (.int .i64 xz)).setCell ⟨g, 1, none⟩ (.int .i64 xf)).setCell ⟨g, 2, none⟩ (.int .i64 xc)).setCell ⟨g, 3, none⟩ (.int .i64 xq)).setCell ⟨g, 4, none⟩ (.int .i64 xu) = W := ⟨_, rfl⟩
    have hk2 : Blk wm g 43 #[.int .i64 xz, .int .i64 xf, .int .i64 xc, .int .i64 xq, .int .i64 xu] := by
      rw [← hwm]
      have h := ((((HK0.out.set_ 0 (.int .i64 xz)).set_ 1 (.int .i64 xf)).set_ 2 (.int .i64 xc)).set_ 3 (.int .i64 xq)).set_ 4 (.int .i64 xu)
      simpa using h
    have hl5 : Below (w.heap.size + 1) wn wm := by
      rw [← hwm]
      exact (((((Below.refl _ _).setCell (p := ⟨g, 0, none⟩) hgl _).setCell (p := ⟨g, 1, none⟩) hgl _).setCell (p := ⟨g, 2, none⟩) hgl _).setCell (p := ⟨g, 3, none⟩) hgl _).setCell (p := ⟨g, 4, none⟩) hgl _
    rw [hwm]
    have HBS0 := HBS
    have HBS := Lib.hid (HBS0.out.low hl5)
    have HK1 := Lib.hid hk2
    clear hwm hk2 hl5 HK0 HBS0 k0 f0 k1 f1 k2 f2 k3 f3 k4 f4
    obtain ⟨wn, hwn⟩ : ∃ W, W = wm := ⟨_, rfl⟩
    subst hwn
    refine hK.out _ _ HBS.out (fun hHeld => ?_)
    clear hK K
    (try dsimp only [Act.put]); try simp only [pt1, pt2, pt3]
    refine rdy 10 (fun K hK => ?_)
    go_simp
    refine hK.out _ _ HBS.out (fun hHeld => ?_)
    clear hK K
    (try dsimp only [Act.put]); try simp only [pt1, pt2, pt3]
    refine wpAnyH_done (by kernel_rfl) ?_ _
    clear hHeld
    have c0 := HK1.out.cell 0
    have HB := Lib.hid HBS.out.b.b
    clear HK1 HBS HXN
    by_cases z2 : xz = 2
    · subst z2
      have HE : Hid (lv16 S (en16 l) = true) := Lib.hid (by rw [HLV.out]; rfl)
      go_wp2_with fail
      go_ret
      exact ⟨by rw [HE.out]; rfl, HB.out⟩
    · have hz2 : (xz == 2) = false := by simp [z2]
      have HE : Hid (lv16 S (en16 l) = (xz == 3)) := Lib.hid (by rw [HLV.out, hz2]; rfl)
      go_wp2_with fail
      go_ret
      exact ⟨by rw [HE.out]; rfl, HB.out⟩
end Go.Proofs.Ytllcmjdfgbiijaa
namespace Go.Proofs.Ytllcmjdfgbiijaa
open Go.RowKit
set_option maxRecDepth 100000
theorem lives17 (v : Value) (S : Sv14) (i : Int) (w : World) (h : St14 w v S) (hf : Fine14 S) :
    Calls Try.prog 29 #[v, .int .i64 i] w fun e w' => e = .returned (.bool (livb17 S i)) ∧ Below w.heap.size w w' := by
  obtain ⟨l, hl⟩ := tl16_ex hf i
  rw [← lv17_of hf hl]
  exact lives16 v S i l w h hf hl
set_option maxHeartbeats 2000000 in
theorem awake17 (A1 : Option Addr) (m c1 g2 n c2 : Nat) (Am : Nat → Nat) (t : Int) (w : World) (hr : Ib13 w g2 n Am) (b : Bool) (hb : aw17 n Am t = b) :
    Calls Try.prog 31 #[.agg #[.slice A1 m c1, .slice (some ⟨g2, 0, none⟩) n c2], .int .i64 t] w fun e w' => e = .returned (.bool b) ∧ Below w.heap.size w w' := by
  have hk := Blk.new w 45 #[.slice A1 m c1, .slice (some ⟨g2, 0, none⟩) n c2]
  have hb1 := b1' w (.cells #[.slice A1 m c1, .slice (some ⟨g2, 0, none⟩) n c2] 45)
  have x1 := hk.cell 1
  by_cases h0 : 0 ≤ t
  · by_cases h1 : t < (n : Int)
    · obtain ⟨k, rfl⟩ : ∃ k : Nat, t = (k : Int) := ⟨t.toNat, by omega⟩
      rw [aw17_in (by omega)] at hb
      have q0 := ((hr.below hb1 hr.lt).cells (show k < n by omega)).1
      obtain ⟨z, hz⟩ : ∃ z, Am k = z := ⟨_, rfl⟩
      rw [hz] at q0 hb
      obtain ⟨W1, hW1⟩ : ∃ W, w.alloc (.cells #[.slice A1 m c1, .slice (some ⟨g2, 0, none⟩) n c2] 45) = W := ⟨_, rfl⟩
      rw [hW1] at hb1 x1 q0
      have HB1 := Lib.hid hb1
      clear hr hz hk hb1
      by_cases hz0 : 0 < z
      · obtain rfl : b = true := by rw [← hb]; simp [hz0]
        have z1 : (0 : Int) < (z : Int) := by omega
        have HZ := Lib.hid hz0
        clear hb
        go_enter Try.func31, Try.ntmps31
        go_wp2_with fail
        go_ret
        exact ⟨by simp [HZ.out], HB1.out⟩
      · obtain rfl : b = false := by rw [← hb]; simp [hz0]
        obtain rfl : z = 0 := by omega
        clear hb hz0
        go_enter Try.func31, Try.ntmps31
        go_wp2_with fail
        go_ret
        exact ⟨rfl, HB1.out⟩
    · obtain rfl : false = b := by rw [← hb, aw17_out (fun h => h1 h.2)]
      have HB1 := Lib.hid hb1
      clear hr hb hk hb1
      go_enter Try.func31, Try.ntmps31
      go_wp2_with fail
      go_ret
      exact ⟨rfl, HB1.out⟩
  · obtain rfl : false = b := by rw [← hb, aw17_out (fun h => h0 h.1)]
    have HB1 := Lib.hid hb1
    clear hr hb hk hb1 x1
    go_enter Try.func31, Try.ntmps31
    go_wp2_with fail
    go_ret
    exact ⟨rfl, HB1.out⟩
set_option maxHeartbeats 4000000 in
theorem lets17 (S : Sv14) (A0 A1 A2 A3 A4 : Option Addr) (n0 n1 n2 n3 n4 c0 c1 c2 c3 c4 : Nat) (sq : Int) (B1 : Option Addr) (m d1 g2 n d2 : Nat) (Am : Nat → Nat) (xu : Bool) (xc xa xk xt : Int) (xo : Bool) (w : World) (hs : SA14 w S A0 A1 A2 A3 A4 n0 n1 n2 n3 n4 c0 c1 c2 c3 c4 sq) (hf : Fine14 S) (hr : Ib13 w g2 n Am) :
    Calls Try.prog 50 #[.agg #[.slice B1 m d1, .slice (some ⟨g2, 0, none⟩) n d2], (.agg #[.slice A0 n0 c0, .slice A1 n1 c1, .slice A2 n2 c2, .slice A3 n3 c3, .slice A4 n4 c4, .int .i64 sq]), .agg #[.bool xu, .int .i64 xc, .int .i64 xa, .int .i64 xk, .int .i64 xt, .bool xo]] w fun e w' => e = .returned (.bool (lts17 S n Am xk xt)) ∧ Below w.heap.size w w' := by
  have hb1 := b1' w (.cells #[.slice B1 m d1, .slice (some ⟨g2, 0, none⟩) n d2] 45)
  have hk1 := Blk.new w 45 #[.slice B1 m d1, .slice (some ⟨g2, 0, none⟩) n d2]
  have hz1 : (w.alloc (.cells #[.slice B1 m d1, .slice (some ⟨g2, 0, none⟩) n d2] 45)).heap.size = w.heap.size + 1 := by simp
  obtain ⟨wa, hwa⟩ : ∃ W, w.alloc (.cells #[.slice B1 m d1, .slice (some ⟨g2, 0, none⟩) n d2] 45) = W := ⟨_, rfl⟩
  rw [hwa] at hb1 hk1 hz1
  have hb2 := b1' wa (.cells #[.slice A0 n0 c0, .slice A1 n1 c1, .slice A2 n2 c2, .slice A3 n3 c3, .slice A4 n4 c4, .int .i64 sq] 28)
  have hk2 := Blk.new wa 28 #[.slice A0 n0 c0, .slice A1 n1 c1, .slice A2 n2 c2, .slice A3 n3 c3, .slice A4 n4 c4, .int .i64 sq]
  have hz2 : (wa.alloc (.cells #[.slice A0 n0 c0, .slice A1 n1 c1, .slice A2 n2 c2, .slice A3 n3 c3, .slice A4 n4 c4, .int .i64 sq] 28)).heap.size = w.heap.size + 2 := by simp [hz1]
  rw [hz1] at hk2
  obtain ⟨wb, hwb⟩ : ∃ W, wa.alloc (.cells #[.slice A0 n0 c0, .slice A1 n1 c1, .slice A2 n2 c2, .slice A3 n3 c3, .slice A4 n4 c4, .int .i64 sq] 28) = W := ⟨_, rfl⟩
  rw [hwb] at hb2 hk2 hz2
  have hb3 := b1' wb (.cells #[.bool xu, .int .i64 xc, .int .i64 xa, .int .i64 xk, .int .i64 xt, .bool xo] 35)
  have hk3 := Blk.new wb 35 #[.bool xu, .int .i64 xc, .int .i64 xa, .int .i64 xk, .int .i64 xt, .bool xo]
  rw [hz2] at hk3
  obtain ⟨wc, hwc⟩ : ∃ W, wb.alloc (.cells #[.bool xu, .int .i64 xc, .int .i64 xa, .int .i64 xk, .int .i64 xt, .bool xo] 35) = W := ⟨_, rfl⟩
  rw [hwc] at hb3 hk3
  have hg2 := hb1.trans (hb2.mono hb1.size)
  have hg := hg2.trans (hb3.mono hg2.size)
  have HB := Lib.hid hg
  have HLV := Lib.hid (lives17 (.agg #[.slice A0 n0 c0, .slice A1 n1 c1, .slice A2 n2 c2, .slice A3 n3 c3, .slice A4 n4 c4, .int .i64 sq]) S xt wc ⟨A0, A1, A2, A3, A4, n0, n1, n2, n3, n4, c0, c1, c2, c3, c4, sq, rfl, hs.step hg⟩ hf)
  have HAW := Lib.hid (awake17 B1 m d1 g2 n d2 Am xt wc (hr.below hg hr.lt) _ rfl)
  have ha := (hk1.below hb2 hk1.lt).below hb3 (by have := hk1.lt; have := hb2.size; omega)
  have hx := hk2.below hb3 hk2.lt
  have y0 := ha.cell 0
  have y1 := ha.cell 1
  have x0 := hx.cell 0
  have x1 := hx.cell 1
  have x2 := hx.cell 2
  have x3 := hx.cell 3
  have x4 := hx.cell 4
  have x5 := hx.cell 5
  have t3 := hk3.cell 3
  have t4 := hk3.cell 4
  clear hb1 hb2 hb3 hk1 hk2 hk3 hg2 hg ha hx hs hr hf
  by_cases k1 : xk = 1
  · have HE : Hid (lts17 S n Am xk xt = livb17 S xt) := Lib.hid (by rw [lts17, if_pos k1])
    rw [HE.out]
    subst k1
    clear HAW y0 y1 HE
    go_enter Try.func50, Try.ntmps50
    go_wp2_with fail
    refine HLV.out.mono ?_
    rintro e w4 ⟨rfl, hb4⟩
    have HB4 := Lib.hid (HB.out.trans (hb4.mono HB.out.size))
    clear HLV hb4
    go_wp2_with fail
    go_ret
    exact ⟨rfl, HB4.out⟩
  · have k1b : (xk == 1) = false := by simp [k1]
    by_cases k2 : xk = 2
    · have HE : Hid (lts17 S n Am xk xt = aw17 n Am xt) := Lib.hid (by rw [lts17, if_neg k1, if_pos k2])
      rw [HE.out]
      subst k2
      clear HLV x0 x1 x2 x3 x4 x5 HE k1 k1b
      go_enter Try.func50, Try.ntmps50
      go_wp2_with fail
      refine HAW.out.mono ?_
      rintro e w4 ⟨rfl, hb4⟩
      have HB4 := Lib.hid (HB.out.trans (hb4.mono HB.out.size))
      clear HAW hb4
      go_wp2_with fail
      go_ret
      exact ⟨rfl, HB4.out⟩
    · have k2b : (xk == 2) = false := by simp [k2]
      have HE : Hid (lts17 S n Am xk xt = false) := Lib.hid (by rw [lts17, if_neg k1, if_neg k2])
      rw [HE.out]
      clear HLV HAW x0 x1 x2 x3 x4 x5 y0 y1 HE k1 k2
      go_enter Try.func50, Try.ntmps50
      go_wp2_with fail
      go_ret
      exact ⟨rfl, HB.out⟩
/-- Between two rounds of add. -/
structure Ad17 (w0 w : World) (S : Sv14) (A0 A1 A2 A3 A4 : Option Addr) (n0 n1 n2 n3 n4 c0 c1 c2 c3 c4 : Nat) (sq : Int) (g1 g2 : Nat) (M : Nat → Bool) (Am : Nat → Nat) (A : Option Addr) (l : List Nat) (W : World) : Prop where
  k : Bk13 w0.heap.size g1 (some g2) w W
  b : Below w0.heap.size w0 W
  x : Blk W (w.heap.size + 1) 28 #[.slice A0 n0 c0, .slice A1 n1 c1, .slice A2 n2 c2, .slice A3 n3 c3, .slice A4 n4 c4, .int .i64 sq]
  y : Blk W w.heap.size 45 #[.slice (some ⟨g1, 0, none⟩) n1 n1, .slice (some ⟨g2, 0, none⟩) n0 n0]
  r1 : Bb13 W g1 n1 M
  r2 : Ib13 W g2 n0 Am
  r : Rd W W.heap.size A l
  f : Fa17 w.heap.size A l
  s : SA14 w0 S A0 A1 A2 A3 A4 n0 n1 n2 n3 n4 c0 c1 c2 c3 c4 sq
  e1 : g1 < w.heap.size
  e2 : g2 < w.heap.size
  f1 : w0.heap.size ≤ g1
  f2 : w0.heap.size ≤ g2
  ne : g1 ≠ g2
theorem Ad17.sa {w0 w : World} {S : Sv14} {A0 A1 A2 A3 A4 : Option Addr} {n0 n1 n2 n3 n4 c0 c1 c2 c3 c4 : Nat} {sq : Int} {g1 g2 : Nat} {M : Nat → Bool} {Am : Nat → Nat} {A : Option Addr} {l : List Nat} {W : World} (h : Ad17 w0 w S A0 A1 A2 A3 A4 n0 n1 n2 n3 n4 c0 c1 c2 c3 c4 sq g1 g2 M Am A l W) : SA14 W S A0 A1 A2 A3 A4 n0 n1 n2 n3 n4 c0 c1 c2 c3 c4 sq := h.s.step h.b
theorem Ad17.step {w0 w : World} {S : Sv14} {A0 A1 A2 A3 A4 : Option Addr} {n0 n1 n2 n3 n4 c0 c1 c2 c3 c4 : Nat} {sq : Int} {g1 g2 : Nat} {M : Nat → Bool} {Am : Nat → Nat} {A : Option Addr} {l : List Nat} {W W' : World} (h : Ad17 w0 w S A0 A1 A2 A3 A4 n0 n1 n2 n3 n4 c0 c1 c2 c3 c4 sq g1 g2 M Am A l W) (hb : Below W.heap.size W W') : Ad17 w0 w S A0 A1 A2 A3 A4 n0 n1 n2 n3 n4 c0 c1 c2 c3 c4 sq g1 g2 M Am A l W' :=
  ⟨bk17_trans h.k (bk17_below h.b.size hb), h.b.trans (hb.mono h.b.size), h.x.below hb h.x.lt, h.y.below hb h.y.lt, h.r1.step hb, h.r2.below hb h.r2.lt, (h.r.below hb (Nat.le_refl _)).more hb.size, h.f, h.s, h.e1, h.e2, h.f1, h.f2, h.ne⟩
theorem Ad17.congr {w0 w : World} {S : Sv14} {A0 A1 A2 A3 A4 : Option Addr} {n0 n1 n2 n3 n4 c0 c1 c2 c3 c4 : Nat} {sq : Int} {g1 g2 : Nat} {M M' : Nat → Bool} {Am Am' : Nat → Nat} {A : Option Addr} {l : List Nat} {W : World} (h : Ad17 w0 w S A0 A1 A2 A3 A4 n0 n1 n2 n3 n4 c0 c1 c2 c3 c4 sq g1 g2 M Am A l W) (e1 : M = M') (e2 : Am = Am') : Ad17 w0 w S A0 A1 A2 A3 A4 n0 n1 n2 n3 n4 c0 c1 c2 c3 c4 sq g1 g2 M' Am' A l W := e1 ▸ e2 ▸ h
theorem rd17_far {L : Nat} {A : Option Addr} {l : List Nat} {W : World} (h : Rd W W.heap.size A l) (hf : Fa17 L A l) {p : Addr} (hp : p.block < L) (u : Value) : Rd (W.setCell p u) (W.setCell p u).heap.size A l := fun hx => by
  obtain ⟨b, o, h1, h2, h3⟩ := h hx
  obtain ⟨b2, o2, h4, h5⟩ := hf hx
  rw [h1] at h4
  injection h4 with h4
  injection h4 with h4
  exact ⟨b, o, h1, by simpa [World.setCell] using h2, fun k hk => (World.cell?_of_block (Below.heap_setCell W p u b (by omega))).trans (h3 k hk)⟩
theorem Ad17.mark {w0 w : World} {S : Sv14} {A0 A1 A2 A3 A4 : Option Addr} {n0 n1 n2 n3 n4 c0 c1 c2 c3 c4 : Nat} {sq : Int} {g1 g2 : Nat} {M : Nat → Bool} {Am : Nat → Nat} {A : Option Addr} {l : List Nat} {W : World} (h : Ad17 w0 w S A0 A1 A2 A3 A4 n0 n1 n2 n3 n4 c0 c1 c2 c3 c4 sq g1 g2 M Am A l W) {j : Nat} (hj : j < n1) (u : Bool) : Ad17 w0 w S A0 A1 A2 A3 A4 n0 n1 n2 n3 n4 c0 c1 c2 c3 c4 sq g1 g2 (upd M j u) Am A l (W.setCell ⟨g1, j, none⟩ (.bool u)) :=
  ⟨bk17_trans h.k (bk17_set (p := ⟨g1, j, none⟩) h.f1 (.inl rfl) _), h.b.setCell h.f1 _, h.x.far (by have := h.e1; simp; omega) _, h.y.far (by have := h.e1; simp; omega) _, h.r1.put hj u, h.r2.far (fun e => h.ne e.symm) _, rd17_far h.r h.f h.e1 _, h.f, h.s, h.e1, h.e2, h.f1, h.f2, h.ne⟩
theorem Ad17.sum {w0 w : World} {S : Sv14} {A0 A1 A2 A3 A4 : Option Addr} {n0 n1 n2 n3 n4 c0 c1 c2 c3 c4 : Nat} {sq : Int} {g1 g2 : Nat} {M : Nat → Bool} {Am : Nat → Nat} {A : Option Addr} {l : List Nat} {W : World} (h : Ad17 w0 w S A0 A1 A2 A3 A4 n0 n1 n2 n3 n4 c0 c1 c2 c3 c4 sq g1 g2 M Am A l W) {c : Nat} (hc : c < n0) (z : Nat) : Ad17 w0 w S A0 A1 A2 A3 A4 n0 n1 n2 n3 n4 c0 c1 c2 c3 c4 sq g1 g2 M (upd Am c z) A l (W.setCell ⟨g2, c, none⟩ (.int .i64 (z : Int))) :=
  ⟨bk17_trans h.k (bk17_set (p := ⟨g2, c, none⟩) h.f2 (.inr rfl) _), h.b.setCell h.f2 _, h.x.far (by have := h.e2; simp; omega) _, h.y.far (by have := h.e2; simp; omega) _, h.r1.far17 h.ne _, h.r2.put hc z, rd17_far h.r h.f h.e2 _, h.f, h.s, h.e1, h.e2, h.f1, h.f2, h.ne⟩
theorem Ad17.row {w0 w : World} {S : Sv14} {A0 A1 A2 A3 A4 : Option Addr} {n0 n1 n2 n3 n4 c0 c1 c2 c3 c4 : Nat} {sq : Int} {g1 g2 : Nat} {M : Nat → Bool} {Am : Nat → Nat} {A B2 : Option Addr} {l l2 : List Nat} {W : World} (h : Ad17 w0 w S A0 A1 A2 A3 A4 n0 n1 n2 n3 n4 c0 c1 c2 c3 c4 sq g1 g2 M Am A l W) (h1 : Rd W W.heap.size B2 l2) (h2 : Fa17 w.heap.size B2 l2) : Ad17 w0 w S A0 A1 A2 A3 A4 n0 n1 n2 n3 n4 c0 c1 c2 c3 c4 sq g1 g2 M Am B2 l2 W :=
  ⟨h.k, h.b, h.x, h.y, h.r1, h.r2, h1, h2, h.s, h.e1, h.e2, h.f1, h.f2, h.ne⟩
theorem upd17_same {f : Nat → Nat} {c z : Nat} (h : f c = z) : upd f c z = f := funext (fun x => by
  by_cases hx : x = c
  · subst hx; rw [upd_at, h]
  · rw [upd_far _ _ hx])
theorem upd17_twice (f : Nat → Nat) (c y z : Nat) : upd (upd f c y) c z = upd f c z := funext (fun x => by
  by_cases hx : x = c
  · subst hx; rw [upd_at, upd_at]
  · rw [upd_far _ _ hx, upd_far _ _ hx, upd_far _ _ hx])
set_option maxHeartbeats 8000000 in
theorem add17 (w0 : World) (S : Sv14) (A0 A1 A2 A3 A4 : Option Addr) (n0 n1 n2 n3 n4 c0 c1 c2 c3 c4 : Nat) (sq : Int) (g1 g2 c : Nat) (M : Nat → Bool) (Am : Nat → Nat) (w : World) (hs : SA14 w0 S A0 A1 A2 A3 A4 n0 n1 n2 n3 n4 c0 c1 c2 c3 c4 sq) (hf : Fine14 S) (hb : Below w0.heap.size w0 w) (hr1 : Bb13 w g1 n1 M) (hr2 : Ib13 w g2 n0 Am) (hf1 : w0.heap.size ≤ g1) (hf2 : w0.heap.size ≤ g2) (hne : g1 ≠ g2)
    (hu : us14 usC S.C (c : Int) = true) (hz : Am c = 0) (hpre : ∀ j, j ∈ isd15 S (c : Int) → ∀ z, cntb17 S j = ((gt14 S.T j).o && lts17 S S.C.length (upd Am c z) (gt14 S.T j).k (gt14 S.T j).t)) :
    Calls Try.prog 39 #[.agg #[.slice (some ⟨g1, 0, none⟩) n1 n1, .slice (some ⟨g2, 0, none⟩) n0 n0], (.agg #[.slice A0 n0 c0, .slice A1 n1 c1, .slice A2 n2 c2, .slice A3 n3 c3, .slice A4 n4 c4, .int .i64 sq]), .int .i64 (c : Int)] w fun e w' => e = .returned (.tuple #[]) ∧ Bk13 w0.heap.size g1 (some g2) w w' ∧ Bb13 w' g1 n1 (adt17 S (isd15 S (c : Int)) M (isd15 S (c : Int)).length) ∧ Ib13 w' g2 n0 (upd Am c (ada17 S (isd15 S (c : Int)) (isd15 S (c : Int)).length)) := by
  have hb1 := b1' w (.cells #[.slice (some ⟨g1, 0, none⟩) n1 n1, .slice (some ⟨g2, 0, none⟩) n0 n0] 45)
  have hk1 := Blk.new w 45 #[.slice (some ⟨g1, 0, none⟩) n1 n1, .slice (some ⟨g2, 0, none⟩) n0 n0]
  have hz1 : (w.alloc (.cells #[.slice (some ⟨g1, 0, none⟩) n1 n1, .slice (some ⟨g2, 0, none⟩) n0 n0] 45)).heap.size = w.heap.size + 1 := by simp
  obtain ⟨wa, hwa⟩ : ∃ W, w.alloc (.cells #[.slice (some ⟨g1, 0, none⟩) n1 n1, .slice (some ⟨g2, 0, none⟩) n0 n0] 45) = W := ⟨_, rfl⟩
  rw [hwa] at hb1 hk1 hz1
  have hb2 := b1' wa (.cells #[.slice A0 n0 c0, .slice A1 n1 c1, .slice A2 n2 c2, .slice A3 n3 c3, .slice A4 n4 c4, .int .i64 sq] 28)
  have hk2 := Blk.new wa 28 #[.slice A0 n0 c0, .slice A1 n1 c1, .slice A2 n2 c2, .slice A3 n3 c3, .slice A4 n4 c4, .int .i64 sq]
  rw [hz1] at hk2
  obtain ⟨wb, hwb⟩ : ∃ W, wa.alloc (.cells #[.slice A0 n0 c0, .slice A1 n1 c1, .slice A2 n2 c2, .slice A3 n3 c3, .slice A4 n4 c4, .int .i64 sq] 28) = W := ⟨_, rfl⟩
  rw [hwb] at hb2 hk2
  have hg := hb1.trans (hb2.mono hb1.size)
  have hk1b := hk1.below hb2 hk1.lt
  obtain ⟨l, hl⟩ : ∃ l, isd15 S (c : Int) = l := ⟨_, rfl⟩
  have hll := isd17_len S (c : Int)
  have HIS := Lib.hid (issued17 (.agg #[.slice A0 n0 c0, .slice A1 n1 c1, .slice A2 n2 c2, .slice A3 n3 c3, .slice A4 n4 c4, .int .i64 sq]) S (c : Int) wb ⟨A0, A1, A2, A3, A4, n0, n1, n2, n3, n4, c0, c1, c2, c3, c4, sq, rfl, hs.step (hb.trans (hg.mono hb.size))⟩)
  rw [hl] at hpre HIS hll ⊢
  have HPR := Lib.hid hpre
  have HMB := Lib.hid (fun j => (isd17_mem hu (j := j)).1)
  rw [hl] at HMB
  have HF := Lib.hid hf
  have HL0 := Lib.hid hs.l0
  have HL1 := Lib.hid hs.l1
  have hm1 := hs.m1
  have hc0 : c < n0 := by have := us15_lt hu; have := hs.l0; omega
  obtain ⟨m, hm⟩ : ∃ m, l.length = m := ⟨_, rfl⟩
  have HM := Lib.hid hm
  have hmn : m ≤ 1000 := by have := hs.l1; omega
  have HADB := Lib.hid (ada17_bound hf.2.2.2.2.1 l)
  have HA0 : Hid (Ad17 w0 w S A0 A1 A2 A3 A4 n0 n1 n2 n3 n4 c0 c1 c2 c3 c4 sq g1 g2 (adt17 S l M 0) (upd Am c (ada17 S l 0)) none [] wb) := Lib.hid
    ⟨bk17_below hb.size hg, hb.trans (hg.mono hb.size), hk2, hk1b, hr1.step hg, by rw [show upd Am c (ada17 S l 0) = Am from upd17_same hz]; exact hr2.below hg hr2.lt, fun h => absurd rfl h, fun h => absurd rfl h, hs, hr1.lt17, hr2.lt, hf1, hf2, hne⟩
  have x0 := hk2.cell 0
  have x1 := hk2.cell 1
  have x2 := hk2.cell 2
  have x3 := hk2.cell 3
  have x4 := hk2.cell 4
  have x5 := hk2.cell 5
  clear hb1 hb2 hk1 hg hk1b hpre hf hs hb hr1 hr2 hf1 hf2 hz hl hm hu hll hne hk2
  go_enter Try.func39, Try.ntmps39
  go_wp2_with fail
  refine HIS.out.mono ?_
  rintro e w3 ⟨A, ca, rfl, hr3, hfa3, hb3⟩
  rw [HM.out]
  have HW3 := Lib.hid ((HA0.out.step hb3).row hr3 (hfa3.more HA0.out.k.size))
  clear HIS hr3 hfa3 hb3 HA0 x0 x1 x2 x3 x4 x5
  go_wp2_with fail
  go_loopw [13] (fun i wr => ∃ k : Nat, i = .int .i64 (k : Int) ∧ k ≤ m ∧ Hid (Ad17 w0 w S A0 A1 A2 A3 A4 n0 n1 n2 n3 n4 c0 c1 c2 c3 c4 sq g1 g2 (adt17 S l M k) (upd Am c (ada17 S l k)) A l wr)) (fun i _ => m - (intOf i).toNat)
  case atStart => exact ⟨0, rfl, by omega, HW3⟩
  case round =>
    clear HW3
    obtain ⟨k, rfl, hk, HW⟩ := hrel
    by_cases hkm : k < m
    · obtain ⟨ga, oa, hA, hab, q0⟩ := HW.out.r.at_ (show k < l.length by rw [HM.out]; exact hkm)
      obtain ⟨j, hj⟩ : ∃ x, nth l k = x := ⟨_, rfl⟩
      rw [hj] at q0
      have hjl : j ∈ l := by rw [← hj, nth_in (by rw [HM.out]; exact hkm)]; exact List.getElem_mem _
      have hjn := (HMB.out j hjl).1
      obtain ⟨gt, ot, hAt, hbt, hq⟩ := Lq.at_ len14T (by omega) HW.out.sa.r1 hjn
      have t1 : wr.cell? ⟨w.heap.size + 1, 1, none⟩ = some (.slice (some ⟨gt, ot, none⟩) n1 c1) := by rw [← hAt]; exact HW.out.x.cell 1
      obtain ⟨x, hx⟩ : ∃ x, gt14 S.T j = x := ⟨_, rfl⟩
      have hpr := HPR.out j hjl (ada17 S l k)
      rw [hx] at hq hpr
      obtain ⟨xu, xc, xa, xk, xt, xo⟩ := x
      have e0 : wr.cell? ⟨gt, ot + j * 6, none⟩ = some (.bool xu) := hq 0 _ rfl
      have e1 : wr.cell? ⟨gt, ot + j * 6 + 1, none⟩ = some (.int .i64 xc) := hq 1 _ rfl
      have e2 : wr.cell? ⟨gt, ot + j * 6 + 2, none⟩ = some (.int .i64 xa) := hq 2 _ rfl
      have e3 : wr.cell? ⟨gt, ot + j * 6 + 3, none⟩ = some (.int .i64 xk) := hq 3 _ rfl
      have e4 : wr.cell? ⟨gt, ot + j * 6 + 4, none⟩ = some (.int .i64 xt) := hq 4 _ rfl
      have e5 : wr.cell? ⟨gt, ot + j * 6 + 5, none⟩ = some (.bool xo) := hq 5 _ rfl
      have i0 : (0 : Int) ≤ (k : Int) := by omega
      have i1 : (k : Int) < (m : Int) := by omega
      have j0 : (0 : Int) ≤ (j : Int) := by omega
      have hj1 : j < n1 := by have := HL1.out; omega
      have j1 : (j : Int) < (n1 : Int) := by omega
      have s0 : (0 : Int) ≤ (c : Int) := by omega
      have s1 : (c : Int) < (n0 : Int) := by omega
      have HNT : Hid (adt17 S l M (k + 1) = if cntb17 S j = true then upd (adt17 S l M k) j true else adt17 S l M k) := Lib.hid (by rw [adt17, hj])
      have HNA : Hid (ada17 S l (k + 1) = ada17 S l k + if cntb17 S j = true then xa.toNat else 0) := Lib.hid (by rw [ada17, hj, hx])
      have HV := Lib.hid (HW.out.step (b1' wr (.cells #[.bool xu, .int .i64 xc, .int .i64 xa, .int .i64 xk, .int .i64 xt, .bool xo] 35)))
      have hv := Blk.new wr 35 #[.bool xu, .int .i64 xc, .int .i64 xa, .int .i64 xk, .int .i64 xt, .bool xo]
      have hvl : w.heap.size + 1 < wr.heap.size := HW.out.x.lt
      obtain ⟨gv, hgv⟩ : ∃ g, wr.heap.size = g := ⟨_, rfl⟩
      obtain ⟨X, hX⟩ : ∃ X, wr.alloc (.cells #[.bool xu, .int .i64 xc, .int .i64 xa, .int .i64 xk, .int .i64 xt, .bool xo] 35) = X := ⟨_, rfl⟩
      rw [hgv] at hv hvl
      rw [hX] at HV hv
      have v0 := hv.cell 0
      have v1 := hv.cell 1
      have v2 := hv.cell 2
      have v3 := hv.cell 3
      have v4 := hv.cell 4
      have v5 := hv.cell 5
      have HVB := Lib.hid hv
      have HXJ := Lib.hid hx
      have HXA : Hid (cntb17 S j = true → 1 ≤ xa ∧ xa ≤ 1048576) := Lib.hid (fun h => by
        have h1 := (cntb17_yes.1 h).lt
        have h2 := HF.out.2.2.2.2.1 j h1.1 h1.2
        rw [hx] at h2
        exact ⟨h2.2.1, h2.2.2.1⟩)
      clear hv hq hx hab hbt hjl hj hAt
      subst hA
      go_upto_region 5 with (fail)
      clear t1 e0 e1 e2 e3 e4 e5 q0 hX
      cases xo with
      | false =>
        have hcf : cntb17 S j = false := by rw [hpr]; rfl
        have HN : Hid (Ad17 w0 w S A0 A1 A2 A3 A4 n0 n1 n2 n3 n4 c0 c1 c2 c3 c4 sq g1 g2 (adt17 S l M (k + 1)) (upd Am c (ada17 S l (k + 1))) (some ⟨ga, oa, none⟩) l X) := Lib.hid (HV.out.congr (by rw [HNT.out, hcf]; rfl) (by rw [HNA.out, hcf]; rfl))
        clear hpr hcf HV HNT HNA HXA
        go_wp2_with fail
        go_roundw
        case rel => exact ⟨k + 1, by go_num, by omega, HN⟩
        case measure => simp [intOf]; omega
      | true =>
        rw [Bool.true_and, show S.C.length = n0 from HL0.out] at hpr
        have HLT := Lib.hid (lets17 S A0 A1 A2 A3 A4 n0 n1 n2 n3 n4 c0 c1 c2 c3 c4 sq (some ⟨g1, 0, none⟩) n1 n1 g2 n0 n0 (upd Am c (ada17 S l k)) xu xc xa xk xt true X HV.out.sa HF.out HV.out.r2)
        have y0 := HV.out.y.cell 0
        have y1 := HV.out.y.cell 1
        have x0 := HV.out.x.cell 0
        have x1 := HV.out.x.cell 1
        have x2 := HV.out.x.cell 2
        have x3 := HV.out.x.cell 3
        have x4 := HV.out.x.cell 4
        have x5 := HV.out.x.cell 5
        rw [← show cntb17 S j = lts17 S n0 (upd Am c (ada17 S l k)) xk xt from hpr] at HLT
        obtain ⟨b, hb⟩ : ∃ b, cntb17 S j = b := ⟨_, rfl⟩
        rw [hb] at HLT HNT HNA HXA
        clear hpr hb
        cases b with
        | false =>
          go_wp2_with fail
          refine HLT.out.mono ?_
          rintro e w4 ⟨rfl, hb4⟩
          have HN : Hid (Ad17 w0 w S A0 A1 A2 A3 A4 n0 n1 n2 n3 n4 c0 c1 c2 c3 c4 sq g1 g2 (adt17 S l M (k + 1)) (upd Am c (ada17 S l (k + 1))) (some ⟨ga, oa, none⟩) l w4) := Lib.hid ((HV.out.step hb4).congr (by rw [HNT.out]; rfl) (by rw [HNA.out]; rfl))
          clear HLT hb4 HV HNT HNA HXA
          go_wp2_with fail
          go_roundw
          case rel => exact ⟨k + 1, by go_num, by omega, HN⟩
          case measure => simp [intOf]; omega
        | true =>
          go_wp2_with fail
          refine HLT.out.mono ?_
          rintro e w4 ⟨rfl, hb4⟩
          have hx1 := HXA.out (by first | rfl | trivial)
          have hsb := HADB.out k
          obtain ⟨z, hz⟩ : ∃ z, ada17 S l k = z := ⟨_, rfl⟩
          have h4 := HV.out.step hb4
          have f1 := (h4.r1.cells hj1).2
          have p1 := (h4.r1.cells hj1).1
          have h5 := h4.mark hj1 true
          have hv5 := (HVB.out.below hb4 HVB.out.lt).far (p := ⟨g1, j, none⟩) (by have := h4.e1; simp; omega) (.bool true)
          have y05 := h4.y.cell 0
          obtain ⟨w5, hw5⟩ : ∃ W, w4.setCell ⟨g1, j, none⟩ (.bool true) = W := ⟨_, rfl⟩
          rw [hw5] at h5 hv5
          rw [hz] at h5 hsb
          have y15 := h5.y.cell 1
          have p2 := (h5.r2.cells hc0).1
          have f2 := (h5.r2.cells hc0).2
          rw [upd_at] at p2
          have v52 := hv5.cell 2
          obtain ⟨z2, hz2⟩ : ∃ z2 : Nat, (z : Int) + xa = (z2 : Int) := ⟨((z : Int) + xa).toNat, by omega⟩
          have HZ2 : Hid (ada17 S l (k + 1) = z2) := Lib.hid (by rw [HNA.out, hz, if_pos (by first | rfl | trivial)]; omega)
          have hwr : IntKind.i64.wrap ((z2 : Nat) : Int) = (z2 : Int) := by rw [IntKind.wrap_i64]; omega
          have h6 := h5.sum hc0 z2
          rw [upd17_twice] at h6
          have HN : Hid (Ad17 w0 w S A0 A1 A2 A3 A4 n0 n1 n2 n3 n4 c0 c1 c2 c3 c4 sq g1 g2 (adt17 S l M (k + 1)) (upd Am c (ada17 S l (k + 1))) (some ⟨ga, oa, none⟩) l (w5.setCell ⟨g2, c, none⟩ (.int .i64 (z2 : Int)))) := Lib.hid (h6.congr (by rw [HNT.out]; rfl) (by rw [HZ2.out]))
          clear HLT hb4 HV HNT HNA HXA h4 h5 h6 hv5 hz HZ2 hx1 hsb HVB
          go_wp2_with fail
          go_region
          go_wp2_with fail
          go_roundw
          case rel => exact ⟨k + 1, by go_num, by omega, Lib.hid (HN.out.step (Below.refl _ _).drew)⟩
          case measure => simp [intOf]; omega
    · obtain rfl : k = m := by omega
      have i1 : ¬ (k : Int) < (k : Int) := by omega
      go_wp2_with fail
      go_end0
      rw [HM.out]
      exact ⟨rfl, HW.out.k, HW.out.r1, HW.out.r2⟩
end Go.Proofs.Ytllcmjdfgbiijaa
