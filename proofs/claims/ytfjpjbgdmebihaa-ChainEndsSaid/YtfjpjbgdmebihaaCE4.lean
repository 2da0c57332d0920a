/-
  SaidChainEnds, part 4 of 8: what the theorem chainEnds_holds reaches.
-/
import Derived.Test.YtfjpjbgdmebihaaCE3
namespace Go.Proofs.Ytfjpjbgdmebihaa
open Go.RowKit
set_option maxRecDepth 100000
/-- Between two steps: a boxed state whose lists stood there before it. -/
structure By16 (w : World) (S : Sv14) (A0 A1 A2 A3 A4 : Option Addr) (n0 n1 n2 n3 n4 c0 c1 c2 c3 c4 : Nat) (sq : Int) (W : World) : Prop where
  b : Bx14 w S A0 A1 A2 A3 A4 n0 n1 n2 n3 n4 c0 c1 c2 c3 c4 sq W
  s : SA14 w S A0 A1 A2 A3 A4 n0 n1 n2 n3 n4 c0 c1 c2 c3 c4 sq
theorem By16.step {w : World} {S : Sv14} {A0 A1 A2 A3 A4 : Option Addr} {n0 n1 n2 n3 n4 c0 c1 c2 c3 c4 : Nat} {sq : Int} {W W' : World} (h : By16 w S A0 A1 A2 A3 A4 n0 n1 n2 n3 n4 c0 c1 c2 c3 c4 sq W) (hb : Below W.heap.size W W') : By16 w S A0 A1 A2 A3 A4 n0 n1 n2 n3 n4 c0 c1 c2 c3 c4 sq W' := ⟨h.b.step hb, h.s⟩
theorem By16.low {w : World} {S : Sv14} {A0 A1 A2 A3 A4 : Option Addr} {n0 n1 n2 n3 n4 c0 c1 c2 c3 c4 : Nat} {sq : Int} {W W' : World} (h : By16 w S A0 A1 A2 A3 A4 n0 n1 n2 n3 n4 c0 c1 c2 c3 c4 sq W) (hb : Below (w.heap.size + 1) W W') : By16 w S A0 A1 A2 A3 A4 n0 n1 n2 n3 n4 c0 c1 c2 c3 c4 sq W' :=
  ⟨⟨h.b.b.trans (hb.mono (by omega)), h.b.x.below hb (by omega), h.s.step (h.b.b.trans (hb.mono (by omega)))⟩, h.s⟩
set_option maxHeartbeats 4000000 in
theorem end16 (v : Value) (S : Sv14) (i : Int) (l : List Nat) (w : World) (h : St14 w v S) (hf : Fine14 S) (hl : Tl16 S i l) :
    Calls Try.prog 13 #[v, .int .i64 i] w fun e w' => e = .returned (.int .i64 (en16 l)) ∧ Below w.heap.size w w' := by
  obtain ⟨A0, A1, A2, A3, A4, n0, n1, n2, n3, n4, c0, c1, c2, c3, c4, sq, rfl, hs⟩ := h
  have hx0 := Bx14.new hs
  have hxn := hx0.step (Below.refl _ _).drew
  obtain ⟨W1, hW1⟩ : ∃ W, w.alloc (.cells #[.slice A0 n0 c0, .slice A1 n1 c1, .slice A2 n2 c2, .slice A3 n3 c3, .slice A4 n4 c4, .int .i64 sq] 28) = W := ⟨_, rfl⟩
  rw [hW1] at hx0 hxn
  have HX0 := Lib.hid hx0
  have p0 := hx0.x.cell 0
  have p1 := hx0.x.cell 1
  have p2 := hx0.x.cell 2
  have p3 := hx0.x.cell 3
  have p4 := hx0.x.cell 4
  have p5 := hx0.x.cell 5
  have HLN : Hid (l.length ≤ 1000000) := Lib.hid (by have := hl.len hf; have := hs.l2; have := hs.m2; omega)
  have HT := Lib.hid (fun W h => tail16 (.agg #[.slice A0 n0 c0, .slice A1 n1 c1, .slice A2 n2 c2, .slice A3 n3 c3, .slice A4 n4 c4, .int .i64 sq]) S i l W h hf hl)
  clear hs hx0 hxn hf hl
  go_enter Try.func13, Try.ntmps13
  go_wp2_with fail
  refine (HT.out _ HX0.out.st).mono ?_
  rintro e u1 ⟨A, c, rfl, hr, hb1⟩
  have HB1 := Lib.hid (HX0.out.b.trans (hb1.mono HX0.out.b.size))
  clear hb1 HT HX0 p0 p1 p2 p3 p4 p5 hW1
  by_cases hl0 : l = []
  · subst hl0
    have HE : Hid (en16 [] = -1) := Lib.hid rfl
    clear hr
    go_wp2_with fail
    go_ret
    exact ⟨by rw [HE.out]; rfl, HB1.out⟩
  · obtain ⟨d, hd⟩ : ∃ d, l.length = d + 1 := ⟨l.length - 1, by have := List.length_pos_iff.2 hl0; omega⟩
    obtain ⟨a, of, hA, hab, hq⟩ := hr.at_ (show d < l.length by omega)
    subst hA
    have HE : Hid (en16 l = ((nth l d : Nat) : Int)) := Lib.hid (by rw [en16, if_neg hl0, lst16, hd]; rfl)
    have hnz : (((d + 1 : Nat) : Int) == 0) = false := by simp; omega
    have hdm : d + 1 ≤ 1000000 := by have := HLN.out; omega
    rw [hd]
    clear hr hab hd hl0
    have i0 : (0 : Int) ≤ (d : Int) := by omega
    have i1 : (d : Int) < ((d + 1 : Nat) : Int) := by omega
    have hsb : ((d + 1 : Nat) : Int) - 1 = (d : Int) := by omega
    go_wp2_with fail
    go_ret
    exact ⟨by rw [HE.out]; rfl, HB1.out⟩
set_option maxHeartbeats 4000000 in
theorem closes16 (v : Value) (S : Sv14) (i j : Int) (l : List Nat) (w : World) (h : St14 w v S) (hf : Fine14 S) (hl : Tl16 S j l) (b : Bool) (hb : b = true ↔ ∃ x, x ∈ l ∧ i = ((x : Nat) : Int)) :
    Calls Try.prog 15 #[v, .int .i64 i, .int .i64 j] w fun e w' => e = .returned (.bool b) ∧ Below w.heap.size w w' := by
  obtain ⟨A0, A1, A2, A3, A4, n0, n1, n2, n3, n4, c0, c1, c2, c3, c4, sq, rfl, hs⟩ := h
  have hx0 := Bx14.new hs
  have hxn := hx0.step (Below.refl _ _).drew
  obtain ⟨W1, hW1⟩ : ∃ W, w.alloc (.cells #[.slice A0 n0 c0, .slice A1 n1 c1, .slice A2 n2 c2, .slice A3 n3 c3, .slice A4 n4 c4, .int .i64 sq] 28) = W := ⟨_, rfl⟩
  rw [hW1] at hx0 hxn
  have HX0 := Lib.hid hx0
  have p0 := hx0.x.cell 0
  have p1 := hx0.x.cell 1
  have p2 := hx0.x.cell 2
  have p3 := hx0.x.cell 3
  have p4 := hx0.x.cell 4
  have p5 := hx0.x.cell 5
  have HLN : Hid (l.length ≤ 1000000) := Lib.hid (by have := hl.len hf; have := hs.l2; have := hs.m2; omega)
  have HT := Lib.hid (fun W h => tail16 (.agg #[.slice A0 n0 c0, .slice A1 n1 c1, .slice A2 n2 c2, .slice A3 n3 c3, .slice A4 n4 c4, .int .i64 sq]) S j l W h hf hl)
  have HB := Lib.hid hb
  clear hs hx0 hxn hf hl hb
  go_enter Try.func15, Try.ntmps15
  go_wp2_with fail
  refine (HT.out _ HX0.out.st).mono ?_
  rintro e u1 ⟨A, c, rfl, hr, hb1⟩
  have HB1 := Lib.hid (HX0.out.b.trans (hb1.mono HX0.out.b.size))
  have HR := Lib.hid hr
  clear hb1 HT HX0 p0 p1 p2 p3 p4 p5 hW1 hr
  go_wp2_with fail
  refine (cont16 A l _ c _ i u1 rfl HR.out HLN.out (Nat.le_refl _) b HB.out).mono ?_
  rintro e u2 ⟨rfl, hb2⟩
  have HB2 := Lib.hid (HB1.out.trans (hb2.mono HB1.out.size))
  clear hb2 HR
  go_wp2_with fail
  go_ret
  exact ⟨rfl, HB2.out⟩
set_option maxHeartbeats 8000000 in
theorem lives16 (v : Value) (S : Sv14) (i : Int) (l : List Nat) (w : World) (h : St14 w v S) (hf : Fine14 S) (hl : Tl16 S i l) :
    Calls Try.prog 16 #[v, .int .i64 i] w fun e w' => e = .returned (.bool (lv16 S (en16 l))) ∧ Below w.heap.size w w' := by
  obtain ⟨A0, A1, A2, A3, A4, n0, n1, n2, n3, n4, c0, c1, c2, c3, c4, sq, rfl, hs⟩ := h
  have hx0 : By16 w S A0 A1 A2 A3 A4 n0 n1 n2 n3 n4 c0 c1 c2 c3 c4 sq _ := ⟨Bx14.new hs, hs⟩
  have hxn := hx0.step (Below.refl _ _).drew
  obtain ⟨W1, hW1⟩ : ∃ W, w.alloc (.cells #[.slice A0 n0 c0, .slice A1 n1 c1, .slice A2 n2 c2, .slice A3 n3 c3, .slice A4 n4 c4, .int .i64 sq] 28) = W := ⟨_, rfl⟩
  rw [hW1] at hx0 hxn
  obtain ⟨x, hx⟩ : ∃ x, at14 usH S.H (en16 l) = x := ⟨_, rfl⟩
  obtain ⟨xz, xf, xc, xq, xu⟩ := x
  obtain ⟨b, hb⟩ : ∃ b, us14 usH S.H (en16 l) = b := ⟨_, rfl⟩
  have HLV : Hid (lv16 S (en16 l) = ((xz == 2) || (xz == 3))) := Lib.hid (by rw [lv16, hx])
  have HE := Lib.hid (fun W h => end16 (.agg #[.slice A0 n0 c0, .slice A1 n1 c1, .slice A2 n2 c2, .slice A3 n3 c3, .slice A4 n4 c4, .int .i64 sq]) S i l W h hf hl)
  have HT := Lib.hid (fun W h => thread14 (.agg #[.slice A0 n0 c0, .slice A1 n1 c1, .slice A2 n2 c2, .slice A3 n3 c3, .slice A4 n4 c4, .int .i64 sq]) S (en16 l) xz xf xc xq xu b W h hb hx)
  have HXN := Lib.hid hxn
  clear hs hx0 hxn hf hl hx hb
  go_enter Try.func16, Try.ntmps16
  obtain ⟨wn, hwn⟩ : ∃ W, W1.drew = W := ⟨_, rfl⟩
  rw [hwn] at HXN
  go_wp2_with fail
  refine wp_region_held_drew (S := By16 w S A0 A1 A2 A3 A4 n0 n1 n2 n3 n4 c0 c1 c2 c3 c4 sq) (by kernel_rfl) (by rw [hwn]; exact HXN.out) (fun hHeld => ?_)
  rw [hwn] at hHeld ⊢
  clear hwn
  have HBS := HXN
  refine tk 0 (v := ?_) (fun W hS => ?_) ?_
  rotate_left
  · try dsimp only at hS
    have z0 := hS.b.x.cell 0
    have z1 := hS.b.x.cell 1
    have z2 := hS.b.x.cell 2
    have z3 := hS.b.x.cell 3
    have z4 := hS.b.x.cell 4
    have z5 := hS.b.x.cell 5
    go_simp
    try with_reducible rfl
  (try dsimp only [Act.put]); try simp only [pt1, pt2, pt3]
  refine tk 1 (v := ?_) (fun W hS => ?_) ?_
  rotate_left
  · try dsimp only at hS
    have z0 := hS.b.x.cell 0
    have z1 := hS.b.x.cell 1
    have z2 := hS.b.x.cell 2
    have z3 := hS.b.x.cell 3
    have z4 := hS.b.x.cell 4
    have z5 := hS.b.x.cell 5
    go_simp
    try with_reducible rfl
  (try dsimp only [Act.put]); try simp only [pt1, pt2, pt3]
  refine tk 2 (v := ?_) (fun W hS => ?_) ?_
  rotate_left
  · (go_simp; try with_reducible rfl)
  (try dsimp only [Act.put]); try simp only [pt1, pt2, pt3]
  refine wpAnyH_ready (rs := [3, 8]) (by kernel_rfl) (by simp) (AllReadyH.cons (op_of rfl) (fun K hK => ?_) (AllReadyH.cons (op_of rfl) (fun K hK => ?_) AllReadyH.nil))
  · skip
    have HBS0 := HBS
    go_simp
    refine (HE.out _ HBS0.out.b.st).mono ?_
    rintro e wo ⟨rfl, hb⟩
    have HBS := Lib.hid (HBS0.out.step hb)
    clear hb HBS0
    obtain ⟨wn, hwn⟩ : ∃ W, W = wo := ⟨_, rfl⟩
    subst hwn
    refine hK.out _ _ HBS.out (fun hHeld => ?_)
    clear hK K
    (try dsimp only [Act.put]); try simp only [pt1, pt2, pt3]
    refine wpAnyH_ready (rs := [4, 8]) (by kernel_rfl) (by simp) (AllReadyH.cons (op_of rfl) (fun K hK => ?_) (AllReadyH.cons (op_of rfl) (fun K hK => ?_) AllReadyH.nil))
    · skip
      have HBS0 := HBS
      go_simp
      refine (HT.out _ HBS0.out.b.st).mono ?_
      rintro e wo ⟨rfl, hb⟩
      have HBS := Lib.hid (HBS0.out.step hb)
      clear hb HBS0
      obtain ⟨wn, hwn⟩ : ∃ W, W = wo := ⟨_, rfl⟩
      subst hwn
      refine hK.out _ _ HBS.out (fun hHeld => ?_)
      clear hK K
      (try dsimp only [Act.put]); try simp only [pt1, pt2, pt3]
      refine tk 5 (v := ?_) (fun W hS => ?_) ?_
      rotate_left
      · (go_simp; try with_reducible rfl)
      (try dsimp only [Act.put]); try simp only [pt1, pt2, pt3]
      refine tk 6 (v := ?_) (fun W hS => ?_) ?_
      rotate_left
      · (go_simp; try with_reducible rfl)
      (try dsimp only [Act.put]); try simp only [pt1, pt2, pt3]
      refine tk 7 (v := ?_) (fun W hS => ?_) ?_
      rotate_left
      · (go_simp; try with_reducible rfl)
      (try dsimp only [Act.put]); try simp only [pt1, pt2, pt3]
      refine rdy 8 (fun K hK => ?_)
      have HBS0 := HBS
      go_simp
      have HBS := Lib.hid (HBS0.out.step (b1' wn (.cells #[.int .i64 0, .int .i64 0, .int .i64 0, .int .i64 0, .int .i64 0] 38)))
      have HK0 := Lib.hid (Blk.new wn 38 #[.int .i64 0, .int .i64 0, .int .i64 0, .int .i64 0, .int .i64 0])
      have hgl : w.heap.size < wn.heap.size := HBS0.out.b.x.lt
      obtain ⟨g, hg⟩ : ∃ g, wn.heap.size = g := ⟨_, rfl⟩
      obtain ⟨wm, hwm⟩ : ∃ W, wn.alloc (.cells #[.int .i64 0, .int .i64 0, .int .i64 0, .int .i64 0, .int .i64 0] 38) = W := ⟨_, rfl⟩
      rw [hg] at HK0 hgl
      rw [hwm] at HBS HK0
      rw [hg, hwm]
      clear hg hwm HBS0
      obtain ⟨wn, hwn⟩ : ∃ W, W = wm := ⟨_, rfl⟩
      subst hwn
      refine hK.out _ _ HBS.out (fun hHeld => ?_)
      clear hK K
      (try dsimp only [Act.put]); try simp only [pt1, pt2, pt3]
      refine rdy 9 (fun K hK => ?_)
      have k0 := HK0.out.cell 0
      have k1 := HK0.out.cell 1
      have k2 := HK0.out.cell 2
      have k3 := HK0.out.cell 3
      have k4 := HK0.out.cell 4
      have f0 := HK0.out.frozen 0
      have f1 := HK0.out.frozen 1
      have f2 := HK0.out.frozen 2
      have f3 := HK0.out.frozen 3
      have f4 := HK0.out.frozen 4
      go_simp
      obtain ⟨wm, hwm⟩ : ∃ W, ((((wn.setCell ⟨g, 0, none⟩ (.int .i64 xz)).setCell ⟨g, 1, none⟩ (.int .i64 xf)).setCell ⟨g, 2, none⟩ (.int .i64 xc)).setCell ⟨g, 3, none⟩ (.int .i64 xq)).setCell ⟨g, 4, none⟩ (.int .i64 xu) = W := ⟨_, rfl⟩
      have hk2 : Blk wm g 38 #[.int .i64 xz, .int .i64 xf, .int .i64 xc, .int .i64 xq, .int .i64 xu] := by
        rw [← hwm]
        have h := ((((HK0.out.set_ 0 (.int .i64 xz)).set_ 1 (.int .i64 xf)).set_ 2 (.int .i64 xc)).set_ 3 (.int .i64 xq)).set_ 4 (.int .i64 xu)
        simpa using h
      have hl5 : Below (w.heap.size + 1) wn wm := by
        rw [← hwm]
        exact (((((Below.refl _ _).setCell (p := ⟨g, 0, none⟩) hgl _).setCell (p := ⟨g, 1, none⟩) hgl _).setCell (p := ⟨g, 2, none⟩) hgl _).setCell (p := ⟨g, 3, none⟩) hgl _).setCell (p := ⟨g, 4, none⟩) hgl _
      rw [hwm]
      have HBS0 := HBS
      have HBS := Lib.hid (HBS0.out.low hl5)
      have HK1 := Lib.hid hk2
      clear hwm hk2 hl5 HK0 HBS0 k0 f0 k1 f1 k2 f2 k3 f3 k4 f4
      obtain ⟨wn, hwn⟩ : ∃ W, W = wm := ⟨_, rfl⟩
      subst hwn
      refine hK.out _ _ HBS.out (fun hHeld => ?_)
      clear hK K
      (try dsimp only [Act.put]); try simp only [pt1, pt2, pt3]
      refine rdy 10 (fun K hK => ?_)
      go_simp
      refine hK.out _ _ HBS.out (fun hHeld => ?_)
      clear hK K
      (try dsimp only [Act.put]); try simp only [pt1, pt2, pt3]
      refine wpAnyH_done (by kernel_rfl) ?_ _
      clear hHeld
      have c0 := HK1.out.cell 0
      have HB := Lib.hid HBS.out.b.b
      clear HK1 HBS HXN
      by_cases z2 : xz = 2
      · subst z2
        have HE : Hid (lv16 S (en16 l) = true) := Lib.hid (by rw [HLV.out]; rfl)
        go_wp2_with fail
        go_ret
        exact ⟨by rw [HE.out]; rfl, HB.out⟩
      · have hz2 : (xz == 2) = false := by simp [z2]
        have HE : Hid (lv16 S (en16 l) = (xz == 3)) := Lib.hid (by rw [HLV.out, hz2]; rfl)
        go_wp2_with fail
        go_ret
        exact ⟨by rw [HE.out]; rfl, HB.out⟩
    · skip
      have HBS0 := HBS
      go_simp
      have HBS := Lib.hid (HBS0.out.step (b1' wn (.cells #[.int .i64 0, .int .i64 0, .int .i64 0, .int .i64 0, .int .i64 0] 38)))
      have HK0 := Lib.hid (Blk.new wn 38 #[.int .i64 0, .int .i64 0, .int .i64 0, .int .i64 0, .int .i64 0])
      have hgl : w.heap.size < wn.heap.size := HBS0.out.b.x.lt
      obtain ⟨g, hg⟩ : ∃ g, wn.heap.size = g := ⟨_, rfl⟩
      obtain ⟨wm, hwm⟩ : ∃ W, wn.alloc (.cells #[.int .i64 0, .int .i64 0, .int .i64 0, .int .i64 0, .int .i64 0] 38) = W := ⟨_, rfl⟩
      rw [hg] at HK0 hgl
      rw [hwm] at HBS HK0
      rw [hg, hwm]
      clear hg hwm HBS0
      obtain ⟨wn, hwn⟩ : ∃ W, W = wm := ⟨_, rfl⟩
      subst hwn
      refine hK.out _ _ HBS.out (fun hHeld => ?_)
      clear hK K
      (try dsimp only [Act.put]); try simp only [pt1, pt2, pt3]
      refine rdy 4 (fun K hK => ?_)
      have HBS0 := HBS
      go_simp
      refine (HT.out _ HBS0.out.b.st).mono ?_
      rintro e wo ⟨rfl, hb⟩
      have HBS := Lib.hid (HBS0.out.step hb)
      have HK0 := Lib.hid (HK0.out.below hb HK0.out.lt)
      clear hb HBS0
      obtain ⟨wn, hwn⟩ : ∃ W, W = wo := ⟨_, rfl⟩
      subst hwn
      refine hK.out _ _ HBS.out (fun hHeld => ?_)
      clear hK K
      (try dsimp only [Act.put]); try simp only [pt1, pt2, pt3]
      refine tk 5 (v := ?_) (fun W hS => ?_) ?_
      rotate_left
      · (go_simp; try with_reducible rfl)
      (try dsimp only [Act.put]); try simp only [pt1, pt2, pt3]
      refine tk 6 (v := ?_) (fun W hS => ?_) ?_
      rotate_left
      · (go_simp; try with_reducible rfl)
      (try dsimp only [Act.put]); try simp only [pt1, pt2, pt3]
      refine tk 7 (v := ?_) (fun W hS => ?_) ?_
      rotate_left
      · (go_simp; try with_reducible rfl)
      (try dsimp only [Act.put]); try simp only [pt1, pt2, pt3]
      refine rdy 9 (fun K hK => ?_)
      have k0 := HK0.out.cell 0
      have k1 := HK0.out.cell 1
      have k2 := HK0.out.cell 2
      have k3 := HK0.out.cell 3
      have k4 := HK0.out.cell 4
      have f0 := HK0.out.frozen 0
      have f1 := HK0.out.frozen 1
      have f2 := HK0.out.frozen 2
      have f3 := HK0.out.frozen 3
      have f4 := HK0.out.frozen 4
      go_simp
      obtain ⟨wm, hwm⟩ : ∃ W, ((((wn.setCell ⟨g, 0, none⟩ (.int .i64 xz)).setCell ⟨g, 1, none⟩ (.int .i64 xf)).setCell ⟨g, 2, none⟩ (.int .i64 xc)).setCell ⟨g, 3, none⟩ (.int .i64 xq)).setCell ⟨g, 4, none⟩ (.int .i64 xu) = W := ⟨_, rfl⟩
      have hk2 : Blk wm g 38 #[.int .i64 xz, .int .i64 xf, .int .i64 xc, .int .i64 xq, .int .i64 xu] := by
        rw [← hwm]
        have h := ((((HK0.out.set_ 0 (.int .i64 xz)).set_ 1 (.int .i64 xf)).set_ 2 (.int .i64 xc)).set_ 3 (.int .i64 xq)).set_ 4 (.int .i64 xu)
        simpa using h
      have hl5 : Below (w.heap.size + 1) wn wm := by
        rw [← hwm]
        exact (((((Below.refl _ _).setCell (p := ⟨g, 0, none⟩) hgl _).setCell (p := ⟨g, 1, none⟩) hgl _).setCell (p := ⟨g, 2, none⟩) hgl _).setCell (p := ⟨g, 3, none⟩) hgl _).setCell (p := ⟨g, 4, none⟩) hgl _
      rw [hwm]
      have HBS0 := HBS
      have HBS := Lib.hid (HBS0.out.low hl5)
      have HK1 := Lib.hid hk2
      clear hwm hk2 hl5 HK0 HBS0 k0 f0 k1 f1 k2 f2 k3 f3 k4 f4
      obtain ⟨wn, hwn⟩ : ∃ W, W = wm := ⟨_, rfl⟩
      subst hwn
      refine hK.out _ _ HBS.out (fun hHeld => ?_)
      clear hK K
      (try dsimp only [Act.put]); try simp only [pt1, pt2, pt3]
      refine rdy 10 (fun K hK => ?_)
      go_simp
      refine hK.out _ _ HBS.out (fun hHeld => ?_)
      clear hK K
      (try dsimp only [Act.put]); try simp only [pt1, pt2, pt3]
      refine wpAnyH_done (by kernel_rfl) ?_ _
      clear hHeld
      have c0 := HK1.out.cell 0
      have HB := Lib.hid HBS.out.b.b
      clear HK1 HBS HXN
      by_cases z2 : xz = 2
      · subst z2
        have HE : Hid (lv16 S (en16 l) = true) := Lib.hid (by rw [HLV.out]; rfl)
        go_wp2_with fail
        go_ret
        exact ⟨by rw [HE.out]; rfl, HB.out⟩
      · have hz2 : (xz == 2) = false := by simp [z2]
        have HE : Hid (lv16 S (en16 l) = (xz == 3)) := Lib.hid (by rw [HLV.out, hz2]; rfl)
        go_wp2_with fail
        go_ret
        exact ⟨by rw [HE.out]; rfl, HB.out⟩
  · skip
    have HBS0 := HBS
    go_simp
    have HBS := Lib.hid (HBS0.out.step (b1' wn (.cells #[.int .i64 0, .int .i64 0, .int .i64 0, .int .i64 0, .int .i64 0] 38)))
    have HK0 := Lib.hid (Blk.new wn 38 #[.int .i64 0, .int .i64 0, .int .i64 0, .int .i64 0, .int .i64 0])
    have hgl : w.heap.size < wn.heap.size := HBS0.out.b.x.lt
    obtain ⟨g, hg⟩ : ∃ g, wn.heap.size = g := ⟨_, rfl⟩
    obtain ⟨wm, hwm⟩ : ∃ W, wn.alloc (.cells #[.int .i64 0, .int .i64 0, .int .i64 0, .int .i64 0, .int .i64 0] 38) = W := ⟨_, rfl⟩
    rw [hg] at HK0 hgl
    rw [hwm] at HBS HK0
    rw [hg, hwm]
    clear hg hwm HBS0
    obtain ⟨wn, hwn⟩ : ∃ W, W = wm := ⟨_, rfl⟩
    subst hwn
    refine hK.out _ _ HBS.out (fun hHeld => ?_)
    clear hK K
    (try dsimp only [Act.put]); try simp only [pt1, pt2, pt3]
    refine rdy 3 (fun K hK => ?_)
    have HBS0 := HBS
    go_simp
    refine (HE.out _ HBS0.out.b.st).mono ?_
    rintro e wo ⟨rfl, hb⟩
    have HBS := Lib.hid (HBS0.out.step hb)
    have HK0 := Lib.hid (HK0.out.below hb HK0.out.lt)
    clear hb HBS0
    obtain ⟨wn, hwn⟩ : ∃ W, W = wo := ⟨_, rfl⟩
    subst hwn
    refine hK.out _ _ HBS.out (fun hHeld => ?_)
    clear hK K
    (try dsimp only [Act.put]); try simp only [pt1, pt2, pt3]
    refine rdy 4 (fun K hK => ?_)
    have HBS0 := HBS
    go_simp
    refine (HT.out _ HBS0.out.b.st).mono ?_
    rintro e wo ⟨rfl, hb⟩
    have HBS := Lib.hid (HBS0.out.step hb)
    have HK0 := Lib.hid (HK0.out.below hb HK0.out.lt)
    clear hb HBS0
    obtain ⟨wn, hwn⟩ : ∃ W, W = wo := ⟨_, rfl⟩
    subst hwn
    refine hK.out _ _ HBS.out (fun hHeld => ?_)
    clear hK K
    (try dsimp only [Act.put]); try simp only [pt1, pt2, pt3]
    refine tk 5 (v := ?_) (fun W hS => ?_) ?_
    rotate_left
    · (go_simp; try with_reducible rfl)
    (try dsimp only [Act.put]); try simp only [pt1, pt2, pt3]
    refine tk 6 (v := ?_) (fun W hS => ?_) ?_
    rotate_left
    · (go_simp; try with_reducible rfl)
    (try dsimp only [Act.put]); try simp only [pt1, pt2, pt3]
    refine tk 7 (v := ?_) (fun W hS => ?_) ?_
    rotate_left
    · (go_simp; try with_reducible rfl)
    (try dsimp only [Act.put]); try simp only [pt1, pt2, pt3]
    refine rdy 9 (fun K hK => ?_)
    have k0 := HK0.out.cell 0
    have k1 := HK0.out.cell 1
    have k2 := HK0.out.cell 2
    have k3 := HK0.out.cell 3
    have k4 := HK0.out.cell 4
    have f0 := HK0.out.frozen 0
    have f1 := HK0.out.frozen 1
    have f2 := HK0.out.frozen 2
    have f3 := HK0.out.frozen 3
    have f4 := HK0.out.frozen 4
    go_simp
    obtain ⟨wm, hwm⟩ : ∃ W, ((((wn.setCell ⟨g, 0, none⟩ (.int .i64 xz)).setCell ⟨g, 1, none⟩ (.int .i64 xf)).setCell ⟨g, 2, none⟩ (.int .i64 xc)).setCell ⟨g, 3, none⟩ (.int .i64 xq)).setCell ⟨g, 4, none⟩ (.int .i64 xu) = W := ⟨_, rfl⟩
    have hk2 : Blk wm g 38 #[.int .i64 xz, .int .i64 xf, .int .i64 xc, .int .i64 xq, .int .i64 xu] := by
      rw [← hwm]
      have h := ((((HK0.out.set_ 0 (.int .i64 xz)).set_ 1 (.int .i64 xf)).set_ 2 (.int .i64 xc)).set_ 3 (.int .i64 xq)).set_ 4 (.int .i64 xu)
      simpa using h
    have hl5 : Below (w.heap.size + 1) wn wm := by
      rw [← hwm]
      exact (((((Below.refl _ _).setCell (p := ⟨g, 0, none⟩) hgl _).setCell (p := ⟨g, 1, none⟩) hgl _).setCell (p := ⟨g, 2, none⟩) hgl _).setCell (p := ⟨g, 3, none⟩) hgl _).setCell (p := ⟨g, 4, none⟩) hgl _
    rw [hwm]
    have HBS0 := HBS
    have HBS := Lib.hid (HBS0.out.low hl5)
    have HK1 := Lib.hid hk2
    clear hwm hk2 hl5 HK0 HBS0 k0 f0 k1 f1 k2 f2 k3 f3 k4 f4
    obtain ⟨wn, hwn⟩ : ∃ W, W = wm := ⟨_, rfl⟩
    subst hwn
    refine hK.out _ _ HBS.out (fun hHeld => ?_)
    clear hK K
    (try dsimp only [Act.put]); try simp only [pt1, pt2, pt3]
    refine rdy 10 (fun K hK => ?_)
    go_simp
    refine hK.out _ _ HBS.out (fun hHeld => ?_)
    clear hK K
    (try dsimp only [Act.put]); try simp only [pt1, pt2, pt3]
    refine wpAnyH_done (by kernel_rfl) ?_ _
    clear hHeld
    have c0 := HK1.out.cell 0
    have HB := Lib.hid HBS.out.b.b
    clear HK1 HBS HXN
    by_cases z2 : xz = 2
    · subst z2
      have HE : Hid (lv16 S (en16 l) = true) := Lib.hid (by rw [HLV.out]; rfl)
      go_wp2_with fail
      go_ret
      exact ⟨by rw [HE.out]; rfl, HB.out⟩
    · have hz2 : (xz == 2) = false := by simp [z2]
      have HE : Hid (lv16 S (en16 l) = (xz == 3)) := Lib.hid (by rw [HLV.out, hz2]; rfl)
      go_wp2_with fail
      go_ret
      exact ⟨by rw [HE.out]; rfl, HB.out⟩
end Go.Proofs.Ytfjpjbgdmebihaa
namespace Go.Proofs.Ytfjpjbgdmebihaa
open Go.RowKit
set_option maxRecDepth 100000
/-- Within a closure: a boxed state, a boxed number, and what stood at its beginning. -/
structure Ci16 (w0 : World) (S : Sv14) (A0 A1 A2 A3 A4 : Option Addr) (n0 n1 n2 n3 n4 c0 c1 c2 c3 c4 : Nat) (sq : Int) (gi : Nat) (i : Int) (w W : World) : Prop where
  b : Bx14 w0 S A0 A1 A2 A3 A4 n0 n1 n2 n3 n4 c0 c1 c2 c3 c4 sq W
  c : W.cell? ⟨gi, 0, none⟩ = some (.int .i64 i)
  l : Below w.heap.size w W
theorem Ci16.step {w0 : World} {S : Sv14} {A0 A1 A2 A3 A4 : Option Addr} {n0 n1 n2 n3 n4 c0 c1 c2 c3 c4 : Nat} {sq : Int} {gi : Nat} {i : Int} {w W W' : World} (h : Ci16 w0 S A0 A1 A2 A3 A4 n0 n1 n2 n3 n4 c0 c1 c2 c3 c4 sq gi i w W) (hb : Below W.heap.size W W') : Ci16 w0 S A0 A1 A2 A3 A4 n0 n1 n2 n3 n4 c0 c1 c2 c3 c4 sq gi i w W' :=
  ⟨h.b.step hb, (hb.cell (World.block_lt_of_cell? W _ h.c)).trans h.c, h.l.trans (hb.mono h.l.size)⟩
set_option maxHeartbeats 4000000 in
theorem bcl16_0 (w0 : World) (S : Sv14) (A0 A1 A2 A3 A4 : Option Addr) (n0 n1 n2 n3 n4 c0 c1 c2 c3 c4 : Nat) (sq : Int) (gi : Nat) (i : Int) (j : Nat) (hj : (j : Int) = i) (w : World) (h : Bx14 w0 S A0 A1 A2 A3 A4 n0 n1 n2 n3 n4 c0 c1 c2 c3 c4 sq w) (hc : w.cell? ⟨gi, 0, none⟩ = some (.int .i64 i)) :
    Calls Try.prog 36 #[.int .i64 ((j : Nat) : Int), .pointer (some ⟨gi, 0, none⟩), .pointer (some ⟨w0.heap.size, 0, none⟩)] w fun e w' => e = .returned (.bool false) ∧ Below w.heap.size w w' := by
  have hx : Ci16 w0 S A0 A1 A2 A3 A4 n0 n1 n2 n3 n4 c0 c1 c2 c3 c4 sq gi i w w := ⟨h, hc, Below.refl _ _⟩
  have HXN := Lib.hid (hx.step (Below.refl _ _).drew)
  have hjb : ((j : Int) != i) = false := by simp [hj]
  clear h hc hx hj
  go_enter Try.func36, Try.ntmps36
  obtain ⟨wn, hwn⟩ : ∃ W, w.drew = W := ⟨_, rfl⟩
  rw [hwn] at HXN
  go_wp2_with fail
  refine wp_region_held_drew (S := Ci16 w0 S A0 A1 A2 A3 A4 n0 n1 n2 n3 n4 c0 c1 c2 c3 c4 sq gi i w) (by kernel_rfl) (by rw [hwn]; exact HXN.out) (fun hHeld => ?_)
  rw [hwn] at hHeld ⊢
  clear hwn
  have HBS := HXN
  refine tk 0 (v := ?_) (fun W hS => ?_) ?_
  rotate_left
  · (go_simp; try with_reducible rfl)
  (try dsimp only [Act.put]); try simp only [pt1, pt2, pt3]
  refine tk 1 (v := ?_) (fun W hS => ?_) ?_
  rotate_left
  · try dsimp only at hS
    have z0 := hS.c
    go_simp
    try with_reducible rfl
  (try dsimp only [Act.put]); try simp only [pt1, pt2, pt3]
  refine tk 2 (v := ?_) (fun W hS => ?_) ?_
  rotate_left
  · (go_simp; try with_reducible rfl)
  (try dsimp only [Act.put]); try simp only [pt1, pt2, pt3]
  refine tk 3 (v := ?_) (fun W hS => ?_) ?_
  rotate_left
  · (go_simp; try with_reducible rfl)
  (try dsimp only [Act.put]); try simp only [pt1, pt2, pt3]
  refine sk 4 ?_
  (try dsimp only [Act.put]); try simp only [pt1, pt2, pt3]
  refine sk 5 ?_
  (try dsimp only [Act.put]); try simp only [pt1, pt2, pt3]
  refine sk 6 ?_
  (try dsimp only [Act.put]); try simp only [pt1, pt2, pt3]
  refine sk 7 ?_
  (try dsimp only [Act.put]); try simp only [pt1, pt2, pt3]
  refine sk 8 ?_
  (try dsimp only [Act.put]); try simp only [pt1, pt2, pt3]
  refine tk 9 (v := ?_) (fun W hS => ?_) ?_
  rotate_left
  · (go_simp; try with_reducible rfl)
  (try dsimp only [Act.put]); try simp only [pt1, pt2, pt3]
  refine rdy 10 (fun K hK => ?_)
  go_simp
  refine hK.out _ _ HBS.out (fun hHeld => ?_)
  clear hK K
  (try dsimp only [Act.put]); try simp only [pt1, pt2, pt3]
  refine wpAnyH_done (by kernel_rfl) ?_ _
  clear hHeld
  go_wp2_with fail
  go_ret
  exact ⟨rfl, HBS.out.l⟩
set_option maxHeartbeats 4000000 in
theorem bcl16_1 (w0 : World) (S : Sv14) (A0 A1 A2 A3 A4 : Option Addr) (n0 n1 n2 n3 n4 c0 c1 c2 c3 c4 : Nat) (sq : Int) (gi : Nat) (i : Int) (j : Nat) (hj : (j : Int) ≠ i) (l : List Nat) (hf : Fine14 S) (hl : Tl16 S (j : Int) l) (b : Bool) (hb : b = true ↔ ∃ x, x ∈ l ∧ i = ((x : Nat) : Int)) (w : World) (h : Bx14 w0 S A0 A1 A2 A3 A4 n0 n1 n2 n3 n4 c0 c1 c2 c3 c4 sq w) (hc : w.cell? ⟨gi, 0, none⟩ = some (.int .i64 i)) :
    Calls Try.prog 36 #[.int .i64 ((j : Nat) : Int), .pointer (some ⟨gi, 0, none⟩), .pointer (some ⟨w0.heap.size, 0, none⟩)] w fun e w' => e = .returned (.bool b) ∧ Below w.heap.size w w' := by
  have hx : Ci16 w0 S A0 A1 A2 A3 A4 n0 n1 n2 n3 n4 c0 c1 c2 c3 c4 sq gi i w w := ⟨h, hc, Below.refl _ _⟩
  have HXN := Lib.hid (hx.step (Below.refl _ _).drew)
  have hjb : ((j : Int) != i) = true := by simp [hj]
  have HLN : Hid (l.length ≤ 1000000) := Lib.hid (by have := hl.len hf; have := h.s.l2; have := h.s.m2; omega)
  have HT := Lib.hid (fun W (h : Ci16 w0 S A0 A1 A2 A3 A4 n0 n1 n2 n3 n4 c0 c1 c2 c3 c4 sq gi i w W) => tail16 (.agg #[.slice A0 n0 c0, .slice A1 n1 c1, .slice A2 n2 c2, .slice A3 n3 c3, .slice A4 n4 c4, .int .i64 sq]) S (j : Int) l W h.b.st hf hl)
  have HC := Lib.hid hb
  clear h hc hx hj hf hl hb
  go_enter Try.func36, Try.ntmps36
  obtain ⟨wn, hwn⟩ : ∃ W, w.drew = W := ⟨_, rfl⟩
  rw [hwn] at HXN
  go_wp2_with fail
  refine wp_region_held_drew (S := Ci16 w0 S A0 A1 A2 A3 A4 n0 n1 n2 n3 n4 c0 c1 c2 c3 c4 sq gi i w) (by kernel_rfl) (by rw [hwn]; exact HXN.out) (fun hHeld => ?_)
  rw [hwn] at hHeld ⊢
  clear hwn
  have HBS := HXN
  refine tk 0 (v := ?_) (fun W hS => ?_) ?_
  rotate_left
  · (go_simp; try with_reducible rfl)
  (try dsimp only [Act.put]); try simp only [pt1, pt2, pt3]
  refine tk 1 (v := ?_) (fun W hS => ?_) ?_
  rotate_left
  · try dsimp only at hS
    have z0 := hS.c
    go_simp
    try with_reducible rfl
  (try dsimp only [Act.put]); try simp only [pt1, pt2, pt3]
  refine tk 2 (v := ?_) (fun W hS => ?_) ?_
  rotate_left
  · (go_simp; try with_reducible rfl)
  (try dsimp only [Act.put]); try simp only [pt1, pt2, pt3]
  refine tk 3 (v := ?_) (fun W hS => ?_) ?_
  rotate_left
  · (go_simp; try with_reducible rfl)
  (try dsimp only [Act.put]); try simp only [pt1, pt2, pt3]
  refine tk 4 (v := ?_) (fun W hS => ?_) ?_
  rotate_left
  · try dsimp only at hS
    have z0 := hS.b.x.cell 0
    have z1 := hS.b.x.cell 1
    have z2 := hS.b.x.cell 2
    have z3 := hS.b.x.cell 3
    have z4 := hS.b.x.cell 4
    have z5 := hS.b.x.cell 5
    go_simp
    try with_reducible rfl
  (try dsimp only [Act.put]); try simp only [pt1, pt2, pt3]
  refine tk 5 (v := ?_) (fun W hS => ?_) ?_
  rotate_left
  · (go_simp; try with_reducible rfl)
  (try dsimp only [Act.put]); try simp only [pt1, pt2, pt3]
  refine tk 7 (v := ?_) (fun W hS => ?_) ?_
  rotate_left
  · try dsimp only at hS
    have z0 := hS.c
    go_simp
    try with_reducible rfl
  (try dsimp only [Act.put]); try simp only [pt1, pt2, pt3]
  refine rdy 6 (fun K hK => ?_)
  have HBS0 := HBS
  go_simp
  refine (HT.out _ HBS0.out).mono ?_
  rintro e wn ⟨Aa, ca, rfl, hr, hb⟩
  have HBS := Lib.hid (HBS0.out.step hb)
  have HRA := Lib.hid hr
  clear hr
  clear hb HBS0
  refine hK.out _ _ HBS.out (fun hHeld => ?_)
  clear hK K
  (try dsimp only [Act.put]); try simp only [pt1, pt2, pt3]
  refine rdy 8 (fun K hK => ?_)
  have HBS0 := HBS
  go_simp
  refine (cont16 Aa l _ ca _ i wn rfl HRA.out HLN.out (Nat.le_refl _) b HC.out).mono ?_
  rintro e wn ⟨rfl, hb⟩
  have HBS := Lib.hid (HBS0.out.step hb)
  clear hb HBS0 HRA
  refine hK.out _ _ HBS.out (fun hHeld => ?_)
  clear hK K
  (try dsimp only [Act.put]); try simp only [pt1, pt2, pt3]
  refine tk 9 (v := ?_) (fun W hS => ?_) ?_
  rotate_left
  · (go_simp; try with_reducible rfl)
  (try dsimp only [Act.put]); try simp only [pt1, pt2, pt3]
  refine rdy 10 (fun K hK => ?_)
  go_simp
  refine hK.out _ _ HBS.out (fun hHeld => ?_)
  clear hK K
  (try dsimp only [Act.put]); try simp only [pt1, pt2, pt3]
  refine wpAnyH_done (by kernel_rfl) ?_ _
  clear hHeld
  go_wp2_with fail
  go_ret
  exact ⟨rfl, HBS.out.l⟩
set_option maxHeartbeats 4000000 in
theorem threads16B (v : Value) (S : Sv14) (pa pb : Value) (w : World) (h : St14 w v S) (p : Nat → Bool)
    (hcl : ∀ W, Below w.heap.size w W → ∀ j : Nat, j < S.H.length → Calls Try.prog 36 #[.int .i64 (j : Int), pa, pb] W fun e w' => e = .returned (.bool (p j)) ∧ Below W.heap.size W w') :
    Calls Try.prog 33 #[v, .func (.func 36) #[] #[pa, pb]] w (RetR15 w (all11 p S.H.length)) := by
  obtain ⟨A0, A1, A2, A3, A4, n0, n1, n2, n3, n4, c0, c1, c2, c3, c4, sq, rfl, hs⟩ := h
  have HP : Hid (RetR15 w (all11 p S.H.length) = fun e w' => ∃ A c, e = .returned (.slice A (all11 p n2).length c) ∧ Rd w' w'.heap.size A (all11 p n2) ∧ Below w.heap.size w w') := Lib.hid (by rw [hs.l2]; rfl)
  have HX0 : Hid (Ti15 w (w.heap.size + 1) S A0 A1 A2 A3 A4 n0 n1 n2 n3 n4 c0 c1 c2 c3 c4 sq none 0 0 (all11 p 0) (w.alloc (.cells #[.slice A0 n0 c0, .slice A1 n1 c1, .slice A2 n2 c2, .slice A3 n3 c3, .slice A4 n4 c4, .int .i64 sq] 28))) := Lib.hid (Ti15.start hs (Bx14.new hs) (by omega) (by simp))
  have HC := Lib.hid hcl
  have HL2 := Lib.hid hs.l2
  have hnb := hs.m2
  have t2 := HX0.out.b.x.cell 2
  clear hs hcl
  go_enter Try.func33, Try.ntmps33
  go_wp2_with fail
  clear t2
  go_loopw [4, 9] (fun v i wr => ∃ (k : Nat) (A : Option Addr) (m c : Nat), v = .slice A m c ∧ i = .int .i64 (k : Int) ∧ k ≤ n2 ∧ Hid (Ti15 w (w.heap.size + 1) S A0 A1 A2 A3 A4 n0 n1 n2 n3 n4 c0 c1 c2 c3 c4 sq A m c (all11 p k) wr)) (fun _ i _ => n2 - (intOf i).toNat)
  case atStart => exact ⟨0, none, 0, 0, rfl, rfl, by omega, HX0⟩
  case round =>
    obtain ⟨k, A, m, c, rfl, rfl, hk, HW⟩ := hrel
    by_cases hkn : k < n2
    · have hc := HC.out wr HW.out.b.b k (by rw [HL2.out]; exact hkn)
      obtain ⟨bp, hbp⟩ : ∃ y, p k = y := ⟨_, rfl⟩
      rw [hbp] at hc
      have HCK := Lib.hid hc
      have HNX : Hid (all11 p (k + 1) = all11 p k ++ if bp then [k] else []) := Lib.hid (by rw [← hbp]; exact all11_next p k)
      have i1 : (k : Int) < (n2 : Int) := by omega
      have hmk : m ≤ k := by rw [← HW.out.l]; exact all11_len p k
      clear hc hbp
      cases bp with
      | false =>
        go_wp2_with fail
        refine HCK.out.mono ?_
        rintro e w2 ⟨rfl, hb2⟩
        have HN := Lib.hid ((HW.out.step hb2).congr (ys := all11 p (k + 1)) (by rw [HNX.out]; simp))
        clear HCK hb2
        go_wp2_with fail
        go_roundw
        case rel => exact ⟨k + 1, A, m, c, rfl, by go_num, by omega, HN⟩
        case measure => simp [intOf]; omega
      | true =>
        go_wp2_with fail
        refine HCK.out.mono ?_
        rintro e w2 ⟨rfl, hb2⟩
        obtain ⟨Az, cz, W2, hrun, har, _⟩ := (HW.out.step hb2).push k (by omega)
        have HRUN := Lib.hid hrun
        have HAR := Lib.hid (har.congr (ys := all11 p (k + 1)) (by rw [HNX.out]; simp))
        clear HCK hb2 hrun har
        go_wp2_with (at_builtin; go_loud (refine wpList_append_14 _ rfl (.tmp 15) (.tmp 17) 26 rfl _ _ _ _ rfl rfl HRUN.out ?_))
        go_roundw
        case rel => exact ⟨k + 1, Az, m + 1, cz, rfl, by go_num, by omega, HAR⟩
        case measure => simp [intOf]; omega
    · obtain rfl : k = n2 := by omega
      have HL := Lib.hid HW.out.l
      have h1 : ¬ (k : Int) < (k : Int) := by omega
      go_wp2_with fail
      go_ret
      rw [HP.out]
      exact ⟨A, c, by rw [HL.out]; rfl, HW.out.rd, HW.out.b.b⟩
set_option maxHeartbeats 4000000 in
theorem behind16 (v : Value) (S : Sv14) (i : Int) (w : World) (h : St14 w v S) (hf : Fine14 S) :
    Calls Try.prog 20 #[v, .int .i64 i] w (RetR15 w (bh16 S i false)) := by
  obtain ⟨A0, A1, A2, A3, A4, n0, n1, n2, n3, n4, c0, c1, c2, c3, c4, sq, rfl, hs⟩ := h
  have hx0 := Bx14.new hs
  have hxn := hx0.step (Below.refl _ _).drew
  obtain ⟨W1, hW1⟩ : ∃ W, w.alloc (.cells #[.slice A0 n0 c0, .slice A1 n1 c1, .slice A2 n2 c2, .slice A3 n3 c3, .slice A4 n4 c4, .int .i64 sq] 28) = W := ⟨_, rfl⟩
  rw [hW1] at hx0 hxn
  have HP : Hid (RetR15 w (bh16 S i false) = fun e w' => ∃ A c, e = .returned (.slice A (bh16 S i false).length c) ∧ Rd w' w'.heap.size A (bh16 S i false) ∧ Below w.heap.size w w') := Lib.hid rfl
  have hz1 : W1.heap.size = w.heap.size + 1 := by rw [← hW1]; simp
  have hb2 := b1' W1 (.cells #[.int .i64 i] 3)
  have hk2 := Blk.new W1 3 #[.int .i64 i]
  rw [hz1] at hk2
  obtain ⟨W2, hW2⟩ : ∃ W, W1.alloc (.cells #[.int .i64 i] 3) = W := ⟨_, rfl⟩
  rw [hW2] at hb2 hk2
  have HX0 := Lib.hid (hx0.step hb2)
  have HK0 := Lib.hid hk2
  have p0 := HX0.out.x.cell 0
  have p1 := HX0.out.x.cell 1
  have p2 := HX0.out.x.cell 2
  have p3 := HX0.out.x.cell 3
  have p4 := HX0.out.x.cell 4
  have p5 := HX0.out.x.cell 5
  have HT := Lib.hid (threads16B (.agg #[.slice A0 n0 c0, .slice A1 n1 c1, .slice A2 n2 c2, .slice A3 n3 c3, .slice A4 n4 c4, .int .i64 sq]) S (.pointer (some ⟨w.heap.size + 1, 0, none⟩)) (.pointer (some ⟨w.heap.size, 0, none⟩)) W2 HX0.out.st (bhb16 S i false)
      (fun W hW j hj => by
        obtain ⟨l, hl⟩ := tl16_ex hf ((j : Nat) : Int)
        have hbc := bhb16_chain (i := i) hf hl
        by_cases hji : ((j : Nat) : Int) = i
        · have e : bhb16 S i false j = false := by
            cases hbb : bhb16 S i false j with
            | false => rfl
            | true => exact absurd hji (hbc.1 hbb).1
          rw [e]
          exact bcl16_0 w S A0 A1 A2 A3 A4 n0 n1 n2 n3 n4 c0 c1 c2 c3 c4 sq (w.heap.size + 1) i j hji W (HX0.out.step hW) ((HK0.out.below hW HK0.out.lt).cell 0)
        · exact bcl16_1 w S A0 A1 A2 A3 A4 n0 n1 n2 n3 n4 c0 c1 c2 c3 c4 sq (w.heap.size + 1) i j hji l hf hl (bhb16 S i false j) (by rw [hbc]; exact ⟨fun h => h.2, fun h => ⟨hji, h⟩⟩) W (HX0.out.step hW) ((HK0.out.below hW HK0.out.lt).cell 0)))
  clear hs hx0 hxn hb2 hk2 hf
  go_enter Try.func20, Try.ntmps20
  go_wp2_with fail
  refine HT.out.mono ?_
  rintro e u2 ⟨A, c, rfl, hr, hb2⟩
  have HR := Lib.hid hr
  have HB2 := Lib.hid (HX0.out.b.trans (hb2.mono HX0.out.b.size))
  clear hr hb2 HT HX0 HK0 p0 p1 p2 p3 p4 p5 hW1 hW2
  go_wp2_with fail
  go_ret
  rw [HP.out]
  exact ⟨A, c, rfl, HR.out, HB2.out⟩
end Go.Proofs.Ytfjpjbgdmebihaa
namespace Go.Proofs.Ytfjpjbgdmebihaa
open Go.RowKit
set_option maxRecDepth 100000
theorem below16_of {w w' : World} (h : w.grownBy w' none) : Below w.heap.size w w' := (Below.refl _ _).grown h (Nat.le_refl _) (fun r hr => by cases hr)
theorem rd16_one (W : World) : Rd (W.alloc (.cells #[.int .i64 1] 3)) (W.alloc (.cells #[.int .i64 1] 3)).heap.size (some ⟨W.heap.size, 0, none⟩) [1] := fun _ =>
  ⟨W.heap.size, 0, rfl, by simp, fun k hk => by
    have h := (Blk.new W 3 #[.int .i64 1]).cell
    match k, hk with
    | 0, _ => exact h 0⟩
def exS16 : Sv14 := ⟨[true], [], [⟨2, -1, -1, 1, 1⟩, ⟨4, 0, -1, 1, 1⟩], [], [1], 5⟩
theorem exs16_us0 : us14 usH exS16.H 0 = true := by decide +kernel
theorem exs16_us1 : us14 usH exS16.H 1 = true := by decide +kernel
theorem exs16_n0 : nxt16 exS16 0 = -1 := by decide +kernel
theorem exs16_n1 : nxt16 exS16 1 = 0 := by decide +kernel
theorem exs16_cu : cut13 2 (tArr14 exS16 2) = [(1, 0)] := by decide +kernel
theorem exs16_t0 : Tl16 exS16 0 [0] := .inr ⟨exs16_us0, 0, rfl, .one exs16_n0⟩
theorem exs16_t1 : Tl16 exS16 1 [1, 0] := .inr ⟨exs16_us1, 1, rfl, .step (j := 0) exs16_n1 (.one exs16_n0)⟩
theorem exs16_e1 : en16 [1, 0] = 0 := by decide +kernel
theorem exs16_l0 : lv16 exS16 (en16 [1, 0]) = true := by decide +kernel
theorem exs16_done1 : Done13 [] 1 [0] := by
  refine ⟨.next (os := []) .nil ⟨by decide, by decide, fun f hf => by cases hf⟩ (fun j hj => by omega), fun i h => ?_⟩
  have h1 := h.1
  have h2 := h.2.1
  simp at h2
  omega
theorem exs16_done : Done13 [(1, 0)] 2 [1, 0] := by
  refine ⟨.next (os := [1]) (.next (os := []) .nil ⟨by decide, by decide, fun f hf => by simp at hf⟩ (fun j hj h => ?_)) ⟨by decide, by decide, fun f hf => ?_⟩ (fun j hj => by omega), fun i h => ?_⟩
  · obtain rfl : j = 0 := by omega
    have := h.2.2 1 (by simp)
    cases this
  · simp at hf
    simp [hf]
  · have h1 := h.1
    have h2 := h.2.1
    simp at h2
    omega
theorem exs16_fine : Fine14 exS16 := by
  refine ⟨by decide, by decide, ⟨⟨by decide, by decide, fun j hj h => ?_⟩, ⟨by decide, by decide, (fun j hj => by cases hj)⟩, ⟨by decide, by decide, fun j hj h => ?_⟩, ⟨by decide, by decide, (fun j hj => by cases hj)⟩⟩, by decide +kernel, (fun j hj => by cases hj), ⟨fun j hj _ => ?_, by decide⟩, (fun j hj => by cases hj), ⟨by decide, fun j hj h => ?_, ?_⟩, ⟨[0], exs16_done1, rfl⟩, ⟨[1, 0], ?_, rfl⟩⟩
  · match j, hj with
    | 0, _ => cases h
  · match j, hj with
    | 0, _ => cases h
    | 1, _ => cases h
  · match j, hj with
    | 0, _ => exact ⟨.inr (.inr ⟨.inr (.inl rfl), rfl⟩), .inl rfl, .inl ⟨rfl, rfl⟩⟩
    | 1, _ => exact ⟨.inl ⟨rfl, exs16_us0, by decide⟩, .inl rfl, .inl ⟨rfl, rfl⟩⟩
  · match j, hj with
    | 0, _ => intro g; cases g.1
    | 1, _ => intro g; cases g.2
  · decide +kernel
  · show Done13 (cut13 2 (tArr14 exS16 2)) 2 [1, 0]
    rw [exs16_cu]
    exact exs16_done
theorem exs16_bh : bh16 exS16 0 false = [1] := by
  have h0 : bhb16 exS16 0 false 0 = false := by
    cases h : bhb16 exS16 0 false 0 with
    | false => rfl
    | true => exact absurd rfl ((bhb16_chain exs16_fine exs16_t0).1 h).1
  have h1 : bhb16 exS16 0 false 1 = true := (bhb16_chain exs16_fine exs16_t1).2 ⟨by decide, 0, by simp, rfl⟩
  show all11 (bhb16 exS16 0 false) 2 = [1]
  simp [all11, List.range_succ, h0, h1]
set_option maxHeartbeats 8000000 in
theorem alive16_any (w : World) : Calls Try.prog 7 #[] w fun e w' => e = .returned (.bool true) ∧ Below w.heap.size w w' := by
  have hb0 := b1' w (.cells #[.int .i64 2, .int .i64 (-1), .int .i64 (-1), .int .i64 1, .int .i64 1] 38)
  have hk0 := Blk.new w 38 #[.int .i64 2, .int .i64 (-1), .int .i64 (-1), .int .i64 1, .int .i64 1]
  have hz0 : (w.alloc (.cells #[.int .i64 2, .int .i64 (-1), .int .i64 (-1), .int .i64 1, .int .i64 1] 38)).heap.size = w.heap.size + 1 := by simp
  obtain ⟨wa, hw0⟩ : ∃ W, w.alloc (.cells #[.int .i64 2, .int .i64 (-1), .int .i64 (-1), .int .i64 1, .int .i64 1] 38) = W := ⟨_, rfl⟩
  rw [hw0] at hb0 hk0 hz0
  have hb1 := b1' wa (.cells #[.int .i64 4, .int .i64 0, .int .i64 (-1), .int .i64 1, .int .i64 1] 38)
  have hk1 := Blk.new wa 38 #[.int .i64 4, .int .i64 0, .int .i64 (-1), .int .i64 1, .int .i64 1]
  have hz1 : (wa.alloc (.cells #[.int .i64 4, .int .i64 0, .int .i64 (-1), .int .i64 1, .int .i64 1] 38)).heap.size = w.heap.size + 2 := by simp [hz0]
  rw [hz0] at hk1
  obtain ⟨wb, hw1⟩ : ∃ W, wa.alloc (.cells #[.int .i64 4, .int .i64 0, .int .i64 (-1), .int .i64 1, .int .i64 1] 38) = W := ⟨_, rfl⟩
  rw [hw1] at hb1 hk1 hz1
  have hb2 := b1' wb (.cells #[.bool true] 4)
  have hk2 := Blk.new wb 4 #[.bool true]
  have hz2 : (wb.alloc (.cells #[.bool true] 4)).heap.size = w.heap.size + 3 := by simp [hz1]
  rw [hz1] at hk2
  obtain ⟨wc, hw2⟩ : ∃ W, wb.alloc (.cells #[.bool true] 4) = W := ⟨_, rfl⟩
  rw [hw2] at hb2 hk2 hz2
  have hb3 := b1' wc (.cells #[.int .i64 2, .int .i64 (-1), .int .i64 (-1), .int .i64 1, .int .i64 1, .int .i64 4, .int .i64 0, .int .i64 (-1), .int .i64 1, .int .i64 1] 38)
  have hk3 := Blk.new wc 38 #[.int .i64 2, .int .i64 (-1), .int .i64 (-1), .int .i64 1, .int .i64 1, .int .i64 4, .int .i64 0, .int .i64 (-1), .int .i64 1, .int .i64 1]
  have hz3 : (wc.alloc (.cells #[.int .i64 2, .int .i64 (-1), .int .i64 (-1), .int .i64 1, .int .i64 1, .int .i64 4, .int .i64 0, .int .i64 (-1), .int .i64 1, .int .i64 1] 38)).heap.size = w.heap.size + 4 := by simp [hz2]
  rw [hz2] at hk3
  obtain ⟨wd, hw3⟩ : ∃ W, wc.alloc (.cells #[.int .i64 2, .int .i64 (-1), .int .i64 (-1), .int .i64 1, .int .i64 1, .int .i64 4, .int .i64 0, .int .i64 (-1), .int .i64 1, .int .i64 1] 38) = W := ⟨_, rfl⟩
  rw [hw3] at hb3 hk3 hz3
  have hb4 := b1' wd (.cells #[.int .i64 1] 3)
  have hk4 := Blk.new wd 3 #[.int .i64 1]
  have hz4 : (wd.alloc (.cells #[.int .i64 1] 3)).heap.size = w.heap.size + 5 := by simp [hz3]
  rw [hz3] at hk4
  obtain ⟨we, hw4⟩ : ∃ W, wd.alloc (.cells #[.int .i64 1] 3) = W := ⟨_, rfl⟩
  rw [hw4] at hb4 hk4 hz4
  have hb5 := b1' we (.cells #[.slice (some ⟨w.heap.size + 2, 0, none⟩) 1 1, .slice none 0 0, .slice (some ⟨w.heap.size + 3, 0, none⟩) 2 2, .slice none 0 0, .slice (some ⟨w.heap.size + 4, 0, none⟩) 1 1, .int .i64 5] 28)
  have hk5 := Blk.new we 28 #[.slice (some ⟨w.heap.size + 2, 0, none⟩) 1 1, .slice none 0 0, .slice (some ⟨w.heap.size + 3, 0, none⟩) 2 2, .slice none 0 0, .slice (some ⟨w.heap.size + 4, 0, none⟩) 1 1, .int .i64 5]
  rw [hz4] at hk5
  obtain ⟨wf, hw5⟩ : ∃ W, we.alloc (.cells #[.slice (some ⟨w.heap.size + 2, 0, none⟩) 1 1, .slice none 0 0, .slice (some ⟨w.heap.size + 3, 0, none⟩) 2 2, .slice none 0 0, .slice (some ⟨w.heap.size + 4, 0, none⟩) 1 1, .int .i64 5] 28) = W := ⟨_, rfl⟩
  rw [hw5] at hb5 hk5
  have hg1 := hb0.trans (hb1.mono (by omega))
  have hg2 := hg1.trans (hb2.mono (by omega))
  have hg3 := hg2.trans (hb3.mono (by omega))
  have hg4 := hg3.trans (hb4.mono (by omega))
  have hg5 := hg4.trans (hb5.mono (by omega))
  have HB0 : Hid (Below w.heap.size w wf) := Lib.hid hg5
  have HK0 := Lib.hid hk5
  have HS0 : Hid (SA14 wf exS16 (some ⟨w.heap.size + 2, 0, none⟩) none (some ⟨w.heap.size + 3, 0, none⟩) none (some ⟨w.heap.size + 4, 0, none⟩) 1 0 2 0 1 1 0 2 0 1 5) := Lib.hid (by
    have hc2 := ((hk2.below hb3 (by omega)).below hb4 (by omega)).below hb5 (by omega)
    have hc3 := (hk3.below hb4 (by omega)).below hb5 (by omega)
    have hc4 := hk4.below hb5 (by omega)
    refine ⟨rfl, rfl, rfl, rfl, rfl, ?_, Lq.nil _ _ _ _, ?_, Lq.nil _ _ _ _, ?_, by omega, by omega, by omega, by omega, by omega, by omega, by omega, by omega, by omega, by omega, rfl⟩
    · refine fun _ => ⟨w.heap.size + 2, 0, rfl, hc2.lt, fun k v hk => ?_⟩
      rw [Nat.zero_add, hc2.cell]
      rw [show fl14 clC exS16.C = [.bool true] from rfl] at hk
      simpa using hk
    · refine fun _ => ⟨w.heap.size + 3, 0, rfl, hc3.lt, fun k v hk => ?_⟩
      rw [Nat.zero_add, hc3.cell]
      rw [show fl14 clH exS16.H = [.int .i64 2, .int .i64 (-1), .int .i64 (-1), .int .i64 1, .int .i64 1, .int .i64 4, .int .i64 0, .int .i64 (-1), .int .i64 1, .int .i64 1] from rfl] at hk
      simpa using hk
    · refine fun _ => ⟨w.heap.size + 4, 0, rfl, hc4.lt, fun k v hk => ?_⟩
      rw [Nat.zero_add, hc4.cell]
      rw [show fl14 clI exS16.Q = [.int .i64 1] from rfl] at hk
      simpa using hk)
  have a0 := hk0.cell
  have a1 := hk1.cell
  have ha := (hk0.below hb1 (by omega)).below hb2 (by omega)
  have hbx := hk1.below hb2 (by omega)
  have x0 := ha.cell 0
  have y0 := hbx.cell 0
  have x1 := ha.cell 1
  have y1 := hbx.cell 1
  have x2 := ha.cell 2
  have y2 := hbx.cell 2
  have x3 := ha.cell 3
  have y3 := hbx.cell 3
  have x4 := ha.cell 4
  have y4 := hbx.cell 4
  have s0 := hk5.cell 0
  have s1 := hk5.cell 1
  have s2 := hk5.cell 2
  have s3 := hk5.cell 3
  have s4 := hk5.cell 4
  have s5 := hk5.cell 5
  clear a0 a1 ha hbx hb0 hk0 hb1 hk1 hb2 hk2 hb3 hk3 hb4 hk4 hb5 hk5 hg1 hg2 hg3 hg4 hg5
  have HC0 := Lib.hid (end16 (.agg #[.slice (some ⟨w.heap.size + 2, 0, none⟩) 1 1, .slice none 0 0, .slice (some ⟨w.heap.size + 3, 0, none⟩) 2 2, .slice none 0 0, .slice (some ⟨w.heap.size + 4, 0, none⟩) 1 1, .int .i64 5]) exS16 1 [1, 0] wf ⟨_, _, _, _, _, _, _, _, _, _, _, _, _, _, _, _, rfl, HS0.out⟩ exs16_fine exs16_t1)
  rw [exs16_e1] at HC0
  go_enter Try.func7, Try.ntmps7
  go_wp2_with fail
  refine HC0.out.mono ?_
  rintro e W1 ⟨rfl, hb⟩
  have HB1 := Lib.hid (HB0.out.trans (hb.mono HB0.out.size))
  have HK1 := Lib.hid (HK0.out.below hb HK0.out.lt)
  have HS1 := Lib.hid (HS0.out.step hb)
  clear HB0 HK0 HS0 hb HC0
  have HC1 := Lib.hid (lives16 (.agg #[.slice (some ⟨w.heap.size + 2, 0, none⟩) 1 1, .slice none 0 0, .slice (some ⟨w.heap.size + 3, 0, none⟩) 2 2, .slice none 0 0, .slice (some ⟨w.heap.size + 4, 0, none⟩) 1 1, .int .i64 5]) exS16 1 [1, 0] W1 ⟨_, _, _, _, _, _, _, _, _, _, _, _, _, _, _, _, rfl, HS1.out⟩ exs16_fine exs16_t1)
  rw [exs16_l0] at HC1
  have y0_0 := HK1.out.cell 0
  have y0_1 := HK1.out.cell 1
  have y0_2 := HK1.out.cell 2
  have y0_3 := HK1.out.cell 3
  have y0_4 := HK1.out.cell 4
  have y0_5 := HK1.out.cell 5
  go_wp2_with fail
  clear y0_0 y0_1 y0_2 y0_3 y0_4 y0_5
  refine HC1.out.mono ?_
  rintro e W2 ⟨rfl, hb⟩
  have HB2 := Lib.hid (HB1.out.trans (hb.mono HB1.out.size))
  have HK2 := Lib.hid (HK1.out.below hb HK1.out.lt)
  have HS2 := Lib.hid (HS1.out.step hb)
  clear HB1 HK1 HS1 hb HC1
  have HC2 := Lib.hid (behind16 (.agg #[.slice (some ⟨w.heap.size + 2, 0, none⟩) 1 1, .slice none 0 0, .slice (some ⟨w.heap.size + 3, 0, none⟩) 2 2, .slice none 0 0, .slice (some ⟨w.heap.size + 4, 0, none⟩) 1 1, .int .i64 5]) exS16 0 W2 ⟨_, _, _, _, _, _, _, _, _, _, _, _, _, _, _, _, rfl, HS2.out⟩ exs16_fine)
  have y1_0 := HK2.out.cell 0
  have y1_1 := HK2.out.cell 1
  have y1_2 := HK2.out.cell 2
  have y1_3 := HK2.out.cell 3
  have y1_4 := HK2.out.cell 4
  have y1_5 := HK2.out.cell 5
  go_wp2_with fail
  clear y1_0 y1_1 y1_2 y1_3 y1_4 y1_5
  refine HC2.out.mono ?_
  rintro e wd ⟨Aa, ca, rfl, hr, hbd⟩
  rw [exs16_bh] at hr ⊢
  have hbe := hbd.trans ((b1' wd (.cells #[.int .i64 1] 3)).mono hbd.size)
  have HRA : Hid (Rd (wd.alloc (.cells #[.int .i64 1] 3)) (wd.alloc (.cells #[.int .i64 1] 3)).heap.size Aa [1]) := Lib.hid ((hr.alloc (Nat.le_refl _) _).more (by simp))
  have HRB := Lib.hid (rd16_one wd)
  have HBE := Lib.hid hbe
  clear HC2 hr hbd hbe
  go_wp2_with fail
  refine (rints11_yes Aa (some ⟨wd.heap.size, 0, none⟩) [1] 1 ca 1 _ rfl HRA.out HRB.out (by omega)).mono ?_
  rintro e W3 ⟨rfl, hg⟩
  have hb := HBE.out.trans ((below16_of hg).mono HBE.out.size)
  clear hg HRA HRB HBE
  have HB3 := Lib.hid (HB2.out.trans (hb.mono HB2.out.size))
  have HK3 := Lib.hid (HK2.out.below hb HK2.out.lt)
  have HS3 := Lib.hid (HS2.out.step hb)
  clear HB2 HK2 HS2 hb
  have HC3 := Lib.hid (closes16 (.agg #[.slice (some ⟨w.heap.size + 2, 0, none⟩) 1 1, .slice none 0 0, .slice (some ⟨w.heap.size + 3, 0, none⟩) 2 2, .slice none 0 0, .slice (some ⟨w.heap.size + 4, 0, none⟩) 1 1, .int .i64 5]) exS16 0 1 [1, 0] W3 ⟨_, _, _, _, _, _, _, _, _, _, _, _, _, _, _, _, rfl, HS3.out⟩ exs16_fine exs16_t1 true (by simp))
  have y2_0 := HK3.out.cell 0
  have y2_1 := HK3.out.cell 1
  have y2_2 := HK3.out.cell 2
  have y2_3 := HK3.out.cell 3
  have y2_4 := HK3.out.cell 4
  have y2_5 := HK3.out.cell 5
  go_wp2_with fail
  clear y2_0 y2_1 y2_2 y2_3 y2_4 y2_5
  refine HC3.out.mono ?_
  rintro e W4 ⟨rfl, hb⟩
  have HB4 := Lib.hid (HB3.out.trans (hb.mono HB3.out.size))
  have HK4 := Lib.hid (HK3.out.below hb HK3.out.lt)
  have HS4 := Lib.hid (HS3.out.step hb)
  clear HB3 HK3 HS3 hb HC3
  have HC4 := Lib.hid (closes16 (.agg #[.slice (some ⟨w.heap.size + 2, 0, none⟩) 1 1, .slice none 0 0, .slice (some ⟨w.heap.size + 3, 0, none⟩) 2 2, .slice none 0 0, .slice (some ⟨w.heap.size + 4, 0, none⟩) 1 1, .int .i64 5]) exS16 1 0 [0] W4 ⟨_, _, _, _, _, _, _, _, _, _, _, _, _, _, _, _, rfl, HS4.out⟩ exs16_fine exs16_t0 false (by simp))
  have y3_0 := HK4.out.cell 0
  have y3_1 := HK4.out.cell 1
  have y3_2 := HK4.out.cell 2
  have y3_3 := HK4.out.cell 3
  have y3_4 := HK4.out.cell 4
  have y3_5 := HK4.out.cell 5
  go_wp2_with fail
  clear y3_0 y3_1 y3_2 y3_3 y3_4 y3_5
  refine HC4.out.mono ?_
  rintro e W5 ⟨rfl, hb⟩
  have HB5 := Lib.hid (HB4.out.trans (hb.mono HB4.out.size))
  have HK5 := Lib.hid (HK4.out.below hb HK4.out.lt)
  have HS5 := Lib.hid (HS4.out.step hb)
  clear HB4 HK4 HS4 hb HC4
  have HC5 := Lib.hid (next16 (.agg #[.slice (some ⟨w.heap.size + 2, 0, none⟩) 1 1, .slice none 0 0, .slice (some ⟨w.heap.size + 3, 0, none⟩) 2 2, .slice none 0 0, .slice (some ⟨w.heap.size + 4, 0, none⟩) 1 1, .int .i64 5]) exS16 0 W5 ⟨_, _, _, _, _, _, _, _, _, _, _, _, _, _, _, _, rfl, HS5.out⟩)
  rw [exs16_n0] at HC5
  have y4_0 := HK5.out.cell 0
  have y4_1 := HK5.out.cell 1
  have y4_2 := HK5.out.cell 2
  have y4_3 := HK5.out.cell 3
  have y4_4 := HK5.out.cell 4
  have y4_5 := HK5.out.cell 5
  go_wp2_with fail
  clear y4_0 y4_1 y4_2 y4_3 y4_4 y4_5
  refine HC5.out.mono ?_
  rintro e W6 ⟨rfl, hb⟩
  have HB6 := Lib.hid (HB5.out.trans (hb.mono HB5.out.size))
  have HK6 := Lib.hid (HK5.out.below hb HK5.out.lt)
  have HS6 := Lib.hid (HS5.out.step hb)
  clear HB5 HK5 HS5 hb HC5
  go_wp2_with fail
  go_ret
  exact ⟨rfl, HB6.out⟩
end Go.Proofs.Ytfjpjbgdmebihaa
