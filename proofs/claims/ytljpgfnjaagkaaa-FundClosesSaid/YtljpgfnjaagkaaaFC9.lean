/-
  SaidFundCloses, part 9 of 13: what the theorem fundCloses_holds reaches.
-/
import Derived.Test.YtljpgfnjaagkaaaFC8
namespace Go.Proofs.Ytljpgfnjaagkaaa
open Go.RowKit
set_option maxRecDepth 100000
theorem cms15 (S : Sv14) (a b : Int) (fb : Bool) (ha : us14 usC S.C a = true) (hb : us14 usC S.C b = true) (h : fb = true ↔ Fnd15 S a b) : cms13 S.C.length (cArr14 S S.T.length) a b = fb := by
  have h1 := us15_lt ha
  have h2 := us15_lt hb
  rw [Bool.eq_iff_iff, h, cms13, decide_eq_true h1, decide_eq_true h2, Bool.true_and, Bool.true_and, wayb_yes]
  exact ⟨fun h => ⟨ha, hb, h⟩, fun h => h.2.2⟩
set_option maxHeartbeats 4000000 in
theorem funds15_0 (v : Value) (S : Sv14) (a b : Int) (w : World) (h : St14 w v S) (ha : us14 usC S.C a = false) :
    Calls Try.prog 13 #[v, .int .i64 a, .int .i64 b] w fun e w' => e = .returned (.bool false) ∧ Below w.heap.size w w' := by
  obtain ⟨A0, A1, A2, A3, A4, n0, n1, n2, n3, n4, c0, c1, c2, c3, c4, sq, rfl, hs⟩ := h
  have hx0 := Bx14.new hs
  have hxn := hx0.step (Below.refl _ _).drew
  obtain ⟨W1, hW1⟩ : ∃ W, w.alloc (.cells #[.slice A0 n0 c0, .slice A1 n1 c1, .slice A2 n2 c2, .slice A3 n3 c3, .slice A4 n4 c4, .int .i64 sq] 28) = W := ⟨_, rfl⟩
  rw [hW1] at hx0 hxn
  have HCa := Lib.hid (fun W (h : Bx14 w S A0 A1 A2 A3 A4 n0 n1 n2 n3 n4 c0 c1 c2 c3 c4 sq W) => coin14 _ S a _ W h.st ha)
  have HXN := Lib.hid hxn
  clear hs hx0 hxn ha
  go_enter Try.func13, Try.ntmps13
  obtain ⟨wn, hwn⟩ : ∃ W, W1.drew = W := ⟨_, rfl⟩
  rw [hwn] at HXN
  go_wp2_with fail
  refine wp_region_held_drew (S := Bx14 w S A0 A1 A2 A3 A4 n0 n1 n2 n3 n4 c0 c1 c2 c3 c4 sq) (by kernel_rfl) (by rw [hwn]; exact HXN.out) (fun hHeld => ?_)
  rw [hwn] at hHeld ⊢
  clear hwn
  have HBS := HXN
  refine tk 0 (v := ?_) (fun W hS => ?_) ?_
  rotate_left
  · try dsimp only at hS
    have z0 := hS.x.cell 0
    have z1 := hS.x.cell 1
    have z2 := hS.x.cell 2
    have z3 := hS.x.cell 3
    have z4 := hS.x.cell 4
    have z5 := hS.x.cell 5
    go_simp
    try with_reducible rfl
  (try dsimp only [Act.put]); try simp only [pt1, pt2, pt3]
  refine tk 1 (v := ?_) (fun W hS => ?_) ?_
  rotate_left
  · (go_simp; try with_reducible rfl)
  (try dsimp only [Act.put]); try simp only [pt1, pt2, pt3]
  refine rdy 2 (fun K hK => ?_)
  have HBS0 := HBS
  go_simp
  refine (HCa.out _ HBS0.out).mono ?_
  rintro e wn ⟨rfl, hb⟩
  have HBS := Lib.hid (HBS0.out.step hb)
  clear hb HBS0
  refine hK.out _ _ HBS.out (fun hHeld => ?_)
  clear hK K
  (try dsimp only [Act.put]); try simp only [pt1, pt2, pt3]
  refine tk 3 (v := ?_) (fun W hS => ?_) ?_
  rotate_left
  · (go_simp; try with_reducible rfl)
  (try dsimp only [Act.put]); try simp only [pt1, pt2, pt3]
  refine sk 4 ?_
  (try dsimp only [Act.put]); try simp only [pt1, pt2, pt3]
  refine sk 5 ?_
  (try dsimp only [Act.put]); try simp only [pt1, pt2, pt3]
  refine sk 6 ?_
  (try dsimp only [Act.put]); try simp only [pt1, pt2, pt3]
  refine tk 7 (v := ?_) (fun W hS => ?_) ?_
  rotate_left
  · (go_simp; try with_reducible rfl)
  (try dsimp only [Act.put]); try simp only [pt1, pt2, pt3]
  refine tk 8 (v := ?_) (fun W hS => ?_) ?_
  rotate_left
  · (go_simp; try with_reducible rfl)
  (try dsimp only [Act.put]); try simp only [pt1, pt2, pt3]
  refine sk 9 ?_
  (try dsimp only [Act.put]); try simp only [pt1, pt2, pt3]
  refine sk 10 ?_
  (try dsimp only [Act.put]); try simp only [pt1, pt2, pt3]
  refine sk 11 ?_
  (try dsimp only [Act.put]); try simp only [pt1, pt2, pt3]
  refine sk 12 ?_
  (try dsimp only [Act.put]); try simp only [pt1, pt2, pt3]
  refine sk 13 ?_
  (try dsimp only [Act.put]); try simp only [pt1, pt2, pt3]
  refine sk 14 ?_
  (try dsimp only [Act.put]); try simp only [pt1, pt2, pt3]
  refine sk 15 ?_
  (try dsimp only [Act.put]); try simp only [pt1, pt2, pt3]
  refine sk 16 ?_
  (try dsimp only [Act.put]); try simp only [pt1, pt2, pt3]
  refine tk 17 (v := ?_) (fun W hS => ?_) ?_
  rotate_left
  · (go_simp; try with_reducible rfl)
  (try dsimp only [Act.put]); try simp only [pt1, pt2, pt3]
  refine rdy 18 (fun K hK => ?_)
  go_simp
  refine hK.out _ _ HBS.out (fun hHeld => ?_)
  clear hK K
  (try dsimp only [Act.put]); try simp only [pt1, pt2, pt3]
  refine wpAnyH_done (by kernel_rfl) ?_ _
  clear hHeld
  go_wp2_with fail
  go_ret
  exact ⟨rfl, HBS.out.b⟩
set_option maxHeartbeats 4000000 in
theorem funds15_1 (v : Value) (S : Sv14) (a b : Int) (w : World) (h : St14 w v S) (ha : us14 usC S.C a = true) (hb : us14 usC S.C b = false) :
    Calls Try.prog 13 #[v, .int .i64 a, .int .i64 b] w fun e w' => e = .returned (.bool false) ∧ Below w.heap.size w w' := by
  obtain ⟨A0, A1, A2, A3, A4, n0, n1, n2, n3, n4, c0, c1, c2, c3, c4, sq, rfl, hs⟩ := h
  have hx0 := Bx14.new hs
  have hxn := hx0.step (Below.refl _ _).drew
  obtain ⟨W1, hW1⟩ : ∃ W, w.alloc (.cells #[.slice A0 n0 c0, .slice A1 n1 c1, .slice A2 n2 c2, .slice A3 n3 c3, .slice A4 n4 c4, .int .i64 sq] 28) = W := ⟨_, rfl⟩
  rw [hW1] at hx0 hxn
  have HCa := Lib.hid (fun W (h : Bx14 w S A0 A1 A2 A3 A4 n0 n1 n2 n3 n4 c0 c1 c2 c3 c4 sq W) => coin14 _ S a _ W h.st ha)
  have HCb := Lib.hid (fun W (h : Bx14 w S A0 A1 A2 A3 A4 n0 n1 n2 n3 n4 c0 c1 c2 c3 c4 sq W) => coin14 _ S b _ W h.st hb)
  have HXN := Lib.hid hxn
  clear hs hx0 hxn ha hb
  go_enter Try.func13, Try.ntmps13
  obtain ⟨wn, hwn⟩ : ∃ W, W1.drew = W := ⟨_, rfl⟩
  rw [hwn] at HXN
  go_wp2_with fail
  refine wp_region_held_drew (S := Bx14 w S A0 A1 A2 A3 A4 n0 n1 n2 n3 n4 c0 c1 c2 c3 c4 sq) (by kernel_rfl) (by rw [hwn]; exact HXN.out) (fun hHeld => ?_)
  rw [hwn] at hHeld ⊢
  clear hwn
  have HBS := HXN
  refine tk 0 (v := ?_) (fun W hS => ?_) ?_
  rotate_left
  · try dsimp only at hS
    have z0 := hS.x.cell 0
    have z1 := hS.x.cell 1
    have z2 := hS.x.cell 2
    have z3 := hS.x.cell 3
    have z4 := hS.x.cell 4
    have z5 := hS.x.cell 5
    go_simp
    try with_reducible rfl
  (try dsimp only [Act.put]); try simp only [pt1, pt2, pt3]
  refine tk 1 (v := ?_) (fun W hS => ?_) ?_
  rotate_left
  · (go_simp; try with_reducible rfl)
  (try dsimp only [Act.put]); try simp only [pt1, pt2, pt3]
  refine rdy 2 (fun K hK => ?_)
  have HBS0 := HBS
  go_simp
  refine (HCa.out _ HBS0.out).mono ?_
  rintro e wn ⟨rfl, hb⟩
  have HBS := Lib.hid (HBS0.out.step hb)
  clear hb HBS0
  refine hK.out _ _ HBS.out (fun hHeld => ?_)
  clear hK K
  (try dsimp only [Act.put]); try simp only [pt1, pt2, pt3]
  refine tk 3 (v := ?_) (fun W hS => ?_) ?_
  rotate_left
  · (go_simp; try with_reducible rfl)
  (try dsimp only [Act.put]); try simp only [pt1, pt2, pt3]
  refine tk 4 (v := ?_) (fun W hS => ?_) ?_
  rotate_left
  · try dsimp only at hS
    have z0 := hS.x.cell 0
    have z1 := hS.x.cell 1
    have z2 := hS.x.cell 2
    have z3 := hS.x.cell 3
    have z4 := hS.x.cell 4
    have z5 := hS.x.cell 5
    go_simp
    try with_reducible rfl
  (try dsimp only [Act.put]); try simp only [pt1, pt2, pt3]
  refine tk 5 (v := ?_) (fun W hS => ?_) ?_
  rotate_left
  · (go_simp; try with_reducible rfl)
  (try dsimp only [Act.put]); try simp only [pt1, pt2, pt3]
  refine rdy 6 (fun K hK => ?_)
  have HBS0 := HBS
  go_simp
  refine (HCb.out _ HBS0.out).mono ?_
  rintro e wn ⟨rfl, hb⟩
  have HBS := Lib.hid (HBS0.out.step hb)
  clear hb HBS0
  refine hK.out _ _ HBS.out (fun hHeld => ?_)
  clear hK K
  (try dsimp only [Act.put]); try simp only [pt1, pt2, pt3]
  refine tk 7 (v := ?_) (fun W hS => ?_) ?_
  rotate_left
  · (go_simp; try with_reducible rfl)
  (try dsimp only [Act.put]); try simp only [pt1, pt2, pt3]
  refine tk 8 (v := ?_) (fun W hS => ?_) ?_
  rotate_left
  · (go_simp; try with_reducible rfl)
  (try dsimp only [Act.put]); try simp only [pt1, pt2, pt3]
  refine sk 9 ?_
  (try dsimp only [Act.put]); try simp only [pt1, pt2, pt3]
  refine sk 10 ?_
  (try dsimp only [Act.put]); try simp only [pt1, pt2, pt3]
  refine sk 11 ?_
  (try dsimp only [Act.put]); try simp only [pt1, pt2, pt3]
  refine sk 12 ?_
  (try dsimp only [Act.put]); try simp only [pt1, pt2, pt3]
  refine sk 13 ?_
  (try dsimp only [Act.put]); try simp only [pt1, pt2, pt3]
  refine sk 14 ?_
  (try dsimp only [Act.put]); try simp only [pt1, pt2, pt3]
  refine sk 15 ?_
  (try dsimp only [Act.put]); try simp only [pt1, pt2, pt3]
  refine sk 16 ?_
  (try dsimp only [Act.put]); try simp only [pt1, pt2, pt3]
  refine tk 17 (v := ?_) (fun W hS => ?_) ?_
  rotate_left
  · (go_simp; try with_reducible rfl)
  (try dsimp only [Act.put]); try simp only [pt1, pt2, pt3]
  refine rdy 18 (fun K hK => ?_)
  go_simp
  refine hK.out _ _ HBS.out (fun hHeld => ?_)
  clear hK K
  (try dsimp only [Act.put]); try simp only [pt1, pt2, pt3]
  refine wpAnyH_done (by kernel_rfl) ?_ _
  clear hHeld
  go_wp2_with fail
  go_ret
  exact ⟨rfl, HBS.out.b⟩
set_option maxHeartbeats 4000000 in
theorem funds15_2 (v : Value) (S : Sv14) (a b : Int) (w : World) (h : St14 w v S) (ha : us14 usC S.C a = true) (hb : us14 usC S.C b = true) (fb : Bool) (hf : fb = true ↔ Fnd15 S a b) :
    Calls Try.prog 13 #[v, .int .i64 a, .int .i64 b] w fun e w' => e = .returned (.bool fb) ∧ Below w.heap.size w w' := by
  obtain ⟨A0, A1, A2, A3, A4, n0, n1, n2, n3, n4, c0, c1, c2, c3, c4, sq, rfl, hs⟩ := h
  have hx0 := Bx14.new hs
  have hxn := hx0.step (Below.refl _ _).drew
  obtain ⟨W1, hW1⟩ : ∃ W, w.alloc (.cells #[.slice A0 n0 c0, .slice A1 n1 c1, .slice A2 n2 c2, .slice A3 n3 c3, .slice A4 n4 c4, .int .i64 sq] 28) = W := ⟨_, rfl⟩
  rw [hW1] at hx0 hxn
  have HCa := Lib.hid (fun W (h : Bx14 w S A0 A1 A2 A3 A4 n0 n1 n2 n3 n4 c0 c1 c2 c3 c4 sq W) => coin14 _ S a _ W h.st ha)
  have HCb := Lib.hid (fun W (h : Bx14 w S A0 A1 A2 A3 A4 n0 n1 n2 n3 n4 c0 c1 c2 c3 c4 sq W) => coin14 _ S b _ W h.st hb)
  have HCA := Lib.hid (fun W (h : Bx14 w S A0 A1 A2 A3 A4 n0 n1 n2 n3 n4 c0 c1 c2 c3 c4 sq W) => coinArrows14 _ S W h.st)
  have hl0 := hs.l0
  have hm0 := hs.m0
  have HLA : Hid ((cArr14 S S.T.length).length ≤ 1000000) := Lib.hid (by have := cArr14_len S S.T.length; have := hs.l1; have := hs.m1; omega)
  have HCM := Lib.hid (fun W Ad c (hr : Aq W W.heap.size Ad (cArr14 S S.T.length)) => dcomes13_any (n0 : Int) n0 (by unfold nn13; omega) Ad _ _ c a b W rfl hr HLA.out)
  rw [← hl0, cms15 S a b fb ha hb hf, hl0] at HCM
  have HXN := Lib.hid hxn
  clear hs hx0 hxn ha hb hl0 hm0 hf
  go_enter Try.func13, Try.ntmps13
  obtain ⟨wn, hwn⟩ : ∃ W, W1.drew = W := ⟨_, rfl⟩
  rw [hwn] at HXN
  go_wp2_with fail
  refine wp_region_held_drew (S := Bx14 w S A0 A1 A2 A3 A4 n0 n1 n2 n3 n4 c0 c1 c2 c3 c4 sq) (by kernel_rfl) (by rw [hwn]; exact HXN.out) (fun hHeld => ?_)
  rw [hwn] at hHeld ⊢
  clear hwn
  have HBS := HXN
  refine tk 0 (v := ?_) (fun W hS => ?_) ?_
  rotate_left
  · try dsimp only at hS
    have z0 := hS.x.cell 0
    have z1 := hS.x.cell 1
    have z2 := hS.x.cell 2
    have z3 := hS.x.cell 3
    have z4 := hS.x.cell 4
    have z5 := hS.x.cell 5
    go_simp
    try with_reducible rfl
  (try dsimp only [Act.put]); try simp only [pt1, pt2, pt3]
  refine tk 1 (v := ?_) (fun W hS => ?_) ?_
  rotate_left
  · (go_simp; try with_reducible rfl)
  (try dsimp only [Act.put]); try simp only [pt1, pt2, pt3]
  refine rdy 2 (fun K hK => ?_)
  have HBS0 := HBS
  go_simp
  refine (HCa.out _ HBS0.out).mono ?_
  rintro e wn ⟨rfl, hb⟩
  have HBS := Lib.hid (HBS0.out.step hb)
  clear hb HBS0
  refine hK.out _ _ HBS.out (fun hHeld => ?_)
  clear hK K
  (try dsimp only [Act.put]); try simp only [pt1, pt2, pt3]
  refine tk 3 (v := ?_) (fun W hS => ?_) ?_
  rotate_left
  · (go_simp; try with_reducible rfl)
  (try dsimp only [Act.put]); try simp only [pt1, pt2, pt3]
  refine tk 4 (v := ?_) (fun W hS => ?_) ?_
  rotate_left
  · try dsimp only at hS
    have z0 := hS.x.cell 0
    have z1 := hS.x.cell 1
    have z2 := hS.x.cell 2
    have z3 := hS.x.cell 3
    have z4 := hS.x.cell 4
    have z5 := hS.x.cell 5
    go_simp
    try with_reducible rfl
  (try dsimp only [Act.put]); try simp only [pt1, pt2, pt3]
  refine tk 5 (v := ?_) (fun W hS => ?_) ?_
  rotate_left
  · (go_simp; try with_reducible rfl)
  (try dsimp only [Act.put]); try simp only [pt1, pt2, pt3]
  refine rdy 6 (fun K hK => ?_)
  have HBS0 := HBS
  go_simp
  refine (HCb.out _ HBS0.out).mono ?_
  rintro e wn ⟨rfl, hb⟩
  have HBS := Lib.hid (HBS0.out.step hb)
  clear hb HBS0
  refine hK.out _ _ HBS.out (fun hHeld => ?_)
  clear hK K
  (try dsimp only [Act.put]); try simp only [pt1, pt2, pt3]
  refine tk 7 (v := ?_) (fun W hS => ?_) ?_
  rotate_left
  · (go_simp; try with_reducible rfl)
  (try dsimp only [Act.put]); try simp only [pt1, pt2, pt3]
  refine tk 8 (v := ?_) (fun W hS => ?_) ?_
  rotate_left
  · (go_simp; try with_reducible rfl)
  (try dsimp only [Act.put]); try simp only [pt1, pt2, pt3]
  refine tk 9 (v := ?_) (fun W hS => ?_) ?_
  rotate_left
  · (go_simp; try with_reducible rfl)
  (try dsimp only [Act.put]); try simp only [pt1, pt2, pt3]
  refine tk 10 (v := ?_) (fun W hS => ?_) ?_
  rotate_left
  · try dsimp only at hS
    have z0 := hS.x.cell 0
    go_simp
    try with_reducible rfl
  (try dsimp only [Act.put]); try simp only [pt1, pt2, pt3]
  refine tk 11 (v := ?_) (fun W hS => ?_) ?_
  rotate_left
  · (go_simp; try with_reducible rfl)
  (try dsimp only [Act.put]); try simp only [pt1, pt2, pt3]
  refine tk 12 (v := ?_) (fun W hS => ?_) ?_
  rotate_left
  · try dsimp only at hS
    have z0 := hS.x.cell 0
    have z1 := hS.x.cell 1
    have z2 := hS.x.cell 2
    have z3 := hS.x.cell 3
    have z4 := hS.x.cell 4
    have z5 := hS.x.cell 5
    go_simp
    try with_reducible rfl
  (try dsimp only [Act.put]); try simp only [pt1, pt2, pt3]
  refine tk 14 (v := ?_) (fun W hS => ?_) ?_
  rotate_left
  · (go_simp; try with_reducible rfl)
  (try dsimp only [Act.put]); try simp only [pt1, pt2, pt3]
  refine tk 15 (v := ?_) (fun W hS => ?_) ?_
  rotate_left
  · (go_simp; try with_reducible rfl)
  (try dsimp only [Act.put]); try simp only [pt1, pt2, pt3]
  refine rdy 13 (fun K hK => ?_)
  have HBS0 := HBS
  go_simp
  refine (HCA.out _ HBS0.out).mono ?_
  rintro e wn ⟨Ac, cc, rfl, hqa, hb⟩
  have HBS := Lib.hid (HBS0.out.step hb)
  have HQA := Lib.hid hqa
  clear hqa
  clear hb HBS0
  refine hK.out _ _ HBS.out (fun hHeld => ?_)
  clear hK K
  (try dsimp only [Act.put]); try simp only [pt1, pt2, pt3]
  refine rdy 16 (fun K hK => ?_)
  have HBS0 := HBS
  go_simp
  refine (HCM.out _ Ac cc HQA.out).mono ?_
  rintro e wn ⟨rfl, hb⟩
  have HBS := Lib.hid (HBS0.out.step hb)
  clear hb HBS0 HQA
  refine hK.out _ _ HBS.out (fun hHeld => ?_)
  clear hK K
  (try dsimp only [Act.put]); try simp only [pt1, pt2, pt3]
  refine tk 17 (v := ?_) (fun W hS => ?_) ?_
  rotate_left
  · (go_simp; try with_reducible rfl)
  (try dsimp only [Act.put]); try simp only [pt1, pt2, pt3]
  refine rdy 18 (fun K hK => ?_)
  go_simp
  refine hK.out _ _ HBS.out (fun hHeld => ?_)
  clear hK K
  (try dsimp only [Act.put]); try simp only [pt1, pt2, pt3]
  refine wpAnyH_done (by kernel_rfl) ?_ _
  clear hHeld
  go_wp2_with fail
  go_ret
  exact ⟨rfl, HBS.out.b⟩
theorem funds15 (v : Value) (S : Sv14) (a b : Int) (w : World) (h : St14 w v S) (fb : Bool) (hf : fb = true ↔ Fnd15 S a b) :
    Calls Try.prog 13 #[v, .int .i64 a, .int .i64 b] w fun e w' => e = .returned (.bool fb) ∧ Below w.heap.size w w' := by
  cases ha : us14 usC S.C a with
  | false =>
    obtain rfl : fb = false := bool14_of hf (fun h => by rw [h.1] at ha; cases ha)
    exact funds15_0 v S a b w h ha
  | true =>
    cases hb : us14 usC S.C b with
    | false =>
      obtain rfl : fb = false := bool14_of hf (fun h => by rw [h.2.1] at hb; cases hb)
      exact funds15_1 v S a b w h ha hb
    | true => exact funds15_2 v S a b w h ha hb fb hf
/-- Would there be a ring? -/
def Clo15 (S : Sv14) (f t : Int) : Prop := us14 usC S.C f = true ∧ f = t ∨ Fnd15 S t f
set_option maxHeartbeats 4000000 in
theorem closes15 (v : Value) (S : Sv14) (f t : Int) (w : World) (h : St14 w v S) (cb : Bool) (hc : cb = true ↔ Clo15 S f t) :
    Calls Try.prog 14 #[v, .int .i64 f, .int .i64 t] w fun e w' => e = .returned (.bool cb) ∧ Below w.heap.size w w' := by
  obtain ⟨A0, A1, A2, A3, A4, n0, n1, n2, n3, n4, c0, c1, c2, c3, c4, sq, rfl, hs⟩ := h
  have hx0 := Bx14.new hs
  have hxn := hx0.step (Below.refl _ _).drew
  obtain ⟨W1, hW1⟩ : ∃ W, w.alloc (.cells #[.slice A0 n0 c0, .slice A1 n1 c1, .slice A2 n2 c2, .slice A3 n3 c3, .slice A4 n4 c4, .int .i64 sq] 28) = W := ⟨_, rfl⟩
  rw [hW1] at hx0 hxn
  obtain ⟨bf, hbf⟩ : ∃ b, us14 usC S.C f = b := ⟨_, rfl⟩
  have HCC := Lib.hid (coin14 _ S f bf W1 hx0.st hbf)
  have HX1 := Lib.hid hx0
  have x0 := hx0.x.cell 0
  have x1 := hx0.x.cell 1
  have x2 := hx0.x.cell 2
  have x3 := hx0.x.cell 3
  have x4 := hx0.x.cell 4
  have x5 := hx0.x.cell 5
  by_cases hy : bf = true ∧ f = t
  · obtain ⟨rfl, rfl⟩ := hy
    obtain rfl : cb = true := hc.2 (.inl ⟨hbf, rfl⟩)
    clear hs hx0 hxn hbf hc
    go_enter Try.func14, Try.ntmps14
    go_wp2_with fail
    refine HCC.out.mono ?_
    rintro e w3 ⟨rfl, hb3⟩
    have HX3 := Lib.hid (HX1.out.step hb3)
    clear HCC hb3
    go_wp2_with fail
    go_ret
    exact ⟨rfl, HX3.out.b⟩
  · have HF := Lib.hid (fun W (h : Bx14 w S A0 A1 A2 A3 A4 n0 n1 n2 n3 n4 c0 c1 c2 c3 c4 sq W) => funds15 _ S t f W h.st cb (by
      rw [hc]
      constructor
      · rintro (h | h)
        · exact absurd ⟨by rw [← hbf]; exact h.1, h.2⟩ hy
        · exact h
      · exact .inr))
    clear hs hx0 hxn hbf hc
    cases bf with
    | false =>
      clear hy
      go_enter Try.func14, Try.ntmps14
      go_wp2_with fail
      refine HCC.out.mono ?_
      rintro e w3 ⟨rfl, hb3⟩
      have HX3 := Lib.hid (HX1.out.step hb3)
      clear HCC hb3
      have y0 := HX3.out.x.cell 0
      have y1 := HX3.out.x.cell 1
      have y2 := HX3.out.x.cell 2
      have y3 := HX3.out.x.cell 3
      have y4 := HX3.out.x.cell 4
      have y5 := HX3.out.x.cell 5
      go_wp2_with fail
      refine (HF.out _ HX3.out).mono ?_
      rintro e w4 ⟨rfl, hb4⟩
      have HX4 := Lib.hid (HX3.out.step hb4)
      clear HF hb4
      go_wp2_with fail
      go_ret
      exact ⟨rfl, HX4.out.b⟩
    | true =>
      have hft : (f == t) = false := by simpa using hy
      clear hy
      go_enter Try.func14, Try.ntmps14
      go_wp2_with fail
      refine HCC.out.mono ?_
      rintro e w3 ⟨rfl, hb3⟩
      have HX3 := Lib.hid (HX1.out.step hb3)
      clear HCC hb3
      have y0 := HX3.out.x.cell 0
      have y1 := HX3.out.x.cell 1
      have y2 := HX3.out.x.cell 2
      have y3 := HX3.out.x.cell 3
      have y4 := HX3.out.x.cell 4
      have y5 := HX3.out.x.cell 5
      go_wp2_with fail
      refine (HF.out _ HX3.out).mono ?_
      rintro e w4 ⟨rfl, hb4⟩
      have HX4 := Lib.hid (HX3.out.step hb4)
      clear HF hb4
      go_wp2_with fail
      go_ret
      exact ⟨rfl, HX4.out.b⟩
set_option maxHeartbeats 2000000 in
theorem hasc15 (A : Option Addr) (n cc : Nat) (T : Nat → Bool) (c : Int) (w : World) (b : Bool) (hr : Rv w w.heap.size A (bls T n)) (hb : has15 n T c = b) :
    Calls Try.prog 46 #[.slice A n cc, .int .i64 c] w fun e w' => e = .returned (.bool b) ∧ Below w.heap.size w w' := by
  by_cases h0 : 0 ≤ c
  · by_cases h1 : c < (n : Int)
    · obtain ⟨k, rfl⟩ : ∃ k : Nat, c = (k : Int) := ⟨c.toNat, by omega⟩
      rw [has15_in ⟨h0, h1⟩, Int.toNat_natCast] at hb
      obtain ⟨g, o, hA, _, q0⟩ := bls_at hr (show k < n by omega)
      rw [hb] at q0
      subst hA
      clear hr hb
      go_enter Try.func46, Try.ntmps46
      go_wp2_with fail
      go_ret
      exact ⟨rfl, Below.refl _ _⟩
    · obtain rfl : false = b := by rw [← hb, has15, decide_eq_false (fun h => h1 h.2), Bool.false_and]
      clear hr hb
      go_enter Try.func46, Try.ntmps46
      go_wp2_with fail
      go_ret
      exact ⟨rfl, Below.refl _ _⟩
  · obtain rfl : false = b := by rw [← hb, has15, decide_eq_false (fun h => h0 h.1), Bool.false_and]
    clear hr hb
    go_enter Try.func46, Try.ntmps46
    go_wp2_with fail
    go_ret
    exact ⟨rfl, Below.refl _ _⟩
set_option maxHeartbeats 2000000 in
theorem list15 (A : Option Addr) (n c : Nat) (T : Nat → Bool) (w : World) (h : Rv w w.heap.size A (bls T n)) (hn : n ≤ 4096) :
    Calls Try.prog 44 #[.slice A n c] w (RetR15 w (all11 T n)) := by
  have HR := Lib.hid h
  have HP : Hid (RetR15 w (all11 T n) = fun e w' => ∃ A c, e = .returned (.slice A (all11 T n).length c) ∧ Rd w' w'.heap.size A (all11 T n) ∧ Below w.heap.size w w') := Lib.hid rfl
  clear h
  go_enter Try.func44, Try.ntmps44
  go_wp2_with fail
  go_loopw [2, 7] (fun ov iv wr => ∃ (i m c2 : Nat) (A2 : Option Addr), iv = .int .i64 (i : Int) ∧ i ≤ n ∧ ov = .slice A2 m c2 ∧ m ≤ 4096 ∧ Hid ((all11 T i).length = m) ∧ Hid (wr.ownsRow w.heap.size 3 1 (.slice A2 m c2) m (ints (all11 T i))) ∧ Hid (Below w.heap.size w wr)) (fun _ iv _ => n - (intOf iv).toNat)
  case atStart => exact ⟨0, 0, 0, none, rfl, by omega, rfl, by omega, Lib.hid rfl, Lib.hid (World.ownsRow_nil _ _ _ _), Lib.hid (Below.refl _ _)⟩
  case round =>
    obtain ⟨i, m, c2, A2, rfl, hi, rfl, hm, HL, HO, HB⟩ := hrel
    by_cases hin : i < n
    · obtain ⟨a, o, hA, _, ca⟩ := bls_at (HR.out.below HB.out (Nat.le_refl _)) hin
      subst hA
      have i0 : (0 : Int) ≤ (i : Int) := by omega
      have i1 : (i : Int) < (n : Int) := by omega
      have hnx := all11_next T i
      have hlen := all11_len T (i + 1)
      cases ht : T i with
      | false =>
        rw [ht] at ca hnx
        have HN : Hid (all11 T (i + 1) = all11 T i) := Lib.hid (by rw [hnx]; simp)
        clear hnx hlen ht
        go_wp2_with fail
        go_roundw
        case rel => exact ⟨i + 1, m, c2, A2, by go_num, by omega, rfl, hm, by rw [HN.out]; exact HL, by rw [HN.out]; exact HO, HB⟩
        case measure => simp [intOf]; omega
      | true =>
        rw [ht] at ca hnx
        have HN : Hid (all11 T (i + 1) = all11 T i ++ [i]) := Lib.hid (by rw [hnx]; simp)
        have hm2 : m + 1 ≤ 4096 := by
          rw [HN.out, List.length_append, HL.out] at hlen
          simp at hlen
          omega
        have HBS := HB.out.size
        clear hnx hlen ht
        go_wp2_with (at_builtin; go_loud (refine wpList_append_rv _ rfl (.tmp 13) (.tmp 15) 26 rfl w.heap.size 3 (.int .i64 0) 8 Try.underlying26 info_int11 rfl (by omega) (.slice A2 m c2) m (ints (all11 T i)) rfl (own7_keep HO.out (b1' _ _)) (wr.heap.size + 1) (some ⟨wr.heap.size, 0, none⟩) 1 (ints [i]) _ rfl rfl (Rd.rv11 (Rd.one wr i 3)) (ints_one [i]) (by omega) (by simp; omega) ?_); intro A' c' w3 hc3 hown3 hg3 hbl3)
        have HB3 : Hid (Below w.heap.size w w3) := Lib.hid ((HB.out.trans ((b1' wr _).mono HBS)).grown hg3 (by simp; omega) (fun r hr => (World.ownsRow.lt (own7_keep HO.out (b1' wr (.cells #[.int .i64 (i : Int)] 3))) r hr).1))
        have HO3 : Hid (w3.ownsRow w.heap.size 3 1 (.slice A' (m + 1) c') (m + 1) (ints (all11 T (i + 1)))) := Lib.hid (by rw [HN.out, ints_append]; exact hown3.out)
        have HL3 : Hid ((all11 T (i + 1)).length = m + 1) := Lib.hid (by rw [HN.out, List.length_append, HL.out]; rfl)
        clear hown3 hg3 hbl3
        go_wp2_with fail
        go_roundw
        case rel => exact ⟨i + 1, m + 1, c', A', by go_num, by omega, rfl, hm2, HL3, HO3, HB3⟩
        case measure => simp [intOf]; omega
    · obtain rfl : i = n := by omega
      have i1 : ¬ (i : Int) < (i : Int) := by omega
      go_wp2_with fail
      go_ret
      rw [HP.out]
      exact ⟨A2, c2, by rw [HL.out]; rfl, rd15_own HO.out HL.out, HB.out⟩
end Go.Proofs.Ytljpgfnjaagkaaa
namespace Go.Proofs.Ytljpgfnjaagkaaa
open Go.RowKit
set_option maxRecDepth 100000
set_option maxHeartbeats 4000000 in
theorem wic15 (j gl gx : Nat) (S : Sv14) (A0 A1 A2 A3 A4 : Option Addr) (n0 n1 n2 n3 n4 c0 c1 c2 c3 c4 : Nat) (sq : Int) (AL : Option Addr) (nL cL : Nat) (T : Nat → Bool) (w : World) (hgl : w.cell? ⟨gl, 0, none⟩ = some (.slice AL nL cL)) (hx : Blk w gx 28 #[.slice A0 n0 c0, .slice A1 n1 c1, .slice A2 n2 c2, .slice A3 n3 c3, .slice A4 n4 c4, .int .i64 sq]) (hs : SA14 w S A0 A1 A2 A3 A4 n0 n1 n2 n3 n4 c0 c1 c2 c3 c4 sq)
    (hL : Rv w w.heap.size AL (bls T nL)) (hj : j < S.T.length) (b : Bool) (hb : has15 nL T (gt14 S.T j).c = b) :
    Calls Try.prog 61 #[.int .i64 (j : Int), .pointer (some ⟨gl, 0, none⟩), .pointer (some ⟨gx, 0, none⟩)] w fun e w' => e = .returned (.bool (!b)) ∧ Below w.heap.size w w' := by
  have hl1 := hs.l1
  have hm1 := hs.m1
  obtain ⟨a, of, hA, hab, hq⟩ := Lq.at_ len14T (by omega) hs.r1 hj
  subst hA
  have HE := hq 1 _ rfl
  have HGL := World.block_lt_of_cell? w _ hgl
  have HGX := hx.lt
  have X1 := hx.cell 1
  have HH := Lib.hid (fun W (h : Below w.heap.size w W) => hasc15 AL nL cL T (gt14 S.T j).c W b (hL.below h (Nat.le_refl _) |>.more h.size) hb)
  have i0 : (0 : Int) ≤ (j : Int) := by omega
  have i1 : (j : Int) < (n1 : Int) := by omega
  obtain ⟨xc, hxc⟩ : ∃ y, (gt14 S.T j).c = y := ⟨_, rfl⟩
  rw [hxc] at HH
  have HE2 : w.cell? ⟨a, of + j * 6 + 1, none⟩ = some (.int .i64 xc) := by rw [← hxc]; exact HE
  have HXN := Lib.hid (Below.refl w.heap.size w).drew
  clear hs hx hL hq HE hxc hb hl1 hm1
  have HG0 := Lib.hid hgl
  have HX1 := Lib.hid X1
  have HE3 := Lib.hid HE2
  clear hgl X1 HE2
  go_enter Try.func61, Try.ntmps61
  obtain ⟨wn, hwn⟩ : ∃ W, w.drew = W := ⟨_, rfl⟩
  rw [hwn] at HXN
  go_wp2_with fail
  refine wp_region_held_drew (S := fun W => Below w.heap.size w W) (by kernel_rfl) (by rw [hwn]; exact HXN.out) (fun hHeld => ?_)
  rw [hwn] at hHeld ⊢
  clear hwn
  have HBS := HXN
  refine tk 0 (v := ?_) (fun W hS => ?_) ?_
  rotate_left
  · try dsimp only at hS
    have z0 := (hS.cell (p := ⟨gl, 0, none⟩) HGL).trans HG0.out
    go_simp
    try with_reducible rfl
  (try dsimp only [Act.put]); try simp only [pt1, pt2, pt3]
  refine tk 1 (v := ?_) (fun W hS => ?_) ?_
  rotate_left
  · (go_simp; try with_reducible rfl)
  (try dsimp only [Act.put]); try simp only [pt1, pt2, pt3]
  refine tk 2 (v := ?_) (fun W hS => ?_) ?_
  rotate_left
  · try dsimp only at hS
    have z0 := (hS.cell (p := ⟨gx, 1, none⟩) HGX).trans HX1.out
    go_simp
    try with_reducible rfl
  (try dsimp only [Act.put]); try simp only [pt1, pt2, pt3]
  refine tk 3 (v := ?_) (fun W hS => ?_) ?_
  rotate_left
  · (go_simp; try with_reducible rfl)
  (try dsimp only [Act.put]); try simp only [pt1, pt2, pt3]
  refine tk 4 (v := ?_) (fun W hS => ?_) ?_
  rotate_left
  · (go_simp; try with_reducible rfl)
  (try dsimp only [Act.put]); try simp only [pt1, pt2, pt3]
  refine tk 5 (v := ?_) (fun W hS => ?_) ?_
  rotate_left
  · (go_simp; try with_reducible rfl)
  (try dsimp only [Act.put]); try simp only [pt1, pt2, pt3]
  refine tk 6 (v := ?_) (fun W hS => ?_) ?_
  rotate_left
  · try dsimp only at hS
    have z0 := (hS.cell (p := ⟨a, of + j * 6 + 1, none⟩) hab).trans HE3.out
    go_simp
    try with_reducible rfl
  (try dsimp only [Act.put]); try simp only [pt1, pt2, pt3]
  refine rdy 7 (fun K hK => ?_)
  have HBS0 := HBS
  go_simp
  refine (HH.out _ HBS0.out).mono ?_
  rintro e wn ⟨rfl, hb⟩
  have HBS := Lib.hid (HBS0.out.trans (hb.mono HBS0.out.size))
  clear hb HBS0
  refine hK.out _ _ HBS.out (fun hHeld => ?_)
  clear hK K
  (try dsimp only [Act.put]); try simp only [pt1, pt2, pt3]
  refine tk 8 (v := ?_) (fun W hS => ?_) ?_
  rotate_left
  · (go_simp; try with_reducible rfl)
  (try dsimp only [Act.put]); try simp only [pt1, pt2, pt3]
  refine rdy 9 (fun K hK => ?_)
  go_simp
  refine hK.out _ _ HBS.out (fun hHeld => ?_)
  clear hK K
  (try dsimp only [Act.put]); try simp only [pt1, pt2, pt3]
  refine wpAnyH_done (by kernel_rfl) ?_ _
  clear hHeld
  go_wp2_with fail
  go_ret
  exact ⟨by cases b <;> rfl, HBS.out⟩
set_option maxHeartbeats 4000000 in
theorem within15 (v : Value) (S : Sv14) (AL : Option Addr) (nL cL : Nat) (T : Nat → Bool) (c : Int) (w : World) (h : St14 w v S) (hL : Rv w w.heap.size AL (bls T nL)) (b : Bool) (hb : b = true ↔ Wth15 S nL T c) :
    Calls Try.prog 43 #[v, .slice AL nL cL, .int .i64 c] w fun e w' => e = .returned (.bool b) ∧ Below w.heap.size w w' := by
  obtain ⟨A0, A1, A2, A3, A4, n0, n1, n2, n3, n4, c0, c1, c2, c3, c4, sq, rfl, hs⟩ := h
  have hx0 := Bx14.new hs
  have hxn := hx0.step (Below.refl _ _).drew
  obtain ⟨W1, hW1⟩ : ∃ W, w.alloc (.cells #[.slice A0 n0 c0, .slice A1 n1 c1, .slice A2 n2 c2, .slice A3 n3 c3, .slice A4 n4 c4, .int .i64 sq] 28) = W := ⟨_, rfl⟩
  rw [hW1] at hx0 hxn
  have hb2 := b1' W1 (.cells #[.slice AL nL cL] 59)
  have hk2 := Blk.new W1 59 #[.slice AL nL cL]
  have hx2 := hx0.step hb2
  have hz1 : W1.heap.size = w.heap.size + 1 := by rw [← hW1]; simp
  rw [hz1] at hk2
  obtain ⟨W2, hW2⟩ : ∃ W, W1.alloc (.cells #[.slice AL nL cL] 59) = W := ⟨_, rfl⟩
  rw [hW2] at hb2 hk2 hx2
  have HBK := Lib.hid (backing15 _ S c W2 hx2.st)
  have HX2 := Lib.hid hx2
  have HK2 := Lib.hid hk2
  have HLR := Lib.hid hL
  have HB := Lib.hid hb
  have hml : (bck15 S c).length ≤ 1000 := by
    have h1 := hs.l1
    have h2 := hs.m1
    have h3 := tks15_len S (fnd15 2 c) S.T.length
    unfold bck15
    split
    · omega
    · simp
  have x0 := hx2.x.cell 0
  have x1 := hx2.x.cell 1
  have x2 := hx2.x.cell 2
  have x3 := hx2.x.cell 3
  have x4 := hx2.x.cell 4
  have x5 := hx2.x.cell 5
  obtain ⟨m, hm⟩ : ∃ m, (bck15 S c).length = m := ⟨_, rfl⟩
  have HM := Lib.hid hm
  rw [hm] at hml
  clear hs hx0 hxn hb2 hk2 hx2 hL hb hm
  go_enter Try.func43, Try.ntmps43
  go_wp2_with fail
  refine HBK.out.mono ?_
  rintro e w3 ⟨A, cb, rfl, hr3, hb3⟩
  rw [HM.out]
  have HX3 := Lib.hid (HX2.out.step hb3)
  have HK3 := Lib.hid (HK2.out.below hb3 HK2.out.lt)
  have HR3 := Lib.hid hr3
  clear HBK hb3 hr3
  by_cases hm0 : m = 0
  · subst hm0
    obtain rfl : b = false := bool14_of HB.out (fun h => h.1 (List.eq_nil_of_length_eq_zero HM.out))
    go_wp2_with fail
    go_ret
    exact ⟨rfl, HX3.out.b⟩
  · have hmp : (0 : Int) < (m : Int) := by omega
    have HC := Lib.hid (cont15 A (bck15 S c) m cb (w.heap.size + 1) w.heap.size w3.heap.size w3 HM.out HR3.out (by omega) (Nat.le_refl _) (fun j => !has15 nL T (gt14 S.T j).c) (fun W hW x hx => by
      have hBW : Below w.heap.size w W := HX3.out.b.trans (hW.mono HX3.out.b.size)
      refine wic15 x (w.heap.size + 1) w.heap.size S A0 A1 A2 A3 A4 n0 n1 n2 n3 n4 c0 c1 c2 c3 c4 sq AL nL cL T W ((HK3.out.below hW HK3.out.lt).cell 0) (HX3.out.x.below hW HX3.out.x.lt) (HX3.out.s.step hW) (HLR.out.below hBW (Nat.le_refl _) |>.more hBW.size) ?_ _ rfl
      unfold bck15 at hx
      split at hx
      · exact (tks15_mem.1 hx).1
      · cases hx) (!b) (by
      rw [Bool.not_eq_true', Bool.eq_false_iff, ne_eq, HB.out]
      unfold Wth15
      constructor
      · intro h
        refine Classical.byContradiction (fun h2 => h ⟨fun e => by have := HM.out; rw [e] at this; exact hm0 this.symm, fun j hj => ?_⟩)
        cases hh : has15 nL T (gt14 S.T j).c with
        | true => rfl
        | false => exact absurd ⟨j, hj, by rw [hh]; rfl⟩ h2
      · rintro ⟨x, hx, h2⟩ ⟨_, h3⟩
        rw [h3 x hx] at h2
        cases h2))
    clear hm0
    go_wp2_with fail
    refine HC.out.mono ?_
    rintro e w4 ⟨rfl, hb4⟩
    have HB4 := Lib.hid (HX3.out.b.trans (hb4.mono HX3.out.b.size))
    clear HC hb4
    go_wp2_with fail
    go_ret
    exact ⟨by cases b <;> rfl, HB4.out⟩
theorem make_set15 (n : Nat) (hn : n ≤ 1000000) (W : World) : (Instr.makeSlice 59 (.int .i64 (n : Int)) (.int .i64 (n : Int))).run Try.prog W =
    .ok (.slice (some ⟨W.heap.size, 0, none⟩) n n) (W.alloc (.cells (madeCells #[.bool false] n) 4)) := by
  obtain ⟨i, hi, hzz⟩ := Option.map_eq_some_iff.1 info_bool13
  simp only [Prod.mk.injEq] at hzz
  obtain ⟨hz, hs, hb⟩ := hzz
  have hr := run_make (P := Try.prog) W 59 4 i _ Try.underlying59 hi hz .i64 .i64 n n (by omega) (Int.le_refl _) (by rw [hb]; omega) (by omega)
  simp only [Int.toNat_natCast, hs, Value.cells, Nat.mul_one] at hr
  exact hr
theorem Bb13.far_rd {W : World} {g n : Nat} {m : Nat → Bool} (q : Bb13 W g n m) {B : Nat} {A : Option Addr} {xs : List Nat} (h : Rd W B A xs) (k : Nat) (u : Value) : Rd (W.setCell ⟨g, k, none⟩ u) B A xs := by
  intro hx
  obtain ⟨b, o, h1, h2, h3⟩ := h hx
  have hne : b ≠ g := by
    rintro rfl
    obtain ⟨cs, q1, q2, q3⟩ := q
    have h4 := h3 0 (List.length_pos_iff.2 hx)
    rw [q1.cell] at h4
    have h5 := (Array.getElem?_eq_some_iff.1 h4).1
    rw [q3 _ (by omega)] at h4
    cases h4
  exact ⟨b, o, h1, h2, fun j hj => (World.cell?_of_block (Below.heap_setCell W _ u b hne)).trans (h3 j hj)⟩
/-- Between two rounds of Own. -/
structure Ow15 (w : World) (S : Sv14) (A0 A1 A2 A3 A4 : Option Addr) (n0 n1 n2 n3 n4 c0 c1 c2 c3 c4 : Nat) (sq : Int) (Ao : Option Addr) (ns : List Nat) (T : Nat → Bool) (W : World) : Prop where
  b : Bx14 w S A0 A1 A2 A3 A4 n0 n1 n2 n3 n4 c0 c1 c2 c3 c4 sq W
  r : Bb13 W (w.heap.size + 1) n0 T
  o : Rd W W.heap.size Ao ns
theorem Ow15.step {w : World} {S : Sv14} {A0 A1 A2 A3 A4 : Option Addr} {n0 n1 n2 n3 n4 c0 c1 c2 c3 c4 : Nat} {sq : Int} {Ao : Option Addr} {ns : List Nat} {T : Nat → Bool} {W W' : World} (h : Ow15 w S A0 A1 A2 A3 A4 n0 n1 n2 n3 n4 c0 c1 c2 c3 c4 sq Ao ns T W) (hb : Below W.heap.size W W') : Ow15 w S A0 A1 A2 A3 A4 n0 n1 n2 n3 n4 c0 c1 c2 c3 c4 sq Ao ns T W' :=
  ⟨h.b.step hb, h.r.step hb, (h.o.below hb (Nat.le_refl _)).more hb.size⟩
theorem Ow15.put {w : World} {S : Sv14} {A0 A1 A2 A3 A4 : Option Addr} {n0 n1 n2 n3 n4 c0 c1 c2 c3 c4 : Nat} {sq : Int} {Ao : Option Addr} {ns : List Nat} {T : Nat → Bool} {W : World} (hs : SA14 w S A0 A1 A2 A3 A4 n0 n1 n2 n3 n4 c0 c1 c2 c3 c4 sq) (h : Ow15 w S A0 A1 A2 A3 A4 n0 n1 n2 n3 n4 c0 c1 c2 c3 c4 sq Ao ns T W) {x : Nat} (hx : x < n0) (u : Bool) : Ow15 w S A0 A1 A2 A3 A4 n0 n1 n2 n3 n4 c0 c1 c2 c3 c4 sq Ao ns (upd T x u) (W.setCell ⟨w.heap.size + 1, x, none⟩ (.bool u)) := by
  have hB : Below w.heap.size w (W.setCell ⟨w.heap.size + 1, x, none⟩ (.bool u)) := h.b.b.setCell (by simp) _
  have hz : (W.setCell ⟨w.heap.size + 1, x, none⟩ (.bool u)).heap.size = W.heap.size := by simp [World.setCell]
  exact ⟨⟨hB, h.b.x.far (by simp) _, hs.step hB⟩, h.r.put hx u, by rw [hz]; exact h.r.far_rd h.o _ _⟩
set_option maxHeartbeats 8000000 in
theorem own15 (v : Value) (S : Sv14) (c : Int) (os : List Nat) (w : World) (h : St14 w v S) (hT : Tickets14 S) (hd : Done13 (Ca15 S) S.C.length os) (hf : os.length = S.C.length) :
    Calls Try.prog 19 #[v, .int .i64 c] w (RetR15 w (all11 (ownb15 S c) S.C.length)) := by
  obtain ⟨A0, A1, A2, A3, A4, n0, n1, n2, n3, n4, c0, c1, c2, c3, c4, sq, rfl, hs⟩ := h
  have hx0 := Bx14.new hs
  have hxn := hx0.step (Below.refl _ _).drew
  obtain ⟨W1, hW1⟩ : ∃ W, w.alloc (.cells #[.slice A0 n0 c0, .slice A1 n1 c1, .slice A2 n2 c2, .slice A3 n3 c3, .slice A4 n4 c4, .int .i64 sq] 28) = W := ⟨_, rfl⟩
  rw [hW1] at hx0 hxn
  have HP : Hid (RetR15 w (all11 (ownb15 S c) S.C.length) = fun e w' => ∃ A c2, e = .returned (.slice A (all11 (ownb15 S c) n0).length c2) ∧ Rd w' w'.heap.size A (all11 (ownb15 S c) n0) ∧ Below w.heap.size w w') := Lib.hid (by rw [hs.l0]; rfl)
  have hm0 := hs.m0
  have hmk := make_set15 n0 (by omega)
  have hz1 : W1.heap.size = w.heap.size + 1 := by rw [← hW1]; simp
  have hb2 := b1' W1 (.cells (madeCells #[.bool false] n0) 4)
  have hx2 := hx0.step hb2
  have hr2 := made_b13 W1 n0
  rw [hz1] at hr2
  obtain ⟨W2, hW2⟩ : ∃ W, W1.alloc (.cells (madeCells #[.bool false] n0) 4) = W := ⟨_, rfl⟩
  rw [hW2] at hb2 hx2 hr2
  have HOR := Lib.hid (order15 _ S os W2 hx2.st hd hf)
  have HX2 := Lib.hid hx2
  have HR2 := Lib.hid hr2
  have HNL : Hid ((ord15 S os).length ≤ 1000) := Lib.hid (by
    have h1 := List.length_filter_le (fun (x : Nat) => us14 usC S.C (x : Int)) os
    have h2 := hs.l0
    unfold ord15
    omega)
  have HS := Lib.hid hs
  have HL0 := Lib.hid hs.l0
  have HT := Lib.hid hT
  have HD := Lib.hid hd
  have HF := Lib.hid hf
  have x0 := hx2.x.cell 0
  have x1 := hx2.x.cell 1
  have x2 := hx2.x.cell 2
  have x3 := hx2.x.cell 3
  have x4 := hx2.x.cell 4
  have x5 := hx2.x.cell 5
  have y0 := hx0.x.cell 0
  obtain ⟨ns, hns⟩ : ∃ l, ord15 S os = l := ⟨_, rfl⟩
  obtain ⟨m, hm⟩ : ∃ m, ns.length = m := ⟨_, rfl⟩
  rw [hns, hm] at HNL
  rw [hns] at HOR
  have HNS := Lib.hid hns
  have HM := Lib.hid hm
  have hmm := HNL.out
  clear hs hx0 hxn hb2 hx2 hr2 hT hd hf hns hm HNL
  go_enter Try.func19, Try.ntmps19
  go_wp2_with fail
  refine HOR.out.mono ?_
  rintro e w3 ⟨Ao, co, rfl, hr3, hb3⟩
  rw [HM.out]
  have HW3 : Hid (Ow15 w S A0 A1 A2 A3 A4 n0 n1 n2 n3 n4 c0 c1 c2 c3 c4 sq Ao ns (fun _ => false) w3) := Lib.hid ⟨HX2.out.step hb3, HR2.out.step hb3, hr3⟩
  clear HOR hb3 hr3 HR2 HX2 hmk x0 x1 x2 x3 x4 x5 y0 hW2 hW1
  go_wp2_with fail
  go_loopw [15] (fun i wr => ∃ (k : Nat) (T : Nat → Bool), i = .int .i64 (k : Int) ∧ k ≤ m ∧ Hid (Ob15 S c ns k T) ∧ Hid (Ow15 w S A0 A1 A2 A3 A4 n0 n1 n2 n3 n4 c0 c1 c2 c3 c4 sq Ao ns T wr)) (fun i _ => m - (intOf i).toNat)
  case atStart => exact ⟨0, fun _ => false, rfl, by omega, Lib.hid (ob15_start S c ns), HW3⟩
  case round =>
    obtain ⟨k, T, rfl, hk, HO, HW⟩ := hrel
    by_cases hkm : k < m
    · obtain ⟨b, o, hA, hab, q0⟩ := HW.out.o.at_ (show k < ns.length by have := HM.out; omega)
      obtain ⟨x, hx⟩ : ∃ x, nth ns k = x := ⟨_, rfl⟩
      rw [hx] at q0
      have HXE := Lib.hid hx
      have hxn : x < n0 := by
        have h1 := ord15_used (S := S) (os := os) (k := k) (by rw [HNS.out, HM.out]; exact hkm)
        rw [HNS.out, hx] at h1
        have h2 := us15_lt h1
        have := HL0.out
        omega
      have HNX := Lib.hid (fun (b : Bool) hb => (show Ob15 S c (ord15 S os) k T by rw [HNS.out]; exact HO.out).next (x := x) (b := b) HT.out HD.out.1 HL0.out (by rw [HNS.out, HM.out]; exact hkm) (by rw [HNS.out]; exact hx) hb)
      have i0 : (0 : Int) ≤ (k : Int) := by omega
      have i1 : (k : Int) < (m : Int) := by omega
      have j0 : (0 : Int) ≤ (x : Int) := by omega
      have j1 : (x : Int) < (n0 : Int) := by omega
      clear hab hx
      subst hA
      by_cases hxc : (x : Int) = c
      · have f0 := (HW.out.r.cells hxn).2
        have g0 := (HW.out.r.cells hxn).1
        have HW2 := Lib.hid (HW.out.put HS.out hxn true)
        have HO2 : Hid (Ob15 S c ns (k + 1) (upd T x true)) := Lib.hid (by have h := HNX.out true (by simp [hxc]); rwa [HNS.out] at h)
        subst hxc
        clear HNX
        go_wp2_with fail
        go_roundw
        case rel => exact ⟨k + 1, _, by go_num, by omega, HO2, HW2⟩
        case measure => simp [intOf]; omega
      · obtain ⟨bw, hbw⟩ : ∃ b : Bool, b = true ↔ Wth15 S n0 T (x : Int) := by
          rcases Classical.em (Wth15 S n0 T (x : Int)) with h | h
          · exact ⟨true, by simp [h]⟩
          · exact ⟨false, by simp [h]⟩
        have hxb : ((x : Int) == c) = false := by simp [hxc]
        have HWI := Lib.hid (within15 _ S (some ⟨w.heap.size + 1, 0, none⟩) n0 n0 T (x : Int) wr HW.out.b.st (HW.out.r.rv (fun _ => rfl)) bw hbw)
        have HO2 : Hid (Ob15 S c ns (k + 1) (upd T x bw)) := Lib.hid (by have h := HNX.out bw (by rw [hbw]; simp [hxc]); rwa [HNS.out] at h)
        have y0 := HW.out.b.x.cell 0
        have y1 := HW.out.b.x.cell 1
        have y2 := HW.out.b.x.cell 2
        have y3 := HW.out.b.x.cell 3
        have y4 := HW.out.b.x.cell 4
        have y5 := HW.out.b.x.cell 5
        clear HNX hbw hxc
        go_wp2_with fail
        refine HWI.out.mono ?_
        rintro e w4 ⟨rfl, hb4⟩
        have hw4 := HW.out.step hb4
        have f0 := (hw4.r.cells hxn).2
        have g0 := (hw4.r.cells hxn).1
        have HW2 := Lib.hid (hw4.put HS.out hxn bw)
        clear HWI hb4 hw4 y0 y1 y2 y3 y4 y5
        go_wp2_with fail
        go_roundw
        case rel => exact ⟨k + 1, _, by go_num, by omega, HO2, HW2⟩
        case measure => simp [intOf]; omega
    · obtain rfl : k = m := by omega
      have i1 : ¬ (k : Int) < (k : Int) := by omega
      have hT : T = ownb15 S c := funext (Ob15.end_ HD.out.1 HF.out (by rw [HNS.out, HM.out]; exact HO.out))
      have HLS := Lib.hid (list15 (some ⟨w.heap.size + 1, 0, none⟩) n0 n0 T wr (HW.out.r.rv (fun _ => rfl)) (by omega))
      rw [hT] at HLS
      clear hT
      go_wp2_with fail
      refine HLS.out.mono ?_
      rintro e w4 ⟨Ar, cr, rfl, hr4, hb4⟩
      have HR4 := Lib.hid hr4
      have HB4 := Lib.hid (HW.out.b.b.trans (hb4.mono HW.out.b.b.size))
      clear HLS hr4 hb4
      go_wp2_with fail
      go_ret
      rw [HP.out]
      exact ⟨Ar, cr, rfl, HR4.out, HB4.out⟩
end Go.Proofs.Ytljpgfnjaagkaaa
