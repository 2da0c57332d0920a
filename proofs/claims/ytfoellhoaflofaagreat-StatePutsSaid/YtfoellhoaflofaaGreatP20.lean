/-
  SaidStatePuts, part 20 of 26: what the theorem statePuts_holds reaches.
-/
import Derived.Test.YtfoellhoaflofaaGreatP19
namespace Go.Proofs.YtfoellhoaflofaaGreat
open Go.RowKit
set_option maxRecDepth 100000
/-- There is no ring: all are told. -/
def Free14R (n : Nat) (l : List (Int × Int)) : Prop := ∃ os, Done13 (cut13 n l) n os ∧ os.length = n
theorem free14R_iff {n : Nat} {l : List (Int × Int)} {os : List Nat} (h : Done13 (cut13 n l) n os) : Free14R n l ↔ os.length = n := by
  constructor
  · rintro ⟨zs, h1, h2⟩
    rw [h.same h1]
    exact h2
  · exact fun e => ⟨os, h, e⟩
theorem dring14 (n : Nat) (hn : n ≤ 4096) (Ad : Option Addr) (l : List (Int × Int)) (c : Nat) (b : Bool) (w : World) (hr : Aq w w.heap.size Ad l) (hm : l.length ≤ 1000000) (hb : b = true ↔ Free14R n l) :
    Calls Tryz.prog 47 #[.int .i64 (n : Int), .slice Ad l.length c] w fun e w' => e = .returned (.bool (!b)) ∧ Below w.heap.size w w' := by
  obtain ⟨os, hd⟩ := done13_ex (cut13 n l) n
  have h := dring13_any (n : Int) n (by unfold nn13; omega) Ad l l.length c os w rfl hr hm hd
  rwa [show decide (os.length = n) = b by rw [Bool.eq_iff_iff, decide_eq_true_iff, hb, free14R_iff hd]] at h
/-- A state may be. -/
def Fine14 (S : Sv14) : Prop := 1 ≤ S.q ∧ S.q ≤ 1000 ∧ Tidies14 S ∧ us14 usC S.C 0 = true ∧ Tickets14 S ∧ Threads14 S ∧ Locks14 S ∧ Queue14 S ∧ Free14R S.C.length (cArr14 S S.T.length) ∧ Free14R S.H.length (tArr14 S S.H.length)
set_option maxHeartbeats 4000000 in
theorem fine14_0 (v : Value) (S : Sv14) (w : World) (h : St14 w v S) (ne : ¬ 1 ≤ S.q) :
    Calls Tryz.prog 9 #[v] w fun e w' => e = .returned (.bool false) ∧ Below w.heap.size w w' := by
  obtain ⟨A0, A1, A2, A3, A4, n0, n1, n2, n3, n4, c0, c1, c2, c3, c4, sq, rfl, hs⟩ := h
  have hx0 := Bx14.new hs
  have hxn := hx0.step (Below.refl _ _).drew
  obtain ⟨W1, hW1⟩ : ∃ W, w.alloc (.cells #[.slice A0 n0 c0, .slice A1 n1 c1, .slice A2 n2 c2, .slice A3 n3 c3, .slice A4 n4 c4, .int .i64 sq] 28) = W := ⟨_, rfl⟩
  rw [hW1] at hx0 hxn
  have q5 := hx0.x.cell 5
  have g0 : ¬ 1 ≤ sq := by rw [← hs.e]; exact ne
  have g1 : decide (1 ≤ sq) = false := decide_eq_false g0
  have HXN := Lib.hid hxn
  clear hs hx0 hxn ne
  go_enter Tryz.func9, Tryz.ntmps9
  obtain ⟨wn, hwn⟩ : ∃ W, W1.drew = W := ⟨_, rfl⟩
  rw [hwn] at HXN
  go_wp2_with fail
  refine wp_region_held_drew (S := Bx14 w S A0 A1 A2 A3 A4 n0 n1 n2 n3 n4 c0 c1 c2 c3 c4 sq) (by kernel_rfl) (by rw [hwn]; exact HXN.out) (fun hHeld => ?_)
  rw [hwn] at hHeld ⊢
  clear hwn
  have HBS := HXN
  refine tk 0 (v := ?_) (fun W hS => ?_) ?_
  rotate_left
  · (go_simp; try with_reducible rfl)
  (try dsimp only [Act.put]); try simp only [pt1, pt2, pt3]
  refine tk 1 (v := ?_) (fun W hS => ?_) ?_
  rotate_left
  · try try dsimp only at hS
    have z0 := hS.x.cell 5
    go_simp
    try with_reducible rfl
  (try dsimp only [Act.put]); try simp only [pt1, pt2, pt3]
  refine tk 2 (v := ?_) (fun W hS => ?_) ?_
  rotate_left
  · (go_simp; try with_reducible rfl)
  (try dsimp only [Act.put]); try simp only [pt1, pt2, pt3]
  refine tk 3 (v := ?_) (fun W hS => ?_) ?_
  rotate_left
  · (go_simp; try with_reducible rfl)
  (try dsimp only [Act.put]); try simp only [pt1, pt2, pt3]
  refine sk 4 ?_
  (try dsimp only [Act.put]); try simp only [pt1, pt2, pt3]
  refine sk 5 ?_
  (try dsimp only [Act.put]); try simp only [pt1, pt2, pt3]
  refine sk 6 ?_
  (try dsimp only [Act.put]); try simp only [pt1, pt2, pt3]
  refine tk 7 (v := ?_) (fun W hS => ?_) ?_
  rotate_left
  · (go_simp; try with_reducible rfl)
  (try dsimp only [Act.put]); try simp only [pt1, pt2, pt3]
  refine tk 8 (v := ?_) (fun W hS => ?_) ?_
  rotate_left
  · (go_simp; try with_reducible rfl)
  (try dsimp only [Act.put]); try simp only [pt1, pt2, pt3]
  refine sk 9 ?_
  (try dsimp only [Act.put]); try simp only [pt1, pt2, pt3]
  refine sk 10 ?_
  (try dsimp only [Act.put]); try simp only [pt1, pt2, pt3]
  refine tk 11 (v := ?_) (fun W hS => ?_) ?_
  rotate_left
  · (go_simp; try with_reducible rfl)
  (try dsimp only [Act.put]); try simp only [pt1, pt2, pt3]
  refine tk 12 (v := ?_) (fun W hS => ?_) ?_
  rotate_left
  · (go_simp; try with_reducible rfl)
  (try dsimp only [Act.put]); try simp only [pt1, pt2, pt3]
  refine sk 13 ?_
  (try dsimp only [Act.put]); try simp only [pt1, pt2, pt3]
  refine sk 14 ?_
  (try dsimp only [Act.put]); try simp only [pt1, pt2, pt3]
  refine tk 15 (v := ?_) (fun W hS => ?_) ?_
  rotate_left
  · (go_simp; try with_reducible rfl)
  (try dsimp only [Act.put]); try simp only [pt1, pt2, pt3]
  refine tk 16 (v := ?_) (fun W hS => ?_) ?_
  rotate_left
  · (go_simp; try with_reducible rfl)
  (try dsimp only [Act.put]); try simp only [pt1, pt2, pt3]
  refine sk 17 ?_
  (try dsimp only [Act.put]); try simp only [pt1, pt2, pt3]
  refine sk 18 ?_
  (try dsimp only [Act.put]); try simp only [pt1, pt2, pt3]
  refine tk 19 (v := ?_) (fun W hS => ?_) ?_
  rotate_left
  · (go_simp; try with_reducible rfl)
  (try dsimp only [Act.put]); try simp only [pt1, pt2, pt3]
  refine tk 20 (v := ?_) (fun W hS => ?_) ?_
  rotate_left
  · (go_simp; try with_reducible rfl)
  (try dsimp only [Act.put]); try simp only [pt1, pt2, pt3]
  refine sk 21 ?_
  (try dsimp only [Act.put]); try simp only [pt1, pt2, pt3]
  refine sk 22 ?_
  (try dsimp only [Act.put]); try simp only [pt1, pt2, pt3]
  refine tk 23 (v := ?_) (fun W hS => ?_) ?_
  rotate_left
  · (go_simp; try with_reducible rfl)
  (try dsimp only [Act.put]); try simp only [pt1, pt2, pt3]
  refine tk 24 (v := ?_) (fun W hS => ?_) ?_
  rotate_left
  · (go_simp; try with_reducible rfl)
  (try dsimp only [Act.put]); try simp only [pt1, pt2, pt3]
  refine sk 25 ?_
  (try dsimp only [Act.put]); try simp only [pt1, pt2, pt3]
  refine sk 26 ?_
  (try dsimp only [Act.put]); try simp only [pt1, pt2, pt3]
  refine tk 27 (v := ?_) (fun W hS => ?_) ?_
  rotate_left
  · (go_simp; try with_reducible rfl)
  (try dsimp only [Act.put]); try simp only [pt1, pt2, pt3]
  refine tk 28 (v := ?_) (fun W hS => ?_) ?_
  rotate_left
  · (go_simp; try with_reducible rfl)
  (try dsimp only [Act.put]); try simp only [pt1, pt2, pt3]
  refine sk 29 ?_
  (try dsimp only [Act.put]); try simp only [pt1, pt2, pt3]
  refine sk 30 ?_
  (try dsimp only [Act.put]); try simp only [pt1, pt2, pt3]
  refine tk 31 (v := ?_) (fun W hS => ?_) ?_
  rotate_left
  · (go_simp; try with_reducible rfl)
  (try dsimp only [Act.put]); try simp only [pt1, pt2, pt3]
  refine tk 32 (v := ?_) (fun W hS => ?_) ?_
  rotate_left
  · (go_simp; try with_reducible rfl)
  (try dsimp only [Act.put]); try simp only [pt1, pt2, pt3]
  refine sk 33 ?_
  (try dsimp only [Act.put]); try simp only [pt1, pt2, pt3]
  refine sk 34 ?_
  (try dsimp only [Act.put]); try simp only [pt1, pt2, pt3]
  refine sk 35 ?_
  (try dsimp only [Act.put]); try simp only [pt1, pt2, pt3]
  refine sk 36 ?_
  (try dsimp only [Act.put]); try simp only [pt1, pt2, pt3]
  refine sk 37 ?_
  (try dsimp only [Act.put]); try simp only [pt1, pt2, pt3]
  refine sk 38 ?_
  (try dsimp only [Act.put]); try simp only [pt1, pt2, pt3]
  refine sk 39 ?_
  (try dsimp only [Act.put]); try simp only [pt1, pt2, pt3]
  refine tk 40 (v := ?_) (fun W hS => ?_) ?_
  rotate_left
  · (go_simp; try with_reducible rfl)
  (try dsimp only [Act.put]); try simp only [pt1, pt2, pt3]
  refine tk 41 (v := ?_) (fun W hS => ?_) ?_
  rotate_left
  · (go_simp; try with_reducible rfl)
  (try dsimp only [Act.put]); try simp only [pt1, pt2, pt3]
  refine sk 42 ?_
  (try dsimp only [Act.put]); try simp only [pt1, pt2, pt3]
  refine sk 43 ?_
  (try dsimp only [Act.put]); try simp only [pt1, pt2, pt3]
  refine sk 44 ?_
  (try dsimp only [Act.put]); try simp only [pt1, pt2, pt3]
  refine sk 45 ?_
  (try dsimp only [Act.put]); try simp only [pt1, pt2, pt3]
  refine sk 46 ?_
  (try dsimp only [Act.put]); try simp only [pt1, pt2, pt3]
  refine sk 47 ?_
  (try dsimp only [Act.put]); try simp only [pt1, pt2, pt3]
  refine sk 48 ?_
  (try dsimp only [Act.put]); try simp only [pt1, pt2, pt3]
  refine tk 49 (v := ?_) (fun W hS => ?_) ?_
  rotate_left
  · (go_simp; try with_reducible rfl)
  (try dsimp only [Act.put]); try simp only [pt1, pt2, pt3]
  refine rdy 50 (fun K hK => ?_)
  go_simp
  refine hK.out _ _ HBS.out (fun hHeld => ?_)
  clear hK K
  (try dsimp only [Act.put]); try simp only [pt1, pt2, pt3]
  refine wpAnyH_done (by kernel_rfl) ?_ _
  clear hHeld
  go_wp2_with fail
  go_ret
  exact ⟨rfl, HBS.out.b⟩
set_option maxHeartbeats 4000000 in
theorem fine14_1 (v : Value) (S : Sv14) (w : World) (h : St14 w v S) (e0 : 1 ≤ S.q) (ne : ¬ S.q ≤ 1000) :
    Calls Tryz.prog 9 #[v] w fun e w' => e = .returned (.bool false) ∧ Below w.heap.size w w' := by
  obtain ⟨A0, A1, A2, A3, A4, n0, n1, n2, n3, n4, c0, c1, c2, c3, c4, sq, rfl, hs⟩ := h
  have hx0 := Bx14.new hs
  have hxn := hx0.step (Below.refl _ _).drew
  obtain ⟨W1, hW1⟩ : ∃ W, w.alloc (.cells #[.slice A0 n0 c0, .slice A1 n1 c1, .slice A2 n2 c2, .slice A3 n3 c3, .slice A4 n4 c4, .int .i64 sq] 28) = W := ⟨_, rfl⟩
  rw [hW1] at hx0 hxn
  have q5 := hx0.x.cell 5
  have g0 : 1 ≤ sq := by rw [← hs.e]; exact e0
  have g2 : ¬ sq ≤ 1000 := by rw [← hs.e]; exact ne
  have g3 : decide (sq ≤ 1000) = false := decide_eq_false g2
  have HXN := Lib.hid hxn
  clear hs hx0 hxn e0 ne
  go_enter Tryz.func9, Tryz.ntmps9
  obtain ⟨wn, hwn⟩ : ∃ W, W1.drew = W := ⟨_, rfl⟩
  rw [hwn] at HXN
  go_wp2_with fail
  refine wp_region_held_drew (S := Bx14 w S A0 A1 A2 A3 A4 n0 n1 n2 n3 n4 c0 c1 c2 c3 c4 sq) (by kernel_rfl) (by rw [hwn]; exact HXN.out) (fun hHeld => ?_)
  rw [hwn] at hHeld ⊢
  clear hwn
  have HBS := HXN
  refine tk 0 (v := ?_) (fun W hS => ?_) ?_
  rotate_left
  · (go_simp; try with_reducible rfl)
  (try dsimp only [Act.put]); try simp only [pt1, pt2, pt3]
  refine tk 1 (v := ?_) (fun W hS => ?_) ?_
  rotate_left
  · try try dsimp only at hS
    have z0 := hS.x.cell 5
    go_simp
    try with_reducible rfl
  (try dsimp only [Act.put]); try simp only [pt1, pt2, pt3]
  refine tk 2 (v := ?_) (fun W hS => ?_) ?_
  rotate_left
  · (go_simp; try with_reducible rfl)
  (try dsimp only [Act.put]); try simp only [pt1, pt2, pt3]
  refine tk 3 (v := ?_) (fun W hS => ?_) ?_
  rotate_left
  · (go_simp; try with_reducible rfl)
  (try dsimp only [Act.put]); try simp only [pt1, pt2, pt3]
  refine tk 4 (v := ?_) (fun W hS => ?_) ?_
  rotate_left
  · (go_simp; try with_reducible rfl)
  (try dsimp only [Act.put]); try simp only [pt1, pt2, pt3]
  refine tk 5 (v := ?_) (fun W hS => ?_) ?_
  rotate_left
  · try try dsimp only at hS
    have z0 := hS.x.cell 5
    go_simp
    try with_reducible rfl
  (try dsimp only [Act.put]); try simp only [pt1, pt2, pt3]
  refine tk 6 (v := ?_) (fun W hS => ?_) ?_
  rotate_left
  · (go_simp; try with_reducible rfl)
  (try dsimp only [Act.put]); try simp only [pt1, pt2, pt3]
  refine tk 7 (v := ?_) (fun W hS => ?_) ?_
  rotate_left
  · (go_simp; try with_reducible rfl)
  (try dsimp only [Act.put]); try simp only [pt1, pt2, pt3]
  refine tk 8 (v := ?_) (fun W hS => ?_) ?_
  rotate_left
  · (go_simp; try with_reducible rfl)
  (try dsimp only [Act.put]); try simp only [pt1, pt2, pt3]
  refine sk 9 ?_
  (try dsimp only [Act.put]); try simp only [pt1, pt2, pt3]
  refine sk 10 ?_
  (try dsimp only [Act.put]); try simp only [pt1, pt2, pt3]
  refine tk 11 (v := ?_) (fun W hS => ?_) ?_
  rotate_left
  · (go_simp; try with_reducible rfl)
  (try dsimp only [Act.put]); try simp only [pt1, pt2, pt3]
  refine tk 12 (v := ?_) (fun W hS => ?_) ?_
  rotate_left
  · (go_simp; try with_reducible rfl)
  (try dsimp only [Act.put]); try simp only [pt1, pt2, pt3]
  refine sk 13 ?_
  (try dsimp only [Act.put]); try simp only [pt1, pt2, pt3]
  refine sk 14 ?_
  (try dsimp only [Act.put]); try simp only [pt1, pt2, pt3]
  refine tk 15 (v := ?_) (fun W hS => ?_) ?_
  rotate_left
  · (go_simp; try with_reducible rfl)
  (try dsimp only [Act.put]); try simp only [pt1, pt2, pt3]
  refine tk 16 (v := ?_) (fun W hS => ?_) ?_
  rotate_left
  · (go_simp; try with_reducible rfl)
  (try dsimp only [Act.put]); try simp only [pt1, pt2, pt3]
  refine sk 17 ?_
  (try dsimp only [Act.put]); try simp only [pt1, pt2, pt3]
  refine sk 18 ?_
  (try dsimp only [Act.put]); try simp only [pt1, pt2, pt3]
  refine tk 19 (v := ?_) (fun W hS => ?_) ?_
  rotate_left
  · (go_simp; try with_reducible rfl)
  (try dsimp only [Act.put]); try simp only [pt1, pt2, pt3]
  refine tk 20 (v := ?_) (fun W hS => ?_) ?_
  rotate_left
  · (go_simp; try with_reducible rfl)
  (try dsimp only [Act.put]); try simp only [pt1, pt2, pt3]
  refine sk 21 ?_
  (try dsimp only [Act.put]); try simp only [pt1, pt2, pt3]
  refine sk 22 ?_
  (try dsimp only [Act.put]); try simp only [pt1, pt2, pt3]
  refine tk 23 (v := ?_) (fun W hS => ?_) ?_
  rotate_left
  · (go_simp; try with_reducible rfl)
  (try dsimp only [Act.put]); try simp only [pt1, pt2, pt3]
  refine tk 24 (v := ?_) (fun W hS => ?_) ?_
  rotate_left
  · (go_simp; try with_reducible rfl)
  (try dsimp only [Act.put]); try simp only [pt1, pt2, pt3]
  refine sk 25 ?_
  (try dsimp only [Act.put]); try simp only [pt1, pt2, pt3]
  refine sk 26 ?_
  (try dsimp only [Act.put]); try simp only [pt1, pt2, pt3]
  refine tk 27 (v := ?_) (fun W hS => ?_) ?_
  rotate_left
  · (go_simp; try with_reducible rfl)
  (try dsimp only [Act.put]); try simp only [pt1, pt2, pt3]
  refine tk 28 (v := ?_) (fun W hS => ?_) ?_
  rotate_left
  · (go_simp; try with_reducible rfl)
  (try dsimp only [Act.put]); try simp only [pt1, pt2, pt3]
  refine sk 29 ?_
  (try dsimp only [Act.put]); try simp only [pt1, pt2, pt3]
  refine sk 30 ?_
  (try dsimp only [Act.put]); try simp only [pt1, pt2, pt3]
  refine tk 31 (v := ?_) (fun W hS => ?_) ?_
  rotate_left
  · (go_simp; try with_reducible rfl)
  (try dsimp only [Act.put]); try simp only [pt1, pt2, pt3]
  refine tk 32 (v := ?_) (fun W hS => ?_) ?_
  rotate_left
  · (go_simp; try with_reducible rfl)
  (try dsimp only [Act.put]); try simp only [pt1, pt2, pt3]
  refine sk 33 ?_
  (try dsimp only [Act.put]); try simp only [pt1, pt2, pt3]
  refine sk 34 ?_
  (try dsimp only [Act.put]); try simp only [pt1, pt2, pt3]
  refine sk 35 ?_
  (try dsimp only [Act.put]); try simp only [pt1, pt2, pt3]
  refine sk 36 ?_
  (try dsimp only [Act.put]); try simp only [pt1, pt2, pt3]
  refine sk 37 ?_
  (try dsimp only [Act.put]); try simp only [pt1, pt2, pt3]
  refine sk 38 ?_
  (try dsimp only [Act.put]); try simp only [pt1, pt2, pt3]
  refine sk 39 ?_
  (try dsimp only [Act.put]); try simp only [pt1, pt2, pt3]
  refine tk 40 (v := ?_) (fun W hS => ?_) ?_
  rotate_left
  · (go_simp; try with_reducible rfl)
  (try dsimp only [Act.put]); try simp only [pt1, pt2, pt3]
  refine tk 41 (v := ?_) (fun W hS => ?_) ?_
  rotate_left
  · (go_simp; try with_reducible rfl)
  (try dsimp only [Act.put]); try simp only [pt1, pt2, pt3]
  refine sk 42 ?_
  (try dsimp only [Act.put]); try simp only [pt1, pt2, pt3]
  refine sk 43 ?_
  (try dsimp only [Act.put]); try simp only [pt1, pt2, pt3]
  refine sk 44 ?_
  (try dsimp only [Act.put]); try simp only [pt1, pt2, pt3]
  refine sk 45 ?_
  (try dsimp only [Act.put]); try simp only [pt1, pt2, pt3]
  refine sk 46 ?_
  (try dsimp only [Act.put]); try simp only [pt1, pt2, pt3]
  refine sk 47 ?_
  (try dsimp only [Act.put]); try simp only [pt1, pt2, pt3]
  refine sk 48 ?_
  (try dsimp only [Act.put]); try simp only [pt1, pt2, pt3]
  refine tk 49 (v := ?_) (fun W hS => ?_) ?_
  rotate_left
  · (go_simp; try with_reducible rfl)
  (try dsimp only [Act.put]); try simp only [pt1, pt2, pt3]
  refine rdy 50 (fun K hK => ?_)
  go_simp
  refine hK.out _ _ HBS.out (fun hHeld => ?_)
  clear hK K
  (try dsimp only [Act.put]); try simp only [pt1, pt2, pt3]
  refine wpAnyH_done (by kernel_rfl) ?_ _
  clear hHeld
  go_wp2_with fail
  go_ret
  exact ⟨rfl, HBS.out.b⟩
set_option maxHeartbeats 4000000 in
theorem fine14_2 (v : Value) (S : Sv14) (w : World) (h : St14 w v S) (e0 : 1 ≤ S.q) (e1 : S.q ≤ 1000) (ne : ¬ Tidies14 S) :
    Calls Tryz.prog 9 #[v] w fun e w' => e = .returned (.bool false) ∧ Below w.heap.size w w' := by
  obtain ⟨A0, A1, A2, A3, A4, n0, n1, n2, n3, n4, c0, c1, c2, c3, c4, sq, rfl, hs⟩ := h
  have hx0 := Bx14.new hs
  have hxn := hx0.step (Below.refl _ _).drew
  obtain ⟨W1, hW1⟩ : ∃ W, w.alloc (.cells #[.slice A0 n0 c0, .slice A1 n1 c1, .slice A2 n2 c2, .slice A3 n3 c3, .slice A4 n4 c4, .int .i64 sq] 28) = W := ⟨_, rfl⟩
  rw [hW1] at hx0 hxn
  have q5 := hx0.x.cell 5
  have g0 : 1 ≤ sq := by rw [← hs.e]; exact e0
  have g2 : sq ≤ 1000 := by rw [← hs.e]; exact e1
  have HCTid := Lib.hid (fun W (h : Bx14 w S A0 A1 A2 A3 A4 n0 n1 n2 n3 n4 c0 c1 c2 c3 c4 sq W) => tidyLists14 _ S false W h.st (by simp [ne]))
  have HXN := Lib.hid hxn
  clear hs hx0 hxn e0 e1 ne
  go_enter Tryz.func9, Tryz.ntmps9
  obtain ⟨wn, hwn⟩ : ∃ W, W1.drew = W := ⟨_, rfl⟩
  rw [hwn] at HXN
  go_wp2_with fail
  refine wp_region_held_drew (S := Bx14 w S A0 A1 A2 A3 A4 n0 n1 n2 n3 n4 c0 c1 c2 c3 c4 sq) (by kernel_rfl) (by rw [hwn]; exact HXN.out) (fun hHeld => ?_)
  rw [hwn] at hHeld ⊢
  clear hwn
  have HBS := HXN
  refine tk 0 (v := ?_) (fun W hS => ?_) ?_
  rotate_left
  · (go_simp; try with_reducible rfl)
  (try dsimp only [Act.put]); try simp only [pt1, pt2, pt3]
  refine tk 1 (v := ?_) (fun W hS => ?_) ?_
  rotate_left
  · try try dsimp only at hS
    have z0 := hS.x.cell 5
    go_simp
    try with_reducible rfl
  (try dsimp only [Act.put]); try simp only [pt1, pt2, pt3]
  refine tk 2 (v := ?_) (fun W hS => ?_) ?_
  rotate_left
  · (go_simp; try with_reducible rfl)
  (try dsimp only [Act.put]); try simp only [pt1, pt2, pt3]
  refine tk 3 (v := ?_) (fun W hS => ?_) ?_
  rotate_left
  · (go_simp; try with_reducible rfl)
  (try dsimp only [Act.put]); try simp only [pt1, pt2, pt3]
  refine tk 4 (v := ?_) (fun W hS => ?_) ?_
  rotate_left
  · (go_simp; try with_reducible rfl)
  (try dsimp only [Act.put]); try simp only [pt1, pt2, pt3]
  refine tk 5 (v := ?_) (fun W hS => ?_) ?_
  rotate_left
  · try try dsimp only at hS
    have z0 := hS.x.cell 5
    go_simp
    try with_reducible rfl
  (try dsimp only [Act.put]); try simp only [pt1, pt2, pt3]
  refine tk 6 (v := ?_) (fun W hS => ?_) ?_
  rotate_left
  · (go_simp; try with_reducible rfl)
  (try dsimp only [Act.put]); try simp only [pt1, pt2, pt3]
  refine tk 7 (v := ?_) (fun W hS => ?_) ?_
  rotate_left
  · (go_simp; try with_reducible rfl)
  (try dsimp only [Act.put]); try simp only [pt1, pt2, pt3]
  refine tk 8 (v := ?_) (fun W hS => ?_) ?_
  rotate_left
  · (go_simp; try with_reducible rfl)
  (try dsimp only [Act.put]); try simp only [pt1, pt2, pt3]
  refine tk 9 (v := ?_) (fun W hS => ?_) ?_
  rotate_left
  · try try dsimp only at hS
    have z0 := hS.x.cell 0
    have z1 := hS.x.cell 1
    have z2 := hS.x.cell 2
    have z3 := hS.x.cell 3
    have z4 := hS.x.cell 4
    have z5 := hS.x.cell 5
    go_simp
    try with_reducible rfl
  (try dsimp only [Act.put]); try simp only [pt1, pt2, pt3]
  refine rdy 10 (fun K hK => ?_)
  have HBS0 := HBS
  go_simp
  refine (HCTid.out _ HBS0.out).mono ?_
  rintro e wn ⟨rfl, hb⟩
  have HBS := Lib.hid (HBS0.out.step hb)
  clear hb HBS0
  refine hK.out _ _ HBS.out (fun hHeld => ?_)
  clear hK K
  (try dsimp only [Act.put]); try simp only [pt1, pt2, pt3]
  refine tk 11 (v := ?_) (fun W hS => ?_) ?_
  rotate_left
  · (go_simp; try with_reducible rfl)
  (try dsimp only [Act.put]); try simp only [pt1, pt2, pt3]
  refine tk 12 (v := ?_) (fun W hS => ?_) ?_
  rotate_left
  · (go_simp; try with_reducible rfl)
  (try dsimp only [Act.put]); try simp only [pt1, pt2, pt3]
  refine sk 13 ?_
  (try dsimp only [Act.put]); try simp only [pt1, pt2, pt3]
  refine sk 14 ?_
  (try dsimp only [Act.put]); try simp only [pt1, pt2, pt3]
  refine tk 15 (v := ?_) (fun W hS => ?_) ?_
  rotate_left
  · (go_simp; try with_reducible rfl)
  (try dsimp only [Act.put]); try simp only [pt1, pt2, pt3]
  refine tk 16 (v := ?_) (fun W hS => ?_) ?_
  rotate_left
  · (go_simp; try with_reducible rfl)
  (try dsimp only [Act.put]); try simp only [pt1, pt2, pt3]
  refine sk 17 ?_
  (try dsimp only [Act.put]); try simp only [pt1, pt2, pt3]
  refine sk 18 ?_
  (try dsimp only [Act.put]); try simp only [pt1, pt2, pt3]
  refine tk 19 (v := ?_) (fun W hS => ?_) ?_
  rotate_left
  · (go_simp; try with_reducible rfl)
  (try dsimp only [Act.put]); try simp only [pt1, pt2, pt3]
  refine tk 20 (v := ?_) (fun W hS => ?_) ?_
  rotate_left
  · (go_simp; try with_reducible rfl)
  (try dsimp only [Act.put]); try simp only [pt1, pt2, pt3]
  refine sk 21 ?_
  (try dsimp only [Act.put]); try simp only [pt1, pt2, pt3]
  refine sk 22 ?_
  (try dsimp only [Act.put]); try simp only [pt1, pt2, pt3]
  refine tk 23 (v := ?_) (fun W hS => ?_) ?_
  rotate_left
  · (go_simp; try with_reducible rfl)
  (try dsimp only [Act.put]); try simp only [pt1, pt2, pt3]
  refine tk 24 (v := ?_) (fun W hS => ?_) ?_
  rotate_left
  · (go_simp; try with_reducible rfl)
  (try dsimp only [Act.put]); try simp only [pt1, pt2, pt3]
  refine sk 25 ?_
  (try dsimp only [Act.put]); try simp only [pt1, pt2, pt3]
  refine sk 26 ?_
  (try dsimp only [Act.put]); try simp only [pt1, pt2, pt3]
  refine tk 27 (v := ?_) (fun W hS => ?_) ?_
  rotate_left
  · (go_simp; try with_reducible rfl)
  (try dsimp only [Act.put]); try simp only [pt1, pt2, pt3]
  refine tk 28 (v := ?_) (fun W hS => ?_) ?_
  rotate_left
  · (go_simp; try with_reducible rfl)
  (try dsimp only [Act.put]); try simp only [pt1, pt2, pt3]
  refine sk 29 ?_
  (try dsimp only [Act.put]); try simp only [pt1, pt2, pt3]
  refine sk 30 ?_
  (try dsimp only [Act.put]); try simp only [pt1, pt2, pt3]
  refine tk 31 (v := ?_) (fun W hS => ?_) ?_
  rotate_left
  · (go_simp; try with_reducible rfl)
  (try dsimp only [Act.put]); try simp only [pt1, pt2, pt3]
  refine tk 32 (v := ?_) (fun W hS => ?_) ?_
  rotate_left
  · (go_simp; try with_reducible rfl)
  (try dsimp only [Act.put]); try simp only [pt1, pt2, pt3]
  refine sk 33 ?_
  (try dsimp only [Act.put]); try simp only [pt1, pt2, pt3]
  refine sk 34 ?_
  (try dsimp only [Act.put]); try simp only [pt1, pt2, pt3]
  refine sk 35 ?_
  (try dsimp only [Act.put]); try simp only [pt1, pt2, pt3]
  refine sk 36 ?_
  (try dsimp only [Act.put]); try simp only [pt1, pt2, pt3]
  refine sk 37 ?_
  (try dsimp only [Act.put]); try simp only [pt1, pt2, pt3]
  refine sk 38 ?_
  (try dsimp only [Act.put]); try simp only [pt1, pt2, pt3]
  refine sk 39 ?_
  (try dsimp only [Act.put]); try simp only [pt1, pt2, pt3]
  refine tk 40 (v := ?_) (fun W hS => ?_) ?_
  rotate_left
  · (go_simp; try with_reducible rfl)
  (try dsimp only [Act.put]); try simp only [pt1, pt2, pt3]
  refine tk 41 (v := ?_) (fun W hS => ?_) ?_
  rotate_left
  · (go_simp; try with_reducible rfl)
  (try dsimp only [Act.put]); try simp only [pt1, pt2, pt3]
  refine sk 42 ?_
  (try dsimp only [Act.put]); try simp only [pt1, pt2, pt3]
  refine sk 43 ?_
  (try dsimp only [Act.put]); try simp only [pt1, pt2, pt3]
  refine sk 44 ?_
  (try dsimp only [Act.put]); try simp only [pt1, pt2, pt3]
  refine sk 45 ?_
  (try dsimp only [Act.put]); try simp only [pt1, pt2, pt3]
  refine sk 46 ?_
  (try dsimp only [Act.put]); try simp only [pt1, pt2, pt3]
  refine sk 47 ?_
  (try dsimp only [Act.put]); try simp only [pt1, pt2, pt3]
  refine sk 48 ?_
  (try dsimp only [Act.put]); try simp only [pt1, pt2, pt3]
  refine tk 49 (v := ?_) (fun W hS => ?_) ?_
  rotate_left
  · (go_simp; try with_reducible rfl)
  (try dsimp only [Act.put]); try simp only [pt1, pt2, pt3]
  refine rdy 50 (fun K hK => ?_)
  go_simp
  refine hK.out _ _ HBS.out (fun hHeld => ?_)
  clear hK K
  (try dsimp only [Act.put]); try simp only [pt1, pt2, pt3]
  refine wpAnyH_done (by kernel_rfl) ?_ _
  clear hHeld
  go_wp2_with fail
  go_ret
  exact ⟨rfl, HBS.out.b⟩
set_option maxHeartbeats 4000000 in
theorem fine14_3 (v : Value) (S : Sv14) (w : World) (h : St14 w v S) (e0 : 1 ≤ S.q) (e1 : S.q ≤ 1000) (e2 : Tidies14 S) (ne : ¬ us14 usC S.C 0 = true) :
    Calls Tryz.prog 9 #[v] w fun e w' => e = .returned (.bool false) ∧ Below w.heap.size w w' := by
  obtain ⟨A0, A1, A2, A3, A4, n0, n1, n2, n3, n4, c0, c1, c2, c3, c4, sq, rfl, hs⟩ := h
  have hx0 := Bx14.new hs
  have hxn := hx0.step (Below.refl _ _).drew
  obtain ⟨W1, hW1⟩ : ∃ W, w.alloc (.cells #[.slice A0 n0 c0, .slice A1 n1 c1, .slice A2 n2 c2, .slice A3 n3 c3, .slice A4 n4 c4, .int .i64 sq] 28) = W := ⟨_, rfl⟩
  rw [hW1] at hx0 hxn
  have q5 := hx0.x.cell 5
  have g0 : 1 ≤ sq := by rw [← hs.e]; exact e0
  have g2 : sq ≤ 1000 := by rw [← hs.e]; exact e1
  have HCTid := Lib.hid (fun W (h : Bx14 w S A0 A1 A2 A3 A4 n0 n1 n2 n3 n4 c0 c1 c2 c3 c4 sq W) => tidyLists14 _ S true W h.st (by simp [e2]))
  have HCCoi := Lib.hid (fun W (h : Bx14 w S A0 A1 A2 A3 A4 n0 n1 n2 n3 n4 c0 c1 c2 c3 c4 sq W) => coin14 _ S 0 false W h.st (by simp [ne]))
  have HXN := Lib.hid hxn
  clear hs hx0 hxn e0 e1 e2 ne
  go_enter Tryz.func9, Tryz.ntmps9
  obtain ⟨wn, hwn⟩ : ∃ W, W1.drew = W := ⟨_, rfl⟩
  rw [hwn] at HXN
  go_wp2_with fail
  refine wp_region_held_drew (S := Bx14 w S A0 A1 A2 A3 A4 n0 n1 n2 n3 n4 c0 c1 c2 c3 c4 sq) (by kernel_rfl) (by rw [hwn]; exact HXN.out) (fun hHeld => ?_)
  rw [hwn] at hHeld ⊢
  clear hwn
  have HBS := HXN
  refine tk 0 (v := ?_) (fun W hS => ?_) ?_
  rotate_left
  · (go_simp; try with_reducible rfl)
  (try dsimp only [Act.put]); try simp only [pt1, pt2, pt3]
  refine tk 1 (v := ?_) (fun W hS => ?_) ?_
  rotate_left
  · try try dsimp only at hS
    have z0 := hS.x.cell 5
    go_simp
    try with_reducible rfl
  (try dsimp only [Act.put]); try simp only [pt1, pt2, pt3]
  refine tk 2 (v := ?_) (fun W hS => ?_) ?_
  rotate_left
  · (go_simp; try with_reducible rfl)
  (try dsimp only [Act.put]); try simp only [pt1, pt2, pt3]
  refine tk 3 (v := ?_) (fun W hS => ?_) ?_
  rotate_left
  · (go_simp; try with_reducible rfl)
  (try dsimp only [Act.put]); try simp only [pt1, pt2, pt3]
  refine tk 4 (v := ?_) (fun W hS => ?_) ?_
  rotate_left
  · (go_simp; try with_reducible rfl)
  (try dsimp only [Act.put]); try simp only [pt1, pt2, pt3]
  refine tk 5 (v := ?_) (fun W hS => ?_) ?_
  rotate_left
  · try try dsimp only at hS
    have z0 := hS.x.cell 5
    go_simp
    try with_reducible rfl
  (try dsimp only [Act.put]); try simp only [pt1, pt2, pt3]
  refine tk 6 (v := ?_) (fun W hS => ?_) ?_
  rotate_left
  · (go_simp; try with_reducible rfl)
  (try dsimp only [Act.put]); try simp only [pt1, pt2, pt3]
  refine tk 7 (v := ?_) (fun W hS => ?_) ?_
  rotate_left
  · (go_simp; try with_reducible rfl)
  (try dsimp only [Act.put]); try simp only [pt1, pt2, pt3]
  refine tk 8 (v := ?_) (fun W hS => ?_) ?_
  rotate_left
  · (go_simp; try with_reducible rfl)
  (try dsimp only [Act.put]); try simp only [pt1, pt2, pt3]
  refine tk 9 (v := ?_) (fun W hS => ?_) ?_
  rotate_left
  · try try dsimp only at hS
    have z0 := hS.x.cell 0
    have z1 := hS.x.cell 1
    have z2 := hS.x.cell 2
    have z3 := hS.x.cell 3
    have z4 := hS.x.cell 4
    have z5 := hS.x.cell 5
    go_simp
    try with_reducible rfl
  (try dsimp only [Act.put]); try simp only [pt1, pt2, pt3]
  refine rdy 10 (fun K hK => ?_)
  have HBS0 := HBS
  go_simp
  refine (HCTid.out _ HBS0.out).mono ?_
  rintro e wn ⟨rfl, hb⟩
  have HBS := Lib.hid (HBS0.out.step hb)
  clear hb HBS0
  refine hK.out _ _ HBS.out (fun hHeld => ?_)
  clear hK K
  (try dsimp only [Act.put]); try simp only [pt1, pt2, pt3]
  refine tk 11 (v := ?_) (fun W hS => ?_) ?_
  rotate_left
  · (go_simp; try with_reducible rfl)
  (try dsimp only [Act.put]); try simp only [pt1, pt2, pt3]
  refine tk 12 (v := ?_) (fun W hS => ?_) ?_
  rotate_left
  · (go_simp; try with_reducible rfl)
  (try dsimp only [Act.put]); try simp only [pt1, pt2, pt3]
  refine tk 13 (v := ?_) (fun W hS => ?_) ?_
  rotate_left
  · try try dsimp only at hS
    have z0 := hS.x.cell 0
    have z1 := hS.x.cell 1
    have z2 := hS.x.cell 2
    have z3 := hS.x.cell 3
    have z4 := hS.x.cell 4
    have z5 := hS.x.cell 5
    go_simp
    try with_reducible rfl
  (try dsimp only [Act.put]); try simp only [pt1, pt2, pt3]
  refine rdy 14 (fun K hK => ?_)
  have HBS0 := HBS
  go_simp
  refine (HCCoi.out _ HBS0.out).mono ?_
  rintro e wn ⟨rfl, hb⟩
  have HBS := Lib.hid (HBS0.out.step hb)
  clear hb HBS0
  refine hK.out _ _ HBS.out (fun hHeld => ?_)
  clear hK K
  (try dsimp only [Act.put]); try simp only [pt1, pt2, pt3]
  refine tk 15 (v := ?_) (fun W hS => ?_) ?_
  rotate_left
  · (go_simp; try with_reducible rfl)
  (try dsimp only [Act.put]); try simp only [pt1, pt2, pt3]
  refine tk 16 (v := ?_) (fun W hS => ?_) ?_
  rotate_left
  · (go_simp; try with_reducible rfl)
  (try dsimp only [Act.put]); try simp only [pt1, pt2, pt3]
  refine sk 17 ?_
  (try dsimp only [Act.put]); try simp only [pt1, pt2, pt3]
  refine sk 18 ?_
  (try dsimp only [Act.put]); try simp only [pt1, pt2, pt3]
  refine tk 19 (v := ?_) (fun W hS => ?_) ?_
  rotate_left
  · (go_simp; try with_reducible rfl)
  (try dsimp only [Act.put]); try simp only [pt1, pt2, pt3]
  refine tk 20 (v := ?_) (fun W hS => ?_) ?_
  rotate_left
  · (go_simp; try with_reducible rfl)
  (try dsimp only [Act.put]); try simp only [pt1, pt2, pt3]
  refine sk 21 ?_
  (try dsimp only [Act.put]); try simp only [pt1, pt2, pt3]
  refine sk 22 ?_
  (try dsimp only [Act.put]); try simp only [pt1, pt2, pt3]
  refine tk 23 (v := ?_) (fun W hS => ?_) ?_
  rotate_left
  · (go_simp; try with_reducible rfl)
  (try dsimp only [Act.put]); try simp only [pt1, pt2, pt3]
  refine tk 24 (v := ?_) (fun W hS => ?_) ?_
  rotate_left
  · (go_simp; try with_reducible rfl)
  (try dsimp only [Act.put]); try simp only [pt1, pt2, pt3]
  refine sk 25 ?_
  (try dsimp only [Act.put]); try simp only [pt1, pt2, pt3]
  refine sk 26 ?_
  (try dsimp only [Act.put]); try simp only [pt1, pt2, pt3]
  refine tk 27 (v := ?_) (fun W hS => ?_) ?_
  rotate_left
  · (go_simp; try with_reducible rfl)
  (try dsimp only [Act.put]); try simp only [pt1, pt2, pt3]
  refine tk 28 (v := ?_) (fun W hS => ?_) ?_
  rotate_left
  · (go_simp; try with_reducible rfl)
  (try dsimp only [Act.put]); try simp only [pt1, pt2, pt3]
  refine sk 29 ?_
  (try dsimp only [Act.put]); try simp only [pt1, pt2, pt3]
  refine sk 30 ?_
  (try dsimp only [Act.put]); try simp only [pt1, pt2, pt3]
  refine tk 31 (v := ?_) (fun W hS => ?_) ?_
  rotate_left
  · (go_simp; try with_reducible rfl)
  (try dsimp only [Act.put]); try simp only [pt1, pt2, pt3]
  refine tk 32 (v := ?_) (fun W hS => ?_) ?_
  rotate_left
  · (go_simp; try with_reducible rfl)
  (try dsimp only [Act.put]); try simp only [pt1, pt2, pt3]
  refine sk 33 ?_
  (try dsimp only [Act.put]); try simp only [pt1, pt2, pt3]
  refine sk 34 ?_
  (try dsimp only [Act.put]); try simp only [pt1, pt2, pt3]
  refine sk 35 ?_
  (try dsimp only [Act.put]); try simp only [pt1, pt2, pt3]
  refine sk 36 ?_
  (try dsimp only [Act.put]); try simp only [pt1, pt2, pt3]
  refine sk 37 ?_
  (try dsimp only [Act.put]); try simp only [pt1, pt2, pt3]
  refine sk 38 ?_
  (try dsimp only [Act.put]); try simp only [pt1, pt2, pt3]
  refine sk 39 ?_
  (try dsimp only [Act.put]); try simp only [pt1, pt2, pt3]
  refine tk 40 (v := ?_) (fun W hS => ?_) ?_
  rotate_left
  · (go_simp; try with_reducible rfl)
  (try dsimp only [Act.put]); try simp only [pt1, pt2, pt3]
  refine tk 41 (v := ?_) (fun W hS => ?_) ?_
  rotate_left
  · (go_simp; try with_reducible rfl)
  (try dsimp only [Act.put]); try simp only [pt1, pt2, pt3]
  refine sk 42 ?_
  (try dsimp only [Act.put]); try simp only [pt1, pt2, pt3]
  refine sk 43 ?_
  (try dsimp only [Act.put]); try simp only [pt1, pt2, pt3]
  refine sk 44 ?_
  (try dsimp only [Act.put]); try simp only [pt1, pt2, pt3]
  refine sk 45 ?_
  (try dsimp only [Act.put]); try simp only [pt1, pt2, pt3]
  refine sk 46 ?_
  (try dsimp only [Act.put]); try simp only [pt1, pt2, pt3]
  refine sk 47 ?_
  (try dsimp only [Act.put]); try simp only [pt1, pt2, pt3]
  refine sk 48 ?_
  (try dsimp only [Act.put]); try simp only [pt1, pt2, pt3]
  refine tk 49 (v := ?_) (fun W hS => ?_) ?_
  rotate_left
  · (go_simp; try with_reducible rfl)
  (try dsimp only [Act.put]); try simp only [pt1, pt2, pt3]
  refine rdy 50 (fun K hK => ?_)
  go_simp
  refine hK.out _ _ HBS.out (fun hHeld => ?_)
  clear hK K
  (try dsimp only [Act.put]); try simp only [pt1, pt2, pt3]
  refine wpAnyH_done (by kernel_rfl) ?_ _
  clear hHeld
  go_wp2_with fail
  go_ret
  exact ⟨rfl, HBS.out.b⟩
set_option maxHeartbeats 4000000 in
theorem fine14_4 (v : Value) (S : Sv14) (w : World) (h : St14 w v S) (e0 : 1 ≤ S.q) (e1 : S.q ≤ 1000) (e2 : Tidies14 S) (e3 : us14 usC S.C 0 = true) (ne : ¬ Tickets14 S) :
    Calls Tryz.prog 9 #[v] w fun e w' => e = .returned (.bool false) ∧ Below w.heap.size w w' := by
  obtain ⟨A0, A1, A2, A3, A4, n0, n1, n2, n3, n4, c0, c1, c2, c3, c4, sq, rfl, hs⟩ := h
  have hx0 := Bx14.new hs
  have hxn := hx0.step (Below.refl _ _).drew
  obtain ⟨W1, hW1⟩ : ∃ W, w.alloc (.cells #[.slice A0 n0 c0, .slice A1 n1 c1, .slice A2 n2 c2, .slice A3 n3 c3, .slice A4 n4 c4, .int .i64 sq] 28) = W := ⟨_, rfl⟩
  rw [hW1] at hx0 hxn
  have q5 := hx0.x.cell 5
  have g0 : 1 ≤ sq := by rw [← hs.e]; exact e0
  have g2 : sq ≤ 1000 := by rw [← hs.e]; exact e1
  have HCTid := Lib.hid (fun W (h : Bx14 w S A0 A1 A2 A3 A4 n0 n1 n2 n3 n4 c0 c1 c2 c3 c4 sq W) => tidyLists14 _ S true W h.st (by simp [e2]))
  have HCCoi := Lib.hid (fun W (h : Bx14 w S A0 A1 A2 A3 A4 n0 n1 n2 n3 n4 c0 c1 c2 c3 c4 sq W) => coin14 _ S 0 true W h.st (by simp [e3]))
  have HCTic := Lib.hid (fun W (h : Bx14 w S A0 A1 A2 A3 A4 n0 n1 n2 n3 n4 c0 c1 c2 c3 c4 sq W) => fineTickets14 _ S false W h.st (by simp [ne]))
  have HXN := Lib.hid hxn
  clear hs hx0 hxn e0 e1 e2 e3 ne
  go_enter Tryz.func9, Tryz.ntmps9
  obtain ⟨wn, hwn⟩ : ∃ W, W1.drew = W := ⟨_, rfl⟩
  rw [hwn] at HXN
  go_wp2_with fail
  refine wp_region_held_drew (S := Bx14 w S A0 A1 A2 A3 A4 n0 n1 n2 n3 n4 c0 c1 c2 c3 c4 sq) (by kernel_rfl) (by rw [hwn]; exact HXN.out) (fun hHeld => ?_)
  rw [hwn] at hHeld ⊢
  clear hwn
  have HBS := HXN
  refine tk 0 (v := ?_) (fun W hS => ?_) ?_
  rotate_left
  · (go_simp; try with_reducible rfl)
  (try dsimp only [Act.put]); try simp only [pt1, pt2, pt3]
  refine tk 1 (v := ?_) (fun W hS => ?_) ?_
  rotate_left
  · try try dsimp only at hS
    have z0 := hS.x.cell 5
    go_simp
    try with_reducible rfl
  (try dsimp only [Act.put]); try simp only [pt1, pt2, pt3]
  refine tk 2 (v := ?_) (fun W hS => ?_) ?_
  rotate_left
  · (go_simp; try with_reducible rfl)
  (try dsimp only [Act.put]); try simp only [pt1, pt2, pt3]
  refine tk 3 (v := ?_) (fun W hS => ?_) ?_
  rotate_left
  · (go_simp; try with_reducible rfl)
  (try dsimp only [Act.put]); try simp only [pt1, pt2, pt3]
  refine tk 4 (v := ?_) (fun W hS => ?_) ?_
  rotate_left
  · (go_simp; try with_reducible rfl)
  (try dsimp only [Act.put]); try simp only [pt1, pt2, pt3]
  refine tk 5 (v := ?_) (fun W hS => ?_) ?_
  rotate_left
  · try try dsimp only at hS
    have z0 := hS.x.cell 5
    go_simp
    try with_reducible rfl
  (try dsimp only [Act.put]); try simp only [pt1, pt2, pt3]
  refine tk 6 (v := ?_) (fun W hS => ?_) ?_
  rotate_left
  · (go_simp; try with_reducible rfl)
  (try dsimp only [Act.put]); try simp only [pt1, pt2, pt3]
  refine tk 7 (v := ?_) (fun W hS => ?_) ?_
  rotate_left
  · (go_simp; try with_reducible rfl)
  (try dsimp only [Act.put]); try simp only [pt1, pt2, pt3]
  refine tk 8 (v := ?_) (fun W hS => ?_) ?_
  rotate_left
  · (go_simp; try with_reducible rfl)
  (try dsimp only [Act.put]); try simp only [pt1, pt2, pt3]
  refine tk 9 (v := ?_) (fun W hS => ?_) ?_
  rotate_left
  · try try dsimp only at hS
    have z0 := hS.x.cell 0
    have z1 := hS.x.cell 1
    have z2 := hS.x.cell 2
    have z3 := hS.x.cell 3
    have z4 := hS.x.cell 4
    have z5 := hS.x.cell 5
    go_simp
    try with_reducible rfl
  (try dsimp only [Act.put]); try simp only [pt1, pt2, pt3]
  refine rdy 10 (fun K hK => ?_)
  have HBS0 := HBS
  go_simp
  refine (HCTid.out _ HBS0.out).mono ?_
  rintro e wn ⟨rfl, hb⟩
  have HBS := Lib.hid (HBS0.out.step hb)
  clear hb HBS0
  refine hK.out _ _ HBS.out (fun hHeld => ?_)
  clear hK K
  (try dsimp only [Act.put]); try simp only [pt1, pt2, pt3]
  refine tk 11 (v := ?_) (fun W hS => ?_) ?_
  rotate_left
  · (go_simp; try with_reducible rfl)
  (try dsimp only [Act.put]); try simp only [pt1, pt2, pt3]
  refine tk 12 (v := ?_) (fun W hS => ?_) ?_
  rotate_left
  · (go_simp; try with_reducible rfl)
  (try dsimp only [Act.put]); try simp only [pt1, pt2, pt3]
  refine tk 13 (v := ?_) (fun W hS => ?_) ?_
  rotate_left
  · try try dsimp only at hS
    have z0 := hS.x.cell 0
    have z1 := hS.x.cell 1
    have z2 := hS.x.cell 2
    have z3 := hS.x.cell 3
    have z4 := hS.x.cell 4
    have z5 := hS.x.cell 5
    go_simp
    try with_reducible rfl
  (try dsimp only [Act.put]); try simp only [pt1, pt2, pt3]
  refine rdy 14 (fun K hK => ?_)
  have HBS0 := HBS
  go_simp
  refine (HCCoi.out _ HBS0.out).mono ?_
  rintro e wn ⟨rfl, hb⟩
  have HBS := Lib.hid (HBS0.out.step hb)
  clear hb HBS0
  refine hK.out _ _ HBS.out (fun hHeld => ?_)
  clear hK K
  (try dsimp only [Act.put]); try simp only [pt1, pt2, pt3]
  refine tk 15 (v := ?_) (fun W hS => ?_) ?_
  rotate_left
  · (go_simp; try with_reducible rfl)
  (try dsimp only [Act.put]); try simp only [pt1, pt2, pt3]
  refine tk 16 (v := ?_) (fun W hS => ?_) ?_
  rotate_left
  · (go_simp; try with_reducible rfl)
  (try dsimp only [Act.put]); try simp only [pt1, pt2, pt3]
  refine tk 17 (v := ?_) (fun W hS => ?_) ?_
  rotate_left
  · try try dsimp only at hS
    have z0 := hS.x.cell 0
    have z1 := hS.x.cell 1
    have z2 := hS.x.cell 2
    have z3 := hS.x.cell 3
    have z4 := hS.x.cell 4
    have z5 := hS.x.cell 5
    go_simp
    try with_reducible rfl
  (try dsimp only [Act.put]); try simp only [pt1, pt2, pt3]
  refine rdy 18 (fun K hK => ?_)
  have HBS0 := HBS
  go_simp
  refine (HCTic.out _ HBS0.out).mono ?_
  rintro e wn ⟨rfl, hb⟩
  have HBS := Lib.hid (HBS0.out.step hb)
  clear hb HBS0
  refine hK.out _ _ HBS.out (fun hHeld => ?_)
  clear hK K
  (try dsimp only [Act.put]); try simp only [pt1, pt2, pt3]
  refine tk 19 (v := ?_) (fun W hS => ?_) ?_
  rotate_left
  · (go_simp; try with_reducible rfl)
  (try dsimp only [Act.put]); try simp only [pt1, pt2, pt3]
  refine tk 20 (v := ?_) (fun W hS => ?_) ?_
  rotate_left
  · (go_simp; try with_reducible rfl)
  (try dsimp only [Act.put]); try simp only [pt1, pt2, pt3]
  refine sk 21 ?_
  (try dsimp only [Act.put]); try simp only [pt1, pt2, pt3]
  refine sk 22 ?_
  (try dsimp only [Act.put]); try simp only [pt1, pt2, pt3]
  refine tk 23 (v := ?_) (fun W hS => ?_) ?_
  rotate_left
  · (go_simp; try with_reducible rfl)
  (try dsimp only [Act.put]); try simp only [pt1, pt2, pt3]
  refine tk 24 (v := ?_) (fun W hS => ?_) ?_
  rotate_left
  · (go_simp; try with_reducible rfl)
  (try dsimp only [Act.put]); try simp only [pt1, pt2, pt3]
  refine sk 25 ?_
  (try dsimp only [Act.put]); try simp only [pt1, pt2, pt3]
  refine sk 26 ?_
  (try dsimp only [Act.put]); try simp only [pt1, pt2, pt3]
  refine tk 27 (v := ?_) (fun W hS => ?_) ?_
  rotate_left
  · (go_simp; try with_reducible rfl)
  (try dsimp only [Act.put]); try simp only [pt1, pt2, pt3]
  refine tk 28 (v := ?_) (fun W hS => ?_) ?_
  rotate_left
  · (go_simp; try with_reducible rfl)
  (try dsimp only [Act.put]); try simp only [pt1, pt2, pt3]
  refine sk 29 ?_
  (try dsimp only [Act.put]); try simp only [pt1, pt2, pt3]
  refine sk 30 ?_
  (try dsimp only [Act.put]); try simp only [pt1, pt2, pt3]
  refine tk 31 (v := ?_) (fun W hS => ?_) ?_
  rotate_left
  · (go_simp; try with_reducible rfl)
  (try dsimp only [Act.put]); try simp only [pt1, pt2, pt3]
  refine tk 32 (v := ?_) (fun W hS => ?_) ?_
  rotate_left
  · (go_simp; try with_reducible rfl)
  (try dsimp only [Act.put]); try simp only [pt1, pt2, pt3]
  refine sk 33 ?_
  (try dsimp only [Act.put]); try simp only [pt1, pt2, pt3]
  refine sk 34 ?_
  (try dsimp only [Act.put]); try simp only [pt1, pt2, pt3]
  refine sk 35 ?_
  (try dsimp only [Act.put]); try simp only [pt1, pt2, pt3]
  refine sk 36 ?_
  (try dsimp only [Act.put]); try simp only [pt1, pt2, pt3]
  refine sk 37 ?_
  (try dsimp only [Act.put]); try simp only [pt1, pt2, pt3]
  refine sk 38 ?_
  (try dsimp only [Act.put]); try simp only [pt1, pt2, pt3]
  refine sk 39 ?_
  (try dsimp only [Act.put]); try simp only [pt1, pt2, pt3]
  refine tk 40 (v := ?_) (fun W hS => ?_) ?_
  rotate_left
  · (go_simp; try with_reducible rfl)
  (try dsimp only [Act.put]); try simp only [pt1, pt2, pt3]
  refine tk 41 (v := ?_) (fun W hS => ?_) ?_
  rotate_left
  · (go_simp; try with_reducible rfl)
  (try dsimp only [Act.put]); try simp only [pt1, pt2, pt3]
  refine sk 42 ?_
  (try dsimp only [Act.put]); try simp only [pt1, pt2, pt3]
  refine sk 43 ?_
  (try dsimp only [Act.put]); try simp only [pt1, pt2, pt3]
  refine sk 44 ?_
  (try dsimp only [Act.put]); try simp only [pt1, pt2, pt3]
  refine sk 45 ?_
  (try dsimp only [Act.put]); try simp only [pt1, pt2, pt3]
  refine sk 46 ?_
  (try dsimp only [Act.put]); try simp only [pt1, pt2, pt3]
  refine sk 47 ?_
  (try dsimp only [Act.put]); try simp only [pt1, pt2, pt3]
  refine sk 48 ?_
  (try dsimp only [Act.put]); try simp only [pt1, pt2, pt3]
  refine tk 49 (v := ?_) (fun W hS => ?_) ?_
  rotate_left
  · (go_simp; try with_reducible rfl)
  (try dsimp only [Act.put]); try simp only [pt1, pt2, pt3]
  refine rdy 50 (fun K hK => ?_)
  go_simp
  refine hK.out _ _ HBS.out (fun hHeld => ?_)
  clear hK K
  (try dsimp only [Act.put]); try simp only [pt1, pt2, pt3]
  refine wpAnyH_done (by kernel_rfl) ?_ _
  clear hHeld
  go_wp2_with fail
  go_ret
  exact ⟨rfl, HBS.out.b⟩
set_option maxHeartbeats 4000000 in
theorem fine14_5 (v : Value) (S : Sv14) (w : World) (h : St14 w v S) (e0 : 1 ≤ S.q) (e1 : S.q ≤ 1000) (e2 : Tidies14 S) (e3 : us14 usC S.C 0 = true) (e4 : Tickets14 S) (ne : ¬ Threads14 S) :
    Calls Tryz.prog 9 #[v] w fun e w' => e = .returned (.bool false) ∧ Below w.heap.size w w' := by
  obtain ⟨A0, A1, A2, A3, A4, n0, n1, n2, n3, n4, c0, c1, c2, c3, c4, sq, rfl, hs⟩ := h
  have hx0 := Bx14.new hs
  have hxn := hx0.step (Below.refl _ _).drew
  obtain ⟨W1, hW1⟩ : ∃ W, w.alloc (.cells #[.slice A0 n0 c0, .slice A1 n1 c1, .slice A2 n2 c2, .slice A3 n3 c3, .slice A4 n4 c4, .int .i64 sq] 28) = W := ⟨_, rfl⟩
  rw [hW1] at hx0 hxn
  have q5 := hx0.x.cell 5
  have g0 : 1 ≤ sq := by rw [← hs.e]; exact e0
  have g2 : sq ≤ 1000 := by rw [← hs.e]; exact e1
  have HCTid := Lib.hid (fun W (h : Bx14 w S A0 A1 A2 A3 A4 n0 n1 n2 n3 n4 c0 c1 c2 c3 c4 sq W) => tidyLists14 _ S true W h.st (by simp [e2]))
  have HCCoi := Lib.hid (fun W (h : Bx14 w S A0 A1 A2 A3 A4 n0 n1 n2 n3 n4 c0 c1 c2 c3 c4 sq W) => coin14 _ S 0 true W h.st (by simp [e3]))
  have HCTic := Lib.hid (fun W (h : Bx14 w S A0 A1 A2 A3 A4 n0 n1 n2 n3 n4 c0 c1 c2 c3 c4 sq W) => fineTickets14 _ S true W h.st (by simp [e4]))
  have HCThr := Lib.hid (fun W (h : Bx14 w S A0 A1 A2 A3 A4 n0 n1 n2 n3 n4 c0 c1 c2 c3 c4 sq W) => fineThreads14 _ S false W h.st (by simp [ne]))
  have HXN := Lib.hid hxn
  clear hs hx0 hxn e0 e1 e2 e3 e4 ne
  go_enter Tryz.func9, Tryz.ntmps9
  obtain ⟨wn, hwn⟩ : ∃ W, W1.drew = W := ⟨_, rfl⟩
  rw [hwn] at HXN
  go_wp2_with fail
  refine wp_region_held_drew (S := Bx14 w S A0 A1 A2 A3 A4 n0 n1 n2 n3 n4 c0 c1 c2 c3 c4 sq) (by kernel_rfl) (by rw [hwn]; exact HXN.out) (fun hHeld => ?_)
  rw [hwn] at hHeld ⊢
  clear hwn
  have HBS := HXN
  refine tk 0 (v := ?_) (fun W hS => ?_) ?_
  rotate_left
  · (go_simp; try with_reducible rfl)
  (try dsimp only [Act.put]); try simp only [pt1, pt2, pt3]
  refine tk 1 (v := ?_) (fun W hS => ?_) ?_
  rotate_left
  · try try dsimp only at hS
    have z0 := hS.x.cell 5
    go_simp
    try with_reducible rfl
  (try dsimp only [Act.put]); try simp only [pt1, pt2, pt3]
  refine tk 2 (v := ?_) (fun W hS => ?_) ?_
  rotate_left
  · (go_simp; try with_reducible rfl)
  (try dsimp only [Act.put]); try simp only [pt1, pt2, pt3]
  refine tk 3 (v := ?_) (fun W hS => ?_) ?_
  rotate_left
  · (go_simp; try with_reducible rfl)
  (try dsimp only [Act.put]); try simp only [pt1, pt2, pt3]
  refine tk 4 (v := ?_) (fun W hS => ?_) ?_
  rotate_left
  · (go_simp; try with_reducible rfl)
  (try dsimp only [Act.put]); try simp only [pt1, pt2, pt3]
  refine tk 5 (v := ?_) (fun W hS => ?_) ?_
  rotate_left
  · try try dsimp only at hS
    have z0 := hS.x.cell 5
    go_simp
    try with_reducible rfl
  (try dsimp only [Act.put]); try simp only [pt1, pt2, pt3]
  refine tk 6 (v := ?_) (fun W hS => ?_) ?_
  rotate_left
  · (go_simp; try with_reducible rfl)
  (try dsimp only [Act.put]); try simp only [pt1, pt2, pt3]
  refine tk 7 (v := ?_) (fun W hS => ?_) ?_
  rotate_left
  · (go_simp; try with_reducible rfl)
  (try dsimp only [Act.put]); try simp only [pt1, pt2, pt3]
  refine tk 8 (v := ?_) (fun W hS => ?_) ?_
  rotate_left
  · (go_simp; try with_reducible rfl)
  (try dsimp only [Act.put]); try simp only [pt1, pt2, pt3]
  refine tk 9 (v := ?_) (fun W hS => ?_) ?_
  rotate_left
  · try try dsimp only at hS
    have z0 := hS.x.cell 0
    have z1 := hS.x.cell 1
    have z2 := hS.x.cell 2
    have z3 := hS.x.cell 3
    have z4 := hS.x.cell 4
    have z5 := hS.x.cell 5
    go_simp
    try with_reducible rfl
  (try dsimp only [Act.put]); try simp only [pt1, pt2, pt3]
  refine rdy 10 (fun K hK => ?_)
  have HBS0 := HBS
  go_simp
  refine (HCTid.out _ HBS0.out).mono ?_
  rintro e wn ⟨rfl, hb⟩
  have HBS := Lib.hid (HBS0.out.step hb)
  clear hb HBS0
  refine hK.out _ _ HBS.out (fun hHeld => ?_)
  clear hK K
  (try dsimp only [Act.put]); try simp only [pt1, pt2, pt3]
  refine tk 11 (v := ?_) (fun W hS => ?_) ?_
  rotate_left
  · (go_simp; try with_reducible rfl)
  (try dsimp only [Act.put]); try simp only [pt1, pt2, pt3]
  refine tk 12 (v := ?_) (fun W hS => ?_) ?_
  rotate_left
  · (go_simp; try with_reducible rfl)
  (try dsimp only [Act.put]); try simp only [pt1, pt2, pt3]
  refine tk 13 (v := ?_) (fun W hS => ?_) ?_
  rotate_left
  · try try dsimp only at hS
    have z0 := hS.x.cell 0
    have z1 := hS.x.cell 1
    have z2 := hS.x.cell 2
    have z3 := hS.x.cell 3
    have z4 := hS.x.cell 4
    have z5 := hS.x.cell 5
    go_simp
    try with_reducible rfl
  (try dsimp only [Act.put]); try simp only [pt1, pt2, pt3]
  refine rdy 14 (fun K hK => ?_)
  have HBS0 := HBS
  go_simp
  refine (HCCoi.out _ HBS0.out).mono ?_
  rintro e wn ⟨rfl, hb⟩
  have HBS := Lib.hid (HBS0.out.step hb)
  clear hb HBS0
  refine hK.out _ _ HBS.out (fun hHeld => ?_)
  clear hK K
  (try dsimp only [Act.put]); try simp only [pt1, pt2, pt3]
  refine tk 15 (v := ?_) (fun W hS => ?_) ?_
  rotate_left
  · (go_simp; try with_reducible rfl)
  (try dsimp only [Act.put]); try simp only [pt1, pt2, pt3]
  refine tk 16 (v := ?_) (fun W hS => ?_) ?_
  rotate_left
  · (go_simp; try with_reducible rfl)
  (try dsimp only [Act.put]); try simp only [pt1, pt2, pt3]
  refine tk 17 (v := ?_) (fun W hS => ?_) ?_
  rotate_left
  · try try dsimp only at hS
    have z0 := hS.x.cell 0
    have z1 := hS.x.cell 1
    have z2 := hS.x.cell 2
    have z3 := hS.x.cell 3
    have z4 := hS.x.cell 4
    have z5 := hS.x.cell 5
    go_simp
    try with_reducible rfl
  (try dsimp only [Act.put]); try simp only [pt1, pt2, pt3]
  refine rdy 18 (fun K hK => ?_)
  have HBS0 := HBS
  go_simp
  refine (HCTic.out _ HBS0.out).mono ?_
  rintro e wn ⟨rfl, hb⟩
  have HBS := Lib.hid (HBS0.out.step hb)
  clear hb HBS0
  refine hK.out _ _ HBS.out (fun hHeld => ?_)
  clear hK K
  (try dsimp only [Act.put]); try simp only [pt1, pt2, pt3]
  refine tk 19 (v := ?_) (fun W hS => ?_) ?_
  rotate_left
  · (go_simp; try with_reducible rfl)
  (try dsimp only [Act.put]); try simp only [pt1, pt2, pt3]
  refine tk 20 (v := ?_) (fun W hS => ?_) ?_
  rotate_left
  · (go_simp; try with_reducible rfl)
  (try dsimp only [Act.put]); try simp only [pt1, pt2, pt3]
  refine tk 21 (v := ?_) (fun W hS => ?_) ?_
  rotate_left
  · try try dsimp only at hS
    have z0 := hS.x.cell 0
    have z1 := hS.x.cell 1
    have z2 := hS.x.cell 2
    have z3 := hS.x.cell 3
    have z4 := hS.x.cell 4
    have z5 := hS.x.cell 5
    go_simp
    try with_reducible rfl
  (try dsimp only [Act.put]); try simp only [pt1, pt2, pt3]
  refine rdy 22 (fun K hK => ?_)
  have HBS0 := HBS
  go_simp
  refine (HCThr.out _ HBS0.out).mono ?_
  rintro e wn ⟨rfl, hb⟩
  have HBS := Lib.hid (HBS0.out.step hb)
  clear hb HBS0
  refine hK.out _ _ HBS.out (fun hHeld => ?_)
  clear hK K
  (try dsimp only [Act.put]); try simp only [pt1, pt2, pt3]
  refine tk 23 (v := ?_) (fun W hS => ?_) ?_
  rotate_left
  · (go_simp; try with_reducible rfl)
  (try dsimp only [Act.put]); try simp only [pt1, pt2, pt3]
  refine tk 24 (v := ?_) (fun W hS => ?_) ?_
  rotate_left
  · (go_simp; try with_reducible rfl)
  (try dsimp only [Act.put]); try simp only [pt1, pt2, pt3]
  refine sk 25 ?_
  (try dsimp only [Act.put]); try simp only [pt1, pt2, pt3]
  refine sk 26 ?_
  (try dsimp only [Act.put]); try simp only [pt1, pt2, pt3]
  refine tk 27 (v := ?_) (fun W hS => ?_) ?_
  rotate_left
  · (go_simp; try with_reducible rfl)
  (try dsimp only [Act.put]); try simp only [pt1, pt2, pt3]
  refine tk 28 (v := ?_) (fun W hS => ?_) ?_
  rotate_left
  · (go_simp; try with_reducible rfl)
  (try dsimp only [Act.put]); try simp only [pt1, pt2, pt3]
  refine sk 29 ?_
  (try dsimp only [Act.put]); try simp only [pt1, pt2, pt3]
  refine sk 30 ?_
  (try dsimp only [Act.put]); try simp only [pt1, pt2, pt3]
  refine tk 31 (v := ?_) (fun W hS => ?_) ?_
  rotate_left
  · (go_simp; try with_reducible rfl)
  (try dsimp only [Act.put]); try simp only [pt1, pt2, pt3]
  refine tk 32 (v := ?_) (fun W hS => ?_) ?_
  rotate_left
  · (go_simp; try with_reducible rfl)
  (try dsimp only [Act.put]); try simp only [pt1, pt2, pt3]
  refine sk 33 ?_
  (try dsimp only [Act.put]); try simp only [pt1, pt2, pt3]
  refine sk 34 ?_
  (try dsimp only [Act.put]); try simp only [pt1, pt2, pt3]
  refine sk 35 ?_
  (try dsimp only [Act.put]); try simp only [pt1, pt2, pt3]
  refine sk 36 ?_
  (try dsimp only [Act.put]); try simp only [pt1, pt2, pt3]
  refine sk 37 ?_
  (try dsimp only [Act.put]); try simp only [pt1, pt2, pt3]
  refine sk 38 ?_
  (try dsimp only [Act.put]); try simp only [pt1, pt2, pt3]
  refine sk 39 ?_
  (try dsimp only [Act.put]); try simp only [pt1, pt2, pt3]
  refine tk 40 (v := ?_) (fun W hS => ?_) ?_
  rotate_left
  · (go_simp; try with_reducible rfl)
  (try dsimp only [Act.put]); try simp only [pt1, pt2, pt3]
  refine tk 41 (v := ?_) (fun W hS => ?_) ?_
  rotate_left
  · (go_simp; try with_reducible rfl)
  (try dsimp only [Act.put]); try simp only [pt1, pt2, pt3]
  refine sk 42 ?_
  (try dsimp only [Act.put]); try simp only [pt1, pt2, pt3]
  refine sk 43 ?_
  (try dsimp only [Act.put]); try simp only [pt1, pt2, pt3]
  refine sk 44 ?_
  (try dsimp only [Act.put]); try simp only [pt1, pt2, pt3]
  refine sk 45 ?_
  (try dsimp only [Act.put]); try simp only [pt1, pt2, pt3]
  refine sk 46 ?_
  (try dsimp only [Act.put]); try simp only [pt1, pt2, pt3]
  refine sk 47 ?_
  (try dsimp only [Act.put]); try simp only [pt1, pt2, pt3]
  refine sk 48 ?_
  (try dsimp only [Act.put]); try simp only [pt1, pt2, pt3]
  refine tk 49 (v := ?_) (fun W hS => ?_) ?_
  rotate_left
  · (go_simp; try with_reducible rfl)
  (try dsimp only [Act.put]); try simp only [pt1, pt2, pt3]
  refine rdy 50 (fun K hK => ?_)
  go_simp
  refine hK.out _ _ HBS.out (fun hHeld => ?_)
  clear hK K
  (try dsimp only [Act.put]); try simp only [pt1, pt2, pt3]
  refine wpAnyH_done (by kernel_rfl) ?_ _
  clear hHeld
  go_wp2_with fail
  go_ret
  exact ⟨rfl, HBS.out.b⟩
set_option maxHeartbeats 4000000 in
theorem fine14_6 (v : Value) (S : Sv14) (w : World) (h : St14 w v S) (e0 : 1 ≤ S.q) (e1 : S.q ≤ 1000) (e2 : Tidies14 S) (e3 : us14 usC S.C 0 = true) (e4 : Tickets14 S) (e5 : Threads14 S) (ne : ¬ Locks14 S) :
    Calls Tryz.prog 9 #[v] w fun e w' => e = .returned (.bool false) ∧ Below w.heap.size w w' := by
  obtain ⟨A0, A1, A2, A3, A4, n0, n1, n2, n3, n4, c0, c1, c2, c3, c4, sq, rfl, hs⟩ := h
  have hx0 := Bx14.new hs
  have hxn := hx0.step (Below.refl _ _).drew
  obtain ⟨W1, hW1⟩ : ∃ W, w.alloc (.cells #[.slice A0 n0 c0, .slice A1 n1 c1, .slice A2 n2 c2, .slice A3 n3 c3, .slice A4 n4 c4, .int .i64 sq] 28) = W := ⟨_, rfl⟩
  rw [hW1] at hx0 hxn
  have q5 := hx0.x.cell 5
  have g0 : 1 ≤ sq := by rw [← hs.e]; exact e0
  have g2 : sq ≤ 1000 := by rw [← hs.e]; exact e1
  have HCTid := Lib.hid (fun W (h : Bx14 w S A0 A1 A2 A3 A4 n0 n1 n2 n3 n4 c0 c1 c2 c3 c4 sq W) => tidyLists14 _ S true W h.st (by simp [e2]))
  have HCCoi := Lib.hid (fun W (h : Bx14 w S A0 A1 A2 A3 A4 n0 n1 n2 n3 n4 c0 c1 c2 c3 c4 sq W) => coin14 _ S 0 true W h.st (by simp [e3]))
  have HCTic := Lib.hid (fun W (h : Bx14 w S A0 A1 A2 A3 A4 n0 n1 n2 n3 n4 c0 c1 c2 c3 c4 sq W) => fineTickets14 _ S true W h.st (by simp [e4]))
  have HCThr := Lib.hid (fun W (h : Bx14 w S A0 A1 A2 A3 A4 n0 n1 n2 n3 n4 c0 c1 c2 c3 c4 sq W) => fineThreads14 _ S true W h.st (by simp [e5]))
  have HCLoc := Lib.hid (fun W (h : Bx14 w S A0 A1 A2 A3 A4 n0 n1 n2 n3 n4 c0 c1 c2 c3 c4 sq W) => fineLocks14 _ S false W h.st (by simp [ne]))
  have HXN := Lib.hid hxn
  clear hs hx0 hxn e0 e1 e2 e3 e4 e5 ne
  go_enter Tryz.func9, Tryz.ntmps9
  obtain ⟨wn, hwn⟩ : ∃ W, W1.drew = W := ⟨_, rfl⟩
  rw [hwn] at HXN
  go_wp2_with fail
  refine wp_region_held_drew (S := Bx14 w S A0 A1 A2 A3 A4 n0 n1 n2 n3 n4 c0 c1 c2 c3 c4 sq) (by kernel_rfl) (by rw [hwn]; exact HXN.out) (fun hHeld => ?_)
  rw [hwn] at hHeld ⊢
  clear hwn
  have HBS := HXN
  refine tk 0 (v := ?_) (fun W hS => ?_) ?_
  rotate_left
  · (go_simp; try with_reducible rfl)
  (try dsimp only [Act.put]); try simp only [pt1, pt2, pt3]
  refine tk 1 (v := ?_) (fun W hS => ?_) ?_
  rotate_left
  · try try dsimp only at hS
    have z0 := hS.x.cell 5
    go_simp
    try with_reducible rfl
  (try dsimp only [Act.put]); try simp only [pt1, pt2, pt3]
  refine tk 2 (v := ?_) (fun W hS => ?_) ?_
  rotate_left
  · (go_simp; try with_reducible rfl)
  (try dsimp only [Act.put]); try simp only [pt1, pt2, pt3]
  refine tk 3 (v := ?_) (fun W hS => ?_) ?_
  rotate_left
  · (go_simp; try with_reducible rfl)
  (try dsimp only [Act.put]); try simp only [pt1, pt2, pt3]
  refine tk 4 (v := ?_) (fun W hS => ?_) ?_
  rotate_left
  · (go_simp; try with_reducible rfl)
  (try dsimp only [Act.put]); try simp only [pt1, pt2, pt3]
  refine tk 5 (v := ?_) (fun W hS => ?_) ?_
  rotate_left
  · try try dsimp only at hS
    have z0 := hS.x.cell 5
    go_simp
    try with_reducible rfl
  (try dsimp only [Act.put]); try simp only [pt1, pt2, pt3]
  refine tk 6 (v := ?_) (fun W hS => ?_) ?_
  rotate_left
  · (go_simp; try with_reducible rfl)
  (try dsimp only [Act.put]); try simp only [pt1, pt2, pt3]
  refine tk 7 (v := ?_) (fun W hS => ?_) ?_
  rotate_left
  · (go_simp; try with_reducible rfl)
  (try dsimp only [Act.put]); try simp only [pt1, pt2, pt3]
  refine tk 8 (v := ?_) (fun W hS => ?_) ?_
  rotate_left
  · (go_simp; try with_reducible rfl)
  (try dsimp only [Act.put]); try simp only [pt1, pt2, pt3]
  refine tk 9 (v := ?_) (fun W hS => ?_) ?_
  rotate_left
  · try try dsimp only at hS
    have z0 := hS.x.cell 0
    have z1 := hS.x.cell 1
    have z2 := hS.x.cell 2
    have z3 := hS.x.cell 3
    have z4 := hS.x.cell 4
    have z5 := hS.x.cell 5
    go_simp
    try with_reducible rfl
  (try dsimp only [Act.put]); try simp only [pt1, pt2, pt3]
  refine rdy 10 (fun K hK => ?_)
  have HBS0 := HBS
  go_simp
  refine (HCTid.out _ HBS0.out).mono ?_
  rintro e wn ⟨rfl, hb⟩
  have HBS := Lib.hid (HBS0.out.step hb)
  clear hb HBS0
  refine hK.out _ _ HBS.out (fun hHeld => ?_)
  clear hK K
  (try dsimp only [Act.put]); try simp only [pt1, pt2, pt3]
  refine tk 11 (v := ?_) (fun W hS => ?_) ?_
  rotate_left
  · (go_simp; try with_reducible rfl)
  (try dsimp only [Act.put]); try simp only [pt1, pt2, pt3]
  refine tk 12 (v := ?_) (fun W hS => ?_) ?_
  rotate_left
  · (go_simp; try with_reducible rfl)
  (try dsimp only [Act.put]); try simp only [pt1, pt2, pt3]
  refine tk 13 (v := ?_) (fun W hS => ?_) ?_
  rotate_left
  · try try dsimp only at hS
    have z0 := hS.x.cell 0
    have z1 := hS.x.cell 1
    have z2 := hS.x.cell 2
    have z3 := hS.x.cell 3
    have z4 := hS.x.cell 4
    have z5 := hS.x.cell 5
    go_simp
    try with_reducible rfl
  (try dsimp only [Act.put]); try simp only [pt1, pt2, pt3]
  refine rdy 14 (fun K hK => ?_)
  have HBS0 := HBS
  go_simp
  refine (HCCoi.out _ HBS0.out).mono ?_
  rintro e wn ⟨rfl, hb⟩
  have HBS := Lib.hid (HBS0.out.step hb)
  clear hb HBS0
  refine hK.out _ _ HBS.out (fun hHeld => ?_)
  clear hK K
  (try dsimp only [Act.put]); try simp only [pt1, pt2, pt3]
  refine tk 15 (v := ?_) (fun W hS => ?_) ?_
  rotate_left
  · (go_simp; try with_reducible rfl)
  (try dsimp only [Act.put]); try simp only [pt1, pt2, pt3]
  refine tk 16 (v := ?_) (fun W hS => ?_) ?_
  rotate_left
  · (go_simp; try with_reducible rfl)
  (try dsimp only [Act.put]); try simp only [pt1, pt2, pt3]
  refine tk 17 (v := ?_) (fun W hS => ?_) ?_
  rotate_left
  · try try dsimp only at hS
    have z0 := hS.x.cell 0
    have z1 := hS.x.cell 1
    have z2 := hS.x.cell 2
    have z3 := hS.x.cell 3
    have z4 := hS.x.cell 4
    have z5 := hS.x.cell 5
    go_simp
    try with_reducible rfl
  (try dsimp only [Act.put]); try simp only [pt1, pt2, pt3]
  refine rdy 18 (fun K hK => ?_)
  have HBS0 := HBS
  go_simp
  refine (HCTic.out _ HBS0.out).mono ?_
  rintro e wn ⟨rfl, hb⟩
  have HBS := Lib.hid (HBS0.out.step hb)
  clear hb HBS0
  refine hK.out _ _ HBS.out (fun hHeld => ?_)
  clear hK K
  (try dsimp only [Act.put]); try simp only [pt1, pt2, pt3]
  refine tk 19 (v := ?_) (fun W hS => ?_) ?_
  rotate_left
  · (go_simp; try with_reducible rfl)
  (try dsimp only [Act.put]); try simp only [pt1, pt2, pt3]
  refine tk 20 (v := ?_) (fun W hS => ?_) ?_
  rotate_left
  · (go_simp; try with_reducible rfl)
  (try dsimp only [Act.put]); try simp only [pt1, pt2, pt3]
  refine tk 21 (v := ?_) (fun W hS => ?_) ?_
  rotate_left
  · try try dsimp only at hS
    have z0 := hS.x.cell 0
    have z1 := hS.x.cell 1
    have z2 := hS.x.cell 2
    have z3 := hS.x.cell 3
    have z4 := hS.x.cell 4
    have z5 := hS.x.cell 5
    go_simp
    try with_reducible rfl
  (try dsimp only [Act.put]); try simp only [pt1, pt2, pt3]
  refine rdy 22 (fun K hK => ?_)
  have HBS0 := HBS
  go_simp
  refine (HCThr.out _ HBS0.out).mono ?_
  rintro e wn ⟨rfl, hb⟩
  have HBS := Lib.hid (HBS0.out.step hb)
  clear hb HBS0
  refine hK.out _ _ HBS.out (fun hHeld => ?_)
  clear hK K
  (try dsimp only [Act.put]); try simp only [pt1, pt2, pt3]
  refine tk 23 (v := ?_) (fun W hS => ?_) ?_
  rotate_left
  · (go_simp; try with_reducible rfl)
  (try dsimp only [Act.put]); try simp only [pt1, pt2, pt3]
  refine tk 24 (v := ?_) (fun W hS => ?_) ?_
  rotate_left
  · (go_simp; try with_reducible rfl)
  (try dsimp only [Act.put]); try simp only [pt1, pt2, pt3]
  refine tk 25 (v := ?_) (fun W hS => ?_) ?_
  rotate_left
  · try try dsimp only at hS
    have z0 := hS.x.cell 0
    have z1 := hS.x.cell 1
    have z2 := hS.x.cell 2
    have z3 := hS.x.cell 3
    have z4 := hS.x.cell 4
    have z5 := hS.x.cell 5
    go_simp
    try with_reducible rfl
  (try dsimp only [Act.put]); try simp only [pt1, pt2, pt3]
  refine rdy 26 (fun K hK => ?_)
  have HBS0 := HBS
  go_simp
  refine (HCLoc.out _ HBS0.out).mono ?_
  rintro e wn ⟨rfl, hb⟩
  have HBS := Lib.hid (HBS0.out.step hb)
  clear hb HBS0
  refine hK.out _ _ HBS.out (fun hHeld => ?_)
  clear hK K
  (try dsimp only [Act.put]); try simp only [pt1, pt2, pt3]
  refine tk 27 (v := ?_) (fun W hS => ?_) ?_
  rotate_left
  · (go_simp; try with_reducible rfl)
  (try dsimp only [Act.put]); try simp only [pt1, pt2, pt3]
  refine tk 28 (v := ?_) (fun W hS => ?_) ?_
  rotate_left
  · (go_simp; try with_reducible rfl)
  (try dsimp only [Act.put]); try simp only [pt1, pt2, pt3]
  refine sk 29 ?_
  (try dsimp only [Act.put]); try simp only [pt1, pt2, pt3]
  refine sk 30 ?_
  (try dsimp only [Act.put]); try simp only [pt1, pt2, pt3]
  refine tk 31 (v := ?_) (fun W hS => ?_) ?_
  rotate_left
  · (go_simp; try with_reducible rfl)
  (try dsimp only [Act.put]); try simp only [pt1, pt2, pt3]
  refine tk 32 (v := ?_) (fun W hS => ?_) ?_
  rotate_left
  · (go_simp; try with_reducible rfl)
  (try dsimp only [Act.put]); try simp only [pt1, pt2, pt3]
  refine sk 33 ?_
  (try dsimp only [Act.put]); try simp only [pt1, pt2, pt3]
  refine sk 34 ?_
  (try dsimp only [Act.put]); try simp only [pt1, pt2, pt3]
  refine sk 35 ?_
  (try dsimp only [Act.put]); try simp only [pt1, pt2, pt3]
  refine sk 36 ?_
  (try dsimp only [Act.put]); try simp only [pt1, pt2, pt3]
  refine sk 37 ?_
  (try dsimp only [Act.put]); try simp only [pt1, pt2, pt3]
  refine sk 38 ?_
  (try dsimp only [Act.put]); try simp only [pt1, pt2, pt3]
  refine sk 39 ?_
  (try dsimp only [Act.put]); try simp only [pt1, pt2, pt3]
  refine tk 40 (v := ?_) (fun W hS => ?_) ?_
  rotate_left
  · (go_simp; try with_reducible rfl)
  (try dsimp only [Act.put]); try simp only [pt1, pt2, pt3]
  refine tk 41 (v := ?_) (fun W hS => ?_) ?_
  rotate_left
  · (go_simp; try with_reducible rfl)
  (try dsimp only [Act.put]); try simp only [pt1, pt2, pt3]
  refine sk 42 ?_
  (try dsimp only [Act.put]); try simp only [pt1, pt2, pt3]
  refine sk 43 ?_
  (try dsimp only [Act.put]); try simp only [pt1, pt2, pt3]
  refine sk 44 ?_
  (try dsimp only [Act.put]); try simp only [pt1, pt2, pt3]
  refine sk 45 ?_
  (try dsimp only [Act.put]); try simp only [pt1, pt2, pt3]
  refine sk 46 ?_
  (try dsimp only [Act.put]); try simp only [pt1, pt2, pt3]
  refine sk 47 ?_
  (try dsimp only [Act.put]); try simp only [pt1, pt2, pt3]
  refine sk 48 ?_
  (try dsimp only [Act.put]); try simp only [pt1, pt2, pt3]
  refine tk 49 (v := ?_) (fun W hS => ?_) ?_
  rotate_left
  · (go_simp; try with_reducible rfl)
  (try dsimp only [Act.put]); try simp only [pt1, pt2, pt3]
  refine rdy 50 (fun K hK => ?_)
  go_simp
  refine hK.out _ _ HBS.out (fun hHeld => ?_)
  clear hK K
  (try dsimp only [Act.put]); try simp only [pt1, pt2, pt3]
  refine wpAnyH_done (by kernel_rfl) ?_ _
  clear hHeld
  go_wp2_with fail
  go_ret
  exact ⟨rfl, HBS.out.b⟩
set_option maxHeartbeats 4000000 in
theorem fine14_7 (v : Value) (S : Sv14) (w : World) (h : St14 w v S) (e0 : 1 ≤ S.q) (e1 : S.q ≤ 1000) (e2 : Tidies14 S) (e3 : us14 usC S.C 0 = true) (e4 : Tickets14 S) (e5 : Threads14 S) (e6 : Locks14 S) (ne : ¬ Queue14 S) :
    Calls Tryz.prog 9 #[v] w fun e w' => e = .returned (.bool false) ∧ Below w.heap.size w w' := by
  obtain ⟨A0, A1, A2, A3, A4, n0, n1, n2, n3, n4, c0, c1, c2, c3, c4, sq, rfl, hs⟩ := h
  have hx0 := Bx14.new hs
  have hxn := hx0.step (Below.refl _ _).drew
  obtain ⟨W1, hW1⟩ : ∃ W, w.alloc (.cells #[.slice A0 n0 c0, .slice A1 n1 c1, .slice A2 n2 c2, .slice A3 n3 c3, .slice A4 n4 c4, .int .i64 sq] 28) = W := ⟨_, rfl⟩
  rw [hW1] at hx0 hxn
  have q5 := hx0.x.cell 5
  have g0 : 1 ≤ sq := by rw [← hs.e]; exact e0
  have g2 : sq ≤ 1000 := by rw [← hs.e]; exact e1
  have HCTid := Lib.hid (fun W (h : Bx14 w S A0 A1 A2 A3 A4 n0 n1 n2 n3 n4 c0 c1 c2 c3 c4 sq W) => tidyLists14 _ S true W h.st (by simp [e2]))
  have HCCoi := Lib.hid (fun W (h : Bx14 w S A0 A1 A2 A3 A4 n0 n1 n2 n3 n4 c0 c1 c2 c3 c4 sq W) => coin14 _ S 0 true W h.st (by simp [e3]))
  have HCTic := Lib.hid (fun W (h : Bx14 w S A0 A1 A2 A3 A4 n0 n1 n2 n3 n4 c0 c1 c2 c3 c4 sq W) => fineTickets14 _ S true W h.st (by simp [e4]))
  have HCThr := Lib.hid (fun W (h : Bx14 w S A0 A1 A2 A3 A4 n0 n1 n2 n3 n4 c0 c1 c2 c3 c4 sq W) => fineThreads14 _ S true W h.st (by simp [e5]))
  have HCLoc := Lib.hid (fun W (h : Bx14 w S A0 A1 A2 A3 A4 n0 n1 n2 n3 n4 c0 c1 c2 c3 c4 sq W) => fineLocks14 _ S true W h.st (by simp [e6]))
  have HCQue := Lib.hid (fun W (h : Bx14 w S A0 A1 A2 A3 A4 n0 n1 n2 n3 n4 c0 c1 c2 c3 c4 sq W) => fineQueue14 _ S false W h.st (by simp [ne]))
  have HXN := Lib.hid hxn
  clear hs hx0 hxn e0 e1 e2 e3 e4 e5 e6 ne
  go_enter Tryz.func9, Tryz.ntmps9
  obtain ⟨wn, hwn⟩ : ∃ W, W1.drew = W := ⟨_, rfl⟩
  rw [hwn] at HXN
  go_wp2_with fail
  refine wp_region_held_drew (S := Bx14 w S A0 A1 A2 A3 A4 n0 n1 n2 n3 n4 c0 c1 c2 c3 c4 sq) (by kernel_rfl) (by rw [hwn]; exact HXN.out) (fun hHeld => ?_)
  rw [hwn] at hHeld ⊢
  clear hwn
  have HBS := HXN
  refine tk 0 (v := ?_) (fun W hS => ?_) ?_
  rotate_left
  · (go_simp; try with_reducible rfl)
  (try dsimp only [Act.put]); try simp only [pt1, pt2, pt3]
  refine tk 1 (v := ?_) (fun W hS => ?_) ?_
  rotate_left
  · try try dsimp only at hS
    have z0 := hS.x.cell 5
    go_simp
    try with_reducible rfl
  (try dsimp only [Act.put]); try simp only [pt1, pt2, pt3]
  refine tk 2 (v := ?_) (fun W hS => ?_) ?_
  rotate_left
  · (go_simp; try with_reducible rfl)
  (try dsimp only [Act.put]); try simp only [pt1, pt2, pt3]
  refine tk 3 (v := ?_) (fun W hS => ?_) ?_
  rotate_left
  · (go_simp; try with_reducible rfl)
  (try dsimp only [Act.put]); try simp only [pt1, pt2, pt3]
  refine tk 4 (v := ?_) (fun W hS => ?_) ?_
  rotate_left
  · (go_simp; try with_reducible rfl)
  (try dsimp only [Act.put]); try simp only [pt1, pt2, pt3]
  refine tk 5 (v := ?_) (fun W hS => ?_) ?_
  rotate_left
  · try try dsimp only at hS
    have z0 := hS.x.cell 5
    go_simp
    try with_reducible rfl
  (try dsimp only [Act.put]); try simp only [pt1, pt2, pt3]
  refine tk 6 (v := ?_) (fun W hS => ?_) ?_
  rotate_left
  · (go_simp; try with_reducible rfl)
  (try dsimp only [Act.put]); try simp only [pt1, pt2, pt3]
  refine tk 7 (v := ?_) (fun W hS => ?_) ?_
  rotate_left
  · (go_simp; try with_reducible rfl)
  (try dsimp only [Act.put]); try simp only [pt1, pt2, pt3]
  refine tk 8 (v := ?_) (fun W hS => ?_) ?_
  rotate_left
  · (go_simp; try with_reducible rfl)
  (try dsimp only [Act.put]); try simp only [pt1, pt2, pt3]
  refine tk 9 (v := ?_) (fun W hS => ?_) ?_
  rotate_left
  · try try dsimp only at hS
    have z0 := hS.x.cell 0
    have z1 := hS.x.cell 1
    have z2 := hS.x.cell 2
    have z3 := hS.x.cell 3
    have z4 := hS.x.cell 4
    have z5 := hS.x.cell 5
    go_simp
    try with_reducible rfl
  (try dsimp only [Act.put]); try simp only [pt1, pt2, pt3]
  refine rdy 10 (fun K hK => ?_)
  have HBS0 := HBS
  go_simp
  refine (HCTid.out _ HBS0.out).mono ?_
  rintro e wn ⟨rfl, hb⟩
  have HBS := Lib.hid (HBS0.out.step hb)
  clear hb HBS0
  refine hK.out _ _ HBS.out (fun hHeld => ?_)
  clear hK K
  (try dsimp only [Act.put]); try simp only [pt1, pt2, pt3]
  refine tk 11 (v := ?_) (fun W hS => ?_) ?_
  rotate_left
  · (go_simp; try with_reducible rfl)
  (try dsimp only [Act.put]); try simp only [pt1, pt2, pt3]
  refine tk 12 (v := ?_) (fun W hS => ?_) ?_
  rotate_left
  · (go_simp; try with_reducible rfl)
  (try dsimp only [Act.put]); try simp only [pt1, pt2, pt3]
  refine tk 13 (v := ?_) (fun W hS => ?_) ?_
  rotate_left
  · try try dsimp only at hS
    have z0 := hS.x.cell 0
    have z1 := hS.x.cell 1
    have z2 := hS.x.cell 2
    have z3 := hS.x.cell 3
    have z4 := hS.x.cell 4
    have z5 := hS.x.cell 5
    go_simp
    try with_reducible rfl
  (try dsimp only [Act.put]); try simp only [pt1, pt2, pt3]
  refine rdy 14 (fun K hK => ?_)
  have HBS0 := HBS
  go_simp
  refine (HCCoi.out _ HBS0.out).mono ?_
  rintro e wn ⟨rfl, hb⟩
  have HBS := Lib.hid (HBS0.out.step hb)
  clear hb HBS0
  refine hK.out _ _ HBS.out (fun hHeld => ?_)
  clear hK K
  (try dsimp only [Act.put]); try simp only [pt1, pt2, pt3]
  refine tk 15 (v := ?_) (fun W hS => ?_) ?_
  rotate_left
  · (go_simp; try with_reducible rfl)
  (try dsimp only [Act.put]); try simp only [pt1, pt2, pt3]
  refine tk 16 (v := ?_) (fun W hS => ?_) ?_
  rotate_left
  · (go_simp; try with_reducible rfl)
  (try dsimp only [Act.put]); try simp only [pt1, pt2, pt3]
  refine tk 17 (v := ?_) (fun W hS => ?_) ?_
  rotate_left
  · try try dsimp only at hS
    have z0 := hS.x.cell 0
    have z1 := hS.x.cell 1
    have z2 := hS.x.cell 2
    have z3 := hS.x.cell 3
    have z4 := hS.x.cell 4
    have z5 := hS.x.cell 5
    go_simp
    try with_reducible rfl
  (try dsimp only [Act.put]); try simp only [pt1, pt2, pt3]
  refine rdy 18 (fun K hK => ?_)
  have HBS0 := HBS
  go_simp
  refine (HCTic.out _ HBS0.out).mono ?_
  rintro e wn ⟨rfl, hb⟩
  have HBS := Lib.hid (HBS0.out.step hb)
  clear hb HBS0
  refine hK.out _ _ HBS.out (fun hHeld => ?_)
  clear hK K
  (try dsimp only [Act.put]); try simp only [pt1, pt2, pt3]
  refine tk 19 (v := ?_) (fun W hS => ?_) ?_
  rotate_left
  · (go_simp; try with_reducible rfl)
  (try dsimp only [Act.put]); try simp only [pt1, pt2, pt3]
  refine tk 20 (v := ?_) (fun W hS => ?_) ?_
  rotate_left
  · (go_simp; try with_reducible rfl)
  (try dsimp only [Act.put]); try simp only [pt1, pt2, pt3]
  refine tk 21 (v := ?_) (fun W hS => ?_) ?_
  rotate_left
  · try try dsimp only at hS
    have z0 := hS.x.cell 0
    have z1 := hS.x.cell 1
    have z2 := hS.x.cell 2
    have z3 := hS.x.cell 3
    have z4 := hS.x.cell 4
    have z5 := hS.x.cell 5
    go_simp
    try with_reducible rfl
  (try dsimp only [Act.put]); try simp only [pt1, pt2, pt3]
  refine rdy 22 (fun K hK => ?_)
  have HBS0 := HBS
  go_simp
  refine (HCThr.out _ HBS0.out).mono ?_
  rintro e wn ⟨rfl, hb⟩
  have HBS := Lib.hid (HBS0.out.step hb)
  clear hb HBS0
  refine hK.out _ _ HBS.out (fun hHeld => ?_)
  clear hK K
  (try dsimp only [Act.put]); try simp only [pt1, pt2, pt3]
  refine tk 23 (v := ?_) (fun W hS => ?_) ?_
  rotate_left
  · (go_simp; try with_reducible rfl)
  (try dsimp only [Act.put]); try simp only [pt1, pt2, pt3]
  refine tk 24 (v := ?_) (fun W hS => ?_) ?_
  rotate_left
  · (go_simp; try with_reducible rfl)
  (try dsimp only [Act.put]); try simp only [pt1, pt2, pt3]
  refine tk 25 (v := ?_) (fun W hS => ?_) ?_
  rotate_left
  · try try dsimp only at hS
    have z0 := hS.x.cell 0
    have z1 := hS.x.cell 1
    have z2 := hS.x.cell 2
    have z3 := hS.x.cell 3
    have z4 := hS.x.cell 4
    have z5 := hS.x.cell 5
    go_simp
    try with_reducible rfl
  (try dsimp only [Act.put]); try simp only [pt1, pt2, pt3]
  refine rdy 26 (fun K hK => ?_)
  have HBS0 := HBS
  go_simp
  refine (HCLoc.out _ HBS0.out).mono ?_
  rintro e wn ⟨rfl, hb⟩
  have HBS := Lib.hid (HBS0.out.step hb)
  clear hb HBS0
  refine hK.out _ _ HBS.out (fun hHeld => ?_)
  clear hK K
  (try dsimp only [Act.put]); try simp only [pt1, pt2, pt3]
  refine tk 27 (v := ?_) (fun W hS => ?_) ?_
  rotate_left
  · (go_simp; try with_reducible rfl)
  (try dsimp only [Act.put]); try simp only [pt1, pt2, pt3]
  refine tk 28 (v := ?_) (fun W hS => ?_) ?_
  rotate_left
  · (go_simp; try with_reducible rfl)
  (try dsimp only [Act.put]); try simp only [pt1, pt2, pt3]
  refine tk 29 (v := ?_) (fun W hS => ?_) ?_
  rotate_left
  · try try dsimp only at hS
    have z0 := hS.x.cell 0
    have z1 := hS.x.cell 1
    have z2 := hS.x.cell 2
    have z3 := hS.x.cell 3
    have z4 := hS.x.cell 4
    have z5 := hS.x.cell 5
    go_simp
    try with_reducible rfl
  (try dsimp only [Act.put]); try simp only [pt1, pt2, pt3]
  refine rdy 30 (fun K hK => ?_)
  have HBS0 := HBS
  go_simp
  refine (HCQue.out _ HBS0.out).mono ?_
  rintro e wn ⟨rfl, hb⟩
  have HBS := Lib.hid (HBS0.out.step hb)
  clear hb HBS0
  refine hK.out _ _ HBS.out (fun hHeld => ?_)
  clear hK K
  (try dsimp only [Act.put]); try simp only [pt1, pt2, pt3]
  refine tk 31 (v := ?_) (fun W hS => ?_) ?_
  rotate_left
  · (go_simp; try with_reducible rfl)
  (try dsimp only [Act.put]); try simp only [pt1, pt2, pt3]
  refine tk 32 (v := ?_) (fun W hS => ?_) ?_
  rotate_left
  · (go_simp; try with_reducible rfl)
  (try dsimp only [Act.put]); try simp only [pt1, pt2, pt3]
  refine sk 33 ?_
  (try dsimp only [Act.put]); try simp only [pt1, pt2, pt3]
  refine sk 34 ?_
  (try dsimp only [Act.put]); try simp only [pt1, pt2, pt3]
  refine sk 35 ?_
  (try dsimp only [Act.put]); try simp only [pt1, pt2, pt3]
  refine sk 36 ?_
  (try dsimp only [Act.put]); try simp only [pt1, pt2, pt3]
  refine sk 37 ?_
  (try dsimp only [Act.put]); try simp only [pt1, pt2, pt3]
  refine sk 38 ?_
  (try dsimp only [Act.put]); try simp only [pt1, pt2, pt3]
  refine sk 39 ?_
  (try dsimp only [Act.put]); try simp only [pt1, pt2, pt3]
  refine tk 40 (v := ?_) (fun W hS => ?_) ?_
  rotate_left
  · (go_simp; try with_reducible rfl)
  (try dsimp only [Act.put]); try simp only [pt1, pt2, pt3]
  refine tk 41 (v := ?_) (fun W hS => ?_) ?_
  rotate_left
  · (go_simp; try with_reducible rfl)
  (try dsimp only [Act.put]); try simp only [pt1, pt2, pt3]
  refine sk 42 ?_
  (try dsimp only [Act.put]); try simp only [pt1, pt2, pt3]
  refine sk 43 ?_
  (try dsimp only [Act.put]); try simp only [pt1, pt2, pt3]
  refine sk 44 ?_
  (try dsimp only [Act.put]); try simp only [pt1, pt2, pt3]
  refine sk 45 ?_
  (try dsimp only [Act.put]); try simp only [pt1, pt2, pt3]
  refine sk 46 ?_
  (try dsimp only [Act.put]); try simp only [pt1, pt2, pt3]
  refine sk 47 ?_
  (try dsimp only [Act.put]); try simp only [pt1, pt2, pt3]
  refine sk 48 ?_
  (try dsimp only [Act.put]); try simp only [pt1, pt2, pt3]
  refine tk 49 (v := ?_) (fun W hS => ?_) ?_
  rotate_left
  · (go_simp; try with_reducible rfl)
  (try dsimp only [Act.put]); try simp only [pt1, pt2, pt3]
  refine rdy 50 (fun K hK => ?_)
  go_simp
  refine hK.out _ _ HBS.out (fun hHeld => ?_)
  clear hK K
  (try dsimp only [Act.put]); try simp only [pt1, pt2, pt3]
  refine wpAnyH_done (by kernel_rfl) ?_ _
  clear hHeld
  go_wp2_with fail
  go_ret
  exact ⟨rfl, HBS.out.b⟩
set_option maxHeartbeats 4000000 in
theorem fine14_8 (v : Value) (S : Sv14) (w : World) (h : St14 w v S) (e0 : 1 ≤ S.q) (e1 : S.q ≤ 1000) (e2 : Tidies14 S) (e3 : us14 usC S.C 0 = true) (e4 : Tickets14 S) (e5 : Threads14 S) (e6 : Locks14 S) (e7 : Queue14 S) (ne : ¬ Free14R S.C.length (cArr14 S S.T.length)) :
    Calls Tryz.prog 9 #[v] w fun e w' => e = .returned (.bool false) ∧ Below w.heap.size w w' := by
  obtain ⟨A0, A1, A2, A3, A4, n0, n1, n2, n3, n4, c0, c1, c2, c3, c4, sq, rfl, hs⟩ := h
  have hx0 := Bx14.new hs
  have hxn := hx0.step (Below.refl _ _).drew
  obtain ⟨W1, hW1⟩ : ∃ W, w.alloc (.cells #[.slice A0 n0 c0, .slice A1 n1 c1, .slice A2 n2 c2, .slice A3 n3 c3, .slice A4 n4 c4, .int .i64 sq] 28) = W := ⟨_, rfl⟩
  rw [hW1] at hx0 hxn
  have q5 := hx0.x.cell 5
  have g0 : 1 ≤ sq := by rw [← hs.e]; exact e0
  have g2 : sq ≤ 1000 := by rw [← hs.e]; exact e1
  have HCTid := Lib.hid (fun W (h : Bx14 w S A0 A1 A2 A3 A4 n0 n1 n2 n3 n4 c0 c1 c2 c3 c4 sq W) => tidyLists14 _ S true W h.st (by simp [e2]))
  have HCCoi := Lib.hid (fun W (h : Bx14 w S A0 A1 A2 A3 A4 n0 n1 n2 n3 n4 c0 c1 c2 c3 c4 sq W) => coin14 _ S 0 true W h.st (by simp [e3]))
  have HCTic := Lib.hid (fun W (h : Bx14 w S A0 A1 A2 A3 A4 n0 n1 n2 n3 n4 c0 c1 c2 c3 c4 sq W) => fineTickets14 _ S true W h.st (by simp [e4]))
  have HCThr := Lib.hid (fun W (h : Bx14 w S A0 A1 A2 A3 A4 n0 n1 n2 n3 n4 c0 c1 c2 c3 c4 sq W) => fineThreads14 _ S true W h.st (by simp [e5]))
  have HCLoc := Lib.hid (fun W (h : Bx14 w S A0 A1 A2 A3 A4 n0 n1 n2 n3 n4 c0 c1 c2 c3 c4 sq W) => fineLocks14 _ S true W h.st (by simp [e6]))
  have HCQue := Lib.hid (fun W (h : Bx14 w S A0 A1 A2 A3 A4 n0 n1 n2 n3 n4 c0 c1 c2 c3 c4 sq W) => fineQueue14 _ S true W h.st (by simp [e7]))
  have hl0 := hs.l0
  have hl2 := hs.l2
  have hm0 := hs.m0
  have hm1 := hs.m1
  have hm2 := hs.m2
  have hl1 := hs.l1
  have HCA := Lib.hid (fun W (h : Bx14 w S A0 A1 A2 A3 A4 n0 n1 n2 n3 n4 c0 c1 c2 c3 c4 sq W) => coinArrows14 _ S W h.st)
  have HLA : Hid ((cArr14 S S.T.length).length ≤ 1000000) := Lib.hid (by have := cArr14_len S S.T.length; omega)
  have HRA := Lib.hid (fun W Ad c (hr : Aq W W.heap.size Ad (cArr14 S S.T.length)) => dring14 n0 (by omega) Ad _ c false W hr HLA.out (by rw [← hl0]; simp [ne]))
  have HXN := Lib.hid hxn
  clear hs hx0 hxn e0 e1 e2 e3 e4 e5 e6 e7 ne hl0 hl1 hl2 hm0 hm1 hm2
  go_enter Tryz.func9, Tryz.ntmps9
  obtain ⟨wn, hwn⟩ : ∃ W, W1.drew = W := ⟨_, rfl⟩
  rw [hwn] at HXN
  go_wp2_with fail
  refine wp_region_held_drew (S := Bx14 w S A0 A1 A2 A3 A4 n0 n1 n2 n3 n4 c0 c1 c2 c3 c4 sq) (by kernel_rfl) (by rw [hwn]; exact HXN.out) (fun hHeld => ?_)
  rw [hwn] at hHeld ⊢
  clear hwn
  have HBS := HXN
  refine tk 0 (v := ?_) (fun W hS => ?_) ?_
  rotate_left
  · (go_simp; try with_reducible rfl)
  (try dsimp only [Act.put]); try simp only [pt1, pt2, pt3]
  refine tk 1 (v := ?_) (fun W hS => ?_) ?_
  rotate_left
  · try try dsimp only at hS
    have z0 := hS.x.cell 5
    go_simp
    try with_reducible rfl
  (try dsimp only [Act.put]); try simp only [pt1, pt2, pt3]
  refine tk 2 (v := ?_) (fun W hS => ?_) ?_
  rotate_left
  · (go_simp; try with_reducible rfl)
  (try dsimp only [Act.put]); try simp only [pt1, pt2, pt3]
  refine tk 3 (v := ?_) (fun W hS => ?_) ?_
  rotate_left
  · (go_simp; try with_reducible rfl)
  (try dsimp only [Act.put]); try simp only [pt1, pt2, pt3]
  refine tk 4 (v := ?_) (fun W hS => ?_) ?_
  rotate_left
  · (go_simp; try with_reducible rfl)
  (try dsimp only [Act.put]); try simp only [pt1, pt2, pt3]
  refine tk 5 (v := ?_) (fun W hS => ?_) ?_
  rotate_left
  · try try dsimp only at hS
    have z0 := hS.x.cell 5
    go_simp
    try with_reducible rfl
  (try dsimp only [Act.put]); try simp only [pt1, pt2, pt3]
  refine tk 6 (v := ?_) (fun W hS => ?_) ?_
  rotate_left
  · (go_simp; try with_reducible rfl)
  (try dsimp only [Act.put]); try simp only [pt1, pt2, pt3]
  refine tk 7 (v := ?_) (fun W hS => ?_) ?_
  rotate_left
  · (go_simp; try with_reducible rfl)
  (try dsimp only [Act.put]); try simp only [pt1, pt2, pt3]
  refine tk 8 (v := ?_) (fun W hS => ?_) ?_
  rotate_left
  · (go_simp; try with_reducible rfl)
  (try dsimp only [Act.put]); try simp only [pt1, pt2, pt3]
  refine tk 9 (v := ?_) (fun W hS => ?_) ?_
  rotate_left
  · try try dsimp only at hS
    have z0 := hS.x.cell 0
    have z1 := hS.x.cell 1
    have z2 := hS.x.cell 2
    have z3 := hS.x.cell 3
    have z4 := hS.x.cell 4
    have z5 := hS.x.cell 5
    go_simp
    try with_reducible rfl
  (try dsimp only [Act.put]); try simp only [pt1, pt2, pt3]
  refine rdy 10 (fun K hK => ?_)
  have HBS0 := HBS
  go_simp
  refine (HCTid.out _ HBS0.out).mono ?_
  rintro e wn ⟨rfl, hb⟩
  have HBS := Lib.hid (HBS0.out.step hb)
  clear hb HBS0
  refine hK.out _ _ HBS.out (fun hHeld => ?_)
  clear hK K
  (try dsimp only [Act.put]); try simp only [pt1, pt2, pt3]
  refine tk 11 (v := ?_) (fun W hS => ?_) ?_
  rotate_left
  · (go_simp; try with_reducible rfl)
  (try dsimp only [Act.put]); try simp only [pt1, pt2, pt3]
  refine tk 12 (v := ?_) (fun W hS => ?_) ?_
  rotate_left
  · (go_simp; try with_reducible rfl)
  (try dsimp only [Act.put]); try simp only [pt1, pt2, pt3]
  refine tk 13 (v := ?_) (fun W hS => ?_) ?_
  rotate_left
  · try try dsimp only at hS
    have z0 := hS.x.cell 0
    have z1 := hS.x.cell 1
    have z2 := hS.x.cell 2
    have z3 := hS.x.cell 3
    have z4 := hS.x.cell 4
    have z5 := hS.x.cell 5
    go_simp
    try with_reducible rfl
  (try dsimp only [Act.put]); try simp only [pt1, pt2, pt3]
  refine rdy 14 (fun K hK => ?_)
  have HBS0 := HBS
  go_simp
  refine (HCCoi.out _ HBS0.out).mono ?_
  rintro e wn ⟨rfl, hb⟩
  have HBS := Lib.hid (HBS0.out.step hb)
  clear hb HBS0
  refine hK.out _ _ HBS.out (fun hHeld => ?_)
  clear hK K
  (try dsimp only [Act.put]); try simp only [pt1, pt2, pt3]
  refine tk 15 (v := ?_) (fun W hS => ?_) ?_
  rotate_left
  · (go_simp; try with_reducible rfl)
  (try dsimp only [Act.put]); try simp only [pt1, pt2, pt3]
  refine tk 16 (v := ?_) (fun W hS => ?_) ?_
  rotate_left
  · (go_simp; try with_reducible rfl)
  (try dsimp only [Act.put]); try simp only [pt1, pt2, pt3]
  refine tk 17 (v := ?_) (fun W hS => ?_) ?_
  rotate_left
  · try try dsimp only at hS
    have z0 := hS.x.cell 0
    have z1 := hS.x.cell 1
    have z2 := hS.x.cell 2
    have z3 := hS.x.cell 3
    have z4 := hS.x.cell 4
    have z5 := hS.x.cell 5
    go_simp
    try with_reducible rfl
  (try dsimp only [Act.put]); try simp only [pt1, pt2, pt3]
  refine rdy 18 (fun K hK => ?_)
  have HBS0 := HBS
  go_simp
  refine (HCTic.out _ HBS0.out).mono ?_
  rintro e wn ⟨rfl, hb⟩
  have HBS := Lib.hid (HBS0.out.step hb)
  clear hb HBS0
  refine hK.out _ _ HBS.out (fun hHeld => ?_)
  clear hK K
  (try dsimp only [Act.put]); try simp only [pt1, pt2, pt3]
  refine tk 19 (v := ?_) (fun W hS => ?_) ?_
  rotate_left
  · (go_simp; try with_reducible rfl)
  (try dsimp only [Act.put]); try simp only [pt1, pt2, pt3]
  refine tk 20 (v := ?_) (fun W hS => ?_) ?_
  rotate_left
  · (go_simp; try with_reducible rfl)
  (try dsimp only [Act.put]); try simp only [pt1, pt2, pt3]
  refine tk 21 (v := ?_) (fun W hS => ?_) ?_
  rotate_left
  · try try dsimp only at hS
    have z0 := hS.x.cell 0
    have z1 := hS.x.cell 1
    have z2 := hS.x.cell 2
    have z3 := hS.x.cell 3
    have z4 := hS.x.cell 4
    have z5 := hS.x.cell 5
    go_simp
    try with_reducible rfl
  (try dsimp only [Act.put]); try simp only [pt1, pt2, pt3]
  refine rdy 22 (fun K hK => ?_)
  have HBS0 := HBS
  go_simp
  refine (HCThr.out _ HBS0.out).mono ?_
  rintro e wn ⟨rfl, hb⟩
  have HBS := Lib.hid (HBS0.out.step hb)
  clear hb HBS0
  refine hK.out _ _ HBS.out (fun hHeld => ?_)
  clear hK K
  (try dsimp only [Act.put]); try simp only [pt1, pt2, pt3]
  refine tk 23 (v := ?_) (fun W hS => ?_) ?_
  rotate_left
  · (go_simp; try with_reducible rfl)
  (try dsimp only [Act.put]); try simp only [pt1, pt2, pt3]
  refine tk 24 (v := ?_) (fun W hS => ?_) ?_
  rotate_left
  · (go_simp; try with_reducible rfl)
  (try dsimp only [Act.put]); try simp only [pt1, pt2, pt3]
  refine tk 25 (v := ?_) (fun W hS => ?_) ?_
  rotate_left
  · try try dsimp only at hS
    have z0 := hS.x.cell 0
    have z1 := hS.x.cell 1
    have z2 := hS.x.cell 2
    have z3 := hS.x.cell 3
    have z4 := hS.x.cell 4
    have z5 := hS.x.cell 5
    go_simp
    try with_reducible rfl
  (try dsimp only [Act.put]); try simp only [pt1, pt2, pt3]
  refine rdy 26 (fun K hK => ?_)
  have HBS0 := HBS
  go_simp
  refine (HCLoc.out _ HBS0.out).mono ?_
  rintro e wn ⟨rfl, hb⟩
  have HBS := Lib.hid (HBS0.out.step hb)
  clear hb HBS0
  refine hK.out _ _ HBS.out (fun hHeld => ?_)
  clear hK K
  (try dsimp only [Act.put]); try simp only [pt1, pt2, pt3]
  refine tk 27 (v := ?_) (fun W hS => ?_) ?_
  rotate_left
  · (go_simp; try with_reducible rfl)
  (try dsimp only [Act.put]); try simp only [pt1, pt2, pt3]
  refine tk 28 (v := ?_) (fun W hS => ?_) ?_
  rotate_left
  · (go_simp; try with_reducible rfl)
  (try dsimp only [Act.put]); try simp only [pt1, pt2, pt3]
  refine tk 29 (v := ?_) (fun W hS => ?_) ?_
  rotate_left
  · try try dsimp only at hS
    have z0 := hS.x.cell 0
    have z1 := hS.x.cell 1
    have z2 := hS.x.cell 2
    have z3 := hS.x.cell 3
    have z4 := hS.x.cell 4
    have z5 := hS.x.cell 5
    go_simp
    try with_reducible rfl
  (try dsimp only [Act.put]); try simp only [pt1, pt2, pt3]
  refine rdy 30 (fun K hK => ?_)
  have HBS0 := HBS
  go_simp
  refine (HCQue.out _ HBS0.out).mono ?_
  rintro e wn ⟨rfl, hb⟩
  have HBS := Lib.hid (HBS0.out.step hb)
  clear hb HBS0
  refine hK.out _ _ HBS.out (fun hHeld => ?_)
  clear hK K
  (try dsimp only [Act.put]); try simp only [pt1, pt2, pt3]
  refine tk 31 (v := ?_) (fun W hS => ?_) ?_
  rotate_left
  · (go_simp; try with_reducible rfl)
  (try dsimp only [Act.put]); try simp only [pt1, pt2, pt3]
  refine tk 32 (v := ?_) (fun W hS => ?_) ?_
  rotate_left
  · (go_simp; try with_reducible rfl)
  (try dsimp only [Act.put]); try simp only [pt1, pt2, pt3]
  refine tk 33 (v := ?_) (fun W hS => ?_) ?_
  rotate_left
  · (go_simp; try with_reducible rfl)
  (try dsimp only [Act.put]); try simp only [pt1, pt2, pt3]
  refine tk 34 (v := ?_) (fun W hS => ?_) ?_
  rotate_left
  · try try dsimp only at hS
    have z0 := hS.x.cell 0
    go_simp
    try with_reducible rfl
  (try dsimp only [Act.put]); try simp only [pt1, pt2, pt3]
  refine tk 35 (v := ?_) (fun W hS => ?_) ?_
  rotate_left
  · (go_simp; try with_reducible rfl)
  (try dsimp only [Act.put]); try simp only [pt1, pt2, pt3]
  refine tk 36 (v := ?_) (fun W hS => ?_) ?_
  rotate_left
  · try try dsimp only at hS
    have z0 := hS.x.cell 0
    have z1 := hS.x.cell 1
    have z2 := hS.x.cell 2
    have z3 := hS.x.cell 3
    have z4 := hS.x.cell 4
    have z5 := hS.x.cell 5
    go_simp
    try with_reducible rfl
  (try dsimp only [Act.put]); try simp only [pt1, pt2, pt3]
  refine rdy 37 (fun K hK => ?_)
  have HBS0 := HBS
  go_simp
  refine (HCA.out _ HBS0.out).mono ?_
  rintro e wn ⟨Ac, cc, rfl, hqa, hb⟩
  have HBS := Lib.hid (HBS0.out.step hb)
  have HQA := Lib.hid hqa
  clear hb hqa HBS0
  refine hK.out _ _ HBS.out (fun hHeld => ?_)
  clear hK K
  (try dsimp only [Act.put]); try simp only [pt1, pt2, pt3]
  refine rdy 38 (fun K hK => ?_)
  have HBS0 := HBS
  go_simp
  refine (HRA.out _ Ac cc HQA.out).mono ?_
  rintro e wn ⟨rfl, hb⟩
  have HBS := Lib.hid (HBS0.out.step hb)
  clear hb HBS0 HQA
  refine hK.out _ _ HBS.out (fun hHeld => ?_)
  clear hK K
  (try dsimp only [Act.put]); try simp only [pt1, pt2, pt3]
  refine tk 39 (v := ?_) (fun W hS => ?_) ?_
  rotate_left
  · (go_simp; try with_reducible rfl)
  (try dsimp only [Act.put]); try simp only [pt1, pt2, pt3]
  refine tk 40 (v := ?_) (fun W hS => ?_) ?_
  rotate_left
  · (go_simp; try with_reducible rfl)
  (try dsimp only [Act.put]); try simp only [pt1, pt2, pt3]
  refine tk 41 (v := ?_) (fun W hS => ?_) ?_
  rotate_left
  · (go_simp; try with_reducible rfl)
  (try dsimp only [Act.put]); try simp only [pt1, pt2, pt3]
  refine sk 42 ?_
  (try dsimp only [Act.put]); try simp only [pt1, pt2, pt3]
  refine sk 43 ?_
  (try dsimp only [Act.put]); try simp only [pt1, pt2, pt3]
  refine sk 44 ?_
  (try dsimp only [Act.put]); try simp only [pt1, pt2, pt3]
  refine sk 45 ?_
  (try dsimp only [Act.put]); try simp only [pt1, pt2, pt3]
  refine sk 46 ?_
  (try dsimp only [Act.put]); try simp only [pt1, pt2, pt3]
  refine sk 47 ?_
  (try dsimp only [Act.put]); try simp only [pt1, pt2, pt3]
  refine sk 48 ?_
  (try dsimp only [Act.put]); try simp only [pt1, pt2, pt3]
  refine tk 49 (v := ?_) (fun W hS => ?_) ?_
  rotate_left
  · (go_simp; try with_reducible rfl)
  (try dsimp only [Act.put]); try simp only [pt1, pt2, pt3]
  refine rdy 50 (fun K hK => ?_)
  go_simp
  refine hK.out _ _ HBS.out (fun hHeld => ?_)
  clear hK K
  (try dsimp only [Act.put]); try simp only [pt1, pt2, pt3]
  refine wpAnyH_done (by kernel_rfl) ?_ _
  clear hHeld
  go_wp2_with fail
  go_ret
  exact ⟨rfl, HBS.out.b⟩
set_option maxHeartbeats 4000000 in
theorem fine14_9 (v : Value) (S : Sv14) (w : World) (h : St14 w v S) (e0 : 1 ≤ S.q) (e1 : S.q ≤ 1000) (e2 : Tidies14 S) (e3 : us14 usC S.C 0 = true) (e4 : Tickets14 S) (e5 : Threads14 S) (e6 : Locks14 S) (e7 : Queue14 S) (e8 : Free14R S.C.length (cArr14 S S.T.length)) (b : Bool) (hb : b = true ↔ Free14R S.H.length (tArr14 S S.H.length)) :
    Calls Tryz.prog 9 #[v] w fun e w' => e = .returned (.bool b) ∧ Below w.heap.size w w' := by
  obtain ⟨A0, A1, A2, A3, A4, n0, n1, n2, n3, n4, c0, c1, c2, c3, c4, sq, rfl, hs⟩ := h
  have hx0 := Bx14.new hs
  have hxn := hx0.step (Below.refl _ _).drew
  obtain ⟨W1, hW1⟩ : ∃ W, w.alloc (.cells #[.slice A0 n0 c0, .slice A1 n1 c1, .slice A2 n2 c2, .slice A3 n3 c3, .slice A4 n4 c4, .int .i64 sq] 28) = W := ⟨_, rfl⟩
  rw [hW1] at hx0 hxn
  have q5 := hx0.x.cell 5
  have g0 : 1 ≤ sq := by rw [← hs.e]; exact e0
  have g2 : sq ≤ 1000 := by rw [← hs.e]; exact e1
  have HCTid := Lib.hid (fun W (h : Bx14 w S A0 A1 A2 A3 A4 n0 n1 n2 n3 n4 c0 c1 c2 c3 c4 sq W) => tidyLists14 _ S true W h.st (by simp [e2]))
  have HCCoi := Lib.hid (fun W (h : Bx14 w S A0 A1 A2 A3 A4 n0 n1 n2 n3 n4 c0 c1 c2 c3 c4 sq W) => coin14 _ S 0 true W h.st (by simp [e3]))
  have HCTic := Lib.hid (fun W (h : Bx14 w S A0 A1 A2 A3 A4 n0 n1 n2 n3 n4 c0 c1 c2 c3 c4 sq W) => fineTickets14 _ S true W h.st (by simp [e4]))
  have HCThr := Lib.hid (fun W (h : Bx14 w S A0 A1 A2 A3 A4 n0 n1 n2 n3 n4 c0 c1 c2 c3 c4 sq W) => fineThreads14 _ S true W h.st (by simp [e5]))
  have HCLoc := Lib.hid (fun W (h : Bx14 w S A0 A1 A2 A3 A4 n0 n1 n2 n3 n4 c0 c1 c2 c3 c4 sq W) => fineLocks14 _ S true W h.st (by simp [e6]))
  have HCQue := Lib.hid (fun W (h : Bx14 w S A0 A1 A2 A3 A4 n0 n1 n2 n3 n4 c0 c1 c2 c3 c4 sq W) => fineQueue14 _ S true W h.st (by simp [e7]))
  have hl0 := hs.l0
  have hl2 := hs.l2
  have hm0 := hs.m0
  have hm1 := hs.m1
  have hm2 := hs.m2
  have hl1 := hs.l1
  have HCA := Lib.hid (fun W (h : Bx14 w S A0 A1 A2 A3 A4 n0 n1 n2 n3 n4 c0 c1 c2 c3 c4 sq W) => coinArrows14 _ S W h.st)
  have HLA : Hid ((cArr14 S S.T.length).length ≤ 1000000) := Lib.hid (by have := cArr14_len S S.T.length; omega)
  have HRA := Lib.hid (fun W Ad c (hr : Aq W W.heap.size Ad (cArr14 S S.T.length)) => dring14 n0 (by omega) Ad _ c true W hr HLA.out (by rw [← hl0]; simp [e8]))
  have HCB := Lib.hid (fun W (h : Bx14 w S A0 A1 A2 A3 A4 n0 n1 n2 n3 n4 c0 c1 c2 c3 c4 sq W) => threadArrows14 _ S W h.st)
  have HLB : Hid ((tArr14 S S.H.length).length ≤ 1000000) := Lib.hid (by have := tArr14_len S S.H.length; omega)
  have HRB := Lib.hid (fun W Ad c (hr : Aq W W.heap.size Ad (tArr14 S S.H.length)) => dring14 n2 (by omega) Ad _ c b W hr HLB.out (by rw [← hl2]; exact hb))
  have HXN := Lib.hid hxn
  clear hs hx0 hxn e0 e1 e2 e3 e4 e5 e6 e7 e8 hb hl0 hl1 hl2 hm0 hm1 hm2
  go_enter Tryz.func9, Tryz.ntmps9
  obtain ⟨wn, hwn⟩ : ∃ W, W1.drew = W := ⟨_, rfl⟩
  rw [hwn] at HXN
  go_wp2_with fail
  refine wp_region_held_drew (S := Bx14 w S A0 A1 A2 A3 A4 n0 n1 n2 n3 n4 c0 c1 c2 c3 c4 sq) (by kernel_rfl) (by rw [hwn]; exact HXN.out) (fun hHeld => ?_)
  rw [hwn] at hHeld ⊢
  clear hwn
  have HBS := HXN
  refine tk 0 (v := ?_) (fun W hS => ?_) ?_
  rotate_left
  · (go_simp; try with_reducible rfl)
  (try dsimp only [Act.put]); try simp only [pt1, pt2, pt3]
  refine tk 1 (v := ?_) (fun W hS => ?_) ?_
  rotate_left
  · try try dsimp only at hS
    have z0 := hS.x.cell 5
    go_simp
    try with_reducible rfl
  (try dsimp only [Act.put]); try simp only [pt1, pt2, pt3]
  refine tk 2 (v := ?_) (fun W hS => ?_) ?_
  rotate_left
  · (go_simp; try with_reducible rfl)
  (try dsimp only [Act.put]); try simp only [pt1, pt2, pt3]
  refine tk 3 (v := ?_) (fun W hS => ?_) ?_
  rotate_left
  · (go_simp; try with_reducible rfl)
  (try dsimp only [Act.put]); try simp only [pt1, pt2, pt3]
  refine tk 4 (v := ?_) (fun W hS => ?_) ?_
  rotate_left
  · (go_simp; try with_reducible rfl)
  (try dsimp only [Act.put]); try simp only [pt1, pt2, pt3]
  refine tk 5 (v := ?_) (fun W hS => ?_) ?_
  rotate_left
  · try try dsimp only at hS
    have z0 := hS.x.cell 5
    go_simp
    try with_reducible rfl
  (try dsimp only [Act.put]); try simp only [pt1, pt2, pt3]
  refine tk 6 (v := ?_) (fun W hS => ?_) ?_
  rotate_left
  · (go_simp; try with_reducible rfl)
  (try dsimp only [Act.put]); try simp only [pt1, pt2, pt3]
  refine tk 7 (v := ?_) (fun W hS => ?_) ?_
  rotate_left
  · (go_simp; try with_reducible rfl)
  (try dsimp only [Act.put]); try simp only [pt1, pt2, pt3]
  refine tk 8 (v := ?_) (fun W hS => ?_) ?_
  rotate_left
  · (go_simp; try with_reducible rfl)
  (try dsimp only [Act.put]); try simp only [pt1, pt2, pt3]
  refine tk 9 (v := ?_) (fun W hS => ?_) ?_
  rotate_left
  · try try dsimp only at hS
    have z0 := hS.x.cell 0
    have z1 := hS.x.cell 1
    have z2 := hS.x.cell 2
    have z3 := hS.x.cell 3
    have z4 := hS.x.cell 4
    have z5 := hS.x.cell 5
    go_simp
    try with_reducible rfl
  (try dsimp only [Act.put]); try simp only [pt1, pt2, pt3]
  refine rdy 10 (fun K hK => ?_)
  have HBS0 := HBS
  go_simp
  refine (HCTid.out _ HBS0.out).mono ?_
  rintro e wn ⟨rfl, hb⟩
  have HBS := Lib.hid (HBS0.out.step hb)
  clear hb HBS0
  refine hK.out _ _ HBS.out (fun hHeld => ?_)
  clear hK K
  (try dsimp only [Act.put]); try simp only [pt1, pt2, pt3]
  refine tk 11 (v := ?_) (fun W hS => ?_) ?_
  rotate_left
  · (go_simp; try with_reducible rfl)
  (try dsimp only [Act.put]); try simp only [pt1, pt2, pt3]
  refine tk 12 (v := ?_) (fun W hS => ?_) ?_
  rotate_left
  · (go_simp; try with_reducible rfl)
  (try dsimp only [Act.put]); try simp only [pt1, pt2, pt3]
  refine tk 13 (v := ?_) (fun W hS => ?_) ?_
  rotate_left
  · try try dsimp only at hS
    have z0 := hS.x.cell 0
    have z1 := hS.x.cell 1
    have z2 := hS.x.cell 2
    have z3 := hS.x.cell 3
    have z4 := hS.x.cell 4
    have z5 := hS.x.cell 5
    go_simp
    try with_reducible rfl
  (try dsimp only [Act.put]); try simp only [pt1, pt2, pt3]
  refine rdy 14 (fun K hK => ?_)
  have HBS0 := HBS
  go_simp
  refine (HCCoi.out _ HBS0.out).mono ?_
  rintro e wn ⟨rfl, hb⟩
  have HBS := Lib.hid (HBS0.out.step hb)
  clear hb HBS0
  refine hK.out _ _ HBS.out (fun hHeld => ?_)
  clear hK K
  (try dsimp only [Act.put]); try simp only [pt1, pt2, pt3]
  refine tk 15 (v := ?_) (fun W hS => ?_) ?_
  rotate_left
  · (go_simp; try with_reducible rfl)
  (try dsimp only [Act.put]); try simp only [pt1, pt2, pt3]
  refine tk 16 (v := ?_) (fun W hS => ?_) ?_
  rotate_left
  · (go_simp; try with_reducible rfl)
  (try dsimp only [Act.put]); try simp only [pt1, pt2, pt3]
  refine tk 17 (v := ?_) (fun W hS => ?_) ?_
  rotate_left
  · try try dsimp only at hS
    have z0 := hS.x.cell 0
    have z1 := hS.x.cell 1
    have z2 := hS.x.cell 2
    have z3 := hS.x.cell 3
    have z4 := hS.x.cell 4
    have z5 := hS.x.cell 5
    go_simp
    try with_reducible rfl
  (try dsimp only [Act.put]); try simp only [pt1, pt2, pt3]
  refine rdy 18 (fun K hK => ?_)
  have HBS0 := HBS
  go_simp
  refine (HCTic.out _ HBS0.out).mono ?_
  rintro e wn ⟨rfl, hb⟩
  have HBS := Lib.hid (HBS0.out.step hb)
  clear hb HBS0
  refine hK.out _ _ HBS.out (fun hHeld => ?_)
  clear hK K
  (try dsimp only [Act.put]); try simp only [pt1, pt2, pt3]
  refine tk 19 (v := ?_) (fun W hS => ?_) ?_
  rotate_left
  · (go_simp; try with_reducible rfl)
  (try dsimp only [Act.put]); try simp only [pt1, pt2, pt3]
  refine tk 20 (v := ?_) (fun W hS => ?_) ?_
  rotate_left
  · (go_simp; try with_reducible rfl)
  (try dsimp only [Act.put]); try simp only [pt1, pt2, pt3]
  refine tk 21 (v := ?_) (fun W hS => ?_) ?_
  rotate_left
  · try try dsimp only at hS
    have z0 := hS.x.cell 0
    have z1 := hS.x.cell 1
    have z2 := hS.x.cell 2
    have z3 := hS.x.cell 3
    have z4 := hS.x.cell 4
    have z5 := hS.x.cell 5
    go_simp
    try with_reducible rfl
  (try dsimp only [Act.put]); try simp only [pt1, pt2, pt3]
  refine rdy 22 (fun K hK => ?_)
  have HBS0 := HBS
  go_simp
  refine (HCThr.out _ HBS0.out).mono ?_
  rintro e wn ⟨rfl, hb⟩
  have HBS := Lib.hid (HBS0.out.step hb)
  clear hb HBS0
  refine hK.out _ _ HBS.out (fun hHeld => ?_)
  clear hK K
  (try dsimp only [Act.put]); try simp only [pt1, pt2, pt3]
  refine tk 23 (v := ?_) (fun W hS => ?_) ?_
  rotate_left
  · (go_simp; try with_reducible rfl)
  (try dsimp only [Act.put]); try simp only [pt1, pt2, pt3]
  refine tk 24 (v := ?_) (fun W hS => ?_) ?_
  rotate_left
  · (go_simp; try with_reducible rfl)
  (try dsimp only [Act.put]); try simp only [pt1, pt2, pt3]
  refine tk 25 (v := ?_) (fun W hS => ?_) ?_
  rotate_left
  · try try dsimp only at hS
    have z0 := hS.x.cell 0
    have z1 := hS.x.cell 1
    have z2 := hS.x.cell 2
    have z3 := hS.x.cell 3
    have z4 := hS.x.cell 4
    have z5 := hS.x.cell 5
    go_simp
    try with_reducible rfl
  (try dsimp only [Act.put]); try simp only [pt1, pt2, pt3]
  refine rdy 26 (fun K hK => ?_)
  have HBS0 := HBS
  go_simp
  refine (HCLoc.out _ HBS0.out).mono ?_
  rintro e wn ⟨rfl, hb⟩
  have HBS := Lib.hid (HBS0.out.step hb)
  clear hb HBS0
  refine hK.out _ _ HBS.out (fun hHeld => ?_)
  clear hK K
  (try dsimp only [Act.put]); try simp only [pt1, pt2, pt3]
  refine tk 27 (v := ?_) (fun W hS => ?_) ?_
  rotate_left
  · (go_simp; try with_reducible rfl)
  (try dsimp only [Act.put]); try simp only [pt1, pt2, pt3]
  refine tk 28 (v := ?_) (fun W hS => ?_) ?_
  rotate_left
  · (go_simp; try with_reducible rfl)
  (try dsimp only [Act.put]); try simp only [pt1, pt2, pt3]
  refine tk 29 (v := ?_) (fun W hS => ?_) ?_
  rotate_left
  · try try dsimp only at hS
    have z0 := hS.x.cell 0
    have z1 := hS.x.cell 1
    have z2 := hS.x.cell 2
    have z3 := hS.x.cell 3
    have z4 := hS.x.cell 4
    have z5 := hS.x.cell 5
    go_simp
    try with_reducible rfl
  (try dsimp only [Act.put]); try simp only [pt1, pt2, pt3]
  refine rdy 30 (fun K hK => ?_)
  have HBS0 := HBS
  go_simp
  refine (HCQue.out _ HBS0.out).mono ?_
  rintro e wn ⟨rfl, hb⟩
  have HBS := Lib.hid (HBS0.out.step hb)
  clear hb HBS0
  refine hK.out _ _ HBS.out (fun hHeld => ?_)
  clear hK K
  (try dsimp only [Act.put]); try simp only [pt1, pt2, pt3]
  refine tk 31 (v := ?_) (fun W hS => ?_) ?_
  rotate_left
  · (go_simp; try with_reducible rfl)
  (try dsimp only [Act.put]); try simp only [pt1, pt2, pt3]
  refine tk 32 (v := ?_) (fun W hS => ?_) ?_
  rotate_left
  · (go_simp; try with_reducible rfl)
  (try dsimp only [Act.put]); try simp only [pt1, pt2, pt3]
  refine tk 33 (v := ?_) (fun W hS => ?_) ?_
  rotate_left
  · (go_simp; try with_reducible rfl)
  (try dsimp only [Act.put]); try simp only [pt1, pt2, pt3]
  refine tk 34 (v := ?_) (fun W hS => ?_) ?_
  rotate_left
  · try try dsimp only at hS
    have z0 := hS.x.cell 0
    go_simp
    try with_reducible rfl
  (try dsimp only [Act.put]); try simp only [pt1, pt2, pt3]
  refine tk 35 (v := ?_) (fun W hS => ?_) ?_
  rotate_left
  · (go_simp; try with_reducible rfl)
  (try dsimp only [Act.put]); try simp only [pt1, pt2, pt3]
  refine tk 36 (v := ?_) (fun W hS => ?_) ?_
  rotate_left
  · try try dsimp only at hS
    have z0 := hS.x.cell 0
    have z1 := hS.x.cell 1
    have z2 := hS.x.cell 2
    have z3 := hS.x.cell 3
    have z4 := hS.x.cell 4
    have z5 := hS.x.cell 5
    go_simp
    try with_reducible rfl
  (try dsimp only [Act.put]); try simp only [pt1, pt2, pt3]
  refine rdy 37 (fun K hK => ?_)
  have HBS0 := HBS
  go_simp
  refine (HCA.out _ HBS0.out).mono ?_
  rintro e wn ⟨Ac, cc, rfl, hqa, hb⟩
  have HBS := Lib.hid (HBS0.out.step hb)
  have HQA := Lib.hid hqa
  clear hb hqa HBS0
  refine hK.out _ _ HBS.out (fun hHeld => ?_)
  clear hK K
  (try dsimp only [Act.put]); try simp only [pt1, pt2, pt3]
  refine rdy 38 (fun K hK => ?_)
  have HBS0 := HBS
  go_simp
  refine (HRA.out _ Ac cc HQA.out).mono ?_
  rintro e wn ⟨rfl, hb⟩
  have HBS := Lib.hid (HBS0.out.step hb)
  clear hb HBS0 HQA
  refine hK.out _ _ HBS.out (fun hHeld => ?_)
  clear hK K
  (try dsimp only [Act.put]); try simp only [pt1, pt2, pt3]
  refine tk 39 (v := ?_) (fun W hS => ?_) ?_
  rotate_left
  · (go_simp; try with_reducible rfl)
  (try dsimp only [Act.put]); try simp only [pt1, pt2, pt3]
  refine tk 40 (v := ?_) (fun W hS => ?_) ?_
  rotate_left
  · (go_simp; try with_reducible rfl)
  (try dsimp only [Act.put]); try simp only [pt1, pt2, pt3]
  refine tk 41 (v := ?_) (fun W hS => ?_) ?_
  rotate_left
  · (go_simp; try with_reducible rfl)
  (try dsimp only [Act.put]); try simp only [pt1, pt2, pt3]
  refine tk 42 (v := ?_) (fun W hS => ?_) ?_
  rotate_left
  · (go_simp; try with_reducible rfl)
  (try dsimp only [Act.put]); try simp only [pt1, pt2, pt3]
  refine tk 43 (v := ?_) (fun W hS => ?_) ?_
  rotate_left
  · try try dsimp only at hS
    have z0 := hS.x.cell 2
    go_simp
    try with_reducible rfl
  (try dsimp only [Act.put]); try simp only [pt1, pt2, pt3]
  refine tk 44 (v := ?_) (fun W hS => ?_) ?_
  rotate_left
  · (go_simp; try with_reducible rfl)
  (try dsimp only [Act.put]); try simp only [pt1, pt2, pt3]
  refine tk 45 (v := ?_) (fun W hS => ?_) ?_
  rotate_left
  · try try dsimp only at hS
    have z0 := hS.x.cell 0
    have z1 := hS.x.cell 1
    have z2 := hS.x.cell 2
    have z3 := hS.x.cell 3
    have z4 := hS.x.cell 4
    have z5 := hS.x.cell 5
    go_simp
    try with_reducible rfl
  (try dsimp only [Act.put]); try simp only [pt1, pt2, pt3]
  refine rdy 46 (fun K hK => ?_)
  have HBS0 := HBS
  go_simp
  refine (HCB.out _ HBS0.out).mono ?_
  rintro e wn ⟨Ad, cd, rfl, hqa, hb⟩
  have HBS := Lib.hid (HBS0.out.step hb)
  have HQA := Lib.hid hqa
  clear hb hqa HBS0
  refine hK.out _ _ HBS.out (fun hHeld => ?_)
  clear hK K
  (try dsimp only [Act.put]); try simp only [pt1, pt2, pt3]
  refine rdy 47 (fun K hK => ?_)
  have HBS0 := HBS
  go_simp
  refine (HRB.out _ Ad cd HQA.out).mono ?_
  rintro e wn ⟨rfl, hb⟩
  have HBS := Lib.hid (HBS0.out.step hb)
  clear hb HBS0 HQA
  refine hK.out _ _ HBS.out (fun hHeld => ?_)
  clear hK K
  (try dsimp only [Act.put]); try simp only [pt1, pt2, pt3]
  refine tk 48 (v := ?_) (fun W hS => ?_) ?_
  rotate_left
  · (go_simp; try with_reducible rfl)
  (try dsimp only [Act.put]); try simp only [pt1, pt2, pt3]
  refine tk 49 (v := ?_) (fun W hS => ?_) ?_
  rotate_left
  · (go_simp; try with_reducible rfl)
  (try dsimp only [Act.put]); try simp only [pt1, pt2, pt3]
  refine rdy 50 (fun K hK => ?_)
  go_simp
  refine hK.out _ _ HBS.out (fun hHeld => ?_)
  clear hK K
  (try dsimp only [Act.put]); try simp only [pt1, pt2, pt3]
  refine wpAnyH_done (by kernel_rfl) ?_ _
  clear hHeld
  go_wp2_with fail
  go_ret
  exact ⟨by simp, HBS.out.b⟩
theorem fine14 (v : Value) (S : Sv14) (b : Bool) (w : World) (h : St14 w v S) (hb : b = true ↔ Fine14 S) :
    Calls Tryz.prog 9 #[v] w fun e w' => e = .returned (.bool b) ∧ Below w.heap.size w w' := by
  by_cases e0 : 1 ≤ S.q
  case neg =>
    obtain rfl : b = false := bool14_of hb (fun h => e0 h.1)
    exact fine14_0 v S w h e0
  by_cases e1 : S.q ≤ 1000
  case neg =>
    obtain rfl : b = false := bool14_of hb (fun h => e1 h.2.1)
    exact fine14_1 v S w h e0 e1
  by_cases e2 : Tidies14 S
  case neg =>
    obtain rfl : b = false := bool14_of hb (fun h => e2 h.2.2.1)
    exact fine14_2 v S w h e0 e1 e2
  by_cases e3 : us14 usC S.C 0 = true
  case neg =>
    obtain rfl : b = false := bool14_of hb (fun h => e3 h.2.2.2.1)
    exact fine14_3 v S w h e0 e1 e2 e3
  by_cases e4 : Tickets14 S
  case neg =>
    obtain rfl : b = false := bool14_of hb (fun h => e4 h.2.2.2.2.1)
    exact fine14_4 v S w h e0 e1 e2 e3 e4
  by_cases e5 : Threads14 S
  case neg =>
    obtain rfl : b = false := bool14_of hb (fun h => e5 h.2.2.2.2.2.1)
    exact fine14_5 v S w h e0 e1 e2 e3 e4 e5
  by_cases e6 : Locks14 S
  case neg =>
    obtain rfl : b = false := bool14_of hb (fun h => e6 h.2.2.2.2.2.2.1)
    exact fine14_6 v S w h e0 e1 e2 e3 e4 e5 e6
  by_cases e7 : Queue14 S
  case neg =>
    obtain rfl : b = false := bool14_of hb (fun h => e7 h.2.2.2.2.2.2.2.1)
    exact fine14_7 v S w h e0 e1 e2 e3 e4 e5 e6 e7
  by_cases e8 : Free14R S.C.length (cArr14 S S.T.length)
  case neg =>
    obtain rfl : b = false := bool14_of hb (fun h => e8 h.2.2.2.2.2.2.2.2.1)
    exact fine14_8 v S w h e0 e1 e2 e3 e4 e5 e6 e7 e8
  exact fine14_9 v S w h e0 e1 e2 e3 e4 e5 e6 e7 e8 b (by rw [hb]; exact ⟨fun h => h.2.2.2.2.2.2.2.2.2, fun h => ⟨e0, e1, e2, e3, e4, e5, e6, e7, e8, h⟩⟩)
end Go.Proofs.YtfoellhoaflofaaGreat
