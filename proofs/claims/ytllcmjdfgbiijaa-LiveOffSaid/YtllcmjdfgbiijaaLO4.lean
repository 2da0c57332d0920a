/-
  SaidLiveOff, part 4 of 15: what the theorem liveOff_holds reaches.
-/
import Derived.Test.YtllcmjdfgbiijaaLO3
import Derived.Deep.DeepCutAuto
import Derived.KernelRfl
import Derived.WalkSmall
namespace Go.Proofs.Ytllcmjdfgbiijaa
open Go.RowKit
set_option maxRecDepth 100000
theorem own14_base {w : World} {base base' : Nat} {e : TypeId} {k : Nat} {v : Value} {n : Nat} {xs : List Value} (h : w.ownsRow base e k v n xs) (hb : base' ≤ base) : w.ownsRow base' e k v n xs :=
  ⟨h.1, h.2.imp id (fun ⟨g, cap, cur, h1, h2, r⟩ => ⟨g, cap, cur, h1, Nat.le_trans hb h2, r⟩)⟩
/-- The lists of a state, each of them the call's own, from block L on. -/
structure OA14 (w : World) (L : Nat) (S : Sv14) (A0 A1 A2 A3 A4 : Option Addr) (n0 n1 n2 n3 n4 c0 c1 c2 c3 c4 : Nat) (sq : Int) : Prop where
  o0 : w.ownsRow L 4 1 (.slice A0 n0 c0) n0 (fl14 clC S.C)
  o1 : w.ownsRow L 35 6 (.slice A1 n1 c1) n1 (fl14 clT S.T)
  o2 : w.ownsRow L 43 5 (.slice A2 n2 c2) n2 (fl14 clH S.H)
  o3 : w.ownsRow L 50 2 (.slice A3 n3 c3) n3 (fl14 clL S.L)
  o4 : w.ownsRow L 3 1 (.slice A4 n4 c4) n4 (fl14 clI S.Q)
  l0 : S.C.length = n0
  l1 : S.T.length = n1
  l2 : S.H.length = n2
  l3 : S.L.length = n3
  l4 : S.Q.length = n4
  m0 : n0 ≤ 1000
  m1 : n1 ≤ 1000
  m2 : n2 ≤ 1000
  m3 : n3 ≤ 1000
  m4 : n4 ≤ 1000
  e : S.q = sq
theorem OA14.sa {w : World} {L : Nat} {S : Sv14} {A0 A1 A2 A3 A4 : Option Addr} {n0 n1 n2 n3 n4 c0 c1 c2 c3 c4 : Nat} {sq : Int} (h : OA14 w L S A0 A1 A2 A3 A4 n0 n1 n2 n3 n4 c0 c1 c2 c3 c4 sq) : SA14 w S A0 A1 A2 A3 A4 n0 n1 n2 n3 n4 c0 c1 c2 c3 c4 sq := ⟨h.l0, h.l1, h.l2, h.l3, h.l4, Lq.of_own (by omega) h.o0, Lq.of_own (by omega) h.o1, Lq.of_own (by omega) h.o2, Lq.of_own (by omega) h.o3, Lq.of_own (by omega) h.o4, own14_cap h.o0, own14_cap h.o1, own14_cap h.o2, own14_cap h.o3, own14_cap h.o4, h.m0, h.m1, h.m2, h.m3, h.m4, h.e⟩
theorem OA14.step {w : World} {L : Nat} {S : Sv14} {A0 A1 A2 A3 A4 : Option Addr} {n0 n1 n2 n3 n4 c0 c1 c2 c3 c4 : Nat} {sq : Int} {w' : World} (h : OA14 w L S A0 A1 A2 A3 A4 n0 n1 n2 n3 n4 c0 c1 c2 c3 c4 sq) (hb : Below w.heap.size w w') : OA14 w' L S A0 A1 A2 A3 A4 n0 n1 n2 n3 n4 c0 c1 c2 c3 c4 sq := ⟨own12_keep2 h.o0 hb, own12_keep2 h.o1 hb, own12_keep2 h.o2 hb, own12_keep2 h.o3 hb, own12_keep2 h.o4 hb, h.l0, h.l1, h.l2, h.l3, h.l4, h.m0, h.m1, h.m2, h.m3, h.m4, h.e⟩
theorem OA14.far {w : World} {L : Nat} {S : Sv14} {A0 A1 A2 A3 A4 : Option Addr} {n0 n1 n2 n3 n4 c0 c1 c2 c3 c4 : Nat} {sq : Int} (h : OA14 w L S A0 A1 A2 A3 A4 n0 n1 n2 n3 n4 c0 c1 c2 c3 c4 sq) {q : Addr} (hq : q.block < L) (u : Value) : OA14 (w.setCell q u) L S A0 A1 A2 A3 A4 n0 n1 n2 n3 n4 c0 c1 c2 c3 c4 sq := ⟨ownsRow_setCell_below h.o0 hq u, ownsRow_setCell_below h.o1 hq u, ownsRow_setCell_below h.o2 hq u, ownsRow_setCell_below h.o3 hq u, ownsRow_setCell_below h.o4 hq u, h.l0, h.l1, h.l2, h.l3, h.l4, h.m0, h.m1, h.m2, h.m3, h.m4, h.e⟩
theorem OA14.base {w : World} {L : Nat} {S : Sv14} {A0 A1 A2 A3 A4 : Option Addr} {n0 n1 n2 n3 n4 c0 c1 c2 c3 c4 : Nat} {sq : Int} {L' : Nat} (h : OA14 w L S A0 A1 A2 A3 A4 n0 n1 n2 n3 n4 c0 c1 c2 c3 c4 sq) (hL : L' ≤ L) : OA14 w L' S A0 A1 A2 A3 A4 n0 n1 n2 n3 n4 c0 c1 c2 c3 c4 sq := ⟨own14_base h.o0 hL, own14_base h.o1 hL, own14_base h.o2 hL, own14_base h.o3 hL, own14_base h.o4 hL, h.l0, h.l1, h.l2, h.l3, h.l4, h.m0, h.m1, h.m2, h.m3, h.m4, h.e⟩
def RetO14 (w : World) (S : Sv14) (e : Ending) (w' : World) : Prop := ∃ (A0 A1 A2 A3 A4 : Option Addr) (n0 n1 n2 n3 n4 c0 c1 c2 c3 c4 : Nat) (sq : Int), e = .returned (.agg #[.slice A0 n0 c0, .slice A1 n1 c1, .slice A2 n2 c2, .slice A3 n3 c3, .slice A4 n4 c4, .int .i64 sq]) ∧ OA14 w' w.heap.size S A0 A1 A2 A3 A4 n0 n1 n2 n3 n4 c0 c1 c2 c3 c4 sq ∧ Below w.heap.size w w'
set_option maxHeartbeats 8000000 in
theorem rcopy14 (v : Value) (S : Sv14) (w : World) (h : St14 w v S) : Calls Try.prog 20 #[v] w (RetO14 w S) := by
  obtain ⟨A0, A1, A2, A3, A4, n0, n1, n2, n3, n4, c0, c1, c2, c3, c4, sq, rfl, hs⟩ := h
  have hb0 := (b1' w (.cells #[.slice A0 n0 c0, .slice A1 n1 c1, .slice A2 n2 c2, .slice A3 n3 c3, .slice A4 n4 c4, .int .i64 sq] 28)).alloc (by simp) (.cells #[.slice none 0 0, .slice none 0 0, .slice none 0 0, .slice none 0 0, .slice none 0 0, .int .i64 0] 28)
  have hk0 := (Blk.new w 28 #[.slice A0 n0 c0, .slice A1 n1 c1, .slice A2 n2 c2, .slice A3 n3 c3, .slice A4 n4 c4, .int .i64 sq]).alloc (.cells #[.slice none 0 0, .slice none 0 0, .slice none 0 0, .slice none 0 0, .slice none 0 0, .int .i64 0] 28)
  have hr0 := Blk.new (w.alloc (.cells #[.slice A0 n0 c0, .slice A1 n1 c1, .slice A2 n2 c2, .slice A3 n3 c3, .slice A4 n4 c4, .int .i64 sq] 28)) 28 #[.slice none 0 0, .slice none 0 0, .slice none 0 0, .slice none 0 0, .slice none 0 0, .int .i64 0]
  rw [show (w.alloc (.cells #[.slice A0 n0 c0, .slice A1 n1 c1, .slice A2 n2 c2, .slice A3 n3 c3, .slice A4 n4 c4, .int .i64 sq] 28)).heap.size = w.heap.size + 1 by simp] at hr0
  have hz0 : ((w.alloc (.cells #[.slice A0 n0 c0, .slice A1 n1 c1, .slice A2 n2 c2, .slice A3 n3 c3, .slice A4 n4 c4, .int .i64 sq] 28)).alloc (.cells #[.slice none 0 0, .slice none 0 0, .slice none 0 0, .slice none 0 0, .slice none 0 0, .int .i64 0] 28)).heap.size = w.heap.size + 2 := by simp
  obtain ⟨W0, hW0⟩ : ∃ W, (w.alloc (.cells #[.slice A0 n0 c0, .slice A1 n1 c1, .slice A2 n2 c2, .slice A3 n3 c3, .slice A4 n4 c4, .int .i64 sq] 28)).alloc (.cells #[.slice none 0 0, .slice none 0 0, .slice none 0 0, .slice none 0 0, .slice none 0 0, .int .i64 0] 28) = W := ⟨_, rfl⟩
  rw [hW0] at hb0 hk0 hr0 hz0
  have hzz0 : w.heap.size + 2 ≤ W0.heap.size := by omega
  have hbx0 := b1' W0 (.cells #[] 4)
  have own0 := owns14_nil W0 W0.heap.size (Nat.le_refl _) 4 1
  have hsx0 : (W0.alloc (.cells #[] 4)).heap.size = W0.heap.size + 1 := by simp
  obtain ⟨X0, hX0⟩ : ∃ X, W0.alloc (.cells #[] 4) = X := ⟨_, rfl⟩
  rw [hX0] at hbx0 own0 hsx0
  have q0 := (hk0.below hbx0 hk0.lt).cell 0
  obtain ⟨B0, d0, u0, hrun0, hown0, hg0⟩ := run_append_14 (P := Try.prog) X0 W0.heap.size 22 22 4 _ 1 1 Try.underlying22 info14C rfl (by omega) (by omega) _ 0 [] own0 w.heap.size A0 (fl14 clC S.C) n0 c0 (by rw [fl14_len len14C, hs.l0]) (hs.r0.below (hb0.trans (hbx0.mono hb0.size)) (Nat.le_refl _)) (fl14_one clC_one _) (by have := hs.m0; omega) (by omega)
  rw [Nat.zero_add] at hrun0 hown0
  rw [List.nil_append] at hown0
  have hbu0 : Below W0.heap.size W0 u0 := hbx0.grown hg0 (by omega) (fun r hr => by cases hr; exact Nat.le_refl _)
  have kc0 := (hk0.below hbu0 hk0.lt).cell 0
  have kf0 := (hk0.below hbu0 hk0.lt).frozen 0
  have hk1' := (hk0.below hbu0 hk0.lt).set_ 0 (.slice B0 n0 d0)
  have hr1 := (hr0.below hbu0 hr0.lt).far (p := ⟨w.heap.size, 0, none⟩) (by simp) (.slice B0 n0 d0)
  have hb1 := (hb0.trans (hbu0.mono hb0.size)).setCell (p := ⟨w.heap.size, 0, none⟩) (Nat.le_refl _) (.slice B0 n0 d0)
  have hzz1 : w.heap.size + 2 ≤ (u0.setCell ⟨w.heap.size, 0, none⟩ (.slice B0 n0 d0)).heap.size := by
    have h1 := hbu0.size
    have h2 : (u0.setCell ⟨w.heap.size, 0, none⟩ (.slice B0 n0 d0)).heap.size = u0.heap.size := by simp [World.setCell]
    omega
  have on0_1 := ownsRow_setCell_below (own14_base hown0 hzz0) (a := ⟨w.heap.size, 0, none⟩) (by simp) (.slice B0 n0 d0)
  obtain ⟨W1, hW1⟩ : ∃ W, u0.setCell ⟨w.heap.size, 0, none⟩ (.slice B0 n0 d0) = W := ⟨_, rfl⟩
  rw [hW1] at hk1' hr1 hb1 hzz1 on0_1
  have hk1 : Blk W1 w.heap.size 28 #[.slice B0 n0 d0, .slice A1 n1 c1, .slice A2 n2 c2, .slice A3 n3 c3, .slice A4 n4 c4, .int .i64 sq] := by simpa using hk1'
  have hbx1 := b1' W1 (.cells #[] 35)
  have own1 := owns14_nil W1 W1.heap.size (Nat.le_refl _) 35 6
  have hsx1 : (W1.alloc (.cells #[] 35)).heap.size = W1.heap.size + 1 := by simp
  obtain ⟨X1, hX1⟩ : ∃ X, W1.alloc (.cells #[] 35) = X := ⟨_, rfl⟩
  rw [hX1] at hbx1 own1 hsx1
  have q1 := (hk1.below hbx1 hk1.lt).cell 1
  obtain ⟨B1, d1, u1, hrun1, hown1, hg1⟩ := run_append_14 (P := Try.prog) X1 W1.heap.size 23 23 35 _ 6 48 Try.underlying23 info14T rfl (by omega) (by omega) _ 0 [] own1 w.heap.size A1 (fl14 clT S.T) n1 c1 (by rw [fl14_len len14T, hs.l1]) (hs.r1.below (hb1.trans (hbx1.mono hb1.size)) (Nat.le_refl _)) (fl14_one clT_one _) (by have := hs.m1; omega) (by omega)
  rw [Nat.zero_add] at hrun1 hown1
  rw [List.nil_append] at hown1
  have hbu1 : Below W1.heap.size W1 u1 := hbx1.grown hg1 (by omega) (fun r hr => by cases hr; exact Nat.le_refl _)
  have kc1 := (hk1.below hbu1 hk1.lt).cell 1
  have kf1 := (hk1.below hbu1 hk1.lt).frozen 1
  have hk2' := (hk1.below hbu1 hk1.lt).set_ 1 (.slice B1 n1 d1)
  have hr2 := (hr1.below hbu1 hr1.lt).far (p := ⟨w.heap.size, 1, none⟩) (by simp) (.slice B1 n1 d1)
  have hb2 := (hb1.trans (hbu1.mono hb1.size)).setCell (p := ⟨w.heap.size, 1, none⟩) (Nat.le_refl _) (.slice B1 n1 d1)
  have hzz2 : w.heap.size + 2 ≤ (u1.setCell ⟨w.heap.size, 1, none⟩ (.slice B1 n1 d1)).heap.size := by
    have h1 := hbu1.size
    have h2 : (u1.setCell ⟨w.heap.size, 1, none⟩ (.slice B1 n1 d1)).heap.size = u1.heap.size := by simp [World.setCell]
    omega
  have on0_2 := ownsRow_setCell_below (own12_keep2 on0_1 hbu1) (a := ⟨w.heap.size, 1, none⟩) (by simp) (.slice B1 n1 d1)
  have on1_2 := ownsRow_setCell_below (own14_base hown1 hzz1) (a := ⟨w.heap.size, 1, none⟩) (by simp) (.slice B1 n1 d1)
  obtain ⟨W2, hW2⟩ : ∃ W, u1.setCell ⟨w.heap.size, 1, none⟩ (.slice B1 n1 d1) = W := ⟨_, rfl⟩
  rw [hW2] at hk2' hr2 hb2 hzz2 on0_2 on1_2
  have hk2 : Blk W2 w.heap.size 28 #[.slice B0 n0 d0, .slice B1 n1 d1, .slice A2 n2 c2, .slice A3 n3 c3, .slice A4 n4 c4, .int .i64 sq] := by simpa using hk2'
  have hbx2 := b1' W2 (.cells #[] 43)
  have own2 := owns14_nil W2 W2.heap.size (Nat.le_refl _) 43 5
  have hsx2 : (W2.alloc (.cells #[] 43)).heap.size = W2.heap.size + 1 := by simp
  obtain ⟨X2, hX2⟩ : ∃ X, W2.alloc (.cells #[] 43) = X := ⟨_, rfl⟩
  rw [hX2] at hbx2 own2 hsx2
  have q2 := (hk2.below hbx2 hk2.lt).cell 2
  obtain ⟨B2, d2, u2, hrun2, hown2, hg2⟩ := run_append_14 (P := Try.prog) X2 W2.heap.size 24 24 43 _ 5 40 Try.underlying24 info14H rfl (by omega) (by omega) _ 0 [] own2 w.heap.size A2 (fl14 clH S.H) n2 c2 (by rw [fl14_len len14H, hs.l2]) (hs.r2.below (hb2.trans (hbx2.mono hb2.size)) (Nat.le_refl _)) (fl14_one clH_one _) (by have := hs.m2; omega) (by omega)
  rw [Nat.zero_add] at hrun2 hown2
  rw [List.nil_append] at hown2
  have hbu2 : Below W2.heap.size W2 u2 := hbx2.grown hg2 (by omega) (fun r hr => by cases hr; exact Nat.le_refl _)
  have kc2 := (hk2.below hbu2 hk2.lt).cell 2
  have kf2 := (hk2.below hbu2 hk2.lt).frozen 2
  have hk3' := (hk2.below hbu2 hk2.lt).set_ 2 (.slice B2 n2 d2)
  have hr3 := (hr2.below hbu2 hr2.lt).far (p := ⟨w.heap.size, 2, none⟩) (by simp) (.slice B2 n2 d2)
  have hb3 := (hb2.trans (hbu2.mono hb2.size)).setCell (p := ⟨w.heap.size, 2, none⟩) (Nat.le_refl _) (.slice B2 n2 d2)
  have hzz3 : w.heap.size + 2 ≤ (u2.setCell ⟨w.heap.size, 2, none⟩ (.slice B2 n2 d2)).heap.size := by
    have h1 := hbu2.size
    have h2 : (u2.setCell ⟨w.heap.size, 2, none⟩ (.slice B2 n2 d2)).heap.size = u2.heap.size := by simp [World.setCell]
    omega
  have on0_3 := ownsRow_setCell_below (own12_keep2 on0_2 hbu2) (a := ⟨w.heap.size, 2, none⟩) (by simp) (.slice B2 n2 d2)
  have on1_3 := ownsRow_setCell_below (own12_keep2 on1_2 hbu2) (a := ⟨w.heap.size, 2, none⟩) (by simp) (.slice B2 n2 d2)
  have on2_3 := ownsRow_setCell_below (own14_base hown2 hzz2) (a := ⟨w.heap.size, 2, none⟩) (by simp) (.slice B2 n2 d2)
  obtain ⟨W3, hW3⟩ : ∃ W, u2.setCell ⟨w.heap.size, 2, none⟩ (.slice B2 n2 d2) = W := ⟨_, rfl⟩
  rw [hW3] at hk3' hr3 hb3 hzz3 on0_3 on1_3 on2_3
  have hk3 : Blk W3 w.heap.size 28 #[.slice B0 n0 d0, .slice B1 n1 d1, .slice B2 n2 d2, .slice A3 n3 c3, .slice A4 n4 c4, .int .i64 sq] := by simpa using hk3'
  have hbx3 := b1' W3 (.cells #[] 50)
  have own3 := owns14_nil W3 W3.heap.size (Nat.le_refl _) 50 2
  have hsx3 : (W3.alloc (.cells #[] 50)).heap.size = W3.heap.size + 1 := by simp
  obtain ⟨X3, hX3⟩ : ∃ X, W3.alloc (.cells #[] 50) = X := ⟨_, rfl⟩
  rw [hX3] at hbx3 own3 hsx3
  have q3 := (hk3.below hbx3 hk3.lt).cell 3
  obtain ⟨B3, d3, u3, hrun3, hown3, hg3⟩ := run_append_14 (P := Try.prog) X3 W3.heap.size 25 25 50 _ 2 16 Try.underlying25 info14L rfl (by omega) (by omega) _ 0 [] own3 w.heap.size A3 (fl14 clL S.L) n3 c3 (by rw [fl14_len len14L, hs.l3]) (hs.r3.below (hb3.trans (hbx3.mono hb3.size)) (Nat.le_refl _)) (fl14_one clL_one _) (by have := hs.m3; omega) (by omega)
  rw [Nat.zero_add] at hrun3 hown3
  rw [List.nil_append] at hown3
  have hbu3 : Below W3.heap.size W3 u3 := hbx3.grown hg3 (by omega) (fun r hr => by cases hr; exact Nat.le_refl _)
  have kc3 := (hk3.below hbu3 hk3.lt).cell 3
  have kf3 := (hk3.below hbu3 hk3.lt).frozen 3
  have hk4' := (hk3.below hbu3 hk3.lt).set_ 3 (.slice B3 n3 d3)
  have hr4 := (hr3.below hbu3 hr3.lt).far (p := ⟨w.heap.size, 3, none⟩) (by simp) (.slice B3 n3 d3)
  have hb4 := (hb3.trans (hbu3.mono hb3.size)).setCell (p := ⟨w.heap.size, 3, none⟩) (Nat.le_refl _) (.slice B3 n3 d3)
  have hzz4 : w.heap.size + 2 ≤ (u3.setCell ⟨w.heap.size, 3, none⟩ (.slice B3 n3 d3)).heap.size := by
    have h1 := hbu3.size
    have h2 : (u3.setCell ⟨w.heap.size, 3, none⟩ (.slice B3 n3 d3)).heap.size = u3.heap.size := by simp [World.setCell]
    omega
  have on0_4 := ownsRow_setCell_below (own12_keep2 on0_3 hbu3) (a := ⟨w.heap.size, 3, none⟩) (by simp) (.slice B3 n3 d3)
  have on1_4 := ownsRow_setCell_below (own12_keep2 on1_3 hbu3) (a := ⟨w.heap.size, 3, none⟩) (by simp) (.slice B3 n3 d3)
  have on2_4 := ownsRow_setCell_below (own12_keep2 on2_3 hbu3) (a := ⟨w.heap.size, 3, none⟩) (by simp) (.slice B3 n3 d3)
  have on3_4 := ownsRow_setCell_below (own14_base hown3 hzz3) (a := ⟨w.heap.size, 3, none⟩) (by simp) (.slice B3 n3 d3)
  obtain ⟨W4, hW4⟩ : ∃ W, u3.setCell ⟨w.heap.size, 3, none⟩ (.slice B3 n3 d3) = W := ⟨_, rfl⟩
  rw [hW4] at hk4' hr4 hb4 hzz4 on0_4 on1_4 on2_4 on3_4
  have hk4 : Blk W4 w.heap.size 28 #[.slice B0 n0 d0, .slice B1 n1 d1, .slice B2 n2 d2, .slice B3 n3 d3, .slice A4 n4 c4, .int .i64 sq] := by simpa using hk4'
  have hbx4 := b1' W4 (.cells #[] 3)
  have own4 := owns14_nil W4 W4.heap.size (Nat.le_refl _) 3 1
  have hsx4 : (W4.alloc (.cells #[] 3)).heap.size = W4.heap.size + 1 := by simp
  obtain ⟨X4, hX4⟩ : ∃ X, W4.alloc (.cells #[] 3) = X := ⟨_, rfl⟩
  rw [hX4] at hbx4 own4 hsx4
  have q4 := (hk4.below hbx4 hk4.lt).cell 4
  obtain ⟨B4, d4, u4, hrun4, hown4, hg4⟩ := run_append_14 (P := Try.prog) X4 W4.heap.size 26 26 3 _ 1 8 Try.underlying26 info14I rfl (by omega) (by omega) _ 0 [] own4 w.heap.size A4 (fl14 clI S.Q) n4 c4 (by rw [fl14_len len14I, hs.l4]) (hs.r4.below (hb4.trans (hbx4.mono hb4.size)) (Nat.le_refl _)) (fl14_one clI_one _) (by have := hs.m4; omega) (by omega)
  rw [Nat.zero_add] at hrun4 hown4
  rw [List.nil_append] at hown4
  have hbu4 : Below W4.heap.size W4 u4 := hbx4.grown hg4 (by omega) (fun r hr => by cases hr; exact Nat.le_refl _)
  have kc4 := (hk4.below hbu4 hk4.lt).cell 4
  have kf4 := (hk4.below hbu4 hk4.lt).frozen 4
  have hk5' := (hk4.below hbu4 hk4.lt).set_ 4 (.slice B4 n4 d4)
  have hr5 := (hr4.below hbu4 hr4.lt).far (p := ⟨w.heap.size, 4, none⟩) (by simp) (.slice B4 n4 d4)
  have hb5 := (hb4.trans (hbu4.mono hb4.size)).setCell (p := ⟨w.heap.size, 4, none⟩) (Nat.le_refl _) (.slice B4 n4 d4)
  have hzz5 : w.heap.size + 2 ≤ (u4.setCell ⟨w.heap.size, 4, none⟩ (.slice B4 n4 d4)).heap.size := by
    have h1 := hbu4.size
    have h2 : (u4.setCell ⟨w.heap.size, 4, none⟩ (.slice B4 n4 d4)).heap.size = u4.heap.size := by simp [World.setCell]
    omega
  have on0_5 := ownsRow_setCell_below (own12_keep2 on0_4 hbu4) (a := ⟨w.heap.size, 4, none⟩) (by simp) (.slice B4 n4 d4)
  have on1_5 := ownsRow_setCell_below (own12_keep2 on1_4 hbu4) (a := ⟨w.heap.size, 4, none⟩) (by simp) (.slice B4 n4 d4)
  have on2_5 := ownsRow_setCell_below (own12_keep2 on2_4 hbu4) (a := ⟨w.heap.size, 4, none⟩) (by simp) (.slice B4 n4 d4)
  have on3_5 := ownsRow_setCell_below (own12_keep2 on3_4 hbu4) (a := ⟨w.heap.size, 4, none⟩) (by simp) (.slice B4 n4 d4)
  have on4_5 := ownsRow_setCell_below (own14_base hown4 hzz4) (a := ⟨w.heap.size, 4, none⟩) (by simp) (.slice B4 n4 d4)
  obtain ⟨W5, hW5⟩ : ∃ W, u4.setCell ⟨w.heap.size, 4, none⟩ (.slice B4 n4 d4) = W := ⟨_, rfl⟩
  rw [hW5] at hk5' hr5 hb5 hzz5 on0_5 on1_5 on2_5 on3_5 on4_5
  have hk5 : Blk W5 w.heap.size 28 #[.slice B0 n0 d0, .slice B1 n1 d1, .slice B2 n2 d2, .slice B3 n3 d3, .slice B4 n4 d4, .int .i64 sq] := by simpa using hk5'
  have r0 := hk5.cell 0
  have y0 := hr5.cell 0
  have yf0 := hr5.frozen 0
  have r1 := hk5.cell 1
  have y1 := hr5.cell 1
  have yf1 := hr5.frozen 1
  have r2 := hk5.cell 2
  have y2 := hr5.cell 2
  have yf2 := hr5.frozen 2
  have r3 := hk5.cell 3
  have y3 := hr5.cell 3
  have yf3 := hr5.frozen 3
  have r4 := hk5.cell 4
  have y4 := hr5.cell 4
  have yf4 := hr5.frozen 4
  have r5 := hk5.cell 5
  have y5 := hr5.cell 5
  have yf5 := hr5.frozen 5
  have hk6 : Blk ((((((W5.setCell ⟨w.heap.size + 1, 0, none⟩ (.slice B0 n0 d0)).setCell ⟨w.heap.size + 1, 1, none⟩ (.slice B1 n1 d1)).setCell ⟨w.heap.size + 1, 2, none⟩ (.slice B2 n2 d2)).setCell ⟨w.heap.size + 1, 3, none⟩ (.slice B3 n3 d3)).setCell ⟨w.heap.size + 1, 4, none⟩ (.slice B4 n4 d4)).setCell ⟨w.heap.size + 1, 5, none⟩ (.int .i64 sq)) (w.heap.size + 1) 28 #[.slice B0 n0 d0, .slice B1 n1 d1, .slice B2 n2 d2, .slice B3 n3 d3, .slice B4 n4 d4, .int .i64 sq] := by
    have h := ((((((hr5.set_ 0 (.slice B0 n0 d0)).set_ 1 (.slice B1 n1 d1)).set_ 2 (.slice B2 n2 d2)).set_ 3 (.slice B3 n3 d3)).set_ 4 (.slice B4 n4 d4)).set_ 5 (.int .i64 sq))
    simpa using h
  have HB6 := Lib.hid ((((((hb5.setCell (p := ⟨w.heap.size + 1, 0, none⟩) (by simp) (.slice B0 n0 d0)).setCell (p := ⟨w.heap.size + 1, 1, none⟩) (by simp) (.slice B1 n1 d1)).setCell (p := ⟨w.heap.size + 1, 2, none⟩) (by simp) (.slice B2 n2 d2)).setCell (p := ⟨w.heap.size + 1, 3, none⟩) (by simp) (.slice B3 n3 d3)).setCell (p := ⟨w.heap.size + 1, 4, none⟩) (by simp) (.slice B4 n4 d4)).setCell (p := ⟨w.heap.size + 1, 5, none⟩) (by simp) (.int .i64 sq))
  have hoa : OA14 W5 (w.heap.size + 2) S B0 B1 B2 B3 B4 n0 n1 n2 n3 n4 d0 d1 d2 d3 d4 sq := ⟨on0_5, on1_5, on2_5, on3_5, on4_5, hs.l0, hs.l1, hs.l2, hs.l3, hs.l4, hs.m0, hs.m1, hs.m2, hs.m3, hs.m4, hs.e⟩
  have HOA := Lib.hid (OA14.base (L' := w.heap.size) (OA14.far (OA14.far (OA14.far (OA14.far (OA14.far (OA14.far hoa (q := ⟨w.heap.size + 1, 0, none⟩) (by simp) (.slice B0 n0 d0)) (q := ⟨w.heap.size + 1, 1, none⟩) (by simp) (.slice B1 n1 d1)) (q := ⟨w.heap.size + 1, 2, none⟩) (by simp) (.slice B2 n2 d2)) (q := ⟨w.heap.size + 1, 3, none⟩) (by simp) (.slice B3 n3 d3)) (q := ⟨w.heap.size + 1, 4, none⟩) (by simp) (.slice B4 n4 d4)) (q := ⟨w.heap.size + 1, 5, none⟩) (by simp) (.int .i64 sq)) (by omega))
  have s0 := hk6.cell 0
  have g0 := hk6.frozen 0
  have s1 := hk6.cell 1
  have g1 := hk6.frozen 1
  have s2 := hk6.cell 2
  have g2 := hk6.frozen 2
  have s3 := hk6.cell 3
  have g3 := hk6.frozen 3
  have s4 := hk6.cell 4
  have g4 := hk6.frozen 4
  have s5 := hk6.cell 5
  have g5 := hk6.frozen 5
  have HRUN0 := Lib.hid hrun0
  have HRUN1 := Lib.hid hrun1
  have HRUN2 := Lib.hid hrun2
  have HRUN3 := Lib.hid hrun3
  have HRUN4 := Lib.hid hrun4
  clear hs hk6 hoa hk0 hr0 hb0 hk1 hr1 hb1 hk2 hr2 hb2 hk3 hr3 hb3 hk4 hr4 hb4 hk5 hr5 hb5 hk1' hk2' hk3' hk4' hk5' hbx0 own0 hsx0 hrun0 hown0 hg0 hbu0 hzz0 hbx1 own1 hsx1 hrun1 hown1 hg1 hbu1 hzz1 hbx2 own2 hsx2 hrun2 hown2 hg2 hbu2 hzz2 hbx3 own3 hsx3 hrun3 hown3 hg3 hbu3 hzz3 hbx4 own4 hsx4 hrun4 hown4 hg4 hbu4 hzz4 hzz5 hz0 on0_1 on0_2 on1_2 on0_3 on1_3 on2_3 on0_4 on1_4 on2_4 on3_4 on0_5 on1_5 on2_5 on3_5 on4_5
  go_enter Try.func20, Try.ntmps20
  go_wp2_with (at_builtin; go_loud (first
    | (refine wpList_append_14 _ rfl (.tmp 3) (.tmp 5) 22 rfl _ _ _ _ rfl rfl HRUN0.out ?_)
    | (refine wpList_append_14 _ rfl (.tmp 8) (.tmp 10) 23 rfl _ _ _ _ rfl rfl HRUN1.out ?_)
    | (refine wpList_append_14 _ rfl (.tmp 13) (.tmp 15) 24 rfl _ _ _ _ rfl rfl HRUN2.out ?_)
    | (refine wpList_append_14 _ rfl (.tmp 18) (.tmp 20) 25 rfl _ _ _ _ rfl rfl HRUN3.out ?_)
    | (refine wpList_append_14 _ rfl (.tmp 23) (.tmp 25) 26 rfl _ _ _ _ rfl rfl HRUN4.out ?_)))
  exact bodyPost_ret (v := .agg #[.slice B0 n0 d0, .slice B1 n1 d1, .slice B2 n2 d2, .slice B3 n3 d3, .slice B4 n4 d4, .int .i64 sq]) (by simp [results, Try.results20, go_sem, s0, s1, s2, s3, s4, s5, g0, g1, g2, g3, g4, g5]) rfl
    ⟨B0, B1, B2, B3, B4, n0, n1, n2, n3, n4, d0, d1, d2, d3, d4, sq, rfl, HOA.out, HB6.out⟩
end Go.Proofs.Ytllcmjdfgbiijaa
namespace Go.Proofs.Ytllcmjdfgbiijaa
open Go.RowKit
set_option maxRecDepth 100000
theorem ex_bool14 (P : Prop) : ∃ b : Bool, (b = true ↔ P) := by
  by_cases h : P
  · exact ⟨true, by simp [h]⟩
  · exact ⟨false, by simp [h]⟩
end Go.Proofs.Ytllcmjdfgbiijaa
namespace Go.Proofs.Ytllcmjdfgbiijaa
open Go.RowKit
set_option maxRecDepth 100000
theorem own14_blk {w : World} {b1 : Nat} {e1 t : TypeId} {k1 : Nat} {v1 : Value} {n1 g : Nat} {xs1 : List Value} {cs : Array Value} (h1 : w.ownsRow b1 e1 k1 v1 n1 xs1) (hb : Blk w g t cs) (hne : t ≠ e1) : some g ≠ v1.ownBlock := fun e' => by
  rcases h1.2 with ⟨rfl, _⟩ | ⟨g', cap, cur, rfl, _, hh, _⟩
  · cases e'
  · injection e' with e'
    subst e'
    rw [show w.heap[g]? = _ from hb] at hh
    cases hh
    exact hne rfl
end Go.Proofs.Ytllcmjdfgbiijaa
namespace Go.Proofs.Ytllcmjdfgbiijaa
open Go.RowKit
set_option maxRecDepth 100000
/-- May a ticket fund what it does? -/
def Target14 (S : Sv14) (t : Tk14) : Prop := t.k = 0 ∧ t.t = 0 ∨ t.k = 1 ∧ us14 usH S.H t.t = true ∨ t.k = 2 ∧ t.t ≠ 0 ∧ us14 usC S.C t.t = true
/-- May a ticket that is used be? -/
def Ticket14 (S : Sv14) (t : Tk14) : Prop := us14 usC S.C t.c = true ∧ 1 ≤ t.a ∧ t.a ≤ 1048576 ∧ Target14 S t
/-- May the i-th thread wait for what it does? -/
def For14 (S : Sv14) (i : Nat) (t : Th14) : Prop := t.s = 4 ∧ us14 usH S.H t.f = true ∧ t.f ≠ (i : Int) ∨ t.s = 6 ∧ us14 usL S.L t.f = true ∨ (t.s = 1 ∨ t.s = 2 ∨ t.s = 3 ∨ t.s = 5) ∧ t.f = -1
/-- May it serve whom it does? -/
def Client14 (S : Sv14) (i : Nat) (t : Th14) : Prop := t.c = -1 ∨ t.s ≠ 5 ∧ (at14 usH S.H t.c).s = 4 ∧ (at14 usH S.H t.c).f = (i : Int)
/-- May it have its factor? -/
def Factor14 (q : Int) (t : Th14) : Prop := t.q = 1 ∧ t.u = 1 ∨ 1 ≤ t.u ∧ t.u < t.q ∧ t.q ≤ q
/-- May a thread that is used be? -/
def Thrd14 (S : Sv14) (i : Nat) (t : Th14) : Prop := For14 S i t ∧ Client14 S i t ∧ Factor14 S.q t
/-- Is a thread Waiting for a lock? -/
def Waits14 (t : Th14) (l : Int) : Prop := t.s = 6 ∧ t.f = l
instance (t : Th14) (l : Int) : Decidable (Waits14 t l) := by unfold Waits14; infer_instance
/-- May a lock that is used have its Holder? -/
def Holder14 (S : Sv14) (i : Nat) (l : Lk14) : Prop := l.h = -1 ∧ (∀ j, j < S.H.length → ¬ Waits14 (gt14 S.H j) (i : Int)) ∨ l.h ≠ -1 ∧ us14 usH S.H l.h = true ∧ ¬ Waits14 (at14 usH S.H l.h) (i : Int)
/-- Does a thread belong into the Queue? -/
def Queues14 (S : Sv14) (i : Nat) (t : Th14) : Prop := t.s = 6 ∨ t.s = 4 ∧ (at14 usH S.H t.f).c ≠ (i : Int)
end Go.Proofs.Ytllcmjdfgbiijaa
namespace Go.Proofs.Ytllcmjdfgbiijaa
open Go.RowKit
set_option maxRecDepth 100000
def Tidies14 (S : Sv14) : Prop := Tidy14 usC S.C 16 ∧ Tidy14 usT S.T 96 ∧ Tidy14 usH S.H 32 ∧ Tidy14 usL S.L 8
def Tickets14 (S : Sv14) : Prop := ∀ j, j < S.T.length → usT (gt14 S.T j) = true → Ticket14 S (gt14 S.T j)
/-- How many of the first k run. -/
def runs14 (xs : List Th14) : Nat → Nat
  | 0 => 0
  | k + 1 => runs14 xs k + if (gt14 xs k).s = 3 then 1 else 0
theorem runs14_le (xs : List Th14) (k : Nat) : runs14 xs k ≤ k := by
  induction k with
  | zero => exact Nat.le_refl _
  | succ k ih => rw [runs14]; split <;> omega
def Threads14 (S : Sv14) : Prop := (∀ j, j < S.H.length → usH (gt14 S.H j) = true → Thrd14 S j (gt14 S.H j)) ∧ runs14 S.H S.H.length ≤ 1
def Locks14 (S : Sv14) : Prop := ∀ j, j < S.L.length → usL (gt14 S.L j) = true → Holder14 S j (gt14 S.L j)
/-- A boxed state. -/
structure Bx14 (w : World) (S : Sv14) (A0 A1 A2 A3 A4 : Option Addr) (n0 n1 n2 n3 n4 c0 c1 c2 c3 c4 : Nat) (sq : Int) (W : World) : Prop where
  b : Below w.heap.size w W
  x : Blk W w.heap.size 28 #[.slice A0 n0 c0, .slice A1 n1 c1, .slice A2 n2 c2, .slice A3 n3 c3, .slice A4 n4 c4, .int .i64 sq]
  s : SA14 W S A0 A1 A2 A3 A4 n0 n1 n2 n3 n4 c0 c1 c2 c3 c4 sq
theorem Bx14.step {w : World} {S : Sv14} {A0 A1 A2 A3 A4 : Option Addr} {n0 n1 n2 n3 n4 c0 c1 c2 c3 c4 : Nat} {sq : Int} {W W' : World} (h : Bx14 w S A0 A1 A2 A3 A4 n0 n1 n2 n3 n4 c0 c1 c2 c3 c4 sq W) (hb : Below W.heap.size W W') : Bx14 w S A0 A1 A2 A3 A4 n0 n1 n2 n3 n4 c0 c1 c2 c3 c4 sq W' :=
  ⟨h.b.trans (hb.mono h.b.size), h.x.below hb h.x.lt, h.s.step hb⟩
theorem Bx14.st {w : World} {S : Sv14} {A0 A1 A2 A3 A4 : Option Addr} {n0 n1 n2 n3 n4 c0 c1 c2 c3 c4 : Nat} {sq : Int} {W : World} (h : Bx14 w S A0 A1 A2 A3 A4 n0 n1 n2 n3 n4 c0 c1 c2 c3 c4 sq W) : St14 W (.agg #[.slice A0 n0 c0, .slice A1 n1 c1, .slice A2 n2 c2, .slice A3 n3 c3, .slice A4 n4 c4, .int .i64 sq]) S := ⟨A0, A1, A2, A3, A4, n0, n1, n2, n3, n4, c0, c1, c2, c3, c4, sq, rfl, h.s⟩
theorem Bx14.new {w : World} {S : Sv14} {A0 A1 A2 A3 A4 : Option Addr} {n0 n1 n2 n3 n4 c0 c1 c2 c3 c4 : Nat} {sq : Int} (h : SA14 w S A0 A1 A2 A3 A4 n0 n1 n2 n3 n4 c0 c1 c2 c3 c4 sq) : Bx14 w S A0 A1 A2 A3 A4 n0 n1 n2 n3 n4 c0 c1 c2 c3 c4 sq (w.alloc (.cells #[.slice A0 n0 c0, .slice A1 n1 c1, .slice A2 n2 c2, .slice A3 n3 c3, .slice A4 n4 c4, .int .i64 sq] 28)) := ⟨b1' w _, Blk.new w _ _, h.step (b1' w _)⟩
end Go.Proofs.Ytllcmjdfgbiijaa
namespace Go.Proofs.Ytllcmjdfgbiijaa
open Go.RowKit
set_option maxRecDepth 100000
/-- The numbers fall. -/
def Fall (xs : List Nat) : Prop := xs.Pairwise (fun a b => b < a)
theorem Fall.nth {xs : List Nat} (h : Fall xs) {i j : Nat} (hij : i < j) (hj : j < xs.length) : nth xs j < nth xs i := by
  rw [nth_in hj, nth_in (show i < xs.length by omega)]
  exact List.pairwise_iff_getElem.1 h i j (by omega) hj hij
/-- The place of x among falling numbers, of which it is none. -/
structure Plc (xs : List Nat) (x p : Nat) : Prop where
  le : p ≤ xs.length
  low : ∀ t, t < p → x < nth xs t
  high : ∀ t, p ≤ t → t < xs.length → nth xs t < x
theorem plc_ex {xs : List Nat} (h : Fall xs) {x : Nat} (hx : x ∉ xs) : ∃ p, Plc xs x p := by
  induction xs with
  | nil => exact ⟨0, Nat.le_refl _, fun t h => by omega, fun t _ h => by simp at h⟩
  | cons a r ih =>
    have h1 : Fall r := (List.pairwise_cons.1 h).2
    have h2 := (List.pairwise_cons.1 h).1
    obtain ⟨p, p1, p2, p3⟩ := ih h1 (fun e => hx (by simp [e]))
    rcases Nat.lt_trichotomy x a with h3 | h3 | h3
    · refine ⟨p + 1, by simp; exact p1, fun t ht => ?_, fun t h4 h5 => ?_⟩
      · cases t with
        | zero => rw [nth_cons0]; exact h3
        | succ t => rw [nth_cons]; exact p2 t (by omega)
      · cases t with
        | zero => omega
        | succ t => rw [nth_cons]; exact p3 t (by omega) (by simpa using h5)
    · exact absurd (by simp [h3]) hx
    · refine ⟨0, Nat.zero_le _, fun t ht => by omega, fun t _ h5 => ?_⟩
      cases t with
      | zero => rw [nth_cons0]; exact h3
      | succ t =>
        have h6 : t < r.length := by simpa using h5
        have h7 := h2 _ (List.getElem_mem h6)
        rw [nth_cons, nth_in h6]
        omega
theorem Plc.fall {xs : List Nat} {x p : Nat} (h : Plc xs x p) (hf : Fall xs) : Fall (ins13 xs p x) := by
  unfold Fall ins13
  rw [List.pairwise_append]
  refine ⟨List.Pairwise.sublist (List.take_sublist _ _) hf, ?_, ?_⟩
  · rw [List.pairwise_cons]
    refine ⟨fun y hy => ?_, List.Pairwise.sublist (List.drop_sublist _ _) hf⟩
    obtain ⟨t, ht, rfl⟩ := List.getElem_of_mem hy
    rw [List.length_drop] at ht
    rw [List.getElem_drop, ← nth_in]
    exact h.high _ (by omega) (by omega)
  · intro a ha b hb
    obtain ⟨t, ht, rfl⟩ := List.getElem_of_mem ha
    rw [List.length_take] at ht
    have h1 := h.low t (by omega)
    rw [List.getElem_take, ← nth_in]
    rw [List.mem_cons] at hb
    rcases hb with rfl | hb
    · exact h1
    · obtain ⟨s, hs, rfl⟩ := List.getElem_of_mem hb
      rw [List.length_drop] at hs
      rw [List.getElem_drop, ← nth_in]
      have h2 := h.high (p + s) (by omega) (by omega)
      omega
theorem ins13_mem {xs : List Nat} {x p j : Nat} : j ∈ ins13 xs p x ↔ j = x ∨ j ∈ xs := by
  unfold ins13
  rw [List.mem_append, List.mem_cons]
  have h : j ∈ xs ↔ j ∈ xs.take p ∨ j ∈ xs.drop p := by rw [← List.mem_append, List.take_append_drop]
  rw [h]
  constructor
  · rintro (h | h | h)
    · exact .inr (.inl h)
    · exact .inl h
    · exact .inr (.inr h)
  · rintro (h | h | h)
    · exact .inr (.inl h)
    · exact .inl h
    · exact .inr (.inr h)
set_option maxHeartbeats 1000000 in
theorem cmp13_any (a b : Nat) (w : World) (ha : a < 1000000) (hb : b < 1000000) :
    Calls Try.prog 72 #[.int .i64 (a : Int), .int .i64 (b : Int)] w fun e w' => e = .returned (.int .i64 ((b : Int) - (a : Int))) ∧ w' = w := by
  have hw : IntKind.i64.wrap ((b : Int) - (a : Int)) = (b : Int) - (a : Int) := by rw [IntKind.wrap_i64]; omega
  go_enter Try.func72, Try.ntmps72
  go_wp2_with fail
  go_ret
  exact ⟨rfl, rfl⟩
set_option maxHeartbeats 4000000 in
theorem bsf13_any {xs : List Nat} {x p n c : Nat} {A : Option Addr} (w : World) (hl : xs.length = n) (hr : Rd w w.heap.size A xs) (hp : Plc xs x p) (hn : n ≤ 1000000) (hx : x < 1000000) (hxs : ∀ y, y ∈ xs → y < 1000000) :
    Calls Try.prog 71 #[.slice A n c, .int .i64 (x : Int), .func (.func 72) #[] #[]] w fun e w' => e = .returned (.tuple #[.int .i64 (p : Int), .bool false]) ∧ w' = w := by
  have hpn : p ≤ n := by have := hp.le; omega
  have HL := Lib.hid hl
  have HR := Lib.hid hr
  have HP := Lib.hid hp
  have HX := Lib.hid hxs
  clear hl hr hp hxs
  go_enter Try.func71, Try.ntmps71
  go_wp2_with fail
  go_loopw [9, 10] (fun s9 s10 wr => wr = w ∧ ∃ lo hi : Nat, s9 = .int .i64 (lo : Int) ∧ s10 = .int .i64 (hi : Int) ∧ lo ≤ p ∧ p ≤ hi ∧ hi ≤ n) (fun s9 s10 _ => (intOf s10).toNat - (intOf s9).toNat)
  case atStart => exact ⟨by first | trivial | rfl, 0, n, rfl, rfl, by omega, hpn, Nat.le_refl _⟩
  case round =>
    obtain ⟨rfl, lo, hi, rfl, rfl, h1, h2, h3⟩ := hrel
    by_cases hlt : lo < hi
    · obtain ⟨m, hm⟩ : ∃ m, (lo + hi) / 2 = m := ⟨_, rfl⟩
      obtain ⟨b, o, hA, _, ca⟩ := HR.out.at_ (show m < xs.length by have := HL.out; omega)
      subst hA
      obtain ⟨y, hy⟩ : ∃ y, nth xs m = y := ⟨_, rfl⟩
      have hyb : y < 1000000 := by
        have hml : m < xs.length := by have := HL.out; omega
        rw [← hy, nth_in hml]
        exact HX.out _ (List.getElem_mem hml)
      rw [hy] at ca
      have HC := Lib.hid (cmp13_any y x wr hyb hx)
      have hdiv : ((lo : Int) + (hi : Int)) / 2 = (m : Int) := by omega
      have i0 : (0 : Int) ≤ (m : Int) := by omega
      have i1 : (m : Int) < (n : Int) := by omega
      have hw0 : IntKind.i64.wrap ((lo : Int) + (hi : Int)) = (lo : Int) + (hi : Int) := by rw [IntKind.wrap_i64]; omega
      have hw1 : IntKind.u64.wrap ((lo : Int) + (hi : Int)) = (lo : Int) + (hi : Int) := by rw [IntKind.wrap_u64]; omega
      have hw2 : IntKind.i64.wrap (m : Int) = (m : Int) := by rw [IntKind.wrap_i64]; omega
      have hw3 : IntKind.u64.wrap (m : Int) = (m : Int) := by rw [IntKind.wrap_u64]; omega
      by_cases hmp : m < p
      · have hyx : x < y := by rw [← hy]; exact HP.out.low m hmp
        have hneg : (x : Int) - (y : Int) < 0 := by omega
        clear hy hm
        go_wp2_with fail
        refine HC.out.mono ?_
        rintro e w3 ⟨rfl, rfl⟩
        go_wp2_with fail
        go_roundw
        case rel => exact ⟨by first | trivial | rfl, m + 1, hi, by go_num, rfl, by omega, h2, h3⟩
        case measure => simp [intOf]; omega
      · have hyx : y < x := by rw [← hy]; exact HP.out.high m (by omega) (by have := HL.out; omega)
        have hneg : ¬ (x : Int) - (y : Int) < 0 := by omega
        clear hy
        go_wp2_with fail
        refine HC.out.mono ?_
        rintro e w3 ⟨rfl, rfl⟩
        go_wp2_with fail
        go_roundw
        case rel => exact ⟨by first | trivial | rfl, lo, m, rfl, rfl, h1, by omega, by omega⟩
        case measure => simp [intOf]; omega
    · obtain rfl : lo = p := by omega
      obtain rfl : hi = lo := by omega
      by_cases hpn2 : hi < n
      · obtain ⟨b, o, hA, _, ca⟩ := HR.out.at_ (show hi < xs.length by have := HL.out; omega)
        subst hA
        obtain ⟨y, hy⟩ : ∃ y, nth xs hi = y := ⟨_, rfl⟩
        have hyb : y < 1000000 := by
          have hml : hi < xs.length := by have := HL.out; omega
          rw [← hy, nth_in hml]
          exact HX.out _ (List.getElem_mem hml)
        have hyx : y < x := by rw [← hy]; exact HP.out.high hi (by omega) (by have := HL.out; omega)
        rw [hy] at ca
        have HC := Lib.hid (cmp13_any y x wr hyb hx)
        have hz : ¬ (x : Int) - (y : Int) = 0 := by omega
        have i0 : (0 : Int) ≤ (hi : Int) := by omega
        have i1 : (hi : Int) < (n : Int) := by omega
        clear hy
        go_wp2_with fail
        refine HC.out.mono ?_
        rintro e w3 ⟨rfl, rfl⟩
        go_wp2_with fail
        go_ret2
        exact ⟨by first | rfl | simp [hz], rfl⟩
      · have i1 : ¬ (hi : Int) < (n : Int) := by omega
        go_wp2_with fail
        go_ret2
        exact ⟨rfl, rfl⟩
/-- What stays: all below block L, and all that was there but block g and the row. -/
structure Bk13 (L g : Nat) (row : Option Nat) (w w' : World) : Prop where
  below : Below L w w'
  size : w.heap.size ≤ w'.heap.size
  keep : ∀ b, b < w.heap.size → b ≠ g → some b ≠ row → w'.heap[b]? = w.heap[b]?
theorem Bk13.blk {L g : Nat} {row : Option Nat} {w w' : World} (h : Bk13 L g row w w') {b : Nat} {t : TypeId} {cs : Array Value} (hb : Blk w b t cs) (h1 : b ≠ g) (h2 : some b ≠ row) : Blk w' b t cs := (h.keep b hb.lt h1 h2).trans hb
theorem Bk13.own {L g : Nat} {row : Option Nat} {w w' : World} (h : Bk13 L g row w w') {base n : Nat} {e : TypeId} {v : Value} {xs : List Value} (ho : w.ownsRow base e 1 v n xs) (h1 : v.ownBlock ≠ some g) (h2 : ∀ r, v.ownBlock = some r → row ≠ some r) : w'.ownsRow base e 1 v n xs := by
  have hlt := ho.lt
  obtain ⟨k1, k2⟩ := ho
  refine ⟨k1, ?_⟩
  rcases k2 with k2 | ⟨b, cap, cur, rfl, hb, hh, r⟩
  · exact .inl k2
  · refine .inr ⟨b, cap, cur, rfl, hb, ?_, r⟩
    rw [h.keep b (hlt b rfl).2 (fun e => h1 (by rw [← e]; rfl)) (fun e => h2 b rfl e.symm)]
    exact hh
/-- What put leaves behind. -/
def Pt13 (w : World) (L g : Nat) (v : Value) (ys : List Nat) (e : Ending) (w' : World) : Prop :=
  e = .returned (.tuple #[]) ∧ ∃ A' c', Blk w' g 26 #[.slice A' ys.length c'] ∧ w'.ownsRow L 3 1 (.slice A' ys.length c') ys.length (ints ys) ∧ (∀ r, (Value.slice A' ys.length c').ownBlock = some r → v.ownBlock = some r ∨ w.heap.size ≤ r) ∧ Bk13 L g v.ownBlock w w'
set_option maxHeartbeats 2000000 in
theorem put13_any {L g k c x p : Nat} {A : Option Addr} {xs : List Nat} (w : World) (hv : Blk w g 26 #[.slice A k c]) (ho : w.ownsRow L 3 1 (.slice A k c) k (ints xs)) (hl : xs.length = k) (hp : Plc xs x p) (hL : L ≤ w.heap.size) (hLg : L ≤ g)
    (hk : k ≤ 100000) (hx : x < 1000000) (hxs : ∀ y, y ∈ xs → y < 1000000) :
    Calls Try.prog 69 #[.pointer (some ⟨g, 0, none⟩), .int .i64 (x : Int)] w (Pt13 w L g (.slice A k c) (ins13 xs p x)) := by
  have hpk : p ≤ k := by have := hp.le; omega
  have HPT : Hid (Pt13 w L g (.slice A k c) (ins13 xs p x) = fun e w' => e = .returned (.tuple #[]) ∧ ∃ A' c', Blk w' g 26 #[.slice A' (ins13 xs p x).length c'] ∧ w'.ownsRow L 3 1 (.slice A' (ins13 xs p x).length c') (ins13 xs p x).length (ints (ins13 xs p x)) ∧ (∀ r, (Value.slice A' (ins13 xs p x).length c').ownBlock = some r → (Value.slice A k c).ownBlock = some r ∨ w.heap.size ≤ r) ∧ Bk13 L g (Value.slice A k c).ownBlock w w') := Lib.hid rfl
  have c0 := hv.cell 0
  have HB := Lib.hid (bsf13_any (c := c) w hl (Rd.of_own ho) hp (by omega) hx hxs)
  have hba := b1' w (.cells #[.int .i64 (x : Int)] 3)
  have HI := Lib.hid (insert13_any (w.alloc (.cells #[.int .i64 (x : Int)] 3)) hl (own7_keep ho hba) hpk (Blk.new w _ _) (fun e => by have := (ho.lt _ e).2; omega) (by omega) (by simp; omega))
  have hv1 := hv.below hba hv.lt
  have d0 := hv1.cell 0
  have HV := Lib.hid hv1
  have HO := Lib.hid ho
  have HVW := Lib.hid hv
  have HBA := Lib.hid hba
  clear hv hv1 ho hl hp hxs hba
  go_enter Try.func69, Try.ntmps69
  go_wp2_with fail
  refine HB.out.mono ?_
  rintro e w1 ⟨rfl, rfl⟩
  clear HB
  go_wp2_with fail
  refine HI.out.mono ?_
  rintro e w2 ⟨A', c', rfl, h2, h3, h4⟩
  have hgne : (Value.slice A k c).ownBlock ≠ some g := own7_ne HO.out HVW.out (by decide)
  have hv2 := HV.out.grown h3 (fun e => hgne e.symm)
  have e0 := hv2.cell 0
  have f0 := hv2.frozen 0
  have H2 := Lib.hid h2
  have H3 := Lib.hid h3
  have H4 := Lib.hid h4
  have HV2 := Lib.hid hv2
  have HN := Lib.hid hgne
  clear h2 h3 h4 hv2 hgne HI
  go_wp2_with fail
  go_end0
  rw [HPT.out]
  have hs : (w1.alloc (.cells #[.int .i64 (x : Int)] 3)).heap.size = w1.heap.size + 1 := by simp
  have hbel : Below L w1 w2 := (HBA.out.mono hL).grown H3.out (by omega) (fun r hr => (HO.out.lt r hr).1)
  refine ⟨rfl, A', c', by simpa using HV2.out.set_ 0 _, own7_far H2.out (grownBy_setCell' w2 g _) (own7_ne H2.out HV2.out (by decide)), fun r hr => ?_, ⟨hbel.setCell hLg _, ?_, fun b hb h5 h6 => ?_⟩⟩
  · rcases H4.out r hr with h | h
    · exact .inl h
    · exact .inr (by omega)
  · have := hbel.size
    simpa [World.setCell] using this
  · exact (Below.heap_setCell w2 ⟨g, 0, none⟩ _ b h5).trans ((H3.out.block b (by omega) h6).trans (HBA.out.block b hb))
end Go.Proofs.Ytllcmjdfgbiijaa
namespace Go.Proofs.Ytllcmjdfgbiijaa
open Go.RowKit
section
variable {P : Program} {md : Region.Mode} {ops : Array Oper} {Q : Exit → Act → World → Prop} {S : World → Prop} {oi : Oper} {fuel : Nat} {listed : Array Bool} {a : Act} {w : World}
theorem sk (i : Nat) (h : wpAnyH P md ops Q S fuel (listed.setIfInBounds i true) (a.put oi.dst undef) w) (hi : ops.toList[i]? = some oi := by rfl)
    (hs : Region.noSelect ops = true := by kernel_rfl) (hf : Region.free md ops listed i = true := by kernel_rfl) (hr : (Region.ready md ops listed).contains i = true := by kernel_rfl)
    (hQ : ∀ c a w, Q (.panic c) (a.put oi.dst undef) w → Q (.panic c) a w := by exact fun _ _ _ h => h) (hw : Region.wanted oi (yielded ops a.tmps) = false := by rfl) (hS : S w := by assumption) : wpAnyH P md ops Q S (fuel + 1) listed a w :=
  take_skip (op_of hi) hs hf hr hQ hw hS h
theorem tk (i : Nat) {v : Value} (hy : ∀ w, S w → (execOp a.eval oi).run P w = .ok (.value v) w) (h : wpAnyH P md ops Q S fuel (listed.setIfInBounds i true) (a.put oi.dst v) w) (hi : ops.toList[i]? = some oi := by rfl)
    (hs : Region.noSelect ops = true := by kernel_rfl) (hf : Region.free md ops listed i = true := by kernel_rfl) (hr : (Region.ready md ops listed).contains i = true := by kernel_rfl)
    (hQ : ∀ c a w, Q (.panic c) (a.put oi.dst v) w → Q (.panic c) a w := by exact fun _ _ _ h => h) (hw : Region.wanted oi (yielded ops a.tmps) = true := by rfl) (hS : S w := by assumption) : wpAnyH P md ops Q S (fuel + 1) listed a w :=
  wpAnyH_take (op_of hi) hs hf hr hQ (Or.inl ⟨hw, hy⟩) hS h
theorem tkp (hP : ∀ c a d v w, Q (.panic c) (Act.put a (some d) v) w → Q (.panic c) a w) (i : Nat) {v : Value} {d : Nat} (hy : ∀ w, S w → (execOp a.eval oi).run P w = .ok (.value v) w) (h : wpAnyH P md ops Q S fuel (listed.setIfInBounds i true) (a.put oi.dst v) w) (hi : ops.toList[i]? = some oi := by rfl)
    (hs : Region.noSelect ops = true := by kernel_rfl) (hf : Region.free md ops listed i = true := by kernel_rfl) (hr : (Region.ready md ops listed).contains i = true := by kernel_rfl)
    (hd : oi.dst = some d := by rfl) (hw : Region.wanted oi (yielded ops a.tmps) = true := by rfl) (hS : S w := by assumption) : wpAnyH P md ops Q S (fuel + 1) listed a w :=
  wpAnyH_take (op_of hi) hs hf hr (by rw [hd]; exact fun _ _ _ => hP _ _ _ _ _) (Or.inl ⟨hw, hy⟩) hS h
theorem rdy (i : Nat) (hk : ∀ K' : Act → World → Prop, Shut (∀ a w, S w → (S w → wpAnyH P md ops Q S fuel (listed.setIfInBounds i true) a w) → K' a w) → if Region.wanted oi (yielded ops a.tmps) = true then Oper.wp P oi a w K' Q else K' (a.put oi.dst undef) w)
    (hi : ops.toList[i]? = some oi := by rfl) (hr : Region.ready md ops listed = [i] := by kernel_rfl) : wpAnyH P md ops Q S (fuel + 1) listed a w :=
  wpAnyH_ready hr (by simp) (AllReadyH.cons (op_of hi) hk AllReadyH.nil)
/-- What 'Act.put' leaves, laid out. -/
theorem pt1 {α : Type} (l : List α) (i : Nat) (a : α) : l.toArray.setIfInBounds i a = (l.set i a).toArray := List.setIfInBounds_toArray ..
theorem pt2 {α : Type} (x : α) (l : List α) (a : α) : (x :: l).set 0 a = a :: l := rfl
theorem pt3 {α : Type} (x : α) (l : List α) (i : Nat) (a : α) : (x :: l).set (i + 1) a = x :: l.set i a := rfl
end
end Go.Proofs.Ytllcmjdfgbiijaa
namespace Go.Proofs.Ytllcmjdfgbiijaa
open Go.RowKit
set_option maxRecDepth 100000
theorem blk_ne12 {w : World} {g g' : Nat} {t t' : TypeId} {cs cs' : Array Value} (h : Blk w g t cs) (h' : Blk w g' t' cs') (ht : t ≠ t') : g ≠ g' := by
  rintro rfl
  unfold Blk at h h'
  rw [h] at h'
  injection h' with h'
  injection h' with _ h2 _
  exact ht h2
theorem own12_far {w w' : World} {base : Nat} {e : TypeId} {v : Value} {n : Nat} {xs : List Value} {row : Option Nat} (h : w.ownsRow base e 1 v n xs) (hg : w.grownBy w' row) (hr : ∀ r, row = some r → v.ownBlock ≠ some r) : w'.ownsRow base e 1 v n xs := by
  cases row with
  | none => exact own7_none h hg
  | some r => exact own7_far h hg (hr r rfl)
section
variable {W : World} {L g gh gc n t : Nat} {h c o : Nat → Nat} {Al : Option Addr} {kl cl : Nat} {Am : Option Addr} {km cm : Nat} {ls ms : List Nat}
end
end Go.Proofs.Ytllcmjdfgbiijaa
namespace Go.Proofs.Ytllcmjdfgbiijaa
open Go.RowKit
set_option maxRecDepth 100000
theorem info_int12 : (Try.prog.info? 3).map (fun i => (i.zero, i.size, i.bytes)) = some (some (.int .i64 0), 1, 8) := by kernel_rfl
theorem own12_some {w : World} {base : Nat} {e : TypeId} {A : Option Addr} {cc m : Nat} {vs : List Value} (h : w.ownsRow base e 1 (.slice A (m + 1) cc) (m + 1) vs) : ∃ r, A = some ⟨r, 0, none⟩ ∧ m + 1 ≤ cc := by
  rcases h.2 with ⟨h0, _⟩ | ⟨r, cap, cur, hv, _, _, hn, _⟩
  · cases h0
  · injection hv with h1 h2 h3
    subst h3
    exact ⟨r, h1, hn⟩
theorem own12_last {w : World} {base : Nat} {e : TypeId} {r cc m : Nat} {xs : List Nat} {a : Nat} (h : w.ownsRow base e 1 (.slice (some ⟨r, 0, none⟩) (m + 1) cc) (m + 1) (ints (xs ++ [a]))) (hx : xs.length = m) : w.cell? ⟨r, m, none⟩ = some (.int .i64 (a : Int)) := by
  have h1 := h.cells (g := r) rfl m (.int .i64 (a : Int)) (by rw [ints_append, List.getElem?_append_right (by rw [ints_length]; omega), ints_length, hx, Nat.sub_self]; rfl)
  rw [Go.WideShapes.add_plain, Nat.zero_add] at h1
  exact h1
section
variable {W : World} {L g gh gc n t : Nat} {h c o : Nat → Nat} {Al : Option Addr} {kl cl : Nat} {Am : Option Addr} {km cm : Nat} {ls ms : List Nat}
end
theorem rv12_one (w : World) (d : Nat) (t : TypeId) : Rv (w.alloc (.cells #[.int .i64 (d : Int)] t)) (w.heap.size + 1) (some ⟨w.heap.size, 0, none⟩) (ints [d]) := by
  intro _
  refine ⟨w.heap.size, 0, rfl, by omega, fun k v hk => ?_⟩
  match k, hk with
  | 0, hk =>
    obtain rfl : Value.int .i64 (d : Int) = v := by simpa [ints] using hk
    exact cell_one_new w (.int .i64 (d : Int)) t 0 _ rfl
  | k + 1, hk => simp [ints] at hk
end Go.Proofs.Ytllcmjdfgbiijaa
