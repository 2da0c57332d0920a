/-
  SaidStatePuts, part 14 of 26: what the theorem statePuts_holds reaches.
-/
import Derived.Test.YtfoellhoaflofaaGreatP13
namespace Go.Proofs.YtfoellhoaflofaaGreat
open Go.RowKit
set_option maxRecDepth 100000
theorem held14 {g : Nat} {a b c d e f : Value} {w0 u u' : World} (hb : Below u.heap.size u u')
    (h : u.cell? ⟨g, 0, none⟩ = some a ∧ u.cell? ⟨g, 1, none⟩ = some b ∧ u.cell? ⟨g, 2, none⟩ = some c ∧ u.cell? ⟨g, 3, none⟩ = some d ∧ u.cell? ⟨g, 4, none⟩ = some e ∧ u.cell? ⟨g, 5, none⟩ = some f ∧ Below w0.heap.size w0 u) :
    u'.cell? ⟨g, 0, none⟩ = some a ∧ u'.cell? ⟨g, 1, none⟩ = some b ∧ u'.cell? ⟨g, 2, none⟩ = some c ∧ u'.cell? ⟨g, 3, none⟩ = some d ∧ u'.cell? ⟨g, 4, none⟩ = some e ∧ u'.cell? ⟨g, 5, none⟩ = some f ∧ Below w0.heap.size w0 u' := by
  obtain ⟨h0, h1, h2, h3, h4, h5, h6⟩ := h
  have hg := World.block_lt_of_cell? u _ h0
  exact ⟨(hb.cell (p := ⟨g, 0, none⟩) hg).trans h0, (hb.cell (p := ⟨g, 1, none⟩) hg).trans h1, (hb.cell (p := ⟨g, 2, none⟩) hg).trans h2, (hb.cell (p := ⟨g, 3, none⟩) hg).trans h3, (hb.cell (p := ⟨g, 4, none⟩) hg).trans h4, (hb.cell (p := ⟨g, 5, none⟩) hg).trans h5, h6.trans (hb.mono h6.size)⟩
theorem held14_b {g : Nat} {a b c d e f : Value} {w0 u : World} (h : u.cell? ⟨g, 0, none⟩ = some a ∧ u.cell? ⟨g, 1, none⟩ = some b ∧ u.cell? ⟨g, 2, none⟩ = some c ∧ u.cell? ⟨g, 3, none⟩ = some d ∧ u.cell? ⟨g, 4, none⟩ = some e ∧ u.cell? ⟨g, 5, none⟩ = some f ∧ Below w0.heap.size w0 u) : Below w0.heap.size w0 u := h.2.2.2.2.2.2
/-- A boxed state, and how many there may be of each. -/
structure Fm14 (w : World) (S : Sv14) (A0 A1 A2 A3 A4 : Option Addr) (n0 n1 n2 n3 n4 c0 c1 c2 c3 c4 : Nat) (sq : Int) (W : World) : Prop where
  b : Below w.heap.size w W
  x : Blk W w.heap.size 28 #[.slice A0 n0 c0, .slice A1 n1 c1, .slice A2 n2 c2, .slice A3 n3 c3, .slice A4 n4 c4, .int .i64 sq]
  y : Blk W (w.heap.size + 1) 3 #[.int .i64 16, .int .i64 96, .int .i64 32, .int .i64 8]
  s : SA14 W S A0 A1 A2 A3 A4 n0 n1 n2 n3 n4 c0 c1 c2 c3 c4 sq
theorem Fm14.step {w : World} {S : Sv14} {A0 A1 A2 A3 A4 : Option Addr} {n0 n1 n2 n3 n4 c0 c1 c2 c3 c4 : Nat} {sq : Int} {W W' : World} (h : Fm14 w S A0 A1 A2 A3 A4 n0 n1 n2 n3 n4 c0 c1 c2 c3 c4 sq W) (hb : Below W.heap.size W W') : Fm14 w S A0 A1 A2 A3 A4 n0 n1 n2 n3 n4 c0 c1 c2 c3 c4 sq W' :=
  ⟨h.b.trans (hb.mono h.b.size), h.x.below hb h.x.lt, h.y.below hb h.y.lt, h.s.step hb⟩
set_option maxHeartbeats 4000000 in
theorem rfree14_C (v : Value) (S : Sv14) (r : Int) (w : World) (h : St14 w v S) (hf : Free14 usC S.C 16 r) :
    Calls Tryz.prog 37 #[v, .int .i64 0] w fun e w' => e = .returned (.int .i64 r) ∧ Below w.heap.size w w' := by
  obtain ⟨A0, A1, A2, A3, A4, n0, n1, n2, n3, n4, c0, c1, c2, c3, c4, sq, rfl, hs⟩ := h
  have HF := Lib.hid hf
  have hb := (b1' w (.cells #[.slice A0 n0 c0, .slice A1 n1 c1, .slice A2 n2 c2, .slice A3 n3 c3, .slice A4 n4 c4, .int .i64 sq] 28)).alloc (by simp) (.cells #[.int .i64 16, .int .i64 96, .int .i64 32, .int .i64 8] 3)
  have HFM : Hid (Fm14 w S A0 A1 A2 A3 A4 n0 n1 n2 n3 n4 c0 c1 c2 c3 c4 sq ((w.alloc (.cells #[.slice A0 n0 c0, .slice A1 n1 c1, .slice A2 n2 c2, .slice A3 n3 c3, .slice A4 n4 c4, .int .i64 sq] 28)).alloc (.cells #[.int .i64 16, .int .i64 96, .int .i64 32, .int .i64 8] 3))) := Lib.hid ⟨hb, (Blk.new w _ _).alloc _, by
    have h := Blk.new (w.alloc (.cells #[.slice A0 n0 c0, .slice A1 n1 c1, .slice A2 n2 c2, .slice A3 n3 c3, .slice A4 n4 c4, .int .i64 sq] 28)) 3 #[.int .i64 16, .int .i64 96, .int .i64 32, .int .i64 8]
    rwa [show (w.alloc (.cells #[.slice A0 n0 c0, .slice A1 n1 c1, .slice A2 n2 c2, .slice A3 n3 c3, .slice A4 n4 c4, .int .i64 sq] 28)).heap.size = w.heap.size + 1 by simp] at h, hs.step hb⟩
  clear hf hs hb
  go_enter Tryz.func37, Tryz.ntmps37
  go_wp2_with fail
  go_loopw [6] (fun i wr => ∃ k : Nat, i = .int .i64 (k : Int) ∧ k ≤ 16 ∧ Hid (∀ j, j < k → usC (gt14 S.C j) = true) ∧ Hid (Fm14 w S A0 A1 A2 A3 A4 n0 n1 n2 n3 n4 c0 c1 c2 c3 c4 sq wr)) (fun i _ => 16 - (intOf i).toNat)
  case atStart => exact ⟨0, rfl, by omega, Lib.hid (fun j h => by omega), HFM⟩
  case round =>
    obtain ⟨k, rfl, hk, HN, HW⟩ := hrel
    have y0 := HW.out.y.cell 0
    have hsz : w.heap.size < wr.heap.size := HW.out.x.lt
    by_cases hkm : k < 16
    · have i1 : (k : Int) < 16 := by omega
      obtain ⟨b0, hb0⟩ : ∃ b, usC (gt14 S.C k) = b := ⟨_, rfl⟩
      obtain ⟨b1, hb1⟩ : ∃ b, usT (gt14 S.T k) = b := ⟨_, rfl⟩
      obtain ⟨b2, hb2⟩ : ∃ b, usH (gt14 S.H k) = b := ⟨_, rfl⟩
      obtain ⟨b3, hb3⟩ : ∃ b, usL (gt14 S.L k) = b := ⟨_, rfl⟩
      have HUB := Lib.hid hb0
      have HC0 := Lib.hid (fun W (h : Below wr.heap.size wr W) => rCoin14 (.agg #[.slice A0 n0 c0, .slice A1 n1 c1, .slice A2 n2 c2, .slice A3 n3 c3, .slice A4 n4 c4, .int .i64 sq]) S (k : Int) b0 W ⟨A0, A1, A2, A3, A4, n0, n1, n2, n3, n4, c0, c1, c2, c3, c4, sq, rfl, HW.out.s.step h⟩ (by rw [us14_nat]; exact hb0))
      have HC1 := Lib.hid (fun W (h : Below wr.heap.size wr W) => rTicket14 (.agg #[.slice A0 n0 c0, .slice A1 n1 c1, .slice A2 n2 c2, .slice A3 n3 c3, .slice A4 n4 c4, .int .i64 sq]) S (k : Int) b1 W ⟨A0, A1, A2, A3, A4, n0, n1, n2, n3, n4, c0, c1, c2, c3, c4, sq, rfl, HW.out.s.step h⟩ (by rw [us14_nat]; exact hb1))
      have HC2 := Lib.hid (fun W (h : Below wr.heap.size wr W) => rThread14 (.agg #[.slice A0 n0 c0, .slice A1 n1 c1, .slice A2 n2 c2, .slice A3 n3 c3, .slice A4 n4 c4, .int .i64 sq]) S (k : Int) b2 W ⟨A0, A1, A2, A3, A4, n0, n1, n2, n3, n4, c0, c1, c2, c3, c4, sq, rfl, HW.out.s.step h⟩ (by rw [us14_nat]; exact hb2))
      have HC3 := Lib.hid (fun W (h : Below wr.heap.size wr W) => rLock14 (.agg #[.slice A0 n0 c0, .slice A1 n1 c1, .slice A2 n2 c2, .slice A3 n3 c3, .slice A4 n4 c4, .int .i64 sq]) S (k : Int) b3 W ⟨A0, A1, A2, A3, A4, n0, n1, n2, n3, n4, c0, c1, c2, c3, c4, sq, rfl, HW.out.s.step h⟩ (by rw [us14_nat]; exact hb3))
      have x0 := HW.out.x.cell 0
      have x1 := HW.out.x.cell 1
      have x2 := HW.out.x.cell 2
      have x3 := HW.out.x.cell 3
      have x4 := HW.out.x.cell 4
      have x5 := HW.out.x.cell 5
      clear hb0 hb1 hb2 hb3
      go_wp2_with fail
      go_region_held3 (fun u => u.cell? ⟨w.heap.size, 0, none⟩ = some (.slice A0 n0 c0) ∧ u.cell? ⟨w.heap.size, 1, none⟩ = some (.slice A1 n1 c1) ∧ u.cell? ⟨w.heap.size, 2, none⟩ = some (.slice A2 n2 c2) ∧ u.cell? ⟨w.heap.size, 3, none⟩ = some (.slice A3 n3 c3) ∧ u.cell? ⟨w.heap.size, 4, none⟩ = some (.slice A4 n4 c4) ∧ u.cell? ⟨w.heap.size, 5, none⟩ = some (.int .i64 sq) ∧ Below wr.heap.size wr u)
        (first | exact ⟨x0, x1, x2, x3, x4, x5, (Below.refl _ _).drew⟩ | assumption | exact held14 (b1' _ _) (by assumption))
        (first
          | (go_at_call 32; with_reducible refine (HC0.out _ (held14_b (by assumption))).mono ?_; rintro e u0 ⟨rfl, hb0⟩; have hS0 := held14 (w0 := wr) hb0 (by assumption))
          | (go_at_call 33; with_reducible refine (HC1.out _ hS0.2.2.2.2.2.2).mono ?_; rintro e u1 ⟨rfl, hb1⟩; have hS1 := held14 hb1 (by assumption))
          | (go_at_call 34; with_reducible refine (HC2.out _ hS1.2.2.2.2.2.2).mono ?_; rintro e u2 ⟨rfl, hb2⟩; have hS2 := held14 hb2 (by assumption))
          | (go_at_call 35; with_reducible refine (HC3.out _ hS2.2.2.2.2.2.2).mono ?_; rintro e u3 ⟨rfl, hb3⟩; have hS3 := held14 hb3 (by assumption)))
      have hB3 := hS3.2.2.2.2.2.2.alloc hS3.2.2.2.2.2.2.size (.cells #[.bool b0, .bool b1, .bool b2, .bool b3] 4)
      have z0 := (Blk.new u3 4 #[.bool b0, .bool b1, .bool b2, .bool b3]).cell 0
      have HW2 := Lib.hid (HW.out.step hB3)
      clear HC0 HC1 HC2 HC3 hS0 hS1 hS2 hS3 hb0 hb1 hb2 hb3 hB3 x0 x1 x2 x3 x4 x5
      cases b0 with
      | true =>
        have HN2 : Hid (∀ j, j < k + 1 → usC (gt14 S.C j) = true) := Lib.hid (fun j hj => by
          rcases (show j < k ∨ j = k by omega) with h5 | h5
          · exact HN.out j h5
          · rw [h5]; exact HUB.out)
        go_wp2_with fail
        go_roundw
        case rel => exact ⟨k + 1, by go_num, by omega, HN2, HW2⟩
        case measure => simp [intOf]; omega
      | false =>
        have HRE : Hid (r = (k : Int)) := Lib.hid (HF.out.least hkm HUB.out HN.out)
        go_wp2_with fail
        go_ret
        exact ⟨by rw [HRE.out]; rfl, HW2.out.b⟩
    · have HRE : Hid (r = -1) := Lib.hid (HF.out.none (fun j hj => HN.out j (by omega)))
      have i1 : ¬ (k : Int) < 16 := by omega
      go_wp2_with fail
      go_ret
      exact ⟨by rw [HRE.out]; rfl, HW.out.b⟩
set_option maxHeartbeats 4000000 in
theorem rfree14_T (v : Value) (S : Sv14) (r : Int) (w : World) (h : St14 w v S) (hf : Free14 usT S.T 96 r) :
    Calls Tryz.prog 37 #[v, .int .i64 1] w fun e w' => e = .returned (.int .i64 r) ∧ Below w.heap.size w w' := by
  obtain ⟨A0, A1, A2, A3, A4, n0, n1, n2, n3, n4, c0, c1, c2, c3, c4, sq, rfl, hs⟩ := h
  have HF := Lib.hid hf
  have hb := (b1' w (.cells #[.slice A0 n0 c0, .slice A1 n1 c1, .slice A2 n2 c2, .slice A3 n3 c3, .slice A4 n4 c4, .int .i64 sq] 28)).alloc (by simp) (.cells #[.int .i64 16, .int .i64 96, .int .i64 32, .int .i64 8] 3)
  have HFM : Hid (Fm14 w S A0 A1 A2 A3 A4 n0 n1 n2 n3 n4 c0 c1 c2 c3 c4 sq ((w.alloc (.cells #[.slice A0 n0 c0, .slice A1 n1 c1, .slice A2 n2 c2, .slice A3 n3 c3, .slice A4 n4 c4, .int .i64 sq] 28)).alloc (.cells #[.int .i64 16, .int .i64 96, .int .i64 32, .int .i64 8] 3))) := Lib.hid ⟨hb, (Blk.new w _ _).alloc _, by
    have h := Blk.new (w.alloc (.cells #[.slice A0 n0 c0, .slice A1 n1 c1, .slice A2 n2 c2, .slice A3 n3 c3, .slice A4 n4 c4, .int .i64 sq] 28)) 3 #[.int .i64 16, .int .i64 96, .int .i64 32, .int .i64 8]
    rwa [show (w.alloc (.cells #[.slice A0 n0 c0, .slice A1 n1 c1, .slice A2 n2 c2, .slice A3 n3 c3, .slice A4 n4 c4, .int .i64 sq] 28)).heap.size = w.heap.size + 1 by simp] at h, hs.step hb⟩
  clear hf hs hb
  go_enter Tryz.func37, Tryz.ntmps37
  go_wp2_with fail
  go_loopw [6] (fun i wr => ∃ k : Nat, i = .int .i64 (k : Int) ∧ k ≤ 96 ∧ Hid (∀ j, j < k → usT (gt14 S.T j) = true) ∧ Hid (Fm14 w S A0 A1 A2 A3 A4 n0 n1 n2 n3 n4 c0 c1 c2 c3 c4 sq wr)) (fun i _ => 96 - (intOf i).toNat)
  case atStart => exact ⟨0, rfl, by omega, Lib.hid (fun j h => by omega), HFM⟩
  case round =>
    obtain ⟨k, rfl, hk, HN, HW⟩ := hrel
    have y0 := HW.out.y.cell 1
    have hsz : w.heap.size < wr.heap.size := HW.out.x.lt
    by_cases hkm : k < 96
    · have i1 : (k : Int) < 96 := by omega
      obtain ⟨b0, hb0⟩ : ∃ b, usC (gt14 S.C k) = b := ⟨_, rfl⟩
      obtain ⟨b1, hb1⟩ : ∃ b, usT (gt14 S.T k) = b := ⟨_, rfl⟩
      obtain ⟨b2, hb2⟩ : ∃ b, usH (gt14 S.H k) = b := ⟨_, rfl⟩
      obtain ⟨b3, hb3⟩ : ∃ b, usL (gt14 S.L k) = b := ⟨_, rfl⟩
      have HUB := Lib.hid hb1
      have HC0 := Lib.hid (fun W (h : Below wr.heap.size wr W) => rCoin14 (.agg #[.slice A0 n0 c0, .slice A1 n1 c1, .slice A2 n2 c2, .slice A3 n3 c3, .slice A4 n4 c4, .int .i64 sq]) S (k : Int) b0 W ⟨A0, A1, A2, A3, A4, n0, n1, n2, n3, n4, c0, c1, c2, c3, c4, sq, rfl, HW.out.s.step h⟩ (by rw [us14_nat]; exact hb0))
      have HC1 := Lib.hid (fun W (h : Below wr.heap.size wr W) => rTicket14 (.agg #[.slice A0 n0 c0, .slice A1 n1 c1, .slice A2 n2 c2, .slice A3 n3 c3, .slice A4 n4 c4, .int .i64 sq]) S (k : Int) b1 W ⟨A0, A1, A2, A3, A4, n0, n1, n2, n3, n4, c0, c1, c2, c3, c4, sq, rfl, HW.out.s.step h⟩ (by rw [us14_nat]; exact hb1))
      have HC2 := Lib.hid (fun W (h : Below wr.heap.size wr W) => rThread14 (.agg #[.slice A0 n0 c0, .slice A1 n1 c1, .slice A2 n2 c2, .slice A3 n3 c3, .slice A4 n4 c4, .int .i64 sq]) S (k : Int) b2 W ⟨A0, A1, A2, A3, A4, n0, n1, n2, n3, n4, c0, c1, c2, c3, c4, sq, rfl, HW.out.s.step h⟩ (by rw [us14_nat]; exact hb2))
      have HC3 := Lib.hid (fun W (h : Below wr.heap.size wr W) => rLock14 (.agg #[.slice A0 n0 c0, .slice A1 n1 c1, .slice A2 n2 c2, .slice A3 n3 c3, .slice A4 n4 c4, .int .i64 sq]) S (k : Int) b3 W ⟨A0, A1, A2, A3, A4, n0, n1, n2, n3, n4, c0, c1, c2, c3, c4, sq, rfl, HW.out.s.step h⟩ (by rw [us14_nat]; exact hb3))
      have x0 := HW.out.x.cell 0
      have x1 := HW.out.x.cell 1
      have x2 := HW.out.x.cell 2
      have x3 := HW.out.x.cell 3
      have x4 := HW.out.x.cell 4
      have x5 := HW.out.x.cell 5
      clear hb0 hb1 hb2 hb3
      go_wp2_with fail
      go_region_held3 (fun u => u.cell? ⟨w.heap.size, 0, none⟩ = some (.slice A0 n0 c0) ∧ u.cell? ⟨w.heap.size, 1, none⟩ = some (.slice A1 n1 c1) ∧ u.cell? ⟨w.heap.size, 2, none⟩ = some (.slice A2 n2 c2) ∧ u.cell? ⟨w.heap.size, 3, none⟩ = some (.slice A3 n3 c3) ∧ u.cell? ⟨w.heap.size, 4, none⟩ = some (.slice A4 n4 c4) ∧ u.cell? ⟨w.heap.size, 5, none⟩ = some (.int .i64 sq) ∧ Below wr.heap.size wr u)
        (first | exact ⟨x0, x1, x2, x3, x4, x5, (Below.refl _ _).drew⟩ | assumption | exact held14 (b1' _ _) (by assumption))
        (first
          | (go_at_call 32; with_reducible refine (HC0.out _ (held14_b (by assumption))).mono ?_; rintro e u0 ⟨rfl, hb0⟩; have hS0 := held14 (w0 := wr) hb0 (by assumption))
          | (go_at_call 33; with_reducible refine (HC1.out _ hS0.2.2.2.2.2.2).mono ?_; rintro e u1 ⟨rfl, hb1⟩; have hS1 := held14 hb1 (by assumption))
          | (go_at_call 34; with_reducible refine (HC2.out _ hS1.2.2.2.2.2.2).mono ?_; rintro e u2 ⟨rfl, hb2⟩; have hS2 := held14 hb2 (by assumption))
          | (go_at_call 35; with_reducible refine (HC3.out _ hS2.2.2.2.2.2.2).mono ?_; rintro e u3 ⟨rfl, hb3⟩; have hS3 := held14 hb3 (by assumption)))
      have hB3 := hS3.2.2.2.2.2.2.alloc hS3.2.2.2.2.2.2.size (.cells #[.bool b0, .bool b1, .bool b2, .bool b3] 4)
      have z0 := (Blk.new u3 4 #[.bool b0, .bool b1, .bool b2, .bool b3]).cell 1
      have HW2 := Lib.hid (HW.out.step hB3)
      clear HC0 HC1 HC2 HC3 hS0 hS1 hS2 hS3 hb0 hb1 hb2 hb3 hB3 x0 x1 x2 x3 x4 x5
      cases b1 with
      | true =>
        have HN2 : Hid (∀ j, j < k + 1 → usT (gt14 S.T j) = true) := Lib.hid (fun j hj => by
          rcases (show j < k ∨ j = k by omega) with h5 | h5
          · exact HN.out j h5
          · rw [h5]; exact HUB.out)
        go_wp2_with fail
        go_roundw
        case rel => exact ⟨k + 1, by go_num, by omega, HN2, HW2⟩
        case measure => simp [intOf]; omega
      | false =>
        have HRE : Hid (r = (k : Int)) := Lib.hid (HF.out.least hkm HUB.out HN.out)
        go_wp2_with fail
        go_ret
        exact ⟨by rw [HRE.out]; rfl, HW2.out.b⟩
    · have HRE : Hid (r = -1) := Lib.hid (HF.out.none (fun j hj => HN.out j (by omega)))
      have i1 : ¬ (k : Int) < 96 := by omega
      go_wp2_with fail
      go_ret
      exact ⟨by rw [HRE.out]; rfl, HW.out.b⟩
set_option maxHeartbeats 4000000 in
theorem rfree14_H (v : Value) (S : Sv14) (r : Int) (w : World) (h : St14 w v S) (hf : Free14 usH S.H 32 r) :
    Calls Tryz.prog 37 #[v, .int .i64 2] w fun e w' => e = .returned (.int .i64 r) ∧ Below w.heap.size w w' := by
  obtain ⟨A0, A1, A2, A3, A4, n0, n1, n2, n3, n4, c0, c1, c2, c3, c4, sq, rfl, hs⟩ := h
  have HF := Lib.hid hf
  have hb := (b1' w (.cells #[.slice A0 n0 c0, .slice A1 n1 c1, .slice A2 n2 c2, .slice A3 n3 c3, .slice A4 n4 c4, .int .i64 sq] 28)).alloc (by simp) (.cells #[.int .i64 16, .int .i64 96, .int .i64 32, .int .i64 8] 3)
  have HFM : Hid (Fm14 w S A0 A1 A2 A3 A4 n0 n1 n2 n3 n4 c0 c1 c2 c3 c4 sq ((w.alloc (.cells #[.slice A0 n0 c0, .slice A1 n1 c1, .slice A2 n2 c2, .slice A3 n3 c3, .slice A4 n4 c4, .int .i64 sq] 28)).alloc (.cells #[.int .i64 16, .int .i64 96, .int .i64 32, .int .i64 8] 3))) := Lib.hid ⟨hb, (Blk.new w _ _).alloc _, by
    have h := Blk.new (w.alloc (.cells #[.slice A0 n0 c0, .slice A1 n1 c1, .slice A2 n2 c2, .slice A3 n3 c3, .slice A4 n4 c4, .int .i64 sq] 28)) 3 #[.int .i64 16, .int .i64 96, .int .i64 32, .int .i64 8]
    rwa [show (w.alloc (.cells #[.slice A0 n0 c0, .slice A1 n1 c1, .slice A2 n2 c2, .slice A3 n3 c3, .slice A4 n4 c4, .int .i64 sq] 28)).heap.size = w.heap.size + 1 by simp] at h, hs.step hb⟩
  clear hf hs hb
  go_enter Tryz.func37, Tryz.ntmps37
  go_wp2_with fail
  go_loopw [6] (fun i wr => ∃ k : Nat, i = .int .i64 (k : Int) ∧ k ≤ 32 ∧ Hid (∀ j, j < k → usH (gt14 S.H j) = true) ∧ Hid (Fm14 w S A0 A1 A2 A3 A4 n0 n1 n2 n3 n4 c0 c1 c2 c3 c4 sq wr)) (fun i _ => 32 - (intOf i).toNat)
  case atStart => exact ⟨0, rfl, by omega, Lib.hid (fun j h => by omega), HFM⟩
  case round =>
    obtain ⟨k, rfl, hk, HN, HW⟩ := hrel
    have y0 := HW.out.y.cell 2
    have hsz : w.heap.size < wr.heap.size := HW.out.x.lt
    by_cases hkm : k < 32
    · have i1 : (k : Int) < 32 := by omega
      obtain ⟨b0, hb0⟩ : ∃ b, usC (gt14 S.C k) = b := ⟨_, rfl⟩
      obtain ⟨b1, hb1⟩ : ∃ b, usT (gt14 S.T k) = b := ⟨_, rfl⟩
      obtain ⟨b2, hb2⟩ : ∃ b, usH (gt14 S.H k) = b := ⟨_, rfl⟩
      obtain ⟨b3, hb3⟩ : ∃ b, usL (gt14 S.L k) = b := ⟨_, rfl⟩
      have HUB := Lib.hid hb2
      have HC0 := Lib.hid (fun W (h : Below wr.heap.size wr W) => rCoin14 (.agg #[.slice A0 n0 c0, .slice A1 n1 c1, .slice A2 n2 c2, .slice A3 n3 c3, .slice A4 n4 c4, .int .i64 sq]) S (k : Int) b0 W ⟨A0, A1, A2, A3, A4, n0, n1, n2, n3, n4, c0, c1, c2, c3, c4, sq, rfl, HW.out.s.step h⟩ (by rw [us14_nat]; exact hb0))
      have HC1 := Lib.hid (fun W (h : Below wr.heap.size wr W) => rTicket14 (.agg #[.slice A0 n0 c0, .slice A1 n1 c1, .slice A2 n2 c2, .slice A3 n3 c3, .slice A4 n4 c4, .int .i64 sq]) S (k : Int) b1 W ⟨A0, A1, A2, A3, A4, n0, n1, n2, n3, n4, c0, c1, c2, c3, c4, sq, rfl, HW.out.s.step h⟩ (by rw [us14_nat]; exact hb1))
      have HC2 := Lib.hid (fun W (h : Below wr.heap.size wr W) => rThread14 (.agg #[.slice A0 n0 c0, .slice A1 n1 c1, .slice A2 n2 c2, .slice A3 n3 c3, .slice A4 n4 c4, .int .i64 sq]) S (k : Int) b2 W ⟨A0, A1, A2, A3, A4, n0, n1, n2, n3, n4, c0, c1, c2, c3, c4, sq, rfl, HW.out.s.step h⟩ (by rw [us14_nat]; exact hb2))
      have HC3 := Lib.hid (fun W (h : Below wr.heap.size wr W) => rLock14 (.agg #[.slice A0 n0 c0, .slice A1 n1 c1, .slice A2 n2 c2, .slice A3 n3 c3, .slice A4 n4 c4, .int .i64 sq]) S (k : Int) b3 W ⟨A0, A1, A2, A3, A4, n0, n1, n2, n3, n4, c0, c1, c2, c3, c4, sq, rfl, HW.out.s.step h⟩ (by rw [us14_nat]; exact hb3))
      have x0 := HW.out.x.cell 0
      have x1 := HW.out.x.cell 1
      have x2 := HW.out.x.cell 2
      have x3 := HW.out.x.cell 3
      have x4 := HW.out.x.cell 4
      have x5 := HW.out.x.cell 5
      clear hb0 hb1 hb2 hb3
      go_wp2_with fail
      go_region_held3 (fun u => u.cell? ⟨w.heap.size, 0, none⟩ = some (.slice A0 n0 c0) ∧ u.cell? ⟨w.heap.size, 1, none⟩ = some (.slice A1 n1 c1) ∧ u.cell? ⟨w.heap.size, 2, none⟩ = some (.slice A2 n2 c2) ∧ u.cell? ⟨w.heap.size, 3, none⟩ = some (.slice A3 n3 c3) ∧ u.cell? ⟨w.heap.size, 4, none⟩ = some (.slice A4 n4 c4) ∧ u.cell? ⟨w.heap.size, 5, none⟩ = some (.int .i64 sq) ∧ Below wr.heap.size wr u)
        (first | exact ⟨x0, x1, x2, x3, x4, x5, (Below.refl _ _).drew⟩ | assumption | exact held14 (b1' _ _) (by assumption))
        (first
          | (go_at_call 32; with_reducible refine (HC0.out _ (held14_b (by assumption))).mono ?_; rintro e u0 ⟨rfl, hb0⟩; have hS0 := held14 (w0 := wr) hb0 (by assumption))
          | (go_at_call 33; with_reducible refine (HC1.out _ hS0.2.2.2.2.2.2).mono ?_; rintro e u1 ⟨rfl, hb1⟩; have hS1 := held14 hb1 (by assumption))
          | (go_at_call 34; with_reducible refine (HC2.out _ hS1.2.2.2.2.2.2).mono ?_; rintro e u2 ⟨rfl, hb2⟩; have hS2 := held14 hb2 (by assumption))
          | (go_at_call 35; with_reducible refine (HC3.out _ hS2.2.2.2.2.2.2).mono ?_; rintro e u3 ⟨rfl, hb3⟩; have hS3 := held14 hb3 (by assumption)))
      have hB3 := hS3.2.2.2.2.2.2.alloc hS3.2.2.2.2.2.2.size (.cells #[.bool b0, .bool b1, .bool b2, .bool b3] 4)
      have z0 := (Blk.new u3 4 #[.bool b0, .bool b1, .bool b2, .bool b3]).cell 2
      have HW2 := Lib.hid (HW.out.step hB3)
      clear HC0 HC1 HC2 HC3 hS0 hS1 hS2 hS3 hb0 hb1 hb2 hb3 hB3 x0 x1 x2 x3 x4 x5
      cases b2 with
      | true =>
        have HN2 : Hid (∀ j, j < k + 1 → usH (gt14 S.H j) = true) := Lib.hid (fun j hj => by
          rcases (show j < k ∨ j = k by omega) with h5 | h5
          · exact HN.out j h5
          · rw [h5]; exact HUB.out)
        go_wp2_with fail
        go_roundw
        case rel => exact ⟨k + 1, by go_num, by omega, HN2, HW2⟩
        case measure => simp [intOf]; omega
      | false =>
        have HRE : Hid (r = (k : Int)) := Lib.hid (HF.out.least hkm HUB.out HN.out)
        go_wp2_with fail
        go_ret
        exact ⟨by rw [HRE.out]; rfl, HW2.out.b⟩
    · have HRE : Hid (r = -1) := Lib.hid (HF.out.none (fun j hj => HN.out j (by omega)))
      have i1 : ¬ (k : Int) < 32 := by omega
      go_wp2_with fail
      go_ret
      exact ⟨by rw [HRE.out]; rfl, HW.out.b⟩
set_option maxHeartbeats 4000000 in
theorem rfree14_L (v : Value) (S : Sv14) (r : Int) (w : World) (h : St14 w v S) (hf : Free14 usL S.L 8 r) :
    Calls Tryz.prog 37 #[v, .int .i64 3] w fun e w' => e = .returned (.int .i64 r) ∧ Below w.heap.size w w' := by
  obtain ⟨A0, A1, A2, A3, A4, n0, n1, n2, n3, n4, c0, c1, c2, c3, c4, sq, rfl, hs⟩ := h
  have HF := Lib.hid hf
  have hb := (b1' w (.cells #[.slice A0 n0 c0, .slice A1 n1 c1, .slice A2 n2 c2, .slice A3 n3 c3, .slice A4 n4 c4, .int .i64 sq] 28)).alloc (by simp) (.cells #[.int .i64 16, .int .i64 96, .int .i64 32, .int .i64 8] 3)
  have HFM : Hid (Fm14 w S A0 A1 A2 A3 A4 n0 n1 n2 n3 n4 c0 c1 c2 c3 c4 sq ((w.alloc (.cells #[.slice A0 n0 c0, .slice A1 n1 c1, .slice A2 n2 c2, .slice A3 n3 c3, .slice A4 n4 c4, .int .i64 sq] 28)).alloc (.cells #[.int .i64 16, .int .i64 96, .int .i64 32, .int .i64 8] 3))) := Lib.hid ⟨hb, (Blk.new w _ _).alloc _, by
    have h := Blk.new (w.alloc (.cells #[.slice A0 n0 c0, .slice A1 n1 c1, .slice A2 n2 c2, .slice A3 n3 c3, .slice A4 n4 c4, .int .i64 sq] 28)) 3 #[.int .i64 16, .int .i64 96, .int .i64 32, .int .i64 8]
    rwa [show (w.alloc (.cells #[.slice A0 n0 c0, .slice A1 n1 c1, .slice A2 n2 c2, .slice A3 n3 c3, .slice A4 n4 c4, .int .i64 sq] 28)).heap.size = w.heap.size + 1 by simp] at h, hs.step hb⟩
  clear hf hs hb
  go_enter Tryz.func37, Tryz.ntmps37
  go_wp2_with fail
  go_loopw [6] (fun i wr => ∃ k : Nat, i = .int .i64 (k : Int) ∧ k ≤ 8 ∧ Hid (∀ j, j < k → usL (gt14 S.L j) = true) ∧ Hid (Fm14 w S A0 A1 A2 A3 A4 n0 n1 n2 n3 n4 c0 c1 c2 c3 c4 sq wr)) (fun i _ => 8 - (intOf i).toNat)
  case atStart => exact ⟨0, rfl, by omega, Lib.hid (fun j h => by omega), HFM⟩
  case round =>
    obtain ⟨k, rfl, hk, HN, HW⟩ := hrel
    have y0 := HW.out.y.cell 3
    have hsz : w.heap.size < wr.heap.size := HW.out.x.lt
    by_cases hkm : k < 8
    · have i1 : (k : Int) < 8 := by omega
      obtain ⟨b0, hb0⟩ : ∃ b, usC (gt14 S.C k) = b := ⟨_, rfl⟩
      obtain ⟨b1, hb1⟩ : ∃ b, usT (gt14 S.T k) = b := ⟨_, rfl⟩
      obtain ⟨b2, hb2⟩ : ∃ b, usH (gt14 S.H k) = b := ⟨_, rfl⟩
      obtain ⟨b3, hb3⟩ : ∃ b, usL (gt14 S.L k) = b := ⟨_, rfl⟩
      have HUB := Lib.hid hb3
      have HC0 := Lib.hid (fun W (h : Below wr.heap.size wr W) => rCoin14 (.agg #[.slice A0 n0 c0, .slice A1 n1 c1, .slice A2 n2 c2, .slice A3 n3 c3, .slice A4 n4 c4, .int .i64 sq]) S (k : Int) b0 W ⟨A0, A1, A2, A3, A4, n0, n1, n2, n3, n4, c0, c1, c2, c3, c4, sq, rfl, HW.out.s.step h⟩ (by rw [us14_nat]; exact hb0))
      have HC1 := Lib.hid (fun W (h : Below wr.heap.size wr W) => rTicket14 (.agg #[.slice A0 n0 c0, .slice A1 n1 c1, .slice A2 n2 c2, .slice A3 n3 c3, .slice A4 n4 c4, .int .i64 sq]) S (k : Int) b1 W ⟨A0, A1, A2, A3, A4, n0, n1, n2, n3, n4, c0, c1, c2, c3, c4, sq, rfl, HW.out.s.step h⟩ (by rw [us14_nat]; exact hb1))
      have HC2 := Lib.hid (fun W (h : Below wr.heap.size wr W) => rThread14 (.agg #[.slice A0 n0 c0, .slice A1 n1 c1, .slice A2 n2 c2, .slice A3 n3 c3, .slice A4 n4 c4, .int .i64 sq]) S (k : Int) b2 W ⟨A0, A1, A2, A3, A4, n0, n1, n2, n3, n4, c0, c1, c2, c3, c4, sq, rfl, HW.out.s.step h⟩ (by rw [us14_nat]; exact hb2))
      have HC3 := Lib.hid (fun W (h : Below wr.heap.size wr W) => rLock14 (.agg #[.slice A0 n0 c0, .slice A1 n1 c1, .slice A2 n2 c2, .slice A3 n3 c3, .slice A4 n4 c4, .int .i64 sq]) S (k : Int) b3 W ⟨A0, A1, A2, A3, A4, n0, n1, n2, n3, n4, c0, c1, c2, c3, c4, sq, rfl, HW.out.s.step h⟩ (by rw [us14_nat]; exact hb3))
      have x0 := HW.out.x.cell 0
      have x1 := HW.out.x.cell 1
      have x2 := HW.out.x.cell 2
      have x3 := HW.out.x.cell 3
      have x4 := HW.out.x.cell 4
      have x5 := HW.out.x.cell 5
      clear hb0 hb1 hb2 hb3
      go_wp2_with fail
      go_region_held3 (fun u => u.cell? ⟨w.heap.size, 0, none⟩ = some (.slice A0 n0 c0) ∧ u.cell? ⟨w.heap.size, 1, none⟩ = some (.slice A1 n1 c1) ∧ u.cell? ⟨w.heap.size, 2, none⟩ = some (.slice A2 n2 c2) ∧ u.cell? ⟨w.heap.size, 3, none⟩ = some (.slice A3 n3 c3) ∧ u.cell? ⟨w.heap.size, 4, none⟩ = some (.slice A4 n4 c4) ∧ u.cell? ⟨w.heap.size, 5, none⟩ = some (.int .i64 sq) ∧ Below wr.heap.size wr u)
        (first | exact ⟨x0, x1, x2, x3, x4, x5, (Below.refl _ _).drew⟩ | assumption | exact held14 (b1' _ _) (by assumption))
        (first
          | (go_at_call 32; with_reducible refine (HC0.out _ (held14_b (by assumption))).mono ?_; rintro e u0 ⟨rfl, hb0⟩; have hS0 := held14 (w0 := wr) hb0 (by assumption))
          | (go_at_call 33; with_reducible refine (HC1.out _ hS0.2.2.2.2.2.2).mono ?_; rintro e u1 ⟨rfl, hb1⟩; have hS1 := held14 hb1 (by assumption))
          | (go_at_call 34; with_reducible refine (HC2.out _ hS1.2.2.2.2.2.2).mono ?_; rintro e u2 ⟨rfl, hb2⟩; have hS2 := held14 hb2 (by assumption))
          | (go_at_call 35; with_reducible refine (HC3.out _ hS2.2.2.2.2.2.2).mono ?_; rintro e u3 ⟨rfl, hb3⟩; have hS3 := held14 hb3 (by assumption)))
      have hB3 := hS3.2.2.2.2.2.2.alloc hS3.2.2.2.2.2.2.size (.cells #[.bool b0, .bool b1, .bool b2, .bool b3] 4)
      have z0 := (Blk.new u3 4 #[.bool b0, .bool b1, .bool b2, .bool b3]).cell 3
      have HW2 := Lib.hid (HW.out.step hB3)
      clear HC0 HC1 HC2 HC3 hS0 hS1 hS2 hS3 hb0 hb1 hb2 hb3 hB3 x0 x1 x2 x3 x4 x5
      cases b3 with
      | true =>
        have HN2 : Hid (∀ j, j < k + 1 → usL (gt14 S.L j) = true) := Lib.hid (fun j hj => by
          rcases (show j < k ∨ j = k by omega) with h5 | h5
          · exact HN.out j h5
          · rw [h5]; exact HUB.out)
        go_wp2_with fail
        go_roundw
        case rel => exact ⟨k + 1, by go_num, by omega, HN2, HW2⟩
        case measure => simp [intOf]; omega
      | false =>
        have HRE : Hid (r = (k : Int)) := Lib.hid (HF.out.least hkm HUB.out HN.out)
        go_wp2_with fail
        go_ret
        exact ⟨by rw [HRE.out]; rfl, HW2.out.b⟩
    · have HRE : Hid (r = -1) := Lib.hid (HF.out.none (fun j hj => HN.out j (by omega)))
      have i1 : ¬ (k : Int) < 8 := by omega
      go_wp2_with fail
      go_ret
      exact ⟨by rw [HRE.out]; rfl, HW.out.b⟩
end Go.Proofs.YtfoellhoaflofaaGreat
