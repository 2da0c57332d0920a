/-
  SaidLiveTells, part 11 of 16: what the theorem liveTells_holds reaches.
-/
import Derived.Test.YtllcmjdfgbiijaaLT10
namespace Go.Proofs.Ytllcmjdfgbiijaa
open Go.RowKit
set_option maxRecDepth 100000
def RetTickets17 (w : World) (S : Sv14) (e : Ending) (w' : World) : Prop := ∃ g, e = .returned (.slice (some ⟨g, 0, none⟩) S.T.length S.T.length) ∧ w.heap.size ≤ g ∧ Bb13 w' g S.T.length (cntb17 S) ∧ Below w.heap.size w w'
theorem field17_0 (W : World) (a b : Value) : (Instr.field 45 (.agg #[a, b]) 0).run Try.prog W = .ok a W := by kernel_rfl
set_option maxHeartbeats 4000000 in
theorem tickets17 (v : Value) (S : Sv14) (w : World) (h : St14 w v S) (hf : Fine14 S) : Calls Try.prog 9 #[v] w (RetTickets17 w S) := by
  obtain ⟨A0, A1, A2, A3, A4, n0, n1, n2, n3, n4, c0, c1, c2, c3, c4, sq, rfl, hs⟩ := h
  have hx0 := Bx14.new hs
  have hxn := hx0.step (Below.refl _ _).drew
  obtain ⟨W1, hW1⟩ : ∃ W, w.alloc (.cells #[.slice A0 n0 c0, .slice A1 n1 c1, .slice A2 n2 c2, .slice A3 n3 c3, .slice A4 n4 c4, .int .i64 sq] 28) = W := ⟨_, rfl⟩
  rw [hW1] at hx0 hxn
  have HP : Hid (RetTickets17 w S = fun e w' => ∃ g, e = .returned (.slice (some ⟨g, 0, none⟩) S.T.length S.T.length) ∧ w.heap.size ≤ g ∧ Bb13 w' g S.T.length (cntb17 S) ∧ Below w.heap.size w w') := Lib.hid rfl
  have HX0 := Lib.hid hx0
  have x0 := hx0.x.cell 0
  have x1 := hx0.x.cell 1
  have x2 := hx0.x.cell 2
  have x3 := hx0.x.cell 3
  have x4 := hx0.x.cell 4
  have x5 := hx0.x.cell 5
  have HSM := Lib.hid (fun W (h : Bx14 w S A0 A1 A2 A3 A4 n0 n1 n2 n3 n4 c0 c1 c2 c3 c4 sq W) => summed17 _ S W h.st hf)
  have HFL := field17_0
  clear hs hx0 hxn hf
  go_enter Try.func9, Try.ntmps9
  go_wp2_with fail
  refine (HSM.out _ HX0.out).mono ?_
  rintro e w3 ⟨g1, g2, rfl, h1, h2, h3, h4, hb3⟩
  have HB := Lib.hid (HX0.out.b.trans (hb3.mono HX0.out.b.size))
  have HG : Hid (w.heap.size ≤ g1) := Lib.hid (by have := HX0.out.b.size; omega)
  have HR := Lib.hid h3
  obtain ⟨m1, hm1⟩ : ∃ m, S.T.length = m := ⟨_, rfl⟩
  obtain ⟨m0, hm0⟩ : ∃ m, S.C.length = m := ⟨_, rfl⟩
  clear h1 h2 h3 h4 hb3 HX0 HSM x0 x1 x2 x3 x4 x5 hW1 hm1 hm0
  go_wp2_with fail
  go_ret
  rw [HP.out]
  exact ⟨g1, rfl, HG.out, HR.out, HB.out⟩
def RetAmounts17 (w : World) (S : Sv14) (e : Ending) (w' : World) : Prop := ∃ g, e = .returned (.slice (some ⟨g, 0, none⟩) S.C.length S.C.length) ∧ w.heap.size ≤ g ∧ Ib13 w' g S.C.length (fun x => amn17 S ((x : Nat) : Int)) ∧ Below w.heap.size w w'
theorem field17_1 (W : World) (a b : Value) : (Instr.field 45 (.agg #[a, b]) 1).run Try.prog W = .ok b W := by kernel_rfl
set_option maxHeartbeats 4000000 in
theorem amounts17 (v : Value) (S : Sv14) (w : World) (h : St14 w v S) (hf : Fine14 S) : Calls Try.prog 10 #[v] w (RetAmounts17 w S) := by
  obtain ⟨A0, A1, A2, A3, A4, n0, n1, n2, n3, n4, c0, c1, c2, c3, c4, sq, rfl, hs⟩ := h
  have hx0 := Bx14.new hs
  have hxn := hx0.step (Below.refl _ _).drew
  obtain ⟨W1, hW1⟩ : ∃ W, w.alloc (.cells #[.slice A0 n0 c0, .slice A1 n1 c1, .slice A2 n2 c2, .slice A3 n3 c3, .slice A4 n4 c4, .int .i64 sq] 28) = W := ⟨_, rfl⟩
  rw [hW1] at hx0 hxn
  have HP : Hid (RetAmounts17 w S = fun e w' => ∃ g, e = .returned (.slice (some ⟨g, 0, none⟩) S.C.length S.C.length) ∧ w.heap.size ≤ g ∧ Ib13 w' g S.C.length (fun x => amn17 S ((x : Nat) : Int)) ∧ Below w.heap.size w w') := Lib.hid rfl
  have HX0 := Lib.hid hx0
  have x0 := hx0.x.cell 0
  have x1 := hx0.x.cell 1
  have x2 := hx0.x.cell 2
  have x3 := hx0.x.cell 3
  have x4 := hx0.x.cell 4
  have x5 := hx0.x.cell 5
  have HSM := Lib.hid (fun W (h : Bx14 w S A0 A1 A2 A3 A4 n0 n1 n2 n3 n4 c0 c1 c2 c3 c4 sq W) => summed17 _ S W h.st hf)
  have HFL := field17_1
  clear hs hx0 hxn hf
  go_enter Try.func10, Try.ntmps10
  go_wp2_with fail
  refine (HSM.out _ HX0.out).mono ?_
  rintro e w3 ⟨g1, g2, rfl, h1, h2, h3, h4, hb3⟩
  have HB := Lib.hid (HX0.out.b.trans (hb3.mono HX0.out.b.size))
  have HG : Hid (w.heap.size ≤ g2) := Lib.hid (by have := HX0.out.b.size; omega)
  have HR := Lib.hid h4
  obtain ⟨m1, hm1⟩ : ∃ m, S.T.length = m := ⟨_, rfl⟩
  obtain ⟨m0, hm0⟩ : ∃ m, S.C.length = m := ⟨_, rfl⟩
  clear h1 h2 h3 h4 hb3 HX0 HSM x0 x1 x2 x3 x4 x5 hW1 hm1 hm0
  go_wp2_with fail
  go_ret
  rw [HP.out]
  exact ⟨g2, rfl, HG.out, HR.out, HB.out⟩
set_option maxHeartbeats 4000000 in
theorem awakes17 (v : Value) (S : Sv14) (c : Int) (w : World) (h : St14 w v S) (hf : Fine14 S) : Calls Try.prog 15 #[v, .int .i64 c] w fun e w' => e = .returned (.bool (aw17 S.C.length (fun x => amn17 S ((x : Nat) : Int)) c)) ∧ Below w.heap.size w w' := by
  obtain ⟨A0, A1, A2, A3, A4, n0, n1, n2, n3, n4, c0, c1, c2, c3, c4, sq, rfl, hs⟩ := h
  have hx0 := Bx14.new hs
  have hxn := hx0.step (Below.refl _ _).drew
  obtain ⟨W1, hW1⟩ : ∃ W, w.alloc (.cells #[.slice A0 n0 c0, .slice A1 n1 c1, .slice A2 n2 c2, .slice A3 n3 c3, .slice A4 n4 c4, .int .i64 sq] 28) = W := ⟨_, rfl⟩
  rw [hW1] at hx0 hxn
  have HX0 := Lib.hid hx0
  have x0 := hx0.x.cell 0
  have x1 := hx0.x.cell 1
  have x2 := hx0.x.cell 2
  have x3 := hx0.x.cell 3
  have x4 := hx0.x.cell 4
  have x5 := hx0.x.cell 5
  have HSM := Lib.hid (fun W (h : Bx14 w S A0 A1 A2 A3 A4 n0 n1 n2 n3 n4 c0 c1 c2 c3 c4 sq W) => summed17 _ S W h.st hf)
  clear hs hx0 hxn hf
  go_enter Try.func15, Try.ntmps15
  go_wp2_with fail
  refine (HSM.out _ HX0.out).mono ?_
  rintro e w3 ⟨g1, g2, rfl, h1, h2, h3, h4, hb3⟩
  have HB := Lib.hid (HX0.out.b.trans (hb3.mono HX0.out.b.size))
  have HA := Lib.hid (awake17 (some ⟨g1, 0, none⟩) S.T.length S.T.length g2 S.C.length S.C.length _ c w3 h4 _ rfl)
  clear h1 h2 h3 h4 hb3 HX0 HSM x0 x1 x2 x3 x4 x5 hW1
  go_wp2_with fail
  refine HA.out.mono ?_
  rintro e w4 ⟨rfl, hb4⟩
  have HB4 := Lib.hid (HB.out.trans (hb4.mono HB.out.size))
  clear hb4 HA
  go_wp2_with fail
  go_ret
  exact ⟨rfl, HB4.out⟩
/-- What Threads says. -/
def RetThreads17 (w : World) (S : Sv14) (e : Ending) (w' : World) : Prop := ∃ g, e = .returned (.slice (some ⟨g, 0, none⟩) S.H.length S.H.length) ∧ w.heap.size ≤ g ∧ Bb13 w' g S.H.length (fun i => livb17 S ((i : Nat) : Int)) ∧ Below w.heap.size w w'
/-- Between two rounds of Threads. -/
structure Th17 (w : World) (S : Sv14) (A0 A1 A2 A3 A4 : Option Addr) (n0 n1 n2 n3 n4 c0 c1 c2 c3 c4 : Nat) (sq : Int) (g : Nat) (M : Nat → Bool) (W : World) : Prop where
  b : By16 w S A0 A1 A2 A3 A4 n0 n1 n2 n3 n4 c0 c1 c2 c3 c4 sq W
  r : Bb13 W g n2 M
theorem Th17.step {w : World} {S : Sv14} {A0 A1 A2 A3 A4 : Option Addr} {n0 n1 n2 n3 n4 c0 c1 c2 c3 c4 : Nat} {sq : Int} {g : Nat} {M : Nat → Bool} {W W' : World} (h : Th17 w S A0 A1 A2 A3 A4 n0 n1 n2 n3 n4 c0 c1 c2 c3 c4 sq g M W) (hb : Below W.heap.size W W') : Th17 w S A0 A1 A2 A3 A4 n0 n1 n2 n3 n4 c0 c1 c2 c3 c4 sq g M W' := ⟨h.b.step hb, h.r.step hb⟩
theorem Th17.put {w : World} {S : Sv14} {A0 A1 A2 A3 A4 : Option Addr} {n0 n1 n2 n3 n4 c0 c1 c2 c3 c4 : Nat} {sq : Int} {g : Nat} {M : Nat → Bool} {W : World} (h : Th17 w S A0 A1 A2 A3 A4 n0 n1 n2 n3 n4 c0 c1 c2 c3 c4 sq g M W) (hg : w.heap.size < g) {j : Nat} (hj : j < n2) (u : Bool) : Th17 w S A0 A1 A2 A3 A4 n0 n1 n2 n3 n4 c0 c1 c2 c3 c4 sq g (upd M j u) (W.setCell ⟨g, j, none⟩ (.bool u)) :=
  ⟨h.b.low ((Below.refl _ _).setCell (by show w.heap.size + 1 ≤ g; omega) _), h.r.put hj u⟩
theorem Bb13.congr17 {w : World} {g n : Nat} {m m' : Nat → Bool} (q : Bb13 w g n m) (hh : ∀ j, j < n → m j = m' j) : Bb13 w g n m' := by
  obtain ⟨cs, h1, h2, h3⟩ := q
  exact ⟨cs, h1, h2, fun j hj => by rw [h3 j hj, hh j hj]⟩
theorem Bb13.low17 {w w' : World} {g n L : Nat} {m : Nat → Bool} (q : Bb13 w g n m) (hb : Below L w w') (hg : g < L) : Bb13 w' g n m := by
  obtain ⟨cs, h1, h2⟩ := q
  exact ⟨cs, h1.below hb hg, h2⟩
set_option maxHeartbeats 4000000 in
theorem threads17 (v : Value) (S : Sv14) (w : World) (h : St14 w v S) (hf : Fine14 S) : Calls Try.prog 11 #[v] w (RetThreads17 w S) := by
  obtain ⟨A0, A1, A2, A3, A4, n0, n1, n2, n3, n4, c0, c1, c2, c3, c4, sq, rfl, hs⟩ := h
  have hx0 := Bx14.new hs
  have hxn := hx0.step (Below.refl _ _).drew
  obtain ⟨W1, hW1⟩ : ∃ W, w.alloc (.cells #[.slice A0 n0 c0, .slice A1 n1 c1, .slice A2 n2 c2, .slice A3 n3 c3, .slice A4 n4 c4, .int .i64 sq] 28) = W := ⟨_, rfl⟩
  rw [hW1] at hx0 hxn
  have HP : Hid (RetThreads17 w S = fun e w' => ∃ g, e = .returned (.slice (some ⟨g, 0, none⟩) n2 n2) ∧ w.heap.size ≤ g ∧ Bb13 w' g n2 (fun i => livb17 S ((i : Nat) : Int)) ∧ Below w.heap.size w w') := Lib.hid (by unfold RetThreads17; rw [hs.l2])
  have hz1 : W1.heap.size = w.heap.size + 1 := by rw [← hW1]; simp
  have hm2 := hs.m2
  have hmk := make_bools13 n2 (by omega)
  have hbz := b1' W1 (.cells (madeCells #[.bool false] n2) 4)
  have hr2 := made_b17 W1 n2
  rw [hz1] at hr2
  have hy : By16 w S A0 A1 A2 A3 A4 n0 n1 n2 n3 n4 c0 c1 c2 c3 c4 sq W1 := ⟨hx0, hs⟩
  have HT0 : Hid (Th17 w S A0 A1 A2 A3 A4 n0 n1 n2 n3 n4 c0 c1 c2 c3 c4 sq (w.heap.size + 1) (fun _ => false) (W1.alloc (.cells (madeCells #[.bool false] n2) 4))) := Lib.hid ⟨hy.step hbz, hr2⟩
  have HLV := Lib.hid (fun (i : Int) W (h : Bx14 w S A0 A1 A2 A3 A4 n0 n1 n2 n3 n4 c0 c1 c2 c3 c4 sq W) => lives17 _ S i W h.st hf)
  have x0 := hx0.x.cell 0
  have x1 := hx0.x.cell 1
  have x2 := hx0.x.cell 2
  have x3 := hx0.x.cell 3
  have x4 := hx0.x.cell 4
  have x5 := hx0.x.cell 5
  clear hs hx0 hxn hf hy hr2 hbz
  go_enter Try.func11, Try.ntmps11
  go_wp2_with fail
  go_loopw [11] (fun i wr => ∃ (k : Nat) (M : Nat → Bool), i = .int .i64 (k : Int) ∧ k ≤ n2 ∧ Hid (∀ j, j < k → M j = livb17 S ((j : Nat) : Int)) ∧ Hid (Th17 w S A0 A1 A2 A3 A4 n0 n1 n2 n3 n4 c0 c1 c2 c3 c4 sq (w.heap.size + 1) M wr)) (fun i _ => n2 - (intOf i).toNat)
  case atStart => exact ⟨0, _, rfl, by omega, Lib.hid (fun j hj => by omega), HT0⟩
  case round =>
    clear HT0 x0 x1 x2 x3 x4 x5 hmk
    obtain ⟨k, M, rfl, hk, HM, HT⟩ := hrel
    by_cases hkn : k < n2
    · have i0 : (0 : Int) ≤ (k : Int) := by omega
      have i1 : (k : Int) < (n2 : Int) := by omega
      have HLK := Lib.hid (HLV.out (k : Int) wr HT.out.b.b)
      obtain ⟨b, hb⟩ : ∃ b, livb17 S (k : Int) = b := ⟨_, rfl⟩
      rw [hb] at HLK
      have y0 := HT.out.b.b.x.cell 0
      have y1 := HT.out.b.b.x.cell 1
      have y2 := HT.out.b.b.x.cell 2
      have y3 := HT.out.b.b.x.cell 3
      have y4 := HT.out.b.b.x.cell 4
      have y5 := HT.out.b.b.x.cell 5
      have HMN : Hid (∀ j, j < k + 1 → upd M k b j = livb17 S ((j : Nat) : Int)) := Lib.hid (fun j hj => by
        by_cases e : j = k
        · subst e; rw [upd_at, hb]
        · rw [upd_far _ _ e]; exact HM.out j (by omega))
      clear hb
      go_wp2_with fail
      refine HLK.out.mono ?_
      rintro e w4 ⟨rfl, hb4⟩
      have h4 := HT.out.step hb4
      have f0 := (h4.r.cells hkn).2
      have g0 := (h4.r.cells hkn).1
      have HN := Lib.hid (h4.put (by omega) hkn b)
      clear HLK hb4 h4 y0 y1 y2 y3 y4 y5
      go_wp2_with fail
      go_roundw
      case rel => exact ⟨k + 1, _, by go_num, by omega, HMN, HN⟩
      case measure => simp [intOf]; omega
    · obtain rfl : k = n2 := by omega
      have i1 : ¬ (k : Int) < (k : Int) := by omega
      go_wp2_with fail
      go_ret
      rw [HP.out]
      exact ⟨_, rfl, by omega, HT.out.r.congr17 HM.out, HT.out.b.b.b⟩
/-- The used tickets that do not count. -/
noncomputable def dea17 (S : Sv14) : List Nat := all11 (fun j => (gt14 S.T j).u && !cntb17 S j) S.T.length
set_option maxHeartbeats 4000000 in
theorem dead17 (v : Value) (S : Sv14) (w : World) (h : St14 w v S) (hf : Fine14 S) : Calls Try.prog 18 #[v] w (RetR15 w (dea17 S)) := by
  obtain ⟨A0, A1, A2, A3, A4, n0, n1, n2, n3, n4, c0, c1, c2, c3, c4, sq, rfl, hs⟩ := h
  have hx0 := Bx14.new hs
  have hxn := hx0.step (Below.refl _ _).drew
  obtain ⟨W1, hW1⟩ : ∃ W, w.alloc (.cells #[.slice A0 n0 c0, .slice A1 n1 c1, .slice A2 n2 c2, .slice A3 n3 c3, .slice A4 n4 c4, .int .i64 sq] 28) = W := ⟨_, rfl⟩
  rw [hW1] at hx0 hxn
  have HP : Hid (RetR15 w (dea17 S) = fun e w' => ∃ A c, e = .returned (.slice A (all11 (fun j => (gt14 S.T j).u && !cntb17 S j) n1).length c) ∧ Rd w' w'.heap.size A (all11 (fun j => (gt14 S.T j).u && !cntb17 S j) n1) ∧ Below w.heap.size w w') := Lib.hid (by rw [← hs.l1]; rfl)
  obtain ⟨D, hD⟩ : ∃ D, (fun j => (gt14 S.T j).u && !cntb17 S j) = D := ⟨_, rfl⟩
  rw [hD] at HP
  have HDJ : Hid (∀ j, D j = ((gt14 S.T j).u && !cntb17 S j)) := Lib.hid (fun j => by rw [← hD])
  have HX0 := Lib.hid hx0
  have x0 := hx0.x.cell 0
  have x1 := hx0.x.cell 1
  have x2 := hx0.x.cell 2
  have x3 := hx0.x.cell 3
  have x4 := hx0.x.cell 4
  have x5 := hx0.x.cell 5
  have HTK := Lib.hid (fun W (h : Bx14 w S A0 A1 A2 A3 A4 n0 n1 n2 n3 n4 c0 c1 c2 c3 c4 sq W) => tickets17 _ S W h.st hf)
  have HS := Lib.hid hs
  have HL1 := Lib.hid hs.l1
  have hm1 := hs.m1
  clear hs hx0 hxn hf hD
  go_enter Try.func18, Try.ntmps18
  go_wp2_with fail
  refine (HTK.out _ HX0.out).mono ?_
  rintro e w3 ⟨g, rfl, hg, hr, hb3⟩
  rw [HL1.out] at hr ⊢
  have hx3 := HX0.out.step hb3
  have HG : Hid (g < w3.heap.size) := Lib.hid hr.lt17
  have HT0 : Hid (Ti15 w w3.heap.size S A0 A1 A2 A3 A4 n0 n1 n2 n3 n4 c0 c1 c2 c3 c4 sq none 0 0 (all11 D 0) w3) := Lib.hid (Ti15.start HS.out hx3 (by have := hx3.x.lt; omega) (Nat.le_refl _))
  have HR0 := Lib.hid hr
  clear HX0 hr hb3 hx3 hg HTK x0 x1 x2 x3 x4 x5 hW1
  go_wp2_with fail
  go_loopw [2, 8] (fun v i wr => ∃ (k m cc : Nat) (A : Option Addr), v = .slice A m cc ∧ i = .int .i64 (k : Int) ∧ k ≤ n1 ∧ Hid (Ti15 w w3.heap.size S A0 A1 A2 A3 A4 n0 n1 n2 n3 n4 c0 c1 c2 c3 c4 sq A m cc (all11 D k) wr) ∧ Hid (Bb13 wr g n1 (cntb17 S))) (fun _ i _ => n1 - (intOf i).toNat)
  case atStart => exact ⟨0, 0, 0, none, rfl, rfl, by omega, HT0, HR0⟩
  case round =>
    clear HT0 HR0
    obtain ⟨k, m, cc, A, rfl, rfl, hk, HW, HR⟩ := hrel
    by_cases hkn : k < n1
    · obtain ⟨a, of, hA, hab, hq⟩ := Lq.at_ len14T (by omega) HW.out.b.s.r1 (show k < S.T.length by have := HL1.out; omega)
      have t1 : wr.cell? ⟨w.heap.size, 1, none⟩ = some (.slice (some ⟨a, of, none⟩) n1 c1) := by rw [← hA]; exact HW.out.b.x.cell 1
      have e0 : wr.cell? ⟨a, of + k * 6, none⟩ = some (.bool (gt14 S.T k).u) := hq 0 _ rfl
      have g0 := (HR.out.cells hkn).1
      have hmk : m ≤ k := by rw [← HW.out.l]; exact all11_len D k
      have HNX : Hid (all11 D (k + 1) = all11 D k ++ if ((gt14 S.T k).u && !cntb17 S k) then [k] else []) := Lib.hid (by rw [all11_next, HDJ.out])
      obtain ⟨xu, hxu⟩ : ∃ b, (gt14 S.T k).u = b := ⟨_, rfl⟩
      obtain ⟨cb, hcb⟩ : ∃ b, cntb17 S k = b := ⟨_, rfl⟩
      rw [hxu] at e0 HNX
      rw [hcb] at g0 HNX
      have i0 : (0 : Int) ≤ (k : Int) := by omega
      have i1 : (k : Int) < (n1 : Int) := by omega
      clear hxu hcb hq hab hA
      by_cases hd : xu = true ∧ cb = false
      · obtain ⟨rfl, rfl⟩ := hd
        obtain ⟨Az, cz, W2, hrun, har, hb2⟩ := HW.out.push k (by omega)
        have HRUN := Lib.hid hrun
        have HAR := Lib.hid (har.congr (ys := all11 D (k + 1)) (by rw [HNX.out]; rfl))
        have HR2 := Lib.hid (HR.out.low17 hb2 HG.out)
        clear hrun har hb2 HW HR
        go_wp2_with (at_builtin; go_loud (refine wpList_append_14 _ rfl (.tmp 23) (.tmp 25) 26 rfl _ _ _ _ rfl rfl HRUN.out ?_))
        go_roundw
        case rel => exact ⟨k + 1, m + 1, cz, Az, rfl, by go_num, by omega, HAR, HR2⟩
        case measure => simp [intOf]; omega
      · have HN : Hid (all11 D (k + 1) = all11 D k) := Lib.hid (by
          rw [HNX.out, if_neg, List.append_nil]
          simpa using hd)
        have HAR := Lib.hid (HW.out.congr HN.out.symm)
        cases xu with
        | false =>
          clear hd HW HNX
          go_wp2_with fail
          go_roundw
          case rel => exact ⟨k + 1, m, cc, A, rfl, by go_num, by omega, HAR, HR⟩
          case measure => simp [intOf]; omega
        | true =>
          obtain rfl : cb = true := by simpa using hd
          clear hd HW HNX
          go_wp2_with fail
          go_roundw
          case rel => exact ⟨k + 1, m, cc, A, rfl, by go_num, by omega, HAR, HR⟩
          case measure => simp [intOf]; omega
    · obtain rfl : k = n1 := by omega
      have HL := Lib.hid HW.out.l
      have h1 : ¬ (k : Int) < (k : Int) := by omega
      go_wp2_with fail
      go_ret
      rw [HP.out]
      exact ⟨A, cc, by rw [HL.out]; rfl, HW.out.rd, HW.out.b.b⟩
end Go.Proofs.Ytllcmjdfgbiijaa
namespace Go.Proofs.Ytllcmjdfgbiijaa
open Go.RowKit
set_option maxRecDepth 100000
theorem us14_in {α : Type} [Inhabited α] {us : α → Bool} (hus : us default = false) {xs : List α} {i : Int} (h : us14 us xs i = true) : ∃ q : Nat, i = (q : Int) ∧ q < xs.length ∧ us (gt14 xs q) = true ∧ at14 us xs i = gt14 xs q := by
  have h0 : 0 ≤ i ∧ i < (xs.length : Int) := Classical.byContradiction (fun hn => by rw [us14_off hus hn] at h; cases h)
  obtain ⟨q, rfl⟩ : ∃ q : Nat, i = (q : Int) := ⟨i.toNat, by omega⟩
  have hu : us (gt14 xs q) = true := by have h2 := h; rwa [us14_nat] at h2
  exact ⟨q, rfl, by omega, hu, at14_nat hu⟩
set_option maxHeartbeats 4000000 in
theorem ris14 (v : Value) (S : Sv14) (i st wh : Int) (b : Bool) (w : World) (h : St14 w v S) (hbt : b = true ↔ us14 usH S.H i = true ∧ (at14 usH S.H i).s = st ∧ (at14 usH S.H i).f = wh) :
    Calls Try.prog 34 #[v, .int .i64 i, .int .i64 st, .int .i64 wh] w fun e w' => e = .returned (.bool b) ∧ Below w.heap.size w w' := by
  obtain ⟨A0, A1, A2, A3, A4, n0, n1, n2, n3, n4, c0, c1, c2, c3, c4, sq, rfl, hs⟩ := h
  have HX0 := Lib.hid (Bx14.new hs)
  obtain ⟨W1, hW1⟩ : ∃ W, w.alloc (.cells #[.slice A0 n0 c0, .slice A1 n1 c1, .slice A2 n2 c2, .slice A3 n3 c3, .slice A4 n4 c4, .int .i64 sq] 28) = W := ⟨_, rfl⟩
  rw [hW1] at HX0
  have q0 := HX0.out.x.cell 0
  have q1 := HX0.out.x.cell 1
  have q2 := HX0.out.x.cell 2
  have q3 := HX0.out.x.cell 3
  have q4 := HX0.out.x.cell 4
  have q5 := HX0.out.x.cell 5
  obtain ⟨bu, hbu⟩ : ∃ y, us14 usH S.H i = y := ⟨_, rfl⟩
  have HTH := Lib.hid (rThread14 _ S i bu W1 HX0.out.st hbu)
  cases bu with
  | false =>
    obtain rfl : b = false := bool14_of hbt (fun h => by have := h.1; rw [hbu] at this; cases this)
    clear hbt hbu hs
    go_enter Try.func34, Try.ntmps34
    go_wp2_with fail
    refine HTH.out.mono ?_
    rintro e u ⟨rfl, hb⟩
    have HB2 := Lib.hid (HX0.out.step hb).b
    clear HTH hb
    go_wp2_with fail
    go_ret
    exact ⟨rfl, HB2.out⟩
  | true =>
    obtain ⟨q, rfl, hq, _, hat⟩ := us14_in def14H hbu
    rw [hat] at hbt
    obtain ⟨x, hx⟩ : ∃ x, gt14 S.H q = x := ⟨_, rfl⟩
    rw [hx] at hbt
    obtain ⟨xz, xf, xc, xq, xu⟩ := x
    have hb2 : b = true ↔ xz = st ∧ xf = wh := by rw [hbt]; simp [hbu]
    have HE : Hid (b = (xz == st && xf == wh)) := Lib.hid (by rw [Bool.eq_iff_iff, hb2]; simp)
    have HQ := Lib.hid hq
    have HXE := Lib.hid hx
    have hqn : q < n2 := by rw [← hs.l2]; exact hq
    clear hbt hbu hat hb2 hx hq hs
    go_enter Try.func34, Try.ntmps34
    go_wp2_with fail
    refine HTH.out.mono ?_
    rintro e u ⟨rfl, hb⟩
    have HX2 := Lib.hid (HX0.out.step hb)
    have hB2 := HX2.out.b
    have HB2 := Lib.hid hB2
    obtain ⟨a, of, hA, hab, hq⟩ := Lq.at_ len14H (by omega) HX2.out.s.r2 HQ.out
    subst hA
    rw [HXE.out] at hq
    have e0 : u.cell? ⟨a, of + q * 5, none⟩ = some (.int .i64 xz) := hq 0 _ rfl
    have e1 : u.cell? ⟨a, of + q * 5 + 1, none⟩ = some (.int .i64 xf) := hq 1 _ rfl
    have i0 : (0 : Int) ≤ (q : Int) := by omega
    have i1 : (q : Int) < (n2 : Int) := by omega
    have y2 := HX2.out.x.cell 2
    clear HTH hb hB2 hq hab
    by_cases hz : xz = st
    · subst hz
      go_wp2_with fail
      go_ret
      exact ⟨by rw [HE.out]; simp, HB2.out⟩
    · have HF : Hid ((xz == st) = false) := Lib.hid (by simpa using hz)
      go_wp2_with fail
      go_ret
      exact ⟨by rw [HE.out, HF.out]; first | rfl | (show Ending.returned (Value.bool (xz == st)) = _; rw [HF.out]; rfl), HB2.out⟩
set_option maxHeartbeats 4000000 in
theorem rqueues14 (v : Value) (S : Sv14) (k : Nat) (xz xf xc xq xu : Int) (b : Bool) (w : World) (h : St14 w v S) (hk : k < S.H.length) (hx : gt14 S.H k = ⟨xz, xf, xc, xq, xu⟩) (hok : xz = 4 → us14 usH S.H xf = true) (hbt : b = true ↔ Queues14 S k ⟨xz, xf, xc, xq, xu⟩) :
    Calls Try.prog 35 #[v, .int .i64 (k : Int)] w fun e w' => e = .returned (.bool b) ∧ Below w.heap.size w w' := by
  obtain ⟨A0, A1, A2, A3, A4, n0, n1, n2, n3, n4, c0, c1, c2, c3, c4, sq, rfl, hs⟩ := h
  rw [hs.l2] at hk
  have hb : Below w.heap.size w (w.alloc (.cells #[.slice A0 n0 c0, .slice A1 n1 c1, .slice A2 n2 c2, .slice A3 n3 c3, .slice A4 n4 c4, .int .i64 sq] 28)) := (b1' w _)
  have hk0 : Blk (w.alloc (.cells #[.slice A0 n0 c0, .slice A1 n1 c1, .slice A2 n2 c2, .slice A3 n3 c3, .slice A4 n4 c4, .int .i64 sq] 28)) (w.heap.size) 28 #[.slice A0 n0 c0, .slice A1 n1 c1, .slice A2 n2 c2, .slice A3 n3 c3, .slice A4 n4 c4, .int .i64 sq] := by
    have h := (Blk.new w 28 #[.slice A0 n0 c0, .slice A1 n1 c1, .slice A2 n2 c2, .slice A3 n3 c3, .slice A4 n4 c4, .int .i64 sq])
    exact h
  have hs0 := hs.step hb
  have hz0 : (w.alloc (.cells #[.slice A0 n0 c0, .slice A1 n1 c1, .slice A2 n2 c2, .slice A3 n3 c3, .slice A4 n4 c4, .int .i64 sq] 28)).heap.size = w.heap.size + 1 := by simp
  obtain ⟨W0, hW0⟩ : ∃ W, (w.alloc (.cells #[.slice A0 n0 c0, .slice A1 n1 c1, .slice A2 n2 c2, .slice A3 n3 c3, .slice A4 n4 c4, .int .i64 sq] 28)) = W := ⟨_, rfl⟩
  rw [hW0] at hb hs0 hz0 hk0
  have hkl : k < S.H.length := by rw [hs0.l2]; exact hk
  obtain ⟨a, of, hA, hab, hq⟩ := Lq.at_ len14H (by omega) hs0.r2 hkl
  subst hA
  rw [hx] at hq
  have e0 : W0.cell? ⟨a, of + k * 5, none⟩ = some (.int .i64 xz) := hq 0 _ rfl
  have e1 : W0.cell? ⟨a, of + k * 5 + 1, none⟩ = some (.int .i64 xf) := hq 1 _ rfl
  have e2 : W0.cell? ⟨a, of + k * 5 + 2, none⟩ = some (.int .i64 xc) := hq 2 _ rfl
  have e3 : W0.cell? ⟨a, of + k * 5 + 3, none⟩ = some (.int .i64 xq) := hq 3 _ rfl
  have e4 : W0.cell? ⟨a, of + k * 5 + 4, none⟩ = some (.int .i64 xu) := hq 4 _ rfl
  have i0 : (0 : Int) ≤ (k : Int) := by omega
  have i1 : (k : Int) < (n2 : Int) := by omega
  have q2 := hk0.cell 2
  have hb2 := hb.alloc hb.size (.cells #[.int .i64 xz, .int .i64 xf, .int .i64 xc, .int .i64 xq, .int .i64 xu] 43)
  have hkx := Blk.new W0 43 #[.int .i64 xz, .int .i64 xf, .int .i64 xc, .int .i64 xq, .int .i64 xu]
  have f0 := hkx.cell 0
  have f1 := hkx.cell 1
  have f2 := hkx.cell 2
  have f3 := hkx.cell 3
  have f4 := hkx.cell 4
  have hkb := hk0.alloc (.cells #[.int .i64 xz, .int .i64 xf, .int .i64 xc, .int .i64 xq, .int .i64 xu] 43)
  have p2 := hkb.cell 2
  have HS := Lib.hid (hs0.step (b1' W0 (.cells #[.int .i64 xz, .int .i64 xf, .int .i64 xc, .int .i64 xq, .int .i64 xu] 43)))
  have HB2 := Lib.hid hb2
  by_cases z4 : xz = 4
  · subst z4
    obtain ⟨q, rfl, hql, _, hat⟩ := us14_in def14H (hok rfl)
    obtain ⟨y, hy⟩ : ∃ y, gt14 S.H q = y := ⟨_, rfl⟩
    obtain ⟨yz, yf, yc, yq, yu⟩ := y
    have HE : Hid (b = (yc != (k : Int))) := Lib.hid (by rw [Bool.eq_iff_iff, hbt]; simp [Queues14, hat, hy])
    obtain ⟨a2, of2, hA2, _, hq2⟩ := Lq.at_ len14H (by omega) HS.out.r2 hql
    injection hA2 with hA2
    injection hA2 with ha2 ho2
    subst ha2 ho2
    rw [hy] at hq2
    have g2 : (W0.alloc (.cells #[.int .i64 4, .int .i64 (q : Int), .int .i64 xc, .int .i64 xq, .int .i64 xu] 43)).cell? ⟨a, of + q * 5 + 2, none⟩ = some (.int .i64 yc) := hq2 2 _ rfl
    have j0 : (0 : Int) ≤ (q : Int) := by omega
    have j1 : (q : Int) < (n2 : Int) := by rw [HS.out.l2] at hql; omega
    clear hs hs0 hb hb2 hk0 hkb hkx hq hx hkl hz0 hbt hok hat hy hq2 hab hql
    go_enter Try.func35, Try.ntmps35
    go_wp2_with fail
    go_ret
    exact ⟨by rw [HE.out]; rfl, HB2.out⟩
  · have HE : Hid (b = (xz == 6)) := Lib.hid (by rw [Bool.eq_iff_iff, hbt]; simp [Queues14, z4])
    clear hs hs0 hb hb2 hk0 hkb hkx hq hx hkl hz0 hbt hok hab
    go_enter Try.func35, Try.ntmps35
    go_wp2_with fail
    go_ret
    exact ⟨by rw [HE.out]; rfl, HB2.out⟩
theorem info14B : (Try.prog.info? 53).map (fun i => (i.zero, i.size, i.bytes)) = some (some (.agg #[.int .i64 0, .int .i64 0]), 2, 16) := by kernel_rfl
/-- Between two rounds: the row of arrows so far. -/
structure Br14 (w : World) (S : Sv14) (A0 A1 A2 A3 A4 : Option Addr) (n0 n1 n2 n3 n4 c0 c1 c2 c3 c4 : Nat) (sq : Int) (A : Option Addr) (m c : Nat) (l : List (Int × Int)) (W : World) : Prop where
  b : Bx14 w S A0 A1 A2 A3 A4 n0 n1 n2 n3 n4 c0 c1 c2 c3 c4 sq W
  o : W.ownsRow (w.heap.size + 1) 53 2 (.slice A m c) m (acs l)
  l : l.length = m
theorem Br14.step {w : World} {S : Sv14} {A0 A1 A2 A3 A4 : Option Addr} {n0 n1 n2 n3 n4 c0 c1 c2 c3 c4 : Nat} {sq : Int} {A : Option Addr} {m c : Nat} {l : List (Int × Int)} {W W' : World} (h : Br14 w S A0 A1 A2 A3 A4 n0 n1 n2 n3 n4 c0 c1 c2 c3 c4 sq A m c l W) (hb : Below W.heap.size W W') : Br14 w S A0 A1 A2 A3 A4 n0 n1 n2 n3 n4 c0 c1 c2 c3 c4 sq A m c l W' :=
  ⟨h.b.step hb, own12_keep2 h.o hb, h.l⟩
theorem Br14.congr {w : World} {S : Sv14} {A0 A1 A2 A3 A4 : Option Addr} {n0 n1 n2 n3 n4 c0 c1 c2 c3 c4 : Nat} {sq : Int} {A : Option Addr} {m c : Nat} {l l2 : List (Int × Int)} {W : World} (h : Br14 w S A0 A1 A2 A3 A4 n0 n1 n2 n3 n4 c0 c1 c2 c3 c4 sq A m c l W) (e : l = l2) : Br14 w S A0 A1 A2 A3 A4 n0 n1 n2 n3 n4 c0 c1 c2 c3 c4 sq A m c l2 W := e ▸ h
/-- An arrow is appended. -/
theorem Br14.push {w : World} {S : Sv14} {A0 A1 A2 A3 A4 : Option Addr} {n0 n1 n2 n3 n4 c0 c1 c2 c3 c4 : Nat} {sq : Int} {A : Option Addr} {m c : Nat} {l : List (Int × Int)} {W : World} (hs : SA14 w S A0 A1 A2 A3 A4 n0 n1 n2 n3 n4 c0 c1 c2 c3 c4 sq) (h : Br14 w S A0 A1 A2 A3 A4 n0 n1 n2 n3 n4 c0 c1 c2 c3 c4 sq A m c l W) (x y : Int) (hm : m ≤ 2000) :
    ∃ Az cz W2, (Builtin.append_ #[40, 40] 40 #[.slice A m c, .slice (some ⟨W.heap.size, 0, none⟩) 1 1]).run Try.prog (W.alloc (.cells #[.int .i64 x, .int .i64 y] 53)) = .ok (.slice Az (m + 1) cz) W2 ∧ Br14 w S A0 A1 A2 A3 A4 n0 n1 n2 n3 n4 c0 c1 c2 c3 c4 sq Az (m + 1) cz (l ++ [(x, y)]) W2 ∧ (∀ g t cs, Blk W g t cs → t ≠ 53 → Blk W2 g t cs) := by
  have hbz := b1' W (.cells #[.int .i64 x, .int .i64 y] 53)
  have hkz := Blk.new W 53 #[.int .i64 x, .int .i64 y]
  have h1 := h.step hbz
  have hsy : (W.alloc (.cells #[.int .i64 x, .int .i64 y] 53)).heap.size = W.heap.size + 1 := by simp
  have hkeep : ∀ g t cs, Blk W g t cs → Blk (W.alloc (.cells #[.int .i64 x, .int .i64 y] 53)) g t cs := fun g t cs hg => hg.alloc _
  obtain ⟨Y, hY⟩ : ∃ Y, W.alloc (.cells #[.int .i64 x, .int .i64 y] 53) = Y := ⟨_, rfl⟩
  rw [hY] at hbz hkz h1 hsy hkeep ⊢
  have hrv : Rv Y Y.heap.size (some ⟨W.heap.size, 0, none⟩) [.int .i64 x, .int .i64 y] := fun _ => ⟨W.heap.size, 0, rfl, by omega, fun j v hj => by rw [Nat.zero_add, hkz.cell]; simpa using hj⟩
  have hxl := h1.b.x.lt
  obtain ⟨Az, cz, W2, hrun, hown, hg⟩ := run_append_14 (P := Try.prog) Y (w.heap.size + 1) 40 40 53 _ 2 16 Try.underlying40 info14B rfl (by omega) (by omega) _ m _ h1.o Y.heap.size (some ⟨W.heap.size, 0, none⟩) [.int .i64 x, .int .i64 y] 1 1 rfl hrv (by simp [Value.oneCell']) (by omega) (by omega)
  have hB : Below w.heap.size w W2 := h1.b.b.grown hg h1.b.b.size (fun r hr => by have := (h1.o.lt r hr).1; omega)
  refine ⟨Az, cz, W2, hrun, ⟨⟨hB, h1.b.x.grown hg (fun e => by have := (h1.o.lt _ e.symm).1; omega), hs.step hB⟩, ?_, by simp [h.l]⟩, fun g t cs hb hne => (hkeep g t cs hb).grown hg (own14_blk h1.o (hkeep g t cs hb) hne)⟩
  rw [acs_append]
  exact hown
set_option maxHeartbeats 2000000 in
theorem rcoinArrows14 (v : Value) (S : Sv14) (w : World) (h : St14 w v S) : Calls Try.prog 26 #[v] w (RetAq14 w (cArr14 S S.T.length)) := by
  obtain ⟨A0, A1, A2, A3, A4, n0, n1, n2, n3, n4, c0, c1, c2, c3, c4, sq, rfl, hs⟩ := h
  have HP : Hid (RetAq14 w (cArr14 S S.T.length) = fun e w' => ∃ A c, e = .returned (.slice A (cArr14 S n1).length c) ∧ Aq w' w'.heap.size A (cArr14 S n1) ∧ Below w.heap.size w w') := Lib.hid (by rw [hs.l1]; rfl)
  have HX0 : Hid (Br14 w S A0 A1 A2 A3 A4 n0 n1 n2 n3 n4 c0 c1 c2 c3 c4 sq none 0 0 (cArr14 S 0) (w.alloc (.cells #[.slice A0 n0 c0, .slice A1 n1 c1, .slice A2 n2 c2, .slice A3 n3 c3, .slice A4 n4 c4, .int .i64 sq] 28))) := Lib.hid ⟨Bx14.new hs, World.ownsRow_nil _ _ _ _, rfl⟩
  have HS := Lib.hid hs
  have hnb := hs.m1
  clear hs
  go_enter Try.func26, Try.ntmps26
  go_wp2_with fail
  go_loopw [3, 4] (fun v i wr => ∃ (k : Nat) (A : Option Addr) (m c : Nat), v = .slice A m c ∧ i = .int .i64 (k : Int) ∧ k ≤ n1 ∧ Hid (Br14 w S A0 A1 A2 A3 A4 n0 n1 n2 n3 n4 c0 c1 c2 c3 c4 sq A m c (cArr14 S k) wr)) (fun _ i _ => n1 - (intOf i).toNat)
  case atStart => exact ⟨0, none, 0, 0, rfl, rfl, by omega, HX0⟩
  case round =>
    obtain ⟨k, A, m, c, rfl, rfl, hk, HW⟩ := hrel
    have t0_ := HW.out.b.x.cell 1
    by_cases hkn : k < n1
    · skip
      obtain ⟨a, of, hA, hab, hq⟩ := Lq.at_ len14T (by omega) HW.out.b.s.r1 (show k < S.T.length by rw [HW.out.b.s.l1]; omega)
      have HAE := Lib.hid hA
      obtain ⟨x, hx⟩ : ∃ x, gt14 S.T k = x := ⟨_, rfl⟩
      rw [hx] at hq
      obtain ⟨xu, xc, xa, xk, xt, xo⟩ := x
      have e0 : wr.cell? ⟨a, of + k * 6, none⟩ = some (.bool xu) := hq 0 _ rfl
      have e1 : wr.cell? ⟨a, of + k * 6 + 1, none⟩ = some (.int .i64 xc) := hq 1 _ rfl
      have e2 : wr.cell? ⟨a, of + k * 6 + 2, none⟩ = some (.int .i64 xa) := hq 2 _ rfl
      have e3 : wr.cell? ⟨a, of + k * 6 + 3, none⟩ = some (.int .i64 xk) := hq 3 _ rfl
      have e4 : wr.cell? ⟨a, of + k * 6 + 4, none⟩ = some (.int .i64 xt) := hq 4 _ rfl
      have e5 : wr.cell? ⟨a, of + k * 6 + 5, none⟩ = some (.bool xo) := hq 5 _ rfl
      have i0 : (0 : Int) ≤ (k : Int) := by omega
      have i1 : (k : Int) < (n1 : Int) := by omega
      have HV := Lib.hid (Br14.step HW.out (b1' wr (.cells #[.bool xu, .int .i64 xc, .int .i64 xa, .int .i64 xk, .int .i64 xt, .bool xo] 35)))
      have hv := Blk.new wr 35 #[.bool xu, .int .i64 xc, .int .i64 xa, .int .i64 xk, .int .i64 xt, .bool xo]
      have v0 := hv.cell 0
      have v1 := hv.cell 1
      have v2 := hv.cell 2
      have v3 := hv.cell 3
      have v4 := hv.cell 4
      have v5 := hv.cell 5
      have HVB := Lib.hid hv
      have HXE := Lib.hid hx
      have p0 := HV.out.b.x.cell 0
      have p1 := HV.out.b.x.cell 1
      have p2 := HV.out.b.x.cell 2
      have p3 := HV.out.b.x.cell 3
      have p4 := HV.out.b.x.cell 4
      have p5 := HV.out.b.x.cell 5
      obtain ⟨X, hX⟩ : ∃ X, wr.alloc (.cells #[.bool xu, .int .i64 xc, .int .i64 xa, .int .i64 xk, .int .i64 xt, .bool xo] 35) = X := ⟨_, rfl⟩
      rw [hX] at HV HVB v0 v1 v2 v3 v4 v5 p0 p1 p2 p3 p4 p5
      clear hv hq hx hab
      subst hA
      have hmk : m ≤ k := by rw [← HW.out.l]; exact cArr14_len S k
      cases xu with
      | false =>
        have HN := Lib.hid (HV.out.congr (l2 := cArr14 S (k + 1)) (by rw [cArr14, HXE.out, if_neg (by simp), List.append_nil]))
        go_wp2_with fail
        go_roundw
        case rel => exact ⟨k + 1, A, m, c, rfl, by go_num, by omega, HN⟩
        case measure => simp [intOf]; omega
      | true =>
        by_cases k2 : xk = 2
        · subst k2
          have HE : Hid (cArr14 S (k + 1) = cArr14 S k ++ [(xc, xt)]) := Lib.hid (by rw [cArr14, HXE.out, if_pos (by simp)])
          obtain ⟨Az, cz, W2, hrun, har, hkp⟩ := HV.out.push HS.out xc xt (by omega)
          have vz := (hkp _ _ _ HVB.out (by decide)).cell 0
          clear hkp
          have HRUN := Lib.hid hrun
          have HAR := Lib.hid (har.congr HE.out.symm)
          clear hrun har
          go_wp2_with (at_builtin; go_loud (refine wpList_append_14 _ rfl (.tmp 25) (.tmp 31) 40 rfl _ _ _ _ rfl rfl HRUN.out ?_))
          go_roundw
          case rel => exact ⟨k + 1, Az, m + 1, cz, rfl, by go_num, by omega, HAR⟩
          case measure => simp [intOf]; omega
        · have HN := Lib.hid (HV.out.congr (l2 := cArr14 S (k + 1)) (by rw [cArr14, HXE.out, if_neg (by simp [k2]), List.append_nil]))
          go_wp2_with fail
          go_roundw
          case rel => exact ⟨k + 1, A, m, c, rfl, by go_num, by omega, HN⟩
          case measure => simp [intOf]; omega
    · obtain rfl : k = n1 := by omega
      have HL := Lib.hid HW.out.l
      have h1 : ¬ (k : Int) < (k : Int) := by omega
      go_wp2_with fail
      go_ret
      rw [HP.out]
      exact ⟨A, c, by rw [HL.out]; rfl, aq14_own HW.out.o, HW.out.b.b⟩
set_option maxHeartbeats 2000000 in
theorem rthreadArrows14 (v : Value) (S : Sv14) (w : World) (h : St14 w v S) (hok : ∀ j, j < S.H.length → (gt14 S.H j).s = 6 → us14 usL S.L (gt14 S.H j).f = true) : Calls Try.prog 27 #[v] w (RetAq14 w (tArr14 S S.H.length)) := by
  obtain ⟨A0, A1, A2, A3, A4, n0, n1, n2, n3, n4, c0, c1, c2, c3, c4, sq, rfl, hs⟩ := h
  have HP : Hid (RetAq14 w (tArr14 S S.H.length) = fun e w' => ∃ A c, e = .returned (.slice A (tArr14 S n2).length c) ∧ Aq w' w'.heap.size A (tArr14 S n2) ∧ Below w.heap.size w w') := Lib.hid (by rw [hs.l2]; rfl)
  have HX0 : Hid (Br14 w S A0 A1 A2 A3 A4 n0 n1 n2 n3 n4 c0 c1 c2 c3 c4 sq none 0 0 (tArr14 S 0) (w.alloc (.cells #[.slice A0 n0 c0, .slice A1 n1 c1, .slice A2 n2 c2, .slice A3 n3 c3, .slice A4 n4 c4, .int .i64 sq] 28))) := Lib.hid ⟨Bx14.new hs, World.ownsRow_nil _ _ _ _, rfl⟩
  have HS := Lib.hid hs
  have hnb := hs.m2
  have HOK := Lib.hid hok
  have HLH := Lib.hid hs.l2
  clear hs
  go_enter Try.func27, Try.ntmps27
  go_wp2_with fail
  go_loopw [3, 4] (fun v i wr => ∃ (k : Nat) (A : Option Addr) (m c : Nat), v = .slice A m c ∧ i = .int .i64 (k : Int) ∧ k ≤ n2 ∧ Hid (Br14 w S A0 A1 A2 A3 A4 n0 n1 n2 n3 n4 c0 c1 c2 c3 c4 sq A m c (tArr14 S k) wr)) (fun _ i _ => n2 - (intOf i).toNat)
  case atStart => exact ⟨0, none, 0, 0, rfl, rfl, by omega, HX0⟩
  case round =>
    obtain ⟨k, A, m, c, rfl, rfl, hk, HW⟩ := hrel
    have t0_ := HW.out.b.x.cell 2
    by_cases hkn : k < n2
    · skip
      obtain ⟨a, of, hA, hab, hq⟩ := Lq.at_ len14H (by omega) HW.out.b.s.r2 (show k < S.H.length by rw [HW.out.b.s.l2]; omega)
      have HAE := Lib.hid hA
      obtain ⟨x, hx⟩ : ∃ x, gt14 S.H k = x := ⟨_, rfl⟩
      rw [hx] at hq
      obtain ⟨xz, xf, xc, xq, xu⟩ := x
      have e0 : wr.cell? ⟨a, of + k * 5, none⟩ = some (.int .i64 xz) := hq 0 _ rfl
      have e1 : wr.cell? ⟨a, of + k * 5 + 1, none⟩ = some (.int .i64 xf) := hq 1 _ rfl
      have e2 : wr.cell? ⟨a, of + k * 5 + 2, none⟩ = some (.int .i64 xc) := hq 2 _ rfl
      have e3 : wr.cell? ⟨a, of + k * 5 + 3, none⟩ = some (.int .i64 xq) := hq 3 _ rfl
      have e4 : wr.cell? ⟨a, of + k * 5 + 4, none⟩ = some (.int .i64 xu) := hq 4 _ rfl
      have i0 : (0 : Int) ≤ (k : Int) := by omega
      have i1 : (k : Int) < (n2 : Int) := by omega
      have HV := Lib.hid (Br14.step HW.out (b1' wr (.cells #[.int .i64 xz, .int .i64 xf, .int .i64 xc, .int .i64 xq, .int .i64 xu] 43)))
      have hv := Blk.new wr 43 #[.int .i64 xz, .int .i64 xf, .int .i64 xc, .int .i64 xq, .int .i64 xu]
      have v0 := hv.cell 0
      have v1 := hv.cell 1
      have v2 := hv.cell 2
      have v3 := hv.cell 3
      have v4 := hv.cell 4
      have HVB := Lib.hid hv
      have HXE := Lib.hid hx
      have p0 := HV.out.b.x.cell 0
      have p1 := HV.out.b.x.cell 1
      have p2 := HV.out.b.x.cell 2
      have p3 := HV.out.b.x.cell 3
      have p4 := HV.out.b.x.cell 4
      have p5 := HV.out.b.x.cell 5
      obtain ⟨X, hX⟩ : ∃ X, wr.alloc (.cells #[.int .i64 xz, .int .i64 xf, .int .i64 xc, .int .i64 xq, .int .i64 xu] 43) = X := ⟨_, rfl⟩
      rw [hX] at HV HVB v0 v1 v2 v3 v4 p0 p1 p2 p3 p4 p5
      clear hv hq hx hab
      subst hA
      have hmk : m ≤ k := by rw [← HW.out.l]; exact tArr14_len S k
      by_cases z4 : xz = 4
      · subst z4
        have HE : Hid (tArr14 S (k + 1) = tArr14 S k ++ [((k : Int), xf)]) := Lib.hid (by rw [tArr14, HXE.out, if_pos rfl])
        obtain ⟨Az, cz, W2, hrun, har, hkp⟩ := HV.out.push HS.out (k : Int) xf (by omega)
        have vz := (hkp _ _ _ HVB.out (by decide)).cell 0
        clear hkp
        have HRUN := Lib.hid hrun
        have HAR := Lib.hid (har.congr HE.out.symm)
        clear hrun har
        go_wp2_with (at_builtin; go_loud (refine wpList_append_14 _ rfl (.tmp 21) (.tmp 26) 40 rfl _ _ _ _ rfl rfl HRUN.out ?_))
        go_roundw
        case rel => exact ⟨k + 1, Az, m + 1, cz, rfl, by go_num, by omega, HAR⟩
        case measure => simp [intOf]; omega
      · by_cases z6 : xz = 6
        · subst z6
          obtain ⟨q, hxq, hql, _, hat⟩ := us14_in def14L (by have h := HOK.out k (by rw [HLH.out]; exact hkn) (by rw [HXE.out]); rwa [HXE.out] at h : us14 usL S.L xf = true)
          subst hxq
          obtain ⟨y, hy⟩ : ∃ y, gt14 S.L q = y := ⟨_, rfl⟩
          obtain ⟨yu, yh⟩ := y
          have HE : Hid (tArr14 S (k + 1) = tArr14 S k ++ [((k : Int), yh)]) := Lib.hid (by rw [tArr14, HXE.out, if_neg (by simp), if_pos rfl, hat, hy])
          obtain ⟨a3, of3, hA3, _, hq3⟩ := Lq.at_ len14L (by omega) HV.out.b.s.r3 hql
          subst hA3
          rw [hy] at hq3
          have g1 : X.cell? ⟨a3, of3 + q * 2 + 1, none⟩ = some (.int .i64 yh) := hq3 1 _ rfl
          have j0 : (0 : Int) ≤ (q : Int) := by omega
          have j1 : (q : Int) < (n3 : Int) := by rw [HV.out.b.s.l3] at hql; omega
          clear hat hy hq3 hql
          obtain ⟨Az, cz, W2, hrun, har, hkp⟩ := HV.out.push HS.out (k : Int) yh (by omega)
          have vz := (hkp _ _ _ HVB.out (by decide)).cell 0
          clear hkp
          have HRUN := Lib.hid hrun
          have HAR := Lib.hid (har.congr HE.out.symm)
          clear hrun har
          go_wp2_with (at_builtin; go_loud (refine wpList_append_14 _ rfl (.tmp 31) (.tmp 41) 40 rfl _ _ _ _ rfl rfl HRUN.out ?_))
          go_roundw
          case rel => exact ⟨k + 1, Az, m + 1, cz, rfl, by go_num, by omega, HAR⟩
          case measure => simp [intOf]; omega
        · have HN := Lib.hid (HV.out.congr (l2 := tArr14 S (k + 1)) (by rw [tArr14, HXE.out, if_neg z4, if_neg z6, List.append_nil]))
          go_wp2_with fail
          go_roundw
          case rel => exact ⟨k + 1, A, m, c, rfl, by go_num, by omega, HN⟩
          case measure => simp [intOf]; omega
    · obtain rfl : k = n2 := by omega
      have HL := Lib.hid HW.out.l
      have h1 : ¬ (k : Int) < (k : Int) := by omega
      go_wp2_with fail
      go_ret
      rw [HP.out]
      exact ⟨A, c, by rw [HL.out]; rfl, aq14_own HW.out.o, HW.out.b.b⟩
end Go.Proofs.Ytllcmjdfgbiijaa
namespace Go.Proofs.Ytllcmjdfgbiijaa
open Go.RowKit
set_option maxRecDepth 100000
theorem fine16_lock {S : Sv14} (hf : Fine14 S) : ∀ j, j < S.H.length → (gt14 S.H j).s = 6 → us14 usL S.L (gt14 S.H j).f = true := by
  intro j hj h6
  have hth := (hf.2.2.2.2.2.1.1 j hj (by rw [usH, h6]; rfl)).1
  rcases hth with h | h | h
  · rw [h.1] at h6; cases h6
  · exact h.2
  · have := h.1; omega
theorem arr16_mem {l : List (Int × Int)} {k : Nat} (hk : k < l.length) : arr l k ∈ l := by
  have e : arr l k = l[k] := by simp [arr, List.getElem?_eq_getElem hk]
  rw [e]
  exact List.getElem_mem hk
theorem fnx16 {S : Sv14} {k : Nat} {i : Int} (hk : k < (tArr14 S S.H.length).length) (h : (arr (tArr14 S S.H.length) k).1 = i) : (arr (tArr14 S S.H.length) k).2 = nxt16 S i := by
  have h1 : (i, (arr (tArr14 S S.H.length) k).2) ∈ tArr14 S S.H.length := by
    rw [← h]
    exact arr16_mem hk
  obtain ⟨j, hj, rfl, _⟩ := tarr16_mem.1 h1
  exact ((nxt16_arr hj).1 h1).2.symm
theorem fnx16_no {S : Sv14} {i : Int} (hf : Fine14 S) (h : ∀ k, k < (tArr14 S S.H.length).length → (arr (tArr14 S S.H.length) k).1 ≠ i) : nxt16 S i = -1 := by
  rcases nxt16_used hf i with h1 | ⟨h1, h2⟩
  · exact h1
  · exfalso
    have hu : us14 usH S.H i = true := by
      cases hu : us14 usH S.H i with
      | true => rfl
      | false => rw [nxt16_no hu, tl16_neg] at h1; cases h1
    have hin := ush16_lt hu
    obtain ⟨q, rfl⟩ : ∃ q : Nat, i = (q : Int) := ⟨i.toNat, by omega⟩
    rw [at14_yes hu, Int.toNat_natCast] at h2
    have hm : ((q : Int), nxt16 S (q : Int)) ∈ tArr14 S S.H.length := (nxt16_arr (by omega)).2 ⟨h2, rfl⟩
    obtain ⟨k, hk, he⟩ := List.getElem_of_mem hm
    refine h k hk ?_
    have e : arr (tArr14 S S.H.length) k = (tArr14 S S.H.length)[k] := by simp [arr, List.getElem?_eq_getElem hk]
    rw [e, he]
set_option maxHeartbeats 4000000 in
theorem rnext16 (v : Value) (S : Sv14) (i : Int) (w : World) (h : St14 w v S) (hf : Fine14 S) :
    Calls Try.prog 54 #[v, .int .i64 i] w fun e w' => e = .returned (.int .i64 (nxt16 S i)) ∧ Below w.heap.size w w' := by
  obtain ⟨A0, A1, A2, A3, A4, n0, n1, n2, n3, n4, c0, c1, c2, c3, c4, sq, rfl, hs⟩ := h
  have hx0 := Bx14.new hs
  have hxn := hx0.step (Below.refl _ _).drew
  obtain ⟨W1, hW1⟩ : ∃ W, w.alloc (.cells #[.slice A0 n0 c0, .slice A1 n1 c1, .slice A2 n2 c2, .slice A3 n3 c3, .slice A4 n4 c4, .int .i64 sq] 28) = W := ⟨_, rfl⟩
  rw [hW1] at hx0 hxn
  have HX0 := Lib.hid hx0
  have p0 := hx0.x.cell 0
  have p1 := hx0.x.cell 1
  have p2 := hx0.x.cell 2
  have p3 := hx0.x.cell 3
  have p4 := hx0.x.cell 4
  have p5 := hx0.x.cell 5
  obtain ⟨m, hm⟩ : ∃ m, (tArr14 S S.H.length).length = m := ⟨_, rfl⟩
  have hmn : m ≤ 1000000 := by have := tArr14_len S S.H.length; have := hs.l2; have := hs.m2; omega
  have HT := Lib.hid (fun W h => rthreadArrows14 (.agg #[.slice A0 n0 c0, .slice A1 n1 c1, .slice A2 n2 c2, .slice A3 n3 c3, .slice A4 n4 c4, .int .i64 sq]) S W h (fine16_lock hf))
  have HF := Lib.hid hf
  have HM := Lib.hid hm
  clear hs hx0 hxn hf hm
  go_enter Try.func54, Try.ntmps54
  go_wp2_with fail
  refine (HT.out _ HX0.out.st).mono ?_
  rintro e u1 ⟨A, c, rfl, hr, hb1⟩
  have HR := Lib.hid hr
  have HB1 := Lib.hid (HX0.out.b.trans (hb1.mono HX0.out.b.size))
  rw [HM.out]
  clear hb1 HT HX0 p0 p1 p2 p3 p4 p5 hW1 hr
  go_wp2_with fail
  go_loopw [6] (fun v wr => ∃ k : Nat, v = .int .i64 (k : Int) ∧ k ≤ m ∧ Hid (∀ q, q < k → (arr (tArr14 S S.H.length) q).1 ≠ i) ∧ Hid (Below u1.heap.size u1 wr)) (fun v _ => m - (intOf v).toNat)
  case atStart => exact ⟨0, rfl, by omega, Lib.hid (fun q h => by omega), Lib.hid (Below.refl _ _)⟩
  case round =>
    obtain ⟨k, rfl, hk, HN, HG⟩ := hrel
    by_cases hkm : k < m
    · obtain ⟨ba, o, hA, hab, c0, c1⟩ := Aq.at_ (Rv.below HR.out HG.out (Nat.le_refl _)) (show k < (tArr14 S S.H.length).length by rw [HM.out]; exact hkm)
      subst hA
      obtain ⟨fi, hfi⟩ : ∃ x, (arr (tArr14 S S.H.length) k).1 = x := ⟨_, rfl⟩
      obtain ⟨ti, hti⟩ : ∃ x, (arr (tArr14 S S.H.length) k).2 = x := ⟨_, rfl⟩
      have HI := Lib.hid hfi
      have HJ := Lib.hid hti
      rw [hfi] at c0
      rw [hti] at c1
      have i0 : (0 : Int) ≤ (k : Int) := by omega
      have i1 : (k : Int) < (m : Int) := by omega
      clear hfi hti hab
      by_cases hi : fi = i
      · have hib : (fi == i) = true := by simp [hi]
        have HE : Hid (nxt16 S i = ti) := Lib.hid (by rw [← HJ.out]; exact (fnx16 (by rw [HM.out]; exact hkm) (by rw [HI.out]; exact hi)).symm)
        clear hi
        go_wp2_with fail
        go_ret
        exact ⟨by rw [HE.out]; rfl, HB1.out.trans (HG.out.mono HB1.out.size)⟩
      · have hib : (fi == i) = false := by simp [hi]
        have HNI := Lib.hid hi
        clear hi
        go_wp2_with fail
        go_roundw
        case rel => exact ⟨k + 1, by go_num, by omega, Lib.hid (fun q hq => by
          rcases (show q < k ∨ q = k by omega) with h5 | h5
          · exact HN.out q h5
          · rw [h5, HI.out]; exact HNI.out), HG⟩
        case measure => simp [intOf]; omega
    · obtain rfl : k = m := by omega
      have i1 : ¬ (k : Int) < (k : Int) := by omega
      have HE : Hid (nxt16 S i = -1) := Lib.hid (fnx16_no HF.out (by rw [HM.out]; exact HN.out))
      go_wp2_with fail
      go_ret
      exact ⟨by rw [HE.out]; rfl, HB1.out.trans (HG.out.mono HB1.out.size)⟩
theorem one16_own (W : World) (L : Nat) (x : Nat) (hL : L ≤ W.heap.size) : (W.alloc (.cells #[.int .i64 (x : Int)] 3)).ownsRow L 3 1 (.slice (some ⟨W.heap.size, 0, none⟩) 1 1) 1 (ints [x]) :=
  ⟨by simp [ints], .inr ⟨W.heap.size, 1, #[.int .i64 (x : Int)], rfl, hL, heap_alloc_new W _, by omega, by decide, by simp, by simp [ints]⟩⟩
set_option maxHeartbeats 4000000 in
theorem rtail16 (l : List Nat) : ∀ (v : Value) (S : Sv14) (i : Int) (w : World) (_ : St14 w v S) (_ : Fine14 S) (_ : Tl16 S i l),
    Calls Try.prog 42 #[v, .int .i64 i] w (RetR15 w l) := by
  induction l with
  | nil =>
    intro v S i w h hf hl
    obtain ⟨A0, A1, A2, A3, A4, n0, n1, n2, n3, n4, c0, c1, c2, c3, c4, sq, rfl, hs⟩ := h
    have hx0 := Bx14.new hs
    have hxn := hx0.step (Below.refl _ _).drew
    obtain ⟨W1, hW1⟩ : ∃ W, w.alloc (.cells #[.slice A0 n0 c0, .slice A1 n1 c1, .slice A2 n2 c2, .slice A3 n3 c3, .slice A4 n4 c4, .int .i64 sq] 28) = W := ⟨_, rfl⟩
    rw [hW1] at hx0 hxn
    have HP : Hid (RetR15 w [] = fun e w' => ∃ A c, e = .returned (.slice A 0 c) ∧ Rd w' w'.heap.size A [] ∧ Below w.heap.size w w') := Lib.hid rfl
    have HX0 := Lib.hid hx0
    have p0 := hx0.x.cell 0
    have p1 := hx0.x.cell 1
    have p2 := hx0.x.cell 2
    have p3 := hx0.x.cell 3
    have p4 := hx0.x.cell 4
    have p5 := hx0.x.cell 5
    have HU := Lib.hid (fun W h => rThread14 (.agg #[.slice A0 n0 c0, .slice A1 n1 c1, .slice A2 n2 c2, .slice A3 n3 c3, .slice A4 n4 c4, .int .i64 sq]) S i false W h (hl.nil.1 rfl))
    clear hs hx0 hxn hf hl
    go_enter Try.func42, Try.ntmps42
    go_wp2_with fail
    refine (HU.out _ HX0.out.st).mono ?_
    rintro e u1 ⟨rfl, hb1⟩
    have HB1 := Lib.hid (HX0.out.b.trans (hb1.mono HX0.out.b.size))
    clear hb1 HU HX0 p0 p1 p2 p3 p4 p5 hW1
    go_wp2_with fail
    go_ret
    rw [HP.out]
    exact ⟨none, 0, rfl, fun hx => absurd rfl hx, HB1.out⟩
  | cons k r ih =>
    intro v S i w h hf hl
    obtain ⟨A0, A1, A2, A3, A4, n0, n1, n2, n3, n4, c0, c1, c2, c3, c4, sq, rfl, hs⟩ := h
    have hx0 := Bx14.new hs
    have hxn := hx0.step (Below.refl _ _).drew
    obtain ⟨W1, hW1⟩ : ∃ W, w.alloc (.cells #[.slice A0 n0 c0, .slice A1 n1 c1, .slice A2 n2 c2, .slice A3 n3 c3, .slice A4 n4 c4, .int .i64 sq] 28) = W := ⟨_, rfl⟩
    rw [hW1] at hx0 hxn
    have HP : Hid (RetR15 w (k :: r) = fun e w' => ∃ A c, e = .returned (.slice A (r.length + 1) c) ∧ Rd w' w'.heap.size A (k :: r) ∧ Below w.heap.size w w') := Lib.hid rfl
    have HX0 := Lib.hid hx0
    have p0 := hx0.x.cell 0
    have p1 := hx0.x.cell 1
    have p2 := hx0.x.cell 2
    have p3 := hx0.x.cell 3
    have p4 := hx0.x.cell 4
    have p5 := hx0.x.cell 5
    have hu : us14 usH S.H i = true := by
      cases hu : us14 usH S.H i with
      | true => rfl
      | false => cases hl.no hu
    obtain ⟨k2, r2, hik, he, ht⟩ := hl.cons hf hu
    injection he with hk hr
    subst hk hr hik
    have HU := Lib.hid (fun W h => rThread14 (.agg #[.slice A0 n0 c0, .slice A1 n1 c1, .slice A2 n2 c2, .slice A3 n3 c3, .slice A4 n4 c4, .int .i64 sq]) S (k : Int) true W h hu)
    have HN := Lib.hid (fun W h => rnext16 (.agg #[.slice A0 n0 c0, .slice A1 n1 c1, .slice A2 n2 c2, .slice A3 n3 c3, .slice A4 n4 c4, .int .i64 sq]) S (k : Int) W h hf)
    have HI := Lib.hid (fun W h => ih (.agg #[.slice A0 n0 c0, .slice A1 n1 c1, .slice A2 n2 c2, .slice A3 n3 c3, .slice A4 n4 c4, .int .i64 sq]) S (nxt16 S (k : Int)) W h hf ht)
    have HLN : Hid (r.length ≤ 1000) := Lib.hid (by have := hl.len hf; have := hs.l2; have := hs.m2; simp at *; omega)
    have HT := Lib.hid ht
    have hnu := nxt16_used hf (k : Int)
    clear hs hx0 hxn hf hl ih hu ht
    go_enter Try.func42, Try.ntmps42
    go_wp2_with fail
    refine (HU.out _ HX0.out.st).mono ?_
    rintro e u1 ⟨rfl, hb1⟩
    have HX1 := Lib.hid (HX0.out.step hb1)
    have q0 := HX1.out.x.cell 0
    have q1 := HX1.out.x.cell 1
    have q2 := HX1.out.x.cell 2
    have q3 := HX1.out.x.cell 3
    have q4 := HX1.out.x.cell 4
    have q5 := HX1.out.x.cell 5
    clear hb1 HU HX0 p0 p1 p2 p3 p4 p5 hW1
    go_wp2_with fail
    refine (HN.out _ HX1.out.st).mono ?_
    rintro e u2 ⟨rfl, hb2⟩
    have HX2 := Lib.hid (HX1.out.step hb2)
    have y0 := HX2.out.x.cell 0
    have y1 := HX2.out.x.cell 1
    have y2 := HX2.out.x.cell 2
    have y3 := HX2.out.x.cell 3
    have y4 := HX2.out.x.cell 4
    have y5 := HX2.out.x.cell 5
    clear hb2 HN HX1 q0 q1 q2 q3 q4 q5
    obtain ⟨nx, hnx⟩ : ∃ x, nxt16 S (k : Int) = x := ⟨_, rfl⟩
    rw [hnx] at HT HI hnu ⊢
    clear hnx
    rcases hnu with h0 | h0
    · subst h0
      have HE : Hid (r = []) := Lib.hid (HT.out.no (tl16_neg S))
      have hb3 := b1' u2 (.cells #[.int .i64 (k : Int)] 3)
      have HR : Hid (Rd (u2.alloc (.cells #[.int .i64 (k : Int)] 3)) (u2.alloc (.cells #[.int .i64 (k : Int)] 3)).heap.size (some ⟨u2.heap.size, 0, none⟩) [k]) := Lib.hid (rd15_own (one16_own u2 0 k (by omega)) rfl)
      have HB3 := Lib.hid (HX2.out.b.trans (hb3.mono HX2.out.b.size))
      clear hb3
      go_wp2_with fail
      go_ret
      rw [HP.out, HE.out]
      exact ⟨_, 1, rfl, HR.out, HB3.out⟩
    · have hge : 0 ≤ nx := (ush16_lt h0.1).1
      have hlt : ¬ nx < 0 := by omega
      have hb3 := b1' u2 (.cells #[.int .i64 (k : Int)] 3)
      have HX3 := Lib.hid (HX2.out.step hb3)
      have HO := Lib.hid (one16_own u2 (w.heap.size + 1) k (by have := HX2.out.x.lt; omega))
      have z0 := HX3.out.x.cell 0
      have z1 := HX3.out.x.cell 1
      have z2 := HX3.out.x.cell 2
      have z3 := HX3.out.x.cell 3
      have z4 := HX3.out.x.cell 4
      have z5 := HX3.out.x.cell 5
      obtain ⟨g, hg⟩ : ∃ g, u2.heap.size = g := ⟨_, rfl⟩
      obtain ⟨u3, hu3⟩ : ∃ W, u2.alloc (.cells #[.int .i64 (k : Int)] 3) = W := ⟨_, rfl⟩
      rw [hu3] at HX3 HO z0 z1 z2 z3 z4 z5
      rw [hg] at HO
      clear h0 hge hb3 y0 y1 y2 y3 y4 y5
      go_wp2_with fail
      refine (HI.out _ HX3.out.st).mono ?_
      rintro e u4 ⟨A, c, rfl, hr, hb4⟩
      have HX4 := Lib.hid (HX3.out.step hb4)
      have ho4 := own7_keep HO.out hb4
      have hsz := HX4.out.x.lt
      obtain ⟨Az, cz, W2, hrun, hown, hgr⟩ := run_append_14 (P := Try.prog) u4 (w.heap.size + 1) 26 26 3 _ 1 8 Try.underlying26 info_int11 rfl (by omega) (by omega) _ 1 _ ho4 u4.heap.size A (ints r) r.length c (by simp [ints]) hr.rv11 (ints_one r) (by have := HLN.out; omega) (by omega)
      have hW2 : Below (w.heap.size + 1) u4 W2 := (Below.refl _ _).grown hgr (by omega) (fun q hq => (ho4.lt q hq).1)
      have HB2 := Lib.hid (HX4.out.b.trans (hW2.mono (by omega)))
      rw [Nat.add_comm 1 r.length] at hrun hown
      rw [← ints_append, List.singleton_append] at hown
      have HRD := Lib.hid (rd15_own hown (by simp))
      have HRUN := Lib.hid hrun
      clear hb4 HI hr ho4 hsz hrun hown hgr hW2 HX3 HX4 HO z0 z1 z2 z3 z4 z5
      go_wp2_with (at_builtin; go_loud (refine wpList_append_14 _ rfl (.tmp 18) (.tmp 21) 26 rfl _ _ _ _ rfl rfl HRUN.out ?_))
      go_ret
      rw [HP.out]
      exact ⟨Az, cz, rfl, HRD.out, HB2.out⟩
set_option maxHeartbeats 4000000 in
theorem rend16 (v : Value) (S : Sv14) (i : Int) (l : List Nat) (w : World) (h : St14 w v S) (hf : Fine14 S) (hl : Tl16 S i l) :
    Calls Try.prog 30 #[v, .int .i64 i] w fun e w' => e = .returned (.int .i64 (en16 l)) ∧ Below w.heap.size w w' := by
  obtain ⟨A0, A1, A2, A3, A4, n0, n1, n2, n3, n4, c0, c1, c2, c3, c4, sq, rfl, hs⟩ := h
  have hx0 := Bx14.new hs
  have hxn := hx0.step (Below.refl _ _).drew
  obtain ⟨W1, hW1⟩ : ∃ W, w.alloc (.cells #[.slice A0 n0 c0, .slice A1 n1 c1, .slice A2 n2 c2, .slice A3 n3 c3, .slice A4 n4 c4, .int .i64 sq] 28) = W := ⟨_, rfl⟩
  rw [hW1] at hx0 hxn
  have HX0 := Lib.hid hx0
  have p0 := hx0.x.cell 0
  have p1 := hx0.x.cell 1
  have p2 := hx0.x.cell 2
  have p3 := hx0.x.cell 3
  have p4 := hx0.x.cell 4
  have p5 := hx0.x.cell 5
  have HLN : Hid (l.length ≤ 1000000) := Lib.hid (by have := hl.len hf; have := hs.l2; have := hs.m2; omega)
  have HT := Lib.hid (fun W h => rtail16 l (.agg #[.slice A0 n0 c0, .slice A1 n1 c1, .slice A2 n2 c2, .slice A3 n3 c3, .slice A4 n4 c4, .int .i64 sq]) S i W h hf hl)
  clear hs hx0 hxn hf hl
  go_enter Try.func30, Try.ntmps30
  go_wp2_with fail
  refine (HT.out _ HX0.out.st).mono ?_
  rintro e u1 ⟨A, c, rfl, hr, hb1⟩
  have HB1 := Lib.hid (HX0.out.b.trans (hb1.mono HX0.out.b.size))
  clear hb1 HT HX0 p0 p1 p2 p3 p4 p5 hW1
  by_cases hl0 : l = []
  · subst hl0
    have HE : Hid (en16 [] = -1) := Lib.hid rfl
    clear hr
    go_wp2_with fail
    go_ret
    exact ⟨by rw [HE.out]; rfl, HB1.out⟩
  · obtain ⟨d, hd⟩ : ∃ d, l.length = d + 1 := ⟨l.length - 1, by have := List.length_pos_iff.2 hl0; omega⟩
    obtain ⟨a, of, hA, hab, hq⟩ := hr.at_ (show d < l.length by omega)
    subst hA
    have HE : Hid (en16 l = ((nth l d : Nat) : Int)) := Lib.hid (by rw [en16, if_neg hl0, lst16, hd]; rfl)
    have hnz : (((d + 1 : Nat) : Int) == 0) = false := by simp; omega
    have hdm : d + 1 ≤ 1000000 := by have := HLN.out; omega
    rw [hd]
    clear hr hab hd hl0
    have i0 : (0 : Int) ≤ (d : Int) := by omega
    have i1 : (d : Int) < ((d + 1 : Nat) : Int) := by omega
    have hsb : ((d + 1 : Nat) : Int) - 1 = (d : Int) := by omega
    go_wp2_with fail
    go_ret
    exact ⟨by rw [HE.out]; rfl, HB1.out⟩
set_option maxHeartbeats 4000000 in
theorem rlives16 (v : Value) (S : Sv14) (i : Int) (l : List Nat) (w : World) (h : St14 w v S) (hf : Fine14 S) (hl : Tl16 S i l) :
    Calls Try.prog 14 #[v, .int .i64 i] w fun e w' => e = .returned (.bool (lv16 S (en16 l))) ∧ Below w.heap.size w w' := by
  obtain ⟨A0, A1, A2, A3, A4, n0, n1, n2, n3, n4, c0, c1, c2, c3, c4, sq, rfl, hs⟩ := h
  have hx0 := Bx14.new hs
  have hxn := hx0.step (Below.refl _ _).drew
  obtain ⟨W1, hW1⟩ : ∃ W, w.alloc (.cells #[.slice A0 n0 c0, .slice A1 n1 c1, .slice A2 n2 c2, .slice A3 n3 c3, .slice A4 n4 c4, .int .i64 sq] 28) = W := ⟨_, rfl⟩
  rw [hW1] at hx0 hxn
  have HX0 := Lib.hid hx0
  have p0 := hx0.x.cell 0
  have p1 := hx0.x.cell 1
  have p2 := hx0.x.cell 2
  have p3 := hx0.x.cell 3
  have p4 := hx0.x.cell 4
  have p5 := hx0.x.cell 5
  have hus := en16_used hf hl
  have HT := Lib.hid (fun W h => rend16 (.agg #[.slice A0 n0 c0, .slice A1 n1 c1, .slice A2 n2 c2, .slice A3 n3 c3, .slice A4 n4 c4, .int .i64 sq]) S i l W h hf hl)
  obtain ⟨en, hen⟩ : ∃ x, en16 l = x := ⟨_, rfl⟩
  rw [hen] at hus HT ⊢
  have HL2 := Lib.hid hs.l2
  have hnm : n2 ≤ 1000 := by have := hs.m2; omega
  have hge : en < 0 → en = -1 := by
    intro h
    cases hu : us14 usH S.H i with
    | false => rw [← hen]; exact en16_no (hl.no hu)
    | true => rw [hu] at hus; have := ush16_lt hus; omega
  have hu1 : 0 ≤ en → us14 usH S.H en = true := by
    intro h
    cases hu : us14 usH S.H i with
    | true => rw [hus, hu]
    | false => rw [← hen, en16_no (hl.no hu)] at h; omega
  clear hs hx0 hxn hf hl hus hen
  go_enter Try.func14, Try.ntmps14
  go_wp2_with fail
  refine (HT.out _ HX0.out.st).mono ?_
  rintro e u1 ⟨rfl, hb1⟩
  have HX1 := Lib.hid (HX0.out.step hb1)
  have q0 := HX1.out.x.cell 0
  have q1 := HX1.out.x.cell 1
  have q2 := HX1.out.x.cell 2
  have q3 := HX1.out.x.cell 3
  have q4 := HX1.out.x.cell 4
  have q5 := HX1.out.x.cell 5
  clear hb1 HT HX0 p0 p1 p2 p3 p4 p5 hW1
  by_cases h0 : 0 ≤ en
  · have hu := hu1 h0
    have hin := ush16_lt hu
    obtain ⟨k, rfl⟩ : ∃ k : Nat, en = (k : Int) := ⟨en.toNat, by omega⟩
    obtain ⟨a, of, hA, hab, hq⟩ := Lq.at_ len14H (by omega) HX1.out.s.r2 (show k < S.H.length by omega)
    subst hA
    obtain ⟨x, hx⟩ : ∃ x, gt14 S.H k = x := ⟨_, rfl⟩
    rw [hx] at hq
    obtain ⟨xz, xf, xc, xq, xu⟩ := x
    have e0 : u1.cell? ⟨a, of + k * 5, none⟩ = some (.int .i64 xz) := hq 0 _ rfl
    have HE : Hid (lv16 S (k : Int) = ((xz == 2) || (xz == 3))) := Lib.hid (by rw [lv16, at14_yes hu, Int.toNat_natCast, hx])
    have i1 : (k : Int) < (n2 : Int) := by have := HL2.out; omega
    have hgb : decide ((k : Int) ≥ 0) = true := by simp
    clear hq hx hab hge hu1 hu hin
    by_cases z2 : xz = 2
    · subst z2
      go_wp2_with fail
      go_ret
      exact ⟨by rw [HE.out]; rfl, HX1.out.b⟩
    · have z2b : (xz == 2) = false := by simp [z2]
      rw [z2b] at HE
      go_wp2_with fail
      go_ret
      exact ⟨by rw [HE.out]; rfl, HX1.out.b⟩
  · obtain rfl := hge (by omega)
    have HE : Hid (lv16 S (-1) = false) := Lib.hid (lv16_no (tl16_neg S))
    clear hge hu1 h0
    go_wp2_with fail
    go_ret
    exact ⟨by rw [HE.out]; rfl, HX1.out.b⟩
end Go.Proofs.Ytllcmjdfgbiijaa
