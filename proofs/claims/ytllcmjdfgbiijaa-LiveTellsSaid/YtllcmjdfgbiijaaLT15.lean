/-
  SaidLiveTells, part 15 of 16: what the theorem liveTells_holds reaches.
-/
import Derived.Test.YtllcmjdfgbiijaaLT14
import Derived.Test.YtllcmjdfgbiijaaRows
import Derived.Below
import Derived.ProofKit
import Derived.OpenShut
import Derived.Carry
import Derived.Lib.SmallJoins
import Derived.ChangeMaps5
import Derived.Lib.AppendStr
import Derived.Test.YtllcmjdfgbiijaaChecked
namespace Go.Proofs.Ytllcmjdfgbiijaa
open Go.RowKit
set_option maxRecDepth 100000
set_option maxHeartbeats 2000000 in
theorem ltells17_no1 (A0 A1 A2 A3 A4 : Option Addr) (n0 n1 n2 n3 n4 c0 c1 c2 c3 c4 : Nat) (sq c : Int) (S : Sv14) (w : World) (hn : ¬ Small14 n0 n1 n2 n3 n4) :
    Calls Try.prog 3 #[(.agg #[.slice A0 n0 c0, .slice A1 n1 c1, .slice A2 n2 c2, .slice A3 n3 c3, .slice A4 n4 c4, .int .i64 sq]), .int .i64 c] w fun e w' => e = .returned (.bool true) ∧ Below w.heap.size w w' := by
  have hb0 := b1' w (.cells #[.slice A0 n0 c0, .slice A1 n1 c1, .slice A2 n2 c2, .slice A3 n3 c3, .slice A4 n4 c4, .int .i64 sq] 28)
  have hk0 := Blk.new w 28 #[.slice A0 n0 c0, .slice A1 n1 c1, .slice A2 n2 c2, .slice A3 n3 c3, .slice A4 n4 c4, .int .i64 sq]
  obtain ⟨W0, hW0⟩ : ∃ W, w.alloc (.cells #[.slice A0 n0 c0, .slice A1 n1 c1, .slice A2 n2 c2, .slice A3 n3 c3, .slice A4 n4 c4, .int .i64 sq] 28) = W := ⟨_, rfl⟩
  rw [hW0] at hb0 hk0
  have p0 := hk0.cell 0
  have p1 := hk0.cell 1
  have p2 := hk0.cell 2
  have p3 := hk0.cell 3
  have p4 := hk0.cell 4
  have p5 := hk0.cell 5
  have HB0 := Lib.hid hb0
  have HC := Lib.hid (fun W => small14 A0 A1 A2 A3 A4 n0 n1 n2 n3 n4 c0 c1 c2 c3 c4 sq false W (by simp [hn]))
  clear hb0 hk0 hn
  go_enter Try.func3, Try.ntmps3
  go_wp2_with fail
  refine (HC.out _).mono ?_
  rintro e u1 ⟨rfl, hb1⟩
  have HB1 := Lib.hid (HB0.out.trans (hb1.mono HB0.out.size))
  clear hb1 HC
  go_wp2_with fail
  refine (alive17_any _).mono ?_
  rintro e u2 ⟨rfl, hb2⟩
  have HB2 := Lib.hid (HB1.out.trans (hb2.mono HB1.out.size))
  clear hb2
  go_wp2_with fail
  go_ret
  exact ⟨rfl, HB2.out⟩
set_option maxHeartbeats 2000000 in
theorem ltells17_no2 (A0 A1 A2 A3 A4 : Option Addr) (n0 n1 n2 n3 n4 c0 c1 c2 c3 c4 : Nat) (sq c : Int) (S : Sv14) (w : World) (hs : SA14 w S A0 A1 A2 A3 A4 n0 n1 n2 n3 n4 c0 c1 c2 c3 c4 sq) (hn : Small14 n0 n1 n2 n3 n4) (hg : light17 S = false) :
    Calls Try.prog 3 #[(.agg #[.slice A0 n0 c0, .slice A1 n1 c1, .slice A2 n2 c2, .slice A3 n3 c3, .slice A4 n4 c4, .int .i64 sq]), .int .i64 c] w fun e w' => e = .returned (.bool true) ∧ Below w.heap.size w w' := by
  have hx0 := Bx14.new hs
  have hxn := hx0.step (Below.refl _ _).drew
  obtain ⟨W1, hW1⟩ : ∃ W, w.alloc (.cells #[.slice A0 n0 c0, .slice A1 n1 c1, .slice A2 n2 c2, .slice A3 n3 c3, .slice A4 n4 c4, .int .i64 sq] 28) = W := ⟨_, rfl⟩
  rw [hW1] at hx0 hxn
  have HX0 := Lib.hid hx0
  have p0 := hx0.x.cell 0
  have p1 := hx0.x.cell 1
  have p2 := hx0.x.cell 2
  have p3 := hx0.x.cell 3
  have p4 := hx0.x.cell 4
  have p5 := hx0.x.cell 5
  have HC := Lib.hid (fun W => small14 A0 A1 A2 A3 A4 n0 n1 n2 n3 n4 c0 c1 c2 c3 c4 sq true W (by simp [hn]))
  have HD0 := Lib.hid (fun W (h : Bx14 w S A0 A1 A2 A3 A4 n0 n1 n2 n3 n4 c0 c1 c2 c3 c4 sq W) => (show Calls Try.prog 6 #[(.agg #[.slice A0 n0 c0, .slice A1 n1 c1, .slice A2 n2 c2, .slice A3 n3 c3, .slice A4 n4 c4, .int .i64 sq])] W fun e w' => e = .returned (.bool false) ∧ Below W.heap.size W w' from by have h1 := rlight17 (.agg #[.slice A0 n0 c0, .slice A1 n1 c1, .slice A2 n2 c2, .slice A3 n3 c3, .slice A4 n4 c4, .int .i64 sq]) S W h.st; rwa [hg] at h1))
  clear hs hx0 hxn hn hg
  go_enter Try.func3, Try.ntmps3
  go_wp2_with fail
  refine (HC.out _).mono ?_
  rintro e u1 ⟨rfl, hb1⟩
  have HX1 := Lib.hid (HX0.out.step hb1)
  clear hb1 HC HX0 p0 p1 p2 p3 p4 p5
  have q10 := HX1.out.x.cell 0
  have q11 := HX1.out.x.cell 1
  have q12 := HX1.out.x.cell 2
  have q13 := HX1.out.x.cell 3
  have q14 := HX1.out.x.cell 4
  have q15 := HX1.out.x.cell 5
  go_wp2_with fail
  refine (HD0.out _ HX1.out).mono ?_
  rintro e u2 ⟨rfl, hb2⟩
  have HX2 := Lib.hid (HX1.out.step hb2)
  clear hb2 HD0 HX1 q10 q11 q12 q13 q14 q15
  go_wp2_with fail
  refine (alive17_any _).mono ?_
  rintro e u3 ⟨rfl, hb3⟩
  have HX3 := Lib.hid (HX2.out.step hb3)
  clear hb3
  go_wp2_with fail
  go_ret
  exact ⟨rfl, HX3.out.b⟩
set_option maxHeartbeats 2000000 in
theorem ltells17_no3 (A0 A1 A2 A3 A4 : Option Addr) (n0 n1 n2 n3 n4 c0 c1 c2 c3 c4 : Nat) (sq c : Int) (S : Sv14) (w : World) (hs : SA14 w S A0 A1 A2 A3 A4 n0 n1 n2 n3 n4 c0 c1 c2 c3 c4 sq) (hn : Small14 n0 n1 n2 n3 n4) (hg : light17 S = true) (hf : ¬ Fine14 S) :
    Calls Try.prog 3 #[(.agg #[.slice A0 n0 c0, .slice A1 n1 c1, .slice A2 n2 c2, .slice A3 n3 c3, .slice A4 n4 c4, .int .i64 sq]), .int .i64 c] w fun e w' => e = .returned (.bool true) ∧ Below w.heap.size w w' := by
  have hx0 := Bx14.new hs
  have hxn := hx0.step (Below.refl _ _).drew
  obtain ⟨W1, hW1⟩ : ∃ W, w.alloc (.cells #[.slice A0 n0 c0, .slice A1 n1 c1, .slice A2 n2 c2, .slice A3 n3 c3, .slice A4 n4 c4, .int .i64 sq] 28) = W := ⟨_, rfl⟩
  rw [hW1] at hx0 hxn
  have HX0 := Lib.hid hx0
  have p0 := hx0.x.cell 0
  have p1 := hx0.x.cell 1
  have p2 := hx0.x.cell 2
  have p3 := hx0.x.cell 3
  have p4 := hx0.x.cell 4
  have p5 := hx0.x.cell 5
  have HC := Lib.hid (fun W => small14 A0 A1 A2 A3 A4 n0 n1 n2 n3 n4 c0 c1 c2 c3 c4 sq true W (by simp [hn]))
  have HD0 := Lib.hid (fun W (h : Bx14 w S A0 A1 A2 A3 A4 n0 n1 n2 n3 n4 c0 c1 c2 c3 c4 sq W) => (show Calls Try.prog 6 #[(.agg #[.slice A0 n0 c0, .slice A1 n1 c1, .slice A2 n2 c2, .slice A3 n3 c3, .slice A4 n4 c4, .int .i64 sq])] W fun e w' => e = .returned (.bool true) ∧ Below W.heap.size W w' from by have h1 := rlight17 (.agg #[.slice A0 n0 c0, .slice A1 n1 c1, .slice A2 n2 c2, .slice A3 n3 c3, .slice A4 n4 c4, .int .i64 sq]) S W h.st; rwa [hg] at h1))
  have HD1 := Lib.hid (fun W (h : Bx14 w S A0 A1 A2 A3 A4 n0 n1 n2 n3 n4 c0 c1 c2 c3 c4 sq W) => rfine14 (.agg #[.slice A0 n0 c0, .slice A1 n1 c1, .slice A2 n2 c2, .slice A3 n3 c3, .slice A4 n4 c4, .int .i64 sq]) S false W h.st (by simp [hf]))
  clear hs hx0 hxn hn hg hf
  go_enter Try.func3, Try.ntmps3
  go_wp2_with fail
  refine (HC.out _).mono ?_
  rintro e u1 ⟨rfl, hb1⟩
  have HX1 := Lib.hid (HX0.out.step hb1)
  clear hb1 HC HX0 p0 p1 p2 p3 p4 p5
  have q10 := HX1.out.x.cell 0
  have q11 := HX1.out.x.cell 1
  have q12 := HX1.out.x.cell 2
  have q13 := HX1.out.x.cell 3
  have q14 := HX1.out.x.cell 4
  have q15 := HX1.out.x.cell 5
  go_wp2_with fail
  refine (HD0.out _ HX1.out).mono ?_
  rintro e u2 ⟨rfl, hb2⟩
  have HX2 := Lib.hid (HX1.out.step hb2)
  clear hb2 HD0 HX1 q10 q11 q12 q13 q14 q15
  have q20 := HX2.out.x.cell 0
  have q21 := HX2.out.x.cell 1
  have q22 := HX2.out.x.cell 2
  have q23 := HX2.out.x.cell 3
  have q24 := HX2.out.x.cell 4
  have q25 := HX2.out.x.cell 5
  go_wp2_with fail
  refine (HD1.out _ HX2.out).mono ?_
  rintro e u3 ⟨rfl, hb3⟩
  have HX3 := Lib.hid (HX2.out.step hb3)
  clear hb3 HD1 HX2 q20 q21 q22 q23 q24 q25
  go_wp2_with fail
  refine (alive17_any _).mono ?_
  rintro e u4 ⟨rfl, hb4⟩
  have HX4 := Lib.hid (HX3.out.step hb4)
  clear hb4
  go_wp2_with fail
  go_ret
  exact ⟨rfl, HX4.out.b⟩
/-- Between two rounds: a boxed state, three answers, and a row of ints. -/
structure Ld17 (w : World) (L : Nat) (S : Sv14) (A0 A1 A2 A3 A4 : Option Addr) (n0 n1 n2 n3 n4 c0 c1 c2 c3 c4 : Nat) (sq : Int) (g1 g2 g3 : Nat) (A : Option Addr) (m cc : Nat) (xs : List Nat) (W : World) : Prop where
  t : Ti15 w L S A0 A1 A2 A3 A4 n0 n1 n2 n3 n4 c0 c1 c2 c3 c4 sq A m cc xs W
  r1 : Bb13 W g1 n1 (cntb17 S)
  r2 : Ib13 W g2 n0 (fun x => amn17 S ((x : Nat) : Int))
  r3 : Bb13 W g3 n2 (fun i => livb17 S ((i : Nat) : Int))
  e1 : g1 < L
  e2 : g2 < L
  e3 : g3 < L
theorem Ld17.step {w : World} {L : Nat} {S : Sv14} {A0 A1 A2 A3 A4 : Option Addr} {n0 n1 n2 n3 n4 c0 c1 c2 c3 c4 : Nat} {sq : Int} {g1 g2 g3 : Nat} {A : Option Addr} {m cc : Nat} {xs : List Nat} {W W' : World} (h : Ld17 w L S A0 A1 A2 A3 A4 n0 n1 n2 n3 n4 c0 c1 c2 c3 c4 sq g1 g2 g3 A m cc xs W) (hb : Below W.heap.size W W') : Ld17 w L S A0 A1 A2 A3 A4 n0 n1 n2 n3 n4 c0 c1 c2 c3 c4 sq g1 g2 g3 A m cc xs W' :=
  ⟨h.t.step hb, h.r1.step hb, h.r2.below hb h.r2.lt, h.r3.step hb, h.e1, h.e2, h.e3⟩
theorem Ld17.congr {w : World} {L : Nat} {S : Sv14} {A0 A1 A2 A3 A4 : Option Addr} {n0 n1 n2 n3 n4 c0 c1 c2 c3 c4 : Nat} {sq : Int} {g1 g2 g3 : Nat} {A : Option Addr} {m cc : Nat} {xs ys : List Nat} {W : World} (h : Ld17 w L S A0 A1 A2 A3 A4 n0 n1 n2 n3 n4 c0 c1 c2 c3 c4 sq g1 g2 g3 A m cc xs W) (e : xs = ys) : Ld17 w L S A0 A1 A2 A3 A4 n0 n1 n2 n3 n4 c0 c1 c2 c3 c4 sq g1 g2 g3 A m cc ys W := e ▸ h
theorem Ld17.push {w : World} {L : Nat} {S : Sv14} {A0 A1 A2 A3 A4 : Option Addr} {n0 n1 n2 n3 n4 c0 c1 c2 c3 c4 : Nat} {sq : Int} {g1 g2 g3 : Nat} {A : Option Addr} {m cc : Nat} {xs : List Nat} {W : World} (h : Ld17 w L S A0 A1 A2 A3 A4 n0 n1 n2 n3 n4 c0 c1 c2 c3 c4 sq g1 g2 g3 A m cc xs W) (x : Nat) (hm : m ≤ 5000) :
    ∃ Az cz W2, (Builtin.append_ #[26, 26] 26 #[.slice A m cc, .slice (some ⟨W.heap.size, 0, none⟩) 1 1]).run Try.prog (W.alloc (.cells #[.int .i64 (x : Int)] 3)) = .ok (.slice Az (m + 1) cz) W2 ∧ Ld17 w L S A0 A1 A2 A3 A4 n0 n1 n2 n3 n4 c0 c1 c2 c3 c4 sq g1 g2 g3 Az (m + 1) cz (xs ++ [x]) W2 := by
  obtain ⟨Az, cz, W2, h1, h2, h3⟩ := h.t.push x hm
  exact ⟨Az, cz, W2, h1, h2, h.r1.low17 h3 h.e1, h.r2.below h3 h.e2, h.r3.low17 h3 h.e3, h.e1, h.e2, h.e3⟩
set_option maxHeartbeats 16000000 in
theorem ltells17_yes (A0 A1 A2 A3 A4 : Option Addr) (n0 n1 n2 n3 n4 c0 c1 c2 c3 c4 : Nat) (sq c : Int) (S : Sv14) (w : World) (hs : SA14 w S A0 A1 A2 A3 A4 n0 n1 n2 n3 n4 c0 c1 c2 c3 c4 sq) (hn : Small14 n0 n1 n2 n3 n4) (hg : light17 S = true) (hf : Fine14 S) :
    Calls Try.prog 3 #[(.agg #[.slice A0 n0 c0, .slice A1 n1 c1, .slice A2 n2 c2, .slice A3 n3 c3, .slice A4 n4 c4, .int .i64 sq]), .int .i64 c] w fun e w' => e = .returned (.bool true) ∧ Below w.heap.size w w' := by
  have hx0 := Bx14.new hs
  have hxn := hx0.step (Below.refl _ _).drew
  obtain ⟨W1, hW1⟩ : ∃ W, w.alloc (.cells #[.slice A0 n0 c0, .slice A1 n1 c1, .slice A2 n2 c2, .slice A3 n3 c3, .slice A4 n4 c4, .int .i64 sq] 28) = W := ⟨_, rfl⟩
  rw [hW1] at hx0 hxn
  have HX0 := Lib.hid hx0
  have p0 := hx0.x.cell 0
  have p1 := hx0.x.cell 1
  have p2 := hx0.x.cell 2
  have p3 := hx0.x.cell 3
  have p4 := hx0.x.cell 4
  have p5 := hx0.x.cell 5
  have hT := hf.2.2.2.2.1
  have HC := Lib.hid (fun W => small14 A0 A1 A2 A3 A4 n0 n1 n2 n3 n4 c0 c1 c2 c3 c4 sq true W (by simp [hn]))
  have HG := Lib.hid (fun W (h : Bx14 w S A0 A1 A2 A3 A4 n0 n1 n2 n3 n4 c0 c1 c2 c3 c4 sq W) => (show Calls Try.prog 6 #[(.agg #[.slice A0 n0 c0, .slice A1 n1 c1, .slice A2 n2 c2, .slice A3 n3 c3, .slice A4 n4 c4, .int .i64 sq])] W fun e w' => e = .returned (.bool true) ∧ Below W.heap.size W w' from by have h1 := rlight17 (.agg #[.slice A0 n0 c0, .slice A1 n1 c1, .slice A2 n2 c2, .slice A3 n3 c3, .slice A4 n4 c4, .int .i64 sq]) S W h.st; rwa [hg] at h1))
  have HD := Lib.hid (fun W (h : Bx14 w S A0 A1 A2 A3 A4 n0 n1 n2 n3 n4 c0 c1 c2 c3 c4 sq W) => rfine14 (.agg #[.slice A0 n0 c0, .slice A1 n1 c1, .slice A2 n2 c2, .slice A3 n3 c3, .slice A4 n4 c4, .int .i64 sq]) S true W h.st (by simp [hf]))
  have HTK := Lib.hid (fun W (h : Bx14 w S A0 A1 A2 A3 A4 n0 n1 n2 n3 n4 c0 c1 c2 c3 c4 sq W) => tickets17 (.agg #[.slice A0 n0 c0, .slice A1 n1 c1, .slice A2 n2 c2, .slice A3 n3 c3, .slice A4 n4 c4, .int .i64 sq]) S W h.st hf)
  have HAM := Lib.hid (fun W (h : Bx14 w S A0 A1 A2 A3 A4 n0 n1 n2 n3 n4 c0 c1 c2 c3 c4 sq W) => amounts17 (.agg #[.slice A0 n0 c0, .slice A1 n1 c1, .slice A2 n2 c2, .slice A3 n3 c3, .slice A4 n4 c4, .int .i64 sq]) S W h.st hf)
  have HTH := Lib.hid (fun W (h : Bx14 w S A0 A1 A2 A3 A4 n0 n1 n2 n3 n4 c0 c1 c2 c3 c4 sq W) => threads17 (.agg #[.slice A0 n0 c0, .slice A1 n1 c1, .slice A2 n2 c2, .slice A3 n3 c3, .slice A4 n4 c4, .int .i64 sq]) S W h.st hf)
  have HRC := Lib.hid (fun (k : Nat) hk W (h : Bx14 w S A0 A1 A2 A3 A4 n0 n1 n2 n3 n4 c0 c1 c2 c3 c4 sq W) => rcounts17 (.agg #[.slice A0 n0 c0, .slice A1 n1 c1, .slice A2 n2 c2, .slice A3 n3 c3, .slice A4 n4 c4, .int .i64 sq]) S hf k hk W h.st)
  have HRA := Lib.hid (fun (i : Int) W (h : Bx14 w S A0 A1 A2 A3 A4 n0 n1 n2 n3 n4 c0 c1 c2 c3 c4 sq W) => ramount17 (.agg #[.slice A0 n0 c0, .slice A1 n1 c1, .slice A2 n2 c2, .slice A3 n3 c3, .slice A4 n4 c4, .int .i64 sq]) S hf i W h.st)
  have HRL := Lib.hid (fun (i : Int) W (h : Bx14 w S A0 A1 A2 A3 A4 n0 n1 n2 n3 n4 c0 c1 c2 c3 c4 sq W) => rlives17 (.agg #[.slice A0 n0 c0, .slice A1 n1 c1, .slice A2 n2 c2, .slice A3 n3 c3, .slice A4 n4 c4, .int .i64 sq]) S i W h.st hf)
  have HAI := Lib.hid (fun i => (amn17_int hT i).symm)
  have HAW := Lib.hid (fun W (h : Bx14 w S A0 A1 A2 A3 A4 n0 n1 n2 n3 n4 c0 c1 c2 c3 c4 sq W) => awakes17 (.agg #[.slice A0 n0 c0, .slice A1 n1 c1, .slice A2 n2 c2, .slice A3 n3 c3, .slice A4 n4 c4, .int .i64 sq]) S c W h.st hf)
  have HDE := Lib.hid (fun W (h : Bx14 w S A0 A1 A2 A3 A4 n0 n1 n2 n3 n4 c0 c1 c2 c3 c4 sq W) => dead17 (.agg #[.slice A0 n0 c0, .slice A1 n1 c1, .slice A2 n2 c2, .slice A3 n3 c3, .slice A4 n4 c4, .int .i64 sq]) S W h.st hf)
  have HL0 := Lib.hid hs.l0
  have HL1 := Lib.hid hs.l1
  have HL2 := Lib.hid hs.l2
  have HSS := Lib.hid hs
  have HFT := Lib.hid hT
  have hnb0 := hs.m0
  have hnb1 := hs.m1
  have hnb2 := hs.m2
  clear hs hx0 hxn hn hf hg hT
  go_enter Try.func3, Try.ntmps3
  go_wp2_with fail
  refine (HC.out _).mono ?_
  rintro e u1 ⟨rfl, hb1⟩
  have HX1 := Lib.hid (HX0.out.step hb1)
  have q0 := HX1.out.x.cell 0
  have q1 := HX1.out.x.cell 1
  have q2 := HX1.out.x.cell 2
  have q3 := HX1.out.x.cell 3
  have q4 := HX1.out.x.cell 4
  have q5 := HX1.out.x.cell 5
  clear hb1 HC hW1 HX0 p0 p1 p2 p3 p4 p5
  go_wp2_with fail
  refine (HG.out _ HX1.out).mono ?_
  rintro e u2 ⟨rfl, hb2⟩
  have HX2 := Lib.hid (HX1.out.step hb2)
  have r0 := HX2.out.x.cell 0
  have r1 := HX2.out.x.cell 1
  have r2 := HX2.out.x.cell 2
  have r3 := HX2.out.x.cell 3
  have r4 := HX2.out.x.cell 4
  have r5 := HX2.out.x.cell 5
  clear hb2 HG HX1 q0 q1 q2 q3 q4 q5
  go_wp2_with fail
  refine (HD.out _ HX2.out).mono ?_
  rintro e u3 ⟨rfl, hb3⟩
  have HX3 := Lib.hid (HX2.out.step hb3)
  clear hb3 HD HX2 r0 r1 r2 r3 r4 r5
  have HXN : Hid (Bx14 w S A0 A1 A2 A3 A4 n0 n1 n2 n3 n4 c0 c1 c2 c3 c4 sq u3.drew) := Lib.hid (HX3.out.step (Below.refl _ _).drew)
  clear HX3
  obtain ⟨wn, hwn⟩ : ∃ W, u3.drew = W := ⟨_, rfl⟩
  rw [hwn] at HXN
  go_wp2_with fail
  refine wp_region_held_drew (S := Bx14 w S A0 A1 A2 A3 A4 n0 n1 n2 n3 n4 c0 c1 c2 c3 c4 sq) (by kernel_rfl) (by rw [hwn]; exact HXN.out) (fun hHeld => ?_)
  rw [hwn] at hHeld ⊢
  clear hwn
  have HBS := HXN
  refine tk 0 (v := ?_) (fun W hS => ?_) ?_
  rotate_left
  · try dsimp only at hS
    have z0 := hS.x.cell 0
    have z1 := hS.x.cell 1
    have z2 := hS.x.cell 2
    have z3 := hS.x.cell 3
    have z4 := hS.x.cell 4
    have z5 := hS.x.cell 5
    go_simp
    try with_reducible rfl
  (try dsimp only [Act.put]); try simp only [pt1, pt2, pt3]
  refine tk 2 (v := ?_) (fun W hS => ?_) ?_
  rotate_left
  · try dsimp only at hS
    have z0 := hS.x.cell 0
    have z1 := hS.x.cell 1
    have z2 := hS.x.cell 2
    have z3 := hS.x.cell 3
    have z4 := hS.x.cell 4
    have z5 := hS.x.cell 5
    go_simp
    try with_reducible rfl
  (try dsimp only [Act.put]); try simp only [pt1, pt2, pt3]
  refine tk 4 (v := ?_) (fun W hS => ?_) ?_
  rotate_left
  · try dsimp only at hS
    have z0 := hS.x.cell 0
    have z1 := hS.x.cell 1
    have z2 := hS.x.cell 2
    have z3 := hS.x.cell 3
    have z4 := hS.x.cell 4
    have z5 := hS.x.cell 5
    go_simp
    try with_reducible rfl
  (try dsimp only [Act.put]); try simp only [pt1, pt2, pt3]
  refine rdy 1 (fun K hK => ?_)
  have HBS0 := HBS
  go_simp
  refine (HTK.out _ HBS0.out).mono ?_
  rintro e wn ⟨g1, rfl, _, hr, hb⟩
  have HBS := Lib.hid (HBS0.out.step hb)
  rw [HL1.out] at hr ⊢
  have HR1 := Lib.hid hr
  clear hr
  clear hb HBS0
  refine hK.out _ _ HBS.out (fun hHeld => ?_)
  clear hK K
  (try dsimp only [Act.put]); try simp only [pt1, pt2, pt3]
  refine rdy 3 (fun K hK => ?_)
  have HBS0 := HBS
  go_simp
  refine (HAM.out _ HBS0.out).mono ?_
  rintro e wn ⟨g2, rfl, _, hr, hb⟩
  have HBS := Lib.hid (HBS0.out.step hb)
  rw [HL0.out] at hr ⊢
  have HR1 := Lib.hid (HR1.out.step hb)
  have HR2 := Lib.hid hr
  clear hr
  clear hb HBS0
  refine hK.out _ _ HBS.out (fun hHeld => ?_)
  clear hK K
  (try dsimp only [Act.put]); try simp only [pt1, pt2, pt3]
  refine rdy 5 (fun K hK => ?_)
  have HBS0 := HBS
  go_simp
  refine (HTH.out _ HBS0.out).mono ?_
  rintro e wn ⟨g3, rfl, _, hr, hb⟩
  have HBS := Lib.hid (HBS0.out.step hb)
  rw [HL2.out] at hr ⊢
  have HR1 := Lib.hid (HR1.out.step hb)
  have HR2 := Lib.hid (HR2.out.below hb HR2.out.lt)
  have HR3 := Lib.hid hr
  clear hr
  clear hb HBS0
  refine hK.out _ _ HBS.out (fun hHeld => ?_)
  clear hK K
  (try dsimp only [Act.put]); try simp only [pt1, pt2, pt3]
  refine rdy 6 (fun K hK => ?_)
  go_simp
  refine hK.out _ _ HBS.out (fun hHeld => ?_)
  clear hK K
  (try dsimp only [Act.put]); try simp only [pt1, pt2, pt3]
  refine rdy 7 (fun K hK => ?_)
  go_simp
  refine hK.out _ _ HBS.out (fun hHeld => ?_)
  clear hK K
  (try dsimp only [Act.put]); try simp only [pt1, pt2, pt3]
  refine rdy 8 (fun K hK => ?_)
  go_simp
  refine hK.out _ _ HBS.out (fun hHeld => ?_)
  clear hK K
  (try dsimp only [Act.put]); try simp only [pt1, pt2, pt3]
  refine wpAnyH_done (by kernel_rfl) ?_ _
  clear hHeld
  clear HXN HTK HAM HTH
  have hself : ∀ i : Int, (i != i) = false := fun i => by simp
  have hselfb : ∀ i : Bool, (i != i) = false := fun i => by simp
  obtain ⟨L, hL⟩ : ∃ L, wn.heap.size = L := ⟨_, rfl⟩
  obtain ⟨D, hD⟩ : ∃ D, (fun j => (gt14 S.T j).u && !cntb17 S j) = D := ⟨_, rfl⟩
  have HDJ : Hid (∀ j, D j = ((gt14 S.T j).u && !cntb17 S j)) := Lib.hid (fun j => by rw [← hD])
  have HDL : Hid (dea17 S = all11 D n1) := Lib.hid (by rw [← hD, ← HL1.out]; rfl)
  have HQ0 : Hid (Ld17 w L S A0 A1 A2 A3 A4 n0 n1 n2 n3 n4 c0 c1 c2 c3 c4 sq g1 g2 g3 none 0 0 (all11 D 0) wn) := Lib.hid ⟨Ti15.start HSS.out HBS.out (by have := HBS.out.x.lt; omega) (by omega), HR1.out, HR2.out, HR3.out, by rw [← hL]; exact HR1.out.lt17, by rw [← hL]; exact HR2.out.lt, by rw [← hL]; exact HR3.out.lt17⟩
  have z0 := HBS.out.x.cell 0
  have z1 := HBS.out.x.cell 1
  have z2 := HBS.out.x.cell 2
  clear HBS HR1 HR2 HR3 HSS hL hD
  go_wp2_with fail
  clear z0 z1 z2
  go_loopw [8, 9] (fun v i wr => ∃ (k m cc : Nat) (A : Option Addr), v = .slice A m cc ∧ i = .int .i64 (k : Int) ∧ k ≤ n1 ∧ Hid (Ld17 w L S A0 A1 A2 A3 A4 n0 n1 n2 n3 n4 c0 c1 c2 c3 c4 sq g1 g2 g3 A m cc (all11 D k) wr)) (fun _ i _ => n1 - (intOf i).toNat)
  case atStart => exact ⟨0, 0, 0, none, rfl, rfl, by omega, HQ0⟩
  case round =>
    clear HQ0
    obtain ⟨k, m, cc, A, rfl, rfl, hk, HW⟩ := hrel
    by_cases hkn : k < n1
    · have hkl : k < S.T.length := by have := HL1.out; omega
      have HCK := Lib.hid (HRC.out k hkl)
      have i0 : (0 : Int) ≤ (k : Int) := by omega
      have i1 : (k : Int) < (n1 : Int) := by omega
      have HKN := Lib.hid hkn
      have hmk : m ≤ k := by rw [← HW.out.t.l]; exact all11_len D k
      clear HRC HRA HRL HAI HAW HDE HDL
      have HXN : Hid (Ld17 w L S A0 A1 A2 A3 A4 n0 n1 n2 n3 n4 c0 c1 c2 c3 c4 sq g1 g2 g3 A m cc (all11 D k) wr.drew) := Lib.hid (HW.out.step (Below.refl _ _).drew)
      clear HW
      obtain ⟨wn, hwn⟩ : ∃ W, wr.drew = W := ⟨_, rfl⟩
      rw [hwn] at HXN
      go_wp2_with fail
      refine wp_region_held_drew (S := Ld17 w L S A0 A1 A2 A3 A4 n0 n1 n2 n3 n4 c0 c1 c2 c3 c4 sq g1 g2 g3 A m cc (all11 D k)) (by kernel_rfl) (by rw [hwn]; exact HXN.out) (fun hHeld => ?_)
      rw [hwn] at hHeld ⊢
      clear hwn
      have HBS := HXN
      refine tk 0 (v := ?_) (fun W hS => ?_) ?_
      rotate_left
      · (go_simp; try with_reducible rfl)
      (try dsimp only [Act.put]); try simp only [pt1, pt2, pt3]
      refine tk 1 (v := ?_) (fun W hS => ?_) ?_
      rotate_left
      · (go_simp; try with_reducible rfl)
      (try dsimp only [Act.put]); try simp only [pt1, pt2, pt3]
      refine tk 2 (v := ?_) (fun W hS => ?_) ?_
      rotate_left
      · (go_simp; try with_reducible rfl)
      (try dsimp only [Act.put]); try simp only [pt1, pt2, pt3]
      refine tk 3 (v := ?_) (fun W hS => ?_) ?_
      rotate_left
      · try dsimp only at hS
        have z0 := (hS.r1.cells HKN.out).1
        go_simp
        try with_reducible rfl
      (try dsimp only [Act.put]); try simp only [pt1, pt2, pt3]
      refine tk 4 (v := ?_) (fun W hS => ?_) ?_
      rotate_left
      · try dsimp only at hS
        have z0 := hS.t.b.x.cell 0
        have z1 := hS.t.b.x.cell 1
        have z2 := hS.t.b.x.cell 2
        have z3 := hS.t.b.x.cell 3
        have z4 := hS.t.b.x.cell 4
        have z5 := hS.t.b.x.cell 5
        go_simp
        try with_reducible rfl
      (try dsimp only [Act.put]); try simp only [pt1, pt2, pt3]
      refine tk 5 (v := ?_) (fun W hS => ?_) ?_
      rotate_left
      · (go_simp; try with_reducible rfl)
      (try dsimp only [Act.put]); try simp only [pt1, pt2, pt3]
      refine rdy 6 (fun K hK => ?_)
      have HBS0 := HBS
      go_simp
      refine (HCK.out _ HBS0.out.t.b).mono ?_
      rintro e wn ⟨rfl, hb⟩
      have HBS := Lib.hid (HBS0.out.step hb)
      clear hb HBS0
      refine hK.out _ _ HBS.out (fun hHeld => ?_)
      clear hK K
      (try dsimp only [Act.put]); try simp only [pt1, pt2, pt3]
      refine tk 7 (v := ?_) (fun W hS => ?_) ?_
      rotate_left
      · (go_simp; try with_reducible rfl)
      (try dsimp only [Act.put]); try simp only [pt1, pt2, pt3]
      refine wpAnyH_done (by kernel_rfl) ?_ _
      clear hHeld
      clear HXN HCK
      go_upto_region 12 with (fail)
      obtain ⟨a, of, hA, hab, hq⟩ := Lq.at_ len14T (by omega) HBS.out.t.b.s.r1 hkl
      have t1 : wn.cell? ⟨w.heap.size, 1, none⟩ = some (.slice (some ⟨a, of, none⟩) n1 c1) := by rw [← hA]; exact HBS.out.t.b.x.cell 1
      have e0 : wn.cell? ⟨a, of + k * 6, none⟩ = some (.bool (gt14 S.T k).u) := hq 0 _ rfl
      have s0 := (HBS.out.r1.cells hkn).1
      have HNX : Hid (all11 D (k + 1) = all11 D k ++ if ((gt14 S.T k).u && !cntb17 S k) then [k] else []) := Lib.hid (by rw [all11_next, HDJ.out])
      obtain ⟨xu, hxu⟩ : ∃ b, (gt14 S.T k).u = b := ⟨_, rfl⟩
      obtain ⟨cb, hcb⟩ : ∃ b, cntb17 S k = b := ⟨_, rfl⟩
      rw [hxu] at e0 HNX
      rw [hcb] at s0 HNX
      clear hxu hcb hq hab hA
      by_cases hd : xu = true ∧ cb = false
      · obtain ⟨rfl, rfl⟩ := hd
        obtain ⟨Az, cz, W2, hrun, har⟩ := HBS.out.push k (by omega)
        have HRUN := Lib.hid hrun
        have HAR := Lib.hid (har.congr (ys := all11 D (k + 1)) (by rw [HNX.out]; rfl))
        clear hrun har HBS
        go_wp2_with (at_builtin; go_loud (refine wpList_append_14 _ rfl (.tmp 81) (.tmp 83) 26 rfl _ _ _ _ rfl rfl HRUN.out ?_))
        go_roundw
        case rel => exact ⟨k + 1, m + 1, cz, Az, rfl, by go_num, by omega, HAR⟩
        case measure => simp [intOf]; omega
      · have HN : Hid (all11 D (k + 1) = all11 D k) := Lib.hid (by
          rw [HNX.out, if_neg, List.append_nil]
          simpa using hd)
        have HAR := Lib.hid (HBS.out.congr HN.out.symm)
        cases xu with
        | false =>
          clear hd HBS HNX
          go_wp2_with fail
          go_roundw
          case rel => exact ⟨k + 1, m, cc, A, rfl, by go_num, by omega, HAR⟩
          case measure => simp [intOf]; omega
        | true =>
          obtain rfl : cb = true := by simpa using hd
          clear hd HBS HNX
          go_wp2_with fail
          go_roundw
          case rel => exact ⟨k + 1, m, cc, A, rfl, by go_num, by omega, HAR⟩
          case measure => simp [intOf]; omega
    · obtain rfl : n1 = k := by omega
      have i1 : ¬ (n1 : Int) < (n1 : Int) := by omega
      have HQ := Lib.hid HW.out
      clear HW HRC hk
      go_wp2_with fail
      go_loopw [10] (fun i wx => ∃ k : Nat, i = .int .i64 (k : Int) ∧ k ≤ n0 ∧ Hid (Ld17 w L S A0 A1 A2 A3 A4 n0 n1 n2 n3 n4 c0 c1 c2 c3 c4 sq g1 g2 g3 A m cc (all11 D n1) wx)) (fun i _ => n0 - (intOf i).toNat)
      case atStart => exact ⟨0, rfl, by omega, HQ⟩
      case round =>
        clear HQ
        obtain ⟨k, rfl, hk, HW⟩ := hrel
        by_cases hkn : k < n0
        · have i0 : (0 : Int) ≤ (k : Int) := by omega
          have i1 : (k : Int) < (n0 : Int) := by omega
          have HKN := Lib.hid hkn
          obtain ⟨z, hz⟩ : ∃ z : Nat, amn17 S (k : Int) = z := ⟨_, rfl⟩
          have HZ := Lib.hid hz
          have HRK : Hid (∀ W (h : Bx14 w S A0 A1 A2 A3 A4 n0 n1 n2 n3 n4 c0 c1 c2 c3 c4 sq W), Calls Try.prog 13 #[(.agg #[.slice A0 n0 c0, .slice A1 n1 c1, .slice A2 n2 c2, .slice A3 n3 c3, .slice A4 n4 c4, .int .i64 sq]), .int .i64 (k : Int)] W fun e w' => e = .returned (.int .i64 ((z : Nat) : Int)) ∧ Below W.heap.size W w') := Lib.hid (fun W h => by
            have h1 := HRA.out (k : Int) W h
            rw [HAI.out (k : Int), HZ.out] at h1
            exact h1)
          clear HRL HAI HAW HDE HDL hz
          have HXN : Hid (Ld17 w L S A0 A1 A2 A3 A4 n0 n1 n2 n3 n4 c0 c1 c2 c3 c4 sq g1 g2 g3 A m cc (all11 D n1) wr.drew) := Lib.hid (HW.out.step (Below.refl _ _).drew)
          clear HW
          obtain ⟨wn, hwn⟩ : ∃ W, wr.drew = W := ⟨_, rfl⟩
          rw [hwn] at HXN
          go_wp2_with fail
          refine wp_region_held_drew (S := Ld17 w L S A0 A1 A2 A3 A4 n0 n1 n2 n3 n4 c0 c1 c2 c3 c4 sq g1 g2 g3 A m cc (all11 D n1)) (by kernel_rfl) (by rw [hwn]; exact HXN.out) (fun hHeld => ?_)
          rw [hwn] at hHeld ⊢
          clear hwn
          have HBS := HXN
          refine tk 0 (v := ?_) (fun W hS => ?_) ?_
          rotate_left
          · (go_simp; try with_reducible rfl)
          (try dsimp only [Act.put]); try simp only [pt1, pt2, pt3]
          refine tk 1 (v := ?_) (fun W hS => ?_) ?_
          rotate_left
          · (go_simp; try with_reducible rfl)
          (try dsimp only [Act.put]); try simp only [pt1, pt2, pt3]
          refine tk 2 (v := ?_) (fun W hS => ?_) ?_
          rotate_left
          · (go_simp; try with_reducible rfl)
          (try dsimp only [Act.put]); try simp only [pt1, pt2, pt3]
          refine tk 3 (v := ?_) (fun W hS => ?_) ?_
          rotate_left
          · try dsimp only at hS
            have z0 := (hS.r2.cells HKN.out).1
            rw [HZ.out] at z0
            go_simp
            try with_reducible rfl
          (try dsimp only [Act.put]); try simp only [pt1, pt2, pt3]
          refine tk 4 (v := ?_) (fun W hS => ?_) ?_
          rotate_left
          · try dsimp only at hS
            have z0 := hS.t.b.x.cell 0
            have z1 := hS.t.b.x.cell 1
            have z2 := hS.t.b.x.cell 2
            have z3 := hS.t.b.x.cell 3
            have z4 := hS.t.b.x.cell 4
            have z5 := hS.t.b.x.cell 5
            go_simp
            try with_reducible rfl
          (try dsimp only [Act.put]); try simp only [pt1, pt2, pt3]
          refine tk 5 (v := ?_) (fun W hS => ?_) ?_
          rotate_left
          · (go_simp; try with_reducible rfl)
          (try dsimp only [Act.put]); try simp only [pt1, pt2, pt3]
          refine rdy 6 (fun K hK => ?_)
          have HBS0 := HBS
          go_simp
          refine (HRK.out _ HBS0.out.t.b).mono ?_
          rintro e wn ⟨rfl, hb⟩
          have HBS := Lib.hid (HBS0.out.step hb)
          clear hb HBS0
          refine hK.out _ _ HBS.out (fun hHeld => ?_)
          clear hK K
          (try dsimp only [Act.put]); try simp only [pt1, pt2, pt3]
          refine tk 7 (v := ?_) (fun W hS => ?_) ?_
          rotate_left
          · (go_simp; try with_reducible rfl)
          (try dsimp only [Act.put]); try simp only [pt1, pt2, pt3]
          refine wpAnyH_done (by kernel_rfl) ?_ _
          clear hHeld
          have HN := HBS
          clear HXN HRK HBS
          go_wp2_with fail
          go_roundw
          case rel => exact ⟨k + 1, by go_num, by omega, HN⟩
          case measure => simp [intOf]; omega
        · obtain rfl : n0 = k := by omega
          have j1 : ¬ (n0 : Int) < (n0 : Int) := by omega
          have HQ := Lib.hid HW.out
          clear HW hk
          go_wp2_with fail
          go_loopw [11] (fun i wy => ∃ k : Nat, i = .int .i64 (k : Int) ∧ k ≤ n2 ∧ Hid (Ld17 w L S A0 A1 A2 A3 A4 n0 n1 n2 n3 n4 c0 c1 c2 c3 c4 sq g1 g2 g3 A m cc (all11 D n1) wy)) (fun i _ => n2 - (intOf i).toNat)
          case atStart => exact ⟨0, rfl, by omega, HQ⟩
          case round =>
            clear HQ
            obtain ⟨k, rfl, hk, HW⟩ := hrel
            by_cases hkn : k < n2
            · have i0 : (0 : Int) ≤ (k : Int) := by omega
              have i1 : (k : Int) < (n2 : Int) := by omega
              have HKN := Lib.hid hkn
              have HRK := Lib.hid (HRL.out (k : Int))
              clear HRL HAI HAW HDE HDL HRA
              have HXN : Hid (Ld17 w L S A0 A1 A2 A3 A4 n0 n1 n2 n3 n4 c0 c1 c2 c3 c4 sq g1 g2 g3 A m cc (all11 D n1) wr.drew) := Lib.hid (HW.out.step (Below.refl _ _).drew)
              clear HW
              obtain ⟨wn, hwn⟩ : ∃ W, wr.drew = W := ⟨_, rfl⟩
              rw [hwn] at HXN
              go_wp2_with fail
              refine wp_region_held_drew (S := Ld17 w L S A0 A1 A2 A3 A4 n0 n1 n2 n3 n4 c0 c1 c2 c3 c4 sq g1 g2 g3 A m cc (all11 D n1)) (by kernel_rfl) (by rw [hwn]; exact HXN.out) (fun hHeld => ?_)
              rw [hwn] at hHeld ⊢
              clear hwn
              have HBS := HXN
              refine tk 0 (v := ?_) (fun W hS => ?_) ?_
              rotate_left
              · (go_simp; try with_reducible rfl)
              (try dsimp only [Act.put]); try simp only [pt1, pt2, pt3]
              refine tk 1 (v := ?_) (fun W hS => ?_) ?_
              rotate_left
              · (go_simp; try with_reducible rfl)
              (try dsimp only [Act.put]); try simp only [pt1, pt2, pt3]
              refine tk 2 (v := ?_) (fun W hS => ?_) ?_
              rotate_left
              · (go_simp; try with_reducible rfl)
              (try dsimp only [Act.put]); try simp only [pt1, pt2, pt3]
              refine tk 3 (v := ?_) (fun W hS => ?_) ?_
              rotate_left
              · try dsimp only at hS
                have z0 := (hS.r3.cells HKN.out).1
                go_simp
                try with_reducible rfl
              (try dsimp only [Act.put]); try simp only [pt1, pt2, pt3]
              refine tk 4 (v := ?_) (fun W hS => ?_) ?_
              rotate_left
              · try dsimp only at hS
                have z0 := hS.t.b.x.cell 0
                have z1 := hS.t.b.x.cell 1
                have z2 := hS.t.b.x.cell 2
                have z3 := hS.t.b.x.cell 3
                have z4 := hS.t.b.x.cell 4
                have z5 := hS.t.b.x.cell 5
                go_simp
                try with_reducible rfl
              (try dsimp only [Act.put]); try simp only [pt1, pt2, pt3]
              refine tk 5 (v := ?_) (fun W hS => ?_) ?_
              rotate_left
              · (go_simp; try with_reducible rfl)
              (try dsimp only [Act.put]); try simp only [pt1, pt2, pt3]
              refine rdy 6 (fun K hK => ?_)
              have HBS0 := HBS
              go_simp
              refine (HRK.out _ HBS0.out.t.b).mono ?_
              rintro e wn ⟨rfl, hb⟩
              have HBS := Lib.hid (HBS0.out.step hb)
              clear hb HBS0
              refine hK.out _ _ HBS.out (fun hHeld => ?_)
              clear hK K
              (try dsimp only [Act.put]); try simp only [pt1, pt2, pt3]
              refine tk 7 (v := ?_) (fun W hS => ?_) ?_
              rotate_left
              · (go_simp; try with_reducible rfl)
              (try dsimp only [Act.put]); try simp only [pt1, pt2, pt3]
              refine wpAnyH_done (by kernel_rfl) ?_ _
              clear hHeld
              have HN := HBS
              clear HXN HRK HBS
              go_wp2_with fail
              go_roundw
              case rel => exact ⟨k + 1, by go_num, by omega, HN⟩
              case measure => simp [intOf]; omega
            · obtain rfl : n2 = k := by omega
              have j2 : ¬ (n2 : Int) < (n2 : Int) := by omega
              have HQ := Lib.hid HW.out
              have HM : Hid ((dea17 S).length = m) := Lib.hid (by rw [HDL.out]; exact HQ.out.t.l)
              have hmb : m ≤ 1000 := by have := HM.out; have h2 := all11_len D n1; have h3 := HDL.out; rw [h3] at this; omega
              obtain ⟨bc, hbc⟩ : ∃ b, us14 usC S.C c = b := ⟨_, rfl⟩
              have HCO := Lib.hid (fun W (h : Bx14 w S A0 A1 A2 A3 A4 n0 n1 n2 n3 n4 c0 c1 c2 c3 c4 sq W) => rCoin14 (.agg #[.slice A0 n0 c0, .slice A1 n1 c1, .slice A2 n2 c2, .slice A3 n3 c3, .slice A4 n4 c4, .int .i64 sq]) S c bc W h.st hbc)
              obtain ⟨z, hz⟩ : ∃ z, amt17 S c S.T.length = z := ⟨_, rfl⟩
              have HRK : Hid (∀ W (h : Bx14 w S A0 A1 A2 A3 A4 n0 n1 n2 n3 n4 c0 c1 c2 c3 c4 sq W), Calls Try.prog 13 #[(.agg #[.slice A0 n0 c0, .slice A1 n1 c1, .slice A2 n2 c2, .slice A3 n3 c3, .slice A4 n4 c4, .int .i64 sq]), .int .i64 c] W fun e w' => e = .returned (.int .i64 z) ∧ Below W.heap.size W w') := Lib.hid (fun W h => by
                have h1 := HRA.out c W h
                rwa [hz] at h1)
              have hselfe : ∀ b : Bool, (b == b) = true := fun b => by simp
              have HAE : Hid (aw17 S.C.length (fun x => amn17 S ((x : Nat) : Int)) c = (bc && decide (z > 0))) := Lib.hid (by
                have h1 := HAI.out c
                rw [hz] at h1
                cases bc with
                | true =>
                  have h2 := us15_lt hbc
                  rw [aw17, decide_eq_true h2, Bool.true_and, Bool.true_and]
                  refine decide_eq_decide.2 ?_
                  rw [show (((c.toNat : Nat) : Int)) = c by omega]
                  omega
                | false =>
                  rw [Bool.false_and]
                  by_cases h2 : 0 ≤ c ∧ c < (S.C.length : Int)
                  · rw [aw17, decide_eq_true h2, Bool.true_and]
                    refine decide_eq_false ?_
                    rw [show (((c.toNat : Nat) : Int)) = c by omega, amn17_no HFT.out hbc]
                    omega
                  · exact aw17_out h2)
              have HAX : Hid (∀ W (h : Bx14 w S A0 A1 A2 A3 A4 n0 n1 n2 n3 n4 c0 c1 c2 c3 c4 sq W), Calls Try.prog 15 #[(.agg #[.slice A0 n0 c0, .slice A1 n1 c1, .slice A2 n2 c2, .slice A3 n3 c3, .slice A4 n4 c4, .int .i64 sq]), .int .i64 c] W fun e w' => e = .returned (.bool (bc && decide (z > 0))) ∧ Below W.heap.size W w') := Lib.hid (fun W h => by
                have h1 := HAW.out W h
                rwa [HAE.out] at h1)
              have HQR : Hid (∀ W, Ld17 w L S A0 A1 A2 A3 A4 n0 n1 n2 n3 n4 c0 c1 c2 c3 c4 sq g1 g2 g3 A m cc (all11 D n1) W → Rd W W.heap.size A (dea17 S)) := Lib.hid (fun W h => by rw [HDL.out]; exact h.t.rd)
              clear HRL HAI HAW HRA HAE HW hbc hz hk
              cases bc with
              | false =>
                simp only [Bool.false_and] at HAX
                have HXN : Hid (Ld17 w L S A0 A1 A2 A3 A4 n0 n1 n2 n3 n4 c0 c1 c2 c3 c4 sq g1 g2 g3 A m cc (all11 D n1) wr.drew) := Lib.hid (HQ.out.step (Below.refl _ _).drew)
                clear HQ
                obtain ⟨wn, hwn⟩ : ∃ W, wr.drew = W := ⟨_, rfl⟩
                rw [hwn] at HXN
                go_wp2_with fail
                refine wp_region_held_drew (S := Ld17 w L S A0 A1 A2 A3 A4 n0 n1 n2 n3 n4 c0 c1 c2 c3 c4 sq g1 g2 g3 A m cc (all11 D n1)) (by kernel_rfl) (by rw [hwn]; exact HXN.out) (fun hHeld => ?_)
                rw [hwn] at hHeld ⊢
                clear hwn
                have HBS := HXN
                refine tk 0 (v := ?_) (fun W hS => ?_) ?_
                rotate_left
                · try dsimp only at hS
                  have z0 := hS.t.b.x.cell 0
                  have z1 := hS.t.b.x.cell 1
                  have z2 := hS.t.b.x.cell 2
                  have z3 := hS.t.b.x.cell 3
                  have z4 := hS.t.b.x.cell 4
                  have z5 := hS.t.b.x.cell 5
                  go_simp
                  try with_reducible rfl
                (try dsimp only [Act.put]); try simp only [pt1, pt2, pt3]
                refine tk 1 (v := ?_) (fun W hS => ?_) ?_
                rotate_left
                · (go_simp; try with_reducible rfl)
                (try dsimp only [Act.put]); try simp only [pt1, pt2, pt3]
                refine tk 3 (v := ?_) (fun W hS => ?_) ?_
                rotate_left
                · try dsimp only at hS
                  have z0 := hS.t.b.x.cell 0
                  have z1 := hS.t.b.x.cell 1
                  have z2 := hS.t.b.x.cell 2
                  have z3 := hS.t.b.x.cell 3
                  have z4 := hS.t.b.x.cell 4
                  have z5 := hS.t.b.x.cell 5
                  go_simp
                  try with_reducible rfl
                (try dsimp only [Act.put]); try simp only [pt1, pt2, pt3]
                refine tk 4 (v := ?_) (fun W hS => ?_) ?_
                rotate_left
                · (go_simp; try with_reducible rfl)
                (try dsimp only [Act.put]); try simp only [pt1, pt2, pt3]
                refine rdy 2 (fun K hK => ?_)
                have HBS0 := HBS
                go_simp
                refine (HAX.out _ HBS0.out.t.b).mono ?_
                rintro e wn ⟨rfl, hb⟩
                have HBS := Lib.hid (HBS0.out.step hb)
                clear hb HBS0
                refine hK.out _ _ HBS.out (fun hHeld => ?_)
                clear hK K
                (try dsimp only [Act.put]); try simp only [pt1, pt2, pt3]
                refine rdy 5 (fun K hK => ?_)
                have HBS0 := HBS
                go_simp
                refine (HCO.out _ HBS0.out.t.b).mono ?_
                rintro e wn ⟨rfl, hb⟩
                have HBS := Lib.hid (HBS0.out.step hb)
                clear hb HBS0
                refine hK.out _ _ HBS.out (fun hHeld => ?_)
                clear hK K
                (try dsimp only [Act.put]); try simp only [pt1, pt2, pt3]
                refine tk 6 (v := ?_) (fun W hS => ?_) ?_
                rotate_left
                · (go_simp; try with_reducible rfl)
                (try dsimp only [Act.put]); try simp only [pt1, pt2, pt3]
                refine sk 7 ?_
                (try dsimp only [Act.put]); try simp only [pt1, pt2, pt3]
                refine sk 8 ?_
                (try dsimp only [Act.put]); try simp only [pt1, pt2, pt3]
                refine sk 9 ?_
                (try dsimp only [Act.put]); try simp only [pt1, pt2, pt3]
                refine sk 10 ?_
                (try dsimp only [Act.put]); try simp only [pt1, pt2, pt3]
                refine tk 11 (v := ?_) (fun W hS => ?_) ?_
                rotate_left
                · (go_simp; try with_reducible rfl)
                (try dsimp only [Act.put]); try simp only [pt1, pt2, pt3]
                refine tk 12 (v := ?_) (fun W hS => ?_) ?_
                rotate_left
                · (go_simp; try with_reducible rfl)
                (try dsimp only [Act.put]); try simp only [pt1, pt2, pt3]
                refine tk 13 (v := ?_) (fun W hS => ?_) ?_
                rotate_left
                · (go_simp; try with_reducible rfl)
                (try dsimp only [Act.put]); try simp only [pt1, pt2, pt3]
                refine tk 14 (v := ?_) (fun W hS => ?_) ?_
                rotate_left
                · try dsimp only at hS
                  have z0 := hS.t.b.x.cell 0
                  have z1 := hS.t.b.x.cell 1
                  have z2 := hS.t.b.x.cell 2
                  have z3 := hS.t.b.x.cell 3
                  have z4 := hS.t.b.x.cell 4
                  have z5 := hS.t.b.x.cell 5
                  go_simp
                  try with_reducible rfl
                (try dsimp only [Act.put]); try simp only [pt1, pt2, pt3]
                refine tk 16 (v := ?_) (fun W hS => ?_) ?_
                rotate_left
                · (go_simp; try with_reducible rfl)
                (try dsimp only [Act.put]); try simp only [pt1, pt2, pt3]
                refine rdy 15 (fun K hK => ?_)
                have HBS0 := HBS
                go_simp
                refine (HDE.out _ HBS0.out.t.b).mono ?_
                rintro e wn ⟨Ad, cd, rfl, hr, hb⟩
                have HBS := Lib.hid (HBS0.out.step hb)
                rw [HM.out]
                have HRD := Lib.hid hr
                clear hr
                clear hb HBS0
                refine hK.out _ _ HBS.out (fun hHeld => ?_)
                clear hK K
                (try dsimp only [Act.put]); try simp only [pt1, pt2, pt3]
                refine rdy 17 (fun K hK => ?_)
                have HBS0 := HBS
                go_simp
                refine (rints11_yes Ad A (dea17 S) m cd cc wn HM.out HRD.out (HQR.out _ HBS0.out) (by omega)).mono ?_
                rintro e wm ⟨rfl, hg⟩
                have hb := below17_of hg
                have HBS := Lib.hid (HBS0.out.step hb)
                clear hb hg HBS0 HRD
                obtain ⟨wn, hwn⟩ : ∃ W, W = wm := ⟨_, rfl⟩
                subst hwn
                refine hK.out _ _ HBS.out (fun hHeld => ?_)
                clear hK K
                (try dsimp only [Act.put]); try simp only [pt1, pt2, pt3]
                refine tk 18 (v := ?_) (fun W hS => ?_) ?_
                rotate_left
                · (go_simp; try with_reducible rfl)
                (try dsimp only [Act.put]); try simp only [pt1, pt2, pt3]
                refine tk 19 (v := ?_) (fun W hS => ?_) ?_
                rotate_left
                · (go_simp; try with_reducible rfl)
                (try dsimp only [Act.put]); try simp only [pt1, pt2, pt3]
                refine rdy 20 (fun K hK => ?_)
                have HBS0 := HBS
                go_simp
                refine (alive17_any _).mono ?_
                rintro e wn ⟨rfl, hb⟩
                have HBS := Lib.hid (HBS0.out.step hb)
                clear hb HBS0
                refine hK.out _ _ HBS.out (fun hHeld => ?_)
                clear hK K
                (try dsimp only [Act.put]); try simp only [pt1, pt2, pt3]
                refine tk 21 (v := ?_) (fun W hS => ?_) ?_
                rotate_left
                · (go_simp; try with_reducible rfl)
                (try dsimp only [Act.put]); try simp only [pt1, pt2, pt3]
                refine rdy 22 (fun K hK => ?_)
                go_simp
                refine hK.out _ _ HBS.out (fun hHeld => ?_)
                clear hK K
                (try dsimp only [Act.put]); try simp only [pt1, pt2, pt3]
                refine wpAnyH_done (by kernel_rfl) ?_ _
                clear hHeld
                go_wp2_with fail
                go_ret
                exact ⟨rfl, HBS.out.t.b.b⟩
              | true =>
                simp only [Bool.true_and] at HAX
                have HXN : Hid (Ld17 w L S A0 A1 A2 A3 A4 n0 n1 n2 n3 n4 c0 c1 c2 c3 c4 sq g1 g2 g3 A m cc (all11 D n1) wr.drew) := Lib.hid (HQ.out.step (Below.refl _ _).drew)
                clear HQ
                obtain ⟨wn, hwn⟩ : ∃ W, wr.drew = W := ⟨_, rfl⟩
                rw [hwn] at HXN
                go_wp2_with fail
                refine wp_region_held_drew (S := Ld17 w L S A0 A1 A2 A3 A4 n0 n1 n2 n3 n4 c0 c1 c2 c3 c4 sq g1 g2 g3 A m cc (all11 D n1)) (by kernel_rfl) (by rw [hwn]; exact HXN.out) (fun hHeld => ?_)
                rw [hwn] at hHeld ⊢
                clear hwn
                have HBS := HXN
                refine tk 0 (v := ?_) (fun W hS => ?_) ?_
                rotate_left
                · try dsimp only at hS
                  have z0 := hS.t.b.x.cell 0
                  have z1 := hS.t.b.x.cell 1
                  have z2 := hS.t.b.x.cell 2
                  have z3 := hS.t.b.x.cell 3
                  have z4 := hS.t.b.x.cell 4
                  have z5 := hS.t.b.x.cell 5
                  go_simp
                  try with_reducible rfl
                (try dsimp only [Act.put]); try simp only [pt1, pt2, pt3]
                refine tk 1 (v := ?_) (fun W hS => ?_) ?_
                rotate_left
                · (go_simp; try with_reducible rfl)
                (try dsimp only [Act.put]); try simp only [pt1, pt2, pt3]
                refine tk 3 (v := ?_) (fun W hS => ?_) ?_
                rotate_left
                · try dsimp only at hS
                  have z0 := hS.t.b.x.cell 0
                  have z1 := hS.t.b.x.cell 1
                  have z2 := hS.t.b.x.cell 2
                  have z3 := hS.t.b.x.cell 3
                  have z4 := hS.t.b.x.cell 4
                  have z5 := hS.t.b.x.cell 5
                  go_simp
                  try with_reducible rfl
                (try dsimp only [Act.put]); try simp only [pt1, pt2, pt3]
                refine tk 4 (v := ?_) (fun W hS => ?_) ?_
                rotate_left
                · (go_simp; try with_reducible rfl)
                (try dsimp only [Act.put]); try simp only [pt1, pt2, pt3]
                refine rdy 2 (fun K hK => ?_)
                have HBS0 := HBS
                go_simp
                refine (HAX.out _ HBS0.out.t.b).mono ?_
                rintro e wn ⟨rfl, hb⟩
                have HBS := Lib.hid (HBS0.out.step hb)
                clear hb HBS0
                refine hK.out _ _ HBS.out (fun hHeld => ?_)
                clear hK K
                (try dsimp only [Act.put]); try simp only [pt1, pt2, pt3]
                refine rdy 5 (fun K hK => ?_)
                have HBS0 := HBS
                go_simp
                refine (HCO.out _ HBS0.out.t.b).mono ?_
                rintro e wn ⟨rfl, hb⟩
                have HBS := Lib.hid (HBS0.out.step hb)
                clear hb HBS0
                refine hK.out _ _ HBS.out (fun hHeld => ?_)
                clear hK K
                (try dsimp only [Act.put]); try simp only [pt1, pt2, pt3]
                refine tk 6 (v := ?_) (fun W hS => ?_) ?_
                rotate_left
                · (go_simp; try with_reducible rfl)
                (try dsimp only [Act.put]); try simp only [pt1, pt2, pt3]
                refine tk 7 (v := ?_) (fun W hS => ?_) ?_
                rotate_left
                · try dsimp only at hS
                  have z0 := hS.t.b.x.cell 0
                  have z1 := hS.t.b.x.cell 1
                  have z2 := hS.t.b.x.cell 2
                  have z3 := hS.t.b.x.cell 3
                  have z4 := hS.t.b.x.cell 4
                  have z5 := hS.t.b.x.cell 5
                  go_simp
                  try with_reducible rfl
                (try dsimp only [Act.put]); try simp only [pt1, pt2, pt3]
                refine tk 8 (v := ?_) (fun W hS => ?_) ?_
                rotate_left
                · (go_simp; try with_reducible rfl)
                (try dsimp only [Act.put]); try simp only [pt1, pt2, pt3]
                refine rdy 9 (fun K hK => ?_)
                have HBS0 := HBS
                go_simp
                refine (HRK.out _ HBS0.out.t.b).mono ?_
                rintro e wn ⟨rfl, hb⟩
                have HBS := Lib.hid (HBS0.out.step hb)
                clear hb HBS0
                refine hK.out _ _ HBS.out (fun hHeld => ?_)
                clear hK K
                (try dsimp only [Act.put]); try simp only [pt1, pt2, pt3]
                refine tk 10 (v := ?_) (fun W hS => ?_) ?_
                rotate_left
                · (go_simp; try with_reducible rfl)
                (try dsimp only [Act.put]); try simp only [pt1, pt2, pt3]
                refine tk 11 (v := ?_) (fun W hS => ?_) ?_
                rotate_left
                · (go_simp; try with_reducible rfl)
                (try dsimp only [Act.put]); try simp only [pt1, pt2, pt3]
                refine tk 12 (v := ?_) (fun W hS => ?_) ?_
                rotate_left
                · (go_simp; try with_reducible rfl)
                (try dsimp only [Act.put]); try simp only [pt1, pt2, pt3]
                refine tk 13 (v := ?_) (fun W hS => ?_) ?_
                rotate_left
                · (go_simp; try with_reducible rfl)
                (try dsimp only [Act.put]); try simp only [pt1, pt2, pt3]
                refine tk 14 (v := ?_) (fun W hS => ?_) ?_
                rotate_left
                · try dsimp only at hS
                  have z0 := hS.t.b.x.cell 0
                  have z1 := hS.t.b.x.cell 1
                  have z2 := hS.t.b.x.cell 2
                  have z3 := hS.t.b.x.cell 3
                  have z4 := hS.t.b.x.cell 4
                  have z5 := hS.t.b.x.cell 5
                  go_simp
                  try with_reducible rfl
                (try dsimp only [Act.put]); try simp only [pt1, pt2, pt3]
                refine tk 16 (v := ?_) (fun W hS => ?_) ?_
                rotate_left
                · (go_simp; try with_reducible rfl)
                (try dsimp only [Act.put]); try simp only [pt1, pt2, pt3]
                refine rdy 15 (fun K hK => ?_)
                have HBS0 := HBS
                go_simp
                refine (HDE.out _ HBS0.out.t.b).mono ?_
                rintro e wn ⟨Ad, cd, rfl, hr, hb⟩
                have HBS := Lib.hid (HBS0.out.step hb)
                rw [HM.out]
                have HRD := Lib.hid hr
                clear hr
                clear hb HBS0
                refine hK.out _ _ HBS.out (fun hHeld => ?_)
                clear hK K
                (try dsimp only [Act.put]); try simp only [pt1, pt2, pt3]
                refine rdy 17 (fun K hK => ?_)
                have HBS0 := HBS
                go_simp
                refine (rints11_yes Ad A (dea17 S) m cd cc wn HM.out HRD.out (HQR.out _ HBS0.out) (by omega)).mono ?_
                rintro e wm ⟨rfl, hg⟩
                have hb := below17_of hg
                have HBS := Lib.hid (HBS0.out.step hb)
                clear hb hg HBS0 HRD
                obtain ⟨wn, hwn⟩ : ∃ W, W = wm := ⟨_, rfl⟩
                subst hwn
                refine hK.out _ _ HBS.out (fun hHeld => ?_)
                clear hK K
                (try dsimp only [Act.put]); try simp only [pt1, pt2, pt3]
                refine tk 18 (v := ?_) (fun W hS => ?_) ?_
                rotate_left
                · (go_simp; try with_reducible rfl)
                (try dsimp only [Act.put]); try simp only [pt1, pt2, pt3]
                refine tk 19 (v := ?_) (fun W hS => ?_) ?_
                rotate_left
                · (go_simp; try with_reducible rfl)
                (try dsimp only [Act.put]); try simp only [pt1, pt2, pt3]
                refine rdy 20 (fun K hK => ?_)
                have HBS0 := HBS
                go_simp
                refine (alive17_any _).mono ?_
                rintro e wn ⟨rfl, hb⟩
                have HBS := Lib.hid (HBS0.out.step hb)
                clear hb HBS0
                refine hK.out _ _ HBS.out (fun hHeld => ?_)
                clear hK K
                (try dsimp only [Act.put]); try simp only [pt1, pt2, pt3]
                refine tk 21 (v := ?_) (fun W hS => ?_) ?_
                rotate_left
                · (go_simp; try with_reducible rfl)
                (try dsimp only [Act.put]); try simp only [pt1, pt2, pt3]
                refine rdy 22 (fun K hK => ?_)
                go_simp
                refine hK.out _ _ HBS.out (fun hHeld => ?_)
                clear hK K
                (try dsimp only [Act.put]); try simp only [pt1, pt2, pt3]
                refine wpAnyH_done (by kernel_rfl) ?_ _
                clear hHeld
                go_wp2_with fail
                go_ret
                exact ⟨rfl, HBS.out.t.b.b⟩
theorem liveTells_all (W : World) (A00 A01 A02 A03 A04 : Option Addr) (n00 n01 n02 n03 n04 c00 c01 c02 c03 c04 : Nat) (q0 : Int) (S0 : Sv14) (a1 : Int) (h0 : Small14 n00 n01 n02 n03 n04 → SA14 W S0 A00 A01 A02 A03 A04 n00 n01 n02 n03 n04 c00 c01 c02 c03 c04 q0) (_ : -9223372036854775808 ≤ a1) (_ : a1 ≤ 9223372036854775807) :
    Calls Try.prog 3 #[.agg #[.slice A00 n00 c00, .slice A01 n01 c01, .slice A02 n02 c02, .slice A03 n03 c03, .slice A04 n04 c04, .int .i64 q0], .int .i64 a1] W fun e w' => e = .returned (.bool true) ∧ Below W.heap.size W w' := by
  by_cases hn : Small14 n00 n01 n02 n03 n04
  case neg => exact ltells17_no1 A00 A01 A02 A03 A04 n00 n01 n02 n03 n04 c00 c01 c02 c03 c04 q0 a1 S0 W hn
  cases hg : light17 S0 with
  | false => exact ltells17_no2 A00 A01 A02 A03 A04 n00 n01 n02 n03 n04 c00 c01 c02 c03 c04 q0 a1 S0 W (h0 hn) hn hg
  | true =>
    by_cases hf : Fine14 S0
    · exact ltells17_yes A00 A01 A02 A03 A04 n00 n01 n02 n03 n04 c00 c01 c02 c03 c04 q0 a1 S0 W (h0 hn) hn hg hf
    · exact ltells17_no3 A00 A01 A02 A03 A04 n00 n01 n02 n03 n04 c00 c01 c02 c03 c04 q0 a1 S0 W (h0 hn) hn hg hf
end Go.Proofs.Ytllcmjdfgbiijaa
namespace Go.Proofs.Ytllcmjdfgbiijaa
open Go.ChangeShapes Go.WideShapes Go.ChangeAt Go.RowKit
set_option maxRecDepth 100000
section
variable {H : Type} {enc : TypeId × Value → H} {P : Program}
/-- All arguments read behind the call as they did before. -/
theorem trodAll_below (hl : laidOutB P = true) {W W' : World} (hb : Below W.heap.size W W') : ∀ {ts : List TypeId} {vs : List Value} {ds : List (DataW H)} {ps : List MemPlace},
    ts.all (fun t => P.readableRec t && decide (t < P.types.size)) = true → DataW.TrodAll enc P W 0 (fun _ => true) true ts vs ds ps → (∀ x ∈ ps, x.block < W.heap.size) →
      DataW.TrodAll enc P W' 0 (fun b => decide (b < W.heap.size)) true ts vs ds ps
  | [], _, _, _, _, h, _ => by
    obtain ⟨rfl, rfl, rfl⟩ := trodAll_nil h
    exact trodAll_mk0
  | t :: ts, _, _, _, hr, h, hlt => by
    obtain ⟨v, vs, d, ds, p, q, rfl, rfl, rfl, h1, h2⟩ := trodAll_cons h
    simp only [List.all_cons, Bool.and_eq_true, decide_eq_true_eq] at hr
    exact trodAll_cons_mk (Below.trod hl hr.1.1 hr.1.2 h1 hb (fun x hx => hlt x (by simp [hx]))) (trodAll_below hl hb (by simpa using hr.2) h2 (fun x hx => hlt x (by simp [hx])))
/-- A law's answer: true; all that was there is as it was. -/
theorem law_post {f : Func} {s : ChangeSpec} {tb : TypeId} {W W' : World} {args : Array Value} {ds gs : List (DataW H)} {before : List MemPlace}
    (hl : laidOutB P = true) (hro : f.params.toList.all (fun t => P.readableRec t && decide (t < P.types.size)) = true) (htb : P.underlying tb = some .bool) (hrt : f.resultTypes = #[tb]) (hvars : s.vars = [])
    (hW : DataW.Whole enc P f.params.toList s.vars false W args.toList ds gs before) (hspec : s.fn H ds = { results := [.lit (.bool true)], args := ds }) (hb : Below W.heap.size W W') :
    s.post enc P f false true false false W args (.bool true) W' := by
  have hW' := hW
  obtain ⟨p, q, hA, hV, rfl, hfz, hnd⟩ := hW
  rw [hvars] at hV
  obtain ⟨rfl, rfl⟩ := trodVars_none hV
  refine ⟨ds, [], p ++ [], [], p, [], hW', ?_, ?_, ?_, World.keptBut_mono (fun x hx => ⟨hx, ?_⟩) (hb.frame _), fun h => by cases h⟩
  · rw [List.append_nil, hspec, hrt]
    exact trodAll_cons_mk (shut_bool htb _) trodAll_mk0
  · rw [List.append_nil, hspec]
    exact trodAll_below hl hb hro hA (fun x hx => by simpa using hW'.lt x (by simp [hx]))
  · rw [List.append_nil, hspec, hvars]
    rfl
  · simpa using hx
end
theorem own_knob : ownKnob Try.prog.godebug = none := by kernel_rfl
theorem laid_out : laidOutB Try.prog = true := by kernel_rfl
end Go.Proofs.Ytllcmjdfgbiijaa
namespace Go.Proofs.Ytllcmjdfgbiijaa
open Go.ChangeShapes Go.WideShapes Go.ChangeAt Go.RowKit
set_option maxRecDepth 100000
theorem open_i64 {H : Type} {enc : TypeId × Value → H} {W : World} {base : Nat} {v : Value} {d : DataW H} {p : List MemPlace} (hv : Value.okWide Try.prog W .any base 3 v) (h : DataW.Trod enc Try.prog W 0 (fun _ => true) true 3 v d p) :
    ∃ a : Int, v = .int .i64 a ∧ -9223372036854775808 ≤ a ∧ a ≤ 9223372036854775807 := by
  obtain ⟨a, rfl, _, _, w⟩ := open_int Try.underlying3 hv h
  have x : -9223372036854775808 ≤ a ∧ a ≤ 9223372036854775807 := by simpa [Lit.wf, IntKind.min, IntKind.max, IntKind.signed, IntKind.bits] using w
  exact ⟨a, rfl, x.1, x.2⟩
end Go.Proofs.Ytllcmjdfgbiijaa
