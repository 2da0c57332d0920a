/-
  For any state that may be, and any two of its used coins: a ticket that would close a ring makes a state that may not be; any other one leaves one that may be. No conditions.
-/
import Derived.Test.YtljpgfnjaagkaaaFC12
import Derived.Test.YtljpgfnjaagkaaaRows
import Derived.Below
import Derived.ProofKit
import Derived.OpenShut
import Derived.Carry
import Derived.Lib.SmallJoins
import Derived.ChangeMaps5
import Derived.Lib.AppendStr
import Derived.Test.YtljpgfnjaagkaaaChecked
import Derived.Deep.Slices
import Derived.Deep.Strs
namespace Go.Proofs.Ytljpgfnjaagkaaa
open Go.RowKit
set_option maxRecDepth 100000
set_option maxHeartbeats 2000000 in
theorem lcloses15_no0 (A0 A1 A2 A3 A4 : Option Addr) (n0 n1 n2 n3 n4 c0 c1 c2 c3 c4 : Nat) (sq a b : Int) (S : Sv14) (w : World) (hn : ¬ Small14 n0 n1 n2 n3 n4) :
    Calls Try.prog 4 #[(.agg #[.slice A0 n0 c0, .slice A1 n1 c1, .slice A2 n2 c2, .slice A3 n3 c3, .slice A4 n4 c4, .int .i64 sq]), .int .i64 a, .int .i64 b] w fun e w' => e = .returned (.bool true) ∧ Below w.heap.size w w' := by
  have hb0 := b1' w (.cells #[.slice A0 n0 c0, .slice A1 n1 c1, .slice A2 n2 c2, .slice A3 n3 c3, .slice A4 n4 c4, .int .i64 sq] 28)
  have hk0 := Blk.new w 28 #[.slice A0 n0 c0, .slice A1 n1 c1, .slice A2 n2 c2, .slice A3 n3 c3, .slice A4 n4 c4, .int .i64 sq]
  obtain ⟨W0, hW0⟩ : ∃ W, w.alloc (.cells #[.slice A0 n0 c0, .slice A1 n1 c1, .slice A2 n2 c2, .slice A3 n3 c3, .slice A4 n4 c4, .int .i64 sq] 28) = W := ⟨_, rfl⟩
  rw [hW0] at hb0 hk0
  have p0 := hk0.cell 0
  have p1 := hk0.cell 1
  have p2 := hk0.cell 2
  have p3 := hk0.cell 3
  have p4 := hk0.cell 4
  have p5 := hk0.cell 5
  have HB0 := Lib.hid hb0
  have HC := Lib.hid (fun W => small14 A0 A1 A2 A3 A4 n0 n1 n2 n3 n4 c0 c1 c2 c3 c4 sq false W (by simp [hn]))
  clear hb0 hk0 hn
  go_enter Try.func4, Try.ntmps4
  go_wp2_with fail
  refine (HC.out _).mono ?_
  rintro e u1 ⟨rfl, hb1⟩
  have HB1 := Lib.hid (HB0.out.trans (hb1.mono HB0.out.size))
  clear hb1 HC
  go_wp2_with fail
  refine (alive15_any _).mono ?_
  rintro e u2 ⟨rfl, hb2⟩
  have HB2 := Lib.hid (HB1.out.trans (hb2.mono HB1.out.size))
  clear hb2
  go_wp2_with fail
  go_ret
  exact ⟨rfl, HB2.out⟩
set_option maxHeartbeats 4000000 in
theorem lcloses15_no1 (A0 A1 A2 A3 A4 : Option Addr) (n0 n1 n2 n3 n4 c0 c1 c2 c3 c4 : Nat) (sq a b : Int) (S : Sv14) (w : World) (hs : SA14 w S A0 A1 A2 A3 A4 n0 n1 n2 n3 n4 c0 c1 c2 c3 c4 sq) (hn : Small14 n0 n1 n2 n3 n4) (hf : ¬ Fine14 S) :
    Calls Try.prog 4 #[(.agg #[.slice A0 n0 c0, .slice A1 n1 c1, .slice A2 n2 c2, .slice A3 n3 c3, .slice A4 n4 c4, .int .i64 sq]), .int .i64 a, .int .i64 b] w fun e w' => e = .returned (.bool true) ∧ Below w.heap.size w w' := by
  have hx0 := Bx14.new hs
  have hxn := hx0.step (Below.refl _ _).drew
  obtain ⟨W1, hW1⟩ : ∃ W, w.alloc (.cells #[.slice A0 n0 c0, .slice A1 n1 c1, .slice A2 n2 c2, .slice A3 n3 c3, .slice A4 n4 c4, .int .i64 sq] 28) = W := ⟨_, rfl⟩
  rw [hW1] at hx0 hxn
  have HX1 := Lib.hid hx0
  have p1_0 := hx0.x.cell 0
  have p1_1 := hx0.x.cell 1
  have p1_2 := hx0.x.cell 2
  have p1_3 := hx0.x.cell 3
  have p1_4 := hx0.x.cell 4
  have p1_5 := hx0.x.cell 5
  have HC := Lib.hid (fun W => small14 A0 A1 A2 A3 A4 n0 n1 n2 n3 n4 c0 c1 c2 c3 c4 sq true W (by simp [hn]))
  have HD0 := Lib.hid (fun W h => rfine14 (.agg #[.slice A0 n0 c0, .slice A1 n1 c1, .slice A2 n2 c2, .slice A3 n3 c3, .slice A4 n4 c4, .int .i64 sq]) S false W h (by simp [hf]))
  clear hs hx0 hxn hn hf
  go_enter Try.func4, Try.ntmps4
  go_wp2_with fail
  refine (HC.out _).mono ?_
  rintro e u2 ⟨rfl, hb2⟩
  have HX2 := Lib.hid (HX1.out.step hb2)
  have q2_0 := HX2.out.x.cell 0
  have q2_1 := HX2.out.x.cell 1
  have q2_2 := HX2.out.x.cell 2
  have q2_3 := HX2.out.x.cell 3
  have q2_4 := HX2.out.x.cell 4
  have q2_5 := HX2.out.x.cell 5
  clear hb2 HC
  go_wp2_with fail
  refine (HD0.out _ HX2.out.st).mono ?_
  rintro e u3 ⟨rfl, hb2⟩
  have HX3 := Lib.hid (HX2.out.step hb2)
  have q3_0 := HX3.out.x.cell 0
  have q3_1 := HX3.out.x.cell 1
  have q3_2 := HX3.out.x.cell 2
  have q3_3 := HX3.out.x.cell 3
  have q3_4 := HX3.out.x.cell 4
  have q3_5 := HX3.out.x.cell 5
  clear hb2 HD0
  go_wp2_with fail
  refine (alive15_any _).mono ?_
  rintro e u9 ⟨rfl, hb2⟩
  have HX9 := Lib.hid (HX3.out.step hb2)
  clear hb2
  go_wp2_with fail
  go_ret
  exact ⟨rfl, HX9.out.b⟩
set_option maxHeartbeats 4000000 in
theorem lcloses15_no2 (A0 A1 A2 A3 A4 : Option Addr) (n0 n1 n2 n3 n4 c0 c1 c2 c3 c4 : Nat) (sq a b : Int) (S : Sv14) (w : World) (hs : SA14 w S A0 A1 A2 A3 A4 n0 n1 n2 n3 n4 c0 c1 c2 c3 c4 sq) (hn : Small14 n0 n1 n2 n3 n4) (hf : Fine14 S) (ha : ¬ us14 usC S.C a = true) :
    Calls Try.prog 4 #[(.agg #[.slice A0 n0 c0, .slice A1 n1 c1, .slice A2 n2 c2, .slice A3 n3 c3, .slice A4 n4 c4, .int .i64 sq]), .int .i64 a, .int .i64 b] w fun e w' => e = .returned (.bool true) ∧ Below w.heap.size w w' := by
  have hx0 := Bx14.new hs
  have hxn := hx0.step (Below.refl _ _).drew
  obtain ⟨W1, hW1⟩ : ∃ W, w.alloc (.cells #[.slice A0 n0 c0, .slice A1 n1 c1, .slice A2 n2 c2, .slice A3 n3 c3, .slice A4 n4 c4, .int .i64 sq] 28) = W := ⟨_, rfl⟩
  rw [hW1] at hx0 hxn
  have HX1 := Lib.hid hx0
  have p1_0 := hx0.x.cell 0
  have p1_1 := hx0.x.cell 1
  have p1_2 := hx0.x.cell 2
  have p1_3 := hx0.x.cell 3
  have p1_4 := hx0.x.cell 4
  have p1_5 := hx0.x.cell 5
  have HC := Lib.hid (fun W => small14 A0 A1 A2 A3 A4 n0 n1 n2 n3 n4 c0 c1 c2 c3 c4 sq true W (by simp [hn]))
  have HD0 := Lib.hid (fun W h => rfine14 (.agg #[.slice A0 n0 c0, .slice A1 n1 c1, .slice A2 n2 c2, .slice A3 n3 c3, .slice A4 n4 c4, .int .i64 sq]) S true W h (by simp [hf]))
  have HD1 := Lib.hid (fun W h => rCoin14 (.agg #[.slice A0 n0 c0, .slice A1 n1 c1, .slice A2 n2 c2, .slice A3 n3 c3, .slice A4 n4 c4, .int .i64 sq]) S a false W h (by simpa using ha))
  clear hs hx0 hxn hn hf ha
  go_enter Try.func4, Try.ntmps4
  go_wp2_with fail
  refine (HC.out _).mono ?_
  rintro e u2 ⟨rfl, hb2⟩
  have HX2 := Lib.hid (HX1.out.step hb2)
  have q2_0 := HX2.out.x.cell 0
  have q2_1 := HX2.out.x.cell 1
  have q2_2 := HX2.out.x.cell 2
  have q2_3 := HX2.out.x.cell 3
  have q2_4 := HX2.out.x.cell 4
  have q2_5 := HX2.out.x.cell 5
  clear hb2 HC
  go_wp2_with fail
  refine (HD0.out _ HX2.out.st).mono ?_
  rintro e u3 ⟨rfl, hb2⟩
  have HX3 := Lib.hid (HX2.out.step hb2)
  have q3_0 := HX3.out.x.cell 0
  have q3_1 := HX3.out.x.cell 1
  have q3_2 := HX3.out.x.cell 2
  have q3_3 := HX3.out.x.cell 3
  have q3_4 := HX3.out.x.cell 4
  have q3_5 := HX3.out.x.cell 5
  clear hb2 HD0
  go_wp2_with fail
  refine (HD1.out _ HX3.out.st).mono ?_
  rintro e u4 ⟨rfl, hb2⟩
  have HX4 := Lib.hid (HX3.out.step hb2)
  have q4_0 := HX4.out.x.cell 0
  have q4_1 := HX4.out.x.cell 1
  have q4_2 := HX4.out.x.cell 2
  have q4_3 := HX4.out.x.cell 3
  have q4_4 := HX4.out.x.cell 4
  have q4_5 := HX4.out.x.cell 5
  clear hb2 HD1
  go_wp2_with fail
  refine (alive15_any _).mono ?_
  rintro e u9 ⟨rfl, hb2⟩
  have HX9 := Lib.hid (HX4.out.step hb2)
  clear hb2
  go_wp2_with fail
  go_ret
  exact ⟨rfl, HX9.out.b⟩
set_option maxHeartbeats 4000000 in
theorem lcloses15_no3 (A0 A1 A2 A3 A4 : Option Addr) (n0 n1 n2 n3 n4 c0 c1 c2 c3 c4 : Nat) (sq a b : Int) (S : Sv14) (w : World) (hs : SA14 w S A0 A1 A2 A3 A4 n0 n1 n2 n3 n4 c0 c1 c2 c3 c4 sq) (hn : Small14 n0 n1 n2 n3 n4) (hf : Fine14 S) (ha : us14 usC S.C a = true) (hb : ¬ us14 usC S.C b = true) :
    Calls Try.prog 4 #[(.agg #[.slice A0 n0 c0, .slice A1 n1 c1, .slice A2 n2 c2, .slice A3 n3 c3, .slice A4 n4 c4, .int .i64 sq]), .int .i64 a, .int .i64 b] w fun e w' => e = .returned (.bool true) ∧ Below w.heap.size w w' := by
  have hx0 := Bx14.new hs
  have hxn := hx0.step (Below.refl _ _).drew
  obtain ⟨W1, hW1⟩ : ∃ W, w.alloc (.cells #[.slice A0 n0 c0, .slice A1 n1 c1, .slice A2 n2 c2, .slice A3 n3 c3, .slice A4 n4 c4, .int .i64 sq] 28) = W := ⟨_, rfl⟩
  rw [hW1] at hx0 hxn
  have HX1 := Lib.hid hx0
  have p1_0 := hx0.x.cell 0
  have p1_1 := hx0.x.cell 1
  have p1_2 := hx0.x.cell 2
  have p1_3 := hx0.x.cell 3
  have p1_4 := hx0.x.cell 4
  have p1_5 := hx0.x.cell 5
  have HC := Lib.hid (fun W => small14 A0 A1 A2 A3 A4 n0 n1 n2 n3 n4 c0 c1 c2 c3 c4 sq true W (by simp [hn]))
  have HD0 := Lib.hid (fun W h => rfine14 (.agg #[.slice A0 n0 c0, .slice A1 n1 c1, .slice A2 n2 c2, .slice A3 n3 c3, .slice A4 n4 c4, .int .i64 sq]) S true W h (by simp [hf]))
  have HD1 := Lib.hid (fun W h => rCoin14 (.agg #[.slice A0 n0 c0, .slice A1 n1 c1, .slice A2 n2 c2, .slice A3 n3 c3, .slice A4 n4 c4, .int .i64 sq]) S a true W h ha)
  have HD2 := Lib.hid (fun W h => rCoin14 (.agg #[.slice A0 n0 c0, .slice A1 n1 c1, .slice A2 n2 c2, .slice A3 n3 c3, .slice A4 n4 c4, .int .i64 sq]) S b false W h (by simpa using hb))
  clear hs hx0 hxn hn hf ha hb
  go_enter Try.func4, Try.ntmps4
  go_wp2_with fail
  refine (HC.out _).mono ?_
  rintro e u2 ⟨rfl, hb2⟩
  have HX2 := Lib.hid (HX1.out.step hb2)
  have q2_0 := HX2.out.x.cell 0
  have q2_1 := HX2.out.x.cell 1
  have q2_2 := HX2.out.x.cell 2
  have q2_3 := HX2.out.x.cell 3
  have q2_4 := HX2.out.x.cell 4
  have q2_5 := HX2.out.x.cell 5
  clear hb2 HC
  go_wp2_with fail
  refine (HD0.out _ HX2.out.st).mono ?_
  rintro e u3 ⟨rfl, hb2⟩
  have HX3 := Lib.hid (HX2.out.step hb2)
  have q3_0 := HX3.out.x.cell 0
  have q3_1 := HX3.out.x.cell 1
  have q3_2 := HX3.out.x.cell 2
  have q3_3 := HX3.out.x.cell 3
  have q3_4 := HX3.out.x.cell 4
  have q3_5 := HX3.out.x.cell 5
  clear hb2 HD0
  go_wp2_with fail
  refine (HD1.out _ HX3.out.st).mono ?_
  rintro e u4 ⟨rfl, hb2⟩
  have HX4 := Lib.hid (HX3.out.step hb2)
  have q4_0 := HX4.out.x.cell 0
  have q4_1 := HX4.out.x.cell 1
  have q4_2 := HX4.out.x.cell 2
  have q4_3 := HX4.out.x.cell 3
  have q4_4 := HX4.out.x.cell 4
  have q4_5 := HX4.out.x.cell 5
  clear hb2 HD1
  go_wp2_with fail
  refine (HD2.out _ HX4.out.st).mono ?_
  rintro e u5 ⟨rfl, hb2⟩
  have HX5 := Lib.hid (HX4.out.step hb2)
  have q5_0 := HX5.out.x.cell 0
  have q5_1 := HX5.out.x.cell 1
  have q5_2 := HX5.out.x.cell 2
  have q5_3 := HX5.out.x.cell 3
  have q5_4 := HX5.out.x.cell 4
  have q5_5 := HX5.out.x.cell 5
  clear hb2 HD2
  go_wp2_with fail
  refine (alive15_any _).mono ?_
  rintro e u9 ⟨rfl, hb2⟩
  have HX9 := Lib.hid (HX5.out.step hb2)
  clear hb2
  go_wp2_with fail
  go_ret
  exact ⟨rfl, HX9.out.b⟩
set_option maxHeartbeats 4000000 in
theorem lcloses15_no4 (A0 A1 A2 A3 A4 : Option Addr) (n0 n1 n2 n3 n4 c0 c1 c2 c3 c4 : Nat) (sq a b : Int) (S : Sv14) (w : World) (hs : SA14 w S A0 A1 A2 A3 A4 n0 n1 n2 n3 n4 c0 c1 c2 c3 c4 sq) (hn : Small14 n0 n1 n2 n3 n4) (hf : Fine14 S) (ha : us14 usC S.C a = true) (hb : us14 usC S.C b = true) (hz : b = 0) :
    Calls Try.prog 4 #[(.agg #[.slice A0 n0 c0, .slice A1 n1 c1, .slice A2 n2 c2, .slice A3 n3 c3, .slice A4 n4 c4, .int .i64 sq]), .int .i64 a, .int .i64 b] w fun e w' => e = .returned (.bool true) ∧ Below w.heap.size w w' := by
  have hx0 := Bx14.new hs
  have hxn := hx0.step (Below.refl _ _).drew
  obtain ⟨W1, hW1⟩ : ∃ W, w.alloc (.cells #[.slice A0 n0 c0, .slice A1 n1 c1, .slice A2 n2 c2, .slice A3 n3 c3, .slice A4 n4 c4, .int .i64 sq] 28) = W := ⟨_, rfl⟩
  rw [hW1] at hx0 hxn
  have HX1 := Lib.hid hx0
  have p1_0 := hx0.x.cell 0
  have p1_1 := hx0.x.cell 1
  have p1_2 := hx0.x.cell 2
  have p1_3 := hx0.x.cell 3
  have p1_4 := hx0.x.cell 4
  have p1_5 := hx0.x.cell 5
  have HC := Lib.hid (fun W => small14 A0 A1 A2 A3 A4 n0 n1 n2 n3 n4 c0 c1 c2 c3 c4 sq true W (by simp [hn]))
  have HD0 := Lib.hid (fun W h => rfine14 (.agg #[.slice A0 n0 c0, .slice A1 n1 c1, .slice A2 n2 c2, .slice A3 n3 c3, .slice A4 n4 c4, .int .i64 sq]) S true W h (by simp [hf]))
  have HD1 := Lib.hid (fun W h => rCoin14 (.agg #[.slice A0 n0 c0, .slice A1 n1 c1, .slice A2 n2 c2, .slice A3 n3 c3, .slice A4 n4 c4, .int .i64 sq]) S a true W h ha)
  have HD2 := Lib.hid (fun W h => rCoin14 (.agg #[.slice A0 n0 c0, .slice A1 n1 c1, .slice A2 n2 c2, .slice A3 n3 c3, .slice A4 n4 c4, .int .i64 sq]) S b true W h hb)
  clear hs hx0 hxn hn hf ha hb
  subst hz
  go_enter Try.func4, Try.ntmps4
  go_wp2_with fail
  refine (HC.out _).mono ?_
  rintro e u2 ⟨rfl, hb2⟩
  have HX2 := Lib.hid (HX1.out.step hb2)
  have q2_0 := HX2.out.x.cell 0
  have q2_1 := HX2.out.x.cell 1
  have q2_2 := HX2.out.x.cell 2
  have q2_3 := HX2.out.x.cell 3
  have q2_4 := HX2.out.x.cell 4
  have q2_5 := HX2.out.x.cell 5
  clear hb2 HC
  go_wp2_with fail
  refine (HD0.out _ HX2.out.st).mono ?_
  rintro e u3 ⟨rfl, hb2⟩
  have HX3 := Lib.hid (HX2.out.step hb2)
  have q3_0 := HX3.out.x.cell 0
  have q3_1 := HX3.out.x.cell 1
  have q3_2 := HX3.out.x.cell 2
  have q3_3 := HX3.out.x.cell 3
  have q3_4 := HX3.out.x.cell 4
  have q3_5 := HX3.out.x.cell 5
  clear hb2 HD0
  go_wp2_with fail
  refine (HD1.out _ HX3.out.st).mono ?_
  rintro e u4 ⟨rfl, hb2⟩
  have HX4 := Lib.hid (HX3.out.step hb2)
  have q4_0 := HX4.out.x.cell 0
  have q4_1 := HX4.out.x.cell 1
  have q4_2 := HX4.out.x.cell 2
  have q4_3 := HX4.out.x.cell 3
  have q4_4 := HX4.out.x.cell 4
  have q4_5 := HX4.out.x.cell 5
  clear hb2 HD1
  go_wp2_with fail
  refine (HD2.out _ HX4.out.st).mono ?_
  rintro e u5 ⟨rfl, hb2⟩
  have HX5 := Lib.hid (HX4.out.step hb2)
  have q5_0 := HX5.out.x.cell 0
  have q5_1 := HX5.out.x.cell 1
  have q5_2 := HX5.out.x.cell 2
  have q5_3 := HX5.out.x.cell 3
  have q5_4 := HX5.out.x.cell 4
  have q5_5 := HX5.out.x.cell 5
  clear hb2 HD2
  go_wp2_with fail
  refine (alive15_any _).mono ?_
  rintro e u9 ⟨rfl, hb2⟩
  have HX9 := Lib.hid (HX5.out.step hb2)
  clear hb2
  go_wp2_with fail
  go_ret
  exact ⟨rfl, HX9.out.b⟩
set_option maxHeartbeats 4000000 in
theorem lcloses15_no5 (A0 A1 A2 A3 A4 : Option Addr) (n0 n1 n2 n3 n4 c0 c1 c2 c3 c4 : Nat) (sq a b : Int) (S : Sv14) (w : World) (hs : SA14 w S A0 A1 A2 A3 A4 n0 n1 n2 n3 n4 c0 c1 c2 c3 c4 sq) (hn : Small14 n0 n1 n2 n3 n4) (hf : Fine14 S) (ha : us14 usC S.C a = true) (hb : us14 usC S.C b = true) (hz : b ≠ 0) (hl : ¬ n1 < 96) :
    Calls Try.prog 4 #[(.agg #[.slice A0 n0 c0, .slice A1 n1 c1, .slice A2 n2 c2, .slice A3 n3 c3, .slice A4 n4 c4, .int .i64 sq]), .int .i64 a, .int .i64 b] w fun e w' => e = .returned (.bool true) ∧ Below w.heap.size w w' := by
  have hx0 := Bx14.new hs
  have hxn := hx0.step (Below.refl _ _).drew
  obtain ⟨W1, hW1⟩ : ∃ W, w.alloc (.cells #[.slice A0 n0 c0, .slice A1 n1 c1, .slice A2 n2 c2, .slice A3 n3 c3, .slice A4 n4 c4, .int .i64 sq] 28) = W := ⟨_, rfl⟩
  rw [hW1] at hx0 hxn
  have HX1 := Lib.hid hx0
  have p1_0 := hx0.x.cell 0
  have p1_1 := hx0.x.cell 1
  have p1_2 := hx0.x.cell 2
  have p1_3 := hx0.x.cell 3
  have p1_4 := hx0.x.cell 4
  have p1_5 := hx0.x.cell 5
  have HC := Lib.hid (fun W => small14 A0 A1 A2 A3 A4 n0 n1 n2 n3 n4 c0 c1 c2 c3 c4 sq true W (by simp [hn]))
  have HD0 := Lib.hid (fun W h => rfine14 (.agg #[.slice A0 n0 c0, .slice A1 n1 c1, .slice A2 n2 c2, .slice A3 n3 c3, .slice A4 n4 c4, .int .i64 sq]) S true W h (by simp [hf]))
  have HD1 := Lib.hid (fun W h => rCoin14 (.agg #[.slice A0 n0 c0, .slice A1 n1 c1, .slice A2 n2 c2, .slice A3 n3 c3, .slice A4 n4 c4, .int .i64 sq]) S a true W h ha)
  have HD2 := Lib.hid (fun W h => rCoin14 (.agg #[.slice A0 n0 c0, .slice A1 n1 c1, .slice A2 n2 c2, .slice A3 n3 c3, .slice A4 n4 c4, .int .i64 sq]) S b true W h hb)
  clear hs hx0 hxn hn hf ha hb
  have hz2 : (b == 0) = false := by simp [hz]
  have hl2 : (96 : Int) ≤ (n1 : Int) := by omega
  clear hz hl
  go_enter Try.func4, Try.ntmps4
  go_wp2_with fail
  refine (HC.out _).mono ?_
  rintro e u2 ⟨rfl, hb2⟩
  have HX2 := Lib.hid (HX1.out.step hb2)
  have q2_0 := HX2.out.x.cell 0
  have q2_1 := HX2.out.x.cell 1
  have q2_2 := HX2.out.x.cell 2
  have q2_3 := HX2.out.x.cell 3
  have q2_4 := HX2.out.x.cell 4
  have q2_5 := HX2.out.x.cell 5
  clear hb2 HC
  go_wp2_with fail
  refine (HD0.out _ HX2.out.st).mono ?_
  rintro e u3 ⟨rfl, hb2⟩
  have HX3 := Lib.hid (HX2.out.step hb2)
  have q3_0 := HX3.out.x.cell 0
  have q3_1 := HX3.out.x.cell 1
  have q3_2 := HX3.out.x.cell 2
  have q3_3 := HX3.out.x.cell 3
  have q3_4 := HX3.out.x.cell 4
  have q3_5 := HX3.out.x.cell 5
  clear hb2 HD0
  go_wp2_with fail
  refine (HD1.out _ HX3.out.st).mono ?_
  rintro e u4 ⟨rfl, hb2⟩
  have HX4 := Lib.hid (HX3.out.step hb2)
  have q4_0 := HX4.out.x.cell 0
  have q4_1 := HX4.out.x.cell 1
  have q4_2 := HX4.out.x.cell 2
  have q4_3 := HX4.out.x.cell 3
  have q4_4 := HX4.out.x.cell 4
  have q4_5 := HX4.out.x.cell 5
  clear hb2 HD1
  go_wp2_with fail
  refine (HD2.out _ HX4.out.st).mono ?_
  rintro e u5 ⟨rfl, hb2⟩
  have HX5 := Lib.hid (HX4.out.step hb2)
  have q5_0 := HX5.out.x.cell 0
  have q5_1 := HX5.out.x.cell 1
  have q5_2 := HX5.out.x.cell 2
  have q5_3 := HX5.out.x.cell 3
  have q5_4 := HX5.out.x.cell 4
  have q5_5 := HX5.out.x.cell 5
  clear hb2 HD2
  go_wp2_with fail
  refine (alive15_any _).mono ?_
  rintro e u9 ⟨rfl, hb2⟩
  have HX9 := Lib.hid (HX5.out.step hb2)
  clear hb2
  go_wp2_with fail
  go_ret
  exact ⟨rfl, HX9.out.b⟩
/-- Two boxed states: the one that came in, and the one with a ticket more. -/
structure Lc15 (w : World) (S : Sv14) (A0 A1 A2 A3 A4 : Option Addr) (n0 n1 n2 n3 n4 c0 c1 c2 c3 c4 : Nat) (sq : Int) (S2 : Sv14) (gt : Nat) (B1 : Option Addr) (m1 d1 : Nat) (W : World) : Prop where
  b : Bx14 w S A0 A1 A2 A3 A4 n0 n1 n2 n3 n4 c0 c1 c2 c3 c4 sq W
  x : Blk W gt 28 #[.slice A0 n0 c0, .slice B1 m1 d1, .slice A2 n2 c2, .slice A3 n3 c3, .slice A4 n4 c4, .int .i64 sq]
  s : SA14 W S2 A0 B1 A2 A3 A4 n0 m1 n2 n3 n4 c0 d1 c2 c3 c4 sq
theorem Lc15.step {w : World} {S : Sv14} {A0 A1 A2 A3 A4 : Option Addr} {n0 n1 n2 n3 n4 c0 c1 c2 c3 c4 : Nat} {sq : Int} {S2 : Sv14} {gt : Nat} {B1 : Option Addr} {m1 d1 : Nat} {W W' : World} (h : Lc15 w S A0 A1 A2 A3 A4 n0 n1 n2 n3 n4 c0 c1 c2 c3 c4 sq S2 gt B1 m1 d1 W) (hb : Below W.heap.size W W') : Lc15 w S A0 A1 A2 A3 A4 n0 n1 n2 n3 n4 c0 c1 c2 c3 c4 sq S2 gt B1 m1 d1 W' :=
  ⟨h.b.step hb, h.x.below hb h.x.lt, h.s.step hb⟩
theorem Lc15.st {w : World} {S : Sv14} {A0 A1 A2 A3 A4 : Option Addr} {n0 n1 n2 n3 n4 c0 c1 c2 c3 c4 : Nat} {sq : Int} {S2 : Sv14} {gt : Nat} {B1 : Option Addr} {m1 d1 : Nat} {W : World} (h : Lc15 w S A0 A1 A2 A3 A4 n0 n1 n2 n3 n4 c0 c1 c2 c3 c4 sq S2 gt B1 m1 d1 W) : St14 W (.agg #[.slice A0 n0 c0, .slice B1 m1 d1, .slice A2 n2 c2, .slice A3 n3 c3, .slice A4 n4 c4, .int .i64 sq]) S2 := ⟨A0, B1, A2, A3, A4, n0, m1, n2, n3, n4, c0, d1, c2, c3, c4, sq, rfl, h.s⟩
theorem clo15_iff {S : Sv14} {f t : Nat} (hf : us14 usC S.C (f : Int) = true) (ht : us14 usC S.C (t : Int) = true) : Clo15 S (f : Int) (t : Int) ↔ f = t ∨ Way (Ca15 S) t f := by
  unfold Clo15 Fnd15
  rw [Int.toNat_natCast, Int.toNat_natCast]
  constructor
  · rintro (h | h)
    · exact .inl (by omega)
    · exact .inr h.2.2
  · rintro (h | h)
    · exact .inl ⟨hf, by omega⟩
    · exact .inr ⟨ht, hf, h⟩
theorem grownBy15_set (W : World) (p : Addr) (u : Value) : W.grownBy (W.setCell p u) (some p.block) := ⟨rfl, rfl, rfl, by simp [World.setCell], fun k _ hk => Below.heap_setCell W p u k (fun e => hk (by rw [e]))⟩
/-- What the two appends, and the store, make. -/
theorem more15_run (w : World) (S : Sv14) (A0 A1 A2 A3 A4 : Option Addr) (n0 n1 n2 n3 n4 c0 c1 c2 c3 c4 : Nat) (sq : Int) (f t : Nat) (hs : SA14 w S A0 A1 A2 A3 A4 n0 n1 n2 n3 n4 c0 c1 c2 c3 c4 sq) (hl : n1 < 96) (X : World) (hx : Bx14 w S A0 A1 A2 A3 A4 n0 n1 n2 n3 n4 c0 c1 c2 c3 c4 sq X) :
    ∃ A7 c7 W7 B1 d1 W9,
      (Builtin.append_ #[23, 23] 23 #[.slice (some ⟨X.heap.size + 1, 0, none⟩) 0 0, .slice A1 n1 c1]).run Try.prog ((X.alloc (.cells #[.slice A0 n0 c0, .slice A1 n1 c1, .slice A2 n2 c2, .slice A3 n3 c3, .slice A4 n4 c4, .int .i64 sq] 28)).alloc (.cells #[] 40)) = .ok (.slice A7 n1 c7) W7 ∧
      (Builtin.append_ #[23, 23] 23 #[.slice A7 n1 c7, .slice (some ⟨W7.heap.size, 0, none⟩) 1 1]).run Try.prog (W7.alloc (.cells #[.bool true, .int .i64 (f : Int), .int .i64 1, .int .i64 2, .int .i64 (t : Int), .bool false] 40)) = .ok (.slice B1 (n1 + 1) d1) W9 ∧
      Blk W7 X.heap.size 28 #[.slice A0 n0 c0, .slice A1 n1 c1, .slice A2 n2 c2, .slice A3 n3 c3, .slice A4 n4 c4, .int .i64 sq] ∧ Bx14 w S A0 A1 A2 A3 A4 n0 n1 n2 n3 n4 c0 c1 c2 c3 c4 sq W7 ∧ Blk W9 X.heap.size 28 #[.slice A0 n0 c0, .slice A1 n1 c1, .slice A2 n2 c2, .slice A3 n3 c3, .slice A4 n4 c4, .int .i64 sq] ∧
      Lc15 w S A0 A1 A2 A3 A4 n0 n1 n2 n3 n4 c0 c1 c2 c3 c4 sq (more15 S ⟨true, (f : Int), 1, 2, (t : Int), false⟩) X.heap.size B1 (n1 + 1) d1 (W9.setCell ⟨X.heap.size, 1, none⟩ (.slice B1 (n1 + 1) d1)) := by
  have hl1 := hs.l1
  have hm1 := hs.m1
  have hb5 := b1' X (.cells #[.slice A0 n0 c0, .slice A1 n1 c1, .slice A2 n2 c2, .slice A3 n3 c3, .slice A4 n4 c4, .int .i64 sq] 28)
  have hk5 := Blk.new X 28 #[.slice A0 n0 c0, .slice A1 n1 c1, .slice A2 n2 c2, .slice A3 n3 c3, .slice A4 n4 c4, .int .i64 sq]
  have hx5 := hx.step hb5
  have hz5 : (X.alloc (.cells #[.slice A0 n0 c0, .slice A1 n1 c1, .slice A2 n2 c2, .slice A3 n3 c3, .slice A4 n4 c4, .int .i64 sq] 28)).heap.size = X.heap.size + 1 := by simp
  obtain ⟨W5, hW5⟩ : ∃ W, X.alloc (.cells #[.slice A0 n0 c0, .slice A1 n1 c1, .slice A2 n2 c2, .slice A3 n3 c3, .slice A4 n4 c4, .int .i64 sq] 28) = W := ⟨_, rfl⟩
  rw [hW5] at hb5 hk5 hx5 hz5 ⊢
  have hb6 := b1' W5 (.cells #[] 40)
  have hown6 := owns14_nil W5 W5.heap.size (Nat.le_refl _) 40 6
  have hx6 := hx5.step hb6
  have hk6 := hk5.below hb6 hk5.lt
  have hz6 : (W5.alloc (.cells #[] 40)).heap.size = X.heap.size + 2 := by simp [hz5]
  rw [hz5] at hown6
  obtain ⟨W6, hW6⟩ : ∃ W, W5.alloc (.cells #[] 40) = W := ⟨_, rfl⟩
  rw [hW6] at hb6 hown6 hx6 hk6 hz6 ⊢
  obtain ⟨A7, c7, W7, hrun7, hown7, hg7⟩ := run_append_14 (P := Try.prog) W6 (X.heap.size + 1) 23 23 40 _ 6 48 Try.underlying23 info14T rfl (by omega) (by omega) _ 0 [] hown6 W6.heap.size A1 (fl14 clT S.T) n1 c1 (by rw [fl14_len len14T, hl1]) hx6.s.r1 (fl14_one clT_one S.T) (by omega) (by omega)
  rw [Nat.zero_add] at hrun7 hown7
  have hxl := hx6.x.lt
  have hww : w.heap.size < X.heap.size := hx.x.lt
  have hb7 : Below (X.heap.size + 1) W6 W7 := (Below.refl _ W6).grown hg7 (by omega) (fun r hr => by cases hr; exact Nat.le_refl _)
  have hk7 := hk6.below hb7 (by omega)
  have hb67 : Below w.heap.size w W7 := hx6.b.trans (hb7.mono (by omega))
  have hx7 : Bx14 w S A0 A1 A2 A3 A4 n0 n1 n2 n3 n4 c0 c1 c2 c3 c4 sq W7 := ⟨hb67, hx6.x.below hb7 (by omega), hs.step hb67⟩
  have hb8 := b1' W7 (.cells #[.bool true, .int .i64 (f : Int), .int .i64 1, .int .i64 2, .int .i64 (t : Int), .bool false] 40)
  have hj8 := Blk.new W7 40 #[.bool true, .int .i64 (f : Int), .int .i64 1, .int .i64 2, .int .i64 (t : Int), .bool false]
  have hk8 := hk7.below hb8 hk7.lt
  have hx8 := hx7.step hb8
  have hown8 := own12_keep2 hown7 hb8
  have hz8 : (W7.alloc (.cells #[.bool true, .int .i64 (f : Int), .int .i64 1, .int .i64 2, .int .i64 (t : Int), .bool false] 40)).heap.size = W7.heap.size + 1 := by simp
  have hz7 := hb7.size
  obtain ⟨W8, hW8⟩ : ∃ W, W7.alloc (.cells #[.bool true, .int .i64 (f : Int), .int .i64 1, .int .i64 2, .int .i64 (t : Int), .bool false] 40) = W := ⟨_, rfl⟩
  rw [hW8] at hb8 hj8 hk8 hx8 hown8 hz8
  have hrv : Rv W8 W8.heap.size (some ⟨W7.heap.size, 0, none⟩) (clT ⟨true, (f : Int), 1, 2, (t : Int), false⟩) := fun _ => ⟨W7.heap.size, 0, rfl, by omega, fun j v hj => by rw [Nat.zero_add, hj8.cell]; simpa [clT] using hj⟩
  obtain ⟨B1, d1, W9, hrun9, hown9, hg9⟩ := run_append_14 (P := Try.prog) W8 (X.heap.size + 1) 23 23 40 _ 6 48 Try.underlying23 info14T rfl (by omega) (by omega) _ n1 _ hown8 W8.heap.size (some ⟨W7.heap.size, 0, none⟩) (clT ⟨true, (f : Int), 1, 2, (t : Int), false⟩) 1 1 rfl hrv (clT_one _) (by omega) (by omega)
  have hb9 : Below (X.heap.size + 1) W8 W9 := (Below.refl _ W8).grown hg9 (by omega) (fun r hr => (hown8.lt r hr).1)
  have hk9 := hk8.below hb9 (by omega)
  have hb89 : Below w.heap.size w W9 := hx8.b.trans (hb9.mono (by omega))
  have hx9 : Bx14 w S A0 A1 A2 A3 A4 n0 n1 n2 n3 n4 c0 c1 c2 c3 c4 sq W9 := ⟨hb89, hx8.x.below hb9 (by omega), hs.step hb89⟩
  refine ⟨A7, c7, W7, B1, d1, W9, hrun7, by rw [hW8]; exact hrun9, hk7, hx7, hk9, ?_⟩
  have hb10 : Below w.heap.size w (W9.setCell ⟨X.heap.size, 1, none⟩ (.slice B1 (n1 + 1) d1)) := hb89.setCell (by show w.heap.size ≤ X.heap.size; omega) _
  have hk10 := hk9.set_ 1 (.slice B1 (n1 + 1) d1)
  have hown10 : (W9.setCell ⟨X.heap.size, 1, none⟩ (.slice B1 (n1 + 1) d1)).ownsRow (X.heap.size + 1) 40 6 (.slice B1 (n1 + 1) d1) (n1 + 1) (fl14 clT (S.T ++ [⟨true, (f : Int), 1, 2, (t : Int), false⟩])) := by
    have h1 := hown9.kept (grownBy15_set W9 ⟨X.heap.size, 1, none⟩ (.slice B1 (n1 + 1) d1)) (.inr (fun e => by have := (hown9.lt X.heap.size e).1; omega))
    have e1 : fl14 clT (S.T ++ [⟨true, (f : Int), 1, 2, (t : Int), false⟩]) = fl14 clT S.T ++ clT ⟨true, (f : Int), 1, 2, (t : Int), false⟩ := by simp [fl14]
    rw [e1]
    exact h1
  have hsz : (W9.setCell ⟨X.heap.size, 1, none⟩ (.slice B1 (n1 + 1) d1)).heap.size = W9.heap.size := by simp [World.setCell]
  have hs10 := hs.step hb10
  exact ⟨⟨hb10, hx9.x.far (by show w.heap.size ≠ X.heap.size; omega) _, hs10⟩, by simpa using hk10, ⟨hs10.l0, by simp [more15, hl1], hs10.l2, hs10.l3, hs10.l4, hs10.r0, Lq.of_own (by omega) hown10, hs10.r2, hs10.r3, hs10.r4, hs10.k0, own14_cap hown10, hs10.k2, hs10.k3, hs10.k4, hs10.m0, by omega, hs10.m2, hs10.m3, hs10.m4, hs10.e⟩⟩
set_option maxHeartbeats 16000000 in
theorem lcloses15_yes (A0 A1 A2 A3 A4 : Option Addr) (n0 n1 n2 n3 n4 c0 c1 c2 c3 c4 : Nat) (sq : Int) (f t : Nat) (S : Sv14) (w : World) (hs : SA14 w S A0 A1 A2 A3 A4 n0 n1 n2 n3 n4 c0 c1 c2 c3 c4 sq) (hn : Small14 n0 n1 n2 n3 n4) (hf : Fine14 S) (ha : us14 usC S.C (f : Int) = true) (hb : us14 usC S.C (t : Int) = true) (hz : t ≠ 0) (hl : n1 < 96) :
    Calls Try.prog 4 #[(.agg #[.slice A0 n0 c0, .slice A1 n1 c1, .slice A2 n2 c2, .slice A3 n3 c3, .slice A4 n4 c4, .int .i64 sq]), .int .i64 (f : Int), .int .i64 (t : Int)] w fun e w' => e = .returned (.bool true) ∧ Below w.heap.size w w' := by
  have hx0 := Bx14.new hs
  have hxn := hx0.step (Below.refl _ _).drew
  obtain ⟨W1, hW1⟩ : ∃ W, w.alloc (.cells #[.slice A0 n0 c0, .slice A1 n1 c1, .slice A2 n2 c2, .slice A3 n3 c3, .slice A4 n4 c4, .int .i64 sq] 28) = W := ⟨_, rfl⟩
  rw [hW1] at hx0 hxn
  have HX1 := Lib.hid hx0
  have p1_0 := hx0.x.cell 0
  have p1_1 := hx0.x.cell 1
  have p1_2 := hx0.x.cell 2
  have p1_3 := hx0.x.cell 3
  have p1_4 := hx0.x.cell 4
  have p1_5 := hx0.x.cell 5
  have HC := Lib.hid (fun W => small14 A0 A1 A2 A3 A4 n0 n1 n2 n3 n4 c0 c1 c2 c3 c4 sq true W (by simp [hn]))
  have HD0 := Lib.hid (fun W h => rfine14 (.agg #[.slice A0 n0 c0, .slice A1 n1 c1, .slice A2 n2 c2, .slice A3 n3 c3, .slice A4 n4 c4, .int .i64 sq]) S true W h (by simp [hf]))
  have HD1 := Lib.hid (fun W h => rCoin14 (.agg #[.slice A0 n0 c0, .slice A1 n1 c1, .slice A2 n2 c2, .slice A3 n3 c3, .slice A4 n4 c4, .int .i64 sq]) S (f : Int) true W h ha)
  have HD2 := Lib.hid (fun W h => rCoin14 (.agg #[.slice A0 n0 c0, .slice A1 n1 c1, .slice A2 n2 c2, .slice A3 n3 c3, .slice A4 n4 c4, .int .i64 sq]) S (t : Int) true W h hb)
  obtain ⟨cb, hcb⟩ := ex_bool14 (Clo15 S (f : Int) (t : Int))
  have hfm : (!cb) = true ↔ Fine14 (more15 S ⟨true, (f : Int), 1, 2, (t : Int), false⟩) := by
    rw [fine15_more hf ha hb hz ⟨by omega, by omega⟩ (by rw [hs.l1]; exact hl), ← clo15_iff ha hb, ← hcb]
    cases cb <;> simp
  have HCL := Lib.hid (fun W (h : Bx14 w S A0 A1 A2 A3 A4 n0 n1 n2 n3 n4 c0 c1 c2 c3 c4 sq W) => closes15 (.agg #[.slice A0 n0 c0, .slice A1 n1 c1, .slice A2 n2 c2, .slice A3 n3 c3, .slice A4 n4 c4, .int .i64 sq]) S (f : Int) (t : Int) W h.st cb hcb)
  have HFM := Lib.hid (fun W v h => rfine14 v (more15 S ⟨true, (f : Int), 1, 2, (t : Int), false⟩) (!cb) W h hfm)
  have HMR := Lib.hid (fun X hx => more15_run w S A0 A1 A2 A3 A4 n0 n1 n2 n3 n4 c0 c1 c2 c3 c4 sq f t hs hl X hx)
  have hz2 : ((t : Int) == 0) = false := by
    rw [beq_eq_false_iff_ne]
    omega
  have hl2 : ¬ (96 : Int) ≤ (n1 : Int) := by omega
  have hl3 : decide ((96 : Int) ≤ (n1 : Int)) = false := decide_eq_false hl2
  clear hs hx0 hxn hn hf ha hb hcb hfm hz hl
  go_enter Try.func4, Try.ntmps4
  go_wp2_with fail
  refine (HC.out _).mono ?_
  rintro e u2 ⟨rfl, hb2⟩
  have HX2 := Lib.hid (HX1.out.step hb2)
  have q2_0 := HX2.out.x.cell 0
  have q2_1 := HX2.out.x.cell 1
  have q2_2 := HX2.out.x.cell 2
  have q2_3 := HX2.out.x.cell 3
  have q2_4 := HX2.out.x.cell 4
  have q2_5 := HX2.out.x.cell 5
  clear hb2 HC hW1
  go_wp2_with fail
  refine (HD0.out _ HX2.out.st).mono ?_
  rintro e u3 ⟨rfl, hb2⟩
  have HX3 := Lib.hid (HX2.out.step hb2)
  have q3_0 := HX3.out.x.cell 0
  have q3_1 := HX3.out.x.cell 1
  have q3_2 := HX3.out.x.cell 2
  have q3_3 := HX3.out.x.cell 3
  have q3_4 := HX3.out.x.cell 4
  have q3_5 := HX3.out.x.cell 5
  clear hb2 HD0
  go_wp2_with fail
  refine (HD1.out _ HX3.out.st).mono ?_
  rintro e u4 ⟨rfl, hb2⟩
  have HX4 := Lib.hid (HX3.out.step hb2)
  have q4_0 := HX4.out.x.cell 0
  have q4_1 := HX4.out.x.cell 1
  have q4_2 := HX4.out.x.cell 2
  have q4_3 := HX4.out.x.cell 3
  have q4_4 := HX4.out.x.cell 4
  have q4_5 := HX4.out.x.cell 5
  clear hb2 HD1
  go_wp2_with fail
  refine (HD2.out _ HX4.out.st).mono ?_
  rintro e u5 ⟨rfl, hb2⟩
  have HX5 := Lib.hid (HX4.out.step hb2)
  have q5_0 := HX5.out.x.cell 0
  have q5_1 := HX5.out.x.cell 1
  have q5_2 := HX5.out.x.cell 2
  have q5_3 := HX5.out.x.cell 3
  have q5_4 := HX5.out.x.cell 4
  have q5_5 := HX5.out.x.cell 5
  clear hb2 HD2
  obtain ⟨A7, c7, W7, B1, d1, W9, hrun7, hrun9, hk7, hx7, hk9, hlc⟩ := HMR.out u5 HX5.out
  have HR7 := Lib.hid hrun7
  have HR9 := Lib.hid hrun9
  have HLC := Lib.hid hlc
  have HK7 := Lib.hid hk7
  have hx6 := HX5.out.step ((b1' u5 (.cells #[.slice A0 n0 c0, .slice A1 n1 c1, .slice A2 n2 c2, .slice A3 n3 c3, .slice A4 n4 c4, .int .i64 sq] 28)).trans ((b1' (u5.alloc (.cells #[.slice A0 n0 c0, .slice A1 n1 c1, .slice A2 n2 c2, .slice A3 n3 c3, .slice A4 n4 c4, .int .i64 sq] 28)) (.cells #[] 40)).mono (by simp)))
  have w1_1 := hx6.x.cell 1
  have v1_1 := (HX5.out.step (b1' u5 (.cells #[.slice A0 n0 c0, .slice A1 n1 c1, .slice A2 n2 c2, .slice A3 n3 c3, .slice A4 n4 c4, .int .i64 sq] 28))).x.cell 1
  have k9_1 := hk9.cell 1
  have k9_f := hk9.frozen 1
  clear HMR hrun7 hrun9 hlc hk7 hx7 hk9 hx6 HX1 HX2 HX3 HX4
  go_wp2_with (at_builtin; first | (refine wpList_append_14 _ rfl (.tmp 40) (.tmp 42) 23 rfl _ _ _ _ rfl rfl HR7.out ?_) | (refine wpList_append_14 _ rfl (.tmp 43) (.tmp 47) 23 rfl _ _ _ _ rfl rfl HR9.out ?_))
  obtain ⟨gt, hgt⟩ : ∃ g, u5.heap.size = g := ⟨_, rfl⟩
  rw [hgt] at HLC ⊢
  obtain ⟨W10, hW10⟩ : ∃ W, W9.setCell ⟨gt, 1, none⟩ (.slice B1 (n1 + 1) d1) = W := ⟨_, rfl⟩
  rw [hW10] at HLC ⊢
  have HQ := HLC
  clear HR7 HR9 HLC HK7 HX5 hgt hW10 w1_1 v1_1 k9_1 k9_f
  have HXN : Hid (Lc15 w S A0 A1 A2 A3 A4 n0 n1 n2 n3 n4 c0 c1 c2 c3 c4 sq (more15 S ⟨true, (f : Int), 1, 2, (t : Int), false⟩) gt B1 (n1 + 1) d1 W10.drew) := Lib.hid (HQ.out.step (Below.refl _ _).drew)
  clear HQ
  obtain ⟨wn, hwn⟩ : ∃ W, W10.drew = W := ⟨_, rfl⟩
  rw [hwn] at HXN
  go_wp2_with fail
  refine wp_region_held_drew (S := Lc15 w S A0 A1 A2 A3 A4 n0 n1 n2 n3 n4 c0 c1 c2 c3 c4 sq (more15 S ⟨true, (f : Int), 1, 2, (t : Int), false⟩) gt B1 (n1 + 1) d1) (by kernel_rfl) (by rw [hwn]; exact HXN.out) (fun hHeld => ?_)
  rw [hwn] at hHeld ⊢
  clear hwn
  have HBS := HXN
  refine tk 0 (v := ?_) (fun W hS => ?_) ?_
  rotate_left
  · try dsimp only at hS
    have z0 := hS.x.cell 0
    have z1 := hS.x.cell 1
    have z2 := hS.x.cell 2
    have z3 := hS.x.cell 3
    have z4 := hS.x.cell 4
    have z5 := hS.x.cell 5
    go_simp
    try with_reducible rfl
  (try dsimp only [Act.put]); try simp only [pt1, pt2, pt3]
  refine tk 2 (v := ?_) (fun W hS => ?_) ?_
  rotate_left
  · try dsimp only at hS
    have z0 := hS.b.x.cell 0
    have z1 := hS.b.x.cell 1
    have z2 := hS.b.x.cell 2
    have z3 := hS.b.x.cell 3
    have z4 := hS.b.x.cell 4
    have z5 := hS.b.x.cell 5
    go_simp
    try with_reducible rfl
  (try dsimp only [Act.put]); try simp only [pt1, pt2, pt3]
  refine tk 3 (v := ?_) (fun W hS => ?_) ?_
  rotate_left
  · (go_simp; try with_reducible rfl)
  (try dsimp only [Act.put]); try simp only [pt1, pt2, pt3]
  refine tk 4 (v := ?_) (fun W hS => ?_) ?_
  rotate_left
  · (go_simp; try with_reducible rfl)
  (try dsimp only [Act.put]); try simp only [pt1, pt2, pt3]
  refine rdy 1 (fun K hK => ?_)
  have HBS0 := HBS
  go_simp
  refine (HFM.out _ _ HBS0.out.st).mono ?_
  rintro e wn ⟨rfl, hb⟩
  have HBS := Lib.hid (HBS0.out.step hb)
  clear hb HBS0
  refine hK.out _ _ HBS.out (fun hHeld => ?_)
  clear hK K
  (try dsimp only [Act.put]); try simp only [pt1, pt2, pt3]
  refine rdy 5 (fun K hK => ?_)
  have HBS0 := HBS
  go_simp
  refine (HCL.out _ HBS0.out.b).mono ?_
  rintro e wn ⟨rfl, hb⟩
  have HBS := Lib.hid (HBS0.out.step hb)
  clear hb HBS0
  refine hK.out _ _ HBS.out (fun hHeld => ?_)
  clear hK K
  (try dsimp only [Act.put]); try simp only [pt1, pt2, pt3]
  refine tk 6 (v := ?_) (fun W hS => ?_) ?_
  rotate_left
  · (go_simp; try with_reducible rfl)
  (try dsimp only [Act.put]); try simp only [pt1, pt2, pt3]
  refine tk 7 (v := ?_) (fun W hS => ?_) ?_
  rotate_left
  · (go_simp; try with_reducible rfl)
  (try dsimp only [Act.put]); try simp only [pt1, pt2, pt3]
  refine tk 8 (v := ?_) (fun W hS => ?_) ?_
  rotate_left
  · (go_simp; try with_reducible rfl)
  (try dsimp only [Act.put]); try simp only [pt1, pt2, pt3]
  refine rdy 9 (fun K hK => ?_)
  have HBS0 := HBS
  go_simp
  refine (alive15_any _).mono ?_
  rintro e wn ⟨rfl, hb⟩
  have HBS := Lib.hid (HBS0.out.step hb)
  clear hb HBS0
  refine hK.out _ _ HBS.out (fun hHeld => ?_)
  clear hK K
  (try dsimp only [Act.put]); try simp only [pt1, pt2, pt3]
  refine tk 10 (v := ?_) (fun W hS => ?_) ?_
  rotate_left
  · (go_simp; try with_reducible rfl)
  (try dsimp only [Act.put]); try simp only [pt1, pt2, pt3]
  refine rdy 11 (fun K hK => ?_)
  go_simp
  refine hK.out _ _ HBS.out (fun hHeld => ?_)
  clear hK K
  (try dsimp only [Act.put]); try simp only [pt1, pt2, pt3]
  refine wpAnyH_done (by kernel_rfl) ?_ _
  clear hHeld
  go_wp2_with fail
  go_ret
  exact ⟨rfl, HBS.out.b.b⟩
theorem fundCloses_all (W : World) (A00 A01 A02 A03 A04 : Option Addr) (n00 n01 n02 n03 n04 c00 c01 c02 c03 c04 : Nat) (q0 : Int) (S0 : Sv14) (a1 a2 : Int) (h0 : Small14 n00 n01 n02 n03 n04 → SA14 W S0 A00 A01 A02 A03 A04 n00 n01 n02 n03 n04 c00 c01 c02 c03 c04 q0) (_ : -9223372036854775808 ≤ a1) (_ : a1 ≤ 9223372036854775807) (_ : -9223372036854775808 ≤ a2) (_ : a2 ≤ 9223372036854775807) :
    Calls Try.prog 4 #[.agg #[.slice A00 n00 c00, .slice A01 n01 c01, .slice A02 n02 c02, .slice A03 n03 c03, .slice A04 n04 c04, .int .i64 q0], .int .i64 a1, .int .i64 a2] W fun e w' => e = .returned (.bool true) ∧ Below W.heap.size W w' := by
  by_cases hn : Small14 n00 n01 n02 n03 n04
  case neg => exact lcloses15_no0 A00 A01 A02 A03 A04 n00 n01 n02 n03 n04 c00 c01 c02 c03 c04 q0 a1 a2 S0 W hn
  by_cases hf : Fine14 S0
  case neg => exact lcloses15_no1 A00 A01 A02 A03 A04 n00 n01 n02 n03 n04 c00 c01 c02 c03 c04 q0 a1 a2 S0 W (h0 hn) hn hf
  by_cases ha : us14 usC S0.C a1 = true
  case neg => exact lcloses15_no2 A00 A01 A02 A03 A04 n00 n01 n02 n03 n04 c00 c01 c02 c03 c04 q0 a1 a2 S0 W (h0 hn) hn hf ha
  by_cases hb : us14 usC S0.C a2 = true
  case neg => exact lcloses15_no3 A00 A01 A02 A03 A04 n00 n01 n02 n03 n04 c00 c01 c02 c03 c04 q0 a1 a2 S0 W (h0 hn) hn hf ha hb
  by_cases hz : a2 = 0
  · exact lcloses15_no4 A00 A01 A02 A03 A04 n00 n01 n02 n03 n04 c00 c01 c02 c03 c04 q0 a1 a2 S0 W (h0 hn) hn hf ha hb hz
  by_cases hl : n01 < 96
  · obtain ⟨f, rfl⟩ : ∃ f : Nat, a1 = (f : Int) := ⟨a1.toNat, by have := us15_lt ha; omega⟩
    obtain ⟨t, rfl⟩ : ∃ t : Nat, a2 = (t : Int) := ⟨a2.toNat, by have := us15_lt hb; omega⟩
    exact lcloses15_yes A00 A01 A02 A03 A04 n00 n01 n02 n03 n04 c00 c01 c02 c03 c04 q0 f t S0 W (h0 hn) hn hf ha hb (by omega) hl
  · exact lcloses15_no5 A00 A01 A02 A03 A04 n00 n01 n02 n03 n04 c00 c01 c02 c03 c04 q0 a1 a2 S0 W (h0 hn) hn hf ha hb hz hl
end Go.Proofs.Ytljpgfnjaagkaaa
namespace Go.Proofs.Ytljpgfnjaagkaaa
open Go.ChangeShapes Go.WideShapes Go.ChangeAt Go.RowKit
set_option maxRecDepth 100000
section
variable {H : Type} {enc : TypeId × Value → H} {P : Program}
/-- All arguments read behind the call as they did before. -/
theorem trodAll_below (hl : laidOutB P = true) {W W' : World} (hb : Below W.heap.size W W') : ∀ {ts : List TypeId} {vs : List Value} {ds : List (DataW H)} {ps : List MemPlace},
    ts.all (fun t => P.readableRec t && decide (t < P.types.size)) = true → DataW.TrodAll enc P W 0 (fun _ => true) true ts vs ds ps → (∀ x ∈ ps, x.block < W.heap.size) →
      DataW.TrodAll enc P W' 0 (fun b => decide (b < W.heap.size)) true ts vs ds ps
  | [], _, _, _, _, h, _ => by
    obtain ⟨rfl, rfl, rfl⟩ := trodAll_nil h
    exact trodAll_mk0
  | t :: ts, _, _, _, hr, h, hlt => by
    obtain ⟨v, vs, d, ds, p, q, rfl, rfl, rfl, h1, h2⟩ := trodAll_cons h
    simp only [List.all_cons, Bool.and_eq_true, decide_eq_true_eq] at hr
    exact trodAll_cons_mk (Below.trod hl hr.1.1 hr.1.2 h1 hb (fun x hx => hlt x (by simp [hx]))) (trodAll_below hl hb (by simpa using hr.2) h2 (fun x hx => hlt x (by simp [hx])))
/-- A law's answer: true; all that was there is as it was. -/
theorem law_post {f : Func} {s : ChangeSpec} {tb : TypeId} {W W' : World} {args : Array Value} {ds gs : List (DataW H)} {before : List MemPlace}
    (hl : laidOutB P = true) (hro : f.params.toList.all (fun t => P.readableRec t && decide (t < P.types.size)) = true) (htb : P.underlying tb = some .bool) (hrt : f.resultTypes = #[tb]) (hvars : s.vars = [])
    (hW : DataW.Whole enc P f.params.toList s.vars false W args.toList ds gs before) (hspec : s.fn H ds = { results := [.lit (.bool true)], args := ds }) (hb : Below W.heap.size W W') :
    s.post enc P f false true false false W args (.bool true) W' := by
  have hW' := hW
  obtain ⟨p, q, hA, hV, rfl, hfz, hnd⟩ := hW
  rw [hvars] at hV
  obtain ⟨rfl, rfl⟩ := trodVars_none hV
  refine ⟨ds, [], p ++ [], [], p, [], hW', ?_, ?_, ?_, World.keptBut_mono (fun x hx => ⟨hx, ?_⟩) (hb.frame _), fun h => by cases h⟩
  · rw [List.append_nil, hspec, hrt]
    exact trodAll_cons_mk (shut_bool htb _) trodAll_mk0
  · rw [List.append_nil, hspec]
    exact trodAll_below hl hb hro hA (fun x hx => by simpa using hW'.lt x (by simp [hx]))
  · rw [List.append_nil, hspec, hvars]
    rfl
  · simpa using hx
end
theorem own_knob : ownKnob Try.prog.godebug = none := by kernel_rfl
theorem laid_out : laidOutB Try.prog = true := by kernel_rfl
end Go.Proofs.Ytljpgfnjaagkaaa
namespace Go.Proofs.Ytljpgfnjaagkaaa
open Go.ChangeShapes Go.WideShapes Go.ChangeAt Go.RowKit
set_option maxRecDepth 100000
theorem open_i64 {H : Type} {enc : TypeId × Value → H} {W : World} {base : Nat} {v : Value} {d : DataW H} {p : List MemPlace} (hv : Value.okWide Try.prog W .any base 3 v) (h : DataW.Trod enc Try.prog W 0 (fun _ => true) true 3 v d p) :
    ∃ a : Int, v = .int .i64 a ∧ -9223372036854775808 ≤ a ∧ a ≤ 9223372036854775807 := by
  obtain ⟨a, rfl, _, _, w⟩ := open_int Try.underlying3 hv h
  have x : -9223372036854775808 ≤ a ∧ a ≤ 9223372036854775807 := by simpa [Lit.wf, IntKind.min, IntKind.max, IntKind.signed, IntKind.bits] using w
  exact ⟨a, rfl, x.1, x.2⟩
end Go.Proofs.Ytljpgfnjaagkaaa
namespace Go.Proofs.Ytljpgfnjaagkaaa
open Go.ChangeShapes Go.WideShapes Go.ChangeAt Go.RowKit
set_option maxRecDepth 100000
/-- A slice of what is read as 'cl x', wherever it lies. -/
theorem open_rows14 {α : Type} [Inhabited α] {cl : α → List Value} {k : Nat} (hk : ∀ x, (cl x).length = k) (hk0 : 0 < k) {H : Type} {enc : TypeId × Value → H} {W : World} {t e : TypeId} (ht : Try.prog.underlying t = some (.slice e)) (he : Try.prog.cellsOf e = k)
    (hx : ∀ f cs y, cs.length = k → DataW.trod enc Try.prog W 0 (fun _ => true) true f e cs = some y → ∃ x, cs = cl x) {v : Value} {f : Nat} {y : DataW H × List MemPlace} (h : DataW.trod enc Try.prog W 0 (fun _ => true) true f t [v] = some y) :
    ∃ (A : Option Addr) (n c : Nat) (xs : List α), v = .slice A n c ∧ xs.length = n ∧ Lq cl W W.heap.size A xs ∧ n ≤ c := by
  rcases Go.Deep.open_slice ht h with ⟨hcs, hy⟩ | ⟨a, len, cap, m, n, D, Pl, hcs, hb, hl, hm, hmm, hy, hel⟩
  · simp at hcs
    subst hcs
    exact ⟨none, 0, 0, [], rfl, rfl, Lq.nil _ _ _ _, Nat.le_refl _⟩
  · simp at hcs
    subst hcs
    simp only [if_true] at hmm
    have each : ∀ i, i < len → ∃ x : α, ∀ j v, (cl x)[j]? = some v → W.cell? (a.add (i * k + j)) = some v := by
      intro i hi
      obtain ⟨cs', h1, h2⟩ := hel i (by omega)
      rw [he] at h1
      obtain ⟨_, hlen, hcell⟩ := World.cells?_some h1
      obtain ⟨x, rfl⟩ := hx _ _ _ hlen h2
      refine ⟨x, fun j v hj => ?_⟩
      have hjk : j < k := by
        have := (List.getElem?_eq_some_iff.1 hj).1
        rwa [hk] at this
      have := hcell j hjk
      rw [Go.Deep.add_add] at this
      rw [this]
      exact hj
    obtain ⟨q, hq⟩ := Go.Deep.choose_lt each
    have hll : ((List.range len).map q).length = len := by simp
    refine ⟨some a, len, cap, (List.range len).map q, rfl, hll, fun hne => ?_, hl⟩
    have hpos : 0 < len := by
      rcases Nat.eq_zero_or_pos len with h0 | h0
      · subst h0
        exact absurd rfl hne
      · exact h0
    have hfirst : ∃ v, W.cell? a = some v := by
      have hc0 : 0 < (cl (q 0)).length := by rw [hk]; exact hk0
      refine ⟨(cl (q 0))[0], ?_⟩
      have := hq 0 hpos 0 _ (List.getElem?_eq_getElem hc0)
      simpa [Addr.add] using this
    obtain ⟨v0, hv0⟩ := hfirst
    obtain ⟨b, off, spot⟩ := a
    have hspot : spot = none := by simpa using World.cell?_spot hv0
    subst hspot
    refine ⟨b, off, rfl, World.block_lt_of_cell? W _ hv0, fun j v hj => ?_⟩
    have hjl : j < len * k := by
      have := (List.getElem?_eq_some_iff.1 hj).1
      rw [fl14_len hk, hll] at this
      exact this
    have hd : j / k < len := Nat.div_lt_of_lt_mul (by rw [Nat.mul_comm]; exact hjl)
    have hm' : j % k < k := Nat.mod_lt _ hk0
    have hj2 : j / k * k + j % k = j := by rw [Nat.mul_comm]; exact Nat.div_add_mod j k
    rw [← hj2, fl14_get hk (by rw [hll]; exact hd) hm'] at hj
    have hg : gt14 ((List.range len).map q) (j / k) = q (j / k) := by simp [gt14, hd]
    rw [hg] at hj
    have := hq (j / k) hd (j % k) v hj
    rw [hj2] at this
    simpa only [Go.WideShapes.add_plain] using this
/-- A field of a struct. -/
theorem trod_fld14 {P : Program} {H : Type} {enc : TypeId × Value → H} {w : World} {base : Nat} {spare : Nat → Bool} {held : Bool} {t : TypeId} {fs : Array Field} {fuel : Nat} {cs : List Value} {x : DataW H × List MemPlace} (ht : P.underlying t = some (.struct fs)) (h : DataW.trod enc P w base spare held fuel t cs = some x) :
    ∃ n, ∀ (i : Nat) (f : Field), fs[i]? = some f → ∃ y, DataW.trod enc P w base spare held n f.type ((cs.drop f.offset).take (P.cellsOf f.type)) = some y := by
  obtain ⟨xs, n, _, rfl, hl, hlen, hf⟩ := DataW.trod_struct ht h
  refine ⟨n, fun i f hi => ?_⟩
  have hlt : i < fs.size := (Array.getElem?_eq_some_iff.1 hi).1
  have := hf i f hi
  rw [List.getElem?_eq_getElem (by omega)] at this
  exact ⟨_, this⟩
theorem cells14_bool : Try.prog.cellsOf 4 = 1 := by kernel_rfl
theorem cells14_int : Try.prog.cellsOf 3 = 1 := by kernel_rfl
theorem elem14_T {H : Type} {enc : TypeId × Value → H} {W : World} (f : Nat) (cs : List Value) (y : DataW H × List MemPlace) (hl : cs.length = 6) (h : DataW.trod enc Try.prog W 0 (fun _ => true) true f 40 cs = some y) : ∃ x, cs = clT x := by
  obtain ⟨n, hf⟩ := trod_fld14 Try.underlying40 h
  match cs, hl with
  | [z0, z1, z2, z3, z4, z5], _ =>
    obtain ⟨y0, g0⟩ := hf 0 _ rfl
    have g0 : DataW.trod enc Try.prog W 0 (fun _ => true) true n 4 (([z0, z1, z2, z3, z4, z5].drop 0).take (Try.prog.cellsOf 4)) = some y0 := g0
    rw [cells14_bool] at g0
    obtain ⟨x0, e0, _⟩ := DataW.trod_bool Try.underlying4 g0
    obtain ⟨y1, g1⟩ := hf 1 _ rfl
    have g1 : DataW.trod enc Try.prog W 0 (fun _ => true) true n 3 (([z0, z1, z2, z3, z4, z5].drop 1).take (Try.prog.cellsOf 3)) = some y1 := g1
    rw [cells14_int] at g1
    obtain ⟨x1, e1, _, _⟩ := DataW.trod_int Try.underlying3 g1
    obtain ⟨y2, g2⟩ := hf 2 _ rfl
    have g2 : DataW.trod enc Try.prog W 0 (fun _ => true) true n 3 (([z0, z1, z2, z3, z4, z5].drop 2).take (Try.prog.cellsOf 3)) = some y2 := g2
    rw [cells14_int] at g2
    obtain ⟨x2, e2, _, _⟩ := DataW.trod_int Try.underlying3 g2
    obtain ⟨y3, g3⟩ := hf 3 _ rfl
    have g3 : DataW.trod enc Try.prog W 0 (fun _ => true) true n 3 (([z0, z1, z2, z3, z4, z5].drop 3).take (Try.prog.cellsOf 3)) = some y3 := g3
    rw [cells14_int] at g3
    obtain ⟨x3, e3, _, _⟩ := DataW.trod_int Try.underlying3 g3
    obtain ⟨y4, g4⟩ := hf 4 _ rfl
    have g4 : DataW.trod enc Try.prog W 0 (fun _ => true) true n 3 (([z0, z1, z2, z3, z4, z5].drop 4).take (Try.prog.cellsOf 3)) = some y4 := g4
    rw [cells14_int] at g4
    obtain ⟨x4, e4, _, _⟩ := DataW.trod_int Try.underlying3 g4
    obtain ⟨y5, g5⟩ := hf 5 _ rfl
    have g5 : DataW.trod enc Try.prog W 0 (fun _ => true) true n 4 (([z0, z1, z2, z3, z4, z5].drop 5).take (Try.prog.cellsOf 4)) = some y5 := g5
    rw [cells14_bool] at g5
    obtain ⟨x5, e5, _⟩ := DataW.trod_bool Try.underlying4 g5
    simp at e0 e1 e2 e3 e4 e5
    subst e0 e1 e2 e3 e4 e5
    exact ⟨⟨x0, x1, x2, x3, x4, x5⟩, rfl⟩
theorem elem14_H {H : Type} {enc : TypeId × Value → H} {W : World} (f : Nat) (cs : List Value) (y : DataW H × List MemPlace) (hl : cs.length = 5) (h : DataW.trod enc Try.prog W 0 (fun _ => true) true f 56 cs = some y) : ∃ x, cs = clH x := by
  obtain ⟨n, hf⟩ := trod_fld14 Try.underlying56 h
  match cs, hl with
  | [z0, z1, z2, z3, z4], _ =>
    obtain ⟨y0, g0⟩ := hf 0 _ rfl
    have g0 : DataW.trod enc Try.prog W 0 (fun _ => true) true n 3 (([z0, z1, z2, z3, z4].drop 0).take (Try.prog.cellsOf 3)) = some y0 := g0
    rw [cells14_int] at g0
    obtain ⟨x0, e0, _, _⟩ := DataW.trod_int Try.underlying3 g0
    obtain ⟨y1, g1⟩ := hf 1 _ rfl
    have g1 : DataW.trod enc Try.prog W 0 (fun _ => true) true n 3 (([z0, z1, z2, z3, z4].drop 1).take (Try.prog.cellsOf 3)) = some y1 := g1
    rw [cells14_int] at g1
    obtain ⟨x1, e1, _, _⟩ := DataW.trod_int Try.underlying3 g1
    obtain ⟨y2, g2⟩ := hf 2 _ rfl
    have g2 : DataW.trod enc Try.prog W 0 (fun _ => true) true n 3 (([z0, z1, z2, z3, z4].drop 2).take (Try.prog.cellsOf 3)) = some y2 := g2
    rw [cells14_int] at g2
    obtain ⟨x2, e2, _, _⟩ := DataW.trod_int Try.underlying3 g2
    obtain ⟨y3, g3⟩ := hf 3 _ rfl
    have g3 : DataW.trod enc Try.prog W 0 (fun _ => true) true n 3 (([z0, z1, z2, z3, z4].drop 3).take (Try.prog.cellsOf 3)) = some y3 := g3
    rw [cells14_int] at g3
    obtain ⟨x3, e3, _, _⟩ := DataW.trod_int Try.underlying3 g3
    obtain ⟨y4, g4⟩ := hf 4 _ rfl
    have g4 : DataW.trod enc Try.prog W 0 (fun _ => true) true n 3 (([z0, z1, z2, z3, z4].drop 4).take (Try.prog.cellsOf 3)) = some y4 := g4
    rw [cells14_int] at g4
    obtain ⟨x4, e4, _, _⟩ := DataW.trod_int Try.underlying3 g4
    simp at e0 e1 e2 e3 e4
    subst e0 e1 e2 e3 e4
    exact ⟨⟨x0, x1, x2, x3, x4⟩, rfl⟩
theorem elem14_L {H : Type} {enc : TypeId × Value → H} {W : World} (f : Nat) (cs : List Value) (y : DataW H × List MemPlace) (hl : cs.length = 2) (h : DataW.trod enc Try.prog W 0 (fun _ => true) true f 66 cs = some y) : ∃ x, cs = clL x := by
  obtain ⟨n, hf⟩ := trod_fld14 Try.underlying66 h
  match cs, hl with
  | [z0, z1], _ =>
    obtain ⟨y0, g0⟩ := hf 0 _ rfl
    have g0 : DataW.trod enc Try.prog W 0 (fun _ => true) true n 4 (([z0, z1].drop 0).take (Try.prog.cellsOf 4)) = some y0 := g0
    rw [cells14_bool] at g0
    obtain ⟨x0, e0, _⟩ := DataW.trod_bool Try.underlying4 g0
    obtain ⟨y1, g1⟩ := hf 1 _ rfl
    have g1 : DataW.trod enc Try.prog W 0 (fun _ => true) true n 3 (([z0, z1].drop 1).take (Try.prog.cellsOf 3)) = some y1 := g1
    rw [cells14_int] at g1
    obtain ⟨x1, e1, _, _⟩ := DataW.trod_int Try.underlying3 g1
    simp at e0 e1
    subst e0 e1
    exact ⟨⟨x0, x1⟩, rfl⟩
theorem elem14_C {H : Type} {enc : TypeId × Value → H} {W : World} (f : Nat) (cs : List Value) (y : DataW H × List MemPlace) (hl : cs.length = 1) (h : DataW.trod enc Try.prog W 0 (fun _ => true) true f 4 cs = some y) : ∃ x, cs = clC x := by
  obtain ⟨x, rfl, _⟩ := DataW.trod_bool Try.underlying4 h
  exact ⟨x, rfl⟩
theorem elem14_I {H : Type} {enc : TypeId × Value → H} {W : World} (f : Nat) (cs : List Value) (y : DataW H × List MemPlace) (hl : cs.length = 1) (h : DataW.trod enc Try.prog W 0 (fun _ => true) true f 3 cs = some y) : ∃ x, cs = clI x := by
  obtain ⟨x, rfl, _⟩ := DataW.trod_int Try.underlying3 h
  exact ⟨x, rfl⟩
/-- A state as an argument: if it is small, it is laid. -/
theorem open_state14 {H : Type} {enc : TypeId × Value → H} {W : World} {base : Nat} {v : Value} {d : DataW H} {p : List MemPlace} (hv : Value.okWide Try.prog W .any base 28 v) (h : DataW.Trod enc Try.prog W 0 (fun _ => true) true 28 v d p) :
    ∃ (A0 A1 A2 A3 A4 : Option Addr) (n0 n1 n2 n3 n4 c0 c1 c2 c3 c4 : Nat) (sq : Int) (S : Sv14), v = .agg #[.slice A0 n0 c0, .slice A1 n1 c1, .slice A2 n2 c2, .slice A3 n3 c3, .slice A4 n4 c4, .int .i64 sq] ∧ (Small14 n0 n1 n2 n3 n4 → SA14 W S A0 A1 A2 A3 A4 n0 n1 n2 n3 n4 c0 c1 c2 c3 c4 sq) := by
  obtain ⟨cs, rfl, hsz⟩ := okWide_struct Try.underlying28 hv
  rw [show Try.prog.cellsOf 28 = 6 by kernel_rfl] at hsz
  obtain ⟨l, rfl⟩ : ∃ l : List Value, cs = l.toArray := ⟨cs.toList, by simp⟩
  obtain ⟨fuel, hf⟩ := h
  simp only [Value.cells] at hf
  obtain ⟨n, hg⟩ := trod_fld14 Try.underlying28 hf
  match l, hsz with
  | [z0, z1, z2, z3, z4, z5], _ =>
    obtain ⟨y0, g0⟩ := hg 0 _ rfl
    have g0 : DataW.trod enc Try.prog W 0 (fun _ => true) true n 22 (([z0, z1, z2, z3, z4, z5].drop 0).take (Try.prog.cellsOf 22)) = some y0 := g0
    rw [show Try.prog.cellsOf 22 = 1 by kernel_rfl] at g0
    obtain ⟨A0, n0, c0, x0, e0, l0, r0, k0⟩ := open_rows14 len14C (by omega) Try.underlying22 (by kernel_rfl) elem14_C (v := z0) (by simpa using g0)
    obtain ⟨y1, g1⟩ := hg 1 _ rfl
    have g1 : DataW.trod enc Try.prog W 0 (fun _ => true) true n 23 (([z0, z1, z2, z3, z4, z5].drop 1).take (Try.prog.cellsOf 23)) = some y1 := g1
    rw [show Try.prog.cellsOf 23 = 1 by kernel_rfl] at g1
    obtain ⟨A1, n1, c1, x1, e1, l1, r1, k1⟩ := open_rows14 len14T (by omega) Try.underlying23 (by kernel_rfl) elem14_T (v := z1) (by simpa using g1)
    obtain ⟨y2, g2⟩ := hg 2 _ rfl
    have g2 : DataW.trod enc Try.prog W 0 (fun _ => true) true n 24 (([z0, z1, z2, z3, z4, z5].drop 2).take (Try.prog.cellsOf 24)) = some y2 := g2
    rw [show Try.prog.cellsOf 24 = 1 by kernel_rfl] at g2
    obtain ⟨A2, n2, c2, x2, e2, l2, r2, k2⟩ := open_rows14 len14H (by omega) Try.underlying24 (by kernel_rfl) elem14_H (v := z2) (by simpa using g2)
    obtain ⟨y3, g3⟩ := hg 3 _ rfl
    have g3 : DataW.trod enc Try.prog W 0 (fun _ => true) true n 25 (([z0, z1, z2, z3, z4, z5].drop 3).take (Try.prog.cellsOf 25)) = some y3 := g3
    rw [show Try.prog.cellsOf 25 = 1 by kernel_rfl] at g3
    obtain ⟨A3, n3, c3, x3, e3, l3, r3, k3⟩ := open_rows14 len14L (by omega) Try.underlying25 (by kernel_rfl) elem14_L (v := z3) (by simpa using g3)
    obtain ⟨y4, g4⟩ := hg 4 _ rfl
    have g4 : DataW.trod enc Try.prog W 0 (fun _ => true) true n 26 (([z0, z1, z2, z3, z4, z5].drop 4).take (Try.prog.cellsOf 26)) = some y4 := g4
    rw [show Try.prog.cellsOf 26 = 1 by kernel_rfl] at g4
    obtain ⟨A4, n4, c4, x4, e4, l4, r4, k4⟩ := open_rows14 len14I (by omega) Try.underlying26 (by kernel_rfl) elem14_I (v := z4) (by simpa using g4)
    obtain ⟨y5, g5⟩ := hg 5 _ rfl
    have g5 : DataW.trod enc Try.prog W 0 (fun _ => true) true n 3 (([z0, z1, z2, z3, z4, z5].drop 5).take (Try.prog.cellsOf 3)) = some y5 := g5
    rw [cells14_int] at g5
    obtain ⟨sq, e5, _, _⟩ := DataW.trod_int Try.underlying3 g5
    simp at e5
    subst e0 e1 e2 e3 e4 e5
    refine ⟨A0, A1, A2, A3, A4, n0, n1, n2, n3, n4, c0, c1, c2, c3, c4, sq, ⟨x0, x1, x2, x3, x4, sq⟩, rfl, fun hs => ?_⟩
    obtain ⟨s0, s1, s2, s3, s4⟩ := hs
    exact ⟨l0, l1, l2, l3, l4, r0, r1, r2, r3, r4, k0, k1, k2, k3, k4, by omega, by omega, by omega, by omega, by omega, rfl⟩
end Go.Proofs.Ytljpgfnjaagkaaa
namespace Go.Proofs.Ytljpgfnjaagkaaa
open Go.ChangeShapes Go.WideShapes Go.ChangeAt Go.RowKit
set_option maxRecDepth 100000
set_option maxRecDepth 100000 in
theorem fundCloses_lifted (os : Os) (started : os.Started) (H : Type) (enc : TypeId × Value → H) :
    ReturnsInHanded {} Try.checked os 4 .any (Rows.fundClosesSpec.pre6 enc Try.prog Try.f4 Rows.fundClosesRow.domain false) (Rows.fundClosesSpec.post enc Try.prog Try.f4 false true false false) := by
  refine returnsInHanded_of_change (C := Try.checked) own_knob started (by kernel_rfl) Try.func4
    (ChangeSpec.witness6 (enc := enc) (C := Try.checked) false ⟨#[], #[.agg #[.slice none 0 0, .slice none 0 0, .slice none 0 0, .slice none 0 0, .slice none 0 0, .int .i64 0], .int .i64 0, .int .i64 0], []⟩ 8 (by kernel_rfl) (by kernel_rfl) (by kernel_rfl) (by kernel_rfl)) ?_
  intro W base args ds gs before hval0 hW hcnd _
  have hval : ∀ (j : Nat) t v, Try.f4.params[j]? = some t → args[j]? = some v → Value.okWide Try.prog W .any base t v := hval0
  have hW' : DataW.Whole enc Try.prog Try.f4.params.toList Rows.fundClosesSpec.vars false W args.toList ds gs before := hW
  obtain ⟨p, q, hA0, hV, hpq, hfz, hnd⟩ := hW
  have hA : DataW.TrodAll enc Try.prog W 0 (fun _ => true) true Try.f4.params.toList args.toList ds p := hA0
  rw [Try.params4] at hA hval
  obtain ⟨v0, vs0, d0, ds0, p0, q0, hargs, rfl, rfl, t0, r0⟩ := trodAll_cons hA
  obtain ⟨v1, vs1, d1, ds1, p1, q1, rfl, rfl, rfl, t1, r1⟩ := trodAll_cons r0
  obtain ⟨v2, vs2, d2, ds2, p2, q2, rfl, rfl, rfl, t2, r2⟩ := trodAll_cons r1
  obtain ⟨rfl, rfl, rfl⟩ := trodAll_nil r2
  obtain rfl : args = #[v0, v1, v2] := by cases args; simp_all
  obtain ⟨A00, A01, A02, A03, A04, n00, n01, n02, n03, n04, c00, c01, c02, c03, c04, q0, S0, rfl, h0⟩ := open_state14 (hval 0 28 v0 rfl rfl) t0
  obtain ⟨a1, rfl, h1, k1⟩ := open_i64 (hval 1 3 v1 rfl rfl) t1
  obtain ⟨a2, rfl, h2, k2⟩ := open_i64 (hval 2 3 v2 rfl rfl) t2
  have hwalk : Calls Try.prog 4 #[.agg #[.slice A00 n00 c00, .slice A01 n01 c01, .slice A02 n02 c02, .slice A03 n03 c03, .slice A04 n04 c04, .int .i64 q0], .int .i64 a1, .int .i64 a2] W fun e w' => e = .returned (.bool true) ∧ Below W.heap.size W w' := fundCloses_all W A00 A01 A02 A03 A04 n00 n01 n02 n03 n04 c00 c01 c02 c03 c04 q0 S0 a1 a2 h0 h1 k1 h2 k2
  refine hwalk.mono fun e W' ⟨he, hg⟩ => ?_
  subst he
  exact ⟨_, rfl, law_post laid_out (by kernel_rfl) Try.underlying4 (by kernel_rfl) rfl hW' rfl hg⟩
theorem fundCloses_over : Rows.fundClosesRow.holds Try.pinned (OpenSpec.ofChange Rows.fundClosesSpec) :=
  OpenClaim.holds_of_wide 4 Try.f4 rfl rfl rfl rfl rfl rfl rfl ⟨rfl, rfl, rfl, rfl, rfl⟩ rfl rfl rfl rfl rfl (by kernel_rfl) Try.func4 (by kernel_rfl)
    (of_decide_eq_true (by kernel_rfl)) (by unfold Func.isWrapper; first | (rw [if_pos (by decide +kernel)]; kernel_rfl) | (rw [if_neg (by decide +kernel)]; exact ⟨rfl, rfl⟩))
    (fun os started H enc _ => fundCloses_lifted os started H enc)
theorem fundCloses_holds : Rows.FundClosesSaid :=
  fundCloses_over
end Go.Proofs.Ytljpgfnjaagkaaa
