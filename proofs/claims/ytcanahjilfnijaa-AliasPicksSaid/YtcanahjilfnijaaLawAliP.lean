/-
  What any number picks of any table, and how many numbers pick each place, is the document's; whether a table is fair is told by its counts.
-/
import Derived.Test.YtcanahjilfnijaaLawAliQ
import Derived.Deep.DeepCutAuto
import Derived.Deep.CutBlock
namespace Go.Proofs.Ytcanahjilfnijaa
open Go.RowKit
set_option maxRecDepth 100000

theorem num_wide12 {w : World} {L : Nat} {v : Value} {a : Nat} (h : Num w L v a) (ha : a < 340282366920938463463374607431768211456) :
    ∃ A xs n c, v = .agg #[.slice A n c] ∧ xs.length = n ∧ Rd w w.heap.size A xs ∧ Dig xs ∧ n ≤ 8 ∧ n ≤ c ∧ V (xs.drop 4) = hi12 a ∧ V (xs.take 4) = lo12 a := by
  obtain ⟨A, xs, n, c, h1, hl, h2, h3, h4, h5, h6⟩ := h
  refine ⟨A, xs, n, c, h1, hl, h3, h5.1, by have := h5.len (k := 8) (by omega); omega, h2, ?_⟩
  have e : V xs = V (xs.take 4) + 18446744073709551616 * V (xs.drop 4) := by
    rcases Nat.lt_or_ge xs.length 4 with h7 | h7
    · rw [List.take_of_length_le (by omega), List.drop_eq_nil_of_le (by omega)]; simp [V]
    · have := V_append (xs.take 4) (xs.drop 4)
      rw [List.take_append_drop, show (xs.take 4).length = 4 by simp; omega] at this
      exact this
  have hlow : V (xs.take 4) < 18446744073709551616 := by
    have h7 := V_lt (h5.1.take 4)
    have h8 : 65536 ^ (xs.take 4).length ≤ 65536 ^ 4 := Nat.pow_le_pow_right (by omega) (by simp; omega)
    omega
  unfold hi12 lo12
  omega
theorem back12_num (v : Value) (a L : Nat) (w : World) (h : Num w L v a) (ha : a < 340282366920938463463374607431768211456) :
    Calls Try.prog 19 #[v] w fun e w' => e = .returned (.tuple #[.agg #[.int .u64 ((hi12 a : Nat) : Int), .int .u64 ((lo12 a : Nat) : Int)], .bool true]) ∧ Below w.heap.size w w' := by
  obtain ⟨A, xs, n, c, rfl, hl, hr, hd, h8, hc, e1, e2⟩ := num_wide12 h ha
  have := back_any A xs n c w hl hr hd h8 hc
  rw [e1, e2] at this
  exact this

/-- What the law has in memory: the table's variable, its own columns. -/
structure Pm12 (w : World) (T : Array Value) (A2 : Option Addr) (n : Nat) (c : Nat → Nat) (o : Nat → Int) (W : World) : Prop where
  below : Below w.heap.size w W
  tab : Blk W w.heap.size 27 T
  cq : Cq W W.heap.size A2 n c o
theorem Pm12.step {w W W' : World} {T : Array Value} {A2 : Option Addr} {n : Nat} {c : Nat → Nat} {o : Nat → Int} (h : Pm12 w T A2 n c o W) (hb : Below W.heap.size W W') : Pm12 w T A2 n c o W' :=
  ⟨h.below.trans (hb.mono h.below.size), h.tab.below hb h.tab.lt, h.cq.step hb⟩
theorem mul12_big {t n : Nat} (ht : t < 18446744073709551616) (hn : n ≤ 100) : n * t < 340282366920938463463374607431768211456 := by
  have := Nat.mul_le_mul hn (show t ≤ 18446744073709551616 by omega)
  omega

set_option maxHeartbeats 2000000 in
theorem picks12_far1 (t n cc : Nat) (A : Option Addr) (r : Nat) (i : Int) (B : Option Addr) (m d : Nat) (w : World) (h1 : 100 < n) :
    Calls Try.prog 4 #[.agg #[.int .u64 (t : Int), .slice A n cc], .int .u64 (r : Int), .int .i64 i, .slice B m d] w fun e w' => e = .returned (.bool true) ∧ Below w.heap.size w w' := by
  have i1 : (100 : Int) < (n : Int) := by omega
  have t1 := (tab_new w t n cc A).cell 1
  have HB0 := Lib.hid (b1' w (.cells #[.int .u64 (t : Int), .slice A n cc] 27))
  go_enter Try.func4, Try.ntmps4
  go_wp2_with fail
  refine (alive12_any _).mono ?_
  rintro e wz ⟨rfl, hbz⟩
  have HBZ := Lib.hid (HB0.out.trans (hbz.mono HB0.out.size))
  clear hbz
  go_wp2_with fail
  go_ret
  exact ⟨rfl, HBZ.out⟩

set_option maxHeartbeats 2000000 in
theorem picks12_far2 (t n cc : Nat) (A : Option Addr) (r : Nat) (i : Int) (B : Option Addr) (m d : Nat) (w : World) (h1 : n ≤ 100) (h2 : 100 < m) :
    Calls Try.prog 4 #[.agg #[.int .u64 (t : Int), .slice A n cc], .int .u64 (r : Int), .int .i64 i, .slice B m d] w fun e w' => e = .returned (.bool true) ∧ Below w.heap.size w w' := by
  have i1 : ¬ (100 : Int) < (n : Int) := by omega
  have i2 : (100 : Int) < (m : Int) := by omega
  have t1 := (tab_new w t n cc A).cell 1
  have HB0 := Lib.hid (b1' w (.cells #[.int .u64 (t : Int), .slice A n cc] 27))
  go_enter Try.func4, Try.ntmps4
  go_wp2_with fail
  refine (alive12_any _).mono ?_
  rintro e wz ⟨rfl, hbz⟩
  have HBZ := Lib.hid (HB0.out.trans (hbz.mono HB0.out.size))
  clear hbz
  go_wp2_with fail
  go_ret
  exact ⟨rfl, HBZ.out⟩

set_option maxHeartbeats 8000000 in
theorem picks12_wrong (t n cc : Nat) (A : Option Addr) (c : Nat → Nat) (o : Nat → Int) (r : Nat) (i : Int) (B : Option Addr) (ys : List Nat) (m d : Nat) (w : World) (h : Cq w w.heap.size A n c o) (ht : t < 18446744073709551616) (hc : ∀ j, j < n → c j < 18446744073709551616) (hr64 : r < 18446744073709551616)
    (hl : ys.length = m) (hr : Rq w w.heap.size B ys) (hx : ∀ x ∈ ys, x < 18446744073709551616) (hn : n ≤ 100) (hm : m ≤ 100) (hno : ¬ Rt12 t n c o) :
    Calls Try.prog 4 #[.agg #[.int .u64 (t : Int), .slice A n cc], .int .u64 (r : Int), .int .i64 i, .slice B m d] w fun e w' => e = .returned (.bool true) ∧ Below w.heap.size w w' := by
  have i1 : ¬ (100 : Int) < (n : Int) := by omega
  have i2 : ¬ (100 : Int) < (m : Int) := by omega
  have hm0 : (0 : Int) ≤ (m : Int) := by omega
  have hwn : IntKind.u64.wrap (n : Int) = (n : Int) := by rw [IntKind.wrap_u64]; omega
  have hb0 := b1' w (.cells #[.int .u64 (t : Int), .slice A n cc] 27)
  have hk := tab_new w t n cc A
  have t0 := hk.cell 0
  have t1 := hk.cell 1
  have HK := Lib.hid hk
  have HB0 := Lib.hid hb0
  have HCL := Lib.hid (columns12_any t n cc A c o _ (h.step hb0) (by omega))
  have HCQ := Lib.hid h
  have HW := Lib.hid hc
  have HPK := Lib.hid (fun W (hb : Below w.heap.size w W) => pick12_any t n cc A c o r W (h.step hb) ht hc (by omega) hr64 false ⟨fun e => (by cases e), fun e => absurd e hno⟩ (-1) false (.inl ⟨fun e => hno e.1, rfl, rfl⟩))
  have HNU := Lib.hid (fun W (hb : Below w.heap.size w W) => numbers12_any t n cc A c o W (h.step hb) ht hc (by omega) false ⟨fun e => (by cases e), fun e => absurd e hno⟩)
  have HCO := Lib.hid (fun W (hb : Below w.heap.size w W) => count12_any t n cc A c o i W (h.step hb) ht hc (by omega) false ⟨fun e => (by cases e), fun e => absurd e hno⟩)
  have HRI := Lib.hid (fun W A2 c2 (hq : Cq W W.heap.size A2 n c o) => rright12_any t n c2 A2 c o W hq (by omega) false ⟨fun e => (by cases e), fun e => absurd e hno⟩)
  have HFA := Lib.hid (fun W (hb : Below w.heap.size w W) => fair12_any t n cc A c o B ys m d W (h.step hb) ht hc (by omega) hl (Rv.step hr hb) hx (by omega) false ⟨fun e => (by cases e), fun e => absurd e.2.2.1 hno⟩)
  simp only [Bool.false_eq_true, if_false, Bool.false_and, wv_zero, Int.natCast_zero] at HNU HCO
  clear h hc hl hr hx hb0 hk
  go_enter Try.func4, Try.ntmps4
  go_wp2_with fail
  refine HCL.out.mono ?_
  rintro e w1 ⟨A2, c2, rfl, hq, hb1⟩
  have HM : Hid (Pm12 w #[.int .u64 (t : Int), .slice A n cc] A2 n c o w1) := Lib.hid ⟨HB0.out.trans (hb1.mono HB0.out.size), HK.out.below hb1 HK.out.lt, hq⟩
  have t0 := HM.out.tab.cell 0
  have t1 := HM.out.tab.cell 1
  clear hq hb1 HCL HK
  go_wp2_with fail
  refine (HPK.out w1 HM.out.below).mono ?_
  rintro e w2 ⟨rfl, hb2⟩
  have HM := Lib.hid (HM.out.step hb2)
  have t0 := HM.out.tab.cell 0
  have t1 := HM.out.tab.cell 1
  clear hb2
  go_wp2_with fail
  refine (HNU.out w2 HM.out.below).mono ?_
  rintro e w3 ⟨rfl, hb3⟩
  have HM := Lib.hid (HM.out.step hb3)
  have t0 := HM.out.tab.cell 0
  have t1 := HM.out.tab.cell 1
  clear hb3
  go_wp2_with fail
  refine (HCO.out w3 HM.out.below).mono ?_
  rintro e w4 ⟨rfl, hb4⟩
  have HM := Lib.hid ((HM.out.step hb4).step (b1' w4 (.cells #[.int .u64 0, .int .u64 0] 50)))
  have t0 := HM.out.tab.cell 0
  have t1 := HM.out.tab.cell 1
  have q0 := (Blk.new w4 50 #[.int .u64 0, .int .u64 0]).cell 0
  have q1 := (Blk.new w4 50 #[.int .u64 0, .int .u64 0]).cell 1
  clear hb4
  go_wp2_with fail
  refine (HRI.out _ A2 c2 HM.out.cq).mono ?_
  rintro e w5 ⟨rfl, rfl⟩
  go_wp2_with fail
  refine (HFA.out _ HM.out.below).mono ?_
  rintro e w6 ⟨rfl, hb6⟩
  have HM := Lib.hid (HM.out.step hb6)
  clear hb6
  go_wp2_with fail
  refine (alive12_any w6).mono ?_
  rintro e wz ⟨rfl, hbz⟩
  have HBZ := Lib.hid (HM.out.below.trans (hbz.mono HM.out.below.size))
  clear hbz
  go_wp2_with fail
  go_ret
  exact ⟨rfl, HBZ.out⟩

set_option maxHeartbeats 8000000 in
theorem picks12_right (t n cc : Nat) (A : Option Addr) (c : Nat → Nat) (o : Nat → Int) (r : Nat) (i : Int) (B : Option Addr) (ys : List Nat) (m d : Nat) (w : World) (h : Cq w w.heap.size A n c o) (ht : t < 18446744073709551616) (hc : ∀ j, j < n → c j < 18446744073709551616) (hr64 : r < 18446744073709551616)
    (hl : ys.length = m) (hr : Rq w w.heap.size B ys) (hx : ∀ x ∈ ys, x < 18446744073709551616) (hn : n ≤ 100) (hm : m ≤ 100) (hrt : Rt12 t n c o) :
    Calls Try.prog 4 #[.agg #[.int .u64 (t : Int), .slice A n cc], .int .u64 (r : Int), .int .i64 i, .slice B m d] w fun e w' => e = .returned (.bool true) ∧ Below w.heap.size w w' := by
  have i1 : ¬ (100 : Int) < (n : Int) := by omega
  have i2 : ¬ (100 : Int) < (m : Int) := by omega
  have hm0 : (0 : Int) ≤ (m : Int) := by omega
  have hwn : IntKind.u64.wrap (n : Int) = (n : Int) := by rw [IntKind.wrap_u64]; omega
  have hb0 := b1' w (.cells #[.int .u64 (t : Int), .slice A n cc] 27)
  have hk := tab_new w t n cc A
  have t0 := hk.cell 0
  have t1 := hk.cell 1
  have HK := Lib.hid hk
  have HB0 := Lib.hid hb0
  have HCL := Lib.hid (columns12_any t n cc A c o _ (h.step hb0) (by omega))
  have HCQ := Lib.hid h
  have HW := Lib.hid hc
  have HPK := Lib.hid (fun W (hb : Below w.heap.size w W) v b (hp : Pk12 t n c o r v b) => pick12_any t n cc A c o r W (h.step hb) ht hc (by omega) hr64 true ⟨fun _ => hrt, fun _ => rfl⟩ v b hp)
  have HNU := Lib.hid (fun W (hb : Below w.heap.size w W) => numbers12_any t n cc A c o W (h.step hb) ht hc (by omega) true ⟨fun _ => hrt, fun _ => rfl⟩)
  have HCO := Lib.hid (fun W (hb : Below w.heap.size w W) => count12_any t n cc A c o i W (h.step hb) ht hc (by omega) true ⟨fun _ => hrt, fun _ => rfl⟩)
  have HRI := Lib.hid (fun W A2 c2 (hq : Cq W W.heap.size A2 n c o) => rright12_any t n c2 A2 c o W hq (by omega) true ⟨fun _ => hrt, fun _ => rfl⟩)
  have HRC := Lib.hid (fun W A2 c2 (k : Int) (hq : Cq W W.heap.size A2 n c o) => rcount12_any t n c2 A2 c o k W hq ht (fun j hj => (hrt.1 j hj).1) (by omega))
  have HFA := Lib.hid (fun W (hb : Below w.heap.size w W) f (hf : f = true ↔ Fr12 t n c o ys) => fair12_any t n cc A c o B ys m d W (h.step hb) ht hc (by omega) hl (Rv.step hr hb) hx (by omega) f hf)
  have HRTO := Lib.hid (fun W (hb : Below w.heap.size w W) => rtotal_any B ys m d W hl (Rv.step hr hb) hx (by omega))
  simp only [if_true, Bool.true_and] at HNU HCO
  rw [Nat.mul_comm n t] at HNU
  have HPW : Hid (t < 65536 ^ 100 ∧ n < 65536 ^ 100) := Lib.hid ⟨pow_word ht, pow_word (by omega)⟩
  have HOT := Lib.hid (fun W => of_any t W ht)
  have HON := Lib.hid (fun W => of_any n W (by omega))
  have HCB : Hid (∀ k : Int, cu t c o k n < 340282366920938463463374607431768211456) := Lib.hid (fun k => Nat.lt_of_le_of_lt (cu_le (fun j hj => (hrt.1 j hj).1)) (mul12_big ht hn))
  have HL := Lib.hid hl
  have HY := Lib.hid hr
  have HX := Lib.hid hx
  have HRT := Lib.hid hrt
  have hself : ∀ i : Int, (i != i) = false := fun i => by simp
  have hselfb : ∀ i : Bool, (i != i) = false := fun i => by simp
  obtain ⟨nn, hnn⟩ : ∃ q, fw (t * n) = q := ⟨_, rfl⟩
  obtain ⟨ff, hff⟩ : ∃ q, fb (t * n) = q := ⟨_, rfl⟩
  rw [hnn, hff] at HNU
  have HNF := Lib.hid (And.intro hnn hff)
  have HT64 := Lib.hid ht
  obtain ⟨v, b, hp⟩ : ∃ v b, Pk12 t n c o r v b := by
    by_cases hq : Rt12 t n c o ∧ n * t < 18446744073709551616 ∧ r < n * t
    · exact ⟨_, _, .inr ⟨hq.1, hq.2.1, hq.2.2, rfl, rfl⟩⟩
    · exact ⟨_, _, .inl ⟨hq, rfl, rfl⟩⟩
  have HP := Lib.hid hp
  obtain ⟨x, hxi⟩ : ∃ x, cu t c o i n = x := ⟨_, rfl⟩
  have HXI := Lib.hid hxi
  rw [hxi] at HCO
  clear h hc hl hr hx hb0 hk hrt hnn hff hp hxi
  go_enter Try.func4, Try.ntmps4
  go_wp2_with fail
  refine HCL.out.mono ?_
  rintro e w1 ⟨A2, c2, rfl, hq, hb1⟩
  have HM : Hid (Pm12 w #[.int .u64 (t : Int), .slice A n cc] A2 n c o w1) := Lib.hid ⟨HB0.out.trans (hb1.mono HB0.out.size), HK.out.below hb1 HK.out.lt, hq⟩
  have t0 := HM.out.tab.cell 0
  have t1 := HM.out.tab.cell 1
  clear hq hb1 HCL HK
  go_wp2_with fail
  refine (HPK.out w1 HM.out.below v b HP.out).mono ?_
  rintro e w2 ⟨rfl, hb2⟩
  have HM := Lib.hid (HM.out.step hb2)
  have t0 := HM.out.tab.cell 0
  have t1 := HM.out.tab.cell 1
  clear hb2
  clear HPK
  go_wp2_with fail
  refine (HNU.out w2 HM.out.below).mono ?_
  rintro e w3 ⟨rfl, hb3⟩
  have HM := Lib.hid (HM.out.step hb3)
  have t0 := HM.out.tab.cell 0
  have t1 := HM.out.tab.cell 1
  clear hb3
  clear HNU
  unfold wv at HCO
  go_wp2_with fail
  refine (HCO.out w3 HM.out.below).mono ?_
  rintro e w4 ⟨rfl, hb4⟩
  have HM := Lib.hid ((HM.out.step hb4).step (b1' w4 (.cells #[.int .u64 ((hi12 x : Nat) : Int), .int .u64 ((lo12 x : Nat) : Int)] 50)))
  have HQ := Lib.hid (Blk.new w4 50 #[.int .u64 ((hi12 x : Nat) : Int), .int .u64 ((lo12 x : Nat) : Int)])
  obtain ⟨w5, hw5⟩ : ∃ W, w4.alloc (.cells #[.int .u64 ((hi12 x : Nat) : Int), .int .u64 ((lo12 x : Nat) : Int)] 50) = W := ⟨_, rfl⟩
  obtain ⟨bq, hbq⟩ : ∃ k, w4.heap.size = k := ⟨_, rfl⟩
  rw [hw5] at HM HQ
  rw [hbq] at HQ
  have t0 := HM.out.tab.cell 0
  have t1 := HM.out.tab.cell 1
  clear hb4 HCO
  go_wp2_with fail
  refine (HRI.out _ A2 c2 HM.out.cq).mono ?_
  rintro e w6 ⟨rfl, rfl⟩
  clear HRI hw5 hbq
  go_wp2_with fail
  refine (HOT.out w5).mono ?_
  rintro e w6 ⟨v1, rfl, hn1, hb6⟩
  have HN1 := Lib.hid hn1
  have HQ := Lib.hid (HQ.out.below hb6 HQ.out.lt)
  have HM := Lib.hid (HM.out.step hb6)
  have t0 := HM.out.tab.cell 0
  have t1 := HM.out.tab.cell 1
  clear hn1 hb6 HOT
  go_wp2_with fail
  refine (HON.out w6).mono ?_
  rintro e w7 ⟨v2, rfl, hn2, hb7⟩
  have HN1 := Lib.hid (HN1.out.below hb7)
  have HN2 := Lib.hid hn2
  have HQ := Lib.hid (HQ.out.below hb7 HQ.out.lt)
  have HM := Lib.hid (HM.out.step hb7)
  have t0 := HM.out.tab.cell 0
  have t1 := HM.out.tab.cell 1
  clear hn2 hb7
  go_wp2_with fail
  refine (mul_num (j := 100) (k := 100) _ _ t n _ _ w7 HN1.out HN2.out HPW.out.1 HPW.out.2).mono ?_
  rintro e w8 ⟨v3, rfl, hn3, hb8⟩
  have HN3 := Lib.hid hn3
  have HQ := Lib.hid (HQ.out.below hb8 HQ.out.lt)
  have HM := Lib.hid (HM.out.step hb8)
  have t0 := HM.out.tab.cell 0
  have t1 := HM.out.tab.cell 1
  clear hn3 hb8 HN1 HN2
  go_wp2_with fail
  have HWD := Lib.hid (word_num _ _ _ w8 HN3.out)
  rw [HNF.out.1, HNF.out.2] at HWD
  refine HWD.out.mono ?_
  rintro e w9 ⟨rfl, hb9⟩
  have HQ := Lib.hid (HQ.out.below hb9 HQ.out.lt)
  have HM := Lib.hid (HM.out.step hb9)
  have t0 := HM.out.tab.cell 0
  have t1 := HM.out.tab.cell 1
  clear hb9 HWD HN3
  go_wp2_with fail
  refine (HRC.out w9 A2 c2 i HM.out.cq).mono ?_
  rintro e w10 ⟨v4, rfl, hn4, hb10⟩
  rw [HXI.out] at hn4
  have HN4 := Lib.hid hn4
  have HQ := Lib.hid (HQ.out.below hb10 HQ.out.lt)
  have HM := Lib.hid (HM.out.step hb10)
  have t0 := HM.out.tab.cell 0
  have t1 := HM.out.tab.cell 1
  clear hn4 hb10
  go_wp2_with fail
  refine (back12_num _ x _ w10 HN4.out (by rw [← HXI.out]; exact HCB.out i)).mono ?_
  rintro e w11 ⟨rfl, hb11⟩
  have HQ := Lib.hid ((HQ.out.below hb11 HQ.out.lt).alloc (.cells #[.int .u64 ((hi12 x : Nat) : Int), .int .u64 ((lo12 x : Nat) : Int)] 50))
  have HM := Lib.hid ((HM.out.step hb11).step (b1' w11 (.cells #[.int .u64 ((hi12 x : Nat) : Int), .int .u64 ((lo12 x : Nat) : Int)] 50)))
  have HQ2 := Lib.hid (Blk.new w11 50 #[.int .u64 ((hi12 x : Nat) : Int), .int .u64 ((lo12 x : Nat) : Int)])
  obtain ⟨w12, hw12⟩ : ∃ W, w11.alloc (.cells #[.int .u64 ((hi12 x : Nat) : Int), .int .u64 ((lo12 x : Nat) : Int)] 50) = W := ⟨_, rfl⟩
  obtain ⟨bq2, hbq2⟩ : ∃ k, w11.heap.size = k := ⟨_, rfl⟩
  rw [hw12] at HM HQ HQ2
  rw [hbq2] at HQ2
  have t0 := HM.out.tab.cell 0
  have t1 := HM.out.tab.cell 1
  have q0 := HQ.out.cell 0
  have q1 := HQ.out.cell 1
  have p0 := HQ2.out.cell 0
  have p1 := HQ2.out.cell 1
  clear hb11 HN4
  go_upto_region 13 with (fail)
  clear hw12 hbq2 q0 q1 p0 p1 HQ HQ2 t0 t1
  obtain ⟨bb, hbb⟩ : ∃ q, (!(ff && decide (r < nn))) = q := ⟨_, rfl⟩
  have HBB := Lib.hid hbb
  clear hbb
  go_cut [135] (fun y wx => y = .bool bb ∧ wx = w12)
  case first =>
    as_aux_lemma =>
      cases hff : ff with
      | false =>
        have HB2 : Hid (bb = true) := Lib.hid (by rw [← HBB.out, hff]; rfl)
        subst hff
        clear HBB
        go_wp2_with fail
        go_meet
        exact ⟨by rw [HB2.out], rfl⟩
      | true =>
        rcases Nat.lt_or_ge r nn with hrn | hrn
        · have HB2 : Hid (bb = false) := Lib.hid (by rw [← HBB.out, hff]; simp [hrn])
          have hge : ¬ (nn : Int) ≤ (r : Int) := by omega
          subst hff
          clear HBB hrn
          go_wp2_with fail
          go_meet
          exact ⟨by rw [HB2.out], rfl⟩
        · have HB2 : Hid (bb = true) := Lib.hid (by rw [← HBB.out, hff, show decide (r < nn) = false from decide_eq_false (by omega)]; rfl)
          have hge : (nn : Int) ≤ (r : Int) := by omega
          subst hff
          clear HBB hrn
          go_wp2_with fail
          go_meet
          exact ⟨by rw [HB2.out], rfl⟩
  case rest =>
  obtain ⟨rfl, rfl⟩ := hcut
  go_upto_if 135 with (fail)
  go_cut [] (fun wx => Pm12 w #[.int .u64 (t : Int), .slice A n cc] A2 n c o wx)
  case first =>
    as_aux_lemma =>
      have t0 := HM.out.tab.cell 0
      have t1 := HM.out.tab.cell 1
      rcases HP.out with ⟨hno, hv, hbv⟩ | ⟨_, hfit, hlt, hv, hbv⟩
      · subst hv hbv
        obtain rfl : bb = true := by
          rw [← HBB.out]
          by_cases hfit : t * n < 18446744073709551616
          · rw [← HNF.out.1, ← HNF.out.2, fw_in hfit, fb_in hfit, show decide (r < t * n) = false from decide_eq_false (fun h1 => hno ⟨HRT.out, by rw [Nat.mul_comm]; exact hfit, by rw [Nat.mul_comm]; exact h1⟩)]
            rfl
          · rw [← HNF.out.2, fb_out (by omega)]
            rfl
        clear hno HP HBB
        go_wp2_with fail
        go_meet
        exact HM.out
      · subst hbv
        rw [Nat.mul_comm] at hfit
        obtain rfl : ff = true := by rw [← HNF.out.2, fb_in hfit]
        obtain rfl : bb = false := by
          rw [← HBB.out, ← HNF.out.1, fw_in hfit, Nat.mul_comm t n, show decide (r < n * t) = true from decide_eq_true hlt]
          rfl
        have hdiv : r / t < n := (Nat.div_lt_iff_lt_mul HRT.out.2.1).2 hlt
        have htp := HRT.out.2.1
        have hd0 : ((t : Int) == 0) = false := by simp; omega
        have hd1 : ¬ (t : Int) = 0 := by omega
        have hd2 : ¬ t = 0 := by omega
        have e1 : (r : Int) % (t : Int) = ((r % t : Nat) : Int) := by simp
        have e1t : (r : Int).tmod (t : Int) = ((r % t : Nat) : Int) := by simp [Int.tmod]
        have e2 : (r : Int) / (t : Int) = ((r / t : Nat) : Int) := by simp
        have e2t : (r : Int).tdiv (t : Int) = ((r / t : Nat) : Int) := by simp [Int.tdiv]
        have hx64 : r % t < 18446744073709551616 := by have := Nat.mod_lt r htp; omega
        obtain ⟨q, hq1⟩ : ∃ q, r / t = q := ⟨_, rfl⟩
        obtain ⟨y, hy1⟩ : ∃ y, r % t = y := ⟨_, rfl⟩
        rw [hq1] at e2 e2t hdiv hv
        rw [hy1] at e1 e1t hx64 hv
        skip
        have w1q : IntKind.u64.wrap (q : Int) = (q : Int) := by rw [IntKind.wrap_u64]; omega
        have w2q : IntKind.i64.wrap (q : Int) = (q : Int) := by rw [IntKind.wrap_i64]; omega
        have w1y : IntKind.u64.wrap (y : Int) = (y : Int) := by rw [IntKind.wrap_u64]; omega
        obtain ⟨a2, p, hA, ha, c0, c1⟩ := HM.out.cq.at_ hdiv
        subst hA
        have hi0 : (0 : Int) ≤ (q : Int) := by omega
        have hi1 : (q : Int) < (n : Int) := by omega
        have c0' : wc.drew.cell? ⟨a2, p + q * 2, none⟩ = some (.int .u64 ((c q : Nat) : Int)) := c0
        have c1' : wc.drew.cell? ⟨a2, p + q * 2 + 1, none⟩ = some (.int .i64 (o q)) := c1
        have t0' : wc.drew.cell? ⟨w.heap.size, 0, none⟩ = some (.int .u64 (t : Int)) := t0
        have HMD := Lib.hid (HM.out.step (Below.refl _ _).drew)
        obtain ⟨z, hz⟩ : ∃ z, c q = z := ⟨_, rfl⟩
        rw [hz] at c0 c0' hv
        clear hq1 hy1 hfit hlt hz HP HM HBB
        by_cases hyz : y < z
        · rw [if_pos hyz] at hv
          subst hv
          have hyz2 : ¬ (z : Int) ≤ (y : Int) := by omega
          go_wp2_with fail
          go_region
          go_wp2_with fail
          go_meet
          exact HMD.out
        · rw [if_neg hyz] at hv
          obtain ⟨u, hu⟩ : ∃ u, o q = u := ⟨_, rfl⟩
          rw [hu] at c1 c1' hv
          subst hv
          have hyz2 : (z : Int) ≤ (y : Int) := by omega
          clear hu
          go_wp2_with fail
          go_region
          go_wp2_with fail
          go_meet
          exact HMD.out
  case rest =>
    have HM := Lib.hid hcut
    have t0 := HM.out.tab.cell 0
    have t1 := HM.out.tab.cell 1
    clear hcut HP HNF
    obtain ⟨s, hs⟩ : ∃ q, fw (up9 ys m) = q := ⟨_, rfl⟩
    obtain ⟨g, hg⟩ : ∃ q, fb (up9 ys m) = q := ⟨_, rfl⟩
    rw [hs, hg] at HRTO
    have HSG := Lib.hid (And.intro hs hg)
    clear hs hg
    go_wp2_with fail
    refine (HRTO.out _ HM.out.below).mono ?_
    rintro e w13 ⟨rfl, hb13⟩
    have HM := Lib.hid (HM.out.step hb13)
    have t0 := HM.out.tab.cell 0
    have t1 := HM.out.tab.cell 1
    clear hb13 HRTO
    go_upto_region 22 with (fail)
    go_cut [23] (fun y wx => ∃ f0 : Bool, y = .bool f0 ∧ (f0 = true → up9 ys m = t ∧ m = n) ∧ (f0 = false → ¬ Fr12 t n c o ys) ∧ Pm12 w #[.int .u64 (t : Int), .slice A n cc] A2 n c o wx)
    case first =>
      as_aux_lemma =>
        rcases Nat.lt_or_ge (up9 ys m) 18446744073709551616 with hf | hf
        · obtain rfl : g = true := by rw [← HSG.out.2, fb_in hf]
          have hs := HSG.out.1
          rw [fw_in hf] at hs
          by_cases hst : s = t
          · subst hst
            by_cases hmn : m = n
            · have HN1 := Lib.hid hs
              have HMN := Lib.hid hmn
              have hmn2 : ((m : Int) == (n : Int)) = true := by simp [hmn]
              have hmn3 : (m : Int) = (n : Int) := by omega
              clear hs hmn hf
              go_wp2_with fail
              go_meet
              exact ⟨true, rfl, fun _ => ⟨HN1.out, HMN.out⟩, fun e => (by cases e), HM.out⟩
            · have HMN : Hid (¬ Fr12 s n c o ys) := Lib.hid (fun e => hmn (HL.out ▸ e.2.1))
              have hmn2 : ¬ (m : Int) = (n : Int) := by omega
              have hmn4 : ((m : Int) == (n : Int)) = false := by simp; omega
              clear hs hmn hf
              go_wp2_with fail
              go_meet
              exact ⟨false, rfl, fun e => (by cases e), fun _ => HMN.out, HM.out⟩
          · have HMN : Hid (¬ Fr12 t n c o ys) := Lib.hid (fun e => hst (by rw [← hs, ← HL.out]; exact e.1))
            have hst2 : ¬ (s : Int) = (t : Int) := by omega
            clear hs hst hf
            go_wp2_with fail
            go_meet
            exact ⟨false, rfl, fun e => (by cases e), fun _ => HMN.out, HM.out⟩
        · obtain rfl : g = false := by rw [← HSG.out.2, fb_out hf]
          have HMN : Hid (¬ Fr12 t n c o ys) := Lib.hid (fun e => by have h1 := e.1; rw [HL.out] at h1; have := HT64.out; omega)
          clear hf
          go_wp2_with fail
          go_meet
          exact ⟨false, rfl, fun e => (by cases e), fun _ => HMN.out, HM.out⟩
    case rest =>
      obtain ⟨f0, rfl, hf1, hf2, hm2⟩ := hcut
      have HM := Lib.hid hm2
      have HF1 : Hid (f0 = true → up9 ys m = t ∧ m = n ∧ ∀ j : Nat, j < 0 → cu t c o (j : Int) n = n * nth ys j) := Lib.hid (fun e => ⟨(hf1 e).1, (hf1 e).2, fun j hj => by omega⟩)
      have HF2 := Lib.hid hf2
      have HOM := Lib.hid (fun W => of_any m W (by omega))
      have hwm : IntKind.u64.wrap (m : Int) = (m : Int) := by rw [IntKind.wrap_u64]; omega
      clear hm2 hf1 hf2 HSG t0 t1
      go_wp2_with fail
      go_loopw [23, 24] (fun y x wr => ∃ (k : Nat) (f1 : Bool), y = .bool f1 ∧ x = .int .i64 (k : Int) ∧ k ≤ m ∧ Hid (f1 = true → up9 ys m = t ∧ m = n ∧ ∀ j : Nat, j < k → cu t c o (j : Int) n = n * nth ys j) ∧ Hid (f1 = false → ¬ Fr12 t n c o ys) ∧ Hid (Pm12 w #[.int .u64 (t : Int), .slice A n cc] A2 n c o wr)) (fun _ x _ => m - (intOf x).toNat)
      case atStart => exact ⟨0, f0, rfl, rfl, by omega, HF1, HF2, HM⟩
      case round =>
        obtain ⟨k, f1, rfl, rfl, hk, HF1, HF2, HM⟩ := hrel
        by_cases hkm : k < m
        · have hi0 : (0 : Int) ≤ (k : Int) := by omega
          have hi1 : (k : Int) < (m : Int) := by omega
          cases f1 with
          | false =>
            have t0 := HM.out.tab.cell 0
            have t1 := HM.out.tab.cell 1
            have HFX := Lib.hid (HFA.out wr HM.out.below false ⟨fun e => (by cases e), fun e => absurd e (HF2.out rfl)⟩)
            clear HFA
            go_wp2_with fail
            refine HFX.out.mono ?_
            rintro e w20 ⟨rfl, hb20⟩
            have HM := Lib.hid (HM.out.step hb20)
            clear hb20 HFX
            go_wp2_with fail
            refine (alive12_any w20).mono ?_
            rintro e wz ⟨rfl, hbz⟩
            have HBZ := Lib.hid (HM.out.below.trans (hbz.mono HM.out.below.size))
            clear hbz
            go_wp2_with fail
            go_ret
            exact ⟨rfl, HBZ.out⟩
          | true =>
            have HF1T := Lib.hid (HF1.out rfl)
            clear HF1
            obtain ⟨a2, p, hA, ha, g0⟩ := Rq.at_ HY.out (show k < ys.length by have := HL.out; omega)
            subst hA
            obtain ⟨y, hyk⟩ : ∃ y, nth ys k = y := ⟨_, rfl⟩
            have hy64 : y < 18446744073709551616 := by rw [← hyk]; exact nth_lt9 HX.out k
            rw [hyk] at g0
            have g1 : wr.cell? ⟨a2, p + k, none⟩ = some (.int .u64 (y : Int)) := (HM.out.below.cell (p := ⟨a2, p + k, none⟩) ha).trans g0
            have HYK := Lib.hid hyk
            have HOY := Lib.hid (fun W => of_any y W hy64)
            have HPX : Hid (y < 65536 ^ 100 ∧ m < 65536 ^ 100 ∧ y * m < 65536 ^ 100 ∧ cu t c o (k : Int) n < 65536 ^ 100) := Lib.hid ⟨pow_word hy64, pow_word (by omega), pow_big (by have := Nat.mul_le_mul (show y ≤ 18446744073709551616 by omega) hm; omega), pow_big (HCB.out _)⟩
            obtain ⟨q, hq⟩ : ∃ q, cu t c o (k : Int) n = q := ⟨_, rfl⟩
            rw [hq] at HPX
            have HQK := Lib.hid hq
            have HRK := Lib.hid (fun W A2 c2 hcq => HRC.out W A2 c2 (k : Int) hcq)
            rw [hq] at HRK
            clear hyk hq
            by_cases heq : q = y * m
            · have HEQ := Lib.hid heq
              clear heq
              have t0 := HM.out.tab.cell 0
              have t1 := HM.out.tab.cell 1
              have hct : Hid (∀ W, Below wr.heap.size wr W → Calls Try.prog 15 #[.int .u64 (t : Int), .slice A2 n c2, .int .i64 (k : Int)] W (RetNum W q)) := Lib.hid (fun W hbw => HRK.out W A2 c2 (HM.out.cq.step hbw))
              go_wp2_with fail
              refine reg26y_r hct HOY HOM HPX hwm hkm t0 g1 HEQ (by intro _ _ _ _ _ h; exact h) (fun _ _ _ _ _ _ _ _ _ _ _ _ _ _ _ _ _ wn hbn => ?_)
              have HM := Lib.hid (HM.out.step hbn)
              clear hbn t0 t1
              go_wp2_with fail
              go_roundw
              case rel => exact ⟨k + 1, true, rfl, by go_num, by omega, Lib.hid (fun _ => ⟨HF1T.out.1, HF1T.out.2.1, fun j hj => by
                  rcases (show j < k ∨ j = k by omega) with h1 | rfl
                  · exact HF1T.out.2.2 j h1
                  · rw [HQK.out, HYK.out, HEQ.out, HF1T.out.2.1, Nat.mul_comm]⟩), Lib.hid (fun e => (by cases e)), HM⟩
              case measure => simp [intOf]; omega
            · have HEQ := Lib.hid heq
              clear heq
              have t0 := HM.out.tab.cell 0
              have t1 := HM.out.tab.cell 1
              have hct : Hid (∀ W, Below wr.heap.size wr W → Calls Try.prog 15 #[.int .u64 (t : Int), .slice A2 n c2, .int .i64 (k : Int)] W (RetNum W q)) := Lib.hid (fun W hbw => HRK.out W A2 c2 (HM.out.cq.step hbw))
              go_wp2_with fail
              refine reg26n_r hct HOY HOM HPX hwm hkm t0 g1 HEQ (by intro _ _ _ _ _ h; exact h) (fun _ _ _ _ _ _ _ _ _ _ _ _ _ _ _ _ _ wn hbn => ?_)
              have HM := Lib.hid (HM.out.step hbn)
              clear hbn t0 t1
              go_wp2_with fail
              go_roundw
              case rel => exact ⟨k + 1, false, rfl, by go_num, by omega, Lib.hid (fun e => (by cases e)), Lib.hid (fun _ e => HEQ.out (by have h1 := e.2.2.2 k (by have := HF1T.out.2.1; omega); rw [HQK.out, HYK.out] at h1; rw [h1, HF1T.out.2.1, Nat.mul_comm])), HM⟩
              case measure => simp [intOf]; omega
        · obtain rfl : k = m := by omega
          cases f1 with
          | false =>
            have t0 := HM.out.tab.cell 0
            have t1 := HM.out.tab.cell 1
            have HFX := Lib.hid (HFA.out wr HM.out.below false ⟨fun e => (by cases e), fun e => absurd e (HF2.out rfl)⟩)
            clear HFA
            go_wp2_with fail
            refine HFX.out.mono ?_
            rintro e w20 ⟨rfl, hb20⟩
            have HM := Lib.hid (HM.out.step hb20)
            clear hb20 HFX
            go_wp2_with fail
            refine (alive12_any w20).mono ?_
            rintro e wz ⟨rfl, hbz⟩
            have HBZ := Lib.hid (HM.out.below.trans (hbz.mono HM.out.below.size))
            clear hbz
            go_wp2_with fail
            go_ret
            exact ⟨rfl, HBZ.out⟩
          | true =>
            have t0 := HM.out.tab.cell 0
            have t1 := HM.out.tab.cell 1
            have HFX := Lib.hid (HFA.out wr HM.out.below true ⟨fun _ => ⟨by rw [HL.out]; exact (HF1.out rfl).1, by rw [HL.out]; exact (HF1.out rfl).2.1, HRT.out, fun j hj => (HF1.out rfl).2.2 j (by have := (HF1.out rfl).2.1; omega)⟩, fun _ => rfl⟩)
            clear HFA
            go_wp2_with fail
            refine HFX.out.mono ?_
            rintro e w20 ⟨rfl, hb20⟩
            have HM := Lib.hid (HM.out.step hb20)
            clear hb20 HFX
            go_wp2_with fail
            refine (alive12_any w20).mono ?_
            rintro e wz ⟨rfl, hbz⟩
            have HBZ := Lib.hid (HM.out.below.trans (hbz.mono HM.out.below.size))
            clear hbz
            go_wp2_with fail
            go_ret
            exact ⟨rfl, HBZ.out⟩


theorem aliasPicks_walk (t n cc : Nat) (A : Option Addr) (c : Nat → Nat) (o : Nat → Int) (r : Nat) (i : Int) (B : Option Addr) (ys : List Nat) (m d : Nat) (w : World) (h : Cq w w.heap.size A n c o) (ht : t < 18446744073709551616) (hc : ∀ j, j < n → c j < 18446744073709551616) (hr64 : r < 18446744073709551616)
    (hl : ys.length = m) (hr : Rq w w.heap.size B ys) (hx : ∀ x ∈ ys, x < 18446744073709551616) :
    Calls Try.prog 4 #[.agg #[.int .u64 (t : Int), .slice A n cc], .int .u64 (r : Int), .int .i64 i, .slice B m d] w fun e w' => e = .returned (.bool true) ∧ Below w.heap.size w w' := by
  rcases Nat.lt_or_ge 100 n with hn | hn
  · exact picks12_far1 t n cc A r i B m d w hn
  · rcases Nat.lt_or_ge 100 m with hm | hm
    · exact picks12_far2 t n cc A r i B m d w hn hm
    · by_cases hrt : Rt12 t n c o
      · exact picks12_right t n cc A c o r i B ys m d w h ht hc hr64 hl hr hx hn hm hrt
      · exact picks12_wrong t n cc A c o r i B ys m d w h ht hc hr64 hl hr hx hn hm hrt
end Go.Proofs.Ytcanahjilfnijaa
