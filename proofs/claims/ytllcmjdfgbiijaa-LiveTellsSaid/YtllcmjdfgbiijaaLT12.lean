/-
  SaidLiveTells, part 12 of 16: what the theorem liveTells_holds reaches.
-/
import Derived.Test.YtllcmjdfgbiijaaLT11
namespace Go.Proofs.Ytllcmjdfgbiijaa
open Go.RowKit
set_option maxRecDepth 100000
theorem rlives17 (v : Value) (S : Sv14) (i : Int) (w : World) (h : St14 w v S) (hf : Fine14 S) :
    Calls Try.prog 14 #[v, .int .i64 i] w fun e w' => e = .returned (.bool (livb17 S i)) ∧ Below w.heap.size w w' := by
  obtain ⟨l, hl⟩ := tl16_ex hf i
  rw [← lv17_of hf hl]
  exact rlives16 v S i l w h hf hl
/-- How many tickets fund coins. -/
def k2c17 (S : Sv14) : Nat → Nat
  | 0 => 0
  | n + 1 => k2c17 S n + if (gt14 S.T n).k = 2 then 1 else 0
theorem k2c17_le (S : Sv14) : ∀ n, k2c17 S n ≤ n
  | 0 => Nat.le_refl _
  | n + 1 => by
    have := k2c17_le S n
    rw [k2c17]
    split <;> omega
def light17 (S : Sv14) : Bool := decide (S.T.length ≤ 30) && decide (k2c17 S S.T.length ≤ 8)
set_option maxHeartbeats 4000000 in
theorem rlight17 (v : Value) (S : Sv14) (w : World) (h : St14 w v S) :
    Calls Try.prog 6 #[v] w fun e w' => e = .returned (.bool (light17 S)) ∧ Below w.heap.size w w' := by
  obtain ⟨A0, A1, A2, A3, A4, n0, n1, n2, n3, n4, c0, c1, c2, c3, c4, sq, rfl, hs⟩ := h
  have hx0 := Bx14.new hs
  have hxn := hx0.step (Below.refl _ _).drew
  obtain ⟨W1, hW1⟩ : ∃ W, w.alloc (.cells #[.slice A0 n0 c0, .slice A1 n1 c1, .slice A2 n2 c2, .slice A3 n3 c3, .slice A4 n4 c4, .int .i64 sq] 28) = W := ⟨_, rfl⟩
  rw [hW1] at hx0 hxn
  have HX0 := Lib.hid hx0
  have t1 := hx0.x.cell 1
  have HL1 := Lib.hid hs.l1
  have hm1 := hs.m1
  have HK := Lib.hid (k2c17_le S)
  clear hs hx0 hxn
  go_enter Try.func6, Try.ntmps6
  go_wp2_with fail
  clear t1
  go_loopw [3, 4] (fun n i wr => ∃ k z : Nat, n = .int .i64 (z : Int) ∧ i = .int .i64 (k : Int) ∧ k ≤ n1 ∧ z ≤ k ∧ Hid (k2c17 S k = z) ∧ Hid (Bx14 w S A0 A1 A2 A3 A4 n0 n1 n2 n3 n4 c0 c1 c2 c3 c4 sq wr)) (fun _ i _ => n1 - (intOf i).toNat)
  case atStart => exact ⟨0, 0, rfl, rfl, by omega, by omega, Lib.hid rfl, HX0⟩
  case round =>
    clear HX0
    obtain ⟨k, z, rfl, rfl, hk, hzk, HZ, HW⟩ := hrel
    by_cases hkn : k < n1
    · obtain ⟨a, of, hA, hab, hq⟩ := Lq.at_ len14T (by omega) HW.out.s.r1 (show k < S.T.length by have := HL1.out; omega)
      have t1 : wr.cell? ⟨w.heap.size, 1, none⟩ = some (.slice (some ⟨a, of, none⟩) n1 c1) := by rw [← hA]; exact HW.out.x.cell 1
      have e3 : wr.cell? ⟨a, of + k * 6 + 3, none⟩ = some (.int .i64 (gt14 S.T k).k) := hq 3 _ rfl
      obtain ⟨xk, hxk⟩ : ∃ x, (gt14 S.T k).k = x := ⟨_, rfl⟩
      have HN : Hid (k2c17 S (k + 1) = z + if xk = 2 then 1 else 0) := Lib.hid (by rw [k2c17, HZ.out, hxk])
      rw [hxk] at e3
      have i0 : (0 : Int) ≤ (k : Int) := by omega
      have i1 : (k : Int) < (n1 : Int) := by omega
      clear hxk hq hab hA
      by_cases h2 : xk = 2
      · have HN2 : Hid (k2c17 S (k + 1) = z + 1) := Lib.hid (by rw [HN.out, if_pos h2])
        subst h2
        clear HN HZ
        go_wp2_with fail
        go_roundw
        case rel => exact ⟨k + 1, z + 1, by go_num, by go_num, by omega, by omega, HN2, HW⟩
        case measure => simp [intOf]; omega
      · have HN2 : Hid (k2c17 S (k + 1) = z) := Lib.hid (by rw [HN.out, if_neg h2]; rfl)
        have h2b : (xk == 2) = false := by simp [h2]
        clear HN HZ h2
        go_wp2_with fail
        go_roundw
        case rel => exact ⟨k + 1, z, rfl, by go_num, by omega, by omega, HN2, HW⟩
        case measure => simp [intOf]; omega
    · obtain rfl : k = n1 := by omega
      have t1 := HW.out.x.cell 1
      have h1 : ¬ (k : Int) < (k : Int) := by omega
      by_cases h30 : k ≤ 30
      · have h30i : (k : Int) ≤ 30 := by omega
        have HE : Hid (light17 S = decide ((z : Int) ≤ 8)) := Lib.hid (by
          unfold light17
          rw [HL1.out, HZ.out, decide_eq_true h30, Bool.true_and]
          exact decide_eq_decide.2 (by omega))
        go_wp2_with fail
        go_ret
        exact ⟨by rw [HE.out]; first | rfl | simp, HW.out.b⟩
      · have h30i : ¬ (k : Int) ≤ 30 := by omega
        have h30b : decide ((k : Int) ≤ 30) = false := by simp; omega
        have h30c : decide (k ≤ 30) = false := by simp; omega
        have HE : Hid (light17 S = false) := Lib.hid (by
          unfold light17
          rw [HL1.out, h30c, Bool.false_and])
        go_wp2_with fail
        go_ret
        exact ⟨by rw [HE.out]; first | rfl | simp, HW.out.b⟩
set_option maxHeartbeats 4000000 in
theorem rcounts17_of (v : Value) (S : Sv14) (k : Nat) (w : World) (h : St14 w v S) (hf : Fine14 S) (hk : k < S.T.length)
    (hA : (gt14 S.T k).u = true → (gt14 S.T k).o = true → (gt14 S.T k).k = 2 → ∀ W, St14 W v S → Calls Try.prog 13 #[v, .int .i64 (gt14 S.T k).t] W fun e w' => e = .returned (.int .i64 (amt17 S (gt14 S.T k).t S.T.length)) ∧ Below W.heap.size W w') :
    Calls Try.prog 12 #[v, .int .i64 (k : Int)] w fun e w' => e = .returned (.bool (cntb17 S k)) ∧ Below w.heap.size w w' := by
  obtain ⟨A0, A1, A2, A3, A4, n0, n1, n2, n3, n4, c0, c1, c2, c3, c4, sq, rfl, hs⟩ := h
  have hx0 := Bx14.new hs
  have hxn := hx0.step (Below.refl _ _).drew
  obtain ⟨W1, hW1⟩ : ∃ W, w.alloc (.cells #[.slice A0 n0 c0, .slice A1 n1 c1, .slice A2 n2 c2, .slice A3 n3 c3, .slice A4 n4 c4, .int .i64 sq] 28) = W := ⟨_, rfl⟩
  rw [hW1] at hx0 hxn
  have hl1 := hs.l1
  have hm1 := hs.m1
  have hT := hf.2.2.2.2.1
  obtain ⟨a, of, hAd, hab, hq⟩ := Lq.at_ len14T (by omega) hx0.s.r1 hk
  have t1 : W1.cell? ⟨w.heap.size, 1, none⟩ = some (.slice (some ⟨a, of, none⟩) n1 c1) := by rw [← hAd]; exact hx0.x.cell 1
  have HCI : Hid (cntb17 S k = true ↔ k < S.T.length ∧ (gt14 S.T k).u = true ∧ (gt14 S.T k).o = true ∧ ((gt14 S.T k).k = 1 ∧ Liv16 S (gt14 S.T k).t ∨ (gt14 S.T k).k = 2 ∧ ∃ j, (gt14 S.T j).c = (gt14 S.T k).t ∧ Cnt17 S j)) := Lib.hid (by rw [cntb17_yes, cnt17_iff])
  have HAL := Lib.hid (amt17_all hT (gt14 S.T k).t)
  obtain ⟨x, hx⟩ : ∃ x, gt14 S.T k = x := ⟨_, rfl⟩
  rw [hx] at hq hA HCI HAL
  obtain ⟨xu, xc, xa, xk, xt, xo⟩ := x
  dsimp only at hA HCI HAL
  have e0 : W1.cell? ⟨a, of + k * 6, none⟩ = some (.bool xu) := hq 0 _ rfl
  have e1 : W1.cell? ⟨a, of + k * 6 + 1, none⟩ = some (.int .i64 xc) := hq 1 _ rfl
  have e2 : W1.cell? ⟨a, of + k * 6 + 2, none⟩ = some (.int .i64 xa) := hq 2 _ rfl
  have e3 : W1.cell? ⟨a, of + k * 6 + 3, none⟩ = some (.int .i64 xk) := hq 3 _ rfl
  have e4 : W1.cell? ⟨a, of + k * 6 + 4, none⟩ = some (.int .i64 xt) := hq 4 _ rfl
  have e5 : W1.cell? ⟨a, of + k * 6 + 5, none⟩ = some (.bool xo) := hq 5 _ rfl
  have i0 : (0 : Int) ≤ (k : Int) := by omega
  have i1 : (k : Int) < (n1 : Int) := by omega
  have hz1 : W1.heap.size = w.heap.size + 1 := by rw [← hW1]; simp
  have hx2 := hx0.step (b1' W1 (.cells #[.bool xu, .int .i64 xc, .int .i64 xa, .int .i64 xk, .int .i64 xt, .bool xo] 35))
  have hv := Blk.new W1 35 #[.bool xu, .int .i64 xc, .int .i64 xa, .int .i64 xk, .int .i64 xt, .bool xo]
  rw [hz1] at hv
  obtain ⟨X, hX⟩ : ∃ X, W1.alloc (.cells #[.bool xu, .int .i64 xc, .int .i64 xa, .int .i64 xk, .int .i64 xt, .bool xo] 35) = X := ⟨_, rfl⟩
  rw [hX] at hx2 hv
  have v0 := hv.cell 0
  have v1 := hv.cell 1
  have v2 := hv.cell 2
  have v3 := hv.cell 3
  have v4 := hv.cell 4
  have v5 := hv.cell 5
  have HX2 := Lib.hid hx2
  have HLV := Lib.hid (fun W (h : Bx14 w S A0 A1 A2 A3 A4 n0 n1 n2 n3 n4 c0 c1 c2 c3 c4 sq W) => rlives17 _ S xt W h.st hf)
  have HAM := Lib.hid (fun (h1 : xu = true) (h2 : xo = true) (h3 : xk = 2) W (h : Bx14 w S A0 A1 A2 A3 A4 n0 n1 n2 n3 n4 c0 c1 c2 c3 c4 sq W) => hA h1 h2 h3 W h.st)
  have HKL := Lib.hid hk
  clear hs hx0 hxn hx2 hv hq hx hab hAd hA hf hT hk hl1
  go_enter Try.func12, Try.ntmps12
  go_upto_region 2 with (fail)
  clear t1 e0 e1 e2 e3 e4 e5 hX hW1
  cases xu with
  | false =>
    have HE : Hid (cntb17 S k = false) := Lib.hid (by
      rw [Bool.eq_false_iff, ne_eq, HCI.out]
      rintro ⟨_, h, _⟩
      cases h)
    go_wp2_with fail
    go_ret
    exact ⟨by rw [HE.out]; rfl, HX2.out.b⟩
  | true =>
    cases xo with
    | false =>
      have HE : Hid (cntb17 S k = false) := Lib.hid (by
        rw [Bool.eq_false_iff, ne_eq, HCI.out]
        rintro ⟨_, _, h, _⟩
        cases h)
      go_wp2_with fail
      go_ret
      exact ⟨by rw [HE.out]; rfl, HX2.out.b⟩
    | true =>
      have y0 := HX2.out.x.cell 0
      have y1 := HX2.out.x.cell 1
      have y2 := HX2.out.x.cell 2
      have y3 := HX2.out.x.cell 3
      have y4 := HX2.out.x.cell 4
      have y5 := HX2.out.x.cell 5
      by_cases k1 : xk = 1
      · subst k1
        have HE : Hid (cntb17 S k = livb17 S xt) := Lib.hid (by
          rw [Bool.eq_iff_iff, HCI.out, livb17_yes]
          constructor
          · rintro ⟨_, _, _, ⟨_, h⟩ | ⟨h, _⟩⟩
            · exact h
            · omega
          · exact fun h => ⟨HKL.out, rfl, rfl, .inl ⟨rfl, h⟩⟩)
        clear HAM HCI HAL HKL
        go_wp2_with fail
        refine (HLV.out _ HX2.out).mono ?_
        rintro e w4 ⟨rfl, hb4⟩
        have HX4 := Lib.hid (HX2.out.step hb4)
        clear hb4 HLV HX2
        go_wp2_with fail
        go_ret
        exact ⟨by rw [HE.out]; rfl, HX4.out.b⟩
      · have k1b : (xk == 1) = false := by simp [k1]
        by_cases k2 : xk = 2
        · subst k2
          have HE : Hid (cntb17 S k = decide (amt17 S xt S.T.length > 0)) := Lib.hid (by
            rw [Bool.eq_iff_iff, HCI.out, decide_eq_true_iff]
            constructor
            · rintro ⟨_, _, _, ⟨h, _⟩ | ⟨_, h⟩⟩
              · omega
              · exact HAL.out.2 h
            · exact fun h => ⟨HKL.out, rfl, rfl, .inr ⟨rfl, HAL.out.1 h⟩⟩)
          have HA2 := Lib.hid (HAM.out rfl rfl rfl X HX2.out)
          obtain ⟨am, ham⟩ : ∃ z, amt17 S xt S.T.length = z := ⟨_, rfl⟩
          rw [ham] at HA2 HE
          clear HAM HCI HAL HKL HLV ham k1
          go_wp2_with fail
          refine HA2.out.mono ?_
          rintro e w4 ⟨rfl, hb4⟩
          have HX4 := Lib.hid (HX2.out.step hb4)
          clear hb4 HA2 HX2
          go_wp2_with fail
          go_ret
          exact ⟨by rw [HE.out]; first | rfl | simp, HX4.out.b⟩
        · have k2b : (xk == 2) = false := by simp [k2]
          have HE : Hid (cntb17 S k = false) := Lib.hid (by
            rw [Bool.eq_false_iff, ne_eq, HCI.out]
            rintro ⟨_, _, _, ⟨h, _⟩ | ⟨h, _⟩⟩
            · exact k1 h
            · exact k2 h)
          have HB := Lib.hid HX2.out.b
          clear HAM HCI HAL HKL HLV k1 k2
          go_wp2_with fail
          go_ret
          exact ⟨by rw [HE.out]; rfl, HB.out⟩
set_option maxHeartbeats 4000000 in
theorem ramount17_of (v : Value) (S : Sv14) (c : Int) (w : World) (h : St14 w v S) (hf : Fine14 S)
    (hC : ∀ k : Nat, k < S.T.length → (gt14 S.T k).c = c → ∀ W, St14 W v S → Calls Try.prog 12 #[v, .int .i64 (k : Int)] W fun e w' => e = .returned (.bool (cntb17 S k)) ∧ Below W.heap.size W w') :
    Calls Try.prog 13 #[v, .int .i64 c] w fun e w' => e = .returned (.int .i64 (amt17 S c S.T.length)) ∧ Below w.heap.size w w' := by
  obtain ⟨A0, A1, A2, A3, A4, n0, n1, n2, n3, n4, c0, c1, c2, c3, c4, sq, rfl, hs⟩ := h
  have hx0 := Bx14.new hs
  have hxn := hx0.step (Below.refl _ _).drew
  obtain ⟨W1, hW1⟩ : ∃ W, w.alloc (.cells #[.slice A0 n0 c0, .slice A1 n1 c1, .slice A2 n2 c2, .slice A3 n3 c3, .slice A4 n4 c4, .int .i64 sq] 28) = W := ⟨_, rfl⟩
  rw [hW1] at hx0 hxn
  have HX0 := Lib.hid hx0
  have t1 := hx0.x.cell 1
  have HL1 := Lib.hid hs.l1
  have hm1 := hs.m1
  have HBD := Lib.hid (fun n => amt17_bound hf.2.2.2.2.1 c n)
  have HT := Lib.hid hf.2.2.2.2.1
  have HC := Lib.hid (fun (k : Nat) hk he W (h : Bx14 w S A0 A1 A2 A3 A4 n0 n1 n2 n3 n4 c0 c1 c2 c3 c4 sq W) => hC k hk he W h.st)
  clear hs hx0 hxn hC hf
  go_enter Try.func13, Try.ntmps13
  go_wp2_with fail
  clear t1
  go_loopw [5, 6] (fun n i wr => ∃ (k : Nat) (z : Int), n = .int .i64 z ∧ i = .int .i64 (k : Int) ∧ k ≤ n1 ∧ Hid (amt17 S c k = z) ∧ Hid (Bx14 w S A0 A1 A2 A3 A4 n0 n1 n2 n3 n4 c0 c1 c2 c3 c4 sq wr)) (fun _ i _ => n1 - (intOf i).toNat)
  case atStart => exact ⟨0, 0, rfl, rfl, by omega, Lib.hid rfl, HX0⟩
  case round =>
    clear HX0
    obtain ⟨k, z, rfl, rfl, hk, HZ, HW⟩ := hrel
    by_cases hkn : k < n1
    · have hkl : k < S.T.length := by have := HL1.out; omega
      obtain ⟨a, of, hA, hab, hq⟩ := Lq.at_ len14T (by omega) HW.out.s.r1 hkl
      subst hA
      have t1 := HW.out.x.cell 1
      have HTK := Lib.hid (fun hu => (HT.out k hkl hu))
      have HCK := Lib.hid (fun h => HC.out k hkl h)
      have HN : Hid (amt17 S c (k + 1) = z + if (gt14 S.T k).c = c ∧ cntb17 S k = true then (gt14 S.T k).a else 0) := Lib.hid (by rw [amt17, HZ.out])
      have HCU : Hid (cntb17 S k = true → (gt14 S.T k).u = true) := Lib.hid (fun h => (cntb17_yes.1 h).lt.2)
      obtain ⟨x, hx⟩ : ∃ x, gt14 S.T k = x := ⟨_, rfl⟩
      rw [hx] at hq HTK HCK HN HCU
      obtain ⟨xu, xc, xa, xk, xt, xo⟩ := x
      dsimp only at HTK HCK HN HCU
      have e1 : wr.cell? ⟨a, of + k * 6 + 1, none⟩ = some (.int .i64 xc) := hq 1 _ rfl
      have HE2 : Hid (wr.cell? ⟨a, of + k * 6 + 2, none⟩ = some (.int .i64 xa)) := Lib.hid (hq 2 _ rfl)
      have i0 : (0 : Int) ≤ (k : Int) := by omega
      have i1 : (k : Int) < (n1 : Int) := by omega
      clear hx hq hab
      by_cases hc : xc = c
      · have hcb : (xc == c) = true := by simp [hc]
        have HCW := Lib.hid (HCK.out hc wr HW.out)
        obtain ⟨b, hb⟩ : ∃ b, cntb17 S k = b := ⟨_, rfl⟩
        rw [hb] at HCW HN HCU
        have y0 := HW.out.x.cell 0
        have y1 := HW.out.x.cell 1
        have y2 := HW.out.x.cell 2
        have y3 := HW.out.x.cell 3
        have y4 := HW.out.x.cell 4
        have y5 := HW.out.x.cell 5
        clear hb HCK y1
        cases b with
        | false =>
          have HN2 : Hid (amt17 S c (k + 1) = z) := Lib.hid (by rw [HN.out, if_neg (by rintro ⟨_, h⟩; cases h)]; omega)
          clear HN HTK HCU hc
          go_wp2_with fail
          refine HCW.out.mono ?_
          rintro e w4 ⟨rfl, hb4⟩
          have HX4 := Lib.hid (HW.out.step hb4)
          clear hb4 HCW
          go_wp2_with fail
          go_roundw
          case rel => exact ⟨k + 1, z, rfl, by go_num, by omega, HN2, HX4⟩
          case measure => simp [intOf]; omega
        | true =>
          have HN2 : Hid (amt17 S c (k + 1) = z + xa) := Lib.hid (by rw [HN.out, if_pos ⟨hc, rfl⟩])
          have hbd := HBD.out (k + 1)
          rw [HN2.out] at hbd
          have hwr : IntKind.i64.wrap (z + xa) = z + xa := by rw [IntKind.wrap_i64]; omega
          clear HN HTK HCU hc hbd
          go_wp2_with fail
          refine HCW.out.mono ?_
          rintro e w4 ⟨rfl, hb4⟩
          have HX4 := Lib.hid (HW.out.step hb4)
          have f2 := (hb4.cell (World.block_lt_of_cell? _ _ HE2.out)).trans HE2.out
          have t14 := HX4.out.x.cell 1
          clear hb4 HCW
          go_wp2_with fail
          go_roundw
          case rel => exact ⟨k + 1, z + xa, by first | rfl | rw [hwr], by go_num, by omega, HN2, HX4⟩
          case measure => simp [intOf]; omega
      · have hcb : (xc == c) = false := by simp [hc]
        have HN2 : Hid (amt17 S c (k + 1) = z) := Lib.hid (by rw [HN.out, if_neg (fun h => hc h.1)]; omega)
        clear HN HTK HCU HCK hc
        go_wp2_with fail
        go_roundw
        case rel => exact ⟨k + 1, z, rfl, by go_num, by omega, HN2, HW⟩
        case measure => simp [intOf]; omega
    · obtain rfl : k = n1 := by omega
      have t1 := HW.out.x.cell 1
      have h1 : ¬ (k : Int) < (k : Int) := by omega
      have HE : Hid (amt17 S c S.T.length = z) := Lib.hid (by rw [HL1.out]; exact HZ.out)
      go_wp2_with fail
      go_ret
      exact ⟨by rw [HE.out]; rfl, HW.out.b⟩
/-- Of any coin, and of any ticket: along the order, from its end. -/
theorem ramount17 (v : Value) (S : Sv14) (hf : Fine14 S) (c : Int) (w : World) (h : St14 w v S) :
    Calls Try.prog 13 #[v, .int .i64 c] w fun e w' => e = .returned (.int .i64 (amt17 S c S.T.length)) ∧ Below w.heap.size w w' := by
  have hT := hf.2.2.2.2.1
  obtain ⟨os, hd⟩ := done13_ex (Ca15 S) S.C.length
  have hl : os.length = S.C.length := Done13.full (in13_cut _ _) hd (free15_ring.1 hf.2.2.2.2.2.2.2.2.1)
  have key : ∀ (n d : Nat), d < (ord15 S os).length → (ord15 S os).length - d ≤ n → ∀ w, St14 w v S → Calls Try.prog 13 #[v, .int .i64 ((nth (ord15 S os) d : Nat) : Int)] w fun e w' => e = .returned (.int .i64 (amt17 S ((nth (ord15 S os) d : Nat) : Int) S.T.length)) ∧ Below w.heap.size w w' := by
    intro n
    induction n with
    | zero => intro d h1 h2; omega
    | succ n ih =>
      intro d h1 h2 w h
      refine ramount17_of v S _ w h hf (fun k hk hc W hW => rcounts17_of v S k W hW hf hk (fun hu _ hk2 W2 hW2 => ?_))
      have hb := ord17_behind hT hd.1 hl h1 hk hu hk2 hc
      obtain ⟨q, hq, hqe⟩ := List.mem_iff_getElem.1 hb
      rw [List.length_drop] at hq
      rw [List.getElem_drop, ← nth_in] at hqe
      have huc : us14 usC S.C (gt14 S.T k).t = true := by
        rcases (hT k hk hu).2.2.2 with h | h | h
        · omega
        · omega
        · exact h.2.2
      have hin := us15_lt huc
      have h3 := ih (d + 1 + q) (by omega) (by omega) W2 hW2
      rw [hqe, show (((gt14 S.T k).t.toNat : Nat) : Int) = (gt14 S.T k).t by omega] at h3
      exact h3
  cases hu : us14 usC S.C c with
  | true =>
    have hin := us15_lt hu
    have hci : ((c.toNat : Nat) : Int) = c := by omega
    have hm : c.toNat ∈ ord15 S os := (ord17_in hd.1 hl).2 (by rw [hci]; exact hu)
    obtain ⟨q, hq, hqe⟩ := List.mem_iff_getElem.1 hm
    rw [← nth_in hq] at hqe
    have h3 := key _ q hq (Nat.le_refl _) w h
    rw [hqe, hci] at h3
    exact h3
  | false =>
    refine ramount17_of v S c w h hf (fun k hk hc W hW => rcounts17_of v S k W hW hf hk (fun hu2 _ _ => ?_))
    have h4 := (hT k hk hu2).1
    rw [hc, hu] at h4
    cases h4
theorem rcounts17 (v : Value) (S : Sv14) (hf : Fine14 S) (k : Nat) (hk : k < S.T.length) (w : World) (h : St14 w v S) :
    Calls Try.prog 12 #[v, .int .i64 (k : Int)] w fun e w' => e = .returned (.bool (cntb17 S k)) ∧ Below w.heap.size w w' :=
  rcounts17_of v S k w h hf hk (fun _ _ _ W hW => ramount17 v S hf _ W hW)
end Go.Proofs.Ytllcmjdfgbiijaa
namespace Go.Proofs.Ytllcmjdfgbiijaa
open Go.RowKit
set_option maxRecDepth 100000
theorem below17_of {w w' : World} (h : w.grownBy w' none) : Below w.heap.size w w' := (Below.refl _ _).grown h (Nat.le_refl _) (fun r hr => by cases hr)
theorem rd17_two (W : World) : Rd (W.alloc (.cells #[.int .i64 3, .int .i64 0] 3)) (W.alloc (.cells #[.int .i64 3, .int .i64 0] 3)).heap.size (some ⟨W.heap.size, 0, none⟩) [3, 0] := fun _ =>
  ⟨W.heap.size, 0, rfl, by simp, fun k hk => by
    have h := (Blk.new W 3 #[.int .i64 3, .int .i64 0]).cell
    match k, hk with
    | 0, _ => exact h 0
    | 1, _ => exact h 1⟩
theorem rd17_one (W : World) : Rd (W.alloc (.cells #[.int .i64 1] 3)) (W.alloc (.cells #[.int .i64 1] 3)).heap.size (some ⟨W.heap.size, 0, none⟩) [1] := fun _ =>
  ⟨W.heap.size, 0, rfl, by simp, fun k hk => by
    have h := (Blk.new W 3 #[.int .i64 1]).cell
    match k, hk with
    | 0, _ => exact h 0⟩
def exS17 : Sv14 := ⟨[true, true], [⟨true, 0, 3, 1, 0, true⟩, ⟨true, 0, 4, 2, 1, true⟩], [⟨2, -1, -1, 1, 1⟩], [], [], 5⟩
theorem exs17_us0 : us14 usC exS17.C 0 = true := by decide +kernel
theorem exs17_us1 : us14 usC exS17.C 1 = true := by decide +kernel
theorem exs17_uh0 : us14 usH exS17.H 0 = true := by decide +kernel
theorem exs17_n0 : nxt16 exS17 0 = -1 := by decide +kernel
theorem exs17_ca : cut13 2 (cArr14 exS17 2) = [(0, 1)] := by decide +kernel
theorem exs17_ta : cut13 1 (tArr14 exS17 1) = [] := by decide +kernel
theorem exs17_done1 : Done13 [] 1 [0] := by
  refine ⟨.next (os := []) .nil ⟨by decide, by decide, fun f hf => by cases hf⟩ (fun j hj => by omega), fun i h => ?_⟩
  have h1 := h.1
  have h2 := h.2.1
  simp at h2
  omega
theorem exs17_done2 : Done13 [(0, 1)] 2 [0, 1] := by
  refine ⟨.next (os := [0]) (.next (os := []) .nil ⟨by decide, by decide, fun f hf => by simp at hf⟩ (fun j hj => by omega)) ⟨by decide, by decide, fun f hf => ?_⟩ (fun j hj h => ?_), fun i h => ?_⟩
  · simp at hf
    simp [hf]
  · obtain rfl : j = 0 := by omega
    exact h.2.1 (by simp)
  · have h1 := h.1
    have h2 := h.2.1
    simp at h2
    omega
theorem exs17_fine : Fine14 exS17 := by
  refine ⟨by decide, by decide, ⟨⟨by decide, by decide, fun j hj h => ?_⟩, ⟨by decide, by decide, fun j hj h => ?_⟩, ⟨by decide, by decide, fun j hj h => ?_⟩, ⟨by decide, by decide, (fun j hj => by cases hj)⟩⟩, by decide +kernel, fun j hj _ => ?_, ⟨fun j hj _ => ?_, by decide⟩, (fun j hj => by cases hj), ⟨by decide, fun j hj h => ?_, ?_⟩, ⟨[0, 1], ?_, rfl⟩, ⟨[0], ?_, rfl⟩⟩
  · match j, hj with
    | 0, _ => cases h
    | 1, _ => cases h
  · match j, hj with
    | 0, _ => cases h
    | 1, _ => cases h
  · match j, hj with
    | 0, _ => cases h
  · match j, hj with
    | 0, _ => exact ⟨exs17_us0, by decide, by decide, .inr (.inl ⟨rfl, exs17_uh0⟩)⟩
    | 1, _ => exact ⟨exs17_us0, by decide, by decide, .inr (.inr ⟨rfl, by decide, exs17_us1⟩)⟩
  · match j, hj with
    | 0, _ => exact ⟨.inr (.inr ⟨.inr (.inl rfl), rfl⟩), .inl rfl, .inl ⟨rfl, rfl⟩⟩
  · match j, hj with
    | 0, _ => intro g; cases g.1
  · decide +kernel
  · show Done13 (cut13 2 (cArr14 exS17 2)) 2 [0, 1]
    rw [exs17_ca]
    exact exs17_done2
  · show Done13 (cut13 1 (tArr14 exS17 1)) 1 [0]
    rw [exs17_ta]
    exact exs17_done1
theorem exs17_liv : Liv16 exS17 0 := ⟨0, [0], rfl, exs17_uh0, .one exs17_n0, .inl (by decide +kernel)⟩
theorem exs17_c0 : cntb17 exS17 0 = true := cntb17_yes.2 (.thr (by decide) rfl rfl rfl exs17_liv)
theorem exs17_c1 : cntb17 exS17 1 = false := cntb17_no.2 (fun h => by
  rcases (cnt17_iff.1 h).2.2.2 with ⟨h1, _⟩ | ⟨_, j, h2, h3⟩
  · cases h1
  · have hj := h3.lt.1
    have hj2 : j < 2 := hj
    match j, hj2 with
    | 0, _ => cases h2
    | 1, _ => cases h2)
theorem exs17_a0 : amn17 exS17 0 = 3 := by
  have h : amt17 exS17 0 2 = 3 := by
    rw [amt17, amt17, amt17, exs17_c0, exs17_c1]
    decide +kernel
  unfold amn17
  rw [show exS17.T.length = 2 from rfl, h]
  rfl
theorem exs17_a1 : amn17 exS17 1 = 0 := by
  have h : amt17 exS17 1 2 = 0 := by
    rw [amt17, amt17, amt17, exs17_c0, exs17_c1]
    decide +kernel
  unfold amn17
  rw [show exS17.T.length = 2 from rfl, h]
  rfl
theorem exs17_d : dea17 exS17 = [1] := by
  show all11 (fun j => (gt14 exS17.T j).u && !cntb17 exS17 j) 2 = [1]
  have h0 : (gt14 exS17.T 0).u = true := rfl
  have h1 : (gt14 exS17.T 1).u = true := rfl
  simp [all11, List.range_succ, exs17_c0, exs17_c1, h0, h1]
theorem exs17_w0 : aw17 exS17.C.length (fun x => amn17 exS17 ((x : Nat) : Int)) 0 = true := by
  have h := aw17_in (n := exS17.C.length) (Am := fun x => amn17 exS17 ((x : Nat) : Int)) (k := 0) (by decide)
  refine Eq.trans h ?_
  exact decide_eq_true (by show 0 < amn17 exS17 0; rw [exs17_a0]; decide)
theorem exs17_w1 : aw17 exS17.C.length (fun x => amn17 exS17 ((x : Nat) : Int)) 1 = false := by
  have h := aw17_in (n := exS17.C.length) (Am := fun x => amn17 exS17 ((x : Nat) : Int)) (k := 1) (by decide)
  refine Eq.trans h ?_
  exact decide_eq_false (by show ¬ 0 < amn17 exS17 1; rw [exs17_a1]; decide)
set_option maxHeartbeats 8000000 in
theorem alive17_any (w : World) : Calls Try.prog 8 #[] w fun e w' => e = .returned (.bool true) ∧ Below w.heap.size w w' := by
  have hb0 := b1' w (.cells #[.int .i64 2, .int .i64 (-1), .int .i64 (-1), .int .i64 1, .int .i64 1] 43)
  have hk0 := Blk.new w 43 #[.int .i64 2, .int .i64 (-1), .int .i64 (-1), .int .i64 1, .int .i64 1]
  have hz0 : (w.alloc (.cells #[.int .i64 2, .int .i64 (-1), .int .i64 (-1), .int .i64 1, .int .i64 1] 43)).heap.size = w.heap.size + 1 := by simp
  obtain ⟨wa, hw0⟩ : ∃ W, w.alloc (.cells #[.int .i64 2, .int .i64 (-1), .int .i64 (-1), .int .i64 1, .int .i64 1] 43) = W := ⟨_, rfl⟩
  rw [hw0] at hb0 hk0 hz0
  have hb1 := b1' wa (.cells #[.bool true, .bool true] 4)
  have hk1 := Blk.new wa 4 #[.bool true, .bool true]
  have hz1 : (wa.alloc (.cells #[.bool true, .bool true] 4)).heap.size = w.heap.size + 2 := by simp [hz0]
  rw [hz0] at hk1
  obtain ⟨wb, hw1⟩ : ∃ W, wa.alloc (.cells #[.bool true, .bool true] 4) = W := ⟨_, rfl⟩
  rw [hw1] at hb1 hk1 hz1
  have hb2 := b1' wb (.cells #[.bool true, .int .i64 0, .int .i64 3, .int .i64 1, .int .i64 0, .bool true, .bool true, .int .i64 0, .int .i64 4, .int .i64 2, .int .i64 1, .bool true] 35)
  have hk2 := Blk.new wb 35 #[.bool true, .int .i64 0, .int .i64 3, .int .i64 1, .int .i64 0, .bool true, .bool true, .int .i64 0, .int .i64 4, .int .i64 2, .int .i64 1, .bool true]
  have hz2 : (wb.alloc (.cells #[.bool true, .int .i64 0, .int .i64 3, .int .i64 1, .int .i64 0, .bool true, .bool true, .int .i64 0, .int .i64 4, .int .i64 2, .int .i64 1, .bool true] 35)).heap.size = w.heap.size + 3 := by simp [hz1]
  rw [hz1] at hk2
  obtain ⟨wc, hw2⟩ : ∃ W, wb.alloc (.cells #[.bool true, .int .i64 0, .int .i64 3, .int .i64 1, .int .i64 0, .bool true, .bool true, .int .i64 0, .int .i64 4, .int .i64 2, .int .i64 1, .bool true] 35) = W := ⟨_, rfl⟩
  rw [hw2] at hb2 hk2 hz2
  have hb3 := b1' wc (.cells #[.int .i64 2, .int .i64 (-1), .int .i64 (-1), .int .i64 1, .int .i64 1] 43)
  have hk3 := Blk.new wc 43 #[.int .i64 2, .int .i64 (-1), .int .i64 (-1), .int .i64 1, .int .i64 1]
  have hz3 : (wc.alloc (.cells #[.int .i64 2, .int .i64 (-1), .int .i64 (-1), .int .i64 1, .int .i64 1] 43)).heap.size = w.heap.size + 4 := by simp [hz2]
  rw [hz2] at hk3
  obtain ⟨wd, hw3⟩ : ∃ W, wc.alloc (.cells #[.int .i64 2, .int .i64 (-1), .int .i64 (-1), .int .i64 1, .int .i64 1] 43) = W := ⟨_, rfl⟩
  rw [hw3] at hb3 hk3 hz3
  have hb4 := b1' wd (.cells #[.slice (some ⟨w.heap.size + 1, 0, none⟩) 2 2, .slice (some ⟨w.heap.size + 2, 0, none⟩) 2 2, .slice (some ⟨w.heap.size + 3, 0, none⟩) 1 1, .slice none 0 0, .slice none 0 0, .int .i64 5] 28)
  have hk4 := Blk.new wd 28 #[.slice (some ⟨w.heap.size + 1, 0, none⟩) 2 2, .slice (some ⟨w.heap.size + 2, 0, none⟩) 2 2, .slice (some ⟨w.heap.size + 3, 0, none⟩) 1 1, .slice none 0 0, .slice none 0 0, .int .i64 5]
  rw [hz3] at hk4
  obtain ⟨we, hw4⟩ : ∃ W, wd.alloc (.cells #[.slice (some ⟨w.heap.size + 1, 0, none⟩) 2 2, .slice (some ⟨w.heap.size + 2, 0, none⟩) 2 2, .slice (some ⟨w.heap.size + 3, 0, none⟩) 1 1, .slice none 0 0, .slice none 0 0, .int .i64 5] 28) = W := ⟨_, rfl⟩
  rw [hw4] at hb4 hk4
  have hg1 := hb0.trans (hb1.mono (by omega))
  have hg2 := hg1.trans (hb2.mono (by omega))
  have hg3 := hg2.trans (hb3.mono (by omega))
  have hg4 := hg3.trans (hb4.mono (by omega))
  have HB0 : Hid (Below w.heap.size w we) := Lib.hid hg4
  have HK0 := Lib.hid hk4
  have HS0 : Hid (SA14 we exS17 (some ⟨w.heap.size + 1, 0, none⟩) (some ⟨w.heap.size + 2, 0, none⟩) (some ⟨w.heap.size + 3, 0, none⟩) none none 2 2 1 0 0 2 2 1 0 0 5) := Lib.hid (by
    have hc1 := ((hk1.below hb2 (by omega)).below hb3 (by omega)).below hb4 (by omega)
    have hc2 := (hk2.below hb3 (by omega)).below hb4 (by omega)
    have hc3 := hk3.below hb4 (by omega)
    refine ⟨rfl, rfl, rfl, rfl, rfl, ?_, ?_, ?_, Lq.nil _ _ _ _, Lq.nil _ _ _ _, by omega, by omega, by omega, by omega, by omega, by omega, by omega, by omega, by omega, by omega, rfl⟩
    · refine fun _ => ⟨w.heap.size + 1, 0, rfl, hc1.lt, fun k v hk => ?_⟩
      rw [Nat.zero_add, hc1.cell]
      rw [show fl14 clC exS17.C = [.bool true, .bool true] from rfl] at hk
      simpa using hk
    · refine fun _ => ⟨w.heap.size + 2, 0, rfl, hc2.lt, fun k v hk => ?_⟩
      rw [Nat.zero_add, hc2.cell]
      rw [show fl14 clT exS17.T = [.bool true, .int .i64 0, .int .i64 3, .int .i64 1, .int .i64 0, .bool true, .bool true, .int .i64 0, .int .i64 4, .int .i64 2, .int .i64 1, .bool true] from rfl] at hk
      simpa using hk
    · refine fun _ => ⟨w.heap.size + 3, 0, rfl, hc3.lt, fun k v hk => ?_⟩
      rw [Nat.zero_add, hc3.cell]
      rw [show fl14 clH exS17.H = [.int .i64 2, .int .i64 (-1), .int .i64 (-1), .int .i64 1, .int .i64 1] from rfl] at hk
      simpa using hk)
  have ha := (hk0.below hb1 (by omega)).below hb2 (by omega)
  have x0 := ha.cell 0
  have x1 := ha.cell 1
  have x2 := ha.cell 2
  have x3 := ha.cell 3
  have x4 := ha.cell 4
  have a0 := hk0.cell 0
  have a1 := hk0.cell 1
  have a2 := hk0.cell 2
  have a3 := hk0.cell 3
  have a4 := hk0.cell 4
  have s0 := hk4.cell 0
  have s1 := hk4.cell 1
  have s2 := hk4.cell 2
  have s3 := hk4.cell 3
  have s4 := hk4.cell 4
  have s5 := hk4.cell 5
  clear ha hb0 hk0 hb1 hk1 hb2 hk2 hb3 hk3 hb4 hk4 hg1 hg2 hg3 hg4
  have HC0 := Lib.hid (tickets17 (.agg #[.slice (some ⟨w.heap.size + 1, 0, none⟩) 2 2, .slice (some ⟨w.heap.size + 2, 0, none⟩) 2 2, .slice (some ⟨w.heap.size + 3, 0, none⟩) 1 1, .slice none 0 0, .slice none 0 0, .int .i64 5]) exS17 we ⟨_, _, _, _, _, _, _, _, _, _, _, _, _, _, _, _, rfl, HS0.out⟩ exs17_fine)
  go_enter Try.func8, Try.ntmps8
  go_wp2_with fail
  refine HC0.out.mono ?_
  rintro e W1 ⟨g, rfl, hg, hr, hb⟩
  have c0 := (hr.cells (show 0 < exS17.T.length by decide)).1
  have c1 := (hr.cells (show 1 < exS17.T.length by decide)).1
  rw [exs17_c0] at c0
  rw [exs17_c1] at c1
  rw [show exS17.T.length = 2 from rfl]
  clear hg hr HC0 s0 s1 s2 s3 s4 s5 x0 x1 x2 x3 x4 a0 a1 a2 a3 a4
  have HB1 := Lib.hid (HB0.out.trans (hb.mono HB0.out.size))
  have HK1 := Lib.hid (HK0.out.below hb HK0.out.lt)
  have HS1 := Lib.hid (HS0.out.step hb)
  clear HB0 HK0 HS0 hb
  have HC1 := Lib.hid (amounts17 (.agg #[.slice (some ⟨w.heap.size + 1, 0, none⟩) 2 2, .slice (some ⟨w.heap.size + 2, 0, none⟩) 2 2, .slice (some ⟨w.heap.size + 3, 0, none⟩) 1 1, .slice none 0 0, .slice none 0 0, .int .i64 5]) exS17 W1 ⟨_, _, _, _, _, _, _, _, _, _, _, _, _, _, _, _, rfl, HS1.out⟩ exs17_fine)
  have y1_0 := HK1.out.cell 0
  have y1_1 := HK1.out.cell 1
  have y1_2 := HK1.out.cell 2
  have y1_3 := HK1.out.cell 3
  have y1_4 := HK1.out.cell 4
  have y1_5 := HK1.out.cell 5
  go_wp2_with fail
  refine HC1.out.mono ?_
  rintro e wd ⟨ga, rfl, _, hia, hbd⟩
  have hr : Rd wd wd.heap.size (some ⟨ga, 0, none⟩) [3, 0] := hia.rd (xs := [3, 0]) (fun j hj => by
    match j, hj with
    | 0, _ => exact exs17_a0.symm
    | 1, _ => exact exs17_a1.symm)
  rw [show exS17.C.length = 2 from rfl]
  clear hia c0 c1
  clear y1_0 y1_1 y1_2 y1_3 y1_4 y1_5
  have hbe := hbd.trans ((b1' wd (.cells #[.int .i64 3, .int .i64 0] 3)).mono hbd.size)
  have HRA : Hid (Rd (wd.alloc (.cells #[.int .i64 3, .int .i64 0] 3)) (wd.alloc (.cells #[.int .i64 3, .int .i64 0] 3)).heap.size (some ⟨ga, 0, none⟩) [3, 0]) := Lib.hid ((hr.alloc (Nat.le_refl _) _).more (by simp))
  have HRB := Lib.hid (rd17_two wd)
  have HBE := Lib.hid hbe
  clear HC1 hr hbd hbe
  go_wp2_with fail
  refine (rints11_yes (some ⟨ga, 0, none⟩) (some ⟨wd.heap.size, 0, none⟩) [3, 0] 2 2 2 _ rfl HRA.out HRB.out (by omega)).mono ?_
  rintro e W2 ⟨rfl, hg⟩
  have hb := HBE.out.trans ((below17_of hg).mono HBE.out.size)
  clear hg HRA HRB HBE
  have HB2 := Lib.hid (HB1.out.trans (hb.mono HB1.out.size))
  have HK2 := Lib.hid (HK1.out.below hb HK1.out.lt)
  have HS2 := Lib.hid (HS1.out.step hb)
  clear HB1 HK1 HS1 hb
  have HC2 := Lib.hid (awakes17 (.agg #[.slice (some ⟨w.heap.size + 1, 0, none⟩) 2 2, .slice (some ⟨w.heap.size + 2, 0, none⟩) 2 2, .slice (some ⟨w.heap.size + 3, 0, none⟩) 1 1, .slice none 0 0, .slice none 0 0, .int .i64 5]) exS17 0 W2 ⟨_, _, _, _, _, _, _, _, _, _, _, _, _, _, _, _, rfl, HS2.out⟩ exs17_fine)
  rw [exs17_w0] at HC2
  have y2_0 := HK2.out.cell 0
  have y2_1 := HK2.out.cell 1
  have y2_2 := HK2.out.cell 2
  have y2_3 := HK2.out.cell 3
  have y2_4 := HK2.out.cell 4
  have y2_5 := HK2.out.cell 5
  go_wp2_with fail
  clear y2_0 y2_1 y2_2 y2_3 y2_4 y2_5
  refine HC2.out.mono ?_
  rintro e W3 ⟨rfl, hb⟩
  have HB3 := Lib.hid (HB2.out.trans (hb.mono HB2.out.size))
  have HK3 := Lib.hid (HK2.out.below hb HK2.out.lt)
  have HS3 := Lib.hid (HS2.out.step hb)
  clear HB2 HK2 HS2 hb
  clear HC2
  have HC3 := Lib.hid (awakes17 (.agg #[.slice (some ⟨w.heap.size + 1, 0, none⟩) 2 2, .slice (some ⟨w.heap.size + 2, 0, none⟩) 2 2, .slice (some ⟨w.heap.size + 3, 0, none⟩) 1 1, .slice none 0 0, .slice none 0 0, .int .i64 5]) exS17 1 W3 ⟨_, _, _, _, _, _, _, _, _, _, _, _, _, _, _, _, rfl, HS3.out⟩ exs17_fine)
  rw [exs17_w1] at HC3
  have y3_0 := HK3.out.cell 0
  have y3_1 := HK3.out.cell 1
  have y3_2 := HK3.out.cell 2
  have y3_3 := HK3.out.cell 3
  have y3_4 := HK3.out.cell 4
  have y3_5 := HK3.out.cell 5
  go_wp2_with fail
  clear y3_0 y3_1 y3_2 y3_3 y3_4 y3_5
  refine HC3.out.mono ?_
  rintro e W4 ⟨rfl, hb⟩
  have HB4 := Lib.hid (HB3.out.trans (hb.mono HB3.out.size))
  have HK4 := Lib.hid (HK3.out.below hb HK3.out.lt)
  have HS4 := Lib.hid (HS3.out.step hb)
  clear HB3 HK3 HS3 hb
  clear HC3
  have HC4 := Lib.hid (dead17 (.agg #[.slice (some ⟨w.heap.size + 1, 0, none⟩) 2 2, .slice (some ⟨w.heap.size + 2, 0, none⟩) 2 2, .slice (some ⟨w.heap.size + 3, 0, none⟩) 1 1, .slice none 0 0, .slice none 0 0, .int .i64 5]) exS17 W4 ⟨_, _, _, _, _, _, _, _, _, _, _, _, _, _, _, _, rfl, HS4.out⟩ exs17_fine)
  rw [exs17_d] at HC4
  have y4_0 := HK4.out.cell 0
  have y4_1 := HK4.out.cell 1
  have y4_2 := HK4.out.cell 2
  have y4_3 := HK4.out.cell 3
  have y4_4 := HK4.out.cell 4
  have y4_5 := HK4.out.cell 5
  go_wp2_with fail
  refine HC4.out.mono ?_
  rintro e wx ⟨Aa, ca, rfl, hr, hbd⟩
  clear y4_0 y4_1 y4_2 y4_3 y4_4 y4_5
  have hbe := hbd.trans ((b1' wx (.cells #[.int .i64 1] 3)).mono hbd.size)
  have HRA : Hid (Rd (wx.alloc (.cells #[.int .i64 1] 3)) (wx.alloc (.cells #[.int .i64 1] 3)).heap.size Aa [1]) := Lib.hid ((hr.alloc (Nat.le_refl _) _).more (by simp))
  have HRB := Lib.hid (rd17_one wx)
  have HBE := Lib.hid hbe
  clear HC4 hr hbd hbe
  go_wp2_with fail
  refine (rints11_yes Aa (some ⟨wx.heap.size, 0, none⟩) [1] 1 ca 1 _ rfl HRA.out HRB.out (by omega)).mono ?_
  rintro e W5 ⟨rfl, hg⟩
  have hb := HBE.out.trans ((below17_of hg).mono HBE.out.size)
  clear hg HRA HRB HBE
  have HB5 := Lib.hid (HB4.out.trans (hb.mono HB4.out.size))
  have HK5 := Lib.hid (HK4.out.below hb HK4.out.lt)
  have HS5 := Lib.hid (HS4.out.step hb)
  clear HB4 HK4 HS4 hb
  go_wp2_with fail
  go_ret
  exact ⟨rfl, HB5.out⟩
end Go.Proofs.Ytllcmjdfgbiijaa
namespace Go.Proofs.Ytllcmjdfgbiijaa
open Go.RowKit
set_option maxRecDepth 100000
/-- What the document's tickets asks. -/
def RTickets14 (S : Sv14) : Prop := Tidy14 usT S.T 96 ∧ Tickets14 S
set_option maxHeartbeats 4000000 in
theorem rtickets14 (v : Value) (S : Sv14) (b : Bool) (w : World) (h : St14 w v S) (hbt : b = true ↔ RTickets14 S) :
    Calls Try.prog 21 #[v] w fun e w' => e = .returned (.bool b) ∧ Below w.heap.size w w' := by
  obtain ⟨A0, A1, A2, A3, A4, n0, n1, n2, n3, n4, c0, c1, c2, c3, c4, sq, rfl, hs⟩ := h
  have HX0 := Lib.hid (Bx14.new hs)
  have HBT := Lib.hid hbt
  have hnT := hs.m1
  have hnH := hs.m2
  have hnL := hs.m3
  have HLT := Lib.hid hs.l1
  have HLH := Lib.hid hs.l2
  have HLL := Lib.hid hs.l3
  have t1 := HX0.out.x.cell 1
  clear hs hbt
  go_enter Try.func21, Try.ntmps21
  go_wp2_with fail
  clear t1
  go_loopw [3] (fun i wr => ∃ k : Nat, i = .int .i64 (k : Int) ∧ k ≤ n1 ∧ Hid (∀ j, j < k → (usT (gt14 S.T j) = true → Ticket14 S (gt14 S.T j)) ∧ (usT (gt14 S.T j) = false → gt14 S.T j = default)) ∧ Hid (Bx14 w S A0 A1 A2 A3 A4 n0 n1 n2 n3 n4 c0 c1 c2 c3 c4 sq wr)) (fun i _ => n1 - (intOf i).toNat)
  case atStart => exact ⟨0, rfl, by omega, Lib.hid (fun j h => by omega), HX0⟩
  case round =>
    obtain ⟨k, rfl, hk, HN, HW⟩ := hrel
    have t0_ := HW.out.x.cell 1
    by_cases hkn : k < n1
    · skip
      obtain ⟨a, of, hA, hab, hq⟩ := Lq.at_ len14T (by omega) HW.out.s.r1 (show k < S.T.length by rw [HW.out.s.l1]; omega)
      have HAE := Lib.hid hA
      obtain ⟨x, hx⟩ : ∃ x, gt14 S.T k = x := ⟨_, rfl⟩
      rw [hx] at hq
      obtain ⟨xu, xc, xa, xk, xt, xo⟩ := x
      have e0 : wr.cell? ⟨a, of + k * 6, none⟩ = some (.bool xu) := hq 0 _ rfl
      have e1 : wr.cell? ⟨a, of + k * 6 + 1, none⟩ = some (.int .i64 xc) := hq 1 _ rfl
      have e2 : wr.cell? ⟨a, of + k * 6 + 2, none⟩ = some (.int .i64 xa) := hq 2 _ rfl
      have e3 : wr.cell? ⟨a, of + k * 6 + 3, none⟩ = some (.int .i64 xk) := hq 3 _ rfl
      have e4 : wr.cell? ⟨a, of + k * 6 + 4, none⟩ = some (.int .i64 xt) := hq 4 _ rfl
      have e5 : wr.cell? ⟨a, of + k * 6 + 5, none⟩ = some (.bool xo) := hq 5 _ rfl
      have i0 : (0 : Int) ≤ (k : Int) := by omega
      have i1 : (k : Int) < (n1 : Int) := by omega
      have HV := Lib.hid (Bx14.step HW.out (b1' wr (.cells #[.bool xu, .int .i64 xc, .int .i64 xa, .int .i64 xk, .int .i64 xt, .bool xo] 35)))
      have hv := Blk.new wr 35 #[.bool xu, .int .i64 xc, .int .i64 xa, .int .i64 xk, .int .i64 xt, .bool xo]
      have v0 := hv.cell 0
      have v1 := hv.cell 1
      have v2 := hv.cell 2
      have v3 := hv.cell 3
      have v4 := hv.cell 4
      have v5 := hv.cell 5
      have HVB := Lib.hid hv
      have HXE := Lib.hid hx
      have p0 := HV.out.x.cell 0
      have p1 := HV.out.x.cell 1
      have p2 := HV.out.x.cell 2
      have p3 := HV.out.x.cell 3
      have p4 := HV.out.x.cell 4
      have p5 := HV.out.x.cell 5
      obtain ⟨X, hX⟩ : ∃ X, wr.alloc (.cells #[.bool xu, .int .i64 xc, .int .i64 xa, .int .i64 xk, .int .i64 xt, .bool xo] 35) = X := ⟨_, rfl⟩
      rw [hX] at HV HVB v0 v1 v2 v3 v4 v5 p0 p1 p2 p3 p4 p5
      clear hv hq hx hab
      subst hA
      have HN3 := Lib.hid (fun h : (usT ⟨xu, xc, xa, xk, xt, xo⟩ = true → Ticket14 S ⟨xu, xc, xa, xk, xt, xo⟩) ∧ (usT ⟨xu, xc, xa, xk, xt, xo⟩ = false → (⟨xu, xc, xa, xk, xt, xo⟩ : Tk14) = default) => (show Hid (∀ j, j < k + 1 → (usT (gt14 S.T j) = true → Ticket14 S (gt14 S.T j)) ∧ (usT (gt14 S.T j) = false → gt14 S.T j = default)) from Lib.hid (fun j hj => by
        rcases (show j < k ∨ j = k by omega) with h5 | h5
        · exact HN.out j h5
        · rw [h5, HXE.out]; exact h)))
      have HFF2 := Lib.hid (fun h2 : ¬ ((usT ⟨xu, xc, xa, xk, xt, xo⟩ = true → Ticket14 S ⟨xu, xc, xa, xk, xt, xo⟩) ∧ (usT ⟨xu, xc, xa, xk, xt, xo⟩ = false → (⟨xu, xc, xa, xk, xt, xo⟩ : Tk14) = default)) => (show Hid (b = false) from Lib.hid (bool14_of HBT.out (fun h => h2 (by
        have h3 := h.2 k (by rw [HLT.out]; exact hkn)
        have h4 := h.1.2.2 k (by rw [HLT.out]; exact hkn)
        rw [HXE.out] at h3 h4
        exact ⟨h3, h4⟩)))))
      cases xu with
      | false =>
        obtain ⟨bz, hbz⟩ : ∃ z, decide ((⟨false, xc, xa, xk, xt, xo⟩ : Tk14) = ⟨false, 0, 0, 0, 0, false⟩) = z := ⟨_, rfl⟩
        have hneq := neq14T false xc xa xk xt xo false 0 0 0 0 false
        simp only [hbz] at hneq
        cases bz with
        | true =>
          have hdef := of_decide_eq_true hbz
          have HN2 := HN3.out ⟨fun h => (by cases h), fun _ => hdef⟩
          clear hbz hdef
          go_wp2_with fail
          go_roundw
          case rel => exact ⟨k + 1, by go_num, by omega, HN2, HV⟩
          case measure => simp [intOf]; omega
        | false =>
          have hdef := of_decide_eq_false hbz
          have HF := HFF2.out (fun h => hdef (h.2 rfl))
          clear hbz hdef
          go_wp2_with fail
          go_ret
          exact ⟨by rw [HF.out]; rfl, HV.out.b⟩
      | true =>
        obtain ⟨bt, hbt2⟩ := ex_bool14 (Target14 S ⟨true, xc, xa, xk, xt, xo⟩)
        obtain ⟨bc, hbc⟩ : ∃ bc, us14 usC S.C xc = bc := ⟨_, rfl⟩
        have HBT2 := Lib.hid hbt2
        have HBC := Lib.hid hbc
        have HCC := Lib.hid (fun W (h : Below X.heap.size X W) => rCoin14 _ S xc bc W (HV.out.step h).st hbc)
        clear hbt2 hbc
        go_upto_region 8 with (fail)
        go_cut [5] (fun y wx => y = .bool bt ∧ Hid (Below X.heap.size X wx))
        case first =>
          clear HCC HN3 HFF2 HBC HN
          by_cases k0 : xk = 0
          · subst k0
            by_cases t0 : xt = 0
            · subst t0
              obtain rfl : bt = true := HBT2.out.2 (.inl ⟨rfl, rfl⟩)
              go_wp2_with fail
              go_meet
              exact ⟨rfl, Lib.hid (Below.refl _ _)⟩
            · have hf : (xt == 0) = false := by simpa using t0
              obtain rfl : bt = false := bool14_of HBT2.out (fun h => by
                rcases h with h | h | h
                · exact t0 h.2
                · exact absurd h.1 (by show ¬ (0 : Int) = 1; decide)
                · exact absurd h.1 (by show ¬ (0 : Int) = 2; decide))
              go_wp2_with fail
              go_meet
              exact ⟨rfl, Lib.hid (Below.refl _ _)⟩
          · by_cases k1 : xk = 1
            · subst k1
              obtain ⟨bh, hbh⟩ : ∃ bc, us14 usH S.H xt = bc := ⟨_, rfl⟩
              have HE : Hid (bt = bh) := Lib.hid (by rw [Bool.eq_iff_iff, HBT2.out, ← hbh]; simp [Target14])
              have HC := Lib.hid (rThread14 _ S xt bh _ HV.out.st hbh)
              clear hbh
              go_wp2_with fail
              refine HC.out.mono ?_
              rintro e u ⟨rfl, hb1⟩
              have HU := Lib.hid (HV.out.step hb1)
              have HY := Lib.hid (HVB.out.below hb1 HVB.out.lt)
              have y3 := HY.out.cell 3
              have y4 := HY.out.cell 4
              have HBX := Lib.hid hb1
              clear hb1 HC
              cases bh with
              | true =>
                go_wp2_with fail
                go_meet
                exact ⟨by first | rfl | (rw [HE.out]; done) | (rw [HE.out]; rfl) | (rw [HE.out]; simp [t0]), HBX⟩
              | false =>
                go_wp2_with fail
                go_meet
                exact ⟨by first | rfl | (rw [HE.out]; done) | (rw [HE.out]; rfl) | (rw [HE.out]; simp [t0]), HBX⟩
            · by_cases k2 : xk = 2
              · subst k2
                by_cases t0 : xt = 0
                · subst t0
                  obtain rfl : bt = false := bool14_of HBT2.out (fun h => by
                    rcases h with h | h | h
                    · exact absurd h.1 (by show ¬ (2 : Int) = 0; decide)
                    · exact absurd h.1 (by show ¬ (2 : Int) = 1; decide)
                    · exact h.2.1 rfl)
                  go_wp2_with fail
                  go_meet
                  exact ⟨rfl, Lib.hid (Below.refl _ _)⟩
                · obtain ⟨bh, hbh⟩ : ∃ bc, us14 usC S.C xt = bc := ⟨_, rfl⟩
                  have HE : Hid (bt = bh) := Lib.hid (by rw [Bool.eq_iff_iff, HBT2.out, ← hbh]; simp [Target14, t0])
                  have HC := Lib.hid (rCoin14 _ S xt bh _ HV.out.st hbh)
                  clear hbh
                  go_wp2_with fail
                  refine HC.out.mono ?_
                  rintro e u ⟨rfl, hb1⟩
                  have HU := Lib.hid (HV.out.step hb1)
                  have HY := Lib.hid (HVB.out.below hb1 HVB.out.lt)
                  have HBX := Lib.hid hb1
                  clear hb1 HC
                  go_wp2_with fail
                  go_meet
                  exact ⟨by first | rfl | (rw [HE.out]; done) | (rw [HE.out]; rfl) | (rw [HE.out]; simp [t0]), HBX⟩
              · obtain rfl : bt = false := bool14_of HBT2.out (fun h => by
                  rcases h with h | h | h
                  · exact k0 h.1
                  · exact k1 h.1
                  · exact k2 h.1)
                go_wp2_with fail
                go_meet
                exact ⟨rfl, Lib.hid (Below.refl _ _)⟩
        case rest =>
          obtain ⟨rfl, HBX⟩ := hcut
          have HU := Lib.hid (HV.out.step HBX.out)
          have HY := Lib.hid (HVB.out.below HBX.out HVB.out.lt)
          have y0 := HY.out.cell 0
          have y1 := HY.out.cell 1
          have y2 := HY.out.cell 2
          have y3 := HY.out.cell 3
          have y4 := HY.out.cell 4
          have y5 := HY.out.cell 5
          have z0 := HU.out.x.cell 0
          have z1 := HU.out.x.cell 1
          have z2 := HU.out.x.cell 2
          have z3 := HU.out.x.cell 3
          have z4 := HU.out.x.cell 4
          have z5 := HU.out.x.cell 5
          go_wp2_with fail
          refine (HCC.out _ HBX.out).mono ?_
          rintro e u ⟨rfl, hb1⟩
          have HU2 := Lib.hid (HU.out.step hb1)
          have HY2 := Lib.hid (HY.out.below hb1 HY.out.lt)
          have x2 := HY2.out.cell 2
          clear HCC hb1
          cases bc with
          | false =>
            have HF := HFF2.out (fun h => by have h1 := (h.1 rfl).1; rw [HBC.out] at h1; cases h1)
            go_wp2_with fail
            go_ret
            exact ⟨by rw [HF.out]; rfl, HU2.out.b⟩
          | true =>
            by_cases a1 : xa < 1
            · have HF := HFF2.out (fun h => by have h1 : 1 ≤ xa := (h.1 rfl).2.1; omega)
              go_wp2_with fail
              go_ret
              exact ⟨by rw [HF.out]; rfl, HU2.out.b⟩
            · by_cases a2 : xa > 1048576
              · have HF := HFF2.out (fun h => by have h1 : xa ≤ 1048576 := (h.1 rfl).2.2.1; omega)
                go_wp2_with fail
                go_ret
                exact ⟨by rw [HF.out]; rfl, HU2.out.b⟩
              · cases bt with
                | false =>
                  have HF := HFF2.out (fun h => by have h1 := HBT2.out.2 (h.1 rfl).2.2.2; cases h1)
                  go_wp2_with fail
                  go_ret
                  exact ⟨by rw [HF.out]; rfl, HU2.out.b⟩
                | true =>
                  have HN2 := HN3.out ⟨fun _ => ⟨HBC.out, by show 1 ≤ xa; omega, by show xa ≤ 1048576; omega, HBT2.out.1 rfl⟩, fun h => (by cases h)⟩
                  go_wp2_with fail
                  go_roundw
                  case rel => exact ⟨k + 1, by go_num, by omega, HN2, HU2⟩
                  case measure => simp [intOf]; omega
    · obtain rfl : k = n1 := by omega
      have HE : Hid (b = true ↔ k ≤ 96 ∧ (k = 0 ∨ usT (gt14 S.T (k - 1)) = true)) := Lib.hid (by
        rw [HBT.out]
        constructor
        · intro h
          have h1 := h.1.1
          have h2 := h.1.2.1
          rw [HLT.out] at h1 h2
          exact ⟨h1, en14_full.1 h2⟩
        · rintro ⟨h1, h2⟩
          exact ⟨⟨by rw [HLT.out]; exact h1, by rw [HLT.out]; exact en14_full.2 h2, fun j hj => (HN.out j (by rw [HLT.out] at hj; exact hj)).2⟩, fun j hj => (HN.out j (by rw [HLT.out] at hj; exact hj)).1⟩)
      have h1 : ¬ (k : Int) < (k : Int) := by omega
      by_cases hm : k ≤ 96
      · by_cases hz : k = 0
        · subst hz
          have HF : Hid (b = true) := Lib.hid (HE.out.2 ⟨by omega, .inl rfl⟩)
          go_wp2_with fail
          go_ret
          exact ⟨by rw [HF.out]; rfl, HW.out.b⟩
        · obtain ⟨q, hqk⟩ : ∃ q, k = q + 1 := ⟨k - 1, by omega⟩
          have HQK := Lib.hid hqk
          have hqn : q < k := by omega
          obtain ⟨a, of, hA, hab, hq⟩ := Lq.at_ len14T (by omega) HW.out.s.r1 (show q < S.T.length by rw [HW.out.s.l1]; omega)
          subst hA
          obtain ⟨x, hx⟩ : ∃ x, gt14 S.T q = x := ⟨_, rfl⟩
          have HF : Hid (b = usT x) := Lib.hid (by rw [Bool.eq_iff_iff, HE.out, ← hx, HQK.out, Nat.add_sub_cancel]; simp; omega)
          rw [hx] at hq
          obtain ⟨xu, xc, xa, xk, xt, xo⟩ := x
          have e0 : wr.cell? ⟨a, of + q * 6, none⟩ = some (.bool xu) := hq 0 _ rfl
          have hw : IntKind.i64.wrap ((k : Int) - 1) = (q : Int) := by rw [IntKind.wrap_i64]; omega
          have i0 : (0 : Int) ≤ (q : Int) := by omega
          have i1 : (q : Int) < (k : Int) := by omega
          have d1 : (k : Int) ≤ 96 := by omega
          have d2 : ((k : Int) == 0) = false := by simp; omega
          clear hq hx hab hz hm HE hqk hqn
          cases xu with
          | true =>
            go_wp2_with fail
            go_ret
            exact ⟨by rw [HF.out]; rfl, HW.out.b⟩
          | false =>
            go_wp2_with fail
            go_ret
            exact ⟨by rw [HF.out]; rfl, HW.out.b⟩
      · have HF : Hid (b = false) := Lib.hid (bool14_of HE.out (fun h => hm h.1))
        have c1 : decide ((k : Int) ≤ 96) = false := by simp; omega
        have c3 : ¬ (k : Int) ≤ 96 := by omega
        clear hm HE
        go_wp2_with fail
        go_ret
        exact ⟨by rw [HF.out]; rfl, HW.out.b⟩
end Go.Proofs.Ytllcmjdfgbiijaa
