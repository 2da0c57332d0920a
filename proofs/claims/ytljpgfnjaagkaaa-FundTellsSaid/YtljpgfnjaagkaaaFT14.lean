/-
  SaidFundTells, part 14 of 15: what the theorem fundTells_holds reaches.
-/
import Derived.Test.YtljpgfnjaagkaaaFT13
namespace Go.Proofs.Ytljpgfnjaagkaaa
open Go.RowKit
set_option maxRecDepth 100000
set_option maxHeartbeats 4000000 in
theorem rown15_no (v : Value) (S : Sv14) (c : Int) (w : World) (h : St14 w v S) (hT : Tickets14 S) (hc : us14 usC S.C c = false) :
    Calls Try.prog 21 #[v, .int .i64 c] w (RetW15 w S.C.length (ownb15 S c)) := by
  obtain ⟨A0, A1, A2, A3, A4, n0, n1, n2, n3, n4, c0, c1, c2, c3, c4, sq, rfl, hs⟩ := h
  have hx0 := Bx14.new hs
  have hxn := hx0.step (Below.refl _ _).drew
  obtain ⟨W1, hW1⟩ : ∃ W, w.alloc (.cells #[.slice A0 n0 c0, .slice A1 n1 c1, .slice A2 n2 c2, .slice A3 n3 c3, .slice A4 n4 c4, .int .i64 sq] 28) = W := ⟨_, rfl⟩
  rw [hW1] at hx0 hxn
  have HP : Hid (RetW15 w S.C.length (ownb15 S c) = fun e w' => ∃ g, e = .returned (.slice (some ⟨g, 0, none⟩) n0 n0) ∧ Rv w' w'.heap.size (some ⟨g, 0, none⟩) (bls (ownb15 S c) n0) ∧ Below w.heap.size w w') := Lib.hid (by rw [hs.l0]; rfl)
  have hm0 := hs.m0
  have hmk := make_bools13 n0 (by omega)
  have hz1 : W1.heap.size = w.heap.size + 1 := by rw [← hW1]; simp
  have hb2 := b1' W1 (.cells (madeCells #[.bool false] n0) 4)
  have hx2 := hx0.step hb2
  have hr2 := made_b13 W1 n0
  rw [hz1] at hr2
  obtain ⟨W2, hW2⟩ : ∃ W, W1.alloc (.cells (madeCells #[.bool false] n0) 4) = W := ⟨_, rfl⟩
  rw [hW2] at hb2 hx2 hr2
  have HCC := Lib.hid (rCoin14 _ S c false W2 hx2.st hc)
  have HX2 := Lib.hid hx2
  have HR2 := Lib.hid hr2
  have x0 := hx2.x.cell 0
  have x1 := hx2.x.cell 1
  have x2 := hx2.x.cell 2
  have x3 := hx2.x.cell 3
  have x4 := hx2.x.cell 4
  have x5 := hx2.x.cell 5
  have y0 := hx0.x.cell 0
  have HNO : Hid (∀ x, ownb15 S c x = false) := Lib.hid (fun x => by
    cases ho : ownb15 S c x with
    | false => rfl
    | true =>
      exfalso
      obtain ⟨h0, h1⟩ := ownb15_yes.1 ho
      have h2 : ∀ x, Own15 S c.toNat x → us14 usC S.C c = true := fun x h => by
        induction h with
        | one h => rwa [show ((c.toNat : Nat) : Int) = c by omega] at h
        | step _ h2 _ _ ih =>
          obtain ⟨j, hj⟩ := h2
          exact ih j hj
      rw [h2 x h1] at hc
      cases hc)
  clear hs hx0 hxn hb2 hx2 hr2 hc hT
  go_enter Try.func21, Try.ntmps21
  go_wp2_with fail
  refine HCC.out.mono ?_
  rintro e w3 ⟨rfl, hb3⟩
  have HX3 := Lib.hid (HX2.out.step hb3)
  have HR3 := Lib.hid (HR2.out.step hb3)
  clear HCC hb3
  go_wp2_with fail
  go_ret
  rw [HP.out]
  exact ⟨w.heap.size + 1, by first | rfl | (rw [hz1]; rfl), HR3.out.rv (fun x => (HNO.out x).symm), HX3.out.b⟩
set_option maxHeartbeats 16000000 in
theorem rown15_yes (v : Value) (S : Sv14) (c : Nat) (w : World) (h : St14 w v S) (hT : Tickets14 S) (hc : us14 usC S.C (c : Int) = true) :
    Calls Try.prog 21 #[v, .int .i64 (c : Int)] w (RetW15 w S.C.length (ownb15 S (c : Int))) := by
  obtain ⟨A0, A1, A2, A3, A4, n0, n1, n2, n3, n4, c0, c1, c2, c3, c4, sq, rfl, hs⟩ := h
  have hx0 := Bx14.new hs
  have hxn := hx0.step (Below.refl _ _).drew
  obtain ⟨W1, hW1⟩ : ∃ W, w.alloc (.cells #[.slice A0 n0 c0, .slice A1 n1 c1, .slice A2 n2 c2, .slice A3 n3 c3, .slice A4 n4 c4, .int .i64 sq] 28) = W := ⟨_, rfl⟩
  rw [hW1] at hx0 hxn
  have HP : Hid (RetW15 w S.C.length (ownb15 S (c : Int)) = fun e w' => ∃ g, e = .returned (.slice (some ⟨g, 0, none⟩) n0 n0) ∧ Rv w' w'.heap.size (some ⟨g, 0, none⟩) (bls (ownb15 S (c : Int)) n0) ∧ Below w.heap.size w w') := Lib.hid (by rw [hs.l0]; rfl)
  have hm0 := hs.m0
  have hmk := make_bools13 n0 (by omega)
  have hz1 : W1.heap.size = w.heap.size + 1 := by rw [← hW1]; simp
  have hb2 := b1' W1 (.cells (madeCells #[.bool false] n0) 4)
  have hx2 := hx0.step hb2
  have hr2 := made_b13 W1 n0
  rw [hz1] at hr2
  obtain ⟨W2, hW2⟩ : ∃ W, W1.alloc (.cells (madeCells #[.bool false] n0) 4) = W := ⟨_, rfl⟩
  rw [hW2] at hb2 hx2 hr2
  have HCC := Lib.hid (rCoin14 _ S (c : Int) true W2 hx2.st hc)
  have HX2 := Lib.hid hx2
  have HR2 := Lib.hid hr2
  have x0 := hx2.x.cell 0
  have x1 := hx2.x.cell 1
  have x2 := hx2.x.cell 2
  have x3 := hx2.x.cell 3
  have x4 := hx2.x.cell 4
  have x5 := hx2.x.cell 5
  have y0 := hx0.x.cell 0
  have hcl : c < n0 := by have h1 := us15_lt hc; have := hs.l0; omega
  have HS := Lib.hid hs
  have HT := Lib.hid hT
  have HL0 := Lib.hid hs.l0
  have HL1 := Lib.hid hs.l1
  have hm1 := hs.m1
  have HUC := Lib.hid hc
  clear hs hx0 hxn hb2 hx2 hr2 hc hT
  go_enter Try.func21, Try.ntmps21
  go_wp2_with fail
  refine HCC.out.mono ?_
  rintro e w3 ⟨rfl, hb3⟩
  have hx3 := HX2.out.step hb3
  have hr3 := HR2.out.step hb3
  have f0 := (hr3.cells hcl).2
  have g0 := (hr3.cells hcl).1
  have HW3 : Hid (Ow15 w S A0 A1 A2 A3 A4 n0 n1 n2 n3 n4 c0 c1 c2 c3 c4 sq none [] (upd (fun _ => false) c true) (w3.setCell ⟨w.heap.size + 1, c, none⟩ (.bool true))) := Lib.hid ((⟨hx3, hr3, fun h => absurd rfl h⟩ : Ow15 w S A0 A1 A2 A3 A4 n0 n1 n2 n3 n4 c0 c1 c2 c3 c4 sq none [] (fun _ => false) w3).put HS.out hcl true)
  have j0 : (0 : Int) ≤ (c : Int) := by omega
  have j1 : (c : Int) < (n0 : Int) := by omega
  have HO0 : Hid (∀ x, upd (fun _ => false) c true x = true → Own15 S c x) := Lib.hid (fun x hx => by
    by_cases hxc : x = c
    · subst hxc
      exact .one HUC.out
    · rw [upd_far _ _ hxc] at hx
      cases hx)
  clear HCC hb3 hx3 hr3 HX2 HR2 hW1 hW2 hmk x0 x1 x2 x3 x4 x5 y0
  have hun0 := un13_le (upd (fun _ => false) c true) n0
  go_wp2_with fail
  clear f0 g0
  go_loopg [6] (n0 + 2) (fun kx v wr => ∃ (K : Nat) (T : Nat → Bool) (ag : Bool), K = kx ∧ v = .bool ag ∧ un13 T n0 + bn13 ag ≤ K ∧ Hid (Ow15 w S A0 A1 A2 A3 A4 n0 n1 n2 n3 n4 c0 c1 c2 c3 c4 sq none [] T wr) ∧ Hid (∀ x, T x = true → Own15 S c x) ∧ Hid (T c = true) ∧ Hid (ag = false → Cl15 S n0 T n0))
  case atStart => exact ⟨n0 + 2, _, true, rfl, rfl, by simp only [bn13, if_true]; omega, HW3, HO0, Lib.hid (upd_at _ _ _), Lib.hid (fun h => by cases h)⟩
  case round =>
    clear HW3 HO0 hun0
    obtain ⟨K, T, ag, rfl, rfl, hme, HW, HO, HTC, HC⟩ := hrel
    cases ag with
    | false =>
      have HE := Lib.hid (own15_end HT.out HL0.out HO.out HTC.out (HC.out rfl))
      go_wp2_with fail
      go_ret
      rw [HP.out]
      exact ⟨w.heap.size + 1, rfl, HW.out.r.rv HE.out, HW.out.b.b⟩
    | true =>
      have hme2 : un13 T n0 + 1 ≤ K := hme
      clear hme HC
      go_wp2_with fail
      go_loopw [6, 7] (fun v iv wi => ∃ (k : Nat) (T : Nat → Bool) (ag : Bool), v = .bool ag ∧ iv = .int .i64 (k : Int) ∧ k ≤ n0 ∧ un13 T n0 + bn13 ag + 1 ≤ K ∧ Hid (Ow15 w S A0 A1 A2 A3 A4 n0 n1 n2 n3 n4 c0 c1 c2 c3 c4 sq none [] T wi) ∧ Hid (∀ x, T x = true → Own15 S c x) ∧ Hid (T c = true) ∧ Hid (ag = false → Cl15 S n0 T k)) (fun _ iv _ => n0 - (intOf iv).toNat)
      case atStart => exact ⟨0, T, false, rfl, rfl, by omega, by simp [bn13]; omega, HW, HO, HTC, Lib.hid (fun _ k hk => by omega)⟩
      case round =>
        clear HW HO HTC hme2
        obtain ⟨k, T, ag, rfl, rfl, hk, hme, HW, HO, HTC, HC⟩ := hrel
        have t0 := HW.out.b.x.cell 0
        by_cases hkn : k < n0
        · have HTK := Lib.hid (rtickets15_1 _ S (k : Int) wr HW.out.b.st)
          have i0 : (0 : Int) ≤ (k : Int) := by omega
          have i1 : (k : Int) < (n0 : Int) := by omega
          have y0 := HW.out.b.x.cell 0
          have y1 := HW.out.b.x.cell 1
          have y2 := HW.out.b.x.cell 2
          have y3 := HW.out.b.x.cell 3
          have y4 := HW.out.b.x.cell 4
          have y5 := HW.out.b.x.cell 5
          go_wp2_with fail
          refine HTK.out.mono ?_
          rintro e w5 ⟨Ab, cb, rfl, hr5, hb5⟩
          obtain ⟨bs, hbs⟩ : ∃ l, tks15 S (fnd15 2 (k : Int)) S.T.length = l := ⟨_, rfl⟩
          rw [hbs] at hr5 ⊢
          obtain ⟨m, hm⟩ : ∃ m, bs.length = m := ⟨_, rfl⟩
          rw [hm]
          have hml : m ≤ 1000 := by
            have h1 := tks15_len S (fnd15 2 (k : Int)) S.T.length
            rw [hbs, hm] at h1
            have := HL1.out
            omega
          have h5 := HW.out.step hb5
          have HW5 : Hid (Ow15 w S A0 A1 A2 A3 A4 n0 n1 n2 n3 n4 c0 c1 c2 c3 c4 sq Ab bs T w5) := Lib.hid ⟨h5.b, h5.r, hr5⟩
          have HBS := Lib.hid hbs
          have HM := Lib.hid hm
          clear HTK hr5 hb5 h5 hbs hm HW t0 y0 y1 y2 y3 y4 y5
          obtain ⟨bk, hbk⟩ : ∃ y, gt14 S.C k = y := ⟨_, rfl⟩
          obtain ⟨tk, htk⟩ : ∃ y, T k = y := ⟨_, rfl⟩
          have HAE : Hid (al15 S T (bk && (!tk && decide (0 < m))) bs m = true ↔ Nw15 S n0 T k) := Lib.hid (by rw [← hbk, ← htk]; exact al15_end HT.out HL0.out HBS.out.symm HM.out)
          obtain ⟨z, hz⟩ : ∃ z : Bool, (bk && (!tk && decide (0 < m))) = z := ⟨_, rfl⟩
          rw [hz] at HAE
          have HZ := Lib.hid hz
          have HTKE := Lib.hid htk
          obtain ⟨a0, of0, hA0, _, hq⟩ := Lq.at_ len14C (by omega) HW5.out.b.s.r0 (show k < S.C.length by have := HL0.out; omega)
          have hc0 := hq 0 _ rfl
          rw [Nat.mul_one] at hc0
          have hc1 : w5.cell? ⟨a0, of0 + k, none⟩ = some (.bool bk) := by rw [← hbk]; exact hc0
          have g0 := (HW5.out.r.cells hkn).1
          rw [htk] at g0
          have z0 := HW5.out.b.x.cell 0
          have HA0 := Lib.hid hA0
          clear hq hbk htk hz hc0 hA0
          go_upto_region 12 with (fail)
          go_cut [9] (fun y wx => y = .bool z ∧ Hid (w5 = wx))
          case first =>
            have hz := HZ.out
            obtain rfl := HA0.out
            clear HAE HW5 HC HO HTC hme HA0
            cases bk with
            | false =>
              obtain rfl : false = z := by simpa using hz
              go_wp2_with fail
              go_meet
              exact ⟨rfl, Lib.hid rfl⟩
            | true =>
              cases tk with
              | true =>
                obtain rfl : false = z := by simpa using hz
                go_wp2_with fail
                go_meet
                exact ⟨rfl, Lib.hid rfl⟩
              | false =>
                by_cases hmz : 0 < m
                · obtain rfl : true = z := by simpa [hmz] using hz
                  have hmi : (0 : Int) < (m : Int) := by omega
                  clear hz
                  go_wp2_with fail
                  go_meet
                  exact ⟨rfl, Lib.hid rfl⟩
                · obtain rfl : false = z := by simpa [hmz] using hz
                  have hmi : ¬ (0 : Int) < (m : Int) := by omega
                  have hmd : decide ((0 : Int) < (m : Int)) = false := decide_eq_false hmi
                  clear hz
                  go_wp2_with fail
                  go_meet
                  exact ⟨rfl, Lib.hid rfl⟩
          case rest =>
            obtain ⟨rfl, HXW⟩ := hcut
            obtain rfl := HXW.out
            clear HXW HZ hc1 g0 z0 HA0
            go_wp2_with fail
            go_loopw [9, 10] (fun v iv wj => ∃ (q : Nat) (al : Bool), v = .bool al ∧ iv = .int .i64 (q : Int) ∧ q ≤ m ∧ Hid (al15 S T z bs q = al) ∧ Hid (Ow15 w S A0 A1 A2 A3 A4 n0 n1 n2 n3 n4 c0 c1 c2 c3 c4 sq Ab bs T wj)) (fun _ iv _ => m - (intOf iv).toNat)
            case atStart => exact ⟨0, z, rfl, rfl, by omega, Lib.hid (by simp [al15]), HW5⟩
            case round =>
              clear HW5
              obtain ⟨q, al, rfl, rfl, hq, HAL, HWJ⟩ := hrel
              by_cases hqm : q < m
              · have hqb : q < bs.length := by have := HM.out; omega
                have i2 : (0 : Int) ≤ (q : Int) := by omega
                have i3 : (q : Int) < (m : Int) := by omega
                have HWD : Hid (Ow15 w S A0 A1 A2 A3 A4 n0 n1 n2 n3 n4 c0 c1 c2 c3 c4 sq Ab bs T wr.drew) := Lib.hid (HWJ.out.step (Below.refl _ _).drew)
                have hnx := al15_next (S := S) (T := T) (z := z) hqb
                rw [HAL.out] at hnx
                cases al with
                | false =>
                  have HN : Hid (al15 S T z bs (q + 1) = false) := Lib.hid (by rw [hnx]; rfl)
                  clear hnx
                  go_wp2_with fail
                  go_region
                  go_wp2_with fail
                  go_roundw
                  case rel => exact ⟨q + 1, false, rfl, by go_num, by omega, HN, HWD⟩
                  case measure => simp [intOf]; omega
                | true =>
                  obtain ⟨b, o, hA, hab, q0⟩ := HWJ.out.o.at_ hqb
                  obtain ⟨x, hx⟩ : ∃ x, nth bs q = x := ⟨_, rfl⟩
                  rw [hx] at q0 hnx
                  have hxm : x ∈ tks15 S (fnd15 2 (k : Int)) S.T.length := by rw [HBS.out, ← hx, nth_in hqb]; exact List.getElem_mem _
                  have hxm2 := tks15_mem.1 hxm
                  have hin := us15_lt (HT.out x hxm2.1 hxm2.2.1).1
                  rw [HL0.out] at hin
                  have hxl : x < n1 := by have := HL1.out; omega
                  obtain ⟨a, of, hA1, hab1, hq1⟩ := Lq.at_ len14T (by omega) HWJ.out.b.s.r1 hxm2.1
                  obtain ⟨xc, hxc⟩ : ∃ y, (gt14 S.T x).c = y := ⟨_, rfl⟩
                  have e1 : wr.cell? ⟨a, of + x * 6 + 1, none⟩ = some (.int .i64 xc) := by rw [← hxc]; exact hq1 1 _ rfl
                  rw [hxc] at hin hnx
                  obtain ⟨yc, rfl⟩ : ∃ yc : Nat, xc = (yc : Int) := ⟨xc.toNat, by omega⟩
                  rw [Int.toNat_natCast] at hnx
                  have hyn : yc < n0 := by omega
                  obtain ⟨ty, hty⟩ : ∃ y, T yc = y := ⟨_, rfl⟩
                  have g0 := (HWJ.out.r.cells hyn).1
                  rw [hty] at g0 hnx
                  have z1 := HWJ.out.b.x.cell 1
                  have l0 : (0 : Int) ≤ (x : Int) := by omega
                  have l1 : (x : Int) < (n1 : Int) := by omega
                  have l2 : (0 : Int) ≤ (yc : Int) := by omega
                  have l3 : (yc : Int) < (n0 : Int) := by omega
                  have HN : Hid (al15 S T z bs (q + 1) = ty) := Lib.hid (by rw [hnx, Bool.true_and])
                  clear hnx hx hxm hxm2 hin hq1 hxc hty hab hab1
                  subst hA
                  subst hA1
                  go_wp2_with fail
                  go_region
                  go_wp2_with fail
                  go_roundw
                  case rel => exact ⟨q + 1, ty, rfl, by go_num, by omega, HN, HWD⟩
                  case measure => simp [intOf]; omega
              · obtain rfl : q = m := by omega
                have i4 : ¬ (q : Int) < (q : Int) := by omega
                have HAE2 : Hid (al = true ↔ Nw15 S n0 T k) := Lib.hid (by rw [← HAL.out]; exact HAE.out)
                have HW6 : Hid (Ow15 w S A0 A1 A2 A3 A4 n0 n1 n2 n3 n4 c0 c1 c2 c3 c4 sq none [] T wr) := Lib.hid ⟨HWJ.out.b, HWJ.out.r, fun h => absurd rfl h⟩
                clear HAE HAL HWJ HBS HM
                cases al with
                | false =>
                  have HC2 : Hid (ag = false → Cl15 S n0 T (k + 1)) := Lib.hid (fun h => (HC.out h).next (fun h2 => by have := HAE2.out.2 h2; cases this))
                  go_wp2_with fail
                  go_roundw
                  case rel => exact ⟨k + 1, T, ag, rfl, by go_num, by omega, hme, HW6, HO, HTC, HC2⟩
                  case measure => simp [intOf]; omega
                | true =>
                  have hnw := HAE2.out.1 rfl
                  have hun := un13_mark hkn hnw.2.1
                  have hbn : bn13 ag ≤ 1 := by unfold bn13; split <;> omega
                  have HO2 := Lib.hid (own15_next HO.out hnw)
                  have HTC2 : Hid (upd T k true c = true) := Lib.hid (by
                    by_cases hck : c = k
                    · subst hck
                      exact upd_at _ _ _
                    · rw [upd_far _ _ hck]
                      exact HTC.out)
                  have f0 := (HW6.out.r.cells hkn).2
                  have g0 := (HW6.out.r.cells hkn).1
                  have HW7 := Lib.hid (HW6.out.put HS.out hkn true)
                  clear hnw HAE2
                  go_wp2_with fail
                  go_roundw
                  case rel => exact ⟨k + 1, _, true, rfl, by go_num, by omega, by simp only [bn13, if_true]; omega, HW7, HO2, HTC2, Lib.hid (fun h => by cases h)⟩
                  case measure => simp [intOf]; omega
        · obtain rfl : k = n0 := by omega
          have p1 : ¬ (k : Int) < (k : Int) := by omega
          go_wp2_with fail
          go_roundg (un13 T k + bn13 ag)
          case measure => omega
          case rel => exact ⟨_, T, ag, rfl, rfl, Nat.le_refl _, HW, HO, HTC, HC⟩
theorem rown15 (v : Value) (S : Sv14) (c : Int) (w : World) (h : St14 w v S) (hT : Tickets14 S) :
    Calls Try.prog 21 #[v, .int .i64 c] w (RetW15 w S.C.length (ownb15 S c)) := by
  cases hc : us14 usC S.C c with
  | false => exact rown15_no v S c w h hT hc
  | true =>
    obtain ⟨k, rfl⟩ : ∃ k : Nat, c = (k : Int) := ⟨c.toNat, by have := us15_lt hc; omega⟩
    exact rown15_yes v S k w h hT hc
end Go.Proofs.Ytljpgfnjaagkaaa
namespace Go.Proofs.Ytljpgfnjaagkaaa
open Go.RowKit
set_option maxRecDepth 100000
open Classical in
noncomputable def relb15 (S : Sv14) (c f : Int) : Bool := decide (Rel15 S c f)
theorem relb15_yes {S : Sv14} {c f : Int} : relb15 S c f = true ↔ Rel15 S c f := by
  unfold relb15
  exact @decide_eq_true_iff _ (Classical.propDecidable _)
/-- Are the first q tickets of coins that have nothing to do with c? -/
noncomputable def ex15 (S : Sv14) (c : Int) (z : Bool) (bs : List Nat) (q : Nat) : Bool := z && (bs.take q).all (fun j => !relb15 S c (gt14 S.T j).c)
theorem ex15_next {S : Sv14} {c : Int} {z : Bool} {bs : List Nat} {q : Nat} (hq : q < bs.length) : ex15 S c z bs (q + 1) = (ex15 S c z bs q && !relb15 S c (gt14 S.T (nth bs q)).c) := by
  rw [ex15, ex15, take15_next hq, List.all_append, Bool.and_assoc]
  simp
theorem ex15_end {S : Sv14} {c : Int} {i m : Nat} {bs : List Nat} (hb : bs = tks15 S (fnd15 1 (i : Int)) S.T.length) (hm : bs.length = m) : ex15 S c (usH (gt14 S.H i)) bs m = outb15 S c i := by
  subst hm
  rw [ex15, List.take_length, outb15]
  congr 1
  rw [Bool.eq_iff_iff, List.all_eq_true, Bool.not_eq_true', ← Bool.not_eq_true, insb15_yes]
  constructor
  · rintro h ⟨j, h1, h2, h3, h4, h5⟩
    have h6 := h j (by rw [hb, tks15_mem]; exact ⟨h1, h2, by simp [fnd15, h3, h4]⟩)
    rw [relb15_yes.2 h5] at h6
    cases h6
  · intro h j hj
    rw [hb, tks15_mem] at hj
    obtain ⟨h1, h2, h3⟩ := hj
    rw [fnd15, decide_eq_true_iff] at h3
    rw [Bool.not_eq_true', ← Bool.not_eq_true, relb15_yes]
    exact fun h5 => h ⟨j, h1, h2, h3.1, h3.2, h5⟩
theorem rel15_of {S : Sv14} {c f : Int} (hu : us14 usC S.C f = true) : Rel15 S c f ↔ f = c ∨ Fnd15 S c f := by
  unfold Rel15 Fnd15
  constructor
  · rintro ⟨h1, h | h⟩
    · exact .inl h
    · exact .inr ⟨h1, hu, h⟩
  · rintro (h | h)
    · exact ⟨by rw [← h]; exact hu, .inl h⟩
    · exact ⟨h.1, .inr h.2.2⟩
set_option maxHeartbeats 8000000 in
theorem routside15 (v : Value) (S : Sv14) (c : Int) (w : World) (h : St14 w v S) (hT : Tickets14 S) :
    Calls Try.prog 23 #[v, .int .i64 c] w (RetR15 w (all11 (outb15 S c) S.H.length)) := by
  obtain ⟨A0, A1, A2, A3, A4, n0, n1, n2, n3, n4, c0, c1, c2, c3, c4, sq, rfl, hs⟩ := h
  have HP : Hid (RetR15 w (all11 (outb15 S c) S.H.length) = fun e w' => ∃ A c2, e = .returned (.slice A (all11 (outb15 S c) n2).length c2) ∧ Rd w' w'.heap.size A (all11 (outb15 S c) n2) ∧ Below w.heap.size w w') := Lib.hid (by rw [hs.l2]; rfl)
  have HX0 : Hid (Ti15 w (w.heap.size + 1) S A0 A1 A2 A3 A4 n0 n1 n2 n3 n4 c0 c1 c2 c3 c4 sq none 0 0 (all11 (outb15 S c) 0) (w.alloc (.cells #[.slice A0 n0 c0, .slice A1 n1 c1, .slice A2 n2 c2, .slice A3 n3 c3, .slice A4 n4 c4, .int .i64 sq] 28))) := Lib.hid (Ti15.start hs (Bx14.new hs) (by omega) (by simp))
  have HL1 := Lib.hid hs.l1
  have HL2 := Lib.hid hs.l2
  have hm1 := hs.m1
  have hm2 := hs.m2
  have HT := Lib.hid hT
  clear hs hT
  go_enter Try.func23, Try.ntmps23
  go_wp2_with fail
  go_loopw [5, 6] (fun v iv wr => ∃ (i : Nat) (A : Option Addr) (m co : Nat), v = .slice A m co ∧ iv = .int .i64 (i : Int) ∧ i ≤ n2 ∧ Hid (Ti15 w (w.heap.size + 1) S A0 A1 A2 A3 A4 n0 n1 n2 n3 n4 c0 c1 c2 c3 c4 sq A m co (all11 (outb15 S c) i) wr)) (fun _ iv _ => n2 - (intOf iv).toNat)
  case atStart => exact ⟨0, none, 0, 0, rfl, rfl, by omega, HX0⟩
  case round =>
    clear HX0
    obtain ⟨i, A, m, co, rfl, rfl, hi, HW⟩ := hrel
    have t2 := HW.out.b.x.cell 2
    by_cases hin : i < n2
    · have HTK := Lib.hid (rtickets15_2 _ S (i : Int) wr HW.out.b.st)
      have hmi : m ≤ i := by rw [← HW.out.l]; exact all11_len _ _
      have i0 : (0 : Int) ≤ (i : Int) := by omega
      have i1 : (i : Int) < (n2 : Int) := by omega
      have y0 := HW.out.b.x.cell 0
      have y1 := HW.out.b.x.cell 1
      have y2 := HW.out.b.x.cell 2
      have y3 := HW.out.b.x.cell 3
      have y4 := HW.out.b.x.cell 4
      have y5 := HW.out.b.x.cell 5
      go_wp2_with fail
      refine HTK.out.mono ?_
      rintro e w5 ⟨Ab, cb, rfl, hr5, hb5⟩
      obtain ⟨bs, hbs⟩ : ∃ l, tks15 S (fnd15 1 (i : Int)) S.T.length = l := ⟨_, rfl⟩
      rw [hbs] at hr5 ⊢
      obtain ⟨mb, hmb⟩ : ∃ m, bs.length = m := ⟨_, rfl⟩
      rw [hmb]
      have hml : mb ≤ 1000 := by
        have h1 := tks15_len S (fnd15 1 (i : Int)) S.T.length
        rw [hbs, hmb] at h1
        have := HL1.out
        omega
      have HW5 := Lib.hid (HW.out.step hb5)
      have HR5 := Lib.hid hr5
      have HBS := Lib.hid hbs
      have HM := Lib.hid hmb
      clear HTK hr5 hb5 HW t2 y0 y1 y2 y3 y4 y5
      obtain ⟨x, hx⟩ : ∃ y, gt14 S.H i = y := ⟨_, rfl⟩
      obtain ⟨z, hz⟩ : ∃ z : Bool, usH x = z := ⟨_, rfl⟩
      have HAE : Hid (ex15 S c z bs mb = outb15 S c i) := Lib.hid (by rw [← hz, ← hx]; exact ex15_end hbs.symm hmb)
      obtain ⟨a2, of2, hA2, _, hq⟩ := Lq.at_ len14H (by omega) HW5.out.b.s.r2 (show i < S.H.length by have := HL2.out; omega)
      rw [hx] at hq
      obtain ⟨xz, xf, xc, xq, xu⟩ := x
      have e0 : w5.cell? ⟨a2, of2 + i * 5, none⟩ = some (.int .i64 xz) := hq 0 _ rfl
      have HZ : Hid ((!decide (xz = 0)) = z) := Lib.hid hz
      have t2 := HW5.out.b.x.cell 2
      have HA2 := Lib.hid hA2
      clear hq hx hz hA2 hbs hmb
      go_upto_region 6 with (fail)
      go_cut [8] (fun y wx => y = .bool z ∧ Hid (w5 = wx))
      case first =>
        have hz := HZ.out
        obtain rfl := HA2.out
        clear HAE HW5 HR5 HA2 HZ
        by_cases hz0 : xz = 0
        · subst hz0
          obtain rfl : false = z := by simpa using hz
          clear hz
          go_wp2_with fail
          go_meet
          exact ⟨rfl, Lib.hid rfl⟩
        · obtain rfl : true = z := by simpa [hz0] using hz
          have hz1 : (xz == 0) = false := by simp [hz0]
          clear hz
          go_wp2_with fail
          go_meet
          exact ⟨by first | rfl | simp [hz0], Lib.hid rfl⟩
      case rest =>
        obtain ⟨rfl, HXW⟩ := hcut
        obtain rfl := HXW.out
        clear HXW HZ e0 t2 HA2
        go_wp2_with fail
        go_loopw [8, 9] (fun v iv wj => ∃ (q : Nat) (al : Bool), v = .bool al ∧ iv = .int .i64 (q : Int) ∧ q ≤ mb ∧ Hid (ex15 S c z bs q = al) ∧ Hid (Ti15 w (w.heap.size + 1) S A0 A1 A2 A3 A4 n0 n1 n2 n3 n4 c0 c1 c2 c3 c4 sq A m co (all11 (outb15 S c) i) wj) ∧ Hid (Rd wj wj.heap.size Ab bs)) (fun _ iv _ => mb - (intOf iv).toNat)
        case atStart => exact ⟨0, z, rfl, rfl, by omega, Lib.hid (by simp [ex15]), HW5, HR5⟩
        case round =>
          clear HW5 HR5
          obtain ⟨q, al, rfl, rfl, hq, HAL, HWJ, HRJ⟩ := hrel
          by_cases hqm : q < mb
          · have hqb : q < bs.length := by have := HM.out; omega
            have i2 : (0 : Int) ≤ (q : Int) := by omega
            have i3 : (q : Int) < (mb : Int) := by omega
            have hnx := ex15_next (S := S) (c := c) (z := z) hqb
            rw [HAL.out] at hnx
            obtain ⟨b, o, hA, hab, q0⟩ := HRJ.out.at_ hqb
            obtain ⟨x, hx⟩ : ∃ x, nth bs q = x := ⟨_, rfl⟩
            rw [hx] at q0 hnx
            have hxm : x ∈ tks15 S (fnd15 1 (i : Int)) S.T.length := by rw [HBS.out, ← hx, nth_in hqb]; exact List.getElem_mem _
            have hxm2 := tks15_mem.1 hxm
            have hus := (HT.out x hxm2.1 hxm2.2.1).1
            have hxl : x < n1 := by have := HL1.out; omega
            obtain ⟨a, of, hA1, hab1, hq1⟩ := Lq.at_ len14T (by omega) HWJ.out.b.s.r1 hxm2.1
            obtain ⟨xc, hxc⟩ : ∃ y, (gt14 S.T x).c = y := ⟨_, rfl⟩
            have e1 : wr.cell? ⟨a, of + x * 6 + 1, none⟩ = some (.int .i64 xc) := by rw [← hxc]; exact hq1 1 _ rfl
            rw [hxc] at hus hnx
            have z1 := HWJ.out.b.x.cell 1
            have l0 : (0 : Int) ≤ (x : Int) := by omega
            have l1 : (x : Int) < (n1 : Int) := by omega
            have HNX := Lib.hid hnx
            have HUS := Lib.hid hus
            have HWD : Hid (Ti15 w (w.heap.size + 1) S A0 A1 A2 A3 A4 n0 n1 n2 n3 n4 c0 c1 c2 c3 c4 sq A m co (all11 (outb15 S c) i) wr.drew) := Lib.hid (HWJ.out.step (Below.refl _ _).drew)
            have HRD : Hid (Rd wr.drew wr.drew.heap.size Ab bs) := HRJ
            clear hnx hx hxm hxm2 hus hq1 hxc hab hab1
            cases al with
            | false =>
              have HN : Hid (ex15 S c z bs (q + 1) = false) := Lib.hid (by rw [HNX.out]; rfl)
              clear HNX HUS HWJ HRJ
              subst hA
              subst hA1
              go_wp2_with fail
              go_region
              go_wp2_with fail
              go_roundw
              case rel => exact ⟨q + 1, false, rfl, by go_num, by omega, HN, HWD, HRD⟩
              case measure => simp [intOf]; omega
            | true =>
              by_cases hxcc : xc = c
              · have HN : Hid (ex15 S c z bs (q + 1) = false) := Lib.hid (by rw [HNX.out, relb15_yes.2 ((rel15_of HUS.out).2 (.inl hxcc))]; rfl)
                clear HNX HUS HWJ HRJ
                subst hA
                subst hA1
                subst hxcc
                go_wp2_with fail
                go_region
                go_wp2_with fail
                go_roundw
                case rel => exact ⟨q + 1, false, rfl, by go_num, by omega, HN, HWD, HRD⟩
                case measure => simp [intOf]; omega
              · obtain ⟨fb, hfb⟩ := ex_bool14 (Fnd15 S c xc)
                have hxb : (xc == c) = false := by simp [hxcc]
                have HN : Hid (ex15 S c z bs (q + 1) = !fb) := Lib.hid (by
                  rw [HNX.out, Bool.true_and]
                  congr 1
                  rw [Bool.eq_iff_iff, relb15_yes, rel15_of HUS.out, hfb]
                  simp [hxcc])
                have HFU := Lib.hid (rfunds15 _ S c xc wr.drew HWD.out.b.st fb hfb)
                have y0 := HWD.out.b.x.cell 0
                have y1 := HWD.out.b.x.cell 1
                have y2 := HWD.out.b.x.cell 2
                have y3 := HWD.out.b.x.cell 3
                have y4 := HWD.out.b.x.cell 4
                have y5 := HWD.out.b.x.cell 5
                clear HNX HUS HWJ HRJ hfb
                subst hA
                subst hA1
                go_wp2_with fail
                go_region
                go_wp2_with fail
                refine HFU.out.mono ?_
                rintro e w6 ⟨rfl, hb6⟩
                have HW6 := Lib.hid (HWD.out.step hb6)
                have HR6 := Lib.hid ((HRD.out.below hb6 (Nat.le_refl _)).more hb6.size)
                clear HFU hb6 HWD HRD
                cases fb with
                | false =>
                  go_wp2_with fail
                  go_roundw
                  case rel => exact ⟨q + 1, true, by first | rfl | simp [hxcc], by go_num, by omega, HN, HW6, HR6⟩
                  case measure => simp [intOf]; omega
                | true =>
                  go_wp2_with fail
                  go_roundw
                  case rel => exact ⟨q + 1, false, rfl, by go_num, by omega, HN, HW6, HR6⟩
                  case measure => simp [intOf]; omega
          · obtain rfl : q = mb := by omega
            have i4 : ¬ (q : Int) < (q : Int) := by omega
            have HAL2 : Hid (outb15 S c i = al) := Lib.hid (by rw [← HAE.out]; exact HAL.out)
            have HNX := Lib.hid (all11_next (outb15 S c) i)
            clear HAE HAL HRJ HBS HM
            cases al with
            | false =>
              have HN := Lib.hid (HWJ.out.congr (ys := all11 (outb15 S c) (i + 1)) (by rw [HNX.out, HAL2.out]; simp))
              clear HWJ HNX
              go_wp2_with fail
              go_roundw
              case rel => exact ⟨i + 1, A, m, co, rfl, by go_num, by omega, HN⟩
              case measure => simp [intOf]; omega
            | true =>
              obtain ⟨Az, cz, W2, hrun, har, _⟩ := HWJ.out.push i (by omega)
              have HRUN := Lib.hid hrun
              have HAR := Lib.hid (har.congr (ys := all11 (outb15 S c) (i + 1)) (by rw [HNX.out, HAL2.out]; simp))
              clear HWJ HNX hrun har
              go_wp2_with (at_builtin; go_loud (refine wpList_append_14 _ rfl (.tmp 57) (.tmp 59) 26 rfl _ _ _ _ rfl rfl HRUN.out ?_))
              go_roundw
              case rel => exact ⟨i + 1, Az, m + 1, cz, rfl, by go_num, by omega, HAR⟩
              case measure => simp [intOf]; omega
    · obtain rfl : i = n2 := by omega
      have HL := Lib.hid HW.out.l
      have h1 : ¬ (i : Int) < (i : Int) := by omega
      go_wp2_with fail
      go_ret
      rw [HP.out]
      exact ⟨A, co, by rw [HL.out]; rfl, HW.out.rd, HW.out.b.b⟩
end Go.Proofs.Ytljpgfnjaagkaaa
namespace Go.Proofs.Ytljpgfnjaagkaaa
open Go.RowKit
set_option maxRecDepth 100000
theorem below15_of {w w' : World} (h : w.grownBy w' none) : Below w.heap.size w w' := (Below.refl _ _).grown h (Nat.le_refl _) (fun r hr => by cases hr)
theorem rd15_two (W : World) : Rd (W.alloc (.cells #[.int .i64 0, .int .i64 1] 3)) (W.alloc (.cells #[.int .i64 0, .int .i64 1] 3)).heap.size (some ⟨W.heap.size, 0, none⟩) [0, 1] := fun _ =>
  ⟨W.heap.size, 0, rfl, by simp, fun k hk => by
    have h := (Blk.new W 3 #[.int .i64 0, .int .i64 1]).cell
    match k, hk with
    | 0, _ => exact h 0
    | 1, _ => exact h 1⟩
theorem rd15_one (W : World) : Rd (W.alloc (.cells #[.int .i64 0] 3)) (W.alloc (.cells #[.int .i64 0] 3)).heap.size (some ⟨W.heap.size, 0, none⟩) [0] := fun _ =>
  ⟨W.heap.size, 0, rfl, by simp, fun k hk => by
    have h := (Blk.new W 3 #[.int .i64 0]).cell
    match k, hk with
    | 0, _ => exact h 0⟩
def exS15 : Sv14 := ⟨[true, true], [⟨true, 0, 1, 2, 1, false⟩], [], [], [], 5⟩
theorem exs15_ca : Ca15 exS15 = [(0, 1)] := by decide +kernel
theorem exs15_us0 : us14 usC exS15.C 0 = true := by decide +kernel
theorem exs15_us1 : us14 usC exS15.C 1 = true := by decide +kernel
theorem exs15_fre : Fre13 [(0, 1)] 2 [] 0 := ⟨by decide, by decide, fun f hf => by simp at hf⟩
theorem exs15_done : Done13 (Ca15 exS15) exS15.C.length [0, 1] := by
  rw [exs15_ca]
  show Done13 [(0, 1)] 2 [0, 1]
  refine ⟨.next (os := [0]) (.next (os := []) .nil exs15_fre (fun j hj => by omega)) ⟨by decide, by decide, fun f hf => ?_⟩ (fun j hj h => ?_), fun i h => ?_⟩
  · simp at hf
    simp [hf]
  · obtain rfl : j = 0 := by omega
    exact h.2.1 (by simp)
  · have h1 := h.1
    have h2 := h.2.1
    simp at h2
    omega
theorem exs15_way : Way [(0, 1)] 0 1 := .one (by simp)
theorem exs15_noway {a b : Nat} (h : Way [(0, 1)] a b) : b = 1 := by
  cases h with
  | one h => simp at h; exact h.2
  | step _ h => simp at h; exact h.2
theorem exs15_f01 : Fnd15 exS15 0 1 := ⟨exs15_us0, exs15_us1, by rw [exs15_ca]; exact exs15_way⟩
theorem exs15_f10 : ¬ Fnd15 exS15 1 0 := fun h => by
  have h1 := h.2.2
  rw [exs15_ca] at h1
  have := exs15_noway h1
  simp at this
theorem exs15_c10 : Clo15 exS15 1 0 := .inr exs15_f01
theorem exs15_c01 : ¬ Clo15 exS15 0 1 := fun h => by
  rcases h with h | h
  · exact absurd h.2 (by decide)
  · exact exs15_f10 h
theorem exs15_ord : ord15 exS15 [0, 1] = [0, 1] := by decide +kernel
theorem exs15_bck : bck15 exS15 1 = [0] := by decide +kernel
theorem exs15_tk : Tickets14 exS15 := fun j hj _ => by
  obtain rfl : j = 0 := by simpa [exS15] using hj
  exact ⟨exs15_us0, by decide, by decide, .inr (.inr ⟨rfl, by decide, exs15_us1⟩)⟩
theorem exs15_own : all11 (ownb15 exS15 0) exS15.C.length = [0, 1] := by
  have h0 : ownb15 exS15 0 0 = true := (ownb15_one (x := 0) exs15_us0).2 (.inl rfl)
  have h1 : ownb15 exS15 0 1 = true := (ownb15_one (x := 1) exs15_us1).2 (.inr ⟨by show bck15 exS15 1 ≠ []; rw [exs15_bck]; simp, fun j hj => by
    have hj' : j ∈ bck15 exS15 1 := hj
    rw [exs15_bck] at hj'
    obtain rfl : j = 0 := by simpa using hj'
    exact ⟨by decide, h0⟩⟩)
  show all11 (ownb15 exS15 0) 2 = [0, 1]
  simp [all11, List.range_succ, h0, h1]
set_option maxHeartbeats 8000000 in
theorem alive15_any (w : World) : Calls Try.prog 7 #[] w fun e w' => e = .returned (.bool true) ∧ Below w.heap.size w w' := by
  have hb1 := b1' w (.cells #[.bool true, .bool true] 4)
  have hk1 := Blk.new w 4 #[.bool true, .bool true]
  have hz1 : (w.alloc (.cells #[.bool true, .bool true] 4)).heap.size = w.heap.size + 1 := by simp
  obtain ⟨wa, hwa⟩ : ∃ W, w.alloc (.cells #[.bool true, .bool true] 4) = W := ⟨_, rfl⟩
  rw [hwa] at hb1 hk1 hz1
  have hb2 := b1' wa (.cells #[.bool true, .int .i64 0, .int .i64 1, .int .i64 2, .int .i64 1, .bool false] 40)
  have hk2 := Blk.new wa 40 #[.bool true, .int .i64 0, .int .i64 1, .int .i64 2, .int .i64 1, .bool false]
  have hz2 : (wa.alloc (.cells #[.bool true, .int .i64 0, .int .i64 1, .int .i64 2, .int .i64 1, .bool false] 40)).heap.size = w.heap.size + 2 := by simp [hz1]
  rw [hz1] at hk2
  obtain ⟨wb, hwb⟩ : ∃ W, wa.alloc (.cells #[.bool true, .int .i64 0, .int .i64 1, .int .i64 2, .int .i64 1, .bool false] 40) = W := ⟨_, rfl⟩
  rw [hwb] at hb2 hk2 hz2
  have hb3 := b1' wb (.cells #[.slice (some ⟨w.heap.size, 0, none⟩) 2 2, .slice (some ⟨w.heap.size + 1, 0, none⟩) 1 1, .slice none 0 0, .slice none 0 0, .slice none 0 0, .int .i64 5] 28)
  have hk3 := Blk.new wb 28 #[.slice (some ⟨w.heap.size, 0, none⟩) 2 2, .slice (some ⟨w.heap.size + 1, 0, none⟩) 1 1, .slice none 0 0, .slice none 0 0, .slice none 0 0, .int .i64 5]
  rw [hz2] at hk3
  obtain ⟨wc, hwc⟩ : ∃ W, wb.alloc (.cells #[.slice (some ⟨w.heap.size, 0, none⟩) 2 2, .slice (some ⟨w.heap.size + 1, 0, none⟩) 1 1, .slice none 0 0, .slice none 0 0, .slice none 0 0, .int .i64 5] 28) = W := ⟨_, rfl⟩
  rw [hwc] at hb3 hk3
  have HB0 : Hid (Below w.heap.size w wc) := Lib.hid ((hb1.trans (hb2.mono (by omega))).trans (hb3.mono (by omega)))
  have HK0 := Lib.hid hk3
  have HS0 : Hid (SA14 wc exS15 (some ⟨w.heap.size, 0, none⟩) (some ⟨w.heap.size + 1, 0, none⟩) none none none 2 1 0 0 0 2 1 0 0 0 5) := Lib.hid (by
    have hc1 := (hk1.below hb2 hk1.lt).below hb3 (by have := hk1.lt; omega)
    have hc2 := hk2.below hb3 hk2.lt
    refine ⟨rfl, rfl, rfl, rfl, rfl, ?_, ?_, Lq.nil _ _ _ _, Lq.nil _ _ _ _, Lq.nil _ _ _ _, by omega, by omega, by omega, by omega, by omega, by omega, by omega, by omega, by omega, by omega, rfl⟩
    · refine fun _ => ⟨w.heap.size, 0, rfl, hc1.lt, fun k v hk => ?_⟩
      rw [Nat.zero_add, hc1.cell]
      rw [show fl14 clC exS15.C = [.bool true, .bool true] from rfl] at hk
      simpa using hk
    · refine fun _ => ⟨w.heap.size + 1, 0, rfl, hc2.lt, fun k v hk => ?_⟩
      rw [Nat.zero_add, hc2.cell]
      rw [show fl14 clT exS15.T = [.bool true, .int .i64 0, .int .i64 1, .int .i64 2, .int .i64 1, .bool false] from rfl] at hk
      simpa using hk)
  have x0 := hk3.cell 0
  have x1 := hk3.cell 1
  have x2 := hk3.cell 2
  have x3 := hk3.cell 3
  have x4 := hk3.cell 4
  have x5 := hk3.cell 5
  clear hb1 hk1 hb2 hk2 hb3 hk3
  have HC0 := Lib.hid (funds15 (.agg #[.slice (some ⟨w.heap.size, 0, none⟩) 2 2, .slice (some ⟨w.heap.size + 1, 0, none⟩) 1 1, .slice none 0 0, .slice none 0 0, .slice none 0 0, .int .i64 5]) exS15 0 1 wc ⟨_, _, _, _, _, _, _, _, _, _, _, _, _, _, _, _, rfl, HS0.out⟩ true (by simp [exs15_f01]))
  go_enter Try.func7, Try.ntmps7
  go_wp2_with fail
  refine HC0.out.mono ?_
  rintro e W1 ⟨rfl, hb⟩
  have HB1 := Lib.hid (HB0.out.trans (hb.mono HB0.out.size))
  have HK1 := Lib.hid (HK0.out.below hb HK0.out.lt)
  have HS1 := Lib.hid (HS0.out.step hb)
  clear HB0 HK0 HS0 hb HC0
  have HC1 := Lib.hid (funds15 (.agg #[.slice (some ⟨w.heap.size, 0, none⟩) 2 2, .slice (some ⟨w.heap.size + 1, 0, none⟩) 1 1, .slice none 0 0, .slice none 0 0, .slice none 0 0, .int .i64 5]) exS15 1 0 W1 ⟨_, _, _, _, _, _, _, _, _, _, _, _, _, _, _, _, rfl, HS1.out⟩ false (by simp [exs15_f10]))
  have y0_0 := HK1.out.cell 0
  have y0_1 := HK1.out.cell 1
  have y0_2 := HK1.out.cell 2
  have y0_3 := HK1.out.cell 3
  have y0_4 := HK1.out.cell 4
  have y0_5 := HK1.out.cell 5
  go_wp2_with fail
  clear y0_0 y0_1 y0_2 y0_3 y0_4 y0_5
  refine HC1.out.mono ?_
  rintro e W2 ⟨rfl, hb⟩
  have HB2 := Lib.hid (HB1.out.trans (hb.mono HB1.out.size))
  have HK2 := Lib.hid (HK1.out.below hb HK1.out.lt)
  have HS2 := Lib.hid (HS1.out.step hb)
  clear HB1 HK1 HS1 hb HC1
  have HC2 := Lib.hid (closes15 (.agg #[.slice (some ⟨w.heap.size, 0, none⟩) 2 2, .slice (some ⟨w.heap.size + 1, 0, none⟩) 1 1, .slice none 0 0, .slice none 0 0, .slice none 0 0, .int .i64 5]) exS15 1 0 W2 ⟨_, _, _, _, _, _, _, _, _, _, _, _, _, _, _, _, rfl, HS2.out⟩ true (by simp [exs15_c10]))
  have y1_0 := HK2.out.cell 0
  have y1_1 := HK2.out.cell 1
  have y1_2 := HK2.out.cell 2
  have y1_3 := HK2.out.cell 3
  have y1_4 := HK2.out.cell 4
  have y1_5 := HK2.out.cell 5
  go_wp2_with fail
  clear y1_0 y1_1 y1_2 y1_3 y1_4 y1_5
  refine HC2.out.mono ?_
  rintro e W3 ⟨rfl, hb⟩
  have HB3 := Lib.hid (HB2.out.trans (hb.mono HB2.out.size))
  have HK3 := Lib.hid (HK2.out.below hb HK2.out.lt)
  have HS3 := Lib.hid (HS2.out.step hb)
  clear HB2 HK2 HS2 hb HC2
  have HC3 := Lib.hid (closes15 (.agg #[.slice (some ⟨w.heap.size, 0, none⟩) 2 2, .slice (some ⟨w.heap.size + 1, 0, none⟩) 1 1, .slice none 0 0, .slice none 0 0, .slice none 0 0, .int .i64 5]) exS15 0 1 W3 ⟨_, _, _, _, _, _, _, _, _, _, _, _, _, _, _, _, rfl, HS3.out⟩ false (by simp [exs15_c01]))
  have y2_0 := HK3.out.cell 0
  have y2_1 := HK3.out.cell 1
  have y2_2 := HK3.out.cell 2
  have y2_3 := HK3.out.cell 3
  have y2_4 := HK3.out.cell 4
  have y2_5 := HK3.out.cell 5
  go_wp2_with fail
  clear y2_0 y2_1 y2_2 y2_3 y2_4 y2_5
  refine HC3.out.mono ?_
  rintro e W4 ⟨rfl, hb⟩
  have HB4 := Lib.hid (HB3.out.trans (hb.mono HB3.out.size))
  have HK4 := Lib.hid (HK3.out.below hb HK3.out.lt)
  have HS4 := Lib.hid (HS3.out.step hb)
  clear HB3 HK3 HS3 hb HC3
  have HC4 := Lib.hid (order15 (.agg #[.slice (some ⟨w.heap.size, 0, none⟩) 2 2, .slice (some ⟨w.heap.size + 1, 0, none⟩) 1 1, .slice none 0 0, .slice none 0 0, .slice none 0 0, .int .i64 5]) exS15 [0, 1] W4 ⟨_, _, _, _, _, _, _, _, _, _, _, _, _, _, _, _, rfl, HS4.out⟩ exs15_done rfl)
  have y3_0 := HK4.out.cell 0
  have y3_1 := HK4.out.cell 1
  have y3_2 := HK4.out.cell 2
  have y3_3 := HK4.out.cell 3
  have y3_4 := HK4.out.cell 4
  have y3_5 := HK4.out.cell 5
  go_wp2_with fail
  clear y3_0 y3_1 y3_2 y3_3 y3_4 y3_5
  refine HC4.out.mono ?_
  rintro e wd ⟨Aa, ca, rfl, hr, hbd⟩
  rw [exs15_ord] at hr ⊢
  have hbe := hbd.trans ((b1' wd (.cells #[.int .i64 0, .int .i64 1] 3)).mono hbd.size)
  have HRA : Hid (Rd (wd.alloc (.cells #[.int .i64 0, .int .i64 1] 3)) (wd.alloc (.cells #[.int .i64 0, .int .i64 1] 3)).heap.size Aa [0, 1]) := Lib.hid ((hr.alloc (Nat.le_refl _) _).more (by simp))
  have HRB := Lib.hid (rd15_two wd)
  have HBE := Lib.hid hbe
  clear HC4 hr hbd hbe
  go_wp2_with fail
  refine (rints11_yes Aa (some ⟨wd.heap.size, 0, none⟩) [0, 1] 2 ca 2 _ rfl HRA.out HRB.out (by omega)).mono ?_
  rintro e W5 ⟨rfl, hg⟩
  have hb := HBE.out.trans ((below15_of hg).mono HBE.out.size)
  clear hg HRA HRB HBE
  have HB5 := Lib.hid (HB4.out.trans (hb.mono HB4.out.size))
  have HK5 := Lib.hid (HK4.out.below hb HK4.out.lt)
  have HS5 := Lib.hid (HS4.out.step hb)
  clear HB4 HK4 HS4 hb
  have HC5 := Lib.hid (backing15 (.agg #[.slice (some ⟨w.heap.size, 0, none⟩) 2 2, .slice (some ⟨w.heap.size + 1, 0, none⟩) 1 1, .slice none 0 0, .slice none 0 0, .slice none 0 0, .int .i64 5]) exS15 1 W5 ⟨_, _, _, _, _, _, _, _, _, _, _, _, _, _, _, _, rfl, HS5.out⟩)
  have y4_0 := HK5.out.cell 0
  have y4_1 := HK5.out.cell 1
  have y4_2 := HK5.out.cell 2
  have y4_3 := HK5.out.cell 3
  have y4_4 := HK5.out.cell 4
  have y4_5 := HK5.out.cell 5
  go_wp2_with fail
  clear y4_0 y4_1 y4_2 y4_3 y4_4 y4_5
  refine HC5.out.mono ?_
  rintro e wd ⟨Aa, ca, rfl, hr, hbd⟩
  rw [exs15_bck] at hr ⊢
  have hbe := hbd.trans ((b1' wd (.cells #[.int .i64 0] 3)).mono hbd.size)
  have HRA : Hid (Rd (wd.alloc (.cells #[.int .i64 0] 3)) (wd.alloc (.cells #[.int .i64 0] 3)).heap.size Aa [0]) := Lib.hid ((hr.alloc (Nat.le_refl _) _).more (by simp))
  have HRB := Lib.hid (rd15_one wd)
  have HBE := Lib.hid hbe
  clear HC5 hr hbd hbe
  go_wp2_with fail
  refine (rints11_yes Aa (some ⟨wd.heap.size, 0, none⟩) [0] 1 ca 1 _ rfl HRA.out HRB.out (by omega)).mono ?_
  rintro e W6 ⟨rfl, hg⟩
  have hb := HBE.out.trans ((below15_of hg).mono HBE.out.size)
  clear hg HRA HRB HBE
  have HB6 := Lib.hid (HB5.out.trans (hb.mono HB5.out.size))
  have HK6 := Lib.hid (HK5.out.below hb HK5.out.lt)
  have HS6 := Lib.hid (HS5.out.step hb)
  clear HB5 HK5 HS5 hb
  have HC6 := Lib.hid (own15 (.agg #[.slice (some ⟨w.heap.size, 0, none⟩) 2 2, .slice (some ⟨w.heap.size + 1, 0, none⟩) 1 1, .slice none 0 0, .slice none 0 0, .slice none 0 0, .int .i64 5]) exS15 0 [0, 1] W6 ⟨_, _, _, _, _, _, _, _, _, _, _, _, _, _, _, _, rfl, HS6.out⟩ exs15_tk exs15_done rfl)
  have y5_0 := HK6.out.cell 0
  have y5_1 := HK6.out.cell 1
  have y5_2 := HK6.out.cell 2
  have y5_3 := HK6.out.cell 3
  have y5_4 := HK6.out.cell 4
  have y5_5 := HK6.out.cell 5
  go_wp2_with fail
  clear y5_0 y5_1 y5_2 y5_3 y5_4 y5_5
  refine HC6.out.mono ?_
  rintro e wd ⟨Aa, ca, rfl, hr, hbd⟩
  rw [exs15_own] at hr ⊢
  have hbe := hbd.trans ((b1' wd (.cells #[.int .i64 0, .int .i64 1] 3)).mono hbd.size)
  have HRA : Hid (Rd (wd.alloc (.cells #[.int .i64 0, .int .i64 1] 3)) (wd.alloc (.cells #[.int .i64 0, .int .i64 1] 3)).heap.size Aa [0, 1]) := Lib.hid ((hr.alloc (Nat.le_refl _) _).more (by simp))
  have HRB := Lib.hid (rd15_two wd)
  have HBE := Lib.hid hbe
  clear HC6 hr hbd hbe
  go_wp2_with fail
  refine (rints11_yes Aa (some ⟨wd.heap.size, 0, none⟩) [0, 1] 2 ca 2 _ rfl HRA.out HRB.out (by omega)).mono ?_
  rintro e W7 ⟨rfl, hg⟩
  have hb := HBE.out.trans ((below15_of hg).mono HBE.out.size)
  clear hg HRA HRB HBE
  have HB7 := Lib.hid (HB6.out.trans (hb.mono HB6.out.size))
  have HK7 := Lib.hid (HK6.out.below hb HK6.out.lt)
  have HS7 := Lib.hid (HS6.out.step hb)
  clear HB6 HK6 HS6 hb
  go_wp2_with fail
  go_ret
  exact ⟨rfl, HB7.out⟩
end Go.Proofs.Ytljpgfnjaagkaaa
