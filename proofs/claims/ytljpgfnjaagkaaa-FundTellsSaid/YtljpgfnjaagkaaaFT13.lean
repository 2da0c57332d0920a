/-
  SaidFundTells, part 13 of 15: what the theorem fundTells_holds reaches.
-/
import Derived.Test.YtljpgfnjaagkaaaFT12
namespace Go.Proofs.Ytljpgfnjaagkaaa
open Go.RowKit
set_option maxRecDepth 100000
set_option maxHeartbeats 4000000 in
theorem rtickets15_0 (v : Value) (S : Sv14) (ii : Int) (w : World) (h : St14 w v S) :
    Calls Try.prog 16 #[v, .int .i64 0, .int .i64 ii] w (RetR15 w (tks15 S (isw15 ii) S.T.length)) := by
  obtain ⟨A0, A1, A2, A3, A4, n0, n1, n2, n3, n4, c0, c1, c2, c3, c4, sq, rfl, hs⟩ := h
  have HP : Hid (RetR15 w (tks15 S (isw15 ii) S.T.length) = fun e w' => ∃ A c, e = .returned (.slice A (tks15 S (isw15 ii) n1).length c) ∧ Rd w' w'.heap.size A (tks15 S (isw15 ii) n1) ∧ Below w.heap.size w w') := Lib.hid (by rw [hs.l1]; rfl)
  have HX0 : Hid (Ti15 w (w.heap.size + 1) S A0 A1 A2 A3 A4 n0 n1 n2 n3 n4 c0 c1 c2 c3 c4 sq none 0 0 (tks15 S (isw15 ii) 0) (w.alloc (.cells #[.slice A0 n0 c0, .slice A1 n1 c1, .slice A2 n2 c2, .slice A3 n3 c3, .slice A4 n4 c4, .int .i64 sq] 28))) := Lib.hid (Ti15.start hs (Bx14.new hs) (by omega) (by simp))
  have HL1 := Lib.hid hs.l1
  have hnb := hs.m1
  clear hs
  go_enter Try.func16, Try.ntmps16
  go_wp2_with fail
  go_loopw [7, 8] (fun v i wr => ∃ (k : Nat) (A : Option Addr) (m c : Nat), v = .slice A m c ∧ i = .int .i64 (k : Int) ∧ k ≤ n1 ∧ Hid (Ti15 w (w.heap.size + 1) S A0 A1 A2 A3 A4 n0 n1 n2 n3 n4 c0 c1 c2 c3 c4 sq A m c (tks15 S (isw15 ii) k) wr)) (fun _ i _ => n1 - (intOf i).toNat)
  case atStart => exact ⟨0, none, 0, 0, rfl, rfl, by omega, HX0⟩
  case round =>
    clear HX0
    obtain ⟨k, A, m, c, rfl, rfl, hk, HW⟩ := hrel
    have t1 := HW.out.b.x.cell 1
    by_cases hkn : k < n1
    · obtain ⟨a, of, hA, hab, hq⟩ := Lq.at_ len14T (by omega) HW.out.b.s.r1 (show k < S.T.length by have := HL1.out; omega)
      obtain ⟨x, hx⟩ : ∃ x, gt14 S.T k = x := ⟨_, rfl⟩
      rw [hx] at hq
      obtain ⟨xu, xc, xa, xk, xt, xo⟩ := x
      have e0 : wr.cell? ⟨a, of + k * 6, none⟩ = some (.bool xu) := hq 0 _ rfl
      have e1 : wr.cell? ⟨a, of + k * 6 + 1, none⟩ = some (.int .i64 xc) := hq 1 _ rfl
      have e2 : wr.cell? ⟨a, of + k * 6 + 2, none⟩ = some (.int .i64 xa) := hq 2 _ rfl
      have e3 : wr.cell? ⟨a, of + k * 6 + 3, none⟩ = some (.int .i64 xk) := hq 3 _ rfl
      have e4 : wr.cell? ⟨a, of + k * 6 + 4, none⟩ = some (.int .i64 xt) := hq 4 _ rfl
      have e5 : wr.cell? ⟨a, of + k * 6 + 5, none⟩ = some (.bool xo) := hq 5 _ rfl
      have i0 : (0 : Int) ≤ (k : Int) := by omega
      have i1 : (k : Int) < (n1 : Int) := by omega
      have HV := Lib.hid (Ti15.step HW.out (b1' wr (.cells #[.bool xu, .int .i64 xc, .int .i64 xa, .int .i64 xk, .int .i64 xt, .bool xo] 40)))
      have hv := Blk.new wr 40 #[.bool xu, .int .i64 xc, .int .i64 xa, .int .i64 xk, .int .i64 xt, .bool xo]
      have v0 := hv.cell 0
      have v1 := hv.cell 1
      have v2 := hv.cell 2
      have v3 := hv.cell 3
      have v4 := hv.cell 4
      have v5 := hv.cell 5
      have HNX : Hid (tks15 S (isw15 ii) (k + 1) = tks15 S (isw15 ii) k ++ if (xu && (isw15 ii) ⟨xu, xc, xa, xk, xt, xo⟩) then [k] else []) := Lib.hid (by
        have h := all11_next (fun j => (gt14 S.T j).u && (isw15 ii) (gt14 S.T j)) k
        rw [hx] at h
        exact h)
      obtain ⟨X, hX⟩ : ∃ X, wr.alloc (.cells #[.bool xu, .int .i64 xc, .int .i64 xa, .int .i64 xk, .int .i64 xt, .bool xo] 40) = X := ⟨_, rfl⟩
      rw [hX] at HV v0 v1 v2 v3 v4 v5
      have hmk : m ≤ k := by rw [← HW.out.l]; exact tks15_len S (isw15 ii) k
      clear hv hq hx hab
      subst hA
      by_cases hm : xc = ii
      · have hp : (xc == ii) = true := by simp [hm]
        have HPE : Hid ((isw15 ii) ⟨xu, xc, xa, xk, xt, xo⟩ = true) := Lib.hid (by simp [isw15, hm])
        clear hm
        cases xu with
        | false =>
          have HN := Lib.hid (HV.out.congr (ys := tks15 S (isw15 ii) (k + 1)) (by rw [HNX.out, HPE.out]; simp))
          clear HV HNX HPE
          go_wp2_with fail
          go_roundw
          case rel => exact ⟨k + 1, A, m, c, rfl, by go_num, by omega, HN⟩
          case measure => simp [intOf]; omega
        | true =>
          obtain ⟨Az, cz, W2, hrun, har, _⟩ := HV.out.push k (by omega)
          have HRUN := Lib.hid hrun
          have HAR := Lib.hid (har.congr (ys := tks15 S (isw15 ii) (k + 1)) (by rw [HNX.out, HPE.out]; simp))
          clear HV HNX HPE hrun har
          go_wp2_with (at_builtin; go_loud (refine wpList_append_14 _ rfl (.tmp 66) (.tmp 68) 26 rfl _ _ _ _ rfl rfl HRUN.out ?_))
          go_roundw
          case rel => exact ⟨k + 1, Az, m + 1, cz, rfl, by go_num, by omega, HAR⟩
          case measure => simp [intOf]; omega
      · have hp : (xc == ii) = false := by simp [hm]
        have HPE : Hid ((isw15 ii) ⟨xu, xc, xa, xk, xt, xo⟩ = false) := Lib.hid (by simp [isw15, hm])
        clear hm
        have HN := Lib.hid (HV.out.congr (ys := tks15 S (isw15 ii) (k + 1)) (by rw [HNX.out, HPE.out]; simp))
        clear HV HNX HPE
        cases xu with
        | false =>
          go_wp2_with fail
          go_roundw
          case rel => exact ⟨k + 1, A, m, c, rfl, by go_num, by omega, HN⟩
          case measure => simp [intOf]; omega
        | true =>
          go_wp2_with fail
          go_roundw
          case rel => exact ⟨k + 1, A, m, c, rfl, by go_num, by omega, HN⟩
          case measure => simp [intOf]; omega
    · obtain rfl : k = n1 := by omega
      have HL := Lib.hid HW.out.l
      have h1 : ¬ (k : Int) < (k : Int) := by omega
      go_wp2_with fail
      go_ret
      rw [HP.out]
      exact ⟨A, c, by rw [HL.out]; rfl, HW.out.rd, HW.out.b.b⟩
set_option maxHeartbeats 4000000 in
theorem rtickets15_1 (v : Value) (S : Sv14) (ii : Int) (w : World) (h : St14 w v S) :
    Calls Try.prog 16 #[v, .int .i64 1, .int .i64 ii] w (RetR15 w (tks15 S (fnd15 2 ii) S.T.length)) := by
  obtain ⟨A0, A1, A2, A3, A4, n0, n1, n2, n3, n4, c0, c1, c2, c3, c4, sq, rfl, hs⟩ := h
  have HP : Hid (RetR15 w (tks15 S (fnd15 2 ii) S.T.length) = fun e w' => ∃ A c, e = .returned (.slice A (tks15 S (fnd15 2 ii) n1).length c) ∧ Rd w' w'.heap.size A (tks15 S (fnd15 2 ii) n1) ∧ Below w.heap.size w w') := Lib.hid (by rw [hs.l1]; rfl)
  have HX0 : Hid (Ti15 w (w.heap.size + 1) S A0 A1 A2 A3 A4 n0 n1 n2 n3 n4 c0 c1 c2 c3 c4 sq none 0 0 (tks15 S (fnd15 2 ii) 0) (w.alloc (.cells #[.slice A0 n0 c0, .slice A1 n1 c1, .slice A2 n2 c2, .slice A3 n3 c3, .slice A4 n4 c4, .int .i64 sq] 28))) := Lib.hid (Ti15.start hs (Bx14.new hs) (by omega) (by simp))
  have HL1 := Lib.hid hs.l1
  have hnb := hs.m1
  clear hs
  go_enter Try.func16, Try.ntmps16
  go_wp2_with fail
  go_loopw [7, 8] (fun v i wr => ∃ (k : Nat) (A : Option Addr) (m c : Nat), v = .slice A m c ∧ i = .int .i64 (k : Int) ∧ k ≤ n1 ∧ Hid (Ti15 w (w.heap.size + 1) S A0 A1 A2 A3 A4 n0 n1 n2 n3 n4 c0 c1 c2 c3 c4 sq A m c (tks15 S (fnd15 2 ii) k) wr)) (fun _ i _ => n1 - (intOf i).toNat)
  case atStart => exact ⟨0, none, 0, 0, rfl, rfl, by omega, HX0⟩
  case round =>
    clear HX0
    obtain ⟨k, A, m, c, rfl, rfl, hk, HW⟩ := hrel
    have t1 := HW.out.b.x.cell 1
    by_cases hkn : k < n1
    · obtain ⟨a, of, hA, hab, hq⟩ := Lq.at_ len14T (by omega) HW.out.b.s.r1 (show k < S.T.length by have := HL1.out; omega)
      obtain ⟨x, hx⟩ : ∃ x, gt14 S.T k = x := ⟨_, rfl⟩
      rw [hx] at hq
      obtain ⟨xu, xc, xa, xk, xt, xo⟩ := x
      have e0 : wr.cell? ⟨a, of + k * 6, none⟩ = some (.bool xu) := hq 0 _ rfl
      have e1 : wr.cell? ⟨a, of + k * 6 + 1, none⟩ = some (.int .i64 xc) := hq 1 _ rfl
      have e2 : wr.cell? ⟨a, of + k * 6 + 2, none⟩ = some (.int .i64 xa) := hq 2 _ rfl
      have e3 : wr.cell? ⟨a, of + k * 6 + 3, none⟩ = some (.int .i64 xk) := hq 3 _ rfl
      have e4 : wr.cell? ⟨a, of + k * 6 + 4, none⟩ = some (.int .i64 xt) := hq 4 _ rfl
      have e5 : wr.cell? ⟨a, of + k * 6 + 5, none⟩ = some (.bool xo) := hq 5 _ rfl
      have i0 : (0 : Int) ≤ (k : Int) := by omega
      have i1 : (k : Int) < (n1 : Int) := by omega
      have HV := Lib.hid (Ti15.step HW.out (b1' wr (.cells #[.bool xu, .int .i64 xc, .int .i64 xa, .int .i64 xk, .int .i64 xt, .bool xo] 40)))
      have hv := Blk.new wr 40 #[.bool xu, .int .i64 xc, .int .i64 xa, .int .i64 xk, .int .i64 xt, .bool xo]
      have v0 := hv.cell 0
      have v1 := hv.cell 1
      have v2 := hv.cell 2
      have v3 := hv.cell 3
      have v4 := hv.cell 4
      have v5 := hv.cell 5
      have HNX : Hid (tks15 S (fnd15 2 ii) (k + 1) = tks15 S (fnd15 2 ii) k ++ if (xu && (fnd15 2 ii) ⟨xu, xc, xa, xk, xt, xo⟩) then [k] else []) := Lib.hid (by
        have h := all11_next (fun j => (gt14 S.T j).u && (fnd15 2 ii) (gt14 S.T j)) k
        rw [hx] at h
        exact h)
      obtain ⟨X, hX⟩ : ∃ X, wr.alloc (.cells #[.bool xu, .int .i64 xc, .int .i64 xa, .int .i64 xk, .int .i64 xt, .bool xo] 40) = X := ⟨_, rfl⟩
      rw [hX] at HV v0 v1 v2 v3 v4 v5
      have hmk : m ≤ k := by rw [← HW.out.l]; exact tks15_len S (fnd15 2 ii) k
      clear hv hq hx hab
      subst hA
      by_cases hk2 : xk = 2
      · subst hk2
        by_cases hm : xt = ii
        · have hp : (xt == ii) = true := by simp [hm]
          have HPE : Hid ((fnd15 2 ii) ⟨xu, xc, xa, 2, xt, xo⟩ = true) := Lib.hid (by simp [fnd15, hm])
          clear hm
          cases xu with
          | false =>
            have HN := Lib.hid (HV.out.congr (ys := tks15 S (fnd15 2 ii) (k + 1)) (by rw [HNX.out, HPE.out]; simp))
            clear HV HNX HPE
            go_wp2_with fail
            go_roundw
            case rel => exact ⟨k + 1, A, m, c, rfl, by go_num, by omega, HN⟩
            case measure => simp [intOf]; omega
          | true =>
            obtain ⟨Az, cz, W2, hrun, har, _⟩ := HV.out.push k (by omega)
            have HRUN := Lib.hid hrun
            have HAR := Lib.hid (har.congr (ys := tks15 S (fnd15 2 ii) (k + 1)) (by rw [HNX.out, HPE.out]; simp))
            clear HV HNX HPE hrun har
            go_wp2_with (at_builtin; go_loud (refine wpList_append_14 _ rfl (.tmp 66) (.tmp 68) 26 rfl _ _ _ _ rfl rfl HRUN.out ?_))
            go_roundw
            case rel => exact ⟨k + 1, Az, m + 1, cz, rfl, by go_num, by omega, HAR⟩
            case measure => simp [intOf]; omega
        · have hp : (xt == ii) = false := by simp [hm]
          have HPE : Hid ((fnd15 2 ii) ⟨xu, xc, xa, 2, xt, xo⟩ = false) := Lib.hid (by simp [fnd15, hm])
          clear hm
          have HN := Lib.hid (HV.out.congr (ys := tks15 S (fnd15 2 ii) (k + 1)) (by rw [HNX.out, HPE.out]; simp))
          clear HV HNX HPE
          cases xu with
          | false =>
            go_wp2_with fail
            go_roundw
            case rel => exact ⟨k + 1, A, m, c, rfl, by go_num, by omega, HN⟩
            case measure => simp [intOf]; omega
          | true =>
            go_wp2_with fail
            go_roundw
            case rel => exact ⟨k + 1, A, m, c, rfl, by go_num, by omega, HN⟩
            case measure => simp [intOf]; omega
      · have hp : (xk == 2) = false := by simp [hk2]
        have HPE : Hid ((fnd15 2 ii) ⟨xu, xc, xa, xk, xt, xo⟩ = false) := Lib.hid (by simp [fnd15, hk2])
        have HN := Lib.hid (HV.out.congr (ys := tks15 S (fnd15 2 ii) (k + 1)) (by rw [HNX.out, HPE.out]; simp))
        clear HV HNX HPE
        cases xu with
        | false =>
          go_wp2_with fail
          go_roundw
          case rel => exact ⟨k + 1, A, m, c, rfl, by go_num, by omega, HN⟩
          case measure => simp [intOf]; omega
        | true =>
          go_wp2_with fail
          go_roundw
          case rel => exact ⟨k + 1, A, m, c, rfl, by go_num, by omega, HN⟩
          case measure => simp [intOf]; omega
    · obtain rfl : k = n1 := by omega
      have HL := Lib.hid HW.out.l
      have h1 : ¬ (k : Int) < (k : Int) := by omega
      go_wp2_with fail
      go_ret
      rw [HP.out]
      exact ⟨A, c, by rw [HL.out]; rfl, HW.out.rd, HW.out.b.b⟩
set_option maxHeartbeats 4000000 in
theorem rtickets15_2 (v : Value) (S : Sv14) (ii : Int) (w : World) (h : St14 w v S) :
    Calls Try.prog 16 #[v, .int .i64 2, .int .i64 ii] w (RetR15 w (tks15 S (fnd15 1 ii) S.T.length)) := by
  obtain ⟨A0, A1, A2, A3, A4, n0, n1, n2, n3, n4, c0, c1, c2, c3, c4, sq, rfl, hs⟩ := h
  have HP : Hid (RetR15 w (tks15 S (fnd15 1 ii) S.T.length) = fun e w' => ∃ A c, e = .returned (.slice A (tks15 S (fnd15 1 ii) n1).length c) ∧ Rd w' w'.heap.size A (tks15 S (fnd15 1 ii) n1) ∧ Below w.heap.size w w') := Lib.hid (by rw [hs.l1]; rfl)
  have HX0 : Hid (Ti15 w (w.heap.size + 1) S A0 A1 A2 A3 A4 n0 n1 n2 n3 n4 c0 c1 c2 c3 c4 sq none 0 0 (tks15 S (fnd15 1 ii) 0) (w.alloc (.cells #[.slice A0 n0 c0, .slice A1 n1 c1, .slice A2 n2 c2, .slice A3 n3 c3, .slice A4 n4 c4, .int .i64 sq] 28))) := Lib.hid (Ti15.start hs (Bx14.new hs) (by omega) (by simp))
  have HL1 := Lib.hid hs.l1
  have hnb := hs.m1
  clear hs
  go_enter Try.func16, Try.ntmps16
  go_wp2_with fail
  go_loopw [7, 8] (fun v i wr => ∃ (k : Nat) (A : Option Addr) (m c : Nat), v = .slice A m c ∧ i = .int .i64 (k : Int) ∧ k ≤ n1 ∧ Hid (Ti15 w (w.heap.size + 1) S A0 A1 A2 A3 A4 n0 n1 n2 n3 n4 c0 c1 c2 c3 c4 sq A m c (tks15 S (fnd15 1 ii) k) wr)) (fun _ i _ => n1 - (intOf i).toNat)
  case atStart => exact ⟨0, none, 0, 0, rfl, rfl, by omega, HX0⟩
  case round =>
    clear HX0
    obtain ⟨k, A, m, c, rfl, rfl, hk, HW⟩ := hrel
    have t1 := HW.out.b.x.cell 1
    by_cases hkn : k < n1
    · obtain ⟨a, of, hA, hab, hq⟩ := Lq.at_ len14T (by omega) HW.out.b.s.r1 (show k < S.T.length by have := HL1.out; omega)
      obtain ⟨x, hx⟩ : ∃ x, gt14 S.T k = x := ⟨_, rfl⟩
      rw [hx] at hq
      obtain ⟨xu, xc, xa, xk, xt, xo⟩ := x
      have e0 : wr.cell? ⟨a, of + k * 6, none⟩ = some (.bool xu) := hq 0 _ rfl
      have e1 : wr.cell? ⟨a, of + k * 6 + 1, none⟩ = some (.int .i64 xc) := hq 1 _ rfl
      have e2 : wr.cell? ⟨a, of + k * 6 + 2, none⟩ = some (.int .i64 xa) := hq 2 _ rfl
      have e3 : wr.cell? ⟨a, of + k * 6 + 3, none⟩ = some (.int .i64 xk) := hq 3 _ rfl
      have e4 : wr.cell? ⟨a, of + k * 6 + 4, none⟩ = some (.int .i64 xt) := hq 4 _ rfl
      have e5 : wr.cell? ⟨a, of + k * 6 + 5, none⟩ = some (.bool xo) := hq 5 _ rfl
      have i0 : (0 : Int) ≤ (k : Int) := by omega
      have i1 : (k : Int) < (n1 : Int) := by omega
      have HV := Lib.hid (Ti15.step HW.out (b1' wr (.cells #[.bool xu, .int .i64 xc, .int .i64 xa, .int .i64 xk, .int .i64 xt, .bool xo] 40)))
      have hv := Blk.new wr 40 #[.bool xu, .int .i64 xc, .int .i64 xa, .int .i64 xk, .int .i64 xt, .bool xo]
      have v0 := hv.cell 0
      have v1 := hv.cell 1
      have v2 := hv.cell 2
      have v3 := hv.cell 3
      have v4 := hv.cell 4
      have v5 := hv.cell 5
      have HNX : Hid (tks15 S (fnd15 1 ii) (k + 1) = tks15 S (fnd15 1 ii) k ++ if (xu && (fnd15 1 ii) ⟨xu, xc, xa, xk, xt, xo⟩) then [k] else []) := Lib.hid (by
        have h := all11_next (fun j => (gt14 S.T j).u && (fnd15 1 ii) (gt14 S.T j)) k
        rw [hx] at h
        exact h)
      obtain ⟨X, hX⟩ : ∃ X, wr.alloc (.cells #[.bool xu, .int .i64 xc, .int .i64 xa, .int .i64 xk, .int .i64 xt, .bool xo] 40) = X := ⟨_, rfl⟩
      rw [hX] at HV v0 v1 v2 v3 v4 v5
      have hmk : m ≤ k := by rw [← HW.out.l]; exact tks15_len S (fnd15 1 ii) k
      clear hv hq hx hab
      subst hA
      by_cases hk2 : xk = 1
      · subst hk2
        by_cases hm : xt = ii
        · have hp : (xt == ii) = true := by simp [hm]
          have HPE : Hid ((fnd15 1 ii) ⟨xu, xc, xa, 1, xt, xo⟩ = true) := Lib.hid (by simp [fnd15, hm])
          clear hm
          cases xu with
          | false =>
            have HN := Lib.hid (HV.out.congr (ys := tks15 S (fnd15 1 ii) (k + 1)) (by rw [HNX.out, HPE.out]; simp))
            clear HV HNX HPE
            go_wp2_with fail
            go_roundw
            case rel => exact ⟨k + 1, A, m, c, rfl, by go_num, by omega, HN⟩
            case measure => simp [intOf]; omega
          | true =>
            obtain ⟨Az, cz, W2, hrun, har, _⟩ := HV.out.push k (by omega)
            have HRUN := Lib.hid hrun
            have HAR := Lib.hid (har.congr (ys := tks15 S (fnd15 1 ii) (k + 1)) (by rw [HNX.out, HPE.out]; simp))
            clear HV HNX HPE hrun har
            go_wp2_with (at_builtin; go_loud (refine wpList_append_14 _ rfl (.tmp 66) (.tmp 68) 26 rfl _ _ _ _ rfl rfl HRUN.out ?_))
            go_roundw
            case rel => exact ⟨k + 1, Az, m + 1, cz, rfl, by go_num, by omega, HAR⟩
            case measure => simp [intOf]; omega
        · have hp : (xt == ii) = false := by simp [hm]
          have HPE : Hid ((fnd15 1 ii) ⟨xu, xc, xa, 1, xt, xo⟩ = false) := Lib.hid (by simp [fnd15, hm])
          clear hm
          have HN := Lib.hid (HV.out.congr (ys := tks15 S (fnd15 1 ii) (k + 1)) (by rw [HNX.out, HPE.out]; simp))
          clear HV HNX HPE
          cases xu with
          | false =>
            go_wp2_with fail
            go_roundw
            case rel => exact ⟨k + 1, A, m, c, rfl, by go_num, by omega, HN⟩
            case measure => simp [intOf]; omega
          | true =>
            go_wp2_with fail
            go_roundw
            case rel => exact ⟨k + 1, A, m, c, rfl, by go_num, by omega, HN⟩
            case measure => simp [intOf]; omega
      · have hp : (xk == 1) = false := by simp [hk2]
        have HPE : Hid ((fnd15 1 ii) ⟨xu, xc, xa, xk, xt, xo⟩ = false) := Lib.hid (by simp [fnd15, hk2])
        have HN := Lib.hid (HV.out.congr (ys := tks15 S (fnd15 1 ii) (k + 1)) (by rw [HNX.out, HPE.out]; simp))
        clear HV HNX HPE
        cases xu with
        | false =>
          go_wp2_with fail
          go_roundw
          case rel => exact ⟨k + 1, A, m, c, rfl, by go_num, by omega, HN⟩
          case measure => simp [intOf]; omega
        | true =>
          go_wp2_with fail
          go_roundw
          case rel => exact ⟨k + 1, A, m, c, rfl, by go_num, by omega, HN⟩
          case measure => simp [intOf]; omega
    · obtain rfl : k = n1 := by omega
      have HL := Lib.hid HW.out.l
      have h1 : ¬ (k : Int) < (k : Int) := by omega
      go_wp2_with fail
      go_ret
      rw [HP.out]
      exact ⟨A, c, by rw [HL.out]; rfl, HW.out.rd, HW.out.b.b⟩
set_option maxHeartbeats 4000000 in
theorem rfunds15_0 (v : Value) (S : Sv14) (a b : Int) (w : World) (h : St14 w v S) (ha : us14 usC S.C a = false) :
    Calls Try.prog 9 #[v, .int .i64 a, .int .i64 b] w fun e w' => e = .returned (.bool false) ∧ Below w.heap.size w w' := by
  obtain ⟨A0, A1, A2, A3, A4, n0, n1, n2, n3, n4, c0, c1, c2, c3, c4, sq, rfl, hs⟩ := h
  have hx0 := Bx14.new hs
  have hxn := hx0.step (Below.refl _ _).drew
  obtain ⟨W1, hW1⟩ : ∃ W, w.alloc (.cells #[.slice A0 n0 c0, .slice A1 n1 c1, .slice A2 n2 c2, .slice A3 n3 c3, .slice A4 n4 c4, .int .i64 sq] 28) = W := ⟨_, rfl⟩
  rw [hW1] at hx0 hxn
  have HCC := Lib.hid (rCoin14 _ S a _ W1 hx0.st ha)
  have HX1 := Lib.hid hx0
  have x0 := hx0.x.cell 0
  have x1 := hx0.x.cell 1
  have x2 := hx0.x.cell 2
  have x3 := hx0.x.cell 3
  have x4 := hx0.x.cell 4
  have x5 := hx0.x.cell 5
  clear hs hx0 hxn ha
  go_enter Try.func9, Try.ntmps9
  go_wp2_with fail
  refine HCC.out.mono ?_
  rintro e w3 ⟨rfl, hb3⟩
  have HX3 := Lib.hid (HX1.out.step hb3)
  clear HCC hb3
  go_wp2_with fail
  go_ret
  exact ⟨rfl, HX3.out.b⟩
set_option maxHeartbeats 4000000 in
theorem rfunds15_1 (v : Value) (S : Sv14) (a b : Int) (w : World) (h : St14 w v S) (ha : us14 usC S.C a = true) (hb : us14 usC S.C b = false) :
    Calls Try.prog 9 #[v, .int .i64 a, .int .i64 b] w fun e w' => e = .returned (.bool false) ∧ Below w.heap.size w w' := by
  obtain ⟨A0, A1, A2, A3, A4, n0, n1, n2, n3, n4, c0, c1, c2, c3, c4, sq, rfl, hs⟩ := h
  have hx0 := Bx14.new hs
  have hxn := hx0.step (Below.refl _ _).drew
  obtain ⟨W1, hW1⟩ : ∃ W, w.alloc (.cells #[.slice A0 n0 c0, .slice A1 n1 c1, .slice A2 n2 c2, .slice A3 n3 c3, .slice A4 n4 c4, .int .i64 sq] 28) = W := ⟨_, rfl⟩
  rw [hW1] at hx0 hxn
  have HCC := Lib.hid (rCoin14 _ S a _ W1 hx0.st ha)
  have HX1 := Lib.hid hx0
  have x0 := hx0.x.cell 0
  have x1 := hx0.x.cell 1
  have x2 := hx0.x.cell 2
  have x3 := hx0.x.cell 3
  have x4 := hx0.x.cell 4
  have x5 := hx0.x.cell 5
  have HCD := Lib.hid (fun W h => rCoin14 (.agg #[.slice A0 n0 c0, .slice A1 n1 c1, .slice A2 n2 c2, .slice A3 n3 c3, .slice A4 n4 c4, .int .i64 sq]) S b _ W h hb)
  clear hs hx0 hxn ha hb
  go_enter Try.func9, Try.ntmps9
  go_wp2_with fail
  refine HCC.out.mono ?_
  rintro e w3 ⟨rfl, hb3⟩
  have HX3 := Lib.hid (HX1.out.step hb3)
  clear HCC hb3
  have y0 := HX3.out.x.cell 0
  have y1 := HX3.out.x.cell 1
  have y2 := HX3.out.x.cell 2
  have y3 := HX3.out.x.cell 3
  have y4 := HX3.out.x.cell 4
  have y5 := HX3.out.x.cell 5
  go_wp2_with fail
  refine (HCD.out _ HX3.out.st).mono ?_
  rintro e w4 ⟨rfl, hb4⟩
  have HX4 := Lib.hid (HX3.out.step hb4)
  clear HCD hb4
  go_wp2_with fail
  go_ret
  exact ⟨rfl, HX4.out.b⟩
set_option maxHeartbeats 4000000 in
theorem rfunds15_2 (v : Value) (S : Sv14) (a b : Nat) (w : World) (h : St14 w v S) (ha : us14 usC S.C (a : Int) = true) (hb : us14 usC S.C (b : Int) = true) (fb : Bool) (hf : fb = true ↔ Fnd15 S (a : Int) (b : Int)) :
    Calls Try.prog 9 #[v, .int .i64 (a : Int), .int .i64 (b : Int)] w fun e w' => e = .returned (.bool fb) ∧ Below w.heap.size w w' := by
  obtain ⟨A0, A1, A2, A3, A4, n0, n1, n2, n3, n4, c0, c1, c2, c3, c4, sq, rfl, hs⟩ := h
  have hx0 := Bx14.new hs
  have hxn := hx0.step (Below.refl _ _).drew
  obtain ⟨W1, hW1⟩ : ∃ W, w.alloc (.cells #[.slice A0 n0 c0, .slice A1 n1 c1, .slice A2 n2 c2, .slice A3 n3 c3, .slice A4 n4 c4, .int .i64 sq] 28) = W := ⟨_, rfl⟩
  rw [hW1] at hx0 hxn
  have HCC := Lib.hid (rCoin14 _ S (a : Int) _ W1 hx0.st ha)
  have HCD := Lib.hid (fun W h => rCoin14 (.agg #[.slice A0 n0 c0, .slice A1 n1 c1, .slice A2 n2 c2, .slice A3 n3 c3, .slice A4 n4 c4, .int .i64 sq]) S (b : Int) _ W h hb)
  have HX1 := Lib.hid hx0
  have x0 := hx0.x.cell 0
  have x1 := hx0.x.cell 1
  have x2 := hx0.x.cell 2
  have x3 := hx0.x.cell 3
  have x4 := hx0.x.cell 4
  have x5 := hx0.x.cell 5
  have HCA := Lib.hid (fun W (h : Bx14 w S A0 A1 A2 A3 A4 n0 n1 n2 n3 n4 c0 c1 c2 c3 c4 sq W) => rcoinArrows14 _ S W h.st)
  have hl0 := hs.l0
  have hm0 := hs.m0
  have HLA : Hid ((cArr14 S S.T.length).length ≤ 1000000) := Lib.hid (by have := cArr14_len S S.T.length; have := hs.l1; have := hs.m1; omega)
  have HRE := Lib.hid (fun W Ad c (hr : Aq W W.heap.size Ad (cArr14 S S.T.length)) => rreach13_any n0 Ad _ _ c (a : Int) W rfl hr HLA.out (by omega))
  have HFB : Hid (fb = wayb (cut13 n0 (cArr14 S S.T.length)) a b) := Lib.hid (by
    rw [Bool.eq_iff_iff, hf, wayb_yes, ← hl0]
    unfold Fnd15 Ca15
    rw [Int.toNat_natCast, Int.toNat_natCast]
    exact ⟨fun h => h.2.2, fun h => ⟨ha, hb, h⟩⟩)
  have hbl : b < n0 := by have h1 := us15_lt hb; omega
  have j0 : (0 : Int) ≤ (b : Int) := by omega
  have j1 : (b : Int) < (n0 : Int) := by omega
  clear hs hx0 hxn ha hb hl0 hf
  go_enter Try.func9, Try.ntmps9
  go_wp2_with fail
  refine HCC.out.mono ?_
  rintro e w3 ⟨rfl, hb3⟩
  have HX3 := Lib.hid (HX1.out.step hb3)
  clear HCC hb3 hW1 x0 x1 x2 x3 x4 x5 HX1
  have y0 := HX3.out.x.cell 0
  have y1 := HX3.out.x.cell 1
  have y2 := HX3.out.x.cell 2
  have y3 := HX3.out.x.cell 3
  have y4 := HX3.out.x.cell 4
  have y5 := HX3.out.x.cell 5
  go_wp2_with fail
  refine (HCD.out _ HX3.out.st).mono ?_
  rintro e w4 ⟨rfl, hb4⟩
  have hx4 := HX3.out.step hb4
  have HXN : Hid (Bx14 w S A0 A1 A2 A3 A4 n0 n1 n2 n3 n4 c0 c1 c2 c3 c4 sq w4.drew) := Lib.hid (hx4.step (Below.refl _ _).drew)
  clear HCD hb4 y0 y1 y2 y3 y4 y5 HX3 hx4
  obtain ⟨wn, hwn⟩ : ∃ W, w4.drew = W := ⟨_, rfl⟩
  rw [hwn] at HXN
  go_wp2_with fail
  refine wp_region_held_drew (S := Bx14 w S A0 A1 A2 A3 A4 n0 n1 n2 n3 n4 c0 c1 c2 c3 c4 sq) (by kernel_rfl) (by rw [hwn]; exact HXN.out) (fun hHeld => ?_)
  rw [hwn] at hHeld ⊢
  clear hwn
  have HBS := HXN
  refine tk 0 (v := ?_) (fun W hS => ?_) ?_
  rotate_left
  · (go_simp; try with_reducible rfl)
  (try dsimp only [Act.put]); try simp only [pt1, pt2, pt3]
  refine tk 1 (v := ?_) (fun W hS => ?_) ?_
  rotate_left
  · try dsimp only at hS
    have z0 := hS.x.cell 0
    go_simp
    try with_reducible rfl
  (try dsimp only [Act.put]); try simp only [pt1, pt2, pt3]
  refine tk 2 (v := ?_) (fun W hS => ?_) ?_
  rotate_left
  · (go_simp; try with_reducible rfl)
  (try dsimp only [Act.put]); try simp only [pt1, pt2, pt3]
  refine tk 3 (v := ?_) (fun W hS => ?_) ?_
  rotate_left
  · try dsimp only at hS
    have z0 := hS.x.cell 0
    have z1 := hS.x.cell 1
    have z2 := hS.x.cell 2
    have z3 := hS.x.cell 3
    have z4 := hS.x.cell 4
    have z5 := hS.x.cell 5
    go_simp
    try with_reducible rfl
  (try dsimp only [Act.put]); try simp only [pt1, pt2, pt3]
  refine tk 5 (v := ?_) (fun W hS => ?_) ?_
  rotate_left
  · (go_simp; try with_reducible rfl)
  (try dsimp only [Act.put]); try simp only [pt1, pt2, pt3]
  refine tk 7 (v := ?_) (fun W hS => ?_) ?_
  rotate_left
  · (go_simp; try with_reducible rfl)
  (try dsimp only [Act.put]); try simp only [pt1, pt2, pt3]
  refine rdy 4 (fun K hK => ?_)
  have HBS0 := HBS
  go_simp
  refine (HCA.out _ HBS0.out).mono ?_
  rintro e wn ⟨Ac, cc, rfl, hqa, hb⟩
  have HBS := Lib.hid (HBS0.out.step hb)
  have HQA := Lib.hid hqa
  clear hqa
  clear hb HBS0
  refine hK.out _ _ HBS.out (fun hHeld => ?_)
  clear hK K
  (try dsimp only [Act.put]); try simp only [pt1, pt2, pt3]
  refine rdy 6 (fun K hK => ?_)
  have HBS0 := HBS
  go_simp
  refine (HRE.out _ Ac cc HQA.out).mono ?_
  rintro e wn ⟨gr, Tq, rfl, hrv, htr, hb⟩
  have HBS := Lib.hid (HBS0.out.step hb)
  have HRV := Lib.hid hrv
  have HFT : Hid (Tq b = fb) := Lib.hid (by rw [htr a rfl b, HFB.out])
  have HBR := Lib.hid hb
  have hcz : wn.cell? ⟨gr, b, none⟩ = some (.bool fb) := by
    obtain ⟨b2, o2, h1, _, h2⟩ := bls_at HRV.out hbl
    injection h1 with h1
    injection h1 with h3 h4
    subst h3 h4
    rw [Nat.zero_add, HFT.out] at h2
    exact h2
  have HCZ := Lib.hid hcz
  clear hrv htr hcz HRV HFT HBR
  clear hb HBS0 HQA
  refine hK.out _ _ HBS.out (fun hHeld => ?_)
  clear hK K
  (try dsimp only [Act.put]); try simp only [pt1, pt2, pt3]
  refine tk 8 (v := ?_) (fun W hS => ?_) ?_
  rotate_left
  · (go_simp; try with_reducible rfl)
  (try dsimp only [Act.put]); try simp only [pt1, pt2, pt3]
  refine rdy 9 (fun K hK => ?_)
  have z0 := HCZ.out
  go_simp
  refine hK.out _ _ HBS.out (fun hHeld => ?_)
  clear hK K
  (try dsimp only [Act.put]); try simp only [pt1, pt2, pt3]
  refine rdy 10 (fun K hK => ?_)
  go_simp
  refine hK.out _ _ HBS.out (fun hHeld => ?_)
  clear hK K
  (try dsimp only [Act.put]); try simp only [pt1, pt2, pt3]
  refine wpAnyH_done (by kernel_rfl) ?_ _
  clear hHeld
  go_wp2_with fail
  go_ret
  exact ⟨rfl, HBS.out.b⟩
theorem rfunds15 (v : Value) (S : Sv14) (a b : Int) (w : World) (h : St14 w v S) (fb : Bool) (hf : fb = true ↔ Fnd15 S a b) :
    Calls Try.prog 9 #[v, .int .i64 a, .int .i64 b] w fun e w' => e = .returned (.bool fb) ∧ Below w.heap.size w w' := by
  cases ha : us14 usC S.C a with
  | false =>
    obtain rfl : fb = false := bool14_of hf (fun h => by rw [h.1] at ha; cases ha)
    exact rfunds15_0 v S a b w h ha
  | true =>
    cases hb : us14 usC S.C b with
    | false =>
      obtain rfl : fb = false := bool14_of hf (fun h => by rw [h.2.1] at hb; cases hb)
      exact rfunds15_1 v S a b w h ha hb
    | true =>
      obtain ⟨p, rfl⟩ : ∃ p : Nat, a = (p : Int) := ⟨a.toNat, by have := us15_lt ha; omega⟩
      obtain ⟨q, rfl⟩ : ∃ q : Nat, b = (q : Int) := ⟨b.toNat, by have := us15_lt hb; omega⟩
      exact rfunds15_2 v S p q w h ha hb fb hf
end Go.Proofs.Ytljpgfnjaagkaaa
namespace Go.Proofs.Ytljpgfnjaagkaaa
open Go.RowKit
set_option maxRecDepth 100000
/-- Is j told? -/
def tb13 (os : List Nat) (j : Nat) : Bool := os.contains j
theorem tb13_yes {os : List Nat} {j : Nat} : tb13 os j = true ↔ j ∈ os := by simp [tb13]
theorem tb13_no {os : List Nat} {j : Nat} : tb13 os j = false ↔ j ∉ os := by
  rw [← tb13_yes]
  cases tb13 os j <;> simp
theorem tb13_next (os : List Nat) (i : Nat) : upd (tb13 os) i true = tb13 (os ++ [i]) := by
  funext j
  by_cases h : j = i
  · subst h
    rw [upd_at]
    exact (tb13_yes.2 (by simp)).symm
  · rw [upd_far _ _ h, Bool.eq_iff_iff, tb13_yes, tb13_yes, List.mem_append, List.mem_singleton]
    exact ⟨.inl, fun e => e.resolve_right h⟩
/-- order's own memory: marks at block g, the list so far. -/
structure Ro13 (w : World) (n : Nat) (tl : List Nat) (A : Option Addr) (k c : Nat) (W : World) : Prop where
  below : Below w.heap.size w W
  marks : Bb13 W w.heap.size n (tb13 tl)
  len : tl.length = k
  row : W.ownsRow w.heap.size 3 1 (.slice A k c) k (ints tl)
/-- What is known of i behind the first p arrows. -/
def Fp13 (l : List (Int × Int)) (n : Nat) (tl : List Nat) (i p : Nat) : Prop := i ∉ tl ∧ ∀ q, q < p → ∀ x : Nat, arr l q = ((x : Int), (i : Int)) → x < n → x ∈ tl
theorem Fp13.end_ {l : List (Int × Int)} {n i : Nat} {tl : List Nat} (h : Fp13 l n tl i l.length) (hi : i < n) : Fre13 (cut13 n l) n tl i :=
  ⟨hi, h.1, fun f hf => by
    obtain ⟨q, hq, he⟩ := arr_mem hf
    exact h.2 q hq f he (cut13_lt hf).1⟩
set_option maxHeartbeats 8000000 in
theorem rorder13_any (n : Nat) (Ad : Option Addr) (l : List (Int × Int)) (m c : Nat) (os : List Nat) (w : World) (hl : l.length = m) (hr : Aq w w.heap.size Ad l) (hm : m ≤ 1000000) (hn : n ≤ 100000) (hd : Done13 (cut13 n l) n os) (hf : os.length = n) :
    Calls Try.prog 37 #[.int .i64 (n : Int), .slice Ad m c] w (RetI w os) := by
  have HP : Hid (RetI w os = fun e w' => ∃ A c, e = .returned (.slice A os.length c) ∧ w'.ownsRow w.heap.size 3 1 (.slice A os.length c) os.length (ints os) ∧ Below w.heap.size w w') := Lib.hid rfl
  have HR := Lib.hid hr
  have HL := Lib.hid hl
  have HD := Lib.hid hd
  have HF := Lib.hid hf
  have hmk := make_bools13 n (by omega)
  have HM0 : Hid (Ro13 w n [] none 0 0 (w.alloc (.cells (madeCells #[.bool false] n) 4))) := Lib.hid ⟨b1' w _, made_b13 w n, rfl, World.ownsRow_nil _ _ _ _⟩
  clear hr hl hd hf
  go_enter Try.func37, Try.ntmps37
  go_wp2_with fail
  clear hmk
  go_loopw [6] (fun v wr => ∃ (tl : List Nat) (A : Option Addr) (k c : Nat), v = .slice A k c ∧ k ≤ n ∧ Hid (Ro13 w n tl A k c wr) ∧ Hid (Told13 (cut13 n l) n tl)) (fun v _ => n - lenOf13 v)
  case atStart => exact ⟨[], none, 0, 0, rfl, by omega, HM0, Lib.hid .nil⟩
  case round =>
    clear HM0
    obtain ⟨tl, A, k, c2, rfl, hk, HM, HT⟩ := hrel
    by_cases hkn : k < n
    · have hklt : (k : Int) < (n : Int) := by omega
      obtain ⟨i0, hi0, hi1⟩ : ∃ i, Fre13 (cut13 n l) n tl i ∧ ∀ j, j < i → ¬ Fre13 (cut13 n l) n tl j := least13_ex (Classical.byContradiction (fun h => by
        have h1 : Done13 (cut13 n l) n tl := ⟨HT.out, fun i hi => h ⟨i, hi⟩⟩
        have h2 := congrArg List.length (h1.same HD.out)
        rw [HM.out.len, HF.out] at h2
        omega))
      have hi0n := hi0.1
      have HI0 := Lib.hid hi0
      have HI1 := Lib.hid hi1
      clear hi0 hi1
      go_wp2_with fail
      go_loopw [6, 7] (fun ov iv wi => ∃ i : Nat, ov = .slice A k c2 ∧ iv = .int .i64 (i : Int) ∧ i ≤ i0 ∧ wi = wr) (fun _ iv _ => n - (intOf iv).toNat)
      case atStart => exact ⟨0, rfl, rfl, by omega, rfl⟩
      case round =>
        obtain ⟨i, rfl, rfl, hi, hwi⟩ := hrel
        subst hwi
        have hin : i < n := by omega
        have ii0 : (0 : Int) ≤ (i : Int) := by omega
        have ii1 : (i : Int) < (n : Int) := by omega
        obtain ⟨mi, mif⟩ := HM.out.marks.cells hin
        obtain ⟨b, hb⟩ : ∃ b, tb13 tl i = b := ⟨_, rfl⟩
        rw [hb] at mi
        have HF0 : Hid (((!b) = true → Fp13 l n tl i 0) ∧ ((!b) = false → ¬ Fre13 (cut13 n l) n tl i)) := Lib.hid (by
          constructor
          · intro h
            have h1 : b = false := by simpa using h
            subst h1
            exact ⟨tb13_no.1 hb, fun q hq => by omega⟩
          · intro h
            have h1 : b = true := by simpa using h
            subst h1
            exact fun e => e.2.1 (tb13_yes.1 hb))
        clear hb
        go_wp2_with fail
        go_loopw [8, 9] (fun v pv wi => ∃ (p : Nat) (fr : Bool), v = .bool fr ∧ pv = .int .i64 (p : Int) ∧ p ≤ m ∧ Hid ((fr = true → Fp13 l n tl i p) ∧ (fr = false → ¬ Fre13 (cut13 n l) n tl i)) ∧ wi = wr) (fun _ pv _ => m - (intOf pv).toNat)
        case atStart => exact ⟨0, !b, rfl, rfl, by omega, HF0, rfl⟩
        case round =>
          clear HF0
          obtain ⟨p, fr, rfl, rfl, hp, HFR, hwi⟩ := hrel
          subst hwi
          by_cases hgo : p < m ∧ fr = true
          · obtain ⟨hpm, rfl⟩ := hgo
            have hpl : p < l.length := by have := HL.out; omega
            obtain ⟨ba, o, hA, _, c0, c1⟩ := Aq.at_ (Rv.below HR.out HM.out.below (Nat.le_refl _)) hpl
            subst hA
            obtain ⟨fi, hfi⟩ : ∃ x, (arr l p).1 = x := ⟨_, rfl⟩
            obtain ⟨ti, hti⟩ : ∃ x, (arr l p).2 = x := ⟨_, rfl⟩
            rw [hfi] at c0
            rw [hti] at c1
            have HAR : Hid (arr l p = (fi, ti)) := Lib.hid (by rw [← hfi, ← hti])
            have p0 : (0 : Int) ≤ (p : Int) := by omega
            have p1 : (p : Int) < (m : Int) := by omega
            have HFP := Lib.hid (HFR.out.1 rfl)
            have hnext : (∀ x : Nat, fi = (x : Int) → ti = (i : Int) → x < n → x ∈ tl) → Fp13 l n tl i (p + 1) := fun h => ⟨HFP.out.1, fun q hq => by
              rcases (show q < p ∨ q = p by omega) with h1 | rfl
              · exact HFP.out.2 q h1
              · intro x he hx
                rw [HAR.out] at he
                injection he with h2 h3
                exact h x h2 h3 hx⟩
            have HNX := Lib.hid hnext
            clear hfi hti hnext HFR
            by_cases hti : ti = (i : Int)
            · by_cases hf0 : 0 ≤ fi
              · by_cases hfn : fi < (n : Int)
                · obtain ⟨f, rfl⟩ : ∃ f : Nat, fi = (f : Int) := ⟨fi.toNat, by omega⟩
                  have hfN : f < n := by omega
                  obtain ⟨mf, mff⟩ := HM.out.marks.cells hfN
                  subst hti
                  cases hmf : tb13 tl f with
                  | true =>
                    rw [hmf] at mf
                    have HN := Lib.hid (HNX.out (fun x h1 _ _ => by
                      obtain rfl : f = x := by omega
                      exact tb13_yes.1 hmf))
                    clear hmf mff
                    go_wp2_with fail
                    go_roundw
                    case rel => exact ⟨p + 1, true, rfl, by go_num, by omega, Lib.hid ⟨fun _ => HN.out, fun h => (by cases h)⟩, by first | trivial | rfl⟩
                    case measure => simp [intOf]; omega
                  | false =>
                    rw [hmf] at mf
                    have HN : Hid (¬ Fre13 (cut13 n l) n tl i) := Lib.hid (fun e => (tb13_no.1 hmf) (e.2.2 f (arr_in hpl HAR.out hfN hin)))
                    clear hmf mff
                    go_wp2_with fail
                    go_roundw
                    case rel => exact ⟨p + 1, false, rfl, by go_num, by omega, Lib.hid ⟨fun h => (by cases h), fun _ => HN.out⟩, by first | trivial | rfl⟩
                    case measure => simp [intOf]; omega
                · have HN := Lib.hid (HNX.out (fun x h1 _ h3 => by omega))
                  have hfn2 : decide (fi < (n : Int)) = false := decide_eq_false hfn
                  subst hti
                  go_wp2_with fail
                  go_roundw
                  case rel => exact ⟨p + 1, true, rfl, by go_num, by omega, Lib.hid ⟨fun _ => HN.out, fun h => (by cases h)⟩, by first | trivial | rfl⟩
                  case measure => simp [intOf]; omega
              · have HN := Lib.hid (HNX.out (fun x h1 _ h3 => by omega))
                subst hti
                go_wp2_with fail
                go_roundw
                case rel => exact ⟨p + 1, true, rfl, by go_num, by omega, Lib.hid ⟨fun _ => HN.out, fun h => (by cases h)⟩, by first | trivial | rfl⟩
                case measure => simp [intOf]; omega
            · have HN := Lib.hid (HNX.out (fun x _ h2 _ => absurd h2 hti))
              have hti2 : (ti == (i : Int)) = false := by simp [hti]
              go_wp2_with fail
              go_roundw
              case rel => exact ⟨p + 1, true, rfl, by go_num, by omega, Lib.hid ⟨fun _ => HN.out, fun h => (by cases h)⟩, by first | trivial | rfl⟩
              case measure => simp [intOf]; omega
          · cases fr with
            | false =>
              have HNF := Lib.hid (HFR.out.2 rfl)
              have hlt : i < i0 := by
                rcases Nat.lt_or_ge i i0 with h | h
                · exact h
                · obtain rfl : i = i0 := by omega
                  exact absurd HI0.out HNF.out
              clear hgo
              rcases Nat.lt_or_ge p m with hpm | hpm
              · have p1 : (p : Int) < (m : Int) := by omega
                go_wp2_with fail
                go_roundw
                case rel => exact ⟨i + 1, rfl, by go_num, by omega, by first | trivial | rfl⟩
                case measure => simp [intOf]; omega
              · have p1 : ¬ (p : Int) < (m : Int) := by omega
                go_wp2_with fail
                go_roundw
                case rel => exact ⟨i + 1, rfl, by go_num, by omega, by first | trivial | rfl⟩
                case measure => simp [intOf]; omega
            | true =>
              obtain rfl : p = m := by
                rcases Nat.lt_or_ge p m with h | h
                · exact absurd ⟨h, rfl⟩ hgo
                · omega
              have hfre : Fre13 (cut13 n l) n tl i := by
                have h1 := HFR.out.1 rfl
                rw [← HL.out] at h1
                exact h1.end_ hin
              obtain rfl : i = i0 := by
                rcases Nat.lt_or_ge i i0 with h | h
                · exact absurd hfre (HI1.out i h)
                · omega
              have HT2 := Lib.hid (Told13.next HT.out hfre HI1.out)
              have HB2 := Lib.hid (HM.out.marks.put hin true)
              have hrw : (wr.setCell ⟨w.heap.size, i, none⟩ (.bool true)).ownsRow w.heap.size 3 1 (.slice A k c2) k (ints tl) := ownsRow_setCell_other HM.out.row (by
                obtain ⟨es, h1, _⟩ := HM.out.marks
                exact own7_ne HM.out.row h1 (by decide)) _
              have HB3 := Lib.hid (HM.out.below.setCell (p := ⟨w.heap.size, i, none⟩) (Nat.le_refl _) (.bool true))
              obtain ⟨w5, hw5⟩ : ∃ W, wr.setCell ⟨w.heap.size, i, none⟩ (.bool true) = W := ⟨_, rfl⟩
              rw [hw5] at HB2 HB3 hrw
              rw [tb13_next] at HB2
              have HRW := Lib.hid hrw
              have hs5 := HB3.out.size
              have p1 : ¬ (p : Int) < (p : Int) := by omega
              clear hrw hfre hgo HFR
              go_wp2_with (at_builtin; go_loud (refine wpList_append_rv _ rfl (.tmp 74) (.tmp 76) 26 rfl w.heap.size 3 (.int .i64 0) 8 Try.underlying26 info_int11 rfl (by omega) (.slice A k c2) k (ints tl) rfl (own7_keep HRW.out (b1' w5 (.cells #[.int .i64 (i : Int)] 3))) (w5.heap.size + 1) (some ⟨w5.heap.size, 0, none⟩) 1 (ints [i]) _ rfl rfl (rv12_one w5 i 3) (ints_one [i]) (by omega) (by simp; omega) ?_); intro A' c' w6 hc6 hown6 hg6 hbl6; have HB6 : Hid (Below w.heap.size w w6) := Lib.hid ((HB3.out.trans ((b1' w5 _).mono hs5)).grown hg6 (by simp; omega) (fun r hr => (World.ownsRow.lt (own7_keep HRW.out (b1' w5 (.cells #[.int .i64 (i : Int)] 3))) r hr).1)); have HM6 : Hid (Bb13 w6 w.heap.size n (tb13 (tl ++ [i]))) := Lib.hid (by obtain ⟨es, h1, h2⟩ := HB2.out; exact ⟨es, (h1.alloc _).grown hg6 (fun e => own7_ne (own7_keep HRW.out (b1' w5 (.cells #[.int .i64 (i : Int)] 3))) (h1.alloc _) (by decide) e.symm), h2⟩); have HR6 : Hid (w6.ownsRow w.heap.size 3 1 (.slice A' (k + 1) c') (k + 1) (ints (tl ++ [i]))) := Lib.hid (by rw [ints_append]; exact hown6.out); clear hown6 hg6 hbl6)
              go_roundw
              case rel => exact ⟨tl ++ [i], A', k + 1, c', rfl, by omega, Lib.hid ⟨HB6.out, HM6.out, by rw [List.length_append, HM.out.len]; rfl, HR6.out⟩, HT2⟩
              case measure => simp [lenOf13]; omega
    · obtain rfl : k = n := by omega
      have htl : tl = os := by
        have h1 := HT.out.head HD.out
        have h2 := HM.out.len
        have h3 := HF.out
        rw [List.take_of_length_le (by omega)] at h1
        exact h1
      have HRW := Lib.hid HM.out.row
      rw [htl] at HRW
      have k1 : ¬ (k : Int) < (k : Int) := by omega
      clear htl
      go_wp2_with fail
      go_ret
      rw [HP.out]
      exact ⟨A, c2, by rw [HF.out]; rfl, by rw [HF.out]; exact HRW.out, HM.out.below⟩
end Go.Proofs.Ytljpgfnjaagkaaa
namespace Go.Proofs.Ytljpgfnjaagkaaa
open Go.RowKit
set_option maxRecDepth 100000
set_option maxHeartbeats 8000000 in
theorem rorder15 (v : Value) (S : Sv14) (os : List Nat) (w : World) (h : St14 w v S) (hd : Done13 (Ca15 S) S.C.length os) (hf : os.length = S.C.length) :
    Calls Try.prog 12 #[v] w (RetR15 w (ord15 S os)) := by
  obtain ⟨A0, A1, A2, A3, A4, n0, n1, n2, n3, n4, c0, c1, c2, c3, c4, sq, rfl, hs⟩ := h
  have HP : Hid (RetR15 w (ord15 S os) = fun e w' => ∃ A c, e = .returned (.slice A (ord15 S os).length c) ∧ Rd w' w'.heap.size A (ord15 S os) ∧ Below w.heap.size w w') := Lib.hid rfl
  have HCA := Lib.hid (fun W (h : Bx14 w S A0 A1 A2 A3 A4 n0 n1 n2 n3 n4 c0 c1 c2 c3 c4 sq W) => rcoinArrows14 _ S W h.st)
  have hl0 := hs.l0
  have hm0 := hs.m0
  have HLA : Hid ((cArr14 S S.T.length).length ≤ 1000000) := Lib.hid (by have := cArr14_len S S.T.length; have := hs.l1; have := hs.m1; omega)
  have HFN := Lib.hid (show os.length = n0 by rw [← hl0]; exact hf)
  have HDN : Hid (Done13 (cut13 n0 (cArr14 S S.T.length)) n0 os) := Lib.hid (by rw [← hl0]; exact hd)
  have HOR := Lib.hid (fun W Ad c (hr : Aq W W.heap.size Ad (cArr14 S S.T.length)) => rorder13_any n0 Ad _ _ c os W rfl hr HLA.out (by omega) HDN.out HFN.out)
  have HLT : Hid (∀ k, k < n0 → nth os k < n0) := Lib.hid (fun k hk => HDN.out.1.lt _ (by rw [nth_in (by have := HFN.out; omega)]; exact List.getElem_mem _))
  have HL0 := Lib.hid hl0
  have HS := Lib.hid hs
  have hx0 := Bx14.new hs
  have hxn := hx0.step (Below.refl _ _).drew
  obtain ⟨W1, hW1⟩ : ∃ W, w.alloc (.cells #[.slice A0 n0 c0, .slice A1 n1 c1, .slice A2 n2 c2, .slice A3 n3 c3, .slice A4 n4 c4, .int .i64 sq] 28) = W := ⟨_, rfl⟩
  rw [hW1] at hx0 hxn
  have HXN := Lib.hid hxn
  clear hs hx0 hxn hd hf hl0
  go_enter Try.func12, Try.ntmps12
  obtain ⟨wn, hwn⟩ : ∃ W, W1.drew = W := ⟨_, rfl⟩
  rw [hwn] at HXN
  go_wp2_with fail
  refine wp_region_held_drew (S := Bx14 w S A0 A1 A2 A3 A4 n0 n1 n2 n3 n4 c0 c1 c2 c3 c4 sq) (by kernel_rfl) (by rw [hwn]; exact HXN.out) (fun hHeld => ?_)
  rw [hwn] at hHeld ⊢
  clear hwn
  have HBS := HXN
  refine tk 0 (v := ?_) (fun W hS => ?_) ?_
  rotate_left
  · (go_simp; try with_reducible rfl)
  (try dsimp only [Act.put]); try simp only [pt1, pt2, pt3]
  refine tk 1 (v := ?_) (fun W hS => ?_) ?_
  rotate_left
  · try dsimp only at hS
    have z0 := hS.x.cell 0
    go_simp
    try with_reducible rfl
  (try dsimp only [Act.put]); try simp only [pt1, pt2, pt3]
  refine tk 2 (v := ?_) (fun W hS => ?_) ?_
  rotate_left
  · (go_simp; try with_reducible rfl)
  (try dsimp only [Act.put]); try simp only [pt1, pt2, pt3]
  refine tk 3 (v := ?_) (fun W hS => ?_) ?_
  rotate_left
  · try dsimp only at hS
    have z0 := hS.x.cell 0
    have z1 := hS.x.cell 1
    have z2 := hS.x.cell 2
    have z3 := hS.x.cell 3
    have z4 := hS.x.cell 4
    have z5 := hS.x.cell 5
    go_simp
    try with_reducible rfl
  (try dsimp only [Act.put]); try simp only [pt1, pt2, pt3]
  refine rdy 4 (fun K hK => ?_)
  have HBS0 := HBS
  go_simp
  refine (HCA.out _ HBS0.out).mono ?_
  rintro e wn ⟨Ac, cc, rfl, hqa, hb⟩
  have HBS := Lib.hid (HBS0.out.step hb)
  have HQA := Lib.hid hqa
  clear hqa
  clear hb HBS0
  refine hK.out _ _ HBS.out (fun hHeld => ?_)
  clear hK K
  (try dsimp only [Act.put]); try simp only [pt1, pt2, pt3]
  refine rdy 5 (fun K hK => ?_)
  have HBS0 := HBS
  go_simp
  refine (HOR.out _ Ac cc HQA.out).mono ?_
  rintro e wn ⟨Ao, co, rfl, hown, hb⟩
  have HBS := Lib.hid (HBS0.out.step hb)
  have HZ := Lib.hid hown
  clear hown
  clear hb HBS0 HQA
  refine hK.out _ _ HBS.out (fun hHeld => ?_)
  clear hK K
  (try dsimp only [Act.put]); try simp only [pt1, pt2, pt3]
  refine rdy 6 (fun K hK => ?_)
  go_simp
  refine hK.out _ _ HBS.out (fun hHeld => ?_)
  clear hK K
  (try dsimp only [Act.put]); try simp only [pt1, pt2, pt3]
  refine wpAnyH_done (by kernel_rfl) ?_ _
  clear hHeld
  have HDR : Hid (Rd wn wn.heap.size Ao os) := Lib.hid (rd15_own HZ.out rfl)
  obtain ⟨L, hL⟩ : ∃ L, wn.heap.size = L := ⟨_, rfl⟩
  have HT0 : Hid (Ti15 w L S A0 A1 A2 A3 A4 n0 n1 n2 n3 n4 c0 c1 c2 c3 c4 sq none 0 0 (ord15 S (os.take 0)) wn) := Lib.hid (Ti15.start HS.out HBS.out (by rw [← hL]; exact HBS.out.x.lt) (by omega))
  rw [hL] at HDR
  clear HBS HZ hL hW1
  rw [HFN.out]
  go_wp2_with fail
  go_loopw [4, 5] (fun v i wr => ∃ (k : Nat) (A : Option Addr) (m c : Nat), v = .slice A m c ∧ i = .int .i64 (k : Int) ∧ k ≤ n0 ∧ Hid (Ti15 w L S A0 A1 A2 A3 A4 n0 n1 n2 n3 n4 c0 c1 c2 c3 c4 sq A m c (ord15 S (os.take k)) wr) ∧ Hid (Rd wr L Ao os)) (fun _ i _ => n0 - (intOf i).toNat)
  case atStart => exact ⟨0, none, 0, 0, rfl, rfl, by omega, HT0, HDR⟩
  case round =>
    clear HT0 HDR
    obtain ⟨k, A, m, c, rfl, rfl, hk, HW, HD⟩ := hrel
    by_cases hkn : k < n0
    · have hkz : k < os.length := by have := HFN.out; omega
      obtain ⟨b, o, hA, hab, q0⟩ := HD.out.at_ hkz
      have hxn := HLT.out k hkn
      have hnx : ord15 S (os.take (k + 1)) = ord15 S (os.take k) ++ if us14 usC S.C ((nth os k : Nat) : Int) then [nth os k] else [] := filt15_next hkz
      obtain ⟨x, hx⟩ : ∃ x, nth os k = x := ⟨_, rfl⟩
      rw [hx] at q0 hxn hnx
      rw [us14_nat] at hnx
      have HNX := Lib.hid hnx
      obtain ⟨a0, of0, hA0, _, hq⟩ := Lq.at_ len14C (by omega) HW.out.b.s.r0 (show x < S.C.length by have := HL0.out; omega)
      have hc0 := hq 0 _ rfl
      rw [Nat.mul_one] at hc0
      obtain ⟨bx, hbx⟩ : ∃ y, gt14 S.C x = y := ⟨_, rfl⟩
      have hc1 : wr.cell? ⟨a0, of0 + x, none⟩ = some (.bool bx) := by rw [← hbx]; exact hc0
      have HBX : Hid (usC (gt14 S.C x) = bx) := Lib.hid hbx
      have z0 := HW.out.b.x.cell 0
      have hmk : m ≤ k := by
        rw [← HW.out.l]
        have h1 := List.length_filter_le (fun (x : Nat) => us14 usC S.C (x : Int)) (os.take k)
        rw [List.length_take] at h1
        unfold ord15
        omega
      have i0 : (0 : Int) ≤ (k : Int) := by omega
      have i1 : (k : Int) < (n0 : Int) := by omega
      have j0 : (0 : Int) ≤ (x : Int) := by omega
      have j1 : (x : Int) < (n0 : Int) := by omega
      have HWD : Hid (Ti15 w L S A0 A1 A2 A3 A4 n0 n1 n2 n3 n4 c0 c1 c2 c3 c4 sq A m c (ord15 S (os.take k)) wr.drew) := Lib.hid (HW.out.step (Below.refl _ _).drew)
      have HDD : Hid (Rd wr.drew L Ao os) := HD
      clear hab hx hkz hnx hc0 hq hbx
      subst hA
      subst hA0
      cases bx with
      | false =>
        have HN := Lib.hid (HWD.out.congr (ys := ord15 S (os.take (k + 1))) (by rw [HNX.out, HBX.out]; simp))
        clear HWD HNX HW
        go_wp2_with fail
        go_region
        go_wp2_with fail
        go_roundw
        case rel => exact ⟨k + 1, A, m, c, rfl, by go_num, by omega, HN, HDD⟩
        case measure => simp [intOf]; omega
      | true =>
        obtain ⟨Az, cz, W2, hrun, har, hbw⟩ := HWD.out.push x (by omega)
        have HRUN := Lib.hid hrun
        have HAR := Lib.hid (har.congr (ys := ord15 S (os.take (k + 1))) (by rw [HNX.out, HBX.out]; simp))
        have HD2 := Lib.hid (HDD.out.below hbw (Nat.le_refl _))
        have q1 : wr.drew.cell? ⟨b, o + k, none⟩ = some (.int .i64 (x : Int)) := q0
        clear HWD HNX HW hrun har hbw HD HDD
        go_wp2_with fail
        go_region
        go_wp2_with (at_builtin; go_loud (refine wpList_append_14 _ rfl (.tmp 26) (.tmp 31) 26 rfl _ _ _ _ rfl rfl HRUN.out ?_))
        go_roundw
        case rel => exact ⟨k + 1, Az, m + 1, cz, rfl, by go_num, by omega, HAR, HD2⟩
        case measure => simp [intOf]; omega
    · obtain rfl : k = n0 := by omega
      have HL := Lib.hid HW.out.l
      have HE : Hid (ord15 S (os.take k) = ord15 S os) := Lib.hid (by rw [List.take_of_length_le (by have := HFN.out; omega)])
      have h1 : ¬ (k : Int) < (k : Int) := by omega
      go_wp2_with fail
      go_ret
      rw [HP.out, ← HE.out]
      exact ⟨A, c, by rw [HL.out]; rfl, HW.out.rd, HW.out.b.b⟩
/-- What is closed so far: whoever is funded, and by tickets of marked coins alone, is marked. -/
def Cl15 (S : Sv14) (n : Nat) (T : Nat → Bool) (kk : Nat) : Prop := ∀ k, k < kk → us14 usC S.C (k : Int) = true → Wth15 S n T (k : Int) → T k = true
/-- Is the coin k marked next? -/
def Nw15 (S : Sv14) (n : Nat) (T : Nat → Bool) (k : Nat) : Prop := us14 usC S.C (k : Int) = true ∧ T k = false ∧ Wth15 S n T (k : Int)
theorem Cl15.next {S : Sv14} {n : Nat} {T : Nat → Bool} {k : Nat} (h : Cl15 S n T k) (hn : ¬ Nw15 S n T k) : Cl15 S n T (k + 1) := fun x hx hu hw => by
  rcases (show x < k ∨ x = k by omega) with h1 | rfl
  · exact h x h1 hu hw
  · cases ht : T x with
    | true => rfl
    | false => exact absurd ⟨hu, ht, hw⟩ hn
theorem own15_next {S : Sv14} {n c k : Nat} {T : Nat → Bool} (hs : ∀ x, T x = true → Own15 S c x) (h : Nw15 S n T k) : ∀ x, upd T k true x = true → Own15 S c x := fun x hx => by
  by_cases hxk : x = k
  · subst hxk
    obtain ⟨hu, _, hw, ha⟩ := h
    obtain ⟨j, hj⟩ := ne15_nil.1 hw
    have hin : ∀ j, Bck15 S x j → 0 ≤ (gt14 S.T j).c ∧ T (gt14 S.T j).c.toNat = true := fun j hj => by
      have h1 := ha j ((bck15_mem hu).2 hj)
      rw [has15, Bool.and_eq_true, decide_eq_true_iff] at h1
      exact ⟨h1.1.1, h1.2⟩
    exact .step hu ⟨j, (bck15_mem hu).1 hj⟩ (fun j hj => (hin j hj).1) (fun j hj => hs _ (hin j hj).2)
  · rw [upd_far _ _ hxk] at hx
    exact hs x hx
theorem own15_end {S : Sv14} {n c : Nat} {T : Nat → Bool} (hT : Tickets14 S) (hn : S.C.length = n) (hs : ∀ x, T x = true → Own15 S c x) (h0 : T c = true) (hc : Cl15 S n T n) : ∀ y, T y = ownb15 S (c : Int) y := fun y => by
  have h1 : ownb15 S (c : Int) y = own15b S c y := by
    rw [ownb15, decide_eq_true (by omega), Bool.true_and, Int.toNat_natCast]
  rw [h1]
  refine own15_is hs (fun _ => h0) (fun k hu hb ha => hc k (by have := us15_lt hu; omega) hu ⟨?_, fun j hj => ?_⟩) y
  · obtain ⟨j, hj⟩ := hb
    exact ne15_nil.2 ⟨j, (bck15_mem hu).2 hj⟩
  · have hj2 := (bck15_mem hu).1 hj
    rw [has15_in (by rw [← hn]; exact us15_lt (hT j hj2.1 hj2.2.1).1)]
    exact (ha j hj2).2
/-- Are the first q tickets of marked coins? -/
def al15 (S : Sv14) (T : Nat → Bool) (z : Bool) (bs : List Nat) (q : Nat) : Bool := z && (bs.take q).all (fun j => T (gt14 S.T j).c.toNat)
theorem al15_next {S : Sv14} {T : Nat → Bool} {z : Bool} {bs : List Nat} {q : Nat} (hq : q < bs.length) : al15 S T z bs (q + 1) = (al15 S T z bs q && T (gt14 S.T (nth bs q)).c.toNat) := by
  rw [al15, al15, take15_next hq, List.all_append, Bool.and_assoc]
  simp
theorem al15_end {S : Sv14} {T : Nat → Bool} {n k m : Nat} {bs : List Nat} (hT : Tickets14 S) (hn : S.C.length = n) (hb : bs = tks15 S (fnd15 2 (k : Int)) S.T.length) (hm : bs.length = m) :
    al15 S T (gt14 S.C k && (!T k && decide (0 < m))) bs m = true ↔ Nw15 S n T k := by
  subst hm
  rw [al15, List.take_length]
  simp only [Bool.and_eq_true, Bool.not_eq_true', decide_eq_true_iff, List.all_eq_true]
  unfold Nw15
  rw [us14_nat]
  constructor
  · rintro ⟨⟨h1, h2, h3⟩, h4⟩
    have hu : us14 usC S.C (k : Int) = true := by rw [us14_nat]; exact h1
    have hbk : bck15 S (k : Int) = bs := by rw [bck15, if_pos hu, hb]
    refine ⟨h1, h2, ?_, fun j hj => ?_⟩
    · rw [hbk]
      exact fun e => by rw [e] at h3; simp at h3
    · rw [hbk] at hj
      have hj2 := (bck15_mem hu).1 (by rw [hbk]; exact hj)
      rw [has15_in (by rw [← hn]; exact us15_lt (hT j hj2.1 hj2.2.1).1)]
      exact h4 j hj
  · rintro ⟨h1, h2, h3, h4⟩
    have hu : us14 usC S.C (k : Int) = true := by rw [us14_nat]; exact h1
    have hbk : bck15 S (k : Int) = bs := by rw [bck15, if_pos hu, hb]
    rw [hbk] at h3 h4
    refine ⟨⟨h1, h2, List.length_pos_iff.2 h3⟩, fun j hj => ?_⟩
    have h5 := h4 j hj
    rw [has15, Bool.and_eq_true] at h5
    exact h5.2
/-- What Own says. -/
def RetW15 (w : World) (n : Nat) (T : Nat → Bool) (e : Ending) (w' : World) : Prop := ∃ g, e = .returned (.slice (some ⟨g, 0, none⟩) n n) ∧ Rv w' w'.heap.size (some ⟨g, 0, none⟩) (bls T n) ∧ Below w.heap.size w w'
end Go.Proofs.Ytljpgfnjaagkaaa
