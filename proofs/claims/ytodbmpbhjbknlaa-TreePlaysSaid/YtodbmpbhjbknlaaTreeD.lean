/-
  A tree of sums: the sum ahead of a place; whose span has a number.
-/
import Derived.Test.YtodbmpbhjbknlaaTreeC
namespace Go.Proofs.Ytodbmpbhjbknlaa
open Go.RowKit
set_option maxRecDepth 100000

theorem left10_step {S : Nat → Nat} {xs : List Nat} {H i j t sum : Nat} (hs : ∀ j, j ≤ H → Lev10 S xs j) (hH : H ≤ 12) (hj : j < H) (ht : t = i / 2 ^ j) (ht2 : t < lv10 j) (hsum : sum + up9 xs (t * 2 ^ j) = up9 xs i) :
    (t % 2 = 1 → sum + S (lv10 j + t - 1) + up9 xs (i / 2 ^ (j + 1) * 2 ^ (j + 1)) = up9 xs i) ∧ (t % 2 = 0 → sum + up9 xs (i / 2 ^ (j + 1) * 2 ^ (j + 1)) = up9 xs i) := by
  have e := div_two10 i j
  rw [← ht] at e
  rw [mul_two10, ← e]
  constructor
  · intro ho
    have h1 := hs j (by omega) (t - 1) (by omega)
    rw [show t - 1 + 1 = t by omega, show lv10 j + (t - 1) = lv10 j + t - 1 by omega] at h1
    rw [show 2 * (t / 2) = t - 1 by omega]
    omega
  · intro ho
    rw [show 2 * (t / 2) = t by omega]
    exact hsum

set_option maxHeartbeats 2000000 in
theorem left10_any {g n s : Nat} {S : Nat → Nat} {xs : List Nat} (i : Nat) (w : World) (h : Tr w g n s S) (hg : Good10 S n xs) (hi : i < n) :
    Calls Try.prog 36 #[.pointer (some ⟨g, 0, none⟩), .int .i64 ((4096 + i : Nat) : Int)] w fun e w' => e = .returned (.int .u64 ((up9 xs i : Nat) : Int)) ∧ w' = w := by
  have hn := hg.many
  have hi4 : i < 4096 := by omega
  have HT := Lib.hid h
  have HG := Lib.hid hg
  have HR := Lib.hid (root10_any w h hg.one hn)
  have HIH : Hid (i < 2 ^ hgt10 n) := Lib.hid (Nat.lt_of_lt_of_le hi (hgt10_up hg.one hn))
  have HH12 : Hid (hgt10 n ≤ 12) := Lib.hid (hgt10_le hn)
  have HLR : Hid (∀ j, j < hgt10 n → rt10 n < lv10 j) := Lib.hid (fun j hj => lv10_rt hn hj)
  have HRL : Hid (rt10 n = lv10 (hgt10 n)) := Lib.hid rfl
  have HS := Lib.hid hg.sums
  obtain ⟨H, hH⟩ : ∃ H, hgt10 n = H := ⟨_, rfl⟩
  rw [hH] at HIH HH12 HLR HRL HS
  obtain ⟨r, hr⟩ : ∃ r, rt10 n = r := ⟨_, rfl⟩
  rw [hr] at HR HLR HRL
  obtain ⟨u, hu⟩ : ∃ u, up9 xs i = u := ⟨_, rfl⟩
  have hu64 : u < 18446744073709551616 := by
    have h1 := up9_mono xs (show i ≤ n by omega)
    have h2 := hg.fits
    omega
  have HU := Lib.hid hu
  rw [hu]
  obtain ⟨k0, hk0⟩ : ∃ k0, 4096 + i = k0 := ⟨_, rfl⟩
  have HK0 : Hid (k0 = lv10 0 + i / 2 ^ 0) := Lib.hid (by rw [lv10_zero, Nat.pow_zero, Nat.div_one]; omega)
  have hk08 : k0 ≤ 8191 := by omega
  rw [hk0]
  clear h hg hi hH hr hu hk0
  go_enter Try.func36, Try.ntmps36
  go_wp2_with fail
  refine HR.out.mono ?_
  rintro e w1 ⟨rfl, rfl⟩
  go_wp2_with fail
  go_loopw [1, 5] (fun kv sv wr => ∃ (j k t sum : Nat), kv = .int .i64 (k : Int) ∧ sv = .int .u64 (sum : Int) ∧ k ≤ 8191 ∧ j ≤ H ∧ Hid (k = lv10 j + t) ∧ Hid (t = i / 2 ^ j) ∧ Hid (sum + up9 xs (t * 2 ^ j) = u) ∧ wr = w1) (fun kv _ _ => (intOf kv).toNat)
  case atStart => exact ⟨0, k0, i / 2 ^ 0, 0, rfl, rfl, hk08, by omega, HK0, Lib.hid rfl, Lib.hid (by rw [Nat.pow_zero, Nat.div_one, Nat.mul_one, Nat.zero_add]; exact HU.out), rfl⟩
  case round =>
    obtain ⟨j, k, t, sum, rfl, rfl, hk8, hj, HK, HTI, HSU, rfl⟩ := hrel
    by_cases ht : j < H
    · have hrk : (r : Int) < (k : Int) := by
        have h1 := HLR.out j ht
        have h2 := HK.out
        omega
      have htl : t < lv10 j := by rw [HTI.out]; exact lv10_in hi4 (by have := HH12.out; omega)
      obtain ⟨q, hq⟩ : ∃ q, k / 2 = q := ⟨_, rfl⟩
      have HQ : Hid (q = lv10 (j + 1) + i / 2 ^ (j + 1)) := Lib.hid (by rw [← hq, HK.out, HTI.out]; exact half10 (by have := HH12.out; omega))
      have hd1 : (k : Int) / 2 = (q : Int) := by omega
      have hd2 : (k : Int).tdiv 2 = (q : Int) := by rw [Int.tdiv_eq_ediv_of_nonneg (by omega)]; exact hd1
      have hd3 : IntKind.i64.wrap (q : Int) = (q : Int) := by rw [IntKind.wrap_i64]; omega
      have hqk : q < k := by
        have h1 := HK.out
        have h2 := lv10_pos (show j ≤ 12 by have := HH12.out; omega)
        omega
      have hpar := lv10_half (show j < 12 by have := HH12.out; omega)
      have hstep := left10_step (sum := sum) HS.out HH12.out ht HTI.out htl (by rw [HSU.out, HU.out])
      have htk : t % 2 = k % 2 := by have := HK.out; omega
      rcases (show k % 2 = 1 ∨ k % 2 = 0 by omega) with hm | hm
      · have hst := hstep.1 (by omega)
        rw [← HK.out, HU.out] at hst
        have hm1 : (k : Int) % 2 = 1 := by omega
        have hm2 : (k : Int).tmod 2 = 1 := by rw [Int.tmod_eq_emod_of_nonneg (by omega)]; exact hm1
        obtain ⟨p, hp⟩ : ∃ p, k - 1 = p := ⟨_, rfl⟩
        have hwp : IntKind.i64.wrap ((k : Int) - 1) = (p : Int) := by rw [IntKind.wrap_i64]; omega
        have hc := HT.out.sum (show p < 8192 by omega)
        rw [hp] at hst
        obtain ⟨x, hx⟩ : ∃ x, S p = x := ⟨_, rfl⟩
        rw [hx] at hc hst
        obtain ⟨z, hz⟩ : ∃ z, sum + x = z := ⟨_, rfl⟩
        have hwz : IntKind.u64.wrap ((sum : Int) + (x : Int)) = (z : Int) := by rw [IntKind.wrap_u64]; omega
        rw [hz] at hst
        have HST := Lib.hid hst
        have p0 : (0 : Int) ≤ (p : Int) := by omega
        have p1 : (p : Int) < 8192 := by omega
        clear hst hstep hpar htk htl hq hm hp hx hz
        go_wp2_with fail
        go_roundw
        case rel => exact ⟨j + 1, q, _, z, rfl, rfl, by omega, by omega, HQ, Lib.hid rfl, HST, by first | trivial | rfl⟩
        case measure => simp [intOf]; omega
      · have hst := hstep.2 (by omega)
        rw [HU.out] at hst
        have hm1 : (k : Int) % 2 = 0 := by omega
        have hm2 : (k : Int).tmod 2 = 0 := by rw [Int.tmod_eq_emod_of_nonneg (by omega)]; exact hm1
        have HST := Lib.hid hst
        clear hst hstep hpar htk htl hq hm
        go_wp2_with fail
        go_roundw
        case rel => exact ⟨j + 1, q, _, sum, rfl, rfl, by omega, by omega, HQ, Lib.hid rfl, HST, by first | trivial | rfl⟩
        case measure => simp [intOf]; omega
    · obtain rfl : j = H := by omega
      have ht0 : t = 0 := by rw [HTI.out]; exact Nat.div_eq_of_lt HIH.out
      have hkr : k = r := by
        have h1 := HK.out
        rw [ht0, ← HRL.out] at h1
        omega
      have hsu : sum = u := by
        have h1 := HSU.out
        rw [ht0, Nat.zero_mul, up9_zero] at h1
        omega
      subst hkr hsu
      go_wp2_with fail
      go_ret
      exact ⟨rfl, rfl⟩

set_option maxHeartbeats 1000000 in
theorem ahead10_any {g n s : Nat} {S : Nat → Nat} {xs : List Nat} (i : Int) (w : World) (h : Tr w g n s S) (hg : Good10 S n xs) :
    Calls Try.prog 18 #[.pointer (some ⟨g, 0, none⟩), .int .i64 i] w fun e w' => e = .returned (.int .u64 ((up9 xs i.toNat : Nat) : Int)) ∧ w.grownBy w' none := by
  by_cases h1 : i ≤ 0
  · obtain ⟨m, hm⟩ : ∃ m, i.toNat = m := ⟨_, rfl⟩
    obtain rfl : m = 0 := by omega
    rw [hm, up9_zero]
    clear h hg hm
    go_enter Try.func18, Try.ntmps18
    go_wp2_with fail
    go_ret
    exact ⟨rfl, World.grownBy.refl _ _⟩
  · have HL := Lib.hid (len10_any w h)
    by_cases h2 : (n : Int) ≤ i
    · have HT := total10_any w h hg.one hg.many
      rw [hg.root, show up9 xs n = up9 xs i.toNat by rw [up9_out (m := i.toNat) (by rw [hg.len]; omega), hg.len]] at HT
      have HT2 := Lib.hid HT
      generalize up9 xs i.toNat = u at HT2 ⊢
      clear h hg HT
      go_enter Try.func18, Try.ntmps18
      go_wp2_with fail
      refine HL.out.mono ?_
      rintro e w1 ⟨rfl, rfl⟩
      go_wp2_with fail
      refine HT2.out.mono ?_
      rintro e w2 ⟨rfl, hb2⟩
      go_wp2_with fail
      go_ret
      exact ⟨rfl, hb2⟩
    · obtain ⟨m, hm⟩ : ∃ m, i.toNat = m := ⟨_, rfl⟩
      obtain rfl : i = (m : Int) := by omega
      rw [hm]
      have HF := Lib.hid (left10_any m w h hg (by omega))
      have hm1 : ¬ (m : Int) ≤ 0 := h1
      have hn := hg.many
      obtain ⟨k, hk⟩ : ∃ k, 4096 + m = k := ⟨_, rfl⟩
      have hw : IntKind.i64.wrap (4096 + (m : Int)) = (k : Int) := by rw [IntKind.wrap_i64]; omega
      rw [hk] at HF
      generalize up9 xs m = u at HF ⊢
      clear h hg hm hk
      go_enter Try.func18, Try.ntmps18
      go_wp2_with fail
      refine HL.out.mono ?_
      rintro e w1 ⟨rfl, rfl⟩
      go_wp2_with fail
      refine HF.out.mono ?_
      rintro e w2 ⟨rfl, rfl⟩
      go_wp2_with fail
      go_ret
      exact ⟨rfl, World.grownBy.refl _ _⟩
theorem find10_no {g n s r : Nat} {S : Nat → Nat} {xs : List Nat} (w : World) (h : Tr w g n s S) (hg : Good10 S n xs) (hr : up9 xs n ≤ r) :
    Calls Try.prog 12 #[.pointer (some ⟨g, 0, none⟩), .int .u64 (r : Int)] w fun e w' => e = .returned (.tuple #[.int .i64 (-1), .bool false]) ∧ w.grownBy w' none := by
  have HT := total10_any w h hg.one hg.many
  rw [hg.root] at HT
  have HT2 := Lib.hid HT
  generalize up9 xs n = u at HT2 hr
  have hi1 : (u : Int) ≤ (r : Int) := by omega
  clear h hg HT hr
  go_enter Try.func12, Try.ntmps12
  go_wp2_with fail
  refine HT2.out.mono ?_
  rintro e w1 ⟨rfl, hb1⟩
  go_wp2_with fail
  go_ret2
  exact ⟨rfl, hb1⟩

set_option maxHeartbeats 2000000 in
theorem find10_yes {g n s r m : Nat} {S : Nat → Nat} {xs : List Nat} (w : World) (h : Tr w g n s S) (hg : Good10 S n xs) (hp : Pk9 xs r m) :
    Calls Try.prog 12 #[.pointer (some ⟨g, 0, none⟩), .int .u64 (r : Int)] w fun e w' => e = .returned (.tuple #[.int .i64 (m : Int), .bool true]) ∧ Tr w' g n (hgt10 n + 1) S ∧ w.grownBy w' (some g) := by
  have hn := hg.many
  have hr := hp.below
  rw [hg.len] at hr
  have hr64 := hg.fits
  have HT := total10_any w h hg.one hn
  rw [hg.root] at HT
  have HT2 := Lib.hid HT
  have HTR := Lib.hid h
  have HP := Lib.hid hp
  have HLEN := Lib.hid hg.len
  have HR : Hid (∀ W, w.grownBy W none → Calls Try.prog 28 #[.pointer (some ⟨g, 0, none⟩)] W fun e w' => e = .returned (.int .i64 ((rt10 n : Nat) : Int)) ∧ w' = W) := Lib.hid (fun W hb => root10_any W (h.quiet hb) hg.one hn)
  have HH12 : Hid (hgt10 n ≤ 12) := Lib.hid (hgt10_le hn)
  have HRL : Hid (rt10 n = lv10 (hgt10 n)) := Lib.hid rfl
  have HS := Lib.hid hg.sums
  have HTOP : Hid (r < up9 xs ((0 + 1) * 2 ^ hgt10 n)) := Lib.hid (by
    have h2 := hgt10_up hg.one hn
    have h4 := up9_out (xs := xs) (m := 2 ^ hgt10 n) (by rw [hg.len]; exact h2)
    rw [hg.len] at h4
    rw [Nat.zero_add, Nat.one_mul]
    omega)
  obtain ⟨H, hH⟩ : ∃ H, hgt10 n = H := ⟨_, rfl⟩
  rw [hH] at HH12 HRL HS HTOP ⊢
  have hH12 := HH12.out
  obtain ⟨Y, hY⟩ : ∃ Y, H + 1 = Y := ⟨_, rfl⟩
  rw [hY]
  obtain ⟨k0, hk0⟩ : ∃ k0, rt10 n = k0 := ⟨_, rfl⟩
  rw [hk0] at HR HRL
  obtain ⟨u, hu⟩ : ∃ u, up9 xs n = u := ⟨_, rfl⟩
  rw [hu] at HT2 hr hr64
  have hi1 : ¬ (u : Int) ≤ (r : Int) := by omega
  have hr2 : r < 18446744073709551616 := by omega
  have hk08 : k0 ≤ 4096 := by rw [← hk0]; exact rt10_le n
  clear h hg HT hr hr64 hp hH hk0 hu
  go_enter Try.func12, Try.ntmps12
  go_wp2_with fail
  refine HT2.out.mono ?_
  rintro e w1 ⟨rfl, hb1⟩
  have HB1 := Lib.hid hb1
  have HR1 := Lib.hid (HR.out w1 hb1)
  clear hb1 HR
  go_wp2_with fail
  refine HR1.out.mono ?_
  rintro e w2 ⟨rfl, rfl⟩
  go_wp2_with fail
  go_loopw [1, 6, 7] (fun rv kv dv wr => ∃ (j k t q d : Nat), rv = .int .u64 (q : Int) ∧ kv = .int .i64 (k : Int) ∧ dv = .int .i64 (d : Int) ∧ q < 18446744073709551616 ∧ k ≤ 8191 ∧ j ≤ H ∧ d + j = Y ∧ Hid (k = lv10 j + t) ∧ Hid (t < lv10 j) ∧ Hid (q + up9 xs (t * 2 ^ j) = r) ∧ Hid (r < up9 xs ((t + 1) * 2 ^ j)) ∧ wr = w2) (fun _ kv _ _ => 8192 - (intOf kv).toNat)
  case atStart => exact ⟨H, k0, 0, r, 1, rfl, rfl, rfl, hr2, by omega, by omega, by omega, Lib.hid (by rw [Nat.add_zero]; exact HRL.out), Lib.hid (lv10_pos HH12.out), Lib.hid (by rw [Nat.zero_mul, up9_zero, Nat.add_zero]), HTOP, rfl⟩
  case round =>
    obtain ⟨j, k, t, q, d, rfl, rfl, rfl, hq, hk8, hj, hd, HK, HTL, HLO, HUP, rfl⟩ := hrel
    by_cases h0 : j = 0
    · subst h0
      have h1 := HK.out
      have h2 := HTL.out
      rw [lv10_zero] at h1 h2
      have h3 := HUP.out
      have h4 := HLO.out
      rw [Nat.pow_zero, Nat.mul_one] at h3 h4
      have htn : t < xs.length := by
        rcases Nat.lt_or_ge t xs.length with h5 | h5
        · exact h5
        · have h6 := nth_out h5
          rw [up9_succ] at h3
          omega
      obtain rfl : m = t := HP.out.one ⟨htn, by omega, h3⟩
      have hk4 : ¬ (k : Int) < 4096 := by omega
      have hwm : IntKind.i64.wrap ((k : Int) - 4096) = (m : Int) := by rw [IntKind.wrap_i64]; omega
      have ht2 := HTR.out.quiet HB1.out
      have cs := ht2.steps
      have fs := ht2.frozen 8193
      obtain rfl : d = Y := by omega
      have HT3 := Lib.hid (ht2.setSteps d)
      have HB3 := Lib.hid ((grown7_more (r := some g) HB1.out).trans (grown7_set wr g 8193 (.int .i64 ((d : Nat) : Int))))
      clear h1 h2 h3 h4 htn ht2
      go_wp2_with fail
      go_ret2
      exact ⟨rfl, HT3.out, HB3.out⟩
    · obtain ⟨j1, rfl⟩ : ∃ j1, j = j1 + 1 := ⟨j - 1, by omega⟩
      have e := lv10_half (show j1 < 12 by have := HH12.out; omega)
      have h1 := HK.out
      have h2 := HTL.out
      have h3 := HUP.out
      have h4 := HLO.out
      rw [mul_two10] at h3 h4
      have h5 := HS.out j1 (by omega) (2 * t) (by omega)
      have h6 := lv10_far (show 0 < j1 + 1 by omega) (show j1 + 1 ≤ 12 by have := HH12.out; omega)
      rw [lv10_zero] at h6
      have hk4 : (k : Int) < 4096 := by omega
      obtain ⟨a, ha⟩ : ∃ a, 2 * k = a := ⟨_, rfl⟩
      have hwa : IntKind.i64.wrap ((k : Int) * 2) = (a : Int) := by rw [IntKind.wrap_i64]; omega
      have hae : a = lv10 j1 + 2 * t := by omega
      rw [← hae] at h5
      have hc := (HTR.out.quiet HB1.out).sum (show a < 8192 by omega)
      obtain ⟨x, hx⟩ : ∃ x, S a = x := ⟨_, rfl⟩
      rw [hx] at hc h5
      have a0 : (0 : Int) ≤ (a : Int) := by omega
      have a1 : (a : Int) < 8192 := by omega
      by_cases hlt : q < x
      · have hnl : ¬ (x : Int) ≤ (q : Int) := by omega
        have HK2 : Hid (a = lv10 j1 + 2 * t) := Lib.hid hae
        have HTL2 : Hid (2 * t < lv10 j1) := Lib.hid (by omega)
        have HLO2 : Hid (q + up9 xs (2 * t * 2 ^ j1) = r) := Lib.hid h4
        have HUP2 : Hid (r < up9 xs ((2 * t + 1) * 2 ^ j1)) := Lib.hid (by omega)
        have hka : k < a := by have := lv10_pos (show j1 + 1 ≤ 12 by have := HH12.out; omega); omega
        clear e h1 h2 h3 h4 h5 h6 hae hx ha
        go_wp2_with fail
        go_roundw
        case rel => exact ⟨j1, a, 2 * t, q, d + 1, rfl, rfl, by go_num, hq, by omega, by omega, by omega, HK2, HTL2, HLO2, HUP2, by first | trivial | rfl⟩
        case measure => simp [intOf]; omega
      · have hnl : (x : Int) ≤ (q : Int) := by omega
        obtain ⟨p, hp⟩ : ∃ p, q - x = p := ⟨_, rfl⟩
        have hwp : IntKind.u64.wrap ((q : Int) - (x : Int)) = (p : Int) := by rw [IntKind.wrap_u64]; omega
        have HK2 : Hid (a + 1 = lv10 j1 + (2 * t + 1)) := Lib.hid (by omega)
        have HTL2 : Hid (2 * t + 1 < lv10 j1) := Lib.hid (by omega)
        have HLO2 : Hid (p + up9 xs ((2 * t + 1) * 2 ^ j1) = r) := Lib.hid (by omega)
        have HUP2 : Hid (r < up9 xs ((2 * t + 1 + 1) * 2 ^ j1)) := Lib.hid (by rw [show 2 * t + 1 + 1 = 2 * (t + 1) by omega, ← mul_two10]; exact HUP.out)
        have hka : k < a := by have := lv10_pos (show j1 + 1 ≤ 12 by have := HH12.out; omega); omega
        have hp64 : p < 18446744073709551616 := by omega
        have ha1 : a + 1 ≤ 8191 := by omega
        clear e h1 h2 h3 h4 h5 h6 hae hx ha hp
        go_wp2_with fail
        go_roundw
        case rel => exact ⟨j1, a + 1, 2 * t + 1, p, d + 1, rfl, by go_num, by go_num, hp64, ha1, by omega, by omega, HK2, HTL2, HLO2, HUP2, by first | trivial | rfl⟩
        case measure => simp [intOf]; omega
end Go.Proofs.Ytodbmpbhjbknlaa
