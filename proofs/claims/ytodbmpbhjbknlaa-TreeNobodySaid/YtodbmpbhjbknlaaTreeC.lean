/-
  A tree of sums: a weight is written, and all sums above it; Set.
-/
import Derived.Test.YtodbmpbhjbknlaaTreeM
namespace Go.Proofs.Ytodbmpbhjbknlaa
open Go.RowKit
set_option maxRecDepth 100000

theorem lv10_rt {n j : Nat} (h2 : n ≤ 4096) (hj : j < hgt10 n) : rt10 n < lv10 j := by
  have h3 := hgt10_le h2
  have h4 := lv10_far hj h3
  have h5 := lv10_pos h3
  rw [rt10_lv]
  omega
theorem lv10_rt2 {n j : Nat} (h2 : n ≤ 4096) (hj : j ≤ hgt10 n) : rt10 n ≤ lv10 j := by
  rcases (show j < hgt10 n ∨ j = hgt10 n by omega) with h | rfl
  · exact Nat.le_of_lt (lv10_rt h2 h)
  · exact Nat.le_refl _

set_option maxHeartbeats 2000000 in
theorem write10_any {g n s : Nat} {S : Nat → Nat} {xs : List Nat} (i v : Nat) (w : World) (h : Tr w g n s S) (hg : Good10 S n xs) (hi : i < n) (hf : up9 (put10 xs i v) n < 18446744073709551616) :
    Calls Try.prog 31 #[.pointer (some ⟨g, 0, none⟩), .int .i64 (i : Int), .int .u64 (v : Int)] w fun e w' =>
      e = .returned (.tuple #[]) ∧ (∃ S', Tr w' g n (hgt10 n + 1) S' ∧ Good10 S' n (put10 xs i v)) ∧ w.grownBy w' (some g) := by
  have hn := hg.many
  have hi4 : i < 4096 := by omega
  have HG := Lib.hid hg
  have HF := Lib.hid hf
  have HR := Lib.hid (root10_any w h hg.one hn)
  have c0 := h.sum (show 4096 + i < 8192 by omega)
  have f0 := h.frozen (4096 + i)
  have ht1 := h.put (show 4096 + i < 8192 by omega) v
  have ht2 := ht1.setSteps 1
  have c1 := ht1.steps
  have f1 := ht1.frozen 8193
  have hw1 := way10_leaf (v := v) (hgt10_le hn) (show i < xs.length by rw [hg.len]; exact hi) hi4 hg.sums
  have HZ1 : Hid (∀ k, k < rt10 n → upd10 S (4096 + i) v k = 0) := Lib.hid (fun k hk => by rw [upd10_other S v (by have := rt10_le n; omega)]; exact hg.rest k hk)
  have hb1 : w.grownBy ((w.setCell ⟨g, 4096 + i, none⟩ (.int .u64 (v : Int))).setCell ⟨g, 8193, none⟩ (.int .i64 1)) (some g) := (grown7_set w g _ _).trans (grown7_set _ g _ _)
  have HIH : Hid (i < 2 ^ hgt10 n) := Lib.hid (Nat.lt_of_lt_of_le hi (hgt10_up hg.one hn))
  have HH12 : Hid (hgt10 n ≤ 12) := Lib.hid (hgt10_le hn)
  have HLR : Hid (∀ j, j < hgt10 n → rt10 n < lv10 j) := Lib.hid (fun j hj => lv10_rt hn hj)
  have HRL : Hid (rt10 n = lv10 (hgt10 n)) := Lib.hid rfl
  obtain ⟨H, hH⟩ : ∃ H, hgt10 n = H := ⟨_, rfl⟩
  have HHE := Lib.hid hH
  rw [hH] at HIH HH12 HLR HRL hw1 ⊢
  obtain ⟨r, hr⟩ : ∃ r, rt10 n = r := ⟨_, rfl⟩
  have HRE := Lib.hid hr
  have hr1 : 1 ≤ r := by rw [← hr]; exact rt10_pos hn
  rw [hr] at HR HZ1 HLR HRL
  obtain ⟨ys, hys⟩ : ∃ ys, put10 xs i v = ys := ⟨_, rfl⟩
  have HYS := Lib.hid hys
  rw [hys] at HF hw1 ⊢
  have HT2 := Lib.hid ht2
  have HW1 := Lib.hid hw1
  have HB1 := Lib.hid hb1
  obtain ⟨k0, hk0⟩ : ∃ k0, 4096 + i = k0 := ⟨_, rfl⟩
  have hwk : IntKind.i64.wrap (4096 + (i : Int)) = (k0 : Int) := by rw [IntKind.wrap_i64]; omega
  have HK0 : Hid (k0 = lv10 0 + i / 2 ^ 0) := Lib.hid (by rw [lv10_zero, Nat.pow_zero, Nat.div_one]; omega)
  rw [hk0] at c0 f0 c1 f1 HT2 HW1 HZ1 HB1
  have i0 : (0 : Int) ≤ (k0 : Int) := by omega
  have i1 : (k0 : Int) < 8192 := by omega
  clear h hg hi hf ht1 ht2 hw1 hb1 hH hr hys hk0
  go_enter Try.func31, Try.ntmps31
  go_wp2_with fail
  refine HR.out.mono ?_
  rintro e w1 ⟨rfl, rfl⟩
  go_wp2_with fail
  go_loopw [6] (fun kv wr => ∃ (j k : Nat) (S' : Nat → Nat), kv = .int .i64 (k : Int) ∧ k ≤ 8191 ∧ j ≤ H ∧ Hid (k = lv10 j + i / 2 ^ j) ∧ Hid (Tr wr g n (j + 1) S') ∧ Hid (Way10 S' ys H i j) ∧ Hid (∀ k, k < r → S' k = 0) ∧ Hid (w1.grownBy wr (some g))) (fun kv _ => (intOf kv).toNat)
  case atStart => exact ⟨0, k0, _, rfl, by omega, by omega, HK0, HT2, HW1, HZ1, HB1⟩
  case round =>
    obtain ⟨j, k, S', rfl, hk8, hj, HK, HT, HW, HZ, HB⟩ := hrel
    by_cases ht : j < H
    · have hrk : (r : Int) < (k : Int) := by
        have h1 := HLR.out j ht
        have h2 := HK.out
        generalize i / 2 ^ j = t at h2
        omega
      obtain ⟨q, hq⟩ : ∃ q, k / 2 = q := ⟨_, rfl⟩
      have HQ : Hid (q = lv10 (j + 1) + i / 2 ^ (j + 1)) := Lib.hid (by rw [← hq, HK.out]; exact half10 (by have := HH12.out; omega))
      have hd1 : (k : Int) / 2 = (q : Int) := by omega
      have hd2 : (k : Int).tdiv 2 = (q : Int) := by rw [Int.tdiv_eq_ediv_of_nonneg (by omega)]; exact hd1
      have hd3 : IntKind.i64.wrap (q : Int) = (q : Int) := by rw [IntKind.wrap_i64]; omega
      have hq2 : 1 ≤ q ∧ q < 4096 ∧ q < k ∧ r ≤ q := by
        have h1 := HQ.out
        have h2 := lv10_far (show 0 < j + 1 by omega) (show j + 1 ≤ 12 by have := HH12.out; omega)
        have h3 := lv10_in hi4 (show j + 1 ≤ 12 by have := HH12.out; omega)
        have h4 : r ≤ lv10 (j + 1) := by
          rcases (show j + 1 < H ∨ j + 1 = H by omega) with h5 | h5
          · exact Nat.le_of_lt (HLR.out _ h5)
          · rw [h5, ← HRL.out]; exact Nat.le_refl _
        rw [lv10_zero] at h2
        generalize i / 2 ^ (j + 1) = t at h1 h3
        omega
      have hsum := HW.out.two HH12.out ht hi4
      rw [← HQ.out] at hsum
      have hfit : S' (2 * q) + S' (2 * q + 1) < 18446744073709551616 := by
        have h1 := up9_all (xs := ys) ((i / 2 ^ (j + 1) + 1) * 2 ^ (j + 1))
        have h2 := HF.out
        have h3 : ys.length = n := by rw [← HYS.out, put10_length, HG.out.len]
        rw [h3] at h1
        omega
      have HA := Lib.hid (add10_any q wr HT.out hq2.1 hq2.2.1 hfit)
      have HW2 := Lib.hid (HW.out.next HH12.out ht hi4 HQ.out)
      have HZ2 : Hid (∀ k, k < r → upd10 S' q (S' (2 * q) + S' (2 * q + 1)) k = 0) := Lib.hid (fun k hk => by rw [upd10_other _ _ (by omega)]; exact HZ.out k hk)
      have hq8 : q ≤ 8191 := by omega
      have hqk : q < k := hq2.2.2.1
      clear hsum hfit hq hq2 HW HZ HT
      go_wp2_with fail
      refine HA.out.mono ?_
      rintro e w2 ⟨rfl, ht2, hb2⟩
      have cs := ht2.steps
      have fs := ht2.frozen 8193
      have HT3 := Lib.hid (ht2.setSteps (j + 1 + 1))
      have hws : IntKind.i64.wrap (((j + 1 : Nat) : Int) + 1) = ((j + 1 + 1 : Nat) : Int) := by have := HH12.out; rw [IntKind.wrap_i64]; omega
      have HB3 := Lib.hid ((HB.out.trans hb2).trans (grown7_set w2 g 8193 (.int .i64 ((j + 1 + 1 : Nat) : Int))))
      obtain ⟨j1, hj1⟩ : ∃ j1, j + 1 = j1 := ⟨_, rfl⟩
      have HJ1 := Lib.hid hj1
      have hj1H : j1 ≤ H := by omega
      rw [hj1] at cs hws HT3 HB3 HW2 HQ
      obtain ⟨j2, hj2⟩ : ∃ j2, j1 + 1 = j2 := ⟨_, rfl⟩
      have HJ2 := Lib.hid hj2
      rw [hj2] at hws HT3 HB3
      clear ht2 hb2 HA HB hj1 hj2
      go_wp2_with fail
      go_roundw
      case rel => exact ⟨j1, q, _, rfl, hq8, hj1H, HQ, by rw [HJ2.out]; exact HT3, HW2, HZ2, HB3⟩
      case measure => simp [intOf]; omega
    · obtain rfl : j = H := by omega
      have hkr : k = r := by
        have h1 := HK.out
        rw [Nat.div_eq_of_lt HIH.out, ← HRL.out] at h1
        omega
      subst hkr
      go_wp2_with fail
      go_end0
      exact ⟨rfl, ⟨S', HT.out, ⟨HG.out.one, HG.out.many, by rw [← HYS.out, put10_length]; exact HG.out.len, HF.out, by rw [HHE.out]; exact HW.out.done, by rw [HRE.out]; exact HZ.out⟩⟩, HB.out⟩
theorem set10_range {g n s : Nat} {S : Nat → Nat} (i : Int) (v : Nat) (w : World) (h : Tr w g n s S) (hi : i < 0 ∨ (n : Int) ≤ i) :
    Calls Try.prog 13 #[.pointer (some ⟨g, 0, none⟩), .int .i64 i, .int .u64 (v : Int)] w fun e w' => e = .returned (.int .i64 6) ∧ w' = w := by
  have HH := has10_any i w h
  rw [show decide (0 ≤ i ∧ i < (n : Int)) = false from decide_eq_false (by omega)] at HH
  have HH2 := Lib.hid HH
  clear h hi HH
  go_enter Try.func13, Try.ntmps13
  go_wp2_with fail
  refine HH2.out.mono ?_
  rintro e w1 ⟨rfl, rfl⟩
  go_wp2_with fail
  go_ret
  exact ⟨rfl, rfl⟩

set_option maxHeartbeats 1000000 in
theorem set10_over {g n s : Nat} {S : Nat → Nat} {xs : List Nat} (i v : Nat) (w : World) (h : Tr w g n s S) (hg : Good10 S n xs) (hi : i < n) (hv : v < 18446744073709551616) (hf : 18446744073709551616 ≤ up9 (put10 xs i v) n) :
    Calls Try.prog 13 #[.pointer (some ⟨g, 0, none⟩), .int .i64 (i : Int), .int .u64 (v : Int)] w fun e w' => e = .returned (.int .i64 10) ∧ w.grownBy w' none := by
  have HH := has10_any (i : Int) w h
  rw [show decide (0 ≤ (i : Int) ∧ (i : Int) < (n : Int)) = true from decide_eq_true (by omega)] at HH
  have HH2 := Lib.hid HH
  have HT := Lib.hid (total10_any w h hg.one hg.many)
  have HTR := Lib.hid h
  have hn := hg.many
  rw [hg.root] at HT
  have hp := put10_up (m := n) v (show i < xs.length by rw [hg.len]; exact hi) hi
  have hx := nth_le9 (xs := xs) (k := i)
  rw [hg.len] at hx
  have ht64 := hg.fits
  have hlf := hg.leaf (show i < 4096 by omega)
  obtain ⟨x, hxe⟩ : ∃ x, nth xs i = x := ⟨_, rfl⟩
  obtain ⟨t, hte⟩ : ∃ t, up9 xs n = t := ⟨_, rfl⟩
  rw [hxe] at hp hx hlf
  rw [hte] at HT hp hx ht64
  obtain ⟨d, hd⟩ : ∃ d, t - x = d := ⟨_, rfl⟩
  have hws : IntKind.u64.wrap ((t : Int) - (x : Int)) = (d : Int) := by rw [IntKind.wrap_u64]; omega
  have HA : Hid (∀ W, Calls Try.prog 30 #[.int .u64 (d : Int), .int .u64 (v : Int)] W fun e w' => e = .returned (.tuple #[.int .u64 0, .bool false]) ∧ W = w') := Lib.hid (fun W => by
    have := addw_any d v W (by omega) hv
    rw [fw_out (by omega), fb_out (by omega)] at this
    exact this)
  have HLF := Lib.hid hlf
  clear HH h hg hf hp hlf hxe hte hd
  go_enter Try.func13, Try.ntmps13
  go_wp2_with fail
  refine HH2.out.mono ?_
  rintro e w1 ⟨rfl, rfl⟩
  go_wp2_with fail
  refine HT.out.mono ?_
  rintro e w2 ⟨rfl, hb2⟩
  have HGET := get10_yes i w2 (HTR.out.quiet hb2) hi hn
  rw [HLF.out] at HGET
  have HGET2 := Lib.hid HGET
  have HB2 := Lib.hid hb2
  clear HGET hb2
  go_wp2_with fail
  refine HGET2.out.mono ?_
  rintro e w3 ⟨rfl, rfl⟩
  go_wp2_with fail
  refine (HA.out _).mono ?_
  rintro e w4 ⟨rfl, rfl⟩
  go_wp2_with fail
  go_ret
  exact ⟨rfl, HB2.out⟩

set_option maxHeartbeats 1000000 in
theorem set10_ok {g n s : Nat} {S : Nat → Nat} {xs : List Nat} (i v : Nat) (w : World) (h : Tr w g n s S) (hg : Good10 S n xs) (hi : i < n) (hv : v < 18446744073709551616) (hf : up9 (put10 xs i v) n < 18446744073709551616) :
    Calls Try.prog 13 #[.pointer (some ⟨g, 0, none⟩), .int .i64 (i : Int), .int .u64 (v : Int)] w fun e w' =>
      e = .returned (.int .i64 0) ∧ (∃ S', Tr w' g n (hgt10 n + 1) S' ∧ Good10 S' n (put10 xs i v)) ∧ w.grownBy w' (some g) := by
  have HH := has10_any (i : Int) w h
  rw [show decide (0 ≤ (i : Int) ∧ (i : Int) < (n : Int)) = true from decide_eq_true (by omega)] at HH
  have HH2 := Lib.hid HH
  have HT := Lib.hid (total10_any w h hg.one hg.many)
  have HTR := Lib.hid h
  have HG := Lib.hid hg
  have HF := Lib.hid hf
  have hn := hg.many
  rw [hg.root] at HT
  have hp := put10_up (m := n) v (show i < xs.length by rw [hg.len]; exact hi) hi
  have hx := nth_le9 (xs := xs) (k := i)
  rw [hg.len] at hx
  have ht64 := hg.fits
  have hlf := hg.leaf (show i < 4096 by omega)
  obtain ⟨x, hxe⟩ : ∃ x, nth xs i = x := ⟨_, rfl⟩
  obtain ⟨t, hte⟩ : ∃ t, up9 xs n = t := ⟨_, rfl⟩
  rw [hxe] at hp hx hlf
  rw [hte] at HT hp hx ht64
  obtain ⟨d, hd⟩ : ∃ d, t - x = d := ⟨_, rfl⟩
  have hws : IntKind.u64.wrap ((t : Int) - (x : Int)) = (d : Int) := by rw [IntKind.wrap_u64]; omega
  obtain ⟨z, hz⟩ : ∃ z, d + v = z := ⟨_, rfl⟩
  have HA : Hid (∀ W, Calls Try.prog 30 #[.int .u64 (d : Int), .int .u64 (v : Int)] W fun e w' => e = .returned (.tuple #[.int .u64 (z : Int), .bool true]) ∧ W = w') := Lib.hid (fun W => by
    have := addw_any d v W (by omega) hv
    rw [fw_in (by omega), fb_in (by omega), hz] at this
    exact this)
  have HLF := Lib.hid hlf
  clear HH h hg hf hp hlf hxe hte hd hz
  go_enter Try.func13, Try.ntmps13
  go_wp2_with fail
  refine HH2.out.mono ?_
  rintro e w1 ⟨rfl, rfl⟩
  go_wp2_with fail
  refine HT.out.mono ?_
  rintro e w2 ⟨rfl, hb2⟩
  have HGET := get10_yes i w2 (HTR.out.quiet hb2) hi hn
  rw [HLF.out] at HGET
  have HGET2 := Lib.hid HGET
  have HB2 := Lib.hid hb2
  have HWR := Lib.hid (write10_any i v w2 (HTR.out.quiet hb2) HG.out hi HF.out)
  clear HGET hb2
  go_wp2_with fail
  refine HGET2.out.mono ?_
  rintro e w3 ⟨rfl, rfl⟩
  go_wp2_with fail
  refine (HA.out _).mono ?_
  rintro e w4 ⟨rfl, rfl⟩
  go_wp2_with fail
  refine HWR.out.mono ?_
  rintro e w5 ⟨rfl, HS5, hb5⟩
  have HS6 := Lib.hid HS5
  clear HS5
  go_wp2_with fail
  go_ret
  exact ⟨rfl, HS6.out, (grown7_more HB2.out).trans hb5⟩
end Go.Proofs.Ytodbmpbhjbknlaa
