/-
  A tree of sums: All; Grow.
-/
import Derived.Test.YtodbmpbhjbknlaaTreeE
namespace Go.Proofs.Ytodbmpbhjbknlaa
open Go.RowKit
set_option maxRecDepth 100000

theorem Tr.read {w : World} {g n s : Nat} {S : Nat → Nat} {xs : List Nat} (h : Tr w g n s S) (hg : Good10 S n xs) : Rq w w.heap.size (some ⟨g, 4096, none⟩) xs := by
  intro hx
  refine ⟨g, 4096, rfl, h.lt, fun k v hk => ?_⟩
  have hkl : k < xs.length := by
    have := (List.getElem?_eq_some_iff.1 hk).1
    rwa [wds_length] at this
  have hn := hg.many
  have hl := hg.len
  rw [wds_get hkl] at hk
  injection hk with hk
  rw [← hk, ← hg.leaf (show k < 4096 by omega)]
  exact h.sum (by omega)

set_option maxHeartbeats 1000000 in
theorem all10_any {g n s : Nat} {S : Nat → Nat} {xs : List Nat} (w : World) (h : Tr w g n s S) (hg : Good10 S n xs) : Calls Try.prog 19 #[.pointer (some ⟨g, 0, none⟩)] w (RetQ w.heap.size w xs) := by
  have hn := hg.many
  have HT := Lib.hid h
  have HG := Lib.hid hg
  have HW := Lib.hid (weights10_any w h hn)
  clear h hg
  go_enter Try.func19, Try.ntmps19
  go_wp2_with fail
  refine HW.out.mono ?_
  rintro e w1 ⟨rfl, hb1⟩
  have HB1 := Lib.hid hb1
  have HC := Lib.hid (clone64_any (some ⟨g, 4096, none⟩) xs n 4096 w1 HG.out.len ((HT.out.quiet hb1).read HG.out) (by omega))
  clear hb1 HW
  go_wp2_with fail
  refine HC.out.mono ?_
  rintro e w2 ⟨A, n2, c, rfl, hl2, hc2, hown2, hb2⟩
  have HO := Lib.hid hown2
  have HL := Lib.hid hl2
  have HB2 := Lib.hid ((grown7_below HB1.out).trans (hb2.mono HB1.out.size))
  have hs1 := HB1.out.size
  clear hown2 hl2 hb2 HC
  go_wp2_with fail
  go_ret
  exact ⟨A, n2, c, rfl, HL.out, hc2, own7_base HO.out hs1, HB2.out⟩

theorem hgt10_mono {n m : Nat} (h1 : 1 ≤ n) (h2 : n ≤ m) (h3 : m ≤ 4096) : hgt10 n ≤ hgt10 m := by
  rcases hgt10_dn h1 (show n ≤ 4096 by omega) with h | h
  · omega
  · have h4 := hgt10_up (show 1 ≤ m by omega) h3
    have h5 : 2 ^ (hgt10 n - 1) < 2 ^ hgt10 m := by omega
    have h6 := (Nat.pow_lt_pow_iff_right (show 1 < 2 by decide)).1 h5
    omega
/-- More places, of the weight 0. -/
def more10 (xs : List Nat) (m : Nat) : List Nat := xs ++ List.replicate (m - xs.length) 0
theorem more10_length {xs : List Nat} {m : Nat} (h : xs.length ≤ m) : (more10 xs m).length = m := by simp [more10]; omega
theorem more10_nth (xs : List Nat) (m k : Nat) : nth (more10 xs m) k = nth xs k := by
  unfold nth more10
  rw [List.getD_eq_getElem?_getD, List.getD_eq_getElem?_getD]
  rcases Nat.lt_or_ge k xs.length with h | h
  · rw [List.getElem?_append_left h]
  · rw [List.getElem?_append_right h, List.getElem?_replicate, List.getElem?_eq_none h]
    split <;> rfl
theorem more10_up (xs : List Nat) (m k : Nat) : up9 (more10 xs m) k = up9 xs k := up9_congr (fun j _ => more10_nth xs m j)

/-- On the way up from an elder root: all levels up to j are right, and below them in the row nothing lies. -/
def Up10 (S : Nat → Nat) (xs : List Nat) (j : Nat) : Prop := (∀ a, a ≤ j → Lev10 S xs a) ∧ ∀ k, k < lv10 j → S k = 0
theorem Up10.two {S : Nat → Nat} {xs : List Nat} {j : Nat} (hj : j < 12) (h : Up10 S xs j) : S (2 * lv10 (j + 1)) + S (2 * lv10 (j + 1) + 1) = up9 xs (2 ^ (j + 1)) := by
  have h1 := Lev10.two (S := S) (xs := xs) (a := j) (t := 0) hj (lv10_pos (by omega)) (fun u hu _ => h.1 j (Nat.le_refl _) u hu)
  rw [Nat.add_zero, Nat.zero_mul, up9_zero, Nat.zero_add, Nat.one_mul, Nat.add_zero] at h1
  exact h1
theorem Up10.next {S : Nat → Nat} {xs : List Nat} {j k : Nat} (hj : j < 12) (h : Up10 S xs j) (hn : xs.length ≤ 2 ^ (j + 1)) (hk : k = lv10 (j + 1)) : Up10 (upd10 S k (S (2 * k) + S (2 * k + 1))) xs (j + 1) := by
  subst hk
  have hh := lv10_half hj
  have hp := lv10_pos (show j + 1 ≤ 12 by omega)
  refine ⟨fun a ha t ht => ?_, fun k hk => ?_⟩
  · rcases (show a ≤ j ∨ a = j + 1 by omega) with h1 | rfl
    · have h2 : lv10 j ≤ lv10 a := by
        rcases (show a < j ∨ a = j by omega) with h3 | rfl
        · have := lv10_far h3 (show j ≤ 12 by omega)
          omega
        · exact Nat.le_refl _
      rw [upd10_other S _ (by omega)]
      exact h.1 a h1 t ht
    · by_cases h0 : t = 0
      · subst h0
        rw [show lv10 (j + 1) + 0 = lv10 (j + 1) from rfl, upd10_self, h.two hj, Nat.zero_mul, up9_zero, Nat.zero_add, Nat.one_mul, Nat.add_zero]
      · rw [upd10_other S _ (by omega), h.2 _ (by omega), Nat.zero_add]
        have h2 : 2 ^ (j + 1) ≤ t * 2 ^ (j + 1) := by
          have := Nat.mul_le_mul_right (2 ^ (j + 1)) (show 1 ≤ t by omega)
          omega
        have h3 : t * 2 ^ (j + 1) ≤ (t + 1) * 2 ^ (j + 1) := Nat.mul_le_mul_right _ (by omega)
        rw [up9_out (m := t * 2 ^ (j + 1)) (by omega), up9_out (m := (t + 1) * 2 ^ (j + 1)) (by omega)]
  · rw [upd10_other S _ (by omega)]
    exact h.2 k (by omega)

theorem grow10_no {g n s : Nat} {S : Nat → Nat} (m : Int) (w : World) (h : Tr w g n s S) (hm : m < (n : Int) ∨ 4096 < m) :
    Calls Try.prog 14 #[.pointer (some ⟨g, 0, none⟩), .int .i64 m] w fun e w' => e = .returned (.int .i64 1) ∧ w' = w := by
  have hc := h.places
  clear h
  by_cases h1 : m < (n : Int)
  · clear hm
    go_enter Try.func14, Try.ntmps14
    go_wp2_with fail
    go_ret
    exact ⟨rfl, rfl⟩
  · have h2 : 4096 < m := by omega
    clear hm
    go_enter Try.func14, Try.ntmps14
    go_wp2_with fail
    go_ret
    exact ⟨rfl, rfl⟩

set_option maxHeartbeats 2000000 in
theorem grow10_ok {g n s : Nat} {S : Nat → Nat} {xs : List Nat} (m : Nat) (w : World) (h : Tr w g n s S) (hg : Good10 S n xs) (hm : n ≤ m) (hm2 : m ≤ 4096) :
    Calls Try.prog 14 #[.pointer (some ⟨g, 0, none⟩), .int .i64 (m : Int)] w fun e w' =>
      e = .returned (.int .i64 0) ∧ (∃ S', Tr w' g m s S' ∧ Good10 S' m (more10 xs m)) ∧ w.grownBy w' (some g) := by
  have hn := hg.many
  have HG := Lib.hid hg
  have HR := Lib.hid (root10_any w h hg.one hn)
  have c0 := h.places
  have f0 := h.frozen 8192
  have ht1 := h.setPlaces m
  have HT1 := Lib.hid ht1
  have HR2 := Lib.hid (root10_any _ ht1 (by have := hg.one; omega) hm2)
  have HB1 := Lib.hid (grown7_set w g 8192 (.int .i64 (m : Int)))
  have HU1 : Hid (Up10 S xs (hgt10 n)) := Lib.hid ⟨hg.sums, hg.rest⟩
  have HMONO := Lib.hid (hgt10_mono hg.one hm hm2)
  have HUPN : Hid (n ≤ 2 ^ hgt10 n) := Lib.hid (hgt10_up hg.one hn)
  have hK12 := hgt10_le hm2
  have HRL : Hid (rt10 n = lv10 (hgt10 n)) := Lib.hid rfl
  have HRK : Hid (rt10 m = lv10 (hgt10 m)) := Lib.hid rfl
  obtain ⟨H, hH⟩ : ∃ H, hgt10 n = H := ⟨_, rfl⟩
  obtain ⟨K, hK⟩ : ∃ K, hgt10 m = K := ⟨_, rfl⟩
  have HKE := Lib.hid hK
  rw [hH] at HU1 HMONO HUPN HRL
  rw [hK] at HMONO HRK hK12
  obtain ⟨r, hr⟩ : ∃ r, rt10 n = r := ⟨_, rfl⟩
  obtain ⟨q, hq⟩ : ∃ q, rt10 m = q := ⟨_, rfl⟩
  have HQE := Lib.hid hq
  have hr4 : r ≤ 4096 := by rw [← hr]; exact rt10_le n
  have hq1 : 1 ≤ q := by rw [← hq]; exact rt10_pos hm2
  rw [hr] at HR HRL
  rw [hq] at HR2 HRK
  obtain ⟨b, hb⟩ : ∃ b, r / 2 = b := ⟨_, rfl⟩
  have hd1 : (r : Int) / 2 = (b : Int) := by omega
  have hd2 : (r : Int).tdiv 2 = (b : Int) := by rw [Int.tdiv_eq_ediv_of_nonneg (by omega)]; exact hd1
  have hd3 : IntKind.i64.wrap (b : Int) = (b : Int) := by rw [IntKind.wrap_i64]; omega
  have HBB : Hid (b = lv10 H / 2) := Lib.hid (by rw [← hb, HRL.out])
  have hb4 : b ≤ 4096 := by omega
  have hi1 : ¬ (m : Int) < (n : Int) := by omega
  have hi2 : ¬ 4096 < (m : Int) := by omega
  clear h hg ht1 hH hK hr hq hb
  go_enter Try.func14, Try.ntmps14
  go_wp2_with fail
  refine HR.out.mono ?_
  rintro e w1 ⟨rfl, rfl⟩
  clear HR
  go_wp2_with fail
  refine HR2.out.mono ?_
  rintro e w2 ⟨rfl, rfl⟩
  clear HR2
  go_wp2_with fail
  go_loopw [5] (fun kv wr => ∃ (j k : Nat) (S' : Nat → Nat), kv = .int .i64 (k : Int) ∧ k ≤ 4096 ∧ H ≤ j ∧ j ≤ K ∧ Hid (k = lv10 j / 2) ∧ Hid (Tr wr g m s S') ∧ Hid (Up10 S' xs j) ∧ Hid (w1.grownBy wr (some g))) (fun kv _ => (intOf kv).toNat)
  case atStart => exact ⟨H, b, S, rfl, hb4, by omega, HMONO.out, HBB, HT1, HU1, HB1⟩
  case round =>
    obtain ⟨j, k, S', rfl, hk4, hHj, hj, HK, HT, HU, HB⟩ := hrel
    by_cases ht : j < K
    · have hh := lv10_half (show j < 12 by omega)
      have HKL : Hid (k = lv10 (j + 1)) := Lib.hid (by have := HK.out; omega)
      have hqk : (q : Int) ≤ (k : Int) := by
        have h1 := HKL.out
        have h2 := HRK.out
        rcases (show j + 1 < K ∨ j + 1 = K by omega) with h3 | h3
        · have := lv10_far h3 hK12
          omega
        · rw [h3] at h1
          omega
      have hkr : 1 ≤ k ∧ k < 4096 := by
        have h1 := HKL.out
        have h2 := lv10_le j
        omega
      have htwo := HU.out.two (show j < 12 by omega)
      rw [← HKL.out] at htwo
      have hfit : S' (2 * k) + S' (2 * k + 1) < 18446744073709551616 := by
        have h1 := up9_all (xs := xs) (2 ^ (j + 1))
        have h2 := HG.out.fits
        have h3 := HG.out.len
        rw [h3] at h1
        omega
      have HA := Lib.hid (add10_any k wr HT.out hkr.1 hkr.2 hfit)
      have HU2 := Lib.hid (HU.out.next (show j < 12 by omega) (by
        have h1 := HUPN.out
        have h2 := HG.out.len
        have h3 : 2 ^ H ≤ 2 ^ (j + 1) := Nat.pow_le_pow_right (by decide) (by omega)
        omega) HKL.out)
      obtain ⟨d, hd⟩ : ∃ d, k / 2 = d := ⟨_, rfl⟩
      have hdd1 : (k : Int) / 2 = (d : Int) := by omega
      have hdd2 : (k : Int).tdiv 2 = (d : Int) := by rw [Int.tdiv_eq_ediv_of_nonneg (by omega)]; exact hdd1
      have hdd3 : IntKind.i64.wrap (d : Int) = (d : Int) := by rw [IntKind.wrap_i64]; omega
      have HD : Hid (d = lv10 (j + 1) / 2) := Lib.hid (by rw [← hd, HKL.out])
      have hdk : d < k := by omega
      have hk0 := hkr.1
      clear hh hkr htwo hfit hd HU HT HK HKL
      go_wp2_with fail
      refine HA.out.mono ?_
      rintro e w3 ⟨rfl, ht3, hb3⟩
      have HT3 := Lib.hid ht3
      have HB3 := Lib.hid (HB.out.trans hb3)
      clear ht3 hb3 HA HB
      go_wp2_with fail
      go_roundw
      case rel => exact ⟨j + 1, d, _, rfl, by omega, by omega, by omega, HD, HT3, HU2, HB3⟩
      case measure => simp [intOf]; omega
    · obtain rfl : j = K := by omega
      have hkq : ¬ (q : Int) ≤ (k : Int) := by
        have h1 := HK.out
        have h2 := HRK.out
        omega
      go_wp2_with fail
      go_ret
      refine ⟨rfl, ⟨S', HT.out, ⟨by have := HG.out.one; omega, hm2, more10_length (by rw [HG.out.len]; exact hm), ?_, fun a ha t hta => ?_, fun k hk => ?_⟩⟩, HB.out⟩
      · have h1 := up9_all (xs := xs) m
        have h2 := HG.out.fits
        have h3 := HG.out.len
        rw [h3] at h1
        rw [more10_up]
        omega
      · rw [more10_up, more10_up]
        exact HU.out.1 a (by rw [← HKE.out]; exact ha) t hta
      · exact HU.out.2 k (by rw [← HKE.out]; exact hk)
end Go.Proofs.Ytodbmpbhjbknlaa
