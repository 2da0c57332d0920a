/-
  Package draw of the program: Taken, Tell, Word.
-/
import Derived.Test.YtengcnchjpkhkaaDrawA
namespace Go.Proofs.Ytengcnchjpkhkaa
open Go.RowKit
set_option maxRecDepth 100000

set_option maxHeartbeats 2000000 in
theorem end_any (t : Nat) (w : World) (ht : t < 18446744073709551616) : Calls Try.prog 30 #[.int .u64 (t : Int)] w (RetWide (endN t) w) := by
  have HC := Lib.hid (each_any t (w.alloc (.cells #[.int .u64 0, .int .u64 0] 26)) ht)
  have HRES := Lib.hid (Blk.new w 26 #[.int .u64 0, .int .u64 0])
  have hb0 := b1d w (.cells #[.int .u64 0, .int .u64 0] 26)
  have hend := end_le t
  have hdef : endN t = eachN t * t := rfl
  have HD := Lib.hid (And.intro hend hdef)
  clear hend hdef
  go_enter Try.func30, Try.ntmps30
  go_wp2_with fail
  refine HC.out.mono ?_
  rintro e w1 ⟨H, L, rfl, hE, hH, hL, hb1⟩
  have HE := Lib.hid hE
  have hB1 := hb0.trans (hb1.mono hb0.size)
  have HT := Lib.hid (timesw_any H L t w1 hH hL ht)
  have HRES1 := Lib.hid (HRES.out.below hb1 HRES.out.lt)
  clear hE HC hb0 hb1 HRES
  go_wp2_with fail
  refine HT.out.mono ?_
  rintro e w2 ⟨A, B, ok, rfl, hA, hB, hok, hy, hn, hb2⟩
  have HP : Hid (endN t = A * 18446744073709551616 + B) := Lib.hid (by
    have h1 := HD.out.1
    have h2 := HD.out.2
    rw [← hy (by rw [hok, ← HE.out, ← h2]; simp; omega), h2, HE.out])
  have hB2 := hB1.trans (hb2.mono hB1.size)
  have hres1 := (HRES1.out.below hb2 HRES1.out.lt).alloc (.cells #[.int .u64 (A : Int), .int .u64 (B : Int)] 26)
  have r0 := hres1.cell 0
  have r1 := hres1.cell 1
  have f0 := hres1.frozen 0
  have f1 := hres1.frozen 1
  have hset := (hres1.set_ 0 (.int .u64 (A : Int))).set_ 1 (.int .u64 (B : Int))
  have s0 := hset.cell 0
  have s1 := hset.cell 1
  have g0 := hset.frozen 0
  have g1 := hset.frozen 1
  have hB3 := ((hB2.alloc hB2.size (.cells #[.int .u64 (A : Int), .int .u64 (B : Int)] 26)).setCell (p := ⟨w.heap.size, 0, none⟩) (Nat.le_refl _) (.int .u64 (A : Int))).setCell (p := ⟨w.heap.size, 1, none⟩) (Nat.le_refl _) (.int .u64 (B : Int))
  clear HT hb2 hok hy hn HRES1 hset hres1 HE HD hB1 hB2
  go_wp2_with fail
  exact bodyPost_ret (v := .agg #[.int .u64 (A : Int), .int .u64 (B : Int)]) (by simp [results, Try.results30, go_sem, s0, s1, g0, g1]) rfl
    ⟨A, B, rfl, HP.out, hA, hB, hB3⟩

set_option maxHeartbeats 2000000 in
theorem taken_any (t x : Nat) (w : World) (ht : t < 18446744073709551616) (hx : x < 18446744073709551616) : Calls Try.prog 12 #[.int .u64 (t : Int), .int .u64 (x : Int)] w fun e w' => e = .returned (.bool (decide (x < endN t))) ∧ Below w.heap.size w w' := by
  have HC := Lib.hid (end_any t w ht)
  obtain ⟨n, hn⟩ : ∃ n, endN t = n := ⟨_, rfl⟩
  rw [hn] at HC ⊢
  have hd : decide (cmpN x n < 0) = decide (x < n) := by unfold cmpN; split <;> (try split) <;> simp <;> omega
  obtain ⟨c, hc⟩ : ∃ c, cmpN x n = c := ⟨_, rfl⟩
  rw [hc] at hd
  rw [← hd]
  have HCC := Lib.hid hc
  clear hn hc hd
  go_enter Try.func12, Try.ntmps12
  go_wp2_with fail
  refine HC.out.mono ?_
  rintro e w1 ⟨H, L, rfl, hE, hH, hL, hb1⟩
  have hcmp := cmpw_any 0 x H L w1 hx hL
  rw [Nat.zero_mul, Nat.zero_add, ← hE, Int.natCast_zero, HCC.out] at hcmp
  have HCMP := Lib.hid hcmp
  clear hcmp hE HC
  go_wp2_with fail
  refine HCMP.out.mono ?_
  rintro e w2 ⟨rfl, hb2⟩
  clear HCMP
  go_wp2_with fail
  go_ret
  exact ⟨rfl, hb1.trans (hb2.mono hb1.size)⟩

/-- What a word tells. -/
def tellN (t x : Nat) : Nat := if x < endN t then x % t else 0
theorem tell_pos {t x : Nat} (h : x < endN t) : 0 < t := by
  rcases Nat.eq_zero_or_pos t with rfl | h'
  · rw [end_zero] at h; omega
  · exact h'
set_option maxHeartbeats 2000000 in
theorem tell_any (t x : Nat) (w : World) (ht : t < 18446744073709551616) (hx : x < 18446744073709551616) : Calls Try.prog 6 #[.int .u64 (t : Int), .int .u64 (x : Int)] w fun e w' =>
    e = .returned (.tuple #[.int .u64 ((tellN t x : Nat) : Int), .bool (decide (x < endN t))]) ∧ Below w.heap.size w w' := by
  have HC := Lib.hid (taken_any t x w ht hx)
  by_cases h : x < endN t
  · have hp := tell_pos h
    have ht1 : tellN t x = x % t := if_pos h
    have hd0 : ((t : Int) == 0) = false := by simp; omega
    have hd1 : ¬ (t : Int) = 0 := by omega
    have hd2 : ¬ t = 0 := by omega
    have e1 : (x : Int) % (t : Int) = ((x % t : Nat) : Int) := by simp
    have e1t : (x : Int).tmod (t : Int) = ((x % t : Nat) : Int) := by simp [Int.tmod]
    rw [ht1, decide_eq_true h]
    rw [decide_eq_true h] at HC
    obtain ⟨m, hm⟩ : ∃ m, x % t = m := ⟨_, rfl⟩
    rw [hm] at e1 e1t ⊢
    clear ht1 hm hp h
    go_enter Try.func6, Try.ntmps6
    go_wp2_with fail
    refine HC.out.mono ?_
    rintro e w1 ⟨rfl, hb1⟩
    clear HC
    go_wp2_with fail
    go_ret2
    exact ⟨rfl, hb1⟩
  · rw [show tellN t x = 0 from if_neg h, decide_eq_false h]
    rw [decide_eq_false h] at HC
    clear h
    go_enter Try.func6, Try.ntmps6
    go_wp2_with fail
    refine HC.out.mono ?_
    rintro e w1 ⟨rfl, hb1⟩
    clear HC
    go_wp2_with fail
    go_ret2
    exact ⟨rfl, hb1⟩

/-- The k-th word that tells r. -/
def wordB (t r k : Nat) : Bool := decide (r < t) && decide (k < eachN t)
def wordN (t r k : Nat) : Nat := if wordB t r k then k * t + r else 0
theorem word_fits {t r k : Nat} (h : r < t) (hk : k < eachN t) : k * t + r < endN t := by
  have h1 := Nat.mul_le_mul_right t (show k + 1 ≤ eachN t by omega)
  rw [Nat.add_mul, Nat.one_mul] at h1
  show k * t + r < eachN t * t
  omega

set_option maxHeartbeats 2000000 in
theorem word_dr (t r k : Nat) (w : World) (ht : t < 18446744073709551616) (hr : r < 18446744073709551616) (hk : k < 18446744073709551616) : Calls Try.prog 15 #[.int .u64 (t : Int), .int .u64 (r : Int), .int .u64 (k : Int)] w fun e w' =>
    e = .returned (.tuple #[.int .u64 ((wordN t r k : Nat) : Int), .bool (wordB t r k)]) ∧ Below w.heap.size w w' := by
  by_cases h : r < t
  · have HC := Lib.hid (each_any t w ht)
    have HH := Lib.hid h
    go_enter Try.func15, Try.ntmps15
    go_wp2_with fail
    refine HC.out.mono ?_
    rintro e w1 ⟨H, L, rfl, hE, hH, hL, hb1⟩
    have hcmp := cmpw_any 0 k H L w1 hk hL
    rw [Nat.zero_mul, Nat.zero_add, ← hE, Int.natCast_zero] at hcmp
    have HCMP := Lib.hid hcmp
    clear hcmp hE HC
    by_cases hke : k < eachN t
    · have hwf := word_fits h hke
      have hwe := end_le t
      have hwb : wordB t r k = true := by simp [wordB, h, hke]
      have hwn : wordN t r k = k * t + r := if_pos hwb
      have hc : cmpN k (eachN t) = -1 := by simp [cmpN, hke]
      rw [hc] at HCMP
      have HW := Lib.hid (And.intro hwf (And.intro hwe (And.intro hwb hwn)))
      clear hwf hwe hwb hwn hc hke
      go_wp2_with fail
      refine HCMP.out.mono ?_
      rintro e w2 ⟨rfl, hb2⟩
      have HF := Lib.hid (full_any k t w2 hk ht)
      clear HCMP
      go_wp2_with fail
      refine HF.out.mono ?_
      rintro e w3 ⟨A, B, rfl, hp, hA, hB, hb3⟩
      have hs := sumw_any A B 0 r w3 hA hB (by omega) hr
      rw [Nat.zero_mul, Nat.zero_add, ← hp, Int.natCast_zero] at hs
      have HS := Lib.hid hs
      clear HF hs hp
      go_wp2_with fail
      refine HS.out.mono ?_
      rintro e w4 ⟨C, D, ok, rfl, hC, hD, hok, hy, hn, hb4⟩
      obtain ⟨rfl, hDv⟩ : C = 0 ∧ D = k * t + r := by
        obtain ⟨h1, h2, _, _⟩ := HW.out
        have hok2 : ok = true := by rw [hok]; simp; omega
        have := hy hok2
        omega
      have hfit := fits_any 0 D (w4.alloc (.cells #[.int .u64 0, .int .u64 (D : Int)] 26)) rfl
      rw [Int.natCast_zero] at hfit
      have HF := Lib.hid hfit
      have HDV := Lib.hid hDv
      clear HS hok hy hn hfit hDv
      go_wp2_with fail
      refine HF.out.mono ?_
      rintro e w5 ⟨rfl, hb5⟩
      clear HF
      go_wp2_with fail
      go_ret2
      refine ⟨by rw [HW.out.2.2.1, HW.out.2.2.2, ← HDV.out]; rfl, ?_⟩
      have hb12 := hb1.trans (hb2.mono hb1.size)
      have hb13 := hb12.trans (hb3.mono hb12.size)
      have hb14 := hb13.trans (hb4.mono hb13.size)
      have hb14' := hb14.alloc hb14.size (.cells #[.int .u64 0, .int .u64 (D : Int)] 26)
      exact hb14'.trans (hb5.mono hb14'.size)
    · have hwb : wordB t r k = false := by simp [wordB, hke]
      have hwn : wordN t r k = 0 := by simp [wordN, hwb]
      have hc : ¬ cmpN k (eachN t) < 0 := by simp [cmpN, hke]; split <;> omega
      have HW := Lib.hid (And.intro hwb hwn)
      obtain ⟨c, hcd⟩ : ∃ c, cmpN k (eachN t) = c := ⟨_, rfl⟩
      rw [hcd] at HCMP hc
      have hc2 : (0 : Int) ≤ c := by omega
      clear hcd hke hwb hwn
      go_wp2_with fail
      refine HCMP.out.mono ?_
      rintro e w2 ⟨rfl, hb2⟩
      clear HCMP
      go_wp2_with fail
      go_ret2
      exact ⟨by rw [HW.out.1, HW.out.2]; rfl, hb1.trans (hb2.mono hb1.size)⟩
  · have hwb : wordB t r k = false := by simp [wordB, h]
    have hwn : wordN t r k = 0 := by simp [wordN, hwb]
    have hle : (t : Int) ≤ (r : Int) := by omega
    rw [hwb, hwn]
    clear hwb hwn
    go_enter Try.func15, Try.ntmps15
    go_wp2_with fail
    go_ret2
    exact ⟨rfl, Below.refl _ _⟩
end Go.Proofs.Ytengcnchjpkhkaa
