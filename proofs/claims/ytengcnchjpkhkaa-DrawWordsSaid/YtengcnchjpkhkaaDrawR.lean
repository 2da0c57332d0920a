/-
  The document's answers of layer 8: 2^64, how many words are left out, what a word tells, how many tell a number.
-/
import Derived.Test.YtengcnchjpkhkaaDrawB
import Derived.Test.YtengcnchjpkhkaaLawA
import Derived.Test.YtengcnchjpkhkaaDivN
namespace Go.Proofs.Ytengcnchjpkhkaa
open Go.RowKit
set_option maxRecDepth 100000

theorem whole_row {w : World} {g : Nat} (h : Blk w g 3 #[.int .i64 0, .int .i64 0, .int .i64 0, .int .i64 0, .int .i64 1]) {L : Nat} (hL : L ≤ g) : Num w L (.agg #[.slice (some ⟨g, 0, none⟩) 5 5]) 18446744073709551616 := by
  refine ⟨some ⟨g, 0, none⟩, [0, 0, 0, 0, 1], 5, 5, rfl, rfl, Nat.le_refl _, Rd.of_row (t := 3) (by simpa [ints] using h), fun _ => ⟨g, 0, rfl, hL⟩, ⟨?_, ?_⟩, ?_⟩
  · intro d hd; simp at hd; omega
  · intro _; simp [nth]
  · simp [V]

set_option maxHeartbeats 1000000 in
theorem whole_any (w : World) : Calls Try.prog 25 #[] w (RetNum w 18446744073709551616) := by
  have hrow := Blk.new (w.alloc (.cells #[.slice (some ⟨w.heap.size + 1, 0, none⟩) 5 5] 31)) 3 #[.int .i64 0, .int .i64 0, .int .i64 0, .int .i64 0, .int .i64 1]
  rw [show (w.alloc (.cells #[.slice (some ⟨w.heap.size + 1, 0, none⟩) 5 5] 31)).heap.size = w.heap.size + 1 by simp] at hrow
  have hb := below2 w (.cells #[.slice (some ⟨w.heap.size + 1, 0, none⟩) 5 5] 31) (.cells #[.int .i64 0, .int .i64 0, .int .i64 0, .int .i64 0, .int .i64 1] 3)
  have HR := Lib.hid (And.intro hrow hb)
  clear hrow hb
  go_enter Try.func25, Try.ntmps25
  go_wp2_with fail
  exact bodyPost_ret (v := .agg #[.slice (some ⟨w.heap.size + 1, 0, none⟩) 5 5]) (by simp [results, Try.results25, go_sem]) rfl
    ⟨_, rfl, whole_row HR.out.1 (by omega), HR.out.2⟩

set_option maxHeartbeats 1000000 in
theorem rest8_any (t : Nat) (w : World) (ht : t < 18446744073709551616) : Calls Try.prog 11 #[.int .u64 (t : Int)] w fun e w' => e = .returned (.int .u64 ((restN t : Nat) : Int)) ∧ Below w.heap.size w w' := by
  rcases Nat.eq_zero_or_pos t with rfl | hp
  · rw [rest_zero]
    go_enter Try.func11, Try.ntmps11
    go_wp2_with fail
    go_ret
    exact ⟨rfl, Below.refl _ _⟩
  · have hd0 : ((t : Int) == 0) = false := by simp; omega
    have hd1 : ¬ (t : Int) = 0 := by omega
    have hd2 : ¬ t = 0 := by omega
    obtain ⟨r, hr⟩ : ∃ r, 18446744073709551616 % t = r := ⟨_, rfl⟩
    have hrn : restN t = r := by rw [← hr]; exact if_neg hd2
    have hrl : r < 18446744073709551616 := by rw [← hrn]; exact rest_lt t ht
    rw [hrn]
    have HP := Lib.hid (And.intro hp hr)
    clear hp hr hrn
    have HW := Lib.hid (whole_any w)
    go_enter Try.func11, Try.ntmps11
    go_wp2_with fail
    refine HW.out.mono ?_
    rintro e w1 ⟨v1, rfl, hn1, hb1⟩
    obtain ⟨A1, n1, c1, rfl⟩ := hn1.shape
    have HN1 := Lib.hid hn1
    have HO := Lib.hid (of_any t w1 ht)
    clear hn1 HW
    go_wp2_with fail
    refine HO.out.mono ?_
    rintro e w2 ⟨v2, rfl, hn2, hb2⟩
    obtain ⟨A2, n2, c2, rfl⟩ := hn2.shape
    have HD := Lib.hid (div_num (j := 100) (k := 100) _ _ _ _ _ _ w2 (HN1.out.below hb2) hn2 (pow_big (by omega)) (pow_word ht) HP.out.1)
    rw [HP.out.2] at HD
    have hB2 := hb1.trans (hb2.mono hb1.size)
    clear hn2 HO
    go_wp2_with fail
    refine HD.out.mono ?_
    rintro e w3 ⟨v3, v4, rfl, hn3, hn4, hb3⟩
    obtain ⟨A3, n3, c3, rfl⟩ := hn3.shape
    obtain ⟨A4, n4, c4, rfl⟩ := hn4.shape
    have hB3 := hB2.trans (hb3.mono hB2.size)
    have HWd := Lib.hid (word_num _ _ _ ((w3.alloc (.cells #[.slice A3 n3 c3] 31)).alloc (.cells #[.slice A4 n4 c4] 31)) ((hn4.alloc _).alloc _))
    rw [fw_in hrl] at HWd
    have hB4 := hB3.trans ((below2 w3 (.cells #[.slice A3 n3 c3] 31) (.cells #[.slice A4 n4 c4] 31)).mono hB3.size)
    clear hn3 hn4 HD
    go_wp2_with fail
    refine HWd.out.mono ?_
    rintro e w5 ⟨rfl, hb5⟩
    clear HWd
    go_wp2_with fail
    go_ret
    exact ⟨rfl, hB4.trans (hb5.mono hB4.size)⟩

set_option maxHeartbeats 1000000 in
theorem each8_any (t : Nat) (w : World) (ht : t < 18446744073709551616) : Calls Try.prog 9 #[.int .u64 (t : Int)] w (RetNum w (eachN t)) := by
  have hbox := Blk.new w 31 #[.slice none 0 0]
  have hb0 := below1 w (.cells #[.slice none 0 0] 31)
  rcases Nat.eq_zero_or_pos t with rfl | hp
  · rw [each_zero]
    go_enter Try.func9, Try.ntmps9
    go_wp2_with fail
    exact bodyPost_ret (v := .agg #[.slice none 0 0]) (by simp [results, Try.results9, go_sem]) rfl
      ⟨_, rfl, ⟨none, [], 0, 0, rfl, rfl, Nat.le_refl _, Rd.nil _ _ _, (fun h => absurd rfl h), Can.nil, rfl⟩, hb0⟩
  · have hd0 : ((t : Int) == 0) = false := by simp; omega
    have hd1 : ¬ (t : Int) = 0 := by omega
    have hd2 : ¬ t = 0 := by omega
    have HBOX := Lib.hid hbox
    have HP := Lib.hid hp
    clear hp hbox
    have HW := Lib.hid (whole_any (w.alloc (.cells #[.slice none 0 0] 31)))
    go_enter Try.func9, Try.ntmps9
    go_wp2_with fail
    refine HW.out.mono ?_
    rintro e w1 ⟨v1, rfl, hn1, hb1⟩
    obtain ⟨A1, n1, c1, rfl⟩ := hn1.shape
    have HN1 := Lib.hid hn1
    have HO := Lib.hid (of_any t w1 ht)
    have hB1 := hb0.trans (hb1.mono hb0.size)
    have HBX1 := Lib.hid (HBOX.out.below hb1 HBOX.out.lt)
    clear hn1 HW HBOX
    go_wp2_with fail
    refine HO.out.mono ?_
    rintro e w2 ⟨v2, rfl, hn2, hb2⟩
    obtain ⟨A2, n2, c2, rfl⟩ := hn2.shape
    have HD := Lib.hid (div_num (j := 100) (k := 100) _ _ _ _ _ _ w2 (HN1.out.below hb2) hn2 (pow_big (by omega)) (pow_word ht) HP.out)
    have hB2 := hB1.trans (hb2.mono hB1.size)
    have HBX2 := Lib.hid (HBX1.out.below hb2 HBX1.out.lt)
    clear hn2 HO HBX1
    go_wp2_with fail
    refine HD.out.mono ?_
    rintro e w3 ⟨v3, v4, rfl, hn3, hn4, hb3⟩
    obtain ⟨A3, n3, c3, rfl⟩ := hn3.shape
    obtain ⟨A4, n4, c4, rfl⟩ := hn4.shape
    have hB3 := hB2.trans (hb3.mono hB2.size)
    have hbx := ((HBX2.out.below hb3 HBX2.out.lt).alloc (.cells #[.slice A3 n3 c3] 31)).alloc (.cells #[.slice A4 n4 c4] 31)
    have q0 := hbx.cell 0
    have g0 := hbx.frozen 0
    have hset := hbx.set_ 0 (.slice A3 n3 c3)
    have s0 := hset.cell 0
    have t0 := hset.frozen 0
    have hB4 := hB3.trans ((below2 w3 (.cells #[.slice A3 n3 c3] 31) (.cells #[.slice A4 n4 c4] 31)).mono hB3.size)
    have HEND : Hid (RetNum w (eachN t) (.returned (.agg #[.slice A3 n3 c3])) ((((w3.alloc (.cells #[.slice A3 n3 c3] 31)).alloc (.cells #[.slice A4 n4 c4] 31)).setCell ⟨w.heap.size, 0, none⟩ (.slice A3 n3 c3)))) :=
      Lib.hid ⟨_, rfl, (((hn3.alloc _).alloc _).old (p := ⟨w.heap.size, 0, none⟩) HBX2.out.lt _).more hB2.size, hB4.setCell (p := ⟨w.heap.size, 0, none⟩) (Nat.le_refl _) _⟩
    clear hn3 hn4 HD hbx hset HBX2
    go_wp2_with fail
    exact bodyPost_ret (v := .agg #[.slice A3 n3 c3]) (by simp [results, Try.results9, go_sem, s0, t0]) rfl HEND.out

set_option maxHeartbeats 1000000 in
theorem tell8_any (t x : Nat) (w : World) (ht : t < 18446744073709551616) (hx : x < 18446744073709551616) : Calls Try.prog 7 #[.int .u64 (t : Int), .int .u64 (x : Int)] w fun e w' =>
    e = .returned (.tuple #[.int .u64 ((tellN t x : Nat) : Int), .bool (decide (x < endN t))]) ∧ Below w.heap.size w w' := by
  rcases Nat.eq_zero_or_pos t with rfl | hp
  · rw [show tellN 0 x = 0 from by simp [tellN, end_zero], show decide (x < endN 0) = false from by simp [end_zero]]
    go_enter Try.func7, Try.ntmps7
    go_wp2_with fail
    go_ret2
    exact ⟨rfl, Below.refl _ _⟩
  · have hd0 : ((t : Int) == 0) = false := by simp; omega
    have hd1 : ¬ (t : Int) = 0 := by omega
    have hd2 : ¬ t = 0 := by omega
    have hsp := whole_split t hp
    have hrl := rest_lt t ht
    have e1 : (x : Int) % (t : Int) = ((x % t : Nat) : Int) := by simp
    have e1t : (x : Int).tmod (t : Int) = ((x % t : Nat) : Int) := by simp [Int.tmod]
    obtain ⟨r, hr⟩ : ∃ r, restN t = r := ⟨_, rfl⟩
    obtain ⟨m, hm⟩ : ∃ m, x % t = m := ⟨_, rfl⟩
    have hst : tellN t x = if x < endN t then m else 0 := by rw [← hm]; rfl
    obtain ⟨n, hn⟩ : ∃ n, endN t = n := ⟨_, rfl⟩
    rw [hm] at e1 e1t
    rw [hr] at hsp hrl
    rw [hst, hn]
    rw [hn] at hsp
    have hsub : 18446744073709551616 - r = n := by omega
    have HC := Lib.hid (And.intro hsub hr)
    clear hr hm hst hn hsp hsub
    obtain ⟨d, hd⟩ : ∃ d, (if x < n then m else 0) = d := ⟨_, rfl⟩
    obtain ⟨b, hb⟩ : ∃ b, decide (x < n) = b := ⟨_, rfl⟩
    rw [hd, hb]
    have HDB := Lib.hid (And.intro hd hb)
    clear hd hb
    have HO := Lib.hid (of_any x w hx)
    go_enter Try.func7, Try.ntmps7
    go_wp2_with fail
    refine HO.out.mono ?_
    rintro e w1 ⟨v1, rfl, hn1, hb1⟩
    obtain ⟨A1, n1, c1, rfl⟩ := hn1.shape
    have HN1 := Lib.hid hn1
    have HW := Lib.hid (whole_any w1)
    clear hn1 HO
    go_wp2_with fail
    refine HW.out.mono ?_
    rintro e w2 ⟨v2, rfl, hn2, hb2⟩
    obtain ⟨A2, n2, c2, rfl⟩ := hn2.shape
    have HN2 := Lib.hid hn2
    have HN1b := Lib.hid (HN1.out.below hb2)
    have hB2 := hb1.trans (hb2.mono hb1.size)
    have HRT := Lib.hid (rest8_any t w2 ht)
    rw [HC.out.2] at HRT
    clear hn2 HW HN1
    go_wp2_with fail
    refine HRT.out.mono ?_
    rintro e w3 ⟨rfl, hb3⟩
    have HN1c := Lib.hid (HN1b.out.below hb3)
    have HN2c := Lib.hid (HN2.out.below hb3)
    have hB3 := hB2.trans (hb3.mono hB2.size)
    have HOR := Lib.hid (of_any r w3 hrl)
    clear HRT HN1b HN2
    go_wp2_with fail
    refine HOR.out.mono ?_
    rintro e w4 ⟨v4, rfl, hn4, hb4⟩
    obtain ⟨A4, n4, c4, rfl⟩ := hn4.shape
    have hB4 := hB3.trans (hb4.mono hB3.size)
    have HS := Lib.hid (sub_num (j := 100) _ _ _ _ _ _ w4 (HN2c.out.below hb4) hn4 (pow_big (by omega)) (by omega))
    have HN1d := Lib.hid (HN1c.out.below hb4)
    rw [HC.out.1] at HS
    clear HOR HN1c HN2c hn4
    go_wp2_with fail
    refine HS.out.mono ?_
    rintro e w5 ⟨v5, rfl, hn5, hb5⟩
    obtain ⟨A5, n5, c5, rfl⟩ := hn5.shape
    have hB5 := hB4.trans (hb5.mono hB4.size)
    have HCM := Lib.hid (cmp_num (j := 100) (k := 100) _ _ _ _ _ _ w5 (HN1d.out.below hb5) hn5 (pow_word hx) (pow_big (by have := HC.out.1; omega)))
    clear HS hn5 HN1d
    by_cases h : x < n
    · rw [cmpI_lt h] at HCM
      obtain ⟨rfl, rfl⟩ : m = d ∧ true = b := by
        have := HDB.out
        rw [if_pos h, decide_eq_true h] at this
        exact this
      clear h HDB
      go_wp2_with fail
      refine HCM.out.mono ?_
      rintro e w6 ⟨rfl, hb6⟩
      clear HCM
      go_wp2_with fail
      go_ret2
      exact ⟨rfl, hB5.trans (hb6.mono hB5.size)⟩
    · have hc2 : 0 ≤ cmpI x n := by
        rcases (show n < x ∨ x = n by omega) with h' | h'
        · rw [cmpI_gt h']; decide
        · rw [cmpI_eq h']; decide
      obtain ⟨rfl, rfl⟩ : 0 = d ∧ false = b := by
        have := HDB.out
        rw [if_neg h, decide_eq_false h] at this
        exact this
      clear HDB
      obtain ⟨c, hc⟩ : ∃ c, cmpI x n = c := ⟨_, rfl⟩
      rw [hc] at HCM hc2
      clear h hc
      go_wp2_with fail
      refine HCM.out.mono ?_
      rintro e w6 ⟨rfl, hb6⟩
      clear HCM
      go_wp2_with fail
      go_ret2
      exact ⟨rfl, hB5.trans (hb6.mono hB5.size)⟩

/-- The wide number of a number. -/
theorem back_num (v : Value) (a L : Nat) (w : World) (h : Num w L v a) (ha : a < 340282366920938463463374607431768211456) :
    Calls Try.prog 8 #[v] w fun e w' => e = .returned (.tuple #[.agg #[.int .u64 ((a / 18446744073709551616 : Nat) : Int), .int .u64 ((a % 18446744073709551616 : Nat) : Int)], .bool true]) ∧ Below w.heap.size w w' := by
  obtain ⟨A, xs, n, c, rfl, hl, hr, hd, h8, hc, e1, e2⟩ := h.wide_small.1 ha
  have := back_any A xs n c w hl hr hd h8 hc
  rw [e1, e2] at this
  exact this
end Go.Proofs.Ytengcnchjpkhkaa
