/-
  The words that tell any number are just those that are told.
-/
import Derived.Test.YtengcnchjpkhkaaLawDrawA
namespace Go.Proofs.Ytengcnchjpkhkaa
open Go.RowKit
set_option maxRecDepth 100000

theorem word_yes8 (t r k : Nat) (w : World) (ht : t < 18446744073709551616) (hr : r < 18446744073709551616) (hk : k < 18446744073709551616) (h : r < t) (hk2 : k < eachN t) : Calls Try.prog 15 #[.int .u64 (t : Int), .int .u64 (r : Int), .int .u64 (k : Int)] w fun e w' =>
    e = .returned (.tuple #[.int .u64 ((k * t + r : Nat) : Int), .bool true]) ∧ Below w.heap.size w w' := by
  have h0 := word_dr t r k w ht hr hk
  have hb : wordB t r k = true := by simp [wordB, h, hk2]
  rw [show wordN t r k = k * t + r from if_pos hb, hb] at h0
  exact h0
theorem word_not8 (t r k : Nat) (w : World) (ht : t < 18446744073709551616) (hr : r < 18446744073709551616) (hk : k < 18446744073709551616) (h : ¬ (r < t ∧ k < eachN t)) : Calls Try.prog 15 #[.int .u64 (t : Int), .int .u64 (r : Int), .int .u64 (k : Int)] w fun e w' =>
    e = .returned (.tuple #[.int .u64 0, .bool false]) ∧ Below w.heap.size w w' := by
  have h0 := word_dr t r k w ht hr hk
  have hb : wordB t r k = false := by simp only [wordB]; simpa using h
  rw [show wordN t r k = 0 by simp [wordN, hb], hb] at h0
  exact h0
/-- What a word tells, asked of that word's place: the word. -/
theorem word_back8 (t x : Nat) (w : World) (ht : t < 18446744073709551616) (hx : x < 18446744073709551616) (h : x < endN t) : Calls Try.prog 15 #[.int .u64 (t : Int), .int .u64 ((tellN t x : Nat) : Int), .int .u64 ((x / t : Nat) : Int)] w fun e w' =>
    e = .returned (.tuple #[.int .u64 (x : Int), .bool true]) ∧ Below w.heap.size w w' := by
  have hp := tell_pos h
  have h1 : tellN t x = x % t := if_pos h
  have h2 := Nat.mod_lt x hp
  have h3 := Nat.div_add_mod x t
  have h4 : x / t < eachN t := Nat.div_lt_of_lt_mul (by rw [Nat.mul_comm]; exact h)
  have h5 := Nat.div_le_self x t
  have h0 := word_yes8 t (x % t) (x / t) w ht (by omega) (by omega) h2 h4
  rw [Nat.mul_comm, h3] at h0
  rw [h1]
  exact h0
/-- A word that tells r is told so. -/
theorem tell_back8 (t r k : Nat) (w : World) (ht : t < 18446744073709551616) (h : r < t) (hk : k < eachN t) : k * t + r < 18446744073709551616 ∧ Calls Try.prog 6 #[.int .u64 (t : Int), .int .u64 ((k * t + r : Nat) : Int)] w fun e w' =>
    e = .returned (.tuple #[.int .u64 (r : Int), .bool true]) ∧ Below w.heap.size w w' := by
  have h1 := word_fits h hk
  have h2 := end_le t
  have h0 := tell_any t (k * t + r) w ht (by omega)
  rw [show tellN t (k * t + r) = r by rw [tellN, if_pos h1, Nat.mul_comm, Nat.mul_add_mod, Nat.mod_eq_of_lt h], decide_eq_true h1] at h0
  exact ⟨by omega, h0⟩
theorem quo8 {x t q : Nat} (h : x / t = q) (hq : q < 18446744073709551616) : IntKind.u64.wrap ((x : Int) / (t : Int)) = (q : Int) := by
  rw [show (x : Int) / (t : Int) = ((x / t : Nat) : Int) by simp, h, u64_in _ hq]

set_option maxHeartbeats 4000000 in
theorem words8_hi_r_t (t r k x E1 E2 : Nat) (w : World) (ht : t < 18446744073709551616) (hr : r < 18446744073709551616) (hk : k < 18446744073709551616) (hx : x < 18446744073709551616) (hE : eachN t = E1 * 18446744073709551616 + E2) (hE2 : E2 < 18446744073709551616)
    (hin : 0 < E1) (hrt : r < t) (htk : x < endN t) :
    Calls Try.prog 4 #[.int .u64 (t : Int), .int .u64 (r : Int), .int .u64 (k : Int), .int .u64 (x : Int)] w fun e w' => e = .returned (.bool true) ∧ Below w.heap.size w w' := by
  have HEV := Lib.hid (fun W => each_val t E1 E2 W ht hE hE2)
  have HTL := Lib.hid (fun W => tell_any t x W ht hx)
  have hp := tell_pos htk
  rw [decide_eq_true htk] at HTL
  have HWX := Lib.hid (fun W => word_back8 t x W ht hx htk)
  obtain ⟨m, hm⟩ : ∃ m, tellN t x = m := ⟨_, rfl⟩
  obtain ⟨q, hq⟩ : ∃ q, x / t = q := ⟨_, rfl⟩
  have hq2 := quo8 hq (by have := Nat.div_le_self x t; omega)
  rw [hm] at HTL
  rw [hm, hq] at HWX
  clear hm hq
  have hke : k < eachN t := by omega
  have HW := Lib.hid (word_yes8 t r k w ht hr hk hrt hke)
  have HTB := Lib.hid (fun W => (tell_back8 t r k W ht hrt hke).2)
  have hyl := (tell_back8 t r k w ht hrt hke).1
  have hyq : (k * t + r) / t = k := by rw [Nat.mul_comm, Nat.mul_add_div (by omega), Nat.div_eq_of_lt hrt, Nat.add_zero]
  obtain ⟨y, hy⟩ : ∃ y, k * t + r = y := ⟨_, rfl⟩
  rw [hy] at HW HTB hyq hyl
  have hyq2 := quo8 hyq hk
  clear hke hy hyq
  have hd0 : ((t : Int) == 0) = false := by simp; omega
  have hd1 : ¬ (t : Int) = 0 := by omega
  have hd2 : ¬ t = 0 := by omega
  have hin2 : (0 : Int) < (E1 : Int) := by omega
  have hrt2 : (r : Int) < (t : Int) := by omega
  clear hE htk hp
  go_enter Try.func4, Try.ntmps4
  go_wp2_with fail
  refine HW.out.mono ?_
  rintro en w1 ⟨rfl, hb1⟩
  have HB1 := Lib.hid hb1
  clear HW hb1
  go_wp2_with fail
  refine (HEV.out _).mono ?_
  rintro en w2 ⟨rfl, hb2⟩
  have hb2' := HB1.out.trans (hb2.mono HB1.out.size)
  have HB2 := Lib.hid (hb2'.alloc hb2'.size (.cells #[.int .u64 (E1 : Int), .int .u64 (E2 : Int)] 26))
  clear HEV HB1 hb2 hb2'
  go_wp2_with fail
  refine (HTB.out _).mono ?_
  rintro en w4 ⟨rfl, hb4⟩
  have HB4 := Lib.hid (HB2.out.trans (hb4.mono HB2.out.size))
  clear HB2 hb4 HTB
  go_wp2_with fail
  refine (HTL.out _).mono ?_
  rintro en w5 ⟨rfl, hb5⟩
  have HB5 := Lib.hid (HB4.out.trans (hb5.mono HB4.out.size))
  have HWB := Lib.hid (HWX.out w5)
  clear HB4 hb5 HTL
  go_wp2_with fail
  refine HWB.out.mono ?_
  rintro en w6 ⟨rfl, hb6⟩
  have HB6 := Lib.hid (HB5.out.trans (hb6.mono HB5.out.size))
  have HAL := Lib.hid (alive8_any w6)
  clear HB5 hb6 HWB
  go_wp2_with fail
  refine HAL.out.mono ?_
  rintro en w7 ⟨rfl, hb7⟩
  have HB7 := Lib.hid (HB6.out.trans (hb7.mono HB6.out.size))
  clear HB6 hb7 HAL
  go_wp2_with fail
  go_ret
  exact ⟨rfl, HB7.out⟩

set_option maxHeartbeats 4000000 in
theorem words8_hi_r_u (t r k x E1 E2 : Nat) (w : World) (ht : t < 18446744073709551616) (hr : r < 18446744073709551616) (hk : k < 18446744073709551616) (hx : x < 18446744073709551616) (hE : eachN t = E1 * 18446744073709551616 + E2) (hE2 : E2 < 18446744073709551616)
    (hin : 0 < E1) (hrt : r < t) (htk : ¬ x < endN t) :
    Calls Try.prog 4 #[.int .u64 (t : Int), .int .u64 (r : Int), .int .u64 (k : Int), .int .u64 (x : Int)] w fun e w' => e = .returned (.bool true) ∧ Below w.heap.size w w' := by
  have HEV := Lib.hid (fun W => each_val t E1 E2 W ht hE hE2)
  have HTL := Lib.hid (fun W => tell_any t x W ht hx)
  rw [tell_no htk, decide_eq_false htk] at HTL
  have hke : k < eachN t := by omega
  have HW := Lib.hid (word_yes8 t r k w ht hr hk hrt hke)
  have HTB := Lib.hid (fun W => (tell_back8 t r k W ht hrt hke).2)
  have hyl := (tell_back8 t r k w ht hrt hke).1
  have hyq : (k * t + r) / t = k := by rw [Nat.mul_comm, Nat.mul_add_div (by omega), Nat.div_eq_of_lt hrt, Nat.add_zero]
  obtain ⟨y, hy⟩ : ∃ y, k * t + r = y := ⟨_, rfl⟩
  rw [hy] at HW HTB hyq hyl
  have hyq2 := quo8 hyq hk
  clear hke hy hyq
  have hd0 : ((t : Int) == 0) = false := by simp; omega
  have hd1 : ¬ (t : Int) = 0 := by omega
  have hd2 : ¬ t = 0 := by omega
  have hin2 : (0 : Int) < (E1 : Int) := by omega
  have hrt2 : (r : Int) < (t : Int) := by omega
  clear hE htk
  go_enter Try.func4, Try.ntmps4
  go_wp2_with fail
  refine HW.out.mono ?_
  rintro en w1 ⟨rfl, hb1⟩
  have HB1 := Lib.hid hb1
  clear HW hb1
  go_wp2_with fail
  refine (HEV.out _).mono ?_
  rintro en w2 ⟨rfl, hb2⟩
  have hb2' := HB1.out.trans (hb2.mono HB1.out.size)
  have HB2 := Lib.hid (hb2'.alloc hb2'.size (.cells #[.int .u64 (E1 : Int), .int .u64 (E2 : Int)] 26))
  clear HEV HB1 hb2 hb2'
  go_wp2_with fail
  refine (HTB.out _).mono ?_
  rintro en w4 ⟨rfl, hb4⟩
  have HB4 := Lib.hid (HB2.out.trans (hb4.mono HB2.out.size))
  clear HB2 hb4 HTB
  go_wp2_with fail
  refine (HTL.out _).mono ?_
  rintro en w5 ⟨rfl, hb5⟩
  have HB5 := Lib.hid (HB4.out.trans (hb5.mono HB4.out.size))
  have HAL := Lib.hid (alive8_any w5)
  clear HB4 hb5 HTL
  go_wp2_with fail
  refine HAL.out.mono ?_
  rintro en w7 ⟨rfl, hb7⟩
  have HB7 := Lib.hid (HB5.out.trans (hb7.mono HB5.out.size))
  clear HB5 hb7 HAL
  go_wp2_with fail
  go_ret
  exact ⟨rfl, HB7.out⟩

set_option maxHeartbeats 4000000 in
theorem words8_hi_n_t (t r k x E1 E2 : Nat) (w : World) (ht : t < 18446744073709551616) (hr : r < 18446744073709551616) (hk : k < 18446744073709551616) (hx : x < 18446744073709551616) (hE : eachN t = E1 * 18446744073709551616 + E2) (hE2 : E2 < 18446744073709551616)
    (hin : 0 < E1) (hrt : ¬ r < t) (htk : x < endN t) :
    Calls Try.prog 4 #[.int .u64 (t : Int), .int .u64 (r : Int), .int .u64 (k : Int), .int .u64 (x : Int)] w fun e w' => e = .returned (.bool true) ∧ Below w.heap.size w w' := by
  have HEV := Lib.hid (fun W => each_val t E1 E2 W ht hE hE2)
  have HTL := Lib.hid (fun W => tell_any t x W ht hx)
  have hp := tell_pos htk
  rw [decide_eq_true htk] at HTL
  have HWX := Lib.hid (fun W => word_back8 t x W ht hx htk)
  obtain ⟨m, hm⟩ : ∃ m, tellN t x = m := ⟨_, rfl⟩
  obtain ⟨q, hq⟩ : ∃ q, x / t = q := ⟨_, rfl⟩
  have hq2 := quo8 hq (by have := Nat.div_le_self x t; omega)
  rw [hm] at HTL
  rw [hm, hq] at HWX
  clear hm hq
  have hke : ¬ (r < t ∧ k < eachN t) := by omega
  have HW := Lib.hid (word_not8 t r k w ht hr hk hke)
  have HTB := Lib.hid (fun W => tell_any t 0 W ht (by omega))
  obtain ⟨d, hd⟩ : ∃ d, tellN t 0 = d := ⟨_, rfl⟩
  obtain ⟨bz, hbz⟩ : ∃ bz, decide (0 < endN t) = bz := ⟨_, rfl⟩
  rw [hd, hbz, Int.natCast_zero] at HTB
  clear hd hbz hke
  have hd0 : ((t : Int) == 0) = false := by simp; omega
  have hd1 : ¬ (t : Int) = 0 := by omega
  have hd2 : ¬ t = 0 := by omega
  have hin2 : (0 : Int) < (E1 : Int) := by omega
  have hrt2 : ¬ (r : Int) < (t : Int) := by omega
  clear hE htk hp
  go_enter Try.func4, Try.ntmps4
  go_wp2_with fail
  refine HW.out.mono ?_
  rintro en w1 ⟨rfl, hb1⟩
  have HB1 := Lib.hid hb1
  clear HW hb1
  go_wp2_with fail
  refine (HEV.out _).mono ?_
  rintro en w2 ⟨rfl, hb2⟩
  have hb2' := HB1.out.trans (hb2.mono HB1.out.size)
  have HB2 := Lib.hid (hb2'.alloc hb2'.size (.cells #[.int .u64 (E1 : Int), .int .u64 (E2 : Int)] 26))
  clear HEV HB1 hb2 hb2'
  go_wp2_with fail
  refine (HTB.out _).mono ?_
  rintro en w4 ⟨rfl, hb4⟩
  have HB4 := Lib.hid (HB2.out.trans (hb4.mono HB2.out.size))
  clear HB2 hb4 HTB
  go_wp2_with fail
  refine (HTL.out _).mono ?_
  rintro en w5 ⟨rfl, hb5⟩
  have HB5 := Lib.hid (HB4.out.trans (hb5.mono HB4.out.size))
  have HWB := Lib.hid (HWX.out w5)
  clear HB4 hb5 HTL
  go_wp2_with fail
  refine HWB.out.mono ?_
  rintro en w6 ⟨rfl, hb6⟩
  have HB6 := Lib.hid (HB5.out.trans (hb6.mono HB5.out.size))
  have HAL := Lib.hid (alive8_any w6)
  clear HB5 hb6 HWB
  go_wp2_with fail
  refine HAL.out.mono ?_
  rintro en w7 ⟨rfl, hb7⟩
  have HB7 := Lib.hid (HB6.out.trans (hb7.mono HB6.out.size))
  clear HB6 hb7 HAL
  go_wp2_with fail
  go_ret
  exact ⟨rfl, HB7.out⟩

set_option maxHeartbeats 4000000 in
theorem words8_hi_n_u (t r k x E1 E2 : Nat) (w : World) (ht : t < 18446744073709551616) (hr : r < 18446744073709551616) (hk : k < 18446744073709551616) (hx : x < 18446744073709551616) (hE : eachN t = E1 * 18446744073709551616 + E2) (hE2 : E2 < 18446744073709551616)
    (hin : 0 < E1) (hrt : ¬ r < t) (htk : ¬ x < endN t) :
    Calls Try.prog 4 #[.int .u64 (t : Int), .int .u64 (r : Int), .int .u64 (k : Int), .int .u64 (x : Int)] w fun e w' => e = .returned (.bool true) ∧ Below w.heap.size w w' := by
  have HEV := Lib.hid (fun W => each_val t E1 E2 W ht hE hE2)
  have HTL := Lib.hid (fun W => tell_any t x W ht hx)
  rw [tell_no htk, decide_eq_false htk] at HTL
  have hke : ¬ (r < t ∧ k < eachN t) := by omega
  have HW := Lib.hid (word_not8 t r k w ht hr hk hke)
  have HTB := Lib.hid (fun W => tell_any t 0 W ht (by omega))
  obtain ⟨d, hd⟩ : ∃ d, tellN t 0 = d := ⟨_, rfl⟩
  obtain ⟨bz, hbz⟩ : ∃ bz, decide (0 < endN t) = bz := ⟨_, rfl⟩
  rw [hd, hbz, Int.natCast_zero] at HTB
  clear hd hbz hke
  have hin2 : (0 : Int) < (E1 : Int) := by omega
  have hrt2 : ¬ (r : Int) < (t : Int) := by omega
  clear hE htk
  go_enter Try.func4, Try.ntmps4
  go_wp2_with fail
  refine HW.out.mono ?_
  rintro en w1 ⟨rfl, hb1⟩
  have HB1 := Lib.hid hb1
  clear HW hb1
  go_wp2_with fail
  refine (HEV.out _).mono ?_
  rintro en w2 ⟨rfl, hb2⟩
  have hb2' := HB1.out.trans (hb2.mono HB1.out.size)
  have HB2 := Lib.hid (hb2'.alloc hb2'.size (.cells #[.int .u64 (E1 : Int), .int .u64 (E2 : Int)] 26))
  clear HEV HB1 hb2 hb2'
  go_wp2_with fail
  refine (HTB.out _).mono ?_
  rintro en w4 ⟨rfl, hb4⟩
  have HB4 := Lib.hid (HB2.out.trans (hb4.mono HB2.out.size))
  clear HB2 hb4 HTB
  go_wp2_with fail
  refine (HTL.out _).mono ?_
  rintro en w5 ⟨rfl, hb5⟩
  have HB5 := Lib.hid (HB4.out.trans (hb5.mono HB4.out.size))
  have HAL := Lib.hid (alive8_any w5)
  clear HB4 hb5 HTL
  go_wp2_with fail
  refine HAL.out.mono ?_
  rintro en w7 ⟨rfl, hb7⟩
  have HB7 := Lib.hid (HB5.out.trans (hb7.mono HB5.out.size))
  clear HB5 hb7 HAL
  go_wp2_with fail
  go_ret
  exact ⟨rfl, HB7.out⟩

set_option maxHeartbeats 4000000 in
theorem words8_lo_r_t (t r k x E1 E2 : Nat) (w : World) (ht : t < 18446744073709551616) (hr : r < 18446744073709551616) (hk : k < 18446744073709551616) (hx : x < 18446744073709551616) (hE : eachN t = E1 * 18446744073709551616 + E2) (hE2 : E2 < 18446744073709551616)
    (hin : E1 = 0) (hin2 : k < E2) (hrt : r < t) (htk : x < endN t) :
    Calls Try.prog 4 #[.int .u64 (t : Int), .int .u64 (r : Int), .int .u64 (k : Int), .int .u64 (x : Int)] w fun e w' => e = .returned (.bool true) ∧ Below w.heap.size w w' := by
  have HEV := Lib.hid (fun W => each_val t E1 E2 W ht hE hE2)
  have HTL := Lib.hid (fun W => tell_any t x W ht hx)
  have hp := tell_pos htk
  rw [decide_eq_true htk] at HTL
  have HWX := Lib.hid (fun W => word_back8 t x W ht hx htk)
  obtain ⟨m, hm⟩ : ∃ m, tellN t x = m := ⟨_, rfl⟩
  obtain ⟨q, hq⟩ : ∃ q, x / t = q := ⟨_, rfl⟩
  have hq2 := quo8 hq (by have := Nat.div_le_self x t; omega)
  rw [hm] at HTL
  rw [hm, hq] at HWX
  clear hm hq
  have hke : k < eachN t := by omega
  have HW := Lib.hid (word_yes8 t r k w ht hr hk hrt hke)
  have HTB := Lib.hid (fun W => (tell_back8 t r k W ht hrt hke).2)
  have hyl := (tell_back8 t r k w ht hrt hke).1
  have hyq : (k * t + r) / t = k := by rw [Nat.mul_comm, Nat.mul_add_div (by omega), Nat.div_eq_of_lt hrt, Nat.add_zero]
  obtain ⟨y, hy⟩ : ∃ y, k * t + r = y := ⟨_, rfl⟩
  rw [hy] at HW HTB hyq hyl
  have hyq2 := quo8 hyq hk
  clear hke hy hyq
  have hd0 : ((t : Int) == 0) = false := by simp; omega
  have hd1 : ¬ (t : Int) = 0 := by omega
  have hd2 : ¬ t = 0 := by omega
  subst hin
  have hin3 : (k : Int) < (E2 : Int) := by omega
  have hrt2 : (r : Int) < (t : Int) := by omega
  clear hE htk hp
  go_enter Try.func4, Try.ntmps4
  go_wp2_with fail
  refine HW.out.mono ?_
  rintro en w1 ⟨rfl, hb1⟩
  have HB1 := Lib.hid hb1
  clear HW hb1
  go_wp2_with fail
  refine (HEV.out _).mono ?_
  rintro en w2 ⟨rfl, hb2⟩
  have hb2' := HB1.out.trans (hb2.mono HB1.out.size)
  have HB2 := Lib.hid (hb2'.alloc hb2'.size (.cells #[.int .u64 0, .int .u64 (E2 : Int)] 26))
  clear HEV HB1 hb2 hb2'
  go_wp2_with fail
  refine (HTB.out _).mono ?_
  rintro en w4 ⟨rfl, hb4⟩
  have HB4 := Lib.hid (HB2.out.trans (hb4.mono HB2.out.size))
  clear HB2 hb4 HTB
  go_wp2_with fail
  refine (HTL.out _).mono ?_
  rintro en w5 ⟨rfl, hb5⟩
  have HB5 := Lib.hid (HB4.out.trans (hb5.mono HB4.out.size))
  have HWB := Lib.hid (HWX.out w5)
  clear HB4 hb5 HTL
  go_wp2_with fail
  refine HWB.out.mono ?_
  rintro en w6 ⟨rfl, hb6⟩
  have HB6 := Lib.hid (HB5.out.trans (hb6.mono HB5.out.size))
  have HAL := Lib.hid (alive8_any w6)
  clear HB5 hb6 HWB
  go_wp2_with fail
  refine HAL.out.mono ?_
  rintro en w7 ⟨rfl, hb7⟩
  have HB7 := Lib.hid (HB6.out.trans (hb7.mono HB6.out.size))
  clear HB6 hb7 HAL
  go_wp2_with fail
  go_ret
  exact ⟨rfl, HB7.out⟩

set_option maxHeartbeats 4000000 in
theorem words8_lo_r_u (t r k x E1 E2 : Nat) (w : World) (ht : t < 18446744073709551616) (hr : r < 18446744073709551616) (hk : k < 18446744073709551616) (hx : x < 18446744073709551616) (hE : eachN t = E1 * 18446744073709551616 + E2) (hE2 : E2 < 18446744073709551616)
    (hin : E1 = 0) (hin2 : k < E2) (hrt : r < t) (htk : ¬ x < endN t) :
    Calls Try.prog 4 #[.int .u64 (t : Int), .int .u64 (r : Int), .int .u64 (k : Int), .int .u64 (x : Int)] w fun e w' => e = .returned (.bool true) ∧ Below w.heap.size w w' := by
  have HEV := Lib.hid (fun W => each_val t E1 E2 W ht hE hE2)
  have HTL := Lib.hid (fun W => tell_any t x W ht hx)
  rw [tell_no htk, decide_eq_false htk] at HTL
  have hke : k < eachN t := by omega
  have HW := Lib.hid (word_yes8 t r k w ht hr hk hrt hke)
  have HTB := Lib.hid (fun W => (tell_back8 t r k W ht hrt hke).2)
  have hyl := (tell_back8 t r k w ht hrt hke).1
  have hyq : (k * t + r) / t = k := by rw [Nat.mul_comm, Nat.mul_add_div (by omega), Nat.div_eq_of_lt hrt, Nat.add_zero]
  obtain ⟨y, hy⟩ : ∃ y, k * t + r = y := ⟨_, rfl⟩
  rw [hy] at HW HTB hyq hyl
  have hyq2 := quo8 hyq hk
  clear hke hy hyq
  have hd0 : ((t : Int) == 0) = false := by simp; omega
  have hd1 : ¬ (t : Int) = 0 := by omega
  have hd2 : ¬ t = 0 := by omega
  subst hin
  have hin3 : (k : Int) < (E2 : Int) := by omega
  have hrt2 : (r : Int) < (t : Int) := by omega
  clear hE htk
  go_enter Try.func4, Try.ntmps4
  go_wp2_with fail
  refine HW.out.mono ?_
  rintro en w1 ⟨rfl, hb1⟩
  have HB1 := Lib.hid hb1
  clear HW hb1
  go_wp2_with fail
  refine (HEV.out _).mono ?_
  rintro en w2 ⟨rfl, hb2⟩
  have hb2' := HB1.out.trans (hb2.mono HB1.out.size)
  have HB2 := Lib.hid (hb2'.alloc hb2'.size (.cells #[.int .u64 0, .int .u64 (E2 : Int)] 26))
  clear HEV HB1 hb2 hb2'
  go_wp2_with fail
  refine (HTB.out _).mono ?_
  rintro en w4 ⟨rfl, hb4⟩
  have HB4 := Lib.hid (HB2.out.trans (hb4.mono HB2.out.size))
  clear HB2 hb4 HTB
  go_wp2_with fail
  refine (HTL.out _).mono ?_
  rintro en w5 ⟨rfl, hb5⟩
  have HB5 := Lib.hid (HB4.out.trans (hb5.mono HB4.out.size))
  have HAL := Lib.hid (alive8_any w5)
  clear HB4 hb5 HTL
  go_wp2_with fail
  refine HAL.out.mono ?_
  rintro en w7 ⟨rfl, hb7⟩
  have HB7 := Lib.hid (HB5.out.trans (hb7.mono HB5.out.size))
  clear HB5 hb7 HAL
  go_wp2_with fail
  go_ret
  exact ⟨rfl, HB7.out⟩

set_option maxHeartbeats 4000000 in
theorem words8_lo_n_t (t r k x E1 E2 : Nat) (w : World) (ht : t < 18446744073709551616) (hr : r < 18446744073709551616) (hk : k < 18446744073709551616) (hx : x < 18446744073709551616) (hE : eachN t = E1 * 18446744073709551616 + E2) (hE2 : E2 < 18446744073709551616)
    (hin : E1 = 0) (hin2 : k < E2) (hrt : ¬ r < t) (htk : x < endN t) :
    Calls Try.prog 4 #[.int .u64 (t : Int), .int .u64 (r : Int), .int .u64 (k : Int), .int .u64 (x : Int)] w fun e w' => e = .returned (.bool true) ∧ Below w.heap.size w w' := by
  have HEV := Lib.hid (fun W => each_val t E1 E2 W ht hE hE2)
  have HTL := Lib.hid (fun W => tell_any t x W ht hx)
  have hp := tell_pos htk
  rw [decide_eq_true htk] at HTL
  have HWX := Lib.hid (fun W => word_back8 t x W ht hx htk)
  obtain ⟨m, hm⟩ : ∃ m, tellN t x = m := ⟨_, rfl⟩
  obtain ⟨q, hq⟩ : ∃ q, x / t = q := ⟨_, rfl⟩
  have hq2 := quo8 hq (by have := Nat.div_le_self x t; omega)
  rw [hm] at HTL
  rw [hm, hq] at HWX
  clear hm hq
  have hke : ¬ (r < t ∧ k < eachN t) := by omega
  have HW := Lib.hid (word_not8 t r k w ht hr hk hke)
  have HTB := Lib.hid (fun W => tell_any t 0 W ht (by omega))
  obtain ⟨d, hd⟩ : ∃ d, tellN t 0 = d := ⟨_, rfl⟩
  obtain ⟨bz, hbz⟩ : ∃ bz, decide (0 < endN t) = bz := ⟨_, rfl⟩
  rw [hd, hbz, Int.natCast_zero] at HTB
  clear hd hbz hke
  have hd0 : ((t : Int) == 0) = false := by simp; omega
  have hd1 : ¬ (t : Int) = 0 := by omega
  have hd2 : ¬ t = 0 := by omega
  subst hin
  have hin3 : (k : Int) < (E2 : Int) := by omega
  have hrt2 : ¬ (r : Int) < (t : Int) := by omega
  clear hE htk hp
  go_enter Try.func4, Try.ntmps4
  go_wp2_with fail
  refine HW.out.mono ?_
  rintro en w1 ⟨rfl, hb1⟩
  have HB1 := Lib.hid hb1
  clear HW hb1
  go_wp2_with fail
  refine (HEV.out _).mono ?_
  rintro en w2 ⟨rfl, hb2⟩
  have hb2' := HB1.out.trans (hb2.mono HB1.out.size)
  have HB2 := Lib.hid (hb2'.alloc hb2'.size (.cells #[.int .u64 0, .int .u64 (E2 : Int)] 26))
  clear HEV HB1 hb2 hb2'
  go_wp2_with fail
  refine (HTB.out _).mono ?_
  rintro en w4 ⟨rfl, hb4⟩
  have HB4 := Lib.hid (HB2.out.trans (hb4.mono HB2.out.size))
  clear HB2 hb4 HTB
  go_wp2_with fail
  refine (HTL.out _).mono ?_
  rintro en w5 ⟨rfl, hb5⟩
  have HB5 := Lib.hid (HB4.out.trans (hb5.mono HB4.out.size))
  have HWB := Lib.hid (HWX.out w5)
  clear HB4 hb5 HTL
  go_wp2_with fail
  refine HWB.out.mono ?_
  rintro en w6 ⟨rfl, hb6⟩
  have HB6 := Lib.hid (HB5.out.trans (hb6.mono HB5.out.size))
  have HAL := Lib.hid (alive8_any w6)
  clear HB5 hb6 HWB
  go_wp2_with fail
  refine HAL.out.mono ?_
  rintro en w7 ⟨rfl, hb7⟩
  have HB7 := Lib.hid (HB6.out.trans (hb7.mono HB6.out.size))
  clear HB6 hb7 HAL
  go_wp2_with fail
  go_ret
  exact ⟨rfl, HB7.out⟩

set_option maxHeartbeats 4000000 in
theorem words8_lo_n_u (t r k x E1 E2 : Nat) (w : World) (ht : t < 18446744073709551616) (hr : r < 18446744073709551616) (hk : k < 18446744073709551616) (hx : x < 18446744073709551616) (hE : eachN t = E1 * 18446744073709551616 + E2) (hE2 : E2 < 18446744073709551616)
    (hin : E1 = 0) (hin2 : k < E2) (hrt : ¬ r < t) (htk : ¬ x < endN t) :
    Calls Try.prog 4 #[.int .u64 (t : Int), .int .u64 (r : Int), .int .u64 (k : Int), .int .u64 (x : Int)] w fun e w' => e = .returned (.bool true) ∧ Below w.heap.size w w' := by
  have HEV := Lib.hid (fun W => each_val t E1 E2 W ht hE hE2)
  have HTL := Lib.hid (fun W => tell_any t x W ht hx)
  rw [tell_no htk, decide_eq_false htk] at HTL
  have hke : ¬ (r < t ∧ k < eachN t) := by omega
  have HW := Lib.hid (word_not8 t r k w ht hr hk hke)
  have HTB := Lib.hid (fun W => tell_any t 0 W ht (by omega))
  obtain ⟨d, hd⟩ : ∃ d, tellN t 0 = d := ⟨_, rfl⟩
  obtain ⟨bz, hbz⟩ : ∃ bz, decide (0 < endN t) = bz := ⟨_, rfl⟩
  rw [hd, hbz, Int.natCast_zero] at HTB
  clear hd hbz hke
  subst hin
  have hin3 : (k : Int) < (E2 : Int) := by omega
  have hrt2 : ¬ (r : Int) < (t : Int) := by omega
  clear hE htk
  go_enter Try.func4, Try.ntmps4
  go_wp2_with fail
  refine HW.out.mono ?_
  rintro en w1 ⟨rfl, hb1⟩
  have HB1 := Lib.hid hb1
  clear HW hb1
  go_wp2_with fail
  refine (HEV.out _).mono ?_
  rintro en w2 ⟨rfl, hb2⟩
  have hb2' := HB1.out.trans (hb2.mono HB1.out.size)
  have HB2 := Lib.hid (hb2'.alloc hb2'.size (.cells #[.int .u64 0, .int .u64 (E2 : Int)] 26))
  clear HEV HB1 hb2 hb2'
  go_wp2_with fail
  refine (HTB.out _).mono ?_
  rintro en w4 ⟨rfl, hb4⟩
  have HB4 := Lib.hid (HB2.out.trans (hb4.mono HB2.out.size))
  clear HB2 hb4 HTB
  go_wp2_with fail
  refine (HTL.out _).mono ?_
  rintro en w5 ⟨rfl, hb5⟩
  have HB5 := Lib.hid (HB4.out.trans (hb5.mono HB4.out.size))
  have HAL := Lib.hid (alive8_any w5)
  clear HB4 hb5 HTL
  go_wp2_with fail
  refine HAL.out.mono ?_
  rintro en w7 ⟨rfl, hb7⟩
  have HB7 := Lib.hid (HB5.out.trans (hb7.mono HB5.out.size))
  clear HB5 hb7 HAL
  go_wp2_with fail
  go_ret
  exact ⟨rfl, HB7.out⟩

set_option maxHeartbeats 4000000 in
theorem words8_no_r_t (t r k x E1 E2 : Nat) (w : World) (ht : t < 18446744073709551616) (hr : r < 18446744073709551616) (hk : k < 18446744073709551616) (hx : x < 18446744073709551616) (hE : eachN t = E1 * 18446744073709551616 + E2) (hE2 : E2 < 18446744073709551616)
    (hin : E1 = 0) (hin2 : E2 ≤ k) (hrt : r < t) (htk : x < endN t) :
    Calls Try.prog 4 #[.int .u64 (t : Int), .int .u64 (r : Int), .int .u64 (k : Int), .int .u64 (x : Int)] w fun e w' => e = .returned (.bool true) ∧ Below w.heap.size w w' := by
  have HEV := Lib.hid (fun W => each_val t E1 E2 W ht hE hE2)
  have HTL := Lib.hid (fun W => tell_any t x W ht hx)
  have hp := tell_pos htk
  rw [decide_eq_true htk] at HTL
  have HWX := Lib.hid (fun W => word_back8 t x W ht hx htk)
  obtain ⟨m, hm⟩ : ∃ m, tellN t x = m := ⟨_, rfl⟩
  obtain ⟨q, hq⟩ : ∃ q, x / t = q := ⟨_, rfl⟩
  have hq2 := quo8 hq (by have := Nat.div_le_self x t; omega)
  rw [hm] at HTL
  rw [hm, hq] at HWX
  clear hm hq
  have hke : ¬ (r < t ∧ k < eachN t) := by omega
  have HW := Lib.hid (word_not8 t r k w ht hr hk hke)
  have HTB := Lib.hid (fun W => tell_any t 0 W ht (by omega))
  obtain ⟨d, hd⟩ : ∃ d, tellN t 0 = d := ⟨_, rfl⟩
  obtain ⟨bz, hbz⟩ : ∃ bz, decide (0 < endN t) = bz := ⟨_, rfl⟩
  rw [hd, hbz, Int.natCast_zero] at HTB
  clear hd hbz hke
  have hd0 : ((t : Int) == 0) = false := by simp; omega
  have hd1 : ¬ (t : Int) = 0 := by omega
  have hd2 : ¬ t = 0 := by omega
  subst hin
  have hin3 : ¬ (k : Int) < (E2 : Int) := by omega
  have hrt2 : (r : Int) < (t : Int) := by omega
  clear hE htk hp
  go_enter Try.func4, Try.ntmps4
  go_wp2_with fail
  refine HW.out.mono ?_
  rintro en w1 ⟨rfl, hb1⟩
  have HB1 := Lib.hid hb1
  clear HW hb1
  go_wp2_with fail
  refine (HEV.out _).mono ?_
  rintro en w2 ⟨rfl, hb2⟩
  have hb2' := HB1.out.trans (hb2.mono HB1.out.size)
  have HB2 := Lib.hid (hb2'.alloc hb2'.size (.cells #[.int .u64 0, .int .u64 (E2 : Int)] 26))
  clear HEV HB1 hb2 hb2'
  go_wp2_with fail
  refine (HTB.out _).mono ?_
  rintro en w4 ⟨rfl, hb4⟩
  have HB4 := Lib.hid (HB2.out.trans (hb4.mono HB2.out.size))
  clear HB2 hb4 HTB
  go_wp2_with fail
  refine (HTL.out _).mono ?_
  rintro en w5 ⟨rfl, hb5⟩
  have HB5 := Lib.hid (HB4.out.trans (hb5.mono HB4.out.size))
  have HWB := Lib.hid (HWX.out w5)
  clear HB4 hb5 HTL
  go_wp2_with fail
  refine HWB.out.mono ?_
  rintro en w6 ⟨rfl, hb6⟩
  have HB6 := Lib.hid (HB5.out.trans (hb6.mono HB5.out.size))
  have HAL := Lib.hid (alive8_any w6)
  clear HB5 hb6 HWB
  go_wp2_with fail
  refine HAL.out.mono ?_
  rintro en w7 ⟨rfl, hb7⟩
  have HB7 := Lib.hid (HB6.out.trans (hb7.mono HB6.out.size))
  clear HB6 hb7 HAL
  go_wp2_with fail
  go_ret
  exact ⟨rfl, HB7.out⟩

set_option maxHeartbeats 4000000 in
theorem words8_no_r_u (t r k x E1 E2 : Nat) (w : World) (ht : t < 18446744073709551616) (hr : r < 18446744073709551616) (hk : k < 18446744073709551616) (hx : x < 18446744073709551616) (hE : eachN t = E1 * 18446744073709551616 + E2) (hE2 : E2 < 18446744073709551616)
    (hin : E1 = 0) (hin2 : E2 ≤ k) (hrt : r < t) (htk : ¬ x < endN t) :
    Calls Try.prog 4 #[.int .u64 (t : Int), .int .u64 (r : Int), .int .u64 (k : Int), .int .u64 (x : Int)] w fun e w' => e = .returned (.bool true) ∧ Below w.heap.size w w' := by
  have HEV := Lib.hid (fun W => each_val t E1 E2 W ht hE hE2)
  have HTL := Lib.hid (fun W => tell_any t x W ht hx)
  rw [tell_no htk, decide_eq_false htk] at HTL
  have hke : ¬ (r < t ∧ k < eachN t) := by omega
  have HW := Lib.hid (word_not8 t r k w ht hr hk hke)
  have HTB := Lib.hid (fun W => tell_any t 0 W ht (by omega))
  obtain ⟨d, hd⟩ : ∃ d, tellN t 0 = d := ⟨_, rfl⟩
  obtain ⟨bz, hbz⟩ : ∃ bz, decide (0 < endN t) = bz := ⟨_, rfl⟩
  rw [hd, hbz, Int.natCast_zero] at HTB
  clear hd hbz hke
  have hd0 : ((t : Int) == 0) = false := by simp; omega
  have hd1 : ¬ (t : Int) = 0 := by omega
  have hd2 : ¬ t = 0 := by omega
  subst hin
  have hin3 : ¬ (k : Int) < (E2 : Int) := by omega
  have hrt2 : (r : Int) < (t : Int) := by omega
  clear hE htk
  go_enter Try.func4, Try.ntmps4
  go_wp2_with fail
  refine HW.out.mono ?_
  rintro en w1 ⟨rfl, hb1⟩
  have HB1 := Lib.hid hb1
  clear HW hb1
  go_wp2_with fail
  refine (HEV.out _).mono ?_
  rintro en w2 ⟨rfl, hb2⟩
  have hb2' := HB1.out.trans (hb2.mono HB1.out.size)
  have HB2 := Lib.hid (hb2'.alloc hb2'.size (.cells #[.int .u64 0, .int .u64 (E2 : Int)] 26))
  clear HEV HB1 hb2 hb2'
  go_wp2_with fail
  refine (HTB.out _).mono ?_
  rintro en w4 ⟨rfl, hb4⟩
  have HB4 := Lib.hid (HB2.out.trans (hb4.mono HB2.out.size))
  clear HB2 hb4 HTB
  go_wp2_with fail
  refine (HTL.out _).mono ?_
  rintro en w5 ⟨rfl, hb5⟩
  have HB5 := Lib.hid (HB4.out.trans (hb5.mono HB4.out.size))
  have HAL := Lib.hid (alive8_any w5)
  clear HB4 hb5 HTL
  go_wp2_with fail
  refine HAL.out.mono ?_
  rintro en w7 ⟨rfl, hb7⟩
  have HB7 := Lib.hid (HB5.out.trans (hb7.mono HB5.out.size))
  clear HB5 hb7 HAL
  go_wp2_with fail
  go_ret
  exact ⟨rfl, HB7.out⟩

set_option maxHeartbeats 4000000 in
theorem words8_no_n_t (t r k x E1 E2 : Nat) (w : World) (ht : t < 18446744073709551616) (hr : r < 18446744073709551616) (hk : k < 18446744073709551616) (hx : x < 18446744073709551616) (hE : eachN t = E1 * 18446744073709551616 + E2) (hE2 : E2 < 18446744073709551616)
    (hin : E1 = 0) (hin2 : E2 ≤ k) (hrt : ¬ r < t) (htk : x < endN t) :
    Calls Try.prog 4 #[.int .u64 (t : Int), .int .u64 (r : Int), .int .u64 (k : Int), .int .u64 (x : Int)] w fun e w' => e = .returned (.bool true) ∧ Below w.heap.size w w' := by
  have HEV := Lib.hid (fun W => each_val t E1 E2 W ht hE hE2)
  have HTL := Lib.hid (fun W => tell_any t x W ht hx)
  have hp := tell_pos htk
  rw [decide_eq_true htk] at HTL
  have HWX := Lib.hid (fun W => word_back8 t x W ht hx htk)
  obtain ⟨m, hm⟩ : ∃ m, tellN t x = m := ⟨_, rfl⟩
  obtain ⟨q, hq⟩ : ∃ q, x / t = q := ⟨_, rfl⟩
  have hq2 := quo8 hq (by have := Nat.div_le_self x t; omega)
  rw [hm] at HTL
  rw [hm, hq] at HWX
  clear hm hq
  have hke : ¬ (r < t ∧ k < eachN t) := by omega
  have HW := Lib.hid (word_not8 t r k w ht hr hk hke)
  have HTB := Lib.hid (fun W => tell_any t 0 W ht (by omega))
  obtain ⟨d, hd⟩ : ∃ d, tellN t 0 = d := ⟨_, rfl⟩
  obtain ⟨bz, hbz⟩ : ∃ bz, decide (0 < endN t) = bz := ⟨_, rfl⟩
  rw [hd, hbz, Int.natCast_zero] at HTB
  clear hd hbz hke
  have hd0 : ((t : Int) == 0) = false := by simp; omega
  have hd1 : ¬ (t : Int) = 0 := by omega
  have hd2 : ¬ t = 0 := by omega
  subst hin
  have hin3 : ¬ (k : Int) < (E2 : Int) := by omega
  have hrt2 : ¬ (r : Int) < (t : Int) := by omega
  clear hE htk hp
  go_enter Try.func4, Try.ntmps4
  go_wp2_with fail
  refine HW.out.mono ?_
  rintro en w1 ⟨rfl, hb1⟩
  have HB1 := Lib.hid hb1
  clear HW hb1
  go_wp2_with fail
  refine (HEV.out _).mono ?_
  rintro en w2 ⟨rfl, hb2⟩
  have hb2' := HB1.out.trans (hb2.mono HB1.out.size)
  have HB2 := Lib.hid (hb2'.alloc hb2'.size (.cells #[.int .u64 0, .int .u64 (E2 : Int)] 26))
  clear HEV HB1 hb2 hb2'
  go_wp2_with fail
  refine (HTB.out _).mono ?_
  rintro en w4 ⟨rfl, hb4⟩
  have HB4 := Lib.hid (HB2.out.trans (hb4.mono HB2.out.size))
  clear HB2 hb4 HTB
  go_wp2_with fail
  refine (HTL.out _).mono ?_
  rintro en w5 ⟨rfl, hb5⟩
  have HB5 := Lib.hid (HB4.out.trans (hb5.mono HB4.out.size))
  have HWB := Lib.hid (HWX.out w5)
  clear HB4 hb5 HTL
  go_wp2_with fail
  refine HWB.out.mono ?_
  rintro en w6 ⟨rfl, hb6⟩
  have HB6 := Lib.hid (HB5.out.trans (hb6.mono HB5.out.size))
  have HAL := Lib.hid (alive8_any w6)
  clear HB5 hb6 HWB
  go_wp2_with fail
  refine HAL.out.mono ?_
  rintro en w7 ⟨rfl, hb7⟩
  have HB7 := Lib.hid (HB6.out.trans (hb7.mono HB6.out.size))
  clear HB6 hb7 HAL
  go_wp2_with fail
  go_ret
  exact ⟨rfl, HB7.out⟩

set_option maxHeartbeats 4000000 in
theorem words8_no_n_u (t r k x E1 E2 : Nat) (w : World) (ht : t < 18446744073709551616) (hr : r < 18446744073709551616) (hk : k < 18446744073709551616) (hx : x < 18446744073709551616) (hE : eachN t = E1 * 18446744073709551616 + E2) (hE2 : E2 < 18446744073709551616)
    (hin : E1 = 0) (hin2 : E2 ≤ k) (hrt : ¬ r < t) (htk : ¬ x < endN t) :
    Calls Try.prog 4 #[.int .u64 (t : Int), .int .u64 (r : Int), .int .u64 (k : Int), .int .u64 (x : Int)] w fun e w' => e = .returned (.bool true) ∧ Below w.heap.size w w' := by
  have HEV := Lib.hid (fun W => each_val t E1 E2 W ht hE hE2)
  have HTL := Lib.hid (fun W => tell_any t x W ht hx)
  rw [tell_no htk, decide_eq_false htk] at HTL
  have hke : ¬ (r < t ∧ k < eachN t) := by omega
  have HW := Lib.hid (word_not8 t r k w ht hr hk hke)
  have HTB := Lib.hid (fun W => tell_any t 0 W ht (by omega))
  obtain ⟨d, hd⟩ : ∃ d, tellN t 0 = d := ⟨_, rfl⟩
  obtain ⟨bz, hbz⟩ : ∃ bz, decide (0 < endN t) = bz := ⟨_, rfl⟩
  rw [hd, hbz, Int.natCast_zero] at HTB
  clear hd hbz hke
  subst hin
  have hin3 : ¬ (k : Int) < (E2 : Int) := by omega
  have hrt2 : ¬ (r : Int) < (t : Int) := by omega
  clear hE htk
  go_enter Try.func4, Try.ntmps4
  go_wp2_with fail
  refine HW.out.mono ?_
  rintro en w1 ⟨rfl, hb1⟩
  have HB1 := Lib.hid hb1
  clear HW hb1
  go_wp2_with fail
  refine (HEV.out _).mono ?_
  rintro en w2 ⟨rfl, hb2⟩
  have hb2' := HB1.out.trans (hb2.mono HB1.out.size)
  have HB2 := Lib.hid (hb2'.alloc hb2'.size (.cells #[.int .u64 0, .int .u64 (E2 : Int)] 26))
  clear HEV HB1 hb2 hb2'
  go_wp2_with fail
  refine (HTB.out _).mono ?_
  rintro en w4 ⟨rfl, hb4⟩
  have HB4 := Lib.hid (HB2.out.trans (hb4.mono HB2.out.size))
  clear HB2 hb4 HTB
  go_wp2_with fail
  refine (HTL.out _).mono ?_
  rintro en w5 ⟨rfl, hb5⟩
  have HB5 := Lib.hid (HB4.out.trans (hb5.mono HB4.out.size))
  have HAL := Lib.hid (alive8_any w5)
  clear HB4 hb5 HTL
  go_wp2_with fail
  refine HAL.out.mono ?_
  rintro en w7 ⟨rfl, hb7⟩
  have HB7 := Lib.hid (HB5.out.trans (hb7.mono HB5.out.size))
  clear HB5 hb7 HAL
  go_wp2_with fail
  go_ret
  exact ⟨rfl, HB7.out⟩

theorem words8_walk (t r k x : Nat) (w : World) (ht : t < 18446744073709551616) (hr : r < 18446744073709551616) (hk : k < 18446744073709551616) (hx : x < 18446744073709551616) :
    Calls Try.prog 4 #[.int .u64 (t : Int), .int .u64 (r : Int), .int .u64 (k : Int), .int .u64 (x : Int)] w fun e w' => e = .returned (.bool true) ∧ Below w.heap.size w w' := by
  obtain ⟨E1, E2, hE, hE2⟩ : ∃ E1 E2, eachN t = E1 * 18446744073709551616 + E2 ∧ E2 < 18446744073709551616 := ⟨eachN t / 18446744073709551616, eachN t % 18446744073709551616, by omega, by omega⟩
  by_cases hrt : r < t
  · rcases (show 0 < E1 ∨ (E1 = 0 ∧ k < E2) ∨ (E1 = 0 ∧ E2 ≤ k) by omega) with hin | ⟨hin, hin2⟩ | ⟨hin, hin2⟩
    · by_cases htk : x < endN t
      · exact words8_hi_r_t t r k x E1 E2 w ht hr hk hx hE hE2 hin hrt htk
      · exact words8_hi_r_u t r k x E1 E2 w ht hr hk hx hE hE2 hin hrt htk
    · by_cases htk : x < endN t
      · exact words8_lo_r_t t r k x E1 E2 w ht hr hk hx hE hE2 hin hin2 hrt htk
      · exact words8_lo_r_u t r k x E1 E2 w ht hr hk hx hE hE2 hin hin2 hrt htk
    · by_cases htk : x < endN t
      · exact words8_no_r_t t r k x E1 E2 w ht hr hk hx hE hE2 hin hin2 hrt htk
      · exact words8_no_r_u t r k x E1 E2 w ht hr hk hx hE hE2 hin hin2 hrt htk
  · rcases (show 0 < E1 ∨ (E1 = 0 ∧ k < E2) ∨ (E1 = 0 ∧ E2 ≤ k) by omega) with hin | ⟨hin, hin2⟩ | ⟨hin, hin2⟩
    · by_cases htk : x < endN t
      · exact words8_hi_n_t t r k x E1 E2 w ht hr hk hx hE hE2 hin hrt htk
      · exact words8_hi_n_u t r k x E1 E2 w ht hr hk hx hE hE2 hin hrt htk
    · by_cases htk : x < endN t
      · exact words8_lo_n_t t r k x E1 E2 w ht hr hk hx hE hE2 hin hin2 hrt htk
      · exact words8_lo_n_u t r k x E1 E2 w ht hr hk hx hE hE2 hin hin2 hrt htk
    · by_cases htk : x < endN t
      · exact words8_no_n_t t r k x E1 E2 w ht hr hk hx hE hE2 hin hin2 hrt htk
      · exact words8_no_n_u t r k x E1 E2 w ht hr hk hx hE hE2 hin hin2 hrt htk
end Go.Proofs.Ytengcnchjpkhkaa
