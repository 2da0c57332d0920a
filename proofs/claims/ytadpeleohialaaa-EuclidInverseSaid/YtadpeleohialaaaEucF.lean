/-
  Package euclid, the document's: MulMod, PowMod.
-/
import Derived.Test.YtadpeleohialaaaEucE
import Derived.Test.YtadpeleohialaaaDivN
namespace Go.Proofs.Ytadpeleohialaaa
open Go.RowKit

theorem pow_word90 {a : Nat} (h : a < 18446744073709551616) : a < 65536 ^ 90 := Nat.lt_of_lt_of_le h (by
  have : (65536 : Nat) ^ 4 ≤ 65536 ^ 90 := Nat.pow_le_pow_right (by omega) (by omega)
  omega)
theorem pow_prod90 {a b : Nat} (ha : a < 18446744073709551616) (hb : b < 18446744073709551616) : a * b < 65536 ^ 90 := by
  have h1 := Nat.mul_le_mul (show a ≤ 18446744073709551615 by omega) (show b ≤ 18446744073709551615 by omega)
  have : (65536 : Nat) ^ 8 ≤ 65536 ^ 90 := Nat.pow_le_pow_right (by omega) (by omega)
  omega

set_option maxHeartbeats 800000 in
theorem refMulmod_any (a b m : Nat) (w : World) (ha : a < 18446744073709551616) (hb : b < 18446744073709551616) (hm : m < 18446744073709551616) (h0 : 0 < m) :
    Calls Try.prog 15 #[.int .u64 (a : Int), .int .u64 (b : Int), .int .u64 (m : Int)] w fun e w' => e = .returned (.int .u64 ((a * b % m : Nat) : Int)) ∧ Below w.heap.size w w' := by
  obtain ⟨p, hp0⟩ : ∃ p, a * b = p := ⟨_, rfl⟩
  have hp9 := pow_prod90 ha hb
  have hm9 := pow_word90 hm
  obtain ⟨r, hr0⟩ : ∃ r, p % m = r := ⟨_, rfl⟩
  rw [hp0, hr0]
  have hrm : r < 18446744073709551616 := by have := Nat.mod_lt p h0; omega
  rw [hp0] at hp9
  have HP0 := Lib.hid hp0
  have HR0 := Lib.hid hr0
  have HP9 := Lib.hid hp9
  have HM9 := Lib.hid hm9
  clear hp0 hr0 hp9 hm9
  go_enter Try.func15, Try.ntmps15
  go_wp2_with fail
  refine (of_any a _ ha).mono ?_
  rintro e w1 ⟨v1, rfl, hn1, hb1⟩
  have N1 := Lib.hid hn1
  clear hn1
  go_wp2_with fail
  refine (of_any b _ hb).mono ?_
  rintro e w2 ⟨v2, rfl, hn2, hb2⟩
  have N1b := Lib.hid (N1.out.below hb2)
  have N2 := Lib.hid hn2
  have hB2 := hb1.trans (hb2.mono hb1.size)
  clear hn2 N1 hb1 hb2
  go_wp2_with fail
  refine (mul_num v1 v2 a b _ _ _ N1b.out N2.out (pow_word ha) (pow_word hb)).mono ?_
  rintro e w3 ⟨v3, rfl, hn3, hb3⟩
  rw [HP0.out] at hn3
  have N3 := Lib.hid hn3
  have hB3 := hB2.trans (hb3.mono hB2.size)
  clear hn3 N1b N2 hB2 hb3
  go_wp2_with fail
  refine (of_any m _ hm).mono ?_
  rintro e w4 ⟨v4, rfl, hn4, hb4⟩
  have N3b := Lib.hid (N3.out.below hb4)
  have N4 := Lib.hid hn4
  have hB4 := hB3.trans (hb4.mono hB3.size)
  clear hn4 N3 hB3 hb4
  go_wp2_with fail
  refine (div_num v3 v4 p m _ _ _ N3b.out N4.out HP9.out HM9.out h0).mono ?_
  rintro e w5 ⟨v5, v6, rfl, hn5, hn6, hb5⟩
  rw [HR0.out] at hn6
  obtain ⟨A5, n5, c5, rfl⟩ := hn5.shape
  obtain ⟨A6, n6, c6, rfl⟩ := hn6.shape
  have N6 := Lib.hid hn6
  have hB5 := hB4.trans (hb5.mono hB4.size)
  clear hn5 hn6 N3b N4 hB4 hb5
  go_wp2_with fail
  refine (word_num _ r _ _ ((N6.out.alloc _).alloc _)).mono ?_
  rintro e w6 ⟨rfl, hb6⟩
  rw [fw_in hrm, fb_in hrm]
  have hB6 := (hB5.trans ((below2 w5 _ _).mono hB5.size)).trans (hb6.mono (by have := hB5.size; simp; omega))
  clear N6 hb6
  go_wp2_with fail
  go_ret
  exact ⟨rfl, hB6⟩

theorem pow_bit {a n m l x : Nat} (hx : x = a ^ (n / 2 ^ (l + 1)) % m) : (n / 2 ^ l % 2 = 0 → x * x % m = a ^ (n / 2 ^ l) % m) ∧ (n / 2 ^ l % 2 = 1 → (x * x % m) * a % m = a ^ (n / 2 ^ l) % m) := by
  have e : n / 2 ^ (l + 1) = n / 2 ^ l / 2 := by rw [Nat.pow_succ, Nat.div_div_eq_div_mul]
  rw [e] at hx
  generalize n / 2 ^ l = q at *
  subst hx
  refine ⟨fun h => ?_, fun h => ?_⟩
  · obtain ⟨c, rfl⟩ : ∃ c, q = c + c := ⟨q / 2, by omega⟩
    rw [show (c + c) / 2 = c by omega, Nat.pow_add, ← Nat.mul_mod]
  · obtain ⟨c, rfl⟩ : ∃ c, q = c + c + 1 := ⟨q / 2, by omega⟩
    rw [show (c + c + 1) / 2 = c by omega, Nat.pow_succ, Nat.pow_add, ← Nat.mul_mod, Nat.mul_mod (a ^ c * a ^ c % m), Nat.mod_mod, ← Nat.mul_mod]

set_option maxHeartbeats 1600000 in
theorem refPowmod_any (a n m : Nat) (w : World) (ha : a < 18446744073709551616) (hn : n < 18446744073709551616) (hm : m < 18446744073709551616) (h0 : 0 < m) :
    Calls Try.prog 16 #[.int .u64 (a : Int), .int .u64 (n : Int), .int .u64 (m : Int)] w fun e w' => e = .returned (.int .u64 ((a ^ n % m : Nat) : Int)) ∧ Below w.heap.size w w' := by
  obtain ⟨p, hp0⟩ : ∃ p, a ^ n % m = p := ⟨_, rfl⟩
  rw [hp0]
  have HP := Lib.hid hp0
  have h1 : ((m : Int) == 0) = false := by simp; omega
  have h2 : ¬ (m : Int) = 0 := by omega
  have ho : 1 % m < m := Nat.mod_lt _ h0
  have e1 : (1 : Int) % (m : Int) = ((1 % m : Nat) : Int) := by simp
  have e1t : (1 : Int).tmod (m : Int) = ((1 % m : Nat) : Int) := by simp [Int.tmod]
  have HST : Hid (1 % m = a ^ (n / 2 ^ 64) % m) := Lib.hid (by rw [Nat.div_eq_of_lt (by omega), Nat.pow_zero])
  generalize 1 % m = o at *
  clear hp0
  go_enter Try.func16, Try.ntmps16
  go_wp2_with fail
  go_loopw [7, 8] (fun y7 y8 wr => ∃ (k : Nat) (j : Int) (x : Nat), y7 = .int .u64 (x : Int) ∧ y8 = .int .i64 j ∧ j + 1 = (k : Int) ∧ k ≤ 64 ∧ x < m ∧ Hid (x = a ^ (n / 2 ^ k) % m) ∧ Below w.heap.size w wr) (fun _ y8 _ => (intOf y8 + 1).toNat)
  case atStart => exact ⟨64, _, o, rfl, rfl, by omega, by omega, ho, HST, Below.refl _ _⟩
  case round =>
    clear HST e1 e1t
    obtain ⟨k, j, x, rfl, rfl, hj, hk, hx, HI, hbl⟩ := hrel
    by_cases hk0 : k = 0
    · subst hk0
      obtain rfl : j = -1 := by omega
      have HE : Hid (x = p) := Lib.hid (by have := HI.out; rw [Nat.pow_zero, Nat.div_one] at this; rw [this, HP.out])
      go_wp2_with fail
      go_ret
      exact ⟨by rw [HE.out]; rfl, hbl⟩
    · obtain ⟨l, rfl⟩ : ∃ l, k = l + 1 := ⟨k - 1, by omega⟩
      obtain rfl : j = (l : Int) := by omega
      have hxx : x * x % m < m := Nat.mod_lt _ h0
      have hl0 : (0 : Int) ≤ (l : Int) := by omega
      have hcv : IntKind.u64.wrap (l : Int) = (l : Int) := u64_in _ (by omega)
      obtain ⟨hev, hod⟩ := pow_bit HI.out
      have ebit : ((n : Int) / 2 ^ l).tmod 2 = ((n / 2 ^ l % 2 : Nat) : Int) := by
        rw [show (n : Int) / 2 ^ l = ((n / 2 ^ l : Nat) : Int) by simp]
        rfl
      have hc1 := fun wz => refMulmod_any x x m wz (by omega) (by omega) hm h0
      obtain ⟨y, hy⟩ : ∃ y, x * x % m = y := ⟨_, rfl⟩
      rw [hy] at hev hod hxx
      simp only [hy] at hc1
      clear hy HI
      rcases (show n / 2 ^ l % 2 = 0 ∨ n / 2 ^ l % 2 = 1 by omega) with hd | hd
      · have hbit : (((n : Int) / 2 ^ l).tmod 2 == 1) = false := by rw [ebit, hd]; rfl
        have HN := Lib.hid (hev hd)
        clear hev hod hd ebit
        go_wp2_with fail
        refine (hc1 _).mono ?_
        rintro e u1 ⟨rfl, hb1⟩
        have hB := hbl.trans (hb1.mono hbl.size)
        clear hb1 hc1
        go_wp2_with fail
        go_roundw
        case rel => exact ⟨l, (l : Int) - 1, y, rfl, by go_num, by omega, by omega, hxx, HN, hB⟩
        case measure => simp [intOf]
      · have hbit : (((n : Int) / 2 ^ l).tmod 2 == 1) = true := by rw [ebit, hd]; rfl
        have hN := hod hd
        have hc2 := fun wz => refMulmod_any y a m wz (by omega) ha hm h0
        have hyy : y * a % m < m := Nat.mod_lt _ h0
        obtain ⟨z, hz⟩ : ∃ z, y * a % m = z := ⟨_, rfl⟩
        rw [hz] at hN hyy
        simp only [hz] at hc2
        have HN := Lib.hid hN
        clear hev hod hd ebit hz hN
        go_wp2_with fail
        refine (hc1 _).mono ?_
        rintro e u1 ⟨rfl, hb1⟩
        have hB := hbl.trans (hb1.mono hbl.size)
        clear hb1 hc1
        go_wp2_with fail
        refine (hc2 _).mono ?_
        rintro e u2 ⟨rfl, hb2⟩
        have hB := hB.trans (hb2.mono hB.size)
        clear hb2 hc2
        go_wp2_with fail
        go_roundw
        case rel => exact ⟨l, (l : Int) - 1, z, rfl, by go_num, by omega, by omega, hyy, HN, hB⟩
        case measure => simp [intOf]
end Go.Proofs.Ytadpeleohialaaa
