/-
  Package wide of the program: halves, Full, Add, Sub, Mul, Fits.
-/
import Derived.Test.YtcanahjilfnijaaProg
import Derived.WalkKit
import Derived.BigQuiet
import Derived.Outline
import Derived.Lib.Hide
namespace Go.Proofs.Ytcanahjilfnijaa
open Go.RowKit

theorem below_drewN {w : World} (n : Nat) : Below w.heap.size w (w.drewN n) := ⟨rfl, rfl, rfl, Nat.le_refl _, fun _ _ => rfl⟩

theorem and_mask32 (a : Nat) (ha : a < 18446744073709551616) : bits .and .u64 (a : Int) 4294967295 = ((a % 4294967296 : Nat) : Int) := by
  have h := bits_and_u64_nat a 4294967295 ha (by decide)
  have e : a &&& 4294967295 = a % 4294967296 := Nat.and_two_pow_sub_one_eq_mod a 32
  rw [e] at h
  exact h
theorem or_low32 (h l : Nat) (hh : h < 4294967296) (hl : l < 4294967296) : bits .or .u64 (((h * 4294967296 : Nat)) : Int) (l : Int) = ((h * 4294967296 + l : Nat) : Int) := by
  have h1 := bits_or_u64_nat (h * 4294967296) l (by omega) (by omega)
  have e : h * 4294967296 ||| l = h * 4294967296 + l := by
    have := Nat.two_pow_add_eq_or_of_lt (i := 32) (b := l) hl h
    rw [Nat.mul_comm] at this
    exact this.symm
  rw [e] at h1
  exact h1

/-- The high and the low half of a. -/
def Halves (a : Nat) (w : World) (e : Ending) (w' : World) : Prop :=
  ∃ h l : Nat, e = .returned (.tuple #[.int .u64 (h : Int), .int .u64 (l : Int)]) ∧ a = h * 4294967296 + l ∧ h < 4294967296 ∧ l < 4294967296 ∧ w = w'

set_option maxHeartbeats 400000 in
theorem halves_any (a : Nat) (w : World) (ha : a < 18446744073709551616) : Calls Try.prog 36 #[.int .u64 (a : Int)] w (Halves a w) := by
  have HM := Lib.hid (and_mask32 a ha)
  go_enter Try.func36, Try.ntmps36
  go_wp2_with fail
  rw [HM.out]
  go_ret2
  exact ⟨a / 4294967296, a % 4294967296, by simp, by omega, by omega, by omega, rfl⟩

theorem prod32 {a b : Nat} (ha : a < 4294967296) (hb : b < 4294967296) : a * b ≤ 18446744065119617025 := by
  have := Nat.mul_le_mul (show a ≤ 4294967295 by omega) (show b ≤ 4294967295 by omega)
  omega
theorem u64_in (n : Nat) (h : n < 18446744073709551616) : IntKind.u64.wrap (n : Int) = (n : Int) := by rw [IntKind.wrap_u64]; omega
/-- A product of halves, and a half: no wrap. -/
theorem mul_u64 {a b : Nat} (ha : a < 4294967296) (hb : b < 4294967296) : IntKind.u64.wrap ((a : Int) * (b : Int)) = ((a * b : Nat) : Int) := by
  have h := prod32 ha hb
  rw [show (a : Int) * (b : Int) = ((a * b : Nat) : Int) by simp, u64_in _ (by omega)]
theorem mul_add_u64 {a b c : Nat} (ha : a < 4294967296) (hb : b < 4294967296) (hc : c < 4294967296) : IntKind.u64.wrap (IntKind.u64.wrap ((a : Int) * (b : Int)) + (c : Int)) = ((a * b + c : Nat) : Int) := by
  have h := prod32 ha hb
  rw [mul_u64 ha hb, show ((a * b : Nat) : Int) + (c : Int) = ((a * b + c : Nat) : Int) by simp, u64_in _ (by omega)]

/-- What is answered is the wide number p. -/
def RetWide (p : Nat) (w : World) (e : Ending) (w' : World) : Prop :=
  ∃ H L : Nat, e = .returned (.agg #[.int .u64 (H : Int), .int .u64 (L : Int)]) ∧ p = H * 18446744073709551616 + L ∧ H < 18446744073709551616 ∧ L < 18446744073709551616 ∧ Below w.heap.size w w'

theorem full_math {a b ah al bh bl c1 l1 c2 m2 c3 m3 : Nat} (ha : a < 18446744073709551616) (hb : b < 18446744073709551616) (hea : a = ah * 4294967296 + al) (heb : b = bh * 4294967296 + bl)
    (he1 : al * bl = c1 * 4294967296 + l1) (he2 : ah * bl + c1 = c2 * 4294967296 + m2) (he3 : al * bh + m2 = c3 * 4294967296 + m3) (hl : l1 < 4294967296) (hm : m3 < 4294967296) :
    ah * bh + c2 + c3 = a * b / 18446744073709551616 ∧ m3 * 4294967296 + l1 = a * b % 18446744073709551616 ∧ ah * bh + c2 + c3 < 18446744073709551616 := by
  have e : a * b = (ah * bh + c2 + c3) * 18446744073709551616 + (m3 * 4294967296 + l1) := by
    subst hea heb
    grind
  have hle := Nat.mul_le_mul (show a ≤ 18446744073709551615 by omega) (show b ≤ 18446744073709551615 by omega)
  omega

set_option maxHeartbeats 800000 in
theorem full_any (a b : Nat) (w : World) (ha : a < 18446744073709551616) (hb : b < 18446744073709551616) :
    Calls Try.prog 29 #[.int .u64 (a : Int), .int .u64 (b : Int)] w (RetWide (a * b) w) := by
  go_enter Try.func29, Try.ntmps29
  go_wp2_with fail
  refine (halves_any a _ ha).mono ?_
  rintro e w1 ⟨ah, al, rfl, hea, hah, hal, rfl⟩
  have HEA := Lib.hid hea
  clear hea
  go_wp2_with fail
  refine (halves_any b _ hb).mono ?_
  rintro e w1 ⟨bh, bl, rfl, heb, hbh, hbl, rfl⟩
  have HEB := Lib.hid heb
  clear heb
  go_wp2_with fail
  rw [mul_u64 hal hbl]
  refine (halves_any (al * bl) _ (by have := prod32 hal hbl; omega)).mono ?_
  rintro e w1 ⟨c1, l1, rfl, he1, hc1, hl1, rfl⟩
  have HE1 := Lib.hid he1
  clear he1
  go_wp2_with fail
  rw [mul_add_u64 hah hbl hc1]
  refine (halves_any (ah * bl + c1) _ (by have := prod32 hah hbl; omega)).mono ?_
  rintro e w1 ⟨c2, m2, rfl, he2, hc2, hm2, rfl⟩
  have HE2 := Lib.hid he2
  clear he2
  go_wp2_with fail
  rw [mul_add_u64 hal hbh hm2]
  refine (halves_any (al * bh + m2) _ (by have := prod32 hal hbh; omega)).mono ?_
  rintro e w1 ⟨c3, m3, rfl, he3, hc3, hm3, rfl⟩
  have HE3 := Lib.hid he3
  clear he3
  go_wp2_with fail
  obtain ⟨hH, hL, hHb⟩ := full_math ha hb HEA.out HEB.out HE1.out HE2.out HE3.out hl1 hm3
  have e1 : IntKind.u64.wrap (IntKind.u64.wrap (IntKind.u64.wrap ((ah : Int) * (bh : Int)) + (c2 : Int)) + (c3 : Int)) = ((a * b / 18446744073709551616 : Nat) : Int) := by
    rw [mul_add_u64 hah hbh hc2, show ((ah * bh + c2 : Nat) : Int) + (c3 : Int) = ((ah * bh + c2 + c3 : Nat) : Int) by simp, hH, u64_in _ (by rw [← hH]; exact hHb)]
  have e2 : bits .or .u64 ((m3 : Int) * 4294967296) (l1 : Int) = ((a * b % 18446744073709551616 : Nat) : Int) := by
    rw [show (m3 : Int) * 4294967296 = ((m3 * 4294967296 : Nat) : Int) by simp, or_low32 m3 l1 hm3 hl1, hL]
  rw [e1, e2]
  exact bodyPost_ret (v := .agg #[.int .u64 ((a * b / 18446744073709551616 : Nat) : Int), .int .u64 ((a * b % 18446744073709551616 : Nat) : Int)]) (by simp [results, Try.results29, go_sem]) rfl
    ⟨a * b / 18446744073709551616, a * b % 18446744073709551616, rfl, by omega, by rw [← hH]; exact hHb, by omega, (Below.refl _ _).alloc (Nat.le_refl _) _⟩

/-- The contracts of the plain calls: two each, as it fits or not. -/
theorem fits_any (hi lo : Nat) (w : World) (h : hi = 0) :
    Calls Try.prog 32 #[.agg #[.int .u64 (hi : Int), .int .u64 (lo : Int)]] w fun e w' => e = .returned (.tuple #[.int .u64 (lo : Int), .bool true]) ∧ Below w.heap.size w w' := by
  subst h
  go_enter Try.func32, Try.ntmps32
  go_wp2_with fail
  go_ret2
  exact ⟨rfl, (Below.refl _ _).alloc (Nat.le_refl _) _⟩
theorem fits_no (hi lo : Nat) (w : World) (h : 0 < hi) :
    Calls Try.prog 32 #[.agg #[.int .u64 (hi : Int), .int .u64 (lo : Int)]] w fun e w' => e = .returned (.tuple #[.int .u64 0, .bool false]) ∧ Below w.heap.size w w' := by
  have hn : ((hi : Int) != 0) = true := by simp; omega
  go_enter Try.func32, Try.ntmps32
  go_wp2_with fail
  go_ret2
  exact ⟨rfl, (Below.refl _ _).alloc (Nat.le_refl _) _⟩

/-- A number that fits a word, and whether it does. -/
def fw (n : Nat) : Nat := if n < 18446744073709551616 then n else 0
def fb (n : Nat) : Bool := decide (n < 18446744073709551616)
theorem fw_in {n : Nat} (h : n < 18446744073709551616) : fw n = n := by simp [fw, h]
theorem fw_out {n : Nat} (h : 18446744073709551616 ≤ n) : fw n = 0 := by simp [fw]; omega
theorem fb_in {n : Nat} (h : n < 18446744073709551616) : fb n = true := by simp [fb, h]
theorem fb_out {n : Nat} (h : 18446744073709551616 ≤ n) : fb n = false := by simp [fb]; omega

set_option maxHeartbeats 400000 in
theorem mulw_any (a b : Nat) (w : World) (ha : a < 18446744073709551616) (hb : b < 18446744073709551616) :
    Calls Try.prog 21 #[.int .u64 (a : Int), .int .u64 (b : Int)] w fun e w' => e = .returned (.tuple #[.int .u64 ((fw (a * b) : Nat) : Int), .bool (fb (a * b))]) ∧ Below w.heap.size w w' := by
  go_enter Try.func21, Try.ntmps21
  go_wp2_with fail
  refine (full_any a b _ ha hb).mono ?_
  rintro e w1 ⟨H, L, rfl, hp, hH, hL, hb1⟩
  have HP := Lib.hid hp
  clear hp
  go_wp2_with fail
  by_cases h : a * b < 18446744073709551616
  · refine (fits_any H L _ (by have := HP.out; omega)).mono ?_
    rintro e w2 ⟨rfl, hb2⟩
    go_wp2_with fail
    go_ret2
    have hz : L = a * b := by have := HP.out; omega
    exact ⟨by rw [fw_in h, fb_in h, ← hz]; rfl, hb1.trans (hb2.mono hb1.size)⟩
  · refine (fits_no H L _ (by have := HP.out; omega)).mono ?_
    rintro e w2 ⟨rfl, hb2⟩
    go_wp2_with fail
    go_ret2
    exact ⟨by rw [fw_out (by omega), fb_out (by omega)]; rfl, hb1.trans (hb2.mono hb1.size)⟩

set_option maxHeartbeats 400000 in
theorem addw_any (a b : Nat) (w : World) (ha : a < 18446744073709551616) (hb : b < 18446744073709551616) :
    Calls Try.prog 31 #[.int .u64 (a : Int), .int .u64 (b : Int)] w fun e w' => e = .returned (.tuple #[.int .u64 ((fw (a + b) : Nat) : Int), .bool (fb (a + b))]) ∧ w = w' := by
  by_cases h : a + b < 18446744073709551616
  · rw [fw_in h, fb_in h]
    have hs : IntKind.u64.wrap ((a : Int) + (b : Int)) = (a : Int) + (b : Int) := by rw [IntKind.wrap_u64]; omega
    have hd : decide ((a : Int) + (b : Int) < (a : Int)) = false := by simp; omega
    go_enter Try.func31, Try.ntmps31
    go_wp2_with fail
    go_ret2
    exact ⟨by simp, rfl⟩
  · rw [fw_out (by omega), fb_out (by omega)]
    obtain ⟨s, hs'⟩ : ∃ s : Nat, s = a + b - 18446744073709551616 := ⟨_, rfl⟩
    have hs : IntKind.u64.wrap ((a : Int) + (b : Int)) = (s : Int) := by rw [IntKind.wrap_u64]; omega
    have hd : s < a := by omega
    clear hs'
    go_enter Try.func31, Try.ntmps31
    go_wp2_with fail
    go_ret2
    exact ⟨rfl, rfl⟩

end Go.Proofs.Ytcanahjilfnijaa
