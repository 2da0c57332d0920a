/-
  Numbers in digits of 32 bits: bits, the order.
-/
import Derived.Test.YtemalomcdiahiaaDoorNatC
import Derived.Test.YtemalomcdiahiaaDoorMC
import Derived.Test.YtemalomcdiahiaaDoorCmp
import Derived.Deep.RegionHeld3
import Derived.Deep.RegionLaw
import Derived.Deep.CutBlock
import Derived.Deep.DeepCutAuto
import Derived.Test.YtemalomcdiahiaaDoorShelf
namespace Go.Proofs.YtemalomcdiahiaaDoor
open Go.RowKit Go.Shelf
set_option maxRecDepth 100000
attribute [local go_sem] Oper.semAt_some

theorem compareInt_eq (a b : Nat) : Lib.compareInt (a : Int) (b : Int) = cmpI a b := by
  unfold Lib.compareInt cmpI
  split <;> split <;> first | rfl | omega | (split <;> first | rfl | omega)

theorem isNaN32 (x : Int) (w : World) : Calls Tryd.prog 88 #[.int .u32 x] w fun e w' => e = .returned (.bool false) ∧ w = w' := by
  go_enter Tryd.func88, Tryd.ntmps88
  go_wp2
  go_ret
  exact ⟨rfl, rfl⟩
set_option maxHeartbeats 1000000 in
theorem compare32 (a b : Nat) (w : World) (ha : a < 4294967296) (hb : b < 4294967296) : Calls Tryd.prog 74 #[.int .u32 (a : Int), .int .u32 (b : Int)] w fun e w' => e = .returned (.int .i64 (cmpI a b)) ∧ w = w' := by
  obtain ⟨z, hz⟩ : ∃ z, cmpI a b = z := ⟨_, rfl⟩
  rw [hz]
  have h3 : (a < b ∧ z = -1) ∨ (b < a ∧ ¬ a < b ∧ z = 1) ∨ (a = b ∧ z = 0) := by
    rcases Nat.lt_trichotomy a b with h | h | h
    · exact .inl ⟨h, by rw [← hz, cmpI_lt h]⟩
    · exact .inr (.inr ⟨h, by rw [← hz, cmpI_eq h]⟩)
    · exact .inr (.inl ⟨h, by omega, by rw [← hz, cmpI_gt h]⟩)
  clear hz
  rcases h3 with ⟨h1, rfl⟩ | ⟨h1, h2, rfl⟩ | ⟨rfl, rfl⟩
  all_goals
    go_enter Tryd.func74, Tryd.ntmps74
    go_wp2_with (go_at_call 88; refine (isNaN32 _ _).mono ?_; rintro e w' ⟨rfl, rfl⟩)
    go_ret
    exact ⟨rfl, rfl⟩

/-- b is the least number of which a is below 2^b. -/
def IsBits (a b : Nat) : Prop := a < 2 ^ b ∧ (b = 0 ∨ 2 ^ (b - 1) ≤ a)
theorem IsBits.same {a b c : Nat} (h : IsBits a b) (k : IsBits a c) : b = c := by
  obtain ⟨h1, h2⟩ := h
  obtain ⟨k1, k2⟩ := k
  rcases Nat.lt_trichotomy b c with h | h | h
  · have := Nat.pow_le_pow_right (show 0 < 2 by omega) (show b ≤ c - 1 by omega)
    omega
  · exact h
  · have := Nat.pow_le_pow_right (show 0 < 2 by omega) (show c ≤ b - 1 by omega)
    omega
theorem bits_len {d low k : Nat} (hd : d < 4294967296) (h0 : d ≠ 0) (hlow : low < 4294967296 ^ k) : IsBits (low + 4294967296 ^ k * d) (k * 32 + Lib.bitLen d) := by
  obtain ⟨h1, h2, h3⟩ := Lib.bitLenAux_bounds 64 d (Nat.lt_trans hd (by decide)) h0
  have e : Lib.bitLenAux 64 d = Lib.bitLen d := rfl
  rw [e] at h1 h2 h3
  generalize Lib.bitLen d = l at *
  have hp : (4294967296 : Nat) ^ k = 2 ^ (k * 32) := by rw [show (4294967296 : Nat) = 2 ^ 32 by decide, ← Nat.pow_mul, Nat.mul_comm]
  rw [hp] at hlow ⊢
  refine ⟨?_, .inr ?_⟩
  · rw [Nat.pow_add]
    have : 2 ^ (k * 32) * (d + 1) ≤ 2 ^ (k * 32) * 2 ^ l := Nat.mul_le_mul_left _ h3
    rw [Nat.mul_add] at this
    omega
  · rw [show k * 32 + l - 1 = k * 32 + (l - 1) by omega, Nat.pow_add]
    have : 2 ^ (k * 32) * 2 ^ (l - 1) ≤ 2 ^ (k * 32) * d := Nat.mul_le_mul_left _ h2
    omega

set_option maxHeartbeats 1000000 in
theorem natBits_any (A : Option Addr) (xs : List Nat) (n c : Nat) (w : World) (hl : xs.length = n) (hr : Ra w w.heap.size A xs) (hd : Dg xs) (hn : n ≤ 10000000) (hc : n ≤ c) :
    Calls Tryd.prog 64 #[.slice A n c] w fun e w' => ∃ b : Nat, e = .returned (.int .i64 (b : Int)) ∧ IsBits (U xs) b ∧ w = w' := by
  have hcan := cl_can hd
  have hU := cl_U xs
  have hcl := cl_le xs
  go_enter Tryd.func64, Tryd.ntmps64
  go_wp2_with fail
  refine (shorten_cl A xs n c w hl hr hd hn hc).mono ?_
  rintro e w' ⟨rfl, rfl⟩
  obtain ⟨m, hm⟩ : ∃ m, cl xs = m := ⟨_, rfl⟩
  rw [hm] at hcan hU hcl ⊢
  have hmn : m ≤ n := by omega
  have HC := Lib.hid hcan
  have HL := Lib.hid hl
  clear hm hcan hl
  by_cases h0 : 0 < m
  · obtain ⟨k, rfl⟩ : ∃ k, m = k + 1 := ⟨m - 1, by omega⟩
    obtain ⟨b, o, hA, _, cx⟩ := hr.at_ (k := k) (by omega)
    subst hA
    have hdk := hd.nth k
    have hb : IsBits (U xs) (k * 32 + Lib.bitLen (nth xs k)) := by
      rw [← hU, U_take_succ]
      refine bits_len hdk ?_ ?_
      · have h1 := HC.out.2 (by intro h; have h2 := congrArg List.length h; rw [List.length_take, List.length_nil] at h2; have := HL.out; omega)
        have h2 : (xs.take (k + 1)).length = k + 1 := by simp; omega
        rw [h2, nth_take (by omega)] at h1
        simpa using h1
      · have h1 := U_lt (hd.take k)
        rwa [show (xs.take k).length = k by simp; omega] at h1
    have HB := Lib.hid hb
    have hbl : Lib.bitLen (nth xs k) ≤ 32 := Lib.bitLen_le _ 32 (by omega) (Nat.lt_of_lt_of_le hdk (by decide))
    obtain ⟨l, hll⟩ : ∃ l, Lib.bitLen (nth xs k) = l := ⟨_, rfl⟩
    rw [hll] at HB hbl
    have HLL := Lib.hid hll
    clear hb hll hU
    go_wp2_with fail
    refine (Tryd.bits_Len32 ((nth xs k : Nat) : Int) _ (by omega) (by omega)).mono ?_
    rintro e w' ⟨rfl, rfl⟩
    rw [Int.toNat_natCast, HLL.out]
    go_wp2_with fail
    go_ret
    exact ⟨k * 32 + l, by go_num, HB.out, rfl⟩
  · obtain rfl : m = 0 := by omega
    have h1 : U xs = 0 := by rw [← hU]; simp [U]
    have HU := Lib.hid h1
    clear h1 hU
    go_wp2_with fail
    go_ret
    exact ⟨0, rfl, ⟨by rw [HU.out]; decide, .inl rfl⟩, rfl⟩

theorem cmp_at {xs ys : List Nat} {m p : Nat} (hx : Dg xs) (hy : Dg ys) (hlx : xs.length = m) (hly : ys.length = m) (hp : p < m) (he : ∀ j, p < j → nth xs j = nth ys j) (hne : nth xs p ≠ nth ys p) : cmpI (U xs) (U ys) = cmpI (nth xs p) (nth ys p) := by
  have hdrop : xs.drop (p + 1) = ys.drop (p + 1) := by
    apply List.ext_getElem
    · simp [hlx, hly]
    · intro i h1 h2
      have := he (p + 1 + i) (by omega)
      simp only [List.length_drop] at h1 h2
      rw [nth_in (by omega), nth_in (by omega)] at this
      simpa using this
  have split : ∀ zs : List Nat, zs.length = m → U zs = U (zs.take p) + 4294967296 ^ p * nth zs p + 4294967296 ^ (p + 1) * U (zs.drop (p + 1)) := fun zs hl => by
    have := U_append (zs.take (p + 1)) (zs.drop (p + 1))
    rw [List.take_append_drop, List.length_take, Nat.min_eq_left (by omega), U_take_succ] at this
    exact this
  have h1 := U_lt (hx.take p)
  have h2 := U_lt (hy.take p)
  rw [show (xs.take p).length = p by simp; omega] at h1
  rw [show (ys.take p).length = p by simp; omega] at h2
  rw [split xs hlx, split ys hly, hdrop]
  generalize 4294967296 ^ (p + 1) * U (ys.drop (p + 1)) = R
  generalize U (xs.take p) = a at *
  generalize U (ys.take p) = b at *
  generalize 4294967296 ^ p = P at *
  rcases Nat.lt_or_gt_of_ne hne with h | h
  · rw [cmpI_lt h]
    have : P * (nth xs p + 1) ≤ P * nth ys p := Nat.mul_le_mul_left _ h
    rw [Nat.mul_add] at this
    exact cmpI_lt (by omega)
  · rw [cmpI_gt h]
    have : P * (nth ys p + 1) ≤ P * nth xs p := Nat.mul_le_mul_left _ h
    rw [Nat.mul_add] at this
    exact cmpI_gt (by omega)
theorem cmp_len {xs ys : List Nat} (hx : Cn xs) (hy : Cn ys) (h : xs.length < ys.length) : U xs < U ys := by
  have h1 := U_lt hx.1
  have h2 := U_ge hy (by rintro rfl; simp at h)
  have h3 := Nat.pow_le_pow_right (show 0 < 4294967296 by omega) (show xs.length ≤ ys.length - 1 by omega)
  omega
end Go.Proofs.YtemalomcdiahiaaDoor
