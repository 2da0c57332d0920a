/-
  Package euclid of the program: Reduce, MulMod, PowMod, Inverse.
-/
import Derived.Test.YtadpeleohialaaaEucC
namespace Go.Proofs.Ytadpeleohialaaa
open Go.RowKit

set_option maxHeartbeats 800000 in
theorem reduce_any (a b : Nat) (w : World) (ha : a < 18446744073709551616) (hb : b < 18446744073709551616) :
    Calls Try.prog 9 #[.int .u64 (a : Int), .int .u64 (b : Int)] w fun e w' =>
      e = .returned (.tuple #[.int .u64 ((a / Nat.gcd a b : Nat) : Int), .int .u64 ((b / Nat.gcd a b : Nat) : Int)]) ∧ Below w.heap.size w w' := by
  obtain ⟨g, hg⟩ : ∃ g, Nat.gcd a b = g := ⟨_, rfl⟩
  rw [hg]
  have HG := Lib.hid hg
  obtain ⟨qa, hqa0⟩ : ∃ q, a / g = q := ⟨_, rfl⟩
  obtain ⟨qb, hqb0⟩ : ∃ q, b / g = q := ⟨_, rfl⟩
  rw [hqa0, hqb0]
  have HQA := Lib.hid hqa0
  have HQB := Lib.hid hqb0
  clear hg hqa0 hqb0
  go_enter Try.func9, Try.ntmps9
  go_wp2_with fail
  refine (common_any a b _ ha hb).mono ?_
  rintro e w1 ⟨rfl, hb1⟩
  rw [HG.out]
  by_cases h0 : g = 0
  · obtain ⟨rfl, rfl⟩ : a = 0 ∧ b = 0 := by have := HG.out; rw [h0] at this; exact Nat.gcd_eq_zero_iff.1 this
    subst h0
    obtain rfl : 0 = qa := by have := HQA.out; simpa using this
    obtain rfl : 0 = qb := by have := HQB.out; simpa using this
    clear HG HQA HQB
    rw [Int.natCast_zero]
    go_wp2_with fail
    go_ret2
    exact ⟨rfl, hb1⟩
  · have hg0 : 0 < g := by omega
    have hg1 : ((g : Int) == 0) = false := by simp; omega
    have hg2 : ¬ (g : Int) = 0 := by omega
    have hqa : a / g ≤ a := Nat.div_le_self _ _
    have hqb : b / g ≤ b := Nat.div_le_self _ _
    have e1 : IntKind.u64.wrap ((a : Int) / (g : Int)) = ((a / g : Nat) : Int) := by rw [show (a : Int) / (g : Int) = ((a / g : Nat) : Int) by simp, u64_in _ (by omega)]
    have e2 : IntKind.u64.wrap ((b : Int) / (g : Int)) = ((b / g : Nat) : Int) := by rw [show (b : Int) / (g : Int) = ((b / g : Nat) : Int) by simp, u64_in _ (by omega)]
    have e1t : IntKind.u64.wrap ((a : Int).tdiv (g : Int)) = ((a / g : Nat) : Int) := by rw [show (a : Int).tdiv (g : Int) = ((a / g : Nat) : Int) by rfl, u64_in _ (by omega)]
    have e2t : IntKind.u64.wrap ((b : Int).tdiv (g : Int)) = ((b / g : Nat) : Int) := by rw [show (b : Int).tdiv (g : Int) = ((b / g : Nat) : Int) by rfl, u64_in _ (by omega)]
    rw [HQA.out] at hqa e1 e1t
    rw [HQB.out] at hqb e2 e2t
    clear HG HQA HQB
    go_wp2_with fail
    go_quiet (fail)
    go_wp2_with fail
    go_ret2
    exact ⟨rfl, bel_drewN hb1 _⟩

set_option maxHeartbeats 400000 in
theorem mulmod_zero (a b : Nat) (w : World) (ha : a < 18446744073709551616) (hb : b < 18446744073709551616) :
    Calls Try.prog 13 #[.int .u64 (a : Int), .int .u64 (b : Int), .int .u64 0] w fun e w' => e = .returned (.tuple #[.int .u64 0, .bool false]) ∧ Below w.heap.size w w' := by
  go_enter Try.func13, Try.ntmps13
  go_wp2_with fail
  refine (full_any a b _ ha hb).mono ?_
  rintro e w1 ⟨H, L, rfl, hp, hH, hL, hb1⟩
  clear hp
  go_wp2_with fail
  refine (divw_zero H L _).mono ?_
  rintro e w2 ⟨rfl, hb2⟩
  have hB := hb1.trans (hb2.mono hb1.size)
  clear hb1 hb2
  go_wp2_with fail
  go_ret2
  exact ⟨rfl, hB.alloc hB.size _⟩

set_option maxHeartbeats 400000 in
theorem mulmod_any (a b m : Nat) (w : World) (ha : a < 18446744073709551616) (hb : b < 18446744073709551616) (hm : m < 18446744073709551616) (h0 : 0 < m) :
    Calls Try.prog 13 #[.int .u64 (a : Int), .int .u64 (b : Int), .int .u64 (m : Int)] w fun e w' => e = .returned (.tuple #[.int .u64 ((a * b % m : Nat) : Int), .bool true]) ∧ Below w.heap.size w w' := by
  obtain ⟨p, hp0⟩ : ∃ p, a * b = p := ⟨_, rfl⟩
  rw [hp0]
  have HP0 := Lib.hid hp0
  clear hp0
  go_enter Try.func13, Try.ntmps13
  go_wp2_with fail
  refine (full_any a b _ ha hb).mono ?_
  rintro e w1 ⟨H, L, rfl, hp, hH, hL, hb1⟩
  have HP := Lib.hid hp
  clear hp
  go_wp2_with fail
  refine (divw_any H L m _ hH hL hm h0).mono ?_
  rintro e w2 ⟨QH, QL, r, rfl, hQH, hQL, hq, hr, hb2⟩
  have HR : Hid (r = p % m) := Lib.hid (by rw [← HP0.out, HP.out, hq, Nat.mul_add_mod', Nat.mod_eq_of_lt hr])
  have hB := hb1.trans (hb2.mono hb1.size)
  clear hb1 hb2 hq
  go_wp2_with fail
  go_ret2
  exact ⟨by rw [HR.out]; rfl, hB.alloc hB.size _⟩

/-- a - b modulo m, of two numbers below m. -/
def lessM (a b m : Nat) : Nat := if b ≤ a then a - b else m - (b - a)
theorem lessM_lt {a b m : Nat} (ha : a < m) : lessM a b m < m := by unfold lessM; split <;> omega
theorem lessM_mod {a b m : Nat} (hb : b < m) : ∃ k : Int, (lessM a b m : Int) = (a : Int) - (b : Int) + k * (m : Int) := by
  unfold lessM
  split
  · exact ⟨0, by omega⟩
  · exact ⟨1, by omega⟩
set_option maxHeartbeats 400000 in
theorem lessMod_any (a b m : Nat) (w : World) (ha : a < m) (hb : b < m) (hm : m < 18446744073709551616) :
    Calls Try.prog 28 #[.int .u64 (a : Int), .int .u64 (b : Int), .int .u64 (m : Int)] w fun e w' => e = .returned (.int .u64 ((lessM a b m : Nat) : Int)) ∧ w = w' := by
  by_cases h : b ≤ a
  · have e1 : IntKind.u64.wrap ((a : Int) - (b : Int)) = ((a - b : Nat) : Int) := by rw [IntKind.wrap_u64]; omega
    have HE : Hid (lessM a b m = a - b) := Lib.hid (by rw [lessM, if_pos h])
    have H1 := Lib.hid e1
    clear e1
    go_enter Try.func28, Try.ntmps28
    go_wp2_with fail
    go_ret
    refine ⟨?_, rfl⟩
    rw [HE.out]
    first | rw [H1.out] | (simp; omega)
  · have HE : Hid (lessM a b m = m - (b - a)) := Lib.hid (by rw [lessM, if_neg h])
    go_enter Try.func28, Try.ntmps28
    go_wp2_with fail
    go_ret
    refine ⟨?_, rfl⟩
    rw [HE.out]
    simp
    omega
end Go.Proofs.Ytadpeleohialaaa
