/-
  The document's numbers, in digits: Word.
-/
import Derived.Test.YtnaofoahnjceiaaDoorCut
namespace Go.Proofs.YtnaofoahnjceiaaDoor
open Go.RowKit

theorem word_step {xs : List Nat} (hd : Dig xs) (h4 : xs.length ≤ 4) {m : Nat} (hm : m + 1 ≤ xs.length) : V (xs.drop (m + 1)) < 281474976710656 ∧ nth xs m < 65536 ∧ V (xs.drop m) = V (xs.drop (m + 1)) * 65536 + nth xs m := by
  have h1 := V_lt (hd.drop (m + 1))
  have h2 : 65536 ^ (xs.drop (m + 1)).length ≤ 65536 ^ 3 := Nat.pow_le_pow_right (by omega) (by simp; omega)
  have h3 := V_drop xs m
  refine ⟨by omega, hd.nth m, by omega⟩

set_option maxHeartbeats 400000 in
theorem word_any (A : Option Addr) (xs : List Nat) (l c : Nat) (w : World) (hl : xs.length = l) (hr : Rd w w.heap.size A xs) (hd : Dig xs) (hn : l ≤ 4) :
    Calls Tryd.prog 9 #[.agg #[.slice A l c]] w fun e w' => e = .returned (.tuple #[.int .u64 ((V xs : Nat) : Int), .bool true]) ∧ Below w.heap.size w w' := by
  have HL := Lib.hid hl
  clear hl
  go_enter Tryd.func9, Tryd.ntmps9
  go_wp2
  go_loop [4, 5] (fun v i => ∃ k : Nat, k ≤ l ∧ i = .int .i64 ((k : Int) - 1) ∧ v = .int .u64 ((V (xs.drop k) : Nat) : Int)) (fun _ i => (intOf i + 1).toNat)
  case atStart => exact ⟨l, Nat.le_refl _, rfl, by rw [← HL.out]; simp [V]⟩
  case round =>
    obtain ⟨k, hk, rfl, rfl⟩ := hrel
    by_cases h0 : 0 < k
    · obtain ⟨m, rfl⟩ : ∃ m, k = m + 1 := ⟨k - 1, by omega⟩
      obtain ⟨h1, h2, h3⟩ := word_step hd (by have := HL.out; omega) (by have := HL.out; omega : m + 1 ≤ xs.length)
      have H3 := Lib.hid h3
      clear h3
      obtain ⟨b, o, rfl, hb, hcm⟩ := hr.at_ (k := m) (by have := HL.out; omega)
      go_wp2
      go_round
      case rel => exact ⟨m, by omega, by go_num, by rw [H3.out]; go_num⟩
      case measure => simp [intOf]
    · obtain rfl : k = 0 := by omega
      go_wp2
      go_ret2
      exact ⟨rfl, (Below.refl _ _).alloc (Nat.le_refl _) _⟩

set_option maxHeartbeats 400000 in
theorem word_no (A : Option Addr) (n : Nat) (c : Nat) (w : World) (hn : 4 < n) :
    Calls Tryd.prog 9 #[.agg #[.slice A n c]] w fun e w' => e = .returned (.tuple #[.int .u64 0, .bool false]) ∧ Below w.heap.size w w' := by
  go_enter Tryd.func9, Tryd.ntmps9
  go_wp2
  go_ret2
  exact ⟨rfl, (Below.refl _ _).alloc (Nat.le_refl _) _⟩
end Go.Proofs.YtnaofoahnjceiaaDoor
