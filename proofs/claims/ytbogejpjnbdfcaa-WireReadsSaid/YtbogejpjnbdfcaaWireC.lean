/-
  Numbers and texts as bytes: the number that stands at the front.
-/
import Derived.Test.YtbogejpjnbdfcaaWireB
import Derived.Laws.Bits64b
namespace Go.Proofs.Ytbogejpjnbdfcaa
open Go.RowKit
set_option maxRecDepth 100000

/-- What is read at the front: the number, how many bytes it has, and the error's number. -/
def fnum (i acc : Nat) : List UInt8 → Nat × Nat × Nat
  | [] => (0, 0, 4)
  | c :: r => if (0 < i ∧ c.toNat = 0) ∨ (i = 9 ∧ 1 < c.toNat) then (0, 0, 3) else if c.toNat < 128 then (acc + c.toNat % 128 * 128 ^ i, i + 1, 0) else fnum (i + 1) (acc + c.toNat % 128 * 128 ^ i) r
theorem at8_dropc {xs : List UInt8} {k : Nat} (h : k < xs.length) : ∃ c, xs.drop k = c :: xs.drop (k + 1) ∧ c.toNat = at8 xs k :=
  ⟨xs[k], List.drop_eq_getElem_cons h, (at8_in h).symm⟩
theorem fnum_out {xs : List UInt8} {k : Nat} (h : xs.length ≤ k) (acc : Nat) : fnum k acc (xs.drop k) = (0, 0, 4) := by rw [List.drop_eq_nil_of_le h]; rfl
theorem fnum_bad {xs : List UInt8} {k : Nat} (h : k < xs.length) (acc : Nat) (hb : (0 < k ∧ at8 xs k = 0) ∨ (k = 9 ∧ 1 < at8 xs k)) : fnum k acc (xs.drop k) = (0, 0, 3) := by
  obtain ⟨c, h1, h2⟩ := at8_dropc h
  rw [h1, fnum, h2, if_pos hb]
theorem fnum_end {xs : List UInt8} {k : Nat} (h : k < xs.length) (acc : Nat) (hb : ¬((0 < k ∧ at8 xs k = 0) ∨ (k = 9 ∧ 1 < at8 xs k))) (hc : at8 xs k < 128) : fnum k acc (xs.drop k) = (acc + at8 xs k % 128 * 128 ^ k, k + 1, 0) := by
  obtain ⟨c, h1, h2⟩ := at8_dropc h
  rw [h1, fnum, h2, if_neg hb, if_pos hc]
theorem fnum_on {xs : List UInt8} {k : Nat} (h : k < xs.length) (acc : Nat) (hb : ¬((0 < k ∧ at8 xs k = 0) ∨ (k = 9 ∧ 1 < at8 xs k))) (hc : ¬ at8 xs k < 128) : fnum k acc (xs.drop k) = fnum (k + 1) (acc + at8 xs k % 128 * 128 ^ k) (xs.drop (k + 1)) := by
  obtain ⟨c, h1, h2⟩ := at8_dropc h
  rw [h1, fnum, h2, if_neg hb, if_neg hc]

theorem num_lt {acc x k : Nat} (ha : acc < 128 ^ k) : acc + x % 128 * 128 ^ k < 128 ^ (k + 1) := by
  have h1 : x % 128 * 128 ^ k ≤ 127 * 128 ^ k := Nat.mul_le_mul_right _ (by omega)
  rw [Nat.pow_succ]
  omega
theorem or_num {acc x k : Nat} (ha : acc < 128 ^ k) (hk : k ≤ 9) (h9 : k = 9 → x ≤ 1) :
    bits BinOp.or IntKind.u64 (acc : Int) (IntKind.u64.wrap ((x : Int) % 128 * 2 ^ (k * 7))) = ((acc + x % 128 * 128 ^ k : Nat) : Int) := by
  have hp : (2 : Nat) ^ (k * 7) = 128 ^ k := by rw [Nat.mul_comm, Nat.pow_mul]
  have h1 : x % 128 * 128 ^ k < 18446744073709551616 := by
    rcases Nat.lt_or_ge k 9 with h | h
    · have h2 : 128 ^ k ≤ 128 ^ 8 := Nat.pow_le_pow_right (by omega) (by omega)
      have h3 : x % 128 * 128 ^ k ≤ 127 * 128 ^ 8 := Nat.mul_le_mul (by omega) h2
      have h4 : (128 : Nat) ^ 8 = 72057594037927936 := by decide
      omega
    · obtain rfl : k = 9 := by omega
      have h3 : x % 128 * 128 ^ 9 ≤ 1 * 128 ^ 9 := Nat.mul_le_mul_right _ (by have := h9 rfl; omega)
      have h4 : (128 : Nat) ^ 9 = 9223372036854775808 := by decide
      omega
  have h5 : acc < 18446744073709551616 := by
    have h2 : 128 ^ k ≤ 128 ^ 9 := Nat.pow_le_pow_right (by omega) (by omega)
    have h4 : (128 : Nat) ^ 9 = 9223372036854775808 := by decide
    omega
  have e1 : (x : Int) % 128 * 2 ^ (k * 7) = ((x % 128 * 128 ^ k : Nat) : Int) := by
    rw [← hp]
    push_cast
    rfl
  have e2 : acc ||| (x % 128 * 128 ^ k) = acc + x % 128 * 128 ^ k := by
    have := Nat.two_pow_add_eq_or_of_lt (i := k * 7) (b := acc) (by rw [hp]; exact ha) (x % 128)
    rw [hp] at this
    rw [Nat.or_comm, Nat.mul_comm (x % 128), ← this, Nat.add_comm]
  have e3 : IntKind.u64.wrap ((x % 128 * 128 ^ k : Nat) : Int) = ((x % 128 * 128 ^ k : Nat) : Int) := by rw [IntKind.wrap_u64]; omega
  rw [e1, e3, bits_or_u64_nat _ _ h5 h1, e2]

set_option maxHeartbeats 1000000 in
theorem firstNum_any (A : Option Addr) (xs : List UInt8) (n c B : Nat) (w : World) (hl : xs.length = n) (hr : Rb w B A xs) (hn : n ≤ 1000000) :
    Calls Try.prog 26 #[.slice A n c] w fun e w' => e = .returned (.tuple #[.int .u64 ((fnum 0 0 xs).1 : Int), .int .i64 ((fnum 0 0 xs).2.1 : Int), .int .i64 ((fnum 0 0 xs).2.2 : Int)]) ∧ w' = w := by
  obtain ⟨R, hR⟩ : ∃ R, fnum 0 0 xs = R := ⟨_, rfl⟩
  have HL := Lib.hid hl
  have HR := Lib.hid hR
  rw [hR]
  clear hl hR
  go_enter Try.func26, Try.ntmps26
  go_wp2_with fail
  go_loopw [5, 10] (fun v i wr => ∃ k acc : Nat, i = .int .i64 (k : Int) ∧ v = .int .u64 (acc : Int) ∧ k ≤ n ∧ k ≤ 9 ∧ Hid (acc < 128 ^ k) ∧ Hid (fnum k acc (xs.drop k) = R) ∧ wr = w) (fun _ i _ => n - (intOf i).toNat)
  case atStart => exact ⟨0, 0, rfl, rfl, by omega, by omega, Lib.hid (by simp), Lib.hid (by simpa using HR.out), rfl⟩
  case round =>
    obtain ⟨k, acc, rfl, rfl, hk, hk9, HA, HF, rfl⟩ := hrel
    by_cases ht : k < n
    · obtain ⟨b, o, rfl, _, hcell⟩ := hr.at_ (k := k) (by have := HL.out; omega)
      have hi0 : (0 : Int) ≤ (k : Int) := by omega
      have hi1 : (k : Int) < (n : Int) := by omega
      have hlt := at8_lt xs k
      obtain ⟨x, hx⟩ : ∃ x, at8 xs k = x := ⟨_, rfl⟩
      rw [hx] at hcell hlt
      have HX := Lib.hid hx
      clear hx
      have hbd : k < xs.length := by have := HL.out; omega
      by_cases hb1 : 0 < k ∧ x = 0
      · obtain ⟨h1, rfl⟩ := hb1
        have hd1 : decide ((0 : Int) < (k : Int)) = true := by simp; omega
        have HE : Hid (R = (0, 0, 3)) := Lib.hid (by rw [← HF.out, fnum_bad hbd _ (.inl ⟨h1, HX.out⟩)])
        clear HF
        go_wp2_with fail
        go_ret3
        exact ⟨by rw [HE.out]; rfl, rfl⟩
      · by_cases hb2 : k = 9 ∧ 1 < x
        · obtain ⟨rfl, h2⟩ := hb2
          have hd1 : ((x : Int) == 0) = false := by simp; omega
          have hd2 : decide ((1 : Int) < (x : Int)) = true := by simp; omega
          have HE : Hid (R = (0, 0, 3)) := Lib.hid (by rw [← HF.out, fnum_bad hbd _ (.inr ⟨rfl, by rw [HX.out]; omega⟩)])
          clear HF
          go_wp2_with fail
          go_ret3
          exact ⟨by rw [HE.out]; rfl, rfl⟩
        · have hnb : ¬((0 < k ∧ at8 xs k = 0) ∨ (k = 9 ∧ 1 < at8 xs k)) := by rw [HX.out]; exact fun h => h.elim hb1 hb2
          have HNB := Lib.hid hnb
          clear hnb
          have hk3 : (¬ 0 < k ∧ ¬ k = 9) ∨ (0 < k ∧ ¬ x = 0 ∧ ¬ k = 9) ∨ (k = 9 ∧ x = 1) := by omega
          have hor := or_num (acc := acc) (x := x) HA.out hk9 (by omega)
          have ha2 := num_lt (acc := acc) (x := x) HA.out
          have HA2 := Lib.hid ha2
          obtain ⟨acc', hacc⟩ : ∃ acc', acc + x % 128 * 128 ^ k = acc' := ⟨_, rfl⟩
          rw [hacc] at hor HA2
          have HACC := Lib.hid hacc
          have HON := Lib.hid (fun h : ¬ x < 128 => (fnum_on hbd acc HNB.out (by rw [HX.out]; exact h)).symm.trans HF.out)
          have HEN := Lib.hid (fun h : x < 128 => (fnum_end hbd acc HNB.out (by rw [HX.out]; exact h)).symm.trans HF.out)
          rw [HX.out, HACC.out] at HON HEN
          clear hb1 hb2 ha2 hacc HF HNB
          rcases hk3 with ⟨h1, h3⟩ | ⟨h1, h2, h3⟩ | ⟨rfl, rfl⟩
          case inr.inr =>
            have HE := Lib.hid (HEN.out (by omega))
            have hor2 : bits BinOp.or IntKind.u64 (acc : Int) 9223372036854775808 = (acc' : Int) := by rw [← hor]; congr 1
            clear hor
            go_wp2_with fail
            go_ret3
            exact ⟨by rw [← HE.out]; rfl, rfl⟩
          all_goals
            by_cases hc : x < 128
            · have HE := Lib.hid (HEN.out hc)
              go_wp2_with fail
              go_ret3
              exact ⟨by rw [← HE.out]; rfl, rfl⟩
            · have HE := Lib.hid (HON.out hc)
              go_wp2_with fail
              go_roundw
              case rel => exact ⟨k + 1, acc', by go_num, rfl, by omega, by omega, HA2, HE, trivial⟩
              case measure => simp [intOf]; omega
    · obtain rfl : k = n := by omega
      have HE : Hid (R = (0, 0, 4)) := Lib.hid (by rw [← HF.out, fnum_out (by have := HL.out; omega)])
      go_wp2_with fail
      go_ret3
      exact ⟨by rw [HE.out]; rfl, rfl⟩
end Go.Proofs.Ytbogejpjnbdfcaa
