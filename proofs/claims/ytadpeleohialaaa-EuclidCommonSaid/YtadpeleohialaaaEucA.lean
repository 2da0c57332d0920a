/-
  Package euclid of the program, and the document's: what two words, and any many, have in common.
-/
import Derived.Test.YtadpeleohialaaaPackA
import Derived.Test.YtadpeleohialaaaWords
import Derived.BigQuiet
import Derived.LoopTactic
import Derived.ProofKit
namespace Go.Proofs.Ytadpeleohialaaa
open Go.RowKit

theorem bel_drewN {w wr : World} (h : Below w.heap.size w wr) (n : Nat) : Below w.heap.size w (wr.drewN n) := h.trans ((below_drewN n).mono h.size)
theorem gcd_step (p q : Nat) : Nat.gcd q (p % q) = Nat.gcd p q := by
  rw [Nat.gcd_comm q, Nat.gcd_comm p, Nat.gcd_rec q p]
theorem gcd_lt {a b M : Nat} (ha : a < M) (hb : b < M) : Nat.gcd a b < M := by
  rcases Nat.eq_zero_or_pos a with h | h
  · subst h; simpa using hb
  · exact Nat.lt_of_le_of_lt (Nat.gcd_le_left b h) ha

set_option maxHeartbeats 400000 in
theorem common_any (a b : Nat) (w : World) (ha : a < 18446744073709551616) (hb : b < 18446744073709551616) :
    Calls Try.prog 23 #[.int .u64 (a : Int), .int .u64 (b : Int)] w fun e w' => e = .returned (.int .u64 ((Nat.gcd a b : Nat) : Int)) ∧ Below w.heap.size w w' := by
  obtain ⟨g, hg⟩ : ∃ g, Nat.gcd a b = g := ⟨_, rfl⟩
  rw [hg]
  have HG := Lib.hid hg
  clear hg
  go_enter Try.func23, Try.ntmps23
  go_wp2_with fail
  go_loopw [0, 1] (fun x y wr => ∃ p q : Nat, x = .int .u64 (p : Int) ∧ y = .int .u64 (q : Int) ∧ p < 18446744073709551616 ∧ q < 18446744073709551616 ∧ Hid (Nat.gcd p q = g) ∧ Below w.heap.size w wr) (fun _ y _ => (intOf y).toNat)
  case atStart => exact ⟨a, b, rfl, rfl, ha, hb, HG, Below.refl _ _⟩
  case round =>
    obtain ⟨p, q, rfl, rfl, hp, hq, HG2, hbl⟩ := hrel
    by_cases h0 : q = 0
    · subst h0
      have HP : Hid (p = g) := Lib.hid (by have := HG2.out; simpa using this)
      go_wp2_with fail
      go_ret
      exact ⟨by rw [HP.out]; rfl, hbl⟩
    · have hq0 : ((q : Int) != 0) = true := by simp; omega
      have hq1 : ((q : Int) == 0) = false := by simp; omega
      have hq2 : ¬ (q : Int) = 0 := by omega
      have hm : p % q < q := Nat.mod_lt _ (by omega)
      have HS : Hid (Nat.gcd q (p % q) = g) := Lib.hid (by rw [gcd_step]; exact HG2.out)
      have e1 : (p : Int) % (q : Int) = ((p % q : Nat) : Int) := by simp
      have e1t : (p : Int).tmod (q : Int) = ((p % q : Nat) : Int) := by simp [Int.tmod]
      generalize p % q = m at *
      clear HG HG2
      go_wp2_with fail
      go_quiet (fail)
      go_wp2_with fail
      go_roundw
      case rel => exact ⟨q, m, rfl, rfl, hq, by omega, HS, bel_drewN hbl _⟩
      case measure => simp [intOf]; omega

set_option maxHeartbeats 400000 in
theorem refGcd_any (a b : Nat) (w : World) (ha : a < 18446744073709551616) (hb : b < 18446744073709551616) :
    Calls Try.prog 10 #[.int .u64 (a : Int), .int .u64 (b : Int)] w fun e w' => e = .returned (.int .u64 ((Nat.gcd a b : Nat) : Int)) ∧ Below w.heap.size w w' := by
  obtain ⟨g, hg⟩ : ∃ g, Nat.gcd a b = g := ⟨_, rfl⟩
  rw [hg]
  have HG := Lib.hid hg
  clear hg
  go_enter Try.func10, Try.ntmps10
  go_wp2_with fail
  go_loopw [0, 1] (fun x y wr => ∃ p q : Nat, x = .int .u64 (p : Int) ∧ y = .int .u64 (q : Int) ∧ p < 18446744073709551616 ∧ q < 18446744073709551616 ∧ Hid (Nat.gcd p q = g) ∧ Below w.heap.size w wr) (fun _ y _ => (intOf y).toNat)
  case atStart => exact ⟨a, b, rfl, rfl, ha, hb, HG, Below.refl _ _⟩
  case round =>
    obtain ⟨p, q, rfl, rfl, hp, hq, HG2, hbl⟩ := hrel
    by_cases h0 : q = 0
    · subst h0
      have HP : Hid (p = g) := Lib.hid (by have := HG2.out; simpa using this)
      go_wp2_with fail
      go_ret
      exact ⟨by rw [HP.out]; rfl, hbl⟩
    · have hq0 : 0 < q := by omega
      have hq1 : ((q : Int) == 0) = false := by simp; omega
      have hq2 : ¬ (q : Int) = 0 := by omega
      have hm : p % q < q := Nat.mod_lt _ (by omega)
      have HS : Hid (Nat.gcd q (p % q) = g) := Lib.hid (by rw [gcd_step]; exact HG2.out)
      have e1 : (p : Int) % (q : Int) = ((p % q : Nat) : Int) := by simp
      have e1t : (p : Int).tmod (q : Int) = ((p % q : Nat) : Int) := by simp [Int.tmod]
      generalize p % q = m at *
      clear HG HG2
      go_wp2_with fail
      go_roundw
      case rel => exact ⟨q, m, rfl, rfl, hq, by omega, HS, hbl⟩
      case measure => simp [intOf]; omega

/-- What any many have in common. -/
def gcds (xs : List Nat) : Nat := xs.foldl Nat.gcd 0
theorem gcds_take (xs : List Nat) {k : Nat} (hk : k < xs.length) : gcds (xs.take (k + 1)) = Nat.gcd (gcds (xs.take k)) (nth xs k) := by
  unfold gcds
  rw [List.take_add_one, List.foldl_append, List.getElem?_eq_getElem hk, nth_in hk]
  rfl
theorem gcds_lt {xs : List Nat} (h : Wds xs) (k : Nat) (hk : k ≤ xs.length) : gcds (xs.take k) < 18446744073709551616 := by
  induction k with
  | zero => simp [gcds]
  | succ k ih => rw [gcds_take xs hk]; exact gcd_lt (ih (by omega)) (h.nth k)

set_option maxHeartbeats 800000 in
theorem gcdl_any (A : Option Addr) (xs : List Nat) (n c : Nat) (w : World) (hl : xs.length = n) (hn : n ≤ 1000) (hr : Ru w A xs) (hw : Wds xs) :
    Calls Try.prog 11 #[.slice A n c] w fun e w' => e = .returned (.int .u64 ((gcds xs : Nat) : Int)) ∧ Below w.heap.size w w' := by
  have HL := Lib.hid hl
  have HALL : Hid (gcds (xs.take n) = gcds xs) := Lib.hid (by rw [← hl, List.take_length])
  clear hl
  go_enter Try.func11, Try.ntmps11
  go_wp2_with fail
  go_loopw [3, 8] (fun x i wr => ∃ k g : Nat, x = .int .u64 (g : Int) ∧ i = .int .i64 (k : Int) ∧ k ≤ n ∧ g < 18446744073709551616 ∧ Hid (gcds (xs.take k) = g) ∧ Below w.heap.size w wr) (fun _ i _ => n - (intOf i).toNat)
  case atStart => exact ⟨0, 0, rfl, rfl, by omega, by omega, Lib.hid (by simp [gcds]), Below.refl _ _⟩
  case round =>
    obtain ⟨k, g, rfl, rfl, hk, hg, HG, hbl⟩ := hrel
    by_cases ht : k < n
    · obtain ⟨b, o, hA, hc⟩ := (hr.below hbl).at_ (k := k) (by have := HL.out; omega)
      subst hA
      have hi0 : (0 : Int) ≤ (k : Int) := by omega
      have hi1 : (k : Int) < (n : Int) := by omega
      have hxk := hw.nth k
      have HS : Hid (gcds (xs.take (k + 1)) = Nat.gcd g (nth xs k)) := Lib.hid (by rw [gcds_take xs (by have := HL.out; omega), HG.out])
      go_wp2_with fail
      refine (common_any g (nth xs k) _ hg hxk).mono ?_
      rintro e w1 ⟨rfl, hb1⟩
      have hg2 := gcd_lt hg hxk
      go_wp2_with fail
      go_roundw
      case rel => exact ⟨k + 1, Nat.gcd g (nth xs k), rfl, by go_num, by omega, hg2, HS, hbl.trans (hb1.mono hbl.size)⟩
      case measure => simp [intOf]; omega
    · obtain rfl : k = n := by omega
      have HE : Hid (g = gcds xs) := Lib.hid (by rw [← HG.out, HALL.out])
      go_wp2_with fail
      go_ret
      exact ⟨by rw [HE.out]; rfl, hbl⟩

set_option maxHeartbeats 800000 in
theorem refAll_any (A : Option Addr) (xs : List Nat) (n c : Nat) (w : World) (hl : xs.length = n) (hn : n ≤ 1000) (hr : Ru w A xs) (hw : Wds xs) :
    Calls Try.prog 12 #[.slice A n c] w fun e w' => e = .returned (.int .u64 ((gcds xs : Nat) : Int)) ∧ Below w.heap.size w w' := by
  have HL := Lib.hid hl
  have HALL : Hid (gcds (xs.take n) = gcds xs) := Lib.hid (by rw [← hl, List.take_length])
  clear hl
  go_enter Try.func12, Try.ntmps12
  go_wp2_with fail
  go_loopw [3, 4] (fun x i wr => ∃ k g : Nat, x = .int .u64 (g : Int) ∧ i = .int .i64 (k : Int) ∧ k ≤ n ∧ g < 18446744073709551616 ∧ Hid (gcds (xs.take k) = g) ∧ Below w.heap.size w wr) (fun _ i _ => n - (intOf i).toNat)
  case atStart => exact ⟨0, 0, rfl, rfl, by omega, by omega, Lib.hid (by simp [gcds]), Below.refl _ _⟩
  case round =>
    obtain ⟨k, g, rfl, rfl, hk, hg, HG, hbl⟩ := hrel
    by_cases ht : k < n
    · obtain ⟨b, o, hA, hc⟩ := (hr.below hbl).at_ (k := k) (by have := HL.out; omega)
      subst hA
      have hi0 : (0 : Int) ≤ (k : Int) := by omega
      have hi1 : (k : Int) < (n : Int) := by omega
      have hxk := hw.nth k
      have HS : Hid (gcds (xs.take (k + 1)) = Nat.gcd g (nth xs k)) := Lib.hid (by rw [gcds_take xs (by have := HL.out; omega), HG.out])
      go_wp2_with fail
      refine (refGcd_any g (nth xs k) _ hg hxk).mono ?_
      rintro e w1 ⟨rfl, hb1⟩
      have hg2 := gcd_lt hg hxk
      go_wp2_with fail
      go_roundw
      case rel => exact ⟨k + 1, Nat.gcd g (nth xs k), rfl, by go_num, by omega, hg2, HS, hbl.trans (hb1.mono hbl.size)⟩
      case measure => simp [intOf]; omega
    · obtain rfl : k = n := by omega
      have HE : Hid (g = gcds xs) := Lib.hid (by rw [← HG.out, HALL.out])
      go_wp2_with fail
      go_ret
      exact ⟨by rw [HE.out]; rfl, hbl⟩
end Go.Proofs.Ytadpeleohialaaa
