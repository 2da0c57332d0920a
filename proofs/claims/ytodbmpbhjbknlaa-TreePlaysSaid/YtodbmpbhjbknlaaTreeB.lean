/-
  A tree of sums: how high it is, where its root lies; New, Len, Height, root, Total, Steps, has, Get.
-/
import Derived.Test.YtodbmpbhjbknlaaTreeA
import Derived.Lib.ItoaNum
namespace Go.Proofs.Ytodbmpbhjbknlaa
open Go.RowKit
set_option maxRecDepth 100000

/-- The height of a tree of n places. -/
def hgt10 (n : Nat) : Nat := Lib.bitLen (n - 1)
theorem hgt10_le {n : Nat} (h : n ≤ 4096) : hgt10 n ≤ 12 := Lib.bitLen_le (n - 1) 12 (by omega) (Nat.lt_of_lt_of_le (show n - 1 < 4096 by omega) (by decide))
theorem hgt10_up {n : Nat} (h0 : 1 ≤ n) (h : n ≤ 4096) : n ≤ 2 ^ hgt10 n := by
  by_cases e : n - 1 = 0
  · have := Nat.pow_pos (n := hgt10 n) (show 0 < 2 by decide)
    omega
  · obtain ⟨h1, h2, h3⟩ := Lib.bitLenAux_bounds 64 (n - 1) (Nat.lt_of_le_of_lt (show n - 1 ≤ 4096 by omega) (by decide)) e
    have e2 : Lib.bitLenAux 64 (n - 1) = hgt10 n := rfl
    rw [e2] at h3
    omega
theorem hgt10_dn {n : Nat} (h0 : 1 ≤ n) (h : n ≤ 4096) : hgt10 n = 0 ∨ 2 ^ (hgt10 n - 1) < n := by
  by_cases e : n - 1 = 0
  · left
    unfold hgt10
    rw [e]
    rfl
  · obtain ⟨h1, h2, h3⟩ := Lib.bitLenAux_bounds 64 (n - 1) (Nat.lt_of_le_of_lt (show n - 1 ≤ 4096 by omega) (by decide)) e
    have e2 : Lib.bitLenAux 64 (n - 1) = hgt10 n := rfl
    rw [e2] at h2
    right
    omega
/-- The place of the root. -/
def rt10 (n : Nat) : Nat := 4096 / 2 ^ hgt10 n
theorem pow12 {h : Nat} (hh : h ≤ 12) : 4096 / 2 ^ h * 2 ^ h = 4096 := by
  rcases (show h = 0 ∨ h = 1 ∨ h = 2 ∨ h = 3 ∨ h = 4 ∨ h = 5 ∨ h = 6 ∨ h = 7 ∨ h = 8 ∨ h = 9 ∨ h = 10 ∨ h = 11 ∨ h = 12 by omega) with rfl | rfl | rfl | rfl | rfl | rfl | rfl | rfl | rfl | rfl | rfl | rfl | rfl <;> decide
theorem rt10_mul {n : Nat} (h : n ≤ 4096) : rt10 n * 2 ^ hgt10 n = 4096 := pow12 (hgt10_le h)
theorem rt10_pos {n : Nat} (h : n ≤ 4096) : 1 ≤ rt10 n := by
  rcases Nat.eq_zero_or_pos (rt10 n) with e | e
  · have := rt10_mul h
    rw [e] at this
    omega
  · exact e
theorem rt10_le (n : Nat) : rt10 n ≤ 4096 := Nat.div_le_self _ _
theorem rt10_int (n : Nat) : (4096 : Int) / 2 ^ hgt10 n = ((rt10 n : Nat) : Int) := by
  unfold rt10
  simp

theorem new_no (n : Int) (w : World) (h : n < 1 ∨ 4096 < n) : Calls Try.prog 6 #[.int .i64 n] w fun e w' => e = .returned (.tuple #[.pointer none, .int .i64 1]) ∧ w' = w := by
  by_cases h1 : n < 1
  · go_enter Try.func6, Try.ntmps6
    go_wp2_with fail
    go_ret2
    exact ⟨rfl, rfl⟩
  · have h2 : 4096 < n := by omega
    go_enter Try.func6, Try.ntmps6
    go_wp2_with fail
    go_ret2
    exact ⟨rfl, rfl⟩

set_option maxHeartbeats 1000000 in
theorem new_yes (n : Nat) (w : World) (h1 : 1 ≤ n) (h2 : n ≤ 4096) : Calls Try.prog 6 #[.int .i64 (n : Int)] w fun e w' => ∃ g, e = .returned (.tuple #[.pointer (some ⟨g, 0, none⟩), .int .i64 0]) ∧ w.heap.size ≤ g ∧ Tr w' g n 0 (fun _ => 0) ∧ Below w.heap.size w w' := by
  obtain ⟨cs, hb, hs, hc0, hc1, hc2⟩ := build10 n
  have hi1 : ¬ (n : Int) < 1 := by omega
  have hi2 : ¬ 4096 < (n : Int) := by omega
  have HT : Hid (Tr (w.alloc (.cells (cs.setIfInBounds 8192 (.int .i64 (n : Int))) 50)) w.heap.size n 0 (fun _ => 0)) := Lib.hid ⟨_, Blk.new _ _ _, by simp [hs], hc0, hc1, hc2⟩
  have HB := Lib.hid (b1' w (.cells (cs.setIfInBounds 8192 (.int .i64 (n : Int))) 50))
  have hlt : ¬ cs.size < 8193 := by omega
  clear hs hc0 hc1 hc2 h1 h2
  go_enter Try.func6, Try.ntmps6
  go_wp2_with fail
  go_ret2
  exact ⟨w.heap.size, rfl, Nat.le_refl _, HT.out, HB.out⟩

theorem len10_any {g n s : Nat} {S : Nat → Nat} (w : World) (h : Tr w g n s S) : Calls Try.prog 7 #[.pointer (some ⟨g, 0, none⟩)] w fun e w' => e = .returned (.int .i64 (n : Int)) ∧ w' = w := by
  have hc := h.places
  clear h
  go_enter Try.func7, Try.ntmps7
  go_wp2_with fail
  go_ret
  exact ⟨rfl, rfl⟩
theorem steps10_any {g n s : Nat} {S : Nat → Nat} (w : World) (h : Tr w g n s S) : Calls Try.prog 21 #[.pointer (some ⟨g, 0, none⟩)] w fun e w' => e = .returned (.int .i64 (s : Int)) ∧ w' = w := by
  have hc := h.steps
  clear h
  go_enter Try.func21, Try.ntmps21
  go_wp2_with fail
  go_ret
  exact ⟨rfl, rfl⟩
theorem height10_any {g n s : Nat} {S : Nat → Nat} (w : World) (h : Tr w g n s S) (h1 : 1 ≤ n) (h2 : n ≤ 4096) : Calls Try.prog 20 #[.pointer (some ⟨g, 0, none⟩)] w fun e w' => e = .returned (.int .i64 ((hgt10 n : Nat) : Int)) ∧ w' = w := by
  have hc := h.places
  have HL := Try.bits_Len ((n - 1 : Nat) : Int) w (by omega) (by omega)
  rw [Int.toNat_natCast] at HL
  obtain ⟨m, hm⟩ : ∃ m, hgt10 n = m := ⟨_, rfl⟩
  have hm2 : Lib.bitLen (n - 1) = m := hm
  rw [hm2] at HL
  rw [hm]
  have hw : IntKind.i64.wrap ((n : Int) - 1) = ((n - 1 : Nat) : Int) := by rw [IntKind.wrap_i64]; omega
  obtain ⟨q, hq⟩ : ∃ q, n - 1 = q := ⟨_, rfl⟩
  rw [hq] at hw HL
  have hu : IntKind.u64.wrap (q : Int) = (q : Int) := by rw [IntKind.wrap_u64]; omega
  have HL2 := Lib.hid HL
  clear h hm hm2 HL hq
  go_enter Try.func20, Try.ntmps20
  go_wp2_with fail
  refine HL2.out.mono ?_
  rintro e w1 ⟨rfl, rfl⟩
  go_wp2_with fail
  go_ret
  exact ⟨rfl, rfl⟩
theorem root10_any {g n s : Nat} {S : Nat → Nat} (w : World) (h : Tr w g n s S) (h1 : 1 ≤ n) (h2 : n ≤ 4096) : Calls Try.prog 28 #[.pointer (some ⟨g, 0, none⟩)] w fun e w' => e = .returned (.int .i64 ((rt10 n : Nat) : Int)) ∧ w' = w := by
  have HH := Lib.hid (height10_any w h h1 h2)
  have he := rt10_int n
  obtain ⟨m, hm⟩ : ∃ m, hgt10 n = m := ⟨_, rfl⟩
  have hm12 := hgt10_le h2
  rw [hm] at HH he hm12
  obtain ⟨r, hr⟩ : ∃ r, rt10 n = r := ⟨_, rfl⟩
  rw [hr] at he ⊢
  clear h hm hr
  go_enter Try.func28, Try.ntmps28
  go_wp2_with fail
  refine HH.out.mono ?_
  rintro e w1 ⟨rfl, rfl⟩
  go_wp2_with fail
  go_ret
  exact ⟨rfl, rfl⟩
set_option maxHeartbeats 1000000 in
theorem total10_any {g n s : Nat} {S : Nat → Nat} (w : World) (h : Tr w g n s S) (h1 : 1 ≤ n) (h2 : n ≤ 4096) : Calls Try.prog 17 #[.pointer (some ⟨g, 0, none⟩)] w fun e w' => e = .returned (.int .u64 ((S (rt10 n) : Nat) : Int)) ∧ w.grownBy w' none := by
  obtain ⟨r, hr⟩ : ∃ r, rt10 n = r := ⟨_, rfl⟩
  have hr8 : r < 8192 := by have := rt10_le n; omega
  have HR : Hid (∀ W, Below w.heap.size w W → Calls Try.prog 28 #[.pointer (some ⟨g, 0, none⟩)] W fun e w' => e = .returned (.int .i64 ((r : Nat) : Int)) ∧ w' = W) := Lib.hid (fun W hb => by rw [← hr]; exact root10_any W (h.below hb) h1 h2)
  rw [hr]
  have hc := h.sum hr8
  have hi0 : (0 : Int) ≤ (r : Int) := by omega
  have hi1 : (r : Int) < 8192 := by omega
  clear h hr
  go_enter Try.func17, Try.ntmps17
  go_wp2_with fail
  go_region_held3 (fun W => W.cell? ⟨g, r, none⟩ = some (.int .u64 ((S r : Nat) : Int)) ∧ Below w.heap.size w W) (first | exact ⟨hc, (Below.refl _ _).drew⟩ | assumption) (first | (go_at_call 28; (with_reducible refine (HR.out _ (by have := ‹_ ∧ Below w.heap.size w _›; exact this.2)).mono ?_); rintro e w1 ⟨rfl, rfl⟩))
  go_wp2_with fail
  go_ret
  exact ⟨rfl, grown7_drew _ _⟩
theorem has10_any {g n s : Nat} {S : Nat → Nat} (i : Int) (w : World) (h : Tr w g n s S) : Calls Try.prog 29 #[.pointer (some ⟨g, 0, none⟩), .int .i64 i] w fun e w' => e = .returned (.bool (decide (0 ≤ i ∧ i < n))) ∧ w' = w := by
  have HL := Lib.hid (len10_any w h)
  clear h
  by_cases h1 : 0 ≤ i
  · go_enter Try.func29, Try.ntmps29
    go_wp2_with fail
    refine HL.out.mono ?_
    rintro e w1 ⟨rfl, rfl⟩
    go_wp2_with fail
    go_ret
    exact ⟨by simp [h1], rfl⟩
  · clear HL
    go_enter Try.func29, Try.ntmps29
    go_wp2_with fail
    go_ret
    exact ⟨by have h2 : ¬ 0 ≤ i := by omega
              simp [h2], rfl⟩
theorem get10_no {g n s : Nat} {S : Nat → Nat} (i : Int) (w : World) (h : Tr w g n s S) (hi : i < 0 ∨ (n : Int) ≤ i) : Calls Try.prog 16 #[.pointer (some ⟨g, 0, none⟩), .int .i64 i] w fun e w' => e = .returned (.int .u64 0) ∧ w' = w := by
  have HH := has10_any i w h
  rw [show decide (0 ≤ i ∧ i < (n : Int)) = false from decide_eq_false (by omega)] at HH
  have HH2 := Lib.hid HH
  clear h hi HH
  go_enter Try.func16, Try.ntmps16
  go_wp2_with fail
  refine HH2.out.mono ?_
  rintro e w1 ⟨rfl, rfl⟩
  go_wp2_with fail
  go_ret
  exact ⟨rfl, rfl⟩
theorem get10_yes {g n s : Nat} {S : Nat → Nat} (i : Nat) (w : World) (h : Tr w g n s S) (hi : i < n) (hn : n ≤ 4096) : Calls Try.prog 16 #[.pointer (some ⟨g, 0, none⟩), .int .i64 (i : Int)] w fun e w' => e = .returned (.int .u64 ((S (4096 + i) : Nat) : Int)) ∧ w' = w := by
  have HH := has10_any (i : Int) w h
  rw [show decide (0 ≤ (i : Int) ∧ (i : Int) < (n : Int)) = true from decide_eq_true (by omega)] at HH
  have HH2 := Lib.hid HH
  have hc := h.sum (show 4096 + i < 8192 by omega)
  obtain ⟨k, hk⟩ : ∃ k, 4096 + i = k := ⟨_, rfl⟩
  have hw : IntKind.i64.wrap (4096 + (i : Int)) = (k : Int) := by rw [IntKind.wrap_i64]; omega
  rw [hk] at hc ⊢
  have hi0 : (0 : Int) ≤ (k : Int) := by omega
  have hi1 : (k : Int) < 8192 := by omega
  clear h hi HH hk
  go_enter Try.func16, Try.ntmps16
  go_wp2_with fail
  refine HH2.out.mono ?_
  rintro e w1 ⟨rfl, rfl⟩
  go_wp2_with fail
  go_ret
  exact ⟨rfl, rfl⟩

set_option maxHeartbeats 1000000 in
theorem add10_any {g n s : Nat} {S : Nat → Nat} (k : Nat) (w : World) (h : Tr w g n s S) (hk0 : 1 ≤ k) (hk1 : k < 4096) (hs : S (2 * k) + S (2 * k + 1) < 18446744073709551616) :
    Calls Try.prog 32 #[.pointer (some ⟨g, 0, none⟩), .int .i64 (k : Int)] w fun e w' => e = .returned (.tuple #[]) ∧ Tr w' g n s (upd10 S k (S (2 * k) + S (2 * k + 1))) ∧ w.grownBy w' (some g) := by
  have HT := Lib.hid h
  obtain ⟨x, hx⟩ : ∃ x, S (2 * k) = x := ⟨_, rfl⟩
  obtain ⟨y, hy⟩ : ∃ y, S (2 * k + 1) = y := ⟨_, rfl⟩
  have c0 := h.sum (show 2 * k < 8192 by omega)
  have c1 := h.sum (show 2 * k + 1 < 8192 by omega)
  have c2 := h.sum (show k < 8192 by omega)
  have f2 := h.frozen k
  rw [hx] at c0 hs ⊢
  rw [hy] at c1 hs ⊢
  obtain ⟨a, ha⟩ : ∃ a, 2 * k = a := ⟨_, rfl⟩
  obtain ⟨b, hb⟩ : ∃ b, a + 1 = b := ⟨_, rfl⟩
  rw [ha] at c0 c1
  rw [hb] at c1
  have hw0 : IntKind.i64.wrap (2 * (k : Int)) = (a : Int) := by rw [IntKind.wrap_i64]; omega
  have hw1 : IntKind.i64.wrap ((a : Int) + 1) = (b : Int) := by rw [IntKind.wrap_i64]; omega
  obtain ⟨z, hz⟩ : ∃ z, x + y = z := ⟨_, rfl⟩
  have hws : IntKind.u64.wrap ((x : Int) + (y : Int)) = (z : Int) := by rw [IntKind.wrap_u64]; omega
  rw [hz]
  have i0 : (a : Int) < 8192 := by omega
  have i1 : (b : Int) < 8192 := by omega
  have i2 : (k : Int) < 8192 := by omega
  have j0 : (0 : Int) ≤ (a : Int) := by omega
  have j1 : (0 : Int) ≤ (b : Int) := by omega
  have j2 : (0 : Int) ≤ (k : Int) := by omega
  clear h hx hy hs ha hb hz
  go_enter Try.func32, Try.ntmps32
  go_wp2_with fail
  go_region
  go_wp2_with fail
  go_end0
  exact ⟨rfl, (HT.out.quiet (grown7_drew _ _)).put (by omega) z, (grown7_drew _ _).trans (grown7_set _ g k _)⟩
end Go.Proofs.Ytodbmpbhjbknlaa
