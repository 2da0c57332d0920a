/-
  A tree of sums, and the law's own list beside it: each kind of call, in one contract.
-/
import Derived.Test.YtodbmpbhjbknlaaTreeJ
import Derived.Test.YtodbmpbhjbknlaaFindsY
import Derived.Test.YtodbmpbhjbknlaaFindsN
namespace Go.Proofs.Ytodbmpbhjbknlaa
open Go.RowKit
set_option maxRecDepth 100000

/-- What a call leaves: the tree and the list have the same weights again. -/
def Rs10 (L g : Nat) (row : Option Nat) (w : World) (e : Ending) (w' : World) : Prop :=
  ∃ (n s : Nat) (xs : List Nat) (A : Option Addr) (c : Nat), e = .returned (.tuple #[.slice A n c, .bool true]) ∧ n ≤ 400 ∧ Pl10 L w' g n s xs A c ∧ Bk10 L g row w w'

theorem lset10_any {L g n s c nk ck W : Nat} {xs : List Nat} {A Ak : Option Addr} (kd i : Int) (w : World) (h : Pl10 L w g n s xs A c) (hL : L ≤ w.heap.size) (hn : n ≤ 400) (hW : W < 18446744073709551616) :
    Calls Try.prog 8 #[.pointer (some ⟨g, 0, none⟩), .slice A n c, .agg #[.int .i64 kd, .int .i64 i, .int .u64 (W : Int), .slice Ak nk ck]] w (Rs10 L g (Value.slice A n c).ownBlock w) := by
  by_cases hi : i < 0 ∨ (n : Int) ≤ i
  · refine (lset10_range kd i w h hL hi).mono ?_
    rintro e w' ⟨h1, h2, h3⟩
    exact ⟨n, s, xs, A, c, h1, hn, h2, h3⟩
  · obtain ⟨j, rfl⟩ := Int.eq_ofNat_of_zero_le (show 0 ≤ i by omega)
    rcases Nat.lt_or_ge (up9 (put10 xs j W) n) 18446744073709551616 with hf | hf
    · refine (lset10_ok kd w h hL (show j < n by omega) hW hf).mono ?_
      rintro e w' ⟨A', c', h1, h2, h3⟩
      exact ⟨n, _, _, A', c', h1, hn, h2, h3⟩
    · refine (lset10_over kd w h hL (show j < n by omega) hW hf).mono ?_
      rintro e w' ⟨h1, h2, h3⟩
      exact ⟨n, s, xs, A, c, h1, hn, h2, h3⟩
theorem lgrow10_any {L g n s c : Nat} {xs : List Nat} {A : Option Addr} (m : Int) (w : World) (h : Pl10 L w g n s xs A c) (hL : L ≤ w.heap.size) (hn : n ≤ 400) (hm : m ≤ 400 ∨ 4096 < m) :
    Calls Try.prog 9 #[.pointer (some ⟨g, 0, none⟩), .slice A n c, .int .i64 m] w (Rs10 L g (Value.slice A n c).ownBlock w) := by
  by_cases hi : m < (n : Int) ∨ 4096 < m
  · refine (lgrow10_no m w h hi).mono ?_
    rintro e w' ⟨h1, rfl⟩
    exact ⟨n, s, xs, A, c, h1, hn, h, Bk10.refl _ _ _ _⟩
  · obtain ⟨j, rfl⟩ := Int.eq_ofNat_of_zero_le (show 0 ≤ m by omega)
    refine (lgrow10_ok w h hL (show n ≤ j by omega) (show j ≤ 400 by omega)).mono ?_
    rintro e w' ⟨A', c', h1, h2, h3⟩
    exact ⟨j, s, _, A', c', h1, by omega, h2, h3⟩
theorem lfill10_any {L g n s c m d : Nat} {xs zs : List Nat} {A B : Option Addr} (w : World) (h : Pl10 L w g n s xs A c) (hL : L ≤ w.heap.size) (hl : zs.length = m) (hr : Rq w L B zs) (hx : ∀ x ∈ zs, x < 18446744073709551616) (hn : n ≤ 400) (hm : m ≤ 400) :
    Calls Try.prog 10 #[.pointer (some ⟨g, 0, none⟩), .slice A n c, .slice B m d] w (Rs10 L g (Value.slice A n c).ownBlock w) := by
  rcases Nat.lt_or_ge n m with h0 | h0
  · refine (lfill10_range w h hL hl hr hm h0).mono ?_
    rintro e w' ⟨h1, h2, h3⟩
    exact ⟨n, s, xs, A, c, h1, hn, h2, h3⟩
  · rcases Nat.lt_or_ge (up9 zs m) 18446744073709551616 with hf | hf
    · refine (lfill10_ok w h hL hl hr hx hn h0 hf).mono ?_
      rintro e w' ⟨A', c', h1, h2, h3⟩
      exact ⟨n, s, _, A', c', h1, hn, h2, h3⟩
    · refine (lfill10_over w h hL hl hr hx hm h0 hf).mono ?_
      rintro e w' ⟨h1, h2, h3⟩
      exact ⟨n, s, xs, A, c, h1, hn, h2, h3⟩
theorem finds10_any {L g n s c nk ck W : Nat} {xs : List Nat} {A Ak : Option Addr} (kd i : Int) (w : World) (h : Pl10 L w g n s xs A c) (hL : L ≤ w.heap.size) (hn : n ≤ 400) (hW : W < 18446744073709551616) :
    Calls Try.prog 11 #[.pointer (some ⟨g, 0, none⟩), .slice A n c, .agg #[.int .i64 kd, .int .i64 i, .int .u64 (W : Int), .slice Ak nk ck]] w fun e w' => e = .returned (.bool true) ∧ (∃ s', Pl10 L w' g n s' xs A c) ∧ Below L w w' := by
  have hl := h.len
  rcases Nat.lt_or_ge W (up9 xs n) with hu | hu
  · obtain ⟨m, hp⟩ := Pk9.any (xs := xs) (r := W) (by rw [hl]; exact hu)
    by_cases hi : i < 0 ∨ (n : Int) ≤ i
    · exact finds10_yo kd i w h hL hn hW hi hp
    · obtain ⟨j, rfl⟩ := Int.eq_ofNat_of_zero_le (show 0 ≤ i by omega)
      exact finds10_yi kd w h hL hn hW (show j < n by omega) hp
  · by_cases hi : i < 0 ∨ (n : Int) ≤ i
    · exact finds10_no kd i w h hL hn hW hi hu
    · obtain ⟨j, rfl⟩ := Int.eq_ofNat_of_zero_le (show 0 ≤ i by omega)
      exact finds10_ni kd w h hL hn hW (show j < n by omega) hu
end Go.Proofs.Ytodbmpbhjbknlaa
