/-
  Numbers and texts as bytes: the program's reader.
-/
import Derived.Test.YtbogejpjnbdfcaaWireC
namespace Go.Proofs.Ytbogejpjnbdfcaa
open Go.RowKit
set_option maxRecDepth 100000

theorem fnum_lt (xs : List UInt8) : ∀ i acc, acc < 128 ^ i → i ≤ 9 → (fnum i acc xs).1 < 18446744073709551616 ∧ (fnum i acc xs).2.1 ≤ i + xs.length := by
  induction xs with
  | nil => intro i acc _ _; simp [fnum]
  | cons c r ih =>
    intro i acc ha hi
    rw [fnum]
    have hb := num_lt (x := c.toNat) ha
    by_cases h1 : (0 < i ∧ c.toNat = 0) ∨ (i = 9 ∧ 1 < c.toNat)
    · rw [if_pos h1]; simp
    · rw [if_neg h1]
      by_cases h2 : c.toNat < 128
      · rw [if_pos h2]
        refine ⟨?_, by simp⟩
        rcases Nat.lt_or_ge i 9 with h | h
        · have h3 : 128 ^ (i + 1) ≤ 128 ^ 9 := Nat.pow_le_pow_right (by omega) (by omega)
          have h4 : (128 : Nat) ^ 9 = 9223372036854775808 := by decide
          simp only
          omega
        · obtain rfl : i = 9 := by omega
          have h4 : (128 : Nat) ^ 9 = 9223372036854775808 := by decide
          have h5 : c.toNat % 128 * 128 ^ 9 ≤ 1 * 128 ^ 9 := Nat.mul_le_mul_right _ (by omega)
          simp only
          omega
      · rw [if_neg h2]
        have := ih (i + 1) _ hb (by omega)
        simp only [List.length_cons]
        omega

/-- What a number's reading answers: the number, how far the reader goes, its error. -/
def numS (top : Nat) (xs : List UInt8) : Nat × Nat × Nat := if (fnum 0 0 xs).2.2 = 0 then (if top < (fnum 0 0 xs).1 then (0, 0, 6) else ((fnum 0 0 xs).1, (fnum 0 0 xs).2.1, 0)) else (0, 0, (fnum 0 0 xs).2.2)

/-- The program's reader lies in block g; it has the bytes xs before it; its error. -/
def WR (w : World) (g : Nat) (xs : List UInt8) (e : Int) : Prop :=
  ∃ A n c, Blk w g 51 #[.slice A n c, .int .i64 e] ∧ Rb w g A xs ∧ xs.length = n ∧ n ≤ c ∧ n ≤ 1000000
theorem WR.other {w w' : World} {g h : Nat} {xs : List UInt8} {e : Int} (k : WR w g xs e) (hg : w.grownBy w' (some h)) (hh : g < h) : WR w' g xs e := by
  obtain ⟨A, n, c, h1, h2, h3, h4, h5⟩ := k
  exact ⟨A, n, c, h1.grown hg (by simp; omega), h2.grown hg (by have := h1.lt; omega) (fun k hk => by cases hk; omega), h3, h4, h5⟩
theorem WR.below {w w' : World} {g : Nat} {xs : List UInt8} {e : Int} (k : WR w g xs e) (hg : Below w.heap.size w w') : WR w' g xs e := by
  obtain ⟨A, n, c, h1, h2, h3, h4, h5⟩ := k
  exact ⟨A, n, c, h1.below hg h1.lt, h2.below hg (by have := h1.lt; omega), h3, h4, h5⟩

set_option maxHeartbeats 1000000 in
theorem newReader_any (A : Option Addr) (xs : List UInt8) (n c : Nat) (w : World) (hl : xs.length = n) (hr : Rb w w.heap.size A xs) (hn : n ≤ 1000000) :
    Calls Try.prog 12 #[.slice A n c] w fun e w' => ∃ g, e = .returned (.pointer (some ⟨g, 0, none⟩)) ∧ w.heap.size ≤ g ∧ WR w' g xs 0 ∧ Below w.heap.size w w' := by
  have HC := Lib.hid (clone8_any A xs n c w hl hr hn)
  have hxl : xs.length ≤ 1000000 := by omega
  clear hl hr
  go_enter Try.func12, Try.ntmps12
  go_wp2_with fail
  refine HC.out.mono ?_
  rintro e w1 ⟨A1, n1, c1, rfl, hl1, hc1, hown1, hb1⟩
  have HL1 := Lib.hid hl1
  have HO1 := Lib.hid hown1
  clear hl1 hown1 HC
  go_wp2_with fail
  go_ret
  exact ⟨w1.heap.size, rfl, hb1.size, ⟨A1, n1, c1, Blk.new _ _ _, (Rb.of_own HO1.out).alloc (Nat.le_refl _) _, HL1.out, hc1, by have := HL1.out; omega⟩, hb1.alloc hb1.size _⟩

theorem grown_set (W : World) (b i : Nat) (v : Value) : W.grownBy (W.setCell ⟨b, i, none⟩ v) (some b) :=
  ⟨rfl, rfl, rfl, by simp, fun k _ hk => Below.heap_setCell _ _ _ k (fun e => hk (by rw [e]))⟩
/-- Which error it has. -/
theorem err_any (g : Nat) (xs : List UInt8) (e : Int) (w : World) (h : WR w g xs e) : Calls Try.prog 23 #[.pointer (some ⟨g, 0, none⟩)] w fun en w' => en = .returned (.int .i64 e) ∧ w' = w := by
  obtain ⟨A, n, c, hb, hr, hl, hc, hn⟩ := h
  have c1 := hb.cell 1
  clear hr hl
  go_enter Try.func23, Try.ntmps23
  go_wp2_with fail
  go_ret
  exact ⟨rfl, rfl⟩
theorem left_any (g : Nat) (xs : List UInt8) (e : Int) (w : World) (h : WR w g xs e) : Calls Try.prog 22 #[.pointer (some ⟨g, 0, none⟩)] w fun en w' => en = .returned (.int .i64 (xs.length : Int)) ∧ w' = w := by
  obtain ⟨A, n, c, hb, hr, hl, hc, hn⟩ := h
  have c0 := hb.cell 0
  have HL := Lib.hid hl
  clear hr hl
  go_enter Try.func22, Try.ntmps22
  go_wp2_with fail
  go_ret
  exact ⟨by rw [HL.out]; rfl, rfl⟩
theorem fail_any (g : Nat) (xs : List UInt8) (e k : Int) (w : World) (h : WR w g xs e) : Calls Try.prog 20 #[.pointer (some ⟨g, 0, none⟩), .int .i64 k] w fun en w' => en = .returned (.tuple #[]) ∧ WR w' g xs (if e = 0 then k else e) ∧ w.grownBy w' (some g) := by
  obtain ⟨A, n, c, hb, hr, hl, hc, hn⟩ := h
  have c1 := hb.cell 1
  have f1 := hb.frozen 1
  have HB := Lib.hid hb
  have HR := Lib.hid hr
  clear hr hb
  by_cases h0 : e = 0
  · subst h0
    go_enter Try.func20, Try.ntmps20
    go_wp2_with fail
    go_end0
    exact ⟨rfl, ⟨A, n, c, HB.out.set_ 1 _, HR.out.setCell (Nat.le_refl _) _, hl, hc, hn⟩, grown_set w g 1 _⟩
  · go_enter Try.func20, Try.ntmps20
    go_wp2_with fail
    go_end0
    exact ⟨rfl, ⟨A, n, c, HB.out, HR.out, hl, hc, hn⟩, World.grownBy.refl w _⟩

/-- The reader's state is: what is before it, and its error. Num. -/
def numT (top : Nat) (st : List UInt8 × Int) : Nat × (List UInt8 × Int) := if st.2 = 0 then ((numS top st.1).1, (st.1.drop (numS top st.1).2.1, ((numS top st.1).2.2 : Int))) else (0, st)

set_option maxHeartbeats 1000000 in
theorem num_any (g : Nat) (xs : List UInt8) (e : Int) (top : Nat) (w : World) (h : WR w g xs e) (ht : top < 18446744073709551616) : Calls Try.prog 14 #[.pointer (some ⟨g, 0, none⟩), .int .u64 (top : Int)] w fun en w' =>
    en = .returned (.int .u64 ((numT top (xs, e)).1 : Int)) ∧ WR w' g (numT top (xs, e)).2.1 (numT top (xs, e)).2.2 ∧ w.grownBy w' (some g) := by
  have HE := Lib.hid (err_any g xs e w h)
  by_cases h0 : e = 0
  · subst h0
    obtain ⟨A, n, c, hb, hr, hl, hc, hn⟩ := h
    have c0 := hb.cell 0
    have HF := Lib.hid (firstNum_any A xs n c g w hl hr hn)
    have hlt := fnum_lt xs 0 0 (by simp) (by omega)
    have HN : Hid (numT top (xs, 0) = _) := Lib.hid (by unfold numT; rw [if_pos rfl])
    obtain ⟨R, hR⟩ : ∃ R, fnum 0 0 xs = R := ⟨_, rfl⟩
    obtain ⟨v, k, er⟩ := R
    rw [hR] at HF hlt
    have HX := Lib.hid hR
    have HL := Lib.hid hl
    have HB := Lib.hid hb
    have HRR := Lib.hid hr
    simp only at hlt
    clear hR hr hl hb
    go_enter Try.func14, Try.ntmps14
    go_wp2_with fail
    refine HE.out.mono ?_
    rintro en w1 ⟨rfl, rfl⟩
    go_wp2_with fail
    refine HF.out.mono ?_
    rintro en w1 ⟨rfl, rfl⟩
    have hk3 : (er = 0 ∧ v ≤ top) ∨ (er = 0 ∧ top < v) ∨ ¬ er = 0 := by omega
    rcases hk3 with ⟨rfl, h1⟩ | ⟨rfl, h1⟩ | h1
    · have hA : ∃ b o, A = some ⟨b, o, none⟩ := by
        have hne : xs ≠ [] := by rintro rfl; have := HX.out; simp [fnum] at this
        obtain ⟨b, o, h2, _⟩ := HRR.out hne
        exact ⟨b, o, h2⟩
      obtain ⟨b, o, rfl⟩ := hA
      have hk0 : (0 : Int) ≤ (k : Int) := by omega
      have hk1 : (k : Int) ≤ (n : Int) := by have := HL.out; omega
      have f0 := HB.out.frozen 0
      have HS : Hid (numS top xs = (v, k, 0)) := Lib.hid (by unfold numS; rw [HX.out]; simp only [if_true]; rw [if_neg (by omega)])
      have HK : Hid (k ≤ n ∧ n ≤ c) := Lib.hid ⟨by omega, hc⟩
      go_wp2_with fail
      · go_ret
        rw [HN.out, HS.out]
        have hx0 : xs.drop k = [] := List.drop_eq_nil_of_le (by have := HK.out; have := HL.out; omega)
        simp only [hx0]
        exact ⟨rfl, ⟨some ⟨b, o, none⟩, n - k, 0, HB.out.set_ 0 _, Rb.nil _ _ _, by have := HK.out; simp; omega, by have := HK.out; omega, by omega⟩, grown_set w1 g 0 _⟩
      · go_ret
        rw [HN.out, HS.out]
        exact ⟨rfl, ⟨some ⟨b, o + k, none⟩, n - k, c - k, HB.out.set_ 0 _, (HRR.out.drop k).setCell (Nat.le_refl _) _, by rw [List.length_drop, HL.out], by have := HK.out; omega, by omega⟩, grown_set w1 g 0 _⟩
    · have HS : Hid (numS top xs = (0, 0, 6)) := Lib.hid (by unfold numS; rw [HX.out]; simp only [if_true]; rw [if_pos (by omega)])
      have hw : WR w1 g xs 0 := ⟨A, n, c, HB.out, HRR.out, HL.out, hc, hn⟩
      have HW := Lib.hid hw
      clear hw
      go_wp2_with fail
      refine (fail_any g xs 0 6 w1 HW.out).mono ?_
      rintro en w2 ⟨rfl, hw2, hg2⟩
      have HW2 := Lib.hid hw2
      clear hw2
      go_wp2_with fail
      go_ret
      rw [HN.out, HS.out]
      exact ⟨rfl, by simpa using HW2.out, hg2⟩
    · have HS : Hid (numS top xs = (0, 0, er)) := Lib.hid (by unfold numS; rw [HX.out]; simp only; rw [if_neg h1])
      have hw : WR w1 g xs 0 := ⟨A, n, c, HB.out, HRR.out, HL.out, hc, hn⟩
      have HW := Lib.hid hw
      clear hw
      go_wp2_with fail
      refine (fail_any g xs 0 er w1 HW.out).mono ?_
      rintro en w2 ⟨rfl, hw2, hg2⟩
      have HW2 := Lib.hid hw2
      clear hw2
      go_wp2_with fail
      go_ret
      rw [HN.out, HS.out]
      exact ⟨rfl, by simpa using HW2.out, hg2⟩
  · go_enter Try.func14, Try.ntmps14
    go_wp2_with fail
    refine HE.out.mono ?_
    rintro en w1 ⟨rfl, rfl⟩
    go_wp2_with fail
    go_ret
    have hN : numT top (xs, e) = (0, (xs, e)) := if_neg h0
    rw [hN]
    exact ⟨rfl, h, World.grownBy.refl _ _⟩
end Go.Proofs.Ytbogejpjnbdfcaa
