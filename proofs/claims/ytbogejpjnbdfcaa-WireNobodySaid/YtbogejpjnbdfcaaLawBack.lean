/-
  What was put comes back; a nil reader reads nothing: the walks.
-/
import Derived.Test.YtbogejpjnbdfcaaWireI
namespace Go.Proofs.Ytbogejpjnbdfcaa
open Go.RowKit
set_option maxRecDepth 100000

/-- A number that was put is read. -/
theorem fnum_pn (rest : List UInt8) : ∀ (v i acc : Nat), (0 < i → 0 < v) → v * 128 ^ i < 18446744073709551616 → i ≤ 9 → fnum i acc (pn v ++ rest) = (acc + v * 128 ^ i, i + (pn v).length, 0) := by
  intro v
  induction v using Nat.strongRecOn with
  | ind v ih =>
    intro i acc hi hv h9
    have hp : 0 < 128 ^ i := Nat.pow_pos (by omega)
    by_cases hs : v < 128
    · have ht : (UInt8.ofNat v).toNat = v := by have := toNat_byte (n := v) (by omega); omega
      rw [pn_small hs, List.singleton_append, fnum, ht, if_neg, if_pos hs, Nat.mod_eq_of_lt hs]
      · rfl
      · rintro (⟨h1, h2⟩ | ⟨rfl, h2⟩)
        · have := hi h1; omega
        · have h4 : (128 : Nat) ^ 9 = 9223372036854775808 := by decide
          have h3 : 2 * 128 ^ 9 ≤ v * 128 ^ 9 := Nat.mul_le_mul_right _ h2
          omega
    · have ht : (UInt8.ofNat (128 + v % 128)).toNat = 128 + v % 128 := by have := toNat_byte (n := 128 + v % 128) (by omega); omega
      have h8 : i ≤ 8 := by
        rcases Nat.lt_or_ge i 9 with h | h
        · omega
        · obtain rfl : i = 9 := by omega
          have h4 : (128 : Nat) ^ 9 = 9223372036854775808 := by decide
          have h3 : 128 * 128 ^ 9 ≤ v * 128 ^ 9 := Nat.mul_le_mul_right _ (by omega)
          omega
      have hdm := Nat.div_add_mod v 128
      have e1 : v * 128 ^ i = v % 128 * 128 ^ i + v / 128 * 128 ^ (i + 1) := by
        rw [Nat.pow_succ]
        generalize v / 128 = q at *
        generalize v % 128 = r at *
        subst hdm
        grind
      rw [pn_big (by omega), List.cons_append, fnum, ht, if_neg, if_neg (by omega), show (128 + v % 128) % 128 = v % 128 by omega, ih (v / 128) (by omega) (i + 1) _ (fun _ => by omega) (by omega) (by omega), List.length_cons, e1]
      · simp only [Prod.mk.injEq]
        exact ⟨by omega, by omega, trivial⟩
      · rintro (⟨h1, h2⟩ | ⟨rfl, h2⟩) <;> omega
theorem numT_pn {v top : Nat} (rest : List UInt8) (hv : v < 18446744073709551616) (ht : v ≤ top) : numT top (pn v ++ rest, 0) = (v, (rest, 0)) := by
  have h := fnum_pn rest v 0 0 (by omega) (by simpa using hv) (by omega)
  unfold numT numS
  rw [if_pos rfl]
  simp only [h, if_true, Nat.pow_zero, Nat.mul_one, Nat.zero_add]
  rw [if_neg (by omega)]
  simp
theorem textT_pn {v : Nat} {bs : List UInt8} (hl : bs.length = v) (hv : v < 18446744073709551616) : textT v (pn v ++ bs, 0) = (bs, ([], 0)) := by
  unfold textT
  rw [if_pos rfl, numT_pn bs hv (Nat.le_refl _)]
  simp only [if_true, hl, Nat.lt_irrefl, if_false]
  rw [List.take_of_length_le (by omega), List.drop_eq_nil_of_le (by omega)]

theorem nobody_walk (n : Int) (w : World) : Calls Try.prog 6 #[.int .i64 n] w fun e w' => e = .returned (.bool true) ∧ Below w.heap.size w w' := by
  go_enter Try.func6, Try.ntmps6
  go_wp2_with fail
  refine (fail_nil _ _).mono ?_
  rintro e w1 ⟨rfl, rfl⟩
  go_wp2_with fail
  refine (num_nil _ _).mono ?_
  rintro e w1 ⟨rfl, rfl⟩
  go_wp2_with fail
  refine (int_nil _ _).mono ?_
  rintro e w1 ⟨rfl, rfl⟩
  go_wp2_with fail
  refine (text_nil _ _).mono ?_
  rintro e w1 ⟨rfl, rfl⟩
  go_wp2_with fail
  refine (left_nil _).mono ?_
  rintro e w1 ⟨rfl, rfl⟩
  go_wp2_with fail
  refine (err_nil _).mono ?_
  rintro e w1 ⟨rfl, rfl⟩
  go_wp2_with fail
  refine (alive5_any _).mono ?_
  rintro e w2 ⟨rfl, hb⟩
  go_wp2_with fail
  go_ret
  exact ⟨rfl, hb⟩

theorem back_long (B : Option Addr) (m d : Nat) (s : ByteArray) (w : World) (hlong : 50 < m ∨ (m ≤ 50 ∧ 300 < s.size)) :
    Calls Try.prog 5 #[.slice B m d, .string s] w fun e w' => e = .returned (.bool true) ∧ Below w.heap.size w w' := by
  rcases hlong with h | ⟨h, h2⟩
  all_goals
    go_enter Try.func5, Try.ntmps5
    go_wp2_with fail
    refine (alive5_any w).mono ?_
    rintro e w1 ⟨rfl, hb⟩
    go_wp2_with fail
    go_ret
    exact ⟨rfl, hb⟩

theorem pns_drop {ls : List Nat} {k : Nat} (h : k < ls.length) : pns (ls.drop k) = pn (nth ls k) ++ pns (ls.drop (k + 1)) := by
  rw [List.drop_eq_getElem_cons h, nth_in h]
  rfl

set_option maxHeartbeats 4000000 in
theorem back_walk (B : Option Addr) (ls : List Nat) (m d : Nat) (s : ByteArray) (w : World) (hm : ls.length = m) (hru : Ru w B ls) (hw : Wds ls) (hmm : m ≤ 50) (hs : s.size ≤ 300) :
    Calls Try.prog 5 #[.slice B m d, .string s] w fun e w' => e = .returned (.bool true) ∧ Below w.heap.size w w' := by
  have HM := Lib.hid hm
  have HW := Lib.hid hw
  have HU0 := Lib.hid hru
  have hc1 := wput_any none B [] ls 0 0 m d w rfl hm (Rb.nil _ _ _) hru hw (by omega) (by omega)
  rw [List.nil_append] at hc1
  have HC1 := Lib.hid hc1
  have hpl := pns_len hw ls.length (Nat.le_refl _)
  rw [List.take_length] at hpl
  have HPL := Lib.hid hpl
  clear hm hru hw hc1 hpl
  go_enter Try.func5, Try.ntmps5
  go_wp2_with fail
  refine HC1.out.mono ?_
  rintro en w1 ⟨A1, n1, c1, rfl, hl1, hc1, hown1, hb1⟩
  have HC2 := Lib.hid (putText_any A1 _ n1 c1 s w1 hl1 (Rb.of_own hown1) (by have := HPL.out; have := HM.out; omega) (by omega))
  have HB1 := Lib.hid hb1
  have HL1 := Lib.hid hl1
  clear hown1 hl1 HC1 hb1
  go_wp2_with fail
  refine HC2.out.mono ?_
  rintro en w2 ⟨A2, n2, c2, rfl, hl2, hc2, hown2, hb2⟩
  have HC3 := Lib.hid (newReader_any A2 _ n2 c2 w2 hl2 (Rb.of_own hown2) (by
    have h3 := pn_len (n := s.size) (by omega)
    have h4 : s.data.toList.length = s.size := by rw [Array.length_toList]; rfl
    have := HL1.out
    have := HPL.out
    have := HM.out
    simp only [List.length_append] at hl2
    omega))
  have HB2 := Lib.hid (HB1.out.trans (hb2.mono HB1.out.size))
  clear hown2 hl2 HC2 hb2 HB1 HL1
  go_wp2_with fail
  refine HC3.out.mono ?_
  rintro en w3 ⟨g, rfl, hg, hw3, hb3⟩
  have hgw : w.heap.size ≤ g := Nat.le_trans HB2.out.size hg
  have HB3 := HB2.out.trans (hb3.mono HB2.out.size)
  have HW3 := Lib.hid hw3
  clear hw3 hb3 HB2 HC3 hg
  go_wp2_with fail
  go_loopw [6] (fun i wr => ∃ k : Nat, i = .int .i64 (k : Int) ∧ k ≤ m ∧ Hid (WR wr g (pns (ls.drop k) ++ pn s.size ++ s.data.toList) 0) ∧ Below w.heap.size w wr) (fun i _ => m - (intOf i).toNat)
  case atStart => exact ⟨0, rfl, by omega, by simpa using HW3, HB3⟩
  case round =>
    obtain ⟨k, rfl, hk, HWR, hbl⟩ := hrel
    by_cases ht : k < m
    · obtain ⟨b, o, hA, hc⟩ := (HU0.out.below hbl).at_ (k := k) (by have := HM.out; omega)
      subst hA
      have hbb : b < w.heap.size := by
        obtain ⟨b', o', h1, h2⟩ := HU0.out.at_ (k := k) (by have := HM.out; omega)
        injection h1 with h1
        injection h1 with h1
        subst h1
        exact World.block_lt_of_cell? _ _ h2
      have hi0 : (0 : Int) ≤ (k : Int) := by omega
      have hi1 : (k : Int) < (m : Int) := by omega
      have hwd := HW.out.nth k
      have hstep := pns_drop (ls := ls) (k := k) (by have := HM.out; omega)
      obtain ⟨x, hx⟩ : ∃ x, nth ls k = x := ⟨_, rfl⟩
      rw [hx] at hc hwd hstep
      have HX := Lib.hid hx
      have hrd : WR wr.drew g (pn x ++ (pns (ls.drop (k + 1)) ++ pn s.size ++ s.data.toList)) 0 := by
        have h5 := HWR.out
        rw [hstep] at h5
        simp only [List.append_assoc] at h5 ⊢
        exact h5.below ((Below.refl _ _).drew)
      have hC := num_any g _ 0 x wr.drew hrd hwd
      rw [numT_pn _ hwd (Nat.le_refl _)] at hC
      have HC := Lib.hid hC
      have hcd : wr.drew.cell? ⟨b, o + k, none⟩ = some (.int .u64 (x : Int)) := hc
      have hself : ((x : Int) != (x : Int)) = false := by simp
      clear hc hx hrd hC hstep
      go_wp2_with fail
      go_region_held3 (fun w' => w'.cell? ⟨b, o + k, none⟩ = some (.int .u64 (x : Int)))
        (first | exact hcd | assumption)
        (first
          | (go_at_call 14; (with_reducible refine HC.out.mono ?_); rintro e u1 ⟨rfl, hw1, hg1⟩; have HW1 := Lib.hid hw1; have hS1 := hg1.cell hcd (by simp; omega); have HG1 := Lib.hid hg1; clear hw1 hg1))
      have hb3 := wrote_b hbl.drew HG1.out hgw hbl.size
      go_wp2_with fail
      go_roundw
      case rel => exact ⟨k + 1, by go_num, by omega, HW1, hb3⟩
      case measure => simp [intOf]; omega
    · have hkm : k = m := by omega
      have hd0 : ls.drop k = [] := List.drop_eq_nil_of_le (by have := HM.out; omega)
      rw [hd0] at HWR
      have hw0 : WR wr g (pn s.size ++ s.data.toList) 0 := HWR.out
      have hC := textr_any g _ 0 (s.size : Int) wr hw0 (by omega)
      rw [show ((s.size : Nat) : Int).toNat = s.size from rfl, textT_pn (by rw [Array.length_toList]; rfl) (by omega)] at hC
      have HC := Lib.hid hC
      clear hw0 hC HWR hd0
      go_wp2_with fail
      refine HC.out.mono ?_
      rintro en w4 ⟨rfl, hw4, hg4⟩
      have HL4 := Lib.hid (left_any g _ _ w4 hw4)
      have HE4 := Lib.hid (err_any g _ _ w4 hw4)
      have hb4 := wrote_b hbl hg4 hgw hbl.size
      clear hw4 hg4
      go_wp2_with fail
      refine HL4.out.mono ?_
      rintro en w5 ⟨rfl, rfl⟩
      go_wp2_with fail
      refine HE4.out.mono ?_
      rintro en w5 ⟨rfl, rfl⟩
      go_wp2_with fail
      refine (alive5_any _).mono ?_
      rintro en w6 ⟨rfl, hb6⟩
      go_wp2_with fail
      go_ret
      exact ⟨rfl, hb4.trans (hb6.mono hb4.size)⟩
end Go.Proofs.Ytbogejpjnbdfcaa
