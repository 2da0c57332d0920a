/-
  Package euclid of the program, and the document's: the document's Lcm; Reduce, MulMod, lessMod.
-/
import Derived.Test.YtadpeleohialaaaEucB
import Derived.Test.YtadpeleohialaaaNums
import Derived.Test.YtadpeleohialaaaPackB
namespace Go.Proofs.Ytadpeleohialaaa
open Go.RowKit

theorem fw_def (a : Nat) : (fw a, fb a) = if a < 18446744073709551616 then (a, true) else (0, false) := by
  by_cases h : a < 18446744073709551616
  · rw [fw_in h, fb_in h, if_pos h]
  · rw [fw_out (by omega), fb_out (by omega), if_neg h]

set_option maxHeartbeats 1600000 in
theorem refLcm_any (A : Option Addr) (xs : List Nat) (n c : Nat) (w : World) (hl : xs.length = n) (hn : n ≤ 1000) (hr : Ru w A xs) (hw : Wds xs) :
    Calls Try.prog 8 #[.slice A n c] w fun e w' => e = .returned (.tuple #[.int .u64 (((lcmR xs).1 : Nat) : Int), .bool (lcmR xs).2]) ∧ Below w.heap.size w w' := by
  obtain ⟨R, hR⟩ : ∃ R, lcmR xs = R := ⟨_, rfl⟩
  rw [hR]
  have HR := Lib.hid hR
  have HL := Lib.hid hl
  clear hl hR
  go_enter Try.func8, Try.ntmps8
  go_wp2_with fail
  go_loopw [4] (fun i wr => ∃ k : Nat, i = .int .i64 (k : Int) ∧ k ≤ n ∧ Hid (∀ j, j < k → nth xs j ≠ 0) ∧ Below w.heap.size w wr) (fun i _ => n - (intOf i).toNat)
  case atStart => exact ⟨0, rfl, by omega, Lib.hid (fun j hj => by omega), Below.refl _ _⟩
  case round =>
    obtain ⟨k, rfl, hk, HF, hbl⟩ := hrel
    by_cases ht : k < n
    · obtain ⟨b, o, hA, hc⟩ := (hr.below hbl).at_ (k := k) (by have := HL.out; omega)
      subst hA
      have hi0 : (0 : Int) ≤ (k : Int) := by omega
      have hi1 : (k : Int) < (n : Int) := by omega
      by_cases he : nth xs k = 0
      · have he1 : (((nth xs k : Nat) : Int) == 0) = true := by rw [he]; simp
        have HE : Hid (R = (0, true)) := Lib.hid (by rw [← HR.out, lcmR, if_pos (hasW_yes (by have := HL.out; omega) he)])
        clear he
        go_wp2_with fail
        go_ret2
        exact ⟨by rw [HE.out]; rfl, hbl⟩
      · have he1 : (((nth xs k : Nat) : Int) == 0) = false := by simp; omega
        have HS : Hid (∀ j, j < k + 1 → nth xs j ≠ 0) := Lib.hid (fun j hj => by
          rcases Nat.lt_or_ge j k with h | h
          · exact HF.out j h
          · rw [show j = k by omega]; exact he)
        clear he HF
        go_wp2_with fail
        go_roundw
        case rel => exact ⟨k + 1, by go_num, by omega, HS, hbl⟩
        case measure => simp [intOf]; omega
    · obtain rfl : k = n := by omega
      have HNZ : Hid (∀ j, j < xs.length → nth xs j ≠ 0) := Lib.hid (fun j hj => HF.out j (by have := HL.out; omega))
      have HR2 : Hid (R = lcmF xs 1) := Lib.hid (by rw [← HR.out, lcmR, if_neg (by rw [hasW_no HNZ.out]; simp)])
      clear HF HR ht hk
      go_wp2_with fail
      go_loopw [5, 6] (fun x i wr => ∃ k' m : Nat, x = .int .u64 (m : Int) ∧ i = .int .i64 (k' : Int) ∧ k' ≤ k ∧ m < 18446744073709551616 ∧ Hid (lcmF (xs.drop k') m = R) ∧ Below w.heap.size w wr) (fun _ i _ => k - (intOf i).toNat)
      case atStart => exact ⟨0, 1, rfl, rfl, by omega, by omega, Lib.hid (by rw [HR2.out]; rfl), hbl⟩
      case round =>
        obtain ⟨i, m, rfl, rfl, hk, hm, HF, hbl⟩ := hrel
        clear HR2
        by_cases ht : i < k
        · obtain ⟨b, o, hA, hc⟩ := (hr.below hbl).at_ (k := i) (by have := HL.out; omega)
          subst hA
          have hi0 : (0 : Int) ≤ (i : Int) := by omega
          have hi1 : (i : Int) < (k : Int) := by omega
          have hxk := hw.nth i
          have hx0 := HNZ.out i (by have := HL.out; omega)
          obtain ⟨x, hx⟩ : ∃ x, nth xs i = x := ⟨_, rfl⟩
          have HIN := fun h => lcmF_in (xs := xs) (k := i) (m := m) (by have := HL.out; omega) h
          have HOUT := fun h => lcmF_out (xs := xs) (k := i) (m := m) (by have := HL.out; omega) h
          rw [hx] at hc hxk hx0 HIN HOUT
          rw [HF.out] at HIN HOUT
          have hg0 : 0 < Nat.gcd m x := Nat.gcd_pos_of_pos_right _ (by omega)
          obtain ⟨g, hg⟩ : ∃ g, Nat.gcd m x = g := ⟨_, rfl⟩
          rw [hg] at hg0 HIN HOUT
          have HGG := Lib.hid hg
          have hq : x / g ≤ x := Nat.div_le_self _ _
          have hg1 : ((g : Int) == 0) = false := by simp; omega
          have hg2 : ¬ (g : Int) = 0 := by omega
          have e2 : IntKind.u64.wrap ((x : Int) / (g : Int)) = ((x / g : Nat) : Int) := by rw [show (x : Int) / (g : Int) = ((x / g : Nat) : Int) by simp, u64_in _ (by omega)]
          have hg3 : ¬ g = 0 := by omega
          have e2t : IntKind.u64.wrap ((x : Int).tdiv (g : Int)) = ((x / g : Nat) : Int) := by rw [show (x : Int).tdiv (g : Int) = ((x / g : Nat) : Int) by rfl, u64_in _ (by omega)]
          obtain ⟨q, hqq⟩ : ∃ q, x / g = q := ⟨_, rfl⟩
          rw [hqq] at HIN HOUT hq e2 e2t
          have HIN := Lib.hid HIN
          have HOUT := Lib.hid HOUT
          clear hx hqq hg
          go_wp2_with fail
          go_region_held3 (fun w' => w'.cell? ⟨b, o + i, none⟩ = some (.int .u64 (x : Int)) ∧ Below wr.heap.size wr w')
            (first | exact ⟨hc, (Below.refl _ _).drew⟩ | assumption)
            (first
              | (go_at_call 20; (with_reducible refine (of_any m _ hm).mono ?_); rintro e u1 ⟨v1, rfl, hn1, hb1⟩; have N1 := Lib.hid hn1; clear hn1; have hS1 := held_one hb1 (by assumption))
              | (go_at_call 10; (with_reducible refine (refGcd_any m x _ hm hxk).mono ?_); rintro e u2 ⟨rfl, hb2⟩; rw [HGG.out]; have N1b := Lib.hid (N1.out.below hb2); have hS2 := held_one hb2 (by assumption))
              | (go_at_call 20; (with_reducible refine (of_any q _ (by omega)).mono ?_); rintro e u3 ⟨v3, rfl, hn3, hb3⟩; have N1c := Lib.hid (N1b.out.below hb3); have N3 := Lib.hid hn3; clear hn3; have hS3 := held_one hb3 (by assumption))
              | (go_at_call 19; (with_reducible refine (mul_num v1 v3 _ _ _ _ _ N1c.out N3.out (pow_word hm) (pow_word (by omega))).mono ?_); rintro e u4 ⟨v4, rfl, hn4, hb4⟩; have N4 := Lib.hid hn4; clear hn4; have hS4 := held_one hb4 (by assumption))
              | (go_at_call 24; (with_reducible refine (word_num v4 _ _ _ N4.out).mono ?_); rintro e u5 ⟨rfl, hb5⟩; have hS5 := held_one hb5 (by assumption)))
          have hB := hbl.trans (hS5.2.mono hbl.size)
          clear hS1 hS2 hS3 hS4 hS5 N1 N1b N1c N3 N4
          obtain ⟨p, hp⟩ : ∃ p, m * q = p := ⟨_, rfl⟩
          rw [hp]
          by_cases hf : p < 18446744073709551616
          · rw [fw_in hf, fb_in hf]
            have HN : Hid (R = lcmF (xs.drop (i + 1)) p) := Lib.hid (by rw [← hp]; exact HIN.out (by rw [hp]; exact hf))
            clear HIN HOUT hp
            go_wp2_with fail
            go_roundw
            case rel => exact ⟨i + 1, p, rfl, by go_num, by omega, hf, Lib.hid HN.out.symm, hB⟩
            case measure => simp [intOf]; omega
          · rw [fw_out (by omega), fb_out (by omega)]
            have HN : Hid (R = (0, false)) := Lib.hid (HOUT.out (by rw [hp]; exact hf))
            clear HIN HOUT hp
            go_wp2_with fail
            go_ret2
            exact ⟨by rw [HN.out]; rfl, hB⟩
        · obtain rfl : i = k := by omega
          have HE : Hid (R = (m, true)) := Lib.hid (by rw [← HF.out, List.drop_eq_nil_of_le (by have := HL.out; omega)]; rfl)
          go_wp2_with fail
          go_ret2
          exact ⟨by rw [HE.out]; rfl, hbl⟩
end Go.Proofs.Ytadpeleohialaaa
