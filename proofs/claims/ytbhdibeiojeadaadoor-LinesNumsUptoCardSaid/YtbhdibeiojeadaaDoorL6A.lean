/-
  Lines: what a word is, the number of a text: the document's.
-/
import Derived.Test.YtbhdibeiojeadaaDoorMA
import Derived.Test.YtbhdibeiojeadaaDoorProg
import Derived.Test.YtbhdibeiojeadaaDoorDecM
namespace Go.Proofs.YtbhdibeiojeadaaDoor
open Go.RowKit
set_option maxRecDepth 100000

/-- A byte of a word. -/
def wB (b : UInt8) : Bool := decide (33 ≤ b.toNat) && decide (b.toNat ≤ 126)
/-- A word: one such byte or more. -/
def wordB (l : List UInt8) : Bool := !l.isEmpty && l.all wB
theorem str_get {s : ByteArray} {l : List UInt8} (hl : s.data.toList = l) {k : Nat} (hk : k < s.size) : (s[k]'hk) = l.getD k 0 := by
  subst hl
  rw [List.getD_eq_getElem?_getD, List.getElem?_eq_getElem (by rw [ba_len]; exact hk), Option.getD_some]
  rfl
theorem all_of {p : UInt8 → Bool} {l : List UInt8} (h : ∀ j, j < l.length → p (l.getD j 0) = true) : l.all p = true := by
  rw [List.all_eq_true]
  intro x hx
  obtain ⟨j, hj, rfl⟩ := List.getElem_of_mem hx
  have := h j hj
  rwa [List.getD_eq_getElem?_getD, List.getElem?_eq_getElem hj, Option.getD_some] at this
theorem not_all_of {p : UInt8 → Bool} {l : List UInt8} {k : Nat} (hk : k < l.length) (h : p (l.getD k 0) = false) : l.all p = false := by
  rw [List.all_eq_false]
  refine ⟨l[k], List.getElem_mem hk, ?_⟩
  rw [List.getD_eq_getElem?_getD, List.getElem?_eq_getElem hk, Option.getD_some] at h
  rw [h]
  simp

set_option maxHeartbeats 2000000 in
theorem refWord_any (s : ByteArray) (w : World) (hs : s.size ≤ 4611686018427387904) :
    Calls Tryd.prog 13 #[.string s] w fun e w' => e = .returned (.bool (wordB s.data.toList)) ∧ w' = w := by
  have hlen := ba_len s
  have hget : ∀ (k : Nat) (hk : k < s.size), (s[k]'hk) = s.data.toList.getD k 0 := fun k hk => str_get rfl hk
  obtain ⟨l, hl⟩ : ∃ l, s.data.toList = l := ⟨_, rfl⟩
  rw [hl] at hlen
  simp only [hl] at hget
  rw [hl]
  have HLEN := Lib.hid hlen
  have HGET := Lib.hid hget
  clear hl hlen hget
  go_enter Tryd.func13, Tryd.ntmps13
  go_wp2_with fail
  go_loopw [3] (fun iv wr => ∃ k : Nat, iv = .int .i64 (k : Int) ∧ k ≤ s.size ∧ Hid (∀ j, j < k → wB (l.getD j 0) = true) ∧ wr = w) (fun iv _ => s.size - (intOf iv).toNat)
  case atStart => exact ⟨0, rfl, by omega, Lib.hid (fun j hj => by omega), rfl⟩
  case round =>
    obtain ⟨k, rfl, hk, HALL, rfl⟩ := hrel
    by_cases hkn : k < s.size
    · obtain ⟨x, hx⟩ : ∃ x, (l.getD k 0).toNat = x := ⟨_, rfl⟩
      have hxi : ((s[k]'hkn).toNat : Int) = (x : Int) := by rw [HGET.out k hkn, hx]
      have HW : Hid (wB (l.getD k 0) = (decide (33 ≤ x) && decide (x ≤ 126))) := Lib.hid (by rw [← hx]; rfl)
      clear hx
      by_cases h1 : x ≤ 32
      · go_wp2_with fail
        go_ret
        have hw : wordB l = false := by
          unfold wordB
          rw [not_all_of (by rw [HLEN.out]; exact hkn) (by rw [HW.out, decide_eq_false (show ¬ 33 ≤ x by omega)]; rfl), Bool.and_false]
        exact ⟨by rw [hw]; rfl, rfl⟩
      by_cases h2 : 127 ≤ x
      · go_wp2_with fail
        go_ret
        have hw : wordB l = false := by
          unfold wordB
          rw [not_all_of (by rw [HLEN.out]; exact hkn) (by rw [HW.out, decide_eq_false (show ¬ x ≤ 126 by omega), Bool.and_false]), Bool.and_false]
        exact ⟨by rw [hw]; rfl, rfl⟩
      have hw : wB (l.getD k 0) = true := by rw [HW.out, decide_eq_true (show 33 ≤ x by omega), decide_eq_true (show x ≤ 126 by omega)]; rfl
      go_wp2_with fail
      go_roundw
      case rel => exact ⟨k + 1, by go_num, by omega, Lib.hid (fun j hj => by
        rcases Nat.lt_or_ge j k with h | h
        · exact HALL.out j h
        · obtain rfl : j = k := by omega
          exact hw), by first | rfl | trivial⟩
      case measure => simp [intOf]; omega
    · obtain rfl : k = s.size := by omega
      have hall : l.all wB = true := all_of (fun j hj => HALL.out j (by have := HLEN.out; omega))
      have hw : wordB l = decide (0 < s.size) := by
        unfold wordB
        rw [hall, Bool.and_true, ← HLEN.out]
        cases l <;> simp
      go_wp2_with fail
      go_ret
      exact ⟨by rw [hw]; simp, rfl⟩

/-- The number of a text, from 0 to 2^64 - 1. -/
def wideO (l : List UInt8) : Option Nat := if isDecB l && decide (l.length ≤ 20) && decide (DV 0 l < 18446744073709551616) then some (DV 0 l) else none
theorem DV_mono (l : List UInt8) (k : Nat) : DV 0 (l.take k) ≤ DV 0 l := by
  have h : DV 0 l = DV (DV 0 (l.take k)) (l.drop k) := by rw [← DV_app, List.take_append_drop]
  rw [h, DV_acc (DV 0 (l.take k))]
  have h2 : DV 0 (l.take k) ≤ DV 0 (l.take k) * 10 ^ (l.drop k).length := Nat.le_mul_of_pos_right _ (Nat.pow_pos (by omega))
  exact Nat.le_trans h2 (Nat.le_add_right _ _)
theorem isDec_zero {l : List UInt8} (h : (l.headD 0).toNat = 48) (h1 : 1 < l.length) : isDecB l = false := by
  unfold isDecB
  have e1 : (l.length != 1) = true := by simp; omega
  rw [h, e1]
  simp
theorem wideO_no {l : List UInt8} (h : isDecB l = false ∨ 20 < l.length ∨ 18446744073709551616 ≤ DV 0 l) : wideO l = none := by
  unfold wideO
  rw [if_neg]
  simp only [Bool.and_eq_true, decide_eq_true_eq]
  rintro ⟨⟨h1, h2⟩, h3⟩
  rcases h with h | h | h
  · rw [h] at h1; cases h1
  · omega
  · omega
theorem wideO_yes {l : List UInt8} (h1 : isDecB l = true) (h2 : l.length ≤ 20) (h3 : DV 0 l < 18446744073709551616) : wideO l = some (DV 0 l) := by
  unfold wideO
  rw [h1, decide_eq_true h2, decide_eq_true h3]
  rfl

set_option maxHeartbeats 4000000 in
theorem refWide_any (s : ByteArray) (w : World) (hs : s.size ≤ 4611686018427387904) :
    Calls Tryd.prog 9 #[.string s] w fun e w' => ((wideO s.data.toList = none ∧ e = .returned (.tuple #[.int .u64 0, .bool false])) ∨ (∃ n : Nat, wideO s.data.toList = some n ∧ e = .returned (.tuple #[.int .u64 (n : Int), .bool true]))) ∧ w' = w := by
  have hlen := ba_len s
  have hget : ∀ (k : Nat) (hk : k < s.size), (s[k]'hk) = s.data.toList.getD k 0 := fun k hk => str_get rfl hk
  obtain ⟨l, hl⟩ : ∃ l, s.data.toList = l := ⟨_, rfl⟩
  rw [hl] at hlen
  simp only [hl] at hget
  rw [hl]
  have HLEN := Lib.hid hlen
  have HGET := Lib.hid hget
  have hlen2 := hlen
  clear hl hlen hget
  by_cases h0 : s.size = 0
  · have HNO : Hid (wideO l = none) := Lib.hid (wideO_no (.inl (by
      have : l = [] := List.eq_nil_of_length_eq_zero (by omega)
      rw [this]; rfl)))
    have h0i : (s.size : Int) = 0 := by omega
    clear h0 hlen2
    go_enter Tryd.func9, Tryd.ntmps9
    go_wp2_with fail
    go_ret2
    exact ⟨.inl ⟨HNO.out, rfl⟩, rfl⟩
  by_cases h20 : 20 < s.size
  · have HNO : Hid (wideO l = none) := Lib.hid (wideO_no (.inr (.inl (by omega))))
    clear hlen2
    go_enter Tryd.func9, Tryd.ntmps9
    go_wp2_with fail
    go_ret2
    exact ⟨.inl ⟨HNO.out, rfl⟩, rfl⟩
  have hpos : 0 < s.size := by omega
  have h00 : ((s[0]'hpos).toNat : Int) = ((l.headD 0).toNat : Int) := by
    rw [HGET.out 0 hpos]
    cases l <;> rfl
  have hs0 : ¬ (s.size : Int) = 0 := by omega
  have hs00 : ((s.size : Int) == 0) = false := beq_eq_false_iff_ne.2 hs0
  by_cases h1 : 1 < s.size
  · by_cases hz : (l.headD 0).toNat = 48
    · have HNO : Hid (wideO l = none) := Lib.hid (wideO_no (.inl (isDec_zero hz (by omega))))
      have h01 : ((s[0]'hpos).toNat : Int) = 48 := by rw [h00, hz]; rfl
      clear h00 hlen2
      go_enter Tryd.func9, Tryd.ntmps9
      go_wp2_with fail
      go_ret2
      exact ⟨.inl ⟨HNO.out, rfl⟩, rfl⟩
    have HZ : Hid (¬ ((l.headD 0).toNat = 48 ∧ 1 < s.size)) := Lib.hid (fun h => hz h.1)
    have h01 : ¬ ((s[0]'hpos).toNat : Int) = 48 := by rw [h00]; omega
    have h02 : (((s[0]'hpos).toNat : Int) == 48) = false := beq_eq_false_iff_ne.2 h01
    clear h00 hlen2 hz
    go_enter Tryd.func9, Tryd.ntmps9
    go_wp2_with fail
    go_loopw [4, 5] (fun nv iv wr => ∃ k n : Nat, nv = .int .u64 (n : Int) ∧ iv = .int .i64 (k : Int) ∧ k ≤ s.size ∧ n < 18446744073709551616 ∧ Hid (n = DV 0 (l.take k)) ∧ Hid (∀ j, j < k → digB (l.getD j 0) = true) ∧ wr = w) (fun _ iv _ => s.size - (intOf iv).toNat)
    case atStart => exact ⟨0, 0, rfl, rfl, by omega, by omega, Lib.hid (by simp [DV_nil]), Lib.hid (fun j hj => by omega), rfl⟩
    case round =>
      obtain ⟨k, n, rfl, rfl, hk, hn, HN, HALL, rfl⟩ := hrel
      by_cases hkn : k < s.size
      · obtain ⟨x, hx⟩ : ∃ x, (l.getD k 0).toNat = x := ⟨_, rfl⟩
        have hxi : ((s[k]'hkn).toNat : Int) = (x : Int) := by rw [HGET.out k hkn, hx]
        have HX : Hid (digB (l.getD k 0) = (decide (48 ≤ x) && decide (x ≤ 57))) := Lib.hid (by rw [← hx]; rfl)
        have HXX := Lib.hid hx
        clear hx
        by_cases hx1 : x < 48
        · have HNO : Hid (wideO l = none) := Lib.hid (wideO_no (.inl (isDec_not (not_all HLEN.out hkn (by rw [HX.out, decide_eq_false (by omega)]; rfl)))))
          go_wp2_with fail
          go_ret2
          exact ⟨.inl ⟨HNO.out, rfl⟩, rfl⟩
        by_cases hx2 : 57 < x
        · have HNO : Hid (wideO l = none) := Lib.hid (wideO_no (.inl (isDec_not (not_all HLEN.out hkn (by rw [HX.out, decide_eq_false (show ¬ x ≤ 57 by omega), Bool.and_false])))))
          go_wp2_with fail
          go_ret2
          exact ⟨.inl ⟨HNO.out, rfl⟩, rfl⟩
        have hdg : digB (l.getD k 0) = true := by rw [HX.out, decide_eq_true (by omega), decide_eq_true (by omega)]; rfl
        have HDV : Hid (DV 0 (l.take (k + 1)) = n * 10 + (x - 48)) := Lib.hid (by rw [DV_take_succ (by rw [HLEN.out]; exact hkn), HXX.out, ← HN.out])
        obtain ⟨d, hd⟩ : ∃ d, x = d + 48 := ⟨x - 48, by omega⟩
        subst hd
        have w8 : IntKind.u8.wrap (((d + 48 : Nat) : Int) - 48) = (d : Int) := by rw [show (((d + 48 : Nat) : Int) - 48) = (d : Int) by omega]; exact IntWalk.u8_in _ (by omega)
        have w64 : IntKind.u64.wrap (d : Int) = (d : Int) := IntWalk.u64_in _ (by omega)
        obtain ⟨q, hq⟩ : ∃ q, (18446744073709551615 - d) / 10 = q := ⟨_, rfl⟩
        have wq1 : IntKind.u64.wrap ((18446744073709551615 : Int) - (d : Int)) = (18446744073709551615 : Int) - (d : Int) := IntWalk.u64_in _ (by omega)
        have wq2 : ((18446744073709551615 : Int) - (d : Int)) / 10 = (q : Int) := by omega
        have wq3 : ((18446744073709551615 : Int) - (d : Int)).tdiv 10 = (q : Int) := by rw [Int.tdiv_eq_ediv_of_nonneg (by omega)]; exact wq2
        have wq4 : IntKind.u64.wrap (q : Int) = (q : Int) := IntWalk.u64_in _ (by omega)
        by_cases hov : q < n
        · have HNO : Hid (wideO l = none) := Lib.hid (wideO_no (.inr (.inr (Nat.le_trans (by rw [HDV.out]; omega) (DV_mono l (k + 1))))))
          go_wp2_with fail
          go_ret2
          exact ⟨.inl ⟨HNO.out, rfl⟩, rfl⟩
        · have wm : IntKind.u64.wrap (10 * (n : Int)) = 10 * (n : Int) := IntWalk.u64_in _ (by omega)
          have wa : IntKind.u64.wrap (10 * (n : Int) + (d : Int)) = 10 * (n : Int) + (d : Int) := IntWalk.u64_in _ (by omega)
          have wa2 : (10 * (n : Int) + (d : Int)) = ((n * 10 + d : Nat) : Int) := by omega
          have hlt : n * 10 + d < 18446744073709551616 := by omega
          go_wp2_with fail
          go_roundw
          case rel => exact ⟨k + 1, n * 10 + d, by rw [show ((n * 10 + d : Nat) : Int) = (n : Int) * 10 + (d : Int) by omega], by go_num, by omega, hlt, Lib.hid (by rw [HDV.out]; omega), Lib.hid (fun j hj => by
            rcases Nat.lt_or_ge j k with h | h
            · exact HALL.out j h
            · obtain rfl : j = k := by omega
              exact hdg), by first | rfl | trivial⟩
          case measure => simp [intOf]; omega
      · obtain rfl : k = s.size := by omega
        have hall : l.all digB = true := all_getD.2 (fun j hj => HALL.out j (by have := HLEN.out; omega))
        have hdec : isDecB l = true := by rw [isDec_split HLEN.out hpos hall]; exact decide_eq_true (by have := HZ.out; omega)
        have hnn : n = DV 0 l := by rw [HN.out, List.take_of_length_le (Nat.le_of_eq HLEN.out)]
        have HYES := Lib.hid (wideO_yes hdec (by rw [HLEN.out]; omega) (by omega))
        go_wp2_with fail
        go_ret2
        exact ⟨.inr ⟨_, HYES.out, by rw [hnn]; rfl⟩, rfl⟩
  · have HZ : Hid (¬ ((l.headD 0).toNat = 48 ∧ 1 < s.size)) := Lib.hid (fun h => h1 h.2)
    clear h00 hlen2
    go_enter Tryd.func9, Tryd.ntmps9
    go_wp2_with fail
    go_loopw [4, 5] (fun nv iv wr => ∃ k n : Nat, nv = .int .u64 (n : Int) ∧ iv = .int .i64 (k : Int) ∧ k ≤ s.size ∧ n < 18446744073709551616 ∧ Hid (n = DV 0 (l.take k)) ∧ Hid (∀ j, j < k → digB (l.getD j 0) = true) ∧ wr = w) (fun _ iv _ => s.size - (intOf iv).toNat)
    case atStart => exact ⟨0, 0, rfl, rfl, by omega, by omega, Lib.hid (by simp [DV_nil]), Lib.hid (fun j hj => by omega), rfl⟩
    case round =>
      obtain ⟨k, n, rfl, rfl, hk, hn, HN, HALL, rfl⟩ := hrel
      by_cases hkn : k < s.size
      · obtain ⟨x, hx⟩ : ∃ x, (l.getD k 0).toNat = x := ⟨_, rfl⟩
        have hxi : ((s[k]'hkn).toNat : Int) = (x : Int) := by rw [HGET.out k hkn, hx]
        have HX : Hid (digB (l.getD k 0) = (decide (48 ≤ x) && decide (x ≤ 57))) := Lib.hid (by rw [← hx]; rfl)
        have HXX := Lib.hid hx
        clear hx
        by_cases hx1 : x < 48
        · have HNO : Hid (wideO l = none) := Lib.hid (wideO_no (.inl (isDec_not (not_all HLEN.out hkn (by rw [HX.out, decide_eq_false (by omega)]; rfl)))))
          go_wp2_with fail
          go_ret2
          exact ⟨.inl ⟨HNO.out, rfl⟩, rfl⟩
        by_cases hx2 : 57 < x
        · have HNO : Hid (wideO l = none) := Lib.hid (wideO_no (.inl (isDec_not (not_all HLEN.out hkn (by rw [HX.out, decide_eq_false (show ¬ x ≤ 57 by omega), Bool.and_false])))))
          go_wp2_with fail
          go_ret2
          exact ⟨.inl ⟨HNO.out, rfl⟩, rfl⟩
        have hdg : digB (l.getD k 0) = true := by rw [HX.out, decide_eq_true (by omega), decide_eq_true (by omega)]; rfl
        have HDV : Hid (DV 0 (l.take (k + 1)) = n * 10 + (x - 48)) := Lib.hid (by rw [DV_take_succ (by rw [HLEN.out]; exact hkn), HXX.out, ← HN.out])
        obtain ⟨d, hd⟩ : ∃ d, x = d + 48 := ⟨x - 48, by omega⟩
        subst hd
        have w8 : IntKind.u8.wrap (((d + 48 : Nat) : Int) - 48) = (d : Int) := by rw [show (((d + 48 : Nat) : Int) - 48) = (d : Int) by omega]; exact IntWalk.u8_in _ (by omega)
        have w64 : IntKind.u64.wrap (d : Int) = (d : Int) := IntWalk.u64_in _ (by omega)
        obtain ⟨q, hq⟩ : ∃ q, (18446744073709551615 - d) / 10 = q := ⟨_, rfl⟩
        have wq1 : IntKind.u64.wrap ((18446744073709551615 : Int) - (d : Int)) = (18446744073709551615 : Int) - (d : Int) := IntWalk.u64_in _ (by omega)
        have wq2 : ((18446744073709551615 : Int) - (d : Int)) / 10 = (q : Int) := by omega
        have wq3 : ((18446744073709551615 : Int) - (d : Int)).tdiv 10 = (q : Int) := by rw [Int.tdiv_eq_ediv_of_nonneg (by omega)]; exact wq2
        have wq4 : IntKind.u64.wrap (q : Int) = (q : Int) := IntWalk.u64_in _ (by omega)
        by_cases hov : q < n
        · have HNO : Hid (wideO l = none) := Lib.hid (wideO_no (.inr (.inr (Nat.le_trans (by rw [HDV.out]; omega) (DV_mono l (k + 1))))))
          go_wp2_with fail
          go_ret2
          exact ⟨.inl ⟨HNO.out, rfl⟩, rfl⟩
        · have wm : IntKind.u64.wrap (10 * (n : Int)) = 10 * (n : Int) := IntWalk.u64_in _ (by omega)
          have wa : IntKind.u64.wrap (10 * (n : Int) + (d : Int)) = 10 * (n : Int) + (d : Int) := IntWalk.u64_in _ (by omega)
          have wa2 : (10 * (n : Int) + (d : Int)) = ((n * 10 + d : Nat) : Int) := by omega
          have hlt : n * 10 + d < 18446744073709551616 := by omega
          go_wp2_with fail
          go_roundw
          case rel => exact ⟨k + 1, n * 10 + d, by rw [show ((n * 10 + d : Nat) : Int) = (n : Int) * 10 + (d : Int) by omega], by go_num, by omega, hlt, Lib.hid (by rw [HDV.out]; omega), Lib.hid (fun j hj => by
            rcases Nat.lt_or_ge j k with h | h
            · exact HALL.out j h
            · obtain rfl : j = k := by omega
              exact hdg), by first | rfl | trivial⟩
          case measure => simp [intOf]; omega
      · obtain rfl : k = s.size := by omega
        have hall : l.all digB = true := all_getD.2 (fun j hj => HALL.out j (by have := HLEN.out; omega))
        have hdec : isDecB l = true := by rw [isDec_split HLEN.out hpos hall]; exact decide_eq_true (by have := HZ.out; omega)
        have hnn : n = DV 0 l := by rw [HN.out, List.take_of_length_le (Nat.le_of_eq HLEN.out)]
        have HYES := Lib.hid (wideO_yes hdec (by rw [HLEN.out]; omega) (by omega))
        go_wp2_with fail
        go_ret2
        exact ⟨.inr ⟨_, HYES.out, by rw [hnn]; rfl⟩, rfl⟩


/-- The number of a text, of an int. -/
def numO (l : List UInt8) : Option Int :=
  if l.headD 0 = 45 then (match wideO (l.drop 1) with | some n => if 0 < n ∧ n ≤ 9223372036854775808 then some (-(n : Int)) else none | none => none)
  else (match wideO l with | some n => if n ≤ 9223372036854775807 then some (n : Int) else none | none => none)
/-- What Num answers. -/
def NumA (l : List UInt8) (e : Ending) : Prop := (numO l = none ∧ e = .returned (.tuple #[.int .i64 0, .bool false])) ∨ (∃ z : Int, numO l = some z ∧ e = .returned (.tuple #[.int .i64 z, .bool true]))

set_option maxHeartbeats 4000000 in
theorem refNum_any (s : ByteArray) (w : World) (hs : s.size ≤ 4611686018427387904) :
    Calls Tryd.prog 7 #[.string s] w fun e w' => NumA s.data.toList e ∧ w' = w := by
  have hlen := ba_len s
  have hget : ∀ (k : Nat) (hk : k < s.size), (s[k]'hk) = s.data.toList.getD k 0 := fun k hk => str_get rfl hk
  have hex := ext_list s 1 s.size
  have hw0 := refWide_any s w hs
  obtain ⟨l, hl⟩ : ∃ l, s.data.toList = l := ⟨_, rfl⟩
  rw [hl] at hlen hex hw0
  simp only [hl] at hget
  rw [hl]
  have hex2 : (s.extract 1 s.size).data.toList = l.drop 1 := by rw [hex, List.take_of_length_le (by rw [List.length_drop]; omega)]
  have hsz2 : (s.extract 1 s.size).size ≤ 4611686018427387904 := by rw [← ba_len, hex2, List.length_drop]; omega
  have hw1 := refWide_any (s.extract 1 s.size) w hsz2
  rw [hex2] at hw1
  have HW0 := Lib.hid hw0
  have HW1 := Lib.hid hw1
  clear hl hex hex2 hsz2 hw0 hw1
  by_cases h0 : 0 < s.size
  · have h00 : ((s[0]'h0).toNat : Int) = ((l.headD 0).toNat : Int) := by
      rw [hget 0 h0]
      cases l <;> rfl
    by_cases h45 : l.headD 0 = 45
    · have h01 : ((s[0]'h0).toNat : Int) = 45 := by rw [h00, h45]; rfl
      have h1 : (1 : Int) ≤ (s.size : Int) := by omega
      have HNN : Hid (numO l = match wideO (l.drop 1) with | some n => if 0 < n ∧ n ≤ 9223372036854775808 then some (-(n : Int)) else none | none => none) := Lib.hid (by unfold numO; rw [if_pos h45])
      clear h00 h45 hget hlen
      go_enter Tryd.func7, Tryd.ntmps7
      go_wp2_with fail
      refine HW1.out.mono ?_
      rintro e w1 ⟨hh, rfl⟩
      rcases hh with ⟨hn, rfl⟩ | ⟨n, hn, rfl⟩
      · have HA : Hid (numO l = none) := Lib.hid (by rw [HNN.out, hn])
        clear hn
        go_wp2_with fail
        go_ret2
        exact ⟨.inl ⟨HA.out, rfl⟩, rfl⟩
      · by_cases hz : n = 0
        · subst hz
          have HA : Hid (numO l = none) := Lib.hid (by rw [HNN.out, hn]; rfl)
          clear hn
          go_wp2_with fail
          go_ret2
          exact ⟨.inl ⟨HA.out, rfl⟩, rfl⟩
        · have hz1 : ((n : Int) == 0) = false := beq_eq_false_iff_ne.2 (by omega)
          have hz2 : ¬ (n : Int) = 0 := by omega
          by_cases hb : 9223372036854775808 < n
          · have HA : Hid (numO l = none) := Lib.hid (by rw [HNN.out, hn]; simp only; rw [if_neg (by omega)])
            have hb1 : (9223372036854775808 : Int) < (n : Int) := by omega
            clear hn
            go_wp2_with fail
            go_ret2
            exact ⟨.inl ⟨HA.out, rfl⟩, rfl⟩
          · have HA : Hid (numO l = some (-(n : Int))) := Lib.hid (by rw [HNN.out, hn]; simp only; rw [if_pos ⟨by omega, by omega⟩])
            have hb1 : ¬ (9223372036854775808 : Int) < (n : Int) := by omega
            have w1 : IntKind.u64.wrap ((n : Int) - 1) = (n : Int) - 1 := IntWalk.u64_in _ (by omega)
            have w2 : IntKind.i64.wrap ((n : Int) - 1) = (n : Int) - 1 := IntWalk.i64_in _ (by omega)
            have w3 : IntKind.i64.wrap (-1 - ((n : Int) - 1)) = -(n : Int) := by rw [show (-1 - ((n : Int) - 1)) = -(n : Int) by omega]; exact IntWalk.i64_in _ (by omega)
            clear hn
            go_wp2_with fail
            go_ret2
            exact ⟨.inr ⟨_, HA.out, by first | rfl | (congr 3; omega)⟩, rfl⟩
    · have h01 : ¬ ((s[0]'h0).toNat : Int) = 45 := by
        rw [h00]
        intro h
        exact h45 (UInt8.toNat_inj.1 (by show (l.headD 0).toNat = 45; omega))
      have h02 : (((s[0]'h0).toNat : Int) == 45) = false := beq_eq_false_iff_ne.2 h01
      have HNN : Hid (numO l = match wideO l with | some n => if n ≤ 9223372036854775807 then some (n : Int) else none | none => none) := Lib.hid (by unfold numO; rw [if_neg h45])
      clear h00 h45 hget hlen
      go_enter Tryd.func7, Tryd.ntmps7
      go_wp2_with fail
      refine HW0.out.mono ?_
      rintro e w1 ⟨hh, rfl⟩
      rcases hh with ⟨hn, rfl⟩ | ⟨n, hn, rfl⟩
      · have HA : Hid (numO l = none) := Lib.hid (by rw [HNN.out, hn])
        clear hn
        go_wp2_with fail
        go_ret2
        exact ⟨.inl ⟨HA.out, rfl⟩, rfl⟩
      · by_cases hb : 9223372036854775807 < n
        · have HA : Hid (numO l = none) := Lib.hid (by rw [HNN.out, hn]; simp only; rw [if_neg (by omega)])
          have hb1 : (9223372036854775807 : Int) < (n : Int) := by omega
          clear hn
          go_wp2_with fail
          go_ret2
          exact ⟨.inl ⟨HA.out, rfl⟩, rfl⟩
        · have HA : Hid (numO l = some (n : Int)) := Lib.hid (by rw [HNN.out, hn]; simp only; rw [if_pos (by omega)])
          have hb1 : ¬ (9223372036854775807 : Int) < (n : Int) := by omega
          have w2 : IntKind.i64.wrap (n : Int) = (n : Int) := IntWalk.i64_in _ (by omega)
          clear hn
          go_wp2_with fail
          go_ret2
          exact ⟨.inr ⟨_, HA.out, rfl⟩, rfl⟩
  · have hlt0 : ¬ (0 : Int) < (s.size : Int) := by omega
    have HNN : Hid (numO l = match wideO l with | some n => if n ≤ 9223372036854775807 then some (n : Int) else none | none => none) := Lib.hid (by
      have : l = [] := List.eq_nil_of_length_eq_zero (by omega)
      unfold numO; rw [if_neg (by rw [this]; decide)])
    clear hget hlen
    go_enter Tryd.func7, Tryd.ntmps7
    go_wp2_with fail
    refine HW0.out.mono ?_
    rintro e w1 ⟨hh, rfl⟩
    rcases hh with ⟨hn, rfl⟩ | ⟨n, hn, rfl⟩
    · have HA : Hid (numO l = none) := Lib.hid (by rw [HNN.out, hn])
      clear hn
      go_wp2_with fail
      go_ret2
      exact ⟨.inl ⟨HA.out, rfl⟩, rfl⟩
    · by_cases hb : 9223372036854775807 < n
      · have HA : Hid (numO l = none) := Lib.hid (by rw [HNN.out, hn]; simp only; rw [if_neg (by omega)])
        have hb1 : (9223372036854775807 : Int) < (n : Int) := by omega
        clear hn
        go_wp2_with fail
        go_ret2
        exact ⟨.inl ⟨HA.out, rfl⟩, rfl⟩
      · have HA : Hid (numO l = some (n : Int)) := Lib.hid (by rw [HNN.out, hn]; simp only; rw [if_pos (by omega)])
        have hb1 : ¬ (9223372036854775807 : Int) < (n : Int) := by omega
        have w2 : IntKind.i64.wrap (n : Int) = (n : Int) := IntWalk.i64_in _ (by omega)
        clear hn
        go_wp2_with fail
        go_ret2
        exact ⟨.inr ⟨_, HA.out, rfl⟩, rfl⟩
end Go.Proofs.YtbhdibeiojeadaaDoor
