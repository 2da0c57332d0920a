/-
  Lines: the same texts; words with blanks between: the document's.
-/
import Derived.Test.YtbhdibeiojeadaaDoorMemV
import Derived.Test.YtbhdibeiojeadaaDoorL6A
import Derived.Deep.QuietTactic
import Derived.BigQuiet
import Derived.RegionTactic
namespace Go.Proofs.YtbhdibeiojeadaaDoor
open Go.RowKit
set_option maxRecDepth 100000

theorem ba_ne {s t : ByteArray} (h : s ≠ t) : (s.toList == t.toList) = false := by
  rw [ByteArray.toList_eq, ByteArray.toList_eq]
  exact beq_eq_false_iff_ne.2 (fun e => h (by cases s; cases t; simpa using congrArg List.toArray e))
theorem list_ext {a b : List ByteArray} (hl : a.length = b.length) (h : ∀ j, j < a.length → a.getD j ⟨#[]⟩ = b.getD j ⟨#[]⟩) : a = b := by
  apply List.ext_getElem hl
  intro i h1 h2
  have := h i h1
  rwa [List.getD_eq_getElem?_getD, List.getD_eq_getElem?_getD, List.getElem?_eq_getElem h1, List.getElem?_eq_getElem h2, Option.getD_some, Option.getD_some] at this

set_option maxHeartbeats 4000000 in
theorem refTexts_any (A1 A2 : Option Addr) (a b : List ByteArray) (n1 c1 n2 c2 : Nat) (w : World) (hl1 : a.length = n1) (hl2 : b.length = n2) (hr1 : Rs w A1 a) (hr2 : Rs w A2 b) (hn : n1 ≤ 4611686018427387904) (hn2 : n2 ≤ 4611686018427387904) (hc1 : n1 ≤ c1) (hc2 : n2 ≤ c2) :
    Calls Tryd.prog 14 #[.slice A1 n1 c1, .slice A2 n2 c2] w fun e w' => e = .returned (.bool (decide (a = b))) ∧ Below w.heap.size w w' := by
  by_cases hne : n1 = n2
  · subst hne
    have HL1 := Lib.hid hl1
    have HL2 := Lib.hid hl2
    have HR1 := Lib.hid hr1
    have HR2 := Lib.hid hr2
    clear hl1 hl2 hr1 hr2
    go_enter Tryd.func14, Tryd.ntmps14
    go_wp2_with fail
    go_loopw [5] (fun iv wr => ∃ k : Nat, iv = .int .i64 (k : Int) ∧ k ≤ n1 ∧ Hid (∀ j, j < k → a.getD j ⟨#[]⟩ = b.getD j ⟨#[]⟩) ∧ Hid (Below w.heap.size w wr)) (fun iv _ => n1 - (intOf iv).toNat)
    case atStart => exact ⟨0, rfl, by omega, Lib.hid (fun j hj => by omega), Lib.hid (Below.refl _ _)⟩
    case round =>
      obtain ⟨k, rfl, hk, HALL, HB⟩ := hrel
      by_cases hkn : k < n1
      · obtain ⟨b1, o1, rfl, hb1, q1⟩ := (HR1.out.below HB.out).at_ (k := k) (by rw [HL1.out]; exact hkn)
        obtain ⟨b2, o2, rfl, hb2, q2⟩ := (HR2.out.below HB.out).at_ (k := k) (by rw [HL2.out]; exact hkn)
        obtain ⟨s, hs⟩ : ∃ s, a.getD k ⟨#[]⟩ = s := ⟨_, rfl⟩
        obtain ⟨t, ht⟩ : ∃ t, b.getD k ⟨#[]⟩ = t := ⟨_, rfl⟩
        rw [hs] at q1
        rw [ht] at q2
        have HS := Lib.hid hs
        have HT := Lib.hid ht
        have hi0 : (0 : Int) ≤ (k : Int) := by omega
        have hi1 : (k : Int) < (n1 : Int) := by omega
        clear hs ht
        by_cases he : s = t
        · subst he
          go_wp2_with fail
          go_quiet (fail)
          go_wp2_with fail
          go_roundw
          case rel => exact ⟨k + 1, by go_num, by omega, Lib.hid (fun j hj => by
            rcases Nat.lt_or_ge j k with h | h
            · exact HALL.out j h
            · obtain rfl : j = k := by omega
              rw [HS.out, HT.out]), Lib.hid (HB.out.trans ((below_drN _).mono HB.out.size))⟩
          case measure => simp [intOf]; omega
        · have hb1' := ba_ne he
          have hb2' : (!s.toList == t.toList) = true := by rw [hb1']; rfl
          have hab : decide (a = b) = false := decide_eq_false (fun e => he (by rw [← HS.out, ← HT.out, e]))
          have HAB := Lib.hid hab
          clear hab
          go_wp2_with fail
          go_quiet (fail)
          go_wp2_with fail
          go_ret
          exact ⟨by rw [HAB.out]; rfl, HB.out.trans ((below_drN _).mono HB.out.size)⟩
      · obtain rfl : k = n1 := by omega
        have HAB : Hid (decide (a = b) = true) := Lib.hid (decide_eq_true (list_ext (by rw [HL1.out, HL2.out]) (fun j hj => HALL.out j (by rw [HL1.out] at hj; exact hj))))
        go_wp2_with fail
        go_ret
        exact ⟨by rw [HAB.out]; rfl, HB.out⟩
  · have hab : decide (a = b) = false := decide_eq_false (fun e => hne (by rw [← hl1, ← hl2, e]))
    have HAB := Lib.hid hab
    have h1 : ((n1 : Int) != (n2 : Int)) = true := by simp; omega
    clear hab hl1 hl2 hr1 hr2
    go_enter Tryd.func14, Tryd.ntmps14
    go_wp2_with fail
    go_ret
    exact ⟨by rw [HAB.out]; rfl, Below.refl _ _⟩

/-- The first k texts, with a blank between each two. -/
def joinTo (f : Nat → ByteArray) : Nat → ByteArray
  | 0 => ⟨#[]⟩
  | k + 1 => (if k = 0 then joinTo f k else joinTo f k ++ ⟨#[32]⟩) ++ f k
theorem joinTo_mono (f : Nat → ByteArray) (k : Nat) : (joinTo f k).size ≤ (joinTo f (k + 1)).size := by
  simp only [joinTo]
  split
  · rw [ByteArray.size_append]; omega
  · rw [ByteArray.size_append, ByteArray.size_append]; omega
theorem joinTo_le (f : Nat → ByteArray) {k : Nat} : ∀ {n : Nat}, k ≤ n → (joinTo f k).size ≤ (joinTo f n).size := by
  intro n h
  induction n with
  | zero => obtain rfl : k = 0 := by omega
            exact Nat.le_refl _
  | succ n ih =>
    rcases Nat.lt_or_ge n k with h1 | h1
    · obtain rfl : k = n + 1 := by omega
      exact Nat.le_refl _
    · exact Nat.le_trans (ih h1) (joinTo_mono f n)

set_option maxHeartbeats 4000000 in
theorem refJoin_any (A1 : Option Addr) (a : List ByteArray) (n1 c1 : Nat) (w : World) (hl1 : a.length = n1) (hr1 : Rs w A1 a) (hn : n1 ≤ 4611686018427387904) (hc1 : n1 ≤ c1) (hsz : (joinTo (fun k => a.getD k ⟨#[]⟩) n1).size ≤ 4611686018427387904) :
    Calls Tryd.prog 16 #[.slice A1 n1 c1] w fun e w' => e = .returned (.string (joinTo (fun k => a.getD k ⟨#[]⟩) n1)) ∧ w' = w := by
  obtain ⟨f, hf⟩ : ∃ f : Nat → ByteArray, (fun k => a.getD k ⟨#[]⟩) = f := ⟨_, rfl⟩
  have hfk : ∀ k, a.getD k ⟨#[]⟩ = f k := fun k => by rw [← hf]
  rw [hf] at hsz
  rw [hf]
  have HF := Lib.hid hfk
  have HL1 := Lib.hid hl1
  have HR1 := Lib.hid hr1
  have HSZ := Lib.hid hsz
  clear hf hfk hl1 hr1 hsz
  go_enter Tryd.func16, Tryd.ntmps16
  go_wp2_with fail
  go_loopw [3, 4] (fun sv iv wr => ∃ k : Nat, sv = .string (joinTo f k) ∧ iv = .int .i64 (k : Int) ∧ k ≤ n1 ∧ wr = w) (fun _ iv _ => n1 - (intOf iv).toNat)
  case atStart => exact ⟨0, rfl, rfl, by omega, rfl⟩
  case round =>
    obtain ⟨k, rfl, rfl, hk, rfl⟩ := hrel
    by_cases hkn : k < n1
    · obtain ⟨b1, o1, rfl, hb1, q1⟩ := HR1.out.at_ (k := k) (by rw [HL1.out]; exact hkn)
      rw [HF.out] at q1
      have hle : (joinTo f (k + 1)).size ≤ 4611686018427387904 := Nat.le_trans (joinTo_le f (show k + 1 ≤ n1 by omega)) HSZ.out
      obtain ⟨t, ht⟩ : ∃ t, f k = t := ⟨_, rfl⟩
      obtain ⟨s, hs⟩ : ∃ s, joinTo f k = s := ⟨_, rfl⟩
      have hi0 : (0 : Int) ≤ (k : Int) := by omega
      have hi1 : (k : Int) < (n1 : Int) := by omega
      by_cases h0 : k = 0
      · subst h0
        have HJ : Hid (joinTo f 1 = s ++ t) := Lib.hid (by rw [← hs, ← ht]; rfl)
        have hsz : s.size + t.size ≤ 4611686018427387904 := by
          rw [show (0 : Nat) + 1 = 1 from rfl, HJ.out, ByteArray.size_append] at hle; exact hle
        have hadd := fun W => run_string_add_sum (P := Tryd.prog) W s t (by omega)
        have hz1 : ¬ 9223372036854775807 < s.size + t.size := by omega
        rw [ht] at q1
        rw [Nat.add_zero] at q1
        clear hle ht hi0
        rw [hs]
        have hi1 : (0 : Int) < (n1 : Int) := by omega
        rw [show ((0 : Nat) : Int) = 0 from rfl]
        go_wp2_with fail
        go_roundw
        case rel => exact ⟨1, by rw [HJ.out], by go_num, by omega, by first | rfl | trivial⟩
        case measure => simp [intOf]; omega
      · have HJ : Hid (joinTo f (k + 1) = s ++ ⟨#[32]⟩ ++ t) := Lib.hid (by rw [← hs, ← ht]; simp only [joinTo]; rw [if_neg h0])
        have hsz : s.size + 1 + t.size ≤ 4611686018427387904 := by
          rw [HJ.out, ByteArray.size_append, ByteArray.size_append, show (⟨#[32]⟩ : ByteArray).size = 1 from rfl] at hle; exact hle
        have hadd1 := fun W => run_string_add_sum (P := Tryd.prog) W s (⟨#[32]⟩ : ByteArray) (by rw [show (⟨#[32]⟩ : ByteArray).size = 1 from rfl]; omega)
        have hadd2 := fun W => run_string_add_sum (P := Tryd.prog) W (s ++ (⟨#[32]⟩ : ByteArray)) t (by rw [ByteArray.size_append, show (⟨#[32]⟩ : ByteArray).size = 1 from rfl]; omega)
        have hz1 : ¬ 9223372036854775807 < s.size + 1 + t.size := by omega
        have hz2 : ¬ 9223372036854775807 < s.size + 1 := by omega
        have hz3 : ¬ 9223372036854775807 ≤ s.size := by omega
        have hk0 : (0 : Int) < (k : Int) := by omega
        rw [ht] at q1
        clear hle ht
        rw [hs]
        go_wp2_with fail
        go_roundw
        case rel => exact ⟨k + 1, by rw [HJ.out], by go_num, by omega, by first | rfl | trivial⟩
        case measure => simp [intOf]; omega
    · obtain rfl : k = n1 := by omega
      go_wp2_with fail
      go_ret
      exact ⟨rfl, rfl⟩
end Go.Proofs.YtbhdibeiojeadaaDoor
