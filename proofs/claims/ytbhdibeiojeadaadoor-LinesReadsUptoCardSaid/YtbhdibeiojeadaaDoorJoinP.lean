/-
  Lines: words joined, and whether a list is a line: the program's.
-/
import Derived.Test.YtbhdibeiojeadaaDoorL6P
import Derived.Test.YtbhdibeiojeadaaDoorL6N
import Derived.Test.YtbhdibeiojeadaaDoorShelf
namespace Go.Proofs.YtbhdibeiojeadaaDoor
open Go.RowKit
set_option maxRecDepth 100000

theorem lib_join : ∀ r : List (List UInt8), Lib.join r [32] = joinB 32 r
  | [] => rfl
  | [x] => Lib.join_one x [32]
  | x :: y :: r => by
    have h := lib_join (y :: r)
    rw [Lib.join_cons] at h ⊢
    show x ++ Lib.joinTail [32] (y :: r) = x ++ 32 :: joinB 32 (y :: r)
    rw [← h]
    simp [Lib.joinTail]
theorem lib_line (ss : List ByteArray) : Lib.join (ss.map (·.data.toList)) (⟨#[32]⟩ : ByteArray).data.toList = (lineT ss).data.toList := by
  rw [joinTo_bl, ← lib_join]
  rfl

set_option maxHeartbeats 1000000 in
theorem pJoin_any (A1 : Option Addr) (a : List ByteArray) (n1 c1 : Nat) (w : World) (hl1 : a.length = n1) (hr1 : Rs w A1 a) (hc1 : n1 ≤ c1) (hn : n1 ≤ 140737488355328) (hsz : (lineT a).size ≤ 140737488355328) :
    Calls Tryd.prog 15 #[.slice A1 n1 c1] w fun e w' => e = .returned (.string (lineT a)) ∧ Below w.heap.size w w' := by
  have hj : Calls Tryd.prog 28 #[.slice A1 n1 c1, .string ⟨#[32]⟩] w fun e w' => e = .returned (.string (lineT a)) ∧ Below w.heap.size w w' := by
    by_cases h0 : a = []
    · subst h0
      subst hl1
      refine (Tryd.strings_Join_none A1 c1 _ w).mono ?_
      rintro e w' ⟨rfl, rfl⟩
      exact ⟨rfl, Below.refl _ _⟩
    · obtain ⟨b, o, rfl, hb, hcell⟩ := hr1 (by intro e; exact h0 (List.map_eq_nil_iff.1 e))
      subst hl1
      refine (Tryd.strings_Join b o c1 a ⟨#[32]⟩ w (fun j x hx => hcell j _ (by unfold strs; rw [List.getElem?_map, hx]; rfl)) hb hn hc1 (by rw [lib_line, ba_len]; exact hsz)).mono ?_
      rintro e w' ⟨rfl, hb⟩
      refine ⟨?_, hb⟩
      rw [lib_line]
  clear hr1 hl1 hc1 hn hsz
  go_enter Tryd.func15, Tryd.ntmps15
  go_wp2_with fail
  refine hj.mono ?_
  rintro e w1 ⟨rfl, hb⟩
  go_wp2_with fail
  go_ret
  exact ⟨rfl, hb⟩

set_option maxHeartbeats 2000000 in
theorem isLine_any (A1 : Option Addr) (ss : List ByteArray) (n1 c1 : Nat) (w : World) (hl1 : ss.length = n1) (hr1 : Rs w A1 ss) (hn : n1 ≤ 4611686018427387904) (hc1 : n1 ≤ c1) (hw1 : ∀ j, (ss.getD j ⟨#[]⟩).size ≤ 4611686018427387904) :
    Calls Tryd.prog 30 #[.slice A1 n1 c1] w fun e w' => e = .returned (.bool (lineB ss)) ∧ w' = w := by
  have HL1 := Lib.hid hl1
  have HR1 := Lib.hid hr1
  have HWW := Lib.hid hw1
  clear hl1 hr1 hw1
  go_enter Tryd.func30, Tryd.ntmps30
  go_wp2_with fail
  go_loopw [7] (fun mv wx => ∃ m : Nat, mv = .int .i64 (m : Int) ∧ m ≤ n1 ∧ Hid (∀ j, j < m → wordB (ss.getD j ⟨#[]⟩).data.toList = true) ∧ wx = w) (fun mv _ => n1 - (intOf mv).toNat)
  case atStart => exact ⟨0, rfl, by omega, Lib.hid (fun j hj => by omega), rfl⟩
  case round =>
    obtain ⟨m, rfl, hmn, HALL2, rfl⟩ := hrel
    by_cases hlt : m < n1
    · obtain ⟨b2, o2, rfl, _, q2⟩ := HR1.out.at_ (k := m) (by rw [HL1.out]; exact hlt)
      obtain ⟨t, ht⟩ : ∃ t, ss.getD m ⟨#[]⟩ = t := ⟨_, rfl⟩
      have hts := HWW.out m
      rw [ht] at q2 hts
      obtain ⟨z, hz⟩ : ∃ z, wordB t.data.toList = z := ⟨_, rfl⟩
      have hwd := fun W => pWord_any t W hts
      simp only [hz] at hwd
      have HWD := Lib.hid hwd
      have HTT := Lib.hid ht
      have HZ := Lib.hid hz
      have hj0 : (0 : Int) ≤ (m : Int) := by omega
      have hj1 : (m : Int) < (n1 : Int) := by omega
      clear ht hts hz hwd
      go_wp2_with fail
      refine (HWD.out _).mono ?_
      rintro e w2 ⟨rfl, rfl⟩
      cases z with
      | true =>
        go_wp2_with fail
        go_roundw
        case rel => exact ⟨m + 1, by go_num, by omega, Lib.hid (fun j hj => by
          rcases Nat.lt_or_ge j m with h | h
          · exact HALL2.out j h
          · obtain rfl : j = m := by omega
            rw [HTT.out]; exact HZ.out), by first | rfl | trivial⟩
        case measure => simp [intOf]; omega
      | false =>
        have HB : Hid (lineB ss = false) := Lib.hid (by
          unfold lineB
          rw [wordsB_no (k := m) (by rw [HL1.out]; exact hlt) (by rw [HTT.out]; exact HZ.out), Bool.and_false])
        go_wp2_with fail
        go_ret
        exact ⟨by rw [HB.out]; rfl, rfl⟩
    · obtain rfl : m = n1 := by omega
      have HB : Hid (lineB ss = decide (0 < m)) := Lib.hid (by
        unfold lineB
        rw [wordsB_yes (fun j hj => HALL2.out j (by rw [HL1.out] at hj; exact hj)), Bool.and_true, ← HL1.out]
        cases ss <;> simp)
      go_wp2_with fail
      go_ret
      exact ⟨by rw [HB.out]; simp, rfl⟩
end Go.Proofs.YtbhdibeiojeadaaDoor
