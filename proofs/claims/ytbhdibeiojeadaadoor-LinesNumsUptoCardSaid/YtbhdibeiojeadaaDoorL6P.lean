/-
  Lines: what a word is: the program's.
-/
import Derived.Test.YtbhdibeiojeadaaDoorL6A
namespace Go.Proofs.YtbhdibeiojeadaaDoor
open Go.RowKit
set_option maxRecDepth 100000

set_option maxHeartbeats 2000000 in
theorem pWord_any (s : ByteArray) (w : World) (hs : s.size ≤ 4611686018427387904) :
    Calls Tryd.prog 12 #[.string s] w fun e w' => e = .returned (.bool (wordB s.data.toList)) ∧ w' = w := by
  have hlen := ba_len s
  have hget : ∀ (k : Nat) (hk : k < s.size), (s[k]'hk) = s.data.toList.getD k 0 := fun k hk => str_get rfl hk
  obtain ⟨l, hl⟩ : ∃ l, s.data.toList = l := ⟨_, rfl⟩
  have hq : s.toList.isEmpty = l.isEmpty := by rw [← hl, ByteArray.toList_eq]
  rw [hl] at hlen
  simp only [hl] at hget
  rw [hl]
  have HLEN := Lib.hid hlen
  have HGET := Lib.hid hget
  have HQ := Lib.hid hq
  clear hl hlen hget hq
  go_enter Tryd.func12, Tryd.ntmps12
  go_wp2_with fail
  go_loopw [6] (fun iv wr => ∃ k : Nat, iv = .int .i64 (k : Int) ∧ k ≤ s.size ∧ Hid (∀ j, j < k → wB (l.getD j 0) = true) ∧ wr = w) (fun iv _ => s.size - (intOf iv).toNat)
  case atStart => exact ⟨0, rfl, by omega, Lib.hid (fun j hj => by omega), rfl⟩
  case round =>
    obtain ⟨k, rfl, hk, HALL, rfl⟩ := hrel
    by_cases hkn : k < s.size
    · obtain ⟨x, hx⟩ : ∃ x, (l.getD k 0).toNat = x := ⟨_, rfl⟩
      have hxi : ((s[k]'hkn).toNat : Int) = (x : Int) := by rw [HGET.out k hkn, hx]
      have HW : Hid (wB (l.getD k 0) = (decide (33 ≤ x) && decide (x ≤ 126))) := Lib.hid (by rw [← hx]; rfl)
      clear hx
      by_cases h1 : x < 33
      · go_wp2_with fail
        go_ret
        have hw : wordB l = false := by
          unfold wordB
          rw [not_all_of (by rw [HLEN.out]; exact hkn) (by rw [HW.out, decide_eq_false (show ¬ 33 ≤ x by omega)]; rfl), Bool.and_false]
        exact ⟨by rw [hw]; rfl, rfl⟩
      by_cases h2 : 126 < x
      · go_wp2_with fail
        go_ret
        have hw : wordB l = false := by
          unfold wordB
          rw [not_all_of (by rw [HLEN.out]; exact hkn) (by rw [HW.out, decide_eq_false (show ¬ x ≤ 126 by omega), Bool.and_false]), Bool.and_false]
        exact ⟨by rw [hw]; rfl, rfl⟩
      have hw : wB (l.getD k 0) = true := by rw [HW.out, decide_eq_true (show 33 ≤ x by omega), decide_eq_true (show x ≤ 126 by omega)]; rfl
      go_wp2_with fail
      go_roundw
      case rel => exact ⟨k + 1, by go_num, by omega, Lib.hid (fun j hj => by
        rcases Nat.lt_or_ge j k with h | h
        · exact HALL.out j h
        · obtain rfl : j = k := by omega
          exact hw), by first | rfl | trivial⟩
      case measure => simp [intOf]; omega
    · obtain rfl : k = s.size := by omega
      have hall : l.all wB = true := all_of (fun j hj => HALL.out j (by have := HLEN.out; omega))
      have HWB : Hid (wordB l = !l.isEmpty) := Lib.hid (by unfold wordB; rw [hall, Bool.and_true])
      clear hall
      go_wp2_with fail
      go_ret
      refine ⟨?_, rfl⟩
      rw [HWB.out, ← HQ.out]
      rfl
end Go.Proofs.YtbhdibeiojeadaaDoor
