/-
  Lines: a line's words: the document's.
-/
import Derived.Test.YtbhdibeiojeadaaDoorL6C
namespace Go.Proofs.YtbhdibeiojeadaaDoor
open Go.RowKit
set_option maxRecDepth 100000

/-- Are all these texts words? -/
def wordsB (ss : List ByteArray) : Bool := ss.all fun s => wordB s.data.toList
theorem wordsB_yes {ss : List ByteArray} (h : ∀ j, j < ss.length → wordB (ss.getD j ⟨#[]⟩).data.toList = true) : wordsB ss = true := by
  unfold wordsB
  rw [List.all_eq_true]
  intro x hx
  obtain ⟨j, hj, rfl⟩ := List.getElem_of_mem hx
  have := h j hj
  rwa [List.getD_eq_getElem?_getD, List.getElem?_eq_getElem hj, Option.getD_some] at this
theorem wordsB_no {ss : List ByteArray} {k : Nat} (hk : k < ss.length) (h : wordB (ss.getD k ⟨#[]⟩).data.toList = false) : wordsB ss = false := by
  unfold wordsB
  rw [List.all_eq_false]
  refine ⟨ss[k], List.getElem_mem hk, ?_⟩
  rw [List.getD_eq_getElem?_getD, List.getElem?_eq_getElem hk, Option.getD_some] at h
  rw [h]
  simp
/-- A row that is owned lasts while what lies below the heap's end stays. -/
theorem own_last {w w' : World} {base : Nat} {e : TypeId} {v : Value} {n : Nat} {vs : List Value} (h : w.ownsRow base e 1 v n vs) (hb : Below w.heap.size w w') : w'.ownsRow base e 1 v n vs := by
  obtain ⟨hl, hh⟩ := h
  refine ⟨hl, ?_⟩
  rcases hh with h0 | ⟨g, cap, cur, hv, hb', hheap, hnc, hcm, hsz, htk⟩
  · exact .inl h0
  · exact .inr ⟨g, cap, cur, hv, hb', (hb.block g (Array.getElem?_eq_some_iff.1 hheap).1).trans hheap, hnc, hcm, hsz, htk⟩
/-- The words of a line, in a row of the caller's own. -/
def SplitA (w : World) (l : List UInt8) (n0 : Nat) (e : Ending) (w' : World) : Prop :=
  ((wordsB (cutTo 32 l n0) = true ∧ ∃ A n cp, e = .returned (.tuple #[.slice A n cp, .bool true]) ∧ w'.ownsRow w.heap.size 9 1 (.slice A n cp) n (strs (cutTo 32 l n0))) ∨
   (wordsB (cutTo 32 l n0) = false ∧ e = .returned (.tuple #[.slice none 0 0, .bool false]))) ∧ Below w.heap.size w w'

set_option maxHeartbeats 4000000 in
theorem refSplit_any (s : ByteArray) (w : World) (hs : s.size ≤ 1000000) :
    Calls Tryd.prog 11 #[.string s] w (SplitA w s.data.toList s.size) := by
  obtain ⟨l, hl⟩ : ∃ l, s.data.toList = l := ⟨_, rfl⟩
  have hc := refCut_any s 32 w hs
  rw [hl] at hc
  rw [hl]
  have HC := Lib.hid hc
  obtain ⟨n0, hn0⟩ : ∃ n0, s.size = n0 := ⟨_, rfl⟩
  rw [hn0] at HC hs
  rw [hn0]
  clear hl hc hn0
  go_enter Tryd.func11, Tryd.ntmps11
  go_wp2_with fail
  refine HC.out.mono ?_
  rintro e w1 ⟨A, n, cp, rfl, ho, hb⟩
  have hlen : (cutTo 32 l n0).length = n := by have := ho.1; rw [strs_length] at this; omega
  have hcl := cutTo_len 32 l n0
  have hsz : ∀ j, ((cutTo 32 l n0).getD j ⟨#[]⟩).size ≤ 4611686018427387904 := fun j => by have := cutTo_size 32 l n0 j; omega
  obtain ⟨ps, hps⟩ : ∃ ps, cutTo 32 l n0 = ps := ⟨_, rfl⟩
  rw [hps] at ho hlen hcl hsz
  have HP : Hid (SplitA w l n0 = fun e w' => ((wordsB ps = true ∧ ∃ A n cp, e = .returned (.tuple #[.slice A n cp, .bool true]) ∧ w'.ownsRow w.heap.size 9 1 (.slice A n cp) n (strs ps)) ∨ (wordsB ps = false ∧ e = .returned (.tuple #[.slice none 0 0, .bool false]))) ∧ Below w.heap.size w w') := Lib.hid (by unfold SplitA; rw [hps])
  have HO := Lib.hid ho
  have HB := Lib.hid hb
  have HSZ := Lib.hid hsz
  have HLEN := Lib.hid hlen
  rw [hlen] at hcl
  clear hps ho hb hsz hlen HC
  go_wp2_with fail
  go_loopw [5] (fun iv wr => ∃ k : Nat, iv = .int .i64 (k : Int) ∧ k ≤ n ∧ Hid (∀ j, j < k → wordB (ps.getD j ⟨#[]⟩).data.toList = true) ∧ wr = w1) (fun iv _ => n - (intOf iv).toNat)
  case atStart => exact ⟨0, rfl, by omega, Lib.hid (fun j hj => by omega), rfl⟩
  case round =>
    obtain ⟨k, rfl, hk, HALL, rfl⟩ := hrel
    by_cases hkn : k < n
    · obtain ⟨b1, o1, rfl, hb1, q1⟩ := (Rv.of_own HO.out).at_ (strs_get (k := k) (by rw [HLEN.out]; exact hkn))
      obtain ⟨t, ht⟩ : ∃ t, ps.getD k ⟨#[]⟩ = t := ⟨_, rfl⟩
      rw [ht] at q1
      have hts : t.size ≤ 4611686018427387904 := by rw [← ht]; exact HSZ.out k
      have HT := Lib.hid ht
      have hi0 : (0 : Int) ≤ (k : Int) := by omega
      have hi1 : (k : Int) < (n : Int) := by omega
      obtain ⟨z, hz⟩ : ∃ z, wordB t.data.toList = z := ⟨_, rfl⟩
      have hw := refWord_any t wr hts
      rw [hz] at hw
      have HW := Lib.hid hw
      have HZ := Lib.hid hz
      clear ht hts hw hz
      go_wp2_with fail
      refine HW.out.mono ?_
      rintro e w2 ⟨rfl, rfl⟩
      cases z with
      | true =>
        go_wp2_with fail
        go_roundw
        case rel => exact ⟨k + 1, by go_num, by omega, Lib.hid (fun j hj => by
          rcases Nat.lt_or_ge j k with h | h
          · exact HALL.out j h
          · obtain rfl : j = k := by omega
            rw [HT.out]; exact HZ.out), by first | rfl | trivial⟩
        case measure => simp [intOf]; omega
      | false =>
        have HA : Hid (wordsB ps = false) := Lib.hid (wordsB_no (k := k) (by rw [HLEN.out]; exact hkn) (by rw [HT.out]; exact HZ.out))
        go_wp2_with fail
        rw [HP.out]
        go_ret2
        exact ⟨.inr ⟨HA.out, rfl⟩, HB.out⟩
    · obtain rfl : k = n := by omega
      have HA : Hid (wordsB ps = true) := Lib.hid (wordsB_yes (fun j hj => HALL.out j (by rw [HLEN.out] at hj; exact hj)))
      go_wp2_with fail
      rw [HP.out]
      go_ret2
      exact ⟨.inl ⟨HA.out, _, _, _, rfl, HO.out⟩, HB.out⟩
end Go.Proofs.YtbhdibeiojeadaaDoor
