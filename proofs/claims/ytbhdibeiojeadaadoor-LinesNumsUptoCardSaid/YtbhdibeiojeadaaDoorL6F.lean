/-
  Lines: the text of lines: the document's.
-/
import Derived.Test.YtbhdibeiojeadaaDoorL6E
namespace Go.Proofs.YtbhdibeiojeadaaDoor
open Go.RowKit
set_option maxRecDepth 100000

/-- A line: one word or more. -/
def lineB (ss : List ByteArray) : Bool := !ss.isEmpty && wordsB ss
/-- A line's text, with a line feed. -/
def lineT (ss : List ByteArray) : ByteArray := joinTo (fun k => ss.getD k ⟨#[]⟩) ss.length
/-- The text of the first k lines. -/
def textTo (L : List (List ByteArray)) : Nat → ByteArray
  | 0 => ⟨#[]⟩
  | k + 1 => textTo L k ++ lineT (L.getD k []) ++ ⟨#[10]⟩
theorem textTo_mono (L : List (List ByteArray)) (k : Nat) : (textTo L k).size + (lineT (L.getD k [])).size + 1 = (textTo L (k + 1)).size := by
  simp only [textTo]
  rw [ByteArray.size_append, ByteArray.size_append]
  rfl
theorem textTo_le (L : List (List ByteArray)) {k : Nat} : ∀ {n : Nat}, k ≤ n → (textTo L k).size ≤ (textTo L n).size := by
  intro n h
  induction n with
  | zero => obtain rfl : k = 0 := by omega
            exact Nat.le_refl _
  | succ n ih =>
    rcases Nat.lt_or_ge n k with h1 | h1
    · obtain rfl : k = n + 1 := by omega
      exact Nat.le_refl _
    · have := textTo_mono L n
      have := ih h1
      omega
/-- The fault of lines that are written, and the text. -/
def writeE (L : List (List ByteArray)) : Int := if L.all lineB then (if 65536 < (textTo L L.length).size then 5 else 0) else 3
def writeT (L : List (List ByteArray)) : ByteArray := if writeE L = 0 then textTo L L.length else ⟨#[]⟩
theorem lines_yes {L : List (List ByteArray)} (h : ∀ j, j < L.length → lineB (L.getD j []) = true) : L.all lineB = true := by
  rw [List.all_eq_true]
  intro x hx
  obtain ⟨j, hj, rfl⟩ := List.getElem_of_mem hx
  have := h j hj
  rwa [List.getD_eq_getElem?_getD, List.getElem?_eq_getElem hj, Option.getD_some] at this
theorem lines_no {L : List (List ByteArray)} {k : Nat} (hk : k < L.length) (h : lineB (L.getD k []) = false) : L.all lineB = false := by
  rw [List.all_eq_false]
  refine ⟨L[k], List.getElem_mem hk, ?_⟩
  rw [List.getD_eq_getElem?_getD, List.getElem?_eq_getElem hk, Option.getD_some] at h
  rw [h]
  simp
theorem write_bad {L : List (List ByteArray)} (h : L.all lineB = false) : writeE L = 3 ∧ writeT L = ⟨#[]⟩ := by
  have : writeE L = 3 := by unfold writeE; rw [h]; rfl
  exact ⟨this, by unfold writeT; rw [this]; rfl⟩

set_option maxHeartbeats 8000000 in
theorem refWrite_any (A1 : Option Addr) (L : List (List ByteArray)) (n1 c1 : Nat) (w : World) (hl1 : L.length = n1) (hr1 : Lns w A1 L) (hn : n1 ≤ 4611686018427387904) (hc1 : n1 ≤ c1) (hm1 : ∀ k, (L.getD k []).length ≤ 4611686018427387904)
    (hw1 : ∀ k j, ((L.getD k []).getD j ⟨#[]⟩).size ≤ 4611686018427387904) (hsz : (textTo L n1).size ≤ 4611686018427387904) :
    Calls Tryd.prog 20 #[.slice A1 n1 c1] w fun e w' => e = .returned (.tuple #[.string (writeT L), .int .i64 (writeE L)]) ∧ w' = w := by
  have HL1 := Lib.hid hl1
  have HR1 := Lib.hid hr1
  have HM := Lib.hid hm1
  have HW := Lib.hid hw1
  have HSZ := Lib.hid hsz
  clear hl1 hr1 hm1 hw1 hsz
  go_enter Tryd.func20, Tryd.ntmps20
  go_wp2_with fail
  go_loopw [4, 5] (fun sv iv wr => ∃ k : Nat, sv = .string (textTo L k) ∧ iv = .int .i64 (k : Int) ∧ k ≤ n1 ∧ Hid (∀ j, j < k → lineB (L.getD j []) = true) ∧ wr = w) (fun _ iv _ => n1 - (intOf iv).toNat)
  case atStart => exact ⟨0, rfl, rfl, by omega, Lib.hid (fun j hj => by omega), rfl⟩
  case round =>
    obtain ⟨k, rfl, rfl, hk, HALL, rfl⟩ := hrel
    by_cases hkn : k < n1
    · obtain ⟨b1, o1, D1, d1, rfl, _, q1, hc3, hx⟩ := HR1.out.at_ (k := k) (by rw [HL1.out]; exact hkn)
      obtain ⟨ss, hss⟩ : ∃ ss, L.getD k [] = ss := ⟨_, rfl⟩
      have hm := HM.out k
      have hww := HW.out k
      have htm := textTo_mono L k
      have hle := Nat.le_trans (textTo_le L (show k + 1 ≤ n1 by omega)) HSZ.out
      rw [hss] at q1 hc3 hx hm hww htm
      obtain ⟨n2, hn2⟩ : ∃ n2, ss.length = n2 := ⟨_, rfl⟩
      rw [hn2] at q1 hc3 hm
      have HS := Lib.hid hss
      have HN2 := Lib.hid hn2
      have HX := Lib.hid hx
      have HWW := Lib.hid hww
      have hi0 : (0 : Int) ≤ (k : Int) := by omega
      have hi1 : (k : Int) < (n1 : Int) := by omega
      clear hss hn2 hx hww
      by_cases h0 : n2 = 0
      · subst h0
        have HB : Hid (L.all lineB = false) := Lib.hid (lines_no (k := k) (by rw [HL1.out]; exact hkn) (by
          rw [HS.out, List.eq_nil_of_length_eq_zero HN2.out]; rfl))
        clear htm hle
        go_wp2_with fail
        go_ret2
        exact ⟨by rw [(write_bad HB.out).1, (write_bad HB.out).2]; rfl, rfl⟩
      · have hz0 : ¬ (n2 : Int) = 0 := by omega
        have hz1 : ((n2 : Int) == 0) = false := beq_eq_false_iff_ne.2 hz0
        have HT := Lib.hid htm
        have HLE := Lib.hid hle
        clear htm hle
        go_wp2_with fail
        go_loopw [6] (fun mv wx => ∃ m : Nat, mv = .int .i64 (m : Int) ∧ m ≤ n2 ∧ Hid (∀ j, j < m → wordB (ss.getD j ⟨#[]⟩).data.toList = true) ∧ wx = wr) (fun mv _ => n2 - (intOf mv).toNat)
        case atStart => exact ⟨0, rfl, by omega, Lib.hid (fun j hj => by omega), rfl⟩
        case round =>
          obtain ⟨m, rfl, hmn, HALL2, rfl⟩ := hrel
          by_cases hlt : m < n2
          · obtain ⟨b2, o2, rfl, _, q2⟩ := HX.out.at_ (k := m) (by rw [HN2.out]; exact hlt)
            obtain ⟨t, ht⟩ : ∃ t, ss.getD m ⟨#[]⟩ = t := ⟨_, rfl⟩
            have hts := HWW.out m
            rw [ht] at q2 hts
            obtain ⟨z, hz⟩ : ∃ z, wordB t.data.toList = z := ⟨_, rfl⟩
            have hwd := fun W => refWord_any t W hts
            simp only [hz] at hwd
            have HWD := Lib.hid hwd
            have HTT := Lib.hid ht
            have HZ := Lib.hid hz
            have hj0 : (0 : Int) ≤ (m : Int) := by omega
            have hj1 : (m : Int) < (n2 : Int) := by omega
            clear ht hts hz hwd
            go_wp2_with fail
            refine (HWD.out _).mono ?_
            rintro e w2 ⟨rfl, rfl⟩
            cases z with
            | true =>
              go_wp2_with fail
              go_roundw
              case rel => exact ⟨m + 1, by go_num, by omega, Lib.hid (fun j hj => by
                rcases Nat.lt_or_ge j m with h | h
                · exact HALL2.out j h
                · obtain rfl : j = m := by omega
                  rw [HTT.out]; exact HZ.out), by first | rfl | trivial⟩
              case measure => simp [intOf]; omega
            | false =>
              have HB : Hid (L.all lineB = false) := Lib.hid (lines_no (k := k) (by rw [HL1.out]; exact hkn) (by
                rw [HS.out]
                unfold lineB
                rw [wordsB_no (k := m) (by rw [HN2.out]; exact hlt) (by rw [HTT.out]; exact HZ.out), Bool.and_false]))
              go_wp2_with fail
              go_ret2
              exact ⟨by rw [(write_bad HB.out).1, (write_bad HB.out).2]; rfl, rfl⟩
          · obtain rfl : m = n2 := by omega
            have HLB : Hid (lineB ss = true) := Lib.hid (by
              unfold lineB
              rw [wordsB_yes (fun j hj => HALL2.out j (by rw [HN2.out] at hj; exact hj)), Bool.and_true]
              have := HN2.out
              cases ss with
              | nil => simp at this; omega
              | cons _ _ => rfl)
            have hsz2 : (joinTo (fun k => ss.getD k ⟨#[]⟩) m).size ≤ 4611686018427387904 := by
              have h1 := HT.out
              have h2 := HLE.out
              unfold lineT at h1
              rw [HN2.out] at h1
              omega
            have HJ := Lib.hid (refJoin_any D1 ss m d1 wr HN2.out HX.out hm hc3 hsz2)
            obtain ⟨t, ht⟩ : ∃ t, joinTo (fun k => ss.getD k ⟨#[]⟩) m = t := ⟨_, rfl⟩
            rw [ht] at HJ
            obtain ⟨u, hu⟩ : ∃ u, textTo L k = u := ⟨_, rfl⟩
            have hlt' : lineT ss = t := by unfold lineT; rw [HN2.out]; exact ht
            have hszz : u.size + t.size + 1 ≤ 4611686018427387904 := by
              have h1 := HT.out
              have h2 := HLE.out
              rw [hu, hlt'] at h1
              omega
            have HU : Hid (textTo L (k + 1) = u ++ t ++ ⟨#[10]⟩) := Lib.hid (by simp only [textTo]; rw [HS.out, hlt', hu])
            have hadd1 := fun W => run_string_add_sum (P := Tryd.prog) W u t (by omega)
            have hadd2 := fun W => run_string_add_sum (P := Tryd.prog) W (u ++ t) (⟨#[10]⟩ : ByteArray) (by rw [ByteArray.size_append, show (⟨#[10]⟩ : ByteArray).size = 1 from rfl]; omega)
            have y1 : ¬ 9223372036854775807 < u.size + t.size := by omega
            have y2 : ¬ 9223372036854775807 < u.size + t.size + 1 := by omega
            have y3 : ¬ 9223372036854775807 ≤ u.size + t.size := by omega
            clear ht hsz2 hlt'
            rw [hu]
            go_wp2_with fail
            refine HJ.out.mono ?_
            rintro e w2 ⟨rfl, rfl⟩
            go_wp2_with fail
            go_roundw
            case rel => exact ⟨k + 1, by rw [HU.out], by go_num, by omega, Lib.hid (fun j hj => by
              rcases Nat.lt_or_ge j k with h | h
              · exact HALL.out j h
              · obtain rfl : j = k := by omega
                rw [HS.out]; exact HLB.out), by first | rfl | trivial⟩
            case measure => simp [intOf]; omega
    · obtain rfl : k = n1 := by omega
      have hall : L.all lineB = true := lines_yes (fun j hj => HALL.out j (by rw [HL1.out] at hj; exact hj))
      obtain ⟨u, hu⟩ : ∃ u, textTo L k = u := ⟨_, rfl⟩
      have hE : writeE L = if 65536 < u.size then 5 else 0 := by unfold writeE; rw [hall, HL1.out, hu]; rfl
      have hT : writeT L = if writeE L = 0 then u else ⟨#[]⟩ := by unfold writeT; rw [HL1.out, hu]
      rw [hu]
      by_cases hbig : 65536 < u.size
      · rw [if_pos hbig] at hE
        rw [hE, if_neg (by decide)] at hT
        have HE := Lib.hid hE
        have HTX := Lib.hid hT
        have hbi : (65536 : Int) < (u.size : Int) := by omega
        clear hE hT hu hall
        go_wp2_with fail
        go_ret2
        exact ⟨by rw [HE.out, HTX.out]; rfl, rfl⟩
      · rw [if_neg hbig] at hE
        rw [hE, if_pos rfl] at hT
        have HE := Lib.hid hE
        have HTX := Lib.hid hT
        have hbi : ¬ (65536 : Int) < (u.size : Int) := by omega
        clear hE hT hu hall
        go_wp2_with fail
        go_ret2
        exact ⟨by rw [HE.out, HTX.out]; rfl, rfl⟩
end Go.Proofs.YtbhdibeiojeadaaDoor
