/-
  Numbers in digits of 32 bits: isDecimal.
-/
import Derived.Test.YtebnlfhiihlkdaaDoorNatM
import Derived.Lib.ConvBytes
import Derived.Lib.AtoiErrMem
namespace Go.Proofs.YtebnlfhiihlkdaaDoor
open Go.RowKit
set_option maxRecDepth 100000

def digB (b : UInt8) : Bool := 48 ≤ b.toNat && b.toNat ≤ 57
/-- Decimal digits without noughts ahead. -/
def isDecB (l : List UInt8) : Bool := !l.isEmpty && !((l.headD 0).toNat == 48 && l.length != 1) && l.all digB

theorem ba_eq {s : ByteArray} {l : List UInt8} (h : s.data.toList = l) : s = ⟨l.toArray⟩ := by cases s; simp at h; simp [← h]
theorem isDec_empty (w : World) : Calls Tryd.prog 76 #[.string ⟨#[]⟩] w fun e w' => e = .returned (.bool false) ∧ w' = w := by
  go_enter Tryd.func76, Tryd.ntmps76
  go_wp2_with fail
  go_ret
  exact ⟨rfl, rfl⟩
theorem all_getD {l : List UInt8} : l.all digB = true ↔ ∀ j, j < l.length → digB (l.getD j 0) = true := by
  constructor
  · intro h j hj
    rw [List.all_eq_true] at h
    rw [List.getD_eq_getElem?_getD, List.getElem?_eq_getElem hj]
    exact h _ (List.getElem_mem hj)
  · intro h
    rw [List.all_eq_true]
    intro x hx
    obtain ⟨j, hj, rfl⟩ := List.getElem_of_mem hx
    have := h j hj
    rwa [List.getD_eq_getElem?_getD, List.getElem?_eq_getElem hj] at this

theorem not_all {l : List UInt8} {n k : Nat} (hl : l.length = n) (hk : k < n) (h : digB (l.getD k 0) = false) : l.all digB = false := by
  cases ha : l.all digB with
  | false => rfl
  | true => rw [all_getD.1 ha k (by omega)] at h; cases h
set_option maxHeartbeats 4000000 in
theorem isDec_loop (s : ByteArray) (n : Nat) (hn : s.size = n) (hpos : 0 < n) (hlim : n ≤ 10000) (hi : 0 < s.size) (h48 : (s[0]'hi).toNat = 48 → s.toList = [48]) (w : World) :
    Calls Tryd.prog 76 #[.string s] w fun e w' => e = .returned (.bool (s.data.toList.all digB)) ∧ Below w.heap.size w w' := by
  have hcv := Lib.run_convert_string_bytes (P := Tryd.prog) w 9 104 5 s Tryd.underlying9 Tryd.underlying104 Tryd.underlying5
  have hB : Below w.heap.size w (Lib.bytesWorld w 5 s) := Lib.bytesWorld_below w _ s
  have hc : ∀ j, j < n → (Lib.bytesWorld w 5 s).cell? ⟨w.heap.size, j, none⟩ = some (.int .u8 ((s.data.toList.getD j 0).toNat : Int)) := fun j hj => Lib.bytesWorld_cell w _ s j (by omega)
  have hcap := grownCap_ge w s.size 0 5
  rw [hn] at hcv hcap
  generalize grownCap w n 0 5 = cap at hcv hcap
  generalize Lib.bytesWorld w 5 s = W1 at hcv hB hc
  have hlen : s.data.toList.length = n := by rw [← hn, Array.length_toList]; rfl
  have hne : ¬ s.toList = [] := by rw [Lib.toList_data]; intro h; rw [h] at hlen; simp at hlen; omega
  have hem : s.toList.isEmpty = false := by
    rcases h : s.toList with _ | ⟨a, r⟩
    · exact absurd h hne
    · rfl
  have key : ∀ (a : Act), a.tmps.size = 30 → a.tmps[17]? = some (.slice (some ⟨w.heap.size, 0, none⟩) n cap) → True := fun _ _ _ => trivial
  have HLEN := Lib.hid hlen
  have HC := Lib.hid hc
  have HN := Lib.hid hn
  obtain ⟨R, hR⟩ : ∃ R, s.data.toList.all digB = R := ⟨_, rfl⟩
  rw [hR]
  have HR := Lib.hid hR
  clear hR
  by_cases h0 : (s[0]'hi).toNat = 48
  · have hone := h48 h0
    have h0i : ((s[0]'hi).toNat : Int) = 48 := by omega
    have hneg : (!s.toList == [48]) = false := by rw [hone]; rfl
    clear h48 hlen hc key hn
    go_enter Tryd.func76, Tryd.ntmps76
    go_wp2_with fail
    go_loopw [4, 19] (fun _ iv wr => ∃ k : Nat, iv = .int .i64 (k : Int) ∧ k ≤ n ∧ (∀ j, j < k → digB (s.data.toList.getD j 0) = true) ∧ wr = W1) (fun _ iv _ => n - (intOf iv).toNat)
    case atStart => exact ⟨0, rfl, by omega, fun j hj => by omega, rfl⟩
    case round =>
      obtain ⟨k, rfl, hk, hall, rfl⟩ := hrel
      have HA := Lib.hid hall
      clear hall
      by_cases hkn : k < n
      · have ck := HC.out k hkn
        obtain ⟨x, hx⟩ : ∃ x, (s.data.toList.getD k 0).toNat = x := ⟨_, rfl⟩
        rw [hx] at ck
        have HX := Lib.hid hx
        have HXI : Hid (digB (s.data.toList.getD k 0) = (decide (48 ≤ x) && decide (x ≤ 57))) := Lib.hid (by rw [← hx]; rfl)
        clear hx
        by_cases hx1 : x < 48
        · go_wp2_with fail
          go_ret
          exact ⟨by rw [show R = false from HR.out.symm.trans (not_all HLEN.out hkn (by rw [HXI.out, decide_eq_false (by omega)]; rfl))]; rfl, hB⟩
        by_cases hx2 : 57 < x
        · go_wp2_with fail
          go_ret
          exact ⟨by rw [show R = false from HR.out.symm.trans (not_all HLEN.out hkn (by rw [HXI.out, decide_eq_false (show ¬ x ≤ 57 by omega), Bool.and_false]))]; rfl, hB⟩
        go_wp2_with fail
        go_roundw
        case rel => exact ⟨k + 1, by go_num, by omega, fun j hj => by
          rcases Nat.lt_or_ge j k with h | h
          · exact HA.out j h
          · obtain rfl : j = k := by omega
            rw [HXI.out, decide_eq_true (by omega), decide_eq_true (by omega)]; rfl, trivial⟩
        case measure => simp [intOf]; omega
      · obtain rfl : k = n := by omega
        go_wp2_with fail
        go_ret
        exact ⟨by rw [show R = true from HR.out.symm.trans (all_getD.2 (fun j hj => HA.out j (by have := HLEN.out; omega)))]; rfl, hB⟩
  · have h0i : ¬ ((s[0]'hi).toNat : Int) = 48 := by omega
    clear h48 hlen hc key hn
    go_enter Tryd.func76, Tryd.ntmps76
    go_wp2_with fail
    go_loopw [4, 19] (fun _ iv wr => ∃ k : Nat, iv = .int .i64 (k : Int) ∧ k ≤ n ∧ (∀ j, j < k → digB (s.data.toList.getD j 0) = true) ∧ wr = W1) (fun _ iv _ => n - (intOf iv).toNat)
    case atStart => exact ⟨0, rfl, by omega, fun j hj => by omega, rfl⟩
    case round =>
      obtain ⟨k, rfl, hk, hall, rfl⟩ := hrel
      have HA := Lib.hid hall
      clear hall
      by_cases hkn : k < n
      · have ck := HC.out k hkn
        obtain ⟨x, hx⟩ : ∃ x, (s.data.toList.getD k 0).toNat = x := ⟨_, rfl⟩
        rw [hx] at ck
        have HX := Lib.hid hx
        have HXI : Hid (digB (s.data.toList.getD k 0) = (decide (48 ≤ x) && decide (x ≤ 57))) := Lib.hid (by rw [← hx]; rfl)
        clear hx
        by_cases hx1 : x < 48
        · go_wp2_with fail
          go_ret
          exact ⟨by rw [show R = false from HR.out.symm.trans (not_all HLEN.out hkn (by rw [HXI.out, decide_eq_false (by omega)]; rfl))]; rfl, hB⟩
        by_cases hx2 : 57 < x
        · go_wp2_with fail
          go_ret
          exact ⟨by rw [show R = false from HR.out.symm.trans (not_all HLEN.out hkn (by rw [HXI.out, decide_eq_false (show ¬ x ≤ 57 by omega), Bool.and_false]))]; rfl, hB⟩
        go_wp2_with fail
        go_roundw
        case rel => exact ⟨k + 1, by go_num, by omega, fun j hj => by
          rcases Nat.lt_or_ge j k with h | h
          · exact HA.out j h
          · obtain rfl : j = k := by omega
            rw [HXI.out, decide_eq_true (by omega), decide_eq_true (by omega)]; rfl, trivial⟩
        case measure => simp [intOf]; omega
      · obtain rfl : k = n := by omega
        go_wp2_with fail
        go_ret
        exact ⟨by rw [show R = true from HR.out.symm.trans (all_getD.2 (fun j hj => HA.out j (by have := HLEN.out; omega)))]; rfl, hB⟩

theorem isDec_nought (s : ByteArray) (hi : 0 < s.size) (h48 : (s[0]'hi).toNat = 48) (hne : ¬ s.toList = [48]) (w : World) :
    Calls Tryd.prog 76 #[.string s] w fun e w' => e = .returned (.bool false) ∧ Below w.heap.size w w' := by
  have h0i : ((s[0]'hi).toNat : Int) = 48 := by omega
  have hem : s.toList.isEmpty = false := by
    have hl : s.data.toList.length = s.size := Array.length_toList
    rcases h : s.toList with _ | ⟨a, r⟩
    · rw [Lib.toList_data] at h; rw [h] at hl; simp at hl; omega
    · rfl
  have hneg : (!s.toList == [48]) = true := by
    rw [show (s.toList == [48]) = false from beq_eq_false_iff_ne.2 hne]; rfl
  go_enter Tryd.func76, Tryd.ntmps76
  go_wp2_with fail
  go_ret
  exact ⟨rfl, Below.refl _ _⟩

theorem isDec_any (s : ByteArray) (hlim : s.size ≤ 10000) (w : World) :
    Calls Tryd.prog 76 #[.string s] w fun e w' => e = .returned (.bool (isDecB s.data.toList)) ∧ Below w.heap.size w w' := by
  have hl : s.data.toList.length = s.size := Array.length_toList
  rcases Nat.eq_zero_or_pos s.size with h | hi
  · have : s = ⟨#[]⟩ := by
      have := List.eq_nil_of_length_eq_zero (hl.trans h)
      cases s with | mk d => simp at this; rw [this]
    subst this
    exact (isDec_empty w).mono fun e w' ⟨h1, h2⟩ => ⟨h1, by subst h2; exact Below.refl _ _⟩
  · obtain ⟨a, r, har⟩ : ∃ a r, s.data.toList = a :: r := by
      rcases h : s.data.toList with _ | ⟨a, r⟩
      · rw [h] at hl; simp at hl; omega
      · exact ⟨a, r, rfl⟩
    have h0 : s[0]'hi = a := by
      have : s.data.toList[0]'(by omega) = a := by simp only [har, List.getElem_cons_zero]
      exact this
    by_cases hz : a.toNat = 48 ∧ r ≠ []
    · refine (isDec_nought s hi (by rw [h0]; exact hz.1) (by rw [Lib.toList_data, har]; intro h; injection h with h1 h2; exact hz.2 h2) w).mono fun e w' ⟨h1, h2⟩ => ⟨?_, h2⟩
      have hlen : (r.length + 1 != 1) = true := by
        rcases r with _ | ⟨b, r⟩
        · exact absurd rfl hz.2
        · simp
      rw [h1, har, isDecB]
      simp only [List.headD_cons, List.length_cons, hz.1, hlen, List.isEmpty_cons]
      rfl
    · refine (isDec_loop s s.size rfl hi hlim hi (fun h => by
        rw [h0] at h
        have hr : r = [] := Classical.byContradiction fun h2 => hz ⟨h, h2⟩
        rw [Lib.toList_data, har, hr, show a = 48 from UInt8.toNat_inj.1 h]) w).mono fun e w' ⟨h1, h2⟩ => ⟨?_, h2⟩
      rw [h1, isDecB, har]
      have : (((a :: r).headD 0).toNat == 48 && (a :: r).length != 1) = false := by
        by_cases ha : a.toNat = 48
        · have hr : r = [] := Classical.byContradiction fun h2 => hz ⟨ha, h2⟩
          subst hr
          simp
        · simp [ha]
      rw [this]
      rfl
end Go.Proofs.YtebnlfhiihlkdaaDoor
