/-
  Package euclid of the program, and the document's: the least that all divide; two that are reduced.
-/
import Derived.Test.YtadpeleohialaaaEucA
import Derived.Test.YtadpeleohialaaaCmp
import Derived.Test.YtadpeleohialaaaWord
namespace Go.Proofs.Ytadpeleohialaaa
open Go.RowKit

/-- Is v among xs? -/
def hasW (xs : List Nat) (v : Nat) : Bool := decide (v ∈ xs)
theorem hasW_yes {xs : List Nat} {v k : Nat} (hk : k < xs.length) (h : nth xs k = v) : hasW xs v = true := by
  rw [nth_in hk] at h
  simp [hasW, ← h]
theorem hasW_no {xs : List Nat} {v : Nat} (h : ∀ k, k < xs.length → nth xs k ≠ v) : hasW xs v = false := by
  simp only [hasW, decide_eq_false_iff_not]
  intro hm
  obtain ⟨k, hk, e⟩ := List.getElem_of_mem hm
  exact h k hk (by rw [nth_in hk]; exact e)
theorem hasW_not {xs : List Nat} {v : Nat} (h : hasW xs v = false) {k : Nat} (hk : k < xs.length) : nth xs k ≠ v := fun e => by
  rw [hasW_yes hk e] at h
  cases h

set_option maxHeartbeats 800000 in
theorem index_any (A : Option Addr) (xs : List Nat) (n c v : Nat) (w : World) (hl : xs.length = n) (hn : n ≤ 1000000) (hr : Ru w A xs) :
    Calls Try.prog 31 #[.slice A n c, .int .u64 (v : Int)] w fun e w' =>
      ((∃ k : Nat, k < n ∧ Hid (nth xs k = v) ∧ e = .returned (.int .i64 (k : Int))) ∨ (Hid (∀ k, k < xs.length → nth xs k ≠ v) ∧ e = .returned (.int .i64 (-1)))) ∧ Below w.heap.size w w' := by
  have HL := Lib.hid hl
  clear hl
  go_enter Try.func31, Try.ntmps31
  go_wp2_with fail
  go_loopw [8] (fun i wr => ∃ k : Nat, i = .int .i64 (k : Int) ∧ k ≤ n ∧ Hid (∀ j, j < k → nth xs j ≠ v) ∧ Below w.heap.size w wr) (fun i _ => n - (intOf i).toNat)
  case atStart => exact ⟨0, rfl, by omega, Lib.hid (fun j hj => by omega), Below.refl _ _⟩
  case round =>
    obtain ⟨k, rfl, hk, HF, hbl⟩ := hrel
    by_cases ht : k < n
    · obtain ⟨b, o, hA, hc⟩ := (hr.below hbl).at_ (k := k) (by have := HL.out; omega)
      subst hA
      have hi0 : (0 : Int) ≤ (k : Int) := by omega
      have hi1 : (k : Int) < (n : Int) := by omega
      by_cases he : nth xs k = v
      · have he1 : ((v : Int) == ((nth xs k : Nat) : Int)) = true := by rw [he]; simp
        have HE := Lib.hid he
        clear he
        go_wp2_with fail
        go_ret
        exact ⟨.inl ⟨k, ht, HE, rfl⟩, hbl⟩
      · have he1 : ((v : Int) == ((nth xs k : Nat) : Int)) = false := by simp; omega
        have HS : Hid (∀ j, j < k + 1 → nth xs j ≠ v) := Lib.hid (fun j hj => by
          rcases Nat.lt_or_ge j k with h | h
          · exact HF.out j h
          · rw [show j = k by omega]; exact he)
        clear he HF
        go_wp2_with fail
        go_roundw
        case rel => exact ⟨k + 1, by go_num, by omega, HS, hbl⟩
        case measure => simp [intOf]; omega
    · obtain rfl : k = n := by omega
      have HS : Hid (∀ j, j < xs.length → nth xs j ≠ v) := Lib.hid (fun j hj => HF.out j (by have := HL.out; omega))
      clear HF
      go_wp2_with fail
      go_ret
      exact ⟨.inr ⟨HS, rfl⟩, hbl⟩

set_option maxHeartbeats 400000 in
theorem contains_any (A : Option Addr) (xs : List Nat) (n c v : Nat) (w : World) (hl : xs.length = n) (hn : n ≤ 1000000) (hr : Ru w A xs) :
    Calls Try.prog 21 #[.slice A n c, .int .u64 (v : Int)] w fun e w' => e = .returned (.bool (hasW xs v)) ∧ Below w.heap.size w w' := by
  have HL := Lib.hid hl
  clear hl
  go_enter Try.func21, Try.ntmps21
  go_wp2_with fail
  refine (index_any A xs n c v _ HL.out hn hr).mono ?_
  rintro e w1 ⟨⟨k, hk, HK, rfl⟩ | ⟨HK, rfl⟩, hb1⟩
  · have HB : Hid (hasW xs v = true) := Lib.hid (hasW_yes (by have := HL.out; omega) HK.out)
    have h0 : (0 : Int) ≤ (k : Int) := by omega
    go_wp2_with fail
    go_ret
    exact ⟨by rw [HB.out]; rfl, hb1⟩
  · have HB : Hid (hasW xs v = false) := Lib.hid (hasW_no HK.out)
    go_wp2_with fail
    go_ret
    exact ⟨by rw [HB.out]; rfl, hb1⟩

/-- The least that all divide, from m on; false: it does not fit. -/
def lcmF : List Nat → Nat → Nat × Bool
  | [], m => (m, true)
  | x :: r, m => if m * (x / Nat.gcd m x) < 18446744073709551616 then lcmF r (m * (x / Nat.gcd m x)) else (0, false)
def lcmR (xs : List Nat) : Nat × Bool := if hasW xs 0 = true then (0, true) else lcmF xs 1
theorem drop_nth {xs : List Nat} {k : Nat} (hk : k < xs.length) : xs.drop k = nth xs k :: xs.drop (k + 1) := by
  rw [List.drop_eq_getElem_cons hk, nth_in hk]
theorem lcmF_in {xs : List Nat} {k m : Nat} (hk : k < xs.length) (h : m * (nth xs k / Nat.gcd m (nth xs k)) < 18446744073709551616) :
    lcmF (xs.drop k) m = lcmF (xs.drop (k + 1)) (m * (nth xs k / Nat.gcd m (nth xs k))) := by rw [drop_nth hk, lcmF, if_pos h]
theorem lcmF_out {xs : List Nat} {k m : Nat} (hk : k < xs.length) (h : ¬ m * (nth xs k / Nat.gcd m (nth xs k)) < 18446744073709551616) :
    lcmF (xs.drop k) m = (0, false) := by rw [drop_nth hk, lcmF, if_neg h]

set_option maxHeartbeats 1600000 in
theorem lcm_any (A : Option Addr) (xs : List Nat) (n c : Nat) (w : World) (hl : xs.length = n) (hn : n ≤ 1000) (hr : Ru w A xs) (hw : Wds xs) :
    Calls Try.prog 7 #[.slice A n c] w fun e w' => e = .returned (.tuple #[.int .u64 (((lcmR xs).1 : Nat) : Int), .bool (lcmR xs).2]) ∧ Below w.heap.size w w' := by
  obtain ⟨R, hR⟩ : ∃ R, lcmR xs = R := ⟨_, rfl⟩
  rw [hR]
  have HL := Lib.hid hl
  clear hl
  go_enter Try.func7, Try.ntmps7
  go_wp2_with fail
  refine (contains_any A xs n c 0 _ HL.out (by omega) hr).mono ?_
  rintro e w1 ⟨rfl, hb1⟩
  by_cases hz : hasW xs 0 = true
  · have HR : Hid (R = (0, true)) := Lib.hid (by rw [← hR, lcmR, if_pos hz])
    rw [hz]
    clear hR
    go_wp2_with fail
    go_ret2
    exact ⟨by rw [HR.out]; rfl, hb1⟩
  · have HR : Hid (R = lcmF xs 1) := Lib.hid (by rw [← hR, lcmR, if_neg hz])
    have hz' : hasW xs 0 = false := by simpa using hz
    have HNZ : Hid (∀ k, k < xs.length → nth xs k ≠ 0) := Lib.hid (fun k hk => hasW_not hz' hk)
    rw [hz']
    clear hR hz hz'
    go_wp2_with fail
    go_loopw [4, 13] (fun x i wr => ∃ k m : Nat, x = .int .u64 (m : Int) ∧ i = .int .i64 (k : Int) ∧ k ≤ n ∧ m < 18446744073709551616 ∧ Hid (lcmF (xs.drop k) m = R) ∧ Below w.heap.size w wr) (fun _ i _ => n - (intOf i).toNat)
    case atStart => exact ⟨0, 1, rfl, rfl, by omega, by omega, Lib.hid (by rw [HR.out]; rfl), hb1⟩
    case round =>
      obtain ⟨k, m, rfl, rfl, hk, hm, HF, hbl⟩ := hrel
      clear HR hb1
      by_cases ht : k < n
      · obtain ⟨b, o, hA, hc⟩ := (hr.below hbl).at_ (k := k) (by have := HL.out; omega)
        subst hA
        have hi0 : (0 : Int) ≤ (k : Int) := by omega
        have hi1 : (k : Int) < (n : Int) := by omega
        have hxk := hw.nth k
        have hx0 := HNZ.out k (by have := HL.out; omega)
        obtain ⟨x, hx⟩ : ∃ x, nth xs k = x := ⟨_, rfl⟩
        have HIN := fun h => lcmF_in (xs := xs) (k := k) (m := m) (by have := HL.out; omega) h
        have HOUT := fun h => lcmF_out (xs := xs) (k := k) (m := m) (by have := HL.out; omega) h
        rw [hx] at hc hxk hx0 HIN HOUT
        rw [HF.out] at HIN HOUT
        have HIN := Lib.hid HIN
        have HOUT := Lib.hid HOUT
        clear hx
        go_wp2_with fail
        refine (common_any m x _ hm hxk).mono ?_
        rintro e w2 ⟨rfl, hb2⟩
        have hg0 : 0 < Nat.gcd m x := Nat.gcd_pos_of_pos_right _ (by omega)
        obtain ⟨g, hg⟩ : ∃ g, Nat.gcd m x = g := ⟨_, rfl⟩
        have HIN2 := HIN.out
        have HOUT2 := HOUT.out
        rw [hg] at hg0 HIN2 HOUT2 ⊢
        have HIN := Lib.hid HIN2
        have HOUT := Lib.hid HOUT2
        have hq : x / g ≤ x := Nat.div_le_self _ _
        have hg1 : ((g : Int) == 0) = false := by simp; omega
        have hg2 : ¬ (g : Int) = 0 := by omega
        have e2 : IntKind.u64.wrap ((x : Int) / (g : Int)) = ((x / g : Nat) : Int) := by rw [show (x : Int) / (g : Int) = ((x / g : Nat) : Int) by simp, u64_in _ (by omega)]
        clear HIN2 HOUT2 hg
        generalize x / g = q at *
        go_wp2_with fail
        refine (mulw_any m q _ hm (by omega)).mono ?_
        rintro e w3 ⟨rfl, hb3⟩
        have hB := hbl.trans (hb2.mono hbl.size)
        have hB := hB.trans (hb3.mono hB.size)
        clear hbl hb2 hb3
        obtain ⟨p, hp⟩ : ∃ p, m * q = p := ⟨_, rfl⟩
        rw [hp]
        by_cases hf : p < 18446744073709551616
        · rw [fw_in hf, fb_in hf]
          have HN : Hid (R = lcmF (xs.drop (k + 1)) p) := Lib.hid (by rw [← hp]; exact HIN.out (by rw [hp]; exact hf))
          clear HIN HOUT hp
          go_wp2_with fail
          go_roundw
          case rel => exact ⟨k + 1, p, rfl, by go_num, by omega, hf, Lib.hid HN.out.symm, hB⟩
          case measure => simp [intOf]; omega
        · rw [fw_out (by omega), fb_out (by omega)]
          have HN : Hid (R = (0, false)) := Lib.hid (HOUT.out (by rw [hp]; exact hf))
          clear HIN HOUT hp
          go_wp2_with fail
          go_ret2
          exact ⟨by rw [HN.out]; rfl, hB⟩
      · obtain rfl : k = n := by omega
        have HE : Hid (R = (m, true)) := Lib.hid (by rw [← HF.out, List.drop_eq_nil_of_le (by have := HL.out; omega)]; rfl)
        go_wp2_with fail
        go_ret2
        exact ⟨by rw [HE.out]; rfl, hbl⟩
end Go.Proofs.Ytadpeleohialaaa
