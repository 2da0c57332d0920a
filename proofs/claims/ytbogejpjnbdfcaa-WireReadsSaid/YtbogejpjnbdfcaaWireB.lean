/-
  Numbers and texts as bytes: any many numbers, and a text, are put.
-/
import Derived.Test.YtbogejpjnbdfcaaWireA
namespace Go.Proofs.Ytbogejpjnbdfcaa
open Go.RowKit
set_option maxRecDepth 100000

theorem nil8_is : ∀ (n c : Nat) (w : World), (binOp .eql 22 (.slice none n c) (.slice none 0 0)).run Try.prog w = .ok (.bool true) w := fun _ _ _ => by kernel_rfl
theorem nil8_not : ∀ (a : Addr) (n c : Nat) (w : World), (binOp .eql 22 (.slice (some a) n c) (.slice none 0 0)).run Try.prog w = .ok (.bool false) w := fun _ _ _ _ => by kernel_rfl
theorem made8 (w : World) (base : Nat) (hb : base ≤ w.heap.size) : (w.alloc (.cells #[] 5)).ownsRow base 5 1 (.slice (some ⟨w.heap.size, 0, none⟩) 0 0) ([] : List UInt8).length (u8s []) :=
  owns_lit8 w base 5 [] hb (by simp)
theorem cloned8 {w w1 : World} {A' : Option Addr} {c' n' : Nat} {xs : List UInt8} (hl : ([] ++ xs).length = n') (hc : n' ≤ c') (hown : w1.ownsRow w.heap.size 5 1 (.slice A' n' c') n' (u8s ([] ++ xs)))
    (hg : (w.alloc (.cells #[] 5)).grownBy w1 (Value.slice (some ⟨w.heap.size, 0, none⟩) 0 0).ownBlock) : RetB w.heap.size w xs (.returned (.slice A' n' c')) w1 := by
  rw [List.nil_append] at hl hown
  exact ⟨_, _, _, rfl, hl, hc, hown, ((Below.refl _ _).alloc (Nat.le_refl _) _).grown hg (by simp) (by intro k hk; simp [Value.ownBlock] at hk; omega)⟩

set_option maxHeartbeats 1000000 in
theorem clone8_any (A : Option Addr) (xs : List UInt8) (n c : Nat) (w : World) (hl : xs.length = n) (hr : Rb w w.heap.size A xs) (hn : n ≤ 1000000) :
    Calls Try.prog 24 #[.slice A n c] w (RetB w.heap.size w xs) := by
  have HL := Lib.hid hl
  have hni := nil8_is
  have hnn := nil8_not
  clear hl
  cases A with
  | none =>
    obtain rfl : xs = [] := by
      rcases xs with _ | ⟨y, r⟩
      · rfl
      · obtain ⟨_, _, h, _⟩ := hr (by simp)
        cases h
    obtain rfl : n = 0 := by simpa using HL.out.symm
    go_enter Try.func24, Try.ntmps24
    go_wp2
    go_ret
    exact ⟨none, 0, 0, rfl, rfl, Nat.le_refl _, World.ownsRow_nil _ _ _ _, Below.refl _ _⟩
  | some ad =>
    have HO := Lib.hid (made8 w w.heap.size (Nat.le_refl _))
    have HR := Lib.hid (hr.alloc (Nat.le_refl _) (.cells #[] 5))
    go_enter Try.func24, Try.ntmps24
    go_wp2_with (at_builtin; go_loud (refine wpList_append_u8s _ rfl (.tmp 5) (.tmp 6) 22 rfl w.heap.size 5 Try.underlying22 info_b8 (.slice (some ⟨w.heap.size, 0, none⟩) 0 0) [] rfl HO.out w.heap.size (some ad) n xs _ HL.out rfl HR.out (by have := HL.out; simp; omega) (by simp) ?_); intro A' n' c' w1 hl1 hc1 hown1 hg1)
    go_ret
    exact cloned8 hl1.out hc1 hown1.out hg1

/-- The bytes of a list of numbers. -/
def pns (ls : List Nat) : List UInt8 := ls.flatMap pn
theorem pns_succ {ls : List Nat} {k : Nat} (h : k < ls.length) : pns (ls.take (k + 1)) = pns (ls.take k) ++ pn (nth ls k) := by
  rw [nth_in h, List.take_add_one, pns, List.flatMap_append, List.getElem?_eq_getElem h]
  simp [pns]
theorem pns_len {ls : List Nat} (hw : Wds ls) : ∀ k, k ≤ ls.length → (pns (ls.take k)).length ≤ 10 * k := by
  intro k
  induction k with
  | zero => intro _; simp [pns]
  | succ k ih =>
    intro h
    rw [pns_succ (by omega), List.length_append]
    have := ih (by omega)
    have := pn_len (hw.nth k)
    omega
theorem pns_one (n : Nat) : pns [n] = pn n := by simp [pns]

set_option maxHeartbeats 1000000 in
theorem wput_any (A B : Option Addr) (xs : List UInt8) (ls : List Nat) (n c m d : Nat) (w : World) (hl : xs.length = n) (hm : ls.length = m) (hr : Rb w w.heap.size A xs) (hru : Ru w B ls) (hw : Wds ls) (hn : n ≤ 100000) (hmm : m ≤ 1000) :
    Calls Try.prog 9 #[.slice A n c, .slice B m d] w (RetB w.heap.size w (xs ++ pns ls)) := by
  have HL := Lib.hid hl
  have HM := Lib.hid hm
  have HW := Lib.hid hw
  go_enter Try.func9, Try.ntmps9
  go_wp2_with fail
  refine (clone8_any A xs n c w hl hr (by omega)).mono ?_
  rintro e w1 ⟨A1, n1, c1, rfl, hl1, hc1, hown1, hb1⟩
  have HO1 := Lib.hid hown1
  clear hl hm hw hown1
  go_wp2_with fail
  go_loopw [5, 12] (fun v i wr => ∃ k : Nat, i = .int .i64 (k : Int) ∧ k ≤ m ∧ ∃ A2 n2 c2, v = .slice A2 n2 c2 ∧ Hid ((xs ++ pns (ls.take k)).length = n2) ∧ n2 ≤ c2 ∧ Hid (wr.ownsRow w.heap.size 5 1 (.slice A2 n2 c2) n2 (u8s (xs ++ pns (ls.take k)))) ∧ Below w.heap.size w wr) (fun _ i _ => m - (intOf i).toNat)
  case atStart => exact ⟨0, rfl, by omega, A1, n1, c1, rfl, Lib.hid (by simpa [pns] using hl1), hc1, by simpa [pns] using HO1, hb1⟩
  case round =>
    obtain ⟨k, rfl, hk, A2, n2, c2, rfl, HL2, hc2, HO2, hb2⟩ := hrel
    by_cases ht : k < m
    · obtain ⟨b, o, hB, hcell⟩ := (hru.below hb2).at_ (k := k) (by have := HM.out; omega)
      subst hB
      have hi0 : (0 : Int) ≤ (k : Int) := by omega
      have hi1 : (k : Int) < (m : Int) := by omega
      have hlen := pns_len HW.out k (by have := HM.out; omega)
      have hn2 : n2 ≤ 1000000 := by have := HL2.out; have := HL.out; simp only [List.length_append] at *; omega
      go_wp2_with fail
      refine (appendNum_any w.heap.size n2 c2 A2 (xs ++ pns (ls.take k)) (nth ls k) wr HL2.out hc2 (HW.out.nth k) HO2.out hb2.size hn2).mono ?_
      rintro e w3 ⟨A3, n3, c3, rfl, hl3, hc3, hown3, hb3⟩
      rw [List.append_assoc, ← pns_succ (by have := HM.out; omega)] at hl3 hown3
      have HL3 := Lib.hid hl3
      have HO3 := Lib.hid hown3
      clear hl3 hown3
      go_wp2_with fail
      go_roundw
      case rel => exact ⟨k + 1, by go_num, by omega, A3, n3, c3, rfl, HL3, hc3, HO3, hb2.trans hb3⟩
      case measure => simp [intOf]; omega
    · obtain rfl : k = m := by omega
      go_wp2_with fail
      go_ret
      refine ⟨A2, n2, c2, rfl, ?_, hc2, ?_, hb2⟩
      · rw [← HL2.out, List.take_of_length_le (by have := HM.out; omega)]
      · have := HO2.out
        rwa [List.take_of_length_le (by have := HM.out; omega)] at this

theorem owns_base {w : World} {base base' : Nat} {e : TypeId} {v : Value} {n : Nat} {xs : List Value} (h : w.ownsRow base e 1 v n xs) (hb : base' ≤ base) : w.ownsRow base' e 1 v n xs :=
  ⟨h.1, h.2.imp id (fun ⟨g, cap, cur, h1, h2, r⟩ => ⟨g, cap, cur, h1, Nat.le_trans hb h2, r⟩)⟩
theorem ru_one (w : World) (n : Nat) (t : TypeId) : Ru (w.alloc (.cells #[.int .u64 (n : Int)] t)) (some ⟨w.heap.size, 0, none⟩) [n] := Ru.lit w t [n]

set_option maxHeartbeats 1000000 in
theorem putText_any (A : Option Addr) (xs : List UInt8) (n c : Nat) (s : ByteArray) (w : World) (hl : xs.length = n) (hr : Rb w w.heap.size A xs) (hn : n ≤ 100000) (hs : s.size ≤ 100000) :
    Calls Try.prog 10 #[.slice A n c, .string s] w (RetB w.heap.size w (xs ++ pn s.size ++ s.data.toList)) := by
  have HL := Lib.hid hl
  have hru := ru_one w s.size 26
  have hb1 : Below w.heap.size w (w.alloc (.cells #[.int .u64 (s.size : Int)] 26)) := (Below.refl _ _).alloc (Nat.le_refl _) _
  have hr1 : Rb (w.alloc (.cells #[.int .u64 (s.size : Int)] 26)) (w.alloc (.cells #[.int .u64 (s.size : Int)] 26)).heap.size A xs := (hr.alloc (Nat.le_refl _) _).more hb1.size
  have hc := wput_any A (some ⟨w.heap.size, 0, none⟩) xs [s.size] n c 1 1 _ hl rfl hr1 hru (Wds.of_all (by simp; omega)) hn (by omega)
  have HC := Lib.hid hc
  have HB1 := Lib.hid hb1
  clear hc hr1 hru hl hb1 hr
  go_enter Try.func10, Try.ntmps10
  go_wp2_with (first | (refine HC.out.mono ?_; rintro e w1 ⟨A1, n1, c1, rfl, hl1, hc1, hown1, hb1⟩; rw [pns_one] at hl1 hown1; have HL1 := Lib.hid hl1; have HO1 := Lib.hid hown1; clear hl1 hown1) | (at_builtin; go_loud (refine wpList_append_b8str _ rfl (.tmp 10) (.tmp 11) 22 9 rfl (w.alloc (.cells #[.int .u64 (s.size : Int)] 26)).heap.size 5 Try.underlying22 Try.underlying9 info_b8 _ (xs ++ pn s.size) rfl (by rw [HL1.out]; exact HO1.out) s rfl (by have := HL1.out; have := pn_len (n := s.size) (by omega); have := HL.out; simp only [List.length_append] at *; omega) (by have := hb1.size; exact this) ?_); intro A2 n2 c2 w2 hl2 hc2 hown2 hg2))
  go_ret
  exact ⟨A2, n2, c2, rfl, hl2.out, hc2, owns_base hown2.out (by simp), (HB1.out.trans (hb1.mono HB1.out.size)).grown hg2 (by have := hb1.size; have := HB1.out.size; omega) (fun k hk => by have := (HO1.out.lt k hk).1; have := HB1.out.size; omega)⟩

theorem add_str (s : ByteArray) {k : Nat} (h : k < s.size) : s.data.toList.take k ++ [s[k]] = s.data.toList.take (k + 1) := by
  have hk : k < s.data.toList.length := by rw [Array.length_toList]; exact h
  rw [List.take_add_one, List.getElem?_eq_getElem hk]
  rfl

set_option maxHeartbeats 1000000 in
theorem refPutText_any (base : Nat) (A : Option Addr) (xs : List UInt8) (n c : Nat) (s : ByteArray) (w : World) (hl : xs.length = n) (hc : n ≤ c) (hown : w.ownsRow base 5 1 (.slice A n c) n (u8s xs)) (hb : base ≤ w.heap.size) (hn : n ≤ 100000) (hs : s.size ≤ 100000) :
    Calls Try.prog 11 #[.slice A n c, .string s] w (RetO base (.slice A n c) w (xs ++ pn s.size ++ s.data.toList)) := by
  have HL := Lib.hid hl
  have hcc := refPut5_any base n c A xs s.size w hl hc (by omega) hown hb (by omega)
  have HC := Lib.hid hcc
  clear hcc hl hown
  go_enter Try.func11, Try.ntmps11
  go_wp2_with fail
  refine HC.out.mono ?_
  rintro e w1 ⟨A1, n1, c1, rfl, hl1, hc1, hown1, hb1, hgo1, hvo1⟩
  have HG1 := Lib.hid hgo1
  have HV1 := Lib.hid hvo1
  clear hgo1 hvo1
  have HL1 := Lib.hid hl1
  have HO1 := Lib.hid hown1
  clear hl1 hown1 HC
  go_wp2_with fail
  go_loopw [0, 5] (fun v i wr => ∃ k : Nat, i = .int .i64 (k : Int) ∧ k ≤ s.size ∧ ∃ A2 n2 c2, v = .slice A2 n2 c2 ∧ Hid ((xs ++ pn s.size ++ s.data.toList.take k).length = n2) ∧ n2 ≤ c2 ∧ Hid (wr.ownsRow base 5 1 (.slice A2 n2 c2) n2 (u8s (xs ++ pn s.size ++ s.data.toList.take k))) ∧ Below base w wr ∧ Hid (w.grownBy wr (Value.slice A n c).ownBlock) ∧ Hid ((Value.slice A2 n2 c2).ownBlock = (Value.slice A n c).ownBlock ∨ ∃ k, (Value.slice A2 n2 c2).ownBlock = some k ∧ w.heap.size ≤ k)) (fun _ i _ => s.size - (intOf i).toNat)
  case atStart => exact ⟨0, rfl, by omega, A1, n1, c1, rfl, Lib.hid (by simpa using HL1.out), hc1, Lib.hid (by simpa using HO1.out), hb1, HG1, HV1⟩
  case round =>
    obtain ⟨k, rfl, hk, A2, n2, c2, rfl, HL2, hc2, HO2, hb2, HGO, HVO⟩ := hrel
    by_cases ht : k < s.size
    · have hi0 : (0 : Int) ≤ (k : Int) := by omega
      have hi1 : (k : Int) < (s.size : Int) := by omega
      have hlen : (s.data.toList.take k).length = k := by rw [List.length_take, Array.length_toList]; exact Nat.min_eq_left hk
      have hp := pn_len (n := s.size) (by omega)
      go_wp2_with (at_builtin; go_loud (refine wpList_append_u8h _ rfl (.tmp 17) (.tmp 21) 22 rfl base 5 Try.underlying22 info_b8 (.slice A2 n2 c2) (xs ++ pn s.size ++ s.data.toList.take k) rfl (by rw [HL2.out]; exact HO2.out.alloc _) (wr.heap.size + 1) (some ⟨wr.heap.size, 0, none⟩) 1 [s[k]] _ rfl rfl (Rb.one _ _ _) (by have := HL2.out; have := HL.out; simp only [List.length_append, List.length_singleton] at *; omega) (by have := hb2.size; simp; omega) ?_); intro A3 n3 c3 w3 hl3 hc3 hown3 hg3 hat3)
      go_roundw
      case rel => exact ⟨k + 1, by go_num, by omega, A3, n3, c3, rfl, by rw [← add_str s ht, ← List.append_assoc]; exact hl3, hc3, by rw [← add_str s ht, ← List.append_assoc]; exact hown3, put_done hb hb2 HO2.out hg3, Lib.hid (own_step HGO.out HVO.out hg3 hat3).1, Lib.hid (own_step HGO.out HVO.out hg3 hat3).2⟩
      case measure => simp [intOf]; omega
    · obtain rfl : k = s.size := by omega
      go_wp2_with fail
      go_ret
      refine ⟨A2, n2, c2, rfl, ?_, hc2, ?_, hb2, HGO.out, HVO.out⟩
      · rw [← HL2.out, List.take_of_length_le (by rw [Array.length_toList]; exact Nat.le_refl _)]
      · have := HO2.out
        rwa [List.take_of_length_le (by rw [Array.length_toList]; exact Nat.le_refl _)] at this
end Go.Proofs.Ytbogejpjnbdfcaa
