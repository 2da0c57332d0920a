/-
  Slots: the document's own answers: the lowest one that is free, all that are taken, the same numbers.
-/
import Derived.Test.YtojdgcalpdbifaaSlotG
namespace Go.Proofs.Ytojdgcalpdbifaa
open Go.RowKit
set_option maxRecDepth 100000

/-- The document's list: is place i taken? -/
def bls (T : Nat → Bool) (n : Nat) : List Value := (List.range n).map fun i => .bool (T i)
theorem bls_len (T : Nat → Bool) (n : Nat) : (bls T n).length = n := by simp [bls]
theorem bls_get (T : Nat → Bool) {n i : Nat} (h : i < n) : (bls T n)[i]? = some (.bool (T i)) := by simp [bls, h]
theorem bls_one (T : Nat → Bool) (n : Nat) : ∀ u ∈ bls T n, u.oneCell' = true := by
  intro u hu
  simp only [bls, List.mem_map] at hu
  obtain ⟨i, _, rfl⟩ := hu
  rfl
theorem bls_set (T : Nat → Bool) (n k : Nat) (b : Bool) : (bls T n).set k (.bool b) = bls (turn11 T k b) n := by
  apply List.ext_getElem?
  intro i
  rw [List.getElem?_set]
  rcases Nat.lt_or_ge i n with h | h
  · rw [bls_get _ h, bls_get _ h, bls_len]
    unfold turn11
    by_cases e : k = i
    · subst e
      simp [h]
    · have e2 : ¬ i = k := fun x => e x.symm
      simp [e, e2]
  · have h2 : (bls T n)[i]? = none := List.getElem?_eq_none (by rw [bls_len]; exact h)
    have h3 : (bls (turn11 T k b) n)[i]? = none := List.getElem?_eq_none (by rw [bls_len]; exact h)
    rw [h2, h3, bls_len]
    by_cases e : k = i
    · subst e
      have : ¬ k < n := by omega
      simp [this]
    · simp [e]
theorem Rd.rv11 {w : World} {B : Nat} {A : Option Addr} {xs : List Nat} (h : Rd w B A xs) : Rv w B A (ints xs) := by
  intro hx
  obtain ⟨b, o, h1, h2, h3⟩ := h (by rintro rfl; exact hx rfl)
  refine ⟨b, o, h1, h2, fun k v hk => ?_⟩
  have hk2 : k < xs.length := by
    have := (List.getElem?_eq_some_iff.1 hk).1
    rw [ints_length] at this
    exact this
  rw [ints_get hk2] at hk
  injection hk with hk
  rw [← hk]
  exact h3 k hk2
theorem bls_at {T : Nat → Bool} {n : Nat} {w : World} {B : Nat} {A : Option Addr} (h : Rv w B A (bls T n)) {i : Nat} (hi : i < n) : ∃ b o, A = some ⟨b, o, none⟩ ∧ b < B ∧ w.cell? ⟨b, o + i, none⟩ = some (.bool (T i)) := h.at_ (bls_get T hi)

theorem all11_next (T : Nat → Bool) (i : Nat) : all11 T (i + 1) = all11 T i ++ if T i then [i] else [] := by
  unfold all11
  rw [List.range_succ, List.filter_append]
  congr 1
  cases h : T i <;> simp [h]

set_option maxHeartbeats 2000000 in
theorem rall11_any {T : Nat → Bool} {n c : Nat} {A : Option Addr} (w : World) (h : Rv w w.heap.size A (bls T n)) (hn : n ≤ 4096) :
    Calls Try.prog 13 #[.slice A n c] w (RetI w (all11 T n)) := by
  have HR := Lib.hid h
  have HP : Hid (RetI w (all11 T n) = fun e w' => ∃ A c, e = .returned (.slice A (all11 T n).length c) ∧ w'.ownsRow w.heap.size 3 1 (.slice A (all11 T n).length c) (all11 T n).length (ints (all11 T n)) ∧ Below w.heap.size w w') := Lib.hid rfl
  clear h
  go_enter Try.func13, Try.ntmps13
  go_wp2_with fail
  go_loopw [3, 4] (fun ov iv wr => ∃ (i m c2 : Nat) (A2 : Option Addr), iv = .int .i64 (i : Int) ∧ i ≤ n ∧ ov = .slice A2 m c2 ∧ m ≤ 4096 ∧ Hid ((all11 T i).length = m) ∧ Hid (wr.ownsRow w.heap.size 3 1 (.slice A2 m c2) m (ints (all11 T i))) ∧ Hid (Below w.heap.size w wr)) (fun _ iv _ => n - (intOf iv).toNat)
  case atStart => exact ⟨0, 0, 0, none, rfl, by omega, rfl, by omega, Lib.hid rfl, Lib.hid (World.ownsRow_nil _ _ _ _), Lib.hid (Below.refl _ _)⟩
  case round =>
    obtain ⟨i, m, c2, A2, rfl, hi, rfl, hm, HL, HO, HB⟩ := hrel
    by_cases hin : i < n
    · obtain ⟨a, o, hA, _, ca⟩ := bls_at (HR.out.below HB.out (Nat.le_refl _)) hin
      subst hA
      have i0 : (0 : Int) ≤ (i : Int) := by omega
      have i1 : (i : Int) < (n : Int) := by omega
      have hnx := all11_next T i
      have hlen := all11_len T (i + 1)
      cases ht : T i with
      | false =>
        rw [ht] at ca hnx
        have HN : Hid (all11 T (i + 1) = all11 T i) := Lib.hid (by rw [hnx]; simp)
        clear hnx hlen ht
        go_wp2_with fail
        go_roundw
        case rel => exact ⟨i + 1, m, c2, A2, by go_num, by omega, rfl, hm, by rw [HN.out]; exact HL, by rw [HN.out]; exact HO, HB⟩
        case measure => simp [intOf]; omega
      | true =>
        rw [ht] at ca hnx
        have HN : Hid (all11 T (i + 1) = all11 T i ++ [i]) := Lib.hid (by rw [hnx]; simp)
        have hm2 : m + 1 ≤ 4096 := by
          rw [HN.out, List.length_append, HL.out] at hlen
          simp at hlen
          omega
        have HBS := HB.out.size
        clear hnx hlen ht
        go_wp2_with (at_builtin; go_loud (refine wpList_append_rv _ rfl (.tmp 15) (.tmp 17) 29 rfl w.heap.size 3 (.int .i64 0) 8 Try.underlying29 info_int11 rfl (by omega) (.slice A2 m c2) m (ints (all11 T i)) rfl (own7_keep HO.out (b1' _ _)) (wr.heap.size + 1) (some ⟨wr.heap.size, 0, none⟩) 1 (ints [i]) _ rfl rfl (Rd.rv11 (Rd.one wr i 3)) (ints_one [i]) (by omega) (by simp; omega) ?_); intro A' c' w3 hc3 hown3 hg3 hbl3)
        have HB3 : Hid (Below w.heap.size w w3) := Lib.hid ((HB.out.trans ((b1' wr _).mono HBS)).grown hg3 (by simp; omega) (fun r hr => (World.ownsRow.lt (own7_keep HO.out (b1' wr (.cells #[.int .i64 (i : Int)] 3))) r hr).1))
        have HO3 : Hid (w3.ownsRow w.heap.size 3 1 (.slice A' (m + 1) c') (m + 1) (ints (all11 T (i + 1)))) := Lib.hid (by rw [HN.out, ints_append]; exact hown3.out)
        have HL3 : Hid ((all11 T (i + 1)).length = m + 1) := Lib.hid (by rw [HN.out, List.length_append, HL.out]; rfl)
        clear hown3 hg3 hbl3
        go_wp2_with fail
        go_roundw
        case rel => exact ⟨i + 1, m + 1, c', A', by go_num, by omega, rfl, hm2, HL3, HO3, HB3⟩
        case measure => simp [intOf]; omega
    · obtain rfl : i = n := by omega
      have i1 : ¬ (i : Int) < (i : Int) := by omega
      go_wp2_with fail
      go_ret
      rw [HP.out]
      exact ⟨A2, c2, by rw [HL.out]; rfl, by rw [HL.out]; exact HO.out, HB.out⟩

set_option maxHeartbeats 1000000 in
theorem rints11_yes (A B : Option Addr) (xs : List Nat) (n c d : Nat) (w : World) (hl : xs.length = n) (hr : Rd w w.heap.size A xs) (hs : Rd w w.heap.size B xs) (hn : n ≤ 1000000) :
    Calls Try.prog 11 #[.slice A n c, .slice B n d] w fun en w' => en = .returned (.bool true) ∧ w.grownBy w' none := by
  have HL := Lib.hid hl
  have HR := Lib.hid hr
  have HS := Lib.hid hs
  clear hl hr hs
  go_enter Try.func11, Try.ntmps11
  go_wp2_with fail
  go_loopw [5] (fun i wr => ∃ k : Nat, i = .int .i64 (k : Int) ∧ k ≤ n ∧ Hid (w.grownBy wr none)) (fun i _ => n - (intOf i).toNat)
  case atStart => exact ⟨0, rfl, by omega, Lib.hid (World.grownBy.refl _ _)⟩
  case round =>
    obtain ⟨k, rfl, hk, HG⟩ := hrel
    by_cases ht : k < n
    · obtain ⟨a, o, hA, _, ca⟩ := Rd.at_ (Rd.below HR.out (grown7_below HG.out) (Nat.le_refl _)) (show k < xs.length by have := HL.out; omega)
      obtain ⟨b, q, hB, _, cb⟩ := Rd.at_ (Rd.below HS.out (grown7_below HG.out) (Nat.le_refl _)) (show k < xs.length by have := HL.out; omega)
      subst hA
      subst hB
      obtain ⟨x, hx⟩ : ∃ x, nth xs k = x := ⟨_, rfl⟩
      rw [hx] at ca cb
      have hself : ((x : Int) != (x : Int)) = false := by simp
      have hi0 : (0 : Int) ≤ (k : Int) := by omega
      have hi1 : (k : Int) < (n : Int) := by omega
      clear hx
      go_wp2_with fail
      go_region
      go_wp2_with fail
      go_roundw
      case rel => exact ⟨k + 1, by go_num, by omega, Lib.hid (HG.out.trans (grown7_drew _ _))⟩
      case measure => simp [intOf]; omega
    · go_wp2_with fail
      go_ret
      exact ⟨rfl, HG.out⟩
end Go.Proofs.Ytojdgcalpdbifaa
