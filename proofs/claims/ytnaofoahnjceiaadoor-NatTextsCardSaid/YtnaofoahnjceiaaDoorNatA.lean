/-
  Numbers in digits of 32 bits: what cuts noughts off, and what makes a number of a word.
-/
import Derived.Test.YtnaofoahnjceiaaDoorProg
import Derived.Test.YtnaofoahnjceiaaDoorNat
import Derived.Test.YtnaofoahnjceiaaDoorMem32
import Derived.Outline
import Derived.LoopTactic
import Derived.ProofKit
import Derived.IntWalk
namespace Go.Proofs.YtnaofoahnjceiaaDoor
open Go.RowKit

theorem info_u32 : (Tryd.prog.info? 60).map (fun i => (i.zero, i.size, i.bytes)) = some (some (.int .u32 0), 1, 4) := by kernel_rfl

/-- How long a slice is. -/
def lenV : Value → Nat
  | .slice _ n _ => n
  | _ => 0

set_option maxHeartbeats 400000 in
theorem shorten_any (A : Option Addr) (xs : List Nat) (n c : Nat) (w : World) (hl : xs.length = n) (hr : Ra w w.heap.size A xs) (hd : Dg xs) (hn : n ≤ 10000000) (hc : n ≤ c) :
    Calls Tryd.prog 36 #[.slice A n c] w fun e w' => ∃ m, m ≤ n ∧ e = .returned (.slice A m c) ∧ Cn (xs.take m) ∧ U (xs.take m) = U xs ∧ w = w' := by
  have HL := Lib.hid hl
  clear hl
  go_enter Tryd.func36, Tryd.ntmps36
  go_wp2
  go_loop [0] (fun v => ∃ m : Nat, m ≤ n ∧ v = .slice A m c ∧ ∀ j, m ≤ j → nth xs j = 0) lenV
  case atStart => exact ⟨n, Nat.le_refl _, rfl, fun j hj => nth_out (by have := HL.out; omega)⟩
  case round =>
    obtain ⟨m, hm, rfl, hz⟩ := hrel
    have HZ := Lib.hid hz
    clear hz
    by_cases hpos : 0 < m
    · obtain ⟨k, rfl⟩ : ∃ k, m = k + 1 := ⟨m - 1, by omega⟩
      obtain ⟨b, o, hA, hb, hcm⟩ := hr.at_ (k := k) (by have := HL.out; omega)
      subst hA
      by_cases h0 : nth xs k = 0
      · have h0' : (((nth xs k : Nat) : Int) == 0) = true := by simp [h0]
        have H0 := Lib.hid h0
        clear h0
        go_wp2
        go_round
        case rel =>
          refine ⟨k, by omega, rfl, fun j hj => ?_⟩
          rcases Nat.lt_or_ge k j with h | h
          · exact HZ.out j h
          · rw [show j = k by omega]; exact H0.out
        case measure => simp [lenV]
      · have h0' : (((nth xs k : Nat) : Int) == 0) = false := by simp [h0]
        have HC : Hid (Cn (xs.take (k + 1))) := Lib.hid (Cn.of_take hd (by have := HL.out; omega) (fun _ => by simpa using h0))
        clear h0
        go_wp2
        go_ret
        exact ⟨_, hm, rfl, HC.out, U_zeros xs _ HZ.out, rfl⟩
    · obtain rfl : m = 0 := by omega
      go_wp2
      go_ret
      exact ⟨_, hm, rfl, by simpa using Cn.nil, U_zeros xs _ HZ.out, rfl⟩

/-- How many digits there are without noughts at the end, of the first n. -/
def clTo (xs : List Nat) : Nat → Nat
  | 0 => 0
  | n + 1 => if nth xs n = 0 then clTo xs n else n + 1
def cl (xs : List Nat) : Nat := clTo xs xs.length
theorem clTo_spec (xs : List Nat) (n : Nat) : clTo xs n ≤ n ∧ (∀ j, clTo xs n ≤ j → j < n → nth xs j = 0) ∧ (0 < clTo xs n → nth xs (clTo xs n - 1) ≠ 0) := by
  induction n with
  | zero => exact ⟨Nat.le_refl _, fun j _ h => by omega, fun h => by simp [clTo] at h⟩
  | succ n ih =>
    unfold clTo
    split
    · next h => exact ⟨by omega, fun j h1 h2 => by
        rcases Nat.lt_or_ge j n with h3 | h3
        · exact ih.2.1 j h1 h3
        · rw [show j = n by omega]; exact h, ih.2.2⟩
    · next h => exact ⟨Nat.le_refl _, fun j h1 h2 => by omega, fun _ => by simpa using h⟩
theorem cl_le (xs : List Nat) : cl xs ≤ xs.length := (clTo_spec xs xs.length).1
theorem cl_can {xs : List Nat} (h : Dg xs) : Cn (xs.take (cl xs)) := Cn.of_take h (cl_le xs) (clTo_spec xs xs.length).2.2
theorem cl_U (xs : List Nat) : U (xs.take (cl xs)) = U xs := U_zeros xs _ fun j hj => by
  rcases Nat.lt_or_ge j xs.length with h | h
  · exact (clTo_spec xs xs.length).2.1 j hj h
  · exact nth_out h
theorem shorten_cl (A : Option Addr) (xs : List Nat) (n c : Nat) (w : World) (hl : xs.length = n) (hr : Ra w w.heap.size A xs) (hd : Dg xs) (hn : n ≤ 10000000) (hc : n ≤ c) :
    Calls Tryd.prog 36 #[.slice A n c] w fun e w' => e = .returned (.slice A (cl xs) c) ∧ w = w' := by
  refine (shorten_any A xs n c w hl hr hd hn hc).mono ?_
  rintro e w' ⟨m, hm, rfl, hcan, hU, rfl⟩
  have := U_inj hcan (cl_can hd) (hU.trans (cl_U xs).symm)
  have h2 := congrArg List.length this
  have h3 := cl_le xs
  simp at h2
  obtain rfl : m = cl xs := by omega
  exact ⟨rfl, rfl⟩
end Go.Proofs.YtnaofoahnjceiaaDoor
