/-
  The document's numbers, in digits: digit(a, i).
-/
import Derived.Test.YtnaofoahnjceiaaDoorProg
import Derived.Test.YtnaofoahnjceiaaDoorWords
import Derived.Outline
namespace Go.Proofs.YtnaofoahnjceiaaDoor
open Go.RowKit

set_option maxHeartbeats 400000 in
theorem digit_in (A : Option Addr) (xs : List Nat) (n c i : Nat) (w : World) (hl : xs.length = n) (hr : Rd w w.heap.size A xs) (hi : i < n) (hn : n ≤ 1000000) :
    Calls Tryd.prog 43 #[.agg #[.slice A n c], .int .i64 (i : Int)] w fun e w' => e = .returned (.int .i64 ((nth xs i : Nat) : Int)) ∧ Below w.heap.size w w' := by
  obtain ⟨b, o, rfl, hb, hci⟩ := hr.at_ (k := i) (by omega)
  clear hr hl
  go_enter Tryd.func43, Tryd.ntmps43
  go_wp2
  go_ret
  exact ⟨rfl, (Below.refl _ _).alloc (Nat.le_refl _) _⟩

set_option maxHeartbeats 400000 in
theorem digit_out (A : Option Addr) (xs : List Nat) (n c i : Nat) (w : World) (hl : xs.length = n) (hi : n ≤ i) :
    Calls Tryd.prog 43 #[.agg #[.slice A n c], .int .i64 (i : Int)] w fun e w' => e = .returned (.int .i64 0) ∧ Below w.heap.size w w' := by
  have hi' : ¬ i < n := by omega
  clear hl
  go_enter Tryd.func43, Tryd.ntmps43
  go_wp2
  go_ret
  exact ⟨rfl, (Below.refl _ _).alloc (Nat.le_refl _) _⟩

theorem digit_any (A : Option Addr) (xs : List Nat) (n c i : Nat) (w : World) (hl : xs.length = n) (hr : Rd w w.heap.size A xs) (hn : n ≤ 1000000) :
    Calls Tryd.prog 43 #[.agg #[.slice A n c], .int .i64 (i : Int)] w fun e w' => e = .returned (.int .i64 ((nth xs i : Nat) : Int)) ∧ Below w.heap.size w w' := by
  by_cases hi : i < n
  · exact digit_in A xs n c i w hl hr hi hn
  · refine (digit_out A xs n c i w hl (by omega)).mono fun e w' h => ?_
    rw [nth_out (by omega)]
    exact h
end Go.Proofs.YtnaofoahnjceiaaDoor
