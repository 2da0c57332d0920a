/-
  The chapter's example: alive.
-/
import Derived.Test.YtaifigkbblncpaaGreatDoorText
import Derived.Test.YtaifigkbblncpaaGreatDoorMN
import Derived.Test.YtaifigkbblncpaaGreatDoorMS
namespace Go.Proofs.YtaifigkbblncpaaGreatDoor
open Go.RowKit
set_option maxRecDepth 100000

theorem nv_list {w : World} {L a : Nat} {v : Value} (h : Nv w L v a) {ys : List Nat} (hy : Cn ys) (hU : U ys = a) {n : Nat} (hn : ys.length = n) : ∃ A c, v = .slice A n c ∧ n ≤ c ∧ Ra w w.heap.size A ys := by
  obtain ⟨A, xs, n', c, rfl, hl, hc, hr, _, hcn, hu⟩ := h
  obtain rfl : xs = ys := U_inj hcn hy (by omega)
  obtain rfl : n = n' := by omega
  exact ⟨A, c, rfl, hc, hr⟩

theorem alive_txt : (⟨(Lib.decDigits 4294967296).toArray⟩ : ByteArray) = ⟨#[52, 50, 57, 52, 57, 54, 55, 50, 57, 54]⟩ := by
  have h : Lib.decDigits 4294967296 = [52, 50, 57, 52, 57, 54, 55, 50, 57, 54] := by
    rw [decDigits_step (by omega), decDigits_step (by omega), decDigits_step (by omega), decDigits_step (by omega), decDigits_step (by omega), decDigits_step (by omega), decDigits_step (by omega), decDigits_step (by omega), decDigits_step (by omega), Lib.decDigits_one (by omega)]
    rfl
  rw [h]

end Go.Proofs.YtaifigkbblncpaaGreatDoor
