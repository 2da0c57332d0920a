/-
  Numbers in digits of 32 bits: appendGroup.
-/
import Derived.Test.YtemalomcdiahiaaDoorNatI
namespace Go.Proofs.YtemalomcdiahiaaDoor
open Go.RowKit
set_option maxRecDepth 100000

/-- What has been multiplied so far: k digits; what is carried. -/
def GrpIn (xs zs : List Nat) (g n k cr : Nat) : Prop :=
  zs.length = n ∧ Dg zs ∧ (∀ j, k ≤ j → nth zs j = nth xs j) ∧ U (zs.take k) + 4294967296 ^ k * cr = g + 1000000000 * U (xs.take k) ∧ cr < 1000000000
theorem GrpIn.step {xs zs : List Nat} {g n k cr : Nat} (h : GrpIn xs zs g n k cr) (hk : k < n) (hx : nth xs k < 4294967296) :
    GrpIn xs (zs.set k ((cr + nth xs k * 1000000000) % 4294967296)) g n (k + 1) ((cr + nth xs k * 1000000000) / 4294967296) := by
  obtain ⟨hl, hd, hzz, hU, hc⟩ := h
  refine ⟨by simp [hl], hd.set (by omega), fun j hj => by rw [nth_set32 (by omega), if_neg (by omega)]; exact hzz j (by omega), ?_, by omega⟩
  rw [U_set_take (by omega), U_take_succ xs, Nat.pow_succ]
  have := Nat.div_add_mod (cr + nth xs k * 1000000000) 4294967296
  generalize (cr + nth xs k * 1000000000) / 4294967296 = q at *
  generalize (cr + nth xs k * 1000000000) % 4294967296 = r at *
  generalize 4294967296 ^ k = P at *
  have e2 : P * (4294967296 * q + r) = P * (cr + nth xs k * 1000000000) := by rw [this]
  grind
theorem GrpIn.done {xs zs : List Nat} {g n cr : Nat} (h : GrpIn xs zs g n n cr) (hx : xs.length = n) : U zs + 4294967296 ^ n * cr = 1000000000 * U xs + g := by
  obtain ⟨hl, hd, hz, hU, _⟩ := h
  rw [U_take_all zs _ (by omega), U_take_all xs _ (by omega)] at hU
  omega

end Go.Proofs.YtemalomcdiahiaaDoor
