/-
  Slots: New, Free, Has, Take, Give.
-/
import Derived.Test.YtojdgcalpdbifaaSlotB
namespace Go.Proofs.Ytojdgcalpdbifaa
open Go.RowKit
set_option maxRecDepth 100000

/-- The zero value, as the type table has it: 64 rows of 0, no places. -/
def isZero11 (kd : IntKind) (v : Value) : Bool :=
  match v with
  | .int k z => decide (k = kd) && decide (z = 0)
  | _ => false
theorem isZero11_is {kd : IntKind} {v : Value} (h : isZero11 kd v = true) : v = .int kd 0 := by
  cases v <;> simp_all [isZero11]
def zeroSlots11 (o : Option TypeInfo) : Bool :=
  match o with
  | some i => i.size == 65 && (match i.zero with
    | some (.agg cs) => cs.size == 65 && ((cs.toList.take 64).all (isZero11 .u64) && (cs.toList.drop 64).all (isZero11 .i64))
    | _ => false)
  | none => false
theorem zeroSlots11_is {o : Option TypeInfo} (h : zeroSlots11 o = true) : ∃ i cs, o = some i ∧ i.size = 65 ∧ i.zero = some (.agg cs) ∧ cs.size = 65 ∧ (∀ k, k < 64 → cs[k]? = some (.int .u64 0)) := by
  cases o with
  | none => simp [zeroSlots11] at h
  | some i =>
    simp only [zeroSlots11, Bool.and_eq_true, beq_iff_eq] at h
    obtain ⟨h1, h2⟩ := h
    cases hz : i.zero with
    | none => simp [hz] at h2
    | some v =>
      cases v <;> simp only [hz, reduceCtorEq, Bool.false_eq_true] at h2
      case agg cs =>
        simp only [Bool.and_eq_true, beq_iff_eq] at h2
        obtain ⟨h3, h4, h5⟩ := h2
        refine ⟨i, cs, rfl, h1, hz, h3, fun k hk => ?_⟩
        have hk2 : k < (cs.toList.take 64).length := by simp [h3]; omega
        have h6 := isZero11_is (List.all_eq_true.1 h4 _ (List.getElem_mem hk2))
        simp only [List.getElem_take] at h6
        rw [Array.getElem?_eq_getElem (by omega)]
        simpa using h6
theorem good11_zero {n : Nat} (h1 : 1 ≤ n) (h2 : n ≤ 4096) : Good11 (fun _ => 0) n (fun _ => false) := ⟨h1, h2, fun _ => by decide, fun r k _ _ => by simp, fun i h => by cases h⟩

end Go.Proofs.Ytojdgcalpdbifaa
