/-
  A tree of sums: the tree in memory; the zero tree; how high a tree is.
-/
import Derived.Test.YtodbmpbhjbknlaaSrcC
import Derived.Test.YtodbmpbhjbknlaaSpanR
import Derived.Test.YtodbmpbhjbknlaaShelf
namespace Go.Proofs.Ytodbmpbhjbknlaa
open Go.RowKit
set_option maxRecDepth 100000

/-- A tree's zero value, as the type table has it: so many sums of 0, no places, no steps. -/
def isZero10 (kd : IntKind) (v : Value) : Bool :=
  match v with
  | .int k z => decide (k = kd) && decide (z = 0)
  | _ => false
theorem isZero10_is {kd : IntKind} {v : Value} (h : isZero10 kd v = true) : v = .int kd 0 := by
  cases v <;> simp_all [isZero10]
def zeroTree10 (o : Option TypeInfo) : Bool :=
  match o with
  | some i => i.size == 8194 && (match i.zero with
    | some (.agg cs) => cs.size == 8194 && ((cs.toList.take 8192).all (isZero10 .u64) && (cs.toList.drop 8192).all (isZero10 .i64))
    | _ => false)
  | none => false
theorem zeroTree10_ok : zeroTree10 (Try.prog.info? 50) = true := by decide +kernel
theorem zeroTree10_is {o : Option TypeInfo} (h : zeroTree10 o = true) : ∃ i cs, o = some i ∧ i.size = 8194 ∧ i.zero = some (.agg cs) ∧ cs.size = 8194 ∧ (∀ k, k < 8192 → cs[k]? = some (.int .u64 0)) ∧ cs[8192]? = some (.int .i64 0) ∧ cs[8193]? = some (.int .i64 0) := by
  cases o with
  | none => simp [zeroTree10] at h
  | some i =>
    simp only [zeroTree10, Bool.and_eq_true, beq_iff_eq] at h
    obtain ⟨h1, h2⟩ := h
    cases hz : i.zero with
    | none => simp [hz] at h2
    | some v =>
      cases v <;> simp only [hz, reduceCtorEq, Bool.false_eq_true] at h2
      case agg cs =>
        simp only [Bool.and_eq_true, beq_iff_eq] at h2
        obtain ⟨h3, h4, h5⟩ := h2
        have hd : ∀ j, j < 2 → cs[8192 + j]? = some (.int .i64 0) := fun j hj => by
          have hk2 : j < (cs.toList.drop 8192).length := by simp [h3]; omega
          have h6 := isZero10_is (List.all_eq_true.1 h5 _ (List.getElem_mem hk2))
          simp only [List.getElem_drop] at h6
          rw [Array.getElem?_eq_getElem (by omega)]
          simpa using h6
        refine ⟨i, cs, rfl, h1, hz, h3, fun k hk => ?_, hd 0 (by omega), hd 1 (by omega)⟩
        have hk2 : k < (cs.toList.take 8192).length := by simp [h3]; omega
        have h6 := isZero10_is (List.all_eq_true.1 h4 _ (List.getElem_mem hk2))
        simp only [List.getElem_take] at h6
        rw [Array.getElem?_eq_getElem (by omega)]
        simpa using h6

/-- Block g is a tree: its sums S, n places, s steps. -/
def Tr (w : World) (g n s : Nat) (S : Nat → Nat) : Prop :=
  ∃ cs : Array Value, Blk w g 50 cs ∧ cs.size = 8194 ∧ (∀ i, i < 8192 → cs[i]? = some (.int .u64 ((S i : Nat) : Int))) ∧ cs[8192]? = some (.int .i64 (n : Int)) ∧ cs[8193]? = some (.int .i64 (s : Int))
theorem Tr.lt {w : World} {g n s : Nat} {S : Nat → Nat} (h : Tr w g n s S) : g < w.heap.size := by
  obtain ⟨cs, h, _⟩ := h
  exact h.lt
theorem Tr.below {w w' : World} {g n s : Nat} {S : Nat → Nat} (h : Tr w g n s S) (hb : Below w.heap.size w w') : Tr w' g n s S := by
  obtain ⟨cs, h1, h2⟩ := h
  exact ⟨cs, h1.below hb h1.lt, h2⟩
theorem Tr.grown {w w' : World} {g n s : Nat} {S : Nat → Nat} {row : Option Nat} (h : Tr w g n s S) (hb : w.grownBy w' row) (hr : some g ≠ row) : Tr w' g n s S := by
  obtain ⟨cs, h1, h2⟩ := h
  exact ⟨cs, h1.grown hb hr, h2⟩
theorem Tr.quiet {w w' : World} {g n s : Nat} {S : Nat → Nat} (h : Tr w g n s S) (hb : w.grownBy w' none) : Tr w' g n s S := h.grown hb (by simp)
theorem Tr.sum {w : World} {g n s : Nat} {S : Nat → Nat} (h : Tr w g n s S) {i : Nat} (hi : i < 8192) : w.cell? ⟨g, i, none⟩ = some (.int .u64 ((S i : Nat) : Int)) := by
  obtain ⟨cs, h1, h2, h3, _⟩ := h
  rw [h1.cell]
  exact h3 i hi
theorem Tr.places {w : World} {g n s : Nat} {S : Nat → Nat} (h : Tr w g n s S) : w.cell? ⟨g, 8192, none⟩ = some (.int .i64 (n : Int)) := by
  obtain ⟨cs, h1, h2, h3, h4, _⟩ := h
  rw [h1.cell]
  exact h4
theorem Tr.steps {w : World} {g n s : Nat} {S : Nat → Nat} (h : Tr w g n s S) : w.cell? ⟨g, 8193, none⟩ = some (.int .i64 (s : Int)) := by
  obtain ⟨cs, h1, h2, h3, _, h4⟩ := h
  rw [h1.cell]
  exact h4
theorem Tr.frozen {w : World} {g n s : Nat} {S : Nat → Nat} (h : Tr w g n s S) (i : Nat) : w.frozen? ⟨g, i, none⟩ = false := by
  obtain ⟨cs, h1, _⟩ := h
  exact h1.frozen i
/-- One sum is another one. -/
def upd10 (S : Nat → Nat) (k v : Nat) : Nat → Nat := fun i => if i = k then v else S i
theorem upd10_self (S : Nat → Nat) (k v : Nat) : upd10 S k v k = v := by simp [upd10]
theorem upd10_other (S : Nat → Nat) {k i : Nat} (v : Nat) (h : i ≠ k) : upd10 S k v i = S i := by simp [upd10, h]
theorem Tr.put {w : World} {g n s : Nat} {S : Nat → Nat} (h : Tr w g n s S) {k : Nat} (hk : k < 8192) (v : Nat) : Tr (w.setCell ⟨g, k, none⟩ (.int .u64 ((v : Nat) : Int))) g n s (upd10 S k v) := by
  obtain ⟨cs, h1, h2, h3, h4, h5⟩ := h
  refine ⟨_, h1.set_ k _, by simp [h2], fun i hi => ?_, ?_, ?_⟩
  · by_cases e : i = k
    · subst e
      rw [Array.getElem?_setIfInBounds_self_of_lt (by omega), upd10_self]
    · rw [Array.getElem?_setIfInBounds_ne (by omega), h3 i hi, upd10_other S v e]
  · rw [Array.getElem?_setIfInBounds_ne (by omega), h4]
  · rw [Array.getElem?_setIfInBounds_ne (by omega), h5]
theorem Tr.setPlaces {w : World} {g n s : Nat} {S : Nat → Nat} (h : Tr w g n s S) (m : Nat) : Tr (w.setCell ⟨g, 8192, none⟩ (.int .i64 (m : Int))) g m s S := by
  obtain ⟨cs, h1, h2, h3, h4, h5⟩ := h
  refine ⟨_, h1.set_ 8192 _, by simp [h2], fun i hi => ?_, ?_, ?_⟩
  · rw [Array.getElem?_setIfInBounds_ne (by omega), h3 i hi]
  · rw [Array.getElem?_setIfInBounds_self_of_lt (by omega)]
  · rw [Array.getElem?_setIfInBounds_ne (by omega), h5]
theorem Tr.setSteps {w : World} {g n s : Nat} {S : Nat → Nat} (h : Tr w g n s S) (m : Nat) : Tr (w.setCell ⟨g, 8193, none⟩ (.int .i64 (m : Int))) g n m S := by
  obtain ⟨cs, h1, h2, h3, h4, h5⟩ := h
  refine ⟨_, h1.set_ 8193 _, by simp [h2], fun i hi => ?_, ?_, ?_⟩
  · rw [Array.getElem?_setIfInBounds_ne (by omega), h3 i hi]
  · rw [Array.getElem?_setIfInBounds_ne (by omega), h4]
  · rw [Array.getElem?_setIfInBounds_self_of_lt (by omega)]
theorem Tr.same {w : World} {g n s : Nat} {S S' : Nat → Nat} (h : Tr w g n s S) (e : ∀ i, i < 8192 → S i = S' i) : Tr w g n s S' := by
  obtain ⟨cs, h1, h2, h3, h4⟩ := h
  exact ⟨cs, h1, h2, fun i hi => by rw [h3 i hi, e i hi], h4⟩

/-- The zero tree, as a value, and the one of n places. -/
theorem build10 (n : Nat) : ∃ cs : Array Value, (∀ W, (zeroValue 50).run Try.prog W = .ok (.agg cs) W) ∧ cs.size = 8194 ∧ (∀ i, i < 8192 → (cs.setIfInBounds 8192 (.int .i64 (n : Int)))[i]? = some (.int .u64 0)) ∧
    (cs.setIfInBounds 8192 (.int .i64 (n : Int)))[8192]? = some (.int .i64 (n : Int)) ∧ (cs.setIfInBounds 8192 (.int .i64 (n : Int)))[8193]? = some (.int .i64 0) := by
  obtain ⟨i, cs, hi, hs, hz, hcs, h1, h2, h3⟩ := zeroTree10_is zeroTree10_ok
  refine ⟨cs, fun W => ?_, hcs, fun k hk => ?_, ?_, ?_⟩
  · simp [zeroValue, typeInfo, hi, hz]
  · rw [Array.getElem?_setIfInBounds_ne (by omega), h1 k hk]
  · rw [Array.getElem?_setIfInBounds_self_of_lt (by omega)]
  · rw [Array.getElem?_setIfInBounds_ne (by omega), h3]
end Go.Proofs.Ytodbmpbhjbknlaa
