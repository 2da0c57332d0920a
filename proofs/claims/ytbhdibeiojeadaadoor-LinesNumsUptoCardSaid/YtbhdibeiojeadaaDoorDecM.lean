/-
  Decimal digits of a text.
-/
import Derived.Test.YtbhdibeiojeadaaDoorMA
namespace Go.Proofs.YtbhdibeiojeadaaDoor
open Go.RowKit
set_option maxRecDepth 100000

def digB (b : UInt8) : Bool := 48 ≤ b.toNat && b.toNat ≤ 57
/-- Decimal digits without noughts ahead. -/
def isDecB (l : List UInt8) : Bool := !l.isEmpty && !((l.headD 0).toNat == 48 && l.length != 1) && l.all digB
theorem ba_eq {s : ByteArray} {l : List UInt8} (h : s.data.toList = l) : s = ⟨l.toArray⟩ := by cases s; simp at h; simp [← h]
theorem all_getD {l : List UInt8} : l.all digB = true ↔ ∀ j, j < l.length → digB (l.getD j 0) = true := by
  constructor
  · intro h j hj
    rw [List.all_eq_true] at h
    rw [List.getD_eq_getElem?_getD, List.getElem?_eq_getElem hj]
    exact h _ (List.getElem_mem hj)
  · intro h
    rw [List.all_eq_true]
    intro x hx
    obtain ⟨j, hj, rfl⟩ := List.getElem_of_mem hx
    have := h j hj
    rwa [List.getD_eq_getElem?_getD, List.getElem?_eq_getElem hj] at this
theorem not_all {l : List UInt8} {n k : Nat} (hl : l.length = n) (hk : k < n) (h : digB (l.getD k 0) = false) : l.all digB = false := by
  cases ha : l.all digB with
  | false => rfl
  | true => rw [all_getD.1 ha k (by omega)] at h; cases h
/-- What a row of decimal digits spells, behind the number acc. -/
def DV (acc : Nat) (l : List UInt8) : Nat := l.foldl (fun v c => v * 10 + (c.toNat - 48)) acc
theorem DV_nil (acc : Nat) : DV acc [] = acc := rfl
theorem DV_cons (acc : Nat) (c : UInt8) (r : List UInt8) : DV acc (c :: r) = DV (acc * 10 + (c.toNat - 48)) r := by unfold DV; exact List.foldl_cons ..
theorem DV_acc (acc : Nat) (l : List UInt8) : DV acc l = acc * 10 ^ l.length + DV 0 l := by
  induction l generalizing acc with
  | nil => simp [DV_nil]
  | cons c r ih =>
    rw [DV_cons, ih, DV_cons, ih (0 * 10 + (c.toNat - 48)), List.length_cons, Nat.pow_succ]
    grind
theorem DV_app (acc : Nat) (l r : List UInt8) : DV acc (l ++ r) = DV (DV acc l) r := by
  induction l generalizing acc with
  | nil => rfl
  | cons c l ih => exact ih _
theorem DV_lt (l : List UInt8) (h : l.all digB = true) : DV 0 l < 10 ^ l.length := by
  induction l with
  | nil => simp [DV_nil]
  | cons c r ih =>
    simp only [List.all_cons, Bool.and_eq_true] at h
    have h1 := ih h.2
    have h2 : c.toNat ≤ 57 := by have := h.1; simp [digB] at this; exact this.2
    rw [DV_cons, DV_acc, List.length_cons, Nat.pow_succ]
    have h3 : (0 * 10 + (c.toNat - 48)) * 10 ^ r.length ≤ 9 * 10 ^ r.length := Nat.mul_le_mul_right _ (by omega)
    omega
theorem all_take {l : List UInt8} (h : l.all digB = true) (k : Nat) : (l.take k).all digB = true := List.all_eq_true.2 fun x hx => List.all_eq_true.1 h x (List.mem_of_mem_take hx)
theorem all_drop {l : List UInt8} (h : l.all digB = true) (k : Nat) : (l.drop k).all digB = true := List.all_eq_true.2 fun x hx => List.all_eq_true.1 h x (List.mem_of_mem_drop hx)
theorem ext_list (t : ByteArray) (a b : Nat) : (t.extract a b).data.toList = (t.data.toList.drop a).take (b - a) := by
  simp only [ByteArray.data_extract, Array.toList_extract, List.extract_eq_take_drop]
theorem ba_len (t : ByteArray) : t.data.toList.length = t.size := Array.length_toList
theorem DV_take_succ {l : List UInt8} {k : Nat} (hk : k < l.length) : DV 0 (l.take (k + 1)) = DV 0 (l.take k) * 10 + ((l.getD k 0).toNat - 48) := by
  have h : l.take (k + 1) = l.take k ++ [l.getD k 0] := by
    rw [List.getD_eq_getElem?_getD, List.getElem?_eq_getElem hk, Option.getD_some, ← List.take_append_getElem hk]
  rw [h, DV_app, DV_cons, DV_nil]
theorem head_at : ∀ (l : List UInt8) (h : 0 < l.length), l[0] = l.headD 0
  | [], h => absurd h (by simp)
  | _ :: _, _ => rfl
theorem isDec_not {l : List UInt8} (h : l.all digB = false) : isDecB l = false := by unfold isDecB; rw [h, Bool.and_false]
theorem isDec_split {l : List UInt8} {n : Nat} (hl : l.length = n) (hp : 0 < n) (h : l.all digB = true) : isDecB l = decide (¬ ((l.headD 0).toNat = 48 ∧ 1 < n)) := by
  unfold isDecB
  rw [h, Bool.and_true]
  rcases l with _ | ⟨a, r⟩
  · simp at hl; omega
  · have h1 : (r.length + 1 != 1) = decide (1 < n) := by
      simp only [List.length_cons] at hl
      subst hl
      rcases r with _ | ⟨b, r⟩ <;> simp
    simp only [List.isEmpty_cons, Bool.not_false, Bool.true_and, List.length_cons, List.headD_cons, h1]
    by_cases h2 : a.toNat = 48 <;> by_cases h3 : 1 < n <;> simp [h2, h3]
end Go.Proofs.YtbhdibeiojeadaaDoor
