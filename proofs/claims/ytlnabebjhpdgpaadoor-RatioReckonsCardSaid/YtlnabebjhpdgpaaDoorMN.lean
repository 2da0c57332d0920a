/-
  Numbers in digits of 32 bits: isDecimal.
  Numbers in digits of 32 bits: appendGroup.
  Numbers in digits of 32 bits: Parse.
-/
import Derived.Test.YtlnabebjhpdgpaaDoorMU
import Derived.Lib.ConvBytes
import Derived.Lib.AtoiErrMem
import Derived.Test.YtlnabebjhpdgpaaDoorShelf
import Derived.Lib.ParseIntB
namespace Go.Proofs.YtlnabebjhpdgpaaDoor
open Go.RowKit
set_option maxRecDepth 100000

def digB (b : UInt8) : Bool := 48 ≤ b.toNat && b.toNat ≤ 57
/-- Decimal digits without noughts ahead. -/
def isDecB (l : List UInt8) : Bool := !l.isEmpty && !((l.headD 0).toNat == 48 && l.length != 1) && l.all digB

theorem ba_eq {s : ByteArray} {l : List UInt8} (h : s.data.toList = l) : s = ⟨l.toArray⟩ := by cases s; simp at h; simp [← h]
theorem all_getD {l : List UInt8} : l.all digB = true ↔ ∀ j, j < l.length → digB (l.getD j 0) = true := by
  constructor
  · intro h j hj
    rw [List.all_eq_true] at h
    rw [List.getD_eq_getElem?_getD, List.getElem?_eq_getElem hj]
    exact h _ (List.getElem_mem hj)
  · intro h
    rw [List.all_eq_true]
    intro x hx
    obtain ⟨j, hj, rfl⟩ := List.getElem_of_mem hx
    have := h j hj
    rwa [List.getD_eq_getElem?_getD, List.getElem?_eq_getElem hj] at this

theorem not_all {l : List UInt8} {n k : Nat} (hl : l.length = n) (hk : k < n) (h : digB (l.getD k 0) = false) : l.all digB = false := by
  cases ha : l.all digB with
  | false => rfl
  | true => rw [all_getD.1 ha k (by omega)] at h; cases h
end Go.Proofs.YtlnabebjhpdgpaaDoor

namespace Go.Proofs.YtlnabebjhpdgpaaDoor
open Go.RowKit
set_option maxRecDepth 100000

/-- What has been multiplied so far: k digits; what is carried. -/
def GrpIn (xs zs : List Nat) (g n k cr : Nat) : Prop :=
  zs.length = n ∧ Dg zs ∧ (∀ j, k ≤ j → nth zs j = nth xs j) ∧ U (zs.take k) + 4294967296 ^ k * cr = g + 1000000000 * U (xs.take k) ∧ cr < 1000000000
theorem GrpIn.step {xs zs : List Nat} {g n k cr : Nat} (h : GrpIn xs zs g n k cr) (hk : k < n) (hx : nth xs k < 4294967296) :
    GrpIn xs (zs.set k ((cr + nth xs k * 1000000000) % 4294967296)) g n (k + 1) ((cr + nth xs k * 1000000000) / 4294967296) := by
  obtain ⟨hl, hd, hzz, hU, hc⟩ := h
  refine ⟨by simp [hl], hd.set (by omega), fun j hj => by rw [nth_set32 (by omega), if_neg (by omega)]; exact hzz j (by omega), ?_, by omega⟩
  rw [U_set_take (by omega), U_take_succ xs, Nat.pow_succ]
  have := Nat.div_add_mod (cr + nth xs k * 1000000000) 4294967296
  generalize (cr + nth xs k * 1000000000) / 4294967296 = q at *
  generalize (cr + nth xs k * 1000000000) % 4294967296 = r at *
  generalize 4294967296 ^ k = P at *
  have e2 : P * (4294967296 * q + r) = P * (cr + nth xs k * 1000000000) := by rw [this]
  grind
theorem GrpIn.done {xs zs : List Nat} {g n cr : Nat} (h : GrpIn xs zs g n n cr) (hx : xs.length = n) : U zs + 4294967296 ^ n * cr = 1000000000 * U xs + g := by
  obtain ⟨hl, hd, hz, hU, _⟩ := h
  rw [U_take_all zs _ (by omega), U_take_all xs _ (by omega)] at hU
  omega

end Go.Proofs.YtlnabebjhpdgpaaDoor

namespace Go.Proofs.YtlnabebjhpdgpaaDoor
open Go.RowKit
set_option maxRecDepth 100000

/-- What a row of decimal digits spells, behind the number acc. -/
def DV (acc : Nat) (l : List UInt8) : Nat := l.foldl (fun v c => v * 10 + (c.toNat - 48)) acc
theorem DV_nil (acc : Nat) : DV acc [] = acc := rfl
theorem DV_cons (acc : Nat) (c : UInt8) (r : List UInt8) : DV acc (c :: r) = DV (acc * 10 + (c.toNat - 48)) r := by unfold DV; exact List.foldl_cons ..
/-- A string's length. -/
def strLen : Value → Nat
  | .string t => t.size
  | _ => 0
theorem DV_acc (acc : Nat) (l : List UInt8) : DV acc l = acc * 10 ^ l.length + DV 0 l := by
  induction l generalizing acc with
  | nil => simp [DV_nil]
  | cons c r ih =>
    rw [DV_cons, ih, DV_cons, ih (0 * 10 + (c.toNat - 48)), List.length_cons, Nat.pow_succ]
    grind
theorem DV_app (acc : Nat) (l r : List UInt8) : DV acc (l ++ r) = DV (DV acc l) r := by
  induction l generalizing acc with
  | nil => rfl
  | cons c l ih => exact ih _
theorem DV_lt (l : List UInt8) (h : l.all digB = true) : DV 0 l < 10 ^ l.length := by
  induction l with
  | nil => simp [DV_nil]
  | cons c r ih =>
    simp only [List.all_cons, Bool.and_eq_true] at h
    have h1 := ih h.2
    have h2 : c.toNat ≤ 57 := by have := h.1; simp [digB] at this; exact this.2
    rw [DV_cons, DV_acc, List.length_cons, Nat.pow_succ]
    have h3 : (0 * 10 + (c.toNat - 48)) * 10 ^ r.length ≤ 9 * 10 ^ r.length := Nat.mul_le_mul_right _ (by omega)
    omega
theorem parse_digits (l : List UInt8) (acc k : Nat) (h : l.all digB = true) (hl : l.length + k ≤ 9) (ha : acc < 10 ^ k) : Lib.parseUintM 4294967295 acc l = .ok (DV acc l) := by
  induction l generalizing acc k with
  | nil => rfl
  | cons c r ih =>
    simp only [List.all_cons, Bool.and_eq_true] at h
    simp only [List.length_cons] at hl
    have h2 : 48 ≤ c.toNat ∧ c.toNat ≤ 57 := by have := h.1; simpa [digB] using this
    have h4 : (10 : Nat) ^ k ≤ 10 ^ 8 := Nat.pow_le_pow_right (by omega) (by omega)
    have h5 : (10 : Nat) ^ 8 = 100000000 := by decide
    rw [Lib.parseUintM, if_pos h2, if_neg (by omega), if_neg (by omega), DV_cons]
    exact ih _ (k + 1) h.2 (by omega) (by rw [Nat.pow_succ]; omega)
theorem parse_group (l : List UInt8) (h : l.all digB = true) (hl : l.length ≤ 9) (hp : 0 < l.length) : Lib.parseUintB 32 l = .ok (DV 0 l) := by
  unfold Lib.parseUintB
  rw [if_neg (by rintro rfl; simp at hp)]
  exact parse_digits l 0 0 h (by omega) (by decide)
theorem all_take {l : List UInt8} (h : l.all digB = true) (k : Nat) : (l.take k).all digB = true := List.all_eq_true.2 fun x hx => List.all_eq_true.1 h x (List.mem_of_mem_take hx)
theorem all_drop {l : List UInt8} (h : l.all digB = true) (k : Nat) : (l.drop k).all digB = true := List.all_eq_true.2 fun x hx => List.all_eq_true.1 h x (List.mem_of_mem_drop hx)
theorem Cn.len_le {zs : List Nat} {p : Nat} (h : Cn zs) (hU : U zs < 10 ^ p) : zs.length ≤ p := by
  rcases Nat.eq_zero_or_pos zs.length with h0 | h0
  · omega
  · have h1 := U_ge h (by rintro rfl; simp at h0)
    have h2 : (10 : Nat) ^ p ≤ 4294967296 ^ p := Nat.pow_le_pow_left (by omega) _
    have h3 : (4294967296 : Nat) ^ (zs.length - 1) < 4294967296 ^ p := by omega
    have h4 := (Nat.pow_lt_pow_iff_right (a := 4294967296) (by omega)).1 h3
    omega
theorem ext_list (t : ByteArray) (a b : Nat) : (t.extract a b).data.toList = (t.data.toList.drop a).take (b - a) := by
  simp only [ByteArray.data_extract, Array.toList_extract, List.extract_eq_take_drop]
theorem ba_len (t : ByteArray) : t.data.toList.length = t.size := Array.length_toList

/-- What Parse answers to digits. -/
def Parsed (w : World) (a : Nat) (e : Ending) (w' : World) : Prop :=
  ∃ A n c zs, e = .returned (.tuple #[.slice A n c, .int .i64 0]) ∧ Ow w' w.heap.size (.slice A n c) n zs ∧ n ≤ c ∧ n ≤ 5000 ∧ Cn zs ∧ U zs = a ∧ Below w.heap.size w w'

end Go.Proofs.YtlnabebjhpdgpaaDoor
