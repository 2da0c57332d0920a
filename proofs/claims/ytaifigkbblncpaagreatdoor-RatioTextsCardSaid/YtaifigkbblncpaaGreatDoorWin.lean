/-
  A window of a block of uint32: what a function that writes into a slice leaves.
-/
import Derived.Test.YtaifigkbblncpaaGreatDoorNatC
import Derived.Lib.BufferOwn
import Derived.RangeFuncKeeps
namespace Go.Proofs.YtaifigkbblncpaaGreatDoor
open Go.RowKit
set_option maxRecDepth 100000

/-- Block g holds L, then the digits xs, then R; nothing is frozen. -/
def Win (w : World) (g : Nat) (t : TypeId) (L : List Value) (xs : List Nat) (R : List Value) : Prop := Blk w g t (L ++ u32s xs ++ R).toArray
theorem Win.lt {w : World} {g : Nat} {t : TypeId} {L R : List Value} {xs : List Nat} (h : Win w g t L xs R) : g < w.heap.size := Blk.lt h
theorem Win.cell {w : World} {g : Nat} {t : TypeId} {L R : List Value} {xs : List Nat} (h : Win w g t L xs R) {o : Nat} (ho : L.length = o) {k : Nat} (hk : k < xs.length) :
    w.cell? ⟨g, o + k, none⟩ = some (.int .u32 ((nth xs k : Nat) : Int)) := by
  rw [Blk.cell h]
  have e := u32s_get hk
  have hl := u32s_length xs
  simp only [List.getElem?_toArray, List.append_assoc]
  rw [List.getElem?_append_right (by omega), List.getElem?_append_left (by omega), show o + k - L.length = k by omega, e]
theorem Win.frozen {w : World} {g : Nat} {t : TypeId} {L R : List Value} {xs : List Nat} (h : Win w g t L xs R) (i : Nat) : w.frozen? ⟨g, i, none⟩ = false := Blk.frozen h i
theorem Win.set {w : World} {g : Nat} {t : TypeId} {L R : List Value} {xs : List Nat} (h : Win w g t L xs R) {o : Nat} (ho : L.length = o) {k : Nat} (hk : k < xs.length) (d : Nat) :
    Win (w.setCell ⟨g, o + k, none⟩ (.int .u32 (d : Int))) g t L (xs.set k d) R := by
  have := Blk.set_ h (o + k) (.int .u32 (d : Int))
  have e : (L ++ u32s xs ++ R).toArray.setIfInBounds (o + k) (.int .u32 (d : Int)) = (L ++ u32s (xs.set k d) ++ R).toArray := by
    have hl := u32s_length xs
    simp only [List.setIfInBounds_toArray, List.append_assoc]
    rw [List.set_append_right _ _ (by omega), List.set_append_left _ _ (by omega), show o + k - L.length = k by omega]
    simp [u32s, List.map_set]
  rw [e] at this
  exact this
theorem Win.put {w : World} {g : Nat} {t : TypeId} {L R : List Value} {xs : List Nat} (h : Win w g t L xs R) {o : Nat} (ho : L.length = o) {k : Nat} (hk : k < xs.length) {d : Nat} {u : Int} (hu : u = (d : Int)) :
    Win (w.setCell ⟨g, o + k, none⟩ (.int .u32 u)) g t L (xs.set k d) R := hu ▸ h.set ho hk d
theorem Win.below {w w' : World} {g B : Nat} {t : TypeId} {L R : List Value} {xs : List Nat} (h : Win w g t L xs R) (hb : Below B w w') (hg : g < B) : Win w' g t L xs R := Blk.below h hb hg
theorem Win.reads {w : World} {g : Nat} {t : TypeId} {L R : List Value} {xs : List Nat} (h : Win w g t L xs R) {o : Nat} (ho : L.length = o) : Ra w w.heap.size (some ⟨g, o, none⟩) xs :=
  fun _ => ⟨g, o, rfl, h.lt, fun _ hk => h.cell ho hk⟩

theorem Win.far_ {w : World} {g : Nat} {t : TypeId} {L R : List Value} {xs : List Nat} (h : Win w g t L xs R) {p : Addr} (hp : g ≠ p.block) (u : Value) : Win (w.setCell p u) g t L xs R := Blk.far h hp u

/-- From the call's own slice to a window, and back. -/
theorem Ow.win {w : World} {B n c g : Nat} {xs : List Nat} (h : Ow w B (.slice (some ⟨g, 0, none⟩) n c) n xs) : ∃ R, Win w g 53 [] xs R ∧ B ≤ g ∧ n + R.length = c ∧ c ≤ maxLen := by
  have hl := h.len
  rcases h.2 with ⟨h2, _⟩ | ⟨g', cap, cur, hv, hg, hh, hn, hc, hsz, ht⟩
  · injection h2 with h2; cases h2
  · injection hv with h4 h5 h6
    injection h4 with h4
    injection h4 with h4
    subst h4 h6
    refine ⟨cur.toList.drop n, ?_, hg, by simp; omega, hc⟩
    unfold Win Blk
    rw [List.nil_append, ← ht, Nat.mul_one, List.take_append_drop]
    simpa using hh
theorem Ow.of_win {w : World} {B n c g : Nat} {xs : List Nat} {R : List Value} (h : Win w g 53 [] xs R) (hl : xs.length = n) (hB : B ≤ g) (hc : n + R.length = c) (hm : c ≤ maxLen) : Ow w B (.slice (some ⟨g, 0, none⟩) n c) n xs := by
  have hlu := u32s_length xs
  refine ⟨by rw [hlu]; omega, .inr ⟨g, c, _, rfl, hB, h, by omega, hm, by simp; omega, ?_⟩⟩
  simp only [List.nil_append]
  rw [List.take_append_of_le_length (by omega), List.take_of_length_le (by omega)]

/-- Where a function has written into block g alone. -/
theorem wrote_below {w w' : World} {g B : Nat} (h : w.grownBy w' (some g)) (hB : B ≤ g) (hg : g < w.heap.size) : Below B w w' := (Below.refl B w).grown h (by omega) (fun k e => by cases e; exact hB)
theorem wrote_ra {w w' : World} {g : Nat} (h : w.grownBy w' (some g)) {A : Option Addr} {xs : List Nat} (hr : Ra w g A xs) (hg : g < w.heap.size) : Ra w' g A xs :=
  hr.keep fun p hp => World.cell?_of_block (h.block p.block (by omega) (by intro e; injection e with e; omega))
theorem wrote_set {a w : World} {b : Nat} (h : a.grownBy w (some b)) (i : Nat) (v : Value) : a.grownBy (w.setCell ⟨b, i, none⟩ v) (some b) := Lib.grownBy_setB h i v
theorem Blk.kept {w w' : World} {g : Nat} {t : TypeId} {cs : Array Value} (h : Blk w g t cs) {row : Option Nat} (hg : w.grownBy w' row) (hr : ∀ r, row = some r → ∃ o : Obj, w.heap[r]? = some o ∧ o.isCells = false) : Blk w' g t cs :=
  (hg.block g h.lt (fun e => by obtain ⟨o, ho, hc⟩ := hr g e.symm; rw [show w.heap[g]? = _ from h] at ho; cases ho; cases hc)).trans h
theorem Win.kept {w w' : World} {g : Nat} {t : TypeId} {L R : List Value} {xs : List Nat} (h : Win w g t L xs R) {row : Option Nat} (hg : w.grownBy w' row) (hr : ∀ r, row = some r → ∃ o : Obj, w.heap[r]? = some o ∧ o.isCells = false) : Win w' g t L xs R := Blk.kept h hg hr
theorem wrote_more {w w' w'' : World} {g : Nat} (h : w.grownBy w' (some g)) {row : Option Nat} (hg : w'.grownBy w'' row) (hr : ∀ r, row = some r → w.heap.size ≤ r) : w.grownBy w'' (some g) :=
  ⟨hg.os.trans h.os, hg.tape.trans h.tape, hg.output.trans h.output, Nat.le_trans h.size hg.size, fun i hi hne => (hg.block i (Nat.lt_of_lt_of_le hi h.size) (fun e => by have := hr i e.symm; omega)).trans (h.block i hi hne)⟩
theorem wrote_then {w w' w'' : World} {g : Nat} (h : w.grownBy w' (some g)) (hb : Below w.heap.size w' w'') (hg : Below (g + 1) w' w'') : w.grownBy w'' (some g) :=
  ⟨hb.os.trans h.os, hb.tape.trans h.tape, hb.output.trans h.output, Nat.le_trans h.size hb.size, fun i hi hne => (hb.block i hi).trans (h.block i hi hne)⟩
theorem below_then {w w' w'' : World} {g : Nat} (h : Below w.heap.size w w') (k : w'.grownBy w'' (some g)) : w.grownBy w'' (some g) :=
  ⟨k.os.trans h.os, k.tape.trans h.tape, k.output.trans h.output, Nat.le_trans h.size k.size, fun i hi hne => (k.block i (Nat.lt_of_lt_of_le hi h.size) hne).trans (h.block i hi)⟩
end Go.Proofs.YtaifigkbblncpaaGreatDoor
