/-
  The document's numbers, in digits: Add.
  The document's numbers, in digits: Sub.
  The document's numbers, in digits: Mul.
  The document's numbers, in digits: Cmp.
-/
import Derived.Test.YtojdgcalpdbifaaMF
import Derived.Deep.RegionHeld3
namespace Go.Proofs.Ytojdgcalpdbifaa
open Go.RowKit

theorem rd_far {w wr W : World} {A : Option Addr} {xs : List Nat} {c d : Prop} (hr : Rd w w.heap.size A xs) (hb : Below w.heap.size w wr) (h : c ∧ d ∧ Below wr.heap.size wr W) : Rd W W.heap.size A xs :=
  (hr.below (hb.trans (h.2.2.mono hb.size)) (Nat.le_refl _)).more (Nat.le_trans hb.size h.2.2.size)
theorem held_more {wr W W' : World} {p q : Addr} {u v : Value} (hb : Below W.heap.size W W') (h : W.cell? p = some u ∧ W.cell? q = some v ∧ Below wr.heap.size wr W) :
    W'.cell? p = some u ∧ W'.cell? q = some v ∧ Below wr.heap.size wr W' :=
  ⟨(hb.cell (World.block_lt_of_cell? W _ h.1)).trans h.1, (hb.cell (World.block_lt_of_cell? W _ h.2.1)).trans h.2.1, h.2.2.trans (hb.mono h.2.2.size)⟩

theorem sum3 (a b c : Nat) (ha : a < 65536) (hb : b < 65536) (hc : c ≤ 1) : IntKind.i64.wrap (IntKind.i64.wrap ((a : Int) + (b : Int)) + (c : Int)) = ((a + b + c : Nat) : Int) := by
  rw [IntWalk.i64_in ((a : Int) + (b : Int)) (by omega), IntWalk.i64_in _ (by omega)]
  omega

theorem owns_any_below {w w' : World} {base : Nat} {e : TypeId} {n : Nat} {v : Value} {xs : List Value} (h : w.ownsRow base e 1 v n xs) (hb : Below w.heap.size w w') : w'.ownsRow base e 1 v n xs := by
  have hlt := h.lt
  obtain ⟨h1, h2⟩ := h
  refine ⟨h1, ?_⟩
  rcases h2 with h2 | ⟨g, cap, cur, rfl, hg, hh, r⟩
  · exact .inl h2
  · exact .inr ⟨g, cap, cur, rfl, hg, by rw [hb.block g (hlt g rfl).2]; exact hh, r⟩

end Go.Proofs.Ytojdgcalpdbifaa

namespace Go.Proofs.Ytojdgcalpdbifaa
open Go.RowKit

theorem sub_wrap (a b c X d : Nat) (ha : a < 65536) (hb : b < 65536) (hc : c ≤ 1) (h : X + b + c = a + d) (hd : d ≤ 65536) :
    IntKind.i64.wrap (IntKind.i64.wrap ((a : Int) - (b : Int)) - (c : Int)) = (X : Int) - (d : Int) := by
  rw [IntWalk.i64_in ((a : Int) - (b : Int)) (by omega), IntWalk.i64_in _ (by omega)]
  omega

end Go.Proofs.Ytojdgcalpdbifaa

namespace Go.Proofs.Ytojdgcalpdbifaa
open Go.RowKit

theorem nth_set {ds : List Nat} {j r i : Nat} (hj : j < ds.length) : nth (ds.set j r) i = if i = j then r else nth ds i := by
  simp only [nth, List.getD_eq_getElem?_getD, List.getElem?_set]
  by_cases h : j = i
  · subst h; simp [hj]
  · have : ¬ i = j := fun e => h e.symm
    simp [h, this]
theorem Dig.set {ds : List Nat} (h : Dig ds) {j r : Nat} (hr : r < 65536) : Dig (ds.set j r) := fun d hd => by
  rcases List.mem_or_eq_of_mem_set hd with h1 | h1
  · exact h d h1
  · omega
theorem V_set (ds : List Nat) (j r : Nat) (hj : j < ds.length) : V (ds.set j r) + 65536 ^ j * nth ds j = V ds + 65536 ^ j * r := by
  induction ds generalizing j with
  | nil => simp at hj
  | cons d t ih =>
    cases j with
    | zero => simp [List.set, V, nth]; omega
    | succ j =>
      have := ih j (by simpa using hj)
      simp only [List.set, V, nth_cons, Nat.pow_succ]
      generalize V (t.set j r) = a at *
      generalize 65536 ^ j = P at *
      grind

theorem mul_prod {a b : Nat} (ha : a < 65536) (hb : b < 65536) : a * b ≤ 4294836225 := by
  have := Nat.mul_le_mul (show a ≤ 65535 by omega) (show b ≤ 65535 by omega)
  omega
theorem mul_wrap (d a b o : Nat) (hd : d < 65536) (ha : a < 65536) (hb : b < 65536) (ho : o < 65536) :
    IntKind.i64.wrap (IntKind.i64.wrap ((d : Int) + IntKind.i64.wrap ((a : Int) * (b : Int))) + (o : Int)) = ((d + a * b + o : Nat) : Int) := by
  have h := mul_prod ha hb
  have e : (a : Int) * (b : Int) = ((a * b : Nat) : Int) := by simp
  rw [e]
  generalize a * b = p at *
  rw [IntWalk.i64_in (p : Int) (by omega), IntWalk.i64_in ((d : Int) + (p : Int)) (by omega), IntWalk.i64_in _ (by omega)]
  omega

theorem Rd.of_row {w : World} {g : Nat} {t : TypeId} {ds : List Nat} (h : Blk w g t (ints ds).toArray) : Rd w w.heap.size (some ⟨g, 0, none⟩) ds := by
  intro _
  refine ⟨g, 0, rfl, h.lt, fun k hk => ?_⟩
  rw [h.cell (0 + k), Nat.zero_add]
  simpa using ints_get hk
theorem World.size_three (w : World) (a b c : Obj) : (((w.alloc a).alloc b).alloc c).heap.size = w.heap.size + 3 := by simp
theorem zeros_nth (N j : Nat) : nth (List.replicate N 0) j = 0 := by
  simp only [nth, List.getD_eq_getElem?_getD, List.getElem?_replicate]
  split <;> rfl
theorem zeros_dig (N : Nat) : Dig (List.replicate N 0) := fun d hd => by
  have := (List.mem_replicate.1 hd).2
  omega
theorem zeros_V (N : Nat) : V (List.replicate N 0) = 0 := by
  induction N with
  | zero => rfl
  | succ n ih => rw [List.replicate_succ, V, ih]
theorem madeCells_ints (N : Nat) : (madeCells (Value.int .i64 0).cells (N * 1)).toList = ints (List.replicate N 0) := by
  have e : (madeCells (Value.int .i64 0).cells (N * 1)).toList = (List.range N).map fun x => [Value.int IntKind.i64 0][x % 1]?.getD default := by simp [madeCells, Value.cells]
  rw [e]
  simp only [ints, List.map_replicate]
  apply List.ext_getElem
  · simp
  · intro i h1 h2
    simp [Nat.mod_one]

theorem rd_far4 {w wr W : World} {A : Option Addr} {xs : List Nat} {c1 c2 c3 c4 : Prop} (hr : Rd w w.heap.size A xs) (hb : Below w.heap.size w wr) (h : c1 ∧ c2 ∧ c3 ∧ c4 ∧ Below wr.heap.size wr W) : Rd W W.heap.size A xs :=
  rd_far hr hb (c := c1) (d := c2) ⟨h.1, h.2.1, h.2.2.2.2⟩
theorem held_more4 {wr W W' : World} {p q r s : Addr} {u v u' v' : Value} (hb : Below W.heap.size W W') (h : W.cell? p = some u ∧ W.cell? q = some v ∧ W.cell? r = some u' ∧ W.cell? s = some v' ∧ Below wr.heap.size wr W) :
    W'.cell? p = some u ∧ W'.cell? q = some v ∧ W'.cell? r = some u' ∧ W'.cell? s = some v' ∧ Below wr.heap.size wr W' :=
  ⟨(hb.cell (World.block_lt_of_cell? W _ h.1)).trans h.1, (hb.cell (World.block_lt_of_cell? W _ h.2.1)).trans h.2.1, (hb.cell (World.block_lt_of_cell? W _ h.2.2.1)).trans h.2.2.1,
    (hb.cell (World.block_lt_of_cell? W _ h.2.2.2.1)).trans h.2.2.2.1, h.2.2.2.2.trans (hb.mono h.2.2.2.2.size)⟩

end Go.Proofs.Ytojdgcalpdbifaa

namespace Go.Proofs.Ytojdgcalpdbifaa
open Go.RowKit

/-- Which one is greater: -1, 0, 1. -/
def cmpI (a b : Nat) : Int := if a < b then -1 else if b < a then 1 else 0
theorem cmpI_lt {a b : Nat} (h : a < b) : cmpI a b = -1 := by simp [cmpI, h]
theorem cmpI_gt {a b : Nat} (h : b < a) : cmpI a b = 1 := by simp [cmpI, h]; omega
theorem cmpI_eq {a b : Nat} (h : a = b) : cmpI a b = 0 := by simp [cmpI, h]

theorem drop_lt {xs ys : List Nat} {k : Nat} (hx : Dig xs) (h : V (xs.drop (k + 1)) = V (ys.drop (k + 1))) (hl : nth xs k < nth ys k) : V xs < V ys := by
  have ex : V xs = V (xs.take k) + 65536 ^ k * V (xs.drop k) := by
    by_cases hk : k ≤ xs.length
    · have := V_append (xs.take k) (xs.drop k)
      rw [List.take_append_drop, show (xs.take k).length = k by simp; omega] at this
      exact this
    · rw [List.drop_eq_nil_of_le (show xs.length ≤ k by omega), List.take_of_length_le (show xs.length ≤ k by omega)]; simp [V]
  have ey : 65536 ^ k * V (ys.drop k) ≤ V ys := by
    by_cases hk : k ≤ ys.length
    · have := V_append (ys.take k) (ys.drop k)
      rw [List.take_append_drop, show (ys.take k).length = k by simp; omega] at this
      omega
    · rw [nth_out (xs := ys) (by omega)] at hl; omega
  have hlow : V (xs.take k) < 65536 ^ k := by
    have h1 := V_lt (hx.take k)
    have h2 : 65536 ^ (xs.take k).length ≤ 65536 ^ k := Nat.pow_le_pow_right (by omega) (by simp; omega)
    omega
  rw [V_drop xs k] at ex
  rw [V_drop ys k, ← h] at ey
  generalize V (xs.drop (k + 1)) = t at *
  have h3 : 65536 ^ k * (nth xs k + 65536 * t + 1) ≤ 65536 ^ k * (nth ys k + 65536 * t) := Nat.mul_le_mul_left _ (by omega)
  rw [Nat.mul_add _ _ 1] at h3
  omega

/-- digit(a, i) of a, digit(b, i) of b, in one test. -/
def DigitsAt (xs ys : List Nat) (l : Nat) : Prop := nth xs l < nth ys l

end Go.Proofs.Ytojdgcalpdbifaa
