/-
  Alias tables: the document's Right and Count; the statements' own columns.
-/
import Derived.Test.YtojdgcalpdbifaaAliC
namespace Go.Proofs.Ytojdgcalpdbifaa
open Go.RowKit
set_option maxRecDepth 100000

/-- The cells of n columns. -/
def cols12 (c : Nat → Nat) (o : Nat → Int) : Nat → List Value
  | 0 => []
  | k + 1 => cols12 c o k ++ [.int .u64 ((c k : Nat) : Int), .int .i64 (o k)]
theorem cols12_len (c : Nat → Nat) (o : Nat → Int) (k : Nat) : (cols12 c o k).length = k * 2 := by
  induction k with
  | zero => rfl
  | succ k ih => simp [cols12, ih]; omega
theorem cols12_get (c : Nat → Nat) (o : Nat → Int) {j k : Nat} (h : j < k) : (cols12 c o k)[j * 2]? = some (.int .u64 ((c j : Nat) : Int)) ∧ (cols12 c o k)[j * 2 + 1]? = some (.int .i64 (o j)) := by
  induction k with
  | zero => omega
  | succ k ih =>
    have hl := cols12_len c o k
    rcases (show j < k ∨ j = k by omega) with h1 | rfl
    · rw [cols12, List.getElem?_append_left (by omega), List.getElem?_append_left (by omega)]
      exact ih h1
    · rw [cols12, List.getElem?_append_right (by omega), List.getElem?_append_right (by omega), hl, Nat.sub_self, show j * 2 + 1 - j * 2 = 1 by omega]
      exact ⟨rfl, rfl⟩
theorem cols12_cq {w : World} {base n cc : Nat} {e : TypeId} {A : Option Addr} {c : Nat → Nat} {o : Nat → Int} (h : w.ownsRow base e 2 (.slice A n cc) n (cols12 c o n)) : Cq w w.heap.size A n c o := fun hn => by
  have hlt := h.lt
  rcases h.2 with ⟨_, h0⟩ | ⟨g, cap, cur, hv, _⟩
  · omega
  · injection hv with hA
    subst hA
    refine ⟨g, 0, rfl, (hlt g rfl).2, fun j hj => ?_⟩
    obtain ⟨e1, e2⟩ := cols12_get c o hj
    have a1 := h.cells (g := g) rfl _ _ e1
    have a2 := h.cells (g := g) rfl _ _ e2
    rw [Go.WideShapes.add_plain] at a1 a2
    exact ⟨a1, by simpa only [Nat.add_assoc] using a2⟩

theorem two_cells12 {W : World} {g : Nat} {u v : Value} (h0 : W.cell? ⟨g, 0, none⟩ = some u) (h1 : W.cell? ⟨g, 1, none⟩ = some v) : ∀ j x, [u, v][j]? = some x → W.cell? ((⟨g, 0, none⟩ : Addr).add j) = some x := by
  intro j x hj
  match j, hj with
  | 0, hj => simp at hj; subst hj; rw [Go.WideShapes.add_plain]; exact h0
  | 1, hj => simp at hj; subst hj; rw [Go.WideShapes.add_plain]; exact h1
theorem own12_keep2 {w w' : World} {base : Nat} {e : TypeId} {s : Nat} {v : Value} {n : Nat} {xs : List Value} (h : w.ownsRow base e s v n xs) (hb : Below w.heap.size w w') : w'.ownsRow base e s v n xs := by
  have hlt := h.lt
  obtain ⟨h1, h2⟩ := h
  refine ⟨h1, ?_⟩
  rcases h2 with h2 | ⟨g, cap, cur, rfl, hg, hh, r⟩
  · exact .inl h2
  · exact .inr ⟨g, cap, cur, rfl, hg, by rw [hb.block g (hlt g rfl).2]; exact hh, r⟩
end Go.Proofs.Ytojdgcalpdbifaa
