/-
  Words for memory: a slice of elements of one cell each, whatever they are, that reads as a list of values, and how that lasts.
-/
import Derived.Test.YtojdgcalpdbifaaMA
namespace Go.Proofs.Ytojdgcalpdbifaa
open Go.RowKit

theorem below_drN {w : World} (n : Nat) : Below w.heap.size w (w.drewN n) := ⟨rfl, rfl, rfl, Nat.le_refl _, fun _ _ => rfl⟩
theorem b1' (w : World) (o : Obj) : Below w.heap.size w (w.alloc o) := (Below.refl _ _).alloc (Nat.le_refl _) _
/-- The slice at address A reads, in world w, as the list vs; every cell lies below block B. -/
def Rv (w : World) (B : Nat) (A : Option Addr) (vs : List Value) : Prop :=
  vs ≠ [] → ∃ b o, A = some ⟨b, o, none⟩ ∧ b < B ∧ ∀ k v, vs[k]? = some v → w.cell? ⟨b, o + k, none⟩ = some v
theorem Rv.at_ {w : World} {B : Nat} {A : Option Addr} {vs : List Value} {k : Nat} {v : Value} (h : Rv w B A vs) (hk : vs[k]? = some v) :
    ∃ b o, A = some ⟨b, o, none⟩ ∧ b < B ∧ w.cell? ⟨b, o + k, none⟩ = some v := by
  obtain ⟨b, o, h1, h2, h3⟩ := h (by rintro rfl; simp at hk)
  exact ⟨b, o, h1, h2, h3 k v hk⟩
theorem Rv.keep {w w' : World} {B : Nat} {A : Option Addr} {vs : List Value} (h : Rv w B A vs) (hk : ∀ p : Addr, p.block < B → w'.cell? p = w.cell? p) : Rv w' B A vs := by
  intro hx
  obtain ⟨b, o, h1, h2, h3⟩ := h hx
  exact ⟨b, o, h1, h2, fun k v hkl => (hk _ h2).trans (h3 k v hkl)⟩
theorem Rv.more {w : World} {B B' : Nat} {A : Option Addr} {vs : List Value} (h : Rv w B A vs) (hB : B ≤ B') : Rv w B' A vs := by
  intro hx
  obtain ⟨b, o, h1, h2, h3⟩ := h hx
  exact ⟨b, o, h1, by omega, h3⟩
theorem Rv.below {w w' : World} {B C : Nat} {A : Option Addr} {vs : List Value} (h : Rv w B A vs) (hb : Below C w w') (hB : B ≤ C) : Rv w' B A vs := h.keep fun _ hp => hb.cell (by omega)
theorem Rv.step {w w' : World} {A : Option Addr} {vs : List Value} (h : Rv w w.heap.size A vs) (hb : Below w.heap.size w w') : Rv w' w'.heap.size A vs := (h.below hb (Nat.le_refl _)).more hb.size
theorem Rv.alloc {w : World} {B : Nat} {A : Option Addr} {vs : List Value} (h : Rv w B A vs) (hB : B ≤ w.heap.size) (o : Obj) : Rv (w.alloc o) B A vs :=
  h.keep fun p hp => World.cell?_alloc_lt w o p (by omega)
theorem Rv.grown {w w' : World} {B : Nat} {A : Option Addr} {vs : List Value} (h : Rv w B A vs) {row : Option Nat} (hg : w.grownBy w' row) (hB : B ≤ w.heap.size) (hr : ∀ g, row = some g → B ≤ g) : Rv w' B A vs :=
  h.keep fun p hp => World.cell?_of_block (hg.block p.block (by omega) (fun e => by have := hr _ e.symm; omega))
theorem Rv.nil (w : World) (B : Nat) (A : Option Addr) : Rv w B A [] := fun h => absurd rfl h
theorem Rv.of_own {w : World} {base : Nat} {e : TypeId} {A : Option Addr} {c n : Nat} {vs : List Value} (h : w.ownsRow base e 1 (.slice A n c) n vs) : Rv w w.heap.size A vs := by
  intro hx
  have hl := h.1
  have hpos : 0 < vs.length := List.length_pos_iff.2 hx
  rcases h.2 with ⟨_, h0⟩ | ⟨g, cap, cur, hv, _, hh, _⟩
  · omega
  · have hA : A = some ⟨g, 0, none⟩ := by injection hv
    subst hA
    refine ⟨g, 0, rfl, ?_, fun k v hk => ?_⟩
    · rcases Nat.lt_or_ge g w.heap.size with hlt | hge
      · exact hlt
      · rw [Array.getElem?_eq_none hge] at hh; cases hh
    · have hc := h.cells (g := g) rfl k _ hk
      rw [Nat.zero_add]
      unfold Addr.add at hc
      split at hc
      · next h0 => subst h0; exact hc
      · simpa using hc
theorem Rv.setCell {w : World} {B : Nat} {A : Option Addr} {vs : List Value} (h : Rv w B A vs) {p : Addr} (hp : B ≤ p.block) (u : Value) : Rv (w.setCell p u) B A vs :=
  h.keep fun q hq => World.cell?_setCell_other w p q u (fun e => by subst e; omega)
/-- If the slice has elements, it lies in a block from L on. -/
def Fv (L : Nat) (A : Option Addr) (vs : List Value) : Prop := vs ≠ [] → ∃ b o, A = some ⟨b, o, none⟩ ∧ L ≤ b
theorem Fv.of_own {w : World} {base : Nat} {e : TypeId} {A : Option Addr} {c n : Nat} {vs : List Value} (h : w.ownsRow base e 1 (.slice A n c) n vs) : Fv base A vs := by
  intro hx
  have hl := h.1
  have hpos : 0 < vs.length := List.length_pos_iff.2 hx
  rcases h.2 with ⟨_, h0⟩ | ⟨g, cap, cur, hv, hg, _, _⟩
  · omega
  · injection hv with hA
    exact ⟨g, 0, hA, hg⟩
theorem Rv.old {w : World} {B L : Nat} {A : Option Addr} {vs : List Value} (h : Rv w B A vs) (hf : Fv L A vs) {p : Addr} (hp : p.block < L) (u : Value) : Rv (w.setCell p u) B A vs := by
  intro hx
  obtain ⟨b, o, h1, h2, h3⟩ := h hx
  obtain ⟨b', o', h4, h5⟩ := hf hx
  rw [h1] at h4
  injection h4 with h4
  injection h4 with h4
  subst h4
  refine ⟨b, o, h1, h2, fun k v hk => ?_⟩
  rw [World.cell?_setCell_other w p _ u (fun e => by rw [e] at hp; simp at hp; omega)]
  exact h3 k v hk

/-- The cells of a list of strings. -/
def strs (ss : List ByteArray) : List Value := ss.map Value.string
theorem strs_length (ss : List ByteArray) : (strs ss).length = ss.length := by simp [strs]
theorem strs_get {ss : List ByteArray} {k : Nat} (h : k < ss.length) : (strs ss)[k]? = some (.string (ss.getD k ⟨#[]⟩)) := by
  simp [strs, List.getElem?_eq_getElem h]
theorem strs_append (xs ys : List ByteArray) : strs (xs ++ ys) = strs xs ++ strs ys := by simp [strs]
/-- A slice of strings. -/
def Rs (w : World) (A : Option Addr) (ss : List ByteArray) : Prop := Rv w w.heap.size A (strs ss)
theorem Rs.at_ {w : World} {A : Option Addr} {ss : List ByteArray} {k : Nat} (h : Rs w A ss) (hk : k < ss.length) :
    ∃ b o, A = some ⟨b, o, none⟩ ∧ b < w.heap.size ∧ w.cell? ⟨b, o + k, none⟩ = some (.string (ss.getD k ⟨#[]⟩)) := Rv.at_ h (strs_get hk)
theorem Rs.below {w w' : World} {A : Option Addr} {ss : List ByteArray} (h : Rs w A ss) (hb : Below w.heap.size w w') : Rs w' A ss := Rv.step h hb
theorem Rs.drew {w : World} {A : Option Addr} {ss : List ByteArray} (h : Rs w A ss) : Rs w.drew A ss := h.below (Below.refl _ _).drew
end Go.Proofs.Ytojdgcalpdbifaa
