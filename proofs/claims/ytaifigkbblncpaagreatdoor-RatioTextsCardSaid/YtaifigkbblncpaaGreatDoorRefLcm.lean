/-
  The document's numbers in digits: Lcm.
-/
import Derived.Test.YtaifigkbblncpaaGreatDoorRefGcd
import Derived.Test.YtaifigkbblncpaaGreatDoorME
import Derived.Deep.DeepCutAuto
namespace Go.Proofs.YtaifigkbblncpaaGreatDoor
open Go.RowKit
set_option maxRecDepth 100000

theorem bcell {W w1 : World} (hb : Below W.heap.size W w1) : (∀ b o, b < W.heap.size → w1.cell? ⟨b, o, none⟩ = W.cell? ⟨b, o, none⟩) ∧ (∀ b o, b < W.heap.size → w1.frozen? ⟨b, o, none⟩ = W.frozen? ⟨b, o, none⟩) :=
  ⟨fun b o h => hb.cell (p := ⟨b, o, none⟩) h, fun b o h => hb.frozen (p := ⟨b, o, none⟩) h⟩
/-- A store into a variable that holds a slice moves no number. -/
theorem num_setS {w : World} {L g n c a : Nat} {A : Option Addr} {v u : Value} (h : Num w L v a) (hg : w.cell? ⟨g, 0, none⟩ = some (.slice A n c)) : Num (w.setCell ⟨g, 0, none⟩ u) L v a := by
  obtain ⟨A', xs, n', c', h1, hl, h2, h3, h4, h5⟩ := h
  refine ⟨A', xs, n', c', h1, hl, h2, ?_, h4, h5⟩
  rw [setCell_size]
  intro hx
  obtain ⟨b, o, e1, e2, e3⟩ := h3 hx
  refine ⟨b, o, e1, e2, fun k hk => ?_⟩
  rw [World.cell?_setCell_other w _ _ u (fun e => by have := e3 k hk; rw [← e, hg] at this; cases this)]
  exact e3 k hk
theorem held2 {wb W W' : World} {p q : Addr} {a b : Value} (hb : Below W.heap.size W W') (h : W.cell? p = some a ∧ W.cell? q = some b ∧ Below wb.heap.size wb W) :
    W'.cell? p = some a ∧ W'.cell? q = some b ∧ Below wb.heap.size wb W' :=
  ⟨(hb.cell (World.block_lt_of_cell? W _ h.1)).trans h.1, (hb.cell (World.block_lt_of_cell? W _ h.2.1)).trans h.2.1, h.2.2.trans (hb.mono h.2.2.size)⟩
theorem held2_set {wb W : World} {p q : Addr} {u v x : Value} {g : Nat} (hg : wb.heap.size ≤ g) (hp : p.block < wb.heap.size) (hq : q.block < wb.heap.size) (h : W.cell? p = some u ∧ W.cell? q = some v ∧ Below wb.heap.size wb W) :
    (W.setCell ⟨g, 0, none⟩ x).cell? p = some u ∧ (W.setCell ⟨g, 0, none⟩ x).cell? q = some v ∧ Below wb.heap.size wb (W.setCell ⟨g, 0, none⟩ x) :=
  ⟨(World.cell?_setCell_other W _ _ _ (fun e => by rw [← e] at hp; simp at hp; omega)).trans h.1, (World.cell?_setCell_other W _ _ _ (fun e => by rw [← e] at hq; simp at hq; omega)).trans h.2.1, h.2.2.setCell hg _⟩
theorem num_far2 {wb W : World} {L : Nat} {v : Value} {n : Nat} {a b : Prop} (hn : Num wb L v n) (hs : a ∧ b ∧ Below wb.heap.size wb W) : Num W L v n := hn.below hs.2.2

theorem num_setN {w : World} {L g a : Nat} {v u : Value} (h : Num w L v a) (hg : w.cell? ⟨g, 0, none⟩ = some (.slice none 0 0)) : Num (w.setCell ⟨g, 0, none⟩ u) L v a := num_setS h hg
theorem thd_of {wb W : World} {p q : Addr} {a b : Value} (h : W.cell? p = some a ∧ W.cell? q = some b ∧ Below wb.heap.size wb W) : Below wb.heap.size wb W := h.2.2
theorem cell_put {w : World} {p : Addr} {u : Value} (h : w.cell? p = some (.slice none 0 0)) : (w.setCell p u).cell? p = some u := World.cell?_setCell_same' _ _ _ (by rw [h]; rfl)
theorem num_zero (w : World) (L : Nat) : Num w L (.agg #[.slice none 0 0]) 0 := ⟨none, [], 0, 0, rfl, rfl, Nat.le_refl _, Rd.nil _ _ _, fun h => absurd rfl h, Can.nil, rfl⟩

end Go.Proofs.YtaifigkbblncpaaGreatDoor
