/-
  Weights laid side by side: the document's Total.
-/
import Derived.Test.YtojdgcalpdbifaaSpanA
namespace Go.Proofs.Ytojdgcalpdbifaa
open Go.RowKit
set_option maxRecDepth 100000

theorem nil_num9 (w : World) (L : Nat) : Num w L (.agg #[.slice none 0 0]) 0 := ⟨none, [], 0, 0, rfl, rfl, Nat.le_refl _, Rd.nil _ _ _, fun h => absurd rfl h, Can.nil, rfl⟩
/-- A store into a variable that holds a slice moves no number. -/
theorem num_setS9 {w : World} {L g n c a : Nat} {A : Option Addr} {v u : Value} (h : Num w L v a) (hg : w.cell? ⟨g, 0, none⟩ = some (.slice A n c)) : Num (w.setCell ⟨g, 0, none⟩ u) L v a := by
  obtain ⟨A', xs, n', c', h1, hl, h2, h3, h4, h5⟩ := h
  refine ⟨A', xs, n', c', h1, hl, h2, ?_, h4, h5⟩
  rw [setCell_size]
  intro hx
  obtain ⟨b, o, e1, e2, e3⟩ := h3 hx
  refine ⟨b, o, e1, e2, fun k hk => ?_⟩
  rw [World.cell?_setCell_other w _ _ u (fun e => by have := e3 k hk; rw [← e, hg] at this; cases this)]
  exact e3 k hk
theorem bel_drew9 {W W' : World} (h : Below W.drew.heap.size W.drew W') : Below W.heap.size W W' := (Below.refl W.heap.size W).drew.trans h

end Go.Proofs.Ytojdgcalpdbifaa
