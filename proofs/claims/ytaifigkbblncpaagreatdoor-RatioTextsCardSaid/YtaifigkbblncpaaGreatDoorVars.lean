/-
  Variables made in a drawn region, ahead of a call or behind it.
-/
import Derived.Test.YtaifigkbblncpaaGreatDoorDivN
import Derived.Test.YtaifigkbblncpaaGreatDoorText
import Derived.Test.YtaifigkbblncpaaGreatDoorMN
import Derived.Test.YtaifigkbblncpaaGreatDoorNums
import Derived.Deep.DeepCutAuto
namespace Go.Proofs.YtaifigkbblncpaaGreatDoor
open Go.RowKit
set_option maxRecDepth 100000

/-- A variable made ahead of a call, still there behind it. -/
def Var3 (w : World) (g : Nat) : Prop := w.cell? ⟨g, 0, none⟩ = some (.slice none 0 0) ∧ w.frozen? ⟨g, 0, none⟩ = false
theorem Var3.lt {w : World} {g : Nat} (h : Var3 w g) : g < w.heap.size := World.block_lt_of_cell? w _ h.1
theorem Var3.below {w w' : World} {g : Nat} (h : Var3 w g) (hb : Below w.heap.size w w') : Var3 w' g := ⟨(hb.cell (World.block_lt_of_cell? w _ h.1)).trans h.1, (hb.frozen (World.block_lt_of_cell? w _ h.1)).trans h.2⟩
theorem Var3.alloc {w : World} {g : Nat} (h : Var3 w g) (o : Obj) : Var3 (w.alloc o) g := h.below ((Below.refl _ _).alloc (Nat.le_refl _) _)
theorem Var3.new (w : World) : Var3 (w.alloc (.cells #[.slice none 0 0] 33)) w.heap.size := ⟨(Blk.new w _ _).cell 0, (Blk.new w _ _).frozen 0⟩
theorem num_set3 {w : World} {L g : Nat} {v u : Value} {a : Nat} (h : Num w L v a) (hv : Var3 w g) : Num (w.setCell ⟨g, 0, none⟩ u) L v a := by
  obtain ⟨A, xs, n, c, h1, hl, h2, h3, h4, h5⟩ := h
  refine ⟨A, xs, n, c, h1, hl, h2, ?_, h4, h5⟩
  rw [setCell_size]
  intro hx
  obtain ⟨b, o, e1, e2, e3⟩ := h3 hx
  refine ⟨b, o, e1, e2, fun k hk => ?_⟩
  rw [World.cell?_setCell_other w _ _ u (fun e => by have := e3 k hk; rw [← e, hv.1] at this; cases this)]
  exact e3 k hk
theorem Var3.set {w : World} {g g' : Nat} {u : Value} (h : Var3 w g) (hg : g' ≠ g) : Var3 (w.setCell ⟨g', 0, none⟩ u) g := by
  refine ⟨(World.cell?_setCell_other w _ _ u (fun e => hg (by injection e))).trans h.1, ?_⟩
  have := h.2
  rw [← this]
  exact World.frozen?_of_block (Below.heap_setCell w _ _ _ (fun e => hg e.symm))
theorem va1 {w w' : World} (hb : Below (w.alloc (.cells #[.slice none 0 0] 33)).heap.size (w.alloc (.cells #[.slice none 0 0] 33)) w') : Var3 w' w.heap.size := (Var3.new w).below hb
theorem va2 {w w' : World} (hb : Below ((w.alloc (.cells #[.slice none 0 0] 33)).alloc (.cells #[.slice none 0 0] 33)).heap.size ((w.alloc (.cells #[.slice none 0 0] 33)).alloc (.cells #[.slice none 0 0] 33)) w') : Var3 w' w.heap.size ∧ Var3 w' (w.heap.size + 1) :=
  ⟨((Var3.new w).alloc _).below hb, by have := (Var3.new (w.alloc (.cells #[.slice none 0 0] 33))).below hb; simpa using this⟩
theorem va1d {w w' : World} (hb : Below (w.alloc (.cells #[.slice none 0 0] 33)).drew.heap.size (w.alloc (.cells #[.slice none 0 0] 33)).drew w') : Var3 w' w.heap.size := (show Var3 (w.alloc (.cells #[.slice none 0 0] 33)).drew w.heap.size from Var3.new w).below hb
theorem va2d {w w' : World} (hb : Below ((w.alloc (.cells #[.slice none 0 0] 33)).alloc (.cells #[.slice none 0 0] 33)).drew.heap.size ((w.alloc (.cells #[.slice none 0 0] 33)).alloc (.cells #[.slice none 0 0] 33)).drew w') : Var3 w' w.heap.size ∧ Var3 w' (w.heap.size + 1) :=
  ⟨(show Var3 ((w.alloc (.cells #[.slice none 0 0] 33)).alloc (.cells #[.slice none 0 0] 33)).drew w.heap.size from (Var3.new w).alloc _).below hb,
    by have := (show Var3 ((w.alloc (.cells #[.slice none 0 0] 33)).alloc (.cells #[.slice none 0 0] 33)).drew _ from Var3.new (w.alloc (.cells #[.slice none 0 0] 33))).below hb; simpa using this⟩
theorem vc1 {w w' : World} {g : Nat} {o : Obj} (hb : Below (w.alloc o).heap.size (w.alloc o) w') (h : Var3 w g) : Var3 w' g := (h.alloc o).below hb
theorem vc2 {w w' : World} {g g' : Nat} (hb : Below w.heap.size w w') (h : Var3 w g ∧ Var3 w g') : Var3 w' g ∧ Var3 w' g' := ⟨h.1.below hb, h.2.below hb⟩
theorem held_set1 {wb W : World} {p : Addr} {u x : Value} {g : Nat} (hg : wb.heap.size ≤ g) (hp : p.block < wb.heap.size) (h : W.cell? p = some u ∧ Below wb.heap.size wb W) :
    (W.setCell ⟨g, 0, none⟩ x).cell? p = some u ∧ Below wb.heap.size wb (W.setCell ⟨g, 0, none⟩ x) :=
  ⟨(World.cell?_setCell_other W _ _ _ (fun e => by rw [← e] at hp; simp at hp; omega)).trans h.1, h.2.setCell hg _⟩
theorem b1 (w : World) (o : Obj) : Below w.heap.size w (w.alloc o) := (Below.refl _ _).alloc (Nat.le_refl _) _
theorem b2 (w : World) (a b : Obj) : Below w.heap.size w ((w.alloc a).alloc b) := ((Below.refl _ _).alloc (Nat.le_refl _) _).alloc (by simp) _

theorem of_ten (w : World) : Calls Tryz.prog 24 #[.int .u64 10] w (RetNum w 10) := of_any 10 w (by omega)
theorem snd_of {wb W : World} {p : Addr} {u : Value} (h : W.cell? p = some u ∧ Below wb.heap.size wb W) : Below wb.heap.size wb W := h.2
theorem mk4 {B L a : Nat} {W : World} {v : Value} (h : Num W L v a) (k : B < L) : ∃ L, B < L ∧ Num W L v a := ⟨L, k, h⟩
end Go.Proofs.YtaifigkbblncpaaGreatDoor
