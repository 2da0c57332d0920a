/-
  Products, quotients and rests, and what two numbers have in common: the walk.
-/
import Derived.Test.YtaifigkbblncpaaGreatDoorLawTells
import Derived.Test.YtaifigkbblncpaaGreatDoorRefLcm
import Derived.Test.YtaifigkbblncpaaGreatDoorLawNatA
namespace Go.Proofs.YtaifigkbblncpaaGreatDoor
open Go.RowKit
set_option maxRecDepth 100000

/-- The arguments, and the document's numbers of them in cells of their own. -/
structure MulsMem (w : World) (v1 v2 : Value) (a b g1 g2 M : Nat) (s1 s2 : Value) (wr : World) : Prop where
  below : Below w.heap.size w wr
  ra : Nr wr v1 a M
  rb : Nr wr v2 b M
  x : wr.cell? ⟨g1, 0, none⟩ = some s1
  y : wr.cell? ⟨g2, 0, none⟩ = some s2
  nx : ∃ L, Num wr L (.agg #[s1]) a
  ny : ∃ L, Num wr L (.agg #[s2]) b
theorem MulsMem.step {w wr w' : World} {v1 v2 : Value} {a b g1 g2 M : Nat} {s1 s2 : Value} (h : MulsMem w v1 v2 a b g1 g2 M s1 s2 wr) (hb : Below wr.heap.size wr w') : MulsMem w v1 v2 a b g1 g2 M s1 s2 w' := by
  have k : ∀ {a : Addr} {u : Value}, wr.cell? a = some u → w'.cell? a = some u := fun h => (hb.cell (World.block_lt_of_cell? wr _ h)).trans h
  obtain ⟨L1, n1⟩ := h.nx
  obtain ⟨L2, n2⟩ := h.ny
  exact ⟨h.below.trans (hb.mono h.below.size), h.ra.below hb, h.rb.below hb, k h.x, k h.y, ⟨_, n1.below hb⟩, ⟨_, n2.below hb⟩⟩
theorem nr_far2 {wb W : World} {v : Value} {x M : Nat} {a b : Prop} (hn : Nr wb v x M) (hs : a ∧ b ∧ Below wb.heap.size wb W) : Nr W v x M := hn.below hs.2.2
theorem tab_far2 {wb W : World} {a b : Prop} (h : Tab wb) (hs : a ∧ b ∧ Below wb.heap.size wb W) : Tab W := h.below hs.2.2

theorem cn0 (u : World) (t : TypeId) (v1 v2 : Value) : (u.alloc (.cells #[v1, v2] t)).cell? ⟨u.heap.size, 0, none⟩ = some v1 := (Blk.new u t #[v1, v2]).cell 0
theorem cn1 (u : World) (t : TypeId) (v1 v2 : Value) : (u.alloc (.cells #[v1, v2] t)).cell? ⟨u.heap.size, 1, none⟩ = some v2 := (Blk.new u t #[v1, v2]).cell 1
theorem cn0d (u : World) (t : TypeId) (v1 v2 : Value) : (u.alloc (.cells #[v1, v2] t)).drew.cell? ⟨u.heap.size, 0, none⟩ = some v1 := cn0 u t v1 v2
theorem cn1d (u : World) (t : TypeId) (v1 v2 : Value) : (u.alloc (.cells #[v1, v2] t)).drew.cell? ⟨u.heap.size, 1, none⟩ = some v2 := cn1 u t v1 v2
theorem lt_new (u : World) (o : Obj) : u.heap.size < (u.alloc o).heap.size := by simp
theorem of_one (w : World) : Calls Tryz.prog 24 #[.int .u64 1] w (RetNum w 1) := of_any 1 w (by omega)
theorem lcm_le (a b : Nat) : Nat.lcm a b ≤ a * b := by rw [Nat.lcm]; exact Nat.div_le_self _ _

end Go.Proofs.YtaifigkbblncpaaGreatDoor
