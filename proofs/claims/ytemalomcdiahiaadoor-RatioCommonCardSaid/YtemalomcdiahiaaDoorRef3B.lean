/-
  The document's layer 3: is, Bits.
-/
import Derived.Test.YtemalomcdiahiaaDoorRef3A
import Derived.Test.YtemalomcdiahiaaDoorNatG
namespace Go.Proofs.YtemalomcdiahiaaDoor
open Go.RowKit
set_option maxRecDepth 100000

structure BitsMem (w : World) (s0 : Value) (g : Nat) (s : Value) (a : Nat) (W : World) : Prop where
  below : Below w.heap.size w W
  one : Blk W w.heap.size 33 #[s0]
  two : Blk W g 33 #[s]
  far : w.heap.size < g
  num : Num W 0 (.agg #[s]) a
theorem BitsMem.more {w W W' : World} {s0 s : Value} {g a : Nat} (h : BitsMem w s0 g s a W) (hb : Below W.heap.size W W') : BitsMem w s0 g s a W' :=
  ⟨h.below.trans (hb.mono h.below.size), h.one.below hb h.one.lt, h.two.below hb h.two.lt, h.far, h.num.below hb⟩
theorem BitsMem.put {w W : World} {s0 s s' : Value} {g a b L : Nat} (h : BitsMem w s0 g s a W) (hn : Num W L (.agg #[s']) b) (hL : g < L) : BitsMem w s0 g s' b (W.setCell ⟨g, 0, none⟩ s') :=
  ⟨h.below.setCell (by have := h.far; simp; omega) _, h.one.far (by have := h.far; simp; omega) _, h.two.set_ 0 s', h.far, (hn.old (by simpa using hL) _).more (Nat.zero_le _)⟩

theorem pow_two_small {a k j : Nat} (ha : a < 65536 ^ j) (hk : k = 0 ∨ 2 ^ (k - 1) ≤ a) : 2 ^ k < 65536 ^ (j + 1) := by
  have h1 : 0 < 65536 ^ j := Nat.pow_pos (by omega)
  rw [Nat.pow_succ]
  rcases hk with rfl | hk
  · rw [Nat.pow_zero]; omega
  · cases k with
    | zero => rw [Nat.pow_zero]; omega
    | succ k => rw [Nat.pow_succ]; rw [Nat.add_sub_cancel] at hk; omega
theorem pow_two_steps {a k j : Nat} (ha : a < 65536 ^ j) (hk : k = 0 ∨ 2 ^ (k - 1) ≤ a) : k ≤ 16 * j + 1 := by
  rcases hk with rfl | hk
  · omega
  · rcases Nat.lt_or_ge (16 * j) (k - 1) with h | h
    · have := Nat.pow_le_pow_right (show 0 < 2 by omega) (Nat.le_of_lt h)
      rw [Nat.pow_mul] at this
      have e : (2 : Nat) ^ 16 = 65536 := by decide
      rw [e] at this
      omega
    · omega

end Go.Proofs.YtemalomcdiahiaaDoor
