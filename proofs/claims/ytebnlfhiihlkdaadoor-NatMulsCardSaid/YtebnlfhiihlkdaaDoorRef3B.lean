/-
  The document's layer 3: is, Bits.
-/
import Derived.Test.YtebnlfhiihlkdaaDoorRef3A
import Derived.Test.YtebnlfhiihlkdaaDoorNatG
namespace Go.Proofs.YtebnlfhiihlkdaaDoor
open Go.RowKit
set_option maxRecDepth 100000

set_option maxHeartbeats 1000000 in
/-- An answer that is as it must be. -/
theorem is_yes {k : Nat} (v x : Value) (a L1 L2 : Nat) (w : World) (h1 : Nv w L1 v a) (h2 : Num w L2 x a) (ha : a < 65536 ^ k) (hk : k ≤ 5000 := by omega) :
    Calls Tryd.prog 9 #[v, x] w fun e w' => e = .returned (.bool true) ∧ Below w.heap.size w w' := by
  obtain ⟨A1, xs, n1, c1, rfl, hl1, hc1, hr1, _, hcan1, hU1⟩ := h1
  obtain ⟨A2, ys, n2, c2, rfl, hl2, hc2, hr2, hcan2, hV2, hn2⟩ := h2.form ha
  have hn1 : n1 ≤ 5000 := by
    have h3 : a < 4294967296 ^ k := Nat.lt_of_lt_of_le ha (Nat.pow_le_pow_left (by omega) k)
    have := hcan1.len (k := k) (by omega)
    omega
  have HL1 := Lib.hid hl1
  have HU1 := Lib.hid hU1
  clear hl1 hU1 ha
  go_enter Tryd.func9, Tryd.ntmps9
  go_wp2_with fail
  have hB0 : Below w.heap.size w (w.alloc (.cells #[.slice A2 n2 c2] 27)) := (Below.refl _ _).alloc (Nat.le_refl _) _
  refine (out_any A2 ys n2 c2 _ hl2.out ((hr2.below hB0 (Nat.le_refl _)).more hB0.size) hcan2 (by omega)).mono ?_
  rintro e w1 ⟨v, rfl, ⟨A3, zs, n3, c3, rfl, hl3, hc3, hr3, _, hcan3, hU3⟩, hb1⟩
  have heq : xs = zs := U_inj hcan1 hcan3 (by rw [HU1.out, hU3, hV2.out])
  have HEQ := Lib.hid heq
  have HL3 := Lib.hid hl3
  have hB1 : Below w.heap.size w w1 := hB0.trans (hb1.mono hB0.size)
  clear heq hl3 hU3
  go_wp2_with fail
  refine (same_any A1 A3 xs zs n1 c1 n3 c3 w1 HL1.out HL3.out ((hr1.below hB1 (Nat.le_refl _)).more hB1.size) hr3 (by omega)).mono ?_
  rintro e w2 ⟨rfl, hb2⟩
  rw [decide_eq_true HEQ.out]
  go_wp2_with fail
  go_ret
  exact ⟨rfl, hB1.trans (hb2.mono hB1.size)⟩

structure BitsMem (w : World) (s0 : Value) (g : Nat) (s : Value) (a : Nat) (W : World) : Prop where
  below : Below w.heap.size w W
  one : Blk W w.heap.size 27 #[s0]
  two : Blk W g 27 #[s]
  far : w.heap.size < g
  num : Num W 0 (.agg #[s]) a
theorem BitsMem.more {w W W' : World} {s0 s : Value} {g a : Nat} (h : BitsMem w s0 g s a W) (hb : Below W.heap.size W W') : BitsMem w s0 g s a W' :=
  ⟨h.below.trans (hb.mono h.below.size), h.one.below hb h.one.lt, h.two.below hb h.two.lt, h.far, h.num.below hb⟩
theorem BitsMem.put {w W : World} {s0 s s' : Value} {g a b L : Nat} (h : BitsMem w s0 g s a W) (hn : Num W L (.agg #[s']) b) (hL : g < L) : BitsMem w s0 g s' b (W.setCell ⟨g, 0, none⟩ s') :=
  ⟨h.below.setCell (by have := h.far; simp; omega) _, h.one.far (by have := h.far; simp; omega) _, h.two.set_ 0 s', h.far, (hn.old (by simpa using hL) _).more (Nat.zero_le _)⟩

theorem pow_two_small {a k j : Nat} (ha : a < 65536 ^ j) (hk : k = 0 ∨ 2 ^ (k - 1) ≤ a) : 2 ^ k < 65536 ^ (j + 1) := by
  have h1 : 0 < 65536 ^ j := Nat.pow_pos (by omega)
  rw [Nat.pow_succ]
  rcases hk with rfl | hk
  · rw [Nat.pow_zero]; omega
  · cases k with
    | zero => rw [Nat.pow_zero]; omega
    | succ k => rw [Nat.pow_succ]; rw [Nat.add_sub_cancel] at hk; omega
theorem pow_two_steps {a k j : Nat} (ha : a < 65536 ^ j) (hk : k = 0 ∨ 2 ^ (k - 1) ≤ a) : k ≤ 16 * j + 1 := by
  rcases hk with rfl | hk
  · omega
  · rcases Nat.lt_or_ge (16 * j) (k - 1) with h | h
    · have := Nat.pow_le_pow_right (show 0 < 2 by omega) (Nat.le_of_lt h)
      rw [Nat.pow_mul] at this
      have e : (2 : Nat) ^ 16 = 65536 := by decide
      rw [e] at this
      omega
    · omega

end Go.Proofs.YtebnlfhiihlkdaaDoor
