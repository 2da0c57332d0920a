/-
  The document's layer 3: is, Bits.
-/
import Derived.Test.YtnaofoahnjceiaaDoorRef3A
import Derived.Test.YtnaofoahnjceiaaDoorNatG
namespace Go.Proofs.YtnaofoahnjceiaaDoor
open Go.RowKit
set_option maxRecDepth 100000

set_option maxHeartbeats 1000000 in
/-- An answer that is as it must be. -/
theorem is_yes {k : Nat} (v x : Value) (a L1 L2 : Nat) (w : World) (h1 : Nv w L1 v a) (h2 : Num w L2 x a) (ha : a < 65536 ^ k) (hk : k ≤ 5000 := by omega) :
    Calls Tryd.prog 10 #[v, x] w fun e w' => e = .returned (.bool true) ∧ Below w.heap.size w w' := by
  obtain ⟨A1, xs, n1, c1, rfl, hl1, hc1, hr1, _, hcan1, hU1⟩ := h1
  obtain ⟨A2, ys, n2, c2, rfl, hl2, hc2, hr2, hcan2, hV2, hn2⟩ := h2.form ha
  have hn1 : n1 ≤ 5000 := by
    have h3 : a < 4294967296 ^ k := Nat.lt_of_lt_of_le ha (Nat.pow_le_pow_left (by omega) k)
    have := hcan1.len (k := k) (by omega)
    omega
  have HL1 := Lib.hid hl1
  have HU1 := Lib.hid hU1
  clear hl1 hU1 ha
  go_enter Tryd.func10, Tryd.ntmps10
  go_wp2_with fail
  have hB0 : Below w.heap.size w (w.alloc (.cells #[.slice A2 n2 c2] 28)) := (Below.refl _ _).alloc (Nat.le_refl _) _
  refine (out_any A2 ys n2 c2 _ hl2.out ((hr2.below hB0 (Nat.le_refl _)).more hB0.size) hcan2 (by omega)).mono ?_
  rintro e w1 ⟨v, rfl, ⟨A3, zs, n3, c3, rfl, hl3, hc3, hr3, _, hcan3, hU3⟩, hb1⟩
  have heq : xs = zs := U_inj hcan1 hcan3 (by rw [HU1.out, hU3, hV2.out])
  have HEQ := Lib.hid heq
  have HL3 := Lib.hid hl3
  have hB1 : Below w.heap.size w w1 := hB0.trans (hb1.mono hB0.size)
  clear heq hl3 hU3
  go_wp2_with fail
  refine (same_any A1 A3 xs zs n1 c1 n3 c3 w1 HL1.out HL3.out ((hr1.below hB1 (Nat.le_refl _)).more hB1.size) hr3 (by omega)).mono ?_
  rintro e w2 ⟨rfl, hb2⟩
  rw [decide_eq_true HEQ.out]
  go_wp2_with fail
  go_ret
  exact ⟨rfl, hB1.trans (hb2.mono hB1.size)⟩

structure BitsMem (w : World) (s0 : Value) (g : Nat) (s : Value) (a : Nat) (W : World) : Prop where
  below : Below w.heap.size w W
  one : Blk W w.heap.size 28 #[s0]
  two : Blk W g 28 #[s]
  far : w.heap.size < g
  num : Num W 0 (.agg #[s]) a
theorem BitsMem.more {w W W' : World} {s0 s : Value} {g a : Nat} (h : BitsMem w s0 g s a W) (hb : Below W.heap.size W W') : BitsMem w s0 g s a W' :=
  ⟨h.below.trans (hb.mono h.below.size), h.one.below hb h.one.lt, h.two.below hb h.two.lt, h.far, h.num.below hb⟩
theorem BitsMem.put {w W : World} {s0 s s' : Value} {g a b L : Nat} (h : BitsMem w s0 g s a W) (hn : Num W L (.agg #[s']) b) (hL : g < L) : BitsMem w s0 g s' b (W.setCell ⟨g, 0, none⟩ s') :=
  ⟨h.below.setCell (by have := h.far; simp; omega) _, h.one.far (by have := h.far; simp; omega) _, h.two.set_ 0 s', h.far, (hn.old (by simpa using hL) _).more (Nat.zero_le _)⟩

theorem pow_two_small {a k j : Nat} (ha : a < 65536 ^ j) (hk : k = 0 ∨ 2 ^ (k - 1) ≤ a) : 2 ^ k < 65536 ^ (j + 1) := by
  have h1 : 0 < 65536 ^ j := Nat.pow_pos (by omega)
  rw [Nat.pow_succ]
  rcases hk with rfl | hk
  · rw [Nat.pow_zero]; omega
  · cases k with
    | zero => rw [Nat.pow_zero]; omega
    | succ k => rw [Nat.pow_succ]; rw [Nat.add_sub_cancel] at hk; omega
theorem pow_two_steps {a k j : Nat} (ha : a < 65536 ^ j) (hk : k = 0 ∨ 2 ^ (k - 1) ≤ a) : k ≤ 16 * j + 1 := by
  rcases hk with rfl | hk
  · omega
  · rcases Nat.lt_or_ge (16 * j) (k - 1) with h | h
    · have := Nat.pow_le_pow_right (show 0 < 2 by omega) (Nat.le_of_lt h)
      rw [Nat.pow_mul] at this
      have e : (2 : Nat) ^ 16 = 65536 := by decide
      rw [e] at this
      omega
    · omega

set_option maxHeartbeats 4000000 in
theorem bits3_any {j : Nat} (s0 : Value) (a L : Nat) (w : World) (h : Num w L (.agg #[s0]) a) (ha : a < 65536 ^ j) (hj : j ≤ 4000) :
    Calls Tryd.prog 15 #[.agg #[s0]] w fun e w' => ∃ b : Nat, e = .returned (.int .i64 (b : Int)) ∧ IsBits a b ∧ Below w.heap.size w w' := by
  have HA := Lib.hid ha
  have hstep : ∀ k, (k = 0 ∨ 2 ^ (k - 1) ≤ a) → k ≤ 16 * j + 1 := fun k hk => pow_two_steps ha hk
  have HS := Lib.hid hstep
  clear ha hstep
  obtain ⟨A0, n0, c0, hs0⟩ := h.shape
  obtain rfl : s0 = .slice A0 n0 c0 := by simpa using hs0
  clear hs0
  go_enter Tryd.func15, Tryd.ntmps15
  go_wp2_with fail
  refine (of_any 1 _ (by omega)).mono ?_
  rintro e w1 ⟨v1, rfl, hn1, hb1⟩
  obtain ⟨A1, n1, c1, rfl⟩ := hn1.shape
  have hb0 : Below w.heap.size w w1 := ((Below.refl _ w).alloc (Nat.le_refl _) _).trans (hb1.mono (by simp))
  have hs1 : w.heap.size < w1.heap.size := by have := hb1.size; simp at this; omega
  have HM1 : Hid (BitsMem w (.slice A0 n0 c0) w1.heap.size (.slice A1 n1 c1) 1 (w1.alloc (.cells #[.slice A1 n1 c1] 28))) := Lib.hid
    ⟨hb0.alloc hb0.size _, ((Blk.new w _ _).below hb1 (by simp)).alloc _, Blk.new _ _ _, hs1, (hn1.alloc _).more (Nat.zero_le _)⟩
  obtain ⟨g, hg⟩ : ∃ g, g = w1.heap.size := ⟨_, rfl⟩
  clear hn1 hb1
  go_wp2_with fail
  rw [← hg] at HM1 ⊢
  clear hg
  go_loopw [3] (fun nv wr => ∃ (k : Nat) (A' : Option Addr) (n' c' : Nat), nv = .int .i64 (k : Int) ∧ (k = 0 ∨ 2 ^ (k - 1) ≤ a) ∧ BitsMem w (.slice A0 n0 c0) g (.slice A' n' c') (2 ^ k) wr) (fun nv _ => 16 * j + 2 - (intOf nv).toNat)
  case atStart => exact ⟨0, A1, n1, c1, rfl, .inl rfl, HM1.out⟩
  case round =>
    clear HM1
    obtain ⟨k, A', n', c', rfl, hk, hm⟩ := hrel
    have hks : k ≤ 16 * j + 1 := HS.out k hk
    have HK := Lib.hid hk
    have HM := Lib.hid hm
    have cx := hm.one.cell 0
    have cp := hm.two.cell 0
    have HP : Hid (2 ^ k < 65536 ^ (j + 1)) := Lib.hid (pow_two_small HA.out hk)
    clear hk hm
    go_wp2_with fail
    refine (cmp_num (.agg #[.slice A' n' c']) (.agg #[.slice A0 n0 c0]) (2 ^ k) a 0 L wr HM.out.num (h.below HM.out.below) HP.out HA.out (by omega) (by omega)).mono ?_
    rintro e w2 ⟨rfl, hb2⟩
    have HM2 := Lib.hid (HM.out.more hb2)
    have cp2 := HM2.out.two.cell 0
    by_cases hle : 2 ^ k ≤ a
    · obtain ⟨z, hz, hz0⟩ : ∃ z : Int, cmpI (2 ^ k) a = z ∧ z ≤ 0 := by
        rcases Nat.lt_or_ge (2 ^ k) a with h | h
        · exact ⟨-1, cmpI_lt h, by omega⟩
        · exact ⟨0, cmpI_eq (by omega), by omega⟩
      rw [hz]
      have HLE := Lib.hid hle
      clear hz hle HM
      go_wp2_with fail
      refine (add_num (.agg #[.slice A' n' c']) (.agg #[.slice A' n' c']) (2 ^ k) (2 ^ k) 0 0 w2 HM2.out.num HM2.out.num HP.out HP.out (by omega) (by omega)).mono ?_
      rintro e w3 ⟨v3, rfl, hn3, hb3⟩
      obtain ⟨A3, n3, c3, rfl⟩ := hn3.shape
      have HM3 := Lib.hid ((HM2.out.more hb3).put hn3 HM2.out.two.lt)
      have cp3 := (HM2.out.more hb3).two.cell 0
      have fp3 := (HM2.out.more hb3).two.frozen 0
      have HE : Hid (2 ^ k + 2 ^ k = 2 ^ (k + 1)) := Lib.hid (by rw [Nat.pow_succ]; omega)
      rw [HE.out] at HM3
      clear hn3
      go_wp2_with fail
      go_roundw
      case rel => exact ⟨k + 1, A3, n3, c3, by go_num, .inr HLE.out, HM3.out⟩
      case measure => simp [intOf]; omega
    · have hgt : a < 2 ^ k := by omega
      rw [cmpI_gt hgt]
      have HGT := Lib.hid hgt
      clear hle hgt
      go_wp2_with fail
      go_ret
      exact ⟨k, rfl, ⟨HGT.out, HK.out⟩, HM2.out.below⟩
end Go.Proofs.YtnaofoahnjceiaaDoor
