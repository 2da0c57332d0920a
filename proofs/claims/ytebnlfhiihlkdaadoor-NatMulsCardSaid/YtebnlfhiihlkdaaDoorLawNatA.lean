/-
  The chapter's example: alive.
-/
import Derived.Test.YtebnlfhiihlkdaaDoorText
import Derived.Test.YtebnlfhiihlkdaaDoorParse
import Derived.Test.YtebnlfhiihlkdaaDoorRef3B
namespace Go.Proofs.YtebnlfhiihlkdaaDoor
open Go.RowKit
set_option maxRecDepth 100000

theorem nv_list {w : World} {L a : Nat} {v : Value} (h : Nv w L v a) {ys : List Nat} (hy : Cn ys) (hU : U ys = a) {n : Nat} (hn : ys.length = n) : ∃ A c, v = .slice A n c ∧ n ≤ c ∧ Ra w w.heap.size A ys := by
  obtain ⟨A, xs, n', c, rfl, hl, hc, hr, _, hcn, hu⟩ := h
  obtain rfl : xs = ys := U_inj hcn hy (by omega)
  obtain rfl : n = n' := by omega
  exact ⟨A, c, rfl, hc, hr⟩

theorem alive_txt : (⟨(Lib.decDigits 4294967296).toArray⟩ : ByteArray) = ⟨#[52, 50, 57, 52, 57, 54, 55, 50, 57, 54]⟩ := by
  have h : Lib.decDigits 4294967296 = [52, 50, 57, 52, 57, 54, 55, 50, 57, 54] := by
    rw [decDigits_step (by omega), decDigits_step (by omega), decDigits_step (by omega), decDigits_step (by omega), decDigits_step (by omega), decDigits_step (by omega), decDigits_step (by omega), decDigits_step (by omega), decDigits_step (by omega), Lib.decDigits_one (by omega)]
    rfl
  rw [h]

set_option maxHeartbeats 4000000 in
theorem alive3_any (w : World) (htab : Tab w) : Calls Tryd.prog 7 #[] w fun e w' => e = .returned (.bool true) ∧ Below w.heap.size w w' := by
  have hc01 : Cn [0, 1] := Cn.snoc (xs := [0]) (by intro d hd; simp at hd; omega) (by omega) (by omega)
  have hu01 : U [0, 1] = 4294967296 := by simp [U]
  have p1 := fun wz => parse_ok ⟨#[52, 50, 57, 52, 57, 54, 55, 50, 57, 54]⟩ (by decide) (by decide) wz
  have p2 := fun wz => parse_form ⟨#[48, 49]⟩ (by decide) (by decide) wz
  rw [show DV 0 (⟨#[52, 50, 57, 52, 57, 54, 55, 50, 57, 54]⟩ : ByteArray).data.toList = 4294967296 by kernel_rfl] at p1
  have HC := Lib.hid hc01
  have HU := Lib.hid hu01
  clear hc01 hu01
  go_enter Tryd.func7, Tryd.ntmps7
  go_wp2_with fail
  refine (natOf_any 4294967296 w (by omega)).mono ?_
  rintro e w1 ⟨v, rfl, hnv, hb1⟩
  obtain ⟨A1, c1, rfl, hc1, hr1⟩ := nv_list hnv HC.out HU.out (n := 2) rfl
  have hs1 := hb1.size
  clear hnv
  go_wp2_with fail
  refine (p1 w1).mono ?_
  rintro e w2 ⟨A2, n2, c2, zs, rfl, how, hc2, _, hcn2, hU2, hb2⟩
  obtain rfl : zs = [0, 1] := U_inj hcn2 HC.out (by rw [hU2, HU.out])
  have hn2 := how.len
  simp only [List.length_cons, List.length_nil] at hn2
  subst hn2
  have hr2 := how.reads.1
  have hs2 := hb2.size
  have hr12 := (hr1.below hb2 (Nat.le_refl _)).more hs2
  have hB2 := hb1.trans (hb2.mono hs1)
  clear how hcn2 hU2 hr1
  go_wp2_with fail
  refine (p2 w2).mono ?_
  rintro e w3 ⟨rfl, hb3⟩
  have hs3 := hb3.size
  have hr13 := (hr12.below hb3 (Nat.le_refl _)).more hs3
  have hr23 := (hr2.below hb3 (Nat.le_refl _)).more hs3
  have hB3 := hB2.trans (hb3.mono hB2.size)
  clear hr12 hr2 p1 p2
  go_wp2_with fail
  have hb0 : Below w3.heap.size w3 (w3.alloc (.cells #[.int .u32 0, .int .u32 1] 77)) := (Below.refl _ _).alloc (Nat.le_refl _) _
  have hlit : Ra (w3.alloc (.cells #[.int .u32 0, .int .u32 1] 77)) (w3.heap.size + 1) (some ⟨w3.heap.size, 0, none⟩) [0, 1] := Ra.lit w3 77 [0, 1]
  have hr14 := (hr13.below hb0 (Nat.le_refl _)).more hb0.size
  have hr24 := (hr23.below hb0 (Nat.le_refl _)).more hb0.size
  have hB4 := hB3.trans (hb0.mono hB3.size)
  have hsz : (w3.alloc (.cells #[.int .u32 0, .int .u32 1] 77)).heap.size = w3.heap.size + 1 := by simp
  rw [← hsz] at hlit
  generalize w3.alloc (.cells #[.int .u32 0, .int .u32 1] 77) = w4 at *
  refine (same_any A1 (some ⟨w3.heap.size, 0, none⟩) [0, 1] [0, 1] 2 c1 2 2 w4 rfl rfl hr14 hlit (by omega)).mono ?_
  rintro e w5 ⟨rfl, hb5⟩
  rw [decide_eq_true rfl]
  have hs5 := hb5.size
  have hr15 := (hr14.below hb5 (Nat.le_refl _)).more hs5
  have hr25 := (hr24.below hb5 (Nat.le_refl _)).more hs5
  have hB5 := hB4.trans (hb5.mono hB4.size)
  clear hr14 hr24 hlit hr13 hr23
  go_wp2_with fail
  refine (text_any A1 [0, 1] 2 c1 w5 rfl hr15 HC.out.1 (by omega) hc1 (htab.below hB5)).mono ?_
  rintro e w6 ⟨rfl, hb6⟩
  rw [HU.out, alive_txt]
  have hs6 := hb6.size
  have hr16 := (hr15.below hb6 (Nat.le_refl _)).more hs6
  have hr26 := (hr25.below hb6 (Nat.le_refl _)).more hs6
  have hB6 := hB5.trans (hb6.mono hB5.size)
  clear hr15 hr25
  go_wp2_with fail
  refine (same_any A1 A2 [0, 1] [0, 1] 2 c1 2 c2 w6 rfl rfl hr16 hr26 (by omega)).mono ?_
  rintro e w7 ⟨rfl, hb7⟩
  rw [decide_eq_true rfl]
  have hB7 := hB6.trans (hb7.mono hB6.size)
  clear hr16 hr26
  go_wp2_with fail
  go_ret
  exact ⟨rfl, hB7⟩
end Go.Proofs.YtebnlfhiihlkdaaDoor
