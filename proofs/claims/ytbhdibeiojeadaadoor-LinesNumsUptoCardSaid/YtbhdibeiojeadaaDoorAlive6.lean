/-
  Lines: the chapter's example.
-/
import Derived.Test.YtbhdibeiojeadaaDoorReadP
import Derived.Test.YtbhdibeiojeadaaDoorNumQ
import Derived.Test.YtbhdibeiojeadaaDoorJoinP
import Derived.Test.YtbhdibeiojeadaaDoorL6E
namespace Go.Proofs.YtbhdibeiojeadaaDoor
open Go.RowKit
set_option maxRecDepth 100000

theorem ex_read1 : readN (cutTo 10 [97, 32, 98, 10] 4) = 0 ∧ (cutTo 10 [97, 32, 98, 10] 4).length - 1 = 1 ∧ readL (cutTo 10 [97, 32, 98, 10] 4) = [[⟨#[97]⟩, ⟨#[98]⟩]] := by decide +kernel
theorem ex_read2 : readN (cutTo 10 [97, 10, 10] 3) = 2 := by decide +kernel
theorem ex_num : numO [45, 49, 50] = some (-12) := by decide +kernel
theorem ex_wide : wideO [45, 49] = none := by decide +kernel
theorem ex_join : lineT [⟨#[97]⟩, ⟨#[98]⟩] = ⟨#[97, 32, 98]⟩ := by decide +kernel
/-- The example's line. -/
def exL : List (List ByteArray) := [[⟨#[97]⟩, ⟨#[98]⟩]]
theorem rs_ab (w : World) : Rs (w.alloc (.cells #[.string ⟨#[97]⟩, .string ⟨#[98]⟩] 9)) (some ⟨w.heap.size, 0, none⟩) [⟨#[97]⟩, ⟨#[98]⟩] := by
  have hk := Blk.new w 9 #[.string ⟨#[97]⟩, .string ⟨#[98]⟩]
  intro _
  refine ⟨w.heap.size, 0, rfl, hk.lt, fun k v hv => ?_⟩
  match k, hv with
  | 0, hv =>
    obtain rfl : Value.string ⟨#[97]⟩ = v := by simpa [strs] using hv
    exact hk.cell 0
  | 1, hv =>
    obtain rfl : Value.string ⟨#[98]⟩ = v := by simpa [strs] using hv
    exact hk.cell 1
  | k + 2, hv => simp [strs] at hv
theorem ex_r1 (w : World) (hv : LibV w) : Calls Tryd.prog 17 #[.string ⟨#[97, 32, 98, 10]⟩] w fun e w' => ∃ A cp, e = .returned (.tuple #[.slice A 1 cp, .int .i64 0, .int .i64 0]) ∧ 1 ≤ cp ∧ Lns w' A exL ∧ Below w.heap.size w w' := by
  refine (pRead_any ⟨#[97, 32, 98, 10]⟩ w (by decide) hv).mono ?_
  rintro e w1 ⟨h, hb⟩
  have h0 : readN (cutTo 10 [97, 32, 98, 10] 4) = 0 := ex_read1.1
  rcases h with ⟨_, A, cp, he, hc, hl⟩ | ⟨hp, _⟩
  · have q1 : (cutTo 10 (⟨#[97, 32, 98, 10]⟩ : ByteArray).data.toList (⟨#[97, 32, 98, 10]⟩ : ByteArray).size).length - 1 = 1 := ex_read1.2.1
    have q2 : readL (cutTo 10 (⟨#[97, 32, 98, 10]⟩ : ByteArray).data.toList (⟨#[97, 32, 98, 10]⟩ : ByteArray).size) = exL := ex_read1.2.2
    rw [q1] at he hc
    rw [q2] at hl
    exact ⟨A, cp, he, hc, hl, hb⟩
  · exact absurd hp (by show ¬ 0 < readN (cutTo 10 [97, 32, 98, 10] 4); rw [h0]; omega)
theorem ex_r2 (w : World) (hv : LibV w) : Calls Tryd.prog 17 #[.string ⟨#[97, 10, 10]⟩] w fun e w' => e = .returned (.tuple #[.slice none 0 0, .int .i64 2, .int .i64 3]) ∧ Below w.heap.size w w' := by
  refine (pRead_any ⟨#[97, 10, 10]⟩ w (by decide) hv).mono ?_
  rintro e w1 ⟨h, hb⟩
  have q : readN (cutTo 10 (⟨#[97, 10, 10]⟩ : ByteArray).data.toList (⟨#[97, 10, 10]⟩ : ByteArray).size) = 2 := ex_read2
  rw [q] at h
  rcases h with ⟨hp, _⟩ | ⟨_, he⟩
  · cases hp
  · exact ⟨he, hb⟩
theorem ex_n (w : World) (hv : LibV w) : Calls Tryd.prog 6 #[.string ⟨#[45, 49, 50]⟩] w fun e w' => e = .returned (.tuple #[.int .i64 (-12), .bool true]) ∧ Below w.heap.size w w' := by
  refine (pNum_any ⟨#[45, 49, 50]⟩ w (by decide) hv).mono ?_
  rintro e w3 ⟨h, hb⟩
  have q : numO (⟨#[45, 49, 50]⟩ : ByteArray).data.toList = some (-12) := ex_num
  rcases h with ⟨hp, _⟩ | ⟨z, hp, he⟩
  · rw [q] at hp; cases hp
  · rw [q] at hp; injection hp with hp; rw [← hp] at he; exact ⟨he, hb⟩
theorem ex_w (w : World) (hv : LibV w) : Calls Tryd.prog 8 #[.string ⟨#[45, 49]⟩] w fun e w' => e = .returned (.tuple #[.int .u64 0, .bool false]) ∧ Below w.heap.size w w' := by
  refine (pWide_any ⟨#[45, 49]⟩ w (by decide) hv).mono ?_
  rintro e w4 ⟨h, hb⟩
  have q : wideO (⟨#[45, 49]⟩ : ByteArray).data.toList = none := ex_wide
  rcases h with ⟨_, he⟩ | ⟨z, hp, _⟩
  · exact ⟨he, hb⟩
  · rw [q] at hp; cases hp
theorem ex_same (w4 : World) (A : Option Addr) (cp : Nat) (hcp : 1 ≤ cp) (h : Lns w4 A exL) :
    Calls Tryd.prog 21 #[.slice A 1 cp, .slice (some ⟨w4.heap.size + 1, 0, none⟩) 1 1] ((w4.alloc (.cells #[.string ⟨#[97]⟩, .string ⟨#[98]⟩] 9)).alloc (.cells #[.slice (some ⟨w4.heap.size, 0, none⟩) 2 2] 22)) fun e w' => e = .returned (.bool true) ∧ Below w4.heap.size w4 w' := by
  have hb5 := b1' w4 (.cells #[.string ⟨#[97]⟩, .string ⟨#[98]⟩] 9)
  have hrs := rs_ab w4
  obtain ⟨w5, hw5⟩ : ∃ W, w4.alloc (.cells #[.string ⟨#[97]⟩, .string ⟨#[98]⟩] 9) = W := ⟨_, rfl⟩
  have hsz : w5.heap.size = w4.heap.size + 1 := by rw [← hw5]; simp
  have hb6 := b1' w5 (.cells #[.slice (some ⟨w4.heap.size, 0, none⟩) 2 2] 22)
  have hk6 := Blk.new w5 22 #[.slice (some ⟨w4.heap.size, 0, none⟩) 2 2]
  rw [hw5] at hb5 hrs
  have hl6 : Lns (w5.alloc (.cells #[.slice (some ⟨w4.heap.size, 0, none⟩) 2 2] 22)) (some ⟨w5.heap.size, 0, none⟩) exL := fun _ => ⟨w5.heap.size, 0, rfl, hk6.lt, fun k hk => by
    obtain rfl : k = 0 := by have : exL.length = 1 := rfl; omega
    exact ⟨_, 2, hk6.cell 0, Nat.le_refl _, hrs.below hb6⟩⟩
  have hb56 := hb5.trans (hb6.mono hb5.size)
  have hs := refSame6_any A (some ⟨w5.heap.size, 0, none⟩) exL exL 1 cp 1 1 _ rfl rfl (h.below hb56) hl6 (by omega) (by omega) hcp (Nat.le_refl _) (fun k => by rcases k with _ | k <;> simp [exL]) (fun k => by rcases k with _ | k <;> simp [exL])
  rw [hsz, decide_eq_true rfl] at hs
  rw [hw5]
  exact hs.mono fun e w' ⟨h1, h2⟩ => ⟨h1, hb56.trans (h2.mono hb56.size)⟩
theorem ex_j (w : World) : Calls Tryd.prog 15 #[.slice (some ⟨w.heap.size, 0, none⟩) 2 2] (w.alloc (.cells #[.string ⟨#[97]⟩, .string ⟨#[98]⟩] 9)) fun e w' => e = .returned (.string ⟨#[97, 32, 98]⟩) ∧ Below w.heap.size w w' := by
  have h := pJoin_any _ [⟨#[97]⟩, ⟨#[98]⟩] 2 2 _ rfl (rs_ab w) (by omega) (by omega) (by rw [ex_join]; decide)
  rw [ex_join] at h
  have hb := b1' w (.cells #[.string ⟨#[97]⟩, .string ⟨#[98]⟩] 9)
  exact h.mono fun e w' ⟨h1, h2⟩ => ⟨h1, hb.trans (h2.mono hb.size)⟩

set_option maxHeartbeats 4000000 in
theorem alive6_any (w : World) (hv : LibV w) : Calls Tryd.prog 5 #[] w fun e w' => e = .returned (.bool true) ∧ Below w.heap.size w w' := by
  have HV := Lib.hid hv
  clear hv
  go_enter Tryd.func5, Tryd.ntmps5
  go_wp2_with fail
  refine (ex_r1 w HV.out).mono ?_
  rintro e w1 ⟨A, cp, rfl, hcp, hln, hb⟩
  have HLN := Lib.hid hln
  have HB := Lib.hid hb
  clear hln hb
  go_wp2_with fail
  refine (ex_r2 w1 (HV.out.below HB.out)).mono ?_
  rintro e w2 ⟨rfl, hb⟩
  have HLN := Lib.hid (HLN.out.below hb)
  have HB := Lib.hid (HB.out.trans (hb.mono HB.out.size))
  clear hb
  go_wp2_with fail
  refine (ex_n w2 (HV.out.below HB.out)).mono ?_
  rintro e w3 ⟨rfl, hb⟩
  have HLN := Lib.hid (HLN.out.below hb)
  have HB := Lib.hid (HB.out.trans (hb.mono HB.out.size))
  clear hb
  go_wp2_with fail
  refine (ex_w w3 (HV.out.below HB.out)).mono ?_
  rintro e w4 ⟨rfl, hb⟩
  have HLN := Lib.hid (HLN.out.below hb)
  have HB := Lib.hid (HB.out.trans (hb.mono HB.out.size))
  clear hb
  go_wp2_with fail
  refine (ex_same w4 A cp hcp HLN.out).mono ?_
  rintro e w5 ⟨rfl, hb⟩
  have HB := Lib.hid (HB.out.trans (hb.mono HB.out.size))
  clear hb HLN
  go_wp2_with fail
  refine (ex_j w5).mono ?_
  rintro e w6 ⟨rfl, hb⟩
  go_wp2_with fail
  go_ret
  exact ⟨rfl, HB.out.trans (hb.mono HB.out.size)⟩
end Go.Proofs.YtbhdibeiojeadaaDoor
