/-
  Numbers and texts as bytes: the nil reader; the chapter's example.
-/
import Derived.Test.YtbogejpjnbdfcaaWireH
namespace Go.Proofs.Ytbogejpjnbdfcaa
open Go.RowKit
set_option maxRecDepth 100000

theorem fail_nil (k : Int) (w : World) : Calls Try.prog 20 #[.pointer none, .int .i64 k] w fun en w' => en = .returned (.tuple #[]) ∧ w' = w := by
  go_enter Try.func20, Try.ntmps20
  go_wp2_with fail
  go_end0
  exact ⟨rfl, rfl⟩
theorem err_nil (w : World) : Calls Try.prog 23 #[.pointer none] w fun en w' => en = .returned (.int .i64 4) ∧ w' = w := by
  go_enter Try.func23, Try.ntmps23
  go_wp2_with fail
  go_ret
  exact ⟨rfl, rfl⟩
theorem left_nil (w : World) : Calls Try.prog 22 #[.pointer none] w fun en w' => en = .returned (.int .i64 0) ∧ w' = w := by
  go_enter Try.func22, Try.ntmps22
  go_wp2_with fail
  go_ret
  exact ⟨rfl, rfl⟩
theorem num_nil (v : Int) (w : World) : Calls Try.prog 14 #[.pointer none, .int .u64 v] w fun en w' => en = .returned (.int .u64 0) ∧ w' = w := by
  go_enter Try.func14, Try.ntmps14
  go_wp2_with fail
  refine (err_nil _).mono ?_
  rintro en w1 ⟨rfl, rfl⟩
  go_wp2_with fail
  go_ret
  exact ⟨rfl, rfl⟩
theorem int_nil (v : Int) (w : World) : Calls Try.prog 16 #[.pointer none, .int .i64 v] w fun en w' => en = .returned (.int .i64 0) ∧ w' = w := by
  go_enter Try.func16, Try.ntmps16
  go_wp2_with fail
  all_goals
    refine (num_nil _ _).mono ?_
    rintro en w1 ⟨rfl, rfl⟩
    go_wp2_with fail
    go_ret
    exact ⟨rfl, rfl⟩
theorem text_nil (v : Int) (w : World) : Calls Try.prog 18 #[.pointer none, .int .i64 v] w fun en w' => en = .returned (.string ⟨#[]⟩) ∧ w' = w := by
  go_enter Try.func18, Try.ntmps18
  go_wp2_with fail
  refine (err_nil _).mono ?_
  rintro en w1 ⟨rfl, rfl⟩
  go_wp2_with fail
  go_ret
  exact ⟨rfl, rfl⟩

theorem pn_300 : pn 300 = [172, 2] := by
  rw [pn_big (by omega), pn_small (by omega)]
  rfl
theorem pn_2 : pn 2 = [2] := by rw [pn_small (by omega)]; rfl
theorem ex_num : numT 300 ([172, 2, 2, 97, 98], 0) = (300, ([2, 97, 98], 0)) := by decide
theorem ex_text : textT 2 ([2, 97, 98], 0) = ([97, 98], ([], 0)) := by decide
theorem ex_bad : numT 5 ([128, 0], 0) = (0, ([128, 0], 3)) := by decide
theorem Rb.lit (w : World) (t : TypeId) (xs : List UInt8) : Rb (w.alloc (.cells (u8s xs).toArray t)) (w.heap.size + 1) (some ⟨w.heap.size, 0, none⟩) xs := fun _ =>
  ⟨w.heap.size, 0, rfl, by omega, fun k hk => by
    rw [(Blk.new w t (u8s xs).toArray).cell (0 + k), Nat.zero_add]
    simpa using u8s_get hk⟩

theorem wrote_b {B g : Nat} {w W W' : World} (h : Below B w W) (hg : W.grownBy W' (some g)) (hB : B ≤ g) (hs : B ≤ W.heap.size) : Below B w W' := h.grown hg hs (fun k hk => by cases hk; exact hB)
theorem str_ab : ([97, 98] : List UInt8).toArray = #[97, 98] := rfl

set_option maxHeartbeats 2000000 in
theorem alive5_any (w : World) : Calls Try.prog 7 #[] w fun en w' => en = .returned (.bool true) ∧ Below w.heap.size w w' := by
  have hru := ru_one w 300 26
  have hba := b1_ w (.cells #[.int .u64 ((300 : Nat) : Int)] 26)
  have hc1 := wput_any none (some ⟨w.heap.size, 0, none⟩) [] [300] 0 0 1 1 (w.alloc (.cells #[.int .u64 ((300 : Nat) : Int)] 26)) rfl rfl (Rb.nil _ _ _) hru (Wds.of_all (by simp)) (by omega) (by omega)
  have HC1 := Lib.hid hc1
  have HBA := Lib.hid hba
  clear hru hc1 hba
  go_enter Try.func7, Try.ntmps7
  go_wp2_with fail
  refine HC1.out.mono ?_
  rintro en w1 ⟨A1, n1, c1, rfl, hl1, hc1, hown1, hb1⟩
  rw [List.nil_append, pns_one, pn_300] at hl1 hown1
  have hb2 := HBA.out.trans (hb1.mono HBA.out.size)
  have hC2 := putText_any A1 [172, 2] n1 c1 ⟨#[97, 98]⟩ w1 hl1 (Rb.of_own hown1) (by rw [← hl1]; simp) (by decide)
  rw [show (⟨#[97, 98]⟩ : ByteArray).size = 2 from rfl, pn_2] at hC2
  have HC2 := Lib.hid hC2
  clear hown1 hl1 hC2 HC1 hb1
  go_wp2_with fail
  refine HC2.out.mono ?_
  rintro en w2 ⟨A2, n2, c2, rfl, hl2, hc2, hown2, hb3⟩
  have hb4 := hb2.trans (hb3.mono hb2.size)
  have hr2 := Rb.of_own hown2
  have HR2 := Lib.hid hr2
  have HL2 := Lib.hid hl2
  have HC3 := Lib.hid (newReader_any A2 _ n2 c2 w2 hl2 hr2 (by rw [← hl2]; simp))
  clear hown2 hl2 hr2 HC2 hb3 hb2 HBA
  go_wp2_with fail
  refine HC3.out.mono ?_
  rintro en w3 ⟨g, rfl, hg, hw3, hb5⟩
  have hb5s : w2.heap.size ≤ w3.heap.size := hb5.size
  have HC4 := Lib.hid (num_any g _ 0 300 w3 hw3 (by omega))
  rw [show [172, 2] ++ [2] ++ (⟨#[97, 98]⟩ : ByteArray).data.toList = ([172, 2, 2, 97, 98] : List UInt8) from rfl] at HC4 HR2 HL2
  rw [ex_num] at HC4
  clear hw3 HC3
  go_wp2_with fail
  refine HC4.out.mono ?_
  rintro en w4 ⟨rfl, hw4, hg4⟩
  have HB4 := Lib.hid (wrote_b hb5 hg4 hg hb5s)
  have HC5 := Lib.hid (textr_any g _ 0 2 w4 hw4 (by omega))
  rw [show (2 : Int).toNat = 2 from rfl, ex_text] at HC5
  clear hw4 HC4 hg4 hb5
  go_wp2_with fail
  refine HC5.out.mono ?_
  rintro en w5 ⟨rfl, hw5, hg5⟩
  have hb5 := wrote_b HB4.out hg5 hg HB4.out.size
  have hba := b1_ w5 (.cells #[.int .u8 128, .int .u8 0] 5)
  have hlit : Rb (w5.alloc (.cells #[.int .u8 128, .int .u8 0] 5)) (w5.alloc (.cells #[.int .u8 128, .int .u8 0] 5)).heap.size (some ⟨w5.heap.size, 0, none⟩) [128, 0] := (Rb.lit w5 5 [128, 0]).more (by simp)
  have HC6 := Lib.hid (newReader_any (some ⟨w5.heap.size, 0, none⟩) [128, 0] 2 2 (w5.alloc (.cells #[.int .u8 128, .int .u8 0] 5)) rfl hlit (by omega))
  have HB5 := Lib.hid hb5
  have HBA := Lib.hid hba
  have HW5 := Lib.hid hw5
  clear HC5 hg5 hb5 hba hlit hw5 HB4
  go_wp2_with fail
  refine HC6.out.mono ?_
  rintro en w6 ⟨g2, rfl, hg2, hw6, hb6⟩
  have hb7 := HB5.out.trans ((HBA.out.trans (hb6.mono HBA.out.size)).mono HB5.out.size)
  have HR6 := Lib.hid (HW5.out.below (HBA.out.trans (hb6.mono HBA.out.size)))
  have hg2w : w2.heap.size ≤ g2 := by have := HB5.out.size; have := HBA.out.size; omega
  have hcv := conv_bytes w6 w2.heap.size A2 [172, 2, 2, 97, 98] n2 c2 (HR2.out.below hb7 (Nat.le_refl _)) HL2.out
  have HB7 := Lib.hid hb7
  have HX6 := Lib.hid hw6
  have HL7 := Lib.hid (left_any g _ 0 w6 HR6.out)
  clear HC6 hb7 hw6 hb6 HBA HB5 HW5
  go_wp2_with fail
  refine HL7.out.mono ?_
  rintro en w7 ⟨rfl, rfl⟩
  have HC8 := Lib.hid (num_any g2 _ 0 5 w7 HX6.out (by omega))
  rw [ex_bad] at HC8
  go_wp2_with fail
  refine HC8.out.mono ?_
  rintro en w8 ⟨rfl, hw8, hg8⟩
  have HE8 := Lib.hid (err_any g2 _ _ w8 hw8)
  have HL8 := Lib.hid (left_any g2 _ _ w8 hw8)
  have hb8 := wrote_b HB7.out hg8 hg2w HB7.out.size
  have HB8 := Lib.hid hb8
  clear hw8 hg8 hb8 hcv
  go_wp2_with fail
  refine HE8.out.mono ?_
  rintro en w9 ⟨rfl, rfl⟩
  go_wp2_with fail
  refine HL8.out.mono ?_
  rintro en w10 ⟨rfl, rfl⟩
  go_wp2_with fail
  go_ret
  exact ⟨rfl, hb4.trans (HB8.out.mono hb4.size)⟩
end Go.Proofs.Ytbogejpjnbdfcaa
