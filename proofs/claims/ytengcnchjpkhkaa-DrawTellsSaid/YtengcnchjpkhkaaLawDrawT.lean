/-
  Which words are taken for any total, what they tell, and how many tell one number, is the document's.
-/
import Derived.Test.YtengcnchjpkhkaaLawDrawA
namespace Go.Proofs.Ytengcnchjpkhkaa
open Go.RowKit
set_option maxRecDepth 100000

set_option maxHeartbeats 8000000 in
theorem tells8_walk (t x : Nat) (w : World) (ht : t < 18446744073709551616) (hx : x < 18446744073709551616) :
    Calls Try.prog 3 #[.int .u64 (t : Int), .int .u64 (x : Int)] w fun e w' => e = .returned (.bool true) ∧ Below w.heap.size w w' := by
  obtain ⟨E1, E2, hE, hE2, hq1, hq2⟩ : ∃ E1 E2, eachN t = E1 * 18446744073709551616 + E2 ∧ E2 < 18446744073709551616 ∧ eachN t / 18446744073709551616 = E1 ∧ eachN t % 18446744073709551616 = E2 := ⟨eachN t / 18446744073709551616, eachN t % 18446744073709551616, by omega, by omega, rfl, rfl⟩
  have HTL := Lib.hid (fun W => tell_any t x W ht hx)
  have HTR := Lib.hid (fun W => tell8_any t x W ht hx)
  have HER := Lib.hid (fun W => each8_any t W ht)
  have HR := Lib.hid (fun W => rest_any t W ht)
  have HRR := Lib.hid (fun W => rest8_any t W ht)
  have HTK := Lib.hid (fun W => taken_any t x W ht hx)
  have HEA := Lib.hid (fun W => each_val t E1 E2 W ht hE hE2)
  have HBK := Lib.hid (fun v L W (h : Num W L v (eachN t)) => back_num v (eachN t) L W h (by have := each_le t; omega))
  rw [hq1, hq2] at HBK
  obtain ⟨m, hm⟩ : ∃ m, tellN t x = m := ⟨_, rfl⟩
  obtain ⟨k, hk⟩ : ∃ k, decide (x < endN t) = k := ⟨_, rfl⟩
  obtain ⟨r, hr⟩ : ∃ r, restN t = r := ⟨_, rfl⟩
  rw [hm, hk] at HTL HTR
  rw [hr] at HR HRR
  rw [hk] at HTK
  clear hm hk hr hE hq1 hq2
  have hself : ∀ i : Int, (i == i) = true := fun i => by simp
  have hselfb : ∀ i : Bool, (i == i) = true := fun i => by simp
  go_enter Try.func3, Try.ntmps3
  go_wp2_with fail
  refine (HTL.out _).mono ?_
  rintro e w1 ⟨rfl, hb1⟩
  have HB1 := Lib.hid hb1
  clear hb1 HTL
  go_wp2_with fail
  refine (HTR.out _).mono ?_
  rintro e w2 ⟨rfl, hb2⟩
  have HB2 := Lib.hid (HB1.out.trans (hb2.mono HB1.out.size))
  clear HB1 hb2 HTR
  go_wp2_with fail
  refine (HER.out _).mono ?_
  rintro e w3 ⟨v3, rfl, hn3, hb3⟩
  obtain ⟨A3, n3, c3, rfl⟩ := hn3.shape
  have HB3 := Lib.hid (HB2.out.trans (hb3.mono HB2.out.size))
  have HBN := Lib.hid (HBK.out _ _ _ hn3)
  clear HB2 hb3 HER hn3 HBK
  go_wp2_with fail
  refine HBN.out.mono ?_
  rintro e w4 ⟨rfl, hb4⟩
  have hB4 := HB3.out.trans (hb4.mono HB3.out.size)
  clear HB3 HBN hb4
  go_wp2_with fail
  obtain ⟨wc, hwc⟩ : ∃ W, w4.alloc (.cells #[.int .u64 (E1 : Int), .int .u64 (E2 : Int)] 26) = W := ⟨_, rfl⟩
  have HBC : Hid (Below w.heap.size w wc) := Lib.hid (by rw [← hwc]; exact hB4.alloc hB4.size _)
  have hblk := Blk.new w4 26 #[.int .u64 (E1 : Int), .int .u64 (E2 : Int)]
  rw [hwc] at hblk
  rw [hwc]
  clear hwc
  have c0 : wc.cell? ⟨w4.heap.size, 0, none⟩ = some (.int .u64 (E1 : Int)) := hblk.cell 0
  have c1 : wc.cell? ⟨w4.heap.size, 1, none⟩ = some (.int .u64 (E2 : Int)) := hblk.cell 1
  clear hblk
  have hst : Below wc.heap.size wc wc.drew := (Below.refl _ _).drew
  have HBS := Lib.hid hst
  refine wp_region_held_drew (S := fun W => Below wc.heap.size wc W) (by kernel_rfl) hst (fun hHeld => ?_)
  obtain ⟨wn, hwn⟩ : ∃ W, wc.drew = W := ⟨_, rfl⟩
  rw [hwn] at HBS hHeld
  rw [hwn]
  clear hwn
  refine wpAnyH_take (i := 0) (v := ?_) (op_of rfl) (by kernel_rfl) (by kernel_rfl) (by kernel_rfl) (fun _ _ _ h => h) (Or.inl ⟨by rfl, fun W hS => ?_⟩) (by assumption) ?_
  rotate_left
  · dsimp only at hS
    go_simp
    try with_reducible rfl
  try dsimp only [Act.put]
  try simp only [List.setIfInBounds_toArray, List.set_cons_zero, List.set_cons_succ]
  refine wpAnyH_take (i := 2) (v := ?_) (op_of rfl) (by kernel_rfl) (by kernel_rfl) (by kernel_rfl) (fun _ _ _ h => h) (Or.inl ⟨by rfl, fun W hS => ?_⟩) (by assumption) ?_
  rotate_left
  · dsimp only at hS
    go_simp
    try with_reducible rfl
  try dsimp only [Act.put]
  try simp only [List.setIfInBounds_toArray, List.set_cons_zero, List.set_cons_succ]
  refine wpAnyH_ready (rs := [1]) (by kernel_rfl) (by simp) (AllReadyH.cons (op_of rfl) (fun K hK => ?_) AllReadyH.nil)
  go_simp
  refine (HR.out wn).mono ?_
  rintro en wn ⟨rfl, hb⟩
  have HBS := Lib.hid (HBS.out.trans (hb.mono HBS.out.size))
  clear hb
  refine hK.out _ _ HBS.out (fun hHeld => ?_)
  clear hK K
  try dsimp only [Act.put]
  try simp only [List.setIfInBounds_toArray, List.set_cons_zero, List.set_cons_succ]
  refine wpAnyH_ready (rs := [3]) (by kernel_rfl) (by simp) (AllReadyH.cons (op_of rfl) (fun K hK => ?_) AllReadyH.nil)
  go_simp
  refine (HRR.out wn).mono ?_
  rintro en wn ⟨rfl, hb⟩
  have HBS := Lib.hid (HBS.out.trans (hb.mono HBS.out.size))
  clear hb
  refine hK.out _ _ HBS.out (fun hHeld => ?_)
  clear hK K
  try dsimp only [Act.put]
  try simp only [List.setIfInBounds_toArray, List.set_cons_zero, List.set_cons_succ]
  refine wpAnyH_take (i := 4) (v := ?_) (op_of rfl) (by kernel_rfl) (by kernel_rfl) (by kernel_rfl) (fun _ _ _ h => h) (Or.inl ⟨by rfl, fun W hS => ?_⟩) (by assumption) ?_
  rotate_left
  · dsimp only at hS
    go_simp
    try with_reducible rfl
  try dsimp only [Act.put]
  try simp only [List.setIfInBounds_toArray, List.set_cons_zero, List.set_cons_succ]
  refine wpAnyH_take (i := 5) (v := ?_) (op_of rfl) (by kernel_rfl) (by kernel_rfl) (by kernel_rfl) (fun _ _ _ h => h) (Or.inl ⟨by rfl, fun W hS => ?_⟩) (by assumption) ?_
  rotate_left
  · dsimp only at hS
    go_simp
    try with_reducible rfl
  try dsimp only [Act.put]
  try simp only [List.setIfInBounds_toArray, List.set_cons_zero, List.set_cons_succ]
  refine wpAnyH_take (i := 6) (v := ?_) (op_of rfl) (by kernel_rfl) (by kernel_rfl) (by kernel_rfl) (fun _ _ _ h => h) (Or.inl ⟨by rfl, fun W hS => ?_⟩) (by assumption) ?_
  rotate_left
  · dsimp only at hS
    go_simp
    try with_reducible rfl
  try dsimp only [Act.put]
  try simp only [List.setIfInBounds_toArray, List.set_cons_zero, List.set_cons_succ]
  refine wpAnyH_take (i := 7) (v := ?_) (op_of rfl) (by kernel_rfl) (by kernel_rfl) (by kernel_rfl) (fun _ _ _ h => h) (Or.inl ⟨by rfl, fun W hS => ?_⟩) (by assumption) ?_
  rotate_left
  · dsimp only at hS
    go_simp
    try with_reducible rfl
  try dsimp only [Act.put]
  try simp only [List.setIfInBounds_toArray, List.set_cons_zero, List.set_cons_succ]
  refine wpAnyH_take (i := 9) (v := ?_) (op_of rfl) (by kernel_rfl) (by kernel_rfl) (by kernel_rfl) (fun _ _ _ h => h) (Or.inl ⟨by rfl, fun W hS => ?_⟩) (by assumption) ?_
  rotate_left
  · dsimp only at hS
    go_simp
    try with_reducible rfl
  try dsimp only [Act.put]
  try simp only [List.setIfInBounds_toArray, List.set_cons_zero, List.set_cons_succ]
  refine wpAnyH_ready (rs := [8]) (by kernel_rfl) (by simp) (AllReadyH.cons (op_of rfl) (fun K hK => ?_) AllReadyH.nil)
  go_simp
  refine (HTK.out wn).mono ?_
  rintro en wn ⟨rfl, hb⟩
  have HBS := Lib.hid (HBS.out.trans (hb.mono HBS.out.size))
  clear hb
  refine hK.out _ _ HBS.out (fun hHeld => ?_)
  clear hK K
  try dsimp only [Act.put]
  try simp only [List.setIfInBounds_toArray, List.set_cons_zero, List.set_cons_succ]
  refine wpAnyH_take (i := 10) (v := ?_) (op_of rfl) (by kernel_rfl) (by kernel_rfl) (by kernel_rfl) (fun _ _ _ h => h) (Or.inl ⟨by rfl, fun W hS => ?_⟩) (by assumption) ?_
  rotate_left
  · dsimp only at hS
    go_simp
    try with_reducible rfl
  try dsimp only [Act.put]
  try simp only [List.setIfInBounds_toArray, List.set_cons_zero, List.set_cons_succ]
  refine wpAnyH_take (i := 11) (v := ?_) (op_of rfl) (by kernel_rfl) (by kernel_rfl) (by kernel_rfl) (fun _ _ _ h => h) (Or.inl ⟨by rfl, fun W hS => ?_⟩) (by assumption) ?_
  rotate_left
  · dsimp only at hS
    go_simp
    try with_reducible rfl
  try dsimp only [Act.put]
  try simp only [List.setIfInBounds_toArray, List.set_cons_zero, List.set_cons_succ]
  refine wpAnyH_take (i := 12) (v := ?_) (op_of rfl) (by kernel_rfl) (by kernel_rfl) (by kernel_rfl) (fun _ _ _ h => h) (Or.inl ⟨by rfl, fun W hS => ?_⟩) (by assumption) ?_
  rotate_left
  · dsimp only at hS
    go_simp
    try with_reducible rfl
  try dsimp only [Act.put]
  try simp only [List.setIfInBounds_toArray, List.set_cons_zero, List.set_cons_succ]
  refine wpAnyH_take (i := 13) (v := ?_) (op_of rfl) (by kernel_rfl) (by kernel_rfl) (by kernel_rfl) (fun _ _ _ h => h) (Or.inl ⟨by rfl, fun W hS => ?_⟩) (by assumption) ?_
  rotate_left
  · dsimp only at hS
    go_simp
    try with_reducible rfl
  try dsimp only [Act.put]
  try simp only [List.setIfInBounds_toArray, List.set_cons_zero, List.set_cons_succ]
  refine wpAnyH_take (i := 14) (v := ?_) (op_of rfl) (by kernel_rfl) (by kernel_rfl) (by kernel_rfl) (fun _ _ _ h => h) (Or.inl ⟨by rfl, fun W hS => ?_⟩) (by assumption) ?_
  rotate_left
  · dsimp only at hS
    go_simp
    try with_reducible rfl
  try dsimp only [Act.put]
  try simp only [List.setIfInBounds_toArray, List.set_cons_zero, List.set_cons_succ]
  refine wpAnyH_take (i := 15) (v := ?_) (op_of rfl) (by kernel_rfl) (by kernel_rfl) (by kernel_rfl) (fun _ _ _ h => h) (Or.inl ⟨by rfl, fun W hS => ?_⟩) (by assumption) ?_
  rotate_left
  · dsimp only at hS
    go_simp
    try with_reducible rfl
  try dsimp only [Act.put]
  try simp only [List.setIfInBounds_toArray, List.set_cons_zero, List.set_cons_succ]
  refine wpAnyH_take (i := 16) (v := ?_) (op_of rfl) (by kernel_rfl) (by kernel_rfl) (by kernel_rfl) (fun _ _ _ h => h) (Or.inl ⟨by rfl, fun W hS => ?_⟩) (by assumption) ?_
  rotate_left
  · dsimp only at hS
    go_simp
    try with_reducible rfl
  try dsimp only [Act.put]
  try simp only [List.setIfInBounds_toArray, List.set_cons_zero, List.set_cons_succ]
  refine wpAnyH_take (i := 17) (v := ?_) (op_of rfl) (by kernel_rfl) (by kernel_rfl) (by kernel_rfl) (fun _ _ _ h => h) (Or.inl ⟨by rfl, fun W hS => ?_⟩) (by assumption) ?_
  rotate_left
  · dsimp only at hS
    go_simp
    try with_reducible rfl
  try dsimp only [Act.put]
  try simp only [List.setIfInBounds_toArray, List.set_cons_zero, List.set_cons_succ]
  refine wpAnyH_take (i := 18) (v := ?_) (op_of rfl) (by kernel_rfl) (by kernel_rfl) (by kernel_rfl) (fun _ _ _ h => h) (Or.inl ⟨by rfl, fun W hS => ?_⟩) (by assumption) ?_
  rotate_left
  · dsimp only at hS
    go_simp
    try with_reducible rfl
  try dsimp only [Act.put]
  try simp only [List.setIfInBounds_toArray, List.set_cons_zero, List.set_cons_succ]
  refine wpAnyH_take (i := 19) (v := ?_) (op_of rfl) (by kernel_rfl) (by kernel_rfl) (by kernel_rfl) (fun _ _ _ h => h) (Or.inl ⟨by rfl, fun W hS => ?_⟩) (by assumption) ?_
  rotate_left
  · dsimp only at hS
    go_simp
    try with_reducible rfl
  try dsimp only [Act.put]
  try simp only [List.setIfInBounds_toArray, List.set_cons_zero, List.set_cons_succ]
  refine wpAnyH_take (i := 20) (v := ?_) (op_of rfl) (by kernel_rfl) (by kernel_rfl) (by kernel_rfl) (fun _ _ _ h => h) (Or.inl ⟨by rfl, fun W hS => ?_⟩) (by assumption) ?_
  rotate_left
  · dsimp only at hS
    go_simp
    try with_reducible rfl
  try dsimp only [Act.put]
  try simp only [List.setIfInBounds_toArray, List.set_cons_zero, List.set_cons_succ]
  refine wpAnyH_take (i := 21) (v := ?_) (op_of rfl) (by kernel_rfl) (by kernel_rfl) (by kernel_rfl) (fun _ _ _ h => h) (Or.inl ⟨by rfl, fun W hS => ?_⟩) (by assumption) ?_
  rotate_left
  · dsimp only at hS
    go_simp
    try with_reducible rfl
  try dsimp only [Act.put]
  try simp only [List.setIfInBounds_toArray, List.set_cons_zero, List.set_cons_succ]
  refine wpAnyH_take (i := 22) (v := ?_) (op_of rfl) (by kernel_rfl) (by kernel_rfl) (by kernel_rfl) (fun _ _ _ h => h) (Or.inl ⟨by rfl, fun W hS => ?_⟩) (by assumption) ?_
  rotate_left
  · dsimp only at hS
    go_simp
    try with_reducible rfl
  try dsimp only [Act.put]
  try simp only [List.setIfInBounds_toArray, List.set_cons_zero, List.set_cons_succ]
  refine wpAnyH_take (i := 23) (v := ?_) (op_of rfl) (by kernel_rfl) (by kernel_rfl) (by kernel_rfl) (fun _ _ _ h => h) (Or.inl ⟨by rfl, fun W hS => ?_⟩) (by assumption) ?_
  rotate_left
  · dsimp only at hS
    go_simp
    try with_reducible rfl
  try dsimp only [Act.put]
  try simp only [List.setIfInBounds_toArray, List.set_cons_zero, List.set_cons_succ]
  refine wpAnyH_take (i := 25) (v := ?_) (op_of rfl) (by kernel_rfl) (by kernel_rfl) (by kernel_rfl) (fun _ _ _ h => h) (Or.inl ⟨by rfl, fun W hS => ?_⟩) (by assumption) ?_
  rotate_left
  · dsimp only at hS
    have z0 := (hS.cell (World.block_lt_of_cell? _ _ c0)).trans c0
    have z1 := (hS.cell (World.block_lt_of_cell? _ _ c1)).trans c1
    go_simp
    try with_reducible rfl
  try dsimp only [Act.put]
  try simp only [List.setIfInBounds_toArray, List.set_cons_zero, List.set_cons_succ]
  refine wpAnyH_ready (rs := [24]) (by kernel_rfl) (by simp) (AllReadyH.cons (op_of rfl) (fun K hK => ?_) AllReadyH.nil)
  go_simp
  refine (HEA.out wn).mono ?_
  rintro en wn ⟨rfl, hb⟩
  have HBS := Lib.hid (HBS.out.trans (hb.mono HBS.out.size))
  clear hb
  refine hK.out _ _ HBS.out (fun hHeld => ?_)
  clear hK K
  try dsimp only [Act.put]
  try simp only [List.setIfInBounds_toArray, List.set_cons_zero, List.set_cons_succ]
  refine wpAnyH_take (i := 26) (v := ?_) (op_of rfl) (by kernel_rfl) (by kernel_rfl) (by kernel_rfl) (fun _ _ _ h => h) (Or.inl ⟨by rfl, fun W hS => ?_⟩) (by assumption) ?_
  rotate_left
  · dsimp only at hS
    go_simp
    try with_reducible rfl
  try dsimp only [Act.put]
  try simp only [List.setIfInBounds_toArray, List.set_cons_zero, List.set_cons_succ]
  refine wpAnyH_take (i := 27) (v := ?_) (op_of rfl) (by kernel_rfl) (by kernel_rfl) (by kernel_rfl) (fun _ _ _ h => h) (Or.inl ⟨by rfl, fun W hS => ?_⟩) (by assumption) ?_
  rotate_left
  · dsimp only at hS
    go_simp
    try with_reducible rfl
  try dsimp only [Act.put]
  try simp only [List.setIfInBounds_toArray, List.set_cons_zero, List.set_cons_succ]
  refine wpAnyH_take (i := 28) (v := ?_) (op_of rfl) (by kernel_rfl) (by kernel_rfl) (by kernel_rfl) (fun _ _ _ h => h) (Or.inl ⟨by rfl, fun W hS => ?_⟩) (by assumption) ?_
  rotate_left
  · dsimp only at hS
    go_simp
    try with_reducible rfl
  try dsimp only [Act.put]
  try simp only [List.setIfInBounds_toArray, List.set_cons_zero, List.set_cons_succ]
  refine wpAnyH_ready (rs := [29]) (by kernel_rfl) (by simp) (AllReadyH.cons (op_of rfl) (fun K hK => ?_) AllReadyH.nil)
  go_simp
  refine (alive8_any wn).mono ?_
  rintro en wn ⟨rfl, hb⟩
  have HBS := Lib.hid (HBS.out.trans (hb.mono HBS.out.size))
  clear hb
  refine hK.out _ _ HBS.out (fun hHeld => ?_)
  clear hK K
  try dsimp only [Act.put]
  try simp only [List.setIfInBounds_toArray, List.set_cons_zero, List.set_cons_succ]
  refine wpAnyH_take (i := 30) (v := ?_) (op_of rfl) (by kernel_rfl) (by kernel_rfl) (by kernel_rfl) (fun _ _ _ h => h) (Or.inl ⟨by rfl, fun W hS => ?_⟩) (by assumption) ?_
  rotate_left
  · dsimp only at hS
    go_simp
    try with_reducible rfl
  try dsimp only [Act.put]
  try simp only [List.setIfInBounds_toArray, List.set_cons_zero, List.set_cons_succ]
  refine wpAnyH_ready (rs := [31]) (by kernel_rfl) (by simp) (AllReadyH.cons (op_of rfl) (fun K hK => ?_) AllReadyH.nil)
  go_simp
  refine hK.out _ _ HBS.out (fun hHeld => ?_)
  clear hK K
  try dsimp only [Act.put]
  try simp only [List.setIfInBounds_toArray, List.set_cons_zero, List.set_cons_succ]
  refine wpAnyH_done (by kernel_rfl) ?_ _
  go_wp2_with fail
  go_ret
  exact ⟨rfl, HBC.out.trans (HBS.out.mono HBC.out.size)⟩
end Go.Proofs.Ytengcnchjpkhkaa
