/-
  The total of any weights, their spans, and whose span has any number, are the document's.
-/
import Derived.Test.YtpicidfdcaoffaaLawSpanA
import Derived.Test.YtpicidfdcaoffaaSpanR
namespace Go.Proofs.Ytpicidfdcaoffaa
open Go.RowKit
set_option maxRecDepth 100000

set_option maxHeartbeats 1000000 in
theorem tells9_far (A : Option Addr) (n c r : Nat) (w : World) (hn : 200 < n) :
    Calls Try.prog 3 #[.slice A n c, .int .u64 (r : Int)] w fun e w' => e = .returned (.bool true) ∧ Below w.heap.size w w' := by
  have h200 : (200 : Int) < (n : Int) := by omega
  go_enter Try.func3, Try.ntmps3
  go_wp2_with fail
  refine (alive9_any w).mono ?_
  rintro e w1 ⟨rfl, hb1⟩
  go_wp2_with fail
  go_ret
  exact ⟨rfl, hb1⟩

set_option maxHeartbeats 4000000 in
theorem tells9_unfit (A : Option Addr) (xs : List Nat) (n c r : Nat) (w : World) (hl : xs.length = n) (hr : Rq w w.heap.size A xs) (hx : ∀ x ∈ xs, x < 18446744073709551616) (hr64 : r < 18446744073709551616) (hn : n ≤ 200) (hf : 18446744073709551616 ≤ up9 xs n) :
    Calls Try.prog 3 #[.slice A n c, .int .u64 (r : Int)] w fun e w' => e = .returned (.bool true) ∧ Below w.heap.size w w' := by
  have h200 : ¬ (200 : Int) < (n : Int) := by omega
  have HT := Lib.hid (total_any A xs n c w hl hr hx (by omega))
  have HR := Lib.hid (fun W (hb : Below w.heap.size w W) => rtotal_any A xs n c W hl (Rv.step hr hb) hx (by omega))
  have HS := Lib.hid (fun W (hb : Below w.heap.size w W) => spans_no A xs n c W hl (Rv.step hr hb) hx (by omega) hf)
  have HPK := Lib.hid (fun W (hb : Below w.heap.size w W) v b (hp : Pb9 xs r v b) => pick_any A xs n c r v b W hl (Rv.step hr hb) hx (by omega) hr64 hp)
  rw [fw_out hf, fb_out hf] at HT HR
  have HPB : Hid (Pb9 xs r (-1) false) := Lib.hid (.inr ⟨.inl (by rw [hl]; exact hf), rfl, rfl⟩)
  clear hl hx hr hf
  have hself : ∀ i : Int, (i != i) = false := fun i => by simp
  have hselfb : ∀ i : Bool, (i != i) = false := fun i => by simp
  go_enter Try.func3, Try.ntmps3
  go_wp2_with fail
  refine HT.out.mono ?_
  rintro e w1 ⟨rfl, rfl⟩
  clear HT
  go_wp2_with fail
  refine (HR.out w (Below.refl _ _)).mono ?_
  rintro e w1 ⟨rfl, hb1⟩
  have HB1 := Lib.hid hb1
  clear HR hb1
  go_wp2_with fail
  refine (HS.out w1 HB1.out).mono ?_
  rintro e w2 ⟨rfl, rfl⟩
  clear HS
  go_wp2_with fail
  refine (HPK.out w1 HB1.out _ _ HPB.out).mono ?_
  rintro e w3 ⟨rfl, hb3⟩
  have HB3 := Lib.hid (HB1.out.trans (hb3.mono HB1.out.size))
  clear HPK hb3
  go_wp2_with fail
  refine (alive9_any w3).mono ?_
  rintro e w4 ⟨rfl, hb4⟩
  have HB4 := Lib.hid (HB3.out.trans (hb4.mono HB3.out.size))
  clear hb4
  go_wp2_with fail
  go_ret
  exact ⟨rfl, HB4.out⟩

set_option maxHeartbeats 4000000 in
theorem tells9_over (A : Option Addr) (xs : List Nat) (n c r : Nat) (w : World) (hl : xs.length = n) (hr : Rq w w.heap.size A xs) (hx : ∀ x ∈ xs, x < 18446744073709551616) (hr64 : r < 18446744073709551616) (hn : n ≤ 200) (hf : up9 xs n < 18446744073709551616) (hru : up9 xs n ≤ r) :
    Calls Try.prog 3 #[.slice A n c, .int .u64 (r : Int)] w fun e w' => e = .returned (.bool true) ∧ Below w.heap.size w w' := by
  have h200 : ¬ (200 : Int) < (n : Int) := by omega
  have HT := Lib.hid (total_any A xs n c w hl hr hx (by omega))
  have HR := Lib.hid (fun W (hb : Below w.heap.size w W) => rtotal_any A xs n c W hl (Rv.step hr hb) hx (by omega))
  have HS := Lib.hid (fun W (hb : Below w.heap.size w W) => spans_yes A xs n c W hl (Rv.step hr hb) hx (by omega) hf)
  have HPK := Lib.hid (fun W (hb : Below w.heap.size w W) v b (hp : Pb9 xs r v b) => pick_any A xs n c r v b W hl (Rv.step hr hb) hx (by omega) hr64 hp)
  rw [fw_in hf, fb_in hf] at HT HR
  have HPB : Hid (Pb9 xs r (-1) false) := Lib.hid (.inr ⟨.inr (by rw [hl]; exact hru), rfl, rfl⟩)
  obtain ⟨u, hu⟩ : ∃ u, up9 xs n = u := ⟨_, rfl⟩
  rw [hu] at HT HR hru
  have hru2 : (u : Int) ≤ (r : Int) := by omega
  clear hl hx hr hf hu
  have hself : ∀ i : Int, (i != i) = false := fun i => by simp
  have hselfb : ∀ i : Bool, (i != i) = false := fun i => by simp
  go_enter Try.func3, Try.ntmps3
  go_wp2_with fail
  refine HT.out.mono ?_
  rintro e w1 ⟨rfl, rfl⟩
  clear HT
  go_wp2_with fail
  refine (HR.out w (Below.refl _ _)).mono ?_
  rintro e w1 ⟨rfl, hb1⟩
  have HB1 := Lib.hid hb1
  clear HR hb1
  go_wp2_with fail
  refine (HS.out w1 HB1.out).mono ?_
  rintro e w2 ⟨g, rfl, hg, hs2, hb2⟩
  have HB2 := Lib.hid (HB1.out.trans (hb2.mono HB1.out.size))
  clear hb2 hs2 hg
  clear HS
  go_wp2_with fail
  refine (HPK.out w2 HB2.out _ _ HPB.out).mono ?_
  rintro e w3 ⟨rfl, hb3⟩
  have HB3 := Lib.hid (HB2.out.trans (hb3.mono HB2.out.size))
  clear HPK hb3
  go_wp2_with fail
  refine (alive9_any w3).mono ?_
  rintro e w4 ⟨rfl, hb4⟩
  have HB4 := Lib.hid (HB3.out.trans (hb4.mono HB3.out.size))
  clear hb4
  go_wp2_with fail
  go_ret
  exact ⟨rfl, HB4.out⟩

set_option maxHeartbeats 4000000 in
theorem tells9_in (A : Option Addr) (xs : List Nat) (n c r : Nat) (w : World) (hl : xs.length = n) (hr : Rq w w.heap.size A xs) (hx : ∀ x ∈ xs, x < 18446744073709551616) (hr64 : r < 18446744073709551616) (p : Nat) (hn : n ≤ 200) (hf : up9 xs n < 18446744073709551616) (hp : Pk9 xs r p) :
    Calls Try.prog 3 #[.slice A n c, .int .u64 (r : Int)] w fun e w' => e = .returned (.bool true) ∧ Below w.heap.size w w' := by
  have h200 : ¬ (200 : Int) < (n : Int) := by omega
  have HT := Lib.hid (total_any A xs n c w hl hr hx (by omega))
  have HR := Lib.hid (fun W (hb : Below w.heap.size w W) => rtotal_any A xs n c W hl (Rv.step hr hb) hx (by omega))
  have HS := Lib.hid (fun W (hb : Below w.heap.size w W) => spans_yes A xs n c W hl (Rv.step hr hb) hx (by omega) hf)
  have HPK := Lib.hid (fun W (hb : Below w.heap.size w W) v b (hp : Pb9 xs r v b) => pick_any A xs n c r v b W hl (Rv.step hr hb) hx (by omega) hr64 hp)
  have HRP := Lib.hid (fun W (hb : Below w.heap.size w W) => rpick_yes A xs n c r p W hl (Rv.step hr hb) hx (by omega) hr64 hp)
  rw [fw_in hf, fb_in hf] at HT HR
  have HPB : Hid (Pb9 xs r (p : Int) true) := Lib.hid (.inl ⟨p, by rw [hl]; exact hf, hp, rfl, rfl⟩)
  have hru := hp.below
  rw [hl] at hru
  have HL := Lib.hid hl
  have HX := Lib.hid hx
  have HRQ := Lib.hid hr
  have HP := Lib.hid hp
  have HF := Lib.hid hf
  obtain ⟨u, hu⟩ : ∃ u, up9 xs n = u := ⟨_, rfl⟩
  rw [hu] at HT HR hru
  have hru2 : ¬ (u : Int) ≤ (r : Int) := by omega
  clear hl hx hr hf hu hp
  have hself : ∀ i : Int, (i != i) = false := fun i => by simp
  have hselfb : ∀ i : Bool, (i != i) = false := fun i => by simp
  go_enter Try.func3, Try.ntmps3
  go_wp2_with fail
  refine HT.out.mono ?_
  rintro e w1 ⟨rfl, rfl⟩
  clear HT
  go_wp2_with fail
  refine (HR.out w (Below.refl _ _)).mono ?_
  rintro e w1 ⟨rfl, hb1⟩
  have HB1 := Lib.hid hb1
  clear HR hb1
  go_wp2_with fail
  refine (HS.out w1 HB1.out).mono ?_
  rintro e w2 ⟨g, rfl, hg, hs2, hb2⟩
  have HB2 := Lib.hid (HB1.out.trans (hb2.mono HB1.out.size))
  have HS2 := Lib.hid hs2
  clear hb2 hs2 hg
  clear HS
  go_wp2_with fail
  refine (HPK.out w2 HB2.out _ _ HPB.out).mono ?_
  rintro e w3 ⟨rfl, hb3⟩
  have HB3 := Lib.hid (HB2.out.trans (hb3.mono HB2.out.size))
  have HS3 := Lib.hid (HS2.out.below hb3)
  clear HPK hb3 HS2
  go_wp2_with fail
  refine (HRP.out w3 HB3.out).mono ?_
  rintro e w4 ⟨rfl, rfl⟩
  clear HRP
  go_wp2_with fail
  go_loopw [13, 14] (fun a i wr => ∃ k s : Nat, a = .int .u64 (s : Int) ∧ i = .int .i64 (k : Int) ∧ k ≤ n ∧ Hid (up9 xs k = s) ∧ Hid (SpR wr g n xs) ∧ Hid (Below w.heap.size w wr)) (fun _ i _ => n - (intOf i).toNat)
  case atStart => exact ⟨0, 0, rfl, rfl, by omega, Lib.hid rfl, HS3, HB3⟩
  case round =>
    obtain ⟨k, s, rfl, rfl, hk, HU, HSR, HBR⟩ := hrel
    by_cases ht : k < n
    · obtain ⟨a, o, hA, ha, c2⟩ := Rq.at_ (Rv.below HRQ.out HBR.out (Nat.le_refl _)) (show k < xs.length by have := HL.out; omega)
      subst hA
      obtain ⟨c0, c1⟩ := HSR.out.2 k ht
      have hhas := HP.out.has (show k < xs.length by have := HL.out; omega)
      obtain ⟨x, hxk⟩ : ∃ x, nth xs k = x := ⟨_, rfl⟩
      have hx64 : x < 18446744073709551616 := by rw [← hxk]; exact nth_lt9 HX.out k
      have hus := HU.out
      have hsx : up9 xs (k + 1) = s + x := by rw [up9_succ, hus, hxk]
      have hsx64 : s + x < 18446744073709551616 := by
        have := up9_mono xs (show k + 1 ≤ n by omega)
        have h2 := HF.out
        omega
      rw [hus, hxk] at hhas
      rw [hus] at c0
      rw [hxk] at c1 c2
      have HHS := Lib.hid (fun W => has9_any s x r W (by omega) hx64 hr64)
      obtain ⟨bb, hbb⟩ : ∃ bb, decide (k = p) = bb := ⟨_, rfl⟩
      rw [hhas, hbb] at HHS
      have hk1 : ((k : Int) == (p : Int)) = bb := by
        rw [← hbb]
        by_cases h : k = p
        · simp [h]
        · rw [decide_eq_false h]; simp; omega
      have hk2 : decide ((k : Int) = (p : Int)) = bb := by rw [← hk1]; rfl
      have hk3 : (k == p) = bb := by rw [← hbb]; rfl
      have hw : IntKind.u64.wrap ((s : Int) + (x : Int)) = ((s + x : Nat) : Int) := by rw [IntKind.wrap_u64]; omega
      obtain ⟨q, hq⟩ : ∃ q, s + x = q := ⟨_, rfl⟩
      rw [hq] at hw hsx
      have HSX := Lib.hid hsx
      have hi0 : (0 : Int) ≤ (k : Int) := by omega
      have hi1 : (k : Int) < (n : Int) := by omega
      have hst : Below wr.heap.size wr wr.drew := (Below.refl _ _).drew
      have HBS := Lib.hid hst
      clear hhas hxk hus hsx hq HU
      go_wp2_with fail
      refine wp_region_held_drew (S := fun W => Below wr.heap.size wr W) (by kernel_rfl) hst (fun hHeld => ?_)
      obtain ⟨wn, hwn⟩ : ∃ W, wr.drew = W := ⟨_, rfl⟩
      rw [hwn] at HBS hHeld
      rw [hwn]
      clear hwn
      refine wpAnyH_take (i := 0) (v := ?_) (op_of rfl) (by kernel_rfl) (by kernel_rfl) (by kernel_rfl) (fun _ _ _ h => h) (Or.inl ⟨by rfl, fun W hS => ?_⟩) (by assumption) ?_
      rotate_left
      · dsimp only at hS
        go_simp
        try with_reducible rfl
      try dsimp only [Act.put]
      try simp only [List.setIfInBounds_toArray, List.set_cons_zero, List.set_cons_succ]
      refine wpAnyH_take (i := 1) (v := ?_) (op_of rfl) (by kernel_rfl) (by kernel_rfl) (by kernel_rfl) (fun _ _ _ h => h) (Or.inl ⟨by rfl, fun W hS => ?_⟩) (by assumption) ?_
      rotate_left
      · dsimp only at hS
        go_simp
        try with_reducible rfl
      try dsimp only [Act.put]
      try simp only [List.setIfInBounds_toArray, List.set_cons_zero, List.set_cons_succ]
      refine wpAnyH_take (i := 2) (v := ?_) (op_of rfl) (by kernel_rfl) (by kernel_rfl) (by kernel_rfl) (fun _ _ _ h => h) (Or.inl ⟨by rfl, fun W hS => ?_⟩) (by assumption) ?_
      rotate_left
      · dsimp only at hS
        go_simp
        try with_reducible rfl
      try dsimp only [Act.put]
      try simp only [List.setIfInBounds_toArray, List.set_cons_zero, List.set_cons_succ]
      refine wpAnyH_take (i := 3) (v := ?_) (op_of rfl) (by kernel_rfl) (by kernel_rfl) (by kernel_rfl) (fun _ _ _ h => h) (Or.inl ⟨by rfl, fun W hS => ?_⟩) (by assumption) ?_
      rotate_left
      · dsimp only at hS
        have z0 := (hS.cell (World.block_lt_of_cell? _ _ c0)).trans c0
        have z1 := (hS.cell (World.block_lt_of_cell? _ _ c1)).trans c1
        go_simp
        try with_reducible rfl
      try dsimp only [Act.put]
      try simp only [List.setIfInBounds_toArray, List.set_cons_zero, List.set_cons_succ]
      refine wpAnyH_take (i := 4) (v := ?_) (op_of rfl) (by kernel_rfl) (by kernel_rfl) (by kernel_rfl) (fun _ _ _ h => h) (Or.inl ⟨by rfl, fun W hS => ?_⟩) (by assumption) ?_
      rotate_left
      · dsimp only at hS
        go_simp
        try with_reducible rfl
      try dsimp only [Act.put]
      try simp only [List.setIfInBounds_toArray, List.set_cons_zero, List.set_cons_succ]
      refine wpAnyH_take (i := 5) (v := ?_) (op_of rfl) (by kernel_rfl) (by kernel_rfl) (by kernel_rfl) (fun _ _ _ h => h) (Or.inl ⟨by rfl, fun W hS => ?_⟩) (by assumption) ?_
      rotate_left
      · dsimp only at hS
        go_simp
        try with_reducible rfl
      try dsimp only [Act.put]
      try simp only [List.setIfInBounds_toArray, List.set_cons_zero, List.set_cons_succ]
      refine wpAnyH_take (i := 6) (v := ?_) (op_of rfl) (by kernel_rfl) (by kernel_rfl) (by kernel_rfl) (fun _ _ _ h => h) (Or.inl ⟨by rfl, fun W hS => ?_⟩) (by assumption) ?_
      rotate_left
      · dsimp only at hS
        go_simp
        try with_reducible rfl
      try dsimp only [Act.put]
      try simp only [List.setIfInBounds_toArray, List.set_cons_zero, List.set_cons_succ]
      refine wpAnyH_take (i := 7) (v := ?_) (op_of rfl) (by kernel_rfl) (by kernel_rfl) (by kernel_rfl) (fun _ _ _ h => h) (Or.inl ⟨by rfl, fun W hS => ?_⟩) (by assumption) ?_
      rotate_left
      · dsimp only at hS
        go_simp
        try with_reducible rfl
      try dsimp only [Act.put]
      try simp only [List.setIfInBounds_toArray, List.set_cons_zero, List.set_cons_succ]
      refine wpAnyH_take (i := 8) (v := ?_) (op_of rfl) (by kernel_rfl) (by kernel_rfl) (by kernel_rfl) (fun _ _ _ h => h) (Or.inl ⟨by rfl, fun W hS => ?_⟩) (by assumption) ?_
      rotate_left
      · dsimp only at hS
        have z0 := (hS.cell (World.block_lt_of_cell? _ _ c2)).trans c2
        go_simp
        try with_reducible rfl
      try dsimp only [Act.put]
      try simp only [List.setIfInBounds_toArray, List.set_cons_zero, List.set_cons_succ]
      refine wpAnyH_take (i := 9) (v := ?_) (op_of rfl) (by kernel_rfl) (by kernel_rfl) (by kernel_rfl) (fun _ _ _ h => h) (Or.inl ⟨by rfl, fun W hS => ?_⟩) (by assumption) ?_
      rotate_left
      · dsimp only at hS
        go_simp
        try with_reducible rfl
      try dsimp only [Act.put]
      try simp only [List.setIfInBounds_toArray, List.set_cons_zero, List.set_cons_succ]
      refine wpAnyH_take (i := 10) (v := ?_) (op_of rfl) (by kernel_rfl) (by kernel_rfl) (by kernel_rfl) (fun _ _ _ h => h) (Or.inl ⟨by rfl, fun W hS => ?_⟩) (by assumption) ?_
      rotate_left
      · dsimp only at hS
        go_simp
        try with_reducible rfl
      try dsimp only [Act.put]
      try simp only [List.setIfInBounds_toArray, List.set_cons_zero, List.set_cons_succ]
      refine wpAnyH_take (i := 11) (v := ?_) (op_of rfl) (by kernel_rfl) (by kernel_rfl) (by kernel_rfl) (fun _ _ _ h => h) (Or.inl ⟨by rfl, fun W hS => ?_⟩) (by assumption) ?_
      rotate_left
      · dsimp only at hS
        go_simp
        try with_reducible rfl
      try dsimp only [Act.put]
      try simp only [List.setIfInBounds_toArray, List.set_cons_zero, List.set_cons_succ]
      refine wpAnyH_take (i := 12) (v := ?_) (op_of rfl) (by kernel_rfl) (by kernel_rfl) (by kernel_rfl) (fun _ _ _ h => h) (Or.inl ⟨by rfl, fun W hS => ?_⟩) (by assumption) ?_
      rotate_left
      · dsimp only at hS
        go_simp
        try with_reducible rfl
      try dsimp only [Act.put]
      try simp only [List.setIfInBounds_toArray, List.set_cons_zero, List.set_cons_succ]
      refine wpAnyH_take (i := 13) (v := ?_) (op_of rfl) (by kernel_rfl) (by kernel_rfl) (by kernel_rfl) (fun _ _ _ h => h) (Or.inl ⟨by rfl, fun W hS => ?_⟩) (by assumption) ?_
      rotate_left
      · dsimp only at hS
        go_simp
        try with_reducible rfl
      try dsimp only [Act.put]
      try simp only [List.setIfInBounds_toArray, List.set_cons_zero, List.set_cons_succ]
      refine wpAnyH_take (i := 14) (v := ?_) (op_of rfl) (by kernel_rfl) (by kernel_rfl) (by kernel_rfl) (fun _ _ _ h => h) (Or.inl ⟨by rfl, fun W hS => ?_⟩) (by assumption) ?_
      rotate_left
      · dsimp only at hS
        go_simp
        try with_reducible rfl
      try dsimp only [Act.put]
      try simp only [List.setIfInBounds_toArray, List.set_cons_zero, List.set_cons_succ]
      refine wpAnyH_take (i := 15) (v := ?_) (op_of rfl) (by kernel_rfl) (by kernel_rfl) (by kernel_rfl) (fun _ _ _ h => h) (Or.inl ⟨by rfl, fun W hS => ?_⟩) (by assumption) ?_
      rotate_left
      · dsimp only at hS
        have z0 := (hS.cell (World.block_lt_of_cell? _ _ c0)).trans c0
        have z1 := (hS.cell (World.block_lt_of_cell? _ _ c1)).trans c1
        go_simp
        try with_reducible rfl
      try dsimp only [Act.put]
      try simp only [List.setIfInBounds_toArray, List.set_cons_zero, List.set_cons_succ]
      refine wpAnyH_take (i := 16) (v := ?_) (op_of rfl) (by kernel_rfl) (by kernel_rfl) (by kernel_rfl) (fun _ _ _ h => h) (Or.inl ⟨by rfl, fun W hS => ?_⟩) (by assumption) ?_
      rotate_left
      · dsimp only at hS
        go_simp
        try with_reducible rfl
      try dsimp only [Act.put]
      try simp only [List.setIfInBounds_toArray, List.set_cons_zero, List.set_cons_succ]
      refine wpAnyH_take (i := 18) (v := ?_) (op_of rfl) (by kernel_rfl) (by kernel_rfl) (by kernel_rfl) (fun _ _ _ h => h) (Or.inl ⟨by rfl, fun W hS => ?_⟩) (by assumption) ?_
      rotate_left
      · dsimp only at hS
        go_simp
        try with_reducible rfl
      try dsimp only [Act.put]
      try simp only [List.setIfInBounds_toArray, List.set_cons_zero, List.set_cons_succ]
      refine wpAnyH_take (i := 19) (v := ?_) (op_of rfl) (by kernel_rfl) (by kernel_rfl) (by kernel_rfl) (fun _ _ _ h => h) (Or.inl ⟨by rfl, fun W hS => ?_⟩) (by assumption) ?_
      rotate_left
      · dsimp only at hS
        go_simp
        try with_reducible rfl
      try dsimp only [Act.put]
      try simp only [List.setIfInBounds_toArray, List.set_cons_zero, List.set_cons_succ]
      refine wpAnyH_take (i := 20) (v := ?_) (op_of rfl) (by kernel_rfl) (by kernel_rfl) (by kernel_rfl) (fun _ _ _ h => h) (Or.inl ⟨by rfl, fun W hS => ?_⟩) (by assumption) ?_
      rotate_left
      · dsimp only at hS
        go_simp
        try with_reducible rfl
      try dsimp only [Act.put]
      try simp only [List.setIfInBounds_toArray, List.set_cons_zero, List.set_cons_succ]
      refine wpAnyH_ready (rs := [17]) (by kernel_rfl) (by simp) (AllReadyH.cons (op_of rfl) (fun K hK => ?_) AllReadyH.nil)
      go_simp
      refine (HHS.out wn).mono ?_
      rintro en wn ⟨rfl, hb⟩
      have HBS := Lib.hid (HBS.out.trans (hb.mono HBS.out.size))
      clear hb
      refine hK.out _ _ HBS.out (fun hHeld => ?_)
      clear hK K
      try dsimp only [Act.put]
      try simp only [List.setIfInBounds_toArray, List.set_cons_zero, List.set_cons_succ]
      refine wpAnyH_take (i := 21) (v := ?_) (op_of rfl) (by kernel_rfl) (by kernel_rfl) (by kernel_rfl) (fun _ _ _ h => h) (Or.inl ⟨by rfl, fun W hS => ?_⟩) (by assumption) ?_
      rotate_left
      · dsimp only at hS
        go_simp
        try with_reducible rfl
      try dsimp only [Act.put]
      try simp only [List.setIfInBounds_toArray, List.set_cons_zero, List.set_cons_succ]
      refine wpAnyH_take (i := 22) (v := ?_) (op_of rfl) (by kernel_rfl) (by kernel_rfl) (by kernel_rfl) (fun _ _ _ h => h) (Or.inl ⟨by rfl, fun W hS => ?_⟩) (by assumption) ?_
      rotate_left
      · dsimp only at hS
        go_simp
        try with_reducible rfl
      try dsimp only [Act.put]
      try simp only [List.setIfInBounds_toArray, List.set_cons_zero, List.set_cons_succ]
      refine wpAnyH_done (by kernel_rfl) ?_ _
      have c3 : wn.cell? ⟨a, o + k, none⟩ = some (.int .u64 (x : Int)) := (HBS.out.cell (World.block_lt_of_cell? _ _ c2)).trans c2
      go_wp2_with fail
      go_roundw
      case rel => exact ⟨k + 1, q, by first | rfl | rw [hw], by go_num, by omega, HSX, Lib.hid (HSR.out.below HBS.out), Lib.hid (HBR.out.trans (HBS.out.mono HBR.out.size))⟩
      case measure => simp [intOf]; omega
    · obtain rfl : k = n := by omega
      go_wp2_with fail
      refine (alive9_any wr).mono ?_
      rintro e w4 ⟨rfl, hb4⟩
      have HB4 := Lib.hid (HBR.out.trans (hb4.mono HBR.out.size))
      clear hb4
      go_wp2_with fail
      go_ret
      exact ⟨rfl, HB4.out⟩

theorem spanTells_walk (A : Option Addr) (xs : List Nat) (n c r : Nat) (w : World) (hl : xs.length = n) (hr : Rq w w.heap.size A xs) (hx : ∀ x ∈ xs, x < 18446744073709551616) (hr64 : r < 18446744073709551616) :
    Calls Try.prog 3 #[.slice A n c, .int .u64 (r : Int)] w fun e w' => e = .returned (.bool true) ∧ Below w.heap.size w w' := by
  rcases Nat.lt_or_ge 200 n with hn | hn
  · exact tells9_far A n c r w hn
  · rcases Nat.lt_or_ge (up9 xs n) 18446744073709551616 with hf | hf
    · rcases Nat.lt_or_ge r (up9 xs n) with h | h
      · obtain ⟨p, hp⟩ := Pk9.any (xs := xs) (r := r) (by rw [hl]; exact h)
        exact tells9_in A xs n c r w hl hr hx hr64 p hn hf hp
      · exact tells9_over A xs n c r w hl hr hx hr64 hn hf h
    · exact tells9_unfit A xs n c r w hl hr hx hr64 hn hf
end Go.Proofs.Ytpicidfdcaoffaa
