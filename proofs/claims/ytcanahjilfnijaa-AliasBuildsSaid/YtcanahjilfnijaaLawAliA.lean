/-
  The statements of layer 12: the chapter's example.
-/
import Derived.Test.YtcanahjilfnijaaAliI
import Derived.Test.YtcanahjilfnijaaAliS
namespace Go.Proofs.Ytcanahjilfnijaa
open Go.RowKit
set_option maxRecDepth 100000

theorem two12_small : ∀ x ∈ [1, 3], x < 18446744073709551616 := by intro x hx; simp at hx; omega
theorem one12_small : ∀ x ∈ [0], x < 18446744073709551616 := by intro x hx; simp at hx; omega
theorem two12_sum : up9 [1, 3] 2 = 4 := by simp [up9, nth]
theorem one12_sum : up9 [0] 1 = 0 := by simp [up9, nth]
theorem two12_right {c o : Nat → Nat} (h : ∀ k, k < 2 → c k ≤ 4 ∧ o k < 2) : Rt12 4 2 c (fun k => ((o k : Nat) : Int)) := ⟨fun j hj => by have := h j hj; show c j ≤ 4 ∧ 0 ≤ ((o j : Nat) : Int) ∧ ((o j : Nat) : Int) < ((2 : Nat) : Int); omega, by omega, by omega⟩
theorem two12_fair {c o : Nat → Nat} (h : ∀ k, k < 2 → c k ≤ 4 ∧ o k < 2) (hc : ∀ i : Nat, i < 2 → cu 4 c (fun k => ((o k : Nat) : Int)) (i : Int) 2 = 2 * nth [1, 3] i) : Fr12 4 2 c (fun k => ((o k : Nat) : Int)) [1, 3] :=
  ⟨two12_sum, rfl, two12_right h, hc⟩
theorem wv_two12 : wv 2 = .agg #[.int .u64 0, .int .u64 2] := rfl
theorem lit12 (w : World) (xs : List Nat) : Rq (w.alloc (.cells (wds xs).toArray 24)) (w.alloc (.cells (wds xs).toArray 24)).heap.size (some ⟨w.heap.size, 0, none⟩) xs := Rv.more (Rq.lit w 24 xs) (by simp)

set_option maxHeartbeats 600000 in
theorem alive12_any (w : World) : Calls Try.prog 5 #[] w fun en w' => en = .returned (.bool true) ∧ Below w.heap.size w w' := by
  have HLIT := Lib.hid (lit12 w [1, 3])
  have HB0 := Lib.hid (b1' w (.cells #[.int .u64 1, .int .u64 3] 24))
  have HBU := Lib.hid (build12_yes _ [1, 3] 2 2 4 _ rfl HLIT.out two12_small (by omega) two12_sum (by omega) (by omega))
  clear HLIT
  go_enter Try.func5, Try.ntmps5
  go_wp2_with fail
  refine HBU.out.mono ?_
  rintro en w1 ⟨gc, c, o, rfl, hgc, hcb, hco, hcu, hb1⟩
  have hb2 := b1' w1 (.cells #[.int .u64 4, .slice (some ⟨gc, 0, none⟩) 2 2] 27)
  have hk := tab_new w1 4 2 2 (some ⟨gc, 0, none⟩)
  rw [show (((4 : Nat) : Int)) = 4 from rfl] at hk
  have hB1 := HB0.out.trans (hb1.mono HB0.out.size)
  have HB2 := Lib.hid (hB1.trans (hb2.mono hB1.size))
  have HC2 := Lib.hid (hcb.cq.step hb2)
  have HRT := Lib.hid (two12_right hco)
  have HFR := Lib.hid (two12_fair hco hcu)
  have HC0 : Hid (cu 4 c (fun k => ((o k : Nat) : Int)) 0 2 = 2) := Lib.hid (by have := hcu 0 (by omega); simpa [nth] using this)
  have HCW : Hid (∀ j, j < 2 → c j < 18446744073709551616) := Lib.hid (fun j hj => by have := (hco j hj).1; omega)
  obtain ⟨oi, hoi⟩ : ∃ f : Nat → Int, (fun k => ((o k : Nat) : Int)) = f := ⟨_, rfl⟩
  rw [hoi] at HC2 HRT HFR HC0
  clear hoi
  obtain ⟨w2, hw2⟩ : ∃ W, w1.alloc (.cells #[.int .u64 4, .slice (some ⟨gc, 0, none⟩) 2 2] 27) = W := ⟨_, rfl⟩
  obtain ⟨bt, hbt⟩ : ∃ b, w1.heap.size = b := ⟨_, rfl⟩
  rw [hw2] at HB2 HC2 hk
  rw [hbt] at hk
  have t0 := hk.cell 0
  have t1 := hk.cell 1
  have HK := Lib.hid hk
  have HN := Lib.hid (numbers12_any 4 2 2 (some ⟨gc, 0, none⟩) c oi w2 HC2.out (by omega) HCW.out (by omega) true ⟨fun _ => HRT.out, fun _ => rfl⟩)
  rw [if_pos rfl, Bool.true_and, show fw (2 * 4) = 8 from rfl, show fb (2 * 4) = true from rfl] at HN
  have HW2 := Lib.hid hw2
  clear HBU hb1 hb2 hB1 hk hcb hco hcu hgc HB0 hw2
  go_wp2_with fail
  rw [HW2.out]
  refine HN.out.mono ?_
  rintro en w3 ⟨rfl, hb3⟩
  have hk := HK.out.below hb3 HK.out.lt
  have t0 := hk.cell 0
  have t1 := hk.cell 1
  have HK3 := Lib.hid hk
  have HB3 := Lib.hid (HB2.out.trans (hb3.mono HB2.out.size))
  have HC3 := Lib.hid (HC2.out.step hb3)
  have HCN := Lib.hid (count12_any 4 2 2 (some ⟨gc, 0, none⟩) c oi 0 w3 HC3.out (by omega) HCW.out (by omega) true ⟨fun _ => HRT.out, fun _ => rfl⟩)
  rw [if_pos rfl, HC0.out, wv_two12] at HCN
  clear HN hb3 hk HK HC2 HB2 HW2
  go_wp2_with fail
  refine HCN.out.mono ?_
  rintro en w4 ⟨rfl, hb4⟩
  have hb5 := b1' w4 (.cells #[.int .u64 0, .int .u64 2] 50)
  have HK5 := Lib.hid ((HK3.out.below hb4 HK3.out.lt).below hb5 (HK3.out.below hb4 HK3.out.lt).lt)
  have hB4 := HB3.out.trans (hb4.mono HB3.out.size)
  have HB5 := Lib.hid (hB4.trans (hb5.mono hB4.size))
  have HC5 := Lib.hid ((HC3.out.step hb4).step hb5)
  have HQ5 := Lib.hid (Blk.new w4 50 #[.int .u64 0, .int .u64 2])
  obtain ⟨w5, hw5⟩ : ∃ W, w4.alloc (.cells #[.int .u64 0, .int .u64 2] 50) = W := ⟨_, rfl⟩
  obtain ⟨bq, hbq⟩ : ∃ b, w4.heap.size = b := ⟨_, rfl⟩
  rw [hw5] at HB5 HC5 HK5 HQ5
  rw [hbq] at HQ5
  have hsz5 : w5.heap.size = bq + 1 := by rw [← hw5, World.size_alloc, hbq]
  have HLIT : Hid (Rq (w5.alloc (.cells #[.int .u64 0] 24)) (w5.alloc (.cells #[.int .u64 0] 24)).heap.size (some ⟨bq + 1, 0, none⟩) [0]) := Lib.hid (by rw [← hsz5]; exact Rv.more (Rq.lit w5 24 [0]) (by simp))
  have HBU := Lib.hid (build12_zero _ [0] 1 1 _ rfl HLIT.out one12_small (by omega) one12_sum)
  have HW5 := Lib.hid hw5
  have hb6 := b1' w5 (.cells #[.int .u64 0] 24)
  have HK6 := Lib.hid (HK5.out.below hb6 HK5.out.lt)
  have HQ6 := Lib.hid (HQ5.out.below hb6 HQ5.out.lt)
  have HC6 := Lib.hid (HC5.out.step hb6)
  have HB6 := Lib.hid (HB5.out.trans (hb6.mono HB5.out.size))
  clear HCN hb4 hb5 hB4 HK3 HB3 HC3 hw5 HLIT hsz5 HK5 HQ5 HC5 HB5 hb6 t0 t1
  go_wp2_with fail
  rw [HW5.out]
  refine HBU.out.mono ?_
  rintro en w7 ⟨rfl, hb7⟩
  have hb8 := b1' w7 (.cells #[.int .u64 0, .slice none 0 0] 27)
  have hk7 := HK6.out.below hb7 HK6.out.lt
  have hq7 := HQ6.out.below hb7 HQ6.out.lt
  have hk8 := hk7.below hb8 hk7.lt
  have hq8 := hq7.below hb8 hq7.lt
  have hB7 := HB6.out.trans (hb7.mono HB6.out.size)
  have HB8 := Lib.hid (hB7.trans (hb8.mono hB7.size))
  have hc8 := (HC6.out.step hb7).step hb8
  have t0 := hk8.cell 0
  have t1 := hk8.cell 1
  have q0 := hq8.cell 0
  have q1 := hq8.cell 1
  have hb9 := b1' (w7.alloc (.cells #[.int .u64 0, .slice none 0 0] 27)) (.cells #[.int .u64 1, .int .u64 3] 24)
  have hsz8 : (w7.alloc (.cells #[.int .u64 0, .slice none 0 0] 27)).heap.size = w7.heap.size + 1 := by rw [World.size_alloc]
  have HLIT : Hid (Rq ((w7.alloc (.cells #[.int .u64 0, .slice none 0 0] 27)).alloc (.cells #[.int .u64 1, .int .u64 3] 24)) ((w7.alloc (.cells #[.int .u64 0, .slice none 0 0] 27)).alloc (.cells #[.int .u64 1, .int .u64 3] 24)).heap.size (some ⟨w7.heap.size + 1, 0, none⟩) [1, 3]) := Lib.hid (by rw [← hsz8]; exact Rv.more (Rq.lit (w7.alloc (.cells #[.int .u64 0, .slice none 0 0] 27)) 24 [1, 3]) (by simp))
  have HFA := Lib.hid (fair12_any 4 2 2 (some ⟨gc, 0, none⟩) c oi _ [1, 3] 2 2 _ (hc8.step hb9) (by omega) HCW.out (by omega) rfl HLIT.out two12_small (by omega) true ⟨fun _ => HFR.out, fun _ => rfl⟩)
  have HB9 := Lib.hid (HB8.out.trans (hb9.mono HB8.out.size))
  clear HBU hb7 hb8 hk7 hq7 hk8 hq8 hB7 hc8 hb9 HLIT hsz8 HK6 HQ6 HC6 HB6 HB8 HW5
  go_wp2_with fail
  refine HFA.out.mono ?_
  rintro en w10 ⟨rfl, hb10⟩
  have HB10 := Lib.hid (HB9.out.trans (hb10.mono HB9.out.size))
  clear HFA hb10
  go_wp2_with fail
  go_ret
  exact ⟨rfl, HB10.out⟩
end Go.Proofs.Ytcanahjilfnijaa
