/-
  Alias tables: package alias's Fair.
-/
import Derived.Test.YtcanahjilfnijaaAliC
namespace Go.Proofs.Ytcanahjilfnijaa
open Go.RowKit
set_option maxRecDepth 100000

/-- Is a table fair for weights? -/
def Fr12 (t n : Nat) (c : Nat → Nat) (o : Nat → Int) (ys : List Nat) : Prop := up9 ys ys.length = t ∧ ys.length = n ∧ Rt12 t n c o ∧ ∀ j, j < n → cu t c o (j : Int) n = n * nth ys j

theorem if12 {a b c d : Int} {α : Type} {x y : α} (h : ¬ (a = b ∧ c = d)) : (if a = b then if c = d then x else y else y) = y := by
  by_cases h1 : a = b
  · rw [if_pos h1, if_neg (fun h2 => h ⟨h1, h2⟩)]
  · rw [if_neg h1]
theorem WdB.alloc {w : World} {g n : Nat} {U : Nat → Nat} (h : WdB w g n U) (o : Obj) : WdB (w.alloc o) g n U := h.below (b1' w o)

set_option maxHeartbeats 4000000 in
theorem fair12_any (t n cc : Nat) (A : Option Addr) (c : Nat → Nat) (o : Nat → Int) (B : Option Addr) (ys : List Nat) (m d : Nat) (w : World) (h : Cq w w.heap.size A n c o) (ht : t < 18446744073709551616) (hc : ∀ j, j < n → c j < 18446744073709551616) (hn : n ≤ 1000000)
    (hl : ys.length = m) (hr : Rq w w.heap.size B ys) (hx : ∀ x ∈ ys, x < 18446744073709551616) (hm : m ≤ 1000000) (f : Bool) (hf : f = true ↔ Fr12 t n c o ys) :
    Calls Try.prog 13 #[.agg #[.int .u64 (t : Int), .slice A n cc], .slice B m d] w fun e w' => e = .returned (.bool f) ∧ Below w.heap.size w w' := by
  have hk := tab_new w t n cc A
  have t0 := hk.cell 0
  have t1 := hk.cell 1
  have HK := Lib.hid hk
  have hB0 := b1' w (.cells #[.int .u64 (t : Int), .slice A n cc] 27)
  have HB0 := Lib.hid hB0
  have HC := Lib.hid h
  have HW := Lib.hid hc
  have HT := Lib.hid (total_any B ys m d _ hl (Rv.step hr hB0) hx hm)
  have HF := Lib.hid hf
  have HL := Lib.hid hl
  have HY := Lib.hid hr
  have HX := Lib.hid hx
  clear hk h hc hB0 hl hr hx hf
  have hm0 : (0 : Int) ≤ (m : Int) := by omega
  by_cases hfit : up9 ys m < 18446744073709551616
  · rw [fw_in hfit, fb_in hfit] at HT
    by_cases hsum : up9 ys m = t
    · rw [hsum] at HT
      by_cases hmn : m = n
      · subst hmn
        by_cases hrt : Rt12 t m c o
        · have HRT := Lib.hid hrt
          have HR := Lib.hid (fun W (hb : Below w.heap.size w W) => right12_any t m cc A c o W (HC.out.step hb) ht HW.out hn true ⟨fun _ => hrt, fun _ => rfl⟩)
          have HCT := Lib.hid (fun W (hb : Below w.heap.size w W) => counts12_any t m cc A c o W (HC.out.step hb) ht hn hrt)
          have HSUM := Lib.hid hsum
          clear hrt hsum hfit
          go_enter Try.func13, Try.ntmps13
          go_wp2_with fail
          refine HT.out.mono ?_
          rintro e w1 ⟨rfl, rfl⟩
          clear HT
          go_wp2_with fail
          refine (HR.out _ HB0.out).mono ?_
          rintro e w2 ⟨rfl, hb2⟩
          have hk2 := HK.out.below hb2 HK.out.lt
          have t0 := hk2.cell 0
          have t1 := hk2.cell 1
          have HB2 := Lib.hid (HB0.out.trans (hb2.mono HB0.out.size))
          clear HR hk2 hb2
          go_wp2_with fail
          refine (HCT.out _ HB2.out).mono ?_
          rintro e w3 ⟨g, rfl, hg, hw3, hb3⟩
          have HB3 := Lib.hid (HB2.out.trans (hb3.mono HB2.out.size))
          have HW3 := Lib.hid hw3
          clear HCT hw3 hb3 t0 t1
          go_wp2_with fail
          go_loopw [38] (fun i wr => ∃ k : Nat, i = .int .i64 (k : Int) ∧ k ≤ m ∧ Hid (∀ j, j < k → cu t c o (j : Int) m = m * nth ys j) ∧ Hid (WdB wr g m (fun i => cu t c o (i : Int) m)) ∧ Hid (Below w.heap.size w wr)) (fun i _ => m - (intOf i).toNat)
          case atStart => exact ⟨0, rfl, by omega, Lib.hid (fun j hj => by omega), HW3, HB3⟩
          case round =>
            obtain ⟨k, rfl, hk, HG, HWR, HBR⟩ := hrel
            by_cases hkm : k < m
            · obtain ⟨q0, q1, _⟩ := HWR.out.cells hkm
              obtain ⟨u, hu⟩ : ∃ u, cu t c o (k : Int) m = u := ⟨_, rfl⟩
              rw [hu] at q0 q1
              have HUE := Lib.hid hu
              obtain ⟨a, p, hA, ha, c0⟩ := Rq.at_ (Rv.below HY.out HBR.out (Nat.le_refl _)) (show k < ys.length by have := HL.out; omega)
              subst hA
              obtain ⟨x, hxk⟩ : ∃ x, nth ys k = x := ⟨_, rfl⟩
              have hx64 : x < 18446744073709551616 := by rw [← hxk]; exact nth_lt9 HX.out k
              rw [hxk] at c0
              have HXK := Lib.hid hxk
              have HFU := Lib.hid (fun W => full_any m x W (by omega) hx64)
              have hwm : IntKind.u64.wrap (m : Int) = (m : Int) := by rw [IntKind.wrap_u64]; omega
              have hi0 : (0 : Int) ≤ (k : Int) := by omega
              have hi1 : (k : Int) < (m : Int) := by omega
              have hbk := (Blk.new wr 50 #[.int .u64 ((hi12 u : Nat) : Int), .int .u64 ((lo12 u : Nat) : Int)])
              have d0 := hbk.cell 0
              have d1 := hbk.cell 1
              have HWA := Lib.hid (HWR.out.alloc (.cells #[.int .u64 ((hi12 u : Nat) : Int), .int .u64 ((lo12 u : Nat) : Int)] 50))
              have HBA := Lib.hid (HBR.out.alloc HBR.out.size (.cells #[.int .u64 ((hi12 u : Nat) : Int), .int .u64 ((lo12 u : Nat) : Int)] 50))
              have e0 : (wr.alloc (.cells #[.int .u64 ((hi12 u : Nat) : Int), .int .u64 ((lo12 u : Nat) : Int)] 50)).cell? ⟨a, p + k, none⟩ = some (.int .u64 (x : Int)) := ((b1' wr _).cell (World.block_lt_of_cell? _ _ c0)).trans c0
              obtain ⟨w7, hw7⟩ : ∃ W, wr.alloc (.cells #[.int .u64 ((hi12 u : Nat) : Int), .int .u64 ((lo12 u : Nat) : Int)] 50) = W := ⟨_, rfl⟩
              have HW7 := Lib.hid hw7
              rw [hw7] at HWA HBA d0 d1 e0
              clear hu hxk hbk hw7
              by_cases hux : u = m * x
              · have HUX := Lib.hid hux
                clear hux
                go_wp2_with fail
                rw [HW7.out]
                have hst : Below w7.heap.size w7 w7.drew := (Below.refl _ _).drew
                have HBS := Lib.hid hst
                refine wp_region_held_drew (S := fun W => Below w7.heap.size w7 W) (by kernel_rfl) hst (fun hHeld => ?_)
                have HWA := Lib.hid (HWA.out.below hst)
                obtain ⟨wn, hwn⟩ : ∃ W, w7.drew = W := ⟨_, rfl⟩
                rw [hwn] at HBS hHeld HWA
                rw [hwn]
                clear hwn
                refine wpAnyH_take (i := 0) (v := ?_) (op_of rfl) (by kernel_rfl) (by kernel_rfl) (by kernel_rfl) (fun _ _ _ h => h) (Or.inl ⟨by rfl, fun W hS => ?_⟩) (by assumption) ?_
                rotate_left
                · try dsimp only at hS
                  have z0 := (hS.cell (World.block_lt_of_cell? _ _ d0)).trans d0
                  have z1 := (hS.cell (World.block_lt_of_cell? _ _ d1)).trans d1
                  go_simp
                  try with_reducible rfl
                try dsimp only [Act.put]
                try simp only [List.setIfInBounds_toArray, List.set_cons_zero, List.set_cons_succ]
                refine wpAnyH_take (i := 1) (v := ?_) (op_of rfl) (by kernel_rfl) (by kernel_rfl) (by kernel_rfl) (fun _ _ _ h => h) (Or.inl ⟨by rfl, fun W hS => ?_⟩) (by assumption) ?_
                rotate_left
                · try dsimp only at hS
                  go_simp
                  try with_reducible rfl
                try dsimp only [Act.put]
                try simp only [List.setIfInBounds_toArray, List.set_cons_zero, List.set_cons_succ]
                refine wpAnyH_take (i := 2) (v := ?_) (op_of rfl) (by kernel_rfl) (by kernel_rfl) (by kernel_rfl) (fun _ _ _ h => h) (Or.inl ⟨by rfl, fun W hS => ?_⟩) (by assumption) ?_
                rotate_left
                · try dsimp only at hS
                  go_simp
                  try with_reducible rfl
                try dsimp only [Act.put]
                try simp only [List.setIfInBounds_toArray, List.set_cons_zero, List.set_cons_succ]
                refine wpAnyH_take (i := 3) (v := ?_) (op_of rfl) (by kernel_rfl) (by kernel_rfl) (by kernel_rfl) (fun _ _ _ h => h) (Or.inl ⟨by rfl, fun W hS => ?_⟩) (by assumption) ?_
                rotate_left
                · try dsimp only at hS
                  go_simp
                  try with_reducible rfl
                try dsimp only [Act.put]
                try simp only [List.setIfInBounds_toArray, List.set_cons_zero, List.set_cons_succ]
                refine wpAnyH_take (i := 4) (v := ?_) (op_of rfl) (by kernel_rfl) (by kernel_rfl) (by kernel_rfl) (fun _ _ _ h => h) (Or.inl ⟨by rfl, fun W hS => ?_⟩) (by assumption) ?_
                rotate_left
                · try dsimp only at hS
                  go_simp
                  try with_reducible rfl
                try dsimp only [Act.put]
                try simp only [List.setIfInBounds_toArray, List.set_cons_zero, List.set_cons_succ]
                refine wpAnyH_take (i := 5) (v := ?_) (op_of rfl) (by kernel_rfl) (by kernel_rfl) (by kernel_rfl) (fun _ _ _ h => h) (Or.inl ⟨by rfl, fun W hS => ?_⟩) (by assumption) ?_
                rotate_left
                · try dsimp only at hS
                  go_simp
                  try with_reducible rfl
                try dsimp only [Act.put]
                try simp only [List.setIfInBounds_toArray, List.set_cons_zero, List.set_cons_succ]
                refine wpAnyH_take (i := 6) (v := ?_) (op_of rfl) (by kernel_rfl) (by kernel_rfl) (by kernel_rfl) (fun _ _ _ h => h) (Or.inl ⟨by rfl, fun W hS => ?_⟩) (by assumption) ?_
                rotate_left
                · try dsimp only at hS
                  go_simp
                  try with_reducible rfl
                try dsimp only [Act.put]
                try simp only [List.setIfInBounds_toArray, List.set_cons_zero, List.set_cons_succ]
                refine wpAnyH_take (i := 7) (v := ?_) (op_of rfl) (by kernel_rfl) (by kernel_rfl) (by kernel_rfl) (fun _ _ _ h => h) (Or.inl ⟨by rfl, fun W hS => ?_⟩) (by assumption) ?_
                rotate_left
                · try dsimp only at hS
                  have z0 := (hS.cell (World.block_lt_of_cell? _ _ e0)).trans e0
                  go_simp
                  try with_reducible rfl
                try dsimp only [Act.put]
                try simp only [List.setIfInBounds_toArray, List.set_cons_zero, List.set_cons_succ]
                refine wpAnyH_ready (rs := [8]) (by kernel_rfl) (by simp) (AllReadyH.cons (op_of rfl) (fun K hK => ?_) AllReadyH.nil)
                go_simp
                refine (HFU.out wn).mono ?_
                rintro en wn ⟨H, L, rfl, hHL, hH, hL, hb⟩
                obtain ⟨rfl, rfl⟩ : hi12 u = H ∧ lo12 u = L := hl12_of (by rw [HUX.out]; exact hHL) hL
                have HBS := Lib.hid (HBS.out.trans (hb.mono HBS.out.size))
                have HWA := Lib.hid (HWA.out.below hb)
                clear hb hHL hL hH
                refine hK.out _ _ HBS.out (fun hHeld => ?_)
                clear hK K
                try dsimp only [Act.put]
                try simp only [List.setIfInBounds_toArray, List.set_cons_zero, List.set_cons_succ]
                refine wpAnyH_take (i := 9) (v := ?_) (op_of rfl) (by kernel_rfl) (by kernel_rfl) (by kernel_rfl) (fun _ _ _ h => h) (Or.inl ⟨by rfl, fun W hS => ?_⟩) (by assumption) ?_
                rotate_left
                · try dsimp only at hS
                  go_simp
                  try with_reducible rfl
                try dsimp only [Act.put]
                try simp only [List.setIfInBounds_toArray, List.set_cons_zero, List.set_cons_succ]
                refine wpAnyH_done (by kernel_rfl) ?_ _
                go_wp2_with fail
                go_roundw
                case rel => exact ⟨k + 1, by go_num, by omega, Lib.hid (fun j hj => by
                    rcases (show j < k ∨ j = k by omega) with h1 | rfl
                    · exact HG.out j h1
                    · rw [HUE.out, HXK.out]; exact HUX.out), HWA.out |> Lib.hid, Lib.hid (HBA.out.trans (HBS.out.mono HBA.out.size))⟩
                case measure => simp [intOf]; omega
              · have HUX := Lib.hid hux
                clear hux
                go_wp2_with fail
                rw [HW7.out]
                have hst : Below w7.heap.size w7 w7.drew := (Below.refl _ _).drew
                have HBS := Lib.hid hst
                refine wp_region_held_drew (S := fun W => Below w7.heap.size w7 W) (by kernel_rfl) hst (fun hHeld => ?_)
                have HWA := Lib.hid (HWA.out.below hst)
                obtain ⟨wn, hwn⟩ : ∃ W, w7.drew = W := ⟨_, rfl⟩
                rw [hwn] at HBS hHeld HWA
                rw [hwn]
                clear hwn
                refine wpAnyH_take (i := 0) (v := ?_) (op_of rfl) (by kernel_rfl) (by kernel_rfl) (by kernel_rfl) (fun _ _ _ h => h) (Or.inl ⟨by rfl, fun W hS => ?_⟩) (by assumption) ?_
                rotate_left
                · try dsimp only at hS
                  have z0 := (hS.cell (World.block_lt_of_cell? _ _ d0)).trans d0
                  have z1 := (hS.cell (World.block_lt_of_cell? _ _ d1)).trans d1
                  go_simp
                  try with_reducible rfl
                try dsimp only [Act.put]
                try simp only [List.setIfInBounds_toArray, List.set_cons_zero, List.set_cons_succ]
                refine wpAnyH_take (i := 1) (v := ?_) (op_of rfl) (by kernel_rfl) (by kernel_rfl) (by kernel_rfl) (fun _ _ _ h => h) (Or.inl ⟨by rfl, fun W hS => ?_⟩) (by assumption) ?_
                rotate_left
                · try dsimp only at hS
                  go_simp
                  try with_reducible rfl
                try dsimp only [Act.put]
                try simp only [List.setIfInBounds_toArray, List.set_cons_zero, List.set_cons_succ]
                refine wpAnyH_take (i := 2) (v := ?_) (op_of rfl) (by kernel_rfl) (by kernel_rfl) (by kernel_rfl) (fun _ _ _ h => h) (Or.inl ⟨by rfl, fun W hS => ?_⟩) (by assumption) ?_
                rotate_left
                · try dsimp only at hS
                  go_simp
                  try with_reducible rfl
                try dsimp only [Act.put]
                try simp only [List.setIfInBounds_toArray, List.set_cons_zero, List.set_cons_succ]
                refine wpAnyH_take (i := 3) (v := ?_) (op_of rfl) (by kernel_rfl) (by kernel_rfl) (by kernel_rfl) (fun _ _ _ h => h) (Or.inl ⟨by rfl, fun W hS => ?_⟩) (by assumption) ?_
                rotate_left
                · try dsimp only at hS
                  go_simp
                  try with_reducible rfl
                try dsimp only [Act.put]
                try simp only [List.setIfInBounds_toArray, List.set_cons_zero, List.set_cons_succ]
                refine wpAnyH_take (i := 4) (v := ?_) (op_of rfl) (by kernel_rfl) (by kernel_rfl) (by kernel_rfl) (fun _ _ _ h => h) (Or.inl ⟨by rfl, fun W hS => ?_⟩) (by assumption) ?_
                rotate_left
                · try dsimp only at hS
                  go_simp
                  try with_reducible rfl
                try dsimp only [Act.put]
                try simp only [List.setIfInBounds_toArray, List.set_cons_zero, List.set_cons_succ]
                refine wpAnyH_take (i := 5) (v := ?_) (op_of rfl) (by kernel_rfl) (by kernel_rfl) (by kernel_rfl) (fun _ _ _ h => h) (Or.inl ⟨by rfl, fun W hS => ?_⟩) (by assumption) ?_
                rotate_left
                · try dsimp only at hS
                  go_simp
                  try with_reducible rfl
                try dsimp only [Act.put]
                try simp only [List.setIfInBounds_toArray, List.set_cons_zero, List.set_cons_succ]
                refine wpAnyH_take (i := 6) (v := ?_) (op_of rfl) (by kernel_rfl) (by kernel_rfl) (by kernel_rfl) (fun _ _ _ h => h) (Or.inl ⟨by rfl, fun W hS => ?_⟩) (by assumption) ?_
                rotate_left
                · try dsimp only at hS
                  go_simp
                  try with_reducible rfl
                try dsimp only [Act.put]
                try simp only [List.setIfInBounds_toArray, List.set_cons_zero, List.set_cons_succ]
                refine wpAnyH_take (i := 7) (v := ?_) (op_of rfl) (by kernel_rfl) (by kernel_rfl) (by kernel_rfl) (fun _ _ _ h => h) (Or.inl ⟨by rfl, fun W hS => ?_⟩) (by assumption) ?_
                rotate_left
                · try dsimp only at hS
                  have z0 := (hS.cell (World.block_lt_of_cell? _ _ e0)).trans e0
                  go_simp
                  try with_reducible rfl
                try dsimp only [Act.put]
                try simp only [List.setIfInBounds_toArray, List.set_cons_zero, List.set_cons_succ]
                refine wpAnyH_ready (rs := [8]) (by kernel_rfl) (by simp) (AllReadyH.cons (op_of rfl) (fun K hK => ?_) AllReadyH.nil)
                go_simp
                refine (HFU.out wn).mono ?_
                rintro en wn ⟨H, L, rfl, hHL, hH, hL, hb⟩
                have hne : ¬ (((hi12 u : Nat) : Int) = (H : Int) ∧ ((lo12 u : Nat) : Int) = (L : Int)) := fun h => HUX.out (by have h1 := (hl12 u).1; rw [Int.ofNat_inj.1 h.1, Int.ofNat_inj.1 h.2] at h1; rw [h1, hHL])
                have HBS := Lib.hid (HBS.out.trans (hb.mono HBS.out.size))
                have HWA := Lib.hid (HWA.out.below hb)
                clear hb hHL hL hH
                refine hK.out _ _ HBS.out (fun hHeld => ?_)
                clear hK K
                try dsimp only [Act.put]
                try simp only [List.setIfInBounds_toArray, List.set_cons_zero, List.set_cons_succ]
                refine wpAnyH_take (i := 9) (v := ?_) (op_of rfl) (by kernel_rfl) (by kernel_rfl) (by kernel_rfl) (fun _ _ _ h => h) (Or.inl ⟨by rfl, fun W hS => ?_⟩) (by assumption) ?_
                rotate_left
                · try dsimp only at hS
                  go_simp
                  rw [if12 hne]
                try dsimp only [Act.put]
                try simp only [List.setIfInBounds_toArray, List.set_cons_zero, List.set_cons_succ]
                refine wpAnyH_done (by kernel_rfl) ?_ _
                go_wp2_with fail
                go_ret
                refine ⟨?_, HBA.out.trans (HBS.out.mono HBA.out.size)⟩
                cases hff : f with
                | false => rfl
                | true =>
                  have h1 := (HF.out.1 hff).2.2.2 k hkm
                  rw [HUE.out, HXK.out] at h1
                  exact absurd h1 HUX.out
            · obtain rfl : k = m := by omega
              have HFT : Hid (f = true) := Lib.hid (HF.out.2 ⟨by rw [HL.out]; exact HSUM.out, HL.out, HRT.out, HG.out⟩)
              go_wp2_with fail
              go_ret
              exact ⟨by rw [HFT.out]; rfl, HBR.out⟩
        · have HFF : Hid (f = false) := Lib.hid (by
            cases hff : f with
            | false => rfl
            | true => exact absurd (HF.out.1 hff).2.2.1 hrt)
          have HR := Lib.hid (fun W (hb : Below w.heap.size w W) => right12_any t m cc A c o W (HC.out.step hb) ht HW.out hn false ⟨fun h => (by cases h), fun h => absurd h hrt⟩)
          clear hrt hsum hfit
          go_enter Try.func13, Try.ntmps13
          go_wp2_with fail
          refine HT.out.mono ?_
          rintro e w1 ⟨rfl, rfl⟩
          clear HT
          go_wp2_with fail
          refine (HR.out _ HB0.out).mono ?_
          rintro e w2 ⟨rfl, hb2⟩
          clear HR
          go_wp2_with fail
          go_ret
          exact ⟨by rw [HFF.out]; rfl, HB0.out.trans (hb2.mono HB0.out.size)⟩
      · have HFF : Hid (f = false) := Lib.hid (by
          cases hff : f with
          | false => rfl
          | true => exact absurd (HL.out ▸ (HF.out.1 hff).2.1) hmn)
        have hmn2 : ¬ (m : Int) = (n : Int) := by omega
        clear hsum hfit
        go_enter Try.func13, Try.ntmps13
        go_wp2_with fail
        refine HT.out.mono ?_
        rintro e w1 ⟨rfl, rfl⟩
        clear HT
        go_wp2_with fail
        go_ret
        exact ⟨by rw [HFF.out]; rfl, HB0.out⟩
    · have HFF : Hid (f = false) := Lib.hid (by
        cases hff : f with
        | false => rfl
        | true => exact absurd (HL.out ▸ (HF.out.1 hff).1) hsum)
      obtain ⟨s, hs⟩ : ∃ s, up9 ys m = s := ⟨_, rfl⟩
      rw [hs] at HT hsum
      have hmn2 : ¬ (s : Int) = (t : Int) := by omega
      clear hs hfit
      go_enter Try.func13, Try.ntmps13
      go_wp2_with fail
      refine HT.out.mono ?_
      rintro e w1 ⟨rfl, rfl⟩
      clear HT
      go_wp2_with fail
      go_ret
      exact ⟨by rw [HFF.out]; rfl, HB0.out⟩
  · rw [fw_out (by omega), fb_out (by omega)] at HT
    have HFF : Hid (f = false) := Lib.hid (by
      cases hff : f with
      | false => rfl
      | true => exact absurd (show up9 ys m < 18446744073709551616 by have h1 := (HF.out.1 hff).1; rw [HL.out] at h1; omega) hfit)
    clear hfit
    go_enter Try.func13, Try.ntmps13
    go_wp2_with fail
    refine HT.out.mono ?_
    rintro e w1 ⟨rfl, rfl⟩
    clear HT
    go_wp2_with fail
    go_ret
    exact ⟨by rw [HFF.out]; rfl, HB0.out⟩
end Go.Proofs.Ytcanahjilfnijaa
