/-
  A tree of sums, and the law's own list beside it: a weight is set.
-/
import Derived.Test.YtodbmpbhjbknlaaLawTreeA
namespace Go.Proofs.Ytodbmpbhjbknlaa
open Go.RowKit
set_option maxRecDepth 100000

/-- The tree in block g, and the law's own list: both have the weights xs. -/
structure Pl10 (L : Nat) (w : World) (g n s : Nat) (xs : List Nat) (A : Option Addr) (c : Nat) : Prop where
  tree : ∃ S, Tr w g n s S ∧ Good10 S n xs
  own : w.ownsRow L 30 1 (.slice A n c) n (wds xs)
  room : n ≤ c
  base : L ≤ g
theorem tree_types10 : 50 ≠ 30 := by decide
section
variable {L g n s c : Nat} {w w' : World} {xs : List Nat} {A : Option Addr}
theorem Pl10.ne (h : Pl10 L w g n s xs A c) : (Value.slice A n c).ownBlock ≠ some g := by
  obtain ⟨S, ⟨cs, h1, _⟩, _⟩ := h.tree
  exact own7_ne h.own h1 tree_types10
theorem Pl10.lt (h : Pl10 L w g n s xs A c) : g < w.heap.size := by
  obtain ⟨S, h1, _⟩ := h.tree
  exact h1.lt
theorem Pl10.below (h : Pl10 L w g n s xs A c) (hb : Below w.heap.size w w') : Pl10 L w' g n s xs A c := by
  obtain ⟨S, h1, h2⟩ := h.tree
  exact ⟨⟨S, h1.below hb, h2⟩, own7_keep h.own hb, h.room, h.base⟩
theorem Pl10.quiet (h : Pl10 L w g n s xs A c) (hb : w.grownBy w' none) : Pl10 L w' g n s xs A c := by
  obtain ⟨S, h1, h2⟩ := h.tree
  exact ⟨⟨S, h1.quiet hb, h2⟩, own7_none h.own hb, h.room, h.base⟩
theorem Pl10.len (h : Pl10 L w g n s xs A c) : xs.length = n := by
  obtain ⟨S, h1, h2⟩ := h.tree
  exact h2.len
theorem Pl10.read (h : Pl10 L w g n s xs A c) : Rq w w.heap.size A xs := Rq.of_own h.own
theorem Pl10.words (h : Pl10 L w g n s xs A c) : ∀ x ∈ xs, x < 18446744073709551616 := by
  obtain ⟨S, h1, h2⟩ := h.tree
  exact h2.words
/-- The tree turned, the list does not, and then it is another one. -/
theorem Pl10.turn (h : Pl10 L w g n s xs A c) (hb : w.grownBy w' (some g)) : w'.ownsRow L 30 1 (.slice A n c) n (wds xs) := h.own.kept hb (.inr h.ne)
end
theorem below_row10 {L g : Nat} {w w' : World} (hL : L ≤ w.heap.size) (hb : w.grownBy w' (some g)) (hg : L ≤ g) : Below L w w' := (Below.refl L w).grown hb hL (fun k hk => by cases hk; exact hg)
theorem below_none10 {L : Nat} {w w' : World} (hL : L ≤ w.heap.size) (hb : w.grownBy w' none) : Below L w w' := (Below.refl L w).grown hb hL (fun k hk => by cases hk)

/-- All below block L is as it was, and so is all that was there, but for block g and the row. -/
structure Bk10 (L g : Nat) (row : Option Nat) (w w' : World) : Prop where
  below : Below L w w'
  size : w.heap.size ≤ w'.heap.size
  keep : ∀ b, b < w.heap.size → b ≠ g → some b ≠ row → w'.heap[b]? = w.heap[b]?
section
variable {L g : Nat} {row : Option Nat} {w w1 w' : World}
theorem Bk10.refl (L g : Nat) (row : Option Nat) (w : World) : Bk10 L g row w w := ⟨Below.refl _ _, Nat.le_refl _, fun _ _ _ _ => rfl⟩
theorem Bk10.trans (h : Bk10 L g row w w1) (h' : Bk10 L g row w1 w') : Bk10 L g row w w' :=
  ⟨h.below.trans h'.below, Nat.le_trans h.size h'.size, fun b hb h1 h2 => (h'.keep b (Nat.lt_of_lt_of_le hb h.size) h1 h2).trans (h.keep b hb h1 h2)⟩
theorem bk_below (hL : L ≤ w.heap.size) (h : Below w.heap.size w w') : Bk10 L g row w w' := ⟨h.mono hL, h.size, fun b hb _ _ => h.block b hb⟩
theorem bk_none (hL : L ≤ w.heap.size) (h : w.grownBy w' none) : Bk10 L g row w w' := ⟨below_none10 hL h, h.size, fun b hb _ _ => h.block b hb (by simp)⟩
theorem bk_row (hL : L ≤ w.heap.size) (h : w.grownBy w' (some g)) (hg : L ≤ g) : Bk10 L g row w w' := ⟨below_row10 hL h hg, h.size, fun b hb h1 _ => h.block b hb (by simpa using h1)⟩
theorem Bk10.append (h : Bk10 L g row w w1) (hL : L ≤ w.heap.size) {v : Value} (hv : ∀ j, v.ownBlock = some j → L ≤ j ∧ (some j = row ∨ w.heap.size ≤ j)) (hg : w1.grownBy w' v.ownBlock) : Bk10 L g row w w' :=
  ⟨h.below.grown hg (Nat.le_trans hL h.size) (fun j hj => (hv j hj).1), Nat.le_trans h.size hg.size, fun b hb h1 h2 => (hg.block b (Nat.lt_of_lt_of_le hb h.size) (fun e => by
    rcases (hv b e.symm).2 with h3 | h3
    · exact h2 h3
    · omega)).trans (h.keep b hb h1 h2)⟩
theorem Bk10.blk (h : Bk10 L g row w w') {b : Nat} {t : TypeId} {cs : Array Value} (hb : Blk w b t cs) (h1 : b ≠ g) (h2 : some b ≠ row) : Blk w' b t cs := (h.keep b hb.lt h1 h2).trans hb
end

set_option maxHeartbeats 2000000 in
theorem lset10_range {L g n s c nk ck W : Nat} {xs : List Nat} {A Ak : Option Addr} (kd i : Int) (w : World) (h : Pl10 L w g n s xs A c) (hL : L ≤ w.heap.size) (hi : i < 0 ∨ (n : Int) ≤ i) :
    Calls Try.prog 8 #[.pointer (some ⟨g, 0, none⟩), .slice A n c, .agg #[.int .i64 kd, .int .i64 i, .int .u64 (W : Int), .slice Ak nk ck]] w fun e w' =>
      e = .returned (.tuple #[.slice A n c, .bool true]) ∧ Pl10 L w' g n s xs A c ∧ Bk10 L g (Value.slice A n c).ownBlock w w' := by
  have hba := b1' w (.cells #[.int .i64 kd, .int .i64 i, .int .u64 (W : Int), .slice Ak nk ck] 32)
  have HP := Lib.hid (h.below hba)
  have HB : Hid (Bk10 L g (Value.slice A n c).ownBlock w _) := Lib.hid (bk_below hL hba)
  have HS : Hid (∀ W', Pl10 L W' g n s xs A c → Calls Try.prog 13 #[.pointer (some ⟨g, 0, none⟩), .int .i64 i, .int .u64 (W : Int)] W' fun e w' => e = .returned (.int .i64 6) ∧ w' = W') := Lib.hid (fun W' hp => by
    obtain ⟨S, h1, h2⟩ := hp.tree
    exact set10_range i W W' h1 hi)
  clear h hba
  by_cases hi1 : i < 0
  · clear hi
    go_enter Try.func8, Try.ntmps8
    go_wp2_with fail
    refine (HS.out _ HP.out).mono ?_
    rintro e w1 ⟨rfl, rfl⟩
    go_wp2_with fail
    go_ret2
    exact ⟨rfl, HP.out, HB.out⟩
  · have hi2 : (n : Int) ≤ i := by omega
    clear hi
    go_enter Try.func8, Try.ntmps8
    go_wp2_with fail
    refine (HS.out _ HP.out).mono ?_
    rintro e w1 ⟨rfl, rfl⟩
    go_wp2_with fail
    go_ret2
    exact ⟨rfl, HP.out, HB.out⟩

set_option maxHeartbeats 2000000 in
theorem lset10_over {L g n s c nk ck W i : Nat} {xs : List Nat} {A Ak : Option Addr} (kd : Int) (w : World) (h : Pl10 L w g n s xs A c) (hL : L ≤ w.heap.size) (hi : i < n) (hW : W < 18446744073709551616) (hf : 18446744073709551616 ≤ up9 (put10 xs i W) n) :
    Calls Try.prog 8 #[.pointer (some ⟨g, 0, none⟩), .slice A n c, .agg #[.int .i64 kd, .int .i64 (i : Int), .int .u64 (W : Int), .slice Ak nk ck]] w fun e w' =>
      e = .returned (.tuple #[.slice A n c, .bool true]) ∧ Pl10 L w' g n s xs A c ∧ Bk10 L g (Value.slice A n c).ownBlock w w' := by
  have hba := b1' w (.cells #[.int .i64 kd, .int .i64 (i : Int), .int .u64 (W : Int), .slice Ak nk ck] 32)
  have hpa := h.below hba
  have HP := Lib.hid hpa
  have HB : Hid (Bk10 L g (Value.slice A n c).ownBlock w _) := Lib.hid (bk_below hL hba)
  have hs1 := hba.size
  have hn4 : n ≤ 4096 := by
    obtain ⟨S, h1, h2⟩ := h.tree
    exact h2.many
  have HA := Lib.hid (Blk.new w 32 #[.int .i64 kd, .int .i64 (i : Int), .int .u64 (W : Int), .slice Ak nk ck])
  have HS : Hid (Calls Try.prog 13 #[.pointer (some ⟨g, 0, none⟩), .int .i64 (i : Int), .int .u64 (W : Int)] (w.alloc (.cells #[.int .i64 kd, .int .i64 (i : Int), .int .u64 (W : Int), .slice Ak nk ck] 32)) fun e w' =>
      e = .returned (.int .i64 10) ∧ (w.alloc (.cells #[.int .i64 kd, .int .i64 (i : Int), .int .u64 (W : Int), .slice Ak nk ck] 32)).grownBy w' none) := Lib.hid (by
    obtain ⟨S, h1, h2⟩ := hpa.tree
    exact set10_over i W _ h1 h2 hi hW hf)
  have HWD : Hid (∀ x ∈ put10 xs i W, x < 18446744073709551616) := Lib.hid (fun x hx => by
    rcases List.mem_or_eq_of_mem_set hx with h1 | rfl
    · exact h.words x h1
    · exact hW)
  have HF := Lib.hid hf
  have hi1 : ¬ (i : Int) < 0 := by omega
  have hi2 : ¬ (n : Int) ≤ (i : Int) := by omega
  have hLs : L ≤ w.heap.size := hL
  clear h hba hpa hf
  go_enter Try.func8, Try.ntmps8
  go_wp2_with fail
  refine HS.out.mono ?_
  rintro e w1 ⟨rfl, hb1⟩
  have HP1 := Lib.hid (HP.out.quiet hb1)
  have HA1 := HA.out.grown hb1 (by simp)
  have c1 := HA1.cell 1
  have c2 := HA1.cell 2
  have hs2 := hb1.size
  have HB1 := Lib.hid (HB.out.trans (bk_none (by omega) hb1))
  have HPUT := Lib.hid (rput10_any A xs n c i W w1 HP1.out.len HP1.out.read hi (by omega))
  clear HS HP hb1 HA1 HB
  go_wp2_with fail
  refine HPUT.out.mono ?_
  rintro e w2 ⟨A2, n2, cc2, rfl, hl2, hc2, hown2, hb2⟩
  obtain rfl : n = n2 := by rw [← hl2, put10_length]; exact HP1.out.len.symm
  have HP2 := Lib.hid (HP1.out.below hb2)
  have hs3 := hb2.size
  have HB2 := Lib.hid (HB1.out.trans (bk_below (show L ≤ w1.heap.size by omega) hb2))
  have HT := rtotal_any A2 (put10 xs i W) n cc2 w2 hl2 (Rq.of_own hown2) HWD.out (by omega)
  rw [fw_out HF.out, fb_out HF.out] at HT
  have HT2 := Lib.hid HT
  clear hl2 hown2 hb2 HT HPUT HP1 HB1 c1 c2
  go_wp2_with fail
  refine HT2.out.mono ?_
  rintro e w3 ⟨rfl, hb3⟩
  have HP3 := Lib.hid (HP2.out.below hb3)
  have HB3 := Lib.hid (HB2.out.trans (bk_below (show L ≤ w2.heap.size by omega) hb3))
  clear hb3 HT2
  go_wp2_with fail
  go_ret2
  exact ⟨rfl, HP3.out, HB3.out⟩
set_option maxHeartbeats 2000000 in
theorem lset10_ok {L g n s c nk ck W i : Nat} {xs : List Nat} {A Ak : Option Addr} (kd : Int) (w : World) (h : Pl10 L w g n s xs A c) (hL : L ≤ w.heap.size) (hi : i < n) (hW : W < 18446744073709551616) (hf : up9 (put10 xs i W) n < 18446744073709551616) :
    Calls Try.prog 8 #[.pointer (some ⟨g, 0, none⟩), .slice A n c, .agg #[.int .i64 kd, .int .i64 (i : Int), .int .u64 (W : Int), .slice Ak nk ck]] w fun e w' =>
      ∃ A' c', e = .returned (.tuple #[.slice A' n c', .bool true]) ∧ Pl10 L w' g n (hgt10 n + 1) (put10 xs i W) A' c' ∧ Bk10 L g (Value.slice A n c).ownBlock w w' := by
  have hba := b1' w (.cells #[.int .i64 kd, .int .i64 (i : Int), .int .u64 (W : Int), .slice Ak nk ck] 32)
  have hpa := h.below hba
  have HP := Lib.hid hpa
  have HB : Hid (Bk10 L g (Value.slice A n c).ownBlock w _) := Lib.hid (bk_below hL hba)
  have hs1 := hba.size
  have hn4 : n ≤ 4096 := by
    obtain ⟨S, h1, h2⟩ := h.tree
    exact h2.many
  have HA := Lib.hid (Blk.new w 32 #[.int .i64 kd, .int .i64 (i : Int), .int .u64 (W : Int), .slice Ak nk ck])
  have HS : Hid (Calls Try.prog 13 #[.pointer (some ⟨g, 0, none⟩), .int .i64 (i : Int), .int .u64 (W : Int)] (w.alloc (.cells #[.int .i64 kd, .int .i64 (i : Int), .int .u64 (W : Int), .slice Ak nk ck] 32)) fun e w' =>
      e = .returned (.int .i64 0) ∧ (∃ S', Tr w' g n (hgt10 n + 1) S' ∧ Good10 S' n (put10 xs i W)) ∧ (w.alloc (.cells #[.int .i64 kd, .int .i64 (i : Int), .int .u64 (W : Int), .slice Ak nk ck] 32)).grownBy w' (some g)) := Lib.hid (by
    obtain ⟨S, h1, h2⟩ := hpa.tree
    exact set10_ok i W _ h1 h2 hi hW hf)
  have HWD : Hid (∀ x ∈ put10 xs i W, x < 18446744073709551616) := Lib.hid (fun x hx => by
    rcases List.mem_or_eq_of_mem_set hx with h1 | rfl
    · exact h.words x h1
    · exact hW)
  have HF := Lib.hid hf
  have HXL := Lib.hid h.len
  have hi1 : ¬ (i : Int) < 0 := by omega
  have hi2 : ¬ (n : Int) ≤ (i : Int) := by omega
  have hgw : g < w.heap.size := h.lt
  have hLg : L ≤ g := h.base
  have hLs : L ≤ w.heap.size := hL
  have h1n : 1 ≤ n := by omega
  have h12 := hgt10_le hn4
  clear h hba hpa hf
  go_enter Try.func8, Try.ntmps8
  go_wp2_with fail
  refine HS.out.mono ?_
  rintro e w1 ⟨rfl, ht1, hb1⟩
  have HT1 := Lib.hid ht1
  have HOW1 := Lib.hid (HP.out.turn hb1)
  have HA1 := HA.out.grown hb1 (by simp; omega)
  have c1 := HA1.cell 1
  have c2 := HA1.cell 2
  have hs2 := hb1.size
  have HB1 := Lib.hid (HB.out.trans (bk_row (by omega) hb1 hLg))
  have HPUT := Lib.hid (rput10_any A xs n c i W w1 HXL.out (Rq.of_own HOW1.out) hi (by omega))
  clear HS HP hb1 HA1 HB ht1
  go_wp2_with fail
  refine HPUT.out.mono ?_
  rintro e w2 ⟨A2, n2, cc2, rfl, hl2, hc2, hown2, hb2⟩
  obtain rfl : n = n2 := by rw [← hl2, put10_length]; exact HXL.out.symm
  have hs3 := hb2.size
  have HP2 : Hid (Pl10 L w2 g n (hgt10 n + 1) (put10 xs i W) A2 cc2) := Lib.hid (by
    obtain ⟨S', a1, a2⟩ := HT1.out
    exact ⟨⟨S', a1.below hb2, a2⟩, own7_base hown2 (by omega), hc2, hLg⟩)
  have HB2 := Lib.hid (HB1.out.trans (bk_below (show L ≤ w1.heap.size by omega) hb2))
  have HT := rtotal_any A2 (put10 xs i W) n cc2 w2 hl2 (Rq.of_own hown2) HWD.out (by omega)
  rw [fw_in HF.out, fb_in HF.out] at HT
  have HT2 := Lib.hid HT
  clear hl2 hown2 hb2 HT HPUT HT1 HB1 c1 c2 HOW1
  go_wp2_with fail
  refine HT2.out.mono ?_
  rintro e w3 ⟨rfl, hb3⟩
  have hp3 := HP2.out.below hb3
  have HP3 := Lib.hid hp3
  have HB3 := Lib.hid (HB2.out.trans (bk_below (show L ≤ w2.heap.size by omega) hb3))
  have HST : Hid (Calls Try.prog 21 #[.pointer (some ⟨g, 0, none⟩)] w3 fun e w' => e = .returned (.int .i64 ((hgt10 n + 1 : Nat) : Int)) ∧ w' = w3) := Lib.hid (by
    obtain ⟨S', a1, a2⟩ := hp3.tree
    exact steps10_any w3 a1)
  have HHE := Lib.hid (rheight10_any n w3 h1n hn4)
  obtain ⟨H, hH⟩ : ∃ H, hgt10 n = H := ⟨_, rfl⟩
  have HH := Lib.hid hH
  rw [hH] at HST HHE h12
  obtain ⟨Y, hY⟩ : ∃ Y, H + 1 = Y := ⟨_, rfl⟩
  rw [hY] at HST
  have hw : IntKind.i64.wrap ((H : Int) + 1) = (Y : Int) := by rw [IntKind.wrap_i64]; omega
  have hY1 : (1 : Int) ≤ (Y : Int) := by omega
  clear hb3 HT2 hp3 HP2 hH hY
  go_wp2_with fail
  refine HST.out.mono ?_
  rintro e w4 ⟨rfl, rfl⟩
  go_wp2_with fail
  refine HST.out.mono ?_
  rintro e w5 ⟨rfl, rfl⟩
  go_wp2_with fail
  refine HHE.out.mono ?_
  rintro e w6 ⟨rfl, rfl⟩
  go_wp2_with fail
  go_ret2
  exact ⟨A2, cc2, rfl, HP3.out, HB3.out⟩
end Go.Proofs.Ytodbmpbhjbknlaa
