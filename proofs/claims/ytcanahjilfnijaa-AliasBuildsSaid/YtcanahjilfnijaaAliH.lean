/-
  Alias tables: package alias's begun: the builder at the beginning.
-/
import Derived.Test.YtcanahjilfnijaaAliG
namespace Go.Proofs.Ytcanahjilfnijaa
open Go.RowKit
set_option maxRecDepth 100000

theorem info_word12 : (Try.prog.info? 24).map (fun i => (i.zero, i.size, i.bytes)) = some (some (.int .u64 0), 1, 8) := by kernel_rfl
theorem info_col12 : (Try.prog.info? 64).map (fun i => (i.zero, i.size, i.bytes)) = some (some (.agg #[.int .u64 0, .int .i64 0]), 2, 16) := by kernel_rfl
theorem make_word12 (n : Nat) (hn : n ≤ 1000000) (W : World) : (Instr.makeSlice 22 (.int .i64 (n : Int)) (.int .i64 (n : Int))).run Try.prog W =
    .ok (.slice (some ⟨W.heap.size, 0, none⟩) n n) (W.alloc (.cells (madeCells #[.int .u64 0] n) 24)) := by
  obtain ⟨i, hi, hzz⟩ := Option.map_eq_some_iff.1 info_word12
  simp only [Prod.mk.injEq] at hzz
  obtain ⟨hz, hs, hb⟩ := hzz
  have hr := run_make (P := Try.prog) W 22 24 i _ Try.underlying22 hi hz .i64 .i64 n n (by omega) (Int.le_refl _) (by rw [hb]; omega) (by omega)
  simp only [Int.toNat_natCast, hs, Value.cells, Nat.mul_one] at hr
  exact hr
theorem make_col12 (n : Nat) (hn : n ≤ 1000000) (W : World) : (Instr.makeSlice 25 (.int .i64 (n : Int)) (.int .i64 (n : Int))).run Try.prog W =
    .ok (.slice (some ⟨W.heap.size, 0, none⟩) n n) (W.alloc (.cells (madeCells #[.int .u64 0, .int .i64 0] (n * 2)) 64)) := by
  obtain ⟨i, hi, hzz⟩ := Option.map_eq_some_iff.1 info_col12
  simp only [Prod.mk.injEq] at hzz
  obtain ⟨hz, hs, hb⟩ := hzz
  have hr := run_make (P := Try.prog) W 25 64 i _ Try.underlying25 hi hz .i64 .i64 n n (by omega) (Int.le_refl _) (by rw [hb]; omega) (by omega)
  simp only [Int.toNat_natCast, hs, Value.cells] at hr
  exact hr
theorem made_h12 (W : World) (n : Nat) : Hd12 (W.alloc (.cells (madeCells #[.int .u64 0] n) 24)) W.heap.size n (fun _ => 0) :=
  ⟨_, Blk.new W _ _, size_madeCells _ _, fun j hj => by
    have hs : (madeCells #[Value.int .u64 0] n).size = n := size_madeCells _ _
    rw [Array.getElem?_eq_getElem (by omega)]
    simp [madeCells, Array.getElem_ofFn, Nat.mod_one]⟩
theorem made_c12 (W : World) (n : Nat) : Cb12 (W.alloc (.cells (madeCells #[.int .u64 0, .int .i64 0] (n * 2)) 64)) W.heap.size n (fun _ => 0) (fun _ => 0) :=
  ⟨_, Blk.new W _ _, size_madeCells _ _, fun j hj => made_two12 _ _ n j hj⟩

/-- Weights times their count. -/
def mulH (xs : List Nat) (n : Nat) (j : Nat) : Nat := n * nth xs j
/-- What begun has done for the first k places. -/
def Bg12 (W : World) (L g gh gc n t : Nat) (xs : List Nat) (k : Nat) : Prop := ∃ h c o, En12 W L g gh gc n t h c o (lsf t (mulH xs n) k) (msf t (mulH xs n) k) ∧ ∀ j, j < k → h j = mulH xs n j ∧ c j = t ∧ o j = j

set_option maxHeartbeats 4000000 in
theorem begun12_any (A : Option Addr) (xs : List Nat) (n cc t : Nat) (w : World) (hl : xs.length = n) (hr : Rq w w.heap.size A xs) (hn : n ≤ 1000000) (ht : t < 18446744073709551616) (hcap : ∀ k, k < n → n * nth xs k < 18446744073709551616) :
    Calls Try.prog 22 #[.slice A n cc, .int .u64 (t : Int)] w fun e w' => ∃ g gh gc, e = .returned (.pointer (some ⟨g, 0, none⟩)) ∧ Bg12 w' w.heap.size g gh gc n t xs n ∧ Below w.heap.size w w' := by
  have HL := Lib.hid hl
  have HR := Lib.hid hr
  have HCAP := Lib.hid hcap
  have hmk1 := make_word12 n hn
  have hmk2 := make_col12 n hn
  clear hl hr hcap
  go_enter Try.func22, Try.ntmps22
  go_wp2_with fail
  have HS0 := Lib.hid (Below.refl w.heap.size w).drew
  refine wp_region_held_drew (S := fun W => Below w.heap.size w W) (by kernel_rfl) HS0.out (fun hHeld => ?_)
  obtain ⟨wn, hwn⟩ : ∃ W, w.drew = W := ⟨_, rfl⟩
  rw [hwn] at HS0 hHeld
  rw [hwn]
  have HBS := HS0
  have HBP := HS0
  clear hwn
  refine wpAnyH_take (i := 0) (v := ?_) (op_of rfl) (by kernel_rfl) (by kernel_rfl) (by kernel_rfl) (fun _ _ _ h => h) (Or.inl ⟨by rfl, fun W hS => ?_⟩) (by assumption) ?_
  rotate_left
  · dsimp only at hS
    go_simp
    try with_reducible rfl
  try dsimp only [Act.put]
  try simp only [List.setIfInBounds_toArray, List.set_cons_zero, List.set_cons_succ]
  refine wpAnyH_take (i := 1) (v := ?_) (op_of rfl) (by kernel_rfl) (by kernel_rfl) (by kernel_rfl) (fun _ _ _ h => h) (Or.inl ⟨by rfl, fun W hS => ?_⟩) (by assumption) ?_
  rotate_left
  · dsimp only at hS
    go_simp
    try with_reducible rfl
  try dsimp only [Act.put]
  try simp only [List.setIfInBounds_toArray, List.set_cons_zero, List.set_cons_succ]
  refine wpAnyH_take (i := 2) (v := ?_) (op_of rfl) (by kernel_rfl) (by kernel_rfl) (by kernel_rfl) (fun _ _ _ h => h) (Or.inl ⟨by rfl, fun W hS => ?_⟩) (by assumption) ?_
  rotate_left
  · dsimp only at hS
    go_simp
    try with_reducible rfl
  try dsimp only [Act.put]
  try simp only [List.setIfInBounds_toArray, List.set_cons_zero, List.set_cons_succ]
  refine wpAnyH_take (i := 4) (v := ?_) (op_of rfl) (by kernel_rfl) (by kernel_rfl) (by kernel_rfl) (fun _ _ _ h => h) (Or.inl ⟨by rfl, fun W hS => ?_⟩) (by assumption) ?_
  rotate_left
  · dsimp only at hS
    go_simp
    try with_reducible rfl
  try dsimp only [Act.put]
  try simp only [List.setIfInBounds_toArray, List.set_cons_zero, List.set_cons_succ]
  refine wpAnyH_take (i := 5) (v := ?_) (op_of rfl) (by kernel_rfl) (by kernel_rfl) (by kernel_rfl) (fun _ _ _ h => h) (Or.inl ⟨by rfl, fun W hS => ?_⟩) (by assumption) ?_
  rotate_left
  · dsimp only at hS
    go_simp
    try with_reducible rfl
  try dsimp only [Act.put]
  try simp only [List.setIfInBounds_toArray, List.set_cons_zero, List.set_cons_succ]
  refine wpAnyH_ready (rs := [3, 6]) (by kernel_rfl) (by simp) (AllReadyH.cons (op_of rfl) (fun K hK => ?_) (AllReadyH.cons (op_of rfl) (fun K hK => ?_) AllReadyH.nil))
  · skip
    have HH := Lib.hid (made_h12 wn n)
    have HBS := Lib.hid (HBS.out.alloc HBS.out.size (.cells (madeCells #[.int .u64 0] n) 24))
    obtain ⟨wa, hwa⟩ : ∃ W, wn.alloc (.cells (madeCells #[.int .u64 0] n) 24) = W := ⟨_, rfl⟩
    rw [hwa] at HBS HH
    obtain ⟨gh, hgh⟩ : ∃ k, wn.heap.size = k := ⟨_, rfl⟩
    rw [hgh] at HH
    have HGgh : Hid (w.heap.size ≤ gh) := Lib.hid (by rw [← hgh]; exact HBP.out.size)
    have HBP := HBS
    go_simp
    refine hK.out _ _ HBS.out (fun hHeld => ?_)
    clear hK K
    try dsimp only [Act.put]
    try simp only [List.setIfInBounds_toArray, List.set_cons_zero, List.set_cons_succ]
    refine wpAnyH_ready (rs := [6]) (by kernel_rfl) (by simp) (AllReadyH.cons (op_of rfl) (fun K hK => ?_) AllReadyH.nil)
    have HC := Lib.hid (made_c12 wa n)
    have HBS := Lib.hid (HBS.out.alloc HBS.out.size (.cells (madeCells #[.int .u64 0, .int .i64 0] (n * 2)) 64))
    have HH := Lib.hid (HH.out.below (b1' wa (.cells (madeCells #[.int .u64 0, .int .i64 0] (n * 2)) 64)))
    obtain ⟨wb, hwb⟩ : ∃ W, wa.alloc (.cells (madeCells #[.int .u64 0, .int .i64 0] (n * 2)) 64) = W := ⟨_, rfl⟩
    rw [hwb] at HBS HC HH
    obtain ⟨gc, hgc⟩ : ∃ k, wa.heap.size = k := ⟨_, rfl⟩
    rw [hgc] at HC
    have HGgc : Hid (w.heap.size ≤ gc) := Lib.hid (by rw [← hgc]; exact HBP.out.size)
    have HBP := HBS
    go_simp
    refine hK.out _ _ HBS.out (fun hHeld => ?_)
    clear hK K
    try dsimp only [Act.put]
    try simp only [List.setIfInBounds_toArray, List.set_cons_zero, List.set_cons_succ]
    refine wpAnyH_take (i := 7) (v := ?_) (op_of rfl) (by kernel_rfl) (by kernel_rfl) (by kernel_rfl) (fun _ _ _ h => h) (Or.inl ⟨by rfl, fun W hS => ?_⟩) (by assumption) ?_
    rotate_left
    · dsimp only at hS
      go_simp
      try with_reducible rfl
    try dsimp only [Act.put]
    try simp only [List.setIfInBounds_toArray, List.set_cons_zero, List.set_cons_succ]
    refine wpAnyH_ready (rs := [8]) (by kernel_rfl) (by simp) (AllReadyH.cons (op_of rfl) (fun K hK => ?_) AllReadyH.nil)
    have HX := Lib.hid (Blk.new wb 61 #[.int .u64 (t : Int), .slice (some ⟨gh, 0, none⟩) n n, .slice (some ⟨gc, 0, none⟩) n n, .slice none 0 0, .slice none 0 0])
    have HH := Lib.hid (HH.out.below (b1' wb (.cells #[.int .u64 (t : Int), .slice (some ⟨gh, 0, none⟩) n n, .slice (some ⟨gc, 0, none⟩) n n, .slice none 0 0, .slice none 0 0] 61)))
    have HC := Lib.hid (HC.out.below (b1' wb (.cells #[.int .u64 (t : Int), .slice (some ⟨gh, 0, none⟩) n n, .slice (some ⟨gc, 0, none⟩) n n, .slice none 0 0, .slice none 0 0] 61)))
    have HBS := Lib.hid (HBS.out.alloc HBS.out.size (.cells #[.int .u64 (t : Int), .slice (some ⟨gh, 0, none⟩) n n, .slice (some ⟨gc, 0, none⟩) n n, .slice none 0 0, .slice none 0 0] 61))
    obtain ⟨wc, hwc⟩ : ∃ W, wb.alloc (.cells #[.int .u64 (t : Int), .slice (some ⟨gh, 0, none⟩) n n, .slice (some ⟨gc, 0, none⟩) n n, .slice none 0 0, .slice none 0 0] 61) = W := ⟨_, rfl⟩
    rw [hwc] at HBS HH HC HX
    obtain ⟨g, hg⟩ : ∃ k, wb.heap.size = k := ⟨_, rfl⟩
    rw [hg] at HX
    have HGg : Hid (w.heap.size ≤ g) := Lib.hid (by rw [← hg]; exact HBP.out.size)
    go_simp
    refine hK.out _ _ HBS.out (fun hHeld => ?_)
    clear hK K
    try dsimp only [Act.put]
    try simp only [List.setIfInBounds_toArray, List.set_cons_zero, List.set_cons_succ]
    refine wpAnyH_ready (rs := [9]) (by kernel_rfl) (by simp) (AllReadyH.cons (op_of rfl) (fun K hK => ?_) AllReadyH.nil)
    go_simp
    refine hK.out _ _ HBS.out (fun hHeld => ?_)
    clear hK K
    try dsimp only [Act.put]
    try simp only [List.setIfInBounds_toArray, List.set_cons_zero, List.set_cons_succ]
    refine wpAnyH_done (by kernel_rfl) ?_ _
    have HB0 : Hid (Bg12 wc w.heap.size g gh gc n t xs 0) := Lib.hid ⟨fun _ => 0, fun _ => 0, fun _ => 0, ⟨none, 0, 0, none, 0, 0, HX.out, HH.out, HC.out, rfl, rfl, World.ownsRow_nil _ _ _ _, World.ownsRow_nil _ _ _ _, (by intro r h; cases h), HGg.out, HGgh.out, HGgc.out⟩, fun j hj => by omega⟩
    clear HX HH HC hmk1 hmk2 hgh hgc hg hwa hwb hwc
    go_wp2_with fail
    go_loopw [19] (fun i wr => ∃ k : Nat, i = .int .i64 (k : Int) ∧ k ≤ n ∧ Hid (Bg12 wr w.heap.size g gh gc n t xs k) ∧ Hid (Below w.heap.size w wr)) (fun i _ => n - (intOf i).toNat)
    case atStart => exact ⟨0, rfl, by omega, HB0, HBS⟩
    case round =>
      obtain ⟨k, rfl, hk, HB, HBR⟩ := hrel
      by_cases hkn : k < n
      · obtain ⟨a, o, hA, _, c0⟩ := Rq.at_ (Rv.below HR.out HBR.out (Nat.le_refl _)) (show k < xs.length by have := HL.out; omega)
        subst hA
        have hcap := HCAP.out k hkn
        obtain ⟨x, hxk⟩ : ∃ x, nth xs k = x := ⟨_, rfl⟩
        rw [hxk] at c0 hcap
        obtain ⟨h, c, oo, ⟨Al, kl, cl, Am, km, cm, b⟩, hj⟩ := HB.out
        obtain ⟨y, hy⟩ : ∃ y, n * x = y := ⟨_, rfl⟩
        rw [hy] at hcap
        have hwy : IntKind.u64.wrap ((x : Int) * (n : Int)) = (y : Int) := by rw [← hy, IntKind.wrap_u64, Int.natCast_mul, Int.mul_comm (x : Int)]; rw [← Int.natCast_mul, hy]; omega
        have hwn : IntKind.u64.wrap (n : Int) = (n : Int) := by rw [IntKind.wrap_u64]; omega
        have hi0 : (0 : Int) ≤ (k : Int) := by omega
        have hi1 : (k : Int) < (n : Int) := by omega
        have i1 := b.box.cell 1
        have j1 := b.holds.cells hkn
        have jf := j1.2
        have j0 := j1.1
        have b1 := b.puth hkn y
        have hL1 := HBR.out.setCell (p := ⟨gh, k, none⟩) HGgh.out (.int .u64 (y : Int))
        obtain ⟨w1, hw1⟩ : ∃ w1, wr.setCell ⟨gh, k, none⟩ (.int .u64 (y : Int)) = w1 := ⟨_, rfl⟩
        rw [hw1] at b1 hL1
        have i2 := b1.box.cell 2
        obtain ⟨y0, y1, yf⟩ := b1.cols.cells hkn
        have yf0 := yf (k * 2)
        have yf1 := yf (k * 2 + 1)
        have b2 := b1.putc hkn t k
        have hL2 := (hL1.setCell (p := ⟨gc, k * 2, none⟩) HGgc.out (.int .u64 (t : Int))).setCell (p := ⟨gc, k * 2 + 1, none⟩) HGgc.out (.int .i64 (k : Int))
        obtain ⟨w2, hw2⟩ : ∃ w2, (w1.setCell ⟨gc, k * 2, none⟩ (.int .u64 (t : Int))).setCell ⟨gc, k * 2 + 1, none⟩ (.int .i64 (k : Int)) = w2 := ⟨_, rfl⟩
        rw [hw2] at b2 hL2
        have hlen := lsf_len t (mulH xs n) k
        rw [b.ll, b.lm] at hlen
        have hE := enlist12_any k w2 b2 hL2.size hkn hn (by omega)
        have hyk : mulH xs n k = y := by rw [mulH, hxk, hy]
        rw [upd_at, ← hyk, ← lsf_succ, ← msf_succ, hyk] at hE
        have HE := Lib.hid hE
        have HJ : Hid (∀ j, j < k + 1 → upd h k y j = mulH xs n j ∧ upd c k t j = t ∧ upd oo k k j = j) := Lib.hid (fun j hjk => by
          by_cases hjk2 : j = k
          · subst hjk2
            rw [upd_at, upd_at, upd_at]
            exact ⟨hyk.symm, rfl, rfl⟩
          · rw [upd_far _ _ hjk2, upd_far _ _ hjk2, upd_far _ _ hjk2]
            exact hj j (by omega))
        have HL2 := Lib.hid hL2
        clear b b1 b2 j1 yf hE hyk hj hlen hL1 hL2 hy hxk
        go_wp2_with fail
        refine HE.out.mono ?_
        rintro en w3 ⟨rfl, hen, hb3⟩
        have HL3 := Lib.hid (HL2.out.trans hb3)
        have HEN := Lib.hid hen
        clear HE hen hb3
        go_wp2_with fail
        go_roundw
        case rel => exact ⟨k + 1, by go_num, by omega, Lib.hid ⟨_, _, _, HEN.out, HJ.out⟩, HL3⟩
        case measure => simp [intOf]; omega
      · obtain rfl : k = n := by omega
        go_wp2_with fail
        go_ret
        exact ⟨g, gh, gc, rfl, HB.out, HBR.out⟩
  · skip
    have HC := Lib.hid (made_c12 wn n)
    have HBS := Lib.hid (HBS.out.alloc HBS.out.size (.cells (madeCells #[.int .u64 0, .int .i64 0] (n * 2)) 64))
    obtain ⟨wa, hwa⟩ : ∃ W, wn.alloc (.cells (madeCells #[.int .u64 0, .int .i64 0] (n * 2)) 64) = W := ⟨_, rfl⟩
    rw [hwa] at HBS HC
    obtain ⟨gc, hgc⟩ : ∃ k, wn.heap.size = k := ⟨_, rfl⟩
    rw [hgc] at HC
    have HGgc : Hid (w.heap.size ≤ gc) := Lib.hid (by rw [← hgc]; exact HBP.out.size)
    have HBP := HBS
    go_simp
    refine hK.out _ _ HBS.out (fun hHeld => ?_)
    clear hK K
    try dsimp only [Act.put]
    try simp only [List.setIfInBounds_toArray, List.set_cons_zero, List.set_cons_succ]
    refine wpAnyH_ready (rs := [3]) (by kernel_rfl) (by simp) (AllReadyH.cons (op_of rfl) (fun K hK => ?_) AllReadyH.nil)
    have HH := Lib.hid (made_h12 wa n)
    have HBS := Lib.hid (HBS.out.alloc HBS.out.size (.cells (madeCells #[.int .u64 0] n) 24))
    have HC := Lib.hid (HC.out.below (b1' wa (.cells (madeCells #[.int .u64 0] n) 24)))
    obtain ⟨wb, hwb⟩ : ∃ W, wa.alloc (.cells (madeCells #[.int .u64 0] n) 24) = W := ⟨_, rfl⟩
    rw [hwb] at HBS HH HC
    obtain ⟨gh, hgh⟩ : ∃ k, wa.heap.size = k := ⟨_, rfl⟩
    rw [hgh] at HH
    have HGgh : Hid (w.heap.size ≤ gh) := Lib.hid (by rw [← hgh]; exact HBP.out.size)
    have HBP := HBS
    go_simp
    refine hK.out _ _ HBS.out (fun hHeld => ?_)
    clear hK K
    try dsimp only [Act.put]
    try simp only [List.setIfInBounds_toArray, List.set_cons_zero, List.set_cons_succ]
    refine wpAnyH_take (i := 7) (v := ?_) (op_of rfl) (by kernel_rfl) (by kernel_rfl) (by kernel_rfl) (fun _ _ _ h => h) (Or.inl ⟨by rfl, fun W hS => ?_⟩) (by assumption) ?_
    rotate_left
    · dsimp only at hS
      go_simp
      try with_reducible rfl
    try dsimp only [Act.put]
    try simp only [List.setIfInBounds_toArray, List.set_cons_zero, List.set_cons_succ]
    refine wpAnyH_ready (rs := [8]) (by kernel_rfl) (by simp) (AllReadyH.cons (op_of rfl) (fun K hK => ?_) AllReadyH.nil)
    have HX := Lib.hid (Blk.new wb 61 #[.int .u64 (t : Int), .slice (some ⟨gh, 0, none⟩) n n, .slice (some ⟨gc, 0, none⟩) n n, .slice none 0 0, .slice none 0 0])
    have HH := Lib.hid (HH.out.below (b1' wb (.cells #[.int .u64 (t : Int), .slice (some ⟨gh, 0, none⟩) n n, .slice (some ⟨gc, 0, none⟩) n n, .slice none 0 0, .slice none 0 0] 61)))
    have HC := Lib.hid (HC.out.below (b1' wb (.cells #[.int .u64 (t : Int), .slice (some ⟨gh, 0, none⟩) n n, .slice (some ⟨gc, 0, none⟩) n n, .slice none 0 0, .slice none 0 0] 61)))
    have HBS := Lib.hid (HBS.out.alloc HBS.out.size (.cells #[.int .u64 (t : Int), .slice (some ⟨gh, 0, none⟩) n n, .slice (some ⟨gc, 0, none⟩) n n, .slice none 0 0, .slice none 0 0] 61))
    obtain ⟨wc, hwc⟩ : ∃ W, wb.alloc (.cells #[.int .u64 (t : Int), .slice (some ⟨gh, 0, none⟩) n n, .slice (some ⟨gc, 0, none⟩) n n, .slice none 0 0, .slice none 0 0] 61) = W := ⟨_, rfl⟩
    rw [hwc] at HBS HH HC HX
    obtain ⟨g, hg⟩ : ∃ k, wb.heap.size = k := ⟨_, rfl⟩
    rw [hg] at HX
    have HGg : Hid (w.heap.size ≤ g) := Lib.hid (by rw [← hg]; exact HBP.out.size)
    go_simp
    refine hK.out _ _ HBS.out (fun hHeld => ?_)
    clear hK K
    try dsimp only [Act.put]
    try simp only [List.setIfInBounds_toArray, List.set_cons_zero, List.set_cons_succ]
    refine wpAnyH_ready (rs := [9]) (by kernel_rfl) (by simp) (AllReadyH.cons (op_of rfl) (fun K hK => ?_) AllReadyH.nil)
    go_simp
    refine hK.out _ _ HBS.out (fun hHeld => ?_)
    clear hK K
    try dsimp only [Act.put]
    try simp only [List.setIfInBounds_toArray, List.set_cons_zero, List.set_cons_succ]
    refine wpAnyH_done (by kernel_rfl) ?_ _
    have HB0 : Hid (Bg12 wc w.heap.size g gh gc n t xs 0) := Lib.hid ⟨fun _ => 0, fun _ => 0, fun _ => 0, ⟨none, 0, 0, none, 0, 0, HX.out, HH.out, HC.out, rfl, rfl, World.ownsRow_nil _ _ _ _, World.ownsRow_nil _ _ _ _, (by intro r h; cases h), HGg.out, HGgh.out, HGgc.out⟩, fun j hj => by omega⟩
    clear HX HH HC hmk1 hmk2 hgh hgc hg hwa hwb hwc
    go_wp2_with fail
    go_loopw [19] (fun i wr => ∃ k : Nat, i = .int .i64 (k : Int) ∧ k ≤ n ∧ Hid (Bg12 wr w.heap.size g gh gc n t xs k) ∧ Hid (Below w.heap.size w wr)) (fun i _ => n - (intOf i).toNat)
    case atStart => exact ⟨0, rfl, by omega, HB0, HBS⟩
    case round =>
      obtain ⟨k, rfl, hk, HB, HBR⟩ := hrel
      by_cases hkn : k < n
      · obtain ⟨a, o, hA, _, c0⟩ := Rq.at_ (Rv.below HR.out HBR.out (Nat.le_refl _)) (show k < xs.length by have := HL.out; omega)
        subst hA
        have hcap := HCAP.out k hkn
        obtain ⟨x, hxk⟩ : ∃ x, nth xs k = x := ⟨_, rfl⟩
        rw [hxk] at c0 hcap
        obtain ⟨h, c, oo, ⟨Al, kl, cl, Am, km, cm, b⟩, hj⟩ := HB.out
        obtain ⟨y, hy⟩ : ∃ y, n * x = y := ⟨_, rfl⟩
        rw [hy] at hcap
        have hwy : IntKind.u64.wrap ((x : Int) * (n : Int)) = (y : Int) := by rw [← hy, IntKind.wrap_u64, Int.natCast_mul, Int.mul_comm (x : Int)]; rw [← Int.natCast_mul, hy]; omega
        have hwn : IntKind.u64.wrap (n : Int) = (n : Int) := by rw [IntKind.wrap_u64]; omega
        have hi0 : (0 : Int) ≤ (k : Int) := by omega
        have hi1 : (k : Int) < (n : Int) := by omega
        have i1 := b.box.cell 1
        have j1 := b.holds.cells hkn
        have jf := j1.2
        have j0 := j1.1
        have b1 := b.puth hkn y
        have hL1 := HBR.out.setCell (p := ⟨gh, k, none⟩) HGgh.out (.int .u64 (y : Int))
        obtain ⟨w1, hw1⟩ : ∃ w1, wr.setCell ⟨gh, k, none⟩ (.int .u64 (y : Int)) = w1 := ⟨_, rfl⟩
        rw [hw1] at b1 hL1
        have i2 := b1.box.cell 2
        obtain ⟨y0, y1, yf⟩ := b1.cols.cells hkn
        have yf0 := yf (k * 2)
        have yf1 := yf (k * 2 + 1)
        have b2 := b1.putc hkn t k
        have hL2 := (hL1.setCell (p := ⟨gc, k * 2, none⟩) HGgc.out (.int .u64 (t : Int))).setCell (p := ⟨gc, k * 2 + 1, none⟩) HGgc.out (.int .i64 (k : Int))
        obtain ⟨w2, hw2⟩ : ∃ w2, (w1.setCell ⟨gc, k * 2, none⟩ (.int .u64 (t : Int))).setCell ⟨gc, k * 2 + 1, none⟩ (.int .i64 (k : Int)) = w2 := ⟨_, rfl⟩
        rw [hw2] at b2 hL2
        have hlen := lsf_len t (mulH xs n) k
        rw [b.ll, b.lm] at hlen
        have hE := enlist12_any k w2 b2 hL2.size hkn hn (by omega)
        have hyk : mulH xs n k = y := by rw [mulH, hxk, hy]
        rw [upd_at, ← hyk, ← lsf_succ, ← msf_succ, hyk] at hE
        have HE := Lib.hid hE
        have HJ : Hid (∀ j, j < k + 1 → upd h k y j = mulH xs n j ∧ upd c k t j = t ∧ upd oo k k j = j) := Lib.hid (fun j hjk => by
          by_cases hjk2 : j = k
          · subst hjk2
            rw [upd_at, upd_at, upd_at]
            exact ⟨hyk.symm, rfl, rfl⟩
          · rw [upd_far _ _ hjk2, upd_far _ _ hjk2, upd_far _ _ hjk2]
            exact hj j (by omega))
        have HL2 := Lib.hid hL2
        clear b b1 b2 j1 yf hE hyk hj hlen hL1 hL2 hy hxk
        go_wp2_with fail
        refine HE.out.mono ?_
        rintro en w3 ⟨rfl, hen, hb3⟩
        have HL3 := Lib.hid (HL2.out.trans hb3)
        have HEN := Lib.hid hen
        clear HE hen hb3
        go_wp2_with fail
        go_roundw
        case rel => exact ⟨k + 1, by go_num, by omega, Lib.hid ⟨_, _, _, HEN.out, HJ.out⟩, HL3⟩
        case measure => simp [intOf]; omega
      · obtain rfl : k = n := by omega
        go_wp2_with fail
        go_ret
        exact ⟨g, gh, gc, rfl, HB.out, HBR.out⟩
end Go.Proofs.Ytcanahjilfnijaa
