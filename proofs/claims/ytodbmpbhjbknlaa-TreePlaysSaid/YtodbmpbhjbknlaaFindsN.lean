/-
  A tree of sums, and the law's own list beside it: what is found, and all else, is the document's: a number that is not found.
-/
import Derived.Test.YtodbmpbhjbknlaaTreeI
namespace Go.Proofs.Ytodbmpbhjbknlaa
open Go.RowKit
set_option maxRecDepth 100000

set_option maxHeartbeats 4000000 in
theorem finds10_ni {L g n s c nk ck W i : Nat} {xs : List Nat} {A Ak : Option Addr} (kd : Int) (w : World) (h : Pl10 L w g n s xs A c) (hL : L ≤ w.heap.size) (hn : n ≤ 400) (hW : W < 18446744073709551616) (hi : i < n) (hu : up9 xs n ≤ W) :
    Calls Try.prog 11 #[.pointer (some ⟨g, 0, none⟩), .slice A n c, .agg #[.int .i64 kd, .int .i64 (i : Int), .int .u64 (W : Int), .slice Ak nk ck]] w fun e w' => e = .returned (.bool true) ∧ (∃ s', Pl10 L w' g n s' xs A c) ∧ Below L w w' := by
  have hba := b1' w (.cells #[.int .i64 kd, .int .i64 (i : Int), .int .u64 (W : Int), .slice Ak nk ck] 32)
  have HP := Lib.hid (h.below hba)
  have HB := Lib.hid (hba.mono hL)
  have hs0 := hba.size
  have HA := Lib.hid (Blk.new w 32 #[.int .i64 kd, .int .i64 (i : Int), .int .u64 (W : Int), .slice Ak nk ck])
  have hAl : w.heap.size < (w.alloc (.cells #[.int .i64 kd, .int .i64 (i : Int), .int .u64 (W : Int), .slice Ak nk ck] 32)).heap.size := by simp
  have HXL := Lib.hid h.len
  have HX := Lib.hid h.words
  have hgw : g < w.heap.size := h.lt
  have hLg : L ≤ g := h.base
  have hg0 : ∃ S, Good10 S n xs := by
    obtain ⟨S, h1, h2⟩ := h.tree
    exact ⟨S, h2⟩
  obtain ⟨S0, hgood⟩ := hg0
  have h1n := hgood.one
  have hf := hgood.fits
  have hwt := hgood.weight
  obtain ⟨T, hT⟩ : ∃ T, up9 xs n = T := ⟨_, rfl⟩
  have HRT : Hid (∀ V s, Pl10 L V g n s xs A c → Calls Try.prog 23 #[.slice A n c] V fun e w' => e = .returned (.tuple #[.int .u64 (T : Int), .bool true]) ∧ Below V.heap.size V w') := Lib.hid (fun V s hp => by
    have := rtotal_any A xs n c V HXL.out hp.read HX.out (by omega)
    rw [fw_in hf, fb_in hf, hT] at this
    exact this)
  obtain ⟨x, hx⟩ : ∃ x, nth xs i = x := ⟨_, rfl⟩
  have CGET : Hid (∀ V {s}, Pl10 L V g n s xs A c → Calls Try.prog 16 #[.pointer (some ⟨g, 0, none⟩), .int .i64 (i : Int)] V fun e w' => e = .returned (.int .u64 (x : Int)) ∧ w' = V) := Lib.hid (fun V s hp => by
    obtain ⟨S, a1, a2⟩ := hp.tree
    have := get10_yes i V a1 hi (by omega)
    rw [a2.leaf (by omega), hx] at this
    exact this)
  have CTOT : Hid (∀ V {s}, Pl10 L V g n s xs A c → Calls Try.prog 17 #[.pointer (some ⟨g, 0, none⟩)] V fun e w' => e = .returned (.int .u64 (T : Int)) ∧ V.grownBy w' none) := Lib.hid (fun V s hp => by
    obtain ⟨S, a1, a2⟩ := hp.tree
    have := total10_any V a1 h1n (by omega)
    rw [a2.root, hT] at this
    exact this)
  have CLEN : Hid (∀ V {s}, Pl10 L V g n s xs A c → Calls Try.prog 7 #[.pointer (some ⟨g, 0, none⟩)] V fun e w' => e = .returned (.int .i64 (n : Int)) ∧ w' = V) := Lib.hid (fun V s hp => by
    obtain ⟨S, a1, a2⟩ := hp.tree
    exact len10_any V a1)
  have CST : Hid (∀ V {s}, Pl10 L V g n s xs A c → Calls Try.prog 21 #[.pointer (some ⟨g, 0, none⟩)] V fun e w' => e = .returned (.int .i64 (s : Int)) ∧ w' = V) := Lib.hid (fun V s hp => by
    obtain ⟨S, a1, a2⟩ := hp.tree
    exact steps10_any V a1)
  obtain ⟨H, hH⟩ : ∃ H, hgt10 n = H := ⟨_, rfl⟩
  have h12 : H ≤ 12 := by rw [← hH]; exact hgt10_le (by omega)
  have CHGT : Hid (∀ V {s}, Pl10 L V g n s xs A c → Calls Try.prog 20 #[.pointer (some ⟨g, 0, none⟩)] V fun e w' => e = .returned (.int .i64 (H : Int)) ∧ w' = V) := Lib.hid (fun V s hp => by
    obtain ⟨S, a1, a2⟩ := hp.tree
    rw [← hH]
    exact height10_any V a1 h1n (by omega))
  have CRH : Hid (∀ V {s}, Pl10 L V g n s xs A c → Calls Try.prog 24 #[.int .i64 (n : Int)] V fun e w' => e = .returned (.int .i64 (H : Int)) ∧ w' = V) := Lib.hid (fun V s hp => by
    rw [← hH]
    exact rheight10_any n V h1n (by omega))
  have CALL : Hid (∀ V {s}, Pl10 L V g n s xs A c → Calls Try.prog 19 #[.pointer (some ⟨g, 0, none⟩)] V (RetQ V.heap.size V xs)) := Lib.hid (fun V s hp => by
    obtain ⟨S, a1, a2⟩ := hp.tree
    exact all10_any V a1 a2)
  obtain ⟨u, hue⟩ : ∃ u, up9 xs ((i : Int)).toNat = u := ⟨_, rfl⟩
  have CAH : Hid (∀ V {s}, Pl10 L V g n s xs A c → Calls Try.prog 18 #[.pointer (some ⟨g, 0, none⟩), .int .i64 (i : Int)] V fun e w' => e = .returned (.int .u64 (u : Int)) ∧ V.grownBy w' none) := Lib.hid (fun V s hp => by
    obtain ⟨S, a1, a2⟩ := hp.tree
    rw [← hue]
    exact ahead10_any (i : Int) V a1 a2)
  have CRA : Hid (∀ V {s}, Pl10 L V g n s xs A c → Calls Try.prog 27 #[.slice A n c, .int .i64 (i : Int)] V fun e w' => e = .returned (.int .u64 (u : Int)) ∧ w' = V) := Lib.hid (fun V s hp => by
    rw [← hue]
    exact rahead10_any A xs n c (i : Int) V HXL.out hp.read hf (by omega))
  rw [hT] at hu
  have CFI : Hid (∀ V {s}, Pl10 L V g n s xs A c → Calls Try.prog 12 #[.pointer (some ⟨g, 0, none⟩), .int .u64 (W : Int)] V fun e w' => e = .returned (.tuple #[.int .i64 (-1), .bool false]) ∧ V.grownBy w' none) := Lib.hid (fun V s hpl => by
    obtain ⟨S, a1, a2⟩ := hpl.tree
    exact find10_no V a1 a2 (by rw [hT]; exact hu))
  have hlt : ¬ (W : Int) < (T : Int) := by omega
  have hself : ∀ j : Int, (j != j) = false := fun j => by simp
  have hi0 : (0 : Int) ≤ (i : Int) := by omega
  have hi1 : (i : Int) < (n : Int) := by omega
  have HREAD : Hid (∀ V {s}, Pl10 L V g n s xs A c → Rq V V.heap.size A xs) := Lib.hid (fun V s hp => hp.read)
  have HCX : Hid (nth xs i = x ∧ i < xs.length) := Lib.hid ⟨hx, by rw [HXL.out]; exact hi⟩
  clear h hba hgood hf hwt hH hT hue hi hx hu
  go_enter Try.func11, Try.ntmps11
  go_wp2_with fail
  refine (HRT.out _ _ HP.out).mono ?_
  rintro e w1 ⟨rfl, hb1⟩
  have HP1 := Lib.hid (HP.out.below hb1)
  have HB1 := Lib.hid (HB.out.trans (hb1.mono (show L ≤ _ by omega)))
  have hA1 := HA.out.below hb1 hAl
  have HA1 := Lib.hid hA1
  have c2 := hA1.cell 2
  have hs1 := hb1.size
  clear hb1 hA1 HP HB HA HRT
  go_wp2_with fail
  refine (CFI.out _ HP1.out).mono ?_
  rintro e w9 ⟨rfl, hb2⟩
  have HP2 := Lib.hid (HP1.out.quiet hb2)
  have hs2 := hb2.size
  have HB2 := Lib.hid (HB1.out.trans (below_none10 (L := L) (by omega) hb2))
  have hA2 := HA1.out.grown hb2 (by simp)
  have c1 := hA2.cell 1
  have c2 := hA2.cell 2
  clear hb2 hA2 HP1 HB1 HA1 CFI
  obtain ⟨bb, oo, hA, hbl, cx⟩ := Rq.at_ (HREAD.out _ HP2.out) HCX.out.2
  rw [HCX.out.1] at cx
  subst hA
  have hst : Below w9.heap.size w9 w9.drew := (Below.refl _ _).drew
  have HBS := Lib.hid hst
  have HP := Lib.hid (HP2.out.quiet (grown7_drew w9 none))
  go_wp2_with fail
  refine wp_region_held_drew (S := fun W => Below w9.heap.size w9 W) (by kernel_rfl) hst (fun hHeld => ?_)
  obtain ⟨wn, hwn⟩ : ∃ W, w9.drew = W := ⟨_, rfl⟩
  rw [hwn] at HBS HP hHeld
  rw [hwn]
  clear hwn
  refine wpAnyH_take (i := 0) (v := ?_) (op_of rfl) (by kernel_rfl) (by kernel_rfl) (by kernel_rfl) (fun _ _ _ h => h) (Or.inl ⟨by rfl, fun W hS => ?_⟩) (by assumption) ?_
  rotate_left
  · dsimp only at hS
    go_simp
    try with_reducible rfl
  try dsimp only [Act.put]
  try simp only [List.setIfInBounds_toArray, List.set_cons_zero, List.set_cons_succ]
  refine wpAnyH_take (i := 1) (v := ?_) (op_of rfl) (by kernel_rfl) (by kernel_rfl) (by kernel_rfl) (fun _ _ _ h => h) (Or.inl ⟨by rfl, fun W hS => ?_⟩) (by assumption) ?_
  rotate_left
  · dsimp only at hS
    go_simp
    try with_reducible rfl
  try dsimp only [Act.put]
  try simp only [List.setIfInBounds_toArray, List.set_cons_zero, List.set_cons_succ]
  refine wpAnyH_take (i := 2) (v := ?_) (op_of rfl) (by kernel_rfl) (by kernel_rfl) (by kernel_rfl) (fun _ _ _ h => h) (Or.inl ⟨by rfl, fun W hS => ?_⟩) (by assumption) ?_
  rotate_left
  · dsimp only at hS
    have z0 := (hS.cell (World.block_lt_of_cell? _ _ c1)).trans c1
    go_simp
    try with_reducible rfl
  try dsimp only [Act.put]
  try simp only [List.setIfInBounds_toArray, List.set_cons_zero, List.set_cons_succ]
  refine wpAnyH_take (i := 4) (v := ?_) (op_of rfl) (by kernel_rfl) (by kernel_rfl) (by kernel_rfl) (fun _ _ _ h => h) (Or.inl ⟨by rfl, fun W hS => ?_⟩) (by assumption) ?_
  rotate_left
  · dsimp only at hS
    go_simp
    try with_reducible rfl
  try dsimp only [Act.put]
  try simp only [List.setIfInBounds_toArray, List.set_cons_zero, List.set_cons_succ]
  refine wpAnyH_ready (rs := [3]) (by kernel_rfl) (by simp) (AllReadyH.cons (op_of rfl) (fun K hK => ?_) AllReadyH.nil)
  go_simp
  refine (CGET.out _ HP.out).mono ?_
  rintro en wn2 ⟨rfl, rfl⟩
  refine hK.out _ _ HBS.out (fun hHeld => ?_)
  clear hK K
  try dsimp only [Act.put]
  try simp only [List.setIfInBounds_toArray, List.set_cons_zero, List.set_cons_succ]
  refine wpAnyH_take (i := 5) (v := ?_) (op_of rfl) (by kernel_rfl) (by kernel_rfl) (by kernel_rfl) (fun _ _ _ h => h) (Or.inl ⟨by rfl, fun W hS => ?_⟩) (by assumption) ?_
  rotate_left
  · dsimp only at hS
    go_simp
    try with_reducible rfl
  try dsimp only [Act.put]
  try simp only [List.setIfInBounds_toArray, List.set_cons_zero, List.set_cons_succ]
  refine wpAnyH_take (i := 6) (v := ?_) (op_of rfl) (by kernel_rfl) (by kernel_rfl) (by kernel_rfl) (fun _ _ _ h => h) (Or.inl ⟨by rfl, fun W hS => ?_⟩) (by assumption) ?_
  rotate_left
  · dsimp only at hS
    go_simp
    try with_reducible rfl
  try dsimp only [Act.put]
  try simp only [List.setIfInBounds_toArray, List.set_cons_zero, List.set_cons_succ]
  refine wpAnyH_take (i := 7) (v := ?_) (op_of rfl) (by kernel_rfl) (by kernel_rfl) (by kernel_rfl) (fun _ _ _ h => h) (Or.inl ⟨by rfl, fun W hS => ?_⟩) (by assumption) ?_
  rotate_left
  · dsimp only at hS
    go_simp
    try with_reducible rfl
  try dsimp only [Act.put]
  try simp only [List.setIfInBounds_toArray, List.set_cons_zero, List.set_cons_succ]
  refine wpAnyH_take (i := 9) (v := ?_) (op_of rfl) (by kernel_rfl) (by kernel_rfl) (by kernel_rfl) (fun _ _ _ h => h) (Or.inl ⟨by rfl, fun W hS => ?_⟩) (by assumption) ?_
  rotate_left
  · dsimp only at hS
    go_simp
    try with_reducible rfl
  try dsimp only [Act.put]
  try simp only [List.setIfInBounds_toArray, List.set_cons_zero, List.set_cons_succ]
  refine wpAnyH_ready (rs := [8]) (by kernel_rfl) (by simp) (AllReadyH.cons (op_of rfl) (fun K hK => ?_) AllReadyH.nil)
  go_simp
  refine (CTOT.out _ HP.out).mono ?_
  rintro en wn2 ⟨rfl, hb⟩
  have HBN := Lib.hid (quiet10_b HBS.out hb)
  have HPN := Lib.hid (HP.out.quiet hb)
  clear hb HBS HP
  have HBS := HBN
  have HP := HPN
  clear HBN HPN
  refine hK.out _ _ HBS.out (fun hHeld => ?_)
  clear hK K
  try dsimp only [Act.put]
  try simp only [List.setIfInBounds_toArray, List.set_cons_zero, List.set_cons_succ]
  refine wpAnyH_take (i := 10) (v := ?_) (op_of rfl) (by kernel_rfl) (by kernel_rfl) (by kernel_rfl) (fun _ _ _ h => h) (Or.inl ⟨by rfl, fun W hS => ?_⟩) (by assumption) ?_
  rotate_left
  · dsimp only at hS
    go_simp
    try with_reducible rfl
  try dsimp only [Act.put]
  try simp only [List.setIfInBounds_toArray, List.set_cons_zero, List.set_cons_succ]
  refine wpAnyH_take (i := 11) (v := ?_) (op_of rfl) (by kernel_rfl) (by kernel_rfl) (by kernel_rfl) (fun _ _ _ h => h) (Or.inl ⟨by rfl, fun W hS => ?_⟩) (by assumption) ?_
  rotate_left
  · dsimp only at hS
    go_simp
    try with_reducible rfl
  try dsimp only [Act.put]
  try simp only [List.setIfInBounds_toArray, List.set_cons_zero, List.set_cons_succ]
  refine wpAnyH_take (i := 12) (v := ?_) (op_of rfl) (by kernel_rfl) (by kernel_rfl) (by kernel_rfl) (fun _ _ _ h => h) (Or.inl ⟨by rfl, fun W hS => ?_⟩) (by assumption) ?_
  rotate_left
  · dsimp only at hS
    go_simp
    try with_reducible rfl
  try dsimp only [Act.put]
  try simp only [List.setIfInBounds_toArray, List.set_cons_zero, List.set_cons_succ]
  refine wpAnyH_take (i := 13) (v := ?_) (op_of rfl) (by kernel_rfl) (by kernel_rfl) (by kernel_rfl) (fun _ _ _ h => h) (Or.inl ⟨by rfl, fun W hS => ?_⟩) (by assumption) ?_
  rotate_left
  · dsimp only at hS
    go_simp
    try with_reducible rfl
  try dsimp only [Act.put]
  try simp only [List.setIfInBounds_toArray, List.set_cons_zero, List.set_cons_succ]
  refine wpAnyH_take (i := 15) (v := ?_) (op_of rfl) (by kernel_rfl) (by kernel_rfl) (by kernel_rfl) (fun _ _ _ h => h) (Or.inl ⟨by rfl, fun W hS => ?_⟩) (by assumption) ?_
  rotate_left
  · dsimp only at hS
    go_simp
    try with_reducible rfl
  try dsimp only [Act.put]
  try simp only [List.setIfInBounds_toArray, List.set_cons_zero, List.set_cons_succ]
  refine wpAnyH_take (i := 16) (v := ?_) (op_of rfl) (by kernel_rfl) (by kernel_rfl) (by kernel_rfl) (fun _ _ _ h => h) (Or.inl ⟨by rfl, fun W hS => ?_⟩) (by assumption) ?_
  rotate_left
  · dsimp only at hS
    go_simp
    try with_reducible rfl
  try dsimp only [Act.put]
  try simp only [List.setIfInBounds_toArray, List.set_cons_zero, List.set_cons_succ]
  refine wpAnyH_ready (rs := [14]) (by kernel_rfl) (by simp) (AllReadyH.cons (op_of rfl) (fun K hK => ?_) AllReadyH.nil)
  go_simp
  refine (CLEN.out _ HP.out).mono ?_
  rintro en wn2 ⟨rfl, rfl⟩
  refine hK.out _ _ HBS.out (fun hHeld => ?_)
  clear hK K
  try dsimp only [Act.put]
  try simp only [List.setIfInBounds_toArray, List.set_cons_zero, List.set_cons_succ]
  refine wpAnyH_take (i := 17) (v := ?_) (op_of rfl) (by kernel_rfl) (by kernel_rfl) (by kernel_rfl) (fun _ _ _ h => h) (Or.inl ⟨by rfl, fun W hS => ?_⟩) (by assumption) ?_
  rotate_left
  · dsimp only at hS
    go_simp
    try with_reducible rfl
  try dsimp only [Act.put]
  try simp only [List.setIfInBounds_toArray, List.set_cons_zero, List.set_cons_succ]
  refine wpAnyH_take (i := 18) (v := ?_) (op_of rfl) (by kernel_rfl) (by kernel_rfl) (by kernel_rfl) (fun _ _ _ h => h) (Or.inl ⟨by rfl, fun W hS => ?_⟩) (by assumption) ?_
  rotate_left
  · dsimp only at hS
    go_simp
    try with_reducible rfl
  try dsimp only [Act.put]
  try simp only [List.setIfInBounds_toArray, List.set_cons_zero, List.set_cons_succ]
  refine wpAnyH_take (i := 19) (v := ?_) (op_of rfl) (by kernel_rfl) (by kernel_rfl) (by kernel_rfl) (fun _ _ _ h => h) (Or.inl ⟨by rfl, fun W hS => ?_⟩) (by assumption) ?_
  rotate_left
  · dsimp only at hS
    go_simp
    try with_reducible rfl
  try dsimp only [Act.put]
  try simp only [List.setIfInBounds_toArray, List.set_cons_zero, List.set_cons_succ]
  refine wpAnyH_take (i := 20) (v := ?_) (op_of rfl) (by kernel_rfl) (by kernel_rfl) (by kernel_rfl) (fun _ _ _ h => h) (Or.inl ⟨by rfl, fun W hS => ?_⟩) (by assumption) ?_
  rotate_left
  · dsimp only at hS
    go_simp
    try with_reducible rfl
  try dsimp only [Act.put]
  try simp only [List.setIfInBounds_toArray, List.set_cons_zero, List.set_cons_succ]
  refine wpAnyH_take (i := 22) (v := ?_) (op_of rfl) (by kernel_rfl) (by kernel_rfl) (by kernel_rfl) (fun _ _ _ h => h) (Or.inl ⟨by rfl, fun W hS => ?_⟩) (by assumption) ?_
  rotate_left
  · dsimp only at hS
    go_simp
    try with_reducible rfl
  try dsimp only [Act.put]
  try simp only [List.setIfInBounds_toArray, List.set_cons_zero, List.set_cons_succ]
  refine wpAnyH_take (i := 23) (v := ?_) (op_of rfl) (by kernel_rfl) (by kernel_rfl) (by kernel_rfl) (fun _ _ _ h => h) (Or.inl ⟨by rfl, fun W hS => ?_⟩) (by assumption) ?_
  rotate_left
  · dsimp only at hS
    go_simp
    try with_reducible rfl
  try dsimp only [Act.put]
  try simp only [List.setIfInBounds_toArray, List.set_cons_zero, List.set_cons_succ]
  refine wpAnyH_ready (rs := [21]) (by kernel_rfl) (by simp) (AllReadyH.cons (op_of rfl) (fun K hK => ?_) AllReadyH.nil)
  go_simp
  refine (CHGT.out _ HP.out).mono ?_
  rintro en wn2 ⟨rfl, rfl⟩
  refine hK.out _ _ HBS.out (fun hHeld => ?_)
  clear hK K
  try dsimp only [Act.put]
  try simp only [List.setIfInBounds_toArray, List.set_cons_zero, List.set_cons_succ]
  refine wpAnyH_ready (rs := [24]) (by kernel_rfl) (by simp) (AllReadyH.cons (op_of rfl) (fun K hK => ?_) AllReadyH.nil)
  go_simp
  refine (CRH.out _ HP.out).mono ?_
  rintro en wn2 ⟨rfl, rfl⟩
  refine hK.out _ _ HBS.out (fun hHeld => ?_)
  clear hK K
  try dsimp only [Act.put]
  try simp only [List.setIfInBounds_toArray, List.set_cons_zero, List.set_cons_succ]
  refine wpAnyH_take (i := 25) (v := ?_) (op_of rfl) (by kernel_rfl) (by kernel_rfl) (by kernel_rfl) (fun _ _ _ h => h) (Or.inl ⟨by rfl, fun W hS => ?_⟩) (by assumption) ?_
  rotate_left
  · dsimp only at hS
    go_simp
    try with_reducible rfl
  try dsimp only [Act.put]
  try simp only [List.setIfInBounds_toArray, List.set_cons_zero, List.set_cons_succ]
  refine wpAnyH_take (i := 26) (v := ?_) (op_of rfl) (by kernel_rfl) (by kernel_rfl) (by kernel_rfl) (fun _ _ _ h => h) (Or.inl ⟨by rfl, fun W hS => ?_⟩) (by assumption) ?_
  rotate_left
  · dsimp only at hS
    go_simp
    try with_reducible rfl
  try dsimp only [Act.put]
  try simp only [List.setIfInBounds_toArray, List.set_cons_zero, List.set_cons_succ]
  refine wpAnyH_take (i := 27) (v := ?_) (op_of rfl) (by kernel_rfl) (by kernel_rfl) (by kernel_rfl) (fun _ _ _ h => h) (Or.inl ⟨by rfl, fun W hS => ?_⟩) (by assumption) ?_
  rotate_left
  · dsimp only at hS
    go_simp
    try with_reducible rfl
  try dsimp only [Act.put]
  try simp only [List.setIfInBounds_toArray, List.set_cons_zero, List.set_cons_succ]
  refine wpAnyH_take (i := 28) (v := ?_) (op_of rfl) (by kernel_rfl) (by kernel_rfl) (by kernel_rfl) (fun _ _ _ h => h) (Or.inl ⟨by rfl, fun W hS => ?_⟩) (by assumption) ?_
  rotate_left
  · dsimp only at hS
    go_simp
    try with_reducible rfl
  try dsimp only [Act.put]
  try simp only [List.setIfInBounds_toArray, List.set_cons_zero, List.set_cons_succ]
  refine wpAnyH_take (i := 30) (v := ?_) (op_of rfl) (by kernel_rfl) (by kernel_rfl) (by kernel_rfl) (fun _ _ _ h => h) (Or.inl ⟨by rfl, fun W hS => ?_⟩) (by assumption) ?_
  rotate_left
  · dsimp only at hS
    go_simp
    try with_reducible rfl
  try dsimp only [Act.put]
  try simp only [List.setIfInBounds_toArray, List.set_cons_zero, List.set_cons_succ]
  refine wpAnyH_ready (rs := [29]) (by kernel_rfl) (by simp) (AllReadyH.cons (op_of rfl) (fun K hK => ?_) AllReadyH.nil)
  go_simp
  refine (CALL.out _ HP.out).mono ?_
  rintro en wn2 ⟨A5, n5, c5, rfl, hl5, hc5, ho5, hb⟩
  obtain rfl : n = n5 := by rw [← hl5]; exact HXL.out.symm
  have HBN := Lib.hid (HBS.out.trans (hb.mono HBS.out.size))
  have HPN := Lib.hid (HP.out.below hb)
  have HO5 := Lib.hid ho5
  clear hb HBS HP ho5 hl5
  have HBS := HBN
  have HP := HPN
  clear HBN HPN
  refine hK.out _ _ HBS.out (fun hHeld => ?_)
  clear hK K
  try dsimp only [Act.put]
  try simp only [List.setIfInBounds_toArray, List.set_cons_zero, List.set_cons_succ]
  refine wpAnyH_ready (rs := [31]) (by kernel_rfl) (by simp) (AllReadyH.cons (op_of rfl) (fun K hK => ?_) AllReadyH.nil)
  go_simp
  refine (same7_any A5 _ xs n c5 c _ HXL.out (Rq.of_own HO5.out) HP.out.read (by omega)).mono ?_
  rintro en wn2 ⟨rfl, hb⟩
  have HBN := Lib.hid (quiet10_b HBS.out hb)
  have HPN := Lib.hid (HP.out.quiet hb)
  clear hb HBS HP HO5
  have HBS := HBN
  have HP := HPN
  clear HBN HPN
  refine hK.out _ _ HBS.out (fun hHeld => ?_)
  clear hK K
  try dsimp only [Act.put]
  try simp only [List.setIfInBounds_toArray, List.set_cons_zero, List.set_cons_succ]
  refine wpAnyH_take (i := 32) (v := ?_) (op_of rfl) (by kernel_rfl) (by kernel_rfl) (by kernel_rfl) (fun _ _ _ h => h) (Or.inl ⟨by rfl, fun W hS => ?_⟩) (by assumption) ?_
  rotate_left
  · dsimp only at hS
    go_simp
    try with_reducible rfl
  try dsimp only [Act.put]
  try simp only [List.setIfInBounds_toArray, List.set_cons_zero, List.set_cons_succ]
  refine wpAnyH_take (i := 33) (v := ?_) (op_of rfl) (by kernel_rfl) (by kernel_rfl) (by kernel_rfl) (fun _ _ _ h => h) (Or.inl ⟨by rfl, fun W hS => ?_⟩) (by assumption) ?_
  rotate_left
  · dsimp only at hS
    go_simp
    try with_reducible rfl
  try dsimp only [Act.put]
  try simp only [List.setIfInBounds_toArray, List.set_cons_zero, List.set_cons_succ]
  refine wpAnyH_take (i := 34) (v := ?_) (op_of rfl) (by kernel_rfl) (by kernel_rfl) (by kernel_rfl) (fun _ _ _ h => h) (Or.inl ⟨by rfl, fun W hS => ?_⟩) (by assumption) ?_
  rotate_left
  · dsimp only at hS
    go_simp
    try with_reducible rfl
  try dsimp only [Act.put]
  try simp only [List.setIfInBounds_toArray, List.set_cons_zero, List.set_cons_succ]
  refine wpAnyH_take (i := 35) (v := ?_) (op_of rfl) (by kernel_rfl) (by kernel_rfl) (by kernel_rfl) (fun _ _ _ h => h) (Or.inl ⟨by rfl, fun W hS => ?_⟩) (by assumption) ?_
  rotate_left
  · dsimp only at hS
    go_simp
    try with_reducible rfl
  try dsimp only [Act.put]
  try simp only [List.setIfInBounds_toArray, List.set_cons_zero, List.set_cons_succ]
  refine wpAnyH_take (i := 36) (v := ?_) (op_of rfl) (by kernel_rfl) (by kernel_rfl) (by kernel_rfl) (fun _ _ _ h => h) (Or.inl ⟨by rfl, fun W hS => ?_⟩) (by assumption) ?_
  rotate_left
  · dsimp only at hS
    have z0 := (hS.cell (World.block_lt_of_cell? _ _ c1)).trans c1
    go_simp
    try with_reducible rfl
  try dsimp only [Act.put]
  try simp only [List.setIfInBounds_toArray, List.set_cons_zero, List.set_cons_succ]
  refine wpAnyH_take (i := 38) (v := ?_) (op_of rfl) (by kernel_rfl) (by kernel_rfl) (by kernel_rfl) (fun _ _ _ h => h) (Or.inl ⟨by rfl, fun W hS => ?_⟩) (by assumption) ?_
  rotate_left
  · dsimp only at hS
    go_simp
    try with_reducible rfl
  try dsimp only [Act.put]
  try simp only [List.setIfInBounds_toArray, List.set_cons_zero, List.set_cons_succ]
  refine wpAnyH_take (i := 39) (v := ?_) (op_of rfl) (by kernel_rfl) (by kernel_rfl) (by kernel_rfl) (fun _ _ _ h => h) (Or.inl ⟨by rfl, fun W hS => ?_⟩) (by assumption) ?_
  rotate_left
  · dsimp only at hS
    go_simp
    try with_reducible rfl
  try dsimp only [Act.put]
  try simp only [List.setIfInBounds_toArray, List.set_cons_zero, List.set_cons_succ]
  refine wpAnyH_take (i := 40) (v := ?_) (op_of rfl) (by kernel_rfl) (by kernel_rfl) (by kernel_rfl) (fun _ _ _ h => h) (Or.inl ⟨by rfl, fun W hS => ?_⟩) (by assumption) ?_
  rotate_left
  · dsimp only at hS
    have z0 := (hS.cell (World.block_lt_of_cell? _ _ c1)).trans c1
    go_simp
    try with_reducible rfl
  try dsimp only [Act.put]
  try simp only [List.setIfInBounds_toArray, List.set_cons_zero, List.set_cons_succ]
  refine wpAnyH_ready (rs := [37]) (by kernel_rfl) (by simp) (AllReadyH.cons (op_of rfl) (fun K hK => ?_) AllReadyH.nil)
  go_simp
  refine (CAH.out _ HP.out).mono ?_
  rintro en wn2 ⟨rfl, hb⟩
  have HBN := Lib.hid (quiet10_b HBS.out hb)
  have HPN := Lib.hid (HP.out.quiet hb)
  clear hb HBS HP
  have HBS := HBN
  have HP := HPN
  clear HBN HPN
  refine hK.out _ _ HBS.out (fun hHeld => ?_)
  clear hK K
  try dsimp only [Act.put]
  try simp only [List.setIfInBounds_toArray, List.set_cons_zero, List.set_cons_succ]
  refine wpAnyH_ready (rs := [41]) (by kernel_rfl) (by simp) (AllReadyH.cons (op_of rfl) (fun K hK => ?_) AllReadyH.nil)
  go_simp
  refine (CRA.out _ HP.out).mono ?_
  rintro en wn2 ⟨rfl, rfl⟩
  refine hK.out _ _ HBS.out (fun hHeld => ?_)
  clear hK K
  try dsimp only [Act.put]
  try simp only [List.setIfInBounds_toArray, List.set_cons_zero, List.set_cons_succ]
  refine wpAnyH_take (i := 42) (v := ?_) (op_of rfl) (by kernel_rfl) (by kernel_rfl) (by kernel_rfl) (fun _ _ _ h => h) (Or.inl ⟨by rfl, fun W hS => ?_⟩) (by assumption) ?_
  rotate_left
  · dsimp only at hS
    go_simp
    try with_reducible rfl
  try dsimp only [Act.put]
  try simp only [List.setIfInBounds_toArray, List.set_cons_zero, List.set_cons_succ]
  refine wpAnyH_take (i := 43) (v := ?_) (op_of rfl) (by kernel_rfl) (by kernel_rfl) (by kernel_rfl) (fun _ _ _ h => h) (Or.inl ⟨by rfl, fun W hS => ?_⟩) (by assumption) ?_
  rotate_left
  · dsimp only at hS
    go_simp
    try with_reducible rfl
  try dsimp only [Act.put]
  try simp only [List.setIfInBounds_toArray, List.set_cons_zero, List.set_cons_succ]
  refine wpAnyH_ready (rs := [44]) (by kernel_rfl) (by simp) (AllReadyH.cons (op_of rfl) (fun K hK => ?_) AllReadyH.nil)
  go_simp
  refine hK.out _ _ HBS.out (fun hHeld => ?_)
  clear hK K
  try dsimp only [Act.put]
  try simp only [List.setIfInBounds_toArray, List.set_cons_zero, List.set_cons_succ]
  refine wpAnyH_done (by kernel_rfl) ?_ _
  go_wp2_with fail
  go_ret
  exact ⟨rfl, ⟨_, HP.out⟩, HB2.out.trans (HBS.out.mono (show L ≤ w9.heap.size by omega))⟩

set_option maxHeartbeats 4000000 in
theorem finds10_no {L g n s c nk ck W : Nat} {xs : List Nat} {A Ak : Option Addr} (kd i : Int) (w : World) (h : Pl10 L w g n s xs A c) (hL : L ≤ w.heap.size) (hn : n ≤ 400) (hW : W < 18446744073709551616) (hi : i < 0 ∨ (n : Int) ≤ i) (hu : up9 xs n ≤ W) :
    Calls Try.prog 11 #[.pointer (some ⟨g, 0, none⟩), .slice A n c, .agg #[.int .i64 kd, .int .i64 i, .int .u64 (W : Int), .slice Ak nk ck]] w fun e w' => e = .returned (.bool true) ∧ (∃ s', Pl10 L w' g n s' xs A c) ∧ Below L w w' := by
  have hba := b1' w (.cells #[.int .i64 kd, .int .i64 i, .int .u64 (W : Int), .slice Ak nk ck] 32)
  have HP := Lib.hid (h.below hba)
  have HB := Lib.hid (hba.mono hL)
  have hs0 := hba.size
  have HA := Lib.hid (Blk.new w 32 #[.int .i64 kd, .int .i64 i, .int .u64 (W : Int), .slice Ak nk ck])
  have hAl : w.heap.size < (w.alloc (.cells #[.int .i64 kd, .int .i64 i, .int .u64 (W : Int), .slice Ak nk ck] 32)).heap.size := by simp
  have HXL := Lib.hid h.len
  have HX := Lib.hid h.words
  have hgw : g < w.heap.size := h.lt
  have hLg : L ≤ g := h.base
  have hg0 : ∃ S, Good10 S n xs := by
    obtain ⟨S, h1, h2⟩ := h.tree
    exact ⟨S, h2⟩
  obtain ⟨S0, hgood⟩ := hg0
  have h1n := hgood.one
  have hf := hgood.fits
  have hwt := hgood.weight
  obtain ⟨T, hT⟩ : ∃ T, up9 xs n = T := ⟨_, rfl⟩
  have HRT : Hid (∀ V s, Pl10 L V g n s xs A c → Calls Try.prog 23 #[.slice A n c] V fun e w' => e = .returned (.tuple #[.int .u64 (T : Int), .bool true]) ∧ Below V.heap.size V w') := Lib.hid (fun V s hp => by
    have := rtotal_any A xs n c V HXL.out hp.read HX.out (by omega)
    rw [fw_in hf, fb_in hf, hT] at this
    exact this)
  have CGET : Hid (∀ V {s}, Pl10 L V g n s xs A c → Calls Try.prog 16 #[.pointer (some ⟨g, 0, none⟩), .int .i64 i] V fun e w' => e = .returned (.int .u64 0) ∧ w' = V) := Lib.hid (fun V s hp => by
    obtain ⟨S, a1, a2⟩ := hp.tree
    exact get10_no i V a1 hi)
  have CTOT : Hid (∀ V {s}, Pl10 L V g n s xs A c → Calls Try.prog 17 #[.pointer (some ⟨g, 0, none⟩)] V fun e w' => e = .returned (.int .u64 (T : Int)) ∧ V.grownBy w' none) := Lib.hid (fun V s hp => by
    obtain ⟨S, a1, a2⟩ := hp.tree
    have := total10_any V a1 h1n (by omega)
    rw [a2.root, hT] at this
    exact this)
  have CLEN : Hid (∀ V {s}, Pl10 L V g n s xs A c → Calls Try.prog 7 #[.pointer (some ⟨g, 0, none⟩)] V fun e w' => e = .returned (.int .i64 (n : Int)) ∧ w' = V) := Lib.hid (fun V s hp => by
    obtain ⟨S, a1, a2⟩ := hp.tree
    exact len10_any V a1)
  have CST : Hid (∀ V {s}, Pl10 L V g n s xs A c → Calls Try.prog 21 #[.pointer (some ⟨g, 0, none⟩)] V fun e w' => e = .returned (.int .i64 (s : Int)) ∧ w' = V) := Lib.hid (fun V s hp => by
    obtain ⟨S, a1, a2⟩ := hp.tree
    exact steps10_any V a1)
  obtain ⟨H, hH⟩ : ∃ H, hgt10 n = H := ⟨_, rfl⟩
  have h12 : H ≤ 12 := by rw [← hH]; exact hgt10_le (by omega)
  have CHGT : Hid (∀ V {s}, Pl10 L V g n s xs A c → Calls Try.prog 20 #[.pointer (some ⟨g, 0, none⟩)] V fun e w' => e = .returned (.int .i64 (H : Int)) ∧ w' = V) := Lib.hid (fun V s hp => by
    obtain ⟨S, a1, a2⟩ := hp.tree
    rw [← hH]
    exact height10_any V a1 h1n (by omega))
  have CRH : Hid (∀ V {s}, Pl10 L V g n s xs A c → Calls Try.prog 24 #[.int .i64 (n : Int)] V fun e w' => e = .returned (.int .i64 (H : Int)) ∧ w' = V) := Lib.hid (fun V s hp => by
    rw [← hH]
    exact rheight10_any n V h1n (by omega))
  have CALL : Hid (∀ V {s}, Pl10 L V g n s xs A c → Calls Try.prog 19 #[.pointer (some ⟨g, 0, none⟩)] V (RetQ V.heap.size V xs)) := Lib.hid (fun V s hp => by
    obtain ⟨S, a1, a2⟩ := hp.tree
    exact all10_any V a1 a2)
  obtain ⟨u, hue⟩ : ∃ u, up9 xs (i).toNat = u := ⟨_, rfl⟩
  have CAH : Hid (∀ V {s}, Pl10 L V g n s xs A c → Calls Try.prog 18 #[.pointer (some ⟨g, 0, none⟩), .int .i64 i] V fun e w' => e = .returned (.int .u64 (u : Int)) ∧ V.grownBy w' none) := Lib.hid (fun V s hp => by
    obtain ⟨S, a1, a2⟩ := hp.tree
    rw [← hue]
    exact ahead10_any i V a1 a2)
  have CRA : Hid (∀ V {s}, Pl10 L V g n s xs A c → Calls Try.prog 27 #[.slice A n c, .int .i64 i] V fun e w' => e = .returned (.int .u64 (u : Int)) ∧ w' = V) := Lib.hid (fun V s hp => by
    rw [← hue]
    exact rahead10_any A xs n c i V HXL.out hp.read hf (by omega))
  rw [hT] at hu
  have CFI : Hid (∀ V {s}, Pl10 L V g n s xs A c → Calls Try.prog 12 #[.pointer (some ⟨g, 0, none⟩), .int .u64 (W : Int)] V fun e w' => e = .returned (.tuple #[.int .i64 (-1), .bool false]) ∧ V.grownBy w' none) := Lib.hid (fun V s hpl => by
    obtain ⟨S, a1, a2⟩ := hpl.tree
    exact find10_no V a1 a2 (by rw [hT]; exact hu))
  have hlt : ¬ (W : Int) < (T : Int) := by omega
  have hself : ∀ j : Int, (j != j) = false := fun j => by simp
  have HREAD : Hid (∀ V {s}, Pl10 L V g n s xs A c → Rq V V.heap.size A xs) := Lib.hid (fun V s hp => hp.read)
  clear h hba hgood hf hwt hH hT hue  hu
  by_cases hi1 : i < 0
  · have hi2 : ¬ 0 ≤ i := by omega
    clear hi
    go_enter Try.func11, Try.ntmps11
    go_wp2_with fail
    refine (HRT.out _ _ HP.out).mono ?_
    rintro e w1 ⟨rfl, hb1⟩
    have HP1 := Lib.hid (HP.out.below hb1)
    have HB1 := Lib.hid (HB.out.trans (hb1.mono (show L ≤ _ by omega)))
    have hA1 := HA.out.below hb1 hAl
    have HA1 := Lib.hid hA1
    have c2 := hA1.cell 2
    have hs1 := hb1.size
    clear hb1 hA1 HP HB HA HRT
    go_wp2_with fail
    refine (CFI.out _ HP1.out).mono ?_
    rintro e w9 ⟨rfl, hb2⟩
    have HP2 := Lib.hid (HP1.out.quiet hb2)
    have hs2 := hb2.size
    have HB2 := Lib.hid (HB1.out.trans (below_none10 (L := L) (by omega) hb2))
    have hA2 := HA1.out.grown hb2 (by simp)
    have c1 := hA2.cell 1
    have c2 := hA2.cell 2
    clear hb2 hA2 HP1 HB1 HA1 CFI
    have hst : Below w9.heap.size w9 w9.drew := (Below.refl _ _).drew
    have HBS := Lib.hid hst
    have HP := Lib.hid (HP2.out.quiet (grown7_drew w9 none))
    go_wp2_with fail

    refine wp_region_held_drew (S := fun W => Below w9.heap.size w9 W) (by kernel_rfl) hst (fun hHeld => ?_)
    obtain ⟨wn, hwn⟩ : ∃ W, w9.drew = W := ⟨_, rfl⟩
    rw [hwn] at HBS HP hHeld
    rw [hwn]
    clear hwn
    refine wpAnyH_take (i := 0) (v := ?_) (op_of rfl) (by kernel_rfl) (by kernel_rfl) (by kernel_rfl) (fun _ _ _ h => h) (Or.inl ⟨by rfl, fun W hS => ?_⟩) (by assumption) ?_
    rotate_left
    · dsimp only at hS
      go_simp
      try with_reducible rfl
    try dsimp only [Act.put]
    try simp only [List.setIfInBounds_toArray, List.set_cons_zero, List.set_cons_succ]
    refine wpAnyH_take (i := 1) (v := ?_) (op_of rfl) (by kernel_rfl) (by kernel_rfl) (by kernel_rfl) (fun _ _ _ h => h) (Or.inl ⟨by rfl, fun W hS => ?_⟩) (by assumption) ?_
    rotate_left
    · dsimp only at hS
      go_simp
      try with_reducible rfl
    try dsimp only [Act.put]
    try simp only [List.setIfInBounds_toArray, List.set_cons_zero, List.set_cons_succ]
    refine wpAnyH_take (i := 2) (v := ?_) (op_of rfl) (by kernel_rfl) (by kernel_rfl) (by kernel_rfl) (fun _ _ _ h => h) (Or.inl ⟨by rfl, fun W hS => ?_⟩) (by assumption) ?_
    rotate_left
    · dsimp only at hS
      have z0 := (hS.cell (World.block_lt_of_cell? _ _ c1)).trans c1
      go_simp
      try with_reducible rfl
    try dsimp only [Act.put]
    try simp only [List.setIfInBounds_toArray, List.set_cons_zero, List.set_cons_succ]
    refine wpAnyH_take (i := 4) (v := ?_) (op_of rfl) (by kernel_rfl) (by kernel_rfl) (by kernel_rfl) (fun _ _ _ h => h) (Or.inl ⟨by rfl, fun W hS => ?_⟩) (by assumption) ?_
    rotate_left
    · dsimp only at hS
      go_simp
      try with_reducible rfl
    try dsimp only [Act.put]
    try simp only [List.setIfInBounds_toArray, List.set_cons_zero, List.set_cons_succ]
    refine wpAnyH_ready (rs := [3]) (by kernel_rfl) (by simp) (AllReadyH.cons (op_of rfl) (fun K hK => ?_) AllReadyH.nil)
    go_simp
    refine (CGET.out _ HP.out).mono ?_
    rintro en wn2 ⟨rfl, rfl⟩
    refine hK.out _ _ HBS.out (fun hHeld => ?_)
    clear hK K
    try dsimp only [Act.put]
    try simp only [List.setIfInBounds_toArray, List.set_cons_zero, List.set_cons_succ]
    refine wpAnyH_take (i := 5) (v := ?_) (op_of rfl) (by kernel_rfl) (by kernel_rfl) (by kernel_rfl) (fun _ _ _ h => h) (Or.inl ⟨by rfl, fun W hS => ?_⟩) (by assumption) ?_
    rotate_left
    · dsimp only at hS
      go_simp
      try with_reducible rfl
    try dsimp only [Act.put]
    try simp only [List.setIfInBounds_toArray, List.set_cons_zero, List.set_cons_succ]
    refine wpAnyH_take (i := 6) (v := ?_) (op_of rfl) (by kernel_rfl) (by kernel_rfl) (by kernel_rfl) (fun _ _ _ h => h) (Or.inl ⟨by rfl, fun W hS => ?_⟩) (by assumption) ?_
    rotate_left
    · dsimp only at hS
      go_simp
      try with_reducible rfl
    try dsimp only [Act.put]
    try simp only [List.setIfInBounds_toArray, List.set_cons_zero, List.set_cons_succ]
    refine wpAnyH_take (i := 7) (v := ?_) (op_of rfl) (by kernel_rfl) (by kernel_rfl) (by kernel_rfl) (fun _ _ _ h => h) (Or.inl ⟨by rfl, fun W hS => ?_⟩) (by assumption) ?_
    rotate_left
    · dsimp only at hS
      go_simp
      try with_reducible rfl
    try dsimp only [Act.put]
    try simp only [List.setIfInBounds_toArray, List.set_cons_zero, List.set_cons_succ]
    refine wpAnyH_take (i := 9) (v := ?_) (op_of rfl) (by kernel_rfl) (by kernel_rfl) (by kernel_rfl) (fun _ _ _ h => h) (Or.inl ⟨by rfl, fun W hS => ?_⟩) (by assumption) ?_
    rotate_left
    · dsimp only at hS
      go_simp
      try with_reducible rfl
    try dsimp only [Act.put]
    try simp only [List.setIfInBounds_toArray, List.set_cons_zero, List.set_cons_succ]
    refine wpAnyH_ready (rs := [8]) (by kernel_rfl) (by simp) (AllReadyH.cons (op_of rfl) (fun K hK => ?_) AllReadyH.nil)
    go_simp
    refine (CTOT.out _ HP.out).mono ?_
    rintro en wn2 ⟨rfl, hb⟩
    have HBN := Lib.hid (quiet10_b HBS.out hb)
    have HPN := Lib.hid (HP.out.quiet hb)
    clear hb HBS HP
    have HBS := HBN
    have HP := HPN
    clear HBN HPN
    refine hK.out _ _ HBS.out (fun hHeld => ?_)
    clear hK K
    try dsimp only [Act.put]
    try simp only [List.setIfInBounds_toArray, List.set_cons_zero, List.set_cons_succ]
    refine wpAnyH_take (i := 10) (v := ?_) (op_of rfl) (by kernel_rfl) (by kernel_rfl) (by kernel_rfl) (fun _ _ _ h => h) (Or.inl ⟨by rfl, fun W hS => ?_⟩) (by assumption) ?_
    rotate_left
    · dsimp only at hS
      go_simp
      try with_reducible rfl
    try dsimp only [Act.put]
    try simp only [List.setIfInBounds_toArray, List.set_cons_zero, List.set_cons_succ]
    refine wpAnyH_take (i := 11) (v := ?_) (op_of rfl) (by kernel_rfl) (by kernel_rfl) (by kernel_rfl) (fun _ _ _ h => h) (Or.inl ⟨by rfl, fun W hS => ?_⟩) (by assumption) ?_
    rotate_left
    · dsimp only at hS
      go_simp
      try with_reducible rfl
    try dsimp only [Act.put]
    try simp only [List.setIfInBounds_toArray, List.set_cons_zero, List.set_cons_succ]
    refine wpAnyH_take (i := 12) (v := ?_) (op_of rfl) (by kernel_rfl) (by kernel_rfl) (by kernel_rfl) (fun _ _ _ h => h) (Or.inl ⟨by rfl, fun W hS => ?_⟩) (by assumption) ?_
    rotate_left
    · dsimp only at hS
      go_simp
      try with_reducible rfl
    try dsimp only [Act.put]
    try simp only [List.setIfInBounds_toArray, List.set_cons_zero, List.set_cons_succ]
    refine wpAnyH_take (i := 13) (v := ?_) (op_of rfl) (by kernel_rfl) (by kernel_rfl) (by kernel_rfl) (fun _ _ _ h => h) (Or.inl ⟨by rfl, fun W hS => ?_⟩) (by assumption) ?_
    rotate_left
    · dsimp only at hS
      go_simp
      try with_reducible rfl
    try dsimp only [Act.put]
    try simp only [List.setIfInBounds_toArray, List.set_cons_zero, List.set_cons_succ]
    refine wpAnyH_take (i := 15) (v := ?_) (op_of rfl) (by kernel_rfl) (by kernel_rfl) (by kernel_rfl) (fun _ _ _ h => h) (Or.inl ⟨by rfl, fun W hS => ?_⟩) (by assumption) ?_
    rotate_left
    · dsimp only at hS
      go_simp
      try with_reducible rfl
    try dsimp only [Act.put]
    try simp only [List.setIfInBounds_toArray, List.set_cons_zero, List.set_cons_succ]
    refine wpAnyH_take (i := 16) (v := ?_) (op_of rfl) (by kernel_rfl) (by kernel_rfl) (by kernel_rfl) (fun _ _ _ h => h) (Or.inl ⟨by rfl, fun W hS => ?_⟩) (by assumption) ?_
    rotate_left
    · dsimp only at hS
      go_simp
      try with_reducible rfl
    try dsimp only [Act.put]
    try simp only [List.setIfInBounds_toArray, List.set_cons_zero, List.set_cons_succ]
    refine wpAnyH_ready (rs := [14]) (by kernel_rfl) (by simp) (AllReadyH.cons (op_of rfl) (fun K hK => ?_) AllReadyH.nil)
    go_simp
    refine (CLEN.out _ HP.out).mono ?_
    rintro en wn2 ⟨rfl, rfl⟩
    refine hK.out _ _ HBS.out (fun hHeld => ?_)
    clear hK K
    try dsimp only [Act.put]
    try simp only [List.setIfInBounds_toArray, List.set_cons_zero, List.set_cons_succ]
    refine wpAnyH_take (i := 17) (v := ?_) (op_of rfl) (by kernel_rfl) (by kernel_rfl) (by kernel_rfl) (fun _ _ _ h => h) (Or.inl ⟨by rfl, fun W hS => ?_⟩) (by assumption) ?_
    rotate_left
    · dsimp only at hS
      go_simp
      try with_reducible rfl
    try dsimp only [Act.put]
    try simp only [List.setIfInBounds_toArray, List.set_cons_zero, List.set_cons_succ]
    refine wpAnyH_take (i := 18) (v := ?_) (op_of rfl) (by kernel_rfl) (by kernel_rfl) (by kernel_rfl) (fun _ _ _ h => h) (Or.inl ⟨by rfl, fun W hS => ?_⟩) (by assumption) ?_
    rotate_left
    · dsimp only at hS
      go_simp
      try with_reducible rfl
    try dsimp only [Act.put]
    try simp only [List.setIfInBounds_toArray, List.set_cons_zero, List.set_cons_succ]
    refine wpAnyH_take (i := 19) (v := ?_) (op_of rfl) (by kernel_rfl) (by kernel_rfl) (by kernel_rfl) (fun _ _ _ h => h) (Or.inl ⟨by rfl, fun W hS => ?_⟩) (by assumption) ?_
    rotate_left
    · dsimp only at hS
      go_simp
      try with_reducible rfl
    try dsimp only [Act.put]
    try simp only [List.setIfInBounds_toArray, List.set_cons_zero, List.set_cons_succ]
    refine wpAnyH_take (i := 20) (v := ?_) (op_of rfl) (by kernel_rfl) (by kernel_rfl) (by kernel_rfl) (fun _ _ _ h => h) (Or.inl ⟨by rfl, fun W hS => ?_⟩) (by assumption) ?_
    rotate_left
    · dsimp only at hS
      go_simp
      try with_reducible rfl
    try dsimp only [Act.put]
    try simp only [List.setIfInBounds_toArray, List.set_cons_zero, List.set_cons_succ]
    refine wpAnyH_take (i := 22) (v := ?_) (op_of rfl) (by kernel_rfl) (by kernel_rfl) (by kernel_rfl) (fun _ _ _ h => h) (Or.inl ⟨by rfl, fun W hS => ?_⟩) (by assumption) ?_
    rotate_left
    · dsimp only at hS
      go_simp
      try with_reducible rfl
    try dsimp only [Act.put]
    try simp only [List.setIfInBounds_toArray, List.set_cons_zero, List.set_cons_succ]
    refine wpAnyH_take (i := 23) (v := ?_) (op_of rfl) (by kernel_rfl) (by kernel_rfl) (by kernel_rfl) (fun _ _ _ h => h) (Or.inl ⟨by rfl, fun W hS => ?_⟩) (by assumption) ?_
    rotate_left
    · dsimp only at hS
      go_simp
      try with_reducible rfl
    try dsimp only [Act.put]
    try simp only [List.setIfInBounds_toArray, List.set_cons_zero, List.set_cons_succ]
    refine wpAnyH_ready (rs := [21]) (by kernel_rfl) (by simp) (AllReadyH.cons (op_of rfl) (fun K hK => ?_) AllReadyH.nil)
    go_simp
    refine (CHGT.out _ HP.out).mono ?_
    rintro en wn2 ⟨rfl, rfl⟩
    refine hK.out _ _ HBS.out (fun hHeld => ?_)
    clear hK K
    try dsimp only [Act.put]
    try simp only [List.setIfInBounds_toArray, List.set_cons_zero, List.set_cons_succ]
    refine wpAnyH_ready (rs := [24]) (by kernel_rfl) (by simp) (AllReadyH.cons (op_of rfl) (fun K hK => ?_) AllReadyH.nil)
    go_simp
    refine (CRH.out _ HP.out).mono ?_
    rintro en wn2 ⟨rfl, rfl⟩
    refine hK.out _ _ HBS.out (fun hHeld => ?_)
    clear hK K
    try dsimp only [Act.put]
    try simp only [List.setIfInBounds_toArray, List.set_cons_zero, List.set_cons_succ]
    refine wpAnyH_take (i := 25) (v := ?_) (op_of rfl) (by kernel_rfl) (by kernel_rfl) (by kernel_rfl) (fun _ _ _ h => h) (Or.inl ⟨by rfl, fun W hS => ?_⟩) (by assumption) ?_
    rotate_left
    · dsimp only at hS
      go_simp
      try with_reducible rfl
    try dsimp only [Act.put]
    try simp only [List.setIfInBounds_toArray, List.set_cons_zero, List.set_cons_succ]
    refine wpAnyH_take (i := 26) (v := ?_) (op_of rfl) (by kernel_rfl) (by kernel_rfl) (by kernel_rfl) (fun _ _ _ h => h) (Or.inl ⟨by rfl, fun W hS => ?_⟩) (by assumption) ?_
    rotate_left
    · dsimp only at hS
      go_simp
      try with_reducible rfl
    try dsimp only [Act.put]
    try simp only [List.setIfInBounds_toArray, List.set_cons_zero, List.set_cons_succ]
    refine wpAnyH_take (i := 27) (v := ?_) (op_of rfl) (by kernel_rfl) (by kernel_rfl) (by kernel_rfl) (fun _ _ _ h => h) (Or.inl ⟨by rfl, fun W hS => ?_⟩) (by assumption) ?_
    rotate_left
    · dsimp only at hS
      go_simp
      try with_reducible rfl
    try dsimp only [Act.put]
    try simp only [List.setIfInBounds_toArray, List.set_cons_zero, List.set_cons_succ]
    refine wpAnyH_take (i := 28) (v := ?_) (op_of rfl) (by kernel_rfl) (by kernel_rfl) (by kernel_rfl) (fun _ _ _ h => h) (Or.inl ⟨by rfl, fun W hS => ?_⟩) (by assumption) ?_
    rotate_left
    · dsimp only at hS
      go_simp
      try with_reducible rfl
    try dsimp only [Act.put]
    try simp only [List.setIfInBounds_toArray, List.set_cons_zero, List.set_cons_succ]
    refine wpAnyH_take (i := 30) (v := ?_) (op_of rfl) (by kernel_rfl) (by kernel_rfl) (by kernel_rfl) (fun _ _ _ h => h) (Or.inl ⟨by rfl, fun W hS => ?_⟩) (by assumption) ?_
    rotate_left
    · dsimp only at hS
      go_simp
      try with_reducible rfl
    try dsimp only [Act.put]
    try simp only [List.setIfInBounds_toArray, List.set_cons_zero, List.set_cons_succ]
    refine wpAnyH_ready (rs := [29]) (by kernel_rfl) (by simp) (AllReadyH.cons (op_of rfl) (fun K hK => ?_) AllReadyH.nil)
    go_simp
    refine (CALL.out _ HP.out).mono ?_
    rintro en wn2 ⟨A5, n5, c5, rfl, hl5, hc5, ho5, hb⟩
    obtain rfl : n = n5 := by rw [← hl5]; exact HXL.out.symm
    have HBN := Lib.hid (HBS.out.trans (hb.mono HBS.out.size))
    have HPN := Lib.hid (HP.out.below hb)
    have HO5 := Lib.hid ho5
    clear hb HBS HP ho5 hl5
    have HBS := HBN
    have HP := HPN
    clear HBN HPN
    refine hK.out _ _ HBS.out (fun hHeld => ?_)
    clear hK K
    try dsimp only [Act.put]
    try simp only [List.setIfInBounds_toArray, List.set_cons_zero, List.set_cons_succ]
    refine wpAnyH_ready (rs := [31]) (by kernel_rfl) (by simp) (AllReadyH.cons (op_of rfl) (fun K hK => ?_) AllReadyH.nil)
    go_simp
    refine (same7_any A5 A xs n c5 c _ HXL.out (Rq.of_own HO5.out) HP.out.read (by omega)).mono ?_
    rintro en wn2 ⟨rfl, hb⟩
    have HBN := Lib.hid (quiet10_b HBS.out hb)
    have HPN := Lib.hid (HP.out.quiet hb)
    clear hb HBS HP HO5
    have HBS := HBN
    have HP := HPN
    clear HBN HPN
    refine hK.out _ _ HBS.out (fun hHeld => ?_)
    clear hK K
    try dsimp only [Act.put]
    try simp only [List.setIfInBounds_toArray, List.set_cons_zero, List.set_cons_succ]
    refine wpAnyH_take (i := 32) (v := ?_) (op_of rfl) (by kernel_rfl) (by kernel_rfl) (by kernel_rfl) (fun _ _ _ h => h) (Or.inl ⟨by rfl, fun W hS => ?_⟩) (by assumption) ?_
    rotate_left
    · dsimp only at hS
      go_simp
      try with_reducible rfl
    try dsimp only [Act.put]
    try simp only [List.setIfInBounds_toArray, List.set_cons_zero, List.set_cons_succ]
    refine wpAnyH_take (i := 33) (v := ?_) (op_of rfl) (by kernel_rfl) (by kernel_rfl) (by kernel_rfl) (fun _ _ _ h => h) (Or.inl ⟨by rfl, fun W hS => ?_⟩) (by assumption) ?_
    rotate_left
    · dsimp only at hS
      go_simp
      try with_reducible rfl
    try dsimp only [Act.put]
    try simp only [List.setIfInBounds_toArray, List.set_cons_zero, List.set_cons_succ]
    refine wpAnyH_take (i := 34) (v := ?_) (op_of rfl) (by kernel_rfl) (by kernel_rfl) (by kernel_rfl) (fun _ _ _ h => h) (Or.inl ⟨by rfl, fun W hS => ?_⟩) (by assumption) ?_
    rotate_left
    · dsimp only at hS
      go_simp
      try with_reducible rfl
    try dsimp only [Act.put]
    try simp only [List.setIfInBounds_toArray, List.set_cons_zero, List.set_cons_succ]
    refine wpAnyH_take (i := 35) (v := ?_) (op_of rfl) (by kernel_rfl) (by kernel_rfl) (by kernel_rfl) (fun _ _ _ h => h) (Or.inl ⟨by rfl, fun W hS => ?_⟩) (by assumption) ?_
    rotate_left
    · dsimp only at hS
      go_simp
      try with_reducible rfl
    try dsimp only [Act.put]
    try simp only [List.setIfInBounds_toArray, List.set_cons_zero, List.set_cons_succ]
    refine wpAnyH_take (i := 36) (v := ?_) (op_of rfl) (by kernel_rfl) (by kernel_rfl) (by kernel_rfl) (fun _ _ _ h => h) (Or.inl ⟨by rfl, fun W hS => ?_⟩) (by assumption) ?_
    rotate_left
    · dsimp only at hS
      have z0 := (hS.cell (World.block_lt_of_cell? _ _ c1)).trans c1
      go_simp
      try with_reducible rfl
    try dsimp only [Act.put]
    try simp only [List.setIfInBounds_toArray, List.set_cons_zero, List.set_cons_succ]
    refine wpAnyH_take (i := 38) (v := ?_) (op_of rfl) (by kernel_rfl) (by kernel_rfl) (by kernel_rfl) (fun _ _ _ h => h) (Or.inl ⟨by rfl, fun W hS => ?_⟩) (by assumption) ?_
    rotate_left
    · dsimp only at hS
      go_simp
      try with_reducible rfl
    try dsimp only [Act.put]
    try simp only [List.setIfInBounds_toArray, List.set_cons_zero, List.set_cons_succ]
    refine wpAnyH_take (i := 39) (v := ?_) (op_of rfl) (by kernel_rfl) (by kernel_rfl) (by kernel_rfl) (fun _ _ _ h => h) (Or.inl ⟨by rfl, fun W hS => ?_⟩) (by assumption) ?_
    rotate_left
    · dsimp only at hS
      go_simp
      try with_reducible rfl
    try dsimp only [Act.put]
    try simp only [List.setIfInBounds_toArray, List.set_cons_zero, List.set_cons_succ]
    refine wpAnyH_take (i := 40) (v := ?_) (op_of rfl) (by kernel_rfl) (by kernel_rfl) (by kernel_rfl) (fun _ _ _ h => h) (Or.inl ⟨by rfl, fun W hS => ?_⟩) (by assumption) ?_
    rotate_left
    · dsimp only at hS
      have z0 := (hS.cell (World.block_lt_of_cell? _ _ c1)).trans c1
      go_simp
      try with_reducible rfl
    try dsimp only [Act.put]
    try simp only [List.setIfInBounds_toArray, List.set_cons_zero, List.set_cons_succ]
    refine wpAnyH_ready (rs := [37]) (by kernel_rfl) (by simp) (AllReadyH.cons (op_of rfl) (fun K hK => ?_) AllReadyH.nil)
    go_simp
    refine (CAH.out _ HP.out).mono ?_
    rintro en wn2 ⟨rfl, hb⟩
    have HBN := Lib.hid (quiet10_b HBS.out hb)
    have HPN := Lib.hid (HP.out.quiet hb)
    clear hb HBS HP
    have HBS := HBN
    have HP := HPN
    clear HBN HPN
    refine hK.out _ _ HBS.out (fun hHeld => ?_)
    clear hK K
    try dsimp only [Act.put]
    try simp only [List.setIfInBounds_toArray, List.set_cons_zero, List.set_cons_succ]
    refine wpAnyH_ready (rs := [41]) (by kernel_rfl) (by simp) (AllReadyH.cons (op_of rfl) (fun K hK => ?_) AllReadyH.nil)
    go_simp
    refine (CRA.out _ HP.out).mono ?_
    rintro en wn2 ⟨rfl, rfl⟩
    refine hK.out _ _ HBS.out (fun hHeld => ?_)
    clear hK K
    try dsimp only [Act.put]
    try simp only [List.setIfInBounds_toArray, List.set_cons_zero, List.set_cons_succ]
    refine wpAnyH_take (i := 42) (v := ?_) (op_of rfl) (by kernel_rfl) (by kernel_rfl) (by kernel_rfl) (fun _ _ _ h => h) (Or.inl ⟨by rfl, fun W hS => ?_⟩) (by assumption) ?_
    rotate_left
    · dsimp only at hS
      go_simp
      try with_reducible rfl
    try dsimp only [Act.put]
    try simp only [List.setIfInBounds_toArray, List.set_cons_zero, List.set_cons_succ]
    refine wpAnyH_take (i := 43) (v := ?_) (op_of rfl) (by kernel_rfl) (by kernel_rfl) (by kernel_rfl) (fun _ _ _ h => h) (Or.inl ⟨by rfl, fun W hS => ?_⟩) (by assumption) ?_
    rotate_left
    · dsimp only at hS
      go_simp
      try with_reducible rfl
    try dsimp only [Act.put]
    try simp only [List.setIfInBounds_toArray, List.set_cons_zero, List.set_cons_succ]
    refine wpAnyH_ready (rs := [44]) (by kernel_rfl) (by simp) (AllReadyH.cons (op_of rfl) (fun K hK => ?_) AllReadyH.nil)
    go_simp
    refine hK.out _ _ HBS.out (fun hHeld => ?_)
    clear hK K
    try dsimp only [Act.put]
    try simp only [List.setIfInBounds_toArray, List.set_cons_zero, List.set_cons_succ]
    refine wpAnyH_done (by kernel_rfl) ?_ _
    go_wp2_with fail
    go_ret
    exact ⟨rfl, ⟨_, HP.out⟩, HB2.out.trans (HBS.out.mono (show L ≤ w9.heap.size by omega))⟩
  · have hi2 : (0 : Int) ≤ i := by omega
    have hi3 : ¬ i < (n : Int) := by omega
    clear hi
    go_enter Try.func11, Try.ntmps11
    go_wp2_with fail
    refine (HRT.out _ _ HP.out).mono ?_
    rintro e w1 ⟨rfl, hb1⟩
    have HP1 := Lib.hid (HP.out.below hb1)
    have HB1 := Lib.hid (HB.out.trans (hb1.mono (show L ≤ _ by omega)))
    have hA1 := HA.out.below hb1 hAl
    have HA1 := Lib.hid hA1
    have c2 := hA1.cell 2
    have hs1 := hb1.size
    clear hb1 hA1 HP HB HA HRT
    go_wp2_with fail
    refine (CFI.out _ HP1.out).mono ?_
    rintro e w9 ⟨rfl, hb2⟩
    have HP2 := Lib.hid (HP1.out.quiet hb2)
    have hs2 := hb2.size
    have HB2 := Lib.hid (HB1.out.trans (below_none10 (L := L) (by omega) hb2))
    have hA2 := HA1.out.grown hb2 (by simp)
    have c1 := hA2.cell 1
    have c2 := hA2.cell 2
    clear hb2 hA2 HP1 HB1 HA1 CFI
    have hst : Below w9.heap.size w9 w9.drew := (Below.refl _ _).drew
    have HBS := Lib.hid hst
    have HP := Lib.hid (HP2.out.quiet (grown7_drew w9 none))
    go_wp2_with fail

    refine wp_region_held_drew (S := fun W => Below w9.heap.size w9 W) (by kernel_rfl) hst (fun hHeld => ?_)
    obtain ⟨wn, hwn⟩ : ∃ W, w9.drew = W := ⟨_, rfl⟩
    rw [hwn] at HBS HP hHeld
    rw [hwn]
    clear hwn
    refine wpAnyH_take (i := 0) (v := ?_) (op_of rfl) (by kernel_rfl) (by kernel_rfl) (by kernel_rfl) (fun _ _ _ h => h) (Or.inl ⟨by rfl, fun W hS => ?_⟩) (by assumption) ?_
    rotate_left
    · dsimp only at hS
      go_simp
      try with_reducible rfl
    try dsimp only [Act.put]
    try simp only [List.setIfInBounds_toArray, List.set_cons_zero, List.set_cons_succ]
    refine wpAnyH_take (i := 1) (v := ?_) (op_of rfl) (by kernel_rfl) (by kernel_rfl) (by kernel_rfl) (fun _ _ _ h => h) (Or.inl ⟨by rfl, fun W hS => ?_⟩) (by assumption) ?_
    rotate_left
    · dsimp only at hS
      go_simp
      try with_reducible rfl
    try dsimp only [Act.put]
    try simp only [List.setIfInBounds_toArray, List.set_cons_zero, List.set_cons_succ]
    refine wpAnyH_take (i := 2) (v := ?_) (op_of rfl) (by kernel_rfl) (by kernel_rfl) (by kernel_rfl) (fun _ _ _ h => h) (Or.inl ⟨by rfl, fun W hS => ?_⟩) (by assumption) ?_
    rotate_left
    · dsimp only at hS
      have z0 := (hS.cell (World.block_lt_of_cell? _ _ c1)).trans c1
      go_simp
      try with_reducible rfl
    try dsimp only [Act.put]
    try simp only [List.setIfInBounds_toArray, List.set_cons_zero, List.set_cons_succ]
    refine wpAnyH_take (i := 4) (v := ?_) (op_of rfl) (by kernel_rfl) (by kernel_rfl) (by kernel_rfl) (fun _ _ _ h => h) (Or.inl ⟨by rfl, fun W hS => ?_⟩) (by assumption) ?_
    rotate_left
    · dsimp only at hS
      go_simp
      try with_reducible rfl
    try dsimp only [Act.put]
    try simp only [List.setIfInBounds_toArray, List.set_cons_zero, List.set_cons_succ]
    refine wpAnyH_ready (rs := [3]) (by kernel_rfl) (by simp) (AllReadyH.cons (op_of rfl) (fun K hK => ?_) AllReadyH.nil)
    go_simp
    refine (CGET.out _ HP.out).mono ?_
    rintro en wn2 ⟨rfl, rfl⟩
    refine hK.out _ _ HBS.out (fun hHeld => ?_)
    clear hK K
    try dsimp only [Act.put]
    try simp only [List.setIfInBounds_toArray, List.set_cons_zero, List.set_cons_succ]
    refine wpAnyH_take (i := 5) (v := ?_) (op_of rfl) (by kernel_rfl) (by kernel_rfl) (by kernel_rfl) (fun _ _ _ h => h) (Or.inl ⟨by rfl, fun W hS => ?_⟩) (by assumption) ?_
    rotate_left
    · dsimp only at hS
      go_simp
      try with_reducible rfl
    try dsimp only [Act.put]
    try simp only [List.setIfInBounds_toArray, List.set_cons_zero, List.set_cons_succ]
    refine wpAnyH_take (i := 6) (v := ?_) (op_of rfl) (by kernel_rfl) (by kernel_rfl) (by kernel_rfl) (fun _ _ _ h => h) (Or.inl ⟨by rfl, fun W hS => ?_⟩) (by assumption) ?_
    rotate_left
    · dsimp only at hS
      go_simp
      try with_reducible rfl
    try dsimp only [Act.put]
    try simp only [List.setIfInBounds_toArray, List.set_cons_zero, List.set_cons_succ]
    refine wpAnyH_take (i := 7) (v := ?_) (op_of rfl) (by kernel_rfl) (by kernel_rfl) (by kernel_rfl) (fun _ _ _ h => h) (Or.inl ⟨by rfl, fun W hS => ?_⟩) (by assumption) ?_
    rotate_left
    · dsimp only at hS
      go_simp
      try with_reducible rfl
    try dsimp only [Act.put]
    try simp only [List.setIfInBounds_toArray, List.set_cons_zero, List.set_cons_succ]
    refine wpAnyH_take (i := 9) (v := ?_) (op_of rfl) (by kernel_rfl) (by kernel_rfl) (by kernel_rfl) (fun _ _ _ h => h) (Or.inl ⟨by rfl, fun W hS => ?_⟩) (by assumption) ?_
    rotate_left
    · dsimp only at hS
      go_simp
      try with_reducible rfl
    try dsimp only [Act.put]
    try simp only [List.setIfInBounds_toArray, List.set_cons_zero, List.set_cons_succ]
    refine wpAnyH_ready (rs := [8]) (by kernel_rfl) (by simp) (AllReadyH.cons (op_of rfl) (fun K hK => ?_) AllReadyH.nil)
    go_simp
    refine (CTOT.out _ HP.out).mono ?_
    rintro en wn2 ⟨rfl, hb⟩
    have HBN := Lib.hid (quiet10_b HBS.out hb)
    have HPN := Lib.hid (HP.out.quiet hb)
    clear hb HBS HP
    have HBS := HBN
    have HP := HPN
    clear HBN HPN
    refine hK.out _ _ HBS.out (fun hHeld => ?_)
    clear hK K
    try dsimp only [Act.put]
    try simp only [List.setIfInBounds_toArray, List.set_cons_zero, List.set_cons_succ]
    refine wpAnyH_take (i := 10) (v := ?_) (op_of rfl) (by kernel_rfl) (by kernel_rfl) (by kernel_rfl) (fun _ _ _ h => h) (Or.inl ⟨by rfl, fun W hS => ?_⟩) (by assumption) ?_
    rotate_left
    · dsimp only at hS
      go_simp
      try with_reducible rfl
    try dsimp only [Act.put]
    try simp only [List.setIfInBounds_toArray, List.set_cons_zero, List.set_cons_succ]
    refine wpAnyH_take (i := 11) (v := ?_) (op_of rfl) (by kernel_rfl) (by kernel_rfl) (by kernel_rfl) (fun _ _ _ h => h) (Or.inl ⟨by rfl, fun W hS => ?_⟩) (by assumption) ?_
    rotate_left
    · dsimp only at hS
      go_simp
      try with_reducible rfl
    try dsimp only [Act.put]
    try simp only [List.setIfInBounds_toArray, List.set_cons_zero, List.set_cons_succ]
    refine wpAnyH_take (i := 12) (v := ?_) (op_of rfl) (by kernel_rfl) (by kernel_rfl) (by kernel_rfl) (fun _ _ _ h => h) (Or.inl ⟨by rfl, fun W hS => ?_⟩) (by assumption) ?_
    rotate_left
    · dsimp only at hS
      go_simp
      try with_reducible rfl
    try dsimp only [Act.put]
    try simp only [List.setIfInBounds_toArray, List.set_cons_zero, List.set_cons_succ]
    refine wpAnyH_take (i := 13) (v := ?_) (op_of rfl) (by kernel_rfl) (by kernel_rfl) (by kernel_rfl) (fun _ _ _ h => h) (Or.inl ⟨by rfl, fun W hS => ?_⟩) (by assumption) ?_
    rotate_left
    · dsimp only at hS
      go_simp
      try with_reducible rfl
    try dsimp only [Act.put]
    try simp only [List.setIfInBounds_toArray, List.set_cons_zero, List.set_cons_succ]
    refine wpAnyH_take (i := 15) (v := ?_) (op_of rfl) (by kernel_rfl) (by kernel_rfl) (by kernel_rfl) (fun _ _ _ h => h) (Or.inl ⟨by rfl, fun W hS => ?_⟩) (by assumption) ?_
    rotate_left
    · dsimp only at hS
      go_simp
      try with_reducible rfl
    try dsimp only [Act.put]
    try simp only [List.setIfInBounds_toArray, List.set_cons_zero, List.set_cons_succ]
    refine wpAnyH_take (i := 16) (v := ?_) (op_of rfl) (by kernel_rfl) (by kernel_rfl) (by kernel_rfl) (fun _ _ _ h => h) (Or.inl ⟨by rfl, fun W hS => ?_⟩) (by assumption) ?_
    rotate_left
    · dsimp only at hS
      go_simp
      try with_reducible rfl
    try dsimp only [Act.put]
    try simp only [List.setIfInBounds_toArray, List.set_cons_zero, List.set_cons_succ]
    refine wpAnyH_ready (rs := [14]) (by kernel_rfl) (by simp) (AllReadyH.cons (op_of rfl) (fun K hK => ?_) AllReadyH.nil)
    go_simp
    refine (CLEN.out _ HP.out).mono ?_
    rintro en wn2 ⟨rfl, rfl⟩
    refine hK.out _ _ HBS.out (fun hHeld => ?_)
    clear hK K
    try dsimp only [Act.put]
    try simp only [List.setIfInBounds_toArray, List.set_cons_zero, List.set_cons_succ]
    refine wpAnyH_take (i := 17) (v := ?_) (op_of rfl) (by kernel_rfl) (by kernel_rfl) (by kernel_rfl) (fun _ _ _ h => h) (Or.inl ⟨by rfl, fun W hS => ?_⟩) (by assumption) ?_
    rotate_left
    · dsimp only at hS
      go_simp
      try with_reducible rfl
    try dsimp only [Act.put]
    try simp only [List.setIfInBounds_toArray, List.set_cons_zero, List.set_cons_succ]
    refine wpAnyH_take (i := 18) (v := ?_) (op_of rfl) (by kernel_rfl) (by kernel_rfl) (by kernel_rfl) (fun _ _ _ h => h) (Or.inl ⟨by rfl, fun W hS => ?_⟩) (by assumption) ?_
    rotate_left
    · dsimp only at hS
      go_simp
      try with_reducible rfl
    try dsimp only [Act.put]
    try simp only [List.setIfInBounds_toArray, List.set_cons_zero, List.set_cons_succ]
    refine wpAnyH_take (i := 19) (v := ?_) (op_of rfl) (by kernel_rfl) (by kernel_rfl) (by kernel_rfl) (fun _ _ _ h => h) (Or.inl ⟨by rfl, fun W hS => ?_⟩) (by assumption) ?_
    rotate_left
    · dsimp only at hS
      go_simp
      try with_reducible rfl
    try dsimp only [Act.put]
    try simp only [List.setIfInBounds_toArray, List.set_cons_zero, List.set_cons_succ]
    refine wpAnyH_take (i := 20) (v := ?_) (op_of rfl) (by kernel_rfl) (by kernel_rfl) (by kernel_rfl) (fun _ _ _ h => h) (Or.inl ⟨by rfl, fun W hS => ?_⟩) (by assumption) ?_
    rotate_left
    · dsimp only at hS
      go_simp
      try with_reducible rfl
    try dsimp only [Act.put]
    try simp only [List.setIfInBounds_toArray, List.set_cons_zero, List.set_cons_succ]
    refine wpAnyH_take (i := 22) (v := ?_) (op_of rfl) (by kernel_rfl) (by kernel_rfl) (by kernel_rfl) (fun _ _ _ h => h) (Or.inl ⟨by rfl, fun W hS => ?_⟩) (by assumption) ?_
    rotate_left
    · dsimp only at hS
      go_simp
      try with_reducible rfl
    try dsimp only [Act.put]
    try simp only [List.setIfInBounds_toArray, List.set_cons_zero, List.set_cons_succ]
    refine wpAnyH_take (i := 23) (v := ?_) (op_of rfl) (by kernel_rfl) (by kernel_rfl) (by kernel_rfl) (fun _ _ _ h => h) (Or.inl ⟨by rfl, fun W hS => ?_⟩) (by assumption) ?_
    rotate_left
    · dsimp only at hS
      go_simp
      try with_reducible rfl
    try dsimp only [Act.put]
    try simp only [List.setIfInBounds_toArray, List.set_cons_zero, List.set_cons_succ]
    refine wpAnyH_ready (rs := [21]) (by kernel_rfl) (by simp) (AllReadyH.cons (op_of rfl) (fun K hK => ?_) AllReadyH.nil)
    go_simp
    refine (CHGT.out _ HP.out).mono ?_
    rintro en wn2 ⟨rfl, rfl⟩
    refine hK.out _ _ HBS.out (fun hHeld => ?_)
    clear hK K
    try dsimp only [Act.put]
    try simp only [List.setIfInBounds_toArray, List.set_cons_zero, List.set_cons_succ]
    refine wpAnyH_ready (rs := [24]) (by kernel_rfl) (by simp) (AllReadyH.cons (op_of rfl) (fun K hK => ?_) AllReadyH.nil)
    go_simp
    refine (CRH.out _ HP.out).mono ?_
    rintro en wn2 ⟨rfl, rfl⟩
    refine hK.out _ _ HBS.out (fun hHeld => ?_)
    clear hK K
    try dsimp only [Act.put]
    try simp only [List.setIfInBounds_toArray, List.set_cons_zero, List.set_cons_succ]
    refine wpAnyH_take (i := 25) (v := ?_) (op_of rfl) (by kernel_rfl) (by kernel_rfl) (by kernel_rfl) (fun _ _ _ h => h) (Or.inl ⟨by rfl, fun W hS => ?_⟩) (by assumption) ?_
    rotate_left
    · dsimp only at hS
      go_simp
      try with_reducible rfl
    try dsimp only [Act.put]
    try simp only [List.setIfInBounds_toArray, List.set_cons_zero, List.set_cons_succ]
    refine wpAnyH_take (i := 26) (v := ?_) (op_of rfl) (by kernel_rfl) (by kernel_rfl) (by kernel_rfl) (fun _ _ _ h => h) (Or.inl ⟨by rfl, fun W hS => ?_⟩) (by assumption) ?_
    rotate_left
    · dsimp only at hS
      go_simp
      try with_reducible rfl
    try dsimp only [Act.put]
    try simp only [List.setIfInBounds_toArray, List.set_cons_zero, List.set_cons_succ]
    refine wpAnyH_take (i := 27) (v := ?_) (op_of rfl) (by kernel_rfl) (by kernel_rfl) (by kernel_rfl) (fun _ _ _ h => h) (Or.inl ⟨by rfl, fun W hS => ?_⟩) (by assumption) ?_
    rotate_left
    · dsimp only at hS
      go_simp
      try with_reducible rfl
    try dsimp only [Act.put]
    try simp only [List.setIfInBounds_toArray, List.set_cons_zero, List.set_cons_succ]
    refine wpAnyH_take (i := 28) (v := ?_) (op_of rfl) (by kernel_rfl) (by kernel_rfl) (by kernel_rfl) (fun _ _ _ h => h) (Or.inl ⟨by rfl, fun W hS => ?_⟩) (by assumption) ?_
    rotate_left
    · dsimp only at hS
      go_simp
      try with_reducible rfl
    try dsimp only [Act.put]
    try simp only [List.setIfInBounds_toArray, List.set_cons_zero, List.set_cons_succ]
    refine wpAnyH_take (i := 30) (v := ?_) (op_of rfl) (by kernel_rfl) (by kernel_rfl) (by kernel_rfl) (fun _ _ _ h => h) (Or.inl ⟨by rfl, fun W hS => ?_⟩) (by assumption) ?_
    rotate_left
    · dsimp only at hS
      go_simp
      try with_reducible rfl
    try dsimp only [Act.put]
    try simp only [List.setIfInBounds_toArray, List.set_cons_zero, List.set_cons_succ]
    refine wpAnyH_ready (rs := [29]) (by kernel_rfl) (by simp) (AllReadyH.cons (op_of rfl) (fun K hK => ?_) AllReadyH.nil)
    go_simp
    refine (CALL.out _ HP.out).mono ?_
    rintro en wn2 ⟨A5, n5, c5, rfl, hl5, hc5, ho5, hb⟩
    obtain rfl : n = n5 := by rw [← hl5]; exact HXL.out.symm
    have HBN := Lib.hid (HBS.out.trans (hb.mono HBS.out.size))
    have HPN := Lib.hid (HP.out.below hb)
    have HO5 := Lib.hid ho5
    clear hb HBS HP ho5 hl5
    have HBS := HBN
    have HP := HPN
    clear HBN HPN
    refine hK.out _ _ HBS.out (fun hHeld => ?_)
    clear hK K
    try dsimp only [Act.put]
    try simp only [List.setIfInBounds_toArray, List.set_cons_zero, List.set_cons_succ]
    refine wpAnyH_ready (rs := [31]) (by kernel_rfl) (by simp) (AllReadyH.cons (op_of rfl) (fun K hK => ?_) AllReadyH.nil)
    go_simp
    refine (same7_any A5 A xs n c5 c _ HXL.out (Rq.of_own HO5.out) HP.out.read (by omega)).mono ?_
    rintro en wn2 ⟨rfl, hb⟩
    have HBN := Lib.hid (quiet10_b HBS.out hb)
    have HPN := Lib.hid (HP.out.quiet hb)
    clear hb HBS HP HO5
    have HBS := HBN
    have HP := HPN
    clear HBN HPN
    refine hK.out _ _ HBS.out (fun hHeld => ?_)
    clear hK K
    try dsimp only [Act.put]
    try simp only [List.setIfInBounds_toArray, List.set_cons_zero, List.set_cons_succ]
    refine wpAnyH_take (i := 32) (v := ?_) (op_of rfl) (by kernel_rfl) (by kernel_rfl) (by kernel_rfl) (fun _ _ _ h => h) (Or.inl ⟨by rfl, fun W hS => ?_⟩) (by assumption) ?_
    rotate_left
    · dsimp only at hS
      go_simp
      try with_reducible rfl
    try dsimp only [Act.put]
    try simp only [List.setIfInBounds_toArray, List.set_cons_zero, List.set_cons_succ]
    refine wpAnyH_take (i := 33) (v := ?_) (op_of rfl) (by kernel_rfl) (by kernel_rfl) (by kernel_rfl) (fun _ _ _ h => h) (Or.inl ⟨by rfl, fun W hS => ?_⟩) (by assumption) ?_
    rotate_left
    · dsimp only at hS
      go_simp
      try with_reducible rfl
    try dsimp only [Act.put]
    try simp only [List.setIfInBounds_toArray, List.set_cons_zero, List.set_cons_succ]
    refine wpAnyH_take (i := 34) (v := ?_) (op_of rfl) (by kernel_rfl) (by kernel_rfl) (by kernel_rfl) (fun _ _ _ h => h) (Or.inl ⟨by rfl, fun W hS => ?_⟩) (by assumption) ?_
    rotate_left
    · dsimp only at hS
      go_simp
      try with_reducible rfl
    try dsimp only [Act.put]
    try simp only [List.setIfInBounds_toArray, List.set_cons_zero, List.set_cons_succ]
    refine wpAnyH_take (i := 35) (v := ?_) (op_of rfl) (by kernel_rfl) (by kernel_rfl) (by kernel_rfl) (fun _ _ _ h => h) (Or.inl ⟨by rfl, fun W hS => ?_⟩) (by assumption) ?_
    rotate_left
    · dsimp only at hS
      go_simp
      try with_reducible rfl
    try dsimp only [Act.put]
    try simp only [List.setIfInBounds_toArray, List.set_cons_zero, List.set_cons_succ]
    refine wpAnyH_take (i := 36) (v := ?_) (op_of rfl) (by kernel_rfl) (by kernel_rfl) (by kernel_rfl) (fun _ _ _ h => h) (Or.inl ⟨by rfl, fun W hS => ?_⟩) (by assumption) ?_
    rotate_left
    · dsimp only at hS
      have z0 := (hS.cell (World.block_lt_of_cell? _ _ c1)).trans c1
      go_simp
      try with_reducible rfl
    try dsimp only [Act.put]
    try simp only [List.setIfInBounds_toArray, List.set_cons_zero, List.set_cons_succ]
    refine wpAnyH_take (i := 38) (v := ?_) (op_of rfl) (by kernel_rfl) (by kernel_rfl) (by kernel_rfl) (fun _ _ _ h => h) (Or.inl ⟨by rfl, fun W hS => ?_⟩) (by assumption) ?_
    rotate_left
    · dsimp only at hS
      go_simp
      try with_reducible rfl
    try dsimp only [Act.put]
    try simp only [List.setIfInBounds_toArray, List.set_cons_zero, List.set_cons_succ]
    refine wpAnyH_take (i := 39) (v := ?_) (op_of rfl) (by kernel_rfl) (by kernel_rfl) (by kernel_rfl) (fun _ _ _ h => h) (Or.inl ⟨by rfl, fun W hS => ?_⟩) (by assumption) ?_
    rotate_left
    · dsimp only at hS
      go_simp
      try with_reducible rfl
    try dsimp only [Act.put]
    try simp only [List.setIfInBounds_toArray, List.set_cons_zero, List.set_cons_succ]
    refine wpAnyH_take (i := 40) (v := ?_) (op_of rfl) (by kernel_rfl) (by kernel_rfl) (by kernel_rfl) (fun _ _ _ h => h) (Or.inl ⟨by rfl, fun W hS => ?_⟩) (by assumption) ?_
    rotate_left
    · dsimp only at hS
      have z0 := (hS.cell (World.block_lt_of_cell? _ _ c1)).trans c1
      go_simp
      try with_reducible rfl
    try dsimp only [Act.put]
    try simp only [List.setIfInBounds_toArray, List.set_cons_zero, List.set_cons_succ]
    refine wpAnyH_ready (rs := [37]) (by kernel_rfl) (by simp) (AllReadyH.cons (op_of rfl) (fun K hK => ?_) AllReadyH.nil)
    go_simp
    refine (CAH.out _ HP.out).mono ?_
    rintro en wn2 ⟨rfl, hb⟩
    have HBN := Lib.hid (quiet10_b HBS.out hb)
    have HPN := Lib.hid (HP.out.quiet hb)
    clear hb HBS HP
    have HBS := HBN
    have HP := HPN
    clear HBN HPN
    refine hK.out _ _ HBS.out (fun hHeld => ?_)
    clear hK K
    try dsimp only [Act.put]
    try simp only [List.setIfInBounds_toArray, List.set_cons_zero, List.set_cons_succ]
    refine wpAnyH_ready (rs := [41]) (by kernel_rfl) (by simp) (AllReadyH.cons (op_of rfl) (fun K hK => ?_) AllReadyH.nil)
    go_simp
    refine (CRA.out _ HP.out).mono ?_
    rintro en wn2 ⟨rfl, rfl⟩
    refine hK.out _ _ HBS.out (fun hHeld => ?_)
    clear hK K
    try dsimp only [Act.put]
    try simp only [List.setIfInBounds_toArray, List.set_cons_zero, List.set_cons_succ]
    refine wpAnyH_take (i := 42) (v := ?_) (op_of rfl) (by kernel_rfl) (by kernel_rfl) (by kernel_rfl) (fun _ _ _ h => h) (Or.inl ⟨by rfl, fun W hS => ?_⟩) (by assumption) ?_
    rotate_left
    · dsimp only at hS
      go_simp
      try with_reducible rfl
    try dsimp only [Act.put]
    try simp only [List.setIfInBounds_toArray, List.set_cons_zero, List.set_cons_succ]
    refine wpAnyH_take (i := 43) (v := ?_) (op_of rfl) (by kernel_rfl) (by kernel_rfl) (by kernel_rfl) (fun _ _ _ h => h) (Or.inl ⟨by rfl, fun W hS => ?_⟩) (by assumption) ?_
    rotate_left
    · dsimp only at hS
      go_simp
      try with_reducible rfl
    try dsimp only [Act.put]
    try simp only [List.setIfInBounds_toArray, List.set_cons_zero, List.set_cons_succ]
    refine wpAnyH_ready (rs := [44]) (by kernel_rfl) (by simp) (AllReadyH.cons (op_of rfl) (fun K hK => ?_) AllReadyH.nil)
    go_simp
    refine hK.out _ _ HBS.out (fun hHeld => ?_)
    clear hK K
    try dsimp only [Act.put]
    try simp only [List.setIfInBounds_toArray, List.set_cons_zero, List.set_cons_succ]
    refine wpAnyH_done (by kernel_rfl) ?_ _
    go_wp2_with fail
    go_ret
    exact ⟨rfl, ⟨_, HP.out⟩, HB2.out.trans (HBS.out.mono (show L ≤ w9.heap.size by omega))⟩
end Go.Proofs.Ytodbmpbhjbknlaa
