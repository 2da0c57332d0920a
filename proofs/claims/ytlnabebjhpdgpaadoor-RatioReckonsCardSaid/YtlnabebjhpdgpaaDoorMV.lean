/-
  The document's fractions: sums, differences, products, quotients, the order.
  Package ratio: the order, Same, Floor, products.
  Package ratio: products, quotients, differences.
-/
import Derived.Test.YtlnabebjhpdgpaaDoorMH
import Derived.Test.YtlnabebjhpdgpaaDoorMJ
namespace Go.Proofs.YtlnabebjhpdgpaaDoor
open Go.RowKit
set_option maxRecDepth 100000

theorem mul_lt2 {a b j : Nat} (ha : a < 65536 ^ j) (hb : b < 65536 ^ j) : a * b < 65536 ^ (j + j) := by rw [Nat.pow_add]; exact Nat.mul_lt_mul'' ha hb
theorem lt_up {a J : Nat} (h : a < 65536 ^ J) : a < 65536 ^ (J + 1) := by rw [Nat.pow_succ]; omega
theorem add_lt2 {a b J : Nat} (ha : a < 65536 ^ J) (hb : b < 65536 ^ J) : a + b < 65536 ^ (J + 1) := by rw [Nat.pow_succ]; omega

set_option maxHeartbeats 8000000 in
theorem add4_r {j : Nat} (A1 A2 A3 A4 : Option Addr) (n1 c1 n2 c2 n3 c3 n4 c4 p q r t L1 L2 L3 L4 : Nat) (w : World) (h1 : Num w L1 (.agg #[.slice A1 n1 c1]) p) (h2 : Num w L2 (.agg #[.slice A2 n2 c2]) q) (h3 : Num w L3 (.agg #[.slice A3 n3 c3]) r) (h4 : Num w L4 (.agg #[.slice A4 n4 c4]) t)
    (bp : p < 65536 ^ j) (bq : q < 65536 ^ j) (br : r < 65536 ^ j) (bt : t < 65536 ^ j) (hd0 : 0 < q * t) (hj : j ≤ 900) :
    Calls Tryd.prog 10 #[.agg #[.slice A1 n1 c1, .slice A2 n2 c2], .agg #[.slice A3 n3 c3, .slice A4 n4 c4]] w (RetD w ((p * t + r * q) / Nat.gcd (p * t + r * q) (q * t)) ((q * t) / Nat.gcd (p * t + r * q) (q * t))) := by
  have hbb := b2 w (.cells #[.slice A1 n1 c1, .slice A2 n2 c2] 32) (.cells #[.slice A3 n3 c3, .slice A4 n4 c4] 32)
  have q1 := (Blk.new w 32 #[.slice A1 n1 c1, .slice A2 n2 c2]).alloc (.cells #[.slice A3 n3 c3, .slice A4 n4 c4] 32)
  have q2 := Blk.new (w.alloc (.cells #[.slice A1 n1 c1, .slice A2 n2 c2] 32)) 32 #[.slice A3 n3 c3, .slice A4 n4 c4]
  rw [World.size_alloc] at q2
  have hsz0 : ((w.alloc (.cells #[.slice A1 n1 c1, .slice A2 n2 c2] 32)).alloc (.cells #[.slice A3 n3 c3, .slice A4 n4 c4] 32)).heap.size = w.heap.size + 1 + 1 := by simp
  obtain ⟨Wb, hWb⟩ : ∃ Wb, (w.alloc (.cells #[.slice A1 n1 c1, .slice A2 n2 c2] 32)).alloc (.cells #[.slice A3 n3 c3, .slice A4 n4 c4] 32) = Wb := ⟨_, rfl⟩
  rw [hWb] at hbb q1 q2 hsz0
  have x1 : Wb.cell? ⟨w.heap.size, 0, none⟩ = some (.slice A1 n1 c1) := q1.cell 0
  have x2 : Wb.cell? ⟨w.heap.size, 1, none⟩ = some (.slice A2 n2 c2) := q1.cell 1
  have x3 : Wb.cell? ⟨w.heap.size + 1, 0, none⟩ = some (.slice A3 n3 c3) := q2.cell 0
  have x4 : Wb.cell? ⟨w.heap.size + 1, 1, none⟩ = some (.slice A4 n4 c4) := q2.cell 1
  have Hp := Lib.hid (h1.below hbb)
  have Hq := Lib.hid (h2.below hbb)
  have Hr := Lib.hid (h3.below hbb)
  have Ht := Lib.hid (h4.below hbb)
  have Bp := Lib.hid bp
  have Bq := Lib.hid bq
  have Br := Lib.hid br
  have Bt := Lib.hid bt
  have hsz : Wb.heap.size ≤ w.heap.size + 1 + 1 := by omega
  have HNU : Hid (p * t + r * q < 65536 ^ (j + j + 1)) := Lib.hid (add_lt2 (mul_lt2 bp bt) (mul_lt2 br bq))
  have HDE : Hid (q * t < 65536 ^ (j + j + 1)) := Lib.hid (lt_up (mul_lt2 bq bt))
  have hrb := Blk.new Wb 32 #[.slice none 0 0, .slice none 0 0]
  rw [hsz0] at hrb
  have HRB : Hid (Blk (Wb.alloc (.cells #[.slice none 0 0, .slice none 0 0] 32)).drew (w.heap.size + 1 + 1) 32 #[.slice none 0 0, .slice none 0 0]) := Lib.hid hrb
  have hst : Below Wb.heap.size Wb (Wb.alloc (.cells #[.slice none 0 0, .slice none 0 0] 32)).drew := (b1 Wb _).drew
  have HBS := Lib.hid hst
  clear hrb
  clear h1 h2 h3 h4 bp bq br bt q1 q2
  go_enter Tryd.func10, Tryd.ntmps10
  go_wp2_with fail
  clear hWb
  refine wp_region_held_drew (S := fun W => Below Wb.heap.size Wb W) (by kernel_rfl) hst (fun hHeld => ?_)
  obtain ⟨wn, hwn⟩ : ∃ W, (Wb.alloc (.cells #[.slice none 0 0, .slice none 0 0] 32)).drew = W := ⟨_, rfl⟩
  rw [hwn] at HBS hHeld HRB
  rw [hwn]
  clear hwn
  refine wpAnyH_take (i := 0) (v := ?_) (op_of rfl) (by kernel_rfl) (by kernel_rfl) (by kernel_rfl) (fun _ _ _ h => h) (Or.inl ⟨by rfl, fun W hS => ?_⟩) (by assumption) ?_
  rotate_left
  · dsimp only at hS
    go_simp
    try with_reducible rfl
  try dsimp only [Act.put]
  try simp only [List.setIfInBounds_toArray, List.set_cons_zero, List.set_cons_succ]
  refine wpAnyH_take (i := 1) (v := ?_) (op_of rfl) (by kernel_rfl) (by kernel_rfl) (by kernel_rfl) (fun _ _ _ h => h) (Or.inl ⟨by rfl, fun W hS => ?_⟩) (by assumption) ?_
  rotate_left
  · dsimp only at hS
    have z := (hS.cell (World.block_lt_of_cell? _ _ x1)).trans x1
    go_simp
    try with_reducible rfl
  try dsimp only [Act.put]
  try simp only [List.setIfInBounds_toArray, List.set_cons_zero, List.set_cons_succ]
  refine wpAnyH_take (i := 2) (v := ?_) (op_of rfl) (by kernel_rfl) (by kernel_rfl) (by kernel_rfl) (fun _ _ _ h => h) (Or.inl ⟨by rfl, fun W hS => ?_⟩) (by assumption) ?_
  rotate_left
  · dsimp only at hS
    go_simp
    try with_reducible rfl
  try dsimp only [Act.put]
  try simp only [List.setIfInBounds_toArray, List.set_cons_zero, List.set_cons_succ]
  refine wpAnyH_take (i := 3) (v := ?_) (op_of rfl) (by kernel_rfl) (by kernel_rfl) (by kernel_rfl) (fun _ _ _ h => h) (Or.inl ⟨by rfl, fun W hS => ?_⟩) (by assumption) ?_
  rotate_left
  · dsimp only at hS
    have z := (hS.cell (World.block_lt_of_cell? _ _ x4)).trans x4
    go_simp
    try with_reducible rfl
  try dsimp only [Act.put]
  try simp only [List.setIfInBounds_toArray, List.set_cons_zero, List.set_cons_succ]
  refine wpAnyH_take (i := 5) (v := ?_) (op_of rfl) (by kernel_rfl) (by kernel_rfl) (by kernel_rfl) (fun _ _ _ h => h) (Or.inl ⟨by rfl, fun W hS => ?_⟩) (by assumption) ?_
  rotate_left
  · dsimp only at hS
    go_simp
    try with_reducible rfl
  try dsimp only [Act.put]
  try simp only [List.setIfInBounds_toArray, List.set_cons_zero, List.set_cons_succ]
  refine wpAnyH_take (i := 6) (v := ?_) (op_of rfl) (by kernel_rfl) (by kernel_rfl) (by kernel_rfl) (fun _ _ _ h => h) (Or.inl ⟨by rfl, fun W hS => ?_⟩) (by assumption) ?_
  rotate_left
  · dsimp only at hS
    have z := (hS.cell (World.block_lt_of_cell? _ _ x3)).trans x3
    go_simp
    try with_reducible rfl
  try dsimp only [Act.put]
  try simp only [List.setIfInBounds_toArray, List.set_cons_zero, List.set_cons_succ]
  refine wpAnyH_take (i := 7) (v := ?_) (op_of rfl) (by kernel_rfl) (by kernel_rfl) (by kernel_rfl) (fun _ _ _ h => h) (Or.inl ⟨by rfl, fun W hS => ?_⟩) (by assumption) ?_
  rotate_left
  · dsimp only at hS
    go_simp
    try with_reducible rfl
  try dsimp only [Act.put]
  try simp only [List.setIfInBounds_toArray, List.set_cons_zero, List.set_cons_succ]
  refine wpAnyH_take (i := 8) (v := ?_) (op_of rfl) (by kernel_rfl) (by kernel_rfl) (by kernel_rfl) (fun _ _ _ h => h) (Or.inl ⟨by rfl, fun W hS => ?_⟩) (by assumption) ?_
  rotate_left
  · dsimp only at hS
    have z := (hS.cell (World.block_lt_of_cell? _ _ x2)).trans x2
    go_simp
    try with_reducible rfl
  try dsimp only [Act.put]
  try simp only [List.setIfInBounds_toArray, List.set_cons_zero, List.set_cons_succ]
  refine wpAnyH_take (i := 11) (v := ?_) (op_of rfl) (by kernel_rfl) (by kernel_rfl) (by kernel_rfl) (fun _ _ _ h => h) (Or.inl ⟨by rfl, fun W hS => ?_⟩) (by assumption) ?_
  rotate_left
  · dsimp only at hS
    go_simp
    try with_reducible rfl
  try dsimp only [Act.put]
  try simp only [List.setIfInBounds_toArray, List.set_cons_zero, List.set_cons_succ]
  refine wpAnyH_take (i := 12) (v := ?_) (op_of rfl) (by kernel_rfl) (by kernel_rfl) (by kernel_rfl) (fun _ _ _ h => h) (Or.inl ⟨by rfl, fun W hS => ?_⟩) (by assumption) ?_
  rotate_left
  · dsimp only at hS
    have z := (hS.cell (World.block_lt_of_cell? _ _ x2)).trans x2
    go_simp
    try with_reducible rfl
  try dsimp only [Act.put]
  try simp only [List.setIfInBounds_toArray, List.set_cons_zero, List.set_cons_succ]
  refine wpAnyH_take (i := 13) (v := ?_) (op_of rfl) (by kernel_rfl) (by kernel_rfl) (by kernel_rfl) (fun _ _ _ h => h) (Or.inl ⟨by rfl, fun W hS => ?_⟩) (by assumption) ?_
  rotate_left
  · dsimp only at hS
    go_simp
    try with_reducible rfl
  try dsimp only [Act.put]
  try simp only [List.setIfInBounds_toArray, List.set_cons_zero, List.set_cons_succ]
  refine wpAnyH_take (i := 14) (v := ?_) (op_of rfl) (by kernel_rfl) (by kernel_rfl) (by kernel_rfl) (fun _ _ _ h => h) (Or.inl ⟨by rfl, fun W hS => ?_⟩) (by assumption) ?_
  rotate_left
  · dsimp only at hS
    have z := (hS.cell (World.block_lt_of_cell? _ _ x4)).trans x4
    go_simp
    try with_reducible rfl
  try dsimp only [Act.put]
  try simp only [List.setIfInBounds_toArray, List.set_cons_zero, List.set_cons_succ]
  refine wpAnyH_ready (rs := [4]) (by kernel_rfl) (by simp) (AllReadyH.cons (op_of rfl) (fun K hK => ?_) AllReadyH.nil)
  go_simp
  refine (mul_num (.agg #[.slice A1 n1 c1]) (.agg #[.slice A4 n4 c4]) p t _ _ _ (Hp.out.below HBS.out) (Ht.out.below HBS.out) Bp.out Bt.out (by omega) (by omega)).mono ?_
  rintro en wn ⟨v, rfl, h, hb⟩
  obtain ⟨D4, m4, d4, rfl⟩ := h.shape
  have HBS := Lib.hid (HBS.out.trans (hb.mono HBS.out.size))
  have HRB := Lib.hid (HRB.out.below hb HRB.out.lt)
  have HP4 := Lib.hid h
  clear h hb
  refine hK.out _ _ HBS.out (fun hHeld => ?_)
  clear hK K
  try dsimp only [Act.put]
  try simp only [List.setIfInBounds_toArray, List.set_cons_zero, List.set_cons_succ]
  refine wpAnyH_ready (rs := [9]) (by kernel_rfl) (by simp) (AllReadyH.cons (op_of rfl) (fun K hK => ?_) AllReadyH.nil)
  go_simp
  refine (mul_num (.agg #[.slice A3 n3 c3]) (.agg #[.slice A2 n2 c2]) r q _ _ _ (Hr.out.below HBS.out) (Hq.out.below HBS.out) Br.out Bq.out (by omega) (by omega)).mono ?_
  rintro en wn ⟨v, rfl, h, hb⟩
  obtain ⟨D9, m9, d9, rfl⟩ := h.shape
  have HBS := Lib.hid (HBS.out.trans (hb.mono HBS.out.size))
  have HP4 := Lib.hid (HP4.out.below hb)
  have HRB := Lib.hid (HRB.out.below hb HRB.out.lt)
  have HP9 := Lib.hid h
  clear h hb
  refine hK.out _ _ HBS.out (fun hHeld => ?_)
  clear hK K
  try dsimp only [Act.put]
  try simp only [List.setIfInBounds_toArray, List.set_cons_zero, List.set_cons_succ]
  refine wpAnyH_ready (rs := [10]) (by kernel_rfl) (by simp) (AllReadyH.cons (op_of rfl) (fun K hK => ?_) AllReadyH.nil)
  go_simp
  refine (add_num (.agg #[.slice D4 m4 d4]) (.agg #[.slice D9 m9 d9]) (p * t) (r * q) _ _ _ HP4.out HP9.out (mul_lt2 Bp.out Bt.out) (mul_lt2 Br.out Bq.out) (by omega) (by omega)).mono ?_
  rintro en wn ⟨v, rfl, h, hb⟩
  obtain ⟨D10, m10, d10, rfl⟩ := h.shape
  have HBS := Lib.hid (HBS.out.trans (hb.mono HBS.out.size))
  have HP4 := Lib.hid (HP4.out.below hb)
  have HP9 := Lib.hid (HP9.out.below hb)
  have HRB := Lib.hid (HRB.out.below hb HRB.out.lt)
  have HP10 := Lib.hid h
  clear h hb
  refine hK.out _ _ HBS.out (fun hHeld => ?_)
  clear hK K
  try dsimp only [Act.put]
  try simp only [List.setIfInBounds_toArray, List.set_cons_zero, List.set_cons_succ]
  refine wpAnyH_ready (rs := [15]) (by kernel_rfl) (by simp) (AllReadyH.cons (op_of rfl) (fun K hK => ?_) AllReadyH.nil)
  go_simp
  refine (mul_num (.agg #[.slice A2 n2 c2]) (.agg #[.slice A4 n4 c4]) q t _ _ _ (Hq.out.below HBS.out) (Ht.out.below HBS.out) Bq.out Bt.out (by omega) (by omega)).mono ?_
  rintro en wn ⟨v, rfl, h, hb⟩
  obtain ⟨D15, m15, d15, rfl⟩ := h.shape
  have HBS := Lib.hid (HBS.out.trans (hb.mono HBS.out.size))
  have HP4 := Lib.hid (HP4.out.below hb)
  have HP9 := Lib.hid (HP9.out.below hb)
  have HP10 := Lib.hid (HP10.out.below hb)
  have HRB := Lib.hid (HRB.out.below hb HRB.out.lt)
  have HP15 := Lib.hid h
  clear h hb
  refine hK.out _ _ HBS.out (fun hHeld => ?_)
  clear hK K
  try dsimp only [Act.put]
  try simp only [List.setIfInBounds_toArray, List.set_cons_zero, List.set_cons_succ]
  refine wpAnyH_take (i := 16) (v := ?_) (op_of rfl) (by kernel_rfl) (by kernel_rfl) (by kernel_rfl) (fun _ _ _ h => h) (Or.inl ⟨by rfl, fun W hS => ?_⟩) (by assumption) ?_
  rotate_left
  · dsimp only at hS
    go_simp
    try with_reducible rfl
  try dsimp only [Act.put]
  try simp only [List.setIfInBounds_toArray, List.set_cons_zero, List.set_cons_succ]
  refine wpAnyH_ready (rs := [17]) (by kernel_rfl) (by simp) (AllReadyH.cons (op_of rfl) (fun K hK => ?_) AllReadyH.nil)
  go_simp
  refine (low_any (j := j + j + 1) D10 D15 m10 d10 m15 d15 (p * t + r * q) (q * t) _ _ _ HP10.out HP15.out HNU.out HDE.out hd0 (by omega)).mono ?_
  rintro en wn ⟨E1, i1, e1, E2, i2, e2, rfl, ⟨L5, hq1⟩, ⟨L6, hq2⟩, hb⟩
  have HBS := Lib.hid (HBS.out.trans (hb.mono HBS.out.size))
  have HRB := Lib.hid (HRB.out.below hb HRB.out.lt)
  have HQ1 := Lib.hid hq1
  have HQ2 := Lib.hid hq2
  clear hq1 hq2 hb
  refine hK.out _ _ HBS.out (fun hHeld => ?_)
  clear hK K
  try dsimp only [Act.put]
  try simp only [List.setIfInBounds_toArray, List.set_cons_zero, List.set_cons_succ]
  refine wpAnyH_ready (rs := [18]) (by kernel_rfl) (by simp) (AllReadyH.cons (op_of rfl) (fun K hK => ?_) AllReadyH.nil)
  have k0 := HRB.out.cell 0
  have k1 := HRB.out.cell 1
  have f0 := HRB.out.frozen 0
  have f1 := HRB.out.frozen 1
  go_simp
  have HBS := Lib.hid ((HBS.out.setCell (p := ⟨w.heap.size + 1 + 1, 0, none⟩) hsz (.slice E1 i1 e1)).setCell (p := ⟨w.heap.size + 1 + 1, 1, none⟩) hsz (.slice E2 i2 e2))
  refine hK.out _ _ HBS.out (fun hHeld => ?_)
  clear hK K
  try dsimp only [Act.put]
  try simp only [List.setIfInBounds_toArray, List.set_cons_zero, List.set_cons_succ]
  refine wpAnyH_done (by kernel_rfl) ?_ _
  have k1' : (wn.setCell ⟨w.heap.size + 1 + 1, 0, none⟩ (.slice E1 i1 e1)).cell? ⟨w.heap.size + 1 + 1, 1, none⟩ = some (.slice none 0 0) := (World.cell?_setCell_other _ _ _ _ (by intro e; injection e; omega)).trans k1
  have hp := put_Q HRB.out (.slice E1 i1 e1) (.slice E2 i2 e2)
  go_wp2_with fail
  exact bodyPost_ret (v := .agg #[.slice E1 i1 e1, .slice E2 i2 e2]) (by simp [results, Tryd.results10, go_sem, hp.cell 0, hp.cell 1]) rfl ⟨_, _, _, _, _, _, rfl, ⟨_, (HQ1.out.setSi k0).setSi k1'⟩, ⟨_, (HQ2.out.setSi k0).setSi k1'⟩, hbb.trans (HBS.out.mono hbb.size)⟩

set_option maxHeartbeats 8000000 in
theorem sub4_r {j : Nat} (A1 A2 A3 A4 : Option Addr) (n1 c1 n2 c2 n3 c3 n4 c4 p q r t L1 L2 L3 L4 : Nat) (w : World) (h1 : Num w L1 (.agg #[.slice A1 n1 c1]) p) (h2 : Num w L2 (.agg #[.slice A2 n2 c2]) q) (h3 : Num w L3 (.agg #[.slice A3 n3 c3]) r) (h4 : Num w L4 (.agg #[.slice A4 n4 c4]) t)
    (bp : p < 65536 ^ j) (bq : q < 65536 ^ j) (br : r < 65536 ^ j) (bt : t < 65536 ^ j) (hd0 : 0 < q * t) (hle : r * q ≤ p * t) (hj : j ≤ 900) :
    Calls Tryd.prog 17 #[.agg #[.slice A1 n1 c1, .slice A2 n2 c2], .agg #[.slice A3 n3 c3, .slice A4 n4 c4]] w (RetD w ((p * t - r * q) / Nat.gcd (p * t - r * q) (q * t)) ((q * t) / Nat.gcd (p * t - r * q) (q * t))) := by
  have hbb := b2 w (.cells #[.slice A1 n1 c1, .slice A2 n2 c2] 32) (.cells #[.slice A3 n3 c3, .slice A4 n4 c4] 32)
  have q1 := (Blk.new w 32 #[.slice A1 n1 c1, .slice A2 n2 c2]).alloc (.cells #[.slice A3 n3 c3, .slice A4 n4 c4] 32)
  have q2 := Blk.new (w.alloc (.cells #[.slice A1 n1 c1, .slice A2 n2 c2] 32)) 32 #[.slice A3 n3 c3, .slice A4 n4 c4]
  rw [World.size_alloc] at q2
  have hsz0 : ((w.alloc (.cells #[.slice A1 n1 c1, .slice A2 n2 c2] 32)).alloc (.cells #[.slice A3 n3 c3, .slice A4 n4 c4] 32)).heap.size = w.heap.size + 1 + 1 := by simp
  obtain ⟨Wb, hWb⟩ : ∃ Wb, (w.alloc (.cells #[.slice A1 n1 c1, .slice A2 n2 c2] 32)).alloc (.cells #[.slice A3 n3 c3, .slice A4 n4 c4] 32) = Wb := ⟨_, rfl⟩
  rw [hWb] at hbb q1 q2 hsz0
  have x1 : Wb.cell? ⟨w.heap.size, 0, none⟩ = some (.slice A1 n1 c1) := q1.cell 0
  have x2 : Wb.cell? ⟨w.heap.size, 1, none⟩ = some (.slice A2 n2 c2) := q1.cell 1
  have x3 : Wb.cell? ⟨w.heap.size + 1, 0, none⟩ = some (.slice A3 n3 c3) := q2.cell 0
  have x4 : Wb.cell? ⟨w.heap.size + 1, 1, none⟩ = some (.slice A4 n4 c4) := q2.cell 1
  have Hp := Lib.hid (h1.below hbb)
  have Hq := Lib.hid (h2.below hbb)
  have Hr := Lib.hid (h3.below hbb)
  have Ht := Lib.hid (h4.below hbb)
  have Bp := Lib.hid bp
  have Bq := Lib.hid bq
  have Br := Lib.hid br
  have Bt := Lib.hid bt
  have hsz : Wb.heap.size ≤ w.heap.size + 1 + 1 := by omega
  have HNU : Hid (p * t - r * q < 65536 ^ (j + j + 1)) := Lib.hid (Nat.lt_of_le_of_lt (Nat.sub_le _ _) (lt_up (mul_lt2 bp bt)))
  have HDE : Hid (q * t < 65536 ^ (j + j + 1)) := Lib.hid (lt_up (mul_lt2 bq bt))
  have hrb := Blk.new Wb 32 #[.slice none 0 0, .slice none 0 0]
  rw [hsz0] at hrb
  have HRB : Hid (Blk (Wb.alloc (.cells #[.slice none 0 0, .slice none 0 0] 32)).drew (w.heap.size + 1 + 1) 32 #[.slice none 0 0, .slice none 0 0]) := Lib.hid hrb
  have hst : Below Wb.heap.size Wb (Wb.alloc (.cells #[.slice none 0 0, .slice none 0 0] 32)).drew := (b1 Wb _).drew
  have HBS := Lib.hid hst
  clear hrb
  clear h1 h2 h3 h4 bp bq br bt q1 q2
  go_enter Tryd.func17, Tryd.ntmps17
  go_wp2_with fail
  clear hWb
  refine wp_region_held_drew (S := fun W => Below Wb.heap.size Wb W) (by kernel_rfl) hst (fun hHeld => ?_)
  obtain ⟨wn, hwn⟩ : ∃ W, (Wb.alloc (.cells #[.slice none 0 0, .slice none 0 0] 32)).drew = W := ⟨_, rfl⟩
  rw [hwn] at HBS hHeld HRB
  rw [hwn]
  clear hwn
  refine wpAnyH_take (i := 0) (v := ?_) (op_of rfl) (by kernel_rfl) (by kernel_rfl) (by kernel_rfl) (fun _ _ _ h => h) (Or.inl ⟨by rfl, fun W hS => ?_⟩) (by assumption) ?_
  rotate_left
  · dsimp only at hS
    go_simp
    try with_reducible rfl
  try dsimp only [Act.put]
  try simp only [List.setIfInBounds_toArray, List.set_cons_zero, List.set_cons_succ]
  refine wpAnyH_take (i := 1) (v := ?_) (op_of rfl) (by kernel_rfl) (by kernel_rfl) (by kernel_rfl) (fun _ _ _ h => h) (Or.inl ⟨by rfl, fun W hS => ?_⟩) (by assumption) ?_
  rotate_left
  · dsimp only at hS
    have z := (hS.cell (World.block_lt_of_cell? _ _ x1)).trans x1
    go_simp
    try with_reducible rfl
  try dsimp only [Act.put]
  try simp only [List.setIfInBounds_toArray, List.set_cons_zero, List.set_cons_succ]
  refine wpAnyH_take (i := 2) (v := ?_) (op_of rfl) (by kernel_rfl) (by kernel_rfl) (by kernel_rfl) (fun _ _ _ h => h) (Or.inl ⟨by rfl, fun W hS => ?_⟩) (by assumption) ?_
  rotate_left
  · dsimp only at hS
    go_simp
    try with_reducible rfl
  try dsimp only [Act.put]
  try simp only [List.setIfInBounds_toArray, List.set_cons_zero, List.set_cons_succ]
  refine wpAnyH_take (i := 3) (v := ?_) (op_of rfl) (by kernel_rfl) (by kernel_rfl) (by kernel_rfl) (fun _ _ _ h => h) (Or.inl ⟨by rfl, fun W hS => ?_⟩) (by assumption) ?_
  rotate_left
  · dsimp only at hS
    have z := (hS.cell (World.block_lt_of_cell? _ _ x4)).trans x4
    go_simp
    try with_reducible rfl
  try dsimp only [Act.put]
  try simp only [List.setIfInBounds_toArray, List.set_cons_zero, List.set_cons_succ]
  refine wpAnyH_take (i := 5) (v := ?_) (op_of rfl) (by kernel_rfl) (by kernel_rfl) (by kernel_rfl) (fun _ _ _ h => h) (Or.inl ⟨by rfl, fun W hS => ?_⟩) (by assumption) ?_
  rotate_left
  · dsimp only at hS
    go_simp
    try with_reducible rfl
  try dsimp only [Act.put]
  try simp only [List.setIfInBounds_toArray, List.set_cons_zero, List.set_cons_succ]
  refine wpAnyH_take (i := 6) (v := ?_) (op_of rfl) (by kernel_rfl) (by kernel_rfl) (by kernel_rfl) (fun _ _ _ h => h) (Or.inl ⟨by rfl, fun W hS => ?_⟩) (by assumption) ?_
  rotate_left
  · dsimp only at hS
    have z := (hS.cell (World.block_lt_of_cell? _ _ x3)).trans x3
    go_simp
    try with_reducible rfl
  try dsimp only [Act.put]
  try simp only [List.setIfInBounds_toArray, List.set_cons_zero, List.set_cons_succ]
  refine wpAnyH_take (i := 7) (v := ?_) (op_of rfl) (by kernel_rfl) (by kernel_rfl) (by kernel_rfl) (fun _ _ _ h => h) (Or.inl ⟨by rfl, fun W hS => ?_⟩) (by assumption) ?_
  rotate_left
  · dsimp only at hS
    go_simp
    try with_reducible rfl
  try dsimp only [Act.put]
  try simp only [List.setIfInBounds_toArray, List.set_cons_zero, List.set_cons_succ]
  refine wpAnyH_take (i := 8) (v := ?_) (op_of rfl) (by kernel_rfl) (by kernel_rfl) (by kernel_rfl) (fun _ _ _ h => h) (Or.inl ⟨by rfl, fun W hS => ?_⟩) (by assumption) ?_
  rotate_left
  · dsimp only at hS
    have z := (hS.cell (World.block_lt_of_cell? _ _ x2)).trans x2
    go_simp
    try with_reducible rfl
  try dsimp only [Act.put]
  try simp only [List.setIfInBounds_toArray, List.set_cons_zero, List.set_cons_succ]
  refine wpAnyH_take (i := 11) (v := ?_) (op_of rfl) (by kernel_rfl) (by kernel_rfl) (by kernel_rfl) (fun _ _ _ h => h) (Or.inl ⟨by rfl, fun W hS => ?_⟩) (by assumption) ?_
  rotate_left
  · dsimp only at hS
    go_simp
    try with_reducible rfl
  try dsimp only [Act.put]
  try simp only [List.setIfInBounds_toArray, List.set_cons_zero, List.set_cons_succ]
  refine wpAnyH_take (i := 12) (v := ?_) (op_of rfl) (by kernel_rfl) (by kernel_rfl) (by kernel_rfl) (fun _ _ _ h => h) (Or.inl ⟨by rfl, fun W hS => ?_⟩) (by assumption) ?_
  rotate_left
  · dsimp only at hS
    have z := (hS.cell (World.block_lt_of_cell? _ _ x2)).trans x2
    go_simp
    try with_reducible rfl
  try dsimp only [Act.put]
  try simp only [List.setIfInBounds_toArray, List.set_cons_zero, List.set_cons_succ]
  refine wpAnyH_take (i := 13) (v := ?_) (op_of rfl) (by kernel_rfl) (by kernel_rfl) (by kernel_rfl) (fun _ _ _ h => h) (Or.inl ⟨by rfl, fun W hS => ?_⟩) (by assumption) ?_
  rotate_left
  · dsimp only at hS
    go_simp
    try with_reducible rfl
  try dsimp only [Act.put]
  try simp only [List.setIfInBounds_toArray, List.set_cons_zero, List.set_cons_succ]
  refine wpAnyH_take (i := 14) (v := ?_) (op_of rfl) (by kernel_rfl) (by kernel_rfl) (by kernel_rfl) (fun _ _ _ h => h) (Or.inl ⟨by rfl, fun W hS => ?_⟩) (by assumption) ?_
  rotate_left
  · dsimp only at hS
    have z := (hS.cell (World.block_lt_of_cell? _ _ x4)).trans x4
    go_simp
    try with_reducible rfl
  try dsimp only [Act.put]
  try simp only [List.setIfInBounds_toArray, List.set_cons_zero, List.set_cons_succ]
  refine wpAnyH_ready (rs := [4]) (by kernel_rfl) (by simp) (AllReadyH.cons (op_of rfl) (fun K hK => ?_) AllReadyH.nil)
  go_simp
  refine (mul_num (.agg #[.slice A1 n1 c1]) (.agg #[.slice A4 n4 c4]) p t _ _ _ (Hp.out.below HBS.out) (Ht.out.below HBS.out) Bp.out Bt.out (by omega) (by omega)).mono ?_
  rintro en wn ⟨v, rfl, h, hb⟩
  obtain ⟨D4, m4, d4, rfl⟩ := h.shape
  have HBS := Lib.hid (HBS.out.trans (hb.mono HBS.out.size))
  have HRB := Lib.hid (HRB.out.below hb HRB.out.lt)
  have HP4 := Lib.hid h
  clear h hb
  refine hK.out _ _ HBS.out (fun hHeld => ?_)
  clear hK K
  try dsimp only [Act.put]
  try simp only [List.setIfInBounds_toArray, List.set_cons_zero, List.set_cons_succ]
  refine wpAnyH_ready (rs := [9]) (by kernel_rfl) (by simp) (AllReadyH.cons (op_of rfl) (fun K hK => ?_) AllReadyH.nil)
  go_simp
  refine (mul_num (.agg #[.slice A3 n3 c3]) (.agg #[.slice A2 n2 c2]) r q _ _ _ (Hr.out.below HBS.out) (Hq.out.below HBS.out) Br.out Bq.out (by omega) (by omega)).mono ?_
  rintro en wn ⟨v, rfl, h, hb⟩
  obtain ⟨D9, m9, d9, rfl⟩ := h.shape
  have HBS := Lib.hid (HBS.out.trans (hb.mono HBS.out.size))
  have HP4 := Lib.hid (HP4.out.below hb)
  have HRB := Lib.hid (HRB.out.below hb HRB.out.lt)
  have HP9 := Lib.hid h
  clear h hb
  refine hK.out _ _ HBS.out (fun hHeld => ?_)
  clear hK K
  try dsimp only [Act.put]
  try simp only [List.setIfInBounds_toArray, List.set_cons_zero, List.set_cons_succ]
  refine wpAnyH_ready (rs := [10]) (by kernel_rfl) (by simp) (AllReadyH.cons (op_of rfl) (fun K hK => ?_) AllReadyH.nil)
  go_simp
  refine (sub_num (.agg #[.slice D4 m4 d4]) (.agg #[.slice D9 m9 d9]) (p * t) (r * q) _ _ _ HP4.out HP9.out (mul_lt2 Bp.out Bt.out) hle (by omega)).mono ?_
  rintro en wn ⟨v, rfl, h, hb⟩
  obtain ⟨D10, m10, d10, rfl⟩ := h.shape
  have HBS := Lib.hid (HBS.out.trans (hb.mono HBS.out.size))
  have HP4 := Lib.hid (HP4.out.below hb)
  have HP9 := Lib.hid (HP9.out.below hb)
  have HRB := Lib.hid (HRB.out.below hb HRB.out.lt)
  have HP10 := Lib.hid h
  clear h hb
  refine hK.out _ _ HBS.out (fun hHeld => ?_)
  clear hK K
  try dsimp only [Act.put]
  try simp only [List.setIfInBounds_toArray, List.set_cons_zero, List.set_cons_succ]
  refine wpAnyH_ready (rs := [15]) (by kernel_rfl) (by simp) (AllReadyH.cons (op_of rfl) (fun K hK => ?_) AllReadyH.nil)
  go_simp
  refine (mul_num (.agg #[.slice A2 n2 c2]) (.agg #[.slice A4 n4 c4]) q t _ _ _ (Hq.out.below HBS.out) (Ht.out.below HBS.out) Bq.out Bt.out (by omega) (by omega)).mono ?_
  rintro en wn ⟨v, rfl, h, hb⟩
  obtain ⟨D15, m15, d15, rfl⟩ := h.shape
  have HBS := Lib.hid (HBS.out.trans (hb.mono HBS.out.size))
  have HP4 := Lib.hid (HP4.out.below hb)
  have HP9 := Lib.hid (HP9.out.below hb)
  have HP10 := Lib.hid (HP10.out.below hb)
  have HRB := Lib.hid (HRB.out.below hb HRB.out.lt)
  have HP15 := Lib.hid h
  clear h hb
  refine hK.out _ _ HBS.out (fun hHeld => ?_)
  clear hK K
  try dsimp only [Act.put]
  try simp only [List.setIfInBounds_toArray, List.set_cons_zero, List.set_cons_succ]
  refine wpAnyH_take (i := 16) (v := ?_) (op_of rfl) (by kernel_rfl) (by kernel_rfl) (by kernel_rfl) (fun _ _ _ h => h) (Or.inl ⟨by rfl, fun W hS => ?_⟩) (by assumption) ?_
  rotate_left
  · dsimp only at hS
    go_simp
    try with_reducible rfl
  try dsimp only [Act.put]
  try simp only [List.setIfInBounds_toArray, List.set_cons_zero, List.set_cons_succ]
  refine wpAnyH_ready (rs := [17]) (by kernel_rfl) (by simp) (AllReadyH.cons (op_of rfl) (fun K hK => ?_) AllReadyH.nil)
  go_simp
  refine (low_any (j := j + j + 1) D10 D15 m10 d10 m15 d15 (p * t - r * q) (q * t) _ _ _ HP10.out HP15.out HNU.out HDE.out hd0 (by omega)).mono ?_
  rintro en wn ⟨E1, i1, e1, E2, i2, e2, rfl, ⟨L5, hq1⟩, ⟨L6, hq2⟩, hb⟩
  have HBS := Lib.hid (HBS.out.trans (hb.mono HBS.out.size))
  have HRB := Lib.hid (HRB.out.below hb HRB.out.lt)
  have HQ1 := Lib.hid hq1
  have HQ2 := Lib.hid hq2
  clear hq1 hq2 hb
  refine hK.out _ _ HBS.out (fun hHeld => ?_)
  clear hK K
  try dsimp only [Act.put]
  try simp only [List.setIfInBounds_toArray, List.set_cons_zero, List.set_cons_succ]
  refine wpAnyH_ready (rs := [18]) (by kernel_rfl) (by simp) (AllReadyH.cons (op_of rfl) (fun K hK => ?_) AllReadyH.nil)
  have k0 := HRB.out.cell 0
  have k1 := HRB.out.cell 1
  have f0 := HRB.out.frozen 0
  have f1 := HRB.out.frozen 1
  go_simp
  have HBS := Lib.hid ((HBS.out.setCell (p := ⟨w.heap.size + 1 + 1, 0, none⟩) hsz (.slice E1 i1 e1)).setCell (p := ⟨w.heap.size + 1 + 1, 1, none⟩) hsz (.slice E2 i2 e2))
  refine hK.out _ _ HBS.out (fun hHeld => ?_)
  clear hK K
  try dsimp only [Act.put]
  try simp only [List.setIfInBounds_toArray, List.set_cons_zero, List.set_cons_succ]
  refine wpAnyH_done (by kernel_rfl) ?_ _
  have k1' : (wn.setCell ⟨w.heap.size + 1 + 1, 0, none⟩ (.slice E1 i1 e1)).cell? ⟨w.heap.size + 1 + 1, 1, none⟩ = some (.slice none 0 0) := (World.cell?_setCell_other _ _ _ _ (by intro e; injection e; omega)).trans k1
  have hp := put_Q HRB.out (.slice E1 i1 e1) (.slice E2 i2 e2)
  go_wp2_with fail
  exact bodyPost_ret (v := .agg #[.slice E1 i1 e1, .slice E2 i2 e2]) (by simp [results, Tryd.results17, go_sem, hp.cell 0, hp.cell 1]) rfl ⟨_, _, _, _, _, _, rfl, ⟨_, (HQ1.out.setSi k0).setSi k1'⟩, ⟨_, (HQ2.out.setSi k0).setSi k1'⟩, hbb.trans (HBS.out.mono hbb.size)⟩

set_option maxHeartbeats 8000000 in
theorem mul4_r {j : Nat} (A1 A2 A3 A4 : Option Addr) (n1 c1 n2 c2 n3 c3 n4 c4 p q r t L1 L2 L3 L4 : Nat) (w : World) (h1 : Num w L1 (.agg #[.slice A1 n1 c1]) p) (h2 : Num w L2 (.agg #[.slice A2 n2 c2]) q) (h3 : Num w L3 (.agg #[.slice A3 n3 c3]) r) (h4 : Num w L4 (.agg #[.slice A4 n4 c4]) t)
    (bp : p < 65536 ^ j) (bq : q < 65536 ^ j) (br : r < 65536 ^ j) (bt : t < 65536 ^ j) (hd0 : 0 < q * t) (hj : j ≤ 900) :
    Calls Tryd.prog 12 #[.agg #[.slice A1 n1 c1, .slice A2 n2 c2], .agg #[.slice A3 n3 c3, .slice A4 n4 c4]] w (RetD w ((p * r) / Nat.gcd (p * r) (q * t)) ((q * t) / Nat.gcd (p * r) (q * t))) := by
  have hbb := b2 w (.cells #[.slice A1 n1 c1, .slice A2 n2 c2] 32) (.cells #[.slice A3 n3 c3, .slice A4 n4 c4] 32)
  have q1 := (Blk.new w 32 #[.slice A1 n1 c1, .slice A2 n2 c2]).alloc (.cells #[.slice A3 n3 c3, .slice A4 n4 c4] 32)
  have q2 := Blk.new (w.alloc (.cells #[.slice A1 n1 c1, .slice A2 n2 c2] 32)) 32 #[.slice A3 n3 c3, .slice A4 n4 c4]
  rw [World.size_alloc] at q2
  have hsz0 : ((w.alloc (.cells #[.slice A1 n1 c1, .slice A2 n2 c2] 32)).alloc (.cells #[.slice A3 n3 c3, .slice A4 n4 c4] 32)).heap.size = w.heap.size + 1 + 1 := by simp
  obtain ⟨Wb, hWb⟩ : ∃ Wb, (w.alloc (.cells #[.slice A1 n1 c1, .slice A2 n2 c2] 32)).alloc (.cells #[.slice A3 n3 c3, .slice A4 n4 c4] 32) = Wb := ⟨_, rfl⟩
  rw [hWb] at hbb q1 q2 hsz0
  have x1 : Wb.cell? ⟨w.heap.size, 0, none⟩ = some (.slice A1 n1 c1) := q1.cell 0
  have x2 : Wb.cell? ⟨w.heap.size, 1, none⟩ = some (.slice A2 n2 c2) := q1.cell 1
  have x3 : Wb.cell? ⟨w.heap.size + 1, 0, none⟩ = some (.slice A3 n3 c3) := q2.cell 0
  have x4 : Wb.cell? ⟨w.heap.size + 1, 1, none⟩ = some (.slice A4 n4 c4) := q2.cell 1
  have Hp := Lib.hid (h1.below hbb)
  have Hq := Lib.hid (h2.below hbb)
  have Hr := Lib.hid (h3.below hbb)
  have Ht := Lib.hid (h4.below hbb)
  have Bp := Lib.hid bp
  have Bq := Lib.hid bq
  have Br := Lib.hid br
  have Bt := Lib.hid bt
  have hsz : Wb.heap.size ≤ w.heap.size + 1 + 1 := by omega
  have HNU : Hid (p * r < 65536 ^ (j + j + 1)) := Lib.hid (lt_up (mul_lt2 bp br))
  have HDE : Hid (q * t < 65536 ^ (j + j + 1)) := Lib.hid (lt_up (mul_lt2 bq bt))
  have hrb := Blk.new Wb 32 #[.slice none 0 0, .slice none 0 0]
  rw [hsz0] at hrb
  have HRB : Hid (Blk (Wb.alloc (.cells #[.slice none 0 0, .slice none 0 0] 32)).drew (w.heap.size + 1 + 1) 32 #[.slice none 0 0, .slice none 0 0]) := Lib.hid hrb
  have hst : Below Wb.heap.size Wb (Wb.alloc (.cells #[.slice none 0 0, .slice none 0 0] 32)).drew := (b1 Wb _).drew
  have HBS := Lib.hid hst
  clear hrb
  clear h1 h2 h3 h4 bp bq br bt q1 q2
  go_enter Tryd.func12, Tryd.ntmps12
  go_wp2_with fail
  clear hWb
  refine wp_region_held_drew (S := fun W => Below Wb.heap.size Wb W) (by kernel_rfl) hst (fun hHeld => ?_)
  obtain ⟨wn, hwn⟩ : ∃ W, (Wb.alloc (.cells #[.slice none 0 0, .slice none 0 0] 32)).drew = W := ⟨_, rfl⟩
  rw [hwn] at HBS hHeld HRB
  rw [hwn]
  clear hwn
  refine wpAnyH_take (i := 0) (v := ?_) (op_of rfl) (by kernel_rfl) (by kernel_rfl) (by kernel_rfl) (fun _ _ _ h => h) (Or.inl ⟨by rfl, fun W hS => ?_⟩) (by assumption) ?_
  rotate_left
  · dsimp only at hS
    go_simp
    try with_reducible rfl
  try dsimp only [Act.put]
  try simp only [List.setIfInBounds_toArray, List.set_cons_zero, List.set_cons_succ]
  refine wpAnyH_take (i := 1) (v := ?_) (op_of rfl) (by kernel_rfl) (by kernel_rfl) (by kernel_rfl) (fun _ _ _ h => h) (Or.inl ⟨by rfl, fun W hS => ?_⟩) (by assumption) ?_
  rotate_left
  · dsimp only at hS
    have z := (hS.cell (World.block_lt_of_cell? _ _ x1)).trans x1
    go_simp
    try with_reducible rfl
  try dsimp only [Act.put]
  try simp only [List.setIfInBounds_toArray, List.set_cons_zero, List.set_cons_succ]
  refine wpAnyH_take (i := 2) (v := ?_) (op_of rfl) (by kernel_rfl) (by kernel_rfl) (by kernel_rfl) (fun _ _ _ h => h) (Or.inl ⟨by rfl, fun W hS => ?_⟩) (by assumption) ?_
  rotate_left
  · dsimp only at hS
    go_simp
    try with_reducible rfl
  try dsimp only [Act.put]
  try simp only [List.setIfInBounds_toArray, List.set_cons_zero, List.set_cons_succ]
  refine wpAnyH_take (i := 3) (v := ?_) (op_of rfl) (by kernel_rfl) (by kernel_rfl) (by kernel_rfl) (fun _ _ _ h => h) (Or.inl ⟨by rfl, fun W hS => ?_⟩) (by assumption) ?_
  rotate_left
  · dsimp only at hS
    have z := (hS.cell (World.block_lt_of_cell? _ _ x3)).trans x3
    go_simp
    try with_reducible rfl
  try dsimp only [Act.put]
  try simp only [List.setIfInBounds_toArray, List.set_cons_zero, List.set_cons_succ]
  refine wpAnyH_take (i := 5) (v := ?_) (op_of rfl) (by kernel_rfl) (by kernel_rfl) (by kernel_rfl) (fun _ _ _ h => h) (Or.inl ⟨by rfl, fun W hS => ?_⟩) (by assumption) ?_
  rotate_left
  · dsimp only at hS
    go_simp
    try with_reducible rfl
  try dsimp only [Act.put]
  try simp only [List.setIfInBounds_toArray, List.set_cons_zero, List.set_cons_succ]
  refine wpAnyH_take (i := 6) (v := ?_) (op_of rfl) (by kernel_rfl) (by kernel_rfl) (by kernel_rfl) (fun _ _ _ h => h) (Or.inl ⟨by rfl, fun W hS => ?_⟩) (by assumption) ?_
  rotate_left
  · dsimp only at hS
    have z := (hS.cell (World.block_lt_of_cell? _ _ x2)).trans x2
    go_simp
    try with_reducible rfl
  try dsimp only [Act.put]
  try simp only [List.setIfInBounds_toArray, List.set_cons_zero, List.set_cons_succ]
  refine wpAnyH_take (i := 7) (v := ?_) (op_of rfl) (by kernel_rfl) (by kernel_rfl) (by kernel_rfl) (fun _ _ _ h => h) (Or.inl ⟨by rfl, fun W hS => ?_⟩) (by assumption) ?_
  rotate_left
  · dsimp only at hS
    go_simp
    try with_reducible rfl
  try dsimp only [Act.put]
  try simp only [List.setIfInBounds_toArray, List.set_cons_zero, List.set_cons_succ]
  refine wpAnyH_take (i := 8) (v := ?_) (op_of rfl) (by kernel_rfl) (by kernel_rfl) (by kernel_rfl) (fun _ _ _ h => h) (Or.inl ⟨by rfl, fun W hS => ?_⟩) (by assumption) ?_
  rotate_left
  · dsimp only at hS
    have z := (hS.cell (World.block_lt_of_cell? _ _ x4)).trans x4
    go_simp
    try with_reducible rfl
  try dsimp only [Act.put]
  try simp only [List.setIfInBounds_toArray, List.set_cons_zero, List.set_cons_succ]
  refine wpAnyH_ready (rs := [4]) (by kernel_rfl) (by simp) (AllReadyH.cons (op_of rfl) (fun K hK => ?_) AllReadyH.nil)
  go_simp
  refine (mul_num (.agg #[.slice A1 n1 c1]) (.agg #[.slice A3 n3 c3]) p r _ _ _ (Hp.out.below HBS.out) (Hr.out.below HBS.out) Bp.out Br.out (by omega) (by omega)).mono ?_
  rintro en wn ⟨v, rfl, h, hb⟩
  obtain ⟨D4, m4, d4, rfl⟩ := h.shape
  have HBS := Lib.hid (HBS.out.trans (hb.mono HBS.out.size))
  have HRB := Lib.hid (HRB.out.below hb HRB.out.lt)
  have HP4 := Lib.hid h
  clear h hb
  refine hK.out _ _ HBS.out (fun hHeld => ?_)
  clear hK K
  try dsimp only [Act.put]
  try simp only [List.setIfInBounds_toArray, List.set_cons_zero, List.set_cons_succ]
  refine wpAnyH_ready (rs := [9]) (by kernel_rfl) (by simp) (AllReadyH.cons (op_of rfl) (fun K hK => ?_) AllReadyH.nil)
  go_simp
  refine (mul_num (.agg #[.slice A2 n2 c2]) (.agg #[.slice A4 n4 c4]) q t _ _ _ (Hq.out.below HBS.out) (Ht.out.below HBS.out) Bq.out Bt.out (by omega) (by omega)).mono ?_
  rintro en wn ⟨v, rfl, h, hb⟩
  obtain ⟨D9, m9, d9, rfl⟩ := h.shape
  have HBS := Lib.hid (HBS.out.trans (hb.mono HBS.out.size))
  have HP4 := Lib.hid (HP4.out.below hb)
  have HRB := Lib.hid (HRB.out.below hb HRB.out.lt)
  have HP9 := Lib.hid h
  clear h hb
  refine hK.out _ _ HBS.out (fun hHeld => ?_)
  clear hK K
  try dsimp only [Act.put]
  try simp only [List.setIfInBounds_toArray, List.set_cons_zero, List.set_cons_succ]
  refine wpAnyH_take (i := 10) (v := ?_) (op_of rfl) (by kernel_rfl) (by kernel_rfl) (by kernel_rfl) (fun _ _ _ h => h) (Or.inl ⟨by rfl, fun W hS => ?_⟩) (by assumption) ?_
  rotate_left
  · dsimp only at hS
    go_simp
    try with_reducible rfl
  try dsimp only [Act.put]
  try simp only [List.setIfInBounds_toArray, List.set_cons_zero, List.set_cons_succ]
  refine wpAnyH_ready (rs := [11]) (by kernel_rfl) (by simp) (AllReadyH.cons (op_of rfl) (fun K hK => ?_) AllReadyH.nil)
  go_simp
  refine (low_any (j := j + j + 1) D4 D9 m4 d4 m9 d9 (p * r) (q * t) _ _ _ HP4.out HP9.out HNU.out HDE.out hd0 (by omega)).mono ?_
  rintro en wn ⟨E1, i1, e1, E2, i2, e2, rfl, ⟨L5, hq1⟩, ⟨L6, hq2⟩, hb⟩
  have HBS := Lib.hid (HBS.out.trans (hb.mono HBS.out.size))
  have HRB := Lib.hid (HRB.out.below hb HRB.out.lt)
  have HQ1 := Lib.hid hq1
  have HQ2 := Lib.hid hq2
  clear hq1 hq2 hb
  refine hK.out _ _ HBS.out (fun hHeld => ?_)
  clear hK K
  try dsimp only [Act.put]
  try simp only [List.setIfInBounds_toArray, List.set_cons_zero, List.set_cons_succ]
  refine wpAnyH_ready (rs := [12]) (by kernel_rfl) (by simp) (AllReadyH.cons (op_of rfl) (fun K hK => ?_) AllReadyH.nil)
  have k0 := HRB.out.cell 0
  have k1 := HRB.out.cell 1
  have f0 := HRB.out.frozen 0
  have f1 := HRB.out.frozen 1
  go_simp
  have HBS := Lib.hid ((HBS.out.setCell (p := ⟨w.heap.size + 1 + 1, 0, none⟩) hsz (.slice E1 i1 e1)).setCell (p := ⟨w.heap.size + 1 + 1, 1, none⟩) hsz (.slice E2 i2 e2))
  refine hK.out _ _ HBS.out (fun hHeld => ?_)
  clear hK K
  try dsimp only [Act.put]
  try simp only [List.setIfInBounds_toArray, List.set_cons_zero, List.set_cons_succ]
  refine wpAnyH_done (by kernel_rfl) ?_ _
  have k1' : (wn.setCell ⟨w.heap.size + 1 + 1, 0, none⟩ (.slice E1 i1 e1)).cell? ⟨w.heap.size + 1 + 1, 1, none⟩ = some (.slice none 0 0) := (World.cell?_setCell_other _ _ _ _ (by intro e; injection e; omega)).trans k1
  have hp := put_Q HRB.out (.slice E1 i1 e1) (.slice E2 i2 e2)
  go_wp2_with fail
  exact bodyPost_ret (v := .agg #[.slice E1 i1 e1, .slice E2 i2 e2]) (by simp [results, Tryd.results12, go_sem, hp.cell 0, hp.cell 1]) rfl ⟨_, _, _, _, _, _, rfl, ⟨_, (HQ1.out.setSi k0).setSi k1'⟩, ⟨_, (HQ2.out.setSi k0).setSi k1'⟩, hbb.trans (HBS.out.mono hbb.size)⟩

set_option maxHeartbeats 8000000 in
theorem div4_r {j : Nat} (A1 A2 A3 A4 : Option Addr) (n1 c1 n2 c2 n3 c3 n4 c4 p q r t L1 L2 L3 L4 : Nat) (w : World) (h1 : Num w L1 (.agg #[.slice A1 n1 c1]) p) (h2 : Num w L2 (.agg #[.slice A2 n2 c2]) q) (h3 : Num w L3 (.agg #[.slice A3 n3 c3]) r) (h4 : Num w L4 (.agg #[.slice A4 n4 c4]) t)
    (bp : p < 65536 ^ j) (bq : q < 65536 ^ j) (br : r < 65536 ^ j) (bt : t < 65536 ^ j) (hd0 : 0 < q * r) (hj : j ≤ 900) :
    Calls Tryd.prog 21 #[.agg #[.slice A1 n1 c1, .slice A2 n2 c2], .agg #[.slice A3 n3 c3, .slice A4 n4 c4]] w (RetD w ((p * t) / Nat.gcd (p * t) (q * r)) ((q * r) / Nat.gcd (p * t) (q * r))) := by
  have hbb := b2 w (.cells #[.slice A1 n1 c1, .slice A2 n2 c2] 32) (.cells #[.slice A3 n3 c3, .slice A4 n4 c4] 32)
  have q1 := (Blk.new w 32 #[.slice A1 n1 c1, .slice A2 n2 c2]).alloc (.cells #[.slice A3 n3 c3, .slice A4 n4 c4] 32)
  have q2 := Blk.new (w.alloc (.cells #[.slice A1 n1 c1, .slice A2 n2 c2] 32)) 32 #[.slice A3 n3 c3, .slice A4 n4 c4]
  rw [World.size_alloc] at q2
  have hsz0 : ((w.alloc (.cells #[.slice A1 n1 c1, .slice A2 n2 c2] 32)).alloc (.cells #[.slice A3 n3 c3, .slice A4 n4 c4] 32)).heap.size = w.heap.size + 1 + 1 := by simp
  obtain ⟨Wb, hWb⟩ : ∃ Wb, (w.alloc (.cells #[.slice A1 n1 c1, .slice A2 n2 c2] 32)).alloc (.cells #[.slice A3 n3 c3, .slice A4 n4 c4] 32) = Wb := ⟨_, rfl⟩
  rw [hWb] at hbb q1 q2 hsz0
  have x1 : Wb.cell? ⟨w.heap.size, 0, none⟩ = some (.slice A1 n1 c1) := q1.cell 0
  have x2 : Wb.cell? ⟨w.heap.size, 1, none⟩ = some (.slice A2 n2 c2) := q1.cell 1
  have x3 : Wb.cell? ⟨w.heap.size + 1, 0, none⟩ = some (.slice A3 n3 c3) := q2.cell 0
  have x4 : Wb.cell? ⟨w.heap.size + 1, 1, none⟩ = some (.slice A4 n4 c4) := q2.cell 1
  have Hp := Lib.hid (h1.below hbb)
  have Hq := Lib.hid (h2.below hbb)
  have Hr := Lib.hid (h3.below hbb)
  have Ht := Lib.hid (h4.below hbb)
  have Bp := Lib.hid bp
  have Bq := Lib.hid bq
  have Br := Lib.hid br
  have Bt := Lib.hid bt
  have hsz : Wb.heap.size ≤ w.heap.size + 1 + 1 := by omega
  have HNU : Hid (p * t < 65536 ^ (j + j + 1)) := Lib.hid (lt_up (mul_lt2 bp bt))
  have HDE : Hid (q * r < 65536 ^ (j + j + 1)) := Lib.hid (lt_up (mul_lt2 bq br))
  have hrb := Blk.new Wb 32 #[.slice none 0 0, .slice none 0 0]
  rw [hsz0] at hrb
  have HRB : Hid (Blk (Wb.alloc (.cells #[.slice none 0 0, .slice none 0 0] 32)).drew (w.heap.size + 1 + 1) 32 #[.slice none 0 0, .slice none 0 0]) := Lib.hid hrb
  have hst : Below Wb.heap.size Wb (Wb.alloc (.cells #[.slice none 0 0, .slice none 0 0] 32)).drew := (b1 Wb _).drew
  have HBS := Lib.hid hst
  clear hrb
  clear h1 h2 h3 h4 bp bq br bt q1 q2
  go_enter Tryd.func21, Tryd.ntmps21
  go_wp2_with fail
  clear hWb
  refine wp_region_held_drew (S := fun W => Below Wb.heap.size Wb W) (by kernel_rfl) hst (fun hHeld => ?_)
  obtain ⟨wn, hwn⟩ : ∃ W, (Wb.alloc (.cells #[.slice none 0 0, .slice none 0 0] 32)).drew = W := ⟨_, rfl⟩
  rw [hwn] at HBS hHeld HRB
  rw [hwn]
  clear hwn
  refine wpAnyH_take (i := 0) (v := ?_) (op_of rfl) (by kernel_rfl) (by kernel_rfl) (by kernel_rfl) (fun _ _ _ h => h) (Or.inl ⟨by rfl, fun W hS => ?_⟩) (by assumption) ?_
  rotate_left
  · dsimp only at hS
    go_simp
    try with_reducible rfl
  try dsimp only [Act.put]
  try simp only [List.setIfInBounds_toArray, List.set_cons_zero, List.set_cons_succ]
  refine wpAnyH_take (i := 1) (v := ?_) (op_of rfl) (by kernel_rfl) (by kernel_rfl) (by kernel_rfl) (fun _ _ _ h => h) (Or.inl ⟨by rfl, fun W hS => ?_⟩) (by assumption) ?_
  rotate_left
  · dsimp only at hS
    have z := (hS.cell (World.block_lt_of_cell? _ _ x1)).trans x1
    go_simp
    try with_reducible rfl
  try dsimp only [Act.put]
  try simp only [List.setIfInBounds_toArray, List.set_cons_zero, List.set_cons_succ]
  refine wpAnyH_take (i := 2) (v := ?_) (op_of rfl) (by kernel_rfl) (by kernel_rfl) (by kernel_rfl) (fun _ _ _ h => h) (Or.inl ⟨by rfl, fun W hS => ?_⟩) (by assumption) ?_
  rotate_left
  · dsimp only at hS
    go_simp
    try with_reducible rfl
  try dsimp only [Act.put]
  try simp only [List.setIfInBounds_toArray, List.set_cons_zero, List.set_cons_succ]
  refine wpAnyH_take (i := 3) (v := ?_) (op_of rfl) (by kernel_rfl) (by kernel_rfl) (by kernel_rfl) (fun _ _ _ h => h) (Or.inl ⟨by rfl, fun W hS => ?_⟩) (by assumption) ?_
  rotate_left
  · dsimp only at hS
    have z := (hS.cell (World.block_lt_of_cell? _ _ x4)).trans x4
    go_simp
    try with_reducible rfl
  try dsimp only [Act.put]
  try simp only [List.setIfInBounds_toArray, List.set_cons_zero, List.set_cons_succ]
  refine wpAnyH_take (i := 5) (v := ?_) (op_of rfl) (by kernel_rfl) (by kernel_rfl) (by kernel_rfl) (fun _ _ _ h => h) (Or.inl ⟨by rfl, fun W hS => ?_⟩) (by assumption) ?_
  rotate_left
  · dsimp only at hS
    go_simp
    try with_reducible rfl
  try dsimp only [Act.put]
  try simp only [List.setIfInBounds_toArray, List.set_cons_zero, List.set_cons_succ]
  refine wpAnyH_take (i := 6) (v := ?_) (op_of rfl) (by kernel_rfl) (by kernel_rfl) (by kernel_rfl) (fun _ _ _ h => h) (Or.inl ⟨by rfl, fun W hS => ?_⟩) (by assumption) ?_
  rotate_left
  · dsimp only at hS
    have z := (hS.cell (World.block_lt_of_cell? _ _ x2)).trans x2
    go_simp
    try with_reducible rfl
  try dsimp only [Act.put]
  try simp only [List.setIfInBounds_toArray, List.set_cons_zero, List.set_cons_succ]
  refine wpAnyH_take (i := 7) (v := ?_) (op_of rfl) (by kernel_rfl) (by kernel_rfl) (by kernel_rfl) (fun _ _ _ h => h) (Or.inl ⟨by rfl, fun W hS => ?_⟩) (by assumption) ?_
  rotate_left
  · dsimp only at hS
    go_simp
    try with_reducible rfl
  try dsimp only [Act.put]
  try simp only [List.setIfInBounds_toArray, List.set_cons_zero, List.set_cons_succ]
  refine wpAnyH_take (i := 8) (v := ?_) (op_of rfl) (by kernel_rfl) (by kernel_rfl) (by kernel_rfl) (fun _ _ _ h => h) (Or.inl ⟨by rfl, fun W hS => ?_⟩) (by assumption) ?_
  rotate_left
  · dsimp only at hS
    have z := (hS.cell (World.block_lt_of_cell? _ _ x3)).trans x3
    go_simp
    try with_reducible rfl
  try dsimp only [Act.put]
  try simp only [List.setIfInBounds_toArray, List.set_cons_zero, List.set_cons_succ]
  refine wpAnyH_ready (rs := [4]) (by kernel_rfl) (by simp) (AllReadyH.cons (op_of rfl) (fun K hK => ?_) AllReadyH.nil)
  go_simp
  refine (mul_num (.agg #[.slice A1 n1 c1]) (.agg #[.slice A4 n4 c4]) p t _ _ _ (Hp.out.below HBS.out) (Ht.out.below HBS.out) Bp.out Bt.out (by omega) (by omega)).mono ?_
  rintro en wn ⟨v, rfl, h, hb⟩
  obtain ⟨D4, m4, d4, rfl⟩ := h.shape
  have HBS := Lib.hid (HBS.out.trans (hb.mono HBS.out.size))
  have HRB := Lib.hid (HRB.out.below hb HRB.out.lt)
  have HP4 := Lib.hid h
  clear h hb
  refine hK.out _ _ HBS.out (fun hHeld => ?_)
  clear hK K
  try dsimp only [Act.put]
  try simp only [List.setIfInBounds_toArray, List.set_cons_zero, List.set_cons_succ]
  refine wpAnyH_ready (rs := [9]) (by kernel_rfl) (by simp) (AllReadyH.cons (op_of rfl) (fun K hK => ?_) AllReadyH.nil)
  go_simp
  refine (mul_num (.agg #[.slice A2 n2 c2]) (.agg #[.slice A3 n3 c3]) q r _ _ _ (Hq.out.below HBS.out) (Hr.out.below HBS.out) Bq.out Br.out (by omega) (by omega)).mono ?_
  rintro en wn ⟨v, rfl, h, hb⟩
  obtain ⟨D9, m9, d9, rfl⟩ := h.shape
  have HBS := Lib.hid (HBS.out.trans (hb.mono HBS.out.size))
  have HP4 := Lib.hid (HP4.out.below hb)
  have HRB := Lib.hid (HRB.out.below hb HRB.out.lt)
  have HP9 := Lib.hid h
  clear h hb
  refine hK.out _ _ HBS.out (fun hHeld => ?_)
  clear hK K
  try dsimp only [Act.put]
  try simp only [List.setIfInBounds_toArray, List.set_cons_zero, List.set_cons_succ]
  refine wpAnyH_take (i := 10) (v := ?_) (op_of rfl) (by kernel_rfl) (by kernel_rfl) (by kernel_rfl) (fun _ _ _ h => h) (Or.inl ⟨by rfl, fun W hS => ?_⟩) (by assumption) ?_
  rotate_left
  · dsimp only at hS
    go_simp
    try with_reducible rfl
  try dsimp only [Act.put]
  try simp only [List.setIfInBounds_toArray, List.set_cons_zero, List.set_cons_succ]
  refine wpAnyH_ready (rs := [11]) (by kernel_rfl) (by simp) (AllReadyH.cons (op_of rfl) (fun K hK => ?_) AllReadyH.nil)
  go_simp
  refine (low_any (j := j + j + 1) D4 D9 m4 d4 m9 d9 (p * t) (q * r) _ _ _ HP4.out HP9.out HNU.out HDE.out hd0 (by omega)).mono ?_
  rintro en wn ⟨E1, i1, e1, E2, i2, e2, rfl, ⟨L5, hq1⟩, ⟨L6, hq2⟩, hb⟩
  have HBS := Lib.hid (HBS.out.trans (hb.mono HBS.out.size))
  have HRB := Lib.hid (HRB.out.below hb HRB.out.lt)
  have HQ1 := Lib.hid hq1
  have HQ2 := Lib.hid hq2
  clear hq1 hq2 hb
  refine hK.out _ _ HBS.out (fun hHeld => ?_)
  clear hK K
  try dsimp only [Act.put]
  try simp only [List.setIfInBounds_toArray, List.set_cons_zero, List.set_cons_succ]
  refine wpAnyH_ready (rs := [12]) (by kernel_rfl) (by simp) (AllReadyH.cons (op_of rfl) (fun K hK => ?_) AllReadyH.nil)
  have k0 := HRB.out.cell 0
  have k1 := HRB.out.cell 1
  have f0 := HRB.out.frozen 0
  have f1 := HRB.out.frozen 1
  go_simp
  have HBS := Lib.hid ((HBS.out.setCell (p := ⟨w.heap.size + 1 + 1, 0, none⟩) hsz (.slice E1 i1 e1)).setCell (p := ⟨w.heap.size + 1 + 1, 1, none⟩) hsz (.slice E2 i2 e2))
  refine hK.out _ _ HBS.out (fun hHeld => ?_)
  clear hK K
  try dsimp only [Act.put]
  try simp only [List.setIfInBounds_toArray, List.set_cons_zero, List.set_cons_succ]
  refine wpAnyH_done (by kernel_rfl) ?_ _
  have k1' : (wn.setCell ⟨w.heap.size + 1 + 1, 0, none⟩ (.slice E1 i1 e1)).cell? ⟨w.heap.size + 1 + 1, 1, none⟩ = some (.slice none 0 0) := (World.cell?_setCell_other _ _ _ _ (by intro e; injection e; omega)).trans k1
  have hp := put_Q HRB.out (.slice E1 i1 e1) (.slice E2 i2 e2)
  go_wp2_with fail
  exact bodyPost_ret (v := .agg #[.slice E1 i1 e1, .slice E2 i2 e2]) (by simp [results, Tryd.results21, go_sem, hp.cell 0, hp.cell 1]) rfl ⟨_, _, _, _, _, _, rfl, ⟨_, (HQ1.out.setSi k0).setSi k1'⟩, ⟨_, (HQ2.out.setSi k0).setSi k1'⟩, hbb.trans (HBS.out.mono hbb.size)⟩

set_option maxHeartbeats 8000000 in
theorem cmp4_r {j : Nat} (A1 A2 A3 A4 : Option Addr) (n1 c1 n2 c2 n3 c3 n4 c4 p q r t L1 L2 L3 L4 : Nat) (w : World) (h1 : Num w L1 (.agg #[.slice A1 n1 c1]) p) (h2 : Num w L2 (.agg #[.slice A2 n2 c2]) q) (h3 : Num w L3 (.agg #[.slice A3 n3 c3]) r) (h4 : Num w L4 (.agg #[.slice A4 n4 c4]) t)
    (bp : p < 65536 ^ j) (bq : q < 65536 ^ j) (br : r < 65536 ^ j) (bt : t < 65536 ^ j) (hj : j ≤ 900) :
    Calls Tryd.prog 14 #[.agg #[.slice A1 n1 c1, .slice A2 n2 c2], .agg #[.slice A3 n3 c3, .slice A4 n4 c4]] w fun e w' => e = .returned (.int .i64 (cmpI (p * t) (r * q))) ∧ Below w.heap.size w w' := by
  have hbb := b2 w (.cells #[.slice A1 n1 c1, .slice A2 n2 c2] 32) (.cells #[.slice A3 n3 c3, .slice A4 n4 c4] 32)
  have q1 := (Blk.new w 32 #[.slice A1 n1 c1, .slice A2 n2 c2]).alloc (.cells #[.slice A3 n3 c3, .slice A4 n4 c4] 32)
  have q2 := Blk.new (w.alloc (.cells #[.slice A1 n1 c1, .slice A2 n2 c2] 32)) 32 #[.slice A3 n3 c3, .slice A4 n4 c4]
  rw [World.size_alloc] at q2
  have hsz0 : ((w.alloc (.cells #[.slice A1 n1 c1, .slice A2 n2 c2] 32)).alloc (.cells #[.slice A3 n3 c3, .slice A4 n4 c4] 32)).heap.size = w.heap.size + 1 + 1 := by simp
  obtain ⟨Wb, hWb⟩ : ∃ Wb, (w.alloc (.cells #[.slice A1 n1 c1, .slice A2 n2 c2] 32)).alloc (.cells #[.slice A3 n3 c3, .slice A4 n4 c4] 32) = Wb := ⟨_, rfl⟩
  rw [hWb] at hbb q1 q2 hsz0
  have x1 : Wb.cell? ⟨w.heap.size, 0, none⟩ = some (.slice A1 n1 c1) := q1.cell 0
  have x2 : Wb.cell? ⟨w.heap.size, 1, none⟩ = some (.slice A2 n2 c2) := q1.cell 1
  have x3 : Wb.cell? ⟨w.heap.size + 1, 0, none⟩ = some (.slice A3 n3 c3) := q2.cell 0
  have x4 : Wb.cell? ⟨w.heap.size + 1, 1, none⟩ = some (.slice A4 n4 c4) := q2.cell 1
  have Hp := Lib.hid (h1.below hbb)
  have Hq := Lib.hid (h2.below hbb)
  have Hr := Lib.hid (h3.below hbb)
  have Ht := Lib.hid (h4.below hbb)
  have Bp := Lib.hid bp
  have Bq := Lib.hid bq
  have Br := Lib.hid br
  have Bt := Lib.hid bt
  have hsz : Wb.heap.size ≤ w.heap.size + 1 + 1 := by omega
  have hst : Below Wb.heap.size Wb Wb.drew := (Below.refl _ _).drew
  have HBS := Lib.hid hst
  clear h1 h2 h3 h4 bp bq br bt q1 q2
  go_enter Tryd.func14, Tryd.ntmps14
  go_wp2_with fail
  clear hWb
  refine wp_region_held_drew (S := fun W => Below Wb.heap.size Wb W) (by kernel_rfl) hst (fun hHeld => ?_)
  obtain ⟨wn, hwn⟩ : ∃ W, Wb.drew = W := ⟨_, rfl⟩
  rw [hwn] at HBS hHeld
  rw [hwn]
  clear hwn
  refine wpAnyH_take (i := 0) (v := ?_) (op_of rfl) (by kernel_rfl) (by kernel_rfl) (by kernel_rfl) (fun _ _ _ h => h) (Or.inl ⟨by rfl, fun W hS => ?_⟩) (by assumption) ?_
  rotate_left
  · dsimp only at hS
    go_simp
    try with_reducible rfl
  try dsimp only [Act.put]
  try simp only [List.setIfInBounds_toArray, List.set_cons_zero, List.set_cons_succ]
  refine wpAnyH_take (i := 1) (v := ?_) (op_of rfl) (by kernel_rfl) (by kernel_rfl) (by kernel_rfl) (fun _ _ _ h => h) (Or.inl ⟨by rfl, fun W hS => ?_⟩) (by assumption) ?_
  rotate_left
  · dsimp only at hS
    have z := (hS.cell (World.block_lt_of_cell? _ _ x1)).trans x1
    go_simp
    try with_reducible rfl
  try dsimp only [Act.put]
  try simp only [List.setIfInBounds_toArray, List.set_cons_zero, List.set_cons_succ]
  refine wpAnyH_take (i := 2) (v := ?_) (op_of rfl) (by kernel_rfl) (by kernel_rfl) (by kernel_rfl) (fun _ _ _ h => h) (Or.inl ⟨by rfl, fun W hS => ?_⟩) (by assumption) ?_
  rotate_left
  · dsimp only at hS
    go_simp
    try with_reducible rfl
  try dsimp only [Act.put]
  try simp only [List.setIfInBounds_toArray, List.set_cons_zero, List.set_cons_succ]
  refine wpAnyH_take (i := 3) (v := ?_) (op_of rfl) (by kernel_rfl) (by kernel_rfl) (by kernel_rfl) (fun _ _ _ h => h) (Or.inl ⟨by rfl, fun W hS => ?_⟩) (by assumption) ?_
  rotate_left
  · dsimp only at hS
    have z := (hS.cell (World.block_lt_of_cell? _ _ x4)).trans x4
    go_simp
    try with_reducible rfl
  try dsimp only [Act.put]
  try simp only [List.setIfInBounds_toArray, List.set_cons_zero, List.set_cons_succ]
  refine wpAnyH_take (i := 5) (v := ?_) (op_of rfl) (by kernel_rfl) (by kernel_rfl) (by kernel_rfl) (fun _ _ _ h => h) (Or.inl ⟨by rfl, fun W hS => ?_⟩) (by assumption) ?_
  rotate_left
  · dsimp only at hS
    go_simp
    try with_reducible rfl
  try dsimp only [Act.put]
  try simp only [List.setIfInBounds_toArray, List.set_cons_zero, List.set_cons_succ]
  refine wpAnyH_take (i := 6) (v := ?_) (op_of rfl) (by kernel_rfl) (by kernel_rfl) (by kernel_rfl) (fun _ _ _ h => h) (Or.inl ⟨by rfl, fun W hS => ?_⟩) (by assumption) ?_
  rotate_left
  · dsimp only at hS
    have z := (hS.cell (World.block_lt_of_cell? _ _ x3)).trans x3
    go_simp
    try with_reducible rfl
  try dsimp only [Act.put]
  try simp only [List.setIfInBounds_toArray, List.set_cons_zero, List.set_cons_succ]
  refine wpAnyH_take (i := 7) (v := ?_) (op_of rfl) (by kernel_rfl) (by kernel_rfl) (by kernel_rfl) (fun _ _ _ h => h) (Or.inl ⟨by rfl, fun W hS => ?_⟩) (by assumption) ?_
  rotate_left
  · dsimp only at hS
    go_simp
    try with_reducible rfl
  try dsimp only [Act.put]
  try simp only [List.setIfInBounds_toArray, List.set_cons_zero, List.set_cons_succ]
  refine wpAnyH_take (i := 8) (v := ?_) (op_of rfl) (by kernel_rfl) (by kernel_rfl) (by kernel_rfl) (fun _ _ _ h => h) (Or.inl ⟨by rfl, fun W hS => ?_⟩) (by assumption) ?_
  rotate_left
  · dsimp only at hS
    have z := (hS.cell (World.block_lt_of_cell? _ _ x2)).trans x2
    go_simp
    try with_reducible rfl
  try dsimp only [Act.put]
  try simp only [List.setIfInBounds_toArray, List.set_cons_zero, List.set_cons_succ]
  refine wpAnyH_ready (rs := [4]) (by kernel_rfl) (by simp) (AllReadyH.cons (op_of rfl) (fun K hK => ?_) AllReadyH.nil)
  go_simp
  refine (mul_num (.agg #[.slice A1 n1 c1]) (.agg #[.slice A4 n4 c4]) p t _ _ _ (Hp.out.below HBS.out) (Ht.out.below HBS.out) Bp.out Bt.out (by omega) (by omega)).mono ?_
  rintro en wn ⟨v, rfl, h, hb⟩
  obtain ⟨D4, m4, d4, rfl⟩ := h.shape
  have HBS := Lib.hid (HBS.out.trans (hb.mono HBS.out.size))
  have HP4 := Lib.hid h
  clear h hb
  refine hK.out _ _ HBS.out (fun hHeld => ?_)
  clear hK K
  try dsimp only [Act.put]
  try simp only [List.setIfInBounds_toArray, List.set_cons_zero, List.set_cons_succ]
  refine wpAnyH_ready (rs := [9]) (by kernel_rfl) (by simp) (AllReadyH.cons (op_of rfl) (fun K hK => ?_) AllReadyH.nil)
  go_simp
  refine (mul_num (.agg #[.slice A3 n3 c3]) (.agg #[.slice A2 n2 c2]) r q _ _ _ (Hr.out.below HBS.out) (Hq.out.below HBS.out) Br.out Bq.out (by omega) (by omega)).mono ?_
  rintro en wn ⟨v, rfl, h, hb⟩
  obtain ⟨D9, m9, d9, rfl⟩ := h.shape
  have HBS := Lib.hid (HBS.out.trans (hb.mono HBS.out.size))
  have HP4 := Lib.hid (HP4.out.below hb)
  have HP9 := Lib.hid h
  clear h hb
  refine hK.out _ _ HBS.out (fun hHeld => ?_)
  clear hK K
  try dsimp only [Act.put]
  try simp only [List.setIfInBounds_toArray, List.set_cons_zero, List.set_cons_succ]
  refine wpAnyH_ready (rs := [10]) (by kernel_rfl) (by simp) (AllReadyH.cons (op_of rfl) (fun K hK => ?_) AllReadyH.nil)
  go_simp
  refine (cmp_num (.agg #[.slice D4 m4 d4]) (.agg #[.slice D9 m9 d9]) (p * t) (r * q) _ _ _ HP4.out HP9.out (mul_lt2 Bp.out Bt.out) (mul_lt2 Br.out Bq.out) (by omega) (by omega)).mono ?_
  rintro en wn ⟨rfl, hb⟩
  have HBS := Lib.hid (HBS.out.trans (hb.mono HBS.out.size))
  clear hb
  refine hK.out _ _ HBS.out (fun hHeld => ?_)
  clear hK K
  try dsimp only [Act.put]
  try simp only [List.setIfInBounds_toArray, List.set_cons_zero, List.set_cons_succ]
  refine wpAnyH_ready (rs := [11]) (by kernel_rfl) (by simp) (AllReadyH.cons (op_of rfl) (fun K hK => ?_) AllReadyH.nil)
  go_simp
  refine hK.out _ _ HBS.out (fun hHeld => ?_)
  clear hK K
  try dsimp only [Act.put]
  try simp only [List.setIfInBounds_toArray, List.set_cons_zero, List.set_cons_succ]
  refine wpAnyH_done (by kernel_rfl) ?_ _
  go_wp2_with fail
  go_ret
  exact ⟨rfl, hbb.trans (HBS.out.mono hbb.size)⟩

end Go.Proofs.YtlnabebjhpdgpaaDoor

namespace Go.Proofs.YtlnabebjhpdgpaaDoor
open Go.RowKit
set_option maxRecDepth 100000

theorem natCmp_r {v1 v2 : Value} {a b M : Nat} (w : World) (h1 : Nr w v1 a M) (h2 : Nr w v2 b M) (hM : M ≤ 100000) : Calls Tryd.prog 43 #[v1, v2] w fun e w' => e = .returned (.int .i64 (cmpI a b)) ∧ Below w.heap.size w w' := by
  obtain ⟨A1, xs, n1, c1, rfl, hl1, hc1, hr1, hd1, rfl, hn1⟩ := h1
  obtain ⟨A2, ys, n2, c2, rfl, hl2, hc2, hr2, hd2, rfl, hn2⟩ := h2
  exact natCmp_any A1 A2 xs ys n1 c1 n2 c2 w hl1 hl2 hr1 hr2 hd1 hd2 (by omega) (by omega) hc1 hc2

set_option maxHeartbeats 8000000 in
theorem ratioCmp_r {v1 v2 v3 v4 : Value} {p q r t M : Nat} (w : World) (h1 : Nr w v1 p M) (h2 : Nr w v2 q M) (h3 : Nr w v3 r M) (h4 : Nr w v4 t M) (hM : M ≤ 1000) :
    Calls Tryd.prog 13 #[.agg #[v1, v2], .agg #[v3, v4]] w fun e w' => e = .returned (.int .i64 (cmpI (p * t) (r * q))) ∧ Below w.heap.size w w' := by
  obtain ⟨A1, n1, c1, rfl⟩ := h1.shape
  obtain ⟨A2, n2, c2, rfl⟩ := h2.shape
  obtain ⟨A3, n3, c3, rfl⟩ := h3.shape
  obtain ⟨A4, n4, c4, rfl⟩ := h4.shape
  have hbb := b2 w (.cells #[.slice A1 n1 c1, .slice A2 n2 c2] 25) (.cells #[.slice A3 n3 c3, .slice A4 n4 c4] 25)
  have q1 := (Blk.new w 25 #[.slice A1 n1 c1, .slice A2 n2 c2]).alloc (.cells #[.slice A3 n3 c3, .slice A4 n4 c4] 25)
  have q2 := Blk.new (w.alloc (.cells #[.slice A1 n1 c1, .slice A2 n2 c2] 25)) 25 #[.slice A3 n3 c3, .slice A4 n4 c4]
  rw [World.size_alloc] at q2
  have hsz0 : ((w.alloc (.cells #[.slice A1 n1 c1, .slice A2 n2 c2] 25)).alloc (.cells #[.slice A3 n3 c3, .slice A4 n4 c4] 25)).heap.size = w.heap.size + 1 + 1 := by simp
  obtain ⟨Wb, hWb⟩ : ∃ Wb, (w.alloc (.cells #[.slice A1 n1 c1, .slice A2 n2 c2] 25)).alloc (.cells #[.slice A3 n3 c3, .slice A4 n4 c4] 25) = Wb := ⟨_, rfl⟩
  rw [hWb] at hbb q1 q2 hsz0
  have x1 : Wb.cell? ⟨w.heap.size, 0, none⟩ = some (.slice A1 n1 c1) := q1.cell 0
  have x2 : Wb.cell? ⟨w.heap.size, 1, none⟩ = some (.slice A2 n2 c2) := q1.cell 1
  have x3 : Wb.cell? ⟨w.heap.size + 1, 0, none⟩ = some (.slice A3 n3 c3) := q2.cell 0
  have x4 : Wb.cell? ⟨w.heap.size + 1, 1, none⟩ = some (.slice A4 n4 c4) := q2.cell 1
  have Hp := Lib.hid (h1.below hbb)
  have Hq := Lib.hid (h2.below hbb)
  have Hr := Lib.hid (h3.below hbb)
  have Ht := Lib.hid (h4.below hbb)
  have Bp := Lib.hid h1.lt
  have Bq := Lib.hid h2.lt
  have Br := Lib.hid h3.lt
  have Bt := Lib.hid h4.lt
  have hst : Below Wb.heap.size Wb Wb.drew := (Below.refl _ _).drew
  have HBS := Lib.hid hst
  clear h1 h2 h3 h4 q1 q2
  go_enter Tryd.func13, Tryd.ntmps13
  go_wp2_with fail
  clear hWb
  refine wp_region_held_drew (S := fun W => Below Wb.heap.size Wb W) (by kernel_rfl) hst (fun hHeld => ?_)
  obtain ⟨wn, hwn⟩ : ∃ W, Wb.drew = W := ⟨_, rfl⟩
  rw [hwn] at HBS hHeld
  rw [hwn]
  clear hwn
  refine wpAnyH_take (i := 0) (v := ?_) (op_of rfl) (by kernel_rfl) (by kernel_rfl) (by kernel_rfl) (fun _ _ _ h => h) (Or.inl ⟨by rfl, fun W hS => ?_⟩) (by assumption) ?_
  rotate_left
  · dsimp only at hS
    go_simp
    try with_reducible rfl
  try dsimp only [Act.put]
  try simp only [List.setIfInBounds_toArray, List.set_cons_zero, List.set_cons_succ]
  refine wpAnyH_take (i := 1) (v := ?_) (op_of rfl) (by kernel_rfl) (by kernel_rfl) (by kernel_rfl) (fun _ _ _ h => h) (Or.inl ⟨by rfl, fun W hS => ?_⟩) (by assumption) ?_
  rotate_left
  · dsimp only at hS
    have z := (hS.cell (World.block_lt_of_cell? _ _ x1)).trans x1
    go_simp
    try with_reducible rfl
  try dsimp only [Act.put]
  try simp only [List.setIfInBounds_toArray, List.set_cons_zero, List.set_cons_succ]
  refine wpAnyH_take (i := 2) (v := ?_) (op_of rfl) (by kernel_rfl) (by kernel_rfl) (by kernel_rfl) (fun _ _ _ h => h) (Or.inl ⟨by rfl, fun W hS => ?_⟩) (by assumption) ?_
  rotate_left
  · dsimp only at hS
    go_simp
    try with_reducible rfl
  try dsimp only [Act.put]
  try simp only [List.setIfInBounds_toArray, List.set_cons_zero, List.set_cons_succ]
  refine wpAnyH_take (i := 3) (v := ?_) (op_of rfl) (by kernel_rfl) (by kernel_rfl) (by kernel_rfl) (fun _ _ _ h => h) (Or.inl ⟨by rfl, fun W hS => ?_⟩) (by assumption) ?_
  rotate_left
  · dsimp only at hS
    have z := (hS.cell (World.block_lt_of_cell? _ _ x4)).trans x4
    go_simp
    try with_reducible rfl
  try dsimp only [Act.put]
  try simp only [List.setIfInBounds_toArray, List.set_cons_zero, List.set_cons_succ]
  refine wpAnyH_take (i := 6) (v := ?_) (op_of rfl) (by kernel_rfl) (by kernel_rfl) (by kernel_rfl) (fun _ _ _ h => h) (Or.inl ⟨by rfl, fun W hS => ?_⟩) (by assumption) ?_
  rotate_left
  · dsimp only at hS
    go_simp
    try with_reducible rfl
  try dsimp only [Act.put]
  try simp only [List.setIfInBounds_toArray, List.set_cons_zero, List.set_cons_succ]
  refine wpAnyH_take (i := 7) (v := ?_) (op_of rfl) (by kernel_rfl) (by kernel_rfl) (by kernel_rfl) (fun _ _ _ h => h) (Or.inl ⟨by rfl, fun W hS => ?_⟩) (by assumption) ?_
  rotate_left
  · dsimp only at hS
    have z := (hS.cell (World.block_lt_of_cell? _ _ x3)).trans x3
    go_simp
    try with_reducible rfl
  try dsimp only [Act.put]
  try simp only [List.setIfInBounds_toArray, List.set_cons_zero, List.set_cons_succ]
  refine wpAnyH_take (i := 8) (v := ?_) (op_of rfl) (by kernel_rfl) (by kernel_rfl) (by kernel_rfl) (fun _ _ _ h => h) (Or.inl ⟨by rfl, fun W hS => ?_⟩) (by assumption) ?_
  rotate_left
  · dsimp only at hS
    go_simp
    try with_reducible rfl
  try dsimp only [Act.put]
  try simp only [List.setIfInBounds_toArray, List.set_cons_zero, List.set_cons_succ]
  refine wpAnyH_take (i := 9) (v := ?_) (op_of rfl) (by kernel_rfl) (by kernel_rfl) (by kernel_rfl) (fun _ _ _ h => h) (Or.inl ⟨by rfl, fun W hS => ?_⟩) (by assumption) ?_
  rotate_left
  · dsimp only at hS
    have z := (hS.cell (World.block_lt_of_cell? _ _ x2)).trans x2
    go_simp
    try with_reducible rfl
  try dsimp only [Act.put]
  try simp only [List.setIfInBounds_toArray, List.set_cons_zero, List.set_cons_succ]
  refine wpAnyH_ready (rs := [4, 10]) (by kernel_rfl) (by simp) (AllReadyH.cons (op_of rfl) (fun K hK => ?_) (AllReadyH.cons (op_of rfl) (fun K hK => ?_) AllReadyH.nil))
  · skip
    go_simp
    have hk := Blk.new wn 23 #[.slice A1 n1 c1, .slice A4 n4 c4]
    have hb := b1 wn (.cells #[.slice A1 n1 c1, .slice A4 n4 c4] 23)
    obtain ⟨g4, hg4⟩ : ∃ g, wn.heap.size = g := ⟨_, rfl⟩
    have HBS := Lib.hid (HBS.out.trans (hb.mono HBS.out.size))
    obtain ⟨wn, hwm⟩ : ∃ W, wn.alloc (.cells #[.slice A1 n1 c1, .slice A4 n4 c4] 23) = W := ⟨_, rfl⟩
    rw [hwm] at hk HBS
    rw [hg4] at hk ⊢
    rw [hwm]
    have HK4 := Lib.hid hk
    clear hk hb hg4 hwm
    refine hK.out _ _ HBS.out (fun hHeld => ?_)
    clear hK K
    try dsimp only [Act.put]
    try simp only [List.setIfInBounds_toArray, List.set_cons_zero, List.set_cons_succ]
    refine wpAnyH_ready (rs := [5, 10]) (by kernel_rfl) (by simp) (AllReadyH.cons (op_of rfl) (fun K hK => ?_) (AllReadyH.cons (op_of rfl) (fun K hK => ?_) AllReadyH.nil))
    · skip
      go_simp
      refine (mul2_r (g := g4) _ (HK4.out.cell 0) (HK4.out.cell 1) (Hp.out.below HBS.out) (Ht.out.below HBS.out) (by omega)).mono ?_
      rintro en wn ⟨v, rfl, h, hb⟩
      obtain ⟨D5, m5, d5, rfl⟩ := h.shape
      have HBS := Lib.hid (HBS.out.trans (hb.mono HBS.out.size))
      have HK4 := Lib.hid (HK4.out.below hb HK4.out.lt)
      have HP5 := Lib.hid (h.nr (mul_small Bp.out Bt.out))
      clear h hb
      refine hK.out _ _ HBS.out (fun hHeld => ?_)
      clear hK K
      try dsimp only [Act.put]
      try simp only [List.setIfInBounds_toArray, List.set_cons_zero, List.set_cons_succ]
      refine wpAnyH_ready (rs := [10]) (by kernel_rfl) (by simp) (AllReadyH.cons (op_of rfl) (fun K hK => ?_) AllReadyH.nil)
      go_simp
      have hk := Blk.new wn 23 #[.slice A3 n3 c3, .slice A2 n2 c2]
      have hb := b1 wn (.cells #[.slice A3 n3 c3, .slice A2 n2 c2] 23)
      obtain ⟨g10, hg10⟩ : ∃ g, wn.heap.size = g := ⟨_, rfl⟩
      have HBS := Lib.hid (HBS.out.trans (hb.mono HBS.out.size))
      have HK4 := Lib.hid (HK4.out.below hb HK4.out.lt)
      have HP5 := Lib.hid (HP5.out.below hb)
      obtain ⟨wn, hwm⟩ : ∃ W, wn.alloc (.cells #[.slice A3 n3 c3, .slice A2 n2 c2] 23) = W := ⟨_, rfl⟩
      rw [hwm] at hk HBS HK4 HP5
      rw [hg10] at hk ⊢
      rw [hwm]
      have HK10 := Lib.hid hk
      clear hk hb hg10 hwm
      refine hK.out _ _ HBS.out (fun hHeld => ?_)
      clear hK K
      try dsimp only [Act.put]
      try simp only [List.setIfInBounds_toArray, List.set_cons_zero, List.set_cons_succ]
      refine wpAnyH_ready (rs := [11]) (by kernel_rfl) (by simp) (AllReadyH.cons (op_of rfl) (fun K hK => ?_) AllReadyH.nil)
      go_simp
      refine (mul2_r (g := g10) _ (HK10.out.cell 0) (HK10.out.cell 1) (Hr.out.below HBS.out) (Hq.out.below HBS.out) (by omega)).mono ?_
      rintro en wn ⟨v, rfl, h, hb⟩
      obtain ⟨D11, m11, d11, rfl⟩ := h.shape
      have HBS := Lib.hid (HBS.out.trans (hb.mono HBS.out.size))
      have HK4 := Lib.hid (HK4.out.below hb HK4.out.lt)
      have HK10 := Lib.hid (HK10.out.below hb HK10.out.lt)
      have HP5 := Lib.hid (HP5.out.below hb)
      have HP11 := Lib.hid (h.nr (mul_small Br.out Bq.out))
      clear h hb
      refine hK.out _ _ HBS.out (fun hHeld => ?_)
      clear hK K
      try dsimp only [Act.put]
      try simp only [List.setIfInBounds_toArray, List.set_cons_zero, List.set_cons_succ]
      refine wpAnyH_ready (rs := [12]) (by kernel_rfl) (by simp) (AllReadyH.cons (op_of rfl) (fun K hK => ?_) AllReadyH.nil)
      go_simp
      refine (natCmp_r _ HP5.out HP11.out (by omega)).mono ?_
      rintro en wn ⟨rfl, hb⟩
      have HBS := Lib.hid (HBS.out.trans (hb.mono HBS.out.size))
      clear hb
      refine hK.out _ _ HBS.out (fun hHeld => ?_)
      clear hK K
      try dsimp only [Act.put]
      try simp only [List.setIfInBounds_toArray, List.set_cons_zero, List.set_cons_succ]
      refine wpAnyH_ready (rs := [13]) (by kernel_rfl) (by simp) (AllReadyH.cons (op_of rfl) (fun K hK => ?_) AllReadyH.nil)
      go_simp
      refine hK.out _ _ HBS.out (fun hHeld => ?_)
      clear hK K
      try dsimp only [Act.put]
      try simp only [List.setIfInBounds_toArray, List.set_cons_zero, List.set_cons_succ]
      refine wpAnyH_done (by kernel_rfl) ?_ _
      go_wp2_with fail
      go_ret
      exact ⟨rfl, hbb.trans (HBS.out.mono hbb.size)⟩
    · skip
      go_simp
      have hk := Blk.new wn 23 #[.slice A3 n3 c3, .slice A2 n2 c2]
      have hb := b1 wn (.cells #[.slice A3 n3 c3, .slice A2 n2 c2] 23)
      obtain ⟨g10, hg10⟩ : ∃ g, wn.heap.size = g := ⟨_, rfl⟩
      have HBS := Lib.hid (HBS.out.trans (hb.mono HBS.out.size))
      have HK4 := Lib.hid (HK4.out.below hb HK4.out.lt)
      obtain ⟨wn, hwm⟩ : ∃ W, wn.alloc (.cells #[.slice A3 n3 c3, .slice A2 n2 c2] 23) = W := ⟨_, rfl⟩
      rw [hwm] at hk HBS HK4
      rw [hg10] at hk ⊢
      rw [hwm]
      have HK10 := Lib.hid hk
      clear hk hb hg10 hwm
      refine hK.out _ _ HBS.out (fun hHeld => ?_)
      clear hK K
      try dsimp only [Act.put]
      try simp only [List.setIfInBounds_toArray, List.set_cons_zero, List.set_cons_succ]
      refine wpAnyH_ready (rs := [5]) (by kernel_rfl) (by simp) (AllReadyH.cons (op_of rfl) (fun K hK => ?_) AllReadyH.nil)
      go_simp
      refine (mul2_r (g := g4) _ (HK4.out.cell 0) (HK4.out.cell 1) (Hp.out.below HBS.out) (Ht.out.below HBS.out) (by omega)).mono ?_
      rintro en wn ⟨v, rfl, h, hb⟩
      obtain ⟨D5, m5, d5, rfl⟩ := h.shape
      have HBS := Lib.hid (HBS.out.trans (hb.mono HBS.out.size))
      have HK4 := Lib.hid (HK4.out.below hb HK4.out.lt)
      have HK10 := Lib.hid (HK10.out.below hb HK10.out.lt)
      have HP5 := Lib.hid (h.nr (mul_small Bp.out Bt.out))
      clear h hb
      refine hK.out _ _ HBS.out (fun hHeld => ?_)
      clear hK K
      try dsimp only [Act.put]
      try simp only [List.setIfInBounds_toArray, List.set_cons_zero, List.set_cons_succ]
      refine wpAnyH_ready (rs := [11]) (by kernel_rfl) (by simp) (AllReadyH.cons (op_of rfl) (fun K hK => ?_) AllReadyH.nil)
      go_simp
      refine (mul2_r (g := g10) _ (HK10.out.cell 0) (HK10.out.cell 1) (Hr.out.below HBS.out) (Hq.out.below HBS.out) (by omega)).mono ?_
      rintro en wn ⟨v, rfl, h, hb⟩
      obtain ⟨D11, m11, d11, rfl⟩ := h.shape
      have HBS := Lib.hid (HBS.out.trans (hb.mono HBS.out.size))
      have HK4 := Lib.hid (HK4.out.below hb HK4.out.lt)
      have HK10 := Lib.hid (HK10.out.below hb HK10.out.lt)
      have HP5 := Lib.hid (HP5.out.below hb)
      have HP11 := Lib.hid (h.nr (mul_small Br.out Bq.out))
      clear h hb
      refine hK.out _ _ HBS.out (fun hHeld => ?_)
      clear hK K
      try dsimp only [Act.put]
      try simp only [List.setIfInBounds_toArray, List.set_cons_zero, List.set_cons_succ]
      refine wpAnyH_ready (rs := [12]) (by kernel_rfl) (by simp) (AllReadyH.cons (op_of rfl) (fun K hK => ?_) AllReadyH.nil)
      go_simp
      refine (natCmp_r _ HP5.out HP11.out (by omega)).mono ?_
      rintro en wn ⟨rfl, hb⟩
      have HBS := Lib.hid (HBS.out.trans (hb.mono HBS.out.size))
      clear hb
      refine hK.out _ _ HBS.out (fun hHeld => ?_)
      clear hK K
      try dsimp only [Act.put]
      try simp only [List.setIfInBounds_toArray, List.set_cons_zero, List.set_cons_succ]
      refine wpAnyH_ready (rs := [13]) (by kernel_rfl) (by simp) (AllReadyH.cons (op_of rfl) (fun K hK => ?_) AllReadyH.nil)
      go_simp
      refine hK.out _ _ HBS.out (fun hHeld => ?_)
      clear hK K
      try dsimp only [Act.put]
      try simp only [List.setIfInBounds_toArray, List.set_cons_zero, List.set_cons_succ]
      refine wpAnyH_done (by kernel_rfl) ?_ _
      go_wp2_with fail
      go_ret
      exact ⟨rfl, hbb.trans (HBS.out.mono hbb.size)⟩
  · skip
    go_simp
    have hk := Blk.new wn 23 #[.slice A3 n3 c3, .slice A2 n2 c2]
    have hb := b1 wn (.cells #[.slice A3 n3 c3, .slice A2 n2 c2] 23)
    obtain ⟨g10, hg10⟩ : ∃ g, wn.heap.size = g := ⟨_, rfl⟩
    have HBS := Lib.hid (HBS.out.trans (hb.mono HBS.out.size))
    obtain ⟨wn, hwm⟩ : ∃ W, wn.alloc (.cells #[.slice A3 n3 c3, .slice A2 n2 c2] 23) = W := ⟨_, rfl⟩
    rw [hwm] at hk HBS
    rw [hg10] at hk ⊢
    rw [hwm]
    have HK10 := Lib.hid hk
    clear hk hb hg10 hwm
    refine hK.out _ _ HBS.out (fun hHeld => ?_)
    clear hK K
    try dsimp only [Act.put]
    try simp only [List.setIfInBounds_toArray, List.set_cons_zero, List.set_cons_succ]
    refine wpAnyH_ready (rs := [4]) (by kernel_rfl) (by simp) (AllReadyH.cons (op_of rfl) (fun K hK => ?_) AllReadyH.nil)
    go_simp
    have hk := Blk.new wn 23 #[.slice A1 n1 c1, .slice A4 n4 c4]
    have hb := b1 wn (.cells #[.slice A1 n1 c1, .slice A4 n4 c4] 23)
    obtain ⟨g4, hg4⟩ : ∃ g, wn.heap.size = g := ⟨_, rfl⟩
    have HBS := Lib.hid (HBS.out.trans (hb.mono HBS.out.size))
    have HK10 := Lib.hid (HK10.out.below hb HK10.out.lt)
    obtain ⟨wn, hwm⟩ : ∃ W, wn.alloc (.cells #[.slice A1 n1 c1, .slice A4 n4 c4] 23) = W := ⟨_, rfl⟩
    rw [hwm] at hk HBS HK10
    rw [hg4] at hk ⊢
    rw [hwm]
    have HK4 := Lib.hid hk
    clear hk hb hg4 hwm
    refine hK.out _ _ HBS.out (fun hHeld => ?_)
    clear hK K
    try dsimp only [Act.put]
    try simp only [List.setIfInBounds_toArray, List.set_cons_zero, List.set_cons_succ]
    refine wpAnyH_ready (rs := [5]) (by kernel_rfl) (by simp) (AllReadyH.cons (op_of rfl) (fun K hK => ?_) AllReadyH.nil)
    go_simp
    refine (mul2_r (g := g4) _ (HK4.out.cell 0) (HK4.out.cell 1) (Hp.out.below HBS.out) (Ht.out.below HBS.out) (by omega)).mono ?_
    rintro en wn ⟨v, rfl, h, hb⟩
    obtain ⟨D5, m5, d5, rfl⟩ := h.shape
    have HBS := Lib.hid (HBS.out.trans (hb.mono HBS.out.size))
    have HK4 := Lib.hid (HK4.out.below hb HK4.out.lt)
    have HK10 := Lib.hid (HK10.out.below hb HK10.out.lt)
    have HP5 := Lib.hid (h.nr (mul_small Bp.out Bt.out))
    clear h hb
    refine hK.out _ _ HBS.out (fun hHeld => ?_)
    clear hK K
    try dsimp only [Act.put]
    try simp only [List.setIfInBounds_toArray, List.set_cons_zero, List.set_cons_succ]
    refine wpAnyH_ready (rs := [11]) (by kernel_rfl) (by simp) (AllReadyH.cons (op_of rfl) (fun K hK => ?_) AllReadyH.nil)
    go_simp
    refine (mul2_r (g := g10) _ (HK10.out.cell 0) (HK10.out.cell 1) (Hr.out.below HBS.out) (Hq.out.below HBS.out) (by omega)).mono ?_
    rintro en wn ⟨v, rfl, h, hb⟩
    obtain ⟨D11, m11, d11, rfl⟩ := h.shape
    have HBS := Lib.hid (HBS.out.trans (hb.mono HBS.out.size))
    have HK4 := Lib.hid (HK4.out.below hb HK4.out.lt)
    have HK10 := Lib.hid (HK10.out.below hb HK10.out.lt)
    have HP5 := Lib.hid (HP5.out.below hb)
    have HP11 := Lib.hid (h.nr (mul_small Br.out Bq.out))
    clear h hb
    refine hK.out _ _ HBS.out (fun hHeld => ?_)
    clear hK K
    try dsimp only [Act.put]
    try simp only [List.setIfInBounds_toArray, List.set_cons_zero, List.set_cons_succ]
    refine wpAnyH_ready (rs := [12]) (by kernel_rfl) (by simp) (AllReadyH.cons (op_of rfl) (fun K hK => ?_) AllReadyH.nil)
    go_simp
    refine (natCmp_r _ HP5.out HP11.out (by omega)).mono ?_
    rintro en wn ⟨rfl, hb⟩
    have HBS := Lib.hid (HBS.out.trans (hb.mono HBS.out.size))
    clear hb
    refine hK.out _ _ HBS.out (fun hHeld => ?_)
    clear hK K
    try dsimp only [Act.put]
    try simp only [List.setIfInBounds_toArray, List.set_cons_zero, List.set_cons_succ]
    refine wpAnyH_ready (rs := [13]) (by kernel_rfl) (by simp) (AllReadyH.cons (op_of rfl) (fun K hK => ?_) AllReadyH.nil)
    go_simp
    refine hK.out _ _ HBS.out (fun hHeld => ?_)
    clear hK K
    try dsimp only [Act.put]
    try simp only [List.setIfInBounds_toArray, List.set_cons_zero, List.set_cons_succ]
    refine wpAnyH_done (by kernel_rfl) ?_ _
    go_wp2_with fail
    go_ret
    exact ⟨rfl, hbb.trans (HBS.out.mono hbb.size)⟩

/-- Are both the same? -/
def sameQ (p q r t : Nat) : Bool := decide (p = r) && decide (q = t)
set_option maxHeartbeats 2000000 in
theorem ratioSame_r {v1 v2 v3 v4 : Value} {p q r t M : Nat} (w : World) (h1 : Nr w v1 p M) (h2 : Nr w v2 q M) (h3 : Nr w v3 r M) (h4 : Nr w v4 t M) (hM : M ≤ 1000) :
    Calls Tryd.prog 15 #[.agg #[v1, v2], .agg #[v3, v4]] w fun e w' => e = .returned (.bool (sameQ p q r t)) ∧ Below w.heap.size w w' := by
  obtain ⟨A1, n1, c1, rfl⟩ := h1.shape
  obtain ⟨A2, n2, c2, rfl⟩ := h2.shape
  obtain ⟨A3, n3, c3, rfl⟩ := h3.shape
  obtain ⟨A4, n4, c4, rfl⟩ := h4.shape
  have hbb := b2 w (.cells #[.slice A1 n1 c1, .slice A2 n2 c2] 25) (.cells #[.slice A3 n3 c3, .slice A4 n4 c4] 25)
  have q1 := (Blk.new w 25 #[.slice A1 n1 c1, .slice A2 n2 c2]).alloc (.cells #[.slice A3 n3 c3, .slice A4 n4 c4] 25)
  have q2 := Blk.new (w.alloc (.cells #[.slice A1 n1 c1, .slice A2 n2 c2] 25)) 25 #[.slice A3 n3 c3, .slice A4 n4 c4]
  rw [World.size_alloc] at q2
  have hsz0 : ((w.alloc (.cells #[.slice A1 n1 c1, .slice A2 n2 c2] 25)).alloc (.cells #[.slice A3 n3 c3, .slice A4 n4 c4] 25)).heap.size = w.heap.size + 1 + 1 := by simp
  obtain ⟨Wb, hWb⟩ : ∃ Wb, (w.alloc (.cells #[.slice A1 n1 c1, .slice A2 n2 c2] 25)).alloc (.cells #[.slice A3 n3 c3, .slice A4 n4 c4] 25) = Wb := ⟨_, rfl⟩
  rw [hWb] at hbb q1 q2 hsz0
  have x1 : Wb.cell? ⟨w.heap.size, 0, none⟩ = some (.slice A1 n1 c1) := q1.cell 0
  have x2 : Wb.cell? ⟨w.heap.size, 1, none⟩ = some (.slice A2 n2 c2) := q1.cell 1
  have x3 : Wb.cell? ⟨w.heap.size + 1, 0, none⟩ = some (.slice A3 n3 c3) := q2.cell 0
  have x4 : Wb.cell? ⟨w.heap.size + 1, 1, none⟩ = some (.slice A4 n4 c4) := q2.cell 1
  have Hp := Lib.hid (h1.below hbb)
  have Hq := Lib.hid (h2.below hbb)
  have Hr := Lib.hid (h3.below hbb)
  have Ht := Lib.hid (h4.below hbb)
  have Bp := Lib.hid h1.lt
  have Bq := Lib.hid h2.lt
  have Br := Lib.hid h3.lt
  have Bt := Lib.hid h4.lt
  have e1 := cmpI_zero p r
  have e2 := cmpI_zero q t
  obtain ⟨z1, hz1⟩ : ∃ z, cmpI p r = z := ⟨_, rfl⟩
  obtain ⟨z2, hz2⟩ : ∃ z, cmpI q t = z := ⟨_, rfl⟩
  have hc1 := natCmp_r Wb Hp.out Hr.out (by omega)
  have hc2 := fun wz (h : Below Wb.heap.size Wb wz) => natCmp_r wz (Hq.out.below h) (Ht.out.below h) (by omega)
  simp only [hz1, hz2] at e1 e2 hc1 hc2
  have HC1 := Lib.hid hc1
  have HC2 := Lib.hid hc2
  clear h1 h2 h3 h4 q1 q2 hz1 hz2 hc1 hc2
  by_cases hpr : p = r
  · rw [decide_eq_true hpr] at e1
    obtain ⟨s2, hs2⟩ : ∃ s, decide (q = t) = s := ⟨_, rfl⟩
    rw [hs2] at e2
    have HS : Hid (sameQ p q r t = s2) := Lib.hid (by unfold sameQ; rw [decide_eq_true hpr, hs2]; rfl)
    clear hs2 hpr
    go_enter Tryd.func15, Tryd.ntmps15
    go_wp2_with fail
    refine HC1.out.mono ?_
    rintro en w1 ⟨rfl, hb1⟩
    have y2 := (hb1.cell (World.block_lt_of_cell? _ _ x2)).trans x2
    have y4 := (hb1.cell (World.block_lt_of_cell? _ _ x4)).trans x4
    have HB1 := Lib.hid hb1
    clear hb1
    go_wp2_with fail
    refine (HC2.out w1 HB1.out).mono ?_
    rintro en w2 ⟨rfl, hb2⟩
    go_wp2_with fail
    go_ret
    rw [HS.out]
    exact ⟨rfl, hbb.trans ((HB1.out.trans (hb2.mono HB1.out.size)).mono hbb.size)⟩
  · rw [decide_eq_false hpr] at e1
    have HS : Hid (sameQ p q r t = false) := Lib.hid (by unfold sameQ; rw [decide_eq_false hpr]; rfl)
    clear hpr
    go_enter Tryd.func15, Tryd.ntmps15
    go_wp2_with fail
    refine HC1.out.mono ?_
    rintro en w1 ⟨rfl, hb1⟩
    go_wp2_with fail
    go_ret
    rw [HS.out]
    exact ⟨rfl, hbb.trans (hb1.mono hbb.size)⟩

theorem ratioFloor_r {v1 v2 : Value} {p q M : Nat} (w : World) (h1 : Nr w v1 p M) (h2 : Nr w v2 q M) (hM : M ≤ 1000) :
    Calls Tryd.prog 24 #[.agg #[v1, v2]] w (RetNv w (p / q)) := by
  obtain ⟨A1, n1, c1, rfl⟩ := h1.shape
  obtain ⟨A2, n2, c2, rfl⟩ := h2.shape
  have hb := b1 w (.cells #[.slice A1 n1 c1, .slice A2 n2 c2] 25)
  have x0 := cn0 w 25 (.slice A1 n1 c1) (.slice A2 n2 c2)
  have x1 := cn1 w 25 (.slice A1 n1 c1) (.slice A2 n2 c2)
  have HQ := Lib.hid (quot_r _ (h1.below hb) (h2.below hb) (by omega) (by omega))
  clear h1 h2
  go_enter Tryd.func24, Tryd.ntmps24
  go_wp2_with fail
  refine HQ.out.mono ?_
  rintro en w1 ⟨v, rfl, hv, hb1⟩
  go_wp2_with fail
  go_ret
  exact ⟨_, rfl, hv.more hb.size, hb.trans (hb1.mono hb.size)⟩
end Go.Proofs.YtlnabebjhpdgpaaDoor

namespace Go.Proofs.YtlnabebjhpdgpaaDoor
open Go.RowKit
set_option maxRecDepth 100000

/-- The product of two fractions, as it is made. -/
def mulQ (s q : Nat × Nat) : Nat × Nat :=
  ((s.1 / Nat.gcd s.1 q.2) * (q.1 / Nat.gcd q.1 s.2), (s.2 / Nat.gcd q.1 s.2) * (q.2 / Nat.gcd s.1 q.2))
/-- The difference of two fractions, as it is made. -/
def subQ (s q : Nat × Nat) : Nat × Nat :=
  ((s.1 * (q.2 / Nat.gcd s.2 q.2) - q.1 * (s.2 / Nat.gcd s.2 q.2)) / Nat.gcd (s.1 * (q.2 / Nat.gcd s.2 q.2) - q.1 * (s.2 / Nat.gcd s.2 q.2)) (Nat.gcd s.2 q.2),
   (s.2 / Nat.gcd s.2 q.2) * (q.2 / Nat.gcd (s.1 * (q.2 / Nat.gcd s.2 q.2) - q.1 * (s.2 / Nat.gcd s.2 q.2)) (Nat.gcd s.2 q.2)))
theorem div_lt_of {a b K : Nat} (h : a < K) : a / b < K := Nat.lt_of_le_of_lt (Nat.div_le_self _ _) h

set_option maxHeartbeats 4000000 in
theorem mulTwo_r {v1 v2 v3 v4 : Value} {p q r t M : Nat} (w : World) (h1 : Nr w v1 p M) (h2 : Nr w v2 q M) (h3 : Nr w v3 r M) (h4 : Nr w v4 t M) (hM : M ≤ 5000) :
    Calls Tryd.prog 42 #[.agg #[v1, v2], .agg #[v3, v4]] w (RetQ w (mulQ (p, q) (r, t)).1 (mulQ (p, q) (r, t)).2) := by
  obtain ⟨A1, n1, c1, rfl⟩ := h1.shape
  obtain ⟨A2, n2, c2, rfl⟩ := h2.shape
  obtain ⟨A3, n3, c3, rfl⟩ := h3.shape
  obtain ⟨A4, n4, c4, rfl⟩ := h4.shape
  obtain ⟨W1, hW1⟩ : ∃ W1, w.alloc (.cells #[.slice A1 n1 c1, .slice A2 n2 c2] 25) = W1 := ⟨_, rfl⟩
  obtain ⟨W2, hW2⟩ : ∃ W2, W1.alloc (.cells #[.slice A3 n3 c3, .slice A4 n4 c4] 25) = W2 := ⟨_, rfl⟩
  obtain ⟨Wb, hW3⟩ : ∃ Wb, W2.alloc (.cells #[.slice none 0 0, .slice none 0 0] 25) = Wb := ⟨_, rfl⟩
  have s1 : W1.heap.size = w.heap.size + 1 := by rw [← hW1]; simp
  have s2 : W2.heap.size = w.heap.size + 1 + 1 := by rw [← hW2]; simp [s1]
  have s3 : Wb.heap.size = w.heap.size + 1 + 1 + 1 := by rw [← hW3]; simp [s2]
  have e1 : Below w.heap.size w W1 := by rw [← hW1]; exact b1 _ _
  have e2 : Below w.heap.size w W2 := by rw [← hW2]; exact e1.trans ((b1 _ _).mono e1.size)
  have hbb : Below w.heap.size w Wb := by rw [← hW3]; exact e2.trans ((b1 _ _).mono e2.size)
  have q1 : Blk Wb w.heap.size 25 #[.slice A1 n1 c1, .slice A2 n2 c2] := by rw [← hW3, ← hW2, ← hW1]; exact ((Blk.new _ _ _).alloc _).alloc _
  have q2 : Blk Wb (w.heap.size + 1) 25 #[.slice A3 n3 c3, .slice A4 n4 c4] := by rw [← hW3, ← hW2, ← s1]; exact (Blk.new _ _ _).alloc _
  have q3 : Blk Wb (w.heap.size + 1 + 1) 25 #[.slice none 0 0, .slice none 0 0] := by rw [← hW3, ← s2]; exact Blk.new _ _ _
  have hWb : ((w.alloc (.cells #[.slice A1 n1 c1, .slice A2 n2 c2] 25)).alloc (.cells #[.slice A3 n3 c3, .slice A4 n4 c4] 25)).alloc (.cells #[.slice none 0 0, .slice none 0 0] 25) = Wb := by rw [hW1, hW2, hW3]
  clear hW1 hW2 hW3 e1 e2 s1 s2
  have x1 : Wb.cell? ⟨w.heap.size, 0, none⟩ = some (.slice A1 n1 c1) := q1.cell 0
  have x2 : Wb.cell? ⟨w.heap.size, 1, none⟩ = some (.slice A2 n2 c2) := q1.cell 1
  have x3 : Wb.cell? ⟨w.heap.size + 1, 0, none⟩ = some (.slice A3 n3 c3) := q2.cell 0
  have x4 : Wb.cell? ⟨w.heap.size + 1, 1, none⟩ = some (.slice A4 n4 c4) := q2.cell 1
  have Hp := Lib.hid (h1.below hbb)
  have Hq := Lib.hid (h2.below hbb)
  have Hr := Lib.hid (h3.below hbb)
  have Ht := Lib.hid (h4.below hbb)
  have Bp := Lib.hid h1.lt
  have Bq := Lib.hid h2.lt
  have Br := Lib.hid h3.lt
  have Bt := Lib.hid h4.lt
  have Q1 := Lib.hid q1
  have Q2 := Lib.hid q2
  have Q3 := Lib.hid q3
  have HBB := Lib.hid hbb
  have HZ := Lib.hid s3
  clear h1 h2 h3 h4 q1 q2 q3 hbb s3
  go_enter Tryd.func42, Tryd.ntmps42
  go_wp2_with fail
  clear hWb
  refine (shares_r Wb Hp.out Ht.out (by omega)).mono ?_
  rintro e w1 ⟨C1, i1, d1, C2, i2, d2, C3, i3, d3, rfl, hc1, ha1, hb1, hB1⟩
  have y2 : w1.cell? ⟨w.heap.size, 1, none⟩ = some (.slice A2 n2 c2) := (hB1.cell (World.block_lt_of_cell? _ _ x2)).trans x2
  have y3 : w1.cell? ⟨w.heap.size + 1, 0, none⟩ = some (.slice A3 n3 c3) := (hB1.cell (World.block_lt_of_cell? _ _ x3)).trans x3
  have N1 := Lib.hid (ha1.nr (div_lt_of Bp.out))
  have N2 := Lib.hid (hb1.nr (div_lt_of Bt.out))
  have HC1 := Lib.hid hc1
  have HB1 := Lib.hid hB1
  clear hc1 ha1 hb1 hB1 x1 x2 x3 x4
  go_wp2_with fail
  refine (shares_r w1 (Hr.out.below HB1.out) (Hq.out.below HB1.out) (by omega)).mono ?_
  rintro e w2 ⟨C4, i4, d4, C5, i5, d5, C6, i6, d6, rfl, hc2, ha2, hb2, hB2⟩
  have N3 := Lib.hid (ha2.nr (div_lt_of Br.out))
  have N4 := Lib.hid (hb2.nr (div_lt_of Bq.out))
  have N1 := Lib.hid (N1.out.below hB2)
  have N2 := Lib.hid (N2.out.below hB2)
  have HB2 := Lib.hid (HB1.out.trans (hB2.mono HB1.out.size))
  clear hc2 ha2 hb2 hB2 y2 y3
  have hm1 := mul_new w2 N1.out N3.out hM
  go_wp2_with fail
  refine hm1.mono ?_
  rintro e w3 ⟨u1, rfl, hu1, hb3⟩
  obtain ⟨D1, j1, k1, rfl⟩ := hu1.shape
  have hx3 := (b1 w2 (.cells #[.slice C2 i2 d2, .slice C5 i5 d5] 23))
  have hB3 := hx3.trans (hb3.mono hx3.size)
  have N2 := Lib.hid (N2.out.below hB3)
  have N4 := Lib.hid (N4.out.below hB3)
  have U1 := Lib.hid (hu1.more (Nat.le_trans HB2.out.size hx3.size))
  have HB3 := Lib.hid (HB2.out.trans (hB3.mono HB2.out.size))
  clear hu1 hb3 hx3 hB3 hm1
  have hm2 := mul_new w3 N4.out N2.out hM
  go_wp2_with fail
  refine hm2.mono ?_
  rintro e w4 ⟨u2, rfl, hu2, hb4⟩
  obtain ⟨D2, j2, k2, rfl⟩ := hu2.shape
  have hx4 := (b1 w3 (.cells #[.slice C6 i6 d6, .slice C3 i3 d3] 23))
  have hB4 := hx4.trans (hb4.mono hx4.size)
  have U1 := Lib.hid (U1.out.below hB4)
  have U2 := Lib.hid (hu2.more (Nat.le_trans HB3.out.size hx4.size))
  have hB5 := HB3.out.trans (hB4.mono HB3.out.size)
  have Q4 := Q3.out.below hB5 (by have := HZ.out; omega)
  have HB5 := Lib.hid (HBB.out.trans (hB5.mono HBB.out.size))
  have kk0 := Q4.cell 0
  have kk1 := Q4.cell 1
  have f0 := Q4.frozen 0
  have f1 := Q4.frozen 1
  have HQ4 := Lib.hid Q4
  have hl : w.heap.size + 1 + 1 < Wb.heap.size := by have := HZ.out; omega
  have HL := Lib.hid hl
  clear hu2 hb4 hx4 hB4 hm2 Q4 hB5 hl
  go_wp2_with fail
  have hp := put_q HQ4.out (.slice D1 j1 k1) (.slice D2 j2 k2)
  exact bodyPost_ret (v := .agg #[.slice D1 j1 k1, .slice D2 j2 k2]) (by simp [results, Tryd.results42, go_sem, hp.cell 0, hp.cell 1]) rfl
    ⟨_, _, _, _, _, _, rfl, (U1.out.put_q HL.out _ _).more HBB.out.size, (U2.out.put_q HL.out _ _).more HBB.out.size, (HB5.out.setCell (by show w.heap.size ≤ w.heap.size + 1 + 1; omega) _).setCell (by show w.heap.size ≤ w.heap.size + 1 + 1; omega) _⟩

theorem natSubNo_r {v1 v2 : Value} {a b M : Nat} (w : World) (h1 : Nr w v1 a M) (h2 : Nr w v2 b M) (hM : M ≤ 100000) (hlt : a < b) : Calls Tryd.prog 44 #[v1, v2] w fun e w' => e = .returned (.tuple #[.slice none 0 0, .bool false]) ∧ Below w.heap.size w w' := by
  obtain ⟨A1, xs, n1, c1, rfl, hl1, hc1, hr1, hd1, rfl, hn1⟩ := h1
  obtain ⟨A2, ys, n2, c2, rfl, hl2, hc2, hr2, hd2, rfl, hn2⟩ := h2
  exact natSub_no A1 A2 xs ys n1 c1 n2 c2 w hl1 hl2 hr1 hr2 hd1 hd2 (by omega) (by omega) hc1 hc2 hlt
theorem natSubYes_r {v1 v2 : Value} {a b M : Nat} (w : World) (h1 : Nr w v1 a M) (h2 : Nr w v2 b M) (hM : M ≤ 100000) (hle : b ≤ a) : Calls Tryd.prog 44 #[v1, v2] w fun e w' => ∃ v, e = .returned (.tuple #[v, .bool true]) ∧ Nv w' w.heap.size v (a - b) ∧ Below w.heap.size w w' := by
  obtain ⟨A1, xs, n1, c1, rfl, hl1, hc1, hr1, hd1, rfl, hn1⟩ := h1
  obtain ⟨A2, ys, n2, c2, rfl, hl2, hc2, hr2, hd2, rfl, hn2⟩ := h2
  exact natSub_yes A1 A2 xs ys n1 c1 n2 c2 w hl1 hl2 hr1 hr2 hd1 hd2 (by omega) (by omega) hc1 hc2 hle

set_option maxHeartbeats 4000000 in
theorem ratioDiv_no {v1 v2 v3 v4 : Value} {p q r t M : Nat} (w : World) (h1 : Nr w v1 p M) (h2 : Nr w v2 q M) (h3 : Nr w v3 r M) (h4 : Nr w v4 t M) (hM : M ≤ 5000) (hr0 : r = 0) :
    Calls Tryd.prog 19 #[.agg #[v1, v2], .agg #[v3, v4]] w (RetQf w) := by
  obtain ⟨A1, n1, c1, rfl⟩ := h1.shape
  obtain ⟨A2, n2, c2, rfl⟩ := h2.shape
  obtain ⟨A3, n3, c3, rfl⟩ := h3.shape
  obtain ⟨A4, n4, c4, rfl⟩ := h4.shape
  obtain ⟨W1, hW1⟩ : ∃ W1, w.alloc (.cells #[.slice A1 n1 c1, .slice A2 n2 c2] 25) = W1 := ⟨_, rfl⟩
  obtain ⟨W2, hW2⟩ : ∃ W2, W1.alloc (.cells #[.slice A3 n3 c3, .slice A4 n4 c4] 25) = W2 := ⟨_, rfl⟩
  obtain ⟨Wb, hW3⟩ : ∃ Wb, W2.alloc (.cells #[.slice none 0 0, .slice none 0 0] 25) = Wb := ⟨_, rfl⟩
  have s1 : W1.heap.size = w.heap.size + 1 := by rw [← hW1]; simp
  have s2 : W2.heap.size = w.heap.size + 1 + 1 := by rw [← hW2]; simp [s1]
  have s3 : Wb.heap.size = w.heap.size + 1 + 1 + 1 := by rw [← hW3]; simp [s2]
  have e1 : Below w.heap.size w W1 := by rw [← hW1]; exact b1 _ _
  have e2 : Below w.heap.size w W2 := by rw [← hW2]; exact e1.trans ((b1 _ _).mono e1.size)
  have hbb : Below w.heap.size w Wb := by rw [← hW3]; exact e2.trans ((b1 _ _).mono e2.size)
  have q1 : Blk Wb w.heap.size 25 #[.slice A1 n1 c1, .slice A2 n2 c2] := by rw [← hW3, ← hW2, ← hW1]; exact ((Blk.new _ _ _).alloc _).alloc _
  have q2 : Blk Wb (w.heap.size + 1) 25 #[.slice A3 n3 c3, .slice A4 n4 c4] := by rw [← hW3, ← hW2, ← s1]; exact (Blk.new _ _ _).alloc _
  have q3 : Blk Wb (w.heap.size + 1 + 1) 25 #[.slice none 0 0, .slice none 0 0] := by rw [← hW3, ← s2]; exact Blk.new _ _ _
  have hWb : ((w.alloc (.cells #[.slice A1 n1 c1, .slice A2 n2 c2] 25)).alloc (.cells #[.slice A3 n3 c3, .slice A4 n4 c4] 25)).alloc (.cells #[.slice none 0 0, .slice none 0 0] 25) = Wb := by rw [hW1, hW2, hW3]
  clear hW1 hW2 hW3 e1 e2 s1 s2
  have x1 : Wb.cell? ⟨w.heap.size, 0, none⟩ = some (.slice A1 n1 c1) := q1.cell 0
  have x2 : Wb.cell? ⟨w.heap.size, 1, none⟩ = some (.slice A2 n2 c2) := q1.cell 1
  have x3 : Wb.cell? ⟨w.heap.size + 1, 0, none⟩ = some (.slice A3 n3 c3) := q2.cell 0
  have x4 : Wb.cell? ⟨w.heap.size + 1, 1, none⟩ = some (.slice A4 n4 c4) := q2.cell 1
  have Hp := Lib.hid (h1.below hbb)
  have Hq := Lib.hid (h2.below hbb)
  have Hr := Lib.hid (h3.below hbb)
  have Ht := Lib.hid (h4.below hbb)
  have Bp := Lib.hid h1.lt
  have Bq := Lib.hid h2.lt
  have Br := Lib.hid h3.lt
  have Bt := Lib.hid h4.lt
  have Q1 := Lib.hid q1
  have Q2 := Lib.hid q2
  have Q3 := Lib.hid q3
  have HBB := Lib.hid hbb
  have HZ := Lib.hid s3
  have hz := isZero_r true Wb Hr.out (by omega) (by simp [hr0])
  have k0 := q3.cell 0
  have k1 := q3.cell 1
  have f0 := q3.frozen 0
  have f1 := q3.frozen 1
  clear h1 h2 h3 h4 q1 q2 q3 hbb s3 hr0
  go_enter Tryd.func19, Tryd.ntmps19
  go_wp2_with fail
  clear hWb
  refine hz.mono ?_
  rintro e w1 ⟨rfl, rfl⟩
  go_wp2_with fail
  have hp := put_q Q3.out (.slice none 0 0) (.slice none 0 0)
  first
    | exact bodyPost_ret (v := .tuple #[.agg #[.slice none 0 0, .slice none 0 0], .bool false]) (by simp [results, Tryd.results19, go_sem, hp.cell 0, hp.cell 1]) rfl ⟨rfl, (HBB.out.setCell (by show w.heap.size ≤ w.heap.size + 1 + 1; omega) _).setCell (by show w.heap.size ≤ w.heap.size + 1 + 1; omega) _⟩
    | exact bodyPost_ret (v := .tuple #[.agg #[.slice none 0 0, .slice none 0 0], .bool false]) (by simp [results, Tryd.results19, go_sem, k0, k1]) rfl ⟨rfl, HBB.out⟩

set_option maxHeartbeats 4000000 in
theorem ratioDiv_r {v1 v2 v3 v4 : Value} {p q r t M : Nat} (w : World) (h1 : Nr w v1 p M) (h2 : Nr w v2 q M) (h3 : Nr w v3 r M) (h4 : Nr w v4 t M) (hM : M ≤ 5000) (hr0 : 0 < r) :
    Calls Tryd.prog 19 #[.agg #[v1, v2], .agg #[v3, v4]] w (RetQt w (mulQ (p, q) (t, r)).1 (mulQ (p, q) (t, r)).2) := by
  obtain ⟨A1, n1, c1, rfl⟩ := h1.shape
  obtain ⟨A2, n2, c2, rfl⟩ := h2.shape
  obtain ⟨A3, n3, c3, rfl⟩ := h3.shape
  obtain ⟨A4, n4, c4, rfl⟩ := h4.shape
  obtain ⟨W1, hW1⟩ : ∃ W1, w.alloc (.cells #[.slice A1 n1 c1, .slice A2 n2 c2] 25) = W1 := ⟨_, rfl⟩
  obtain ⟨W2, hW2⟩ : ∃ W2, W1.alloc (.cells #[.slice A3 n3 c3, .slice A4 n4 c4] 25) = W2 := ⟨_, rfl⟩
  obtain ⟨Wb, hW3⟩ : ∃ Wb, W2.alloc (.cells #[.slice none 0 0, .slice none 0 0] 25) = Wb := ⟨_, rfl⟩
  have s1 : W1.heap.size = w.heap.size + 1 := by rw [← hW1]; simp
  have s2 : W2.heap.size = w.heap.size + 1 + 1 := by rw [← hW2]; simp [s1]
  have s3 : Wb.heap.size = w.heap.size + 1 + 1 + 1 := by rw [← hW3]; simp [s2]
  have e1 : Below w.heap.size w W1 := by rw [← hW1]; exact b1 _ _
  have e2 : Below w.heap.size w W2 := by rw [← hW2]; exact e1.trans ((b1 _ _).mono e1.size)
  have hbb : Below w.heap.size w Wb := by rw [← hW3]; exact e2.trans ((b1 _ _).mono e2.size)
  have q1 : Blk Wb w.heap.size 25 #[.slice A1 n1 c1, .slice A2 n2 c2] := by rw [← hW3, ← hW2, ← hW1]; exact ((Blk.new _ _ _).alloc _).alloc _
  have q2 : Blk Wb (w.heap.size + 1) 25 #[.slice A3 n3 c3, .slice A4 n4 c4] := by rw [← hW3, ← hW2, ← s1]; exact (Blk.new _ _ _).alloc _
  have q3 : Blk Wb (w.heap.size + 1 + 1) 25 #[.slice none 0 0, .slice none 0 0] := by rw [← hW3, ← s2]; exact Blk.new _ _ _
  have hWb : ((w.alloc (.cells #[.slice A1 n1 c1, .slice A2 n2 c2] 25)).alloc (.cells #[.slice A3 n3 c3, .slice A4 n4 c4] 25)).alloc (.cells #[.slice none 0 0, .slice none 0 0] 25) = Wb := by rw [hW1, hW2, hW3]
  clear hW1 hW2 hW3 e1 e2 s1 s2
  have x1 : Wb.cell? ⟨w.heap.size, 0, none⟩ = some (.slice A1 n1 c1) := q1.cell 0
  have x2 : Wb.cell? ⟨w.heap.size, 1, none⟩ = some (.slice A2 n2 c2) := q1.cell 1
  have x3 : Wb.cell? ⟨w.heap.size + 1, 0, none⟩ = some (.slice A3 n3 c3) := q2.cell 0
  have x4 : Wb.cell? ⟨w.heap.size + 1, 1, none⟩ = some (.slice A4 n4 c4) := q2.cell 1
  have Hp := Lib.hid (h1.below hbb)
  have Hq := Lib.hid (h2.below hbb)
  have Hr := Lib.hid (h3.below hbb)
  have Ht := Lib.hid (h4.below hbb)
  have Bp := Lib.hid h1.lt
  have Bq := Lib.hid h2.lt
  have Br := Lib.hid h3.lt
  have Bt := Lib.hid h4.lt
  have Q1 := Lib.hid q1
  have Q2 := Lib.hid q2
  have Q3 := Lib.hid q3
  have HBB := Lib.hid hbb
  have HZ := Lib.hid s3
  have hz := isZero_r false Wb Hr.out (by omega) (by simp; omega)
  have hm := mulTwo_r Wb Hp.out Hq.out Ht.out Hr.out (by omega)
  have HM := Lib.hid hm
  clear h1 h2 h3 h4 q1 q2 q3 hbb s3 hr0 hm
  go_enter Tryd.func19, Tryd.ntmps19
  go_wp2_with fail
  clear hWb
  refine hz.mono ?_
  rintro e w1 ⟨rfl, rfl⟩
  clear hz
  go_wp2_with fail
  refine HM.out.mono ?_
  rintro e w2 ⟨D1, j1, d1, D2, j2, d2, rfl, hx, hy, hb2⟩
  have hl : w.heap.size + 1 + 1 < Wb.heap.size := by have := HZ.out; omega
  have Q4 := Q3.out.below hb2 hl
  have HB5 := Lib.hid (HBB.out.trans (hb2.mono HBB.out.size))
  have kk0 := Q4.cell 0
  have kk1 := Q4.cell 1
  have f0 := Q4.frozen 0
  have f1 := Q4.frozen 1
  have HQ4 := Lib.hid Q4
  have HL := Lib.hid hl
  have HX := Lib.hid hx
  have HY := Lib.hid hy
  clear Q4 hl hx hy hb2 HM
  go_wp2_with fail
  have hp := put_q HQ4.out (.slice D1 j1 d1) (.slice D2 j2 d2)
  exact bodyPost_ret (v := .tuple #[.agg #[.slice D1 j1 d1, .slice D2 j2 d2], .bool true]) (by simp [results, Tryd.results19, go_sem, hp.cell 0, hp.cell 1]) rfl
    ⟨_, _, _, _, _, _, rfl, (HX.out.put_q HL.out _ _).more HBB.out.size, (HY.out.put_q HL.out _ _).more HBB.out.size, (HB5.out.setCell (by show w.heap.size ≤ w.heap.size + 1 + 1; omega) _).setCell (by show w.heap.size ≤ w.heap.size + 1 + 1; omega) _⟩

set_option maxHeartbeats 2000000 in
theorem ratioOne_r (w : World) : Calls Tryd.prog 41 #[] w (RetQ w 1 1) := by
  have hb := b1 w (.cells #[.slice none 0 0, .slice none 0 0] 25)
  obtain ⟨W0, hW0⟩ : ∃ W0, w.alloc (.cells #[.slice none 0 0, .slice none 0 0] 25) = W0 := ⟨_, rfl⟩
  have hbk := nilbox w
  rw [hW0] at hb hbk
  have hl := hbk.lt
  have h1 := natOf_any 1
  go_enter Tryd.func41, Tryd.ntmps41
  go_wp2_with fail
  refine (h1 W0 (by omega)).mono ?_
  rintro e w1 ⟨v1, rfl, hv1, hb1⟩
  obtain ⟨A1, n1, c1, rfl⟩ := hv1.shape
  have hbk1 := hbk.below hb1 hbk.lt
  have hB1 := hb.trans (hb1.mono hb.size)
  have HV1 := Lib.hid hv1
  clear hv1
  go_wp2_with fail
  refine (h1 w1 (by omega)).mono ?_
  rintro e w2 ⟨v2, rfl, hv2, hb2⟩
  obtain ⟨A2, n2, c2, rfl⟩ := hv2.shape
  have hbk2 := hbk1.below hb2 hbk1.lt
  have hB2 := hB1.trans (hb2.mono hB1.size)
  have k0 := hbk2.cell 0
  have k1 := hbk2.cell 1
  have f0 := hbk2.frozen 0
  have f1 := hbk2.frozen 1
  have HX := Lib.hid (HV1.out.below hb2)
  have HY := Lib.hid (hv2.more (show W0.heap.size ≤ w1.heap.size from hb1.size))
  have HBK := Lib.hid hbk2
  clear hv2 hbk hbk1 hbk2 hb2 hb1
  go_wp2_with fail
  have hp := put_q HBK.out (.slice A1 n1 c1) (.slice A2 n2 c2)
  exact bodyPost_ret (v := .agg #[.slice A1 n1 c1, .slice A2 n2 c2]) (by simp [results, Tryd.results41, go_sem, hp.cell 0, hp.cell 1]) rfl
    ⟨_, _, _, _, _, _, rfl, (HX.out.put_q hl _ _).more (by omega), (HY.out.put_q hl _ _).more (by omega), (hB2.setCell (Nat.le_refl _) _).setCell (Nat.le_refl _) _⟩

set_option maxHeartbeats 8000000 in
theorem ratioMul_r (A : Option Addr) (L : List (Nat × Nat)) (n c M : Nat) (w : World) (hl : L.length = n) (hr : Rats w w.heap.size A L M) (hn : n ≤ 20) (hM : M ≤ 100) :
    Calls Tryd.prog 11 #[.slice A n c] w (RetQ w (L.foldl mulQ (1, 1)).1 (L.foldl mulQ (1, 1)).2) := by
  have HL := Lib.hid hl
  have HR := Lib.hid hr
  clear hl hr
  have hb := b1 w (.cells #[.slice none 0 0, .slice none 0 0] 25)
  have hbk := nilbox w
  obtain ⟨W0, hW0⟩ : ∃ W0, w.alloc (.cells #[.slice none 0 0, .slice none 0 0] 25) = W0 := ⟨_, rfl⟩
  rw [hW0] at hb hbk
  have hl0 := hbk.lt
  have HB0 := Lib.hid hbk
  clear hbk
  go_enter Tryd.func11, Tryd.ntmps11
  go_wp2_with fail
  refine (ratioOne_r W0).mono ?_
  rintro e w1 ⟨B1, i1, e1, B2, i2, e2, rfl, hx, hy, hb1⟩
  have hs1 := hb1.size
  have ha1 := b1 w1 (.cells #[.slice B1 i1 e1, .slice B2 i2 e2] 25)
  have hm0 : AddM w w1.heap.size 1 1 (.slice B1 i1 e1) (.slice B2 i2 e2) (w1.alloc (.cells #[.slice B1 i1 e1, .slice B2 i2 e2] 25)) :=
    ⟨(hb.trans (hb1.mono hb.size)).trans (ha1.mono (by omega)), (HB0.out.below hb1 hl0).alloc _, Blk.new _ _ _, (hx.below ha1).more (by omega), (hy.below ha1).more (by omega), by omega⟩
  have HM0 := Lib.hid hm0
  clear hx hy hm0
  go_wp2_with fail
  clear hW0
  go_loopw [9] (fun iv wr => ∃ (k x y : Nat) (A1 : Option Addr) (n1 c1 : Nat) (A2 : Option Addr) (n2 c2 : Nat), iv = .int .i64 (k : Int) ∧ k ≤ n ∧ AddM w w1.heap.size x y (.slice A1 n1 c1) (.slice A2 n2 c2) wr ∧ (L.take k).foldl mulQ (1, 1) = (x, y) ∧ x < 4294967296 ^ (k * M + 1) ∧ y < 4294967296 ^ (k * M + 1)) (fun iv _ => n - (intOf iv).toNat)
  case atStart => exact ⟨0, 1, 1, B1, i1, e1, B2, i2, e2, rfl, by omega, HM0.out, rfl, by simp, by simp⟩
  case round =>
    clear HM0 hb1 ha1
    obtain ⟨k, x, y, A1, n1, c1, A2, n2, c2, rfl, hk, hm, hf, hxs, hys⟩ := hrel
    have HM := Lib.hid hm
    have HF := Lib.hid hf
    have HXS := Lib.hid hxs
    have HYS := Lib.hid hys
    have t0 : wr.cell? ⟨w1.heap.size, 0, none⟩ = some (.slice A1 n1 c1) := hm.sum.cell 0
    have t1 : wr.cell? ⟨w1.heap.size, 1, none⟩ = some (.slice A2 n2 c2) := hm.sum.cell 1
    have hsl := hm.sum.lt
    clear hm hf hxs hys
    by_cases hkn : k < n
    · obtain ⟨q, hq⟩ : ∃ q, L[k]? = some q := ⟨_, List.getElem?_eq_getElem (by have := HL.out; omega)⟩
      obtain ⟨b, o, A3, n3, c3, A4, n4, c4, hA, hbl, d0, d1, hq1, hq2⟩ := (HR.out.below HM.out.below) k q hq
      subst hA
      have HQ := Lib.hid hq
      have HQ1 := Lib.hid hq1
      have HQ2 := Lib.hid hq2
      have hk0 : (0 : Int) ≤ (k : Int) := by omega
      have hk1 : (k : Int) < (n : Int) := by omega
      clear hq hq1 hq2
      have hK : k * M ≤ 20 * 100 := Nat.mul_le_mul (by omega) (by omega)
      obtain ⟨K, hKK⟩ : ∃ K, k * M + 1 = K := ⟨_, rfl⟩
      rw [hKK] at HXS HYS
      have hKb : K ≤ 2100 := by omega
      obtain ⟨E, hE1, hE2⟩ : ∃ E, 2200 ≤ E ∧ E ≤ 2200 := ⟨2200, Nat.le_refl _, Nat.le_refl _⟩
      have HKK := Lib.hid hKK
      clear hKK hK
      have hba := b1 wr (.cells #[.slice A3 n3 c3, .slice A4 n4 c4] 25)
      have hm2 := HM.out.step hba
      have g0 : (wr.alloc (.cells #[.slice A3 n3 c3, .slice A4 n4 c4] 25)).cell? ⟨wr.heap.size, 0, none⟩ = some (.slice A3 n3 c3) := cn0 _ _ _ _
      have g1 : (wr.alloc (.cells #[.slice A3 n3 c3, .slice A4 n4 c4] 25)).cell? ⟨wr.heap.size, 1, none⟩ = some (.slice A4 n4 c4) := cn1 _ _ _ _
      go_upto_region 5 with (fail)
      obtain ⟨g5, hg5⟩ : ∃ g5, wr.heap.size = g5 := ⟨_, rfl⟩
      obtain ⟨W5, hW5⟩ : ∃ W5, wr.alloc (.cells #[.slice A3 n3 c3, .slice A4 n4 c4] 25) = W5 := ⟨_, rfl⟩
      have HQ1' := Lib.hid (HQ1.out.below hba)
      have HQ2' := Lib.hid (HQ2.out.below hba)
      have hg5l : g5 < W5.heap.size := by rw [← hW5, ← hg5]; simp
      rw [hW5] at hm2 g0 g1 HQ1' HQ2'
      rw [hg5] at g0 g1 hsl
      rw [hg5, hW5]
      have s0 : W5.cell? ⟨w1.heap.size, 0, none⟩ = some (.slice A1 n1 c1) := hm2.sum.cell 0
      have s1 : W5.cell? ⟨w1.heap.size, 1, none⟩ = some (.slice A2 n2 c2) := hm2.sum.cell 1
      have hsl5 := hm2.sum.lt
      have HM2 := Lib.hid hm2
      have hov := mulTwo_r (p := x) (q := y) (r := q.1) (t := q.2) (M := E) W5 ((hm2.nx.nr HXS.out).more (by omega)) ((hm2.ny.nr HYS.out).more (by omega)) (HQ1'.out.more (by omega)) (HQ2'.out.more (by omega)) (by omega)
      have hsmall : (mulQ (x, y) q).1 < 4294967296 ^ ((k + 1) * M + 1) ∧ (mulQ (x, y) q).2 < 4294967296 ^ ((k + 1) * M + 1) := by
        have e : (k + 1) * M + 1 = K + M := by rw [← HKK.out, Nat.add_mul]; omega
        have h := (HR.out k q HQ.out)
        obtain ⟨_, _, _, _, _, _, _, _, _, _, _, _, h5, h6⟩ := h
        rw [e]
        exact ⟨mul_small (div_lt_of HXS.out) (div_lt_of h5.lt), mul_small (div_lt_of HYS.out) (div_lt_of h6.lt)⟩
      have HSM := Lib.hid hsmall
      have HOV := Lib.hid hov
      clear hW5 hg5 hba hm2 HQ1 HQ2 HM t0 t1 d0 d1 hov hsmall
      go_wp2_with fail
      refine HOV.out.mono ?_
      rintro e w8 ⟨D1, i7, e7, D2, i8, e8, rfl, hx8, hy8, hb8⟩
      have hm8 := HM2.out.step hb8
      have s80 : w8.cell? ⟨w1.heap.size, 0, none⟩ = some (.slice A1 n1 c1) := hm8.sum.cell 0
      have s81 : w8.cell? ⟨w1.heap.size, 1, none⟩ = some (.slice A2 n2 c2) := hm8.sum.cell 1
      have f80 := hm8.sum.frozen 0
      have f81 := hm8.sum.frozen 1
      have HX8 := Lib.hid (hx8.more HM2.out.below.size)
      have HY8 := Lib.hid (hy8.more HM2.out.below.size)
      have HM8 := Lib.hid hm8
      have hs8 := hm8.sum.lt
      clear hx8 hy8 hm8 hb8 HOV s0 s1 g0 g1
      go_wp2_with fail
      go_roundw
      case rel =>
        have hfar := HM8.out.far
        have s81' : (w8.setCell ⟨w1.heap.size, 0, none⟩ (.slice D1 i7 e7)).cell? ⟨w1.heap.size, 1, none⟩ = some (.slice A2 n2 c2) := (World.cell?_setCell_other _ _ _ _ (by intro e; injection e; omega)).trans s81
        refine ⟨k + 1, _, _, D1, i7, e7, D2, i8, e8, by go_num, by omega, ⟨?_, ?_, put_q HM8.out.sum _ _, ?_, ?_, hfar⟩, ?_, HSM.out.1, HSM.out.2⟩
        · exact (HM8.out.below.setCell (by show w.heap.size ≤ w1.heap.size; omega) _).setCell (by show w.heap.size ≤ w1.heap.size; omega) _
        · exact (HM8.out.res.far (by show w.heap.size ≠ w1.heap.size; omega) _).far (by show w.heap.size ≠ w1.heap.size; omega) _
        · exact (HX8.out.setS s80).setS s81'
        · exact (HY8.out.setS s80).setS s81'
        · rw [take_snoc_some HQ.out, List.foldl_append, HF.out, List.foldl_cons, List.foldl_nil]
      case measure => simp [intOf]; omega
    · obtain rfl : k = n := by omega
      have hfin : L.foldl mulQ (1, 1) = (x, y) := by have h := HF.out; rwa [List.take_of_length_le (by have := HL.out; omega)] at h
      have HFIN := Lib.hid hfin
      have k0 : wr.cell? ⟨w.heap.size, 0, none⟩ = some (.slice none 0 0) := HM.out.res.cell 0
      have k1 : wr.cell? ⟨w.heap.size, 1, none⟩ = some (.slice none 0 0) := HM.out.res.cell 1
      have f0 := HM.out.res.frozen 0
      have f1 := HM.out.res.frozen 1
      clear hfin
      go_wp2_with fail
      have hp := put_q HM.out.res (.slice A1 n1 c1) (.slice A2 n2 c2)
      have k1' : (wr.setCell ⟨w.heap.size, 0, none⟩ (.slice A1 n1 c1)).cell? ⟨w.heap.size, 1, none⟩ = some (.slice none 0 0) := (World.cell?_setCell_other _ _ _ _ (by intro e; injection e; omega)).trans k1
      refine bodyPost_ret (v := .agg #[.slice A1 n1 c1, .slice A2 n2 c2]) (by simp [results, Tryd.results11, go_sem, hp.cell 0, hp.cell 1]) rfl
        ⟨_, _, _, _, _, _, rfl, ?_, ?_, (HM.out.below.setCell (Nat.le_refl _) _).setCell (Nat.le_refl _) _⟩
      · rw [HFIN.out]; exact (HM.out.nx.setS k0).setS k1'
      · rw [HFIN.out]; exact (HM.out.ny.setS k0).setS k1'

set_option maxHeartbeats 8000000 in
theorem ratioSub_no {v1 v2 v3 v4 : Value} {p q r t M : Nat} (w : World) (h1 : Nr w v1 p M) (h2 : Nr w v2 q M) (h3 : Nr w v3 r M) (h4 : Nr w v4 t M) (hM : M ≤ 2000) (hlt : p * (t / Nat.gcd q t) < r * (q / Nat.gcd q t)) :
    Calls Tryd.prog 16 #[.agg #[v1, v2], .agg #[v3, v4]] w (RetQf w) := by
  have HLT := Lib.hid hlt
  clear hlt
  obtain ⟨A1, n1, c1, rfl⟩ := h1.shape
  obtain ⟨A2, n2, c2, rfl⟩ := h2.shape
  obtain ⟨A3, n3, c3, rfl⟩ := h3.shape
  obtain ⟨A4, n4, c4, rfl⟩ := h4.shape
  obtain ⟨W1, hW1⟩ : ∃ W1, w.alloc (.cells #[.slice A1 n1 c1, .slice A2 n2 c2] 25) = W1 := ⟨_, rfl⟩
  obtain ⟨W2, hW2⟩ : ∃ W2, W1.alloc (.cells #[.slice A3 n3 c3, .slice A4 n4 c4] 25) = W2 := ⟨_, rfl⟩
  obtain ⟨Wb, hW3⟩ : ∃ Wb, W2.alloc (.cells #[.slice none 0 0, .slice none 0 0] 25) = Wb := ⟨_, rfl⟩
  have s1 : W1.heap.size = w.heap.size + 1 := by rw [← hW1]; simp
  have s2 : W2.heap.size = w.heap.size + 1 + 1 := by rw [← hW2]; simp [s1]
  have s3 : Wb.heap.size = w.heap.size + 1 + 1 + 1 := by rw [← hW3]; simp [s2]
  have e1 : Below w.heap.size w W1 := by rw [← hW1]; exact b1 _ _
  have e2 : Below w.heap.size w W2 := by rw [← hW2]; exact e1.trans ((b1 _ _).mono e1.size)
  have hbb : Below w.heap.size w Wb := by rw [← hW3]; exact e2.trans ((b1 _ _).mono e2.size)
  have q1 : Blk Wb w.heap.size 25 #[.slice A1 n1 c1, .slice A2 n2 c2] := by rw [← hW3, ← hW2, ← hW1]; exact ((Blk.new _ _ _).alloc _).alloc _
  have q2 : Blk Wb (w.heap.size + 1) 25 #[.slice A3 n3 c3, .slice A4 n4 c4] := by rw [← hW3, ← hW2, ← s1]; exact (Blk.new _ _ _).alloc _
  have q3 : Blk Wb (w.heap.size + 1 + 1) 25 #[.slice none 0 0, .slice none 0 0] := by rw [← hW3, ← s2]; exact Blk.new _ _ _
  have hWb : ((w.alloc (.cells #[.slice A1 n1 c1, .slice A2 n2 c2] 25)).alloc (.cells #[.slice A3 n3 c3, .slice A4 n4 c4] 25)).alloc (.cells #[.slice none 0 0, .slice none 0 0] 25) = Wb := by rw [hW1, hW2, hW3]
  clear hW1 hW2 hW3 e1 e2 s1 s2
  have x1 : Wb.cell? ⟨w.heap.size, 0, none⟩ = some (.slice A1 n1 c1) := q1.cell 0
  have x2 : Wb.cell? ⟨w.heap.size, 1, none⟩ = some (.slice A2 n2 c2) := q1.cell 1
  have x3 : Wb.cell? ⟨w.heap.size + 1, 0, none⟩ = some (.slice A3 n3 c3) := q2.cell 0
  have x4 : Wb.cell? ⟨w.heap.size + 1, 1, none⟩ = some (.slice A4 n4 c4) := q2.cell 1
  have Hp := Lib.hid (h1.below hbb)
  have Hq := Lib.hid (h2.below hbb)
  have Hr := Lib.hid (h3.below hbb)
  have Ht := Lib.hid (h4.below hbb)
  have Bp := Lib.hid h1.lt
  have Bq := Lib.hid h2.lt
  have Br := Lib.hid h3.lt
  have Bt := Lib.hid h4.lt
  have Q1 := Lib.hid q1
  have Q2 := Lib.hid q2
  have Q3 := Lib.hid q3
  have HBB := Lib.hid hbb
  have HZ := Lib.hid s3
  clear h1 h2 h3 h4 q1 q2 q3 hbb s3
  go_enter Tryd.func16, Tryd.ntmps16
  go_wp2_with fail
  clear hWb
  refine (shares_r Wb Hq.out Ht.out (by omega)).mono ?_
  rintro e w1 ⟨C1, i1, d1, C2, i2, d2, C3, i3, d3, rfl, hc1, ha1, hb1, hB1⟩
  have y1 : w1.cell? ⟨w.heap.size, 0, none⟩ = some (.slice A1 n1 c1) := (hB1.cell (World.block_lt_of_cell? _ _ x1)).trans x1
  have y3 : w1.cell? ⟨w.heap.size + 1, 0, none⟩ = some (.slice A3 n3 c3) := (hB1.cell (World.block_lt_of_cell? _ _ x3)).trans x3
  have Ba := Lib.hid (div_lt_of (b := Nat.gcd q t) Bq.out)
  have Bb := Lib.hid (div_lt_of (b := Nat.gcd q t) Bt.out)
  have Ha := Lib.hid (ha1.nr Ba.out)
  have Hb := Lib.hid (hb1.nr Bb.out)
  have Hg := Lib.hid (hc1.nr (gcd_small Bq.out Bt.out))
  have Hp := Lib.hid (Hp.out.below hB1)
  have Hr := Lib.hid (Hr.out.below hB1)
  have HB1 := Lib.hid hB1
  have hst : Below w1.heap.size w1 w1.drew := (Below.refl _ _).drew
  have HBS := Lib.hid hst
  clear hc1 ha1 hb1 hB1 x1 x2 x3
  go_upto_region 2 with (fail)
  refine wp_region_held_drew (S := fun W => Below w1.heap.size w1 W) (by kernel_rfl) hst (fun hHeld => ?_)
  obtain ⟨wn, hwn⟩ : ∃ W, w1.drew = W := ⟨_, rfl⟩
  rw [hwn] at HBS hHeld
  rw [hwn]
  clear hwn
  refine wpAnyH_take (i := 0) (v := ?_) (op_of rfl) (by kernel_rfl) (by kernel_rfl) (by kernel_rfl) (fun _ _ _ h => h) (Or.inl ⟨by rfl, fun W hS => ?_⟩) (by assumption) ?_
  rotate_left
  · dsimp only at hS
    go_simp
    try with_reducible rfl
  try dsimp only [Act.put]
  try simp only [List.setIfInBounds_toArray, List.set_cons_zero, List.set_cons_succ]
  refine wpAnyH_take (i := 1) (v := ?_) (op_of rfl) (by kernel_rfl) (by kernel_rfl) (by kernel_rfl) (fun _ _ _ h => h) (Or.inl ⟨by rfl, fun W hS => ?_⟩) (by assumption) ?_
  rotate_left
  · dsimp only at hS
    have z := (hS.cell (World.block_lt_of_cell? _ _ y1)).trans y1
    go_simp
    try with_reducible rfl
  try dsimp only [Act.put]
  try simp only [List.setIfInBounds_toArray, List.set_cons_zero, List.set_cons_succ]
  refine wpAnyH_take (i := 2) (v := ?_) (op_of rfl) (by kernel_rfl) (by kernel_rfl) (by kernel_rfl) (fun _ _ _ h => h) (Or.inl ⟨by rfl, fun W hS => ?_⟩) (by assumption) ?_
  rotate_left
  · dsimp only at hS
    go_simp
    try with_reducible rfl
  try dsimp only [Act.put]
  try simp only [List.setIfInBounds_toArray, List.set_cons_zero, List.set_cons_succ]
  refine wpAnyH_take (i := 5) (v := ?_) (op_of rfl) (by kernel_rfl) (by kernel_rfl) (by kernel_rfl) (fun _ _ _ h => h) (Or.inl ⟨by rfl, fun W hS => ?_⟩) (by assumption) ?_
  rotate_left
  · dsimp only at hS
    go_simp
    try with_reducible rfl
  try dsimp only [Act.put]
  try simp only [List.setIfInBounds_toArray, List.set_cons_zero, List.set_cons_succ]
  refine wpAnyH_take (i := 6) (v := ?_) (op_of rfl) (by kernel_rfl) (by kernel_rfl) (by kernel_rfl) (fun _ _ _ h => h) (Or.inl ⟨by rfl, fun W hS => ?_⟩) (by assumption) ?_
  rotate_left
  · dsimp only at hS
    have z := (hS.cell (World.block_lt_of_cell? _ _ y3)).trans y3
    go_simp
    try with_reducible rfl
  try dsimp only [Act.put]
  try simp only [List.setIfInBounds_toArray, List.set_cons_zero, List.set_cons_succ]
  refine wpAnyH_take (i := 7) (v := ?_) (op_of rfl) (by kernel_rfl) (by kernel_rfl) (by kernel_rfl) (fun _ _ _ h => h) (Or.inl ⟨by rfl, fun W hS => ?_⟩) (by assumption) ?_
  rotate_left
  · dsimp only at hS
    go_simp
    try with_reducible rfl
  try dsimp only [Act.put]
  try simp only [List.setIfInBounds_toArray, List.set_cons_zero, List.set_cons_succ]
  refine wpAnyH_ready (rs := [3, 8]) (by kernel_rfl) (by simp) (AllReadyH.cons (op_of rfl) (fun K hK => ?_) (AllReadyH.cons (op_of rfl) (fun K hK => ?_) AllReadyH.nil))
  · skip
    go_simp
    have hk := Blk.new wn 23 #[.slice A1 n1 c1, .slice C3 i3 d3]
    have hb := b1 wn (.cells #[.slice A1 n1 c1, .slice C3 i3 d3] 23)
    obtain ⟨g3, hg3⟩ : ∃ g, wn.heap.size = g := ⟨_, rfl⟩
    have HBS := Lib.hid (HBS.out.trans (hb.mono HBS.out.size))
    obtain ⟨wn, hwm⟩ : ∃ W, wn.alloc (.cells #[.slice A1 n1 c1, .slice C3 i3 d3] 23) = W := ⟨_, rfl⟩
    rw [hwm] at hk HBS
    rw [hg3] at hk ⊢
    rw [hwm]
    have HK3 := Lib.hid hk
    clear hk hb hg3 hwm
    refine hK.out _ _ HBS.out (fun hHeld => ?_)
    clear hK K
    try dsimp only [Act.put]
    try simp only [List.setIfInBounds_toArray, List.set_cons_zero, List.set_cons_succ]
    refine wpAnyH_ready (rs := [4, 8]) (by kernel_rfl) (by simp) (AllReadyH.cons (op_of rfl) (fun K hK => ?_) (AllReadyH.cons (op_of rfl) (fun K hK => ?_) AllReadyH.nil))
    · skip
      go_simp
      refine (mul2_r (g := g3) _ (HK3.out.cell 0) (HK3.out.cell 1) (Hp.out.below HBS.out) (Hb.out.below HBS.out) (by omega)).mono ?_
      rintro en wn ⟨v, rfl, h, hb⟩
      obtain ⟨D4, m4, d4, rfl⟩ := h.shape
      have HBS := Lib.hid (HBS.out.trans (hb.mono HBS.out.size))
      have HK3 := Lib.hid (HK3.out.below hb HK3.out.lt)
      have HP4 := Lib.hid (h.nr (mul_small Bp.out Bb.out))
      clear h hb
      refine hK.out _ _ HBS.out (fun hHeld => ?_)
      clear hK K
      try dsimp only [Act.put]
      try simp only [List.setIfInBounds_toArray, List.set_cons_zero, List.set_cons_succ]
      refine wpAnyH_ready (rs := [8]) (by kernel_rfl) (by simp) (AllReadyH.cons (op_of rfl) (fun K hK => ?_) AllReadyH.nil)
      go_simp
      have hk := Blk.new wn 23 #[.slice A3 n3 c3, .slice C2 i2 d2]
      have hb := b1 wn (.cells #[.slice A3 n3 c3, .slice C2 i2 d2] 23)
      obtain ⟨g8, hg8⟩ : ∃ g, wn.heap.size = g := ⟨_, rfl⟩
      have HBS := Lib.hid (HBS.out.trans (hb.mono HBS.out.size))
      have HK3 := Lib.hid (HK3.out.below hb HK3.out.lt)
      have HP4 := Lib.hid (HP4.out.below hb)
      obtain ⟨wn, hwm⟩ : ∃ W, wn.alloc (.cells #[.slice A3 n3 c3, .slice C2 i2 d2] 23) = W := ⟨_, rfl⟩
      rw [hwm] at hk HBS HK3 HP4
      rw [hg8] at hk ⊢
      rw [hwm]
      have HK8 := Lib.hid hk
      clear hk hb hg8 hwm
      refine hK.out _ _ HBS.out (fun hHeld => ?_)
      clear hK K
      try dsimp only [Act.put]
      try simp only [List.setIfInBounds_toArray, List.set_cons_zero, List.set_cons_succ]
      refine wpAnyH_ready (rs := [9]) (by kernel_rfl) (by simp) (AllReadyH.cons (op_of rfl) (fun K hK => ?_) AllReadyH.nil)
      go_simp
      refine (mul2_r (g := g8) _ (HK8.out.cell 0) (HK8.out.cell 1) (Hr.out.below HBS.out) (Ha.out.below HBS.out) (by omega)).mono ?_
      rintro en wn ⟨v, rfl, h, hb⟩
      obtain ⟨D9, m9, d9, rfl⟩ := h.shape
      have HBS := Lib.hid (HBS.out.trans (hb.mono HBS.out.size))
      have HK3 := Lib.hid (HK3.out.below hb HK3.out.lt)
      have HK8 := Lib.hid (HK8.out.below hb HK8.out.lt)
      have HP4 := Lib.hid (HP4.out.below hb)
      have HP9 := Lib.hid (h.nr (mul_small Br.out Ba.out))
      clear h hb
      refine hK.out _ _ HBS.out (fun hHeld => ?_)
      clear hK K
      try dsimp only [Act.put]
      try simp only [List.setIfInBounds_toArray, List.set_cons_zero, List.set_cons_succ]
      refine wpAnyH_ready (rs := [10]) (by kernel_rfl) (by simp) (AllReadyH.cons (op_of rfl) (fun K hK => ?_) AllReadyH.nil)
      go_simp
      refine (natSubNo_r _ HP4.out HP9.out (by omega) HLT.out).mono ?_
      rintro en wn ⟨rfl, hb⟩
      have HBS := Lib.hid (HBS.out.trans (hb.mono HBS.out.size))
      clear hb
      refine hK.out _ _ HBS.out (fun hHeld => ?_)
      clear hK K
      try dsimp only [Act.put]
      try simp only [List.setIfInBounds_toArray, List.set_cons_zero, List.set_cons_succ]
      refine wpAnyH_take (i := 11) (v := ?_) (op_of rfl) (by kernel_rfl) (by kernel_rfl) (by kernel_rfl) (fun _ _ _ h => h) (Or.inl ⟨by rfl, fun W hS => ?_⟩) (by assumption) ?_
      rotate_left
      · dsimp only at hS
        go_simp
        try with_reducible rfl
      try dsimp only [Act.put]
      try simp only [List.setIfInBounds_toArray, List.set_cons_zero, List.set_cons_succ]
      refine wpAnyH_take (i := 12) (v := ?_) (op_of rfl) (by kernel_rfl) (by kernel_rfl) (by kernel_rfl) (fun _ _ _ h => h) (Or.inl ⟨by rfl, fun W hS => ?_⟩) (by assumption) ?_
      rotate_left
      · dsimp only at hS
        go_simp
        try with_reducible rfl
      try dsimp only [Act.put]
      try simp only [List.setIfInBounds_toArray, List.set_cons_zero, List.set_cons_succ]
      refine wpAnyH_take (i := 13) (v := ?_) (op_of rfl) (by kernel_rfl) (by kernel_rfl) (by kernel_rfl) (fun _ _ _ h => h) (Or.inl ⟨by rfl, fun W hS => ?_⟩) (by assumption) ?_
      rotate_left
      · dsimp only at hS
        go_simp
        try with_reducible rfl
      try dsimp only [Act.put]
      try simp only [List.setIfInBounds_toArray, List.set_cons_zero, List.set_cons_succ]
      refine wpAnyH_ready (rs := [14]) (by kernel_rfl) (by simp) (AllReadyH.cons (op_of rfl) (fun K hK => ?_) AllReadyH.nil)
      go_simp
      refine hK.out _ _ HBS.out (fun hHeld => ?_)
      clear hK K
      try dsimp only [Act.put]
      try simp only [List.setIfInBounds_toArray, List.set_cons_zero, List.set_cons_succ]
      refine wpAnyH_ready (rs := [15]) (by kernel_rfl) (by simp) (AllReadyH.cons (op_of rfl) (fun K hK => ?_) AllReadyH.nil)
      go_simp
      refine hK.out _ _ HBS.out (fun hHeld => ?_)
      clear hK K
      try dsimp only [Act.put]
      try simp only [List.setIfInBounds_toArray, List.set_cons_zero, List.set_cons_succ]
      refine wpAnyH_done (by kernel_rfl) ?_ _
      have hB5 := HB1.out.trans (HBS.out.mono HB1.out.size)
      have hl : w.heap.size + 1 + 1 < Wb.heap.size := by have := HZ.out; omega
      have Q4 := Q3.out.below hB5 hl
      have HB5 := Lib.hid (HBB.out.trans (hB5.mono HBB.out.size))
      have kk0 := Q4.cell 0
      have kk1 := Q4.cell 1
      have f0 := Q4.frozen 0
      have f1 := Q4.frozen 1
      have HQ4 := Lib.hid Q4
      have HL := Lib.hid hl
      clear Q4 hl hB5
      go_wp2_with fail
      have hp := put_q HQ4.out (.slice none 0 0) (.slice none 0 0)
      first
        | exact bodyPost_ret (v := .tuple #[.agg #[.slice none 0 0, .slice none 0 0], .bool false]) (by simp [results, Tryd.results16, go_sem, hp.cell 0, hp.cell 1]) rfl ⟨rfl, (HB5.out.setCell (by show w.heap.size ≤ w.heap.size + 1 + 1; omega) _).setCell (by show w.heap.size ≤ w.heap.size + 1 + 1; omega) _⟩
        | exact bodyPost_ret (v := .tuple #[.agg #[.slice none 0 0, .slice none 0 0], .bool false]) (by simp [results, Tryd.results16, go_sem, kk0, kk1]) rfl ⟨rfl, HB5.out⟩
    · skip
      go_simp
      have hk := Blk.new wn 23 #[.slice A3 n3 c3, .slice C2 i2 d2]
      have hb := b1 wn (.cells #[.slice A3 n3 c3, .slice C2 i2 d2] 23)
      obtain ⟨g8, hg8⟩ : ∃ g, wn.heap.size = g := ⟨_, rfl⟩
      have HBS := Lib.hid (HBS.out.trans (hb.mono HBS.out.size))
      have HK3 := Lib.hid (HK3.out.below hb HK3.out.lt)
      obtain ⟨wn, hwm⟩ : ∃ W, wn.alloc (.cells #[.slice A3 n3 c3, .slice C2 i2 d2] 23) = W := ⟨_, rfl⟩
      rw [hwm] at hk HBS HK3
      rw [hg8] at hk ⊢
      rw [hwm]
      have HK8 := Lib.hid hk
      clear hk hb hg8 hwm
      refine hK.out _ _ HBS.out (fun hHeld => ?_)
      clear hK K
      try dsimp only [Act.put]
      try simp only [List.setIfInBounds_toArray, List.set_cons_zero, List.set_cons_succ]
      refine wpAnyH_ready (rs := [4]) (by kernel_rfl) (by simp) (AllReadyH.cons (op_of rfl) (fun K hK => ?_) AllReadyH.nil)
      go_simp
      refine (mul2_r (g := g3) _ (HK3.out.cell 0) (HK3.out.cell 1) (Hp.out.below HBS.out) (Hb.out.below HBS.out) (by omega)).mono ?_
      rintro en wn ⟨v, rfl, h, hb⟩
      obtain ⟨D4, m4, d4, rfl⟩ := h.shape
      have HBS := Lib.hid (HBS.out.trans (hb.mono HBS.out.size))
      have HK3 := Lib.hid (HK3.out.below hb HK3.out.lt)
      have HK8 := Lib.hid (HK8.out.below hb HK8.out.lt)
      have HP4 := Lib.hid (h.nr (mul_small Bp.out Bb.out))
      clear h hb
      refine hK.out _ _ HBS.out (fun hHeld => ?_)
      clear hK K
      try dsimp only [Act.put]
      try simp only [List.setIfInBounds_toArray, List.set_cons_zero, List.set_cons_succ]
      refine wpAnyH_ready (rs := [9]) (by kernel_rfl) (by simp) (AllReadyH.cons (op_of rfl) (fun K hK => ?_) AllReadyH.nil)
      go_simp
      refine (mul2_r (g := g8) _ (HK8.out.cell 0) (HK8.out.cell 1) (Hr.out.below HBS.out) (Ha.out.below HBS.out) (by omega)).mono ?_
      rintro en wn ⟨v, rfl, h, hb⟩
      obtain ⟨D9, m9, d9, rfl⟩ := h.shape
      have HBS := Lib.hid (HBS.out.trans (hb.mono HBS.out.size))
      have HK3 := Lib.hid (HK3.out.below hb HK3.out.lt)
      have HK8 := Lib.hid (HK8.out.below hb HK8.out.lt)
      have HP4 := Lib.hid (HP4.out.below hb)
      have HP9 := Lib.hid (h.nr (mul_small Br.out Ba.out))
      clear h hb
      refine hK.out _ _ HBS.out (fun hHeld => ?_)
      clear hK K
      try dsimp only [Act.put]
      try simp only [List.setIfInBounds_toArray, List.set_cons_zero, List.set_cons_succ]
      refine wpAnyH_ready (rs := [10]) (by kernel_rfl) (by simp) (AllReadyH.cons (op_of rfl) (fun K hK => ?_) AllReadyH.nil)
      go_simp
      refine (natSubNo_r _ HP4.out HP9.out (by omega) HLT.out).mono ?_
      rintro en wn ⟨rfl, hb⟩
      have HBS := Lib.hid (HBS.out.trans (hb.mono HBS.out.size))
      clear hb
      refine hK.out _ _ HBS.out (fun hHeld => ?_)
      clear hK K
      try dsimp only [Act.put]
      try simp only [List.setIfInBounds_toArray, List.set_cons_zero, List.set_cons_succ]
      refine wpAnyH_take (i := 11) (v := ?_) (op_of rfl) (by kernel_rfl) (by kernel_rfl) (by kernel_rfl) (fun _ _ _ h => h) (Or.inl ⟨by rfl, fun W hS => ?_⟩) (by assumption) ?_
      rotate_left
      · dsimp only at hS
        go_simp
        try with_reducible rfl
      try dsimp only [Act.put]
      try simp only [List.setIfInBounds_toArray, List.set_cons_zero, List.set_cons_succ]
      refine wpAnyH_take (i := 12) (v := ?_) (op_of rfl) (by kernel_rfl) (by kernel_rfl) (by kernel_rfl) (fun _ _ _ h => h) (Or.inl ⟨by rfl, fun W hS => ?_⟩) (by assumption) ?_
      rotate_left
      · dsimp only at hS
        go_simp
        try with_reducible rfl
      try dsimp only [Act.put]
      try simp only [List.setIfInBounds_toArray, List.set_cons_zero, List.set_cons_succ]
      refine wpAnyH_take (i := 13) (v := ?_) (op_of rfl) (by kernel_rfl) (by kernel_rfl) (by kernel_rfl) (fun _ _ _ h => h) (Or.inl ⟨by rfl, fun W hS => ?_⟩) (by assumption) ?_
      rotate_left
      · dsimp only at hS
        go_simp
        try with_reducible rfl
      try dsimp only [Act.put]
      try simp only [List.setIfInBounds_toArray, List.set_cons_zero, List.set_cons_succ]
      refine wpAnyH_ready (rs := [14]) (by kernel_rfl) (by simp) (AllReadyH.cons (op_of rfl) (fun K hK => ?_) AllReadyH.nil)
      go_simp
      refine hK.out _ _ HBS.out (fun hHeld => ?_)
      clear hK K
      try dsimp only [Act.put]
      try simp only [List.setIfInBounds_toArray, List.set_cons_zero, List.set_cons_succ]
      refine wpAnyH_ready (rs := [15]) (by kernel_rfl) (by simp) (AllReadyH.cons (op_of rfl) (fun K hK => ?_) AllReadyH.nil)
      go_simp
      refine hK.out _ _ HBS.out (fun hHeld => ?_)
      clear hK K
      try dsimp only [Act.put]
      try simp only [List.setIfInBounds_toArray, List.set_cons_zero, List.set_cons_succ]
      refine wpAnyH_done (by kernel_rfl) ?_ _
      have hB5 := HB1.out.trans (HBS.out.mono HB1.out.size)
      have hl : w.heap.size + 1 + 1 < Wb.heap.size := by have := HZ.out; omega
      have Q4 := Q3.out.below hB5 hl
      have HB5 := Lib.hid (HBB.out.trans (hB5.mono HBB.out.size))
      have kk0 := Q4.cell 0
      have kk1 := Q4.cell 1
      have f0 := Q4.frozen 0
      have f1 := Q4.frozen 1
      have HQ4 := Lib.hid Q4
      have HL := Lib.hid hl
      clear Q4 hl hB5
      go_wp2_with fail
      have hp := put_q HQ4.out (.slice none 0 0) (.slice none 0 0)
      first
        | exact bodyPost_ret (v := .tuple #[.agg #[.slice none 0 0, .slice none 0 0], .bool false]) (by simp [results, Tryd.results16, go_sem, hp.cell 0, hp.cell 1]) rfl ⟨rfl, (HB5.out.setCell (by show w.heap.size ≤ w.heap.size + 1 + 1; omega) _).setCell (by show w.heap.size ≤ w.heap.size + 1 + 1; omega) _⟩
        | exact bodyPost_ret (v := .tuple #[.agg #[.slice none 0 0, .slice none 0 0], .bool false]) (by simp [results, Tryd.results16, go_sem, kk0, kk1]) rfl ⟨rfl, HB5.out⟩
  · skip
    go_simp
    have hk := Blk.new wn 23 #[.slice A3 n3 c3, .slice C2 i2 d2]
    have hb := b1 wn (.cells #[.slice A3 n3 c3, .slice C2 i2 d2] 23)
    obtain ⟨g8, hg8⟩ : ∃ g, wn.heap.size = g := ⟨_, rfl⟩
    have HBS := Lib.hid (HBS.out.trans (hb.mono HBS.out.size))
    obtain ⟨wn, hwm⟩ : ∃ W, wn.alloc (.cells #[.slice A3 n3 c3, .slice C2 i2 d2] 23) = W := ⟨_, rfl⟩
    rw [hwm] at hk HBS
    rw [hg8] at hk ⊢
    rw [hwm]
    have HK8 := Lib.hid hk
    clear hk hb hg8 hwm
    refine hK.out _ _ HBS.out (fun hHeld => ?_)
    clear hK K
    try dsimp only [Act.put]
    try simp only [List.setIfInBounds_toArray, List.set_cons_zero, List.set_cons_succ]
    refine wpAnyH_ready (rs := [3]) (by kernel_rfl) (by simp) (AllReadyH.cons (op_of rfl) (fun K hK => ?_) AllReadyH.nil)
    go_simp
    have hk := Blk.new wn 23 #[.slice A1 n1 c1, .slice C3 i3 d3]
    have hb := b1 wn (.cells #[.slice A1 n1 c1, .slice C3 i3 d3] 23)
    obtain ⟨g3, hg3⟩ : ∃ g, wn.heap.size = g := ⟨_, rfl⟩
    have HBS := Lib.hid (HBS.out.trans (hb.mono HBS.out.size))
    have HK8 := Lib.hid (HK8.out.below hb HK8.out.lt)
    obtain ⟨wn, hwm⟩ : ∃ W, wn.alloc (.cells #[.slice A1 n1 c1, .slice C3 i3 d3] 23) = W := ⟨_, rfl⟩
    rw [hwm] at hk HBS HK8
    rw [hg3] at hk ⊢
    rw [hwm]
    have HK3 := Lib.hid hk
    clear hk hb hg3 hwm
    refine hK.out _ _ HBS.out (fun hHeld => ?_)
    clear hK K
    try dsimp only [Act.put]
    try simp only [List.setIfInBounds_toArray, List.set_cons_zero, List.set_cons_succ]
    refine wpAnyH_ready (rs := [4]) (by kernel_rfl) (by simp) (AllReadyH.cons (op_of rfl) (fun K hK => ?_) AllReadyH.nil)
    go_simp
    refine (mul2_r (g := g3) _ (HK3.out.cell 0) (HK3.out.cell 1) (Hp.out.below HBS.out) (Hb.out.below HBS.out) (by omega)).mono ?_
    rintro en wn ⟨v, rfl, h, hb⟩
    obtain ⟨D4, m4, d4, rfl⟩ := h.shape
    have HBS := Lib.hid (HBS.out.trans (hb.mono HBS.out.size))
    have HK3 := Lib.hid (HK3.out.below hb HK3.out.lt)
    have HK8 := Lib.hid (HK8.out.below hb HK8.out.lt)
    have HP4 := Lib.hid (h.nr (mul_small Bp.out Bb.out))
    clear h hb
    refine hK.out _ _ HBS.out (fun hHeld => ?_)
    clear hK K
    try dsimp only [Act.put]
    try simp only [List.setIfInBounds_toArray, List.set_cons_zero, List.set_cons_succ]
    refine wpAnyH_ready (rs := [9]) (by kernel_rfl) (by simp) (AllReadyH.cons (op_of rfl) (fun K hK => ?_) AllReadyH.nil)
    go_simp
    refine (mul2_r (g := g8) _ (HK8.out.cell 0) (HK8.out.cell 1) (Hr.out.below HBS.out) (Ha.out.below HBS.out) (by omega)).mono ?_
    rintro en wn ⟨v, rfl, h, hb⟩
    obtain ⟨D9, m9, d9, rfl⟩ := h.shape
    have HBS := Lib.hid (HBS.out.trans (hb.mono HBS.out.size))
    have HK3 := Lib.hid (HK3.out.below hb HK3.out.lt)
    have HK8 := Lib.hid (HK8.out.below hb HK8.out.lt)
    have HP4 := Lib.hid (HP4.out.below hb)
    have HP9 := Lib.hid (h.nr (mul_small Br.out Ba.out))
    clear h hb
    refine hK.out _ _ HBS.out (fun hHeld => ?_)
    clear hK K
    try dsimp only [Act.put]
    try simp only [List.setIfInBounds_toArray, List.set_cons_zero, List.set_cons_succ]
    refine wpAnyH_ready (rs := [10]) (by kernel_rfl) (by simp) (AllReadyH.cons (op_of rfl) (fun K hK => ?_) AllReadyH.nil)
    go_simp
    refine (natSubNo_r _ HP4.out HP9.out (by omega) HLT.out).mono ?_
    rintro en wn ⟨rfl, hb⟩
    have HBS := Lib.hid (HBS.out.trans (hb.mono HBS.out.size))
    clear hb
    refine hK.out _ _ HBS.out (fun hHeld => ?_)
    clear hK K
    try dsimp only [Act.put]
    try simp only [List.setIfInBounds_toArray, List.set_cons_zero, List.set_cons_succ]
    refine wpAnyH_take (i := 11) (v := ?_) (op_of rfl) (by kernel_rfl) (by kernel_rfl) (by kernel_rfl) (fun _ _ _ h => h) (Or.inl ⟨by rfl, fun W hS => ?_⟩) (by assumption) ?_
    rotate_left
    · dsimp only at hS
      go_simp
      try with_reducible rfl
    try dsimp only [Act.put]
    try simp only [List.setIfInBounds_toArray, List.set_cons_zero, List.set_cons_succ]
    refine wpAnyH_take (i := 12) (v := ?_) (op_of rfl) (by kernel_rfl) (by kernel_rfl) (by kernel_rfl) (fun _ _ _ h => h) (Or.inl ⟨by rfl, fun W hS => ?_⟩) (by assumption) ?_
    rotate_left
    · dsimp only at hS
      go_simp
      try with_reducible rfl
    try dsimp only [Act.put]
    try simp only [List.setIfInBounds_toArray, List.set_cons_zero, List.set_cons_succ]
    refine wpAnyH_take (i := 13) (v := ?_) (op_of rfl) (by kernel_rfl) (by kernel_rfl) (by kernel_rfl) (fun _ _ _ h => h) (Or.inl ⟨by rfl, fun W hS => ?_⟩) (by assumption) ?_
    rotate_left
    · dsimp only at hS
      go_simp
      try with_reducible rfl
    try dsimp only [Act.put]
    try simp only [List.setIfInBounds_toArray, List.set_cons_zero, List.set_cons_succ]
    refine wpAnyH_ready (rs := [14]) (by kernel_rfl) (by simp) (AllReadyH.cons (op_of rfl) (fun K hK => ?_) AllReadyH.nil)
    go_simp
    refine hK.out _ _ HBS.out (fun hHeld => ?_)
    clear hK K
    try dsimp only [Act.put]
    try simp only [List.setIfInBounds_toArray, List.set_cons_zero, List.set_cons_succ]
    refine wpAnyH_ready (rs := [15]) (by kernel_rfl) (by simp) (AllReadyH.cons (op_of rfl) (fun K hK => ?_) AllReadyH.nil)
    go_simp
    refine hK.out _ _ HBS.out (fun hHeld => ?_)
    clear hK K
    try dsimp only [Act.put]
    try simp only [List.setIfInBounds_toArray, List.set_cons_zero, List.set_cons_succ]
    refine wpAnyH_done (by kernel_rfl) ?_ _
    have hB5 := HB1.out.trans (HBS.out.mono HB1.out.size)
    have hl : w.heap.size + 1 + 1 < Wb.heap.size := by have := HZ.out; omega
    have Q4 := Q3.out.below hB5 hl
    have HB5 := Lib.hid (HBB.out.trans (hB5.mono HBB.out.size))
    have kk0 := Q4.cell 0
    have kk1 := Q4.cell 1
    have f0 := Q4.frozen 0
    have f1 := Q4.frozen 1
    have HQ4 := Lib.hid Q4
    have HL := Lib.hid hl
    clear Q4 hl hB5
    go_wp2_with fail
    have hp := put_q HQ4.out (.slice none 0 0) (.slice none 0 0)
    first
      | exact bodyPost_ret (v := .tuple #[.agg #[.slice none 0 0, .slice none 0 0], .bool false]) (by simp [results, Tryd.results16, go_sem, hp.cell 0, hp.cell 1]) rfl ⟨rfl, (HB5.out.setCell (by show w.heap.size ≤ w.heap.size + 1 + 1; omega) _).setCell (by show w.heap.size ≤ w.heap.size + 1 + 1; omega) _⟩
      | exact bodyPost_ret (v := .tuple #[.agg #[.slice none 0 0, .slice none 0 0], .bool false]) (by simp [results, Tryd.results16, go_sem, kk0, kk1]) rfl ⟨rfl, HB5.out⟩

set_option maxHeartbeats 8000000 in
theorem ratioSub_r {v1 v2 v3 v4 : Value} {p q r t M : Nat} (w : World) (h1 : Nr w v1 p M) (h2 : Nr w v2 q M) (h3 : Nr w v3 r M) (h4 : Nr w v4 t M) (hM : M ≤ 2000) (hle : r * (q / Nat.gcd q t) ≤ p * (t / Nat.gcd q t)) :
    Calls Tryd.prog 16 #[.agg #[v1, v2], .agg #[v3, v4]] w (RetQt w (subQ (p, q) (r, t)).1 (subQ (p, q) (r, t)).2) := by
  have HLT := Lib.hid hle
  clear hle
  obtain ⟨A1, n1, c1, rfl⟩ := h1.shape
  obtain ⟨A2, n2, c2, rfl⟩ := h2.shape
  obtain ⟨A3, n3, c3, rfl⟩ := h3.shape
  obtain ⟨A4, n4, c4, rfl⟩ := h4.shape
  obtain ⟨W1, hW1⟩ : ∃ W1, w.alloc (.cells #[.slice A1 n1 c1, .slice A2 n2 c2] 25) = W1 := ⟨_, rfl⟩
  obtain ⟨W2, hW2⟩ : ∃ W2, W1.alloc (.cells #[.slice A3 n3 c3, .slice A4 n4 c4] 25) = W2 := ⟨_, rfl⟩
  obtain ⟨Wb, hW3⟩ : ∃ Wb, W2.alloc (.cells #[.slice none 0 0, .slice none 0 0] 25) = Wb := ⟨_, rfl⟩
  have s1 : W1.heap.size = w.heap.size + 1 := by rw [← hW1]; simp
  have s2 : W2.heap.size = w.heap.size + 1 + 1 := by rw [← hW2]; simp [s1]
  have s3 : Wb.heap.size = w.heap.size + 1 + 1 + 1 := by rw [← hW3]; simp [s2]
  have e1 : Below w.heap.size w W1 := by rw [← hW1]; exact b1 _ _
  have e2 : Below w.heap.size w W2 := by rw [← hW2]; exact e1.trans ((b1 _ _).mono e1.size)
  have hbb : Below w.heap.size w Wb := by rw [← hW3]; exact e2.trans ((b1 _ _).mono e2.size)
  have q1 : Blk Wb w.heap.size 25 #[.slice A1 n1 c1, .slice A2 n2 c2] := by rw [← hW3, ← hW2, ← hW1]; exact ((Blk.new _ _ _).alloc _).alloc _
  have q2 : Blk Wb (w.heap.size + 1) 25 #[.slice A3 n3 c3, .slice A4 n4 c4] := by rw [← hW3, ← hW2, ← s1]; exact (Blk.new _ _ _).alloc _
  have q3 : Blk Wb (w.heap.size + 1 + 1) 25 #[.slice none 0 0, .slice none 0 0] := by rw [← hW3, ← s2]; exact Blk.new _ _ _
  have hWb : ((w.alloc (.cells #[.slice A1 n1 c1, .slice A2 n2 c2] 25)).alloc (.cells #[.slice A3 n3 c3, .slice A4 n4 c4] 25)).alloc (.cells #[.slice none 0 0, .slice none 0 0] 25) = Wb := by rw [hW1, hW2, hW3]
  clear hW1 hW2 hW3 e1 e2 s1 s2
  have x1 : Wb.cell? ⟨w.heap.size, 0, none⟩ = some (.slice A1 n1 c1) := q1.cell 0
  have x2 : Wb.cell? ⟨w.heap.size, 1, none⟩ = some (.slice A2 n2 c2) := q1.cell 1
  have x3 : Wb.cell? ⟨w.heap.size + 1, 0, none⟩ = some (.slice A3 n3 c3) := q2.cell 0
  have x4 : Wb.cell? ⟨w.heap.size + 1, 1, none⟩ = some (.slice A4 n4 c4) := q2.cell 1
  have Hp := Lib.hid (h1.below hbb)
  have Hq := Lib.hid (h2.below hbb)
  have Hr := Lib.hid (h3.below hbb)
  have Ht := Lib.hid (h4.below hbb)
  have Bp := Lib.hid h1.lt
  have Bq := Lib.hid h2.lt
  have Br := Lib.hid h3.lt
  have Bt := Lib.hid h4.lt
  have Q1 := Lib.hid q1
  have Q2 := Lib.hid q2
  have Q3 := Lib.hid q3
  have HBB := Lib.hid hbb
  have HZ := Lib.hid s3
  clear h1 h2 h3 h4 q1 q2 q3 hbb s3
  go_enter Tryd.func16, Tryd.ntmps16
  go_wp2_with fail
  clear hWb
  refine (shares_r Wb Hq.out Ht.out (by omega)).mono ?_
  rintro e w1 ⟨C1, i1, d1, C2, i2, d2, C3, i3, d3, rfl, hc1, ha1, hb1, hB1⟩
  have y1 : w1.cell? ⟨w.heap.size, 0, none⟩ = some (.slice A1 n1 c1) := (hB1.cell (World.block_lt_of_cell? _ _ x1)).trans x1
  have y3 : w1.cell? ⟨w.heap.size + 1, 0, none⟩ = some (.slice A3 n3 c3) := (hB1.cell (World.block_lt_of_cell? _ _ x3)).trans x3
  have Ba := Lib.hid (div_lt_of (b := Nat.gcd q t) Bq.out)
  have Bb := Lib.hid (div_lt_of (b := Nat.gcd q t) Bt.out)
  have Ha := Lib.hid (ha1.nr Ba.out)
  have Hb := Lib.hid (hb1.nr Bb.out)
  have Hg := Lib.hid (hc1.nr (gcd_small Bq.out Bt.out))
  have Hp := Lib.hid (Hp.out.below hB1)
  have Hr := Lib.hid (Hr.out.below hB1)
  have HB1 := Lib.hid hB1
  have hst : Below w1.heap.size w1 w1.drew := (Below.refl _ _).drew
  have HBS := Lib.hid hst
  clear hc1 ha1 hb1 hB1 x1 x2 x3
  go_upto_region 2 with (fail)
  refine wp_region_held_drew (S := fun W => Below w1.heap.size w1 W) (by kernel_rfl) hst (fun hHeld => ?_)
  obtain ⟨wn, hwn⟩ : ∃ W, w1.drew = W := ⟨_, rfl⟩
  rw [hwn] at HBS hHeld
  rw [hwn]
  clear hwn
  refine wpAnyH_take (i := 0) (v := ?_) (op_of rfl) (by kernel_rfl) (by kernel_rfl) (by kernel_rfl) (fun _ _ _ h => h) (Or.inl ⟨by rfl, fun W hS => ?_⟩) (by assumption) ?_
  rotate_left
  · dsimp only at hS
    go_simp
    try with_reducible rfl
  try dsimp only [Act.put]
  try simp only [List.setIfInBounds_toArray, List.set_cons_zero, List.set_cons_succ]
  refine wpAnyH_take (i := 1) (v := ?_) (op_of rfl) (by kernel_rfl) (by kernel_rfl) (by kernel_rfl) (fun _ _ _ h => h) (Or.inl ⟨by rfl, fun W hS => ?_⟩) (by assumption) ?_
  rotate_left
  · dsimp only at hS
    have z := (hS.cell (World.block_lt_of_cell? _ _ y1)).trans y1
    go_simp
    try with_reducible rfl
  try dsimp only [Act.put]
  try simp only [List.setIfInBounds_toArray, List.set_cons_zero, List.set_cons_succ]
  refine wpAnyH_take (i := 2) (v := ?_) (op_of rfl) (by kernel_rfl) (by kernel_rfl) (by kernel_rfl) (fun _ _ _ h => h) (Or.inl ⟨by rfl, fun W hS => ?_⟩) (by assumption) ?_
  rotate_left
  · dsimp only at hS
    go_simp
    try with_reducible rfl
  try dsimp only [Act.put]
  try simp only [List.setIfInBounds_toArray, List.set_cons_zero, List.set_cons_succ]
  refine wpAnyH_take (i := 5) (v := ?_) (op_of rfl) (by kernel_rfl) (by kernel_rfl) (by kernel_rfl) (fun _ _ _ h => h) (Or.inl ⟨by rfl, fun W hS => ?_⟩) (by assumption) ?_
  rotate_left
  · dsimp only at hS
    go_simp
    try with_reducible rfl
  try dsimp only [Act.put]
  try simp only [List.setIfInBounds_toArray, List.set_cons_zero, List.set_cons_succ]
  refine wpAnyH_take (i := 6) (v := ?_) (op_of rfl) (by kernel_rfl) (by kernel_rfl) (by kernel_rfl) (fun _ _ _ h => h) (Or.inl ⟨by rfl, fun W hS => ?_⟩) (by assumption) ?_
  rotate_left
  · dsimp only at hS
    have z := (hS.cell (World.block_lt_of_cell? _ _ y3)).trans y3
    go_simp
    try with_reducible rfl
  try dsimp only [Act.put]
  try simp only [List.setIfInBounds_toArray, List.set_cons_zero, List.set_cons_succ]
  refine wpAnyH_take (i := 7) (v := ?_) (op_of rfl) (by kernel_rfl) (by kernel_rfl) (by kernel_rfl) (fun _ _ _ h => h) (Or.inl ⟨by rfl, fun W hS => ?_⟩) (by assumption) ?_
  rotate_left
  · dsimp only at hS
    go_simp
    try with_reducible rfl
  try dsimp only [Act.put]
  try simp only [List.setIfInBounds_toArray, List.set_cons_zero, List.set_cons_succ]
  refine wpAnyH_ready (rs := [3, 8]) (by kernel_rfl) (by simp) (AllReadyH.cons (op_of rfl) (fun K hK => ?_) (AllReadyH.cons (op_of rfl) (fun K hK => ?_) AllReadyH.nil))
  · skip
    go_simp
    have hk := Blk.new wn 23 #[.slice A1 n1 c1, .slice C3 i3 d3]
    have hb := b1 wn (.cells #[.slice A1 n1 c1, .slice C3 i3 d3] 23)
    obtain ⟨g3, hg3⟩ : ∃ g, wn.heap.size = g := ⟨_, rfl⟩
    have HBS := Lib.hid (HBS.out.trans (hb.mono HBS.out.size))
    obtain ⟨wn, hwm⟩ : ∃ W, wn.alloc (.cells #[.slice A1 n1 c1, .slice C3 i3 d3] 23) = W := ⟨_, rfl⟩
    rw [hwm] at hk HBS
    rw [hg3] at hk ⊢
    rw [hwm]
    have HK3 := Lib.hid hk
    clear hk hb hg3 hwm
    refine hK.out _ _ HBS.out (fun hHeld => ?_)
    clear hK K
    try dsimp only [Act.put]
    try simp only [List.setIfInBounds_toArray, List.set_cons_zero, List.set_cons_succ]
    refine wpAnyH_ready (rs := [4, 8]) (by kernel_rfl) (by simp) (AllReadyH.cons (op_of rfl) (fun K hK => ?_) (AllReadyH.cons (op_of rfl) (fun K hK => ?_) AllReadyH.nil))
    · skip
      go_simp
      refine (mul2_r (g := g3) _ (HK3.out.cell 0) (HK3.out.cell 1) (Hp.out.below HBS.out) (Hb.out.below HBS.out) (by omega)).mono ?_
      rintro en wn ⟨v, rfl, h, hb⟩
      obtain ⟨D4, m4, d4, rfl⟩ := h.shape
      have HBS := Lib.hid (HBS.out.trans (hb.mono HBS.out.size))
      have HK3 := Lib.hid (HK3.out.below hb HK3.out.lt)
      have HP4 := Lib.hid (h.nr (mul_small Bp.out Bb.out))
      clear h hb
      refine hK.out _ _ HBS.out (fun hHeld => ?_)
      clear hK K
      try dsimp only [Act.put]
      try simp only [List.setIfInBounds_toArray, List.set_cons_zero, List.set_cons_succ]
      refine wpAnyH_ready (rs := [8]) (by kernel_rfl) (by simp) (AllReadyH.cons (op_of rfl) (fun K hK => ?_) AllReadyH.nil)
      go_simp
      have hk := Blk.new wn 23 #[.slice A3 n3 c3, .slice C2 i2 d2]
      have hb := b1 wn (.cells #[.slice A3 n3 c3, .slice C2 i2 d2] 23)
      obtain ⟨g8, hg8⟩ : ∃ g, wn.heap.size = g := ⟨_, rfl⟩
      have HBS := Lib.hid (HBS.out.trans (hb.mono HBS.out.size))
      have HK3 := Lib.hid (HK3.out.below hb HK3.out.lt)
      have HP4 := Lib.hid (HP4.out.below hb)
      obtain ⟨wn, hwm⟩ : ∃ W, wn.alloc (.cells #[.slice A3 n3 c3, .slice C2 i2 d2] 23) = W := ⟨_, rfl⟩
      rw [hwm] at hk HBS HK3 HP4
      rw [hg8] at hk ⊢
      rw [hwm]
      have HK8 := Lib.hid hk
      clear hk hb hg8 hwm
      refine hK.out _ _ HBS.out (fun hHeld => ?_)
      clear hK K
      try dsimp only [Act.put]
      try simp only [List.setIfInBounds_toArray, List.set_cons_zero, List.set_cons_succ]
      refine wpAnyH_ready (rs := [9]) (by kernel_rfl) (by simp) (AllReadyH.cons (op_of rfl) (fun K hK => ?_) AllReadyH.nil)
      go_simp
      refine (mul2_r (g := g8) _ (HK8.out.cell 0) (HK8.out.cell 1) (Hr.out.below HBS.out) (Ha.out.below HBS.out) (by omega)).mono ?_
      rintro en wn ⟨v, rfl, h, hb⟩
      obtain ⟨D9, m9, d9, rfl⟩ := h.shape
      have HBS := Lib.hid (HBS.out.trans (hb.mono HBS.out.size))
      have HK3 := Lib.hid (HK3.out.below hb HK3.out.lt)
      have HK8 := Lib.hid (HK8.out.below hb HK8.out.lt)
      have HP4 := Lib.hid (HP4.out.below hb)
      have HP9 := Lib.hid (h.nr (mul_small Br.out Ba.out))
      clear h hb
      refine hK.out _ _ HBS.out (fun hHeld => ?_)
      clear hK K
      try dsimp only [Act.put]
      try simp only [List.setIfInBounds_toArray, List.set_cons_zero, List.set_cons_succ]
      refine wpAnyH_ready (rs := [10]) (by kernel_rfl) (by simp) (AllReadyH.cons (op_of rfl) (fun K hK => ?_) AllReadyH.nil)
      go_simp
      refine (natSubYes_r _ HP4.out HP9.out (by omega) HLT.out).mono ?_
      rintro en wn ⟨v, rfl, hv, hb⟩
      obtain ⟨D, m, d, rfl⟩ := hv.shape
      have HV := Lib.hid (hv.more HBS.out.size)
      have HBS := Lib.hid (HBS.out.trans (hb.mono HBS.out.size))
      clear hb hv
      refine hK.out _ _ HBS.out (fun hHeld => ?_)
      clear hK K
      try dsimp only [Act.put]
      try simp only [List.setIfInBounds_toArray, List.set_cons_zero, List.set_cons_succ]
      refine wpAnyH_take (i := 11) (v := ?_) (op_of rfl) (by kernel_rfl) (by kernel_rfl) (by kernel_rfl) (fun _ _ _ h => h) (Or.inl ⟨by rfl, fun W hS => ?_⟩) (by assumption) ?_
      rotate_left
      · dsimp only at hS
        go_simp
        try with_reducible rfl
      try dsimp only [Act.put]
      try simp only [List.setIfInBounds_toArray, List.set_cons_zero, List.set_cons_succ]
      refine wpAnyH_take (i := 12) (v := ?_) (op_of rfl) (by kernel_rfl) (by kernel_rfl) (by kernel_rfl) (fun _ _ _ h => h) (Or.inl ⟨by rfl, fun W hS => ?_⟩) (by assumption) ?_
      rotate_left
      · dsimp only at hS
        go_simp
        try with_reducible rfl
      try dsimp only [Act.put]
      try simp only [List.setIfInBounds_toArray, List.set_cons_zero, List.set_cons_succ]
      refine wpAnyH_take (i := 13) (v := ?_) (op_of rfl) (by kernel_rfl) (by kernel_rfl) (by kernel_rfl) (fun _ _ _ h => h) (Or.inl ⟨by rfl, fun W hS => ?_⟩) (by assumption) ?_
      rotate_left
      · dsimp only at hS
        go_simp
        try with_reducible rfl
      try dsimp only [Act.put]
      try simp only [List.setIfInBounds_toArray, List.set_cons_zero, List.set_cons_succ]
      refine wpAnyH_ready (rs := [14]) (by kernel_rfl) (by simp) (AllReadyH.cons (op_of rfl) (fun K hK => ?_) AllReadyH.nil)
      go_simp
      refine hK.out _ _ HBS.out (fun hHeld => ?_)
      clear hK K
      try dsimp only [Act.put]
      try simp only [List.setIfInBounds_toArray, List.set_cons_zero, List.set_cons_succ]
      refine wpAnyH_ready (rs := [15]) (by kernel_rfl) (by simp) (AllReadyH.cons (op_of rfl) (fun K hK => ?_) AllReadyH.nil)
      go_simp
      refine hK.out _ _ HBS.out (fun hHeld => ?_)
      clear hK K
      try dsimp only [Act.put]
      try simp only [List.setIfInBounds_toArray, List.set_cons_zero, List.set_cons_succ]
      refine wpAnyH_done (by kernel_rfl) ?_ _
      have hB5 := HB1.out.trans (HBS.out.mono HB1.out.size)
      have z4 : wn.cell? ⟨w.heap.size + 1, 1, none⟩ = some (.slice A4 n4 c4) := (hB5.cell (World.block_lt_of_cell? _ _ x4)).trans x4
      have hov := over_r wn (HV.out.nr (M := M + M) (Nat.lt_of_le_of_lt (Nat.sub_le _ _) (mul_small Bp.out Bb.out))) ((Hg.out.below HBS.out).more (by omega)) ((Ha.out.below HBS.out).more (by omega)) ((Ht.out.below hB5).more (by omega)) (by omega)
      have HB5 := Lib.hid hB5
      have HOV := Lib.hid hov
      clear hB5 hov
      go_wp2_with fail
      refine HOV.out.mono ?_
      rintro e w8 ⟨E1, i7, e7, E2, i8, e8, rfl, hx8, hy8, hb8⟩
      have hB8 := HB5.out.trans (hb8.mono HB5.out.size)
      have hl : w.heap.size + 1 + 1 < Wb.heap.size := by have := HZ.out; omega
      have Q4 := Q3.out.below hB8 hl
      have HX := Lib.hid (hx8.more HB5.out.size)
      have HY := Lib.hid (hy8.more HB5.out.size)
      have HB5 := Lib.hid (HBB.out.trans (hB8.mono HBB.out.size))
      have kk0 := Q4.cell 0
      have kk1 := Q4.cell 1
      have f0 := Q4.frozen 0
      have f1 := Q4.frozen 1
      have HQ4 := Lib.hid Q4
      have HL := Lib.hid hl
      clear Q4 hl hB8 hx8 hy8 hb8 HOV
      go_wp2_with fail
      have hp := put_q HQ4.out (.slice E1 i7 e7) (.slice E2 i8 e8)
      exact bodyPost_ret (v := .tuple #[.agg #[.slice E1 i7 e7, .slice E2 i8 e8], .bool true]) (by simp [results, Tryd.results16, go_sem, hp.cell 0, hp.cell 1]) rfl
        ⟨_, _, _, _, _, _, rfl, (HX.out.put_q HL.out _ _).more HBB.out.size, (HY.out.put_q HL.out _ _).more HBB.out.size, (HB5.out.setCell (by show w.heap.size ≤ w.heap.size + 1 + 1; omega) _).setCell (by show w.heap.size ≤ w.heap.size + 1 + 1; omega) _⟩
    · skip
      go_simp
      have hk := Blk.new wn 23 #[.slice A3 n3 c3, .slice C2 i2 d2]
      have hb := b1 wn (.cells #[.slice A3 n3 c3, .slice C2 i2 d2] 23)
      obtain ⟨g8, hg8⟩ : ∃ g, wn.heap.size = g := ⟨_, rfl⟩
      have HBS := Lib.hid (HBS.out.trans (hb.mono HBS.out.size))
      have HK3 := Lib.hid (HK3.out.below hb HK3.out.lt)
      obtain ⟨wn, hwm⟩ : ∃ W, wn.alloc (.cells #[.slice A3 n3 c3, .slice C2 i2 d2] 23) = W := ⟨_, rfl⟩
      rw [hwm] at hk HBS HK3
      rw [hg8] at hk ⊢
      rw [hwm]
      have HK8 := Lib.hid hk
      clear hk hb hg8 hwm
      refine hK.out _ _ HBS.out (fun hHeld => ?_)
      clear hK K
      try dsimp only [Act.put]
      try simp only [List.setIfInBounds_toArray, List.set_cons_zero, List.set_cons_succ]
      refine wpAnyH_ready (rs := [4]) (by kernel_rfl) (by simp) (AllReadyH.cons (op_of rfl) (fun K hK => ?_) AllReadyH.nil)
      go_simp
      refine (mul2_r (g := g3) _ (HK3.out.cell 0) (HK3.out.cell 1) (Hp.out.below HBS.out) (Hb.out.below HBS.out) (by omega)).mono ?_
      rintro en wn ⟨v, rfl, h, hb⟩
      obtain ⟨D4, m4, d4, rfl⟩ := h.shape
      have HBS := Lib.hid (HBS.out.trans (hb.mono HBS.out.size))
      have HK3 := Lib.hid (HK3.out.below hb HK3.out.lt)
      have HK8 := Lib.hid (HK8.out.below hb HK8.out.lt)
      have HP4 := Lib.hid (h.nr (mul_small Bp.out Bb.out))
      clear h hb
      refine hK.out _ _ HBS.out (fun hHeld => ?_)
      clear hK K
      try dsimp only [Act.put]
      try simp only [List.setIfInBounds_toArray, List.set_cons_zero, List.set_cons_succ]
      refine wpAnyH_ready (rs := [9]) (by kernel_rfl) (by simp) (AllReadyH.cons (op_of rfl) (fun K hK => ?_) AllReadyH.nil)
      go_simp
      refine (mul2_r (g := g8) _ (HK8.out.cell 0) (HK8.out.cell 1) (Hr.out.below HBS.out) (Ha.out.below HBS.out) (by omega)).mono ?_
      rintro en wn ⟨v, rfl, h, hb⟩
      obtain ⟨D9, m9, d9, rfl⟩ := h.shape
      have HBS := Lib.hid (HBS.out.trans (hb.mono HBS.out.size))
      have HK3 := Lib.hid (HK3.out.below hb HK3.out.lt)
      have HK8 := Lib.hid (HK8.out.below hb HK8.out.lt)
      have HP4 := Lib.hid (HP4.out.below hb)
      have HP9 := Lib.hid (h.nr (mul_small Br.out Ba.out))
      clear h hb
      refine hK.out _ _ HBS.out (fun hHeld => ?_)
      clear hK K
      try dsimp only [Act.put]
      try simp only [List.setIfInBounds_toArray, List.set_cons_zero, List.set_cons_succ]
      refine wpAnyH_ready (rs := [10]) (by kernel_rfl) (by simp) (AllReadyH.cons (op_of rfl) (fun K hK => ?_) AllReadyH.nil)
      go_simp
      refine (natSubYes_r _ HP4.out HP9.out (by omega) HLT.out).mono ?_
      rintro en wn ⟨v, rfl, hv, hb⟩
      obtain ⟨D, m, d, rfl⟩ := hv.shape
      have HV := Lib.hid (hv.more HBS.out.size)
      have HBS := Lib.hid (HBS.out.trans (hb.mono HBS.out.size))
      clear hb hv
      refine hK.out _ _ HBS.out (fun hHeld => ?_)
      clear hK K
      try dsimp only [Act.put]
      try simp only [List.setIfInBounds_toArray, List.set_cons_zero, List.set_cons_succ]
      refine wpAnyH_take (i := 11) (v := ?_) (op_of rfl) (by kernel_rfl) (by kernel_rfl) (by kernel_rfl) (fun _ _ _ h => h) (Or.inl ⟨by rfl, fun W hS => ?_⟩) (by assumption) ?_
      rotate_left
      · dsimp only at hS
        go_simp
        try with_reducible rfl
      try dsimp only [Act.put]
      try simp only [List.setIfInBounds_toArray, List.set_cons_zero, List.set_cons_succ]
      refine wpAnyH_take (i := 12) (v := ?_) (op_of rfl) (by kernel_rfl) (by kernel_rfl) (by kernel_rfl) (fun _ _ _ h => h) (Or.inl ⟨by rfl, fun W hS => ?_⟩) (by assumption) ?_
      rotate_left
      · dsimp only at hS
        go_simp
        try with_reducible rfl
      try dsimp only [Act.put]
      try simp only [List.setIfInBounds_toArray, List.set_cons_zero, List.set_cons_succ]
      refine wpAnyH_take (i := 13) (v := ?_) (op_of rfl) (by kernel_rfl) (by kernel_rfl) (by kernel_rfl) (fun _ _ _ h => h) (Or.inl ⟨by rfl, fun W hS => ?_⟩) (by assumption) ?_
      rotate_left
      · dsimp only at hS
        go_simp
        try with_reducible rfl
      try dsimp only [Act.put]
      try simp only [List.setIfInBounds_toArray, List.set_cons_zero, List.set_cons_succ]
      refine wpAnyH_ready (rs := [14]) (by kernel_rfl) (by simp) (AllReadyH.cons (op_of rfl) (fun K hK => ?_) AllReadyH.nil)
      go_simp
      refine hK.out _ _ HBS.out (fun hHeld => ?_)
      clear hK K
      try dsimp only [Act.put]
      try simp only [List.setIfInBounds_toArray, List.set_cons_zero, List.set_cons_succ]
      refine wpAnyH_ready (rs := [15]) (by kernel_rfl) (by simp) (AllReadyH.cons (op_of rfl) (fun K hK => ?_) AllReadyH.nil)
      go_simp
      refine hK.out _ _ HBS.out (fun hHeld => ?_)
      clear hK K
      try dsimp only [Act.put]
      try simp only [List.setIfInBounds_toArray, List.set_cons_zero, List.set_cons_succ]
      refine wpAnyH_done (by kernel_rfl) ?_ _
      have hB5 := HB1.out.trans (HBS.out.mono HB1.out.size)
      have z4 : wn.cell? ⟨w.heap.size + 1, 1, none⟩ = some (.slice A4 n4 c4) := (hB5.cell (World.block_lt_of_cell? _ _ x4)).trans x4
      have hov := over_r wn (HV.out.nr (M := M + M) (Nat.lt_of_le_of_lt (Nat.sub_le _ _) (mul_small Bp.out Bb.out))) ((Hg.out.below HBS.out).more (by omega)) ((Ha.out.below HBS.out).more (by omega)) ((Ht.out.below hB5).more (by omega)) (by omega)
      have HB5 := Lib.hid hB5
      have HOV := Lib.hid hov
      clear hB5 hov
      go_wp2_with fail
      refine HOV.out.mono ?_
      rintro e w8 ⟨E1, i7, e7, E2, i8, e8, rfl, hx8, hy8, hb8⟩
      have hB8 := HB5.out.trans (hb8.mono HB5.out.size)
      have hl : w.heap.size + 1 + 1 < Wb.heap.size := by have := HZ.out; omega
      have Q4 := Q3.out.below hB8 hl
      have HX := Lib.hid (hx8.more HB5.out.size)
      have HY := Lib.hid (hy8.more HB5.out.size)
      have HB5 := Lib.hid (HBB.out.trans (hB8.mono HBB.out.size))
      have kk0 := Q4.cell 0
      have kk1 := Q4.cell 1
      have f0 := Q4.frozen 0
      have f1 := Q4.frozen 1
      have HQ4 := Lib.hid Q4
      have HL := Lib.hid hl
      clear Q4 hl hB8 hx8 hy8 hb8 HOV
      go_wp2_with fail
      have hp := put_q HQ4.out (.slice E1 i7 e7) (.slice E2 i8 e8)
      exact bodyPost_ret (v := .tuple #[.agg #[.slice E1 i7 e7, .slice E2 i8 e8], .bool true]) (by simp [results, Tryd.results16, go_sem, hp.cell 0, hp.cell 1]) rfl
        ⟨_, _, _, _, _, _, rfl, (HX.out.put_q HL.out _ _).more HBB.out.size, (HY.out.put_q HL.out _ _).more HBB.out.size, (HB5.out.setCell (by show w.heap.size ≤ w.heap.size + 1 + 1; omega) _).setCell (by show w.heap.size ≤ w.heap.size + 1 + 1; omega) _⟩
  · skip
    go_simp
    have hk := Blk.new wn 23 #[.slice A3 n3 c3, .slice C2 i2 d2]
    have hb := b1 wn (.cells #[.slice A3 n3 c3, .slice C2 i2 d2] 23)
    obtain ⟨g8, hg8⟩ : ∃ g, wn.heap.size = g := ⟨_, rfl⟩
    have HBS := Lib.hid (HBS.out.trans (hb.mono HBS.out.size))
    obtain ⟨wn, hwm⟩ : ∃ W, wn.alloc (.cells #[.slice A3 n3 c3, .slice C2 i2 d2] 23) = W := ⟨_, rfl⟩
    rw [hwm] at hk HBS
    rw [hg8] at hk ⊢
    rw [hwm]
    have HK8 := Lib.hid hk
    clear hk hb hg8 hwm
    refine hK.out _ _ HBS.out (fun hHeld => ?_)
    clear hK K
    try dsimp only [Act.put]
    try simp only [List.setIfInBounds_toArray, List.set_cons_zero, List.set_cons_succ]
    refine wpAnyH_ready (rs := [3]) (by kernel_rfl) (by simp) (AllReadyH.cons (op_of rfl) (fun K hK => ?_) AllReadyH.nil)
    go_simp
    have hk := Blk.new wn 23 #[.slice A1 n1 c1, .slice C3 i3 d3]
    have hb := b1 wn (.cells #[.slice A1 n1 c1, .slice C3 i3 d3] 23)
    obtain ⟨g3, hg3⟩ : ∃ g, wn.heap.size = g := ⟨_, rfl⟩
    have HBS := Lib.hid (HBS.out.trans (hb.mono HBS.out.size))
    have HK8 := Lib.hid (HK8.out.below hb HK8.out.lt)
    obtain ⟨wn, hwm⟩ : ∃ W, wn.alloc (.cells #[.slice A1 n1 c1, .slice C3 i3 d3] 23) = W := ⟨_, rfl⟩
    rw [hwm] at hk HBS HK8
    rw [hg3] at hk ⊢
    rw [hwm]
    have HK3 := Lib.hid hk
    clear hk hb hg3 hwm
    refine hK.out _ _ HBS.out (fun hHeld => ?_)
    clear hK K
    try dsimp only [Act.put]
    try simp only [List.setIfInBounds_toArray, List.set_cons_zero, List.set_cons_succ]
    refine wpAnyH_ready (rs := [4]) (by kernel_rfl) (by simp) (AllReadyH.cons (op_of rfl) (fun K hK => ?_) AllReadyH.nil)
    go_simp
    refine (mul2_r (g := g3) _ (HK3.out.cell 0) (HK3.out.cell 1) (Hp.out.below HBS.out) (Hb.out.below HBS.out) (by omega)).mono ?_
    rintro en wn ⟨v, rfl, h, hb⟩
    obtain ⟨D4, m4, d4, rfl⟩ := h.shape
    have HBS := Lib.hid (HBS.out.trans (hb.mono HBS.out.size))
    have HK3 := Lib.hid (HK3.out.below hb HK3.out.lt)
    have HK8 := Lib.hid (HK8.out.below hb HK8.out.lt)
    have HP4 := Lib.hid (h.nr (mul_small Bp.out Bb.out))
    clear h hb
    refine hK.out _ _ HBS.out (fun hHeld => ?_)
    clear hK K
    try dsimp only [Act.put]
    try simp only [List.setIfInBounds_toArray, List.set_cons_zero, List.set_cons_succ]
    refine wpAnyH_ready (rs := [9]) (by kernel_rfl) (by simp) (AllReadyH.cons (op_of rfl) (fun K hK => ?_) AllReadyH.nil)
    go_simp
    refine (mul2_r (g := g8) _ (HK8.out.cell 0) (HK8.out.cell 1) (Hr.out.below HBS.out) (Ha.out.below HBS.out) (by omega)).mono ?_
    rintro en wn ⟨v, rfl, h, hb⟩
    obtain ⟨D9, m9, d9, rfl⟩ := h.shape
    have HBS := Lib.hid (HBS.out.trans (hb.mono HBS.out.size))
    have HK3 := Lib.hid (HK3.out.below hb HK3.out.lt)
    have HK8 := Lib.hid (HK8.out.below hb HK8.out.lt)
    have HP4 := Lib.hid (HP4.out.below hb)
    have HP9 := Lib.hid (h.nr (mul_small Br.out Ba.out))
    clear h hb
    refine hK.out _ _ HBS.out (fun hHeld => ?_)
    clear hK K
    try dsimp only [Act.put]
    try simp only [List.setIfInBounds_toArray, List.set_cons_zero, List.set_cons_succ]
    refine wpAnyH_ready (rs := [10]) (by kernel_rfl) (by simp) (AllReadyH.cons (op_of rfl) (fun K hK => ?_) AllReadyH.nil)
    go_simp
    refine (natSubYes_r _ HP4.out HP9.out (by omega) HLT.out).mono ?_
    rintro en wn ⟨v, rfl, hv, hb⟩
    obtain ⟨D, m, d, rfl⟩ := hv.shape
    have HV := Lib.hid (hv.more HBS.out.size)
    have HBS := Lib.hid (HBS.out.trans (hb.mono HBS.out.size))
    clear hb hv
    refine hK.out _ _ HBS.out (fun hHeld => ?_)
    clear hK K
    try dsimp only [Act.put]
    try simp only [List.setIfInBounds_toArray, List.set_cons_zero, List.set_cons_succ]
    refine wpAnyH_take (i := 11) (v := ?_) (op_of rfl) (by kernel_rfl) (by kernel_rfl) (by kernel_rfl) (fun _ _ _ h => h) (Or.inl ⟨by rfl, fun W hS => ?_⟩) (by assumption) ?_
    rotate_left
    · dsimp only at hS
      go_simp
      try with_reducible rfl
    try dsimp only [Act.put]
    try simp only [List.setIfInBounds_toArray, List.set_cons_zero, List.set_cons_succ]
    refine wpAnyH_take (i := 12) (v := ?_) (op_of rfl) (by kernel_rfl) (by kernel_rfl) (by kernel_rfl) (fun _ _ _ h => h) (Or.inl ⟨by rfl, fun W hS => ?_⟩) (by assumption) ?_
    rotate_left
    · dsimp only at hS
      go_simp
      try with_reducible rfl
    try dsimp only [Act.put]
    try simp only [List.setIfInBounds_toArray, List.set_cons_zero, List.set_cons_succ]
    refine wpAnyH_take (i := 13) (v := ?_) (op_of rfl) (by kernel_rfl) (by kernel_rfl) (by kernel_rfl) (fun _ _ _ h => h) (Or.inl ⟨by rfl, fun W hS => ?_⟩) (by assumption) ?_
    rotate_left
    · dsimp only at hS
      go_simp
      try with_reducible rfl
    try dsimp only [Act.put]
    try simp only [List.setIfInBounds_toArray, List.set_cons_zero, List.set_cons_succ]
    refine wpAnyH_ready (rs := [14]) (by kernel_rfl) (by simp) (AllReadyH.cons (op_of rfl) (fun K hK => ?_) AllReadyH.nil)
    go_simp
    refine hK.out _ _ HBS.out (fun hHeld => ?_)
    clear hK K
    try dsimp only [Act.put]
    try simp only [List.setIfInBounds_toArray, List.set_cons_zero, List.set_cons_succ]
    refine wpAnyH_ready (rs := [15]) (by kernel_rfl) (by simp) (AllReadyH.cons (op_of rfl) (fun K hK => ?_) AllReadyH.nil)
    go_simp
    refine hK.out _ _ HBS.out (fun hHeld => ?_)
    clear hK K
    try dsimp only [Act.put]
    try simp only [List.setIfInBounds_toArray, List.set_cons_zero, List.set_cons_succ]
    refine wpAnyH_done (by kernel_rfl) ?_ _
    have hB5 := HB1.out.trans (HBS.out.mono HB1.out.size)
    have z4 : wn.cell? ⟨w.heap.size + 1, 1, none⟩ = some (.slice A4 n4 c4) := (hB5.cell (World.block_lt_of_cell? _ _ x4)).trans x4
    have hov := over_r wn (HV.out.nr (M := M + M) (Nat.lt_of_le_of_lt (Nat.sub_le _ _) (mul_small Bp.out Bb.out))) ((Hg.out.below HBS.out).more (by omega)) ((Ha.out.below HBS.out).more (by omega)) ((Ht.out.below hB5).more (by omega)) (by omega)
    have HB5 := Lib.hid hB5
    have HOV := Lib.hid hov
    clear hB5 hov
    go_wp2_with fail
    refine HOV.out.mono ?_
    rintro e w8 ⟨E1, i7, e7, E2, i8, e8, rfl, hx8, hy8, hb8⟩
    have hB8 := HB5.out.trans (hb8.mono HB5.out.size)
    have hl : w.heap.size + 1 + 1 < Wb.heap.size := by have := HZ.out; omega
    have Q4 := Q3.out.below hB8 hl
    have HX := Lib.hid (hx8.more HB5.out.size)
    have HY := Lib.hid (hy8.more HB5.out.size)
    have HB5 := Lib.hid (HBB.out.trans (hB8.mono HBB.out.size))
    have kk0 := Q4.cell 0
    have kk1 := Q4.cell 1
    have f0 := Q4.frozen 0
    have f1 := Q4.frozen 1
    have HQ4 := Lib.hid Q4
    have HL := Lib.hid hl
    clear Q4 hl hB8 hx8 hy8 hb8 HOV
    go_wp2_with fail
    have hp := put_q HQ4.out (.slice E1 i7 e7) (.slice E2 i8 e8)
    exact bodyPost_ret (v := .tuple #[.agg #[.slice E1 i7 e7, .slice E2 i8 e8], .bool true]) (by simp [results, Tryd.results16, go_sem, hp.cell 0, hp.cell 1]) rfl
      ⟨_, _, _, _, _, _, rfl, (HX.out.put_q HL.out _ _).more HBB.out.size, (HY.out.put_q HL.out _ _).more HBB.out.size, (HB5.out.setCell (by show w.heap.size ≤ w.heap.size + 1 + 1; omega) _).setCell (by show w.heap.size ≤ w.heap.size + 1 + 1; omega) _⟩
end Go.Proofs.YtlnabebjhpdgpaaDoor
