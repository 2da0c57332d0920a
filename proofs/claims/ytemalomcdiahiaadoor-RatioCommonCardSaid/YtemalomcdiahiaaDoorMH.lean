/-
  The document's fractions: as they are read, times a number that the denominator divides.
  The document's fractions: the least number that all denominators divide.
  A row of the document's fractions that a law appends to.
-/
import Derived.Test.YtemalomcdiahiaaDoorRat4B
import Derived.Test.YtemalomcdiahiaaDoorSkip
import Derived.Test.YtemalomcdiahiaaDoorRatE
import Derived.Test.YtemalomcdiahiaaDoorMI
import Derived.Maps.AppendAt
namespace Go.Proofs.YtemalomcdiahiaaDoor
open Go.RowKit
set_option maxRecDepth 100000

theorem num_lower {w : World} {L L' : Nat} {v : Value} {a : Nat} (h : Num w L v a) (hl : L' ≤ L) : Num w L' v a := by
  obtain ⟨A, xs, n, c, h1, h2, h3, h4, h5, h6⟩ := h
  exact ⟨A, xs, n, c, h1, h2, h3, h4, h5.more hl, h6⟩
/-- A fraction of the document's that is answered, in new memory. -/
def RetDB (w : World) (a b : Nat) (e : Ending) (w' : World) : Prop := ∃ A1 n1 c1 A2 n2 c2, e = .returned (.agg #[.slice A1 n1 c1, .slice A2 n2 c2]) ∧ (∃ L, w.heap.size ≤ L ∧ Num w' L (.agg #[.slice A1 n1 c1]) a) ∧ (∃ L, w.heap.size ≤ L ∧ Num w' L (.agg #[.slice A2 n2 c2]) b) ∧ Below w.heap.size w w'

set_option maxHeartbeats 2000000 in
theorem in4_b (A1 A2 : Option Addr) (xs ys : List Nat) (n1 c1 n2 c2 : Nat) (w : World) (hl1 : xs.length = n1) (hl2 : ys.length = n2) (hr1 : Ra w w.heap.size A1 xs) (hr2 : Ra w w.heap.size A2 ys) (hd1 : Dg xs) (hd2 : Dg ys) (hn1 : n1 ≤ 1000) (hn2 : n2 ≤ 1000) :
    Calls Tryd.prog 19 #[.agg #[.slice A1 n1 c1, .slice A2 n2 c2]] w (RetDB w (U xs) (U ys)) := by
  have hbb := b2 w (.cells #[.slice A1 n1 c1, .slice A2 n2 c2] 27) (.cells #[.slice none 0 0, .slice none 0 0] 38)
  have q1 := (Blk.new w 27 #[.slice A1 n1 c1, .slice A2 n2 c2]).alloc (.cells #[.slice none 0 0, .slice none 0 0] 38)
  have q2 := Blk.new (w.alloc (.cells #[.slice A1 n1 c1, .slice A2 n2 c2] 27)) 38 #[.slice none 0 0, .slice none 0 0]
  rw [World.size_alloc] at q2
  obtain ⟨W0, hW0⟩ : ∃ W0, (w.alloc (.cells #[.slice A1 n1 c1, .slice A2 n2 c2] 27)).alloc (.cells #[.slice none 0 0, .slice none 0 0] 38) = W0 := ⟨_, rfl⟩
  rw [hW0] at hbb q1 q2
  have x0 : W0.cell? ⟨w.heap.size, 0, none⟩ = some (.slice A1 n1 c1) := q1.cell 0
  have x1 : W0.cell? ⟨w.heap.size, 1, none⟩ = some (.slice A2 n2 c2) := q1.cell 1
  have hi1 := fun wz (h : Below W0.heap.size W0 wz) => in_any A1 xs n1 c1 wz hl1 (((hr1.below hbb (Nat.le_refl _)).more hbb.size).below h (Nat.le_refl _) |>.more h.size) hd1 (by omega)
  have hi2 := fun wz (h : Below W0.heap.size W0 wz) => in_any A2 ys n2 c2 wz hl2 (((hr2.below hbb (Nat.le_refl _)).more hbb.size).below h (Nat.le_refl _) |>.more h.size) hd2 (by omega)
  obtain ⟨a, ha⟩ : ∃ a, U xs = a := ⟨_, rfl⟩
  obtain ⟨b, hb⟩ : ∃ b, U ys = b := ⟨_, rfl⟩
  simp only [ha] at hi1
  simp only [hb] at hi2
  rw [ha, hb]
  have hl2' := q2.lt
  have Q2 := Lib.hid q2
  have HI1 := Lib.hid hi1
  have HI2 := Lib.hid hi2
  clear ha hb hl1 hl2 hr1 hr2 hd1 hd2 q1 q2 hi1 hi2
  go_enter Tryd.func19, Tryd.ntmps19
  go_wp2_with fail
  go_region_held3 (fun u => u.cell? ⟨w.heap.size, 0, none⟩ = some (.slice A1 n1 c1) ∧ u.cell? ⟨w.heap.size, 1, none⟩ = some (.slice A2 n2 c2))
    (first | exact ⟨x0, x1⟩ | assumption | exact cells2_put (by omega) (cells2_put (by omega) (by assumption)))
    (first
      | (go_at_call 9; (with_reducible refine Calls.mono (HI1.out _ ?_) ?_); (focus (first | exact (Below.refl _ _).drew | exact BX2)); rintro e y1 ⟨v1, rfl, hn1, hb1⟩; obtain ⟨B1, i1, e1, rfl⟩ := hn1.shape; have N1 := Lib.hid (num_lower hn1 (by first | exact hbb.size | exact Nat.le_trans hbb.size BX2.size)); clear hn1; (first | (have BX1 := BX2.trans (hb1.mono BX2.size); have N2 := Lib.hid (N2.out.below hb1)) | (have BX1 := drew_then hb1)); have hS1 := cells2 BX1 ⟨x0, x1⟩; have u0 : y1.cell? ⟨w.heap.size + 1, 0, none⟩ = some (.slice none 0 0) := (Q2.out.below BX1 hl2').cell 0; have u1 : y1.cell? ⟨w.heap.size + 1, 1, none⟩ = some (.slice none 0 0) := (Q2.out.below BX1 hl2').cell 1; have u2 := (Q2.out.below BX1 hl2').frozen 0; have u3 := (Q2.out.below BX1 hl2').frozen 1)
      | (go_at_call 9; (with_reducible refine Calls.mono (HI2.out _ ?_) ?_); (focus (first | exact (Below.refl _ _).drew | exact BX1)); rintro e y2 ⟨v2, rfl, hn2, hb2⟩; obtain ⟨B2, i2, e2, rfl⟩ := hn2.shape; have N2 := Lib.hid (num_lower hn2 (by first | exact hbb.size | exact Nat.le_trans hbb.size BX1.size)); clear hn2; (first | (have BX2 := BX1.trans (hb2.mono BX1.size); have N1 := Lib.hid (N1.out.below hb2)) | (have BX2 := drew_then hb2)); have hS2 := cells2 BX2 ⟨x0, x1⟩; have u0 : y2.cell? ⟨w.heap.size + 1, 0, none⟩ = some (.slice none 0 0) := (Q2.out.below BX2 hl2').cell 0; have u1 : y2.cell? ⟨w.heap.size + 1, 1, none⟩ = some (.slice none 0 0) := (Q2.out.below BX2 hl2').cell 1; have u2 := (Q2.out.below BX2 hl2').frozen 0; have u3 := (Q2.out.below BX2 hl2').frozen 1))
  all_goals
    go_wp2_with fail
    first
      | exact bodyPost_ret (v := .agg #[.slice B1 i1 e1, .slice B2 i2 e2]) (by simp [results, Tryd.results19, go_sem, (put_Q (Q2.out.below BX2 hl2') (.slice B1 i1 e1) (.slice B2 i2 e2)).cell 0, (put_Q (Q2.out.below BX2 hl2') (.slice B1 i1 e1) (.slice B2 i2 e2)).cell 1]) rfl
          ⟨_, _, _, _, _, _, rfl, ⟨_, Nat.le_refl _, (N1.out.setSi u0).setSi ((World.cell?_setCell_other _ _ _ _ (by intro e; injection e; omega)).trans u1)⟩, ⟨_, Nat.le_refl _, (N2.out.setSi u0).setSi ((World.cell?_setCell_other _ _ _ _ (by intro e; injection e; omega)).trans u1)⟩,
            ((hbb.trans (BX2.mono hbb.size)).setCell (by show w.heap.size ≤ w.heap.size + 1; omega) _).setCell (by show w.heap.size ≤ w.heap.size + 1; omega) _⟩
      | exact bodyPost_ret (v := .agg #[.slice B1 i1 e1, .slice B2 i2 e2]) (by simp [results, Tryd.results19, go_sem, (put_Q (Q2.out.below BX1 hl2') (.slice B1 i1 e1) (.slice B2 i2 e2)).cell 0, (put_Q (Q2.out.below BX1 hl2') (.slice B1 i1 e1) (.slice B2 i2 e2)).cell 1]) rfl
          ⟨_, _, _, _, _, _, rfl, ⟨_, Nat.le_refl _, (N1.out.setSi u0).setSi ((World.cell?_setCell_other _ _ _ _ (by intro e; injection e; omega)).trans u1)⟩, ⟨_, Nat.le_refl _, (N2.out.setSi u0).setSi ((World.cell?_setCell_other _ _ _ _ (by intro e; injection e; omega)).trans u1)⟩,
            ((hbb.trans (BX1.mono hbb.size)).setCell (by show w.heap.size ≤ w.heap.size + 1; omega) _).setCell (by show w.heap.size ≤ w.heap.size + 1; omega) _⟩

set_option maxHeartbeats 8000000 in
theorem up_r {j : Nat} (A1 A2 A3 : Option Addr) (n1 c1 n2 c2 n3 c3 a b m L1 L2 L3 : Nat) (w : World) (h1 : Num w L1 (.agg #[.slice A1 n1 c1]) a) (h2 : Num w L2 (.agg #[.slice A2 n2 c2]) b) (h3 : Num w L3 (.agg #[.slice A3 n3 c3]) m) (ha : a < 65536 ^ j) (hb : b < 65536 ^ j) (hm : m < 65536 ^ j) (hb0 : 0 < b) (hj : j ≤ 1000) :
    Calls Tryd.prog 38 #[.agg #[.slice A1 n1 c1, .slice A2 n2 c2], .agg #[.slice A3 n3 c3]] w fun e w' => ∃ A n c, e = .returned (.agg #[.slice A n c]) ∧ (∃ L, Num w' L (.agg #[.slice A n c]) (a * m / b)) ∧ Below w.heap.size w w' := by
  have hbb := (b2 w (.cells #[.slice A1 n1 c1, .slice A2 n2 c2] 38) (.cells #[.slice A3 n3 c3] 33)).alloc (by simp; omega) (.cells #[.slice none 0 0] 33)
  have q1 := ((Blk.new w 38 #[.slice A1 n1 c1, .slice A2 n2 c2]).alloc (.cells #[.slice A3 n3 c3] 33)).alloc (.cells #[.slice none 0 0] 33)
  have q2 := (Blk.new (w.alloc (.cells #[.slice A1 n1 c1, .slice A2 n2 c2] 38)) 33 #[.slice A3 n3 c3]).alloc (.cells #[.slice none 0 0] 33)
  have q3 := Blk.new ((w.alloc (.cells #[.slice A1 n1 c1, .slice A2 n2 c2] 38)).alloc (.cells #[.slice A3 n3 c3] 33)) 33 #[.slice none 0 0]
  rw [World.size_alloc] at q2
  rw [World.size_alloc, World.size_alloc] at q3
  obtain ⟨W1, hW1⟩ : ∃ W1, ((w.alloc (.cells #[.slice A1 n1 c1, .slice A2 n2 c2] 38)).alloc (.cells #[.slice A3 n3 c3] 33)).alloc (.cells #[.slice none 0 0] 33) = W1 := ⟨_, rfl⟩
  rw [hW1] at hbb q1 q2 q3
  have x0 : W1.cell? ⟨w.heap.size, 0, none⟩ = some (.slice A1 n1 c1) := q1.cell 0
  have x1 : W1.cell? ⟨w.heap.size, 1, none⟩ = some (.slice A2 n2 c2) := q1.cell 1
  have x2 : W1.cell? ⟨w.heap.size + 1, 0, none⟩ = some (.slice A3 n3 c3) := q2.cell 0
  have r0 : W1.cell? ⟨w.heap.size + 1 + 1, 0, none⟩ = some (.slice none 0 0) := q3.cell 0
  have r1 : W1.frozen? ⟨w.heap.size + 1 + 1, 0, none⟩ = false := q3.frozen 0
  have HN := Lib.hid (h1.below hbb)
  have HD := Lib.hid (h2.below hbb)
  have HM := Lib.hid (h3.below hbb)
  have HA := Lib.hid ha
  have HB := Lib.hid hb
  have HMM := Lib.hid hm
  have HAM : Hid (a * m < 65536 ^ (j + j)) := Lib.hid (by rw [Nat.pow_add]; exact Nat.mul_lt_mul'' ha hm)
  have HBS : Hid (Below W1.heap.size W1 W1.drew) := Lib.hid (Below.refl _ _).drew
  clear h1 h2 h3 ha hb hm q1 q2 q3
  go_enter Tryd.func38, Tryd.ntmps38
  go_wp2_with fail
  clear hW1
  refine wp_region_held_drew (S := fun W => Below W1.heap.size W1 W) (by kernel_rfl) (Below.refl _ _).drew (fun hHeld => ?_)
  obtain ⟨wn, hwn⟩ : ∃ W, W1.drew = W := ⟨_, rfl⟩
  rw [hwn] at HBS hHeld
  rw [hwn]
  clear hwn
  refine wpAnyH_take (i := 0) (v := ?_) (op_of rfl) (by kernel_rfl) (by kernel_rfl) (by kernel_rfl) (fun _ _ _ h => h) (Or.inl ⟨by rfl, fun W hS => ?_⟩) (by assumption) ?_
  rotate_left
  · dsimp only at hS
    go_simp
    try with_reducible rfl
  try dsimp only [Act.put]
  try simp only [List.setIfInBounds_toArray, List.set_cons_zero, List.set_cons_succ]
  refine wpAnyH_take (i := 1) (v := ?_) (op_of rfl) (by kernel_rfl) (by kernel_rfl) (by kernel_rfl) (fun _ _ _ h => h) (Or.inl ⟨by rfl, fun W hS => ?_⟩) (by assumption) ?_
  rotate_left
  · dsimp only at hS
    have z := (hS.cell (World.block_lt_of_cell? _ _ x0)).trans x0
    go_simp
    try with_reducible rfl
  try dsimp only [Act.put]
  try simp only [List.setIfInBounds_toArray, List.set_cons_zero, List.set_cons_succ]
  refine wpAnyH_take (i := 2) (v := ?_) (op_of rfl) (by kernel_rfl) (by kernel_rfl) (by kernel_rfl) (fun _ _ _ h => h) (Or.inl ⟨by rfl, fun W hS => ?_⟩) (by assumption) ?_
  rotate_left
  · dsimp only at hS
    have z := (hS.cell (World.block_lt_of_cell? _ _ x2)).trans x2
    go_simp
    try with_reducible rfl
  try dsimp only [Act.put]
  try simp only [List.setIfInBounds_toArray, List.set_cons_zero, List.set_cons_succ]
  refine wpAnyH_take (i := 4) (v := ?_) (op_of rfl) (by kernel_rfl) (by kernel_rfl) (by kernel_rfl) (fun _ _ _ h => h) (Or.inl ⟨by rfl, fun W hS => ?_⟩) (by assumption) ?_
  rotate_left
  · dsimp only at hS
    go_simp
    try with_reducible rfl
  try dsimp only [Act.put]
  try simp only [List.setIfInBounds_toArray, List.set_cons_zero, List.set_cons_succ]
  refine wpAnyH_take (i := 5) (v := ?_) (op_of rfl) (by kernel_rfl) (by kernel_rfl) (by kernel_rfl) (fun _ _ _ h => h) (Or.inl ⟨by rfl, fun W hS => ?_⟩) (by assumption) ?_
  rotate_left
  · dsimp only at hS
    have z := (hS.cell (World.block_lt_of_cell? _ _ x1)).trans x1
    go_simp
    try with_reducible rfl
  try dsimp only [Act.put]
  try simp only [List.setIfInBounds_toArray, List.set_cons_zero, List.set_cons_succ]
  refine wpAnyH_ready (rs := [3, 10, 11]) (by kernel_rfl) (by simp) (AllReadyH.cons (op_of rfl) (fun K hK => ?_) (AllReadyH.cons (op_of rfl) (fun K hK => ?_) (AllReadyH.cons (op_of rfl) (fun K hK => ?_) AllReadyH.nil)))
  · skip
    go_simp
    refine (mul_num (.agg #[.slice A1 n1 c1]) (.agg #[.slice A3 n3 c3]) a m _ _ _ (HN.out.below HBS.out) (HM.out.below HBS.out) HA.out HMM.out (by omega) (by omega)).mono ?_
    rintro en wn ⟨vp, rfl, hp, hb⟩
    obtain ⟨Ap, np, cp, rfl⟩ := hp.shape
    have HBS := Lib.hid (HBS.out.trans (hb.mono HBS.out.size))
    have HP := Lib.hid hp
    clear hp hb
    refine hK.out _ _ HBS.out (fun hHeld => ?_)
    clear hK K
    try dsimp only [Act.put]
    try simp only [List.setIfInBounds_toArray, List.set_cons_zero, List.set_cons_succ]
    refine wpAnyH_ready (rs := [6, 10, 11]) (by kernel_rfl) (by simp) (AllReadyH.cons (op_of rfl) (fun K hK => ?_) (AllReadyH.cons (op_of rfl) (fun K hK => ?_) (AllReadyH.cons (op_of rfl) (fun K hK => ?_) AllReadyH.nil)))
    · skip
      go_simp
      refine (div_num (.agg #[.slice Ap np cp]) (.agg #[.slice A2 n2 c2]) (a * m) b _ _ _ HP.out (HD.out.below HBS.out) HAM.out HB.out hb0 (by omega) (by omega)).mono ?_
      rintro en wn ⟨vq, vr, rfl, hq, hr, hb⟩
      obtain ⟨Aq, nq, cq, rfl⟩ := hq.shape
      obtain ⟨Ar, nr, cr, rfl⟩ := hr.shape
      have HBS := Lib.hid (HBS.out.trans (hb.mono HBS.out.size))
      have HQ := Lib.hid hq
      clear hq hr hb
      refine hK.out _ _ HBS.out (fun hHeld => ?_)
      clear hK K
      try dsimp only [Act.put]
      try simp only [List.setIfInBounds_toArray, List.set_cons_zero, List.set_cons_succ]
      refine wpAnyH_take (i := 7) (v := ?_) (op_of rfl) (by kernel_rfl) (by kernel_rfl) (by kernel_rfl) (fun _ _ _ h => h) (Or.inl ⟨by rfl, fun W hS => ?_⟩) (by assumption) ?_
      rotate_left
      · dsimp only at hS
        go_simp
        try with_reducible rfl
      try dsimp only [Act.put]
      try simp only [List.setIfInBounds_toArray, List.set_cons_zero, List.set_cons_succ]
      refine wpAnyH_take (i := 8) (v := ?_) (op_of rfl) (by kernel_rfl) (by kernel_rfl) (by kernel_rfl) (fun _ _ _ h => h) (Or.inl ⟨by rfl, fun W hS => ?_⟩) (by assumption) ?_
      rotate_left
      · dsimp only at hS
        go_simp
        try with_reducible rfl
      try dsimp only [Act.put]
      try simp only [List.setIfInBounds_toArray, List.set_cons_zero, List.set_cons_succ]
      refine wpAnyH_take (i := 9) (v := ?_) (op_of rfl) (by kernel_rfl) (by kernel_rfl) (by kernel_rfl) (fun _ _ _ h => h) (Or.inl ⟨by rfl, fun W hS => ?_⟩) (by assumption) ?_
      rotate_left
      · dsimp only at hS
        go_simp
        try with_reducible rfl
      try dsimp only [Act.put]
      try simp only [List.setIfInBounds_toArray, List.set_cons_zero, List.set_cons_succ]
      refine wpAnyH_ready (rs := [10, 11]) (by kernel_rfl) (by simp) (AllReadyH.cons (op_of rfl) (fun K hK => ?_) (AllReadyH.cons (op_of rfl) (fun K hK => ?_) AllReadyH.nil))
      · skip
        go_simp
        have hv := Var3.new wn
        have hb := b1 wn (.cells #[.slice none 0 0] 33)
        obtain ⟨g10, hg10⟩ : ∃ g, wn.heap.size = g := ⟨_, rfl⟩
        have hl10 : W1.heap.size ≤ g10 := by have := HBS.out.size; omega
        have HBS := Lib.hid (HBS.out.trans (hb.mono HBS.out.size))
        have HQ := Lib.hid (HQ.out.below hb)
        obtain ⟨wn, hwm⟩ : ∃ W, wn.alloc (.cells #[.slice none 0 0] 33) = W := ⟨_, rfl⟩
        rw [hwm] at hv HBS HQ
        rw [hg10] at hv ⊢
        rw [hwm]
        have V10 := Lib.hid hv
        clear hv hb hg10 hwm
        refine hK.out _ _ HBS.out (fun hHeld => ?_)
        clear hK K
        try dsimp only [Act.put]
        try simp only [List.setIfInBounds_toArray, List.set_cons_zero, List.set_cons_succ]
        refine wpAnyH_ready (rs := [11]) (by kernel_rfl) (by simp) (AllReadyH.cons (op_of rfl) (fun K hK => ?_) AllReadyH.nil)
        go_simp
        have hv := Var3.new wn
        have hb := b1 wn (.cells #[.slice none 0 0] 33)
        obtain ⟨g11, hg11⟩ : ∃ g, wn.heap.size = g := ⟨_, rfl⟩
        have hl11 : W1.heap.size ≤ g11 := by have := HBS.out.size; omega
        have hne : g11 ≠ g10 := by have := V10.out.lt; omega
        have HBS := Lib.hid (HBS.out.trans (hb.mono HBS.out.size))
        have V10 := Lib.hid (V10.out.below hb)
        have HQ := Lib.hid (HQ.out.below hb)
        obtain ⟨wn, hwm⟩ : ∃ W, wn.alloc (.cells #[.slice none 0 0] 33) = W := ⟨_, rfl⟩
        rw [hwm] at hv HBS V10 HQ
        rw [hg11] at hv ⊢
        rw [hwm]
        have V11 := Lib.hid hv
        clear hv hb hg11 hwm
        refine hK.out _ _ HBS.out (fun hHeld => ?_)
        clear hK K
        try dsimp only [Act.put]
        try simp only [List.setIfInBounds_toArray, List.set_cons_zero, List.set_cons_succ]
        refine wpAnyH_ready (rs := [12]) (by kernel_rfl) (by simp) (AllReadyH.cons (op_of rfl) (fun K hK => ?_) AllReadyH.nil)
        have hc10 := V10.out.1
        have hf10 := V10.out.2
        go_simp
        have hres := cell_put (u := .slice Aq nq cq) V10.out.1
        have HQ := Lib.hid (num_set3 (u := .slice Aq nq cq) HQ.out V10.out)
        have V11 := Lib.hid (V11.out.set (u := .slice Aq nq cq) (show g10 ≠ g11 from fun e => hne e.symm))
        have HBS := Lib.hid (HBS.out.setCell (p := ⟨g10, 0, none⟩) hl10 (.slice Aq nq cq))
        clear hc10 hf10 V10
        obtain ⟨wn, hwm⟩ : ∃ W, wn.setCell ⟨g10, 0, none⟩ (.slice Aq nq cq) = W := ⟨_, rfl⟩
        rw [hwm] at hres HQ V11 HBS
        rw [hwm]
        clear hwm
        refine hK.out _ _ HBS.out (fun hHeld => ?_)
        clear hK K
        try dsimp only [Act.put]
        try simp only [List.setIfInBounds_toArray, List.set_cons_zero, List.set_cons_succ]
        refine wpAnyH_ready (rs := [13]) (by kernel_rfl) (by simp) (AllReadyH.cons (op_of rfl) (fun K hK => ?_) AllReadyH.nil)
        have hc11 := V11.out.1
        have hf11 := V11.out.2
        go_simp
        have hres := (World.cell?_setCell_other wn ⟨g11, 0, none⟩ ⟨g10, 0, none⟩ (.slice Ar nr cr) (by intro e; injection e; omega)).trans hres
        have HQ := Lib.hid (num_set3 (u := .slice Ar nr cr) HQ.out V11.out)
        have HBS := Lib.hid (HBS.out.setCell (p := ⟨g11, 0, none⟩) hl11 (.slice Ar nr cr))
        clear hc11 hf11 V11
        obtain ⟨wn, hwm⟩ : ∃ W, wn.setCell ⟨g11, 0, none⟩ (.slice Ar nr cr) = W := ⟨_, rfl⟩
        rw [hwm] at hres HQ HBS
        rw [hwm]
        clear hwm
        refine hK.out _ _ HBS.out (fun hHeld => ?_)
        clear hK K
        try dsimp only [Act.put]
        try simp only [List.setIfInBounds_toArray, List.set_cons_zero, List.set_cons_succ]
        refine wpAnyH_done (by kernel_rfl) ?_ _
        have k0 := (HBS.out.cell (World.block_lt_of_cell? _ _ r0)).trans r0
        have k1 := (HBS.out.frozen (World.block_lt_of_cell? _ _ r0)).trans r1
        go_wp2_with fail
        have hpk := cell_put (u := .slice Aq nq cq) k0
        exact bodyPost_ret (v := .agg #[.slice Aq nq cq]) (by simp [results, Tryd.results38, go_sem, hpk]) rfl ⟨_, _, _, rfl, ⟨_, HQ.out.setSi k0⟩, (hbb.trans (HBS.out.mono hbb.size)).setCell (by show w.heap.size ≤ w.heap.size + 2; omega) _⟩
      · skip
        go_simp
        have hv := Var3.new wn
        have hb := b1 wn (.cells #[.slice none 0 0] 33)
        obtain ⟨g11, hg11⟩ : ∃ g, wn.heap.size = g := ⟨_, rfl⟩
        have hl11 : W1.heap.size ≤ g11 := by have := HBS.out.size; omega
        have HBS := Lib.hid (HBS.out.trans (hb.mono HBS.out.size))
        have HQ := Lib.hid (HQ.out.below hb)
        obtain ⟨wn, hwm⟩ : ∃ W, wn.alloc (.cells #[.slice none 0 0] 33) = W := ⟨_, rfl⟩
        rw [hwm] at hv HBS HQ
        rw [hg11] at hv ⊢
        rw [hwm]
        have V11 := Lib.hid hv
        clear hv hb hg11 hwm
        refine hK.out _ _ HBS.out (fun hHeld => ?_)
        clear hK K
        try dsimp only [Act.put]
        try simp only [List.setIfInBounds_toArray, List.set_cons_zero, List.set_cons_succ]
        refine wpAnyH_ready (rs := [10]) (by kernel_rfl) (by simp) (AllReadyH.cons (op_of rfl) (fun K hK => ?_) AllReadyH.nil)
        go_simp
        have hv := Var3.new wn
        have hb := b1 wn (.cells #[.slice none 0 0] 33)
        obtain ⟨g10, hg10⟩ : ∃ g, wn.heap.size = g := ⟨_, rfl⟩
        have hl10 : W1.heap.size ≤ g10 := by have := HBS.out.size; omega
        have hne : g11 ≠ g10 := by have := V11.out.lt; omega
        have HBS := Lib.hid (HBS.out.trans (hb.mono HBS.out.size))
        have V11 := Lib.hid (V11.out.below hb)
        have HQ := Lib.hid (HQ.out.below hb)
        obtain ⟨wn, hwm⟩ : ∃ W, wn.alloc (.cells #[.slice none 0 0] 33) = W := ⟨_, rfl⟩
        rw [hwm] at hv HBS V11 HQ
        rw [hg10] at hv ⊢
        rw [hwm]
        have V10 := Lib.hid hv
        clear hv hb hg10 hwm
        refine hK.out _ _ HBS.out (fun hHeld => ?_)
        clear hK K
        try dsimp only [Act.put]
        try simp only [List.setIfInBounds_toArray, List.set_cons_zero, List.set_cons_succ]
        refine wpAnyH_ready (rs := [12]) (by kernel_rfl) (by simp) (AllReadyH.cons (op_of rfl) (fun K hK => ?_) AllReadyH.nil)
        have hc10 := V10.out.1
        have hf10 := V10.out.2
        go_simp
        have hres := cell_put (u := .slice Aq nq cq) V10.out.1
        have HQ := Lib.hid (num_set3 (u := .slice Aq nq cq) HQ.out V10.out)
        have V11 := Lib.hid (V11.out.set (u := .slice Aq nq cq) (show g10 ≠ g11 from fun e => hne e.symm))
        have HBS := Lib.hid (HBS.out.setCell (p := ⟨g10, 0, none⟩) hl10 (.slice Aq nq cq))
        clear hc10 hf10 V10
        obtain ⟨wn, hwm⟩ : ∃ W, wn.setCell ⟨g10, 0, none⟩ (.slice Aq nq cq) = W := ⟨_, rfl⟩
        rw [hwm] at hres HQ V11 HBS
        rw [hwm]
        clear hwm
        refine hK.out _ _ HBS.out (fun hHeld => ?_)
        clear hK K
        try dsimp only [Act.put]
        try simp only [List.setIfInBounds_toArray, List.set_cons_zero, List.set_cons_succ]
        refine wpAnyH_ready (rs := [13]) (by kernel_rfl) (by simp) (AllReadyH.cons (op_of rfl) (fun K hK => ?_) AllReadyH.nil)
        have hc11 := V11.out.1
        have hf11 := V11.out.2
        go_simp
        have hres := (World.cell?_setCell_other wn ⟨g11, 0, none⟩ ⟨g10, 0, none⟩ (.slice Ar nr cr) (by intro e; injection e; omega)).trans hres
        have HQ := Lib.hid (num_set3 (u := .slice Ar nr cr) HQ.out V11.out)
        have HBS := Lib.hid (HBS.out.setCell (p := ⟨g11, 0, none⟩) hl11 (.slice Ar nr cr))
        clear hc11 hf11 V11
        obtain ⟨wn, hwm⟩ : ∃ W, wn.setCell ⟨g11, 0, none⟩ (.slice Ar nr cr) = W := ⟨_, rfl⟩
        rw [hwm] at hres HQ HBS
        rw [hwm]
        clear hwm
        refine hK.out _ _ HBS.out (fun hHeld => ?_)
        clear hK K
        try dsimp only [Act.put]
        try simp only [List.setIfInBounds_toArray, List.set_cons_zero, List.set_cons_succ]
        refine wpAnyH_done (by kernel_rfl) ?_ _
        have k0 := (HBS.out.cell (World.block_lt_of_cell? _ _ r0)).trans r0
        have k1 := (HBS.out.frozen (World.block_lt_of_cell? _ _ r0)).trans r1
        go_wp2_with fail
        have hpk := cell_put (u := .slice Aq nq cq) k0
        exact bodyPost_ret (v := .agg #[.slice Aq nq cq]) (by simp [results, Tryd.results38, go_sem, hpk]) rfl ⟨_, _, _, rfl, ⟨_, HQ.out.setSi k0⟩, (hbb.trans (HBS.out.mono hbb.size)).setCell (by show w.heap.size ≤ w.heap.size + 2; omega) _⟩
    · skip
      go_simp
      have hv := Var3.new wn
      have hb := b1 wn (.cells #[.slice none 0 0] 33)
      obtain ⟨g10, hg10⟩ : ∃ g, wn.heap.size = g := ⟨_, rfl⟩
      have hl10 : W1.heap.size ≤ g10 := by have := HBS.out.size; omega
      have HBS := Lib.hid (HBS.out.trans (hb.mono HBS.out.size))
      have HP := Lib.hid (HP.out.below hb)
      obtain ⟨wn, hwm⟩ : ∃ W, wn.alloc (.cells #[.slice none 0 0] 33) = W := ⟨_, rfl⟩
      rw [hwm] at hv HBS HP
      rw [hg10] at hv ⊢
      rw [hwm]
      have V10 := Lib.hid hv
      clear hv hb hg10 hwm
      refine hK.out _ _ HBS.out (fun hHeld => ?_)
      clear hK K
      try dsimp only [Act.put]
      try simp only [List.setIfInBounds_toArray, List.set_cons_zero, List.set_cons_succ]
      refine wpAnyH_ready (rs := [6, 11]) (by kernel_rfl) (by simp) (AllReadyH.cons (op_of rfl) (fun K hK => ?_) (AllReadyH.cons (op_of rfl) (fun K hK => ?_) AllReadyH.nil))
      · skip
        go_simp
        refine (div_num (.agg #[.slice Ap np cp]) (.agg #[.slice A2 n2 c2]) (a * m) b _ _ _ HP.out (HD.out.below HBS.out) HAM.out HB.out hb0 (by omega) (by omega)).mono ?_
        rintro en wn ⟨vq, vr, rfl, hq, hr, hb⟩
        obtain ⟨Aq, nq, cq, rfl⟩ := hq.shape
        obtain ⟨Ar, nr, cr, rfl⟩ := hr.shape
        have HBS := Lib.hid (HBS.out.trans (hb.mono HBS.out.size))
        have V10 := Lib.hid (V10.out.below hb)
        have HQ := Lib.hid hq
        clear hq hr hb
        refine hK.out _ _ HBS.out (fun hHeld => ?_)
        clear hK K
        try dsimp only [Act.put]
        try simp only [List.setIfInBounds_toArray, List.set_cons_zero, List.set_cons_succ]
        refine wpAnyH_take (i := 7) (v := ?_) (op_of rfl) (by kernel_rfl) (by kernel_rfl) (by kernel_rfl) (fun _ _ _ h => h) (Or.inl ⟨by rfl, fun W hS => ?_⟩) (by assumption) ?_
        rotate_left
        · dsimp only at hS
          go_simp
          try with_reducible rfl
        try dsimp only [Act.put]
        try simp only [List.setIfInBounds_toArray, List.set_cons_zero, List.set_cons_succ]
        refine wpAnyH_take (i := 8) (v := ?_) (op_of rfl) (by kernel_rfl) (by kernel_rfl) (by kernel_rfl) (fun _ _ _ h => h) (Or.inl ⟨by rfl, fun W hS => ?_⟩) (by assumption) ?_
        rotate_left
        · dsimp only at hS
          go_simp
          try with_reducible rfl
        try dsimp only [Act.put]
        try simp only [List.setIfInBounds_toArray, List.set_cons_zero, List.set_cons_succ]
        refine wpAnyH_take (i := 9) (v := ?_) (op_of rfl) (by kernel_rfl) (by kernel_rfl) (by kernel_rfl) (fun _ _ _ h => h) (Or.inl ⟨by rfl, fun W hS => ?_⟩) (by assumption) ?_
        rotate_left
        · dsimp only at hS
          go_simp
          try with_reducible rfl
        try dsimp only [Act.put]
        try simp only [List.setIfInBounds_toArray, List.set_cons_zero, List.set_cons_succ]
        refine wpAnyH_ready (rs := [11]) (by kernel_rfl) (by simp) (AllReadyH.cons (op_of rfl) (fun K hK => ?_) AllReadyH.nil)
        go_simp
        have hv := Var3.new wn
        have hb := b1 wn (.cells #[.slice none 0 0] 33)
        obtain ⟨g11, hg11⟩ : ∃ g, wn.heap.size = g := ⟨_, rfl⟩
        have hl11 : W1.heap.size ≤ g11 := by have := HBS.out.size; omega
        have hne : g11 ≠ g10 := by have := V10.out.lt; omega
        have HBS := Lib.hid (HBS.out.trans (hb.mono HBS.out.size))
        have V10 := Lib.hid (V10.out.below hb)
        have HQ := Lib.hid (HQ.out.below hb)
        obtain ⟨wn, hwm⟩ : ∃ W, wn.alloc (.cells #[.slice none 0 0] 33) = W := ⟨_, rfl⟩
        rw [hwm] at hv HBS V10 HQ
        rw [hg11] at hv ⊢
        rw [hwm]
        have V11 := Lib.hid hv
        clear hv hb hg11 hwm
        refine hK.out _ _ HBS.out (fun hHeld => ?_)
        clear hK K
        try dsimp only [Act.put]
        try simp only [List.setIfInBounds_toArray, List.set_cons_zero, List.set_cons_succ]
        refine wpAnyH_ready (rs := [12]) (by kernel_rfl) (by simp) (AllReadyH.cons (op_of rfl) (fun K hK => ?_) AllReadyH.nil)
        have hc10 := V10.out.1
        have hf10 := V10.out.2
        go_simp
        have hres := cell_put (u := .slice Aq nq cq) V10.out.1
        have HQ := Lib.hid (num_set3 (u := .slice Aq nq cq) HQ.out V10.out)
        have V11 := Lib.hid (V11.out.set (u := .slice Aq nq cq) (show g10 ≠ g11 from fun e => hne e.symm))
        have HBS := Lib.hid (HBS.out.setCell (p := ⟨g10, 0, none⟩) hl10 (.slice Aq nq cq))
        clear hc10 hf10 V10
        obtain ⟨wn, hwm⟩ : ∃ W, wn.setCell ⟨g10, 0, none⟩ (.slice Aq nq cq) = W := ⟨_, rfl⟩
        rw [hwm] at hres HQ V11 HBS
        rw [hwm]
        clear hwm
        refine hK.out _ _ HBS.out (fun hHeld => ?_)
        clear hK K
        try dsimp only [Act.put]
        try simp only [List.setIfInBounds_toArray, List.set_cons_zero, List.set_cons_succ]
        refine wpAnyH_ready (rs := [13]) (by kernel_rfl) (by simp) (AllReadyH.cons (op_of rfl) (fun K hK => ?_) AllReadyH.nil)
        have hc11 := V11.out.1
        have hf11 := V11.out.2
        go_simp
        have hres := (World.cell?_setCell_other wn ⟨g11, 0, none⟩ ⟨g10, 0, none⟩ (.slice Ar nr cr) (by intro e; injection e; omega)).trans hres
        have HQ := Lib.hid (num_set3 (u := .slice Ar nr cr) HQ.out V11.out)
        have HBS := Lib.hid (HBS.out.setCell (p := ⟨g11, 0, none⟩) hl11 (.slice Ar nr cr))
        clear hc11 hf11 V11
        obtain ⟨wn, hwm⟩ : ∃ W, wn.setCell ⟨g11, 0, none⟩ (.slice Ar nr cr) = W := ⟨_, rfl⟩
        rw [hwm] at hres HQ HBS
        rw [hwm]
        clear hwm
        refine hK.out _ _ HBS.out (fun hHeld => ?_)
        clear hK K
        try dsimp only [Act.put]
        try simp only [List.setIfInBounds_toArray, List.set_cons_zero, List.set_cons_succ]
        refine wpAnyH_done (by kernel_rfl) ?_ _
        have k0 := (HBS.out.cell (World.block_lt_of_cell? _ _ r0)).trans r0
        have k1 := (HBS.out.frozen (World.block_lt_of_cell? _ _ r0)).trans r1
        go_wp2_with fail
        have hpk := cell_put (u := .slice Aq nq cq) k0
        exact bodyPost_ret (v := .agg #[.slice Aq nq cq]) (by simp [results, Tryd.results38, go_sem, hpk]) rfl ⟨_, _, _, rfl, ⟨_, HQ.out.setSi k0⟩, (hbb.trans (HBS.out.mono hbb.size)).setCell (by show w.heap.size ≤ w.heap.size + 2; omega) _⟩
      · skip
        go_simp
        have hv := Var3.new wn
        have hb := b1 wn (.cells #[.slice none 0 0] 33)
        obtain ⟨g11, hg11⟩ : ∃ g, wn.heap.size = g := ⟨_, rfl⟩
        have hl11 : W1.heap.size ≤ g11 := by have := HBS.out.size; omega
        have hne : g11 ≠ g10 := by have := V10.out.lt; omega
        have HBS := Lib.hid (HBS.out.trans (hb.mono HBS.out.size))
        have V10 := Lib.hid (V10.out.below hb)
        have HP := Lib.hid (HP.out.below hb)
        obtain ⟨wn, hwm⟩ : ∃ W, wn.alloc (.cells #[.slice none 0 0] 33) = W := ⟨_, rfl⟩
        rw [hwm] at hv HBS V10 HP
        rw [hg11] at hv ⊢
        rw [hwm]
        have V11 := Lib.hid hv
        clear hv hb hg11 hwm
        refine hK.out _ _ HBS.out (fun hHeld => ?_)
        clear hK K
        try dsimp only [Act.put]
        try simp only [List.setIfInBounds_toArray, List.set_cons_zero, List.set_cons_succ]
        refine wpAnyH_ready (rs := [6]) (by kernel_rfl) (by simp) (AllReadyH.cons (op_of rfl) (fun K hK => ?_) AllReadyH.nil)
        go_simp
        refine (div_num (.agg #[.slice Ap np cp]) (.agg #[.slice A2 n2 c2]) (a * m) b _ _ _ HP.out (HD.out.below HBS.out) HAM.out HB.out hb0 (by omega) (by omega)).mono ?_
        rintro en wn ⟨vq, vr, rfl, hq, hr, hb⟩
        obtain ⟨Aq, nq, cq, rfl⟩ := hq.shape
        obtain ⟨Ar, nr, cr, rfl⟩ := hr.shape
        have HBS := Lib.hid (HBS.out.trans (hb.mono HBS.out.size))
        have V10 := Lib.hid (V10.out.below hb)
        have V11 := Lib.hid (V11.out.below hb)
        have HQ := Lib.hid hq
        clear hq hr hb
        refine hK.out _ _ HBS.out (fun hHeld => ?_)
        clear hK K
        try dsimp only [Act.put]
        try simp only [List.setIfInBounds_toArray, List.set_cons_zero, List.set_cons_succ]
        refine wpAnyH_take (i := 7) (v := ?_) (op_of rfl) (by kernel_rfl) (by kernel_rfl) (by kernel_rfl) (fun _ _ _ h => h) (Or.inl ⟨by rfl, fun W hS => ?_⟩) (by assumption) ?_
        rotate_left
        · dsimp only at hS
          go_simp
          try with_reducible rfl
        try dsimp only [Act.put]
        try simp only [List.setIfInBounds_toArray, List.set_cons_zero, List.set_cons_succ]
        refine wpAnyH_take (i := 8) (v := ?_) (op_of rfl) (by kernel_rfl) (by kernel_rfl) (by kernel_rfl) (fun _ _ _ h => h) (Or.inl ⟨by rfl, fun W hS => ?_⟩) (by assumption) ?_
        rotate_left
        · dsimp only at hS
          go_simp
          try with_reducible rfl
        try dsimp only [Act.put]
        try simp only [List.setIfInBounds_toArray, List.set_cons_zero, List.set_cons_succ]
        refine wpAnyH_take (i := 9) (v := ?_) (op_of rfl) (by kernel_rfl) (by kernel_rfl) (by kernel_rfl) (fun _ _ _ h => h) (Or.inl ⟨by rfl, fun W hS => ?_⟩) (by assumption) ?_
        rotate_left
        · dsimp only at hS
          go_simp
          try with_reducible rfl
        try dsimp only [Act.put]
        try simp only [List.setIfInBounds_toArray, List.set_cons_zero, List.set_cons_succ]
        refine wpAnyH_ready (rs := [12]) (by kernel_rfl) (by simp) (AllReadyH.cons (op_of rfl) (fun K hK => ?_) AllReadyH.nil)
        have hc10 := V10.out.1
        have hf10 := V10.out.2
        go_simp
        have hres := cell_put (u := .slice Aq nq cq) V10.out.1
        have HQ := Lib.hid (num_set3 (u := .slice Aq nq cq) HQ.out V10.out)
        have V11 := Lib.hid (V11.out.set (u := .slice Aq nq cq) (show g10 ≠ g11 from fun e => hne e.symm))
        have HBS := Lib.hid (HBS.out.setCell (p := ⟨g10, 0, none⟩) hl10 (.slice Aq nq cq))
        clear hc10 hf10 V10
        obtain ⟨wn, hwm⟩ : ∃ W, wn.setCell ⟨g10, 0, none⟩ (.slice Aq nq cq) = W := ⟨_, rfl⟩
        rw [hwm] at hres HQ V11 HBS
        rw [hwm]
        clear hwm
        refine hK.out _ _ HBS.out (fun hHeld => ?_)
        clear hK K
        try dsimp only [Act.put]
        try simp only [List.setIfInBounds_toArray, List.set_cons_zero, List.set_cons_succ]
        refine wpAnyH_ready (rs := [13]) (by kernel_rfl) (by simp) (AllReadyH.cons (op_of rfl) (fun K hK => ?_) AllReadyH.nil)
        have hc11 := V11.out.1
        have hf11 := V11.out.2
        go_simp
        have hres := (World.cell?_setCell_other wn ⟨g11, 0, none⟩ ⟨g10, 0, none⟩ (.slice Ar nr cr) (by intro e; injection e; omega)).trans hres
        have HQ := Lib.hid (num_set3 (u := .slice Ar nr cr) HQ.out V11.out)
        have HBS := Lib.hid (HBS.out.setCell (p := ⟨g11, 0, none⟩) hl11 (.slice Ar nr cr))
        clear hc11 hf11 V11
        obtain ⟨wn, hwm⟩ : ∃ W, wn.setCell ⟨g11, 0, none⟩ (.slice Ar nr cr) = W := ⟨_, rfl⟩
        rw [hwm] at hres HQ HBS
        rw [hwm]
        clear hwm
        refine hK.out _ _ HBS.out (fun hHeld => ?_)
        clear hK K
        try dsimp only [Act.put]
        try simp only [List.setIfInBounds_toArray, List.set_cons_zero, List.set_cons_succ]
        refine wpAnyH_done (by kernel_rfl) ?_ _
        have k0 := (HBS.out.cell (World.block_lt_of_cell? _ _ r0)).trans r0
        have k1 := (HBS.out.frozen (World.block_lt_of_cell? _ _ r0)).trans r1
        go_wp2_with fail
        have hpk := cell_put (u := .slice Aq nq cq) k0
        exact bodyPost_ret (v := .agg #[.slice Aq nq cq]) (by simp [results, Tryd.results38, go_sem, hpk]) rfl ⟨_, _, _, rfl, ⟨_, HQ.out.setSi k0⟩, (hbb.trans (HBS.out.mono hbb.size)).setCell (by show w.heap.size ≤ w.heap.size + 2; omega) _⟩
    · skip
      go_simp
      have hv := Var3.new wn
      have hb := b1 wn (.cells #[.slice none 0 0] 33)
      obtain ⟨g11, hg11⟩ : ∃ g, wn.heap.size = g := ⟨_, rfl⟩
      have hl11 : W1.heap.size ≤ g11 := by have := HBS.out.size; omega
      have HBS := Lib.hid (HBS.out.trans (hb.mono HBS.out.size))
      have HP := Lib.hid (HP.out.below hb)
      obtain ⟨wn, hwm⟩ : ∃ W, wn.alloc (.cells #[.slice none 0 0] 33) = W := ⟨_, rfl⟩
      rw [hwm] at hv HBS HP
      rw [hg11] at hv ⊢
      rw [hwm]
      have V11 := Lib.hid hv
      clear hv hb hg11 hwm
      refine hK.out _ _ HBS.out (fun hHeld => ?_)
      clear hK K
      try dsimp only [Act.put]
      try simp only [List.setIfInBounds_toArray, List.set_cons_zero, List.set_cons_succ]
      refine wpAnyH_ready (rs := [6, 10]) (by kernel_rfl) (by simp) (AllReadyH.cons (op_of rfl) (fun K hK => ?_) (AllReadyH.cons (op_of rfl) (fun K hK => ?_) AllReadyH.nil))
      · skip
        go_simp
        refine (div_num (.agg #[.slice Ap np cp]) (.agg #[.slice A2 n2 c2]) (a * m) b _ _ _ HP.out (HD.out.below HBS.out) HAM.out HB.out hb0 (by omega) (by omega)).mono ?_
        rintro en wn ⟨vq, vr, rfl, hq, hr, hb⟩
        obtain ⟨Aq, nq, cq, rfl⟩ := hq.shape
        obtain ⟨Ar, nr, cr, rfl⟩ := hr.shape
        have HBS := Lib.hid (HBS.out.trans (hb.mono HBS.out.size))
        have V11 := Lib.hid (V11.out.below hb)
        have HQ := Lib.hid hq
        clear hq hr hb
        refine hK.out _ _ HBS.out (fun hHeld => ?_)
        clear hK K
        try dsimp only [Act.put]
        try simp only [List.setIfInBounds_toArray, List.set_cons_zero, List.set_cons_succ]
        refine wpAnyH_take (i := 7) (v := ?_) (op_of rfl) (by kernel_rfl) (by kernel_rfl) (by kernel_rfl) (fun _ _ _ h => h) (Or.inl ⟨by rfl, fun W hS => ?_⟩) (by assumption) ?_
        rotate_left
        · dsimp only at hS
          go_simp
          try with_reducible rfl
        try dsimp only [Act.put]
        try simp only [List.setIfInBounds_toArray, List.set_cons_zero, List.set_cons_succ]
        refine wpAnyH_take (i := 8) (v := ?_) (op_of rfl) (by kernel_rfl) (by kernel_rfl) (by kernel_rfl) (fun _ _ _ h => h) (Or.inl ⟨by rfl, fun W hS => ?_⟩) (by assumption) ?_
        rotate_left
        · dsimp only at hS
          go_simp
          try with_reducible rfl
        try dsimp only [Act.put]
        try simp only [List.setIfInBounds_toArray, List.set_cons_zero, List.set_cons_succ]
        refine wpAnyH_take (i := 9) (v := ?_) (op_of rfl) (by kernel_rfl) (by kernel_rfl) (by kernel_rfl) (fun _ _ _ h => h) (Or.inl ⟨by rfl, fun W hS => ?_⟩) (by assumption) ?_
        rotate_left
        · dsimp only at hS
          go_simp
          try with_reducible rfl
        try dsimp only [Act.put]
        try simp only [List.setIfInBounds_toArray, List.set_cons_zero, List.set_cons_succ]
        refine wpAnyH_ready (rs := [10]) (by kernel_rfl) (by simp) (AllReadyH.cons (op_of rfl) (fun K hK => ?_) AllReadyH.nil)
        go_simp
        have hv := Var3.new wn
        have hb := b1 wn (.cells #[.slice none 0 0] 33)
        obtain ⟨g10, hg10⟩ : ∃ g, wn.heap.size = g := ⟨_, rfl⟩
        have hl10 : W1.heap.size ≤ g10 := by have := HBS.out.size; omega
        have hne : g11 ≠ g10 := by have := V11.out.lt; omega
        have HBS := Lib.hid (HBS.out.trans (hb.mono HBS.out.size))
        have V11 := Lib.hid (V11.out.below hb)
        have HQ := Lib.hid (HQ.out.below hb)
        obtain ⟨wn, hwm⟩ : ∃ W, wn.alloc (.cells #[.slice none 0 0] 33) = W := ⟨_, rfl⟩
        rw [hwm] at hv HBS V11 HQ
        rw [hg10] at hv ⊢
        rw [hwm]
        have V10 := Lib.hid hv
        clear hv hb hg10 hwm
        refine hK.out _ _ HBS.out (fun hHeld => ?_)
        clear hK K
        try dsimp only [Act.put]
        try simp only [List.setIfInBounds_toArray, List.set_cons_zero, List.set_cons_succ]
        refine wpAnyH_ready (rs := [12]) (by kernel_rfl) (by simp) (AllReadyH.cons (op_of rfl) (fun K hK => ?_) AllReadyH.nil)
        have hc10 := V10.out.1
        have hf10 := V10.out.2
        go_simp
        have hres := cell_put (u := .slice Aq nq cq) V10.out.1
        have HQ := Lib.hid (num_set3 (u := .slice Aq nq cq) HQ.out V10.out)
        have V11 := Lib.hid (V11.out.set (u := .slice Aq nq cq) (show g10 ≠ g11 from fun e => hne e.symm))
        have HBS := Lib.hid (HBS.out.setCell (p := ⟨g10, 0, none⟩) hl10 (.slice Aq nq cq))
        clear hc10 hf10 V10
        obtain ⟨wn, hwm⟩ : ∃ W, wn.setCell ⟨g10, 0, none⟩ (.slice Aq nq cq) = W := ⟨_, rfl⟩
        rw [hwm] at hres HQ V11 HBS
        rw [hwm]
        clear hwm
        refine hK.out _ _ HBS.out (fun hHeld => ?_)
        clear hK K
        try dsimp only [Act.put]
        try simp only [List.setIfInBounds_toArray, List.set_cons_zero, List.set_cons_succ]
        refine wpAnyH_ready (rs := [13]) (by kernel_rfl) (by simp) (AllReadyH.cons (op_of rfl) (fun K hK => ?_) AllReadyH.nil)
        have hc11 := V11.out.1
        have hf11 := V11.out.2
        go_simp
        have hres := (World.cell?_setCell_other wn ⟨g11, 0, none⟩ ⟨g10, 0, none⟩ (.slice Ar nr cr) (by intro e; injection e; omega)).trans hres
        have HQ := Lib.hid (num_set3 (u := .slice Ar nr cr) HQ.out V11.out)
        have HBS := Lib.hid (HBS.out.setCell (p := ⟨g11, 0, none⟩) hl11 (.slice Ar nr cr))
        clear hc11 hf11 V11
        obtain ⟨wn, hwm⟩ : ∃ W, wn.setCell ⟨g11, 0, none⟩ (.slice Ar nr cr) = W := ⟨_, rfl⟩
        rw [hwm] at hres HQ HBS
        rw [hwm]
        clear hwm
        refine hK.out _ _ HBS.out (fun hHeld => ?_)
        clear hK K
        try dsimp only [Act.put]
        try simp only [List.setIfInBounds_toArray, List.set_cons_zero, List.set_cons_succ]
        refine wpAnyH_done (by kernel_rfl) ?_ _
        have k0 := (HBS.out.cell (World.block_lt_of_cell? _ _ r0)).trans r0
        have k1 := (HBS.out.frozen (World.block_lt_of_cell? _ _ r0)).trans r1
        go_wp2_with fail
        have hpk := cell_put (u := .slice Aq nq cq) k0
        exact bodyPost_ret (v := .agg #[.slice Aq nq cq]) (by simp [results, Tryd.results38, go_sem, hpk]) rfl ⟨_, _, _, rfl, ⟨_, HQ.out.setSi k0⟩, (hbb.trans (HBS.out.mono hbb.size)).setCell (by show w.heap.size ≤ w.heap.size + 2; omega) _⟩
      · skip
        go_simp
        have hv := Var3.new wn
        have hb := b1 wn (.cells #[.slice none 0 0] 33)
        obtain ⟨g10, hg10⟩ : ∃ g, wn.heap.size = g := ⟨_, rfl⟩
        have hl10 : W1.heap.size ≤ g10 := by have := HBS.out.size; omega
        have hne : g11 ≠ g10 := by have := V11.out.lt; omega
        have HBS := Lib.hid (HBS.out.trans (hb.mono HBS.out.size))
        have V11 := Lib.hid (V11.out.below hb)
        have HP := Lib.hid (HP.out.below hb)
        obtain ⟨wn, hwm⟩ : ∃ W, wn.alloc (.cells #[.slice none 0 0] 33) = W := ⟨_, rfl⟩
        rw [hwm] at hv HBS V11 HP
        rw [hg10] at hv ⊢
        rw [hwm]
        have V10 := Lib.hid hv
        clear hv hb hg10 hwm
        refine hK.out _ _ HBS.out (fun hHeld => ?_)
        clear hK K
        try dsimp only [Act.put]
        try simp only [List.setIfInBounds_toArray, List.set_cons_zero, List.set_cons_succ]
        refine wpAnyH_ready (rs := [6]) (by kernel_rfl) (by simp) (AllReadyH.cons (op_of rfl) (fun K hK => ?_) AllReadyH.nil)
        go_simp
        refine (div_num (.agg #[.slice Ap np cp]) (.agg #[.slice A2 n2 c2]) (a * m) b _ _ _ HP.out (HD.out.below HBS.out) HAM.out HB.out hb0 (by omega) (by omega)).mono ?_
        rintro en wn ⟨vq, vr, rfl, hq, hr, hb⟩
        obtain ⟨Aq, nq, cq, rfl⟩ := hq.shape
        obtain ⟨Ar, nr, cr, rfl⟩ := hr.shape
        have HBS := Lib.hid (HBS.out.trans (hb.mono HBS.out.size))
        have V10 := Lib.hid (V10.out.below hb)
        have V11 := Lib.hid (V11.out.below hb)
        have HQ := Lib.hid hq
        clear hq hr hb
        refine hK.out _ _ HBS.out (fun hHeld => ?_)
        clear hK K
        try dsimp only [Act.put]
        try simp only [List.setIfInBounds_toArray, List.set_cons_zero, List.set_cons_succ]
        refine wpAnyH_take (i := 7) (v := ?_) (op_of rfl) (by kernel_rfl) (by kernel_rfl) (by kernel_rfl) (fun _ _ _ h => h) (Or.inl ⟨by rfl, fun W hS => ?_⟩) (by assumption) ?_
        rotate_left
        · dsimp only at hS
          go_simp
          try with_reducible rfl
        try dsimp only [Act.put]
        try simp only [List.setIfInBounds_toArray, List.set_cons_zero, List.set_cons_succ]
        refine wpAnyH_take (i := 8) (v := ?_) (op_of rfl) (by kernel_rfl) (by kernel_rfl) (by kernel_rfl) (fun _ _ _ h => h) (Or.inl ⟨by rfl, fun W hS => ?_⟩) (by assumption) ?_
        rotate_left
        · dsimp only at hS
          go_simp
          try with_reducible rfl
        try dsimp only [Act.put]
        try simp only [List.setIfInBounds_toArray, List.set_cons_zero, List.set_cons_succ]
        refine wpAnyH_take (i := 9) (v := ?_) (op_of rfl) (by kernel_rfl) (by kernel_rfl) (by kernel_rfl) (fun _ _ _ h => h) (Or.inl ⟨by rfl, fun W hS => ?_⟩) (by assumption) ?_
        rotate_left
        · dsimp only at hS
          go_simp
          try with_reducible rfl
        try dsimp only [Act.put]
        try simp only [List.setIfInBounds_toArray, List.set_cons_zero, List.set_cons_succ]
        refine wpAnyH_ready (rs := [12]) (by kernel_rfl) (by simp) (AllReadyH.cons (op_of rfl) (fun K hK => ?_) AllReadyH.nil)
        have hc10 := V10.out.1
        have hf10 := V10.out.2
        go_simp
        have hres := cell_put (u := .slice Aq nq cq) V10.out.1
        have HQ := Lib.hid (num_set3 (u := .slice Aq nq cq) HQ.out V10.out)
        have V11 := Lib.hid (V11.out.set (u := .slice Aq nq cq) (show g10 ≠ g11 from fun e => hne e.symm))
        have HBS := Lib.hid (HBS.out.setCell (p := ⟨g10, 0, none⟩) hl10 (.slice Aq nq cq))
        clear hc10 hf10 V10
        obtain ⟨wn, hwm⟩ : ∃ W, wn.setCell ⟨g10, 0, none⟩ (.slice Aq nq cq) = W := ⟨_, rfl⟩
        rw [hwm] at hres HQ V11 HBS
        rw [hwm]
        clear hwm
        refine hK.out _ _ HBS.out (fun hHeld => ?_)
        clear hK K
        try dsimp only [Act.put]
        try simp only [List.setIfInBounds_toArray, List.set_cons_zero, List.set_cons_succ]
        refine wpAnyH_ready (rs := [13]) (by kernel_rfl) (by simp) (AllReadyH.cons (op_of rfl) (fun K hK => ?_) AllReadyH.nil)
        have hc11 := V11.out.1
        have hf11 := V11.out.2
        go_simp
        have hres := (World.cell?_setCell_other wn ⟨g11, 0, none⟩ ⟨g10, 0, none⟩ (.slice Ar nr cr) (by intro e; injection e; omega)).trans hres
        have HQ := Lib.hid (num_set3 (u := .slice Ar nr cr) HQ.out V11.out)
        have HBS := Lib.hid (HBS.out.setCell (p := ⟨g11, 0, none⟩) hl11 (.slice Ar nr cr))
        clear hc11 hf11 V11
        obtain ⟨wn, hwm⟩ : ∃ W, wn.setCell ⟨g11, 0, none⟩ (.slice Ar nr cr) = W := ⟨_, rfl⟩
        rw [hwm] at hres HQ HBS
        rw [hwm]
        clear hwm
        refine hK.out _ _ HBS.out (fun hHeld => ?_)
        clear hK K
        try dsimp only [Act.put]
        try simp only [List.setIfInBounds_toArray, List.set_cons_zero, List.set_cons_succ]
        refine wpAnyH_done (by kernel_rfl) ?_ _
        have k0 := (HBS.out.cell (World.block_lt_of_cell? _ _ r0)).trans r0
        have k1 := (HBS.out.frozen (World.block_lt_of_cell? _ _ r0)).trans r1
        go_wp2_with fail
        have hpk := cell_put (u := .slice Aq nq cq) k0
        exact bodyPost_ret (v := .agg #[.slice Aq nq cq]) (by simp [results, Tryd.results38, go_sem, hpk]) rfl ⟨_, _, _, rfl, ⟨_, HQ.out.setSi k0⟩, (hbb.trans (HBS.out.mono hbb.size)).setCell (by show w.heap.size ≤ w.heap.size + 2; omega) _⟩
  · skip
    go_simp
    have hv := Var3.new wn
    have hb := b1 wn (.cells #[.slice none 0 0] 33)
    obtain ⟨g10, hg10⟩ : ∃ g, wn.heap.size = g := ⟨_, rfl⟩
    have hl10 : W1.heap.size ≤ g10 := by have := HBS.out.size; omega
    have HBS := Lib.hid (HBS.out.trans (hb.mono HBS.out.size))
    obtain ⟨wn, hwm⟩ : ∃ W, wn.alloc (.cells #[.slice none 0 0] 33) = W := ⟨_, rfl⟩
    rw [hwm] at hv HBS
    rw [hg10] at hv ⊢
    rw [hwm]
    have V10 := Lib.hid hv
    clear hv hb hg10 hwm
    refine hK.out _ _ HBS.out (fun hHeld => ?_)
    clear hK K
    try dsimp only [Act.put]
    try simp only [List.setIfInBounds_toArray, List.set_cons_zero, List.set_cons_succ]
    refine wpAnyH_ready (rs := [3, 11]) (by kernel_rfl) (by simp) (AllReadyH.cons (op_of rfl) (fun K hK => ?_) (AllReadyH.cons (op_of rfl) (fun K hK => ?_) AllReadyH.nil))
    · skip
      go_simp
      refine (mul_num (.agg #[.slice A1 n1 c1]) (.agg #[.slice A3 n3 c3]) a m _ _ _ (HN.out.below HBS.out) (HM.out.below HBS.out) HA.out HMM.out (by omega) (by omega)).mono ?_
      rintro en wn ⟨vp, rfl, hp, hb⟩
      obtain ⟨Ap, np, cp, rfl⟩ := hp.shape
      have HBS := Lib.hid (HBS.out.trans (hb.mono HBS.out.size))
      have V10 := Lib.hid (V10.out.below hb)
      have HP := Lib.hid hp
      clear hp hb
      refine hK.out _ _ HBS.out (fun hHeld => ?_)
      clear hK K
      try dsimp only [Act.put]
      try simp only [List.setIfInBounds_toArray, List.set_cons_zero, List.set_cons_succ]
      refine wpAnyH_ready (rs := [6, 11]) (by kernel_rfl) (by simp) (AllReadyH.cons (op_of rfl) (fun K hK => ?_) (AllReadyH.cons (op_of rfl) (fun K hK => ?_) AllReadyH.nil))
      · skip
        go_simp
        refine (div_num (.agg #[.slice Ap np cp]) (.agg #[.slice A2 n2 c2]) (a * m) b _ _ _ HP.out (HD.out.below HBS.out) HAM.out HB.out hb0 (by omega) (by omega)).mono ?_
        rintro en wn ⟨vq, vr, rfl, hq, hr, hb⟩
        obtain ⟨Aq, nq, cq, rfl⟩ := hq.shape
        obtain ⟨Ar, nr, cr, rfl⟩ := hr.shape
        have HBS := Lib.hid (HBS.out.trans (hb.mono HBS.out.size))
        have V10 := Lib.hid (V10.out.below hb)
        have HQ := Lib.hid hq
        clear hq hr hb
        refine hK.out _ _ HBS.out (fun hHeld => ?_)
        clear hK K
        try dsimp only [Act.put]
        try simp only [List.setIfInBounds_toArray, List.set_cons_zero, List.set_cons_succ]
        refine wpAnyH_take (i := 7) (v := ?_) (op_of rfl) (by kernel_rfl) (by kernel_rfl) (by kernel_rfl) (fun _ _ _ h => h) (Or.inl ⟨by rfl, fun W hS => ?_⟩) (by assumption) ?_
        rotate_left
        · dsimp only at hS
          go_simp
          try with_reducible rfl
        try dsimp only [Act.put]
        try simp only [List.setIfInBounds_toArray, List.set_cons_zero, List.set_cons_succ]
        refine wpAnyH_take (i := 8) (v := ?_) (op_of rfl) (by kernel_rfl) (by kernel_rfl) (by kernel_rfl) (fun _ _ _ h => h) (Or.inl ⟨by rfl, fun W hS => ?_⟩) (by assumption) ?_
        rotate_left
        · dsimp only at hS
          go_simp
          try with_reducible rfl
        try dsimp only [Act.put]
        try simp only [List.setIfInBounds_toArray, List.set_cons_zero, List.set_cons_succ]
        refine wpAnyH_take (i := 9) (v := ?_) (op_of rfl) (by kernel_rfl) (by kernel_rfl) (by kernel_rfl) (fun _ _ _ h => h) (Or.inl ⟨by rfl, fun W hS => ?_⟩) (by assumption) ?_
        rotate_left
        · dsimp only at hS
          go_simp
          try with_reducible rfl
        try dsimp only [Act.put]
        try simp only [List.setIfInBounds_toArray, List.set_cons_zero, List.set_cons_succ]
        refine wpAnyH_ready (rs := [11]) (by kernel_rfl) (by simp) (AllReadyH.cons (op_of rfl) (fun K hK => ?_) AllReadyH.nil)
        go_simp
        have hv := Var3.new wn
        have hb := b1 wn (.cells #[.slice none 0 0] 33)
        obtain ⟨g11, hg11⟩ : ∃ g, wn.heap.size = g := ⟨_, rfl⟩
        have hl11 : W1.heap.size ≤ g11 := by have := HBS.out.size; omega
        have hne : g11 ≠ g10 := by have := V10.out.lt; omega
        have HBS := Lib.hid (HBS.out.trans (hb.mono HBS.out.size))
        have V10 := Lib.hid (V10.out.below hb)
        have HQ := Lib.hid (HQ.out.below hb)
        obtain ⟨wn, hwm⟩ : ∃ W, wn.alloc (.cells #[.slice none 0 0] 33) = W := ⟨_, rfl⟩
        rw [hwm] at hv HBS V10 HQ
        rw [hg11] at hv ⊢
        rw [hwm]
        have V11 := Lib.hid hv
        clear hv hb hg11 hwm
        refine hK.out _ _ HBS.out (fun hHeld => ?_)
        clear hK K
        try dsimp only [Act.put]
        try simp only [List.setIfInBounds_toArray, List.set_cons_zero, List.set_cons_succ]
        refine wpAnyH_ready (rs := [12]) (by kernel_rfl) (by simp) (AllReadyH.cons (op_of rfl) (fun K hK => ?_) AllReadyH.nil)
        have hc10 := V10.out.1
        have hf10 := V10.out.2
        go_simp
        have hres := cell_put (u := .slice Aq nq cq) V10.out.1
        have HQ := Lib.hid (num_set3 (u := .slice Aq nq cq) HQ.out V10.out)
        have V11 := Lib.hid (V11.out.set (u := .slice Aq nq cq) (show g10 ≠ g11 from fun e => hne e.symm))
        have HBS := Lib.hid (HBS.out.setCell (p := ⟨g10, 0, none⟩) hl10 (.slice Aq nq cq))
        clear hc10 hf10 V10
        obtain ⟨wn, hwm⟩ : ∃ W, wn.setCell ⟨g10, 0, none⟩ (.slice Aq nq cq) = W := ⟨_, rfl⟩
        rw [hwm] at hres HQ V11 HBS
        rw [hwm]
        clear hwm
        refine hK.out _ _ HBS.out (fun hHeld => ?_)
        clear hK K
        try dsimp only [Act.put]
        try simp only [List.setIfInBounds_toArray, List.set_cons_zero, List.set_cons_succ]
        refine wpAnyH_ready (rs := [13]) (by kernel_rfl) (by simp) (AllReadyH.cons (op_of rfl) (fun K hK => ?_) AllReadyH.nil)
        have hc11 := V11.out.1
        have hf11 := V11.out.2
        go_simp
        have hres := (World.cell?_setCell_other wn ⟨g11, 0, none⟩ ⟨g10, 0, none⟩ (.slice Ar nr cr) (by intro e; injection e; omega)).trans hres
        have HQ := Lib.hid (num_set3 (u := .slice Ar nr cr) HQ.out V11.out)
        have HBS := Lib.hid (HBS.out.setCell (p := ⟨g11, 0, none⟩) hl11 (.slice Ar nr cr))
        clear hc11 hf11 V11
        obtain ⟨wn, hwm⟩ : ∃ W, wn.setCell ⟨g11, 0, none⟩ (.slice Ar nr cr) = W := ⟨_, rfl⟩
        rw [hwm] at hres HQ HBS
        rw [hwm]
        clear hwm
        refine hK.out _ _ HBS.out (fun hHeld => ?_)
        clear hK K
        try dsimp only [Act.put]
        try simp only [List.setIfInBounds_toArray, List.set_cons_zero, List.set_cons_succ]
        refine wpAnyH_done (by kernel_rfl) ?_ _
        have k0 := (HBS.out.cell (World.block_lt_of_cell? _ _ r0)).trans r0
        have k1 := (HBS.out.frozen (World.block_lt_of_cell? _ _ r0)).trans r1
        go_wp2_with fail
        have hpk := cell_put (u := .slice Aq nq cq) k0
        exact bodyPost_ret (v := .agg #[.slice Aq nq cq]) (by simp [results, Tryd.results38, go_sem, hpk]) rfl ⟨_, _, _, rfl, ⟨_, HQ.out.setSi k0⟩, (hbb.trans (HBS.out.mono hbb.size)).setCell (by show w.heap.size ≤ w.heap.size + 2; omega) _⟩
      · skip
        go_simp
        have hv := Var3.new wn
        have hb := b1 wn (.cells #[.slice none 0 0] 33)
        obtain ⟨g11, hg11⟩ : ∃ g, wn.heap.size = g := ⟨_, rfl⟩
        have hl11 : W1.heap.size ≤ g11 := by have := HBS.out.size; omega
        have hne : g11 ≠ g10 := by have := V10.out.lt; omega
        have HBS := Lib.hid (HBS.out.trans (hb.mono HBS.out.size))
        have V10 := Lib.hid (V10.out.below hb)
        have HP := Lib.hid (HP.out.below hb)
        obtain ⟨wn, hwm⟩ : ∃ W, wn.alloc (.cells #[.slice none 0 0] 33) = W := ⟨_, rfl⟩
        rw [hwm] at hv HBS V10 HP
        rw [hg11] at hv ⊢
        rw [hwm]
        have V11 := Lib.hid hv
        clear hv hb hg11 hwm
        refine hK.out _ _ HBS.out (fun hHeld => ?_)
        clear hK K
        try dsimp only [Act.put]
        try simp only [List.setIfInBounds_toArray, List.set_cons_zero, List.set_cons_succ]
        refine wpAnyH_ready (rs := [6]) (by kernel_rfl) (by simp) (AllReadyH.cons (op_of rfl) (fun K hK => ?_) AllReadyH.nil)
        go_simp
        refine (div_num (.agg #[.slice Ap np cp]) (.agg #[.slice A2 n2 c2]) (a * m) b _ _ _ HP.out (HD.out.below HBS.out) HAM.out HB.out hb0 (by omega) (by omega)).mono ?_
        rintro en wn ⟨vq, vr, rfl, hq, hr, hb⟩
        obtain ⟨Aq, nq, cq, rfl⟩ := hq.shape
        obtain ⟨Ar, nr, cr, rfl⟩ := hr.shape
        have HBS := Lib.hid (HBS.out.trans (hb.mono HBS.out.size))
        have V10 := Lib.hid (V10.out.below hb)
        have V11 := Lib.hid (V11.out.below hb)
        have HQ := Lib.hid hq
        clear hq hr hb
        refine hK.out _ _ HBS.out (fun hHeld => ?_)
        clear hK K
        try dsimp only [Act.put]
        try simp only [List.setIfInBounds_toArray, List.set_cons_zero, List.set_cons_succ]
        refine wpAnyH_take (i := 7) (v := ?_) (op_of rfl) (by kernel_rfl) (by kernel_rfl) (by kernel_rfl) (fun _ _ _ h => h) (Or.inl ⟨by rfl, fun W hS => ?_⟩) (by assumption) ?_
        rotate_left
        · dsimp only at hS
          go_simp
          try with_reducible rfl
        try dsimp only [Act.put]
        try simp only [List.setIfInBounds_toArray, List.set_cons_zero, List.set_cons_succ]
        refine wpAnyH_take (i := 8) (v := ?_) (op_of rfl) (by kernel_rfl) (by kernel_rfl) (by kernel_rfl) (fun _ _ _ h => h) (Or.inl ⟨by rfl, fun W hS => ?_⟩) (by assumption) ?_
        rotate_left
        · dsimp only at hS
          go_simp
          try with_reducible rfl
        try dsimp only [Act.put]
        try simp only [List.setIfInBounds_toArray, List.set_cons_zero, List.set_cons_succ]
        refine wpAnyH_take (i := 9) (v := ?_) (op_of rfl) (by kernel_rfl) (by kernel_rfl) (by kernel_rfl) (fun _ _ _ h => h) (Or.inl ⟨by rfl, fun W hS => ?_⟩) (by assumption) ?_
        rotate_left
        · dsimp only at hS
          go_simp
          try with_reducible rfl
        try dsimp only [Act.put]
        try simp only [List.setIfInBounds_toArray, List.set_cons_zero, List.set_cons_succ]
        refine wpAnyH_ready (rs := [12]) (by kernel_rfl) (by simp) (AllReadyH.cons (op_of rfl) (fun K hK => ?_) AllReadyH.nil)
        have hc10 := V10.out.1
        have hf10 := V10.out.2
        go_simp
        have hres := cell_put (u := .slice Aq nq cq) V10.out.1
        have HQ := Lib.hid (num_set3 (u := .slice Aq nq cq) HQ.out V10.out)
        have V11 := Lib.hid (V11.out.set (u := .slice Aq nq cq) (show g10 ≠ g11 from fun e => hne e.symm))
        have HBS := Lib.hid (HBS.out.setCell (p := ⟨g10, 0, none⟩) hl10 (.slice Aq nq cq))
        clear hc10 hf10 V10
        obtain ⟨wn, hwm⟩ : ∃ W, wn.setCell ⟨g10, 0, none⟩ (.slice Aq nq cq) = W := ⟨_, rfl⟩
        rw [hwm] at hres HQ V11 HBS
        rw [hwm]
        clear hwm
        refine hK.out _ _ HBS.out (fun hHeld => ?_)
        clear hK K
        try dsimp only [Act.put]
        try simp only [List.setIfInBounds_toArray, List.set_cons_zero, List.set_cons_succ]
        refine wpAnyH_ready (rs := [13]) (by kernel_rfl) (by simp) (AllReadyH.cons (op_of rfl) (fun K hK => ?_) AllReadyH.nil)
        have hc11 := V11.out.1
        have hf11 := V11.out.2
        go_simp
        have hres := (World.cell?_setCell_other wn ⟨g11, 0, none⟩ ⟨g10, 0, none⟩ (.slice Ar nr cr) (by intro e; injection e; omega)).trans hres
        have HQ := Lib.hid (num_set3 (u := .slice Ar nr cr) HQ.out V11.out)
        have HBS := Lib.hid (HBS.out.setCell (p := ⟨g11, 0, none⟩) hl11 (.slice Ar nr cr))
        clear hc11 hf11 V11
        obtain ⟨wn, hwm⟩ : ∃ W, wn.setCell ⟨g11, 0, none⟩ (.slice Ar nr cr) = W := ⟨_, rfl⟩
        rw [hwm] at hres HQ HBS
        rw [hwm]
        clear hwm
        refine hK.out _ _ HBS.out (fun hHeld => ?_)
        clear hK K
        try dsimp only [Act.put]
        try simp only [List.setIfInBounds_toArray, List.set_cons_zero, List.set_cons_succ]
        refine wpAnyH_done (by kernel_rfl) ?_ _
        have k0 := (HBS.out.cell (World.block_lt_of_cell? _ _ r0)).trans r0
        have k1 := (HBS.out.frozen (World.block_lt_of_cell? _ _ r0)).trans r1
        go_wp2_with fail
        have hpk := cell_put (u := .slice Aq nq cq) k0
        exact bodyPost_ret (v := .agg #[.slice Aq nq cq]) (by simp [results, Tryd.results38, go_sem, hpk]) rfl ⟨_, _, _, rfl, ⟨_, HQ.out.setSi k0⟩, (hbb.trans (HBS.out.mono hbb.size)).setCell (by show w.heap.size ≤ w.heap.size + 2; omega) _⟩
    · skip
      go_simp
      have hv := Var3.new wn
      have hb := b1 wn (.cells #[.slice none 0 0] 33)
      obtain ⟨g11, hg11⟩ : ∃ g, wn.heap.size = g := ⟨_, rfl⟩
      have hl11 : W1.heap.size ≤ g11 := by have := HBS.out.size; omega
      have hne : g11 ≠ g10 := by have := V10.out.lt; omega
      have HBS := Lib.hid (HBS.out.trans (hb.mono HBS.out.size))
      have V10 := Lib.hid (V10.out.below hb)
      obtain ⟨wn, hwm⟩ : ∃ W, wn.alloc (.cells #[.slice none 0 0] 33) = W := ⟨_, rfl⟩
      rw [hwm] at hv HBS V10
      rw [hg11] at hv ⊢
      rw [hwm]
      have V11 := Lib.hid hv
      clear hv hb hg11 hwm
      refine hK.out _ _ HBS.out (fun hHeld => ?_)
      clear hK K
      try dsimp only [Act.put]
      try simp only [List.setIfInBounds_toArray, List.set_cons_zero, List.set_cons_succ]
      refine wpAnyH_ready (rs := [3]) (by kernel_rfl) (by simp) (AllReadyH.cons (op_of rfl) (fun K hK => ?_) AllReadyH.nil)
      go_simp
      refine (mul_num (.agg #[.slice A1 n1 c1]) (.agg #[.slice A3 n3 c3]) a m _ _ _ (HN.out.below HBS.out) (HM.out.below HBS.out) HA.out HMM.out (by omega) (by omega)).mono ?_
      rintro en wn ⟨vp, rfl, hp, hb⟩
      obtain ⟨Ap, np, cp, rfl⟩ := hp.shape
      have HBS := Lib.hid (HBS.out.trans (hb.mono HBS.out.size))
      have V10 := Lib.hid (V10.out.below hb)
      have V11 := Lib.hid (V11.out.below hb)
      have HP := Lib.hid hp
      clear hp hb
      refine hK.out _ _ HBS.out (fun hHeld => ?_)
      clear hK K
      try dsimp only [Act.put]
      try simp only [List.setIfInBounds_toArray, List.set_cons_zero, List.set_cons_succ]
      refine wpAnyH_ready (rs := [6]) (by kernel_rfl) (by simp) (AllReadyH.cons (op_of rfl) (fun K hK => ?_) AllReadyH.nil)
      go_simp
      refine (div_num (.agg #[.slice Ap np cp]) (.agg #[.slice A2 n2 c2]) (a * m) b _ _ _ HP.out (HD.out.below HBS.out) HAM.out HB.out hb0 (by omega) (by omega)).mono ?_
      rintro en wn ⟨vq, vr, rfl, hq, hr, hb⟩
      obtain ⟨Aq, nq, cq, rfl⟩ := hq.shape
      obtain ⟨Ar, nr, cr, rfl⟩ := hr.shape
      have HBS := Lib.hid (HBS.out.trans (hb.mono HBS.out.size))
      have V10 := Lib.hid (V10.out.below hb)
      have V11 := Lib.hid (V11.out.below hb)
      have HQ := Lib.hid hq
      clear hq hr hb
      refine hK.out _ _ HBS.out (fun hHeld => ?_)
      clear hK K
      try dsimp only [Act.put]
      try simp only [List.setIfInBounds_toArray, List.set_cons_zero, List.set_cons_succ]
      refine wpAnyH_take (i := 7) (v := ?_) (op_of rfl) (by kernel_rfl) (by kernel_rfl) (by kernel_rfl) (fun _ _ _ h => h) (Or.inl ⟨by rfl, fun W hS => ?_⟩) (by assumption) ?_
      rotate_left
      · dsimp only at hS
        go_simp
        try with_reducible rfl
      try dsimp only [Act.put]
      try simp only [List.setIfInBounds_toArray, List.set_cons_zero, List.set_cons_succ]
      refine wpAnyH_take (i := 8) (v := ?_) (op_of rfl) (by kernel_rfl) (by kernel_rfl) (by kernel_rfl) (fun _ _ _ h => h) (Or.inl ⟨by rfl, fun W hS => ?_⟩) (by assumption) ?_
      rotate_left
      · dsimp only at hS
        go_simp
        try with_reducible rfl
      try dsimp only [Act.put]
      try simp only [List.setIfInBounds_toArray, List.set_cons_zero, List.set_cons_succ]
      refine wpAnyH_take (i := 9) (v := ?_) (op_of rfl) (by kernel_rfl) (by kernel_rfl) (by kernel_rfl) (fun _ _ _ h => h) (Or.inl ⟨by rfl, fun W hS => ?_⟩) (by assumption) ?_
      rotate_left
      · dsimp only at hS
        go_simp
        try with_reducible rfl
      try dsimp only [Act.put]
      try simp only [List.setIfInBounds_toArray, List.set_cons_zero, List.set_cons_succ]
      refine wpAnyH_ready (rs := [12]) (by kernel_rfl) (by simp) (AllReadyH.cons (op_of rfl) (fun K hK => ?_) AllReadyH.nil)
      have hc10 := V10.out.1
      have hf10 := V10.out.2
      go_simp
      have hres := cell_put (u := .slice Aq nq cq) V10.out.1
      have HQ := Lib.hid (num_set3 (u := .slice Aq nq cq) HQ.out V10.out)
      have V11 := Lib.hid (V11.out.set (u := .slice Aq nq cq) (show g10 ≠ g11 from fun e => hne e.symm))
      have HBS := Lib.hid (HBS.out.setCell (p := ⟨g10, 0, none⟩) hl10 (.slice Aq nq cq))
      clear hc10 hf10 V10
      obtain ⟨wn, hwm⟩ : ∃ W, wn.setCell ⟨g10, 0, none⟩ (.slice Aq nq cq) = W := ⟨_, rfl⟩
      rw [hwm] at hres HQ V11 HBS
      rw [hwm]
      clear hwm
      refine hK.out _ _ HBS.out (fun hHeld => ?_)
      clear hK K
      try dsimp only [Act.put]
      try simp only [List.setIfInBounds_toArray, List.set_cons_zero, List.set_cons_succ]
      refine wpAnyH_ready (rs := [13]) (by kernel_rfl) (by simp) (AllReadyH.cons (op_of rfl) (fun K hK => ?_) AllReadyH.nil)
      have hc11 := V11.out.1
      have hf11 := V11.out.2
      go_simp
      have hres := (World.cell?_setCell_other wn ⟨g11, 0, none⟩ ⟨g10, 0, none⟩ (.slice Ar nr cr) (by intro e; injection e; omega)).trans hres
      have HQ := Lib.hid (num_set3 (u := .slice Ar nr cr) HQ.out V11.out)
      have HBS := Lib.hid (HBS.out.setCell (p := ⟨g11, 0, none⟩) hl11 (.slice Ar nr cr))
      clear hc11 hf11 V11
      obtain ⟨wn, hwm⟩ : ∃ W, wn.setCell ⟨g11, 0, none⟩ (.slice Ar nr cr) = W := ⟨_, rfl⟩
      rw [hwm] at hres HQ HBS
      rw [hwm]
      clear hwm
      refine hK.out _ _ HBS.out (fun hHeld => ?_)
      clear hK K
      try dsimp only [Act.put]
      try simp only [List.setIfInBounds_toArray, List.set_cons_zero, List.set_cons_succ]
      refine wpAnyH_done (by kernel_rfl) ?_ _
      have k0 := (HBS.out.cell (World.block_lt_of_cell? _ _ r0)).trans r0
      have k1 := (HBS.out.frozen (World.block_lt_of_cell? _ _ r0)).trans r1
      go_wp2_with fail
      have hpk := cell_put (u := .slice Aq nq cq) k0
      exact bodyPost_ret (v := .agg #[.slice Aq nq cq]) (by simp [results, Tryd.results38, go_sem, hpk]) rfl ⟨_, _, _, rfl, ⟨_, HQ.out.setSi k0⟩, (hbb.trans (HBS.out.mono hbb.size)).setCell (by show w.heap.size ≤ w.heap.size + 2; omega) _⟩
  · skip
    go_simp
    have hv := Var3.new wn
    have hb := b1 wn (.cells #[.slice none 0 0] 33)
    obtain ⟨g11, hg11⟩ : ∃ g, wn.heap.size = g := ⟨_, rfl⟩
    have hl11 : W1.heap.size ≤ g11 := by have := HBS.out.size; omega
    have HBS := Lib.hid (HBS.out.trans (hb.mono HBS.out.size))
    obtain ⟨wn, hwm⟩ : ∃ W, wn.alloc (.cells #[.slice none 0 0] 33) = W := ⟨_, rfl⟩
    rw [hwm] at hv HBS
    rw [hg11] at hv ⊢
    rw [hwm]
    have V11 := Lib.hid hv
    clear hv hb hg11 hwm
    refine hK.out _ _ HBS.out (fun hHeld => ?_)
    clear hK K
    try dsimp only [Act.put]
    try simp only [List.setIfInBounds_toArray, List.set_cons_zero, List.set_cons_succ]
    refine wpAnyH_ready (rs := [3, 10]) (by kernel_rfl) (by simp) (AllReadyH.cons (op_of rfl) (fun K hK => ?_) (AllReadyH.cons (op_of rfl) (fun K hK => ?_) AllReadyH.nil))
    · skip
      go_simp
      refine (mul_num (.agg #[.slice A1 n1 c1]) (.agg #[.slice A3 n3 c3]) a m _ _ _ (HN.out.below HBS.out) (HM.out.below HBS.out) HA.out HMM.out (by omega) (by omega)).mono ?_
      rintro en wn ⟨vp, rfl, hp, hb⟩
      obtain ⟨Ap, np, cp, rfl⟩ := hp.shape
      have HBS := Lib.hid (HBS.out.trans (hb.mono HBS.out.size))
      have V11 := Lib.hid (V11.out.below hb)
      have HP := Lib.hid hp
      clear hp hb
      refine hK.out _ _ HBS.out (fun hHeld => ?_)
      clear hK K
      try dsimp only [Act.put]
      try simp only [List.setIfInBounds_toArray, List.set_cons_zero, List.set_cons_succ]
      refine wpAnyH_ready (rs := [6, 10]) (by kernel_rfl) (by simp) (AllReadyH.cons (op_of rfl) (fun K hK => ?_) (AllReadyH.cons (op_of rfl) (fun K hK => ?_) AllReadyH.nil))
      · skip
        go_simp
        refine (div_num (.agg #[.slice Ap np cp]) (.agg #[.slice A2 n2 c2]) (a * m) b _ _ _ HP.out (HD.out.below HBS.out) HAM.out HB.out hb0 (by omega) (by omega)).mono ?_
        rintro en wn ⟨vq, vr, rfl, hq, hr, hb⟩
        obtain ⟨Aq, nq, cq, rfl⟩ := hq.shape
        obtain ⟨Ar, nr, cr, rfl⟩ := hr.shape
        have HBS := Lib.hid (HBS.out.trans (hb.mono HBS.out.size))
        have V11 := Lib.hid (V11.out.below hb)
        have HQ := Lib.hid hq
        clear hq hr hb
        refine hK.out _ _ HBS.out (fun hHeld => ?_)
        clear hK K
        try dsimp only [Act.put]
        try simp only [List.setIfInBounds_toArray, List.set_cons_zero, List.set_cons_succ]
        refine wpAnyH_take (i := 7) (v := ?_) (op_of rfl) (by kernel_rfl) (by kernel_rfl) (by kernel_rfl) (fun _ _ _ h => h) (Or.inl ⟨by rfl, fun W hS => ?_⟩) (by assumption) ?_
        rotate_left
        · dsimp only at hS
          go_simp
          try with_reducible rfl
        try dsimp only [Act.put]
        try simp only [List.setIfInBounds_toArray, List.set_cons_zero, List.set_cons_succ]
        refine wpAnyH_take (i := 8) (v := ?_) (op_of rfl) (by kernel_rfl) (by kernel_rfl) (by kernel_rfl) (fun _ _ _ h => h) (Or.inl ⟨by rfl, fun W hS => ?_⟩) (by assumption) ?_
        rotate_left
        · dsimp only at hS
          go_simp
          try with_reducible rfl
        try dsimp only [Act.put]
        try simp only [List.setIfInBounds_toArray, List.set_cons_zero, List.set_cons_succ]
        refine wpAnyH_take (i := 9) (v := ?_) (op_of rfl) (by kernel_rfl) (by kernel_rfl) (by kernel_rfl) (fun _ _ _ h => h) (Or.inl ⟨by rfl, fun W hS => ?_⟩) (by assumption) ?_
        rotate_left
        · dsimp only at hS
          go_simp
          try with_reducible rfl
        try dsimp only [Act.put]
        try simp only [List.setIfInBounds_toArray, List.set_cons_zero, List.set_cons_succ]
        refine wpAnyH_ready (rs := [10]) (by kernel_rfl) (by simp) (AllReadyH.cons (op_of rfl) (fun K hK => ?_) AllReadyH.nil)
        go_simp
        have hv := Var3.new wn
        have hb := b1 wn (.cells #[.slice none 0 0] 33)
        obtain ⟨g10, hg10⟩ : ∃ g, wn.heap.size = g := ⟨_, rfl⟩
        have hl10 : W1.heap.size ≤ g10 := by have := HBS.out.size; omega
        have hne : g11 ≠ g10 := by have := V11.out.lt; omega
        have HBS := Lib.hid (HBS.out.trans (hb.mono HBS.out.size))
        have V11 := Lib.hid (V11.out.below hb)
        have HQ := Lib.hid (HQ.out.below hb)
        obtain ⟨wn, hwm⟩ : ∃ W, wn.alloc (.cells #[.slice none 0 0] 33) = W := ⟨_, rfl⟩
        rw [hwm] at hv HBS V11 HQ
        rw [hg10] at hv ⊢
        rw [hwm]
        have V10 := Lib.hid hv
        clear hv hb hg10 hwm
        refine hK.out _ _ HBS.out (fun hHeld => ?_)
        clear hK K
        try dsimp only [Act.put]
        try simp only [List.setIfInBounds_toArray, List.set_cons_zero, List.set_cons_succ]
        refine wpAnyH_ready (rs := [12]) (by kernel_rfl) (by simp) (AllReadyH.cons (op_of rfl) (fun K hK => ?_) AllReadyH.nil)
        have hc10 := V10.out.1
        have hf10 := V10.out.2
        go_simp
        have hres := cell_put (u := .slice Aq nq cq) V10.out.1
        have HQ := Lib.hid (num_set3 (u := .slice Aq nq cq) HQ.out V10.out)
        have V11 := Lib.hid (V11.out.set (u := .slice Aq nq cq) (show g10 ≠ g11 from fun e => hne e.symm))
        have HBS := Lib.hid (HBS.out.setCell (p := ⟨g10, 0, none⟩) hl10 (.slice Aq nq cq))
        clear hc10 hf10 V10
        obtain ⟨wn, hwm⟩ : ∃ W, wn.setCell ⟨g10, 0, none⟩ (.slice Aq nq cq) = W := ⟨_, rfl⟩
        rw [hwm] at hres HQ V11 HBS
        rw [hwm]
        clear hwm
        refine hK.out _ _ HBS.out (fun hHeld => ?_)
        clear hK K
        try dsimp only [Act.put]
        try simp only [List.setIfInBounds_toArray, List.set_cons_zero, List.set_cons_succ]
        refine wpAnyH_ready (rs := [13]) (by kernel_rfl) (by simp) (AllReadyH.cons (op_of rfl) (fun K hK => ?_) AllReadyH.nil)
        have hc11 := V11.out.1
        have hf11 := V11.out.2
        go_simp
        have hres := (World.cell?_setCell_other wn ⟨g11, 0, none⟩ ⟨g10, 0, none⟩ (.slice Ar nr cr) (by intro e; injection e; omega)).trans hres
        have HQ := Lib.hid (num_set3 (u := .slice Ar nr cr) HQ.out V11.out)
        have HBS := Lib.hid (HBS.out.setCell (p := ⟨g11, 0, none⟩) hl11 (.slice Ar nr cr))
        clear hc11 hf11 V11
        obtain ⟨wn, hwm⟩ : ∃ W, wn.setCell ⟨g11, 0, none⟩ (.slice Ar nr cr) = W := ⟨_, rfl⟩
        rw [hwm] at hres HQ HBS
        rw [hwm]
        clear hwm
        refine hK.out _ _ HBS.out (fun hHeld => ?_)
        clear hK K
        try dsimp only [Act.put]
        try simp only [List.setIfInBounds_toArray, List.set_cons_zero, List.set_cons_succ]
        refine wpAnyH_done (by kernel_rfl) ?_ _
        have k0 := (HBS.out.cell (World.block_lt_of_cell? _ _ r0)).trans r0
        have k1 := (HBS.out.frozen (World.block_lt_of_cell? _ _ r0)).trans r1
        go_wp2_with fail
        have hpk := cell_put (u := .slice Aq nq cq) k0
        exact bodyPost_ret (v := .agg #[.slice Aq nq cq]) (by simp [results, Tryd.results38, go_sem, hpk]) rfl ⟨_, _, _, rfl, ⟨_, HQ.out.setSi k0⟩, (hbb.trans (HBS.out.mono hbb.size)).setCell (by show w.heap.size ≤ w.heap.size + 2; omega) _⟩
      · skip
        go_simp
        have hv := Var3.new wn
        have hb := b1 wn (.cells #[.slice none 0 0] 33)
        obtain ⟨g10, hg10⟩ : ∃ g, wn.heap.size = g := ⟨_, rfl⟩
        have hl10 : W1.heap.size ≤ g10 := by have := HBS.out.size; omega
        have hne : g11 ≠ g10 := by have := V11.out.lt; omega
        have HBS := Lib.hid (HBS.out.trans (hb.mono HBS.out.size))
        have V11 := Lib.hid (V11.out.below hb)
        have HP := Lib.hid (HP.out.below hb)
        obtain ⟨wn, hwm⟩ : ∃ W, wn.alloc (.cells #[.slice none 0 0] 33) = W := ⟨_, rfl⟩
        rw [hwm] at hv HBS V11 HP
        rw [hg10] at hv ⊢
        rw [hwm]
        have V10 := Lib.hid hv
        clear hv hb hg10 hwm
        refine hK.out _ _ HBS.out (fun hHeld => ?_)
        clear hK K
        try dsimp only [Act.put]
        try simp only [List.setIfInBounds_toArray, List.set_cons_zero, List.set_cons_succ]
        refine wpAnyH_ready (rs := [6]) (by kernel_rfl) (by simp) (AllReadyH.cons (op_of rfl) (fun K hK => ?_) AllReadyH.nil)
        go_simp
        refine (div_num (.agg #[.slice Ap np cp]) (.agg #[.slice A2 n2 c2]) (a * m) b _ _ _ HP.out (HD.out.below HBS.out) HAM.out HB.out hb0 (by omega) (by omega)).mono ?_
        rintro en wn ⟨vq, vr, rfl, hq, hr, hb⟩
        obtain ⟨Aq, nq, cq, rfl⟩ := hq.shape
        obtain ⟨Ar, nr, cr, rfl⟩ := hr.shape
        have HBS := Lib.hid (HBS.out.trans (hb.mono HBS.out.size))
        have V10 := Lib.hid (V10.out.below hb)
        have V11 := Lib.hid (V11.out.below hb)
        have HQ := Lib.hid hq
        clear hq hr hb
        refine hK.out _ _ HBS.out (fun hHeld => ?_)
        clear hK K
        try dsimp only [Act.put]
        try simp only [List.setIfInBounds_toArray, List.set_cons_zero, List.set_cons_succ]
        refine wpAnyH_take (i := 7) (v := ?_) (op_of rfl) (by kernel_rfl) (by kernel_rfl) (by kernel_rfl) (fun _ _ _ h => h) (Or.inl ⟨by rfl, fun W hS => ?_⟩) (by assumption) ?_
        rotate_left
        · dsimp only at hS
          go_simp
          try with_reducible rfl
        try dsimp only [Act.put]
        try simp only [List.setIfInBounds_toArray, List.set_cons_zero, List.set_cons_succ]
        refine wpAnyH_take (i := 8) (v := ?_) (op_of rfl) (by kernel_rfl) (by kernel_rfl) (by kernel_rfl) (fun _ _ _ h => h) (Or.inl ⟨by rfl, fun W hS => ?_⟩) (by assumption) ?_
        rotate_left
        · dsimp only at hS
          go_simp
          try with_reducible rfl
        try dsimp only [Act.put]
        try simp only [List.setIfInBounds_toArray, List.set_cons_zero, List.set_cons_succ]
        refine wpAnyH_take (i := 9) (v := ?_) (op_of rfl) (by kernel_rfl) (by kernel_rfl) (by kernel_rfl) (fun _ _ _ h => h) (Or.inl ⟨by rfl, fun W hS => ?_⟩) (by assumption) ?_
        rotate_left
        · dsimp only at hS
          go_simp
          try with_reducible rfl
        try dsimp only [Act.put]
        try simp only [List.setIfInBounds_toArray, List.set_cons_zero, List.set_cons_succ]
        refine wpAnyH_ready (rs := [12]) (by kernel_rfl) (by simp) (AllReadyH.cons (op_of rfl) (fun K hK => ?_) AllReadyH.nil)
        have hc10 := V10.out.1
        have hf10 := V10.out.2
        go_simp
        have hres := cell_put (u := .slice Aq nq cq) V10.out.1
        have HQ := Lib.hid (num_set3 (u := .slice Aq nq cq) HQ.out V10.out)
        have V11 := Lib.hid (V11.out.set (u := .slice Aq nq cq) (show g10 ≠ g11 from fun e => hne e.symm))
        have HBS := Lib.hid (HBS.out.setCell (p := ⟨g10, 0, none⟩) hl10 (.slice Aq nq cq))
        clear hc10 hf10 V10
        obtain ⟨wn, hwm⟩ : ∃ W, wn.setCell ⟨g10, 0, none⟩ (.slice Aq nq cq) = W := ⟨_, rfl⟩
        rw [hwm] at hres HQ V11 HBS
        rw [hwm]
        clear hwm
        refine hK.out _ _ HBS.out (fun hHeld => ?_)
        clear hK K
        try dsimp only [Act.put]
        try simp only [List.setIfInBounds_toArray, List.set_cons_zero, List.set_cons_succ]
        refine wpAnyH_ready (rs := [13]) (by kernel_rfl) (by simp) (AllReadyH.cons (op_of rfl) (fun K hK => ?_) AllReadyH.nil)
        have hc11 := V11.out.1
        have hf11 := V11.out.2
        go_simp
        have hres := (World.cell?_setCell_other wn ⟨g11, 0, none⟩ ⟨g10, 0, none⟩ (.slice Ar nr cr) (by intro e; injection e; omega)).trans hres
        have HQ := Lib.hid (num_set3 (u := .slice Ar nr cr) HQ.out V11.out)
        have HBS := Lib.hid (HBS.out.setCell (p := ⟨g11, 0, none⟩) hl11 (.slice Ar nr cr))
        clear hc11 hf11 V11
        obtain ⟨wn, hwm⟩ : ∃ W, wn.setCell ⟨g11, 0, none⟩ (.slice Ar nr cr) = W := ⟨_, rfl⟩
        rw [hwm] at hres HQ HBS
        rw [hwm]
        clear hwm
        refine hK.out _ _ HBS.out (fun hHeld => ?_)
        clear hK K
        try dsimp only [Act.put]
        try simp only [List.setIfInBounds_toArray, List.set_cons_zero, List.set_cons_succ]
        refine wpAnyH_done (by kernel_rfl) ?_ _
        have k0 := (HBS.out.cell (World.block_lt_of_cell? _ _ r0)).trans r0
        have k1 := (HBS.out.frozen (World.block_lt_of_cell? _ _ r0)).trans r1
        go_wp2_with fail
        have hpk := cell_put (u := .slice Aq nq cq) k0
        exact bodyPost_ret (v := .agg #[.slice Aq nq cq]) (by simp [results, Tryd.results38, go_sem, hpk]) rfl ⟨_, _, _, rfl, ⟨_, HQ.out.setSi k0⟩, (hbb.trans (HBS.out.mono hbb.size)).setCell (by show w.heap.size ≤ w.heap.size + 2; omega) _⟩
    · skip
      go_simp
      have hv := Var3.new wn
      have hb := b1 wn (.cells #[.slice none 0 0] 33)
      obtain ⟨g10, hg10⟩ : ∃ g, wn.heap.size = g := ⟨_, rfl⟩
      have hl10 : W1.heap.size ≤ g10 := by have := HBS.out.size; omega
      have hne : g11 ≠ g10 := by have := V11.out.lt; omega
      have HBS := Lib.hid (HBS.out.trans (hb.mono HBS.out.size))
      have V11 := Lib.hid (V11.out.below hb)
      obtain ⟨wn, hwm⟩ : ∃ W, wn.alloc (.cells #[.slice none 0 0] 33) = W := ⟨_, rfl⟩
      rw [hwm] at hv HBS V11
      rw [hg10] at hv ⊢
      rw [hwm]
      have V10 := Lib.hid hv
      clear hv hb hg10 hwm
      refine hK.out _ _ HBS.out (fun hHeld => ?_)
      clear hK K
      try dsimp only [Act.put]
      try simp only [List.setIfInBounds_toArray, List.set_cons_zero, List.set_cons_succ]
      refine wpAnyH_ready (rs := [3]) (by kernel_rfl) (by simp) (AllReadyH.cons (op_of rfl) (fun K hK => ?_) AllReadyH.nil)
      go_simp
      refine (mul_num (.agg #[.slice A1 n1 c1]) (.agg #[.slice A3 n3 c3]) a m _ _ _ (HN.out.below HBS.out) (HM.out.below HBS.out) HA.out HMM.out (by omega) (by omega)).mono ?_
      rintro en wn ⟨vp, rfl, hp, hb⟩
      obtain ⟨Ap, np, cp, rfl⟩ := hp.shape
      have HBS := Lib.hid (HBS.out.trans (hb.mono HBS.out.size))
      have V10 := Lib.hid (V10.out.below hb)
      have V11 := Lib.hid (V11.out.below hb)
      have HP := Lib.hid hp
      clear hp hb
      refine hK.out _ _ HBS.out (fun hHeld => ?_)
      clear hK K
      try dsimp only [Act.put]
      try simp only [List.setIfInBounds_toArray, List.set_cons_zero, List.set_cons_succ]
      refine wpAnyH_ready (rs := [6]) (by kernel_rfl) (by simp) (AllReadyH.cons (op_of rfl) (fun K hK => ?_) AllReadyH.nil)
      go_simp
      refine (div_num (.agg #[.slice Ap np cp]) (.agg #[.slice A2 n2 c2]) (a * m) b _ _ _ HP.out (HD.out.below HBS.out) HAM.out HB.out hb0 (by omega) (by omega)).mono ?_
      rintro en wn ⟨vq, vr, rfl, hq, hr, hb⟩
      obtain ⟨Aq, nq, cq, rfl⟩ := hq.shape
      obtain ⟨Ar, nr, cr, rfl⟩ := hr.shape
      have HBS := Lib.hid (HBS.out.trans (hb.mono HBS.out.size))
      have V10 := Lib.hid (V10.out.below hb)
      have V11 := Lib.hid (V11.out.below hb)
      have HQ := Lib.hid hq
      clear hq hr hb
      refine hK.out _ _ HBS.out (fun hHeld => ?_)
      clear hK K
      try dsimp only [Act.put]
      try simp only [List.setIfInBounds_toArray, List.set_cons_zero, List.set_cons_succ]
      refine wpAnyH_take (i := 7) (v := ?_) (op_of rfl) (by kernel_rfl) (by kernel_rfl) (by kernel_rfl) (fun _ _ _ h => h) (Or.inl ⟨by rfl, fun W hS => ?_⟩) (by assumption) ?_
      rotate_left
      · dsimp only at hS
        go_simp
        try with_reducible rfl
      try dsimp only [Act.put]
      try simp only [List.setIfInBounds_toArray, List.set_cons_zero, List.set_cons_succ]
      refine wpAnyH_take (i := 8) (v := ?_) (op_of rfl) (by kernel_rfl) (by kernel_rfl) (by kernel_rfl) (fun _ _ _ h => h) (Or.inl ⟨by rfl, fun W hS => ?_⟩) (by assumption) ?_
      rotate_left
      · dsimp only at hS
        go_simp
        try with_reducible rfl
      try dsimp only [Act.put]
      try simp only [List.setIfInBounds_toArray, List.set_cons_zero, List.set_cons_succ]
      refine wpAnyH_take (i := 9) (v := ?_) (op_of rfl) (by kernel_rfl) (by kernel_rfl) (by kernel_rfl) (fun _ _ _ h => h) (Or.inl ⟨by rfl, fun W hS => ?_⟩) (by assumption) ?_
      rotate_left
      · dsimp only at hS
        go_simp
        try with_reducible rfl
      try dsimp only [Act.put]
      try simp only [List.setIfInBounds_toArray, List.set_cons_zero, List.set_cons_succ]
      refine wpAnyH_ready (rs := [12]) (by kernel_rfl) (by simp) (AllReadyH.cons (op_of rfl) (fun K hK => ?_) AllReadyH.nil)
      have hc10 := V10.out.1
      have hf10 := V10.out.2
      go_simp
      have hres := cell_put (u := .slice Aq nq cq) V10.out.1
      have HQ := Lib.hid (num_set3 (u := .slice Aq nq cq) HQ.out V10.out)
      have V11 := Lib.hid (V11.out.set (u := .slice Aq nq cq) (show g10 ≠ g11 from fun e => hne e.symm))
      have HBS := Lib.hid (HBS.out.setCell (p := ⟨g10, 0, none⟩) hl10 (.slice Aq nq cq))
      clear hc10 hf10 V10
      obtain ⟨wn, hwm⟩ : ∃ W, wn.setCell ⟨g10, 0, none⟩ (.slice Aq nq cq) = W := ⟨_, rfl⟩
      rw [hwm] at hres HQ V11 HBS
      rw [hwm]
      clear hwm
      refine hK.out _ _ HBS.out (fun hHeld => ?_)
      clear hK K
      try dsimp only [Act.put]
      try simp only [List.setIfInBounds_toArray, List.set_cons_zero, List.set_cons_succ]
      refine wpAnyH_ready (rs := [13]) (by kernel_rfl) (by simp) (AllReadyH.cons (op_of rfl) (fun K hK => ?_) AllReadyH.nil)
      have hc11 := V11.out.1
      have hf11 := V11.out.2
      go_simp
      have hres := (World.cell?_setCell_other wn ⟨g11, 0, none⟩ ⟨g10, 0, none⟩ (.slice Ar nr cr) (by intro e; injection e; omega)).trans hres
      have HQ := Lib.hid (num_set3 (u := .slice Ar nr cr) HQ.out V11.out)
      have HBS := Lib.hid (HBS.out.setCell (p := ⟨g11, 0, none⟩) hl11 (.slice Ar nr cr))
      clear hc11 hf11 V11
      obtain ⟨wn, hwm⟩ : ∃ W, wn.setCell ⟨g11, 0, none⟩ (.slice Ar nr cr) = W := ⟨_, rfl⟩
      rw [hwm] at hres HQ HBS
      rw [hwm]
      clear hwm
      refine hK.out _ _ HBS.out (fun hHeld => ?_)
      clear hK K
      try dsimp only [Act.put]
      try simp only [List.setIfInBounds_toArray, List.set_cons_zero, List.set_cons_succ]
      refine wpAnyH_done (by kernel_rfl) ?_ _
      have k0 := (HBS.out.cell (World.block_lt_of_cell? _ _ r0)).trans r0
      have k1 := (HBS.out.frozen (World.block_lt_of_cell? _ _ r0)).trans r1
      go_wp2_with fail
      have hpk := cell_put (u := .slice Aq nq cq) k0
      exact bodyPost_ret (v := .agg #[.slice Aq nq cq]) (by simp [results, Tryd.results38, go_sem, hpk]) rfl ⟨_, _, _, rfl, ⟨_, HQ.out.setSi k0⟩, (hbb.trans (HBS.out.mono hbb.size)).setCell (by show w.heap.size ≤ w.heap.size + 2; omega) _⟩
end Go.Proofs.YtemalomcdiahiaaDoor

namespace Go.Proofs.YtemalomcdiahiaaDoor
open Go.RowKit
set_option maxRecDepth 100000

/-- The slice at A reads, in world W, as n fractions of the document's: xs k by ys k. -/
def QIn (W : World) (A : Option Addr) (n : Nat) (xs ys : Nat → Nat) : Prop :=
  ∀ k, k < n → ∃ b o A1 n1 c1 A2 n2 c2, A = some ⟨b, o, none⟩ ∧ W.cell? ⟨b, o + k * 2, none⟩ = some (.slice A1 n1 c1) ∧ W.cell? ⟨b, o + k * 2 + 1, none⟩ = some (.slice A2 n2 c2) ∧
    (∃ L, Num W L (.agg #[.slice A1 n1 c1]) (xs k)) ∧ (∃ L, Num W L (.agg #[.slice A2 n2 c2]) (ys k))
theorem QIn.below {W W' : World} {A : Option Addr} {n : Nat} {xs ys : Nat → Nat} (h : QIn W A n xs ys) (hb : Below W.heap.size W W') : QIn W' A n xs ys := fun k hk => by
  obtain ⟨b, o, A1, n1, c1, A2, n2, c2, h1, h2, h3, ⟨L1, h4⟩, ⟨L2, h5⟩⟩ := h k hk
  exact ⟨b, o, A1, n1, c1, A2, n2, c2, h1, (hb.cell (World.block_lt_of_cell? _ _ h2)).trans h2, (hb.cell (World.block_lt_of_cell? _ _ h3)).trans h3, ⟨L1, h4.below hb⟩, ⟨L2, h5.below hb⟩⟩

/-- The least number that the first k divide. -/
def lcmTo (ys : Nat → Nat) : Nat → Nat
  | 0 => 1
  | k + 1 => Nat.lcm (lcmTo ys k) (ys k)
theorem lcmTo_lt {ys : Nat → Nat} {n j : Nat} (h : ∀ k, k < n → ys k < 65536 ^ j) : ∀ k, k ≤ n → lcmTo ys k < 65536 ^ (k * j + 1) := by
  intro k
  induction k with
  | zero => intro _; simp [lcmTo]
  | succ k ih =>
    intro hk
    have h1 := ih (by omega)
    have h2 := h k (by omega)
    have h3 : lcmTo ys (k + 1) ≤ lcmTo ys k * ys k := lcm_le _ _
    have h4 : lcmTo ys k * ys k < 65536 ^ (k * j + 1) * 65536 ^ j := Nat.mul_lt_mul'' h1 h2
    rw [← Nat.pow_add] at h4
    rw [show (k + 1) * j + 1 = k * j + 1 + j by rw [Nat.succ_mul]; omega]
    omega

set_option maxHeartbeats 4000000 in
theorem lcm4_r {j : Nat} (A : Option Addr) (xs ys : Nat → Nat) (n c : Nat) (w : World) (hq : QIn w A n xs ys) (hy : ∀ k, k < n → ys k < 65536 ^ 20) (hn : n ≤ 20) (hj : j = 421) :
    Calls Tryd.prog 37 #[.slice A n c] w fun e w' => ∃ A1 n1 c1, e = .returned (.agg #[.slice A1 n1 c1]) ∧ (∃ L, Num w' L (.agg #[.slice A1 n1 c1]) (lcmTo ys n)) ∧ Below w.heap.size w w' := by
  have HQ := Lib.hid hq
  have HY := Lib.hid hy
  have hb0 := b1 w (.cells #[.slice none 0 0] 33)
  have r0 := Blk.new w 33 #[.slice none 0 0]
  have HC := Lib.hid (of_one (w.alloc (.cells #[.slice none 0 0] 33)))
  have HB0 := Lib.hid hb0
  clear hq hy hb0
  go_enter Tryd.func37, Tryd.ntmps37
  go_wp2_with fail
  refine HC.out.mono ?_
  rintro en w1 ⟨v, rfl, hv, hb1⟩
  obtain ⟨A1, n1, c1, rfl⟩ := hv.shape
  have hba := b1 w1 (.cells #[.slice A1 n1 c1] 33)
  have hb2 := hb1.trans (hba.mono hb1.size)
  have hm0 := Blk.new w1 33 #[.slice A1 n1 c1]
  have HV := Lib.hid (hv.below hba)
  have hr0 := r0.below hb2 r0.lt
  have HB2 := Lib.hid (HB0.out.trans (hb2.mono HB0.out.size))
  obtain ⟨g3, hg3⟩ : ∃ g, w1.heap.size = g := ⟨_, rfl⟩
  have hgw : w.heap.size < g3 := by have := hb1.size; simp at this; omega
  clear hv hb1 hba hb2 r0 HC HB0
  go_upto_region 2 with (fail)
  obtain ⟨W2, hW2⟩ : ∃ W, w1.alloc (.cells #[.slice A1 n1 c1] 33) = W := ⟨_, rfl⟩
  rw [hW2] at hm0 HV hr0 HB2
  rw [hg3] at hm0
  try rw [hg3]
  try rw [hW2]
  clear hg3 hW2
  go_wp2_with fail
  go_loopw [4] (fun i wr => ∃ k : Nat, i = .int .i64 (k : Int) ∧ k ≤ n ∧ (∃ Am nm cm L, Hid (Blk wr g3 33 #[.slice Am nm cm]) ∧ Hid (Num wr L (.agg #[.slice Am nm cm]) (lcmTo ys k))) ∧ Hid (Blk wr w.heap.size 33 #[.slice none 0 0]) ∧ Hid (Below w.heap.size w wr)) (fun i _ => n - (intOf i).toNat)
  case atStart => exact ⟨0, rfl, by omega, ⟨A1, n1, c1, _, Lib.hid hm0, HV⟩, Lib.hid hr0, HB2⟩
  case round =>
    obtain ⟨k, rfl, hk, ⟨Am, nm, cm, Lm, HG3, HMM⟩, HS0, HBL⟩ := hrel
    have m0 := HG3.out.cell 0
    have m1 := HG3.out.frozen 0
    have s0 := HS0.out.cell 0
    have s1 := HS0.out.frozen 0
    by_cases ht : k < n
    · obtain ⟨b, o, A0, n0, c0, A2, n2, c2, rfl, _, e0, _, ⟨LD, hd⟩⟩ := (HQ.out.below HBL.out) k ht
      have hbb : b < w.heap.size := by
        obtain ⟨b', o', _, _, _, _, _, _, h1, h2, _⟩ := HQ.out k ht
        injection h1 with h1
        injection h1 with h1
        subst h1
        exact World.block_lt_of_cell? _ _ h2
      have hi0 : (0 : Int) ≤ (k : Int) := by omega
      have hi1 : (k : Int) < (n : Int) := by omega
      have HD := Lib.hid hd
      have HSY : Hid (ys k < 65536 ^ j) := Lib.hid (Nat.lt_of_lt_of_le (HY.out k ht) (Nat.pow_le_pow_right (by omega) (by omega)))
      have HS : Hid (lcmTo ys k < 65536 ^ j) := Lib.hid (Nat.lt_of_lt_of_le (lcmTo_lt HY.out k hk) (Nat.pow_le_pow_right (by omega) (by omega)))
      have e0d : wr.drew.cell? ⟨b, o + k * 2 + 1, none⟩ = some (.slice A2 n2 c2) := e0
      have m0d : wr.drew.cell? ⟨g3, 0, none⟩ = some (.slice Am nm cm) := m0
      clear hd
      go_wp2_with fail
      refine wp_region_held_drew (S := (fun W => W.cell? ⟨b, o + k * 2 + 1, none⟩ = some (.slice A2 n2 c2))) (by kernel_rfl) e0d (fun hHeld => ?_)
      refine wpAnyH_take (i := 1) (v := ?_) (op_of rfl) (by kernel_rfl) (by kernel_rfl) (by kernel_rfl) (fun _ _ _ h => h) (Or.inl ⟨by rfl, fun w hS => ?_⟩) (by assumption) ?_
      rotate_left
      · dsimp only at hS
        go_simp
        try with_reducible rfl
      try dsimp only [Act.put]
      try simp only [List.setIfInBounds_toArray, List.set_cons_zero, List.set_cons_succ]
      refine wpAnyH_take (i := 2) (v := ?_) (op_of rfl) (by kernel_rfl) (by kernel_rfl) (by kernel_rfl) (fun _ _ _ h => h) (Or.inl ⟨by rfl, fun w hS => ?_⟩) (by assumption) ?_
      rotate_left
      · dsimp only at hS
        go_simp
        try with_reducible rfl
      try dsimp only [Act.put]
      try simp only [List.setIfInBounds_toArray, List.set_cons_zero, List.set_cons_succ]
      refine wpAnyH_take (i := 3) (v := ?_) (op_of rfl) (by kernel_rfl) (by kernel_rfl) (by kernel_rfl) (fun _ _ _ h => h) (Or.inl ⟨by rfl, fun w hS => ?_⟩) (by assumption) ?_
      rotate_left
      · dsimp only at hS
        go_simp
        try with_reducible rfl
      try dsimp only [Act.put]
      try simp only [List.setIfInBounds_toArray, List.set_cons_zero, List.set_cons_succ]
      refine wpAnyH_take (i := 4) (v := ?_) (op_of rfl) (by kernel_rfl) (by kernel_rfl) (by kernel_rfl) (fun _ _ _ h => h) (Or.inl ⟨by rfl, fun w hS => ?_⟩) (by assumption) ?_
      rotate_left
      · dsimp only at hS
        go_simp
        try with_reducible rfl
      try dsimp only [Act.put]
      try simp only [List.setIfInBounds_toArray, List.set_cons_zero, List.set_cons_succ]
      refine wpAnyH_take (i := 5) (v := ?_) (op_of rfl) (by kernel_rfl) (by kernel_rfl) (by kernel_rfl) (fun _ _ _ h => h) (Or.inl ⟨by rfl, fun w hS => ?_⟩) (by assumption) ?_
      rotate_left
      · dsimp only at hS
        go_simp
        try with_reducible rfl
      try dsimp only [Act.put]
      try simp only [List.setIfInBounds_toArray, List.set_cons_zero, List.set_cons_succ]
      refine wpAnyH_ready (rs := [0]) (by kernel_rfl) (by simp) (AllReadyH.cons (op_of rfl) (fun K hK => ?_) AllReadyH.nil)
      go_simp
      refine hK.out _ _ (by assumption) (fun hHeld1 => ?_)
      clear hK K
      try dsimp only [Act.put]
      try simp only [List.setIfInBounds_toArray, List.set_cons_zero, List.set_cons_succ]
      refine wpAnyH_ready (rs := [6]) (by kernel_rfl) (by simp) (AllReadyH.cons (op_of rfl) (fun K hK => ?_) AllReadyH.nil)
      go_simp
      refine (refLcm3_any (j := j) Am A2 nm cm n2 c2 _ _ _ _ _ (HMM.out.below ((Below.refl _ _).drew)) (HD.out.below ((Below.refl _ _).drew)) HS.out HSY.out (by omega)).mono ?_
      rintro en wn ⟨v, rfl, ⟨L5, hv⟩, hb6⟩
      obtain ⟨A6, n6, c6, rfl⟩ := hv.shape
      have HV := Lib.hid hv
      have hb7 : Below wr.heap.size wr wn := drew_then hb6
      have g3c := (hb7.cell (World.block_lt_of_cell? _ _ m0)).trans m0
      have g3f := (hb7.frozen (World.block_lt_of_cell? _ _ m0)).trans m1
      have e1 := (hb7.cell (World.block_lt_of_cell? _ _ e0)).trans e0
      have HB7 := Lib.hid hb7
      clear hv hb6 hb7
      refine hK.out _ _ e1 (fun hHeld2 => ?_)
      clear hK K
      try dsimp only [Act.put]
      try simp only [List.setIfInBounds_toArray, List.set_cons_zero, List.set_cons_succ]
      refine wpAnyH_ready (rs := [7]) (by kernel_rfl) (by simp) (AllReadyH.cons (op_of rfl) (fun K hK => ?_) AllReadyH.nil)
      go_simp
      refine hK.out _ _ ((World.cell?_setCell_other _ _ _ _ (by intro e; injection e; omega)).trans e1) (fun hHeld3 => ?_)
      clear hK K
      try dsimp only [Act.put]
      try simp only [List.setIfInBounds_toArray, List.set_cons_zero, List.set_cons_succ]
      refine wpAnyH_done (by kernel_rfl) ?_ _
      go_wp2_with fail
      refine ⟨⟨k + 1, by go_num, by omega, ⟨A6, n6, c6, L5, Lib.hid ((HG3.out.below HB7.out HG3.out.lt).set_ 0 (.slice A6 n6 c6)), Lib.hid (num_setS HV.out g3c)⟩, Lib.hid ((HS0.out.below HB7.out HS0.out.lt).far (p := ⟨g3, 0, none⟩) (show w.heap.size ≠ g3 by omega) _), Lib.hid ((HBL.out.trans (HB7.out.mono HBL.out.size)).setCell (by show w.heap.size ≤ g3; omega) _)⟩, by simp [intOf]; omega⟩
    · obtain rfl : k = n := by omega
      go_wp2_with fail
      have hpk := cell_put (u := .slice Am nm cm) s0
      exact bodyPost_ret (v := .agg #[.slice Am nm cm]) (by simp [results, Tryd.results37, go_sem, hpk]) rfl ⟨_, _, _, rfl, ⟨_, num_setS HMM.out s0⟩, HBL.out.setCell (by show w.heap.size ≤ w.heap.size; omega) _⟩
end Go.Proofs.YtemalomcdiahiaaDoor

namespace Go.Proofs.YtemalomcdiahiaaDoor
open Go.RowKit
set_option maxRecDepth 100000

/-- A number whose digits lie in blocks from lo up to below hi. -/
def NumB (W : World) (lo hi : Nat) (v : Value) (a : Nat) : Prop := ∃ A xs n c, v = .agg #[.slice A n c] ∧ xs.length = n ∧ n ≤ c ∧ Rd W hi A xs ∧ Fr lo A xs ∧ Can xs ∧ V xs = a
theorem NumB.num {W : World} {lo hi : Nat} {v : Value} {a : Nat} (h : NumB W lo hi v a) (hh : hi ≤ W.heap.size) : Num W lo v a := by
  obtain ⟨A, xs, n, c, h1, h2, h3, h4, h5⟩ := h
  exact ⟨A, xs, n, c, h1, h2, h3, h4.more hh, h5⟩
theorem NumB.of_num {W : World} {lo L : Nat} {v : Value} {a : Nat} (h : Num W L v a) (hl : lo ≤ L) : NumB W lo W.heap.size v a := by
  obtain ⟨A, xs, n, c, h1, h2, h3, h4, h5, h6⟩ := h
  exact ⟨A, xs, n, c, h1, h2, h3, h4, h5.more hl, h6⟩
theorem NumB.grown {W W' : World} {lo hi : Nat} {v : Value} {a : Nat} (h : NumB W lo hi v a) {row : Option Nat} (hg : W.grownBy W' row) (hd : ∀ r, row = some r → r < lo ∨ hi ≤ r) : NumB W' lo hi v a := by
  obtain ⟨A, xs, n, c, h1, h2, h3, h4, h5, h6⟩ := h
  refine ⟨A, xs, n, c, h1, h2, h3, fun hx => ?_, h5, h6⟩
  obtain ⟨b, o, e1, e2, e3⟩ := h4 hx
  obtain ⟨b', o', e4, e5⟩ := h5 hx
  rw [e1] at e4
  injection e4 with e4
  injection e4 with e4
  subst e4
  exact ⟨b, o, e1, e2, fun k hk => hg.cell (e3 k hk) (fun e => by rcases hd b e.symm with h | h <;> omega)⟩
theorem NumB.below {W W' : World} {lo hi : Nat} {v : Value} {a : Nat} (h : NumB W lo hi v a) (hb : Below W.heap.size W W') (hh : hi ≤ W.heap.size) : NumB W' lo hi v a := by
  obtain ⟨A, xs, n, c, h1, h2, h3, h4, h5⟩ := h
  exact ⟨A, xs, n, c, h1, h2, h3, h4.below hb hh, h5⟩

/-- One of a row's fractions. -/
def QEl (W : World) (v : Value) (cs : List Value) (xs ys : Nat → Nat) (j : Nat) : Prop :=
  ∃ lo hi A1 n1 c1 A2 n2 c2, cs[j * 2]? = some (.slice A1 n1 c1) ∧ cs[j * 2 + 1]? = some (.slice A2 n2 c2) ∧
    NumB W lo hi (.agg #[.slice A1 n1 c1]) (xs j) ∧ NumB W lo hi (.agg #[.slice A2 n2 c2]) (ys j) ∧ hi ≤ W.heap.size ∧ ∀ r, v.ownBlock = some r → r < lo ∨ hi ≤ r
/-- The row v of k fractions. -/
def QRow (W : World) (base : Nat) (v : Value) (k : Nat) (xs ys : Nat → Nat) : Prop :=
  ∃ cs, W.ownsRow base 38 2 v k cs ∧ ∀ j, j < k → QEl W v cs xs ys j
theorem own_keep2 {w w' : World} {base : Nat} {e : TypeId} {s : Nat} {v : Value} {n : Nat} {xs : List Value} (h : w.ownsRow base e s v n xs) (hb : Below w.heap.size w w') : w'.ownsRow base e s v n xs := by
  have hlt := h.lt
  obtain ⟨h1, h2⟩ := h
  refine ⟨h1, ?_⟩
  rcases h2 with h2 | ⟨g, cap, cur, rfl, hg, hh, r⟩
  · exact .inl h2
  · exact .inr ⟨g, cap, cur, rfl, hg, by rw [hb.block g (hlt g rfl).2]; exact hh, r⟩
theorem QRow.below {W W' : World} {base : Nat} {v : Value} {k : Nat} {xs ys : Nat → Nat} (h : QRow W base v k xs ys) (hb : Below W.heap.size W W') : QRow W' base v k xs ys := by
  obtain ⟨cs, h1, h2⟩ := h
  refine ⟨cs, own_keep2 h1 hb, fun j hj => ?_⟩
  obtain ⟨lo, hi, A1, n1, c1, A2, n2, c2, e1, e2, e3, e4, e5, e6⟩ := h2 j hj
  exact ⟨lo, hi, A1, n1, c1, A2, n2, c2, e1, e2, e3.below hb e5, e4.below hb e5, Nat.le_trans e5 hb.size, e6⟩
theorem QRow.nil (W : World) (base : Nat) (xs ys : Nat → Nat) : QRow W base (.slice none 0 0) 0 xs ys := ⟨[], World.ownsRow_nil _ _ _ _, fun j hj => absurd hj (by omega)⟩
theorem QRow.qin {W : World} {base : Nat} {A : Option Addr} {c k : Nat} {xs ys : Nat → Nat} (h : QRow W base (.slice A k c) k xs ys) : QIn W A k xs ys := fun j hj => by
  obtain ⟨cs, h1, h2⟩ := h
  obtain ⟨lo, hi, A1, n1, c1, A2, n2, c2, e1, e2, e3, e4, e5, e6⟩ := h2 j hj
  rcases h1.2 with ⟨_, h0⟩ | ⟨g, cap, cur, hv, _⟩
  · omega
  · injection hv with hA
    subst hA
    have a1 := h1.cells (g := g) rfl _ _ e1
    have a2 := h1.cells (g := g) rfl _ _ e2
    refine ⟨g, 0, A1, n1, c1, A2, n2, c2, rfl, ?_, ?_, ⟨_, e3.num e5⟩, ⟨_, e4.num e5⟩⟩
    · rw [Go.WideShapes.add_plain] at a1
      exact a1
    · rw [Go.WideShapes.add_plain] at a2
      simpa only [Nat.add_assoc] using a2
/-- One more. -/
theorem QRow.push {W0 W1 W2 W3 : World} {base : Nat} {v v' : Value} {k : Nat} {xs ys : Nat → Nat} {A1 A2 : Option Addr} {n1 c1 n2 c2 L1 L2 : Nat} {o : Obj} {cs : List Value} (q1 : W0.ownsRow base 38 2 v k cs) (q2 : ∀ j, j < k → QEl W0 v cs xs ys j) (hb1 : Below W0.heap.size W0 W1)
    (hx : Num W1 L1 (.agg #[.slice A1 n1 c1]) (xs k)) (hl1 : W0.heap.size ≤ L1) (hy : Num W1 L2 (.agg #[.slice A2 n2 c2]) (ys k)) (hl2 : W0.heap.size ≤ L2) (h2 : W1.alloc o = W2) (hg : W2.grownBy W3 v.ownBlock)
    (h3 : W3.ownsRow base 38 2 v' (k + 1) (cs ++ [.slice A1 n1 c1, .slice A2 n2 c2])) (hat : v'.ownBlock = v.ownBlock ∨ v'.ownBlock = some W2.heap.size) : QRow W3 base v' (k + 1) xs ys := by
  subst h2
  have hlen : cs.length = k * 2 := q1.1
  have hs1 := hb1.size
  have hs2 : (W1.alloc o).heap.size = W1.heap.size + 1 := by simp
  have hlt := q1.lt
  refine ⟨_, h3, fun j hj => ?_⟩
  rcases Nat.lt_or_ge j k with h | h
  · obtain ⟨lo, hi, A3, n3, c3, A4, n4, c4, e1, e2, e3, e4, e5, e6⟩ := q2 j h
    refine ⟨lo, hi, A3, n3, c3, A4, n4, c4, by rw [List.getElem?_append_left (by omega)]; exact e1, by rw [List.getElem?_append_left (by omega)]; exact e2, ?_, ?_, by have := hg.size; omega, fun r hr => ?_⟩
    · exact (((e3.below hb1 e5).below (b1 W1 o) (by omega)).grown hg e6)
    · exact (((e4.below hb1 e5).below (b1 W1 o) (by omega)).grown hg e6)
    · rcases hat with h' | h'
      · exact e6 r (h' ▸ hr)
      · rw [h'] at hr
        injection hr with hr
        omega
  · obtain rfl : j = k := by omega
    refine ⟨W0.heap.size, W1.heap.size, A1, n1, c1, A2, n2, c2, by rw [List.getElem?_append_right (by omega), hlen]; simp, by rw [List.getElem?_append_right (by omega), hlen]; simp [show j * 2 + 1 - j * 2 = 1 by omega], ?_, ?_, by have := hg.size; omega, fun r hr => ?_⟩
    · exact (((NumB.of_num hx hl1).below (b1 W1 o) (Nat.le_refl _)).grown hg (fun r hr => .inl (hlt r hr).2))
    · exact (((NumB.of_num hy hl2).below (b1 W1 o) (Nat.le_refl _)).grown hg (fun r hr => .inl (hlt r hr).2))
    · rcases hat with h' | h'
      · exact .inl (hlt r (h' ▸ hr)).2
      · rw [h'] at hr
        injection hr with hr
        omega

theorem info_Q : (Tryd.prog.info? 38).map (fun i => (i.zero, i.size, i.bytes)) = some (some (.agg #[.slice none 0 0, .slice none 0 0]), 2, 48) := by kernel_rfl

theorem short_yes (A1 A2 : Option Addr) (n1 c1 n2 c2 : Nat) (z : Bool) (w : World) (hz : (decide (n1 ≤ 6) && decide (n2 ≤ 6)) = z) :
    Calls Tryd.prog 18 #[.agg #[.slice A1 n1 c1, .slice A2 n2 c2]] w fun e w' => e = .returned (.bool z) ∧ Below w.heap.size w w' := by
  have hb := b1 w (.cells #[.slice A1 n1 c1, .slice A2 n2 c2] 27)
  have x0 := cn0 w 27 (.slice A1 n1 c1) (.slice A2 n2 c2)
  have x1 := cn1 w 27 (.slice A1 n1 c1) (.slice A2 n2 c2)
  by_cases h1 : n1 ≤ 6
  · by_cases h2 : n2 ≤ 6
    · obtain rfl : z = true := by rw [← hz]; simp [h1, h2]
      go_enter Tryd.func18, Tryd.ntmps18
      go_wp2_with fail
      go_ret
      exact ⟨by show Ending.returned (Value.bool (decide ((n2 : Int) ≤ 6))) = _; rw [show decide ((n2 : Int) ≤ 6) = true by simp; omega], hb⟩
    · obtain rfl : z = false := by rw [← hz]; simp [h2]
      go_enter Tryd.func18, Tryd.ntmps18
      go_wp2_with fail
      go_ret
      exact ⟨by show Ending.returned (Value.bool (decide ((n2 : Int) ≤ 6))) = _; rw [show decide ((n2 : Int) ≤ 6) = false by simp; omega], hb⟩
  · obtain rfl : z = false := by rw [← hz]; simp [h1]
    go_enter Tryd.func18, Tryd.ntmps18
    go_wp2_with fail
    go_ret
    exact ⟨rfl, hb⟩

/-- The fractions of a slice, as a list. -/
def qs (n : Nat) (xs ys : Nat → Nat) : List (Nat × Nat) := (List.range n).map fun k => (xs k, ys k)
theorem qs_len (n : Nat) (xs ys : Nat → Nat) : (qs n xs ys).length = n := by simp [qs]
theorem qs_get {n : Nat} {xs ys : Nat → Nat} {k : Nat} (h : k < n) : (qs n xs ys)[k]? = some (xs k, ys k) := by simp [qs, h]
theorem lcmAll_qs (n : Nat) (xs ys : Nat → Nat) : lcmAll (qs n xs ys) = lcmTo ys n := by
  induction n with
  | zero => rfl
  | succ n ih =>
    rw [lcmTo, ← ih]
    unfold lcmAll qs
    rw [List.range_succ, List.map_append, List.foldl_append]
    rfl
theorem lcm_dvd {ys : Nat → Nat} {n k : Nat} (h : k < n) : ys k ∣ lcmTo ys n := by
  induction n with
  | zero => omega
  | succ n ih =>
    rw [lcmTo]
    rcases Nat.lt_or_ge k n with h1 | h1
    · exact Nat.dvd_trans (ih h1) (Nat.dvd_lcm_left _ _)
    · obtain rfl : k = n := by omega
      exact Nat.dvd_lcm_right _ _
theorem part_up {n : Nat} {xs ys : Nat → Nat} {k : Nat} (h : k < n) : partOf (qs n xs ys) k = xs k * lcmTo ys n / ys k := by
  rw [partOf_eq (qs_get h), lcmAll_qs, Nat.mul_div_assoc _ (lcm_dvd h)]
theorem fracs_rats {W : World} {A : Option Addr} {n : Nat} {X Y : Nat → List Nat} (h : Fracs W A n X Y) (hs : ∀ k, k < n → (X k).length ≤ 6 ∧ (Y k).length ≤ 6) : Rats W W.heap.size A (qs n (fun k => U (X k)) (fun k => U (Y k))) 6 := fun k q hq => by
  have hk : k < n := by
    rcases Nat.lt_or_ge k n with h1 | h1
    · exact h1
    · rw [List.getElem?_eq_none (by rw [qs_len]; exact h1)] at hq; cases hq
  rw [qs_get hk] at hq
  injection hq with hq
  subst hq
  obtain ⟨b, o, A1, n1, c1, A2, n2, c2, h1, h2, h3, h4, ⟨h5, h6, h7, h8⟩, h9, h10, h11, h12⟩ := h k hk
  obtain ⟨s1, s2⟩ := hs k hk
  exact ⟨b, o, A1, n1, c1, A2, n2, c2, h1, h2, h3, h4, ⟨A1, X k, n1, c1, rfl, h5, h6, h7, h8, rfl, by omega⟩, ⟨A2, Y k, n2, c2, rfl, h9, h10, h11, h12, rfl, by omega⟩⟩
end Go.Proofs.YtemalomcdiahiaaDoor
