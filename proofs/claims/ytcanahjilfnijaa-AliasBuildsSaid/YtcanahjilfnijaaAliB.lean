/-
  Alias tables: package alias's counts: how many numbers pick each place.
-/
import Derived.Test.YtcanahjilfnijaaAliA
namespace Go.Proofs.Ytcanahjilfnijaa
open Go.RowKit
set_option maxRecDepth 100000

/-- Block g holds n wide numbers. -/
def WdB (w : World) (g n : Nat) (U : Nat → Nat) : Prop := ∃ cs : Array Value, Blk w g 50 cs ∧ cs.size = n * 2 ∧ ∀ j, j < n → cs[j * 2]? = some (.int .u64 ((hi12 (U j) : Nat) : Int)) ∧ cs[j * 2 + 1]? = some (.int .u64 ((lo12 (U j) : Nat) : Int))
theorem WdB.lt {w : World} {g n : Nat} {U : Nat → Nat} (h : WdB w g n U) : g < w.heap.size := by
  obtain ⟨cs, h, _⟩ := h
  exact h.lt
theorem WdB.below {w w' : World} {g n : Nat} {U : Nat → Nat} (h : WdB w g n U) (hb : Below w.heap.size w w') : WdB w' g n U := by
  obtain ⟨cs, h1, h2⟩ := h
  exact ⟨cs, h1.below hb h1.lt, h2⟩
theorem WdB.congr {w : World} {g n : Nat} {U V : Nat → Nat} (h : WdB w g n U) (he : ∀ j, j < n → U j = V j) : WdB w g n V := by
  obtain ⟨cs, h1, h2, h3⟩ := h
  exact ⟨cs, h1, h2, fun j hj => by rw [← he j hj]; exact h3 j hj⟩
theorem WdB.cells {w : World} {g n k : Nat} {U : Nat → Nat} (h : WdB w g n U) (hk : k < n) : w.cell? ⟨g, k * 2, none⟩ = some (.int .u64 ((hi12 (U k) : Nat) : Int)) ∧ w.cell? ⟨g, k * 2 + 1, none⟩ = some (.int .u64 ((lo12 (U k) : Nat) : Int)) ∧ (∀ i, w.frozen? ⟨g, i, none⟩ = false) := by
  obtain ⟨cs, h1, h2, h3⟩ := h
  exact ⟨by rw [h1.cell]; exact (h3 k hk).1, by rw [h1.cell]; exact (h3 k hk).2, fun i => h1.frozen i⟩
theorem WdB.put {w : World} {g n k : Nat} {U : Nat → Nat} (h : WdB w g n U) (hk : k < n) (x : Nat) :
    WdB ((w.setCell ⟨g, k * 2, none⟩ (.int .u64 ((hi12 x : Nat) : Int))).setCell ⟨g, k * 2 + 1, none⟩ (.int .u64 ((lo12 x : Nat) : Int))) g n (upd U k x) := by
  obtain ⟨cs, h1, h2, h3⟩ := h
  refine ⟨_, (h1.set_ _ _).set_ _ _, by simp [h2], fun j hj => ?_⟩
  by_cases h5 : j = k
  · subst h5
    rw [upd_at]
    constructor
    · rw [Array.getElem?_setIfInBounds_ne (by omega), Array.getElem?_setIfInBounds_self_of_lt (by omega)]
    · rw [Array.getElem?_setIfInBounds_self_of_lt (by simp; omega)]
  · rw [upd_far _ _ h5]
    obtain ⟨a1, a2⟩ := h3 j hj
    constructor
    · rw [Array.getElem?_setIfInBounds_ne (by omega), Array.getElem?_setIfInBounds_ne (by omega), a1]
    · rw [Array.getElem?_setIfInBounds_ne (by omega), Array.getElem?_setIfInBounds_ne (by omega), a2]

/-- What a round of counts leaves as it is: the table's variable, the column's. -/
structure Cs12 (w : World) (T C : Array Value) (g : Nat) (W : World) : Prop where
  below : Below w.heap.size w W
  tab : Blk W w.heap.size 27 T
  col : Blk W g 64 C
theorem Cs12.step {w W W' : World} {T C : Array Value} {g : Nat} (h : Cs12 w T C g W) (hb : Below W.heap.size W W') : Cs12 w T C g W' :=
  ⟨h.below.trans (hb.mono h.below.size), h.tab.below hb h.tab.lt, h.col.below hb h.col.lt⟩
theorem Cs12.set {w W : World} {T C : Array Value} {g : Nat} (h : Cs12 w T C g W) {p : Addr} (h1 : w.heap.size ≠ p.block) (h2 : g ≠ p.block) (h3 : w.heap.size ≤ p.block) (u : Value) : Cs12 w T C g (W.setCell p u) :=
  ⟨h.below.setCell h3 u, h.tab.far h1 u, h.col.far h2 u⟩

theorem info_wide12 : (Try.prog.info? 50).map (fun i => (i.zero, i.size, i.bytes)) = some (some (.agg #[.int .u64 0, .int .u64 0]), 2, 16) := by kernel_rfl
theorem make_wide12 (n : Nat) (hn : n ≤ 1000000) (W : World) : (Instr.makeSlice 66 (.int .i64 (n : Int)) (.int .i64 (n : Int))).run Try.prog W =
    .ok (.slice (some ⟨W.heap.size, 0, none⟩) n n) (W.alloc (.cells (madeCells #[.int .u64 0, .int .u64 0] (n * 2)) 50)) := by
  obtain ⟨i, hi, hzz⟩ := Option.map_eq_some_iff.1 info_wide12
  simp only [Prod.mk.injEq] at hzz
  obtain ⟨hz, hs, hb⟩ := hzz
  have hr := run_make (P := Try.prog) W 66 50 i _ Try.underlying66 hi hz .i64 .i64 n n (by omega) (Int.le_refl _) (by rw [hb]; omega) (by omega)
  simp only [Int.toNat_natCast, hs, Value.cells] at hr
  exact hr
theorem made_two12 (a b : Value) (n j : Nat) (hj : j < n) : (madeCells #[a, b] (n * 2))[j * 2]? = some a ∧ (madeCells #[a, b] (n * 2))[j * 2 + 1]? = some b := by
  have hs : (madeCells #[a, b] (n * 2)).size = n * 2 := size_madeCells _ _
  constructor
  · rw [Array.getElem?_eq_getElem (by omega)]
    simp [madeCells, Array.getElem_ofFn]
  · rw [Array.getElem?_eq_getElem (by omega)]
    simp [madeCells, Array.getElem_ofFn]

set_option maxHeartbeats 1000000 in
theorem counts12_any (t n cc : Nat) (A : Option Addr) (c : Nat → Nat) (o : Nat → Int) (w : World) (h : Cq w w.heap.size A n c o) (ht : t < 18446744073709551616) (hn : n ≤ 1000000) (hR : Rt12 t n c o) :
    Calls Try.prog 28 #[.agg #[.int .u64 (t : Int), .slice A n cc]] w fun e w' => ∃ g, e = .returned (.slice (some ⟨g, 0, none⟩) n n) ∧ w.heap.size ≤ g ∧ WdB w' g n (fun i => cu t c o (i : Int) n) ∧ Below w.heap.size w w' := by
  have HK := Lib.hid (tab_new w t n cc A)
  have HC := Lib.hid h
  have HR := Lib.hid hR
  have t1 := HK.out.cell 1
  have hmk := make_wide12 n hn
  have HB0 := Lib.hid ((b1' w (.cells #[.int .u64 (t : Int), .slice A n cc] 27)).alloc (by simp) (.cells (madeCells #[.int .u64 0, .int .u64 0] (n * 2)) 50))
  have HK0 := Lib.hid (HK.out.alloc (.cells (madeCells #[.int .u64 0, .int .u64 0] (n * 2)) 50))
  have t1' := HK0.out.cell 1
  have hq0 : WdB ((w.alloc (.cells #[.int .u64 (t : Int), .slice A n cc] 27)).alloc (.cells (madeCells #[.int .u64 0, .int .u64 0] (n * 2)) 50)) (w.heap.size + 1) n (fun i => cu t c o (i : Int) 0) := by
    have h1 := Blk.new (w.alloc (.cells #[.int .u64 (t : Int), .slice A n cc] 27)) 50 (madeCells #[.int .u64 0, .int .u64 0] (n * 2))
    rw [show (w.alloc (.cells #[.int .u64 (t : Int), .slice A n cc] 27)).heap.size = w.heap.size + 1 by simp] at h1
    exact ⟨_, h1, size_madeCells _ _, fun j hj => by simpa [cu_zero, hi12, lo12] using made_two12 (.int .u64 0) (.int .u64 0) n j hj⟩
  have HQ0 := Lib.hid hq0
  clear h hR hq0
  go_enter Try.func28, Try.ntmps28
  go_wp2_with fail
  clear hmk
  go_loopw [13] (fun i wr => ∃ k : Nat, i = .int .i64 (k : Int) ∧ k ≤ n ∧ Hid (WdB wr (w.heap.size + 1) n (fun i => cu t c o (i : Int) k)) ∧ Hid (Blk wr w.heap.size 27 #[.int .u64 (t : Int), .slice A n cc]) ∧ Hid (Below w.heap.size w wr)) (fun i _ => n - (intOf i).toNat)
  case atStart => exact ⟨0, rfl, by omega, HQ0, HK0, HB0⟩
  case round =>
    obtain ⟨k, rfl, hk, HQ, HT, HBR⟩ := hrel
    by_cases hkn : k < n
    · obtain ⟨a, p, hA, ha, c0, c1⟩ := (HC.out.below HBR.out (Nat.le_refl _)).at_ hkn
      subst hA
      have hck := (HR.out.1 k hkn).1
      have hok := (HR.out.1 k hkn).2
      have HU : Hid (∀ j, j < n → cu t c o (j : Int) (k + 1) = cu t c o (j : Int) k + ((if (k : Int) = (j : Int) then c k else 0) + (if o k = (j : Int) then t - c k else 0))) := Lib.hid (fun j _ => cu_succ t c o (j : Int) k)
      obtain ⟨ck, hcke⟩ : ∃ x, c k = x := ⟨_, rfl⟩
      obtain ⟨d, hd⟩ := Int.eq_ofNat_of_zero_le hok.1
      rw [hcke] at c0 hck HU
      rw [hd] at c1 hok HU
      have hdn : d < n := by omega
      have HLE : Hid (∀ j, cu t c o (j : Int) k ≤ k * t) := Lib.hid (fun j => cu_le (fun i hi => (HR.out.1 i (by omega)).1))
      have hkt : k * t ≤ 1000000 * 18446744073709551616 := Nat.mul_le_mul (by omega) (by omega)
      obtain ⟨U, hU⟩ : ∃ U : Nat → Nat, (fun i : Nat => cu t c o (i : Int) k) = U := ⟨_, rfl⟩
      have hUj : ∀ j : Nat, cu t c o (j : Int) k = U j := fun j => congrFun hU j
      rw [hU] at HQ
      have HLE2 : Hid (∀ j, U j ≤ k * t) := Lib.hid (fun j => by rw [← hUj]; exact HLE.out j)
      obtain ⟨x1, hx1⟩ : ∃ x, U k + ck = x := ⟨_, rfl⟩
      obtain ⟨x2, hx2⟩ : ∃ x, upd U k x1 d = x := ⟨_, rfl⟩
      obtain ⟨x3, hx3⟩ : ∃ x, x2 + (t - ck) = x := ⟨_, rfl⟩
      have HPL : Hid (∀ W, Calls Try.prog 35 #[wv (U k), .int .u64 (ck : Int)] W fun e w' => e = .returned (wv x1) ∧ Below W.heap.size W w') := Lib.hid (fun W => by
        rw [← hx1]
        exact plus12_any (U k) ck W (by have := HLE2.out k; omega) (by omega))
      have HPL2 : Hid (∀ W, Calls Try.prog 35 #[wv x2, .int .u64 ((t - ck : Nat) : Int)] W fun e w' => e = .returned (wv x3) ∧ Below W.heap.size W w') := Lib.hid (fun W => by
        rw [← hx3]
        refine plus12_any x2 (t - ck) W ?_ (by omega)
        rw [← hx2]
        by_cases hdk : d = k
        · subst hdk
          rw [upd_at]
          have := HLE2.out d
          omega
        · rw [upd_far _ _ hdk]
          have := HLE2.out d
          omega)
      have HU : Hid (∀ j, j < n → upd (upd U k x1) d x3 j = cu t c o (j : Int) (k + 1)) := Lib.hid (fun j hj => by
        rw [HU.out j hj, hUj j]
        by_cases hjd : j = d
        · subst hjd
          rw [upd_at, ← hx3, ← hx2, if_pos rfl]
          by_cases hjk : j = k
          · subst hjk
            rw [upd_at, if_pos rfl, ← hx1]
            omega
          · rw [upd_far _ _ hjk, if_neg (by omega)]
            omega
        · rw [upd_far _ _ hjd, if_neg (show ¬ (d : Int) = (j : Int) by omega)]
          by_cases hjk : j = k
          · subst hjk
            rw [upd_at, if_pos rfl, ← hx1]
            omega
          · rw [upd_far _ _ hjk, if_neg (by omega)]
            omega)
      have HX2 := Lib.hid hx2
      have hwr : IntKind.u64.wrap ((t : Int) - (ck : Int)) = ((t - ck : Nat) : Int) := by rw [IntKind.wrap_u64]; omega
      have hi0 : (0 : Int) ≤ (k : Int) := by omega
      have hi1 : (k : Int) < (n : Int) := by omega
      have hd0 : (0 : Int) ≤ (d : Int) := by omega
      have hd1 : (d : Int) < (n : Int) := by omega
      have hws : w.heap.size < wr.heap.size := HT.out.lt
      have hws1 : w.heap.size + 1 < wr.heap.size := HQ.out.lt
      have HS0 : Hid (Cs12 w #[.int .u64 (t : Int), .slice (some ⟨a, p, none⟩) n cc] #[.int .u64 (ck : Int), .int .i64 (d : Int)] wr.heap.size (wr.alloc (.cells #[.int .u64 (ck : Int), .int .i64 (d : Int)] 64))) := Lib.hid ⟨HBR.out.alloc HBR.out.size _, HT.out.alloc _, Blk.new _ _ _⟩
      have HR0 := Lib.hid (HQ.out.below (b1' wr (.cells #[.int .u64 (ck : Int), .int .i64 (d : Int)] 64)))
      obtain ⟨w5, hw5⟩ : ∃ W, wr.alloc (.cells #[.int .u64 (ck : Int), .int .i64 (d : Int)] 64) = W := ⟨_, rfl⟩
      have HW5 := Lib.hid hw5
      rw [hw5] at HS0 HR0
      clear hcke hd hok hck hkt hU hUj hx1 hx2 hx3 hw5 HLE
      go_wp2_with fail
      rw [HW5.out]
      have HR0 := Lib.hid (HR0.out.below (Below.refl _ _).drew)
      have HS0 := Lib.hid (HS0.out.step (Below.refl _ _).drew)
      clear HW5
      refine wp_region_held_drew (S := Cs12 w #[.int .u64 (t : Int), .slice (some ⟨a, p, none⟩) n cc] #[.int .u64 (ck : Int), .int .i64 (d : Int)] wr.heap.size) (by kernel_rfl) HS0.out (fun hHeld => ?_)
      obtain ⟨wn, hwn⟩ : ∃ W, w5.drew = W := ⟨_, rfl⟩
      rw [hwn] at HR0 hHeld HS0
      rw [hwn]
      obtain ⟨q0, q1, qf⟩ := HR0.out.cells hkn
      have qf0 := qf (k * 2)
      have qf1 := qf (k * 2 + 1)
      clear qf
      have HBS := HS0
      clear hwn
      refine wpAnyH_take (i := 0) (v := ?_) (op_of rfl) (by kernel_rfl) (by kernel_rfl) (by kernel_rfl) (fun _ _ _ h => h) (Or.inl ⟨by rfl, fun W hS => ?_⟩) (by assumption) ?_
      rotate_left
      · try dsimp only at hS
        go_simp
        try with_reducible rfl
      try dsimp only [Act.put]
      try simp only [List.setIfInBounds_toArray, List.set_cons_zero, List.set_cons_succ]
      refine wpAnyH_take (i := 1) (v := ?_) (op_of rfl) (by kernel_rfl) (by kernel_rfl) (by kernel_rfl) (fun _ _ _ h => h) (Or.inl ⟨by rfl, fun W hS => ?_⟩) (by assumption) ?_
      rotate_left
      · try dsimp only at hS
        go_simp
        try with_reducible rfl
      try dsimp only [Act.put]
      try simp only [List.setIfInBounds_toArray, List.set_cons_zero, List.set_cons_succ]
      refine wpAnyH_take (i := 2) (v := ?_) (op_of rfl) (by kernel_rfl) (by kernel_rfl) (by kernel_rfl) (fun _ _ _ h => h) (Or.inl ⟨by rfl, fun W hS => ?_⟩) (by assumption) ?_
      rotate_left
      · try dsimp only at hS
        go_simp
        try with_reducible rfl
      try dsimp only [Act.put]
      try simp only [List.setIfInBounds_toArray, List.set_cons_zero, List.set_cons_succ]
      refine wpAnyH_take (i := 3) (v := ?_) (op_of rfl) (by kernel_rfl) (by kernel_rfl) (by kernel_rfl) (fun _ _ _ h => h) (Or.inl ⟨by rfl, fun W hS => ?_⟩) (by assumption) ?_
      rotate_left
      · try dsimp only at hS
        go_simp
        try with_reducible rfl
      try dsimp only [Act.put]
      try simp only [List.setIfInBounds_toArray, List.set_cons_zero, List.set_cons_succ]
      refine wpAnyH_take (i := 4) (v := ?_) (op_of rfl) (by kernel_rfl) (by kernel_rfl) (by kernel_rfl) (fun _ _ _ h => h) (Or.inl ⟨by rfl, fun W hS => ?_⟩) (by assumption) ?_
      rotate_left
      · try dsimp only at hS
        go_simp
        try with_reducible rfl
      try dsimp only [Act.put]
      try simp only [List.setIfInBounds_toArray, List.set_cons_zero, List.set_cons_succ]
      refine wpAnyH_take (i := 6) (v := ?_) (op_of rfl) (by kernel_rfl) (by kernel_rfl) (by kernel_rfl) (fun _ _ _ h => h) (Or.inl ⟨by rfl, fun W hS => ?_⟩) (by assumption) ?_
      rotate_left
      · try dsimp only at hS
        go_simp
        try with_reducible rfl
      try dsimp only [Act.put]
      try simp only [List.setIfInBounds_toArray, List.set_cons_zero, List.set_cons_succ]
      refine wpAnyH_take (i := 7) (v := ?_) (op_of rfl) (by kernel_rfl) (by kernel_rfl) (by kernel_rfl) (fun _ _ _ h => h) (Or.inl ⟨by rfl, fun W hS => ?_⟩) (by assumption) ?_
      rotate_left
      · try dsimp only at hS
        have z0 := hS.col.cell 0
        go_simp
        try with_reducible rfl
      try dsimp only [Act.put]
      try simp only [List.setIfInBounds_toArray, List.set_cons_zero, List.set_cons_succ]
      refine wpAnyH_ready (rs := [5]) (by kernel_rfl) (by simp) (AllReadyH.cons (op_of rfl) (fun K hK => ?_) AllReadyH.nil)
      go_simp
      refine hK.out _ _ HBS.out (fun hHeld => ?_)
      clear hK K
      try dsimp only [Act.put]
      try simp only [List.setIfInBounds_toArray, List.set_cons_zero, List.set_cons_succ]
      refine wpAnyH_ready (rs := [8]) (by kernel_rfl) (by simp) (AllReadyH.cons (op_of rfl) (fun K hK => ?_) AllReadyH.nil)
      go_simp
      refine (HPL.out wn).mono ?_
      rintro en wn ⟨rfl, hb⟩
      have HBS := Lib.hid (HBS.out.step hb)
      have HR0 := Lib.hid (HR0.out.below hb)
      obtain ⟨q0, q1, qf⟩ := HR0.out.cells hkn
      have qf0 := qf (k * 2)
      have qf1 := qf (k * 2 + 1)
      clear qf
      clear hb
      refine hK.out _ _ HBS.out (fun hHeld => ?_)
      clear hK K
      try dsimp only [Act.put]
      try simp only [List.setIfInBounds_toArray, List.set_cons_zero, List.set_cons_succ]
      refine wpAnyH_take (i := 9) (v := ?_) (op_of rfl) (by kernel_rfl) (by kernel_rfl) (by kernel_rfl) (fun _ _ _ h => h) (Or.inl ⟨by rfl, fun W hS => ?_⟩) (by assumption) ?_
      rotate_left
      · try dsimp only at hS
        go_simp
        try with_reducible rfl
      try dsimp only [Act.put]
      try simp only [List.setIfInBounds_toArray, List.set_cons_zero, List.set_cons_succ]
      refine wpAnyH_ready (rs := [10]) (by kernel_rfl) (by simp) (AllReadyH.cons (op_of rfl) (fun K hK => ?_) AllReadyH.nil)
      have HBS := Lib.hid ((HBS.out.set (p := ⟨w.heap.size + 1, k * 2, none⟩) (by simp) (by simp; omega) (by simp) (.int .u64 ((hi12 x1 : Nat) : Int))).set (p := ⟨w.heap.size + 1, k * 2 + 1, none⟩) (by simp) (by simp; omega) (by simp) (.int .u64 ((lo12 x1 : Nat) : Int)))
      have HR1 := Lib.hid (HR0.out.put hkn x1)
      unfold wv
      go_simp
      refine hK.out _ _ HBS.out (fun hHeld => ?_)
      clear hK K
      try dsimp only [Act.put]
      try simp only [List.setIfInBounds_toArray, List.set_cons_zero, List.set_cons_succ]
      refine wpAnyH_done (by kernel_rfl) ?_ _
      have HS0 := HBS
      have HR0 := HR1
      obtain ⟨w6, hw6⟩ : ∃ W, (wn.setCell ⟨w.heap.size + 1, k * 2, none⟩ (.int .u64 ((hi12 x1 : Nat) : Int))).setCell ⟨w.heap.size + 1, k * 2 + 1, none⟩ (.int .u64 ((lo12 x1 : Nat) : Int)) = W := ⟨_, rfl⟩
      rw [hw6] at HS0 HR0
      clear HBS HR1 hHeld q0 q1 qf0 qf1
      go_wp2_with fail
      rw [hw6]
      have HR0 := Lib.hid (HR0.out.below (Below.refl _ _).drew)
      have HS0 := Lib.hid (HS0.out.step (Below.refl _ _).drew)
      clear hw6
      refine wp_region_held_drew (S := Cs12 w #[.int .u64 (t : Int), .slice (some ⟨a, p, none⟩) n cc] #[.int .u64 (ck : Int), .int .i64 (d : Int)] wr.heap.size) (by kernel_rfl) HS0.out (fun hHeld => ?_)
      obtain ⟨wn, hwn⟩ : ∃ W, w6.drew = W := ⟨_, rfl⟩
      rw [hwn] at HR0 hHeld HS0
      rw [hwn]
      obtain ⟨q0, q1, qf⟩ := HR0.out.cells hdn
      rw [HX2.out] at q0 q1
      have qf0 := qf (d * 2)
      have qf1 := qf (d * 2 + 1)
      clear qf
      have HBS := HS0
      clear hwn
      refine wpAnyH_take (i := 0) (v := ?_) (op_of rfl) (by kernel_rfl) (by kernel_rfl) (by kernel_rfl) (fun _ _ _ h => h) (Or.inl ⟨by rfl, fun W hS => ?_⟩) (by assumption) ?_
      rotate_left
      · try dsimp only at hS
        go_simp
        try with_reducible rfl
      try dsimp only [Act.put]
      try simp only [List.setIfInBounds_toArray, List.set_cons_zero, List.set_cons_succ]
      refine wpAnyH_take (i := 1) (v := ?_) (op_of rfl) (by kernel_rfl) (by kernel_rfl) (by kernel_rfl) (fun _ _ _ h => h) (Or.inl ⟨by rfl, fun W hS => ?_⟩) (by assumption) ?_
      rotate_left
      · try dsimp only at hS
        go_simp
        try with_reducible rfl
      try dsimp only [Act.put]
      try simp only [List.setIfInBounds_toArray, List.set_cons_zero, List.set_cons_succ]
      refine wpAnyH_take (i := 2) (v := ?_) (op_of rfl) (by kernel_rfl) (by kernel_rfl) (by kernel_rfl) (fun _ _ _ h => h) (Or.inl ⟨by rfl, fun W hS => ?_⟩) (by assumption) ?_
      rotate_left
      · try dsimp only at hS
        have z0 := hS.col.cell 1
        go_simp
        try with_reducible rfl
      try dsimp only [Act.put]
      try simp only [List.setIfInBounds_toArray, List.set_cons_zero, List.set_cons_succ]
      refine wpAnyH_take (i := 3) (v := ?_) (op_of rfl) (by kernel_rfl) (by kernel_rfl) (by kernel_rfl) (fun _ _ _ h => h) (Or.inl ⟨by rfl, fun W hS => ?_⟩) (by assumption) ?_
      rotate_left
      · try dsimp only at hS
        go_simp
        try with_reducible rfl
      try dsimp only [Act.put]
      try simp only [List.setIfInBounds_toArray, List.set_cons_zero, List.set_cons_succ]
      refine wpAnyH_take (i := 4) (v := ?_) (op_of rfl) (by kernel_rfl) (by kernel_rfl) (by kernel_rfl) (fun _ _ _ h => h) (Or.inl ⟨by rfl, fun W hS => ?_⟩) (by assumption) ?_
      rotate_left
      · try dsimp only at hS
        go_simp
        try with_reducible rfl
      try dsimp only [Act.put]
      try simp only [List.setIfInBounds_toArray, List.set_cons_zero, List.set_cons_succ]
      refine wpAnyH_take (i := 5) (v := ?_) (op_of rfl) (by kernel_rfl) (by kernel_rfl) (by kernel_rfl) (fun _ _ _ h => h) (Or.inl ⟨by rfl, fun W hS => ?_⟩) (by assumption) ?_
      rotate_left
      · try dsimp only at hS
        have z0 := hS.col.cell 1
        go_simp
        try with_reducible rfl
      try dsimp only [Act.put]
      try simp only [List.setIfInBounds_toArray, List.set_cons_zero, List.set_cons_succ]
      refine wpAnyH_take (i := 6) (v := ?_) (op_of rfl) (by kernel_rfl) (by kernel_rfl) (by kernel_rfl) (fun _ _ _ h => h) (Or.inl ⟨by rfl, fun W hS => ?_⟩) (by assumption) ?_
      rotate_left
      · try dsimp only at hS
        go_simp
        try with_reducible rfl
      try dsimp only [Act.put]
      try simp only [List.setIfInBounds_toArray, List.set_cons_zero, List.set_cons_succ]
      refine wpAnyH_take (i := 8) (v := ?_) (op_of rfl) (by kernel_rfl) (by kernel_rfl) (by kernel_rfl) (fun _ _ _ h => h) (Or.inl ⟨by rfl, fun W hS => ?_⟩) (by assumption) ?_
      rotate_left
      · try dsimp only at hS
        go_simp
        try with_reducible rfl
      try dsimp only [Act.put]
      try simp only [List.setIfInBounds_toArray, List.set_cons_zero, List.set_cons_succ]
      refine wpAnyH_take (i := 9) (v := ?_) (op_of rfl) (by kernel_rfl) (by kernel_rfl) (by kernel_rfl) (fun _ _ _ h => h) (Or.inl ⟨by rfl, fun W hS => ?_⟩) (by assumption) ?_
      rotate_left
      · try dsimp only at hS
        have z0 := hS.tab.cell 0
        go_simp
        try with_reducible rfl
      try dsimp only [Act.put]
      try simp only [List.setIfInBounds_toArray, List.set_cons_zero, List.set_cons_succ]
      refine wpAnyH_take (i := 10) (v := ?_) (op_of rfl) (by kernel_rfl) (by kernel_rfl) (by kernel_rfl) (fun _ _ _ h => h) (Or.inl ⟨by rfl, fun W hS => ?_⟩) (by assumption) ?_
      rotate_left
      · try dsimp only at hS
        go_simp
        try with_reducible rfl
      try dsimp only [Act.put]
      try simp only [List.setIfInBounds_toArray, List.set_cons_zero, List.set_cons_succ]
      refine wpAnyH_take (i := 11) (v := ?_) (op_of rfl) (by kernel_rfl) (by kernel_rfl) (by kernel_rfl) (fun _ _ _ h => h) (Or.inl ⟨by rfl, fun W hS => ?_⟩) (by assumption) ?_
      rotate_left
      · try dsimp only at hS
        have z0 := hS.col.cell 0
        go_simp
        try with_reducible rfl
      try dsimp only [Act.put]
      try simp only [List.setIfInBounds_toArray, List.set_cons_zero, List.set_cons_succ]
      refine wpAnyH_take (i := 12) (v := ?_) (op_of rfl) (by kernel_rfl) (by kernel_rfl) (by kernel_rfl) (fun _ _ _ h => h) (Or.inl ⟨by rfl, fun W hS => ?_⟩) (by assumption) ?_
      rotate_left
      · try dsimp only at hS
        go_simp
        try with_reducible rfl
      try dsimp only [Act.put]
      try simp only [List.setIfInBounds_toArray, List.set_cons_zero, List.set_cons_succ]
      refine wpAnyH_ready (rs := [7]) (by kernel_rfl) (by simp) (AllReadyH.cons (op_of rfl) (fun K hK => ?_) AllReadyH.nil)
      go_simp
      refine hK.out _ _ HBS.out (fun hHeld => ?_)
      clear hK K
      try dsimp only [Act.put]
      try simp only [List.setIfInBounds_toArray, List.set_cons_zero, List.set_cons_succ]
      refine wpAnyH_ready (rs := [13]) (by kernel_rfl) (by simp) (AllReadyH.cons (op_of rfl) (fun K hK => ?_) AllReadyH.nil)
      go_simp
      refine (HPL2.out wn).mono ?_
      rintro en wn ⟨rfl, hb⟩
      have HBS := Lib.hid (HBS.out.step hb)
      have HR0 := Lib.hid (HR0.out.below hb)
      obtain ⟨q0, q1, qf⟩ := HR0.out.cells hdn
      rw [HX2.out] at q0 q1
      have qf0 := qf (d * 2)
      have qf1 := qf (d * 2 + 1)
      clear qf
      clear hb
      refine hK.out _ _ HBS.out (fun hHeld => ?_)
      clear hK K
      try dsimp only [Act.put]
      try simp only [List.setIfInBounds_toArray, List.set_cons_zero, List.set_cons_succ]
      refine wpAnyH_take (i := 14) (v := ?_) (op_of rfl) (by kernel_rfl) (by kernel_rfl) (by kernel_rfl) (fun _ _ _ h => h) (Or.inl ⟨by rfl, fun W hS => ?_⟩) (by assumption) ?_
      rotate_left
      · try dsimp only at hS
        go_simp
        try with_reducible rfl
      try dsimp only [Act.put]
      try simp only [List.setIfInBounds_toArray, List.set_cons_zero, List.set_cons_succ]
      refine wpAnyH_ready (rs := [15]) (by kernel_rfl) (by simp) (AllReadyH.cons (op_of rfl) (fun K hK => ?_) AllReadyH.nil)
      have HBS := Lib.hid ((HBS.out.set (p := ⟨w.heap.size + 1, d * 2, none⟩) (by simp) (by simp; omega) (by simp) (.int .u64 ((hi12 x3 : Nat) : Int))).set (p := ⟨w.heap.size + 1, d * 2 + 1, none⟩) (by simp) (by simp; omega) (by simp) (.int .u64 ((lo12 x3 : Nat) : Int)))
      have HR1 := Lib.hid (HR0.out.put hdn x3)
      unfold wv
      go_simp
      refine hK.out _ _ HBS.out (fun hHeld => ?_)
      clear hK K
      try dsimp only [Act.put]
      try simp only [List.setIfInBounds_toArray, List.set_cons_zero, List.set_cons_succ]
      refine wpAnyH_done (by kernel_rfl) ?_ _
      go_wp2_with fail
      go_roundw
      case rel => exact ⟨k + 1, by go_num, by omega, Lib.hid (HR1.out.congr HU.out), Lib.hid HBS.out.tab, Lib.hid HBS.out.below⟩
      case measure => simp [intOf]; omega
    · obtain rfl : k = n := by omega
      go_wp2_with fail
      go_ret
      exact ⟨w.heap.size + 1, rfl, by omega, HQ.out, HBR.out⟩
end Go.Proofs.Ytcanahjilfnijaa
