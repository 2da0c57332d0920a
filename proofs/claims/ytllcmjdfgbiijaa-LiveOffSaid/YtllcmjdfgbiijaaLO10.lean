/-
  SaidLiveOff, part 10 of 15: what the theorem liveOff_holds reaches.
-/
import Derived.Test.YtllcmjdfgbiijaaLO9
namespace Go.Proofs.Ytllcmjdfgbiijaa
open Go.RowKit Go.Shelf
attribute [local go_sem] Oper.semAt_some
set_option maxRecDepth 100000
theorem By16.kept17 {w : World} {S : Sv14} {A0 A1 A2 A3 A4 : Option Addr} {n0 n1 n2 n3 n4 c0 c1 c2 c3 c4 : Nat} {sq : Int} {X Y : World} {row : Option Nat} (h : By16 w S A0 A1 A2 A3 A4 n0 n1 n2 n3 n4 c0 c1 c2 c3 c4 sq X) (hg : X.grownBy Y row) {C : Nat} (hC : w.heap.size ≤ C)
    (hr : ∀ r, row = some r → C ≤ r ∧ ∃ o : Obj, X.heap[r]? = some o ∧ o.isCells = false) : By16 w S A0 A1 A2 A3 A4 n0 n1 n2 n3 n4 c0 c1 c2 c3 c4 sq Y := by
  have hB : Below w.heap.size w Y := h.b.b.grown hg h.b.b.size (fun r e => by have := (hr r e).1; omega)
  exact ⟨⟨hB, blk11_kept h.b.x hg (fun r e => (hr r e).2), h.s.step hB⟩, h.s⟩
theorem bb17_kept {w w' : World} {g n : Nat} {M : Nat → Bool} {row : Option Nat} (h : Bb13 w g n M) (hg : w.grownBy w' row) (hr : ∀ r, row = some r → ∃ o : Obj, w.heap[r]? = some o ∧ o.isCells = false) : Bb13 w' g n M := by
  obtain ⟨cs, h1, h2⟩ := h
  exact ⟨cs, blk11_kept h1 hg hr, h2⟩
theorem ib17_kept {w w' : World} {g n : Nat} {M : Nat → Nat} {row : Option Nat} (h : Ib13 w g n M) (hg : w.grownBy w' row) (hr : ∀ r, row = some r → ∃ o : Obj, w.heap[r]? = some o ∧ o.isCells = false) : Ib13 w' g n M := by
  obtain ⟨cs, h1, h2⟩ := h
  exact ⟨cs, blk11_kept h1 hg hr, h2⟩
theorem ib17_blk {w : World} {g n h : Nat} {t : TypeId} {M : Nat → Nat} {cs : Array Value} (q : Ib13 w g n M) (hb : Blk w h t cs) (ht : 3 ≠ t) : g ≠ h := by
  obtain ⟨es, h1, _⟩ := q
  exact blk_ne12 h1 hb ht
theorem bb17_blk {w : World} {g n h : Nat} {t : TypeId} {M : Nat → Bool} {cs : Array Value} (q : Bb13 w g n M) (hb : Blk w h t cs) (ht : 4 ≠ t) : g ≠ h := by
  obtain ⟨es, h1, _⟩ := q
  exact blk_ne12 h1 hb ht
theorem bb17_ib {w : World} {g h n m : Nat} {M : Nat → Bool} {N : Nat → Nat} (q : Bb13 w g n M) (r : Ib13 w h m N) : g ≠ h := by
  obtain ⟨es, h1, _⟩ := r
  exact bb17_blk q h1 (by decide)
theorem made_i17 (W : World) (n : Nat) : Ib13 (W.alloc (.cells (madeCells #[.int .i64 0] n) 3)) W.heap.size n (fun _ => 0) := by
  obtain ⟨cs, h1, h2, h3⟩ := made13 W 3 n (.int .i64 0)
  exact ⟨cs, h1, by omega, h3⟩
theorem made_b17 (W : World) (n : Nat) : Bb13 (W.alloc (.cells (madeCells #[.bool false] n) 4)) W.heap.size n (fun _ => false) := made13 W 4 n (.bool false)
/-- A boxed state, the sums' variable, and their two lists. -/
structure Su17 (w : World) (S : Sv14) (A0 A1 A2 A3 A4 : Option Addr) (n0 n1 n2 n3 n4 c0 c1 c2 c3 c4 : Nat) (sq : Int) (gb g1 g2 : Nat) (M : Nat → Bool) (Am : Nat → Nat) (W : World) : Prop where
  b : By16 w S A0 A1 A2 A3 A4 n0 n1 n2 n3 n4 c0 c1 c2 c3 c4 sq W
  o : Blk W (w.heap.size + 1) 45 #[.slice none 0 0, .slice none 0 0]
  v : Blk W gb 45 #[.slice (some ⟨g1, 0, none⟩) n1 n1, .slice (some ⟨g2, 0, none⟩) n0 n0]
  r1 : Bb13 W g1 n1 M
  r2 : Ib13 W g2 n0 Am
  fb : w.heap.size + 2 ≤ gb
  f1 : w.heap.size + 2 ≤ g1
  f2 : w.heap.size + 2 ≤ g2
theorem Su17.step {w : World} {S : Sv14} {A0 A1 A2 A3 A4 : Option Addr} {n0 n1 n2 n3 n4 c0 c1 c2 c3 c4 : Nat} {sq : Int} {gb g1 g2 : Nat} {M : Nat → Bool} {Am : Nat → Nat} {W W' : World} (h : Su17 w S A0 A1 A2 A3 A4 n0 n1 n2 n3 n4 c0 c1 c2 c3 c4 sq gb g1 g2 M Am W) (hb : Below W.heap.size W W') : Su17 w S A0 A1 A2 A3 A4 n0 n1 n2 n3 n4 c0 c1 c2 c3 c4 sq gb g1 g2 M Am W' :=
  ⟨h.b.step hb, h.o.below hb h.o.lt, h.v.below hb h.v.lt, h.r1.step hb, h.r2.below hb h.r2.lt, h.fb, h.f1, h.f2⟩
theorem Su17.ne {w : World} {S : Sv14} {A0 A1 A2 A3 A4 : Option Addr} {n0 n1 n2 n3 n4 c0 c1 c2 c3 c4 : Nat} {sq : Int} {gb g1 g2 : Nat} {M : Nat → Bool} {Am : Nat → Nat} {W : World} (h : Su17 w S A0 A1 A2 A3 A4 n0 n1 n2 n3 n4 c0 c1 c2 c3 c4 sq gb g1 g2 M Am W) : g1 ≠ g2 ∧ g1 ≠ gb ∧ g2 ≠ gb := ⟨bb17_ib h.r1 h.r2, bb17_blk h.r1 h.v (by decide), ib17_blk h.r2 h.v (by decide)⟩
theorem Su17.kept {w : World} {S : Sv14} {A0 A1 A2 A3 A4 : Option Addr} {n0 n1 n2 n3 n4 c0 c1 c2 c3 c4 : Nat} {sq : Int} {gb g1 g2 : Nat} {M : Nat → Bool} {Am : Nat → Nat} {X Y : World} {row : Option Nat} (h : Su17 w S A0 A1 A2 A3 A4 n0 n1 n2 n3 n4 c0 c1 c2 c3 c4 sq gb g1 g2 M Am X) (hg : X.grownBy Y row) {C : Nat} (hC : w.heap.size ≤ C)
    (hr : ∀ r, row = some r → C ≤ r ∧ ∃ o : Obj, X.heap[r]? = some o ∧ o.isCells = false) : Su17 w S A0 A1 A2 A3 A4 n0 n1 n2 n3 n4 c0 c1 c2 c3 c4 sq gb g1 g2 M Am Y := by
  have hr2 : ∀ r, row = some r → ∃ o : Obj, X.heap[r]? = some o ∧ o.isCells = false := fun r e => (hr r e).2
  exact ⟨h.b.kept17 hg hC hr, blk11_kept h.o hg hr2, blk11_kept h.v hg hr2, bb17_kept h.r1 hg hr2, ib17_kept h.r2 hg hr2, h.fb, h.f1, h.f2⟩
theorem Su17.turn {w : World} {S : Sv14} {A0 A1 A2 A3 A4 : Option Addr} {n0 n1 n2 n3 n4 c0 c1 c2 c3 c4 : Nat} {sq : Int} {gb g1 g2 : Nat} {M M' : Nat → Bool} {Am Am' : Nat → Nat} {W W' : World} (h : Su17 w S A0 A1 A2 A3 A4 n0 n1 n2 n3 n4 c0 c1 c2 c3 c4 sq gb g1 g2 M Am W) (hk : Bk13 w.heap.size g1 (some g2) W W') (h1 : Bb13 W' g1 n1 M') (h2 : Ib13 W' g2 n0 Am') : Su17 w S A0 A1 A2 A3 A4 n0 n1 n2 n3 n4 c0 c1 c2 c3 c4 sq gb g1 g2 M' Am' W' := by
  have hne := h.ne
  have hf1 := h.f1
  have hf2 := h.f2
  have hB : Below w.heap.size w W' := h.b.b.b.trans hk.below
  exact ⟨⟨⟨hB, hk.blk h.b.b.x (by omega) (by simp; omega), h.b.s.step hB⟩, h.b.s⟩, hk.blk h.o (by omega) (by simp; omega), hk.blk h.v (fun e => hne.2.1 e.symm) (by simp; exact fun e => hne.2.2 e.symm), h1, h2, h.fb, h.f1, h.f2⟩
/-- What summed says. -/
def RetSu17 (w : World) (S : Sv14) (e : Ending) (w' : World) : Prop := ∃ g1 g2, e = .returned (.agg #[.slice (some ⟨g1, 0, none⟩) S.T.length S.T.length, .slice (some ⟨g2, 0, none⟩) S.C.length S.C.length]) ∧ w.heap.size ≤ g1 ∧ w.heap.size ≤ g2 ∧ Bb13 w' g1 S.T.length (cntb17 S) ∧ Ib13 w' g2 S.C.length (fun x => amn17 S ((x : Nat) : Int)) ∧ Below w.heap.size w w'
/-- The operations of a region of a function's body. -/
def regionOf17 : Code → Nat → Option (Array Oper)
  | .region id ops _, n => if id = n then some ops else none
  | .seq x y, n => (regionOf17 x n).orElse fun _ => regionOf17 y n
  | .cond _ x y, n => (regionOf17 x n).orElse fun _ => regionOf17 y n
  | .block _ x, n => regionOf17 x n
  | .loop x, n => regionOf17 x n
  | _, _ => none
def ops17bs : { o : Array Oper // (match Go.Func.body Try.f28 with | some c => regionOf17 c 1 | none => none) = some o } := ⟨_, rfl⟩
def ops17b : Array Oper := ops17bs.1
section
variable {t0 t1 t2 t3 t4 t5 t6 t7 t8 t9 t10 t11 t12 t13 t14 t15 t16 t17 t18 t19 t20 t21 t22 t23 t24 : Value}
variable {Q : Exit → Act → World → Prop}
set_option maxHeartbeats 8000000 in
theorem made17 {w wc : World} {S : Sv14} {A0 A1 A2 A3 A4 : Option Addr} {n0 n1 n2 n3 n4 c0 c1 c2 c3 c4 : Nat} {sq : Int} (hm0 : n0 ≤ 1000) (hm1 : n1 ≤ 1000) (hb : By16 w S A0 A1 A2 A3 A4 n0 n1 n2 n3 n4 c0 c1 c2 c3 c4 sq wc) (ho : Blk wc (w.heap.size + 1) 45 #[.slice none 0 0, .slice none 0 0])
    (hP : ∀ c a d v w, Q (.panic c) (Act.put a (some d) v) w → Q (.panic c) a w)
    (hQ : ∀ (x6 x7 x8 x9 x10 x11 x12 x13 x14 : Value) (wn : World) (gb g1 g2 : Nat), Su17 w S A0 A1 A2 A3 A4 n0 n1 n2 n3 n4 c0 c1 c2 c3 c4 sq gb g1 g2 (fun _ => false) (fun _ => 0) wn → Q .normal { tmps := #[(.agg #[.slice A0 n0 c0, .slice A1 n1 c1, .slice A2 n2 c2, .slice A3 n3 c3, .slice A4 n4 c4, .int .i64 sq]), .pointer (some ⟨w.heap.size, 0, none⟩), .pointer (some ⟨w.heap.size + 1, 0, none⟩), .pointer (some ⟨gb, 0, none⟩), t4, t5, x6, x7, x8, x9, x10, x11, x12, x13, x14, t15, t16, t17, t18, t19, t20, t21, t22, t23, t24], defers := [] } wn) :
    (Code.region 1 ops17b true).wp Try.prog Q { tmps := #[(.agg #[.slice A0 n0 c0, .slice A1 n1 c1, .slice A2 n2 c2, .slice A3 n3 c3, .slice A4 n4 c4, .int .i64 sq]), .pointer (some ⟨w.heap.size, 0, none⟩), .pointer (some ⟨w.heap.size + 1, 0, none⟩), t3, t4, t5, t6, t7, t8, t9, t10, t11, t12, t13, t14, t15, t16, t17, t18, t19, t20, t21, t22, t23, t24], defers := [] } wc := by
  have hmk1 := make_bools13 n1 (by omega)
  have hmk2 := make_ints13 n0 (by omega)
  have HXN := Lib.hid (hb.step (Below.refl _ _).drew)
  have HR := Lib.hid (ho.below (Below.refl wc.heap.size wc).drew ho.lt)
  clear hb ho hm0 hm1
  refine wp_region_held_drew (S := By16 w S A0 A1 A2 A3 A4 n0 n1 n2 n3 n4 c0 c1 c2 c3 c4 sq) (by kernel_rfl) HXN.out (fun hHeld => ?_)
  change wpAnyH _ _ ops17b _ _ 11 #[false, false, false, false, false, false, false, false, false, false, false] _ _
  obtain ⟨wn, hwn⟩ : ∃ W, wc.drew = W := ⟨_, rfl⟩
  rw [hwn] at HXN HR hHeld
  rw [hwn]
  clear hwn
  have HBS := HXN
  refine tkp hP 0 (v := ?_) (fun W hS => ?_) ?_
  rotate_left
  · (go_simp; try with_reducible rfl)
  (try dsimp only [Act.put]); try simp only [pt1, pt2, pt3]
  refine tkp hP 1 (v := ?_) (fun W hS => ?_) ?_
  rotate_left
  · try dsimp only at hS
    have z0 := hS.b.x.cell 1
    go_simp
    try with_reducible rfl
  (try dsimp only [Act.put]); try simp only [pt1, pt2, pt3]
  refine tkp hP 2 (v := ?_) (fun W hS => ?_) ?_
  rotate_left
  · (go_simp; try with_reducible rfl)
  (try dsimp only [Act.put]); try simp only [pt1, pt2, pt3]
  refine tkp hP 4 (v := ?_) (fun W hS => ?_) ?_
  rotate_left
  · (go_simp; try with_reducible rfl)
  (try dsimp only [Act.put]); try simp only [pt1, pt2, pt3]
  refine tkp hP 5 (v := ?_) (fun W hS => ?_) ?_
  rotate_left
  · try dsimp only at hS
    have z0 := hS.b.x.cell 0
    go_simp
    try with_reducible rfl
  (try dsimp only [Act.put]); try simp only [pt1, pt2, pt3]
  refine tkp hP 6 (v := ?_) (fun W hS => ?_) ?_
  rotate_left
  · (go_simp; try with_reducible rfl)
  (try dsimp only [Act.put]); try simp only [pt1, pt2, pt3]
  refine wpAnyH_ready (rs := [3, 7, 9]) (by kernel_rfl) (by simp) (AllReadyH.cons (op_of rfl) (fun K hK => ?_) (AllReadyH.cons (op_of rfl) (fun K hK => ?_) (AllReadyH.cons (op_of rfl) (fun K hK => ?_) AllReadyH.nil)))
  · skip
    have HBS0 := HBS
    have hbz := b1' wn (.cells (madeCells #[.bool false] n1) 4)
    have HBS := Lib.hid (HBS0.out.step hbz)
    have HM1 := Lib.hid (made_b17 wn n1)
    have HFg1 : Hid (w.heap.size + 2 ≤ wn.heap.size) := Lib.hid (by have := HR.out.lt; omega)
    have HR := Lib.hid (HR.out.below hbz HR.out.lt)
    clear hbz HBS0
    obtain ⟨g1, hg1⟩ : ∃ k, wn.heap.size = k := ⟨_, rfl⟩
    obtain ⟨wm, hwm⟩ : ∃ W, wn.alloc (.cells (madeCells #[.bool false] n1) 4) = W := ⟨_, rfl⟩
    rw [hwm] at HBS HR HM1
    rw [hg1] at HM1 HFg1
    go_simp
    clear hg1 hwm
    obtain ⟨wn, hwn⟩ : ∃ W, W = wm := ⟨_, rfl⟩
    subst hwn
    refine hK.out _ _ HBS.out (fun hHeld => ?_)
    clear hK K
    (try dsimp only [Act.put]); try simp only [pt1, pt2, pt3]
    refine wpAnyH_ready (rs := [7, 9]) (by kernel_rfl) (by simp) (AllReadyH.cons (op_of rfl) (fun K hK => ?_) (AllReadyH.cons (op_of rfl) (fun K hK => ?_) AllReadyH.nil))
    · skip
      have HBS0 := HBS
      have hbz := b1' wn (.cells (madeCells #[.int .i64 0] n0) 3)
      have HBS := Lib.hid (HBS0.out.step hbz)
      have HM2 := Lib.hid (made_i17 wn n0)
      have HFg2 : Hid (w.heap.size + 2 ≤ wn.heap.size) := Lib.hid (by have := HR.out.lt; omega)
      have HR := Lib.hid (HR.out.below hbz HR.out.lt)
      have HM1 := Lib.hid (HM1.out.step hbz)
      clear hbz HBS0
      obtain ⟨g2, hg2⟩ : ∃ k, wn.heap.size = k := ⟨_, rfl⟩
      obtain ⟨wm, hwm⟩ : ∃ W, wn.alloc (.cells (madeCells #[.int .i64 0] n0) 3) = W := ⟨_, rfl⟩
      rw [hwm] at HBS HR HM2 HM1
      rw [hg2] at HM2 HFg2
      go_simp
      clear hg2 hwm
      obtain ⟨wn, hwn⟩ : ∃ W, W = wm := ⟨_, rfl⟩
      subst hwn
      refine hK.out _ _ HBS.out (fun hHeld => ?_)
      clear hK K
      (try dsimp only [Act.put]); try simp only [pt1, pt2, pt3]
      refine tkp hP 8 (v := ?_) (fun W hS => ?_) ?_
      rotate_left
      · (go_simp; try with_reducible rfl)
      (try dsimp only [Act.put]); try simp only [pt1, pt2, pt3]
      refine rdy 9 (fun K hK => ?_)
      have HBS0 := HBS
      have hbz := b1' wn (.cells #[.slice none 0 0, .slice none 0 0] 45)
      have HBS := Lib.hid (HBS0.out.step hbz)
      have HV := Lib.hid (Blk.new wn 45 #[.slice none 0 0, .slice none 0 0])
      have HFgb : Hid (w.heap.size + 2 ≤ wn.heap.size) := Lib.hid (by have := HR.out.lt; omega)
      have HR := Lib.hid (HR.out.below hbz HR.out.lt)
      have HM1 := Lib.hid (HM1.out.step hbz)
      have HM2 := Lib.hid (HM2.out.below hbz HM2.out.lt)
      clear hbz HBS0
      obtain ⟨gb, hgb⟩ : ∃ k, wn.heap.size = k := ⟨_, rfl⟩
      obtain ⟨wm, hwm⟩ : ∃ W, wn.alloc (.cells #[.slice none 0 0, .slice none 0 0] 45) = W := ⟨_, rfl⟩
      rw [hwm] at HBS HR HV HM1 HM2
      rw [hgb] at HV HFgb
      go_simp
      clear hgb hwm
      obtain ⟨wn, hwn⟩ : ∃ W, W = wm := ⟨_, rfl⟩
      subst hwn
      refine hK.out _ _ HBS.out (fun hHeld => ?_)
      clear hK K
      (try dsimp only [Act.put]); try simp only [pt1, pt2, pt3]
      refine rdy 10 (fun K hK => ?_)
      have x0 := HV.out.cell 0
      have x1 := HV.out.cell 1
      have xf0 := HV.out.frozen 0
      have xf1 := HV.out.frozen 1
      have HBS0 := HBS
      go_simp
      obtain ⟨wm, hwm⟩ : ∃ W, (wn.setCell ⟨gb, 0, none⟩ (.slice (some ⟨g1, 0, none⟩) n1 n1)).setCell ⟨gb, 1, none⟩ (.slice (some ⟨g2, 0, none⟩) n0 n0) = W := ⟨_, rfl⟩
      have hn1 := bb17_blk HM1.out HV.out (by decide)
      have hn2 := ib17_blk HM2.out HV.out (by decide)
      have HM1 := Lib.hid (show Bb13 wm g1 n1 _ by rw [← hwm]; exact (HM1.out.far17 hn1 _).far17 hn1 _)
      have HM2 := Lib.hid (show Ib13 wm g2 n0 _ by rw [← hwm]; exact (HM2.out.far hn2 _).far hn2 _)
      have HR := Lib.hid (show Blk wm (w.heap.size + 1) 45 _ by rw [← hwm]; exact (HR.out.far (by have := HFgb.out; simp; omega) _).far (by have := HFgb.out; simp; omega) _)
      have HBS := Lib.hid (HBS0.out.low (W' := wm) (by rw [← hwm]; exact ((Below.refl _ _).setCell (by have := HFgb.out; simp; omega) _).setCell (by have := HFgb.out; simp; omega) _))
      have HV := Lib.hid (show Blk wm gb 45 #[.slice (some ⟨g1, 0, none⟩) n1 n1, .slice (some ⟨g2, 0, none⟩) n0 n0] by rw [← hwm]; simpa using (HV.out.set_ 0 (.slice (some ⟨g1, 0, none⟩) n1 n1)).set_ 1 (.slice (some ⟨g2, 0, none⟩) n0 n0))
      rw [hwm]
      clear hwm x0 x1 xf0 xf1 hn1 hn2 HBS0
      obtain ⟨wn, hwn⟩ : ∃ W, W = wm := ⟨_, rfl⟩
      subst hwn
      refine hK.out _ _ HBS.out (fun hHeld => ?_)
      clear hK K
      (try dsimp only [Act.put]); try simp only [pt1, pt2, pt3]
      refine wpAnyH_done (by kernel_rfl) ?_ _
      clear hHeld
      exact hQ _ _ _ _ _ _ _ _ _ _ gb g1 g2 ⟨HBS.out, HR.out, HV.out, HM1.out, HM2.out, HFgb.out, HFg1.out, HFg2.out⟩
    · skip
      have HBS0 := HBS
      have hbz := b1' wn (.cells #[.slice none 0 0, .slice none 0 0] 45)
      have HBS := Lib.hid (HBS0.out.step hbz)
      have HV := Lib.hid (Blk.new wn 45 #[.slice none 0 0, .slice none 0 0])
      have HFgb : Hid (w.heap.size + 2 ≤ wn.heap.size) := Lib.hid (by have := HR.out.lt; omega)
      have HR := Lib.hid (HR.out.below hbz HR.out.lt)
      have HM1 := Lib.hid (HM1.out.step hbz)
      clear hbz HBS0
      obtain ⟨gb, hgb⟩ : ∃ k, wn.heap.size = k := ⟨_, rfl⟩
      obtain ⟨wm, hwm⟩ : ∃ W, wn.alloc (.cells #[.slice none 0 0, .slice none 0 0] 45) = W := ⟨_, rfl⟩
      rw [hwm] at HBS HR HV HM1
      rw [hgb] at HV HFgb
      go_simp
      clear hgb hwm
      obtain ⟨wn, hwn⟩ : ∃ W, W = wm := ⟨_, rfl⟩
      subst hwn
      refine hK.out _ _ HBS.out (fun hHeld => ?_)
      clear hK K
      (try dsimp only [Act.put]); try simp only [pt1, pt2, pt3]
      refine rdy 7 (fun K hK => ?_)
      have HBS0 := HBS
      have hbz := b1' wn (.cells (madeCells #[.int .i64 0] n0) 3)
      have HBS := Lib.hid (HBS0.out.step hbz)
      have HM2 := Lib.hid (made_i17 wn n0)
      have HFg2 : Hid (w.heap.size + 2 ≤ wn.heap.size) := Lib.hid (by have := HR.out.lt; omega)
      have HR := Lib.hid (HR.out.below hbz HR.out.lt)
      have HM1 := Lib.hid (HM1.out.step hbz)
      have HV := Lib.hid (HV.out.below hbz HV.out.lt)
      clear hbz HBS0
      obtain ⟨g2, hg2⟩ : ∃ k, wn.heap.size = k := ⟨_, rfl⟩
      obtain ⟨wm, hwm⟩ : ∃ W, wn.alloc (.cells (madeCells #[.int .i64 0] n0) 3) = W := ⟨_, rfl⟩
      rw [hwm] at HBS HR HM2 HM1 HV
      rw [hg2] at HM2 HFg2
      go_simp
      clear hg2 hwm
      obtain ⟨wn, hwn⟩ : ∃ W, W = wm := ⟨_, rfl⟩
      subst hwn
      refine hK.out _ _ HBS.out (fun hHeld => ?_)
      clear hK K
      (try dsimp only [Act.put]); try simp only [pt1, pt2, pt3]
      refine tkp hP 8 (v := ?_) (fun W hS => ?_) ?_
      rotate_left
      · (go_simp; try with_reducible rfl)
      (try dsimp only [Act.put]); try simp only [pt1, pt2, pt3]
      refine rdy 10 (fun K hK => ?_)
      have x0 := HV.out.cell 0
      have x1 := HV.out.cell 1
      have xf0 := HV.out.frozen 0
      have xf1 := HV.out.frozen 1
      have HBS0 := HBS
      go_simp
      obtain ⟨wm, hwm⟩ : ∃ W, (wn.setCell ⟨gb, 0, none⟩ (.slice (some ⟨g1, 0, none⟩) n1 n1)).setCell ⟨gb, 1, none⟩ (.slice (some ⟨g2, 0, none⟩) n0 n0) = W := ⟨_, rfl⟩
      have hn1 := bb17_blk HM1.out HV.out (by decide)
      have hn2 := ib17_blk HM2.out HV.out (by decide)
      have HM1 := Lib.hid (show Bb13 wm g1 n1 _ by rw [← hwm]; exact (HM1.out.far17 hn1 _).far17 hn1 _)
      have HM2 := Lib.hid (show Ib13 wm g2 n0 _ by rw [← hwm]; exact (HM2.out.far hn2 _).far hn2 _)
      have HR := Lib.hid (show Blk wm (w.heap.size + 1) 45 _ by rw [← hwm]; exact (HR.out.far (by have := HFgb.out; simp; omega) _).far (by have := HFgb.out; simp; omega) _)
      have HBS := Lib.hid (HBS0.out.low (W' := wm) (by rw [← hwm]; exact ((Below.refl _ _).setCell (by have := HFgb.out; simp; omega) _).setCell (by have := HFgb.out; simp; omega) _))
      have HV := Lib.hid (show Blk wm gb 45 #[.slice (some ⟨g1, 0, none⟩) n1 n1, .slice (some ⟨g2, 0, none⟩) n0 n0] by rw [← hwm]; simpa using (HV.out.set_ 0 (.slice (some ⟨g1, 0, none⟩) n1 n1)).set_ 1 (.slice (some ⟨g2, 0, none⟩) n0 n0))
      rw [hwm]
      clear hwm x0 x1 xf0 xf1 hn1 hn2 HBS0
      obtain ⟨wn, hwn⟩ : ∃ W, W = wm := ⟨_, rfl⟩
      subst hwn
      refine hK.out _ _ HBS.out (fun hHeld => ?_)
      clear hK K
      (try dsimp only [Act.put]); try simp only [pt1, pt2, pt3]
      refine wpAnyH_done (by kernel_rfl) ?_ _
      clear hHeld
      exact hQ _ _ _ _ _ _ _ _ _ _ gb g1 g2 ⟨HBS.out, HR.out, HV.out, HM1.out, HM2.out, HFgb.out, HFg1.out, HFg2.out⟩
  · skip
    have HBS0 := HBS
    have hbz := b1' wn (.cells (madeCells #[.int .i64 0] n0) 3)
    have HBS := Lib.hid (HBS0.out.step hbz)
    have HM2 := Lib.hid (made_i17 wn n0)
    have HFg2 : Hid (w.heap.size + 2 ≤ wn.heap.size) := Lib.hid (by have := HR.out.lt; omega)
    have HR := Lib.hid (HR.out.below hbz HR.out.lt)
    clear hbz HBS0
    obtain ⟨g2, hg2⟩ : ∃ k, wn.heap.size = k := ⟨_, rfl⟩
    obtain ⟨wm, hwm⟩ : ∃ W, wn.alloc (.cells (madeCells #[.int .i64 0] n0) 3) = W := ⟨_, rfl⟩
    rw [hwm] at HBS HR HM2
    rw [hg2] at HM2 HFg2
    go_simp
    clear hg2 hwm
    obtain ⟨wn, hwn⟩ : ∃ W, W = wm := ⟨_, rfl⟩
    subst hwn
    refine hK.out _ _ HBS.out (fun hHeld => ?_)
    clear hK K
    (try dsimp only [Act.put]); try simp only [pt1, pt2, pt3]
    refine wpAnyH_ready (rs := [3, 9]) (by kernel_rfl) (by simp) (AllReadyH.cons (op_of rfl) (fun K hK => ?_) (AllReadyH.cons (op_of rfl) (fun K hK => ?_) AllReadyH.nil))
    · skip
      have HBS0 := HBS
      have hbz := b1' wn (.cells (madeCells #[.bool false] n1) 4)
      have HBS := Lib.hid (HBS0.out.step hbz)
      have HM1 := Lib.hid (made_b17 wn n1)
      have HFg1 : Hid (w.heap.size + 2 ≤ wn.heap.size) := Lib.hid (by have := HR.out.lt; omega)
      have HR := Lib.hid (HR.out.below hbz HR.out.lt)
      have HM2 := Lib.hid (HM2.out.below hbz HM2.out.lt)
      clear hbz HBS0
      obtain ⟨g1, hg1⟩ : ∃ k, wn.heap.size = k := ⟨_, rfl⟩
      obtain ⟨wm, hwm⟩ : ∃ W, wn.alloc (.cells (madeCells #[.bool false] n1) 4) = W := ⟨_, rfl⟩
      rw [hwm] at HBS HR HM1 HM2
      rw [hg1] at HM1 HFg1
      go_simp
      clear hg1 hwm
      obtain ⟨wn, hwn⟩ : ∃ W, W = wm := ⟨_, rfl⟩
      subst hwn
      refine hK.out _ _ HBS.out (fun hHeld => ?_)
      clear hK K
      (try dsimp only [Act.put]); try simp only [pt1, pt2, pt3]
      refine tkp hP 8 (v := ?_) (fun W hS => ?_) ?_
      rotate_left
      · (go_simp; try with_reducible rfl)
      (try dsimp only [Act.put]); try simp only [pt1, pt2, pt3]
      refine rdy 9 (fun K hK => ?_)
      have HBS0 := HBS
      have hbz := b1' wn (.cells #[.slice none 0 0, .slice none 0 0] 45)
      have HBS := Lib.hid (HBS0.out.step hbz)
      have HV := Lib.hid (Blk.new wn 45 #[.slice none 0 0, .slice none 0 0])
      have HFgb : Hid (w.heap.size + 2 ≤ wn.heap.size) := Lib.hid (by have := HR.out.lt; omega)
      have HR := Lib.hid (HR.out.below hbz HR.out.lt)
      have HM1 := Lib.hid (HM1.out.step hbz)
      have HM2 := Lib.hid (HM2.out.below hbz HM2.out.lt)
      clear hbz HBS0
      obtain ⟨gb, hgb⟩ : ∃ k, wn.heap.size = k := ⟨_, rfl⟩
      obtain ⟨wm, hwm⟩ : ∃ W, wn.alloc (.cells #[.slice none 0 0, .slice none 0 0] 45) = W := ⟨_, rfl⟩
      rw [hwm] at HBS HR HV HM1 HM2
      rw [hgb] at HV HFgb
      go_simp
      clear hgb hwm
      obtain ⟨wn, hwn⟩ : ∃ W, W = wm := ⟨_, rfl⟩
      subst hwn
      refine hK.out _ _ HBS.out (fun hHeld => ?_)
      clear hK K
      (try dsimp only [Act.put]); try simp only [pt1, pt2, pt3]
      refine rdy 10 (fun K hK => ?_)
      have x0 := HV.out.cell 0
      have x1 := HV.out.cell 1
      have xf0 := HV.out.frozen 0
      have xf1 := HV.out.frozen 1
      have HBS0 := HBS
      go_simp
      obtain ⟨wm, hwm⟩ : ∃ W, (wn.setCell ⟨gb, 0, none⟩ (.slice (some ⟨g1, 0, none⟩) n1 n1)).setCell ⟨gb, 1, none⟩ (.slice (some ⟨g2, 0, none⟩) n0 n0) = W := ⟨_, rfl⟩
      have hn1 := bb17_blk HM1.out HV.out (by decide)
      have hn2 := ib17_blk HM2.out HV.out (by decide)
      have HM1 := Lib.hid (show Bb13 wm g1 n1 _ by rw [← hwm]; exact (HM1.out.far17 hn1 _).far17 hn1 _)
      have HM2 := Lib.hid (show Ib13 wm g2 n0 _ by rw [← hwm]; exact (HM2.out.far hn2 _).far hn2 _)
      have HR := Lib.hid (show Blk wm (w.heap.size + 1) 45 _ by rw [← hwm]; exact (HR.out.far (by have := HFgb.out; simp; omega) _).far (by have := HFgb.out; simp; omega) _)
      have HBS := Lib.hid (HBS0.out.low (W' := wm) (by rw [← hwm]; exact ((Below.refl _ _).setCell (by have := HFgb.out; simp; omega) _).setCell (by have := HFgb.out; simp; omega) _))
      have HV := Lib.hid (show Blk wm gb 45 #[.slice (some ⟨g1, 0, none⟩) n1 n1, .slice (some ⟨g2, 0, none⟩) n0 n0] by rw [← hwm]; simpa using (HV.out.set_ 0 (.slice (some ⟨g1, 0, none⟩) n1 n1)).set_ 1 (.slice (some ⟨g2, 0, none⟩) n0 n0))
      rw [hwm]
      clear hwm x0 x1 xf0 xf1 hn1 hn2 HBS0
      obtain ⟨wn, hwn⟩ : ∃ W, W = wm := ⟨_, rfl⟩
      subst hwn
      refine hK.out _ _ HBS.out (fun hHeld => ?_)
      clear hK K
      (try dsimp only [Act.put]); try simp only [pt1, pt2, pt3]
      refine wpAnyH_done (by kernel_rfl) ?_ _
      clear hHeld
      exact hQ _ _ _ _ _ _ _ _ _ _ gb g1 g2 ⟨HBS.out, HR.out, HV.out, HM1.out, HM2.out, HFgb.out, HFg1.out, HFg2.out⟩
    · skip
      have HBS0 := HBS
      have hbz := b1' wn (.cells #[.slice none 0 0, .slice none 0 0] 45)
      have HBS := Lib.hid (HBS0.out.step hbz)
      have HV := Lib.hid (Blk.new wn 45 #[.slice none 0 0, .slice none 0 0])
      have HFgb : Hid (w.heap.size + 2 ≤ wn.heap.size) := Lib.hid (by have := HR.out.lt; omega)
      have HR := Lib.hid (HR.out.below hbz HR.out.lt)
      have HM2 := Lib.hid (HM2.out.below hbz HM2.out.lt)
      clear hbz HBS0
      obtain ⟨gb, hgb⟩ : ∃ k, wn.heap.size = k := ⟨_, rfl⟩
      obtain ⟨wm, hwm⟩ : ∃ W, wn.alloc (.cells #[.slice none 0 0, .slice none 0 0] 45) = W := ⟨_, rfl⟩
      rw [hwm] at HBS HR HV HM2
      rw [hgb] at HV HFgb
      go_simp
      clear hgb hwm
      obtain ⟨wn, hwn⟩ : ∃ W, W = wm := ⟨_, rfl⟩
      subst hwn
      refine hK.out _ _ HBS.out (fun hHeld => ?_)
      clear hK K
      (try dsimp only [Act.put]); try simp only [pt1, pt2, pt3]
      refine rdy 3 (fun K hK => ?_)
      have HBS0 := HBS
      have hbz := b1' wn (.cells (madeCells #[.bool false] n1) 4)
      have HBS := Lib.hid (HBS0.out.step hbz)
      have HM1 := Lib.hid (made_b17 wn n1)
      have HFg1 : Hid (w.heap.size + 2 ≤ wn.heap.size) := Lib.hid (by have := HR.out.lt; omega)
      have HR := Lib.hid (HR.out.below hbz HR.out.lt)
      have HM2 := Lib.hid (HM2.out.below hbz HM2.out.lt)
      have HV := Lib.hid (HV.out.below hbz HV.out.lt)
      clear hbz HBS0
      obtain ⟨g1, hg1⟩ : ∃ k, wn.heap.size = k := ⟨_, rfl⟩
      obtain ⟨wm, hwm⟩ : ∃ W, wn.alloc (.cells (madeCells #[.bool false] n1) 4) = W := ⟨_, rfl⟩
      rw [hwm] at HBS HR HM1 HM2 HV
      rw [hg1] at HM1 HFg1
      go_simp
      clear hg1 hwm
      obtain ⟨wn, hwn⟩ : ∃ W, W = wm := ⟨_, rfl⟩
      subst hwn
      refine hK.out _ _ HBS.out (fun hHeld => ?_)
      clear hK K
      (try dsimp only [Act.put]); try simp only [pt1, pt2, pt3]
      refine tkp hP 8 (v := ?_) (fun W hS => ?_) ?_
      rotate_left
      · (go_simp; try with_reducible rfl)
      (try dsimp only [Act.put]); try simp only [pt1, pt2, pt3]
      refine rdy 10 (fun K hK => ?_)
      have x0 := HV.out.cell 0
      have x1 := HV.out.cell 1
      have xf0 := HV.out.frozen 0
      have xf1 := HV.out.frozen 1
      have HBS0 := HBS
      go_simp
      obtain ⟨wm, hwm⟩ : ∃ W, (wn.setCell ⟨gb, 0, none⟩ (.slice (some ⟨g1, 0, none⟩) n1 n1)).setCell ⟨gb, 1, none⟩ (.slice (some ⟨g2, 0, none⟩) n0 n0) = W := ⟨_, rfl⟩
      have hn1 := bb17_blk HM1.out HV.out (by decide)
      have hn2 := ib17_blk HM2.out HV.out (by decide)
      have HM1 := Lib.hid (show Bb13 wm g1 n1 _ by rw [← hwm]; exact (HM1.out.far17 hn1 _).far17 hn1 _)
      have HM2 := Lib.hid (show Ib13 wm g2 n0 _ by rw [← hwm]; exact (HM2.out.far hn2 _).far hn2 _)
      have HR := Lib.hid (show Blk wm (w.heap.size + 1) 45 _ by rw [← hwm]; exact (HR.out.far (by have := HFgb.out; simp; omega) _).far (by have := HFgb.out; simp; omega) _)
      have HBS := Lib.hid (HBS0.out.low (W' := wm) (by rw [← hwm]; exact ((Below.refl _ _).setCell (by have := HFgb.out; simp; omega) _).setCell (by have := HFgb.out; simp; omega) _))
      have HV := Lib.hid (show Blk wm gb 45 #[.slice (some ⟨g1, 0, none⟩) n1 n1, .slice (some ⟨g2, 0, none⟩) n0 n0] by rw [← hwm]; simpa using (HV.out.set_ 0 (.slice (some ⟨g1, 0, none⟩) n1 n1)).set_ 1 (.slice (some ⟨g2, 0, none⟩) n0 n0))
      rw [hwm]
      clear hwm x0 x1 xf0 xf1 hn1 hn2 HBS0
      obtain ⟨wn, hwn⟩ : ∃ W, W = wm := ⟨_, rfl⟩
      subst hwn
      refine hK.out _ _ HBS.out (fun hHeld => ?_)
      clear hK K
      (try dsimp only [Act.put]); try simp only [pt1, pt2, pt3]
      refine wpAnyH_done (by kernel_rfl) ?_ _
      clear hHeld
      exact hQ _ _ _ _ _ _ _ _ _ _ gb g1 g2 ⟨HBS.out, HR.out, HV.out, HM1.out, HM2.out, HFgb.out, HFg1.out, HFg2.out⟩
  · skip
    have HBS0 := HBS
    have hbz := b1' wn (.cells #[.slice none 0 0, .slice none 0 0] 45)
    have HBS := Lib.hid (HBS0.out.step hbz)
    have HV := Lib.hid (Blk.new wn 45 #[.slice none 0 0, .slice none 0 0])
    have HFgb : Hid (w.heap.size + 2 ≤ wn.heap.size) := Lib.hid (by have := HR.out.lt; omega)
    have HR := Lib.hid (HR.out.below hbz HR.out.lt)
    clear hbz HBS0
    obtain ⟨gb, hgb⟩ : ∃ k, wn.heap.size = k := ⟨_, rfl⟩
    obtain ⟨wm, hwm⟩ : ∃ W, wn.alloc (.cells #[.slice none 0 0, .slice none 0 0] 45) = W := ⟨_, rfl⟩
    rw [hwm] at HBS HR HV
    rw [hgb] at HV HFgb
    go_simp
    clear hgb hwm
    obtain ⟨wn, hwn⟩ : ∃ W, W = wm := ⟨_, rfl⟩
    subst hwn
    refine hK.out _ _ HBS.out (fun hHeld => ?_)
    clear hK K
    (try dsimp only [Act.put]); try simp only [pt1, pt2, pt3]
    refine wpAnyH_ready (rs := [3, 7]) (by kernel_rfl) (by simp) (AllReadyH.cons (op_of rfl) (fun K hK => ?_) (AllReadyH.cons (op_of rfl) (fun K hK => ?_) AllReadyH.nil))
    · skip
      have HBS0 := HBS
      have hbz := b1' wn (.cells (madeCells #[.bool false] n1) 4)
      have HBS := Lib.hid (HBS0.out.step hbz)
      have HM1 := Lib.hid (made_b17 wn n1)
      have HFg1 : Hid (w.heap.size + 2 ≤ wn.heap.size) := Lib.hid (by have := HR.out.lt; omega)
      have HR := Lib.hid (HR.out.below hbz HR.out.lt)
      have HV := Lib.hid (HV.out.below hbz HV.out.lt)
      clear hbz HBS0
      obtain ⟨g1, hg1⟩ : ∃ k, wn.heap.size = k := ⟨_, rfl⟩
      obtain ⟨wm, hwm⟩ : ∃ W, wn.alloc (.cells (madeCells #[.bool false] n1) 4) = W := ⟨_, rfl⟩
      rw [hwm] at HBS HR HM1 HV
      rw [hg1] at HM1 HFg1
      go_simp
      clear hg1 hwm
      obtain ⟨wn, hwn⟩ : ∃ W, W = wm := ⟨_, rfl⟩
      subst hwn
      refine hK.out _ _ HBS.out (fun hHeld => ?_)
      clear hK K
      (try dsimp only [Act.put]); try simp only [pt1, pt2, pt3]
      refine rdy 7 (fun K hK => ?_)
      have HBS0 := HBS
      have hbz := b1' wn (.cells (madeCells #[.int .i64 0] n0) 3)
      have HBS := Lib.hid (HBS0.out.step hbz)
      have HM2 := Lib.hid (made_i17 wn n0)
      have HFg2 : Hid (w.heap.size + 2 ≤ wn.heap.size) := Lib.hid (by have := HR.out.lt; omega)
      have HR := Lib.hid (HR.out.below hbz HR.out.lt)
      have HM1 := Lib.hid (HM1.out.step hbz)
      have HV := Lib.hid (HV.out.below hbz HV.out.lt)
      clear hbz HBS0
      obtain ⟨g2, hg2⟩ : ∃ k, wn.heap.size = k := ⟨_, rfl⟩
      obtain ⟨wm, hwm⟩ : ∃ W, wn.alloc (.cells (madeCells #[.int .i64 0] n0) 3) = W := ⟨_, rfl⟩
      rw [hwm] at HBS HR HM2 HM1 HV
      rw [hg2] at HM2 HFg2
      go_simp
      clear hg2 hwm
      obtain ⟨wn, hwn⟩ : ∃ W, W = wm := ⟨_, rfl⟩
      subst hwn
      refine hK.out _ _ HBS.out (fun hHeld => ?_)
      clear hK K
      (try dsimp only [Act.put]); try simp only [pt1, pt2, pt3]
      refine tkp hP 8 (v := ?_) (fun W hS => ?_) ?_
      rotate_left
      · (go_simp; try with_reducible rfl)
      (try dsimp only [Act.put]); try simp only [pt1, pt2, pt3]
      refine rdy 10 (fun K hK => ?_)
      have x0 := HV.out.cell 0
      have x1 := HV.out.cell 1
      have xf0 := HV.out.frozen 0
      have xf1 := HV.out.frozen 1
      have HBS0 := HBS
      go_simp
      obtain ⟨wm, hwm⟩ : ∃ W, (wn.setCell ⟨gb, 0, none⟩ (.slice (some ⟨g1, 0, none⟩) n1 n1)).setCell ⟨gb, 1, none⟩ (.slice (some ⟨g2, 0, none⟩) n0 n0) = W := ⟨_, rfl⟩
      have hn1 := bb17_blk HM1.out HV.out (by decide)
      have hn2 := ib17_blk HM2.out HV.out (by decide)
      have HM1 := Lib.hid (show Bb13 wm g1 n1 _ by rw [← hwm]; exact (HM1.out.far17 hn1 _).far17 hn1 _)
      have HM2 := Lib.hid (show Ib13 wm g2 n0 _ by rw [← hwm]; exact (HM2.out.far hn2 _).far hn2 _)
      have HR := Lib.hid (show Blk wm (w.heap.size + 1) 45 _ by rw [← hwm]; exact (HR.out.far (by have := HFgb.out; simp; omega) _).far (by have := HFgb.out; simp; omega) _)
      have HBS := Lib.hid (HBS0.out.low (W' := wm) (by rw [← hwm]; exact ((Below.refl _ _).setCell (by have := HFgb.out; simp; omega) _).setCell (by have := HFgb.out; simp; omega) _))
      have HV := Lib.hid (show Blk wm gb 45 #[.slice (some ⟨g1, 0, none⟩) n1 n1, .slice (some ⟨g2, 0, none⟩) n0 n0] by rw [← hwm]; simpa using (HV.out.set_ 0 (.slice (some ⟨g1, 0, none⟩) n1 n1)).set_ 1 (.slice (some ⟨g2, 0, none⟩) n0 n0))
      rw [hwm]
      clear hwm x0 x1 xf0 xf1 hn1 hn2 HBS0
      obtain ⟨wn, hwn⟩ : ∃ W, W = wm := ⟨_, rfl⟩
      subst hwn
      refine hK.out _ _ HBS.out (fun hHeld => ?_)
      clear hK K
      (try dsimp only [Act.put]); try simp only [pt1, pt2, pt3]
      refine wpAnyH_done (by kernel_rfl) ?_ _
      clear hHeld
      exact hQ _ _ _ _ _ _ _ _ _ _ gb g1 g2 ⟨HBS.out, HR.out, HV.out, HM1.out, HM2.out, HFgb.out, HFg1.out, HFg2.out⟩
    · skip
      have HBS0 := HBS
      have hbz := b1' wn (.cells (madeCells #[.int .i64 0] n0) 3)
      have HBS := Lib.hid (HBS0.out.step hbz)
      have HM2 := Lib.hid (made_i17 wn n0)
      have HFg2 : Hid (w.heap.size + 2 ≤ wn.heap.size) := Lib.hid (by have := HR.out.lt; omega)
      have HR := Lib.hid (HR.out.below hbz HR.out.lt)
      have HV := Lib.hid (HV.out.below hbz HV.out.lt)
      clear hbz HBS0
      obtain ⟨g2, hg2⟩ : ∃ k, wn.heap.size = k := ⟨_, rfl⟩
      obtain ⟨wm, hwm⟩ : ∃ W, wn.alloc (.cells (madeCells #[.int .i64 0] n0) 3) = W := ⟨_, rfl⟩
      rw [hwm] at HBS HR HM2 HV
      rw [hg2] at HM2 HFg2
      go_simp
      clear hg2 hwm
      obtain ⟨wn, hwn⟩ : ∃ W, W = wm := ⟨_, rfl⟩
      subst hwn
      refine hK.out _ _ HBS.out (fun hHeld => ?_)
      clear hK K
      (try dsimp only [Act.put]); try simp only [pt1, pt2, pt3]
      refine rdy 3 (fun K hK => ?_)
      have HBS0 := HBS
      have hbz := b1' wn (.cells (madeCells #[.bool false] n1) 4)
      have HBS := Lib.hid (HBS0.out.step hbz)
      have HM1 := Lib.hid (made_b17 wn n1)
      have HFg1 : Hid (w.heap.size + 2 ≤ wn.heap.size) := Lib.hid (by have := HR.out.lt; omega)
      have HR := Lib.hid (HR.out.below hbz HR.out.lt)
      have HM2 := Lib.hid (HM2.out.below hbz HM2.out.lt)
      have HV := Lib.hid (HV.out.below hbz HV.out.lt)
      clear hbz HBS0
      obtain ⟨g1, hg1⟩ : ∃ k, wn.heap.size = k := ⟨_, rfl⟩
      obtain ⟨wm, hwm⟩ : ∃ W, wn.alloc (.cells (madeCells #[.bool false] n1) 4) = W := ⟨_, rfl⟩
      rw [hwm] at HBS HR HM1 HM2 HV
      rw [hg1] at HM1 HFg1
      go_simp
      clear hg1 hwm
      obtain ⟨wn, hwn⟩ : ∃ W, W = wm := ⟨_, rfl⟩
      subst hwn
      refine hK.out _ _ HBS.out (fun hHeld => ?_)
      clear hK K
      (try dsimp only [Act.put]); try simp only [pt1, pt2, pt3]
      refine tkp hP 8 (v := ?_) (fun W hS => ?_) ?_
      rotate_left
      · (go_simp; try with_reducible rfl)
      (try dsimp only [Act.put]); try simp only [pt1, pt2, pt3]
      refine rdy 10 (fun K hK => ?_)
      have x0 := HV.out.cell 0
      have x1 := HV.out.cell 1
      have xf0 := HV.out.frozen 0
      have xf1 := HV.out.frozen 1
      have HBS0 := HBS
      go_simp
      obtain ⟨wm, hwm⟩ : ∃ W, (wn.setCell ⟨gb, 0, none⟩ (.slice (some ⟨g1, 0, none⟩) n1 n1)).setCell ⟨gb, 1, none⟩ (.slice (some ⟨g2, 0, none⟩) n0 n0) = W := ⟨_, rfl⟩
      have hn1 := bb17_blk HM1.out HV.out (by decide)
      have hn2 := ib17_blk HM2.out HV.out (by decide)
      have HM1 := Lib.hid (show Bb13 wm g1 n1 _ by rw [← hwm]; exact (HM1.out.far17 hn1 _).far17 hn1 _)
      have HM2 := Lib.hid (show Ib13 wm g2 n0 _ by rw [← hwm]; exact (HM2.out.far hn2 _).far hn2 _)
      have HR := Lib.hid (show Blk wm (w.heap.size + 1) 45 _ by rw [← hwm]; exact (HR.out.far (by have := HFgb.out; simp; omega) _).far (by have := HFgb.out; simp; omega) _)
      have HBS := Lib.hid (HBS0.out.low (W' := wm) (by rw [← hwm]; exact ((Below.refl _ _).setCell (by have := HFgb.out; simp; omega) _).setCell (by have := HFgb.out; simp; omega) _))
      have HV := Lib.hid (show Blk wm gb 45 #[.slice (some ⟨g1, 0, none⟩) n1 n1, .slice (some ⟨g2, 0, none⟩) n0 n0] by rw [← hwm]; simpa using (HV.out.set_ 0 (.slice (some ⟨g1, 0, none⟩) n1 n1)).set_ 1 (.slice (some ⟨g2, 0, none⟩) n0 n0))
      rw [hwm]
      clear hwm x0 x1 xf0 xf1 hn1 hn2 HBS0
      obtain ⟨wn, hwn⟩ : ∃ W, W = wm := ⟨_, rfl⟩
      subst hwn
      refine hK.out _ _ HBS.out (fun hHeld => ?_)
      clear hK K
      (try dsimp only [Act.put]); try simp only [pt1, pt2, pt3]
      refine wpAnyH_done (by kernel_rfl) ?_ _
      clear hHeld
      exact hQ _ _ _ _ _ _ _ _ _ _ gb g1 g2 ⟨HBS.out, HR.out, HV.out, HM1.out, HM2.out, HFgb.out, HFg1.out, HFg2.out⟩
end
set_option maxHeartbeats 8000000 in
theorem summed17 (v : Value) (S : Sv14) (w : World) (h : St14 w v S) (hf : Fine14 S) :
    Calls Try.prog 28 #[v] w (RetSu17 w S) := by
  obtain ⟨A0, A1, A2, A3, A4, n0, n1, n2, n3, n4, c0, c1, c2, c3, c4, sq, rfl, hs⟩ := h
  obtain ⟨os, hd⟩ := done13_ex (Ca15 S) S.C.length
  have hl : os.length = S.C.length := Done13.full (in13_cut _ _) hd (free15_ring.1 hf.2.2.2.2.2.2.2.2.1)
  have HP : Hid (RetSu17 w S = fun e w' => ∃ g1 g2, e = .returned (.agg #[.slice (some ⟨g1, 0, none⟩) n1 n1, .slice (some ⟨g2, 0, none⟩) n0 n0]) ∧ w.heap.size ≤ g1 ∧ w.heap.size ≤ g2 ∧ Bb13 w' g1 n1 (cntb17 S) ∧ Ib13 w' g2 n0 (fun x => amn17 S ((x : Nat) : Int)) ∧ Below w.heap.size w w') := Lib.hid (by unfold RetSu17; rw [hs.l0, hs.l1])
  have hx0 : By16 w S A0 A1 A2 A3 A4 n0 n1 n2 n3 n4 c0 c1 c2 c3 c4 sq _ := ⟨Bx14.new hs, hs⟩
  have hb2 := b1' (w.alloc (.cells #[.slice A0 n0 c0, .slice A1 n1 c1, .slice A2 n2 c2, .slice A3 n3 c3, .slice A4 n4 c4, .int .i64 sq] 28)) (.cells #[.slice none 0 0, .slice none 0 0] 45)
  have ho2 := Blk.new (w.alloc (.cells #[.slice A0 n0 c0, .slice A1 n1 c1, .slice A2 n2 c2, .slice A3 n3 c3, .slice A4 n4 c4, .int .i64 sq] 28)) 45 #[.slice none 0 0, .slice none 0 0]
  rw [show (w.alloc (.cells #[.slice A0 n0 c0, .slice A1 n1 c1, .slice A2 n2 c2, .slice A3 n3 c3, .slice A4 n4 c4, .int .i64 sq] 28)).heap.size = w.heap.size + 1 by simp] at ho2
  have hx2 := hx0.step hb2
  obtain ⟨W2, hW2⟩ : ∃ W, (w.alloc (.cells #[.slice A0 n0 c0, .slice A1 n1 c1, .slice A2 n2 c2, .slice A3 n3 c3, .slice A4 n4 c4, .int .i64 sq] 28)).alloc (.cells #[.slice none 0 0, .slice none 0 0] 45) = W := ⟨_, rfl⟩
  rw [hW2] at ho2 hx2
  have HX2 := Lib.hid hx2
  have HO2 := Lib.hid ho2
  have hm0 := hs.m0
  have hm1 := hs.m1
  have HOR := Lib.hid (fun W (h : Bx14 w S A0 A1 A2 A3 A4 n0 n1 n2 n3 n4 c0 c1 c2 c3 c4 sq W) => order17 _ S os W h.st hd hl)
  have HBA := Lib.hid (fun A N c W => back13_calls A N c W)
  have HF := Lib.hid hf
  have HD := Lib.hid hd.1
  have HL := Lib.hid hl
  have HL0 := Lib.hid hs.l0
  have HNL : Hid ((ord15 S os).length ≤ 1000) := Lib.hid (by
    have h1 := List.length_filter_le (fun (x : Nat) => us14 usC S.C (x : Int)) os
    have h2 := hs.l0
    unfold ord15
    omega)
  clear hs hx0 hb2 hx2 ho2 hd hl hf
  refine calls_of_leave Try.func28 rfl ?_
  simp only [Try.ntmps28, List.size_toArray, List.length_cons, List.length_nil, Nat.reduceAdd, Nat.reduceSub, Array.replicate_succ, Array.replicate_zero, List.push_toArray, List.append_toArray, List.nil_append, List.cons_append]
  go_upto_region 1 with (fail)
  refine made17 hm0 hm1 HX2.out HO2.out (fun _ _ _ _ _ h => h) (fun x6 x7 x8 x9 x10 x11 x12 x13 x14 wn gb g1 g2 hsu => ?_)
  have HSU := Lib.hid hsu
  have x0 := hsu.b.b.x.cell 0
  have x1 := hsu.b.b.x.cell 1
  have x2 := hsu.b.b.x.cell 2
  have x3 := hsu.b.b.x.cell 3
  have x4 := hsu.b.b.x.cell 4
  have x5 := hsu.b.b.x.cell 5
  clear hsu HX2 HO2 hW2
  go_wp2_with fail
  refine (HOR.out _ HSU.out.b.b).mono ?_
  rintro e w3 ⟨A, ca, rfl, hr3, hfa3, hb3⟩
  obtain ⟨ns, hns⟩ : ∃ l, ord15 S os = l := ⟨_, rfl⟩
  obtain ⟨m, hm⟩ : ∃ m, ns.length = m := ⟨_, rfl⟩
  have hmn := HNL.out
  rw [hns] at hr3 hfa3 hmn ⊢
  rw [hm] at hmn ⊢
  have HNS := Lib.hid hns
  have HM := Lib.hid hm
  have HW3 := Lib.hid (HSU.out.step hb3)
  have HR3 := Lib.hid hr3
  have HA3 := Lib.hid (hfa3)
  have HB3 := Lib.hid hb3
  clear hr3 hfa3 hb3 HNL hns hm x0 x1 x2 x3 x4 x5
  go_wp2_with fail
  refine (HBA.out A m ca _).mono ?_
  rintro e W0 ⟨rfl, hW0⟩
  have hsz0 : W0.heap.size = w3.heap.size + 1 := by rw [hW0]; simp
  have hb0 : Below w3.heap.size w3 W0 := by rw [hW0]; exact b1' _ _
  have f2 : W0.cell? ⟨w3.heap.size, 0, none⟩ = some (.slice A m ca) := by rw [hW0]; exact (Blk.new w3 26 #[.slice A m ca]).cell 0
  have hr0 : Rd W0 W0.heap.size A ns := (HR3.out.below hb0 (Nat.le_refl _)).more hb0.size
  have hgo := back17_goes Fence.wide 4 trivial rfl (by omega) w3.heap.size m ca A ns W0 HM.out hr0 (by omega) f2
  have hsu0 := HW3.out.step hb0
  have hg1w : g1 < wn.heap.size := HSU.out.r1.lt17
  have hg2w : g2 < wn.heap.size := HSU.out.r2.lt
  have hgbw : gb < wn.heap.size := HSU.out.v.lt
  have hw3s := HB3.out.size
  have hwww : w.heap.size + 1 < wn.heap.size := HSU.out.o.lt
  have HI0 : Hid (∃ M Am, Lb17 S ns (m - 0) M Am ∧ Su17 w S A0 A1 A2 A3 A4 n0 n1 n2 n3 n4 c0 c1 c2 c3 c4 sq gb g1 g2 M Am W0) := Lib.hid ⟨_, _, lb17_start S ns HM.out, hsu0⟩
  have HSK : Hid (∀ (k : Nat) (p : Addr), bkeep17 w3.heap.size A ns k p → p.block < W0.heap.size) := Lib.hid (fun k p hp => by
    rcases hp with h | ⟨hx, q, h1, h2⟩
    · omega
    · obtain ⟨b, o, h3, h4, _⟩ := hr0 hx
      rw [h1] at h3
      injection h3 with h3
      rw [h2, h3]
      exact h4)
  have HSN : Hid (∀ (k : Nat) (p : Addr), bkeep17 w3.heap.size A ns k p → p.block ≠ g1 ∧ p.block ≠ g2) := Lib.hid (fun k p hp => by
    rcases hp with h | ⟨hx, q, h1, h2⟩
    · exact ⟨by omega, by omega⟩
    · obtain ⟨b, o, h3, h4⟩ := HA3.out hx
      rw [h1] at h3
      injection h3 with h3
      rw [h2, h3]
      exact ⟨by show b ≠ g1; omega, by show b ≠ g2; omega⟩)
  clear f2 hb0 hW0 hr0 hsu0
  go_wp2_with fail
  refine (wpIn_wide (n := 5)).1 ?_
  refine wpIn_rangeFunc_goes rfl (by omega) (gf := 43) (lb := #[.pointer (some ⟨w3.heap.size, 0, none⟩)]) rfl trivial (enters_of Try.func43 (by kernel_rfl) rfl)
    hgo HSK.out (Below.refl _ _) (fun _ => rfl)
    (fun k W => ∃ M Am, Lb17 S ns (m - k) M Am ∧ Su17 w S A0 A1 A2 A3 A4 n0 n1 n2 n3 n4 c0 c1 c2 c3 c4 sq gb g1 g2 M Am W)
    (fun c k W => False)
    (fun s X Y row hs hg hr => by
      obtain ⟨M, Am, h1, h2⟩ := hs
      exact ⟨M, Am, h1, h2.kept hg (by omega) hr⟩)
    (fun c s X Y row hs hg hr => hs.elim)
    HI0.out ?round ?done ?stop
  case round =>
    clear HI0 hgo
    intro l k W hk _
    simp only [benc17]
    gi_wp2
    refine ⟨trivial, ?_⟩
    rintro Wb ⟨M, Am, hlb, hsu⟩
    obtain ⟨d, hd⟩ : ∃ d, m - 1 - k = d := ⟨_, rfl⟩
    have hd1 : m - k = d + 1 := by omega
    have hdm : d < m := by omega
    have hd2 : m - (k + 1) = d := by omega
    rw [HM.out, hd]
    rw [hd1] at hlb
    obtain ⟨x, hx⟩ : ∃ x, nth ns d = x := ⟨_, rfl⟩
    rw [hx]
    have hux : us14 usC S.C (x : Int) = true := by
      have h := ord15_used (S := S) (os := os) (k := d) (by rw [HNS.out, HM.out]; exact hdm)
      rwa [HNS.out, hx] at h
    have hpre := Lb17.pre (c := x) HF.out.2.2.2.2.1 HD.out HL.out (by rw [HNS.out, HM.out]; exact hdm) (by rw [HNS.out]; exact hlb) (by rw [HNS.out]; exact hx)
    have hnext := Lb17.next (c := x) HF.out.2.2.2.2.1 HD.out HL.out (by rw [HNS.out, HM.out]; exact hdm) (by rw [HNS.out]; exact hlb) (by rw [HNS.out]; exact hx)
    rw [HNS.out] at hnext
    have hadd := add17 w S A0 A1 A2 A3 A4 n0 n1 n2 n3 n4 c0 c1 c2 c3 c4 sq g1 g2 x M Am Wb hsu.b.s HF.out hsu.b.b.b hsu.r1 hsu.r2 (by have := hsu.f1; omega) (by have := hsu.f2; omega) hsu.ne.1 hux hpre.1 hpre.2
    have HAD := Lib.hid (CallsIn.inRound l (callsIn_wide (n := 2).2 hadd))
    have HNX := Lib.hid hnext
    have HSB := Lib.hid hsu
    have y0 := hsu.v.cell 0
    have y1 := hsu.v.cell 1
    have z0 := hsu.b.b.x.cell 0
    have z1 := hsu.b.b.x.cell 1
    have z2 := hsu.b.b.x.cell 2
    have z3 := hsu.b.b.x.cell 3
    have z4 := hsu.b.b.x.cell 4
    have z5 := hsu.b.b.x.cell 5
    clear hlb hsu hx hux hpre hnext hadd
    gi_wp2_with fail
    refine ⟨trivial, ?_⟩
    refine HAD.out.mono ?_
    rintro e WX ⟨rfl, hk1, h1, h2⟩
    have HT := Lib.hid (HSB.out.turn hk1 h1 h2)
    have HKO := Lib.hid (bk17_others hk1 HSB.out.r1 HSB.out.r2)
    have HSM : Hid (Same (bkeep17 w3.heap.size A ns k) Wb WX) := Lib.hid ⟨hk1.size, fun p v hp hv => by
      have hn := HSN.out k p hp
      have hlt := World.block_lt_of_cell? _ _ hv
      exact (World.cell?_of_block (hk1.keep p.block hlt hn.1 (by simpa using hn.2))).trans hv⟩
    clear HAD hk1 h1 h2 y0 y1 z0 z1 z2 z3 z4 z5
    gi_wp2_with fail
    refine ⟨HKO.out.from _, HSM.out, ?_⟩
    show ∃ M Am, Lb17 S ns (m - (k + 1)) M Am ∧ _
    rw [hd2]
    exact ⟨_, _, HNX.out, HT.out⟩
  case done =>
    clear HI0 hgo
    rintro D W hD ⟨M, Am, hlb, hsu⟩ hK
    rw [Nat.sub_self] at hlb
    obtain ⟨he1, he2⟩ := Lb17.end_ HF.out.2.2.2.2.1 HD.out HL.out (by rw [HNS.out]; exact hlb)
    obtain rfl : M = cntb17 S := funext he1
    obtain rfl : Am = fun x => amn17 S ((x : Nat) : Int) := funext he2
    have v0 := hsu.v.cell 0
    have v1 := hsu.v.cell 1
    have p0 := hsu.o.cell 0
    have p1 := hsu.o.cell 1
    have q0 := hsu.o.frozen 0
    have q1 := hsu.o.frozen 1
    have hg1 := hsu.f1
    have hg2 := hsu.f2
    obtain ⟨W5, hW5⟩ : ∃ X, (W.setCell ⟨w.heap.size + 1, 0, none⟩ (.slice (some ⟨g1, 0, none⟩) n1 n1)).setCell ⟨w.heap.size + 1, 1, none⟩ (.slice (some ⟨g2, 0, none⟩) n0 n0) = X := ⟨_, rfl⟩
    have ho5 : Blk W5 (w.heap.size + 1) 45 #[.slice (some ⟨g1, 0, none⟩) n1 n1, .slice (some ⟨g2, 0, none⟩) n0 n0] := by rw [← hW5]; simpa using (hsu.o.set_ 0 (.slice (some ⟨g1, 0, none⟩) n1 n1)).set_ 1 (.slice (some ⟨g2, 0, none⟩) n0 n0)
    have hK5 : W5.heap[D]? = some (.deferred (some [])) := by rw [← hW5]; exact (KeepsOthers.setCell _ _ _).same _ _ ((KeepsOthers.setCell _ _ _).same _ _ hK rfl) rfl
    have hB5 : Below w.heap.size w W5 := by rw [← hW5]; exact (hsu.b.b.b.setCell (by simp) _).setCell (by simp) _
    have hr1 : Bb13 W5 g1 n1 (cntb17 S) := by rw [← hW5]; exact (hsu.r1.far17 (by simp; omega) _).far17 (by simp; omega) _
    have hr2 : Ib13 W5 g2 n0 (fun x => amn17 S ((x : Nat) : Int)) := by rw [← hW5]; exact (hsu.r2.far (by simp; omega) _).far (by simp; omega) _
    have m0 := mark_cell hK5 (show W5.cell? ⟨w.heap.size + 1, 0, none⟩ = some (.slice (some ⟨g1, 0, none⟩) n1 n1) from ho5.cell 0)
    have m1 := mark_cell hK5 (show W5.cell? ⟨w.heap.size + 1, 1, none⟩ = some (.slice (some ⟨g2, 0, none⟩) n0 n0) from ho5.cell 1)
    have HB5 := Lib.hid (mark_below hB5 hK5 (by have := HB3.out.size; omega))
    have HR1 := Lib.hid (bb17_kept hr1 (grownBy_putObj' W5 D (.deferred none)) (fun r e => by cases e; exact ⟨_, hK5, rfl⟩))
    have HR2 := Lib.hid (ib17_kept hr2 (grownBy_putObj' W5 D (.deferred none)) (fun r e => by cases e; exact ⟨_, hK5, rfl⟩))
    have HK5 := Lib.hid hK5
    have HG : Hid (w.heap.size ≤ g1 ∧ w.heap.size ≤ g2) := Lib.hid ⟨by omega, by omega⟩
    clear hlb hsu hK he1 he2 ho5 hK5 hB5 hr1 hr2 hg1 hg2
    go_wp2_with fail
    rw [HP.out]
    exact leave_mark (v := .agg #[.slice (some ⟨g1, 0, none⟩) n1 n1, .slice (some ⟨g2, 0, none⟩) n0 n0]) HK5.out (by simp [results, Try.results28, go_sem, m0, m1]) ⟨g1, g2, rfl, HG.out.1, HG.out.2, HR1.out, HR2.out, HB5.out⟩
  case stop =>
    rintro D c k W hD hk h hK
    exact h.elim
end Go.Proofs.Ytllcmjdfgbiijaa
namespace Go.Proofs.Ytllcmjdfgbiijaa
open Go.RowKit
set_option maxRecDepth 100000
def RetTickets17 (w : World) (S : Sv14) (e : Ending) (w' : World) : Prop := ∃ g, e = .returned (.slice (some ⟨g, 0, none⟩) S.T.length S.T.length) ∧ w.heap.size ≤ g ∧ Bb13 w' g S.T.length (cntb17 S) ∧ Below w.heap.size w w'
theorem field17_0 (W : World) (a b : Value) : (Instr.field 45 (.agg #[a, b]) 0).run Try.prog W = .ok a W := by kernel_rfl
set_option maxHeartbeats 4000000 in
theorem tickets17 (v : Value) (S : Sv14) (w : World) (h : St14 w v S) (hf : Fine14 S) : Calls Try.prog 9 #[v] w (RetTickets17 w S) := by
  obtain ⟨A0, A1, A2, A3, A4, n0, n1, n2, n3, n4, c0, c1, c2, c3, c4, sq, rfl, hs⟩ := h
  have hx0 := Bx14.new hs
  have hxn := hx0.step (Below.refl _ _).drew
  obtain ⟨W1, hW1⟩ : ∃ W, w.alloc (.cells #[.slice A0 n0 c0, .slice A1 n1 c1, .slice A2 n2 c2, .slice A3 n3 c3, .slice A4 n4 c4, .int .i64 sq] 28) = W := ⟨_, rfl⟩
  rw [hW1] at hx0 hxn
  have HP : Hid (RetTickets17 w S = fun e w' => ∃ g, e = .returned (.slice (some ⟨g, 0, none⟩) S.T.length S.T.length) ∧ w.heap.size ≤ g ∧ Bb13 w' g S.T.length (cntb17 S) ∧ Below w.heap.size w w') := Lib.hid rfl
  have HX0 := Lib.hid hx0
  have x0 := hx0.x.cell 0
  have x1 := hx0.x.cell 1
  have x2 := hx0.x.cell 2
  have x3 := hx0.x.cell 3
  have x4 := hx0.x.cell 4
  have x5 := hx0.x.cell 5
  have HSM := Lib.hid (fun W (h : Bx14 w S A0 A1 A2 A3 A4 n0 n1 n2 n3 n4 c0 c1 c2 c3 c4 sq W) => summed17 _ S W h.st hf)
  have HFL := field17_0
  clear hs hx0 hxn hf
  go_enter Try.func9, Try.ntmps9
  go_wp2_with fail
  refine (HSM.out _ HX0.out).mono ?_
  rintro e w3 ⟨g1, g2, rfl, h1, h2, h3, h4, hb3⟩
  have HB := Lib.hid (HX0.out.b.trans (hb3.mono HX0.out.b.size))
  have HG : Hid (w.heap.size ≤ g1) := Lib.hid (by have := HX0.out.b.size; omega)
  have HR := Lib.hid h3
  obtain ⟨m1, hm1⟩ : ∃ m, S.T.length = m := ⟨_, rfl⟩
  obtain ⟨m0, hm0⟩ : ∃ m, S.C.length = m := ⟨_, rfl⟩
  clear h1 h2 h3 h4 hb3 HX0 HSM x0 x1 x2 x3 x4 x5 hW1 hm1 hm0
  go_wp2_with fail
  go_ret
  rw [HP.out]
  exact ⟨g1, rfl, HG.out, HR.out, HB.out⟩
def RetAmounts17 (w : World) (S : Sv14) (e : Ending) (w' : World) : Prop := ∃ g, e = .returned (.slice (some ⟨g, 0, none⟩) S.C.length S.C.length) ∧ w.heap.size ≤ g ∧ Ib13 w' g S.C.length (fun x => amn17 S ((x : Nat) : Int)) ∧ Below w.heap.size w w'
theorem field17_1 (W : World) (a b : Value) : (Instr.field 45 (.agg #[a, b]) 1).run Try.prog W = .ok b W := by kernel_rfl
set_option maxHeartbeats 4000000 in
theorem amounts17 (v : Value) (S : Sv14) (w : World) (h : St14 w v S) (hf : Fine14 S) : Calls Try.prog 10 #[v] w (RetAmounts17 w S) := by
  obtain ⟨A0, A1, A2, A3, A4, n0, n1, n2, n3, n4, c0, c1, c2, c3, c4, sq, rfl, hs⟩ := h
  have hx0 := Bx14.new hs
  have hxn := hx0.step (Below.refl _ _).drew
  obtain ⟨W1, hW1⟩ : ∃ W, w.alloc (.cells #[.slice A0 n0 c0, .slice A1 n1 c1, .slice A2 n2 c2, .slice A3 n3 c3, .slice A4 n4 c4, .int .i64 sq] 28) = W := ⟨_, rfl⟩
  rw [hW1] at hx0 hxn
  have HP : Hid (RetAmounts17 w S = fun e w' => ∃ g, e = .returned (.slice (some ⟨g, 0, none⟩) S.C.length S.C.length) ∧ w.heap.size ≤ g ∧ Ib13 w' g S.C.length (fun x => amn17 S ((x : Nat) : Int)) ∧ Below w.heap.size w w') := Lib.hid rfl
  have HX0 := Lib.hid hx0
  have x0 := hx0.x.cell 0
  have x1 := hx0.x.cell 1
  have x2 := hx0.x.cell 2
  have x3 := hx0.x.cell 3
  have x4 := hx0.x.cell 4
  have x5 := hx0.x.cell 5
  have HSM := Lib.hid (fun W (h : Bx14 w S A0 A1 A2 A3 A4 n0 n1 n2 n3 n4 c0 c1 c2 c3 c4 sq W) => summed17 _ S W h.st hf)
  have HFL := field17_1
  clear hs hx0 hxn hf
  go_enter Try.func10, Try.ntmps10
  go_wp2_with fail
  refine (HSM.out _ HX0.out).mono ?_
  rintro e w3 ⟨g1, g2, rfl, h1, h2, h3, h4, hb3⟩
  have HB := Lib.hid (HX0.out.b.trans (hb3.mono HX0.out.b.size))
  have HG : Hid (w.heap.size ≤ g2) := Lib.hid (by have := HX0.out.b.size; omega)
  have HR := Lib.hid h4
  obtain ⟨m1, hm1⟩ : ∃ m, S.T.length = m := ⟨_, rfl⟩
  obtain ⟨m0, hm0⟩ : ∃ m, S.C.length = m := ⟨_, rfl⟩
  clear h1 h2 h3 h4 hb3 HX0 HSM x0 x1 x2 x3 x4 x5 hW1 hm1 hm0
  go_wp2_with fail
  go_ret
  rw [HP.out]
  exact ⟨g2, rfl, HG.out, HR.out, HB.out⟩
set_option maxHeartbeats 4000000 in
theorem awakes17 (v : Value) (S : Sv14) (c : Int) (w : World) (h : St14 w v S) (hf : Fine14 S) : Calls Try.prog 15 #[v, .int .i64 c] w fun e w' => e = .returned (.bool (aw17 S.C.length (fun x => amn17 S ((x : Nat) : Int)) c)) ∧ Below w.heap.size w w' := by
  obtain ⟨A0, A1, A2, A3, A4, n0, n1, n2, n3, n4, c0, c1, c2, c3, c4, sq, rfl, hs⟩ := h
  have hx0 := Bx14.new hs
  have hxn := hx0.step (Below.refl _ _).drew
  obtain ⟨W1, hW1⟩ : ∃ W, w.alloc (.cells #[.slice A0 n0 c0, .slice A1 n1 c1, .slice A2 n2 c2, .slice A3 n3 c3, .slice A4 n4 c4, .int .i64 sq] 28) = W := ⟨_, rfl⟩
  rw [hW1] at hx0 hxn
  have HX0 := Lib.hid hx0
  have x0 := hx0.x.cell 0
  have x1 := hx0.x.cell 1
  have x2 := hx0.x.cell 2
  have x3 := hx0.x.cell 3
  have x4 := hx0.x.cell 4
  have x5 := hx0.x.cell 5
  have HSM := Lib.hid (fun W (h : Bx14 w S A0 A1 A2 A3 A4 n0 n1 n2 n3 n4 c0 c1 c2 c3 c4 sq W) => summed17 _ S W h.st hf)
  clear hs hx0 hxn hf
  go_enter Try.func15, Try.ntmps15
  go_wp2_with fail
  refine (HSM.out _ HX0.out).mono ?_
  rintro e w3 ⟨g1, g2, rfl, h1, h2, h3, h4, hb3⟩
  have HB := Lib.hid (HX0.out.b.trans (hb3.mono HX0.out.b.size))
  have HA := Lib.hid (awake17 (some ⟨g1, 0, none⟩) S.T.length S.T.length g2 S.C.length S.C.length _ c w3 h4 _ rfl)
  clear h1 h2 h3 h4 hb3 HX0 HSM x0 x1 x2 x3 x4 x5 hW1
  go_wp2_with fail
  refine HA.out.mono ?_
  rintro e w4 ⟨rfl, hb4⟩
  have HB4 := Lib.hid (HB.out.trans (hb4.mono HB.out.size))
  clear hb4 HA
  go_wp2_with fail
  go_ret
  exact ⟨rfl, HB4.out⟩
theorem Bb13.low17 {w w' : World} {g n L : Nat} {m : Nat → Bool} (q : Bb13 w g n m) (hb : Below L w w') (hg : g < L) : Bb13 w' g n m := by
  obtain ⟨cs, h1, h2⟩ := q
  exact ⟨cs, h1.below hb hg, h2⟩
/-- The used tickets that do not count. -/
noncomputable def dea17 (S : Sv14) : List Nat := all11 (fun j => (gt14 S.T j).u && !cntb17 S j) S.T.length
set_option maxHeartbeats 4000000 in
theorem dead17 (v : Value) (S : Sv14) (w : World) (h : St14 w v S) (hf : Fine14 S) : Calls Try.prog 18 #[v] w (RetR15 w (dea17 S)) := by
  obtain ⟨A0, A1, A2, A3, A4, n0, n1, n2, n3, n4, c0, c1, c2, c3, c4, sq, rfl, hs⟩ := h
  have hx0 := Bx14.new hs
  have hxn := hx0.step (Below.refl _ _).drew
  obtain ⟨W1, hW1⟩ : ∃ W, w.alloc (.cells #[.slice A0 n0 c0, .slice A1 n1 c1, .slice A2 n2 c2, .slice A3 n3 c3, .slice A4 n4 c4, .int .i64 sq] 28) = W := ⟨_, rfl⟩
  rw [hW1] at hx0 hxn
  have HP : Hid (RetR15 w (dea17 S) = fun e w' => ∃ A c, e = .returned (.slice A (all11 (fun j => (gt14 S.T j).u && !cntb17 S j) n1).length c) ∧ Rd w' w'.heap.size A (all11 (fun j => (gt14 S.T j).u && !cntb17 S j) n1) ∧ Below w.heap.size w w') := Lib.hid (by rw [← hs.l1]; rfl)
  obtain ⟨D, hD⟩ : ∃ D, (fun j => (gt14 S.T j).u && !cntb17 S j) = D := ⟨_, rfl⟩
  rw [hD] at HP
  have HDJ : Hid (∀ j, D j = ((gt14 S.T j).u && !cntb17 S j)) := Lib.hid (fun j => by rw [← hD])
  have HX0 := Lib.hid hx0
  have x0 := hx0.x.cell 0
  have x1 := hx0.x.cell 1
  have x2 := hx0.x.cell 2
  have x3 := hx0.x.cell 3
  have x4 := hx0.x.cell 4
  have x5 := hx0.x.cell 5
  have HTK := Lib.hid (fun W (h : Bx14 w S A0 A1 A2 A3 A4 n0 n1 n2 n3 n4 c0 c1 c2 c3 c4 sq W) => tickets17 _ S W h.st hf)
  have HS := Lib.hid hs
  have HL1 := Lib.hid hs.l1
  have hm1 := hs.m1
  clear hs hx0 hxn hf hD
  go_enter Try.func18, Try.ntmps18
  go_wp2_with fail
  refine (HTK.out _ HX0.out).mono ?_
  rintro e w3 ⟨g, rfl, hg, hr, hb3⟩
  rw [HL1.out] at hr ⊢
  have hx3 := HX0.out.step hb3
  have HG : Hid (g < w3.heap.size) := Lib.hid hr.lt17
  have HT0 : Hid (Ti15 w w3.heap.size S A0 A1 A2 A3 A4 n0 n1 n2 n3 n4 c0 c1 c2 c3 c4 sq none 0 0 (all11 D 0) w3) := Lib.hid (Ti15.start HS.out hx3 (by have := hx3.x.lt; omega) (Nat.le_refl _))
  have HR0 := Lib.hid hr
  clear HX0 hr hb3 hx3 hg HTK x0 x1 x2 x3 x4 x5 hW1
  go_wp2_with fail
  go_loopw [2, 8] (fun v i wr => ∃ (k m cc : Nat) (A : Option Addr), v = .slice A m cc ∧ i = .int .i64 (k : Int) ∧ k ≤ n1 ∧ Hid (Ti15 w w3.heap.size S A0 A1 A2 A3 A4 n0 n1 n2 n3 n4 c0 c1 c2 c3 c4 sq A m cc (all11 D k) wr) ∧ Hid (Bb13 wr g n1 (cntb17 S))) (fun _ i _ => n1 - (intOf i).toNat)
  case atStart => exact ⟨0, 0, 0, none, rfl, rfl, by omega, HT0, HR0⟩
  case round =>
    clear HT0 HR0
    obtain ⟨k, m, cc, A, rfl, rfl, hk, HW, HR⟩ := hrel
    by_cases hkn : k < n1
    · obtain ⟨a, of, hA, hab, hq⟩ := Lq.at_ len14T (by omega) HW.out.b.s.r1 (show k < S.T.length by have := HL1.out; omega)
      have t1 : wr.cell? ⟨w.heap.size, 1, none⟩ = some (.slice (some ⟨a, of, none⟩) n1 c1) := by rw [← hA]; exact HW.out.b.x.cell 1
      have e0 : wr.cell? ⟨a, of + k * 6, none⟩ = some (.bool (gt14 S.T k).u) := hq 0 _ rfl
      have g0 := (HR.out.cells hkn).1
      have hmk : m ≤ k := by rw [← HW.out.l]; exact all11_len D k
      have HNX : Hid (all11 D (k + 1) = all11 D k ++ if ((gt14 S.T k).u && !cntb17 S k) then [k] else []) := Lib.hid (by rw [all11_next, HDJ.out])
      obtain ⟨xu, hxu⟩ : ∃ b, (gt14 S.T k).u = b := ⟨_, rfl⟩
      obtain ⟨cb, hcb⟩ : ∃ b, cntb17 S k = b := ⟨_, rfl⟩
      rw [hxu] at e0 HNX
      rw [hcb] at g0 HNX
      have i0 : (0 : Int) ≤ (k : Int) := by omega
      have i1 : (k : Int) < (n1 : Int) := by omega
      clear hxu hcb hq hab hA
      by_cases hd : xu = true ∧ cb = false
      · obtain ⟨rfl, rfl⟩ := hd
        obtain ⟨Az, cz, W2, hrun, har, hb2⟩ := HW.out.push k (by omega)
        have HRUN := Lib.hid hrun
        have HAR := Lib.hid (har.congr (ys := all11 D (k + 1)) (by rw [HNX.out]; rfl))
        have HR2 := Lib.hid (HR.out.low17 hb2 HG.out)
        clear hrun har hb2 HW HR
        go_wp2_with (at_builtin; go_loud (refine wpList_append_14 _ rfl (.tmp 23) (.tmp 25) 26 rfl _ _ _ _ rfl rfl HRUN.out ?_))
        go_roundw
        case rel => exact ⟨k + 1, m + 1, cz, Az, rfl, by go_num, by omega, HAR, HR2⟩
        case measure => simp [intOf]; omega
      · have HN : Hid (all11 D (k + 1) = all11 D k) := Lib.hid (by
          rw [HNX.out, if_neg, List.append_nil]
          simpa using hd)
        have HAR := Lib.hid (HW.out.congr HN.out.symm)
        cases xu with
        | false =>
          clear hd HW HNX
          go_wp2_with fail
          go_roundw
          case rel => exact ⟨k + 1, m, cc, A, rfl, by go_num, by omega, HAR, HR⟩
          case measure => simp [intOf]; omega
        | true =>
          obtain rfl : cb = true := by simpa using hd
          clear hd HW HNX
          go_wp2_with fail
          go_roundw
          case rel => exact ⟨k + 1, m, cc, A, rfl, by go_num, by omega, HAR, HR⟩
          case measure => simp [intOf]; omega
    · obtain rfl : k = n1 := by omega
      have HL := Lib.hid HW.out.l
      have h1 : ¬ (k : Int) < (k : Int) := by omega
      go_wp2_with fail
      go_ret
      rw [HP.out]
      exact ⟨A, cc, by rw [HL.out]; rfl, HW.out.rd, HW.out.b.b⟩
end Go.Proofs.Ytllcmjdfgbiijaa
