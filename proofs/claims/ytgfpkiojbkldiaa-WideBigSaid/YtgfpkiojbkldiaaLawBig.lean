/-
  For any two wide numbers a, b and any word n: sums, differences, products and the order of package wide are the document's, and whether they fit is. No conditions.
-/
import Derived.Test.YtgfpkiojbkldiaaLawSmall
import Derived.Test.YtgfpkiojbkldiaaWide
import Derived.Test.YtgfpkiojbkldiaaCmp
import Derived.Test.YtgfpkiojbkldiaaRow
import Derived.Test.YtgfpkiojbkldiaaLawDivides
import Derived.Deep.DeepCutAuto
namespace Go.Proofs.Ytgfpkiojbkldiaa
open Go.ChangeShapes Go.WideShapes Go.ChangeAt Go.RowKit

/-- The two arguments in their boxes, the document's numbers of them in cells of their own. -/
structure BigMem (w : World) (H1 M1 H2 M2 : Nat) (g7 g8 : Nat) (s7 s8 : Value) (wr : World) : Prop where
  below : Below w.heap.size w wr
  a0 : wr.cell? ⟨w.heap.size, 0, none⟩ = some (.int .u64 (H1 : Int))
  a1 : wr.cell? ⟨w.heap.size, 1, none⟩ = some (.int .u64 (M1 : Int))
  b0 : wr.cell? ⟨w.heap.size + 1, 0, none⟩ = some (.int .u64 (H2 : Int))
  b1 : wr.cell? ⟨w.heap.size + 1, 1, none⟩ = some (.int .u64 (M2 : Int))
  x : wr.cell? ⟨g7, 0, none⟩ = some s7
  y : wr.cell? ⟨g8, 0, none⟩ = some s8
  nx : ∃ L, Num wr L (.agg #[s7]) (H1 * 18446744073709551616 + M1)
  ny : ∃ L, Num wr L (.agg #[s8]) (H2 * 18446744073709551616 + M2)

theorem BigMem.of {w wb wr : World} {H1 M1 H2 M2 g7 g8 : Nat} {s7 s8 : Value} (hbw : Below w.heap.size w wb)
    (h : wr.cell? ⟨w.heap.size, 0, none⟩ = some (.int .u64 (H1 : Int)) ∧ wr.cell? ⟨w.heap.size, 1, none⟩ = some (.int .u64 (M1 : Int)) ∧ wr.cell? ⟨w.heap.size + 1, 0, none⟩ = some (.int .u64 (H2 : Int)) ∧
      wr.cell? ⟨w.heap.size + 1, 1, none⟩ = some (.int .u64 (M2 : Int)) ∧ Below wb.heap.size wb wr) (x : wr.cell? ⟨g7, 0, none⟩ = some s7) (y : wr.cell? ⟨g8, 0, none⟩ = some s8)
    (nx : ∃ L, Num wr L (.agg #[s7]) (H1 * 18446744073709551616 + M1)) (ny : ∃ L, Num wr L (.agg #[s8]) (H2 * 18446744073709551616 + M2)) : BigMem w H1 M1 H2 M2 g7 g8 s7 s8 wr :=
  ⟨hbw.trans (h.2.2.2.2.mono hbw.size), h.1, h.2.1, h.2.2.1, h.2.2.2.1, x, y, nx, ny⟩

theorem BigMem.step {w wr w' : World} {H1 M1 H2 M2 g7 g8 : Nat} {s7 s8 : Value} (h : BigMem w H1 M1 H2 M2 g7 g8 s7 s8 wr) (hb : Below wr.heap.size wr w') : BigMem w H1 M1 H2 M2 g7 g8 s7 s8 w' := by
  have k : ∀ {a : Addr} {u : Value}, wr.cell? a = some u → w'.cell? a = some u := fun h => (hb.cell (World.block_lt_of_cell? wr _ h)).trans h
  obtain ⟨L7, n7⟩ := h.nx
  obtain ⟨L8, n8⟩ := h.ny
  exact ⟨h.below.trans (hb.mono h.below.size), k h.a0, k h.a1, k h.b0, k h.b1, k h.x, k h.y, ⟨_, n7.below hb⟩, ⟨_, n8.below hb⟩⟩
/-- A wide result in a cell of its own. -/
def Wid (w : World) (g : Nat) (H L : Nat) : Prop := w.cell? ⟨g, 0, none⟩ = some (.int .u64 (H : Int)) ∧ w.cell? ⟨g, 1, none⟩ = some (.int .u64 (L : Int))
theorem Wid.new (w : World) (H L : Nat) : Wid (w.alloc (.cells #[.int .u64 (H : Int), .int .u64 (L : Int)] 30)) w.heap.size H L := ⟨(Blk.new w _ _).cell 0, (Blk.new w _ _).cell 1⟩
theorem Wid.below {w w' : World} {g H L : Nat} (h : Wid w g H L) (hb : Below w.heap.size w w') : Wid w' g H L :=
  ⟨(hb.cell (World.block_lt_of_cell? w _ h.1)).trans h.1, (hb.cell (World.block_lt_of_cell? w _ h.2)).trans h.2⟩
theorem Wid.lt {w : World} {g H L : Nat} (h : Wid w g H L) : g < w.heap.size := World.block_lt_of_cell? w _ h.1

theorem fits_all (H L : Nat) (w : World) (hL : L < 18446744073709551616) :
    Calls Try.prog 21 #[.agg #[.int .u64 (H : Int), .int .u64 (L : Int)]] w fun e w' => e = .returned (.tuple #[.int .u64 ((fw (H * 18446744073709551616 + L) : Nat) : Int), .bool (fb (H * 18446744073709551616 + L))]) ∧ Below w.heap.size w w' := by
  rcases Nat.eq_zero_or_pos H with h | h
  · have := fits_any H L w h
    rw [fw_in (by omega), fb_in (by omega), show H * 18446744073709551616 + L = L by omega]
    exact this
  · have := fits_no H L w h
    rw [fw_out (by omega), fb_out (by omega)]
    exact this

theorem held_ten {wb W W' : World} {p q r s t u x y z o : Addr} {a b c d e f g h i j : Value} (hb : Below W.heap.size W W')
    (hh : W.cell? p = some a ∧ W.cell? q = some b ∧ W.cell? r = some c ∧ W.cell? s = some d ∧ W.cell? t = some e ∧ W.cell? u = some f ∧ W.cell? x = some g ∧ W.cell? y = some h ∧ W.cell? z = some i ∧ W.cell? o = some j ∧ Below wb.heap.size wb W) :
    W'.cell? p = some a ∧ W'.cell? q = some b ∧ W'.cell? r = some c ∧ W'.cell? s = some d ∧ W'.cell? t = some e ∧ W'.cell? u = some f ∧ W'.cell? x = some g ∧ W'.cell? y = some h ∧ W'.cell? z = some i ∧ W'.cell? o = some j ∧ Below wb.heap.size wb W' := by
  have k : ∀ {a : Addr} {u : Value}, W.cell? a = some u → W'.cell? a = some u := fun h => (hb.cell (World.block_lt_of_cell? W _ h)).trans h
  obtain ⟨h1, h2, h3, h4, h5, h6, h7, h8, h9, h10, h11⟩ := hh
  exact ⟨k h1, k h2, k h3, k h4, k h5, k h6, k h7, k h8, k h9, k h10, h11.trans (hb.mono h11.size)⟩
theorem num_far10 {wb W : World} {L : Nat} {v : Value} {n : Nat} {a b c d e f g h i j : Prop} (hn : Num wb L v n) (hs : a ∧ b ∧ c ∧ d ∧ e ∧ f ∧ g ∧ h ∧ i ∧ j ∧ Below wb.heap.size wb W) : Num W L v n :=
  hn.below hs.2.2.2.2.2.2.2.2.2.2
theorem cmpw_c (H1 M1 H2 M2 : Nat) (c : Int) (w : World) (h2 : M1 < 18446744073709551616) (h4 : M2 < 18446744073709551616) (hc : cmpI (H1 * 18446744073709551616 + M1) (H2 * 18446744073709551616 + M2) = c) :
    Calls Try.prog 23 #[.agg #[.int .u64 (H1 : Int), .int .u64 (M1 : Int)], .agg #[.int .u64 (H2 : Int), .int .u64 (M2 : Int)]] w fun e w' => e = .returned (.int .i64 c) ∧ Below w.heap.size w w' := by
  have := cmpw_any H1 M1 H2 M2 w h2 h4
  rw [← hc]
  exact this

theorem held_four {wb W W' : World} {p q r s : Addr} {u v u' v' : Value} (hb : Below W.heap.size W W') (h : W.cell? p = some u ∧ W.cell? q = some v ∧ W.cell? r = some u' ∧ W.cell? s = some v' ∧ Below wb.heap.size wb W) :
    W'.cell? p = some u ∧ W'.cell? q = some v ∧ W'.cell? r = some u' ∧ W'.cell? s = some v' ∧ Below wb.heap.size wb W' := held_more4 hb h

/-- A variable made ahead of a call, still there behind it. -/
def Var (w : World) (g : Nat) : Prop := w.cell? ⟨g, 0, none⟩ = some (.slice none 0 0) ∧ w.frozen? ⟨g, 0, none⟩ = false
theorem Var.lt {w : World} {g : Nat} (h : Var w g) : g < w.heap.size := World.block_lt_of_cell? w _ h.1
theorem Var.below {w w' : World} {g : Nat} (h : Var w g) (hb : Below w.heap.size w w') : Var w' g := ⟨(hb.cell (World.block_lt_of_cell? w _ h.1)).trans h.1, (hb.frozen (World.block_lt_of_cell? w _ h.1)).trans h.2⟩
theorem Var.alloc {w : World} {g : Nat} (h : Var w g) (o : Obj) : Var (w.alloc o) g := h.below (below1 w o)
theorem Var.new (w : World) : Var (w.alloc (.cells #[.slice none 0 0] 25)) w.heap.size := ⟨(Blk.new w _ _).cell 0, (Blk.new w _ _).frozen 0⟩
theorem num_set {w : World} {L g : Nat} {v u : Value} {a : Nat} (h : Num w L v a) (hv : Var w g) : Num (w.setCell ⟨g, 0, none⟩ u) L v a := by
  obtain ⟨A, xs, n, c, h1, hl, h2, h3, h4, h5⟩ := h
  refine ⟨A, xs, n, c, h1, hl, h2, ?_, h4, h5⟩
  rw [setCell_size]
  intro hx
  obtain ⟨b, o, e1, e2, e3⟩ := h3 hx
  refine ⟨b, o, e1, e2, fun k hk => ?_⟩
  rw [World.cell?_setCell_other w _ _ u (fun e => by have := e3 k hk; rw [← e, hv.1] at this; cases this)]
  exact e3 k hk
theorem Var.set {w : World} {g g' : Nat} {u : Value} (h : Var w g) (hg : g' ≠ g) : Var (w.setCell ⟨g', 0, none⟩ u) g := by
  refine ⟨(World.cell?_setCell_other w _ _ u (fun e => hg (by injection e))).trans h.1, ?_⟩
  have := h.2
  rw [← this]
  exact World.frozen?_of_block (Below.heap_setCell w _ _ _ (fun e => hg e.symm))
theorem na1 {w w' : World} (hb : Below (w.alloc (.cells #[.slice none 0 0] 25)).heap.size (w.alloc (.cells #[.slice none 0 0] 25)) w') : Var w' w.heap.size := (Var.new w).below hb
theorem na2 {w w' : World} (hb : Below ((w.alloc (.cells #[.slice none 0 0] 25)).alloc (.cells #[.slice none 0 0] 25)).heap.size ((w.alloc (.cells #[.slice none 0 0] 25)).alloc (.cells #[.slice none 0 0] 25)) w') : Var w' w.heap.size ∧ Var w' (w.heap.size + 1) :=
  ⟨((Var.new w).alloc _).below hb, by have := (Var.new (w.alloc (.cells #[.slice none 0 0] 25))).below hb; simpa using this⟩
theorem na1d {w w' : World} (hb : Below (w.alloc (.cells #[.slice none 0 0] 25)).drew.heap.size (w.alloc (.cells #[.slice none 0 0] 25)).drew w') : Var w' w.heap.size := (show Var (w.alloc (.cells #[.slice none 0 0] 25)).drew w.heap.size from Var.new w).below hb
theorem na2d {w w' : World} (hb : Below ((w.alloc (.cells #[.slice none 0 0] 25)).alloc (.cells #[.slice none 0 0] 25)).drew.heap.size ((w.alloc (.cells #[.slice none 0 0] 25)).alloc (.cells #[.slice none 0 0] 25)).drew w') : Var w' w.heap.size ∧ Var w' (w.heap.size + 1) :=
  ⟨(show Var ((w.alloc (.cells #[.slice none 0 0] 25)).alloc (.cells #[.slice none 0 0] 25)).drew w.heap.size from (Var.new w).alloc _).below hb,
    by have := (show Var ((w.alloc (.cells #[.slice none 0 0] 25)).alloc (.cells #[.slice none 0 0] 25)).drew _ from Var.new (w.alloc (.cells #[.slice none 0 0] 25))).below hb; simpa using this⟩
theorem nc1 {w w' : World} {g : Nat} {o : Obj} (hb : Below (w.alloc o).heap.size (w.alloc o) w') (h : Var w g) : Var w' g := (h.alloc o).below hb
theorem nc2 {w w' : World} {g g' : Nat} (hb : Below w.heap.size w w') (h : Var w g ∧ Var w g') : Var w' g ∧ Var w' g' := ⟨h.1.below hb, h.2.below hb⟩

theorem na1w {w w' : World} {b1 b2 : Obj} (hb : Below (((w.alloc b1).alloc b2).alloc (.cells #[.slice none 0 0] 25)).drew.heap.size (((w.alloc b1).alloc b2).alloc (.cells #[.slice none 0 0] 25)).drew w') : Var w' (w.heap.size + 1 + 1) := by have := na1d hb; simpa using this
theorem na2w {w w' : World} {b1 b2 : Obj} (hb : Below ((((w.alloc b1).alloc b2).alloc (.cells #[.slice none 0 0] 25)).alloc (.cells #[.slice none 0 0] 25)).drew.heap.size ((((w.alloc b1).alloc b2).alloc (.cells #[.slice none 0 0] 25)).alloc (.cells #[.slice none 0 0] 25)).drew w') : Var w' (w.heap.size + 1 + 1) ∧ Var w' (w.heap.size + 1 + 1 + 1) := by
  have := na2d hb; simpa using this

/-- All old cells and marks read as before. -/
theorem bcell {W w1 : World} (hb : Below W.heap.size W w1) : (∀ b o, b < W.heap.size → w1.cell? ⟨b, o, none⟩ = W.cell? ⟨b, o, none⟩) ∧ (∀ b o, b < W.heap.size → w1.frozen? ⟨b, o, none⟩ = W.frozen? ⟨b, o, none⟩) :=
  ⟨fun _ _ h => hb.cell h, fun _ _ h => hb.frozen h⟩

theorem held_set {wb W : World} {p q r s : Addr} {u v u' v' x : Value} {g : Nat} (hg : wb.heap.size ≤ g) (hp : p.block < wb.heap.size) (hq : q.block < wb.heap.size) (hr : r.block < wb.heap.size) (hs : s.block < wb.heap.size)
    (h : W.cell? p = some u ∧ W.cell? q = some v ∧ W.cell? r = some u' ∧ W.cell? s = some v' ∧ Below wb.heap.size wb W) :
    (W.setCell ⟨g, 0, none⟩ x).cell? p = some u ∧ (W.setCell ⟨g, 0, none⟩ x).cell? q = some v ∧ (W.setCell ⟨g, 0, none⟩ x).cell? r = some u' ∧ (W.setCell ⟨g, 0, none⟩ x).cell? s = some v' ∧ Below wb.heap.size wb (W.setCell ⟨g, 0, none⟩ x) := by
  have k : ∀ a : Addr, a.block < wb.heap.size → (W.setCell ⟨g, 0, none⟩ x).cell? a = W.cell? a := fun a ha => World.cell?_setCell_other W _ _ _ (fun e => by rw [← e] at ha; simp at ha; omega)
  exact ⟨(k p hp).trans h.1, (k q hq).trans h.2.1, (k r hr).trans h.2.2.1, (k s hs).trans h.2.2.2.1, h.2.2.2.2.setCell hg _⟩

set_option maxRecDepth 100000 in
set_option maxHeartbeats 3200000 in
theorem wideBig_walk (H1 M1 H2 M2 n : Nat) (h1 : H1 < 18446744073709551616) (h2 : M1 < 18446744073709551616) (h3 : H2 < 18446744073709551616) (h4 : M2 < 18446744073709551616) (hn : n < 18446744073709551616) (w : World) :
    Calls Try.prog 4 #[.agg #[.int .u64 (H1 : Int), .int .u64 (M1 : Int)], .agg #[.int .u64 (H2 : Int), .int .u64 (M2 : Int)], .int .u64 (n : Int)] w fun e w' => e = .returned (.bool true) ∧ Below w.heap.size w w' := by
  have hbx1 := (Blk.new w 30 #[.int .u64 (H1 : Int), .int .u64 (M1 : Int)]).alloc (.cells #[.int .u64 (H2 : Int), .int .u64 (M2 : Int)] 30)
  have hbx2 := Blk.new (w.alloc (.cells #[.int .u64 (H1 : Int), .int .u64 (M1 : Int)] 30)) 30 #[.int .u64 (H2 : Int), .int .u64 (M2 : Int)]
  rw [show (w.alloc (.cells #[.int .u64 (H1 : Int), .int .u64 (M1 : Int)] 30)).heap.size = w.heap.size + 1 by simp] at hbx2
  have ca0 := hbx1.cell 0
  have ca1 := hbx1.cell 1
  have cb0 := hbx2.cell 0
  have cb1 := hbx2.cell 1
  have HB1 := Lib.hid hbx1
  have HB2 := Lib.hid hbx2
  have hbw := below2 w (.cells #[.int .u64 (H1 : Int), .int .u64 (M1 : Int)] 30) (.cells #[.int .u64 (H2 : Int), .int .u64 (M2 : Int)] 30)
  clear hbx1 hbx2
  go_enter Try.func4, Try.ntmps4
  go_upto_region 1 with (fail)
  go_cut [7, 8] (fun p7 p8 wr => ∃ (g7 g8 : Nat) (A7 A8 : Option Addr) (n7 c7 n8 c8 : Nat), p7 = .pointer (some ⟨g7, 0, none⟩) ∧ p8 = .pointer (some ⟨g8, 0, none⟩) ∧ BigMem w H1 M1 H2 M2 g7 g8 (.slice A7 n7 c7) (.slice A8 n8 c8) wr)
  case first =>
    go_region_held3 (fun w' => w'.cell? ⟨w.heap.size, 0, none⟩ = some (.int .u64 (H1 : Int)) ∧ w'.cell? ⟨w.heap.size, 1, none⟩ = some (.int .u64 (M1 : Int)) ∧ w'.cell? ⟨w.heap.size + 1, 0, none⟩ = some (.int .u64 (H2 : Int)) ∧
      w'.cell? ⟨w.heap.size + 1, 1, none⟩ = some (.int .u64 (M2 : Int)) ∧
      Below ((w.alloc (.cells #[.int .u64 (H1 : Int), .int .u64 (M1 : Int)] 30)).alloc (.cells #[.int .u64 (H2 : Int), .int .u64 (M2 : Int)] 30)).heap.size
        ((w.alloc (.cells #[.int .u64 (H1 : Int), .int .u64 (M1 : Int)] 30)).alloc (.cells #[.int .u64 (H2 : Int), .int .u64 (M2 : Int)] 30)) w')
      (first | exact ⟨ca0, ca1, cb0, cb1, (Below.refl _ _).drew⟩ | assumption | exact held_four (below1 _ _) ⟨ca0, ca1, cb0, cb1, (Below.refl _ _).drew⟩ | exact held_four (below2 _ _ _) ⟨ca0, ca1, cb0, cb1, (Below.refl _ _).drew⟩ | exact held_four (below1 _ _) (by assumption) | exact held_four (below2 _ _ _) (by assumption) | exact held_set (by first | (simp; done) | (simp; omega)) (by first | (simp; done) | (simp; omega)) (by first | (simp; done) | (simp; omega)) (by first | (simp; done) | (simp; omega)) (by first | (simp; done) | (simp; omega)) (by assumption) | exact held_four (below1 _ _) (held_set (by first | (simp; done) | (simp; omega)) (by first | (simp; done) | (simp; omega)) (by first | (simp; done) | (simp; omega)) (by first | (simp; done) | (simp; omega)) (by first | (simp; done) | (simp; omega)) (by assumption)) | exact held_set (by first | (simp; done) | (simp; omega)) (by first | (simp; done) | (simp; omega)) (by first | (simp; done) | (simp; omega)) (by first | (simp; done) | (simp; omega)) (by first | (simp; done) | (simp; omega)) (held_set (by first | (simp; done) | (simp; omega)) (by first | (simp; done) | (simp; omega)) (by first | (simp; done) | (simp; omega)) (by first | (simp; done) | (simp; omega)) (by first | (simp; done) | (simp; omega)) (by assumption)))
      (first
        | (go_at_call 17; (with_reducible refine (wide_any H1 M1 _ h1 h2).mono ?_); rintro e w' ⟨v7, rfl, hnum7, hb7⟩; obtain ⟨A7, n7, c7, rfl⟩ := hnum7.shape; have HN7 := Lib.hid hnum7; clear hnum7; have hz7 := hb7.size; (try simp at hz7); have hS7 := held_four hb7 (by assumption); (first | (have kk := na2w hb7; have lc1 := kk.1.lt; have lc2 := kk.2.lt; have kq := kk; obtain ⟨⟨kc1, kf1⟩, kc2, kf2⟩ := kq) | (have k := na1w hb7; have lc1 := k.lt; have kq := k; obtain ⟨kc1, kf1⟩ := kq) | skip))
        | (go_at_call 17; (with_reducible refine (wide_any H2 M2 _ h3 h4).mono ?_); rintro e w'' ⟨v8, rfl, hnum8, hb8⟩; obtain ⟨A8, n8, c8, rfl⟩ := hnum8.shape; have HN8 := Lib.hid hnum8; clear hnum8; have hz8 := hb8.size; (try simp at hz8); have hS8 := held_four hb8 (by assumption); (first | have HM7 := Lib.hid (HN7.out.below hb8) | have HM7 := Lib.hid ((HN7.out.alloc _).below hb8) | have HM7 := Lib.hid (((HN7.out.alloc _).alloc _).below hb8)); (first | (have mm := nc2 hb8 kk; have ld1 := mm.1.lt; have ld2 := mm.2.lt; obtain ⟨⟨kd1, kg1⟩, kd2, kg2⟩ := mm) | (have mm := na2 hb8; have ld1 := mm.1.lt; have ld2 := mm.2.lt; obtain ⟨⟨kd1, kg1⟩, kd2, kg2⟩ := mm) | (have mm := na1 hb8; have nn := nc1 hb8 k; have ld1 := mm.lt; have ld2 := nn.lt; obtain ⟨kd1, kg1⟩ := mm; obtain ⟨kd2, kg2⟩ := nn) | (have mm := na1 hb8; have ld1 := mm.lt; obtain ⟨kd1, kg1⟩ := mm) | (have mm := k.below hb8; have ld1 := mm.lt; obtain ⟨kd1, kg1⟩ := mm) | skip)))
    all_goals
      go_wp2_with fail
      go_meet
      refine ⟨_, _, A7, A8, n7, c7, n8, c8, rfl, rfl, ?_⟩
      refine BigMem.of hbw (by assumption) ?_ ?_ ?_ ?_
      · first | (go_simp; done) | rfl | (trace "XLEFT"; sorry)
      · first | (go_simp; done) | rfl | (trace "YLEFT"; sorry)
      · (first | exact ⟨_, (HM7.out.alloc _).alloc _⟩ | exact ⟨_, (num_set HM7.out ⟨kd1, kg1⟩).alloc _⟩ | exact ⟨_, (num_set HM7.out ⟨kd2, kg2⟩).alloc _⟩ | exact ⟨_, num_set (num_set HM7.out ⟨kd1, kg1⟩) (Var.set ⟨kd2, kg2⟩ (by omega))⟩ | exact ⟨_, num_set (num_set HM7.out ⟨kd2, kg2⟩) (Var.set ⟨kd1, kg1⟩ (by omega))⟩ | (trace "LEFT"; sorry))
      · (first | exact ⟨_, (HN8.out.alloc _).alloc _⟩ | exact ⟨_, (num_set HN8.out ⟨kd1, kg1⟩).alloc _⟩ | exact ⟨_, (num_set HN8.out ⟨kd2, kg2⟩).alloc _⟩ | exact ⟨_, num_set (num_set HN8.out ⟨kd1, kg1⟩) (Var.set ⟨kd2, kg2⟩ (by omega))⟩ | exact ⟨_, num_set (num_set HN8.out ⟨kd2, kg2⟩) (Var.set ⟨kd1, kg1⟩ (by omega))⟩ | (trace "LEFT"; sorry))
  case rest =>
    clear ca0 ca1 cb0 cb1 HB1 HB2 hbw
    obtain ⟨g7, g8, A7, A8, n7, c7, n8, c8, rfl, rfl, hm⟩ := hcut
    have x0 := hm.a0
    have x1 := hm.a1
    have y0 := hm.b0
    have y1 := hm.b1
    go_wp2_with fail
    refine (sumw_any H1 M1 H2 M2 _ h1 h2 h3 h4).mono ?_
    rintro e w1 ⟨SH, SL, sk, rfl, hSH, hSL, hsk, hsy, hsn, hb1⟩
    have HSK := Lib.hid hsk
    have HSY := Lib.hid hsy
    have HSN := Lib.hid hsn
    have hm1 := (hm.step hb1).step (below1 w1 (.cells #[.int .u64 (SH : Int), .int .u64 (SL : Int)] 30))
    have hw9 := Wid.new w1 SH SL
    have x0 := hm1.a0
    have x1 := hm1.a1
    have y0 := hm1.b0
    have y1 := hm1.b1
    clear hsk hsy hsn hb1 hm
    go_wp2_with fail
    refine (lessw_any H1 M1 H2 M2 _ h1 h2 h3 h4).mono ?_
    rintro e w2 ⟨DH, DL, dk, rfl, hDH, hDL, hdk, hdy, hdn, hb2⟩
    have HDK := Lib.hid hdk
    have HDY := Lib.hid hdy
    have HDN := Lib.hid hdn
    have hm2 := (hm1.step hb2).step (below1 w2 (.cells #[.int .u64 (DH : Int), .int .u64 (DL : Int)] 30))
    have hw9 := (hw9.below hb2).below (below1 w2 (.cells #[.int .u64 (DH : Int), .int .u64 (DL : Int)] 30))
    have hw11 := Wid.new w2 DH DL
    have x0 := hm2.a0
    have x1 := hm2.a1
    have y0 := hm2.b0
    have y1 := hm2.b1
    clear hdk hdy hdn hb2 hm1
    go_wp2_with fail
    refine (timesw_any H1 M1 n _ h1 h2 hn).mono ?_
    rintro e w3 ⟨TH, TL, tk, rfl, hTH, hTL, htk, hty, htn, hb3⟩
    have HTK := Lib.hid htk
    have HTY := Lib.hid hty
    have HTN := Lib.hid htn
    have hm3 := (hm2.step hb3).step (below1 w3 (.cells #[.int .u64 (TH : Int), .int .u64 (TL : Int)] 30))
    have hw9 := (hw9.below hb3).below (below1 w3 (.cells #[.int .u64 (TH : Int), .int .u64 (TL : Int)] 30))
    have hw11 := (hw11.below hb3).below (below1 w3 (.cells #[.int .u64 (TH : Int), .int .u64 (TL : Int)] 30))
    have hw13 := Wid.new w3 TH TL
    have x0 := hm3.a0
    have x1 := hm3.a1
    have y0 := hm3.b0
    have y1 := hm3.b1
    clear htk hty htn hb3 hm2
    go_wp2_with fail
    refine (fits_all H1 M1 _ h2).mono ?_
    rintro e w4 ⟨rfl, hb4⟩
    generalize hf : fw (H1 * 18446744073709551616 + M1) = F
    generalize hfk : fb (H1 * 18446744073709551616 + M1) = fk
    have HF := Lib.hid hf
    have HFK := Lib.hid hfk
    have hm4 := hm3.step hb4
    have hw9 := hw9.below hb4
    have hw11 := hw11.below hb4
    have hw13 := hw13.below hb4
    have gx := hm4.x
    have gy := hm4.y
    clear hf hfk hb4 hm3 x0 x1 y0 y1
    obtain ⟨L7, hn7⟩ := hm4.nx
    obtain ⟨L8, hn8⟩ := hm4.ny
    have HN7 := Lib.hid hn7
    have HN8 := Lib.hid hn8
    clear hn7 hn8
    go_wp2_with fail
    refine (cmp_num _ _ _ _ _ _ _ HN7.out HN8.out (pow_big (wide_big h1 h2)) (pow_big (wide_big h3 h4))).mono ?_
    rintro e w5 ⟨rfl, hb5⟩
    have hm5 := hm4.step hb5
    have hw9 := hw9.below hb5
    have hw11 := hw11.below hb5
    have hw13 := hw13.below hb5
    have HX := Lib.hid (HN7.out.below hb5)
    have HY := Lib.hid (HN8.out.below hb5)
    clear gx gy HN7 HN8 hm4 hb5
    generalize hc : cmpI (H1 * 18446744073709551616 + M1) (H2 * 18446744073709551616 + M2) = c
    have HC := Lib.hid hc
    have t0 := hm5.x
    have t1 := hm5.y
    have t2 := hw9.1
    have t3 := hw9.2
    have t4 := hw13.1
    have t5 := hw13.2
    have t6 := hm5.a0
    have t7 := hm5.a1
    have t8 := hm5.b0
    have t9 := hm5.b1
    have px := pow_big (wide_big h1 h2)
    have py := pow_big (wide_big h3 h4)
    clear hc
    go_wp2_with fail
    go_region_held3 (fun w' => w'.cell? ⟨g7, 0, none⟩ = some (.slice A7 n7 c7) ∧ w'.cell? ⟨g8, 0, none⟩ = some (.slice A8 n8 c8) ∧ w'.cell? ⟨w1.heap.size, 0, none⟩ = some (.int .u64 (SH : Int)) ∧ w'.cell? ⟨w1.heap.size, 1, none⟩ = some (.int .u64 (SL : Int)) ∧ w'.cell? ⟨w3.heap.size, 0, none⟩ = some (.int .u64 (TH : Int)) ∧ w'.cell? ⟨w3.heap.size, 1, none⟩ = some (.int .u64 (TL : Int)) ∧ w'.cell? ⟨w.heap.size, 0, none⟩ = some (.int .u64 (H1 : Int)) ∧ w'.cell? ⟨w.heap.size, 1, none⟩ = some (.int .u64 (M1 : Int)) ∧ w'.cell? ⟨w.heap.size + 1, 0, none⟩ = some (.int .u64 (H2 : Int)) ∧ w'.cell? ⟨w.heap.size + 1, 1, none⟩ = some (.int .u64 (M2 : Int)) ∧ Below w5.heap.size w5 w')
      (first | exact ⟨t0, t1, t2, t3, t4, t5, t6, t7, t8, t9, (Below.refl _ _).drew⟩ | assumption)
      (first
        | (go_at_call 12; (with_reducible refine (add_num _ _ _ _ _ _ _ (num_far10 HX.out (by assumption)) (num_far10 HY.out (by assumption)) px py).mono ?_); rintro e u1 ⟨v1, rfl, hn1, hb1⟩; have N1 := Lib.hid hn1; clear hn1; have hS1 := held_ten hb1 (by assumption))
        | (go_at_call 14; (with_reducible refine (big_true SH SL sk _ v1 _ _ hSH hSL N1.out HSK.out HSY.out HSN.out).mono ?_); rintro e u2 ⟨rfl, hb2⟩; have hS2 := held_ten hb2 (by assumption))
        | (go_at_call 6; (with_reducible refine (of_any n _ hn).mono ?_); rintro e u3 ⟨v3, rfl, hn3, hb3⟩; have N3 := Lib.hid hn3; clear hn3; have hS3 := held_ten hb3 (by assumption))
        | (go_at_call 13; (with_reducible refine (mul_num _ v3 _ _ _ _ _ (num_far10 HX.out (by assumption)) N3.out px (pow_word hn)).mono ?_); rintro e u4 ⟨v4, rfl, hn4, hb4⟩; have N4 := Lib.hid hn4; clear hn4; have hS4 := held_ten hb4 (by assumption))
        | (go_at_call 14; (with_reducible refine (big_true TH TL tk _ v4 _ _ hTH hTL N4.out HTK.out HTY.out HTN.out).mono ?_); rintro e u5 ⟨rfl, hb5⟩; have hS5 := held_ten hb5 (by assumption))
        | (go_at_call 11; (with_reducible refine (small_true F fk _ _ _ _ (num_far10 HX.out (by assumption)) HF.out.symm HFK.out.symm).mono ?_); rintro e u6 ⟨rfl, hb6⟩; have hS6 := held_ten hb6 (by assumption))
        | (go_at_call 23; (with_reducible refine (cmpw_c H1 M1 H2 M2 c _ h2 h4 HC.out).mono ?_); rintro e u7 ⟨rfl, hb7⟩; have hS7 := held_ten hb7 (by assumption)))
    have hBr := hS7.2.2.2.2.2.2.2.2.2.2
    have hm6 := hm5.step hBr
    have hw11 := hw11.below hBr
    have HX := Lib.hid (HX.out.below hBr)
    have HY := Lib.hid (HY.out.below hBr)
    have hBw := hm6.below
    clear hS1 hS2 hS3 hS4 hS5 hS6 hS7 t0 t1 t2 t3 t4 t5 t6 t7 t8 t9
    have t0 := hm6.x
    have t1 := hm6.y
    have t2 := hw11.1
    have t3 := hw11.2
    have hweq := wide_eq
    have hwg := wide_guard
    by_cases hlt : H1 * 18446744073709551616 + M1 < H2 * 18446744073709551616 + M2
    · obtain rfl : c = -1 := by rw [← HC.out, cmpI_lt hlt]
      obtain rfl : dk = false := by rw [HDK.out]; simp; omega
      obtain ⟨rfl, rfl⟩ := HDN.out rfl
      go_wp2_with fail
      refine (alive_any _).mono ?_
      rintro e w7 ⟨rfl, hb7⟩
      go_wp2_with fail
      go_ret
      exact ⟨by simp, hBw.trans (hb7.mono hBw.size)⟩
    · have hc0 : decide (c < 0) = false := by
        rw [← HC.out]; unfold cmpI; rw [if_neg hlt]; split <;> rfl
      obtain rfl : dk = true := by rw [HDK.out]; simp; omega
      have HFIT : Hid (true = decide (H1 * 18446744073709551616 + M1 - (H2 * 18446744073709551616 + M2) < 340282366920938463463374607431768211456)) := Lib.hid (by simp; omega)
      have HLE : Hid (H2 * 18446744073709551616 + M2 ≤ H1 * 18446744073709551616 + M1) := Lib.hid (by omega)
      have HDT := Lib.hid (HDY.out rfl)
      clear hlt HDY HDN
      go_wp2_with fail
      go_region_held3 (fun u => u.cell? ⟨g7, 0, none⟩ = some (.slice A7 n7 c7) ∧ u.cell? ⟨g8, 0, none⟩ = some (.slice A8 n8 c8) ∧ u.cell? ⟨w2.heap.size, 0, none⟩ = some (.int .u64 (DH : Int)) ∧ u.cell? ⟨w2.heap.size, 1, none⟩ = some (.int .u64 (DL : Int)) ∧
          Below u7.heap.size u7 u)
        (first | exact ⟨t0, t1, t2, t3, (Below.refl _ _).drew⟩ | assumption | (trace "K"; fail))
        (first
          | (go_at_call 16; (with_reducible refine (sub_num _ _ _ _ _ _ _ (num_far HX.out (by assumption)) (num_far HY.out (by assumption)) px HLE.out).mono ?_); rintro e z1 ⟨v1, rfl, hn1, hb1⟩; have N1 := Lib.hid hn1; clear hn1; have hS1 := held_four hb1 (by assumption))
          | (go_at_call 14; (with_reducible refine (big_true DH DL true _ v1 _ _ hDH hDL N1.out HFIT.out (fun _ => HDT.out) (fun h => by cases h)).mono ?_); rintro e z2 ⟨rfl, hb2⟩; have hS2 := held_four hb2 (by assumption))
          | (go_at_call 15; (with_reducible refine (alive_any _).mono ?_); rintro e z3 ⟨rfl, hb3⟩; have hS3 := held_four hb3 (by assumption)))
      have hfin := hS3.2.2.2.2
      have hBf := hBw.trans (hfin.mono hBw.size)
      clear hS1 hS2 hS3
      go_wp2_with fail
      go_ret
      exact ⟨rfl, hBf⟩
end Go.Proofs.Ytgfpkiojbkldiaa
