/-
  SaidStatePuts, part 12 of 26: what the theorem statePuts_holds reaches.
-/
import Derived.Test.YtfoellhoaflofaaGreatP11
import Derived.Deep.DeepCutAuto
namespace Go.Proofs.YtfoellhoaflofaaGreat
open Go.RowKit
set_option maxRecDepth 100000
theorem cut14_take {α : Type} [Inhabited α] {us : α → Bool} {xs : List α} {m e : Nat} (hl : xs.length = m) (he : en14 us xs m = e) : cut14 us xs = xs.take e ∧ e ≤ m ∧ (cut14 us xs).length = e := by
  have h1 := en14_le us xs m
  refine ⟨by rw [cut14, hl, he], by omega, by rw [cut14_len, hl, he]⟩
theorem sa14_trim {w : World} {S : Sv14} {B0 B1 B2 B3 B4 : Option Addr} {m0 m1 m2 m3 m4 d0 d1 d2 d3 d4 : Nat} {sr : Int} {e0 e1 e2 e3 : Nat} (h : SA14 w S B0 B1 B2 B3 B4 m0 m1 m2 m3 m4 d0 d1 d2 d3 d4 sr) (h0 : en14 usC S.C m0 = e0) (h1 : en14 usT S.T m1 = e1) (h2 : en14 usH S.H m2 = e2) (h3 : en14 usL S.L m3 = e3) :
    SA14 w (trim14 S) B0 B1 B2 B3 B4 e0 e1 e2 e3 m4 d0 d1 d2 d3 d4 sr := by
  obtain ⟨a0, b0, c0⟩ := cut14_take h.l0 h0
  obtain ⟨a1, b1, c1⟩ := cut14_take h.l1 h1
  obtain ⟨a2, b2, c2⟩ := cut14_take h.l2 h2
  obtain ⟨a3, b3, c3⟩ := cut14_take h.l3 h3
  have r0 : Lq clC w w.heap.size B0 (cut14 usC S.C) := by rw [a0]; exact h.r0.take len14C _
  have r1 : Lq clT w w.heap.size B1 (cut14 usT S.T) := by rw [a1]; exact h.r1.take len14T _
  have r2 : Lq clH w w.heap.size B2 (cut14 usH S.H) := by rw [a2]; exact h.r2.take len14H _
  have r3 : Lq clL w w.heap.size B3 (cut14 usL S.L) := by rw [a3]; exact h.r3.take len14L _
  exact ⟨c0, c1, c2, c3, h.l4, r0, r1, r2, r3, h.r4, Nat.le_trans b0 h.k0, Nat.le_trans b1 h.k1, Nat.le_trans b2 h.k2, Nat.le_trans b3 h.k3, h.k4, Nat.le_trans b0 h.m0, Nat.le_trans b1 h.m1, Nat.le_trans b2 h.m2, Nat.le_trans b3 h.m3, h.m4, h.e⟩
theorem fa14_trim {L : Nat} {S : Sv14} {B0 B1 B2 B3 B4 : Option Addr} (h : FA14 L S B0 B1 B2 B3 B4) : FA14 L (trim14 S) B0 B1 B2 B3 B4 := by
  have f0 : Fv L B0 (fl14 clC (cut14 usC S.C)) := fv14_take h.f0 _
  have f1 : Fv L B1 (fl14 clT (cut14 usT S.T)) := fv14_take h.f1 _
  have f2 : Fv L B2 (fl14 clH (cut14 usH S.H)) := fv14_take h.f2 _
  have f3 : Fv L B3 (fl14 clL (cut14 usL S.L)) := fv14_take h.f3 _
  exact ⟨f0, f1, f2, f3, h.f4⟩
theorem ex_bool14 (P : Prop) : ∃ b : Bool, (b = true ↔ P) := by
  by_cases h : P
  · exact ⟨true, by simp [h]⟩
  · exact ⟨false, by simp [h]⟩
/-- How long the slice in a cell is. -/
def len14 (w : World) (g i : Nat) : Nat := match w.cell? ⟨g, i, none⟩ with
  | some (.slice _ n _) => n
  | _ => 0
theorem len14_of {w : World} {g i n c : Nat} {A : Option Addr} (h : w.cell? ⟨g, i, none⟩ = some (.slice A n c)) : len14 w g i = n := by simp [len14, h]
/-- While a state's lists are cut: f0 to f3 are how long they are by now. -/
structure Tri14 (w : World) (S : Sv14) (B0 B1 B2 B3 B4 : Option Addr) (m0 m1 m2 m3 m4 d0 d1 d2 d3 d4 : Nat) (sr : Int) (f0 f1 f2 f3 : Nat) (W : World) : Prop where
  b : Below w.heap.size w W
  x : Blk W w.heap.size 28 #[.slice B0 f0 d0, .slice B1 f1 d1, .slice B2 f2 d2, .slice B3 f3 d3, .slice B4 m4 d4, .int .i64 sr]
  y : Blk W (w.heap.size + 1) 28 #[.slice none 0 0, .slice none 0 0, .slice none 0 0, .slice none 0 0, .slice none 0 0, .int .i64 0]
  s : SA14 W S B0 B1 B2 B3 B4 m0 m1 m2 m3 m4 d0 d1 d2 d3 d4 sr
  f : FA14 (w.heap.size + 2) S B0 B1 B2 B3 B4
theorem Tri14.put0 {w : World} {S : Sv14} {B0 B1 B2 B3 B4 : Option Addr} {m0 m1 m2 m3 m4 d0 d1 d2 d3 d4 : Nat} {sr : Int} {f0 f1 f2 f3 : Nat} {W : World} (h : Tri14 w S B0 B1 B2 B3 B4 m0 m1 m2 m3 m4 d0 d1 d2 d3 d4 sr f0 f1 f2 f3 W) (q : Nat) : Tri14 w S B0 B1 B2 B3 B4 m0 m1 m2 m3 m4 d0 d1 d2 d3 d4 sr q f1 f2 f3 (W.setCell ⟨w.heap.size, 0, none⟩ (.slice B0 q d0)) := by
  refine ⟨h.b.setCell (Nat.le_refl _) _, ?_, h.y.far (by simp) _, sa14_set h.s h.f (by simp) _, h.f⟩
  have h1 := h.x.set_ 0 (.slice B0 q d0)
  simpa using h1
theorem Tri14.put1 {w : World} {S : Sv14} {B0 B1 B2 B3 B4 : Option Addr} {m0 m1 m2 m3 m4 d0 d1 d2 d3 d4 : Nat} {sr : Int} {f0 f1 f2 f3 : Nat} {W : World} (h : Tri14 w S B0 B1 B2 B3 B4 m0 m1 m2 m3 m4 d0 d1 d2 d3 d4 sr f0 f1 f2 f3 W) (q : Nat) : Tri14 w S B0 B1 B2 B3 B4 m0 m1 m2 m3 m4 d0 d1 d2 d3 d4 sr f0 q f2 f3 (W.setCell ⟨w.heap.size, 1, none⟩ (.slice B1 q d1)) := by
  refine ⟨h.b.setCell (Nat.le_refl _) _, ?_, h.y.far (by simp) _, sa14_set h.s h.f (by simp) _, h.f⟩
  have h1 := h.x.set_ 1 (.slice B1 q d1)
  simpa using h1
theorem Tri14.put2 {w : World} {S : Sv14} {B0 B1 B2 B3 B4 : Option Addr} {m0 m1 m2 m3 m4 d0 d1 d2 d3 d4 : Nat} {sr : Int} {f0 f1 f2 f3 : Nat} {W : World} (h : Tri14 w S B0 B1 B2 B3 B4 m0 m1 m2 m3 m4 d0 d1 d2 d3 d4 sr f0 f1 f2 f3 W) (q : Nat) : Tri14 w S B0 B1 B2 B3 B4 m0 m1 m2 m3 m4 d0 d1 d2 d3 d4 sr f0 f1 q f3 (W.setCell ⟨w.heap.size, 2, none⟩ (.slice B2 q d2)) := by
  refine ⟨h.b.setCell (Nat.le_refl _) _, ?_, h.y.far (by simp) _, sa14_set h.s h.f (by simp) _, h.f⟩
  have h1 := h.x.set_ 2 (.slice B2 q d2)
  simpa using h1
theorem Tri14.put3 {w : World} {S : Sv14} {B0 B1 B2 B3 B4 : Option Addr} {m0 m1 m2 m3 m4 d0 d1 d2 d3 d4 : Nat} {sr : Int} {f0 f1 f2 f3 : Nat} {W : World} (h : Tri14 w S B0 B1 B2 B3 B4 m0 m1 m2 m3 m4 d0 d1 d2 d3 d4 sr f0 f1 f2 f3 W) (q : Nat) : Tri14 w S B0 B1 B2 B3 B4 m0 m1 m2 m3 m4 d0 d1 d2 d3 d4 sr f0 f1 f2 q (W.setCell ⟨w.heap.size, 3, none⟩ (.slice B3 q d3)) := by
  refine ⟨h.b.setCell (Nat.le_refl _) _, ?_, h.y.far (by simp) _, sa14_set h.s h.f (by simp) _, h.f⟩
  have h1 := h.x.set_ 3 (.slice B3 q d3)
  simpa using h1
set_option maxHeartbeats 8000000 in
theorem rtrim14 (v : Value) (S : Sv14) (w : World) (h : St14 w v S) : Calls Tryz.prog 14 #[v] w (RetSt14 w (trim14 S)) := by
  obtain ⟨A0, A1, A2, A3, A4, n0, n1, n2, n3, n4, c0, c1, c2, c3, c4, sq, rfl, hs⟩ := h
  have hb0 := (b1' w (.cells #[.slice A0 n0 c0, .slice A1 n1 c1, .slice A2 n2 c2, .slice A3 n3 c3, .slice A4 n4 c4, .int .i64 sq] 28)).alloc (by simp) (.cells #[.slice none 0 0, .slice none 0 0, .slice none 0 0, .slice none 0 0, .slice none 0 0, .int .i64 0] 28)
  have hk0 := (Blk.new w 28 #[.slice A0 n0 c0, .slice A1 n1 c1, .slice A2 n2 c2, .slice A3 n3 c3, .slice A4 n4 c4, .int .i64 sq]).alloc (.cells #[.slice none 0 0, .slice none 0 0, .slice none 0 0, .slice none 0 0, .slice none 0 0, .int .i64 0] 28)
  have hr0 := Blk.new (w.alloc (.cells #[.slice A0 n0 c0, .slice A1 n1 c1, .slice A2 n2 c2, .slice A3 n3 c3, .slice A4 n4 c4, .int .i64 sq] 28)) 28 #[.slice none 0 0, .slice none 0 0, .slice none 0 0, .slice none 0 0, .slice none 0 0, .int .i64 0]
  rw [show (w.alloc (.cells #[.slice A0 n0 c0, .slice A1 n1 c1, .slice A2 n2 c2, .slice A3 n3 c3, .slice A4 n4 c4, .int .i64 sq] 28)).heap.size = w.heap.size + 1 by simp] at hr0
  have hz0 : ((w.alloc (.cells #[.slice A0 n0 c0, .slice A1 n1 c1, .slice A2 n2 c2, .slice A3 n3 c3, .slice A4 n4 c4, .int .i64 sq] 28)).alloc (.cells #[.slice none 0 0, .slice none 0 0, .slice none 0 0, .slice none 0 0, .slice none 0 0, .int .i64 0] 28)).heap.size = w.heap.size + 2 := by simp
  obtain ⟨W0, hW0⟩ : ∃ W, (w.alloc (.cells #[.slice A0 n0 c0, .slice A1 n1 c1, .slice A2 n2 c2, .slice A3 n3 c3, .slice A4 n4 c4, .int .i64 sq] 28)).alloc (.cells #[.slice none 0 0, .slice none 0 0, .slice none 0 0, .slice none 0 0, .slice none 0 0, .int .i64 0] 28) = W := ⟨_, rfl⟩
  rw [hW0] at hb0 hk0 hr0 hz0
  have HCP := Lib.hid (rcopy14 (.agg #[.slice A0 n0 c0, .slice A1 n1 c1, .slice A2 n2 c2, .slice A3 n3 c3, .slice A4 n4 c4, .int .i64 sq]) S W0 ⟨A0, A1, A2, A3, A4, n0, n1, n2, n3, n4, c0, c1, c2, c3, c4, sq, rfl, ⟨hs.l0, hs.l1, hs.l2, hs.l3, hs.l4, ((hs.r0.below hb0 (Nat.le_refl _)).more hb0.size), ((hs.r1.below hb0 (Nat.le_refl _)).more hb0.size), ((hs.r2.below hb0 (Nat.le_refl _)).more hb0.size), ((hs.r3.below hb0 (Nat.le_refl _)).more hb0.size), ((hs.r4.below hb0 (Nat.le_refl _)).more hb0.size), hs.k0, hs.k1, hs.k2, hs.k3, hs.k4, hs.m0, hs.m1, hs.m2, hs.m3, hs.m4, hs.e⟩⟩)
  have HK0 := Lib.hid hk0
  have HR0 := Lib.hid hr0
  have HB0 := Lib.hid hb0
  have HZ0 := Lib.hid hz0
  have q0 := hk0.cell 0
  have q1 := hk0.cell 1
  have q2 := hk0.cell 2
  have q3 := hk0.cell 3
  have q4 := hk0.cell 4
  have q5 := hk0.cell 5
  clear hs hk0 hr0 hb0 hz0
  go_enter Tryz.func14, Tryz.ntmps14
  go_wp2_with fail
  refine HCP.out.mono ?_
  rintro e u ⟨B0, B1, B2, B3, B4, m0, m1, m2, m3, m4, d0, d1, d2, d3, d4, sr, rfl, hoa, hbu⟩
  have hk1 := HK0.out.below hbu HK0.out.lt
  have k0 := hk1.cell 0
  have l0 := hk1.frozen 0
  have k1 := hk1.cell 1
  have l1 := hk1.frozen 1
  have k2 := hk1.cell 2
  have l2 := hk1.frozen 2
  have k3 := hk1.cell 3
  have l3 := hk1.frozen 3
  have k4 := hk1.cell 4
  have l4 := hk1.frozen 4
  have k5 := hk1.cell 5
  have l5 := hk1.frozen 5
  have hx1 : Blk ((((((u.setCell ⟨w.heap.size, 0, none⟩ (.slice B0 m0 d0)).setCell ⟨w.heap.size, 1, none⟩ (.slice B1 m1 d1)).setCell ⟨w.heap.size, 2, none⟩ (.slice B2 m2 d2)).setCell ⟨w.heap.size, 3, none⟩ (.slice B3 m3 d3)).setCell ⟨w.heap.size, 4, none⟩ (.slice B4 m4 d4)).setCell ⟨w.heap.size, 5, none⟩ (.int .i64 sr)) w.heap.size 28 #[.slice B0 m0 d0, .slice B1 m1 d1, .slice B2 m2 d2, .slice B3 m3 d3, .slice B4 m4 d4, .int .i64 sr] := by
    have h := ((((((hk1.set_ 0 (.slice B0 m0 d0)).set_ 1 (.slice B1 m1 d1)).set_ 2 (.slice B2 m2 d2)).set_ 3 (.slice B3 m3 d3)).set_ 4 (.slice B4 m4 d4)).set_ 5 (.int .i64 sr))
    simpa using h
  have hy1 := ((((((HR0.out.below hbu HR0.out.lt).far (p := ⟨w.heap.size, 0, none⟩) (by simp) (.slice B0 m0 d0)).far (p := ⟨w.heap.size, 1, none⟩) (by simp) (.slice B1 m1 d1)).far (p := ⟨w.heap.size, 2, none⟩) (by simp) (.slice B2 m2 d2)).far (p := ⟨w.heap.size, 3, none⟩) (by simp) (.slice B3 m3 d3)).far (p := ⟨w.heap.size, 4, none⟩) (by simp) (.slice B4 m4 d4)).far (p := ⟨w.heap.size, 5, none⟩) (by simp) (.int .i64 sr)
  have hb1 := ((((((HB0.out.trans (hbu.mono HB0.out.size)).setCell (p := ⟨w.heap.size, 0, none⟩) (Nat.le_refl _) (.slice B0 m0 d0)).setCell (p := ⟨w.heap.size, 1, none⟩) (Nat.le_refl _) (.slice B1 m1 d1)).setCell (p := ⟨w.heap.size, 2, none⟩) (Nat.le_refl _) (.slice B2 m2 d2)).setCell (p := ⟨w.heap.size, 3, none⟩) (Nat.le_refl _) (.slice B3 m3 d3)).setCell (p := ⟨w.heap.size, 4, none⟩) (Nat.le_refl _) (.slice B4 m4 d4)).setCell (p := ⟨w.heap.size, 5, none⟩) (Nat.le_refl _) (.int .i64 sr)
  have hoa1 := (((((hoa.far (q := ⟨w.heap.size, 0, none⟩) (by rw [HZ0.out]; simp) (.slice B0 m0 d0)).far (q := ⟨w.heap.size, 1, none⟩) (by rw [HZ0.out]; simp) (.slice B1 m1 d1)).far (q := ⟨w.heap.size, 2, none⟩) (by rw [HZ0.out]; simp) (.slice B2 m2 d2)).far (q := ⟨w.heap.size, 3, none⟩) (by rw [HZ0.out]; simp) (.slice B3 m3 d3)).far (q := ⟨w.heap.size, 4, none⟩) (by rw [HZ0.out]; simp) (.slice B4 m4 d4)).far (q := ⟨w.heap.size, 5, none⟩) (by rw [HZ0.out]; simp) (.int .i64 sr)
  obtain ⟨W1, hW1⟩ : ∃ W, ((((((u.setCell ⟨w.heap.size, 0, none⟩ (.slice B0 m0 d0)).setCell ⟨w.heap.size, 1, none⟩ (.slice B1 m1 d1)).setCell ⟨w.heap.size, 2, none⟩ (.slice B2 m2 d2)).setCell ⟨w.heap.size, 3, none⟩ (.slice B3 m3 d3)).setCell ⟨w.heap.size, 4, none⟩ (.slice B4 m4 d4)).setCell ⟨w.heap.size, 5, none⟩ (.int .i64 sr)) = W := ⟨_, rfl⟩
  rw [hW1] at hx1 hy1 hb1 hoa1
  have HT : Hid (Tri14 w S B0 B1 B2 B3 B4 m0 m1 m2 m3 m4 d0 d1 d2 d3 d4 sr m0 m1 m2 m3 W1) := Lib.hid ⟨hb1, hx1, hy1, hoa1.sa, by have h := hoa1.fa; rwa [HZ0.out] at h⟩
  obtain ⟨e0, he0⟩ : ∃ e, en14 usC S.C m0 = e := ⟨_, rfl⟩
  have HE0 := Lib.hid he0
  obtain ⟨e1, he1⟩ : ∃ e, en14 usT S.T m1 = e := ⟨_, rfl⟩
  have HE1 := Lib.hid he1
  obtain ⟨e2, he2⟩ : ∃ e, en14 usH S.H m2 = e := ⟨_, rfl⟩
  have HE2 := Lib.hid he2
  obtain ⟨e3, he3⟩ : ∃ e, en14 usL S.L m3 = e := ⟨_, rfl⟩
  have HE3 := Lib.hid he3
  clear HCP hbu hoa hk1 hx1 hy1 hb1 hoa1 he0 he1 he2 he3 q0 q1 q2 q3 q4 q5
  go_wp2_with fail
  clear k0 l0 k1 l1 k2 l2 k3 l3 k4 l4 k5 l5 hW1
  go_loopw [6] (fun _ wr => ∃ k : Nat, k ≤ m0 ∧ Hid (en14 usC S.C m0 = en14 usC S.C k) ∧ Hid (Tri14 w S B0 B1 B2 B3 B4 m0 m1 m2 m3 m4 d0 d1 d2 d3 d4 sr k m1 m2 m3 wr)) (fun _ wr => len14 wr w.heap.size 0)
  case atStart => exact ⟨m0, Nat.le_refl _, Lib.hid rfl, HT⟩
  case round =>
    obtain ⟨k, hk, HEN, HW0⟩ := hrel
    have t0 := HW0.out.x.cell 0
    have tf := HW0.out.x.frozen 0
    have hcap := HW0.out.s.k0
    have hnb := HW0.out.s.m0
    obtain ⟨bg, hbg⟩ := ex_bool14 (∃ q, q + 1 = k ∧ usC (gt14 S.C q) = false)
    have HBG := Lib.hid hbg
    clear hbg
    go_upto_region 2 with (fail)
    go_cut [19] (fun y wx => y = .bool bg ∧ wx = wr)
    case first =>
      by_cases hk0 : k = 0
      · subst hk0
        obtain rfl : bg = false := bool14_of HBG.out (fun ⟨q, hq, _⟩ => by omega)
        clear HBG
        go_wp2_with fail
        go_meet
        exact ⟨rfl, by first | trivial | rfl⟩
      · obtain ⟨q, hqk⟩ : ∃ q, q + 1 = k := ⟨k - 1, by omega⟩
        obtain ⟨b, o, hA, hab, hq⟩ := Lq.at_ len14C (by omega) HW0.out.s.r0 (show q < S.C.length by rw [HW0.out.s.l0]; omega)
        subst hA
        obtain ⟨x, hx⟩ : ∃ x, gt14 S.C q = x := ⟨_, rfl⟩
        have hbx : bg = !usC x := by
          rw [← hx]
          cases hu : usC (gt14 S.C q) with
          | true => exact bool14_of HBG.out (fun ⟨q2, h1, h2⟩ => by
              obtain rfl : q2 = q := by omega
              rw [hu] at h2
              cases h2)
          | false => exact HBG.out.2 ⟨q, hqk, hu⟩
        rw [hx] at hq
        obtain ⟨xu, hxe⟩ : ∃ z0, z0 = x := ⟨_, rfl⟩; subst hxe
        have p0 : wr.cell? ⟨b, o + q, none⟩ = some (.bool xu) := by have h := hq 0 _ rfl; rwa [Nat.mul_one] at h
        have hw : IntKind.i64.wrap ((k : Int) - 1) = (q : Int) := by rw [IntKind.wrap_i64]; omega
        have h1 : (0 : Int) < (k : Int) := by omega
        have i0 : (0 : Int) ≤ (q : Int) := by omega
        have i1 : (q : Int) < (k : Int) := by omega
        clear hq hx hqk HBG
        cases xu with
        | true =>
          obtain rfl : bg = false := hbx
          go_wp2_with fail
          go_meet
          exact ⟨rfl, by first | trivial | rfl⟩
        | false =>
          obtain rfl : bg = true := hbx
          go_wp2_with fail
          go_meet
          exact ⟨rfl, by first | trivial | rfl⟩
    case rest =>
    obtain ⟨rfl, rfl⟩ := hcut
    by_cases hbt : bg = true
    · subst hbt
      have hgo := HBG.out.1 rfl
      obtain ⟨q, hqk, hu⟩ := hgo
      have HE2 : Hid (en14 usC S.C m0 = en14 usC S.C q) := Lib.hid (by rw [HEN.out, ← hqk, en14_no hu])
      have hw : IntKind.i64.wrap ((k : Int) - 1) = (q : Int) := by rw [IntKind.wrap_i64]; omega
      have i0 : (0 : Int) ≤ (q : Int) := by omega
      have i2 : (q : Int) ≤ (d0 : Int) := by omega
      have HN := Lib.hid (HW0.out.put0 q)
      have HM := Lib.hid (len14_of (HN.out.x.cell 0))
      have HM0 := Lib.hid (len14_of t0)
      have HQK := Lib.hid hqk
      clear hu hqk HBG
      go_wp2_with fail
      go_roundw
      case rel => exact ⟨q, by have := HQK.out; omega, HE2, HN⟩
      case measure => rw [HM.out, HM0.out]; have := HQK.out; omega
    · obtain rfl : bg = false := by cases bg <;> simp_all
      have HK0 : Hid (e0 = k) := Lib.hid (by
        rw [← HE0.out, HEN.out]
        refine en14_full.2 ?_
        rcases Nat.eq_zero_or_pos k with h | h
        · exact .inl h
        · refine .inr ?_
          cases hh : usC (gt14 S.C (k - 1)) with
          | true => rfl
          | false => exact absurd (HBG.out.2 ⟨k - 1, by omega, hh⟩) (by decide))
      have HN0 : Hid (Tri14 w S B0 B1 B2 B3 B4 m0 m1 m2 m3 m4 d0 d1 d2 d3 d4 sr e0 m1 m2 m3 wc) := by rw [HK0.out]; exact HW0
      clear HBG t0 tf hcap
      go_wp2_with fail
      go_loopw [28] (fun _ wr => ∃ k : Nat, k ≤ m1 ∧ Hid (en14 usT S.T m1 = en14 usT S.T k) ∧ Hid (Tri14 w S B0 B1 B2 B3 B4 m0 m1 m2 m3 m4 d0 d1 d2 d3 d4 sr e0 k m2 m3 wr)) (fun _ wr => len14 wr w.heap.size 1)
      case atStart => exact ⟨m1, Nat.le_refl _, Lib.hid rfl, HN0⟩
      case round =>
        obtain ⟨k, hk, HEN, HW1⟩ := hrel
        have t0 := HW1.out.x.cell 1
        have tf := HW1.out.x.frozen 1
        have hcap := HW1.out.s.k1
        have hnb := HW1.out.s.m1
        obtain ⟨bg, hbg⟩ := ex_bool14 (∃ q, q + 1 = k ∧ usT (gt14 S.T q) = false)
        have HBG := Lib.hid hbg
        clear hbg
        go_upto_region 4 with (fail)
        go_cut [43] (fun y wx => y = .bool bg ∧ wx = wr)
        case first =>
          by_cases hk0 : k = 0
          · subst hk0
            obtain rfl : bg = false := bool14_of HBG.out (fun ⟨q, hq, _⟩ => by omega)
            clear HBG
            go_wp2_with fail
            go_meet
            exact ⟨rfl, by first | trivial | rfl⟩
          · obtain ⟨q, hqk⟩ : ∃ q, q + 1 = k := ⟨k - 1, by omega⟩
            obtain ⟨b, o, hA, hab, hq⟩ := Lq.at_ len14T (by omega) HW1.out.s.r1 (show q < S.T.length by rw [HW1.out.s.l1]; omega)
            subst hA
            obtain ⟨x, hx⟩ : ∃ x, gt14 S.T q = x := ⟨_, rfl⟩
            have hbx : bg = !usT x := by
              rw [← hx]
              cases hu : usT (gt14 S.T q) with
              | true => exact bool14_of HBG.out (fun ⟨q2, h1, h2⟩ => by
                  obtain rfl : q2 = q := by omega
                  rw [hu] at h2
                  cases h2)
              | false => exact HBG.out.2 ⟨q, hqk, hu⟩
            rw [hx] at hq
            obtain ⟨xu, xc, xa, xk, xt, xo⟩ := x
            have p0 : wr.cell? ⟨b, o + q * 6, none⟩ = some (.bool xu) := hq 0 _ rfl
            have hw : IntKind.i64.wrap ((k : Int) - 1) = (q : Int) := by rw [IntKind.wrap_i64]; omega
            have h1 : (0 : Int) < (k : Int) := by omega
            have i0 : (0 : Int) ≤ (q : Int) := by omega
            have i1 : (q : Int) < (k : Int) := by omega
            clear hq hx hqk HBG
            cases xu with
            | true =>
              obtain rfl : bg = false := hbx
              go_wp2_with fail
              go_meet
              exact ⟨rfl, by first | trivial | rfl⟩
            | false =>
              obtain rfl : bg = true := hbx
              go_wp2_with fail
              go_meet
              exact ⟨rfl, by first | trivial | rfl⟩
        case rest =>
        obtain ⟨rfl, rfl⟩ := hcut
        by_cases hbt : bg = true
        · subst hbt
          have hgo := HBG.out.1 rfl
          obtain ⟨q, hqk, hu⟩ := hgo
          have HE2 : Hid (en14 usT S.T m1 = en14 usT S.T q) := Lib.hid (by rw [HEN.out, ← hqk, en14_no hu])
          have hw : IntKind.i64.wrap ((k : Int) - 1) = (q : Int) := by rw [IntKind.wrap_i64]; omega
          have i0 : (0 : Int) ≤ (q : Int) := by omega
          have i2 : (q : Int) ≤ (d1 : Int) := by omega
          have HN := Lib.hid (HW1.out.put1 q)
          have HM := Lib.hid (len14_of (HN.out.x.cell 1))
          have HM0 := Lib.hid (len14_of t0)
          have HQK := Lib.hid hqk
          clear hu hqk HBG
          go_wp2_with fail
          go_roundw
          case rel => exact ⟨q, by have := HQK.out; omega, HE2, HN⟩
          case measure => rw [HM.out, HM0.out]; have := HQK.out; omega
        · obtain rfl : bg = false := by cases bg <;> simp_all
          have HK1 : Hid (e1 = k) := Lib.hid (by
            rw [← HE1.out, HEN.out]
            refine en14_full.2 ?_
            rcases Nat.eq_zero_or_pos k with h | h
            · exact .inl h
            · refine .inr ?_
              cases hh : usT (gt14 S.T (k - 1)) with
              | true => rfl
              | false => exact absurd (HBG.out.2 ⟨k - 1, by omega, hh⟩) (by decide))
          have HN1 : Hid (Tri14 w S B0 B1 B2 B3 B4 m0 m1 m2 m3 m4 d0 d1 d2 d3 d4 sr e0 e1 m2 m3 wc) := by rw [HK1.out]; exact HW1
          clear HBG t0 tf hcap
          go_wp2_with fail
          go_loopw [52] (fun _ wr => ∃ k : Nat, k ≤ m2 ∧ Hid (en14 usH S.H m2 = en14 usH S.H k) ∧ Hid (Tri14 w S B0 B1 B2 B3 B4 m0 m1 m2 m3 m4 d0 d1 d2 d3 d4 sr e0 e1 k m3 wr)) (fun _ wr => len14 wr w.heap.size 2)
          case atStart => exact ⟨m2, Nat.le_refl _, Lib.hid rfl, HN1⟩
          case round =>
            obtain ⟨k, hk, HEN, HW2⟩ := hrel
            have t0 := HW2.out.x.cell 2
            have tf := HW2.out.x.frozen 2
            have hcap := HW2.out.s.k2
            have hnb := HW2.out.s.m2
            obtain ⟨bg, hbg⟩ := ex_bool14 (∃ q, q + 1 = k ∧ usH (gt14 S.H q) = false)
            have HBG := Lib.hid hbg
            clear hbg
            go_upto_region 6 with (fail)
            go_cut [67] (fun y wx => y = .bool bg ∧ wx = wr)
            case first =>
              by_cases hk0 : k = 0
              · subst hk0
                obtain rfl : bg = false := bool14_of HBG.out (fun ⟨q, hq, _⟩ => by omega)
                clear HBG
                go_wp2_with fail
                go_meet
                exact ⟨rfl, by first | trivial | rfl⟩
              · obtain ⟨q, hqk⟩ : ∃ q, q + 1 = k := ⟨k - 1, by omega⟩
                obtain ⟨b, o, hA, hab, hq⟩ := Lq.at_ len14H (by omega) HW2.out.s.r2 (show q < S.H.length by rw [HW2.out.s.l2]; omega)
                subst hA
                obtain ⟨x, hx⟩ : ∃ x, gt14 S.H q = x := ⟨_, rfl⟩
                have hbx : bg = !usH x := by
                  rw [← hx]
                  cases hu : usH (gt14 S.H q) with
                  | true => exact bool14_of HBG.out (fun ⟨q2, h1, h2⟩ => by
                      obtain rfl : q2 = q := by omega
                      rw [hu] at h2
                      cases h2)
                  | false => exact HBG.out.2 ⟨q, hqk, hu⟩
                rw [hx] at hq
                obtain ⟨xz, xf, xc, xq, xu⟩ := x
                have p0 : wr.cell? ⟨b, o + q * 5, none⟩ = some (.int .i64 xz) := hq 0 _ rfl
                have hw : IntKind.i64.wrap ((k : Int) - 1) = (q : Int) := by rw [IntKind.wrap_i64]; omega
                have h1 : (0 : Int) < (k : Int) := by omega
                have i0 : (0 : Int) ≤ (q : Int) := by omega
                have i1 : (q : Int) < (k : Int) := by omega
                clear hq hx hqk HBG
                by_cases hz : xz = 0
                · subst hz
                  obtain rfl : bg = true := by rw [hbx]; rfl
                  clear hbx
                  go_wp2_with fail
                  go_meet
                  exact ⟨rfl, by first | trivial | rfl⟩
                · obtain rfl : bg = false := by rw [hbx]; simp [usH, hz]
                  clear hbx
                  go_wp2_with fail
                  go_meet
                  exact ⟨by simp [hz], by first | trivial | rfl⟩
            case rest =>
            obtain ⟨rfl, rfl⟩ := hcut
            by_cases hbt : bg = true
            · subst hbt
              have hgo := HBG.out.1 rfl
              obtain ⟨q, hqk, hu⟩ := hgo
              have HE2 : Hid (en14 usH S.H m2 = en14 usH S.H q) := Lib.hid (by rw [HEN.out, ← hqk, en14_no hu])
              have hw : IntKind.i64.wrap ((k : Int) - 1) = (q : Int) := by rw [IntKind.wrap_i64]; omega
              have i0 : (0 : Int) ≤ (q : Int) := by omega
              have i2 : (q : Int) ≤ (d2 : Int) := by omega
              have HN := Lib.hid (HW2.out.put2 q)
              have HM := Lib.hid (len14_of (HN.out.x.cell 2))
              have HM0 := Lib.hid (len14_of t0)
              have HQK := Lib.hid hqk
              clear hu hqk HBG
              go_wp2_with fail
              go_roundw
              case rel => exact ⟨q, by have := HQK.out; omega, HE2, HN⟩
              case measure => rw [HM.out, HM0.out]; have := HQK.out; omega
            · obtain rfl : bg = false := by cases bg <;> simp_all
              have HK2 : Hid (e2 = k) := Lib.hid (by
                rw [← HE2.out, HEN.out]
                refine en14_full.2 ?_
                rcases Nat.eq_zero_or_pos k with h | h
                · exact .inl h
                · refine .inr ?_
                  cases hh : usH (gt14 S.H (k - 1)) with
                  | true => rfl
                  | false => exact absurd (HBG.out.2 ⟨k - 1, by omega, hh⟩) (by decide))
              have HN2 : Hid (Tri14 w S B0 B1 B2 B3 B4 m0 m1 m2 m3 m4 d0 d1 d2 d3 d4 sr e0 e1 e2 m3 wc) := by rw [HK2.out]; exact HW2
              clear HBG t0 tf hcap
              go_wp2_with fail
              go_loopw [76] (fun _ wr => ∃ k : Nat, k ≤ m3 ∧ Hid (en14 usL S.L m3 = en14 usL S.L k) ∧ Hid (Tri14 w S B0 B1 B2 B3 B4 m0 m1 m2 m3 m4 d0 d1 d2 d3 d4 sr e0 e1 e2 k wr)) (fun _ wr => len14 wr w.heap.size 3)
              case atStart => exact ⟨m3, Nat.le_refl _, Lib.hid rfl, HN2⟩
              case round =>
                obtain ⟨k, hk, HEN, HW3⟩ := hrel
                have t0 := HW3.out.x.cell 3
                have tf := HW3.out.x.frozen 3
                have hcap := HW3.out.s.k3
                have hnb := HW3.out.s.m3
                obtain ⟨bg, hbg⟩ := ex_bool14 (∃ q, q + 1 = k ∧ usL (gt14 S.L q) = false)
                have HBG := Lib.hid hbg
                clear hbg
                go_upto_region 8 with (fail)
                go_cut [91] (fun y wx => y = .bool bg ∧ wx = wr)
                case first =>
                  by_cases hk0 : k = 0
                  · subst hk0
                    obtain rfl : bg = false := bool14_of HBG.out (fun ⟨q, hq, _⟩ => by omega)
                    clear HBG
                    go_wp2_with fail
                    go_meet
                    exact ⟨rfl, by first | trivial | rfl⟩
                  · obtain ⟨q, hqk⟩ : ∃ q, q + 1 = k := ⟨k - 1, by omega⟩
                    obtain ⟨b, o, hA, hab, hq⟩ := Lq.at_ len14L (by omega) HW3.out.s.r3 (show q < S.L.length by rw [HW3.out.s.l3]; omega)
                    subst hA
                    obtain ⟨x, hx⟩ : ∃ x, gt14 S.L q = x := ⟨_, rfl⟩
                    have hbx : bg = !usL x := by
                      rw [← hx]
                      cases hu : usL (gt14 S.L q) with
                      | true => exact bool14_of HBG.out (fun ⟨q2, h1, h2⟩ => by
                          obtain rfl : q2 = q := by omega
                          rw [hu] at h2
                          cases h2)
                      | false => exact HBG.out.2 ⟨q, hqk, hu⟩
                    rw [hx] at hq
                    obtain ⟨xu, xh⟩ := x
                    have p0 : wr.cell? ⟨b, o + q * 2, none⟩ = some (.bool xu) := hq 0 _ rfl
                    have hw : IntKind.i64.wrap ((k : Int) - 1) = (q : Int) := by rw [IntKind.wrap_i64]; omega
                    have h1 : (0 : Int) < (k : Int) := by omega
                    have i0 : (0 : Int) ≤ (q : Int) := by omega
                    have i1 : (q : Int) < (k : Int) := by omega
                    clear hq hx hqk HBG
                    cases xu with
                    | true =>
                      obtain rfl : bg = false := hbx
                      go_wp2_with fail
                      go_meet
                      exact ⟨rfl, by first | trivial | rfl⟩
                    | false =>
                      obtain rfl : bg = true := hbx
                      go_wp2_with fail
                      go_meet
                      exact ⟨rfl, by first | trivial | rfl⟩
                case rest =>
                obtain ⟨rfl, rfl⟩ := hcut
                by_cases hbt : bg = true
                · subst hbt
                  have hgo := HBG.out.1 rfl
                  obtain ⟨q, hqk, hu⟩ := hgo
                  have HE2 : Hid (en14 usL S.L m3 = en14 usL S.L q) := Lib.hid (by rw [HEN.out, ← hqk, en14_no hu])
                  have hw : IntKind.i64.wrap ((k : Int) - 1) = (q : Int) := by rw [IntKind.wrap_i64]; omega
                  have i0 : (0 : Int) ≤ (q : Int) := by omega
                  have i2 : (q : Int) ≤ (d3 : Int) := by omega
                  have HN := Lib.hid (HW3.out.put3 q)
                  have HM := Lib.hid (len14_of (HN.out.x.cell 3))
                  have HM0 := Lib.hid (len14_of t0)
                  have HQK := Lib.hid hqk
                  clear hu hqk HBG
                  go_wp2_with fail
                  go_roundw
                  case rel => exact ⟨q, by have := HQK.out; omega, HE2, HN⟩
                  case measure => rw [HM.out, HM0.out]; have := HQK.out; omega
                · obtain rfl : bg = false := by cases bg <;> simp_all
                  have HK3 : Hid (e3 = k) := Lib.hid (by
                    rw [← HE3.out, HEN.out]
                    refine en14_full.2 ?_
                    rcases Nat.eq_zero_or_pos k with h | h
                    · exact .inl h
                    · refine .inr ?_
                      cases hh : usL (gt14 S.L (k - 1)) with
                      | true => rfl
                      | false => exact absurd (HBG.out.2 ⟨k - 1, by omega, hh⟩) (by decide))
                  have HN3 : Hid (Tri14 w S B0 B1 B2 B3 B4 m0 m1 m2 m3 m4 d0 d1 d2 d3 d4 sr e0 e1 e2 e3 wc) := by rw [HK3.out]; exact HW3
                  clear HBG t0 tf hcap
                  have t0 := HN3.out.x.cell 0
                  have y0 := HN3.out.y.cell 0
                  have yf0 := HN3.out.y.frozen 0
                  have t1 := HN3.out.x.cell 1
                  have y1 := HN3.out.y.cell 1
                  have yf1 := HN3.out.y.frozen 1
                  have t2 := HN3.out.x.cell 2
                  have y2 := HN3.out.y.cell 2
                  have yf2 := HN3.out.y.frozen 2
                  have t3 := HN3.out.x.cell 3
                  have y3 := HN3.out.y.cell 3
                  have yf3 := HN3.out.y.frozen 3
                  have t4 := HN3.out.x.cell 4
                  have y4 := HN3.out.y.cell 4
                  have yf4 := HN3.out.y.frozen 4
                  have t5 := HN3.out.x.cell 5
                  have y5 := HN3.out.y.cell 5
                  have yf5 := HN3.out.y.frozen 5
                  have hk6 : Blk ((((((wc.setCell ⟨w.heap.size + 1, 0, none⟩ (.slice B0 e0 d0)).setCell ⟨w.heap.size + 1, 1, none⟩ (.slice B1 e1 d1)).setCell ⟨w.heap.size + 1, 2, none⟩ (.slice B2 e2 d2)).setCell ⟨w.heap.size + 1, 3, none⟩ (.slice B3 e3 d3)).setCell ⟨w.heap.size + 1, 4, none⟩ (.slice B4 m4 d4)).setCell ⟨w.heap.size + 1, 5, none⟩ (.int .i64 sr)) (w.heap.size + 1) 28 #[.slice B0 e0 d0, .slice B1 e1 d1, .slice B2 e2 d2, .slice B3 e3 d3, .slice B4 m4 d4, .int .i64 sr] := by
                    have h := (((((HN3.out.y.set_ 0 (.slice B0 e0 d0)).set_ 1 (.slice B1 e1 d1)).set_ 2 (.slice B2 e2 d2)).set_ 3 (.slice B3 e3 d3)).set_ 4 (.slice B4 m4 d4)).set_ 5 (.int .i64 sr)
                    simpa using h
                  have HB6 := Lib.hid ((((((HN3.out.b.setCell (p := ⟨w.heap.size + 1, 0, none⟩) (by simp) (.slice B0 e0 d0)).setCell (p := ⟨w.heap.size + 1, 1, none⟩) (by simp) (.slice B1 e1 d1)).setCell (p := ⟨w.heap.size + 1, 2, none⟩) (by simp) (.slice B2 e2 d2)).setCell (p := ⟨w.heap.size + 1, 3, none⟩) (by simp) (.slice B3 e3 d3)).setCell (p := ⟨w.heap.size + 1, 4, none⟩) (by simp) (.slice B4 m4 d4)).setCell (p := ⟨w.heap.size + 1, 5, none⟩) (by simp) (.int .i64 sr))
                  have hsa := sa14_set (sa14_set (sa14_set (sa14_set (sa14_set (sa14_set HN3.out.s HN3.out.f (q := ⟨w.heap.size + 1, 0, none⟩) (by simp) (.slice B0 e0 d0)) HN3.out.f (q := ⟨w.heap.size + 1, 1, none⟩) (by simp) (.slice B1 e1 d1)) HN3.out.f (q := ⟨w.heap.size + 1, 2, none⟩) (by simp) (.slice B2 e2 d2)) HN3.out.f (q := ⟨w.heap.size + 1, 3, none⟩) (by simp) (.slice B3 e3 d3)) HN3.out.f (q := ⟨w.heap.size + 1, 4, none⟩) (by simp) (.slice B4 m4 d4)) HN3.out.f (q := ⟨w.heap.size + 1, 5, none⟩) (by simp) (.int .i64 sr)
                  have s0 := hk6.cell 0
                  have g0 := hk6.frozen 0
                  have s1 := hk6.cell 1
                  have g1 := hk6.frozen 1
                  have s2 := hk6.cell 2
                  have g2 := hk6.frozen 2
                  have s3 := hk6.cell 3
                  have g3 := hk6.frozen 3
                  have s4 := hk6.cell 4
                  have g4 := hk6.frozen 4
                  have s5 := hk6.cell 5
                  have g5 := hk6.frozen 5
                  have HSA := Lib.hid hsa
                  clear hk6 hsa
                  go_wp2_with fail
                  exact bodyPost_ret (v := .agg #[.slice B0 e0 d0, .slice B1 e1 d1, .slice B2 e2 d2, .slice B3 e3 d3, .slice B4 m4 d4, .int .i64 sr]) (by simp [results, Tryz.results14, go_sem, s0, s1, s2, s3, s4, s5, g0, g1, g2, g3, g4, g5]) rfl
                    ⟨B0, B1, B2, B3, B4, e0, e1, e2, e3, m4, d0, d1, d2, d3, d4, sr, rfl, sa14_trim HSA.out HE0.out HE1.out HE2.out HE3.out, (fa14_trim HN3.out.f).more (by omega), HB6.out⟩
end Go.Proofs.YtfoellhoaflofaaGreat
