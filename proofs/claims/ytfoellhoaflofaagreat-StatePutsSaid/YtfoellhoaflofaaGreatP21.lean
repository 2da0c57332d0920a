/-
  SaidStatePuts, part 21 of 26: what the theorem statePuts_holds reaches.
-/
import Derived.Test.YtfoellhoaflofaaGreatP20
import Derived.Deep.QuietTactic
import Derived.BigQuiet
import Derived.WalkSmall
namespace Go.Proofs.YtfoellhoaflofaaGreat
open Go.RowKit
set_option maxRecDepth 100000
theorem free14R_nil (n : Nat) : Free14R n [] := by
  obtain ⟨os, h⟩ := done13_ex (cut13 n []) n
  refine ⟨os, h, h.full (fun p hp => by cases hp) ?_⟩
  rintro ⟨i, hi⟩
  cases hi with
  | one h => cases h
  | step _ h => cases h
theorem srt14_nil : srt14 [] = [] := by simp [srt14]
def ex14a : Sv14 := ⟨[true], [], [], [], [], 10⟩
def ex14b : Sv14 := ⟨[true], [], [⟨2, -1, -1, 1, 1⟩], [], [], 10⟩
theorem ex14_put : putThread14 ex14a 0 ⟨2, -1, -1, 1, 1⟩ = ex14b := by rfl
theorem ex14_coin : us14 usC [true] 0 = true := by rfl
theorem ex14_tidy1 : Tidy14 usC [true] 16 := ⟨by decide, by rfl, fun j hj h => by
  obtain rfl : j = 0 := by simpa using hj
  cases h⟩
theorem ex14_tidyN {α : Type} [Inhabited α] (us : α → Bool) (m : Nat) : Tidy14 us [] m := ⟨Nat.zero_le _, by rfl, fun j hj => by simp at hj⟩
theorem ex14_fine1 : Fine14 ex14a := by
  refine ⟨by decide, by decide, ⟨ex14_tidy1, ex14_tidyN _ _, ex14_tidyN _ _, ex14_tidyN _ _⟩, ex14_coin, fun j hj => by simp [ex14a] at hj, ⟨fun j hj => by simp [ex14a] at hj, by decide⟩, fun j hj => by simp [ex14a] at hj, ⟨by decide, fun j hj => by simp [ex14a] at hj, srt14_nil⟩, free14R_nil _, free14R_nil _⟩
theorem ex14_fine2 : Fine14 ex14b := by
  have h1 : ∀ {P : Nat → Prop}, P 0 → ∀ j, j < ex14b.H.length → P j := fun {P} h j hj => by
    obtain rfl : j = 0 := by simpa [ex14b] using hj
    exact h
  refine ⟨by decide, by decide, ⟨ex14_tidy1, ex14_tidyN _ _, ⟨by decide, by rfl, h1 (fun h => by cases h)⟩, ex14_tidyN _ _⟩, ex14_coin, fun j hj => by simp [ex14b] at hj, ⟨h1 (fun _ => ⟨.inr (.inr ⟨.inr (.inl rfl), rfl⟩), .inl rfl, .inl ⟨rfl, rfl⟩⟩), by decide⟩, fun j hj => by simp [ex14b] at hj, ⟨by decide, h1 (fun _ h => by have := h.1; cases this), ?_⟩, free14R_nil _, free14R_nil _⟩
  rw [show ex14b.Q = [] from rfl, srt14_nil]
  rfl
theorem ex14_fine0 : ¬ Fine14 ⟨[], [], [], [], [], 0⟩ := fun h => by have := h.1; simp at this
theorem ex14_same : ¬ ex14a = ex14b := fun h => by have := congrArg (fun s => s.H.length) h; cases this
theorem ex14_free : Free14 usH ex14b.H 32 1 := by
  refine .inl ⟨1, by decide, rfl, by rfl, fun j hj => ?_⟩
  have h0 : j = 0 := Nat.lt_one_iff.1 hj
  subst h0
  rfl
set_option maxHeartbeats 4000000 in
theorem alive14_any (w : World) : Calls Tryz.prog 6 #[] w fun e w' => e = .returned (.bool true) ∧ Below w.heap.size w w' := by
  have HN1 := Lib.hid (new14_yes 10 w (by omega) (by omega))
  go_enter Tryz.func6, Tryz.ntmps6
  go_wp2_with fail
  refine HN1.out.mono ?_
  rintro e w1 ⟨v, rfl, hst, hb1⟩
  obtain ⟨A0, A1, A2, A3, A4, n0, n1, n2, n3, n4, c0, c1, c2, c3, c4, sq, rfl, hs⟩ := hst
  have hx := b1' w1 (.cells #[.slice A0 n0 c0, .slice A1 n1 c1, .slice A2 n2 c2, .slice A3 n3 c3, .slice A4 n4 c4, .int .i64 sq] 28)
  have HK := Lib.hid (Blk.new w1 28 #[.slice A0 n0 c0, .slice A1 n1 c1, .slice A2 n2 c2, .slice A3 n3 c3, .slice A4 n4 c4, .int .i64 sq])
  have HS := Lib.hid (hs.step hx)
  have HB := Lib.hid (hb1.trans (hx.mono hb1.size))
  have HL0 := Lib.hid hs.l0
  obtain ⟨X1, hX1⟩ : ∃ X, w1.alloc (.cells #[.slice A0 n0 c0, .slice A1 n1 c1, .slice A2 n2 c2, .slice A3 n3 c3, .slice A4 n4 c4, .int .i64 sq] 28) = X := ⟨_, rfl⟩
  rw [hX1] at HK HS HB
  have HN2 := Lib.hid (new14_no 0 X1 (by omega))
  clear HN1 hs hx hb1
  go_wp2_with fail
  refine HN2.out.mono ?_
  rintro e w2 ⟨rfl, hb2⟩
  have hx2 := hb2.trans ((b1' w2 (.cells #[.slice none 0 0, .slice none 0 0, .slice none 0 0, .slice none 0 0, .slice none 0 0, .int .i64 0] 28)).mono hb2.size)
  have HK2 := Lib.hid (HK.out.below hx2 HK.out.lt)
  have HS2 := Lib.hid (HS.out.step hx2)
  have HB2 := Lib.hid (HB.out.trans (hx2.mono HB.out.size))
  have p0 := HK2.out.cell 0
  have p1 := HK2.out.cell 1
  have p2 := HK2.out.cell 2
  have p3 := HK2.out.cell 3
  have p4 := HK2.out.cell 4
  have p5 := HK2.out.cell 5
  have HPT := Lib.hid (putThread14_any (.agg #[.slice A0 n0 c0, .slice A1 n1 c1, .slice A2 n2 c2, .slice A3 n3 c3, .slice A4 n4 c4, .int .i64 sq]) ex14a 0 2 (-1) (-1) 1 1 (w2.alloc (.cells #[.slice none 0 0, .slice none 0 0, .slice none 0 0, .slice none 0 0, .slice none 0 0, .int .i64 0] 28)) ⟨A0, A1, A2, A3, A4, n0, n1, n2, n3, n4, c0, c1, c2, c3, c4, sq, rfl, HS2.out⟩)
  rw [ex14_put] at HPT
  clear HN2 hb2 hx2 HK HS HB
  go_wp2_with fail
  refine HPT.out.mono ?_
  rintro e w3 ⟨B0, B1, B2, B3, B4, m0, m1, m2, m3, m4, d0, d1, d2, d3, d4, sr, rfl, hs3, _, hb3⟩
  have hx3 := b1' w3 (.cells #[.slice B0 m0 d0, .slice B1 m1 d1, .slice B2 m2 d2, .slice B3 m3 d3, .slice B4 m4 d4, .int .i64 sr] 28)
  have hbx3 := hb3.trans (hx3.mono hb3.size)
  have HK3 := Lib.hid (HK2.out.below hbx3 HK2.out.lt)
  have HS3 := Lib.hid (HS2.out.step hbx3)
  have HB3 := Lib.hid (HB2.out.trans (hbx3.mono HB2.out.size))
  have HJ3 := Lib.hid (Blk.new w3 28 #[.slice B0 m0 d0, .slice B1 m1 d1, .slice B2 m2 d2, .slice B3 m3 d3, .slice B4 m4 d4, .int .i64 sr])
  have HR3 := Lib.hid (hs3.step hx3)
  obtain ⟨X3, hX3⟩ : ∃ X, w3.alloc (.cells #[.slice B0 m0 d0, .slice B1 m1 d1, .slice B2 m2 d2, .slice B3 m3 d3, .slice B4 m4 d4, .int .i64 sr] 28) = X := ⟨_, rfl⟩
  rw [hX3] at HK3 HS3 HB3 HJ3 HR3
  have hn0 : n0 = 1 := by rw [← HL0.out]; rfl
  subst hn0
  have k0 := HK3.out.cell 0
  have k1 := HK3.out.cell 1
  have k2 := HK3.out.cell 2
  have k3 := HK3.out.cell 3
  have k4 := HK3.out.cell 4
  have k5 := HK3.out.cell 5
  have HC3 := Lib.hid (fine14 (.agg #[.slice A0 1 c0, .slice A1 n1 c1, .slice A2 n2 c2, .slice A3 n3 c3, .slice A4 n4 c4, .int .i64 sq]) ex14a true X3 ⟨A0, A1, A2, A3, A4, 1, n1, n2, n3, n4, c0, c1, c2, c3, c4, sq, rfl, HS3.out⟩ (by simp [ex14_fine1]))
  clear HPT hs3 hb3 hx3 hbx3 HK2 HS2 HB2 p0 p1 p2 p3 p4 p5
  go_wp2_with fail
  refine HC3.out.mono ?_
  rintro e w4 ⟨rfl, hbc⟩
  have HK4 := Lib.hid (HK3.out.below hbc HK3.out.lt)
  have HJ4 := Lib.hid (HJ3.out.below hbc HJ3.out.lt)
  have HS4 := Lib.hid (HS3.out.step hbc)
  have HR4 := Lib.hid (HR3.out.step hbc)
  have HB4 := Lib.hid (HB3.out.trans (hbc.mono HB3.out.size))
  have j4_0 := HJ4.out.cell 0
  have j4_1 := HJ4.out.cell 1
  have j4_2 := HJ4.out.cell 2
  have j4_3 := HJ4.out.cell 3
  have j4_4 := HJ4.out.cell 4
  have j4_5 := HJ4.out.cell 5
  have HC4 := Lib.hid (fine14 (.agg #[.slice B0 m0 d0, .slice B1 m1 d1, .slice B2 m2 d2, .slice B3 m3 d3, .slice B4 m4 d4, .int .i64 sr]) ex14b true w4 ⟨B0, B1, B2, B3, B4, m0, m1, m2, m3, m4, d0, d1, d2, d3, d4, sr, rfl, HR4.out⟩ (by simp [ex14_fine2]))
  clear HC3 hbc HK3 HJ3 HS3 HR3 HB3
  go_wp2_with fail
  refine HC4.out.mono ?_
  rintro e w5 ⟨rfl, hbc⟩
  have HK5 := Lib.hid (HK4.out.below hbc HK4.out.lt)
  have HJ5 := Lib.hid (HJ4.out.below hbc HJ4.out.lt)
  have HS5 := Lib.hid (HS4.out.step hbc)
  have HR5 := Lib.hid (HR4.out.step hbc)
  have HB5 := Lib.hid (HB4.out.trans (hbc.mono HB4.out.size))
  have j5_0 := HJ5.out.cell 0
  have j5_1 := HJ5.out.cell 1
  have j5_2 := HJ5.out.cell 2
  have j5_3 := HJ5.out.cell 3
  have j5_4 := HJ5.out.cell 4
  have j5_5 := HJ5.out.cell 5
  have HC5 := Lib.hid (freeThread14 (.agg #[.slice B0 m0 d0, .slice B1 m1 d1, .slice B2 m2 d2, .slice B3 m3 d3, .slice B4 m4 d4, .int .i64 sr]) ex14b 1 w5 ⟨B0, B1, B2, B3, B4, m0, m1, m2, m3, m4, d0, d1, d2, d3, d4, sr, rfl, HR5.out⟩ ex14_free)
  clear HC4 hbc HK4 HJ4 HS4 HR4 HB4
  go_wp2_with fail
  refine HC5.out.mono ?_
  rintro e w6 ⟨rfl, hbc⟩
  have HK6 := Lib.hid (HK5.out.below hbc HK5.out.lt)
  have HJ6 := Lib.hid (HJ5.out.below hbc HJ5.out.lt)
  have HS6 := Lib.hid (HS5.out.step hbc)
  have HR6 := Lib.hid (HR5.out.step hbc)
  have HB6 := Lib.hid (HB5.out.trans (hbc.mono HB5.out.size))
  have HC6 := Lib.hid (fine14 (.agg #[.slice none 0 0, .slice none 0 0, .slice none 0 0, .slice none 0 0, .slice none 0 0, .int .i64 0]) ⟨[], [], [], [], [], 0⟩ false w6 (st14_zero w6) (by simp [ex14_fine0]))
  clear HC5 hbc HK5 HJ5 HS5 HR5 HB5
  go_wp2_with fail
  refine HC6.out.mono ?_
  rintro e w7 ⟨rfl, hbc⟩
  have HK7 := Lib.hid (HK6.out.below hbc HK6.out.lt)
  have HJ7 := Lib.hid (HJ6.out.below hbc HJ6.out.lt)
  have HS7 := Lib.hid (HS6.out.step hbc)
  have HR7 := Lib.hid (HR6.out.step hbc)
  have HB7 := Lib.hid (HB6.out.trans (hbc.mono HB6.out.size))
  have j7_0 := HJ7.out.cell 0
  have j7_1 := HJ7.out.cell 1
  have j7_2 := HJ7.out.cell 2
  have j7_3 := HJ7.out.cell 3
  have j7_4 := HJ7.out.cell 4
  have j7_5 := HJ7.out.cell 5
  have k7_0 := HK7.out.cell 0
  have k7_1 := HK7.out.cell 1
  have k7_2 := HK7.out.cell 2
  have k7_3 := HK7.out.cell 3
  have k7_4 := HK7.out.cell 4
  have k7_5 := HK7.out.cell 5
  have HC7 := Lib.hid (same14 (.agg #[.slice A0 1 c0, .slice A1 n1 c1, .slice A2 n2 c2, .slice A3 n3 c3, .slice A4 n4 c4, .int .i64 sq]) (.agg #[.slice B0 m0 d0, .slice B1 m1 d1, .slice B2 m2 d2, .slice B3 m3 d3, .slice B4 m4 d4, .int .i64 sr]) ex14a ex14b w7 ⟨A0, A1, A2, A3, A4, 1, n1, n2, n3, n4, c0, c1, c2, c3, c4, sq, rfl, HS7.out⟩ ⟨B0, B1, B2, B3, B4, m0, m1, m2, m3, m4, d0, d1, d2, d3, d4, sr, rfl, HR7.out⟩ false (by simp [ex14_same]))
  clear HC6 hbc HK6 HJ6 HS6 HR6 HB6
  go_wp2_with fail
  refine HC7.out.mono ?_
  rintro e w8 ⟨rfl, hbc⟩
  have HB8 := Lib.hid (HB7.out.trans (hbc.mono HB7.out.size))
  clear HC7 hbc
  go_wp2_with fail
  go_ret
  exact ⟨rfl, HB8.out⟩
end Go.Proofs.YtfoellhoaflofaaGreat
namespace Go.Proofs.YtfoellhoaflofaaGreat
open Go.RowKit
set_option maxRecDepth 100000
theorem SA14.to {w : World} {S : Sv14} {A0 A1 A2 A3 A4 : Option Addr} {n0 n1 n2 n3 n4 c0 c1 c2 c3 c4 : Nat} {sq : Int} (h : SA14 w S A0 A1 A2 A3 A4 n0 n1 n2 n3 n4 c0 c1 c2 c3 c4 sq) : St14 w (.agg #[.slice A0 n0 c0, .slice A1 n1 c1, .slice A2 n2 c2, .slice A3 n3 c3, .slice A4 n4 c4, .int .i64 sq]) S := ⟨A0, A1, A2, A3, A4, n0, n1, n2, n3, n4, c0, c1, c2, c3, c4, sq, rfl, h⟩
end Go.Proofs.YtfoellhoaflofaaGreat
namespace Go.Proofs.YtfoellhoaflofaaGreat
open Go.RowKit
set_option maxRecDepth 100000
/-- A row's block is another one. -/
def Fx14 (g : Nat) (A : Option Addr) (vs : List Value) : Prop := vs ≠ [] → ∃ b o, A = some ⟨b, o, none⟩ ∧ b ≠ g
theorem fx14_fv {L g : Nat} {A : Option Addr} {vs : List Value} (h : Fv L A vs) (hg : g < L) : Fx14 g A vs := fun hx => by
  obtain ⟨b, o, h1, h2⟩ := h hx
  exact ⟨b, o, h1, by omega⟩
theorem fx14_rv {w : World} {B g : Nat} {A : Option Addr} {vs : List Value} (h : Rv w B A vs) (hg : B ≤ g) : Fx14 g A vs := fun hx => by
  obtain ⟨b, o, h1, h2, _⟩ := h hx
  exact ⟨b, o, h1, by omega⟩
theorem lq14_far {α : Type} {cl : α → List Value} {W : World} {A : Option Addr} {xs : List α} {p : Addr} (h : Lq cl W W.heap.size A xs) (hf : Fx14 p.block A (fl14 cl xs)) (u : Value) : Lq cl (W.setCell p u) (W.setCell p u).heap.size A xs := by
  have h2 : (W.setCell p u).heap.size = W.heap.size := by simp [World.setCell]
  rw [h2]
  intro hx
  obtain ⟨b, o, h1, h3⟩ := hf hx
  obtain ⟨b', o', e1, e2, e3⟩ := h hx
  rw [h1] at e1
  injection e1 with e1
  injection e1 with eb eo
  subst eb eo
  exact ⟨b, o, h1, e2, fun k v hk => (World.cell?_setCell_other _ _ _ _ (by intro e; first | exact h3 (by rw [← e]) | exact h3 (by rw [e]))).trans (e3 k v hk)⟩
/-- A state's rows lie in other blocks. -/
structure Ap14 (g : Nat) (S : Sv14) (A0 A1 A2 A3 A4 : Option Addr) : Prop where
  f0 : Fx14 g A0 (fl14 clC S.C)
  f1 : Fx14 g A1 (fl14 clT S.T)
  f2 : Fx14 g A2 (fl14 clH S.H)
  f3 : Fx14 g A3 (fl14 clL S.L)
  f4 : Fx14 g A4 (fl14 clI S.Q)
theorem Ap14.of_fa {L g : Nat} {S : Sv14} {A0 A1 A2 A3 A4 : Option Addr} (h : FA14 L S A0 A1 A2 A3 A4) (hg : g < L) : Ap14 g S A0 A1 A2 A3 A4 := ⟨fx14_fv h.f0 hg, fx14_fv h.f1 hg, fx14_fv h.f2 hg, fx14_fv h.f3 hg, fx14_fv h.f4 hg⟩
theorem Ap14.of_sa {w : World} {g : Nat} {S : Sv14} {A0 A1 A2 A3 A4 : Option Addr} {n0 n1 n2 n3 n4 c0 c1 c2 c3 c4 : Nat} {sq : Int} (h : SA14 w S A0 A1 A2 A3 A4 n0 n1 n2 n3 n4 c0 c1 c2 c3 c4 sq) (hg : w.heap.size ≤ g) : Ap14 g S A0 A1 A2 A3 A4 := ⟨fx14_rv h.r0 hg, fx14_rv h.r1 hg, fx14_rv h.r2 hg, fx14_rv h.r3 hg, fx14_rv h.r4 hg⟩
theorem SA14.far {W : World} {S : Sv14} {A0 A1 A2 A3 A4 : Option Addr} {n0 n1 n2 n3 n4 c0 c1 c2 c3 c4 : Nat} {sq : Int} {q : Addr} (h : SA14 W S A0 A1 A2 A3 A4 n0 n1 n2 n3 n4 c0 c1 c2 c3 c4 sq) (hf : Ap14 q.block S A0 A1 A2 A3 A4) (u : Value) : SA14 (W.setCell q u) S A0 A1 A2 A3 A4 n0 n1 n2 n3 n4 c0 c1 c2 c3 c4 sq :=
  ⟨h.l0, h.l1, h.l2, h.l3, h.l4, lq14_far h.r0 hf.f0 u, lq14_far h.r1 hf.f1 u, lq14_far h.r2 hf.f2 u, lq14_far h.r3 hf.f3 u, lq14_far h.r4 hf.f4 u, h.k0, h.k1, h.k2, h.k3, h.k4, h.m0, h.m1, h.m2, h.m3, h.m4, h.e⟩
/-- A value that reads as a state, its rows apart from the blocks G. -/
def Rs14 (W : World) (v : Value) (X : Sv14) (G : List Nat) : Prop := ∃ (A0 A1 A2 A3 A4 : Option Addr) (n0 n1 n2 n3 n4 c0 c1 c2 c3 c4 : Nat) (sq : Int), v = .agg #[.slice A0 n0 c0, .slice A1 n1 c1, .slice A2 n2 c2, .slice A3 n3 c3, .slice A4 n4 c4, .int .i64 sq] ∧ SA14 W X A0 A1 A2 A3 A4 n0 n1 n2 n3 n4 c0 c1 c2 c3 c4 sq ∧ ∀ g ∈ G, Ap14 g X A0 A1 A2 A3 A4
/-- A variable in block g that holds a state, its rows apart from the blocks G. -/
def Vb14 (W : World) (g : Nat) (X : Sv14) (G : List Nat) : Prop := ∃ (A0 A1 A2 A3 A4 : Option Addr) (n0 n1 n2 n3 n4 c0 c1 c2 c3 c4 : Nat) (sq : Int), Blk W g 28 #[.slice A0 n0 c0, .slice A1 n1 c1, .slice A2 n2 c2, .slice A3 n3 c3, .slice A4 n4 c4, .int .i64 sq] ∧ SA14 W X A0 A1 A2 A3 A4 n0 n1 n2 n3 n4 c0 c1 c2 c3 c4 sq ∧ ∀ g ∈ G, Ap14 g X A0 A1 A2 A3 A4
theorem Rs14.st {W : World} {v : Value} {X : Sv14} {G : List Nat} (h : Rs14 W v X G) : St14 W v X := by
  obtain ⟨A0, A1, A2, A3, A4, n0, n1, n2, n3, n4, c0, c1, c2, c3, c4, sq, rfl, h1, _⟩ := h
  exact h1.to
theorem Rs14.step {W W' : World} {v : Value} {X : Sv14} {G : List Nat} (h : Rs14 W v X G) (hb : Below W.heap.size W W') : Rs14 W' v X G := by
  obtain ⟨A0, A1, A2, A3, A4, n0, n1, n2, n3, n4, c0, c1, c2, c3, c4, sq, rfl, h1, h2⟩ := h
  exact ⟨A0, A1, A2, A3, A4, n0, n1, n2, n3, n4, c0, c1, c2, c3, c4, sq, rfl, h1.step hb, h2⟩
theorem Vb14.step {W W' : World} {g : Nat} {X : Sv14} {G : List Nat} (h : Vb14 W g X G) (hb : Below W.heap.size W W') : Vb14 W' g X G := by
  obtain ⟨A0, A1, A2, A3, A4, n0, n1, n2, n3, n4, c0, c1, c2, c3, c4, sq, h0, h1, h2⟩ := h
  exact ⟨A0, A1, A2, A3, A4, n0, n1, n2, n3, n4, c0, c1, c2, c3, c4, sq, h0.below hb h0.lt, h1.step hb, h2⟩
theorem Rs14.sub {W : World} {v : Value} {X : Sv14} {G G' : List Nat} (h : Rs14 W v X G) (hs : ∀ g ∈ G', g ∈ G) : Rs14 W v X G' := by
  obtain ⟨A0, A1, A2, A3, A4, n0, n1, n2, n3, n4, c0, c1, c2, c3, c4, sq, rfl, h1, h2⟩ := h
  exact ⟨A0, A1, A2, A3, A4, n0, n1, n2, n3, n4, c0, c1, c2, c3, c4, sq, rfl, h1, fun g hg => h2 g (hs g hg)⟩
theorem Vb14.sub {W : World} {g : Nat} {X : Sv14} {G G' : List Nat} (h : Vb14 W g X G) (hs : ∀ g ∈ G', g ∈ G) : Vb14 W g X G' := by
  obtain ⟨A0, A1, A2, A3, A4, n0, n1, n2, n3, n4, c0, c1, c2, c3, c4, sq, h0, h1, h2⟩ := h
  exact ⟨A0, A1, A2, A3, A4, n0, n1, n2, n3, n4, c0, c1, c2, c3, c4, sq, h0, h1, fun g hg => h2 g (hs g hg)⟩
/-- A block that comes later is apart. -/
theorem Rs14.add {W : World} {v : Value} {X : Sv14} {G : List Nat} (h : Rs14 W v X G) {g : Nat} (hg : W.heap.size ≤ g) : Rs14 W v X (g :: G) := by
  obtain ⟨A0, A1, A2, A3, A4, n0, n1, n2, n3, n4, c0, c1, c2, c3, c4, sq, rfl, h1, h2⟩ := h
  exact ⟨A0, A1, A2, A3, A4, n0, n1, n2, n3, n4, c0, c1, c2, c3, c4, sq, rfl, h1, fun k hk => by
    rcases List.mem_cons.1 hk with e | e
    · subst e; exact Ap14.of_sa h1 hg
    · exact h2 k e⟩
theorem Vb14.add {W : World} {b : Nat} {X : Sv14} {G : List Nat} (h : Vb14 W b X G) {g : Nat} (hg : W.heap.size ≤ g) : Vb14 W b X (g :: G) := by
  obtain ⟨A0, A1, A2, A3, A4, n0, n1, n2, n3, n4, c0, c1, c2, c3, c4, sq, h0, h1, h2⟩ := h
  exact ⟨A0, A1, A2, A3, A4, n0, n1, n2, n3, n4, c0, c1, c2, c3, c4, sq, h0, h1, fun k hk => by
    rcases List.mem_cons.1 hk with e | e
    · subst e; exact Ap14.of_sa h1 hg
    · exact h2 k e⟩
theorem Rs14.far {W : World} {v : Value} {X : Sv14} {G : List Nat} (h : Rs14 W v X G) {q : Addr} (hq : q.block ∈ G) (u : Value) : Rs14 (W.setCell q u) v X G := by
  obtain ⟨A0, A1, A2, A3, A4, n0, n1, n2, n3, n4, c0, c1, c2, c3, c4, sq, rfl, h1, h2⟩ := h
  exact ⟨A0, A1, A2, A3, A4, n0, n1, n2, n3, n4, c0, c1, c2, c3, c4, sq, rfl, h1.far (h2 _ hq) u, h2⟩
theorem Vb14.far {W : World} {g : Nat} {X : Sv14} {G : List Nat} (h : Vb14 W g X G) {q : Addr} (hq : q.block ∈ G) (hg : g ≠ q.block) (u : Value) : Vb14 (W.setCell q u) g X G := by
  obtain ⟨A0, A1, A2, A3, A4, n0, n1, n2, n3, n4, c0, c1, c2, c3, c4, sq, h0, h1, h2⟩ := h
  exact ⟨A0, A1, A2, A3, A4, n0, n1, n2, n3, n4, c0, c1, c2, c3, c4, sq, h0.far hg u, h1.far (h2 _ hq) u, h2⟩
/-- A state is written into its variable. -/
def put6 (W : World) (g : Nat) (A0 A1 A2 A3 A4 : Option Addr) (n0 n1 n2 n3 n4 c0 c1 c2 c3 c4 : Nat) (sq : Int) : World := ((((((W.setCell ⟨g, 0, none⟩ (.slice A0 n0 c0)).setCell ⟨g, 1, none⟩ (.slice A1 n1 c1)).setCell ⟨g, 2, none⟩ (.slice A2 n2 c2)).setCell ⟨g, 3, none⟩ (.slice A3 n3 c3)).setCell ⟨g, 4, none⟩ (.slice A4 n4 c4)).setCell ⟨g, 5, none⟩ (.int .i64 sq))
theorem Blk.put6 {W : World} {g : Nat} {x0 x1 x2 x3 x4 x5 : Value} (h : Blk W g 28 #[x0, x1, x2, x3, x4, x5]) (A0 A1 A2 A3 A4 : Option Addr) (n0 n1 n2 n3 n4 c0 c1 c2 c3 c4 : Nat) (sq : Int) : Blk (put6 W g A0 A1 A2 A3 A4 n0 n1 n2 n3 n4 c0 c1 c2 c3 c4 sq) g 28 #[.slice A0 n0 c0, .slice A1 n1 c1, .slice A2 n2 c2, .slice A3 n3 c3, .slice A4 n4 c4, .int .i64 sq] := by
  have h1 := ((((((h.set_ 0 (.slice A0 n0 c0)).set_ 1 (.slice A1 n1 c1)).set_ 2 (.slice A2 n2 c2)).set_ 3 (.slice A3 n3 c3)).set_ 4 (.slice A4 n4 c4)).set_ 5 (.int .i64 sq))
  simp only [List.setIfInBounds_toArray, List.set_cons_zero, List.set_cons_succ] at h1
  unfold Go.Proofs.YtfoellhoaflofaaGreat.put6
  exact h1
theorem put6_below {B : Nat} {W0 W : World} (h : Below B W0 W) {g : Nat} (hg : B ≤ g) (A0 A1 A2 A3 A4 : Option Addr) (n0 n1 n2 n3 n4 c0 c1 c2 c3 c4 : Nat) (sq : Int) : Below B W0 (put6 W g A0 A1 A2 A3 A4 n0 n1 n2 n3 n4 c0 c1 c2 c3 c4 sq) :=
  ((((((h.setCell (p := ⟨g, 0, none⟩) hg _).setCell (p := ⟨g, 1, none⟩) hg _).setCell (p := ⟨g, 2, none⟩) hg _).setCell (p := ⟨g, 3, none⟩) hg _).setCell (p := ⟨g, 4, none⟩) hg _).setCell (p := ⟨g, 5, none⟩) hg _)
theorem SA14.put6 {W : World} {S : Sv14} {A0 A1 A2 A3 A4 : Option Addr} {n0 n1 n2 n3 n4 c0 c1 c2 c3 c4 : Nat} {sq : Int} {g : Nat} (h : SA14 W S A0 A1 A2 A3 A4 n0 n1 n2 n3 n4 c0 c1 c2 c3 c4 sq) (hf : Ap14 g S A0 A1 A2 A3 A4) (B0 B1 B2 B3 B4 : Option Addr) (m0 m1 m2 m3 m4 d0 d1 d2 d3 d4 : Nat) (sp : Int) : SA14 (put6 W g B0 B1 B2 B3 B4 m0 m1 m2 m3 m4 d0 d1 d2 d3 d4 sp) S A0 A1 A2 A3 A4 n0 n1 n2 n3 n4 c0 c1 c2 c3 c4 sq :=
  ((((((h.far (q := ⟨g, 0, none⟩) hf _).far (q := ⟨g, 1, none⟩) hf _).far (q := ⟨g, 2, none⟩) hf _).far (q := ⟨g, 3, none⟩) hf _).far (q := ⟨g, 4, none⟩) hf _).far (q := ⟨g, 5, none⟩) hf _)
theorem Rs14.put6 {W : World} {v : Value} {X : Sv14} {G : List Nat} (h : Rs14 W v X G) {g : Nat} (hg : g ∈ G) (A0 A1 A2 A3 A4 : Option Addr) (n0 n1 n2 n3 n4 c0 c1 c2 c3 c4 : Nat) (sq : Int) : Rs14 (put6 W g A0 A1 A2 A3 A4 n0 n1 n2 n3 n4 c0 c1 c2 c3 c4 sq) v X G :=
  ((((((h.far (q := ⟨g, 0, none⟩) hg _).far (q := ⟨g, 1, none⟩) hg _).far (q := ⟨g, 2, none⟩) hg _).far (q := ⟨g, 3, none⟩) hg _).far (q := ⟨g, 4, none⟩) hg _).far (q := ⟨g, 5, none⟩) hg _)
theorem Vb14.put6 {W : World} {b : Nat} {X : Sv14} {G : List Nat} (h : Vb14 W b X G) {g : Nat} (hg : g ∈ G) (hb : b ≠ g) (A0 A1 A2 A3 A4 : Option Addr) (n0 n1 n2 n3 n4 c0 c1 c2 c3 c4 : Nat) (sq : Int) : Vb14 (put6 W g A0 A1 A2 A3 A4 n0 n1 n2 n3 n4 c0 c1 c2 c3 c4 sq) b X G :=
  ((((((h.far (q := ⟨g, 0, none⟩) hg hb _).far (q := ⟨g, 1, none⟩) hg hb _).far (q := ⟨g, 2, none⟩) hg hb _).far (q := ⟨g, 3, none⟩) hg hb _).far (q := ⟨g, 4, none⟩) hg hb _).far (q := ⟨g, 5, none⟩) hg hb _)
/-- The boxed state, and what is put. -/
structure Lp14 (w : World) (S : Sv14) (A0 A1 A2 A3 A4 : Option Addr) (n0 n1 n2 n3 n4 c0 c1 c2 c3 c4 : Nat) (sq : Int) (pc : Bool) (pt : Tk14) (ph : Th14) (pl : Lk14) (W : World) : Prop where
  b : Below w.heap.size w W
  x : Blk W w.heap.size 28 #[.slice A0 n0 c0, .slice A1 n1 c1, .slice A2 n2 c2, .slice A3 n3 c3, .slice A4 n4 c4, .int .i64 sq]
  y : Blk W (w.heap.size + 1) 49 #[.bool pc, .bool pt.u, .int .i64 pt.c, .int .i64 pt.a, .int .i64 pt.k, .int .i64 pt.t, .bool pt.o, .int .i64 ph.s, .int .i64 ph.f, .int .i64 ph.c, .int .i64 ph.q, .int .i64 ph.u, .bool pl.u, .int .i64 pl.h]
  s : SA14 W S A0 A1 A2 A3 A4 n0 n1 n2 n3 n4 c0 c1 c2 c3 c4 sq
theorem Lp14.step {w : World} {S : Sv14} {A0 A1 A2 A3 A4 : Option Addr} {n0 n1 n2 n3 n4 c0 c1 c2 c3 c4 : Nat} {sq : Int} {pc : Bool} {pt : Tk14} {ph : Th14} {pl : Lk14} {W W' : World} (h : Lp14 w S A0 A1 A2 A3 A4 n0 n1 n2 n3 n4 c0 c1 c2 c3 c4 sq pc pt ph pl W) (hb : Below W.heap.size W W') : Lp14 w S A0 A1 A2 A3 A4 n0 n1 n2 n3 n4 c0 c1 c2 c3 c4 sq pc pt ph pl W' :=
  ⟨h.b.trans (hb.mono h.b.size), h.x.below hb h.x.lt, h.y.below hb h.y.lt, h.s.step hb⟩
theorem Lp14.st {w : World} {S : Sv14} {A0 A1 A2 A3 A4 : Option Addr} {n0 n1 n2 n3 n4 c0 c1 c2 c3 c4 : Nat} {sq : Int} {pc : Bool} {pt : Tk14} {ph : Th14} {pl : Lk14} {W : World} (h : Lp14 w S A0 A1 A2 A3 A4 n0 n1 n2 n3 n4 c0 c1 c2 c3 c4 sq pc pt ph pl W) : St14 W (.agg #[.slice A0 n0 c0, .slice A1 n1 c1, .slice A2 n2 c2, .slice A3 n3 c3, .slice A4 n4 c4, .int .i64 sq]) S := h.s.to
theorem Lp14.new {w : World} {S : Sv14} {A0 A1 A2 A3 A4 : Option Addr} {n0 n1 n2 n3 n4 c0 c1 c2 c3 c4 : Nat} {sq : Int} {pc : Bool} {pt : Tk14} {ph : Th14} {pl : Lk14} (hs : SA14 w S A0 A1 A2 A3 A4 n0 n1 n2 n3 n4 c0 c1 c2 c3 c4 sq) : Lp14 w S A0 A1 A2 A3 A4 n0 n1 n2 n3 n4 c0 c1 c2 c3 c4 sq pc pt ph pl ((w.alloc (.cells #[.slice A0 n0 c0, .slice A1 n1 c1, .slice A2 n2 c2, .slice A3 n3 c3, .slice A4 n4 c4, .int .i64 sq] 28)).alloc (.cells #[.bool pc, .bool pt.u, .int .i64 pt.c, .int .i64 pt.a, .int .i64 pt.k, .int .i64 pt.t, .bool pt.o, .int .i64 ph.s, .int .i64 ph.f, .int .i64 ph.c, .int .i64 ph.q, .int .i64 ph.u, .bool pl.u, .int .i64 pl.h] 49)) := by
  have hb0 : Below w.heap.size w ((w.alloc (.cells #[.slice A0 n0 c0, .slice A1 n1 c1, .slice A2 n2 c2, .slice A3 n3 c3, .slice A4 n4 c4, .int .i64 sq] 28)).alloc (.cells #[.bool pc, .bool pt.u, .int .i64 pt.c, .int .i64 pt.a, .int .i64 pt.k, .int .i64 pt.t, .bool pt.o, .int .i64 ph.s, .int .i64 ph.f, .int .i64 ph.c, .int .i64 ph.q, .int .i64 ph.u, .bool pl.u, .int .i64 pl.h] 49)) := (b1' w _).alloc (by simp) _
  have hk0 : Blk ((w.alloc (.cells #[.slice A0 n0 c0, .slice A1 n1 c1, .slice A2 n2 c2, .slice A3 n3 c3, .slice A4 n4 c4, .int .i64 sq] 28)).alloc (.cells #[.bool pc, .bool pt.u, .int .i64 pt.c, .int .i64 pt.a, .int .i64 pt.k, .int .i64 pt.t, .bool pt.o, .int .i64 ph.s, .int .i64 ph.f, .int .i64 ph.c, .int .i64 ph.q, .int .i64 ph.u, .bool pl.u, .int .i64 pl.h] 49)) w.heap.size 28 #[.slice A0 n0 c0, .slice A1 n1 c1, .slice A2 n2 c2, .slice A3 n3 c3, .slice A4 n4 c4, .int .i64 sq] := (Blk.new w 28 #[.slice A0 n0 c0, .slice A1 n1 c1, .slice A2 n2 c2, .slice A3 n3 c3, .slice A4 n4 c4, .int .i64 sq]).alloc _
  have hk1 : Blk ((w.alloc (.cells #[.slice A0 n0 c0, .slice A1 n1 c1, .slice A2 n2 c2, .slice A3 n3 c3, .slice A4 n4 c4, .int .i64 sq] 28)).alloc (.cells #[.bool pc, .bool pt.u, .int .i64 pt.c, .int .i64 pt.a, .int .i64 pt.k, .int .i64 pt.t, .bool pt.o, .int .i64 ph.s, .int .i64 ph.f, .int .i64 ph.c, .int .i64 ph.q, .int .i64 ph.u, .bool pl.u, .int .i64 pl.h] 49)) (w.heap.size + 1) 49 #[.bool pc, .bool pt.u, .int .i64 pt.c, .int .i64 pt.a, .int .i64 pt.k, .int .i64 pt.t, .bool pt.o, .int .i64 ph.s, .int .i64 ph.f, .int .i64 ph.c, .int .i64 ph.q, .int .i64 ph.u, .bool pl.u, .int .i64 pl.h] := by
    have h := Blk.new (w.alloc (.cells #[.slice A0 n0 c0, .slice A1 n1 c1, .slice A2 n2 c2, .slice A3 n3 c3, .slice A4 n4 c4, .int .i64 sq] 28)) 49 #[.bool pc, .bool pt.u, .int .i64 pt.c, .int .i64 pt.a, .int .i64 pt.k, .int .i64 pt.t, .bool pt.o, .int .i64 ph.s, .int .i64 ph.f, .int .i64 ph.c, .int .i64 ph.q, .int .i64 ph.u, .bool pl.u, .int .i64 pl.h]
    rwa [show (w.alloc (.cells #[.slice A0 n0 c0, .slice A1 n1 c1, .slice A2 n2 c2, .slice A3 n3 c3, .slice A4 n4 c4, .int .i64 sq] 28)).heap.size = w.heap.size + 1 by simp] at h
  exact ⟨hb0, hk0, hk1, hs.step hb0⟩
/-- Variables of states that are zero, each in a block of its own, from the base world's on. -/
def Zs14 (wc W : World) (gs : List Nat) : Prop := gs.Nodup ∧ ∀ g ∈ gs, wc.heap.size ≤ g ∧ Blk W g 28 #[.slice none 0 0, .slice none 0 0, .slice none 0 0, .slice none 0 0, .slice none 0 0, .int .i64 0]
theorem Zs14.nil (wc W : World) : Zs14 wc W [] := ⟨List.nodup_nil, fun g hg => absurd hg (by simp)⟩
theorem Zs14.lt {wc W : World} {gs : List Nat} (h : Zs14 wc W gs) {g : Nat} (hg : g ∈ gs) : g < W.heap.size := (h.2 g hg).2.lt
theorem Zs14.step {wc W W' : World} {gs : List Nat} (h : Zs14 wc W gs) (hb : Below W.heap.size W W') : Zs14 wc W' gs := ⟨h.1, fun g hg => ⟨(h.2 g hg).1, (h.2 g hg).2.below hb (h.lt hg)⟩⟩
theorem Zs14.ins {wc W : World} (l1 l2 : List Nat) (h : Zs14 wc W (l1 ++ l2)) (hb : wc.heap.size ≤ W.heap.size) : Zs14 wc (W.alloc (.cells #[.slice none 0 0, .slice none 0 0, .slice none 0 0, .slice none 0 0, .slice none 0 0, .int .i64 0] 28)) (l1 ++ W.heap.size :: l2) := by
  refine ⟨(List.Perm.nodup_iff List.perm_middle).2 (List.nodup_cons.2 ⟨fun hm => absurd (h.lt hm) (by omega), h.1⟩), fun g hg => ?_⟩
  rcases List.mem_append.1 hg with e | e
  · exact ⟨(h.2 g (List.mem_append.2 (.inl e))).1, (h.2 g (List.mem_append.2 (.inl e))).2.alloc _⟩
  · rcases List.mem_cons.1 e with e | e
    · subst e
      exact ⟨hb, Blk.new _ _ _⟩
    · exact ⟨(h.2 g (List.mem_append.2 (.inr e))).1, (h.2 g (List.mem_append.2 (.inr e))).2.alloc _⟩
theorem Rs14.ins {W : World} {v : Value} {X : Sv14} (l1 l2 : List Nat) (h : Rs14 W v X (l1 ++ l2)) (o : Obj) : Rs14 (W.alloc o) v X (l1 ++ W.heap.size :: l2) :=
  ((h.add (Nat.le_refl _)).step (b1' W o)).sub (fun g hg => by
    rcases List.mem_append.1 hg with e | e
    · exact List.mem_cons.2 (.inr (List.mem_append.2 (.inl e)))
    · rcases List.mem_cons.1 e with e | e
      · exact List.mem_cons.2 (.inl e)
      · exact List.mem_cons.2 (.inr (List.mem_append.2 (.inr e))))
theorem Rs14.new {wc W W' : World} {X : Sv14} {gs : List Nat} {A0 A1 A2 A3 A4 : Option Addr} {n0 n1 n2 n3 n4 c0 c1 c2 c3 c4 : Nat} {sq : Int} (hs : SA14 W' X A0 A1 A2 A3 A4 n0 n1 n2 n3 n4 c0 c1 c2 c3 c4 sq) (hf : FA14 W.heap.size X A0 A1 A2 A3 A4) (hz : Zs14 wc W gs) : Rs14 W' (.agg #[.slice A0 n0 c0, .slice A1 n1 c1, .slice A2 n2 c2, .slice A3 n3 c3, .slice A4 n4 c4, .int .i64 sq]) X gs :=
  ⟨A0, A1, A2, A3, A4, n0, n1, n2, n3, n4, c0, c1, c2, c3, c4, sq, rfl, hs, fun _ hg => Ap14.of_fa hf (hz.lt hg)⟩
theorem Blk.put6_far {W : World} {b : Nat} {t : TypeId} {cs : Array Value} (h : Blk W b t cs) {g : Nat} (hb : b ≠ g) (A0 A1 A2 A3 A4 : Option Addr) (n0 n1 n2 n3 n4 c0 c1 c2 c3 c4 : Nat) (sq : Int) : Blk (Go.Proofs.YtfoellhoaflofaaGreat.put6 W g A0 A1 A2 A3 A4 n0 n1 n2 n3 n4 c0 c1 c2 c3 c4 sq) b t cs :=
  ((((((h.far (p := ⟨g, 0, none⟩) hb _).far (p := ⟨g, 1, none⟩) hb _).far (p := ⟨g, 2, none⟩) hb _).far (p := ⟨g, 3, none⟩) hb _).far (p := ⟨g, 4, none⟩) hb _).far (p := ⟨g, 5, none⟩) hb _)
/-- What the j-th of the four calls answers. -/
def Xs14 (S : Sv14) (i : Int) (pc : Bool) (pt : Tk14) (ph : Th14) (pl : Lk14) : Nat → Sv14
  | 0 => putCoin14 S i pc
  | 1 => putTicket14 S i pt
  | 2 => putThread14 S i ph
  | _ => putLock14 S i pl
/-- What is between two operations: variables gs, answers vs so far. -/
def Wk14 (S : Sv14) (i : Int) (pc : Bool) (pt : Tk14) (ph : Th14) (pl : Lk14) (wc W : World) (gs : List Nat) (vs : List Value) : Prop := Below wc.heap.size wc W ∧ Zs14 wc W gs ∧ ∀ j v, vs[j]? = some v → Rs14 W v (Xs14 S i pc pt ph pl j) gs
theorem Wk14.al {S : Sv14} {i : Int} {pc : Bool} {pt : Tk14} {ph : Th14} {pl : Lk14} {wc W : World} (l1 l2 : List Nat) {vs : List Value} (h : Wk14 S i pc pt ph pl wc W (l1 ++ l2) vs) : Wk14 S i pc pt ph pl wc (W.alloc (.cells #[.slice none 0 0, .slice none 0 0, .slice none 0 0, .slice none 0 0, .slice none 0 0, .int .i64 0] 28)) (l1 ++ W.heap.size :: l2) vs :=
  ⟨h.1.alloc h.1.size _, h.2.1.ins l1 l2 h.1.size, fun j v hv => (h.2.2 j v hv).ins l1 l2 _⟩
theorem Wk14.ca {S : Sv14} {i : Int} {pc : Bool} {pt : Tk14} {ph : Th14} {pl : Lk14} {wc W W' : World} {gs : List Nat} {vs : List Value} (h : Wk14 S i pc pt ph pl wc W gs vs) (hb : Below W.heap.size W W') {v : Value} (hr : Rs14 W' v (Xs14 S i pc pt ph pl vs.length) gs) : Wk14 S i pc pt ph pl wc W' gs (vs ++ [v]) :=
  ⟨h.1.trans (hb.mono h.1.size), h.2.1.step hb, fun j u hu => by
    rcases Nat.lt_or_ge j vs.length with hj | hj
    · rw [List.getElem?_append_left hj] at hu
      exact (h.2.2 j u hu).step hb
    · rw [List.getElem?_append_right hj] at hu
      obtain ⟨hk, hu2⟩ := List.getElem?_eq_some_iff.1 hu
      have hj2 : j = vs.length := by simp at hk; omega
      subst hj2
      simp at hu2
      subst hu2
      exact hr⟩
end Go.Proofs.YtfoellhoaflofaaGreat
