/-
  What any numbers are, their order, sums and differences: the walk.
-/
import Derived.Test.YtnaofoahnjceiaaDoorLawNatA
import Derived.Test.YtnaofoahnjceiaaDoorNatB
import Derived.Test.YtnaofoahnjceiaaDoorNatC
import Derived.Test.YtnaofoahnjceiaaDoorNatG
import Derived.Test.YtnaofoahnjceiaaDoorNatH
import Derived.Test.YtnaofoahnjceiaaDoorNatJ
import Derived.Test.YtnaofoahnjceiaaDoorNatK
import Derived.Test.YtnaofoahnjceiaaDoorNums
import Derived.Test.YtnaofoahnjceiaaDoorRef3A
import Derived.Deep.DeepCutAuto
namespace Go.Proofs.YtnaofoahnjceiaaDoor
open Go.RowKit
set_option maxRecDepth 100000

theorem below1n (w : World) (a : Obj) : Below w.heap.size w (w.alloc a) := (Below.refl _ _).alloc (Nat.le_refl _) _
theorem held_thr {wb W W' : World} {p q r : Addr} {a b c : Value} (hb : Below W.heap.size W W') (h : W.cell? p = some a ∧ W.cell? q = some b ∧ W.cell? r = some c ∧ Below wb.heap.size wb W) :
    W'.cell? p = some a ∧ W'.cell? q = some b ∧ W'.cell? r = some c ∧ Below wb.heap.size wb W' := by
  have k : ∀ {a : Addr} {u : Value}, W.cell? a = some u → W'.cell? a = some u := fun h => (hb.cell (World.block_lt_of_cell? W _ h)).trans h
  obtain ⟨h1, h2, h3, h4⟩ := h
  exact ⟨k h1, k h2, k h3, h4.trans (hb.mono h4.size)⟩
theorem num_farN {wb W : World} {L : Nat} {v : Value} {n : Nat} {a b c : Prop} (hn : Num wb L v n) (hs : a ∧ b ∧ c ∧ Below wb.heap.size wb W) : Num W L v n := hn.below hs.2.2.2
theorem ra_farN {wb W : World} {A : Option Addr} {xs : List Nat} {a b c : Prop} (h : Ra wb wb.heap.size A xs) (hs : a ∧ b ∧ c ∧ Below wb.heap.size wb W) : Ra W W.heap.size A xs := (h.below hs.2.2.2 (Nat.le_refl _)).more hs.2.2.2.size
theorem tab_farN {wb W : World} {a b c : Prop} (h : Tab wb) (hs : a ∧ b ∧ c ∧ Below wb.heap.size wb W) : Tab W := h.below hs.2.2.2
theorem bits_fix (A : Option Addr) (xs : List Nat) (n c b : Nat) (w : World) (hl : xs.length = n) (hr : Ra w w.heap.size A xs) (hd : Dg xs) (hn : n ≤ 10000000) (hc : n ≤ c) (hb : IsBits (U xs) b) :
    Calls Tryd.prog 14 #[.slice A n c] w fun e w' => e = .returned (.int .i64 (b : Int)) ∧ Below w.heap.size w w' :=
  (natBits_any A xs n c w hl hr hd hn hc).mono fun e w' ⟨b', h1, h2, h3⟩ => ⟨by rw [h1, IsBits.same h2 hb], by subst h3; exact Below.refl _ _⟩
theorem bits3_fix {j : Nat} (s0 : Value) (a b L : Nat) (w : World) (h : Num w L (.agg #[s0]) a) (ha : a < 65536 ^ j) (hj : j ≤ 4000) (hb : IsBits a b) :
    Calls Tryd.prog 15 #[.agg #[s0]] w fun e w' => e = .returned (.int .i64 (b : Int)) ∧ Below w.heap.size w w' :=
  (bits3_any s0 a L w h ha hj).mono fun e w' ⟨b', h1, h2, h3⟩ => ⟨by rw [h1, IsBits.same h2 hb], h3⟩
theorem bits_is (a : Nat) : ∃ b, IsBits a b := by
  rcases Nat.eq_zero_or_pos a with rfl | h
  · exact ⟨0, by decide, .inl rfl⟩
  · exact ⟨a.log2 + 1, Nat.lt_log2_self, .inr (Nat.log2_self_le (by omega))⟩
theorem U_small16 {xs : List Nat} (h : Dg xs) {k : Nat} (hl : xs.length ≤ k) : U xs < 65536 ^ (2 * k) := by
  refine Nat.lt_of_lt_of_le (U_lt h) ?_
  have h1 : (4294967296 : Nat) ^ xs.length ≤ 4294967296 ^ k := Nat.pow_le_pow_right (by omega) hl
  have h2 : (65536 : Nat) ^ (2 * k) = 4294967296 ^ k := by rw [Nat.pow_mul]
  omega

/-- The arguments, and the document's numbers of them in cells of their own. -/
structure TellMem (w : World) (A1 A2 A3 : Option Addr) (xs ys zs : List Nat) (g1 g2 g3 : Nat) (s1 s2 s3 : Value) (wr : World) : Prop where
  below : Below w.heap.size w wr
  ra : Ra wr wr.heap.size A1 xs
  rb : Ra wr wr.heap.size A2 ys
  rc : Ra wr wr.heap.size A3 zs
  x : wr.cell? ⟨g1, 0, none⟩ = some s1
  y : wr.cell? ⟨g2, 0, none⟩ = some s2
  z : wr.cell? ⟨g3, 0, none⟩ = some s3
  nx : ∃ L, Num wr L (.agg #[s1]) (U xs)
  ny : ∃ L, Num wr L (.agg #[s2]) (U ys)
  nz : ∃ L, Num wr L (.agg #[s3]) (U zs)
theorem TellMem.step {w wr w' : World} {A1 A2 A3 : Option Addr} {xs ys zs : List Nat} {g1 g2 g3 : Nat} {s1 s2 s3 : Value} (h : TellMem w A1 A2 A3 xs ys zs g1 g2 g3 s1 s2 s3 wr) (hb : Below wr.heap.size wr w') :
    TellMem w A1 A2 A3 xs ys zs g1 g2 g3 s1 s2 s3 w' := by
  have k : ∀ {a : Addr} {u : Value}, wr.cell? a = some u → w'.cell? a = some u := fun h => (hb.cell (World.block_lt_of_cell? wr _ h)).trans h
  obtain ⟨L1, n1⟩ := h.nx
  obtain ⟨L2, n2⟩ := h.ny
  obtain ⟨L3, n3⟩ := h.nz
  exact ⟨h.below.trans (hb.mono h.below.size), (h.ra.below hb (Nat.le_refl _)).more hb.size, (h.rb.below hb (Nat.le_refl _)).more hb.size, (h.rc.below hb (Nat.le_refl _)).more hb.size, k h.x, k h.y, k h.z, ⟨_, n1.below hb⟩, ⟨_, n2.below hb⟩, ⟨_, n3.below hb⟩⟩

set_option maxHeartbeats 4000000 in
theorem tells_long (A1 A2 A3 : Option Addr) (n1 c1 n2 c2 n3 c3 n : Nat) (w : World) (hlong : 40 < n1 ∨ (n1 ≤ 40 ∧ 40 < n2) ∨ (n1 ≤ 40 ∧ n2 ≤ 40 ∧ 40 < n3)) (htab : Tab w) :
    Calls Tryd.prog 3 #[.slice A1 n1 c1, .slice A2 n2 c2, .slice A3 n3 c3, .int .u64 (n : Int)] w fun e w' => e = .returned (.bool true) ∧ Below w.heap.size w w' := by
  rcases hlong with h | ⟨h, h2⟩ | ⟨h, h2, h3⟩
  all_goals
    go_enter Tryd.func3, Tryd.ntmps3
    go_wp2_with fail
    refine (alive3_any w htab).mono ?_
    rintro e w1 ⟨rfl, hb⟩
    go_wp2_with fail
    go_ret
    exact ⟨rfl, hb⟩

theorem Rows.on {w w' : World} {A : Option Addr} {L : List (List Nat)} {M : Nat} (h : Rows w w.heap.size A L M) (hb : Below w.heap.size w w') : Rows w' w'.heap.size A L M := fun k xs hk => by
  obtain ⟨b, o, A', n', c', h1, h2, h3, h4, h5, h6, h7, h8⟩ := h k xs hk
  exact ⟨b, o, A', n', c', h1, Nat.lt_of_lt_of_le h2 hb.size, (hb.cell (p := ⟨b, o + k, none⟩) h2).trans h3, h4, h5, (h6.below hb (Nat.le_refl _)).more hb.size, h7, h8⟩
theorem rows_new {wb u : World} {A1 A2 A3 : Option Addr} {xs ys zs : List Nat} {n1 c1 n2 c2 n3 c3 : Nat} {a b c : Prop} (t : TypeId) (hl1 : xs.length = n1) (hl2 : ys.length = n2) (hl3 : zs.length = n3) (hc1 : n1 ≤ c1) (hc2 : n2 ≤ c2) (hc3 : n3 ≤ c3)
    (hr1 : Ra wb wb.heap.size A1 xs) (hr2 : Ra wb wb.heap.size A2 ys) (hr3 : Ra wb wb.heap.size A3 zs) (hd1 : Dg xs) (hd2 : Dg ys) (hd3 : Dg zs) (h1 : n1 ≤ 40) (h2 : n2 ≤ 40) (h3 : n3 ≤ 40) (hs : a ∧ b ∧ c ∧ Below wb.heap.size wb u) :
    Rows (u.alloc (.cells #[.slice A1 n1 c1, .slice A2 n2 c2, .slice A3 n3 c3] t)) (u.alloc (.cells #[.slice A1 n1 c1, .slice A2 n2 c2, .slice A3 n3 c3] t)).heap.size (some ⟨u.heap.size, 0, none⟩) [xs, ys, zs] 40 := by
  have hb : Below wb.heap.size wb (u.alloc (.cells #[.slice A1 n1 c1, .slice A2 n2 c2, .slice A3 n3 c3] t)) := hs.2.2.2.trans ((below1n u _).mono hs.2.2.2.size)
  have hk := Blk.new u t #[.slice A1 n1 c1, .slice A2 n2 c2, .slice A3 n3 c3]
  have hlt := hk.lt
  intro k v hv
  match k, hv with
  | 0, hv =>
    obtain rfl : xs = v := by simpa using hv
    exact ⟨_, 0, A1, n1, c1, rfl, hlt, hk.cell 0, hl1, hc1, (hr1.below hb (Nat.le_refl _)).more hb.size, hd1, h1⟩
  | 1, hv =>
    obtain rfl : ys = v := by simpa using hv
    exact ⟨_, 0, A2, n2, c2, rfl, hlt, hk.cell 1, hl2, hc2, (hr2.below hb (Nat.le_refl _)).more hb.size, hd2, h2⟩
  | 2, hv =>
    obtain rfl : zs = v := by simpa using hv
    exact ⟨_, 0, A3, n3, c3, rfl, hlt, hk.cell 2, hl3, hc3, (hr3.below hb (Nat.le_refl _)).more hb.size, hd3, h3⟩
  | k + 3, hv => simp at hv
theorem rows_nil (w : World) : Rows w w.heap.size none [] 0 := fun k xs hk => by simp at hk
theorem nv_zero {w : World} {L : Nat} {v : Value} (h : Nv w L v 0) : ∃ A c, v = .slice A 0 c := by
  obtain ⟨A, c, h1, _, _⟩ := nv_list h Cn.nil rfl (n := 0) rfl
  exact ⟨A, c, h1⟩

set_option maxHeartbeats 8000000 in
theorem tells_walk (A1 A2 A3 : Option Addr) (xs ys zs : List Nat) (n1 c1 n2 c2 n3 c3 n : Nat) (w : World) (hl1 : xs.length = n1) (hl2 : ys.length = n2) (hl3 : zs.length = n3) (hc1 : n1 ≤ c1) (hc2 : n2 ≤ c2) (hc3 : n3 ≤ c3)
    (hr1 : Ra w w.heap.size A1 xs) (hr2 : Ra w w.heap.size A2 ys) (hr3 : Ra w w.heap.size A3 zs) (hd1 : Dg xs) (hd2 : Dg ys) (hd3 : Dg zs) (h1 : n1 ≤ 40) (h2 : n2 ≤ 40) (h3 : n3 ≤ 40) (hn : n < 18446744073709551616) (htab : Tab w) :
    Calls Tryd.prog 3 #[.slice A1 n1 c1, .slice A2 n2 c2, .slice A3 n3 c3, .int .u64 (n : Int)] w fun e w' => e = .returned (.bool true) ∧ Below w.heap.size w w' := by
  have HL1 := Lib.hid hl1
  have HL2 := Lib.hid hl2
  have HL3 := Lib.hid hl3
  have px : U xs < 65536 ^ (2 * 40) := U_small16 hd1 (by omega)
  have py : U ys < 65536 ^ (2 * 40) := U_small16 hd2 (by omega)
  have pz : U zs < 65536 ^ (2 * 40) := U_small16 hd3 (by omega)
  obtain ⟨b, hb⟩ := bits_is (U xs)
  obtain ⟨t, ht⟩ : ∃ t, cmpI (U xs) (U ys) = t := ⟨_, rfl⟩
  have HT := Lib.hid ht
  have HBI := Lib.hid hb
  clear hl1 hl2 hl3 ht hb
  go_enter Tryd.func3, Tryd.ntmps3
  go_wp2_with fail
  refine (in_any A1 xs n1 c1 w HL1.out hr1 hd1 (by omega)).mono ?_
  rintro e w1 ⟨v1, rfl, hnum1, hb1⟩
  obtain ⟨B1, m1, k1, rfl⟩ := hnum1.shape
  have hra := (hr1.below hb1 (Nat.le_refl _)).more hb1.size
  have hrb := (hr2.below hb1 (Nat.le_refl _)).more hb1.size
  have hrc := (hr3.below hb1 (Nat.le_refl _)).more hb1.size
  have HN1 := Lib.hid hnum1
  clear hnum1
  go_wp2_with fail
  refine (in_any A2 ys n2 c2 w1 HL2.out hrb hd2 (by omega)).mono ?_
  rintro e w2 ⟨v2, rfl, hnum2, hb2⟩
  obtain ⟨B2, m2, k2, rfl⟩ := hnum2.shape
  have hra := (hra.below hb2 (Nat.le_refl _)).more hb2.size
  have hrb := (hrb.below hb2 (Nat.le_refl _)).more hb2.size
  have hrc := (hrc.below hb2 (Nat.le_refl _)).more hb2.size
  have HN1 := Lib.hid (HN1.out.below hb2)
  have HN2 := Lib.hid hnum2
  clear hnum2
  go_wp2_with fail
  refine (in_any A3 zs n3 c3 w2 HL3.out hrc hd3 (by omega)).mono ?_
  rintro e w3 ⟨v3, rfl, hnum3, hb3⟩
  obtain ⟨B3, m3, k3, rfl⟩ := hnum3.shape
  have hra := (hra.below hb3 (Nat.le_refl _)).more hb3.size
  have hrb := (hrb.below hb3 (Nat.le_refl _)).more hb3.size
  have hrc := (hrc.below hb3 (Nat.le_refl _)).more hb3.size
  have HN1 := Lib.hid (HN1.out.below hb3)
  have HN2 := Lib.hid (HN2.out.below hb3)
  have HN3 := Lib.hid hnum3
  have hB3 : Below w.heap.size w w3 := hb1.trans ((hb2.mono hb1.size).trans (hb3.mono (Nat.le_trans hb1.size hb2.size)))
  clear hnum3 hb1 hb2 hb3 hr1 hr2 hr3
  go_wp2_with fail
  have hb4 : Below w3.heap.size w3 (((w3.alloc (.cells #[.slice B1 m1 k1] 28)).alloc (.cells #[.slice B2 m2 k2] 28)).alloc (.cells #[.slice B3 m3 k3] 28)) :=
    (((Below.refl _ _).alloc (Nat.le_refl _) _).alloc (by simp) _).alloc (by simp; omega) _
  have q1 := ((Blk.new w3 28 #[.slice B1 m1 k1]).alloc (.cells #[.slice B2 m2 k2] 28)).alloc (.cells #[.slice B3 m3 k3] 28)
  have q2 := (Blk.new (w3.alloc (.cells #[.slice B1 m1 k1] 28)) 28 #[.slice B2 m2 k2]).alloc (.cells #[.slice B3 m3 k3] 28)
  have q3 := Blk.new ((w3.alloc (.cells #[.slice B1 m1 k1] 28)).alloc (.cells #[.slice B2 m2 k2] 28)) 28 #[.slice B3 m3 k3]
  have hm4 : TellMem w A1 A2 A3 xs ys zs w3.heap.size (w3.heap.size + 1) (w3.heap.size + 1 + 1) (.slice B1 m1 k1) (.slice B2 m2 k2) (.slice B3 m3 k3) _ :=
    ⟨hB3.trans (hb4.mono hB3.size), (hra.below hb4 (Nat.le_refl _)).more hb4.size, (hrb.below hb4 (Nat.le_refl _)).more hb4.size, (hrc.below hb4 (Nat.le_refl _)).more hb4.size, q1.cell 0, by have := q2.cell 0; simpa using this, by have := q3.cell 0; simpa using this,
      ⟨_, HN1.out.below hb4⟩, ⟨_, HN2.out.below hb4⟩, ⟨_, HN3.out.below hb4⟩⟩
  clear q1 q2 q3 hb4 HN1 HN2 HN3 hra hrb hrc
  generalize ((w3.alloc (.cells #[.slice B1 m1 k1] 28)).alloc (.cells #[.slice B2 m2 k2] 28)).alloc (.cells #[.slice B3 m3 k3] 28) = w4 at hm4 ⊢
  refine (natWord_any A1 xs n1 c1 w4 HL1.out hm4.ra hd1 (by omega) hc1).mono ?_
  rintro e w5 ⟨rfl, hb5⟩
  have hm5 := hm4.step hb5
  obtain ⟨F, hF⟩ : ∃ F, fw (U xs) = F := ⟨_, rfl⟩
  obtain ⟨fk, hfk⟩ : ∃ fk, fb (U xs) = fk := ⟨_, rfl⟩
  rw [hF, hfk]
  have HF := Lib.hid hF
  have HFK := Lib.hid hfk
  clear hm4 hb5 hF hfk
  have gx := hm5.x
  obtain ⟨L1, hx5⟩ := hm5.nx
  have HX5 := Lib.hid hx5
  have HM5 := Lib.hid hm5
  clear hx5 hm5
  go_wp2_with fail
  refine (word_num _ _ L1 w5 HX5.out).mono ?_
  rintro e w6 ⟨rfl, hb6⟩
  rw [HF.out, HFK.out]
  have hm6 := HM5.out.step hb6
  clear gx HX5 HM5 hb6 hB3
  obtain ⟨L1, hx6⟩ := hm6.nx
  obtain ⟨L2, hy6⟩ := hm6.ny
  have HM6 := Lib.hid hm6
  have HX := Lib.hid hx6
  have HY := Lib.hid hy6
  have HRA := Lib.hid hm6.ra
  have HRB := Lib.hid hm6.rb
  have t1 := hm6.x
  have t2 := hm6.y
  have t3 := hm6.z
  clear hm6 hx6 hy6
  go_upto_region 6 with (fail)
  go_cut [86] (fun y wr => y = .bool false ∧ TellMem w A1 A2 A3 xs ys zs w3.heap.size (w3.heap.size + 1) (w3.heap.size + 1 + 1) (.slice B1 m1 k1) (.slice B2 m2 k2) (.slice B3 m3 k3) wr)
  case first =>
    go_region_held3 (fun u => u.cell? ⟨w3.heap.size, 0, none⟩ = some (.slice B1 m1 k1) ∧ u.cell? ⟨w3.heap.size + 1, 0, none⟩ = some (.slice B2 m2 k2) ∧ u.cell? ⟨w3.heap.size + 1 + 1, 0, none⟩ = some (.slice B3 m3 k3) ∧ Below w6.heap.size w6 u)
      (first | exact ⟨t1, t2, t3, (Below.refl _ _).drew⟩ | assumption)
      (first
        | (go_at_call 11; (with_reducible refine (natOf_any n _ hn).mono ?_); rintro e u1 ⟨v1, rfl, hn1, hb1⟩; have N1 := Lib.hid hn1; clear hn1; have hS1 := held_thr hb1 (by assumption))
        | (go_at_call 12; (with_reducible refine (of_any n _ hn).mono ?_); rintro e u2 ⟨v2, rfl, hn2, hb2⟩; have N2 := Lib.hid hn2; clear hn2; have hS2 := held_thr hb2 (by assumption))
        | (go_at_call 10; (with_reducible refine (is_yes v1 v2 n _ _ _ (N1.out.below (by assumption)) N2.out (pow_word hn)).mono ?_); rintro e u3 ⟨rfl, hb3⟩; have hS3 := held_thr hb3 (by assumption))
        | (go_at_call 10; (with_reducible refine (is_yes v1 v2 n _ _ _ N1.out (N2.out.below (by assumption)) (pow_word hn)).mono ?_); rintro e u3 ⟨rfl, hb3⟩; have hS3 := held_thr hb3 (by assumption))
        | (go_at_call 13; (with_reducible refine (natCut_own A1 xs n1 c1 _ HL1.out (ra_farN HRA.out (by assumption)) hd1 (by omega) hc1).mono ?_); rintro e u4 ⟨m, hm, hcn, hU, v4, rfl, how, hb4⟩; generalize List.take m xs = zs4 at hcn hU how; obtain ⟨A4, c4, rfl, hc4⟩ := how.form; have hN4 := how.nv hc4 hcn; rw [hU] at hN4; have N4 := Lib.hid hN4; clear hN4 how hcn hU; have hS4 := held_thr hb4 (by assumption))
        | (go_at_call 10; (with_reducible refine (is_yes _ _ (U xs) _ _ _ N4.out (num_farN HX.out (by assumption)) px).mono ?_); rintro e u5 ⟨rfl, hb5⟩; have hS5 := held_thr hb5 (by assumption))
        | (go_at_call 14; (with_reducible refine (bits_fix A1 xs n1 c1 b _ HL1.out (ra_farN HRA.out (by assumption)) hd1 (by omega) hc1 HBI.out).mono ?_); rintro e u6 ⟨rfl, hb6⟩; have hS6 := held_thr hb6 (by assumption))
        | (go_at_call 15; (with_reducible refine (bits3_fix _ (U xs) b _ _ (num_farN HX.out (by assumption)) px (by omega) HBI.out).mono ?_); rintro e u7 ⟨rfl, hb7⟩; have hS7 := held_thr hb7 (by assumption))
        | (go_at_call 16; (with_reducible refine (natCmp_any A1 A2 xs ys n1 c1 n2 c2 _ HL1.out HL2.out (ra_farN HRA.out (by assumption)) (ra_farN HRB.out (by assumption)) hd1 hd2 (by omega) (by omega) hc1 hc2).mono ?_); rintro e u8 ⟨rfl, hb8⟩; rw [HT.out]; have hS8 := held_thr hb8 (by assumption))
        | (go_at_call 17; (with_reducible refine (cmp_num _ _ _ _ _ _ _ (num_farN HX.out (by assumption)) (num_farN HY.out (by assumption)) px py).mono ?_); rintro e u9 ⟨rfl, hb9⟩; rw [HT.out]; have hS9 := held_thr hb9 (by assumption)))
    all_goals
      go_wp2_with fail
      go_meet
      first
        | exact ⟨rfl, HM6.out.step hS9.2.2.2⟩
        | exact ⟨rfl, HM6.out.step hS8.2.2.2⟩
  case rest =>
    obtain ⟨rfl, hm⟩ := hcut
    clear HX HY HRA HRB t1 t2 t3 HM6
    by_cases hlt : U xs < U ys
    · go_wp2_with fail
      refine (natSub_no A1 A2 xs ys n1 c1 n2 c2 _ HL1.out HL2.out hm.ra hm.rb hd1 hd2 (by omega) (by omega) hc1 hc2 hlt).mono ?_
      rintro e w7 ⟨rfl, hb7⟩
      have hm7 := hm.step hb7
      clear hm hb7
      obtain ⟨L1, hx⟩ := hm7.nx
      obtain ⟨L2, hy⟩ := hm7.ny
      have t1 := hm7.x
      have t2 := hm7.y
      have HM7 := Lib.hid hm7
      have HX := Lib.hid hx
      have HY := Lib.hid hy
      clear hx hy hm7
      have htv : t = -1 := by rw [← HT.out, cmpI_lt hlt]
      go_wp2_with fail
      refine (cmp_num _ _ _ _ _ _ _ HX.out HY.out px py).mono ?_
      rintro e w8 ⟨rfl, hb8⟩
      rw [HT.out, htv]
      have hm8 := HM7.out.step hb8
      clear HX HY t1 t2 hb8 HM7
      go_wp2_with fail
      obtain ⟨L1, hx⟩ := hm8.nx
      obtain ⟨L2, hy⟩ := hm8.ny
      obtain ⟨L3, hz⟩ := hm8.nz
      have t1 := hm8.x
      have t2 := hm8.y
      have t3 := hm8.z
      have HX := Lib.hid hx
      have HY := Lib.hid hy
      have HZ := Lib.hid hz
      have HRA := Lib.hid hm8.ra
      have HRB := Lib.hid hm8.rb
      have HRC := Lib.hid hm8.rc
      have HTAB := Lib.hid (htab.below hm8.below)
      have hBw := hm8.below
      have pxy : U xs + U ys < 65536 ^ 81 := by rw [show 81 = 80 + 1 by rfl, Nat.pow_succ]; omega
      have pxyz : U xs + U ys + U zs < 65536 ^ 82 := by rw [show 82 = 81 + 1 by rfl, Nat.pow_succ, show 81 = 80 + 1 by rfl, Nat.pow_succ]; omega
      have HSUM : Hid (sumU [xs, ys, zs] = U xs + U ys + U zs) := Lib.hid (by simp only [sumU]; omega)
      clear hx hy hz hm8
      have HROW : Hid (Rows (w8.alloc (.cells #[.slice A1 n1 c1, .slice A2 n2 c2, .slice A3 n3 c3] 23)).drew (w8.alloc (.cells #[.slice A1 n1 c1, .slice A2 n2 c2, .slice A3 n3 c3] 23)).drew.heap.size (some ⟨w8.heap.size, 0, none⟩) [xs, ys, zs] 40) :=
        Lib.hid ((rows_new (a := True) (b := True) (c := True) 23 HL1.out HL2.out HL3.out hc1 hc2 hc3 HRA.out HRB.out HRC.out hd1 hd2 hd3 h1 h2 h3 ⟨trivial, trivial, trivial, Below.refl _ _⟩).on (Below.refl _ _).drew)
      go_region_held3 (fun u => u.cell? ⟨w3.heap.size, 0, none⟩ = some (.slice B1 m1 k1) ∧ u.cell? ⟨w3.heap.size + 1, 0, none⟩ = some (.slice B2 m2 k2) ∧ u.cell? ⟨w3.heap.size + 1 + 1, 0, none⟩ = some (.slice B3 m3 k3) ∧ Below w8.heap.size w8 u)
        (first | exact ⟨t1, t2, t3, (Below.refl _ _).drew⟩ | assumption | exact held_thr (below1n _ _) ⟨t1, t2, t3, (Below.refl _ _).drew⟩ | exact held_thr (below1n _ _) (by assumption))
        (first
          | (go_at_call 21; (with_reducible refine (add_num _ _ (U xs) (U ys) _ _ _ (num_farN HX.out (by assumption)) (num_farN HY.out (by assumption)) px py).mono ?_); rintro e u1 ⟨v1, rfl, hn1, hb1⟩; have N1 := Lib.hid hn1; clear hn1; have hS1 := held_thr hb1 (by assumption))
          | (go_at_call 21; (with_reducible refine (add_num v1 _ (U xs + U ys) (U zs) _ _ _ (by first | exact N1.out | exact N1.out.alloc _ | exact N1.out.below (by assumption) | exact (N1.out.alloc _).below (by assumption)) (num_farN HZ.out (by assumption)) pxy pz).mono ?_); rintro e u2 ⟨v2, rfl, hn2, hb2⟩; have N2 := Lib.hid hn2; clear hn2; have hS2 := held_thr hb2 (by assumption))
          | (go_at_call 20; (with_reducible refine (natAdd_any (some _) [xs, ys, zs] 3 3 40 _ rfl (by first | exact HROW.out | exact HROW.out.on (by assumption) | exact (HROW.out.on hb1).on hb2) (by omega) (by omega)).mono ?_); rw [HSUM.out]; rintro e u3 ⟨v3, rfl, hn3, hb3⟩; have N3 := Lib.hid hn3; clear hn3; have hS3 := held_thr hb3 (by assumption))
          | (go_at_call 10; (with_reducible refine (is_yes v3 v2 (U xs + U ys + U zs) _ _ _ (by first | exact N3.out | exact N3.out.below (by assumption) | exact (N3.out.below hb1).below hb2) (by first | exact N2.out | exact N2.out.below (by assumption) | exact (N2.out.alloc _).below (by assumption)) pxyz).mono ?_); rintro e u4 ⟨rfl, hb4⟩; have hS4 := held_thr hb4 (by assumption))
          | (go_at_call 20; (with_reducible refine (natAdd_any none [] 0 0 0 _ rfl (rows_nil _) (by omega) (by omega)).mono ?_); rintro e u5 ⟨v5, rfl, hn5, hb5⟩; obtain ⟨A5, c5, rfl⟩ := nv_zero hn5; have hS5 := held_thr hb5 (by assumption))
          | (go_at_call 6; (with_reducible refine (alive3_any _ (tab_farN HTAB.out (by assumption))).mono ?_); rintro e u6 ⟨rfl, hb6⟩; have hS6 := held_thr hb6 (by assumption)))
      all_goals
        go_wp2_with fail
        go_ret
        exact ⟨rfl, hBw.trans (hS6.2.2.2.mono hBw.size)⟩
    · have hle : U ys ≤ U xs := by omega
      have htv : 0 ≤ t := by rw [← HT.out]; unfold cmpI; rw [if_neg hlt]; split <;> decide
      have htd : decide (t ≥ 0) = true := by simpa using htv
      go_wp2_with fail
      refine (natSub_yes A1 A2 xs ys n1 c1 n2 c2 _ HL1.out HL2.out hm.ra hm.rb hd1 hd2 (by omega) (by omega) hc1 hc2 hle).mono ?_
      rintro e w7 ⟨v, rfl, hnv, hb7⟩
      have hm7 := hm.step hb7
      have HV := Lib.hid hnv
      clear hm hb7 hnv
      obtain ⟨L1, hx⟩ := hm7.nx
      obtain ⟨L2, hy⟩ := hm7.ny
      have t1 := hm7.x
      have t2 := hm7.y
      have HM7 := Lib.hid hm7
      have HX := Lib.hid hx
      have HY := Lib.hid hy
      clear hx hy hm7
      go_wp2_with fail
      refine (cmp_num _ _ _ _ _ _ _ HX.out HY.out px py).mono ?_
      rintro e w8 ⟨rfl, hb8⟩
      rw [HT.out]
      have hm8 := HM7.out.step hb8
      have HX := Lib.hid (HX.out.below hb8)
      have HY := Lib.hid (HY.out.below hb8)
      have HV := Lib.hid (HV.out.below hb8)
      have t1 := hm8.x
      have t2 := hm8.y
      have HM8 := Lib.hid hm8
      clear hb8 HM7 hm8
      go_wp2_with fail
      refine (sub_num _ _ _ _ _ _ _ HX.out HY.out px hle).mono ?_
      rintro e w9 ⟨v9, rfl, hn9, hb9⟩
      have hm9 := HM8.out.step hb9
      have HV := Lib.hid (HV.out.below hb9)
      have H9 := Lib.hid hn9
      clear hn9 hb9 HX HY t1 t2 HM8
      go_wp2_with fail
      refine (is_yes (k := 80) _ _ _ _ _ _ HV.out H9.out (Nat.lt_of_le_of_lt (Nat.sub_le _ _) px)).mono ?_
      rintro e w10 ⟨rfl, hb10⟩
      have hm10 := hm9.step hb10
      clear HV H9 hm9 hb10
      go_wp2_with fail
      obtain ⟨L1, hx⟩ := hm10.nx
      obtain ⟨L2, hy⟩ := hm10.ny
      obtain ⟨L3, hz⟩ := hm10.nz
      have t1 := hm10.x
      have t2 := hm10.y
      have t3 := hm10.z
      have HX := Lib.hid hx
      have HY := Lib.hid hy
      have HZ := Lib.hid hz
      have HRA := Lib.hid hm10.ra
      have HRB := Lib.hid hm10.rb
      have HRC := Lib.hid hm10.rc
      have HTAB := Lib.hid (htab.below hm10.below)
      have hBw := hm10.below
      have pxy : U xs + U ys < 65536 ^ 81 := by rw [show 81 = 80 + 1 by rfl, Nat.pow_succ]; omega
      have pxyz : U xs + U ys + U zs < 65536 ^ 82 := by rw [show 82 = 81 + 1 by rfl, Nat.pow_succ, show 81 = 80 + 1 by rfl, Nat.pow_succ]; omega
      have HSUM : Hid (sumU [xs, ys, zs] = U xs + U ys + U zs) := Lib.hid (by simp only [sumU]; omega)
      clear hx hy hz hm10
      have HROW : Hid (Rows (w10.alloc (.cells #[.slice A1 n1 c1, .slice A2 n2 c2, .slice A3 n3 c3] 23)).drew (w10.alloc (.cells #[.slice A1 n1 c1, .slice A2 n2 c2, .slice A3 n3 c3] 23)).drew.heap.size (some ⟨w10.heap.size, 0, none⟩) [xs, ys, zs] 40) :=
        Lib.hid ((rows_new (a := True) (b := True) (c := True) 23 HL1.out HL2.out HL3.out hc1 hc2 hc3 HRA.out HRB.out HRC.out hd1 hd2 hd3 h1 h2 h3 ⟨trivial, trivial, trivial, Below.refl _ _⟩).on (Below.refl _ _).drew)
      go_region_held3 (fun u => u.cell? ⟨w3.heap.size, 0, none⟩ = some (.slice B1 m1 k1) ∧ u.cell? ⟨w3.heap.size + 1, 0, none⟩ = some (.slice B2 m2 k2) ∧ u.cell? ⟨w3.heap.size + 1 + 1, 0, none⟩ = some (.slice B3 m3 k3) ∧ Below w10.heap.size w10 u)
        (first | exact ⟨t1, t2, t3, (Below.refl _ _).drew⟩ | assumption | exact held_thr (below1n _ _) ⟨t1, t2, t3, (Below.refl _ _).drew⟩ | exact held_thr (below1n _ _) (by assumption))
        (first
          | (go_at_call 21; (with_reducible refine (add_num _ _ (U xs) (U ys) _ _ _ (num_farN HX.out (by assumption)) (num_farN HY.out (by assumption)) px py).mono ?_); rintro e u1 ⟨v1, rfl, hn1, hb1⟩; have N1 := Lib.hid hn1; clear hn1; have hS1 := held_thr hb1 (by assumption))
          | (go_at_call 21; (with_reducible refine (add_num v1 _ (U xs + U ys) (U zs) _ _ _ (by first | exact N1.out | exact N1.out.alloc _ | exact N1.out.below (by assumption) | exact (N1.out.alloc _).below (by assumption)) (num_farN HZ.out (by assumption)) pxy pz).mono ?_); rintro e u2 ⟨v2, rfl, hn2, hb2⟩; have N2 := Lib.hid hn2; clear hn2; have hS2 := held_thr hb2 (by assumption))
          | (go_at_call 20; (with_reducible refine (natAdd_any (some _) [xs, ys, zs] 3 3 40 _ rfl (by first | exact HROW.out | exact HROW.out.on (by assumption) | exact (HROW.out.on hb1).on hb2) (by omega) (by omega)).mono ?_); rw [HSUM.out]; rintro e u3 ⟨v3, rfl, hn3, hb3⟩; have N3 := Lib.hid hn3; clear hn3; have hS3 := held_thr hb3 (by assumption))
          | (go_at_call 10; (with_reducible refine (is_yes v3 v2 (U xs + U ys + U zs) _ _ _ (by first | exact N3.out | exact N3.out.below (by assumption) | exact (N3.out.below hb1).below hb2) (by first | exact N2.out | exact N2.out.below (by assumption) | exact (N2.out.alloc _).below (by assumption)) pxyz).mono ?_); rintro e u4 ⟨rfl, hb4⟩; have hS4 := held_thr hb4 (by assumption))
          | (go_at_call 20; (with_reducible refine (natAdd_any none [] 0 0 0 _ rfl (rows_nil _) (by omega) (by omega)).mono ?_); rintro e u5 ⟨v5, rfl, hn5, hb5⟩; obtain ⟨A5, c5, rfl⟩ := nv_zero hn5; have hS5 := held_thr hb5 (by assumption))
          | (go_at_call 6; (with_reducible refine (alive3_any _ (tab_farN HTAB.out (by assumption))).mono ?_); rintro e u6 ⟨rfl, hb6⟩; have hS6 := held_thr hb6 (by assumption)))
      all_goals
        go_wp2_with fail
        go_ret
        exact ⟨rfl, hBw.trans (hS6.2.2.2.mono hBw.size)⟩
end Go.Proofs.YtnaofoahnjceiaaDoor
