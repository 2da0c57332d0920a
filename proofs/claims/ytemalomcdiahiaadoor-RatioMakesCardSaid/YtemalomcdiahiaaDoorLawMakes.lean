/-
  Any two numbers make the document's fraction; which fractions are right is the document's: the walk.
-/
import Derived.Test.YtemalomcdiahiaaDoorRat4B
import Derived.Test.YtemalomcdiahiaaDoorSkip
import Derived.Deep.DeepCutAuto
namespace Go.Proofs.YtemalomcdiahiaaDoor
open Go.RowKit
set_option maxRecDepth 100000

theorem yielded_undef : yielded.match_1 (fun _ => Option Bool) (some undef) (fun b => some b) (fun _ => none) = none := rfl
attribute [local go_sem] yielded_undef
theorem none_yes (w : World) : Calls Tryd.prog 14 #[.agg #[.slice none 0 0, .slice none 0 0]] w fun e w' => e = .returned (.bool true) ∧ Below w.heap.size w w' := by
  go_enter Tryd.func14, Tryd.ntmps14
  go_wp2_with fail
  go_ret
  exact ⟨rfl, b1 _ _⟩

set_option maxHeartbeats 2000000 in
theorem makes_long (A1 A2 : Option Addr) (n1 c1 n2 c2 n d : Nat) (w : World) (hlong : 20 < n1 ∨ (n1 ≤ 20 ∧ 20 < n2)) (htab : Tab w) :
    Calls Tryd.prog 3 #[.slice A1 n1 c1, .slice A2 n2 c2, .int .u64 (n : Int), .int .u64 (d : Int)] w fun e w' => e = .returned (.bool true) ∧ Below w.heap.size w w' := by
  rcases hlong with h | ⟨h, h2⟩
  all_goals
    go_enter Tryd.func3, Tryd.ntmps3
    go_wp2_with fail
    refine (alive4_any w htab).mono ?_
    rintro e w1 ⟨rfl, hb⟩
    go_wp2_with fail
    go_ret
    exact ⟨rfl, hb⟩

/-- What making a fraction answers. -/
def MadeRet (w : World) (a b : Nat) (z : Bool) (e : Ending) (w' : World) : Prop := ∃ A1 n1 c1 A2 n2 c2, e = .returned (.tuple #[.agg #[.slice A1 n1 c1, .slice A2 n2 c2], .bool z]) ∧ Below w.heap.size w w' ∧
  (z = true → (∃ L, Nv w' L (.slice A1 n1 c1) (a / Nat.gcd a b)) ∧ (∃ L, Nv w' L (.slice A2 n2 c2) (b / Nat.gcd a b))) ∧ (z = false → Value.slice A1 n1 c1 = .slice none 0 0 ∧ Value.slice A2 n2 c2 = .slice none 0 0)
theorem made_yes {w : World} {a b : Nat} {e : Ending} {w' : World} (h : RetQt w (a / Nat.gcd a b) (b / Nat.gcd a b) e w') : MadeRet w a b true e w' := by
  obtain ⟨A1, n1, c1, A2, n2, c2, rfl, h1, h2, h3⟩ := h
  exact ⟨A1, n1, c1, A2, n2, c2, rfl, h3, fun _ => ⟨⟨_, h1⟩, ⟨_, h2⟩⟩, (fun h => by cases h)⟩
theorem made_no {w : World} {a b : Nat} {e : Ending} {w' : World} (h : RetQf w e w') : MadeRet w a b false e w' := by
  obtain ⟨rfl, h3⟩ := h
  exact ⟨none, 0, 0, none, 0, 0, rfl, h3, (fun h => by cases h), fun _ => ⟨rfl, rfl⟩⟩
theorem make_all {v1 v2 : Value} {a b M : Nat} (w : World) (h1 : Nr w v1 a M) (h2 : Nr w v2 b M) (hM : M ≤ 100000) : Calls Tryd.prog 7 #[v1, v2] w (MadeRet w a b (decide (0 < b))) := by
  rcases Nat.eq_zero_or_pos b with rfl | hb
  · exact (make_no w h2 hM).mono fun e w' h => made_no h
  · rw [decide_eq_true hb]
    exact (make_r w h1 h2 hM hb).mono fun e w' h => made_yes h
theorem of_all (n d : Nat) (w : World) (hn : n < 18446744073709551616) (hd : d < 18446744073709551616) : Calls Tryd.prog 8 #[.int .u64 (n : Int), .int .u64 (d : Int)] w (MadeRet w n d (decide (0 < d))) := by
  rcases Nat.eq_zero_or_pos d with rfl | hd0
  · exact (ratioOf_no n w hn).mono fun e w' h => made_no h
  · rw [decide_eq_true hd0]
    exact (ratioOf_r n d w hn hd hd0).mono fun e w' h => made_yes h

/-- What the law's variables hold. -/
structure MkM (w : World) (g9 g11 g13 g14 : Nat) (P1 P2 R1 R2 s1 s2 : Value) (a b n d : Nat) (zb zd : Bool) (W : World) : Prop where
  below : Below w.heap.size w W
  p0 : W.cell? ⟨g9, 0, none⟩ = some P1
  p1 : W.cell? ⟨g9, 1, none⟩ = some P2
  r0 : W.cell? ⟨g11, 0, none⟩ = some R1
  r1 : W.cell? ⟨g11, 1, none⟩ = some R2
  x : W.cell? ⟨g13, 0, none⟩ = some s1
  y : W.cell? ⟨g14, 0, none⟩ = some s2
  nx : ∃ L, Num W L (.agg #[s1]) a
  ny : ∃ L, Num W L (.agg #[s2]) b
  ok : zb = true → (∃ L, Nv W L P1 (a / Nat.gcd a b)) ∧ (∃ L, Nv W L P2 (b / Nat.gcd a b))
  no : zb = false → P1 = .slice none 0 0 ∧ P2 = .slice none 0 0
  is : zd = true → (∃ L, Nv W L R1 (n / Nat.gcd n d)) ∧ (∃ L, Nv W L R2 (d / Nat.gcd n d))
  ino : zd = false → R1 = .slice none 0 0 ∧ R2 = .slice none 0 0
theorem nv_ex {W W' : World} {v : Value} {a : Nat} (hb : Below W.heap.size W W') (h : ∃ L, Nv W L v a) : ∃ L, Nv W' L v a := by
  obtain ⟨L, h⟩ := h
  exact ⟨L, h.below hb⟩
theorem num_ex {W W' : World} {v : Value} {a : Nat} (hb : Below W.heap.size W W') (h : ∃ L, Num W L v a) : ∃ L, Num W' L v a := by
  obtain ⟨L, h⟩ := h
  exact ⟨L, h.below hb⟩
theorem MkM.step {w : World} {g9 g11 g13 g14 : Nat} {P1 P2 R1 R2 s1 s2 : Value} {a b n d : Nat} {zb zd : Bool} {W W' : World} (h : MkM w g9 g11 g13 g14 P1 P2 R1 R2 s1 s2 a b n d zb zd W) (hb : Below W.heap.size W W') :
    MkM w g9 g11 g13 g14 P1 P2 R1 R2 s1 s2 a b n d zb zd W' := by
  have pp := cells2 hb ⟨h.p0, h.p1⟩
  have rr := cells2 hb ⟨h.r0, h.r1⟩
  have xx := cells2 hb ⟨h.x, h.y⟩
  exact ⟨h.below.trans (hb.mono h.below.size), pp.1, pp.2, rr.1, rr.2, xx.1, xx.2, num_ex hb h.nx, num_ex hb h.ny, fun z => ⟨nv_ex hb (h.ok z).1, nv_ex hb (h.ok z).2⟩, h.no, fun z => ⟨nv_ex hb (h.is z).1, nv_ex hb (h.is z).2⟩, h.ino⟩

theorem mk_s8 {w : World} {g9 g11 g13 g14 : Nat} {P1 P2 R1 R2 s1 s2 : Value} {a b n d : Nat} {zb zd : Bool} {W : World} (h : MkM w g9 g11 g13 g14 P1 P2 R1 R2 s1 s2 a b n d zb zd W) :
    ((W.cell? ⟨g9, 0, none⟩ = some P1 ∧ W.cell? ⟨g9, 1, none⟩ = some P2) ∧ (W.cell? ⟨g13, 0, none⟩ = some s1 ∧ W.cell? ⟨g14, 0, none⟩ = some s2)) ∧ Hid (MkM w g9 g11 g13 g14 P1 P2 R1 R2 s1 s2 a b n d zb zd W) :=
  ⟨⟨⟨h.p0, h.p1⟩, h.x, h.y⟩, Lib.hid h⟩
theorem mk_s10 {w : World} {g9 g11 g13 g14 : Nat} {P1 P2 R1 R2 s1 s2 : Value} {a b n d : Nat} {zb zd : Bool} {W : World} (h : MkM w g9 g11 g13 g14 P1 P2 R1 R2 s1 s2 a b n d zb zd W) :
    (W.cell? ⟨g11, 0, none⟩ = some R1 ∧ W.cell? ⟨g11, 1, none⟩ = some R2) ∧ Hid (MkM w g9 g11 g13 g14 P1 P2 R1 R2 s1 s2 a b n d zb zd W) :=
  ⟨⟨h.r0, h.r1⟩, Lib.hid h⟩

set_option maxHeartbeats 16000000 in
theorem makes_walk (A1 A2 : Option Addr) (xs ys : List Nat) (n1 c1 n2 c2 n d : Nat) (w : World) (hl1 : xs.length = n1) (hl2 : ys.length = n2) (hc1 : n1 ≤ c1) (hc2 : n2 ≤ c2)
    (hr1 : Ra w w.heap.size A1 xs) (hr2 : Ra w w.heap.size A2 ys) (hd1 : Dg xs) (hd2 : Dg ys) (h1 : n1 ≤ 20) (h2 : n2 ≤ 20) (hn : n < 18446744073709551616) (hd : d < 18446744073709551616) (htab : Tab w) :
    Calls Tryd.prog 3 #[.slice A1 n1 c1, .slice A2 n2 c2, .int .u64 (n : Int), .int .u64 (d : Int)] w fun e w' => e = .returned (.bool true) ∧ Below w.heap.size w w' := by
  have px : U xs < 65536 ^ 40 := U_small16 (k := 20) hd1 (by omega)
  have py : U ys < 65536 ^ 40 := U_small16 (k := 20) hd2 (by omega)
  have hN1 : Nr w (.slice A1 n1 c1) (U xs) 20 := ⟨A1, xs, n1, c1, rfl, hl1, hc1, hr1, hd1, rfl, h1⟩
  have hN2 : Nr w (.slice A2 n2 c2) (U ys) 20 := ⟨A2, ys, n2, c2, rfl, hl2, hc2, hr2, hd2, rfl, h2⟩
  have hi1 := fun wz (h : Below w.heap.size w wz) => in_any A1 xs n1 c1 wz hl1 ((hr1.below h (Nat.le_refl _)).more h.size) hd1 (by omega)
  have hi2 := fun wz (h : Below w.heap.size w wz) => in_any A2 ys n2 c2 wz hl2 ((hr2.below h (Nat.le_refl _)).more h.size) hd2 (by omega)
  have hq1 := fun wz (h : Below w.heap.size w wz) => right_any A1 A2 xs ys n1 c1 n2 c2 wz hl1 hl2 ((hr1.below h (Nat.le_refl _)).more h.size) ((hr2.below h (Nat.le_refl _)).more h.size) hd1 hd2 (by omega) (by omega) hc1 hc2
  have hq2 := fun wz (h : Below w.heap.size w wz) => right4_r A1 A2 xs ys n1 c1 n2 c2 wz hl1 hl2 ((hr1.below h (Nat.le_refl _)).more h.size) ((hr2.below h (Nat.le_refl _)).more h.size) hd1 hd2 (by omega) (by omega)
  obtain ⟨rb, hrb⟩ : ∃ rb, rightB xs ys = rb := ⟨_, rfl⟩
  simp only [hrb] at hq1 hq2
  obtain ⟨a, ha⟩ : ∃ a, U xs = a := ⟨_, rfl⟩
  obtain ⟨b, hb⟩ : ∃ b, U ys = b := ⟨_, rfl⟩
  simp only [ha] at px hN1 hi1
  simp only [hb] at py hN2 hi2
  have hmk := make_all w hN1 hN2 (by omega)
  have hof := fun wz => of_all n d wz hn hd
  obtain ⟨zb, hzb⟩ : ∃ zb, decide (0 < b) = zb := ⟨_, rfl⟩
  obtain ⟨zd, hzd⟩ : ∃ zd, decide (0 < d) = zd := ⟨_, rfl⟩
  rw [hzb] at hmk
  simp only [hzd] at hof
  have hzdi : decide (0 < d) = zd := hzd
  have HMK := Lib.hid hmk
  have HOF := Lib.hid hof
  have HI1 := Lib.hid hi1
  have HI2 := Lib.hid hi2
  have HQ1 := Lib.hid hq1
  have HQ2 := Lib.hid hq2
  have PX := Lib.hid px
  have PY := Lib.hid py
  have HZB := Lib.hid hzb
  have HZD := Lib.hid hzd
  have HTAB := Lib.hid htab
  clear px py hN1 hN2 hi1 hi2 hq1 hq2 ha hb hl1 hl2 hr1 hr2 hd1 hd2 hmk hof hzb hzd hrb htab
  go_enter Tryd.func3, Tryd.ntmps3
  go_wp2_with fail
  refine HMK.out.mono ?_
  rintro e w1 ⟨P1, i1, e1, P2, i2, e2, rfl, hb1, hok, hno⟩
  have ha1 := b1 w1 (.cells #[.slice P1 i1 e1, .slice P2 i2 e2] 27)
  have p0 := cn0 w1 27 (.slice P1 i1 e1) (.slice P2 i2 e2)
  have p1 := cn1 w1 27 (.slice P1 i1 e1) (.slice P2 i2 e2)
  have hB1 := hb1.trans (ha1.mono hb1.size)
  have OK := Lib.hid (fun z => (⟨nv_ex ha1 (hok z).1, nv_ex ha1 (hok z).2⟩ : (∃ L, Nv _ L _ _) ∧ (∃ L, Nv _ L _ _)))
  have NO := Lib.hid hno
  clear hok hno hb1 ha1
  go_upto_region 4 with (fail)
  obtain ⟨g9, hg9⟩ : ∃ g, w1.heap.size = g := ⟨_, rfl⟩
  obtain ⟨W1, hW1⟩ : ∃ W, w1.alloc (.cells #[.slice P1 i1 e1, .slice P2 i2 e2] 27) = W := ⟨_, rfl⟩
  rw [hg9, hW1] at p0 p1
  rw [hW1] at hB1 OK
  rw [hg9, hW1]
  clear hg9 hW1
  go_wp2_with fail
  refine (HOF.out W1).mono ?_
  rintro e w2 ⟨R1, j1, f1, R2, j2, f2, rfl, hb2, his, hin⟩
  have ha2 := b1 w2 (.cells #[.slice R1 j1 f1, .slice R2 j2 f2] 27)
  have hb3 := hb2.trans (ha2.mono hb2.size)
  have r0 := cn0 w2 27 (.slice R1 j1 f1) (.slice R2 j2 f2)
  have r1 := cn1 w2 27 (.slice R1 j1 f1) (.slice R2 j2 f2)
  have pp := cells2 hb3 ⟨p0, p1⟩
  have OK := Lib.hid (fun z => (⟨nv_ex hb3 (OK.out z).1, nv_ex hb3 (OK.out z).2⟩ : (∃ L, Nv _ L _ _) ∧ (∃ L, Nv _ L _ _)))
  have IS := Lib.hid (fun z => (⟨nv_ex ha2 (his z).1, nv_ex ha2 (his z).2⟩ : (∃ L, Nv _ L _ _) ∧ (∃ L, Nv _ L _ _)))
  have IN := Lib.hid hin
  have hB2 := hB1.trans (hb3.mono hB1.size)
  clear his hin hb2 hb3 ha2 p0 p1
  go_upto_region 5 with (fail)
  obtain ⟨g11, hg11⟩ : ∃ g, w2.heap.size = g := ⟨_, rfl⟩
  obtain ⟨W2, hW2⟩ : ∃ W, w2.alloc (.cells #[.slice R1 j1 f1, .slice R2 j2 f2] 27) = W := ⟨_, rfl⟩
  rw [hg11, hW2] at r0 r1
  rw [hW2] at hB2 OK IS pp
  rw [hg11, hW2]
  clear hg11 hW2
  go_wp2_with fail
  refine (HI1.out W2 hB2).mono ?_
  rintro e w3 ⟨v1, rfl, hx3, hb3⟩
  obtain ⟨S1, m1, k1, rfl⟩ := hx3.shape
  have HX := Lib.hid hx3
  have hB3 := hB2.trans (hb3.mono hB2.size)
  clear hx3
  go_wp2_with fail
  refine (HI2.out w3 hB3).mono ?_
  rintro e w4 ⟨v2, rfl, hy4, hb4⟩
  obtain ⟨S2, m2, k2, rfl⟩ := hy4.shape
  have hlen := num_len3 hy4
  have ha4 := b2 w4 (.cells #[.slice S1 m1 k1] 33) (.cells #[.slice S2 m2 k2] 33)
  have hb5 := (hb3.trans (hb4.mono hb3.size)).trans (ha4.mono (Nat.le_trans hb3.size hb4.size))
  have q1 := ((Blk.new w4 33 #[.slice S1 m1 k1]).alloc (.cells #[.slice S2 m2 k2] 33)).cell 0
  have q2 := (Blk.new (w4.alloc (.cells #[.slice S1 m1 k1] 33)) 33 #[.slice S2 m2 k2]).cell 0
  rw [World.size_alloc] at q2
  have pp := cells2 hb5 pp
  have rr := cells2 hb5 ⟨r0, r1⟩
  have hm : MkM w g9 g11 w4.heap.size (w4.heap.size + 1) (.slice P1 i1 e1) (.slice P2 i2 e2) (.slice R1 j1 f1) (.slice R2 j2 f2) (.slice S1 m1 k1) (.slice S2 m2 k2) a b n d zb zd _ :=
    ⟨hB2.trans (hb5.mono hB2.size), pp.1, pp.2, rr.1, rr.2, q1, q2, ⟨_, (HX.out.below hb4).below ha4⟩, ⟨_, hy4.below ha4⟩, fun z => ⟨nv_ex hb5 (OK.out z).1, nv_ex hb5 (OK.out z).2⟩, NO.out, fun z => ⟨nv_ex hb5 (IS.out z).1, nv_ex hb5 (IS.out z).2⟩, IN.out⟩
  have hm2z : decide (0 < m2) = zb := by
    rw [← HZB.out]
    rcases hlen with ⟨h, h'⟩ | ⟨h, h'⟩
    · rw [h, h']
    · rw [decide_eq_true h', decide_eq_true h]
  clear OK NO IS IN pp rr r0 r1 q1 q2 HX hy4 hb3 hb4 hb5 ha4 hB1 hB2 hB3 hlen HMK HOF HI1 HI2
  go_upto_region 6 with (fail)
  obtain ⟨g13, hg13⟩ : ∃ g, w4.heap.size = g := ⟨_, rfl⟩
  obtain ⟨W4, hW4⟩ : ∃ W, (w4.alloc (.cells #[.slice S1 m1 k1] 33)).alloc (.cells #[.slice S2 m2 k2] 33) = W := ⟨_, rfl⟩
  rw [hg13, hW4] at hm
  rw [hg13, hW4]
  clear hg13 hW4
  have hy := hm.y
  have HM := Lib.hid hm
  clear hm
  go_wp2_with fail
  refine (HQ1.out W4 HM.out.below).mono ?_
  rintro e w5 ⟨rfl, hb5⟩
  have hm5 := HM.out.step hb5
  have hy5 := hm5.y
  have HM5 := Lib.hid hm5
  clear hm5 hb5 hy HM
  go_wp2_with fail
  refine (HQ2.out w5 HM5.out.below).mono ?_
  rintro e w6 ⟨rfl, hb6⟩
  have hm6 := HM5.out.step hb6
  have hy6 := hm6.y
  have HM6 := Lib.hid hm6
  clear hm6 hb6 hy5 HM5
  go_upto_region 8 with (fail)
  clear hy6
  go_cut [81] (fun y wr => y = .bool false ∧ MkM w g9 g11 g13 (g13 + 1) (.slice P1 i1 e1) (.slice P2 i2 e2) (.slice R1 j1 f1) (.slice R2 j2 f2) (.slice S1 m1 k1) (.slice S2 m2 k2) a b n d zb zd wr)
  case first =>
    cases zb
    · obtain ⟨hP1, hP2⟩ := HM6.out.no rfl
      simp only [Value.slice.injEq] at hP1 hP2
      obtain ⟨rfl, rfl, rfl⟩ := hP1
      obtain ⟨rfl, rfl, rfl⟩ := hP2
      refine wp_region_held_drew (S := (fun W => ((W.cell? ⟨g9, 0, none⟩ = some (.slice none 0 0) ∧ W.cell? ⟨g9, 1, none⟩ = some (.slice none 0 0)) ∧ (W.cell? ⟨g13, 0, none⟩ = some (.slice S1 m1 k1) ∧ W.cell? ⟨g13 + 1, 0, none⟩ = some (.slice S2 m2 k2))) ∧ Hid (MkM w g9 g11 g13 (g13 + 1) (.slice none 0 0) (.slice none 0 0) (.slice R1 j1 f1) (.slice R2 j2 f2) (.slice S1 m1 k1) (.slice S2 m2 k2) a b n d false zd W))) (by kernel_rfl) (mk_s8 (HM6.out.step (Below.refl _ _).drew)) (fun hHeld => ?_)
      refine wpAnyH_take (i := 0) (v := ?_) (op_of rfl) (by kernel_rfl) (by kernel_rfl) (by kernel_rfl) (fun _ _ _ h => h) (Or.inl ⟨by rfl, fun w hS => ?_⟩) (by assumption) ?_
      rotate_left
      · dsimp only at hS
        go_simp
        try with_reducible rfl
      try dsimp only [Act.put]
      try simp only [List.setIfInBounds_toArray, List.set_cons_zero, List.set_cons_succ]
      refine wpAnyH_take (i := 1) (v := ?_) (op_of rfl) (by kernel_rfl) (by kernel_rfl) (by kernel_rfl) (fun _ _ _ h => h) (Or.inl ⟨by rfl, fun w hS => ?_⟩) (by assumption) ?_
      rotate_left
      · dsimp only at hS
        go_simp
        try with_reducible rfl
      try dsimp only [Act.put]
      try simp only [List.setIfInBounds_toArray, List.set_cons_zero, List.set_cons_succ]
      refine take_skip (i := 2) (op_of rfl) (by kernel_rfl) (by kernel_rfl) (by kernel_rfl) (fun _ _ _ h => h) (by rfl) (by assumption) ?_
      try dsimp only [Act.put]
      try simp only [List.setIfInBounds_toArray, List.set_cons_zero, List.set_cons_succ]
      refine take_skip (i := 3) (op_of rfl) (by kernel_rfl) (by kernel_rfl) (by kernel_rfl) (fun _ _ _ h => h) (by rfl) (by assumption) ?_
      try dsimp only [Act.put]
      try simp only [List.setIfInBounds_toArray, List.set_cons_zero, List.set_cons_succ]
      refine take_skip (i := 4) (op_of rfl) (by kernel_rfl) (by kernel_rfl) (by kernel_rfl) (fun _ _ _ h => h) (by rfl) (by assumption) ?_
      try dsimp only [Act.put]
      try simp only [List.setIfInBounds_toArray, List.set_cons_zero, List.set_cons_succ]
      refine take_skip (i := 5) (op_of rfl) (by kernel_rfl) (by kernel_rfl) (by kernel_rfl) (fun _ _ _ h => h) (by rfl) (by assumption) ?_
      try dsimp only [Act.put]
      try simp only [List.setIfInBounds_toArray, List.set_cons_zero, List.set_cons_succ]
      refine take_skip (i := 6) (op_of rfl) (by kernel_rfl) (by kernel_rfl) (by kernel_rfl) (fun _ _ _ h => h) (by rfl) (by assumption) ?_
      try dsimp only [Act.put]
      try simp only [List.setIfInBounds_toArray, List.set_cons_zero, List.set_cons_succ]
      refine take_skip (i := 7) (op_of rfl) (by kernel_rfl) (by kernel_rfl) (by kernel_rfl) (fun _ _ _ h => h) (by rfl) (by assumption) ?_
      try dsimp only [Act.put]
      try simp only [List.setIfInBounds_toArray, List.set_cons_zero, List.set_cons_succ]
      refine take_skip (i := 8) (op_of rfl) (by kernel_rfl) (by kernel_rfl) (by kernel_rfl) (fun _ _ _ h => h) (by rfl) (by assumption) ?_
      try dsimp only [Act.put]
      try simp only [List.setIfInBounds_toArray, List.set_cons_zero, List.set_cons_succ]
      refine wpAnyH_take (i := 9) (v := ?_) (op_of rfl) (by kernel_rfl) (by kernel_rfl) (by kernel_rfl) (fun _ _ _ h => h) (Or.inl ⟨by rfl, fun w hS => ?_⟩) (by assumption) ?_
      rotate_left
      · dsimp only at hS
        go_simp
        try with_reducible rfl
      try dsimp only [Act.put]
      try simp only [List.setIfInBounds_toArray, List.set_cons_zero, List.set_cons_succ]
      refine wpAnyH_take (i := 10) (v := ?_) (op_of rfl) (by kernel_rfl) (by kernel_rfl) (by kernel_rfl) (fun _ _ _ h => h) (Or.inl ⟨by rfl, fun w hS => ?_⟩) (by assumption) ?_
      rotate_left
      · dsimp only at hS
        go_simp
        try with_reducible rfl
      try dsimp only [Act.put]
      try simp only [List.setIfInBounds_toArray, List.set_cons_zero, List.set_cons_succ]
      refine wpAnyH_take (i := 11) (v := ?_) (op_of rfl) (by kernel_rfl) (by kernel_rfl) (by kernel_rfl) (fun _ _ _ h => h) (Or.inl ⟨by rfl, fun w hS => ?_⟩) (by assumption) ?_
      rotate_left
      · dsimp only at hS
        go_simp
        try with_reducible rfl
      try dsimp only [Act.put]
      try simp only [List.setIfInBounds_toArray, List.set_cons_zero, List.set_cons_succ]
      refine wpAnyH_take (i := 12) (v := ?_) (op_of rfl) (by kernel_rfl) (by kernel_rfl) (by kernel_rfl) (fun _ _ _ h => h) (Or.inl ⟨by rfl, fun w hS => ?_⟩) (by assumption) ?_
      rotate_left
      · dsimp only at hS
        go_simp
        try with_reducible rfl
      try dsimp only [Act.put]
      try simp only [List.setIfInBounds_toArray, List.set_cons_zero, List.set_cons_succ]
      refine wpAnyH_take (i := 13) (v := ?_) (op_of rfl) (by kernel_rfl) (by kernel_rfl) (by kernel_rfl) (fun _ _ _ h => h) (Or.inl ⟨by rfl, fun w hS => ?_⟩) (by assumption) ?_
      rotate_left
      · dsimp only at hS
        go_simp
        try with_reducible rfl
      try dsimp only [Act.put]
      try simp only [List.setIfInBounds_toArray, List.set_cons_zero, List.set_cons_succ]
      refine wpAnyH_take (i := 14) (v := ?_) (op_of rfl) (by kernel_rfl) (by kernel_rfl) (by kernel_rfl) (fun _ _ _ h => h) (Or.inl ⟨by rfl, fun w hS => ?_⟩) (by assumption) ?_
      rotate_left
      · dsimp only at hS
        go_simp
        try with_reducible rfl
      try dsimp only [Act.put]
      try simp only [List.setIfInBounds_toArray, List.set_cons_zero, List.set_cons_succ]
      refine wpAnyH_ready (rs := [15]) (by kernel_rfl) (by simp) (AllReadyH.cons (op_of rfl) (fun K hK => ?_) AllReadyH.nil)
      go_simp
      refine (none_yes _).mono ?_
      rintro e x1 ⟨rfl, hb1⟩
      refine hK.out _ _ (mk_s8 (hHeld.2.out.step hb1)) (fun hHeld1 => ?_)
      clear hK K
      try dsimp only [Act.put]
      try simp only [List.setIfInBounds_toArray, List.set_cons_zero, List.set_cons_succ]
      refine wpAnyH_take (i := 16) (v := ?_) (op_of rfl) (by kernel_rfl) (by kernel_rfl) (by kernel_rfl) (fun _ _ _ h => h) (Or.inl ⟨by rfl, fun w hS => ?_⟩) (by assumption) ?_
      rotate_left
      · dsimp only at hS
        go_simp
        try with_reducible rfl
      try dsimp only [Act.put]
      try simp only [List.setIfInBounds_toArray, List.set_cons_zero, List.set_cons_succ]
      refine wpAnyH_take (i := 17) (v := ?_) (op_of rfl) (by kernel_rfl) (by kernel_rfl) (by kernel_rfl) (fun _ _ _ h => h) (Or.inl ⟨by rfl, fun w hS => ?_⟩) (by assumption) ?_
      rotate_left
      · dsimp only at hS
        go_simp
        try with_reducible rfl
      try dsimp only [Act.put]
      try simp only [List.setIfInBounds_toArray, List.set_cons_zero, List.set_cons_succ]
      refine wpAnyH_take (i := 18) (v := ?_) (op_of rfl) (by kernel_rfl) (by kernel_rfl) (by kernel_rfl) (fun _ _ _ h => h) (Or.inl ⟨by rfl, fun w hS => ?_⟩) (by assumption) ?_
      rotate_left
      · dsimp only at hS
        go_simp
        try with_reducible rfl
      try dsimp only [Act.put]
      try simp only [List.setIfInBounds_toArray, List.set_cons_zero, List.set_cons_succ]
      refine wpAnyH_done (by kernel_rfl) ?_ _
      go_wp2_with fail
      go_meet
      exact ⟨rfl, hHeld1.2.out⟩
    · have hb0 : 0 < b := of_decide_eq_true HZB.out
      have HPA : Hid (a / Nat.gcd a b < 65536 ^ 40) := Lib.hid (Nat.lt_of_le_of_lt (Nat.div_le_self _ _) PX.out)
      have HPB : Hid (b / Nat.gcd a b < 65536 ^ 40) := Lib.hid (Nat.lt_of_le_of_lt (Nat.div_le_self _ _) PY.out)
      refine wp_region_held_drew (S := (fun W => ((W.cell? ⟨g9, 0, none⟩ = some (.slice P1 i1 e1) ∧ W.cell? ⟨g9, 1, none⟩ = some (.slice P2 i2 e2)) ∧ (W.cell? ⟨g13, 0, none⟩ = some (.slice S1 m1 k1) ∧ W.cell? ⟨g13 + 1, 0, none⟩ = some (.slice S2 m2 k2))) ∧ Hid (MkM w g9 g11 g13 (g13 + 1) (.slice P1 i1 e1) (.slice P2 i2 e2) (.slice R1 j1 f1) (.slice R2 j2 f2) (.slice S1 m1 k1) (.slice S2 m2 k2) a b n d true zd W))) (by kernel_rfl) (mk_s8 (HM6.out.step (Below.refl _ _).drew)) (fun hHeld => ?_)
      refine wpAnyH_take (i := 0) (v := ?_) (op_of rfl) (by kernel_rfl) (by kernel_rfl) (by kernel_rfl) (fun _ _ _ h => h) (Or.inl ⟨by rfl, fun w hS => ?_⟩) (by assumption) ?_
      rotate_left
      · dsimp only at hS
        go_simp
        try with_reducible rfl
      try dsimp only [Act.put]
      try simp only [List.setIfInBounds_toArray, List.set_cons_zero, List.set_cons_succ]
      refine wpAnyH_take (i := 1) (v := ?_) (op_of rfl) (by kernel_rfl) (by kernel_rfl) (by kernel_rfl) (fun _ _ _ h => h) (Or.inl ⟨by rfl, fun w hS => ?_⟩) (by assumption) ?_
      rotate_left
      · dsimp only at hS
        go_simp
        try with_reducible rfl
      try dsimp only [Act.put]
      try simp only [List.setIfInBounds_toArray, List.set_cons_zero, List.set_cons_succ]
      refine wpAnyH_take (i := 2) (v := ?_) (op_of rfl) (by kernel_rfl) (by kernel_rfl) (by kernel_rfl) (fun _ _ _ h => h) (Or.inl ⟨by rfl, fun w hS => ?_⟩) (by assumption) ?_
      rotate_left
      · dsimp only at hS
        go_simp
        try with_reducible rfl
      try dsimp only [Act.put]
      try simp only [List.setIfInBounds_toArray, List.set_cons_zero, List.set_cons_succ]
      refine wpAnyH_take (i := 3) (v := ?_) (op_of rfl) (by kernel_rfl) (by kernel_rfl) (by kernel_rfl) (fun _ _ _ h => h) (Or.inl ⟨by rfl, fun w hS => ?_⟩) (by assumption) ?_
      rotate_left
      · dsimp only at hS
        go_simp
        try with_reducible rfl
      try dsimp only [Act.put]
      try simp only [List.setIfInBounds_toArray, List.set_cons_zero, List.set_cons_succ]
      refine wpAnyH_take (i := 4) (v := ?_) (op_of rfl) (by kernel_rfl) (by kernel_rfl) (by kernel_rfl) (fun _ _ _ h => h) (Or.inl ⟨by rfl, fun w hS => ?_⟩) (by assumption) ?_
      rotate_left
      · dsimp only at hS
        go_simp
        try with_reducible rfl
      try dsimp only [Act.put]
      try simp only [List.setIfInBounds_toArray, List.set_cons_zero, List.set_cons_succ]
      refine wpAnyH_take (i := 5) (v := ?_) (op_of rfl) (by kernel_rfl) (by kernel_rfl) (by kernel_rfl) (fun _ _ _ h => h) (Or.inl ⟨by rfl, fun w hS => ?_⟩) (by assumption) ?_
      rotate_left
      · dsimp only at hS
        go_simp
        try with_reducible rfl
      try dsimp only [Act.put]
      try simp only [List.setIfInBounds_toArray, List.set_cons_zero, List.set_cons_succ]
      refine wpAnyH_ready (rs := [6]) (by kernel_rfl) (by simp) (AllReadyH.cons (op_of rfl) (fun K hK => ?_) AllReadyH.nil)
      go_simp
      obtain ⟨L3, hx⟩ := hHeld.2.out.nx
      obtain ⟨L4, hy⟩ := hHeld.2.out.ny
      refine (low_any S1 S2 m1 k1 m2 k2 a b _ _ _ hx hy PX.out PY.out hb0 (by omega)).mono ?_
      rintro e x1 ⟨T1, t1, l1, T2, t2, l2, rfl, ⟨L5, hq1⟩, ⟨L6, hq2⟩, hb1⟩
      have N1 := Lib.hid hq1
      have N2 := Lib.hid hq2
      clear hq1 hq2 hx hy
      refine hK.out _ _ (mk_s8 (hHeld.2.out.step hb1)) (fun hHeld1 => ?_)
      clear hK K
      try dsimp only [Act.put]
      try simp only [List.setIfInBounds_toArray, List.set_cons_zero, List.set_cons_succ]
      refine wpAnyH_ready (rs := [7]) (by kernel_rfl) (by simp) (AllReadyH.cons (op_of rfl) (fun K hK => ?_) AllReadyH.nil)
      go_simp
      obtain ⟨⟨L1, hn1⟩, ⟨L2, hn2⟩⟩ := hHeld1.2.out.ok rfl
      refine (same4_r (j := 40) _ hn1 hn2 N1.out N2.out HPA.out HPB.out (by omega)).mono ?_
      rintro e x2 ⟨rfl, hb2⟩
      clear hn1 hn2
      refine hK.out _ _ (mk_s8 (hHeld1.2.out.step hb2)) (fun hHeld2 => ?_)
      clear hK K
      try dsimp only [Act.put]
      try simp only [List.setIfInBounds_toArray, List.set_cons_zero, List.set_cons_succ]
      refine wpAnyH_take (i := 8) (v := ?_) (op_of rfl) (by kernel_rfl) (by kernel_rfl) (by kernel_rfl) (fun _ _ _ h => h) (Or.inl ⟨by rfl, fun w hS => ?_⟩) (by assumption) ?_
      rotate_left
      · dsimp only at hS
        go_simp
        try with_reducible rfl
      try dsimp only [Act.put]
      try simp only [List.setIfInBounds_toArray, List.set_cons_zero, List.set_cons_succ]
      refine wpAnyH_take (i := 9) (v := ?_) (op_of rfl) (by kernel_rfl) (by kernel_rfl) (by kernel_rfl) (fun _ _ _ h => h) (Or.inl ⟨by rfl, fun w hS => ?_⟩) (by assumption) ?_
      rotate_left
      · dsimp only at hS
        go_simp
        try with_reducible rfl
      try dsimp only [Act.put]
      try simp only [List.setIfInBounds_toArray, List.set_cons_zero, List.set_cons_succ]
      refine wpAnyH_take (i := 10) (v := ?_) (op_of rfl) (by kernel_rfl) (by kernel_rfl) (by kernel_rfl) (fun _ _ _ h => h) (Or.inl ⟨by rfl, fun w hS => ?_⟩) (by assumption) ?_
      rotate_left
      · dsimp only at hS
        go_simp
        try with_reducible rfl
      try dsimp only [Act.put]
      try simp only [List.setIfInBounds_toArray, List.set_cons_zero, List.set_cons_succ]
      refine wpAnyH_take (i := 11) (v := ?_) (op_of rfl) (by kernel_rfl) (by kernel_rfl) (by kernel_rfl) (fun _ _ _ h => h) (Or.inl ⟨by rfl, fun w hS => ?_⟩) (by assumption) ?_
      rotate_left
      · dsimp only at hS
        go_simp
        try with_reducible rfl
      try dsimp only [Act.put]
      try simp only [List.setIfInBounds_toArray, List.set_cons_zero, List.set_cons_succ]
      refine wpAnyH_take (i := 12) (v := ?_) (op_of rfl) (by kernel_rfl) (by kernel_rfl) (by kernel_rfl) (fun _ _ _ h => h) (Or.inl ⟨by rfl, fun w hS => ?_⟩) (by assumption) ?_
      rotate_left
      · dsimp only at hS
        go_simp
        try with_reducible rfl
      try dsimp only [Act.put]
      try simp only [List.setIfInBounds_toArray, List.set_cons_zero, List.set_cons_succ]
      refine wpAnyH_take (i := 13) (v := ?_) (op_of rfl) (by kernel_rfl) (by kernel_rfl) (by kernel_rfl) (fun _ _ _ h => h) (Or.inl ⟨by rfl, fun w hS => ?_⟩) (by assumption) ?_
      rotate_left
      · dsimp only at hS
        go_simp
        try with_reducible rfl
      try dsimp only [Act.put]
      try simp only [List.setIfInBounds_toArray, List.set_cons_zero, List.set_cons_succ]
      refine take_skip (i := 14) (op_of rfl) (by kernel_rfl) (by kernel_rfl) (by kernel_rfl) (fun _ _ _ h => h) (by rfl) (by assumption) ?_
      try dsimp only [Act.put]
      try simp only [List.setIfInBounds_toArray, List.set_cons_zero, List.set_cons_succ]
      refine take_skip (i := 15) (op_of rfl) (by kernel_rfl) (by kernel_rfl) (by kernel_rfl) (fun _ _ _ h => h) (by rfl) (by assumption) ?_
      try dsimp only [Act.put]
      try simp only [List.setIfInBounds_toArray, List.set_cons_zero, List.set_cons_succ]
      refine take_skip (i := 16) (op_of rfl) (by kernel_rfl) (by kernel_rfl) (by kernel_rfl) (fun _ _ _ h => h) (by rfl) (by assumption) ?_
      try dsimp only [Act.put]
      try simp only [List.setIfInBounds_toArray, List.set_cons_zero, List.set_cons_succ]
      refine wpAnyH_take (i := 17) (v := ?_) (op_of rfl) (by kernel_rfl) (by kernel_rfl) (by kernel_rfl) (fun _ _ _ h => h) (Or.inl ⟨by rfl, fun w hS => ?_⟩) (by assumption) ?_
      rotate_left
      · dsimp only at hS
        go_simp
        try with_reducible rfl
      try dsimp only [Act.put]
      try simp only [List.setIfInBounds_toArray, List.set_cons_zero, List.set_cons_succ]
      refine wpAnyH_take (i := 18) (v := ?_) (op_of rfl) (by kernel_rfl) (by kernel_rfl) (by kernel_rfl) (fun _ _ _ h => h) (Or.inl ⟨by rfl, fun w hS => ?_⟩) (by assumption) ?_
      rotate_left
      · dsimp only at hS
        go_simp
        try with_reducible rfl
      try dsimp only [Act.put]
      try simp only [List.setIfInBounds_toArray, List.set_cons_zero, List.set_cons_succ]
      refine wpAnyH_done (by kernel_rfl) ?_ _
      go_wp2_with fail
      go_meet
      exact ⟨rfl, hHeld2.2.out⟩
  case rest =>
    obtain ⟨rfl, hm⟩ := hcut
    have HM := Lib.hid hm
    clear hm HM6
    cases zd
    · obtain ⟨hP1, hP2⟩ := HM.out.ino rfl
      simp only [Value.slice.injEq] at hP1 hP2
      obtain ⟨rfl, rfl, rfl⟩ := hP1
      obtain ⟨rfl, rfl, rfl⟩ := hP2
      go_upto_region 10 with (fail)
      refine wp_region_held_drew (S := (fun W => (W.cell? ⟨g11, 0, none⟩ = some (.slice none 0 0) ∧ W.cell? ⟨g11, 1, none⟩ = some (.slice none 0 0)) ∧ Hid (MkM w g9 g11 g13 (g13 + 1) (.slice P1 i1 e1) (.slice P2 i2 e2) (.slice none 0 0) (.slice none 0 0) (.slice S1 m1 k1) (.slice S2 m2 k2) a b n d zb false W))) (by kernel_rfl) (mk_s10 (HM.out.step (Below.refl _ _).drew)) (fun hHeld => ?_)
      refine wpAnyH_take (i := 0) (v := ?_) (op_of rfl) (by kernel_rfl) (by kernel_rfl) (by kernel_rfl) (fun _ _ _ h => h) (Or.inl ⟨by rfl, fun w hS => ?_⟩) (by assumption) ?_
      rotate_left
      · dsimp only at hS
        go_simp
        try with_reducible rfl
      try dsimp only [Act.put]
      try simp only [List.setIfInBounds_toArray, List.set_cons_zero, List.set_cons_succ]
      refine wpAnyH_take (i := 1) (v := ?_) (op_of rfl) (by kernel_rfl) (by kernel_rfl) (by kernel_rfl) (fun _ _ _ h => h) (Or.inl ⟨by rfl, fun w hS => ?_⟩) (by assumption) ?_
      rotate_left
      · dsimp only at hS
        go_simp
        try with_reducible rfl
      try dsimp only [Act.put]
      try simp only [List.setIfInBounds_toArray, List.set_cons_zero, List.set_cons_succ]
      refine take_skip (i := 2) (op_of rfl) (by kernel_rfl) (by kernel_rfl) (by kernel_rfl) (fun _ _ _ h => h) (by rfl) (by assumption) ?_
      try dsimp only [Act.put]
      try simp only [List.setIfInBounds_toArray, List.set_cons_zero, List.set_cons_succ]
      refine take_skip (i := 3) (op_of rfl) (by kernel_rfl) (by kernel_rfl) (by kernel_rfl) (fun _ _ _ h => h) (by rfl) (by assumption) ?_
      try dsimp only [Act.put]
      try simp only [List.setIfInBounds_toArray, List.set_cons_zero, List.set_cons_succ]
      refine take_skip (i := 4) (op_of rfl) (by kernel_rfl) (by kernel_rfl) (by kernel_rfl) (fun _ _ _ h => h) (by rfl) (by assumption) ?_
      try dsimp only [Act.put]
      try simp only [List.setIfInBounds_toArray, List.set_cons_zero, List.set_cons_succ]
      refine take_skip (i := 5) (op_of rfl) (by kernel_rfl) (by kernel_rfl) (by kernel_rfl) (fun _ _ _ h => h) (by rfl) (by assumption) ?_
      try dsimp only [Act.put]
      try simp only [List.setIfInBounds_toArray, List.set_cons_zero, List.set_cons_succ]
      refine take_skip (i := 6) (op_of rfl) (by kernel_rfl) (by kernel_rfl) (by kernel_rfl) (fun _ _ _ h => h) (by rfl) (by assumption) ?_
      try dsimp only [Act.put]
      try simp only [List.setIfInBounds_toArray, List.set_cons_zero, List.set_cons_succ]
      refine wpAnyH_take (i := 7) (v := ?_) (op_of rfl) (by kernel_rfl) (by kernel_rfl) (by kernel_rfl) (fun _ _ _ h => h) (Or.inl ⟨by rfl, fun w hS => ?_⟩) (by assumption) ?_
      rotate_left
      · dsimp only at hS
        go_simp
        try with_reducible rfl
      try dsimp only [Act.put]
      try simp only [List.setIfInBounds_toArray, List.set_cons_zero, List.set_cons_succ]
      refine wpAnyH_take (i := 8) (v := ?_) (op_of rfl) (by kernel_rfl) (by kernel_rfl) (by kernel_rfl) (fun _ _ _ h => h) (Or.inl ⟨by rfl, fun w hS => ?_⟩) (by assumption) ?_
      rotate_left
      · dsimp only at hS
        go_simp
        try with_reducible rfl
      try dsimp only [Act.put]
      try simp only [List.setIfInBounds_toArray, List.set_cons_zero, List.set_cons_succ]
      refine wpAnyH_take (i := 9) (v := ?_) (op_of rfl) (by kernel_rfl) (by kernel_rfl) (by kernel_rfl) (fun _ _ _ h => h) (Or.inl ⟨by rfl, fun w hS => ?_⟩) (by assumption) ?_
      rotate_left
      · dsimp only at hS
        go_simp
        try with_reducible rfl
      try dsimp only [Act.put]
      try simp only [List.setIfInBounds_toArray, List.set_cons_zero, List.set_cons_succ]
      refine wpAnyH_take (i := 10) (v := ?_) (op_of rfl) (by kernel_rfl) (by kernel_rfl) (by kernel_rfl) (fun _ _ _ h => h) (Or.inl ⟨by rfl, fun w hS => ?_⟩) (by assumption) ?_
      rotate_left
      · dsimp only at hS
        go_simp
        try with_reducible rfl
      try dsimp only [Act.put]
      try simp only [List.setIfInBounds_toArray, List.set_cons_zero, List.set_cons_succ]
      refine wpAnyH_take (i := 11) (v := ?_) (op_of rfl) (by kernel_rfl) (by kernel_rfl) (by kernel_rfl) (fun _ _ _ h => h) (Or.inl ⟨by rfl, fun w hS => ?_⟩) (by assumption) ?_
      rotate_left
      · dsimp only at hS
        go_simp
        try with_reducible rfl
      try dsimp only [Act.put]
      try simp only [List.setIfInBounds_toArray, List.set_cons_zero, List.set_cons_succ]
      refine wpAnyH_take (i := 12) (v := ?_) (op_of rfl) (by kernel_rfl) (by kernel_rfl) (by kernel_rfl) (fun _ _ _ h => h) (Or.inl ⟨by rfl, fun w hS => ?_⟩) (by assumption) ?_
      rotate_left
      · dsimp only at hS
        go_simp
        try with_reducible rfl
      try dsimp only [Act.put]
      try simp only [List.setIfInBounds_toArray, List.set_cons_zero, List.set_cons_succ]
      refine wpAnyH_ready (rs := [13]) (by kernel_rfl) (by simp) (AllReadyH.cons (op_of rfl) (fun K hK => ?_) AllReadyH.nil)
      go_simp
      refine (none_yes _).mono ?_
      rintro e x1 ⟨rfl, hb1⟩
      refine hK.out _ _ (mk_s10 (hHeld.2.out.step hb1)) (fun hHeld1 => ?_)
      clear hK K
      try dsimp only [Act.put]
      try simp only [List.setIfInBounds_toArray, List.set_cons_zero, List.set_cons_succ]
      refine wpAnyH_take (i := 14) (v := ?_) (op_of rfl) (by kernel_rfl) (by kernel_rfl) (by kernel_rfl) (fun _ _ _ h => h) (Or.inl ⟨by rfl, fun w hS => ?_⟩) (by assumption) ?_
      rotate_left
      · dsimp only at hS
        go_simp
        try with_reducible rfl
      try dsimp only [Act.put]
      try simp only [List.setIfInBounds_toArray, List.set_cons_zero, List.set_cons_succ]
      refine wpAnyH_take (i := 15) (v := ?_) (op_of rfl) (by kernel_rfl) (by kernel_rfl) (by kernel_rfl) (fun _ _ _ h => h) (Or.inl ⟨by rfl, fun w hS => ?_⟩) (by assumption) ?_
      rotate_left
      · dsimp only at hS
        go_simp
        try with_reducible rfl
      try dsimp only [Act.put]
      try simp only [List.setIfInBounds_toArray, List.set_cons_zero, List.set_cons_succ]
      refine wpAnyH_take (i := 16) (v := ?_) (op_of rfl) (by kernel_rfl) (by kernel_rfl) (by kernel_rfl) (fun _ _ _ h => h) (Or.inl ⟨by rfl, fun w hS => ?_⟩) (by assumption) ?_
      rotate_left
      · dsimp only at hS
        go_simp
        try with_reducible rfl
      try dsimp only [Act.put]
      try simp only [List.setIfInBounds_toArray, List.set_cons_zero, List.set_cons_succ]
      refine wpAnyH_ready (rs := [17]) (by kernel_rfl) (by simp) (AllReadyH.cons (op_of rfl) (fun K hK => ?_) AllReadyH.nil)
      go_simp
      refine (ratioZero_r _).mono ?_
      rintro e x3 ⟨Z1, y1, o1, Z2, y2, o2, rfl, hz1, hz2, hb3⟩
      have Q1 := Lib.hid hz1
      have Q2 := Lib.hid hz2
      clear hz1 hz2
      refine hK.out _ _ (mk_s10 (hHeld1.2.out.step hb3)) (fun hHeld2 => ?_)
      clear hK K
      try dsimp only [Act.put]
      try simp only [List.setIfInBounds_toArray, List.set_cons_zero, List.set_cons_succ]
      refine wpAnyH_ready (rs := [18]) (by kernel_rfl) (by simp) (AllReadyH.cons (op_of rfl) (fun K hK => ?_) AllReadyH.nil)
      go_simp
      refine (int0_r _).mono ?_
      rintro e x4 ⟨V1, s3, q3, V2, s4, q4, rfl, ⟨L7, hi1⟩, ⟨L8, hi2⟩, hb4⟩
      have I1 := Lib.hid hi1
      have I2 := Lib.hid hi2
      have Q1 := Lib.hid (Q1.out.below hb4)
      have Q2 := Lib.hid (Q2.out.below hb4)
      clear hi1 hi2
      refine hK.out _ _ (mk_s10 (hHeld2.2.out.step hb4)) (fun hHeld3 => ?_)
      clear hK K
      try dsimp only [Act.put]
      try simp only [List.setIfInBounds_toArray, List.set_cons_zero, List.set_cons_succ]
      refine wpAnyH_ready (rs := [19]) (by kernel_rfl) (by simp) (AllReadyH.cons (op_of rfl) (fun K hK => ?_) AllReadyH.nil)
      go_simp
      refine (same4_r (a := 0) (b := 1) (j := 100) _ Q1.out Q2.out I1.out I2.out (pow_word (by omega)) (pow_word (by omega)) (by omega)).mono ?_
      rintro e x5 ⟨rfl, hb5⟩
      refine hK.out _ _ (mk_s10 (hHeld3.2.out.step hb5)) (fun hHeld4 => ?_)
      clear hK K
      try dsimp only [Act.put]
      try simp only [List.setIfInBounds_toArray, List.set_cons_zero, List.set_cons_succ]
      refine wpAnyH_take (i := 20) (v := ?_) (op_of rfl) (by kernel_rfl) (by kernel_rfl) (by kernel_rfl) (fun _ _ _ h => h) (Or.inl ⟨by rfl, fun w hS => ?_⟩) (by assumption) ?_
      rotate_left
      · dsimp only at hS
        go_simp
        try with_reducible rfl
      try dsimp only [Act.put]
      try simp only [List.setIfInBounds_toArray, List.set_cons_zero, List.set_cons_succ]
      refine wpAnyH_take (i := 21) (v := ?_) (op_of rfl) (by kernel_rfl) (by kernel_rfl) (by kernel_rfl) (fun _ _ _ h => h) (Or.inl ⟨by rfl, fun w hS => ?_⟩) (by assumption) ?_
      rotate_left
      · dsimp only at hS
        go_simp
        try with_reducible rfl
      try dsimp only [Act.put]
      try simp only [List.setIfInBounds_toArray, List.set_cons_zero, List.set_cons_succ]
      refine wpAnyH_ready (rs := [22]) (by kernel_rfl) (by simp) (AllReadyH.cons (op_of rfl) (fun K hK => ?_) AllReadyH.nil)
      go_simp
      refine (alive4_any _ (HTAB.out.below hHeld4.2.out.below)).mono ?_
      rintro e x6 ⟨rfl, hb6⟩
      refine hK.out _ _ (mk_s10 (hHeld4.2.out.step hb6)) (fun hHeld5 => ?_)
      clear hK K
      try dsimp only [Act.put]
      try simp only [List.setIfInBounds_toArray, List.set_cons_zero, List.set_cons_succ]
      refine wpAnyH_take (i := 23) (v := ?_) (op_of rfl) (by kernel_rfl) (by kernel_rfl) (by kernel_rfl) (fun _ _ _ h => h) (Or.inl ⟨by rfl, fun w hS => ?_⟩) (by assumption) ?_
      rotate_left
      · dsimp only at hS
        go_simp
        try with_reducible rfl
      try dsimp only [Act.put]
      try simp only [List.setIfInBounds_toArray, List.set_cons_zero, List.set_cons_succ]
      refine wpAnyH_ready (rs := [24]) (by kernel_rfl) (by simp) (AllReadyH.cons (op_of rfl) (fun K hK => ?_) AllReadyH.nil)
      go_simp
      refine hK.out _ _ (by assumption) (fun hHeld6 => ?_)
      clear hK K
      try dsimp only [Act.put]
      try simp only [List.setIfInBounds_toArray, List.set_cons_zero, List.set_cons_succ]
      refine wpAnyH_done (by kernel_rfl) ?_ _
      go_wp2_with fail
      go_ret
      exact ⟨rfl, hHeld6.2.out.below⟩
    · have hd0 : 0 < d := of_decide_eq_true HZD.out
      have HPA : Hid (n / Nat.gcd n d < 65536 ^ 100) := Lib.hid (pow_word (Nat.lt_of_le_of_lt (Nat.div_le_self _ _) hn))
      have HPB : Hid (d / Nat.gcd n d < 65536 ^ 100) := Lib.hid (pow_word (Nat.lt_of_le_of_lt (Nat.div_le_self _ _) hd))
      go_upto_region 10 with (fail)
      refine wp_region_held_drew (S := (fun W => (W.cell? ⟨g11, 0, none⟩ = some (.slice R1 j1 f1) ∧ W.cell? ⟨g11, 1, none⟩ = some (.slice R2 j2 f2)) ∧ Hid (MkM w g9 g11 g13 (g13 + 1) (.slice P1 i1 e1) (.slice P2 i2 e2) (.slice R1 j1 f1) (.slice R2 j2 f2) (.slice S1 m1 k1) (.slice S2 m2 k2) a b n d zb true W))) (by kernel_rfl) (mk_s10 (HM.out.step (Below.refl _ _).drew)) (fun hHeld => ?_)
      refine wpAnyH_take (i := 0) (v := ?_) (op_of rfl) (by kernel_rfl) (by kernel_rfl) (by kernel_rfl) (fun _ _ _ h => h) (Or.inl ⟨by rfl, fun w hS => ?_⟩) (by assumption) ?_
      rotate_left
      · dsimp only at hS
        go_simp
        try with_reducible rfl
      try dsimp only [Act.put]
      try simp only [List.setIfInBounds_toArray, List.set_cons_zero, List.set_cons_succ]
      refine wpAnyH_take (i := 1) (v := ?_) (op_of rfl) (by kernel_rfl) (by kernel_rfl) (by kernel_rfl) (fun _ _ _ h => h) (Or.inl ⟨by rfl, fun w hS => ?_⟩) (by assumption) ?_
      rotate_left
      · dsimp only at hS
        go_simp
        try with_reducible rfl
      try dsimp only [Act.put]
      try simp only [List.setIfInBounds_toArray, List.set_cons_zero, List.set_cons_succ]
      refine wpAnyH_take (i := 2) (v := ?_) (op_of rfl) (by kernel_rfl) (by kernel_rfl) (by kernel_rfl) (fun _ _ _ h => h) (Or.inl ⟨by rfl, fun w hS => ?_⟩) (by assumption) ?_
      rotate_left
      · dsimp only at hS
        go_simp
        try with_reducible rfl
      try dsimp only [Act.put]
      try simp only [List.setIfInBounds_toArray, List.set_cons_zero, List.set_cons_succ]
      refine wpAnyH_take (i := 3) (v := ?_) (op_of rfl) (by kernel_rfl) (by kernel_rfl) (by kernel_rfl) (fun _ _ _ h => h) (Or.inl ⟨by rfl, fun w hS => ?_⟩) (by assumption) ?_
      rotate_left
      · dsimp only at hS
        go_simp
        try with_reducible rfl
      try dsimp only [Act.put]
      try simp only [List.setIfInBounds_toArray, List.set_cons_zero, List.set_cons_succ]
      refine wpAnyH_take (i := 4) (v := ?_) (op_of rfl) (by kernel_rfl) (by kernel_rfl) (by kernel_rfl) (fun _ _ _ h => h) (Or.inl ⟨by rfl, fun w hS => ?_⟩) (by assumption) ?_
      rotate_left
      · dsimp only at hS
        go_simp
        try with_reducible rfl
      try dsimp only [Act.put]
      try simp only [List.setIfInBounds_toArray, List.set_cons_zero, List.set_cons_succ]
      refine wpAnyH_ready (rs := [5]) (by kernel_rfl) (by simp) (AllReadyH.cons (op_of rfl) (fun K hK => ?_) AllReadyH.nil)
      go_simp
      refine (of4_r n d _ hn hd hd0).mono ?_
      rintro e x1 ⟨T1, t1, l1, T2, t2, l2, rfl, ⟨L5, hq1⟩, ⟨L6, hq2⟩, hb1⟩
      have N1 := Lib.hid hq1
      have N2 := Lib.hid hq2
      clear hq1 hq2
      refine hK.out _ _ (mk_s10 (hHeld.2.out.step hb1)) (fun hHeld1 => ?_)
      clear hK K
      try dsimp only [Act.put]
      try simp only [List.setIfInBounds_toArray, List.set_cons_zero, List.set_cons_succ]
      refine wpAnyH_ready (rs := [6]) (by kernel_rfl) (by simp) (AllReadyH.cons (op_of rfl) (fun K hK => ?_) AllReadyH.nil)
      go_simp
      obtain ⟨⟨L1, hn1⟩, ⟨L2, hn2⟩⟩ := hHeld1.2.out.is rfl
      refine (same4_r (j := 100) _ hn1 hn2 N1.out N2.out HPA.out HPB.out (by omega)).mono ?_
      rintro e x2 ⟨rfl, hb2⟩
      clear hn1 hn2
      refine hK.out _ _ (mk_s10 (hHeld1.2.out.step hb2)) (fun hHeld2 => ?_)
      clear hK K
      try dsimp only [Act.put]
      try simp only [List.setIfInBounds_toArray, List.set_cons_zero, List.set_cons_succ]
      refine wpAnyH_take (i := 7) (v := ?_) (op_of rfl) (by kernel_rfl) (by kernel_rfl) (by kernel_rfl) (fun _ _ _ h => h) (Or.inl ⟨by rfl, fun w hS => ?_⟩) (by assumption) ?_
      rotate_left
      · dsimp only at hS
        go_simp
        try with_reducible rfl
      try dsimp only [Act.put]
      try simp only [List.setIfInBounds_toArray, List.set_cons_zero, List.set_cons_succ]
      refine wpAnyH_take (i := 8) (v := ?_) (op_of rfl) (by kernel_rfl) (by kernel_rfl) (by kernel_rfl) (fun _ _ _ h => h) (Or.inl ⟨by rfl, fun w hS => ?_⟩) (by assumption) ?_
      rotate_left
      · dsimp only at hS
        go_simp
        try with_reducible rfl
      try dsimp only [Act.put]
      try simp only [List.setIfInBounds_toArray, List.set_cons_zero, List.set_cons_succ]
      refine take_skip (i := 9) (op_of rfl) (by kernel_rfl) (by kernel_rfl) (by kernel_rfl) (fun _ _ _ h => h) (by rfl) (by assumption) ?_
      try dsimp only [Act.put]
      try simp only [List.setIfInBounds_toArray, List.set_cons_zero, List.set_cons_succ]
      refine take_skip (i := 10) (op_of rfl) (by kernel_rfl) (by kernel_rfl) (by kernel_rfl) (fun _ _ _ h => h) (by rfl) (by assumption) ?_
      try dsimp only [Act.put]
      try simp only [List.setIfInBounds_toArray, List.set_cons_zero, List.set_cons_succ]
      refine take_skip (i := 11) (op_of rfl) (by kernel_rfl) (by kernel_rfl) (by kernel_rfl) (fun _ _ _ h => h) (by rfl) (by assumption) ?_
      try dsimp only [Act.put]
      try simp only [List.setIfInBounds_toArray, List.set_cons_zero, List.set_cons_succ]
      refine take_skip (i := 12) (op_of rfl) (by kernel_rfl) (by kernel_rfl) (by kernel_rfl) (fun _ _ _ h => h) (by rfl) (by assumption) ?_
      try dsimp only [Act.put]
      try simp only [List.setIfInBounds_toArray, List.set_cons_zero, List.set_cons_succ]
      refine take_skip (i := 13) (op_of rfl) (by kernel_rfl) (by kernel_rfl) (by kernel_rfl) (fun _ _ _ h => h) (by rfl) (by assumption) ?_
      try dsimp only [Act.put]
      try simp only [List.setIfInBounds_toArray, List.set_cons_zero, List.set_cons_succ]
      refine take_skip (i := 14) (op_of rfl) (by kernel_rfl) (by kernel_rfl) (by kernel_rfl) (fun _ _ _ h => h) (by rfl) (by assumption) ?_
      try dsimp only [Act.put]
      try simp only [List.setIfInBounds_toArray, List.set_cons_zero, List.set_cons_succ]
      refine wpAnyH_take (i := 15) (v := ?_) (op_of rfl) (by kernel_rfl) (by kernel_rfl) (by kernel_rfl) (fun _ _ _ h => h) (Or.inl ⟨by rfl, fun w hS => ?_⟩) (by assumption) ?_
      rotate_left
      · dsimp only at hS
        go_simp
        try with_reducible rfl
      try dsimp only [Act.put]
      try simp only [List.setIfInBounds_toArray, List.set_cons_zero, List.set_cons_succ]
      refine wpAnyH_take (i := 16) (v := ?_) (op_of rfl) (by kernel_rfl) (by kernel_rfl) (by kernel_rfl) (fun _ _ _ h => h) (Or.inl ⟨by rfl, fun w hS => ?_⟩) (by assumption) ?_
      rotate_left
      · dsimp only at hS
        go_simp
        try with_reducible rfl
      try dsimp only [Act.put]
      try simp only [List.setIfInBounds_toArray, List.set_cons_zero, List.set_cons_succ]
      refine wpAnyH_ready (rs := [17]) (by kernel_rfl) (by simp) (AllReadyH.cons (op_of rfl) (fun K hK => ?_) AllReadyH.nil)
      go_simp
      refine (ratioZero_r _).mono ?_
      rintro e x3 ⟨Z1, y1, o1, Z2, y2, o2, rfl, hz1, hz2, hb3⟩
      have Q1 := Lib.hid hz1
      have Q2 := Lib.hid hz2
      clear hz1 hz2
      refine hK.out _ _ (mk_s10 (hHeld2.2.out.step hb3)) (fun hHeld3 => ?_)
      clear hK K
      try dsimp only [Act.put]
      try simp only [List.setIfInBounds_toArray, List.set_cons_zero, List.set_cons_succ]
      refine wpAnyH_ready (rs := [18]) (by kernel_rfl) (by simp) (AllReadyH.cons (op_of rfl) (fun K hK => ?_) AllReadyH.nil)
      go_simp
      refine (int0_r _).mono ?_
      rintro e x4 ⟨V1, s3, q3, V2, s4, q4, rfl, ⟨L7, hi1⟩, ⟨L8, hi2⟩, hb4⟩
      have I1 := Lib.hid hi1
      have I2 := Lib.hid hi2
      have Q1 := Lib.hid (Q1.out.below hb4)
      have Q2 := Lib.hid (Q2.out.below hb4)
      clear hi1 hi2
      refine hK.out _ _ (mk_s10 (hHeld3.2.out.step hb4)) (fun hHeld4 => ?_)
      clear hK K
      try dsimp only [Act.put]
      try simp only [List.setIfInBounds_toArray, List.set_cons_zero, List.set_cons_succ]
      refine wpAnyH_ready (rs := [19]) (by kernel_rfl) (by simp) (AllReadyH.cons (op_of rfl) (fun K hK => ?_) AllReadyH.nil)
      go_simp
      refine (same4_r (a := 0) (b := 1) (j := 100) _ Q1.out Q2.out I1.out I2.out (pow_word (by omega)) (pow_word (by omega)) (by omega)).mono ?_
      rintro e x5 ⟨rfl, hb5⟩
      refine hK.out _ _ (mk_s10 (hHeld4.2.out.step hb5)) (fun hHeld5 => ?_)
      clear hK K
      try dsimp only [Act.put]
      try simp only [List.setIfInBounds_toArray, List.set_cons_zero, List.set_cons_succ]
      refine wpAnyH_take (i := 20) (v := ?_) (op_of rfl) (by kernel_rfl) (by kernel_rfl) (by kernel_rfl) (fun _ _ _ h => h) (Or.inl ⟨by rfl, fun w hS => ?_⟩) (by assumption) ?_
      rotate_left
      · dsimp only at hS
        go_simp
        try with_reducible rfl
      try dsimp only [Act.put]
      try simp only [List.setIfInBounds_toArray, List.set_cons_zero, List.set_cons_succ]
      refine wpAnyH_take (i := 21) (v := ?_) (op_of rfl) (by kernel_rfl) (by kernel_rfl) (by kernel_rfl) (fun _ _ _ h => h) (Or.inl ⟨by rfl, fun w hS => ?_⟩) (by assumption) ?_
      rotate_left
      · dsimp only at hS
        go_simp
        try with_reducible rfl
      try dsimp only [Act.put]
      try simp only [List.setIfInBounds_toArray, List.set_cons_zero, List.set_cons_succ]
      refine wpAnyH_ready (rs := [22]) (by kernel_rfl) (by simp) (AllReadyH.cons (op_of rfl) (fun K hK => ?_) AllReadyH.nil)
      go_simp
      refine (alive4_any _ (HTAB.out.below hHeld5.2.out.below)).mono ?_
      rintro e x6 ⟨rfl, hb6⟩
      refine hK.out _ _ (mk_s10 (hHeld5.2.out.step hb6)) (fun hHeld6 => ?_)
      clear hK K
      try dsimp only [Act.put]
      try simp only [List.setIfInBounds_toArray, List.set_cons_zero, List.set_cons_succ]
      refine wpAnyH_take (i := 23) (v := ?_) (op_of rfl) (by kernel_rfl) (by kernel_rfl) (by kernel_rfl) (fun _ _ _ h => h) (Or.inl ⟨by rfl, fun w hS => ?_⟩) (by assumption) ?_
      rotate_left
      · dsimp only at hS
        go_simp
        try with_reducible rfl
      try dsimp only [Act.put]
      try simp only [List.setIfInBounds_toArray, List.set_cons_zero, List.set_cons_succ]
      refine wpAnyH_ready (rs := [24]) (by kernel_rfl) (by simp) (AllReadyH.cons (op_of rfl) (fun K hK => ?_) AllReadyH.nil)
      go_simp
      refine hK.out _ _ (by assumption) (fun hHeld7 => ?_)
      clear hK K
      try dsimp only [Act.put]
      try simp only [List.setIfInBounds_toArray, List.set_cons_zero, List.set_cons_succ]
      refine wpAnyH_done (by kernel_rfl) ?_ _
      go_wp2_with fail
      go_ret
      exact ⟨rfl, hHeld7.2.out.below⟩
end Go.Proofs.YtemalomcdiahiaaDoor
