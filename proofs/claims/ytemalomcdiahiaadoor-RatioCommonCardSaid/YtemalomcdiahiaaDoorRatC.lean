/-
  Fractions: sums of any many.
-/
import Derived.Test.YtemalomcdiahiaaDoorRatB
import Derived.Test.YtemalomcdiahiaaDoorLawMuls
namespace Go.Proofs.YtemalomcdiahiaaDoor
open Go.RowKit
set_option maxRecDepth 100000

theorem Nv.setS {w : World} {L g i n c a : Nat} {A : Option Addr} {v u : Value} (h : Nv w L v a) (hg : w.cell? ⟨g, i, none⟩ = some (.slice A n c)) : Nv (w.setCell ⟨g, i, none⟩ u) L v a := by
  obtain ⟨A', xs, n', c', h1, hl, h2, h3, h4, h5⟩ := h
  refine ⟨A', xs, n', c', h1, hl, h2, ?_, h4, h5⟩
  rw [setCell_size]
  intro hx
  obtain ⟨b, o, e1, e2, e3⟩ := h3 hx
  refine ⟨b, o, e1, e2, fun k hk => ?_⟩
  rw [World.cell?_setCell_other w _ _ u (fun e => by have := e3 k hk; rw [← e, hg] at this; cases this)]
  exact e3 k hk

theorem pow_up {x K : Nat} (K' : Nat) (h : x < 4294967296 ^ K) (hk : K ≤ K') : x < 4294967296 ^ K' := Nat.lt_of_lt_of_le h (Nat.pow_le_pow_right (by omega) hk)
/-- The sum of two fractions, as it is made. -/
def addQ (s q : Nat × Nat) : Nat × Nat :=
  ((s.1 * (q.2 / Nat.gcd s.2 q.2) + q.1 * (s.2 / Nat.gcd s.2 q.2)) / Nat.gcd (s.1 * (q.2 / Nat.gcd s.2 q.2) + q.1 * (s.2 / Nat.gcd s.2 q.2)) (Nat.gcd s.2 q.2),
   (s.2 / Nat.gcd s.2 q.2) * (q.2 / Nat.gcd (s.1 * (q.2 / Nat.gcd s.2 q.2) + q.1 * (s.2 / Nat.gcd s.2 q.2)) (Nat.gcd s.2 q.2)))
theorem mul_small {a b K M : Nat} (ha : a < 4294967296 ^ K) (hb : b < 4294967296 ^ M) : a * b < 4294967296 ^ (K + M) := by rw [Nat.pow_add]; exact Nat.mul_lt_mul'' ha hb
theorem addQ_num {a b c d K M : Nat} (ha : a < 4294967296 ^ K) (hb : b < 4294967296 ^ M) (hc : c < 4294967296 ^ M) (hd : d < 4294967296 ^ K) : a * b + c * d < 4294967296 ^ (K + M + 1) := by
  have h1 := mul_small ha hb
  have h2 := mul_small hc hd
  rw [Nat.add_comm M K] at h2
  rw [Nat.pow_succ]
  omega

/-- A slice of fractions reads as the list L. -/
def Rats (w : World) (B : Nat) (A : Option Addr) (L : List (Nat × Nat)) (M : Nat) : Prop :=
  ∀ k q, L[k]? = some q → ∃ b o A1 n1 c1 A2 n2 c2, A = some ⟨b, o, none⟩ ∧ b < B ∧ w.cell? ⟨b, o + k * 2, none⟩ = some (.slice A1 n1 c1) ∧ w.cell? ⟨b, o + k * 2 + 1, none⟩ = some (.slice A2 n2 c2) ∧ Nr w (.slice A1 n1 c1) q.1 M ∧ Nr w (.slice A2 n2 c2) q.2 M
theorem Rats.below {w w' : World} {A : Option Addr} {L : List (Nat × Nat)} {M : Nat} (h : Rats w w.heap.size A L M) (hb : Below w.heap.size w w') : Rats w' w.heap.size A L M := fun k q hk => by
  obtain ⟨b, o, A1, n1, c1, A2, n2, c2, h1, h2, h3, h4, h5, h6⟩ := h k q hk
  exact ⟨b, o, A1, n1, c1, A2, n2, c2, h1, h2, (hb.cell (p := ⟨b, o + k * 2, none⟩) h2).trans h3, (hb.cell (p := ⟨b, o + k * 2 + 1, none⟩) h2).trans h4, h5.below hb, h6.below hb⟩

/-- What the boxes of a sum hold. -/
structure AddM (w : World) (g x y : Nat) (v1 v2 : Value) (W : World) : Prop where
  below : Below w.heap.size w W
  res : Blk W w.heap.size 27 #[.slice none 0 0, .slice none 0 0]
  sum : Blk W g 27 #[v1, v2]
  nx : Nv W w.heap.size v1 x
  ny : Nv W w.heap.size v2 y
  far : w.heap.size < g
theorem AddM.step {w W W' : World} {g x y : Nat} {v1 v2 : Value} (h : AddM w g x y v1 v2 W) (hb : Below W.heap.size W W') : AddM w g x y v1 v2 W' :=
  ⟨h.below.trans (hb.mono h.below.size), h.res.below hb h.res.lt, h.sum.below hb h.sum.lt, h.nx.below hb, h.ny.below hb, h.far⟩

/-- a sum of two that lie in a slice -/
theorem add2_r {v1 v2 : Value} {a b M g : Nat} (W : World) (hc1 : W.cell? ⟨g, 0, none⟩ = some v1) (hc2 : W.cell? ⟨g, 1, none⟩ = some v2) (h1 : Nr W v1 a M) (h2 : Nr W v2 b M) (hM : M ≤ 5000) :
    Calls Tryd.prog 50 #[.slice (some ⟨g, 0, none⟩) 2 2] W (RetNv W (a + b)) := by
  obtain ⟨A1, xs, n1, c1, rfl, hl1, hcc1, hr1, hd1, rfl, hn1⟩ := h1
  obtain ⟨A2, ys, n2, c2, rfl, hl2, hcc2, hr2, hd2, rfl, hn2⟩ := h2
  have hg := World.block_lt_of_cell? W _ hc1
  have hrow : Rows W W.heap.size (some ⟨g, 0, none⟩) [xs, ys] M := by
    intro k v hv
    match k, hv with
    | 0, hv =>
      obtain rfl : xs = v := by simpa using hv
      exact ⟨g, 0, A1, n1, c1, rfl, hg, hc1, hl1, hcc1, hr1, hd1, hn1⟩
    | 1, hv =>
      obtain rfl : ys = v := by simpa using hv
      exact ⟨g, 0, A2, n2, c2, rfl, hg, hc2, hl2, hcc2, hr2, hd2, hn2⟩
    | k + 2, hv => simp at hv
  have := natAdd_any (some ⟨g, 0, none⟩) [xs, ys] 2 2 M W rfl hrow (by omega) (by omega)
  simpa [sumU] using this

set_option maxHeartbeats 8000000 in
theorem ratioAdd_r (A : Option Addr) (L : List (Nat × Nat)) (n c M : Nat) (w : World) (hl : L.length = n) (hr : Rats w w.heap.size A L M) (hn : n ≤ 20) (hM : M ≤ 100) :
    Calls Tryd.prog 20 #[.slice A n c] w (RetQ w (L.foldl addQ (0, 1)).1 (L.foldl addQ (0, 1)).2) := by
  have HL := Lib.hid hl
  have HR := Lib.hid hr
  clear hl hr
  have hb := b1 w (.cells #[.slice none 0 0, .slice none 0 0] 27)
  have hbk := nilbox w
  obtain ⟨W0, hW0⟩ : ∃ W0, w.alloc (.cells #[.slice none 0 0, .slice none 0 0] 27) = W0 := ⟨_, rfl⟩
  rw [hW0] at hb hbk
  have hl0 := hbk.lt
  have HB0 := Lib.hid hbk
  clear hbk
  go_enter Tryd.func20, Tryd.ntmps20
  go_wp2_with fail
  refine (ratioZero_r W0).mono ?_
  rintro e w1 ⟨B1, i1, e1, B2, i2, e2, rfl, hx, hy, hb1⟩
  have hs1 := hb1.size
  have ha1 := b1 w1 (.cells #[.slice B1 i1 e1, .slice B2 i2 e2] 27)
  have hm0 : AddM w w1.heap.size 0 1 (.slice B1 i1 e1) (.slice B2 i2 e2) (w1.alloc (.cells #[.slice B1 i1 e1, .slice B2 i2 e2] 27)) :=
    ⟨(hb.trans (hb1.mono hb.size)).trans (ha1.mono (by omega)), (HB0.out.below hb1 hl0).alloc _, Blk.new _ _ _, (hx.below ha1).more (by omega), (hy.below ha1).more (by omega), by omega⟩
  have HM0 := Lib.hid hm0
  clear hx hy hm0
  go_wp2_with fail
  clear hW0
  go_loopw [13] (fun iv wr => ∃ (k x y : Nat) (A1 : Option Addr) (n1 c1 : Nat) (A2 : Option Addr) (n2 c2 : Nat), iv = .int .i64 (k : Int) ∧ k ≤ n ∧ AddM w w1.heap.size x y (.slice A1 n1 c1) (.slice A2 n2 c2) wr ∧ (L.take k).foldl addQ (0, 1) = (x, y) ∧ x < 4294967296 ^ (k * (M + 1) + 1) ∧ y < 4294967296 ^ (k * (M + 1) + 1)) (fun iv _ => n - (intOf iv).toNat)
  case atStart => exact ⟨0, 0, 1, B1, i1, e1, B2, i2, e2, rfl, by omega, HM0.out, rfl, by simp, by simp⟩
  case round =>
    clear HM0 hb1 ha1
    obtain ⟨k, x, y, A1, n1, c1, A2, n2, c2, rfl, hk, hm, hf, hxs, hys⟩ := hrel
    have HM := Lib.hid hm
    have HF := Lib.hid hf
    have HXS := Lib.hid hxs
    have HYS := Lib.hid hys
    have t0 : wr.cell? ⟨w1.heap.size, 0, none⟩ = some (.slice A1 n1 c1) := hm.sum.cell 0
    have t1 : wr.cell? ⟨w1.heap.size, 1, none⟩ = some (.slice A2 n2 c2) := hm.sum.cell 1
    have hsl := hm.sum.lt
    clear hm hf hxs hys
    by_cases hkn : k < n
    · obtain ⟨q, hq⟩ : ∃ q, L[k]? = some q := ⟨_, List.getElem?_eq_getElem (by have := HL.out; omega)⟩
      obtain ⟨b, o, A3, n3, c3, A4, n4, c4, hA, hbl, d0, d1, hq1, hq2⟩ := (HR.out.below HM.out.below) k q hq
      subst hA
      have HQ := Lib.hid hq
      have HQ1 := Lib.hid hq1
      have HQ2 := Lib.hid hq2
      have hk0 : (0 : Int) ≤ (k : Int) := by omega
      have hk1 : (k : Int) < (n : Int) := by omega
      clear hq hq1 hq2
      have hK : k * (M + 1) ≤ 20 * 101 := Nat.mul_le_mul (by omega) (by omega)
      obtain ⟨K, hKK⟩ : ∃ K, k * (M + 1) + 1 = K := ⟨_, rfl⟩
      rw [hKK] at HXS HYS
      have hKb : K ≤ 2100 := by omega
      obtain ⟨E, hE1, hE2⟩ : ∃ E, 2200 ≤ E ∧ E ≤ 2200 := ⟨2200, Nat.le_refl _, Nat.le_refl _⟩
      have HKK := Lib.hid hKK
      clear hKK hK
      have hba := b1 wr (.cells #[.slice A3 n3 c3, .slice A4 n4 c4] 27)
      have hm2 := HM.out.step hba
      have g0 : (wr.alloc (.cells #[.slice A3 n3 c3, .slice A4 n4 c4] 27)).cell? ⟨wr.heap.size, 0, none⟩ = some (.slice A3 n3 c3) := cn0 _ _ _ _
      have g1 : (wr.alloc (.cells #[.slice A3 n3 c3, .slice A4 n4 c4] 27)).cell? ⟨wr.heap.size, 1, none⟩ = some (.slice A4 n4 c4) := cn1 _ _ _ _
      go_upto_region 5 with (fail)
      obtain ⟨g5, hg5⟩ : ∃ g5, wr.heap.size = g5 := ⟨_, rfl⟩
      obtain ⟨W5, hW5⟩ : ∃ W5, wr.alloc (.cells #[.slice A3 n3 c3, .slice A4 n4 c4] 27) = W5 := ⟨_, rfl⟩
      have HQ1' := Lib.hid (HQ1.out.below hba)
      have HQ2' := Lib.hid (HQ2.out.below hba)
      have hg5l : g5 < W5.heap.size := by rw [← hW5, ← hg5]; simp
      rw [hW5] at hm2 g0 g1 HQ1' HQ2'
      rw [hg5] at g0 g1 hsl
      rw [hg5, hW5]
      have s0 : W5.cell? ⟨w1.heap.size, 0, none⟩ = some (.slice A1 n1 c1) := hm2.sum.cell 0
      have s1 : W5.cell? ⟨w1.heap.size, 1, none⟩ = some (.slice A2 n2 c2) := hm2.sum.cell 1
      have hsl5 := hm2.sum.lt
      have HM2 := Lib.hid hm2
      clear hW5 hg5 hba hm2 HQ1 HQ2 HM t0 t1 d0 d1
      go_wp2_with fail
      refine (shares_r W5 (HM2.out.ny.nr HYS.out |>.more (M' := E) (by omega)) (HQ2'.out.more (by omega)) (by omega)).mono ?_
      rintro e w6 ⟨C1, p1, r1, C2, p2, r2, C3, p3, r3, rfl, hc, hsS, haS, hb6⟩
      obtain ⟨cm, hcm⟩ : ∃ cm, Nat.gcd y q.2 = cm := ⟨_, rfl⟩
      obtain ⟨sS, hss⟩ : ∃ sS, y / cm = sS := ⟨_, rfl⟩
      obtain ⟨aS, has⟩ : ∃ aS, q.2 / cm = aS := ⟨_, rfl⟩
      rw [hcm] at hc hsS haS
      rw [hss] at hsS
      rw [has] at haS
      have lcm0 : cm < 4294967296 ^ E := by rw [← hcm]; exact gcd_small (pow_up E HYS.out (by omega)) (HQ2'.out.more (M' := E) (by omega)).lt
      have lsS : sS < 4294967296 ^ E := by rw [← hss]; exact Nat.lt_of_le_of_lt (Nat.div_le_self _ _) (Nat.lt_of_lt_of_le HYS.out (Nat.pow_le_pow_right (by omega) (by omega)))
      have laS : aS < 4294967296 ^ E := by rw [← has]; exact Nat.lt_of_le_of_lt (Nat.div_le_self _ _) (HQ2'.out.more (M' := E) (by omega)).lt
      have hm6 := HM2.out.step hb6
      have t0 : w6.cell? ⟨w1.heap.size, 0, none⟩ = some (.slice A1 n1 c1) := hm6.sum.cell 0
      have u0 : w6.cell? ⟨g5, 0, none⟩ = some (.slice A3 n3 c3) := (hb6.cell (p := ⟨g5, 0, none⟩) hg5l).trans g0
      have u1 : w6.cell? ⟨g5, 1, none⟩ = some (.slice A4 n4 c4) := (hb6.cell (p := ⟨g5, 1, none⟩) hg5l).trans g1
      have N1 := Lib.hid ((hm6.nx.nr HXS.out).more (M' := E) (by omega))
      have N2 := Lib.hid (haS.nr laS)
      have N3 := Lib.hid (((HQ1'.out.more (M' := E) (by omega))).below hb6)
      have N4 := Lib.hid (hsS.nr lsS)
      have N5 := Lib.hid (hc.nr lcm0)
      have N6 := Lib.hid (((HQ2'.out.more (M' := E) (by omega))).below hb6)
      have lp1 : x * aS < 4294967296 ^ (E + E) := mul_small (K := E) (M := E) N1.out.lt laS
      have lp2 : q.1 * sS < 4294967296 ^ (E + E) := mul_small (K := E) (M := E) N3.out.lt lsS
      have LP1 := Lib.hid lp1
      have LP2 := Lib.hid lp2
      have HM6 := Lib.hid hm6
      have HCM := Lib.hid hcm
      have HSS := Lib.hid hss
      have HAS := Lib.hid has
      have hg56 : g5 < w6.heap.size := Nat.lt_of_lt_of_le hg5l hb6.size
      clear hc hsS haS hcm hss has lcm0 lsS laS lp1 lp2 hm6 hb6 HM2 HQ1' HQ2' g0 g1 s0 s1
      go_upto_region 6 with (fail)
      go_cut [9] (fun v9 wx => ∃ (A9 : Option Addr) (n9 c9 : Nat), v9 = .slice A9 n9 c9 ∧ (∃ L, Nv wx L (.slice A9 n9 c9) (x * aS + q.1 * sS)) ∧ Below w6.heap.size w6 wx)
      case first =>
        go_region_held3 (fun u => u.cell? ⟨w1.heap.size, 0, none⟩ = some (.slice A1 n1 c1) ∧ u.cell? ⟨g5, 0, none⟩ = some (.slice A3 n3 c3) ∧ Below w6.heap.size w6 u)
          (first | exact ⟨t0, u0, (Below.refl _ _).drew⟩ | assumption | exact held2 (b1 _ _) ⟨t0, u0, (Below.refl _ _).drew⟩ | exact held2 (b2 _ _ _) ⟨t0, u0, (Below.refl _ _).drew⟩ | exact held2 (b1 _ _) (by assumption))
          (first
            | (go_at_call 51; (with_reducible refine Calls.mono (mul2_r (v1 := .slice A1 n1 c1) (v2 := .slice C3 p3 r3) (a := x) (b := aS) (M := E) _ ?_ ?_ (nr_far2 N1.out (by assumption)) (nr_far2 N2.out (by assumption)) (by omega)) ?_); (focus (first | exact cn0 _ _ _ _ | exact cn0d _ _ _ _ | (go_simp; done))); (focus (first | exact cn1 _ _ _ _ | exact cn1d _ _ _ _ | (go_simp; done))); rintro e x1 ⟨v1, rfl, hn1, hb1⟩; obtain ⟨D1, i7, e7, rfl⟩ := hn1.shape; have P1 := Lib.hid hn1; clear hn1; have hz1 := hb1.size; (try simp at hz1); have hS1 := held2 hb1 (by assumption); (try have P2 := Lib.hid (P2.out.below hb1)); (try have P2 := Lib.hid ((P2.out.below (b1 _ _)).below hb1)); have hq := bcell hb1; obtain ⟨hc1, hf1⟩ := hq; (try have l1 : w6.heap.size < x1.heap.size := by omega); (try have l2 : w6.heap.size + 1 < x1.heap.size := by omega); (try have l3 : x2.heap.size < x1.heap.size := by omega))
            | (go_at_call 51; (with_reducible refine Calls.mono (mul2_r (v1 := .slice A3 n3 c3) (v2 := .slice C2 p2 r2) (a := q.1) (b := sS) (M := E) _ ?_ ?_ (nr_far2 N3.out (by assumption)) (nr_far2 N4.out (by assumption)) (by omega)) ?_); (focus (first | exact cn0 _ _ _ _ | exact cn0d _ _ _ _ | (go_simp; done))); (focus (first | exact cn1 _ _ _ _ | exact cn1d _ _ _ _ | (go_simp; done))); rintro e x2 ⟨v2, rfl, hn2, hb2⟩; obtain ⟨D2, i8, e8, rfl⟩ := hn2.shape; have P2 := Lib.hid hn2; clear hn2; have hz2 := hb2.size; (try simp at hz2); have hS2 := held2 hb2 (by assumption); (try have P1 := Lib.hid (P1.out.below hb2)); (try have P1 := Lib.hid ((P1.out.below (b1 _ _)).below hb2)); have hq := bcell hb2; obtain ⟨hc2, hf2⟩ := hq; (try have l1 : w6.heap.size < x2.heap.size := by omega); (try have l2 : w6.heap.size + 1 < x2.heap.size := by omega); (try have l3 : x1.heap.size < x2.heap.size := by omega))
            | (go_at_call 50; (with_reducible refine (add2_r (v1 := .slice D1 i7 e7) (v2 := .slice D2 i8 e8) (a := x * aS) (b := q.1 * sS) (M := E + E) _ (by first | exact cn0 _ _ _ _ | exact cn0d _ _ _ _) (by first | exact cn1 _ _ _ _ | exact cn1d _ _ _ _) ((P1.out.below (b1 _ _)).nr LP1.out) ((P2.out.below (b1 _ _)).nr LP2.out) (by omega)).mono ?_); rintro e x3 ⟨v3, rfl, hn3, hb3⟩; obtain ⟨A9, n9, c9, rfl⟩ := hn3.shape; have P3 := Lib.hid hn3; clear hn3; have hS3 := held2 hb3 (by assumption)))
        all_goals
          go_wp2_with fail
          go_meet
          exact ⟨_, _, _, rfl, ⟨_, P3.out⟩, hS3.2.2⟩
      case rest =>
        obtain ⟨A9, n9, c9, rfl, ⟨L9, h9⟩, hb7⟩ := hcut
        have hnum : x * aS + q.1 * sS < 4294967296 ^ (E + E + 1) := by have h1 := LP1.out; have h2 := LP2.out; rw [Nat.pow_succ]; omega
        have hm7 := HM6.out.step hb7
        have u17 : wc.cell? ⟨g5, 1, none⟩ = some (.slice A4 n4 c4) := (hb7.cell (p := ⟨g5, 1, none⟩) hg56).trans u1
        have hov := over_r wc (h9.nr hnum) ((N5.out.below hb7).more (M' := E + E + 1) (by omega)) ((N4.out.below hb7).more (M' := E + E + 1) (by omega)) ((N6.out.below hb7).more (M' := E + E + 1) (by omega)) (by omega)
        have hadd : addQ (x, y) q = ((x * aS + q.1 * sS) / Nat.gcd (x * aS + q.1 * sS) cm, sS * (q.2 / Nat.gcd (x * aS + q.1 * sS) cm)) := by
          unfold addQ
          simp only [HCM.out, HSS.out, HAS.out]
        have hsmall : (x * aS + q.1 * sS) / Nat.gcd (x * aS + q.1 * sS) cm < 4294967296 ^ ((k + 1) * (M + 1) + 1) ∧ sS * (q.2 / Nat.gcd (x * aS + q.1 * sS) cm) < 4294967296 ^ ((k + 1) * (M + 1) + 1) := by
          have e : (k + 1) * (M + 1) + 1 = K + M + 1 := by rw [← HKK.out, Nat.add_mul]; omega
          have hq1M : q.1 < 4294967296 ^ M := by
            have h := (HR.out k q HQ.out)
            obtain ⟨_, _, _, _, _, _, _, _, _, _, _, _, h5, _⟩ := h
            exact h5.lt
          have hq2M : q.2 < 4294967296 ^ M := by
            have h := (HR.out k q HQ.out)
            obtain ⟨_, _, _, _, _, _, _, _, _, _, _, _, _, h6⟩ := h
            exact h6.lt
          have hsK : sS < 4294967296 ^ K := by rw [← HSS.out]; exact Nat.lt_of_le_of_lt (Nat.div_le_self _ _) HYS.out
          have haM : aS < 4294967296 ^ M := by rw [← HAS.out]; exact Nat.lt_of_le_of_lt (Nat.div_le_self _ _) hq2M
          rw [e]
          refine ⟨Nat.lt_of_le_of_lt (Nat.div_le_self _ _) (addQ_num HXS.out haM hq1M hsK), ?_⟩
          have := mul_small hsK (Nat.lt_of_le_of_lt (Nat.div_le_self q.2 (Nat.gcd (x * aS + q.1 * sS) cm)) hq2M)
          exact Nat.lt_of_lt_of_le this (Nat.pow_le_pow_right (by omega) (by omega))
        have HADD := Lib.hid hadd
        have HSM := Lib.hid hsmall
        have HM7 := Lib.hid hm7
        clear h9 hb7 hm7 hnum hadd hsmall t0 u0 u1 N1 N2 N3 N4 N5 N6 HM6
        go_wp2_with fail
        refine hov.mono ?_
        rintro e w8 ⟨D1, i7, e7, D2, i8, e8, rfl, hx8, hy8, hb8⟩
        have hm8 := HM7.out.step hb8
        have s80 : w8.cell? ⟨w1.heap.size, 0, none⟩ = some (.slice A1 n1 c1) := hm8.sum.cell 0
        have s81 : w8.cell? ⟨w1.heap.size, 1, none⟩ = some (.slice A2 n2 c2) := hm8.sum.cell 1
        have f80 := hm8.sum.frozen 0
        have f81 := hm8.sum.frozen 1
        have HX8 := Lib.hid (hx8.more HM7.out.below.size)
        have HY8 := Lib.hid (hy8.more HM7.out.below.size)
        have HM8 := Lib.hid hm8
        have hs8 := hm8.sum.lt
        clear hx8 hy8 hm8 hov u17 hb8
        go_wp2_with fail
        go_roundw
        case rel =>
          have hfar := HM8.out.far
          have s81' : (w8.setCell ⟨w1.heap.size, 0, none⟩ (.slice D1 i7 e7)).cell? ⟨w1.heap.size, 1, none⟩ = some (.slice A2 n2 c2) := (World.cell?_setCell_other _ _ _ _ (by intro e; injection e; omega)).trans s81
          refine ⟨k + 1, _, _, D1, i7, e7, D2, i8, e8, by go_num, by omega, ⟨?_, ?_, put_q HM8.out.sum _ _, ?_, ?_, hfar⟩, ?_, HSM.out.1, HSM.out.2⟩
          · exact (HM8.out.below.setCell (by show w.heap.size ≤ w1.heap.size; omega) _).setCell (by show w.heap.size ≤ w1.heap.size; omega) _
          · exact (HM8.out.res.far (by show w.heap.size ≠ w1.heap.size; omega) _).far (by show w.heap.size ≠ w1.heap.size; omega) _
          · exact (HX8.out.setS s80).setS s81'
          · exact (HY8.out.setS s80).setS s81'
          · rw [take_snoc_some HQ.out, List.foldl_append, HF.out, List.foldl_cons, List.foldl_nil, HADD.out]
        case measure => simp [intOf]; omega
    · obtain rfl : k = n := by omega
      have hfin : L.foldl addQ (0, 1) = (x, y) := by have h := HF.out; rwa [List.take_of_length_le (by have := HL.out; omega)] at h
      have HFIN := Lib.hid hfin
      have k0 : wr.cell? ⟨w.heap.size, 0, none⟩ = some (.slice none 0 0) := HM.out.res.cell 0
      have k1 : wr.cell? ⟨w.heap.size, 1, none⟩ = some (.slice none 0 0) := HM.out.res.cell 1
      have f0 := HM.out.res.frozen 0
      have f1 := HM.out.res.frozen 1
      clear hfin
      go_wp2_with fail
      have hp := put_q HM.out.res (.slice A1 n1 c1) (.slice A2 n2 c2)
      have k1' : (wr.setCell ⟨w.heap.size, 0, none⟩ (.slice A1 n1 c1)).cell? ⟨w.heap.size, 1, none⟩ = some (.slice none 0 0) := (World.cell?_setCell_other _ _ _ _ (by intro e; injection e; omega)).trans k1
      refine bodyPost_ret (v := .agg #[.slice A1 n1 c1, .slice A2 n2 c2]) (by simp [results, Tryd.results20, go_sem, hp.cell 0, hp.cell 1]) rfl
        ⟨_, _, _, _, _, _, rfl, ?_, ?_, (HM.out.below.setCell (Nat.le_refl _) _).setCell (Nat.le_refl _) _⟩
      · rw [HFIN.out]; exact (HM.out.nx.setS k0).setS k1'
      · rw [HFIN.out]; exact (HM.out.ny.setS k0).setS k1'
end Go.Proofs.YtemalomcdiahiaaDoor
