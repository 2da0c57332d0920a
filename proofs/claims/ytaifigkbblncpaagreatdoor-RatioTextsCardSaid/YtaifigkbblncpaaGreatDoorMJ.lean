/-
  Fractions: sums of any many.
  Fractions: the common number of any many.
  Fractions: texts; the chapter's example.
  The document's fractions: Low, Of, Int, Same.
  The document's fractions: In, Right; none.
-/
import Derived.Test.YtaifigkbblncpaaGreatDoorMQ
import Derived.Test.YtaifigkbblncpaaGreatDoorLawMuls
import Derived.Deep.RegionHeld3
import Derived.Deep.QuietTactic
import Derived.BigQuiet
import Derived.RegionTactic
import Derived.Deep.RegionLaw
namespace Go.Proofs.YtaifigkbblncpaaGreatDoor
open Go.RowKit
set_option maxRecDepth 100000

theorem Nv.setS {w : World} {L g i n c a : Nat} {A : Option Addr} {v u : Value} (h : Nv w L v a) (hg : w.cell? ⟨g, i, none⟩ = some (.slice A n c)) : Nv (w.setCell ⟨g, i, none⟩ u) L v a := by
  obtain ⟨A', xs, n', c', h1, hl, h2, h3, h4, h5⟩ := h
  refine ⟨A', xs, n', c', h1, hl, h2, ?_, h4, h5⟩
  rw [setCell_size]
  intro hx
  obtain ⟨b, o, e1, e2, e3⟩ := h3 hx
  refine ⟨b, o, e1, e2, fun k hk => ?_⟩
  rw [World.cell?_setCell_other w _ _ u (fun e => by have := e3 k hk; rw [← e, hg] at this; cases this)]
  exact e3 k hk

theorem pow_up {x K : Nat} (K' : Nat) (h : x < 4294967296 ^ K) (hk : K ≤ K') : x < 4294967296 ^ K' := Nat.lt_of_lt_of_le h (Nat.pow_le_pow_right (by omega) hk)
/-- The sum of two fractions, as it is made. -/
def addQ (s q : Nat × Nat) : Nat × Nat :=
  ((s.1 * (q.2 / Nat.gcd s.2 q.2) + q.1 * (s.2 / Nat.gcd s.2 q.2)) / Nat.gcd (s.1 * (q.2 / Nat.gcd s.2 q.2) + q.1 * (s.2 / Nat.gcd s.2 q.2)) (Nat.gcd s.2 q.2),
   (s.2 / Nat.gcd s.2 q.2) * (q.2 / Nat.gcd (s.1 * (q.2 / Nat.gcd s.2 q.2) + q.1 * (s.2 / Nat.gcd s.2 q.2)) (Nat.gcd s.2 q.2)))
theorem mul_small {a b K M : Nat} (ha : a < 4294967296 ^ K) (hb : b < 4294967296 ^ M) : a * b < 4294967296 ^ (K + M) := by rw [Nat.pow_add]; exact Nat.mul_lt_mul'' ha hb
theorem addQ_num {a b c d K M : Nat} (ha : a < 4294967296 ^ K) (hb : b < 4294967296 ^ M) (hc : c < 4294967296 ^ M) (hd : d < 4294967296 ^ K) : a * b + c * d < 4294967296 ^ (K + M + 1) := by
  have h1 := mul_small ha hb
  have h2 := mul_small hc hd
  rw [Nat.add_comm M K] at h2
  rw [Nat.pow_succ]
  omega

/-- A slice of fractions reads as the list L. -/
def Rats (w : World) (B : Nat) (A : Option Addr) (L : List (Nat × Nat)) (M : Nat) : Prop :=
  ∀ k q, L[k]? = some q → ∃ b o A1 n1 c1 A2 n2 c2, A = some ⟨b, o, none⟩ ∧ b < B ∧ w.cell? ⟨b, o + k * 2, none⟩ = some (.slice A1 n1 c1) ∧ w.cell? ⟨b, o + k * 2 + 1, none⟩ = some (.slice A2 n2 c2) ∧ Nr w (.slice A1 n1 c1) q.1 M ∧ Nr w (.slice A2 n2 c2) q.2 M
theorem Rats.below {w w' : World} {A : Option Addr} {L : List (Nat × Nat)} {M : Nat} (h : Rats w w.heap.size A L M) (hb : Below w.heap.size w w') : Rats w' w.heap.size A L M := fun k q hk => by
  obtain ⟨b, o, A1, n1, c1, A2, n2, c2, h1, h2, h3, h4, h5, h6⟩ := h k q hk
  exact ⟨b, o, A1, n1, c1, A2, n2, c2, h1, h2, (hb.cell (p := ⟨b, o + k * 2, none⟩) h2).trans h3, (hb.cell (p := ⟨b, o + k * 2 + 1, none⟩) h2).trans h4, h5.below hb, h6.below hb⟩

/-- What the boxes of a sum hold. -/
structure AddM (w : World) (g x y : Nat) (v1 v2 : Value) (W : World) : Prop where
  below : Below w.heap.size w W
  res : Blk W w.heap.size 25 #[.slice none 0 0, .slice none 0 0]
  sum : Blk W g 25 #[v1, v2]
  nx : Nv W w.heap.size v1 x
  ny : Nv W w.heap.size v2 y
  far : w.heap.size < g
theorem AddM.step {w W W' : World} {g x y : Nat} {v1 v2 : Value} (h : AddM w g x y v1 v2 W) (hb : Below W.heap.size W W') : AddM w g x y v1 v2 W' :=
  ⟨h.below.trans (hb.mono h.below.size), h.res.below hb h.res.lt, h.sum.below hb h.sum.lt, h.nx.below hb, h.ny.below hb, h.far⟩

/-- a sum of two that lie in a slice -/
theorem add2_r {v1 v2 : Value} {a b M g : Nat} (W : World) (hc1 : W.cell? ⟨g, 0, none⟩ = some v1) (hc2 : W.cell? ⟨g, 1, none⟩ = some v2) (h1 : Nr W v1 a M) (h2 : Nr W v2 b M) (hM : M ≤ 5000) :
    Calls Tryz.prog 39 #[.slice (some ⟨g, 0, none⟩) 2 2] W (RetNv W (a + b)) := by
  obtain ⟨A1, xs, n1, c1, rfl, hl1, hcc1, hr1, hd1, rfl, hn1⟩ := h1
  obtain ⟨A2, ys, n2, c2, rfl, hl2, hcc2, hr2, hd2, rfl, hn2⟩ := h2
  have hg := World.block_lt_of_cell? W _ hc1
  have hrow : Rows W W.heap.size (some ⟨g, 0, none⟩) [xs, ys] M := by
    intro k v hv
    match k, hv with
    | 0, hv =>
      obtain rfl : xs = v := by simpa using hv
      exact ⟨g, 0, A1, n1, c1, rfl, hg, hc1, hl1, hcc1, hr1, hd1, hn1⟩
    | 1, hv =>
      obtain rfl : ys = v := by simpa using hv
      exact ⟨g, 0, A2, n2, c2, rfl, hg, hc2, hl2, hcc2, hr2, hd2, hn2⟩
    | k + 2, hv => simp at hv
  have := natAdd_any (some ⟨g, 0, none⟩) [xs, ys] 2 2 M W rfl hrow (by omega) (by omega)
  simpa [sumU] using this

set_option maxHeartbeats 8000000 in
theorem ratioAdd_r (A : Option Addr) (L : List (Nat × Nat)) (n c M : Nat) (w : World) (hl : L.length = n) (hr : Rats w w.heap.size A L M) (hn : n ≤ 20) (hM : M ≤ 100) :
    Calls Tryz.prog 17 #[.slice A n c] w (RetQ w (L.foldl addQ (0, 1)).1 (L.foldl addQ (0, 1)).2) := by
  have HL := Lib.hid hl
  have HR := Lib.hid hr
  clear hl hr
  have hb := b1 w (.cells #[.slice none 0 0, .slice none 0 0] 25)
  have hbk := nilbox w
  obtain ⟨W0, hW0⟩ : ∃ W0, w.alloc (.cells #[.slice none 0 0, .slice none 0 0] 25) = W0 := ⟨_, rfl⟩
  rw [hW0] at hb hbk
  have hl0 := hbk.lt
  have HB0 := Lib.hid hbk
  clear hbk
  go_enter Tryz.func17, Tryz.ntmps17
  go_wp2_with fail
  refine (ratioZero_r W0).mono ?_
  rintro e w1 ⟨B1, i1, e1, B2, i2, e2, rfl, hx, hy, hb1⟩
  have hs1 := hb1.size
  have ha1 := b1 w1 (.cells #[.slice B1 i1 e1, .slice B2 i2 e2] 25)
  have hm0 : AddM w w1.heap.size 0 1 (.slice B1 i1 e1) (.slice B2 i2 e2) (w1.alloc (.cells #[.slice B1 i1 e1, .slice B2 i2 e2] 25)) :=
    ⟨(hb.trans (hb1.mono hb.size)).trans (ha1.mono (by omega)), (HB0.out.below hb1 hl0).alloc _, Blk.new _ _ _, (hx.below ha1).more (by omega), (hy.below ha1).more (by omega), by omega⟩
  have HM0 := Lib.hid hm0
  clear hx hy hm0
  go_wp2_with fail
  clear hW0
  go_loopw [13] (fun iv wr => ∃ (k x y : Nat) (A1 : Option Addr) (n1 c1 : Nat) (A2 : Option Addr) (n2 c2 : Nat), iv = .int .i64 (k : Int) ∧ k ≤ n ∧ AddM w w1.heap.size x y (.slice A1 n1 c1) (.slice A2 n2 c2) wr ∧ (L.take k).foldl addQ (0, 1) = (x, y) ∧ x < 4294967296 ^ (k * (M + 1) + 1) ∧ y < 4294967296 ^ (k * (M + 1) + 1)) (fun iv _ => n - (intOf iv).toNat)
  case atStart => exact ⟨0, 0, 1, B1, i1, e1, B2, i2, e2, rfl, by omega, HM0.out, rfl, by simp, by simp⟩
  case round =>
    clear HM0 hb1 ha1
    obtain ⟨k, x, y, A1, n1, c1, A2, n2, c2, rfl, hk, hm, hf, hxs, hys⟩ := hrel
    have HM := Lib.hid hm
    have HF := Lib.hid hf
    have HXS := Lib.hid hxs
    have HYS := Lib.hid hys
    have t0 : wr.cell? ⟨w1.heap.size, 0, none⟩ = some (.slice A1 n1 c1) := hm.sum.cell 0
    have t1 : wr.cell? ⟨w1.heap.size, 1, none⟩ = some (.slice A2 n2 c2) := hm.sum.cell 1
    have hsl := hm.sum.lt
    clear hm hf hxs hys
    by_cases hkn : k < n
    · obtain ⟨q, hq⟩ : ∃ q, L[k]? = some q := ⟨_, List.getElem?_eq_getElem (by have := HL.out; omega)⟩
      obtain ⟨b, o, A3, n3, c3, A4, n4, c4, hA, hbl, d0, d1, hq1, hq2⟩ := (HR.out.below HM.out.below) k q hq
      subst hA
      have HQ := Lib.hid hq
      have HQ1 := Lib.hid hq1
      have HQ2 := Lib.hid hq2
      have hk0 : (0 : Int) ≤ (k : Int) := by omega
      have hk1 : (k : Int) < (n : Int) := by omega
      clear hq hq1 hq2
      have hK : k * (M + 1) ≤ 20 * 101 := Nat.mul_le_mul (by omega) (by omega)
      obtain ⟨K, hKK⟩ : ∃ K, k * (M + 1) + 1 = K := ⟨_, rfl⟩
      rw [hKK] at HXS HYS
      have hKb : K ≤ 2100 := by omega
      obtain ⟨E, hE1, hE2⟩ : ∃ E, 2200 ≤ E ∧ E ≤ 2200 := ⟨2200, Nat.le_refl _, Nat.le_refl _⟩
      have HKK := Lib.hid hKK
      clear hKK hK
      have hba := b1 wr (.cells #[.slice A3 n3 c3, .slice A4 n4 c4] 25)
      have hm2 := HM.out.step hba
      have g0 : (wr.alloc (.cells #[.slice A3 n3 c3, .slice A4 n4 c4] 25)).cell? ⟨wr.heap.size, 0, none⟩ = some (.slice A3 n3 c3) := cn0 _ _ _ _
      have g1 : (wr.alloc (.cells #[.slice A3 n3 c3, .slice A4 n4 c4] 25)).cell? ⟨wr.heap.size, 1, none⟩ = some (.slice A4 n4 c4) := cn1 _ _ _ _
      go_upto_region 5 with (fail)
      obtain ⟨g5, hg5⟩ : ∃ g5, wr.heap.size = g5 := ⟨_, rfl⟩
      obtain ⟨W5, hW5⟩ : ∃ W5, wr.alloc (.cells #[.slice A3 n3 c3, .slice A4 n4 c4] 25) = W5 := ⟨_, rfl⟩
      have HQ1' := Lib.hid (HQ1.out.below hba)
      have HQ2' := Lib.hid (HQ2.out.below hba)
      have hg5l : g5 < W5.heap.size := by rw [← hW5, ← hg5]; simp
      rw [hW5] at hm2 g0 g1 HQ1' HQ2'
      rw [hg5] at g0 g1 hsl
      rw [hg5, hW5]
      have s0 : W5.cell? ⟨w1.heap.size, 0, none⟩ = some (.slice A1 n1 c1) := hm2.sum.cell 0
      have s1 : W5.cell? ⟨w1.heap.size, 1, none⟩ = some (.slice A2 n2 c2) := hm2.sum.cell 1
      have hsl5 := hm2.sum.lt
      have HM2 := Lib.hid hm2
      clear hW5 hg5 hba hm2 HQ1 HQ2 HM t0 t1 d0 d1
      go_wp2_with fail
      refine (shares_r W5 (HM2.out.ny.nr HYS.out |>.more (M' := E) (by omega)) (HQ2'.out.more (by omega)) (by omega)).mono ?_
      rintro e w6 ⟨C1, p1, r1, C2, p2, r2, C3, p3, r3, rfl, hc, hsS, haS, hb6⟩
      obtain ⟨cm, hcm⟩ : ∃ cm, Nat.gcd y q.2 = cm := ⟨_, rfl⟩
      obtain ⟨sS, hss⟩ : ∃ sS, y / cm = sS := ⟨_, rfl⟩
      obtain ⟨aS, has⟩ : ∃ aS, q.2 / cm = aS := ⟨_, rfl⟩
      rw [hcm] at hc hsS haS
      rw [hss] at hsS
      rw [has] at haS
      have lcm0 : cm < 4294967296 ^ E := by rw [← hcm]; exact gcd_small (pow_up E HYS.out (by omega)) (HQ2'.out.more (M' := E) (by omega)).lt
      have lsS : sS < 4294967296 ^ E := by rw [← hss]; exact Nat.lt_of_le_of_lt (Nat.div_le_self _ _) (Nat.lt_of_lt_of_le HYS.out (Nat.pow_le_pow_right (by omega) (by omega)))
      have laS : aS < 4294967296 ^ E := by rw [← has]; exact Nat.lt_of_le_of_lt (Nat.div_le_self _ _) (HQ2'.out.more (M' := E) (by omega)).lt
      have hm6 := HM2.out.step hb6
      have t0 : w6.cell? ⟨w1.heap.size, 0, none⟩ = some (.slice A1 n1 c1) := hm6.sum.cell 0
      have u0 : w6.cell? ⟨g5, 0, none⟩ = some (.slice A3 n3 c3) := (hb6.cell (p := ⟨g5, 0, none⟩) hg5l).trans g0
      have u1 : w6.cell? ⟨g5, 1, none⟩ = some (.slice A4 n4 c4) := (hb6.cell (p := ⟨g5, 1, none⟩) hg5l).trans g1
      have N1 := Lib.hid ((hm6.nx.nr HXS.out).more (M' := E) (by omega))
      have N2 := Lib.hid (haS.nr laS)
      have N3 := Lib.hid (((HQ1'.out.more (M' := E) (by omega))).below hb6)
      have N4 := Lib.hid (hsS.nr lsS)
      have N5 := Lib.hid (hc.nr lcm0)
      have N6 := Lib.hid (((HQ2'.out.more (M' := E) (by omega))).below hb6)
      have lp1 : x * aS < 4294967296 ^ (E + E) := mul_small (K := E) (M := E) N1.out.lt laS
      have lp2 : q.1 * sS < 4294967296 ^ (E + E) := mul_small (K := E) (M := E) N3.out.lt lsS
      have LP1 := Lib.hid lp1
      have LP2 := Lib.hid lp2
      have HM6 := Lib.hid hm6
      have HCM := Lib.hid hcm
      have HSS := Lib.hid hss
      have HAS := Lib.hid has
      have hg56 : g5 < w6.heap.size := Nat.lt_of_lt_of_le hg5l hb6.size
      clear hc hsS haS hcm hss has lcm0 lsS laS lp1 lp2 hm6 hb6 HM2 HQ1' HQ2' g0 g1 s0 s1
      go_upto_region 6 with (fail)
      go_cut [9] (fun v9 wx => ∃ (A9 : Option Addr) (n9 c9 : Nat), v9 = .slice A9 n9 c9 ∧ (∃ L, Nv wx L (.slice A9 n9 c9) (x * aS + q.1 * sS)) ∧ Below w6.heap.size w6 wx)
      case first =>
        go_region_held3 (fun u => u.cell? ⟨w1.heap.size, 0, none⟩ = some (.slice A1 n1 c1) ∧ u.cell? ⟨g5, 0, none⟩ = some (.slice A3 n3 c3) ∧ Below w6.heap.size w6 u)
          (first | exact ⟨t0, u0, (Below.refl _ _).drew⟩ | assumption | exact held2 (b1 _ _) ⟨t0, u0, (Below.refl _ _).drew⟩ | exact held2 (b2 _ _ _) ⟨t0, u0, (Below.refl _ _).drew⟩ | exact held2 (b1 _ _) (by assumption))
          (first
            | (go_at_call 35; (with_reducible refine Calls.mono (mul2_r (v1 := .slice A1 n1 c1) (v2 := .slice C3 p3 r3) (a := x) (b := aS) (M := E) _ ?_ ?_ (nr_far2 N1.out (by assumption)) (nr_far2 N2.out (by assumption)) (by omega)) ?_); (focus (first | exact cn0 _ _ _ _ | exact cn0d _ _ _ _ | (go_simp; done))); (focus (first | exact cn1 _ _ _ _ | exact cn1d _ _ _ _ | (go_simp; done))); rintro e x1 ⟨v1, rfl, hn1, hb1⟩; obtain ⟨D1, i7, e7, rfl⟩ := hn1.shape; have P1 := Lib.hid hn1; clear hn1; have hz1 := hb1.size; (try simp at hz1); have hS1 := held2 hb1 (by assumption); (try have P2 := Lib.hid (P2.out.below hb1)); (try have P2 := Lib.hid ((P2.out.below (b1 _ _)).below hb1)); have hq := bcell hb1; obtain ⟨hc1, hf1⟩ := hq; (try have l1 : w6.heap.size < x1.heap.size := by omega); (try have l2 : w6.heap.size + 1 < x1.heap.size := by omega); (try have l3 : x2.heap.size < x1.heap.size := by omega))
            | (go_at_call 35; (with_reducible refine Calls.mono (mul2_r (v1 := .slice A3 n3 c3) (v2 := .slice C2 p2 r2) (a := q.1) (b := sS) (M := E) _ ?_ ?_ (nr_far2 N3.out (by assumption)) (nr_far2 N4.out (by assumption)) (by omega)) ?_); (focus (first | exact cn0 _ _ _ _ | exact cn0d _ _ _ _ | (go_simp; done))); (focus (first | exact cn1 _ _ _ _ | exact cn1d _ _ _ _ | (go_simp; done))); rintro e x2 ⟨v2, rfl, hn2, hb2⟩; obtain ⟨D2, i8, e8, rfl⟩ := hn2.shape; have P2 := Lib.hid hn2; clear hn2; have hz2 := hb2.size; (try simp at hz2); have hS2 := held2 hb2 (by assumption); (try have P1 := Lib.hid (P1.out.below hb2)); (try have P1 := Lib.hid ((P1.out.below (b1 _ _)).below hb2)); have hq := bcell hb2; obtain ⟨hc2, hf2⟩ := hq; (try have l1 : w6.heap.size < x2.heap.size := by omega); (try have l2 : w6.heap.size + 1 < x2.heap.size := by omega); (try have l3 : x1.heap.size < x2.heap.size := by omega))
            | (go_at_call 39; (with_reducible refine (add2_r (v1 := .slice D1 i7 e7) (v2 := .slice D2 i8 e8) (a := x * aS) (b := q.1 * sS) (M := E + E) _ (by first | exact cn0 _ _ _ _ | exact cn0d _ _ _ _) (by first | exact cn1 _ _ _ _ | exact cn1d _ _ _ _) ((P1.out.below (b1 _ _)).nr LP1.out) ((P2.out.below (b1 _ _)).nr LP2.out) (by omega)).mono ?_); rintro e x3 ⟨v3, rfl, hn3, hb3⟩; obtain ⟨A9, n9, c9, rfl⟩ := hn3.shape; have P3 := Lib.hid hn3; clear hn3; have hS3 := held2 hb3 (by assumption)))
        all_goals
          go_wp2_with fail
          go_meet
          exact ⟨_, _, _, rfl, ⟨_, P3.out⟩, hS3.2.2⟩
      case rest =>
        obtain ⟨A9, n9, c9, rfl, ⟨L9, h9⟩, hb7⟩ := hcut
        have hnum : x * aS + q.1 * sS < 4294967296 ^ (E + E + 1) := by have h1 := LP1.out; have h2 := LP2.out; rw [Nat.pow_succ]; omega
        have hm7 := HM6.out.step hb7
        have u17 : wc.cell? ⟨g5, 1, none⟩ = some (.slice A4 n4 c4) := (hb7.cell (p := ⟨g5, 1, none⟩) hg56).trans u1
        have hov := over_r wc (h9.nr hnum) ((N5.out.below hb7).more (M' := E + E + 1) (by omega)) ((N4.out.below hb7).more (M' := E + E + 1) (by omega)) ((N6.out.below hb7).more (M' := E + E + 1) (by omega)) (by omega)
        have hadd : addQ (x, y) q = ((x * aS + q.1 * sS) / Nat.gcd (x * aS + q.1 * sS) cm, sS * (q.2 / Nat.gcd (x * aS + q.1 * sS) cm)) := by
          unfold addQ
          simp only [HCM.out, HSS.out, HAS.out]
        have hsmall : (x * aS + q.1 * sS) / Nat.gcd (x * aS + q.1 * sS) cm < 4294967296 ^ ((k + 1) * (M + 1) + 1) ∧ sS * (q.2 / Nat.gcd (x * aS + q.1 * sS) cm) < 4294967296 ^ ((k + 1) * (M + 1) + 1) := by
          have e : (k + 1) * (M + 1) + 1 = K + M + 1 := by rw [← HKK.out, Nat.add_mul]; omega
          have hq1M : q.1 < 4294967296 ^ M := by
            have h := (HR.out k q HQ.out)
            obtain ⟨_, _, _, _, _, _, _, _, _, _, _, _, h5, _⟩ := h
            exact h5.lt
          have hq2M : q.2 < 4294967296 ^ M := by
            have h := (HR.out k q HQ.out)
            obtain ⟨_, _, _, _, _, _, _, _, _, _, _, _, _, h6⟩ := h
            exact h6.lt
          have hsK : sS < 4294967296 ^ K := by rw [← HSS.out]; exact Nat.lt_of_le_of_lt (Nat.div_le_self _ _) HYS.out
          have haM : aS < 4294967296 ^ M := by rw [← HAS.out]; exact Nat.lt_of_le_of_lt (Nat.div_le_self _ _) hq2M
          rw [e]
          refine ⟨Nat.lt_of_le_of_lt (Nat.div_le_self _ _) (addQ_num HXS.out haM hq1M hsK), ?_⟩
          have := mul_small hsK (Nat.lt_of_le_of_lt (Nat.div_le_self q.2 (Nat.gcd (x * aS + q.1 * sS) cm)) hq2M)
          exact Nat.lt_of_lt_of_le this (Nat.pow_le_pow_right (by omega) (by omega))
        have HADD := Lib.hid hadd
        have HSM := Lib.hid hsmall
        have HM7 := Lib.hid hm7
        clear h9 hb7 hm7 hnum hadd hsmall t0 u0 u1 N1 N2 N3 N4 N5 N6 HM6
        go_wp2_with fail
        refine hov.mono ?_
        rintro e w8 ⟨D1, i7, e7, D2, i8, e8, rfl, hx8, hy8, hb8⟩
        have hm8 := HM7.out.step hb8
        have s80 : w8.cell? ⟨w1.heap.size, 0, none⟩ = some (.slice A1 n1 c1) := hm8.sum.cell 0
        have s81 : w8.cell? ⟨w1.heap.size, 1, none⟩ = some (.slice A2 n2 c2) := hm8.sum.cell 1
        have f80 := hm8.sum.frozen 0
        have f81 := hm8.sum.frozen 1
        have HX8 := Lib.hid (hx8.more HM7.out.below.size)
        have HY8 := Lib.hid (hy8.more HM7.out.below.size)
        have HM8 := Lib.hid hm8
        have hs8 := hm8.sum.lt
        clear hx8 hy8 hm8 hov u17 hb8
        go_wp2_with fail
        go_roundw
        case rel =>
          have hfar := HM8.out.far
          have s81' : (w8.setCell ⟨w1.heap.size, 0, none⟩ (.slice D1 i7 e7)).cell? ⟨w1.heap.size, 1, none⟩ = some (.slice A2 n2 c2) := (World.cell?_setCell_other _ _ _ _ (by intro e; injection e; omega)).trans s81
          refine ⟨k + 1, _, _, D1, i7, e7, D2, i8, e8, by go_num, by omega, ⟨?_, ?_, put_q HM8.out.sum _ _, ?_, ?_, hfar⟩, ?_, HSM.out.1, HSM.out.2⟩
          · exact (HM8.out.below.setCell (by show w.heap.size ≤ w1.heap.size; omega) _).setCell (by show w.heap.size ≤ w1.heap.size; omega) _
          · exact (HM8.out.res.far (by show w.heap.size ≠ w1.heap.size; omega) _).far (by show w.heap.size ≠ w1.heap.size; omega) _
          · exact (HX8.out.setS s80).setS s81'
          · exact (HY8.out.setS s80).setS s81'
          · rw [take_snoc_some HQ.out, List.foldl_append, HF.out, List.foldl_cons, List.foldl_nil, HADD.out]
        case measure => simp [intOf]; omega
    · obtain rfl : k = n := by omega
      have hfin : L.foldl addQ (0, 1) = (x, y) := by have h := HF.out; rwa [List.take_of_length_le (by have := HL.out; omega)] at h
      have HFIN := Lib.hid hfin
      have k0 : wr.cell? ⟨w.heap.size, 0, none⟩ = some (.slice none 0 0) := HM.out.res.cell 0
      have k1 : wr.cell? ⟨w.heap.size, 1, none⟩ = some (.slice none 0 0) := HM.out.res.cell 1
      have f0 := HM.out.res.frozen 0
      have f1 := HM.out.res.frozen 1
      clear hfin
      go_wp2_with fail
      have hp := put_q HM.out.res (.slice A1 n1 c1) (.slice A2 n2 c2)
      have k1' : (wr.setCell ⟨w.heap.size, 0, none⟩ (.slice A1 n1 c1)).cell? ⟨w.heap.size, 1, none⟩ = some (.slice none 0 0) := (World.cell?_setCell_other _ _ _ _ (by intro e; injection e; omega)).trans k1
      refine bodyPost_ret (v := .agg #[.slice A1 n1 c1, .slice A2 n2 c2]) (by simp [results, Tryz.results17, go_sem, hp.cell 0, hp.cell 1]) rfl
        ⟨_, _, _, _, _, _, rfl, ?_, ?_, (HM.out.below.setCell (Nat.le_refl _) _).setCell (Nat.le_refl _) _⟩
      · rw [HFIN.out]; exact (HM.out.nx.setS k0).setS k1'
      · rw [HFIN.out]; exact (HM.out.ny.setS k0).setS k1'
end Go.Proofs.YtaifigkbblncpaaGreatDoor

namespace Go.Proofs.YtaifigkbblncpaaGreatDoor
open Go.RowKit
set_option maxRecDepth 100000

theorem info_nat : (Tryz.prog.info? 23).map (fun i => (i.zero, i.size, i.bytes)) = some (some (.slice none 0 0), 1, 24) := by kernel_rfl

/-- The least number that all divide. -/
def lcmAll (L : List (Nat × Nat)) : Nat := L.foldl (fun m q => Nat.lcm m q.2) 1
theorem lcm_small {a b K M : Nat} (ha : a < 4294967296 ^ K) (hb : b < 4294967296 ^ M) : Nat.lcm a b < 4294967296 ^ (K + M) := Nat.lt_of_le_of_lt (lcm_le a b) (mul_small ha hb)
theorem lcmTo_small {L : List (Nat × Nat)} {M : Nat} (h : ∀ q ∈ L, q.2 < 4294967296 ^ M) : lcmAll L < 4294967296 ^ (L.length * M + 1) := by
  have key : ∀ (L : List (Nat × Nat)) (m K : Nat), (∀ q ∈ L, q.2 < 4294967296 ^ M) → m < 4294967296 ^ K → L.foldl (fun m q => Nat.lcm m q.2) m < 4294967296 ^ (L.length * M + K) := by
    intro L
    induction L with
    | nil => intro m K _ hm; simpa using hm
    | cons q r ih =>
      intro m K hq hm
      have := ih (Nat.lcm m q.2) (K + M) (fun x hx => hq x (by simp [hx])) (lcm_small hm (hq q (by simp)))
      simp only [List.foldl_cons, List.length_cons]
      rwa [show (r.length + 1) * M + K = r.length * M + (K + M) by rw [Nat.add_mul]; omega]
  exact key L 1 1 h (by simp)

/-- The parts that are there. -/
def Parts (W : World) (B g k n : Nat) (f : Nat → Nat) (ps : List Value) : Prop :=
  ps.length = n ∧ (∀ j, j < k → ∃ A n' c', ps[j]? = some (.slice A n' c') ∧ Nv W B (.slice A n' c') (f j)) ∧ (∀ j, k ≤ j → j < n → ps[j]? = some (.slice none 0 0)) ∧ Blk W g 23 ps.toArray
theorem Parts.below {W W' : World} {B g k n : Nat} {f : Nat → Nat} {ps : List Value} (h : Parts W B g k n f ps) (hb : Below W.heap.size W W') : Parts W' B g k n f ps := by
  obtain ⟨h1, h2, h3, h4⟩ := h
  refine ⟨h1, fun j hj => ?_, h3, h4.below hb h4.lt⟩
  obtain ⟨A, n', c', e, hn⟩ := h2 j hj
  exact ⟨A, n', c', e, hn.below hb⟩
theorem Parts.cell {W : World} {B g k n j : Nat} {f : Nat → Nat} {ps : List Value} (h : Parts W B g k n f ps) (hj : j < n) : ∃ A n' c', W.cell? ⟨g, j, none⟩ = some (.slice A n' c') := by
  obtain ⟨h1, h2, h3, h4⟩ := h
  have e : W.cell? ⟨g, j, none⟩ = ps[j]? := by rw [h4.cell j]; simp
  rcases Nat.lt_or_ge j k with h5 | h5
  · obtain ⟨A, n', c', e', _⟩ := h2 j h5
    exact ⟨A, n', c', e.trans e'⟩
  · exact ⟨none, 0, 0, e.trans (h3 j h5 hj)⟩
theorem Parts.put {W : World} {B g k n : Nat} {f : Nat → Nat} {ps : List Value} {A : Option Addr} {n' c' : Nat} (h : Parts W B g k n f ps) (hk : k < n) (hv : Nv W B (.slice A n' c') (f k)) :
    Parts (W.setCell ⟨g, k, none⟩ (.slice A n' c')) B g (k + 1) n f (ps.set k (.slice A n' c')) := by
  obtain ⟨A0, m0, d0, hc⟩ := h.cell hk
  obtain ⟨h1, h2, h3, h4⟩ := h
  refine ⟨by simp [h1], fun j hj => ?_, fun j hj hn => by rw [List.getElem?_set_ne (by omega)]; exact h3 j (by omega) hn, ?_⟩
  · rcases Nat.lt_or_ge j k with h5 | h5
    · obtain ⟨A1, m1, d1, e, hn⟩ := h2 j h5
      exact ⟨A1, m1, d1, by rw [List.getElem?_set_ne (by omega)]; exact e, hn.setS hc⟩
    · obtain rfl : j = k := by omega
      exact ⟨A, n', c', by rw [List.getElem?_set_self (by omega)], hv.setS hc⟩
  · have := h4.set_ k (.slice A n' c')
    simpa using this

/-- The part of one of them. -/
def partOf (L : List (Nat × Nat)) (j : Nat) : Nat := match L[j]? with
  | some q => q.1 * (lcmAll L / q.2)
  | none => 0
theorem partOf_eq {L : List (Nat × Nat)} {j : Nat} {q : Nat × Nat} (h : L[j]? = some q) : partOf L j = q.1 * (lcmAll L / q.2) := by unfold partOf; rw [h]
theorem parts_made {W : World} {B g n : Nat} {f : Nat → Nat} (h : W.ownsRow g 23 1 (.slice (some ⟨g, 0, none⟩) n n) n (madeCells (Value.slice none 0 0).cells (n * 1)).toList) : Parts W B g 0 n f (List.replicate n (.slice none 0 0)) := by
  refine ⟨by simp, fun j hj => by omega, fun j _ hj => by simp [hj], ?_⟩
  rcases h.2 with ⟨h, _⟩ | ⟨g', cap, c, hv, _, hh, _, _, hsz, ht⟩
  · injection h with h; cases h
  · injection hv with hv _ hcap
    injection hv with hv
    injection hv with hv
    subst hv hcap
    unfold Blk
    rw [hh]
    have : c = (List.replicate n (Value.slice none 0 0)).toArray := by
      have e : (madeCells (Value.slice none 0 0).cells (n * 1)).toList = List.replicate n (Value.slice none 0 0) := by
        apply List.ext_getElem
        · simp [madeCells]
        · intro i h1 h2
          simp [madeCells, Value.cells, Nat.mod_one]
      rw [← e, ← ht, List.take_of_length_le (by simp; omega)]
    rw [this]
theorem Parts.kept1 {W : World} {B g k n : Nat} {f : Nat → Nat} {ps : List Value} (h : Parts W B g k n f ps) (o : Obj) : Parts (W.alloc o) B g k n f ps := h.below (b1 W o)
/-- What Common answers. -/
def CommonRet (w : World) (L : List (Nat × Nat)) (n : Nat) (e : Ending) (w' : World) : Prop := ∃ A1 n1 c1 g ps, e = .returned (.tuple #[.slice A1 n1 c1, .slice (some ⟨g, 0, none⟩) n n]) ∧ Nv w' w.heap.size (.slice A1 n1 c1) (lcmAll L) ∧
  Parts w' w.heap.size g n n (partOf L) ps ∧ w.heap.size ≤ g ∧ Below w.heap.size w w'

theorem cells2 {W W' : World} {p q : Addr} {a b : Value} (hb : Below W.heap.size W W') (h : W.cell? p = some a ∧ W.cell? q = some b) : W'.cell? p = some a ∧ W'.cell? q = some b :=
  ⟨(hb.cell (World.block_lt_of_cell? W _ h.1)).trans h.1, (hb.cell (World.block_lt_of_cell? W _ h.2)).trans h.2⟩
theorem cells2_put {W : World} {g g' i j k : Nat} {a b u : Value} (hne : g' ≠ g) (h : W.cell? ⟨g, i, none⟩ = some a ∧ W.cell? ⟨g, k, none⟩ = some b) : (W.setCell ⟨g', j, none⟩ u).cell? ⟨g, i, none⟩ = some a ∧ (W.setCell ⟨g', j, none⟩ u).cell? ⟨g, k, none⟩ = some b :=
  ⟨(World.cell?_setCell_other _ _ _ _ (by intro e; injection e; omega)).trans h.1, (World.cell?_setCell_other _ _ _ _ (by intro e; injection e; omega)).trans h.2⟩
theorem drew_then {W W' : World} (h : Below W.drew.heap.size W.drew W') : Below W.heap.size W W' := (show Below W.heap.size W W.drew from (Below.refl _ _).drew).trans h

set_option maxHeartbeats 8000000 in
theorem common_r (A : Option Addr) (L : List (Nat × Nat)) (n c M : Nat) (w : World) (hl : L.length = n) (hr : Rats w w.heap.size A L M) (hn : n ≤ 20) (hM : M ≤ 100) :
    Calls Tryz.prog 16 #[.slice A n c] w (CommonRet w L n) := by
  have HL := Lib.hid hl
  have HR := Lib.hid hr
  have hqM : ∀ (k : Nat) (q : Nat × Nat), L[k]? = some q → q.1 < 4294967296 ^ M ∧ q.2 < 4294967296 ^ M := fun k q hq => by
    obtain ⟨_, _, _, _, _, _, _, _, _, _, _, _, h5, h6⟩ := hr k q hq
    exact ⟨h5.lt, h6.lt⟩
  obtain ⟨E, hE1, hE2⟩ : ∃ E, 2001 ≤ E ∧ E ≤ 2001 := ⟨2001, Nat.le_refl _, Nat.le_refl _⟩
  obtain ⟨F, hF1, hF2⟩ : ∃ F, 2200 ≤ F ∧ F ≤ 2200 := ⟨2200, Nat.le_refl _, Nat.le_refl _⟩
  have hsm : ∀ k, lcmAll (L.take k) < 4294967296 ^ E := fun k => by
    have h := lcmTo_small (L := L.take k) (M := M) (fun q hq => by
      obtain ⟨i, hi, he⟩ := List.getElem_of_mem (List.mem_of_mem_take hq)
      exact (hqM i q (by rw [List.getElem?_eq_getElem hi, he])).2)
    have h1 : (L.take k).length * M ≤ 20 * 100 := Nat.mul_le_mul (by simp; omega) hM
    exact pow_up E h (by omega)
  have HQM := Lib.hid hqM
  have HSM := Lib.hid hsm
  clear hl hr hqM hsm
  have h1of := natOf_any 1
  go_enter Tryz.func16, Tryz.ntmps16
  go_wp2_with fail
  refine (h1of w (by omega)).mono ?_
  rintro e w1 ⟨v1, rfl, hv1, hb1⟩
  obtain ⟨B1, i1, e1, rfl⟩ := hv1.shape
  have HV1 := Lib.hid hv1
  clear hv1 h1of
  go_wp2_with fail
  go_loopw [4, 13] (fun cv iv wr => ∃ (k : Nat) (A1 : Option Addr) (n1 c1 : Nat), iv = .int .i64 (k : Int) ∧ k ≤ n ∧ cv = .slice A1 n1 c1 ∧ Nv wr w.heap.size (.slice A1 n1 c1) (lcmAll (L.take k)) ∧ Below w.heap.size w wr) (fun _ iv _ => n - (intOf iv).toNat)
  case atStart => exact ⟨0, B1, i1, e1, rfl, by omega, rfl, HV1.out, hb1⟩
  case round =>
    clear HV1 hb1
    obtain ⟨k, A1, n1, c1, rfl, hk, rfl, hnv, hB⟩ := hrel
    have HNV := Lib.hid hnv
    have hBs := hB.size
    clear hnv
    by_cases hkn : k < n
    · obtain ⟨q, hq⟩ : ∃ q, L[k]? = some q := ⟨_, List.getElem?_eq_getElem (by have := HL.out; omega)⟩
      obtain ⟨b, o, A3, n3, c3, A4, n4, c4, hA, hbl, d0, d1, hq1, hq2⟩ := (HR.out.below hB) k q hq
      subst hA
      have HQ := Lib.hid hq
      have hk0 : (0 : Int) ≤ (k : Int) := by omega
      have hk1 : (k : Int) < (n : Int) := by omega
      have hba := b1 wr (.cells #[.slice A3 n3 c3, .slice A4 n4 c4] 25)
      have hlcm := lcm_r _ (((HNV.out.below hba).nr (HSM.out k)).more (M' := F) (by omega)) ((hq2.below hba).more (M' := F) (by omega)) (by omega)
      clear hq hq1 hq2
      go_wp2_with fail
      refine hlcm.mono ?_
      rintro e w2 ⟨v2, rfl, hv2, hb2⟩
      obtain ⟨B2, i2, e2, rfl⟩ := hv2.shape
      have hnext : lcmAll (L.take (k + 1)) = Nat.lcm (lcmAll (L.take k)) q.2 := by rw [take_snoc_some HQ.out, lcmAll, List.foldl_append]; rfl
      have HV2 : Hid (Nv w2 w.heap.size (.slice B2 i2 e2) (lcmAll (L.take (k + 1)))) := Lib.hid (by rw [hnext]; exact hv2.more (Nat.le_trans hBs hba.size))
      have hB2 := (hB.trans (hba.mono hBs)).trans (hb2.mono (Nat.le_trans hBs hba.size))
      clear hv2 hnext hlcm hb2 hba
      go_wp2_with fail
      go_roundw
      case rel => exact ⟨k + 1, B2, i2, e2, by go_num, by omega, rfl, HV2.out, hB2⟩
      case measure => simp [intOf]; omega
    · obtain rfl : k = n := by omega
      have hfin : lcmAll (L.take k) = lcmAll L := by rw [List.take_of_length_le (by have := HL.out; omega)]
      have hsmL : lcmAll L < 4294967296 ^ E := by rw [← hfin]; exact HSM.out k
      have HC : Hid (Nv wr w.heap.size (.slice A1 n1 c1) (lcmAll L)) := Lib.hid (by rw [← hfin]; exact HNV.out)
      have HSL := Lib.hid hsmL
      obtain ⟨i0, hi0, hz0, hz1, hz2⟩ := info_parts info_nat
      obtain ⟨C, hC⟩ : ∃ C, lcmAll L = C := ⟨_, rfl⟩
      rw [hC] at HC HSL
      have HCC := Lib.hid hC
      clear hfin hsmL HNV hC HSM
      go_wp2_with ((with_reducible refine wpList_make_full _ rfl (.tmp 23) (.tmp 23) 47 rfl wr.heap.size 23 i0 (.slice none 0 0) 1 Tryz.underlying47 hi0 hz0 hz1 .i64 .i64 _ _ k rfl rfl rfl rfl (by rw [hz2]; omega) (by unfold maxLen; omega) (by simp) ?_); intro w3 hown3 hg3)
      have hgp : wr.heap.size < w3.heap.size := by
        rcases hown3.2 with ⟨h, _⟩ | ⟨g', cap, c', hv, _, hh, _⟩
        · injection h with h; cases h
        · injection hv with hv
          injection hv with hv
          injection hv with hv
          subst hv
          exact (Array.getElem?_eq_some_iff.1 hh).1
      have hpt0 : Parts w3 w.heap.size wr.heap.size 0 k (partOf L) _ := parts_made hown3
      have hb3 : Below wr.heap.size wr w3 := (Below.refl _ _).grown hg3 (Nat.le_refl _) (by intro r e; cases e)
      have hB3 := hB.trans (hb3.mono hBs)
      have HC3 := Lib.hid (HC.out.below hb3)
      have HPT0 := Lib.hid hpt0
      obtain ⟨gp, hgpe⟩ : ∃ gp, wr.heap.size = gp := ⟨_, rfl⟩
      rw [hgpe] at hgp HPT0 hBs ⊢
      clear hpt0 hb3 hown3 hg3 hz0 hz1 hz2 hi0 HC hgpe hB
      go_loopw [27] (fun iv wx => ∃ (j : Nat) (ps : List Value), iv = .int .i64 (j : Int) ∧ j ≤ k ∧ Parts wx w.heap.size gp j k (partOf L) ps ∧ Nv wx w.heap.size (.slice A1 n1 c1) C ∧ Below w.heap.size w wx ∧ gp < wx.heap.size) (fun iv _ => k - (intOf iv).toNat)
      case atStart => exact ⟨0, _, rfl, by omega, HPT0.out, HC3.out, hB3, hgp⟩
      case round =>
        clear HPT0 HC3 hB3 hgp
        obtain ⟨j, ps, rfl, hj, hpt, hc, hBx, hgx⟩ := hrel
        have HPT := Lib.hid hpt
        have HCX := Lib.hid hc
        clear hpt hc
        by_cases hjk : j < k
        · obtain ⟨q, hq⟩ : ∃ q, L[j]? = some q := ⟨_, List.getElem?_eq_getElem (by have := HL.out; omega)⟩
          obtain ⟨b, o, A3, n3, c3, A4, n4, c4, hA, hbl, d0, d1, hq1, hq2⟩ := (HR.out.below hBx) j q hq
          subst hA
          have HQ := Lib.hid hq
          have hk0 : (0 : Int) ≤ (j : Int) := by omega
          have hk1 : (j : Int) < (k : Int) := by omega
          have hba := b1 wr (.cells #[.slice A3 n3 c3, .slice A4 n4 c4] 25)
          have g0 : (wr.alloc (.cells #[.slice A3 n3 c3, .slice A4 n4 c4] 25)).cell? ⟨wr.heap.size, 0, none⟩ = some (.slice A3 n3 c3) := cn0 _ _ _ _
          have g1 : (wr.alloc (.cells #[.slice A3 n3 c3, .slice A4 n4 c4] 25)).cell? ⟨wr.heap.size, 1, none⟩ = some (.slice A4 n4 c4) := cn1 _ _ _ _
          have hs9 : (wr.alloc (.cells #[.slice A3 n3 c3, .slice A4 n4 c4] 25)).heap.size = wr.heap.size + 1 := by simp
          have hB9 := hBx.trans (hba.mono hBx.size)
          have H1 := Lib.hid ((hq1.below hba).more (M' := F) (by omega))
          have H2 := Lib.hid ((hq2.below hba).more (M' := F) (by omega))
          have H3 := Lib.hid (((HCX.out.below hba).nr HSL.out).more (M' := F) (by omega))
          have H3' := Lib.hid (HCX.out.below hba)
          have HPT9 := Lib.hid (HPT.out.below hba)
          clear hq hq1 hq2
          go_upto_region 11 with (fail)
          obtain ⟨g9, hg9⟩ : ∃ g9, wr.heap.size = g9 := ⟨_, rfl⟩
          obtain ⟨W9, hW9⟩ : ∃ W9, wr.alloc (.cells #[.slice A3 n3 c3, .slice A4 n4 c4] 25) = W9 := ⟨_, rfl⟩
          rw [hW9] at g0 g1 hs9 hB9 H1 H2 H3 H3' HPT9
          rw [hg9] at g0 g1 hs9 hgx
          rw [hg9, hW9]
          have hsg : g9 < W9.heap.size := by omega
          have hsg' : gp < W9.heap.size := by omega
          have hq39 : q.2 / q.2 = q.2 / q.2 := rfl
          clear hW9 hg9 hba d0 d1 hs9 HPT HCX hq39
          have hqb : C / q.2 < 4294967296 ^ F := Nat.lt_of_le_of_lt (Nat.div_le_self _ _) H3.out.lt
          have HQB := Lib.hid hqb
          clear hqb
          go_region_held3 (fun u => u.cell? ⟨g9, 0, none⟩ = some (.slice A3 n3 c3) ∧ u.cell? ⟨g9, 1, none⟩ = some (.slice A4 n4 c4))
            (first | exact ⟨g0, g1⟩ | assumption | exact cells2 (b1 _ _) (by assumption) | exact cells2_put (by omega) (by assumption))
            (first
              | (go_at_call 36; (with_reducible refine (quot_r _ (H3.out.below (Below.refl _ _).drew) (H2.out.below (Below.refl _ _).drew) (by omega) (by omega)).mono ?_); rintro e x1 ⟨v1, rfl, hn1, hb1⟩; obtain ⟨D1, i7, e7, rfl⟩ := hn1.shape; have P1 := Lib.hid (hn1.nr HQB.out); clear hn1; have hS1 := cells2 hb1 ⟨g0, g1⟩; have BX1 := drew_then hb1)
              | (go_at_call 35; (with_reducible refine (mul2_r (v1 := .slice A3 n3 c3) (v2 := .slice D1 i7 e7) (a := q.1) (b := C / q.2) (M := F) _ (cn0 _ _ _ _) (cn1 _ _ _ _) ((H1.out.below BX1).below (b1 _ _)) (P1.out.below (b1 _ _)) (by omega)).mono ?_); rintro e x2 ⟨v2, rfl, hn2, hb2⟩; obtain ⟨D2, i8, e8, rfl⟩ := hn2.shape; have P2 := Lib.hid (hn2.more (Nat.le_trans hB9.size (Nat.le_trans BX1.size (b1 x1 _).size))); clear hn2; have BX2 := BX1.trans (((b1 x1 _).trans (hb2.mono (b1 x1 _).size)).mono BX1.size); have hS2 := cells2 BX2 ⟨g0, g1⟩; have HPX := Lib.hid (HPT9.out.below BX2); have hpc := HPX.out.cell hjk; obtain ⟨Z1, z2, z3, hpc⟩ := hpc; have hpf := HPX.out.2.2.2.frozen j))
          all_goals
            go_wp2_with fail
            have hval : partOf L j = q.1 * (C / q.2) := by rw [partOf_eq HQ.out, HCC.out]
            have hBw := hB9.trans (BX2.mono hB9.size)
            refine ⟨⟨j + 1, _, by go_num, by omega, HPX.out.put hjk (by rw [hval]; exact P2.out), (H3'.out.below BX2).setS hpc, hBw.setCell hBs _, ?_⟩, by simp [intOf]; omega⟩
            rw [setCell_size]
            exact Nat.lt_of_lt_of_le hsg' BX2.size
        · obtain rfl : j = k := by omega
          go_wp2_with fail
          go_ret2
          exact ⟨_, _, _, gp, ps, rfl, by rw [HCC.out]; exact HCX.out, HPT.out, hBs, hBx⟩
end Go.Proofs.YtaifigkbblncpaaGreatDoor

namespace Go.Proofs.YtaifigkbblncpaaGreatDoor
open Go.RowKit
set_option maxRecDepth 100000

theorem text_r {v : Value} {a M : Nat} (w : World) (h : Nr w v a M) (hM : M ≤ 1000) (htab : Tab w) : Calls Tryz.prog 28 #[v] w fun e w' => e = .returned (.string ⟨(Lib.decDigits a).toArray⟩) ∧ Below w.heap.size w w' := by
  obtain ⟨A, xs, n, c, rfl, hl, hc, hr, hd, rfl, hn⟩ := h
  exact text_any A xs n c w hl hr hd (by omega) hc htab

theorem dec_len {a M : Nat} (h : a < 4294967296 ^ M) (hM : M ≤ 100) : (Lib.decDigits a).length ≤ 1001 := by
  have h1 : (4294967296 : Nat) ^ M ≤ (10 ^ 10) ^ M := Nat.pow_le_pow_left (by decide) M
  rw [← Nat.pow_mul] at h1
  have h2 : (10 : Nat) ^ (10 * M) ≤ 10 ^ (10 * M + 1) := Nat.pow_le_pow_right (by omega) (by omega)
  have := decDigits_len (u := a) (k := 10 * M) (Nat.lt_of_lt_of_le h (Nat.le_trans h1 h2))
  omega

set_option maxHeartbeats 4000000 in
theorem ratioText_two {A1 A2 : Option Addr} {n1 c1 n2 c2 a b M : Nat} (w : World) (h1 : Nr w (.slice A1 n1 c1) a M) (h2 : Nr w (.slice A2 n2 c2) b M) (hM : M ≤ 100) (hb1 : b ≠ 1) (htab : Tab w) :
    Calls Tryz.prog 11 #[.agg #[.slice A1 n1 c1, .slice A2 n2 c2]] w fun e w' => e = .returned (.string (⟨(Lib.decDigits a).toArray⟩ ++ ⟨#[47]⟩ ++ ⟨(Lib.decDigits b).toArray⟩)) ∧ Below w.heap.size w w' := by
  have hb := b1 w (.cells #[.slice A1 n1 c1, .slice A2 n2 c2] 25)
  have k0 := cn0 w 25 (.slice A1 n1 c1) (.slice A2 n2 c2)
  have k1 := cn1 w 25 (.slice A1 n1 c1) (.slice A2 n2 c2)
  obtain ⟨W0, hW0⟩ : ∃ W0, w.alloc (.cells #[.slice A1 n1 c1, .slice A2 n2 c2] 25) = W0 := ⟨_, rfl⟩
  rw [hW0] at hb k0 k1
  have H1 := Lib.hid (h1.below hb)
  have H2 := Lib.hid (h2.below hb)
  have HT := Lib.hid (htab.below hb)
  have ho := isOne_r false W0 H2.out (by omega) (by simp [hb1])
  have hla : (Lib.decDigits a).length ≤ 1001 := dec_len h1.lt hM
  have hlb : (Lib.decDigits b).length ≤ 1001 := dec_len h2.lt hM
  obtain ⟨s, hs⟩ : ∃ s : ByteArray, (⟨(Lib.decDigits a).toArray⟩ : ByteArray) = s := ⟨_, rfl⟩
  obtain ⟨t, ht⟩ : ∃ t : ByteArray, (⟨(Lib.decDigits b).toArray⟩ : ByteArray) = t := ⟨_, rfl⟩
  have hss : s.size ≤ 1001 := by rw [← hs]; simpa [ByteArray.size] using hla
  have hts : t.size ≤ 1001 := by rw [← ht]; simpa [ByteArray.size] using hlb
  have t1 := fun wz (h : Below W0.heap.size W0 wz) => text_r wz (H1.out.below h) (by omega) (HT.out.below h)
  have t2 := fun wz (h : Below W0.heap.size W0 wz) => text_r wz (H2.out.below h) (by omega) (HT.out.below h)
  simp only [hs] at t1
  simp only [ht] at t2
  rw [hs, ht]
  have hadd1 := fun W => run_string_add_sum (P := Tryz.prog) W s (⟨#[47]⟩ : ByteArray) (by rw [show (⟨#[47]⟩ : ByteArray).size = 1 from rfl]; omega)
  have hadd2 := fun W => run_string_add_sum (P := Tryz.prog) W (s ++ (⟨#[47]⟩ : ByteArray)) t (by rw [ByteArray.size_append, show (⟨#[47]⟩ : ByteArray).size = 1 from rfl]; omega)
  have hsz1 : s.size ≤ 9223372036854775806 := by omega
  have hsz2 : s.size + 1 + t.size ≤ 9223372036854775807 := by omega
  have hsz3 : ¬ 9223372036854775807 < s.size + 1 + t.size := by omega
  have hsz4 : ¬ 9223372036854775807 < s.size + 1 := by omega
  have hsz5 : ¬ 9223372036854775807 ≤ s.size := by omega
  clear h1 h2 hb1 hla hlb hs ht
  go_enter Tryz.func11, Tryz.ntmps11
  go_wp2_with fail
  refine ho.mono ?_
  rintro e w' ⟨rfl, rfl⟩
  go_wp2_with fail
  first
    | (go_region_held3 (fun u => u.cell? ⟨w.heap.size, 0, none⟩ = some (.slice A1 n1 c1) ∧ u.cell? ⟨w.heap.size, 1, none⟩ = some (.slice A2 n2 c2) ∧ Below W0.heap.size W0 u)
        (first | exact ⟨k0, k1, (Below.refl _ _).drew⟩ | assumption)
        (first
          | (go_at_call 28; (with_reducible refine (t1 _ (thd_of (p := ⟨w.heap.size, 0, none⟩) (a := .slice A1 n1 c1) (q := ⟨w.heap.size, 1, none⟩) (b := .slice A2 n2 c2) (by assumption))).mono ?_); rintro e x1 ⟨rfl, hb1⟩; have hS1 := held2 hb1 (by assumption))
          | (go_at_call 28; (with_reducible refine (t2 _ (thd_of (p := ⟨w.heap.size, 0, none⟩) (a := .slice A1 n1 c1) (q := ⟨w.heap.size, 1, none⟩) (b := .slice A2 n2 c2) (by assumption))).mono ?_); rintro e x2 ⟨rfl, hb2⟩; have hS2 := held2 hb2 (by assumption))))
    | fail
  all_goals
    go_wp2_with fail
    go_ret
    first
      | exact ⟨rfl, hb.trans (hS2.2.2.mono hb.size)⟩
      | exact ⟨rfl, hb.trans (hS1.2.2.mono hb.size)⟩

theorem of12 (w : World) : Calls Tryz.prog 15 #[.int .u64 1, .int .u64 2] w (RetQt w 1 2) := ratioOf_r 1 2 w (by omega) (by omega) (by omega)
theorem of26 (w : World) : Calls Tryz.prog 15 #[.int .u64 2, .int .u64 6] w (RetQt w 1 3) := ratioOf_r 2 6 w (by omega) (by omega) (by omega)
theorem of10 (w : World) : Calls Tryz.prog 15 #[.int .u64 1, .int .u64 0] w (RetQf w) := ratioOf_no 1 w (by omega)
theorem text56 : (⟨(Lib.decDigits 5).toArray⟩ ++ ⟨#[47]⟩ ++ ⟨(Lib.decDigits 6).toArray⟩ : ByteArray) = ⟨#[53, 47, 54]⟩ := by
  rw [Lib.decDigits_one (by omega), Lib.decDigits_one (by omega)]; rfl
theorem lcm_ex : lcmAll [(1, 2), (1, 3)] = 6 := by decide
theorem add_ex : ([(1, 2), (1, 3)] : List (Nat × Nat)).foldl addQ (0, 1) = (5, 6) := by decide
theorem part_ex0 : partOf [(1, 2), (1, 3)] 0 = 3 := by decide
theorem part_ex1 : partOf [(1, 2), (1, 3)] 1 = 2 := by decide

/-- Two fractions in a slice of their own. -/
theorem rats2 {u : World} {A1 A2 A3 A4 : Option Addr} {n1 c1 n2 c2 n3 c3 n4 c4 a b c d M : Nat} (h1 : Nr u (.slice A1 n1 c1) a M) (h2 : Nr u (.slice A2 n2 c2) b M) (h3 : Nr u (.slice A3 n3 c3) c M) (h4 : Nr u (.slice A4 n4 c4) d M) :
    Rats (u.alloc (.cells #[.slice A1 n1 c1, .slice A2 n2 c2, .slice A3 n3 c3, .slice A4 n4 c4] 25)) (u.alloc (.cells #[.slice A1 n1 c1, .slice A2 n2 c2, .slice A3 n3 c3, .slice A4 n4 c4] 25)).heap.size (some ⟨u.heap.size, 0, none⟩) [(a, b), (c, d)] M := by
  have hb := b1 u (.cells #[.slice A1 n1 c1, .slice A2 n2 c2, .slice A3 n3 c3, .slice A4 n4 c4] 25)
  have hk := Blk.new u 25 #[.slice A1 n1 c1, .slice A2 n2 c2, .slice A3 n3 c3, .slice A4 n4 c4]
  intro k q hq
  match k, hq with
  | 0, hq =>
    obtain rfl : (a, b) = q := by simpa using hq
    exact ⟨_, 0, A1, n1, c1, A2, n2, c2, rfl, hk.lt, hk.cell 0, hk.cell 1, h1.below hb, h2.below hb⟩
  | 1, hq =>
    obtain rfl : (c, d) = q := by simpa using hq
    exact ⟨_, 0, A3, n3, c3, A4, n4, c4, rfl, hk.lt, hk.cell 2, hk.cell 3, h3.below hb, h4.below hb⟩
  | k + 2, hq => simp at hq

set_option maxHeartbeats 2000000 in
theorem alive4_any (w : World) (htab : Tab w) : Calls Tryz.prog 5 #[] w fun e w' => e = .returned (.bool true) ∧ Below w.heap.size w w' := by
  go_enter Tryz.func5, Tryz.ntmps5
  go_wp2_with fail
  refine (of12 w).mono ?_
  rintro e w1 ⟨A1, n1, c1, A2, n2, c2, rfl, hx1, hy1, hb1⟩
  have ha1 := b1 w1 (.cells #[.slice A1 n1 c1, .slice A2 n2 c2] 25)
  have X1 := Lib.hid ((hx1.nr (M := 1) (by omega)).below ha1)
  have Y1 := Lib.hid ((hy1.nr (M := 1) (by omega)).below ha1)
  have k0 := cn0 w1 25 (.slice A1 n1 c1) (.slice A2 n2 c2)
  have k1 := cn1 w1 25 (.slice A1 n1 c1) (.slice A2 n2 c2)
  have hB1 := hb1.trans (ha1.mono hb1.size)
  clear hx1 hy1 hb1 ha1
  go_upto_region 2 with (fail)
  obtain ⟨g1, hg1⟩ : ∃ g1, w1.heap.size = g1 := ⟨_, rfl⟩
  obtain ⟨u1, hu1⟩ : ∃ u1, w1.alloc (.cells #[.slice A1 n1 c1, .slice A2 n2 c2] 25) = u1 := ⟨_, rfl⟩
  rw [hg1, hu1] at k0 k1
  rw [hu1] at X1 Y1 hB1
  rw [hg1, hu1]
  clear hg1 hu1
  go_wp2_with fail
  refine (of26 u1).mono ?_
  rintro e w2 ⟨A3, n3, c3, A4, n4, c4, rfl, hx2, hy2, hb2⟩
  have ha2 := b1 w2 (.cells #[.slice A3 n3 c3, .slice A4 n4 c4] 25)
  have hb3 := hb2.trans (ha2.mono hb2.size)
  have X2 := Lib.hid ((hx2.nr (M := 1) (by omega)).below ha2)
  have Y2 := Lib.hid ((hy2.nr (M := 1) (by omega)).below ha2)
  have X1 := Lib.hid (X1.out.below hb3)
  have Y1 := Lib.hid (Y1.out.below hb3)
  have kk := cells2 hb3 ⟨k0, k1⟩
  have l0 := cn0 w2 25 (.slice A3 n3 c3) (.slice A4 n4 c4)
  have l1 := cn1 w2 25 (.slice A3 n3 c3) (.slice A4 n4 c4)
  have hB2 := hB1.trans (hb3.mono hB1.size)
  clear hx2 hy2 hb2 hb3 ha2 k0 k1
  go_upto_region 3 with (fail)
  obtain ⟨g2, hg2⟩ : ∃ g2, w2.heap.size = g2 := ⟨_, rfl⟩
  obtain ⟨u2, hu2⟩ : ∃ u2, w2.alloc (.cells #[.slice A3 n3 c3, .slice A4 n4 c4] 25) = u2 := ⟨_, rfl⟩
  rw [hg2, hu2] at l0 l1
  rw [hu2] at X1 Y1 X2 Y2 hB2 kk
  rw [hg2, hu2]
  clear hg2 hu2
  go_wp2_with fail
  refine (of10 u2).mono ?_
  rintro e w3 ⟨rfl, hb3⟩
  have ha3 := b1 w3 (.cells #[.slice none 0 0, .slice none 0 0] 25)
  have hb4 := hb3.trans (ha3.mono hb3.size)
  have X1 := Lib.hid (X1.out.below hb4)
  have Y1 := Lib.hid (Y1.out.below hb4)
  have X2 := Lib.hid (X2.out.below hb4)
  have Y2 := Lib.hid (Y2.out.below hb4)
  have kk := cells2 hb4 kk
  have ll := cells2 hb4 ⟨l0, l1⟩
  have hB3 := hB2.trans (hb4.mono hB2.size)
  clear hb3 hb4 ha3 l0 l1
  go_upto_region 4 with (fail)
  obtain ⟨u3, hu3⟩ : ∃ u3, w3.alloc (.cells #[.slice none 0 0, .slice none 0 0] 25) = u3 := ⟨_, rfl⟩
  rw [hu3] at X1 Y1 X2 Y2 hB3 kk ll
  rw [hu3]
  clear hu3
  obtain ⟨k0, k1⟩ := kk
  obtain ⟨l0, l1⟩ := ll
  have hcm := common_r (some ⟨u3.heap.size, 0, none⟩) [(1, 2), (1, 3)] 2 2 1 _ rfl (rats2 X1.out Y1.out X2.out Y2.out) (by omega) (by omega)
  go_wp2_with fail
  refine hcm.mono ?_
  rintro e w4 ⟨D1, i1, e1, gp, ps, rfl, hcn, hps, hgp, hb4⟩
  rw [lcm_ex] at hcn
  obtain ⟨hpl, hpj, _, hpb⟩ := hps
  obtain ⟨E0, j0, d0, e0, q0⟩ := hpj 0 (by omega)
  obtain ⟨E1, j1, d1, e1', q1⟩ := hpj 1 (by omega)
  rw [part_ex0] at q0
  rw [part_ex1] at q1
  have p0 : w4.cell? ⟨gp, 0, none⟩ = some (.slice E0 j0 d0) := by rw [hpb.cell 0]; simpa using e0
  have p1 : w4.cell? ⟨gp, 1, none⟩ = some (.slice E1 j1 d1) := by rw [hpb.cell 1]; simpa using e1'
  have ha4 := b1 u3 (.cells #[.slice A1 n1 c1, .slice A2 n2 c2, .slice A3 n3 c3, .slice A4 n4 c4] 25)
  have hb5 := ha4.trans (hb4.mono ha4.size)
  have X1 := Lib.hid (X1.out.below hb5)
  have Y1 := Lib.hid (Y1.out.below hb5)
  have X2 := Lib.hid (X2.out.below hb5)
  have Y2 := Lib.hid (Y2.out.below hb5)
  have kk := cells2 hb5 ⟨k0, k1⟩
  have ll := cells2 hb5 ⟨l0, l1⟩
  have hB4 := hB3.trans (hb5.mono hB3.size)
  have CN := Lib.hid hcn
  have Q0 := Lib.hid q0
  have Q1 := Lib.hid q1
  clear hcm hcn hpj hpb q0 q1 e0 e1' hpl k0 k1 l0 l1 hb4 hb5 ha4
  obtain ⟨k0, k1⟩ := kk
  obtain ⟨l0, l1⟩ := ll
  have hadd := ratioAdd_r (some ⟨w4.heap.size, 0, none⟩) [(1, 2), (1, 3)] 2 2 1 _ rfl (rats2 X1.out Y1.out X2.out Y2.out) (by omega) (by omega)
  rw [add_ex] at hadd
  go_wp2_with fail
  refine hadd.mono ?_
  rintro e w5 ⟨F1, f1, r1, F2, f2, r2, rfl, hs5, ht5, hb5⟩
  have ha5 := b1 w4 (.cells #[.slice A1 n1 c1, .slice A2 n2 c2, .slice A3 n3 c3, .slice A4 n4 c4] 25)
  have hb6 := ha5.trans (hb5.mono ha5.size)
  have CN := Lib.hid (CN.out.below hb6)
  have Q0 := Lib.hid (Q0.out.below hb6)
  have Q1 := Lib.hid (Q1.out.below hb6)
  have pp := cells2 hb6 ⟨p0, p1⟩
  have hB5 := hB4.trans (hb6.mono hB4.size)
  have htx := ratioText_two w5 (hs5.nr (M := 1) (by omega)) (ht5.nr (M := 1) (by omega)) (by omega) (by omega) (htab.below hB5)
  rw [text56] at htx
  clear hadd hs5 ht5 hb5 hb6 ha5 p0 p1 k0 k1 l0 l1 X1 Y1 X2 Y2
  go_wp2_with fail
  refine htx.mono ?_
  rintro e w6 ⟨rfl, hb6⟩
  have CN := Lib.hid (CN.out.below hb6)
  have Q0 := Lib.hid (Q0.out.below hb6)
  have Q1 := Lib.hid (Q1.out.below hb6)
  have pp := cells2 hb6 pp
  have hB6 := hB5.trans (hb6.mono hB5.size)
  clear htx hb6
  have c6 : Cn [6] := Cn.snoc (xs := []) Dg.nil (by omega) (by omega)
  have c3' : Cn [3] := Cn.snoc (xs := []) Dg.nil (by omega) (by omega)
  have c2' : Cn [2] := Cn.snoc (xs := []) Dg.nil (by omega) (by omega)
  obtain ⟨Z0, z0, hv0, hz0, hr0⟩ := nv_list CN.out c6 (by simp [U]) (n := 1) rfl
  injection hv0 with y1 y2 y3
  subst y1 y2 y3
  have ha6 := b1 w6 (.cells #[.int .u32 6] 53)
  have hlit6 : Ra (w6.alloc (.cells #[.int .u32 6] 53)) (w6.heap.size + 1) (some ⟨w6.heap.size, 0, none⟩) [6] := Ra.lit w6 53 [6]
  have hsm6 := same_any D1 (some ⟨w6.heap.size, 0, none⟩) [6] [6] 1 e1 1 1 (w6.alloc (.cells #[.int .u32 6] 53)) rfl rfl ((hr0.below ha6 (Nat.le_refl _)).more ha6.size) (hlit6.more (by simp)) (by omega)
  rw [decide_eq_true rfl] at hsm6
  obtain ⟨p0, p1⟩ := pp
  clear hr0 hlit6
  go_wp2_with fail
  refine hsm6.mono ?_
  rintro e w7 ⟨rfl, hb7⟩
  have hb7' := ha6.trans (hb7.mono ha6.size)
  have Q0 := Lib.hid (Q0.out.below hb7')
  have Q1 := Lib.hid (Q1.out.below hb7')
  have pp := cells2 hb7' ⟨p0, p1⟩
  have hB7 := hB6.trans (hb7'.mono hB6.size)
  clear hsm6 hb7 hb7' ha6 p0 p1 CN
  obtain ⟨Z1, z1, hv1, hz1, hr1⟩ := nv_list Q0.out c3' (by simp [U]) (n := 1) rfl
  injection hv1 with y1 y2 y3
  subst y1 y2 y3
  have ha7 := b1 w7 (.cells #[.int .u32 3] 53)
  have hlit7 : Ra (w7.alloc (.cells #[.int .u32 3] 53)) (w7.heap.size + 1) (some ⟨w7.heap.size, 0, none⟩) [3] := Ra.lit w7 53 [3]
  have hsm7 := same_any E0 (some ⟨w7.heap.size, 0, none⟩) [3] [3] 1 d0 1 1 (w7.alloc (.cells #[.int .u32 3] 53)) rfl rfl ((hr1.below ha7 (Nat.le_refl _)).more ha7.size) (hlit7.more (by simp)) (by omega)
  rw [decide_eq_true rfl] at hsm7
  obtain ⟨p0, p1⟩ := pp
  clear hr1 hlit7
  go_wp2_with fail
  refine hsm7.mono ?_
  rintro e w8 ⟨rfl, hb8⟩
  have hb8' := ha7.trans (hb8.mono ha7.size)
  have Q1 := Lib.hid (Q1.out.below hb8')
  have pp := cells2 hb8' ⟨p0, p1⟩
  have hB8 := hB7.trans (hb8'.mono hB7.size)
  clear hsm7 hb8 hb8' ha7 p0 p1 Q0
  obtain ⟨Z2, z2, hv2, hz2, hr2⟩ := nv_list Q1.out c2' (by simp [U]) (n := 1) rfl
  injection hv2 with y1 y2 y3
  subst y1 y2 y3
  have ha8 := b1 w8 (.cells #[.int .u32 2] 53)
  have hlit8 : Ra (w8.alloc (.cells #[.int .u32 2] 53)) (w8.heap.size + 1) (some ⟨w8.heap.size, 0, none⟩) [2] := Ra.lit w8 53 [2]
  have hsm8 := same_any E1 (some ⟨w8.heap.size, 0, none⟩) [2] [2] 1 d1 1 1 (w8.alloc (.cells #[.int .u32 2] 53)) rfl rfl ((hr2.below ha8 (Nat.le_refl _)).more ha8.size) (hlit8.more (by simp)) (by omega)
  rw [decide_eq_true rfl] at hsm8
  obtain ⟨p0, p1⟩ := pp
  clear hr2 hlit8
  go_wp2_with fail
  refine hsm8.mono ?_
  rintro e w9 ⟨rfl, hb9⟩
  have hB9 := (hB8.trans (ha8.mono hB8.size)).trans (hb9.mono (Nat.le_trans hB8.size ha8.size))
  go_wp2_with fail
  go_ret
  exact ⟨rfl, hB9⟩
end Go.Proofs.YtaifigkbblncpaaGreatDoor

namespace Go.Proofs.YtaifigkbblncpaaGreatDoor
open Go.RowKit
set_option maxRecDepth 100000

theorem put_Q {W : World} {g : Nat} {p q : Value} (h : Blk W g 35 #[p, q]) (x y : Value) : Blk ((W.setCell ⟨g, 0, none⟩ x).setCell ⟨g, 1, none⟩ y) g 35 #[x, y] := by
  have := (h.set_ 0 x).set_ 1 y
  exact this
theorem Num.setSi {w : World} {L g i n c a : Nat} {A : Option Addr} {v u : Value} (h : Num w L v a) (hg : w.cell? ⟨g, i, none⟩ = some (.slice A n c)) : Num (w.setCell ⟨g, i, none⟩ u) L v a := by
  obtain ⟨A', xs, n', c', h1, hl, h2, h3, h4, h5⟩ := h
  refine ⟨A', xs, n', c', h1, hl, h2, ?_, h4, h5⟩
  rw [setCell_size]
  intro hx
  obtain ⟨b, o, e1, e2, e3⟩ := h3 hx
  refine ⟨b, o, e1, e2, fun k hk => ?_⟩
  rw [World.cell?_setCell_other w _ _ u (fun e => by have := e3 k hk; rw [← e, hg] at this; cases this)]
  exact e3 k hk

/-- A fraction of the document's that is answered. -/
def RetD (w : World) (a b : Nat) (e : Ending) (w' : World) : Prop := ∃ A1 n1 c1 A2 n2 c2, e = .returned (.agg #[.slice A1 n1 c1, .slice A2 n2 c2]) ∧ (∃ L, Num w' L (.agg #[.slice A1 n1 c1]) a) ∧ (∃ L, Num w' L (.agg #[.slice A2 n2 c2]) b) ∧ Below w.heap.size w w'

theorem of_word (n : Nat) (w : World) (hn : n < 18446744073709551616) : Calls Tryz.prog 24 #[.int .u64 (n : Int)] w (RetNum w n) := of_any n w hn
theorem of_zero (w : World) : Calls Tryz.prog 24 #[.int .u64 0] w (RetNum w 0) := of_any 0 w (by omega)
theorem qbox (w : World) : Blk (w.alloc (.cells #[.slice none 0 0, .slice none 0 0] 35)) w.heap.size 35 #[.slice none 0 0, .slice none 0 0] := Blk.new _ _ _

/-- A number of the document's, as it is answered. -/
theorem out_num {v : Value} {a L j : Nat} (w : World) (h : Num w L v a) (ha : a < 65536 ^ j) (hj : j ≤ 5000) : Calls Tryz.prog 27 #[v] w (RetNv w a) := by
  obtain ⟨A, xs, n, c, rfl, hl, hc, hr, hcan, hV, hn⟩ := h.form ha
  have := out_any A xs n c w hl.out hr hcan (by omega)
  rwa [hV.out] at this
/-- A number's digits are those of a number without noughts at the end just if it has none. -/
theorem same_cut {A : Option Addr} {xs : List Nat} {n c L M : Nat} {u : Value} (z : Bool) (w : World) (hl : xs.length = n) (hr : Ra w w.heap.size A xs) (hd : Dg xs) (hn : n ≤ 1000) (h2 : Nv w L u (U xs)) (hz : cutB xs = z) :
    Calls Tryz.prog 18 #[.slice A n c, u] w fun e w' => e = .returned (.bool z) ∧ Below w.heap.size w w' := by
  obtain ⟨A2, ys, n2, c2, rfl, hl2, hc2, hr2, _, hcan2, hU2⟩ := h2
  have := same_any A A2 xs ys n c n2 c2 w hl hl2 hr hr2 (by omega)
  have e : decide (xs = ys) = z := by
    rw [← hz]
    cases hcb : cutB xs
    · refine decide_eq_false (fun h => ?_)
      rw [h, can_cut hcan2] at hcb
      cases hcb
    · exact decide_eq_true (U_inj (cut_can hd hcb) hcan2 hU2.symm)
  rwa [e] at this
theorem same_nv {v u : Value} {a L1 L2 j : Nat} (w : World) (h1 : Nv w L1 v a) (h2 : Nv w L2 u a) (ha : a < 4294967296 ^ j) (hj : j ≤ 1000) :
    Calls Tryz.prog 18 #[v, u] w fun e w' => e = .returned (.bool true) ∧ Below w.heap.size w w' := by
  obtain ⟨A, xs, n, c, rfl, hl, hc, hr, _, hcan, hU⟩ := h1
  have hn := hcan.len (k := j) (by omega)
  exact same_cut (M := 0) true w hl hr hcan.1 (by omega) (by rw [hU]; exact h2) (can_cut hcan)

theorem cells4 {wb W W' : World} {p q r s : Addr} {a b c d : Value} (hb : Below W.heap.size W W') (h : (W.cell? p = some a ∧ W.cell? q = some b) ∧ (W.cell? r = some c ∧ W.cell? s = some d) ∧ Below wb.heap.size wb W) :
    (W'.cell? p = some a ∧ W'.cell? q = some b) ∧ (W'.cell? r = some c ∧ W'.cell? s = some d) ∧ Below wb.heap.size wb W' := ⟨cells2 hb h.1, cells2 hb h.2.1, h.2.2.trans (hb.mono h.2.2.size)⟩
theorem nv_far2 {wb W : World} {L : Nat} {v : Value} {n : Nat} {a b : Prop} (hn : Nv wb L v n) (hs : a ∧ b ∧ Below wb.heap.size wb W) : Nv W L v n := hn.below hs.2.2

set_option maxHeartbeats 2000000 in
theorem same4_r {A1 A2 B1 B2 : Option Addr} {n1 c1 n2 c2 i1 e1 i2 e2 a b L1 L2 L3 L4 j : Nat} (w : World) (h1 : Nv w L1 (.slice A1 n1 c1) a) (h2 : Nv w L2 (.slice A2 n2 c2) b) (h3 : Num w L3 (.agg #[.slice B1 i1 e1]) a) (h4 : Num w L4 (.agg #[.slice B2 i2 e2]) b)
    (ha : a < 65536 ^ j) (hb : b < 65536 ^ j) (hj : j ≤ 1000) :
    Calls Tryz.prog 8 #[.agg #[.slice A1 n1 c1, .slice A2 n2 c2], .agg #[.slice B1 i1 e1, .slice B2 i2 e2]] w fun e w' => e = .returned (.bool true) ∧ Below w.heap.size w w' := by
  have hbb := b2 w (.cells #[.slice A1 n1 c1, .slice A2 n2 c2] 25) (.cells #[.slice B1 i1 e1, .slice B2 i2 e2] 35)
  have q1 := (Blk.new w 25 #[.slice A1 n1 c1, .slice A2 n2 c2]).alloc (.cells #[.slice B1 i1 e1, .slice B2 i2 e2] 35)
  have q2 := Blk.new (w.alloc (.cells #[.slice A1 n1 c1, .slice A2 n2 c2] 25)) 35 #[.slice B1 i1 e1, .slice B2 i2 e2]
  rw [World.size_alloc] at q2
  obtain ⟨W0, hW0⟩ : ∃ W0, (w.alloc (.cells #[.slice A1 n1 c1, .slice A2 n2 c2] 25)).alloc (.cells #[.slice B1 i1 e1, .slice B2 i2 e2] 35) = W0 := ⟨_, rfl⟩
  rw [hW0] at hbb q1 q2
  have x0 : W0.cell? ⟨w.heap.size, 0, none⟩ = some (.slice A1 n1 c1) := q1.cell 0
  have x1 : W0.cell? ⟨w.heap.size, 1, none⟩ = some (.slice A2 n2 c2) := q1.cell 1
  have y0 : W0.cell? ⟨w.heap.size + 1, 0, none⟩ = some (.slice B1 i1 e1) := q2.cell 0
  have y1 : W0.cell? ⟨w.heap.size + 1, 1, none⟩ = some (.slice B2 i2 e2) := q2.cell 1
  have hp32 : ∀ x : Nat, x < 65536 ^ j → x < 4294967296 ^ j := fun x h => Nat.lt_of_lt_of_le h (Nat.pow_le_pow_left (by omega) j)
  have PA := Lib.hid (hp32 a ha)
  have PB := Lib.hid (hp32 b hb)
  have HA := Lib.hid ha
  have HB := Lib.hid hb
  have H1 := Lib.hid (h1.below hbb)
  have H2 := Lib.hid (h2.below hbb)
  have H3 := Lib.hid (h3.below hbb)
  have H4 := Lib.hid (h4.below hbb)
  clear h1 h2 h3 h4 q1 q2 hp32 ha hb
  go_enter Tryz.func8, Tryz.ntmps8
  go_wp2_with fail
  go_region_held3 (fun u => (u.cell? ⟨w.heap.size, 0, none⟩ = some (.slice A1 n1 c1) ∧ u.cell? ⟨w.heap.size, 1, none⟩ = some (.slice A2 n2 c2)) ∧ (u.cell? ⟨w.heap.size + 1, 0, none⟩ = some (.slice B1 i1 e1) ∧ u.cell? ⟨w.heap.size + 1, 1, none⟩ = some (.slice B2 i2 e2)) ∧ Below W0.heap.size W0 u)
    (first | exact ⟨⟨x0, x1⟩, ⟨y0, y1⟩, (Below.refl _ _).drew⟩ | assumption)
    (first
      | (go_at_call 27; (with_reducible refine (out_num (a := a) _ (num_far2 H3.out (by assumption)) HA.out (by omega)).mono ?_); rintro e x1 ⟨v1, rfl, hn1, hb1⟩; have N1 := Lib.hid hn1; clear hn1; have hS1 := cells4 hb1 (by assumption))
      | (go_at_call 18; (with_reducible refine (same_nv (a := a) _ (nv_far2 H1.out (by assumption)) N1.out PA.out hj).mono ?_); rintro e x2 ⟨rfl, hb2⟩; have hS2 := cells4 hb2 (by assumption))
      | (go_at_call 27; (with_reducible refine (out_num (a := b) _ (num_far2 H4.out (by assumption)) HB.out (by omega)).mono ?_); rintro e x3 ⟨v3, rfl, hn3, hb3⟩; have N3 := Lib.hid hn3; clear hn3; have hS3 := cells4 hb3 (by assumption))
      | (go_at_call 18; (with_reducible refine (same_nv (a := b) _ (nv_far2 H2.out (by assumption)) N3.out PB.out hj).mono ?_); rintro e x4 ⟨rfl, hb4⟩; have hS4 := cells4 hb4 (by assumption)))
  all_goals
    go_wp2_with fail
    go_ret
    exact ⟨rfl, hbb.trans (hS4.2.2.mono hbb.size)⟩
end Go.Proofs.YtaifigkbblncpaaGreatDoor

namespace Go.Proofs.YtaifigkbblncpaaGreatDoor
open Go.RowKit
set_option maxRecDepth 100000

set_option maxHeartbeats 2000000 in
theorem in4_r (A1 A2 : Option Addr) (xs ys : List Nat) (n1 c1 n2 c2 : Nat) (w : World) (hl1 : xs.length = n1) (hl2 : ys.length = n2) (hr1 : Ra w w.heap.size A1 xs) (hr2 : Ra w w.heap.size A2 ys) (hd1 : Dg xs) (hd2 : Dg ys) (hn1 : n1 ≤ 1000) (hn2 : n2 ≤ 1000) :
    Calls Tryz.prog 13 #[.agg #[.slice A1 n1 c1, .slice A2 n2 c2]] w (RetD w (U xs) (U ys)) := by
  have hbb := b2 w (.cells #[.slice A1 n1 c1, .slice A2 n2 c2] 25) (.cells #[.slice none 0 0, .slice none 0 0] 35)
  have q1 := (Blk.new w 25 #[.slice A1 n1 c1, .slice A2 n2 c2]).alloc (.cells #[.slice none 0 0, .slice none 0 0] 35)
  have q2 := Blk.new (w.alloc (.cells #[.slice A1 n1 c1, .slice A2 n2 c2] 25)) 35 #[.slice none 0 0, .slice none 0 0]
  rw [World.size_alloc] at q2
  obtain ⟨W0, hW0⟩ : ∃ W0, (w.alloc (.cells #[.slice A1 n1 c1, .slice A2 n2 c2] 25)).alloc (.cells #[.slice none 0 0, .slice none 0 0] 35) = W0 := ⟨_, rfl⟩
  rw [hW0] at hbb q1 q2
  have x0 : W0.cell? ⟨w.heap.size, 0, none⟩ = some (.slice A1 n1 c1) := q1.cell 0
  have x1 : W0.cell? ⟨w.heap.size, 1, none⟩ = some (.slice A2 n2 c2) := q1.cell 1
  have hi1 := fun wz (h : Below W0.heap.size W0 wz) => in_any A1 xs n1 c1 wz hl1 (((hr1.below hbb (Nat.le_refl _)).more hbb.size).below h (Nat.le_refl _) |>.more h.size) hd1 (by omega)
  have hi2 := fun wz (h : Below W0.heap.size W0 wz) => in_any A2 ys n2 c2 wz hl2 (((hr2.below hbb (Nat.le_refl _)).more hbb.size).below h (Nat.le_refl _) |>.more h.size) hd2 (by omega)
  obtain ⟨a, ha⟩ : ∃ a, U xs = a := ⟨_, rfl⟩
  obtain ⟨b, hb⟩ : ∃ b, U ys = b := ⟨_, rfl⟩
  simp only [ha] at hi1
  simp only [hb] at hi2
  rw [ha, hb]
  have hl2' := q2.lt
  have Q2 := Lib.hid q2
  have HI1 := Lib.hid hi1
  have HI2 := Lib.hid hi2
  clear ha hb hl1 hl2 hr1 hr2 hd1 hd2 q1 q2 hi1 hi2
  go_enter Tryz.func13, Tryz.ntmps13
  go_wp2_with fail
  go_region_held3 (fun u => u.cell? ⟨w.heap.size, 0, none⟩ = some (.slice A1 n1 c1) ∧ u.cell? ⟨w.heap.size, 1, none⟩ = some (.slice A2 n2 c2))
    (first | exact ⟨x0, x1⟩ | assumption | exact cells2_put (by omega) (cells2_put (by omega) (by assumption)))
    (first
      | (go_at_call 30; (with_reducible refine Calls.mono (HI1.out _ ?_) ?_); (focus (first | exact (Below.refl _ _).drew | exact BX2)); rintro e y1 ⟨v1, rfl, hn1, hb1⟩; obtain ⟨B1, i1, e1, rfl⟩ := hn1.shape; have N1 := Lib.hid hn1; clear hn1; (first | (have BX1 := BX2.trans (hb1.mono BX2.size); have N2 := Lib.hid (N2.out.below hb1)) | (have BX1 := drew_then hb1)); have hS1 := cells2 BX1 ⟨x0, x1⟩; have u0 : y1.cell? ⟨w.heap.size + 1, 0, none⟩ = some (.slice none 0 0) := (Q2.out.below BX1 hl2').cell 0; have u1 : y1.cell? ⟨w.heap.size + 1, 1, none⟩ = some (.slice none 0 0) := (Q2.out.below BX1 hl2').cell 1; have u2 := (Q2.out.below BX1 hl2').frozen 0; have u3 := (Q2.out.below BX1 hl2').frozen 1)
      | (go_at_call 30; (with_reducible refine Calls.mono (HI2.out _ ?_) ?_); (focus (first | exact (Below.refl _ _).drew | exact BX1)); rintro e y2 ⟨v2, rfl, hn2, hb2⟩; obtain ⟨B2, i2, e2, rfl⟩ := hn2.shape; have N2 := Lib.hid hn2; clear hn2; (first | (have BX2 := BX1.trans (hb2.mono BX1.size); have N1 := Lib.hid (N1.out.below hb2)) | (have BX2 := drew_then hb2)); have hS2 := cells2 BX2 ⟨x0, x1⟩; have u0 : y2.cell? ⟨w.heap.size + 1, 0, none⟩ = some (.slice none 0 0) := (Q2.out.below BX2 hl2').cell 0; have u1 : y2.cell? ⟨w.heap.size + 1, 1, none⟩ = some (.slice none 0 0) := (Q2.out.below BX2 hl2').cell 1; have u2 := (Q2.out.below BX2 hl2').frozen 0; have u3 := (Q2.out.below BX2 hl2').frozen 1))
  all_goals
    go_wp2_with fail
    first
      | exact bodyPost_ret (v := .agg #[.slice B1 i1 e1, .slice B2 i2 e2]) (by simp [results, Tryz.results13, go_sem, (put_Q (Q2.out.below BX2 hl2') (.slice B1 i1 e1) (.slice B2 i2 e2)).cell 0, (put_Q (Q2.out.below BX2 hl2') (.slice B1 i1 e1) (.slice B2 i2 e2)).cell 1]) rfl
          ⟨_, _, _, _, _, _, rfl, ⟨_, (N1.out.setSi u0).setSi ((World.cell?_setCell_other _ _ _ _ (by intro e; injection e; omega)).trans u1)⟩, ⟨_, (N2.out.setSi u0).setSi ((World.cell?_setCell_other _ _ _ _ (by intro e; injection e; omega)).trans u1)⟩,
            ((hbb.trans (BX2.mono hbb.size)).setCell (by show w.heap.size ≤ w.heap.size + 1; omega) _).setCell (by show w.heap.size ≤ w.heap.size + 1; omega) _⟩
      | exact bodyPost_ret (v := .agg #[.slice B1 i1 e1, .slice B2 i2 e2]) (by simp [results, Tryz.results13, go_sem, (put_Q (Q2.out.below BX1 hl2') (.slice B1 i1 e1) (.slice B2 i2 e2)).cell 0, (put_Q (Q2.out.below BX1 hl2') (.slice B1 i1 e1) (.slice B2 i2 e2)).cell 1]) rfl
          ⟨_, _, _, _, _, _, rfl, ⟨_, (N1.out.setSi u0).setSi ((World.cell?_setCell_other _ _ _ _ (by intro e; injection e; omega)).trans u1)⟩, ⟨_, (N2.out.setSi u0).setSi ((World.cell?_setCell_other _ _ _ _ (by intro e; injection e; omega)).trans u1)⟩,
            ((hbb.trans (BX1.mono hbb.size)).setCell (by show w.heap.size ≤ w.heap.size + 1; omega) _).setCell (by show w.heap.size ≤ w.heap.size + 1; omega) _⟩

theorem U_small_k {xs : List Nat} (j : Nat) (h : Dg xs) {k : Nat} (hl : xs.length ≤ k) (hj : 2 * k = j) : U xs < 65536 ^ j := by subst hj; exact U_small16 h hl
theorem ra_far2 {wb W : World} {A : Option Addr} {xs : List Nat} {a b : Prop} (h : Ra wb wb.heap.size A xs) (hs : a ∧ b ∧ Below wb.heap.size wb W) : Ra W W.heap.size A xs := (h.below hs.2.2 (Nat.le_refl _)).more hs.2.2.size
theorem cmpI_zero (a b : Nat) : (cmpI a b == 0) = decide (a = b) := by
  rcases Nat.lt_trichotomy a b with h | h | h
  · rw [cmpI_lt h, decide_eq_false (by omega)]; rfl
  · rw [cmpI_eq h, decide_eq_true h]; rfl
  · rw [cmpI_gt h, decide_eq_false (by omega)]; rfl

set_option maxHeartbeats 4000000 in
theorem right4_r (A1 A2 : Option Addr) (xs ys : List Nat) (n1 c1 n2 c2 : Nat) (w : World) (hl1 : xs.length = n1) (hl2 : ys.length = n2) (hr1 : Ra w w.heap.size A1 xs) (hr2 : Ra w w.heap.size A2 ys) (hd1 : Dg xs) (hd2 : Dg ys) (hn1 : n1 ≤ 500) (hn2 : n2 ≤ 500) :
    Calls Tryz.prog 10 #[.agg #[.slice A1 n1 c1, .slice A2 n2 c2]] w fun e w' => e = .returned (.bool (rightB xs ys)) ∧ Below w.heap.size w w' := by
  have hb := b1 w (.cells #[.slice A1 n1 c1, .slice A2 n2 c2] 25)
  have hbk := Blk.new w 25 #[.slice A1 n1 c1, .slice A2 n2 c2]
  obtain ⟨W0, hW0⟩ : ∃ W0, w.alloc (.cells #[.slice A1 n1 c1, .slice A2 n2 c2] 25) = W0 := ⟨_, rfl⟩
  rw [hW0] at hb hbk
  have k0 : W0.cell? ⟨w.heap.size, 0, none⟩ = some (.slice A1 n1 c1) := hbk.cell 0
  have k1 : W0.cell? ⟨w.heap.size, 1, none⟩ = some (.slice A2 n2 c2) := hbk.cell 1
  have R1 := Lib.hid ((hr1.below hb (Nat.le_refl _)).more hb.size)
  have R2 := Lib.hid ((hr2.below hb (Nat.le_refl _)).more hb.size)
  have hin := in4_r A1 A2 xs ys n1 c1 n2 c2 W0 hl1 hl2 R1.out R2.out hd1 hd2 (by omega) (by omega)
  obtain ⟨E, hE, hE1⟩ : ∃ E, 2 * 500 = E ∧ E ≤ 1000 := ⟨1000, by omega, by omega⟩
  have px : U xs < 65536 ^ E := U_small_k E hd1 (k := 500) (by omega) hE
  have py : U ys < 65536 ^ E := U_small_k E hd2 (k := 500) (by omega) hE
  clear hE
  have PX := Lib.hid px
  have PY := Lib.hid py
  have PG := Lib.hid (gcd_small px py)
  have HL1 := Lib.hid hl1
  have HL2 := Lib.hid hl2
  obtain ⟨z1, hz1⟩ : ∃ z, cutB xs = z := ⟨_, rfl⟩
  obtain ⟨z2, hz2⟩ : ∃ z, cutB ys = z := ⟨_, rfl⟩
  obtain ⟨z4, hz4⟩ : ∃ z, decide (Nat.gcd (U xs) (U ys) = 1) = z := ⟨_, rfl⟩
  obtain ⟨rb, hrbv⟩ : ∃ rb, rightB xs ys = rb := ⟨_, rfl⟩
  have HRB : Hid (rb = (z1 && (z2 && (!decide (U ys = 0) && z4)))) := Lib.hid (by rw [← hrbv, rightB, hz1, hz2, hz4])
  rw [hrbv]
  have HZ1 := Lib.hid hz1
  have HZ2 := Lib.hid hz2
  have HZ4 := Lib.hid hz4
  obtain ⟨a, ha⟩ : ∃ a, U xs = a := ⟨_, rfl⟩
  obtain ⟨b, hbv⟩ : ∃ b, U ys = b := ⟨_, rfl⟩
  have HA := Lib.hid ha
  have HBV := Lib.hid hbv
  rw [ha] at PX PG hin HZ4
  rw [hbv] at PY PG hin HRB HZ4
  clear hl1 hl2 hr1 hr2 px py hz1 hz2 hz4 hbk ha hbv hrbv
  go_enter Tryz.func10, Tryz.ntmps10
  go_wp2_with fail
  refine hin.mono ?_
  rintro e w1 ⟨B1, i1, e1, B2, i2, e2, rfl, ⟨L1, hx⟩, ⟨L2, hy⟩, hb1⟩
  have ha1 := b1 w1 (.cells #[.slice B1 i1 e1, .slice B2 i2 e2] 35)
  have hb2 := hb1.trans (ha1.mono hb1.size)
  have kk := cells2 hb2 ⟨k0, k1⟩
  have m0 := cn0 w1 35 (.slice B1 i1 e1) (.slice B2 i2 e2)
  have m1 := cn1 w1 35 (.slice B1 i1 e1) (.slice B2 i2 e2)
  have HX := Lib.hid (hx.below ha1)
  have HY := Lib.hid (hy.below ha1)
  have hlen := num_len3 hy
  have R1 := Lib.hid ((R1.out.below hb2 (Nat.le_refl _)).more hb2.size)
  have R2 := Lib.hid ((R2.out.below hb2 (Nat.le_refl _)).more hb2.size)
  have hBw := hb.trans (hb2.mono hb.size)
  clear hx hy hb1 hb2 ha1 hin k0 k1 hW0 hb
  go_upto_region 2 with (fail)
  obtain ⟨g3, hg3⟩ : ∃ g3, w1.heap.size = g3 := ⟨_, rfl⟩
  obtain ⟨W1, hW1⟩ : ∃ W1, w1.alloc (.cells #[.slice B1 i1 e1, .slice B2 i2 e2] 35) = W1 := ⟨_, rfl⟩
  rw [hW1] at kk HX HY R1 R2 hBw
  rw [hg3, hW1] at m0 m1
  rw [hg3, hW1]
  clear hg3 hW1
  obtain ⟨k0, k1⟩ := kk
  rcases hlen with ⟨rfl, rfl⟩ | ⟨hi2, hb0⟩
  · obtain rfl : rb = false := by rw [HRB.out]; cases z1 <;> cases z2 <;> rfl
    clear HRB
    go_quiet (fail)
    go_wp2_with fail
    go_ret
    exact ⟨rfl, hBw.trans ((below_drewN _).mono hBw.size)⟩
  · have hz : decide (b = 0) = false := decide_eq_false (by omega)
    obtain rfl : rb = (z1 && (z2 && z4)) := by rw [HRB.out, hz]; simp
    have hi2b : ((i2 : Int) == 0) = false := by simp; omega
    clear HRB hz
    cases z1
    · first | (go_region_law (first
        | (go_simp; go_at_call 27; (with_reducible refine (out_num (a := a) W1.drew (HX.out.below (Below.refl _ _).drew) PX.out (by omega)).mono ?_); rintro e x1 ⟨v1, rfl, hn1, hb1⟩; have N1 := Lib.hid hn1; clear hn1; have BX1 := drew_then hb1; have kx := (cells2 BX1 ⟨k0, k1⟩).1)
        | (go_simp; go_at_call 18; (with_reducible refine (same_cut (M := 0) false x1 HL1.out ((R1.out.below BX1 (Nat.le_refl _)).more BX1.size) hd1 (by omega) (HA.out ▸ N1.out) HZ1.out).mono ?_); rintro e x2 ⟨rfl, hb2⟩; have BX2 := BX1.trans (hb2.mono BX1.size)))) | fail
      all_goals
        go_wp2_with fail
        go_ret
        exact ⟨rfl, hBw.trans (BX2.mono hBw.size)⟩
    cases z2
    · go_region_held3 (fun u => (u.cell? ⟨w.heap.size, 0, none⟩ = some (.slice A1 n1 c1) ∧ u.cell? ⟨w.heap.size, 1, none⟩ = some (.slice A2 n2 c2)) ∧ (u.cell? ⟨g3, 0, none⟩ = some (.slice B1 i1 e1) ∧ u.cell? ⟨g3, 1, none⟩ = some (.slice B2 i2 e2)) ∧ Below W1.heap.size W1 u)
        (first | exact ⟨⟨k0, k1⟩, ⟨m0, m1⟩, (Below.refl _ _).drew⟩ | assumption)
        (first
          | (go_at_call 27; (with_reducible refine (out_num (a := a) _ (num_far2 HX.out (by assumption)) PX.out (by omega)).mono ?_); rintro e x1 ⟨v1, rfl, hn1, hb1⟩; have N1 := Lib.hid hn1; clear hn1; have hS1 := cells4 hb1 (by assumption))
          | (go_at_call 18; (with_reducible refine (same_cut (M := 0) true _ HL1.out (ra_far2 R1.out (by assumption)) hd1 (by omega) (HA.out ▸ N1.out) HZ1.out).mono ?_); rintro e x2 ⟨rfl, hb2⟩; have hS2 := cells4 hb2 (by assumption))
          | (go_at_call 27; (with_reducible refine (out_num (a := b) _ (num_far2 HY.out (by assumption)) PY.out (by omega)).mono ?_); rintro e x3 ⟨v3, rfl, hn3, hb3⟩; have N3 := Lib.hid hn3; clear hn3; have hS3 := cells4 hb3 (by assumption))
          | (go_at_call 18; (with_reducible refine (same_cut (M := 0) false _ HL2.out (ra_far2 R2.out (by assumption)) hd2 (by omega) (HBV.out ▸ N3.out) HZ2.out).mono ?_); rintro e x4 ⟨rfl, hb4⟩; have hS4 := cells4 hb4 (by assumption)))
      all_goals
        go_wp2_with fail
        go_ret
        exact ⟨rfl, hBw.trans (hS4.2.2.mono hBw.size)⟩
    · go_region_held3 (fun u => (u.cell? ⟨w.heap.size, 0, none⟩ = some (.slice A1 n1 c1) ∧ u.cell? ⟨w.heap.size, 1, none⟩ = some (.slice A2 n2 c2)) ∧ (u.cell? ⟨g3, 0, none⟩ = some (.slice B1 i1 e1) ∧ u.cell? ⟨g3, 1, none⟩ = some (.slice B2 i2 e2)) ∧ Below W1.heap.size W1 u)
        (first | exact ⟨⟨k0, k1⟩, ⟨m0, m1⟩, (Below.refl _ _).drew⟩ | assumption)
        (first
          | (go_at_call 27; (with_reducible refine (out_num (a := a) _ (num_far2 HX.out (by assumption)) PX.out (by omega)).mono ?_); rintro e x1 ⟨v1, rfl, hn1, hb1⟩; have N1 := Lib.hid hn1; clear hn1; have hS1 := cells4 hb1 (by assumption))
          | (go_at_call 18; (with_reducible refine (same_cut (M := 0) true _ HL1.out (ra_far2 R1.out (by assumption)) hd1 (by omega) (HA.out ▸ N1.out) HZ1.out).mono ?_); rintro e x2 ⟨rfl, hb2⟩; have hS2 := cells4 hb2 (by assumption))
          | (go_at_call 27; (with_reducible refine (out_num (a := b) _ (num_far2 HY.out (by assumption)) PY.out (by omega)).mono ?_); rintro e x3 ⟨v3, rfl, hn3, hb3⟩; have N3 := Lib.hid hn3; clear hn3; have hS3 := cells4 hb3 (by assumption))
          | (go_at_call 18; (with_reducible refine (same_cut (M := 0) true _ HL2.out (ra_far2 R2.out (by assumption)) hd2 (by omega) (HBV.out ▸ N3.out) HZ2.out).mono ?_); rintro e x4 ⟨rfl, hb4⟩; have hS4 := cells4 hb4 (by assumption)))
      all_goals
        have HX4 := Lib.hid (num_far2 HX.out hS4)
        have HY4 := Lib.hid (num_far2 HY.out hS4)
        have hB4 := hBw.trans (hS4.2.2.mono hBw.size)
        have y0 := hS4.2.1.1
        have y1 := hS4.2.1.2
        go_wp2_with fail
        refine (refGcd3_any B1 B2 i1 e1 i2 e2 a b _ _ x4 HX4.out HY4.out PX.out PY.out (by omega)).mono ?_
        rintro e x5 ⟨v5, rfl, ⟨L5, hn5⟩, hb5⟩
        obtain ⟨D5, d5, f5, rfl⟩ := hn5.shape
        have N5 := Lib.hid hn5
        clear hn5
        go_wp2_with fail
        refine (of_one x5).mono ?_
        rintro e x6 ⟨v6, rfl, hn6, hb6⟩
        obtain ⟨D6, d6, f6, rfl⟩ := hn6.shape
        have N6 := Lib.hid hn6
        have N5' := Lib.hid (N5.out.below hb6)
        clear hn6
        have hcz : ((cmpI (Nat.gcd a b) 1) == 0) = z4 := by rw [cmpI_zero]; exact HZ4.out
        obtain ⟨cz, hcze⟩ : ∃ cz, cmpI (Nat.gcd a b) 1 = cz := ⟨_, rfl⟩
        have hcm := cmp_num _ _ (Nat.gcd a b) 1 _ _ x6 N5'.out N6.out PG.out (pow_word (a := 1) (by omega))
        rw [hcze] at hcm hcz
        clear hcze
        go_wp2_with fail
        refine hcm.mono ?_
        rintro e x7 ⟨rfl, hb7⟩
        go_wp2_with fail
        go_ret
        exact ⟨by first | rfl | simp, ((hB4.trans (hb5.mono hB4.size)).trans (hb6.mono (Nat.le_trans hB4.size hb5.size))).trans (hb7.mono (Nat.le_trans hB4.size (Nat.le_trans hb5.size hb6.size)))⟩
end Go.Proofs.YtaifigkbblncpaaGreatDoor
