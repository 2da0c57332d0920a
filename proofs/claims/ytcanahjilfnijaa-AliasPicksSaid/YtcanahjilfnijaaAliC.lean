/-
  Alias tables: package alias's Count, Pick.
-/
import Derived.Test.YtcanahjilfnijaaAliB
namespace Go.Proofs.Ytcanahjilfnijaa
open Go.RowKit
set_option maxRecDepth 100000

theorem wv_zero : wv 0 = .agg #[.int .u64 0, .int .u64 0] := rfl

set_option maxHeartbeats 2000000 in
theorem count12_any (t n cc : Nat) (A : Option Addr) (c : Nat → Nat) (o : Nat → Int) (i : Int) (w : World) (h : Cq w w.heap.size A n c o) (ht : t < 18446744073709551616) (hc : ∀ j, j < n → c j < 18446744073709551616) (hn : n ≤ 1000000)
    (b : Bool) (hb : b = true ↔ Rt12 t n c o) :
    Calls Try.prog 18 #[.agg #[.int .u64 (t : Int), .slice A n cc], .int .i64 i] w fun e w' => e = .returned (.tuple #[wv (if b then cu t c o i n else 0), .bool b]) ∧ Below w.heap.size w w' := by
  have hk := (tab_new w t n cc A).alloc (.cells #[.int .u64 0, .int .u64 0] 50)
  have hr := Blk.new (w.alloc (.cells #[.int .u64 (t : Int), .slice A n cc] 27)) 50 #[.int .u64 0, .int .u64 0]
  rw [show (w.alloc (.cells #[.int .u64 (t : Int), .slice A n cc] 27)).heap.size = w.heap.size + 1 by simp] at hr
  have t0 := hk.cell 0
  have t1 := hk.cell 1
  have HK := Lib.hid hk
  have HRS := Lib.hid hr
  have hb0 := below2_12 w (.cells #[.int .u64 (t : Int), .slice A n cc] 27) (.cells #[.int .u64 0, .int .u64 0] 50)
  have HB0 := Lib.hid hb0
  have HC := Lib.hid h
  have HBB := Lib.hid hb
  have HR := Lib.hid (right12_any t n cc A c o _ (h.step hb0) ht hc hn b hb)
  clear hk h hc hb hb0 hr
  go_enter Try.func18, Try.ntmps18
  go_wp2_with fail
  refine HR.out.mono ?_
  rintro e w1 ⟨rfl, hb1⟩
  have hk1 := HK.out.below hb1 HK.out.lt
  have hr1 := HRS.out.below hb1 HRS.out.lt
  have t0 := hk1.cell 0
  have t1 := hk1.cell 1
  have r0 := hr1.cell 0
  have r1 := hr1.cell 1
  have f0 := hr1.frozen 0
  have f1 := hr1.frozen 1
  have HB1 := Lib.hid (HB0.out.trans (hb1.mono HB0.out.size))
  have HK1 := Lib.hid hk1
  have HR1 := Lib.hid hr1
  clear HR hk1 hr1 hb1 HK HRS
  cases b with
  | false =>
    have hset := (HR1.out.set_ 0 (.int .u64 0)).set_ 1 (.int .u64 0)
    have s0 := hset.cell 0
    have s1 := hset.cell 1
    have g0 := hset.frozen 0
    have g1 := hset.frozen 1
    clear hset
    go_wp2_with fail
    refine bodyPost_ret (v := .tuple #[.agg #[.int .u64 0, .int .u64 0], .bool false]) (by simp [results, Try.results18, go_sem, s0, s1, g0, g1]) rfl ⟨rfl, ?_⟩
    exact (HB1.out.setCell (p := ⟨w.heap.size + 1, 0, none⟩) (by simp) (.int .u64 0)).setCell (p := ⟨w.heap.size + 1, 1, none⟩) (by simp) (.int .u64 0)
  | true =>
    have HRT := Lib.hid (HBB.out.1 rfl)
    have HH := Lib.hid (has12_any t n cc A i w1 _ rfl)
    by_cases hin : 0 ≤ i ∧ i < (n : Int)
    · rw [decide_eq_true hin] at HH
      obtain ⟨d, rfl⟩ := Int.eq_ofNat_of_zero_le hin.1
      have hd : d < n := by omega
      have hd0 : (0 : Int) ≤ (d : Int) := by omega
      have hd1 : (d : Int) < (n : Int) := by omega
      clear hin
      go_wp2_with fail
      refine HH.out.mono ?_
      rintro e w2 ⟨rfl, hb2⟩
      have hk2 := HK1.out.below hb2 HK1.out.lt
      have t0 := hk2.cell 0
      have t1 := hk2.cell 1
      have HR2 := Lib.hid (HR1.out.below hb2 HR1.out.lt)
      have hB2 := HB1.out.trans (hb2.mono HB1.out.size)
      have HCT := Lib.hid (counts12_any t n cc A c o w2 ((HC.out.step hB2)) ht hn HRT.out)
      have HB2 := Lib.hid hB2
      clear HH hk2 hb2 hB2
      go_wp2_with fail
      refine HCT.out.mono ?_
      rintro e w3 ⟨g, rfl, hg, hw3, hb3⟩
      obtain ⟨q0, q1, _⟩ := hw3.cells hd
      have hr3 := HR2.out.below hb3 HR2.out.lt
      have r0 := hr3.cell 0
      have r1 := hr3.cell 1
      have f0 := hr3.frozen 0
      have f1 := hr3.frozen 1
      have hset := (hr3.set_ 0 (.int .u64 ((hi12 (cu t c o (d : Int) n) : Nat) : Int))).set_ 1 (.int .u64 ((lo12 (cu t c o (d : Int) n) : Nat) : Int))
      have s0 := hset.cell 0
      have s1 := hset.cell 1
      have g0 := hset.frozen 0
      have g1 := hset.frozen 1
      have HB3 := Lib.hid (((HB2.out.trans (hb3.mono HB2.out.size)).setCell (p := ⟨w.heap.size + 1, 0, none⟩) (by simp) (.int .u64 ((hi12 (cu t c o (d : Int) n) : Nat) : Int))).setCell (p := ⟨w.heap.size + 1, 1, none⟩) (by simp) (.int .u64 ((lo12 (cu t c o (d : Int) n) : Nat) : Int)))
      obtain ⟨x, hx⟩ : ∃ x, cu t c o (d : Int) n = x := ⟨_, rfl⟩
      rw [hx] at q0 q1 s0 s1 g0 g1 HB3
      have HX := Lib.hid hx
      clear HCT hset hr3 hw3 hb3 hx
      go_wp2_with fail
      exact bodyPost_ret (v := .tuple #[wv x, .bool true]) (by simp [results, Try.results18, go_sem, s0, s1, g0, g1, wv]) rfl ⟨by simp [HX.out], HB3.out⟩
    · rw [decide_eq_false hin] at HH
      have HZ := Lib.hid (cu_out (t := t) (c := c) (i := i) (fun j hj => (HRT.out.1 j hj).2) (show i < 0 ∨ (n : Int) ≤ i by omega))
      clear hin
      go_wp2_with fail
      refine HH.out.mono ?_
      rintro e w2 ⟨rfl, hb2⟩
      have hr2 := HR1.out.below hb2 HR1.out.lt
      have HB2 := Lib.hid (HB1.out.trans (hb2.mono HB1.out.size))
      have r0 := hr2.cell 0
      have r1 := hr2.cell 1
      have f0 := hr2.frozen 0
      have f1 := hr2.frozen 1
      have hset := (hr2.set_ 0 (.int .u64 0)).set_ 1 (.int .u64 0)
      have s0 := hset.cell 0
      have s1 := hset.cell 1
      have g0 := hset.frozen 0
      have g1 := hset.frozen 1
      clear hset hr2 hb2 HH
      go_wp2_with fail
      refine bodyPost_ret (v := .tuple #[.agg #[.int .u64 0, .int .u64 0], .bool true]) (by simp [results, Try.results18, go_sem, s0, s1, g0, g1]) rfl ⟨by simp [HZ.out, wv_zero], ?_⟩
      exact (HB2.out.setCell (p := ⟨w.heap.size + 1, 0, none⟩) (by simp) (.int .u64 0)).setCell (p := ⟨w.heap.size + 1, 1, none⟩) (by simp) (.int .u64 0)

/-- What a number picks. -/
def Pk12 (t n : Nat) (c : Nat → Nat) (o : Nat → Int) (r : Nat) (v : Int) (b : Bool) : Prop :=
  (¬ (Rt12 t n c o ∧ n * t < 18446744073709551616 ∧ r < n * t) ∧ v = -1 ∧ b = false) ∨
  (Rt12 t n c o ∧ n * t < 18446744073709551616 ∧ r < n * t ∧ v = (if r % t < c (r / t) then ((r / t : Nat) : Int) else o (r / t)) ∧ b = true)

set_option maxHeartbeats 2000000 in
theorem pick12_any (t n cc : Nat) (A : Option Addr) (c : Nat → Nat) (o : Nat → Int) (r : Nat) (w : World) (h : Cq w w.heap.size A n c o) (ht : t < 18446744073709551616) (hc : ∀ j, j < n → c j < 18446744073709551616) (hn : n ≤ 1000000) (hr : r < 18446744073709551616)
    (b0 : Bool) (hb0 : b0 = true ↔ Rt12 t n c o) (v : Int) (b : Bool) (hp : Pk12 t n c o r v b) :
    Calls Try.prog 16 #[.agg #[.int .u64 (t : Int), .slice A n cc], .int .u64 (r : Int)] w fun e w' => e = .returned (.tuple #[.int .i64 v, .bool b]) ∧ Below w.heap.size w w' := by
  have hk := tab_new w t n cc A
  have t0 := hk.cell 0
  have t1 := hk.cell 1
  have HK := Lib.hid hk
  have hB0 := b1' w (.cells #[.int .u64 (t : Int), .slice A n cc] 27)
  have HB0 := Lib.hid hB0
  have HC := Lib.hid h
  have HN := Lib.hid (numbers12_any t n cc A c o _ (h.step hB0) ht hc hn b0 hb0)
  have HBB := Lib.hid hb0
  have HP := Lib.hid hp
  clear hk h hc hb0 hB0 hp
  go_enter Try.func16, Try.ntmps16
  go_wp2_with fail
  refine HN.out.mono ?_
  rintro e w1 ⟨rfl, hb1⟩
  have hk1 := HK.out.below hb1 HK.out.lt
  have t0 := hk1.cell 0
  have t1 := hk1.cell 1
  have HK1 := Lib.hid hk1
  have HB1 := Lib.hid (HB0.out.trans (hb1.mono HB0.out.size))
  clear hk1 hb1 HN
  rcases HP.out with ⟨hno, rfl, rfl⟩ | ⟨hrt, hfit, hlt, hv, rfl⟩
  · by_cases hq : (b0 && fb (n * t)) = true
    · have hq2 := hq
      rw [Bool.and_eq_true] at hq2
      obtain ⟨rfl, hfb⟩ := hq2
      have hfit : n * t < 18446744073709551616 := by simpa [fb] using hfb
      have hge : n * t ≤ r := by
        rcases Nat.lt_or_ge r (n * t) with h1 | h1
        · exact absurd ⟨HBB.out.1 rfl, hfit, h1⟩ hno
        · exact h1
      rw [if_pos rfl, hq, fw_in hfit]
      obtain ⟨m, hm⟩ : ∃ m, n * t = m := ⟨_, rfl⟩
      rw [hm] at hge ⊢
      have hge2 : (m : Int) ≤ (r : Int) := by omega
      clear hq hfb hfit hno hm
      go_wp2_with fail
      go_ret2
      exact ⟨rfl, HB1.out⟩
    · rw [Bool.not_eq_true] at hq
      rw [hq]
      obtain ⟨m, hm⟩ : ∃ m, (if b0 = true then fw (n * t) else 0) = m := ⟨_, rfl⟩
      rw [hm]
      clear hm hq hno
      go_wp2_with fail
      go_ret2
      exact ⟨rfl, HB1.out⟩
  · have hb0t := HBB.out.2 hrt
    subst hb0t
    have hq : (true && fb (n * t)) = true := by rw [fb_in hfit]; rfl
    rw [if_pos rfl, hq, fw_in hfit]
    have hdiv : r / t < n := (Nat.div_lt_iff_lt_mul hrt.2.1).2 hlt
    have htp := hrt.2.1
    obtain ⟨m, hm⟩ : ∃ m, n * t = m := ⟨_, rfl⟩
    rw [hm] at hlt ⊢
    have hlt2 : ¬ (m : Int) ≤ (r : Int) := by omega
    have hd0 : ((t : Int) == 0) = false := by simp; omega
    have hd1 : ¬ (t : Int) = 0 := by omega
    have hd2 : ¬ t = 0 := by omega
    have e1 : (r : Int) % (t : Int) = ((r % t : Nat) : Int) := by simp
    have e1t : (r : Int).tmod (t : Int) = ((r % t : Nat) : Int) := by simp [Int.tmod]
    have e2 : (r : Int) / (t : Int) = ((r / t : Nat) : Int) := by simp
    have e2t : (r : Int).tdiv (t : Int) = ((r / t : Nat) : Int) := by simp [Int.tdiv]
    have hx64 : r % t < 18446744073709551616 := by have := Nat.mod_lt r htp; omega
    obtain ⟨q, hq1⟩ : ∃ q, r / t = q := ⟨_, rfl⟩
    obtain ⟨x, hx1⟩ : ∃ x, r % t = x := ⟨_, rfl⟩
    rw [hq1] at e2 e2t hdiv
    rw [hx1] at e1 e1t hx64
    rw [hq1, hx1] at hv
    have w1q : IntKind.u64.wrap (q : Int) = (q : Int) := by rw [IntKind.wrap_u64]; omega
    have w2q : IntKind.i64.wrap (q : Int) = (q : Int) := by rw [IntKind.wrap_i64]; omega
    have w1x : IntKind.u64.wrap (x : Int) = (x : Int) := by rw [IntKind.wrap_u64]; omega
    obtain ⟨a, p, hA, ha, c0, c1⟩ := (HC.out.step HB1.out).at_ hdiv
    subst hA
    have hi0 : (0 : Int) ≤ (q : Int) := by omega
    have hi1 : (q : Int) < (n : Int) := by omega
    have c0' : w1.drew.cell? ⟨a, p + q * 2, none⟩ = some (.int .u64 ((c q : Nat) : Int)) := c0
    have c1' : w1.drew.cell? ⟨a, p + q * 2 + 1, none⟩ = some (.int .i64 (o q)) := c1
    have t0' : w1.drew.cell? ⟨w.heap.size, 0, none⟩ = some (.int .u64 (t : Int)) := t0
    have t1' : w1.drew.cell? ⟨w.heap.size, 1, none⟩ = some (.slice (some ⟨a, p, none⟩) n cc) := t1
    have HBD := Lib.hid HB1.out.drew
    clear hq hm hq1 hx1 hrt hfit
    by_cases hlx : x < c q
    · rw [if_pos hlx] at hv
      have HV := Lib.hid hv
      clear hv
      obtain ⟨y, hy⟩ : ∃ y, c q = y := ⟨_, rfl⟩
      rw [hy] at c0 c0' hlx
      have hlx2 : (x : Int) < (y : Int) := by omega
      clear hy HP
      go_wp2_with fail
      go_region
      go_wp2_with fail
      go_ret2
      exact ⟨by rw [HV.out]; rfl, HBD.out⟩
    · rw [if_neg hlx] at hv
      have HV := Lib.hid hv
      clear hv
      obtain ⟨y, hy⟩ : ∃ y, c q = y := ⟨_, rfl⟩
      rw [hy] at c0 c0' hlx
      have hlx2 : ¬ (x : Int) < (y : Int) := by omega
      obtain ⟨z, hz⟩ : ∃ z, o q = z := ⟨_, rfl⟩
      rw [hz] at c1 c1' HV
      clear hy hz HP
      go_wp2_with fail
      go_region
      go_wp2_with fail
      go_ret2
      exact ⟨by rw [HV.out]; rfl, HBD.out⟩
end Go.Proofs.Ytcanahjilfnijaa
