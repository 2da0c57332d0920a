/-
  Alias tables: columns and wide numbers in memory; package alias's has, right, Numbers, plus.
-/
import Derived.Test.YtcanahjilfnijaaAliM
import Derived.Test.YtcanahjilfnijaaSpanR
import Derived.Test.YtcanahjilfnijaaBack
import Derived.Shelf.Spec.BitsCarry
import Derived.Deep.RegionHeld3
import Derived.Laws.MakeOwn
namespace Go.Proofs.Ytcanahjilfnijaa
open Go.RowKit
set_option maxRecDepth 100000

/-- The slice at A reads as n columns: cuts c, other places o; every cell lies below block B. -/
def Cq (w : World) (B : Nat) (A : Option Addr) (n : Nat) (c : Nat → Nat) (o : Nat → Int) : Prop :=
  0 < n → ∃ b p, A = some ⟨b, p, none⟩ ∧ b < B ∧ ∀ j, j < n → w.cell? ⟨b, p + j * 2, none⟩ = some (.int .u64 ((c j : Nat) : Int)) ∧ w.cell? ⟨b, p + j * 2 + 1, none⟩ = some (.int .i64 (o j))
theorem Cq.at_ {w : World} {B : Nat} {A : Option Addr} {n : Nat} {c : Nat → Nat} {o : Nat → Int} {k : Nat} (h : Cq w B A n c o) (hk : k < n) :
    ∃ b p, A = some ⟨b, p, none⟩ ∧ b < B ∧ w.cell? ⟨b, p + k * 2, none⟩ = some (.int .u64 ((c k : Nat) : Int)) ∧ w.cell? ⟨b, p + k * 2 + 1, none⟩ = some (.int .i64 (o k)) := by
  obtain ⟨b, p, h1, h2, h3⟩ := h (by omega)
  exact ⟨b, p, h1, h2, h3 k hk⟩
theorem Cq.keep {w w' : World} {B : Nat} {A : Option Addr} {n : Nat} {c : Nat → Nat} {o : Nat → Int} (h : Cq w B A n c o) (hk : ∀ p : Addr, p.block < B → w'.cell? p = w.cell? p) : Cq w' B A n c o := fun hn => by
  obtain ⟨b, p, h1, h2, h3⟩ := h hn
  exact ⟨b, p, h1, h2, fun j hj => ⟨(hk _ h2).trans (h3 j hj).1, (hk _ h2).trans (h3 j hj).2⟩⟩
theorem Cq.more {w : World} {B B' : Nat} {A : Option Addr} {n : Nat} {c : Nat → Nat} {o : Nat → Int} (h : Cq w B A n c o) (hB : B ≤ B') : Cq w B' A n c o := fun hn => by
  obtain ⟨b, p, h1, h2, h3⟩ := h hn
  exact ⟨b, p, h1, by omega, h3⟩
theorem Cq.below {w w' : World} {B C : Nat} {A : Option Addr} {n : Nat} {c : Nat → Nat} {o : Nat → Int} (h : Cq w B A n c o) (hb : Below C w w') (hB : B ≤ C) : Cq w' B A n c o := h.keep fun _ hp => hb.cell (by omega)
theorem Cq.step {w w' : World} {A : Option Addr} {n : Nat} {c : Nat → Nat} {o : Nat → Int} (h : Cq w w.heap.size A n c o) (hb : Below w.heap.size w w') : Cq w' w'.heap.size A n c o := (h.below hb (Nat.le_refl _)).more hb.size
theorem Cq.congr {w : World} {B : Nat} {A : Option Addr} {n : Nat} {c c' : Nat → Nat} {o o' : Nat → Int} (h : Cq w B A n c o) (hc : ∀ k, k < n → c k = c' k) (ho : ∀ k, k < n → o k = o' k) : Cq w B A n c' o' := fun hn => by
  obtain ⟨b, p, h1, h2, h3⟩ := h hn
  exact ⟨b, p, h1, h2, fun j hj => by rw [← hc j hj, ← ho j hj]; exact h3 j hj⟩

/-- May a table be? -/
def Rt12 (t n : Nat) (c : Nat → Nat) (o : Nat → Int) : Prop := (∀ j, j < n → c j ≤ t ∧ 0 ≤ o j ∧ o j < (n : Int)) ∧ 0 < t ∧ 0 < n

theorem tab_new (w : World) (t n cc : Nat) (A : Option Addr) : Blk (w.alloc (.cells #[.int .u64 (t : Int), .slice A n cc] 27)) w.heap.size 27 #[.int .u64 (t : Int), .slice A n cc] := Blk.new w _ _

set_option maxHeartbeats 1000000 in
theorem has12_any (t n cc : Nat) (A : Option Addr) (i : Int) (w : World) (b : Bool) (hb : b = decide (0 ≤ i ∧ i < (n : Int))) :
    Calls Try.prog 30 #[.agg #[.int .u64 (t : Int), .slice A n cc], .int .i64 i] w fun e w' => e = .returned (.bool b) ∧ Below w.heap.size w w' := by
  have hk := tab_new w t n cc A
  have c1 := hk.cell 1
  have hb1 := b1' w (.cells #[.int .u64 (t : Int), .slice A n cc] 27)
  have HB := Lib.hid hb
  clear hk hb
  by_cases h1 : 0 ≤ i
  · go_enter Try.func30, Try.ntmps30
    go_wp2_with fail
    go_ret
    exact ⟨by rw [HB.out, show decide (0 ≤ i ∧ i < (n : Int)) = decide (i < (n : Int)) by simp [h1]]; rfl, hb1⟩
  · go_enter Try.func30, Try.ntmps30
    go_wp2_with fail
    go_ret
    exact ⟨by rw [HB.out, decide_eq_false (by omega)]; rfl, hb1⟩

set_option maxHeartbeats 4000000 in
theorem right12_any (t n cc : Nat) (A : Option Addr) (c : Nat → Nat) (o : Nat → Int) (w : World) (h : Cq w w.heap.size A n c o) (ht : t < 18446744073709551616) (hc : ∀ j, j < n → c j < 18446744073709551616) (hn : n ≤ 1000000)
    (b : Bool) (hb : b = true ↔ Rt12 t n c o) :
    Calls Try.prog 27 #[.agg #[.int .u64 (t : Int), .slice A n cc]] w fun e w' => e = .returned (.bool b) ∧ Below w.heap.size w w' := by
  have HK := Lib.hid (tab_new w t n cc A)
  have HB0 := Lib.hid (b1' w (.cells #[.int .u64 (t : Int), .slice A n cc] 27))
  have HB := Lib.hid hb
  have HC := Lib.hid h
  have HW := Lib.hid hc
  have c1 := HK.out.cell 1
  clear hb h hc
  go_enter Try.func27, Try.ntmps27
  go_wp2_with fail
  clear c1
  go_loopw [8] (fun i wr => ∃ k : Nat, i = .int .i64 (k : Int) ∧ k ≤ n ∧ Hid (∀ j, j < k → c j ≤ t ∧ 0 ≤ o j ∧ o j < (n : Int)) ∧ Hid (Blk wr w.heap.size 27 #[.int .u64 (t : Int), .slice A n cc]) ∧ Hid (Below w.heap.size w wr)) (fun i _ => n - (intOf i).toNat)
  case atStart => exact ⟨0, rfl, by omega, Lib.hid (fun j hj => by omega), HK, HB0⟩
  case round =>
    obtain ⟨k, rfl, hk, HG, HT, HBR⟩ := hrel
    by_cases hkn : k < n
    · obtain ⟨a, p, hA, ha, c0, c1⟩ := (HC.out.below HBR.out (Nat.le_refl _)).at_ hkn
      subst hA
      have hck := HW.out k hkn
      have hi0 : (0 : Int) ≤ (k : Int) := by omega
      have hi1 : (k : Int) < (n : Int) := by omega
      obtain ⟨ck, hcke⟩ : ∃ x, c k = x := ⟨_, rfl⟩
      obtain ⟨ok, hoke⟩ : ∃ x, o k = x := ⟨_, rfl⟩
      rw [hcke] at c0 hck
      rw [hoke] at c1
      have HE := Lib.hid (And.intro hcke hoke)
      have hT1 := HT.out.alloc (.cells #[.int .u64 (ck : Int), .int .i64 ok] 64)
      have t0 := hT1.cell 0
      have t1 := hT1.cell 1
      have HB1 := Lib.hid (HBR.out.trans ((b1' wr (.cells #[.int .u64 (ck : Int), .int .i64 ok] 64)).mono HBR.out.size))
      have HT1 := Lib.hid hT1
      clear hcke hoke hT1
      by_cases hle : ck ≤ t
      · have hle2 : ¬ (t : Int) < (ck : Int) := by omega
        have HH := Lib.hid (has12_any t n cc (some ⟨a, p, none⟩) ok (wr.alloc (.cells #[.int .u64 (ck : Int), .int .i64 ok] 64)) _ rfl)
        by_cases hin : 0 ≤ ok ∧ ok < (n : Int)
        · rw [decide_eq_true hin] at HH
          have HG1 : Hid (∀ j, j < k + 1 → c j ≤ t ∧ 0 ≤ o j ∧ o j < (n : Int)) := Lib.hid (fun j hj => by
            rcases (show j < k ∨ j = k by omega) with h | rfl
            · exact HG.out j h
            · rw [HE.out.1, HE.out.2]
              exact ⟨hle, hin⟩)
          clear hin
          go_wp2_with fail
          refine HH.out.mono ?_
          rintro e w1 ⟨rfl, hb1⟩
          have HT2 := Lib.hid (HT1.out.below hb1 HT1.out.lt)
          have HB2 := Lib.hid (HB1.out.trans (hb1.mono HB1.out.size))
          clear HH hb1
          go_wp2_with fail
          go_roundw
          case rel => exact ⟨k + 1, by go_num, by omega, HG1, HT2, HB2⟩
          case measure => simp [intOf]; omega
        · rw [decide_eq_false hin] at HH
          have HF : Hid (b = false) := Lib.hid (by
            cases hbb : b with
            | false => rfl
            | true =>
              have h1 := (HB.out.1 hbb).1 k hkn
              rw [HE.out.1, HE.out.2] at h1
              exact absurd h1.2 hin)
          clear hin
          go_wp2_with fail
          refine HH.out.mono ?_
          rintro e w1 ⟨rfl, hb1⟩
          have HB2 := Lib.hid (HB1.out.trans (hb1.mono HB1.out.size))
          clear HH hb1
          go_wp2_with fail
          go_ret
          exact ⟨by rw [HF.out]; rfl, HB2.out⟩
      · have hle2 : (t : Int) < (ck : Int) := by omega
        have HF : Hid (b = false) := Lib.hid (by
          cases hbb : b with
          | false => rfl
          | true =>
            have h1 := (HB.out.1 hbb).1 k hkn
            rw [HE.out.1] at h1
            exact absurd h1.1 hle)
        go_wp2_with fail
        go_ret
        exact ⟨by rw [HF.out]; rfl, HB1.out⟩
    · obtain rfl : k = n := by omega
      have t0 := HT.out.cell 0
      have t1 := HT.out.cell 1
      have HF : Hid (b = (decide (0 < t) && decide (0 < k))) := Lib.hid (by
        rw [Bool.eq_iff_iff, HB.out, Bool.and_eq_true, decide_eq_true_iff, decide_eq_true_iff]
        exact ⟨fun h => h.2, fun h => ⟨HG.out, h⟩⟩)
      by_cases ht0 : 0 < t
      · have ht1 : (0 : Int) < (t : Int) := by omega
        go_wp2_with fail
        go_ret
        exact ⟨by rw [HF.out]; simp [ht0], HBR.out⟩
      · have ht1 : ¬ (0 : Int) < (t : Int) := by omega
        go_wp2_with fail
        go_ret
        exact ⟨by rw [HF.out]; simp [ht0], HBR.out⟩

set_option maxHeartbeats 1000000 in
theorem numbers12_any (t n cc : Nat) (A : Option Addr) (c : Nat → Nat) (o : Nat → Int) (w : World) (h : Cq w w.heap.size A n c o) (ht : t < 18446744073709551616) (hc : ∀ j, j < n → c j < 18446744073709551616) (hn : n ≤ 1000000)
    (b : Bool) (hb : b = true ↔ Rt12 t n c o) :
    Calls Try.prog 17 #[.agg #[.int .u64 (t : Int), .slice A n cc]] w fun e w' => e = .returned (.tuple #[.int .u64 ((if b then fw (n * t) else 0 : Nat) : Int), .bool (b && fb (n * t))]) ∧ Below w.heap.size w w' := by
  have hk := tab_new w t n cc A
  have t0 := hk.cell 0
  have t1 := hk.cell 1
  have HK := Lib.hid hk
  have hb0 := b1' w (.cells #[.int .u64 (t : Int), .slice A n cc] 27)
  have HB0 := Lib.hid hb0
  have HR := Lib.hid (right12_any t n cc A c o _ (h.step hb0) ht hc hn b hb)
  clear hk h hc hb hb0
  go_enter Try.func17, Try.ntmps17
  go_wp2_with fail
  refine HR.out.mono ?_
  rintro e w1 ⟨rfl, hb1⟩
  have hk1 := HK.out.below hb1 HK.out.lt
  have t0 := hk1.cell 0
  have t1 := hk1.cell 1
  have HB1 := Lib.hid (HB0.out.trans (hb1.mono HB0.out.size))
  clear HR hk1 hb1 HK
  cases b with
  | false =>
    go_wp2_with fail
    go_ret2
    exact ⟨rfl, HB1.out⟩
  | true =>
    have HM := Lib.hid (mulw_any n t w1 (by omega) ht)
    go_wp2_with fail
    refine HM.out.mono ?_
    rintro e w2 ⟨rfl, hb2⟩
    clear HM
    go_wp2_with fail
    go_ret2
    exact ⟨rfl, HB1.out.trans (hb2.mono HB1.out.size)⟩

/-- A wide number by its two words. -/
def hi12 (x : Nat) : Nat := x / 18446744073709551616
def lo12 (x : Nat) : Nat := x % 18446744073709551616
theorem hl12 (x : Nat) : x = hi12 x * 18446744073709551616 + lo12 x ∧ lo12 x < 18446744073709551616 := by
  unfold hi12 lo12
  omega
theorem hl12_of {x H L : Nat} (h : x = H * 18446744073709551616 + L) (hL : L < 18446744073709551616) : hi12 x = H ∧ lo12 x = L := by
  unfold hi12 lo12
  omega
def wv (x : Nat) : Value := .agg #[.int .u64 ((hi12 x : Nat) : Int), .int .u64 ((lo12 x : Nat) : Int)]

theorem add64_run12 (x y c : Nat) (hx : x < 18446744073709551616) (hy : y < 18446744073709551616) (hc : c ≤ 1) : ∃ s k : Nat,
    (∀ w, (callFunc 38 #[.int .u64 (x : Int), .int .u64 (y : Int), .int .u64 (c : Int)]).run Try.prog w = .ok (.value (.tuple #[.int .u64 (s : Int), .int .u64 (k : Int)])) w) ∧
      x + y + c = k * 18446744073709551616 + s ∧ s < 18446744073709551616 ∧ k ≤ 1 := by
  refine ⟨(x + y + c) % 18446744073709551616, (x + y + c) / 18446744073709551616, fun w => ?_, by omega, by omega, by omega⟩
  rw [run_callFunc_extern Try.func38 (by kernel_rfl) (by kernel_rfl) (by kernel_rfl) (e := add64Entry) (by kernel_rfl), run_add64 x y c (by omega) (by omega) (by omega) (by omega)]
  simp only [Result.andThen]
  congr 5 <;> omega
theorem below2_12 (w : World) (a b : Obj) : Below w.heap.size w ((w.alloc a).alloc b) := ((Below.refl _ _).alloc (Nat.le_refl _) _).alloc (by simp) _
theorem below3_12 (w : World) (a b c : Obj) : Below w.heap.size w (((w.alloc a).alloc b).alloc c) := (((Below.refl _ _).alloc (Nat.le_refl _) _).alloc (by simp) _).alloc (by simp; omega) _

set_option maxHeartbeats 800000 in
theorem sumw12_any (H1 L1 H2 L2 : Nat) (w : World) (h1 : H1 < 18446744073709551616) (h2 : L1 < 18446744073709551616) (h3 : H2 < 18446744073709551616) (h4 : L2 < 18446744073709551616)
    (hf : H1 * 18446744073709551616 + L1 + (H2 * 18446744073709551616 + L2) < 340282366920938463463374607431768211456) :
    Calls Try.prog 37 #[.agg #[.int .u64 (H1 : Int), .int .u64 (L1 : Int)], .agg #[.int .u64 (H2 : Int), .int .u64 (L2 : Int)]] w
      fun e w' => ∃ H L : Nat, e = .returned (.tuple #[.agg #[.int .u64 (H : Int), .int .u64 (L : Int)], .bool true]) ∧ H < 18446744073709551616 ∧ L < 18446744073709551616 ∧ H1 * 18446744073709551616 + L1 + (H2 * 18446744073709551616 + L2) = H * 18446744073709551616 + L ∧ Below w.heap.size w w' := by
  obtain ⟨s, k, hr, hs, hs1, hk⟩ := add64_run12 L1 L2 0 h2 h4 (by omega)
  obtain ⟨t, c, hr2, ht, ht1, hc⟩ := add64_run12 H1 H2 k h1 h3 hk
  rw [Int.natCast_zero] at hr
  have HS := Lib.hid hs
  have HT := Lib.hid ht
  obtain rfl : c = 0 := by omega
  clear hs ht
  have hc0 : (((0 : Nat) : Int) != 0) = false := by simp
  go_enter Try.func37, Try.ntmps37
  go_wp2_with fail
  exact bodyPost_ret (v := .tuple #[.agg #[.int .u64 (t : Int), .int .u64 (s : Int)], .bool true]) (by simp [results, Try.results37, go_sem]) rfl
    ⟨t, s, rfl, ht1, hs1, (by have := HS.out; have := HT.out; omega), below3_12 _ _ _ _⟩

set_option maxHeartbeats 2000000 in
theorem plus12_any (x y : Nat) (w : World) (hx : x < 170141183460469231731687303715884105728) (hy : y < 18446744073709551616) :
    Calls Try.prog 35 #[wv x, .int .u64 (y : Int)] w fun e w' => e = .returned (wv (x + y)) ∧ Below w.heap.size w w' := by
  unfold wv
  have hxl := hl12 x
  obtain ⟨H, hH⟩ : ∃ H, hi12 x = H := ⟨_, rfl⟩
  obtain ⟨L, hL⟩ : ∃ L, lo12 x = L := ⟨_, rfl⟩
  rw [hH, hL] at hxl
  rw [hH, hL]
  have HX : Hid (x = H * 18446744073709551616 + L) := Lib.hid (by omega)
  have HHL : Hid (H < 18446744073709551616 ∧ L < 18446744073709551616) := Lib.hid (by omega)
  have HS := Lib.hid (fun W => sumw12_any H L 0 y W (by omega) (by omega) (by omega) hy (by omega))
  have hb2 := below2_12 w (.cells #[.int .u64 (H : Int), .int .u64 (L : Int)] 50) (.cells #[.int .u64 0, .int .u64 0] 50)
  clear hH hL hx hxl
  go_enter Try.func35, Try.ntmps35
  go_wp2_with fail
  refine (HS.out _).mono ?_
  rintro e w1 ⟨H2, L2, rfl, hH2, hL2, hs, hb1⟩
  have HBW := Lib.hid (hb2.trans (hb1.mono hb2.size))
  have hres0 := Blk.new (w.alloc (.cells #[.int .u64 (H : Int), .int .u64 (L : Int)] 50)) 50 #[.int .u64 0, .int .u64 0]
  rw [show (w.alloc (.cells #[.int .u64 (H : Int), .int .u64 (L : Int)] 50)).heap.size = w.heap.size + 1 by simp] at hres0
  have hres1 := (hres0.below hb1 (by simp)).alloc (.cells #[.int .u64 (H2 : Int), .int .u64 (L2 : Int)] 50)
  have r0 := hres1.cell 0
  have r1 := hres1.cell 1
  have f0 := hres1.frozen 0
  have f1 := hres1.frozen 1
  have hset := (hres1.set_ 0 (.int .u64 (H2 : Int))).set_ 1 (.int .u64 (L2 : Int))
  have s0 := hset.cell 0
  have s1 := hset.cell 1
  have g0 := hset.frozen 0
  have g1 := hset.frozen 1
  have hv : wv (x + y) = .agg #[.int .u64 (H2 : Int), .int .u64 (L2 : Int)] := by
    have := HX.out
    unfold wv
    obtain ⟨e1, e2⟩ := hl12_of (x := x + y) (H := H2) (L := L2) (by omega) hL2
    rw [e1, e2]
  have HV := Lib.hid hv
  have HW : Hid (Below w.heap.size w (((w1.alloc (.cells #[.int .u64 (H2 : Int), .int .u64 (L2 : Int)] 50)).setCell ⟨w.heap.size + 1, 0, none⟩ (.int .u64 (H2 : Int))).setCell ⟨w.heap.size + 1, 1, none⟩ (.int .u64 (L2 : Int)))) :=
    Lib.hid (((HBW.out.alloc HBW.out.size _).setCell (by show w.heap.size ≤ w.heap.size + 1; omega) _).setCell (by show w.heap.size ≤ w.heap.size + 1; omega) _)
  clear hset hres1 hres0 HS hs hv hb1 hb2
  go_wp2_with fail
  refine bodyPost_ret (v := .agg #[.int .u64 (H2 : Int), .int .u64 (L2 : Int)]) (by simp [results, Try.results35, go_sem, s0, s1, g0, g1]) rfl ⟨?_, HW.out⟩
  have := HV.out
  unfold wv at this
  rw [this]
end Go.Proofs.Ytcanahjilfnijaa
