/-
  Weights laid side by side: package span's Spans: a slice of spans of the call's own.
-/
import Derived.Test.YtpicidfdcaoffaaSpanA
import Derived.Laws.MakeOwn
namespace Go.Proofs.Ytpicidfdcaoffaa
open Go.RowKit
set_option maxRecDepth 100000

/-- Block g holds the spans of the first k weights, one behind the other. -/
def SpR (w : World) (g k : Nat) (xs : List Nat) : Prop := g < w.heap.size ∧ ∀ j, j < k → w.cell? ⟨g, j * 2, none⟩ = some (.int .u64 ((up9 xs j : Nat) : Int)) ∧ w.cell? ⟨g, j * 2 + 1, none⟩ = some (.int .u64 ((nth xs j : Nat) : Int))
theorem SpR.below {w w' : World} {g k : Nat} {xs : List Nat} (h : SpR w g k xs) (hb : Below w.heap.size w w') : SpR w' g k xs :=
  ⟨Nat.lt_of_lt_of_le h.1 hb.size, fun j hj => ⟨(hb.cell (p := ⟨g, j * 2, none⟩) h.1).trans (h.2 j hj).1, (hb.cell (p := ⟨g, j * 2 + 1, none⟩) h.1).trans (h.2 j hj).2⟩⟩

/-- The row that is written: block g, n spans in all, the first k of them the document's. -/
def SpB (w : World) (g n k : Nat) (xs : List Nat) : Prop := ∃ cs : Array Value, Blk w g 34 cs ∧ cs.size = n * 2 ∧ ∀ j, j < k → cs[j * 2]? = some (.int .u64 ((up9 xs j : Nat) : Int)) ∧ cs[j * 2 + 1]? = some (.int .u64 ((nth xs j : Nat) : Int))
theorem SpB.lt {w : World} {g n k : Nat} {xs : List Nat} (h : SpB w g n k xs) : g < w.heap.size := by
  obtain ⟨cs, h, _⟩ := h
  exact h.lt
theorem SpB.below {w w' : World} {g n k : Nat} {xs : List Nat} (h : SpB w g n k xs) (hb : Below w.heap.size w w') : SpB w' g n k xs := by
  obtain ⟨cs, h1, h2⟩ := h
  exact ⟨cs, h1.below hb h1.lt, h2⟩
theorem SpB.far {w : World} {g n k : Nat} {xs : List Nat} (h : SpB w g n k xs) {p : Addr} (hp : g ≠ p.block) (u : Value) : SpB (w.setCell p u) g n k xs := by
  obtain ⟨cs, h1, h2⟩ := h
  exact ⟨cs, h1.far hp u, h2⟩
theorem SpB.cells {w : World} {g n k : Nat} {xs : List Nat} (h : SpB w g n k xs) (hk : k < n) : ∃ z0 z1, w.cell? ⟨g, k * 2, none⟩ = some z0 ∧ w.cell? ⟨g, k * 2 + 1, none⟩ = some z1 ∧ (∀ i, w.frozen? ⟨g, i, none⟩ = false) := by
  obtain ⟨cs, h1, h2, _⟩ := h
  refine ⟨cs[k * 2], cs[k * 2 + 1], ?_, ?_, fun i => h1.frozen i⟩
  · rw [h1.cell]; exact Array.getElem?_eq_getElem (by omega)
  · rw [h1.cell]; exact Array.getElem?_eq_getElem (by omega)
theorem SpB.put {w : World} {g n k : Nat} {xs : List Nat} (h : SpB w g n k xs) (hk : k < n) {s x : Nat} (hs : up9 xs k = s) (hx : nth xs k = x) :
    SpB ((w.setCell ⟨g, k * 2, none⟩ (.int .u64 (s : Int))).setCell ⟨g, k * 2 + 1, none⟩ (.int .u64 (x : Int))) g n (k + 1) xs := by
  subst hs hx
  obtain ⟨cs, h1, h2, h3⟩ := h
  refine ⟨_, (h1.set_ _ _).set_ _ _, by simp [h2], fun j hj => ?_⟩
  rcases (show j < k ∨ j = k by omega) with h5 | rfl
  · obtain ⟨a1, a2⟩ := h3 j h5
    constructor
    · rw [Array.getElem?_setIfInBounds_ne (by omega), Array.getElem?_setIfInBounds_ne (by omega), a1]
    · rw [Array.getElem?_setIfInBounds_ne (by omega), Array.getElem?_setIfInBounds_ne (by omega), a2]
  · constructor
    · rw [Array.getElem?_setIfInBounds_ne (by omega), Array.getElem?_setIfInBounds_self_of_lt (by omega)]
    · rw [Array.getElem?_setIfInBounds_self_of_lt (by simp; omega)]
theorem SpB.done {w : World} {g n : Nat} {xs : List Nat} (h : SpB w g n n xs) : SpR w g n xs := by
  obtain ⟨cs, h1, h2, h3⟩ := h
  refine ⟨h1.lt, fun j hj => ⟨?_, ?_⟩⟩
  · rw [h1.cell]; exact (h3 j hj).1
  · rw [h1.cell]; exact (h3 j hj).2

theorem info_span9 : (Try.prog.info? 34).map (fun i => (i.zero, i.size, i.bytes)) = some (some (.agg #[.int .u64 0, .int .u64 0]), 2, 16) := by kernel_rfl
theorem make_span9 (n : Nat) (hn : n ≤ 1000000) (W : World) : (Instr.makeSlice 27 (.int .i64 (n : Int)) (.int .i64 (n : Int))).run Try.prog W =
    .ok (.slice (some ⟨W.heap.size, 0, none⟩) n n) (W.alloc (.cells (madeCells #[.int .u64 0, .int .u64 0] (n * 2)) 34)) := by
  obtain ⟨i, hi, hzz⟩ := Option.map_eq_some_iff.1 info_span9
  simp only [Prod.mk.injEq] at hzz
  obtain ⟨hz, hs, hb⟩ := hzz
  have hr := run_make (P := Try.prog) W 27 34 i _ Try.underlying27 hi hz .i64 .i64 n n (by omega) (Int.le_refl _) (by rw [hb]; omega) (by omega)
  simp only [Int.toNat_natCast, hs, Value.cells] at hr
  exact hr

set_option maxHeartbeats 2000000 in
theorem spans_no (A : Option Addr) (xs : List Nat) (n c : Nat) (w : World) (hl : xs.length = n) (hr : Rq w w.heap.size A xs) (hx : ∀ x ∈ xs, x < 18446744073709551616) (hn : n ≤ 1000000) (hf : 18446744073709551616 ≤ up9 xs n) :
    Calls Try.prog 8 #[.slice A n c] w fun e w' => e = .returned (.tuple #[.slice none 0 0, .bool false]) ∧ w = w' := by
  have HT := Lib.hid (total_any A xs n c w hl hr hx hn)
  rw [fw_out hf, fb_out hf] at HT
  clear hl hx hr hf
  go_enter Try.func8, Try.ntmps8
  go_wp2_with fail
  refine HT.out.mono ?_
  rintro e w1 ⟨rfl, rfl⟩
  clear HT
  go_wp2_with fail
  go_ret2
  exact ⟨rfl, rfl⟩

set_option maxHeartbeats 4000000 in
theorem spans_yes (A : Option Addr) (xs : List Nat) (n c : Nat) (w : World) (hl : xs.length = n) (hr : Rq w w.heap.size A xs) (hx : ∀ x ∈ xs, x < 18446744073709551616) (hn : n ≤ 1000000) (hf : up9 xs n < 18446744073709551616) :
    Calls Try.prog 8 #[.slice A n c] w fun e w' => ∃ g, e = .returned (.tuple #[.slice (some ⟨g, 0, none⟩) n n, .bool true]) ∧ w.heap.size ≤ g ∧ SpR w' g n xs ∧ Below w.heap.size w w' := by
  have HL := Lib.hid hl
  have HX := Lib.hid hx
  have HR := Lib.hid hr
  have HT := Lib.hid (total_any A xs n c w hl hr hx hn)
  rw [fw_in hf, fb_in hf] at HT
  have HF := Lib.hid hf
  have hmk := make_span9 n hn
  have hb0 := (b1' w (.cells (madeCells #[.int .u64 0, .int .u64 0] (n * 2)) 34)).alloc (by simp) (.cells #[.int .u64 0, .int .u64 0] 34)
  have hk0 := Blk.new (w.alloc (.cells (madeCells #[.int .u64 0, .int .u64 0] (n * 2)) 34)) 34 #[.int .u64 0, .int .u64 0]
  rw [show (w.alloc (.cells (madeCells #[.int .u64 0, .int .u64 0] (n * 2)) 34)).heap.size = w.heap.size + 1 by simp] at hk0
  have ho0 : SpB ((w.alloc (.cells (madeCells #[.int .u64 0, .int .u64 0] (n * 2)) 34)).alloc (.cells #[.int .u64 0, .int .u64 0] 34)) w.heap.size n 0 xs :=
    ⟨_, (Blk.new w 34 (madeCells #[.int .u64 0, .int .u64 0] (n * 2))).alloc _, size_madeCells _ _, fun j hj => by omega⟩
  have HB0 := Lib.hid hb0
  have HK0 := Lib.hid hk0
  have HO0 := Lib.hid ho0
  clear hl hx hr hf hb0 hk0 ho0
  go_enter Try.func8, Try.ntmps8
  go_wp2_with fail
  refine HT.out.mono ?_
  rintro e w1 ⟨rfl, rfl⟩
  clear HT
  go_wp2_with fail
  clear hmk
  go_loopw [23] (fun i wr => ∃ k f m : Nat, i = .int .i64 (k : Int) ∧ k ≤ n ∧ Hid (f + m = up9 xs k) ∧ Hid (Blk wr (w.heap.size + 1) 34 #[.int .u64 (f : Int), .int .u64 (m : Int)]) ∧ Hid (SpB wr w.heap.size n k xs) ∧ Hid (Below w.heap.size w wr)) (fun i _ => n - (intOf i).toNat)
  case atStart => exact ⟨0, 0, 0, rfl, by omega, Lib.hid rfl, HK0, HO0, HB0⟩
  case round =>
    obtain ⟨k, f, m, rfl, hk, HS, HK, HO, HB⟩ := hrel
    by_cases ht : k < n
    · obtain ⟨a, o, hA, _, hc⟩ := Rq.at_ (Rv.below HR.out HB.out (Nat.le_refl _)) (show k < xs.length by have := HL.out; omega)
      subst hA
      obtain ⟨x, hxk⟩ : ∃ x, nth xs k = x := ⟨_, rfl⟩
      obtain ⟨s, hs⟩ : ∃ s, f + m = s := ⟨_, rfl⟩
      have hx64 : x < 18446744073709551616 := by rw [← hxk]; exact nth_lt9 HX.out k
      have hus : up9 xs k = s := by rw [← HS.out, hs]
      have hsx : up9 xs (k + 1) = s + x := by rw [up9_succ, hus, hxk]
      have hsx64 : s + x < 18446744073709551616 := by
        have := up9_mono xs (show k + 1 ≤ n by omega)
        have h2 := HF.out
        omega
      rw [hxk] at hc
      have hi0 : (0 : Int) ≤ (k : Int) := by omega
      have hi1 : (k : Int) < (n : Int) := by omega
      have HBH := Lib.hid (behind9_any f m x wr (by omega))
      rw [hs] at HBH
      have c0 : wr.cell? ⟨w.heap.size + 1, 0, none⟩ = some (.int .u64 (f : Int)) := HK.out.cell 0
      have c1 : wr.cell? ⟨w.heap.size + 1, 1, none⟩ = some (.int .u64 (m : Int)) := HK.out.cell 1
      have HU := Lib.hid (And.intro hxk (And.intro hus hsx))
      clear hxk hus hsx hs
      go_wp2_with fail
      refine HBH.out.mono ?_
      rintro e w1 ⟨rfl, hb1⟩
      have hk1 := HK.out.below hb1 HK.out.lt
      have d0 : w1.cell? ⟨w.heap.size + 1, 0, none⟩ = some (.int .u64 (f : Int)) := hk1.cell 0
      have d1 : w1.cell? ⟨w.heap.size + 1, 1, none⟩ = some (.int .u64 (m : Int)) := hk1.cell 1
      have e0 := hk1.frozen 0
      have e1 := hk1.frozen 1
      have hk2 := (hk1.set_ 0 (.int .u64 (s : Int))).set_ 1 (.int .u64 (x : Int))
      have HO2 := Lib.hid (((HO.out.below hb1).far (p := ⟨w.heap.size + 1, 0, none⟩) (by show w.heap.size ≠ w.heap.size + 1; omega) (.int .u64 (s : Int))).far (p := ⟨w.heap.size + 1, 1, none⟩) (by show w.heap.size ≠ w.heap.size + 1; omega) (.int .u64 (x : Int)))
      have HB2 : Hid (Below w.heap.size w ((w1.setCell ⟨w.heap.size + 1, 0, none⟩ (.int .u64 (s : Int))).setCell ⟨w.heap.size + 1, 1, none⟩ (.int .u64 (x : Int)))) :=
        Lib.hid (((HB.out.trans (hb1.mono HB.out.size)).setCell (by show w.heap.size ≤ w.heap.size + 1; omega) _).setCell (by show w.heap.size ≤ w.heap.size + 1; omega) _)
      have hk3 : Blk ((w1.setCell ⟨w.heap.size + 1, 0, none⟩ (.int .u64 (s : Int))).setCell ⟨w.heap.size + 1, 1, none⟩ (.int .u64 (x : Int))) (w.heap.size + 1) 34 #[.int .u64 (s : Int), .int .u64 (x : Int)] := by simpa using hk2
      obtain ⟨w2, hw2⟩ : ∃ w2, (w1.setCell ⟨w.heap.size + 1, 0, none⟩ (.int .u64 (s : Int))).setCell ⟨w.heap.size + 1, 1, none⟩ (.int .u64 (x : Int)) = w2 := ⟨_, rfl⟩
      rw [hw2] at HO2 HB2 hk3
      have g0 : w2.cell? ⟨w.heap.size + 1, 0, none⟩ = some (.int .u64 (s : Int)) := hk3.cell 0
      have g1 : w2.cell? ⟨w.heap.size + 1, 1, none⟩ = some (.int .u64 (x : Int)) := hk3.cell 1
      obtain ⟨z0, z1, y0, y1, yf⟩ := HO2.out.cells ht
      have yf0 := yf (k * 2)
      have yf1 := yf (k * 2 + 1)
      have HK3 := Lib.hid hk3
      clear hk1 hk2 hb1 HBH HK HB HO yf hk3
      go_wp2_with fail
      go_roundw
      case rel => exact ⟨k + 1, s, x, by go_num, by omega, Lib.hid HU.out.2.2.symm, Lib.hid ((HK3.out.far (by show w.heap.size + 1 ≠ w.heap.size; omega) _).far (by show w.heap.size + 1 ≠ w.heap.size; omega) _), Lib.hid (HO2.out.put ht HU.out.2.1 HU.out.1), Lib.hid ((HB2.out.setCell (Nat.le_refl _) _).setCell (Nat.le_refl _) _)⟩
      case measure => simp [intOf]; omega
    · obtain rfl : k = n := by omega
      go_wp2_with fail
      go_ret2
      exact ⟨_, rfl, Nat.le_refl _, HO.out.done, HB.out⟩
end Go.Proofs.Ytpicidfdcaoffaa
