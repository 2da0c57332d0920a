/-
  Weights laid side by side: package span's Pick and Shift.
-/
import Derived.Test.YtpicidfdcaoffaaSpanA
namespace Go.Proofs.Ytpicidfdcaoffaa
open Go.RowKit
set_option maxRecDepth 100000

/-- What Pick answers. -/
def Pb9 (xs : List Nat) (r : Nat) (v : Int) (b : Bool) : Prop :=
  (∃ p, up9 xs xs.length < 18446744073709551616 ∧ Pk9 xs r p ∧ v = (p : Int) ∧ b = true) ∨ ((18446744073709551616 ≤ up9 xs xs.length ∨ up9 xs xs.length ≤ r) ∧ v = -1 ∧ b = false)
theorem Pb9.any (xs : List Nat) (r : Nat) : ∃ v b, Pb9 xs r v b := by
  rcases Nat.lt_or_ge (up9 xs xs.length) 18446744073709551616 with h | h
  · rcases Nat.lt_or_ge r (up9 xs xs.length) with h2 | h2
    · obtain ⟨p, hp⟩ := Pk9.any h2
      exact ⟨p, true, .inl ⟨p, h, hp, rfl, rfl⟩⟩
    · exact ⟨-1, false, .inr ⟨.inr h2, rfl, rfl⟩⟩
  · exact ⟨-1, false, .inr ⟨.inl h, rfl, rfl⟩⟩
theorem Pb9.none {xs : List Nat} {r : Nat} {v : Int} {b : Bool} (h : Pb9 xs r v b) (hn : 18446744073709551616 ≤ up9 xs xs.length) : v = -1 ∧ b = false := by
  rcases h with ⟨p, h1, _⟩ | ⟨_, h⟩
  · omega
  · exact h
theorem Pb9.found {xs : List Nat} {r : Nat} {v : Int} {b : Bool} (h : Pb9 xs r v b) {k : Nat} (hf : up9 xs xs.length < 18446744073709551616) (hk : Pk9 xs r k) : v = (k : Int) ∧ b = true := by
  rcases h with ⟨p, h1, h2, h3, h4⟩ | ⟨h1, _⟩
  · rw [h2.one hk] at h3
    exact ⟨h3, h4⟩
  · have := hk.below
    omega
theorem Pb9.nobody {xs : List Nat} {r : Nat} {v : Int} {b : Bool} (h : Pb9 xs r v b) (hk : ∀ j, j < xs.length → ¬ (up9 xs j ≤ r ∧ r - up9 xs j < nth xs j)) : v = -1 ∧ b = false := by
  rcases h with ⟨p, _, ⟨h1, h2, h3⟩, _⟩ | ⟨_, h⟩
  · rw [up9_succ] at h3
    exact absurd ⟨h2, by omega⟩ (hk p h1)
  · exact h

set_option maxHeartbeats 2000000 in
theorem pick_any (A : Option Addr) (xs : List Nat) (n c r : Nat) (v : Int) (b : Bool) (w : World) (hl : xs.length = n) (hr : Rq w w.heap.size A xs) (hx : ∀ x ∈ xs, x < 18446744073709551616) (hn : n ≤ 1000000) (hr64 : r < 18446744073709551616) (hp : Pb9 xs r v b) :
    Calls Try.prog 9 #[.slice A n c, .int .u64 (r : Int)] w fun e w' => e = .returned (.tuple #[.int .i64 v, .bool b]) ∧ Below w.heap.size w w' := by
  have HL := Lib.hid hl
  have HX := Lib.hid hx
  have HP := Lib.hid hp
  have HR := Lib.hid hr
  have HT := Lib.hid (total_any A xs n c w hl hr hx hn)
  rcases Nat.lt_or_ge (up9 xs n) 18446744073709551616 with hf | hf
  · rw [fw_in hf, fb_in hf] at HT
    have HF := Lib.hid hf
    have hb0 := b1' w (.cells #[.int .u64 0, .int .u64 0] 34)
    have hk0 := Blk.new w 34 #[.int .u64 0, .int .u64 0]
    have HB0 := Lib.hid hb0
    have HK0 := Lib.hid hk0
    clear hl hx hp hr hf hb0 hk0
    go_enter Try.func9, Try.ntmps9
    go_wp2_with fail
    refine HT.out.mono ?_
    rintro e w1 ⟨rfl, rfl⟩
    clear HT
    go_wp2_with fail
    go_loopw [21] (fun i wr => ∃ k f m : Nat, i = .int .i64 (k : Int) ∧ k ≤ n ∧ Hid (f + m = up9 xs k) ∧ Hid (Blk wr w.heap.size 34 #[.int .u64 (f : Int), .int .u64 (m : Int)]) ∧ Hid (Below w.heap.size w wr) ∧ Hid (∀ j, j < k → ¬ (up9 xs j ≤ r ∧ r - up9 xs j < nth xs j))) (fun i _ => n - (intOf i).toNat)
    case atStart => exact ⟨0, 0, 0, rfl, by omega, Lib.hid rfl, HK0, HB0, Lib.hid (fun j h => by omega)⟩
    case round =>
      obtain ⟨k, f, m, rfl, hk, HS, HK, HB, HJ⟩ := hrel
      by_cases ht : k < n
      · obtain ⟨a, o, hA, _, hc⟩ := Rq.at_ (Rv.below HR.out HB.out (Nat.le_refl _)) (show k < xs.length by have := HL.out; omega)
        subst hA
        obtain ⟨x, hxk⟩ : ∃ x, nth xs k = x := ⟨_, rfl⟩
        obtain ⟨s, hs⟩ : ∃ s, f + m = s := ⟨_, rfl⟩
        have hx64 : x < 18446744073709551616 := by rw [← hxk]; exact nth_lt9 HX.out k
        have hus : up9 xs k = s := by rw [← HS.out, hs]
        have hsx : up9 xs (k + 1) = s + x := by rw [up9_succ, hus, hxk]
        have hsx64 : s + x < 18446744073709551616 := by
          have := up9_mono xs (show k + 1 ≤ n by omega)
          have h2 := HF.out
          omega
        rw [hxk] at hc
        have hi0 : (0 : Int) ≤ (k : Int) := by omega
        have hi1 : (k : Int) < (n : Int) := by omega
        have HBH := Lib.hid (behind9_any f m x wr (by omega))
        rw [hs] at HBH
        have c0 : wr.cell? ⟨w.heap.size, 0, none⟩ = some (.int .u64 (f : Int)) := HK.out.cell 0
        have c1 : wr.cell? ⟨w.heap.size, 1, none⟩ = some (.int .u64 (m : Int)) := HK.out.cell 1
        have HU := Lib.hid (And.intro hxk (And.intro hus hsx))
        clear hxk hus hsx hs
        go_wp2_with fail
        refine HBH.out.mono ?_
        rintro e w1 ⟨rfl, hb1⟩
        have hk1 := HK.out.below hb1 HK.out.lt
        have d0 : w1.cell? ⟨w.heap.size, 0, none⟩ = some (.int .u64 (f : Int)) := hk1.cell 0
        have d1 : w1.cell? ⟨w.heap.size, 1, none⟩ = some (.int .u64 (m : Int)) := hk1.cell 1
        have e0 := hk1.frozen 0
        have e1 := hk1.frozen 1
        have hk2 := (hk1.set_ 0 (.int .u64 (s : Int))).set_ 1 (.int .u64 (x : Int))
        have g0 : ((w1.setCell ⟨w.heap.size, 0, none⟩ (.int .u64 (s : Int))).setCell ⟨w.heap.size, 1, none⟩ (.int .u64 (x : Int))).cell? ⟨w.heap.size, 0, none⟩ = some (.int .u64 (s : Int)) := hk2.cell 0
        have g1 : ((w1.setCell ⟨w.heap.size, 0, none⟩ (.int .u64 (s : Int))).setCell ⟨w.heap.size, 1, none⟩ (.int .u64 (x : Int))).cell? ⟨w.heap.size, 1, none⟩ = some (.int .u64 (x : Int)) := hk2.cell 1
        have HB2 : Hid (Below w.heap.size w ((w1.setCell ⟨w.heap.size, 0, none⟩ (.int .u64 (s : Int))).setCell ⟨w.heap.size, 1, none⟩ (.int .u64 (x : Int)))) :=
          Lib.hid (((HB.out.trans (hb1.mono HB.out.size)).setCell (Nat.le_refl _) _).setCell (Nat.le_refl _) _)
        have HK2 : Hid (Blk ((w1.setCell ⟨w.heap.size, 0, none⟩ (.int .u64 (s : Int))).setCell ⟨w.heap.size, 1, none⟩ (.int .u64 (x : Int))) w.heap.size 34 #[.int .u64 (s : Int), .int .u64 (x : Int)]) := Lib.hid (by simpa using hk2)
        have HHS := Lib.hid (has9_any s x r ((w1.setCell ⟨w.heap.size, 0, none⟩ (.int .u64 (s : Int))).setCell ⟨w.heap.size, 1, none⟩ (.int .u64 (x : Int))) (by omega) (by omega) hr64)
        clear hk1 hk2 hb1 HBH HK HB
        by_cases hh : s ≤ r ∧ r - s < x
        · rw [decide_eq_true hh] at HHS
          obtain ⟨rfl, rfl⟩ := HP.out.found (k := k) (by rw [HL.out]; exact HF.out) ⟨by have := HL.out; omega, by rw [HU.out.2.1]; exact hh.1, by rw [HU.out.2.2]; omega⟩
          clear hh
          go_wp2_with fail
          refine HHS.out.mono ?_
          rintro e w2 ⟨rfl, hb2⟩
          have HB3 := Lib.hid (HB2.out.trans (hb2.mono HB2.out.size))
          clear HHS hb2
          go_wp2_with fail
          go_ret2
          exact ⟨rfl, HB3.out⟩
        · rw [decide_eq_false hh] at HHS
          have HNH := Lib.hid hh
          clear hh
          go_wp2_with fail
          refine HHS.out.mono ?_
          rintro e w2 ⟨rfl, hb2⟩
          have HB3 := Lib.hid (HB2.out.trans (hb2.mono HB2.out.size))
          have HK3 := Lib.hid (HK2.out.below hb2 HK2.out.lt)
          clear HHS hb2
          go_wp2_with fail
          go_roundw
          case rel => exact ⟨k + 1, s, x, by go_num, by omega, Lib.hid HU.out.2.2.symm, HK3, HB3, Lib.hid (fun j hj => by
            rcases (show j < k ∨ j = k by omega) with h5 | rfl
            · exact HJ.out j h5
            · rw [HU.out.2.1, HU.out.1]; exact HNH.out)⟩
          case measure => simp [intOf]; omega
      · obtain rfl : k = n := by omega
        obtain ⟨rfl, rfl⟩ := HP.out.nobody (fun j hj => HJ.out j (by have := HL.out; omega))
        go_wp2_with fail
        go_ret2
        exact ⟨rfl, HB.out⟩
  · rw [fw_out hf, fb_out hf] at HT
    obtain ⟨rfl, rfl⟩ := hp.none (by rw [hl]; exact hf)
    clear hl hx hp hr hf HP
    go_enter Try.func9, Try.ntmps9
    go_wp2_with fail
    refine HT.out.mono ?_
    rintro e w1 ⟨rfl, rfl⟩
    clear HT
    go_wp2_with fail
    go_ret2
    exact ⟨rfl, Below.refl _ _⟩

set_option maxHeartbeats 1000000 in
theorem shift_no (A : Option Addr) (xs : List Nat) (n c r : Nat) (i v : Int) (b : Bool) (w : World) (hl : xs.length = n) (hr : Rq w w.heap.size A xs) (hx : ∀ x ∈ xs, x < 18446744073709551616) (hn : n ≤ 1000000) (hr64 : r < 18446744073709551616) (hp : Pb9 xs r v b)
    (hi : b = false ∨ i < 0 ∨ (n : Int) ≤ i ∨ v = i) :
    Calls Try.prog 12 #[.slice A n c, .int .i64 i, .int .u64 (r : Int)] w fun e w' => e = .returned (.tuple #[.int .u64 0, .bool false]) ∧ Below w.heap.size w w' := by
  have HP := Lib.hid (pick_any A xs n c r v b w hl hr hx hn hr64 hp)
  clear hl hr hx hp
  have hcond : b = false ∨ (b = true ∧ i < 0) ∨ (b = true ∧ ¬ i < 0 ∧ (n : Int) ≤ i) ∨ (b = true ∧ ¬ i < 0 ∧ ¬ (n : Int) ≤ i ∧ v = i) := by
    cases b
    · exact .inl rfl
    · by_cases h1 : i < 0
      · exact .inr (.inl ⟨rfl, h1⟩)
      · by_cases h2 : (n : Int) ≤ i
        · exact .inr (.inr (.inl ⟨rfl, h1, h2⟩))
        · refine .inr (.inr (.inr ⟨rfl, h1, h2, ?_⟩))
          rcases hi with h | h | h | h
          · cases h
          · exact absurd h h1
          · exact absurd h h2
          · exact h
  clear hi
  rcases hcond with rfl | ⟨rfl, h1⟩ | ⟨rfl, h1, h2⟩ | ⟨rfl, h1, h2, rfl⟩
  all_goals
    go_enter Try.func12, Try.ntmps12
    go_wp2_with fail
    refine HP.out.mono ?_
    rintro e w1 ⟨rfl, hb1⟩
    clear HP
    go_wp2_with fail
    go_ret2
    exact ⟨rfl, hb1⟩

set_option maxHeartbeats 1000000 in
theorem shift_less (A : Option Addr) (xs : List Nat) (n c r : Nat) (i p : Nat) (w : World) (hl : xs.length = n) (hr : Rq w w.heap.size A xs) (hx : ∀ x ∈ xs, x < 18446744073709551616) (hn : n ≤ 1000000) (hr64 : r < 18446744073709551616) (hp : Pb9 xs r (p : Int) true)
    (hi : i < n) (hpi : p < i) :
    Calls Try.prog 12 #[.slice A n c, .int .i64 (i : Int), .int .u64 (r : Int)] w fun e w' => e = .returned (.tuple #[.int .u64 (r : Int), .bool true]) ∧ Below w.heap.size w w' := by
  have HP := Lib.hid (pick_any A xs n c r p true w hl hr hx hn hr64 hp)
  clear hl hr hx hp
  have h1 : ¬ (i : Int) < 0 := by omega
  have h2 : ¬ (n : Int) ≤ (i : Int) := by omega
  have h3 : ((p : Int) == (i : Int)) = false := by simp; omega
  have h4 : ¬ (p : Int) = (i : Int) := by omega
  have h5 : (p : Int) < (i : Int) := by omega
  have h6 : ¬ p = i := by omega
  go_enter Try.func12, Try.ntmps12
  go_wp2_with fail
  refine HP.out.mono ?_
  rintro e w1 ⟨rfl, hb1⟩
  clear HP
  go_wp2_with fail
  go_ret2
  exact ⟨rfl, hb1⟩

set_option maxHeartbeats 1000000 in
theorem shift_more (A : Option Addr) (xs : List Nat) (n c r : Nat) (i p : Nat) (w : World) (hl : xs.length = n) (hr : Rq w w.heap.size A xs) (hx : ∀ x ∈ xs, x < 18446744073709551616) (hn : n ≤ 1000000) (hr64 : r < 18446744073709551616) (hp : Pb9 xs r (p : Int) true)
    (hi : i < p) (hpn : p < n) (hxr : nth xs i ≤ r) :
    Calls Try.prog 12 #[.slice A n c, .int .i64 (i : Int), .int .u64 (r : Int)] w fun e w' => e = .returned (.tuple #[.int .u64 ((r - nth xs i : Nat) : Int), .bool true]) ∧ Below w.heap.size w w' := by
  have HP := Lib.hid (pick_any A xs n c r p true w hl hr hx hn hr64 hp)
  obtain ⟨a, o, hA, ha, hc⟩ := Rq.at_ hr (show i < xs.length by omega)
  obtain ⟨x, hxk⟩ : ∃ x, nth xs i = x := ⟨_, rfl⟩
  rw [hxk] at hc hxr ⊢
  have hw : IntKind.u64.wrap ((r : Int) - (x : Int)) = ((r - x : Nat) : Int) := by rw [IntKind.wrap_u64]; omega
  obtain ⟨d, hd⟩ : ∃ d, r - x = d := ⟨_, rfl⟩
  rw [hd] at hw ⊢
  clear hl hr hx hp hd hxk
  subst hA
  have h1 : ¬ (i : Int) < 0 := by omega
  have h1' : (0 : Int) ≤ (i : Int) := by omega
  have h2 : ¬ (n : Int) ≤ (i : Int) := by omega
  have h2' : (i : Int) < (n : Int) := by omega
  have h3 : ((p : Int) == (i : Int)) = false := by simp; omega
  have h4 : ¬ (p : Int) = (i : Int) := by omega
  have h5 : ¬ (p : Int) < (i : Int) := by omega
  have h6 : ¬ p = i := by omega
  go_enter Try.func12, Try.ntmps12
  go_wp2_with fail
  refine HP.out.mono ?_
  rintro e w1 ⟨rfl, hb1⟩
  have hc1 : w1.cell? ⟨a, o + i, none⟩ = some (.int .u64 (x : Int)) := (hb1.cell (p := ⟨a, o + i, none⟩) ha).trans hc
  clear HP hc
  go_wp2_with fail
  go_ret2
  exact ⟨by first | rfl | rw [hw], hb1⟩
end Go.Proofs.Ytpicidfdcaoffaa
