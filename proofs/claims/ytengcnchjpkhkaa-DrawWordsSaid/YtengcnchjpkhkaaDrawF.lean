/-
  Package draw of the program: From and Least; the document's From.
-/
import Derived.Test.YtengcnchjpkhkaaDrawR
import Derived.Test.YtengcnchjpkhkaaSrcC
namespace Go.Proofs.Ytengcnchjpkhkaa
open Go.RowKit
set_option maxRecDepth 100000

theorem grown8 {w w' : World} (h : Below w.heap.size w w') : w.grownBy w' none := ⟨h.os, h.tape, h.output, h.size, fun k hk _ => h.block k hk⟩

/-- The word at q is the first one from p on that is taken for t; none from p on is taken. -/
def First8 (t : Nat) (xs : List Nat) (p q : Nat) : Prop := p ≤ q ∧ q < xs.length ∧ nth xs q < endN t ∧ ∀ j, p ≤ j → j < q → ¬ nth xs j < endN t
def None8 (t : Nat) (xs : List Nat) (p : Nat) : Prop := ∀ j, p ≤ j → j < xs.length → ¬ nth xs j < endN t
theorem first_or_none (t : Nat) (xs : List Nat) (p : Nat) : (∃ q, First8 t xs p q) ∨ None8 t xs p := by
  by_cases h : ∃ j, p ≤ j ∧ j < xs.length ∧ nth xs j < endN t
  · refine .inl ?_
    obtain ⟨j, hj⟩ := h
    induction j using Nat.strongRecOn with
    | ind j ih =>
      by_cases h2 : ∃ i, p ≤ i ∧ i < j ∧ nth xs i < endN t
      · obtain ⟨i, h3, h4, h5⟩ := h2
        exact ih i h4 ⟨h3, by omega, h5⟩
      · exact ⟨j, hj.1, hj.2.1, hj.2.2, fun i h3 h4 h5 => h2 ⟨i, h3, h4, h5⟩⟩
  · exact .inr fun j h1 h2 h3 => h ⟨j, h1, h2, h3⟩
theorem First8.drop {t : Nat} {xs : List Nat} {p q : Nat} (h : First8 t xs p q) : First8 t (xs.drop p) 0 (q - p) := by
  obtain ⟨h1, h2, h3, h4⟩ := h
  refine ⟨by omega, by simp; omega, by rw [nth_drop, show p + (q - p) = q by omega]; exact h3, fun j _ h5 => ?_⟩
  rw [nth_drop]
  exact h4 _ (by omega) (by omega)
theorem None8.drop {t : Nat} {xs : List Nat} {p : Nat} (h : None8 t xs p) : None8 t (xs.drop p) 0 := by
  intro j _ h2
  rw [nth_drop]
  simp at h2
  exact h _ (by omega) (by omega)
theorem First8.pos {t : Nat} {xs : List Nat} {p q : Nat} (h : First8 t xs p q) : 0 < t := tell_pos h.2.2.1
theorem none_zero (xs : List Nat) (p : Nat) : None8 0 xs p := fun _ _ _ h => by rw [end_zero] at h; omega
theorem tell_no {t x : Nat} (h : ¬ x < endN t) : tellN t x = 0 := if_neg h

theorem from_nil (t : Nat) (w : World) : Calls Try.prog 18 #[.pointer none, .int .u64 (t : Int)] w fun e w' => e = .returned (.tuple #[.int .u64 0, .int .i64 2]) ∧ w' = w := by
  go_enter Try.func18, Try.ntmps18
  go_wp2_with fail
  go_ret2
  exact ⟨rfl, rfl⟩
theorem from_zero {L g : Nat} {b : Option Nat} {xs : List Nat} {p : Nat} (w : World) (h : Src w L g b xs p) : Calls Try.prog 18 #[.pointer (some ⟨g, 0, none⟩), .int .u64 0] w fun e w' => e = .returned (.tuple #[.int .u64 0, .int .i64 1]) ∧ w' = w := by
  go_enter Try.func18, Try.ntmps18
  go_wp2_with fail
  go_ret2
  exact ⟨rfl, rfl⟩

theorem nth_lt8 {xs : List Nat} (h : ∀ x ∈ xs, x < 18446744073709551616) (k : Nat) : nth xs k < 18446744073709551616 := by
  by_cases hk : k < xs.length
  · rw [nth_in hk]; exact h _ (List.getElem_mem hk)
  · rw [nth_out (by omega)]; omega

/-- The place that a source is at. -/
def placeOf (w : World) (g : Nat) : Nat := match w.cell? ⟨g, 1, none⟩ with
  | some (.int _ i) => i.toNat
  | _ => 0
theorem place_of {w : World} {L g : Nat} {b : Option Nat} {xs : List Nat} {p : Nat} (h : Src w L g b xs p) : placeOf w g = p := by
  obtain ⟨A, n, c, hb, _⟩ := h
  have c1 : w.cell? ⟨g, 1, none⟩ = some (.int .i64 (p : Int)) := hb.cell 1
  simp [placeOf, c1]

set_option maxHeartbeats 2000000 in
theorem from_yes {L g : Nat} {b : Option Nat} {xs : List Nat} {p q : Nat} (t : Nat) (w : World) (h : Src w L g b xs p) (ht : t < 18446744073709551616) (hx : ∀ x ∈ xs, x < 18446744073709551616) (hf : First8 t xs p q) :
    Calls Try.prog 18 #[.pointer (some ⟨g, 0, none⟩), .int .u64 (t : Int)] w fun e w' => e = .returned (.tuple #[.int .u64 ((tellN t (nth xs q) : Nat) : Int), .int .i64 0]) ∧ Src w' L g b xs (q + 1) ∧ w.grownBy w' (some g) := by
  have hp := hf.pos
  have hd0 : ((t : Int) == 0) = false := by simp; omega
  have hd1 : ¬ (t : Int) = 0 := by omega
  have hd2 : ¬ t = 0 := by omega
  have HA := Lib.hid (at_any w h)
  have HS := Lib.hid h
  have HF := Lib.hid hf
  have HX := Lib.hid hx
  obtain ⟨y, hy⟩ : ∃ y, tellN t (nth xs q) = y := ⟨_, rfl⟩
  rw [hy]
  have HY := Lib.hid hy
  clear hf hx h hy hp
  go_enter Try.func18, Try.ntmps18
  go_wp2_with fail
  refine HA.out.mono ?_
  rintro e w1 ⟨rfl, hg1⟩
  have HS1 := Lib.hid (HS.out.quiet hg1)
  have HG1 := Lib.hid (grown7_more (r := some g) hg1)
  clear HA HS hg1
  go_wp2_with fail
  go_loopw [7] (fun _ wr => ∃ k : Nat, p ≤ k ∧ k ≤ q ∧ Hid (Src wr L g b xs k) ∧ Hid (w.grownBy wr (some g))) (fun _ wr => q - placeOf wr g)
  case atStart => exact ⟨p, Nat.le_refl _, HF.out.1, HS1, HG1⟩
  case round =>
    obtain ⟨k, hpk, hkq, HK, HGK⟩ := hrel
    have HT := Lib.hid (take_ok _ HK.out (show k < xs.length by have := HF.out.2.1; omega))
    have HPL := Lib.hid (place_of HK.out)
    obtain ⟨x, hxk⟩ : ∃ x, nth xs k = x := ⟨_, rfl⟩
    have hx64 : x < 18446744073709551616 := by rw [← hxk]; exact nth_lt8 HX.out k
    have HXK := Lib.hid hxk
    rw [hxk] at HT
    clear hxk
    go_wp2_with fail
    refine HT.out.mono ?_
    rintro e w2 ⟨rfl, hs2, hg2⟩
    have HS2 := Lib.hid hs2
    have HG2 := Lib.hid (HGK.out.trans hg2)
    have HTL := Lib.hid (tell_any t x w2 ht hx64)
    clear hs2 hg2 HT HK HGK
    by_cases hk : k = q
    · subst hk
      have hyx : tellN t x = y := by rw [← HXK.out]; exact HY.out
      have hxe : x < endN t := by rw [← HXK.out]; exact HF.out.2.2.1
      rw [hyx, decide_eq_true hxe] at HTL
      clear hyx hxe
      go_wp2_with fail
      refine HTL.out.mono ?_
      rintro e w3 ⟨rfl, hb3⟩
      have HS3 := Lib.hid (HS2.out.below hb3)
      have HG3 := Lib.hid (HG2.out.trans (grown7_more (grown8 hb3)))
      clear HTL HS2 HG2 hb3
      go_wp2_with fail
      go_ret2
      exact ⟨rfl, HS3.out, HG3.out⟩
    · have hxe : ¬ x < endN t := by rw [← HXK.out]; exact HF.out.2.2.2 k hpk (by omega)
      rw [tell_no hxe, decide_eq_false hxe] at HTL
      clear hxe
      go_wp2_with fail
      refine HTL.out.mono ?_
      rintro e w3 ⟨rfl, hb3⟩
      have HS3 := Lib.hid (HS2.out.below hb3)
      have HG3 := Lib.hid (HG2.out.trans (grown7_more (grown8 hb3)))
      have HPL3 := Lib.hid (place_of HS3.out)
      clear HTL HS2 HG2 hb3
      go_wp2_with fail
      go_roundw
      case rel => exact ⟨k + 1, by omega, by omega, HS3, HG3⟩
      case measure => rw [HPL3.out, HPL.out]; omega

set_option maxHeartbeats 2000000 in
theorem from_none {L g : Nat} {b : Option Nat} {xs : List Nat} {p : Nat} (t : Nat) (w : World) (h : Src w L g b xs p) (ht : t < 18446744073709551616) (ht0 : 0 < t) (hx : ∀ x ∈ xs, x < 18446744073709551616) (hf : None8 t xs p) :
    Calls Try.prog 18 #[.pointer (some ⟨g, 0, none⟩), .int .u64 (t : Int)] w fun e w' => e = .returned (.tuple #[.int .u64 0, .int .i64 11]) ∧ Src w' L g b xs p ∧ w.grownBy w' (some g) := by
  have hd0 : ((t : Int) == 0) = false := by simp; omega
  have hd1 : ¬ (t : Int) = 0 := by omega
  have hd2 : ¬ t = 0 := by omega
  have HA := Lib.hid (at_any w h)
  have HS := Lib.hid h
  have HF := Lib.hid hf
  have HX := Lib.hid hx
  obtain ⟨m, hm⟩ : ∃ m, xs.length = m := ⟨_, rfl⟩
  have HM := Lib.hid hm
  have hpm : p ≤ m := by obtain ⟨A, n, c, _, _, _, hl, _, hp, _⟩ := h; omega
  clear hf hx h ht0 hm
  go_enter Try.func18, Try.ntmps18
  go_wp2_with fail
  refine HA.out.mono ?_
  rintro e w1 ⟨rfl, hg1⟩
  have HS1 := Lib.hid (HS.out.quiet hg1)
  have HG1 := Lib.hid (grown7_more (r := some g) hg1)
  clear HA HS hg1
  go_wp2_with fail
  go_loopw [7] (fun _ wr => ∃ k : Nat, p ≤ k ∧ k ≤ m ∧ Hid (Src wr L g b xs k) ∧ Hid (w.grownBy wr (some g))) (fun _ wr => m - placeOf wr g)
  case atStart => exact ⟨p, Nat.le_refl _, hpm, HS1, HG1⟩
  case round =>
    obtain ⟨k, hpk, hkm, HK, HGK⟩ := hrel
    by_cases hk : k = m
    · have HT := Lib.hid (take_no (L := L) (g := g) (b := b) (xs := xs) _ (by have := HK.out; rw [hk, ← HM.out] at this; exact this))
      clear hk
      go_wp2_with fail
      refine HT.out.mono ?_
      rintro e w2 ⟨rfl, hg2⟩
      have HSK := Lib.hid (seek_ok p w2 (HK.out.quiet hg2) (by rw [HM.out]; exact hpm))
      have HG2 := Lib.hid (HGK.out.trans (grown7_more hg2))
      clear HT hg2 HK HGK
      go_wp2_with fail
      refine HSK.out.mono ?_
      rintro e w3 ⟨rfl, hs3, hg3⟩
      have HS3 := Lib.hid hs3
      have HG3 := Lib.hid (HG2.out.trans hg3)
      clear HSK HG2 hs3 hg3
      go_wp2_with fail
      go_ret2
      exact ⟨rfl, HS3.out, HG3.out⟩
    · have HT := Lib.hid (take_ok _ HK.out (show k < xs.length by rw [HM.out]; omega))
      have HPL := Lib.hid (place_of HK.out)
      obtain ⟨x, hxk⟩ : ∃ x, nth xs k = x := ⟨_, rfl⟩
      have hx64 : x < 18446744073709551616 := by rw [← hxk]; exact nth_lt8 HX.out k
      have hxe : ¬ x < endN t := by rw [← hxk]; exact HF.out k hpk (by rw [HM.out]; omega)
      rw [hxk] at HT
      have HXE := Lib.hid hxe
      clear hxk hxe
      go_wp2_with fail
      refine HT.out.mono ?_
      rintro e w2 ⟨rfl, hs2, hg2⟩
      have HS2 := Lib.hid hs2
      have HG2 := Lib.hid (HGK.out.trans hg2)
      have HTL := Lib.hid (tell_any t x w2 ht hx64)
      rw [tell_no HXE.out, decide_eq_false HXE.out] at HTL
      clear hs2 hg2 HT HK HGK HXE
      go_wp2_with fail
      refine HTL.out.mono ?_
      rintro e w3 ⟨rfl, hb3⟩
      have HS3 := Lib.hid (HS2.out.below hb3)
      have HG3 := Lib.hid (HG2.out.trans (grown7_more (grown8 hb3)))
      have HPL3 := Lib.hid (place_of HS3.out)
      clear HTL HS2 HG2 hb3
      go_wp2_with fail
      go_roundw
      case rel => exact ⟨k + 1, by omega, by omega, HS3, HG3⟩
      case measure => rw [HPL3.out, HPL.out]; omega

/-- The document's: what the first word that is taken tells, and how many there are to it. -/
def oneOf (t : Nat) (xs : List Nat) (y n : Nat) : Prop := (∃ q, First8 t xs 0 q ∧ y = tellN t (nth xs q) ∧ n = q + 1) ∨ (None8 t xs 0 ∧ y = 0 ∧ n = 0)

set_option maxHeartbeats 2000000 in
theorem rfrom_any (A : Option Addr) (xs : List Nat) (n c t y m : Nat) (w : World) (hl : xs.length = n) (hr : Rq w w.heap.size A xs) (hn : n ≤ 1000000) (ht : t < 18446744073709551616) (hx : ∀ x ∈ xs, x < 18446744073709551616) (hf : oneOf t xs y m) :
    Calls Try.prog 19 #[.slice A n c, .int .u64 (t : Int)] w fun e w' => e = .returned (.tuple #[.int .u64 (y : Int), .int .i64 (m : Int)]) ∧ Below w.heap.size w w' := by
  have HL := Lib.hid hl
  have HR := Lib.hid hr
  have HF := Lib.hid hf
  have HX := Lib.hid hx
  clear hl hr hf hx
  go_enter Try.func19, Try.ntmps19
  go_wp2_with fail
  go_loopw [6] (fun i wr => ∃ k : Nat, i = .int .i64 (k : Int) ∧ k ≤ n ∧ Hid (∀ j, j < k → ¬ nth xs j < endN t) ∧ Hid (Below w.heap.size w wr)) (fun i _ => n - (intOf i).toNat)
  case atStart => exact ⟨0, rfl, by omega, Lib.hid (fun j h => by omega), Lib.hid (Below.refl _ _)⟩
  case round =>
    obtain ⟨k, rfl, hk, HB, HG⟩ := hrel
    by_cases hkn : k < n
    · obtain ⟨a, o, hA, _, ca⟩ := Rq.at_ (Rv.below HR.out HG.out (Nat.le_refl _)) (show k < xs.length by have := HL.out; omega)
      subst hA
      obtain ⟨x, hxk⟩ : ∃ x, nth xs k = x := ⟨_, rfl⟩
      have hx64 : x < 18446744073709551616 := by rw [← hxk]; exact nth_lt8 HX.out k
      have HXK := Lib.hid hxk
      rw [hxk] at ca
      have hi0 : (0 : Int) ≤ (k : Int) := by omega
      have hi1 : (k : Int) < (n : Int) := by omega
      have HTL := Lib.hid (fun W => tell8_any t x W ht hx64)
      clear hxk
      by_cases hxe : x < endN t
      · have hres : y = tellN t x ∧ m = k + 1 := by
          rcases HF.out with ⟨q, ⟨h1, h2, h3, h4⟩, rfl, rfl⟩ | ⟨h1, _, _⟩
          · have hq : q = k := by
              rcases (show q < k ∨ k < q ∨ q = k by omega) with h5 | h5 | h5
              · exact absurd h3 (HB.out q h5)
              · exact absurd (by rw [HXK.out]; exact hxe) (h4 k (by omega) h5)
              · exact h5
            subst hq
            rw [HXK.out]
            exact ⟨rfl, rfl⟩
          · exact absurd (by rw [HXK.out]; exact hxe) (h1 k (by omega) (by have := HL.out; omega))
        rw [← hres.1, decide_eq_true hxe] at HTL
        have HRES := Lib.hid hres
        clear hxe HB HF hres
        go_wp2_with fail
        refine (HTL.out _).mono ?_
        rintro e w3 ⟨rfl, hb3⟩
        have HG3 := Lib.hid (HG.out.trans (hb3.mono HG.out.size))
        clear HTL hb3
        go_wp2_with fail
        go_ret2
        exact ⟨by rw [HRES.out.2]; simp, HG3.out⟩
      · rw [tell_no hxe, decide_eq_false hxe] at HTL
        have HNX := Lib.hid hxe
        clear hxe
        go_wp2_with fail
        refine (HTL.out _).mono ?_
        rintro e w3 ⟨rfl, hb3⟩
        have HG3 := Lib.hid (HG.out.trans (hb3.mono HG.out.size))
        clear HTL hb3
        go_wp2_with fail
        go_roundw
        case rel => exact ⟨k + 1, by go_num, by omega, Lib.hid (fun j hj => by
          rcases (show j < k ∨ j = k by omega) with h5 | h5
          · exact HB.out j h5
          · rw [h5, HXK.out]; exact HNX.out), HG3⟩
        case measure => simp [intOf]; omega
    · have hres : y = 0 ∧ m = 0 := by
        rcases HF.out with ⟨q, ⟨h1, h2, h3, h4⟩, _, _⟩ | ⟨_, h1, h2⟩
        · exact absurd h3 (HB.out q (by have := HL.out; omega))
        · exact ⟨h1, h2⟩
      obtain ⟨rfl, rfl⟩ := hres
      clear HF HB
      go_wp2_with fail
      go_ret2
      exact ⟨rfl, HG.out⟩

/-- The function that Least hands on: is a word taken? -/
theorem least1_any (g t x : Nat) (w : World) (hc : w.cell? ⟨g, 0, none⟩ = some (.int .u64 (t : Int))) (ht : t < 18446744073709551616) (hx : x < 18446744073709551616) :
    Calls Try.prog 37 #[.int .u64 (x : Int), .pointer (some ⟨g, 0, none⟩)] w fun e w' => e = .returned (.bool (decide (x < endN t))) ∧ Below w.heap.size w w' := by
  have HT := Lib.hid (taken_any t x w ht hx)
  obtain ⟨b, hb⟩ : ∃ b, decide (x < endN t) = b := ⟨_, rfl⟩
  rw [hb] at HT ⊢
  clear hb
  go_enter Try.func37, Try.ntmps37
  go_wp2_with fail
  refine HT.out.mono ?_
  rintro e w1 ⟨rfl, hb1⟩
  clear HT
  go_wp2_with fail
  go_ret
  exact ⟨rfl, hb1⟩

set_option maxHeartbeats 2000000 in
theorem index8_any (A : Option Addr) (xs : List Nat) (n c t m g : Nat) (w : World) (hl : xs.length = n) (hr : Rq w w.heap.size A xs) (hn : n ≤ 1000000) (ht : t < 18446744073709551616) (hx : ∀ x ∈ xs, x < 18446744073709551616) (hf : ∃ y, oneOf t xs y m)
    (hc : w.cell? ⟨g, 0, none⟩ = some (.int .u64 (t : Int))) :
    Calls Try.prog 36 #[.slice A n c, .func (.func 37) #[] #[.pointer (some ⟨g, 0, none⟩)]] w fun e w' => e = .returned (.int .i64 ((m : Int) - 1)) ∧ Below w.heap.size w w' := by
  have HL := Lib.hid hl
  have HR := Lib.hid hr
  have HF := Lib.hid hf
  have HX := Lib.hid hx
  have HC := Lib.hid hc
  have HGL := Lib.hid (World.block_lt_of_cell? w _ hc)
  clear hl hr hf hx hc
  go_enter Try.func36, Try.ntmps36
  go_wp2_with fail
  go_loopw [8] (fun i wr => ∃ k : Nat, i = .int .i64 (k : Int) ∧ k ≤ n ∧ Hid (∀ j, j < k → ¬ nth xs j < endN t) ∧ Hid (Below w.heap.size w wr)) (fun i _ => n - (intOf i).toNat)
  case atStart => exact ⟨0, rfl, by omega, Lib.hid (fun j h => by omega), Lib.hid (Below.refl _ _)⟩
  case round =>
    obtain ⟨k, rfl, hk, HB, HG⟩ := hrel
    by_cases hkn : k < n
    · obtain ⟨a, o, hA, _, ca⟩ := Rq.at_ (Rv.below HR.out HG.out (Nat.le_refl _)) (show k < xs.length by have := HL.out; omega)
      subst hA
      obtain ⟨x, hxk⟩ : ∃ x, nth xs k = x := ⟨_, rfl⟩
      have hx64 : x < 18446744073709551616 := by rw [← hxk]; exact nth_lt8 HX.out k
      have HXK := Lib.hid hxk
      rw [hxk] at ca
      have hi0 : (0 : Int) ≤ (k : Int) := by omega
      have hi1 : (k : Int) < (n : Int) := by omega
      have HTL := Lib.hid (fun W (h : Below w.heap.size w W) => least1_any g t x W ((h.cell HGL.out).trans HC.out) ht hx64)
      clear hxk
      by_cases hxe : x < endN t
      · have hres : m = k + 1 := by
          obtain ⟨y, hy⟩ := HF.out
          rcases hy with ⟨q, ⟨h1, h2, h3, h4⟩, rfl, rfl⟩ | ⟨h1, _, _⟩
          · have hq : q = k := by
              rcases (show q < k ∨ k < q ∨ q = k by omega) with h5 | h5 | h5
              · exact absurd h3 (HB.out q h5)
              · exact absurd (by rw [HXK.out]; exact hxe) (h4 k (by omega) h5)
              · exact h5
            rw [hq]
          · exact absurd (by rw [HXK.out]; exact hxe) (h1 k (by omega) (by have := HL.out; omega))
        have HRES := Lib.hid hres
        rw [decide_eq_true hxe] at HTL
        clear hxe HB HF hres
        go_wp2_with fail
        refine (HTL.out _ HG.out).mono ?_
        rintro e w3 ⟨rfl, hb3⟩
        have HG3 := Lib.hid (HG.out.trans (hb3.mono HG.out.size))
        clear HTL hb3
        go_wp2_with fail
        go_ret
        exact ⟨by rw [HRES.out]; simp, HG3.out⟩
      · rw [decide_eq_false hxe] at HTL
        have HNX := Lib.hid hxe
        clear hxe
        go_wp2_with fail
        refine (HTL.out _ HG.out).mono ?_
        rintro e w3 ⟨rfl, hb3⟩
        have HG3 := Lib.hid (HG.out.trans (hb3.mono HG.out.size))
        clear HTL hb3
        go_wp2_with fail
        go_roundw
        case rel => exact ⟨k + 1, by go_num, by omega, Lib.hid (fun j hj => by
          rcases (show j < k ∨ j = k by omega) with h5 | h5
          · exact HB.out j h5
          · rw [h5, HXK.out]; exact HNX.out), HG3⟩
        case measure => simp [intOf]; omega
    · have hres : m = 0 := by
        obtain ⟨y, hy⟩ := HF.out
        rcases hy with ⟨q, ⟨h1, h2, h3, h4⟩, _, _⟩ | ⟨_, h1, h2⟩
        · exact absurd h3 (HB.out q (by have := HL.out; omega))
        · exact h2
      have HRES := Lib.hid hres
      clear HF HB hres
      go_wp2_with fail
      go_ret
      exact ⟨by rw [HRES.out]; simp, HG.out⟩

set_option maxHeartbeats 2000000 in
theorem least_any (A : Option Addr) (xs : List Nat) (n c t m : Nat) (w : World) (hl : xs.length = n) (hr : Rq w w.heap.size A xs) (hn : n ≤ 1000000) (hm : m ≤ 1000001) (ht : t < 18446744073709551616) (hx : ∀ x ∈ xs, x < 18446744073709551616) (hf : ∃ y, oneOf t xs y m) :
    Calls Try.prog 20 #[.int .u64 (t : Int), .slice A n c] w fun e w' => e = .returned (.int .i64 (m : Int)) ∧ Below w.heap.size w w' := by
  have hmf : ∀ (fn : Fn) (first cap : Array Value) (w : World), (Instr.makeFunc fn first cap).run Try.prog w = .ok (.func fn first cap) w := fun _ _ _ _ => rfl
  have HI := Lib.hid (index8_any A xs n c t m w.heap.size (w.alloc (.cells #[.int .u64 (t : Int)] 22)) hl ((Rv.alloc hr (Nat.le_refl _) _).more (by simp)) hn ht hx hf (by simp))
  have hb0 := b1d w (.cells #[.int .u64 (t : Int)] 22)
  have hw : IntKind.i64.wrap ((m : Int) - 1 + 1) = (m : Int) := by rw [IntKind.wrap_i64]; omega
  clear hl hr hx hf
  go_enter Try.func20, Try.ntmps20
  go_wp2_with fail
  refine HI.out.mono ?_
  rintro e w1 ⟨rfl, hb1⟩
  have hB1 := hb0.trans (hb1.mono hb0.size)
  clear HI hb0 hb1
  go_wp2_with fail
  go_ret
  exact ⟨by simp, hB1⟩
end Go.Proofs.Ytengcnchjpkhkaa
