/-
  What is taken off any source is what the first word tells that is taken.
-/
import Derived.Test.YtengcnchjpkhkaaLawDrawA
namespace Go.Proofs.Ytengcnchjpkhkaa
open Go.RowKit
set_option maxRecDepth 100000

/-- The words from a place on. -/
theorem slice8 (A : Option Addr) (xs : List Nat) (n c p : Nat) (hl : xs.length = n) (hc : n ≤ c) (hp : p ≤ n) : ∃ A2 d, (∀ W, (Instr.slice 39 (.slice A n c) (some (.int .i64 (p : Int))) none none).run Try.prog W = .ok (.slice A2 (n - p) d) W) ∧
    (∀ (w : World) (B : Nat), Rq w B A xs → Rq w B A2 (xs.drop p)) := by
  refine ⟨if c = p then A else A.map (·.add p), c - p, fun W => ?_, fun w B h => ?_⟩
  · simp [go_sem, show (p : Int) ≤ (n : Int) by omega, run_slice_l]
  · intro hne
    have hpl : p < xs.length := by
      rcases Nat.lt_or_ge p xs.length with h1 | h1
      · exact h1
      · rw [List.drop_eq_nil_of_le h1] at hne
        exact absurd rfl hne
    obtain ⟨b, o, h1, h2, h3⟩ := h (by rintro h0; rw [show xs = [] by simpa [wds] using h0] at hpl; simp at hpl)
    subst h1
    rw [if_neg (by omega)]
    refine ⟨b, o + p, by simp [Addr.add], h2, fun k v hk => ?_⟩
    rw [Nat.add_assoc]
    exact h3 (p + k) v (by rw [← hk]; simp [wds])
theorem drop_lt8 {xs : List Nat} (p : Nat) (h : ∀ x ∈ xs, x < 18446744073709551616) : ∀ x ∈ xs.drop p, x < 18446744073709551616 := fun x hx => h x (List.mem_of_mem_drop hx)

set_option maxHeartbeats 4000000 in
theorem from8_zero (A : Option Addr) (xs : List Nat) (n c p : Nat) (w : World) (hl : xs.length = n) (hr : Rq w w.heap.size A xs) (hx : ∀ x ∈ xs, x < 18446744073709551616) (hn : n ≤ 200) (hp : p ≤ n) (hc : n ≤ c) :
    Calls Try.prog 5 #[.slice A n c, .int .i64 (p : Int), .int .u64 0] w fun e w' => e = .returned (.bool true) ∧ Below w.heap.size w w' := by
  have HNW := Lib.hid (new_any A xs n c w hl hr (by omega))
  have h1 : ¬ (200 : Int) < (n : Int) := by omega
  have h2 : ¬ (p : Int) < 0 := by omega
  have h3 : ¬ (n : Int) < (p : Int) := by omega
  obtain ⟨A2, d2, hsl, hrs⟩ := slice8 A xs n c p hl hc hp
  have HL := Lib.hid hl
  have HR := Lib.hid hr
  have HX := Lib.hid hx
  have HRS := Lib.hid hrs
  have HDL : Hid ((xs.drop p).length = n - p) := Lib.hid (by rw [List.length_drop, hl])
  obtain ⟨k2, hk2⟩ : ∃ k2, n - p = k2 := ⟨_, rfl⟩
  rw [hk2] at hsl HDL
  have hk3 : k2 ≤ 200 := by omega
  have HONE := Lib.hid (show oneOf 0 (xs.drop p) 0 0 from .inr ⟨none_zero _ _, rfl, rfl⟩)
  have hself : ∀ i : Int, (i != i) = false := fun i => by simp
  clear hl hr hx hrs hk2 hc
  go_enter Try.func5, Try.ntmps5
  go_wp2_with fail
  refine HNW.out.mono ?_
  rintro e w1 ⟨g, b, rfl, hg, hs1, hb1⟩
  have HSK := Lib.hid (seek_ok p w1 hs1 (by rw [HL.out]; exact hp))
  have HB1 := Lib.hid hb1
  clear HNW hb1 hs1
  go_wp2_with fail
  refine HSK.out.mono ?_
  rintro e w2 ⟨rfl, hs2, hg2⟩
  have HB2 := Lib.hid (wrote7_b HB1.out hg2 hg HB1.out.size)
  have HS3 := Lib.hid hs2
  have HFR := Lib.hid (from_zero w2 hs2)
  clear HSK HB1 hs2 hg2
  go_wp2_with fail
  refine HFR.out.mono ?_
  rintro e w3 ⟨rfl, rfl⟩
  have HB3 := HB2
  clear HFR HB2
  have HRF := Lib.hid (rfrom_any A2 (xs.drop p) k2 d2 0 0 0 w3 HDL.out (HRS.out _ _ (Rv.step HR.out HB3.out)) (by omega) (by omega) (drop_lt8 p HX.out) HONE.out)
  go_wp2_with fail
  refine HRF.out.mono ?_
  rintro e w4 ⟨rfl, hb4⟩
  have HB4 := Lib.hid (HB3.out.trans (hb4.mono HB3.out.size))
  have HS4 := Lib.hid (HS3.out.below hb4)
  have HFN := Lib.hid (from_nil 0 w4)
  clear HRF HB3 HS3 hb4
  go_wp2_with fail
  refine HFN.out.mono ?_
  rintro e w5 ⟨rfl, rfl⟩
  have HLE := Lib.hid (least_any A2 (xs.drop p) k2 d2 0 0 w5 HDL.out (HRS.out _ _ (Rv.step HR.out HB4.out)) (by omega) (by omega) (by omega) (drop_lt8 p HX.out) ⟨_, HONE.out⟩)
  clear HFN
  go_wp2_with fail
  refine HLE.out.mono ?_
  rintro e w6 ⟨rfl, hb6⟩
  have HB6 := Lib.hid (HB4.out.trans (hb6.mono HB4.out.size))
  have HAT := Lib.hid (at_any w6 (HS4.out.below hb6))
  clear HLE HB4 HS4 hb6
  go_wp2_with fail
  refine HAT.out.mono ?_
  rintro e w7 ⟨rfl, hg7⟩
  have HB7 := Lib.hid (HB6.out.grown hg7 HB6.out.size (fun k hk => by cases hk))
  have HAL := Lib.hid (alive8_any w7)
  clear HAT HB6 hg7
  go_wp2_with fail
  refine HAL.out.mono ?_
  rintro e w8 ⟨rfl, hb8⟩
  have HB8 := Lib.hid (HB7.out.trans (hb8.mono HB7.out.size))
  clear HAL HB7 hb8
  go_wp2_with fail
  go_ret
  exact ⟨rfl, HB8.out⟩

set_option maxHeartbeats 4000000 in
theorem from8_yes (A : Option Addr) (xs : List Nat) (n c p : Nat) (t q : Nat) (w : World) (hl : xs.length = n) (hr : Rq w w.heap.size A xs) (hx : ∀ x ∈ xs, x < 18446744073709551616) (hn : n ≤ 200) (hp : p ≤ n) (hc : n ≤ c) (ht : t < 18446744073709551616) (hf : First8 t xs p q) :
    Calls Try.prog 5 #[.slice A n c, .int .i64 (p : Int), .int .u64 (t : Int)] w fun e w' => e = .returned (.bool true) ∧ Below w.heap.size w w' := by
  have HNW := Lib.hid (new_any A xs n c w hl hr (by omega))
  have h1 : ¬ (200 : Int) < (n : Int) := by omega
  have h2 : ¬ (p : Int) < 0 := by omega
  have h3 : ¬ (n : Int) < (p : Int) := by omega
  obtain ⟨A2, d2, hsl, hrs⟩ := slice8 A xs n c p hl hc hp
  have HL := Lib.hid hl
  have HR := Lib.hid hr
  have HX := Lib.hid hx
  have HRS := Lib.hid hrs
  have HDL : Hid ((xs.drop p).length = n - p) := Lib.hid (by rw [List.length_drop, hl])
  obtain ⟨k2, hk2⟩ : ∃ k2, n - p = k2 := ⟨_, rfl⟩
  rw [hk2] at hsl HDL
  have hk3 : k2 ≤ 200 := by omega
  have hq := hf.2.1
  have hpq := hf.1
  obtain ⟨y, hy⟩ : ∃ y, tellN t (nth xs q) = y := ⟨_, rfl⟩
  obtain ⟨m, hm⟩ : ∃ m, q - p + 1 = m := ⟨_, rfl⟩
  obtain ⟨z, hz⟩ : ∃ z, q + 1 = z := ⟨_, rfl⟩
  have HONE := Lib.hid (show oneOf t (xs.drop p) y m from .inl ⟨q - p, hf.drop, by rw [nth_drop, show p + (q - p) = q by omega, hy], hm.symm⟩)
  have HF := Lib.hid hf
  have HY := Lib.hid (And.intro hy hz)
  have hzw : IntKind.i64.wrap ((p : Int) + (m : Int)) = (z : Int) := by rw [IntKind.wrap_i64]; omega
  have hm0 : ((m : Int) == 0) = false := by simp; omega
  have hm1 : ¬ (m : Int) = 0 := by omega
  have hm2 : ¬ m = 0 := by omega
  have hm3 : m ≤ 1000001 := by omega
  have ht0 := hf.pos
  clear hq hpq hy hm hz
  have hd0 : ((t : Int) == 0) = false := by simp; omega
  have hd1 : ¬ (t : Int) = 0 := by omega
  have hd2 : ¬ t = 0 := by omega
  have HT0 := Lib.hid ht0
  clear hf ht0
  have hself : ∀ i : Int, (i != i) = false := fun i => by simp
  clear hl hr hx hrs hk2 hc
  go_enter Try.func5, Try.ntmps5
  go_wp2_with fail
  refine HNW.out.mono ?_
  rintro e w1 ⟨g, b, rfl, hg, hs1, hb1⟩
  have HSK := Lib.hid (seek_ok p w1 hs1 (by rw [HL.out]; exact hp))
  have HB1 := Lib.hid hb1
  clear HNW hb1 hs1
  go_wp2_with fail
  refine HSK.out.mono ?_
  rintro e w2 ⟨rfl, hs2, hg2⟩
  have HB2 := Lib.hid (wrote7_b HB1.out hg2 hg HB1.out.size)
  have HFR := Lib.hid (from_yes t w2 hs2 ht HX.out HF.out)
  rw [HY.out.1, HY.out.2] at HFR
  clear HSK HB1 hs2 hg2
  go_wp2_with fail
  refine HFR.out.mono ?_
  rintro e w3 ⟨rfl, hs3, hg3⟩
  have HS3 := Lib.hid hs3
  have HB3 := Lib.hid (wrote7_b HB2.out hg3 hg HB2.out.size)
  clear HFR HB2 hs3 hg3
  have HRF := Lib.hid (rfrom_any A2 (xs.drop p) k2 d2 t y m w3 HDL.out (HRS.out _ _ (Rv.step HR.out HB3.out)) (by omega) ht (drop_lt8 p HX.out) HONE.out)
  go_wp2_with fail
  refine HRF.out.mono ?_
  rintro e w4 ⟨rfl, hb4⟩
  have HB4 := Lib.hid (HB3.out.trans (hb4.mono HB3.out.size))
  have HS4 := Lib.hid (HS3.out.below hb4)
  have HFN := Lib.hid (from_nil t w4)
  clear HRF HB3 HS3 hb4
  go_wp2_with fail
  refine HFN.out.mono ?_
  rintro e w5 ⟨rfl, rfl⟩
  have HLE := Lib.hid (least_any A2 (xs.drop p) k2 d2 t m w5 HDL.out (HRS.out _ _ (Rv.step HR.out HB4.out)) (by omega) (by omega) ht (drop_lt8 p HX.out) ⟨_, HONE.out⟩)
  clear HFN
  go_wp2_with fail
  refine HLE.out.mono ?_
  rintro e w6 ⟨rfl, hb6⟩
  have HB6 := Lib.hid (HB4.out.trans (hb6.mono HB4.out.size))
  have HAT := Lib.hid (at_any w6 (HS4.out.below hb6))
  clear HLE HB4 HS4 hb6
  go_wp2_with fail
  refine HAT.out.mono ?_
  rintro e w7 ⟨rfl, hg7⟩
  have HB7 := Lib.hid (HB6.out.grown hg7 HB6.out.size (fun k hk => by cases hk))
  have HAL := Lib.hid (alive8_any w7)
  clear HAT HB6 hg7
  go_wp2_with fail
  refine HAL.out.mono ?_
  rintro e w8 ⟨rfl, hb8⟩
  have HB8 := Lib.hid (HB7.out.trans (hb8.mono HB7.out.size))
  clear HAL HB7 hb8
  go_wp2_with fail
  go_ret
  exact ⟨rfl, HB8.out⟩

set_option maxHeartbeats 4000000 in
theorem from8_none (A : Option Addr) (xs : List Nat) (n c p : Nat) (t : Nat) (w : World) (hl : xs.length = n) (hr : Rq w w.heap.size A xs) (hx : ∀ x ∈ xs, x < 18446744073709551616) (hn : n ≤ 200) (hp : p ≤ n) (hc : n ≤ c) (ht : t < 18446744073709551616) (ht0 : 0 < t) (hf : None8 t xs p) :
    Calls Try.prog 5 #[.slice A n c, .int .i64 (p : Int), .int .u64 (t : Int)] w fun e w' => e = .returned (.bool true) ∧ Below w.heap.size w w' := by
  have HNW := Lib.hid (new_any A xs n c w hl hr (by omega))
  have h1 : ¬ (200 : Int) < (n : Int) := by omega
  have h2 : ¬ (p : Int) < 0 := by omega
  have h3 : ¬ (n : Int) < (p : Int) := by omega
  obtain ⟨A2, d2, hsl, hrs⟩ := slice8 A xs n c p hl hc hp
  have HL := Lib.hid hl
  have HR := Lib.hid hr
  have HX := Lib.hid hx
  have HRS := Lib.hid hrs
  have HDL : Hid ((xs.drop p).length = n - p) := Lib.hid (by rw [List.length_drop, hl])
  obtain ⟨k2, hk2⟩ : ∃ k2, n - p = k2 := ⟨_, rfl⟩
  rw [hk2] at hsl HDL
  have hk3 : k2 ≤ 200 := by omega
  have HONE := Lib.hid (show oneOf t (xs.drop p) 0 0 from .inr ⟨hf.drop, rfl, rfl⟩)
  have HF := Lib.hid hf
  have hd0 : ((t : Int) == 0) = false := by simp; omega
  have hd1 : ¬ (t : Int) = 0 := by omega
  have hd2 : ¬ t = 0 := by omega
  have HT0 := Lib.hid ht0
  clear hf ht0
  have hself : ∀ i : Int, (i != i) = false := fun i => by simp
  clear hl hr hx hrs hk2 hc
  go_enter Try.func5, Try.ntmps5
  go_wp2_with fail
  refine HNW.out.mono ?_
  rintro e w1 ⟨g, b, rfl, hg, hs1, hb1⟩
  have HSK := Lib.hid (seek_ok p w1 hs1 (by rw [HL.out]; exact hp))
  have HB1 := Lib.hid hb1
  clear HNW hb1 hs1
  go_wp2_with fail
  refine HSK.out.mono ?_
  rintro e w2 ⟨rfl, hs2, hg2⟩
  have HB2 := Lib.hid (wrote7_b HB1.out hg2 hg HB1.out.size)
  have HFR := Lib.hid (from_none t w2 hs2 ht HT0.out HX.out HF.out)
  clear HSK HB1 hs2 hg2
  go_wp2_with fail
  refine HFR.out.mono ?_
  rintro e w3 ⟨rfl, hs3, hg3⟩
  have HS3 := Lib.hid hs3
  have HB3 := Lib.hid (wrote7_b HB2.out hg3 hg HB2.out.size)
  clear HFR HB2 hs3 hg3
  have HRF := Lib.hid (rfrom_any A2 (xs.drop p) k2 d2 t 0 0 w3 HDL.out (HRS.out _ _ (Rv.step HR.out HB3.out)) (by omega) ht (drop_lt8 p HX.out) HONE.out)
  go_wp2_with fail
  refine HRF.out.mono ?_
  rintro e w4 ⟨rfl, hb4⟩
  have HB4 := Lib.hid (HB3.out.trans (hb4.mono HB3.out.size))
  have HS4 := Lib.hid (HS3.out.below hb4)
  have HFN := Lib.hid (from_nil t w4)
  clear HRF HB3 HS3 hb4
  go_wp2_with fail
  refine HFN.out.mono ?_
  rintro e w5 ⟨rfl, rfl⟩
  have HLE := Lib.hid (least_any A2 (xs.drop p) k2 d2 t 0 w5 HDL.out (HRS.out _ _ (Rv.step HR.out HB4.out)) (by omega) (by omega) ht (drop_lt8 p HX.out) ⟨_, HONE.out⟩)
  clear HFN
  go_wp2_with fail
  refine HLE.out.mono ?_
  rintro e w6 ⟨rfl, hb6⟩
  have HB6 := Lib.hid (HB4.out.trans (hb6.mono HB4.out.size))
  have HAT := Lib.hid (at_any w6 (HS4.out.below hb6))
  clear HLE HB4 HS4 hb6
  go_wp2_with fail
  refine HAT.out.mono ?_
  rintro e w7 ⟨rfl, hg7⟩
  have HB7 := Lib.hid (HB6.out.grown hg7 HB6.out.size (fun k hk => by cases hk))
  have HAL := Lib.hid (alive8_any w7)
  clear HAT HB6 hg7
  go_wp2_with fail
  refine HAL.out.mono ?_
  rintro e w8 ⟨rfl, hb8⟩
  have HB8 := Lib.hid (HB7.out.trans (hb8.mono HB7.out.size))
  clear HAL HB7 hb8
  go_wp2_with fail
  go_ret
  exact ⟨rfl, HB8.out⟩

set_option maxHeartbeats 4000000 in
theorem from8_out (A : Option Addr) (n c t : Nat) (p : Int) (w : World) (h : 200 < n ∨ p < 0 ∨ (n : Int) < p) :
    Calls Try.prog 5 #[.slice A n c, .int .i64 p, .int .u64 (t : Int)] w fun e w' => e = .returned (.bool true) ∧ Below w.heap.size w w' := by
  have HAL := Lib.hid (alive8_any w)
  by_cases h1 : 200 < n
  · have h1' : (200 : Int) < (n : Int) := by omega
    clear h
    go_enter Try.func5, Try.ntmps5
    go_wp2_with fail
    refine HAL.out.mono ?_
    rintro e w8 ⟨rfl, hb8⟩
    clear HAL
    go_wp2_with fail
    go_ret
    exact ⟨rfl, hb8⟩
  · have h1' : ¬ (200 : Int) < (n : Int) := by omega
    by_cases h2 : p < 0
    · clear h h1
      go_enter Try.func5, Try.ntmps5
      go_wp2_with fail
      refine HAL.out.mono ?_
      rintro e w8 ⟨rfl, hb8⟩
      clear HAL
      go_wp2_with fail
      go_ret
      exact ⟨rfl, hb8⟩
    · have h3 : (n : Int) < p := by omega
      clear h h1
      go_enter Try.func5, Try.ntmps5
      go_wp2_with fail
      refine HAL.out.mono ?_
      rintro e w8 ⟨rfl, hb8⟩
      clear HAL
      go_wp2_with fail
      go_ret
      exact ⟨rfl, hb8⟩

theorem from8_walk (A : Option Addr) (xs : List Nat) (n c t : Nat) (p : Int) (w : World) (hl : xs.length = n) (hr : Rq w w.heap.size A xs) (hx : ∀ x ∈ xs, x < 18446744073709551616) (hc : n ≤ c) (ht : t < 18446744073709551616) :
    Calls Try.prog 5 #[.slice A n c, .int .i64 p, .int .u64 (t : Int)] w fun e w' => e = .returned (.bool true) ∧ Below w.heap.size w w' := by
  by_cases h : 200 < n ∨ p < 0 ∨ (n : Int) < p
  · exact from8_out A n c t p w h
  · obtain ⟨q, rfl⟩ : ∃ q : Nat, p = (q : Int) := ⟨p.toNat, by omega⟩
    rcases Nat.eq_zero_or_pos t with rfl | h0
    · exact from8_zero A xs n c q w hl hr hx (by omega) (by omega) hc
    · rcases first_or_none t xs q with ⟨j, hj⟩ | hj
      · exact from8_yes A xs n c q t j w hl hr hx (by omega) (by omega) hc ht hj
      · exact from8_none A xs n c q t w hl hr hx (by omega) (by omega) hc ht h0 hj
end Go.Proofs.Ytengcnchjpkhkaa
