/-
  A table of any weights is fair: each place is picked by its count times its weight of all numbers; which weights have none is the document's.
-/
import Derived.Test.YtcanahjilfnijaaLawAliA
namespace Go.Proofs.Ytcanahjilfnijaa
open Go.RowKit
set_option maxRecDepth 100000

set_option maxHeartbeats 4000000 in
theorem builds12_mid (A : Option Addr) (n cc : Nat) (w : World) (h1 : 300 < n) (h2 : n ≤ 4096) :
    Calls Try.prog 3 #[.slice A n cc] w fun e w' => e = .returned (.bool true) ∧ Below w.heap.size w w' := by
  have i1 : (300 : Int) < (n : Int) := by omega
  have i2 : (n : Int) ≤ 4096 := by omega
  go_enter Try.func3, Try.ntmps3
  go_wp2_with fail
  refine (alive12_any w).mono ?_
  rintro e wz ⟨rfl, hbz⟩
  go_wp2_with fail
  go_ret
  exact ⟨rfl, hbz⟩

set_option maxHeartbeats 4000000 in
theorem builds12_far (A : Option Addr) (n cc : Nat) (w : World) (h1 : 5000 < n) :
    Calls Try.prog 3 #[.slice A n cc] w fun e w' => e = .returned (.bool true) ∧ Below w.heap.size w w' := by
  have i1 : (300 : Int) < (n : Int) := by omega
  have i2 : ¬ (n : Int) ≤ 4096 := by omega
  have i3 : (5000 : Int) < (n : Int) := by omega
  go_enter Try.func3, Try.ntmps3
  go_wp2_with fail
  refine (alive12_any w).mono ?_
  rintro e wz ⟨rfl, hbz⟩
  go_wp2_with fail
  go_ret
  exact ⟨rfl, hbz⟩

set_option maxHeartbeats 4000000 in
theorem builds12_many (A : Option Addr) (n cc : Nat) (w : World) (h1 : 4096 < n) (h2 : n ≤ 5000) :
    Calls Try.prog 3 #[.slice A n cc] w fun e w' => e = .returned (.bool true) ∧ Below w.heap.size w w' := by
  have i1 : (300 : Int) < (n : Int) := by omega
  have i2 : ¬ (n : Int) ≤ 4096 := by omega
  have i3 : ¬ (5000 : Int) < (n : Int) := by omega
  have i4 : (4096 : Int) < (n : Int) := by omega
  have HBU := Lib.hid (build12_many A n cc w h1)
  go_enter Try.func3, Try.ntmps3
  go_wp2_with fail
  refine HBU.out.mono ?_
  rintro e w1 ⟨rfl, hb1⟩
  have HB1 := Lib.hid (hb1.alloc hb1.size (.cells #[.int .u64 0, .slice none 0 0] 27))
  have t1 := (Blk.new w1 27 #[.int .u64 0, .slice none 0 0]).cell 1
  clear hb1
  go_wp2_with fail
  refine (alive12_any _).mono ?_
  rintro e wz ⟨rfl, hbz⟩
  have HBZ := Lib.hid (HB1.out.trans (hbz.mono HB1.out.size))
  clear hbz
  go_wp2_with fail
  go_ret
  exact ⟨rfl, HBZ.out⟩

set_option maxHeartbeats 4000000 in
theorem builds12_over (A : Option Addr) (xs : List Nat) (n cc : Nat) (w : World) (hl : xs.length = n) (hr : Rq w w.heap.size A xs) (hx : ∀ x ∈ xs, x < 18446744073709551616) (hn : n ≤ 300) (hf : 18446744073709551616 ≤ up9 xs n) :
    Calls Try.prog 3 #[.slice A n cc] w fun e w' => e = .returned (.bool true) ∧ Below w.heap.size w w' := by
  have i1 : ¬ (300 : Int) < (n : Int) := by omega
  have i3 : ¬ (5000 : Int) < (n : Int) := by omega
  have i4 : ¬ (4096 : Int) < (n : Int) := by omega
  have hwn : IntKind.u64.wrap (n : Int) = (n : Int) := by rw [IntKind.wrap_u64]; omega
  have HBU := Lib.hid (build12_over A xs n cc w hl hr hx (by omega) hf)
  have HRT := Lib.hid (fun W (hb : Below w.heap.size w W) => rtotal_any A xs n cc W hl (Rv.step hr hb) hx (by omega))
  rw [fw_out hf, fb_out hf] at HRT
  have HOS := Lib.hid (fun W => of_any 0 W (by omega))
  rw [Int.natCast_zero] at HOS
  have HPW : Hid (0 < 65536 ^ 100 ∧ n < 65536 ^ 100) := Lib.hid ⟨pow_word (by omega), pow_word (by omega)⟩
  have HON := Lib.hid (fun W => of_any n W (by omega))
  clear hl hr hx hf
  go_enter Try.func3, Try.ntmps3
  go_wp2_with fail
  refine HBU.out.mono ?_
  rintro e w1 ⟨rfl, hb1⟩
  have HB1 := Lib.hid (hb1.alloc hb1.size (.cells #[.int .u64 0, .slice none 0 0] 27))
  have HK1 := Lib.hid (Blk.new w1 27 #[.int .u64 0, .slice none 0 0])
  clear hb1 HBU
  go_wp2_with fail
  refine (HRT.out _ HB1.out).mono ?_
  rintro e w2 ⟨rfl, hb2⟩
  have HK2 := Lib.hid (HK1.out.below hb2 HK1.out.lt)
  have HB2 := Lib.hid (HB1.out.trans (hb2.mono HB1.out.size))
  clear hb2 HRT HK1 HB1
  go_wp2_with fail
  refine (HOS.out _).mono ?_
  rintro e w3 ⟨v1, rfl, hn1, hb3⟩
  have HN1 := Lib.hid hn1
  have HK3 := Lib.hid (HK2.out.below hb3 HK2.out.lt)
  have HB3 := Lib.hid (HB2.out.trans (hb3.mono HB2.out.size))
  clear hb3 hn1 HOS HK2 HB2
  go_wp2_with fail
  refine (HON.out _).mono ?_
  rintro e w4 ⟨v2, rfl, hn2, hb4⟩
  have HN1 := Lib.hid (HN1.out.below hb4)
  have HN2 := Lib.hid hn2
  have HK4 := Lib.hid (HK3.out.below hb4 HK3.out.lt)
  have HB4 := Lib.hid (HB3.out.trans (hb4.mono HB3.out.size))
  clear hb4 hn2 HK3 HB3
  go_wp2_with fail
  refine (mul_num (j := 100) (k := 100) _ _ 0 n _ _ w4 HN1.out HN2.out HPW.out.1 HPW.out.2).mono ?_
  rintro e w5 ⟨v3, rfl, hn3, hb5⟩
  have HN3 := Lib.hid hn3
  have HK5 := Lib.hid (HK4.out.below hb5 HK4.out.lt)
  have HB5 := Lib.hid (HB4.out.trans (hb5.mono HB4.out.size))
  clear hb5 hn3 HK4 HB4 HN1 HN2
  go_wp2_with fail
  have HWD := Lib.hid (word_num _ _ _ w5 HN3.out)
  rw [Nat.zero_mul, fw_in (by omega), fb_in (by omega)] at HWD
  refine HWD.out.mono ?_
  rintro e w6 ⟨rfl, hb6⟩
  have hk6 := HK5.out.below hb6 HK5.out.lt
  have t0 := hk6.cell 0
  have t1 := hk6.cell 1
  have HK6 := Lib.hid hk6
  have HB6 := Lib.hid (HB5.out.trans (hb6.mono HB5.out.size))
  clear hb6 hk6 HWD HK5 HB5 HN3
  go_wp2_with fail
  refine (alive12_any w6).mono ?_
  rintro e wz ⟨rfl, hbz⟩
  have HBZ := Lib.hid (HB6.out.trans (hbz.mono HB6.out.size))
  clear hbz
  go_wp2_with fail
  go_ret
  exact ⟨rfl, HBZ.out⟩

set_option maxHeartbeats 4000000 in
theorem builds12_wide (A : Option Addr) (xs : List Nat) (n cc : Nat) (w : World) (hl : xs.length = n) (hr : Rq w w.heap.size A xs) (hx : ∀ x ∈ xs, x < 18446744073709551616) (hn : n ≤ 300) (hf : up9 xs n < 18446744073709551616) (hm : 18446744073709551616 ≤ n * up9 xs n) :
    Calls Try.prog 3 #[.slice A n cc] w fun e w' => e = .returned (.bool true) ∧ Below w.heap.size w w' := by
  have i1 : ¬ (300 : Int) < (n : Int) := by omega
  have i3 : ¬ (5000 : Int) < (n : Int) := by omega
  have i4 : ¬ (4096 : Int) < (n : Int) := by omega
  have hwn : IntKind.u64.wrap (n : Int) = (n : Int) := by rw [IntKind.wrap_u64]; omega
  have HBU := Lib.hid (build12_wide A xs n cc w hl hr hx (by omega) hf hm)
  have HRT := Lib.hid (fun W (hb : Below w.heap.size w W) => rtotal_any A xs n cc W hl (Rv.step hr hb) hx (by omega))
  rw [fw_in hf, fb_in hf] at HRT
  have HM : Hid (18446744073709551616 ≤ up9 xs n * n) := Lib.hid (by rw [Nat.mul_comm]; exact hm)
  obtain ⟨s, hs⟩ : ∃ s, up9 xs n = s := ⟨_, rfl⟩
  rw [hs] at HRT HM hf
  have HOS := Lib.hid (fun W => of_any s W hf)
  have HPW : Hid (s < 65536 ^ 100 ∧ n < 65536 ^ 100) := Lib.hid ⟨pow_word hf, pow_word (by omega)⟩
  have HON := Lib.hid (fun W => of_any n W (by omega))
  clear hl hr hx hf hs hm
  go_enter Try.func3, Try.ntmps3
  go_wp2_with fail
  refine HBU.out.mono ?_
  rintro e w1 ⟨rfl, hb1⟩
  have HB1 := Lib.hid (hb1.alloc hb1.size (.cells #[.int .u64 0, .slice none 0 0] 27))
  have HK1 := Lib.hid (Blk.new w1 27 #[.int .u64 0, .slice none 0 0])
  clear hb1 HBU
  go_wp2_with fail
  refine (HRT.out _ HB1.out).mono ?_
  rintro e w2 ⟨rfl, hb2⟩
  have HK2 := Lib.hid (HK1.out.below hb2 HK1.out.lt)
  have HB2 := Lib.hid (HB1.out.trans (hb2.mono HB1.out.size))
  clear hb2 HRT HK1 HB1
  go_wp2_with fail
  refine (HOS.out _).mono ?_
  rintro e w3 ⟨v1, rfl, hn1, hb3⟩
  have HN1 := Lib.hid hn1
  have HK3 := Lib.hid (HK2.out.below hb3 HK2.out.lt)
  have HB3 := Lib.hid (HB2.out.trans (hb3.mono HB2.out.size))
  clear hb3 hn1 HOS HK2 HB2
  go_wp2_with fail
  refine (HON.out _).mono ?_
  rintro e w4 ⟨v2, rfl, hn2, hb4⟩
  have HN1 := Lib.hid (HN1.out.below hb4)
  have HN2 := Lib.hid hn2
  have HK4 := Lib.hid (HK3.out.below hb4 HK3.out.lt)
  have HB4 := Lib.hid (HB3.out.trans (hb4.mono HB3.out.size))
  clear hb4 hn2 HK3 HB3
  go_wp2_with fail
  refine (mul_num (j := 100) (k := 100) _ _ s n _ _ w4 HN1.out HN2.out HPW.out.1 HPW.out.2).mono ?_
  rintro e w5 ⟨v3, rfl, hn3, hb5⟩
  have HN3 := Lib.hid hn3
  have HK5 := Lib.hid (HK4.out.below hb5 HK4.out.lt)
  have HB5 := Lib.hid (HB4.out.trans (hb5.mono HB4.out.size))
  clear hb5 hn3 HK4 HB4 HN1 HN2
  go_wp2_with fail
  have HWD := Lib.hid (word_num _ _ _ w5 HN3.out)
  rw [fw_out HM.out, fb_out HM.out] at HWD
  refine HWD.out.mono ?_
  rintro e w6 ⟨rfl, hb6⟩
  have hk6 := HK5.out.below hb6 HK5.out.lt
  have t0 := hk6.cell 0
  have t1 := hk6.cell 1
  have HK6 := Lib.hid hk6
  have HB6 := Lib.hid (HB5.out.trans (hb6.mono HB5.out.size))
  clear hb6 hk6 HWD HK5 HB5 HN3
  go_wp2_with fail
  refine (alive12_any w6).mono ?_
  rintro e wz ⟨rfl, hbz⟩
  have HBZ := Lib.hid (HB6.out.trans (hbz.mono HB6.out.size))
  clear hbz
  go_wp2_with fail
  go_ret
  exact ⟨rfl, HBZ.out⟩

set_option maxHeartbeats 4000000 in
theorem builds12_zero (A : Option Addr) (xs : List Nat) (n cc : Nat) (w : World) (hl : xs.length = n) (hr : Rq w w.heap.size A xs) (hx : ∀ x ∈ xs, x < 18446744073709551616) (hn : n ≤ 300) (hf : up9 xs n = 0) :
    Calls Try.prog 3 #[.slice A n cc] w fun e w' => e = .returned (.bool true) ∧ Below w.heap.size w w' := by
  have i1 : ¬ (300 : Int) < (n : Int) := by omega
  have i3 : ¬ (5000 : Int) < (n : Int) := by omega
  have i4 : ¬ (4096 : Int) < (n : Int) := by omega
  have hwn : IntKind.u64.wrap (n : Int) = (n : Int) := by rw [IntKind.wrap_u64]; omega
  have HBU := Lib.hid (build12_zero A xs n cc w hl hr hx (by omega) hf)
  have HRT := Lib.hid (fun W (hb : Below w.heap.size w W) => rtotal_any A xs n cc W hl (Rv.step hr hb) hx (by omega))
  rw [hf, fw_in (by omega), fb_in (by omega)] at HRT
  have HOS := Lib.hid (fun W => of_any 0 W (by omega))
  rw [Int.natCast_zero] at HOS
  have HPW : Hid (0 < 65536 ^ 100 ∧ n < 65536 ^ 100) := Lib.hid ⟨pow_word (by omega), pow_word (by omega)⟩
  have HON := Lib.hid (fun W => of_any n W (by omega))
  clear hl hr hx hf
  go_enter Try.func3, Try.ntmps3
  go_wp2_with fail
  refine HBU.out.mono ?_
  rintro e w1 ⟨rfl, hb1⟩
  have HB1 := Lib.hid (hb1.alloc hb1.size (.cells #[.int .u64 0, .slice none 0 0] 27))
  have HK1 := Lib.hid (Blk.new w1 27 #[.int .u64 0, .slice none 0 0])
  clear hb1 HBU
  go_wp2_with fail
  refine (HRT.out _ HB1.out).mono ?_
  rintro e w2 ⟨rfl, hb2⟩
  have HK2 := Lib.hid (HK1.out.below hb2 HK1.out.lt)
  have HB2 := Lib.hid (HB1.out.trans (hb2.mono HB1.out.size))
  clear hb2 HRT HK1 HB1
  go_wp2_with fail
  refine (HOS.out _).mono ?_
  rintro e w3 ⟨v1, rfl, hn1, hb3⟩
  have HN1 := Lib.hid hn1
  have HK3 := Lib.hid (HK2.out.below hb3 HK2.out.lt)
  have HB3 := Lib.hid (HB2.out.trans (hb3.mono HB2.out.size))
  clear hb3 hn1 HOS HK2 HB2
  go_wp2_with fail
  refine (HON.out _).mono ?_
  rintro e w4 ⟨v2, rfl, hn2, hb4⟩
  have HN1 := Lib.hid (HN1.out.below hb4)
  have HN2 := Lib.hid hn2
  have HK4 := Lib.hid (HK3.out.below hb4 HK3.out.lt)
  have HB4 := Lib.hid (HB3.out.trans (hb4.mono HB3.out.size))
  clear hb4 hn2 HK3 HB3
  go_wp2_with fail
  refine (mul_num (j := 100) (k := 100) _ _ 0 n _ _ w4 HN1.out HN2.out HPW.out.1 HPW.out.2).mono ?_
  rintro e w5 ⟨v3, rfl, hn3, hb5⟩
  have HN3 := Lib.hid hn3
  have HK5 := Lib.hid (HK4.out.below hb5 HK4.out.lt)
  have HB5 := Lib.hid (HB4.out.trans (hb5.mono HB4.out.size))
  clear hb5 hn3 HK4 HB4 HN1 HN2
  go_wp2_with fail
  have HWD := Lib.hid (word_num _ _ _ w5 HN3.out)
  rw [Nat.zero_mul, fw_in (by omega), fb_in (by omega)] at HWD
  refine HWD.out.mono ?_
  rintro e w6 ⟨rfl, hb6⟩
  have hk6 := HK5.out.below hb6 HK5.out.lt
  have t0 := hk6.cell 0
  have t1 := hk6.cell 1
  have HK6 := Lib.hid hk6
  have HB6 := Lib.hid (HB5.out.trans (hb6.mono HB5.out.size))
  clear hb6 hk6 HWD HK5 HB5 HN3
  go_wp2_with fail
  refine (alive12_any w6).mono ?_
  rintro e wz ⟨rfl, hbz⟩
  have HBZ := Lib.hid (HB6.out.trans (hbz.mono HB6.out.size))
  clear hbz
  go_wp2_with fail
  go_ret
  exact ⟨rfl, HBZ.out⟩

set_option maxHeartbeats 4000000 in
theorem builds12_yes (A : Option Addr) (xs : List Nat) (n cc : Nat) (w : World) (hl : xs.length = n) (hr : Rq w w.heap.size A xs) (hx : ∀ x ∈ xs, x < 18446744073709551616) (t : Nat) (hn : n ≤ 300) (ht : up9 xs n = t) (ht0 : 0 < t) (hm : n * t < 18446744073709551616) :
    Calls Try.prog 3 #[.slice A n cc] w fun e w' => e = .returned (.bool true) ∧ Below w.heap.size w w' := by
  have i1 : ¬ (300 : Int) < (n : Int) := by omega
  have i3 : ¬ (5000 : Int) < (n : Int) := by omega
  have i4 : ¬ (4096 : Int) < (n : Int) := by omega
  have hwn : IntKind.u64.wrap (n : Int) = (n : Int) := by rw [IntKind.wrap_u64]; omega
  have ht64 : t < 18446744073709551616 := by
    rcases Nat.eq_zero_or_pos n with h0 | h0
    · rw [h0, up9_zero] at ht
      omega
    · have := Nat.mul_le_mul_right t (show 1 ≤ n by omega)
      omega
  have HBU := Lib.hid (build12_yes A xs n cc t w hl hr hx (by omega) ht ht0 hm)
  have HRT := Lib.hid (fun W (hb : Below w.heap.size w W) => rtotal_any A xs n cc W hl (Rv.step hr hb) hx (by omega))
  rw [ht, fw_in ht64, fb_in ht64] at HRT
  have HM : Hid (t * n < 18446744073709551616) := Lib.hid (by rw [Nat.mul_comm]; exact hm)
  have HOS := Lib.hid (fun W => of_any t W ht64)
  have HPW : Hid (t < 65536 ^ 100 ∧ n < 65536 ^ 100) := Lib.hid ⟨pow_word ht64, pow_word (by omega)⟩
  have HON := Lib.hid (fun W => of_any n W (by omega))
  have HL := Lib.hid hl
  have HR := Lib.hid hr
  have HX := Lib.hid hx
  have HT := Lib.hid ht
  have ht1 : ¬ (t : Int) = 0 := by omega
  have ht2 : ¬ t = 0 := by omega
  have HSELF : ∀ i : Int, (i != i) = false := fun i => by simp
  clear hl hr hx ht hm ht0
  go_enter Try.func3, Try.ntmps3
  go_wp2_with fail
  refine HBU.out.mono ?_
  rintro e w1 ⟨gc, c, o, rfl, hgc, hcb, hco, hcu, hb1⟩
  have hba := b1' w1 (.cells #[.int .u64 (t : Int), .slice (some ⟨gc, 0, none⟩) n n] 27)
  have HB1 := Lib.hid (hb1.trans (hba.mono hb1.size))
  have HK1 := Lib.hid (Blk.new w1 27 #[.int .u64 (t : Int), .slice (some ⟨gc, 0, none⟩) n n])
  have HCQ := Lib.hid (hcb.cq.step hba)
  have HRG : Hid (Rt12 t n c (fun k => ((o k : Nat) : Int))) := Lib.hid ⟨fun j hj => by have := hco j hj; show c j ≤ t ∧ 0 ≤ ((o j : Nat) : Int) ∧ ((o j : Nat) : Int) < (n : Int); omega, by omega, by rcases Nat.eq_zero_or_pos n with h0 | h0; (have h2 := HT.out; rw [h0, up9_zero] at h2; omega); exact h0⟩
  have HFR : Hid (Fr12 t n c (fun k => ((o k : Nat) : Int)) xs) := Lib.hid ⟨by rw [HL.out]; exact HT.out, HL.out, HRG.out, hcu⟩
  have HCU := Lib.hid hcu
  obtain ⟨oi, hoi⟩ : ∃ f : Nat → Int, (fun k => ((o k : Nat) : Int)) = f := ⟨_, rfl⟩
  rw [hoi] at HCQ HRG HFR HCU
  clear hoi hgc hcb hco hcu hb1 hba HBU
  go_wp2_with fail
  refine (HRT.out _ HB1.out).mono ?_
  rintro e w2 ⟨rfl, hb2⟩
  have HK2 := Lib.hid (HK1.out.below hb2 HK1.out.lt)
  have HB2 := Lib.hid (HB1.out.trans (hb2.mono HB1.out.size))
  have HCQ := Lib.hid (HCQ.out.step hb2)
  clear hb2 HRT HK1 HB1
  go_wp2_with fail
  refine (HOS.out _).mono ?_
  rintro e w3 ⟨v1, rfl, hn1, hb3⟩
  have HN1 := Lib.hid hn1
  have HK3 := Lib.hid (HK2.out.below hb3 HK2.out.lt)
  have HB3 := Lib.hid (HB2.out.trans (hb3.mono HB2.out.size))
  have HCQ := Lib.hid (HCQ.out.step hb3)
  clear hb3 hn1 HOS HK2 HB2
  go_wp2_with fail
  refine (HON.out _).mono ?_
  rintro e w4 ⟨v2, rfl, hn2, hb4⟩
  have HN1 := Lib.hid (HN1.out.below hb4)
  have HN2 := Lib.hid hn2
  have HK4 := Lib.hid (HK3.out.below hb4 HK3.out.lt)
  have HB4 := Lib.hid (HB3.out.trans (hb4.mono HB3.out.size))
  have HCQ := Lib.hid (HCQ.out.step hb4)
  clear hb4 hn2 HK3 HB3
  go_wp2_with fail
  refine (mul_num (j := 100) (k := 100) _ _ t n _ _ w4 HN1.out HN2.out HPW.out.1 HPW.out.2).mono ?_
  rintro e w5 ⟨v3, rfl, hn3, hb5⟩
  have HN3 := Lib.hid hn3
  have HK5 := Lib.hid (HK4.out.below hb5 HK4.out.lt)
  have HB5 := Lib.hid (HB4.out.trans (hb5.mono HB4.out.size))
  have HCQ := Lib.hid (HCQ.out.step hb5)
  clear hb5 hn3 HK4 HB4 HN1 HN2
  go_wp2_with fail
  have HWD := Lib.hid (word_num _ _ _ w5 HN3.out)
  rw [fw_in HM.out, fb_in HM.out] at HWD
  refine HWD.out.mono ?_
  rintro e w6 ⟨rfl, hb6⟩
  have hk6 := HK5.out.below hb6 HK5.out.lt
  have t0 := hk6.cell 0
  have t1 := hk6.cell 1
  have HK6 := Lib.hid hk6
  have HB6 := Lib.hid (HB5.out.trans (hb6.mono HB5.out.size))
  have HCQ := Lib.hid (HCQ.out.step hb6)
  clear hb6 hk6 HWD HK5 HB5 HN3
  have HCL := Lib.hid (columns12_any t n n (some ⟨gc, 0, none⟩) c oi w6 HCQ.out (by omega))
  obtain ⟨pr, hpr⟩ : ∃ q, t * n = q := ⟨_, rfl⟩
  clear HM hpr
  go_wp2_with fail
  refine HCL.out.mono ?_
  rintro e w7 ⟨A2, c2, rfl, hcl, hb7⟩
  have hk7 := HK6.out.below hb7 HK6.out.lt
  have t0 := hk7.cell 0
  have t1 := hk7.cell 1
  have HK7 := Lib.hid hk7
  have HB7 := Lib.hid (HB6.out.trans (hb7.mono HB6.out.size))
  have HCQ := Lib.hid (HCQ.out.step hb7)
  have HCR := Lib.hid hcl
  have HRR := Lib.hid (rright12_any t n c2 A2 c oi w7 hcl (by omega) true ⟨fun _ => HRG.out, fun _ => rfl⟩)
  clear hb7 hk7 hcl HCL HK6 HB6
  go_wp2_with fail
  refine HRR.out.mono ?_
  rintro e w8 ⟨rfl, rfl⟩
  have HFA := Lib.hid (fair12_any t n n (some ⟨gc, 0, none⟩) c oi A xs n cc w7 HCQ.out ht64 (fun j hj => by have := (HRG.out.1 j hj).1; omega) (by omega) HL.out (Rv.step HR.out HB7.out) HX.out (by omega) true ⟨fun _ => HFR.out, fun _ => rfl⟩)
  clear HRR
  go_wp2_with fail
  refine HFA.out.mono ?_
  rintro e w9 ⟨rfl, hb9⟩
  have HB9 := Lib.hid (HB7.out.trans (hb9.mono HB7.out.size))
  have HCR9 := Lib.hid (HCR.out.step hb9)
  clear hb9 HFA HCR HK7 HB7 HCQ t0 t1
  go_wp2_with fail
  go_loopw [10] (fun x wr => ∃ k : Nat, x = .int .i64 (k : Int) ∧ k ≤ n ∧ Hid (Cq wr wr.heap.size A2 n c oi) ∧ Hid (Below w.heap.size w wr)) (fun x _ => n - (intOf x).toNat)
  case atStart => exact ⟨0, rfl, by omega, HCR9, HB9⟩
  case round =>
    obtain ⟨k, rfl, hk, HCQ, HBR⟩ := hrel
    by_cases hkn : k < n
    · obtain ⟨a, p, hA, ha, g0⟩ := Rq.at_ HR.out (show k < xs.length by have := HL.out; omega)
      subst hA
      have hcu := HCU.out k hkn
      obtain ⟨x, hxk⟩ : ∃ x, nth xs k = x := ⟨_, rfl⟩
      have hx64 : x < 18446744073709551616 := by rw [← hxk]; exact nth_lt9 HX.out k
      rw [hxk] at g0 hcu
      have HCUE : Hid (cu t c oi (k : Int) n = x * n) := Lib.hid (by rw [hcu, Nat.mul_comm])
      have HOX := Lib.hid (fun W => of_any x W hx64)
      have HPX : Hid (x < 65536 ^ 100 ∧ x * n < 65536 ^ 100) := Lib.hid ⟨pow_word hx64, pow_big (by have := Nat.mul_le_mul (show x ≤ 18446744073709551616 by omega) (show n ≤ 300 by omega); omega)⟩
      have hi0 : (0 : Int) ≤ (k : Int) := by omega
      have hi1 : (k : Int) < (n : Int) := by omega
      clear hcu hxk
      go_wp2_with fail
      have HB0 := Lib.hid HBR.out.drew
      refine wp_region_held_drew (S := fun W => Below w.heap.size w W) (by kernel_rfl) HB0.out (fun hHeld => ?_)
      have HCQ := Lib.hid (HCQ.out.step (Below.refl _ _).drew)
      obtain ⟨wn, hwn⟩ : ∃ W, wr.drew = W := ⟨_, rfl⟩
      rw [hwn] at HCQ hHeld HB0
      rw [hwn]
      have HBS := HB0
      clear hwn
      refine wpAnyH_take (i := 0) (v := ?_) (op_of rfl) (by kernel_rfl) (by kernel_rfl) (by kernel_rfl) (fun _ _ _ h => h) (Or.inl ⟨by rfl, fun W hS => ?_⟩) (by assumption) ?_
      rotate_left
      · dsimp only at hS
        go_simp
        try with_reducible rfl
      try dsimp only [Act.put]
      try simp only [List.setIfInBounds_toArray, List.set_cons_zero, List.set_cons_succ]
      refine wpAnyH_take (i := 1) (v := ?_) (op_of rfl) (by kernel_rfl) (by kernel_rfl) (by kernel_rfl) (fun _ _ _ h => h) (Or.inl ⟨by rfl, fun W hS => ?_⟩) (by assumption) ?_
      rotate_left
      · dsimp only at hS
        go_simp
        try with_reducible rfl
      try dsimp only [Act.put]
      try simp only [List.setIfInBounds_toArray, List.set_cons_zero, List.set_cons_succ]
      refine wpAnyH_take (i := 2) (v := ?_) (op_of rfl) (by kernel_rfl) (by kernel_rfl) (by kernel_rfl) (fun _ _ _ h => h) (Or.inl ⟨by rfl, fun W hS => ?_⟩) (by assumption) ?_
      rotate_left
      · dsimp only at hS
        go_simp
        try with_reducible rfl
      try dsimp only [Act.put]
      try simp only [List.setIfInBounds_toArray, List.set_cons_zero, List.set_cons_succ]
      refine wpAnyH_take (i := 4) (v := ?_) (op_of rfl) (by kernel_rfl) (by kernel_rfl) (by kernel_rfl) (fun _ _ _ h => h) (Or.inl ⟨by rfl, fun W hS => ?_⟩) (by assumption) ?_
      rotate_left
      · dsimp only at hS
        go_simp
        try with_reducible rfl
      try dsimp only [Act.put]
      try simp only [List.setIfInBounds_toArray, List.set_cons_zero, List.set_cons_succ]
      refine wpAnyH_take (i := 5) (v := ?_) (op_of rfl) (by kernel_rfl) (by kernel_rfl) (by kernel_rfl) (fun _ _ _ h => h) (Or.inl ⟨by rfl, fun W hS => ?_⟩) (by assumption) ?_
      rotate_left
      · dsimp only at hS
        go_simp
        try with_reducible rfl
      try dsimp only [Act.put]
      try simp only [List.setIfInBounds_toArray, List.set_cons_zero, List.set_cons_succ]
      refine wpAnyH_take (i := 6) (v := ?_) (op_of rfl) (by kernel_rfl) (by kernel_rfl) (by kernel_rfl) (fun _ _ _ h => h) (Or.inl ⟨by rfl, fun W hS => ?_⟩) (by assumption) ?_
      rotate_left
      · dsimp only at hS
        go_simp
        try with_reducible rfl
      try dsimp only [Act.put]
      try simp only [List.setIfInBounds_toArray, List.set_cons_zero, List.set_cons_succ]
      refine wpAnyH_take (i := 7) (v := ?_) (op_of rfl) (by kernel_rfl) (by kernel_rfl) (by kernel_rfl) (fun _ _ _ h => h) (Or.inl ⟨by rfl, fun W hS => ?_⟩) (by assumption) ?_
      rotate_left
      · dsimp only at hS
        have z4 := (hS.cell (p := ⟨a, p + k, none⟩) ha).trans g0
        go_simp
        try with_reducible rfl
      try dsimp only [Act.put]
      try simp only [List.setIfInBounds_toArray, List.set_cons_zero, List.set_cons_succ]
      refine wpAnyH_take (i := 9) (v := ?_) (op_of rfl) (by kernel_rfl) (by kernel_rfl) (by kernel_rfl) (fun _ _ _ h => h) (Or.inl ⟨by rfl, fun W hS => ?_⟩) (by assumption) ?_
      rotate_left
      · dsimp only at hS
        go_simp
        try with_reducible rfl
      try dsimp only [Act.put]
      try simp only [List.setIfInBounds_toArray, List.set_cons_zero, List.set_cons_succ]
      refine wpAnyH_take (i := 10) (v := ?_) (op_of rfl) (by kernel_rfl) (by kernel_rfl) (by kernel_rfl) (fun _ _ _ h => h) (Or.inl ⟨by rfl, fun W hS => ?_⟩) (by assumption) ?_
      rotate_left
      · dsimp only at hS
        go_simp
        try with_reducible rfl
      try dsimp only [Act.put]
      try simp only [List.setIfInBounds_toArray, List.set_cons_zero, List.set_cons_succ]
      refine wpAnyH_take (i := 11) (v := ?_) (op_of rfl) (by kernel_rfl) (by kernel_rfl) (by kernel_rfl) (fun _ _ _ h => h) (Or.inl ⟨by rfl, fun W hS => ?_⟩) (by assumption) ?_
      rotate_left
      · dsimp only at hS
        go_simp
        try with_reducible rfl
      try dsimp only [Act.put]
      try simp only [List.setIfInBounds_toArray, List.set_cons_zero, List.set_cons_succ]
      refine wpAnyH_ready (rs := [3]) (by kernel_rfl) (by simp) (AllReadyH.cons (op_of rfl) (fun K hK => ?_) AllReadyH.nil)
      go_simp
      refine (rcount12_any t n c2 A2 c oi (k : Int) wn HCQ.out ht64 (fun j hj => (HRG.out.1 j hj).1) (by omega)).mono ?_
      rintro en wn ⟨v5, rfl, hn5, hb⟩
      have HCQ := Lib.hid (HCQ.out.step hb)
      have HBS := Lib.hid (HBS.out.trans (hb.mono HBS.out.size))
      have HN5 := Lib.hid hn5
      clear hb hn5
      refine hK.out _ _ HBS.out (fun hHeld => ?_)
      clear hK K
      try dsimp only [Act.put]
      try simp only [List.setIfInBounds_toArray, List.set_cons_zero, List.set_cons_succ]
      refine wpAnyH_ready (rs := [8]) (by kernel_rfl) (by simp) (AllReadyH.cons (op_of rfl) (fun K hK => ?_) AllReadyH.nil)
      go_simp
      refine (HOX.out wn).mono ?_
      rintro en wn ⟨v6, rfl, hn6, hb⟩
      have HCQ := Lib.hid (HCQ.out.step hb)
      have HBS := Lib.hid (HBS.out.trans (hb.mono HBS.out.size))
      have HN5 := Lib.hid (HN5.out.below hb)
      have HN6 := Lib.hid hn6
      clear hb hn6
      refine hK.out _ _ HBS.out (fun hHeld => ?_)
      clear hK K
      try dsimp only [Act.put]
      try simp only [List.setIfInBounds_toArray, List.set_cons_zero, List.set_cons_succ]
      refine wpAnyH_ready (rs := [12]) (by kernel_rfl) (by simp) (AllReadyH.cons (op_of rfl) (fun K hK => ?_) AllReadyH.nil)
      go_simp
      refine (HON.out wn).mono ?_
      rintro en wn ⟨v7, rfl, hn7, hb⟩
      have HCQ := Lib.hid (HCQ.out.step hb)
      have HBS := Lib.hid (HBS.out.trans (hb.mono HBS.out.size))
      have HN5 := Lib.hid (HN5.out.below hb)
      have HN6 := Lib.hid (HN6.out.below hb)
      have HN7 := Lib.hid hn7
      clear hb hn7
      refine hK.out _ _ HBS.out (fun hHeld => ?_)
      clear hK K
      try dsimp only [Act.put]
      try simp only [List.setIfInBounds_toArray, List.set_cons_zero, List.set_cons_succ]
      refine wpAnyH_ready (rs := [13]) (by kernel_rfl) (by simp) (AllReadyH.cons (op_of rfl) (fun K hK => ?_) AllReadyH.nil)
      go_simp
      refine (mul_num (j := 100) (k := 100) _ _ x n _ _ wn HN6.out HN7.out HPX.out.1 HPW.out.2).mono ?_
      rintro en wn ⟨v8, rfl, hn8, hb⟩
      have HCQ := Lib.hid (HCQ.out.step hb)
      have HBS := Lib.hid (HBS.out.trans (hb.mono HBS.out.size))
      have HN5 := Lib.hid (HN5.out.below hb)
      have HN8 := Lib.hid hn8
      clear hb hn8
      refine hK.out _ _ HBS.out (fun hHeld => ?_)
      clear hK K
      try dsimp only [Act.put]
      try simp only [List.setIfInBounds_toArray, List.set_cons_zero, List.set_cons_succ]
      refine wpAnyH_ready (rs := [14]) (by kernel_rfl) (by simp) (AllReadyH.cons (op_of rfl) (fun K hK => ?_) AllReadyH.nil)
      go_simp
      refine (cmp_same (j := 100) _ _ _ _ _ _ wn HN5.out HN8.out HPX.out.2 HCUE.out).mono ?_
      rintro en wn ⟨rfl, hb⟩
      have HCQ := Lib.hid (HCQ.out.step hb)
      have HBS := Lib.hid (HBS.out.trans (hb.mono HBS.out.size))
      clear hb
      refine hK.out _ _ HBS.out (fun hHeld => ?_)
      clear hK K
      try dsimp only [Act.put]
      try simp only [List.setIfInBounds_toArray, List.set_cons_zero, List.set_cons_succ]
      refine wpAnyH_take (i := 15) (v := ?_) (op_of rfl) (by kernel_rfl) (by kernel_rfl) (by kernel_rfl) (fun _ _ _ h => h) (Or.inl ⟨by rfl, fun W hS => ?_⟩) (by assumption) ?_
      rotate_left
      · dsimp only at hS
        go_simp
        try with_reducible rfl
      try dsimp only [Act.put]
      try simp only [List.setIfInBounds_toArray, List.set_cons_zero, List.set_cons_succ]
      refine wpAnyH_done (by kernel_rfl) ?_ _
      go_wp2_with fail
      go_roundw
      case rel => exact ⟨k + 1, by go_num, by omega, HCQ, HBS⟩
      case measure => simp [intOf]; omega
    · obtain rfl : k = n := by omega
      go_wp2_with fail
      refine (alive12_any wr).mono ?_
      rintro e wz ⟨rfl, hbz⟩
      have HBZ := Lib.hid (HBR.out.trans (hbz.mono HBR.out.size))
      clear hbz
      go_wp2_with fail
      go_ret
      exact ⟨rfl, HBZ.out⟩


theorem aliasBuilds_walk (A : Option Addr) (xs : List Nat) (n cc : Nat) (w : World) (hl : xs.length = n) (hr : Rq w w.heap.size A xs) (hx : ∀ x ∈ xs, x < 18446744073709551616) :
    Calls Try.prog 3 #[.slice A n cc] w fun e w' => e = .returned (.bool true) ∧ Below w.heap.size w w' := by
  rcases (show n ≤ 300 ∨ (300 < n ∧ n ≤ 4096) ∨ (4096 < n ∧ n ≤ 5000) ∨ 5000 < n by omega) with h | ⟨h1, h2⟩ | ⟨h1, h2⟩ | h
  · rcases Nat.lt_or_ge (up9 xs n) 18446744073709551616 with hf | hf
    · rcases Nat.lt_or_ge (n * up9 xs n) 18446744073709551616 with hm | hm
      · rcases Nat.eq_zero_or_pos (up9 xs n) with h0 | h0
        · exact builds12_zero A xs n cc w hl hr hx h h0
        · exact builds12_yes A xs n cc w hl hr hx (up9 xs n) h rfl h0 hm
      · exact builds12_wide A xs n cc w hl hr hx h hf hm
    · exact builds12_over A xs n cc w hl hr hx h hf
  · exact builds12_mid A n cc w h1 h2
  · exact builds12_many A n cc w h1 h2
  · exact builds12_far A n cc w h
end Go.Proofs.Ytcanahjilfnijaa
