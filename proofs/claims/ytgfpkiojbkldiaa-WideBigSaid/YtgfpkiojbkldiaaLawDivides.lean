/-
  For any wide number a and word d: a is the quotient times d, and the rest, which is below d; by 0 it is not divided. No conditions.
-/
import Derived.Test.YtgfpkiojbkldiaaLawSmall
import Derived.Test.YtgfpkiojbkldiaaWide
import Derived.Test.YtgfpkiojbkldiaaCmp
import Derived.Test.YtgfpkiojbkldiaaRow
namespace Go.Proofs.Ytgfpkiojbkldiaa
open Go.ChangeShapes Go.WideShapes Go.ChangeAt Go.RowKit

set_option maxRecDepth 100000 in
set_option maxHeartbeats 3200000 in
theorem wideDivides_zero (H1 M1 : Nat) (w : World) :
    Calls Try.prog 5 #[.agg #[.int .u64 (H1 : Int), .int .u64 (M1 : Int)], .int .u64 0] w fun e w' => e = .returned (.bool true) ∧ Below w.heap.size w w' := by
  have hweq := wide_eq
  have hwg := wide_guard
  have hb0 := below1 w (.cells #[.int .u64 (H1 : Int), .int .u64 (M1 : Int)] 30)
  go_enter Try.func5, Try.ntmps5
  go_wp2_with fail
  refine (divw_zero H1 M1 _).mono ?_
  rintro e w1 ⟨rfl, hb1⟩
  have hB1 := hb0.trans (hb1.mono hb0.size)
  have hB2 := hB1.alloc hB1.size (.cells #[.int .u64 0, .int .u64 0] 30)
  clear hb0 hb1
  go_wp2_with fail
  refine (alive_any _).mono ?_
  rintro e w2 ⟨rfl, hb2⟩
  have hB3 := hB2.trans (hb2.mono hB2.size)
  go_wp2_with fail
  go_ret
  exact ⟨by simp, hB3⟩

theorem held_six {wb W W' : World} {p q r s t u : Addr} {a b c d e f : Value} (hb : Below W.heap.size W W')
    (h : W.cell? p = some a ∧ W.cell? q = some b ∧ W.cell? r = some c ∧ W.cell? s = some d ∧ W.cell? t = some e ∧ W.cell? u = some f ∧ Below wb.heap.size wb W) :
    W'.cell? p = some a ∧ W'.cell? q = some b ∧ W'.cell? r = some c ∧ W'.cell? s = some d ∧ W'.cell? t = some e ∧ W'.cell? u = some f ∧ Below wb.heap.size wb W' := by
  obtain ⟨h1, h2, h3, h4, h5, h6, h7⟩ := h
  exact ⟨(hb.cell (World.block_lt_of_cell? W _ h1)).trans h1, (hb.cell (World.block_lt_of_cell? W _ h2)).trans h2, (hb.cell (World.block_lt_of_cell? W _ h3)).trans h3, (hb.cell (World.block_lt_of_cell? W _ h4)).trans h4,
    (hb.cell (World.block_lt_of_cell? W _ h5)).trans h5, (hb.cell (World.block_lt_of_cell? W _ h6)).trans h6, h7.trans (hb.mono h7.size)⟩
theorem wide_big {H L : Nat} (h1 : H < 18446744073709551616) (h2 : L < 18446744073709551616) : H * 18446744073709551616 + L < 340282366920938463463374607431768211456 := by omega
theorem cmp_num (v1 v2 : Value) (a b L1 L2 : Nat) (w : World) (h1 : Num w L1 v1 a) (h2 : Num w L2 v2 b) (ha : a < 65536 ^ 100) (hb : b < 65536 ^ 100) :
    Calls Try.prog 22 #[v1, v2] w fun e w' => e = .returned (.int .i64 (cmpI a b)) ∧ Below w.heap.size w w' := by
  obtain ⟨A1, xs, n1, c1, rfl, hl1, _, hr1, hc1, e1, hn1⟩ := h1.form ha
  obtain ⟨A2, ys, n2, c2, rfl, hl2, _, hr2, hc2, e2, hn2⟩ := h2.form hb
  have := cmp_loop A1 A2 xs ys n1 c1 n2 c2 100 w hl1.out hl2.out hr1 hr2 hc1.1 hc2.1 hn1 hn2 (by omega)
  rw [e1.out, e2.out] at this
  exact this
theorem cmp_same (v1 v2 : Value) (a b L1 L2 : Nat) (w : World) (h1 : Num w L1 v1 a) (h2 : Num w L2 v2 b) (hb : b < 65536 ^ 100) (he : a = b) :
    Calls Try.prog 22 #[v1, v2] w fun e w' => e = .returned (.int .i64 0) ∧ Below w.heap.size w w' := by
  subst he
  have := cmp_num v1 v2 a a L1 L2 w h1 h2 hb hb
  rw [cmpI_eq rfl] at this
  exact this

set_option maxRecDepth 100000 in
set_option maxHeartbeats 3200000 in
theorem wideDivides_walk (H1 M1 d : Nat) (h1 : H1 < 18446744073709551616) (h2 : M1 < 18446744073709551616) (h3 : d < 18446744073709551616) (hd : 0 < d) (w : World) :
    Calls Try.prog 5 #[.agg #[.int .u64 (H1 : Int), .int .u64 (M1 : Int)], .int .u64 (d : Int)] w fun e w' => e = .returned (.bool true) ∧ Below w.heap.size w w' := by
  have hweq := wide_eq
  have hwg := wide_guard
  have hd0 : ((d : Int) == 0) = false := by simp; omega
  have hb0 := below1 w (.cells #[.int .u64 (H1 : Int), .int .u64 (M1 : Int)] 30)
  have hbx := Blk.new w 30 #[.int .u64 (H1 : Int), .int .u64 (M1 : Int)]
  have HBX := Lib.hid hbx
  clear hbx
  go_enter Try.func5, Try.ntmps5
  go_wp2_with fail
  refine (divw_any H1 M1 d _ h1 h2 h3 hd).mono ?_
  rintro e w1 ⟨QH, QL, r, rfl, hQH, hQL, hq, hr, hb1⟩
  have HQ := Lib.hid hq
  have HB1 := Lib.hid (HBX.out.below hb1 HBX.out.lt)
  have hB1 := hb0.trans (hb1.mono hb0.size)
  clear hq hb0 hb1
  go_wp2_with fail
  refine (timesw_any QH QL d _ hQH hQL h3).mono ?_
  rintro e w2 ⟨PH, PL, ok, rfl, hPH, hPL, hok, hy, hn, hb2⟩
  have hle : (QH * 18446744073709551616 + QL) * d < 340282366920938463463374607431768211456 := by have := HQ.out; omega
  obtain rfl : ok = true := by rw [hok]; simpa using hle
  have hP := hy rfl
  have HP := Lib.hid hP
  have hblk2 := Blk.new w1 30 #[.int .u64 (QH : Int), .int .u64 (QL : Int)]
  have HB2 := Lib.hid ((HB1.out.alloc (.cells #[.int .u64 (QH : Int), .int .u64 (QL : Int)] 30)).below hb2 (HB1.out.alloc (.cells #[.int .u64 (QH : Int), .int .u64 (QL : Int)] 30)).lt)
  have HQ2 := Lib.hid (hblk2.below hb2 hblk2.lt)
  have hB2 := (hB1.alloc hB1.size (.cells #[.int .u64 (QH : Int), .int .u64 (QL : Int)] 30)).trans (hb2.mono (by have := hB1.size; simp; omega))
  clear hok hy hn hle hP hb2 hblk2
  go_wp2_with fail
  have hsum := sumw_any PH PL 0 r (w2.alloc (.cells #[.int .u64 (PH : Int), .int .u64 (PL : Int)] 30)) hPH hPL (by omega) (by omega)
  rw [Int.natCast_zero] at hsum
  refine hsum.mono ?_
  rintro e w3 ⟨SH, SL, ok, rfl, hSH, hSL, hok, hy, hn, hb3⟩
  have htot : PH * 18446744073709551616 + PL + (0 * 18446744073709551616 + r) = H1 * 18446744073709551616 + M1 := by have e1 := HQ.out; rw [HP.out] at e1; rw [e1, Nat.zero_mul, Nat.zero_add]
  rw [htot] at hok hy
  obtain rfl : ok = true := by rw [hok]; simp; omega
  have hS := hy rfl
  obtain ⟨rfl, rfl⟩ : H1 = SH ∧ M1 = SL := by omega
  have hblk3 := Blk.new (w2.alloc (.cells #[.int .u64 (PH : Int), .int .u64 (PL : Int)] 30)) 30 #[.int .u64 (H1 : Int), .int .u64 (M1 : Int)]
  have hbA := (HB2.out.alloc (.cells #[.int .u64 (PH : Int), .int .u64 (PL : Int)] 30)).below hb3 (HB2.out.alloc (.cells #[.int .u64 (PH : Int), .int .u64 (PL : Int)] 30)).lt
  have hbQ := (HQ2.out.alloc (.cells #[.int .u64 (PH : Int), .int .u64 (PL : Int)] 30)).below hb3 (HQ2.out.alloc (.cells #[.int .u64 (PH : Int), .int .u64 (PL : Int)] 30)).lt
  have hB3 := (hB2.alloc hB2.size (.cells #[.int .u64 (PH : Int), .int .u64 (PL : Int)] 30)).trans (hb3.mono (by have := hB2.size; simp; omega))
  have hS3 := Blk.new w3 30 #[.int .u64 (H1 : Int), .int .u64 (M1 : Int)]
  have cA0 := (hbA.alloc (.cells #[.int .u64 (H1 : Int), .int .u64 (M1 : Int)] 30)).cell 0
  have cA1 := (hbA.alloc (.cells #[.int .u64 (H1 : Int), .int .u64 (M1 : Int)] 30)).cell 1
  have cQ0 := (hbQ.alloc (.cells #[.int .u64 (H1 : Int), .int .u64 (M1 : Int)] 30)).cell 0
  have cQ1 := (hbQ.alloc (.cells #[.int .u64 (H1 : Int), .int .u64 (M1 : Int)] 30)).cell 1
  have cS0 := hS3.cell 0
  have cS1 := hS3.cell 1
  have hB4 := hB3.alloc hB3.size (.cells #[.int .u64 (H1 : Int), .int .u64 (M1 : Int)] 30)
  have ll := hbA.lt
  have lq := hbQ.lt
  clear hok hy hn htot hS hb3 hblk3 hsum hS3 hbA hbQ
  go_wp2_with fail
  have hrd : decide ((r : Int) < (d : Int)) = true := by simp; omega
  go_region_held3 (fun w' => w'.cell? ⟨w.heap.size, 0, none⟩ = some (.int .u64 (H1 : Int)) ∧ w'.cell? ⟨w.heap.size, 1, none⟩ = some (.int .u64 (M1 : Int)) ∧ w'.cell? ⟨w1.heap.size, 0, none⟩ = some (.int .u64 (QH : Int)) ∧
      w'.cell? ⟨w1.heap.size, 1, none⟩ = some (.int .u64 (QL : Int)) ∧ w'.cell? ⟨w3.heap.size, 0, none⟩ = some (.int .u64 (H1 : Int)) ∧ w'.cell? ⟨w3.heap.size, 1, none⟩ = some (.int .u64 (M1 : Int)) ∧ Below ((w3.alloc (.cells #[.int .u64 (H1 : Int), .int .u64 (M1 : Int)] 30))).heap.size ((w3.alloc (.cells #[.int .u64 (H1 : Int), .int .u64 (M1 : Int)] 30))) w')
    (first | exact ⟨cA0, cA1, cQ0, cQ1, cS0, cS1, (Below.refl _ _).drew⟩ | assumption)
    (first
      | (go_at_call 17; (with_reducible refine (wide_any QH QL _ hQH hQL).mono ?_); rintro e u1 ⟨v1, rfl, hn1, hb1⟩; have N1 := Lib.hid hn1; clear hn1; have hS1 := held_six hb1 (by assumption))
      | (go_at_call 6; (with_reducible refine (of_any d _ h3).mono ?_); rintro e u2 ⟨v2, rfl, hn2, hb2⟩; have N1b := Lib.hid (N1.out.below hb2); have N2 := Lib.hid hn2; clear hn2; have hS2 := held_six hb2 (by assumption))
      | (go_at_call 13; (with_reducible refine (mul_num v1 v2 _ _ _ _ _ N1b.out N2.out (pow_big (wide_big hQH hQL)) (pow_word h3)).mono ?_); rintro e u3 ⟨v3, rfl, hn3, hb3'⟩; have N3 := Lib.hid hn3; clear hn3; have hS3 := held_six hb3' (by assumption))
      | (go_at_call 6; (with_reducible refine (of_any r _ (by omega)).mono ?_); rintro e u4 ⟨v4, rfl, hn4, hb4⟩; have N3b := Lib.hid (N3.out.below hb4); have N4 := Lib.hid hn4; clear hn4; have hS4 := held_six hb4 (by assumption))
      | (go_at_call 12; (with_reducible refine (add_num v3 v4 _ _ _ _ _ N3b.out N4.out (pow_big (Nat.lt_of_le_of_lt (Nat.le_of_eq HP.out) (wide_big hPH hPL))) (pow_word (by omega))).mono ?_); rintro e u5 ⟨v5, rfl, hn5, hb5⟩; have N5 := Lib.hid hn5; clear hn5; have hS5 := held_six hb5 (by assumption))
      | (go_at_call 17; (with_reducible refine (wide_any H1 M1 _ h1 h2).mono ?_); rintro e u6 ⟨v6, rfl, hn6, hb6⟩; have N5b := Lib.hid (N5.out.below hb6); have N6 := Lib.hid hn6; clear hn6; have hS6 := held_six hb6 (by assumption))
      | (go_at_call 22; (with_reducible refine (cmp_same v5 v6 _ _ _ _ _ N5b.out N6.out (pow_big (wide_big h1 h2)) HQ.out.symm).mono ?_); rintro e u7 ⟨rfl, hb7⟩; have hS7 := held_six hb7 (by assumption))
      | (go_at_call 15; (with_reducible refine (alive_any _).mono ?_); rintro e u8 ⟨rfl, hb8⟩; have hS8 := held_six hb8 (by assumption)))
  have hfin := hS8.2.2.2.2.2.2
  have hBf := hB4.trans (hfin.mono hB4.size)
  clear hS1 hS2 hS3 hS4 hS5 hS6 hS7 hS8
  go_wp2_with fail
  go_ret
  exact ⟨rfl, hBf⟩

set_option maxRecDepth 100000 in
theorem wideDivides_lifted (os : Os) (started : os.Started) (H : Type) (enc : TypeId × Value → H) :
    ReturnsInHanded {} Try.checked os 5 .any (Rows.wideDividesSpec.pre6 enc Try.prog Try.f5 Rows.wideDividesRow.domain false) (Rows.wideDividesSpec.post enc Try.prog Try.f5 false true false false) := by
  refine returnsInHanded_of_change (C := Try.checked) own_knob started (by kernel_rfl) Try.func5
    (ChangeSpec.witness6 (enc := enc) (C := Try.checked) false ⟨#[], #[.agg #[.int .u64 0, .int .u64 0], .int .u64 0], []⟩ 8 (by kernel_rfl) (by kernel_rfl) (by kernel_rfl) (by kernel_rfl)) ?_
  intro W base args ds gs before hval0 hW hcnd _
  have hval : ∀ (j : Nat) t v, Try.f5.params[j]? = some t → args[j]? = some v → Value.okWide Try.prog W .any base t v := hval0
  have hW' : DataW.Whole enc Try.prog Try.f5.params.toList Rows.wideDividesSpec.vars false W args.toList ds gs before := hW
  obtain ⟨p, q, hA0, hV, hpq, hfz, hnd⟩ := hW
  have hA : DataW.TrodAll enc Try.prog W 0 (fun _ => true) true Try.f5.params.toList args.toList ds p := hA0
  rw [Try.params5] at hA hval
  obtain ⟨v0, vs0, d0, ds0, p0, q0, hargs, rfl, rfl, h0, r0⟩ := trodAll_cons hA
  obtain ⟨v1, vs1, d1, ds1, p1, q1, rfl, rfl, rfl, h1, r1⟩ := trodAll_cons r0
  obtain ⟨rfl, rfl, rfl⟩ := trodAll_nil r1
  obtain rfl : args = #[v0, v1] := by cases args; simp_all
  obtain ⟨a, b, rfl, ha, hb⟩ := open_wide (hval 0 30 v0 rfl rfl) h0
  obtain ⟨n, rfl, hn⟩ := open_u64 (hval 1 22 v1 rfl rfl) h1
  have hwalk : Calls Try.prog 5 #[.agg #[.int .u64 (a : Int), .int .u64 (b : Int)], .int .u64 (n : Int)] W fun e w' => e = .returned (.bool true) ∧ Below W.heap.size W w' := by
    rcases Nat.eq_zero_or_pos n with h | h
    · subst h; exact wideDivides_zero a b W
    · exact wideDivides_walk a b n ha hb hn h W
  refine hwalk.mono fun e W' ⟨he, hg⟩ => ?_
  subst he
  exact ⟨_, rfl, law_post laid_out (by kernel_rfl) Try.underlying4 (by kernel_rfl) rfl hW' rfl hg⟩

theorem wideDivides_over : Rows.wideDividesRow.holds Try.pinned (OpenSpec.ofChange Rows.wideDividesSpec) :=
  OpenClaim.holds_of_wide 5 Try.f5 rfl rfl rfl rfl rfl rfl rfl ⟨rfl, rfl, rfl, rfl, rfl⟩ rfl rfl rfl rfl rfl (by kernel_rfl) Try.func5 (by kernel_rfl)
    (of_decide_eq_true (by kernel_rfl)) (by unfold Func.isWrapper; first | (rw [if_pos (by decide +kernel)]; kernel_rfl) | (rw [if_neg (by decide +kernel)]; exact ⟨rfl, rfl⟩))
    (fun os started H enc _ => wideDivides_lifted os started H enc)

theorem wideDivides_holds : Rows.WideDividesSaid :=
  wideDivides_over
end Go.Proofs.Ytgfpkiojbkldiaa
