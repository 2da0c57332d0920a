/-
  For any two words a, b: sums, differences and products of package wide are the document's, and whether they fit is. No conditions.
-/
import Derived.Test.YtgfpkiojbkldiaaRows
import Derived.Test.YtgfpkiojbkldiaaLawA
import Derived.Test.YtgfpkiojbkldiaaOf
import Derived.Test.YtgfpkiojbkldiaaSub
import Derived.Test.YtgfpkiojbkldiaaMul
import Derived.ProofKit
import Derived.OpenShut
namespace Go.Proofs.Ytgfpkiojbkldiaa
open Go.ChangeShapes Go.WideShapes Go.ChangeAt Go.RowKit

section
variable {H : Type} {enc : TypeId × Value → H} {P : Program}
/-- A call that leaves all old memory as it was meets a row without 'again'. -/
theorem post_of_below {f : Func} {s : ChangeSpec} {apart fresh handsOn : Bool} {W W' : World} {args : Array Value} {v : Value} {ds gs : List (DataW H)} {before pa pv : List MemPlace}
    (hW : DataW.Whole enc P f.params.toList s.vars apart W args.toList ds gs before)
    (hres : ∀ (b : Nat) (sp : Nat → Bool) (hd : Bool), DataW.TrodAll enc P W' b sp hd f.resultTypes.toList (v.resultList f.resultTypes.size) (s.fn H (ds ++ gs)).results [])
    (hargs : ∀ sp : Nat → Bool, (∀ p ∈ before, sp p.block = true) → DataW.TrodAll enc P W' 0 sp true f.params.toList args.toList (s.fn H (ds ++ gs)).args pa)
    (hvars : ∀ sp : Nat → Bool, (∀ p ∈ before, sp p.block = true) → DataW.TrodVars enc P W' sp s.vars (s.fn H (ds ++ gs)).vars pv)
    (hps : before = pa ++ pv) (hb : Below W.heap.size W W') : s.post enc P f apart fresh handsOn false W args v W' := by
  have hold : ∀ p ∈ before, (fun b => decide (b < W.heap.size)) p.block = true := fun p hp => by simpa using hW.lt p hp
  refine ⟨ds, gs, before, [], pa, pv, hW, hres _ _ _, hargs _ hold, hvars _ hold, World.keptBut_mono (fun p hp => ⟨hp, ?_⟩) (hb.frame _), fun h => by cases h⟩
  rw [hps, List.mem_append] at hp
  exact Or.inr hp
end

theorem add_num (v1 v2 : Value) (a b L1 L2 : Nat) (w : World) (h1 : Num w L1 v1 a) (h2 : Num w L2 v2 b) (ha : a < 65536 ^ 100) (hb : b < 65536 ^ 100) :
    Calls Try.prog 12 #[v1, v2] w (RetNum w (a + b)) := by
  obtain ⟨A1, xs, n1, c1, rfl, hl1, _, hr1, hc1, e1, hn1⟩ := h1.form ha
  obtain ⟨A2, ys, n2, c2, rfl, hl2, _, hr2, hc2, e2, hn2⟩ := h2.form hb
  have := add_any A1 A2 xs ys n1 c1 n2 c2 100 w hl1.out hl2.out hr1 hr2 hc1.1 hc2.1 hn1 hn2 (by omega)
  rw [e1.out, e2.out] at this
  exact this
theorem mul_num (v1 v2 : Value) (a b L1 L2 : Nat) (w : World) (h1 : Num w L1 v1 a) (h2 : Num w L2 v2 b) (ha : a < 65536 ^ 100) (hb : b < 65536 ^ 100) :
    Calls Try.prog 13 #[v1, v2] w (RetNum w (a * b)) := by
  obtain ⟨A1, xs, n1, c1, rfl, hl1, _, hr1, hc1, e1, hn1⟩ := h1.form ha
  obtain ⟨A2, ys, n2, c2, rfl, hl2, _, hr2, hc2, e2, hn2⟩ := h2.form hb
  have := mul_any A1 A2 xs ys n1 c1 n2 c2 w hl1.out hl2.out hr1 hr2 hc1.1 hc2.1 (by omega) (by omega)
  rw [e1.out, e2.out] at this
  exact this
theorem sub_num (v1 v2 : Value) (a b L1 L2 : Nat) (w : World) (h1 : Num w L1 v1 a) (h2 : Num w L2 v2 b) (ha : a < 65536 ^ 100) (hle : b ≤ a) :
    Calls Try.prog 16 #[v1, v2] w (RetNum w (a - b)) := by
  obtain ⟨A1, xs, n1, c1, rfl, hl1, _, hr1, hc1, e1, hn1⟩ := h1.form ha
  obtain ⟨A2, ys, n2, c2, rfl, hl2, _, hr2, hc2, e2, hn2⟩ := h2.form (k := 100) (Nat.lt_of_le_of_lt hle ha)
  have := sub_any A1 A2 xs ys n1 c1 n2 c2 100 w hl1.out hl2.out hr1 hr2 hc1.1 hc2.1 hn1 hn2 (by omega) (by rw [e1.out, e2.out]; exact hle)
  rw [e1.out, e2.out] at this
  exact this

/-- What stays from call to call: the two numbers in their cells, the wide product in its cells. -/
theorem held_law {wb W W' : World} {p q r s : Addr} {u v u' v' : Value} (hb : Below W.heap.size W W') (h : W.cell? p = some u ∧ W.cell? q = some v ∧ W.cell? r = some u' ∧ W.cell? s = some v' ∧ Below wb.heap.size wb W) :
    W'.cell? p = some u ∧ W'.cell? q = some v ∧ W'.cell? r = some u' ∧ W'.cell? s = some v' ∧ Below wb.heap.size wb W' := held_more4 hb h

theorem pow_big {a : Nat} (h : a < 340282366920938463463374607431768211456) : a < 65536 ^ 100 := Nat.lt_of_lt_of_le h (by
  have : (65536 : Nat) ^ 8 ≤ 65536 ^ 100 := Nat.pow_le_pow_right (by omega) (by omega)
  omega)
theorem pow_word {a : Nat} (h : a < 18446744073709551616) : a < 65536 ^ 100 := pow_big (by omega)

theorem prod_fits {a b : Nat} (ha : a < 18446744073709551616) (hb : b < 18446744073709551616) : true = decide (a * b < 340282366920938463463374607431768211456) := by
  have := Nat.mul_le_mul (show a ≤ 18446744073709551615 by omega) (show b ≤ 18446744073709551615 by omega)
  simp
  omega
theorem subw_all (a b : Nat) (w : World) (ha : a < 18446744073709551616) :
    Calls Try.prog 8 #[.int .u64 (a : Int), .int .u64 (b : Int)] w fun e w' => e = .returned (.tuple #[.int .u64 ((a - b : Nat) : Int), .bool (decide (b ≤ a))]) ∧ w = w' := by
  by_cases h : b ≤ a
  · have := subw_yes a b w ha h
    rw [show decide (b ≤ a) = true by simpa using h]
    exact this
  · have := subw_no a b w (by omega)
    rw [show decide (b ≤ a) = false by simpa using h, show a - b = 0 by omega]
    exact this
theorem num_far {wb W : World} {L : Nat} {v : Value} {a : Nat} {c d e f : Prop} (h : Num wb L v a) (hs : c ∧ d ∧ e ∧ f ∧ Below wb.heap.size wb W) : Num W L v a := h.below hs.2.2.2.2

set_option maxHeartbeats 3200000 in
theorem wideSmall_walk (a b : Nat) (ha : a < 18446744073709551616) (hb : b < 18446744073709551616) (w : World) :
    Calls Try.prog 3 #[.int .u64 (a : Int), .int .u64 (b : Int)] w fun e w' => e = .returned (.bool true) ∧ Below w.heap.size w w' := by
  go_enter Try.func3, Try.ntmps3
  go_wp2_with fail
  refine (of_any a _ ha).mono ?_
  rintro e w1 ⟨v1, rfl, hx1, hb1⟩
  obtain ⟨A1, n1, c1, rfl⟩ := hx1.shape
  have HX1 := Lib.hid hx1
  clear hx1
  go_wp2_with fail
  refine (of_any b _ hb).mono ?_
  rintro e w2 ⟨v2, rfl, hy2, hb2⟩
  obtain ⟨A2, n2, c2, rfl⟩ := hy2.shape
  have HX2 := Lib.hid (HX1.out.below hb2)
  have HY2 := Lib.hid hy2
  clear hy2
  go_wp2_with fail
  refine (addw_any a b _ ha hb).mono ?_
  rintro e w3 ⟨rfl, rfl⟩
  generalize hs : fw (a + b) = s
  generalize hsk : fb (a + b) = sk
  have HS := Lib.hid hs
  have HSK := Lib.hid hsk
  clear hs hsk
  go_wp2_with fail
  refine (subw_all a b _ ha).mono ?_
  rintro e w3 ⟨rfl, rfl⟩
  generalize hd : a - b = d
  generalize hdk : decide (b ≤ a) = dk
  have HD := Lib.hid hd
  have HDK := Lib.hid hdk
  clear hd hdk
  go_wp2_with fail
  have hx0 := Blk.new w2 25 #[.slice A1 n1 c1]
  have hy0 := Blk.new (w2.alloc (.cells #[.slice A1 n1 c1] 25)) 25 #[.slice A2 n2 c2]
  rw [show (w2.alloc (.cells #[.slice A1 n1 c1] 25)).heap.size = w2.heap.size + 1 by simp] at hy0
  have HXB := Lib.hid (hx0.alloc (.cells #[.slice A2 n2 c2] 25))
  have HYB := Lib.hid hy0
  have hbb2 := below2 w2 (.cells #[.slice A1 n1 c1] 25) (.cells #[.slice A2 n2 c2] 25)
  clear hx0 hy0
  refine (mulw_any a b _ ha hb).mono ?_
  rintro e w3 ⟨rfl, hb3⟩
  generalize hm : fw (a * b) = m
  generalize hmk : fb (a * b) = mk
  have HM := Lib.hid hm
  have HMK := Lib.hid hmk
  clear hm hmk
  go_wp2_with fail
  refine (full_any a b _ ha hb).mono ?_
  rintro e w4 ⟨FH, FL, rfl, hp, hFH, hFL, hb4⟩
  have HP := Lib.hid hp
  have hxb := (HXB.out.below hb3 HXB.out.lt).below hb4 (HXB.out.below hb3 HXB.out.lt).lt
  have hyb := (HYB.out.below hb3 HYB.out.lt).below hb4 (HYB.out.below hb3 HYB.out.lt).lt
  have hB24 := hbb2.trans ((hb3.trans (hb4.mono hb3.size)).mono hbb2.size)
  have hB2b := hB24.alloc hB24.size (.cells #[.int .u64 (FH : Int), .int .u64 (FL : Int)] 30)
  have HX := Lib.hid (HX2.out.below hB2b)
  have HY := Lib.hid (HY2.out.below hB2b)
  have hB := (hb1.trans (hb2.mono hb1.size)).trans (hB2b.mono (hb1.trans (hb2.mono hb1.size)).size)
  have cx := (hxb.alloc (.cells #[.int .u64 (FH : Int), .int .u64 (FL : Int)] 30)).cell 0
  have cy := (hyb.alloc (.cells #[.int .u64 (FH : Int), .int .u64 (FL : Int)] 30)).cell 0
  have cf0 := (Blk.new w4 30 #[.int .u64 (FH : Int), .int .u64 (FL : Int)]).cell 0
  have cf1 := (Blk.new w4 30 #[.int .u64 (FH : Int), .int .u64 (FL : Int)]).cell 1
  clear hp hb1 hb2 hb3 hb4 hbb2 hB24 hB2b hxb hyb
  go_wp2_with fail
  go_region_held3 (fun w' => w'.cell? ⟨w2.heap.size, 0, none⟩ = some (.slice A1 n1 c1) ∧ w'.cell? ⟨w2.heap.size + 1, 0, none⟩ = some (.slice A2 n2 c2) ∧ w'.cell? ⟨w4.heap.size, 0, none⟩ = some (.int .u64 (FH : Int)) ∧
      w'.cell? ⟨w4.heap.size, 1, none⟩ = some (.int .u64 (FL : Int)) ∧
      Below (w4.alloc (.cells #[.int .u64 (FH : Int), .int .u64 (FL : Int)] 30)).heap.size (w4.alloc (.cells #[.int .u64 (FH : Int), .int .u64 (FL : Int)] 30)) w')
    (first | exact ⟨cx, cy, cf0, cf1, (Below.refl _ _).drew⟩ | assumption)
    (first
      | (go_at_call 12; (with_reducible refine (add_num _ _ a b _ _ _ (num_far HX.out (by assumption)) (num_far HY.out (by assumption)) (pow_word ha) (pow_word hb)).mono ?_); rintro e w' ⟨v, rfl, hnum, hb'⟩; have hS := held_law hb' (by assumption))
      | (go_at_call 13; (with_reducible refine (mul_num _ _ a b _ _ _ (num_far HX.out (by assumption)) (num_far HY.out (by assumption)) (pow_word ha) (pow_word hb)).mono ?_); rintro e w' ⟨v, rfl, hnum, hb'⟩; have hS := held_law hb' (by assumption))
      | (go_at_call 11; (with_reducible refine (small_true s sk _ _ (a + b) _ (by assumption) HS.out.symm HSK.out.symm).mono ?_); rintro e w' ⟨rfl, hb'⟩; have hS := held_law hb' (by assumption))
      | (go_at_call 11; (with_reducible refine (small_true m mk _ _ (a * b) _ (by assumption) HM.out.symm HMK.out.symm).mono ?_); rintro e w' ⟨rfl, hb'⟩; have hS := held_law hb' (by assumption))
      | (go_at_call 14; (with_reducible refine (big_true FH FL true _ _ (a * b) _ hFH hFL (by assumption) (prod_fits ha hb) (fun _ => HP.out) (fun h => by cases h)).mono ?_); rintro e w' ⟨rfl, hb'⟩; have hS := held_law hb' (by assumption)))
  have hBr := hS.2.2.2.2
  have HXr := Lib.hid (HX.out.below hBr)
  have HYr := Lib.hid (HY.out.below hBr)
  have hBw := hB.trans (hBr.mono hB.size)
  have kx := hS.1
  have ky := hS.2.1
  clear hS hBr cx cy cf0 cf1 hnum
  by_cases hlt : a < b
  · obtain rfl : d = 0 := by have := HD.out; omega
    obtain rfl : dk = false := by rw [← HDK.out]; simp; omega
    go_wp2_with fail
    refine (alive_any _).mono ?_
    rintro e w5 ⟨rfl, hb5⟩
    go_wp2_with fail
    go_ret
    exact ⟨rfl, hBw.trans (hb5.mono hBw.size)⟩
  · obtain rfl : dk = true := by rw [← HDK.out]; simp; omega
    have HD2 : Hid (d = fw (a - b)) := Lib.hid (by rw [fw_in (by omega)]; exact HD.out.symm)
    go_wp2_with fail
    refine (sub_num _ _ a b _ _ _ HXr.out HYr.out (pow_word ha) (by omega)).mono ?_
    rintro e w5 ⟨v5, rfl, hn5, hb5⟩
    have HN5 := Lib.hid hn5
    have hB5 := hBw.trans (hb5.mono hBw.size)
    clear hn5
    go_wp2_with fail
    refine (small_true d true _ _ (a - b) _ HN5.out HD2.out (by rw [fb_in (by omega)])).mono ?_
    rintro e w6 ⟨rfl, hb6⟩
    have hB6 := hB5.trans (hb6.mono hB5.size)
    go_wp2_with fail
    refine (alive_any _).mono ?_
    rintro e w7 ⟨rfl, hb7⟩
    go_wp2_with fail
    go_ret
    exact ⟨rfl, hB6.trans (hb7.mono hB6.size)⟩

theorem wideSmall_own : ownKnob Try.prog.godebug = none := by kernel_rfl

set_option maxRecDepth 100000 in
theorem wideSmall_lifted (os : Os) (started : os.Started) (H : Type) (enc : TypeId × Value → H) :
    ReturnsInHanded {} Try.checked os 3 .any (Rows.wideSmallSpec.pre6 enc Try.prog Try.f3 Rows.wideSmallRow.domain false) (Rows.wideSmallSpec.post enc Try.prog Try.f3 false true false false) := by
  refine returnsInHanded_of_change (C := Try.checked) wideSmall_own started (by kernel_rfl) Try.func3
    (ChangeSpec.witness6 (enc := enc) (C := Try.checked) false ⟨#[], #[.int .u64 0, .int .u64 0], []⟩ 8 (by kernel_rfl) (by kernel_rfl) (by kernel_rfl) (by kernel_rfl)) ?_
  intro W base args ds gs before hval0 hW hcnd _
  have hval : ∀ (j : Nat) t v, Try.f3.params[j]? = some t → args[j]? = some v → Value.okWide Try.prog W .any base t v := hval0
  have hW' := hW
  obtain ⟨p, q, hA0, hV, rfl, hfz, hnd⟩ := hW
  have hA : DataW.TrodAll enc Try.prog W 0 (fun _ => true) true Try.f3.params.toList args.toList ds p := hA0
  rw [Try.params3] at hA hval
  obtain ⟨v0, vs0, d0, ds0, p0, q0, hargs, rfl, rfl, h0, r0⟩ := trodAll_cons hA
  obtain ⟨v1, vs1, d1, ds1, p1, q1, rfl, rfl, rfl, h1, r1⟩ := trodAll_cons r0
  obtain ⟨rfl, rfl, rfl⟩ := trodAll_nil r1
  obtain rfl : args = #[v0, v1] := by cases args; simp_all
  obtain ⟨rfl, rfl⟩ := trodVars_none hV
  obtain ⟨a0, rfl, rfl, rfl, w0⟩ := open_int Try.underlying22 (hval 0 22 v0 rfl rfl) h0
  obtain ⟨a1, rfl, rfl, rfl, w1⟩ := open_int Try.underlying22 (hval 1 22 v1 rfl rfl) h1
  clear hA0 hval0
  simp only [List.append_nil] at hW'
  have x0 : 0 ≤ a0 ∧ a0 ≤ 18446744073709551615 := by simpa [Lit.wf, IntKind.min, IntKind.max, IntKind.signed, IntKind.bits] using w0
  have x1 : 0 ≤ a1 ∧ a1 ≤ 18446744073709551615 := by simpa [Lit.wf, IntKind.min, IntKind.max, IntKind.signed, IntKind.bits] using w1
  obtain ⟨n0, rfl⟩ := Int.eq_ofNat_of_zero_le x0.1
  obtain ⟨n1, rfl⟩ := Int.eq_ofNat_of_zero_le x1.1
  refine (wideSmall_walk n0 n1 (by omega) (by omega) W).mono fun e W' ⟨he, hg⟩ => ?_
  subst he
  exact ⟨_, rfl, post_of_below (pa := []) (pv := []) hW' (fun _ _ _ => (trodAll_cons_mk (shut_bool Try.underlying4 _) trodAll_mk0)) (fun sp _ => (trodAll_cons_mk (shut_int Try.underlying22 w0) (trodAll_cons_mk (shut_int Try.underlying22 w1) trodAll_mk0))) (fun _ _ => rfl) rfl hg⟩

theorem wideSmall_over : Rows.wideSmallRow.holds Try.pinned (OpenSpec.ofChange Rows.wideSmallSpec) :=
  OpenClaim.holds_of_wide 3 Try.f3 rfl rfl rfl rfl rfl rfl rfl ⟨rfl, rfl, rfl, rfl, rfl⟩ rfl rfl rfl rfl rfl (by kernel_rfl) Try.func3 (by kernel_rfl)
    (of_decide_eq_true (by kernel_rfl)) (by unfold Func.isWrapper; first | (rw [if_pos (by decide +kernel)]; kernel_rfl) | (rw [if_neg (by decide +kernel)]; exact ⟨rfl, rfl⟩))
    (fun os started H enc _ => wideSmall_lifted os started H enc)

theorem wideSmall_holds : Rows.WideSmallSaid :=
  wideSmall_over
end Go.Proofs.Ytgfpkiojbkldiaa
