/-
  For any three fractions: if each has few digits and is right, then the sum of all in any order, the product, the order, the difference and the quotient of two, and what is rounded down, are the document's; what is taken away, or divided, comes back. No conditions.
-/
import Derived.Test.YtlnabebjhpdgpaaDoorLawReckons
import Derived.Test.YtlnabebjhpdgpaaDoorMI
import Derived.LaidMore
import Derived.Lay
import Derived.MakeChecks
import Derived.Stop.LaidErr
namespace Go.Proofs.YtlnabebjhpdgpaaDoor
open Go.ChangeShapes Go.WideShapes Go.ChangeAt Go.RowKit
set_option maxRecDepth 100000

/-- A fraction as an argument, opened. -/
theorem open_frac {H : Type} {enc : TypeId × Value → H} {W : World} {base : Nat} {v : Value} {d : DataW H} {p : List MemPlace} (hv : Value.okWide Tryd.prog W .any base 25 v) (h : DataW.Trod enc Tryd.prog W 0 (fun _ => true) true 25 v d p) :
    ∃ (A1 : Option Addr) (n1 c1 : Nat) (xs : List Nat) (A2 : Option Addr) (n2 c2 : Nat) (ys : List Nat), v = .agg #[.slice A1 n1 c1, .slice A2 n2 c2] ∧ (xs.length = n1 ∧ n1 ≤ c1 ∧ Ra W W.heap.size A1 xs ∧ Dg xs) ∧ (ys.length = n2 ∧ n2 ≤ c2 ∧ Ra W W.heap.size A2 ys ∧ Dg ys) := by
  obtain ⟨v0, v1, y0, y1, m, rfl, _, _, h0, h1⟩ := Go.Joins.open_agg2 Tryd.underlying25 (by kernel_rfl) (by kernel_rfl) hv h
  obtain ⟨A1, n1, c1, xs, rfl, f1⟩ := open_natc h0
  obtain ⟨A2, n2, c2, ys, rfl, f2⟩ := open_natc h1
  exact ⟨A1, n1, c1, xs, A2, n2, c2, ys, rfl, f1, f2⟩

theorem tab_ofK {W : World} (h : laidMetH Tryd.prog Rows.ratioReckonsRow.laid W) : Tab W := by
  rw [MakeChecks.laidMetH_plain _ _ _ (by kernel_rfl)] at h
  exact Lib.tabIs_of_head (t := 119) (rest := _) g_tab (by kernel_rfl) Tryd.underlying119 Tryd.underlying52 (by kernel_rfl) (by kernel_rfl) (laidMet.tail (laidMet.tail h))

theorem door_metK (os : Os) (args : Array Value) : laidMetH Tryd.prog Rows.ratioReckonsRow.laid ((World.doorLaid Tryd.prog 200 os).forCall (fun _ _ => 0) ⟨#[], args, []⟩).memory := by
  rw [MakeChecks.laidMetH_plain _ _ _ (by kernel_rfl)]
  exact laidMet_of_run' 8 (by kernel_rfl) (by kernel_rfl)

theorem ratioReckons_lifted (os : Os) (started : os.Started) (H : Type) (enc : TypeId × Value → H) :
    ReturnsInHanded {} Tryd.checked os 3 .any (fun w args => (Rows.ratioReckonsSpec.pre enc Tryd.prog Tryd.f3 [] false w args ∧ laidMetH Tryd.prog Rows.ratioReckonsRow.laid w) ∧ sizedMet enc Tryd.prog Tryd.f3 (OpenSpec.ofChange Rows.ratioReckonsSpec) false w args)
      (Rows.ratioReckonsSpec.post enc Tryd.prog Tryd.f3 false true false false) := by
  refine returnsInHanded_of_change_and (C := Tryd.checked) (X := fun w _ => laidMetH Tryd.prog Rows.ratioReckonsRow.laid w) (fun _ _ _ hh h => h.of_heap hh) own_knob started (by kernel_rfl) Tryd.func3
    (ChangeSpec.witness_shaped (enc := enc) (C := Tryd.checked) (os := os) (X := fun w _ => laidMetH Tryd.prog Rows.ratioReckonsRow.laid w) false (World.doorLaid Tryd.prog 200 os) #[.agg #[.slice none 0 0, .slice none 0 0], .agg #[.slice none 0 0, .slice none 0 0], .agg #[.slice none 0 0, .slice none 0 0]] 8 rfl
      (World.shaped_of_RefB (by kernel_rfl) (by kernel_rfl)) (by kernel_rfl) (by kernel_rfl) (by kernel_rfl) (door_metK os _)) ?_
  intro W base args ds gs before hval0 hW _ _ hL _
  have hval : ∀ (j : Nat) t v, Tryd.f3.params[j]? = some t → args[j]? = some v → Value.okWide Tryd.prog W .any base t v := hval0
  have hW' : DataW.Whole enc Tryd.prog Tryd.f3.params.toList Rows.ratioReckonsSpec.vars false W args.toList ds gs before := hW
  obtain ⟨p, q, hA0, hV, hpq, hfz, hnd⟩ := hW
  have hA : DataW.TrodAll enc Tryd.prog W 0 (fun _ => true) true Tryd.f3.params.toList args.toList ds p := hA0
  rw [Tryd.params3] at hA hval
  obtain ⟨v0, vs0, d0, ds0, p0, q0, hargs, rfl, rfl, t0, r0⟩ := trodAll_cons hA
  obtain ⟨v1, vs1, d1, ds1, p1, q1, rfl, rfl, rfl, t1, r1⟩ := trodAll_cons r0
  obtain ⟨v2, vs2, d2, ds2, p2, q2, rfl, rfl, rfl, t2, r2⟩ := trodAll_cons r1
  obtain ⟨rfl, rfl, rfl⟩ := trodAll_nil r2
  obtain rfl : args = #[v0, v1, v2] := by cases args; simp_all
  obtain ⟨A1, n1, c1, X1, A2, n2, c2, X2, rfl, ⟨hl1, hk1, hr1, hd1⟩, ⟨hl2, hk2, hr2, hd2⟩⟩ := open_frac (hval 0 25 v0 rfl rfl) t0
  obtain ⟨A3, n3, c3, X3, A4, n4, c4, X4, rfl, ⟨hl3, hk3, hr3, hd3⟩, ⟨hl4, hk4, hr4, hd4⟩⟩ := open_frac (hval 1 25 v1 rfl rfl) t1
  obtain ⟨A5, n5, c5, X5, A6, n6, c6, X6, rfl, ⟨hl5, hk5, hr5, hd5⟩, ⟨hl6, hk6, hr6, hd6⟩⟩ := open_frac (hval 2 25 v2 rfl rfl) t2
  have htab : Tab W := tab_ofK hL
  have hwalk : Calls Tryd.prog 3 #[.agg #[.slice A1 n1 c1, .slice A2 n2 c2], .agg #[.slice A3 n3 c3, .slice A4 n4 c4], .agg #[.slice A5 n5 c5, .slice A6 n6 c6]] W fun e w' => e = .returned (.bool true) ∧ Below W.heap.size W w' := by
    by_cases hs0 : n1 ≤ 6 ∧ n2 ≤ 6
    · skip
      by_cases hs1 : n3 ≤ 6 ∧ n4 ≤ 6
      · skip
        by_cases hs2 : n5 ≤ 6 ∧ n6 ≤ 6
        · skip
          rcases hg0 : rightB X1 X2 with _ | _
          · exact reckons_no3 A1 A2 A3 A4 A5 A6 X1 X2 X3 X4 X5 X6 n1 c1 n2 c2 n3 c3 n4 c4 n5 c5 n6 c6 W hl1 hr1 hd1 hl2 hr2 hd2 hl3 hr3 hd3 hl4 hr4 hd4 hl5 hr5 hd5 hl6 hr6 hd6 htab hs0 hs1 hs2 hg0
          · skip
            rcases hg1 : rightB X3 X4 with _ | _
            · exact reckons_no4 A1 A2 A3 A4 A5 A6 X1 X2 X3 X4 X5 X6 n1 c1 n2 c2 n3 c3 n4 c4 n5 c5 n6 c6 W hl1 hr1 hd1 hl2 hr2 hd2 hl3 hr3 hd3 hl4 hr4 hd4 hl5 hr5 hd5 hl6 hr6 hd6 htab hs0 hs1 hs2 hg0 hg1
            · skip
              rcases hg2 : rightB X5 X6 with _ | _
              · exact reckons_no5 A1 A2 A3 A4 A5 A6 X1 X2 X3 X4 X5 X6 n1 c1 n2 c2 n3 c3 n4 c4 n5 c5 n6 c6 W hl1 hr1 hd1 hl2 hr2 hd2 hl3 hr3 hd3 hl4 hr4 hd4 hl5 hr5 hd5 hl6 hr6 hd6 htab hs0 hs1 hs2 hg0 hg1 hg2
              · skip
                exact reckons_walk A1 A2 A3 A4 A5 A6 X1 X2 X3 X4 X5 X6 n1 c1 n2 c2 n3 c3 n4 c4 n5 c5 n6 c6 W hl1 hr1 hd1 hl2 hr2 hd2 hl3 hr3 hd3 hl4 hr4 hd4 hl5 hr5 hd5 hl6 hr6 hd6 htab hk1 hk2 hk3 hk4 hk5 hk6 hs0 hs1 hs2 hg0 hg1 hg2
        · exact reckons_no2 A1 A2 A3 A4 A5 A6 X1 X2 X3 X4 X5 X6 n1 c1 n2 c2 n3 c3 n4 c4 n5 c5 n6 c6 W hl1 hr1 hd1 hl2 hr2 hd2 hl3 hr3 hd3 hl4 hr4 hd4 hl5 hr5 hd5 hl6 hr6 hd6 htab hs0 hs1 hs2
      · exact reckons_no1 A1 A2 A3 A4 A5 A6 X1 X2 X3 X4 X5 X6 n1 c1 n2 c2 n3 c3 n4 c4 n5 c5 n6 c6 W hl1 hr1 hd1 hl2 hr2 hd2 hl3 hr3 hd3 hl4 hr4 hd4 hl5 hr5 hd5 hl6 hr6 hd6 htab hs0 hs1
    · exact reckons_no0 A1 A2 A3 A4 A5 A6 X1 X2 X3 X4 X5 X6 n1 c1 n2 c2 n3 c3 n4 c4 n5 c5 n6 c6 W hl1 hr1 hd1 hl2 hr2 hd2 hl3 hr3 hd3 hl4 hr4 hd4 hl5 hr5 hd5 hl6 hr6 hd6 htab hs0
  refine hwalk.mono fun e W' ⟨he, hg⟩ => ?_
  subst he
  exact ⟨_, rfl, law_post laid_out (by kernel_rfl) Tryd.underlying4 (by kernel_rfl) rfl hW' rfl hg⟩

theorem ratioReckons_said : Rows.RatioReckonsSaid :=
  OpenClaim.holds_of_wide 3 Tryd.f3 rfl rfl rfl rfl rfl rfl rfl ⟨rfl, rfl, rfl, rfl, rfl⟩ rfl rfl rfl rfl rfl (by kernel_rfl) Tryd.func3 (by kernel_rfl)
    (of_decide_eq_true (by kernel_rfl)) (by unfold Func.isWrapper; first | (rw [if_pos (by decide +kernel)]; kernel_rfl) | (rw [if_neg (by decide +kernel)]; exact ⟨rfl, rfl⟩))
    (fun os started H enc _ => ratioReckons_lifted os started H enc)

theorem ratioReckons_plain (f : FuncId) (fn : Func) (hf : Tryd.pinned.checked.prog.funcNamed "tombola/tombolalaw04.RatioReckons" = some f) (hfn : Tryd.pinned.checked.prog.funcs[f]? = some fn) :
    ∀ (j : Nat) t, fn.params[j]? = some t → Tryd.pinned.checked.prog.wantsStandIn t = false := by
  obtain rfl : f = 3 := Option.some.inj ((show Tryd.prog.funcNamed "tombola/tombolalaw04.RatioReckons" = some 3 by kernel_rfl).symm.trans hf) |>.symm
  obtain rfl : fn = Tryd.f3 := (Option.some.inj (Tryd.func3.symm.trans hfn)).symm
  intro j t ht
  rw [Tryd.params3] at ht
  have : t = 25 := by
    have := Array.mem_of_getElem? ht
    simpa using this
  subst this
  exact (show Tryd.prog.wantsStandIn 25 = false by kernel_rfl)

theorem ratioReckons_holds : Rows.RatioReckonsCardSaid :=
  Claim7.holds_tied_plain_at .later [] _ _ _ _ ratioReckons_said (fun _ h => by cases h) (by kernel_rfl) (fun _ h => by cases h) ratioReckons_row_tie rfl ⟨rfl, rfl⟩ (by kernel_rfl) rfl (fun f fn hf hfn => ⟨by kernel_rfl, ratioReckons_plain f fn hf hfn⟩) (by kernel_rfl)
end Go.Proofs.YtlnabebjhpdgpaaDoor
