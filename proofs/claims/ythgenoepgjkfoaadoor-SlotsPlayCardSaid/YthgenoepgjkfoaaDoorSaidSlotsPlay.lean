/-
  For any int n and any ints: whatever is taken of n places, and given back: which place is taken, and which are, is the document's. Condition: the library's table is what its text lays.
-/
import Derived.Test.YthgenoepgjkfoaaDoorLawSlot
import Derived.Stop.LaidErr
import Derived.Test.YthgenoepgjkfoaaDoorCards
import Derived.Test.YthgenoepgjkfoaaDoorTie
namespace Go.Proofs.YthgenoepgjkfoaaDoor
open Go.ChangeShapes Go.WideShapes Go.ChangeAt Go.RowKit
set_option maxRecDepth 100000

theorem slotsPlay_all (W : World) (n : Int) (A : Option Addr) (m c : Nat) (zs : List Int) (_ : -9223372036854775808 ≤ n) (_ : n ≤ 9223372036854775807) (hz : zs.length = m) (hr : Rv W W.heap.size A (ints8 zs)) (_ : m ≤ maxLen) (hT : Tab11 W) (hT0 : 0 < W.heap.size) :
    Calls Tryd.prog 3 #[.int .i64 n, .slice A m c] W fun e w' => e = .returned (.bool true) ∧ Below W.heap.size W w' := by
  by_cases hm : m ≤ 200
  · by_cases hn : n < 1 ∨ 4096 < n
    · exact plays11_bad n A m c W hT hT0 hm hn
    · obtain ⟨k, rfl⟩ := Int.eq_ofNat_of_zero_le (show 0 ≤ n by omega)
      exact plays11_walk k A m c zs W hz hr hT hT0 hm (by omega) (by omega)
  · exact plays11_long n A m c W hT hT0 (by omega)

theorem slotsPlay_met (os : Os) (args : Array Value) : laidMetH Tryd.prog Rows.slotsPlayRow.laid ((World.doorLaid Tryd.prog 200 os).forCall (fun _ _ => 0) ⟨#[], args, []⟩).memory := by
  rw [MakeChecks.laidMetH_plain _ _ _ (by kernel_rfl)]
  exact laidMet_of_run' 8 (by kernel_rfl) (by kernel_rfl)

theorem slotsPlay_lifted (os : Os) (started : os.Started) (H : Type) (enc : TypeId × Value → H) :
    ReturnsInHanded {} Tryd.checked os 3 .any (fun w args => (Rows.slotsPlaySpec.pre enc Tryd.prog Tryd.f3 [] false w args ∧ laidMetH Tryd.prog Rows.slotsPlayRow.laid w) ∧ sizedMet enc Tryd.prog Tryd.f3 (OpenSpec.ofChange Rows.slotsPlaySpec) false w args)
      (Rows.slotsPlaySpec.post enc Tryd.prog Tryd.f3 false true false false) := by
  refine returnsInHanded_of_change_and (C := Tryd.checked) (X := fun w _ => laidMetH Tryd.prog Rows.slotsPlayRow.laid w) (fun _ _ _ hh h => h.of_heap hh) own_knob started (by kernel_rfl) Tryd.func3
    (ChangeSpec.witness_shaped (enc := enc) (C := Tryd.checked) (os := os) (X := fun w _ => laidMetH Tryd.prog Rows.slotsPlayRow.laid w) false (World.doorLaid Tryd.prog 200 os) #[.int .i64 0, .slice none 0 0] 8 rfl
      (World.shaped_of_RefB (by kernel_rfl) (by kernel_rfl)) (by kernel_rfl) (by kernel_rfl) (by kernel_rfl) (slotsPlay_met os _)) ?_
  intro W base args ds gs before hval0 hW _ _ hL _
  have hval : ∀ (j : Nat) t v, Tryd.f3.params[j]? = some t → args[j]? = some v → Value.okWide Tryd.prog W .any base t v := hval0
  have hW' : DataW.Whole enc Tryd.prog Tryd.f3.params.toList Rows.slotsPlaySpec.vars false W args.toList ds gs before := hW
  obtain ⟨p, q, hA0, hV, hpq, hfz, hnd⟩ := hW
  have hA : DataW.TrodAll enc Tryd.prog W 0 (fun _ => true) true Tryd.f3.params.toList args.toList ds p := hA0
  rw [Tryd.params3] at hA hval
  obtain ⟨v0, vs0, d0, ds0, p0, q0, hargs, rfl, rfl, t0, r0⟩ := trodAll_cons hA
  obtain ⟨v1, vs1, d1, ds1, p1, q1, rfl, rfl, rfl, t1, r1⟩ := trodAll_cons r0
  obtain ⟨rfl, rfl, rfl⟩ := trodAll_nil r1
  obtain rfl : args = #[v0, v1] := by cases args; simp_all
  obtain ⟨a0, rfl, h0, k0⟩ := open_i64 (hval 0 3 v0 rfl rfl) t0
  obtain ⟨A1, n1, c1, zs1, rfl, h1, k1, m1⟩ := open_ints11 (hval 1 22 v1 rfl rfl) t1
  have htab : Tab11 W := by
    rw [MakeChecks.laidMetH_plain _ _ _ (by kernel_rfl)] at hL
    exact tab11_of hL
  have htab0 : 0 < W.heap.size := World.block_lt_of_cell? W _ (htab 0 (by decide))
  have hwalk : Calls Tryd.prog 3 #[.int .i64 a0, .slice A1 n1 c1] W fun e w' => e = .returned (.bool true) ∧ Below W.heap.size W w' := slotsPlay_all W a0 A1 n1 c1 zs1 h0 k0 h1 k1 m1 htab htab0
  refine hwalk.mono fun e W' ⟨he, hg⟩ => ?_
  subst he
  exact ⟨_, rfl, law_post laid_out (by kernel_rfl) Tryd.underlying4 (by kernel_rfl) rfl hW' rfl hg⟩

theorem slotsPlay_said : Rows.SlotsPlaySaid :=
  OpenClaim.holds_of_wide 3 Tryd.f3 rfl rfl rfl rfl rfl rfl rfl ⟨rfl, rfl, rfl, rfl, rfl⟩ rfl rfl rfl rfl rfl (by kernel_rfl) Tryd.func3 (by kernel_rfl)
    (of_decide_eq_true (by kernel_rfl)) (by unfold Func.isWrapper; first | (rw [if_pos (by decide +kernel)]; kernel_rfl) | (rw [if_neg (by decide +kernel)]; exact ⟨rfl, rfl⟩))
    (fun os started H enc _ => slotsPlay_lifted os started H enc)

theorem slotsPlay_plain (f : FuncId) (fn : Func) (hf : Tryd.pinned.checked.prog.funcNamed "tombola/tombolalaw11.SlotsPlay" = some f) (hfn : Tryd.pinned.checked.prog.funcs[f]? = some fn) :
    false = Tryd.pinned.checked.prog.looks [] ∧ ∀ (j : Nat) t, fn.params[j]? = some t → Tryd.pinned.checked.prog.wantsStandIn t = false := by
  obtain rfl : f = 3 := Option.some.inj ((show Tryd.prog.funcNamed "tombola/tombolalaw11.SlotsPlay" = some 3 by kernel_rfl).symm.trans hf) |>.symm
  obtain rfl : fn = Tryd.f3 := (Option.some.inj (Tryd.func3.symm.trans hfn)).symm
  refine ⟨by kernel_rfl, fun j t ht => ?_⟩
  rw [Tryd.params3] at ht
  have : t = 3 ∨ t = 22 := by simpa [or_comm, or_assoc] using Array.mem_of_getElem? ht
  rcases this with rfl | rfl
  · exact (show Tryd.prog.wantsStandIn 3 = false by kernel_rfl)
  · exact (show Tryd.prog.wantsStandIn 22 = false by kernel_rfl)

theorem slotsPlay_holds : Rows.SlotsPlayCardSaid :=
  Claim7.holds_tied_plain_at .later [] _ _ _ _ slotsPlay_said (fun _ h => by cases h) (by kernel_rfl) (fun _ h => by cases h) slotsPlay_row_tie rfl ⟨rfl, rfl⟩ (by kernel_rfl) rfl slotsPlay_plain (by kernel_rfl)
end Go.Proofs.YthgenoepgjkfoaaDoor
