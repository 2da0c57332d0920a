/-
  For any text s and any words, together of bulk at most 1048576: the numbers of s, whether it is a word, whether it is a line and its words, and the words joined are the document's. Condition: what comes in is of bulk at most 1048576 (every value and every letter counts one); the library's tables and errors are what its text lays.
-/
import Derived.Test.YtbhdibeiojeadaaDoorLawL6A
import Derived.Test.YtbhdibeiojeadaaDoorVars6
import Derived.Test.YtbhdibeiojeadaaDoorBulk6
import Derived.Test.YtbhdibeiojeadaaDoorCards
import Derived.Test.YtbhdibeiojeadaaDoorTie
namespace Go.Proofs.YtbhdibeiojeadaaDoor
open Go.ChangeShapes Go.WideShapes Go.ChangeAt Go.RowKit
set_option maxRecDepth 100000

theorem linesNums_reads (os : Os) {H : Type} (enc : TypeId × Value → H) : ∃ places, DataW.whole enc Tryd.prog ((w6 os).forCall (fun _ _ => 0) ⟨#[], #[.string ⟨#[]⟩, .slice none 0 0], []⟩).memory Tryd.f3.params.toList Rows.linesNumsSpec.vars false #[Value.string ⟨#[]⟩, Value.slice none 0 0].toList 8 = some ([.lit (.string []), .nil], [], places) :=
  ⟨[], by kernel_rfl⟩

theorem linesNums_lifted (os : Os) (started : os.Started) (H : Type) (enc : TypeId × Value → H) (F : Stop.Interp) :
    ReturnsInHanded {} Tryd.checked os 3 .any ((Rows.OpenSpec.upto Rows.linesNumsSpec).preRow enc Tryd.prog Tryd.f3 Rows.linesNumsUptoRow.domain false Rows.linesNumsUptoRow.laid) (((Rows.OpenSpec.upto Rows.linesNumsSpec).at F).post enc Tryd.prog Tryd.f3 false true false false) := by
  obtain ⟨places, hx⟩ := linesNums_reads os enc
  refine returnsInHanded_of_row (C := Tryd.checked) (s := Rows.OpenSpec.upto Rows.linesNumsSpec) own_knob started (by kernel_rfl) Tryd.func3
    (wit_row (enc := enc) (C := Tryd.checked) false (w6 os) #[.string ⟨#[]⟩, .slice none 0 0] (World.laidAll_os _ _ _) (w6_shaped os) (by kernel_rfl)
      (OpenSpec.preRow_of_cond 8 hx (by kernel_rfl) (fun k hk => by cases hk; kernel_rfl) (by kernel_rfl) (w6_met os _))) ?_
  intro W base args ds gs before hval0 hW _ hcond _ hL hsh _
  have hval : ∀ (j : Nat) t v, Tryd.f3.params[j]? = some t → args[j]? = some v → Value.okWide Tryd.prog W .any base t v := hval0
  have hW' : DataW.Whole enc Tryd.prog Tryd.f3.params.toList Rows.linesNumsSpec.vars false W args.toList ds gs before := hW
  obtain ⟨p, q, hA0, hV, hpq, hfz, hnd⟩ := hW
  have hA : DataW.TrodAll enc Tryd.prog W 0 (fun _ => true) true Tryd.f3.params.toList args.toList ds p := hA0
  rw [Tryd.params3] at hA hval
  obtain ⟨v0, vs0, d0, ds0, p0, q0, hargs, rfl, rfl, t0, r0⟩ := trodAll_cons hA
  obtain ⟨v1, vs1, d1, ds1, p1, q1, rfl, rfl, rfl, t1, r1⟩ := trodAll_cons r0
  obtain ⟨rfl, rfl, rfl⟩ := trodAll_nil r1
  obtain rfl : args = #[v0, v1] := by cases args; simp_all
  obtain ⟨rfl, rfl⟩ := trodVars_none hV
  have hsmall : Rows.uptoSmall H ([d0, d1] ++ []) = true := hcond _ rfl
  rw [List.append_nil] at hsmall
  have hbk := bk_two hsmall
  obtain ⟨s, rfl, rfl, _, _⟩ := Go.ChangeMaps.open_string Tryd.underlying9 (hval 0 9 v0 rfl rfl) t0
  rw [bk_str, ba_len] at hbk
  obtain ⟨A1, n1, c1, ss, rfl, hl1, hc1, _, hr1, _, hd⟩ := open_strsA (hval 1 22 v1 rfl rfl) t1
  obtain ⟨q1, q2, q3⟩ := bk_words hl1 hd
  have hv : LibV W := libV_of hsh hL
  have hwalk : Calls Tryd.prog 3 #[.string s, .slice A1 n1 c1] W fun e w' => e = .returned (.bool true) ∧ Below W.heap.size W w' := by
    by_cases h1 : s.size ≤ 500 ∧ n1 ≤ 50
    · exact linesNums_on s A1 ss n1 c1 W hl1 hr1 hc1 hv h1.1 h1.2 (by omega)
    · exact linesNums_off s A1 n1 c1 W hv (by omega) (by omega) (by omega)
  refine hwalk.mono fun e W' ⟨he, hg⟩ => ?_
  subst he
  exact ⟨_, rfl, law_post laid_out (by kernel_rfl) Tryd.underlying4 (by kernel_rfl) rfl hW' rfl hg⟩

theorem linesNums_said : Rows.LinesNumsUptoSaid :=
  OpenClaim.holds_of_cond 3 Tryd.f3 rfl rfl rfl rfl rfl rfl rfl ⟨rfl, rfl, rfl, rfl, rfl⟩ rfl rfl rfl rfl rfl (by kernel_rfl) Tryd.func3 (by kernel_rfl)
    (of_decide_eq_true (by kernel_rfl)) (by unfold Func.isWrapper; first | (rw [if_pos (by decide +kernel)]; kernel_rfl) | (rw [if_neg (by decide +kernel)]; exact ⟨rfl, rfl⟩))
    (fun os started H enc _ F => by rw [OpenClaim.pre_eq_preRow]; exact linesNums_lifted os started H enc F)

theorem linesNums_plain (f : FuncId) (fn : Func) (hf : Tryd.pinned.checked.prog.funcNamed "tombola/tombolalaw06.LinesNums" = some f) (hfn : Tryd.pinned.checked.prog.funcs[f]? = some fn) :
    true = Tryd.pinned.checked.prog.looks [] ∧ ∀ (j : Nat) t, fn.params[j]? = some t → Tryd.pinned.checked.prog.wantsStandIn t = false := by
  obtain rfl : f = 3 := Option.some.inj ((show Tryd.prog.funcNamed "tombola/tombolalaw06.LinesNums" = some 3 by kernel_rfl).symm.trans hf) |>.symm
  obtain rfl : fn = Tryd.f3 := (Option.some.inj (Tryd.func3.symm.trans hfn)).symm
  refine ⟨by kernel_rfl, fun j t ht => ?_⟩
  rw [Tryd.params3] at ht
  have : t = 9 ∨ t = 22 := by simpa [or_comm, or_assoc] using Array.mem_of_getElem? ht
  rcases this with rfl | rfl
  · exact (show Tryd.prog.wantsStandIn 9 = false by kernel_rfl)
  · exact (show Tryd.prog.wantsStandIn 22 = false by kernel_rfl)

theorem linesNums_holds : Rows.LinesNumsUptoCardSaid :=
  Claim7.holds_tied_plain_at .later [] _ _ _ _ linesNums_said (fun _ h => by cases h) (by kernel_rfl) (fun _ h => by cases h) linesNumsUpto_row_tie rfl ⟨rfl, rfl⟩ (by kernel_rfl) rfl linesNums_plain (by kernel_rfl)
end Go.Proofs.YtbhdibeiojeadaaDoor
