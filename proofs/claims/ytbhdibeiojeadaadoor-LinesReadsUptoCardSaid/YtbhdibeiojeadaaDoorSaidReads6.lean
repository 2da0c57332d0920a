/-
  For any text t and any lines l, together of bulk at most 1048576: the lines that are read of t, and the text that is written of l, are the document's; what was read is written as it stood, what was written is read. Condition: what comes in is of bulk at most 1048576 (every value and every letter counts one); the library's tables and errors are what its text lays.
-/
import Derived.Test.YtbhdibeiojeadaaDoorLawL6B
import Derived.Test.YtbhdibeiojeadaaDoorVars6
import Derived.Test.YtbhdibeiojeadaaDoorBulk6
import Derived.Test.YtbhdibeiojeadaaDoorCards
import Derived.Test.YtbhdibeiojeadaaDoorTie
namespace Go.Proofs.YtbhdibeiojeadaaDoor
open Go.ChangeShapes Go.WideShapes Go.ChangeAt Go.RowKit
set_option maxRecDepth 100000

theorem linesReads_reads (os : Os) {H : Type} (enc : TypeId × Value → H) : ∃ places, DataW.whole enc Tryd.prog ((w6 os).forCall (fun _ _ => 0) ⟨#[], #[.string ⟨#[]⟩, .slice none 0 0], []⟩).memory Tryd.f4.params.toList Rows.linesReadsSpec.vars false #[Value.string ⟨#[]⟩, Value.slice none 0 0].toList 8 = some ([.lit (.string []), .nil], [], places) :=
  ⟨[], by kernel_rfl⟩

theorem linesReads_lifted (os : Os) (started : os.Started) (H : Type) (enc : TypeId × Value → H) (F : Stop.Interp) :
    ReturnsInHanded {} Tryd.checked os 4 .any ((Rows.OpenSpec.upto Rows.linesReadsSpec).preRow enc Tryd.prog Tryd.f4 Rows.linesReadsUptoRow.domain false Rows.linesReadsUptoRow.laid) (((Rows.OpenSpec.upto Rows.linesReadsSpec).at F).post enc Tryd.prog Tryd.f4 false true false false) := by
  obtain ⟨places, hx⟩ := linesReads_reads os enc
  refine returnsInHanded_of_row (C := Tryd.checked) (s := Rows.OpenSpec.upto Rows.linesReadsSpec) own_knob started (by kernel_rfl) Tryd.func4
    (wit_row (enc := enc) (C := Tryd.checked) false (w6 os) #[.string ⟨#[]⟩, .slice none 0 0] (World.laidAll_os _ _ _) (w6_shaped os) (by kernel_rfl)
      (OpenSpec.preRow_of_cond 8 hx (by kernel_rfl) (fun k hk => by cases hk; kernel_rfl) (by kernel_rfl) (w6_met os _))) ?_
  intro W base args ds gs before hval0 hW _ hcond _ hL hsh _
  have hval : ∀ (j : Nat) t v, Tryd.f4.params[j]? = some t → args[j]? = some v → Value.okWide Tryd.prog W .any base t v := hval0
  have hW' : DataW.Whole enc Tryd.prog Tryd.f4.params.toList Rows.linesReadsSpec.vars false W args.toList ds gs before := hW
  obtain ⟨p, q, hA0, hV, hpq, hfz, hnd⟩ := hW
  have hA : DataW.TrodAll enc Tryd.prog W 0 (fun _ => true) true Tryd.f4.params.toList args.toList ds p := hA0
  rw [Tryd.params4] at hA hval
  obtain ⟨v0, vs0, d0, ds0, p0, q0, hargs, rfl, rfl, t0, r0⟩ := trodAll_cons hA
  obtain ⟨v1, vs1, d1, ds1, p1, q1, rfl, rfl, rfl, t1, r1⟩ := trodAll_cons r0
  obtain ⟨rfl, rfl, rfl⟩ := trodAll_nil r1
  obtain rfl : args = #[v0, v1] := by cases args; simp_all
  obtain ⟨rfl, rfl⟩ := trodVars_none hV
  have hsmall : Rows.uptoSmall H ([d0, d1] ++ []) = true := hcond _ rfl
  rw [List.append_nil] at hsmall
  have hbk := bk_two hsmall
  obtain ⟨s, rfl, rfl, _, _⟩ := Go.ChangeMaps.open_string Tryd.underlying9 (hval 0 9 v0 rfl rfl) t0
  rw [bk_str, ba_len] at hbk
  obtain ⟨A1, n1, c1, L, rfl, hl1, hc1, _, hr1, _, _, hd⟩ := open_linesA (hval 1 36 v1 rfl rfl) t1
  obtain ⟨q1, q2, q3, q4⟩ := bk_lines hl1 hd
  have hv : LibV W := libV_of hsh hL
  have hwalk : Calls Tryd.prog 4 #[.string s, .slice A1 n1 c1] W fun e w' => e = .returned (.bool true) ∧ Below W.heap.size W w' := by
    by_cases h1 : (s.size ≤ 2000 ∨ (65536 < s.size ∧ s.size ≤ 70000)) ∧ n1 ≤ 60
    · by_cases he : rE s = 0
      · by_cases hw : writeE L = 0
        · exact linesReads_yy s A1 L n1 c1 W hl1 hr1 hc1 hv h1.1 h1.2 (fun k => by have := q3 k; omega) (fun k j => by have := q4 k j; omega) (by omega) he hw
        · exact linesReads_yn s A1 L n1 c1 W hl1 hr1 hc1 hv h1.1 h1.2 (fun k => by have := q3 k; omega) (fun k j => by have := q4 k j; omega) (by omega) he hw
      · by_cases hw : writeE L = 0
        · exact linesReads_ny s A1 L n1 c1 W hl1 hr1 hc1 hv h1.1 h1.2 (fun k => by have := q3 k; omega) (fun k j => by have := q4 k j; omega) (by omega) he hw
        · exact linesReads_nn s A1 L n1 c1 W hl1 hr1 hc1 hv h1.1 h1.2 (fun k => by have := q3 k; omega) (fun k j => by have := q4 k j; omega) (by omega) he hw
    · exact linesReads_off s A1 n1 c1 W hv (by omega) (by omega) (by omega)
  refine hwalk.mono fun e W' ⟨he, hg⟩ => ?_
  subst he
  exact ⟨_, rfl, law_post laid_out (by kernel_rfl) Tryd.underlying4 (by kernel_rfl) rfl hW' rfl hg⟩

theorem linesReads_said : Rows.LinesReadsUptoSaid :=
  OpenClaim.holds_of_cond 4 Tryd.f4 rfl rfl rfl rfl rfl rfl rfl ⟨rfl, rfl, rfl, rfl, rfl⟩ rfl rfl rfl rfl rfl (by kernel_rfl) Tryd.func4 (by kernel_rfl)
    (of_decide_eq_true (by kernel_rfl)) (by unfold Func.isWrapper; first | (rw [if_pos (by decide +kernel)]; kernel_rfl) | (rw [if_neg (by decide +kernel)]; exact ⟨rfl, rfl⟩))
    (fun os started H enc _ F => by rw [OpenClaim.pre_eq_preRow]; exact linesReads_lifted os started H enc F)

theorem linesReads_plain (f : FuncId) (fn : Func) (hf : Tryd.pinned.checked.prog.funcNamed "tombola/tombolalaw06.LinesReads" = some f) (hfn : Tryd.pinned.checked.prog.funcs[f]? = some fn) :
    true = Tryd.pinned.checked.prog.looks [] ∧ ∀ (j : Nat) t, fn.params[j]? = some t → Tryd.pinned.checked.prog.wantsStandIn t = false := by
  obtain rfl : f = 4 := Option.some.inj ((show Tryd.prog.funcNamed "tombola/tombolalaw06.LinesReads" = some 4 by kernel_rfl).symm.trans hf) |>.symm
  obtain rfl : fn = Tryd.f4 := (Option.some.inj (Tryd.func4.symm.trans hfn)).symm
  refine ⟨by kernel_rfl, fun j t ht => ?_⟩
  rw [Tryd.params4] at ht
  have : t = 9 ∨ t = 36 := by simpa [or_comm, or_assoc] using Array.mem_of_getElem? ht
  rcases this with rfl | rfl
  · exact (show Tryd.prog.wantsStandIn 9 = false by kernel_rfl)
  · exact (show Tryd.prog.wantsStandIn 36 = false by kernel_rfl)

theorem linesReads_holds : Rows.LinesReadsUptoCardSaid :=
  Claim7.holds_tied_plain_at .later [] _ _ _ _ linesReads_said (fun _ h => by cases h) (by kernel_rfl) (fun _ h => by cases h) linesReadsUpto_row_tie rfl ⟨rfl, rfl⟩ (by kernel_rfl) rfl linesReads_plain (by kernel_rfl)
end Go.Proofs.YtbhdibeiojeadaaDoor
