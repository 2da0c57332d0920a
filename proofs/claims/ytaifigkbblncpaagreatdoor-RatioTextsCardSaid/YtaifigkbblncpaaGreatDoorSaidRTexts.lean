/-
  For any fraction a and any text s: if a has few digits, and s few bytes or too many, then the fraction that package ratio reads of s, or that there is none, is what the document reads of it; if a is right, its text is the document's, and the fraction of that text is a. No conditions.
-/
import Derived.Test.YtaifigkbblncpaaGreatDoorLawRTexts
import Derived.Test.YtaifigkbblncpaaGreatDoorMI
import Derived.LaidMore
import Derived.ChangeMaps5
import Derived.Lay
import Derived.MakeChecks
import Derived.Stop.LaidErr
import Derived.Shelf.Vars
namespace Go.Proofs.YtaifigkbblncpaaGreatDoor
open Go.ChangeShapes Go.WideShapes Go.ChangeAt Go.RowKit
set_option maxRecDepth 100000

theorem tab_ofX {W : World} (h : laidMetH Tryz.prog Rows.ratioTextsRow.laid W) : Tab W := by
  rw [MakeChecks.laidMetH_plain _ _ _ (by kernel_rfl)] at h
  exact Lib.tabIs_of_head (t := 140) (rest := _) g_tab (by kernel_rfl) Tryz.underlying140 Tryz.underlying46 (by kernel_rfl) (by kernel_rfl) (laidMet.tail (laidMet.tail h))

theorem door_metX (os : Os) (args : Array Value) : laidMetH Tryz.prog Rows.ratioTextsRow.laid ((World.doorLaid Tryz.prog 200 os).forCall (fun _ _ => 0) ⟨#[], args, []⟩).memory := by
  rw [MakeChecks.laidMetH_plain _ _ _ (by kernel_rfl)]
  exact laidMet_of_run' 8 (by kernel_rfl) (by kernel_rfl)

theorem ratioTexts_lifted (os : Os) (started : os.Started) (H : Type) (enc : TypeId × Value → H) :
    ReturnsInHanded {} Tryz.checked os 3 .any (fun w args => (Rows.ratioTextsSpec.pre enc Tryz.prog Tryz.f3 [] false w args ∧ laidMetH Tryz.prog Rows.ratioTextsRow.laid w) ∧ sizedMet enc Tryz.prog Tryz.f3 (OpenSpec.ofChange Rows.ratioTextsSpec) false w args)
      (Rows.ratioTextsSpec.post enc Tryz.prog Tryz.f3 false true false false) := by
  refine returnsInHanded_of_calls own_knob started (by kernel_rfl) (ChangeSpec.witness_shaped (enc := enc) (C := Tryz.checked) (os := os) (X := fun w _ => laidMetH Tryz.prog Rows.ratioTextsRow.laid w) false (World.doorLaid Tryz.prog 200 os) #[.agg #[.slice none 0 0, .slice none 0 0], .string ⟨#[]⟩] 8 rfl
      (World.shaped_of_RefB (by kernel_rfl) (by kernel_rfl)) (by kernel_rfl) (by kernel_rfl) (by kernel_rfl) (door_metX os _)) ?_
  intro w0 tape i _ hsh _ hok hpre _
  obtain ⟨_, _, _, fn', hfn', _, _, _, _, hval0⟩ := hok
  obtain rfl : fn' = Tryz.f3 := Option.some.inj (hfn'.symm.trans Tryz.func3)
  obtain ⟨⟨⟨ds, gs, before, hw, _⟩, hL0⟩, _⟩ := hpre
  have hW := DataW.Whole.of_heap (w' := w0.forCall tape i) (by rfl) hw
  have hL := hL0.of_heap (w' := w0.forCall tape i) (by rfl)
  obtain ⟨m, hm⟩ := cell_of_shapedOpen_int (g := 0) (zero := #[.int .i64 0]) (t := 3) hsh (of_decide_eq_true (by kernel_rfl)) (by kernel_rfl) rfl (by kernel_rfl) (by kernel_rfl) Tryz.underlying3
  suffices hpost : Calls Tryz.prog 3 i.args (w0.forCall tape i) fun e W' => ∃ v, e = .returned v ∧ Rows.ratioTextsSpec.post enc Tryz.prog Tryz.f3 false true false false (w0.forCall tape i) i.args v W' by
    refine hpost.mono fun e W' ⟨v, he, hp⟩ => ?_
    subst he
    exact ChangeSpec.post_blind hp
  obtain ⟨W, hWq⟩ : ∃ W, w0.forCall tape i = W := ⟨_, rfl⟩
  obtain ⟨args, hargq⟩ : ∃ a, i.args = a := ⟨_, rfl⟩
  rw [hWq] at hW hL hm hval0 ⊢
  rw [hargq] at hW hval0 ⊢
  have hval : ∀ (j : Nat) t v, Tryz.f3.params[j]? = some t → args[j]? = some v → Value.okWide Tryz.prog W .any w0.heap.size t v := hval0
  have hW' : DataW.Whole enc Tryz.prog Tryz.f3.params.toList Rows.ratioTextsSpec.vars false W args.toList ds gs before := hW
  obtain ⟨p, q, hA0, hV, hpq, hfz, hnd⟩ := hW
  have hA : DataW.TrodAll enc Tryz.prog W 0 (fun _ => true) true Tryz.f3.params.toList args.toList ds p := hA0
  rw [Tryz.params3] at hA hval
  obtain ⟨v0, vs0, d0, ds0, p0, q0, hargs, rfl, rfl, t0, r0⟩ := trodAll_cons hA
  obtain ⟨v1, vs1, d1, ds1, p1, q1, rfl, rfl, rfl, t1, r1⟩ := trodAll_cons r0
  obtain ⟨rfl, rfl, rfl⟩ := trodAll_nil r1
  obtain rfl : args = #[v0, v1] := by cases args; simp_all
  obtain ⟨A1, n1, c1, X1, A2, n2, c2, X2, rfl, ⟨hl1, hk1, hr1, hd1⟩, ⟨hl2, hk2, hr2, hd2⟩⟩ := open_frac (hval 0 25 v0 rfl rfl) t0
  obtain ⟨s, rfl, _, _, _⟩ := Go.ChangeMaps.open_string Tryz.underlying9 (hval 1 9 v1 rfl rfl) t1
  have htab : Tab W := tab_ofX hL
  have hwalk : Calls Tryz.prog 3 #[.agg #[.slice A1 n1 c1, .slice A2 n2 c2], .string s] W fun e w' => e = .returned (.bool true) ∧ Below W.heap.size W w' := by
    by_cases h0 : n1 ≤ 6 ∧ n2 ≤ 6
    · by_cases h1 : s.size ≤ 200
      · rcases hq : fp s.data.toList with _ | q
        · rcases hg : rightB X1 X2 with _ | _
          · exact rtexts_none_false A1 A2 X1 X2 n1 c1 n2 c2 s W hl1 hk1 hr1 hd1 hl2 hk2 hr2 hd2 htab m hm h0 hg h1 hq
          · exact rtexts_none_true A1 A2 X1 X2 n1 c1 n2 c2 s W hl1 hk1 hr1 hd1 hl2 hk2 hr2 hd2 htab m hm h0 hg h1 hq
        · rcases hg : rightB X1 X2 with _ | _
          · exact rtexts_some_false A1 A2 X1 X2 n1 c1 n2 c2 s W hl1 hk1 hr1 hd1 hl2 hk2 hr2 hd2 htab m hm h0 hg h1 q hq
          · exact rtexts_some_true A1 A2 X1 X2 n1 c1 n2 c2 s W hl1 hk1 hr1 hd1 hl2 hk2 hr2 hd2 htab m hm h0 hg h1 q hq
      · by_cases h2 : s.size ≤ 4096
        · exact rtexts_no1 A1 A2 X1 X2 n1 c1 n2 c2 s W hl1 hk1 hr1 hd1 hl2 hk2 hr2 hd2 htab h0 (.inl ⟨by omega, h2⟩)
        · by_cases h3 : s.size ≤ 5000
          · rcases hg : rightB X1 X2 with _ | _
            · exact rtexts_many_false A1 A2 X1 X2 n1 c1 n2 c2 s W hl1 hk1 hr1 hd1 hl2 hk2 hr2 hd2 htab m hm h0 hg (by omega) h3
            · exact rtexts_many_true A1 A2 X1 X2 n1 c1 n2 c2 s W hl1 hk1 hr1 hd1 hl2 hk2 hr2 hd2 htab m hm h0 hg (by omega) h3
          · exact rtexts_no1 A1 A2 X1 X2 n1 c1 n2 c2 s W hl1 hk1 hr1 hd1 hl2 hk2 hr2 hd2 htab h0 (.inr (by omega))
    · exact rtexts_no0 A1 A2 X1 X2 n1 c1 n2 c2 s W hl1 hk1 hr1 hd1 hl2 hk2 hr2 hd2 htab h0
  refine hwalk.mono fun e W' ⟨he, hg⟩ => ?_
  subst he
  exact ⟨_, rfl, law_post laid_out (by kernel_rfl) Tryz.underlying4 (by kernel_rfl) rfl hW' rfl hg⟩

theorem ratioTexts_said : Rows.RatioTextsSaid :=
  OpenClaim.holds_of_wide 3 Tryz.f3 rfl rfl rfl rfl rfl rfl rfl ⟨rfl, rfl, rfl, rfl, rfl⟩ rfl rfl rfl rfl rfl (by kernel_rfl) Tryz.func3 (by kernel_rfl)
    (of_decide_eq_true (by kernel_rfl)) (by unfold Func.isWrapper; first | (rw [if_pos (by decide +kernel)]; kernel_rfl) | (rw [if_neg (by decide +kernel)]; exact ⟨rfl, rfl⟩))
    (fun os started H enc _ => ratioTexts_lifted os started H enc)

theorem ratioTexts_plain (f : FuncId) (fn : Func) (hf : Tryz.pinned.checked.prog.funcNamed "tombola/tombolalaw04.RatioTexts" = some f) (hfn : Tryz.pinned.checked.prog.funcs[f]? = some fn) :
    true = Tryz.pinned.checked.prog.looks [] ∧ ∀ (j : Nat) t, fn.params[j]? = some t → Tryz.pinned.checked.prog.wantsStandIn t = false := by
  obtain rfl : f = 3 := Option.some.inj ((show Tryz.prog.funcNamed "tombola/tombolalaw04.RatioTexts" = some 3 by kernel_rfl).symm.trans hf) |>.symm
  obtain rfl : fn = Tryz.f3 := (Option.some.inj (Tryz.func3.symm.trans hfn)).symm
  refine ⟨by kernel_rfl, fun j t ht => ?_⟩
  rw [Tryz.params3] at ht
  have : t = 25 ∨ t = 9 := by simpa [or_comm, or_assoc] using Array.mem_of_getElem? ht
  rcases this with rfl | rfl
  · exact (show Tryz.prog.wantsStandIn 25 = false by kernel_rfl)
  · exact (show Tryz.prog.wantsStandIn 9 = false by kernel_rfl)

theorem ratioTexts_holds : Rows.RatioTextsCardSaid :=
  Claim7.holds_tied_plain_at .later [] _ _ _ _ ratioTexts_said (fun _ h => by cases h) (by kernel_rfl) (fun _ h => by cases h) ratioTexts_row_tie rfl ⟨rfl, rfl⟩ (by kernel_rfl) rfl ratioTexts_plain (by kernel_rfl)
end Go.Proofs.YtaifigkbblncpaaGreatDoor
