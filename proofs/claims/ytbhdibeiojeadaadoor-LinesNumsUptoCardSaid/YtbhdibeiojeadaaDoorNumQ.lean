/-
  Lines: Num and Wide: the program's.
-/
import Derived.Test.YtbhdibeiojeadaaDoorNumP
import Derived.Test.YtbhdibeiojeadaaDoorL6N
namespace Go.Proofs.YtbhdibeiojeadaaDoor
open Go.RowKit
set_option maxRecDepth 100000

set_option maxHeartbeats 2000000 in
theorem pNum_any (s : ByteArray) (w : World) (hs : s.size ≤ 1000000) (hv : LibV w) :
    Calls Tryd.prog 6 #[.string s] w fun e w' => NumA s.data.toList e ∧ Below w.heap.size w w' := by
  by_cases h : ∃ z, Lib.atoiAll s.data.toList = .ok z
  · obtain ⟨z, hz⟩ := h
    obtain ⟨b0, b1⟩ := Lib.atoiAll_bounds hz
    have ha := atoi_yes s z w (by omega) hz
    obtain ⟨u, hu⟩ : ∃ u : ByteArray, (⟨(Lib.itoa z).toArray⟩ : ByteArray) = u := ⟨_, rfl⟩
    have hi := fun W (ht : LibV W) => itoa_any z W b0 b1 ht.tab
    rw [hu] at hi
    have hut : u.data.toList = Lib.itoa z := by rw [← hu]
    by_cases he : u = s
    · subst he
      have HN : Hid (numO u.data.toList = some z) := Lib.hid (num_iff.2 ⟨⟨b0, b1⟩, hut.symm⟩)
      have HV := Lib.hid hv
      clear hu hut hz hv
      go_enter Tryd.func6, Tryd.ntmps6
      go_wp2_with fail
      refine ha.mono ?_
      rintro e w1 ⟨rfl, hb1⟩
      go_wp2_with fail
      refine (hi _ (HV.out.below hb1)).mono ?_
      rintro e w2 ⟨rfl, hb2⟩
      go_wp2_with fail
      go_ret2
      exact ⟨.inr ⟨z, HN.out, rfl⟩, hb1.trans (hb2.mono hb1.size)⟩
    · have HN : Hid (numO s.data.toList = none) := Lib.hid (by
        cases hq : numO s.data.toList with
        | none => rfl
        | some z' =>
          have h1 := atoi_of hq
          rw [hz] at h1
          injection h1 with h1
          subst h1
          have h2 := (num_iff.1 hq).2
          exact absurd (ba_inj (hut.trans h2)) he)
      have HV := Lib.hid hv
      have hne := ba_ne he
      have HNE := Lib.hid hne
      clear hu hut hz hv he hne
      go_enter Tryd.func6, Tryd.ntmps6
      go_wp2_with fail
      refine ha.mono ?_
      rintro e w1 ⟨rfl, hb1⟩
      go_wp2_with fail
      refine (hi _ (HV.out.below hb1)).mono ?_
      rintro e w2 ⟨rfl, hb2⟩
      have hne := HNE.out
      go_wp2_with fail
      go_ret2
      exact ⟨.inl ⟨HN.out, rfl⟩, hb1.trans (hb2.mono hb1.size)⟩
  · have ha := atoi_no s w (by omega) (fun z hz => h ⟨z, hz⟩) hv
    have HN : Hid (numO s.data.toList = none) := Lib.hid (by
      cases hq : numO s.data.toList with
      | none => rfl
      | some z' => exact absurd ⟨z', atoi_of hq⟩ h)
    clear h hv
    go_enter Tryd.func6, Tryd.ntmps6
    go_wp2_with fail
    refine ha.mono ?_
    rintro e w1 ⟨z, t, p, rfl, hb1⟩
    go_wp2_with fail
    go_ret2
    exact ⟨.inl ⟨HN.out, rfl⟩, hb1⟩
/-- What Wide answers. -/
def WideA (l : List UInt8) (e : Ending) : Prop := (wideO l = none ∧ e = .returned (.tuple #[.int .u64 0, .bool false])) ∨ (∃ n : Nat, wideO l = some n ∧ e = .returned (.tuple #[.int .u64 (n : Int), .bool true]))

set_option maxHeartbeats 2000000 in
theorem pWide_any (s : ByteArray) (w : World) (hs : s.size ≤ 1000000) (hv : LibV w) :
    Calls Tryd.prog 8 #[.string s] w fun e w' => WideA s.data.toList e ∧ Below w.heap.size w w' := by
  by_cases h : ∃ z, Lib.parseUintB 64 s.data.toList = .ok z
  · obtain ⟨z, hz⟩ := h
    have hb0 : z < 18446744073709551616 := by have := Lib.parseUintB_le hz; omega
    have ha := puint_yes s z w (by omega) hz
    obtain ⟨u, hu⟩ : ∃ u : ByteArray, (⟨(Lib.decDigits z).toArray⟩ : ByteArray) = u := ⟨_, rfl⟩
    have hi := fun W (ht : LibV W) => fuint_any z W hb0 ht.tab
    rw [hu] at hi
    have hut : u.data.toList = Lib.decDigits z := by rw [← hu]
    by_cases he : u = s
    · subst he
      have HN : Hid (wideO u.data.toList = some z) := Lib.hid (wide_iff.2 ⟨hb0, hut.symm⟩)
      have HV := Lib.hid hv
      clear hu hut hz hv
      go_enter Tryd.func8, Tryd.ntmps8
      go_wp2_with fail
      refine ha.mono ?_
      rintro e w1 ⟨rfl, hb1⟩
      go_wp2_with fail
      refine (hi _ (HV.out.below hb1)).mono ?_
      rintro e w2 ⟨rfl, hb2⟩
      go_wp2_with fail
      go_ret2
      exact ⟨.inr ⟨z, HN.out, rfl⟩, hb1.trans (hb2.mono hb1.size)⟩
    · have HN : Hid (wideO s.data.toList = none) := Lib.hid (by
        cases hq : wideO s.data.toList with
        | none => rfl
        | some z' =>
          have h1 := pu_ok hq
          rw [hz] at h1
          injection h1 with h1
          subst h1
          have h2 := (wide_iff.1 hq).2
          exact absurd (ba_inj (hut.trans h2)) he)
      have HV := Lib.hid hv
      have hne := ba_ne he
      have HNE := Lib.hid hne
      clear hu hut hz hv he hne
      go_enter Tryd.func8, Tryd.ntmps8
      go_wp2_with fail
      refine ha.mono ?_
      rintro e w1 ⟨rfl, hb1⟩
      go_wp2_with fail
      refine (hi _ (HV.out.below hb1)).mono ?_
      rintro e w2 ⟨rfl, hb2⟩
      have hne := HNE.out
      go_wp2_with fail
      go_ret2
      exact ⟨.inl ⟨HN.out, rfl⟩, hb1.trans (hb2.mono hb1.size)⟩
  · have ha := puint_no s w (by omega) (fun z hz => h ⟨z, hz⟩) hv
    have HN : Hid (wideO s.data.toList = none) := Lib.hid (by
      cases hq : wideO s.data.toList with
      | none => rfl
      | some z' => exact absurd ⟨z', pu_ok hq⟩ h)
    clear h hv
    go_enter Tryd.func8, Tryd.ntmps8
    go_wp2_with fail
    refine ha.mono ?_
    rintro e w1 ⟨z, t, p, rfl, hb1⟩
    go_wp2_with fail
    go_ret2
    exact ⟨.inl ⟨HN.out, rfl⟩, hb1⟩
end Go.Proofs.YtbhdibeiojeadaaDoor
