/-
  Lines: Read: the program's.
-/
import Derived.Test.YtbhdibeiojeadaaDoorSplitP
import Derived.Test.YtbhdibeiojeadaaDoorNumP
import Derived.Test.YtbhdibeiojeadaaDoorL6H
import Derived.Lib.CutLaws
namespace Go.Proofs.YtbhdibeiojeadaaDoor
open Go.RowKit
set_option maxRecDepth 100000

theorem cut_no {c : UInt8} {r : ByteArray} (w : World) (hs : r.size ≤ 1000000) (hv : LibV w) (h : Lib.indexByte r.data.toList c = -1) :
    Calls Tryd.prog 29 #[.string r, .string ⟨#[c]⟩] w fun e w' => e = .returned (.tuple #[.string r, .string ⟨#[]⟩, .bool false]) ∧ Below w.heap.size w w' := by
  obtain ⟨m, hm⟩ := hv.ml
  have hix : Lib.indexB r ⟨#[c]⟩ = -1 := by show Lib.index r.data.toList [c] = -1; rw [Lib.index_one, h]
  obtain ⟨e1, e2, e3⟩ := Lib.cutB_miss r ⟨#[c]⟩ hix
  have hc := Tryd.strings_Cut r ⟨#[c]⟩ m w (by omega) hm
  rw [e1, e2, e3] at hc
  refine hc.mono ?_
  rintro e w' ⟨rfl, n, rfl⟩
  exact ⟨rfl, below_drN n⟩
theorem cut_yes {c : UInt8} {r : ByteArray} {o : Nat} (w : World) (hs : r.size ≤ 1000000) (hv : LibV w) (h : Lib.indexByte r.data.toList c = (o : Int)) :
    Calls Tryd.prog 29 #[.string r, .string ⟨#[c]⟩] w fun e w' => e = .returned (.tuple #[.string (r.extract 0 o), .string (r.extract (o + 1) r.size), .bool true]) ∧ Below w.heap.size w w' := by
  obtain ⟨m, hm⟩ := hv.ml
  have hix : Lib.indexB r ⟨#[c]⟩ = (o : Int) := by show Lib.index r.data.toList [c] = (o : Int); rw [Lib.index_one, h]
  obtain ⟨e1, e2, e3⟩ := Lib.cutB_hit r ⟨#[c]⟩ o hix
  have hc := Tryd.strings_Cut r ⟨#[c]⟩ m w (by omega) hm
  rw [e1, e2, e3] at hc
  refine hc.mono ?_
  rintro e w' ⟨rfl, n, rfl⟩
  exact ⟨rfl, below_drN n⟩

theorem pRead_many (t : ByteArray) (w : World) (ht : 65536 < t.size) (ht2 : t.size ≤ 4611686018427387904) :
    Calls Tryd.prog 17 #[.string t] w fun e w' => e = .returned (.tuple #[.slice none 0 0, .int .i64 0, .int .i64 5]) ∧ w' = w := by
  have h1 : (65536 : Int) < (t.size : Int) := by omega
  go_enter Tryd.func17, Tryd.ntmps17
  go_wp2_with fail
  go_ret3
  exact ⟨rfl, rfl⟩

/-- The length of a text that is a value. -/
def strOf (v : Value) : Nat := match v with | .string r => r.size | _ => 0
theorem pc_len (c : UInt8) (s : ByteArray) : 0 < (pc c s).length := (cutTo_len c s.data.toList s.size).1
theorem pc_empty (c : UInt8) : pc c ⟨#[]⟩ = [⟨#[]⟩] := rfl

set_option maxHeartbeats 8000000 in
theorem pRead_any (t : ByteArray) (w : World) (ht : t.size ≤ 65536) (hv : LibV w) :
    Calls Tryd.prog 17 #[.string t] w (ReadA w (cutTo 10 t.data.toList t.size)) := by
  have h1 : ¬ (65536 : Int) < (t.size : Int) := by omega
  obtain ⟨ps, hps⟩ : ∃ ps, pc 10 t = ps := ⟨_, rfl⟩
  rw [show cutTo 10 t.data.toList t.size = ps from hps]
  have HPS : Hid (ps.drop 0 = pc 10 t) := Lib.hid (by rw [List.drop_zero]; exact hps.symm)
  have HV := Lib.hid hv
  have hnn : ps.length ≤ 65537 := by have := cutTo_len 10 t.data.toList t.size; rw [← hps]; unfold pc; omega
  clear hps hv
  go_enter Tryd.func17, Tryd.ntmps17
  go_wp2_with fail
  go_loopw [0, 5] (fun tv lv wr => ∃ (k cq : Nat) (D : Option Addr) (vs : List Value) (r : ByteArray), tv = .string r ∧ lv = .slice D k cq ∧ Hid (ps.drop k = pc 10 r) ∧ r.size ≤ 65536 ∧ Hid (∀ j, j < k → badL ps j = false) ∧ Hid (wr.ownsRow w.heap.size 22 1 (.slice D k cq) k vs) ∧ Hid (LRow wr w.heap.size vs (fun j => lineOf (ps.getD j ⟨#[]⟩)) k) ∧ Hid (Below w.heap.size w wr)) (fun tv _ _ => strOf tv)
  case atStart => exact ⟨0, 0, none, [], t, rfl, rfl, HPS, ht, Lib.hid (fun j hj => by omega), Lib.hid (World.ownsRow_nil _ _ _ _), Lib.hid (fun j hj => by omega), Lib.hid (Below.refl _ _)⟩
  case round =>
    obtain ⟨k, cq, D, vs, r, rfl, rfl, HD, hrs, HALL, HO, HR, HBW⟩ := hrel
    have hkp : k < ps.length := by
      rcases Nat.lt_or_ge k ps.length with h | h
      · exact h
      · have := HD.out
        rw [List.drop_eq_nil_of_le h] at this
        have h2 := pc_len 10 r
        rw [← this] at h2
        simp at h2
    by_cases he : r = ⟨#[]⟩
    · subst he
      have hd := HD.out
      rw [pc_empty] at hd
      obtain ⟨hg, hd2⟩ := drop_at hd
      have hkl : k = ps.length - 1 := by
        have := List.length_drop (l := ps) (i := k)
        rw [hd] at this
        simp at this
        omega
      have HBAD : Hid (badL ps k = false) := Lib.hid (by unfold badL; rw [if_neg (by omega), show ps.getD k ⟨#[]⟩ = ⟨#[]⟩ from hg]; rfl)
      have HN : Hid (readN ps = 0) := Lib.hid (readN_none (fun j hj => by
        rcases Nat.lt_or_ge j k with h | h
        · exact HALL.out j h
        · obtain rfl : j = k := by omega
          exact HBAD.out))
      have HLN := Lib.hid (lns_of HO.out HR.out hkl)
      have HKL := Lib.hid hkl
      have HCQ := Lib.hid (own_len HO.out)
      clear hkl hd hg hd2
      go_wp2_with fail
      go_ret3
      exact ⟨.inl ⟨HN.out, _, _, by rw [← HKL.out]; rfl, by rw [← HKL.out]; exact HCQ.out, HLN.out⟩, HBW.out⟩
    · have hne : r.toList.isEmpty = false := by
        rw [ByteArray.toList_eq]
        cases hq : r.data.toList with
        | nil => exact absurd (ba_inj (t := ⟨#[]⟩) hq) he
        | cons b l => rfl
      rcases idx_cases 10 r with hix | ⟨o, hix⟩
      · have hd := HD.out
        rw [pc_none hix] at hd
        obtain ⟨hg, hd2⟩ := drop_at hd
        have hkl : k + 1 = ps.length := by
          have := List.length_drop (l := ps) (i := k)
          rw [hd] at this
          simp at this
          omega
        have HN : Hid (readN ps = k + 1) := Lib.hid (readN_hit hkp (by unfold badL; rw [if_neg (by omega), show ps.getD k ⟨#[]⟩ = r from hg, decide_eq_false he]; rfl) HALL.out)
        have hcut := cut_no (c := 10) (r := r) wr (by omega) (HV.out.below HBW.out) hix
        have hk2 : k ≤ 65537 := by omega
        clear hd hg hd2 hkl hix he hkp
        go_wp2_with fail
        refine hcut.mono ?_
        rintro e w1 ⟨rfl, hb1⟩
        have hsp := pSplit_any r w1 (by omega)
        have HB1 := Lib.hid hb1
        clear hb1 hcut
        go_wp2_with fail
        refine hsp.mono ?_
        rintro e w2 ⟨hh, hb2⟩
        have HB2 := Lib.hid hb2
        clear hb2 hsp
        rcases hh with ⟨_, A', n', c', rfl, _⟩ | ⟨_, rfl⟩
        all_goals
          go_wp2_with fail
          go_ret3
          exact ⟨.inr ⟨by rw [HN.out]; omega, by rw [HN.out]; rfl⟩, (HBW.out.trans (HB1.out.mono HBW.out.size)).trans (HB2.out.mono (HBW.out.trans (HB1.out.mono HBW.out.size)).size)⟩
      · have hd := HD.out
        obtain ⟨ho, hpc⟩ := pc_some hix
        rw [hpc] at hd
        obtain ⟨hg, hd2⟩ := drop_at hd
        have hkl : k + 1 < ps.length := by
          have h2 := List.length_drop (l := ps) (i := k + 1)
          have h3 := pc_len 10 (r.extract (o + 1) r.size)
          rw [hd2] at h2
          omega
        have hcut := cut_yes (c := 10) (r := r) wr (by omega) (HV.out.below HBW.out) hix
        have hsz2 : (r.extract (o + 1) r.size).size < r.size := by rw [ByteArray.size_extract]; omega
        have hsz1 : (r.extract 0 o).size ≤ 1000000 := by rw [ByteArray.size_extract]; omega
        obtain ⟨s, hs⟩ : ∃ s, r.extract 0 o = s := ⟨_, rfl⟩
        obtain ⟨q, hq⟩ : ∃ q, r.extract (o + 1) r.size = q := ⟨_, rfl⟩
        rw [hs] at hcut hg hsz1
        rw [hq] at hcut hd2 hsz2
        have hq2 : q.size ≤ 65536 := by omega
        have HS : Hid (ps.getD k ⟨#[]⟩ = s) := Lib.hid hg
        have HD2 := Lib.hid hd2
        have hk2 : k ≤ 65537 := by omega
        clear hd hg hd2 hpc hix he hs hq
        go_wp2_with fail
        refine hcut.mono ?_
        rintro e w1 ⟨rfl, hb1⟩
        have hsp := pSplit_any s w1 hsz1
        have HB1 := Lib.hid hb1
        clear hb1 hcut
        go_wp2_with fail
        refine hsp.mono ?_
        rintro e w2 ⟨hh, hb2⟩
        have HB2 : Hid (Below wr.heap.size wr w2) := Lib.hid (HB1.out.trans (hb2.mono HB1.out.size))
        have hz12 := HB1.out.size
        clear hb2 hsp
        rcases hh with ⟨hz, A', n', c', rfl, ho'⟩ | ⟨hz, rfl⟩
        · have HBAD : Hid (badL ps k = false) := Lib.hid (by unfold badL; rw [if_pos hkl, HS.out]; unfold lineOf; rw [hz]; rfl)
          obtain rfl : n' = (lineOf s).length := by have := ho'.1; rw [strs_length] at this; unfold lineOf; omega
          have HOS := Lib.hid (show w2.ownsRow w.heap.size 9 1 (.slice A' (lineOf s).length c') (lineOf s).length (strs (lineOf s)) from own_more ho' (by have := HBW.out.size; omega))
          have HVL : Hid (vs.length = k) := Lib.hid (by have := HO.out.1; omega)
          have HO2 := Lib.hid (own_last HO.out HB2.out)
          clear hz ho'
          go_wp2_with (at_builtin; refine wpList_append_v1 _ rfl (.tmp 36) (.tmp 38) 36 rfl w.heap.size 22 Tryd.underlying36 (.slice none 0 0) 24 info_strs rfl (.slice D k cq) k vs rfl (HO2.out.alloc _) w2.heap.size (.slice A' (lineOf s).length c') rfl (cell_one_new w2 _ _ 0 _ rfl) rfl (by omega) (by omega) (by have := HBW.out.size; have := HB2.out.size; simp; omega) ?_; intro D' c2 w3 hc2 HO3 hg3)
          have hbq := HBW.out.trans (HB2.out.mono HBW.out.size)
          have HBW3 := Lib.hid ((hbq.alloc hbq.size _).grown hg3 (by have := hbq.size; simp; omega) (fun r hr => (HO2.out.lt r hr).1))
          have HR3 := Lib.hid (LRow.push HR.out HVL.out HB2.out HBW.out.size (by simp only [HS.out]; exact HOS.out) (HO2.out.alloc _) hg3)
          clear hbq hg3
          go_wp2_with fail
          go_roundw
          case rel => exact ⟨k + 1, c2, D', _, q, rfl, rfl, HD2, hq2, Lib.hid (fun j hj => by
            rcases Nat.lt_or_ge j k with h | h
            · exact HALL.out j h
            · obtain rfl : j = k := by omega
              exact HBAD.out), HO3, by simp only [HS.out] at HR3; exact HR3, HBW3⟩
          case measure => simp only [strOf]; omega
        · have HN : Hid (readN ps = k + 1) := Lib.hid (readN_hit (by omega) (by unfold badL; rw [if_pos hkl, HS.out]; unfold lineOf; rw [hz]; rfl) HALL.out)
          clear hz
          go_wp2_with fail
          go_ret3
          exact ⟨.inr ⟨by rw [HN.out]; omega, by rw [HN.out]; rfl⟩, HBW.out.trans (HB2.out.mono HBW.out.size)⟩
end Go.Proofs.YtbhdibeiojeadaaDoor
