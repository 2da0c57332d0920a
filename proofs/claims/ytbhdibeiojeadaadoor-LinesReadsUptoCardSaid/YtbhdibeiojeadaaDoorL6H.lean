/-
  Lines: Read: the document's.
-/
import Derived.Test.YtbhdibeiojeadaaDoorL6G
namespace Go.Proofs.YtbhdibeiojeadaaDoor
open Go.RowKit
set_option maxRecDepth 100000

/-- What the document's Read answers, of the text's pieces at line feeds. -/
def ReadA (w : World) (ps : List ByteArray) (e : Ending) (w' : World) : Prop :=
  ((readN ps = 0 ∧ ∃ A cp, e = .returned (.tuple #[.slice A (ps.length - 1) cp, .int .i64 0, .int .i64 0]) ∧ ps.length - 1 ≤ cp ∧ Lns w' A (readL ps)) ∨ (0 < readN ps ∧ e = .returned (.tuple #[.slice none 0 0, .int .i64 (readN ps : Int), .int .i64 3]))) ∧ Below w.heap.size w w'

theorem refRead_many (t : ByteArray) (w : World) (ht : 65536 < t.size) (ht2 : t.size ≤ 4611686018427387904) :
    Calls Tryd.prog 18 #[.string t] w fun e w' => e = .returned (.tuple #[.slice none 0 0, .int .i64 0, .int .i64 5]) ∧ w' = w := by
  have h1 : (65536 : Int) < (t.size : Int) := by omega
  go_enter Tryd.func18, Tryd.ntmps18
  go_wp2_with fail
  go_ret3
  exact ⟨rfl, rfl⟩
theorem info_strs : (Tryd.prog.info? 22).map (fun i => (i.zero, i.size, i.bytes)) = some (some (.slice none 0 0), 1, 24) := by kernel_rfl
/-- A row of rows reads as lines. -/
theorem lns_of {w : World} {b1 b2 : Nat} {A : Option Addr} {c k : Nat} {vs : List Value} {ps : List ByteArray} (ho : w.ownsRow b1 22 1 (.slice A k c) k vs) (hr : LRow w b2 vs (fun j => lineOf (ps.getD j ⟨#[]⟩)) k) (hk : k = ps.length - 1) : Lns w A (readL ps) := by
  intro hne
  have hl : vs.length = k := by have := ho.1; omega
  have hpos : 0 < k := by
    rcases Nat.eq_zero_or_pos k with h | h
    · exact absurd (List.eq_nil_of_length_eq_zero (by rw [readL_len]; omega)) hne
    · exact h
  obtain ⟨b, o, h1, h2, h3⟩ := (Rv.of_own ho) (by intro e; rw [e] at hl; simp at hl; omega)
  refine ⟨b, o, h1, h2, fun j hj => ?_⟩
  rw [readL_len] at hj
  obtain ⟨A', c', q1, q2⟩ := hr j (by omega)
  rw [readL_get hj]
  exact ⟨A', c', h3 j _ q1, own_len q2, Rv.of_own q2⟩

set_option maxHeartbeats 8000000 in
theorem refRead_any (t : ByteArray) (w : World) (ht : t.size ≤ 65536) :
    Calls Tryd.prog 18 #[.string t] w (ReadA w (cutTo 10 t.data.toList t.size)) := by
  have h1 : ¬ (65536 : Int) < (t.size : Int) := by omega
  have hc := refCut_any t 10 w (by omega)
  have hcs := cutTo_size 10 t.data.toList t.size
  have hcl := cutTo_len 10 t.data.toList t.size
  obtain ⟨ps, hps⟩ : ∃ ps, cutTo 10 t.data.toList t.size = ps := ⟨_, rfl⟩
  rw [hps] at hc hcs hcl
  rw [hps]
  have HC := Lib.hid hc
  have HCS := Lib.hid (fun j => Nat.le_trans (hcs j) ht)
  have hnn : ps.length ≤ 65537 := by omega
  have hn0 : 0 < ps.length := hcl.1
  clear hps hc hcs hcl
  go_enter Tryd.func18, Tryd.ntmps18
  go_wp2_with fail
  refine HC.out.mono ?_
  rintro e w1 ⟨A, n, cp, rfl, ho, hb⟩
  have hlen : ps.length = n := by have := ho.1; rw [strs_length] at this; omega
  have HPS := Lib.hid (Rv.of_own ho)
  have HB := Lib.hid hb
  have HLEN := Lib.hid hlen
  rw [hlen] at hnn hn0
  clear ho hb hlen HC
  go_wp2_with fail
  go_loopw [6, 7] (fun ov iv wr => ∃ (k cq : Nat) (D : Option Addr) (vs : List Value), ov = .slice D k cq ∧ iv = .int .i64 (k : Int) ∧ k < n ∧ Hid (∀ j, j < k → badL ps j = false) ∧ Hid (wr.ownsRow w1.heap.size 22 1 (.slice D k cq) k vs) ∧ Hid (LRow wr w1.heap.size vs (fun j => lineOf (ps.getD j ⟨#[]⟩)) k) ∧ Hid (Below w1.heap.size w1 wr)) (fun _ iv _ => n - (intOf iv).toNat)
  case atStart => exact ⟨0, 0, none, [], rfl, rfl, hn0, Lib.hid (fun j hj => by omega), Lib.hid (World.ownsRow_nil _ _ _ _), Lib.hid (fun j hj => by omega), Lib.hid (Below.refl _ _)⟩
  case round =>
    obtain ⟨k, cq, D, vs, rfl, rfl, hk, HALL, HO, HR, HBW⟩ := hrel
    obtain ⟨b1, o1, rfl, _, q1⟩ := ((HPS.out.below HBW.out (Nat.le_refl _)).more HBW.out.size).at_ (strs_get (k := k) (by rw [HLEN.out]; exact hk))
    obtain ⟨s, hs⟩ : ∃ s, ps.getD k ⟨#[]⟩ = s := ⟨_, rfl⟩
    have hsz := HCS.out k
    rw [hs] at q1 hsz
    have HS := Lib.hid hs
    have hi0 : (0 : Int) ≤ (k : Int) := by omega
    have hi1 : (k : Int) < (n : Int) := by omega
    have hsp := refSplit_any s wr (by omega)
    have HSP := Lib.hid hsp
    clear hs hsp
    by_cases hl : k + 1 = n
    · subst hl
      have hm1 : (((k + 1 : Nat) : Int) - 1) = (k : Int) := by omega
      have hm2 : IntKind.i64.wrap (((k + 1 : Nat) : Int) - 1) = (k : Int) := by rw [hm1]; exact IntWalk.i64_in _ (by omega)
      have hm3 : IntKind.i64.wrap (k : Int) = (k : Int) := IntWalk.i64_in _ (by omega)
      have hi2 : (k : Int) < (k : Int) + 1 := by omega
      by_cases he : s = ⟨#[]⟩
      · subst he
        have HBAD : Hid (badL ps k = false) := Lib.hid (by unfold badL; rw [if_neg (by rw [HLEN.out]; omega), HS.out]; rfl)
        have HN : Hid (readN ps = 0) := Lib.hid (readN_none (fun j hj => by
          rcases Nat.lt_or_ge j k with h | h
          · exact HALL.out j h
          · obtain rfl : j = k := by have := HLEN.out; omega
            exact HBAD.out))
        have hkl : k = ps.length - 1 := by have := HLEN.out; omega
        have HLN := Lib.hid (lns_of HO.out HR.out hkl)
        have HKL := Lib.hid hkl
        have HCQ := Lib.hid (own_len HO.out)
        clear hkl
        go_wp2_with fail
        go_ret3
        exact ⟨.inl ⟨HN.out, _, _, by rw [← HKL.out]; rfl, by rw [← HKL.out]; exact HCQ.out, HLN.out⟩, HB.out.trans (HBW.out.mono HB.out.size)⟩
      · have hne1 : (s.toList == (⟨#[]⟩ : ByteArray).toList) = false := ba_ne he
        have hne2 : (s.toList == []) = false := by rw [ByteArray.toList_eq] at hne1 ⊢; rw [ByteArray.toList_eq] at hne1; exact hne1
        have hne3 : ¬ s = ByteArray.empty := fun e => he e
        have HN : Hid (readN ps = k + 1) := Lib.hid (readN_hit (by rw [HLEN.out]; omega) (by unfold badL; rw [if_neg (by rw [HLEN.out]; omega), HS.out, decide_eq_false he]; rfl) HALL.out)
        go_wp2_with fail
        refine HSP.out.mono ?_
        rintro e w2 ⟨hh, hb2⟩
        have HB2 := Lib.hid hb2
        clear hb2 HSP
        rcases hh with ⟨_, A', n', c', rfl, _⟩ | ⟨_, rfl⟩
        all_goals
          go_wp2_with fail
          go_ret3
          exact ⟨.inr ⟨by rw [HN.out]; omega, by rw [HN.out]; rfl⟩, (HB.out.trans (HBW.out.mono HB.out.size)).trans (HB2.out.mono (HB.out.trans (HBW.out.mono HB.out.size)).size)⟩
    · have hl1 : ¬ (k : Int) = (n : Int) - 1 := by omega
      have hl2 : ((k : Int) == (n : Int) - 1) = false := beq_eq_false_iff_ne.2 hl1
      have hm2 : IntKind.i64.wrap ((n : Int) - 1) = (n : Int) - 1 := IntWalk.i64_in _ (by omega)
      go_wp2_with fail
      refine HSP.out.mono ?_
      rintro e w2 ⟨hh, hb2⟩
      have HB2 := Lib.hid hb2
      clear hb2 HSP
      rcases hh with ⟨hz, A', n', c', rfl, ho'⟩ | ⟨hz, rfl⟩
      · have HBAD : Hid (badL ps k = false) := Lib.hid (by unfold badL; rw [if_pos (by rw [HLEN.out]; omega), HS.out]; unfold lineOf; rw [hz]; rfl)
        obtain rfl : n' = (lineOf s).length := by have := ho'.1; rw [strs_length] at this; unfold lineOf; omega
        have HOS := Lib.hid (show w2.ownsRow w1.heap.size 9 1 (.slice A' (lineOf s).length c') (lineOf s).length (strs (lineOf s)) from own_more ho' HBW.out.size)
        have HVL : Hid (vs.length = k) := Lib.hid (by have := HO.out.1; omega)
        have HO2 := Lib.hid (own_last HO.out HB2.out)
        clear hz ho'
        go_wp2_with (at_builtin; go_loud (refine wpList_append_v1 _ rfl (.tmp 50) (.tmp 52) 36 rfl w1.heap.size 22 Tryd.underlying36 (.slice none 0 0) 24 info_strs rfl (.slice D k cq) k vs rfl (HO2.out.alloc _) w2.heap.size (.slice A' (lineOf s).length c') rfl (cell_one_new w2 _ _ 0 _ rfl) rfl (by omega) (by omega) (by have := HBW.out.size; have := HB2.out.size; simp; omega) ?_); intro D' c2 w3 hc2 HO3 hg3)
        have hbq := HBW.out.trans (HB2.out.mono HBW.out.size)
        have HBW3 := Lib.hid ((hbq.alloc hbq.size _).grown hg3 (by have := hbq.size; simp; omega) (fun r hr => (HO2.out.lt r hr).1))
        have HR3 := Lib.hid (LRow.push HR.out HVL.out HB2.out HBW.out.size (by simp only [HS.out]; exact HOS.out) (HO2.out.alloc _) hg3)
        clear hbq hg3
        go_wp2_with fail
        go_roundw
        case rel => exact ⟨k + 1, c2, D', _, rfl, by go_num, by omega, Lib.hid (fun j hj => by
          rcases Nat.lt_or_ge j k with h | h
          · exact HALL.out j h
          · obtain rfl : j = k := by omega
            exact HBAD.out), HO3, by simp only [HS.out] at HR3; exact HR3, HBW3⟩
        case measure => simp [intOf]; omega
      · have HN : Hid (readN ps = k + 1) := Lib.hid (readN_hit (by rw [HLEN.out]; omega) (by unfold badL; rw [if_pos (by rw [HLEN.out]; omega), HS.out]; unfold lineOf; rw [hz]; rfl) HALL.out)
        clear hz
        go_wp2_with fail
        go_ret3
        exact ⟨.inr ⟨by rw [HN.out]; omega, by rw [HN.out]; rfl⟩, (HB.out.trans (HBW.out.mono HB.out.size)).trans (HB2.out.mono (HB.out.trans (HBW.out.mono HB.out.size)).size)⟩
end Go.Proofs.YtbhdibeiojeadaaDoor
