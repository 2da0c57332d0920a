/-
  Whatever is taken, and given back: which place is taken, and which are, is the document's: the walk.
-/
import Derived.Test.YthgenoepgjkfoaaDoorLawSlotC
import Derived.Test.YthgenoepgjkfoaaDoorLawSlotN
import Derived.Test.YthgenoepgjkfoaaDoorLawSlotI
import Derived.Test.YthgenoepgjkfoaaDoorLawSlotO
namespace Go.Proofs.YthgenoepgjkfoaaDoor
open Go.RowKit
set_option maxRecDepth 100000

theorem plays11_long (n : Int) (B : Option Addr) (m d : Nat) (w : World) (hT : Tab11 w) (hT0 : 0 < w.heap.size) (hm : 200 < m) :
    Calls Tryd.prog 3 #[.int .i64 n, .slice B m d] w fun e w' => e = .returned (.bool true) ∧ Below w.heap.size w w' := by
  have h1 : (200 : Int) < (m : Int) := by omega
  have HA := Lib.hid (alive11 w hT hT0)
  clear hT
  go_enter Tryd.func3, Tryd.ntmps3
  go_wp2_with fail
  refine HA.out.mono ?_
  rintro en w1 ⟨rfl, hb⟩
  go_wp2_with fail
  go_ret
  exact ⟨rfl, hb⟩
theorem plays11_bad (n : Int) (B : Option Addr) (m d : Nat) (w : World) (hT : Tab11 w) (hT0 : 0 < w.heap.size) (hm : m ≤ 200) (hn : n < 1 ∨ 4096 < n) :
    Calls Tryd.prog 3 #[.int .i64 n, .slice B m d] w fun e w' => e = .returned (.bool true) ∧ Below w.heap.size w w' := by
  have h1 : ¬ (200 : Int) < (m : Int) := by omega
  have HN := Lib.hid (new11_no n w hn)
  have HA := Lib.hid (alive11 w hT hT0)
  clear hT
  by_cases h2 : n < 1
  · clear hn
    go_enter Tryd.func3, Tryd.ntmps3
    go_wp2_with fail
    refine HN.out.mono ?_
    rintro en w1 ⟨rfl, rfl⟩
    go_wp2_with fail
    refine HA.out.mono ?_
    rintro en w2 ⟨rfl, hb⟩
    go_wp2_with fail
    go_ret
    exact ⟨rfl, hb⟩
  · have h3 : 4096 < n := by omega
    clear hn
    go_enter Tryd.func3, Tryd.ntmps3
    go_wp2_with fail
    refine HN.out.mono ?_
    rintro en w1 ⟨rfl, rfl⟩
    go_wp2_with fail
    refine HA.out.mono ?_
    rintro en w2 ⟨rfl, hb⟩
    go_wp2_with fail
    go_ret
    exact ⟨rfl, hb⟩
/-- What make lays. -/
theorem made11 (n : Nat) : (madeCells (Value.bool false).cells (n * 1)).toList = bls (fun _ => false) n := by
  apply List.ext_getElem?
  intro k
  rw [Nat.mul_one]
  by_cases h : k < n
  · rw [bls_get _ h]
    simp [madeCells, Value.cells, h, Nat.mod_one]
  · rw [List.getElem?_eq_none (by simp [madeCells]; omega), List.getElem?_eq_none (by rw [bls_len]; omega)]
theorem info_bool11 : (Tryd.prog.info? 4).map (fun i => (i.zero, i.size, i.bytes)) = some (some (.bool false), 1, 1) := by kernel_rfl
theorem blk11_own {w : World} {base g n : Nat} {e : TypeId} {xs : List Value} (h : w.ownsRow base e 1 (.slice (some ⟨g, 0, none⟩) n n) n xs) (hx : xs.length = n) : Blk w g e xs.toArray ∧ base ≤ g := by
  rcases h.2 with ⟨h1, _⟩ | ⟨g', cap, cur, hv, hb, hh, hnc, hmx, hcs, ht⟩
  · injection h1 with h2
    cases h2
  · injection hv with hv1 hv2 hv3
    injection hv1 with hv1
    injection hv1 with hv1
    subst hv1
    subst hv3
    refine ⟨?_, hb⟩
    have e1 : cur = xs.toArray := by
      apply Array.ext'
      rw [← ht]
      have h9 : cur.toList.length = n := by
        have : cur.size = n * 1 := hcs
        simp only [Array.length_toList]
        omega
      exact (List.take_of_length_le (by simp only [Array.length_toList] at h9 ⊢; omega)).symm
    rw [← e1]
    exact hh

set_option maxHeartbeats 16000000 in
theorem plays11_walk (n : Nat) (B : Option Addr) (m d : Nat) (zs : List Int) (w : World) (hz : zs.length = m) (hr : Rv w w.heap.size B (ints8 zs)) (hT : Tab11 w) (hT0 : 0 < w.heap.size) (hm : m ≤ 200) (hn1 : 1 ≤ n) (hn : n ≤ 4096) :
    Calls Tryd.prog 3 #[.int .i64 (n : Int), .slice B m d] w fun e w' => e = .returned (.bool true) ∧ Below w.heap.size w w' := by
  have HAC := Lib.hid hr
  have HZL := Lib.hid hz
  have HT := Lib.hid hT
  have h1 : ¬ (200 : Int) < (m : Int) := by omega
  have h2 : ¬ (n : Int) < 1 := by omega
  have h3 : ¬ 4096 < (n : Int) := by omega
  have h5 : decide ((n : Int) < 1) = false := decide_eq_false h2
  have h6 : decide (4096 < (n : Int)) = false := decide_eq_false h3
  have HN := Lib.hid (new11_yes n w hn1 hn)
  obtain ⟨i0, hi0, hz0, hz1, hz2⟩ := info_parts info_bool11
  clear hr hz hT
  go_enter Tryd.func3, Tryd.ntmps3
  go_wp2_with fail
  refine HN.out.mono ?_
  rintro en w1 ⟨g, rfl, hg, ht1, hb1⟩
  have HT1 := Lib.hid ht1
  have HB1 := Lib.hid hb1
  have hs1 := hb1.size
  clear HN ht1 hb1
  go_wp2_with ((with_reducible refine wpList_make_full _ rfl (.tmp 42) (.tmp 42) 28 rfl w.heap.size 4 i0 (.bool false) 1 Tryd.underlying28 hi0 hz0 hz1 .i64 .i64 _ _ n rfl rfl rfl rfl (by rw [hz2]; omega) (by unfold maxLen; omega) (by omega) ?_); intro w2 hown2 hg2)
  obtain ⟨bb, hbb⟩ : ∃ bb, w1.heap.size = bb := ⟨_, rfl⟩
  rw [made11, hbb] at hown2
  rw [hbb]
  have hrow := blk11_own hown2 (bls_len _ _)
  have HP2 : Hid (Pl11 w.heap.size w2 g bb n (fun _ => false)) := Lib.hid ⟨HT1.out.quiet hg2, hrow.1, hg, hrow.2⟩
  have HB2 : Hid (Below w.heap.size w w2) := Lib.hid (HB1.out.grown hg2 HB1.out.size (fun r hr => by cases hr))
  have hgL := hg
  have hbL := hrow.2
  clear hown2 hg2 HT1 HB1 hi0 hz0 hz1 hz2 hrow hbb
  go_wp2_with fail
  go_loopw [8] (fun iv wr => ∃ (k : Nat) (T : Nat → Bool), iv = .int .i64 (k : Int) ∧ k ≤ m ∧ Hid (Pl11 w.heap.size wr g bb n T) ∧ Hid (Below w.heap.size w wr)) (fun iv _ => m - (intOf iv).toNat)
  case atStart => exact ⟨0, fun _ => false, rfl, by omega, HP2, HB2⟩
  case round =>
    clear HP2 HB2
    obtain ⟨k, T, rfl, hk, HP, HB⟩ := hrel
    have hself : ∀ i : Int, (i != i) = false := fun i => by simp
    have hselfb : ∀ i : Bool, (i != i) = false := fun i => by simp
    by_cases hkm : k < m
    · have hkz : k < zs.length := by have := HZL.out; omega
      obtain ⟨a, ha0⟩ : ∃ a, zs.getD k 0 = a := ⟨_, rfl⟩
      have HZK : Hid ((ints8 zs)[k]? = some (.int .i64 a)) := Lib.hid (by rw [ints8_get hkz, ha0])
      obtain ⟨ba, oa, hB0, hbz, z00⟩ := HAC.out.at_ HZK.out
      subst hB0
      have z0 := (HB.out.cell (p := ⟨ba, oa + k, none⟩) hbz).trans z00
      have hi0 : (0 : Int) ≤ (k : Int) := by omega
      have hi1 : (k : Int) < (m : Int) := by omega
      have hTr := HT.out.below HB.out hT0
      have HZ0 := Lib.hid z00
      clear ha0 hkz z00
      by_cases ha : a < 0
      · rcases free11_or T n with ⟨p, hp⟩ | hf
        · have HRF := Lib.hid (rfree11_yes (c := n) wr HP.out.read hn hp)
          have HTK := Lib.hid (take11_yes wr HP.out.sl hTr hp)
          have hp0 : (0 : Int) ≤ (p : Int) := by omega
          have hp1 : (p : Int) < (n : Int) := by have := hp.lt; omega
          have HFI := Lib.hid hp
          clear hp hTr
          go_wp2_with fail
          refine HRF.out.mono ?_
          rintro e w3 ⟨rfl, rfl⟩
          go_wp2_with fail
          refine HTK.out.mono ?_
          rintro e w4 ⟨rfl, hs4, hg4⟩
          obtain ⟨hpl4, hf4, hb4⟩ := HP.out.turn (k := p) (b := true) hs4 hg4 rfl
          have c4 : w4.cell? ⟨bb, p, none⟩ = some (.bool false) := by
            rw [hb4.cell]
            have h9 := bls_get T HFI.out.lt
            rw [HFI.out.is] at h9
            simpa using h9
          have HPk := Lib.hid hpl4
          have HBk := Lib.hid (bb11_below (bb := bb) (k := p) (u := .bool true) (below11_row HB.out hg4 (Nat.le_refl _) hgL) hbL)
          clear hpl4 hb4 hs4 hg4 HRF HTK z0
          obtain ⟨Lx, hLx⟩ : ∃ Lx, all11 (turn11 T p true) n = Lx := ⟨_, rfl⟩
          obtain ⟨mm, hmm⟩ : ∃ mm, Lx.length = mm := ⟨_, rfl⟩
          have HALL := Lib.hid (ask11_all (cb := n) HPk.out hLx hmm)
          have HLX := Lib.hid hLx
          have HMM := Lib.hid hmm
          clear hLx hmm
          go_wp2_with fail
          refine HALL.out.mono ?_
          rintro e wa ⟨Aa, ca, rfl, hca, hra0, hba0⟩
          have HRA0 := Lib.hid hra0
          have HBA0 := Lib.hid hba0
          clear hra0 hba0 HALL
          go_wp2_with fail
          have hra := HRA0.out
          have hba := HBA0.out
          have hPa := HPk.out.below hba
          have hBa := HBk.out.trans (hba.mono HBk.out.size)
          have hTa := HT.out.below hBa hT0
          have hTa0 := Nat.lt_of_lt_of_le hT0 hBa.size
          have hm4 : mm ≤ 4096 := by
            have h1 := all11_len (turn11 T p true) n
            rw [HLX.out, HMM.out] at h1
            omega
          obtain ⟨fv, hfr, hrf⟩ := ask11_free (cb := n) hPa hTa hTa0
          have hln := ask11_len hPa hTa hTa0 HLX.out HMM.out
          obtain ⟨m1, hm1⟩ : ∃ m1, mm + 1 = m1 := ⟨_, rfl⟩
          obtain ⟨h, hh⟩ : ∃ h, h = mm / 2 := ⟨_, rfl⟩
          have hl1 := ask11_list (p := m1) hPa hTa hTa0 HLX.out (by omega) (List.take_of_length_le (by rw [HMM.out]; omega)) HMM.out
          have hl2 := ask11_list (p := h) (q := h) hPa hTa hTa0 HLX.out (by omega) rfl (by rw [List.length_take, HMM.out]; omega)
          have hw1 : IntKind.i64.wrap ((mm : Int) + 1) = (m1 : Int) := by rw [IntKind.wrap_i64]; omega
          have y0 := (hBa.cell (p := ⟨ba, oa + k, none⟩) hbz).trans HZ0.out
          have HPa := Lib.hid hPa
          have HBa := Lib.hid hBa
          have has := ask11_out hPa (a := a) (.inl ha)
          refine reg24n_r (Lib.hid hfr) (Lib.hid hrf) (Lib.hid hln) (Lib.hid hl1) (Lib.hid hl2) (Lib.hid has) HMM (Lib.hid hh) hm4 hca (Lib.hid hra) hw1 hkm y0 ha rfl (by intro _ _ _ _ _ h; exact h) (fun _ _ _ _ _ _ _ _ _ _ _ _ _ _ _ _ _ _ _ _ _ _ _ _ _ _ _ _ _ _ _ _ _ _ _ _ _ _ _ _ _ _ _ _ _ _ _ _ _ _ _ _ _ _ _ _ _ _ _ _ _ _ _ _ _ _ wn hbn => ?_)
          have HPn := Lib.hid (HPa.out.below hbn)
          have HBn := Lib.hid (HBa.out.trans (hbn.mono HBa.out.size))
          clear hfr hrf hln hl1 hl2 has hw1 y0 hba hPa hBa hTa hra hm1 hh hbn 
          go_wp2_with fail
          go_roundw
          case rel => exact ⟨k + 1, (turn11 T p true), by go_num, by omega, HPn, HBn⟩
          case measure => simp [intOf]; omega
        · have HRF := Lib.hid (rfree11_no (c := n) wr HP.out.read hn hf)
          have HTK := Lib.hid (take11_no wr HP.out.sl hTr hf)
          clear hTr hf
          go_wp2_with fail
          refine HRF.out.mono ?_
          rintro e w3 ⟨rfl, rfl⟩
          go_wp2_with fail
          refine HTK.out.mono ?_
          rintro e w4 ⟨rfl, rfl⟩
          have HPk := Lib.hid HP.out
          have HBk := Lib.hid HB.out
          clear HRF HTK z0
          obtain ⟨Lx, hLx⟩ : ∃ Lx, all11 (T) n = Lx := ⟨_, rfl⟩
          obtain ⟨mm, hmm⟩ : ∃ mm, Lx.length = mm := ⟨_, rfl⟩
          have HALL := Lib.hid (ask11_all (cb := n) HPk.out hLx hmm)
          have HLX := Lib.hid hLx
          have HMM := Lib.hid hmm
          clear hLx hmm
          go_wp2_with fail
          refine HALL.out.mono ?_
          rintro e wa ⟨Aa, ca, rfl, hca, hra0, hba0⟩
          have HRA0 := Lib.hid hra0
          have HBA0 := Lib.hid hba0
          clear hra0 hba0 HALL
          go_wp2_with fail
          have hra := HRA0.out
          have hba := HBA0.out
          have hPa := HPk.out.below hba
          have hBa := HBk.out.trans (hba.mono HBk.out.size)
          have hTa := HT.out.below hBa hT0
          have hTa0 := Nat.lt_of_lt_of_le hT0 hBa.size
          have hm4 : mm ≤ 4096 := by
            have h1 := all11_len (T) n
            rw [HLX.out, HMM.out] at h1
            omega
          obtain ⟨fv, hfr, hrf⟩ := ask11_free (cb := n) hPa hTa hTa0
          have hln := ask11_len hPa hTa hTa0 HLX.out HMM.out
          obtain ⟨m1, hm1⟩ : ∃ m1, mm + 1 = m1 := ⟨_, rfl⟩
          obtain ⟨h, hh⟩ : ∃ h, h = mm / 2 := ⟨_, rfl⟩
          have hl1 := ask11_list (p := m1) hPa hTa hTa0 HLX.out (by omega) (List.take_of_length_le (by rw [HMM.out]; omega)) HMM.out
          have hl2 := ask11_list (p := h) (q := h) hPa hTa hTa0 HLX.out (by omega) rfl (by rw [List.length_take, HMM.out]; omega)
          have hw1 : IntKind.i64.wrap ((mm : Int) + 1) = (m1 : Int) := by rw [IntKind.wrap_i64]; omega
          have y0 := (hBa.cell (p := ⟨ba, oa + k, none⟩) hbz).trans HZ0.out
          have HPa := Lib.hid hPa
          have HBa := Lib.hid hBa
          have has := ask11_out hPa (a := a) (.inl ha)
          refine reg24n_r (Lib.hid hfr) (Lib.hid hrf) (Lib.hid hln) (Lib.hid hl1) (Lib.hid hl2) (Lib.hid has) HMM (Lib.hid hh) hm4 hca (Lib.hid hra) hw1 hkm y0 ha rfl (by intro _ _ _ _ _ h; exact h) (fun _ _ _ _ _ _ _ _ _ _ _ _ _ _ _ _ _ _ _ _ _ _ _ _ _ _ _ _ _ _ _ _ _ _ _ _ _ _ _ _ _ _ _ _ _ _ _ _ _ _ _ _ _ _ _ _ _ _ _ _ _ _ _ _ _ _ wn hbn => ?_)
          have HPn := Lib.hid (HPa.out.below hbn)
          have HBn := Lib.hid (HBa.out.trans (hbn.mono HBa.out.size))
          clear hfr hrf hln hl1 hl2 has hw1 y0 hba hPa hBa hTa hra hm1 hh hbn 
          go_wp2_with fail
          go_roundw
          case rel => exact ⟨k + 1, (T), by go_num, by omega, HPn, HBn⟩
          case measure => simp [intOf]; omega
      · obtain ⟨j, rfl⟩ := Int.eq_ofNat_of_zero_le (show 0 ≤ a by omega)
        have hj0 : (0 : Int) ≤ (j : Int) := by omega
        by_cases hj : j < n
        · have hj1 : (j : Int) < (n : Int) := by omega
          obtain ⟨tj, htj⟩ : ∃ tj, T j = tj := ⟨_, rfl⟩
          have c2 : wr.cell? ⟨bb, j, none⟩ = some (.bool tj) := by
            rw [HP.out.row.cell]
            have h9 := bls_get T hj
            rw [htj] at h9
            simpa using h9
          cases tj with
          | true =>
            have HGV := Lib.hid (give11_yes wr HP.out.sl htj)
            clear hTr htj
            go_wp2_with fail
            refine HGV.out.mono ?_
            rintro e w4 ⟨rfl, hs4, hg4⟩
            obtain ⟨hpl4, hf4, hb4⟩ := HP.out.turn (k := j) (b := false) hs4 hg4 rfl
            have z4 := ((below11_row HB.out hg4 (Nat.le_refl _) hgL).cell (p := ⟨ba, oa + k, none⟩) hbz).trans HZ0.out
            have c4 : w4.cell? ⟨bb, j, none⟩ = some (.bool true) := by
              rw [hb4.cell]
              rw [HP.out.row.cell] at c2
              exact c2
            have HPk := Lib.hid hpl4
            have HBk := Lib.hid (bb11_below (bb := bb) (k := j) (u := .bool false) (below11_row HB.out hg4 (Nat.le_refl _) hgL) hbL)
            clear hpl4 hb4 hs4 hg4 HGV z0 c2
            obtain ⟨Lx, hLx⟩ : ∃ Lx, all11 (turn11 T j false) n = Lx := ⟨_, rfl⟩
            obtain ⟨mm, hmm⟩ : ∃ mm, Lx.length = mm := ⟨_, rfl⟩
            have HALL := Lib.hid (ask11_all (cb := n) HPk.out hLx hmm)
            have HLX := Lib.hid hLx
            have HMM := Lib.hid hmm
            clear hLx hmm
            go_wp2_with fail
            refine HALL.out.mono ?_
            rintro e wa ⟨Aa, ca, rfl, hca, hra0, hba0⟩
            have HRA0 := Lib.hid hra0
            have HBA0 := Lib.hid hba0
            clear hra0 hba0 HALL
            go_wp2_with fail
            have hra := HRA0.out
            have hba := HBA0.out
            have hPa := HPk.out.below hba
            have hBa := HBk.out.trans (hba.mono HBk.out.size)
            have hTa := HT.out.below hBa hT0
            have hTa0 := Nat.lt_of_lt_of_le hT0 hBa.size
            have hm4 : mm ≤ 4096 := by
              have h1 := all11_len (turn11 T j false) n
              rw [HLX.out, HMM.out] at h1
              omega
            obtain ⟨fv, hfr, hrf⟩ := ask11_free (cb := n) hPa hTa hTa0
            have hln := ask11_len hPa hTa hTa0 HLX.out HMM.out
            obtain ⟨m1, hm1⟩ : ∃ m1, mm + 1 = m1 := ⟨_, rfl⟩
            obtain ⟨h, hh⟩ : ∃ h, h = mm / 2 := ⟨_, rfl⟩
            have hl1 := ask11_list (p := m1) hPa hTa hTa0 HLX.out (by omega) (List.take_of_length_le (by rw [HMM.out]; omega)) HMM.out
            have hl2 := ask11_list (p := h) (q := h) hPa hTa hTa0 HLX.out (by omega) rfl (by rw [List.length_take, HMM.out]; omega)
            have hw1 : IntKind.i64.wrap ((mm : Int) + 1) = (m1 : Int) := by rw [IntKind.wrap_i64]; omega
            have y0 := (hBa.cell (p := ⟨ba, oa + k, none⟩) hbz).trans HZ0.out
            have HPa := Lib.hid hPa
            have HBa := Lib.hid hBa
            have has := ask11_in hPa hj
            have y1 : wa.cell? ⟨bb, 0 + j, none⟩ = some (.bool (turn11 T j false j)) := by
              rw [Nat.zero_add, hPa.row.cell]
              simpa using bls_get (turn11 T j false) hj
            refine reg24i_r (Lib.hid hfr) (Lib.hid hrf) (Lib.hid hln) (Lib.hid hl1) (Lib.hid hl2) (Lib.hid has) HMM (Lib.hid hh) hm4 hca (Lib.hid hra) hw1 hkm y0 hj y1 (by intro _ _ _ _ _ h; exact h) (fun _ _ _ _ _ _ _ _ _ _ _ _ _ _ _ _ _ _ _ _ _ _ _ _ _ _ _ _ _ _ _ _ _ _ _ _ _ _ _ _ _ _ _ _ _ _ _ _ _ _ _ _ _ _ _ _ _ _ _ _ _ _ _ _ _ _ wn hbn => ?_)
            have HPn := Lib.hid (HPa.out.below hbn)
            have HBn := Lib.hid (HBa.out.trans (hbn.mono HBa.out.size))
            clear hfr hrf hln hl1 hl2 has hw1 y0 hba hPa hBa hTa hra hm1 hh hbn y1
            go_wp2_with fail
            go_roundw
            case rel => exact ⟨k + 1, (turn11 T j false), by go_num, by omega, HPn, HBn⟩
            case measure => simp [intOf]; omega
          | false =>
            have hh9 := has11_in wr HP.out.sl hj
            rw [htj] at hh9
            have HGV := Lib.hid (give11_no (j : Int) wr hh9)
            clear hTr htj hh9
            go_wp2_with fail
            refine HGV.out.mono ?_
            rintro e w4 ⟨rfl, rfl⟩
            have HPk := Lib.hid HP.out
            have HBk := Lib.hid HB.out
            clear HGV
            obtain ⟨Lx, hLx⟩ : ∃ Lx, all11 (T) n = Lx := ⟨_, rfl⟩
            obtain ⟨mm, hmm⟩ : ∃ mm, Lx.length = mm := ⟨_, rfl⟩
            have HALL := Lib.hid (ask11_all (cb := n) HPk.out hLx hmm)
            have HLX := Lib.hid hLx
            have HMM := Lib.hid hmm
            clear hLx hmm
            go_wp2_with fail
            refine HALL.out.mono ?_
            rintro e wa ⟨Aa, ca, rfl, hca, hra0, hba0⟩
            have HRA0 := Lib.hid hra0
            have HBA0 := Lib.hid hba0
            clear hra0 hba0 HALL
            go_wp2_with fail
            have hra := HRA0.out
            have hba := HBA0.out
            have hPa := HPk.out.below hba
            have hBa := HBk.out.trans (hba.mono HBk.out.size)
            have hTa := HT.out.below hBa hT0
            have hTa0 := Nat.lt_of_lt_of_le hT0 hBa.size
            have hm4 : mm ≤ 4096 := by
              have h1 := all11_len (T) n
              rw [HLX.out, HMM.out] at h1
              omega
            obtain ⟨fv, hfr, hrf⟩ := ask11_free (cb := n) hPa hTa hTa0
            have hln := ask11_len hPa hTa hTa0 HLX.out HMM.out
            obtain ⟨m1, hm1⟩ : ∃ m1, mm + 1 = m1 := ⟨_, rfl⟩
            obtain ⟨h, hh⟩ : ∃ h, h = mm / 2 := ⟨_, rfl⟩
            have hl1 := ask11_list (p := m1) hPa hTa hTa0 HLX.out (by omega) (List.take_of_length_le (by rw [HMM.out]; omega)) HMM.out
            have hl2 := ask11_list (p := h) (q := h) hPa hTa hTa0 HLX.out (by omega) rfl (by rw [List.length_take, HMM.out]; omega)
            have hw1 : IntKind.i64.wrap ((mm : Int) + 1) = (m1 : Int) := by rw [IntKind.wrap_i64]; omega
            have y0 := (hBa.cell (p := ⟨ba, oa + k, none⟩) hbz).trans HZ0.out
            have HPa := Lib.hid hPa
            have HBa := Lib.hid hBa
            have has := ask11_in hPa hj
            have y1 : wa.cell? ⟨bb, 0 + j, none⟩ = some (.bool (T j)) := by
              rw [Nat.zero_add, hPa.row.cell]
              simpa using bls_get (T) hj
            refine reg24i_r (Lib.hid hfr) (Lib.hid hrf) (Lib.hid hln) (Lib.hid hl1) (Lib.hid hl2) (Lib.hid has) HMM (Lib.hid hh) hm4 hca (Lib.hid hra) hw1 hkm y0 hj y1 (by intro _ _ _ _ _ h; exact h) (fun _ _ _ _ _ _ _ _ _ _ _ _ _ _ _ _ _ _ _ _ _ _ _ _ _ _ _ _ _ _ _ _ _ _ _ _ _ _ _ _ _ _ _ _ _ _ _ _ _ _ _ _ _ _ _ _ _ _ _ _ _ _ _ _ _ _ wn hbn => ?_)
            have HPn := Lib.hid (HPa.out.below hbn)
            have HBn := Lib.hid (HBa.out.trans (hbn.mono HBa.out.size))
            clear hfr hrf hln hl1 hl2 has hw1 y0 hba hPa hBa hTa hra hm1 hh hbn y1
            go_wp2_with fail
            go_roundw
            case rel => exact ⟨k + 1, (T), by go_num, by omega, HPn, HBn⟩
            case measure => simp [intOf]; omega
        · have hj1 : ¬ (j : Int) < (n : Int) := by omega
          have HGV := Lib.hid (give11_no (j : Int) wr (has11_out (j : Int) wr HP.out.sl (.inr (by omega))))
          have hna : (n : Int) ≤ (j : Int) := by omega
          clear hTr
          go_wp2_with fail
          refine HGV.out.mono ?_
          rintro e w4 ⟨rfl, rfl⟩
          have HPk := Lib.hid HP.out
          have HBk := Lib.hid HB.out
          clear HGV
          obtain ⟨Lx, hLx⟩ : ∃ Lx, all11 (T) n = Lx := ⟨_, rfl⟩
          obtain ⟨mm, hmm⟩ : ∃ mm, Lx.length = mm := ⟨_, rfl⟩
          have HALL := Lib.hid (ask11_all (cb := n) HPk.out hLx hmm)
          have HLX := Lib.hid hLx
          have HMM := Lib.hid hmm
          clear hLx hmm
          go_wp2_with fail
          refine HALL.out.mono ?_
          rintro e wa ⟨Aa, ca, rfl, hca, hra0, hba0⟩
          have HRA0 := Lib.hid hra0
          have HBA0 := Lib.hid hba0
          clear hra0 hba0 HALL
          go_wp2_with fail
          have hra := HRA0.out
          have hba := HBA0.out
          have hPa := HPk.out.below hba
          have hBa := HBk.out.trans (hba.mono HBk.out.size)
          have hTa := HT.out.below hBa hT0
          have hTa0 := Nat.lt_of_lt_of_le hT0 hBa.size
          have hm4 : mm ≤ 4096 := by
            have h1 := all11_len (T) n
            rw [HLX.out, HMM.out] at h1
            omega
          obtain ⟨fv, hfr, hrf⟩ := ask11_free (cb := n) hPa hTa hTa0
          have hln := ask11_len hPa hTa hTa0 HLX.out HMM.out
          obtain ⟨m1, hm1⟩ : ∃ m1, mm + 1 = m1 := ⟨_, rfl⟩
          obtain ⟨h, hh⟩ : ∃ h, h = mm / 2 := ⟨_, rfl⟩
          have hl1 := ask11_list (p := m1) hPa hTa hTa0 HLX.out (by omega) (List.take_of_length_le (by rw [HMM.out]; omega)) HMM.out
          have hl2 := ask11_list (p := h) (q := h) hPa hTa hTa0 HLX.out (by omega) rfl (by rw [List.length_take, HMM.out]; omega)
          have hw1 : IntKind.i64.wrap ((mm : Int) + 1) = (m1 : Int) := by rw [IntKind.wrap_i64]; omega
          have y0 := (hBa.cell (p := ⟨ba, oa + k, none⟩) hbz).trans HZ0.out
          have HPa := Lib.hid hPa
          have HBa := Lib.hid hBa
          have has := ask11_out hPa (a := (j : Int)) (.inr hna)
          refine reg24o_r (Lib.hid hfr) (Lib.hid hrf) (Lib.hid hln) (Lib.hid hl1) (Lib.hid hl2) (Lib.hid has) HMM (Lib.hid hh) hm4 hca (Lib.hid hra) hw1 hkm y0 hna rfl (by intro _ _ _ _ _ h; exact h) (fun _ _ _ _ _ _ _ _ _ _ _ _ _ _ _ _ _ _ _ _ _ _ _ _ _ _ _ _ _ _ _ _ _ _ _ _ _ _ _ _ _ _ _ _ _ _ _ _ _ _ _ _ _ _ _ _ _ _ _ _ _ _ _ _ _ _ wn hbn => ?_)
          have HPn := Lib.hid (HPa.out.below hbn)
          have HBn := Lib.hid (HBa.out.trans (hbn.mono HBa.out.size))
          clear hfr hrf hln hl1 hl2 has hw1 y0 hba hPa hBa hTa hra hm1 hh hbn 
          go_wp2_with fail
          go_roundw
          case rel => exact ⟨k + 1, (T), by go_num, by omega, HPn, HBn⟩
          case measure => simp [intOf]; omega
    · have hi1 : ¬ (k : Int) < (m : Int) := by omega
      obtain ⟨Lx, hLx⟩ : ∃ Lx, all11 T n = Lx := ⟨_, rfl⟩
      obtain ⟨mm, hmm⟩ : ∃ mm, Lx.length = mm := ⟨_, rfl⟩
      obtain ⟨q, hq⟩ : ∃ q, (Lx.drop 1).length = q := ⟨_, rfl⟩
      have HLX := Lib.hid hLx
      have HMM := Lib.hid hmm
      have HQ := Lib.hid hq
      have hm4 : mm ≤ 4096 := by
        have h1 := all11_len T n
        rw [hLx, hmm] at h1
        omega
      have HAL := Lib.hid (ask11_own (cb := n) HP.out hLx hmm)
      clear hLx hmm hq
      go_wp2_with fail
      refine HAL.out.mono ?_
      rintro e wa ⟨Aa, ca, rfl, hca, hown, hba⟩
      have HOA := Lib.hid hown
      have HPa := Lib.hid (HP.out.below hba)
      have HBa := Lib.hid (HB.out.trans (hba.mono HB.out.size))
      have hgs := HP.out.sl.lt
      have HTW := Lib.hid (ask11_twice (q := q) HPa.out (HT.out.below HBa.out hT0) (Nat.lt_of_lt_of_le hT0 HBa.out.size) (by omega) HLX.out HMM.out HQ.out)
      clear hown hba HAL
      go_wp2_with fail
      refine HTW.out.mono ?_
      rintro e wb ⟨A1, c1, A2, c2, rfl, hr1, hr2, hgb⟩
      have HR2 := Lib.hid hr2
      have HBb := Lib.hid (below11_row HBa.out hgb (Nat.le_refl _) hgL)
      have HOB := Lib.hid (own7_far HOA.out hgb (own11_base HOA.out hgs))
      have HI1 := Lib.hid (rints11_yes A1 Aa Lx mm c1 ca wb HMM.out hr1 (Rd.of_own HOB.out) (by omega))
      clear hr1 hr2 hgb HTW
      have hqm : q = mm - 1 := by
        have := HQ.out
        rw [List.length_drop, HMM.out] at this
        omega
      have hq4 : q ≤ 4096 := by omega
      by_cases h1m : (1 : Int) < (mm : Int)
      · obtain ⟨A3, d3, hsl, hrs⟩ := slice11 Aa Lx mm ca 1 HMM.out hca (by omega)
        rw [← hqm] at hsl
        have hsl1 : ∀ W, (Instr.slice 22 (.slice Aa mm ca) (some (.int .i64 1)) none none).run Tryd.prog W = .ok (.slice A3 q d3) W := hsl
        have HRS := Lib.hid hrs
        clear hsl hrs hqm
        go_wp2_with fail
        refine HI1.out.mono ?_
        rintro e wc ⟨rfl, hgc⟩
        have hbc := grown7_below hgc
        have HBc := Lib.hid (HBb.out.trans (hbc.mono HBb.out.size))
        have HI2 := Lib.hid (rints11_yes A2 A3 (Lx.drop 1) q c2 d3 wc HQ.out ((HR2.out.below hbc (Nat.le_refl _)).more hbc.size) (HRS.out _ _ (((Rd.of_own HOB.out).below hbc (Nat.le_refl _)).more hbc.size)) (by omega))
        clear hgc hbc HI1
        go_wp2_with fail
        refine HI2.out.mono ?_
        rintro e wd ⟨rfl, hgd⟩
        have hbd := grown7_below hgd
        have HBd := Lib.hid (HBc.out.trans (hbd.mono HBc.out.size))
        have HAV := Lib.hid (alive11 wd (HT.out.below HBd.out hT0) (Nat.lt_of_lt_of_le hT0 HBd.out.size))
        clear hgd hbd HI2
        go_wp2_with fail
        refine HAV.out.mono ?_
        rintro e we ⟨rfl, hbe⟩
        have HBe := Lib.hid (HBd.out.trans (hbe.mono HBd.out.size))
        clear hbe HAV
        go_wp2_with fail
        go_ret
        exact ⟨rfl, HBe.out⟩
      · obtain ⟨A3, d3, hsl, hrs⟩ := slice11 Aa Lx mm ca mm HMM.out hca (by omega)
        rw [Nat.sub_self] at hsl
        have hq0 : q = 0 := by omega
        have HNIL : Hid (Lx.drop 1 = []) := Lib.hid (List.drop_eq_nil_of_le (by rw [HMM.out]; omega))
        subst hq0
        clear hrs hqm
        go_wp2_with fail
        refine HI1.out.mono ?_
        rintro e wc ⟨rfl, hgc⟩
        have hbc := grown7_below hgc
        have HBc := Lib.hid (HBb.out.trans (hbc.mono HBb.out.size))
        have HI2 := Lib.hid (rints11_yes A2 A3 [] 0 c2 d3 wc rfl (Rd.nil _ _ _) (Rd.nil _ _ _) (by omega))
        clear hgc hbc HI1
        go_wp2_with fail
        refine HI2.out.mono ?_
        rintro e wd ⟨rfl, hgd⟩
        have hbd := grown7_below hgd
        have HBd := Lib.hid (HBc.out.trans (hbd.mono HBc.out.size))
        have HAV := Lib.hid (alive11 wd (HT.out.below HBd.out hT0) (Nat.lt_of_lt_of_le hT0 HBd.out.size))
        clear hgd hbd HI2
        go_wp2_with fail
        refine HAV.out.mono ?_
        rintro e we ⟨rfl, hbe⟩
        have HBe := Lib.hid (HBd.out.trans (hbe.mono HBd.out.size))
        clear hbe HAV
        go_wp2_with fail
        go_ret
        exact ⟨rfl, HBe.out⟩
end Go.Proofs.YthgenoepgjkfoaaDoor
