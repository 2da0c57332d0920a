/-
  Whatever is set, grown, filled and found: all weights, sums, and what is found, are the document's; no more sums are touched than the height says: the walk.
-/
import Derived.Test.YtodbmpbhjbknlaaLawTreeB
import Derived.Test.YtodbmpbhjbknlaaRowU
namespace Go.Proofs.Ytodbmpbhjbknlaa
open Go.RowKit
set_option maxRecDepth 100000

theorem plays10_long (n : Int) (B : Option Addr) (m d : Nat) (w : World) (hm : 60 < m) :
    Calls Try.prog 3 #[.int .i64 n, .slice B m d] w fun e w' => e = .returned (.bool true) ∧ Below w.heap.size w w' := by
  have h1 : (60 : Int) < (m : Int) := by omega
  go_enter Try.func3, Try.ntmps3
  go_wp2_with fail
  refine (alive10_any w).mono ?_
  rintro en w1 ⟨rfl, hb⟩
  go_wp2_with fail
  go_ret
  exact ⟨rfl, hb⟩

theorem plays10_bad (n : Int) (B : Option Addr) (m d : Nat) (w : World) (hm : m ≤ 60) (hn : n < 1 ∨ 4096 < n) :
    Calls Try.prog 3 #[.int .i64 n, .slice B m d] w fun e w' => e = .returned (.bool true) ∧ Below w.heap.size w w' := by
  have h1 : ¬ (60 : Int) < (m : Int) := by omega
  have HN := Lib.hid (new_no n w hn)
  by_cases h2 : n < 1
  · clear hn
    go_enter Try.func3, Try.ntmps3
    go_wp2_with fail
    refine HN.out.mono ?_
    rintro en w1 ⟨rfl, rfl⟩
    go_wp2_with fail
    refine (alive10_any w1).mono ?_
    rintro en w2 ⟨rfl, hb⟩
    go_wp2_with fail
    go_ret
    exact ⟨rfl, hb⟩
  · have h3 : 4096 < n := by omega
    clear hn
    go_enter Try.func3, Try.ntmps3
    go_wp2_with fail
    refine HN.out.mono ?_
    rintro en w1 ⟨rfl, rfl⟩
    go_wp2_with fail
    refine (alive10_any w1).mono ?_
    rintro en w2 ⟨rfl, hb⟩
    go_wp2_with fail
    go_ret
    exact ⟨rfl, hb⟩

theorem plays10_great (n : Nat) (B : Option Addr) (m d : Nat) (w : World) (hm : m ≤ 60) (hn : 300 < n) (hn2 : n ≤ 4096) :
    Calls Try.prog 3 #[.int .i64 (n : Int), .slice B m d] w fun e w' => e = .returned (.bool true) ∧ Below w.heap.size w w' := by
  have h1 : ¬ (60 : Int) < (m : Int) := by omega
  have h2 : ¬ (n : Int) < 1 := by omega
  have h3 : ¬ 4096 < (n : Int) := by omega
  have h4 : 300 < (n : Int) := by omega
  have hself : ∀ i : Int, (i == i) = true := fun i => by simp
  have HN := Lib.hid (new_yes n w (by omega) hn2)
  clear hm hn hn2
  go_enter Try.func3, Try.ntmps3
  go_wp2_with fail
  refine HN.out.mono ?_
  rintro en w1 ⟨g, rfl, hg, ht1, hb1⟩
  have HL := Lib.hid (len10_any w1 ht1)
  have HB1 := Lib.hid hb1
  clear HN ht1 hb1
  go_wp2_with fail
  refine HL.out.mono ?_
  rintro en w2 ⟨rfl, rfl⟩
  go_wp2_with fail
  refine (alive10_any w2).mono ?_
  rintro en w3 ⟨rfl, hb⟩
  have HB3 := Lib.hid (HB1.out.trans (hb.mono HB1.out.size))
  clear hb
  go_wp2_with fail
  go_ret
  exact ⟨rfl, HB3.out⟩
/-- What make lays. -/
theorem made10 (n : Nat) : (madeCells (Value.int .u64 0).cells (n * 1)).toList = wds (List.replicate n 0) := by
  apply List.ext_getElem?
  intro k
  rw [Nat.mul_one]
  by_cases h : k < n
  · simp [madeCells, wds, Value.cells, h, Nat.mod_one]
  · rw [List.getElem?_eq_none (by simp [madeCells]; omega), List.getElem?_eq_none (by simp [wds]; omega)]

set_option maxHeartbeats 8000000 in
theorem plays10_walk (n : Nat) (B : Option Addr) (m d : Nat) (q : Nat → Act10) (w : World) (hac : Acts10 w B m q) (hm : m ≤ 60) (hn1 : 1 ≤ n) (hn : n ≤ 300) :
    Calls Try.prog 3 #[.int .i64 (n : Int), .slice B m d] w fun e w' => e = .returned (.bool true) ∧ Below w.heap.size w w' := by
  have HAC := Lib.hid hac
  have h1 : ¬ (60 : Int) < (m : Int) := by omega
  have h2 : ¬ (n : Int) < 1 := by omega
  have h3 : ¬ 4096 < (n : Int) := by omega
  have h4 : ¬ 300 < (n : Int) := by omega
  have h5 : decide ((n : Int) < 1) = false := decide_eq_false h2
  have h6 : decide (4096 < (n : Int)) = false := decide_eq_false h3
  have h7 : decide (300 < (n : Int)) = false := decide_eq_false h4
  have HN := Lib.hid (new_yes n w hn1 (by omega))
  have HG0 := Lib.hid (good10_new hn1 (show n ≤ 4096 by omega))
  obtain ⟨i0, hi0, hz0, hz1, hz2⟩ := info_parts info_w8
  clear hac
  go_enter Try.func3, Try.ntmps3
  go_wp2_with fail
  refine HN.out.mono ?_
  rintro en w1 ⟨g, rfl, hg, ht1, hb1⟩
  have HT1 := Lib.hid ht1
  have HB1 := Lib.hid hb1
  have hs1 := hb1.size
  clear HN ht1 hb1
  go_wp2_with ((with_reducible refine wpList_make_full _ rfl (.tmp 48) (.tmp 48) 29 rfl w.heap.size 30 i0 (.int .u64 0) 1 Try.underlying29 hi0 hz0 hz1 .i64 .i64 _ _ n rfl rfl rfl rfl (by rw [hz2]; omega) (by unfold maxLen; omega) (by omega) ?_); intro w2 hown2 hg2)
  rw [made10] at hown2
  have HP2 : Hid (Pl10 w.heap.size w2 g n 0 (List.replicate n 0) (some ⟨w1.heap.size, 0, none⟩) n) := Lib.hid ⟨⟨_, HT1.out.quiet hg2, HG0.out⟩, hown2, Nat.le_refl _, hg⟩
  have HB2 := Lib.hid (quiet10_b HB1.out hg2)
  clear hown2 hg2 HT1 HG0 HB1 hi0 hz0 hz1 hz2
  go_loopw [7, 8] (fun lv iv wr => ∃ (k n2 s2 : Nat) (xs : List Nat) (A2 : Option Addr) (c2 : Nat), lv = .slice A2 n2 c2 ∧ iv = .int .i64 (k : Int) ∧ k ≤ m ∧ n2 ≤ 400 ∧ Hid (Pl10 w.heap.size wr g n2 s2 xs A2 c2) ∧ Hid (Below w.heap.size w wr)) (fun _ iv _ => m - (intOf iv).toNat)
  case atStart => exact ⟨0, n, 0, _, _, n, rfl, rfl, by omega, by omega, HP2, HB2⟩
  case round =>
    clear HP2 HB2
    obtain ⟨k, n2, s2, xs, A2, c2, rfl, rfl, hk, hn4, HP, HBL⟩ := hrel
    by_cases ht : k < m
    · obtain ⟨bb, o, hB, hbb, hcs⟩ := (HAC.out.below HBL.out) (by omega)
      subst hB
      obtain ⟨z0, z1, z2, z3, hW, hkl, _, hkx⟩ := hcs k ht
      have hkr : Rq w w.heap.size (q k).addr (q k).list := by
        obtain ⟨_, _, _, _, h⟩ := HAC.out (by omega)
        exact (h k ht).2.2.2.2.2.2.1
      obtain ⟨⟨kd, tp, W, Ak, nk, ck, zs⟩, hq⟩ : ∃ x, q k = x := ⟨_, rfl⟩
      rw [hq] at z0 z1 z2 z3 hW hkl hkr hkx
      simp only at z0 z1 z2 z3 hW hkl hkr hkx
      have hi0 : (0 : Int) ≤ (k : Int) := by omega
      have hi1 : (k : Int) < (m : Int) := by omega
      have HKL := Lib.hid hkl
      have HKR := Lib.hid hkr
      have HKX := Lib.hid hkx
      have hgl : g < wr.heap.size := HP.out.lt
      have hsw := HBL.out.size
      clear hcs hq hkl hkr hkx
      by_cases hbail : 400 < nk ∨ (nk ≤ 400 ∧ kd = 2 ∧ 400 < tp ∧ tp ≤ 4096)
      · have HBA := Lib.hid (HBL.out.alloc HBL.out.size (.cells #[.int .i64 kd, .int .i64 tp, .int .u64 (W : Int), .slice Ak nk ck] 32))
        clear HP HAC HKL HKR HKX
        rcases hbail with h9 | ⟨h9, rfl, h10, h11⟩
        all_goals
          go_wp2_with fail
          refine (alive10_any _).mono ?_
          rintro en w9 ⟨rfl, hb9⟩
          go_wp2_with fail
          go_ret
          exact ⟨rfl, HBA.out.trans (hb9.mono HBA.out.size)⟩
      · have hba := b1' wr (.cells #[.int .i64 kd, .int .i64 tp, .int .u64 (W : Int), .slice Ak nk ck] 32)
        have HPa := Lib.hid (HP.out.below hba)
        have HBa := Lib.hid (HBL.out.trans (hba.mono HBL.out.size))
        have HAa := Lib.hid (Blk.new wr 32 #[.int .i64 kd, .int .i64 tp, .int .u64 (W : Int), .slice Ak nk ck])
        have HNE : Hid (some wr.heap.size ≠ (Value.slice A2 n2 c2).ownBlock) := Lib.hid (fun e => by
          have := (HP.out.own.lt _ e.symm).2
          omega)
        have hsa := hba.size
        have hnk : ¬ 400 < nk := by omega
        have hnk2 : nk ≤ 400 := by omega
        have htp : kd = 2 → tp ≤ 400 ∨ 4096 < tp := fun h => by
          subst h
          have h5 : ¬ (400 < tp ∧ tp ≤ 4096) := fun h6 => hbail (.inr ⟨hnk2, rfl, h6.1, h6.2⟩)
          omega
        clear hba HP HBL HAC hbail
        have hk5 : (kd = 0 ∨ kd = 1) ∨ kd = 2 ∨ kd = 3 ∨ (¬ kd = 0 ∧ ¬ kd = 1 ∧ ¬ kd = 2 ∧ ¬ kd = 3) := by omega
        rcases hk5 with k01 | k0 | k0 | ⟨k0, k1, k2, k3⟩
        · clear htp
          rcases k01 with k0 | k0
          · subst k0
            have HC := Lib.hid (lset10_any (nk := nk) (ck := ck) (Ak := Ak) 0 tp _ HPa.out (show w.heap.size ≤ _ from HBa.out.size) hn4 hW)
            go_wp2_with fail
            refine HC.out.mono ?_
            rintro en w5 ⟨n5, s5, xs5, A5, c5, rfl, hn5, hp5, hk5⟩
            have HP5 := Lib.hid hp5
            have HA5 := hk5.blk HAa.out (show wr.heap.size ≠ g by omega) HNE.out
            have HB5 := Lib.hid (HBa.out.trans hk5.below)
            have ca0 := HA5.cell 0
            have ca1 := HA5.cell 1
            have ca2 := HA5.cell 2
            have ca3 := HA5.cell 3
            clear hp5 hk5 HA5 HC HPa HAa HBa HNE hn4
            have hn4 := hn5
            clear hn5
            have HFI := Lib.hid (finds10_any (nk := nk) (ck := ck) (Ak := Ak) 0 tp _ HP5.out (show w.heap.size ≤ _ from HB5.out.size) hn4 hW)
            clear HP5
            go_wp2_with fail
            refine HFI.out.mono ?_
            rintro en w8 ⟨rfl, ⟨s8, hp8⟩, hb8⟩
            have HP8 := Lib.hid hp8
            have HB8 := Lib.hid (HB5.out.trans hb8)
            clear hp8 hb8 HFI
            go_wp2_with fail
            go_roundw
            case rel => exact ⟨k + 1, _, _, _, _, _, rfl, by go_num, by omega, hn4, HP8, HB8⟩
            case measure => simp [intOf]; omega
          · subst k0
            have HC := Lib.hid (lset10_any (nk := nk) (ck := ck) (Ak := Ak) 1 tp _ HPa.out (show w.heap.size ≤ _ from HBa.out.size) hn4 hW)
            go_wp2_with fail
            refine HC.out.mono ?_
            rintro en w5 ⟨n5, s5, xs5, A5, c5, rfl, hn5, hp5, hk5⟩
            have HP5 := Lib.hid hp5
            have HA5 := hk5.blk HAa.out (show wr.heap.size ≠ g by omega) HNE.out
            have HB5 := Lib.hid (HBa.out.trans hk5.below)
            have ca0 := HA5.cell 0
            have ca1 := HA5.cell 1
            have ca2 := HA5.cell 2
            have ca3 := HA5.cell 3
            clear hp5 hk5 HA5 HC HPa HAa HBa HNE hn4
            have hn4 := hn5
            clear hn5
            have HFI := Lib.hid (finds10_any (nk := nk) (ck := ck) (Ak := Ak) 1 tp _ HP5.out (show w.heap.size ≤ _ from HB5.out.size) hn4 hW)
            clear HP5
            go_wp2_with fail
            refine HFI.out.mono ?_
            rintro en w8 ⟨rfl, ⟨s8, hp8⟩, hb8⟩
            have HP8 := Lib.hid hp8
            have HB8 := Lib.hid (HB5.out.trans hb8)
            clear hp8 hb8 HFI
            go_wp2_with fail
            go_roundw
            case rel => exact ⟨k + 1, _, _, _, _, _, rfl, by go_num, by omega, hn4, HP8, HB8⟩
            case measure => simp [intOf]; omega
        · have htp2 := htp k0
          subst k0
          clear htp
          rcases htp2 with h9 | h9
          · skip
            have h10 : ¬ 400 < tp := by omega
            have HC := Lib.hid (lgrow10_any tp _ HPa.out (show w.heap.size ≤ _ from HBa.out.size) hn4 (by omega))
            go_wp2_with fail
            refine HC.out.mono ?_
            rintro en w5 ⟨n5, s5, xs5, A5, c5, rfl, hn5, hp5, hk5⟩
            have HP5 := Lib.hid hp5
            have HA5 := hk5.blk HAa.out (show wr.heap.size ≠ g by omega) HNE.out
            have HB5 := Lib.hid (HBa.out.trans hk5.below)
            have ca0 := HA5.cell 0
            have ca1 := HA5.cell 1
            have ca2 := HA5.cell 2
            have ca3 := HA5.cell 3
            clear hp5 hk5 HA5 HC HPa HAa HBa HNE hn4
            have hn4 := hn5
            clear hn5
            have HFI := Lib.hid (finds10_any (nk := nk) (ck := ck) (Ak := Ak) 2 tp _ HP5.out (show w.heap.size ≤ _ from HB5.out.size) hn4 hW)
            clear HP5
            go_wp2_with fail
            refine HFI.out.mono ?_
            rintro en w8 ⟨rfl, ⟨s8, hp8⟩, hb8⟩
            have HP8 := Lib.hid hp8
            have HB8 := Lib.hid (HB5.out.trans hb8)
            clear hp8 hb8 HFI
            go_wp2_with fail
            go_roundw
            case rel => exact ⟨k + 1, _, _, _, _, _, rfl, by go_num, by omega, hn4, HP8, HB8⟩
            case measure => simp [intOf]; omega
          · skip
            have h10 : ¬ tp ≤ 4096 := by omega
            have h11 : 400 < tp := by omega
            have HC := Lib.hid (lgrow10_any tp _ HPa.out (show w.heap.size ≤ _ from HBa.out.size) hn4 (by omega))
            go_wp2_with fail
            refine HC.out.mono ?_
            rintro en w5 ⟨n5, s5, xs5, A5, c5, rfl, hn5, hp5, hk5⟩
            have HP5 := Lib.hid hp5
            have HA5 := hk5.blk HAa.out (show wr.heap.size ≠ g by omega) HNE.out
            have HB5 := Lib.hid (HBa.out.trans hk5.below)
            have ca0 := HA5.cell 0
            have ca1 := HA5.cell 1
            have ca2 := HA5.cell 2
            have ca3 := HA5.cell 3
            clear hp5 hk5 HA5 HC HPa HAa HBa HNE hn4
            have hn4 := hn5
            clear hn5
            have HFI := Lib.hid (finds10_any (nk := nk) (ck := ck) (Ak := Ak) 2 tp _ HP5.out (show w.heap.size ≤ _ from HB5.out.size) hn4 hW)
            clear HP5
            go_wp2_with fail
            refine HFI.out.mono ?_
            rintro en w8 ⟨rfl, ⟨s8, hp8⟩, hb8⟩
            have HP8 := Lib.hid hp8
            have HB8 := Lib.hid (HB5.out.trans hb8)
            clear hp8 hb8 HFI
            go_wp2_with fail
            go_roundw
            case rel => exact ⟨k + 1, _, _, _, _, _, rfl, by go_num, by omega, hn4, HP8, HB8⟩
            case measure => simp [intOf]; omega
        · subst k0
          clear htp
          have HC := Lib.hid (lfill10_any (d := ck) (B := Ak) _ HPa.out (show w.heap.size ≤ _ from HBa.out.size) HKL.out (Rv.below HKR.out HBa.out (Nat.le_refl _)) HKX.out hn4 hnk2)
          go_wp2_with fail
          refine HC.out.mono ?_
          rintro en w5 ⟨n5, s5, xs5, A5, c5, rfl, hn5, hp5, hk5⟩
          have HP5 := Lib.hid hp5
          have HA5 := hk5.blk HAa.out (show wr.heap.size ≠ g by omega) HNE.out
          have HB5 := Lib.hid (HBa.out.trans hk5.below)
          have ca0 := HA5.cell 0
          have ca1 := HA5.cell 1
          have ca2 := HA5.cell 2
          have ca3 := HA5.cell 3
          clear hp5 hk5 HA5 HC HPa HAa HBa HNE hn4
          have hn4 := hn5
          clear hn5
          have HFI := Lib.hid (finds10_any (nk := nk) (ck := ck) (Ak := Ak) 3 tp _ HP5.out (show w.heap.size ≤ _ from HB5.out.size) hn4 hW)
          clear HP5
          go_wp2_with fail
          refine HFI.out.mono ?_
          rintro en w8 ⟨rfl, ⟨s8, hp8⟩, hb8⟩
          have HP8 := Lib.hid hp8
          have HB8 := Lib.hid (HB5.out.trans hb8)
          clear hp8 hb8 HFI
          go_wp2_with fail
          go_roundw
          case rel => exact ⟨k + 1, _, _, _, _, _, rfl, by go_num, by omega, hn4, HP8, HB8⟩
          case measure => simp [intOf]; omega
        · clear htp
          have ca0 := HAa.out.cell 0
          have ca1 := HAa.out.cell 1
          have ca2 := HAa.out.cell 2
          have ca3 := HAa.out.cell 3
          have HFI := Lib.hid (finds10_any (nk := nk) (ck := ck) (Ak := Ak) kd tp _ HPa.out (show w.heap.size ≤ _ from HBa.out.size) hn4 hW)
          clear HPa
          go_wp2_with fail
          refine HFI.out.mono ?_
          rintro en w8 ⟨rfl, ⟨s8, hp8⟩, hb8⟩
          have HP8 := Lib.hid hp8
          have HB8 := Lib.hid (HBa.out.trans hb8)
          clear hp8 hb8 HFI
          go_wp2_with fail
          go_roundw
          case rel => exact ⟨k + 1, _, _, _, _, _, rfl, by go_num, by omega, hn4, HP8, HB8⟩
          case measure => simp [intOf]; omega
    · obtain rfl : k = m := by omega
      clear HP HAC
      go_wp2_with fail
      refine (alive10_any _).mono ?_
      rintro en w9 ⟨rfl, hb9⟩
      go_wp2_with fail
      go_ret
      exact ⟨rfl, HBL.out.trans (hb9.mono HBL.out.size)⟩
end Go.Proofs.Ytodbmpbhjbknlaa
