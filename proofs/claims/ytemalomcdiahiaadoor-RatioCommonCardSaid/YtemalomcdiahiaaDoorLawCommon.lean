/-
  The least common number of any right fractions, and what they are times it, are the document's: the walk.
-/
import Derived.Test.YtemalomcdiahiaaDoorMH
import Derived.Deep.DeepCutAuto
namespace Go.Proofs.YtemalomcdiahiaaDoor
open Go.RowKit
set_option maxRecDepth 100000

theorem common_long (A : Option Addr) (n c : Nat) (w : World) (hlong : 12 < n) (htab : Tab w) :
    Calls Tryd.prog 5 #[.slice A n c] w fun e w' => e = .returned (.bool true) ∧ Below w.heap.size w w' := by
  go_enter Tryd.func5, Tryd.ntmps5
  go_wp2_with fail
  refine (alive4_any w htab).mono ?_
  rintro e w1 ⟨rfl, hb⟩
  go_wp2_with fail
  go_ret
  exact ⟨rfl, hb⟩

theorem two_cells {W : World} {g : Nat} {u v : Value} (h0 : W.cell? ⟨g, 0, none⟩ = some u) (h1 : W.cell? ⟨g, 1, none⟩ = some v) : ∀ j x, [u, v][j]? = some x → W.cell? ((⟨g, 0, none⟩ : Addr).add j) = some x := by
  intro j x hj
  match j, hj with
  | 0, hj => simp at hj; subst hj; rw [Go.WideShapes.add_plain]; exact h0
  | 1, hj => simp at hj; subst hj; rw [Go.WideShapes.add_plain]; exact h1
/-- What is right of a fraction. -/
def Good (xs ys : List Nat) : Prop := xs.length ≤ 6 ∧ ys.length ≤ 6 ∧ rightB xs ys = true
theorem Good.pos {xs ys : List Nat} (h : Good xs ys) : 0 < U ys := by
  have := h.2.2
  simp only [rightB, Bool.and_eq_true, Bool.not_eq_true', decide_eq_false_iff_not] at this
  omega

set_option maxHeartbeats 16000000 in
theorem common_walk (A : Option Addr) (n c : Nat) (X Y : Nat → List Nat) (w : World) (hf : Fracs w A n X Y) (hn : n ≤ 12) (htab : Tab w) :
    Calls Tryd.prog 5 #[.slice A n c] w fun e w' => e = .returned (.bool true) ∧ Below w.heap.size w w' := by
  have HF := Lib.hid hf
  have HTAB := Lib.hid htab
  clear hf htab
  go_enter Tryd.func5, Tryd.ntmps5
  go_wp2_with fail
  go_loopw [3, 4] (fun v i wr => ∃ k : Nat, i = .int .i64 (k : Int) ∧ k ≤ n ∧ (∃ A2 c2, v = .slice A2 k c2 ∧ k ≤ c2 ∧ Hid (QRow wr w.heap.size (.slice A2 k c2) k (fun j => U (X j)) (fun j => U (Y j)))) ∧ Hid (∀ j, j < k → Good (X j) (Y j)) ∧ Hid (Below w.heap.size w wr)) (fun _ i _ => n - (intOf i).toNat)
  case atStart => exact ⟨0, rfl, by omega, ⟨none, 0, rfl, by omega, Lib.hid (QRow.nil _ _ _ _)⟩, Lib.hid (fun j hj => absurd hj (by omega)), Lib.hid (Below.refl _ _)⟩
  case round =>
    obtain ⟨k, rfl, hk, ⟨A2, c2, rfl, hkc, HQ⟩, HG, HBL⟩ := hrel
    by_cases ht : k < n
    · obtain ⟨b, o, A3, n3, c3, A4, n4, c4, rfl, hbb, z0, z1, ⟨h5, h6, h7, h8⟩, h9, h10, h11, h12⟩ := (HF.out.below HBL.out) k ht
      have hi0 : (0 : Int) ≤ (k : Int) := by omega
      have hi1 : (k : Int) < (n : Int) := by omega
      have HR3 := Lib.hid h7
      have HR4 := Lib.hid h11
      have HL3 := Lib.hid h5
      have HL4 := Lib.hid h9
      have HD3 := Lib.hid h8
      have HD4 := Lib.hid h12
      clear h5 h7 h8 h9 h11 h12
      by_cases hs : n3 ≤ 6 ∧ n4 ≤ 6
      · obtain ⟨hs3, hs4⟩ := hs
        go_wp2_with fail
        refine (short_yes A3 A4 n3 c3 n4 c4 true wr (by simp [hs3, hs4])).mono ?_
        rintro en w1 ⟨rfl, hb1⟩
        have z0' := (hb1.cell (p := ⟨b, o + k * 2, none⟩) hbb).trans z0
        have z1' := (hb1.cell (p := ⟨b, o + k * 2 + 1, none⟩) hbb).trans z1
        have HB1 := Lib.hid hb1
        have HRT := Lib.hid (right4_r A3 A4 (X k) (Y k) n3 c3 n4 c4 w1 HL3.out HL4.out ((HR3.out.below hb1 (Nat.le_refl _)).more hb1.size) ((HR4.out.below hb1 (Nat.le_refl _)).more hb1.size) HD3.out HD4.out (by omega) (by omega))
        clear hb1
        go_wp2_with fail
        refine HRT.out.mono ?_
        rintro en w2 ⟨rfl, hb2⟩
        have HB2 := Lib.hid (HB1.out.trans (hb2.mono HB1.out.size))
        have hbb1 : b < w1.heap.size := Nat.lt_of_lt_of_le hbb HB1.out.size
        have z0 := (hb2.cell (p := ⟨b, o + k * 2, none⟩) hbb1).trans z0'
        have z1 := (hb2.cell (p := ⟨b, o + k * 2 + 1, none⟩) hbb1).trans z1'
        clear hb2 HRT z0' z1'
        by_cases hr : rightB (X k) (Y k) = true
        · have HGK : Hid (Good (X k) (Y k)) := Lib.hid ⟨by rw [HL3.out]; exact hs3, by rw [HL4.out]; exact hs4, hr⟩
          have HIN := Lib.hid (in4_b A3 A4 (X k) (Y k) n3 c3 n4 c4 w2 HL3.out HL4.out ((HR3.out.below HB2.out (Nat.le_refl _)).more HB2.out.size) ((HR4.out.below HB2.out (Nat.le_refl _)).more HB2.out.size) HD3.out HD4.out (by omega) (by omega))
          have HQ2 := Lib.hid (HQ.out.below HB2.out)
          rw [hr]
          go_wp2_with fail
          refine HIN.out.mono ?_
          rintro en w3 ⟨A5, n5, c5, A6, n6, c6, rfl, ⟨L5, hl5, hx5⟩, ⟨L6, hl6, hx6⟩, hb3⟩
          obtain ⟨cs, hown, hel⟩ := HQ2.out
          have hown3 := own_keep2 hown hb3
          obtain ⟨iq, hiq, hzq, hsq, hbq⟩ := info_parts info_Q
          have HOW3 := Lib.hid hown3
          have HX5 := Lib.hid hx5
          have HX6 := Lib.hid hx6
          have HB3 := Lib.hid hb3
          have HOWN := Lib.hid hown
          have HEL := Lib.hid hel
          have hbw : w.heap.size ≤ w3.heap.size := by have := HBL.out.size; have := HB2.out.size; have := hb3.size; omega
          have c50 := cn0 w3 38 (.slice A5 n5 c5) (.slice A6 n6 c6)
          have c51 := cn1 w3 38 (.slice A5 n5 c5) (.slice A6 n6 c6)
          clear hown3 hx5 hx6 hb3 hown hel HIN HQ2
          go_wp2_with (at_builtin; go_loud (refine wpList_append_own_at _ rfl (.tmp 34) (.tmp 40) 59 rfl w.heap.size 38 iq (.agg #[.slice none 0 0, .slice none 0 0]) 2 48 Tryd.underlying59 hiq hzq hsq hbq rfl (by decide) (.slice A2 k c2) k cs rfl (HOW3.out.alloc _) ⟨w3.heap.size, 0, none⟩ 1 1 [.slice A5 n5 c5, .slice A6 n6 c6] rfl rfl (two_cells c50 c51) (by intro u hu; simp at hu; rcases hu with rfl | rfl <;> rfl) (by unfold maxLen; omega) (by omega) (by simp; omega) ?_); intro v4 w4 hown4 hg4 _ hat4)
          obtain ⟨A7, c7, rfl, hc7⟩ : ∃ A7 c7, v4 = .slice A7 (k + 1) c7 ∧ k + 1 ≤ c7 := by
            rcases hown4.2 with ⟨_, h0⟩ | ⟨g, cap, cur, hv, _, _, hnc, _⟩
            · omega
            · exact ⟨_, cap, hv, hnc⟩
          have hbw3 := (HBL.out.trans (HB2.out.mono HBL.out.size)).trans (HB3.out.mono (HBL.out.trans (HB2.out.mono HBL.out.size)).size)
          have hbw4 := (hbw3.alloc hbw3.size _).grown hg4 (by have := hbw3.size; simp; omega) (fun r hr => (HOW3.out.lt r hr).1)
          exact ⟨⟨k + 1, by go_num, by omega, ⟨A7, c7, rfl, hc7, Lib.hid (QRow.push HOWN.out HEL.out HB3.out HX5.out hl5 HX6.out hl6 rfl hg4 hown4 hat4)⟩, Lib.hid (fun j hj => by
            rcases Nat.lt_or_ge j k with h | h
            · exact HG.out j h
            · rw [show j = k by omega]; exact HGK.out), Lib.hid hbw4⟩, by simp [intOf]; omega⟩
        · have hrf : rightB (X k) (Y k) = false := by simpa using hr
          rw [hrf]
          go_wp2_with fail
          refine (alive4_any _ (HTAB.out.below (HBL.out.trans (HB2.out.mono HBL.out.size)))).mono ?_
          rintro en w3 ⟨rfl, hb3⟩
          go_wp2_with fail
          go_ret
          exact ⟨rfl, (HBL.out.trans (HB2.out.mono HBL.out.size)).trans (hb3.mono (HBL.out.trans (HB2.out.mono HBL.out.size)).size)⟩
      · go_wp2_with fail
        refine (short_yes A3 A4 n3 c3 n4 c4 false wr (by rw [Bool.and_eq_false_iff]; simp; omega)).mono ?_
        rintro en w1 ⟨rfl, hb1⟩
        have HB1 := Lib.hid (HBL.out.trans (hb1.mono HBL.out.size))
        go_wp2_with fail
        refine (alive4_any _ (HTAB.out.below HB1.out)).mono ?_
        rintro en w3 ⟨rfl, hb3⟩
        go_wp2_with fail
        go_ret
        exact ⟨rfl, HB1.out.trans (hb3.mono HB1.out.size)⟩
    · have hkn : k = n := by omega
      subst hkn
      have hfr := HF.out.below HBL.out
      have hsm : ∀ j, j < k → (X j).length ≤ 6 ∧ (Y j).length ≤ 6 := fun j hj => ⟨(HG.out j hj).1, (HG.out j hj).2.1⟩
      have hdg : ∀ j, j < k → Dg (X j) ∧ Dg (Y j) := fun j hj => by
        obtain ⟨_, _, _, _, _, _, _, _, _, _, _, _, ⟨_, _, _, h1⟩, _, _, _, h2⟩ := hfr j hj
        exact ⟨h1, h2⟩
      obtain ⟨xs, hxs⟩ : ∃ f : Nat → Nat, (fun j => U (X j)) = f := ⟨_, rfl⟩
      obtain ⟨ys, hys⟩ : ∃ f : Nat → Nat, (fun j => U (Y j)) = f := ⟨_, rfl⟩
      have hxb : ∀ j, j < k → xs j < 65536 ^ 20 := fun j hj => by rw [← hxs]; exact Nat.lt_of_lt_of_le (U_small_k 12 (hdg j hj).1 (hsm j hj).1 rfl) (Nat.pow_le_pow_right (by omega) (by omega))
      have hyb : ∀ j, j < k → ys j < 65536 ^ 20 := fun j hj => by rw [← hys]; exact Nat.lt_of_lt_of_le (U_small_k 12 (hdg j hj).2 (hsm j hj).2 rfl) (Nat.pow_le_pow_right (by omega) (by omega))
      have hyp : ∀ j, j < k → 0 < ys j := fun j hj => by rw [← hys]; exact (HG.out j hj).pos
      have hrt := fracs_rats hfr hsm
      rw [hxs, hys] at hrt HQ
      have HC := Lib.hid (common_r A (qs k xs ys) k c 6 wr (qs_len _ _ _) hrt (by omega) (by omega))
      obtain ⟨J, hJ⟩ : ∃ J : Nat, J = 300 := ⟨_, rfl⟩
      have hlt : lcmTo ys k < 65536 ^ J := Nat.lt_of_lt_of_le (lcmTo_lt hyb k (Nat.le_refl _)) (Nat.pow_le_pow_right (by omega) (by omega))
      have HXB := Lib.hid hxb
      have HYB := Lib.hid hyb
      have HYP := Lib.hid hyp
      have HLT := Lib.hid hlt
      clear hfr hsm hdg hxs hys hxb hyb hyp hrt hlt HG HF
      go_wp2_with fail
      refine HC.out.mono ?_
      rintro en w1 ⟨A1, n1, c1, g, ps, rfl, hm1, hps, hg, hb1⟩
      rw [lcmAll_qs] at hm1
      have HM1 := Lib.hid hm1
      have HPS := Lib.hid hps
      have HB1 := Lib.hid (HBL.out.trans (hb1.mono HBL.out.size))
      have HQ1 := Lib.hid (HQ.out.below hb1)
      have HL := Lib.hid (lcm4_r (j := 421) A2 xs ys k c2 w1 HQ1.out.qin HYB.out (by omega) rfl)
      have hself : ((k : Int) != (k : Int)) = false := by simp
      clear hm1 hps hb1 HQ HC HBL hg
      go_wp2_with fail
      refine HL.out.mono ?_
      rintro en w2 ⟨Aw, nw, cw, rfl, ⟨Lw, hw⟩, hb2⟩
      have hba := b1 w2 (.cells #[.slice Aw nw cw] 33)
      have hb3 := hb2.trans (hba.mono hb2.size)
      have hw0 := (Blk.new w2 33 #[.slice Aw nw cw]).cell 0
      have HNW := Lib.hid (hw.below hba)
      have HM2 := Lib.hid (HM1.out.below hb3)
      have HPS2 := Lib.hid (HPS.out.below hb3)
      have HQ2 := Lib.hid (HQ1.out.below hb3)
      have HB2 := Lib.hid (HB1.out.trans (hb3.mono HB1.out.size))
      obtain ⟨g7, hg7⟩ : ∃ x, w2.heap.size = x := ⟨_, rfl⟩
      obtain ⟨W3, hW3⟩ : ∃ W, w2.alloc (.cells #[.slice Aw nw cw] 33) = W := ⟨_, rfl⟩
      clear hw hb2 hba hb3 HM1 HPS HQ1 HB1 HL
      go_upto_region 12 with (fail)
      rw [hg7, hW3] at hw0
      rw [hW3] at HNW HM2 HPS2 HQ2 HB2
      try rw [hg7]
      try rw [hW3]
      clear hg7 hW3
      have HO := Lib.hid (out_num (j := J) W3 HNW.out HLT.out (by omega))
      go_wp2_with fail
      refine HO.out.mono ?_
      rintro en w4 ⟨v4, rfl, hv4, hb4⟩
      have HS := Lib.hid (same_nv (j := J) w4 (HM2.out.below hb4) hv4 (Nat.lt_of_lt_of_le HLT.out (Nat.pow_le_pow_left (by omega) _)) (by omega))
      have HB4 := Lib.hid hb4
      clear hv4 hb4 HO
      go_wp2_with fail
      refine HS.out.mono ?_
      rintro en w5 ⟨rfl, hb5⟩
      have HB5 := Lib.hid (HB4.out.trans (hb5.mono HB4.out.size))
      clear hb5 HS HB4 HM2
      go_wp2_with fail
      go_loopw [8] (fun i wr => ∃ j : Nat, i = .int .i64 (j : Int) ∧ j ≤ k ∧ Hid (Below W3.heap.size W3 wr)) (fun i _ => k - (intOf i).toNat)
      case atStart => exact ⟨0, rfl, by omega, HB5⟩
      case round =>
        obtain ⟨j, rfl, hj, HBJ⟩ := hrel
        by_cases htj : j < k
        · obtain ⟨_, hpj, _, hpb⟩ := HPS2.out.below HBJ.out
          obtain ⟨Ak, nk, ck, hpk, hnv⟩ := hpj j htj
          have u0 : wr.cell? ⟨g, j, none⟩ = some (.slice Ak nk ck) := by rw [hpb.cell j]; simpa using hpk
          obtain ⟨bq, oq, A3, n3, c3, A4, n4, c4, rfl, q0, q1, ⟨L3, hn3⟩, ⟨L4, hn4⟩⟩ := (HQ2.out.qin.below HBJ.out) j htj
          have w0 := (HBJ.out.cell (World.block_lt_of_cell? _ _ hw0)).trans hw0
          rw [part_up htj] at hnv
          have HPK := Lib.hid hnv
          have HN3 := Lib.hid hn3
          have HN4 := Lib.hid hn4
          have HNwr := Lib.hid (HNW.out.below HBJ.out)
          have HX3 : Hid (xs j < 65536 ^ J) := Lib.hid (Nat.lt_of_lt_of_le (HXB.out j htj) (Nat.pow_le_pow_right (by omega) (by omega)))
          have HX4 : Hid (ys j < 65536 ^ J) := Lib.hid (Nat.lt_of_lt_of_le (HYB.out j htj) (Nat.pow_le_pow_right (by omega) (by omega)))
          have HP4 := Lib.hid (HYP.out j htj)
          have HXU : Hid (xs j * lcmTo ys k / ys j < 65536 ^ (J + J)) := Lib.hid (Nat.lt_of_le_of_lt (Nat.div_le_self _ _) (by rw [Nat.pow_add]; exact Nat.mul_lt_mul'' HX3.out HLT.out))
          have HXU2 : Hid (xs j * lcmTo ys k / ys j < 4294967296 ^ J) := Lib.hid (by
            have h1 := HXU.out
            rw [show J + J = 2 * J by omega, Nat.pow_mul, show (65536 : Nat) ^ 2 = 4294967296 by decide] at h1
            exact h1)
          have HBS : Hid (Below wr.heap.size wr wr.drew) := Lib.hid (Below.refl _ _).drew
          have hi0 : (0 : Int) ≤ (j : Int) := by omega
          have hi1 : (j : Int) < (k : Int) := by omega
          clear hpj hpb hpk hnv hn3 hn4
          go_wp2_with fail
          refine wp_region_held_drew (S := fun W => Below wr.heap.size wr W) (by kernel_rfl) (Below.refl _ _).drew (fun hHeld => ?_)
          refine wpAnyH_take (i := 0) (v := ?_) (op_of rfl) (by kernel_rfl) (by kernel_rfl) (by kernel_rfl) (fun _ _ _ h => h) (Or.inl ⟨by rfl, fun W hS => ?_⟩) (by assumption) ?_
          rotate_left
          · dsimp only at hS
            go_simp
            try with_reducible rfl
          try dsimp only [Act.put]
          try simp only [List.setIfInBounds_toArray, List.set_cons_zero, List.set_cons_succ]
          refine wpAnyH_take (i := 1) (v := ?_) (op_of rfl) (by kernel_rfl) (by kernel_rfl) (by kernel_rfl) (fun _ _ _ h => h) (Or.inl ⟨by rfl, fun W hS => ?_⟩) (by assumption) ?_
          rotate_left
          · dsimp only at hS
            go_simp
            try with_reducible rfl
          try dsimp only [Act.put]
          try simp only [List.setIfInBounds_toArray, List.set_cons_zero, List.set_cons_succ]
          refine wpAnyH_take (i := 2) (v := ?_) (op_of rfl) (by kernel_rfl) (by kernel_rfl) (by kernel_rfl) (fun _ _ _ h => h) (Or.inl ⟨by rfl, fun W hS => ?_⟩) (by assumption) ?_
          rotate_left
          · dsimp only at hS
            go_simp
            try with_reducible rfl
          try dsimp only [Act.put]
          try simp only [List.setIfInBounds_toArray, List.set_cons_zero, List.set_cons_succ]
          refine wpAnyH_take (i := 3) (v := ?_) (op_of rfl) (by kernel_rfl) (by kernel_rfl) (by kernel_rfl) (fun _ _ _ h => h) (Or.inl ⟨by rfl, fun W hS => ?_⟩) (by assumption) ?_
          rotate_left
          · dsimp only at hS
            have z := (hS.cell (World.block_lt_of_cell? _ _ u0)).trans u0
            go_simp
            try with_reducible rfl
          try dsimp only [Act.put]
          try simp only [List.setIfInBounds_toArray, List.set_cons_zero, List.set_cons_succ]
          refine wpAnyH_take (i := 4) (v := ?_) (op_of rfl) (by kernel_rfl) (by kernel_rfl) (by kernel_rfl) (fun _ _ _ h => h) (Or.inl ⟨by rfl, fun W hS => ?_⟩) (by assumption) ?_
          rotate_left
          · dsimp only at hS
            go_simp
            try with_reducible rfl
          try dsimp only [Act.put]
          try simp only [List.setIfInBounds_toArray, List.set_cons_zero, List.set_cons_succ]
          refine wpAnyH_take (i := 5) (v := ?_) (op_of rfl) (by kernel_rfl) (by kernel_rfl) (by kernel_rfl) (fun _ _ _ h => h) (Or.inl ⟨by rfl, fun W hS => ?_⟩) (by assumption) ?_
          rotate_left
          · dsimp only at hS
            go_simp
            try with_reducible rfl
          try dsimp only [Act.put]
          try simp only [List.setIfInBounds_toArray, List.set_cons_zero, List.set_cons_succ]
          refine wpAnyH_take (i := 6) (v := ?_) (op_of rfl) (by kernel_rfl) (by kernel_rfl) (by kernel_rfl) (fun _ _ _ h => h) (Or.inl ⟨by rfl, fun W hS => ?_⟩) (by assumption) ?_
          rotate_left
          · dsimp only at hS
            go_simp
            try with_reducible rfl
          try dsimp only [Act.put]
          try simp only [List.setIfInBounds_toArray, List.set_cons_zero, List.set_cons_succ]
          refine wpAnyH_take (i := 7) (v := ?_) (op_of rfl) (by kernel_rfl) (by kernel_rfl) (by kernel_rfl) (fun _ _ _ h => h) (Or.inl ⟨by rfl, fun W hS => ?_⟩) (by assumption) ?_
          rotate_left
          · dsimp only at hS
            have z := (hS.cell (World.block_lt_of_cell? _ _ q0)).trans q0
            have z2 := (hS.cell (World.block_lt_of_cell? _ _ q1)).trans q1
            go_simp
            try with_reducible rfl
          try dsimp only [Act.put]
          try simp only [List.setIfInBounds_toArray, List.set_cons_zero, List.set_cons_succ]
          refine wpAnyH_take (i := 8) (v := ?_) (op_of rfl) (by kernel_rfl) (by kernel_rfl) (by kernel_rfl) (fun _ _ _ h => h) (Or.inl ⟨by rfl, fun W hS => ?_⟩) (by assumption) ?_
          rotate_left
          · dsimp only at hS
            have z := (hS.cell (World.block_lt_of_cell? _ _ w0)).trans w0
            go_simp
            try with_reducible rfl
          try dsimp only [Act.put]
          try simp only [List.setIfInBounds_toArray, List.set_cons_zero, List.set_cons_succ]
          refine wpAnyH_ready (rs := [9]) (by kernel_rfl) (by simp) (AllReadyH.cons (op_of rfl) (fun K hK => ?_) AllReadyH.nil)
          go_simp
          refine (up_r (j := J) A3 A4 Aw n3 c3 n4 c4 nw cw _ _ _ _ _ _ _ (HN3.out.below HBS.out) (HN4.out.below HBS.out) (HNwr.out.below HBS.out) HX3.out HX4.out HLT.out HP4.out (by omega)).mono ?_
          rintro en wn ⟨A6, n6, c6, rfl, ⟨L6, hu⟩, hb⟩
          have HBS := Lib.hid (HBS.out.trans (hb.mono HBS.out.size))
          have HU := Lib.hid hu
          clear hu hb
          refine hK.out _ _ HBS.out (fun hHeld => ?_)
          clear hK K
          try dsimp only [Act.put]
          try simp only [List.setIfInBounds_toArray, List.set_cons_zero, List.set_cons_succ]
          refine wpAnyH_ready (rs := [10]) (by kernel_rfl) (by simp) (AllReadyH.cons (op_of rfl) (fun K hK => ?_) AllReadyH.nil)
          go_simp
          refine (out_num (j := J + J) _ HU.out HXU.out (by omega)).mono ?_
          rintro en wn ⟨v7, rfl, hv7, hb⟩
          have HBS := Lib.hid (HBS.out.trans (hb.mono HBS.out.size))
          have HV7 := Lib.hid hv7
          clear hv7 hb
          refine hK.out _ _ HBS.out (fun hHeld => ?_)
          clear hK K
          try dsimp only [Act.put]
          try simp only [List.setIfInBounds_toArray, List.set_cons_zero, List.set_cons_succ]
          refine wpAnyH_ready (rs := [11]) (by kernel_rfl) (by simp) (AllReadyH.cons (op_of rfl) (fun K hK => ?_) AllReadyH.nil)
          go_simp
          refine (same_nv (j := J) _ (HPK.out.below HBS.out) HV7.out HXU2.out (by omega)).mono ?_
          rintro en wn ⟨rfl, hb⟩
          have HBS := Lib.hid (HBS.out.trans (hb.mono HBS.out.size))
          clear hb
          refine hK.out _ _ HBS.out (fun hHeld => ?_)
          clear hK K
          try dsimp only [Act.put]
          try simp only [List.setIfInBounds_toArray, List.set_cons_zero, List.set_cons_succ]
          refine wpAnyH_take (i := 12) (v := ?_) (op_of rfl) (by kernel_rfl) (by kernel_rfl) (by kernel_rfl) (fun _ _ _ h => h) (Or.inl ⟨by rfl, fun W hS => ?_⟩) (by assumption) ?_
          rotate_left
          · dsimp only at hS
            go_simp
            try with_reducible rfl
          try dsimp only [Act.put]
          try simp only [List.setIfInBounds_toArray, List.set_cons_zero, List.set_cons_succ]
          refine wpAnyH_done (by kernel_rfl) ?_ _
          have hbj := HBJ.out.trans (HBS.out.mono HBJ.out.size)
          go_wp2_with fail
          go_roundw
          case rel => exact ⟨j + 1, by go_num, by omega, Lib.hid hbj⟩
          case measure => simp [intOf]; omega
        · have hb6 := HB2.out.trans (HBJ.out.mono HB2.out.size)
          go_wp2_with fail
          refine (alive4_any _ (HTAB.out.below hb6)).mono ?_
          rintro en w9 ⟨rfl, hb9⟩
          go_wp2_with fail
          go_ret
          exact ⟨rfl, hb6.trans (hb9.mono hb6.size)⟩
end Go.Proofs.YtemalomcdiahiaaDoor
