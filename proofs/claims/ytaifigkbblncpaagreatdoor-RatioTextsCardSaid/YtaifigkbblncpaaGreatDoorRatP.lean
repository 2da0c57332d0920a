/-
  The program's fractions: the fraction of a text.
-/
import Derived.Test.YtaifigkbblncpaaGreatDoorTextQ
import Derived.Test.YtaifigkbblncpaaGreatDoorML
namespace Go.Proofs.YtaifigkbblncpaaGreatDoor
open Go.RowKit
set_option maxRecDepth 100000

theorem lst_len (l : List UInt8) : (⟨l.toArray⟩ : ByteArray).size = l.length := by simp [ByteArray.size]
theorem natParse_no {l : List UInt8} (w : World) (hl : l.length ≤ 4096) (hd : isDecB l = false) :
    Calls Tryz.prog 20 #[.string ⟨l.toArray⟩] w fun e w' => e = .returned (.tuple #[.slice none 0 0, .int .i64 3]) ∧ Below w.heap.size w w' :=
  parse_form ⟨l.toArray⟩ (by rw [lst_len]; exact hl) (by simpa using hd) w
theorem natParse_yes {l : List UInt8} (w : World) (hl : l.length ≤ 4096) (hd : isDecB l = true) :
    Calls Tryz.prog 20 #[.string ⟨l.toArray⟩] w fun e w' => ∃ A n c, e = .returned (.tuple #[.slice A n c, .int .i64 0]) ∧ Nv w' w.heap.size (.slice A n c) (DV 0 l) ∧ n ≤ 5000 ∧ Below w.heap.size w w' :=
  (parse_ok ⟨l.toArray⟩ (by rw [lst_len]; exact hl) (by simpa using hd) w).mono fun e w' ⟨A, n, c, zs, h1, h2, h3, h4, h5, h6, h7⟩ => ⟨A, n, c, h1, by
    have h6' : U zs = DV 0 l := by simpa using h6
    rw [← h6']; exact h2.nv h3 h5, h4, h7⟩
theorem natParse_one (w : World) :
    Calls Tryz.prog 20 #[.string ⟨#[49]⟩] w fun e w' => ∃ A n c, e = .returned (.tuple #[.slice A n c, .int .i64 0]) ∧ Nv w' w.heap.size (.slice A n c) 1 ∧ n ≤ 5000 ∧ Below w.heap.size w w' :=
  natParse_yes (l := [49]) w (by simp) (by decide)
theorem right_nv {A1 A2 : Option Addr} {n1 c1 n2 c2 a b L1 L2 : Nat} (w : World) (h1 : Nv w L1 (.slice A1 n1 c1) a) (h2 : Nv w L2 (.slice A2 n2 c2) b) (hn1 : n1 ≤ 5000) (hn2 : n2 ≤ 5000) (z : Bool) (hz : (decide (0 < b) && decide (Nat.gcd a b = 1)) = z) :
    Calls Tryz.prog 22 #[.agg #[.slice A1 n1 c1, .slice A2 n2 c2]] w fun e w' => e = .returned (.bool z) ∧ Below w.heap.size w w' := by
  obtain ⟨B1, xs, m1, d1, e1, l1, hc1, hr1, _, hcn1, rfl⟩ := h1
  obtain ⟨B2, ys, m2, d2, e2, l2, hc2, hr2, _, hcn2, rfl⟩ := h2
  injection e1 with q1 q2 q3
  subst q1 q2 q3
  injection e2 with q1 q2 q3
  subst q1 q2 q3
  have := right_any A1 A2 xs ys n1 c1 n2 c2 w l1 l2 hr1 hr2 hcn1.1 hcn2.1 (by omega) (by omega) hc1 hc2
  have hrb : rightB xs ys = z := by
    rw [← hz]
    unfold rightB
    rw [can_cut hcn1, can_cut hcn2, Bool.true_and, Bool.true_and]
    congr 1
    rcases Nat.eq_zero_or_pos (U ys) with h0 | h0
    · rw [h0]; rfl
    · rw [decide_eq_false (by omega), decide_eq_true h0]; rfl
  rw [hrb] at this
  exact this
theorem nr_of {A : Option Addr} {n c a L : Nat} {w : World} (h : Nv w L (.slice A n c) a) (hn : n ≤ 5000) : Nr w (.slice A n c) a 5000 := by
  obtain ⟨B1, xs, m1, d1, e1, l1, hc1, hr1, _, hcn1, h6⟩ := h
  injection e1 with q1 q2 q3
  subst q1 q2 q3
  exact ⟨A, xs, n, c, rfl, l1, hc1, hr1, hcn1.1, h6, hn⟩

/-- What Parse answers: the fraction of the text, or that there is none. -/
def RatParsed (w : World) (l : List UInt8) (e : Ending) (w' : World) : Prop :=
  (∃ q A1 n1 c1 A2 n2 c2, fp l = some q ∧ e = .returned (.tuple #[.agg #[.slice A1 n1 c1, .slice A2 n2 c2], .int .i64 0]) ∧ Nv w' w.heap.size (.slice A1 n1 c1) q.1 ∧ Nv w' w.heap.size (.slice A2 n2 c2) q.2 ∧ Below w.heap.size w w') ∨
  (fp l = none ∧ e = .returned (.tuple #[.agg #[.slice none 0 0, .slice none 0 0], .int .i64 3]) ∧ Below w.heap.size w w')

set_option maxHeartbeats 2000000 in
theorem ratioParse_many (s : ByteArray) (h : 4096 < s.size) (w : World) :
    Calls Tryz.prog 6 #[.string s] w fun e w' => e = .returned (.tuple #[.agg #[.slice none 0 0, .slice none 0 0], .int .i64 5]) ∧ Below w.heap.size w w' := by
  have hb := b1 w (.cells #[.slice none 0 0, .slice none 0 0] 25)
  obtain ⟨W0, hW0⟩ : ∃ W0, w.alloc (.cells #[.slice none 0 0, .slice none 0 0] 25) = W0 := ⟨_, rfl⟩
  have hbk := nilbox w
  rw [hW0] at hb hbk
  have k0 := hbk.cell 0
  have k1 := hbk.cell 1
  have f0 := hbk.frozen 0
  have f1 := hbk.frozen 1
  have hp := put_q hbk (.slice none 0 0) (.slice none 0 0)
  go_enter Tryz.func6, Tryz.ntmps6
  go_wp2_with fail
  first
    | exact bodyPost_ret (v := .tuple #[.agg #[.slice none 0 0, .slice none 0 0], .int .i64 5]) (by simp [results, Tryz.results6, go_sem, hp.cell 0, hp.cell 1]) rfl ⟨rfl, (hb.setCell (Nat.le_refl _) _).setCell (Nat.le_refl _) _⟩
    | exact bodyPost_ret (v := .tuple #[.agg #[.slice none 0 0, .slice none 0 0], .int .i64 5]) (by simp [results, Tryz.results6, go_sem, k0, k1]) rfl ⟨rfl, hb⟩

set_option maxHeartbeats 8000000 in
theorem ratioParse_r (s : ByteArray) (m : Int) (w : World) (hm : w.cell? ⟨0, 0, none⟩ = some (.int .i64 m)) (hs : s.size ≤ 4096) :
    Calls Tryz.prog 6 #[.string s] w (RatParsed w s.data.toList) := by
  have hb := b1 w (.cells #[.slice none 0 0, .slice none 0 0] 25)
  obtain ⟨W0, hW0⟩ : ∃ W0, w.alloc (.cells #[.slice none 0 0, .slice none 0 0] 25) = W0 := ⟨_, rfl⟩
  have hbk := nilbox w
  rw [hW0] at hb hbk
  have hm0 := (hb.cell (World.block_lt_of_cell? _ _ hm)).trans hm
  have hcut := Tryz.strings_Cut s ⟨#[47]⟩ m W0 (by omega) hm0
  have hlen := ba_len s
  obtain ⟨l, hl⟩ : ∃ l, s.data.toList = l := ⟨_, rfl⟩
  rw [show (⟨#[47]⟩ : ByteArray).data.toList = [47] from rfl, hl, cut_slash] at hcut
  rw [hl] at hlen
  rw [hl]
  have hla : (l.take (slashAt l)).length ≤ 4096 := by rw [List.length_take]; omega
  have hlb : (l.drop (slashAt l + 1)).length ≤ 4096 := by rw [List.length_drop]; omega
  have hfp : fp l = fp l := rfl
  conv at hfp => rhs; unfold fp
  obtain ⟨a, ha⟩ : ∃ a, l.take (slashAt l) = a := ⟨_, rfl⟩
  obtain ⟨b, hbq⟩ : ∃ b, l.drop (slashAt l + 1) = b := ⟨_, rfl⟩
  rw [ha] at hla
  rw [hbq] at hlb
  simp only [ha, hbq] at hcut hfp
  have HLA := Lib.hid hla
  have HLB := Lib.hid hlb
  have HQ := Lib.hid hbk
  have hl0 := hbk.lt
  clear hm hm0 hl hlen hla hlb ha hbq hbk
  by_cases hf : slashAt l < l.length
  · rw [if_pos hf] at hfp
    rw [decide_eq_true hf] at hcut
    have HCUT := Lib.hid hcut
    clear hf hcut
    cases hda : isDecB a with
    | false =>
      rw [hda] at hfp
      simp only [Bool.false_and, if_false, Bool.false_eq_true] at hfp
      have HFP := Lib.hid hfp
      have HD := Lib.hid hda
      clear hfp hda
      have HB := Lib.hid hb
      clear hb
      go_enter Tryz.func6, Tryz.ntmps6
      go_wp2_with fail
      clear hW0
      refine HCUT.out.mono ?_
      rintro e w1 ⟨rfl, nd, hnd⟩
      have hb : Below W0.heap.size W0 w1 := by rw [hnd]; exact below_drewN nd
      have HB := Lib.hid (HB.out.trans (hb.mono HB.out.size))
      have hlq := HQ.out.lt
      have HQ := Lib.hid (HQ.out.below hb hlq)
      clear hb hnd hlq HCUT
      go_wp2_with fail
      refine (natParse_no w1 HLA.out HD.out).mono ?_
      rintro e w2 ⟨rfl, hb⟩
      have HB := Lib.hid (HB.out.trans (hb.mono HB.out.size))
      have hlq := HQ.out.lt
      have HQ := Lib.hid (HQ.out.below hb hlq)
      have c0 := HQ.out.cell 0
      have c1 := HQ.out.cell 1
      have f0 := HQ.out.frozen 0
      have f1 := HQ.out.frozen 1
      simp only [List.getElem?_toArray, List.getElem?_cons_zero, List.getElem?_cons_succ] at c0 c1
      clear hb hlq
      go_wp2_with fail
      have hp := put_q HQ.out (.slice none 0 0) (.slice none 0 0)
      have k0 := HQ.out.cell 0
      have k1 := HQ.out.cell 1
      first
        | exact bodyPost_ret (v := .tuple #[.agg #[.slice none 0 0, .slice none 0 0], .int .i64 3]) (by simp [results, Tryz.results6, go_sem, hp.cell 0, hp.cell 1]) rfl (Or.inr ⟨HFP.out, rfl, (HB.out.setCell (Nat.le_refl _) _).setCell (Nat.le_refl _) _⟩)
        | exact bodyPost_ret (v := .tuple #[.agg #[.slice none 0 0, .slice none 0 0], .int .i64 3]) (by simp [results, Tryz.results6, go_sem, k0, k1]) rfl (Or.inr ⟨HFP.out, rfl, HB.out⟩)
    | true =>
      cases hdb : isDecB b with
      | false =>
        rw [hda, hdb] at hfp
        simp only [Bool.false_and, Bool.and_false, if_false, Bool.false_eq_true] at hfp
        have HFP := Lib.hid hfp
        have HD := Lib.hid hda
        have HE := Lib.hid hdb
        clear hfp hda hdb
        have HB := Lib.hid hb
        clear hb
        go_enter Tryz.func6, Tryz.ntmps6
        go_wp2_with fail
        clear hW0
        refine HCUT.out.mono ?_
        rintro e w1 ⟨rfl, nd, hnd⟩
        have hb : Below W0.heap.size W0 w1 := by rw [hnd]; exact below_drewN nd
        have HB := Lib.hid (HB.out.trans (hb.mono HB.out.size))
        have hlq := HQ.out.lt
        have HQ := Lib.hid (HQ.out.below hb hlq)
        clear hb hnd hlq HCUT
        go_wp2_with fail
        refine (natParse_yes w1 HLA.out HD.out).mono ?_
        rintro e w2 ⟨D1, m1, d1, rfl, hv, hn, hb⟩
        have HL1 := Lib.hid HQ.out.lt
        have HB := Lib.hid (HB.out.trans (hb.mono HB.out.size))
        have hlq := HQ.out.lt
        have HQ := Lib.hid (HQ.out.below hb hlq)
        have HB1 := Lib.hid hv
        have HN1 := Lib.hid hn
        clear hb hlq hv hn
        go_wp2_with fail
        refine (natParse_no w2 HLB.out HE.out).mono ?_
        rintro e w3 ⟨rfl, hb⟩
        have HB := Lib.hid (HB.out.trans (hb.mono HB.out.size))
        have hlq := HQ.out.lt
        have HQ := Lib.hid (HQ.out.below hb hlq)
        have c0 := HQ.out.cell 0
        have c1 := HQ.out.cell 1
        have f0 := HQ.out.frozen 0
        have f1 := HQ.out.frozen 1
        simp only [List.getElem?_toArray, List.getElem?_cons_zero, List.getElem?_cons_succ] at c0 c1
        clear hb hlq
        go_wp2_with fail
        have hp := put_q HQ.out (.slice none 0 0) (.slice none 0 0)
        have k0 := HQ.out.cell 0
        have k1 := HQ.out.cell 1
        first
          | exact bodyPost_ret (v := .tuple #[.agg #[.slice none 0 0, .slice none 0 0], .int .i64 3]) (by simp [results, Tryz.results6, go_sem, hp.cell 0, hp.cell 1]) rfl (Or.inr ⟨HFP.out, rfl, (HB.out.setCell (Nat.le_refl _) _).setCell (Nat.le_refl _) _⟩)
          | exact bodyPost_ret (v := .tuple #[.agg #[.slice none 0 0, .slice none 0 0], .int .i64 3]) (by simp [results, Tryz.results6, go_sem, k0, k1]) rfl (Or.inr ⟨HFP.out, rfl, HB.out⟩)
      | true =>
        obtain ⟨z, hz⟩ : ∃ z, (decide (0 < DV 0 b) && decide (Nat.gcd (DV 0 a) (DV 0 b) = 1)) = z := ⟨_, rfl⟩
        have HZ := Lib.hid hz
        have HD := Lib.hid hda
        have HE := Lib.hid hdb
        rw [hda, hdb] at hfp
        by_cases h1 : DV 0 b = 1
        · rw [decide_eq_false (show ¬ DV 0 b ≠ 1 by omega)] at hfp
          simp only [Bool.false_and, Bool.and_false, if_false, Bool.false_eq_true] at hfp
          have HFP := Lib.hid hfp
          have HO : Hid (decide (DV 0 b = 1) = true) := Lib.hid (decide_eq_true h1)
          clear hfp hda hdb hz h1
          have HB := Lib.hid hb
          clear hb
          go_enter Tryz.func6, Tryz.ntmps6
          go_wp2_with fail
          clear hW0
          refine HCUT.out.mono ?_
          rintro e w1 ⟨rfl, nd, hnd⟩
          have hb : Below W0.heap.size W0 w1 := by rw [hnd]; exact below_drewN nd
          have HB := Lib.hid (HB.out.trans (hb.mono HB.out.size))
          have hlq := HQ.out.lt
          have HQ := Lib.hid (HQ.out.below hb hlq)
          clear hb hnd hlq HCUT
          go_wp2_with fail
          refine (natParse_yes w1 HLA.out HD.out).mono ?_
          rintro e w2 ⟨D1, m1, d1, rfl, hv, hn, hb⟩
          have HL1 := Lib.hid HQ.out.lt
          have HB := Lib.hid (HB.out.trans (hb.mono HB.out.size))
          have hlq := HQ.out.lt
          have HQ := Lib.hid (HQ.out.below hb hlq)
          have HB1 := Lib.hid hv
          have HN1 := Lib.hid hn
          clear hb hlq hv hn
          go_wp2_with fail
          refine (natParse_yes w2 HLB.out HE.out).mono ?_
          rintro e w3 ⟨D2, m2, d2, rfl, hv, hn, hb⟩
          have HL2 := Lib.hid HQ.out.lt
          have HB := Lib.hid (HB.out.trans (hb.mono HB.out.size))
          have hlq := HQ.out.lt
          have HQ := Lib.hid (HQ.out.below hb hlq)
          have HB1 := Lib.hid (HB1.out.below hb)
          have HN2 := Lib.hid hn
          have HB2 := Lib.hid hv
          clear hb hlq hv hn
          go_upto_region 13 with (fail)
          have hb := b1 w3 (.cells #[.slice D1 m1 d1, .slice D2 m2 d2] 25)
          have hk := Blk.new w3 25 #[.slice D1 m1 d1, .slice D2 m2 d2]
          have HB := Lib.hid (HB.out.trans (hb.mono HB.out.size))
          have hlq := HQ.out.lt
          have HQ := Lib.hid (HQ.out.below hb hlq)
          have HB1 := Lib.hid (HB1.out.below hb)
          have HB2 := Lib.hid (HB2.out.below hb)
          obtain ⟨g4, hg4⟩ : ∃ g, w3.heap.size = g := ⟨_, rfl⟩
          obtain ⟨w4, hw4⟩ : ∃ W, w3.alloc (.cells #[.slice D1 m1 d1, .slice D2 m2 d2] 25) = W := ⟨_, rfl⟩
          rw [hw4] at HB HQ HB1 HB2
          rw [hw4, hg4] at hk
          rw [hw4, hg4]
          have HK := Lib.hid hk
          clear hb hk hlq hw4 hg4
          have c0 := HQ.out.cell 0
          have c1 := HQ.out.cell 1
          have f0 := HQ.out.frozen 0
          have f1 := HQ.out.frozen 1
          simp only [List.getElem?_toArray, List.getElem?_cons_zero, List.getElem?_cons_succ] at c0 c1
          have e0 := HK.out.cell 0
          have e1 := HK.out.cell 1
          simp only [List.getElem?_toArray, List.getElem?_cons_zero, List.getElem?_cons_succ] at e0 e1
          go_wp2_with fail
          refine (isOne_r true w4 (nr_of HB2.out HN2.out) (by omega) HO.out).mono ?_
          rintro e w4' ⟨rfl, hq⟩
          subst hq
          go_wp2_with fail
          have hp := put_q HQ.out (.slice none 0 0) (.slice none 0 0)
          have k0 := HQ.out.cell 0
          have k1 := HQ.out.cell 1
          first
            | exact bodyPost_ret (v := .tuple #[.agg #[.slice none 0 0, .slice none 0 0], .int .i64 3]) (by simp [results, Tryz.results6, go_sem, hp.cell 0, hp.cell 1]) rfl (Or.inr ⟨HFP.out, rfl, (HB.out.setCell (Nat.le_refl _) _).setCell (Nat.le_refl _) _⟩)
            | exact bodyPost_ret (v := .tuple #[.agg #[.slice none 0 0, .slice none 0 0], .int .i64 3]) (by simp [results, Tryz.results6, go_sem, k0, k1]) rfl (Or.inr ⟨HFP.out, rfl, HB.out⟩)
        · have h1f : decide (DV 0 b = 1) = false := decide_eq_false h1
          have HO := Lib.hid h1f
          rw [decide_eq_true (show DV 0 b ≠ 1 from h1), Bool.and_true, Bool.and_true, Bool.true_and, hz] at hfp
          clear h1 h1f hda hdb hz
          cases z with
          | false =>
            have HFP := Lib.hid (show fp l = none from hfp)
            clear hfp
            have HB := Lib.hid hb
            clear hb
            go_enter Tryz.func6, Tryz.ntmps6
            go_wp2_with fail
            clear hW0
            refine HCUT.out.mono ?_
            rintro e w1 ⟨rfl, nd, hnd⟩
            have hb : Below W0.heap.size W0 w1 := by rw [hnd]; exact below_drewN nd
            have HB := Lib.hid (HB.out.trans (hb.mono HB.out.size))
            have hlq := HQ.out.lt
            have HQ := Lib.hid (HQ.out.below hb hlq)
            clear hb hnd hlq HCUT
            go_wp2_with fail
            refine (natParse_yes w1 HLA.out HD.out).mono ?_
            rintro e w2 ⟨D1, m1, d1, rfl, hv, hn, hb⟩
            have HL1 := Lib.hid HQ.out.lt
            have HB := Lib.hid (HB.out.trans (hb.mono HB.out.size))
            have hlq := HQ.out.lt
            have HQ := Lib.hid (HQ.out.below hb hlq)
            have HB1 := Lib.hid hv
            have HN1 := Lib.hid hn
            clear hb hlq hv hn
            go_wp2_with fail
            refine (natParse_yes w2 HLB.out HE.out).mono ?_
            rintro e w3 ⟨D2, m2, d2, rfl, hv, hn, hb⟩
            have HL2 := Lib.hid HQ.out.lt
            have HB := Lib.hid (HB.out.trans (hb.mono HB.out.size))
            have hlq := HQ.out.lt
            have HQ := Lib.hid (HQ.out.below hb hlq)
            have HB1 := Lib.hid (HB1.out.below hb)
            have HN2 := Lib.hid hn
            have HB2 := Lib.hid hv
            clear hb hlq hv hn
            go_upto_region 13 with (fail)
            have hb := b1 w3 (.cells #[.slice D1 m1 d1, .slice D2 m2 d2] 25)
            have hk := Blk.new w3 25 #[.slice D1 m1 d1, .slice D2 m2 d2]
            have HB := Lib.hid (HB.out.trans (hb.mono HB.out.size))
            have hlq := HQ.out.lt
            have HQ := Lib.hid (HQ.out.below hb hlq)
            have HB1 := Lib.hid (HB1.out.below hb)
            have HB2 := Lib.hid (HB2.out.below hb)
            obtain ⟨g4, hg4⟩ : ∃ g, w3.heap.size = g := ⟨_, rfl⟩
            obtain ⟨w4, hw4⟩ : ∃ W, w3.alloc (.cells #[.slice D1 m1 d1, .slice D2 m2 d2] 25) = W := ⟨_, rfl⟩
            rw [hw4] at HB HQ HB1 HB2
            rw [hw4, hg4] at hk
            rw [hw4, hg4]
            have HK := Lib.hid hk
            clear hb hk hlq hw4 hg4
            have c0 := HQ.out.cell 0
            have c1 := HQ.out.cell 1
            have f0 := HQ.out.frozen 0
            have f1 := HQ.out.frozen 1
            simp only [List.getElem?_toArray, List.getElem?_cons_zero, List.getElem?_cons_succ] at c0 c1
            have e0 := HK.out.cell 0
            have e1 := HK.out.cell 1
            simp only [List.getElem?_toArray, List.getElem?_cons_zero, List.getElem?_cons_succ] at e0 e1
            go_wp2_with fail
            refine (isOne_r false w4 (nr_of HB2.out HN2.out) (by omega) HO.out).mono ?_
            rintro e w4' ⟨rfl, hq⟩
            subst hq
            go_wp2_with fail
            refine (right_nv w4 HB1.out HB2.out HN1.out HN2.out _ HZ.out).mono ?_
            rintro e w5 ⟨rfl, hb⟩
            have HB := Lib.hid (HB.out.trans (hb.mono HB.out.size))
            have hlq := HQ.out.lt
            have HQ := Lib.hid (HQ.out.below hb hlq)
            have HB1 := Lib.hid (HB1.out.below hb)
            have HB2 := Lib.hid (HB2.out.below hb)
            have hlk := HK.out.lt
            have HK := Lib.hid (HK.out.below hb hlk)
            have c0 := HQ.out.cell 0
            have c1 := HQ.out.cell 1
            have f0 := HQ.out.frozen 0
            have f1 := HQ.out.frozen 1
            simp only [List.getElem?_toArray, List.getElem?_cons_zero, List.getElem?_cons_succ] at c0 c1
            have e0 := HK.out.cell 0
            have e1 := HK.out.cell 1
            simp only [List.getElem?_toArray, List.getElem?_cons_zero, List.getElem?_cons_succ] at e0 e1
            clear hb hlq hlk
            go_wp2_with fail
            have hp := put_q HQ.out (.slice none 0 0) (.slice none 0 0)
            have k0 := HQ.out.cell 0
            have k1 := HQ.out.cell 1
            first
              | exact bodyPost_ret (v := .tuple #[.agg #[.slice none 0 0, .slice none 0 0], .int .i64 3]) (by simp [results, Tryz.results6, go_sem, hp.cell 0, hp.cell 1]) rfl (Or.inr ⟨HFP.out, rfl, (HB.out.setCell (Nat.le_refl _) _).setCell (Nat.le_refl _) _⟩)
              | exact bodyPost_ret (v := .tuple #[.agg #[.slice none 0 0, .slice none 0 0], .int .i64 3]) (by simp [results, Tryz.results6, go_sem, k0, k1]) rfl (Or.inr ⟨HFP.out, rfl, HB.out⟩)
          | true =>
            have HFP := Lib.hid (show fp l = some (DV 0 a, DV 0 b) from hfp)
            clear hfp
            have HB := Lib.hid hb
            clear hb
            go_enter Tryz.func6, Tryz.ntmps6
            go_wp2_with fail
            clear hW0
            refine HCUT.out.mono ?_
            rintro e w1 ⟨rfl, nd, hnd⟩
            have hb : Below W0.heap.size W0 w1 := by rw [hnd]; exact below_drewN nd
            have HB := Lib.hid (HB.out.trans (hb.mono HB.out.size))
            have hlq := HQ.out.lt
            have HQ := Lib.hid (HQ.out.below hb hlq)
            clear hb hnd hlq HCUT
            go_wp2_with fail
            refine (natParse_yes w1 HLA.out HD.out).mono ?_
            rintro e w2 ⟨D1, m1, d1, rfl, hv, hn, hb⟩
            have HL1 := Lib.hid HQ.out.lt
            have HB := Lib.hid (HB.out.trans (hb.mono HB.out.size))
            have hlq := HQ.out.lt
            have HQ := Lib.hid (HQ.out.below hb hlq)
            have HB1 := Lib.hid hv
            have HN1 := Lib.hid hn
            clear hb hlq hv hn
            go_wp2_with fail
            refine (natParse_yes w2 HLB.out HE.out).mono ?_
            rintro e w3 ⟨D2, m2, d2, rfl, hv, hn, hb⟩
            have HL2 := Lib.hid HQ.out.lt
            have HB := Lib.hid (HB.out.trans (hb.mono HB.out.size))
            have hlq := HQ.out.lt
            have HQ := Lib.hid (HQ.out.below hb hlq)
            have HB1 := Lib.hid (HB1.out.below hb)
            have HN2 := Lib.hid hn
            have HB2 := Lib.hid hv
            clear hb hlq hv hn
            go_upto_region 13 with (fail)
            have hb := b1 w3 (.cells #[.slice D1 m1 d1, .slice D2 m2 d2] 25)
            have hk := Blk.new w3 25 #[.slice D1 m1 d1, .slice D2 m2 d2]
            have HB := Lib.hid (HB.out.trans (hb.mono HB.out.size))
            have hlq := HQ.out.lt
            have HQ := Lib.hid (HQ.out.below hb hlq)
            have HB1 := Lib.hid (HB1.out.below hb)
            have HB2 := Lib.hid (HB2.out.below hb)
            obtain ⟨g4, hg4⟩ : ∃ g, w3.heap.size = g := ⟨_, rfl⟩
            obtain ⟨w4, hw4⟩ : ∃ W, w3.alloc (.cells #[.slice D1 m1 d1, .slice D2 m2 d2] 25) = W := ⟨_, rfl⟩
            rw [hw4] at HB HQ HB1 HB2
            rw [hw4, hg4] at hk
            rw [hw4, hg4]
            have HK := Lib.hid hk
            clear hb hk hlq hw4 hg4
            have c0 := HQ.out.cell 0
            have c1 := HQ.out.cell 1
            have f0 := HQ.out.frozen 0
            have f1 := HQ.out.frozen 1
            simp only [List.getElem?_toArray, List.getElem?_cons_zero, List.getElem?_cons_succ] at c0 c1
            have e0 := HK.out.cell 0
            have e1 := HK.out.cell 1
            simp only [List.getElem?_toArray, List.getElem?_cons_zero, List.getElem?_cons_succ] at e0 e1
            go_wp2_with fail
            refine (isOne_r false w4 (nr_of HB2.out HN2.out) (by omega) HO.out).mono ?_
            rintro e w4' ⟨rfl, hq⟩
            subst hq
            go_wp2_with fail
            refine (right_nv w4 HB1.out HB2.out HN1.out HN2.out _ HZ.out).mono ?_
            rintro e w5 ⟨rfl, hb⟩
            have HB := Lib.hid (HB.out.trans (hb.mono HB.out.size))
            have hlq := HQ.out.lt
            have HQ := Lib.hid (HQ.out.below hb hlq)
            have HB1 := Lib.hid (HB1.out.below hb)
            have HB2 := Lib.hid (HB2.out.below hb)
            have hlk := HK.out.lt
            have HK := Lib.hid (HK.out.below hb hlk)
            have c0 := HQ.out.cell 0
            have c1 := HQ.out.cell 1
            have f0 := HQ.out.frozen 0
            have f1 := HQ.out.frozen 1
            simp only [List.getElem?_toArray, List.getElem?_cons_zero, List.getElem?_cons_succ] at c0 c1
            have e0 := HK.out.cell 0
            have e1 := HK.out.cell 1
            simp only [List.getElem?_toArray, List.getElem?_cons_zero, List.getElem?_cons_succ] at e0 e1
            clear hb hlq hlk
            go_wp2_with fail
            have hp := put_q HQ.out (.slice D1 m1 d1) (.slice D2 m2 d2)
            exact bodyPost_ret (v := .tuple #[.agg #[.slice D1 m1 d1, .slice D2 m2 d2], .int .i64 0]) (by simp [results, Tryz.results6, go_sem, hp.cell 0, hp.cell 1]) rfl (Or.inl ⟨_, _, _, _, _, _, _, HFP.out, rfl, (HB1.out.put_q HL1.out _ _).more (Nat.le_of_lt HL1.out), (HB2.out.put_q HL2.out _ _).more (Nat.le_of_lt HL2.out), (HB.out.setCell (Nat.le_refl _) _).setCell (Nat.le_refl _) _⟩)
  · rw [if_neg hf] at hfp
    rw [decide_eq_false hf] at hcut
    have HCUT := Lib.hid hcut
    clear hf hcut
    cases hda : isDecB a with
    | false =>
      rw [hda] at hfp
      simp only [if_false, Bool.false_eq_true] at hfp
      have HFP := Lib.hid hfp
      have HD := Lib.hid hda
      clear hfp hda
      have HB := Lib.hid hb
      clear hb
      go_enter Tryz.func6, Tryz.ntmps6
      go_wp2_with fail
      clear hW0
      refine HCUT.out.mono ?_
      rintro e w1 ⟨rfl, nd, hnd⟩
      have hb : Below W0.heap.size W0 w1 := by rw [hnd]; exact below_drewN nd
      have HB := Lib.hid (HB.out.trans (hb.mono HB.out.size))
      have hlq := HQ.out.lt
      have HQ := Lib.hid (HQ.out.below hb hlq)
      clear hb hnd hlq HCUT
      go_wp2_with fail
      refine (natParse_no w1 HLA.out HD.out).mono ?_
      rintro e w2 ⟨rfl, hb⟩
      have HB := Lib.hid (HB.out.trans (hb.mono HB.out.size))
      have hlq := HQ.out.lt
      have HQ := Lib.hid (HQ.out.below hb hlq)
      have c0 := HQ.out.cell 0
      have c1 := HQ.out.cell 1
      have f0 := HQ.out.frozen 0
      have f1 := HQ.out.frozen 1
      simp only [List.getElem?_toArray, List.getElem?_cons_zero, List.getElem?_cons_succ] at c0 c1
      clear hb hlq
      go_wp2_with fail
      have hp := put_q HQ.out (.slice none 0 0) (.slice none 0 0)
      have k0 := HQ.out.cell 0
      have k1 := HQ.out.cell 1
      first
        | exact bodyPost_ret (v := .tuple #[.agg #[.slice none 0 0, .slice none 0 0], .int .i64 3]) (by simp [results, Tryz.results6, go_sem, hp.cell 0, hp.cell 1]) rfl (Or.inr ⟨HFP.out, rfl, (HB.out.setCell (Nat.le_refl _) _).setCell (Nat.le_refl _) _⟩)
        | exact bodyPost_ret (v := .tuple #[.agg #[.slice none 0 0, .slice none 0 0], .int .i64 3]) (by simp [results, Tryz.results6, go_sem, k0, k1]) rfl (Or.inr ⟨HFP.out, rfl, HB.out⟩)
    | true =>
      rw [hda] at hfp
      simp only [if_true] at hfp
      have HFP := Lib.hid hfp
      have HD := Lib.hid hda
      have HZ : Hid ((decide (0 < 1) && decide (Nat.gcd (DV 0 a) 1 = 1)) = true) := Lib.hid (by simp)
      clear hfp hda
      have HB := Lib.hid hb
      clear hb
      go_enter Tryz.func6, Tryz.ntmps6
      go_wp2_with fail
      clear hW0
      refine HCUT.out.mono ?_
      rintro e w1 ⟨rfl, nd, hnd⟩
      have hb : Below W0.heap.size W0 w1 := by rw [hnd]; exact below_drewN nd
      have HB := Lib.hid (HB.out.trans (hb.mono HB.out.size))
      have hlq := HQ.out.lt
      have HQ := Lib.hid (HQ.out.below hb hlq)
      clear hb hnd hlq HCUT
      go_wp2_with fail
      refine (natParse_yes w1 HLA.out HD.out).mono ?_
      rintro e w2 ⟨D1, m1, d1, rfl, hv, hn, hb⟩
      have HL1 := Lib.hid HQ.out.lt
      have HB := Lib.hid (HB.out.trans (hb.mono HB.out.size))
      have hlq := HQ.out.lt
      have HQ := Lib.hid (HQ.out.below hb hlq)
      have HB1 := Lib.hid hv
      have HN1 := Lib.hid hn
      clear hb hlq hv hn
      go_wp2_with fail
      refine (natParse_one w2).mono ?_
      rintro e w3 ⟨D2, m2, d2, rfl, hv, hn, hb⟩
      have HL2 := Lib.hid HQ.out.lt
      have HB := Lib.hid (HB.out.trans (hb.mono HB.out.size))
      have hlq := HQ.out.lt
      have HQ := Lib.hid (HQ.out.below hb hlq)
      have HB1 := Lib.hid (HB1.out.below hb)
      have HN2 := Lib.hid hn
      have HB2 := Lib.hid hv
      clear hb hlq hv hn
      go_upto_region 13 with (fail)
      have hb := b1 w3 (.cells #[.slice D1 m1 d1, .slice D2 m2 d2] 25)
      have hk := Blk.new w3 25 #[.slice D1 m1 d1, .slice D2 m2 d2]
      have HB := Lib.hid (HB.out.trans (hb.mono HB.out.size))
      have hlq := HQ.out.lt
      have HQ := Lib.hid (HQ.out.below hb hlq)
      have HB1 := Lib.hid (HB1.out.below hb)
      have HB2 := Lib.hid (HB2.out.below hb)
      obtain ⟨g4, hg4⟩ : ∃ g, w3.heap.size = g := ⟨_, rfl⟩
      obtain ⟨w4, hw4⟩ : ∃ W, w3.alloc (.cells #[.slice D1 m1 d1, .slice D2 m2 d2] 25) = W := ⟨_, rfl⟩
      rw [hw4] at HB HQ HB1 HB2
      rw [hw4, hg4] at hk
      rw [hw4, hg4]
      have HK := Lib.hid hk
      clear hb hk hlq hw4 hg4
      have c0 := HQ.out.cell 0
      have c1 := HQ.out.cell 1
      have f0 := HQ.out.frozen 0
      have f1 := HQ.out.frozen 1
      simp only [List.getElem?_toArray, List.getElem?_cons_zero, List.getElem?_cons_succ] at c0 c1
      have e0 := HK.out.cell 0
      have e1 := HK.out.cell 1
      simp only [List.getElem?_toArray, List.getElem?_cons_zero, List.getElem?_cons_succ] at e0 e1
      go_wp2_with fail
      refine (right_nv w4 HB1.out HB2.out HN1.out HN2.out _ HZ.out).mono ?_
      rintro e w5 ⟨rfl, hb⟩
      have HB := Lib.hid (HB.out.trans (hb.mono HB.out.size))
      have hlq := HQ.out.lt
      have HQ := Lib.hid (HQ.out.below hb hlq)
      have HB1 := Lib.hid (HB1.out.below hb)
      have HB2 := Lib.hid (HB2.out.below hb)
      have hlk := HK.out.lt
      have HK := Lib.hid (HK.out.below hb hlk)
      have c0 := HQ.out.cell 0
      have c1 := HQ.out.cell 1
      have f0 := HQ.out.frozen 0
      have f1 := HQ.out.frozen 1
      simp only [List.getElem?_toArray, List.getElem?_cons_zero, List.getElem?_cons_succ] at c0 c1
      have e0 := HK.out.cell 0
      have e1 := HK.out.cell 1
      simp only [List.getElem?_toArray, List.getElem?_cons_zero, List.getElem?_cons_succ] at e0 e1
      clear hb hlq hlk
      go_wp2_with fail
      have hp := put_q HQ.out (.slice D1 m1 d1) (.slice D2 m2 d2)
      exact bodyPost_ret (v := .tuple #[.agg #[.slice D1 m1 d1, .slice D2 m2 d2], .int .i64 0]) (by simp [results, Tryz.results6, go_sem, hp.cell 0, hp.cell 1]) rfl (Or.inl ⟨_, _, _, _, _, _, _, HFP.out, rfl, (HB1.out.put_q HL1.out _ _).more (Nat.le_of_lt HL1.out), (HB2.out.put_q HL2.out _ _).more (Nat.le_of_lt HL2.out), (HB.out.setCell (Nat.le_refl _) _).setCell (Nat.le_refl _) _⟩)
end Go.Proofs.YtaifigkbblncpaaGreatDoor
