/-
  LinesReads: the law's walk.
-/
import Derived.Test.YtbhdibeiojeadaaDoorLawL6A
import Derived.Test.YtbhdibeiojeadaaDoorWriteP
import Derived.Test.YtbhdibeiojeadaaDoorL6O
namespace Go.Proofs.YtbhdibeiojeadaaDoor
open Go.RowKit
set_option maxRecDepth 100000

/-- What is read of a text: the fault, the number, the lines. -/
def rE (t : ByteArray) : Int := if 65536 < t.size then 5 else if readN (pc 10 t) = 0 then 0 else 3
def rN (t : ByteArray) : Nat := if 65536 < t.size then 0 else readN (pc 10 t)
def rL (t : ByteArray) : List (List ByteArray) := if rE t = 0 then readL (pc 10 t) else []
/-- What Read answers. -/
def RdA (t : ByteArray) (w : World) (e : Ending) (w' : World) : Prop :=
  ∃ A n c, e = .returned (.tuple #[.slice A n c, .int .i64 ((rN t : Nat) : Int), .int .i64 (rE t)]) ∧ n ≤ c ∧ (rL t).length = n ∧ Lns w' A (rL t) ∧ Below w.heap.size w w'
theorem rd_many {t : ByteArray} {w w' : World} {e : Ending} (ht : 65536 < t.size) (h : e = .returned (.tuple #[.slice none 0 0, .int .i64 0, .int .i64 5]) ∧ w' = w) : RdA t w e w' := by
  obtain ⟨rfl, rfl⟩ := h
  have h1 : rE t = 5 := by unfold rE; rw [if_pos ht]
  have h2 : rN t = 0 := by unfold rN; rw [if_pos ht]
  have h3 : rL t = [] := by unfold rL; rw [h1]; rfl
  exact ⟨none, 0, 0, by rw [h1, h2]; rfl, Nat.le_refl _, by rw [h3]; rfl, by rw [h3]; exact fun h => absurd rfl h, Below.refl _ _⟩
theorem rd_few {t : ByteArray} {w w' : World} {e : Ending} (ht : t.size ≤ 65536) (h : ReadA w (cutTo 10 t.data.toList t.size) e w') : RdA t w e w' := by
  have h2 : rN t = readN (cutTo 10 t.data.toList t.size) := by unfold rN; rw [if_neg (by omega)]; rfl
  obtain ⟨⟨h0, A, cp, rfl, hc, hl⟩ | ⟨h0, rfl⟩, hb⟩ := h
  · have h1 : rE t = 0 := by unfold rE; rw [if_neg (by omega)]; exact if_pos h0
    have h3 : rL t = readL (cutTo 10 t.data.toList t.size) := by unfold rL; rw [h1]; rfl
    exact ⟨A, _, cp, by rw [h1, h2, h0]; rfl, hc, by rw [h3, readL_len], by rw [h3]; exact hl, hb⟩
  · have h1 : rE t = 3 := by unfold rE; rw [if_neg (by omega)]; exact if_neg (Nat.ne_of_gt h0)
    have h3 : rL t = [] := by unfold rL; rw [h1]; rfl
    exact ⟨none, 0, 0, by rw [h1, h2], Nat.le_refl _, by rw [h3]; rfl, by rw [h3]; exact fun h => absurd rfl h, hb⟩
theorem pRd (t : ByteArray) (w : World) (ht : t.size ≤ 70000) (hv : LibV w) : Calls Tryd.prog 17 #[.string t] w (RdA t w) := by
  rcases Nat.lt_or_ge 65536 t.size with h | h
  · exact (pRead_many t w h (by omega)).mono fun e w' hh => rd_many h hh
  · exact (pRead_any t w h hv).mono fun e w' hh => rd_few h hh
theorem refRd (t : ByteArray) (w : World) (ht : t.size ≤ 70000) : Calls Tryd.prog 18 #[.string t] w (RdA t w) := by
  rcases Nat.lt_or_ge 65536 t.size with h | h
  · exact (refRead_many t w h (by omega)).mono fun e w' hh => rd_many h hh
  · exact (refRead_any t w h).mono fun e w' hh => rd_few h hh
theorem rL_len (t : ByteArray) : (rL t).length ≤ 70000 := by
  unfold rL
  split
  · rename_i h
    have ht : ¬ 65536 < t.size := by intro hh; unfold rE at h; rw [if_pos hh] at h; cases h
    have := cutTo_len 10 t.data.toList t.size
    rw [readL_len]
    unfold pc
    omega
  · simp
theorem rL_line (t : ByteArray) (k : Nat) : ((rL t).getD k []).length ≤ 70000 ∧ ∀ j, (((rL t).getD k []).getD j ⟨#[]⟩).size ≤ 70000 := by
  unfold rL
  split
  · rename_i h
    have ht : ¬ 65536 < t.size := by intro hh; unfold rE at h; rw [if_pos hh] at h; cases h
    rcases Nat.lt_or_ge k ((pc 10 t).length - 1) with hk | hk
    · rw [readL_get hk]
      have h1 : ((pc 10 t).getD k ⟨#[]⟩).size ≤ t.size := cutTo_size 10 t.data.toList t.size k
      have h2 := cutTo_len 32 ((pc 10 t).getD k ⟨#[]⟩).data.toList ((pc 10 t).getD k ⟨#[]⟩).size
      refine ⟨by unfold lineOf; omega, fun j => ?_⟩
      have h3 := cutTo_size 32 ((pc 10 t).getD k ⟨#[]⟩).data.toList ((pc 10 t).getD k ⟨#[]⟩).size j
      unfold lineOf
      omega
    · have : (readL (pc 10 t)).getD k [] = [] := by
        rw [List.getD_eq_getElem?_getD, List.getElem?_eq_none (by rw [readL_len]; exact hk)]
        rfl
      rw [this]
      exact ⟨by simp, fun j => by simp [ByteArray.size]⟩
  · exact ⟨by simp, fun j => by simp [ByteArray.size]⟩
/-- What was read, written. -/
theorem rback {t : ByteArray} (h : rE t = 0) : writeE (rL t) = 0 ∧ writeT (rL t) = t ∧ (textTo (rL t) (rL t).length).size ≤ 65536 := by
  have ht : ¬ 65536 < t.size := by intro hh; unfold rE at h; rw [if_pos hh] at h; cases h
  have h0 : readN (pc 10 t) = 0 := by
    unfold rE at h
    rw [if_neg ht] at h
    split at h
    · assumption
    · cases h
  have h3 : rL t = readL (pc 10 t) := by unfold rL; rw [h]; rfl
  have hb := read_back t h0 (by omega)
  rw [h3]
  refine ⟨hb.1, hb.2.1, ?_⟩
  have h1 : writeE (readL (pc 10 t)) = 0 := hb.1
  unfold writeE at h1
  split at h1
  · split at h1
    · cases h1
    · omega
  · cases h1
theorem wback {L : List (List ByteArray)} (h : writeE L = 0) : (writeT L).size ≤ 65536 ∧ rE (writeT L) = 0 ∧ rN (writeT L) = 0 ∧ rL (writeT L) = L := by
  obtain ⟨h1, h2, h3⟩ := write_back L h
  have e1 : rE (writeT L) = 0 := by unfold rE; rw [if_neg (by omega)]; exact if_pos h2
  refine ⟨h1, e1, ?_, ?_⟩
  · unfold rN; rw [if_neg (by omega)]; exact h2
  · unfold rL; rw [e1]; exact h3

set_option maxHeartbeats 4000000 in
theorem linesReads_off (t : ByteArray) (A1 : Option Addr) (n1 c1 : Nat) (w : World) (hv : LibV w) (hs : t.size ≤ 4611686018427387904) (hn : n1 ≤ 4611686018427387904) (h : (2000 < t.size ∧ t.size ≤ 65536) ∨ 70000 < t.size ∨ 60 < n1) :
    Calls Tryd.prog 4 #[.string t, .slice A1 n1 c1] w fun e w' => e = .returned (.bool true) ∧ Below w.heap.size w w' := by
  have ha := alive6_any w hv
  clear hv
  by_cases h1 : 2000 < t.size
  · have i1 : (2000 : Int) < (t.size : Int) := by omega
    by_cases h2 : t.size ≤ 65536
    · have i2 : (t.size : Int) ≤ (65536 : Int) := by omega
      clear h
      go_enter Tryd.func4, Tryd.ntmps4
      go_wp2_with fail
      refine ha.mono ?_
      rintro e w1 ⟨rfl, hb⟩
      go_wp2_with fail
      go_ret
      exact ⟨rfl, hb⟩
    · have i2 : ¬ (t.size : Int) ≤ (65536 : Int) := by omega
      by_cases h3 : 70000 < t.size
      · have i3 : (70000 : Int) < (t.size : Int) := by omega
        clear h
        go_enter Tryd.func4, Tryd.ntmps4
        go_wp2_with fail
        refine ha.mono ?_
        rintro e w1 ⟨rfl, hb⟩
        go_wp2_with fail
        go_ret
        exact ⟨rfl, hb⟩
      · have i3 : ¬ (70000 : Int) < (t.size : Int) := by omega
        have i4 : (60 : Int) < (n1 : Int) := by omega
        clear h
        go_enter Tryd.func4, Tryd.ntmps4
        go_wp2_with fail
        refine ha.mono ?_
        rintro e w1 ⟨rfl, hb⟩
        go_wp2_with fail
        go_ret
        exact ⟨rfl, hb⟩
  · have i1 : ¬ (2000 : Int) < (t.size : Int) := by omega
    have i2 : (t.size : Int) ≤ (65536 : Int) := by omega
    have i3 : ¬ (70000 : Int) < (t.size : Int) := by omega
    have i4 : (60 : Int) < (n1 : Int) := by omega
    clear h
    go_enter Tryd.func4, Tryd.ntmps4
    go_wp2_with fail
    refine ha.mono ?_
    rintro e w1 ⟨rfl, hb⟩
    go_wp2_with fail
    go_ret
    exact ⟨rfl, hb⟩

set_option maxHeartbeats 4000000 in
theorem linesReads_yy (t : ByteArray) (A1 : Option Addr) (L : List (List ByteArray)) (n1 c1 : Nat) (w : World) (hl1 : L.length = n1) (hr1 : Lns w A1 L) (hc1 : n1 ≤ c1) (hv : LibV w) (ht : t.size ≤ 2000 ∨ (65536 < t.size ∧ t.size ≤ 70000)) (hn : n1 ≤ 60)
    (hm1 : ∀ k, (L.getD k []).length ≤ 140737488355328) (hw1 : ∀ k j, ((L.getD k []).getD j ⟨#[]⟩).size ≤ 4611686018427387904) (hsz : (textTo L n1).size ≤ 140737488355328) (he : rE t = 0) (hw : writeE L = 0) :
    Calls Tryd.prog 4 #[.string t, .slice A1 n1 c1] w fun e w' => e = .returned (.bool true) ∧ Below w.heap.size w w' := by
  have i4 : ¬ (60 : Int) < (n1 : Int) := by omega
  have i3 : ¬ (70000 : Int) < (t.size : Int) := by omega
  have ht7 : t.size ≤ 70000 := by omega
  have i12 : ((2000 : Int) < (t.size : Int) ∧ ¬ (t.size : Int) ≤ (65536 : Int)) ∨ ¬ (2000 : Int) < (t.size : Int) := by omega
  have hrl := rL_len t
  have hrk := rL_line t
  have c1 := fun W hW => pRd t W ht7 hW
  have c2 := fun W => refRd t W ht7
  unfold RdA at c1 c2
  have hbk := rback he
  have hwb := wback hw
  obtain ⟨E, hE⟩ : ∃ E, rE t = E := ⟨_, rfl⟩
  obtain ⟨N, hN⟩ : ∃ N, rN t = N := ⟨_, rfl⟩
  obtain ⟨R, hR⟩ : ∃ R, rL t = R := ⟨_, rfl⟩
  obtain ⟨u, hu⟩ : ∃ u, writeT L = u := ⟨_, rfl⟩
  obtain ⟨g, hg⟩ : ∃ g, writeE L = g := ⟨_, rfl⟩
  simp only [hE, hN, hR] at c1 c2
  rw [hR] at hrl
  rw [hR] at hrk
  rw [hR] at hbk
  have HBK := Lib.hid hbk
  obtain rfl : E = 0 := hE.symm.trans he
  clear hbk
  rw [hu] at hwb
  obtain rfl : g = 0 := hg.symm.trans hw
  have c3 := fun W hW => pRd u W (by omega) hW
  unfold RdA at c3
  simp only [hwb.2.1, hwb.2.2.1, hwb.2.2.2] at c3
  have C3 := Lib.hid c3
  clear hwb c3
  clear he hw
  have HR1 := Lib.hid hr1
  have HL1 := Lib.hid hl1
  have HV := Lib.hid hv
  have HM1 := Lib.hid hm1
  have HW1 := Lib.hid hw1
  have HSZ := Lib.hid hsz
  have C1 := Lib.hid c1
  have C2 := Lib.hid c2
  have HRK := Lib.hid hrk
  have HU := Lib.hid hu
  have HG := Lib.hid hg
  clear c1 c2 hr1 hl1 hv hm1 hw1 hsz hrk hE hN hR hu hg ht
  rcases i12 with ⟨i1, i2⟩ | i1
  · go_enter Tryd.func4, Tryd.ntmps4
    go_wp2_with fail
    refine (C1.out w HV.out).mono ?_
    rintro e w1 ⟨D1, m1, e1, rfl, hme1, hlm1, hrd1, hb⟩
    have HB := Lib.hid hb
    have HD1 := Lib.hid hrd1
    have HM1' := Lib.hid hlm1
    have hm1' : m1 ≤ 70000 := by omega
    clear hb hrd1 hlm1
    go_wp2_with fail
    refine (C2.out w1).mono ?_
    rintro e w2 ⟨D2, m2, e2, rfl, hme2, hlm2, hrd2, hb⟩
    have HB := Lib.hid (HB.out.trans (hb.mono HB.out.size))
    have HD1 := Lib.hid (HD1.out.below hb)
    have HD2 := Lib.hid hrd2
    have HM2' := Lib.hid hlm2
    have hm2' : m2 ≤ 70000 := by omega
    clear hb hrd2 hlm2
    have hw1x := pWrite_any A1 L n1 c1 w2 HL1.out (HR1.out.below HB.out) (by omega) hc1 HM1.out HW1.out HSZ.out
    rw [HU.out, HG.out] at hw1x
    have HWX := Lib.hid hw1x
    clear hw1x
    go_wp2_with fail
    refine HWX.out.mono ?_
    rintro e w3 ⟨rfl, hb⟩
    have HB := Lib.hid (HB.out.trans (hb.mono HB.out.size))
    have HD1 := Lib.hid (HD1.out.below hb)
    have HD2 := Lib.hid (HD2.out.below hb)
    clear hb HWX
    have hw2x := refWrite_any A1 L n1 c1 w3 HL1.out (HR1.out.below HB.out) (by omega) hc1 (fun k => Nat.le_trans (HM1.out k) (by omega)) HW1.out (Nat.le_trans HSZ.out (by omega))
    rw [HU.out, HG.out] at hw2x
    have HWX := Lib.hid hw2x
    clear hw2x
    go_wp2_with fail
    refine HWX.out.mono ?_
    rintro e w3' ⟨rfl, rfl⟩
    clear HWX
    have hx := refSame6_any D1 D2 R R m1 e1 m2 e2 w3' HM1'.out HM2'.out HD1.out HD2.out (by omega) (by omega) hme1 hme2 (fun k => Nat.le_trans (HRK.out k).1 (by omega)) (fun k => Nat.le_trans (HRK.out k).1 (by omega))
    rw [decide_eq_true rfl] at hx
    have HX := Lib.hid hx
    clear hx
    go_wp2_with fail
    refine HX.out.mono ?_
    rintro e w4 ⟨rfl, hb⟩
    have HB := Lib.hid (HB.out.trans (hb.mono HB.out.size))
    have HD1 := Lib.hid (HD1.out.below hb)
    clear hb HX HD2
    have hwa := pWrite_any D1 R m1 e1 w4 HM1'.out HD1.out (by omega) hme1 (fun k => Nat.le_trans (HRK.out k).1 (by omega)) (fun k j => Nat.le_trans ((HRK.out k).2 j) (by omega)) (by rw [← HM1'.out]; exact Nat.le_trans HBK.out.2.2 (by omega))
    rw [HBK.out.1, HBK.out.2.1] at hwa
    have HWA := Lib.hid hwa
    clear hwa
    go_wp2_with fail
    refine HWA.out.mono ?_
    rintro e w4 ⟨rfl, hb⟩
    have HB := Lib.hid (HB.out.trans (hb.mono HB.out.size))
    clear hb HWA HD1
    go_wp2_with fail
    refine (C3.out w4 (HV.out.below HB.out)).mono ?_
    rintro e w5 ⟨D3, m3, e3, rfl, hme3, hlm3, hrd3, hb⟩
    have HB := Lib.hid (HB.out.trans (hb.mono HB.out.size))
    have hx := refSame6_any D3 A1 L L m3 e3 n1 c1 w5 hlm3 HL1.out hrd3 (HR1.out.below HB.out) (by have := HL1.out; omega) (by omega) hme3 hc1 (fun k => Nat.le_trans (HM1.out k) (by omega)) (fun k => Nat.le_trans (HM1.out k) (by omega))
    rw [decide_eq_true rfl] at hx
    have HX := Lib.hid hx
    clear hx hb hrd3 hlm3
    go_wp2_with fail
    refine HX.out.mono ?_
    rintro e w4 ⟨rfl, hb⟩
    have HB := Lib.hid (HB.out.trans (hb.mono HB.out.size))
    clear hb HX
    have ha := alive6_any w4 (HV.out.below HB.out)
    go_wp2_with fail
    refine ha.mono ?_
    rintro e w7 ⟨rfl, hb⟩
    go_wp2_with fail
    go_ret
    exact ⟨rfl, HB.out.trans (hb.mono HB.out.size)⟩
  · go_enter Tryd.func4, Tryd.ntmps4
    go_wp2_with fail
    refine (C1.out w HV.out).mono ?_
    rintro e w1 ⟨D1, m1, e1, rfl, hme1, hlm1, hrd1, hb⟩
    have HB := Lib.hid hb
    have HD1 := Lib.hid hrd1
    have HM1' := Lib.hid hlm1
    have hm1' : m1 ≤ 70000 := by omega
    clear hb hrd1 hlm1
    go_wp2_with fail
    refine (C2.out w1).mono ?_
    rintro e w2 ⟨D2, m2, e2, rfl, hme2, hlm2, hrd2, hb⟩
    have HB := Lib.hid (HB.out.trans (hb.mono HB.out.size))
    have HD1 := Lib.hid (HD1.out.below hb)
    have HD2 := Lib.hid hrd2
    have HM2' := Lib.hid hlm2
    have hm2' : m2 ≤ 70000 := by omega
    clear hb hrd2 hlm2
    have hw1x := pWrite_any A1 L n1 c1 w2 HL1.out (HR1.out.below HB.out) (by omega) hc1 HM1.out HW1.out HSZ.out
    rw [HU.out, HG.out] at hw1x
    have HWX := Lib.hid hw1x
    clear hw1x
    go_wp2_with fail
    refine HWX.out.mono ?_
    rintro e w3 ⟨rfl, hb⟩
    have HB := Lib.hid (HB.out.trans (hb.mono HB.out.size))
    have HD1 := Lib.hid (HD1.out.below hb)
    have HD2 := Lib.hid (HD2.out.below hb)
    clear hb HWX
    have hw2x := refWrite_any A1 L n1 c1 w3 HL1.out (HR1.out.below HB.out) (by omega) hc1 (fun k => Nat.le_trans (HM1.out k) (by omega)) HW1.out (Nat.le_trans HSZ.out (by omega))
    rw [HU.out, HG.out] at hw2x
    have HWX := Lib.hid hw2x
    clear hw2x
    go_wp2_with fail
    refine HWX.out.mono ?_
    rintro e w3' ⟨rfl, rfl⟩
    clear HWX
    have hx := refSame6_any D1 D2 R R m1 e1 m2 e2 w3' HM1'.out HM2'.out HD1.out HD2.out (by omega) (by omega) hme1 hme2 (fun k => Nat.le_trans (HRK.out k).1 (by omega)) (fun k => Nat.le_trans (HRK.out k).1 (by omega))
    rw [decide_eq_true rfl] at hx
    have HX := Lib.hid hx
    clear hx
    go_wp2_with fail
    refine HX.out.mono ?_
    rintro e w4 ⟨rfl, hb⟩
    have HB := Lib.hid (HB.out.trans (hb.mono HB.out.size))
    have HD1 := Lib.hid (HD1.out.below hb)
    clear hb HX HD2
    have hwa := pWrite_any D1 R m1 e1 w4 HM1'.out HD1.out (by omega) hme1 (fun k => Nat.le_trans (HRK.out k).1 (by omega)) (fun k j => Nat.le_trans ((HRK.out k).2 j) (by omega)) (by rw [← HM1'.out]; exact Nat.le_trans HBK.out.2.2 (by omega))
    rw [HBK.out.1, HBK.out.2.1] at hwa
    have HWA := Lib.hid hwa
    clear hwa
    go_wp2_with fail
    refine HWA.out.mono ?_
    rintro e w4 ⟨rfl, hb⟩
    have HB := Lib.hid (HB.out.trans (hb.mono HB.out.size))
    clear hb HWA HD1
    go_wp2_with fail
    refine (C3.out w4 (HV.out.below HB.out)).mono ?_
    rintro e w5 ⟨D3, m3, e3, rfl, hme3, hlm3, hrd3, hb⟩
    have HB := Lib.hid (HB.out.trans (hb.mono HB.out.size))
    have hx := refSame6_any D3 A1 L L m3 e3 n1 c1 w5 hlm3 HL1.out hrd3 (HR1.out.below HB.out) (by have := HL1.out; omega) (by omega) hme3 hc1 (fun k => Nat.le_trans (HM1.out k) (by omega)) (fun k => Nat.le_trans (HM1.out k) (by omega))
    rw [decide_eq_true rfl] at hx
    have HX := Lib.hid hx
    clear hx hb hrd3 hlm3
    go_wp2_with fail
    refine HX.out.mono ?_
    rintro e w4 ⟨rfl, hb⟩
    have HB := Lib.hid (HB.out.trans (hb.mono HB.out.size))
    clear hb HX
    have ha := alive6_any w4 (HV.out.below HB.out)
    go_wp2_with fail
    refine ha.mono ?_
    rintro e w7 ⟨rfl, hb⟩
    go_wp2_with fail
    go_ret
    exact ⟨rfl, HB.out.trans (hb.mono HB.out.size)⟩

set_option maxHeartbeats 4000000 in
theorem linesReads_yn (t : ByteArray) (A1 : Option Addr) (L : List (List ByteArray)) (n1 c1 : Nat) (w : World) (hl1 : L.length = n1) (hr1 : Lns w A1 L) (hc1 : n1 ≤ c1) (hv : LibV w) (ht : t.size ≤ 2000 ∨ (65536 < t.size ∧ t.size ≤ 70000)) (hn : n1 ≤ 60)
    (hm1 : ∀ k, (L.getD k []).length ≤ 140737488355328) (hw1 : ∀ k j, ((L.getD k []).getD j ⟨#[]⟩).size ≤ 4611686018427387904) (hsz : (textTo L n1).size ≤ 140737488355328) (he : rE t = 0) (hw : ¬ writeE L = 0) :
    Calls Tryd.prog 4 #[.string t, .slice A1 n1 c1] w fun e w' => e = .returned (.bool true) ∧ Below w.heap.size w w' := by
  have i4 : ¬ (60 : Int) < (n1 : Int) := by omega
  have i3 : ¬ (70000 : Int) < (t.size : Int) := by omega
  have ht7 : t.size ≤ 70000 := by omega
  have i12 : ((2000 : Int) < (t.size : Int) ∧ ¬ (t.size : Int) ≤ (65536 : Int)) ∨ ¬ (2000 : Int) < (t.size : Int) := by omega
  have hrl := rL_len t
  have hrk := rL_line t
  have c1 := fun W hW => pRd t W ht7 hW
  have c2 := fun W => refRd t W ht7
  unfold RdA at c1 c2
  have hbk := rback he
  obtain ⟨E, hE⟩ : ∃ E, rE t = E := ⟨_, rfl⟩
  obtain ⟨N, hN⟩ : ∃ N, rN t = N := ⟨_, rfl⟩
  obtain ⟨R, hR⟩ : ∃ R, rL t = R := ⟨_, rfl⟩
  obtain ⟨u, hu⟩ : ∃ u, writeT L = u := ⟨_, rfl⟩
  obtain ⟨g, hg⟩ : ∃ g, writeE L = g := ⟨_, rfl⟩
  simp only [hE, hN, hR] at c1 c2
  rw [hR] at hrl
  rw [hR] at hrk
  rw [hR] at hbk
  have HBK := Lib.hid hbk
  obtain rfl : E = 0 := hE.symm.trans he
  clear hbk
  have hg0 : (g == 0) = false := beq_eq_false_iff_ne.2 (by rw [← hg]; exact hw)
  have hg1 : ¬ g = 0 := by rw [← hg]; exact hw
  clear he hw
  have HR1 := Lib.hid hr1
  have HL1 := Lib.hid hl1
  have HV := Lib.hid hv
  have HM1 := Lib.hid hm1
  have HW1 := Lib.hid hw1
  have HSZ := Lib.hid hsz
  have C1 := Lib.hid c1
  have C2 := Lib.hid c2
  have HRK := Lib.hid hrk
  have HU := Lib.hid hu
  have HG := Lib.hid hg
  clear c1 c2 hr1 hl1 hv hm1 hw1 hsz hrk hE hN hR hu hg ht
  rcases i12 with ⟨i1, i2⟩ | i1
  · go_enter Tryd.func4, Tryd.ntmps4
    go_wp2_with fail
    refine (C1.out w HV.out).mono ?_
    rintro e w1 ⟨D1, m1, e1, rfl, hme1, hlm1, hrd1, hb⟩
    have HB := Lib.hid hb
    have HD1 := Lib.hid hrd1
    have HM1' := Lib.hid hlm1
    have hm1' : m1 ≤ 70000 := by omega
    clear hb hrd1 hlm1
    go_wp2_with fail
    refine (C2.out w1).mono ?_
    rintro e w2 ⟨D2, m2, e2, rfl, hme2, hlm2, hrd2, hb⟩
    have HB := Lib.hid (HB.out.trans (hb.mono HB.out.size))
    have HD1 := Lib.hid (HD1.out.below hb)
    have HD2 := Lib.hid hrd2
    have HM2' := Lib.hid hlm2
    have hm2' : m2 ≤ 70000 := by omega
    clear hb hrd2 hlm2
    have hw1x := pWrite_any A1 L n1 c1 w2 HL1.out (HR1.out.below HB.out) (by omega) hc1 HM1.out HW1.out HSZ.out
    rw [HU.out, HG.out] at hw1x
    have HWX := Lib.hid hw1x
    clear hw1x
    go_wp2_with fail
    refine HWX.out.mono ?_
    rintro e w3 ⟨rfl, hb⟩
    have HB := Lib.hid (HB.out.trans (hb.mono HB.out.size))
    have HD1 := Lib.hid (HD1.out.below hb)
    have HD2 := Lib.hid (HD2.out.below hb)
    clear hb HWX
    have hw2x := refWrite_any A1 L n1 c1 w3 HL1.out (HR1.out.below HB.out) (by omega) hc1 (fun k => Nat.le_trans (HM1.out k) (by omega)) HW1.out (Nat.le_trans HSZ.out (by omega))
    rw [HU.out, HG.out] at hw2x
    have HWX := Lib.hid hw2x
    clear hw2x
    go_wp2_with fail
    refine HWX.out.mono ?_
    rintro e w3' ⟨rfl, rfl⟩
    clear HWX
    have hx := refSame6_any D1 D2 R R m1 e1 m2 e2 w3' HM1'.out HM2'.out HD1.out HD2.out (by omega) (by omega) hme1 hme2 (fun k => Nat.le_trans (HRK.out k).1 (by omega)) (fun k => Nat.le_trans (HRK.out k).1 (by omega))
    rw [decide_eq_true rfl] at hx
    have HX := Lib.hid hx
    clear hx
    go_wp2_with fail
    refine HX.out.mono ?_
    rintro e w4 ⟨rfl, hb⟩
    have HB := Lib.hid (HB.out.trans (hb.mono HB.out.size))
    have HD1 := Lib.hid (HD1.out.below hb)
    clear hb HX HD2
    have hwa := pWrite_any D1 R m1 e1 w4 HM1'.out HD1.out (by omega) hme1 (fun k => Nat.le_trans (HRK.out k).1 (by omega)) (fun k j => Nat.le_trans ((HRK.out k).2 j) (by omega)) (by rw [← HM1'.out]; exact Nat.le_trans HBK.out.2.2 (by omega))
    rw [HBK.out.1, HBK.out.2.1] at hwa
    have HWA := Lib.hid hwa
    clear hwa
    go_wp2_with fail
    refine HWA.out.mono ?_
    rintro e w4 ⟨rfl, hb⟩
    have HB := Lib.hid (HB.out.trans (hb.mono HB.out.size))
    clear hb HWA HD1
    have ha := alive6_any w4 (HV.out.below HB.out)
    go_wp2_with fail
    refine ha.mono ?_
    rintro e w7 ⟨rfl, hb⟩
    go_wp2_with fail
    go_ret
    exact ⟨rfl, HB.out.trans (hb.mono HB.out.size)⟩
  · go_enter Tryd.func4, Tryd.ntmps4
    go_wp2_with fail
    refine (C1.out w HV.out).mono ?_
    rintro e w1 ⟨D1, m1, e1, rfl, hme1, hlm1, hrd1, hb⟩
    have HB := Lib.hid hb
    have HD1 := Lib.hid hrd1
    have HM1' := Lib.hid hlm1
    have hm1' : m1 ≤ 70000 := by omega
    clear hb hrd1 hlm1
    go_wp2_with fail
    refine (C2.out w1).mono ?_
    rintro e w2 ⟨D2, m2, e2, rfl, hme2, hlm2, hrd2, hb⟩
    have HB := Lib.hid (HB.out.trans (hb.mono HB.out.size))
    have HD1 := Lib.hid (HD1.out.below hb)
    have HD2 := Lib.hid hrd2
    have HM2' := Lib.hid hlm2
    have hm2' : m2 ≤ 70000 := by omega
    clear hb hrd2 hlm2
    have hw1x := pWrite_any A1 L n1 c1 w2 HL1.out (HR1.out.below HB.out) (by omega) hc1 HM1.out HW1.out HSZ.out
    rw [HU.out, HG.out] at hw1x
    have HWX := Lib.hid hw1x
    clear hw1x
    go_wp2_with fail
    refine HWX.out.mono ?_
    rintro e w3 ⟨rfl, hb⟩
    have HB := Lib.hid (HB.out.trans (hb.mono HB.out.size))
    have HD1 := Lib.hid (HD1.out.below hb)
    have HD2 := Lib.hid (HD2.out.below hb)
    clear hb HWX
    have hw2x := refWrite_any A1 L n1 c1 w3 HL1.out (HR1.out.below HB.out) (by omega) hc1 (fun k => Nat.le_trans (HM1.out k) (by omega)) HW1.out (Nat.le_trans HSZ.out (by omega))
    rw [HU.out, HG.out] at hw2x
    have HWX := Lib.hid hw2x
    clear hw2x
    go_wp2_with fail
    refine HWX.out.mono ?_
    rintro e w3' ⟨rfl, rfl⟩
    clear HWX
    have hx := refSame6_any D1 D2 R R m1 e1 m2 e2 w3' HM1'.out HM2'.out HD1.out HD2.out (by omega) (by omega) hme1 hme2 (fun k => Nat.le_trans (HRK.out k).1 (by omega)) (fun k => Nat.le_trans (HRK.out k).1 (by omega))
    rw [decide_eq_true rfl] at hx
    have HX := Lib.hid hx
    clear hx
    go_wp2_with fail
    refine HX.out.mono ?_
    rintro e w4 ⟨rfl, hb⟩
    have HB := Lib.hid (HB.out.trans (hb.mono HB.out.size))
    have HD1 := Lib.hid (HD1.out.below hb)
    clear hb HX HD2
    have hwa := pWrite_any D1 R m1 e1 w4 HM1'.out HD1.out (by omega) hme1 (fun k => Nat.le_trans (HRK.out k).1 (by omega)) (fun k j => Nat.le_trans ((HRK.out k).2 j) (by omega)) (by rw [← HM1'.out]; exact Nat.le_trans HBK.out.2.2 (by omega))
    rw [HBK.out.1, HBK.out.2.1] at hwa
    have HWA := Lib.hid hwa
    clear hwa
    go_wp2_with fail
    refine HWA.out.mono ?_
    rintro e w4 ⟨rfl, hb⟩
    have HB := Lib.hid (HB.out.trans (hb.mono HB.out.size))
    clear hb HWA HD1
    have ha := alive6_any w4 (HV.out.below HB.out)
    go_wp2_with fail
    refine ha.mono ?_
    rintro e w7 ⟨rfl, hb⟩
    go_wp2_with fail
    go_ret
    exact ⟨rfl, HB.out.trans (hb.mono HB.out.size)⟩

set_option maxHeartbeats 4000000 in
theorem linesReads_ny (t : ByteArray) (A1 : Option Addr) (L : List (List ByteArray)) (n1 c1 : Nat) (w : World) (hl1 : L.length = n1) (hr1 : Lns w A1 L) (hc1 : n1 ≤ c1) (hv : LibV w) (ht : t.size ≤ 2000 ∨ (65536 < t.size ∧ t.size ≤ 70000)) (hn : n1 ≤ 60)
    (hm1 : ∀ k, (L.getD k []).length ≤ 140737488355328) (hw1 : ∀ k j, ((L.getD k []).getD j ⟨#[]⟩).size ≤ 4611686018427387904) (hsz : (textTo L n1).size ≤ 140737488355328) (he : ¬ rE t = 0) (hw : writeE L = 0) :
    Calls Tryd.prog 4 #[.string t, .slice A1 n1 c1] w fun e w' => e = .returned (.bool true) ∧ Below w.heap.size w w' := by
  have i4 : ¬ (60 : Int) < (n1 : Int) := by omega
  have i3 : ¬ (70000 : Int) < (t.size : Int) := by omega
  have ht7 : t.size ≤ 70000 := by omega
  have i12 : ((2000 : Int) < (t.size : Int) ∧ ¬ (t.size : Int) ≤ (65536 : Int)) ∨ ¬ (2000 : Int) < (t.size : Int) := by omega
  have hrl := rL_len t
  have hrk := rL_line t
  have c1 := fun W hW => pRd t W ht7 hW
  have c2 := fun W => refRd t W ht7
  unfold RdA at c1 c2
  have hwb := wback hw
  obtain ⟨E, hE⟩ : ∃ E, rE t = E := ⟨_, rfl⟩
  obtain ⟨N, hN⟩ : ∃ N, rN t = N := ⟨_, rfl⟩
  obtain ⟨R, hR⟩ : ∃ R, rL t = R := ⟨_, rfl⟩
  obtain ⟨u, hu⟩ : ∃ u, writeT L = u := ⟨_, rfl⟩
  obtain ⟨g, hg⟩ : ∃ g, writeE L = g := ⟨_, rfl⟩
  simp only [hE, hN, hR] at c1 c2
  rw [hR] at hrl
  rw [hR] at hrk
  have he0 : (E == 0) = false := beq_eq_false_iff_ne.2 (by rw [← hE]; exact he)
  have he1 : ¬ E = 0 := by rw [← hE]; exact he
  rw [hu] at hwb
  obtain rfl : g = 0 := hg.symm.trans hw
  have c3 := fun W hW => pRd u W (by omega) hW
  unfold RdA at c3
  simp only [hwb.2.1, hwb.2.2.1, hwb.2.2.2] at c3
  have C3 := Lib.hid c3
  clear hwb c3
  clear he hw
  have HR1 := Lib.hid hr1
  have HL1 := Lib.hid hl1
  have HV := Lib.hid hv
  have HM1 := Lib.hid hm1
  have HW1 := Lib.hid hw1
  have HSZ := Lib.hid hsz
  have C1 := Lib.hid c1
  have C2 := Lib.hid c2
  have HRK := Lib.hid hrk
  have HU := Lib.hid hu
  have HG := Lib.hid hg
  clear c1 c2 hr1 hl1 hv hm1 hw1 hsz hrk hE hN hR hu hg ht
  rcases i12 with ⟨i1, i2⟩ | i1
  · go_enter Tryd.func4, Tryd.ntmps4
    go_wp2_with fail
    refine (C1.out w HV.out).mono ?_
    rintro e w1 ⟨D1, m1, e1, rfl, hme1, hlm1, hrd1, hb⟩
    have HB := Lib.hid hb
    have HD1 := Lib.hid hrd1
    have HM1' := Lib.hid hlm1
    have hm1' : m1 ≤ 70000 := by omega
    clear hb hrd1 hlm1
    go_wp2_with fail
    refine (C2.out w1).mono ?_
    rintro e w2 ⟨D2, m2, e2, rfl, hme2, hlm2, hrd2, hb⟩
    have HB := Lib.hid (HB.out.trans (hb.mono HB.out.size))
    have HD1 := Lib.hid (HD1.out.below hb)
    have HD2 := Lib.hid hrd2
    have HM2' := Lib.hid hlm2
    have hm2' : m2 ≤ 70000 := by omega
    clear hb hrd2 hlm2
    have hw1x := pWrite_any A1 L n1 c1 w2 HL1.out (HR1.out.below HB.out) (by omega) hc1 HM1.out HW1.out HSZ.out
    rw [HU.out, HG.out] at hw1x
    have HWX := Lib.hid hw1x
    clear hw1x
    go_wp2_with fail
    refine HWX.out.mono ?_
    rintro e w3 ⟨rfl, hb⟩
    have HB := Lib.hid (HB.out.trans (hb.mono HB.out.size))
    have HD1 := Lib.hid (HD1.out.below hb)
    have HD2 := Lib.hid (HD2.out.below hb)
    clear hb HWX
    have hw2x := refWrite_any A1 L n1 c1 w3 HL1.out (HR1.out.below HB.out) (by omega) hc1 (fun k => Nat.le_trans (HM1.out k) (by omega)) HW1.out (Nat.le_trans HSZ.out (by omega))
    rw [HU.out, HG.out] at hw2x
    have HWX := Lib.hid hw2x
    clear hw2x
    go_wp2_with fail
    refine HWX.out.mono ?_
    rintro e w3' ⟨rfl, rfl⟩
    clear HWX
    have hx := refSame6_any D1 D2 R R m1 e1 m2 e2 w3' HM1'.out HM2'.out HD1.out HD2.out (by omega) (by omega) hme1 hme2 (fun k => Nat.le_trans (HRK.out k).1 (by omega)) (fun k => Nat.le_trans (HRK.out k).1 (by omega))
    rw [decide_eq_true rfl] at hx
    have HX := Lib.hid hx
    clear hx
    go_wp2_with fail
    refine HX.out.mono ?_
    rintro e w4 ⟨rfl, hb⟩
    have HB := Lib.hid (HB.out.trans (hb.mono HB.out.size))
    have HD1 := Lib.hid (HD1.out.below hb)
    clear hb HX HD2
    go_wp2_with fail
    refine (C3.out w4 (HV.out.below HB.out)).mono ?_
    rintro e w5 ⟨D3, m3, e3, rfl, hme3, hlm3, hrd3, hb⟩
    have HB := Lib.hid (HB.out.trans (hb.mono HB.out.size))
    have hx := refSame6_any D3 A1 L L m3 e3 n1 c1 w5 hlm3 HL1.out hrd3 (HR1.out.below HB.out) (by have := HL1.out; omega) (by omega) hme3 hc1 (fun k => Nat.le_trans (HM1.out k) (by omega)) (fun k => Nat.le_trans (HM1.out k) (by omega))
    rw [decide_eq_true rfl] at hx
    have HX := Lib.hid hx
    clear hx hb hrd3 hlm3
    go_wp2_with fail
    refine HX.out.mono ?_
    rintro e w4 ⟨rfl, hb⟩
    have HB := Lib.hid (HB.out.trans (hb.mono HB.out.size))
    clear hb HX
    have ha := alive6_any w4 (HV.out.below HB.out)
    go_wp2_with fail
    refine ha.mono ?_
    rintro e w7 ⟨rfl, hb⟩
    go_wp2_with fail
    go_ret
    exact ⟨rfl, HB.out.trans (hb.mono HB.out.size)⟩
  · go_enter Tryd.func4, Tryd.ntmps4
    go_wp2_with fail
    refine (C1.out w HV.out).mono ?_
    rintro e w1 ⟨D1, m1, e1, rfl, hme1, hlm1, hrd1, hb⟩
    have HB := Lib.hid hb
    have HD1 := Lib.hid hrd1
    have HM1' := Lib.hid hlm1
    have hm1' : m1 ≤ 70000 := by omega
    clear hb hrd1 hlm1
    go_wp2_with fail
    refine (C2.out w1).mono ?_
    rintro e w2 ⟨D2, m2, e2, rfl, hme2, hlm2, hrd2, hb⟩
    have HB := Lib.hid (HB.out.trans (hb.mono HB.out.size))
    have HD1 := Lib.hid (HD1.out.below hb)
    have HD2 := Lib.hid hrd2
    have HM2' := Lib.hid hlm2
    have hm2' : m2 ≤ 70000 := by omega
    clear hb hrd2 hlm2
    have hw1x := pWrite_any A1 L n1 c1 w2 HL1.out (HR1.out.below HB.out) (by omega) hc1 HM1.out HW1.out HSZ.out
    rw [HU.out, HG.out] at hw1x
    have HWX := Lib.hid hw1x
    clear hw1x
    go_wp2_with fail
    refine HWX.out.mono ?_
    rintro e w3 ⟨rfl, hb⟩
    have HB := Lib.hid (HB.out.trans (hb.mono HB.out.size))
    have HD1 := Lib.hid (HD1.out.below hb)
    have HD2 := Lib.hid (HD2.out.below hb)
    clear hb HWX
    have hw2x := refWrite_any A1 L n1 c1 w3 HL1.out (HR1.out.below HB.out) (by omega) hc1 (fun k => Nat.le_trans (HM1.out k) (by omega)) HW1.out (Nat.le_trans HSZ.out (by omega))
    rw [HU.out, HG.out] at hw2x
    have HWX := Lib.hid hw2x
    clear hw2x
    go_wp2_with fail
    refine HWX.out.mono ?_
    rintro e w3' ⟨rfl, rfl⟩
    clear HWX
    have hx := refSame6_any D1 D2 R R m1 e1 m2 e2 w3' HM1'.out HM2'.out HD1.out HD2.out (by omega) (by omega) hme1 hme2 (fun k => Nat.le_trans (HRK.out k).1 (by omega)) (fun k => Nat.le_trans (HRK.out k).1 (by omega))
    rw [decide_eq_true rfl] at hx
    have HX := Lib.hid hx
    clear hx
    go_wp2_with fail
    refine HX.out.mono ?_
    rintro e w4 ⟨rfl, hb⟩
    have HB := Lib.hid (HB.out.trans (hb.mono HB.out.size))
    have HD1 := Lib.hid (HD1.out.below hb)
    clear hb HX HD2
    go_wp2_with fail
    refine (C3.out w4 (HV.out.below HB.out)).mono ?_
    rintro e w5 ⟨D3, m3, e3, rfl, hme3, hlm3, hrd3, hb⟩
    have HB := Lib.hid (HB.out.trans (hb.mono HB.out.size))
    have hx := refSame6_any D3 A1 L L m3 e3 n1 c1 w5 hlm3 HL1.out hrd3 (HR1.out.below HB.out) (by have := HL1.out; omega) (by omega) hme3 hc1 (fun k => Nat.le_trans (HM1.out k) (by omega)) (fun k => Nat.le_trans (HM1.out k) (by omega))
    rw [decide_eq_true rfl] at hx
    have HX := Lib.hid hx
    clear hx hb hrd3 hlm3
    go_wp2_with fail
    refine HX.out.mono ?_
    rintro e w4 ⟨rfl, hb⟩
    have HB := Lib.hid (HB.out.trans (hb.mono HB.out.size))
    clear hb HX
    have ha := alive6_any w4 (HV.out.below HB.out)
    go_wp2_with fail
    refine ha.mono ?_
    rintro e w7 ⟨rfl, hb⟩
    go_wp2_with fail
    go_ret
    exact ⟨rfl, HB.out.trans (hb.mono HB.out.size)⟩

set_option maxHeartbeats 4000000 in
theorem linesReads_nn (t : ByteArray) (A1 : Option Addr) (L : List (List ByteArray)) (n1 c1 : Nat) (w : World) (hl1 : L.length = n1) (hr1 : Lns w A1 L) (hc1 : n1 ≤ c1) (hv : LibV w) (ht : t.size ≤ 2000 ∨ (65536 < t.size ∧ t.size ≤ 70000)) (hn : n1 ≤ 60)
    (hm1 : ∀ k, (L.getD k []).length ≤ 140737488355328) (hw1 : ∀ k j, ((L.getD k []).getD j ⟨#[]⟩).size ≤ 4611686018427387904) (hsz : (textTo L n1).size ≤ 140737488355328) (he : ¬ rE t = 0) (hw : ¬ writeE L = 0) :
    Calls Tryd.prog 4 #[.string t, .slice A1 n1 c1] w fun e w' => e = .returned (.bool true) ∧ Below w.heap.size w w' := by
  have i4 : ¬ (60 : Int) < (n1 : Int) := by omega
  have i3 : ¬ (70000 : Int) < (t.size : Int) := by omega
  have ht7 : t.size ≤ 70000 := by omega
  have i12 : ((2000 : Int) < (t.size : Int) ∧ ¬ (t.size : Int) ≤ (65536 : Int)) ∨ ¬ (2000 : Int) < (t.size : Int) := by omega
  have hrl := rL_len t
  have hrk := rL_line t
  have c1 := fun W hW => pRd t W ht7 hW
  have c2 := fun W => refRd t W ht7
  unfold RdA at c1 c2
  obtain ⟨E, hE⟩ : ∃ E, rE t = E := ⟨_, rfl⟩
  obtain ⟨N, hN⟩ : ∃ N, rN t = N := ⟨_, rfl⟩
  obtain ⟨R, hR⟩ : ∃ R, rL t = R := ⟨_, rfl⟩
  obtain ⟨u, hu⟩ : ∃ u, writeT L = u := ⟨_, rfl⟩
  obtain ⟨g, hg⟩ : ∃ g, writeE L = g := ⟨_, rfl⟩
  simp only [hE, hN, hR] at c1 c2
  rw [hR] at hrl
  rw [hR] at hrk
  have he0 : (E == 0) = false := beq_eq_false_iff_ne.2 (by rw [← hE]; exact he)
  have he1 : ¬ E = 0 := by rw [← hE]; exact he
  have hg0 : (g == 0) = false := beq_eq_false_iff_ne.2 (by rw [← hg]; exact hw)
  have hg1 : ¬ g = 0 := by rw [← hg]; exact hw
  clear he hw
  have HR1 := Lib.hid hr1
  have HL1 := Lib.hid hl1
  have HV := Lib.hid hv
  have HM1 := Lib.hid hm1
  have HW1 := Lib.hid hw1
  have HSZ := Lib.hid hsz
  have C1 := Lib.hid c1
  have C2 := Lib.hid c2
  have HRK := Lib.hid hrk
  have HU := Lib.hid hu
  have HG := Lib.hid hg
  clear c1 c2 hr1 hl1 hv hm1 hw1 hsz hrk hE hN hR hu hg ht
  rcases i12 with ⟨i1, i2⟩ | i1
  · go_enter Tryd.func4, Tryd.ntmps4
    go_wp2_with fail
    refine (C1.out w HV.out).mono ?_
    rintro e w1 ⟨D1, m1, e1, rfl, hme1, hlm1, hrd1, hb⟩
    have HB := Lib.hid hb
    have HD1 := Lib.hid hrd1
    have HM1' := Lib.hid hlm1
    have hm1' : m1 ≤ 70000 := by omega
    clear hb hrd1 hlm1
    go_wp2_with fail
    refine (C2.out w1).mono ?_
    rintro e w2 ⟨D2, m2, e2, rfl, hme2, hlm2, hrd2, hb⟩
    have HB := Lib.hid (HB.out.trans (hb.mono HB.out.size))
    have HD1 := Lib.hid (HD1.out.below hb)
    have HD2 := Lib.hid hrd2
    have HM2' := Lib.hid hlm2
    have hm2' : m2 ≤ 70000 := by omega
    clear hb hrd2 hlm2
    have hw1x := pWrite_any A1 L n1 c1 w2 HL1.out (HR1.out.below HB.out) (by omega) hc1 HM1.out HW1.out HSZ.out
    rw [HU.out, HG.out] at hw1x
    have HWX := Lib.hid hw1x
    clear hw1x
    go_wp2_with fail
    refine HWX.out.mono ?_
    rintro e w3 ⟨rfl, hb⟩
    have HB := Lib.hid (HB.out.trans (hb.mono HB.out.size))
    have HD1 := Lib.hid (HD1.out.below hb)
    have HD2 := Lib.hid (HD2.out.below hb)
    clear hb HWX
    have hw2x := refWrite_any A1 L n1 c1 w3 HL1.out (HR1.out.below HB.out) (by omega) hc1 (fun k => Nat.le_trans (HM1.out k) (by omega)) HW1.out (Nat.le_trans HSZ.out (by omega))
    rw [HU.out, HG.out] at hw2x
    have HWX := Lib.hid hw2x
    clear hw2x
    go_wp2_with fail
    refine HWX.out.mono ?_
    rintro e w3' ⟨rfl, rfl⟩
    clear HWX
    have hx := refSame6_any D1 D2 R R m1 e1 m2 e2 w3' HM1'.out HM2'.out HD1.out HD2.out (by omega) (by omega) hme1 hme2 (fun k => Nat.le_trans (HRK.out k).1 (by omega)) (fun k => Nat.le_trans (HRK.out k).1 (by omega))
    rw [decide_eq_true rfl] at hx
    have HX := Lib.hid hx
    clear hx
    go_wp2_with fail
    refine HX.out.mono ?_
    rintro e w4 ⟨rfl, hb⟩
    have HB := Lib.hid (HB.out.trans (hb.mono HB.out.size))
    have HD1 := Lib.hid (HD1.out.below hb)
    clear hb HX HD2
    have ha := alive6_any w4 (HV.out.below HB.out)
    go_wp2_with fail
    refine ha.mono ?_
    rintro e w7 ⟨rfl, hb⟩
    go_wp2_with fail
    go_ret
    exact ⟨rfl, HB.out.trans (hb.mono HB.out.size)⟩
  · go_enter Tryd.func4, Tryd.ntmps4
    go_wp2_with fail
    refine (C1.out w HV.out).mono ?_
    rintro e w1 ⟨D1, m1, e1, rfl, hme1, hlm1, hrd1, hb⟩
    have HB := Lib.hid hb
    have HD1 := Lib.hid hrd1
    have HM1' := Lib.hid hlm1
    have hm1' : m1 ≤ 70000 := by omega
    clear hb hrd1 hlm1
    go_wp2_with fail
    refine (C2.out w1).mono ?_
    rintro e w2 ⟨D2, m2, e2, rfl, hme2, hlm2, hrd2, hb⟩
    have HB := Lib.hid (HB.out.trans (hb.mono HB.out.size))
    have HD1 := Lib.hid (HD1.out.below hb)
    have HD2 := Lib.hid hrd2
    have HM2' := Lib.hid hlm2
    have hm2' : m2 ≤ 70000 := by omega
    clear hb hrd2 hlm2
    have hw1x := pWrite_any A1 L n1 c1 w2 HL1.out (HR1.out.below HB.out) (by omega) hc1 HM1.out HW1.out HSZ.out
    rw [HU.out, HG.out] at hw1x
    have HWX := Lib.hid hw1x
    clear hw1x
    go_wp2_with fail
    refine HWX.out.mono ?_
    rintro e w3 ⟨rfl, hb⟩
    have HB := Lib.hid (HB.out.trans (hb.mono HB.out.size))
    have HD1 := Lib.hid (HD1.out.below hb)
    have HD2 := Lib.hid (HD2.out.below hb)
    clear hb HWX
    have hw2x := refWrite_any A1 L n1 c1 w3 HL1.out (HR1.out.below HB.out) (by omega) hc1 (fun k => Nat.le_trans (HM1.out k) (by omega)) HW1.out (Nat.le_trans HSZ.out (by omega))
    rw [HU.out, HG.out] at hw2x
    have HWX := Lib.hid hw2x
    clear hw2x
    go_wp2_with fail
    refine HWX.out.mono ?_
    rintro e w3' ⟨rfl, rfl⟩
    clear HWX
    have hx := refSame6_any D1 D2 R R m1 e1 m2 e2 w3' HM1'.out HM2'.out HD1.out HD2.out (by omega) (by omega) hme1 hme2 (fun k => Nat.le_trans (HRK.out k).1 (by omega)) (fun k => Nat.le_trans (HRK.out k).1 (by omega))
    rw [decide_eq_true rfl] at hx
    have HX := Lib.hid hx
    clear hx
    go_wp2_with fail
    refine HX.out.mono ?_
    rintro e w4 ⟨rfl, hb⟩
    have HB := Lib.hid (HB.out.trans (hb.mono HB.out.size))
    have HD1 := Lib.hid (HD1.out.below hb)
    clear hb HX HD2
    have ha := alive6_any w4 (HV.out.below HB.out)
    go_wp2_with fail
    refine ha.mono ?_
    rintro e w7 ⟨rfl, hb⟩
    go_wp2_with fail
    go_ret
    exact ⟨rfl, HB.out.trans (hb.mono HB.out.size)⟩
end Go.Proofs.YtbhdibeiojeadaaDoor
