/-
  Arrows: DagTells, the walk.
-/
import Derived.Test.YtojdgcalpdbifaaLawDagA
import Derived.Deep.DeepCutAuto
import Derived.Deep.CutBlock
namespace Go.Proofs.Ytojdgcalpdbifaa
open Go.RowKit
set_option maxRecDepth 100000

theorem nn13_nat {N : Nat} (h : N ≤ 40) : nn13 (N : Int) = N := by unfold nn13; omega
theorem cms13_in {N : Nat} {l : List (Int × Int)} {a : Int} {T : Nat → Bool} (ha : 0 ≤ a ∧ a < (N : Int)) (hT : ∀ b : Nat, a = (b : Int) → ∀ y, T y = wayb (cut13 N l) b y) :
    (all11 T N = rch13 N l a) ∧ (∀ j : Nat, j < N → T j = cms13 N l a (j : Int)) ∧ ∀ z : Int, ¬ (0 ≤ z ∧ z < (N : Int)) → cms13 N l a z = false := by
  obtain ⟨b, rfl⟩ : ∃ b : Nat, a = (b : Int) := ⟨a.toNat, by omega⟩
  have h1 : T = wayb (cut13 N l) b := funext (hT b rfl)
  subst h1
  refine ⟨?_, fun j hj => ?_, fun z hz => ?_⟩
  · unfold rch13
    rw [if_pos ha, Int.toNat_natCast]
  · unfold cms13
    rw [decide_eq_true ha, decide_eq_true (by omega), Int.toNat_natCast, Int.toNat_natCast]
    rfl
  · unfold cms13
    rw [decide_eq_true ha, decide_eq_false hz]
    rfl
theorem cms13_out {N : Nat} {l : List (Int × Int)} {a : Int} (ha : ¬ (0 ≤ a ∧ a < (N : Int))) : (rch13 N l a = []) ∧ ∀ z : Int, cms13 N l a z = false := by
  refine ⟨if_neg ha, fun z => ?_⟩
  unfold cms13
  rw [decide_eq_false ha]
  rfl

/-- What is known of the document's marks, once they are none where a is none. -/
structure Rk13 (N : Nat) (l : List (Int × Int)) (a : Int) (nr : Nat) (T : Nat → Bool) : Prop where
  all : all11 T nr = rch13 N l a
  at_ : ∀ j : Nat, j < nr → T j = cms13 N l a (j : Int)
  out : ∀ z : Int, ¬ (0 ≤ z ∧ z < (nr : Int)) → cms13 N l a z = false

set_option maxHeartbeats 2000000 in
theorem dagTells_alive (n a b : Int) (Ad : Option Addr) (m c : Nat) (w : World) (h : n < 0 ∨ 40 < n ∨ 80 < m) :
    Calls Try.prog 3 #[.int .i64 n, .slice Ad m c, .int .i64 a, .int .i64 b] w fun e w' => e = .returned (.bool true) ∧ Below w.heap.size w w' := by
  have HV := Lib.hid (alive13_any w)
  by_cases h1 : n < 0
  · clear h
    go_enter Try.func3, Try.ntmps3
    go_wp2_with fail
    refine HV.out.mono ?_
    rintro e w1 ⟨rfl, hb⟩
    go_wp2_with fail
    go_ret
    exact ⟨rfl, hb⟩
  · by_cases h2 : 40 < n
    · clear h
      go_enter Try.func3, Try.ntmps3
      go_wp2_with fail
      refine HV.out.mono ?_
      rintro e w1 ⟨rfl, hb⟩
      go_wp2_with fail
      go_ret
      exact ⟨rfl, hb⟩
    · have h3 : (80 : Int) < (m : Int) := by omega
      clear h
      go_enter Try.func3, Try.ntmps3
      go_wp2_with fail
      refine HV.out.mono ?_
      rintro e w1 ⟨rfl, hb⟩
      go_wp2_with fail
      go_ret
      exact ⟨rfl, hb⟩

set_option maxHeartbeats 8000000 in
theorem dagTells_walk (N : Nat) (a b : Int) (Ad : Option Addr) (l : List (Int × Int)) (m c : Nat) (w : World) (hl : l.length = m) (hr : Aq w w.heap.size Ad l) (hN : N ≤ 40) (hm : m ≤ 80) :
    Calls Try.prog 3 #[.int .i64 (N : Int), .slice Ad m c, .int .i64 a, .int .i64 b] w fun e w' => e = .returned (.bool true) ∧ Below w.heap.size w w' := by
  obtain ⟨os, hd⟩ := done13_ex (cut13 N l) N
  have hle := hd.1.len
  have HD := Lib.hid hd
  have HDX : Hid (∃ D : Nat → Nat, os.length = N → Dep13 (cut13 N l) D ∧ ∀ j, D j ≤ N) := Lib.hid (by
    by_cases h : os.length = N
    · obtain ⟨D, h1, h2⟩ := dep13_ex (fun p hp => cut13_lt hp) hd.1 h
      exact ⟨D, fun _ => ⟨h1, h2⟩⟩
    · exact ⟨fun _ => 0, fun h2 => absurd h2 h⟩)
  obtain ⟨D, hD⟩ := HDX.out
  have HDD := Lib.hid hD
  have HNN := Lib.hid (nn13_nat hN)
  have HL := Lib.hid hl
  have HA := Lib.hid hr
  have HC1 := Lib.hid (arrows13_any Ad l m c w hl hr (by omega))
  have HV := Lib.hid (fun W => alive13_any W)
  have n0 : ¬ (N : Int) < 0 := by omega
  have n1 : ¬ (40 : Int) < (N : Int) := by omega
  have m1 : ¬ (80 : Int) < (m : Int) := by omega
  clear hd hD hl hr
  go_enter Try.func3, Try.ntmps3
  go_wp2_with fail
  refine HC1.out.mono ?_
  rintro e w1 ⟨Ax, cx, rfl, hx, hb1⟩
  have HX := Lib.hid hx
  have HB := Lib.hid hb1
  have HC2 := Lib.hid (rreach13_any N Ax l m cx a w1 HL.out hx (by omega) (by omega))
  clear HC1 hx hb1
  go_wp2_with fail
  refine HC2.out.mono ?_
  rintro e w2 ⟨g, T0, rfl, hrv, hT, hb⟩
  have HX := Lib.hid (Rv.step HX.out hb)
  have HX : Hid (Aq w2 w2.heap.size Ax l) := HX
  have HB := Lib.hid (HB.out.trans (hb.mono HB.out.size))
  have HRV := Lib.hid hrv
  have HT := Lib.hid hT
  clear HC2 hrv hT hb
  obtain ⟨bb, hbb⟩ : ∃ q, (!decide (0 ≤ a ∧ a < (N : Int))) = q := ⟨_, rfl⟩
  have HBB := Lib.hid hbb
  clear hbb
  go_upto_region 5 with (fail)
  go_cut [40] (fun y wx => y = .bool bb ∧ wx = w2)
  case first =>
    by_cases ha0 : a < 0
    · obtain rfl : bb = true := by rw [← HBB.out, decide_eq_false (by omega)]; rfl
      go_wp2_with fail
      go_meet
      exact ⟨rfl, by first | trivial | rfl⟩
    · by_cases ha1 : (N : Int) ≤ a
      · obtain rfl : bb = true := by rw [← HBB.out, decide_eq_false (by omega)]; rfl
        go_wp2_with fail
        go_meet
        exact ⟨rfl, by first | trivial | rfl⟩
      · obtain rfl : bb = false := by rw [← HBB.out, decide_eq_true (by omega)]; rfl
        go_wp2_with fail
        go_meet
        exact ⟨rfl, by first | trivial | rfl⟩
  case rest =>
  obtain ⟨rfl, hwc⟩ := hcut
  subst hwc
  go_upto_if 40 with (fail)
  go_cut [10] (fun v wx => ∃ (Ar : Option Addr) (nr cr : Nat) (T : Nat → Bool), v = .slice Ar nr cr ∧ nr ≤ 40 ∧ Hid (Rv wx wx.heap.size Ar (bls T nr)) ∧ Hid (Rk13 N l a nr T) ∧ Hid (Aq wx wx.heap.size Ax l) ∧ Hid (Below w.heap.size w wx))
  case first =>
    cases bb with
    | true =>
      have HO := Lib.hid (cms13_out (N := N) (l := l) (a := a) (fun h => by have := HBB.out; rw [decide_eq_true h] at this; cases this))
      clear HBB
      go_wp2_with fail
      go_meet
      exact ⟨none, 0, 0, fun _ => false, rfl, by omega, Lib.hid (Rv.nil _ _ _), Lib.hid ⟨by rw [HO.out.1]; rfl, fun j hj => by omega, fun z _ => HO.out.2 z⟩, HX, HB⟩
    | false =>
      have HO := Lib.hid (cms13_in (N := N) (l := l) (a := a) (T := T0) (by
        refine Classical.byContradiction (fun h => ?_)
        have := HBB.out
        rw [decide_eq_false h] at this
        cases this) HT.out)
      clear HBB
      go_wp2_with fail
      go_meet
      exact ⟨some ⟨g, 0, none⟩, N, N, T0, rfl, hN, HRV, Lib.hid ⟨HO.out.1, HO.out.2.1, HO.out.2.2⟩, HX, HB⟩
  case rest =>
  rename World => wd
  obtain ⟨Ar, nr, cr, T, rfl, hnr, HRV, HRK, HX, HB⟩ := hcut
  clear HT HBB
  by_cases hf : os.length = N
  · by_cases hb0 : b < 0
    · skip
      have HA : Hid (Aq wd wd.heap.size Ad l) := Lib.hid (Rv.step HA.out HB.out)
      have hcc := rring13_any N Ax l m cx os wd HL.out HX.out (by omega) (by omega) HD.out
      rw [decide_eq_true hf] at hcc
      have HCC := Lib.hid hcc
      clear hcc
      go_wp2_with fail
      refine HCC.out.mono ?_
      rintro e v3 ⟨rfl, hb⟩
      have HA : Hid (Aq _ _ _ l) := Lib.hid (Rv.step HA.out hb)
      have HX : Hid (Aq _ _ _ l) := Lib.hid (Rv.step HX.out hb)
      have HRV := Lib.hid (Rv.step HRV.out hb)
      have HB := Lib.hid (HB.out.trans (hb.mono HB.out.size))
      clear HCC hb
      have hcc := dorder13_any (N : Int) N HNN.out Ad l m c os v3 HL.out HA.out (by omega) HD.out
      have HCC := Lib.hid hcc
      clear hcc
      go_wp2_with fail
      refine HCC.out.mono ?_
      rintro e v4 ⟨vo, rfl, ho, _, hb⟩
      have HA : Hid (Aq _ _ _ l) := Lib.hid (Rv.step HA.out hb)
      have HX : Hid (Aq _ _ _ l) := Lib.hid (Rv.step HX.out hb)
      have HRV := Lib.hid (Rv.step HRV.out hb)
      have HB := Lib.hid (HB.out.trans (hb.mono HB.out.size))
      obtain ⟨Ao, co, rfl, hown⟩ := ho hf
      rw [decide_eq_true hf]
      have HO := Lib.hid (Rd.of_own hown)
      clear hown ho
      clear HCC hb
      have hcc := ddepth13_any (N : Int) N HNN.out Ad l m c os D v4 HL.out HA.out (by omega) HD.out HDD.out
      have HCC := Lib.hid hcc
      clear hcc
      go_wp2_with fail
      refine HCC.out.mono ?_
      rintro e v5 ⟨vd, rfl, hdp, _, hb⟩
      have HA : Hid (Aq _ _ _ l) := Lib.hid (Rv.step HA.out hb)
      have HX : Hid (Aq _ _ _ l) := Lib.hid (Rv.step HX.out hb)
      have HRV := Lib.hid (Rv.step HRV.out hb)
      have HO := Lib.hid (Rd.step13 HO.out hb)
      have HB := Lib.hid (HB.out.trans (hb.mono HB.out.size))
      obtain ⟨Adp, cdp, rfl, hrd⟩ := hdp hf
      rw [decide_eq_true hf]
      have HDP := Lib.hid hrd
      clear hrd hdp
      clear HCC hb
      obtain ⟨ys, hys⟩ : ∃ ys, rch13 N l a = ys := ⟨_, rfl⟩
      have hysl : ys.length ≤ 40 := by rw [← hys, ← HRK.out.all]; exact Nat.le_trans (all11_len T nr) hnr
      have HYS := Lib.hid hys
      clear hys
      have hcc := dreach13_any (N : Int) N HNN.out Ad l m c a v5 HL.out HA.out (by omega)
      rw [HYS.out] at hcc
      have HCC := Lib.hid hcc
      clear hcc
      go_wp2_with fail
      refine HCC.out.mono ?_
      rintro e v6 ⟨A1, c1, rfl, ho1, hb⟩
      have HA : Hid (Aq _ _ _ l) := Lib.hid (Rv.step HA.out hb)
      have HX : Hid (Aq _ _ _ l) := Lib.hid (Rv.step HX.out hb)
      have HRV := Lib.hid (Rv.step HRV.out hb)
      have HO := Lib.hid (Rd.step13 HO.out hb)
      have HDP := Lib.hid (Rd.step13 HDP.out hb)
      have HB := Lib.hid (HB.out.trans (hb.mono HB.out.size))
      have HR1 := Lib.hid (Rd.of_own ho1)
      clear ho1
      clear HCC hb
      have hcc := rall11_any (c := cr) v6 HRV.out (by omega)
      rw [HRK.out.all, HYS.out] at hcc
      have HCC := Lib.hid hcc
      clear hcc
      go_wp2_with fail
      refine HCC.out.mono ?_
      rintro e v7 ⟨A2, c2, rfl, ho2, hb⟩
      have HA : Hid (Aq _ _ _ l) := Lib.hid (Rv.step HA.out hb)
      have HX : Hid (Aq _ _ _ l) := Lib.hid (Rv.step HX.out hb)
      have HRV := Lib.hid (Rv.step HRV.out hb)
      have HO := Lib.hid (Rd.step13 HO.out hb)
      have HDP := Lib.hid (Rd.step13 HDP.out hb)
      have HR1 := Lib.hid (Rd.step13 HR1.out hb)
      have HB := Lib.hid (HB.out.trans (hb.mono HB.out.size))
      have HR2 := Lib.hid (Rd.of_own ho2)
      clear ho2
      clear HCC hb
      have hcc := rints11_yes A1 A2 ys ys.length c1 c2 v7 rfl HR1.out HR2.out (by omega)
      have HCC := Lib.hid hcc
      clear hcc
      go_wp2_with fail
      refine HCC.out.mono ?_
      rintro e v8 ⟨rfl, hgg⟩
      have hb := grown7_below hgg
      clear hgg
      have HA : Hid (Aq _ _ _ l) := Lib.hid (Rv.step HA.out hb)
      have HX : Hid (Aq _ _ _ l) := Lib.hid (Rv.step HX.out hb)
      have HRV := Lib.hid (Rv.step HRV.out hb)
      have HO := Lib.hid (Rd.step13 HO.out hb)
      have HDP := Lib.hid (Rd.step13 HDP.out hb)
      have HR1 := Lib.hid (Rd.step13 HR1.out hb)
      have HR2 := Lib.hid (Rd.step13 HR2.out hb)
      have HB := Lib.hid (HB.out.trans (hb.mono HB.out.size))
      clear HCC hb
      have hz := HRK.out.out b (by omega)
      have HZ := Lib.hid hz
      clear hz
      have hcc := dcomes13_any (N : Int) N HNN.out Ad l m c a b v8 HL.out HA.out (by omega)
      rw [HZ.out] at hcc
      have HCC := Lib.hid hcc
      clear hcc
      go_wp2_with fail
      refine HCC.out.mono ?_
      rintro e v9 ⟨rfl, hb⟩
      have HA : Hid (Aq _ _ _ l) := Lib.hid (Rv.step HA.out hb)
      have HX : Hid (Aq _ _ _ l) := Lib.hid (Rv.step HX.out hb)
      have HRV := Lib.hid (Rv.step HRV.out hb)
      have HO := Lib.hid (Rd.step13 HO.out hb)
      have HDP := Lib.hid (Rd.step13 HDP.out hb)
      have HB := Lib.hid (HB.out.trans (hb.mono HB.out.size))
      clear HCC hb
      have hcc := dring13_any (N : Int) N HNN.out Ad l m c os v9 HL.out HA.out (by omega) HD.out
      rw [decide_eq_true hf] at hcc
      have HCC := Lib.hid hcc
      clear hcc
      go_wp2_with fail
      refine HCC.out.mono ?_
      rintro e v10 ⟨rfl, hb⟩
      have HA : Hid (Aq _ _ _ l) := Lib.hid (Rv.step HA.out hb)
      have HX : Hid (Aq _ _ _ l) := Lib.hid (Rv.step HX.out hb)
      have HRV := Lib.hid (Rv.step HRV.out hb)
      have HO := Lib.hid (Rd.step13 HO.out hb)
      have HDP := Lib.hid (Rd.step13 HDP.out hb)
      have HB := Lib.hid (HB.out.trans (hb.mono HB.out.size))
      clear HCC hb
      have hcc := rorder13_any N Ax l m cx os v10 HL.out HX.out (by omega) (by omega) HD.out hf
      have HCC := Lib.hid hcc
      clear hcc
      go_wp2_with fail
      refine HCC.out.mono ?_
      rintro e v11 ⟨A3, c3, rfl, ho3, hb⟩
      have HX : Hid (Aq _ _ _ l) := Lib.hid (Rv.step HX.out hb)
      have HO := Lib.hid (Rd.step13 HO.out hb)
      have HDP := Lib.hid (Rd.step13 HDP.out hb)
      have HB := Lib.hid (HB.out.trans (hb.mono HB.out.size))
      rw [hf] at ho3 ⊢
      have HR3 := Lib.hid (Rd.of_own ho3)
      clear ho3
      clear HCC hb
      have hcc := rints11_yes Ao A3 os N co c3 v11 hf HO.out HR3.out (by omega)
      have HCC := Lib.hid hcc
      clear hcc
      go_wp2_with fail
      refine HCC.out.mono ?_
      rintro e v12 ⟨rfl, hgg⟩
      have hb := grown7_below hgg
      clear hgg
      have HX : Hid (Aq _ _ _ l) := Lib.hid (Rv.step HX.out hb)
      have HO := Lib.hid (Rd.step13 HO.out hb)
      have HDP := Lib.hid (Rd.step13 HDP.out hb)
      have HR3 := Lib.hid (Rd.step13 HR3.out hb)
      have HB := Lib.hid (HB.out.trans (hb.mono HB.out.size))
      clear HCC hb
      have hcc := rdepth13_any N Ax l m cx D v12 HL.out HX.out (by omega) (by omega) (HDD.out hf).1 (HDD.out hf).2
      have HCC := Lib.hid hcc
      clear hcc
      go_wp2_with fail
      refine HCC.out.mono ?_
      rintro e v13 ⟨g4, rfl, hr4, hb⟩
      have HX : Hid (Aq _ _ _ l) := Lib.hid (Rv.step HX.out hb)
      have HDP := Lib.hid (Rd.step13 HDP.out hb)
      have HB := Lib.hid (HB.out.trans (hb.mono HB.out.size))
      have HR4 := Lib.hid hr4
      clear hr4
      clear HCC hb
      have hcc := rints11_yes Adp (some ⟨g4, 0, none⟩) (lst13 D N) N cdp N v13 (lst13_len _ _) HDP.out HR4.out (by omega)
      have HCC := Lib.hid hcc
      clear hcc
      go_wp2_with fail
      refine HCC.out.mono ?_
      rintro e v14 ⟨rfl, hgg⟩
      have hb := grown7_below hgg
      clear hgg
      have HX : Hid (Aq _ _ _ l) := Lib.hid (Rv.step HX.out hb)
      have HDP := Lib.hid (Rd.step13 HDP.out hb)
      have HR4 := Lib.hid (Rd.step13 HR4.out hb)
      have HB := Lib.hid (HB.out.trans (hb.mono HB.out.size))
      clear HCC hb
      have HCC := Lib.hid (HV.out v14)
      go_wp2_with fail
      refine HCC.out.mono ?_
      rintro e vz ⟨rfl, hb⟩
      have HB := Lib.hid (HB.out.trans (hb.mono HB.out.size))
      clear HCC hb
      go_wp2_with fail
      go_ret
      exact ⟨rfl, HB.out⟩
    · by_cases hb1 : b < (nr : Int)
      · skip
        have HA : Hid (Aq wd wd.heap.size Ad l) := Lib.hid (Rv.step HA.out HB.out)
        have hcc := rring13_any N Ax l m cx os wd HL.out HX.out (by omega) (by omega) HD.out
        rw [decide_eq_true hf] at hcc
        have HCC := Lib.hid hcc
        clear hcc
        go_wp2_with fail
        refine HCC.out.mono ?_
        rintro e v3 ⟨rfl, hb⟩
        have HA : Hid (Aq _ _ _ l) := Lib.hid (Rv.step HA.out hb)
        have HX : Hid (Aq _ _ _ l) := Lib.hid (Rv.step HX.out hb)
        have HRV := Lib.hid (Rv.step HRV.out hb)
        have HB := Lib.hid (HB.out.trans (hb.mono HB.out.size))
        clear HCC hb
        have hcc := dorder13_any (N : Int) N HNN.out Ad l m c os v3 HL.out HA.out (by omega) HD.out
        have HCC := Lib.hid hcc
        clear hcc
        go_wp2_with fail
        refine HCC.out.mono ?_
        rintro e v4 ⟨vo, rfl, ho, _, hb⟩
        have HA : Hid (Aq _ _ _ l) := Lib.hid (Rv.step HA.out hb)
        have HX : Hid (Aq _ _ _ l) := Lib.hid (Rv.step HX.out hb)
        have HRV := Lib.hid (Rv.step HRV.out hb)
        have HB := Lib.hid (HB.out.trans (hb.mono HB.out.size))
        obtain ⟨Ao, co, rfl, hown⟩ := ho hf
        rw [decide_eq_true hf]
        have HO := Lib.hid (Rd.of_own hown)
        clear hown ho
        clear HCC hb
        have hcc := ddepth13_any (N : Int) N HNN.out Ad l m c os D v4 HL.out HA.out (by omega) HD.out HDD.out
        have HCC := Lib.hid hcc
        clear hcc
        go_wp2_with fail
        refine HCC.out.mono ?_
        rintro e v5 ⟨vd, rfl, hdp, _, hb⟩
        have HA : Hid (Aq _ _ _ l) := Lib.hid (Rv.step HA.out hb)
        have HX : Hid (Aq _ _ _ l) := Lib.hid (Rv.step HX.out hb)
        have HRV := Lib.hid (Rv.step HRV.out hb)
        have HO := Lib.hid (Rd.step13 HO.out hb)
        have HB := Lib.hid (HB.out.trans (hb.mono HB.out.size))
        obtain ⟨Adp, cdp, rfl, hrd⟩ := hdp hf
        rw [decide_eq_true hf]
        have HDP := Lib.hid hrd
        clear hrd hdp
        clear HCC hb
        obtain ⟨ys, hys⟩ : ∃ ys, rch13 N l a = ys := ⟨_, rfl⟩
        have hysl : ys.length ≤ 40 := by rw [← hys, ← HRK.out.all]; exact Nat.le_trans (all11_len T nr) hnr
        have HYS := Lib.hid hys
        clear hys
        have hcc := dreach13_any (N : Int) N HNN.out Ad l m c a v5 HL.out HA.out (by omega)
        rw [HYS.out] at hcc
        have HCC := Lib.hid hcc
        clear hcc
        go_wp2_with fail
        refine HCC.out.mono ?_
        rintro e v6 ⟨A1, c1, rfl, ho1, hb⟩
        have HA : Hid (Aq _ _ _ l) := Lib.hid (Rv.step HA.out hb)
        have HX : Hid (Aq _ _ _ l) := Lib.hid (Rv.step HX.out hb)
        have HRV := Lib.hid (Rv.step HRV.out hb)
        have HO := Lib.hid (Rd.step13 HO.out hb)
        have HDP := Lib.hid (Rd.step13 HDP.out hb)
        have HB := Lib.hid (HB.out.trans (hb.mono HB.out.size))
        have HR1 := Lib.hid (Rd.of_own ho1)
        clear ho1
        clear HCC hb
        have hcc := rall11_any (c := cr) v6 HRV.out (by omega)
        rw [HRK.out.all, HYS.out] at hcc
        have HCC := Lib.hid hcc
        clear hcc
        go_wp2_with fail
        refine HCC.out.mono ?_
        rintro e v7 ⟨A2, c2, rfl, ho2, hb⟩
        have HA : Hid (Aq _ _ _ l) := Lib.hid (Rv.step HA.out hb)
        have HX : Hid (Aq _ _ _ l) := Lib.hid (Rv.step HX.out hb)
        have HRV := Lib.hid (Rv.step HRV.out hb)
        have HO := Lib.hid (Rd.step13 HO.out hb)
        have HDP := Lib.hid (Rd.step13 HDP.out hb)
        have HR1 := Lib.hid (Rd.step13 HR1.out hb)
        have HB := Lib.hid (HB.out.trans (hb.mono HB.out.size))
        have HR2 := Lib.hid (Rd.of_own ho2)
        clear ho2
        clear HCC hb
        have hcc := rints11_yes A1 A2 ys ys.length c1 c2 v7 rfl HR1.out HR2.out (by omega)
        have HCC := Lib.hid hcc
        clear hcc
        go_wp2_with fail
        refine HCC.out.mono ?_
        rintro e v8 ⟨rfl, hgg⟩
        have hb := grown7_below hgg
        clear hgg
        have HA : Hid (Aq _ _ _ l) := Lib.hid (Rv.step HA.out hb)
        have HX : Hid (Aq _ _ _ l) := Lib.hid (Rv.step HX.out hb)
        have HRV := Lib.hid (Rv.step HRV.out hb)
        have HO := Lib.hid (Rd.step13 HO.out hb)
        have HDP := Lib.hid (Rd.step13 HDP.out hb)
        have HR1 := Lib.hid (Rd.step13 HR1.out hb)
        have HR2 := Lib.hid (Rd.step13 HR2.out hb)
        have HB := Lib.hid (HB.out.trans (hb.mono HB.out.size))
        clear HCC hb
        obtain ⟨j, rfl⟩ : ∃ j : Nat, b = (j : Int) := ⟨b.toNat, by omega⟩
        have hjr : j < nr := by omega
        have hbj0 : (0 : Int) ≤ (j : Int) := by omega
        have hbj1 : (j : Int) < (nr : Int) := by omega
        obtain ⟨z, hz⟩ : ∃ z, cms13 N l a (j : Int) = z := ⟨_, rfl⟩
        have HTJ : Hid (T j = z) := Lib.hid (by rw [HRK.out.at_ j hjr]; exact hz)
        have HZ := Lib.hid hz
        clear hz
        have hcc := dcomes13_any (N : Int) N HNN.out Ad l m c a (j : Int) v8 HL.out HA.out (by omega)
        rw [HZ.out] at hcc
        have HCC := Lib.hid hcc
        clear hcc
        go_wp2_with fail
        refine HCC.out.mono ?_
        rintro e v9 ⟨rfl, hb⟩
        have HA : Hid (Aq _ _ _ l) := Lib.hid (Rv.step HA.out hb)
        have HX : Hid (Aq _ _ _ l) := Lib.hid (Rv.step HX.out hb)
        have HRV := Lib.hid (Rv.step HRV.out hb)
        have HO := Lib.hid (Rd.step13 HO.out hb)
        have HDP := Lib.hid (Rd.step13 HDP.out hb)
        have HB := Lib.hid (HB.out.trans (hb.mono HB.out.size))
        clear HCC hb
        obtain ⟨ar, orr, hAr, _, car⟩ := bls_at HRV.out hjr
        subst hAr
        rw [HTJ.out] at car
        have hcc := dring13_any (N : Int) N HNN.out Ad l m c os v9 HL.out HA.out (by omega) HD.out
        rw [decide_eq_true hf] at hcc
        have HCC := Lib.hid hcc
        clear hcc
        go_wp2_with fail
        refine HCC.out.mono ?_
        rintro e v10 ⟨rfl, hb⟩
        have HA : Hid (Aq _ _ _ l) := Lib.hid (Rv.step HA.out hb)
        have HX : Hid (Aq _ _ _ l) := Lib.hid (Rv.step HX.out hb)
        have HRV := Lib.hid (Rv.step HRV.out hb)
        have HO := Lib.hid (Rd.step13 HO.out hb)
        have HDP := Lib.hid (Rd.step13 HDP.out hb)
        have HB := Lib.hid (HB.out.trans (hb.mono HB.out.size))
        clear HCC hb
        have hcc := rorder13_any N Ax l m cx os v10 HL.out HX.out (by omega) (by omega) HD.out hf
        have HCC := Lib.hid hcc
        clear hcc
        go_wp2_with fail
        refine HCC.out.mono ?_
        rintro e v11 ⟨A3, c3, rfl, ho3, hb⟩
        have HX : Hid (Aq _ _ _ l) := Lib.hid (Rv.step HX.out hb)
        have HO := Lib.hid (Rd.step13 HO.out hb)
        have HDP := Lib.hid (Rd.step13 HDP.out hb)
        have HB := Lib.hid (HB.out.trans (hb.mono HB.out.size))
        rw [hf] at ho3 ⊢
        have HR3 := Lib.hid (Rd.of_own ho3)
        clear ho3
        clear HCC hb
        have hcc := rints11_yes Ao A3 os N co c3 v11 hf HO.out HR3.out (by omega)
        have HCC := Lib.hid hcc
        clear hcc
        go_wp2_with fail
        refine HCC.out.mono ?_
        rintro e v12 ⟨rfl, hgg⟩
        have hb := grown7_below hgg
        clear hgg
        have HX : Hid (Aq _ _ _ l) := Lib.hid (Rv.step HX.out hb)
        have HO := Lib.hid (Rd.step13 HO.out hb)
        have HDP := Lib.hid (Rd.step13 HDP.out hb)
        have HR3 := Lib.hid (Rd.step13 HR3.out hb)
        have HB := Lib.hid (HB.out.trans (hb.mono HB.out.size))
        clear HCC hb
        have hcc := rdepth13_any N Ax l m cx D v12 HL.out HX.out (by omega) (by omega) (HDD.out hf).1 (HDD.out hf).2
        have HCC := Lib.hid hcc
        clear hcc
        go_wp2_with fail
        refine HCC.out.mono ?_
        rintro e v13 ⟨g4, rfl, hr4, hb⟩
        have HX : Hid (Aq _ _ _ l) := Lib.hid (Rv.step HX.out hb)
        have HDP := Lib.hid (Rd.step13 HDP.out hb)
        have HB := Lib.hid (HB.out.trans (hb.mono HB.out.size))
        have HR4 := Lib.hid hr4
        clear hr4
        clear HCC hb
        have hcc := rints11_yes Adp (some ⟨g4, 0, none⟩) (lst13 D N) N cdp N v13 (lst13_len _ _) HDP.out HR4.out (by omega)
        have HCC := Lib.hid hcc
        clear hcc
        go_wp2_with fail
        refine HCC.out.mono ?_
        rintro e v14 ⟨rfl, hgg⟩
        have hb := grown7_below hgg
        clear hgg
        have HX : Hid (Aq _ _ _ l) := Lib.hid (Rv.step HX.out hb)
        have HDP := Lib.hid (Rd.step13 HDP.out hb)
        have HR4 := Lib.hid (Rd.step13 HR4.out hb)
        have HB := Lib.hid (HB.out.trans (hb.mono HB.out.size))
        clear HCC hb
        have HCC := Lib.hid (HV.out v14)
        go_wp2_with fail
        refine HCC.out.mono ?_
        rintro e vz ⟨rfl, hb⟩
        have HB := Lib.hid (HB.out.trans (hb.mono HB.out.size))
        clear HCC hb
        go_wp2_with fail
        go_ret
        exact ⟨rfl, HB.out⟩
      · skip
        have HA : Hid (Aq wd wd.heap.size Ad l) := Lib.hid (Rv.step HA.out HB.out)
        have hcc := rring13_any N Ax l m cx os wd HL.out HX.out (by omega) (by omega) HD.out
        rw [decide_eq_true hf] at hcc
        have HCC := Lib.hid hcc
        clear hcc
        go_wp2_with fail
        refine HCC.out.mono ?_
        rintro e v3 ⟨rfl, hb⟩
        have HA : Hid (Aq _ _ _ l) := Lib.hid (Rv.step HA.out hb)
        have HX : Hid (Aq _ _ _ l) := Lib.hid (Rv.step HX.out hb)
        have HRV := Lib.hid (Rv.step HRV.out hb)
        have HB := Lib.hid (HB.out.trans (hb.mono HB.out.size))
        clear HCC hb
        have hcc := dorder13_any (N : Int) N HNN.out Ad l m c os v3 HL.out HA.out (by omega) HD.out
        have HCC := Lib.hid hcc
        clear hcc
        go_wp2_with fail
        refine HCC.out.mono ?_
        rintro e v4 ⟨vo, rfl, ho, _, hb⟩
        have HA : Hid (Aq _ _ _ l) := Lib.hid (Rv.step HA.out hb)
        have HX : Hid (Aq _ _ _ l) := Lib.hid (Rv.step HX.out hb)
        have HRV := Lib.hid (Rv.step HRV.out hb)
        have HB := Lib.hid (HB.out.trans (hb.mono HB.out.size))
        obtain ⟨Ao, co, rfl, hown⟩ := ho hf
        rw [decide_eq_true hf]
        have HO := Lib.hid (Rd.of_own hown)
        clear hown ho
        clear HCC hb
        have hcc := ddepth13_any (N : Int) N HNN.out Ad l m c os D v4 HL.out HA.out (by omega) HD.out HDD.out
        have HCC := Lib.hid hcc
        clear hcc
        go_wp2_with fail
        refine HCC.out.mono ?_
        rintro e v5 ⟨vd, rfl, hdp, _, hb⟩
        have HA : Hid (Aq _ _ _ l) := Lib.hid (Rv.step HA.out hb)
        have HX : Hid (Aq _ _ _ l) := Lib.hid (Rv.step HX.out hb)
        have HRV := Lib.hid (Rv.step HRV.out hb)
        have HO := Lib.hid (Rd.step13 HO.out hb)
        have HB := Lib.hid (HB.out.trans (hb.mono HB.out.size))
        obtain ⟨Adp, cdp, rfl, hrd⟩ := hdp hf
        rw [decide_eq_true hf]
        have HDP := Lib.hid hrd
        clear hrd hdp
        clear HCC hb
        obtain ⟨ys, hys⟩ : ∃ ys, rch13 N l a = ys := ⟨_, rfl⟩
        have hysl : ys.length ≤ 40 := by rw [← hys, ← HRK.out.all]; exact Nat.le_trans (all11_len T nr) hnr
        have HYS := Lib.hid hys
        clear hys
        have hcc := dreach13_any (N : Int) N HNN.out Ad l m c a v5 HL.out HA.out (by omega)
        rw [HYS.out] at hcc
        have HCC := Lib.hid hcc
        clear hcc
        go_wp2_with fail
        refine HCC.out.mono ?_
        rintro e v6 ⟨A1, c1, rfl, ho1, hb⟩
        have HA : Hid (Aq _ _ _ l) := Lib.hid (Rv.step HA.out hb)
        have HX : Hid (Aq _ _ _ l) := Lib.hid (Rv.step HX.out hb)
        have HRV := Lib.hid (Rv.step HRV.out hb)
        have HO := Lib.hid (Rd.step13 HO.out hb)
        have HDP := Lib.hid (Rd.step13 HDP.out hb)
        have HB := Lib.hid (HB.out.trans (hb.mono HB.out.size))
        have HR1 := Lib.hid (Rd.of_own ho1)
        clear ho1
        clear HCC hb
        have hcc := rall11_any (c := cr) v6 HRV.out (by omega)
        rw [HRK.out.all, HYS.out] at hcc
        have HCC := Lib.hid hcc
        clear hcc
        go_wp2_with fail
        refine HCC.out.mono ?_
        rintro e v7 ⟨A2, c2, rfl, ho2, hb⟩
        have HA : Hid (Aq _ _ _ l) := Lib.hid (Rv.step HA.out hb)
        have HX : Hid (Aq _ _ _ l) := Lib.hid (Rv.step HX.out hb)
        have HRV := Lib.hid (Rv.step HRV.out hb)
        have HO := Lib.hid (Rd.step13 HO.out hb)
        have HDP := Lib.hid (Rd.step13 HDP.out hb)
        have HR1 := Lib.hid (Rd.step13 HR1.out hb)
        have HB := Lib.hid (HB.out.trans (hb.mono HB.out.size))
        have HR2 := Lib.hid (Rd.of_own ho2)
        clear ho2
        clear HCC hb
        have hcc := rints11_yes A1 A2 ys ys.length c1 c2 v7 rfl HR1.out HR2.out (by omega)
        have HCC := Lib.hid hcc
        clear hcc
        go_wp2_with fail
        refine HCC.out.mono ?_
        rintro e v8 ⟨rfl, hgg⟩
        have hb := grown7_below hgg
        clear hgg
        have HA : Hid (Aq _ _ _ l) := Lib.hid (Rv.step HA.out hb)
        have HX : Hid (Aq _ _ _ l) := Lib.hid (Rv.step HX.out hb)
        have HRV := Lib.hid (Rv.step HRV.out hb)
        have HO := Lib.hid (Rd.step13 HO.out hb)
        have HDP := Lib.hid (Rd.step13 HDP.out hb)
        have HR1 := Lib.hid (Rd.step13 HR1.out hb)
        have HR2 := Lib.hid (Rd.step13 HR2.out hb)
        have HB := Lib.hid (HB.out.trans (hb.mono HB.out.size))
        clear HCC hb
        have hz := HRK.out.out b (by omega)
        have HZ := Lib.hid hz
        clear hz
        have hcc := dcomes13_any (N : Int) N HNN.out Ad l m c a b v8 HL.out HA.out (by omega)
        rw [HZ.out] at hcc
        have HCC := Lib.hid hcc
        clear hcc
        go_wp2_with fail
        refine HCC.out.mono ?_
        rintro e v9 ⟨rfl, hb⟩
        have HA : Hid (Aq _ _ _ l) := Lib.hid (Rv.step HA.out hb)
        have HX : Hid (Aq _ _ _ l) := Lib.hid (Rv.step HX.out hb)
        have HRV := Lib.hid (Rv.step HRV.out hb)
        have HO := Lib.hid (Rd.step13 HO.out hb)
        have HDP := Lib.hid (Rd.step13 HDP.out hb)
        have HB := Lib.hid (HB.out.trans (hb.mono HB.out.size))
        clear HCC hb
        have hcc := dring13_any (N : Int) N HNN.out Ad l m c os v9 HL.out HA.out (by omega) HD.out
        rw [decide_eq_true hf] at hcc
        have HCC := Lib.hid hcc
        clear hcc
        go_wp2_with fail
        refine HCC.out.mono ?_
        rintro e v10 ⟨rfl, hb⟩
        have HA : Hid (Aq _ _ _ l) := Lib.hid (Rv.step HA.out hb)
        have HX : Hid (Aq _ _ _ l) := Lib.hid (Rv.step HX.out hb)
        have HRV := Lib.hid (Rv.step HRV.out hb)
        have HO := Lib.hid (Rd.step13 HO.out hb)
        have HDP := Lib.hid (Rd.step13 HDP.out hb)
        have HB := Lib.hid (HB.out.trans (hb.mono HB.out.size))
        clear HCC hb
        have hcc := rorder13_any N Ax l m cx os v10 HL.out HX.out (by omega) (by omega) HD.out hf
        have HCC := Lib.hid hcc
        clear hcc
        go_wp2_with fail
        refine HCC.out.mono ?_
        rintro e v11 ⟨A3, c3, rfl, ho3, hb⟩
        have HX : Hid (Aq _ _ _ l) := Lib.hid (Rv.step HX.out hb)
        have HO := Lib.hid (Rd.step13 HO.out hb)
        have HDP := Lib.hid (Rd.step13 HDP.out hb)
        have HB := Lib.hid (HB.out.trans (hb.mono HB.out.size))
        rw [hf] at ho3 ⊢
        have HR3 := Lib.hid (Rd.of_own ho3)
        clear ho3
        clear HCC hb
        have hcc := rints11_yes Ao A3 os N co c3 v11 hf HO.out HR3.out (by omega)
        have HCC := Lib.hid hcc
        clear hcc
        go_wp2_with fail
        refine HCC.out.mono ?_
        rintro e v12 ⟨rfl, hgg⟩
        have hb := grown7_below hgg
        clear hgg
        have HX : Hid (Aq _ _ _ l) := Lib.hid (Rv.step HX.out hb)
        have HO := Lib.hid (Rd.step13 HO.out hb)
        have HDP := Lib.hid (Rd.step13 HDP.out hb)
        have HR3 := Lib.hid (Rd.step13 HR3.out hb)
        have HB := Lib.hid (HB.out.trans (hb.mono HB.out.size))
        clear HCC hb
        have hcc := rdepth13_any N Ax l m cx D v12 HL.out HX.out (by omega) (by omega) (HDD.out hf).1 (HDD.out hf).2
        have HCC := Lib.hid hcc
        clear hcc
        go_wp2_with fail
        refine HCC.out.mono ?_
        rintro e v13 ⟨g4, rfl, hr4, hb⟩
        have HX : Hid (Aq _ _ _ l) := Lib.hid (Rv.step HX.out hb)
        have HDP := Lib.hid (Rd.step13 HDP.out hb)
        have HB := Lib.hid (HB.out.trans (hb.mono HB.out.size))
        have HR4 := Lib.hid hr4
        clear hr4
        clear HCC hb
        have hcc := rints11_yes Adp (some ⟨g4, 0, none⟩) (lst13 D N) N cdp N v13 (lst13_len _ _) HDP.out HR4.out (by omega)
        have HCC := Lib.hid hcc
        clear hcc
        go_wp2_with fail
        refine HCC.out.mono ?_
        rintro e v14 ⟨rfl, hgg⟩
        have hb := grown7_below hgg
        clear hgg
        have HX : Hid (Aq _ _ _ l) := Lib.hid (Rv.step HX.out hb)
        have HDP := Lib.hid (Rd.step13 HDP.out hb)
        have HR4 := Lib.hid (Rd.step13 HR4.out hb)
        have HB := Lib.hid (HB.out.trans (hb.mono HB.out.size))
        clear HCC hb
        have HCC := Lib.hid (HV.out v14)
        go_wp2_with fail
        refine HCC.out.mono ?_
        rintro e vz ⟨rfl, hb⟩
        have HB := Lib.hid (HB.out.trans (hb.mono HB.out.size))
        clear HCC hb
        go_wp2_with fail
        go_ret
        exact ⟨rfl, HB.out⟩
  · by_cases hb0 : b < 0
    · skip
      have HA : Hid (Aq wd wd.heap.size Ad l) := Lib.hid (Rv.step HA.out HB.out)
      have hcc := rring13_any N Ax l m cx os wd HL.out HX.out (by omega) (by omega) HD.out
      rw [decide_eq_false hf] at hcc
      have HCC := Lib.hid hcc
      clear hcc
      go_wp2_with fail
      refine HCC.out.mono ?_
      rintro e v3 ⟨rfl, hb⟩
      have HA : Hid (Aq _ _ _ l) := Lib.hid (Rv.step HA.out hb)
      have HX : Hid (Aq _ _ _ l) := Lib.hid (Rv.step HX.out hb)
      have HRV := Lib.hid (Rv.step HRV.out hb)
      have HB := Lib.hid (HB.out.trans (hb.mono HB.out.size))
      clear HCC hb
      have hcc := dorder13_any (N : Int) N HNN.out Ad l m c os v3 HL.out HA.out (by omega) HD.out
      have HCC := Lib.hid hcc
      clear hcc
      go_wp2_with fail
      refine HCC.out.mono ?_
      rintro e v4 ⟨vo, rfl, _, ho, hb⟩
      have HA : Hid (Aq _ _ _ l) := Lib.hid (Rv.step HA.out hb)
      have HX : Hid (Aq _ _ _ l) := Lib.hid (Rv.step HX.out hb)
      have HRV := Lib.hid (Rv.step HRV.out hb)
      have HB := Lib.hid (HB.out.trans (hb.mono HB.out.size))
      obtain rfl := ho hf
      rw [decide_eq_false hf]
      clear HCC hb
      have hcc := ddepth13_any (N : Int) N HNN.out Ad l m c os D v4 HL.out HA.out (by omega) HD.out HDD.out
      have HCC := Lib.hid hcc
      clear hcc
      go_wp2_with fail
      refine HCC.out.mono ?_
      rintro e v5 ⟨vd, rfl, _, hdp, hb⟩
      have HA : Hid (Aq _ _ _ l) := Lib.hid (Rv.step HA.out hb)
      have HX : Hid (Aq _ _ _ l) := Lib.hid (Rv.step HX.out hb)
      have HRV := Lib.hid (Rv.step HRV.out hb)
      have HB := Lib.hid (HB.out.trans (hb.mono HB.out.size))
      obtain rfl := hdp hf
      rw [decide_eq_false hf]
      clear HCC hb
      obtain ⟨ys, hys⟩ : ∃ ys, rch13 N l a = ys := ⟨_, rfl⟩
      have hysl : ys.length ≤ 40 := by rw [← hys, ← HRK.out.all]; exact Nat.le_trans (all11_len T nr) hnr
      have HYS := Lib.hid hys
      clear hys
      have hcc := dreach13_any (N : Int) N HNN.out Ad l m c a v5 HL.out HA.out (by omega)
      rw [HYS.out] at hcc
      have HCC := Lib.hid hcc
      clear hcc
      go_wp2_with fail
      refine HCC.out.mono ?_
      rintro e v6 ⟨A1, c1, rfl, ho1, hb⟩
      have HA : Hid (Aq _ _ _ l) := Lib.hid (Rv.step HA.out hb)
      have HX : Hid (Aq _ _ _ l) := Lib.hid (Rv.step HX.out hb)
      have HRV := Lib.hid (Rv.step HRV.out hb)
      have HB := Lib.hid (HB.out.trans (hb.mono HB.out.size))
      have HR1 := Lib.hid (Rd.of_own ho1)
      clear ho1
      clear HCC hb
      have hcc := rall11_any (c := cr) v6 HRV.out (by omega)
      rw [HRK.out.all, HYS.out] at hcc
      have HCC := Lib.hid hcc
      clear hcc
      go_wp2_with fail
      refine HCC.out.mono ?_
      rintro e v7 ⟨A2, c2, rfl, ho2, hb⟩
      have HA : Hid (Aq _ _ _ l) := Lib.hid (Rv.step HA.out hb)
      have HX : Hid (Aq _ _ _ l) := Lib.hid (Rv.step HX.out hb)
      have HRV := Lib.hid (Rv.step HRV.out hb)
      have HR1 := Lib.hid (Rd.step13 HR1.out hb)
      have HB := Lib.hid (HB.out.trans (hb.mono HB.out.size))
      have HR2 := Lib.hid (Rd.of_own ho2)
      clear ho2
      clear HCC hb
      have hcc := rints11_yes A1 A2 ys ys.length c1 c2 v7 rfl HR1.out HR2.out (by omega)
      have HCC := Lib.hid hcc
      clear hcc
      go_wp2_with fail
      refine HCC.out.mono ?_
      rintro e v8 ⟨rfl, hgg⟩
      have hb := grown7_below hgg
      clear hgg
      have HA : Hid (Aq _ _ _ l) := Lib.hid (Rv.step HA.out hb)
      have HX : Hid (Aq _ _ _ l) := Lib.hid (Rv.step HX.out hb)
      have HRV := Lib.hid (Rv.step HRV.out hb)
      have HR1 := Lib.hid (Rd.step13 HR1.out hb)
      have HR2 := Lib.hid (Rd.step13 HR2.out hb)
      have HB := Lib.hid (HB.out.trans (hb.mono HB.out.size))
      clear HCC hb
      have hz := HRK.out.out b (by omega)
      have HZ := Lib.hid hz
      clear hz
      have hcc := dcomes13_any (N : Int) N HNN.out Ad l m c a b v8 HL.out HA.out (by omega)
      rw [HZ.out] at hcc
      have HCC := Lib.hid hcc
      clear hcc
      go_wp2_with fail
      refine HCC.out.mono ?_
      rintro e v9 ⟨rfl, hb⟩
      have HA : Hid (Aq _ _ _ l) := Lib.hid (Rv.step HA.out hb)
      have HX : Hid (Aq _ _ _ l) := Lib.hid (Rv.step HX.out hb)
      have HRV := Lib.hid (Rv.step HRV.out hb)
      have HB := Lib.hid (HB.out.trans (hb.mono HB.out.size))
      clear HCC hb
      have hcc := dring13_any (N : Int) N HNN.out Ad l m c os v9 HL.out HA.out (by omega) HD.out
      rw [decide_eq_false hf] at hcc
      have HCC := Lib.hid hcc
      clear hcc
      go_wp2_with fail
      refine HCC.out.mono ?_
      rintro e v10 ⟨rfl, hb⟩
      have HA : Hid (Aq _ _ _ l) := Lib.hid (Rv.step HA.out hb)
      have HX : Hid (Aq _ _ _ l) := Lib.hid (Rv.step HX.out hb)
      have HRV := Lib.hid (Rv.step HRV.out hb)
      have HB := Lib.hid (HB.out.trans (hb.mono HB.out.size))
      clear HCC hb
      have HCC := Lib.hid (HV.out v10)
      go_wp2_with fail
      refine HCC.out.mono ?_
      rintro e vz ⟨rfl, hb⟩
      have HB := Lib.hid (HB.out.trans (hb.mono HB.out.size))
      clear HCC hb
      go_wp2_with fail
      go_ret
      exact ⟨rfl, HB.out⟩
    · by_cases hb1 : b < (nr : Int)
      · skip
        have HA : Hid (Aq wd wd.heap.size Ad l) := Lib.hid (Rv.step HA.out HB.out)
        have hcc := rring13_any N Ax l m cx os wd HL.out HX.out (by omega) (by omega) HD.out
        rw [decide_eq_false hf] at hcc
        have HCC := Lib.hid hcc
        clear hcc
        go_wp2_with fail
        refine HCC.out.mono ?_
        rintro e v3 ⟨rfl, hb⟩
        have HA : Hid (Aq _ _ _ l) := Lib.hid (Rv.step HA.out hb)
        have HX : Hid (Aq _ _ _ l) := Lib.hid (Rv.step HX.out hb)
        have HRV := Lib.hid (Rv.step HRV.out hb)
        have HB := Lib.hid (HB.out.trans (hb.mono HB.out.size))
        clear HCC hb
        have hcc := dorder13_any (N : Int) N HNN.out Ad l m c os v3 HL.out HA.out (by omega) HD.out
        have HCC := Lib.hid hcc
        clear hcc
        go_wp2_with fail
        refine HCC.out.mono ?_
        rintro e v4 ⟨vo, rfl, _, ho, hb⟩
        have HA : Hid (Aq _ _ _ l) := Lib.hid (Rv.step HA.out hb)
        have HX : Hid (Aq _ _ _ l) := Lib.hid (Rv.step HX.out hb)
        have HRV := Lib.hid (Rv.step HRV.out hb)
        have HB := Lib.hid (HB.out.trans (hb.mono HB.out.size))
        obtain rfl := ho hf
        rw [decide_eq_false hf]
        clear HCC hb
        have hcc := ddepth13_any (N : Int) N HNN.out Ad l m c os D v4 HL.out HA.out (by omega) HD.out HDD.out
        have HCC := Lib.hid hcc
        clear hcc
        go_wp2_with fail
        refine HCC.out.mono ?_
        rintro e v5 ⟨vd, rfl, _, hdp, hb⟩
        have HA : Hid (Aq _ _ _ l) := Lib.hid (Rv.step HA.out hb)
        have HX : Hid (Aq _ _ _ l) := Lib.hid (Rv.step HX.out hb)
        have HRV := Lib.hid (Rv.step HRV.out hb)
        have HB := Lib.hid (HB.out.trans (hb.mono HB.out.size))
        obtain rfl := hdp hf
        rw [decide_eq_false hf]
        clear HCC hb
        obtain ⟨ys, hys⟩ : ∃ ys, rch13 N l a = ys := ⟨_, rfl⟩
        have hysl : ys.length ≤ 40 := by rw [← hys, ← HRK.out.all]; exact Nat.le_trans (all11_len T nr) hnr
        have HYS := Lib.hid hys
        clear hys
        have hcc := dreach13_any (N : Int) N HNN.out Ad l m c a v5 HL.out HA.out (by omega)
        rw [HYS.out] at hcc
        have HCC := Lib.hid hcc
        clear hcc
        go_wp2_with fail
        refine HCC.out.mono ?_
        rintro e v6 ⟨A1, c1, rfl, ho1, hb⟩
        have HA : Hid (Aq _ _ _ l) := Lib.hid (Rv.step HA.out hb)
        have HX : Hid (Aq _ _ _ l) := Lib.hid (Rv.step HX.out hb)
        have HRV := Lib.hid (Rv.step HRV.out hb)
        have HB := Lib.hid (HB.out.trans (hb.mono HB.out.size))
        have HR1 := Lib.hid (Rd.of_own ho1)
        clear ho1
        clear HCC hb
        have hcc := rall11_any (c := cr) v6 HRV.out (by omega)
        rw [HRK.out.all, HYS.out] at hcc
        have HCC := Lib.hid hcc
        clear hcc
        go_wp2_with fail
        refine HCC.out.mono ?_
        rintro e v7 ⟨A2, c2, rfl, ho2, hb⟩
        have HA : Hid (Aq _ _ _ l) := Lib.hid (Rv.step HA.out hb)
        have HX : Hid (Aq _ _ _ l) := Lib.hid (Rv.step HX.out hb)
        have HRV := Lib.hid (Rv.step HRV.out hb)
        have HR1 := Lib.hid (Rd.step13 HR1.out hb)
        have HB := Lib.hid (HB.out.trans (hb.mono HB.out.size))
        have HR2 := Lib.hid (Rd.of_own ho2)
        clear ho2
        clear HCC hb
        have hcc := rints11_yes A1 A2 ys ys.length c1 c2 v7 rfl HR1.out HR2.out (by omega)
        have HCC := Lib.hid hcc
        clear hcc
        go_wp2_with fail
        refine HCC.out.mono ?_
        rintro e v8 ⟨rfl, hgg⟩
        have hb := grown7_below hgg
        clear hgg
        have HA : Hid (Aq _ _ _ l) := Lib.hid (Rv.step HA.out hb)
        have HX : Hid (Aq _ _ _ l) := Lib.hid (Rv.step HX.out hb)
        have HRV := Lib.hid (Rv.step HRV.out hb)
        have HR1 := Lib.hid (Rd.step13 HR1.out hb)
        have HR2 := Lib.hid (Rd.step13 HR2.out hb)
        have HB := Lib.hid (HB.out.trans (hb.mono HB.out.size))
        clear HCC hb
        obtain ⟨j, rfl⟩ : ∃ j : Nat, b = (j : Int) := ⟨b.toNat, by omega⟩
        have hjr : j < nr := by omega
        have hbj0 : (0 : Int) ≤ (j : Int) := by omega
        have hbj1 : (j : Int) < (nr : Int) := by omega
        obtain ⟨z, hz⟩ : ∃ z, cms13 N l a (j : Int) = z := ⟨_, rfl⟩
        have HTJ : Hid (T j = z) := Lib.hid (by rw [HRK.out.at_ j hjr]; exact hz)
        have HZ := Lib.hid hz
        clear hz
        have hcc := dcomes13_any (N : Int) N HNN.out Ad l m c a (j : Int) v8 HL.out HA.out (by omega)
        rw [HZ.out] at hcc
        have HCC := Lib.hid hcc
        clear hcc
        go_wp2_with fail
        refine HCC.out.mono ?_
        rintro e v9 ⟨rfl, hb⟩
        have HA : Hid (Aq _ _ _ l) := Lib.hid (Rv.step HA.out hb)
        have HX : Hid (Aq _ _ _ l) := Lib.hid (Rv.step HX.out hb)
        have HRV := Lib.hid (Rv.step HRV.out hb)
        have HB := Lib.hid (HB.out.trans (hb.mono HB.out.size))
        clear HCC hb
        obtain ⟨ar, orr, hAr, _, car⟩ := bls_at HRV.out hjr
        subst hAr
        rw [HTJ.out] at car
        have hcc := dring13_any (N : Int) N HNN.out Ad l m c os v9 HL.out HA.out (by omega) HD.out
        rw [decide_eq_false hf] at hcc
        have HCC := Lib.hid hcc
        clear hcc
        go_wp2_with fail
        refine HCC.out.mono ?_
        rintro e v10 ⟨rfl, hb⟩
        have HA : Hid (Aq _ _ _ l) := Lib.hid (Rv.step HA.out hb)
        have HX : Hid (Aq _ _ _ l) := Lib.hid (Rv.step HX.out hb)
        have HRV := Lib.hid (Rv.step HRV.out hb)
        have HB := Lib.hid (HB.out.trans (hb.mono HB.out.size))
        clear HCC hb
        have HCC := Lib.hid (HV.out v10)
        go_wp2_with fail
        refine HCC.out.mono ?_
        rintro e vz ⟨rfl, hb⟩
        have HB := Lib.hid (HB.out.trans (hb.mono HB.out.size))
        clear HCC hb
        go_wp2_with fail
        go_ret
        exact ⟨rfl, HB.out⟩
      · skip
        have HA : Hid (Aq wd wd.heap.size Ad l) := Lib.hid (Rv.step HA.out HB.out)
        have hcc := rring13_any N Ax l m cx os wd HL.out HX.out (by omega) (by omega) HD.out
        rw [decide_eq_false hf] at hcc
        have HCC := Lib.hid hcc
        clear hcc
        go_wp2_with fail
        refine HCC.out.mono ?_
        rintro e v3 ⟨rfl, hb⟩
        have HA : Hid (Aq _ _ _ l) := Lib.hid (Rv.step HA.out hb)
        have HX : Hid (Aq _ _ _ l) := Lib.hid (Rv.step HX.out hb)
        have HRV := Lib.hid (Rv.step HRV.out hb)
        have HB := Lib.hid (HB.out.trans (hb.mono HB.out.size))
        clear HCC hb
        have hcc := dorder13_any (N : Int) N HNN.out Ad l m c os v3 HL.out HA.out (by omega) HD.out
        have HCC := Lib.hid hcc
        clear hcc
        go_wp2_with fail
        refine HCC.out.mono ?_
        rintro e v4 ⟨vo, rfl, _, ho, hb⟩
        have HA : Hid (Aq _ _ _ l) := Lib.hid (Rv.step HA.out hb)
        have HX : Hid (Aq _ _ _ l) := Lib.hid (Rv.step HX.out hb)
        have HRV := Lib.hid (Rv.step HRV.out hb)
        have HB := Lib.hid (HB.out.trans (hb.mono HB.out.size))
        obtain rfl := ho hf
        rw [decide_eq_false hf]
        clear HCC hb
        have hcc := ddepth13_any (N : Int) N HNN.out Ad l m c os D v4 HL.out HA.out (by omega) HD.out HDD.out
        have HCC := Lib.hid hcc
        clear hcc
        go_wp2_with fail
        refine HCC.out.mono ?_
        rintro e v5 ⟨vd, rfl, _, hdp, hb⟩
        have HA : Hid (Aq _ _ _ l) := Lib.hid (Rv.step HA.out hb)
        have HX : Hid (Aq _ _ _ l) := Lib.hid (Rv.step HX.out hb)
        have HRV := Lib.hid (Rv.step HRV.out hb)
        have HB := Lib.hid (HB.out.trans (hb.mono HB.out.size))
        obtain rfl := hdp hf
        rw [decide_eq_false hf]
        clear HCC hb
        obtain ⟨ys, hys⟩ : ∃ ys, rch13 N l a = ys := ⟨_, rfl⟩
        have hysl : ys.length ≤ 40 := by rw [← hys, ← HRK.out.all]; exact Nat.le_trans (all11_len T nr) hnr
        have HYS := Lib.hid hys
        clear hys
        have hcc := dreach13_any (N : Int) N HNN.out Ad l m c a v5 HL.out HA.out (by omega)
        rw [HYS.out] at hcc
        have HCC := Lib.hid hcc
        clear hcc
        go_wp2_with fail
        refine HCC.out.mono ?_
        rintro e v6 ⟨A1, c1, rfl, ho1, hb⟩
        have HA : Hid (Aq _ _ _ l) := Lib.hid (Rv.step HA.out hb)
        have HX : Hid (Aq _ _ _ l) := Lib.hid (Rv.step HX.out hb)
        have HRV := Lib.hid (Rv.step HRV.out hb)
        have HB := Lib.hid (HB.out.trans (hb.mono HB.out.size))
        have HR1 := Lib.hid (Rd.of_own ho1)
        clear ho1
        clear HCC hb
        have hcc := rall11_any (c := cr) v6 HRV.out (by omega)
        rw [HRK.out.all, HYS.out] at hcc
        have HCC := Lib.hid hcc
        clear hcc
        go_wp2_with fail
        refine HCC.out.mono ?_
        rintro e v7 ⟨A2, c2, rfl, ho2, hb⟩
        have HA : Hid (Aq _ _ _ l) := Lib.hid (Rv.step HA.out hb)
        have HX : Hid (Aq _ _ _ l) := Lib.hid (Rv.step HX.out hb)
        have HRV := Lib.hid (Rv.step HRV.out hb)
        have HR1 := Lib.hid (Rd.step13 HR1.out hb)
        have HB := Lib.hid (HB.out.trans (hb.mono HB.out.size))
        have HR2 := Lib.hid (Rd.of_own ho2)
        clear ho2
        clear HCC hb
        have hcc := rints11_yes A1 A2 ys ys.length c1 c2 v7 rfl HR1.out HR2.out (by omega)
        have HCC := Lib.hid hcc
        clear hcc
        go_wp2_with fail
        refine HCC.out.mono ?_
        rintro e v8 ⟨rfl, hgg⟩
        have hb := grown7_below hgg
        clear hgg
        have HA : Hid (Aq _ _ _ l) := Lib.hid (Rv.step HA.out hb)
        have HX : Hid (Aq _ _ _ l) := Lib.hid (Rv.step HX.out hb)
        have HRV := Lib.hid (Rv.step HRV.out hb)
        have HR1 := Lib.hid (Rd.step13 HR1.out hb)
        have HR2 := Lib.hid (Rd.step13 HR2.out hb)
        have HB := Lib.hid (HB.out.trans (hb.mono HB.out.size))
        clear HCC hb
        have hz := HRK.out.out b (by omega)
        have HZ := Lib.hid hz
        clear hz
        have hcc := dcomes13_any (N : Int) N HNN.out Ad l m c a b v8 HL.out HA.out (by omega)
        rw [HZ.out] at hcc
        have HCC := Lib.hid hcc
        clear hcc
        go_wp2_with fail
        refine HCC.out.mono ?_
        rintro e v9 ⟨rfl, hb⟩
        have HA : Hid (Aq _ _ _ l) := Lib.hid (Rv.step HA.out hb)
        have HX : Hid (Aq _ _ _ l) := Lib.hid (Rv.step HX.out hb)
        have HRV := Lib.hid (Rv.step HRV.out hb)
        have HB := Lib.hid (HB.out.trans (hb.mono HB.out.size))
        clear HCC hb
        have hcc := dring13_any (N : Int) N HNN.out Ad l m c os v9 HL.out HA.out (by omega) HD.out
        rw [decide_eq_false hf] at hcc
        have HCC := Lib.hid hcc
        clear hcc
        go_wp2_with fail
        refine HCC.out.mono ?_
        rintro e v10 ⟨rfl, hb⟩
        have HA : Hid (Aq _ _ _ l) := Lib.hid (Rv.step HA.out hb)
        have HX : Hid (Aq _ _ _ l) := Lib.hid (Rv.step HX.out hb)
        have HRV := Lib.hid (Rv.step HRV.out hb)
        have HB := Lib.hid (HB.out.trans (hb.mono HB.out.size))
        clear HCC hb
        have HCC := Lib.hid (HV.out v10)
        go_wp2_with fail
        refine HCC.out.mono ?_
        rintro e vz ⟨rfl, hb⟩
        have HB := Lib.hid (HB.out.trans (hb.mono HB.out.size))
        clear HCC hb
        go_wp2_with fail
        go_ret
        exact ⟨rfl, HB.out⟩
end Go.Proofs.Ytojdgcalpdbifaa
