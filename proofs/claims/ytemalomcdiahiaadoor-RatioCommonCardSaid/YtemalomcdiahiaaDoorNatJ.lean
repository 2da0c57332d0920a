/-
  Numbers in digits of 32 bits: Sub; Add and Mul of any many numbers.
-/
import Derived.Test.YtemalomcdiahiaaDoorNatI
import Derived.Test.YtemalomcdiahiaaDoorNatF
namespace Go.Proofs.YtemalomcdiahiaaDoor
open Go.RowKit
set_option maxRecDepth 100000

theorem takeOff_nil (c2 : Nat) (A2 : Option Addr) (m : Nat) (w : World) : Calls Tryd.prog 76 #[.slice none 0 0, .slice A2 0 c2, .int .u64 ((m : Nat) : Int)] w fun e w' => e = .returned (.bool false) ∧ w = w' := by
  go_enter Tryd.func76, Tryd.ntmps76
  go_wp2_with fail
  go_loop [7, 8, 14] (fun tv bv iv => tv = .int .u64 0 ∧ bv = .int .u64 0 ∧ iv = .int .i64 0) (fun _ _ _ => 0)
  case atStart => exact ⟨rfl, rfl, rfl⟩
  case round =>
    obtain ⟨rfl, rfl, rfl⟩ := hrel
    go_wp2_with fail
    go_ret
    exact ⟨rfl, rfl⟩

set_option maxHeartbeats 4000000 in
theorem natSub_no (A1 A2 : Option Addr) (xs ys : List Nat) (n1 c1 n2 c2 : Nat) (w : World) (hl1 : xs.length = n1) (hl2 : ys.length = n2) (hr1 : Ra w w.heap.size A1 xs) (hr2 : Ra w w.heap.size A2 ys)
    (hd1 : Dg xs) (hd2 : Dg ys) (hn1 : n1 ≤ 1000000) (hn2 : n2 ≤ 1000000) (hc1 : n1 ≤ c1) (hc2 : n2 ≤ c2) (hlt : U xs < U ys) :
    Calls Tryd.prog 58 #[.slice A1 n1 c1, .slice A2 n2 c2] w fun e w' => e = .returned (.tuple #[.slice none 0 0, .bool false]) ∧ Below w.heap.size w w' := by
  have hcmp := natCmp_any A1 A2 xs ys n1 c1 n2 c2 w hl1 hl2 hr1 hr2 hd1 hd2 hn1 hn2 hc1 hc2
  rw [cmpI_lt hlt] at hcmp
  clear hl1 hl2 hlt
  go_enter Tryd.func58, Tryd.ntmps58
  go_wp2_with fail
  refine hcmp.mono ?_
  rintro e w1 ⟨rfl, hb⟩
  go_wp2_with fail
  go_ret2
  exact ⟨rfl, hb⟩

set_option maxHeartbeats 4000000 in
theorem natSub_yes (A1 A2 : Option Addr) (xs ys : List Nat) (n1 c1 n2 c2 : Nat) (w : World) (hl1 : xs.length = n1) (hl2 : ys.length = n2) (hr1 : Ra w w.heap.size A1 xs) (hr2 : Ra w w.heap.size A2 ys)
    (hd1 : Dg xs) (hd2 : Dg ys) (hn1 : n1 ≤ 1000000) (hn2 : n2 ≤ 1000000) (hc1 : n1 ≤ c1) (hc2 : n2 ≤ c2) (hle : U ys ≤ U xs) :
    Calls Tryd.prog 58 #[.slice A1 n1 c1, .slice A2 n2 c2] w fun e w' => ∃ v, e = .returned (.tuple #[v, .bool true]) ∧ Nv w' w.heap.size v (U xs - U ys) ∧ Below w.heap.size w w' := by
  have hcmp := natCmp_any A1 A2 xs ys n1 c1 n2 c2 w hl1 hl2 hr1 hr2 hd1 hd2 hn1 hn2 hc1 hc2
  obtain ⟨z, hz, hz0⟩ : ∃ z : Int, cmpI (U xs) (U ys) = z ∧ 0 ≤ z := by
    rcases Nat.lt_or_ge (U ys) (U xs) with h | h
    · exact ⟨1, cmpI_gt h, by omega⟩
    · exact ⟨0, cmpI_eq (by omega), by omega⟩
  rw [hz] at hcmp
  have HLE := Lib.hid hle
  have HL1 := Lib.hid hl1
  have HL2 := Lib.hid hl2
  have hcl2 := cl_le ys
  have HU2 := Lib.hid (cl_U ys)
  have HC2 := Lib.hid (cl_can hd2)
  have hsh2 := fun wz (h : Below w.heap.size w wz) => shorten_cl A2 ys n2 c2 wz hl2 ((hr2.below h (Nat.le_refl _)).more h.size) hd2 (by omega) hc2
  obtain ⟨m2, hm2⟩ : ∃ m, cl ys = m := ⟨_, rfl⟩
  rw [hm2] at hcl2 HU2 HC2
  simp only [hm2] at hsh2
  have HML2 : Hid ((ys.take m2).length = m2) := Lib.hid (by simp; omega)
  clear hl1 hl2 hle hz hm2
  go_enter Tryd.func58, Tryd.ntmps58
  go_wp2_with fail
  refine hcmp.mono ?_
  rintro e w1 ⟨rfl, hb1⟩
  go_wp2_with fail
  refine (natCut_own A1 xs n1 c1 w1 HL1.out ((hr1.below hb1 (Nat.le_refl _)).more hb1.size) hd1 (by omega) hc1).mono ?_
  rintro e w2 ⟨m, hm, hcan, hU, v, rfl, how, hb2⟩
  have hlm : (xs.take m).length = m := by have := HL1.out; simp; omega
  rw [hlm] at how
  obtain ⟨A, c, rfl, hc⟩ := how.form
  have hbw2 : Below w.heap.size w w2 := hb1.trans (hb2.mono hb1.size)
  have HCAN := Lib.hid hcan
  have HU := Lib.hid hU
  have HOW := Lib.hid how
  have HLM := Lib.hid hlm
  have hm2m : m2 ≤ m := by
    rcases Nat.lt_or_ge m m2 with h | h
    · have := cmp_len HCAN.out HC2.out (by rw [HLM.out, HML2.out]; exact h)
      have h2 := HLE.out
      have h3 := HU.out
      have h4 := HU2.out
      omega
    · exact h
  have hrow := how.row
  clear hcan hU how hlm
  go_wp2_with fail
  refine (hsh2 _ hbw2).mono ?_
  rintro e w3 ⟨rfl, rfl⟩
  go_wp2_with fail
  rcases hrow with ⟨rfl, rfl, rfl, hnil⟩ | ⟨g, rfl⟩
  · obtain rfl : m2 = 0 := by omega
    have hux : U xs - U ys = 0 := by have h1 := HU.out; have h2 := HU2.out; rw [hnil] at h1; simp [U] at h1 h2; omega
    have HUX := Lib.hid hux
    clear hux hnil
    refine (takeOff_nil c2 A2 1 w2).mono ?_
    rintro e w4 ⟨rfl, rfl⟩
    go_wp2_with fail
    refine (shorten_cl none [] 0 0 w2 rfl (Ra.nil _ _ _) Dg.nil (by omega) (by omega)).mono ?_
    rintro e w5 ⟨rfl, rfl⟩
    rw [show cl [] = 0 from rfl]
    go_wp2_with fail
    go_ret2
    exact ⟨_, rfl, ⟨none, [], 0, 0, rfl, rfl, Nat.le_refl _, Ra.nil _ _ _, fun h => absurd rfl h, Cn.nil, by rw [HUX.out]; rfl⟩, hbw2⟩
  · obtain ⟨R, hw, hBg, hcap, hmax⟩ := HOW.out.win
    have hgl := hw.lt
    have hBg2 : w.heap.size ≤ g := Nat.le_trans hb1.size hBg
    refine (takeOff_any g 0 [] R (xs.take m) (ys.take m2) 1 m c m2 c2 A2 w2 HLM.out HML2.out rfl hw (((hr2.take m2).below hbw2 (Nat.le_refl _)).more hBg2) HCAN.out.1 HC2.out.1 (by omega) hm2m hc (by omega)).mono ?_
    rintro e w3 ⟨T, zs, rfl, hzl, hzd, hzU, hwin, hgr⟩
    have hT : T = 0 ∧ U zs = U xs - U ys := by
      have h1 := U_lt hzd
      rw [hzl] at h1
      have h2 := HLE.out
      rw [HU.out, HU2.out] at hzU
      rcases Nat.eq_zero_or_pos T with h | h
      · subst h; omega
      · have : 4294967296 ^ m * 1 ≤ 4294967296 ^ m * T := Nat.mul_le_mul_left _ h
        omega
    obtain ⟨rfl, hzs⟩ := hT
    have hb3 : Below w.heap.size w w3 := hbw2.trans ((wrote_below hgr hBg2 hgl))
    have how3 : Ow w3 w.heap.size (.slice (some ⟨g, 0, none⟩) m c) m zs := Ow.of_win hwin hzl hBg2 hcap hmax
    have HOW3 := Lib.hid how3
    have HZL := Lib.hid hzl
    have HZS := Lib.hid hzs
    clear how3 hzl hzs hzU hwin hw hcap
    go_wp2_with fail
    refine (shorten_cl _ zs m c w3 HZL.out HOW3.out.reads.1 hzd (by omega) hc).mono ?_
    rintro e w5 ⟨rfl, rfl⟩
    have hclz := cl_le zs
    have HOW5 := Lib.hid (HOW3.out.take (m := cl zs) (by have := HZL.out; omega))
    have HC5 := Lib.hid (cl_can hzd)
    have HU5 : Hid (U (zs.take (cl zs)) = U xs - U ys) := Lib.hid (by rw [cl_U, HZS.out])
    obtain ⟨k, hk⟩ : ∃ k, cl zs = k := ⟨_, rfl⟩
    rw [hk] at HOW5 HC5 HU5 hclz ⊢
    have hkc : k ≤ c := by have := HZL.out; omega
    clear hk
    go_wp2_with fail
    go_ret2
    have := HOW5.out.nv hkc HC5.out
    rw [HU5.out] at this
    exact ⟨_, rfl, this, hb3⟩
end Go.Proofs.YtemalomcdiahiaaDoor
