/-
  Numbers in digits of 32 bits: addOnto, Add; Sub.
  Numbers in digits of 32 bits: groups of nine decimal digits.
-/
import Derived.Test.YtaifigkbblncpaaGreatDoorMG
import Derived.Test.YtaifigkbblncpaaGreatDoorMP
import Derived.Test.YtaifigkbblncpaaGreatDoorZeros
import Derived.Test.YtaifigkbblncpaaGreatDoorNatL
namespace Go.Proofs.YtaifigkbblncpaaGreatDoor
open Go.RowKit
set_option maxRecDepth 100000

theorem Cn.of_ge {zs : List Nat} (h : Dg zs) (hz : zs ≠ [] → 4294967296 ^ (zs.length - 1) ≤ U zs) : Cn zs := by
  refine ⟨h, fun hne h0 => ?_⟩
  have h1 := hz hne
  have hlen := List.length_pos_iff.2 hne
  have h2 := U_take_succ zs (zs.length - 1)
  rw [U_take_all zs _ (by omega), h0] at h2
  have h3 := U_lt (h.take (zs.length - 1))
  rw [show (zs.take (zs.length - 1)).length = zs.length - 1 by simp] at h3
  omega
theorem U_zeros_app (xs : List Nat) (k : Nat) : U (xs ++ List.replicate k 0) = U xs := by
  rw [U_append]
  have : U (List.replicate k 0) = 0 := by
    induction k with
    | zero => rfl
    | succ n ih => rw [List.replicate_succ, U, ih]
  rw [this]; omega
theorem Dg.app {xs ys : List Nat} (h : Dg xs) (k : Dg ys) : Dg (xs ++ ys) := fun d hd => by
  rcases List.mem_append.1 hd with h1 | h1
  · exact h d h1
  · exact k d h1
theorem Dg.zeros (k : Nat) : Dg (List.replicate k 0) := fun d hd => by have := (List.mem_replicate.1 hd).2; omega
theorem Cn.one_more {zs : List Nat} (h : Dg zs) : Cn (zs ++ [1]) := Cn.snoc h (by omega) (by omega)
theorem U_one_more (zs : List Nat) : U (zs ++ [1]) = U zs + 4294967296 ^ zs.length := by rw [U_append]; simp [U]

theorem Ow.row {w : World} {B n c : Nat} {A : Option Addr} {xs : List Nat} (h : Ow w B (.slice A n c) n xs) : (A = none ∧ n = 0 ∧ c = 0 ∧ xs = []) ∨ ∃ g, A = some ⟨g, 0, none⟩ := by
  rcases h.2 with ⟨h2, h3⟩ | ⟨g', cap, cur, hv, _⟩
  · injection h2 with h4 h5 h6
    have := h.len
    exact .inl ⟨h4, h3, h6, List.eq_nil_of_length_eq_zero (by omega)⟩
  · injection hv with h4 h5 h6
    exact .inr ⟨g', h4⟩

theorem addInto_nil (c2 : Nat) (A2 : Option Addr) (w : World) : Calls Tryz.prog 82 #[.slice none 0 0, .slice A2 0 c2] w fun e w' => e = .returned (.int .u32 0) ∧ w = w' := by
  go_enter Tryz.func82, Tryz.ntmps82
  go_wp2_with fail
  go_loop [5, 6] (fun cv iv => cv = .int .u64 0 ∧ iv = .int .i64 0) (fun _ _ => 0)
  case atStart => exact ⟨rfl, rfl⟩
  case round =>
    obtain ⟨rfl, rfl⟩ := hrel
    go_wp2_with fail
    go_ret
    exact ⟨rfl, rfl⟩

/-- What addOnto answers. -/
def AddedOnto (w : World) (B : Nat) (a : Nat) (e : Ending) (w' : World) : Prop := ∃ v zs, e = .returned v ∧ Ow w' B v zs.length zs ∧ Cn zs ∧ U zs = a ∧ Below B w w'
theorem wrote_own_below {w w1 : World} {B n : Nat} {v : Value} {xs : List Nat} (hg : w.grownBy w1 v.ownBlock) (how : Ow w B v n xs) (hB : B ≤ w.heap.size) : Below B w w1 :=
  (Below.refl B w).grown hg hB (fun k hk => (World.ownsRow.lt how k hk).1)

set_option maxHeartbeats 4000000 in
theorem addOnto_any (B : Nat) (A : Option Addr) (c n : Nat) (xs : List Nat) (A2 : Option Addr) (ys : List Nat) (n2 c2 : Nat) (w : World) (hown : Ow w B (.slice A n c) n xs) (hx : Cn xs) (hy : Cn ys) (hl2 : ys.length = n2) (hc : n ≤ c)
    (hr2 : Ra w B A2 ys) (hB : B ≤ w.heap.size) (hn : n ≤ 1000000) (hn2 : n2 ≤ 1000000) :
    Calls Tryz.prog 65 #[.slice A n c, .slice A2 n2 c2] w (AddedOnto w B (U xs + U ys)) := by
  have hl := hown.len
  have HO := Lib.hid hown
  have HL := Lib.hid hl
  have HL2 := Lib.hid hl2
  have HX := Lib.hid hx
  have HY := Lib.hid hy
  have hrow := hown.row
  clear hown hl hl2 hx hy
  by_cases hlt : n < n2
  · have hki : (n2 : Int) - (n : Int) = ((n2 - n : Nat) : Int) := by omega
    have HK := Lib.hid hki
    clear hki
    go_enter Tryz.func65, Tryz.ntmps65
    go_wp2_with (at_builtin; go_loud (refine wpList_append_zeros32 _ rfl (.tmp 11) (.tmp 16) 23 3 rfl B 53 Tryz.underlying23 Tryz.underlying3 info_u32 (.slice A n c) n (n2 - n) xs rfl HO.out ((n2 : Int) - (n : Int)) HK.out rfl (by omega) (by omega) hB ?_); intro A' n' c' w1 hn1 hc1 hown1 hg1)
    have hn' : n' = n2 := by have := hn1.out; omega
    subst hn'
    have hB1 := wrote_own_below hg1 HO.out hB
    obtain ⟨g, rfl⟩ : ∃ g, A' = some ⟨g, 0, none⟩ := by
      rcases Ow.row (xs := xs ++ List.replicate (n' - n) 0) hown1.out with ⟨_, h, _⟩ | h
      · omega
      · exact h
    obtain ⟨xs', hxs'⟩ : ∃ z, xs ++ List.replicate (n' - n) 0 = z := ⟨_, rfl⟩
    have how1 : Ow w1 B (.slice (some ⟨g, 0, none⟩) n' c') n' xs' := by rw [← hxs']; exact hown1.out
    have HD' : Hid (Dg xs') := Lib.hid (by rw [← hxs']; exact HX.out.1.app (Dg.zeros _))
    have HXU : Hid (U xs' = U xs) := Lib.hid (by rw [← hxs', U_zeros_app])
    have HGE : Hid (4294967296 ^ (n' - 1) ≤ U xs + U ys) := Lib.hid (by have := U_ge HY.out (by intro h; have := HL2.out; rw [h] at this; simp at this; omega); rw [HL2.out] at this; omega)
    have hn2' : n' ≤ n' := Nat.le_refl _
    clear hxs' hown1 hg1 hn1 HO
    have hlen' : xs'.length = n' := how1.len
    obtain ⟨R, hw, hBg, hcap, hmax⟩ := how1.win
    have hgl := hw.lt
    have HLN := Lib.hid hlen'
    clear hlen' how1
    refine (addInto_any g 0 [] R xs' ys n' c' n' c2 A2 w1 HLN.out HL2.out rfl hw ((hr2.below hB1 (Nat.le_refl _)).more hBg) HD'.out HY.out.1 (by omega) hn2' hc1).mono ?_
    rintro e w2 ⟨ov, zs, rfl, hzl, hzd, hzU, hov, hwin, hgr⟩
    have hB2 : Below B w w2 := hB1.trans (wrote_below hgr hBg hgl)
    have hBs := hB2.size
    have how2 : Ow w2 B (.slice (some ⟨g, 0, none⟩) n' c') n' zs := Ow.of_win hwin hzl hBg hcap hmax
    have HOW := Lib.hid how2
    have HZL := Lib.hid hzl
    have HCAP := Lib.hid hcap
    clear how2 hzl hw hcap hwin
    rcases (show ov = 0 ∨ ov = 1 by omega) with rfl | rfl
    · have hu : U zs = U xs + U ys := by have := HXU.out; omega
      have hcz : Cn zs := Cn.of_ge hzd (fun _ => by rw [HZL.out, hu]; exact HGE.out)
      have HU := Lib.hid hu
      clear hu hzU
      go_wp2_with fail
      go_ret
      exact ⟨_, zs, rfl, by rw [HZL.out]; exact HOW.out, hcz, HU.out, hB2⟩
    · have hu : U (zs ++ [1]) = U xs + U ys := by rw [U_one_more, HZL.out]; have := HXU.out; omega
      have HU := Lib.hid hu
      have ho3 := HOW.out.below ((Below.refl _ w2).alloc (Nat.le_refl _) (.cells #[.int .u32 1] 53))
      have HO3 : Hid (World.ownsRow (w2.alloc (.cells #[.int .u32 1] 53)) B 53 1 (.slice (some ⟨g, 0, none⟩) n' c') zs.length (u32s zs)) := Lib.hid (by rw [HZL.out]; exact ho3)
      have HR1 : Hid (Ra (w2.alloc (.cells #[.int .u32 1] 53)) (w2.heap.size + 1) (some ⟨w2.heap.size, 0, none⟩) [1]) := Lib.hid (by simpa using Ra.one w2 1 53)
      clear hu hzU ho3
      go_wp2_with (at_builtin; go_loud (refine wpList_append_u32s _ rfl (.tmp 23) (.tmp 25) 23 rfl B 53 Tryz.underlying23 info_u32 (.slice (some ⟨g, 0, none⟩) n' c') zs rfl HO3.out (w2.heap.size + 1) (some ⟨w2.heap.size, 0, none⟩) 1 [1] _ rfl rfl HR1.out (by have := HZL.out; simp; omega) (by simp; omega) ?_); intro A4 n4 c4 w4 hl4 hc4 hown4 hg4)
      go_ret
      exact ⟨_, zs ++ [1], rfl, by rw [hl4.out]; exact hown4.out, Cn.one_more hzd, HU.out, (hB2.alloc (by omega) _).grown hg4 (by simp; omega) (by intro k hk; simp [Value.ownBlock] at hk; omega)⟩
  · rcases hrow with ⟨rfl, rfl, rfl, rfl⟩ | ⟨g, rfl⟩
    · obtain rfl : n2 = 0 := by omega
      have hys : ys = [] := List.eq_nil_of_length_eq_zero HL2.out
      have HYS := Lib.hid hys
      clear hys
      go_enter Tryz.func65, Tryz.ntmps65
      go_wp2_with fail
      refine (addInto_nil c2 A2 w).mono ?_
      rintro e w2 ⟨rfl, rfl⟩
      go_wp2_with fail
      go_ret
      exact ⟨_, [], rfl, Ow.nil _ _, Cn.nil, by rw [HYS.out]; rfl, Below.refl _ _⟩
    obtain ⟨n', hn'⟩ : ∃ n', n' = n := ⟨_, rfl⟩
    obtain ⟨c', hc'⟩ : ∃ c', c' = c := ⟨_, rfl⟩
    obtain ⟨xs', hxs'⟩ : ∃ xs', xs' = xs := ⟨_, rfl⟩
    obtain ⟨w1, hw1⟩ : ∃ w1, w1 = w := ⟨_, rfl⟩
    subst hn' hc' hxs' hw1
    have how1 := HO.out
    have hB1 : Below B w1 w1 := Below.refl _ _
    have hc1 := hc
    have HD' : Hid (Dg xs') := Lib.hid HX.out.1
    have HXU : Hid (U xs' = U xs') := Lib.hid rfl
    have HGE : Hid (xs' ≠ [] → 4294967296 ^ (n' - 1) ≤ U xs' + U ys) := Lib.hid (fun h => by have := U_ge HX.out h; rw [HL.out] at this; omega)
    have hn2' : n2 ≤ n' := by omega
    go_enter Tryz.func65, Tryz.ntmps65
    go_wp2_with fail
    clear HO
    have hlen' : xs'.length = n' := how1.len
    obtain ⟨R, hw, hBg, hcap, hmax⟩ := how1.win
    have hgl := hw.lt
    have HLN := Lib.hid hlen'
    clear hlen' how1
    refine (addInto_any g 0 [] R xs' ys n' c' n2 c2 A2 w1 HLN.out HL2.out rfl hw ((hr2.below hB1 (Nat.le_refl _)).more hBg) HD'.out HY.out.1 (by omega) hn2' hc1).mono ?_
    rintro e w2 ⟨ov, zs, rfl, hzl, hzd, hzU, hov, hwin, hgr⟩
    have hB2 : Below B w1 w2 := hB1.trans (wrote_below hgr hBg hgl)
    have hBs := hB2.size
    have how2 : Ow w2 B (.slice (some ⟨g, 0, none⟩) n' c') n' zs := Ow.of_win hwin hzl hBg hcap hmax
    have HOW := Lib.hid how2
    have HZL := Lib.hid hzl
    have HCAP := Lib.hid hcap
    clear how2 hzl hw hcap hwin
    rcases (show ov = 0 ∨ ov = 1 by omega) with rfl | rfl
    · have hu : U zs = U xs' + U ys := by have := HXU.out; omega
      have hcz : Cn zs := Cn.of_ge hzd (fun hne => by rw [HZL.out, hu]; refine HGE.out (fun h => ?_); have h1 := HLN.out; rw [h] at h1; have h2 := List.length_pos_iff.2 hne; have := HZL.out; simp at h1; omega)
      have HU := Lib.hid hu
      clear hu hzU
      go_wp2_with fail
      go_ret
      exact ⟨_, zs, rfl, by rw [HZL.out]; exact HOW.out, hcz, HU.out, hB2⟩
    · have hu : U (zs ++ [1]) = U xs' + U ys := by rw [U_one_more, HZL.out]; have := HXU.out; omega
      have HU := Lib.hid hu
      have ho3 := HOW.out.below ((Below.refl _ w2).alloc (Nat.le_refl _) (.cells #[.int .u32 1] 53))
      have HO3 : Hid (World.ownsRow (w2.alloc (.cells #[.int .u32 1] 53)) B 53 1 (.slice (some ⟨g, 0, none⟩) n' c') zs.length (u32s zs)) := Lib.hid (by rw [HZL.out]; exact ho3)
      have HR1 : Hid (Ra (w2.alloc (.cells #[.int .u32 1] 53)) (w2.heap.size + 1) (some ⟨w2.heap.size, 0, none⟩) [1]) := Lib.hid (by simpa using Ra.one w2 1 53)
      clear hu hzU ho3
      go_wp2_with (at_builtin; go_loud (refine wpList_append_u32s _ rfl (.tmp 23) (.tmp 25) 23 rfl B 53 Tryz.underlying23 info_u32 (.slice (some ⟨g, 0, none⟩) n' c') zs rfl HO3.out (w2.heap.size + 1) (some ⟨w2.heap.size, 0, none⟩) 1 [1] _ rfl rfl HR1.out (by have := HZL.out; simp; omega) (by simp; omega) ?_); intro A4 n4 c4 w4 hl4 hc4 hown4 hg4)
      go_ret
      exact ⟨_, zs ++ [1], rfl, by rw [hl4.out]; exact hown4.out, Cn.one_more hzd, HU.out, (hB2.alloc (by omega) _).grown hg4 (by simp; omega) (by intro k hk; simp [Value.ownBlock] at hk; omega)⟩
end Go.Proofs.YtaifigkbblncpaaGreatDoor

namespace Go.Proofs.YtaifigkbblncpaaGreatDoor
open Go.RowKit
set_option maxRecDepth 100000

/-- A number's groups, the lowest first. -/
def grp (a : Nat) : List Nat := if h : a = 0 then [] else (a % 1000000000) :: grp (a / 1000000000)
termination_by a
decreasing_by omega
theorem grp_zero : grp 0 = [] := by rw [grp]; rfl
theorem grp_pos {a : Nat} (h : 0 < a) : grp a = (a % 1000000000) :: grp (a / 1000000000) := by rw [grp, dif_neg (by omega)]
theorem grp_len {a k : Nat} (h : a < 1000000000 ^ k) : (grp a).length ≤ k := by
  induction k generalizing a with
  | zero => obtain rfl : a = 0 := by simpa using h
            rw [grp_zero]; simp
  | succ k ih =>
    rcases Nat.eq_zero_or_pos a with rfl | hp
    · rw [grp_zero]; simp
    · rw [grp_pos hp, List.length_cons]
      have := ih (a := a / 1000000000) (by rw [Nat.div_lt_iff_lt_mul (by omega)]; rwa [Nat.pow_succ] at h)
      omega
theorem grp_dg (a : Nat) : ∀ x ∈ grp a, x < 1000000000 := by
  induction a using Nat.strongRecOn with
  | ind a ih =>
    intro x hx
    rcases Nat.eq_zero_or_pos a with rfl | hp
    · rw [grp_zero] at hx; simp at hx
    · rw [grp_pos hp] at hx
      rcases List.mem_cons.1 hx with rfl | hx
      · omega
      · exact ih _ (by omega) x hx
theorem grp_len32 {xs : List Nat} (h : Dg xs) : (grp (U xs)).length ≤ 2 * xs.length := by
  refine grp_len (Nat.lt_of_lt_of_le (U_lt h) ?_)
  rw [Nat.pow_mul]
  exact Nat.pow_le_pow_left (by decide) _

theorem Ow.far {w w' : World} {B n c g : Nat} {A : Option Addr} {xs : List Nat} (h : Ow w B (.slice A n c) n xs) (hg : w.grownBy w' (some g)) (hne : g < B) : Ow w' B (.slice A n c) n xs := by
  have hlt := World.ownsRow.lt h
  obtain ⟨h1, h2⟩ := h
  refine ⟨h1, ?_⟩
  rcases h2 with h2 | ⟨g', cap, cur, hv, hb, hh, r⟩
  · exact .inl h2
  · refine .inr ⟨g', cap, cur, hv, hb, ?_, r⟩
    rw [hg.block g' (hlt g' (by rw [hv]; rfl)).2 (by intro e; injection e; omega)]
    exact hh

/-- Between two rounds of groupsOf: what is in groups, what is left. -/
structure GrpMem (w w1 : World) (gs : List Nat) (A : Option Addr) (n c : Nat) (ds : List Nat) (A2 : Option Addr) (n2 c2 : Nat) (W : World) : Prop where
  below : Below w.heap.size w W
  big : w1.heap.size ≤ W.heap.size
  old : w.heap.size ≤ w1.heap.size
  groups : Ow W w1.heap.size (.slice A n c) n gs
  left : Ow W w.heap.size (.slice A2 n2 c2) n2 ds
  near : ∀ b o, A2 = some ⟨b, o, none⟩ → b < w1.heap.size
  can : Cn ds

set_option maxHeartbeats 4000000 in
theorem groupsOf_any (A0 : Option Addr) (xs : List Nat) (n0 c0 : Nat) (w : World) (hl : xs.length = n0) (hr : Ra w w.heap.size A0 xs) (hd : Dg xs) (hn : n0 ≤ 100000) (hc : n0 ≤ c0) :
    Calls Tryz.prog 53 #[.slice A0 n0 c0] w (RetOw w (grp (U xs))) := by
  have hgl := grp_len32 hd
  rw [hl] at hgl
  obtain ⟨G, hG⟩ : ∃ G, (grp (U xs)).length = G := ⟨_, rfl⟩
  rw [hG] at hgl
  have HG := Lib.hid hG
  clear hG
  go_enter Tryz.func53, Tryz.ntmps53
  go_wp2_with fail
  refine (natCut_own A0 xs n0 c0 w hl hr hd (by omega) hc).mono ?_
  rintro e w1 ⟨m, hm, hcan, hU, v, rfl, how, hb1⟩
  have hlm : (xs.take m).length = m := by simp; omega
  rw [hlm] at how
  obtain ⟨A2, c2, rfl, hc2⟩ := how.form
  have HM1 : Hid (GrpMem w w1 [] none 0 0 (xs.take m) A2 m c2 w1) := Lib.hid ⟨hb1, Nat.le_refl _, hb1.size, Ow.nil _ _, how, fun b o hA => by
    subst hA
    exact (World.ownsRow.lt how b rfl).2, hcan⟩
  have HU := Lib.hid hU
  clear how hcan hU hlm hl
  go_wp2_with fail
  go_loopw [3, 4] (fun gv lv wr => ∃ (gs ds : List Nat) (A : Option Addr) (n c : Nat) (A2 : Option Addr) (n2 c2 : Nat), gv = .slice A n c ∧ lv = .slice A2 n2 c2 ∧ n ≤ G ∧ n ≤ c ∧ n2 ≤ c2 ∧ n2 ≤ n0 ∧ GrpMem w w1 gs A n c ds A2 n2 c2 wr ∧ gs ++ grp (U ds) = grp (U xs)) (fun gv _ _ => G - lenV gv)
  case atStart => exact ⟨[], xs.take m, none, 0, 0, A2, m, c2, rfl, rfl, by omega, Nat.le_refl _, hc2, hm, HM1.out, by rw [HU.out]; rfl⟩
  case round =>
    clear HM1 HU
    obtain ⟨gs, ds, A, n, c, A2, n2, c2, rfl, rfl, hnG, hnc, hn2c, hn20, hmm, happ⟩ := hrel
    have HM := Lib.hid hmm
    have HAP := Lib.hid happ
    have HGL := Lib.hid hmm.groups.len
    have HDL := Lib.hid hmm.left.len
    have hrow := hmm.left.row
    clear hmm happ
    by_cases h0 : 0 < n2
    · rcases hrow with ⟨_, h, _⟩ | ⟨g, rfl⟩
      · omega
      have hgw1 : g < w1.heap.size := HM.out.near g 0 rfl
      obtain ⟨R, hw, hBg, hcap, hmax⟩ := HM.out.left.win
      have hglt := hw.lt
      have HCAP := Lib.hid hcap
      have hpos : 0 < U ds := by
        have := U_ge HM.out.can (by intro h; have h1 := HDL.out; rw [h] at h1; simp at h1; omega)
        have h2 : 0 < 4294967296 ^ (ds.length - 1) := Nat.pow_pos (by omega)
        omega
      have HGP := Lib.hid (grp_pos hpos)
      have hmod : U ds % 1000000000 < 4294967296 := by omega
      clear hcap hpos
      go_wp2_with fail
      refine (divByDigit_any g 0 [] R ds n2 c2 1000000000 wr HDL.out rfl hw HM.out.can.1 (by omega) hn2c (by omega) (by omega)).mono ?_
      rintro e w2 ⟨zs, rfl, hzl, hzd, hzU, hwin, hgr⟩
      have hB2 : Below w.heap.size w w2 := HM.out.below.trans (wrote_below hgr hBg hglt)
      have hs2 := hgr.size
      have hbig := HM.out.big
      have hold := HM.out.old
      have HL2 := Lib.hid ((Ow.of_win hwin hzl hBg HCAP.out hmax) : Ow w2 w.heap.size (.slice (some ⟨g, 0, none⟩) n2 c2) n2 zs)
      have HG2 := Lib.hid (HM.out.groups.far hgr hgw1)
      obtain ⟨r, hr0⟩ : ∃ r, U ds % 1000000000 = r := ⟨_, rfl⟩
      rw [hr0] at hmod HGP
      have HZL := Lib.hid hzl
      have HZU := Lib.hid hzU
      have HZD := Lib.hid hzd
      have HO3 : Hid (World.ownsRow (w2.alloc (.cells #[.int .u32 (r : Int)] 53)) w1.heap.size 53 1 (.slice A n c) gs.length (u32s gs)) := Lib.hid (by rw [HGL.out]; exact HG2.out.below ((Below.refl _ w2).alloc (Nat.le_refl _) _))
      have HR1 : Hid (Ra (w2.alloc (.cells #[.int .u32 (r : Int)] 53)) (w2.heap.size + 1) (some ⟨w2.heap.size, 0, none⟩) [r]) := Lib.hid (Ra.one w2 r 53)
      have hnG2 : n + 1 ≤ G := by
        have h1 := congrArg List.length HAP.out
        rw [HGP.out, HG.out, List.length_append, List.length_cons, HGL.out] at h1
        omega
      rw [hr0]
      clear hzl hzU hzd hwin hw hr0
      go_wp2_with (at_builtin; go_loud (refine wpList_append_u32s _ rfl (.tmp 10) (.tmp 13) 22 rfl w1.heap.size 53 Tryz.underlying22 info_u32 (.slice A n c) gs rfl HO3.out (w2.heap.size + 1) (some ⟨w2.heap.size, 0, none⟩) 1 [r] _ rfl rfl HR1.out (by have := HGL.out; simp; omega) (by simp; omega) ?_); intro A4 n4 c4 w4 hl4 hc4 hown4 hg4)
      have hrow4 : ∀ k, (Value.slice A n c).ownBlock = some k → w1.heap.size ≤ k := fun k hk => (World.ownsRow.lt HG2.out k hk).1
      have hB4 : Below w1.heap.size w2 w4 := (((Below.refl _ w2).alloc (by omega) _).grown hg4 (by simp; omega) hrow4)
      have hs4 := hB4.size
      have hn4 : n4 = n + 1 := by have := hl4.out; have := HGL.out; simp at *; omega
      subst hn4
      have HW4 : Hid (Ow w4 w.heap.size (.slice (some ⟨g, 0, none⟩) n2 c2) n2 zs) := Lib.hid (by
        obtain ⟨R2, hw2, hBg2, hcap2, hmax2⟩ := HL2.out.win
        exact Ow.of_win (hw2.below hB4 hgw1) HZL.out hBg2 hcap2 hmax2)
      have hwB4 : Below w.heap.size w w4 := hB2.trans (hB4.mono hold)
      clear HO3 HR1 hg4 HL2
      go_wp2_with fail
      refine (shorten_cl _ zs n2 c2 w4 HZL.out HW4.out.reads.1 HZD.out (by omega) hn2c).mono ?_
      rintro e w5 ⟨rfl, rfl⟩
      have hclz := cl_le zs
      have HOW5 := Lib.hid (HW4.out.take (m := cl zs) (by have := HZL.out; omega))
      have HC5 := Lib.hid (cl_can HZD.out)
      have HU5 : Hid (U (zs.take (cl zs)) = U ds / 1000000000) := Lib.hid (by rw [cl_U, HZU.out])
      obtain ⟨k, hk⟩ : ∃ k, cl zs = k := ⟨_, rfl⟩
      rw [hk] at HOW5 HC5 HU5 hclz ⊢
      have hkn : k ≤ n2 := by have := HZL.out; omega
      clear hk
      go_wp2_with fail
      go_roundw
      case rel => exact ⟨gs ++ [r], zs.take k, A4, n + 1, c4, some ⟨g, 0, none⟩, k, c2, rfl, rfl, hnG2, hc4, by omega, by omega, ⟨hwB4, by omega, hold, hown4.out, HOW5.out, fun b o hA => by injection hA with hA; injection hA with h1 _; omega, HC5.out⟩, by rw [HU5.out, List.append_assoc, List.singleton_append, ← HGP.out]; exact HAP.out⟩
      case measure => simp [lenV]; omega
    · obtain rfl : n2 = 0 := by omega
      have hds : ds = [] := List.eq_nil_of_length_eq_zero HDL.out
      have HF : Hid (gs = grp (U xs)) := Lib.hid (by have := HAP.out; rw [hds] at this; rw [show U [] = 0 from rfl, grp_zero, List.append_nil] at this; exact this)
      clear hds
      go_wp2_with fail
      go_ret
      refine ⟨_, rfl, ?_, HM.out.below⟩
      have h1 := HM.out.groups.more HM.out.old
      rw [← HF.out, HGL.out]
      exact h1
end Go.Proofs.YtaifigkbblncpaaGreatDoor
