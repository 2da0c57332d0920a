/-
  Numbers in digits of 32 bits: addOnto, Add; Sub.
-/
import Derived.Test.YtemalomcdiahiaaDoorMG
import Derived.Test.YtemalomcdiahiaaDoorNatH
import Derived.Test.YtemalomcdiahiaaDoorZeros
namespace Go.Proofs.YtemalomcdiahiaaDoor
open Go.RowKit
set_option maxRecDepth 100000

theorem Cn.of_ge {zs : List Nat} (h : Dg zs) (hz : zs ≠ [] → 4294967296 ^ (zs.length - 1) ≤ U zs) : Cn zs := by
  refine ⟨h, fun hne h0 => ?_⟩
  have h1 := hz hne
  have hlen := List.length_pos_iff.2 hne
  have h2 := U_take_succ zs (zs.length - 1)
  rw [U_take_all zs _ (by omega), h0] at h2
  have h3 := U_lt (h.take (zs.length - 1))
  rw [show (zs.take (zs.length - 1)).length = zs.length - 1 by simp] at h3
  omega
theorem U_zeros_app (xs : List Nat) (k : Nat) : U (xs ++ List.replicate k 0) = U xs := by
  rw [U_append]
  have : U (List.replicate k 0) = 0 := by
    induction k with
    | zero => rfl
    | succ n ih => rw [List.replicate_succ, U, ih]
  rw [this]; omega
theorem Dg.app {xs ys : List Nat} (h : Dg xs) (k : Dg ys) : Dg (xs ++ ys) := fun d hd => by
  rcases List.mem_append.1 hd with h1 | h1
  · exact h d h1
  · exact k d h1
theorem Dg.zeros (k : Nat) : Dg (List.replicate k 0) := fun d hd => by have := (List.mem_replicate.1 hd).2; omega
theorem Cn.one_more {zs : List Nat} (h : Dg zs) : Cn (zs ++ [1]) := Cn.snoc h (by omega) (by omega)
theorem U_one_more (zs : List Nat) : U (zs ++ [1]) = U zs + 4294967296 ^ zs.length := by rw [U_append]; simp [U]

theorem Ow.row {w : World} {B n c : Nat} {A : Option Addr} {xs : List Nat} (h : Ow w B (.slice A n c) n xs) : (A = none ∧ n = 0 ∧ c = 0 ∧ xs = []) ∨ ∃ g, A = some ⟨g, 0, none⟩ := by
  rcases h.2 with ⟨h2, h3⟩ | ⟨g', cap, cur, hv, _⟩
  · injection h2 with h4 h5 h6
    have := h.len
    exact .inl ⟨h4, h3, h6, List.eq_nil_of_length_eq_zero (by omega)⟩
  · injection hv with h4 h5 h6
    exact .inr ⟨g', h4⟩

theorem addInto_nil (c2 : Nat) (A2 : Option Addr) (w : World) : Calls Tryd.prog 85 #[.slice none 0 0, .slice A2 0 c2] w fun e w' => e = .returned (.int .u32 0) ∧ w = w' := by
  go_enter Tryd.func85, Tryd.ntmps85
  go_wp2_with fail
  go_loop [5, 6] (fun cv iv => cv = .int .u64 0 ∧ iv = .int .i64 0) (fun _ _ => 0)
  case atStart => exact ⟨rfl, rfl⟩
  case round =>
    obtain ⟨rfl, rfl⟩ := hrel
    go_wp2_with fail
    go_ret
    exact ⟨rfl, rfl⟩

/-- What addOnto answers. -/
def AddedOnto (w : World) (B : Nat) (a : Nat) (e : Ending) (w' : World) : Prop := ∃ v zs, e = .returned v ∧ Ow w' B v zs.length zs ∧ Cn zs ∧ U zs = a ∧ Below B w w'
theorem wrote_own_below {w w1 : World} {B n : Nat} {v : Value} {xs : List Nat} (hg : w.grownBy w1 v.ownBlock) (how : Ow w B v n xs) (hB : B ≤ w.heap.size) : Below B w w1 :=
  (Below.refl B w).grown hg hB (fun k hk => (World.ownsRow.lt how k hk).1)

set_option maxHeartbeats 4000000 in
theorem addOnto_any (B : Nat) (A : Option Addr) (c n : Nat) (xs : List Nat) (A2 : Option Addr) (ys : List Nat) (n2 c2 : Nat) (w : World) (hown : Ow w B (.slice A n c) n xs) (hx : Cn xs) (hy : Cn ys) (hl2 : ys.length = n2) (hc : n ≤ c)
    (hr2 : Ra w B A2 ys) (hB : B ≤ w.heap.size) (hn : n ≤ 1000000) (hn2 : n2 ≤ 1000000) :
    Calls Tryd.prog 70 #[.slice A n c, .slice A2 n2 c2] w (AddedOnto w B (U xs + U ys)) := by
  have hl := hown.len
  have HO := Lib.hid hown
  have HL := Lib.hid hl
  have HL2 := Lib.hid hl2
  have HX := Lib.hid hx
  have HY := Lib.hid hy
  have hrow := hown.row
  clear hown hl hl2 hx hy
  by_cases hlt : n < n2
  · have hki : (n2 : Int) - (n : Int) = ((n2 - n : Nat) : Int) := by omega
    have HK := Lib.hid hki
    clear hki
    go_enter Tryd.func70, Tryd.ntmps70
    go_wp2_with (at_builtin; go_loud (refine wpList_append_zeros32 _ rfl (.tmp 11) (.tmp 16) 23 3 rfl B 67 Tryd.underlying23 Tryd.underlying3 info_u32 (.slice A n c) n (n2 - n) xs rfl HO.out ((n2 : Int) - (n : Int)) HK.out rfl (by omega) (by omega) hB ?_); intro A' n' c' w1 hn1 hc1 hown1 hg1)
    have hn' : n' = n2 := by have := hn1.out; omega
    subst hn'
    have hB1 := wrote_own_below hg1 HO.out hB
    obtain ⟨g, rfl⟩ : ∃ g, A' = some ⟨g, 0, none⟩ := by
      rcases Ow.row (xs := xs ++ List.replicate (n' - n) 0) hown1.out with ⟨_, h, _⟩ | h
      · omega
      · exact h
    obtain ⟨xs', hxs'⟩ : ∃ z, xs ++ List.replicate (n' - n) 0 = z := ⟨_, rfl⟩
    have how1 : Ow w1 B (.slice (some ⟨g, 0, none⟩) n' c') n' xs' := by rw [← hxs']; exact hown1.out
    have HD' : Hid (Dg xs') := Lib.hid (by rw [← hxs']; exact HX.out.1.app (Dg.zeros _))
    have HXU : Hid (U xs' = U xs) := Lib.hid (by rw [← hxs', U_zeros_app])
    have HGE : Hid (4294967296 ^ (n' - 1) ≤ U xs + U ys) := Lib.hid (by have := U_ge HY.out (by intro h; have := HL2.out; rw [h] at this; simp at this; omega); rw [HL2.out] at this; omega)
    have hn2' : n' ≤ n' := Nat.le_refl _
    clear hxs' hown1 hg1 hn1 HO
    have hlen' : xs'.length = n' := how1.len
    obtain ⟨R, hw, hBg, hcap, hmax⟩ := how1.win
    have hgl := hw.lt
    have HLN := Lib.hid hlen'
    clear hlen' how1
    refine (addInto_any g 0 [] R xs' ys n' c' n' c2 A2 w1 HLN.out HL2.out rfl hw ((hr2.below hB1 (Nat.le_refl _)).more hBg) HD'.out HY.out.1 (by omega) hn2' hc1).mono ?_
    rintro e w2 ⟨ov, zs, rfl, hzl, hzd, hzU, hov, hwin, hgr⟩
    have hB2 : Below B w w2 := hB1.trans (wrote_below hgr hBg hgl)
    have hBs := hB2.size
    have how2 : Ow w2 B (.slice (some ⟨g, 0, none⟩) n' c') n' zs := Ow.of_win hwin hzl hBg hcap hmax
    have HOW := Lib.hid how2
    have HZL := Lib.hid hzl
    have HCAP := Lib.hid hcap
    clear how2 hzl hw hcap hwin
    rcases (show ov = 0 ∨ ov = 1 by omega) with rfl | rfl
    · have hu : U zs = U xs + U ys := by have := HXU.out; omega
      have hcz : Cn zs := Cn.of_ge hzd (fun _ => by rw [HZL.out, hu]; exact HGE.out)
      have HU := Lib.hid hu
      clear hu hzU
      go_wp2_with fail
      go_ret
      exact ⟨_, zs, rfl, by rw [HZL.out]; exact HOW.out, hcz, HU.out, hB2⟩
    · have hu : U (zs ++ [1]) = U xs + U ys := by rw [U_one_more, HZL.out]; have := HXU.out; omega
      have HU := Lib.hid hu
      have ho3 := HOW.out.below ((Below.refl _ w2).alloc (Nat.le_refl _) (.cells #[.int .u32 1] 67))
      have HO3 : Hid (World.ownsRow (w2.alloc (.cells #[.int .u32 1] 67)) B 67 1 (.slice (some ⟨g, 0, none⟩) n' c') zs.length (u32s zs)) := Lib.hid (by rw [HZL.out]; exact ho3)
      have HR1 : Hid (Ra (w2.alloc (.cells #[.int .u32 1] 67)) (w2.heap.size + 1) (some ⟨w2.heap.size, 0, none⟩) [1]) := Lib.hid (by simpa using Ra.one w2 1 67)
      clear hu hzU ho3
      go_wp2_with (at_builtin; go_loud (refine wpList_append_u32s _ rfl (.tmp 23) (.tmp 25) 23 rfl B 67 Tryd.underlying23 info_u32 (.slice (some ⟨g, 0, none⟩) n' c') zs rfl HO3.out (w2.heap.size + 1) (some ⟨w2.heap.size, 0, none⟩) 1 [1] _ rfl rfl HR1.out (by have := HZL.out; simp; omega) (by simp; omega) ?_); intro A4 n4 c4 w4 hl4 hc4 hown4 hg4)
      go_ret
      exact ⟨_, zs ++ [1], rfl, by rw [hl4.out]; exact hown4.out, Cn.one_more hzd, HU.out, (hB2.alloc (by omega) _).grown hg4 (by simp; omega) (by intro k hk; simp [Value.ownBlock] at hk; omega)⟩
  · rcases hrow with ⟨rfl, rfl, rfl, rfl⟩ | ⟨g, rfl⟩
    · obtain rfl : n2 = 0 := by omega
      have hys : ys = [] := List.eq_nil_of_length_eq_zero HL2.out
      have HYS := Lib.hid hys
      clear hys
      go_enter Tryd.func70, Tryd.ntmps70
      go_wp2_with fail
      refine (addInto_nil c2 A2 w).mono ?_
      rintro e w2 ⟨rfl, rfl⟩
      go_wp2_with fail
      go_ret
      exact ⟨_, [], rfl, Ow.nil _ _, Cn.nil, by rw [HYS.out]; rfl, Below.refl _ _⟩
    obtain ⟨n', hn'⟩ : ∃ n', n' = n := ⟨_, rfl⟩
    obtain ⟨c', hc'⟩ : ∃ c', c' = c := ⟨_, rfl⟩
    obtain ⟨xs', hxs'⟩ : ∃ xs', xs' = xs := ⟨_, rfl⟩
    obtain ⟨w1, hw1⟩ : ∃ w1, w1 = w := ⟨_, rfl⟩
    subst hn' hc' hxs' hw1
    have how1 := HO.out
    have hB1 : Below B w1 w1 := Below.refl _ _
    have hc1 := hc
    have HD' : Hid (Dg xs') := Lib.hid HX.out.1
    have HXU : Hid (U xs' = U xs') := Lib.hid rfl
    have HGE : Hid (xs' ≠ [] → 4294967296 ^ (n' - 1) ≤ U xs' + U ys) := Lib.hid (fun h => by have := U_ge HX.out h; rw [HL.out] at this; omega)
    have hn2' : n2 ≤ n' := by omega
    go_enter Tryd.func70, Tryd.ntmps70
    go_wp2_with fail
    clear HO
    have hlen' : xs'.length = n' := how1.len
    obtain ⟨R, hw, hBg, hcap, hmax⟩ := how1.win
    have hgl := hw.lt
    have HLN := Lib.hid hlen'
    clear hlen' how1
    refine (addInto_any g 0 [] R xs' ys n' c' n2 c2 A2 w1 HLN.out HL2.out rfl hw ((hr2.below hB1 (Nat.le_refl _)).more hBg) HD'.out HY.out.1 (by omega) hn2' hc1).mono ?_
    rintro e w2 ⟨ov, zs, rfl, hzl, hzd, hzU, hov, hwin, hgr⟩
    have hB2 : Below B w1 w2 := hB1.trans (wrote_below hgr hBg hgl)
    have hBs := hB2.size
    have how2 : Ow w2 B (.slice (some ⟨g, 0, none⟩) n' c') n' zs := Ow.of_win hwin hzl hBg hcap hmax
    have HOW := Lib.hid how2
    have HZL := Lib.hid hzl
    have HCAP := Lib.hid hcap
    clear how2 hzl hw hcap hwin
    rcases (show ov = 0 ∨ ov = 1 by omega) with rfl | rfl
    · have hu : U zs = U xs' + U ys := by have := HXU.out; omega
      have hcz : Cn zs := Cn.of_ge hzd (fun hne => by rw [HZL.out, hu]; refine HGE.out (fun h => ?_); have h1 := HLN.out; rw [h] at h1; have h2 := List.length_pos_iff.2 hne; have := HZL.out; simp at h1; omega)
      have HU := Lib.hid hu
      clear hu hzU
      go_wp2_with fail
      go_ret
      exact ⟨_, zs, rfl, by rw [HZL.out]; exact HOW.out, hcz, HU.out, hB2⟩
    · have hu : U (zs ++ [1]) = U xs' + U ys := by rw [U_one_more, HZL.out]; have := HXU.out; omega
      have HU := Lib.hid hu
      have ho3 := HOW.out.below ((Below.refl _ w2).alloc (Nat.le_refl _) (.cells #[.int .u32 1] 67))
      have HO3 : Hid (World.ownsRow (w2.alloc (.cells #[.int .u32 1] 67)) B 67 1 (.slice (some ⟨g, 0, none⟩) n' c') zs.length (u32s zs)) := Lib.hid (by rw [HZL.out]; exact ho3)
      have HR1 : Hid (Ra (w2.alloc (.cells #[.int .u32 1] 67)) (w2.heap.size + 1) (some ⟨w2.heap.size, 0, none⟩) [1]) := Lib.hid (by simpa using Ra.one w2 1 67)
      clear hu hzU ho3
      go_wp2_with (at_builtin; go_loud (refine wpList_append_u32s _ rfl (.tmp 23) (.tmp 25) 23 rfl B 67 Tryd.underlying23 info_u32 (.slice (some ⟨g, 0, none⟩) n' c') zs rfl HO3.out (w2.heap.size + 1) (some ⟨w2.heap.size, 0, none⟩) 1 [1] _ rfl rfl HR1.out (by have := HZL.out; simp; omega) (by simp; omega) ?_); intro A4 n4 c4 w4 hl4 hc4 hown4 hg4)
      go_ret
      exact ⟨_, zs ++ [1], rfl, by rw [hl4.out]; exact hown4.out, Cn.one_more hzd, HU.out, (hB2.alloc (by omega) _).grown hg4 (by simp; omega) (by intro k hk; simp [Value.ownBlock] at hk; omega)⟩
end Go.Proofs.YtemalomcdiahiaaDoor
