/-
  The document's fractions: texts.
-/
import Derived.Test.YtaifigkbblncpaaGreatDoorTextQ
import Derived.Test.YtaifigkbblncpaaGreatDoorML
import Derived.Test.YtaifigkbblncpaaGreatDoorSkip
namespace Go.Proofs.YtaifigkbblncpaaGreatDoor
open Go.RowKit
set_option maxRecDepth 100000

theorem dec_len16 {a j : Nat} (h : a < 65536 ^ j) : (Lib.decDigits a).length ≤ 5 * j + 1 := by
  have := leftD_len h
  unfold leftD at this
  split at this
  · rename_i h0
    rw [h0, Lib.decDigits_one (by omega)]
    simp
  · exact this

set_option maxHeartbeats 8000000 in
theorem ref4Text_r {j : Nat} {B1 B2 : Option Addr} {i1 e1 i2 e2 : Nat} {q : Nat × Nat} (w : World) (h : QNum w B1 i1 e1 B2 i2 e2 q) (hq1 : q.1 < 65536 ^ j) (hq2 : q.2 < 65536 ^ j) (h0 : 0 < j) (hj : j ≤ 900) :
    Calls Tryz.prog 12 #[.agg #[.slice B1 i1 e1, .slice B2 i2 e2]] w fun e w' => e = .returned (.string ⟨(ftxt q).toArray⟩) ∧ Below w.heap.size w w' := by
  obtain ⟨⟨La, ha⟩, ⟨Lb, hlb⟩⟩ := h
  have hbb := b1 w (.cells #[.slice B1 i1 e1, .slice B2 i2 e2] 35)
  have k := Blk.new w 35 #[.slice B1 i1 e1, .slice B2 i2 e2]
  obtain ⟨Wb, hWb⟩ : ∃ Wb, w.alloc (.cells #[.slice B1 i1 e1, .slice B2 i2 e2] 35) = Wb := ⟨_, rfl⟩
  rw [hWb] at hbb k
  have x1 : Wb.cell? ⟨w.heap.size, 0, none⟩ = some (.slice B1 i1 e1) := k.cell 0
  have x2 : Wb.cell? ⟨w.heap.size, 1, none⟩ = some (.slice B2 i2 e2) := k.cell 1
  have HA := Lib.hid (ha.below hbb)
  have HB := Lib.hid (hlb.below hbb)
  have HQ1 := Lib.hid hq1
  have HQ2 := Lib.hid hq2
  have HQ3 : Hid (1 < 65536 ^ j) := Lib.hid (Nat.one_lt_pow (by omega) (by omega))
  have hst : Below Wb.heap.size Wb Wb.drew := (Below.refl _ _).drew
  have HBS := Lib.hid hst
  have hl1 := dec_len16 hq1
  have hl2 := dec_len16 hq2
  obtain ⟨cz, hcz⟩ : ∃ c, cmpI q.2 1 = c := ⟨_, rfl⟩
  have hz := cmpI_zero q.2 1
  rw [hcz] at hz
  have HCZ := Lib.hid hcz
  clear ha hlb hq1 hq2 k hcz
  by_cases hone : q.2 = 1
  · rw [decide_eq_true hone] at hz
    have HZB := Lib.hid hz
    have hft : (Lib.decDigits q.1) = ftxt q := by unfold ftxt; rw [if_pos hone]
    have HF := Lib.hid hft
    clear hz hone hl1 hl2 hft
    go_enter Tryz.func12, Tryz.ntmps12
    go_wp2_with fail
    clear hWb
    refine wp_region_held_drew (S := fun W => Below Wb.heap.size Wb W) (by kernel_rfl) hst (fun hHeld => ?_)
    obtain ⟨wn, hwn⟩ : ∃ W, Wb.drew = W := ⟨_, rfl⟩
    rw [hwn] at HBS hHeld
    rw [hwn]
    clear hwn
    refine wpAnyH_take (i := 0) (v := ?_) (op_of rfl) (by kernel_rfl) (by kernel_rfl) (by kernel_rfl) (fun _ _ _ h => h) (Or.inl ⟨by rfl, fun W hS => ?_⟩) (by assumption) ?_
    rotate_left
    · dsimp only at hS
      go_simp
      try with_reducible rfl
    try dsimp only [Act.put]
    try simp only [List.setIfInBounds_toArray, List.set_cons_zero, List.set_cons_succ]
    refine wpAnyH_take (i := 1) (v := ?_) (op_of rfl) (by kernel_rfl) (by kernel_rfl) (by kernel_rfl) (fun _ _ _ h => h) (Or.inl ⟨by rfl, fun W hS => ?_⟩) (by assumption) ?_
    rotate_left
    · dsimp only at hS
      have z := (hS.cell (World.block_lt_of_cell? _ _ x2)).trans x2
      go_simp
      try with_reducible rfl
    try dsimp only [Act.put]
    try simp only [List.setIfInBounds_toArray, List.set_cons_zero, List.set_cons_succ]
    refine wpAnyH_ready (rs := [2]) (by kernel_rfl) (by simp) (AllReadyH.cons (op_of rfl) (fun K hK => ?_) AllReadyH.nil)
    go_simp
    refine (of_one wn).mono ?_
    rintro en wn ⟨v, rfl, hn, hb⟩
    obtain ⟨D1, m1, d1, rfl⟩ := hn.shape
    have HBS := Lib.hid (HBS.out.trans (hb.mono HBS.out.size))
    have HV := Lib.hid hn
    clear hn hb
    refine hK.out _ _ HBS.out (fun hHeld => ?_)
    clear hK K
    try dsimp only [Act.put]
    try simp only [List.setIfInBounds_toArray, List.set_cons_zero, List.set_cons_succ]
    refine wpAnyH_ready (rs := [3]) (by kernel_rfl) (by simp) (AllReadyH.cons (op_of rfl) (fun K hK => ?_) AllReadyH.nil)
    go_simp
    refine (cmp_num (j := j) (k := j) (.agg #[.slice B2 i2 e2]) (.agg #[.slice D1 m1 d1]) q.2 1 _ _ wn (HB.out.below HBS.out) HV.out HQ2.out HQ3.out (by omega) (by omega)).mono ?_
    rintro en wn ⟨hen, hb⟩
    obtain rfl : en = .returned (.int .i64 cz) := hen.trans (by rw [HCZ.out])
    have HBS := Lib.hid (HBS.out.trans (hb.mono HBS.out.size))
    clear hb hen HV
    refine hK.out _ _ HBS.out (fun hHeld => ?_)
    clear hK K
    try dsimp only [Act.put]
    try simp only [List.setIfInBounds_toArray, List.set_cons_zero, List.set_cons_succ]
    refine wpAnyH_take (i := 4) (v := ?_) (op_of rfl) (by kernel_rfl) (by kernel_rfl) (by kernel_rfl) (fun _ _ _ h => h) (Or.inl ⟨by rfl, fun W hS => ?_⟩) (by assumption) ?_
    rotate_left
    · dsimp only at hS
      have hz := HZB.out
      go_simp
      try rw [hz]
      try with_reducible rfl
    try dsimp only [Act.put]
    try simp only [List.setIfInBounds_toArray, List.set_cons_zero, List.set_cons_succ]
    refine wpAnyH_done (by kernel_rfl) ?_ _
    have y1 := (HBS.out.cell (World.block_lt_of_cell? _ _ x1)).trans x1
    go_wp2_with fail
    refine (refText_any (j := j) (.slice B1 i1 e1) q.1 La wn (HA.out.below HBS.out) HQ1.out (by omega)).mono ?_
    rintro en w5 ⟨rfl, hb⟩
    go_wp2_with fail
    go_ret
    exact ⟨by first | (rw [HF.out]; rfl) | rw [HF.out], hbb.trans ((HBS.out.trans (hb.mono HBS.out.size)).mono hbb.size)⟩
  · rw [decide_eq_false hone] at hz
    have HZB := Lib.hid hz
    obtain ⟨s, hs⟩ : ∃ s : ByteArray, (⟨(Lib.decDigits q.1).toArray⟩ : ByteArray) = s := ⟨_, rfl⟩
    obtain ⟨t, ht⟩ : ∃ t : ByteArray, (⟨(Lib.decDigits q.2).toArray⟩ : ByteArray) = t := ⟨_, rfl⟩
    have hss : s.size ≤ 5000 := by
      rw [← hs]
      have : (Lib.decDigits q.1).length ≤ 5000 := by omega
      simpa [ByteArray.size] using this
    have hts : t.size ≤ 5000 := by
      rw [← ht]
      have : (Lib.decDigits q.2).length ≤ 5000 := by omega
      simpa [ByteArray.size] using this
    have HF : Hid (s ++ (⟨#[47]⟩ : ByteArray) ++ t = ⟨(ftxt q).toArray⟩) := Lib.hid (by
      rw [← hs, ← ht]
      unfold ftxt
      rw [if_neg hone]
      ext1
      simp)
    have HSs := Lib.hid hs
    have HSt := Lib.hid ht
    have hadd1 := fun W => run_string_add_sum (P := Tryz.prog) W s (⟨#[47]⟩ : ByteArray) (by rw [show (⟨#[47]⟩ : ByteArray).size = 1 from rfl]; omega)
    have hadd2 := fun W => run_string_add_sum (P := Tryz.prog) W (s ++ (⟨#[47]⟩ : ByteArray)) t (by rw [ByteArray.size_append, show (⟨#[47]⟩ : ByteArray).size = 1 from rfl]; omega)
    have hsz1 : s.size ≤ 9223372036854775806 := by omega
    have hsz2 : s.size + 1 + t.size ≤ 9223372036854775807 := by omega
    have hsz3 : ¬ 9223372036854775807 < s.size + 1 + t.size := by omega
    have hsz4 : ¬ 9223372036854775807 < s.size + 1 := by omega
    have hsz5 : ¬ 9223372036854775807 ≤ s.size := by omega
    clear hz hone hl1 hl2 hs ht
    go_enter Tryz.func12, Tryz.ntmps12
    go_wp2_with fail
    clear hWb
    have HBM := HBS
    clear HBS
    refine wp_region_held_drew (S := fun W => Below Wb.heap.size Wb W) (by kernel_rfl) hst (fun hHelm => ?_)
    obtain ⟨wm, hwm⟩ : ∃ W, Wb.drew = W := ⟨_, rfl⟩
    rw [hwm] at HBM hHelm
    rw [hwm]
    clear hwm
    refine wpAnyH_take (i := 0) (v := ?_) (op_of rfl) (by kernel_rfl) (by kernel_rfl) (by kernel_rfl) (fun _ _ _ h => h) (Or.inl ⟨by rfl, fun W hS => ?_⟩) (by assumption) ?_
    rotate_left
    · dsimp only at hS
      go_simp
      try with_reducible rfl
    try dsimp only [Act.put]
    try simp only [List.setIfInBounds_toArray, List.set_cons_zero, List.set_cons_succ]
    refine wpAnyH_take (i := 1) (v := ?_) (op_of rfl) (by kernel_rfl) (by kernel_rfl) (by kernel_rfl) (fun _ _ _ h => h) (Or.inl ⟨by rfl, fun W hS => ?_⟩) (by assumption) ?_
    rotate_left
    · dsimp only at hS
      have z := (hS.cell (World.block_lt_of_cell? _ _ x2)).trans x2
      go_simp
      try with_reducible rfl
    try dsimp only [Act.put]
    try simp only [List.setIfInBounds_toArray, List.set_cons_zero, List.set_cons_succ]
    refine wpAnyH_ready (rs := [2]) (by kernel_rfl) (by simp) (AllReadyH.cons (op_of rfl) (fun K hK => ?_) AllReadyH.nil)
    go_simp
    refine (of_one wm).mono ?_
    rintro en wm ⟨v, rfl, hn, hb⟩
    obtain ⟨D1, m1, d1, rfl⟩ := hn.shape
    have HBM := Lib.hid (HBM.out.trans (hb.mono HBM.out.size))
    have HV := Lib.hid hn
    clear hn hb
    refine hK.out _ _ HBM.out (fun hHelm => ?_)
    clear hK K
    try dsimp only [Act.put]
    try simp only [List.setIfInBounds_toArray, List.set_cons_zero, List.set_cons_succ]
    refine wpAnyH_ready (rs := [3]) (by kernel_rfl) (by simp) (AllReadyH.cons (op_of rfl) (fun K hK => ?_) AllReadyH.nil)
    go_simp
    refine (cmp_num (j := j) (k := j) (.agg #[.slice B2 i2 e2]) (.agg #[.slice D1 m1 d1]) q.2 1 _ _ wm (HB.out.below HBM.out) HV.out HQ2.out HQ3.out (by omega) (by omega)).mono ?_
    rintro en wm ⟨hen, hb⟩
    obtain rfl : en = .returned (.int .i64 cz) := hen.trans (by rw [HCZ.out])
    have HBM := Lib.hid (HBM.out.trans (hb.mono HBM.out.size))
    clear hb hen HV
    refine hK.out _ _ HBM.out (fun hHelm => ?_)
    clear hK K
    try dsimp only [Act.put]
    try simp only [List.setIfInBounds_toArray, List.set_cons_zero, List.set_cons_succ]
    refine wpAnyH_take (i := 4) (v := ?_) (op_of rfl) (by kernel_rfl) (by kernel_rfl) (by kernel_rfl) (fun _ _ _ h => h) (Or.inl ⟨by rfl, fun W hS => ?_⟩) (by assumption) ?_
    rotate_left
    · dsimp only at hS
      have hz := HZB.out
      go_simp
      try rw [hz]
      try with_reducible rfl
    try dsimp only [Act.put]
    try simp only [List.setIfInBounds_toArray, List.set_cons_zero, List.set_cons_succ]
    refine wpAnyH_done (by kernel_rfl) ?_ _
    go_wp2_with fail
    have HA2 := Lib.hid (HA.out.below HBM.out)
    have HB2 := Lib.hid (HB.out.below HBM.out)
    have y1 := (HBM.out.cell (World.block_lt_of_cell? _ _ x1)).trans x1
    have y2 := (HBM.out.cell (World.block_lt_of_cell? _ _ x2)).trans x2
    have hst2 : Below wm.heap.size wm wm.drew := (Below.refl _ _).drew
    have HBS := Lib.hid hst2
    clear x1 x2 hst
    refine wp_region_held_drew (S := fun W => Below wm.heap.size wm W) (by kernel_rfl) hst2 (fun hHeld => ?_)
    obtain ⟨wn, hwn⟩ : ∃ W, wm.drew = W := ⟨_, rfl⟩
    rw [hwn] at HBS hHeld
    rw [hwn]
    clear hwn
    refine wpAnyH_take (i := 0) (v := ?_) (op_of rfl) (by kernel_rfl) (by kernel_rfl) (by kernel_rfl) (fun _ _ _ h => h) (Or.inl ⟨by rfl, fun W hS => ?_⟩) (by assumption) ?_
    rotate_left
    · dsimp only at hS
      go_simp
      try with_reducible rfl
    try dsimp only [Act.put]
    try simp only [List.setIfInBounds_toArray, List.set_cons_zero, List.set_cons_succ]
    refine wpAnyH_take (i := 1) (v := ?_) (op_of rfl) (by kernel_rfl) (by kernel_rfl) (by kernel_rfl) (fun _ _ _ h => h) (Or.inl ⟨by rfl, fun W hS => ?_⟩) (by assumption) ?_
    rotate_left
    · dsimp only at hS
      have z := (hS.cell (World.block_lt_of_cell? _ _ y1)).trans y1
      go_simp
      try with_reducible rfl
    try dsimp only [Act.put]
    try simp only [List.setIfInBounds_toArray, List.set_cons_zero, List.set_cons_succ]
    refine wpAnyH_take (i := 4) (v := ?_) (op_of rfl) (by kernel_rfl) (by kernel_rfl) (by kernel_rfl) (fun _ _ _ h => h) (Or.inl ⟨by rfl, fun W hS => ?_⟩) (by assumption) ?_
    rotate_left
    · dsimp only at hS
      go_simp
      try with_reducible rfl
    try dsimp only [Act.put]
    try simp only [List.setIfInBounds_toArray, List.set_cons_zero, List.set_cons_succ]
    refine wpAnyH_take (i := 5) (v := ?_) (op_of rfl) (by kernel_rfl) (by kernel_rfl) (by kernel_rfl) (fun _ _ _ h => h) (Or.inl ⟨by rfl, fun W hS => ?_⟩) (by assumption) ?_
    rotate_left
    · dsimp only at hS
      have z := (hS.cell (World.block_lt_of_cell? _ _ y2)).trans y2
      go_simp
      try with_reducible rfl
    try dsimp only [Act.put]
    try simp only [List.setIfInBounds_toArray, List.set_cons_zero, List.set_cons_succ]
    refine wpAnyH_ready (rs := [2]) (by kernel_rfl) (by simp) (AllReadyH.cons (op_of rfl) (fun K hK => ?_) AllReadyH.nil)
    go_simp
    refine (refText_any (j := j) (.slice B1 i1 e1) q.1 _ wn (HA2.out.below HBS.out) HQ1.out (by omega)).mono ?_
    rintro en wn ⟨hen, hb⟩
    obtain rfl : en = .returned (.string s) := hen.trans (by rw [HSs.out])
    have HBS := Lib.hid (HBS.out.trans (hb.mono HBS.out.size))
    clear hb hen
    refine hK.out _ _ HBS.out (fun hHeld => ?_)
    clear hK K
    try dsimp only [Act.put]
    try simp only [List.setIfInBounds_toArray, List.set_cons_zero, List.set_cons_succ]
    refine wpAnyH_take (i := 3) (v := ?_) (op_of rfl) (by kernel_rfl) (by kernel_rfl) (by kernel_rfl) (fun _ _ _ h => h) (Or.inl ⟨by rfl, fun W hS => ?_⟩) (by assumption) ?_
    rotate_left
    · dsimp only at hS
      go_simp
      try with_reducible rfl
    try dsimp only [Act.put]
    try simp only [List.setIfInBounds_toArray, List.set_cons_zero, List.set_cons_succ]
    refine wpAnyH_ready (rs := [6]) (by kernel_rfl) (by simp) (AllReadyH.cons (op_of rfl) (fun K hK => ?_) AllReadyH.nil)
    go_simp
    refine (refText_any (j := j) (.slice B2 i2 e2) q.2 _ wn (HB2.out.below HBS.out) HQ2.out (by omega)).mono ?_
    rintro en wn ⟨hen, hb⟩
    obtain rfl : en = .returned (.string t) := hen.trans (by rw [HSt.out])
    have HBS := Lib.hid (HBS.out.trans (hb.mono HBS.out.size))
    clear hb hen
    refine hK.out _ _ HBS.out (fun hHeld => ?_)
    clear hK K
    try dsimp only [Act.put]
    try simp only [List.setIfInBounds_toArray, List.set_cons_zero, List.set_cons_succ]
    refine wpAnyH_take (i := 7) (v := ?_) (op_of rfl) (by kernel_rfl) (by kernel_rfl) (by kernel_rfl) (fun _ _ _ h => h) (Or.inl ⟨by rfl, fun W hS => ?_⟩) (by assumption) ?_
    rotate_left
    · dsimp only at hS
      go_simp
      try with_reducible rfl
    try dsimp only [Act.put]
    try simp only [List.setIfInBounds_toArray, List.set_cons_zero, List.set_cons_succ]
    refine wpAnyH_ready (rs := [8]) (by kernel_rfl) (by simp) (AllReadyH.cons (op_of rfl) (fun K hK => ?_) AllReadyH.nil)
    go_simp
    refine hK.out _ _ HBS.out (fun hHeld => ?_)
    clear hK K
    try dsimp only [Act.put]
    try simp only [List.setIfInBounds_toArray, List.set_cons_zero, List.set_cons_succ]
    refine wpAnyH_done (by kernel_rfl) ?_ _
    go_wp2_with fail
    go_ret
    exact ⟨by first | (rw [HF.out]; rfl) | rw [HF.out], hbb.trans ((HBM.out.trans (HBS.out.mono HBM.out.size)).mono hbb.size)⟩
end Go.Proofs.YtaifigkbblncpaaGreatDoor
