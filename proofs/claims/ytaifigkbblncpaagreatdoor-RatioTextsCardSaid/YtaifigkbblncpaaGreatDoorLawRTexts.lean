/-
  The text of any right fraction, and the fraction of any text: the walk.
-/
import Derived.Test.YtaifigkbblncpaaGreatDoorRatP
import Derived.Test.YtaifigkbblncpaaGreatDoorRat4P
import Derived.Test.YtaifigkbblncpaaGreatDoorMK
namespace Go.Proofs.YtaifigkbblncpaaGreatDoor
open Go.RowKit
set_option maxRecDepth 100000

set_option maxHeartbeats 4000000 in
theorem ratioText_one {A1 A2 : Option Addr} {n1 c1 n2 c2 a M : Nat} (w : World) (h1 : Nr w (.slice A1 n1 c1) a M) (h2 : Nr w (.slice A2 n2 c2) 1 M) (hM : M ≤ 100) (htab : Tab w) :
    Calls Tryz.prog 11 #[.agg #[.slice A1 n1 c1, .slice A2 n2 c2]] w fun e w' => e = .returned (.string ⟨(Lib.decDigits a).toArray⟩) ∧ Below w.heap.size w w' := by
  have hb := b1 w (.cells #[.slice A1 n1 c1, .slice A2 n2 c2] 25)
  have k0 := cn0 w 25 (.slice A1 n1 c1) (.slice A2 n2 c2)
  have k1 := cn1 w 25 (.slice A1 n1 c1) (.slice A2 n2 c2)
  obtain ⟨W0, hW0⟩ : ∃ W0, w.alloc (.cells #[.slice A1 n1 c1, .slice A2 n2 c2] 25) = W0 := ⟨_, rfl⟩
  rw [hW0] at hb k0 k1
  have H1 := Lib.hid (h1.below hb)
  have H2 := Lib.hid (h2.below hb)
  have HT := Lib.hid (htab.below hb)
  have ho := isOne_r true W0 H2.out (by omega) (by simp)
  have HTX := Lib.hid (text_r W0 H1.out (by omega) HT.out)
  clear h1 h2
  go_enter Tryz.func11, Tryz.ntmps11
  go_wp2_with fail
  refine ho.mono ?_
  rintro e w' ⟨rfl, rfl⟩
  go_wp2_with fail
  refine HTX.out.mono ?_
  rintro e w2 ⟨rfl, hb2⟩
  go_wp2_with fail
  go_ret
  exact ⟨rfl, hb.trans (hb2.mono hb.size)⟩
theorem ratioText_r {A1 A2 : Option Addr} {n1 c1 n2 c2 M : Nat} (q : Nat × Nat) (w : World) (h1 : Nr w (.slice A1 n1 c1) q.1 M) (h2 : Nr w (.slice A2 n2 c2) q.2 M) (hM : M ≤ 100) (htab : Tab w) :
    Calls Tryz.prog 11 #[.agg #[.slice A1 n1 c1, .slice A2 n2 c2]] w fun e w' => e = .returned (.string ⟨(ftxt q).toArray⟩) ∧ Below w.heap.size w w' := by
  by_cases h : q.2 = 1
  · have e1 : ftxt q = Lib.decDigits q.1 := by unfold ftxt; rw [if_pos h]
    rw [e1]
    rw [h] at h2
    exact ratioText_one w h1 h2 hM htab
  · have e1 : (⟨(ftxt q).toArray⟩ : ByteArray) = ⟨(Lib.decDigits q.1).toArray⟩ ++ ⟨#[47]⟩ ++ ⟨(Lib.decDigits q.2).toArray⟩ := by
      unfold ftxt
      rw [if_neg h]
      ext1
      simp
    rw [e1]
    exact ratioText_two w h1 h2 hM h htab
theorem fp_small {l : List UInt8} {q : Nat × Nat} (h : fp l = some q) {j : Nat} (hl : l.length ≤ j) (hj : 0 < j) : q.1 < 65536 ^ j ∧ q.2 < 65536 ^ j := by
  unfold fp at h
  split at h
  · split at h
    · rename_i h0
      simp only [Bool.and_eq_true] at h0
      injection h with h
      subst h
      exact ⟨dec_small16 h0.1.1.1.1 (by rw [List.length_take]; omega), dec_small16 h0.1.1.1.2 (by rw [List.length_drop]; omega)⟩
    · cases h
  · split at h
    · rename_i h0
      injection h with h
      subst h
      exact ⟨dec_small16 h0 (by rw [List.length_take]; omega), Nat.one_lt_pow (by omega) (by omega)⟩
    · cases h
theorem ftxt_len {q : Nat × Nat} {M : Nat} (h1 : q.1 < 4294967296 ^ M) (h2 : q.2 < 4294967296 ^ M) (hM : M ≤ 100) : (ftxt q).length ≤ 2003 := by
  have a1 := dec_len h1 hM
  have a2 := dec_len h2 hM
  unfold ftxt
  split
  · omega
  · simp only [List.length_append, List.length_cons]
    omega

set_option maxHeartbeats 8000000 in
theorem rtexts_no0 (A1 A2 : Option Addr) (X1 X2 : List Nat) (n1 c1 n2 c2 : Nat) (s : ByteArray) (w : World) (hl1 : X1.length = n1) (hk1 : n1 ≤ c1) (hr1 : Ra w w.heap.size A1 X1) (hd1 : Dg X1) (hl2 : X2.length = n2) (hk2 : n2 ≤ c2) (hr2 : Ra w w.heap.size A2 X2) (hd2 : Dg X2) (htab : Tab w) (hs0 : ¬ (n1 ≤ 6 ∧ n2 ≤ 6)) :
    Calls Tryz.prog 3 #[.agg #[.slice A1 n1 c1, .slice A2 n2 c2], .string s] w fun e w' => e = .returned (.bool true) ∧ Below w.heap.size w w' := by
  have hb := b1 w (.cells #[.slice A1 n1 c1, .slice A2 n2 c2] 25)
  have hk := Blk.new w 25 #[.slice A1 n1 c1, .slice A2 n2 c2]
  obtain ⟨W0, hW0⟩ : ∃ W, w.alloc (.cells #[.slice A1 n1 c1, .slice A2 n2 c2] 25) = W := ⟨_, rfl⟩
  rw [hW0] at hb hk
  have HR1 := Lib.hid ((hr1.below hb (Nat.le_refl _)).more hb.size)
  have HR2 := Lib.hid ((hr2.below hb (Nat.le_refl _)).more hb.size)
  have HL1 := Lib.hid hl1
  have HL2 := Lib.hid hl2
  have HD1 := Lib.hid hd1
  have HD2 := Lib.hid hd2
  have HTAB := Lib.hid (htab.below hb)
  have HA := Lib.hid hk
  have HB := Lib.hid hb
  have x0 := hk.cell 0
  have x1 := hk.cell 1
  simp only [List.getElem?_toArray, List.getElem?_cons_zero, List.getElem?_cons_succ] at x0 x1
  clear hl1 hr1 hd1 hl2 hr2 hd2 htab hb hk
  go_enter Tryz.func3, Tryz.ntmps3
  go_wp2_with fail
  clear hW0
  refine (short_yes A1 A2 n1 c1 n2 c2 false W0 (by rw [Bool.and_eq_false_iff]; simp; omega)).mono ?_
  rintro e w1 ⟨rfl, hb⟩
  clear x0 x1
  have HTAB := Lib.hid (HTAB.out.below hb)
  have hla := HA.out.lt
  have HA := Lib.hid (HA.out.below hb hla)
  have HR1 := Lib.hid ((HR1.out.below hb (Nat.le_refl _)).more hb.size)
  have HR2 := Lib.hid ((HR2.out.below hb (Nat.le_refl _)).more hb.size)
  have HB := Lib.hid (HB.out.trans (hb.mono HB.out.size))
  clear hb hla
  go_wp2_with fail
  refine (alive4_any w1 HTAB.out).mono ?_
  rintro e wz ⟨rfl, hb⟩
  go_wp2_with fail
  go_ret
  exact ⟨rfl, HB.out.trans (hb.mono HB.out.size)⟩

set_option maxHeartbeats 8000000 in
theorem rtexts_no1 (A1 A2 : Option Addr) (X1 X2 : List Nat) (n1 c1 n2 c2 : Nat) (s : ByteArray) (w : World) (hl1 : X1.length = n1) (hk1 : n1 ≤ c1) (hr1 : Ra w w.heap.size A1 X1) (hd1 : Dg X1) (hl2 : X2.length = n2) (hk2 : n2 ≤ c2) (hr2 : Ra w w.heap.size A2 X2) (hd2 : Dg X2) (htab : Tab w) (hs0 : n1 ≤ 6 ∧ n2 ≤ 6) (hs1 : (200 < s.size ∧ s.size ≤ 4096) ∨ 5000 < s.size) :
    Calls Tryz.prog 3 #[.agg #[.slice A1 n1 c1, .slice A2 n2 c2], .string s] w fun e w' => e = .returned (.bool true) ∧ Below w.heap.size w w' := by
  have hb := b1 w (.cells #[.slice A1 n1 c1, .slice A2 n2 c2] 25)
  have hk := Blk.new w 25 #[.slice A1 n1 c1, .slice A2 n2 c2]
  obtain ⟨W0, hW0⟩ : ∃ W, w.alloc (.cells #[.slice A1 n1 c1, .slice A2 n2 c2] 25) = W := ⟨_, rfl⟩
  rw [hW0] at hb hk
  have HR1 := Lib.hid ((hr1.below hb (Nat.le_refl _)).more hb.size)
  have HR2 := Lib.hid ((hr2.below hb (Nat.le_refl _)).more hb.size)
  have HL1 := Lib.hid hl1
  have HL2 := Lib.hid hl2
  have HD1 := Lib.hid hd1
  have HD2 := Lib.hid hd2
  have HTAB := Lib.hid (htab.below hb)
  have HA := Lib.hid hk
  have HB := Lib.hid hb
  have x0 := hk.cell 0
  have x1 := hk.cell 1
  simp only [List.getElem?_toArray, List.getElem?_cons_zero, List.getElem?_cons_succ] at x0 x1
  clear hl1 hr1 hd1 hl2 hr2 hd2 htab hb hk
  rcases hs1 with ⟨h2, h3⟩ | h2
  · have i1 : (200 : Int) < (s.size : Int) := by omega
    have i2 : (s.size : Int) ≤ 4096 := by omega
    go_enter Tryz.func3, Tryz.ntmps3
    go_wp2_with fail
    clear hW0
    refine (short_yes A1 A2 n1 c1 n2 c2 true W0 (by simp [hs0])).mono ?_
    rintro e w1 ⟨rfl, hb⟩
    clear x0 x1
    have HTAB := Lib.hid (HTAB.out.below hb)
    have hla := HA.out.lt
    have HA := Lib.hid (HA.out.below hb hla)
    have HR1 := Lib.hid ((HR1.out.below hb (Nat.le_refl _)).more hb.size)
    have HR2 := Lib.hid ((HR2.out.below hb (Nat.le_refl _)).more hb.size)
    have HB := Lib.hid (HB.out.trans (hb.mono HB.out.size))
    clear hb hla
    go_wp2_with fail
    refine (alive4_any w1 HTAB.out).mono ?_
    rintro e wz ⟨rfl, hb⟩
    go_wp2_with fail
    go_ret
    exact ⟨rfl, HB.out.trans (hb.mono HB.out.size)⟩
  · have i1 : (200 : Int) < (s.size : Int) := by omega
    have i2 : ¬ (s.size : Int) ≤ 4096 := by omega
    have i3 : (5000 : Int) < (s.size : Int) := by omega
    go_enter Tryz.func3, Tryz.ntmps3
    go_wp2_with fail
    clear hW0
    refine (short_yes A1 A2 n1 c1 n2 c2 true W0 (by simp [hs0])).mono ?_
    rintro e w1 ⟨rfl, hb⟩
    clear x0 x1
    have HTAB := Lib.hid (HTAB.out.below hb)
    have hla := HA.out.lt
    have HA := Lib.hid (HA.out.below hb hla)
    have HR1 := Lib.hid ((HR1.out.below hb (Nat.le_refl _)).more hb.size)
    have HR2 := Lib.hid ((HR2.out.below hb (Nat.le_refl _)).more hb.size)
    have HB := Lib.hid (HB.out.trans (hb.mono HB.out.size))
    clear hb hla
    go_wp2_with fail
    refine (alive4_any w1 HTAB.out).mono ?_
    rintro e wz ⟨rfl, hb⟩
    go_wp2_with fail
    go_ret
    exact ⟨rfl, HB.out.trans (hb.mono HB.out.size)⟩

/-- What is written is read. -/
theorem parsed_txt {w w' : World} {q : Nat × Nat} {e : Ending} (hq : Rt q) (h : RatParsed w (ftxt q) e w') :
    ∃ A1 n1 c1 A2 n2 c2, e = .returned (.tuple #[.agg #[.slice A1 n1 c1, .slice A2 n2 c2], .int .i64 0]) ∧ Nv w' w.heap.size (.slice A1 n1 c1) q.1 ∧ Nv w' w.heap.size (.slice A2 n2 c2) q.2 ∧ Below w.heap.size w w' := by
  rcases h with ⟨q', A1, n1, c1, A2, n2, c2, hf, he, h1, h2, hb⟩ | ⟨hf, _⟩
  · rw [fp_txt hq] at hf
    injection hf with hf
    subst hf
    exact ⟨A1, n1, c1, A2, n2, c2, he, h1, h2, hb⟩
  · rw [fp_txt hq] at hf
    cases hf

theorem parsed_some {w w' : World} {l : List UInt8} {q : Nat × Nat} {e : Ending} (hq : fp l = some q) (h : RatParsed w l e w') :
    ∃ A1 n1 c1 A2 n2 c2, e = .returned (.tuple #[.agg #[.slice A1 n1 c1, .slice A2 n2 c2], .int .i64 0]) ∧ Nv w' w.heap.size (.slice A1 n1 c1) q.1 ∧ Nv w' w.heap.size (.slice A2 n2 c2) q.2 ∧ Below w.heap.size w w' := by
  rcases h with ⟨q', A1, n1, c1, A2, n2, c2, hf, he, h1, h2, hb⟩ | ⟨hf, _⟩
  · rw [hq] at hf
    injection hf with hf
    subst hf
    exact ⟨A1, n1, c1, A2, n2, c2, he, h1, h2, hb⟩
  · rw [hq] at hf
    cases hf
theorem parsed_none {w w' : World} {l : List UInt8} {e : Ending} (hq : fp l = none) (h : RatParsed w l e w') : e = .returned (.tuple #[.agg #[.slice none 0 0, .slice none 0 0], .int .i64 3]) ∧ Below w.heap.size w w' := by
  rcases h with ⟨q', _, _, _, _, _, _, hf, _⟩ | ⟨_, he, hb⟩
  · rw [hq] at hf
    cases hf
  · exact ⟨he, hb⟩
theorem parsed4_some {w w' : World} {l : List UInt8} {q : Nat × Nat} {e : Ending} (hq : fp l = some q) (h : Rat4Parsed w l e w') :
    ∃ A1 n1 c1 A2 n2 c2, e = .returned (.tuple #[.agg #[.slice A1 n1 c1, .slice A2 n2 c2], .int .i64 0]) ∧ QNum w' A1 n1 c1 A2 n2 c2 q ∧ Below w.heap.size w w' := by
  rcases h with ⟨q', A1, n1, c1, A2, n2, c2, hf, he, h1, hb⟩ | ⟨hf, _⟩
  · rw [hq] at hf
    injection hf with hf
    subst hf
    exact ⟨A1, n1, c1, A2, n2, c2, he, h1, hb⟩
  · rw [hq] at hf
    cases hf
theorem parsed4_none {w w' : World} {l : List UInt8} {e : Ending} (hq : fp l = none) (h : Rat4Parsed w l e w') : e = .returned (.tuple #[.agg #[.slice none 0 0, .slice none 0 0], .int .i64 3]) ∧ Below w.heap.size w w' := by
  rcases h with ⟨q', _, _, _, _, _, _, hf, _⟩ | ⟨_, he, hb⟩
  · rw [hq] at hf
    cases hf
  · exact ⟨he, hb⟩

set_option maxHeartbeats 8000000 in
theorem rtexts_many_false (A1 A2 : Option Addr) (X1 X2 : List Nat) (n1 c1 n2 c2 : Nat) (s : ByteArray) (w : World) (hl1 : X1.length = n1) (hk1 : n1 ≤ c1) (hr1 : Ra w w.heap.size A1 X1) (hd1 : Dg X1) (hl2 : X2.length = n2) (hk2 : n2 ≤ c2) (hr2 : Ra w w.heap.size A2 X2) (hd2 : Dg X2) (htab : Tab w) (m : Int) (hm : w.cell? ⟨0, 0, none⟩ = some (.int .i64 m)) (hs0 : n1 ≤ 6 ∧ n2 ≤ 6) (hrb : rightB X1 X2 = false) (h1 : 4096 < s.size) (h2 : s.size ≤ 5000) :
    Calls Tryz.prog 3 #[.agg #[.slice A1 n1 c1, .slice A2 n2 c2], .string s] w fun e w' => e = .returned (.bool true) ∧ Below w.heap.size w w' := by
  have HRB := Lib.hid hrb
  have HK1 := Lib.hid hk1
  have HK2 := Lib.hid hk2
  have hb := b1 w (.cells #[.slice A1 n1 c1, .slice A2 n2 c2] 25)
  have hk := Blk.new w 25 #[.slice A1 n1 c1, .slice A2 n2 c2]
  obtain ⟨W0, hW0⟩ : ∃ W, w.alloc (.cells #[.slice A1 n1 c1, .slice A2 n2 c2] 25) = W := ⟨_, rfl⟩
  rw [hW0] at hb hk
  have HR1 := Lib.hid ((hr1.below hb (Nat.le_refl _)).more hb.size)
  have HR2 := Lib.hid ((hr2.below hb (Nat.le_refl _)).more hb.size)
  have HL1 := Lib.hid hl1
  have HL2 := Lib.hid hl2
  have HD1 := Lib.hid hd1
  have HD2 := Lib.hid hd2
  have HTAB := Lib.hid (htab.below hb)
  have HA := Lib.hid hk
  have HB := Lib.hid hb
  have x0 := hk.cell 0
  have x1 := hk.cell 1
  simp only [List.getElem?_toArray, List.getElem?_cons_zero, List.getElem?_cons_succ] at x0 x1
  have HMX := Lib.hid ((hb.cell (World.block_lt_of_cell? _ _ hm)).trans hm)
  obtain ⟨J, hJ⟩ : ∃ J : Nat, J = 200 := ⟨_, rfl⟩
  have i1 : (200 : Int) < (s.size : Int) := by omega
  have i2 : ¬ (s.size : Int) ≤ 4096 := by omega
  have i3 : ¬ (5000 : Int) < (s.size : Int) := by omega
  clear hl1 hr1 hd1 hl2 hr2 hd2 htab hb hk hm hrb hk1 hk2
  go_enter Tryz.func3, Tryz.ntmps3
  go_wp2_with fail
  clear hW0
  refine (short_yes A1 A2 n1 c1 n2 c2 true W0 (by simp [hs0])).mono ?_
  rintro e w1 ⟨rfl, hb⟩
  clear x0 x1
  have HTAB := Lib.hid (HTAB.out.below hb)
  have hla := HA.out.lt
  have HA := Lib.hid (HA.out.below hb hla)
  have HR1 := Lib.hid ((HR1.out.below hb (Nat.le_refl _)).more hb.size)
  have HR2 := Lib.hid ((HR2.out.below hb (Nat.le_refl _)).more hb.size)
  have HMX := Lib.hid ((hb.cell (World.block_lt_of_cell? _ _ HMX.out)).trans HMX.out)
  have HB := Lib.hid (HB.out.trans (hb.mono HB.out.size))
  clear hb hla
  go_upto_region 3 with (fail)
  go_wp2_with fail
  refine (ratioParse_many s h1 w1).mono ?_
  rintro e w2 ⟨rfl, hb⟩
  have HTAB := Lib.hid (HTAB.out.below hb)
  have hla := HA.out.lt
  have HA := Lib.hid (HA.out.below hb hla)
  have HR1 := Lib.hid ((HR1.out.below hb (Nat.le_refl _)).more hb.size)
  have HR2 := Lib.hid ((HR2.out.below hb (Nat.le_refl _)).more hb.size)
  have HMX := Lib.hid ((hb.cell (World.block_lt_of_cell? _ _ HMX.out)).trans HMX.out)
  have HB := Lib.hid (HB.out.trans (hb.mono HB.out.size))
  clear hb hla
  go_upto_region 4 with (fail)
  have hk := Blk.new w2 25 #[.slice none 0 0, .slice none 0 0]
  have hb := b1 w2 (.cells #[.slice none 0 0, .slice none 0 0] 25)
  have HTAB := Lib.hid (HTAB.out.below hb)
  have hla := HA.out.lt
  have HA := Lib.hid (HA.out.below hb hla)
  have HR1 := Lib.hid ((HR1.out.below hb (Nat.le_refl _)).more hb.size)
  have HR2 := Lib.hid ((HR2.out.below hb (Nat.le_refl _)).more hb.size)
  have HMX := Lib.hid ((hb.cell (World.block_lt_of_cell? _ _ HMX.out)).trans HMX.out)
  have HB := Lib.hid (HB.out.trans (hb.mono HB.out.size))
  clear hb hla
  obtain ⟨g5, hg⟩ : ∃ g, w2.heap.size = g := ⟨_, rfl⟩
  obtain ⟨w3, hw⟩ : ∃ W, w2.alloc (.cells #[.slice none 0 0, .slice none 0 0] 25) = W := ⟨_, rfl⟩
  rw [hw, hg] at hk
  rw [hw] at HB HTAB HA HR1 HR2 HMX
  rw [hw, hg]
  have HKB := Lib.hid hk
  clear hk hg hw
  go_wp2_with fail
  refine (rat4Parse_many s h1 w3).mono ?_
  rintro e w4 ⟨rfl, hb⟩
  have HTAB := Lib.hid (HTAB.out.below hb)
  have hla := HA.out.lt
  have HA := Lib.hid (HA.out.below hb hla)
  have HR1 := Lib.hid ((HR1.out.below hb (Nat.le_refl _)).more hb.size)
  have HR2 := Lib.hid ((HR2.out.below hb (Nat.le_refl _)).more hb.size)
  have HMX := Lib.hid ((hb.cell (World.block_lt_of_cell? _ _ HMX.out)).trans HMX.out)
  have hlHKB := HKB.out.lt
  have HKB := Lib.hid (HKB.out.below hb hlHKB)
  clear hlHKB
  have HB := Lib.hid (HB.out.trans (hb.mono HB.out.size))
  clear hb hla
  go_upto_region 5 with (fail)
  have hk := Blk.new w4 35 #[.slice none 0 0, .slice none 0 0]
  have hb := b1 w4 (.cells #[.slice none 0 0, .slice none 0 0] 35)
  have HTAB := Lib.hid (HTAB.out.below hb)
  have hla := HA.out.lt
  have HA := Lib.hid (HA.out.below hb hla)
  have HR1 := Lib.hid ((HR1.out.below hb (Nat.le_refl _)).more hb.size)
  have HR2 := Lib.hid ((HR2.out.below hb (Nat.le_refl _)).more hb.size)
  have HMX := Lib.hid ((hb.cell (World.block_lt_of_cell? _ _ HMX.out)).trans HMX.out)
  have hlHKB := HKB.out.lt
  have HKB := Lib.hid (HKB.out.below hb hlHKB)
  clear hlHKB
  have HB := Lib.hid (HB.out.trans (hb.mono HB.out.size))
  clear hb hla
  obtain ⟨g7, hg⟩ : ∃ g, w4.heap.size = g := ⟨_, rfl⟩
  obtain ⟨w5, hw⟩ : ∃ W, w4.alloc (.cells #[.slice none 0 0, .slice none 0 0] 35) = W := ⟨_, rfl⟩
  rw [hw, hg] at hk
  rw [hw] at HB HTAB HA HR1 HR2 HMX HKB
  rw [hw, hg]
  have HKQ := Lib.hid hk
  clear hk hg hw
  have y0 := HKB.out.cell 0
  have y1 := HKB.out.cell 1
  simp only [List.getElem?_toArray, List.getElem?_cons_zero, List.getElem?_cons_succ] at y0 y1
  have z0 := HKQ.out.cell 0
  have z1 := HKQ.out.cell 1
  simp only [List.getElem?_toArray, List.getElem?_cons_zero, List.getElem?_cons_succ] at z0 z1
  go_wp2_with fail
  refine (nofrac_yes w5).mono ?_
  rintro e w6 ⟨rfl, hb⟩
  clear y0 y1 z0 z1 HKB HKQ
  have HTAB := Lib.hid (HTAB.out.below hb)
  have hla := HA.out.lt
  have HA := Lib.hid (HA.out.below hb hla)
  have HR1 := Lib.hid ((HR1.out.below hb (Nat.le_refl _)).more hb.size)
  have HR2 := Lib.hid ((HR2.out.below hb (Nat.le_refl _)).more hb.size)
  have HMX := Lib.hid ((hb.cell (World.block_lt_of_cell? _ _ HMX.out)).trans HMX.out)
  have HB := Lib.hid (HB.out.trans (hb.mono HB.out.size))
  clear hb hla
  go_upto_region 7 with (fail)
  have x0 := HA.out.cell 0
  have x1 := HA.out.cell 1
  simp only [List.getElem?_toArray, List.getElem?_cons_zero, List.getElem?_cons_succ] at x0 x1
  have hc := right4_r A1 A2 X1 X2 n1 c1 n2 c2 w6 HL1.out HL2.out HR1.out HR2.out HD1.out HD2.out (by omega) (by omega)
  rw [HRB.out] at hc
  have HC := Lib.hid hc
  clear hc
  go_wp2_with fail
  refine HC.out.mono ?_
  rintro e w7 ⟨rfl, hb⟩
  clear HC x0 x1
  have HTAB := Lib.hid (HTAB.out.below hb)
  have hla := HA.out.lt
  have HA := Lib.hid (HA.out.below hb hla)
  have HR1 := Lib.hid ((HR1.out.below hb (Nat.le_refl _)).more hb.size)
  have HR2 := Lib.hid ((HR2.out.below hb (Nat.le_refl _)).more hb.size)
  have HMX := Lib.hid ((hb.cell (World.block_lt_of_cell? _ _ HMX.out)).trans HMX.out)
  have HB := Lib.hid (HB.out.trans (hb.mono HB.out.size))
  clear hb hla
  go_wp2_with fail
  refine (alive4_any w7 HTAB.out).mono ?_
  rintro e wz ⟨rfl, hb⟩
  go_wp2_with fail
  go_ret
  exact ⟨rfl, HB.out.trans (hb.mono HB.out.size)⟩

set_option maxHeartbeats 8000000 in
theorem rtexts_many_true (A1 A2 : Option Addr) (X1 X2 : List Nat) (n1 c1 n2 c2 : Nat) (s : ByteArray) (w : World) (hl1 : X1.length = n1) (hk1 : n1 ≤ c1) (hr1 : Ra w w.heap.size A1 X1) (hd1 : Dg X1) (hl2 : X2.length = n2) (hk2 : n2 ≤ c2) (hr2 : Ra w w.heap.size A2 X2) (hd2 : Dg X2) (htab : Tab w) (m : Int) (hm : w.cell? ⟨0, 0, none⟩ = some (.int .i64 m)) (hs0 : n1 ≤ 6 ∧ n2 ≤ 6) (hrb : rightB X1 X2 = true) (h1 : 4096 < s.size) (h2 : s.size ≤ 5000) :
    Calls Tryz.prog 3 #[.agg #[.slice A1 n1 c1, .slice A2 n2 c2], .string s] w fun e w' => e = .returned (.bool true) ∧ Below w.heap.size w w' := by
  have HRB := Lib.hid hrb
  have HK1 := Lib.hid hk1
  have HK2 := Lib.hid hk2
  have hb := b1 w (.cells #[.slice A1 n1 c1, .slice A2 n2 c2] 25)
  have hk := Blk.new w 25 #[.slice A1 n1 c1, .slice A2 n2 c2]
  obtain ⟨W0, hW0⟩ : ∃ W, w.alloc (.cells #[.slice A1 n1 c1, .slice A2 n2 c2] 25) = W := ⟨_, rfl⟩
  rw [hW0] at hb hk
  have HR1 := Lib.hid ((hr1.below hb (Nat.le_refl _)).more hb.size)
  have HR2 := Lib.hid ((hr2.below hb (Nat.le_refl _)).more hb.size)
  have HL1 := Lib.hid hl1
  have HL2 := Lib.hid hl2
  have HD1 := Lib.hid hd1
  have HD2 := Lib.hid hd2
  have HTAB := Lib.hid (htab.below hb)
  have HA := Lib.hid hk
  have HB := Lib.hid hb
  have x0 := hk.cell 0
  have x1 := hk.cell 1
  simp only [List.getElem?_toArray, List.getElem?_cons_zero, List.getElem?_cons_succ] at x0 x1
  have HMX := Lib.hid ((hb.cell (World.block_lt_of_cell? _ _ hm)).trans hm)
  obtain ⟨J, hJ⟩ : ∃ J : Nat, J = 200 := ⟨_, rfl⟩
  have i1 : (200 : Int) < (s.size : Int) := by omega
  have i2 : ¬ (s.size : Int) ≤ 4096 := by omega
  have i3 : ¬ (5000 : Int) < (s.size : Int) := by omega
  have HRT := Lib.hid (rt_of hrb)
  have HW1 : Hid ((U X1, U X2).1 < 65536 ^ J) := Lib.hid (Nat.lt_of_lt_of_le (U_small_k 12 hd1 (show X1.length ≤ 6 by omega) rfl) (Nat.pow_le_pow_right (by omega) (by omega)))
  have HW2 : Hid ((U X1, U X2).2 < 65536 ^ J) := Lib.hid (Nat.lt_of_lt_of_le (U_small_k 12 hd2 (show X2.length ≤ 6 by omega) rfl) (Nat.pow_le_pow_right (by omega) (by omega)))
  have HM1 : Hid ((U X1, U X2).1 < 4294967296 ^ 6) := Lib.hid (pow16_32 (U_small_k 12 hd1 (show X1.length ≤ 6 by omega) rfl) rfl)
  have HM2 : Hid ((U X1, U X2).2 < 4294967296 ^ 6) := Lib.hid (pow16_32 (U_small_k 12 hd2 (show X2.length ≤ 6 by omega) rfl) rfl)
  have htl := ftxt_len HM1.out HM2.out (by omega)
  obtain ⟨t, ht⟩ : ∃ t : ByteArray, (⟨(ftxt (U X1, U X2)).toArray⟩ : ByteArray) = t := ⟨_, rfl⟩
  have HTL : Hid (t.size ≤ 2003) := Lib.hid (by rw [← ht]; simpa [ByteArray.size] using htl)
  have HTD : Hid (t.data.toList = ftxt (U X1, U X2)) := Lib.hid (by rw [← ht])
  have HTX := Lib.hid ht
  clear htl ht
  clear hl1 hr1 hd1 hl2 hr2 hd2 htab hb hk hm hrb hk1 hk2
  go_enter Tryz.func3, Tryz.ntmps3
  go_wp2_with fail
  clear hW0
  refine (short_yes A1 A2 n1 c1 n2 c2 true W0 (by simp [hs0])).mono ?_
  rintro e w1 ⟨rfl, hb⟩
  clear x0 x1
  have HTAB := Lib.hid (HTAB.out.below hb)
  have hla := HA.out.lt
  have HA := Lib.hid (HA.out.below hb hla)
  have HR1 := Lib.hid ((HR1.out.below hb (Nat.le_refl _)).more hb.size)
  have HR2 := Lib.hid ((HR2.out.below hb (Nat.le_refl _)).more hb.size)
  have HMX := Lib.hid ((hb.cell (World.block_lt_of_cell? _ _ HMX.out)).trans HMX.out)
  have HB := Lib.hid (HB.out.trans (hb.mono HB.out.size))
  clear hb hla
  go_upto_region 3 with (fail)
  go_wp2_with fail
  refine (ratioParse_many s h1 w1).mono ?_
  rintro e w2 ⟨rfl, hb⟩
  have HTAB := Lib.hid (HTAB.out.below hb)
  have hla := HA.out.lt
  have HA := Lib.hid (HA.out.below hb hla)
  have HR1 := Lib.hid ((HR1.out.below hb (Nat.le_refl _)).more hb.size)
  have HR2 := Lib.hid ((HR2.out.below hb (Nat.le_refl _)).more hb.size)
  have HMX := Lib.hid ((hb.cell (World.block_lt_of_cell? _ _ HMX.out)).trans HMX.out)
  have HB := Lib.hid (HB.out.trans (hb.mono HB.out.size))
  clear hb hla
  go_upto_region 4 with (fail)
  have hk := Blk.new w2 25 #[.slice none 0 0, .slice none 0 0]
  have hb := b1 w2 (.cells #[.slice none 0 0, .slice none 0 0] 25)
  have HTAB := Lib.hid (HTAB.out.below hb)
  have hla := HA.out.lt
  have HA := Lib.hid (HA.out.below hb hla)
  have HR1 := Lib.hid ((HR1.out.below hb (Nat.le_refl _)).more hb.size)
  have HR2 := Lib.hid ((HR2.out.below hb (Nat.le_refl _)).more hb.size)
  have HMX := Lib.hid ((hb.cell (World.block_lt_of_cell? _ _ HMX.out)).trans HMX.out)
  have HB := Lib.hid (HB.out.trans (hb.mono HB.out.size))
  clear hb hla
  obtain ⟨g5, hg⟩ : ∃ g, w2.heap.size = g := ⟨_, rfl⟩
  obtain ⟨w3, hw⟩ : ∃ W, w2.alloc (.cells #[.slice none 0 0, .slice none 0 0] 25) = W := ⟨_, rfl⟩
  rw [hw, hg] at hk
  rw [hw] at HB HTAB HA HR1 HR2 HMX
  rw [hw, hg]
  have HKB := Lib.hid hk
  clear hk hg hw
  go_wp2_with fail
  refine (rat4Parse_many s h1 w3).mono ?_
  rintro e w4 ⟨rfl, hb⟩
  have HTAB := Lib.hid (HTAB.out.below hb)
  have hla := HA.out.lt
  have HA := Lib.hid (HA.out.below hb hla)
  have HR1 := Lib.hid ((HR1.out.below hb (Nat.le_refl _)).more hb.size)
  have HR2 := Lib.hid ((HR2.out.below hb (Nat.le_refl _)).more hb.size)
  have HMX := Lib.hid ((hb.cell (World.block_lt_of_cell? _ _ HMX.out)).trans HMX.out)
  have hlHKB := HKB.out.lt
  have HKB := Lib.hid (HKB.out.below hb hlHKB)
  clear hlHKB
  have HB := Lib.hid (HB.out.trans (hb.mono HB.out.size))
  clear hb hla
  go_upto_region 5 with (fail)
  have hk := Blk.new w4 35 #[.slice none 0 0, .slice none 0 0]
  have hb := b1 w4 (.cells #[.slice none 0 0, .slice none 0 0] 35)
  have HTAB := Lib.hid (HTAB.out.below hb)
  have hla := HA.out.lt
  have HA := Lib.hid (HA.out.below hb hla)
  have HR1 := Lib.hid ((HR1.out.below hb (Nat.le_refl _)).more hb.size)
  have HR2 := Lib.hid ((HR2.out.below hb (Nat.le_refl _)).more hb.size)
  have HMX := Lib.hid ((hb.cell (World.block_lt_of_cell? _ _ HMX.out)).trans HMX.out)
  have hlHKB := HKB.out.lt
  have HKB := Lib.hid (HKB.out.below hb hlHKB)
  clear hlHKB
  have HB := Lib.hid (HB.out.trans (hb.mono HB.out.size))
  clear hb hla
  obtain ⟨g7, hg⟩ : ∃ g, w4.heap.size = g := ⟨_, rfl⟩
  obtain ⟨w5, hw⟩ : ∃ W, w4.alloc (.cells #[.slice none 0 0, .slice none 0 0] 35) = W := ⟨_, rfl⟩
  rw [hw, hg] at hk
  rw [hw] at HB HTAB HA HR1 HR2 HMX HKB
  rw [hw, hg]
  have HKQ := Lib.hid hk
  clear hk hg hw
  have y0 := HKB.out.cell 0
  have y1 := HKB.out.cell 1
  simp only [List.getElem?_toArray, List.getElem?_cons_zero, List.getElem?_cons_succ] at y0 y1
  have z0 := HKQ.out.cell 0
  have z1 := HKQ.out.cell 1
  simp only [List.getElem?_toArray, List.getElem?_cons_zero, List.getElem?_cons_succ] at z0 z1
  go_wp2_with fail
  refine (nofrac_yes w5).mono ?_
  rintro e w6 ⟨rfl, hb⟩
  clear y0 y1 z0 z1 HKB HKQ
  have HTAB := Lib.hid (HTAB.out.below hb)
  have hla := HA.out.lt
  have HA := Lib.hid (HA.out.below hb hla)
  have HR1 := Lib.hid ((HR1.out.below hb (Nat.le_refl _)).more hb.size)
  have HR2 := Lib.hid ((HR2.out.below hb (Nat.le_refl _)).more hb.size)
  have HMX := Lib.hid ((hb.cell (World.block_lt_of_cell? _ _ HMX.out)).trans HMX.out)
  have HB := Lib.hid (HB.out.trans (hb.mono HB.out.size))
  clear hb hla
  go_upto_region 7 with (fail)
  have x0 := HA.out.cell 0
  have x1 := HA.out.cell 1
  simp only [List.getElem?_toArray, List.getElem?_cons_zero, List.getElem?_cons_succ] at x0 x1
  have hc := right4_r A1 A2 X1 X2 n1 c1 n2 c2 w6 HL1.out HL2.out HR1.out HR2.out HD1.out HD2.out (by omega) (by omega)
  rw [HRB.out] at hc
  have HC := Lib.hid hc
  clear hc
  go_wp2_with fail
  refine HC.out.mono ?_
  rintro e w7 ⟨rfl, hb⟩
  clear HC x0 x1
  have HTAB := Lib.hid (HTAB.out.below hb)
  have hla := HA.out.lt
  have HA := Lib.hid (HA.out.below hb hla)
  have HR1 := Lib.hid ((HR1.out.below hb (Nat.le_refl _)).more hb.size)
  have HR2 := Lib.hid ((HR2.out.below hb (Nat.le_refl _)).more hb.size)
  have HMX := Lib.hid ((hb.cell (World.block_lt_of_cell? _ _ HMX.out)).trans HMX.out)
  have HB := Lib.hid (HB.out.trans (hb.mono HB.out.size))
  clear hb hla
  go_upto_region 9 with (fail)
  have x0 := HA.out.cell 0
  have x1 := HA.out.cell 1
  simp only [List.getElem?_toArray, List.getElem?_cons_zero, List.getElem?_cons_succ] at x0 x1
  go_wp2_with fail
  refine (ratioText_r (M := 6) (U X1, U X2) w7 ⟨A1, X1, n1, c1, rfl, HL1.out, HK1.out, HR1.out, HD1.out, rfl, by omega⟩ ⟨A2, X2, n2, c2, rfl, HL2.out, HK2.out, HR2.out, HD2.out, rfl, by omega⟩ (by omega) HTAB.out).mono ?_
  rintro e w8 ⟨hen, hb⟩
  rw [HTX.out] at hen
  subst hen
  clear x0 x1
  have HTAB := Lib.hid (HTAB.out.below hb)
  have hla := HA.out.lt
  have HA := Lib.hid (HA.out.below hb hla)
  have HR1 := Lib.hid ((HR1.out.below hb (Nat.le_refl _)).more hb.size)
  have HR2 := Lib.hid ((HR2.out.below hb (Nat.le_refl _)).more hb.size)
  have HMX := Lib.hid ((hb.cell (World.block_lt_of_cell? _ _ HMX.out)).trans HMX.out)
  have HB := Lib.hid (HB.out.trans (hb.mono HB.out.size))
  clear hb hla
  go_upto_region 10 with (fail)
  go_wp2_with fail
  refine (ratioParse_r t m w8 HMX.out (by have := HTL.out; omega)).mono ?_
  rintro e w9 h9
  rw [HTD.out] at h9
  obtain ⟨C1, p1, r1, C2, p2, r2, rfl, hv1, hv2, hb⟩ := parsed_txt HRT.out h9
  clear h9
  have HV1 := Lib.hid hv1
  have HV2 := Lib.hid hv2
  clear hv1 hv2
  have HTAB := Lib.hid (HTAB.out.below hb)
  have hla := HA.out.lt
  have HA := Lib.hid (HA.out.below hb hla)
  have HR1 := Lib.hid ((HR1.out.below hb (Nat.le_refl _)).more hb.size)
  have HR2 := Lib.hid ((HR2.out.below hb (Nat.le_refl _)).more hb.size)
  have HMX := Lib.hid ((hb.cell (World.block_lt_of_cell? _ _ HMX.out)).trans HMX.out)
  have HB := Lib.hid (HB.out.trans (hb.mono HB.out.size))
  clear hb hla
  go_upto_region 11 with (fail)
  have hk := Blk.new w9 25 #[.slice C1 p1 r1, .slice C2 p2 r2]
  have hb := b1 w9 (.cells #[.slice C1 p1 r1, .slice C2 p2 r2] 25)
  have HTAB := Lib.hid (HTAB.out.below hb)
  have hla := HA.out.lt
  have HA := Lib.hid (HA.out.below hb hla)
  have HR1 := Lib.hid ((HR1.out.below hb (Nat.le_refl _)).more hb.size)
  have HR2 := Lib.hid ((HR2.out.below hb (Nat.le_refl _)).more hb.size)
  have HV1 := Lib.hid (HV1.out.below hb)
  have HV2 := Lib.hid (HV2.out.below hb)
  have HB := Lib.hid (HB.out.trans (hb.mono HB.out.size))
  clear hb hla
  obtain ⟨g10, hg⟩ : ∃ g, w9.heap.size = g := ⟨_, rfl⟩
  obtain ⟨w10, hw⟩ : ∃ W, w9.alloc (.cells #[.slice C1 p1 r1, .slice C2 p2 r2] 25) = W := ⟨_, rfl⟩
  rw [hw, hg] at hk
  rw [hw] at HB HTAB HA HR1 HR2 HV1 HV2
  rw [hw, hg]
  have HKC := Lib.hid hk
  clear hk hg hw
  have x0 := HA.out.cell 0
  have x1 := HA.out.cell 1
  simp only [List.getElem?_toArray, List.getElem?_cons_zero, List.getElem?_cons_succ] at x0 x1
  have y0 := HKC.out.cell 0
  have y1 := HKC.out.cell 1
  simp only [List.getElem?_toArray, List.getElem?_cons_zero, List.getElem?_cons_succ] at y0 y1
  go_wp2_with fail
  refine (in4_r A1 A2 X1 X2 n1 c1 n2 c2 w10 HL1.out HL2.out HR1.out HR2.out HD1.out HD2.out (by omega) (by omega)).mono ?_
  rintro e w11 ⟨B1, i1, e1, B2, i2, e2, rfl, hq1, hq2, hb⟩
  have HU := Lib.hid (show QNum w11 B1 i1 e1 B2 i2 e2 (U X1, U X2) from ⟨hq1, hq2⟩)
  clear hq1 hq2 x0 x1 y0 y1
  have HTAB := Lib.hid (HTAB.out.below hb)
  have hla := HA.out.lt
  have HA := Lib.hid (HA.out.below hb hla)
  have HR1 := Lib.hid ((HR1.out.below hb (Nat.le_refl _)).more hb.size)
  have HR2 := Lib.hid ((HR2.out.below hb (Nat.le_refl _)).more hb.size)
  have HV1 := Lib.hid (HV1.out.below hb)
  have HV2 := Lib.hid (HV2.out.below hb)
  have hlHKC := HKC.out.lt
  have HKC := Lib.hid (HKC.out.below hb hlHKC)
  clear hlHKC
  have HB := Lib.hid (HB.out.trans (hb.mono HB.out.size))
  clear hb hla
  go_wp2_with fail
  refine (ref4Text_r (j := J) w11 HU.out HW1.out HW2.out (by omega) (by omega)).mono ?_
  rintro e w12 ⟨hen, hb⟩
  rw [HTX.out] at hen
  subst hen
  clear HU
  have HTAB := Lib.hid (HTAB.out.below hb)
  have hla := HA.out.lt
  have HA := Lib.hid (HA.out.below hb hla)
  have HR1 := Lib.hid ((HR1.out.below hb (Nat.le_refl _)).more hb.size)
  have HR2 := Lib.hid ((HR2.out.below hb (Nat.le_refl _)).more hb.size)
  have HV1 := Lib.hid (HV1.out.below hb)
  have HV2 := Lib.hid (HV2.out.below hb)
  have hlHKC := HKC.out.lt
  have HKC := Lib.hid (HKC.out.below hb hlHKC)
  clear hlHKC
  have HB := Lib.hid (HB.out.trans (hb.mono HB.out.size))
  clear hb hla
  have x0 := HA.out.cell 0
  have x1 := HA.out.cell 1
  simp only [List.getElem?_toArray, List.getElem?_cons_zero, List.getElem?_cons_succ] at x0 x1
  have y0 := HKC.out.cell 0
  have y1 := HKC.out.cell 1
  simp only [List.getElem?_toArray, List.getElem?_cons_zero, List.getElem?_cons_succ] at y0 y1
  go_wp2_with fail
  refine (ratioSame_r (M := 6) w12 (HV1.out.nr HM1.out) (HV2.out.nr HM2.out) ⟨A1, X1, n1, c1, rfl, HL1.out, HK1.out, HR1.out, HD1.out, rfl, by omega⟩ ⟨A2, X2, n2, c2, rfl, HL2.out, HK2.out, HR2.out, HD2.out, rfl, by omega⟩ (by omega)).mono ?_
  rintro e w13 ⟨hen, hb⟩
  rw [show sameQ (U X1, U X2).1 (U X1, U X2).2 (U X1) (U X2) = true from sameQ_self _ _] at hen
  subst hen
  clear x0 x1 y0 y1
  have HTAB := Lib.hid (HTAB.out.below hb)
  have hla := HA.out.lt
  have HA := Lib.hid (HA.out.below hb hla)
  have HR1 := Lib.hid ((HR1.out.below hb (Nat.le_refl _)).more hb.size)
  have HR2 := Lib.hid ((HR2.out.below hb (Nat.le_refl _)).more hb.size)
  have HB := Lib.hid (HB.out.trans (hb.mono HB.out.size))
  clear hb hla
  go_wp2_with fail
  refine (alive4_any w13 HTAB.out).mono ?_
  rintro e wz ⟨rfl, hb⟩
  go_wp2_with fail
  go_ret
  exact ⟨rfl, HB.out.trans (hb.mono HB.out.size)⟩

set_option maxHeartbeats 8000000 in
theorem rtexts_some_false (A1 A2 : Option Addr) (X1 X2 : List Nat) (n1 c1 n2 c2 : Nat) (s : ByteArray) (w : World) (hl1 : X1.length = n1) (hk1 : n1 ≤ c1) (hr1 : Ra w w.heap.size A1 X1) (hd1 : Dg X1) (hl2 : X2.length = n2) (hk2 : n2 ≤ c2) (hr2 : Ra w w.heap.size A2 X2) (hd2 : Dg X2) (htab : Tab w) (m : Int) (hm : w.cell? ⟨0, 0, none⟩ = some (.int .i64 m)) (hs0 : n1 ≤ 6 ∧ n2 ≤ 6) (hrb : rightB X1 X2 = false) (h1 : s.size ≤ 200) (q : Nat × Nat) (hq : fp s.data.toList = some q) :
    Calls Tryz.prog 3 #[.agg #[.slice A1 n1 c1, .slice A2 n2 c2], .string s] w fun e w' => e = .returned (.bool true) ∧ Below w.heap.size w w' := by
  have HRB := Lib.hid hrb
  have HK1 := Lib.hid hk1
  have HK2 := Lib.hid hk2
  have hb := b1 w (.cells #[.slice A1 n1 c1, .slice A2 n2 c2] 25)
  have hk := Blk.new w 25 #[.slice A1 n1 c1, .slice A2 n2 c2]
  obtain ⟨W0, hW0⟩ : ∃ W, w.alloc (.cells #[.slice A1 n1 c1, .slice A2 n2 c2] 25) = W := ⟨_, rfl⟩
  rw [hW0] at hb hk
  have HR1 := Lib.hid ((hr1.below hb (Nat.le_refl _)).more hb.size)
  have HR2 := Lib.hid ((hr2.below hb (Nat.le_refl _)).more hb.size)
  have HL1 := Lib.hid hl1
  have HL2 := Lib.hid hl2
  have HD1 := Lib.hid hd1
  have HD2 := Lib.hid hd2
  have HTAB := Lib.hid (htab.below hb)
  have HA := Lib.hid hk
  have HB := Lib.hid hb
  have x0 := hk.cell 0
  have x1 := hk.cell 1
  simp only [List.getElem?_toArray, List.getElem?_cons_zero, List.getElem?_cons_succ] at x0 x1
  have HMX := Lib.hid ((hb.cell (World.block_lt_of_cell? _ _ hm)).trans hm)
  obtain ⟨J, hJ⟩ : ∃ J : Nat, J = 200 := ⟨_, rfl⟩
  have i1 : ¬ (200 : Int) < (s.size : Int) := by omega
  have i3 : ¬ (5000 : Int) < (s.size : Int) := by omega
  have HFP := Lib.hid hq
  have hlen := ba_len s
  have hsm := fp_small (j := J) hq (by omega) (by omega)
  have HS1 := Lib.hid hsm.1
  have HS2 := Lib.hid hsm.2
  clear hlen hsm
  clear hl1 hr1 hd1 hl2 hr2 hd2 htab hb hk hm hrb hk1 hk2 hq
  go_enter Tryz.func3, Tryz.ntmps3
  go_wp2_with fail
  clear hW0
  refine (short_yes A1 A2 n1 c1 n2 c2 true W0 (by simp [hs0])).mono ?_
  rintro e w1 ⟨rfl, hb⟩
  clear x0 x1
  have HTAB := Lib.hid (HTAB.out.below hb)
  have hla := HA.out.lt
  have HA := Lib.hid (HA.out.below hb hla)
  have HR1 := Lib.hid ((HR1.out.below hb (Nat.le_refl _)).more hb.size)
  have HR2 := Lib.hid ((HR2.out.below hb (Nat.le_refl _)).more hb.size)
  have HMX := Lib.hid ((hb.cell (World.block_lt_of_cell? _ _ HMX.out)).trans HMX.out)
  have HB := Lib.hid (HB.out.trans (hb.mono HB.out.size))
  clear hb hla
  go_upto_region 3 with (fail)
  go_wp2_with fail
  refine (ratioParse_r s m w1 HMX.out (by omega)).mono ?_
  rintro e w2 h2
  obtain ⟨C1, p1, r1, C2, p2, r2, rfl, hv1, hv2, hb⟩ := parsed_some HFP.out h2
  clear h2
  have HV1 := Lib.hid hv1
  have HV2 := Lib.hid hv2
  clear hv1 hv2
  have HTAB := Lib.hid (HTAB.out.below hb)
  have hla := HA.out.lt
  have HA := Lib.hid (HA.out.below hb hla)
  have HR1 := Lib.hid ((HR1.out.below hb (Nat.le_refl _)).more hb.size)
  have HR2 := Lib.hid ((HR2.out.below hb (Nat.le_refl _)).more hb.size)
  have HMX := Lib.hid ((hb.cell (World.block_lt_of_cell? _ _ HMX.out)).trans HMX.out)
  have HB := Lib.hid (HB.out.trans (hb.mono HB.out.size))
  clear hb hla
  go_upto_region 4 with (fail)
  have hk := Blk.new w2 25 #[.slice C1 p1 r1, .slice C2 p2 r2]
  have hb := b1 w2 (.cells #[.slice C1 p1 r1, .slice C2 p2 r2] 25)
  have HTAB := Lib.hid (HTAB.out.below hb)
  have hla := HA.out.lt
  have HA := Lib.hid (HA.out.below hb hla)
  have HR1 := Lib.hid ((HR1.out.below hb (Nat.le_refl _)).more hb.size)
  have HR2 := Lib.hid ((HR2.out.below hb (Nat.le_refl _)).more hb.size)
  have HMX := Lib.hid ((hb.cell (World.block_lt_of_cell? _ _ HMX.out)).trans HMX.out)
  have HV1 := Lib.hid (HV1.out.below hb)
  have HV2 := Lib.hid (HV2.out.below hb)
  have HB := Lib.hid (HB.out.trans (hb.mono HB.out.size))
  clear hb hla
  obtain ⟨g5, hg⟩ : ∃ g, w2.heap.size = g := ⟨_, rfl⟩
  obtain ⟨w3, hw⟩ : ∃ W, w2.alloc (.cells #[.slice C1 p1 r1, .slice C2 p2 r2] 25) = W := ⟨_, rfl⟩
  rw [hw, hg] at hk
  rw [hw] at HB HTAB HA HR1 HR2 HMX HV1 HV2
  rw [hw, hg]
  have HKB := Lib.hid hk
  clear hk hg hw
  go_wp2_with fail
  refine (rat4Parse_r s w3 (by omega)).mono ?_
  rintro e w4 h4
  obtain ⟨E1, k1, m1, E2, k2, m2, rfl, hu, hb⟩ := parsed4_some HFP.out h4
  clear h4
  have HU := Lib.hid hu
  clear hu
  have HTAB := Lib.hid (HTAB.out.below hb)
  have hla := HA.out.lt
  have HA := Lib.hid (HA.out.below hb hla)
  have HR1 := Lib.hid ((HR1.out.below hb (Nat.le_refl _)).more hb.size)
  have HR2 := Lib.hid ((HR2.out.below hb (Nat.le_refl _)).more hb.size)
  have HMX := Lib.hid ((hb.cell (World.block_lt_of_cell? _ _ HMX.out)).trans HMX.out)
  have HV1 := Lib.hid (HV1.out.below hb)
  have HV2 := Lib.hid (HV2.out.below hb)
  have hlHKB := HKB.out.lt
  have HKB := Lib.hid (HKB.out.below hb hlHKB)
  clear hlHKB
  have HB := Lib.hid (HB.out.trans (hb.mono HB.out.size))
  clear hb hla
  go_upto_region 5 with (fail)
  have hk := Blk.new w4 35 #[.slice E1 k1 m1, .slice E2 k2 m2]
  have hb := b1 w4 (.cells #[.slice E1 k1 m1, .slice E2 k2 m2] 35)
  have HTAB := Lib.hid (HTAB.out.below hb)
  have hla := HA.out.lt
  have HA := Lib.hid (HA.out.below hb hla)
  have HR1 := Lib.hid ((HR1.out.below hb (Nat.le_refl _)).more hb.size)
  have HR2 := Lib.hid ((HR2.out.below hb (Nat.le_refl _)).more hb.size)
  have HMX := Lib.hid ((hb.cell (World.block_lt_of_cell? _ _ HMX.out)).trans HMX.out)
  have HV1 := Lib.hid (HV1.out.below hb)
  have HV2 := Lib.hid (HV2.out.below hb)
  have hlHKB := HKB.out.lt
  have HKB := Lib.hid (HKB.out.below hb hlHKB)
  clear hlHKB
  have HU := Lib.hid (HU.out.below hb)
  have HB := Lib.hid (HB.out.trans (hb.mono HB.out.size))
  clear hb hla
  obtain ⟨g7, hg⟩ : ∃ g, w4.heap.size = g := ⟨_, rfl⟩
  obtain ⟨w5, hw⟩ : ∃ W, w4.alloc (.cells #[.slice E1 k1 m1, .slice E2 k2 m2] 35) = W := ⟨_, rfl⟩
  rw [hw, hg] at hk
  rw [hw] at HB HTAB HA HR1 HR2 HMX HV1 HV2 HKB HU
  rw [hw, hg]
  have HKQ := Lib.hid hk
  clear hk hg hw
  have y0 := HKB.out.cell 0
  have y1 := HKB.out.cell 1
  simp only [List.getElem?_toArray, List.getElem?_cons_zero, List.getElem?_cons_succ] at y0 y1
  have z0 := HKQ.out.cell 0
  have z1 := HKQ.out.cell 1
  simp only [List.getElem?_toArray, List.getElem?_cons_zero, List.getElem?_cons_succ] at z0 z1
  go_wp2_with fail
  refine (sameq_r (j := J) w5 HV1.out HV2.out HU.out HS1.out HS2.out (by omega)).mono ?_
  rintro e w6 ⟨rfl, hb⟩
  clear y0 y1 z0 z1 HKB HKQ HV1 HV2 HU
  have HTAB := Lib.hid (HTAB.out.below hb)
  have hla := HA.out.lt
  have HA := Lib.hid (HA.out.below hb hla)
  have HR1 := Lib.hid ((HR1.out.below hb (Nat.le_refl _)).more hb.size)
  have HR2 := Lib.hid ((HR2.out.below hb (Nat.le_refl _)).more hb.size)
  have HMX := Lib.hid ((hb.cell (World.block_lt_of_cell? _ _ HMX.out)).trans HMX.out)
  have HB := Lib.hid (HB.out.trans (hb.mono HB.out.size))
  clear hb hla
  go_upto_region 7 with (fail)
  have x0 := HA.out.cell 0
  have x1 := HA.out.cell 1
  simp only [List.getElem?_toArray, List.getElem?_cons_zero, List.getElem?_cons_succ] at x0 x1
  have hc := right4_r A1 A2 X1 X2 n1 c1 n2 c2 w6 HL1.out HL2.out HR1.out HR2.out HD1.out HD2.out (by omega) (by omega)
  rw [HRB.out] at hc
  have HC := Lib.hid hc
  clear hc
  go_wp2_with fail
  refine HC.out.mono ?_
  rintro e w7 ⟨rfl, hb⟩
  clear HC x0 x1
  have HTAB := Lib.hid (HTAB.out.below hb)
  have hla := HA.out.lt
  have HA := Lib.hid (HA.out.below hb hla)
  have HR1 := Lib.hid ((HR1.out.below hb (Nat.le_refl _)).more hb.size)
  have HR2 := Lib.hid ((HR2.out.below hb (Nat.le_refl _)).more hb.size)
  have HMX := Lib.hid ((hb.cell (World.block_lt_of_cell? _ _ HMX.out)).trans HMX.out)
  have HB := Lib.hid (HB.out.trans (hb.mono HB.out.size))
  clear hb hla
  go_wp2_with fail
  refine (alive4_any w7 HTAB.out).mono ?_
  rintro e wz ⟨rfl, hb⟩
  go_wp2_with fail
  go_ret
  exact ⟨rfl, HB.out.trans (hb.mono HB.out.size)⟩

set_option maxHeartbeats 8000000 in
theorem rtexts_some_true (A1 A2 : Option Addr) (X1 X2 : List Nat) (n1 c1 n2 c2 : Nat) (s : ByteArray) (w : World) (hl1 : X1.length = n1) (hk1 : n1 ≤ c1) (hr1 : Ra w w.heap.size A1 X1) (hd1 : Dg X1) (hl2 : X2.length = n2) (hk2 : n2 ≤ c2) (hr2 : Ra w w.heap.size A2 X2) (hd2 : Dg X2) (htab : Tab w) (m : Int) (hm : w.cell? ⟨0, 0, none⟩ = some (.int .i64 m)) (hs0 : n1 ≤ 6 ∧ n2 ≤ 6) (hrb : rightB X1 X2 = true) (h1 : s.size ≤ 200) (q : Nat × Nat) (hq : fp s.data.toList = some q) :
    Calls Tryz.prog 3 #[.agg #[.slice A1 n1 c1, .slice A2 n2 c2], .string s] w fun e w' => e = .returned (.bool true) ∧ Below w.heap.size w w' := by
  have HRB := Lib.hid hrb
  have HK1 := Lib.hid hk1
  have HK2 := Lib.hid hk2
  have hb := b1 w (.cells #[.slice A1 n1 c1, .slice A2 n2 c2] 25)
  have hk := Blk.new w 25 #[.slice A1 n1 c1, .slice A2 n2 c2]
  obtain ⟨W0, hW0⟩ : ∃ W, w.alloc (.cells #[.slice A1 n1 c1, .slice A2 n2 c2] 25) = W := ⟨_, rfl⟩
  rw [hW0] at hb hk
  have HR1 := Lib.hid ((hr1.below hb (Nat.le_refl _)).more hb.size)
  have HR2 := Lib.hid ((hr2.below hb (Nat.le_refl _)).more hb.size)
  have HL1 := Lib.hid hl1
  have HL2 := Lib.hid hl2
  have HD1 := Lib.hid hd1
  have HD2 := Lib.hid hd2
  have HTAB := Lib.hid (htab.below hb)
  have HA := Lib.hid hk
  have HB := Lib.hid hb
  have x0 := hk.cell 0
  have x1 := hk.cell 1
  simp only [List.getElem?_toArray, List.getElem?_cons_zero, List.getElem?_cons_succ] at x0 x1
  have HMX := Lib.hid ((hb.cell (World.block_lt_of_cell? _ _ hm)).trans hm)
  obtain ⟨J, hJ⟩ : ∃ J : Nat, J = 200 := ⟨_, rfl⟩
  have i1 : ¬ (200 : Int) < (s.size : Int) := by omega
  have i3 : ¬ (5000 : Int) < (s.size : Int) := by omega
  have HFP := Lib.hid hq
  have hlen := ba_len s
  have hsm := fp_small (j := J) hq (by omega) (by omega)
  have HS1 := Lib.hid hsm.1
  have HS2 := Lib.hid hsm.2
  clear hlen hsm
  have HRT := Lib.hid (rt_of hrb)
  have HW1 : Hid ((U X1, U X2).1 < 65536 ^ J) := Lib.hid (Nat.lt_of_lt_of_le (U_small_k 12 hd1 (show X1.length ≤ 6 by omega) rfl) (Nat.pow_le_pow_right (by omega) (by omega)))
  have HW2 : Hid ((U X1, U X2).2 < 65536 ^ J) := Lib.hid (Nat.lt_of_lt_of_le (U_small_k 12 hd2 (show X2.length ≤ 6 by omega) rfl) (Nat.pow_le_pow_right (by omega) (by omega)))
  have HM1 : Hid ((U X1, U X2).1 < 4294967296 ^ 6) := Lib.hid (pow16_32 (U_small_k 12 hd1 (show X1.length ≤ 6 by omega) rfl) rfl)
  have HM2 : Hid ((U X1, U X2).2 < 4294967296 ^ 6) := Lib.hid (pow16_32 (U_small_k 12 hd2 (show X2.length ≤ 6 by omega) rfl) rfl)
  have htl := ftxt_len HM1.out HM2.out (by omega)
  obtain ⟨t, ht⟩ : ∃ t : ByteArray, (⟨(ftxt (U X1, U X2)).toArray⟩ : ByteArray) = t := ⟨_, rfl⟩
  have HTL : Hid (t.size ≤ 2003) := Lib.hid (by rw [← ht]; simpa [ByteArray.size] using htl)
  have HTD : Hid (t.data.toList = ftxt (U X1, U X2)) := Lib.hid (by rw [← ht])
  have HTX := Lib.hid ht
  clear htl ht
  clear hl1 hr1 hd1 hl2 hr2 hd2 htab hb hk hm hrb hk1 hk2 hq
  go_enter Tryz.func3, Tryz.ntmps3
  go_wp2_with fail
  clear hW0
  refine (short_yes A1 A2 n1 c1 n2 c2 true W0 (by simp [hs0])).mono ?_
  rintro e w1 ⟨rfl, hb⟩
  clear x0 x1
  have HTAB := Lib.hid (HTAB.out.below hb)
  have hla := HA.out.lt
  have HA := Lib.hid (HA.out.below hb hla)
  have HR1 := Lib.hid ((HR1.out.below hb (Nat.le_refl _)).more hb.size)
  have HR2 := Lib.hid ((HR2.out.below hb (Nat.le_refl _)).more hb.size)
  have HMX := Lib.hid ((hb.cell (World.block_lt_of_cell? _ _ HMX.out)).trans HMX.out)
  have HB := Lib.hid (HB.out.trans (hb.mono HB.out.size))
  clear hb hla
  go_upto_region 3 with (fail)
  go_wp2_with fail
  refine (ratioParse_r s m w1 HMX.out (by omega)).mono ?_
  rintro e w2 h2
  obtain ⟨C1, p1, r1, C2, p2, r2, rfl, hv1, hv2, hb⟩ := parsed_some HFP.out h2
  clear h2
  have HV1 := Lib.hid hv1
  have HV2 := Lib.hid hv2
  clear hv1 hv2
  have HTAB := Lib.hid (HTAB.out.below hb)
  have hla := HA.out.lt
  have HA := Lib.hid (HA.out.below hb hla)
  have HR1 := Lib.hid ((HR1.out.below hb (Nat.le_refl _)).more hb.size)
  have HR2 := Lib.hid ((HR2.out.below hb (Nat.le_refl _)).more hb.size)
  have HMX := Lib.hid ((hb.cell (World.block_lt_of_cell? _ _ HMX.out)).trans HMX.out)
  have HB := Lib.hid (HB.out.trans (hb.mono HB.out.size))
  clear hb hla
  go_upto_region 4 with (fail)
  have hk := Blk.new w2 25 #[.slice C1 p1 r1, .slice C2 p2 r2]
  have hb := b1 w2 (.cells #[.slice C1 p1 r1, .slice C2 p2 r2] 25)
  have HTAB := Lib.hid (HTAB.out.below hb)
  have hla := HA.out.lt
  have HA := Lib.hid (HA.out.below hb hla)
  have HR1 := Lib.hid ((HR1.out.below hb (Nat.le_refl _)).more hb.size)
  have HR2 := Lib.hid ((HR2.out.below hb (Nat.le_refl _)).more hb.size)
  have HMX := Lib.hid ((hb.cell (World.block_lt_of_cell? _ _ HMX.out)).trans HMX.out)
  have HV1 := Lib.hid (HV1.out.below hb)
  have HV2 := Lib.hid (HV2.out.below hb)
  have HB := Lib.hid (HB.out.trans (hb.mono HB.out.size))
  clear hb hla
  obtain ⟨g5, hg⟩ : ∃ g, w2.heap.size = g := ⟨_, rfl⟩
  obtain ⟨w3, hw⟩ : ∃ W, w2.alloc (.cells #[.slice C1 p1 r1, .slice C2 p2 r2] 25) = W := ⟨_, rfl⟩
  rw [hw, hg] at hk
  rw [hw] at HB HTAB HA HR1 HR2 HMX HV1 HV2
  rw [hw, hg]
  have HKB := Lib.hid hk
  clear hk hg hw
  go_wp2_with fail
  refine (rat4Parse_r s w3 (by omega)).mono ?_
  rintro e w4 h4
  obtain ⟨E1, k1, m1, E2, k2, m2, rfl, hu, hb⟩ := parsed4_some HFP.out h4
  clear h4
  have HU := Lib.hid hu
  clear hu
  have HTAB := Lib.hid (HTAB.out.below hb)
  have hla := HA.out.lt
  have HA := Lib.hid (HA.out.below hb hla)
  have HR1 := Lib.hid ((HR1.out.below hb (Nat.le_refl _)).more hb.size)
  have HR2 := Lib.hid ((HR2.out.below hb (Nat.le_refl _)).more hb.size)
  have HMX := Lib.hid ((hb.cell (World.block_lt_of_cell? _ _ HMX.out)).trans HMX.out)
  have HV1 := Lib.hid (HV1.out.below hb)
  have HV2 := Lib.hid (HV2.out.below hb)
  have hlHKB := HKB.out.lt
  have HKB := Lib.hid (HKB.out.below hb hlHKB)
  clear hlHKB
  have HB := Lib.hid (HB.out.trans (hb.mono HB.out.size))
  clear hb hla
  go_upto_region 5 with (fail)
  have hk := Blk.new w4 35 #[.slice E1 k1 m1, .slice E2 k2 m2]
  have hb := b1 w4 (.cells #[.slice E1 k1 m1, .slice E2 k2 m2] 35)
  have HTAB := Lib.hid (HTAB.out.below hb)
  have hla := HA.out.lt
  have HA := Lib.hid (HA.out.below hb hla)
  have HR1 := Lib.hid ((HR1.out.below hb (Nat.le_refl _)).more hb.size)
  have HR2 := Lib.hid ((HR2.out.below hb (Nat.le_refl _)).more hb.size)
  have HMX := Lib.hid ((hb.cell (World.block_lt_of_cell? _ _ HMX.out)).trans HMX.out)
  have HV1 := Lib.hid (HV1.out.below hb)
  have HV2 := Lib.hid (HV2.out.below hb)
  have hlHKB := HKB.out.lt
  have HKB := Lib.hid (HKB.out.below hb hlHKB)
  clear hlHKB
  have HU := Lib.hid (HU.out.below hb)
  have HB := Lib.hid (HB.out.trans (hb.mono HB.out.size))
  clear hb hla
  obtain ⟨g7, hg⟩ : ∃ g, w4.heap.size = g := ⟨_, rfl⟩
  obtain ⟨w5, hw⟩ : ∃ W, w4.alloc (.cells #[.slice E1 k1 m1, .slice E2 k2 m2] 35) = W := ⟨_, rfl⟩
  rw [hw, hg] at hk
  rw [hw] at HB HTAB HA HR1 HR2 HMX HV1 HV2 HKB HU
  rw [hw, hg]
  have HKQ := Lib.hid hk
  clear hk hg hw
  have y0 := HKB.out.cell 0
  have y1 := HKB.out.cell 1
  simp only [List.getElem?_toArray, List.getElem?_cons_zero, List.getElem?_cons_succ] at y0 y1
  have z0 := HKQ.out.cell 0
  have z1 := HKQ.out.cell 1
  simp only [List.getElem?_toArray, List.getElem?_cons_zero, List.getElem?_cons_succ] at z0 z1
  go_wp2_with fail
  refine (sameq_r (j := J) w5 HV1.out HV2.out HU.out HS1.out HS2.out (by omega)).mono ?_
  rintro e w6 ⟨rfl, hb⟩
  clear y0 y1 z0 z1 HKB HKQ HV1 HV2 HU
  have HTAB := Lib.hid (HTAB.out.below hb)
  have hla := HA.out.lt
  have HA := Lib.hid (HA.out.below hb hla)
  have HR1 := Lib.hid ((HR1.out.below hb (Nat.le_refl _)).more hb.size)
  have HR2 := Lib.hid ((HR2.out.below hb (Nat.le_refl _)).more hb.size)
  have HMX := Lib.hid ((hb.cell (World.block_lt_of_cell? _ _ HMX.out)).trans HMX.out)
  have HB := Lib.hid (HB.out.trans (hb.mono HB.out.size))
  clear hb hla
  go_upto_region 7 with (fail)
  have x0 := HA.out.cell 0
  have x1 := HA.out.cell 1
  simp only [List.getElem?_toArray, List.getElem?_cons_zero, List.getElem?_cons_succ] at x0 x1
  have hc := right4_r A1 A2 X1 X2 n1 c1 n2 c2 w6 HL1.out HL2.out HR1.out HR2.out HD1.out HD2.out (by omega) (by omega)
  rw [HRB.out] at hc
  have HC := Lib.hid hc
  clear hc
  go_wp2_with fail
  refine HC.out.mono ?_
  rintro e w7 ⟨rfl, hb⟩
  clear HC x0 x1
  have HTAB := Lib.hid (HTAB.out.below hb)
  have hla := HA.out.lt
  have HA := Lib.hid (HA.out.below hb hla)
  have HR1 := Lib.hid ((HR1.out.below hb (Nat.le_refl _)).more hb.size)
  have HR2 := Lib.hid ((HR2.out.below hb (Nat.le_refl _)).more hb.size)
  have HMX := Lib.hid ((hb.cell (World.block_lt_of_cell? _ _ HMX.out)).trans HMX.out)
  have HB := Lib.hid (HB.out.trans (hb.mono HB.out.size))
  clear hb hla
  go_upto_region 9 with (fail)
  have x0 := HA.out.cell 0
  have x1 := HA.out.cell 1
  simp only [List.getElem?_toArray, List.getElem?_cons_zero, List.getElem?_cons_succ] at x0 x1
  go_wp2_with fail
  refine (ratioText_r (M := 6) (U X1, U X2) w7 ⟨A1, X1, n1, c1, rfl, HL1.out, HK1.out, HR1.out, HD1.out, rfl, by omega⟩ ⟨A2, X2, n2, c2, rfl, HL2.out, HK2.out, HR2.out, HD2.out, rfl, by omega⟩ (by omega) HTAB.out).mono ?_
  rintro e w8 ⟨hen, hb⟩
  rw [HTX.out] at hen
  subst hen
  clear x0 x1
  have HTAB := Lib.hid (HTAB.out.below hb)
  have hla := HA.out.lt
  have HA := Lib.hid (HA.out.below hb hla)
  have HR1 := Lib.hid ((HR1.out.below hb (Nat.le_refl _)).more hb.size)
  have HR2 := Lib.hid ((HR2.out.below hb (Nat.le_refl _)).more hb.size)
  have HMX := Lib.hid ((hb.cell (World.block_lt_of_cell? _ _ HMX.out)).trans HMX.out)
  have HB := Lib.hid (HB.out.trans (hb.mono HB.out.size))
  clear hb hla
  go_upto_region 10 with (fail)
  go_wp2_with fail
  refine (ratioParse_r t m w8 HMX.out (by have := HTL.out; omega)).mono ?_
  rintro e w9 h9
  rw [HTD.out] at h9
  obtain ⟨C1, p1, r1, C2, p2, r2, rfl, hv1, hv2, hb⟩ := parsed_txt HRT.out h9
  clear h9
  have HV1 := Lib.hid hv1
  have HV2 := Lib.hid hv2
  clear hv1 hv2
  have HTAB := Lib.hid (HTAB.out.below hb)
  have hla := HA.out.lt
  have HA := Lib.hid (HA.out.below hb hla)
  have HR1 := Lib.hid ((HR1.out.below hb (Nat.le_refl _)).more hb.size)
  have HR2 := Lib.hid ((HR2.out.below hb (Nat.le_refl _)).more hb.size)
  have HMX := Lib.hid ((hb.cell (World.block_lt_of_cell? _ _ HMX.out)).trans HMX.out)
  have HB := Lib.hid (HB.out.trans (hb.mono HB.out.size))
  clear hb hla
  go_upto_region 11 with (fail)
  have hk := Blk.new w9 25 #[.slice C1 p1 r1, .slice C2 p2 r2]
  have hb := b1 w9 (.cells #[.slice C1 p1 r1, .slice C2 p2 r2] 25)
  have HTAB := Lib.hid (HTAB.out.below hb)
  have hla := HA.out.lt
  have HA := Lib.hid (HA.out.below hb hla)
  have HR1 := Lib.hid ((HR1.out.below hb (Nat.le_refl _)).more hb.size)
  have HR2 := Lib.hid ((HR2.out.below hb (Nat.le_refl _)).more hb.size)
  have HV1 := Lib.hid (HV1.out.below hb)
  have HV2 := Lib.hid (HV2.out.below hb)
  have HB := Lib.hid (HB.out.trans (hb.mono HB.out.size))
  clear hb hla
  obtain ⟨g10, hg⟩ : ∃ g, w9.heap.size = g := ⟨_, rfl⟩
  obtain ⟨w10, hw⟩ : ∃ W, w9.alloc (.cells #[.slice C1 p1 r1, .slice C2 p2 r2] 25) = W := ⟨_, rfl⟩
  rw [hw, hg] at hk
  rw [hw] at HB HTAB HA HR1 HR2 HV1 HV2
  rw [hw, hg]
  have HKC := Lib.hid hk
  clear hk hg hw
  have x0 := HA.out.cell 0
  have x1 := HA.out.cell 1
  simp only [List.getElem?_toArray, List.getElem?_cons_zero, List.getElem?_cons_succ] at x0 x1
  have y0 := HKC.out.cell 0
  have y1 := HKC.out.cell 1
  simp only [List.getElem?_toArray, List.getElem?_cons_zero, List.getElem?_cons_succ] at y0 y1
  go_wp2_with fail
  refine (in4_r A1 A2 X1 X2 n1 c1 n2 c2 w10 HL1.out HL2.out HR1.out HR2.out HD1.out HD2.out (by omega) (by omega)).mono ?_
  rintro e w11 ⟨B1, i1, e1, B2, i2, e2, rfl, hq1, hq2, hb⟩
  have HU := Lib.hid (show QNum w11 B1 i1 e1 B2 i2 e2 (U X1, U X2) from ⟨hq1, hq2⟩)
  clear hq1 hq2 x0 x1 y0 y1
  have HTAB := Lib.hid (HTAB.out.below hb)
  have hla := HA.out.lt
  have HA := Lib.hid (HA.out.below hb hla)
  have HR1 := Lib.hid ((HR1.out.below hb (Nat.le_refl _)).more hb.size)
  have HR2 := Lib.hid ((HR2.out.below hb (Nat.le_refl _)).more hb.size)
  have HV1 := Lib.hid (HV1.out.below hb)
  have HV2 := Lib.hid (HV2.out.below hb)
  have hlHKC := HKC.out.lt
  have HKC := Lib.hid (HKC.out.below hb hlHKC)
  clear hlHKC
  have HB := Lib.hid (HB.out.trans (hb.mono HB.out.size))
  clear hb hla
  go_wp2_with fail
  refine (ref4Text_r (j := J) w11 HU.out HW1.out HW2.out (by omega) (by omega)).mono ?_
  rintro e w12 ⟨hen, hb⟩
  rw [HTX.out] at hen
  subst hen
  clear HU
  have HTAB := Lib.hid (HTAB.out.below hb)
  have hla := HA.out.lt
  have HA := Lib.hid (HA.out.below hb hla)
  have HR1 := Lib.hid ((HR1.out.below hb (Nat.le_refl _)).more hb.size)
  have HR2 := Lib.hid ((HR2.out.below hb (Nat.le_refl _)).more hb.size)
  have HV1 := Lib.hid (HV1.out.below hb)
  have HV2 := Lib.hid (HV2.out.below hb)
  have hlHKC := HKC.out.lt
  have HKC := Lib.hid (HKC.out.below hb hlHKC)
  clear hlHKC
  have HB := Lib.hid (HB.out.trans (hb.mono HB.out.size))
  clear hb hla
  have x0 := HA.out.cell 0
  have x1 := HA.out.cell 1
  simp only [List.getElem?_toArray, List.getElem?_cons_zero, List.getElem?_cons_succ] at x0 x1
  have y0 := HKC.out.cell 0
  have y1 := HKC.out.cell 1
  simp only [List.getElem?_toArray, List.getElem?_cons_zero, List.getElem?_cons_succ] at y0 y1
  go_wp2_with fail
  refine (ratioSame_r (M := 6) w12 (HV1.out.nr HM1.out) (HV2.out.nr HM2.out) ⟨A1, X1, n1, c1, rfl, HL1.out, HK1.out, HR1.out, HD1.out, rfl, by omega⟩ ⟨A2, X2, n2, c2, rfl, HL2.out, HK2.out, HR2.out, HD2.out, rfl, by omega⟩ (by omega)).mono ?_
  rintro e w13 ⟨hen, hb⟩
  rw [show sameQ (U X1, U X2).1 (U X1, U X2).2 (U X1) (U X2) = true from sameQ_self _ _] at hen
  subst hen
  clear x0 x1 y0 y1
  have HTAB := Lib.hid (HTAB.out.below hb)
  have hla := HA.out.lt
  have HA := Lib.hid (HA.out.below hb hla)
  have HR1 := Lib.hid ((HR1.out.below hb (Nat.le_refl _)).more hb.size)
  have HR2 := Lib.hid ((HR2.out.below hb (Nat.le_refl _)).more hb.size)
  have HB := Lib.hid (HB.out.trans (hb.mono HB.out.size))
  clear hb hla
  go_wp2_with fail
  refine (alive4_any w13 HTAB.out).mono ?_
  rintro e wz ⟨rfl, hb⟩
  go_wp2_with fail
  go_ret
  exact ⟨rfl, HB.out.trans (hb.mono HB.out.size)⟩

set_option maxHeartbeats 8000000 in
theorem rtexts_none_false (A1 A2 : Option Addr) (X1 X2 : List Nat) (n1 c1 n2 c2 : Nat) (s : ByteArray) (w : World) (hl1 : X1.length = n1) (hk1 : n1 ≤ c1) (hr1 : Ra w w.heap.size A1 X1) (hd1 : Dg X1) (hl2 : X2.length = n2) (hk2 : n2 ≤ c2) (hr2 : Ra w w.heap.size A2 X2) (hd2 : Dg X2) (htab : Tab w) (m : Int) (hm : w.cell? ⟨0, 0, none⟩ = some (.int .i64 m)) (hs0 : n1 ≤ 6 ∧ n2 ≤ 6) (hrb : rightB X1 X2 = false) (h1 : s.size ≤ 200) (hq : fp s.data.toList = none) :
    Calls Tryz.prog 3 #[.agg #[.slice A1 n1 c1, .slice A2 n2 c2], .string s] w fun e w' => e = .returned (.bool true) ∧ Below w.heap.size w w' := by
  have HRB := Lib.hid hrb
  have HK1 := Lib.hid hk1
  have HK2 := Lib.hid hk2
  have hb := b1 w (.cells #[.slice A1 n1 c1, .slice A2 n2 c2] 25)
  have hk := Blk.new w 25 #[.slice A1 n1 c1, .slice A2 n2 c2]
  obtain ⟨W0, hW0⟩ : ∃ W, w.alloc (.cells #[.slice A1 n1 c1, .slice A2 n2 c2] 25) = W := ⟨_, rfl⟩
  rw [hW0] at hb hk
  have HR1 := Lib.hid ((hr1.below hb (Nat.le_refl _)).more hb.size)
  have HR2 := Lib.hid ((hr2.below hb (Nat.le_refl _)).more hb.size)
  have HL1 := Lib.hid hl1
  have HL2 := Lib.hid hl2
  have HD1 := Lib.hid hd1
  have HD2 := Lib.hid hd2
  have HTAB := Lib.hid (htab.below hb)
  have HA := Lib.hid hk
  have HB := Lib.hid hb
  have x0 := hk.cell 0
  have x1 := hk.cell 1
  simp only [List.getElem?_toArray, List.getElem?_cons_zero, List.getElem?_cons_succ] at x0 x1
  have HMX := Lib.hid ((hb.cell (World.block_lt_of_cell? _ _ hm)).trans hm)
  obtain ⟨J, hJ⟩ : ∃ J : Nat, J = 200 := ⟨_, rfl⟩
  have i1 : ¬ (200 : Int) < (s.size : Int) := by omega
  have i3 : ¬ (5000 : Int) < (s.size : Int) := by omega
  have HFP := Lib.hid hq
  clear hl1 hr1 hd1 hl2 hr2 hd2 htab hb hk hm hrb hk1 hk2 hq
  go_enter Tryz.func3, Tryz.ntmps3
  go_wp2_with fail
  clear hW0
  refine (short_yes A1 A2 n1 c1 n2 c2 true W0 (by simp [hs0])).mono ?_
  rintro e w1 ⟨rfl, hb⟩
  clear x0 x1
  have HTAB := Lib.hid (HTAB.out.below hb)
  have hla := HA.out.lt
  have HA := Lib.hid (HA.out.below hb hla)
  have HR1 := Lib.hid ((HR1.out.below hb (Nat.le_refl _)).more hb.size)
  have HR2 := Lib.hid ((HR2.out.below hb (Nat.le_refl _)).more hb.size)
  have HMX := Lib.hid ((hb.cell (World.block_lt_of_cell? _ _ HMX.out)).trans HMX.out)
  have HB := Lib.hid (HB.out.trans (hb.mono HB.out.size))
  clear hb hla
  go_upto_region 3 with (fail)
  go_wp2_with fail
  refine (ratioParse_r s m w1 HMX.out (by omega)).mono ?_
  rintro e w2 h2
  obtain ⟨rfl, hb⟩ := parsed_none HFP.out h2
  clear h2
  have HTAB := Lib.hid (HTAB.out.below hb)
  have hla := HA.out.lt
  have HA := Lib.hid (HA.out.below hb hla)
  have HR1 := Lib.hid ((HR1.out.below hb (Nat.le_refl _)).more hb.size)
  have HR2 := Lib.hid ((HR2.out.below hb (Nat.le_refl _)).more hb.size)
  have HMX := Lib.hid ((hb.cell (World.block_lt_of_cell? _ _ HMX.out)).trans HMX.out)
  have HB := Lib.hid (HB.out.trans (hb.mono HB.out.size))
  clear hb hla
  go_upto_region 4 with (fail)
  have hk := Blk.new w2 25 #[.slice none 0 0, .slice none 0 0]
  have hb := b1 w2 (.cells #[.slice none 0 0, .slice none 0 0] 25)
  have HTAB := Lib.hid (HTAB.out.below hb)
  have hla := HA.out.lt
  have HA := Lib.hid (HA.out.below hb hla)
  have HR1 := Lib.hid ((HR1.out.below hb (Nat.le_refl _)).more hb.size)
  have HR2 := Lib.hid ((HR2.out.below hb (Nat.le_refl _)).more hb.size)
  have HMX := Lib.hid ((hb.cell (World.block_lt_of_cell? _ _ HMX.out)).trans HMX.out)
  have HB := Lib.hid (HB.out.trans (hb.mono HB.out.size))
  clear hb hla
  obtain ⟨g5, hg⟩ : ∃ g, w2.heap.size = g := ⟨_, rfl⟩
  obtain ⟨w3, hw⟩ : ∃ W, w2.alloc (.cells #[.slice none 0 0, .slice none 0 0] 25) = W := ⟨_, rfl⟩
  rw [hw, hg] at hk
  rw [hw] at HB HTAB HA HR1 HR2 HMX
  rw [hw, hg]
  have HKB := Lib.hid hk
  clear hk hg hw
  go_wp2_with fail
  refine (rat4Parse_r s w3 (by omega)).mono ?_
  rintro e w4 h4
  obtain ⟨rfl, hb⟩ := parsed4_none HFP.out h4
  clear h4
  have HTAB := Lib.hid (HTAB.out.below hb)
  have hla := HA.out.lt
  have HA := Lib.hid (HA.out.below hb hla)
  have HR1 := Lib.hid ((HR1.out.below hb (Nat.le_refl _)).more hb.size)
  have HR2 := Lib.hid ((HR2.out.below hb (Nat.le_refl _)).more hb.size)
  have HMX := Lib.hid ((hb.cell (World.block_lt_of_cell? _ _ HMX.out)).trans HMX.out)
  have hlHKB := HKB.out.lt
  have HKB := Lib.hid (HKB.out.below hb hlHKB)
  clear hlHKB
  have HB := Lib.hid (HB.out.trans (hb.mono HB.out.size))
  clear hb hla
  go_upto_region 5 with (fail)
  have hk := Blk.new w4 35 #[.slice none 0 0, .slice none 0 0]
  have hb := b1 w4 (.cells #[.slice none 0 0, .slice none 0 0] 35)
  have HTAB := Lib.hid (HTAB.out.below hb)
  have hla := HA.out.lt
  have HA := Lib.hid (HA.out.below hb hla)
  have HR1 := Lib.hid ((HR1.out.below hb (Nat.le_refl _)).more hb.size)
  have HR2 := Lib.hid ((HR2.out.below hb (Nat.le_refl _)).more hb.size)
  have HMX := Lib.hid ((hb.cell (World.block_lt_of_cell? _ _ HMX.out)).trans HMX.out)
  have hlHKB := HKB.out.lt
  have HKB := Lib.hid (HKB.out.below hb hlHKB)
  clear hlHKB
  have HB := Lib.hid (HB.out.trans (hb.mono HB.out.size))
  clear hb hla
  obtain ⟨g7, hg⟩ : ∃ g, w4.heap.size = g := ⟨_, rfl⟩
  obtain ⟨w5, hw⟩ : ∃ W, w4.alloc (.cells #[.slice none 0 0, .slice none 0 0] 35) = W := ⟨_, rfl⟩
  rw [hw, hg] at hk
  rw [hw] at HB HTAB HA HR1 HR2 HMX HKB
  rw [hw, hg]
  have HKQ := Lib.hid hk
  clear hk hg hw
  have y0 := HKB.out.cell 0
  have y1 := HKB.out.cell 1
  simp only [List.getElem?_toArray, List.getElem?_cons_zero, List.getElem?_cons_succ] at y0 y1
  have z0 := HKQ.out.cell 0
  have z1 := HKQ.out.cell 1
  simp only [List.getElem?_toArray, List.getElem?_cons_zero, List.getElem?_cons_succ] at z0 z1
  go_wp2_with fail
  refine (nofrac_yes w5).mono ?_
  rintro e w6 ⟨rfl, hb⟩
  clear y0 y1 z0 z1 HKB HKQ
  have HTAB := Lib.hid (HTAB.out.below hb)
  have hla := HA.out.lt
  have HA := Lib.hid (HA.out.below hb hla)
  have HR1 := Lib.hid ((HR1.out.below hb (Nat.le_refl _)).more hb.size)
  have HR2 := Lib.hid ((HR2.out.below hb (Nat.le_refl _)).more hb.size)
  have HMX := Lib.hid ((hb.cell (World.block_lt_of_cell? _ _ HMX.out)).trans HMX.out)
  have HB := Lib.hid (HB.out.trans (hb.mono HB.out.size))
  clear hb hla
  go_upto_region 7 with (fail)
  have x0 := HA.out.cell 0
  have x1 := HA.out.cell 1
  simp only [List.getElem?_toArray, List.getElem?_cons_zero, List.getElem?_cons_succ] at x0 x1
  have hc := right4_r A1 A2 X1 X2 n1 c1 n2 c2 w6 HL1.out HL2.out HR1.out HR2.out HD1.out HD2.out (by omega) (by omega)
  rw [HRB.out] at hc
  have HC := Lib.hid hc
  clear hc
  go_wp2_with fail
  refine HC.out.mono ?_
  rintro e w7 ⟨rfl, hb⟩
  clear HC x0 x1
  have HTAB := Lib.hid (HTAB.out.below hb)
  have hla := HA.out.lt
  have HA := Lib.hid (HA.out.below hb hla)
  have HR1 := Lib.hid ((HR1.out.below hb (Nat.le_refl _)).more hb.size)
  have HR2 := Lib.hid ((HR2.out.below hb (Nat.le_refl _)).more hb.size)
  have HMX := Lib.hid ((hb.cell (World.block_lt_of_cell? _ _ HMX.out)).trans HMX.out)
  have HB := Lib.hid (HB.out.trans (hb.mono HB.out.size))
  clear hb hla
  go_wp2_with fail
  refine (alive4_any w7 HTAB.out).mono ?_
  rintro e wz ⟨rfl, hb⟩
  go_wp2_with fail
  go_ret
  exact ⟨rfl, HB.out.trans (hb.mono HB.out.size)⟩

set_option maxHeartbeats 8000000 in
theorem rtexts_none_true (A1 A2 : Option Addr) (X1 X2 : List Nat) (n1 c1 n2 c2 : Nat) (s : ByteArray) (w : World) (hl1 : X1.length = n1) (hk1 : n1 ≤ c1) (hr1 : Ra w w.heap.size A1 X1) (hd1 : Dg X1) (hl2 : X2.length = n2) (hk2 : n2 ≤ c2) (hr2 : Ra w w.heap.size A2 X2) (hd2 : Dg X2) (htab : Tab w) (m : Int) (hm : w.cell? ⟨0, 0, none⟩ = some (.int .i64 m)) (hs0 : n1 ≤ 6 ∧ n2 ≤ 6) (hrb : rightB X1 X2 = true) (h1 : s.size ≤ 200) (hq : fp s.data.toList = none) :
    Calls Tryz.prog 3 #[.agg #[.slice A1 n1 c1, .slice A2 n2 c2], .string s] w fun e w' => e = .returned (.bool true) ∧ Below w.heap.size w w' := by
  have HRB := Lib.hid hrb
  have HK1 := Lib.hid hk1
  have HK2 := Lib.hid hk2
  have hb := b1 w (.cells #[.slice A1 n1 c1, .slice A2 n2 c2] 25)
  have hk := Blk.new w 25 #[.slice A1 n1 c1, .slice A2 n2 c2]
  obtain ⟨W0, hW0⟩ : ∃ W, w.alloc (.cells #[.slice A1 n1 c1, .slice A2 n2 c2] 25) = W := ⟨_, rfl⟩
  rw [hW0] at hb hk
  have HR1 := Lib.hid ((hr1.below hb (Nat.le_refl _)).more hb.size)
  have HR2 := Lib.hid ((hr2.below hb (Nat.le_refl _)).more hb.size)
  have HL1 := Lib.hid hl1
  have HL2 := Lib.hid hl2
  have HD1 := Lib.hid hd1
  have HD2 := Lib.hid hd2
  have HTAB := Lib.hid (htab.below hb)
  have HA := Lib.hid hk
  have HB := Lib.hid hb
  have x0 := hk.cell 0
  have x1 := hk.cell 1
  simp only [List.getElem?_toArray, List.getElem?_cons_zero, List.getElem?_cons_succ] at x0 x1
  have HMX := Lib.hid ((hb.cell (World.block_lt_of_cell? _ _ hm)).trans hm)
  obtain ⟨J, hJ⟩ : ∃ J : Nat, J = 200 := ⟨_, rfl⟩
  have i1 : ¬ (200 : Int) < (s.size : Int) := by omega
  have i3 : ¬ (5000 : Int) < (s.size : Int) := by omega
  have HFP := Lib.hid hq
  have HRT := Lib.hid (rt_of hrb)
  have HW1 : Hid ((U X1, U X2).1 < 65536 ^ J) := Lib.hid (Nat.lt_of_lt_of_le (U_small_k 12 hd1 (show X1.length ≤ 6 by omega) rfl) (Nat.pow_le_pow_right (by omega) (by omega)))
  have HW2 : Hid ((U X1, U X2).2 < 65536 ^ J) := Lib.hid (Nat.lt_of_lt_of_le (U_small_k 12 hd2 (show X2.length ≤ 6 by omega) rfl) (Nat.pow_le_pow_right (by omega) (by omega)))
  have HM1 : Hid ((U X1, U X2).1 < 4294967296 ^ 6) := Lib.hid (pow16_32 (U_small_k 12 hd1 (show X1.length ≤ 6 by omega) rfl) rfl)
  have HM2 : Hid ((U X1, U X2).2 < 4294967296 ^ 6) := Lib.hid (pow16_32 (U_small_k 12 hd2 (show X2.length ≤ 6 by omega) rfl) rfl)
  have htl := ftxt_len HM1.out HM2.out (by omega)
  obtain ⟨t, ht⟩ : ∃ t : ByteArray, (⟨(ftxt (U X1, U X2)).toArray⟩ : ByteArray) = t := ⟨_, rfl⟩
  have HTL : Hid (t.size ≤ 2003) := Lib.hid (by rw [← ht]; simpa [ByteArray.size] using htl)
  have HTD : Hid (t.data.toList = ftxt (U X1, U X2)) := Lib.hid (by rw [← ht])
  have HTX := Lib.hid ht
  clear htl ht
  clear hl1 hr1 hd1 hl2 hr2 hd2 htab hb hk hm hrb hk1 hk2 hq
  go_enter Tryz.func3, Tryz.ntmps3
  go_wp2_with fail
  clear hW0
  refine (short_yes A1 A2 n1 c1 n2 c2 true W0 (by simp [hs0])).mono ?_
  rintro e w1 ⟨rfl, hb⟩
  clear x0 x1
  have HTAB := Lib.hid (HTAB.out.below hb)
  have hla := HA.out.lt
  have HA := Lib.hid (HA.out.below hb hla)
  have HR1 := Lib.hid ((HR1.out.below hb (Nat.le_refl _)).more hb.size)
  have HR2 := Lib.hid ((HR2.out.below hb (Nat.le_refl _)).more hb.size)
  have HMX := Lib.hid ((hb.cell (World.block_lt_of_cell? _ _ HMX.out)).trans HMX.out)
  have HB := Lib.hid (HB.out.trans (hb.mono HB.out.size))
  clear hb hla
  go_upto_region 3 with (fail)
  go_wp2_with fail
  refine (ratioParse_r s m w1 HMX.out (by omega)).mono ?_
  rintro e w2 h2
  obtain ⟨rfl, hb⟩ := parsed_none HFP.out h2
  clear h2
  have HTAB := Lib.hid (HTAB.out.below hb)
  have hla := HA.out.lt
  have HA := Lib.hid (HA.out.below hb hla)
  have HR1 := Lib.hid ((HR1.out.below hb (Nat.le_refl _)).more hb.size)
  have HR2 := Lib.hid ((HR2.out.below hb (Nat.le_refl _)).more hb.size)
  have HMX := Lib.hid ((hb.cell (World.block_lt_of_cell? _ _ HMX.out)).trans HMX.out)
  have HB := Lib.hid (HB.out.trans (hb.mono HB.out.size))
  clear hb hla
  go_upto_region 4 with (fail)
  have hk := Blk.new w2 25 #[.slice none 0 0, .slice none 0 0]
  have hb := b1 w2 (.cells #[.slice none 0 0, .slice none 0 0] 25)
  have HTAB := Lib.hid (HTAB.out.below hb)
  have hla := HA.out.lt
  have HA := Lib.hid (HA.out.below hb hla)
  have HR1 := Lib.hid ((HR1.out.below hb (Nat.le_refl _)).more hb.size)
  have HR2 := Lib.hid ((HR2.out.below hb (Nat.le_refl _)).more hb.size)
  have HMX := Lib.hid ((hb.cell (World.block_lt_of_cell? _ _ HMX.out)).trans HMX.out)
  have HB := Lib.hid (HB.out.trans (hb.mono HB.out.size))
  clear hb hla
  obtain ⟨g5, hg⟩ : ∃ g, w2.heap.size = g := ⟨_, rfl⟩
  obtain ⟨w3, hw⟩ : ∃ W, w2.alloc (.cells #[.slice none 0 0, .slice none 0 0] 25) = W := ⟨_, rfl⟩
  rw [hw, hg] at hk
  rw [hw] at HB HTAB HA HR1 HR2 HMX
  rw [hw, hg]
  have HKB := Lib.hid hk
  clear hk hg hw
  go_wp2_with fail
  refine (rat4Parse_r s w3 (by omega)).mono ?_
  rintro e w4 h4
  obtain ⟨rfl, hb⟩ := parsed4_none HFP.out h4
  clear h4
  have HTAB := Lib.hid (HTAB.out.below hb)
  have hla := HA.out.lt
  have HA := Lib.hid (HA.out.below hb hla)
  have HR1 := Lib.hid ((HR1.out.below hb (Nat.le_refl _)).more hb.size)
  have HR2 := Lib.hid ((HR2.out.below hb (Nat.le_refl _)).more hb.size)
  have HMX := Lib.hid ((hb.cell (World.block_lt_of_cell? _ _ HMX.out)).trans HMX.out)
  have hlHKB := HKB.out.lt
  have HKB := Lib.hid (HKB.out.below hb hlHKB)
  clear hlHKB
  have HB := Lib.hid (HB.out.trans (hb.mono HB.out.size))
  clear hb hla
  go_upto_region 5 with (fail)
  have hk := Blk.new w4 35 #[.slice none 0 0, .slice none 0 0]
  have hb := b1 w4 (.cells #[.slice none 0 0, .slice none 0 0] 35)
  have HTAB := Lib.hid (HTAB.out.below hb)
  have hla := HA.out.lt
  have HA := Lib.hid (HA.out.below hb hla)
  have HR1 := Lib.hid ((HR1.out.below hb (Nat.le_refl _)).more hb.size)
  have HR2 := Lib.hid ((HR2.out.below hb (Nat.le_refl _)).more hb.size)
  have HMX := Lib.hid ((hb.cell (World.block_lt_of_cell? _ _ HMX.out)).trans HMX.out)
  have hlHKB := HKB.out.lt
  have HKB := Lib.hid (HKB.out.below hb hlHKB)
  clear hlHKB
  have HB := Lib.hid (HB.out.trans (hb.mono HB.out.size))
  clear hb hla
  obtain ⟨g7, hg⟩ : ∃ g, w4.heap.size = g := ⟨_, rfl⟩
  obtain ⟨w5, hw⟩ : ∃ W, w4.alloc (.cells #[.slice none 0 0, .slice none 0 0] 35) = W := ⟨_, rfl⟩
  rw [hw, hg] at hk
  rw [hw] at HB HTAB HA HR1 HR2 HMX HKB
  rw [hw, hg]
  have HKQ := Lib.hid hk
  clear hk hg hw
  have y0 := HKB.out.cell 0
  have y1 := HKB.out.cell 1
  simp only [List.getElem?_toArray, List.getElem?_cons_zero, List.getElem?_cons_succ] at y0 y1
  have z0 := HKQ.out.cell 0
  have z1 := HKQ.out.cell 1
  simp only [List.getElem?_toArray, List.getElem?_cons_zero, List.getElem?_cons_succ] at z0 z1
  go_wp2_with fail
  refine (nofrac_yes w5).mono ?_
  rintro e w6 ⟨rfl, hb⟩
  clear y0 y1 z0 z1 HKB HKQ
  have HTAB := Lib.hid (HTAB.out.below hb)
  have hla := HA.out.lt
  have HA := Lib.hid (HA.out.below hb hla)
  have HR1 := Lib.hid ((HR1.out.below hb (Nat.le_refl _)).more hb.size)
  have HR2 := Lib.hid ((HR2.out.below hb (Nat.le_refl _)).more hb.size)
  have HMX := Lib.hid ((hb.cell (World.block_lt_of_cell? _ _ HMX.out)).trans HMX.out)
  have HB := Lib.hid (HB.out.trans (hb.mono HB.out.size))
  clear hb hla
  go_upto_region 7 with (fail)
  have x0 := HA.out.cell 0
  have x1 := HA.out.cell 1
  simp only [List.getElem?_toArray, List.getElem?_cons_zero, List.getElem?_cons_succ] at x0 x1
  have hc := right4_r A1 A2 X1 X2 n1 c1 n2 c2 w6 HL1.out HL2.out HR1.out HR2.out HD1.out HD2.out (by omega) (by omega)
  rw [HRB.out] at hc
  have HC := Lib.hid hc
  clear hc
  go_wp2_with fail
  refine HC.out.mono ?_
  rintro e w7 ⟨rfl, hb⟩
  clear HC x0 x1
  have HTAB := Lib.hid (HTAB.out.below hb)
  have hla := HA.out.lt
  have HA := Lib.hid (HA.out.below hb hla)
  have HR1 := Lib.hid ((HR1.out.below hb (Nat.le_refl _)).more hb.size)
  have HR2 := Lib.hid ((HR2.out.below hb (Nat.le_refl _)).more hb.size)
  have HMX := Lib.hid ((hb.cell (World.block_lt_of_cell? _ _ HMX.out)).trans HMX.out)
  have HB := Lib.hid (HB.out.trans (hb.mono HB.out.size))
  clear hb hla
  go_upto_region 9 with (fail)
  have x0 := HA.out.cell 0
  have x1 := HA.out.cell 1
  simp only [List.getElem?_toArray, List.getElem?_cons_zero, List.getElem?_cons_succ] at x0 x1
  go_wp2_with fail
  refine (ratioText_r (M := 6) (U X1, U X2) w7 ⟨A1, X1, n1, c1, rfl, HL1.out, HK1.out, HR1.out, HD1.out, rfl, by omega⟩ ⟨A2, X2, n2, c2, rfl, HL2.out, HK2.out, HR2.out, HD2.out, rfl, by omega⟩ (by omega) HTAB.out).mono ?_
  rintro e w8 ⟨hen, hb⟩
  rw [HTX.out] at hen
  subst hen
  clear x0 x1
  have HTAB := Lib.hid (HTAB.out.below hb)
  have hla := HA.out.lt
  have HA := Lib.hid (HA.out.below hb hla)
  have HR1 := Lib.hid ((HR1.out.below hb (Nat.le_refl _)).more hb.size)
  have HR2 := Lib.hid ((HR2.out.below hb (Nat.le_refl _)).more hb.size)
  have HMX := Lib.hid ((hb.cell (World.block_lt_of_cell? _ _ HMX.out)).trans HMX.out)
  have HB := Lib.hid (HB.out.trans (hb.mono HB.out.size))
  clear hb hla
  go_upto_region 10 with (fail)
  go_wp2_with fail
  refine (ratioParse_r t m w8 HMX.out (by have := HTL.out; omega)).mono ?_
  rintro e w9 h9
  rw [HTD.out] at h9
  obtain ⟨C1, p1, r1, C2, p2, r2, rfl, hv1, hv2, hb⟩ := parsed_txt HRT.out h9
  clear h9
  have HV1 := Lib.hid hv1
  have HV2 := Lib.hid hv2
  clear hv1 hv2
  have HTAB := Lib.hid (HTAB.out.below hb)
  have hla := HA.out.lt
  have HA := Lib.hid (HA.out.below hb hla)
  have HR1 := Lib.hid ((HR1.out.below hb (Nat.le_refl _)).more hb.size)
  have HR2 := Lib.hid ((HR2.out.below hb (Nat.le_refl _)).more hb.size)
  have HMX := Lib.hid ((hb.cell (World.block_lt_of_cell? _ _ HMX.out)).trans HMX.out)
  have HB := Lib.hid (HB.out.trans (hb.mono HB.out.size))
  clear hb hla
  go_upto_region 11 with (fail)
  have hk := Blk.new w9 25 #[.slice C1 p1 r1, .slice C2 p2 r2]
  have hb := b1 w9 (.cells #[.slice C1 p1 r1, .slice C2 p2 r2] 25)
  have HTAB := Lib.hid (HTAB.out.below hb)
  have hla := HA.out.lt
  have HA := Lib.hid (HA.out.below hb hla)
  have HR1 := Lib.hid ((HR1.out.below hb (Nat.le_refl _)).more hb.size)
  have HR2 := Lib.hid ((HR2.out.below hb (Nat.le_refl _)).more hb.size)
  have HV1 := Lib.hid (HV1.out.below hb)
  have HV2 := Lib.hid (HV2.out.below hb)
  have HB := Lib.hid (HB.out.trans (hb.mono HB.out.size))
  clear hb hla
  obtain ⟨g10, hg⟩ : ∃ g, w9.heap.size = g := ⟨_, rfl⟩
  obtain ⟨w10, hw⟩ : ∃ W, w9.alloc (.cells #[.slice C1 p1 r1, .slice C2 p2 r2] 25) = W := ⟨_, rfl⟩
  rw [hw, hg] at hk
  rw [hw] at HB HTAB HA HR1 HR2 HV1 HV2
  rw [hw, hg]
  have HKC := Lib.hid hk
  clear hk hg hw
  have x0 := HA.out.cell 0
  have x1 := HA.out.cell 1
  simp only [List.getElem?_toArray, List.getElem?_cons_zero, List.getElem?_cons_succ] at x0 x1
  have y0 := HKC.out.cell 0
  have y1 := HKC.out.cell 1
  simp only [List.getElem?_toArray, List.getElem?_cons_zero, List.getElem?_cons_succ] at y0 y1
  go_wp2_with fail
  refine (in4_r A1 A2 X1 X2 n1 c1 n2 c2 w10 HL1.out HL2.out HR1.out HR2.out HD1.out HD2.out (by omega) (by omega)).mono ?_
  rintro e w11 ⟨B1, i1, e1, B2, i2, e2, rfl, hq1, hq2, hb⟩
  have HU := Lib.hid (show QNum w11 B1 i1 e1 B2 i2 e2 (U X1, U X2) from ⟨hq1, hq2⟩)
  clear hq1 hq2 x0 x1 y0 y1
  have HTAB := Lib.hid (HTAB.out.below hb)
  have hla := HA.out.lt
  have HA := Lib.hid (HA.out.below hb hla)
  have HR1 := Lib.hid ((HR1.out.below hb (Nat.le_refl _)).more hb.size)
  have HR2 := Lib.hid ((HR2.out.below hb (Nat.le_refl _)).more hb.size)
  have HV1 := Lib.hid (HV1.out.below hb)
  have HV2 := Lib.hid (HV2.out.below hb)
  have hlHKC := HKC.out.lt
  have HKC := Lib.hid (HKC.out.below hb hlHKC)
  clear hlHKC
  have HB := Lib.hid (HB.out.trans (hb.mono HB.out.size))
  clear hb hla
  go_wp2_with fail
  refine (ref4Text_r (j := J) w11 HU.out HW1.out HW2.out (by omega) (by omega)).mono ?_
  rintro e w12 ⟨hen, hb⟩
  rw [HTX.out] at hen
  subst hen
  clear HU
  have HTAB := Lib.hid (HTAB.out.below hb)
  have hla := HA.out.lt
  have HA := Lib.hid (HA.out.below hb hla)
  have HR1 := Lib.hid ((HR1.out.below hb (Nat.le_refl _)).more hb.size)
  have HR2 := Lib.hid ((HR2.out.below hb (Nat.le_refl _)).more hb.size)
  have HV1 := Lib.hid (HV1.out.below hb)
  have HV2 := Lib.hid (HV2.out.below hb)
  have hlHKC := HKC.out.lt
  have HKC := Lib.hid (HKC.out.below hb hlHKC)
  clear hlHKC
  have HB := Lib.hid (HB.out.trans (hb.mono HB.out.size))
  clear hb hla
  have x0 := HA.out.cell 0
  have x1 := HA.out.cell 1
  simp only [List.getElem?_toArray, List.getElem?_cons_zero, List.getElem?_cons_succ] at x0 x1
  have y0 := HKC.out.cell 0
  have y1 := HKC.out.cell 1
  simp only [List.getElem?_toArray, List.getElem?_cons_zero, List.getElem?_cons_succ] at y0 y1
  go_wp2_with fail
  refine (ratioSame_r (M := 6) w12 (HV1.out.nr HM1.out) (HV2.out.nr HM2.out) ⟨A1, X1, n1, c1, rfl, HL1.out, HK1.out, HR1.out, HD1.out, rfl, by omega⟩ ⟨A2, X2, n2, c2, rfl, HL2.out, HK2.out, HR2.out, HD2.out, rfl, by omega⟩ (by omega)).mono ?_
  rintro e w13 ⟨hen, hb⟩
  rw [show sameQ (U X1, U X2).1 (U X1, U X2).2 (U X1) (U X2) = true from sameQ_self _ _] at hen
  subst hen
  clear x0 x1 y0 y1
  have HTAB := Lib.hid (HTAB.out.below hb)
  have hla := HA.out.lt
  have HA := Lib.hid (HA.out.below hb hla)
  have HR1 := Lib.hid ((HR1.out.below hb (Nat.le_refl _)).more hb.size)
  have HR2 := Lib.hid ((HR2.out.below hb (Nat.le_refl _)).more hb.size)
  have HB := Lib.hid (HB.out.trans (hb.mono HB.out.size))
  clear hb hla
  go_wp2_with fail
  refine (alive4_any w13 HTAB.out).mono ?_
  rintro e wz ⟨rfl, hb⟩
  go_wp2_with fail
  go_ret
  exact ⟨rfl, HB.out.trans (hb.mono HB.out.size)⟩

end Go.Proofs.YtaifigkbblncpaaGreatDoor
