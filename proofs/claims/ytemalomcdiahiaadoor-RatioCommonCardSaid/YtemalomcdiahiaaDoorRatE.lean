/-
  Fractions: texts; the chapter's example.
-/
import Derived.Test.YtemalomcdiahiaaDoorRatD
import Derived.Deep.RegionHeld3
namespace Go.Proofs.YtemalomcdiahiaaDoor
open Go.RowKit
set_option maxRecDepth 100000

theorem text_r {v : Value} {a M : Nat} (w : World) (h : Nr w v a M) (hM : M ≤ 1000) (htab : Tab w) : Calls Tryd.prog 63 #[v] w fun e w' => e = .returned (.string ⟨(Lib.decDigits a).toArray⟩) ∧ Below w.heap.size w w' := by
  obtain ⟨A, xs, n, c, rfl, hl, hc, hr, hd, rfl, hn⟩ := h
  exact text_any A xs n c w hl hr hd (by omega) hc htab

theorem dec_len {a M : Nat} (h : a < 4294967296 ^ M) (hM : M ≤ 100) : (Lib.decDigits a).length ≤ 1001 := by
  have h1 : (4294967296 : Nat) ^ M ≤ (10 ^ 10) ^ M := Nat.pow_le_pow_left (by decide) M
  rw [← Nat.pow_mul] at h1
  have h2 : (10 : Nat) ^ (10 * M) ≤ 10 ^ (10 * M + 1) := Nat.pow_le_pow_right (by omega) (by omega)
  have := decDigits_len (u := a) (k := 10 * M) (Nat.lt_of_lt_of_le h (Nat.le_trans h1 h2))
  omega

set_option maxHeartbeats 4000000 in
theorem ratioText_two {A1 A2 : Option Addr} {n1 c1 n2 c2 a b M : Nat} (w : World) (h1 : Nr w (.slice A1 n1 c1) a M) (h2 : Nr w (.slice A2 n2 c2) b M) (hM : M ≤ 100) (hb1 : b ≠ 1) (htab : Tab w) :
    Calls Tryd.prog 39 #[.agg #[.slice A1 n1 c1, .slice A2 n2 c2]] w fun e w' => e = .returned (.string (⟨(Lib.decDigits a).toArray⟩ ++ ⟨#[47]⟩ ++ ⟨(Lib.decDigits b).toArray⟩)) ∧ Below w.heap.size w w' := by
  have hb := b1 w (.cells #[.slice A1 n1 c1, .slice A2 n2 c2] 27)
  have k0 := cn0 w 27 (.slice A1 n1 c1) (.slice A2 n2 c2)
  have k1 := cn1 w 27 (.slice A1 n1 c1) (.slice A2 n2 c2)
  obtain ⟨W0, hW0⟩ : ∃ W0, w.alloc (.cells #[.slice A1 n1 c1, .slice A2 n2 c2] 27) = W0 := ⟨_, rfl⟩
  rw [hW0] at hb k0 k1
  have H1 := Lib.hid (h1.below hb)
  have H2 := Lib.hid (h2.below hb)
  have HT := Lib.hid (htab.below hb)
  have ho := isOne_r false W0 H2.out (by omega) (by simp [hb1])
  have hla : (Lib.decDigits a).length ≤ 1001 := dec_len h1.lt hM
  have hlb : (Lib.decDigits b).length ≤ 1001 := dec_len h2.lt hM
  obtain ⟨s, hs⟩ : ∃ s : ByteArray, (⟨(Lib.decDigits a).toArray⟩ : ByteArray) = s := ⟨_, rfl⟩
  obtain ⟨t, ht⟩ : ∃ t : ByteArray, (⟨(Lib.decDigits b).toArray⟩ : ByteArray) = t := ⟨_, rfl⟩
  have hss : s.size ≤ 1001 := by rw [← hs]; simpa [ByteArray.size] using hla
  have hts : t.size ≤ 1001 := by rw [← ht]; simpa [ByteArray.size] using hlb
  have t1 := fun wz (h : Below W0.heap.size W0 wz) => text_r wz (H1.out.below h) (by omega) (HT.out.below h)
  have t2 := fun wz (h : Below W0.heap.size W0 wz) => text_r wz (H2.out.below h) (by omega) (HT.out.below h)
  simp only [hs] at t1
  simp only [ht] at t2
  rw [hs, ht]
  have hadd1 := fun W => run_string_add_sum (P := Tryd.prog) W s (⟨#[47]⟩ : ByteArray) (by rw [show (⟨#[47]⟩ : ByteArray).size = 1 from rfl]; omega)
  have hadd2 := fun W => run_string_add_sum (P := Tryd.prog) W (s ++ (⟨#[47]⟩ : ByteArray)) t (by rw [ByteArray.size_append, show (⟨#[47]⟩ : ByteArray).size = 1 from rfl]; omega)
  have hsz1 : s.size ≤ 9223372036854775806 := by omega
  have hsz2 : s.size + 1 + t.size ≤ 9223372036854775807 := by omega
  have hsz3 : ¬ 9223372036854775807 < s.size + 1 + t.size := by omega
  have hsz4 : ¬ 9223372036854775807 < s.size + 1 := by omega
  have hsz5 : ¬ 9223372036854775807 ≤ s.size := by omega
  clear h1 h2 hb1 hla hlb hs ht
  go_enter Tryd.func39, Tryd.ntmps39
  go_wp2_with fail
  refine ho.mono ?_
  rintro e w' ⟨rfl, rfl⟩
  go_wp2_with fail
  first
    | (go_region_held3 (fun u => u.cell? ⟨w.heap.size, 0, none⟩ = some (.slice A1 n1 c1) ∧ u.cell? ⟨w.heap.size, 1, none⟩ = some (.slice A2 n2 c2) ∧ Below W0.heap.size W0 u)
        (first | exact ⟨k0, k1, (Below.refl _ _).drew⟩ | assumption)
        (first
          | (go_at_call 63; (with_reducible refine (t1 _ (thd_of (p := ⟨w.heap.size, 0, none⟩) (a := .slice A1 n1 c1) (q := ⟨w.heap.size, 1, none⟩) (b := .slice A2 n2 c2) (by assumption))).mono ?_); rintro e x1 ⟨rfl, hb1⟩; have hS1 := held2 hb1 (by assumption))
          | (go_at_call 63; (with_reducible refine (t2 _ (thd_of (p := ⟨w.heap.size, 0, none⟩) (a := .slice A1 n1 c1) (q := ⟨w.heap.size, 1, none⟩) (b := .slice A2 n2 c2) (by assumption))).mono ?_); rintro e x2 ⟨rfl, hb2⟩; have hS2 := held2 hb2 (by assumption))))
    | fail
  all_goals
    go_wp2_with fail
    go_ret
    first
      | exact ⟨rfl, hb.trans (hS2.2.2.mono hb.size)⟩
      | exact ⟨rfl, hb.trans (hS1.2.2.mono hb.size)⟩

theorem of12 (w : World) : Calls Tryd.prog 8 #[.int .u64 1, .int .u64 2] w (RetQt w 1 2) := ratioOf_r 1 2 w (by omega) (by omega) (by omega)
theorem of26 (w : World) : Calls Tryd.prog 8 #[.int .u64 2, .int .u64 6] w (RetQt w 1 3) := ratioOf_r 2 6 w (by omega) (by omega) (by omega)
theorem of10 (w : World) : Calls Tryd.prog 8 #[.int .u64 1, .int .u64 0] w (RetQf w) := ratioOf_no 1 w (by omega)
theorem text56 : (⟨(Lib.decDigits 5).toArray⟩ ++ ⟨#[47]⟩ ++ ⟨(Lib.decDigits 6).toArray⟩ : ByteArray) = ⟨#[53, 47, 54]⟩ := by
  rw [Lib.decDigits_one (by omega), Lib.decDigits_one (by omega)]; rfl
theorem lcm_ex : lcmAll [(1, 2), (1, 3)] = 6 := by decide
theorem add_ex : ([(1, 2), (1, 3)] : List (Nat × Nat)).foldl addQ (0, 1) = (5, 6) := by decide
theorem part_ex0 : partOf [(1, 2), (1, 3)] 0 = 3 := by decide
theorem part_ex1 : partOf [(1, 2), (1, 3)] 1 = 2 := by decide

/-- Two fractions in a slice of their own. -/
theorem rats2 {u : World} {A1 A2 A3 A4 : Option Addr} {n1 c1 n2 c2 n3 c3 n4 c4 a b c d M : Nat} (h1 : Nr u (.slice A1 n1 c1) a M) (h2 : Nr u (.slice A2 n2 c2) b M) (h3 : Nr u (.slice A3 n3 c3) c M) (h4 : Nr u (.slice A4 n4 c4) d M) :
    Rats (u.alloc (.cells #[.slice A1 n1 c1, .slice A2 n2 c2, .slice A3 n3 c3, .slice A4 n4 c4] 27)) (u.alloc (.cells #[.slice A1 n1 c1, .slice A2 n2 c2, .slice A3 n3 c3, .slice A4 n4 c4] 27)).heap.size (some ⟨u.heap.size, 0, none⟩) [(a, b), (c, d)] M := by
  have hb := b1 u (.cells #[.slice A1 n1 c1, .slice A2 n2 c2, .slice A3 n3 c3, .slice A4 n4 c4] 27)
  have hk := Blk.new u 27 #[.slice A1 n1 c1, .slice A2 n2 c2, .slice A3 n3 c3, .slice A4 n4 c4]
  intro k q hq
  match k, hq with
  | 0, hq =>
    obtain rfl : (a, b) = q := by simpa using hq
    exact ⟨_, 0, A1, n1, c1, A2, n2, c2, rfl, hk.lt, hk.cell 0, hk.cell 1, h1.below hb, h2.below hb⟩
  | 1, hq =>
    obtain rfl : (c, d) = q := by simpa using hq
    exact ⟨_, 0, A3, n3, c3, A4, n4, c4, rfl, hk.lt, hk.cell 2, hk.cell 3, h3.below hb, h4.below hb⟩
  | k + 2, hq => simp at hq

set_option maxHeartbeats 2000000 in
theorem alive4_any (w : World) (htab : Tab w) : Calls Tryd.prog 6 #[] w fun e w' => e = .returned (.bool true) ∧ Below w.heap.size w w' := by
  go_enter Tryd.func6, Tryd.ntmps6
  go_wp2_with fail
  refine (of12 w).mono ?_
  rintro e w1 ⟨A1, n1, c1, A2, n2, c2, rfl, hx1, hy1, hb1⟩
  have ha1 := b1 w1 (.cells #[.slice A1 n1 c1, .slice A2 n2 c2] 27)
  have X1 := Lib.hid ((hx1.nr (M := 1) (by omega)).below ha1)
  have Y1 := Lib.hid ((hy1.nr (M := 1) (by omega)).below ha1)
  have k0 := cn0 w1 27 (.slice A1 n1 c1) (.slice A2 n2 c2)
  have k1 := cn1 w1 27 (.slice A1 n1 c1) (.slice A2 n2 c2)
  have hB1 := hb1.trans (ha1.mono hb1.size)
  clear hx1 hy1 hb1 ha1
  go_upto_region 2 with (fail)
  obtain ⟨g1, hg1⟩ : ∃ g1, w1.heap.size = g1 := ⟨_, rfl⟩
  obtain ⟨u1, hu1⟩ : ∃ u1, w1.alloc (.cells #[.slice A1 n1 c1, .slice A2 n2 c2] 27) = u1 := ⟨_, rfl⟩
  rw [hg1, hu1] at k0 k1
  rw [hu1] at X1 Y1 hB1
  rw [hg1, hu1]
  clear hg1 hu1
  go_wp2_with fail
  refine (of26 u1).mono ?_
  rintro e w2 ⟨A3, n3, c3, A4, n4, c4, rfl, hx2, hy2, hb2⟩
  have ha2 := b1 w2 (.cells #[.slice A3 n3 c3, .slice A4 n4 c4] 27)
  have hb3 := hb2.trans (ha2.mono hb2.size)
  have X2 := Lib.hid ((hx2.nr (M := 1) (by omega)).below ha2)
  have Y2 := Lib.hid ((hy2.nr (M := 1) (by omega)).below ha2)
  have X1 := Lib.hid (X1.out.below hb3)
  have Y1 := Lib.hid (Y1.out.below hb3)
  have kk := cells2 hb3 ⟨k0, k1⟩
  have l0 := cn0 w2 27 (.slice A3 n3 c3) (.slice A4 n4 c4)
  have l1 := cn1 w2 27 (.slice A3 n3 c3) (.slice A4 n4 c4)
  have hB2 := hB1.trans (hb3.mono hB1.size)
  clear hx2 hy2 hb2 hb3 ha2 k0 k1
  go_upto_region 3 with (fail)
  obtain ⟨g2, hg2⟩ : ∃ g2, w2.heap.size = g2 := ⟨_, rfl⟩
  obtain ⟨u2, hu2⟩ : ∃ u2, w2.alloc (.cells #[.slice A3 n3 c3, .slice A4 n4 c4] 27) = u2 := ⟨_, rfl⟩
  rw [hg2, hu2] at l0 l1
  rw [hu2] at X1 Y1 X2 Y2 hB2 kk
  rw [hg2, hu2]
  clear hg2 hu2
  go_wp2_with fail
  refine (of10 u2).mono ?_
  rintro e w3 ⟨rfl, hb3⟩
  have ha3 := b1 w3 (.cells #[.slice none 0 0, .slice none 0 0] 27)
  have hb4 := hb3.trans (ha3.mono hb3.size)
  have X1 := Lib.hid (X1.out.below hb4)
  have Y1 := Lib.hid (Y1.out.below hb4)
  have X2 := Lib.hid (X2.out.below hb4)
  have Y2 := Lib.hid (Y2.out.below hb4)
  have kk := cells2 hb4 kk
  have ll := cells2 hb4 ⟨l0, l1⟩
  have hB3 := hB2.trans (hb4.mono hB2.size)
  clear hb3 hb4 ha3 l0 l1
  go_upto_region 4 with (fail)
  obtain ⟨u3, hu3⟩ : ∃ u3, w3.alloc (.cells #[.slice none 0 0, .slice none 0 0] 27) = u3 := ⟨_, rfl⟩
  rw [hu3] at X1 Y1 X2 Y2 hB3 kk ll
  rw [hu3]
  clear hu3
  obtain ⟨k0, k1⟩ := kk
  obtain ⟨l0, l1⟩ := ll
  have hcm := common_r (some ⟨u3.heap.size, 0, none⟩) [(1, 2), (1, 3)] 2 2 1 _ rfl (rats2 X1.out Y1.out X2.out Y2.out) (by omega) (by omega)
  go_wp2_with fail
  refine hcm.mono ?_
  rintro e w4 ⟨D1, i1, e1, gp, ps, rfl, hcn, hps, hgp, hb4⟩
  rw [lcm_ex] at hcn
  obtain ⟨hpl, hpj, _, hpb⟩ := hps
  obtain ⟨E0, j0, d0, e0, q0⟩ := hpj 0 (by omega)
  obtain ⟨E1, j1, d1, e1', q1⟩ := hpj 1 (by omega)
  rw [part_ex0] at q0
  rw [part_ex1] at q1
  have p0 : w4.cell? ⟨gp, 0, none⟩ = some (.slice E0 j0 d0) := by rw [hpb.cell 0]; simpa using e0
  have p1 : w4.cell? ⟨gp, 1, none⟩ = some (.slice E1 j1 d1) := by rw [hpb.cell 1]; simpa using e1'
  have ha4 := b1 u3 (.cells #[.slice A1 n1 c1, .slice A2 n2 c2, .slice A3 n3 c3, .slice A4 n4 c4] 27)
  have hb5 := ha4.trans (hb4.mono ha4.size)
  have X1 := Lib.hid (X1.out.below hb5)
  have Y1 := Lib.hid (Y1.out.below hb5)
  have X2 := Lib.hid (X2.out.below hb5)
  have Y2 := Lib.hid (Y2.out.below hb5)
  have kk := cells2 hb5 ⟨k0, k1⟩
  have ll := cells2 hb5 ⟨l0, l1⟩
  have hB4 := hB3.trans (hb5.mono hB3.size)
  have CN := Lib.hid hcn
  have Q0 := Lib.hid q0
  have Q1 := Lib.hid q1
  clear hcm hcn hpj hpb q0 q1 e0 e1' hpl k0 k1 l0 l1 hb4 hb5 ha4
  obtain ⟨k0, k1⟩ := kk
  obtain ⟨l0, l1⟩ := ll
  have hadd := ratioAdd_r (some ⟨w4.heap.size, 0, none⟩) [(1, 2), (1, 3)] 2 2 1 _ rfl (rats2 X1.out Y1.out X2.out Y2.out) (by omega) (by omega)
  rw [add_ex] at hadd
  go_wp2_with fail
  refine hadd.mono ?_
  rintro e w5 ⟨F1, f1, r1, F2, f2, r2, rfl, hs5, ht5, hb5⟩
  have ha5 := b1 w4 (.cells #[.slice A1 n1 c1, .slice A2 n2 c2, .slice A3 n3 c3, .slice A4 n4 c4] 27)
  have hb6 := ha5.trans (hb5.mono ha5.size)
  have CN := Lib.hid (CN.out.below hb6)
  have Q0 := Lib.hid (Q0.out.below hb6)
  have Q1 := Lib.hid (Q1.out.below hb6)
  have pp := cells2 hb6 ⟨p0, p1⟩
  have hB5 := hB4.trans (hb6.mono hB4.size)
  have htx := ratioText_two w5 (hs5.nr (M := 1) (by omega)) (ht5.nr (M := 1) (by omega)) (by omega) (by omega) (htab.below hB5)
  rw [text56] at htx
  clear hadd hs5 ht5 hb5 hb6 ha5 p0 p1 k0 k1 l0 l1 X1 Y1 X2 Y2
  go_wp2_with fail
  refine htx.mono ?_
  rintro e w6 ⟨rfl, hb6⟩
  have CN := Lib.hid (CN.out.below hb6)
  have Q0 := Lib.hid (Q0.out.below hb6)
  have Q1 := Lib.hid (Q1.out.below hb6)
  have pp := cells2 hb6 pp
  have hB6 := hB5.trans (hb6.mono hB5.size)
  clear htx hb6
  have c6 : Cn [6] := Cn.snoc (xs := []) Dg.nil (by omega) (by omega)
  have c3' : Cn [3] := Cn.snoc (xs := []) Dg.nil (by omega) (by omega)
  have c2' : Cn [2] := Cn.snoc (xs := []) Dg.nil (by omega) (by omega)
  obtain ⟨Z0, z0, hv0, hz0, hr0⟩ := nv_list CN.out c6 (by simp [U]) (n := 1) rfl
  injection hv0 with y1 y2 y3
  subst y1 y2 y3
  have ha6 := b1 w6 (.cells #[.int .u32 6] 67)
  have hlit6 : Ra (w6.alloc (.cells #[.int .u32 6] 67)) (w6.heap.size + 1) (some ⟨w6.heap.size, 0, none⟩) [6] := Ra.lit w6 67 [6]
  have hsm6 := same_any D1 (some ⟨w6.heap.size, 0, none⟩) [6] [6] 1 e1 1 1 (w6.alloc (.cells #[.int .u32 6] 67)) rfl rfl ((hr0.below ha6 (Nat.le_refl _)).more ha6.size) (hlit6.more (by simp)) (by omega)
  rw [decide_eq_true rfl] at hsm6
  obtain ⟨p0, p1⟩ := pp
  clear hr0 hlit6
  go_wp2_with fail
  refine hsm6.mono ?_
  rintro e w7 ⟨rfl, hb7⟩
  have hb7' := ha6.trans (hb7.mono ha6.size)
  have Q0 := Lib.hid (Q0.out.below hb7')
  have Q1 := Lib.hid (Q1.out.below hb7')
  have pp := cells2 hb7' ⟨p0, p1⟩
  have hB7 := hB6.trans (hb7'.mono hB6.size)
  clear hsm6 hb7 hb7' ha6 p0 p1 CN
  obtain ⟨Z1, z1, hv1, hz1, hr1⟩ := nv_list Q0.out c3' (by simp [U]) (n := 1) rfl
  injection hv1 with y1 y2 y3
  subst y1 y2 y3
  have ha7 := b1 w7 (.cells #[.int .u32 3] 67)
  have hlit7 : Ra (w7.alloc (.cells #[.int .u32 3] 67)) (w7.heap.size + 1) (some ⟨w7.heap.size, 0, none⟩) [3] := Ra.lit w7 67 [3]
  have hsm7 := same_any E0 (some ⟨w7.heap.size, 0, none⟩) [3] [3] 1 d0 1 1 (w7.alloc (.cells #[.int .u32 3] 67)) rfl rfl ((hr1.below ha7 (Nat.le_refl _)).more ha7.size) (hlit7.more (by simp)) (by omega)
  rw [decide_eq_true rfl] at hsm7
  obtain ⟨p0, p1⟩ := pp
  clear hr1 hlit7
  go_wp2_with fail
  refine hsm7.mono ?_
  rintro e w8 ⟨rfl, hb8⟩
  have hb8' := ha7.trans (hb8.mono ha7.size)
  have Q1 := Lib.hid (Q1.out.below hb8')
  have pp := cells2 hb8' ⟨p0, p1⟩
  have hB8 := hB7.trans (hb8'.mono hB7.size)
  clear hsm7 hb8 hb8' ha7 p0 p1 Q0
  obtain ⟨Z2, z2, hv2, hz2, hr2⟩ := nv_list Q1.out c2' (by simp [U]) (n := 1) rfl
  injection hv2 with y1 y2 y3
  subst y1 y2 y3
  have ha8 := b1 w8 (.cells #[.int .u32 2] 67)
  have hlit8 : Ra (w8.alloc (.cells #[.int .u32 2] 67)) (w8.heap.size + 1) (some ⟨w8.heap.size, 0, none⟩) [2] := Ra.lit w8 67 [2]
  have hsm8 := same_any E1 (some ⟨w8.heap.size, 0, none⟩) [2] [2] 1 d1 1 1 (w8.alloc (.cells #[.int .u32 2] 67)) rfl rfl ((hr2.below ha8 (Nat.le_refl _)).more ha8.size) (hlit8.more (by simp)) (by omega)
  rw [decide_eq_true rfl] at hsm8
  obtain ⟨p0, p1⟩ := pp
  clear hr2 hlit8
  go_wp2_with fail
  refine hsm8.mono ?_
  rintro e w9 ⟨rfl, hb9⟩
  have hB9 := (hB8.trans (ha8.mono hB8.size)).trans (hb9.mono (Nat.le_trans hB8.size ha8.size))
  go_wp2_with fail
  go_ret
  exact ⟨rfl, hB9⟩
end Go.Proofs.YtemalomcdiahiaaDoor
