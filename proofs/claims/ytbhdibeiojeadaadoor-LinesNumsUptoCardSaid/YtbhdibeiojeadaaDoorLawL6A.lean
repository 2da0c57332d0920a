/-
  LinesNums: the law's walk.
-/
import Derived.Test.YtbhdibeiojeadaaDoorAlive6
namespace Go.Proofs.YtbhdibeiojeadaaDoor
open Go.RowKit
set_option maxRecDepth 100000

theorem numA_val {l : List UInt8} {e : Ending} (h : NumA l e) : e = .returned (.tuple #[.int .i64 ((numO l).getD 0), .bool (numO l).isSome]) := by
  rcases h with ⟨h1, rfl⟩ | ⟨z, h1, rfl⟩ <;> rw [h1] <;> rfl
theorem wideA_val {l : List UInt8} {e : Ending} (h : WideA l e) : e = .returned (.tuple #[.int .u64 (((wideO l).getD 0 : Nat) : Int), .bool (wideO l).isSome]) := by
  rcases h with ⟨h1, rfl⟩ | ⟨z, h1, rfl⟩ <;> rw [h1] <;> rfl
/-- The words of a line; none if it is no line. -/
def lineW (s : ByteArray) : List ByteArray := if wordsB (lineOf s) then lineOf s else []
theorem splitA_val {w w' : World} {s : ByteArray} {e : Ending} (h : SplitA w s.data.toList s.size e w') :
    ∃ A n c, e = .returned (.tuple #[.slice A n c, .bool (wordsB (lineOf s))]) ∧ n ≤ c ∧ (lineW s).length = n ∧ Rs w' A (lineW s) ∧ Below w.heap.size w w' := by
  obtain ⟨⟨hz, A, n, cp, rfl, ho⟩ | ⟨hz, rfl⟩, hb⟩ := h
  · have hq : wordsB (lineOf s) = true := hz
    refine ⟨A, n, cp, by rw [hq], own_len ho, ?_, ?_, hb⟩
    · have := ho.1
      rw [strs_length] at this
      unfold lineW
      rw [hq, if_pos rfl]
      unfold lineOf
      omega
    · unfold lineW
      rw [hq, if_pos rfl]
      exact Rv.of_own ho
  · have hq : wordsB (lineOf s) = false := hz
    refine ⟨none, 0, 0, by rw [hq], Nat.le_refl _, ?_, ?_, hb⟩
    · unfold lineW; rw [hq]; rfl
    · unfold lineW; rw [hq]; exact Rv.nil _ _ _

theorem lineW_len (s : ByteArray) (h : s.size ≤ 500) : (lineW s).length ≤ 501 := by
  have := cutTo_len 32 s.data.toList s.size
  unfold lineW
  split
  · unfold lineOf; omega
  · simp

set_option maxHeartbeats 4000000 in
theorem linesNums_off (s : ByteArray) (A1 : Option Addr) (n1 c1 : Nat) (w : World) (hv : LibV w) (hs : s.size ≤ 4611686018427387904) (hn : n1 ≤ 4611686018427387904) (h : 500 < s.size ∨ 50 < n1) :
    Calls Tryd.prog 3 #[.string s, .slice A1 n1 c1] w fun e w' => e = .returned (.bool true) ∧ Below w.heap.size w w' := by
  have ha := alive6_any w hv
  clear hv
  by_cases h1 : 500 < s.size
  · have h1i : (500 : Int) < (s.size : Int) := by omega
    clear h
    go_enter Tryd.func3, Tryd.ntmps3
    go_wp2_with fail
    refine ha.mono ?_
    rintro e w1 ⟨rfl, hb⟩
    go_wp2_with fail
    go_ret
    exact ⟨rfl, hb⟩
  · have h2 : 50 < n1 := by omega
    have h1i : ¬ (500 : Int) < (s.size : Int) := by omega
    have h2i : (50 : Int) < (n1 : Int) := by omega
    clear h
    go_enter Tryd.func3, Tryd.ntmps3
    go_wp2_with fail
    refine ha.mono ?_
    rintro e w1 ⟨rfl, hb⟩
    go_wp2_with fail
    go_ret
    exact ⟨rfl, hb⟩

set_option maxHeartbeats 4000000 in
theorem linesNums_on (s : ByteArray) (A1 : Option Addr) (ws : List ByteArray) (n1 c1 : Nat) (w : World) (hl1 : ws.length = n1) (hr1 : Rs w A1 ws) (hc1 : n1 ≤ c1) (hv : LibV w) (hs : s.size ≤ 500) (hn : n1 ≤ 50) (hsz : (lineT ws).size ≤ 140737488355328) :
    Calls Tryd.prog 3 #[.string s, .slice A1 n1 c1] w fun e w' => e = .returned (.bool true) ∧ Below w.heap.size w w' := by
  have h1i : ¬ (500 : Int) < (s.size : Int) := by omega
  have h2i : ¬ (50 : Int) < (n1 : Int) := by omega
  have c1n : ∀ W, LibV W → Calls Tryd.prog 6 #[.string s] W fun e w' => e = .returned (.tuple #[.int .i64 ((numO s.data.toList).getD 0), .bool (numO s.data.toList).isSome]) ∧ Below W.heap.size W w' := fun W hW => (pNum_any s W (by omega) hW).mono fun e w' h => ⟨numA_val h.1, h.2⟩
  have c2n : ∀ W, Calls Tryd.prog 7 #[.string s] W fun e w' => e = .returned (.tuple #[.int .i64 ((numO s.data.toList).getD 0), .bool (numO s.data.toList).isSome]) ∧ w' = W := fun W => (refNum_any s W (by omega)).mono fun e w' h => ⟨numA_val h.1, h.2⟩
  have c1w : ∀ W, LibV W → Calls Tryd.prog 8 #[.string s] W fun e w' => e = .returned (.tuple #[.int .u64 (((wideO s.data.toList).getD 0 : Nat) : Int), .bool (wideO s.data.toList).isSome]) ∧ Below W.heap.size W w' := fun W hW => (pWide_any s W (by omega) hW).mono fun e w' h => ⟨wideA_val h.1, h.2⟩
  have c2w : ∀ W, Calls Tryd.prog 9 #[.string s] W fun e w' => e = .returned (.tuple #[.int .u64 (((wideO s.data.toList).getD 0 : Nat) : Int), .bool (wideO s.data.toList).isSome]) ∧ w' = W := fun W => (refWide_any s W (by omega)).mono fun e w' h => ⟨wideA_val h.1, h.2⟩
  have c1s : ∀ W, Calls Tryd.prog 10 #[.string s] W fun e w' => ∃ A n c, e = .returned (.tuple #[.slice A n c, .bool (wordsB (lineOf s))]) ∧ n ≤ c ∧ (lineW s).length = n ∧ Rs w' A (lineW s) ∧ Below W.heap.size W w' := fun W => (pSplit_any s W (by omega)).mono fun e w' h => splitA_val h
  have c2s : ∀ W, Calls Tryd.prog 11 #[.string s] W fun e w' => ∃ A n c, e = .returned (.tuple #[.slice A n c, .bool (wordsB (lineOf s))]) ∧ n ≤ c ∧ (lineW s).length = n ∧ Rs w' A (lineW s) ∧ Below W.heap.size W w' := fun W => (refSplit_any s W (by omega)).mono fun e w' h => splitA_val h
  have c1d := fun W => pWord_any s W (by omega)
  have c2d := fun W => refWord_any s W (by omega)
  have hwl := lineW_len s hs
  obtain ⟨z, hz⟩ : ∃ z, (numO s.data.toList).getD 0 = z := ⟨_, rfl⟩
  obtain ⟨zb, hzb⟩ : ∃ z, (numO s.data.toList).isSome = z := ⟨_, rfl⟩
  obtain ⟨v, hv0⟩ : ∃ z, (wideO s.data.toList).getD 0 = z := ⟨_, rfl⟩
  obtain ⟨vb, hvb⟩ : ∃ z, (wideO s.data.toList).isSome = z := ⟨_, rfl⟩
  obtain ⟨sb, hsb⟩ : ∃ z, wordsB (lineOf s) = z := ⟨_, rfl⟩
  obtain ⟨db, hdb⟩ : ∃ z, wordB s.data.toList = z := ⟨_, rfl⟩
  obtain ⟨L, hL⟩ : ∃ z, lineW s = z := ⟨_, rfl⟩
  obtain ⟨t, ht⟩ : ∃ t, lineT ws = t := ⟨_, rfl⟩
  simp only [hz, hzb] at c1n c2n
  simp only [hv0, hvb] at c1w c2w
  simp only [hsb, hL] at c1s c2s
  simp only [hdb] at c1d c2d
  rw [hL] at hwl
  rw [ht] at hsz
  have HV := Lib.hid hv
  have HR1 := Lib.hid hr1
  have HL1 := Lib.hid hl1
  have HT := Lib.hid ht
  have C1N := Lib.hid c1n
  have C2N := Lib.hid c2n
  have C1W := Lib.hid c1w
  have C2W := Lib.hid c2w
  have C1S := Lib.hid c1s
  have C2S := Lib.hid c2s
  have C1D := Lib.hid c1d
  have C2D := Lib.hid c2d
  clear c1n c2n c1w c2w c1s c2s c1d c2d hz hzb hv0 hvb hsb hdb hL ht hv hr1 hl1
  go_enter Tryd.func3, Tryd.ntmps3
  go_wp2_with fail
  refine (C1N.out w HV.out).mono ?_
  rintro e w1 ⟨rfl, hb⟩
  have HB := Lib.hid hb
  clear hb
  go_wp2_with fail
  refine (C2N.out w1).mono ?_
  rintro e w1' ⟨rfl, rfl⟩
  go_wp2_with fail
  refine (C1W.out _ (HV.out.below HB.out)).mono ?_
  rintro e w2 ⟨rfl, hb⟩
  have HB := Lib.hid (HB.out.trans (hb.mono HB.out.size))
  clear hb
  go_wp2_with fail
  refine (C2W.out w2).mono ?_
  rintro e w2' ⟨rfl, rfl⟩
  go_wp2_with fail
  refine (C1S.out _).mono ?_
  rintro e w3 ⟨D1, m1, e1, rfl, hme1, hlm1, hrd1, hb⟩
  have HB := Lib.hid (HB.out.trans (hb.mono HB.out.size))
  have HD1 := Lib.hid hrd1
  have HM1 := Lib.hid hlm1
  have hm1 : m1 ≤ 501 := by omega
  clear hb hrd1 hlm1
  go_wp2_with fail
  refine (C2S.out _).mono ?_
  rintro e w4 ⟨D2, m2, e2, rfl, hme2, hlm2, hrd2, hb⟩
  have HB := Lib.hid (HB.out.trans (hb.mono HB.out.size))
  have HD1 := Lib.hid (HD1.out.below hb)
  have HD2 := Lib.hid hrd2
  have HM2 := Lib.hid hlm2
  have hm2 : m2 ≤ 501 := by omega
  clear hb hrd2 hlm2
  go_wp2_with fail
  refine (C1D.out _).mono ?_
  rintro e w4' ⟨rfl, rfl⟩
  go_wp2_with fail
  refine (C2D.out _).mono ?_
  rintro e w4' ⟨rfl, rfl⟩
  have hx := refTexts_any D1 D2 L L m1 e1 m2 e2 w4' HM1.out HM2.out HD1.out HD2.out (by omega) (by omega) hme1 hme2
  rw [decide_eq_true rfl] at hx
  have HX := Lib.hid hx
  clear hx
  go_wp2_with fail
  refine HX.out.mono ?_
  rintro e w5 ⟨rfl, hb⟩
  have HB := Lib.hid (HB.out.trans (hb.mono HB.out.size))
  clear hb HX HD1 HD2
  have hj1 := pJoin_any A1 ws n1 c1 w5 HL1.out (HR1.out.below HB.out) hc1 (by omega) (by rw [HT.out]; exact hsz)
  rw [HT.out] at hj1
  have HJ1 := Lib.hid hj1
  clear hj1
  go_wp2_with fail
  refine HJ1.out.mono ?_
  rintro e w6 ⟨rfl, hb⟩
  have HB := Lib.hid (HB.out.trans (hb.mono HB.out.size))
  clear hb HJ1
  have hq : joinTo (fun k => ws.getD k ⟨#[]⟩) n1 = t := by rw [← HT.out, ← HL1.out]; rfl
  have hj2 := refJoin_any A1 ws n1 c1 w6 HL1.out (HR1.out.below HB.out) (by omega) hc1 (by rw [hq]; omega)
  rw [hq] at hj2
  have HJ2 := Lib.hid hj2
  clear hj2 hq
  go_wp2_with fail
  refine HJ2.out.mono ?_
  rintro e w6' ⟨rfl, rfl⟩
  have ha := alive6_any w6' (HV.out.below HB.out)
  go_wp2_with fail
  refine ha.mono ?_
  rintro e w7 ⟨rfl, hb⟩
  go_wp2_with fail
  go_ret
  exact ⟨rfl, HB.out.trans (hb.mono HB.out.size)⟩
end Go.Proofs.YtbhdibeiojeadaaDoor
