/-
  Arrows: package dag's Order, Ring, Reach, Comes, Depth.
-/
import Derived.Test.YtojdgcalpdbifaaDagG
namespace Go.Proofs.Ytojdgcalpdbifaa
open Go.RowKit
set_option maxRecDepth 100000

set_option maxHeartbeats 2000000 in
theorem dorder13_any (n : Int) (N : Nat) (hN : nn13 n = N) (Ad : Option Addr) (l : List (Int × Int)) (m c : Nat) (os : List Nat) (w : World) (hl : l.length = m) (hr : Aq w w.heap.size Ad l) (hm : m ≤ 1000000) (hd : Done13 (cut13 N l) N os) :
    Calls Try.prog 9 #[.int .i64 n, .slice Ad m c] w (RetO13 w N os) := by
  have HP : Hid (RetO13 w N os = fun e w' => ∃ v, e = .returned (.tuple #[v, .bool (decide (os.length = N))]) ∧ (os.length = N → ∃ A c, v = .slice A os.length c ∧ w'.ownsRow w.heap.size 3 1 (.slice A os.length c) os.length (ints os)) ∧ (¬ os.length = N → v = .slice none 0 0) ∧ Below w.heap.size w w') := Lib.hid rfl
  have HLA := Lib.hid (laid13_any n N hN Ad l m c w hl hr hm)
  have HD := Lib.hid hd
  clear hl hr hd hN
  go_enter Try.func9, Try.ntmps9
  go_wp2_with fail
  refine HLA.out.mono ?_
  rintro e w1 ⟨E, I, rfl, hg, hE, hI, hb⟩
  have HO := Lib.hid (order13_any w1 hg HD.out)
  have HB := Lib.hid hb
  unfold gv13 at HO
  unfold gv13
  clear HLA hg hE hI hb
  go_wp2_with fail
  refine HO.out.mono ?_
  rintro e w2 ⟨v, rfl, h1, h2, hb2⟩
  have H1 := Lib.hid h1
  have H2 := Lib.hid h2
  have HB2 := Lib.hid (HB.out.trans (hb2.mono HB.out.size))
  clear HO h1 h2 hb2
  go_wp2_with fail
  rw [HP.out]
  go_ret2
  refine ⟨v, rfl, fun h => ?_, H2.out, HB2.out⟩
  obtain ⟨A, c, h3, h4⟩ := H1.out h
  exact ⟨A, c, h3, own7_base h4 HB.out.size⟩

set_option maxHeartbeats 2000000 in
theorem dring13_any (n : Int) (N : Nat) (hN : nn13 n = N) (Ad : Option Addr) (l : List (Int × Int)) (m c : Nat) (os : List Nat) (w : World) (hl : l.length = m) (hr : Aq w w.heap.size Ad l) (hm : m ≤ 1000000) (hd : Done13 (cut13 N l) N os) :
    Calls Try.prog 15 #[.int .i64 n, .slice Ad m c] w fun e w' => e = .returned (.bool (!decide (os.length = N))) ∧ Below w.heap.size w w' := by
  have HLA := Lib.hid (laid13_any n N hN Ad l m c w hl hr hm)
  have HD := Lib.hid hd
  clear hl hr hd hN
  go_enter Try.func15, Try.ntmps15
  go_wp2_with fail
  refine HLA.out.mono ?_
  rintro e w1 ⟨E, I, rfl, hg, hE, hI, hb⟩
  have HO := Lib.hid (order13_any w1 hg HD.out)
  have HB := Lib.hid hb
  unfold gv13 at HO
  unfold gv13
  clear HLA hg hE hI hb
  go_wp2_with fail
  refine HO.out.mono ?_
  rintro e w2 ⟨v, rfl, _, _, hb2⟩
  have HB2 := Lib.hid (HB.out.trans (hb2.mono HB.out.size))
  obtain ⟨b, hbb⟩ : ∃ b, decide (os.length = N) = b := ⟨_, rfl⟩
  rw [hbb]
  have HBB := Lib.hid hbb
  clear HO hb2 hbb
  go_wp2_with fail
  go_ret
  exact ⟨by rw [HBB.out]; rfl, HB2.out⟩

/-- What a comes to. -/
noncomputable def rch13 (N : Nat) (l : List (Int × Int)) (a : Int) : List Nat := if 0 ≤ a ∧ a < (N : Int) then all11 (wayb (cut13 N l) a.toNat) N else []

set_option maxHeartbeats 4000000 in
theorem dreach13_any (n : Int) (N : Nat) (hN : nn13 n = N) (Ad : Option Addr) (l : List (Int × Int)) (m c : Nat) (a : Int) (w : World) (hl : l.length = m) (hr : Aq w w.heap.size Ad l) (hm : m ≤ 1000000) :
    Calls Try.prog 12 #[.int .i64 n, .slice Ad m c, .int .i64 a] w (RetI w (rch13 N l a)) := by
  have HLA := Lib.hid (laid13_any n N hN Ad l m c w hl hr hm)
  have hN4 := nn13_le n
  rw [hN] at hN4
  clear hl hr hN
  by_cases hin : 0 ≤ a ∧ a < (N : Int)
  · have hrc : rch13 N l a = all11 (wayb (cut13 N l) a.toNat) N := if_pos hin
    obtain ⟨b, rfl⟩ : ∃ b : Nat, a = (b : Int) := ⟨a.toNat, by omega⟩
    rw [Int.toNat_natCast] at hrc
    rw [hrc]
    have hbN : b < N := by omega
    have HP : Hid (RetI w (all11 (wayb (cut13 N l) b) N) = fun e w' => ∃ A c, e = .returned (.slice A (all11 (wayb (cut13 N l) b) N).length c) ∧ w'.ownsRow w.heap.size 3 1 (.slice A (all11 (wayb (cut13 N l) b) N).length c) (all11 (wayb (cut13 N l) b) N).length (ints (all11 (wayb (cut13 N l) b) N)) ∧ Below w.heap.size w w') := Lib.hid rfl
    obtain ⟨T, hT⟩ : ∃ T, wayb (cut13 N l) b = T := ⟨_, rfl⟩
    rw [hT] at HP ⊢
    have HT := Lib.hid hT
    have hdec : decide (0 ≤ (b : Int) ∧ (b : Int) < (N : Int)) = true := decide_eq_true hin
    clear hrc hin hT
    go_enter Try.func12, Try.ntmps12
    go_wp2_with fail
    refine HLA.out.mono ?_
    rintro e w1 ⟨E, I, rfl, hg, hE, hI, hb⟩
    have hb1 := b1' w1 (.cells #[.slice (some ⟨E, 0, none⟩) N N, .slice (some ⟨I, 0, none⟩) N N] 43)
    have hbx := Blk.new w1 43 #[.slice (some ⟨E, 0, none⟩) N N, .slice (some ⟨I, 0, none⟩) N N]
    have c0 := hbx.cell 0
    have c1 := hbx.cell 1
    have HH := Lib.hid (has13_any E I N (b : Int) (w1.alloc (.cells #[.slice (some ⟨E, 0, none⟩) N N, .slice (some ⟨I, 0, none⟩) N N] 43)) _ rfl)
    rw [hdec] at HH
    have HG2 := Lib.hid (hg.up hb1)
    have HB2 := Lib.hid (hb.trans (hb1.mono hb.size))
    have HBX := Lib.hid hbx
    unfold gv13 at HH
    unfold gv13
    clear HLA hg hE hI hb hb1 hbx hdec
    go_wp2_with fail
    refine HH.out.mono ?_
    rintro e w3 ⟨rfl, hb3⟩
    have hbx3 := HBX.out.below hb3 HBX.out.lt
    have c0 := hbx3.cell 0
    have c1 := hbx3.cell 1
    have HRE := Lib.hid (reached13_any w3 (HG2.out.up hb3) hbN)
    have HB3 := Lib.hid (HB2.out.trans (hb3.mono HB2.out.size))
    unfold gv13 at HRE
    clear HH HG2 HBX hb3 hbx3
    go_wp2_with fail
    refine HRE.out.mono ?_
    rintro e w4 ⟨g, rfl, hrv, hb4⟩
    rw [HT.out] at hrv
    have HRV := Lib.hid hrv
    have HB4 := Lib.hid (HB3.out.trans (hb4.mono HB3.out.size))
    clear HRE hrv hb4 c0 c1
    go_wp2_with fail
    go_loopw [6, 21] (fun ov iv wr => ∃ (i k c2 : Nat) (A2 : Option Addr), iv = .int .i64 (i : Int) ∧ i ≤ N ∧ ov = .slice A2 k c2 ∧ k ≤ 4096 ∧ Hid ((all11 T i).length = k) ∧ Hid (wr.ownsRow w4.heap.size 3 1 (.slice A2 k c2) k (ints (all11 T i))) ∧ Hid (Below w4.heap.size w4 wr)) (fun _ iv _ => N - (intOf iv).toNat)
    case atStart => exact ⟨0, 0, 0, none, rfl, by omega, rfl, by omega, Lib.hid rfl, Lib.hid (World.ownsRow_nil _ _ _ _), Lib.hid (Below.refl _ _)⟩
    case round =>
      obtain ⟨i, k, c2, A2, rfl, hi, rfl, hk, HL, HO, HB⟩ := hrel
      by_cases hin : i < N
      · obtain ⟨a, o, hA, _, ca⟩ := bls_at (HRV.out.below HB.out (Nat.le_refl _)) hin
        injection hA with hA
        injection hA with hA1 hA2
        subst hA1 hA2
        rw [Nat.zero_add] at ca
        have i0 : (0 : Int) ≤ (i : Int) := by omega
        have i1 : (i : Int) < (N : Int) := by omega
        have hnx := all11_next T i
        have hlen := all11_len T (i + 1)
        cases ht : T i with
        | false =>
          rw [ht] at ca hnx
          have HN : Hid (all11 T (i + 1) = all11 T i) := Lib.hid (by rw [hnx]; simp)
          clear hnx hlen ht
          go_wp2_with fail
          go_roundw
          case rel => exact ⟨i + 1, k, c2, A2, by go_num, by omega, rfl, hk, by rw [HN.out]; exact HL, by rw [HN.out]; exact HO, HB⟩
          case measure => simp [intOf]; omega
        | true =>
          rw [ht] at ca hnx
          have HN : Hid (all11 T (i + 1) = all11 T i ++ [i]) := Lib.hid (by rw [hnx]; simp)
          have hk2 : k + 1 ≤ 4096 := by
            rw [HN.out, List.length_append, HL.out] at hlen
            simp at hlen
            omega
          have HBS := HB.out.size
          clear hnx hlen ht
          go_wp2_with (at_builtin; go_loud (refine wpList_append_rv _ rfl (.tmp 27) (.tmp 29) 29 rfl w4.heap.size 3 (.int .i64 0) 8 Try.underlying29 info_int11 rfl (by omega) (.slice A2 k c2) k (ints (all11 T i)) rfl (own7_keep HO.out (b1' _ _)) (wr.heap.size + 1) (some ⟨wr.heap.size, 0, none⟩) 1 (ints [i]) _ rfl rfl (Rd.rv11 (Rd.one wr i 3)) (ints_one [i]) (by omega) (by simp; omega) ?_); intro A' c' w5 hc5 hown5 hg5 hbl5)
          have HB5 : Hid (Below w4.heap.size w4 w5) := Lib.hid ((HB.out.trans ((b1' wr _).mono HBS)).grown hg5 (by simp; omega) (fun r hr => (World.ownsRow.lt (own7_keep HO.out (b1' wr (.cells #[.int .i64 (i : Int)] 3))) r hr).1))
          have HO5 : Hid (w5.ownsRow w4.heap.size 3 1 (.slice A' (k + 1) c') (k + 1) (ints (all11 T (i + 1)))) := Lib.hid (by rw [HN.out, ints_append]; exact hown5.out)
          have HL5 : Hid ((all11 T (i + 1)).length = k + 1) := Lib.hid (by rw [HN.out, List.length_append, HL.out]; rfl)
          clear hown5 hg5 hbl5
          go_wp2_with fail
          go_roundw
          case rel => exact ⟨i + 1, k + 1, c', A', by go_num, by omega, rfl, hk2, HL5, HO5, HB5⟩
          case measure => simp [intOf]; omega
      · obtain rfl : i = N := by omega
        have i1 : ¬ (i : Int) < (i : Int) := by omega
        go_wp2_with fail
        go_ret
        rw [HP.out]
        exact ⟨A2, c2, by rw [HL.out]; rfl, by rw [HL.out]; exact own7_base HO.out HB4.out.size, HB4.out.trans (HB.out.mono HB4.out.size)⟩
  · have hrc : rch13 N l a = [] := if_neg hin
    rw [hrc]
    have HP : Hid (RetI w [] = fun e w' => ∃ A c, e = .returned (.slice A 0 c) ∧ w'.ownsRow w.heap.size 3 1 (.slice A 0 c) 0 (ints []) ∧ Below w.heap.size w w') := Lib.hid rfl
    have hdec : decide (0 ≤ a ∧ a < (N : Int)) = false := decide_eq_false hin
    clear hrc hin
    go_enter Try.func12, Try.ntmps12
    go_wp2_with fail
    refine HLA.out.mono ?_
    rintro e w1 ⟨E, I, rfl, hg, hE, hI, hb⟩
    have hb1 := b1' w1 (.cells #[.slice (some ⟨E, 0, none⟩) N N, .slice (some ⟨I, 0, none⟩) N N] 43)
    have hbx := Blk.new w1 43 #[.slice (some ⟨E, 0, none⟩) N N, .slice (some ⟨I, 0, none⟩) N N]
    have c0 := hbx.cell 0
    have c1 := hbx.cell 1
    have HH := Lib.hid (has13_any E I N a (w1.alloc (.cells #[.slice (some ⟨E, 0, none⟩) N N, .slice (some ⟨I, 0, none⟩) N N] 43)) _ rfl)
    rw [hdec] at HH
    have HB2 := Lib.hid (hb.trans (hb1.mono hb.size))
    unfold gv13 at HH
    unfold gv13
    clear HLA hg hE hI hb hb1 hbx hdec
    go_wp2_with fail
    refine HH.out.mono ?_
    rintro e w3 ⟨rfl, hb3⟩
    have HB3 := Lib.hid (HB2.out.trans (hb3.mono HB2.out.size))
    clear HH hb3 c0 c1
    go_wp2_with fail
    go_ret
    rw [HP.out]
    exact ⟨none, 0, rfl, World.ownsRow_nil _ _ _ _, HB3.out⟩
end Go.Proofs.Ytojdgcalpdbifaa
