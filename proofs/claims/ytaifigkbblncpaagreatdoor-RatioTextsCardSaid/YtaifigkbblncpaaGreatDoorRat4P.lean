/-
  The document's fractions: the fraction of a text.
-/
import Derived.Test.YtaifigkbblncpaaGreatDoorRat4T
namespace Go.Proofs.YtaifigkbblncpaaGreatDoor
open Go.RowKit
set_option maxRecDepth 100000

/-- What the document's Parse answers: the fraction of the text, or that there is none. -/
def Rat4Parsed (w : World) (l : List UInt8) (e : Ending) (w' : World) : Prop :=
  (∃ q A1 n1 c1 A2 n2 c2, fp l = some q ∧ e = .returned (.tuple #[.agg #[.slice A1 n1 c1, .slice A2 n2 c2], .int .i64 0]) ∧ QNum w' A1 n1 c1 A2 n2 c2 q ∧ Below w.heap.size w w') ∨
  (fp l = none ∧ e = .returned (.tuple #[.agg #[.slice none 0 0, .slice none 0 0], .int .i64 3]) ∧ Below w.heap.size w w')

theorem ref3_some (t : ByteArray) (w : World) : Calls Tryz.prog 23 #[.string t] w fun e w' => ∃ (A : Option Addr) (n c : Nat) (er : Int) (a : Nat), e = .returned (.tuple #[.agg #[.slice A n c], .int .i64 er]) ∧ (∃ L, Num w' L (.agg #[.slice A n c]) a) ∧ Below w.heap.size w w' :=
  (refParse_all t w).mono fun e w' ⟨s, h1, ⟨L, h2⟩, h3⟩ => by
    obtain ⟨A, n, c, hs⟩ := h2.shape
    obtain rfl : s = .slice A n c := by simpa using hs
    exact ⟨A, n, c, _, _, h1, ⟨L, h2⟩, h3⟩
theorem ref3_no {a : List UInt8} (t : ByteArray) (w : World) (ht : t.data.toList = a) (hl : a.length ≤ 4096) (hd : isDecB a = false) :
    Calls Tryz.prog 23 #[.string t] w fun e w' => ∃ (A : Option Addr) (n c : Nat), e = .returned (.tuple #[.agg #[.slice A n c], .int .i64 3]) ∧ (∃ L, Num w' L (.agg #[.slice A n c]) 0) ∧ Below w.heap.size w w' :=
  (refParse_all t w).mono fun e w' ⟨s, h1, ⟨L, h2⟩, h3⟩ => by
    have hsz : ¬ 4096 < t.size := by rw [← ba_len, ht]; omega
    have e1 : pe t = 3 := by unfold pe; rw [if_neg hsz, ht, hd]; rfl
    have e2 : pn t = 0 := by unfold pn; rw [if_neg hsz, ht, hd]; rfl
    rw [e1] at h1
    rw [e2] at h2
    obtain ⟨A, n, c, hs⟩ := h2.shape
    obtain rfl : s = .slice A n c := by simpa using hs
    exact ⟨A, n, c, h1, ⟨L, h2⟩, h3⟩
theorem ref3_yes {a : List UInt8} (t : ByteArray) (w : World) (ht : t.data.toList = a) (hl : a.length ≤ 4096) (hd : isDecB a = true) :
    Calls Tryz.prog 23 #[.string t] w fun e w' => ∃ (A : Option Addr) (n c : Nat), e = .returned (.tuple #[.agg #[.slice A n c], .int .i64 0]) ∧ (∃ L, Num w' L (.agg #[.slice A n c]) (DV 0 a)) ∧ Below w.heap.size w w' :=
  (refParse_all t w).mono fun e w' ⟨s, h1, ⟨L, h2⟩, h3⟩ => by
    have hsz : ¬ 4096 < t.size := by rw [← ba_len, ht]; omega
    have e1 : pe t = 0 := by unfold pe; rw [if_neg hsz, ht, hd]; rfl
    have e2 : pn t = DV 0 a := by unfold pn; rw [if_neg hsz, ht, hd]; rfl
    rw [e1] at h1
    rw [e2] at h2
    obtain ⟨A, n, c, hs⟩ := h2.shape
    obtain rfl : s = .slice A n c := by simpa using hs
    exact ⟨A, n, c, h1, ⟨L, h2⟩, h3⟩
theorem len_zero {w : World} {L m n c : Nat} {A : Option Addr} (h : Num w L (.agg #[.slice A n c]) m) : ((n : Int) == 0) = decide (m = 0) := by
  rcases num_len h with ⟨h1, h2⟩ | ⟨h1, h2⟩
  · rw [h1, h2]; rfl
  · rw [decide_eq_false (by omega)]; simp; omega
theorem dec_small16 {a : List UInt8} (h : isDecB a = true) {j : Nat} (hl : a.length ≤ j) : DV 0 a < 65536 ^ j := by
  have h2 := DV_lt _ (isDec_all h)
  have h3 : (10 : Nat) ^ a.length ≤ 10 ^ j := Nat.pow_le_pow_right (by omega) hl
  have h4 : (10 : Nat) ^ j ≤ 65536 ^ j := Nat.pow_le_pow_left (by omega) _
  omega

set_option maxHeartbeats 2000000 in
theorem rat4Parse_many (s : ByteArray) (h : 4096 < s.size) (w : World) :
    Calls Tryz.prog 7 #[.string s] w fun e w' => e = .returned (.tuple #[.agg #[.slice none 0 0, .slice none 0 0], .int .i64 5]) ∧ Below w.heap.size w w' := by
  have hb := b1 w (.cells #[.slice none 0 0, .slice none 0 0] 35)
  obtain ⟨W0, hW0⟩ : ∃ W0, w.alloc (.cells #[.slice none 0 0, .slice none 0 0] 35) = W0 := ⟨_, rfl⟩
  have hbk := qbox w
  rw [hW0] at hb hbk
  have k0 := hbk.cell 0
  have k1 := hbk.cell 1
  have f0 := hbk.frozen 0
  have f1 := hbk.frozen 1
  have hp := put_Q hbk (.slice none 0 0) (.slice none 0 0)
  go_enter Tryz.func7, Tryz.ntmps7
  go_wp2_with fail
  first
    | exact bodyPost_ret (v := .tuple #[.agg #[.slice none 0 0, .slice none 0 0], .int .i64 5]) (by simp [results, Tryz.results7, go_sem, hp.cell 0, hp.cell 1]) rfl ⟨rfl, (hb.setCell (Nat.le_refl _) _).setCell (Nat.le_refl _) _⟩
    | exact bodyPost_ret (v := .tuple #[.agg #[.slice none 0 0, .slice none 0 0], .int .i64 5]) (by simp [results, Tryz.results7, go_sem, k0, k1]) rfl ⟨rfl, hb⟩

theorem slash_step {l : List UInt8} {p : Nat} (hp : p < l.length) : p + slashAt (l.drop p) = if l.getD p 0 = 47 then p else p + 1 + slashAt (l.drop (p + 1)) := by
  rw [List.drop_eq_getElem_cons hp]
  have : l.getD p 0 = l[p] := by rw [List.getD_eq_getElem?_getD, List.getElem?_eq_getElem hp, Option.getD_some]
  rw [this]
  simp only [slashAt]
  split <;> omega

set_option maxHeartbeats 16000000 in
theorem rat4Parse_r (s : ByteArray) (w : World) (hs : s.size ≤ 200) :
    Calls Tryz.prog 7 #[.string s] w (Rat4Parsed w s.data.toList) := by
  have hb := b1 w (.cells #[.slice none 0 0, .slice none 0 0] 35)
  obtain ⟨W0, hW0⟩ : ∃ W0, w.alloc (.cells #[.slice none 0 0, .slice none 0 0] 35) = W0 := ⟨_, rfl⟩
  have hbk := qbox w
  rw [hW0] at hb hbk
  have hlen := ba_len s
  have hget : ∀ (p : Nat) (hp : p < s.size), (s[p]'hp) = s.data.toList.getD p 0 := fun p hp => by
    rw [List.getD_eq_getElem?_getD, List.getElem?_eq_getElem (by rw [hlen]; exact hp), Option.getD_some]
    rfl
  have hex1 := fun k => ext_list s 0 k
  have hex2 := fun k => ext_list s k s.size
  obtain ⟨l, hl⟩ : ∃ l, s.data.toList = l := ⟨_, rfl⟩
  rw [hl] at hlen
  simp only [hl] at hget hex1 hex2
  simp only [hl]
  obtain ⟨f, hf⟩ : ∃ f : Nat → Nat, (fun k => k + slashAt (l.drop k)) = f := ⟨_, rfl⟩
  have hfn : f s.size = s.size := by rw [← hf]; show s.size + slashAt (l.drop s.size) = _; rw [List.drop_of_length_le (by omega)]; rfl
  have hf0 : f 0 = slashAt l := by rw [← hf]; show 0 + slashAt (l.drop 0) = _; simp
  have hfs : ∀ p, p < s.size → f p = if l.getD p 0 = 47 then p else f (p + 1) := fun p hp => by rw [← hf]; exact slash_step (by omega)
  have hKn : slashAt l ≤ s.size := by have := slashAt_le l; omega
  obtain ⟨K, hK⟩ : ∃ K, slashAt l = K := ⟨_, rfl⟩
  have hta : (s.extract 0 K).data.toList = l.take (slashAt l) := by rw [hex1, hK]; simp
  have htb : (s.extract (K + 1) s.size).data.toList = l.drop (slashAt l + 1) := by rw [hex2, hK, List.take_of_length_le (by rw [List.length_drop]; omega)]
  have hla : (l.take (slashAt l)).length ≤ 200 := by rw [List.length_take]; omega
  have hlb : (l.drop (slashAt l + 1)).length ≤ 200 := by rw [List.length_drop]; omega
  have hfp : fp l = fp l := rfl
  conv at hfp => rhs; unfold fp
  have hyes := @fp_yes l
  have hone := @fp_one l
  obtain ⟨a, ha⟩ : ∃ a, l.take (slashAt l) = a := ⟨_, rfl⟩
  obtain ⟨b, hbq⟩ : ∃ b, l.drop (slashAt l + 1) = b := ⟨_, rfl⟩
  rw [ha] at hla hta
  rw [hbq] at hlb htb
  rw [hK] at hf0 hKn
  simp only [ha, hbq] at hfp hyes hone
  simp only [hK, hlen] at hfp hyes hone
  have hsl : s = ⟨l.toArray⟩ := ba_eq hl
  have HSL := Lib.hid hsl
  have HGET := Lib.hid hget
  have HTA := Lib.hid hta
  have HTB := Lib.hid htb
  have HLA := Lib.hid hla
  have HLB := Lib.hid hlb
  have HFP := Lib.hid hfp
  have HYES := Lib.hid hyes
  have HONE := Lib.hid hone
  have HFN := Lib.hid hfn
  have HF0 := Lib.hid hf0
  have HFS := Lib.hid hfs
  have HQ := Lib.hid hbk
  have HB := Lib.hid hb
  clear hl hlen hget hex1 hex2 hf hfn hf0 hfs hK hta htb hla hlb hfp hyes hone ha hbq hbk hb hsl
  go_enter Tryz.func7, Tryz.ntmps7
  go_wp2_with fail
  clear hW0
  go_loopw [4, 5] (fun x i wr => ∃ (k : Nat) (j : Int), x = .int .i64 (f k : Int) ∧ i = .int .i64 j ∧ j + 1 = (k : Int) ∧ k ≤ s.size ∧ wr = W0) (fun _ i _ => (intOf i + 1).toNat)
  case atStart => exact ⟨s.size, _, by rw [HFN.out], rfl, by omega, by omega, rfl⟩
  case round =>
    obtain ⟨k, j, rfl, rfl, hj, hk, rfl⟩ := hrel
    by_cases ht : 0 < k
    · obtain ⟨p, rfl⟩ : ∃ m, k = m + 1 := ⟨k - 1, by omega⟩
      obtain rfl : j = (p : Int) := by omega
      have hps : p < s.size := by omega
      have hst := HFS.out p hps
      have hg := HGET.out p hps
      by_cases h47 : l.getD p 0 = 47
      · rw [if_pos h47] at hst
        have HST := Lib.hid hst
        have e1 : ((s[p]'hps).toNat : Int) = 47 := by rw [hg, h47]; rfl
        clear hst hg h47
        go_wp2_with fail
        go_roundw
        case rel => exact ⟨p, _, by rw [HST.out], rfl, by omega, by omega, by first | rfl | trivial⟩
        case measure => simp [intOf] <;> omega
      · rw [if_neg h47] at hst
        have HST := Lib.hid hst
        have e0 : (s[p]'hps).toNat ≠ 47 := by
          rw [hg]
          intro h
          exact h47 (UInt8.toNat_inj.1 h)
        have e1 : ¬ ((s[p]'hps).toNat : Int) = 47 := by omega
        have e2 : (((s[p]'hps).toNat : Int) == 47) = false := beq_eq_false_iff_ne.2 e1
        clear hst hg h47 e0
        go_wp2_with fail
        go_roundw
        case rel => exact ⟨p, _, by rw [HST.out], rfl, by omega, by omega, by first | rfl | trivial⟩
        case measure => simp [intOf] <;> omega
    · obtain rfl : k = 0 := by omega
      obtain rfl : j = -1 := by omega
      have h0 := HF0.out
      rw [h0]
      clear h0 ht hj hk HFN HF0 HFS HGET
      have hK0 : (0 : Int) ≤ (K : Int) := by omega
      have hK1 : (K : Int) ≤ (s.size : Int) := by omega
      by_cases hlt : K < s.size
      · have hK2 : (0 : Int) ≤ (K : Int) + 1 := by omega
        have hK3 : (K : Int) + 1 ≤ (s.size : Int) := by omega
        cases hda : isDecB a with
        | false =>
          have HD := Lib.hid hda
          have HNO : Hid (fp l = none) := Lib.hid (by have := HFP.out; rw [if_pos hlt, hda] at this; simpa using this)
          clear hda
          go_wp2_with fail
          refine (ref3_no _ wr HTA.out (by have := HLA.out; omega) HD.out).mono ?_
          rintro e w2 ⟨E1, k1, m1, rfl, ⟨Ln, hn⟩, hb⟩
          have HN := Lib.hid hn
          clear hn
          have HB := Lib.hid (HB.out.trans (hb.mono HB.out.size))
          have hlq := HQ.out.lt
          have HQ := Lib.hid (HQ.out.below hb hlq)
          clear hb hlq
          go_upto_region 10 with (fail)
          have hk := Blk.new w2 33 #[.slice E1 k1 m1]
          have hb := b1 w2 (.cells #[.slice E1 k1 m1] 33)
          have HB := Lib.hid (HB.out.trans (hb.mono HB.out.size))
          have hlq := HQ.out.lt
          have HQ := Lib.hid (HQ.out.below hb hlq)
          have HN := Lib.hid (HN.out.below hb)
          clear hb hlq
          obtain ⟨g6, hg⟩ : ∃ g, w2.heap.size = g := ⟨_, rfl⟩
          obtain ⟨w3, hw⟩ : ∃ W, w2.alloc (.cells #[.slice E1 k1 m1] 33) = W := ⟨_, rfl⟩
          rw [hw, hg] at hk
          rw [hw] at HB HQ HN
          rw [hw, hg]
          have HKn := Lib.hid hk
          clear hk hg hw
          go_wp2_with fail
          refine (of_one w3).mono ?_
          rintro e w4 ⟨v, rfl, hv, hb⟩
          obtain ⟨D1, z1, y1, rfl⟩ := hv.shape
          have HM := Lib.hid hv
          clear hv
          have HB := Lib.hid (HB.out.trans (hb.mono HB.out.size))
          have hlq := HQ.out.lt
          have HQ := Lib.hid (HQ.out.below hb hlq)
          have hlHKn := HKn.out.lt
          have HN := Lib.hid (HN.out.below hb)
          have HKn := Lib.hid (HKn.out.below hb hlHKn)
          clear hb hlq hlHKn
          go_upto_region 11 with (fail)
          have hgq := HQ.out.lt
          have hgg := HKn.out.lt
          have hk := Blk.new w4 33 #[.slice D1 z1 y1]
          have hb := b1 w4 (.cells #[.slice D1 z1 y1] 33)
          have HB := Lib.hid (HB.out.trans (hb.mono HB.out.size))
          have hlq := HQ.out.lt
          have HQ := Lib.hid (HQ.out.below hb hlq)
          have hlHKn := HKn.out.lt
          have HN := Lib.hid (HN.out.below hb)
          have HKn := Lib.hid (HKn.out.below hb hlHKn)
          have HM := Lib.hid (HM.out.below hb)
          clear hb hlq hlHKn
          obtain ⟨g8, hg⟩ : ∃ g, w4.heap.size = g := ⟨_, rfl⟩
          obtain ⟨w5, hw⟩ : ∃ W, w4.alloc (.cells #[.slice D1 z1 y1] 33) = W := ⟨_, rfl⟩
          rw [hw, hg] at hk
          rw [hw] at HB HQ HN HKn HM
          rw [hw, hg]
          have HKd := Lib.hid hk
          rw [hg] at hgq hgg
          have HGQ := Lib.hid hgq
          have HGG := Lib.hid hgg
          have HG8 := Lib.hid (Nat.le_of_lt hgq)
          clear hgq hgg
          clear hk hg hw
          have d0 := HKd.out.cell 0
          have fd := HKd.out.frozen 0
          simp only [List.getElem?_toArray, List.getElem?_cons_zero] at d0
          go_wp2_with fail
          refine (ref3_some (s.extract (K + 1) s.size) w5).mono ?_
          rintro e w6 ⟨D2, z2, y2, er, db, rfl, ⟨Ld, hd⟩, hb⟩
          have HM := Lib.hid hd
          clear hd d0 fd
          have HB := Lib.hid (HB.out.trans (hb.mono HB.out.size))
          have hlq := HQ.out.lt
          have HQ := Lib.hid (HQ.out.below hb hlq)
          have hlHKn := HKn.out.lt
          have hlHKd := HKd.out.lt
          have HN := Lib.hid (HN.out.below hb)
          have HKn := Lib.hid (HKn.out.below hb hlHKn)
          have HKd := Lib.hid (HKd.out.below hb hlHKd)
          clear hb hlq hlHKn hlHKd
          have d0 := HKd.out.cell 0
          have fd := HKd.out.frozen 0
          simp only [List.getElem?_toArray, List.getElem?_cons_zero] at d0
          have hgn : g6 < g8 := by first | exact HGG.out | omega
          go_upto_region 14 with (fail)
          have hdq := HQ.out.lt
          have HB := Lib.hid (HB.out.setCell (p := ⟨g8, 0, none⟩) HG8.out (.slice D2 z2 y2))
          have HN := Lib.hid (HN.out.setSi (u := .slice D2 z2 y2) d0)
          have HM := Lib.hid (HM.out.setSi (u := .slice D2 z2 y2) d0)
          have HKd := Lib.hid (HKd.out.set_ 0 (.slice D2 z2 y2))
          have HKn := Lib.hid (HKn.out.far (p := ⟨g8, 0, none⟩) (by show g6 ≠ g8; omega) (.slice D2 z2 y2))
          have HQ := Lib.hid (HQ.out.far (p := ⟨g8, 0, none⟩) (by show w.heap.size ≠ g8; have := HGQ.out; omega) (.slice D2 z2 y2))
          obtain ⟨w7, hw⟩ : ∃ W, w6.setCell ⟨g8, 0, none⟩ (.slice D2 z2 y2) = W := ⟨_, rfl⟩
          rw [hw] at HB HQ HN HM HKn HKd
          rw [hw]
          clear hw hdq d0 fd hgn
          have c0 := HQ.out.cell 0
          have c1 := HQ.out.cell 1
          have f0 := HQ.out.frozen 0
          have f1 := HQ.out.frozen 1
          simp only [List.getElem?_toArray, List.getElem?_cons_zero, List.getElem?_cons_succ] at c0 c1
          have n0 := HKn.out.cell 0
          have d0 := HKd.out.cell 0
          simp only [List.getElem?_toArray, List.getElem?_cons_zero] at n0 d0
          go_wp2_with fail
          have hp := put_Q HQ.out (.slice none 0 0) (.slice none 0 0)
          have k0 := HQ.out.cell 0
          have k1 := HQ.out.cell 1
          first
            | exact bodyPost_ret (v := .tuple #[.agg #[.slice none 0 0, .slice none 0 0], .int .i64 3]) (by simp [results, Tryz.results7, go_sem, hp.cell 0, hp.cell 1]) rfl (Or.inr ⟨HNO.out, rfl, (HB.out.setCell (Nat.le_refl _) _).setCell (Nat.le_refl _) _⟩)
            | exact bodyPost_ret (v := .tuple #[.agg #[.slice none 0 0, .slice none 0 0], .int .i64 3]) (by simp [results, Tryz.results7, go_sem, k0, k1]) rfl (Or.inr ⟨HNO.out, rfl, HB.out⟩)
        | true =>
          have HD := Lib.hid hda
          cases hdb : isDecB b with
          | false =>
            have HE := Lib.hid hdb
            have HNO : Hid (fp l = none) := Lib.hid (by have := HFP.out; rw [if_pos hlt, hda, hdb] at this; simpa using this)
            clear hda hdb
            go_wp2_with fail
            refine (ref3_yes _ wr HTA.out (by have := HLA.out; omega) HD.out).mono ?_
            rintro e w2 ⟨E1, k1, m1, rfl, ⟨Ln, hn⟩, hb⟩
            have HN := Lib.hid hn
            clear hn
            have HB := Lib.hid (HB.out.trans (hb.mono HB.out.size))
            have hlq := HQ.out.lt
            have HQ := Lib.hid (HQ.out.below hb hlq)
            clear hb hlq
            go_upto_region 10 with (fail)
            have hk := Blk.new w2 33 #[.slice E1 k1 m1]
            have hb := b1 w2 (.cells #[.slice E1 k1 m1] 33)
            have HB := Lib.hid (HB.out.trans (hb.mono HB.out.size))
            have hlq := HQ.out.lt
            have HQ := Lib.hid (HQ.out.below hb hlq)
            have HN := Lib.hid (HN.out.below hb)
            clear hb hlq
            obtain ⟨g6, hg⟩ : ∃ g, w2.heap.size = g := ⟨_, rfl⟩
            obtain ⟨w3, hw⟩ : ∃ W, w2.alloc (.cells #[.slice E1 k1 m1] 33) = W := ⟨_, rfl⟩
            rw [hw, hg] at hk
            rw [hw] at HB HQ HN
            rw [hw, hg]
            have HKn := Lib.hid hk
            clear hk hg hw
            go_wp2_with fail
            refine (of_one w3).mono ?_
            rintro e w4 ⟨v, rfl, hv, hb⟩
            obtain ⟨D1, z1, y1, rfl⟩ := hv.shape
            have HM := Lib.hid hv
            clear hv
            have HB := Lib.hid (HB.out.trans (hb.mono HB.out.size))
            have hlq := HQ.out.lt
            have HQ := Lib.hid (HQ.out.below hb hlq)
            have hlHKn := HKn.out.lt
            have HN := Lib.hid (HN.out.below hb)
            have HKn := Lib.hid (HKn.out.below hb hlHKn)
            clear hb hlq hlHKn
            go_upto_region 11 with (fail)
            have hgq := HQ.out.lt
            have hgg := HKn.out.lt
            have hk := Blk.new w4 33 #[.slice D1 z1 y1]
            have hb := b1 w4 (.cells #[.slice D1 z1 y1] 33)
            have HB := Lib.hid (HB.out.trans (hb.mono HB.out.size))
            have hlq := HQ.out.lt
            have HQ := Lib.hid (HQ.out.below hb hlq)
            have hlHKn := HKn.out.lt
            have HN := Lib.hid (HN.out.below hb)
            have HKn := Lib.hid (HKn.out.below hb hlHKn)
            have HM := Lib.hid (HM.out.below hb)
            clear hb hlq hlHKn
            obtain ⟨g8, hg⟩ : ∃ g, w4.heap.size = g := ⟨_, rfl⟩
            obtain ⟨w5, hw⟩ : ∃ W, w4.alloc (.cells #[.slice D1 z1 y1] 33) = W := ⟨_, rfl⟩
            rw [hw, hg] at hk
            rw [hw] at HB HQ HN HKn HM
            rw [hw, hg]
            have HKd := Lib.hid hk
            rw [hg] at hgq hgg
            have HGQ := Lib.hid hgq
            have HGG := Lib.hid hgg
            have HG8 := Lib.hid (Nat.le_of_lt hgq)
            clear hgq hgg
            clear hk hg hw
            have d0 := HKd.out.cell 0
            have fd := HKd.out.frozen 0
            simp only [List.getElem?_toArray, List.getElem?_cons_zero] at d0
            go_wp2_with fail
            refine (ref3_no (s.extract (K + 1) s.size) w5 HTB.out (by have := HLB.out; omega) HE.out).mono ?_
            rintro e w6 ⟨D2, z2, y2, rfl, ⟨Ld, hd⟩, hb⟩
            have HM := Lib.hid hd
            clear hd d0 fd
            have HB := Lib.hid (HB.out.trans (hb.mono HB.out.size))
            have hlq := HQ.out.lt
            have HQ := Lib.hid (HQ.out.below hb hlq)
            have hlHKn := HKn.out.lt
            have hlHKd := HKd.out.lt
            have HN := Lib.hid (HN.out.below hb)
            have HKn := Lib.hid (HKn.out.below hb hlHKn)
            have HKd := Lib.hid (HKd.out.below hb hlHKd)
            clear hb hlq hlHKn hlHKd
            have d0 := HKd.out.cell 0
            have fd := HKd.out.frozen 0
            simp only [List.getElem?_toArray, List.getElem?_cons_zero] at d0
            have hgn : g6 < g8 := by first | exact HGG.out | omega
            go_upto_region 14 with (fail)
            have hdq := HQ.out.lt
            have HB := Lib.hid (HB.out.setCell (p := ⟨g8, 0, none⟩) HG8.out (.slice D2 z2 y2))
            have HN := Lib.hid (HN.out.setSi (u := .slice D2 z2 y2) d0)
            have HM := Lib.hid (HM.out.setSi (u := .slice D2 z2 y2) d0)
            have HKd := Lib.hid (HKd.out.set_ 0 (.slice D2 z2 y2))
            have HKn := Lib.hid (HKn.out.far (p := ⟨g8, 0, none⟩) (by show g6 ≠ g8; omega) (.slice D2 z2 y2))
            have HQ := Lib.hid (HQ.out.far (p := ⟨g8, 0, none⟩) (by show w.heap.size ≠ g8; have := HGQ.out; omega) (.slice D2 z2 y2))
            obtain ⟨w7, hw⟩ : ∃ W, w6.setCell ⟨g8, 0, none⟩ (.slice D2 z2 y2) = W := ⟨_, rfl⟩
            rw [hw] at HB HQ HN HM HKn HKd
            rw [hw]
            clear hw hdq d0 fd hgn
            have c0 := HQ.out.cell 0
            have c1 := HQ.out.cell 1
            have f0 := HQ.out.frozen 0
            have f1 := HQ.out.frozen 1
            simp only [List.getElem?_toArray, List.getElem?_cons_zero, List.getElem?_cons_succ] at c0 c1
            have n0 := HKn.out.cell 0
            have d0 := HKd.out.cell 0
            simp only [List.getElem?_toArray, List.getElem?_cons_zero] at n0 d0
            go_wp2_with fail
            have hp := put_Q HQ.out (.slice none 0 0) (.slice none 0 0)
            have k0 := HQ.out.cell 0
            have k1 := HQ.out.cell 1
            first
              | exact bodyPost_ret (v := .tuple #[.agg #[.slice none 0 0, .slice none 0 0], .int .i64 3]) (by simp [results, Tryz.results7, go_sem, hp.cell 0, hp.cell 1]) rfl (Or.inr ⟨HNO.out, rfl, (HB.out.setCell (Nat.le_refl _) _).setCell (Nat.le_refl _) _⟩)
              | exact bodyPost_ret (v := .tuple #[.agg #[.slice none 0 0, .slice none 0 0], .int .i64 3]) (by simp [results, Tryz.results7, go_sem, k0, k1]) rfl (Or.inr ⟨HNO.out, rfl, HB.out⟩)
          | true =>
            have HE := Lib.hid hdb
            have hfp := HFP.out
            rw [if_pos hlt, hda, hdb] at hfp
            obtain ⟨J, hJ⟩ : ∃ J : Nat, J = 200 := ⟨_, rfl⟩
            have hna := dec_small16 (j := J) hda (by have := HLA.out; omega)
            have hnb := dec_small16 (j := J) hdb (by have := HLB.out; omega)
            have htx := HYES.out hlt hda hdb
            by_cases hd0 : DV 0 b = 0
            · have HNO : Hid (fp l = none) := Lib.hid (by rw [hfp, hd0]; simp)
              have HD0 := Lib.hid hd0
              clear hda hdb hfp hna hnb htx hd0
              go_wp2_with fail
              refine (ref3_yes _ wr HTA.out (by have := HLA.out; omega) HD.out).mono ?_
              rintro e w2 ⟨E1, k1, m1, rfl, ⟨Ln, hn⟩, hb⟩
              have HN := Lib.hid hn
              clear hn
              have HB := Lib.hid (HB.out.trans (hb.mono HB.out.size))
              have hlq := HQ.out.lt
              have HQ := Lib.hid (HQ.out.below hb hlq)
              clear hb hlq
              go_upto_region 10 with (fail)
              have hk := Blk.new w2 33 #[.slice E1 k1 m1]
              have hb := b1 w2 (.cells #[.slice E1 k1 m1] 33)
              have HB := Lib.hid (HB.out.trans (hb.mono HB.out.size))
              have hlq := HQ.out.lt
              have HQ := Lib.hid (HQ.out.below hb hlq)
              have HN := Lib.hid (HN.out.below hb)
              clear hb hlq
              obtain ⟨g6, hg⟩ : ∃ g, w2.heap.size = g := ⟨_, rfl⟩
              obtain ⟨w3, hw⟩ : ∃ W, w2.alloc (.cells #[.slice E1 k1 m1] 33) = W := ⟨_, rfl⟩
              rw [hw, hg] at hk
              rw [hw] at HB HQ HN
              rw [hw, hg]
              have HKn := Lib.hid hk
              clear hk hg hw
              go_wp2_with fail
              refine (of_one w3).mono ?_
              rintro e w4 ⟨v, rfl, hv, hb⟩
              obtain ⟨D1, z1, y1, rfl⟩ := hv.shape
              have HM := Lib.hid hv
              clear hv
              have HB := Lib.hid (HB.out.trans (hb.mono HB.out.size))
              have hlq := HQ.out.lt
              have HQ := Lib.hid (HQ.out.below hb hlq)
              have hlHKn := HKn.out.lt
              have HN := Lib.hid (HN.out.below hb)
              have HKn := Lib.hid (HKn.out.below hb hlHKn)
              clear hb hlq hlHKn
              go_upto_region 11 with (fail)
              have hgq := HQ.out.lt
              have hgg := HKn.out.lt
              have hk := Blk.new w4 33 #[.slice D1 z1 y1]
              have hb := b1 w4 (.cells #[.slice D1 z1 y1] 33)
              have HB := Lib.hid (HB.out.trans (hb.mono HB.out.size))
              have hlq := HQ.out.lt
              have HQ := Lib.hid (HQ.out.below hb hlq)
              have hlHKn := HKn.out.lt
              have HN := Lib.hid (HN.out.below hb)
              have HKn := Lib.hid (HKn.out.below hb hlHKn)
              have HM := Lib.hid (HM.out.below hb)
              clear hb hlq hlHKn
              obtain ⟨g8, hg⟩ : ∃ g, w4.heap.size = g := ⟨_, rfl⟩
              obtain ⟨w5, hw⟩ : ∃ W, w4.alloc (.cells #[.slice D1 z1 y1] 33) = W := ⟨_, rfl⟩
              rw [hw, hg] at hk
              rw [hw] at HB HQ HN HKn HM
              rw [hw, hg]
              have HKd := Lib.hid hk
              rw [hg] at hgq hgg
              have HGQ := Lib.hid hgq
              have HGG := Lib.hid hgg
              have HG8 := Lib.hid (Nat.le_of_lt hgq)
              clear hgq hgg
              clear hk hg hw
              have d0 := HKd.out.cell 0
              have fd := HKd.out.frozen 0
              simp only [List.getElem?_toArray, List.getElem?_cons_zero] at d0
              go_wp2_with fail
              refine (ref3_yes (s.extract (K + 1) s.size) w5 HTB.out (by have := HLB.out; omega) HE.out).mono ?_
              rintro e w6 ⟨D2, z2, y2, rfl, ⟨Ld, hd⟩, hb⟩
              have HM := Lib.hid hd
              clear hd d0 fd
              have HB := Lib.hid (HB.out.trans (hb.mono HB.out.size))
              have hlq := HQ.out.lt
              have HQ := Lib.hid (HQ.out.below hb hlq)
              have hlHKn := HKn.out.lt
              have hlHKd := HKd.out.lt
              have HN := Lib.hid (HN.out.below hb)
              have HKn := Lib.hid (HKn.out.below hb hlHKn)
              have HKd := Lib.hid (HKd.out.below hb hlHKd)
              clear hb hlq hlHKn hlHKd
              have d0 := HKd.out.cell 0
              have fd := HKd.out.frozen 0
              simp only [List.getElem?_toArray, List.getElem?_cons_zero] at d0
              have hgn : g6 < g8 := by first | exact HGG.out | omega
              go_upto_region 14 with (fail)
              have hdq := HQ.out.lt
              have HB := Lib.hid (HB.out.setCell (p := ⟨g8, 0, none⟩) HG8.out (.slice D2 z2 y2))
              have HN := Lib.hid (HN.out.setSi (u := .slice D2 z2 y2) d0)
              have HM := Lib.hid (HM.out.setSi (u := .slice D2 z2 y2) d0)
              have HKd := Lib.hid (HKd.out.set_ 0 (.slice D2 z2 y2))
              have HKn := Lib.hid (HKn.out.far (p := ⟨g8, 0, none⟩) (by show g6 ≠ g8; omega) (.slice D2 z2 y2))
              have HQ := Lib.hid (HQ.out.far (p := ⟨g8, 0, none⟩) (by show w.heap.size ≠ g8; have := HGQ.out; omega) (.slice D2 z2 y2))
              obtain ⟨w7, hw⟩ : ∃ W, w6.setCell ⟨g8, 0, none⟩ (.slice D2 z2 y2) = W := ⟨_, rfl⟩
              rw [hw] at HB HQ HN HM HKn HKd
              rw [hw]
              clear hw hdq d0 fd hgn
              have c0 := HQ.out.cell 0
              have c1 := HQ.out.cell 1
              have f0 := HQ.out.frozen 0
              have f1 := HQ.out.frozen 1
              simp only [List.getElem?_toArray, List.getElem?_cons_zero, List.getElem?_cons_succ] at c0 c1
              have n0 := HKn.out.cell 0
              have d0 := HKd.out.cell 0
              simp only [List.getElem?_toArray, List.getElem?_cons_zero] at n0 d0
              have hlz := len_zero HM.out
              rw [HD0.out] at hlz
              simp only [decide_true] at hlz
              go_wp2_with fail
              have hp := put_Q HQ.out (.slice none 0 0) (.slice none 0 0)
              have k0 := HQ.out.cell 0
              have k1 := HQ.out.cell 1
              first
                | exact bodyPost_ret (v := .tuple #[.agg #[.slice none 0 0, .slice none 0 0], .int .i64 3]) (by simp [results, Tryz.results7, go_sem, hp.cell 0, hp.cell 1]) rfl (Or.inr ⟨HNO.out, rfl, (HB.out.setCell (Nat.le_refl _) _).setCell (Nat.le_refl _) _⟩)
                | exact bodyPost_ret (v := .tuple #[.agg #[.slice none 0 0, .slice none 0 0], .int .i64 3]) (by simp [results, Tryz.results7, go_sem, k0, k1]) rfl (Or.inr ⟨HNO.out, rfl, HB.out⟩)
            · have hdp : decide (DV 0 b = 0) = false := decide_eq_false hd0
              have HDP := Lib.hid hdp
              have HNA := Lib.hid hna
              have HNB := Lib.hid hnb
              have HJ1 : Hid (1 < 65536 ^ J) := Lib.hid (Nat.one_lt_pow (by omega) (by omega))
              have HGB : Hid (Nat.gcd (DV 0 a) (DV 0 b) < 65536 ^ J) := Lib.hid (Nat.lt_of_le_of_lt (Nat.gcd_le_right _ (by omega)) hnb)
              clear hdp hna hnb hda hdb
              by_cases hg1 : Nat.gcd (DV 0 a) (DV 0 b) = 1
              · have HCZ : Hid (cmpI (Nat.gcd (DV 0 a) (DV 0 b)) 1 = 0) := Lib.hid (cmpI_eq hg1)
                by_cases h1 : DV 0 b = 1
                · rw [decide_eq_false (show ¬ DV 0 b ≠ 1 by omega)] at htx
                  have HNO : Hid (fp l = none) := Lib.hid (by rw [hfp, decide_eq_false (show ¬ DV 0 b ≠ 1 by omega)]; simp)
                  obtain ⟨t, ht⟩ : ∃ t : ByteArray, (⟨(ftxt (DV 0 a, DV 0 b)).toArray⟩ : ByteArray) = t := ⟨_, rfl⟩
                  have hts : ¬ t = s := fun e => of_decide_eq_false htx (by have h2 := ht.trans (e.trans HSL.out); simpa using congrArg (fun x : ByteArray => x.data.toList) h2)
                  have hts2 : (t.toList == s.toList) = false := by rw [ByteArray.toList_eq, ByteArray.toList_eq]; exact beq_eq_false_iff_ne.2 (fun e => hts (by cases t; cases s; simpa using congrArg List.toArray e))
                  have hts3 : (!t.toList == s.toList) = true := by rw [hts2]; rfl
                  have HTX := Lib.hid ht
                  clear hfp htx hg1 hd0 h1 ht
                  go_wp2_with fail
                  refine (ref3_yes _ wr HTA.out (by have := HLA.out; omega) HD.out).mono ?_
                  rintro e w2 ⟨E1, k1, m1, rfl, ⟨Ln, hn⟩, hb⟩
                  have HN := Lib.hid hn
                  clear hn
                  have HB := Lib.hid (HB.out.trans (hb.mono HB.out.size))
                  have hlq := HQ.out.lt
                  have HQ := Lib.hid (HQ.out.below hb hlq)
                  clear hb hlq
                  go_upto_region 10 with (fail)
                  have hk := Blk.new w2 33 #[.slice E1 k1 m1]
                  have hb := b1 w2 (.cells #[.slice E1 k1 m1] 33)
                  have HB := Lib.hid (HB.out.trans (hb.mono HB.out.size))
                  have hlq := HQ.out.lt
                  have HQ := Lib.hid (HQ.out.below hb hlq)
                  have HN := Lib.hid (HN.out.below hb)
                  clear hb hlq
                  obtain ⟨g6, hg⟩ : ∃ g, w2.heap.size = g := ⟨_, rfl⟩
                  obtain ⟨w3, hw⟩ : ∃ W, w2.alloc (.cells #[.slice E1 k1 m1] 33) = W := ⟨_, rfl⟩
                  rw [hw, hg] at hk
                  rw [hw] at HB HQ HN
                  rw [hw, hg]
                  have HKn := Lib.hid hk
                  clear hk hg hw
                  go_wp2_with fail
                  refine (of_one w3).mono ?_
                  rintro e w4 ⟨v, rfl, hv, hb⟩
                  obtain ⟨D1, z1, y1, rfl⟩ := hv.shape
                  have HM := Lib.hid hv
                  clear hv
                  have HB := Lib.hid (HB.out.trans (hb.mono HB.out.size))
                  have hlq := HQ.out.lt
                  have HQ := Lib.hid (HQ.out.below hb hlq)
                  have hlHKn := HKn.out.lt
                  have HN := Lib.hid (HN.out.below hb)
                  have HKn := Lib.hid (HKn.out.below hb hlHKn)
                  clear hb hlq hlHKn
                  go_upto_region 11 with (fail)
                  have hgq := HQ.out.lt
                  have hgg := HKn.out.lt
                  have hk := Blk.new w4 33 #[.slice D1 z1 y1]
                  have hb := b1 w4 (.cells #[.slice D1 z1 y1] 33)
                  have HB := Lib.hid (HB.out.trans (hb.mono HB.out.size))
                  have hlq := HQ.out.lt
                  have HQ := Lib.hid (HQ.out.below hb hlq)
                  have hlHKn := HKn.out.lt
                  have HN := Lib.hid (HN.out.below hb)
                  have HKn := Lib.hid (HKn.out.below hb hlHKn)
                  have HM := Lib.hid (HM.out.below hb)
                  clear hb hlq hlHKn
                  obtain ⟨g8, hg⟩ : ∃ g, w4.heap.size = g := ⟨_, rfl⟩
                  obtain ⟨w5, hw⟩ : ∃ W, w4.alloc (.cells #[.slice D1 z1 y1] 33) = W := ⟨_, rfl⟩
                  rw [hw, hg] at hk
                  rw [hw] at HB HQ HN HKn HM
                  rw [hw, hg]
                  have HKd := Lib.hid hk
                  rw [hg] at hgq hgg
                  have HGQ := Lib.hid hgq
                  have HGG := Lib.hid hgg
                  have HG8 := Lib.hid (Nat.le_of_lt hgq)
                  clear hgq hgg
                  clear hk hg hw
                  have d0 := HKd.out.cell 0
                  have fd := HKd.out.frozen 0
                  simp only [List.getElem?_toArray, List.getElem?_cons_zero] at d0
                  go_wp2_with fail
                  refine (ref3_yes (s.extract (K + 1) s.size) w5 HTB.out (by have := HLB.out; omega) HE.out).mono ?_
                  rintro e w6 ⟨D2, z2, y2, rfl, ⟨Ld, hd⟩, hb⟩
                  have HM := Lib.hid hd
                  clear hd d0 fd
                  have HB := Lib.hid (HB.out.trans (hb.mono HB.out.size))
                  have hlq := HQ.out.lt
                  have HQ := Lib.hid (HQ.out.below hb hlq)
                  have hlHKn := HKn.out.lt
                  have hlHKd := HKd.out.lt
                  have HN := Lib.hid (HN.out.below hb)
                  have HKn := Lib.hid (HKn.out.below hb hlHKn)
                  have HKd := Lib.hid (HKd.out.below hb hlHKd)
                  clear hb hlq hlHKn hlHKd
                  have d0 := HKd.out.cell 0
                  have fd := HKd.out.frozen 0
                  simp only [List.getElem?_toArray, List.getElem?_cons_zero] at d0
                  have hgn : g6 < g8 := by first | exact HGG.out | omega
                  go_upto_region 14 with (fail)
                  have hdq := HQ.out.lt
                  have HB := Lib.hid (HB.out.setCell (p := ⟨g8, 0, none⟩) HG8.out (.slice D2 z2 y2))
                  have HN := Lib.hid (HN.out.setSi (u := .slice D2 z2 y2) d0)
                  have HM := Lib.hid (HM.out.setSi (u := .slice D2 z2 y2) d0)
                  have HKd := Lib.hid (HKd.out.set_ 0 (.slice D2 z2 y2))
                  have HKn := Lib.hid (HKn.out.far (p := ⟨g8, 0, none⟩) (by show g6 ≠ g8; omega) (.slice D2 z2 y2))
                  have HQ := Lib.hid (HQ.out.far (p := ⟨g8, 0, none⟩) (by show w.heap.size ≠ g8; have := HGQ.out; omega) (.slice D2 z2 y2))
                  obtain ⟨w7, hw⟩ : ∃ W, w6.setCell ⟨g8, 0, none⟩ (.slice D2 z2 y2) = W := ⟨_, rfl⟩
                  rw [hw] at HB HQ HN HM HKn HKd
                  rw [hw]
                  clear hw hdq d0 fd hgn
                  have c0 := HQ.out.cell 0
                  have c1 := HQ.out.cell 1
                  have f0 := HQ.out.frozen 0
                  have f1 := HQ.out.frozen 1
                  simp only [List.getElem?_toArray, List.getElem?_cons_zero, List.getElem?_cons_succ] at c0 c1
                  have n0 := HKn.out.cell 0
                  have d0 := HKd.out.cell 0
                  simp only [List.getElem?_toArray, List.getElem?_cons_zero] at n0 d0
                  have hlz := len_zero HM.out
                  rw [HDP.out] at hlz
                  go_wp2_with fail
                  refine (refGcd3_any (j := J) _ _ _ _ _ _ (DV 0 a) (DV 0 b) _ _ _ HN.out HM.out HNA.out HNB.out (by omega)).mono ?_
                  rintro e w8 ⟨v, rfl, ⟨Lg, hg⟩, hb⟩
                  obtain ⟨G1, x1, s1, rfl⟩ := hg.shape
                  have HG := Lib.hid hg
                  clear hg
                  have HB := Lib.hid (HB.out.trans (hb.mono HB.out.size))
                  have hlq := HQ.out.lt
                  have HQ := Lib.hid (HQ.out.below hb hlq)
                  have hlHKn := HKn.out.lt
                  have hlHKd := HKd.out.lt
                  have HN := Lib.hid (HN.out.below hb)
                  have HKn := Lib.hid (HKn.out.below hb hlHKn)
                  have HKd := Lib.hid (HKd.out.below hb hlHKd)
                  have HM := Lib.hid (HM.out.below hb)
                  clear hb hlq hlHKn hlHKd
                  go_wp2_with fail
                  refine (of_one w8).mono ?_
                  rintro e w9 ⟨v, rfl, hv, hb⟩
                  obtain ⟨O1, x2, s2, rfl⟩ := hv.shape
                  have HO := Lib.hid hv
                  clear hv
                  have HB := Lib.hid (HB.out.trans (hb.mono HB.out.size))
                  have hlq := HQ.out.lt
                  have HQ := Lib.hid (HQ.out.below hb hlq)
                  have hlHKn := HKn.out.lt
                  have hlHKd := HKd.out.lt
                  have HN := Lib.hid (HN.out.below hb)
                  have HKn := Lib.hid (HKn.out.below hb hlHKn)
                  have HKd := Lib.hid (HKd.out.below hb hlHKd)
                  have HM := Lib.hid (HM.out.below hb)
                  have HG := Lib.hid (HG.out.below hb)
                  clear hb hlq hlHKn hlHKd
                  go_wp2_with fail
                  refine (cmp_num (j := J) (k := J) (.agg #[.slice G1 x1 s1]) (.agg #[.slice O1 x2 s2]) _ 1 _ _ w9 HG.out HO.out HGB.out HJ1.out (by omega) (by omega)).mono ?_
                  rintro e w10 ⟨hen, hb⟩
                  rw [HCZ.out] at hen
                  subst hen
                  clear HG HO
                  have HB := Lib.hid (HB.out.trans (hb.mono HB.out.size))
                  have hlq := HQ.out.lt
                  have HQ := Lib.hid (HQ.out.below hb hlq)
                  have hlHKn := HKn.out.lt
                  have hlHKd := HKd.out.lt
                  have HN := Lib.hid (HN.out.below hb)
                  have HKn := Lib.hid (HKn.out.below hb hlHKn)
                  have HKd := Lib.hid (HKd.out.below hb hlHKd)
                  have HM := Lib.hid (HM.out.below hb)
                  clear hb hlq hlHKn hlHKd
                  have c0 := HQ.out.cell 0
                  have c1 := HQ.out.cell 1
                  have f0 := HQ.out.frozen 0
                  have f1 := HQ.out.frozen 1
                  simp only [List.getElem?_toArray, List.getElem?_cons_zero, List.getElem?_cons_succ] at c0 c1
                  have n0 := HKn.out.cell 0
                  have d0 := HKd.out.cell 0
                  simp only [List.getElem?_toArray, List.getElem?_cons_zero] at n0 d0
                  go_wp2_with fail
                  refine (ref4Text_r (j := J) (q := (DV 0 a, DV 0 b)) w10 ⟨⟨_, HN.out⟩, ⟨_, HM.out⟩⟩ HNA.out HNB.out (by omega) (by omega)).mono ?_
                  rintro e w11 ⟨hen, hb⟩
                  rw [HTX.out] at hen
                  subst hen
                  have HB := Lib.hid (HB.out.trans (hb.mono HB.out.size))
                  have hlq := HQ.out.lt
                  have HQ := Lib.hid (HQ.out.below hb hlq)
                  have hlHKn := HKn.out.lt
                  have hlHKd := HKd.out.lt
                  have HN := Lib.hid (HN.out.below hb)
                  have HKn := Lib.hid (HKn.out.below hb hlHKn)
                  have HKd := Lib.hid (HKd.out.below hb hlHKd)
                  have HM := Lib.hid (HM.out.below hb)
                  clear hb hlq hlHKn hlHKd
                  have c0 := HQ.out.cell 0
                  have c1 := HQ.out.cell 1
                  have f0 := HQ.out.frozen 0
                  have f1 := HQ.out.frozen 1
                  simp only [List.getElem?_toArray, List.getElem?_cons_zero, List.getElem?_cons_succ] at c0 c1
                  have n0 := HKn.out.cell 0
                  have d0 := HKd.out.cell 0
                  simp only [List.getElem?_toArray, List.getElem?_cons_zero] at n0 d0
                  go_wp2_with fail
                  have hp := put_Q HQ.out (.slice none 0 0) (.slice none 0 0)
                  have k0 := HQ.out.cell 0
                  have k1 := HQ.out.cell 1
                  first
                    | exact bodyPost_ret (v := .tuple #[.agg #[.slice none 0 0, .slice none 0 0], .int .i64 3]) (by simp [results, Tryz.results7, go_sem, hp.cell 0, hp.cell 1]) rfl (Or.inr ⟨HNO.out, rfl, (HB.out.setCell (Nat.le_refl _) _).setCell (Nat.le_refl _) _⟩)
                    | exact bodyPost_ret (v := .tuple #[.agg #[.slice none 0 0, .slice none 0 0], .int .i64 3]) (by simp [results, Tryz.results7, go_sem, k0, k1]) rfl (Or.inr ⟨HNO.out, rfl, HB.out⟩)
                · rw [decide_eq_true (show DV 0 b ≠ 1 from h1)] at htx
                  have HTX : Hid ((⟨(ftxt (DV 0 a, DV 0 b)).toArray⟩ : ByteArray) = s) := Lib.hid (by rw [of_decide_eq_true htx]; exact HSL.out.symm)
                  have HOK : Hid (fp l = some (DV 0 a, DV 0 b)) := Lib.hid (by rw [hfp, decide_eq_true (show DV 0 b ≠ 1 from h1), decide_eq_true (show 0 < DV 0 b by omega), decide_eq_true hg1]; rfl)
                  clear hfp htx hg1 hd0 h1
                  go_wp2_with fail
                  refine (ref3_yes _ wr HTA.out (by have := HLA.out; omega) HD.out).mono ?_
                  rintro e w2 ⟨E1, k1, m1, rfl, ⟨Ln, hn⟩, hb⟩
                  have HN := Lib.hid hn
                  clear hn
                  have HB := Lib.hid (HB.out.trans (hb.mono HB.out.size))
                  have hlq := HQ.out.lt
                  have HQ := Lib.hid (HQ.out.below hb hlq)
                  clear hb hlq
                  go_upto_region 10 with (fail)
                  have hk := Blk.new w2 33 #[.slice E1 k1 m1]
                  have hb := b1 w2 (.cells #[.slice E1 k1 m1] 33)
                  have HB := Lib.hid (HB.out.trans (hb.mono HB.out.size))
                  have hlq := HQ.out.lt
                  have HQ := Lib.hid (HQ.out.below hb hlq)
                  have HN := Lib.hid (HN.out.below hb)
                  clear hb hlq
                  obtain ⟨g6, hg⟩ : ∃ g, w2.heap.size = g := ⟨_, rfl⟩
                  obtain ⟨w3, hw⟩ : ∃ W, w2.alloc (.cells #[.slice E1 k1 m1] 33) = W := ⟨_, rfl⟩
                  rw [hw, hg] at hk
                  rw [hw] at HB HQ HN
                  rw [hw, hg]
                  have HKn := Lib.hid hk
                  clear hk hg hw
                  go_wp2_with fail
                  refine (of_one w3).mono ?_
                  rintro e w4 ⟨v, rfl, hv, hb⟩
                  obtain ⟨D1, z1, y1, rfl⟩ := hv.shape
                  have HM := Lib.hid hv
                  clear hv
                  have HB := Lib.hid (HB.out.trans (hb.mono HB.out.size))
                  have hlq := HQ.out.lt
                  have HQ := Lib.hid (HQ.out.below hb hlq)
                  have hlHKn := HKn.out.lt
                  have HN := Lib.hid (HN.out.below hb)
                  have HKn := Lib.hid (HKn.out.below hb hlHKn)
                  clear hb hlq hlHKn
                  go_upto_region 11 with (fail)
                  have hgq := HQ.out.lt
                  have hgg := HKn.out.lt
                  have hk := Blk.new w4 33 #[.slice D1 z1 y1]
                  have hb := b1 w4 (.cells #[.slice D1 z1 y1] 33)
                  have HB := Lib.hid (HB.out.trans (hb.mono HB.out.size))
                  have hlq := HQ.out.lt
                  have HQ := Lib.hid (HQ.out.below hb hlq)
                  have hlHKn := HKn.out.lt
                  have HN := Lib.hid (HN.out.below hb)
                  have HKn := Lib.hid (HKn.out.below hb hlHKn)
                  have HM := Lib.hid (HM.out.below hb)
                  clear hb hlq hlHKn
                  obtain ⟨g8, hg⟩ : ∃ g, w4.heap.size = g := ⟨_, rfl⟩
                  obtain ⟨w5, hw⟩ : ∃ W, w4.alloc (.cells #[.slice D1 z1 y1] 33) = W := ⟨_, rfl⟩
                  rw [hw, hg] at hk
                  rw [hw] at HB HQ HN HKn HM
                  rw [hw, hg]
                  have HKd := Lib.hid hk
                  rw [hg] at hgq hgg
                  have HGQ := Lib.hid hgq
                  have HGG := Lib.hid hgg
                  have HG8 := Lib.hid (Nat.le_of_lt hgq)
                  clear hgq hgg
                  clear hk hg hw
                  have d0 := HKd.out.cell 0
                  have fd := HKd.out.frozen 0
                  simp only [List.getElem?_toArray, List.getElem?_cons_zero] at d0
                  go_wp2_with fail
                  refine (ref3_yes (s.extract (K + 1) s.size) w5 HTB.out (by have := HLB.out; omega) HE.out).mono ?_
                  rintro e w6 ⟨D2, z2, y2, rfl, ⟨Ld, hd⟩, hb⟩
                  have HM := Lib.hid hd
                  clear hd d0 fd
                  have HB := Lib.hid (HB.out.trans (hb.mono HB.out.size))
                  have hlq := HQ.out.lt
                  have HQ := Lib.hid (HQ.out.below hb hlq)
                  have hlHKn := HKn.out.lt
                  have hlHKd := HKd.out.lt
                  have HN := Lib.hid (HN.out.below hb)
                  have HKn := Lib.hid (HKn.out.below hb hlHKn)
                  have HKd := Lib.hid (HKd.out.below hb hlHKd)
                  clear hb hlq hlHKn hlHKd
                  have d0 := HKd.out.cell 0
                  have fd := HKd.out.frozen 0
                  simp only [List.getElem?_toArray, List.getElem?_cons_zero] at d0
                  have hgn : g6 < g8 := by first | exact HGG.out | omega
                  go_upto_region 14 with (fail)
                  have hdq := HQ.out.lt
                  have HB := Lib.hid (HB.out.setCell (p := ⟨g8, 0, none⟩) HG8.out (.slice D2 z2 y2))
                  have HN := Lib.hid (HN.out.setSi (u := .slice D2 z2 y2) d0)
                  have HM := Lib.hid (HM.out.setSi (u := .slice D2 z2 y2) d0)
                  have HKd := Lib.hid (HKd.out.set_ 0 (.slice D2 z2 y2))
                  have HKn := Lib.hid (HKn.out.far (p := ⟨g8, 0, none⟩) (by show g6 ≠ g8; omega) (.slice D2 z2 y2))
                  have HQ := Lib.hid (HQ.out.far (p := ⟨g8, 0, none⟩) (by show w.heap.size ≠ g8; have := HGQ.out; omega) (.slice D2 z2 y2))
                  obtain ⟨w7, hw⟩ : ∃ W, w6.setCell ⟨g8, 0, none⟩ (.slice D2 z2 y2) = W := ⟨_, rfl⟩
                  rw [hw] at HB HQ HN HM HKn HKd
                  rw [hw]
                  clear hw hdq d0 fd hgn
                  have c0 := HQ.out.cell 0
                  have c1 := HQ.out.cell 1
                  have f0 := HQ.out.frozen 0
                  have f1 := HQ.out.frozen 1
                  simp only [List.getElem?_toArray, List.getElem?_cons_zero, List.getElem?_cons_succ] at c0 c1
                  have n0 := HKn.out.cell 0
                  have d0 := HKd.out.cell 0
                  simp only [List.getElem?_toArray, List.getElem?_cons_zero] at n0 d0
                  have hlz := len_zero HM.out
                  rw [HDP.out] at hlz
                  go_wp2_with fail
                  refine (refGcd3_any (j := J) _ _ _ _ _ _ (DV 0 a) (DV 0 b) _ _ _ HN.out HM.out HNA.out HNB.out (by omega)).mono ?_
                  rintro e w8 ⟨v, rfl, ⟨Lg, hg⟩, hb⟩
                  obtain ⟨G1, x1, s1, rfl⟩ := hg.shape
                  have HG := Lib.hid hg
                  clear hg
                  have HB := Lib.hid (HB.out.trans (hb.mono HB.out.size))
                  have hlq := HQ.out.lt
                  have HQ := Lib.hid (HQ.out.below hb hlq)
                  have hlHKn := HKn.out.lt
                  have hlHKd := HKd.out.lt
                  have HN := Lib.hid (HN.out.below hb)
                  have HKn := Lib.hid (HKn.out.below hb hlHKn)
                  have HKd := Lib.hid (HKd.out.below hb hlHKd)
                  have HM := Lib.hid (HM.out.below hb)
                  clear hb hlq hlHKn hlHKd
                  go_wp2_with fail
                  refine (of_one w8).mono ?_
                  rintro e w9 ⟨v, rfl, hv, hb⟩
                  obtain ⟨O1, x2, s2, rfl⟩ := hv.shape
                  have HO := Lib.hid hv
                  clear hv
                  have HB := Lib.hid (HB.out.trans (hb.mono HB.out.size))
                  have hlq := HQ.out.lt
                  have HQ := Lib.hid (HQ.out.below hb hlq)
                  have hlHKn := HKn.out.lt
                  have hlHKd := HKd.out.lt
                  have HN := Lib.hid (HN.out.below hb)
                  have HKn := Lib.hid (HKn.out.below hb hlHKn)
                  have HKd := Lib.hid (HKd.out.below hb hlHKd)
                  have HM := Lib.hid (HM.out.below hb)
                  have HG := Lib.hid (HG.out.below hb)
                  clear hb hlq hlHKn hlHKd
                  go_wp2_with fail
                  refine (cmp_num (j := J) (k := J) (.agg #[.slice G1 x1 s1]) (.agg #[.slice O1 x2 s2]) _ 1 _ _ w9 HG.out HO.out HGB.out HJ1.out (by omega) (by omega)).mono ?_
                  rintro e w10 ⟨hen, hb⟩
                  rw [HCZ.out] at hen
                  subst hen
                  clear HG HO
                  have HB := Lib.hid (HB.out.trans (hb.mono HB.out.size))
                  have hlq := HQ.out.lt
                  have HQ := Lib.hid (HQ.out.below hb hlq)
                  have hlHKn := HKn.out.lt
                  have hlHKd := HKd.out.lt
                  have HN := Lib.hid (HN.out.below hb)
                  have HKn := Lib.hid (HKn.out.below hb hlHKn)
                  have HKd := Lib.hid (HKd.out.below hb hlHKd)
                  have HM := Lib.hid (HM.out.below hb)
                  clear hb hlq hlHKn hlHKd
                  have c0 := HQ.out.cell 0
                  have c1 := HQ.out.cell 1
                  have f0 := HQ.out.frozen 0
                  have f1 := HQ.out.frozen 1
                  simp only [List.getElem?_toArray, List.getElem?_cons_zero, List.getElem?_cons_succ] at c0 c1
                  have n0 := HKn.out.cell 0
                  have d0 := HKd.out.cell 0
                  simp only [List.getElem?_toArray, List.getElem?_cons_zero] at n0 d0
                  go_wp2_with fail
                  refine (ref4Text_r (j := J) (q := (DV 0 a, DV 0 b)) w10 ⟨⟨_, HN.out⟩, ⟨_, HM.out⟩⟩ HNA.out HNB.out (by omega) (by omega)).mono ?_
                  rintro e w11 ⟨hen, hb⟩
                  rw [HTX.out] at hen
                  subst hen
                  have HB := Lib.hid (HB.out.trans (hb.mono HB.out.size))
                  have hlq := HQ.out.lt
                  have HQ := Lib.hid (HQ.out.below hb hlq)
                  have hlHKn := HKn.out.lt
                  have hlHKd := HKd.out.lt
                  have HN := Lib.hid (HN.out.below hb)
                  have HKn := Lib.hid (HKn.out.below hb hlHKn)
                  have HKd := Lib.hid (HKd.out.below hb hlHKd)
                  have HM := Lib.hid (HM.out.below hb)
                  clear hb hlq hlHKn hlHKd
                  have c0 := HQ.out.cell 0
                  have c1 := HQ.out.cell 1
                  have f0 := HQ.out.frozen 0
                  have f1 := HQ.out.frozen 1
                  simp only [List.getElem?_toArray, List.getElem?_cons_zero, List.getElem?_cons_succ] at c0 c1
                  have n0 := HKn.out.cell 0
                  have d0 := HKd.out.cell 0
                  simp only [List.getElem?_toArray, List.getElem?_cons_zero] at n0 d0
                  go_wp2_with fail
                  have hp := put_Q HQ.out (.slice E1 k1 m1) (.slice D2 z2 y2)
                  have c1s : (w11.setCell ⟨w.heap.size, 0, none⟩ (.slice E1 k1 m1)).cell? ⟨w.heap.size, 1, none⟩ = some (.slice none 0 0) := (World.cell?_setCell_other _ _ _ _ (by intro e; injection e; omega)).trans c1
                  exact bodyPost_ret (v := .tuple #[.agg #[.slice E1 k1 m1, .slice D2 z2 y2], .int .i64 0]) (by simp [results, Tryz.results7, go_sem, hp.cell 0, hp.cell 1]) rfl (Or.inl ⟨_, _, _, _, _, _, _, HOK.out, rfl, ⟨⟨_, (HN.out.setSi c0).setSi c1s⟩, ⟨_, (HM.out.setSi c0).setSi c1s⟩⟩, (HB.out.setCell (Nat.le_refl _) _).setCell (Nat.le_refl _) _⟩)
              · have hne : ¬ cmpI (Nat.gcd (DV 0 a) (DV 0 b)) 1 = 0 := fun h => by have := cmpI_zero (Nat.gcd (DV 0 a) (DV 0 b)) 1; rw [h, decide_eq_false hg1] at this; exact absurd this (by decide)
                obtain ⟨cz, hcz⟩ : ∃ c, cmpI (Nat.gcd (DV 0 a) (DV 0 b)) 1 = c := ⟨_, rfl⟩
                rw [hcz] at hne
                have HCZ := Lib.hid hcz
                have hne2 : (cz != 0) = true := by simp [hne]
                have HNO : Hid (fp l = none) := Lib.hid (by rw [hfp, decide_eq_false hg1]; simp)
                clear hfp htx hcz hg1 hd0
                go_wp2_with fail
                refine (ref3_yes _ wr HTA.out (by have := HLA.out; omega) HD.out).mono ?_
                rintro e w2 ⟨E1, k1, m1, rfl, ⟨Ln, hn⟩, hb⟩
                have HN := Lib.hid hn
                clear hn
                have HB := Lib.hid (HB.out.trans (hb.mono HB.out.size))
                have hlq := HQ.out.lt
                have HQ := Lib.hid (HQ.out.below hb hlq)
                clear hb hlq
                go_upto_region 10 with (fail)
                have hk := Blk.new w2 33 #[.slice E1 k1 m1]
                have hb := b1 w2 (.cells #[.slice E1 k1 m1] 33)
                have HB := Lib.hid (HB.out.trans (hb.mono HB.out.size))
                have hlq := HQ.out.lt
                have HQ := Lib.hid (HQ.out.below hb hlq)
                have HN := Lib.hid (HN.out.below hb)
                clear hb hlq
                obtain ⟨g6, hg⟩ : ∃ g, w2.heap.size = g := ⟨_, rfl⟩
                obtain ⟨w3, hw⟩ : ∃ W, w2.alloc (.cells #[.slice E1 k1 m1] 33) = W := ⟨_, rfl⟩
                rw [hw, hg] at hk
                rw [hw] at HB HQ HN
                rw [hw, hg]
                have HKn := Lib.hid hk
                clear hk hg hw
                go_wp2_with fail
                refine (of_one w3).mono ?_
                rintro e w4 ⟨v, rfl, hv, hb⟩
                obtain ⟨D1, z1, y1, rfl⟩ := hv.shape
                have HM := Lib.hid hv
                clear hv
                have HB := Lib.hid (HB.out.trans (hb.mono HB.out.size))
                have hlq := HQ.out.lt
                have HQ := Lib.hid (HQ.out.below hb hlq)
                have hlHKn := HKn.out.lt
                have HN := Lib.hid (HN.out.below hb)
                have HKn := Lib.hid (HKn.out.below hb hlHKn)
                clear hb hlq hlHKn
                go_upto_region 11 with (fail)
                have hgq := HQ.out.lt
                have hgg := HKn.out.lt
                have hk := Blk.new w4 33 #[.slice D1 z1 y1]
                have hb := b1 w4 (.cells #[.slice D1 z1 y1] 33)
                have HB := Lib.hid (HB.out.trans (hb.mono HB.out.size))
                have hlq := HQ.out.lt
                have HQ := Lib.hid (HQ.out.below hb hlq)
                have hlHKn := HKn.out.lt
                have HN := Lib.hid (HN.out.below hb)
                have HKn := Lib.hid (HKn.out.below hb hlHKn)
                have HM := Lib.hid (HM.out.below hb)
                clear hb hlq hlHKn
                obtain ⟨g8, hg⟩ : ∃ g, w4.heap.size = g := ⟨_, rfl⟩
                obtain ⟨w5, hw⟩ : ∃ W, w4.alloc (.cells #[.slice D1 z1 y1] 33) = W := ⟨_, rfl⟩
                rw [hw, hg] at hk
                rw [hw] at HB HQ HN HKn HM
                rw [hw, hg]
                have HKd := Lib.hid hk
                rw [hg] at hgq hgg
                have HGQ := Lib.hid hgq
                have HGG := Lib.hid hgg
                have HG8 := Lib.hid (Nat.le_of_lt hgq)
                clear hgq hgg
                clear hk hg hw
                have d0 := HKd.out.cell 0
                have fd := HKd.out.frozen 0
                simp only [List.getElem?_toArray, List.getElem?_cons_zero] at d0
                go_wp2_with fail
                refine (ref3_yes (s.extract (K + 1) s.size) w5 HTB.out (by have := HLB.out; omega) HE.out).mono ?_
                rintro e w6 ⟨D2, z2, y2, rfl, ⟨Ld, hd⟩, hb⟩
                have HM := Lib.hid hd
                clear hd d0 fd
                have HB := Lib.hid (HB.out.trans (hb.mono HB.out.size))
                have hlq := HQ.out.lt
                have HQ := Lib.hid (HQ.out.below hb hlq)
                have hlHKn := HKn.out.lt
                have hlHKd := HKd.out.lt
                have HN := Lib.hid (HN.out.below hb)
                have HKn := Lib.hid (HKn.out.below hb hlHKn)
                have HKd := Lib.hid (HKd.out.below hb hlHKd)
                clear hb hlq hlHKn hlHKd
                have d0 := HKd.out.cell 0
                have fd := HKd.out.frozen 0
                simp only [List.getElem?_toArray, List.getElem?_cons_zero] at d0
                have hgn : g6 < g8 := by first | exact HGG.out | omega
                go_upto_region 14 with (fail)
                have hdq := HQ.out.lt
                have HB := Lib.hid (HB.out.setCell (p := ⟨g8, 0, none⟩) HG8.out (.slice D2 z2 y2))
                have HN := Lib.hid (HN.out.setSi (u := .slice D2 z2 y2) d0)
                have HM := Lib.hid (HM.out.setSi (u := .slice D2 z2 y2) d0)
                have HKd := Lib.hid (HKd.out.set_ 0 (.slice D2 z2 y2))
                have HKn := Lib.hid (HKn.out.far (p := ⟨g8, 0, none⟩) (by show g6 ≠ g8; omega) (.slice D2 z2 y2))
                have HQ := Lib.hid (HQ.out.far (p := ⟨g8, 0, none⟩) (by show w.heap.size ≠ g8; have := HGQ.out; omega) (.slice D2 z2 y2))
                obtain ⟨w7, hw⟩ : ∃ W, w6.setCell ⟨g8, 0, none⟩ (.slice D2 z2 y2) = W := ⟨_, rfl⟩
                rw [hw] at HB HQ HN HM HKn HKd
                rw [hw]
                clear hw hdq d0 fd hgn
                have c0 := HQ.out.cell 0
                have c1 := HQ.out.cell 1
                have f0 := HQ.out.frozen 0
                have f1 := HQ.out.frozen 1
                simp only [List.getElem?_toArray, List.getElem?_cons_zero, List.getElem?_cons_succ] at c0 c1
                have n0 := HKn.out.cell 0
                have d0 := HKd.out.cell 0
                simp only [List.getElem?_toArray, List.getElem?_cons_zero] at n0 d0
                have hlz := len_zero HM.out
                rw [HDP.out] at hlz
                go_wp2_with fail
                refine (refGcd3_any (j := J) _ _ _ _ _ _ (DV 0 a) (DV 0 b) _ _ _ HN.out HM.out HNA.out HNB.out (by omega)).mono ?_
                rintro e w8 ⟨v, rfl, ⟨Lg, hg⟩, hb⟩
                obtain ⟨G1, x1, s1, rfl⟩ := hg.shape
                have HG := Lib.hid hg
                clear hg
                have HB := Lib.hid (HB.out.trans (hb.mono HB.out.size))
                have hlq := HQ.out.lt
                have HQ := Lib.hid (HQ.out.below hb hlq)
                have hlHKn := HKn.out.lt
                have hlHKd := HKd.out.lt
                have HN := Lib.hid (HN.out.below hb)
                have HKn := Lib.hid (HKn.out.below hb hlHKn)
                have HKd := Lib.hid (HKd.out.below hb hlHKd)
                have HM := Lib.hid (HM.out.below hb)
                clear hb hlq hlHKn hlHKd
                go_wp2_with fail
                refine (of_one w8).mono ?_
                rintro e w9 ⟨v, rfl, hv, hb⟩
                obtain ⟨O1, x2, s2, rfl⟩ := hv.shape
                have HO := Lib.hid hv
                clear hv
                have HB := Lib.hid (HB.out.trans (hb.mono HB.out.size))
                have hlq := HQ.out.lt
                have HQ := Lib.hid (HQ.out.below hb hlq)
                have hlHKn := HKn.out.lt
                have hlHKd := HKd.out.lt
                have HN := Lib.hid (HN.out.below hb)
                have HKn := Lib.hid (HKn.out.below hb hlHKn)
                have HKd := Lib.hid (HKd.out.below hb hlHKd)
                have HM := Lib.hid (HM.out.below hb)
                have HG := Lib.hid (HG.out.below hb)
                clear hb hlq hlHKn hlHKd
                go_wp2_with fail
                refine (cmp_num (j := J) (k := J) (.agg #[.slice G1 x1 s1]) (.agg #[.slice O1 x2 s2]) _ 1 _ _ w9 HG.out HO.out HGB.out HJ1.out (by omega) (by omega)).mono ?_
                rintro e w10 ⟨hen, hb⟩
                rw [HCZ.out] at hen
                subst hen
                clear HG HO
                have HB := Lib.hid (HB.out.trans (hb.mono HB.out.size))
                have hlq := HQ.out.lt
                have HQ := Lib.hid (HQ.out.below hb hlq)
                have hlHKn := HKn.out.lt
                have hlHKd := HKd.out.lt
                have HN := Lib.hid (HN.out.below hb)
                have HKn := Lib.hid (HKn.out.below hb hlHKn)
                have HKd := Lib.hid (HKd.out.below hb hlHKd)
                have HM := Lib.hid (HM.out.below hb)
                clear hb hlq hlHKn hlHKd
                have c0 := HQ.out.cell 0
                have c1 := HQ.out.cell 1
                have f0 := HQ.out.frozen 0
                have f1 := HQ.out.frozen 1
                simp only [List.getElem?_toArray, List.getElem?_cons_zero, List.getElem?_cons_succ] at c0 c1
                go_wp2_with fail
                have hp := put_Q HQ.out (.slice none 0 0) (.slice none 0 0)
                have k0 := HQ.out.cell 0
                have k1 := HQ.out.cell 1
                first
                  | exact bodyPost_ret (v := .tuple #[.agg #[.slice none 0 0, .slice none 0 0], .int .i64 3]) (by simp [results, Tryz.results7, go_sem, hp.cell 0, hp.cell 1]) rfl (Or.inr ⟨HNO.out, rfl, (HB.out.setCell (Nat.le_refl _) _).setCell (Nat.le_refl _) _⟩)
                  | exact bodyPost_ret (v := .tuple #[.agg #[.slice none 0 0, .slice none 0 0], .int .i64 3]) (by simp [results, Tryz.results7, go_sem, k0, k1]) rfl (Or.inr ⟨HNO.out, rfl, HB.out⟩)
      · have hlt2 : ¬ (K : Int) < (s.size : Int) := by omega
        cases hda : isDecB a with
        | false =>
          have HD := Lib.hid hda
          have HNO : Hid (fp l = none) := Lib.hid (by have := HFP.out; rw [if_neg hlt, hda] at this; simpa using this)
          clear hda
          go_wp2_with fail
          refine (ref3_no _ wr HTA.out (by have := HLA.out; omega) HD.out).mono ?_
          rintro e w2 ⟨E1, k1, m1, rfl, ⟨Ln, hn⟩, hb⟩
          have HN := Lib.hid hn
          clear hn
          have HB := Lib.hid (HB.out.trans (hb.mono HB.out.size))
          have hlq := HQ.out.lt
          have HQ := Lib.hid (HQ.out.below hb hlq)
          clear hb hlq
          go_upto_region 10 with (fail)
          have hk := Blk.new w2 33 #[.slice E1 k1 m1]
          have hb := b1 w2 (.cells #[.slice E1 k1 m1] 33)
          have HB := Lib.hid (HB.out.trans (hb.mono HB.out.size))
          have hlq := HQ.out.lt
          have HQ := Lib.hid (HQ.out.below hb hlq)
          have HN := Lib.hid (HN.out.below hb)
          clear hb hlq
          obtain ⟨g6, hg⟩ : ∃ g, w2.heap.size = g := ⟨_, rfl⟩
          obtain ⟨w3, hw⟩ : ∃ W, w2.alloc (.cells #[.slice E1 k1 m1] 33) = W := ⟨_, rfl⟩
          rw [hw, hg] at hk
          rw [hw] at HB HQ HN
          rw [hw, hg]
          have HKn := Lib.hid hk
          clear hk hg hw
          go_wp2_with fail
          refine (of_one w3).mono ?_
          rintro e w4 ⟨v, rfl, hv, hb⟩
          obtain ⟨D1, z1, y1, rfl⟩ := hv.shape
          have HM := Lib.hid hv
          clear hv
          have HB := Lib.hid (HB.out.trans (hb.mono HB.out.size))
          have hlq := HQ.out.lt
          have HQ := Lib.hid (HQ.out.below hb hlq)
          have hlHKn := HKn.out.lt
          have HN := Lib.hid (HN.out.below hb)
          have HKn := Lib.hid (HKn.out.below hb hlHKn)
          clear hb hlq hlHKn
          go_upto_region 11 with (fail)
          have hgq := HQ.out.lt
          have hgg := HKn.out.lt
          have hk := Blk.new w4 33 #[.slice D1 z1 y1]
          have hb := b1 w4 (.cells #[.slice D1 z1 y1] 33)
          have HB := Lib.hid (HB.out.trans (hb.mono HB.out.size))
          have hlq := HQ.out.lt
          have HQ := Lib.hid (HQ.out.below hb hlq)
          have hlHKn := HKn.out.lt
          have HN := Lib.hid (HN.out.below hb)
          have HKn := Lib.hid (HKn.out.below hb hlHKn)
          have HM := Lib.hid (HM.out.below hb)
          clear hb hlq hlHKn
          obtain ⟨g8, hg⟩ : ∃ g, w4.heap.size = g := ⟨_, rfl⟩
          obtain ⟨w5, hw⟩ : ∃ W, w4.alloc (.cells #[.slice D1 z1 y1] 33) = W := ⟨_, rfl⟩
          rw [hw, hg] at hk
          rw [hw] at HB HQ HN HKn HM
          rw [hw, hg]
          have HKd := Lib.hid hk
          rw [hg] at hgq hgg
          have HGQ := Lib.hid hgq
          have HGG := Lib.hid hgg
          have HG8 := Lib.hid (Nat.le_of_lt hgq)
          clear hgq hgg
          clear hk hg hw
          have c0 := HQ.out.cell 0
          have c1 := HQ.out.cell 1
          have f0 := HQ.out.frozen 0
          have f1 := HQ.out.frozen 1
          simp only [List.getElem?_toArray, List.getElem?_cons_zero, List.getElem?_cons_succ] at c0 c1
          go_wp2_with fail
          have hp := put_Q HQ.out (.slice none 0 0) (.slice none 0 0)
          have k0 := HQ.out.cell 0
          have k1 := HQ.out.cell 1
          first
            | exact bodyPost_ret (v := .tuple #[.agg #[.slice none 0 0, .slice none 0 0], .int .i64 3]) (by simp [results, Tryz.results7, go_sem, hp.cell 0, hp.cell 1]) rfl (Or.inr ⟨HNO.out, rfl, (HB.out.setCell (Nat.le_refl _) _).setCell (Nat.le_refl _) _⟩)
            | exact bodyPost_ret (v := .tuple #[.agg #[.slice none 0 0, .slice none 0 0], .int .i64 3]) (by simp [results, Tryz.results7, go_sem, k0, k1]) rfl (Or.inr ⟨HNO.out, rfl, HB.out⟩)
        | true =>
          have HD := Lib.hid hda
          obtain ⟨J, hJ⟩ : ∃ J : Nat, J = 200 := ⟨_, rfl⟩
          have HNA := Lib.hid (dec_small16 (j := J) hda (by have := HLA.out; omega))
          have HNB : Hid (1 < 65536 ^ J) := Lib.hid (Nat.one_lt_pow (by omega) (by omega))
          have HJ1 := HNB
          have HGB : Hid (Nat.gcd (DV 0 a) 1 < 65536 ^ J) := Lib.hid (by rw [Nat.gcd_one_right]; exact HNB.out)
          have HCZ : Hid (cmpI (Nat.gcd (DV 0 a) 1) 1 = 0) := Lib.hid (cmpI_eq (Nat.gcd_one_right _))
          have HDP : Hid (decide (1 = 0) = false) := Lib.hid (by decide)
          have HOK : Hid (fp l = some (DV 0 a, 1)) := Lib.hid (by have := HFP.out; rw [if_neg hlt, hda] at this; simpa using this)
          have HTX : Hid ((⟨(ftxt (DV 0 a, 1)).toArray⟩ : ByteArray) = s) := Lib.hid (by rw [HONE.out hlt hda]; exact HSL.out.symm)
          clear hda
          go_wp2_with fail
          refine (ref3_yes _ wr HTA.out (by have := HLA.out; omega) HD.out).mono ?_
          rintro e w2 ⟨E1, k1, m1, rfl, ⟨Ln, hn⟩, hb⟩
          have HN := Lib.hid hn
          clear hn
          have HB := Lib.hid (HB.out.trans (hb.mono HB.out.size))
          have hlq := HQ.out.lt
          have HQ := Lib.hid (HQ.out.below hb hlq)
          clear hb hlq
          go_upto_region 10 with (fail)
          have hk := Blk.new w2 33 #[.slice E1 k1 m1]
          have hb := b1 w2 (.cells #[.slice E1 k1 m1] 33)
          have HB := Lib.hid (HB.out.trans (hb.mono HB.out.size))
          have hlq := HQ.out.lt
          have HQ := Lib.hid (HQ.out.below hb hlq)
          have HN := Lib.hid (HN.out.below hb)
          clear hb hlq
          obtain ⟨g6, hg⟩ : ∃ g, w2.heap.size = g := ⟨_, rfl⟩
          obtain ⟨w3, hw⟩ : ∃ W, w2.alloc (.cells #[.slice E1 k1 m1] 33) = W := ⟨_, rfl⟩
          rw [hw, hg] at hk
          rw [hw] at HB HQ HN
          rw [hw, hg]
          have HKn := Lib.hid hk
          clear hk hg hw
          go_wp2_with fail
          refine (of_one w3).mono ?_
          rintro e w4 ⟨v, rfl, hv, hb⟩
          obtain ⟨D1, z1, y1, rfl⟩ := hv.shape
          have HM := Lib.hid hv
          clear hv
          have HB := Lib.hid (HB.out.trans (hb.mono HB.out.size))
          have hlq := HQ.out.lt
          have HQ := Lib.hid (HQ.out.below hb hlq)
          have hlHKn := HKn.out.lt
          have HN := Lib.hid (HN.out.below hb)
          have HKn := Lib.hid (HKn.out.below hb hlHKn)
          clear hb hlq hlHKn
          go_upto_region 11 with (fail)
          have hgq := HQ.out.lt
          have hgg := HKn.out.lt
          have hk := Blk.new w4 33 #[.slice D1 z1 y1]
          have hb := b1 w4 (.cells #[.slice D1 z1 y1] 33)
          have HB := Lib.hid (HB.out.trans (hb.mono HB.out.size))
          have hlq := HQ.out.lt
          have HQ := Lib.hid (HQ.out.below hb hlq)
          have hlHKn := HKn.out.lt
          have HN := Lib.hid (HN.out.below hb)
          have HKn := Lib.hid (HKn.out.below hb hlHKn)
          have HM := Lib.hid (HM.out.below hb)
          clear hb hlq hlHKn
          obtain ⟨g8, hg⟩ : ∃ g, w4.heap.size = g := ⟨_, rfl⟩
          obtain ⟨w5, hw⟩ : ∃ W, w4.alloc (.cells #[.slice D1 z1 y1] 33) = W := ⟨_, rfl⟩
          rw [hw, hg] at hk
          rw [hw] at HB HQ HN HKn HM
          rw [hw, hg]
          have HKd := Lib.hid hk
          rw [hg] at hgq hgg
          have HGQ := Lib.hid hgq
          have HGG := Lib.hid hgg
          have HG8 := Lib.hid (Nat.le_of_lt hgq)
          clear hgq hgg
          clear hk hg hw
          go_upto_region 14 with (fail)
          have c0 := HQ.out.cell 0
          have c1 := HQ.out.cell 1
          have f0 := HQ.out.frozen 0
          have f1 := HQ.out.frozen 1
          simp only [List.getElem?_toArray, List.getElem?_cons_zero, List.getElem?_cons_succ] at c0 c1
          have n0 := HKn.out.cell 0
          have d0 := HKd.out.cell 0
          simp only [List.getElem?_toArray, List.getElem?_cons_zero] at n0 d0
          have hlz := len_zero HM.out
          rw [HDP.out] at hlz
          go_wp2_with fail
          refine (refGcd3_any (j := J) _ _ _ _ _ _ (DV 0 a) (1) _ _ _ HN.out HM.out HNA.out HNB.out (by omega)).mono ?_
          rintro e w8 ⟨v, rfl, ⟨Lg, hg⟩, hb⟩
          obtain ⟨G1, x1, s1, rfl⟩ := hg.shape
          have HG := Lib.hid hg
          clear hg
          have HB := Lib.hid (HB.out.trans (hb.mono HB.out.size))
          have hlq := HQ.out.lt
          have HQ := Lib.hid (HQ.out.below hb hlq)
          have hlHKn := HKn.out.lt
          have hlHKd := HKd.out.lt
          have HN := Lib.hid (HN.out.below hb)
          have HKn := Lib.hid (HKn.out.below hb hlHKn)
          have HKd := Lib.hid (HKd.out.below hb hlHKd)
          have HM := Lib.hid (HM.out.below hb)
          clear hb hlq hlHKn hlHKd
          go_wp2_with fail
          refine (of_one w8).mono ?_
          rintro e w9 ⟨v, rfl, hv, hb⟩
          obtain ⟨O1, x2, s2, rfl⟩ := hv.shape
          have HO := Lib.hid hv
          clear hv
          have HB := Lib.hid (HB.out.trans (hb.mono HB.out.size))
          have hlq := HQ.out.lt
          have HQ := Lib.hid (HQ.out.below hb hlq)
          have hlHKn := HKn.out.lt
          have hlHKd := HKd.out.lt
          have HN := Lib.hid (HN.out.below hb)
          have HKn := Lib.hid (HKn.out.below hb hlHKn)
          have HKd := Lib.hid (HKd.out.below hb hlHKd)
          have HM := Lib.hid (HM.out.below hb)
          have HG := Lib.hid (HG.out.below hb)
          clear hb hlq hlHKn hlHKd
          go_wp2_with fail
          refine (cmp_num (j := J) (k := J) (.agg #[.slice G1 x1 s1]) (.agg #[.slice O1 x2 s2]) _ 1 _ _ w9 HG.out HO.out HGB.out HJ1.out (by omega) (by omega)).mono ?_
          rintro e w10 ⟨hen, hb⟩
          rw [HCZ.out] at hen
          subst hen
          clear HG HO
          have HB := Lib.hid (HB.out.trans (hb.mono HB.out.size))
          have hlq := HQ.out.lt
          have HQ := Lib.hid (HQ.out.below hb hlq)
          have hlHKn := HKn.out.lt
          have hlHKd := HKd.out.lt
          have HN := Lib.hid (HN.out.below hb)
          have HKn := Lib.hid (HKn.out.below hb hlHKn)
          have HKd := Lib.hid (HKd.out.below hb hlHKd)
          have HM := Lib.hid (HM.out.below hb)
          clear hb hlq hlHKn hlHKd
          have c0 := HQ.out.cell 0
          have c1 := HQ.out.cell 1
          have f0 := HQ.out.frozen 0
          have f1 := HQ.out.frozen 1
          simp only [List.getElem?_toArray, List.getElem?_cons_zero, List.getElem?_cons_succ] at c0 c1
          have n0 := HKn.out.cell 0
          have d0 := HKd.out.cell 0
          simp only [List.getElem?_toArray, List.getElem?_cons_zero] at n0 d0
          go_wp2_with fail
          refine (ref4Text_r (j := J) (q := (DV 0 a, 1)) w10 ⟨⟨_, HN.out⟩, ⟨_, HM.out⟩⟩ HNA.out HNB.out (by omega) (by omega)).mono ?_
          rintro e w11 ⟨hen, hb⟩
          rw [HTX.out] at hen
          subst hen
          have HB := Lib.hid (HB.out.trans (hb.mono HB.out.size))
          have hlq := HQ.out.lt
          have HQ := Lib.hid (HQ.out.below hb hlq)
          have hlHKn := HKn.out.lt
          have hlHKd := HKd.out.lt
          have HN := Lib.hid (HN.out.below hb)
          have HKn := Lib.hid (HKn.out.below hb hlHKn)
          have HKd := Lib.hid (HKd.out.below hb hlHKd)
          have HM := Lib.hid (HM.out.below hb)
          clear hb hlq hlHKn hlHKd
          have c0 := HQ.out.cell 0
          have c1 := HQ.out.cell 1
          have f0 := HQ.out.frozen 0
          have f1 := HQ.out.frozen 1
          simp only [List.getElem?_toArray, List.getElem?_cons_zero, List.getElem?_cons_succ] at c0 c1
          have n0 := HKn.out.cell 0
          have d0 := HKd.out.cell 0
          simp only [List.getElem?_toArray, List.getElem?_cons_zero] at n0 d0
          go_wp2_with fail
          have hp := put_Q HQ.out (.slice E1 k1 m1) (.slice D1 z1 y1)
          have c1s : (w11.setCell ⟨w.heap.size, 0, none⟩ (.slice E1 k1 m1)).cell? ⟨w.heap.size, 1, none⟩ = some (.slice none 0 0) := (World.cell?_setCell_other _ _ _ _ (by intro e; injection e; omega)).trans c1
          exact bodyPost_ret (v := .tuple #[.agg #[.slice E1 k1 m1, .slice D1 z1 y1], .int .i64 0]) (by simp [results, Tryz.results7, go_sem, hp.cell 0, hp.cell 1]) rfl (Or.inl ⟨_, _, _, _, _, _, _, HOK.out, rfl, ⟨⟨_, (HN.out.setSi c0).setSi c1s⟩, ⟨_, (HM.out.setSi c0).setSi c1s⟩⟩, (HB.out.setCell (Nat.le_refl _) _).setCell (Nat.le_refl _) _⟩)
end Go.Proofs.YtaifigkbblncpaaGreatDoor
