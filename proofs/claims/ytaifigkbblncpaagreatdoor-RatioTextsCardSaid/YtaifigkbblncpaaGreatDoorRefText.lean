/-
  The document's numbers in digits: Text.
-/
import Derived.Test.YtaifigkbblncpaaGreatDoorVars
import Derived.Test.YtaifigkbblncpaaGreatDoorDivN
import Derived.Test.YtaifigkbblncpaaGreatDoorText
import Derived.Test.YtaifigkbblncpaaGreatDoorMN
import Derived.Test.YtaifigkbblncpaaGreatDoorNums
import Derived.Deep.DeepCutAuto
namespace Go.Proofs.YtaifigkbblncpaaGreatDoor
open Go.RowKit
set_option maxRecDepth 100000

theorem num_len {w : World} {L m n c : Nat} {A : Option Addr} (h : Num w L (.agg #[.slice A n c]) m) : (n = 0 ∧ m = 0) ∨ (0 < n ∧ 0 < m) := by
  obtain ⟨A', xs, n', c', hv, hl, _, _, _, hcan, hV⟩ := h
  simp only [Value.agg.injEq, Array.mk.injEq, List.cons.injEq, Value.slice.injEq, and_true] at hv
  obtain ⟨rfl, rfl, rfl⟩ := hv
  rcases xs with _ | ⟨d, r⟩
  · exact .inl ⟨by simpa using hl.symm, by rw [← hV]; rfl⟩
  · refine .inr ⟨by rw [← hl]; simp, ?_⟩
    rcases Nat.eq_zero_or_pos m with h0 | h0
    · have : d :: r = [] := V_inj hcan Can.nil (by rw [hV, h0]; rfl)
      cases this
    · exact h0
/-- The digits of a number that is left, none where it is 0. -/
def leftD (m : Nat) : List UInt8 := if m = 0 then [] else Lib.decDigits m
theorem leftD_step {m : Nat} (h : 0 < m) : leftD m = leftD (m / 10) ++ [UInt8.ofNat (48 + m % 10)] := by
  unfold leftD
  rw [if_neg (by omega)]
  by_cases h1 : m < 10
  · rw [if_pos (by omega), Lib.decDigits_one h1, Nat.mod_eq_of_lt h1]; rfl
  · rw [if_neg (by omega), decDigits_step (by omega)]

/-- Between two rounds: what is left stands in block w.heap.size. -/
structure RTx (w : World) (m : Nat) (s : Value) (wr : World) : Prop where
  below : Below w.heap.size w wr
  blk : Blk wr w.heap.size 33 #[s]
  num : ∃ L, Num wr L (.agg #[s]) m
theorem RTx.step {w wr w' : World} {m : Nat} {s : Value} (h : RTx w m s wr) (hb : Below wr.heap.size wr w') : RTx w m s w' := ⟨h.below.trans (hb.mono h.below.size), h.blk.below hb h.blk.lt, let ⟨L, k⟩ := h.num; ⟨L, k.below hb⟩⟩

theorem RTx.put {w wr : World} {m m' L : Nat} {s s' : Value} (h : RTx w m s wr) (hn : Num wr L (.agg #[s']) m') (hL : w.heap.size < L) : RTx w m' s' (wr.setCell ⟨w.heap.size, 0, none⟩ s') :=
  ⟨h.below.setCell (by simp) _, by have := h.blk.set_ 0 s'; simpa using this, ⟨L, hn.old (by simpa using hL) _⟩⟩
theorem leftD_len {a j : Nat} (h : a < 65536 ^ j) : (leftD a).length ≤ 5 * j + 1 := by
  unfold leftD
  split
  · simp
  · refine decDigits_len (Nat.lt_of_lt_of_le h ?_)
    have h1 : (65536 : Nat) ^ j ≤ (10 ^ 5) ^ j := Nat.pow_le_pow_left (by decide) _
    rw [← Nat.pow_mul] at h1
    exact Nat.le_trans h1 (Nat.pow_le_pow_right (by omega) (by omega))

set_option maxHeartbeats 8000000 in
theorem refText_any {j : Nat} (s0 : Value) (a L : Nat) (w : World) (h : Num w L (.agg #[s0]) a) (ha : a < 65536 ^ j) (hj : j ≤ 4000) :
    Calls Tryz.prog 29 #[.agg #[s0]] w fun e w' => e = .returned (.string ⟨(Lib.decDigits a).toArray⟩) ∧ Below w.heap.size w w' := by
  obtain ⟨A0, n0, c0, hs⟩ := h.shape
  obtain rfl : s0 = .slice A0 n0 c0 := by simpa using hs
  have hlen0 := num_len h
  have HN0 := Lib.hid h
  have HA := Lib.hid ha
  have cx0 := (Blk.new w 33 #[.slice A0 n0 c0]).cell 0
  simp only [List.getElem?_toArray, List.getElem?_cons_zero] at cx0
  clear hs h ha
  rcases hlen0 with ⟨rfl, rfl⟩ | ⟨hn0, ha0⟩
  · go_enter Tryz.func29, Tryz.ntmps29
    go_wp2_with fail
    go_ret
    exact ⟨by rw [Lib.decDigits_one (by omega)]; rfl, b1 _ _⟩
  have hd0 : leftD a = Lib.decDigits a := by unfold leftD; rw [if_neg (by omega)]
  rw [← hd0]
  obtain ⟨D, hD⟩ : ∃ D, leftD a = D := ⟨_, rfl⟩
  rw [hD]
  have HD := Lib.hid hD
  have HDL : Hid (D.length ≤ 20001) := Lib.hid (by rw [← hD]; have := leftD_len HA.out; omega)
  have hm0 : RTx w a (.slice A0 n0 c0) (w.alloc (.cells #[.slice A0 n0 c0] 33)) := ⟨b1 _ _, Blk.new _ _ _, ⟨_, HN0.out.alloc _⟩⟩
  have HM0 := Lib.hid hm0
  have hz0 : ((n0 : Int) == 0) = false := by simp; omega
  clear hd0 hD hm0 HN0
  go_enter Tryz.func29, Tryz.ntmps29
  go_wp2_with fail
  go_loopw [3] (fun sv wr => ∃ (m : Nat) (A : Option Addr) (n c : Nat) (t : ByteArray), sv = .string t ∧ RTx w m (.slice A n c) wr ∧ m < 65536 ^ j ∧ leftD m ++ t.data.toList = D) (fun sv _ => D.length - strLen sv)
  case atStart => exact ⟨a, A0, n0, c0, ⟨#[]⟩, rfl, HM0.out, HA.out, by rw [HD.out]; simp⟩
  case round =>
    clear HM0 HD HA cx0
    obtain ⟨m, A, n, c, t, rfl, hm, hmj, ht⟩ := hrel
    have cx : wr.cell? ⟨w.heap.size, 0, none⟩ = some (.slice A n c) := hm.blk.cell 0
    have fx := hm.blk.frozen 0
    obtain ⟨L0, hn⟩ := hm.num
    have hnl := num_len hn
    have HN := Lib.hid hn
    clear hn
    have hwl := hm.blk.lt
    have HM := Lib.hid hm
    have HT := Lib.hid ht
    have HMJ := Lib.hid hmj
    clear hm ht hmj
    rcases hnl with ⟨rfl, rfl⟩ | ⟨hn0, hm0⟩
    · go_wp2_with fail
      go_ret
      have : t = ⟨D.toArray⟩ := ba_eq (by have := HT.out; simpa [leftD] using this)
      exact ⟨by rw [this]; rfl, HM.out.below⟩
    · go_upto_region 5 with (fail)
      go_cut [4, 5] (fun p4 p5 wx => ∃ (g4 g5 : Nat) (A4 : Option Addr) (n4 c4 : Nat) (A5 : Option Addr) (n5 c5 : Nat), p4 = .pointer (some ⟨g4, 0, none⟩) ∧ p5 = .pointer (some ⟨g5, 0, none⟩) ∧ wx.cell? ⟨g4, 0, none⟩ = some (.slice A4 n4 c4) ∧ wx.cell? ⟨g5, 0, none⟩ = some (.slice A5 n5 c5) ∧
        Below wr.heap.size wr wx ∧ (∃ L, w.heap.size < L ∧ Num wx L (.agg #[.slice A4 n4 c4]) (m / 10)) ∧ (∃ L, Num wx L (.agg #[.slice A5 n5 c5]) (m % 10)))
      case first =>
        go_region_held3 (fun u => u.cell? ⟨w.heap.size, 0, none⟩ = some (.slice A n c) ∧ Below wr.heap.size wr u)
          (first | exact ⟨cx, (Below.refl _ _).drew⟩ | assumption | exact held_one (b1 _ _) ⟨cx, (Below.refl _ _).drew⟩ | exact held_one (b2 _ _ _) ⟨cx, (Below.refl _ _).drew⟩ | exact held_one (b1 _ _) (by assumption) | exact held_one (b2 _ _ _) (by assumption) | exact held_set1 (by first | (simp; done) | omega | (simp; omega)) hwl (by assumption) | exact held_one (b1 _ _) (held_set1 (by first | (simp; done) | omega | (simp; omega)) hwl (by assumption)) | exact held_set1 (by first | (simp; done) | omega | (simp; omega)) hwl (held_set1 (by first | (simp; done) | omega | (simp; omega)) hwl (by assumption)))
          (first
            | (go_at_call 24; (with_reducible refine (of_ten _).mono ?_); rintro e u1 ⟨v1, rfl, hn1, hb1⟩; have N1 := Lib.hid hn1; clear hn1; have hz1 := hb1.size; (try simp at hz1); have hS1 := held_one hb1 (by assumption); (first | (have kk := va2d hb1; have lc1 := kk.1.lt; have lc2 := kk.2.lt; have kq := kk; obtain ⟨⟨kc1, kf1⟩, kc2, kf2⟩ := kq) | (have k := va1d hb1; have lc1 := k.lt; have kq := k; obtain ⟨kc1, kf1⟩ := kq) | skip))
            | (go_at_call 52; (with_reducible refine (div_num (.agg #[.slice A n c]) v1 m 10 _ _ _ (HN.out.below (by first | exact hS1.2 | exact (held_one (b1 _ _) hS1).2 | exact (held_one (b2 _ _ _) hS1).2)) (by first | exact N1.out | exact N1.out.alloc _ | exact (N1.out.alloc _).alloc _) HMJ.out (pow_word (by omega)) (by omega)).mono ?_); rintro e u2 ⟨v4, v5, rfl, hn4, hn5, hb2⟩; obtain ⟨A4, n4, c4, rfl⟩ := hn4.shape; obtain ⟨A5, n5, c5, rfl⟩ := hn5.shape; have N4 := Lib.hid hn4; have N5 := Lib.hid hn5; clear hn4 hn5; have hz2 := hb2.size; (try simp at hz2); have hS2 := held_one hb2 (by assumption); (first | (have mm := vc2 hb2 kk; have ld1 := mm.1.lt; have ld2 := mm.2.lt; obtain ⟨⟨kd1, kg1⟩, kd2, kg2⟩ := mm) | (have mm := va2 hb2; have ld1 := mm.1.lt; have ld2 := mm.2.lt; obtain ⟨⟨kd1, kg1⟩, kd2, kg2⟩ := mm) | (have mm := va1 hb2; have nn := vc1 hb2 k; have ld1 := mm.lt; have ld2 := nn.lt; obtain ⟨kd1, kg1⟩ := mm; obtain ⟨kd2, kg2⟩ := nn) | (have mm := va1 hb2; have ld1 := mm.lt; obtain ⟨kd1, kg1⟩ := mm) | (have mm := k.below hb2; have ld1 := mm.lt; obtain ⟨kd1, kg1⟩ := mm) | skip)))
        all_goals
          go_wp2_with fail
          go_meet
          refine ⟨_, _, A4, n4, c4, A5, n5, c5, rfl, rfl, ?_, ?_, snd_of (p := ⟨w.heap.size, 0, none⟩) (u := .slice A n c) (by assumption), ?_, ?_⟩
          · first | (go_simp; done) | rfl
          · first | (go_simp; done) | rfl
          · (first | exact mk4 ((N4.out.alloc _).alloc _) (by first | omega | (simp; omega)) | exact mk4 ((num_set3 N4.out ⟨kd1, kg1⟩).alloc _) (by first | omega | (simp; omega)) | exact mk4 ((num_set3 N4.out ⟨kd2, kg2⟩).alloc _) (by first | omega | (simp; omega)) | exact mk4 (num_set3 (num_set3 N4.out ⟨kd1, kg1⟩) (Var3.set ⟨kd2, kg2⟩ (by omega))) (by first | omega | (simp; omega)) | exact mk4 (num_set3 (num_set3 N4.out ⟨kd2, kg2⟩) (Var3.set ⟨kd1, kg1⟩ (by omega))) (by first | omega | (simp; omega)))
          · (first | exact ⟨_, (N5.out.alloc _).alloc _⟩ | exact ⟨_, (num_set3 N5.out ⟨kd1, kg1⟩).alloc _⟩ | exact ⟨_, (num_set3 N5.out ⟨kd2, kg2⟩).alloc _⟩ | exact ⟨_, num_set3 (num_set3 N5.out ⟨kd1, kg1⟩) (Var3.set ⟨kd2, kg2⟩ (by omega))⟩ | exact ⟨_, num_set3 (num_set3 N5.out ⟨kd2, kg2⟩) (Var3.set ⟨kd1, kg1⟩ (by omega))⟩)
      case rest =>
        obtain ⟨g4, g5, A4, n4, c4, A5, n5, c5, rfl, rfl, c4', c5', hb, ⟨L4, hL4, h4⟩, ⟨L5, h5⟩⟩ := hcut
        have H4 := Lib.hid h4
        have H5 := Lib.hid h5
        have hm1 := HM.out.step hb
        clear h4 h5 HM cx fx
        have hwc := hb.size
        go_wp2_with fail
        refine (word_num _ _ L5 _ H5.out).mono ?_
        rintro e w7 ⟨rfl, hb7⟩
        rw [fw_in (by omega)]
        have hm7 := hm1.step hb7
        have c47 : w7.cell? ⟨g4, 0, none⟩ = some (.slice A4 n4 c4) := (hb7.cell (World.block_lt_of_cell? _ _ c4')).trans c4'
        have H47 := Lib.hid (H4.out.below hb7)
        have hx7 := hm7.blk.cell 0
        have fx7 := hm7.blk.frozen 0
        have hlt7 := hm7.blk.lt
        have HM7 := Lib.hid hm7
        obtain ⟨d, hd⟩ : ∃ d, m % 10 = d := ⟨_, rfl⟩
        have hd10 : d < 10 := by omega
        rw [hd]
        have HD := Lib.hid hd
        clear hb7 hm7 hm1 c4' c5' H4 H5 hd
        have wd : IntKind.u8.wrap (d : Int) = (d : Int) := by rw [IntWalk.u8_in _ (by omega)]
        have wd2 : IntKind.u8.wrap (48 + (d : Int)) = 48 + (d : Int) := by rw [IntWalk.u8_in _ (by omega)]
        have hb8 := b1 w7 (.cells #[.int .u8 (48 + (d : Int))] 5)
        have hbt : (UInt8.ofNat (48 + d)).toNat = 48 + d := by simp; omega
        have hcv := run_convert_bytes_back (P := Tryz.prog) (w7.alloc (.cells #[.int .u8 (48 + (d : Int))] 5)) 88 9 5 ⟨w7.heap.size, 0, none⟩ 1 [UInt8.ofNat (48 + d)] Tryz.underlying88 Tryz.underlying5 Tryz.underlying9 (fun j hj => by
          obtain rfl : j = 0 := by simpa using hj
          have := (Blk.new w7 5 #[.int .u8 (48 + (d : Int))]).cell 0
          rw [List.getElem_singleton, hbt, show ((48 + d : Nat) : Int) = 48 + (d : Int) by omega]
          exact this)
        simp only [List.length_singleton] at hcv
        obtain ⟨B, hB⟩ : ∃ B : ByteArray, (⟨[UInt8.ofNat (48 + d)].toArray⟩ : ByteArray) = B := ⟨_, rfl⟩
        rw [hB] at hcv
        have hbl : B.data.toList = [UInt8.ofNat (48 + d)] := by rw [← hB]
        have hbs : B.size = 1 := by rw [← ba_len, hbl]; rfl
        have hBl : Hid (B.data.toList = [UInt8.ofNat (48 + d)]) := Lib.hid hbl
        have hstep : leftD m = leftD (m / 10) ++ [UInt8.ofNat (48 + d)] := by rw [← HD.out]; exact leftD_step hm0
        have htl : t.size + 1 ≤ D.length := by rw [← HT.out, List.length_append, hstep, List.length_append, ba_len, List.length_singleton]; omega
        have hdl := HDL.out
        have HST := Lib.hid hstep
        have c48 : (w7.alloc (.cells #[.int .u8 (48 + (d : Int))] 5)).cell? ⟨g4, 0, none⟩ = some (.slice A4 n4 c4) := (hb8.cell (World.block_lt_of_cell? _ _ c47)).trans c47
        have c18 := (HM7.out.step hb8).blk.cell 0
        have f18 := (HM7.out.step hb8).blk.frozen 0
        clear hB hbt c47 hx7 fx7 hbl hstep
        go_wp2_with fail
        have hsz : (B ++ t).size = 1 + t.size := by rw [ByteArray.size_append, hbs]
        refine ⟨⟨m / 10, A4, n4, c4, B ++ t, rfl, (HM7.out.put H47.out hL4).step (b1 _ _), Nat.lt_of_le_of_lt (Nat.div_le_self _ _) HMJ.out, ?_⟩, ?_⟩
        · rw [ByteArray.data_append, Array.toList_append, hBl.out, ← List.append_assoc, ← HST.out]
          exact HT.out
        · show D.length - (B ++ t).size < D.length - t.size
          omega
end Go.Proofs.YtaifigkbblncpaaGreatDoor
