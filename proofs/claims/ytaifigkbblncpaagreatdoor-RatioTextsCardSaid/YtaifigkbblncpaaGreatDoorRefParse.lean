/-
  The document's numbers in digits: Parse.
-/
import Derived.Test.YtaifigkbblncpaaGreatDoorNums
import Derived.Test.YtaifigkbblncpaaGreatDoorMO
import Derived.Test.YtaifigkbblncpaaGreatDoorMN
import Derived.Deep.DeepCutAuto
import Derived.Deep.RegionLaw
import Derived.Test.YtaifigkbblncpaaGreatDoorVars
namespace Go.Proofs.YtaifigkbblncpaaGreatDoor
open Go.RowKit
set_option maxRecDepth 100000

theorem DV_take_succ {l : List UInt8} {k : Nat} (hk : k < l.length) : DV 0 (l.take (k + 1)) = DV 0 (l.take k) * 10 + ((l.getD k 0).toNat - 48) := by
  have h : l.take (k + 1) = l.take k ++ [l.getD k 0] := by
    rw [List.getD_eq_getElem?_getD, List.getElem?_eq_getElem hk, Option.getD_some, ← List.take_append_getElem hk]
  rw [h, DV_app, DV_cons, DV_nil]

/-- What the document's Parse answers. -/
def RefParsed (w : World) (a : Nat) (er : Int) (e : Ending) (w' : World) : Prop :=
  ∃ s, e = .returned (.tuple #[.agg #[s], .int .i64 er]) ∧ (∃ L, Num w' L (.agg #[s]) a) ∧ Below w.heap.size w w'

theorem num_nil (w : World) (L : Nat) : Num w L (.agg #[.slice none 0 0]) 0 := ⟨none, [], 0, 0, rfl, rfl, Nat.le_refl _, Rd.nil _ _ _, fun h => absurd rfl h, Can.nil, rfl⟩

theorem refParse_many (s : ByteArray) (h : 4096 < s.size) (w : World) :
    Calls Tryz.prog 23 #[.string s] w (RefParsed w 0 5) := by
  go_enter Tryz.func23, Tryz.ntmps23
  go_wp2_with fail
  have c0 := (Blk.new w 33 #[.slice none 0 0]).cell 0
  exact bodyPost_ret (v := .tuple #[.agg #[.slice none 0 0], .int .i64 5]) (by simp [results, Tryz.results23, go_sem, c0]) rfl ⟨_, rfl, ⟨0, num_nil _ _⟩, b1 _ _⟩

/-- Between two rounds: the result's cell, and the number so far in its own. -/
structure RPm (w : World) (m : Nat) (s : Value) (wr : World) : Prop where
  below : Below w.heap.size w wr
  res : Blk wr w.heap.size 33 #[.slice none 0 0]
  cur : Blk wr (w.heap.size + 1) 33 #[s]
  num : ∃ L, w.heap.size + 1 < L ∧ Num wr L (.agg #[s]) m
theorem RPm.step {w wr w' : World} {m : Nat} {s : Value} (h : RPm w m s wr) (hb : Below wr.heap.size wr w') : RPm w m s w' :=
  ⟨h.below.trans (hb.mono h.below.size), h.res.below hb h.res.lt, h.cur.below hb h.cur.lt, let ⟨L, q, k⟩ := h.num; ⟨L, q, k.below hb⟩⟩
theorem RPm.put {w wr : World} {m m' L : Nat} {s s' : Value} (h : RPm w m s wr) (hn : Num wr L (.agg #[s']) m') (hL : w.heap.size + 1 < L) : RPm w m' s' (wr.setCell ⟨w.heap.size + 1, 0, none⟩ s') :=
  ⟨h.below.setCell (by simp) _, h.res.far (by simp) _, by have := h.cur.set_ 0 s'; simpa using this, ⟨L, hL, hn.old (by simpa using hL) _⟩⟩

theorem head_at : ∀ (l : List UInt8) (h : 0 < l.length), l[0] = l.headD 0
  | [], h => absurd h (by simp)
  | _ :: _, _ => rfl
theorem isDec_not {l : List UInt8} (h : l.all digB = false) : isDecB l = false := by unfold isDecB; rw [h, Bool.and_false]
theorem isDec_split {l : List UInt8} {n : Nat} (hl : l.length = n) (hp : 0 < n) (h : l.all digB = true) : isDecB l = decide (¬ ((l.headD 0).toNat = 48 ∧ 1 < n)) := by
  unfold isDecB
  rw [h, Bool.and_true]
  rcases l with _ | ⟨a, r⟩
  · simp at hl; omega
  · have h1 : (r.length + 1 != 1) = decide (1 < n) := by
      simp only [List.length_cons] at hl
      subst hl
      rcases r with _ | ⟨b, r⟩ <;> simp
    simp only [List.isEmpty_cons, Bool.not_false, Bool.true_and, List.length_cons, List.headD_cons, h1]
    by_cases h2 : a.toNat = 48 <;> by_cases h3 : 1 < n <;> simp [h2, h3]
theorem ref_small {l : List UInt8} {k : Nat} (h : ∀ j, j < k → digB (l.getD j 0) = true) {K : Nat} (hk : k ≤ l.length) (hk2 : k ≤ K) : DV 0 (l.take k) < 65536 ^ K := by
  have hl : (l.take k).length = k := by rw [List.length_take]; omega
  have hall : (l.take k).all digB = true := all_getD.2 fun j hj => by
    rw [hl] at hj
    have := h j hj
    rw [List.getD_eq_getElem?_getD, List.getElem?_take_of_lt hj, ← List.getD_eq_getElem?_getD]
    exact this
  have h2 := DV_lt _ hall
  rw [hl] at h2
  have h3 : (10 : Nat) ^ k ≤ 10 ^ K := Nat.pow_le_pow_right (by omega) hk2
  have h4 : (10 : Nat) ^ K ≤ 65536 ^ K := Nat.pow_le_pow_left (by omega) _
  exact Nat.lt_of_lt_of_le h2 (Nat.le_trans h3 h4)
theorem ref_fault {w wr : World} {m : Nat} {s : Value} {l : List UInt8} {ts : Array Value} (h : RPm w m s wr) (hd : isDecB l = false)
    (ht : ts[2]? = some (.pointer (some ⟨w.heap.size, 0, none⟩)) := by rfl) (he : ts[3]? = some (.int .i64 3) := by rfl) :
    bodyPost Tryz.prog Tryz.f23 (fun e w' => isDecB l = true ∧ RefParsed w (DV 0 l) 0 e w' ∨ isDecB l = false ∧ RefParsed w 0 3 e w') .ret { tmps := ts, defers := [] } (wr.setCell ⟨w.heap.size, 0, none⟩ (.slice none 0 0)) := by
  have c : (wr.setCell ⟨w.heap.size, 0, none⟩ (.slice none 0 0)).cell? ⟨w.heap.size, 0, none⟩ = some (.slice none 0 0) := by have := (h.res.set_ 0 (.slice none 0 0)).cell 0; simpa using this
  exact bodyPost_ret (v := .tuple #[.agg #[.slice none 0 0], .int .i64 3]) (by simp [results, Tryz.results23, go_sem, c, ht, he]) rfl (.inr ⟨hd, _, rfl, ⟨0, num_nil _ _⟩, h.below.setCell (by simp) _⟩)
theorem ref_fine {w wr : World} {A : Option Addr} {n c L0 : Nat} {l : List UInt8} {ts : Array Value} (h : RPm w (DV 0 l) (.slice A n c) wr) (hL : w.heap.size + 1 < L0) (hn : Num wr L0 (.agg #[.slice A n c]) (DV 0 l)) (hd : isDecB l = true)
    (ht : ts[2]? = some (.pointer (some ⟨w.heap.size, 0, none⟩)) := by rfl) (he : ts[3]? = some (.int .i64 0) := by rfl) :
    bodyPost Tryz.prog Tryz.f23 (fun e w' => isDecB l = true ∧ RefParsed w (DV 0 l) 0 e w' ∨ isDecB l = false ∧ RefParsed w 0 3 e w') .ret { tmps := ts, defers := [] } (wr.setCell ⟨w.heap.size, 0, none⟩ (.slice A n c)) := by
  have cc : (wr.setCell ⟨w.heap.size, 0, none⟩ (.slice A n c)).cell? ⟨w.heap.size, 0, none⟩ = some (.slice A n c) := by have := (h.res.set_ 0 (.slice A n c)).cell 0; simpa using this
  exact bodyPost_ret (v := .tuple #[.agg #[.slice A n c], .int .i64 0]) (by simp [results, Tryz.results23, go_sem, cc, ht, he]) rfl (.inl ⟨hd, _, rfl, ⟨_, hn.old (by simp; omega) _⟩, h.below.setCell (by simp) _⟩)

set_option maxHeartbeats 8000000 in
theorem refParse_any (s : ByteArray) (h : s.size ≤ 4096) (w : World) :
    Calls Tryz.prog 23 #[.string s] w fun e w' => (isDecB s.data.toList = true ∧ RefParsed w (DV 0 s.data.toList) 0 e w') ∨ (isDecB s.data.toList = false ∧ RefParsed w 0 3 e w') := by
  have hlen := ba_len s
  obtain ⟨l, hl⟩ : ∃ l, s.data.toList = l := ⟨_, rfl⟩
  rw [hl] at hlen
  rw [hl]
  have HL := Lib.hid hl
  have HLEN := Lib.hid hlen
  clear hl hlen
  go_enter Tryz.func23, Tryz.ntmps23
  go_wp2_with fail
  have hm0 : RPm w 0 (.slice none 0 0) ((w.alloc (.cells #[.slice none 0 0] 33)).alloc (.cells #[.slice none 0 0] 33)) :=
    ⟨b2 _ _ _, (Blk.new _ _ _).alloc _, by have := Blk.new (w.alloc (.cells #[.slice none 0 0] 33)) 33 #[.slice none 0 0]; simpa using this, ⟨w.heap.size + 2, by omega, num_nil _ _⟩⟩
  have HM0 := Lib.hid hm0
  clear hm0
  go_loopw [5] (fun iv wr => ∃ (k : Nat) (A : Option Addr) (n c : Nat), iv = .int .i64 (k : Int) ∧ k ≤ s.size ∧ (∀ j, j < k → digB (l.getD j 0) = true) ∧ RPm w (DV 0 (l.take k)) (.slice A n c) wr) (fun iv _ => s.size - (intOf iv).toNat)
  case atStart => exact ⟨0, none, 0, 0, rfl, by omega, fun j hj => by omega, HM0.out⟩
  case round =>
    clear HM0
    obtain ⟨k, A, n, c, rfl, hk, hall, hm⟩ := hrel
    have cc : wr.cell? ⟨w.heap.size + 1, 0, none⟩ = some (.slice A n c) := hm.cur.cell 0
    have fc := hm.cur.frozen 0
    have cr : wr.cell? ⟨w.heap.size, 0, none⟩ = some (.slice none 0 0) := hm.res.cell 0
    have fr := hm.res.frozen 0
    have hlt := hm.cur.lt
    obtain ⟨L0, hL0, hn⟩ := hm.num
    have HNC := Lib.hid hn
    have HM := Lib.hid hm
    have HA := Lib.hid hall
    clear hn hm hall
    by_cases hkn : k < s.size
    · obtain ⟨x, hx⟩ : ∃ x, (l.getD k 0).toNat = x := ⟨_, rfl⟩
      have hxs : (s[k]'hkn).toNat = x := by
        have h1 : s.data.toList[k]'(by rw [HL.out, HLEN.out]; exact hkn) = s[k]'hkn := rfl
        rw [← h1, ← hx]
        simp only [HL.out]
        rw [List.getD_eq_getElem?_getD, List.getElem?_eq_getElem (by rw [HLEN.out]; exact hkn), Option.getD_some]
      have hxi : ((s[k]'hkn).toNat : Int) = (x : Int) := by rw [hxs]
      have HXI : Hid (digB (l.getD k 0) = (decide (48 ≤ x) && decide (x ≤ 57))) := Lib.hid (by rw [← hx]; rfl)
      have HX := Lib.hid hx
      clear hx hxs
      by_cases hx1 : x < 48
      · go_wp2_with fail
        exact ref_fault HM.out (by rw [isDec_not (not_all HLEN.out hkn (by rw [HXI.out, decide_eq_false (by omega)]; rfl))])
      by_cases hx2 : 57 < x
      · go_wp2_with fail
        exact ref_fault HM.out (by rw [isDec_not (not_all HLEN.out hkn (by rw [HXI.out, decide_eq_false (show ¬ x ≤ 57 by omega), Bool.and_false]))])
      have w8 : IntKind.u8.wrap ((x : Int) - 48) = (x : Int) - 48 := IntWalk.u8_in _ (by omega)
      have w64 : IntKind.u64.wrap ((x : Int) - 48) = (x : Int) - 48 := IntWalk.u64_in _ (by omega)
      have hofd : ∀ wz, Calls Tryz.prog 24 #[.int .u64 ((x : Int) - 48)] wz (RetNum wz (x - 48)) := fun wz => by
        have := of_any (x - 48) wz (by omega)
        rwa [show ((x - 48 : Nat) : Int) = (x : Int) - 48 by omega] at this
      have hdg : digB (l.getD k 0) = true := by rw [HXI.out, decide_eq_true (by omega), decide_eq_true (by omega)]; rfl
      have HDV : Hid (DV 0 (l.take (k + 1)) = DV 0 (l.take k) * 10 + (x - 48)) := Lib.hid (by rw [DV_take_succ (by rw [HLEN.out]; exact hkn), HX.out])
      obtain ⟨K, hK1, hK2⟩ : ∃ K, 4096 ≤ K ∧ K ≤ 4096 := ⟨4096, by omega, by omega⟩
      have HBD : Hid (DV 0 (l.take k) < 65536 ^ K) := Lib.hid (ref_small HA.out (by rw [HLEN.out]; omega) (by omega))
      have HBE : Hid (DV 0 (l.take k) * 10 < 65536 ^ (K + 1)) := Lib.hid (by have := HBD.out; rw [Nat.pow_succ]; omega)
      obtain ⟨V0, hV0⟩ : ∃ V0, DV 0 (l.take k) = V0 := ⟨_, rfl⟩
      rw [hV0] at HDV HBD HBE HNC HM
      clear hV0
      go_wp2_with fail
      go_region_law (first
        | (go_simp; go_at_call 24; (with_reducible refine (of_ten _).mono ?_); rintro e u1 ⟨v1, rfl, hn1, hq⟩; (first | have M := Lib.hid (M.out.step hq) | have M := Lib.hid (HM.out.step (bel_of_drew hq))); (first | have NC := Lib.hid (NC.out.below hq) | have NC := Lib.hid (HNC.out.below (bel_of_drew hq))); (try have N2 := Lib.hid (N2.out.below hq)); have cM : u1.cell? ⟨w.heap.size + 1, 0, none⟩ = some (.slice A n c) := M.out.cur.cell 0; have fM := M.out.cur.frozen 0; have N1 := Lib.hid hn1; clear hn1 hq)
        | (go_simp; go_at_call 24; (with_reducible refine (hofd _).mono ?_); rintro e u2 ⟨v2, rfl, hn2, hq⟩; (first | have M := Lib.hid (M.out.step hq) | have M := Lib.hid (HM.out.step (bel_of_drew hq))); (first | have NC := Lib.hid (NC.out.below hq) | have NC := Lib.hid (HNC.out.below (bel_of_drew hq))); (try have N1 := Lib.hid (N1.out.below hq)); (try have N3 := Lib.hid (N3.out.below hq)); have cM : u2.cell? ⟨w.heap.size + 1, 0, none⟩ = some (.slice A n c) := M.out.cur.cell 0; have fM := M.out.cur.frozen 0; have N2 := Lib.hid hn2; clear hn2 hq)
        | (go_simp; go_at_call 50; (with_reducible refine (mul_num (.agg #[.slice A n c]) v1 V0 10 _ _ _ NC.out N1.out HBD.out (pow_word (by omega))).mono ?_); rintro e u3 ⟨v3, rfl, hn3, hq⟩; have M := Lib.hid (M.out.step hq); have NC := Lib.hid (NC.out.below hq); (try have N2 := Lib.hid (N2.out.below hq)); have cM : u3.cell? ⟨w.heap.size + 1, 0, none⟩ = some (.slice A n c) := M.out.cur.cell 0; have fM := M.out.cur.frozen 0; have N3 := Lib.hid hn3; clear hn3 hq)
        | (go_simp; go_at_call 49; (with_reducible refine (add_num v3 v2 (V0 * 10) (x - 48) _ _ _ N3.out N2.out HBE.out (pow_word (by omega))).mono ?_); rintro e u4 ⟨v4, rfl, hn4, hq⟩; obtain ⟨A4, n4, c4, rfl⟩ := hn4.shape; have hz4 := M.out.cur.lt; have M := Lib.hid (M.out.step hq); have cM : u4.cell? ⟨w.heap.size + 1, 0, none⟩ = some (.slice A n c) := M.out.cur.cell 0; have fM := M.out.cur.frozen 0; have N4 := Lib.hid hn4; clear hn4 hq))
      all_goals
        have HM6 := Lib.hid (M.out.put N4.out hz4)
        clear cM fM M N4 hz4
        go_wp2_with fail
        go_roundw
        case rel => exact ⟨k + 1, A4, n4, c4, by go_num, by omega, fun j hj => by
          rcases Nat.lt_or_ge j k with h | h
          · exact HA.out j h
          · obtain rfl : j = k := by omega
            exact hdg, by rw [HDV.out]; exact HM6.out⟩
        case measure => simp [intOf]; omega
    · obtain rfl : k = s.size := by omega
      rw [List.take_of_length_le (Nat.le_of_eq HLEN.out)] at HNC HM
      have hL : l.all digB = true := all_getD.2 (fun j hj => HA.out j (by have := HLEN.out; omega))
      have HL2 := Lib.hid hL
      clear hL
      by_cases e0 : s = ByteArray.empty
      · go_wp2_with fail
        exact ref_fault HM.out (by
          have : l = [] := by rw [← HL.out, e0]; rfl
          rw [this]; rfl)
      · have hpos : 0 < s.size := by
          rcases Nat.eq_zero_or_pos s.size with h0 | h0
          · exact absurd (ByteArray.size_eq_zero_iff.1 h0) e0
          · exact h0
        have h0 : (s[0]'hpos) = l.headD 0 := by
          have h1 : s.data.toList[0]'(by rw [HL.out, HLEN.out]; exact hpos) = s[0]'hpos := rfl
          rw [← h1]
          simp only [HL.out]
          exact head_at l _
        have HD := Lib.hid (isDec_split HLEN.out hpos HL2.out)
        by_cases e1 : 1 < s.size
        · by_cases e2 : (l.headD 0).toNat = 48
          · have e2i : ((s[0]'hpos).toNat : Int) = 48 := by rw [h0, e2]; rfl
            clear h0
            go_wp2_with fail
            exact ref_fault HM.out (by rw [HD.out, e2, decide_eq_false (by omega)])
          · have e2i : ¬ ((s[0]'hpos).toNat : Int) = 48 := by rw [h0]; omega
            have e2b : (((s[0]'hpos).toNat : Int) == 48) = false := beq_eq_false_iff_ne.2 e2i
            have hz0 : ((s.size : Int) == 0) = false := beq_eq_false_iff_ne.2 (by omega)
            clear h0
            go_wp2_with fail
            exact ref_fine HM.out hL0 HNC.out (by rw [HD.out, decide_eq_true (by omega)])
        · go_wp2_with fail
          exact ref_fine HM.out hL0 HNC.out (by rw [HD.out, decide_eq_true (by omega)])
end Go.Proofs.YtaifigkbblncpaaGreatDoor
