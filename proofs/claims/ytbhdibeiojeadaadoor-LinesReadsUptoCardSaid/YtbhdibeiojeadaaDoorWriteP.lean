/-
  Lines: Write: the program's.
-/
import Derived.Test.YtbhdibeiojeadaaDoorBuildP
import Derived.Test.YtbhdibeiojeadaaDoorJoinP
import Derived.Test.YtbhdibeiojeadaaDoorL6F
namespace Go.Proofs.YtbhdibeiojeadaaDoor
open Go.RowKit
set_option maxRecDepth 100000

/-- A builder at block b that holds the text s. -/
def Bld (B b : Nat) (s : ByteArray) (w : World) : Prop := Lib.IsBuilder 62 5 B b (Lib.byteCells s.data.toList) w
theorem BuilderAt_below {T e : TypeId} {B b : Nat} {p : Value} {bs : List Value} {w w' : World} (h : Lib.BuilderAt T e B b p bs w) (hb : Below w.heap.size w w') : Lib.BuilderAt T e B b p bs w' := by
  obtain ⟨h1, v, h2, h3, h4⟩ := h
  exact ⟨h1, v, (hb.block b (Array.getElem?_eq_some_iff.1 h2).1).trans h2, own_last h3 hb, h4⟩
theorem Bld.below {B b : Nat} {s : ByteArray} {w w' : World} (h : Bld B b s w) (hb : Below w.heap.size w w') : Bld B b s w' := by
  rcases h with h | h
  · exact .inl (BuilderAt_below h hb)
  · exact .inr (BuilderAt_below h hb)
theorem Bld.new (w : World) : Bld w.heap.size w.heap.size ⟨#[]⟩ (w.alloc (.cells #[.pointer none, .slice none 0 0] 62)) :=
  .inl ⟨Nat.le_refl _, .slice none 0 0, Blk.new w _ _, World.ownsRow_nil _ _ _ _, by intro h; cases h⟩
theorem Bld.write {B b : Nat} {s : ByteArray} {w : World} (h : Bld B b s w) (t : ByteArray) (hlen : s.size + t.size ≤ 140737488355328) (hBw : B ≤ w.heap.size) :
    Calls Tryd.prog 31 #[.pointer (some ⟨b, 0, none⟩), .string t] w fun e w' => e = .returned (.tuple #[.int .i64 t.size, .nilIface]) ∧ Bld B b (s ++ t) w' ∧ Below B w w' := by
  refine (bws_any B b _ t w h (by rw [Lib.byteCells_length, ba_len]; exact hlen) hBw).mono ?_
  rintro e w' ⟨rfl, hb, hw⟩
  refine ⟨rfl, .inr ?_, hw⟩
  rw [app_bytes, Lib.byteCells_append, ← Lib.strCells_eq t]
  exact hb
theorem Bld.len {B b : Nat} {s : ByteArray} {w : World} (h : Bld B b s w) :
    Calls Tryd.prog 32 #[.pointer (some ⟨b, 0, none⟩)] w fun e w' => e = .returned (.int .i64 s.size) ∧ w' = w := by
  refine (Tryd.Builder_Len B b _ w h).mono ?_
  rintro e w' ⟨rfl, rfl⟩
  rw [Lib.byteCells_length, ba_len]
  exact ⟨rfl, rfl⟩
theorem Bld.str {B b : Nat} {s : ByteArray} {w : World} (h : Bld B b s w) (hBw : B ≤ w.heap.size) :
    Calls Tryd.prog 33 #[.pointer (some ⟨b, 0, none⟩)] w fun e w' => e = .returned (.string s) ∧ Below B w w' := by
  refine (Tryd.Builder_String_any B b _ w h hBw).mono ?_
  rintro e w' ⟨rfl, hb⟩
  exact ⟨rfl, hb⟩

set_option maxHeartbeats 8000000 in
theorem pWrite_any (A1 : Option Addr) (L : List (List ByteArray)) (n1 c1 : Nat) (w : World) (hl1 : L.length = n1) (hr1 : Lns w A1 L) (hn : n1 ≤ 4611686018427387904) (hc1 : n1 ≤ c1) (hm1 : ∀ k, (L.getD k []).length ≤ 140737488355328)
    (hw1 : ∀ k j, ((L.getD k []).getD j ⟨#[]⟩).size ≤ 4611686018427387904) (hsz : (textTo L n1).size ≤ 140737488355328) :
    Calls Tryd.prog 19 #[.slice A1 n1 c1] w fun e w' => e = .returned (.tuple #[.string (writeT L), .int .i64 (writeE L)]) ∧ Below w.heap.size w w' := by
  have HL1 := Lib.hid hl1
  have HR1 := Lib.hid hr1
  have HM := Lib.hid hm1
  have HW := Lib.hid hw1
  have HSZ := Lib.hid hsz
  have HN0 := Lib.hid (Bld.new w)
  clear hl1 hr1 hm1 hw1 hsz
  go_enter Tryd.func19, Tryd.ntmps19
  go_wp2_with fail
  go_loopw [9] (fun iv wr => ∃ k : Nat, iv = .int .i64 (k : Int) ∧ k ≤ n1 ∧ Hid (∀ j, j < k → lineB (L.getD j []) = true) ∧ Hid (Bld w.heap.size w.heap.size (textTo L k) wr) ∧ Hid (Below w.heap.size w wr)) (fun iv _ => n1 - (intOf iv).toNat)
  case atStart => exact ⟨0, rfl, by omega, Lib.hid (fun j hj => by omega), HN0, Lib.hid (b1' w _)⟩
  case round =>
    obtain ⟨k, rfl, hk, HALL, HBL, HBW⟩ := hrel
    by_cases hkn : k < n1
    · obtain ⟨b1, o1, D1, d1, rfl, _, q1, hc3, hx⟩ := (HR1.out.below HBW.out).at_ (k := k) (by rw [HL1.out]; exact hkn)
      obtain ⟨ss, hss⟩ : ∃ ss, L.getD k [] = ss := ⟨_, rfl⟩
      have hm := HM.out k
      have hww := HW.out k
      have htm := textTo_mono L k
      have hle := Nat.le_trans (textTo_le L (show k + 1 ≤ n1 by omega)) HSZ.out
      rw [hss] at q1 hc3 hx hm hww htm
      obtain ⟨n2, hn2⟩ : ∃ n2, ss.length = n2 := ⟨_, rfl⟩
      rw [hn2] at q1 hc3 hm
      obtain ⟨u, hu⟩ : ∃ u, textTo L k = u := ⟨_, rfl⟩
      obtain ⟨t, ht⟩ : ∃ t, lineT ss = t := ⟨_, rfl⟩
      have HS := Lib.hid hss
      have HU : Hid (textTo L (k + 1) = u ++ t ++ ⟨#[10]⟩) := Lib.hid (by simp only [textTo]; rw [hss, ht, hu])
      have hbl := HBL.out
      rw [hu] at hbl htm
      rw [ht] at htm
      have hil := isLine_any D1 ss n2 d1 wr hn2 hx (by omega) hc3 hww
      have hjo := pJoin_any D1 ss n2 d1 wr hn2 hx hc3 hm (by rw [ht]; omega)
      rw [ht] at hjo
      obtain ⟨z, hz⟩ : ∃ z, lineB ss = z := ⟨_, rfl⟩
      rw [hz] at hil
      have HZ := Lib.hid hz
      have HIL := Lib.hid hil
      have HJO := Lib.hid hjo
      have HB := Lib.hid hbl
      have hi0 : (0 : Int) ≤ (k : Int) := by omega
      have hi1 : (k : Int) < (n1 : Int) := by omega
      have hsz1 : u.size + t.size + 1 ≤ 140737488355328 := by omega
      clear hss hn2 hx hww htm hle hu ht hbl hil hjo hz hm
      go_wp2_with fail
      refine HIL.out.mono ?_
      rintro e w2 ⟨rfl, rfl⟩
      cases z with
      | false =>
        have HBD : Hid (L.all lineB = false) := Lib.hid (lines_no (k := k) (by rw [HL1.out]; exact hkn) (by rw [HS.out]; exact HZ.out))
        go_wp2_with fail
        go_ret2
        exact ⟨by rw [(write_bad HBD.out).1, (write_bad HBD.out).2]; rfl, HBW.out⟩
      | true =>
        go_wp2_with fail
        refine HJO.out.mono ?_
        rintro e w3 ⟨rfl, hb3⟩
        have hbb : Bld w.heap.size w.heap.size u w3 := HB.out.below hb3
        have hbw3 : Below w.heap.size w w3 := HBW.out.trans (hb3.mono HBW.out.size)
        have hwr := hbb.write t (by omega) hbw3.size
        have HBW3 := Lib.hid hbw3
        clear hbb hb3 hbw3 HJO HIL
        go_wp2_with fail
        refine hwr.mono ?_
        rintro e w4 ⟨rfl, hb4, hk4⟩
        have hbw4 : Below w.heap.size w w4 := HBW3.out.trans hk4
        have hwr := hb4.write ⟨#[10]⟩ (by rw [ByteArray.size_append]; exact hsz1) hbw4.size
        have HBW4 := Lib.hid hbw4
        clear hb4 hk4 hbw4
        go_wp2_with fail
        refine hwr.mono ?_
        rintro e w5 ⟨rfl, hb5, hk5⟩
        have HBW5 := Lib.hid (HBW4.out.trans hk5)
        have HB5 := Lib.hid hb5
        clear hb5 hk5 hwr
        go_wp2_with fail
        go_roundw
        case rel => exact ⟨k + 1, by go_num, by omega, Lib.hid (fun j hj => by
          rcases Nat.lt_or_ge j k with h | h
          · exact HALL.out j h
          · obtain rfl : j = k := by omega
            rw [HS.out]; exact HZ.out), Lib.hid (by rw [HU.out]; exact HB5.out), HBW5⟩
        case measure => simp [intOf]; omega
    · obtain rfl : k = n1 := by omega
      have hall : L.all lineB = true := lines_yes (fun j hj => HALL.out j (by rw [HL1.out] at hj; exact hj))
      obtain ⟨u, hu⟩ : ∃ u, textTo L k = u := ⟨_, rfl⟩
      have hE : writeE L = if 65536 < u.size then 5 else 0 := by unfold writeE; rw [hall, HL1.out, hu]; rfl
      have hT : writeT L = if writeE L = 0 then u else ⟨#[]⟩ := by unfold writeT; rw [HL1.out, hu]
      have hbl := HBL.out
      rw [hu] at hbl
      have hln := hbl.len
      have hst := hbl.str HBW.out.size
      by_cases hbig : 65536 < u.size
      · rw [if_pos hbig] at hE
        rw [hE, if_neg (by decide)] at hT
        have HE := Lib.hid hE
        have HTX := Lib.hid hT
        have hbi : (65536 : Int) < (u.size : Int) := by omega
        clear hE hT hu hall hbl
        go_wp2_with fail
        refine hln.mono ?_
        rintro e w2 ⟨rfl, rfl⟩
        go_wp2_with fail
        go_ret2
        exact ⟨by rw [HE.out, HTX.out]; rfl, HBW.out⟩
      · rw [if_neg hbig] at hE
        rw [hE, if_pos rfl] at hT
        have HE := Lib.hid hE
        have HTX := Lib.hid hT
        have hbi : ¬ (65536 : Int) < (u.size : Int) := by omega
        clear hE hT hu hall hbl
        go_wp2_with fail
        refine hln.mono ?_
        rintro e w2 ⟨rfl, rfl⟩
        go_wp2_with fail
        refine hst.mono ?_
        rintro e w3 ⟨rfl, hb3⟩
        go_wp2_with fail
        go_ret2
        exact ⟨by rw [HE.out, HTX.out]; rfl, HBW.out.trans hb3⟩
end Go.Proofs.YtbhdibeiojeadaaDoor
