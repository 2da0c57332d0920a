/-
  Numbers in digits of 32 bits: Parse.
-/
import Derived.Test.YtebnlfhiihlkdaaDoorDec
import Derived.Test.YtebnlfhiihlkdaaDoorGroup
import Derived.Test.YtebnlfhiihlkdaaDoorShelf
namespace Go.Proofs.YtebnlfhiihlkdaaDoor
open Go.RowKit
set_option maxRecDepth 100000

/-- What a row of decimal digits spells, behind the number acc. -/
def DV (acc : Nat) (l : List UInt8) : Nat := l.foldl (fun v c => v * 10 + (c.toNat - 48)) acc
theorem DV_nil (acc : Nat) : DV acc [] = acc := rfl
theorem DV_cons (acc : Nat) (c : UInt8) (r : List UInt8) : DV acc (c :: r) = DV (acc * 10 + (c.toNat - 48)) r := by unfold DV; exact List.foldl_cons ..
/-- A string's length. -/
def strLen : Value → Nat
  | .string t => t.size
  | _ => 0
theorem DV_acc (acc : Nat) (l : List UInt8) : DV acc l = acc * 10 ^ l.length + DV 0 l := by
  induction l generalizing acc with
  | nil => simp [DV_nil]
  | cons c r ih =>
    rw [DV_cons, ih, DV_cons, ih (0 * 10 + (c.toNat - 48)), List.length_cons, Nat.pow_succ]
    grind
theorem DV_app (acc : Nat) (l r : List UInt8) : DV acc (l ++ r) = DV (DV acc l) r := by
  induction l generalizing acc with
  | nil => rfl
  | cons c l ih => exact ih _
theorem DV_lt (l : List UInt8) (h : l.all digB = true) : DV 0 l < 10 ^ l.length := by
  induction l with
  | nil => simp [DV_nil]
  | cons c r ih =>
    simp only [List.all_cons, Bool.and_eq_true] at h
    have h1 := ih h.2
    have h2 : c.toNat ≤ 57 := by have := h.1; simp [digB] at this; exact this.2
    rw [DV_cons, DV_acc, List.length_cons, Nat.pow_succ]
    have h3 : (0 * 10 + (c.toNat - 48)) * 10 ^ r.length ≤ 9 * 10 ^ r.length := Nat.mul_le_mul_right _ (by omega)
    omega
theorem parse_digits (l : List UInt8) (acc k : Nat) (h : l.all digB = true) (hl : l.length + k ≤ 9) (ha : acc < 10 ^ k) : Lib.parseUintM 4294967295 acc l = .ok (DV acc l) := by
  induction l generalizing acc k with
  | nil => rfl
  | cons c r ih =>
    simp only [List.all_cons, Bool.and_eq_true] at h
    simp only [List.length_cons] at hl
    have h2 : 48 ≤ c.toNat ∧ c.toNat ≤ 57 := by have := h.1; simpa [digB] using this
    have h4 : (10 : Nat) ^ k ≤ 10 ^ 8 := Nat.pow_le_pow_right (by omega) (by omega)
    have h5 : (10 : Nat) ^ 8 = 100000000 := by decide
    rw [Lib.parseUintM, if_pos h2, if_neg (by omega), if_neg (by omega), DV_cons]
    exact ih _ (k + 1) h.2 (by omega) (by rw [Nat.pow_succ]; omega)
theorem parse_group (l : List UInt8) (h : l.all digB = true) (hl : l.length ≤ 9) (hp : 0 < l.length) : Lib.parseUintB 32 l = .ok (DV 0 l) := by
  unfold Lib.parseUintB
  rw [if_neg (by rintro rfl; simp at hp)]
  exact parse_digits l 0 0 h (by omega) (by decide)
theorem all_take {l : List UInt8} (h : l.all digB = true) (k : Nat) : (l.take k).all digB = true := List.all_eq_true.2 fun x hx => List.all_eq_true.1 h x (List.mem_of_mem_take hx)
theorem all_drop {l : List UInt8} (h : l.all digB = true) (k : Nat) : (l.drop k).all digB = true := List.all_eq_true.2 fun x hx => List.all_eq_true.1 h x (List.mem_of_mem_drop hx)
theorem Cn.len_le {zs : List Nat} {p : Nat} (h : Cn zs) (hU : U zs < 10 ^ p) : zs.length ≤ p := by
  rcases Nat.eq_zero_or_pos zs.length with h0 | h0
  · omega
  · have h1 := U_ge h (by rintro rfl; simp at h0)
    have h2 : (10 : Nat) ^ p ≤ 4294967296 ^ p := Nat.pow_le_pow_left (by omega) _
    have h3 : (4294967296 : Nat) ^ (zs.length - 1) < 4294967296 ^ p := by omega
    have h4 := (Nat.pow_lt_pow_iff_right (a := 4294967296) (by omega)).1 h3
    omega
theorem ext_list (t : ByteArray) (a b : Nat) : (t.extract a b).data.toList = (t.data.toList.drop a).take (b - a) := by
  simp only [ByteArray.data_extract, Array.toList_extract, List.extract_eq_take_drop]
theorem ba_len (t : ByteArray) : t.data.toList.length = t.size := Array.length_toList

/-- What Parse answers to digits. -/
def Parsed (w : World) (a : Nat) (e : Ending) (w' : World) : Prop :=
  ∃ A n c zs, e = .returned (.tuple #[.slice A n c, .int .i64 0]) ∧ Ow w' w.heap.size (.slice A n c) n zs ∧ n ≤ c ∧ n ≤ 5000 ∧ Cn zs ∧ U zs = a ∧ Below w.heap.size w w'

theorem parse_many (s : ByteArray) (h : 4096 < s.size) (w : World) :
    Calls Tryd.prog 51 #[.string s] w fun e w' => e = .returned (.tuple #[.slice none 0 0, .int .i64 5]) ∧ w' = w := by
  go_enter Tryd.func51, Tryd.ntmps51
  go_wp2_with fail
  go_ret2
  exact ⟨rfl, rfl⟩
theorem parse_form (s : ByteArray) (h : s.size ≤ 4096) (hd : isDecB s.data.toList = false) (w : World) :
    Calls Tryd.prog 51 #[.string s] w fun e w' => e = .returned (.tuple #[.slice none 0 0, .int .i64 3]) ∧ Below w.heap.size w w' := by
  have hdec := isDec_any s (by omega) w
  rw [hd] at hdec
  go_enter Tryd.func51, Tryd.ntmps51
  go_wp2_with fail
  refine hdec.mono ?_
  rintro e w1 ⟨rfl, hb⟩
  go_wp2_with fail
  go_ret2
  exact ⟨rfl, hb⟩

set_option maxHeartbeats 4000000 in
theorem parse_ok (s : ByteArray) (h : s.size ≤ 4096) (hd : isDecB s.data.toList = true) (w : World) :
    Calls Tryd.prog 51 #[.string s] w (Parsed w (DV 0 s.data.toList)) := by
  have hdec := isDec_any s (by omega) w
  rw [hd] at hdec
  have hall : s.data.toList.all digB = true := by
    simp only [isDecB, Bool.and_eq_true] at hd
    exact hd.2
  have hlen := ba_len s
  obtain ⟨l, hl⟩ : ∃ l, s.data.toList = l := ⟨_, rfl⟩
  rw [hl] at hlen hall
  rw [hl]
  have HL := Lib.hid hl
  have HALL := Lib.hid hall
  have HLEN := Lib.hid hlen
  clear hd hl hall hlen
  go_enter Tryd.func51, Tryd.ntmps51
  go_wp2_with fail
  refine hdec.mono ?_
  rintro e w1 ⟨rfl, hb⟩
  go_wp2_with fail
  go_loopw [0, 4] (fun sv nv wr => ∃ (t : ByteArray) (p : Nat) (A : Option Addr) (n c : Nat) (zs : List Nat), sv = .string t ∧ nv = .slice A n c ∧ p ≤ s.size ∧ t.size = s.size - p ∧ t.data.toList = l.drop p ∧ (p = 0 ∨ t.size % 9 = 0) ∧ Ow wr w.heap.size (.slice A n c) n zs ∧ n ≤ c ∧ n ≤ p ∧ Cn zs ∧ U zs = DV 0 (l.take p) ∧ Below w.heap.size w wr) (fun sv _ _ => strLen sv)
  case atStart => exact ⟨s, 0, none, 0, 0, [], rfl, rfl, by omega, by omega, by rw [HL.out]; rfl, .inl rfl, Ow.nil _ _, by omega, by omega, Cn.nil, rfl, hb⟩
  case round =>
    obtain ⟨t, p, A, n, c, zs, rfl, rfl, hp, hts, htl, h9, how, hnc, hnp, hcn, hU, hbr⟩ := hrel
    have HOW := Lib.hid how
    have HTL := Lib.hid htl
    have HU := Lib.hid hU
    have HCN := Lib.hid hcn
    have H9 := Lib.hid h9
    clear how htl hU hcn h9
    by_cases h0 : 0 < t.size
    · obtain ⟨z, hz⟩ : ∃ z, (s.size - p - 1) % 9 + 1 = z := ⟨_, rfl⟩
      have hz9 : z ≤ 9 := by omega
      have hz0 : 0 < z := by omega
      have hzt : z ≤ s.size - p := by omega
      have hchunk : (t.extract 0 z).data.toList = (l.drop p).take z := by rw [ext_list, HTL.out]; simp
      have hcl : ((l.drop p).take z).length = z := by rw [List.length_take, List.length_drop, HLEN.out]; omega
      have hca := all_take (all_drop HALL.out p) z
      obtain ⟨u, hu⟩ : ∃ u, DV 0 ((l.drop p).take z) = u := ⟨_, rfl⟩
      have hul : u < 1000000000 := by
        have h1 := DV_lt _ hca
        rw [hu, hcl] at h1
        have h2 : (10 : Nat) ^ z ≤ 10 ^ 9 := Nat.pow_le_pow_right (by omega) hz9
        have h3 : (10 : Nat) ^ 9 = 1000000000 := by decide
        omega
      have hpg := parse_group _ hca (by omega) (by omega)
      rw [hu, ← hchunk] at hpg
      have hnext : 1000000000 * U zs + u = DV 0 (l.take (p + z)) := by
        rw [List.take_add, DV_app, DV_acc, hu, hcl, ← HU.out]
        rcases H9.out with h | h
        · have : U zs = 0 := by rw [HU.out, h]; rfl
          rw [this]; omega
        · have : z = 9 := by omega
          rw [this]
          have h3 : (10 : Nat) ^ 9 = 1000000000 := by decide
          rw [h3]; omega
      have hnl : DV 0 (l.take (p + z)) < 10 ^ (p + z) := by
        have h1 := DV_lt _ (all_take HALL.out (p + z))
        rwa [List.length_take, HLEN.out, Nat.min_eq_left (by omega)] at h1
      have hg9 : p + z = 0 ∨ (s.size - (p + z)) % 9 = 0 := by omega
      have hsz : (t.extract 0 z).size ≤ 9223372036854775806 := by
        have := ba_len (t.extract 0 z)
        rw [hchunk, hcl] at this
        omega
      have HPG := Lib.hid hpg
      have HNX := Lib.hid hnext
      have HNL := Lib.hid hnl
      have HG9 := Lib.hid hg9
      have HZ := Lib.hid hz
      clear hpg hnext hnl hg9 hu hca hcl hchunk
      go_wp2_with fail
      rw [HZ.out]
      refine (Tryd.strconv_ParseUint_10_at32_ok (t.extract 0 z) hsz u HPG.out wr).mono ?_
      rintro e w3 ⟨rfl, hw3⟩
      have hb3 : Below wr.heap.size wr w3 := by
        rcases hw3 with rfl | rfl
        · exact Below.refl _ _
        · exact Lib.bytesWorld_below _ _ _
      have hB3 : Below w.heap.size w w3 := hbr.trans (hb3.mono hbr.size)
      have hs3 := hB3.size
      have how3 := HOW.out.below hb3
      clear hw3
      rw [← HZ.out] at hzt
      go_wp2_with fail
      refine (appendGroup_any w.heap.size A c n u zs w3 how3 HCN.out hnc hs3 (by omega) hul).mono ?_
      rintro e w4 ⟨v4, zs4, rfl, how4, hcn4, hU4, hb4⟩
      obtain ⟨A4, c4, rfl, hc4⟩ := how4.form
      have HOW4 := Lib.hid how4
      have HCN4 := Lib.hid hcn4
      have HU4 : Hid (U zs4 = DV 0 (l.take (p + z))) := Lib.hid (by rw [hU4]; exact HNX.out)
      have hl4 : zs4.length ≤ p + z := Cn.len_le hcn4 (by rw [HU4.out]; exact HNL.out)
      have hB4 : Below w.heap.size w w4 := hB3.trans hb4
      clear how4 hcn4 hU4 how3
      have hrest : (t.extract z (s.size - p)).data.toList = l.drop (p + z) := by
        rw [ext_list, HTL.out, List.drop_drop, List.take_of_length_le (by rw [List.length_drop, HLEN.out]; omega)]
      have hrs : (t.extract z (s.size - p)).size = s.size - (p + z) := by
        have h1 := ba_len (t.extract z (s.size - p))
        rw [hrest, List.length_drop, HLEN.out] at h1
        omega
      have HRE := Lib.hid hrest
      have HRS := Lib.hid hrs
      clear hrest hrs
      go_wp2_with fail
      rw [HZ.out]
      refine ⟨⟨t.extract z (s.size - p), p + z, A4, _, c4, zs4, rfl, rfl, by have := HZ.out; omega, HRS.out, HRE.out, .inr (by rw [HRS.out]; rcases HG9.out with h | h <;> omega), HOW4.out, hc4, hl4, HCN4.out, HU4.out, hB4⟩, ?_⟩
      show (t.extract z (s.size - p)).size < t.size
      rw [HRS.out]
      omega
    · go_wp2_with fail
      go_ret2
      have hpe : p = s.size := by omega
      exact ⟨A, n, c, zs, rfl, HOW.out, hnc, by omega, HCN.out, by rw [HU.out, hpe, List.take_of_length_le (by have := HLEN.out; omega)], hbr⟩
end Go.Proofs.YtebnlfhiihlkdaaDoor
