/-
  Numbers in digits of 32 bits: addInto.
  Numbers in digits of 32 bits: takeOff.
-/
import Derived.Test.YtaifigkbblncpaaGreatDoorWin
namespace Go.Proofs.YtaifigkbblncpaaGreatDoor
open Go.RowKit
set_option maxRecDepth 100000

theorem Dg.set {ds : List Nat} (h : Dg ds) {j r : Nat} (hr : r < 4294967296) : Dg (ds.set j r) := fun d hd => by
  rcases List.mem_or_eq_of_mem_set hd with h1 | h1
  · exact h d h1
  · omega
theorem nth_set32 {ds : List Nat} {j r i : Nat} (hj : j < ds.length) : nth (ds.set j r) i = if i = j then r else nth ds i := by
  simp only [nth, List.getD_eq_getElem?_getD, List.getElem?_set]
  by_cases h : j = i
  · subst h; simp [hj]
  · have : ¬ i = j := fun e => h e.symm
    simp [h, this]
theorem U_set_take {zs : List Nat} {k r : Nat} (hk : k < zs.length) : U ((zs.set k r).take (k + 1)) = U (zs.take k) + 4294967296 ^ k * r := by
  rw [U_take_succ, nth_set32 hk, if_pos rfl, List.take_set_of_le (Nat.le_refl k)]

/-- What has been added so far: k digits, and a carry. -/
def AddIn (xs ys zs : List Nat) (n k ov : Nat) : Prop :=
  zs.length = n ∧ Dg zs ∧ (∀ j, k ≤ j → nth zs j = nth xs j) ∧ U (zs.take k) + 4294967296 ^ k * ov = U (xs.take k) + U (ys.take k) ∧ ov ≤ 1
theorem AddIn.step {xs ys zs : List Nat} {n k ov X : Nat} (h : AddIn xs ys zs n k ov) (hk : k < n) (hX : nth xs k + nth ys k + ov = X) (hy : nth ys k < 4294967296) : AddIn xs ys (zs.set k (X % 4294967296)) n (k + 1) (X / 4294967296) := by
  obtain ⟨hl, hd, hz, hU, ho⟩ := h
  have hzk := hz k (Nat.le_refl k)
  have hdk := hd.nth k
  refine ⟨by simp [hl], hd.set (by omega), fun j hj => by rw [nth_set32 (by omega), if_neg (by omega)]; exact hz j (by omega), ?_, by omega⟩
  rw [U_set_take (by omega), U_take_succ xs, U_take_succ ys, Nat.pow_succ]
  have := Nat.div_add_mod X 4294967296
  generalize X / 4294967296 = q at *
  generalize X % 4294967296 = r at *
  subst this
  generalize 4294967296 ^ k = P at *
  have e : P * (nth xs k + nth ys k + ov) = P * (4294967296 * q + r) := by rw [hX]
  grind
theorem nth_drop_ext {a b : List Nat} {k : Nat} (hl : a.length = b.length) (h : ∀ j, k ≤ j → nth a j = nth b j) : a.drop k = b.drop k := by
  apply List.ext_getElem
  · simp [hl]
  · intro i h1 h2
    have := h (k + i) (by omega)
    simp only [List.length_drop] at h1 h2
    rw [nth_in (by omega), nth_in (by omega)] at this
    simpa using this
theorem U_split (xs : List Nat) (k : Nat) (hk : k ≤ xs.length) : U xs = U (xs.take k) + 4294967296 ^ k * U (xs.drop k) := by
  have := U_append (xs.take k) (xs.drop k)
  rw [List.take_append_drop, List.length_take, Nat.min_eq_left hk] at this
  exact this
theorem AddIn.done {xs ys zs : List Nat} {n k ov : Nat} (h : AddIn xs ys zs n k ov) (hx : xs.length = n) (hk : k ≤ n) (hy : ys.length ≤ n) (he : k = n ∨ (ys.length ≤ k ∧ ov = 0)) : U zs + 4294967296 ^ n * ov = U xs + U ys := by
  obtain ⟨hl, hd, hz, hU, ho⟩ := h
  rcases he with rfl | ⟨h1, rfl⟩
  · rwa [U_take_all zs _ (by omega), U_take_all xs _ (by omega), U_take_all ys _ (by omega)] at hU
  · rw [U_take_all ys _ h1] at hU
    rw [U_split zs k (by omega), U_split xs k (by omega), nth_drop_ext (by omega) hz]
    omega

/-- What addInto answers, and leaves. -/
def AddedInto (w : World) (g : Nat) (L : List Value) (xs ys : List Nat) (R : List Value) (n : Nat) (e : Ending) (w' : World) : Prop :=
  ∃ ov zs, e = .returned (.int .u32 ((ov : Nat) : Int)) ∧ zs.length = n ∧ Dg zs ∧ U zs + 4294967296 ^ n * ov = U xs + U ys ∧ ov ≤ 1 ∧ Win w' g 53 L zs R ∧ w.grownBy w' (some g)

set_option maxHeartbeats 2000000 in
theorem addInto_any (g o : Nat) (L R : List Value) (xs ys : List Nat) (n c n2 c2 : Nat) (A2 : Option Addr) (w : World) (hx : xs.length = n) (hy : ys.length = n2) (hL : L.length = o) (hw : Win w g 53 L xs R)
    (hr : Ra w g A2 ys) (hd : Dg xs) (hd2 : Dg ys) (hn : n ≤ 10000000) (hn2 : n2 ≤ n) (hc : n ≤ c) :
    Calls Tryz.prog 82 #[.slice (some ⟨g, o, none⟩) n c, .slice A2 n2 c2] w (AddedInto w g L xs ys R n) := by
  have HX := Lib.hid hx
  have HY := Lib.hid hy
  have HL := Lib.hid hL
  have hgl := hw.lt
  clear hx hy hL
  go_enter Tryz.func82, Tryz.ntmps82
  go_wp2_with fail
  go_loopw [5, 6] (fun cv iv wr => ∃ k ov zs, cv = .int .u64 ((ov : Nat) : Int) ∧ iv = .int .i64 ((k : Nat) : Int) ∧ k ≤ n ∧ AddIn xs ys zs n k ov ∧ Win wr g 53 L zs R ∧ w.grownBy wr (some g)) (fun _ iv _ => n - (intOf iv).toNat)
  case atStart => exact ⟨0, 0, xs, rfl, rfl, by omega, ⟨HX.out, hd, fun _ _ => rfl, by simp [U], by omega⟩, hw, World.grownBy.refl _ _⟩
  case round =>
    obtain ⟨k, ov, zs, rfl, rfl, hk, hin, hwin, hgr⟩ := hrel
    have HI := Lib.hid hin
    have ho1 : ov ≤ 1 := hin.2.2.2.2
    have hzl : Hid (zs.length = n) := Lib.hid hin.1
    have hzk : Hid (k < n → nth zs k = nth xs k) := Lib.hid (fun _ => hin.2.2.1 k (Nat.le_refl k))
    have hxk := hd.nth k
    have hyk := hd2.nth k
    clear hin
    have hcases : (k < n ∧ k < n2) ∨ (k < n ∧ ¬ k < n2 ∧ ov = 1) ∨ (k < n ∧ ¬ k < n2 ∧ ov = 0) ∨ (¬ k < n) := by omega
    rcases hcases with ⟨hkn, hk2⟩ | ⟨hkn, hk2, rfl⟩ | ⟨hkn, hk2, rfl⟩ | hkn
    · have cz := hwin.cell HL.out (k := k) (by have := hzl.out; omega)
      rw [hzk.out hkn] at cz
      have fz := hwin.frozen (o + k)
      obtain ⟨b2, o2, hA2, _, cy⟩ := (wrote_ra hgr hr hgl).at_ (k := k) (by have := HY.out; omega)
      subst hA2
      obtain ⟨X, hX⟩ : ∃ X, nth xs k + nth ys k + ov = X := ⟨_, rfl⟩
      have hXX := Lib.hid hX
      have hXe : (ov : Int) + (nth xs k : Int) + (nth ys k : Int) = (X : Int) := by omega
      have hst := Lib.hid (HI.out.step hkn hX hyk)
      clear hX
      go_wp2_with fail
      go_roundw
      case rel => exact ⟨k + 1, X / 4294967296, zs.set k (X % 4294967296), by go_num, by go_num, by omega, hst.out, hwin.put HL.out (by have := hzl.out; omega) (by omega), wrote_set hgr _ _⟩
      case measure => simp [intOf]; omega
    · have cz := hwin.cell HL.out (k := k) (by have := hzl.out; omega)
      rw [hzk.out hkn] at cz
      have fz := hwin.frozen (o + k)
      obtain ⟨X, hX⟩ : ∃ X, nth xs k + nth ys k + 1 = X := ⟨_, rfl⟩
      have hXe : (1 : Int) + (nth xs k : Int) = (X : Int) := by have := nth_out (xs := ys) (i := k) (by have := HY.out; omega); omega
      have hst := Lib.hid (HI.out.step hkn hX hyk)
      clear hX
      go_wp2_with fail
      go_roundw
      case rel => exact ⟨k + 1, X / 4294967296, zs.set k (X % 4294967296), by go_num, by go_num, by omega, hst.out, hwin.put HL.out (by have := hzl.out; omega) (by omega), wrote_set hgr _ _⟩
      case measure => simp [intOf]; omega
    · have hfin := Lib.hid (HI.out.done HX.out hk (by have := HY.out; omega) (.inr ⟨by have := HY.out; omega, rfl⟩))
      go_wp2_with fail
      go_ret
      exact ⟨0, zs, rfl, hzl.out, HI.out.2.1, hfin.out, by omega, hwin, hgr⟩
    · obtain rfl : k = n := by omega
      have hfin := Lib.hid (HI.out.done HX.out hk (by have := HY.out; omega) (.inl rfl))
      go_wp2_with fail
      go_ret
      exact ⟨ov, zs, rfl, hzl.out, HI.out.2.1, hfin.out, by omega, hwin, hgr⟩
end Go.Proofs.YtaifigkbblncpaaGreatDoor

namespace Go.Proofs.YtaifigkbblncpaaGreatDoor
open Go.RowKit
set_option maxRecDepth 100000

/-- What has been taken off so far: k digits; what is still to be taken, and what was borrowed. -/
def TakeIn (xs ys zs : List Nat) (m n k tk br : Nat) : Prop :=
  zs.length = n ∧ Dg zs ∧ (∀ j, k ≤ j → nth zs j = nth xs j) ∧ U (xs.take k) + 4294967296 ^ k * (tk + br) = U (zs.take k) + m * U (ys.take k) ∧ tk ≤ 4294967295 ∧ br ≤ 1
theorem TakeIn.step {xs ys zs : List Nat} {m n k tk br T z br' : Nat} (h : TakeIn xs ys zs m n k tk br) (hk : k < n) (hT : tk + m * nth ys k = T) (hTb : T / 4294967296 ≤ 4294967295) (hz : nth xs k + 4294967296 * br' = z + T % 4294967296 + br) (hzb : z < 4294967296) (hbr : br' ≤ 1) :
    TakeIn xs ys (zs.set k z) m n (k + 1) (T / 4294967296) br' := by
  obtain ⟨hl, hd, hzz, hU, ho, hb⟩ := h
  refine ⟨by simp [hl], hd.set hzb, fun j hj => by rw [nth_set32 (by omega), if_neg (by omega)]; exact hzz j (by omega), ?_, hTb, hbr⟩
  rw [U_set_take (by omega), U_take_succ xs, U_take_succ ys, Nat.pow_succ]
  have := Nat.div_add_mod T 4294967296
  generalize T / 4294967296 = q at *
  generalize T % 4294967296 = r at *
  generalize 4294967296 ^ k = P at *
  have e : P * (nth xs k + 4294967296 * br') = P * (z + r + br) := by rw [hz]
  have e2 : P * (tk + m * nth ys k) = P * (4294967296 * q + r) := by rw [hT, this]
  grind
theorem take_prod {m y tk : Nat} (hm : m ≤ 4294967295) (hy : y < 4294967296) (ht : tk ≤ 4294967295) : m * y ≤ 18446744065119617025 ∧ (tk + m * y) / 4294967296 ≤ 4294967295 := by
  have h := Nat.mul_le_mul hm (show y ≤ 4294967295 by omega)
  have h2 : m * y ≤ 18446744065119617025 := h
  generalize m * y = p at *
  omega

theorem wrap_u64 (x : Int) : IntKind.u64.wrap x = x % 18446744073709551616 := by simp [IntKind.wrap, IntKind.bits, IntKind.signed]
theorem take_vals (d T br : Nat) (hd : d < 4294967296) (hT : T < 18446744073709551616) (hbr : br ≤ 1) : ∃ z br' : Nat, z < 4294967296 ∧ br' ≤ 1 ∧ d + 4294967296 * br' = z + T % 4294967296 + br ∧
    IntKind.u64.wrap (IntKind.u64.wrap ((d : Int) - bits .and .u64 (T : Int) 4294967295) - (br : Int)) % 4294967296 = (z : Int) ∧
    IntKind.u64.wrap (IntKind.u64.wrap ((d : Int) - bits .and .u64 (T : Int) 4294967295) - (br : Int)) / 9223372036854775808 = (br' : Int) := by
  rw [and_mask32 T hT, wrap_u64, wrap_u64]
  obtain ⟨t0, ht⟩ : ∃ t0, T % 4294967296 = t0 := ⟨_, rfl⟩
  have h0 : t0 < 4294967296 := by omega
  rw [ht]
  by_cases h : t0 + br ≤ d
  · exact ⟨d - t0 - br, 0, by omega, by omega, by omega, by omega, by omega⟩
  · exact ⟨d + 4294967296 - t0 - br, 1, by omega, by omega, by omega, by omega, by omega⟩
/-- Is a number not 0? -/
def nz (a : Nat) : Bool := a != 0
theorem nz_yes {a : Nat} (h : 0 < a) : nz a = true := by simp [nz]; omega
theorem nz_no : nz 0 = false := rfl
theorem take_ne (a b : Nat) : ((a : Int) + (b : Int) != 0) = nz (a + b) := by
  rcases Nat.eq_zero_or_pos (a + b) with h | h
  · have h1 : (a : Int) + (b : Int) = 0 := by omega
    rw [h, h1]; rfl
  · have h1 : ¬ (a : Int) + (b : Int) = 0 := by omega
    rw [nz_yes h]
    exact bne_iff_ne.2 h1
theorem TakeIn.done {xs ys zs : List Nat} {m n tk br : Nat} (h : TakeIn xs ys zs m n n tk br) (hx : xs.length = n) (hy : ys.length ≤ n) : U xs + 4294967296 ^ n * (tk + br) = U zs + m * U ys := by
  obtain ⟨hl, hd, hz, hU, ho⟩ := h
  rwa [U_take_all zs _ (by omega), U_take_all xs _ (by omega), U_take_all ys _ (by omega)] at hU

/-- What takeOff answers, and leaves. -/
def TakenOff (w : World) (g : Nat) (L : List Value) (xs ys : List Nat) (R : List Value) (m n : Nat) (e : Ending) (w' : World) : Prop :=
  ∃ T zs, e = .returned (.bool (nz T)) ∧ zs.length = n ∧ Dg zs ∧ U xs + 4294967296 ^ n * T = U zs + m * U ys ∧ Win w' g 53 L zs R ∧ w.grownBy w' (some g)

set_option maxHeartbeats 4000000 in
theorem takeOff_any (g o : Nat) (L R : List Value) (xs ys : List Nat) (m n c n2 c2 : Nat) (A2 : Option Addr) (w : World) (hx : xs.length = n) (hy : ys.length = n2) (hL : L.length = o) (hw : Win w g 53 L xs R)
    (hr : Ra w g A2 ys) (hd : Dg xs) (hd2 : Dg ys) (hn : n ≤ 10000000) (hn2 : n2 ≤ n) (hc : n ≤ c) (hm : m ≤ 4294967295) :
    Calls Tryz.prog 102 #[.slice (some ⟨g, o, none⟩) n c, .slice A2 n2 c2, .int .u64 ((m : Nat) : Int)] w (TakenOff w g L xs ys R m n) := by
  have HX := Lib.hid hx
  have HY := Lib.hid hy
  have HL := Lib.hid hL
  have hgl := hw.lt
  clear hx hy hL
  go_enter Tryz.func102, Tryz.ntmps102
  go_wp2_with fail
  go_loopw [7, 8, 14] (fun tv bv iv wr => ∃ k tk br zs, tv = .int .u64 ((tk : Nat) : Int) ∧ bv = .int .u64 ((br : Nat) : Int) ∧ iv = .int .i64 ((k : Nat) : Int) ∧ k ≤ n ∧ TakeIn xs ys zs m n k tk br ∧ Win wr g 53 L zs R ∧ w.grownBy wr (some g)) (fun _ _ iv _ => n - (intOf iv).toNat)
  case atStart => exact ⟨0, 0, 0, xs, rfl, rfl, rfl, by omega, ⟨HX.out, hd, fun _ _ => rfl, by simp [U], by omega, by omega⟩, hw, World.grownBy.refl _ _⟩
  case round =>
    obtain ⟨k, tk, br, zs, rfl, rfl, rfl, hk, hin, hwin, hgr⟩ := hrel
    have HI := Lib.hid hin
    have ht1 : tk ≤ 4294967295 := hin.2.2.2.2.1
    have hb1 : br ≤ 1 := hin.2.2.2.2.2
    have hzl : Hid (zs.length = n) := Lib.hid hin.1
    have hzk : Hid (k < n → nth zs k = nth xs k) := Lib.hid (fun _ => hin.2.2.1 k (Nat.le_refl k))
    have hxk := hd.nth k
    have hyk := hd2.nth k
    clear hin
    by_cases hkn : k < n
    · have cz := hwin.cell HL.out (k := k) (by have := hzl.out; omega)
      rw [hzk.out hkn] at cz
      have fz := hwin.frozen (o + k)
      obtain ⟨hp1, hp2⟩ := take_prod hm hyk ht1
      obtain ⟨T, hT⟩ : ∃ T, tk + m * nth ys k = T := ⟨_, rfl⟩
      rw [hT] at hp2
      have hTb : T < 18446744073709551616 := by omega
      obtain ⟨z, br', hz, hbr, hzr, e1, e2⟩ := take_vals (nth xs k) T br hxk hTb hb1
      have hst := Lib.hid (HI.out.step hkn hT hp2 hzr hz hbr)
      by_cases hk2 : k < n2
      · have hTi : (T : Int) = (tk : Int) + (m : Int) * (nth ys k : Int) := by rw [← hT]; simp
        have e3 : ((tk : Int) + (m : Int) * (nth ys k : Int)) / 4294967296 = ((T / 4294967296 : Nat) : Int) := by rw [← hTi]; omega
        rw [hTi] at e1 e2
        have E1 := Lib.hid e1
        have E2 := Lib.hid e2
        have E3 := Lib.hid e3
        clear e1 e2 e3 hTi hT hzr
        obtain ⟨b2, o2, hA2, _, cy⟩ := (wrote_ra hgr hr hgl).at_ (k := k) (by have := HY.out; omega)
        subst hA2
        go_wp2_with fail
        go_roundw
        case rel => exact ⟨k + 1, T / 4294967296, br', zs.set k z, by rw [E3.out], by rw [E2.out], by go_num, by omega, hst.out, hwin.put HL.out (by have := hzl.out; omega) E1.out, wrote_set hgr _ _⟩
        case measure => simp [intOf]; omega
      · have hy0 : nth ys k = 0 := nth_out (by have := HY.out; omega)
        obtain rfl : tk = T := by rw [← hT, hy0]; simp
        have E1 := Lib.hid e1
        have E2 := Lib.hid e2
        clear e1 e2 hT hzr hy0
        go_wp2_with fail
        go_roundw
        case rel => exact ⟨k + 1, tk / 4294967296, br', zs.set k z, by go_num, by rw [E2.out], by go_num, by omega, hst.out, hwin.put HL.out (by have := hzl.out; omega) E1.out, wrote_set hgr _ _⟩
        case measure => simp [intOf]; omega
    · obtain rfl : k = n := by omega
      have hfin := Lib.hid (HI.out.done HX.out (by have := HY.out; omega))
      go_wp2_with fail
      go_ret
      exact ⟨tk + br, zs, congrArg (fun b => Ending.returned (.bool b)) (take_ne tk br), hzl.out, HI.out.2.1, hfin.out, hwin, hgr⟩
end Go.Proofs.YtaifigkbblncpaaGreatDoor
