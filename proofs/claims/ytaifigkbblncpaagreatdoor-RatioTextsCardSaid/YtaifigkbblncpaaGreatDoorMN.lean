/-
  Numbers in digits of 32 bits: isDecimal.
  Numbers in digits of 32 bits: appendGroup.
  Numbers in digits of 32 bits: Parse.
-/
import Derived.Test.YtaifigkbblncpaaGreatDoorMU
import Derived.Lib.ConvBytes
import Derived.Lib.AtoiErrMem
import Derived.Test.YtaifigkbblncpaaGreatDoorShelf
import Derived.Lib.ParseIntB
namespace Go.Proofs.YtaifigkbblncpaaGreatDoor
open Go.RowKit
set_option maxRecDepth 100000

def digB (b : UInt8) : Bool := 48 ≤ b.toNat && b.toNat ≤ 57
/-- Decimal digits without noughts ahead. -/
def isDecB (l : List UInt8) : Bool := !l.isEmpty && !((l.headD 0).toNat == 48 && l.length != 1) && l.all digB

theorem ba_eq {s : ByteArray} {l : List UInt8} (h : s.data.toList = l) : s = ⟨l.toArray⟩ := by cases s; simp at h; simp [← h]
theorem isDec_empty (w : World) : Calls Tryz.prog 42 #[.string ⟨#[]⟩] w fun e w' => e = .returned (.bool false) ∧ w' = w := by
  go_enter Tryz.func42, Tryz.ntmps42
  go_wp2_with fail
  go_ret
  exact ⟨rfl, rfl⟩
theorem all_getD {l : List UInt8} : l.all digB = true ↔ ∀ j, j < l.length → digB (l.getD j 0) = true := by
  constructor
  · intro h j hj
    rw [List.all_eq_true] at h
    rw [List.getD_eq_getElem?_getD, List.getElem?_eq_getElem hj]
    exact h _ (List.getElem_mem hj)
  · intro h
    rw [List.all_eq_true]
    intro x hx
    obtain ⟨j, hj, rfl⟩ := List.getElem_of_mem hx
    have := h j hj
    rwa [List.getD_eq_getElem?_getD, List.getElem?_eq_getElem hj] at this

theorem not_all {l : List UInt8} {n k : Nat} (hl : l.length = n) (hk : k < n) (h : digB (l.getD k 0) = false) : l.all digB = false := by
  cases ha : l.all digB with
  | false => rfl
  | true => rw [all_getD.1 ha k (by omega)] at h; cases h
set_option maxHeartbeats 4000000 in
theorem isDec_loop (s : ByteArray) (n : Nat) (hn : s.size = n) (hpos : 0 < n) (hlim : n ≤ 10000) (hi : 0 < s.size) (h48 : (s[0]'hi).toNat = 48 → s.toList = [48]) (w : World) :
    Calls Tryz.prog 42 #[.string s] w fun e w' => e = .returned (.bool (s.data.toList.all digB)) ∧ Below w.heap.size w w' := by
  have hcv := Lib.run_convert_string_bytes (P := Tryz.prog) w 9 88 5 s Tryz.underlying9 Tryz.underlying88 Tryz.underlying5
  have hB : Below w.heap.size w (Lib.bytesWorld w 5 s) := Lib.bytesWorld_below w _ s
  have hc : ∀ j, j < n → (Lib.bytesWorld w 5 s).cell? ⟨w.heap.size, j, none⟩ = some (.int .u8 ((s.data.toList.getD j 0).toNat : Int)) := fun j hj => Lib.bytesWorld_cell w _ s j (by omega)
  have hcap := grownCap_ge w s.size 0 5
  rw [hn] at hcv hcap
  generalize grownCap w n 0 5 = cap at hcv hcap
  generalize Lib.bytesWorld w 5 s = W1 at hcv hB hc
  have hlen : s.data.toList.length = n := by rw [← hn, Array.length_toList]; rfl
  have hne : ¬ s.toList = [] := by rw [Lib.toList_data]; intro h; rw [h] at hlen; simp at hlen; omega
  have hem : s.toList.isEmpty = false := by
    rcases h : s.toList with _ | ⟨a, r⟩
    · exact absurd h hne
    · rfl
  have key : ∀ (a : Act), a.tmps.size = 30 → a.tmps[17]? = some (.slice (some ⟨w.heap.size, 0, none⟩) n cap) → True := fun _ _ _ => trivial
  have HLEN := Lib.hid hlen
  have HC := Lib.hid hc
  have HN := Lib.hid hn
  obtain ⟨R, hR⟩ : ∃ R, s.data.toList.all digB = R := ⟨_, rfl⟩
  rw [hR]
  have HR := Lib.hid hR
  clear hR
  by_cases h0 : (s[0]'hi).toNat = 48
  · have hone := h48 h0
    have h0i : ((s[0]'hi).toNat : Int) = 48 := by omega
    have hneg : (!s.toList == [48]) = false := by rw [hone]; rfl
    clear h48 hlen hc key hn
    go_enter Tryz.func42, Tryz.ntmps42
    go_wp2_with fail
    go_loopw [4, 19] (fun _ iv wr => ∃ k : Nat, iv = .int .i64 (k : Int) ∧ k ≤ n ∧ (∀ j, j < k → digB (s.data.toList.getD j 0) = true) ∧ wr = W1) (fun _ iv _ => n - (intOf iv).toNat)
    case atStart => exact ⟨0, rfl, by omega, fun j hj => by omega, rfl⟩
    case round =>
      obtain ⟨k, rfl, hk, hall, rfl⟩ := hrel
      have HA := Lib.hid hall
      clear hall
      by_cases hkn : k < n
      · have ck := HC.out k hkn
        obtain ⟨x, hx⟩ : ∃ x, (s.data.toList.getD k 0).toNat = x := ⟨_, rfl⟩
        rw [hx] at ck
        have HX := Lib.hid hx
        have HXI : Hid (digB (s.data.toList.getD k 0) = (decide (48 ≤ x) && decide (x ≤ 57))) := Lib.hid (by rw [← hx]; rfl)
        clear hx
        by_cases hx1 : x < 48
        · go_wp2_with fail
          go_ret
          exact ⟨by rw [show R = false from HR.out.symm.trans (not_all HLEN.out hkn (by rw [HXI.out, decide_eq_false (by omega)]; rfl))]; rfl, hB⟩
        by_cases hx2 : 57 < x
        · go_wp2_with fail
          go_ret
          exact ⟨by rw [show R = false from HR.out.symm.trans (not_all HLEN.out hkn (by rw [HXI.out, decide_eq_false (show ¬ x ≤ 57 by omega), Bool.and_false]))]; rfl, hB⟩
        go_wp2_with fail
        go_roundw
        case rel => exact ⟨k + 1, by go_num, by omega, fun j hj => by
          rcases Nat.lt_or_ge j k with h | h
          · exact HA.out j h
          · obtain rfl : j = k := by omega
            rw [HXI.out, decide_eq_true (by omega), decide_eq_true (by omega)]; rfl, trivial⟩
        case measure => simp [intOf]; omega
      · obtain rfl : k = n := by omega
        go_wp2_with fail
        go_ret
        exact ⟨by rw [show R = true from HR.out.symm.trans (all_getD.2 (fun j hj => HA.out j (by have := HLEN.out; omega)))]; rfl, hB⟩
  · have h0i : ¬ ((s[0]'hi).toNat : Int) = 48 := by omega
    clear h48 hlen hc key hn
    go_enter Tryz.func42, Tryz.ntmps42
    go_wp2_with fail
    go_loopw [4, 19] (fun _ iv wr => ∃ k : Nat, iv = .int .i64 (k : Int) ∧ k ≤ n ∧ (∀ j, j < k → digB (s.data.toList.getD j 0) = true) ∧ wr = W1) (fun _ iv _ => n - (intOf iv).toNat)
    case atStart => exact ⟨0, rfl, by omega, fun j hj => by omega, rfl⟩
    case round =>
      obtain ⟨k, rfl, hk, hall, rfl⟩ := hrel
      have HA := Lib.hid hall
      clear hall
      by_cases hkn : k < n
      · have ck := HC.out k hkn
        obtain ⟨x, hx⟩ : ∃ x, (s.data.toList.getD k 0).toNat = x := ⟨_, rfl⟩
        rw [hx] at ck
        have HX := Lib.hid hx
        have HXI : Hid (digB (s.data.toList.getD k 0) = (decide (48 ≤ x) && decide (x ≤ 57))) := Lib.hid (by rw [← hx]; rfl)
        clear hx
        by_cases hx1 : x < 48
        · go_wp2_with fail
          go_ret
          exact ⟨by rw [show R = false from HR.out.symm.trans (not_all HLEN.out hkn (by rw [HXI.out, decide_eq_false (by omega)]; rfl))]; rfl, hB⟩
        by_cases hx2 : 57 < x
        · go_wp2_with fail
          go_ret
          exact ⟨by rw [show R = false from HR.out.symm.trans (not_all HLEN.out hkn (by rw [HXI.out, decide_eq_false (show ¬ x ≤ 57 by omega), Bool.and_false]))]; rfl, hB⟩
        go_wp2_with fail
        go_roundw
        case rel => exact ⟨k + 1, by go_num, by omega, fun j hj => by
          rcases Nat.lt_or_ge j k with h | h
          · exact HA.out j h
          · obtain rfl : j = k := by omega
            rw [HXI.out, decide_eq_true (by omega), decide_eq_true (by omega)]; rfl, trivial⟩
        case measure => simp [intOf]; omega
      · obtain rfl : k = n := by omega
        go_wp2_with fail
        go_ret
        exact ⟨by rw [show R = true from HR.out.symm.trans (all_getD.2 (fun j hj => HA.out j (by have := HLEN.out; omega)))]; rfl, hB⟩

theorem isDec_nought (s : ByteArray) (hi : 0 < s.size) (h48 : (s[0]'hi).toNat = 48) (hne : ¬ s.toList = [48]) (w : World) :
    Calls Tryz.prog 42 #[.string s] w fun e w' => e = .returned (.bool false) ∧ Below w.heap.size w w' := by
  have h0i : ((s[0]'hi).toNat : Int) = 48 := by omega
  have hem : s.toList.isEmpty = false := by
    have hl : s.data.toList.length = s.size := Array.length_toList
    rcases h : s.toList with _ | ⟨a, r⟩
    · rw [Lib.toList_data] at h; rw [h] at hl; simp at hl; omega
    · rfl
  have hneg : (!s.toList == [48]) = true := by
    rw [show (s.toList == [48]) = false from beq_eq_false_iff_ne.2 hne]; rfl
  go_enter Tryz.func42, Tryz.ntmps42
  go_wp2_with fail
  go_ret
  exact ⟨rfl, Below.refl _ _⟩

theorem isDec_any (s : ByteArray) (hlim : s.size ≤ 10000) (w : World) :
    Calls Tryz.prog 42 #[.string s] w fun e w' => e = .returned (.bool (isDecB s.data.toList)) ∧ Below w.heap.size w w' := by
  have hl : s.data.toList.length = s.size := Array.length_toList
  rcases Nat.eq_zero_or_pos s.size with h | hi
  · have : s = ⟨#[]⟩ := by
      have := List.eq_nil_of_length_eq_zero (hl.trans h)
      cases s with | mk d => simp at this; rw [this]
    subst this
    exact (isDec_empty w).mono fun e w' ⟨h1, h2⟩ => ⟨h1, by subst h2; exact Below.refl _ _⟩
  · obtain ⟨a, r, har⟩ : ∃ a r, s.data.toList = a :: r := by
      rcases h : s.data.toList with _ | ⟨a, r⟩
      · rw [h] at hl; simp at hl; omega
      · exact ⟨a, r, rfl⟩
    have h0 : s[0]'hi = a := by
      have : s.data.toList[0]'(by omega) = a := by simp only [har, List.getElem_cons_zero]
      exact this
    by_cases hz : a.toNat = 48 ∧ r ≠ []
    · refine (isDec_nought s hi (by rw [h0]; exact hz.1) (by rw [Lib.toList_data, har]; intro h; injection h with h1 h2; exact hz.2 h2) w).mono fun e w' ⟨h1, h2⟩ => ⟨?_, h2⟩
      have hlen : (r.length + 1 != 1) = true := by
        rcases r with _ | ⟨b, r⟩
        · exact absurd rfl hz.2
        · simp
      rw [h1, har, isDecB]
      simp only [List.headD_cons, List.length_cons, hz.1, hlen, List.isEmpty_cons]
      rfl
    · refine (isDec_loop s s.size rfl hi hlim hi (fun h => by
        rw [h0] at h
        have hr : r = [] := Classical.byContradiction fun h2 => hz ⟨h, h2⟩
        rw [Lib.toList_data, har, hr, show a = 48 from UInt8.toNat_inj.1 h]) w).mono fun e w' ⟨h1, h2⟩ => ⟨?_, h2⟩
      rw [h1, isDecB, har]
      have : (((a :: r).headD 0).toNat == 48 && (a :: r).length != 1) = false := by
        by_cases ha : a.toNat = 48
        · have hr : r = [] := Classical.byContradiction fun h2 => hz ⟨ha, h2⟩
          subst hr
          simp
        · simp [ha]
      rw [this]
      rfl
end Go.Proofs.YtaifigkbblncpaaGreatDoor

namespace Go.Proofs.YtaifigkbblncpaaGreatDoor
open Go.RowKit
set_option maxRecDepth 100000

/-- What has been multiplied so far: k digits; what is carried. -/
def GrpIn (xs zs : List Nat) (g n k cr : Nat) : Prop :=
  zs.length = n ∧ Dg zs ∧ (∀ j, k ≤ j → nth zs j = nth xs j) ∧ U (zs.take k) + 4294967296 ^ k * cr = g + 1000000000 * U (xs.take k) ∧ cr < 1000000000
theorem GrpIn.step {xs zs : List Nat} {g n k cr : Nat} (h : GrpIn xs zs g n k cr) (hk : k < n) (hx : nth xs k < 4294967296) :
    GrpIn xs (zs.set k ((cr + nth xs k * 1000000000) % 4294967296)) g n (k + 1) ((cr + nth xs k * 1000000000) / 4294967296) := by
  obtain ⟨hl, hd, hzz, hU, hc⟩ := h
  refine ⟨by simp [hl], hd.set (by omega), fun j hj => by rw [nth_set32 (by omega), if_neg (by omega)]; exact hzz j (by omega), ?_, by omega⟩
  rw [U_set_take (by omega), U_take_succ xs, Nat.pow_succ]
  have := Nat.div_add_mod (cr + nth xs k * 1000000000) 4294967296
  generalize (cr + nth xs k * 1000000000) / 4294967296 = q at *
  generalize (cr + nth xs k * 1000000000) % 4294967296 = r at *
  generalize 4294967296 ^ k = P at *
  have e2 : P * (4294967296 * q + r) = P * (cr + nth xs k * 1000000000) := by rw [this]
  grind
theorem GrpIn.done {xs zs : List Nat} {g n cr : Nat} (h : GrpIn xs zs g n n cr) (hx : xs.length = n) : U zs + 4294967296 ^ n * cr = 1000000000 * U xs + g := by
  obtain ⟨hl, hd, hz, hU, _⟩ := h
  rw [U_take_all zs _ (by omega), U_take_all xs _ (by omega)] at hU
  omega

theorem appendGroup_nil (B c g : Nat) (w : World) (hB : B ≤ w.heap.size) (hg : g < 1000000000) :
    Calls Tryz.prog 44 #[.slice none 0 0, .int .u64 (g : Int)] w (AddedOnto w B g) := by
  have HO3 : Hid (World.ownsRow (w.alloc (.cells #[.int .u32 (g : Int)] 53)) B 53 1 (.slice none 0 0) ([] : List Nat).length (u32s [])) := Lib.hid (World.ownsRow_nil _ _ _ _)
  have HR1 : Hid (Ra (w.alloc (.cells #[.int .u32 (g : Int)] 53)) (w.heap.size + 1) (some ⟨w.heap.size, 0, none⟩) [g]) := Lib.hid (Ra.one w g 53)
  by_cases h0 : g = 0
  · subst h0
    go_enter Tryz.func44, Tryz.ntmps44
    go_wp2_with fail
    go_loopw [5, 11] (fun cv iv wr => cv = .int .u64 0 ∧ iv = .int .i64 0 ∧ wr = w) (fun _ _ _ => 0)
    case atStart => exact ⟨rfl, rfl, rfl⟩
    case round =>
      obtain ⟨rfl, rfl, rfl⟩ := hrel
      go_wp2_with fail
      go_ret
      exact ⟨_, [], rfl, Ow.nil _ _, Cn.nil, rfl, Below.refl _ _⟩
  · have hgi : ¬ (g : Int) = 0 := by omega
    go_enter Tryz.func44, Tryz.ntmps44
    go_wp2_with fail
    go_loopw [5, 11] (fun cv iv wr => cv = .int .u64 (g : Int) ∧ iv = .int .i64 0 ∧ wr = w) (fun _ _ _ => 0)
    case atStart => exact ⟨rfl, rfl, rfl⟩
    case round =>
      obtain ⟨rfl, rfl, rfl⟩ := hrel
      have hm : (g : Int) % 4294967296 = (g : Int) := by omega
      go_wp2_with (at_builtin; go_loud (refine wpList_append_u32s _ rfl (.tmp 31) (.tmp 34) 23 rfl B 53 Tryz.underlying23 info_u32 (.slice none 0 0) [] rfl HO3.out (wr.heap.size + 1) (some ⟨wr.heap.size, 0, none⟩) 1 [g] _ rfl rfl HR1.out (by simp) (by simp; omega) ?_); intro A4 n4 c4 w4 hl4 hc4 hown4 hg4)
      go_ret
      have hone : Hid (U [g] = g) := Lib.hid (by simp [U])
      exact ⟨_, [g], rfl, by have := hown4.out; have h2 := hl4.out; simp at h2; subst h2; exact this, Cn.snoc (xs := []) Dg.nil (by omega) (by omega), hone.out, ((Below.refl B wr).alloc (by omega) _).grown hg4 (by simp; omega) (by intro k hk; simp [Value.ownBlock] at hk)⟩

set_option maxHeartbeats 4000000 in
theorem appendGroup_any (B : Nat) (A : Option Addr) (c n g : Nat) (xs : List Nat) (w : World) (hown : Ow w B (.slice A n c) n xs) (hx : Cn xs) (hc : n ≤ c) (hB : B ≤ w.heap.size) (hn : n ≤ 1000000) (hg : g < 1000000000) :
    Calls Tryz.prog 44 #[.slice A n c, .int .u64 (g : Int)] w (AddedOnto w B (1000000000 * U xs + g)) := by
  rcases hown.row with ⟨rfl, rfl, rfl, rfl⟩ | ⟨gb, rfl⟩
  · simpa [U] using appendGroup_nil B 0 g w hB hg
  have hl := hown.len
  have HX := Lib.hid hl
  obtain ⟨R, hw, hBg, hcap, hmax⟩ := hown.win
  have hgl := hw.lt
  have hd : Dg xs := hx.1
  have HCAP := Lib.hid hcap
  have HGE : Hid (xs ≠ [] → 4294967296 ^ (n - 1) ≤ 1000000000 * U xs + g) := Lib.hid (fun h => by have := U_ge hx h; rw [hl] at this; omega)
  have HNE : Hid (xs = [] → n = 0) := Lib.hid (fun h => by rw [h] at hl; simpa using hl.symm)
  clear hl hown hcap
  go_enter Tryz.func44, Tryz.ntmps44
  go_wp2_with fail
  go_loopw [5, 11] (fun cv iv wr => ∃ k cr zs, cv = .int .u64 ((cr : Nat) : Int) ∧ iv = .int .i64 ((k : Nat) : Int) ∧ k ≤ n ∧ GrpIn xs zs g n k cr ∧ Win wr gb 53 [] zs R ∧ w.grownBy wr (some gb)) (fun _ iv _ => n - (intOf iv).toNat)
  case atStart => exact ⟨0, g, xs, rfl, rfl, by omega, ⟨HX.out, hd, fun _ _ => rfl, by simp [U], hg⟩, hw, World.grownBy.refl _ _⟩
  case round =>
    obtain ⟨k, cr, zs, rfl, rfl, hk, hin, hwin, hgr⟩ := hrel
    have HI := Lib.hid hin
    have hcr : cr < 1000000000 := hin.2.2.2.2
    have hzl : Hid (zs.length = n) := Lib.hid hin.1
    have hzk : Hid (k < n → nth zs k = nth xs k) := Lib.hid (fun _ => hin.2.2.1 k (Nat.le_refl k))
    have hxk := hd.nth k
    clear hin
    by_cases hkn : k < n
    · have cz := hwin.cell (o := 0) rfl (k := k) (by have := hzl.out; omega)
      rw [hzk.out hkn] at cz
      simp only [Nat.zero_add] at cz
      have fz := hwin.frozen k
      have hst := Lib.hid (HI.out.step hkn hxk)
      obtain ⟨x, hxx⟩ : ∃ x, nth xs k = x := ⟨_, rfl⟩
      rw [hxx] at cz hxk hst
      have E1 : Hid (((cr : Int) + (x : Int) * 1000000000) % 4294967296 = (((cr + x * 1000000000) % 4294967296 : Nat) : Int)) := Lib.hid (by omega)
      have E2 : Hid (((cr : Int) + (x : Int) * 1000000000) / 4294967296 = (((cr + x * 1000000000) / 4294967296 : Nat) : Int)) := Lib.hid (by omega)
      clear hxx
      go_wp2_with fail
      go_roundw
      case rel => exact ⟨k + 1, _, _, by rw [E2.out], by go_num, by omega, hst.out, by have h := hwin.put (o := 0) (k := k) rfl (by have := hzl.out; omega) E1.out; rwa [Nat.zero_add] at h, wrote_set hgr _ _⟩
      case measure => simp [intOf]; omega
    · obtain rfl : k = n := by omega
      have hfin := Lib.hid (HI.out.done HX.out)
      have how2 : Ow wr B (.slice (some ⟨gb, 0, none⟩) k c) k zs := Ow.of_win hwin hzl.out hBg HCAP.out hmax
      have hB2 : Below B w wr := wrote_below hgr hBg hgl
      have hs2 := hB2.size
      have HOW := Lib.hid how2
      have hzd : Hid (Dg zs) := Lib.hid HI.out.2.1
      have hgw : gb < wr.heap.size := hwin.lt
      clear how2
      by_cases h0 : cr = 0
      · subst h0
        have hcz : Cn zs := Cn.of_ge hzd.out (fun h => by
          have h1 := hfin.out
          have h2 := HGE.out (by rintro rfl; have := HNE.out rfl; have := hzl.out; subst this; exact h (List.eq_nil_of_length_eq_zero (by omega)))
          rw [hzl.out]
          omega)
        go_wp2_with fail
        go_ret
        exact ⟨_, zs, rfl, by rw [hzl.out]; exact HOW.out, hcz, by have := hfin.out; omega, hB2⟩
      · have h0i : ¬ (cr : Int) = 0 := by omega
        have hm : (cr : Int) % 4294967296 = (cr : Int) := by omega
        have HO3 : Hid (World.ownsRow (wr.alloc (.cells #[.int .u32 (cr : Int)] 53)) B 53 1 (.slice (some ⟨gb, 0, none⟩) k c) zs.length (u32s zs)) := Lib.hid (by rw [hzl.out]; exact HOW.out.below ((Below.refl _ wr).alloc (Nat.le_refl _) _))
        have HR1 : Hid (Ra (wr.alloc (.cells #[.int .u32 (cr : Int)] 53)) (wr.heap.size + 1) (some ⟨wr.heap.size, 0, none⟩) [cr]) := Lib.hid (Ra.one wr cr 53)
        have hcz : Cn (zs ++ [cr]) := Cn.snoc hzd.out (by omega) (by omega)
        have HU : Hid (U (zs ++ [cr]) = 1000000000 * U xs + g) := Lib.hid (by rw [U_append, hzl.out]; have := hfin.out; simp only [U, Nat.mul_zero, Nat.add_zero]; omega)
        go_wp2_with (at_builtin; go_loud (refine wpList_append_u32s _ rfl (.tmp 31) (.tmp 34) 23 rfl B 53 Tryz.underlying23 info_u32 (.slice (some ⟨gb, 0, none⟩) k c) zs rfl HO3.out (wr.heap.size + 1) (some ⟨wr.heap.size, 0, none⟩) 1 [cr] _ rfl rfl HR1.out (by have := hzl.out; simp; omega) (by simp; omega) ?_); intro A4 n4 c4 w4 hl4 hc4 hown4 hg4)
        go_ret
        exact ⟨_, zs ++ [cr], rfl, by rw [hl4.out]; exact hown4.out, hcz, HU.out, (hB2.alloc (by omega) _).grown hg4 (by simp; omega) (by intro k hk; simp [Value.ownBlock] at hk; omega)⟩
end Go.Proofs.YtaifigkbblncpaaGreatDoor

namespace Go.Proofs.YtaifigkbblncpaaGreatDoor
open Go.RowKit
set_option maxRecDepth 100000

/-- What a row of decimal digits spells, behind the number acc. -/
def DV (acc : Nat) (l : List UInt8) : Nat := l.foldl (fun v c => v * 10 + (c.toNat - 48)) acc
theorem DV_nil (acc : Nat) : DV acc [] = acc := rfl
theorem DV_cons (acc : Nat) (c : UInt8) (r : List UInt8) : DV acc (c :: r) = DV (acc * 10 + (c.toNat - 48)) r := by unfold DV; exact List.foldl_cons ..
/-- A string's length. -/
def strLen : Value → Nat
  | .string t => t.size
  | _ => 0
theorem DV_acc (acc : Nat) (l : List UInt8) : DV acc l = acc * 10 ^ l.length + DV 0 l := by
  induction l generalizing acc with
  | nil => simp [DV_nil]
  | cons c r ih =>
    rw [DV_cons, ih, DV_cons, ih (0 * 10 + (c.toNat - 48)), List.length_cons, Nat.pow_succ]
    grind
theorem DV_app (acc : Nat) (l r : List UInt8) : DV acc (l ++ r) = DV (DV acc l) r := by
  induction l generalizing acc with
  | nil => rfl
  | cons c l ih => exact ih _
theorem DV_lt (l : List UInt8) (h : l.all digB = true) : DV 0 l < 10 ^ l.length := by
  induction l with
  | nil => simp [DV_nil]
  | cons c r ih =>
    simp only [List.all_cons, Bool.and_eq_true] at h
    have h1 := ih h.2
    have h2 : c.toNat ≤ 57 := by have := h.1; simp [digB] at this; exact this.2
    rw [DV_cons, DV_acc, List.length_cons, Nat.pow_succ]
    have h3 : (0 * 10 + (c.toNat - 48)) * 10 ^ r.length ≤ 9 * 10 ^ r.length := Nat.mul_le_mul_right _ (by omega)
    omega
theorem parse_digits (l : List UInt8) (acc k : Nat) (h : l.all digB = true) (hl : l.length + k ≤ 9) (ha : acc < 10 ^ k) : Lib.parseUintM 4294967295 acc l = .ok (DV acc l) := by
  induction l generalizing acc k with
  | nil => rfl
  | cons c r ih =>
    simp only [List.all_cons, Bool.and_eq_true] at h
    simp only [List.length_cons] at hl
    have h2 : 48 ≤ c.toNat ∧ c.toNat ≤ 57 := by have := h.1; simpa [digB] using this
    have h4 : (10 : Nat) ^ k ≤ 10 ^ 8 := Nat.pow_le_pow_right (by omega) (by omega)
    have h5 : (10 : Nat) ^ 8 = 100000000 := by decide
    rw [Lib.parseUintM, if_pos h2, if_neg (by omega), if_neg (by omega), DV_cons]
    exact ih _ (k + 1) h.2 (by omega) (by rw [Nat.pow_succ]; omega)
theorem parse_group (l : List UInt8) (h : l.all digB = true) (hl : l.length ≤ 9) (hp : 0 < l.length) : Lib.parseUintB 32 l = .ok (DV 0 l) := by
  unfold Lib.parseUintB
  rw [if_neg (by rintro rfl; simp at hp)]
  exact parse_digits l 0 0 h (by omega) (by decide)
theorem all_take {l : List UInt8} (h : l.all digB = true) (k : Nat) : (l.take k).all digB = true := List.all_eq_true.2 fun x hx => List.all_eq_true.1 h x (List.mem_of_mem_take hx)
theorem all_drop {l : List UInt8} (h : l.all digB = true) (k : Nat) : (l.drop k).all digB = true := List.all_eq_true.2 fun x hx => List.all_eq_true.1 h x (List.mem_of_mem_drop hx)
theorem Cn.len_le {zs : List Nat} {p : Nat} (h : Cn zs) (hU : U zs < 10 ^ p) : zs.length ≤ p := by
  rcases Nat.eq_zero_or_pos zs.length with h0 | h0
  · omega
  · have h1 := U_ge h (by rintro rfl; simp at h0)
    have h2 : (10 : Nat) ^ p ≤ 4294967296 ^ p := Nat.pow_le_pow_left (by omega) _
    have h3 : (4294967296 : Nat) ^ (zs.length - 1) < 4294967296 ^ p := by omega
    have h4 := (Nat.pow_lt_pow_iff_right (a := 4294967296) (by omega)).1 h3
    omega
theorem ext_list (t : ByteArray) (a b : Nat) : (t.extract a b).data.toList = (t.data.toList.drop a).take (b - a) := by
  simp only [ByteArray.data_extract, Array.toList_extract, List.extract_eq_take_drop]
theorem ba_len (t : ByteArray) : t.data.toList.length = t.size := Array.length_toList

/-- What Parse answers to digits. -/
def Parsed (w : World) (a : Nat) (e : Ending) (w' : World) : Prop :=
  ∃ A n c zs, e = .returned (.tuple #[.slice A n c, .int .i64 0]) ∧ Ow w' w.heap.size (.slice A n c) n zs ∧ n ≤ c ∧ n ≤ 5000 ∧ Cn zs ∧ U zs = a ∧ Below w.heap.size w w'

theorem parse_many (s : ByteArray) (h : 4096 < s.size) (w : World) :
    Calls Tryz.prog 20 #[.string s] w fun e w' => e = .returned (.tuple #[.slice none 0 0, .int .i64 5]) ∧ w' = w := by
  go_enter Tryz.func20, Tryz.ntmps20
  go_wp2_with fail
  go_ret2
  exact ⟨rfl, rfl⟩
theorem parse_form (s : ByteArray) (h : s.size ≤ 4096) (hd : isDecB s.data.toList = false) (w : World) :
    Calls Tryz.prog 20 #[.string s] w fun e w' => e = .returned (.tuple #[.slice none 0 0, .int .i64 3]) ∧ Below w.heap.size w w' := by
  have hdec := isDec_any s (by omega) w
  rw [hd] at hdec
  go_enter Tryz.func20, Tryz.ntmps20
  go_wp2_with fail
  refine hdec.mono ?_
  rintro e w1 ⟨rfl, hb⟩
  go_wp2_with fail
  go_ret2
  exact ⟨rfl, hb⟩

set_option maxHeartbeats 4000000 in
theorem parse_ok (s : ByteArray) (h : s.size ≤ 4096) (hd : isDecB s.data.toList = true) (w : World) :
    Calls Tryz.prog 20 #[.string s] w (Parsed w (DV 0 s.data.toList)) := by
  have hdec := isDec_any s (by omega) w
  rw [hd] at hdec
  have hall : s.data.toList.all digB = true := by
    simp only [isDecB, Bool.and_eq_true] at hd
    exact hd.2
  have hlen := ba_len s
  obtain ⟨l, hl⟩ : ∃ l, s.data.toList = l := ⟨_, rfl⟩
  rw [hl] at hlen hall
  rw [hl]
  have HL := Lib.hid hl
  have HALL := Lib.hid hall
  have HLEN := Lib.hid hlen
  clear hd hl hall hlen
  go_enter Tryz.func20, Tryz.ntmps20
  go_wp2_with fail
  refine hdec.mono ?_
  rintro e w1 ⟨rfl, hb⟩
  go_wp2_with fail
  go_loopw [0, 4] (fun sv nv wr => ∃ (t : ByteArray) (p : Nat) (A : Option Addr) (n c : Nat) (zs : List Nat), sv = .string t ∧ nv = .slice A n c ∧ p ≤ s.size ∧ t.size = s.size - p ∧ t.data.toList = l.drop p ∧ (p = 0 ∨ t.size % 9 = 0) ∧ Ow wr w.heap.size (.slice A n c) n zs ∧ n ≤ c ∧ n ≤ p ∧ Cn zs ∧ U zs = DV 0 (l.take p) ∧ Below w.heap.size w wr) (fun sv _ _ => strLen sv)
  case atStart => exact ⟨s, 0, none, 0, 0, [], rfl, rfl, by omega, by omega, by rw [HL.out]; rfl, .inl rfl, Ow.nil _ _, by omega, by omega, Cn.nil, rfl, hb⟩
  case round =>
    obtain ⟨t, p, A, n, c, zs, rfl, rfl, hp, hts, htl, h9, how, hnc, hnp, hcn, hU, hbr⟩ := hrel
    have HOW := Lib.hid how
    have HTL := Lib.hid htl
    have HU := Lib.hid hU
    have HCN := Lib.hid hcn
    have H9 := Lib.hid h9
    clear how htl hU hcn h9
    by_cases h0 : 0 < t.size
    · obtain ⟨z, hz⟩ : ∃ z, (s.size - p - 1) % 9 + 1 = z := ⟨_, rfl⟩
      have hz9 : z ≤ 9 := by omega
      have hz0 : 0 < z := by omega
      have hzt : z ≤ s.size - p := by omega
      have hchunk : (t.extract 0 z).data.toList = (l.drop p).take z := by rw [ext_list, HTL.out]; simp
      have hcl : ((l.drop p).take z).length = z := by rw [List.length_take, List.length_drop, HLEN.out]; omega
      have hca := all_take (all_drop HALL.out p) z
      obtain ⟨u, hu⟩ : ∃ u, DV 0 ((l.drop p).take z) = u := ⟨_, rfl⟩
      have hul : u < 1000000000 := by
        have h1 := DV_lt _ hca
        rw [hu, hcl] at h1
        have h2 : (10 : Nat) ^ z ≤ 10 ^ 9 := Nat.pow_le_pow_right (by omega) hz9
        have h3 : (10 : Nat) ^ 9 = 1000000000 := by decide
        omega
      have hpg := parse_group _ hca (by omega) (by omega)
      rw [hu, ← hchunk] at hpg
      have hnext : 1000000000 * U zs + u = DV 0 (l.take (p + z)) := by
        rw [List.take_add, DV_app, DV_acc, hu, hcl, ← HU.out]
        rcases H9.out with h | h
        · have : U zs = 0 := by rw [HU.out, h]; rfl
          rw [this]; omega
        · have : z = 9 := by omega
          rw [this]
          have h3 : (10 : Nat) ^ 9 = 1000000000 := by decide
          rw [h3]; omega
      have hnl : DV 0 (l.take (p + z)) < 10 ^ (p + z) := by
        have h1 := DV_lt _ (all_take HALL.out (p + z))
        rwa [List.length_take, HLEN.out, Nat.min_eq_left (by omega)] at h1
      have hg9 : p + z = 0 ∨ (s.size - (p + z)) % 9 = 0 := by omega
      have hsz : (t.extract 0 z).size ≤ 9223372036854775806 := by
        have := ba_len (t.extract 0 z)
        rw [hchunk, hcl] at this
        omega
      have HPG := Lib.hid hpg
      have HNX := Lib.hid hnext
      have HNL := Lib.hid hnl
      have HG9 := Lib.hid hg9
      have HZ := Lib.hid hz
      clear hpg hnext hnl hg9 hu hca hcl hchunk
      go_wp2_with fail
      rw [HZ.out]
      refine (Tryz.strconv_ParseUint_10_at32_ok (t.extract 0 z) hsz u HPG.out wr).mono ?_
      rintro e w3 ⟨rfl, hw3⟩
      have hb3 : Below wr.heap.size wr w3 := by
        rcases hw3 with rfl | rfl
        · exact Below.refl _ _
        · exact Lib.bytesWorld_below _ _ _
      have hB3 : Below w.heap.size w w3 := hbr.trans (hb3.mono hbr.size)
      have hs3 := hB3.size
      have how3 := HOW.out.below hb3
      clear hw3
      rw [← HZ.out] at hzt
      go_wp2_with fail
      refine (appendGroup_any w.heap.size A c n u zs w3 how3 HCN.out hnc hs3 (by omega) hul).mono ?_
      rintro e w4 ⟨v4, zs4, rfl, how4, hcn4, hU4, hb4⟩
      obtain ⟨A4, c4, rfl, hc4⟩ := how4.form
      have HOW4 := Lib.hid how4
      have HCN4 := Lib.hid hcn4
      have HU4 : Hid (U zs4 = DV 0 (l.take (p + z))) := Lib.hid (by rw [hU4]; exact HNX.out)
      have hl4 : zs4.length ≤ p + z := Cn.len_le hcn4 (by rw [HU4.out]; exact HNL.out)
      have hB4 : Below w.heap.size w w4 := hB3.trans hb4
      clear how4 hcn4 hU4 how3
      have hrest : (t.extract z (s.size - p)).data.toList = l.drop (p + z) := by
        rw [ext_list, HTL.out, List.drop_drop, List.take_of_length_le (by rw [List.length_drop, HLEN.out]; omega)]
      have hrs : (t.extract z (s.size - p)).size = s.size - (p + z) := by
        have h1 := ba_len (t.extract z (s.size - p))
        rw [hrest, List.length_drop, HLEN.out] at h1
        omega
      have HRE := Lib.hid hrest
      have HRS := Lib.hid hrs
      clear hrest hrs
      go_wp2_with fail
      rw [HZ.out]
      refine ⟨⟨t.extract z (s.size - p), p + z, A4, _, c4, zs4, rfl, rfl, by have := HZ.out; omega, HRS.out, HRE.out, .inr (by rw [HRS.out]; rcases HG9.out with h | h <;> omega), HOW4.out, hc4, hl4, HCN4.out, HU4.out, hB4⟩, ?_⟩
      show (t.extract z (s.size - p)).size < t.size
      rw [HRS.out]
      omega
    · go_wp2_with fail
      go_ret2
      have hpe : p = s.size := by omega
      exact ⟨A, n, c, zs, rfl, HOW.out, hnc, by omega, HCN.out, by rw [HU.out, hpe, List.take_of_length_le (by have := HLEN.out; omega)], hbr⟩
end Go.Proofs.YtaifigkbblncpaaGreatDoor
