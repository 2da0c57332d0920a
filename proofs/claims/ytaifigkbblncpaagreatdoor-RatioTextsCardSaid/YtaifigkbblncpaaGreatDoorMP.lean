/-
  Numbers in digits of 32 bits: bits, the order.
  Numbers in digits of 32 bits: Cmp.
-/
import Derived.Test.YtaifigkbblncpaaGreatDoorNatC
import Derived.Test.YtaifigkbblncpaaGreatDoorMC
import Derived.Test.YtaifigkbblncpaaGreatDoorMO
import Derived.Deep.RegionHeld3
import Derived.Deep.RegionLaw
import Derived.Deep.CutBlock
import Derived.Deep.DeepCutAuto
import Derived.Test.YtaifigkbblncpaaGreatDoorShelf
namespace Go.Proofs.YtaifigkbblncpaaGreatDoor
open Go.RowKit Go.Shelf
set_option maxRecDepth 100000
attribute [local go_sem] Oper.semAt_some

theorem compareInt_eq (a b : Nat) : Lib.compareInt (a : Int) (b : Int) = cmpI a b := by
  unfold Lib.compareInt cmpI
  split <;> split <;> first | rfl | omega | (split <;> first | rfl | omega)

theorem isNaN32 (x : Int) (w : World) : Calls Tryz.prog 80 #[.int .u32 x] w fun e w' => e = .returned (.bool false) ∧ w = w' := by
  go_enter Tryz.func80, Tryz.ntmps80
  go_wp2
  go_ret
  exact ⟨rfl, rfl⟩
set_option maxHeartbeats 1000000 in
theorem compare32 (a b : Nat) (w : World) (ha : a < 4294967296) (hb : b < 4294967296) : Calls Tryz.prog 62 #[.int .u32 (a : Int), .int .u32 (b : Int)] w fun e w' => e = .returned (.int .i64 (cmpI a b)) ∧ w = w' := by
  obtain ⟨z, hz⟩ : ∃ z, cmpI a b = z := ⟨_, rfl⟩
  rw [hz]
  have h3 : (a < b ∧ z = -1) ∨ (b < a ∧ ¬ a < b ∧ z = 1) ∨ (a = b ∧ z = 0) := by
    rcases Nat.lt_trichotomy a b with h | h | h
    · exact .inl ⟨h, by rw [← hz, cmpI_lt h]⟩
    · exact .inr (.inr ⟨h, by rw [← hz, cmpI_eq h]⟩)
    · exact .inr (.inl ⟨h, by omega, by rw [← hz, cmpI_gt h]⟩)
  clear hz
  rcases h3 with ⟨h1, rfl⟩ | ⟨h1, h2, rfl⟩ | ⟨rfl, rfl⟩
  all_goals
    go_enter Tryz.func62, Tryz.ntmps62
    go_wp2_with (go_at_call 80; refine (isNaN32 _ _).mono ?_; rintro e w' ⟨rfl, rfl⟩)
    go_ret
    exact ⟨rfl, rfl⟩

/-- b is the least number of which a is below 2^b. -/
def IsBits (a b : Nat) : Prop := a < 2 ^ b ∧ (b = 0 ∨ 2 ^ (b - 1) ≤ a)
theorem IsBits.same {a b c : Nat} (h : IsBits a b) (k : IsBits a c) : b = c := by
  obtain ⟨h1, h2⟩ := h
  obtain ⟨k1, k2⟩ := k
  rcases Nat.lt_trichotomy b c with h | h | h
  · have := Nat.pow_le_pow_right (show 0 < 2 by omega) (show b ≤ c - 1 by omega)
    omega
  · exact h
  · have := Nat.pow_le_pow_right (show 0 < 2 by omega) (show c ≤ b - 1 by omega)
    omega
theorem bits_len {d low k : Nat} (hd : d < 4294967296) (h0 : d ≠ 0) (hlow : low < 4294967296 ^ k) : IsBits (low + 4294967296 ^ k * d) (k * 32 + Lib.bitLen d) := by
  obtain ⟨h1, h2, h3⟩ := Lib.bitLenAux_bounds 64 d (Nat.lt_trans hd (by decide)) h0
  have e : Lib.bitLenAux 64 d = Lib.bitLen d := rfl
  rw [e] at h1 h2 h3
  generalize Lib.bitLen d = l at *
  have hp : (4294967296 : Nat) ^ k = 2 ^ (k * 32) := by rw [show (4294967296 : Nat) = 2 ^ 32 by decide, ← Nat.pow_mul, Nat.mul_comm]
  rw [hp] at hlow ⊢
  refine ⟨?_, .inr ?_⟩
  · rw [Nat.pow_add]
    have : 2 ^ (k * 32) * (d + 1) ≤ 2 ^ (k * 32) * 2 ^ l := Nat.mul_le_mul_left _ h3
    rw [Nat.mul_add] at this
    omega
  · rw [show k * 32 + l - 1 = k * 32 + (l - 1) by omega, Nat.pow_add]
    have : 2 ^ (k * 32) * 2 ^ (l - 1) ≤ 2 ^ (k * 32) * d := Nat.mul_le_mul_left _ h2
    omega

set_option maxHeartbeats 1000000 in
theorem natBits_any (A : Option Addr) (xs : List Nat) (n c : Nat) (w : World) (hl : xs.length = n) (hr : Ra w w.heap.size A xs) (hd : Dg xs) (hn : n ≤ 10000000) (hc : n ≤ c) :
    Calls Tryz.prog 45 #[.slice A n c] w fun e w' => ∃ b : Nat, e = .returned (.int .i64 (b : Int)) ∧ IsBits (U xs) b ∧ w = w' := by
  have hcan := cl_can hd
  have hU := cl_U xs
  have hcl := cl_le xs
  go_enter Tryz.func45, Tryz.ntmps45
  go_wp2_with fail
  refine (shorten_cl A xs n c w hl hr hd hn hc).mono ?_
  rintro e w' ⟨rfl, rfl⟩
  obtain ⟨m, hm⟩ : ∃ m, cl xs = m := ⟨_, rfl⟩
  rw [hm] at hcan hU hcl ⊢
  have hmn : m ≤ n := by omega
  have HC := Lib.hid hcan
  have HL := Lib.hid hl
  clear hm hcan hl
  by_cases h0 : 0 < m
  · obtain ⟨k, rfl⟩ : ∃ k, m = k + 1 := ⟨m - 1, by omega⟩
    obtain ⟨b, o, hA, _, cx⟩ := hr.at_ (k := k) (by omega)
    subst hA
    have hdk := hd.nth k
    have hb : IsBits (U xs) (k * 32 + Lib.bitLen (nth xs k)) := by
      rw [← hU, U_take_succ]
      refine bits_len hdk ?_ ?_
      · have h1 := HC.out.2 (by intro h; have h2 := congrArg List.length h; rw [List.length_take, List.length_nil] at h2; have := HL.out; omega)
        have h2 : (xs.take (k + 1)).length = k + 1 := by simp; omega
        rw [h2, nth_take (by omega)] at h1
        simpa using h1
      · have h1 := U_lt (hd.take k)
        rwa [show (xs.take k).length = k by simp; omega] at h1
    have HB := Lib.hid hb
    have hbl : Lib.bitLen (nth xs k) ≤ 32 := Lib.bitLen_le _ 32 (by omega) (Nat.lt_of_lt_of_le hdk (by decide))
    obtain ⟨l, hll⟩ : ∃ l, Lib.bitLen (nth xs k) = l := ⟨_, rfl⟩
    rw [hll] at HB hbl
    have HLL := Lib.hid hll
    clear hb hll hU
    go_wp2_with fail
    refine (Tryz.bits_Len32 ((nth xs k : Nat) : Int) _ (by omega) (by omega)).mono ?_
    rintro e w' ⟨rfl, rfl⟩
    rw [Int.toNat_natCast, HLL.out]
    go_wp2_with fail
    go_ret
    exact ⟨k * 32 + l, by go_num, HB.out, rfl⟩
  · obtain rfl : m = 0 := by omega
    have h1 : U xs = 0 := by rw [← hU]; simp [U]
    have HU := Lib.hid h1
    clear h1 hU
    go_wp2_with fail
    go_ret
    exact ⟨0, rfl, ⟨by rw [HU.out]; decide, .inl rfl⟩, rfl⟩

theorem cmp_at {xs ys : List Nat} {m p : Nat} (hx : Dg xs) (hy : Dg ys) (hlx : xs.length = m) (hly : ys.length = m) (hp : p < m) (he : ∀ j, p < j → nth xs j = nth ys j) (hne : nth xs p ≠ nth ys p) : cmpI (U xs) (U ys) = cmpI (nth xs p) (nth ys p) := by
  have hdrop : xs.drop (p + 1) = ys.drop (p + 1) := by
    apply List.ext_getElem
    · simp [hlx, hly]
    · intro i h1 h2
      have := he (p + 1 + i) (by omega)
      simp only [List.length_drop] at h1 h2
      rw [nth_in (by omega), nth_in (by omega)] at this
      simpa using this
  have split : ∀ zs : List Nat, zs.length = m → U zs = U (zs.take p) + 4294967296 ^ p * nth zs p + 4294967296 ^ (p + 1) * U (zs.drop (p + 1)) := fun zs hl => by
    have := U_append (zs.take (p + 1)) (zs.drop (p + 1))
    rw [List.take_append_drop, List.length_take, Nat.min_eq_left (by omega), U_take_succ] at this
    exact this
  have h1 := U_lt (hx.take p)
  have h2 := U_lt (hy.take p)
  rw [show (xs.take p).length = p by simp; omega] at h1
  rw [show (ys.take p).length = p by simp; omega] at h2
  rw [split xs hlx, split ys hly, hdrop]
  generalize 4294967296 ^ (p + 1) * U (ys.drop (p + 1)) = R
  generalize U (xs.take p) = a at *
  generalize U (ys.take p) = b at *
  generalize 4294967296 ^ p = P at *
  rcases Nat.lt_or_gt_of_ne hne with h | h
  · rw [cmpI_lt h]
    have : P * (nth xs p + 1) ≤ P * nth ys p := Nat.mul_le_mul_left _ h
    rw [Nat.mul_add] at this
    exact cmpI_lt (by omega)
  · rw [cmpI_gt h]
    have : P * (nth ys p + 1) ≤ P * nth xs p := Nat.mul_le_mul_left _ h
    rw [Nat.mul_add] at this
    exact cmpI_gt (by omega)
theorem cmp_len {xs ys : List Nat} (hx : Cn xs) (hy : Cn ys) (h : xs.length < ys.length) : U xs < U ys := by
  have h1 := U_lt hx.1
  have h2 := U_ge hy (by rintro rfl; simp at h)
  have h3 := Nat.pow_le_pow_right (show 0 < 4294967296 by omega) (show xs.length ≤ ys.length - 1 by omega)
  omega
end Go.Proofs.YtaifigkbblncpaaGreatDoor

namespace Go.Proofs.YtaifigkbblncpaaGreatDoor
open Go.RowKit Go.Shelf
set_option maxRecDepth 100000
attribute [local go_sem] Oper.semAt_some

/-- What the first statement of Cmp leaves: the second number cut, in its variable; the answer's variable, 0. -/
structure CmpMem (w : World) (s : Value) (W : World) : Prop where
  below : Below w.heap.size w W
  two : Blk W w.heap.size 23 #[s]
  res : Blk W (w.heap.size + 1) 3 #[.int .i64 0]

set_option maxHeartbeats 4000000 in
theorem natCmp_any (A1 A2 : Option Addr) (xs ys : List Nat) (n1 c1 n2 c2 : Nat) (w : World) (hl1 : xs.length = n1) (hl2 : ys.length = n2) (hr1 : Ra w w.heap.size A1 xs) (hr2 : Ra w w.heap.size A2 ys)
    (hd1 : Dg xs) (hd2 : Dg ys) (hn1 : n1 ≤ 1000000) (hn2 : n2 ≤ 1000000) (hc1 : n1 ≤ c1) (hc2 : n2 ≤ c2) :
    Calls Tryz.prog 31 #[.slice A1 n1 c1, .slice A2 n2 c2] w fun e w' => e = .returned (.int .i64 (cmpI (U xs) (U ys))) ∧ Below w.heap.size w w' := by
  obtain ⟨z, hz⟩ : ∃ z, cmpI (U xs) (U ys) = z := ⟨_, rfl⟩
  rw [hz]
  have HZ := Lib.hid hz
  have hk1 := cl_can hd1
  have hk2 := cl_can hd2
  have hU1 := cl_U xs
  have hU2 := cl_U ys
  have hcl1 := cl_le xs
  have hcl2 := cl_le ys
  have sh1 := fun wz (h : Below w.heap.size w wz) => shorten_cl A1 xs n1 c1 wz hl1 ((hr1.below h (Nat.le_refl _)).more h.size) hd1 (by omega) hc1
  have sh2 := fun wz (h : Below w.heap.size w wz) => shorten_cl A2 ys n2 c2 wz hl2 ((hr2.below h (Nat.le_refl _)).more h.size) hd2 (by omega) hc2
  obtain ⟨m1, hm1⟩ : ∃ m, cl xs = m := ⟨_, rfl⟩
  obtain ⟨m2, hm2⟩ : ∃ m, cl ys = m := ⟨_, rfl⟩
  rw [hm1] at hk1 hU1 hcl1
  rw [hm2] at hk2 hU2 hcl2
  simp only [hm1] at sh1
  simp only [hm2] at sh2
  have hmn1 : m1 ≤ n1 := by omega
  have hmn2 : m2 ≤ n2 := by omega
  have HL1 : Hid ((xs.take m1).length = m1) := Lib.hid (by simp; omega)
  have HL2 : Hid ((ys.take m2).length = m2) := Lib.hid (by simp; omega)
  have HZ2 : Hid (cmpI (U (xs.take m1)) (U (ys.take m2)) = z) := Lib.hid (by rw [hU1, hU2]; exact HZ.out)
  have HC1 := Lib.hid hk1
  have HC2 := Lib.hid hk2
  clear hz HZ hk1 hk2 hU1 hU2 hl1 hl2 hm1 hm2 hcl1 hcl2
  refine calls_of_leave Tryz.func31 rfl ?_
  simp only [Tryz.ntmps31, List.size_toArray, List.length_cons, List.length_nil, Nat.reduceAdd, Nat.reduceSub, Array.replicate_succ, Array.replicate_zero, List.push_toArray, List.append_toArray, List.nil_append, List.cons_append]
  have hB0 : Below w.heap.size w ((w.alloc (.cells #[.slice A2 n2 c2] 23)).alloc (.cells #[.int .i64 0] 3)).drew := (((Below.refl _ w).alloc (Nat.le_refl _) _).alloc (by simp) _).drew
  go_upto_region 1 with (fail)
  go_cut [0] from 9 to 12 (fun a wx => a = .slice A1 m1 c1 ∧ CmpMem w (.slice A2 m2 c2) wx)
  case first =>
    go_region_with (first
      | (go_at_call 59; (with_reducible refine (sh1 _ (by assumption)).mono ?_); rintro e w' ⟨rfl, rfl⟩)
      | (go_at_call 59; (with_reducible refine (sh2 _ (by assumption)).mono ?_); rintro e w' ⟨rfl, rfl⟩))
    all_goals
      go_wp2_with fail
      go_meet
      have hbk := Blk.new (w.alloc (.cells #[.slice A2 m2 c2] 23)) 3 #[.int .i64 0]
      rw [World.size_alloc] at hbk
      exact ⟨rfl, (((Below.refl _ w).alloc (Nat.le_refl _) _).alloc (by simp) _).drew, (Blk.new w 23 #[.slice A2 m2 c2]).alloc _, hbk⟩
  case rest =>
    obtain ⟨rfl, hm⟩ := hcut
    have c2c := hm.two.cell 0
    have f2c := hm.two.frozen 0
    have HM := Lib.hid hm
    clear hm
    have cr := HM.out.res.cell 0
    have fr := HM.out.res.frozen 0
    have hci := compareInt_eq m1 m2
    rcases Nat.lt_trichotomy m1 m2 with hlt | heq | hgt
    · have hz : z = -1 := by rw [← HZ2.out, cmpI_lt (cmp_len HC1.out HC2.out (by rw [HL1.out, HL2.out]; exact hlt))]
      rw [cmpI_lt hlt] at hci
      subst hz
      have HCI := Lib.hid hci
      clear hci
      go_wp2_with fail
      refine (Tryz.cmp_Compare_int (m1 : Int) (m2 : Int) _).mono ?_
      rintro e w' ⟨rfl, rfl⟩
      rw [HCI.out]
      go_wp2_with fail
      exact leave_plain (v := .int .i64 (-1)) (by simp [results, Tryz.results31, go_sem, cr, fr]) ⟨rfl, HM.out.below.setCell (by simp) _⟩
    · subst heq
      rw [cmpI_eq rfl] at hci
      have HCI := Lib.hid hci
      clear hci
      go_wp2_with fail
      refine (Tryz.cmp_Compare_int (m1 : Int) (m1 : Int) _).mono ?_
      rintro e W0 ⟨rfl, rfl⟩
      rw [HCI.out]
      go_wp2_with fail
      refine (backw_calls A1 m1 c1 _).mono ?_
      rintro e w' ⟨rfl, rfl⟩
      have hm := HM.out
      have hs0 := hm.res.lt
      have hBa : Below w.heap.size w (W0.alloc (.cells #[.slice A1 m1 c1] 23)) := hm.below.alloc (by omega) _
      have hrA : Ra (W0.alloc (.cells #[.slice A1 m1 c1] 23)) w.heap.size A1 (xs.take m1) := (hr1.take m1).below hBa (Nat.le_refl _)
      have hgo := backw_goes Fence.wide 4 trivial rfl (by omega) W0.heap.size A1 (xs.take m1) m1 c1 _ HL1.out (hrA.more (by simp; omega)) (by omega) (by omega) ((Blk.new W0 23 #[.slice A1 m1 c1]).cell 0)
      have hm2 := hm.two.alloc (.cells #[.slice A1 m1 c1] 23)
      have hm3 := hm.res.alloc (.cells #[.slice A1 m1 c1] 23)
      have hI0 := And.intro (And.intro (hm2.cell 0) (And.intro (hm3.cell 0) (And.intro (hm3.frozen 0) (fun (j : Nat) (hj : m1 - 0 ≤ j) => (show nth (xs.take m1) j = nth (ys.take m1) j by rw [nth_out (by rw [HL1.out]; omega), nth_out (by rw [HL2.out]; omega)]))))) hBa
      have HI0 := Lib.hid hI0
      clear hI0 hm2 hm3 hm cr fr c2c f2c
      go_wp2_with fail
      refine (wpIn_wide (n := 5)).1 ?_
      refine wpIn_rangeFunc_goes rfl (by omega) (gf := 79) (lb := #[.pointer (some ⟨W0.heap.size, 0, none⟩)]) rfl trivial (enters_of Tryz.func79 (by kernel_rfl) rfl)
        hgo (bkeep_lt HL1.out (hrA.more (by simp; omega)) (by simp)) (Below.refl _ _) (fun _ => rfl)
        (fun k W => (W.cell? ⟨w.heap.size, 0, none⟩ = some (.slice A2 m1 c2) ∧ W.cell? ⟨w.heap.size + 1, 0, none⟩ = some (.int .i64 0) ∧ W.frozen? ⟨w.heap.size + 1, 0, none⟩ = false ∧ ∀ j, m1 - k ≤ j → nth (xs.take m1) j = nth (ys.take m1) j) ∧ Below w.heap.size w W)
        (fun c k W => (c = .ret ∧ W.cell? ⟨w.heap.size + 1, 0, none⟩ = some (.int .i64 z)) ∧ Below w.heap.size w W)
        (OwnFrom.and (Own.from (fun s X Y row hs hg hr => ⟨cell_kept hs.1 hg hr, cell_kept hs.2.1 hg hr, (frozen_kept hs.2.1 hg hr).trans hs.2.2.1, hs.2.2.2⟩) _) (ownFrom_below (Nat.le_refl _) (by simp; omega)))
        (fun c => OwnFrom.and (Own.from (fun s X Y row hs hg hr => ⟨hs.1, cell_kept hs.2 hg hr⟩) _) (ownFrom_below (Nat.le_refl _) (by simp; omega)))
        HI0.out ?round ?done ?stop
      case round =>
        intro l k W hk _
        simp only [benc]
        gi_wp2
        refine ⟨trivial, ?_⟩
        rintro W ⟨⟨h2, h3, h4, h5⟩, hB⟩
        obtain ⟨p, hp⟩ : ∃ p, m1 - 1 - k = p := ⟨_, rfl⟩
        have hpm : p < m1 := by omega
        rw [hp]
        have HP := Lib.hid hp
        obtain ⟨b2, o2, hA2, _, cy⟩ := ((hr2.take m1).below hB (Nat.le_refl _)).at_ (k := p) (by rw [HL2.out]; exact hpm)
        subst hA2
        have hxp := HC1.out.1.nth p
        have hyp := HC2.out.1.nth p
        have H5 := Lib.hid h5
        clear h5 hp
        gi_wp2_with fail
        refine ⟨trivial, (CallsIn.inRound l (callsIn_wide.2 (compare32 (nth (xs.take m1) p) (nth (ys.take m1) p) _ hxp hyp))).mono ?_⟩
        rintro e W2 ⟨rfl, rfl⟩
        by_cases heq : nth (xs.take m1) p = nth (ys.take m1) p
        · rw [cmpI_eq heq]
          have HE := Lib.hid heq
          clear heq
          gi_wp2
          refine ⟨KeepsFrom.refl _ _, Same.refl _ _, ⟨h2, h3, h4, fun j hj => ?_⟩, hB⟩
          rcases Nat.lt_or_ge p j with h | h
          · exact H5.out j (by have := HP.out; omega)
          · rw [show j = p by have := HP.out; omega]; exact HE.out
        · have hz : cmpI (nth (xs.take m1) p) (nth (ys.take m1) p) = z := by rw [← HZ2.out, cmp_at HC1.out.1 HC2.out.1 HL1.out HL2.out hpm (fun j hj => H5.out j (by have := HP.out; omega)) heq]
          have hz0 : (z == 0) = false ∧ (z != 0) = true := by
            rcases Nat.lt_or_gt_of_ne heq with h | h
            · rw [cmpI_lt h] at hz; subst hz; exact ⟨rfl, rfl⟩
            · rw [cmpI_gt h] at hz; subst hz; exact ⟨rfl, rfl⟩
          have hzn : ¬ z = 0 := by intro h; rw [h] at hz0; simp at hz0
          obtain ⟨hz1, hz2⟩ := hz0
          rw [hz]
          have HZZ := Lib.hid hz
          clear hz heq
          gi_wp2
          exact ⟨(KeepsOthers.setCell _ _ _).from _, ⟨rfl, World.cell?_setCell_same' _ _ _ (by rw [h3]; rfl)⟩, hB.setCell (by simp) _⟩
      case done =>
        rintro D W hD ⟨⟨h2, h3, h4, h5⟩, hB⟩ hK
        have hz : z = 0 := by
          rw [← HZ2.out]
          refine cmpI_eq (congrArg U (List.ext_getElem (by rw [HL1.out, HL2.out]) fun i h1 h2 => ?_))
          have := h5 i (by omega)
          rwa [nth_in h1, nth_in h2] at this
        subst hz
        have hD2 : w.heap.size ≤ D := Nat.le_trans hBa.size hD
        have hK' := (KeepsOthers.setCell W ⟨w.heap.size + 1, 0, none⟩ (.int .i64 0)).same D _ hK rfl
        have h3' := World.cell?_setCell_same' W ⟨w.heap.size + 1, 0, none⟩ (.int .i64 0) (by rw [h3]; rfl)
        go_wp2_with fail
        exact leave_mark (v := .int .i64 0) hK' (by simp [results, Tryz.results31, go_sem, mark_cell hK' h3']) ⟨rfl, mark_below (hB.setCell (by simp) _) hK' hD2⟩
      case stop =>
        rintro D c k W hD _ ⟨⟨rfl, h3⟩, hB⟩ hK
        have hD2 : w.heap.size ≤ D := Nat.le_trans hBa.size hD
        refine wpIn_wide.2 ?_
        go_wp2_with fail
        exact leave_mark (v := .int .i64 z) hK (by simp [results, Tryz.results31, go_sem, mark_cell hK h3]) ⟨rfl, mark_below hB hK hD2⟩
    · have hz : z = 1 := by rw [← HZ2.out, cmpI_gt (cmp_len HC2.out HC1.out (by rw [HL1.out, HL2.out]; exact hgt))]
      rw [cmpI_gt hgt] at hci
      subst hz
      have HCI := Lib.hid hci
      clear hci
      go_wp2_with fail
      refine (Tryz.cmp_Compare_int (m1 : Int) (m2 : Int) _).mono ?_
      rintro e w' ⟨rfl, rfl⟩
      rw [HCI.out]
      go_wp2_with fail
      exact leave_plain (v := .int .i64 1) (by simp [results, Tryz.results31, go_sem, cr, fr]) ⟨rfl, HM.out.below.setCell (by simp) _⟩
end Go.Proofs.YtaifigkbblncpaaGreatDoor
