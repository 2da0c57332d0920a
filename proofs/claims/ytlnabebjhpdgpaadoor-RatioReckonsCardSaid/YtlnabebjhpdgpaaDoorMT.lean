/-
  Numbers in digits of 32 bits: Sub; Add and Mul of any many numbers.
  Numbers in digits of 32 bits: Add and Mul of any many numbers.
-/
import Derived.Test.YtlnabebjhpdgpaaDoorMU
import Derived.Test.YtlnabebjhpdgpaaDoorNatF
namespace Go.Proofs.YtlnabebjhpdgpaaDoor
open Go.RowKit
set_option maxRecDepth 100000

theorem takeOff_nil (c2 : Nat) (A2 : Option Addr) (m : Nat) (w : World) : Calls Tryd.prog 63 #[.slice none 0 0, .slice A2 0 c2, .int .u64 ((m : Nat) : Int)] w fun e w' => e = .returned (.bool false) ∧ w = w' := by
  go_enter Tryd.func63, Tryd.ntmps63
  go_wp2_with fail
  go_loop [7, 8, 14] (fun tv bv iv => tv = .int .u64 0 ∧ bv = .int .u64 0 ∧ iv = .int .i64 0) (fun _ _ _ => 0)
  case atStart => exact ⟨rfl, rfl, rfl⟩
  case round =>
    obtain ⟨rfl, rfl, rfl⟩ := hrel
    go_wp2_with fail
    go_ret
    exact ⟨rfl, rfl⟩

set_option maxHeartbeats 4000000 in
theorem natSub_no (A1 A2 : Option Addr) (xs ys : List Nat) (n1 c1 n2 c2 : Nat) (w : World) (hl1 : xs.length = n1) (hl2 : ys.length = n2) (hr1 : Ra w w.heap.size A1 xs) (hr2 : Ra w w.heap.size A2 ys)
    (hd1 : Dg xs) (hd2 : Dg ys) (hn1 : n1 ≤ 1000000) (hn2 : n2 ≤ 1000000) (hc1 : n1 ≤ c1) (hc2 : n2 ≤ c2) (hlt : U xs < U ys) :
    Calls Tryd.prog 44 #[.slice A1 n1 c1, .slice A2 n2 c2] w fun e w' => e = .returned (.tuple #[.slice none 0 0, .bool false]) ∧ Below w.heap.size w w' := by
  have hcmp := natCmp_any A1 A2 xs ys n1 c1 n2 c2 w hl1 hl2 hr1 hr2 hd1 hd2 hn1 hn2 hc1 hc2
  rw [cmpI_lt hlt] at hcmp
  clear hl1 hl2 hlt
  go_enter Tryd.func44, Tryd.ntmps44
  go_wp2_with fail
  refine hcmp.mono ?_
  rintro e w1 ⟨rfl, hb⟩
  go_wp2_with fail
  go_ret2
  exact ⟨rfl, hb⟩

set_option maxHeartbeats 4000000 in
theorem natSub_yes (A1 A2 : Option Addr) (xs ys : List Nat) (n1 c1 n2 c2 : Nat) (w : World) (hl1 : xs.length = n1) (hl2 : ys.length = n2) (hr1 : Ra w w.heap.size A1 xs) (hr2 : Ra w w.heap.size A2 ys)
    (hd1 : Dg xs) (hd2 : Dg ys) (hn1 : n1 ≤ 1000000) (hn2 : n2 ≤ 1000000) (hc1 : n1 ≤ c1) (hc2 : n2 ≤ c2) (hle : U ys ≤ U xs) :
    Calls Tryd.prog 44 #[.slice A1 n1 c1, .slice A2 n2 c2] w fun e w' => ∃ v, e = .returned (.tuple #[v, .bool true]) ∧ Nv w' w.heap.size v (U xs - U ys) ∧ Below w.heap.size w w' := by
  have hcmp := natCmp_any A1 A2 xs ys n1 c1 n2 c2 w hl1 hl2 hr1 hr2 hd1 hd2 hn1 hn2 hc1 hc2
  obtain ⟨z, hz, hz0⟩ : ∃ z : Int, cmpI (U xs) (U ys) = z ∧ 0 ≤ z := by
    rcases Nat.lt_or_ge (U ys) (U xs) with h | h
    · exact ⟨1, cmpI_gt h, by omega⟩
    · exact ⟨0, cmpI_eq (by omega), by omega⟩
  rw [hz] at hcmp
  have HLE := Lib.hid hle
  have HL1 := Lib.hid hl1
  have HL2 := Lib.hid hl2
  have hcl2 := cl_le ys
  have HU2 := Lib.hid (cl_U ys)
  have HC2 := Lib.hid (cl_can hd2)
  have hsh2 := fun wz (h : Below w.heap.size w wz) => shorten_cl A2 ys n2 c2 wz hl2 ((hr2.below h (Nat.le_refl _)).more h.size) hd2 (by omega) hc2
  obtain ⟨m2, hm2⟩ : ∃ m, cl ys = m := ⟨_, rfl⟩
  rw [hm2] at hcl2 HU2 HC2
  simp only [hm2] at hsh2
  have HML2 : Hid ((ys.take m2).length = m2) := Lib.hid (by simp; omega)
  clear hl1 hl2 hle hz hm2
  go_enter Tryd.func44, Tryd.ntmps44
  go_wp2_with fail
  refine hcmp.mono ?_
  rintro e w1 ⟨rfl, hb1⟩
  go_wp2_with fail
  refine (natCut_own A1 xs n1 c1 w1 HL1.out ((hr1.below hb1 (Nat.le_refl _)).more hb1.size) hd1 (by omega) hc1).mono ?_
  rintro e w2 ⟨m, hm, hcan, hU, v, rfl, how, hb2⟩
  have hlm : (xs.take m).length = m := by have := HL1.out; simp; omega
  rw [hlm] at how
  obtain ⟨A, c, rfl, hc⟩ := how.form
  have hbw2 : Below w.heap.size w w2 := hb1.trans (hb2.mono hb1.size)
  have HCAN := Lib.hid hcan
  have HU := Lib.hid hU
  have HOW := Lib.hid how
  have HLM := Lib.hid hlm
  have hm2m : m2 ≤ m := by
    rcases Nat.lt_or_ge m m2 with h | h
    · have := cmp_len HCAN.out HC2.out (by rw [HLM.out, HML2.out]; exact h)
      have h2 := HLE.out
      have h3 := HU.out
      have h4 := HU2.out
      omega
    · exact h
  have hrow := how.row
  clear hcan hU how hlm
  go_wp2_with fail
  refine (hsh2 _ hbw2).mono ?_
  rintro e w3 ⟨rfl, rfl⟩
  go_wp2_with fail
  rcases hrow with ⟨rfl, rfl, rfl, hnil⟩ | ⟨g, rfl⟩
  · obtain rfl : m2 = 0 := by omega
    have hux : U xs - U ys = 0 := by have h1 := HU.out; have h2 := HU2.out; rw [hnil] at h1; simp [U] at h1 h2; omega
    have HUX := Lib.hid hux
    clear hux hnil
    refine (takeOff_nil c2 A2 1 w2).mono ?_
    rintro e w4 ⟨rfl, rfl⟩
    go_wp2_with fail
    refine (shorten_cl none [] 0 0 w2 rfl (Ra.nil _ _ _) Dg.nil (by omega) (by omega)).mono ?_
    rintro e w5 ⟨rfl, rfl⟩
    rw [show cl [] = 0 from rfl]
    go_wp2_with fail
    go_ret2
    exact ⟨_, rfl, ⟨none, [], 0, 0, rfl, rfl, Nat.le_refl _, Ra.nil _ _ _, fun h => absurd rfl h, Cn.nil, by rw [HUX.out]; rfl⟩, hbw2⟩
  · obtain ⟨R, hw, hBg, hcap, hmax⟩ := HOW.out.win
    have hgl := hw.lt
    have hBg2 : w.heap.size ≤ g := Nat.le_trans hb1.size hBg
    refine (takeOff_any g 0 [] R (xs.take m) (ys.take m2) 1 m c m2 c2 A2 w2 HLM.out HML2.out rfl hw (((hr2.take m2).below hbw2 (Nat.le_refl _)).more hBg2) HCAN.out.1 HC2.out.1 (by omega) hm2m hc (by omega)).mono ?_
    rintro e w3 ⟨T, zs, rfl, hzl, hzd, hzU, hwin, hgr⟩
    have hT : T = 0 ∧ U zs = U xs - U ys := by
      have h1 := U_lt hzd
      rw [hzl] at h1
      have h2 := HLE.out
      rw [HU.out, HU2.out] at hzU
      rcases Nat.eq_zero_or_pos T with h | h
      · subst h; omega
      · have : 4294967296 ^ m * 1 ≤ 4294967296 ^ m * T := Nat.mul_le_mul_left _ h
        omega
    obtain ⟨rfl, hzs⟩ := hT
    have hb3 : Below w.heap.size w w3 := hbw2.trans ((wrote_below hgr hBg2 hgl))
    have how3 : Ow w3 w.heap.size (.slice (some ⟨g, 0, none⟩) m c) m zs := Ow.of_win hwin hzl hBg2 hcap hmax
    have HOW3 := Lib.hid how3
    have HZL := Lib.hid hzl
    have HZS := Lib.hid hzs
    clear how3 hzl hzs hzU hwin hw hcap
    go_wp2_with fail
    refine (shorten_cl _ zs m c w3 HZL.out HOW3.out.reads.1 hzd (by omega) hc).mono ?_
    rintro e w5 ⟨rfl, rfl⟩
    have hclz := cl_le zs
    have HOW5 := Lib.hid (HOW3.out.take (m := cl zs) (by have := HZL.out; omega))
    have HC5 := Lib.hid (cl_can hzd)
    have HU5 : Hid (U (zs.take (cl zs)) = U xs - U ys) := Lib.hid (by rw [cl_U, HZS.out])
    obtain ⟨k, hk⟩ : ∃ k, cl zs = k := ⟨_, rfl⟩
    rw [hk] at HOW5 HC5 HU5 hclz ⊢
    have hkc : k ≤ c := by have := HZL.out; omega
    clear hk
    go_wp2_with fail
    go_ret2
    have := HOW5.out.nv hkc HC5.out
    rw [HU5.out] at this
    exact ⟨_, rfl, this, hb3⟩
end Go.Proofs.YtlnabebjhpdgpaaDoor

namespace Go.Proofs.YtlnabebjhpdgpaaDoor
open Go.RowKit
set_option maxRecDepth 100000

/-- A slice of slices of uint32, at address A, reads in world w as the lists L; all lies below block B; no list is longer than M. -/
def Rows (w : World) (B : Nat) (A : Option Addr) (L : List (List Nat)) (M : Nat) : Prop :=
  ∀ k xs, L[k]? = some xs → ∃ b o A' n' c', A = some ⟨b, o, none⟩ ∧ b < B ∧ w.cell? ⟨b, o + k, none⟩ = some (.slice A' n' c') ∧ xs.length = n' ∧ n' ≤ c' ∧ Ra w B A' xs ∧ Dg xs ∧ n' ≤ M
theorem Rows.below {w w' : World} {B M : Nat} {A : Option Addr} {L : List (List Nat)} (h : Rows w B A L M) (hb : Below B w w') : Rows w' B A L M := fun k xs hk => by
  obtain ⟨b, o, A', n', c', h1, h2, h3, h4, h5, h6, h7, h8⟩ := h k xs hk
  exact ⟨b, o, A', n', c', h1, h2, (hb.cell (p := ⟨b, o + k, none⟩) h2).trans h3, h4, h5, h6.below hb (Nat.le_refl _), h7, h8⟩
theorem Rows.nil (w : World) (B M : Nat) (A : Option Addr) : Rows w B A [] M := fun k xs hk => by simp at hk

/-- The sum, the product of the numbers. -/
def sumU : List (List Nat) → Nat
  | [] => 0
  | xs :: r => U xs + sumU r
def prodU : List (List Nat) → Nat
  | [] => 1
  | xs :: r => U xs * prodU r
theorem sumU_snoc (L : List (List Nat)) (xs : List Nat) : sumU (L ++ [xs]) = sumU L + U xs := by
  induction L with
  | nil => simp [sumU]
  | cons y r ih => simp only [List.cons_append, sumU, ih]; omega
theorem prodU_snoc (L : List (List Nat)) (xs : List Nat) : prodU (L ++ [xs]) = prodU L * U xs := by
  induction L with
  | nil => simp [prodU]
  | cons y r ih => simp only [List.cons_append, prodU, ih, Nat.mul_assoc]
theorem take_snoc_some {α : Type} {L : List α} {k : Nat} {x : α} (h : L[k]? = some x) : L.take (k + 1) = L.take k ++ [x] := by
  obtain ⟨hk, hx⟩ := List.getElem?_eq_some_iff.1 h
  rw [List.take_succ_eq_append_getElem hk, hx]
theorem sum_small {L : List (List Nat)} {M : Nat} (h : ∀ xs ∈ L, U xs < 4294967296 ^ M) (hl : L.length ≤ 1000) : sumU L < 4294967296 ^ (M + 1) := by
  have key : ∀ L : List (List Nat), (∀ xs ∈ L, U xs < 4294967296 ^ M) → sumU L ≤ L.length * 4294967296 ^ M := by
    intro L
    induction L with
    | nil => intro _; simp [sumU]
    | cons y r ih =>
      intro h
      have h1 := h y (by simp)
      have h2 := ih (fun xs hx => h xs (by simp [hx]))
      simp only [sumU, List.length_cons, Nat.add_mul]
      omega
  have h1 := key L h
  have h2 : L.length * 4294967296 ^ M ≤ 1000 * 4294967296 ^ M := Nat.mul_le_mul_right _ hl
  have h3 : 0 < 4294967296 ^ M := Nat.pow_pos (by omega)
  rw [Nat.pow_succ]
  omega
theorem prod_small {L : List (List Nat)} {M : Nat} (h : ∀ xs ∈ L, U xs < 4294967296 ^ M) : prodU L < 4294967296 ^ (L.length * M + 1) := by
  induction L with
  | nil => simp [prodU]
  | cons y r ih =>
    have h1 := h y (by simp)
    have h2 := ih (fun xs hx => h xs (by simp [hx]))
    simp only [prodU, List.length_cons]
    rw [show (r.length + 1) * M + 1 = M + (r.length * M + 1) by rw [Nat.add_mul]; omega, Nat.pow_add]
    have h3 : 0 < 4294967296 ^ M := Nat.pow_pos (by omega)
    have h4 : U y * prodU r ≤ 4294967296 ^ M * prodU r := Nat.mul_le_mul_right _ (by omega)
    have h5 : 4294967296 ^ M * prodU r < 4294967296 ^ M * 4294967296 ^ (r.length * M + 1) := Nat.mul_lt_mul_of_pos_left h2 h3
    omega

set_option maxHeartbeats 4000000 in
theorem natAdd_any (A : Option Addr) (L : List (List Nat)) (n c M : Nat) (w : World) (hl : L.length = n) (hr : Rows w w.heap.size A L M) (hn : n ≤ 1000) (hM : M ≤ 100000) :
    Calls Tryd.prog 35 #[.slice A n c] w (RetNv w (sumU L)) := by
  have HL := Lib.hid hl
  have HR := Lib.hid hr
  have hsm : ∀ k, sumU (L.take k) < 4294967296 ^ (M + 1) := fun k => sum_small (fun xs hx => by
    obtain ⟨i, hi, he⟩ := List.getElem_of_mem (List.mem_of_mem_take hx)
    obtain ⟨_, _, _, n', _, _, _, _, h4, _, _, h7, h8⟩ := hr i xs (by rw [List.getElem?_eq_getElem hi, he])
    exact Nat.lt_of_lt_of_le (U_lt h7) (Nat.pow_le_pow_right (by omega) (by omega))) (by simp; omega)
  have HSM := Lib.hid hsm
  clear hl hr hsm
  go_enter Tryd.func35, Tryd.ntmps35
  go_wp2_with fail
  go_loopw [3, 8] (fun v iv wr => ∃ (k : Nat) (A' : Option Addr) (c' : Nat) (zs : List Nat), iv = .int .i64 (k : Int) ∧ k ≤ n ∧ v = .slice A' zs.length c' ∧ zs.length ≤ c' ∧ Ow wr w.heap.size (.slice A' zs.length c') zs.length zs ∧ Cn zs ∧ U zs = sumU (L.take k) ∧ Below w.heap.size w wr)
    (fun _ iv _ => n - (intOf iv).toNat)
  case atStart => exact ⟨0, none, 0, [], rfl, by omega, rfl, Nat.le_refl _, Ow.nil _ _, Cn.nil, rfl, Below.refl _ _⟩
  case round =>
    obtain ⟨k, A', c', zs, rfl, hk, rfl, hc', how, hcan, hU, hB⟩ := hrel
    have HOW := Lib.hid how
    have HC := Lib.hid hcan
    have HU := Lib.hid hU
    have hBs := hB.size
    clear how hcan hU
    by_cases hkn : k < n
    · obtain ⟨xs, hxs⟩ : ∃ xs, L[k]? = some xs := ⟨_, List.getElem?_eq_getElem (by have := HL.out; omega)⟩
      obtain ⟨b, o, A2, n2, c2, hA, hb, hcell, hl2, hc2, hr2, hd2, hn2⟩ := (HR.out.below hB) k xs hxs
      subst hA
      have HX := Lib.hid hxs
      have hcl2 := cl_le xs
      have HC2 := Lib.hid (cl_can hd2)
      have HU2 := Lib.hid (cl_U xs)
      have HL2 := Lib.hid hl2
      have hzn : zs.length ≤ M + 1 := HC.out.len (by rw [HU.out]; exact HSM.out k)
      have hk0 : (0 : Int) ≤ (k : Int) := by omega
      have hk1 : (k : Int) < (n : Int) := by omega
      clear hxs hl2
      go_wp2_with fail
      refine (shorten_cl A2 xs n2 c2 wr HL2.out (hr2.more hBs) hd2 (by omega) hc2).mono ?_
      rintro e w2 ⟨rfl, rfl⟩
      obtain ⟨m, hm⟩ : ∃ m, cl xs = m := ⟨_, rfl⟩
      rw [hm] at hcl2 HC2 HU2 ⊢
      have HML : Hid ((xs.take m).length = m) := Lib.hid (by have := HL2.out; simp; omega)
      have hmn : m ≤ n2 := by have := HL2.out; omega
      clear hm hcl2
      go_wp2_with fail
      refine (addOnto_any w.heap.size A' c' zs.length zs A2 (xs.take m) m c2 wr HOW.out HC.out HC2.out HML.out hc' (hr2.take m) hBs (by omega) (by omega)).mono ?_
      rintro e w3 ⟨v3, zs3, rfl, how3, hcan3, hU3, hB3⟩
      obtain ⟨A3, c3, rfl, hc3⟩ := how3.form
      have HOW3 := Lib.hid how3
      have HC3 := Lib.hid hcan3
      have HU3 : Hid (U zs3 = sumU (L.take (k + 1))) := Lib.hid (by rw [hU3, take_snoc_some HX.out, sumU_snoc, HU.out, HU2.out])
      clear how3 hcan3 hU3
      go_wp2_with fail
      go_roundw
      case rel => exact ⟨k + 1, A3, c3, zs3, by go_num, by omega, rfl, hc3, HOW3.out, HC3.out, HU3.out, hB.trans hB3⟩
      case measure => simp [intOf]; omega
    · obtain rfl : k = n := by omega
      have HF : Hid (U zs = sumU L) := Lib.hid (by rw [HU.out, List.take_of_length_le (by have := HL.out; omega)])
      go_wp2_with fail
      go_ret
      have := HOW.out.nv hc' HC.out
      rw [HF.out] at this
      exact ⟨_, rfl, this, hB⟩

set_option maxHeartbeats 4000000 in
theorem natMul_any (A : Option Addr) (L : List (List Nat)) (n c M : Nat) (w : World) (hl : L.length = n) (hr : Rows w w.heap.size A L M) (hn : n ≤ 10) (hM : M ≤ 5000) :
    Calls Tryd.prog 36 #[.slice A n c] w (RetNv w (prodU L)) := by
  have HL := Lib.hid hl
  have HR := Lib.hid hr
  have hsm : ∀ k, prodU (L.take k) < 4294967296 ^ (n * M + 1) := fun k => Nat.lt_of_lt_of_le (prod_small (M := M) (fun xs hx => by
    obtain ⟨i, hi, he⟩ := List.getElem_of_mem (List.mem_of_mem_take hx)
    obtain ⟨_, _, _, n', _, _, _, _, h4, _, _, h7, h8⟩ := hr i xs (by rw [List.getElem?_eq_getElem hi, he])
    exact Nat.lt_of_lt_of_le (U_lt h7) (Nat.pow_le_pow_right (by omega) (by omega)))) (Nat.pow_le_pow_right (by omega) (by
      have h1 : (L.take k).length ≤ n := by simp; omega
      have h2 := Nat.mul_le_mul_right M h1
      omega))
  have HSM := Lib.hid hsm
  have hnM : n * M ≤ 50000 := Nat.le_trans (Nat.mul_le_mul hn hM) (by omega)
  clear hl hr hsm
  go_enter Tryd.func36, Tryd.ntmps36
  go_wp2_with fail
  refine (natOf_any 1 w (by omega)).mono ?_
  rintro e w1 ⟨v1, rfl, hn1, hB1⟩
  obtain ⟨A1, ds1, m1, c1, rfl, hml1, hmc1, hmr1, hmf1, hmcan1, hmU1⟩ := hn1
  subst hml1
  have HNV1 : Hid (Nv w1 w.heap.size (.slice A1 ds1.length c1) 1) := Lib.hid ⟨A1, ds1, _, c1, rfl, rfl, hmc1, hmr1, hmf1, hmcan1, hmU1⟩
  clear hmr1 hmf1 hmcan1 hmU1
  go_wp2_with fail
  go_loopw [3, 9] (fun v iv wr => ∃ (k : Nat) (A' : Option Addr) (n' c' : Nat), iv = .int .i64 (k : Int) ∧ k ≤ n ∧ v = .slice A' n' c' ∧ Nv wr w.heap.size (.slice A' n' c') (prodU (L.take k)) ∧ Below w.heap.size w wr)
    (fun _ iv _ => n - (intOf iv).toNat)
  case atStart => exact ⟨0, A1, ds1.length, c1, rfl, by omega, rfl, HNV1.out, hB1⟩
  case round =>
    clear HNV1
    obtain ⟨k, A', n', c', rfl, hk, rfl, hnv, hB⟩ := hrel
    have HNV := Lib.hid hnv
    have hBs := hB.size
    clear hnv
    by_cases hkn : k < n
    · obtain ⟨xs, hxs⟩ : ∃ xs, L[k]? = some xs := ⟨_, List.getElem?_eq_getElem (by have := HL.out; omega)⟩
      obtain ⟨b, o, A2, n2, c2, hA, hb, hcell, hl2, hc2, hr2, hd2, hn2⟩ := (HR.out.below hB) k xs hxs
      subst hA
      have HX := Lib.hid hxs
      have hcl2 := cl_le xs
      have HC2 := Lib.hid (cl_can hd2)
      have HU2 := Lib.hid (cl_U xs)
      have HL2 := Lib.hid hl2
      obtain ⟨Ap, zs, np, cp, hpv, hpl, hpc, hpr, hpcan, hpU, hpn⟩ := HNV.out.form (HSM.out k)
      injection hpv with e1 e2 e3
      subst e1 e2 e3
      have hk0 : (0 : Int) ≤ (k : Int) := by omega
      have hk1 : (k : Int) < (n : Int) := by omega
      clear hxs hl2
      go_wp2_with fail
      refine (shorten_cl A2 xs n2 c2 wr HL2.out (hr2.more hBs) hd2 (by omega) hc2).mono ?_
      rintro e w2 ⟨rfl, rfl⟩
      obtain ⟨m, hm⟩ : ∃ m, cl xs = m := ⟨_, rfl⟩
      rw [hm] at hcl2 HC2 HU2 ⊢
      have HML : Hid ((xs.take m).length = m) := Lib.hid (by have := HL2.out; simp; omega)
      have hmn : m ≤ n2 := by have := HL2.out; omega
      clear hm hcl2
      go_wp2_with fail
      refine (mulTwo_any A' A2 zs (xs.take m) n' c' m c2 wr hpl.out HML.out hpr ((hr2.take m).more hBs) hpcan.1 HC2.out.1 (by omega) (by omega)).mono ?_
      rintro e w3 ⟨v3, rfl, hn3, hB3⟩
      obtain ⟨A3, n3, c3, rfl⟩ := hn3.shape
      have HNV3 : Hid (Nv w3 w.heap.size (.slice A3 n3 c3) (prodU (L.take (k + 1)))) := Lib.hid (by
        have h := hn3.more hBs
        rwa [hpU.out, HU2.out, ← prodU_snoc, ← take_snoc_some HX.out] at h)
      clear hn3
      go_wp2_with fail
      go_roundw
      case rel => exact ⟨k + 1, A3, n3, c3, by go_num, by omega, rfl, HNV3.out, hB.trans (hB3.mono hBs)⟩
      case measure => simp [intOf]; omega
    · obtain rfl : k = n := by omega
      have HF : Hid (prodU (L.take k) = prodU L) := Lib.hid (by rw [List.take_of_length_le (by have := HL.out; omega)])
      go_wp2_with fail
      go_ret
      have := HNV.out
      rw [HF.out] at this
      exact ⟨_, rfl, this, hB⟩
end Go.Proofs.YtlnabebjhpdgpaaDoor
