/-
  Numbers in digits of 32 bits: Sub; Add and Mul of any many numbers.
  Numbers in digits of 32 bits: Add and Mul of any many numbers.
-/
import Derived.Test.YtaifigkbblncpaaGreatDoorMU
import Derived.Test.YtaifigkbblncpaaGreatDoorNatF
namespace Go.Proofs.YtaifigkbblncpaaGreatDoor
open Go.RowKit
set_option maxRecDepth 100000

theorem takeOff_nil (c2 : Nat) (A2 : Option Addr) (m : Nat) (w : World) : Calls Tryz.prog 102 #[.slice none 0 0, .slice A2 0 c2, .int .u64 ((m : Nat) : Int)] w fun e w' => e = .returned (.bool false) ∧ w = w' := by
  go_enter Tryz.func102, Tryz.ntmps102
  go_wp2_with fail
  go_loop [7, 8, 14] (fun tv bv iv => tv = .int .u64 0 ∧ bv = .int .u64 0 ∧ iv = .int .i64 0) (fun _ _ _ => 0)
  case atStart => exact ⟨rfl, rfl, rfl⟩
  case round =>
    obtain ⟨rfl, rfl, rfl⟩ := hrel
    go_wp2_with fail
    go_ret
    exact ⟨rfl, rfl⟩

end Go.Proofs.YtaifigkbblncpaaGreatDoor

namespace Go.Proofs.YtaifigkbblncpaaGreatDoor
open Go.RowKit
set_option maxRecDepth 100000

/-- A slice of slices of uint32, at address A, reads in world w as the lists L; all lies below block B; no list is longer than M. -/
def Rows (w : World) (B : Nat) (A : Option Addr) (L : List (List Nat)) (M : Nat) : Prop :=
  ∀ k xs, L[k]? = some xs → ∃ b o A' n' c', A = some ⟨b, o, none⟩ ∧ b < B ∧ w.cell? ⟨b, o + k, none⟩ = some (.slice A' n' c') ∧ xs.length = n' ∧ n' ≤ c' ∧ Ra w B A' xs ∧ Dg xs ∧ n' ≤ M
theorem Rows.below {w w' : World} {B M : Nat} {A : Option Addr} {L : List (List Nat)} (h : Rows w B A L M) (hb : Below B w w') : Rows w' B A L M := fun k xs hk => by
  obtain ⟨b, o, A', n', c', h1, h2, h3, h4, h5, h6, h7, h8⟩ := h k xs hk
  exact ⟨b, o, A', n', c', h1, h2, (hb.cell (p := ⟨b, o + k, none⟩) h2).trans h3, h4, h5, h6.below hb (Nat.le_refl _), h7, h8⟩
theorem Rows.nil (w : World) (B M : Nat) (A : Option Addr) : Rows w B A [] M := fun k xs hk => by simp at hk

/-- The sum, the product of the numbers. -/
def sumU : List (List Nat) → Nat
  | [] => 0
  | xs :: r => U xs + sumU r
def prodU : List (List Nat) → Nat
  | [] => 1
  | xs :: r => U xs * prodU r
theorem sumU_snoc (L : List (List Nat)) (xs : List Nat) : sumU (L ++ [xs]) = sumU L + U xs := by
  induction L with
  | nil => simp [sumU]
  | cons y r ih => simp only [List.cons_append, sumU, ih]; omega
theorem prodU_snoc (L : List (List Nat)) (xs : List Nat) : prodU (L ++ [xs]) = prodU L * U xs := by
  induction L with
  | nil => simp [prodU]
  | cons y r ih => simp only [List.cons_append, prodU, ih, Nat.mul_assoc]
theorem take_snoc_some {α : Type} {L : List α} {k : Nat} {x : α} (h : L[k]? = some x) : L.take (k + 1) = L.take k ++ [x] := by
  obtain ⟨hk, hx⟩ := List.getElem?_eq_some_iff.1 h
  rw [List.take_succ_eq_append_getElem hk, hx]
theorem sum_small {L : List (List Nat)} {M : Nat} (h : ∀ xs ∈ L, U xs < 4294967296 ^ M) (hl : L.length ≤ 1000) : sumU L < 4294967296 ^ (M + 1) := by
  have key : ∀ L : List (List Nat), (∀ xs ∈ L, U xs < 4294967296 ^ M) → sumU L ≤ L.length * 4294967296 ^ M := by
    intro L
    induction L with
    | nil => intro _; simp [sumU]
    | cons y r ih =>
      intro h
      have h1 := h y (by simp)
      have h2 := ih (fun xs hx => h xs (by simp [hx]))
      simp only [sumU, List.length_cons, Nat.add_mul]
      omega
  have h1 := key L h
  have h2 : L.length * 4294967296 ^ M ≤ 1000 * 4294967296 ^ M := Nat.mul_le_mul_right _ hl
  have h3 : 0 < 4294967296 ^ M := Nat.pow_pos (by omega)
  rw [Nat.pow_succ]
  omega
theorem prod_small {L : List (List Nat)} {M : Nat} (h : ∀ xs ∈ L, U xs < 4294967296 ^ M) : prodU L < 4294967296 ^ (L.length * M + 1) := by
  induction L with
  | nil => simp [prodU]
  | cons y r ih =>
    have h1 := h y (by simp)
    have h2 := ih (fun xs hx => h xs (by simp [hx]))
    simp only [prodU, List.length_cons]
    rw [show (r.length + 1) * M + 1 = M + (r.length * M + 1) by rw [Nat.add_mul]; omega, Nat.pow_add]
    have h3 : 0 < 4294967296 ^ M := Nat.pow_pos (by omega)
    have h4 : U y * prodU r ≤ 4294967296 ^ M * prodU r := Nat.mul_le_mul_right _ (by omega)
    have h5 : 4294967296 ^ M * prodU r < 4294967296 ^ M * 4294967296 ^ (r.length * M + 1) := Nat.mul_lt_mul_of_pos_left h2 h3
    omega

set_option maxHeartbeats 4000000 in
theorem natAdd_any (A : Option Addr) (L : List (List Nat)) (n c M : Nat) (w : World) (hl : L.length = n) (hr : Rows w w.heap.size A L M) (hn : n ≤ 1000) (hM : M ≤ 100000) :
    Calls Tryz.prog 39 #[.slice A n c] w (RetNv w (sumU L)) := by
  have HL := Lib.hid hl
  have HR := Lib.hid hr
  have hsm : ∀ k, sumU (L.take k) < 4294967296 ^ (M + 1) := fun k => sum_small (fun xs hx => by
    obtain ⟨i, hi, he⟩ := List.getElem_of_mem (List.mem_of_mem_take hx)
    obtain ⟨_, _, _, n', _, _, _, _, h4, _, _, h7, h8⟩ := hr i xs (by rw [List.getElem?_eq_getElem hi, he])
    exact Nat.lt_of_lt_of_le (U_lt h7) (Nat.pow_le_pow_right (by omega) (by omega))) (by simp; omega)
  have HSM := Lib.hid hsm
  clear hl hr hsm
  go_enter Tryz.func39, Tryz.ntmps39
  go_wp2_with fail
  go_loopw [3, 8] (fun v iv wr => ∃ (k : Nat) (A' : Option Addr) (c' : Nat) (zs : List Nat), iv = .int .i64 (k : Int) ∧ k ≤ n ∧ v = .slice A' zs.length c' ∧ zs.length ≤ c' ∧ Ow wr w.heap.size (.slice A' zs.length c') zs.length zs ∧ Cn zs ∧ U zs = sumU (L.take k) ∧ Below w.heap.size w wr)
    (fun _ iv _ => n - (intOf iv).toNat)
  case atStart => exact ⟨0, none, 0, [], rfl, by omega, rfl, Nat.le_refl _, Ow.nil _ _, Cn.nil, rfl, Below.refl _ _⟩
  case round =>
    obtain ⟨k, A', c', zs, rfl, hk, rfl, hc', how, hcan, hU, hB⟩ := hrel
    have HOW := Lib.hid how
    have HC := Lib.hid hcan
    have HU := Lib.hid hU
    have hBs := hB.size
    clear how hcan hU
    by_cases hkn : k < n
    · obtain ⟨xs, hxs⟩ : ∃ xs, L[k]? = some xs := ⟨_, List.getElem?_eq_getElem (by have := HL.out; omega)⟩
      obtain ⟨b, o, A2, n2, c2, hA, hb, hcell, hl2, hc2, hr2, hd2, hn2⟩ := (HR.out.below hB) k xs hxs
      subst hA
      have HX := Lib.hid hxs
      have hcl2 := cl_le xs
      have HC2 := Lib.hid (cl_can hd2)
      have HU2 := Lib.hid (cl_U xs)
      have HL2 := Lib.hid hl2
      have hzn : zs.length ≤ M + 1 := HC.out.len (by rw [HU.out]; exact HSM.out k)
      have hk0 : (0 : Int) ≤ (k : Int) := by omega
      have hk1 : (k : Int) < (n : Int) := by omega
      clear hxs hl2
      go_wp2_with fail
      refine (shorten_cl A2 xs n2 c2 wr HL2.out (hr2.more hBs) hd2 (by omega) hc2).mono ?_
      rintro e w2 ⟨rfl, rfl⟩
      obtain ⟨m, hm⟩ : ∃ m, cl xs = m := ⟨_, rfl⟩
      rw [hm] at hcl2 HC2 HU2 ⊢
      have HML : Hid ((xs.take m).length = m) := Lib.hid (by have := HL2.out; simp; omega)
      have hmn : m ≤ n2 := by have := HL2.out; omega
      clear hm hcl2
      go_wp2_with fail
      refine (addOnto_any w.heap.size A' c' zs.length zs A2 (xs.take m) m c2 wr HOW.out HC.out HC2.out HML.out hc' (hr2.take m) hBs (by omega) (by omega)).mono ?_
      rintro e w3 ⟨v3, zs3, rfl, how3, hcan3, hU3, hB3⟩
      obtain ⟨A3, c3, rfl, hc3⟩ := how3.form
      have HOW3 := Lib.hid how3
      have HC3 := Lib.hid hcan3
      have HU3 : Hid (U zs3 = sumU (L.take (k + 1))) := Lib.hid (by rw [hU3, take_snoc_some HX.out, sumU_snoc, HU.out, HU2.out])
      clear how3 hcan3 hU3
      go_wp2_with fail
      go_roundw
      case rel => exact ⟨k + 1, A3, c3, zs3, by go_num, by omega, rfl, hc3, HOW3.out, HC3.out, HU3.out, hB.trans hB3⟩
      case measure => simp [intOf]; omega
    · obtain rfl : k = n := by omega
      have HF : Hid (U zs = sumU L) := Lib.hid (by rw [HU.out, List.take_of_length_le (by have := HL.out; omega)])
      go_wp2_with fail
      go_ret
      have := HOW.out.nv hc' HC.out
      rw [HF.out] at this
      exact ⟨_, rfl, this, hB⟩

set_option maxHeartbeats 4000000 in
theorem natMul_any (A : Option Addr) (L : List (List Nat)) (n c M : Nat) (w : World) (hl : L.length = n) (hr : Rows w w.heap.size A L M) (hn : n ≤ 10) (hM : M ≤ 5000) :
    Calls Tryz.prog 35 #[.slice A n c] w (RetNv w (prodU L)) := by
  have HL := Lib.hid hl
  have HR := Lib.hid hr
  have hsm : ∀ k, prodU (L.take k) < 4294967296 ^ (n * M + 1) := fun k => Nat.lt_of_lt_of_le (prod_small (M := M) (fun xs hx => by
    obtain ⟨i, hi, he⟩ := List.getElem_of_mem (List.mem_of_mem_take hx)
    obtain ⟨_, _, _, n', _, _, _, _, h4, _, _, h7, h8⟩ := hr i xs (by rw [List.getElem?_eq_getElem hi, he])
    exact Nat.lt_of_lt_of_le (U_lt h7) (Nat.pow_le_pow_right (by omega) (by omega)))) (Nat.pow_le_pow_right (by omega) (by
      have h1 : (L.take k).length ≤ n := by simp; omega
      have h2 := Nat.mul_le_mul_right M h1
      omega))
  have HSM := Lib.hid hsm
  have hnM : n * M ≤ 50000 := Nat.le_trans (Nat.mul_le_mul hn hM) (by omega)
  clear hl hr hsm
  go_enter Tryz.func35, Tryz.ntmps35
  go_wp2_with fail
  refine (natOf_any 1 w (by omega)).mono ?_
  rintro e w1 ⟨v1, rfl, hn1, hB1⟩
  obtain ⟨A1, ds1, m1, c1, rfl, hml1, hmc1, hmr1, hmf1, hmcan1, hmU1⟩ := hn1
  subst hml1
  have HNV1 : Hid (Nv w1 w.heap.size (.slice A1 ds1.length c1) 1) := Lib.hid ⟨A1, ds1, _, c1, rfl, rfl, hmc1, hmr1, hmf1, hmcan1, hmU1⟩
  clear hmr1 hmf1 hmcan1 hmU1
  go_wp2_with fail
  go_loopw [3, 9] (fun v iv wr => ∃ (k : Nat) (A' : Option Addr) (n' c' : Nat), iv = .int .i64 (k : Int) ∧ k ≤ n ∧ v = .slice A' n' c' ∧ Nv wr w.heap.size (.slice A' n' c') (prodU (L.take k)) ∧ Below w.heap.size w wr)
    (fun _ iv _ => n - (intOf iv).toNat)
  case atStart => exact ⟨0, A1, ds1.length, c1, rfl, by omega, rfl, HNV1.out, hB1⟩
  case round =>
    clear HNV1
    obtain ⟨k, A', n', c', rfl, hk, rfl, hnv, hB⟩ := hrel
    have HNV := Lib.hid hnv
    have hBs := hB.size
    clear hnv
    by_cases hkn : k < n
    · obtain ⟨xs, hxs⟩ : ∃ xs, L[k]? = some xs := ⟨_, List.getElem?_eq_getElem (by have := HL.out; omega)⟩
      obtain ⟨b, o, A2, n2, c2, hA, hb, hcell, hl2, hc2, hr2, hd2, hn2⟩ := (HR.out.below hB) k xs hxs
      subst hA
      have HX := Lib.hid hxs
      have hcl2 := cl_le xs
      have HC2 := Lib.hid (cl_can hd2)
      have HU2 := Lib.hid (cl_U xs)
      have HL2 := Lib.hid hl2
      obtain ⟨Ap, zs, np, cp, hpv, hpl, hpc, hpr, hpcan, hpU, hpn⟩ := HNV.out.form (HSM.out k)
      injection hpv with e1 e2 e3
      subst e1 e2 e3
      have hk0 : (0 : Int) ≤ (k : Int) := by omega
      have hk1 : (k : Int) < (n : Int) := by omega
      clear hxs hl2
      go_wp2_with fail
      refine (shorten_cl A2 xs n2 c2 wr HL2.out (hr2.more hBs) hd2 (by omega) hc2).mono ?_
      rintro e w2 ⟨rfl, rfl⟩
      obtain ⟨m, hm⟩ : ∃ m, cl xs = m := ⟨_, rfl⟩
      rw [hm] at hcl2 HC2 HU2 ⊢
      have HML : Hid ((xs.take m).length = m) := Lib.hid (by have := HL2.out; simp; omega)
      have hmn : m ≤ n2 := by have := HL2.out; omega
      clear hm hcl2
      go_wp2_with fail
      refine (mulTwo_any A' A2 zs (xs.take m) n' c' m c2 wr hpl.out HML.out hpr ((hr2.take m).more hBs) hpcan.1 HC2.out.1 (by omega) (by omega)).mono ?_
      rintro e w3 ⟨v3, rfl, hn3, hB3⟩
      obtain ⟨A3, n3, c3, rfl⟩ := hn3.shape
      have HNV3 : Hid (Nv w3 w.heap.size (.slice A3 n3 c3) (prodU (L.take (k + 1)))) := Lib.hid (by
        have h := hn3.more hBs
        rwa [hpU.out, HU2.out, ← prodU_snoc, ← take_snoc_some HX.out] at h)
      clear hn3
      go_wp2_with fail
      go_roundw
      case rel => exact ⟨k + 1, A3, n3, c3, by go_num, by omega, rfl, HNV3.out, hB.trans (hB3.mono hBs)⟩
      case measure => simp [intOf]; omega
    · obtain rfl : k = n := by omega
      have HF : Hid (prodU (L.take k) = prodU L) := Lib.hid (by rw [List.take_of_length_le (by have := HL.out; omega)])
      go_wp2_with fail
      go_ret
      have := HNV.out
      rw [HF.out] at this
      exact ⟨_, rfl, this, hB⟩
end Go.Proofs.YtaifigkbblncpaaGreatDoor
