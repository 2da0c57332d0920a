/-
  Numbers in digits of 32 bits: mulTwo.
-/
import Derived.Test.YtaifigkbblncpaaGreatDoorMG
import Derived.Test.YtaifigkbblncpaaGreatDoorMO
namespace Go.Proofs.YtaifigkbblncpaaGreatDoor
open Go.RowKit
set_option maxRecDepth 100000

theorem U_set (ds : List Nat) (j r : Nat) (hj : j < ds.length) : U (ds.set j r) + 4294967296 ^ j * nth ds j = U ds + 4294967296 ^ j * r := by
  induction ds generalizing j with
  | nil => simp at hj
  | cons d t ih =>
    cases j with
    | zero => simp [List.set, U, nth]; omega
    | succ j =>
      have := ih j (by simpa using hj)
      simp only [List.set, U, nth_cons, Nat.pow_succ]
      generalize U (t.set j r) = a at *
      generalize 4294967296 ^ j = P at *
      grind

def MOut (xs ys : List Nat) (n2 N i : Nat) (ds : List Nat) : Prop := ds.length = N ∧ Dg ds ∧ U ds = U (xs.take i) * U ys ∧ ∀ j, i + n2 ≤ j → nth ds j = 0
def MIn (xs ys : List Nat) (n2 N i k o : Nat) (ds : List Nat) : Prop :=
  ds.length = N ∧ Dg ds ∧ U ds + 4294967296 ^ (i + k) * o = U (xs.take i) * U ys + 4294967296 ^ i * nth xs i * U (ys.take k) ∧ (∀ j, i + n2 ≤ j → nth ds j = 0) ∧ o < 4294967296
theorem MOut.start {xs ys ds : List Nat} {n2 N i : Nat} (h : MOut xs ys n2 N i ds) : MIn xs ys n2 N i 0 0 ds := by
  obtain ⟨h1, h2, h3, h4⟩ := h
  exact ⟨h1, h2, by simp [U, h3], h4, by omega⟩
theorem MIn.step {xs ys ds : List Nat} {n2 N i k o X : Nat} (h : MIn xs ys n2 N i k o ds) (hX : o + (nth xs i * nth ys k + nth ds (i + k)) = X) (hk : k < n2) (hj : i + k < N) (hXb : X / 4294967296 < 4294967296) :
    MIn xs ys n2 N i (k + 1) (X / 4294967296) (ds.set (i + k) (X % 4294967296)) := by
  obtain ⟨hl, hd, hv, hz, ho⟩ := h
  refine ⟨by simp [hl], hd.set (by omega), ?_, fun j h1 => ?_, hXb⟩
  · have h1 := U_set ds (i + k) (X % 4294967296) (by omega)
    rw [U_take_succ]
    have h2 := Nat.div_add_mod X 4294967296
    rw [show i + (k + 1) = (i + k) + 1 by omega, Nat.pow_succ]
    rw [Nat.pow_add] at *
    generalize X / 4294967296 = q at *
    generalize X % 4294967296 = r at *
    generalize U (ds.set (i + k) r) = v' at *
    generalize 4294967296 ^ i = P at *
    generalize 4294967296 ^ k = R at *
    have e : P * R * (o + (nth xs i * nth ys k + nth ds (i + k))) = P * R * (4294967296 * q + r) := by rw [hX, h2]
    grind
  · rw [nth_set32 (by omega), if_neg (by omega)]
    exact hz j h1
theorem MIn.done {xs ys ds : List Nat} {n2 N i o : Nat} (h : MIn xs ys n2 N i n2 o ds) (hy : ys.length = n2) (hj : i + n2 < N) : MOut xs ys n2 N (i + 1) (ds.set (i + n2) o) := by
  obtain ⟨hl, hd, hv, hz, ho⟩ := h
  refine ⟨by simp [hl], hd.set ho, ?_, fun j h1 => ?_⟩
  · have h1 := U_set ds (i + n2) o (by omega)
    have h2 := hz (i + n2) (Nat.le_refl _)
    rw [U_take_all ys _ (by omega)] at hv
    rw [U_take_succ]
    rw [h2] at h1
    generalize 4294967296 ^ (i + n2) = Q at *
    generalize 4294967296 ^ i = P at *
    grind
  · rw [nth_set32 (by omega), if_neg (by omega)]
    exact hz j (by omega)
theorem mul_prod32 {a b : Nat} (ha : a < 4294967296) (hb : b < 4294967296) : a * b ≤ 18446744065119617025 := Nat.mul_le_mul (show a ≤ 4294967295 by omega) (show b ≤ 4294967295 by omega)
theorem zeros_dg (N : Nat) : Dg (List.replicate N 0) := fun d hd => by
  have := (List.mem_replicate.1 hd).2
  omega
theorem zeros_U (N : Nat) : U (List.replicate N 0) = 0 := by
  induction N with
  | zero => rfl
  | succ n ih => rw [List.replicate_succ, U, ih]
theorem madeCells_u32s (N : Nat) : (madeCells (Value.int .u32 0).cells (N * 1)).toList = u32s (List.replicate N 0) := by
  have e : (madeCells (Value.int .u32 0).cells (N * 1)).toList = (List.range N).map fun x => [Value.int IntKind.u32 0][x % 1]?.getD default := by simp [madeCells, Value.cells]
  rw [e]
  simp only [u32s, List.map_replicate]
  apply List.ext_getElem
  · simp
  · intro i h1 h2
    simp [Nat.mod_one]

set_option maxHeartbeats 4000000 in
theorem mulTwo_any (A1 A2 : Option Addr) (xs ys : List Nat) (n1 c1 n2 c2 : Nat) (w : World) (hl1 : xs.length = n1) (hl2 : ys.length = n2) (hr1 : Ra w w.heap.size A1 xs) (hr2 : Ra w w.heap.size A2 ys)
    (hd1 : Dg xs) (hd2 : Dg ys) (hn1 : n1 ≤ 100000) (hn2 : n2 ≤ 100000) :
    Calls Tryz.prog 64 #[.slice A1 n1 c1, .slice A2 n2 c2] w (RetNv w (U xs * U ys)) := by
  have HL1 := Lib.hid hl1
  have HL2 := Lib.hid hl2
  clear hl1 hl2
  obtain ⟨N, hN⟩ : ∃ N, n1 + n2 = N := ⟨_, rfl⟩
  have HN := Lib.hid hN
  have hNb : N ≤ 200000 := by omega
  have hNi : (n1 : Int) + (n2 : Int) = (N : Int) := by omega
  clear hN
  obtain ⟨i0, hi0, hz0, hz1, hz2⟩ := info_parts info_u32
  go_enter Tryz.func64, Tryz.ntmps64
  go_wp2_with ((with_reducible refine wpList_make_full _ rfl (.tmp 15) (.tmp 15) 23 rfl w.heap.size 53 i0 (.int .u32 0) 1 Tryz.underlying23 hi0 hz0 hz1 .i64 .i64 _ _ N rfl rfl (by have := HN.out; omega) (by have := HN.out; omega) (by rw [hz2]; omega) (by unfold maxLen; omega) (by simp) ?_); intro w1 hown1 hg1)
  have hm0 : Win w1 w.heap.size 53 [] (List.replicate N 0) [] := by
    rcases hown1.2 with ⟨h, _⟩ | ⟨g, cap, c, hv, _, hh, _, _, hsz, ht⟩
    · injection h with h; cases h
    · injection hv with hv _ hcap
      injection hv with hv
      injection hv with hv
      subst hv hcap
      unfold Win Blk
      rw [hh]
      have : c = (u32s (List.replicate N 0)).toArray := by
        rw [← madeCells_u32s N, ← ht, List.take_of_length_le (by simp; omega)]
      rw [this]; simp
  have hb0 : Below w.heap.size w w1 := (Below.refl _ _).grown hg1 (Nat.le_refl _) (by intro k hk; cases hk)
  have HM0 := Lib.hid hm0
  have HB0 := Lib.hid hb0
  clear hown1 hg1 hm0 hb0 hz0 hz1 hz2
  go_loopw [19] (fun i wr => ∃ (k : Nat) (ds : List Nat), i = .int .i64 (k : Int) ∧ k ≤ n1 ∧ MOut xs ys n2 N k ds ∧ Win wr w.heap.size 53 [] ds [] ∧ Below w.heap.size w wr) (fun i _ => n1 - (intOf i).toNat)
  case atStart => exact ⟨0, List.replicate N 0, rfl, by omega, ⟨by simp, zeros_dg N, by rw [zeros_U]; simp [U], fun j _ => zeros_nth N j⟩, HM0.out, HB0.out⟩
  case round =>
    obtain ⟨i, ds, rfl, hi, ho, hw, hB⟩ := hrel
    clear HM0 HB0
    have HO := Lib.hid ho
    have HW := Lib.hid hw
    clear ho hw
    by_cases hti : i < n1
    · obtain ⟨b1, o1, hA1, hb1, cx⟩ := (hr1.below hB (Nat.le_refl _)).at_ (k := i) (by have := HL1.out; omega)
      subst hA1
      have hst := Lib.hid HO.out.start
      have hxi := hd1.nth i
      go_wp2_with fail
      go_loopw [8, 26] (fun o k wr => ∃ (kk oo : Nat) (ds : List Nat), k = .int .i64 (kk : Int) ∧ o = .int .u64 (oo : Int) ∧ kk ≤ n2 ∧ MIn xs ys n2 N i kk oo ds ∧ Win wr w.heap.size 53 [] ds [] ∧ Below w.heap.size w wr) (fun _ k _ => n2 - (intOf k).toNat)
      case atStart => exact ⟨0, 0, ds, rfl, rfl, by omega, hst.out, HW.out, hB⟩
      case round =>
        clear hst HO HW hB cx
        obtain ⟨k, o, ds, rfl, rfl, hk, hin, hw, hB⟩ := hrel
        have HIN := Lib.hid hin
        have ho := hin.2.2.2.2
        have hdl := Lib.hid hin.1
        have hdd := hin.2.1.nth (i + k)
        have HZ : Hid (nth ds (i + n2) = 0) := Lib.hid (hin.2.2.2.1 _ (Nat.le_refl _))
        clear hin
        by_cases ht : k < n2
        · have cd := hw.cell (o := 0) rfl (k := i + k) (by have := hdl.out; have := HN.out; omega)
          rw [Nat.zero_add] at cd
          have fd := hw.frozen (i + k)
          obtain ⟨b2, o2, hA2, hb2, cy⟩ := (hr2.below hB (Nat.le_refl _)).at_ (k := k) (by have := HL2.out; omega)
          subst hA2
          have hyk := hd2.nth k
          have hpr := mul_prod32 hxi hyk
          obtain ⟨X, hX⟩ : ∃ X, o + (nth xs i * nth ys k + nth ds (i + k)) = X := ⟨_, rfl⟩
          have hXb : X < 18446744073709551616 := by omega
          have hXi : (o : Int) + ((nth xs i : Int) * (nth ys k : Int) + (nth ds (i + k) : Int)) = (X : Int) := by rw [← hX]; simp
          have hst := Lib.hid (HIN.out.step hX ht (by have := HN.out; omega) (by omega))
          have hp2 : (nth xs i : Int) * (nth ys k : Int) = ((nth xs i * nth ys k : Nat) : Int) := by simp
          have hpi : (nth xs i : Int) * (nth ys k : Int) ≤ 18446744065119617025 := by omega
          have hpi0 : 0 ≤ (nth xs i : Int) * (nth ys k : Int) := by omega
          have hik : (i : Int) + (k : Int) < (N : Int) := by have := HN.out; omega
          have hikn : ((i : Int) + (k : Int)).toNat = i + k := by omega
          clear hX hp2
          go_wp2_with fail
          go_roundw
          case rel => exact ⟨k + 1, X / 4294967296, ds.set (i + k) (X % 4294967296), by go_num, by go_num, by omega, hst.out, by have := hw.put (o := 0) rfl (k := i + k) (d := X % 4294967296) (u := (X : Int) % 4294967296) (by have := hdl.out; have := HN.out; omega) (by omega); rwa [Nat.zero_add] at this, hB.setCell (by simp) _⟩
          case measure => simp [intOf]; omega
        · obtain rfl : k = n2 := by omega
          have cd := hw.cell (o := 0) rfl (k := i + k) (by have := hdl.out; have := HN.out; omega)
          rw [Nat.zero_add] at cd
          have fd := hw.frozen (i + k)
          have hik : (i : Int) + (k : Int) < (N : Int) := by have := HN.out; omega
          have hikn : ((i : Int) + (k : Int)).toNat = i + k := by omega
          have hdn := Lib.hid (HIN.out.done HL2.out (by have := HN.out; omega))
          go_wp2_with fail
          go_roundw
          case rel => exact ⟨i + 1, ds.set (i + k) o, by go_num, by omega, hdn.out, by have := hw.put (o := 0) rfl (k := i + k) (d := o) (u := (o : Int)) (by have := hdl.out; have := HN.out; omega) rfl; rwa [Nat.zero_add] at this, hB.setCell (by simp) _⟩
          case measure => simp [intOf]; omega
    · obtain rfl : i = n1 := by omega
      obtain ⟨hdl, hdd, hU, _⟩ := HO.out
      have hr := HW.out.reads (o := 0) rfl
      have HU : Hid (U ds = U xs * U ys) := Lib.hid (by rw [hU, U_take_all xs _ (by have := HL1.out; omega)])
      have HDL := Lib.hid hdl
      clear hU hdl
      go_wp2_with fail
      refine (shorten_any _ ds N N _ HDL.out hr hdd (by omega) (Nat.le_refl _)).mono ?_
      rintro e w2 ⟨m, hm, rfl, hcan, hU2, rfl⟩
      have HC := Lib.hid hcan
      have HU2 := Lib.hid (hU2.trans HU.out)
      clear hcan hU2
      go_wp2_with fail
      go_ret
      exact ⟨_, rfl, ⟨_, ds.take m, m, N, rfl, by have := HDL.out; simp; omega, hm, hr.take m, fun _ => ⟨_, _, rfl, Nat.le_refl _⟩, HC.out, HU2.out⟩, hB⟩
end Go.Proofs.YtaifigkbblncpaaGreatDoor
