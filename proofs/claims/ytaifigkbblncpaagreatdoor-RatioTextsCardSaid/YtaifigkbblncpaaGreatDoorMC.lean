/-
  Numbers in digits of 32 bits: what cuts noughts off, and what makes a number of a word.
  slices.Backward over digits: the last one first.
  slices.Backward over a []uint32: the last one first.
-/
import Derived.Test.YtaifigkbblncpaaGreatDoorProg
import Derived.Test.YtaifigkbblncpaaGreatDoorMA
import Derived.Outline
import Derived.LoopTactic
import Derived.ProofKit
import Derived.IntWalk
import Derived.Test.YtaifigkbblncpaaGreatDoorMB
namespace Go.Proofs.YtaifigkbblncpaaGreatDoor
open Go.RowKit

theorem info_u32 : (Tryz.prog.info? 53).map (fun i => (i.zero, i.size, i.bytes)) = some (some (.int .u32 0), 1, 4) := by kernel_rfl

/-- How long a slice is. -/
def lenV : Value → Nat
  | .slice _ n _ => n
  | _ => 0

set_option maxHeartbeats 400000 in
theorem shorten_any (A : Option Addr) (xs : List Nat) (n c : Nat) (w : World) (hl : xs.length = n) (hr : Ra w w.heap.size A xs) (hd : Dg xs) (hn : n ≤ 10000000) (hc : n ≤ c) :
    Calls Tryz.prog 59 #[.slice A n c] w fun e w' => ∃ m, m ≤ n ∧ e = .returned (.slice A m c) ∧ Cn (xs.take m) ∧ U (xs.take m) = U xs ∧ w = w' := by
  have HL := Lib.hid hl
  clear hl
  go_enter Tryz.func59, Tryz.ntmps59
  go_wp2
  go_loop [0] (fun v => ∃ m : Nat, m ≤ n ∧ v = .slice A m c ∧ ∀ j, m ≤ j → nth xs j = 0) lenV
  case atStart => exact ⟨n, Nat.le_refl _, rfl, fun j hj => nth_out (by have := HL.out; omega)⟩
  case round =>
    obtain ⟨m, hm, rfl, hz⟩ := hrel
    have HZ := Lib.hid hz
    clear hz
    by_cases hpos : 0 < m
    · obtain ⟨k, rfl⟩ : ∃ k, m = k + 1 := ⟨m - 1, by omega⟩
      obtain ⟨b, o, hA, hb, hcm⟩ := hr.at_ (k := k) (by have := HL.out; omega)
      subst hA
      by_cases h0 : nth xs k = 0
      · have h0' : (((nth xs k : Nat) : Int) == 0) = true := by simp [h0]
        have H0 := Lib.hid h0
        clear h0
        go_wp2
        go_round
        case rel =>
          refine ⟨k, by omega, rfl, fun j hj => ?_⟩
          rcases Nat.lt_or_ge k j with h | h
          · exact HZ.out j h
          · rw [show j = k by omega]; exact H0.out
        case measure => simp [lenV]
      · have h0' : (((nth xs k : Nat) : Int) == 0) = false := by simp [h0]
        have HC : Hid (Cn (xs.take (k + 1))) := Lib.hid (Cn.of_take hd (by have := HL.out; omega) (fun _ => by simpa using h0))
        clear h0
        go_wp2
        go_ret
        exact ⟨_, hm, rfl, HC.out, U_zeros xs _ HZ.out, rfl⟩
    · obtain rfl : m = 0 := by omega
      go_wp2
      go_ret
      exact ⟨_, hm, rfl, by simpa using Cn.nil, U_zeros xs _ HZ.out, rfl⟩

/-- How many digits there are without noughts at the end, of the first n. -/
def clTo (xs : List Nat) : Nat → Nat
  | 0 => 0
  | n + 1 => if nth xs n = 0 then clTo xs n else n + 1
def cl (xs : List Nat) : Nat := clTo xs xs.length
theorem clTo_spec (xs : List Nat) (n : Nat) : clTo xs n ≤ n ∧ (∀ j, clTo xs n ≤ j → j < n → nth xs j = 0) ∧ (0 < clTo xs n → nth xs (clTo xs n - 1) ≠ 0) := by
  induction n with
  | zero => exact ⟨Nat.le_refl _, fun j _ h => by omega, fun h => by simp [clTo] at h⟩
  | succ n ih =>
    unfold clTo
    split
    · next h => exact ⟨by omega, fun j h1 h2 => by
        rcases Nat.lt_or_ge j n with h3 | h3
        · exact ih.2.1 j h1 h3
        · rw [show j = n by omega]; exact h, ih.2.2⟩
    · next h => exact ⟨Nat.le_refl _, fun j h1 h2 => by omega, fun _ => by simpa using h⟩
theorem cl_le (xs : List Nat) : cl xs ≤ xs.length := (clTo_spec xs xs.length).1
theorem cl_can {xs : List Nat} (h : Dg xs) : Cn (xs.take (cl xs)) := Cn.of_take h (cl_le xs) (clTo_spec xs xs.length).2.2
theorem cl_U (xs : List Nat) : U (xs.take (cl xs)) = U xs := U_zeros xs _ fun j hj => by
  rcases Nat.lt_or_ge j xs.length with h | h
  · exact (clTo_spec xs xs.length).2.1 j hj h
  · exact nth_out h
theorem shorten_cl (A : Option Addr) (xs : List Nat) (n c : Nat) (w : World) (hl : xs.length = n) (hr : Ra w w.heap.size A xs) (hd : Dg xs) (hn : n ≤ 10000000) (hc : n ≤ c) :
    Calls Tryz.prog 59 #[.slice A n c] w fun e w' => e = .returned (.slice A (cl xs) c) ∧ w = w' := by
  refine (shorten_any A xs n c w hl hr hd hn hc).mono ?_
  rintro e w' ⟨m, hm, rfl, hcan, hU, rfl⟩
  have := U_inj hcan (cl_can hd) (hU.trans (cl_U xs).symm)
  have h2 := congrArg List.length this
  have h3 := cl_le xs
  simp at h2
  obtain rfl : m = cl xs := by omega
  exact ⟨rfl, rfl⟩
end Go.Proofs.YtaifigkbblncpaaGreatDoor

namespace Go.Proofs.YtaifigkbblncpaaGreatDoor
open Go.RowKit Go.Shelf
attribute [local go_sem] Oper.semAt_some

/-- What the k-th round is handed: the place and the digit, from the last one down. -/
def benc (xs : List Nat) (N k : Nat) : Array Value := #[.int .i64 ((N - 1 - k : Nat) : Int), .int .u32 ((nth xs (N - 1 - k) : Nat) : Int)]
/-- What must stay behind the k-th round: the variable that holds the slice, and the digits that are still to come. -/
def bkeep (Bs : Nat) (A : Option Addr) (N k : Nat) (p : Addr) : Prop := p = ⟨Bs, 0, none⟩ ∨ ∃ b o j, A = some ⟨b, o, none⟩ ∧ j < N - 1 - k ∧ p = ⟨b, o + j, none⟩

theorem bkeep_lt {w : World} {Bs : Nat} {A : Option Addr} {N : Nat} {xs : List Nat} {B : Nat} (hl : xs.length = N) (hr : Ra w B A xs) (hBs : Bs < B) : ∀ k p, bkeep Bs A N k p → p.block < B := by
  intro k p h
  rcases h with rfl | ⟨b, o, j, rfl, hj, rfl⟩
  · exact hBs
  · obtain ⟨b', o', h1, h2, _⟩ := hr.at_ (k := j) (by omega)
    injection h1 with h1
    injection h1 with h1 _
    subst h1
    exact h2

theorem bkeep_ne {w : World} {Bs : Nat} {A : Option Addr} {N : Nat} {xs : List Nat} {B g : Nat} (hl : xs.length = N) (hr : Ra w B A xs) (hg : B ≤ g) (hBs : Bs ≠ g) : ∀ k p, bkeep Bs A N k p → p.block ≠ g := by
  intro k p h
  rcases h with rfl | ⟨b, o, j, rfl, hj, rfl⟩
  · exact hBs
  · obtain ⟨b', o', h1, h2, _⟩ := hr.at_ (k := j) (by omega)
    injection h1 with h1
    injection h1 with h1 _
    subst h1
    show b ≠ g
    omega

set_option maxRecDepth 100000 in
set_option maxHeartbeats 2000000 in
theorem backw_goes (F : Fence) (n : Nat) (hf : F.fn 79) (hro : F.round = none) (hn : 1 ≤ n) (Bs : Nat) (A : Option Addr) (xs : List Nat) (N c : Nat) (w : World) (hl : xs.length = N) (hr : Ra w w.heap.size A xs) (hN : N ≤ 10000000) (hc : N ≤ c)
    (hb : w.cell? ⟨Bs, 0, none⟩ = some (.slice A N c)) :
    Goes F n Tryz.prog 79 #[.pointer (some ⟨Bs, 0, none⟩)] (benc xs N) (bkeep Bs A N) N w := fun l J Jx W hW _ _ hY h0 => by
  have hBs := World.block_lt_of_cell? w _ hb
  have hb1 := (hW.cell hBs).trans hb
  have hr1 := hr.below hW (Nat.le_refl _)
  clear hb hr
  have HL := Lib.hid hl
  clear hl
  refine callsIn_of_wp Tryz.func79 rfl hf ?_ hro
  simp only [Tryz.ntmps79, List.size_toArray, List.length_cons, List.length_nil, Nat.reduceAdd, Nat.reduceSub, Array.replicate_succ, Array.replicate_zero, List.push_toArray, List.append_toArray, List.nil_append, List.cons_append]
  gi_wp2
  gi_loopw [3] (fun i wr => ∃ (m : Nat) (j : Int), i = .int .i64 j ∧ j + 1 = (m : Int) ∧ m ≤ N ∧ J (N - m) wr ∧ wr.cell? ⟨Bs, 0, none⟩ = some (.slice A N c) ∧ ∀ t, t < m → ∀ b o, A = some ⟨b, o, none⟩ → wr.cell? ⟨b, o + t, none⟩ = some (.int .u32 ((nth xs t : Nat) : Int)))
    (fun i _ => (intOf i + 1).toNat)
  case atStart =>
    refine ⟨N, _, rfl, by omega, Nat.le_refl _, by rw [Nat.sub_self]; exact h0, hb1, fun t ht b o hA => ?_⟩
    obtain ⟨b', o', h1, _, h2⟩ := hr1.at_ (k := t) (by have := HL.out; omega)
    rw [hA] at h1
    injection h1 with h1
    injection h1 with h1 h3
    subst h1 h3
    exact h2
  case round =>
    obtain ⟨m, j, rfl, hj, hm, hJ, hbx, hcells⟩ := hrel
    have HC := Lib.hid hcells
    clear hcells
    by_cases hpos : 0 < m
    · obtain ⟨q, rfl⟩ : ∃ q, m = q + 1 := ⟨m - 1, by omega⟩
      obtain rfl : j = (q : Int) := by omega
      obtain ⟨b, o, hA, _, _⟩ := hr1.at_ (k := q) (by have := HL.out; omega)
      have hcx := HC.out q (by omega) b o hA
      have hq0 : (0 : Int) ≤ (q : Int) := by omega
      have hq1 : (q : Int) < (N : Int) := by omega
      obtain ⟨fn, tmps, assign, body, hy, hR⟩ := hY (N - (q + 1)) wr (by omega) hJ
      have he : N - 1 - (N - (q + 1)) = q := by omega
      simp only [benc, he] at hy
      have HE := Lib.hid he
      clear he
      subst hA
      gi_wp2
      refine hR.mono ?_
      rintro e W3 (⟨rfl, hJ3, hk3⟩ | ⟨rfl, hJx3⟩)
      · have HS : Hid (Same (bkeep Bs (some ⟨b, o, none⟩) N (N - (q + 1))) wr W3) := Lib.hid hk3
        have HJ := Lib.hid hJ3
        clear hk3 hJ3 hJ
        gi_wp2
        go_roundw
        case rel =>
          refine ⟨q, _, rfl, by omega, by omega, by have := HJ.out; rwa [show N - (q + 1) + 1 = N - q by omega] at this, HS.out.cell _ _ (.inl rfl) hbx, fun t ht b' o' hA => ?_⟩
          injection hA with hA
          injection hA with h1 h2
          subst h1 h2
          exact HS.out.cell _ _ (.inr ⟨b, o, t, rfl, by have := HE.out; omega, rfl⟩) (HC.out t (by omega) b o rfl)
        case measure => first | (simp [intOf]; done) | (simp [intOf]; omega)
      · gi_wp2
        refine bodyPost_ret (results_none rfl _ _ _) rfl ?_
        exact ⟨⟨_, rfl⟩, .inr ⟨_, by omega, hJx3⟩⟩
    · obtain rfl : m = 0 := by omega
      obtain rfl : j = -1 := by omega
      have HJ : Hid (J N wr) := Lib.hid (by simpa using hJ)
      clear hJ
      gi_wp2
      go_end0
      exact ⟨⟨_, rfl⟩, .inl HJ.out⟩

set_option maxHeartbeats 1000000 in
theorem backw_in (F : Fence) (n : Nat) (hf : F.fn 61) (hro : F.round = none) (A : Option Addr) (N c : Nat) (w : World) :
    CallsIn F n Tryz.prog 61 #[.slice A N c] w fun e w' => e = .returned (.func (.func 79) #[] #[.pointer (some ⟨w.heap.size, 0, none⟩)]) ∧ w.alloc (.cells #[.slice A N c] 23) = w' := by
  refine callsIn_of_wp Tryz.func61 rfl hf ?_ hro
  simp only [Tryz.ntmps61, List.size_toArray, List.length_cons, List.length_nil, Nat.reduceAdd, Nat.reduceSub, Array.replicate_succ, Array.replicate_zero, List.push_toArray, List.append_toArray, List.nil_append, List.cons_append]
  gi_wp2
  go_ret
  exact ⟨rfl, rfl⟩
theorem backw_calls (A : Option Addr) (N c : Nat) (w : World) :
    Calls Tryz.prog 61 #[.slice A N c] w fun e w' => e = .returned (.func (.func 79) #[] #[.pointer (some ⟨w.heap.size, 0, none⟩)]) ∧ w.alloc (.cells #[.slice A N c] 23) = w' :=
  callsIn_wide.1 (backw_in Fence.wide 4 trivial rfl A N c w)
end Go.Proofs.YtaifigkbblncpaaGreatDoor

namespace Go.Proofs.YtaifigkbblncpaaGreatDoor
open Go.RowKit Go.Shelf
attribute [local go_sem] Oper.semAt_some

set_option maxRecDepth 100000 in
set_option maxHeartbeats 2000000 in
theorem backv_goes (F : Fence) (n : Nat) (hf : F.fn 76) (hro : F.round = none) (hn : 1 ≤ n) (Bs : Nat) (A : Option Addr) (xs : List Nat) (N c : Nat) (w : World) (hl : xs.length = N) (hr : Ra w w.heap.size A xs) (hN : N ≤ 10000000) (hc : N ≤ c)
    (hb : w.cell? ⟨Bs, 0, none⟩ = some (.slice A N c)) :
    Goes F n Tryz.prog 76 #[.pointer (some ⟨Bs, 0, none⟩)] (benc xs N) (bkeep Bs A N) N w := fun l J Jx W hW _ _ hY h0 => by
  have hBs := World.block_lt_of_cell? w _ hb
  have hb1 := (hW.cell hBs).trans hb
  have hr1 := hr.below hW (Nat.le_refl _)
  clear hb hr
  have HL := Lib.hid hl
  clear hl
  refine callsIn_of_wp Tryz.func76 rfl hf ?_ hro
  simp only [Tryz.ntmps76, List.size_toArray, List.length_cons, List.length_nil, Nat.reduceAdd, Nat.reduceSub, Array.replicate_succ, Array.replicate_zero, List.push_toArray, List.append_toArray, List.nil_append, List.cons_append]
  gi_wp2
  gi_loopw [3] (fun i wr => ∃ (m : Nat) (j : Int), i = .int .i64 j ∧ j + 1 = (m : Int) ∧ m ≤ N ∧ J (N - m) wr ∧ wr.cell? ⟨Bs, 0, none⟩ = some (.slice A N c) ∧ ∀ t, t < m → ∀ b o, A = some ⟨b, o, none⟩ → wr.cell? ⟨b, o + t, none⟩ = some (.int .u32 ((nth xs t : Nat) : Int)))
    (fun i _ => (intOf i + 1).toNat)
  case atStart =>
    refine ⟨N, _, rfl, by omega, Nat.le_refl _, by rw [Nat.sub_self]; exact h0, hb1, fun t ht b o hA => ?_⟩
    obtain ⟨b', o', h1, _, h2⟩ := hr1.at_ (k := t) (by have := HL.out; omega)
    rw [hA] at h1
    injection h1 with h1
    injection h1 with h1 h3
    subst h1 h3
    exact h2
  case round =>
    obtain ⟨m, j, rfl, hj, hm, hJ, hbx, hcells⟩ := hrel
    have HC := Lib.hid hcells
    clear hcells
    by_cases hpos : 0 < m
    · obtain ⟨q, rfl⟩ : ∃ q, m = q + 1 := ⟨m - 1, by omega⟩
      obtain rfl : j = (q : Int) := by omega
      obtain ⟨b, o, hA, _, _⟩ := hr1.at_ (k := q) (by have := HL.out; omega)
      have hcx := HC.out q (by omega) b o hA
      have hq0 : (0 : Int) ≤ (q : Int) := by omega
      have hq1 : (q : Int) < (N : Int) := by omega
      obtain ⟨fn, tmps, assign, body, hy, hR⟩ := hY (N - (q + 1)) wr (by omega) hJ
      have he : N - 1 - (N - (q + 1)) = q := by omega
      simp only [benc, he] at hy
      have HE := Lib.hid he
      clear he
      subst hA
      gi_wp2
      refine hR.mono ?_
      rintro e W3 (⟨rfl, hJ3, hk3⟩ | ⟨rfl, hJx3⟩)
      · have HS : Hid (Same (bkeep Bs (some ⟨b, o, none⟩) N (N - (q + 1))) wr W3) := Lib.hid hk3
        have HJ := Lib.hid hJ3
        clear hk3 hJ3 hJ
        gi_wp2
        go_roundw
        case rel =>
          refine ⟨q, _, rfl, by omega, by omega, by have := HJ.out; rwa [show N - (q + 1) + 1 = N - q by omega] at this, HS.out.cell _ _ (.inl rfl) hbx, fun t ht b' o' hA => ?_⟩
          injection hA with hA
          injection hA with h1 h2
          subst h1 h2
          exact HS.out.cell _ _ (.inr ⟨b, o, t, rfl, by have := HE.out; omega, rfl⟩) (HC.out t (by omega) b o rfl)
        case measure => first | (simp [intOf]; done) | (simp [intOf]; omega)
      · gi_wp2
        refine bodyPost_ret (results_none rfl _ _ _) rfl ?_
        exact ⟨⟨_, rfl⟩, .inr ⟨_, by omega, hJx3⟩⟩
    · obtain rfl : m = 0 := by omega
      obtain rfl : j = -1 := by omega
      have HJ : Hid (J N wr) := Lib.hid (by simpa using hJ)
      clear hJ
      gi_wp2
      go_end0
      exact ⟨⟨_, rfl⟩, .inl HJ.out⟩

set_option maxHeartbeats 1000000 in
theorem backv_in (F : Fence) (n : Nat) (hf : F.fn 55) (hro : F.round = none) (A : Option Addr) (N c : Nat) (w : World) :
    CallsIn F n Tryz.prog 55 #[.slice A N c] w fun e w' => e = .returned (.func (.func 76) #[] #[.pointer (some ⟨w.heap.size, 0, none⟩)]) ∧ w.alloc (.cells #[.slice A N c] 22) = w' := by
  refine callsIn_of_wp Tryz.func55 rfl hf ?_ hro
  simp only [Tryz.ntmps55, List.size_toArray, List.length_cons, List.length_nil, Nat.reduceAdd, Nat.reduceSub, Array.replicate_succ, Array.replicate_zero, List.push_toArray, List.append_toArray, List.nil_append, List.cons_append]
  gi_wp2
  go_ret
  exact ⟨rfl, rfl⟩
theorem backv_calls (A : Option Addr) (N c : Nat) (w : World) :
    Calls Tryz.prog 55 #[.slice A N c] w fun e w' => e = .returned (.func (.func 76) #[] #[.pointer (some ⟨w.heap.size, 0, none⟩)]) ∧ w.alloc (.cells #[.slice A N c] 22) = w' :=
  callsIn_wide.1 (backv_in Fence.wide 4 trivial rfl A N c w)
end Go.Proofs.YtaifigkbblncpaaGreatDoor
