/-
  The document's numbers, in digits: Cmp.
-/
import Derived.Test.YtemalomcdiahiaaDoorAdd
namespace Go.Proofs.YtemalomcdiahiaaDoor
open Go.RowKit

/-- Which one is greater: -1, 0, 1. -/
def cmpI (a b : Nat) : Int := if a < b then -1 else if b < a then 1 else 0
theorem cmpI_lt {a b : Nat} (h : a < b) : cmpI a b = -1 := by simp [cmpI, h]
theorem cmpI_gt {a b : Nat} (h : b < a) : cmpI a b = 1 := by simp [cmpI, h]; omega
theorem cmpI_eq {a b : Nat} (h : a = b) : cmpI a b = 0 := by simp [cmpI, h]

structure Box2 (w : World) (x y : Value) (wr : World) : Prop where
  below : Below w.heap.size w wr
  one : Blk wr w.heap.size 33 #[x]
  two : Blk wr (w.heap.size + 1) 33 #[y]
theorem Box2.start (w : World) (x y : Value) : Box2 w x y ((w.alloc (.cells #[x] 33)).alloc (.cells #[y] 33)) := by
  refine ⟨((Below.refl _ _).alloc (Nat.le_refl _) _).alloc (by simp) _, (Blk.new w _ _).alloc _, ?_⟩
  simpa using Blk.new (w.alloc (.cells #[x] 33)) 33 #[y]
theorem Box2.more {w wr w1 : World} {x y : Value} (h : Box2 w x y wr) (hb : Below wr.heap.size wr w1) : Box2 w x y w1 :=
  ⟨h.below.trans (hb.mono h.below.size), h.one.below hb h.one.lt, h.two.below hb h.two.lt⟩

theorem drop_lt {xs ys : List Nat} {k : Nat} (hx : Dig xs) (h : V (xs.drop (k + 1)) = V (ys.drop (k + 1))) (hl : nth xs k < nth ys k) : V xs < V ys := by
  have ex : V xs = V (xs.take k) + 65536 ^ k * V (xs.drop k) := by
    by_cases hk : k ≤ xs.length
    · have := V_append (xs.take k) (xs.drop k)
      rw [List.take_append_drop, show (xs.take k).length = k by simp; omega] at this
      exact this
    · rw [List.drop_eq_nil_of_le (show xs.length ≤ k by omega), List.take_of_length_le (show xs.length ≤ k by omega)]; simp [V]
  have ey : 65536 ^ k * V (ys.drop k) ≤ V ys := by
    by_cases hk : k ≤ ys.length
    · have := V_append (ys.take k) (ys.drop k)
      rw [List.take_append_drop, show (ys.take k).length = k by simp; omega] at this
      omega
    · rw [nth_out (xs := ys) (by omega)] at hl; omega
  have hlow : V (xs.take k) < 65536 ^ k := by
    have h1 := V_lt (hx.take k)
    have h2 : 65536 ^ (xs.take k).length ≤ 65536 ^ k := Nat.pow_le_pow_right (by omega) (by simp; omega)
    omega
  rw [V_drop xs k] at ex
  rw [V_drop ys k, ← h] at ey
  generalize V (xs.drop (k + 1)) = t at *
  have h3 : 65536 ^ k * (nth xs k + 65536 * t + 1) ≤ 65536 ^ k * (nth ys k + 65536 * t) := Nat.mul_le_mul_left _ (by omega)
  rw [Nat.mul_add _ _ 1] at h3
  omega

def CmpRel (xs ys : List Nat) (w : World) (x y : Value) (k : Nat) (wr : World) : Prop := V (xs.drop k) = V (ys.drop k) ∧ Box2 w x y wr

/-- digit(a, i) of a, digit(b, i) of b, in one test. -/
def DigitsAt (xs ys : List Nat) (l : Nat) : Prop := nth xs l < nth ys l

set_option maxHeartbeats 1600000 in
theorem cmp_loop (A1 A2 : Option Addr) (xs ys : List Nat) (n1 c1 n2 c2 M : Nat) (w : World) (hl1 : xs.length = n1) (hl2 : ys.length = n2) (hr1 : Rd w w.heap.size A1 xs) (hr2 : Rd w w.heap.size A2 ys)
    (hd1 : Dig xs) (hd2 : Dig ys) (hn1 : n1 ≤ M) (hn2 : n2 ≤ M) (hM : M ≤ 100000) :
    Calls Tryd.prog 47 #[.agg #[.slice A1 n1 c1], .agg #[.slice A2 n2 c2]] w fun e w' => e = .returned (.int .i64 (cmpI (V xs) (V ys))) ∧ Below w.heap.size w w' := by
  have HL1 := Lib.hid hl1
  have HL2 := Lib.hid hl2
  clear hl1 hl2
  have hcases : n1 < n2 ∨ ¬ n1 < n2 := by omega
  rcases hcases with hcmp | hcmp
  all_goals
    go_enter Tryd.func47, Tryd.ntmps47
    go_wp2_with fail
    go_loopw [6] (fun i wr => ∃ k : Nat, i = .int .i64 ((k : Int) - 1) ∧ k ≤ M ∧ CmpRel xs ys w (.slice A1 n1 c1) (.slice A2 n2 c2) k wr) (fun i _ => (intOf i + 1).toNat)
    case atStart => first
      | exact ⟨n2, rfl, hn2, by rw [List.drop_eq_nil_of_le (by have := HL1.out; omega), List.drop_eq_nil_of_le (by have := HL2.out; omega)], Box2.start _ _ _⟩
      | exact ⟨n1, rfl, hn1, by rw [List.drop_eq_nil_of_le (by have := HL1.out; omega), List.drop_eq_nil_of_le (by have := HL2.out; omega)], Box2.start _ _ _⟩
    case round =>
      obtain ⟨k, rfl, hk, hv, harg⟩ := hrel
      have HV := Lib.hid hv
      have ca := harg.one.cell 0
      have cb := harg.two.cell 0
      clear hv
      by_cases ht : 0 < k
      · obtain ⟨l, rfl⟩ : ∃ m, k = m + 1 := ⟨k - 1, by omega⟩
        have HLT : Hid (nth xs l < nth ys l → V xs < V ys) := Lib.hid (drop_lt hd1 HV.out)
        have HGT : Hid (nth ys l < nth xs l → V ys < V xs) := Lib.hid (drop_lt hd2 HV.out.symm)
        have HEQ : Hid (¬ nth xs l < nth ys l → ¬ nth ys l < nth xs l → V (xs.drop l) = V (ys.drop l)) := Lib.hid (fun h1 h2 => by have := HV.out; rw [V_drop xs l, V_drop ys l]; omega)
        clear HV
        go_wp2_with fail
        go_region_held3 (fun w' => w'.cell? ⟨w.heap.size, 0, none⟩ = some (.slice A1 n1 c1) ∧ w'.cell? ⟨w.heap.size + 1, 0, none⟩ = some (.slice A2 n2 c2) ∧ Below wr.heap.size wr w')
          (first | exact ⟨ca, cb, (Below.refl _ _).drew⟩ | assumption)
          (first
            | (go_at_call 69; with_reducible refine (digit_any A1 xs n1 c1 l _ HL1.out (rd_far hr1 harg.below (by assumption)) (by omega)).mono ?_; rintro e w' ⟨rfl, hb'⟩; have hS := held_more hb' (by assumption))
            | (go_at_call 69; with_reducible refine (digit_any A2 ys n2 c2 l _ HL2.out (rd_far hr2 harg.below (by assumption)) (by omega)).mono ?_; rintro e w' ⟨rfl, hb'⟩; have hS := held_more hb' (by assumption)))
        have hB : Below wr.heap.size wr w' := hS.2.2
        have harg2 := harg.more hB
        by_cases hlt : nth xs l < nth ys l
        · have HC : Hid (cmpI (V xs) (V ys) = -1) := Lib.hid (cmpI_lt (HLT.out hlt))
          clear hS ca cb hcmp
          go_wp2_with fail
          go_ret
          exact ⟨by rw [HC.out]; rfl, harg2.below⟩
        · have ca2 := harg2.one.cell 0
          have cb2 := harg2.two.cell 0
          clear hS ca cb hcmp hB
          have hwg : ∃ wg, wg = w' := ⟨_, rfl⟩
          obtain ⟨wg, hwg⟩ := hwg
          rw [← hwg] at ca2 cb2 harg2 ⊢
          clear hwg
          go_wp2_with fail
          go_region_held3 (fun w' => w'.cell? ⟨w.heap.size, 0, none⟩ = some (.slice A1 n1 c1) ∧ w'.cell? ⟨w.heap.size + 1, 0, none⟩ = some (.slice A2 n2 c2) ∧ Below wg.heap.size wg w')
            (first | exact ⟨ca2, cb2, (Below.refl _ _).drew⟩ | assumption)
            (first
              | (go_at_call 69; with_reducible refine (digit_any A1 xs n1 c1 l _ HL1.out (rd_far hr1 harg2.below (by assumption)) (by omega)).mono ?_; rintro e w' ⟨rfl, hb'⟩; have hS := held_more hb' (by assumption))
              | (go_at_call 69; with_reducible refine (digit_any A2 ys n2 c2 l _ HL2.out (rd_far hr2 harg2.below (by assumption)) (by omega)).mono ?_; rintro e w' ⟨rfl, hb'⟩; have hS := held_more hb' (by assumption)))
          have hB3 := hS.2.2
          have harg3 := harg2.more hB3
          by_cases hgt : nth ys l < nth xs l
          · have HC : Hid (cmpI (V xs) (V ys) = 1) := Lib.hid (cmpI_gt (HGT.out hgt))
            clear hS ca2 cb2
            go_wp2_with fail
            go_ret
            exact ⟨by rw [HC.out]; rfl, harg3.below⟩
          · have HE := Lib.hid (HEQ.out hlt hgt)
            clear hS ca2 cb2
            go_wp2_with fail
            go_roundw
            case rel => exact ⟨l, by go_num, by omega, HE.out, harg3⟩
            case measure => simp [intOf]
      · obtain rfl : k = 0 := by omega
        have HC : Hid (cmpI (V xs) (V ys) = 0) := Lib.hid (cmpI_eq (by have := HV.out; simpa using this))
        go_wp2_with fail
        go_ret
        exact ⟨by rw [HC.out]; rfl, harg.below⟩
end Go.Proofs.YtemalomcdiahiaaDoor
