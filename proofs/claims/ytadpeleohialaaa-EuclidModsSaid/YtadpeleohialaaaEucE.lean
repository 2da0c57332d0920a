/-
  Package euclid of the program: PowMod, Inverse.
-/
import Derived.Test.YtadpeleohialaaaEucD
namespace Go.Proofs.Ytadpeleohialaaa
open Go.RowKit

theorem and_one (a : Nat) (ha : a < 18446744073709551616) : bits .and .u64 (a : Int) 1 = ((a % 2 : Nat) : Int) := by
  have h := bits_and_u64_nat a 1 ha (by decide)
  have e : a &&& 1 = a % 2 := Nat.and_two_pow_sub_one_eq_mod a 1
  rw [e] at h
  exact h
theorem pow_odd {x s k m : Nat} (h : k % 2 = 1) : (x * s % m) * (s * s % m) ^ (k / 2) % m = x * s ^ k % m := by
  have e : s ^ k = s * (s * s) ^ (k / 2) := by
    have e2 : s ^ (2 * (k / 2) + 1) = s * (s * s) ^ (k / 2) := by rw [Nat.pow_succ, Nat.pow_mul, Nat.pow_two, Nat.mul_comm]
    rw [show 2 * (k / 2) + 1 = k by omega] at e2
    exact e2
  rw [e, ← Nat.mul_assoc, Nat.mul_mod (x * s % m), Nat.mod_mod, ← Nat.pow_mod, ← Nat.mul_mod]
theorem pow_even {x s k m : Nat} (h : k % 2 = 0) : x * (s * s % m) ^ (k / 2) % m = x * s ^ k % m := by
  have e : s ^ k = (s * s) ^ (k / 2) := by
    have e2 : s ^ (2 * (k / 2)) = (s * s) ^ (k / 2) := by rw [Nat.pow_mul, Nat.pow_two]
    rw [show 2 * (k / 2) = k by omega] at e2
    exact e2
  rw [e, Nat.mul_mod x, ← Nat.pow_mod, ← Nat.mul_mod]

set_option maxHeartbeats 400000 in
theorem powmod_zero (a n : Nat) (w : World) :
    Calls Try.prog 14 #[.int .u64 (a : Int), .int .u64 (n : Int), .int .u64 0] w fun e w' => e = .returned (.tuple #[.int .u64 0, .bool false]) ∧ Below w.heap.size w w' := by
  go_enter Try.func14, Try.ntmps14
  go_wp2_with fail
  go_ret2
  exact ⟨rfl, Below.refl _ _⟩

set_option maxHeartbeats 1600000 in
theorem powmod_any (a n m : Nat) (w : World) (hn : n < 18446744073709551616) (hm : m < 18446744073709551616) (h0 : 0 < m) :
    Calls Try.prog 14 #[.int .u64 (a : Int), .int .u64 (n : Int), .int .u64 (m : Int)] w fun e w' => e = .returned (.tuple #[.int .u64 ((a ^ n % m : Nat) : Int), .bool true]) ∧ Below w.heap.size w w' := by
  obtain ⟨p, hp0⟩ : ∃ p, a ^ n % m = p := ⟨_, rfl⟩
  rw [hp0]
  have h1 : ((m : Int) == 0) = false := by simp; omega
  have h2 : ¬ (m : Int) = 0 := by omega
  have ho : 1 % m < m := Nat.mod_lt _ h0
  have hs : a % m < m := Nat.mod_lt _ h0
  have e1 : (1 : Int) % (m : Int) = ((1 % m : Nat) : Int) := by simp
  have e1t : (1 : Int).tmod (m : Int) = ((1 % m : Nat) : Int) := by simp [Int.tmod]
  have e2 : (a : Int) % (m : Int) = ((a % m : Nat) : Int) := by simp
  have e2t : (a : Int).tmod (m : Int) = ((a % m : Nat) : Int) := by simp [Int.tmod]
  have HST : Hid ((1 % m) * (a % m) ^ n % m = p) := Lib.hid (by rw [← hp0, Nat.mul_mod, Nat.mod_mod, ← Nat.pow_mod, ← Nat.mul_mod, Nat.one_mul])
  generalize 1 % m = o at *
  generalize a % m = s0 at *
  clear hp0
  go_enter Try.func14, Try.ntmps14
  go_wp2_with fail
  go_loopw [1, 8, 9] (fun y1 y8 y9 wr => ∃ k x s : Nat, y1 = .int .u64 (k : Int) ∧ y8 = .int .u64 (x : Int) ∧ y9 = .int .u64 (s : Int) ∧ k < 18446744073709551616 ∧ x < m ∧ s < m ∧ Hid (x * s ^ k % m = p) ∧ Below w.heap.size w wr) (fun y1 _ _ _ => (intOf y1).toNat)
  case atStart => exact ⟨n, o, s0, rfl, rfl, rfl, hn, ho, hs, HST, Below.refl _ _⟩
  case round =>
    clear HST e1 e1t e2 e2t
    obtain ⟨k, x, s, rfl, rfl, rfl, hk, hx, hs, HI, hbl⟩ := hrel
    by_cases hk0 : k = 0
    · subst hk0
      have HE : Hid (x = p) := Lib.hid (by have := HI.out; rw [Nat.pow_zero, Nat.mul_one, Nat.mod_eq_of_lt hx] at this; exact this)
      go_wp2_with fail
      go_ret2
      exact ⟨by rw [HE.out]; rfl, hbl⟩
    · have hk1 : ((k : Int) != 0) = true := by simp; omega
      have hand := and_one k hk
      have hss : s * s % m < m := Nat.mod_lt _ h0
      have hxs : x * s % m < m := Nat.mod_lt _ h0
      rcases (show k % 2 = 1 ∨ k % 2 = 0 by omega) with hd | hd
      · rw [hd] at hand
        have HN : Hid ((x * s % m) * (s * s % m) ^ (k / 2) % m = p) := Lib.hid (by rw [pow_odd hd]; exact HI.out)
        clear hd HI
        go_wp2_with fail
        refine (mulmod_any x s m _ (by omega) (by omega) hm h0).mono ?_
        rintro e u1 ⟨rfl, hb1⟩
        have hB := hbl.trans (hb1.mono hbl.size)
        clear hb1
        go_wp2_with fail
        refine (mulmod_any s s m _ (by omega) (by omega) hm h0).mono ?_
        rintro e u2 ⟨rfl, hb2⟩
        have hB := hB.trans (hb2.mono hB.size)
        clear hb2
        go_wp2_with fail
        go_roundw
        case rel => exact ⟨k / 2, x * s % m, s * s % m, by go_num, rfl, rfl, by omega, hxs, hss, HN, hB⟩
        case measure => simp [intOf]; omega
      · rw [hd] at hand
        have HN : Hid (x * (s * s % m) ^ (k / 2) % m = p) := Lib.hid (by rw [pow_even hd]; exact HI.out)
        clear hd HI
        go_wp2_with fail
        refine (mulmod_any s s m _ (by omega) (by omega) hm h0).mono ?_
        rintro e u2 ⟨rfl, hb2⟩
        have hB := hbl.trans (hb2.mono hbl.size)
        clear hb2
        go_wp2_with fail
        go_roundw
        case rel => exact ⟨k / 2, x, s * s % m, by go_num, rfl, rfl, by omega, hx, hss, HN, hB⟩
        case measure => simp [intOf]; omega

/-- What holds at each round's head: r and x are f and g times a, modulo m. -/
structure InvS (a m r x f g : Nat) : Prop where
  gcd : Nat.gcd r x = Nat.gcd a m
  rm : r ≤ m
  xm : x < m
  fm : f < m
  gm : g < m
  ef : ∃ k : Int, (f : Int) * (a : Int) = (r : Int) + k * (m : Int)
  eg : ∃ k : Int, (g : Int) * (a : Int) = (x : Int) + k * (m : Int)
theorem InvS.start {a m : Nat} (h : 2 ≤ m) : InvS a m m (a % m) 0 1 := by
  refine ⟨by rw [gcd_step], Nat.le_refl _, Nat.mod_lt _ (by omega), by omega, by omega, ⟨-1, by omega⟩, ⟨((a / m : Nat) : Int), ?_⟩⟩
  have := Nat.div_add_mod a m
  have e : (a : Int) = ((m * (a / m) + a % m : Nat) : Int) := by rw [this]
  rw [Int.natCast_add, Int.natCast_mul] at e
  rw [Int.natCast_one, Int.one_mul, Int.mul_comm ((a / m : Nat) : Int), Int.add_comm]
  exact e
theorem InvS.step {a m r x f g : Nat} (h : InvS a m r x f g) (hx : x ≠ 0) : InvS a m x (r % x) g (lessM f (r / x * g % m) m) := by
  obtain ⟨k1, e1⟩ := h.ef
  obtain ⟨k2, e2⟩ := h.eg
  have hm : 0 < m := Nat.lt_of_le_of_lt (Nat.zero_le _) h.fm
  have hxr : r % x < x := Nat.mod_lt _ (by omega)
  have hxm := h.xm
  refine ⟨by rw [gcd_step]; exact h.gcd, by omega, by omega, h.gm, lessM_lt h.fm, h.eg, ?_⟩
  obtain ⟨k3, e3⟩ := lessM_mod (a := f) (b := r / x * g % m) (m := m) (Nat.mod_lt _ hm)
  have d1 := Nat.div_add_mod r x
  have d2 := Nat.div_add_mod (r / x * g) m
  generalize r / x * g % m = t at *
  generalize r / x * g / m = u at *
  generalize r % x = y at *
  generalize r / x = q at *
  have d1' : (r : Int) = (x : Int) * (q : Int) + (y : Int) := by rw [← d1]; simp
  have d2' : (q : Int) * (g : Int) = (m : Int) * (u : Int) + (t : Int) := by
    have : ((q * g : Nat) : Int) = ((m * u + t : Nat) : Int) := by rw [d2]
    simpa using this
  refine ⟨k1 - (q : Int) * k2 + (u : Int) * (a : Int) + k3 * (a : Int), ?_⟩
  rw [e3]
  have et : (t : Int) = (q : Int) * (g : Int) - (m : Int) * (u : Int) := by omega
  have ey : (y : Int) = (r : Int) - (x : Int) * (q : Int) := by omega
  rw [et, ey]
  grind
theorem InvS.done {a m r f g : Nat} (h : InvS a m r 0 f g) : r = Nat.gcd a m := by
  have := h.gcd
  simpa using this
theorem InvS.one {a m f g : Nat} (h : InvS a m 1 0 f g) (h2 : 2 ≤ m) : a * f % m = 1 := by
  obtain ⟨k, e⟩ := h.ef
  have e2 : ((a * f % m : Nat) : Int) = 1 := by
    rw [Int.natCast_emod, Int.natCast_mul, Int.mul_comm, e, Int.add_mul_emod_self_right]
    exact Int.emod_eq_of_lt (by simp) (by omega)
  omega

/-- What Inverse answers. -/
def RetInv (a m : Nat) (w : World) (e : Ending) (w' : World) : Prop :=
  ∃ (i : Nat) (ok : Bool), e = .returned (.tuple #[.int .u64 (i : Int), .bool ok]) ∧ Hid (ok = decide (2 ≤ m ∧ Nat.gcd a m = 1)) ∧ Hid (ok = true → i < m ∧ a * i % m = 1) ∧ Hid (ok = false → i = 0) ∧ Below w.heap.size w w'

set_option maxHeartbeats 1600000 in
theorem inverse_any (a m : Nat) (w : World) (hm : m < 18446744073709551616) :
    Calls Try.prog 17 #[.int .u64 (a : Int), .int .u64 (m : Int)] w (RetInv a m w) := by
  by_cases h2 : m < 2
  · have h2' : (m : Int) < 2 := by omega
    go_enter Try.func17, Try.ntmps17
    go_wp2_with fail
    go_ret2
    exact ⟨0, false, rfl, Lib.hid (by simp; omega), Lib.hid (fun h => by cases h), Lib.hid (fun _ => rfl), Below.refl _ _⟩
  · have h2' : ¬ (m : Int) < 2 := by omega
    have h1 : ((m : Int) == 0) = false := by simp; omega
    have h3 : ¬ (m : Int) = 0 := by omega
    have HST := Lib.hid (InvS.start (a := a) (m := m) (by omega))
    have e2 : (a : Int) % (m : Int) = ((a % m : Nat) : Int) := by simp
    have e2t : (a : Int).tmod (m : Int) = ((a % m : Nat) : Int) := by simp [Int.tmod]
    generalize a % m = x0 at *
    go_enter Try.func17, Try.ntmps17
    go_wp2_with fail
    go_quiet (fail)
    go_wp2_with fail
    go_loopw [6, 7, 8, 9] (fun y6 y7 y8 y9 wr => ∃ r x f g : Nat, y6 = .int .u64 (r : Int) ∧ y7 = .int .u64 (x : Int) ∧ y8 = .int .u64 (f : Int) ∧ y9 = .int .u64 (g : Int) ∧ Hid (InvS a m r x f g) ∧ Below w.heap.size w wr) (fun _ y7 _ _ _ => (intOf y7).toNat)
    case atStart => exact ⟨m, x0, 0, 1, rfl, rfl, rfl, rfl, HST, below_drewN _⟩
    case round =>
      clear HST e2 e2t
      obtain ⟨r, x, f, g, rfl, rfl, rfl, rfl, HI, hbl⟩ := hrel
      by_cases hx0 : x = 0
      · subst hx0
        have HR : Hid (r = Nat.gcd a m) := Lib.hid HI.out.done
        by_cases hr1 : r = 1
        · subst hr1
          go_wp2_with fail
          go_ret2
          exact ⟨f, true, rfl, Lib.hid (by have := HR.out; simp; omega), Lib.hid (fun _ => ⟨HI.out.fm, HI.out.one (by omega)⟩), Lib.hid (fun h => by cases h), hbl⟩
        · have hr2 : ((r : Int) != 1) = true := by simp; omega
          go_wp2_with fail
          go_ret2
          exact ⟨0, false, rfl, Lib.hid (by have := HR.out; simp; omega), Lib.hid (fun h => by cases h), Lib.hid (fun _ => rfl), hbl⟩
      · have hx1 : ((x : Int) == 0) = false := by simp; omega
        have hx2 : ¬ (x : Int) = 0 := by omega
        have hx4 : ¬ x = 0 := hx0
        have hx5 : ((x : Int) != 0) = true := by simp; omega
        have HN := Lib.hid (HI.out.step hx0)
        have hrm := HI.out.rm
        have hxm := HI.out.xm
        have hfm := HI.out.fm
        have hgm := HI.out.gm
        have hqr : r / x ≤ r := Nat.div_le_self _ _
        have hyx : r % x < x := Nat.mod_lt _ (by omega)
        have e1 : IntKind.u64.wrap ((r : Int) / (x : Int)) = ((r / x : Nat) : Int) := by rw [show (r : Int) / (x : Int) = ((r / x : Nat) : Int) by simp, u64_in _ (by omega)]
        have e1t : IntKind.u64.wrap ((r : Int).tdiv (x : Int)) = ((r / x : Nat) : Int) := by rw [show (r : Int).tdiv (x : Int) = ((r / x : Nat) : Int) by rfl, u64_in _ (by omega)]
        have e2 : (r : Int) % (x : Int) = ((r % x : Nat) : Int) := by simp
        have e2t : (r : Int).tmod (x : Int) = ((r % x : Nat) : Int) := by simp [Int.tmod]
        generalize r / x = q at *
        generalize r % x = y at *
        have ht : q * g % m < m := Nat.mod_lt _ (by omega)
        clear HI
        go_wp2_with fail
        go_quiet (fail)
        go_wp2_with fail
        refine (mulmod_any q g m _ (by omega) (by omega) hm (by omega)).mono ?_
        rintro e u1 ⟨rfl, hb1⟩
        have hB0 := bel_drewN hbl 1
        generalize q * g % m = t at *
        go_wp2_with fail
        refine (lessMod_any f t m _ hfm ht hm).mono ?_
        rintro e u2 ⟨rfl, rfl⟩
        generalize lessM f t m = z at *
        go_wp2_with fail
        go_roundw
        case rel => exact ⟨x, y, g, z, rfl, rfl, rfl, rfl, HN, (bel_drewN hbl _).trans (hb1.mono (bel_drewN hbl _).size)⟩
        case measure => simp [intOf]; omega
end Go.Proofs.Ytadpeleohialaaa
