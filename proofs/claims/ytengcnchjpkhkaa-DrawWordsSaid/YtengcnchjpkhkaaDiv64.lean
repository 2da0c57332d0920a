/-
  math/bits.Div64: the quotient and the rest of two words by one.
-/
import Derived.Test.YtengcnchjpkhkaaShelf
import Derived.Test.YtengcnchjpkhkaaPackA
import Derived.Test.YtengcnchjpkhkaaDivMath
import Derived.BigQuiet
import Derived.Deep.QuietTactic
import Derived.Deep.CutBlock
import Derived.BigGuardPart
import Derived.Deep.DeepCutAuto
namespace Go.Proofs.Ytengcnchjpkhkaa
open Go.RowKit

/-- q and r are the quotient and the rest. -/
def RetDiv (n y : Nat) (w : World) (e : Ending) (w' : World) : Prop :=
  ∃ q r : Nat, e = .returned (.tuple #[.int .u64 (q : Int), .int .u64 (r : Int)]) ∧ n = q * y + r ∧ r < y ∧ q < 18446744073709551616 ∧ Below w.heap.size w w'

set_option maxHeartbeats 400000 in
theorem div64_zero (lo y : Nat) (w : World) (h2 : lo < 18446744073709551616) (h3 : y < 18446744073709551616) (hy : 0 < y) :
    Calls Try.prog 47 #[.int .u64 0, .int .u64 (lo : Int), .int .u64 (y : Int)] w (RetDiv lo y w) := by
  have hy1 : ((y : Int) == 0) = false := by simp; omega
  have hy2 : decide ((y : Int) ≤ 0) = false := by simp; omega
  have hy3 : ¬ (y : Int) = 0 := by omega
  go_enter Try.func47, Try.ntmps47
  go_wp2_with fail
  go_quiet (fail)
  go_wp2_with fail
  go_ret2
  have hq : lo / y < 18446744073709551616 := Nat.lt_of_le_of_lt (Nat.div_le_self _ _) h2
  have e1 : IntKind.u64.wrap ((lo : Int) / (y : Int)) = ((lo / y : Nat) : Int) := by
    rw [show (lo : Int) / (y : Int) = ((lo / y : Nat) : Int) by simp, u64_in _ hq]
  rw [e1]
  exact ⟨lo / y, lo % y, by simp, by rw [Nat.mul_comm]; exact (Nat.div_add_mod lo y).symm, Nat.mod_lt _ hy, hq, below_drewN _⟩

/-- The numbers that the two steps take, out of the shifted divisor and dividend. -/
structure Setup (hi lo y s Y y1 y0 H L un32 un10 u1 u0 Q1 R1 Q0 R0 : Nat) : Prop where
  eY : IntKind.u64.wrap ((y : Int) * 2 ^ s) = (Y : Int)
  ey1 : (Y : Int) / 4294967296 = (y1 : Int)
  ey0 : bits .and .u64 (Y : Int) 4294967295 = (y0 : Int)
  eH : IntKind.u64.wrap ((hi : Int) * 2 ^ s) = (H : Int)
  eL : (lo : Int) / 2 ^ (64 - s) = (L : Int)
  e32 : bits .or .u64 (H : Int) (L : Int) = (un32 : Int)
  e10 : IntKind.u64.wrap ((lo : Int) * 2 ^ s) = (un10 : Int)
  eu1 : (un10 : Int) / 4294967296 = (u1 : Int)
  eu0 : bits .and .u64 (un10 : Int) 4294967295 = (u0 : Int)
  s1 : Step Y y1 y0 un32 u1 Q1 R1
  s0 : Step Y y1 y0 R1 u0 Q0 R0
  fin : hi * 18446744073709551616 + lo = (Q1 * 4294967296 + Q0) * y + R0 / 2 ^ s ∧ R0 / 2 ^ s < y
  yhi : Y < 18446744073709551616

theorem setup (hi lo y s : Nat) (h1 : hi < y) (h2 : lo < 18446744073709551616) (hs : s ≤ 63) (hn1 : 9223372036854775808 ≤ y * 2 ^ s) (hn2 : y * 2 ^ s < 18446744073709551616) (h0 : 0 < hi) :
    ∃ Y y1 y0 H L un32 un10 u1 u0 Q1 R1 Q0 R0, Setup hi lo y s Y y1 y0 H L un32 un10 u1 u0 Q1 R1 Q0 R0 := by
  have hP : 0 < 2 ^ s := Nat.pow_pos (by omega)
  have ep : 2 ^ s * 2 ^ (64 - s) = 18446744073709551616 := by rw [← Nat.pow_add, show s + (64 - s) = 64 by omega]
  have hT : 0 < 2 ^ (64 - s) := Nat.pow_pos (by omega)
  have hL : lo / 2 ^ (64 - s) < 2 ^ s := by rw [Nat.div_lt_iff_lt_mul hT, ep]; exact h2
  have hH : hi * 2 ^ s + 2 ^ s ≤ y * 2 ^ s := by rw [← Nat.succ_mul]; exact Nat.mul_le_mul_right _ h1
  have hor : hi * 2 ^ s ||| lo / 2 ^ (64 - s) = hi * 2 ^ s + lo / 2 ^ (64 - s) := by
    have := Nat.two_pow_add_eq_or_of_lt (i := s) hL hi
    rw [Nat.mul_comm] at this
    exact this.symm
  have eY : ((y : Int) * 2 ^ s) = ((y * 2 ^ s : Nat) : Int) := by simp
  have eH : ((hi : Int) * 2 ^ s) = ((hi * 2 ^ s : Nat) : Int) := by simp
  have eLo : ((lo : Int) * 2 ^ s) = ((lo * 2 ^ s : Nat) : Int) := by simp
  have eL : (lo : Int) / 2 ^ (64 - s) = ((lo / 2 ^ (64 - s) : Nat) : Int) := by simp
  obtain ⟨Y, hY⟩ : ∃ Y, Y = y * 2 ^ s := ⟨_, rfl⟩
  obtain ⟨un32, h32⟩ : ∃ x, x = hi * 2 ^ s + lo / 2 ^ (64 - s) := ⟨_, rfl⟩
  obtain ⟨un10, h10⟩ : ∃ x, x = lo * 2 ^ s % 18446744073709551616 := ⟨_, rfl⟩
  have hYlo : 9223372036854775808 ≤ Y := by omega
  have hYhi : Y < 18446744073709551616 := by omega
  have hu32 : un32 < Y := by omega
  have hu10 : un10 < 18446744073709551616 := by omega
  have s1 : Step Y (Y / 4294967296) (Y % 4294967296) un32 (un10 / 4294967296) ((un32 * 4294967296 + un10 / 4294967296) / Y) ((un32 * 4294967296 + un10 / 4294967296) % Y) :=
    ⟨by omega, by omega, by omega, by omega, hu32, by omega, by rw [Nat.mul_comm (_ / Y)]; exact (Nat.div_add_mod _ Y).symm, Nat.mod_lt _ (by omega)⟩
  have hR1 := s1.hR
  generalize hR : (un32 * 4294967296 + un10 / 4294967296) % Y = R1 at *
  have s0 : Step Y (Y / 4294967296) (Y % 4294967296) R1 (un10 % 4294967296) ((R1 * 4294967296 + un10 % 4294967296) / Y) ((R1 * 4294967296 + un10 % 4294967296) % Y) :=
    ⟨by omega, by omega, by omega, by omega, hR1, by omega, by rw [Nat.mul_comm (_ / Y)]; exact (Nat.div_add_mod _ Y).symm, Nat.mod_lt _ (by omega)⟩
  refine ⟨Y, _, _, hi * 2 ^ s, lo / 2 ^ (64 - s), un32, un10, _, _, _, R1, _, _, ?_, by omega, ?_, ?_, eL, ?_, ?_, by omega, ?_, s1, s0, ?_, hYhi⟩
  · rw [eY, ← hY, u64_in _ hYhi]
  · exact and_mask32 Y hYhi
  · rw [eH, u64_in _ (by omega)]
  · rw [bits_or_u64_nat _ _ (by omega) (by omega), hor, h32]
  · rw [eLo, IntKind.wrap_u64, h10]; omega
  · exact and_mask32 un10 hu10
  · exact whole hs (by omega) hY h2 h32 h10 (by omega) s1.heq s0.heq s0.hR

theorem guess {Y y1 y0 un u Q R : Nat} (h : Step Y y1 y0 un u Q R) (hY : Y < 18446744073709551616) : ∃ q r : Nat, IntKind.u64.wrap ((un : Int) / (y1 : Int)) = (q : Int) ∧
    IntKind.u64.wrap ((un : Int) - IntKind.u64.wrap ((q : Int) * (y1 : Int))) = (r : Int) ∧ un = q * y1 + r ∧ r < 4294967296 ∧ q ≤ 4294967297 ∧ Q ≤ q := by
  obtain ⟨e, a, b, c⟩ := h.start
  have hun := h.hun
  refine ⟨un / y1, un % y1, ?_, ?_, e, a, b, c⟩
  · rw [show (un : Int) / (y1 : Int) = ((un / y1 : Nat) : Int) by simp, u64_in _ (by omega)]
  · generalize un / y1 = q at *
    generalize un % y1 = r at *
    rw [show (q : Int) * (y1 : Int) = ((q * y1 : Nat) : Int) by simp]
    generalize q * y1 = p at *
    simp only [IntKind.wrap_u64]
    omega

/-- The guess q, and what it leaves of un. -/
def Guess (un y1 Q q r : Nat) : Prop := r < 4294967296 ∧ q ≤ 4294967297 ∧ Q ≤ q ∧ un = q * y1 + r

/-- One round's test, the guess q below 2^32. -/
theorem guess_test {Y y1 y0 un u Q R q : Nat} (h : Step Y y1 y0 un u Q R) (hq : q < 4294967296) : IntKind.u64.wrap ((q : Int) * (y0 : Int)) = ((q * y0 : Nat) : Int) := mul_u64 hq h.y0hi

set_option maxHeartbeats 3200000 in
set_option maxRecDepth 100000 in
theorem div64_any (hi lo y : Nat) (w : World) (h1 : hi < y) (h2 : lo < 18446744073709551616) (h3 : y < 18446744073709551616) (h0 : 0 < hi) :
    Calls Try.prog 47 #[.int .u64 (hi : Int), .int .u64 (lo : Int), .int .u64 (y : Int)] w (RetDiv (hi * 18446744073709551616 + lo) y w) := by
  have hy1 : ((y : Int) == 0) = false := by simp; omega
  have hy2 : decide ((y : Int) ≤ (hi : Int)) = false := by simp; omega
  have hy3 : ((hi : Int) == 0) = false := by simp; omega
  go_enter Try.func47, Try.ntmps47
  go_wp2_with fail
  refine (Try.bits_LeadingZeros64 (y : Int) _ (by omega) (by omega)).mono ?_
  rintro e w' ⟨rfl, hw⟩
  obtain rfl : w = w' := hw.symm
  obtain ⟨s, hs, he, hn1, hn2⟩ := bitLen_bounds y (by omega) h3
  rw [Int.toNat_natCast, he]
  obtain ⟨Y, y1, y0, H, L, un32, un10, u1, u0, Q1, R1, Q0, R0, HS⟩ := setup hi lo y s h1 h2 hs hn1 hn2 h0
  have eY := HS.eY
  have ey1 := HS.ey1
  have ey0 := HS.ey0
  have eH := HS.eH
  have eL := HS.eL
  have e32 := HS.e32
  have e10 := HS.e10
  have eu1 := HS.eu1
  have eu0 := HS.eu0
  have hy1p : ((y1 : Int) == 0) = false := by have := HS.s1.y1lo; simp; omega
  have hy1q : (0 : Int) < (y1 : Int) := by have := HS.s1.y1lo; omega
  obtain ⟨qa, ra, eqa, era, hqa, hra, hqa2, hQa⟩ := guess HS.s1 HS.yhi
  obtain ⟨qb, rb, eqb, erb, hqb, hrb, hqb2, hQb⟩ := guess HS.s0 HS.yhi
  have HQA := Lib.hid hqa
  have HQB := Lib.hid hqb
  have hy1i := HS.s1.y1hi
  have hy0i := HS.s1.y0hi
  have hu1i := HS.s1.hu
  have hu0i := HS.s0.hu
  have er1 := rest_mod un32 u1 (Q1 * Y) R1 HS.s1.hu HS.s1.heq (by have := HS.s1.hR; have := HS.yhi; omega)
  have er0 := rest_mod R1 u0 (Q0 * Y) R0 HS.s0.hu HS.s0.heq (by have := HS.s0.hR; have := HS.yhi; omega)
  rw [Int.natCast_mul] at er1 er0
  clear he hn1 hn2 hqa hqb
  go_upto_block 0 with (fail)
  go_cut [15, 16] (fun a b wx => a = .int .u64 (Q1 : Int) ∧ wx = w)
  case first =>
    clear eY ey1 ey0 eH eL e32 e10 eu1 eu0 er1 er0 eqb erb
    go_wp2_with fail
    clear eqa era
    go_loop [15, 16] (fun a b => ∃ q r : Nat, a = .int .u64 (q : Int) ∧ b = .int .u64 (r : Int) ∧ Guess un32 y1 Q1 q r) (fun a _ => (intOf a).toNat)
    case atStart => exact ⟨qa, ra, rfl, rfl, hra, hqa2, hQa, HQA.out⟩
    case round =>
      obtain ⟨q, r, rfl, rfl, hr, hq, hQ, heq⟩ := hrel
      have HE := Lib.hid heq
      clear heq
      by_cases hA : 4294967296 ≤ q
      · obtain ⟨hq0, hQ', he'⟩ := HS.s1.down HE.out (.inl hA)
        have HE' := Lib.hid he'
        clear he'
        have hAi : decide ((4294967296 : Int) ≤ (q : Int)) = true := by simp; omega
        clear hA
        by_cases hb' : r + y1 < 4294967296
        · have hb : Hid (r + y1 < 4294967296) := Lib.hid hb'
          have hbi : decide ((4294967296 : Int) ≤ (r : Int) + (y1 : Int)) = false := by simp; omega
          clear hb'
          go_wp2_with fail
          go_round
          case rel => exact ⟨q - 1, r + y1, by go_num, by go_num, hb.out, by omega, hQ', HE'.out⟩
          case measure => simp [intOf]; omega
        · have HZ := Lib.hid (HS.s1.stop HE'.out (by omega) (by omega) hQ')
          have hbi : decide ((4294967296 : Int) ≤ (r : Int) + (y1 : Int)) = true := by simp; omega
          clear hb'
          go_wp2_with fail
          go_meet
          exact ⟨by rw [← HZ.out]; go_num, rfl⟩
      · obtain ⟨p, hp⟩ : ∃ p, p = q * y0 := ⟨_, rfl⟩
        have emul : IntKind.u64.wrap ((q : Int) * (y0 : Int)) = (p : Int) := by rw [hp]; exact guess_test HS.s1 (by omega)
        by_cases hB : 4294967296 * r + u1 < p
        · obtain ⟨hq0, hQ', he'⟩ := HS.s1.down HE.out (.inr (by rw [← hp]; exact hB))
          have HE' := Lib.hid he'
          have hBi : decide ((4294967296 : Int) * (r : Int) + (u1 : Int) < (p : Int)) = true := by simp; omega
          clear he' hp hB
          have hq1 : q < 4294967296 := by omega
          have hAi : decide ((4294967296 : Int) ≤ (q : Int)) = false := by simp; omega
          have HA := Lib.hid hq1
          clear hA hq1
          by_cases hb' : r + y1 < 4294967296
          · have hb : Hid (r + y1 < 4294967296) := Lib.hid hb'
            have hbi : decide ((4294967296 : Int) ≤ (r : Int) + (y1 : Int)) = false := by simp; omega
            clear hb'
            go_wp2_with fail
            go_round
            case rel => exact ⟨q - 1, r + y1, by go_num, by go_num, hb.out, by omega, hQ', HE'.out⟩
            case measure => simp [intOf]; omega
          · have HZ := Lib.hid (HS.s1.stop HE'.out (by omega) (by omega) hQ')
            have hbi : decide ((4294967296 : Int) ≤ (r : Int) + (y1 : Int)) = true := by simp; omega
            clear hb'
            go_wp2_with fail
            go_meet
            exact ⟨by rw [← HZ.out]; go_num, rfl⟩
        · have hle := (HS.s1.test (q := q) (r := r) HE.out).1 (by rw [← hp]; omega)
          have HZ : Hid (q = Q1) := Lib.hid (by omega)
          have hBi : decide ((4294967296 : Int) * (r : Int) + (u1 : Int) < (p : Int)) = false := by simp; omega
          have hAi : decide ((4294967296 : Int) ≤ (q : Int)) = false := by simp; omega
          clear hA
          clear hp hB hle
          go_wp2_with fail
          go_meet
          exact ⟨by rw [HZ.out], rfl⟩
  case rest =>
    obtain ⟨rfl, rfl⟩ := hcut
    go_upto_block 2 with (fail)
    go_cut [18, 16] (fun a b wx => a = .int .u64 (Q0 : Int) ∧ wx = wc)
    case first =>
      clear eY ey1 ey0 eH eL e32 e10 eu1 eu0 er1 er0 eqa era
      go_wp2_with fail
      clear eqb erb
      go_loop [18, 16] (fun a b => ∃ q r : Nat, a = .int .u64 (q : Int) ∧ b = .int .u64 (r : Int) ∧ Guess R1 y1 Q0 q r) (fun a _ => (intOf a).toNat)
      case atStart => exact ⟨qb, rb, rfl, rfl, hrb, hqb2, hQb, HQB.out⟩
      case round =>
        obtain ⟨q, r, rfl, rfl, hr, hq, hQ, heq⟩ := hrel
        have HE := Lib.hid heq
        clear heq
        by_cases hA : 4294967296 ≤ q
        · obtain ⟨hq0, hQ', he'⟩ := HS.s0.down HE.out (.inl hA)
          have HE' := Lib.hid he'
          clear he'
          have hAi : decide ((4294967296 : Int) ≤ (q : Int)) = true := by simp; omega
          clear hA
          by_cases hb' : r + y1 < 4294967296
          · have hb : Hid (r + y1 < 4294967296) := Lib.hid hb'
            have hbi : decide ((4294967296 : Int) ≤ (r : Int) + (y1 : Int)) = false := by simp; omega
            clear hb'
            go_wp2_with fail
            go_round
            case rel => exact ⟨q - 1, r + y1, by go_num, by go_num, hb.out, by omega, hQ', HE'.out⟩
            case measure => simp [intOf]; omega
          · have HZ := Lib.hid (HS.s0.stop HE'.out (by omega) (by omega) hQ')
            have hbi : decide ((4294967296 : Int) ≤ (r : Int) + (y1 : Int)) = true := by simp; omega
            clear hb'
            go_wp2_with fail
            go_meet
            exact ⟨by rw [← HZ.out]; go_num, rfl⟩
        · obtain ⟨p, hp⟩ : ∃ p, p = q * y0 := ⟨_, rfl⟩
          have emul : IntKind.u64.wrap ((q : Int) * (y0 : Int)) = (p : Int) := by rw [hp]; exact guess_test HS.s0 (by omega)
          by_cases hB : 4294967296 * r + u0 < p
          · obtain ⟨hq0, hQ', he'⟩ := HS.s0.down HE.out (.inr (by rw [← hp]; exact hB))
            have HE' := Lib.hid he'
            have hBi : decide ((4294967296 : Int) * (r : Int) + (u0 : Int) < (p : Int)) = true := by simp; omega
            clear he' hp hB
            have hq1 : q < 4294967296 := by omega
            have hAi : decide ((4294967296 : Int) ≤ (q : Int)) = false := by simp; omega
            have HA := Lib.hid hq1
            clear hA hq1
            by_cases hb' : r + y1 < 4294967296
            · have hb : Hid (r + y1 < 4294967296) := Lib.hid hb'
              have hbi : decide ((4294967296 : Int) ≤ (r : Int) + (y1 : Int)) = false := by simp; omega
              clear hb'
              go_wp2_with fail
              go_round
              case rel => exact ⟨q - 1, r + y1, by go_num, by go_num, hb.out, by omega, hQ', HE'.out⟩
              case measure => simp [intOf]; omega
            · have HZ := Lib.hid (HS.s0.stop HE'.out (by omega) (by omega) hQ')
              have hbi : decide ((4294967296 : Int) ≤ (r : Int) + (y1 : Int)) = true := by simp; omega
              clear hb'
              go_wp2_with fail
              go_meet
              exact ⟨by rw [← HZ.out]; go_num, rfl⟩
          · have hle := (HS.s0.test (q := q) (r := r) HE.out).1 (by rw [← hp]; omega)
            have HZ : Hid (q = Q0) := Lib.hid (by omega)
            have hBi : decide ((4294967296 : Int) * (r : Int) + (u0 : Int) < (p : Int)) = false := by simp; omega
            have hAi : decide ((4294967296 : Int) ≤ (q : Int)) = false := by simp; omega
            clear hA
            clear hp hB hle
            go_wp2_with fail
            go_meet
            exact ⟨by rw [HZ.out], rfl⟩
    case rest =>
      obtain ⟨rfl, rfl⟩ := hcut
      have hd1 := HS.s1.digit
      have hd0 := HS.s0.digit
      have hR0 : R0 < 18446744073709551616 := by have := HS.s0.hR; have := HS.yhi; omega
      go_wp2_with fail
      go_ret2
      have hf := HS.fin
      refine ⟨Q1 * 4294967296 + Q0, R0 / 2 ^ s, by simp, hf.1, hf.2, by omega, Below.refl _ _⟩
end Go.Proofs.Ytengcnchjpkhkaa
