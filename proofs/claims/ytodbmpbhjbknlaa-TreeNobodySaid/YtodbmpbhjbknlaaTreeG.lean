/-
  A tree of sums: all sums are made anew, row by row; Fill.
-/
import Derived.Test.YtodbmpbhjbknlaaTreeF
namespace Go.Proofs.Ytodbmpbhjbknlaa
open Go.RowKit
set_option maxRecDepth 100000

/-- The levels up to j are right, what lies above no place is 0, and so is what lies ahead of the root. -/
structure Fl10 (S : Nat → Nat) (ys : List Nat) (n H j : Nat) : Prop where
  right : ∀ a, a ≤ j → Lev10 S ys a
  none : ∀ a, a ≤ H → ∀ t, t < lv10 a → n ≤ t * 2 ^ a → S (lv10 a + t) = 0
  rest : ∀ k, k < lv10 H → S k = 0
/-- .. and so are the first u of the level above. -/
structure Ro10 (S : Nat → Nat) (ys : List Nat) (n H j u : Nat) : Prop where
  fl : Fl10 S ys n H j
  first : ∀ t, t < u → t < lv10 (j + 1) → S (lv10 (j + 1) + t) + up9 ys (t * 2 ^ (j + 1)) = up9 ys ((t + 1) * 2 ^ (j + 1))
theorem Fl10.start {S : Nat → Nat} {ys : List Nat} {n H j : Nat} (h : Fl10 S ys n H j) : Ro10 S ys n H j 0 := ⟨h, fun t ht => absurd ht (by omega)⟩
theorem Ro10.two {S : Nat → Nat} {ys : List Nat} {n H j u : Nat} (h : Ro10 S ys n H j u) (hj : j < 12) (hu : u < lv10 (j + 1)) :
    S (2 * (lv10 (j + 1) + u)) + S (2 * (lv10 (j + 1) + u) + 1) + up9 ys (u * 2 ^ (j + 1)) = up9 ys ((u + 1) * 2 ^ (j + 1)) :=
  Lev10.two hj hu (fun t ht _ => h.fl.right j (Nat.le_refl _) t ht)
theorem Ro10.next {S : Nat → Nat} {ys : List Nat} {n H j u k : Nat} (h : Ro10 S ys n H j u) (hH : H ≤ 12) (hj : j < H) (hn : 1 ≤ n) (hu : u < lv10 (j + 1)) (hun : u ≤ (n - 1) / 2 ^ (j + 1)) (hk : k = lv10 (j + 1) + u) :
    Ro10 (upd10 S k (S (2 * k) + S (2 * k + 1))) ys n H j (u + 1) := by
  subst hk
  have other : ∀ a t, a ≤ 12 → t < lv10 a → ¬ (a = j + 1 ∧ t = u) → upd10 S (lv10 (j + 1) + u) (S (2 * (lv10 (j + 1) + u)) + S (2 * (lv10 (j + 1) + u) + 1)) (lv10 a + t) = S (lv10 a + t) := fun a t ha ht hne =>
    upd10_other S _ (fun e => hne (lv10_one ha (by omega) ht hu e))
  refine ⟨⟨fun a ha t ht => ?_, fun a ha t ht htn => ?_, fun k hk => ?_⟩, fun t ht htl => ?_⟩
  · rw [other a t (by omega) ht (by omega)]
    exact h.fl.right a ha t ht
  · by_cases e : a = j + 1 ∧ t = u
    · obtain ⟨rfl, rfl⟩ := e
      have h1 := Nat.mul_le_mul_right (2 ^ (j + 1)) hun
      have h2 := Nat.div_mul_le_self (n - 1) (2 ^ (j + 1))
      omega
    · rw [other a t (by omega) ht e]
      exact h.fl.none a ha t ht htn
  · have h1 : lv10 H ≤ lv10 (j + 1) := by
      rcases (show j + 1 < H ∨ j + 1 = H by omega) with h2 | rfl
      · have := lv10_far h2 hH
        omega
      · exact Nat.le_refl _
    rw [upd10_other S _ (by omega)]
    exact h.fl.rest k hk
  · by_cases e : t = u
    · subst e
      rw [upd10_self]
      exact h.two (by omega) hu
    · rw [other (j + 1) t (by omega) htl (by omega)]
      exact h.first t (by omega) htl
theorem Ro10.done {S : Nat → Nat} {ys : List Nat} {n H j u : Nat} (h : Ro10 S ys n H j u) (hj : j < H) (hl : ys.length = n) (hu : (n - 1) / 2 ^ (j + 1) < u) : Fl10 S ys n H (j + 1) := by
  refine ⟨fun a ha t ht => ?_, h.fl.none, h.fl.rest⟩
  rcases (show a ≤ j ∨ a = j + 1 by omega) with h1 | rfl
  · exact h.fl.right a h1 t ht
  · by_cases htu : t < u
    · exact h.first t htu ht
    · have h2 : n - 1 < t * 2 ^ (j + 1) := (Nat.div_lt_iff_lt_mul (Nat.pow_pos (by decide))).1 (by omega)
      have h3 : t * 2 ^ (j + 1) ≤ (t + 1) * 2 ^ (j + 1) := Nat.mul_le_mul_right _ (by omega)
      rw [h.fl.none (j + 1) (by omega) t ht (by omega), Nat.zero_add, up9_out (m := t * 2 ^ (j + 1)) (by omega), up9_out (m := (t + 1) * 2 ^ (j + 1)) (by omega)]
theorem Fl10.good {S : Nat → Nat} {ys : List Nat} {n : Nat} (h : Fl10 S ys n (hgt10 n) (hgt10 n)) (h1 : 1 ≤ n) (h2 : n ≤ 4096) (hl : ys.length = n) (hf : up9 ys n < 18446744073709551616) : Good10 S n ys :=
  ⟨h1, h2, hl, hf, h.right, h.rest⟩
/-- The weights zs are laid over a tree's, and noughts behind them. -/
theorem fl10_leaf {S : Nat → Nat} {n m : Nat} {xs zs : List Nat} (hg : Good10 S n xs) (hm : zs.length = m) (hmn : m ≤ n) :
    Fl10 (ovr10 (ovr10 S 4096 zs) (4096 + m) (List.replicate (n - m) 0)) (more10 zs n) n (hgt10 n) 0 := by
  have hn := hg.many
  have hl := hg.len
  have leaf : ∀ k, k < 4096 → ovr10 (ovr10 S 4096 zs) (4096 + m) (List.replicate (n - m) 0) (4096 + k) = nth (more10 zs n) k := fun k hk => by
    rw [more10_nth]
    rcases (show k < m ∨ (m ≤ k ∧ k < n) ∨ n ≤ k by omega) with c | c | c
    · rw [ovr10_out (.inl (by omega)), ovr10_in (by omega)]
    · rw [show 4096 + k = 4096 + m + (k - m) by omega, ovr10_in (by simp; omega), nth_out (show zs.length ≤ k by omega)]
      simp [nth, List.getD_eq_getElem?_getD, List.getElem?_replicate]
      split <;> rfl
    · rw [ovr10_out (.inr (by simp; omega)), ovr10_out (.inr (by omega)), hg.leaf hk, nth_out (by omega), nth_out (by omega)]
  have low : ∀ k, k < 4096 → ovr10 (ovr10 S 4096 zs) (4096 + m) (List.replicate (n - m) 0) k = S k := fun k hk => by
    rw [ovr10_out (.inl (by omega)), ovr10_out (.inl hk)]
  refine ⟨fun a ha t ht => ?_, fun a ha t ht htn => ?_, fun k hk => ?_⟩
  · obtain rfl : a = 0 := by omega
    rw [lv10_zero] at ht ⊢
    rw [leaf t ht, Nat.pow_zero, Nat.mul_one, Nat.mul_one, up9_succ]
    omega
  · have h12 := hgt10_le hn
    rcases Nat.eq_zero_or_pos a with rfl | h0
    · rw [lv10_zero] at ht ⊢
      rw [Nat.pow_zero, Nat.mul_one] at htn
      rw [leaf t ht, nth_out (by rw [more10_length (by omega)]; exact htn)]
    · have h1 := lv10_far h0 (show a ≤ 12 by omega)
      rw [lv10_zero] at h1
      rw [low _ (by omega)]
      have h2 := hg.sums a ha t ht
      have h3 : t * 2 ^ a ≤ (t + 1) * 2 ^ a := Nat.mul_le_mul_right _ (by omega)
      rw [up9_out (m := t * 2 ^ a) (by omega), up9_out (m := (t + 1) * 2 ^ a) (by omega)] at h2
      omega
  · have h1 := rt10_le n
    rw [← rt10_lv] at hk
    rw [low k (by omega)]
    exact hg.rest k hk

set_option maxHeartbeats 2000000 in
theorem addAll10_any {g n s : Nat} {S : Nat → Nat} {ys : List Nat} (w : World) (h : Tr w g n s S) (h1 : 1 ≤ n) (hn : n ≤ 4096) (hl : ys.length = n) (hf : up9 ys n < 18446744073709551616) (hF : Fl10 S ys n (hgt10 n) 0) :
    Calls Try.prog 35 #[.pointer (some ⟨g, 0, none⟩)] w fun e w' => e = .returned (.tuple #[]) ∧ (∃ S', Tr w' g n s S' ∧ Good10 S' n ys) ∧ w.grownBy w' (some g) := by
  have HR := Lib.hid (root10_any w h h1 hn)
  have c0 := h.places
  have HT0 := Lib.hid h
  have HL := Lib.hid hl
  have HF := Lib.hid hf
  have HF0 := Lib.hid hF
  have hH12 := hgt10_le hn
  have HRL : Hid (rt10 n = lv10 (hgt10 n)) := Lib.hid rfl
  obtain ⟨H, hH⟩ : ∃ H, hgt10 n = H := ⟨_, rfl⟩
  have HHE := Lib.hid hH
  rw [hH] at hH12 HRL HF0
  obtain ⟨r, hr⟩ : ∃ r, rt10 n = r := ⟨_, rfl⟩
  rw [hr] at HR HRL
  obtain ⟨k1, hk1⟩ : ∃ k1, 4096 + n = k1 := ⟨_, rfl⟩
  obtain ⟨T0, hT0⟩ : ∃ T0, k1 - 1 = T0 := ⟨_, rfl⟩
  have hw1 : IntKind.i64.wrap (4096 + (n : Int)) = (k1 : Int) := by rw [IntKind.wrap_i64]; omega
  have hw2 : IntKind.i64.wrap ((k1 : Int) - 1) = (T0 : Int) := by rw [IntKind.wrap_i64]; omega
  have HTO0 : Hid (T0 = lv10 0 + (n - 1) / 2 ^ 0) := Lib.hid (by rw [lv10_zero, Nat.pow_zero, Nat.div_one]; omega)
  have hT8 : T0 ≤ 8191 := by omega
  clear h hl hf hF hH hr hk1 hT0
  go_enter Try.func35, Try.ntmps35
  go_wp2_with fail
  refine HR.out.mono ?_
  rintro e w1 ⟨rfl, rfl⟩
  clear HR
  go_wp2_with fail
  go_region
  go_wp2_with fail
  go_loopw [3, 4] (fun fv tv wr => ∃ (j f T : Nat) (S' : Nat → Nat), fv = .int .i64 (f : Int) ∧ tv = .int .i64 (T : Int) ∧ f ≤ 4096 ∧ T ≤ 8191 ∧ j ≤ H ∧ Hid (f = lv10 j) ∧ Hid (T = lv10 j + (n - 1) / 2 ^ j) ∧ Hid (Tr wr g n s S') ∧ Hid (Fl10 S' ys n H j) ∧ Hid (w1.grownBy wr (some g))) (fun fv _ _ => (intOf fv).toNat)
  case atStart => exact ⟨0, 4096, T0, S, rfl, rfl, by omega, hT8, by omega, Lib.hid rfl, HTO0, Lib.hid (HT0.out.quiet (grown7_drew _ _)), HF0, Lib.hid (grown7_drew _ _)⟩
  case round =>
    obtain ⟨j, f, T, S', rfl, rfl, hf4, hT8', hj, HFE, HTE, HT, HFL, HB⟩ := hrel
    by_cases ht : j < H
    · have hh := lv10_half (show j < 12 by omega)
      have hp := lv10_pos (show j + 1 ≤ 12 by omega)
      obtain ⟨f2, hf2⟩ : ∃ f2, f / 2 = f2 := ⟨_, rfl⟩
      obtain ⟨T2, hT2⟩ : ∃ T2, T / 2 = T2 := ⟨_, rfl⟩
      have HF2 : Hid (f2 = lv10 (j + 1)) := Lib.hid (by have := HFE.out; omega)
      have HT2 : Hid (T2 = lv10 (j + 1) + (n - 1) / 2 ^ (j + 1)) := Lib.hid (by rw [← hT2, HTE.out]; exact half10 (by omega))
      have hd1 : (f : Int) / 2 = (f2 : Int) := by omega
      have hd2 : (f : Int).tdiv 2 = (f2 : Int) := by rw [Int.tdiv_eq_ediv_of_nonneg (by omega)]; exact hd1
      have hd3 : IntKind.i64.wrap (f2 : Int) = (f2 : Int) := by rw [IntKind.wrap_i64]; omega
      have he1 : (T : Int) / 2 = (T2 : Int) := by omega
      have he2 : (T : Int).tdiv 2 = (T2 : Int) := by rw [Int.tdiv_eq_ediv_of_nonneg (by omega)]; exact he1
      have he3 : IntKind.i64.wrap (T2 : Int) = (T2 : Int) := by rw [IntKind.wrap_i64]; omega
      have hrf : (r : Int) < (f : Int) := by
        have h2 := HFE.out
        have h3 := HRL.out
        have := lv10_far ht hH12
        have := lv10_pos (show H ≤ 12 by omega)
        omega
      have hTl : T2 < 2 * f2 ∧ f2 ≤ T2 := by
        have h2 := HF2.out
        have h3 := HT2.out
        have h4 := lv10_in (show n - 1 < 4096 by omega) (show j + 1 ≤ 12 by omega)
        generalize (n - 1) / 2 ^ (j + 1) = z at h3 h4
        omega
      have hf21 : 1 ≤ f2 ∧ f2 < f ∧ f2 ≤ 2048 := by
        have h2 := HF2.out
        have h3 := HFE.out
        omega
      have HR0 := Lib.hid HFL.out.start
      clear hh hp hf2 hT2 HFL HFE HTE
      go_wp2_with fail
      go_loopw [5] (fun kv wr2 => ∃ (k u : Nat) (S2 : Nat → Nat), kv = .int .i64 (k : Int) ∧ Hid (k = f2 + u) ∧ k ≤ T2 + 1 ∧ Hid (Tr wr2 g n s S2) ∧ Hid (Ro10 S2 ys n H j u) ∧ Hid (w1.grownBy wr2 (some g))) (fun kv _ => T2 + 1 - (intOf kv).toNat)
      case atStart => exact ⟨f2, 0, S', rfl, Lib.hid rfl, by omega, HT, HR0, HB⟩
      case round =>
        obtain ⟨k, u, S2, rfl, HKU, hkT, HTk, HRk, HBk⟩ := hrel
        have hku := HKU.out
        by_cases hk : k ≤ T2
        · have hul : u < lv10 (j + 1) := by have := HF2.out; omega
          have hun : u ≤ (n - 1) / 2 ^ (j + 1) := by
            have h2 := HF2.out
            have h3 := HT2.out
            generalize (n - 1) / 2 ^ (j + 1) = z at h3 ⊢
            omega
          have HKE : Hid (k = lv10 (j + 1) + u) := Lib.hid (by have := HF2.out; omega)
          have htwo := HRk.out.two (show j < 12 by omega) hul
          rw [← HKE.out] at htwo
          have hfit : S2 (2 * k) + S2 (2 * k + 1) < 18446744073709551616 := by
            have h2 := up9_all (xs := ys) ((u + 1) * 2 ^ (j + 1))
            have h3 := HF.out
            rw [HL.out] at h2
            omega
          have HA := Lib.hid (add10_any k wr HTk.out (by omega) (by omega) hfit)
          have HRn := Lib.hid (HRk.out.next hH12 ht h1 hul hun HKE.out)
          have hkk : (k : Int) ≤ (T2 : Int) := by omega
          have HKU2 : Hid (k + 1 = f2 + (u + 1)) := Lib.hid (by omega)
          clear hul hun htwo hfit HTk HRk HKE HKU hku
          go_wp2_with fail
          refine HA.out.mono ?_
          rintro e w3 ⟨rfl, ht3, hb3⟩
          have HT3 := Lib.hid ht3
          have HB3 := Lib.hid (HBk.out.trans hb3)
          clear ht3 hb3 HA HBk
          go_wp2_with fail
          go_roundw
          case rel => exact ⟨k + 1, u + 1, _, by go_num, HKU2, by omega, HT3, HRn, HB3⟩
          case measure => simp [intOf]; omega
        · have hkk : ¬ (k : Int) ≤ (T2 : Int) := by omega
          have HD := Lib.hid (HRk.out.done ht HL.out (by
            have h2 := HF2.out
            have h3 := HT2.out
            generalize (n - 1) / 2 ^ (j + 1) = z at h3 ⊢
            omega))
          clear HRk HKU hku
          go_wp2_with fail
          go_roundw
          case rel => exact ⟨j + 1, f2, T2, S2, rfl, rfl, by omega, by omega, by omega, HF2, HT2, HTk, HD, HBk⟩
          case measure => simp [intOf]; omega
    · obtain rfl : j = H := by omega
      have hrf : ¬ (r : Int) < (f : Int) := by
        have h2 := HFE.out
        have h3 := HRL.out
        omega
      go_wp2_with fail
      go_end0
      exact ⟨rfl, ⟨S', HT.out, Fl10.good (by rw [HHE.out]; exact HFL.out) h1 hn HL.out HF.out⟩, HB.out⟩
theorem fill10_range {g n s : Nat} {S : Nat → Nat} (A : Option Addr) (m c : Nat) (w : World) (h : Tr w g n s S) (hm : n < m) :
    Calls Try.prog 15 #[.pointer (some ⟨g, 0, none⟩), .slice A m c] w fun e w' => e = .returned (.int .i64 6) ∧ w' = w := by
  have hc := h.places
  have hi : (n : Int) < (m : Int) := by omega
  clear h hm
  go_enter Try.func15, Try.ntmps15
  go_wp2_with fail
  go_ret
  exact ⟨rfl, rfl⟩
theorem fill10_over {g n s : Nat} {S : Nat → Nat} (A : Option Addr) (zs : List Nat) (m c : Nat) (w : World) (h : Tr w g n s S) (hmn : m ≤ n) (hn : n ≤ 4096) (hl : zs.length = m) (hr : Rq w w.heap.size A zs) (hx : ∀ x ∈ zs, x < 18446744073709551616) (hf : 18446744073709551616 ≤ up9 zs m) :
    Calls Try.prog 15 #[.pointer (some ⟨g, 0, none⟩), .slice A m c] w fun e w' => e = .returned (.int .i64 10) ∧ w' = w := by
  have hc := h.places
  have hi : ¬ (n : Int) < (m : Int) := by omega
  have HT := Lib.hid (total_any A zs m c w hl hr hx (by omega))
  rw [fw_out hf, fb_out hf] at HT
  clear h hmn hl hr hx hf
  go_enter Try.func15, Try.ntmps15
  go_wp2_with fail
  refine HT.out.mono ?_
  rintro e w1 ⟨rfl, rfl⟩
  go_wp2_with fail
  go_ret
  exact ⟨rfl, rfl⟩

set_option maxHeartbeats 2000000 in
theorem fill10_ok {g n s : Nat} {S : Nat → Nat} {xs : List Nat} (A : Option Addr) (zs : List Nat) (m c : Nat) (w : World) (h : Tr w g n s S) (hg : Good10 S n xs) (hmn : m ≤ n) (hl : zs.length = m) (hr : Rq w w.heap.size A zs) (hx : ∀ x ∈ zs, x < 18446744073709551616) (hf : up9 zs m < 18446744073709551616) :
    Calls Try.prog 15 #[.pointer (some ⟨g, 0, none⟩), .slice A m c] w fun e w' =>
      e = .returned (.int .i64 0) ∧ (∃ S', Tr w' g n s S' ∧ Good10 S' n (more10 zs n)) ∧ w.grownBy w' (some g) := by
  have hn := hg.many
  have hc := h.places
  have hi : ¬ (n : Int) < (m : Int) := by omega
  have HT := Lib.hid (total_any A zs m c w hl hr hx (by omega))
  rw [fw_in hf, fb_in hf] at HT
  have HW := Lib.hid (weights10_any w h hn)
  obtain ⟨B, hcut, hB⟩ := cut10 g n m hmn hn
  have HTR := Lib.hid h
  have HG := Lib.hid hg
  have HL := Lib.hid hl
  have HR := Lib.hid hr
  have HFT : Hid (up9 (more10 zs n) n < 18446744073709551616) := Lib.hid (by
    rw [more10_up, up9_out (m := n) (by omega), hl]
    exact hf)
  have HBB := Lib.hid hB
  have HFL := Lib.hid (fl10_leaf hg hl hmn)
  obtain ⟨d, hd⟩ : ∃ d, n - m = d := ⟨_, rfl⟩
  have HD := Lib.hid hd
  have hcut2 : ∀ W, (Instr.slice 29 (.slice (some ⟨g, 4096, none⟩) n 4096) (some (.int .i64 (m : Int))) none none).run Try.prog W = .ok (.slice B d (4096 - m)) W := by rw [← hd]; exact hcut
  obtain ⟨c2, hc2⟩ : ∃ c2, 4096 - m = c2 := ⟨_, rfl⟩
  rw [hc2] at hcut2
  clear h hg hl hr hx hf hcut hB hd hc2
  go_enter Try.func15, Try.ntmps15
  go_wp2_with fail
  refine HT.out.mono ?_
  rintro e w1 ⟨rfl, rfl⟩
  clear HT
  go_wp2_with fail
  refine HW.out.mono ?_
  rintro e w2 ⟨rfl, hb2⟩
  have HB2 := Lib.hid hb2
  obtain ⟨w3, hcopy, ht3, hb3⟩ := copy10 (HTR.out.quiet hb2) A zs m c HL.out (Rv.step HR.out (grown7_below hb2)) hmn hn
  obtain ⟨w4, hclear, ht4, hb4⟩ := clear10 ht3 B m c2 hmn hn HBB.out
  rw [HD.out] at hclear
  have HT4 := Lib.hid ht4
  have HB4 := Lib.hid (((grown7_more (r := some g) hb2).trans hb3).trans hb4)
  have HAD := Lib.hid (addAll10_any (ys := more10 zs n) w4 ht4 HG.out.one hn (more10_length (by rw [HL.out]; exact hmn)) HFT.out HFL.out)
  clear ht3 ht4 hb2 hb3 hb4 HW
  go_wp2_with fail
  refine HAD.out.mono ?_
  rintro e w5 ⟨rfl, hs5, hb5⟩
  have HS5 := Lib.hid hs5
  clear hs5
  go_wp2_with fail
  go_ret
  exact ⟨rfl, HS5.out, HB4.out.trans hb5⟩
end Go.Proofs.Ytodbmpbhjbknlaa
