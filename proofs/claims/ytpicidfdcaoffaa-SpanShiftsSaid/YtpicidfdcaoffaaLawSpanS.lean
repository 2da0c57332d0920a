/-
  A weight that is taken away moves the others, and picks none of them for another one.
-/
import Derived.Test.YtpicidfdcaoffaaLawSpanA
namespace Go.Proofs.Ytpicidfdcaoffaa
open Go.RowKit
set_option maxRecDepth 100000

theorem info9_w8 : (Try.prog.info? 23).map (fun i => (i.zero, i.size, i.bytes)) = some (some (.int .u64 0), 1, 8) := by kernel_rfl
theorem nth_set9 (xs : List Nat) (i k : Nat) : nth (xs.set i 0) k = if k = i then 0 else nth xs k := by
  by_cases h : k = i
  · subst h
    rw [if_pos rfl]
    rcases Nat.lt_or_ge k xs.length with h1 | h1
    · simp [nth, List.getElem?_set_self h1]
    · exact nth_out (by simpa using h1)
  · rw [if_neg h]
    simp [nth, List.getElem?_set_ne (Ne.symm h)]
theorem up9_before (xs : List Nat) (i : Nat) {k : Nat} (h : k ≤ i) : up9 (xs.set i 0) k = up9 xs k := by
  induction k with
  | zero => rfl
  | succ k ih => rw [up9_succ, up9_succ, ih (by omega), nth_set9, if_neg (by omega)]
theorem up9_behind (xs : List Nat) (i : Nat) {k : Nat} (h : i < k) : up9 (xs.set i 0) k + nth xs i = up9 xs k := by
  induction k with
  | zero => omega
  | succ k ih =>
    rcases (show i = k ∨ i < k by omega) with rfl | h1
    · rw [up9_succ, up9_succ, up9_before xs i (Nat.le_refl _), nth_set9, if_pos rfl]
      omega
    · have := ih h1
      rw [up9_succ, up9_succ, nth_set9, if_neg (by omega)]
      omega
theorem up9_less (xs : List Nat) (i k : Nat) : up9 (xs.set i 0) k ≤ up9 xs k := by
  rcases Nat.lt_or_ge i k with h | h
  · have := up9_behind xs i h
    omega
  · rw [up9_before xs i h]
    exact Nat.le_refl _
theorem Pk9.before {xs : List Nat} {r p i : Nat} (h : Pk9 xs r p) (hi : p < i) : Pk9 (xs.set i 0) r p := by
  obtain ⟨h1, h2, h3⟩ := h
  exact ⟨by simpa using h1, by rw [up9_before xs i (by omega)]; exact h2, by rw [up9_before xs i (by omega)]; exact h3⟩
theorem Pk9.reach {xs : List Nat} {r p i : Nat} (h : Pk9 xs r p) (hi : i < p) : nth xs i ≤ r := by
  obtain ⟨h1, h2, h3⟩ := h
  have := up9_behind xs i hi
  omega
theorem Pk9.behind {xs : List Nat} {r p i : Nat} (h : Pk9 xs r p) (hi : i < p) : Pk9 (xs.set i 0) (r - nth xs i) p := by
  obtain ⟨h1, h2, h3⟩ := h
  have a := up9_behind xs i hi
  have b := up9_behind xs i (show i < p + 1 by omega)
  exact ⟨by simpa using h1, by omega, by omega⟩
theorem set_small9 {xs : List Nat} (i : Nat) (h : ∀ x ∈ xs, x < 18446744073709551616) : ∀ x ∈ xs.set i 0, x < 18446744073709551616 := by
  intro x hx
  rcases List.mem_or_eq_of_mem_set hx with h1 | rfl
  · exact h x h1
  · omega

/-- A word of a row of the call's own is set to 0. -/
theorem own9_set {w : World} {base n c i : Nat} {A : Option Addr} {xs : List Nat} (h : w.ownsRow base 23 1 (.slice A n c) n (wds xs)) (hl : xs.length = n) (hi : i < n) :
    ∃ g, A = some ⟨g, 0, none⟩ ∧ base ≤ g ∧ g < w.heap.size ∧ w.cell? ⟨g, i, none⟩ = some (.int .u64 ((nth xs i : Nat) : Int)) ∧ w.frozen? ⟨g, i, none⟩ = false ∧ Rq (w.setCell ⟨g, i, none⟩ (.int .u64 0)) w.heap.size (some ⟨g, 0, none⟩) (xs.set i 0) := by
  have hq : Rq w w.heap.size A xs := Rq.of_own h
  rcases h.2 with ⟨h2, rfl⟩ | ⟨g, cap, cur, hv, hg, hh, _⟩
  · omega
  · have hA : A = some ⟨g, 0, none⟩ := by injection hv
    subst hA
    have hb : Blk w g 23 cur := hh
    have hc : ∀ k, k < xs.length → w.cell? ⟨g, k, none⟩ = some (.int .u64 ((nth xs k : Nat) : Int)) := fun k hk => by
      obtain ⟨b, o, e1, _, e3⟩ := hq.at_ hk
      injection e1 with e1
      injection e1 with e1 e2
      subst e1 e2
      simpa using e3
    refine ⟨g, rfl, hg, hb.lt, hc i (by omega), hb.frozen i, fun _ => ⟨g, 0, rfl, hb.lt, fun k v hk => ?_⟩⟩
    have hkl : k < xs.length := by
      have := (List.getElem?_eq_some_iff.1 hk).1
      simpa [wds] using this
    have hv : v = .int .u64 ((nth (xs.set i 0) k : Nat) : Int) := by
      rw [wds_get (by simpa using hkl)] at hk
      injection hk with hk
      exact hk.symm
    rw [hv, nth_set9, Nat.zero_add]
    by_cases hki : k = i
    · subst hki
      rw [if_pos rfl]
      exact World.cell?_setCell_same' _ _ _ (by rw [hc k hkl]; rfl)
    · rw [if_neg hki, World.cell?_setCell_other w _ _ _ (fun e => hki (by injection e with e1 e2; exact e2.symm))]
      exact hc k hkl

set_option maxHeartbeats 1000000 in
theorem shifts9_far (A : Option Addr) (n c r : Nat) (i : Int) (w : World) (hn : 200 < n) :
    Calls Try.prog 4 #[.slice A n c, .int .i64 i, .int .u64 (r : Int)] w fun e w' => e = .returned (.bool true) ∧ Below w.heap.size w w' := by
  have h200 : (200 : Int) < (n : Int) := by omega
  go_enter Try.func4, Try.ntmps4
  go_wp2_with fail
  refine (alive9_any w).mono ?_
  rintro e w1 ⟨rfl, hb1⟩
  go_wp2_with fail
  go_ret
  exact ⟨rfl, hb1⟩

set_option maxHeartbeats 2000000 in
theorem shifts9_no (A : Option Addr) (xs : List Nat) (n c r : Nat) (i v : Int) (b : Bool) (w : World) (hl : xs.length = n) (hr : Rq w w.heap.size A xs) (hx : ∀ x ∈ xs, x < 18446744073709551616) (hr64 : r < 18446744073709551616) (hn : n ≤ 200) (hp : Pb9 xs r v b)
    (hi : b = false ∨ i < 0 ∨ (n : Int) ≤ i ∨ v = i) :
    Calls Try.prog 4 #[.slice A n c, .int .i64 i, .int .u64 (r : Int)] w fun e w' => e = .returned (.bool true) ∧ Below w.heap.size w w' := by
  have h200 : ¬ (200 : Int) < (n : Int) := by omega
  have HSH := Lib.hid (shift_no A xs n c r i v b w hl hr hx (by omega) hr64 hp hi)
  have HPK := Lib.hid (fun W (hb : Below w.heap.size w W) => pick_any A xs n c r v b W hl (Rv.step hr hb) hx (by omega) hr64 hp)
  clear hl hr hx hp
  have hcond : i < 0 ∨ (¬ i < 0 ∧ (n : Int) ≤ i) ∨ (¬ i < 0 ∧ ¬ (n : Int) ≤ i ∧ b = false) ∨ (¬ i < 0 ∧ ¬ (n : Int) ≤ i ∧ b = true ∧ v = i) := by
    by_cases h1 : i < 0
    · exact .inl h1
    · by_cases h2 : (n : Int) ≤ i
      · exact .inr (.inl ⟨h1, h2⟩)
      · cases b
        · exact .inr (.inr (.inl ⟨h1, h2, rfl⟩))
        · refine .inr (.inr (.inr ⟨h1, h2, rfl, ?_⟩))
          rcases hi with h | h | h | h
          · cases h
          · exact absurd h h1
          · exact absurd h h2
          · exact h
  clear hi
  rcases hcond with h1 | ⟨h1, h2⟩ | ⟨h1, h2, rfl⟩ | ⟨h1, h2, rfl, rfl⟩
  all_goals
    go_enter Try.func4, Try.ntmps4
    go_wp2_with fail
    refine HSH.out.mono ?_
    rintro e w1 ⟨rfl, hb1⟩
    have HB1 := Lib.hid hb1
    clear HSH hb1
    go_wp2_with fail
    refine (HPK.out w1 HB1.out).mono ?_
    rintro e w2 ⟨rfl, hb2⟩
    have HB2 := Lib.hid (HB1.out.trans (hb2.mono HB1.out.size))
    clear HPK hb2
    go_wp2_with fail
    refine (alive9_any w2).mono ?_
    rintro e w3 ⟨rfl, hb3⟩
    have HB3 := Lib.hid (HB2.out.trans (hb3.mono HB2.out.size))
    clear hb3
    go_wp2_with fail
    go_ret
    exact ⟨rfl, HB3.out⟩

set_option maxHeartbeats 4000000 in
theorem shifts9_yes (A : Option Addr) (xs : List Nat) (n c r i p m : Nat) (w : World) (hl : xs.length = n) (hr : Rq w w.heap.size A xs) (hx : ∀ x ∈ xs, x < 18446744073709551616) (hr64 : r < 18446744073709551616) (hn : n ≤ 200) (hf : up9 xs n < 18446744073709551616) (hp : Pk9 xs r p)
    (hi : i < n) (hpi : p ≠ i) (hmr : m ≤ r) (hm : Pk9 (xs.set i 0) m p)
    (hsh : Calls Try.prog 12 #[.slice A n c, .int .i64 (i : Int), .int .u64 (r : Int)] w fun e w' => e = .returned (.tuple #[.int .u64 (m : Int), .bool true]) ∧ Below w.heap.size w w') :
    Calls Try.prog 4 #[.slice A n c, .int .i64 (i : Int), .int .u64 (r : Int)] w fun e w' => e = .returned (.bool true) ∧ Below w.heap.size w w' := by
  have h200 : ¬ (200 : Int) < (n : Int) := by omega
  have HSH := Lib.hid hsh
  have HPK := Lib.hid (fun W (hb : Below w.heap.size w W) => pick_any A xs n c r p true W hl (Rv.step hr hb) hx (by omega) hr64 (.inl ⟨p, by rw [hl]; exact hf, hp, rfl, rfl⟩))
  have hl2 : (xs.set i 0).length = n := by simpa using hl
  have hf2 : up9 (xs.set i 0) n < 18446744073709551616 := Nat.lt_of_le_of_lt (up9_less xs i n) hf
  have hx2 := set_small9 i hx
  have hm64 : m < 18446744073709551616 := by omega
  have HPK2 := Lib.hid (fun W (A2 : Option Addr) (c2 : Nat) (hq : Rq W W.heap.size A2 (xs.set i 0)) => pick_any A2 (xs.set i 0) n c2 m p true W hl2 hq hx2 (by omega) hm64 (.inl ⟨p, by rw [hl2]; exact hf2, hm, rfl, rfl⟩))
  have HTO2 := Lib.hid (fun W (A2 : Option Addr) (c2 : Nat) (hq : Rq W W.heap.size A2 (xs.set i 0)) => total_any A2 (xs.set i 0) n c2 W hl2 hq hx2 (by omega))
  rw [fw_in hf2, fb_in hf2] at HTO2
  have hmt := hm.below
  rw [hl2] at hmt
  obtain ⟨u, hu⟩ : ∃ u, up9 (xs.set i 0) n = u := ⟨_, rfl⟩
  rw [hu] at hmt HTO2
  have hmt2 : (m : Int) < (u : Int) := by omega
  have hmr2 : (m : Int) ≤ (r : Int) := by omega
  have h1 : ¬ (i : Int) < 0 := by omega
  have h1' : (0 : Int) ≤ (i : Int) := by omega
  have h2 : ¬ (n : Int) ≤ (i : Int) := by omega
  have h2' : (i : Int) < (n : Int) := by omega
  have h3 : ((p : Int) == (i : Int)) = false := by simp; omega
  have h4 : ¬ (p : Int) = (i : Int) := by omega
  have h6 : ¬ p = i := hpi
  have hself : ∀ i : Int, (i == i) = true := fun i => by simp
  have HR := Lib.hid hr
  have HL := Lib.hid hl
  have HM : Hid ((wds xs).length = n) := Lib.hid (by rw [wds_length]; exact hl)
  clear hl hr hx hf hp hm hsh hl2 hf2 hx2 hu hpi
  go_enter Try.func4, Try.ntmps4
  go_wp2_with fail
  refine HSH.out.mono ?_
  rintro e w1 ⟨rfl, hb1⟩
  have HB1 := Lib.hid hb1
  clear HSH hb1
  go_wp2_with fail
  refine (HPK.out w1 HB1.out).mono ?_
  rintro e w2 ⟨rfl, hb2⟩
  have HB2 := Lib.hid (HB1.out.trans (hb2.mono HB1.out.size))
  clear HPK hb2 HB1
  have HO := Lib.hid (made7 w2 w2.heap.size (Nat.le_refl _) 23)
  have HRR := Lib.hid (Rv.alloc (Rv.step HR.out HB2.out) (Nat.le_refl _) (.cells #[] 23))
  have hba := b1' w2 (.cells #[] 23)
  go_wp2_with (at_builtin; go_loud (refine wpList_append_rv _ rfl (.tmp 59) (.tmp 60) 22 rfl w2.heap.size 23 (.int .u64 0) 8 Try.underlying22 info9_w8 rfl (by omega) (.slice (some ⟨w2.heap.size, 0, none⟩) 0 0) 0 [] rfl HO.out w2.heap.size A n (wds xs) _ HM.out rfl HRR.out (wds_one xs) (by omega) (by simp) ?_); intro A' c' w3 hc3 hown3 hg3 hbl3; rw [List.nil_append, Nat.zero_add] at hown3; rw [Nat.zero_add] at hc3; have HB3 := Lib.hid (HB2.out.trans ((hba.grown hg3 (by simp) (by intro k hk; simp [Value.ownBlock] at hk; omega)).mono HB2.out.size)); obtain ⟨g, rfl, hg, hgl, y0, y1, hq⟩ := own9_set hown3.out HL.out hi; have HQ := Lib.hid hq; have HG := Lib.hid (And.intro hg hgl); simp only [Nat.zero_add]; clear hown3 hg3 hbl3 hba hq hg hgl HO HRR)
  obtain ⟨W4, hW4⟩ : ∃ W, w3.setCell ⟨g, i, none⟩ (.int .u64 0) = W := ⟨_, rfl⟩
  have HB4 := Lib.hid (HB3.out.setCell (p := ⟨g, i, none⟩) (by have h5 := HG.out.1; have h6 := HB2.out.size; show w.heap.size ≤ g; omega) (.int .u64 0))
  have hq4 : Rq (w3.setCell ⟨g, i, none⟩ (.int .u64 0)) (w3.setCell ⟨g, i, none⟩ (.int .u64 0)).heap.size (some ⟨g, 0, none⟩) (xs.set i 0) := by rw [setCell_size]; exact HQ.out
  have HQ4 := Lib.hid hq4
  rw [hW4] at HB4 HQ4
  try rw [hW4]
  clear hW4 hq4 HB3 HQ HG y0 y1
  refine (HPK2.out W4 _ c' HQ4.out).mono ?_
  rintro e w5 ⟨rfl, hb5⟩
  have HB5 := Lib.hid (HB4.out.trans (hb5.mono HB4.out.size))
  have HQ5 := Lib.hid (Rv.step HQ4.out hb5)
  clear HPK2 hb5 HB4 HQ4
  go_wp2_with fail
  refine (HTO2.out w5 _ c' HQ5.out).mono ?_
  rintro e w6 ⟨rfl, rfl⟩
  clear HTO2
  go_wp2_with fail
  refine (alive9_any w5).mono ?_
  rintro e w7 ⟨rfl, hb7⟩
  have HB7 := Lib.hid (HB5.out.trans (hb7.mono HB5.out.size))
  clear hb7
  go_wp2_with fail
  go_ret
  exact ⟨rfl, HB7.out⟩

theorem spanShifts_walk (A : Option Addr) (xs : List Nat) (n c r : Nat) (i : Int) (w : World) (hl : xs.length = n) (hr : Rq w w.heap.size A xs) (hx : ∀ x ∈ xs, x < 18446744073709551616) (hr64 : r < 18446744073709551616) :
    Calls Try.prog 4 #[.slice A n c, .int .i64 i, .int .u64 (r : Int)] w fun e w' => e = .returned (.bool true) ∧ Below w.heap.size w w' := by
  rcases Nat.lt_or_ge 200 n with hn | hn
  · exact shifts9_far A n c r i w hn
  · obtain ⟨v, b, hp⟩ := Pb9.any xs r
    by_cases hno : b = false ∨ i < 0 ∨ (n : Int) ≤ i ∨ v = i
    · exact shifts9_no A xs n c r i v b w hl hr hx hr64 hn hp hno
    · have hi0 : ¬ i < 0 := fun h => hno (.inr (.inl h))
      have hi1 : ¬ (n : Int) ≤ i := fun h => hno (.inr (.inr (.inl h)))
      have hvi : ¬ v = i := fun h => hno (.inr (.inr (.inr h)))
      have hpp := hp
      rcases hp with ⟨p, hf, hk, rfl, rfl⟩ | ⟨_, _, rfl⟩
      · obtain ⟨j, rfl⟩ : ∃ j : Nat, i = (j : Int) := ⟨i.toNat, by omega⟩
        have hpn := hk.1
        rw [hl] at hf hpn
        rcases Nat.lt_or_ge p j with h | h
        · exact shifts9_yes A xs n c r j p r w hl hr hx hr64 hn hf hk (by omega) (by omega) (Nat.le_refl _) (hk.before h) (shift_less A xs n c r j p w hl hr hx (by omega) hr64 hpp (by omega) h)
        · have h' : j < p := by omega
          exact shifts9_yes A xs n c r j p (r - nth xs j) w hl hr hx hr64 hn hf hk (by omega) (by omega) (Nat.sub_le _ _) (hk.behind h') (shift_more A xs n c r j p w hl hr hx (by omega) hr64 hpp h' hpn (hk.reach h'))
      · exact absurd (.inl rfl) hno
end Go.Proofs.Ytpicidfdcaoffaa
