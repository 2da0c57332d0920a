/-
  A tree of sums: a nil tree; the document's Height, Ahead, Put; the chapter's example.
-/
import Derived.Test.YtodbmpbhjbknlaaTreeG
namespace Go.Proofs.Ytodbmpbhjbknlaa
open Go.RowKit
set_option maxRecDepth 100000

theorem len_nil10 (w : World) : Calls Try.prog 7 #[.pointer none] w fun en w' => en = .returned (.int .i64 0) ∧ w' = w := by
  go_enter Try.func7, Try.ntmps7
  go_wp2_with fail
  go_ret
  exact ⟨rfl, rfl⟩
theorem height_nil10 (w : World) : Calls Try.prog 20 #[.pointer none] w fun en w' => en = .returned (.int .i64 0) ∧ w' = w := by
  go_enter Try.func20, Try.ntmps20
  go_wp2_with fail
  go_ret
  exact ⟨rfl, rfl⟩
theorem total_nil10 (w : World) : Calls Try.prog 17 #[.pointer none] w fun en w' => en = .returned (.int .u64 0) ∧ w' = w := by
  go_enter Try.func17, Try.ntmps17
  go_wp2_with fail
  go_ret
  exact ⟨rfl, rfl⟩
theorem steps_nil10 (w : World) : Calls Try.prog 21 #[.pointer none] w fun en w' => en = .returned (.int .i64 0) ∧ w' = w := by
  go_enter Try.func21, Try.ntmps21
  go_wp2_with fail
  go_ret
  exact ⟨rfl, rfl⟩
theorem all_nil10 (w : World) : Calls Try.prog 19 #[.pointer none] w fun en w' => en = .returned (.slice none 0 0) ∧ w' = w := by
  go_enter Try.func19, Try.ntmps19
  go_wp2_with fail
  go_ret
  exact ⟨rfl, rfl⟩
theorem set_nil10 (i : Int) (v : Value) (w : World) : Calls Try.prog 13 #[.pointer none, .int .i64 i, v] w fun en w' => en = .returned (.int .i64 2) ∧ w' = w := by
  go_enter Try.func13, Try.ntmps13
  go_wp2_with fail
  go_ret
  exact ⟨rfl, rfl⟩
theorem grow_nil10 (i : Int) (w : World) : Calls Try.prog 14 #[.pointer none, .int .i64 i] w fun en w' => en = .returned (.int .i64 2) ∧ w' = w := by
  go_enter Try.func14, Try.ntmps14
  go_wp2_with fail
  go_ret
  exact ⟨rfl, rfl⟩
theorem fill_nil10 (v : Value) (w : World) : Calls Try.prog 15 #[.pointer none, v] w fun en w' => en = .returned (.int .i64 2) ∧ w' = w := by
  go_enter Try.func15, Try.ntmps15
  go_wp2_with fail
  go_ret
  exact ⟨rfl, rfl⟩
theorem has_nil10 (i : Int) (w : World) : Calls Try.prog 29 #[.pointer none, .int .i64 i] w fun en w' => en = .returned (.bool false) ∧ w' = w := by
  by_cases h1 : 0 ≤ i
  · have h2 : ¬ i < 0 := by omega
    go_enter Try.func29, Try.ntmps29
    go_wp2_with fail
    refine (len_nil10 _).mono ?_
    rintro e w1 ⟨rfl, rfl⟩
    go_wp2_with fail
    go_ret
    exact ⟨by first | rfl | simp [h2], rfl⟩
  · go_enter Try.func29, Try.ntmps29
    go_wp2_with fail
    go_ret
    exact ⟨rfl, rfl⟩
theorem get_nil10 (i : Int) (w : World) : Calls Try.prog 16 #[.pointer none, .int .i64 i] w fun en w' => en = .returned (.int .u64 0) ∧ w' = w := by
  go_enter Try.func16, Try.ntmps16
  go_wp2_with fail
  refine (has_nil10 i _).mono ?_
  rintro e w1 ⟨rfl, rfl⟩
  go_wp2_with fail
  go_ret
  exact ⟨rfl, rfl⟩
theorem ahead_nil10 (i : Int) (w : World) : Calls Try.prog 18 #[.pointer none, .int .i64 i] w fun en w' => en = .returned (.int .u64 0) ∧ w' = w := by
  by_cases h1 : i ≤ 0
  · go_enter Try.func18, Try.ntmps18
    go_wp2_with fail
    go_ret
    exact ⟨rfl, rfl⟩
  · have h2 : 0 ≤ i := by omega
    go_enter Try.func18, Try.ntmps18
    go_wp2_with fail
    refine (len_nil10 _).mono ?_
    rintro e w1 ⟨rfl, rfl⟩
    go_wp2_with fail
    refine (total_nil10 _).mono ?_
    rintro e w1 ⟨rfl, rfl⟩
    go_wp2_with fail
    go_ret
    exact ⟨rfl, rfl⟩
theorem find_nil10 (r : Nat) (w : World) : Calls Try.prog 12 #[.pointer none, .int .u64 (r : Int)] w fun en w' => en = .returned (.tuple #[.int .i64 (-1), .bool false]) ∧ w' = w := by
  have h1 : (0 : Int) ≤ (r : Int) := by omega
  go_enter Try.func12, Try.ntmps12
  go_wp2_with fail
  refine (total_nil10 _).mono ?_
  rintro e w1 ⟨rfl, rfl⟩
  go_wp2_with fail
  go_ret2
  exact ⟨rfl, rfl⟩

set_option maxHeartbeats 1000000 in
theorem rheight10_any (n : Nat) (w : World) (h1 : 1 ≤ n) (h2 : n ≤ 4096) : Calls Try.prog 24 #[.int .i64 (n : Int)] w fun e w' => e = .returned (.int .i64 ((hgt10 n : Nat) : Int)) ∧ w' = w := by
  have HU := Lib.hid (hgt10_up h1 h2)
  have HD := Lib.hid (hgt10_dn h1 h2)
  have h12 := hgt10_le h2
  obtain ⟨H, hH⟩ : ∃ H, hgt10 n = H := ⟨_, rfl⟩
  rw [hH] at HU HD h12 ⊢
  clear hH
  go_enter Try.func24, Try.ntmps24
  go_wp2_with fail
  go_loopw [3, 4] (fun hv iv wr => ∃ h i : Nat, hv = .int .i64 (h : Int) ∧ iv = .int .i64 (i : Int) ∧ h ≤ H ∧ 1 ≤ i ∧ i ≤ 4096 ∧ Hid (i = 2 ^ h) ∧ wr = w) (fun _ iv _ => 8192 - (intOf iv).toNat)
  case atStart => exact ⟨0, 1, rfl, rfl, by omega, by omega, by omega, Lib.hid rfl, rfl⟩
  case round =>
    obtain ⟨h, i, rfl, rfl, hh, hi1, hi2, HI, rfl⟩ := hrel
    by_cases ht : i < n
    · have hlt : h < H := by
        rcases Nat.lt_or_ge h H with h3 | h3
        · exact h3
        · have h4 : 2 ^ H ≤ 2 ^ h := Nat.pow_le_pow_right (by decide) h3
          have h5 := HI.out
          have h6 := HU.out
          omega
      have HI2 : Hid (i * 2 = 2 ^ (h + 1)) := Lib.hid (by rw [Nat.pow_succ, ← HI.out])
      have hi3 : i * 2 ≤ 4096 := by
        have h3 : 2 ^ (h + 1) ≤ 2 ^ 12 := Nat.pow_le_pow_right (by decide) (by omega)
        have h4 := HI2.out
        have h5 : (2 : Nat) ^ 12 = 4096 := by decide
        omega
      have hti : (i : Int) < (n : Int) := by omega
      obtain ⟨d, hd⟩ : ∃ d, i * 2 = d := ⟨_, rfl⟩
      have hw : IntKind.i64.wrap ((i : Int) * 2) = (d : Int) := by rw [IntKind.wrap_i64]; omega
      rw [hd] at HI2 hi3
      have hd1 : 1 ≤ d ∧ i < d := by omega
      clear hd
      go_wp2_with fail
      go_roundw
      case rel => exact ⟨h + 1, d, by go_num, by first | rfl | rw [hw], by omega, by omega, hi3, HI2, by first | trivial | rfl⟩
      case measure => simp [intOf]; omega
    · obtain rfl : h = H := by
        rcases HD.out with h3 | h3
        · omega
        · have h4 := HI.out
          have h5 : 2 ^ (H - 1) < 2 ^ h := by omega
          have h6 := (Nat.pow_lt_pow_iff_right (show 1 < 2 by decide)).1 h5
          omega
      have hti : ¬ (i : Int) < (n : Int) := by omega
      go_wp2_with fail
      go_ret
      exact ⟨rfl, rfl⟩

set_option maxHeartbeats 1000000 in
theorem rahead10_any (A : Option Addr) (xs : List Nat) (n c : Nat) (i : Int) (w : World) (hl : xs.length = n) (hr : Rq w w.heap.size A xs) (hf : up9 xs n < 18446744073709551616) (hn : n ≤ 1000000) :
    Calls Try.prog 27 #[.slice A n c, .int .i64 i] w fun e w' => e = .returned (.int .u64 ((up9 xs i.toNat : Nat) : Int)) ∧ w' = w := by
  have HL := Lib.hid hl
  have HF := Lib.hid hf
  obtain ⟨z, hz⟩ : ∃ z, up9 xs i.toNat = z := ⟨_, rfl⟩
  have HZ := Lib.hid hz
  rw [hz]
  clear hl hf hz
  go_enter Try.func27, Try.ntmps27
  go_wp2_with fail
  go_loopw [5, 6] (fun sv kv wr => ∃ k s : Nat, sv = .int .u64 (s : Int) ∧ kv = .int .i64 (k : Int) ∧ k ≤ n ∧ ((k : Int) ≤ i ∨ k = 0) ∧ Hid (s = up9 xs k) ∧ wr = w) (fun _ kv _ => n - (intOf kv).toNat)
  case atStart => exact ⟨0, 0, rfl, rfl, by omega, .inr rfl, Lib.hid rfl, rfl⟩
  case round =>
    obtain ⟨k, s, rfl, rfl, hk, hki, HS, rfl⟩ := hrel
    by_cases ht : k < n
    · have ht1 : (k : Int) < (n : Int) := by omega
      by_cases hti : (k : Int) < i
      · obtain ⟨b, o, hA, _, hc⟩ := Rq.at_ hr (show k < xs.length by have := HL.out; omega)
        subst hA
        obtain ⟨x, hxk⟩ : ∃ x, nth xs k = x := ⟨_, rfl⟩
        rw [hxk] at hc
        have hsx : up9 xs (k + 1) = s + x := by rw [up9_succ, HS.out, hxk]
        have h64 : s + x < 18446744073709551616 := by
          have h1 := up9_mono xs (show k + 1 ≤ n by omega)
          have h2 := HF.out
          omega
        obtain ⟨t, hte⟩ : ∃ t, s + x = t := ⟨_, rfl⟩
        have hw : IntKind.u64.wrap ((s : Int) + (x : Int)) = (t : Int) := by rw [IntKind.wrap_u64]; omega
        have HS2 : Hid (t = up9 xs (k + 1)) := Lib.hid (by omega)
        have hi0 : (0 : Int) ≤ (k : Int) := by omega
        clear hxk hsx h64 hte hki
        go_wp2_with fail
        go_roundw
        case rel => exact ⟨k + 1, t, by first | rfl | rw [hw], by go_num, by omega, .inl (by omega), HS2, by first | trivial | rfl⟩
        case measure => simp [intOf]; omega
      · have hst : s = z := by
          rw [HS.out, ← HZ.out]
          rcases hki with h1 | h1
          · rw [show i.toNat = k by omega]
          · rw [show i.toNat = k by omega]
        subst hst
        clear hki
        go_wp2_with fail
        go_ret
        exact ⟨rfl, rfl⟩
    · obtain rfl : k = n := by omega
      have hst : s = z := by
        rw [HS.out, ← HZ.out]
        rcases hki with h1 | h1
        · rw [up9_out (m := i.toNat) (by rw [HL.out]; omega), HL.out]
        · subst h1
          rw [up9_out (m := i.toNat) (by rw [HL.out]; omega), HL.out]
      subst hst
      clear hki
      go_wp2_with fail
      go_ret
      exact ⟨rfl, rfl⟩

theorem stored10 {w : World} {base n c i : Nat} {A : Option Addr} {xs : List Nat} (h : w.ownsRow base 30 1 (.slice A n c) n (wds xs)) (hl : xs.length = n) (hi : i < n) (v : Nat) :
    ∃ g, A = some ⟨g, 0, none⟩ ∧ base ≤ g ∧ g < w.heap.size ∧ w.cell? ⟨g, i, none⟩ = some (.int .u64 ((nth xs i : Nat) : Int)) ∧ w.frozen? ⟨g, i, none⟩ = false ∧
      (w.setCell ⟨g, i, none⟩ (.int .u64 (v : Int))).ownsRow base 30 1 (.slice A n c) n (wds (put10 xs i v)) := by
  have hq : Rq w w.heap.size A xs := Rq.of_own h
  rcases h.2 with ⟨h2, rfl⟩ | ⟨g, cap, cur, hv, hg, hh, _⟩
  · omega
  · have hA : A = some ⟨g, 0, none⟩ := by injection hv
    subst hA
    have hb : Blk w g 30 cur := hh
    obtain ⟨b, o, e1, _, e3⟩ := hq.at_ (show i < xs.length by omega)
    injection e1 with e1
    injection e1 with e1 e2
    subst e1 e2
    refine ⟨g, rfl, hg, hb.lt, by simpa using e3, hb.frozen i, ?_⟩
    have := (h.stored i (.int .u64 (v : Int))).1
    have e : (wds xs).set i (.int .u64 (v : Int)) = wds (put10 xs i v) := by simp [wds, put10, List.map_set]
    rw [e] at this
    exact this
theorem rput10_any (A : Option Addr) (xs : List Nat) (n c i v : Nat) (w : World) (hl : xs.length = n) (hr : Rq w w.heap.size A xs) (hi : i < n) (hn : n ≤ 1000000) :
    Calls Try.prog 22 #[.slice A n c, .int .i64 (i : Int), .int .u64 (v : Int)] w (RetQ w.heap.size w (put10 xs i v)) := by
  have HL := Lib.hid hl
  have HO := Lib.hid (made7 w w.heap.size (Nat.le_refl _) 30)
  have HR := Lib.hid (Rv.alloc hr (Nat.le_refl _) (.cells #[] 30))
  have HM : Hid ((wds xs).length = n) := Lib.hid (by rw [wds_length]; exact hl)
  have hba := b1' w (.cells #[] 30)
  have hi0 : (0 : Int) ≤ (i : Int) := by omega
  have hi1 : (i : Int) < (n : Int) := by omega
  clear hl hr
  go_enter Try.func22, Try.ntmps22
  go_wp2_with (at_builtin; go_loud (refine wpList_append_rv _ rfl (.tmp 8) (.tmp 9) 29 rfl w.heap.size 30 (.int .u64 0) 8 Try.underlying29 info_w8 rfl (by omega) (.slice (some ⟨w.heap.size, 0, none⟩) 0 0) 0 [] rfl HO.out w.heap.size A n (wds xs) _ HM.out rfl HR.out (wds_one xs) (by omega) (by simp) ?_); intro A' c' w1 hc1 hown1 hg1 hbl1; rw [List.nil_append, Nat.zero_add] at hown1; rw [Nat.zero_add] at hc1; obtain ⟨g, hA, hgb, hgl, hcg, hfg, hst⟩ := stored10 hown1.out HL.out hi v; subst hA; have HST := Lib.hid hst; have HB1 := Lib.hid ((hba.grown hg1 (by simp) (by intro k hk; simp [Value.ownBlock] at hk; omega)).setCell (p := ⟨g, i, none⟩) hgb (.int .u64 (v : Int))); clear hst hown1 hg1 hbl1)
  go_ret
  exact ⟨_, n, c', rfl, by rw [put10_length]; exact HL.out, hc1, HST.out, HB1.out⟩
end Go.Proofs.Ytodbmpbhjbknlaa
