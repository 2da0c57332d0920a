/-
  The statements' own helpers: small, big, alive.
-/
import Derived.Test.YtgfpkiojbkldiaaPackB
import Derived.Test.YtgfpkiojbkldiaaBack
namespace Go.Proofs.Ytgfpkiojbkldiaa
open Go.RowKit

theorem Num.word_small {w : World} {L : Nat} {v : Value} {a : Nat} (h : Num w L v a) : (a < 18446744073709551616 → ∃ A xs n c, v = .agg #[.slice A n c] ∧ xs.length = n ∧ Rd w w.heap.size A xs ∧ Dig xs ∧ n ≤ 4 ∧ V xs = a) ∧
    (18446744073709551616 ≤ a → ∃ A n c, v = .agg #[.slice A n c] ∧ 4 < n) := by
  obtain ⟨A, xs, n, c, h1, hl, h2, h3, h4, h5, h6⟩ := h
  refine ⟨fun ha => ⟨A, xs, n, c, h1, hl, h3, h5.1, by have := h5.len (k := 4) (by omega); omega, h6⟩, fun ha => ⟨A, n, c, h1, ?_⟩⟩
  rcases Nat.lt_or_ge 4 n with h7 | h7
  · exact h7
  · have h8 := V_lt h5.1
    have h9 : 65536 ^ xs.length ≤ 65536 ^ 4 := Nat.pow_le_pow_right (by omega) (by omega)
    omega
theorem Num.wide_small {w : World} {L : Nat} {v : Value} {a : Nat} (h : Num w L v a) :
    (a < 340282366920938463463374607431768211456 → ∃ A xs n c, v = .agg #[.slice A n c] ∧ xs.length = n ∧ Rd w w.heap.size A xs ∧ Dig xs ∧ n ≤ 8 ∧ n ≤ c ∧ V (xs.drop 4) = a / 18446744073709551616 ∧ V (xs.take 4) = a % 18446744073709551616) ∧
    (340282366920938463463374607431768211456 ≤ a → ∃ A n c, v = .agg #[.slice A n c] ∧ 8 < n) := by
  obtain ⟨A, xs, n, c, h1, hl, h2, h3, h4, h5, h6⟩ := h
  refine ⟨fun ha => ⟨A, xs, n, c, h1, hl, h3, h5.1, by have := h5.len (k := 8) (by omega); omega, h2, ?_⟩, fun ha => ⟨A, n, c, h1, ?_⟩⟩
  · have e : V xs = V (xs.take 4) + 18446744073709551616 * V (xs.drop 4) := by
      rcases Nat.lt_or_ge xs.length 4 with h7 | h7
      · rw [List.take_of_length_le (by omega), List.drop_eq_nil_of_le (by omega)]; simp [V]
      · have := V_append (xs.take 4) (xs.drop 4)
        rw [List.take_append_drop, show (xs.take 4).length = 4 by simp; omega] at this
        exact this
    have hlow : V (xs.take 4) < 18446744073709551616 := by
      have h7 := V_lt (h5.1.take 4)
      have h8 : 65536 ^ (xs.take 4).length ≤ 65536 ^ 4 := Nat.pow_le_pow_right (by omega) (by simp; omega)
      omega
    omega
  · rcases Nat.lt_or_ge 8 n with h7 | h7
    · exact h7
    · have h8 := V_lt h5.1
      have h9 : 65536 ^ xs.length ≤ 65536 ^ 8 := Nat.pow_le_pow_right (by omega) (by omega)
      omega

theorem below1 (w : World) (a : Obj) : Below w.heap.size w (w.alloc a) := (Below.refl _ _).alloc (Nat.le_refl _) _

set_option maxHeartbeats 800000 in
theorem small_true (n : Nat) (ok : Bool) (L : Nat) (v : Value) (a : Nat) (w : World) (hv : Num w L v a) (hn : n = fw a) (hok : ok = fb a) :
    Calls Try.prog 11 #[.int .u64 (n : Int), .bool ok, v] w fun e w' => e = .returned (.bool true) ∧ Below w.heap.size w w' := by
  rcases Nat.lt_or_ge a 18446744073709551616 with h | h
  · obtain ⟨A, xs, l, c, rfl, hl, hr, hd, h4, hV⟩ := hv.word_small.1 h
    rw [fw_in h] at hn
    rw [fb_in h] at hok
    subst hok
    have HL := Lib.hid hl
    have hb0 := below1 w (.cells #[.slice A l c] 25)
    have HN : Hid (V xs = n) := Lib.hid (by omega)
    have hr' := (hr.alloc (Nat.le_refl _) (.cells #[.slice A l c] 25)).more (show w.heap.size ≤ (w.alloc (.cells #[.slice A l c] 25)).heap.size by simp)
    clear hl hV hn hv
    go_enter Try.func11, Try.ntmps11
    go_wp2_with fail
    refine (word_any A xs l c _ HL.out hr' hd h4).mono ?_
    rintro e w1 ⟨rfl, hb1⟩
    rw [HN.out]
    go_wp2_with fail
    go_ret
    exact ⟨rfl, hb0.trans (hb1.mono hb0.size)⟩
  · obtain ⟨A, l, c, rfl, h4⟩ := hv.word_small.2 h
    rw [fw_out h] at hn
    rw [fb_out h] at hok
    subst hok hn
    have hb0 := below1 w (.cells #[.slice A l c] 25)
    clear hv
    go_enter Try.func11, Try.ntmps11
    go_wp2_with fail
    refine (word_no A l c _ h4).mono ?_
    rintro e w1 ⟨rfl, hb1⟩
    go_wp2_with fail
    go_ret
    exact ⟨rfl, hb0.trans (hb1.mono hb0.size)⟩

theorem wide_fields : Try.prog.underlying 30 = some (.struct (Try.prog.fieldsOf 30)) := by kernel_rfl
theorem wide_held : Try.prog.stoodInHeld 30 = false := by kernel_rfl
theorem wide_guard : Try.prog.eqGuardType Try.prog.depth 30 = false := by kernel_rfl
theorem wide_eq (a b c d : Int) (w : World) : (binOp .eql 30 (.agg #[.int .u64 a, .int .u64 b]) (.agg #[.int .u64 c, .int .u64 d])).run Try.prog w = .ok (.bool (a == c && b == d)) w := by
  have e : (Try.prog.fieldsOf 30).toList.map (fun f => (f.name == "_", f.offset, f.type)) = [(false, 0, 22), (false, 1, 22)] := by kernel_rfl
  have hu : Try.prog.underlying 22 = some (.int .u64) := Try.underlying22
  have hag := Try.isAgg22
  rw [run_eql_struct, run_equalIn_struct w 9999 _ _ _ wide_fields wide_held]
  generalize (Try.prog.fieldsOf 30).toList = l at e
  rcases l with _ | ⟨f, _ | ⟨g, _ | ⟨_, _⟩⟩⟩
  · simp at e
  · simp at e
  · simp only [List.map_cons, List.map_nil, List.cons.injEq, Prod.mk.injEq, and_true] at e
    obtain ⟨⟨hf0, hf1, hf2⟩, hg0, hg1, hg2⟩ := e
    have hf0' : f.name ≠ "_" := by simpa using hf0
    have hg0' : g.name ≠ "_" := by simpa using hg0
    simp only [Op.eqFields, if_pos hf0', if_pos hg0', hf1, hf2, hg1, hg2]
    by_cases h1 : (a == c) = true
    · by_cases h2 : (b == d) = true <;> simp [go_sem, part, hag, run_equalIn_int w _ _ _ .u64 _ _ hu, h1, h2]
    · simp [go_sem, part, hag, run_equalIn_int w _ _ _ .u64 _ _ hu, h1]
  · simp at e

set_option maxHeartbeats 800000 in
theorem big_true (H M : Nat) (ok : Bool) (L : Nat) (v : Value) (a : Nat) (w : World) (hH : H < 18446744073709551616) (hM : M < 18446744073709551616) (hv : Num w L v a) (hok : ok = decide (a < 340282366920938463463374607431768211456))
    (hy : ok = true → a = H * 18446744073709551616 + M) (hn : ok = false → H = 0 ∧ M = 0) :
    Calls Try.prog 14 #[.agg #[.int .u64 (H : Int), .int .u64 (M : Int)], .bool ok, v] w fun e w' => e = .returned (.bool true) ∧ Below w.heap.size w w' := by
  rcases Nat.lt_or_ge a 340282366920938463463374607431768211456 with h | h
  · obtain ⟨A, xs, l, c, rfl, hl, hr, hd, h8, hc, hV1, hV2⟩ := hv.wide_small.1 h
    have hok' : ok = true := by rw [hok]; simpa using h
    subst hok'
    have ha := hy rfl
    have HL := Lib.hid hl
    have HN1 : Hid (V (xs.drop 4) = H) := Lib.hid (by omega)
    have HN2 : Hid (V (xs.take 4) = M) := Lib.hid (by omega)
    have hb0 := below2 w (.cells #[.int .u64 (H : Int), .int .u64 (M : Int)] 30) (.cells #[.slice A l c] 25)
    have hr' := ((hr.alloc (Nat.le_refl _) (.cells #[.int .u64 (H : Int), .int .u64 (M : Int)] 30)).alloc (by simp) (.cells #[.slice A l c] 25)).more
      (show w.heap.size ≤ ((w.alloc (.cells #[.int .u64 (H : Int), .int .u64 (M : Int)] 30)).alloc (.cells #[.slice A l c] 25)).heap.size by simp; omega)
    have hbox := (Blk.new w 30 #[.int .u64 (H : Int), .int .u64 (M : Int)]).alloc (.cells #[.slice A l c] 25)
    have HBOX := Lib.hid hbox
    clear hl hV1 hV2 hn hy hv hok ha h hbox
    have hweq := wide_eq
    have hwg := wide_guard
    go_enter Try.func14, Try.ntmps14
    go_wp2_with fail
    refine (back_any A xs l c _ HL.out hr' hd h8 hc).mono ?_
    rintro e w1 ⟨rfl, hb1⟩
    rw [HN1.out, HN2.out]
    have hbox1 := HBOX.out.below hb1 HBOX.out.lt
    have hB1 := hb0.trans (hb1.mono hb0.size)
    have c0 := hbox1.cell 0
    have c1 := hbox1.cell 1
    have hlt := hbox1.lt
    clear hb0 hb1
    go_wp2_with fail
    go_ret
    exact ⟨by simp, hB1.alloc hB1.size _⟩
  · obtain ⟨A, l, c, rfl, h8⟩ := hv.wide_small.2 h
    have hok' : ok = false := by rw [hok]; simp; omega
    subst hok'
    obtain ⟨rfl, rfl⟩ := hn rfl
    have hb0 := below2 w (.cells #[.int .u64 0, .int .u64 0] 30) (.cells #[.slice A l c] 25)
    have hbox := (Blk.new w 30 #[.int .u64 0, .int .u64 0]).alloc (.cells #[.slice A l c] 25)
    have HBOX := Lib.hid hbox
    clear hy hv hok h hbox hn
    rw [Int.natCast_zero]
    have hweq := wide_eq
    have hwg := wide_guard
    go_enter Try.func14, Try.ntmps14
    go_wp2_with fail
    refine (back_no A l c _ h8).mono ?_
    rintro e w1 ⟨rfl, hb1⟩
    have hbox1 := HBOX.out.below hb1 HBOX.out.lt
    have hB1 := hb0.trans (hb1.mono hb0.size)
    have c0 := hbox1.cell 0
    have c1 := hbox1.cell 1
    have hlt := hbox1.lt
    clear hb0 hb1
    go_wp2_with fail
    go_ret
    exact ⟨by simp, hB1.alloc hB1.size _⟩

set_option maxHeartbeats 800000 in
theorem alive_any (w : World) : Calls Try.prog 15 #[] w fun e w' => e = .returned (.bool true) ∧ Below w.heap.size w w' := by
  have hweq := wide_eq
  have hwg := wide_guard
  go_enter Try.func15, Try.ntmps15
  go_wp2_with fail
  have h1 := mulw_any 4294967296 4294967296 w (by decide) (by decide)
  rw [fw_out (by decide), fb_out (by decide), Int.natCast_zero] at h1
  refine h1.mono ?_
  rintro e w1 ⟨rfl, hb1⟩
  clear h1
  go_wp2_with fail
  have h2 := divw_any 1 0 3 w1 (by decide) (by decide) (by decide) (by decide)
  refine h2.mono ?_
  rintro e w2 ⟨H, L, r, rfl, hH, hL, he, hr, hb2⟩
  obtain ⟨rfl, rfl, rfl⟩ : H = 0 ∧ L = 6148914691236517205 ∧ r = 1 := by omega
  have hB2 := hb1.trans (hb2.mono hb1.size)
  have hB2' := hB2.alloc hB2.size (.cells #[.int .u64 0, .int .u64 6148914691236517205] 30)
  have hblk := Blk.new w2 30 #[.int .u64 0, .int .u64 6148914691236517205]
  have HBLK := Lib.hid hblk
  clear h2 he hb1 hb2 hblk
  go_wp2_with fail
  have h3 := full_any 4294967296 4294967296 (w2.alloc (.cells #[.int .u64 0, .int .u64 6148914691236517205] 30)) (by decide) (by decide)
  refine h3.mono ?_
  rintro e w3 ⟨H, L, rfl, he, hH, hL, hb3⟩
  obtain ⟨rfl, rfl⟩ : H = 1 ∧ L = 0 := by omega
  have hblk3 := HBLK.out.below hb3 HBLK.out.lt
  have hB3 := hB2'.trans (hb3.mono hB2'.size)
  have c0 := hblk3.cell 0
  have c1 := hblk3.cell 1
  clear h3 he hb3
  go_wp2_with fail
  go_ret
  exact ⟨by simp, hB3⟩
end Go.Proofs.Ytgfpkiojbkldiaa
