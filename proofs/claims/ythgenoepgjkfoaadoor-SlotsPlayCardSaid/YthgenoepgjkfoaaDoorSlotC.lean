/-
  Slots: New, Free, Has, Take, Give.
-/
import Derived.Test.YthgenoepgjkfoaaDoorSlotB
namespace Go.Proofs.YthgenoepgjkfoaaDoor
open Go.RowKit
set_option maxRecDepth 100000

/-- The zero value, as the type table has it: 64 rows of 0, no places. -/
def isZero11 (kd : IntKind) (v : Value) : Bool :=
  match v with
  | .int k z => decide (k = kd) && decide (z = 0)
  | _ => false
theorem isZero11_is {kd : IntKind} {v : Value} (h : isZero11 kd v = true) : v = .int kd 0 := by
  cases v <;> simp_all [isZero11]
def zeroSlots11 (o : Option TypeInfo) : Bool :=
  match o with
  | some i => i.size == 65 && (match i.zero with
    | some (.agg cs) => cs.size == 65 && ((cs.toList.take 64).all (isZero11 .u64) && (cs.toList.drop 64).all (isZero11 .i64))
    | _ => false)
  | none => false
theorem zeroSlots11_ok : zeroSlots11 (Tryd.prog.info? 45) = true := by decide +kernel
theorem zeroSlots11_is {o : Option TypeInfo} (h : zeroSlots11 o = true) : ∃ i cs, o = some i ∧ i.size = 65 ∧ i.zero = some (.agg cs) ∧ cs.size = 65 ∧ (∀ k, k < 64 → cs[k]? = some (.int .u64 0)) := by
  cases o with
  | none => simp [zeroSlots11] at h
  | some i =>
    simp only [zeroSlots11, Bool.and_eq_true, beq_iff_eq] at h
    obtain ⟨h1, h2⟩ := h
    cases hz : i.zero with
    | none => simp [hz] at h2
    | some v =>
      cases v <;> simp only [hz, reduceCtorEq, Bool.false_eq_true] at h2
      case agg cs =>
        simp only [Bool.and_eq_true, beq_iff_eq] at h2
        obtain ⟨h3, h4, h5⟩ := h2
        refine ⟨i, cs, rfl, h1, hz, h3, fun k hk => ?_⟩
        have hk2 : k < (cs.toList.take 64).length := by simp [h3]; omega
        have h6 := isZero11_is (List.all_eq_true.1 h4 _ (List.getElem_mem hk2))
        simp only [List.getElem_take] at h6
        rw [Array.getElem?_eq_getElem (by omega)]
        simpa using h6
/-- The zero value, and the one of n places. -/
theorem build11 (n : Nat) : ∃ cs : Array Value, (∀ W, (zeroValue 45).run Tryd.prog W = .ok (.agg cs) W) ∧ cs.size = 65 ∧ (∀ i, i < 64 → (cs.setIfInBounds 64 (.int .i64 (n : Int)))[i]? = some (.int .u64 0)) ∧
    (cs.setIfInBounds 64 (.int .i64 (n : Int)))[64]? = some (.int .i64 (n : Int)) := by
  obtain ⟨i, cs, hi, hs, hz, hcs, h1⟩ := zeroSlots11_is zeroSlots11_ok
  refine ⟨cs, fun W => ?_, hcs, fun k hk => ?_, ?_⟩
  · simp [zeroValue, typeInfo, hi, hz]
  · rw [Array.getElem?_setIfInBounds_ne (by omega), h1 k hk]
  · rw [Array.getElem?_setIfInBounds_self_of_lt (by omega)]
theorem good11_zero {n : Nat} (h1 : 1 ≤ n) (h2 : n ≤ 4096) : Good11 (fun _ => 0) n (fun _ => false) := ⟨h1, h2, fun _ => by decide, fun r k _ _ => by simp, fun i h => by cases h⟩

theorem new11_no (n : Int) (w : World) (h : n < 1 ∨ 4096 < n) : Calls Tryd.prog 6 #[.int .i64 n] w fun e w' => e = .returned (.tuple #[.pointer none, .int .i64 1]) ∧ w' = w := by
  by_cases h1 : n < 1
  · go_enter Tryd.func6, Tryd.ntmps6
    go_wp2_with fail
    go_ret2
    exact ⟨rfl, rfl⟩
  · have h2 : 4096 < n := by omega
    go_enter Tryd.func6, Tryd.ntmps6
    go_wp2_with fail
    go_ret2
    exact ⟨rfl, rfl⟩
set_option maxHeartbeats 2000000 in
theorem new11_yes (n : Nat) (w : World) (h1 : 1 ≤ n) (h2 : n ≤ 4096) : Calls Tryd.prog 6 #[.int .i64 (n : Int)] w fun e w' => ∃ g, e = .returned (.tuple #[.pointer (some ⟨g, 0, none⟩), .int .i64 0]) ∧ w.heap.size ≤ g ∧ Sl w' g n (fun _ => false) ∧ Below w.heap.size w w' := by
  have hi1 : ¬ (n : Int) < 1 := by omega
  have hi2 : ¬ 4096 < (n : Int) := by omega
  obtain ⟨cs, hb, hs, hc0, hc1⟩ := build11 n
  have HT : Hid (Sl (w.alloc (.cells (cs.setIfInBounds 64 (.int .i64 (n : Int))) 45)) w.heap.size n (fun _ => false)) := Lib.hid ⟨fun _ => 0, ⟨_, Blk.new _ _ _, by simp [hs], hc0, hc1⟩, good11_zero h1 h2⟩
  have HB := Lib.hid (b1' w (.cells (cs.setIfInBounds 64 (.int .i64 (n : Int))) 45))
  have hlt : ¬ cs.size < 65 := by omega
  clear hs hc0 hc1 h1 h2
  go_enter Tryd.func6, Tryd.ntmps6
  go_wp2_with fail
  go_ret2
  exact ⟨w.heap.size, rfl, Nat.le_refl _, HT.out, HB.out⟩

theorem free11_nil (w : World) : Calls Tryd.prog 11 #[.pointer none] w fun e w' => e = .returned (.int .i64 (-1)) ∧ w' = w := by
  go_enter Tryd.func11, Tryd.ntmps11
  go_wp2_with fail
  go_ret
  exact ⟨rfl, rfl⟩
theorem size11 : (Tryd.prog.info? 43).map (·.size) = some 64 := by kernel_rfl
/-- What a walk through the rows asks. -/
structure Rows11 (S : Nat → Nat) (g : Nat) (w : World) (vs : List Value) : Prop where
  len : vs.length = 64
  load : w.rangeAt g 0 vs
  size : (Tryd.prog.info? 43).map (·.size) = some vs.length
  index : ∀ (r : Nat), r < 64 → ∀ w, (Instr.index 43 (.agg vs.toArray) (.int .i64 (r : Int))).run Tryd.prog w = .ok (.int .u64 ((S r : Nat) : Int)) w
theorem Rows11.of {S : Nat → Nat} {g n : Nat} {w : World} (h : Sb w g n S) : ∃ vs, Rows11 S g w vs :=
  ⟨vals11 S, vals11_len S, h.range, by rw [vals11_len]; exact size11, fun r hr w => index11 S hr w⟩

set_option maxHeartbeats 2000000 in
theorem free11_yes {g n k : Nat} {T : Nat → Bool} (w : World) (h : Sl w g n T) (hT : Tab11 w) (hf : Free11 T n k) : Calls Tryd.prog 11 #[.pointer (some ⟨g, 0, none⟩)] w fun e w' => e = .returned (.int .i64 (k : Int)) ∧ w' = w := by
  obtain ⟨S, h1, h2⟩ := h
  obtain ⟨vs, hvs⟩ := Rows11.of h1
  have HV := Lib.hid hvs
  have hpl := h1.places
  have HTZ : Hid (∀ (x : Nat), x < 18446744073709551616 → Calls Tryd.prog 18 #[.int .u64 x] w fun e w' => e = .returned (.int .i64 ((Lib.ctz 64 x : Nat) : Int)) ∧ w' = w) := Lib.hid (fun x hx => tz11 x hx w hT)
  have HG := Lib.hid h2
  have HF := Lib.hid hf
  have hk4 : k < 4096 := by have := hf.lt; have := h2.many; omega
  have hkn := hf.lt
  obtain ⟨q, hq⟩ : ∃ q, k / 64 = q := ⟨_, rfl⟩
  have hq4 : q < 64 := by omega
  have HQ := Lib.hid hq
  clear h1 h2 hT hf hvs hq
  go_enter Tryd.func11, Tryd.ntmps11
  go_wp2_with (refine wpList_load_mid rfl 43 (.tmp 10) rfl g 0 rfl vs _ HV.out.load Tryd.underlying43 rfl HV.out.size ?_)
  go_loopw [12] (fun kv W => W = w ∧ ∃ r : Nat, kv = .int .i64 (r : Int) ∧ r ≤ q) (fun kv _ => 64 - (intOf kv).toNat)
  case atStart => exact ⟨by first | trivial | rfl, 0, rfl, by omega⟩
  case round =>
    obtain ⟨rfl, r, rfl, hr⟩ := hrel
    obtain ⟨x, hx⟩ : ∃ x, S r = x := ⟨_, rfl⟩
    have hidx := HV.out.index r (by omega)
    rw [hx] at hidx
    have i0 : (0 : Int) ≤ (r : Int) := by omega
    have i1 : (r : Int) < 64 := by omega
    have HY := HTZ.out (lack11 x) (lack11_lt x)
    have hnx : bits BinOp.xor IntKind.u64 IntKind.u64.max (x : Int) = ((lack11 x : Nat) : Int) := lack11_xor (by rw [← hx]; exact HG.out.fits r)
    have HX := Lib.hid hx
    by_cases hrq : r < q
    · have hfull : x = 18446744073709551615 := by rw [← HX.out]; exact HG.out.free_before HF.out (by rw [HQ.out]; exact hrq)
      rw [(lack11_none (by rw [← HX.out]; exact HG.out.fits r)).2 hfull] at hnx HY
      subst hfull
      have HY2 := Lib.hid HY
      clear HY hx
      go_wp2_with fail
      refine HY2.out.mono ?_
      rintro e w1 ⟨rfl, rfl⟩
      go_wp2_with fail
      go_roundw
      case rel => exact ⟨by first | trivial | rfl, r + 1, rfl, by omega⟩
      case measure => simp [intOf]; omega
    · obtain rfl : r = q := by omega
      obtain ⟨hne, _, hk⟩ := HG.out.free_row HF.out
      rw [HQ.out, HX.out] at hne hk
      obtain ⟨y, hy⟩ : ∃ y, lack11 x = y := ⟨_, rfl⟩
      rw [hy] at hnx HY hk
      obtain ⟨c, hc⟩ : ∃ c, Lib.ctz 64 y = c := ⟨_, rfl⟩
      rw [hc] at HY hk
      have hne2 : ¬ (x : Int) = 18446744073709551615 := by omega
      have hne3 : ((x : Int) != 18446744073709551615) = true := by simp; omega
      have hk2 : IntKind.i64.wrap ((r : Int) * 64 + (c : Int)) = (k : Int) := by rw [IntKind.wrap_i64]; omega
      have hkn2 : (k : Int) < (n : Int) := by omega
      have HY2 := Lib.hid HY
      clear HY hx hk hne hkn hc hy
      go_wp2_with fail
      refine HY2.out.mono ?_
      rintro e w1 ⟨rfl, rfl⟩
      go_wp2_with fail
      go_ret
      exact ⟨rfl, rfl⟩

set_option maxHeartbeats 2000000 in
theorem free11_no {g n : Nat} {T : Nat → Bool} (w : World) (h : Sl w g n T) (hT : Tab11 w) (hf : ∀ j, j < n → T j = true) : Calls Tryd.prog 11 #[.pointer (some ⟨g, 0, none⟩)] w fun e w' => e = .returned (.int .i64 (-1)) ∧ w' = w := by
  obtain ⟨S, h1, h2⟩ := h
  obtain ⟨vs, hvs⟩ := Rows11.of h1
  have HV := Lib.hid hvs
  have hpl := h1.places
  have HTZ : Hid (∀ (x : Nat), x < 18446744073709551616 → Calls Tryd.prog 18 #[.int .u64 x] w fun e w' => e = .returned (.int .i64 ((Lib.ctz 64 x : Nat) : Int)) ∧ w' = w) := Lib.hid (fun x hx => tz11 x hx w hT)
  have HG := Lib.hid h2
  have HF := Lib.hid hf
  have hn4 := h2.many
  clear h1 h2 hT hf hvs
  go_enter Tryd.func11, Tryd.ntmps11
  go_wp2_with (refine wpList_load_mid rfl 43 (.tmp 10) rfl g 0 rfl vs _ HV.out.load Tryd.underlying43 rfl HV.out.size ?_)
  go_loopw [12] (fun kv W => W = w ∧ ∃ r : Nat, kv = .int .i64 (r : Int) ∧ r ≤ 64) (fun kv _ => 64 - (intOf kv).toNat)
  case atStart => exact ⟨by first | trivial | rfl, 0, rfl, by omega⟩
  case round =>
    obtain ⟨rfl, r, rfl, hr⟩ := hrel
    by_cases hr4 : r < 64
    · obtain ⟨x, hx⟩ : ∃ x, S r = x := ⟨_, rfl⟩
      have hidx := HV.out.index r (by omega)
      rw [hx] at hidx
      have i0 : (0 : Int) ≤ (r : Int) := by omega
      have i1 : (r : Int) < 64 := by omega
      have HY := HTZ.out (lack11 x) (lack11_lt x)
      have hnx : bits BinOp.xor IntKind.u64 IntKind.u64.max (x : Int) = ((lack11 x : Nat) : Int) := lack11_xor (by rw [← hx]; exact HG.out.fits r)
      have HX := Lib.hid hx
      by_cases hfull : x = 18446744073709551615
      · rw [(lack11_none (by rw [← HX.out]; exact HG.out.fits r)).2 hfull] at hnx HY
        subst hfull
        have HY2 := Lib.hid HY
        clear HY hx
        go_wp2_with fail
        refine HY2.out.mono ?_
        rintro e w1 ⟨rfl, rfl⟩
        go_wp2_with fail
        go_roundw
        case rel => exact ⟨by first | trivial | rfl, r + 1, rfl, by omega⟩
        case measure => simp [intOf]; omega
      · have hk := HG.out.full_row HF.out hr4 (by rw [HX.out]; exact hfull)
        have hc64 := (lack11_low (x := x) (by rw [← HX.out]; exact HG.out.fits r) hfull).1
        rw [HX.out] at hk
        obtain ⟨y, hy⟩ : ∃ y, lack11 x = y := ⟨_, rfl⟩
        rw [hy] at hnx HY hk hc64
        obtain ⟨c, hc⟩ : ∃ c, Lib.ctz 64 y = c := ⟨_, rfl⟩
        rw [hc] at HY hk hc64
        obtain ⟨m, hm⟩ : ∃ m, r * 64 + c = m := ⟨_, rfl⟩
        have hk2 : IntKind.i64.wrap ((r : Int) * 64 + (c : Int)) = (m : Int) := by rw [IntKind.wrap_i64]; omega
        have hne2 : ¬ (x : Int) = 18446744073709551615 := by omega
        have hne3 : ((x : Int) != 18446744073709551615) = true := by simp; omega
        have hkn2 : ¬ (m : Int) < (n : Int) := by omega
        have HY2 := Lib.hid HY
        clear HY hx hk hc hy hm hfull hc64
        go_wp2_with fail
        refine HY2.out.mono ?_
        rintro e w1 ⟨rfl, rfl⟩
        go_wp2_with fail
        go_roundw
        case rel => exact ⟨by first | trivial | rfl, r + 1, rfl, by omega⟩
        case measure => simp [intOf]; omega
    · obtain rfl : r = 64 := by omega
      go_wp2_with fail
      go_ret
      exact ⟨rfl, rfl⟩

theorem has11_nil (i : Int) (w : World) : Calls Tryd.prog 15 #[.pointer none, .int .i64 i] w fun e w' => e = .returned (.bool false) ∧ w' = w := by
  go_enter Tryd.func15, Tryd.ntmps15
  go_wp2_with fail
  go_ret
  exact ⟨rfl, rfl⟩
set_option maxHeartbeats 2000000 in
theorem has11_out {g n : Nat} {T : Nat → Bool} (i : Int) (w : World) (h : Sl w g n T) (hi : i < 0 ∨ (n : Int) ≤ i) : Calls Tryd.prog 15 #[.pointer (some ⟨g, 0, none⟩), .int .i64 i] w fun e w' => e = .returned (.bool false) ∧ w' = w := by
  obtain ⟨S, h1, h2⟩ := h
  have hpl := h1.places
  by_cases hi1 : i < 0
  · have hi2 : ¬ 0 ≤ i := by omega
    clear h1 h2 hi hi1
    go_enter Tryd.func15, Tryd.ntmps15
    go_wp2_with fail
    go_ret
    exact ⟨rfl, rfl⟩
  · have hi2 : 0 ≤ i := by omega
    have hi3 : ¬ i < (n : Int) := by omega
    clear h1 h2 hi hi1
    go_enter Tryd.func15, Tryd.ntmps15
    go_wp2_with fail
    go_ret
    exact ⟨rfl, rfl⟩
set_option maxHeartbeats 2000000 in
theorem has11_in {g n i : Nat} {T : Nat → Bool} (w : World) (h : Sl w g n T) (hi : i < n) : Calls Tryd.prog 15 #[.pointer (some ⟨g, 0, none⟩), .int .i64 (i : Int)] w fun e w' => e = .returned (.bool (T i)) ∧ w' = w := by
  have HP := Lib.hid (has11_bit w h hi)
  obtain ⟨S, h1, h2⟩ := h
  have hpl := h1.places
  have hi2 : (0 : Int) ≤ (i : Int) := by omega
  have hi3 : (i : Int) < (n : Int) := by omega
  obtain ⟨b, hb⟩ : ∃ b, T i = b := ⟨_, rfl⟩
  rw [hb] at HP ⊢
  clear h1 h2 hi hb
  go_enter Tryd.func15, Tryd.ntmps15
  go_wp2_with fail
  refine HP.out.mono ?_
  rintro e w1 ⟨rfl, rfl⟩
  go_wp2_with fail
  go_ret
  exact ⟨rfl, rfl⟩

theorem take11_nil (w : World) : Calls Tryd.prog 8 #[.pointer none] w fun e w' => e = .returned (.tuple #[.int .i64 (-1), .int .i64 2]) ∧ w' = w := by
  go_enter Tryd.func8, Tryd.ntmps8
  go_wp2_with fail
  go_ret2
  exact ⟨rfl, rfl⟩
set_option maxHeartbeats 2000000 in
theorem take11_no {g n : Nat} {T : Nat → Bool} (w : World) (h : Sl w g n T) (hT : Tab11 w) (hf : ∀ j, j < n → T j = true) : Calls Tryd.prog 8 #[.pointer (some ⟨g, 0, none⟩)] w fun e w' => e = .returned (.tuple #[.int .i64 (-1), .int .i64 9]) ∧ w' = w := by
  have HF := Lib.hid (free11_no w h hT hf)
  clear h hT hf
  go_enter Tryd.func8, Tryd.ntmps8
  go_wp2_with fail
  refine HF.out.mono ?_
  rintro e w1 ⟨rfl, rfl⟩
  go_wp2_with fail
  go_ret2
  exact ⟨rfl, rfl⟩
set_option maxHeartbeats 2000000 in
theorem take11_yes {g n k : Nat} {T : Nat → Bool} (w : World) (h : Sl w g n T) (hT : Tab11 w) (hf : Free11 T n k) : Calls Tryd.prog 8 #[.pointer (some ⟨g, 0, none⟩)] w fun e w' => e = .returned (.tuple #[.int .i64 (k : Int), .int .i64 0]) ∧ Sl w' g n (turn11 T k true) ∧ w.grownBy w' (some g) := by
  have HF := Lib.hid (free11_yes w h hT hf)
  have HP := flip11_any w h hf.lt
  rw [hf.is] at HP
  have HP2 := Lib.hid HP
  have i0 : ¬ (k : Int) < 0 := by omega
  clear h hT hf HP
  go_enter Tryd.func8, Tryd.ntmps8
  go_wp2_with fail
  refine HF.out.mono ?_
  rintro e w1 ⟨rfl, rfl⟩
  go_wp2_with fail
  refine HP2.out.mono ?_
  rintro e w2 ⟨rfl, hs, hg⟩
  have HS := Lib.hid hs
  have HGB := Lib.hid hg
  clear hs hg
  go_wp2_with fail
  go_ret2
  exact ⟨rfl, HS.out, HGB.out⟩
theorem give11_nil (i : Int) (w : World) : Calls Tryd.prog 9 #[.pointer none, .int .i64 i] w fun e w' => e = .returned (.int .i64 2) ∧ w' = w := by
  go_enter Tryd.func9, Tryd.ntmps9
  go_wp2_with fail
  go_ret
  exact ⟨rfl, rfl⟩
set_option maxHeartbeats 2000000 in
theorem give11_no {g : Nat} (i : Int) (w : World) (h : Calls Tryd.prog 15 #[.pointer (some ⟨g, 0, none⟩), .int .i64 i] w fun e w' => e = .returned (.bool false) ∧ w' = w) : Calls Tryd.prog 9 #[.pointer (some ⟨g, 0, none⟩), .int .i64 i] w fun e w' => e = .returned (.int .i64 7) ∧ w' = w := by
  have HF := Lib.hid h
  clear h
  go_enter Tryd.func9, Tryd.ntmps9
  go_wp2_with fail
  refine HF.out.mono ?_
  rintro e w1 ⟨rfl, rfl⟩
  go_wp2_with fail
  go_ret
  exact ⟨rfl, rfl⟩
set_option maxHeartbeats 2000000 in
theorem give11_yes {g n i : Nat} {T : Nat → Bool} (w : World) (h : Sl w g n T) (hi : T i = true) : Calls Tryd.prog 9 #[.pointer (some ⟨g, 0, none⟩), .int .i64 (i : Int)] w fun e w' => e = .returned (.int .i64 0) ∧ Sl w' g n (turn11 T i false) ∧ w.grownBy w' (some g) := by
  have HF := has11_in w h (h.most hi)
  have HP := flip11_any w h (h.most hi)
  rw [hi] at HP HF
  have HF2 := Lib.hid HF
  have HP2 := Lib.hid HP
  clear h hi HP HF
  go_enter Tryd.func9, Tryd.ntmps9
  go_wp2_with fail
  refine HF2.out.mono ?_
  rintro e w1 ⟨rfl, rfl⟩
  go_wp2_with fail
  refine HP2.out.mono ?_
  rintro e w2 ⟨rfl, hs, hg⟩
  have HS := Lib.hid hs
  have HGB := Lib.hid hg
  clear hs hg
  go_wp2_with fail
  go_ret
  exact ⟨rfl, HS.out, HGB.out⟩
end Go.Proofs.YthgenoepgjkfoaaDoor
