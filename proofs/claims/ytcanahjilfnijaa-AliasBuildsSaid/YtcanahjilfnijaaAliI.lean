/-
  Alias tables: package alias's Build.
-/
import Derived.Test.YtcanahjilfnijaaAliH
namespace Go.Proofs.Ytcanahjilfnijaa
open Go.RowKit
set_option maxRecDepth 100000

theorem up9_sm (xs : List Nat) (n : Nat) : up9 xs n = sm (nth xs) n := by
  induction n with
  | zero => rfl
  | succ n ih => rw [up9_succ, sm_succ, ih]
theorem up9_pt (xs : List Nat) {k n : Nat} (hk : k < n) : nth xs k ≤ up9 xs n := by
  rw [up9_sm]
  exact sm_pt (nth xs) hk

/-- The table's variable at the beginning, and stored. -/
theorem res12_new (w : World) : Blk (w.alloc (.cells #[.int .u64 0, .slice none 0 0] 27)) w.heap.size 27 #[.int .u64 0, .slice none 0 0] := Blk.new w _ _

/-- Build that fails: nothing is made, the error is er. -/
def RetNo12 (er : Int) (w : World) (e : Ending) (w' : World) : Prop := e = .returned (.tuple #[.agg #[.int .u64 0, .slice none 0 0], .int .i64 er]) ∧ Below w.heap.size w w'

set_option maxHeartbeats 1000000 in
theorem build12_many (A : Option Addr) (n cc : Nat) (w : World) (hn : 4096 < n) : Calls Try.prog 6 #[.slice A n cc] w (RetNo12 5 w) := by
  have HP : Hid (RetNo12 5 w = fun e w' => e = .returned (.tuple #[.agg #[.int .u64 0, .slice none 0 0], .int .i64 5]) ∧ Below w.heap.size w w') := Lib.hid rfl
  have hk := res12_new w
  have f0 := hk.frozen 0
  have f1 := hk.frozen 1
  have r0 := hk.cell 0
  have r1 := hk.cell 1
  have hset := (hk.set_ 0 (.int .u64 0)).set_ 1 (.slice none 0 0)
  have s0 := hset.cell 0
  have s1 := hset.cell 1
  have g0 := hset.frozen 0
  have g1 := hset.frozen 1
  have h4 : (4096 : Int) < (n : Int) := by omega
  have HB := Lib.hid (b1' w (.cells #[.int .u64 0, .slice none 0 0] 27))
  clear hset hk
  go_enter Try.func6, Try.ntmps6
  go_wp2_with fail
  rw [HP.out]
  exact bodyPost_ret (v := .tuple #[.agg #[.int .u64 0, .slice none 0 0], .int .i64 5]) (by simp [results, Try.results6, go_sem, s0, s1, g0, g1]) rfl ⟨rfl, HB.out⟩

set_option maxHeartbeats 2000000 in
theorem build12_over (A : Option Addr) (xs : List Nat) (n cc : Nat) (w : World) (hl : xs.length = n) (hr : Rq w w.heap.size A xs) (hx : ∀ x ∈ xs, x < 18446744073709551616) (hn : n ≤ 4096) (hf : 18446744073709551616 ≤ up9 xs n) :
    Calls Try.prog 6 #[.slice A n cc] w (RetNo12 10 w) := by
  have HP : Hid (RetNo12 10 w = fun e w' => e = .returned (.tuple #[.agg #[.int .u64 0, .slice none 0 0], .int .i64 10]) ∧ Below w.heap.size w w') := Lib.hid rfl
  have hk := res12_new w
  have f0 := hk.frozen 0
  have f1 := hk.frozen 1
  have r0 := hk.cell 0
  have r1 := hk.cell 1
  have hset := (hk.set_ 0 (.int .u64 0)).set_ 1 (.slice none 0 0)
  have s0 := hset.cell 0
  have s1 := hset.cell 1
  have g0 := hset.frozen 0
  have g1 := hset.frozen 1
  have h4 : ¬ (4096 : Int) < (n : Int) := by omega
  have HT := Lib.hid (total_any A xs n cc _ hl (Rv.step hr (b1' w (.cells #[.int .u64 0, .slice none 0 0] 27))) hx (by omega))
  rw [fw_out hf, fb_out hf] at HT
  have HB := Lib.hid (b1' w (.cells #[.int .u64 0, .slice none 0 0] 27))
  clear hset hk hl hr hx hf
  go_enter Try.func6, Try.ntmps6
  go_wp2_with fail
  refine HT.out.mono ?_
  rintro e w1 ⟨rfl, rfl⟩
  clear HT
  go_wp2_with fail
  rw [HP.out]
  exact bodyPost_ret (v := .tuple #[.agg #[.int .u64 0, .slice none 0 0], .int .i64 10]) (by simp [results, Try.results6, go_sem, s0, s1, g0, g1]) rfl ⟨rfl, HB.out⟩

set_option maxHeartbeats 2000000 in
theorem build12_wide (A : Option Addr) (xs : List Nat) (n cc : Nat) (w : World) (hl : xs.length = n) (hr : Rq w w.heap.size A xs) (hx : ∀ x ∈ xs, x < 18446744073709551616) (hn : n ≤ 4096) (hf : up9 xs n < 18446744073709551616) (hm : 18446744073709551616 ≤ n * up9 xs n) :
    Calls Try.prog 6 #[.slice A n cc] w (RetNo12 10 w) := by
  have HP : Hid (RetNo12 10 w = fun e w' => e = .returned (.tuple #[.agg #[.int .u64 0, .slice none 0 0], .int .i64 10]) ∧ Below w.heap.size w w') := Lib.hid rfl
  have HK := Lib.hid (res12_new w)
  have h4 : ¬ (4096 : Int) < (n : Int) := by omega
  have hb0 := b1' w (.cells #[.int .u64 0, .slice none 0 0] 27)
  have HB0 := Lib.hid hb0
  have HT := Lib.hid (total_any A xs n cc _ hl (Rv.step hr hb0) hx (by omega))
  rw [fw_in hf, fb_in hf] at HT
  have HM := Lib.hid (fun W => mulw_any n (up9 xs n) W (by omega) hf)
  rw [fw_out hm, fb_out hm] at HM
  obtain ⟨t, ht⟩ : ∃ t, up9 xs n = t := ⟨_, rfl⟩
  rw [ht] at HM HT
  have hwn : IntKind.u64.wrap (n : Int) = (n : Int) := by rw [IntKind.wrap_u64]; omega
  clear hl hr hx hf hm ht hb0
  go_enter Try.func6, Try.ntmps6
  go_wp2_with fail
  refine HT.out.mono ?_
  rintro e w1 ⟨rfl, rfl⟩
  clear HT
  go_wp2_with fail
  refine (HM.out _).mono ?_
  rintro e w1 ⟨rfl, hb1⟩
  have hk := HK.out.below hb1 HK.out.lt
  have f0 := hk.frozen 0
  have f1 := hk.frozen 1
  have r0 := hk.cell 0
  have r1 := hk.cell 1
  have hset := (hk.set_ 0 (.int .u64 0)).set_ 1 (.slice none 0 0)
  have s0 := hset.cell 0
  have s1 := hset.cell 1
  have g0 := hset.frozen 0
  have g1 := hset.frozen 1
  have HB := Lib.hid (((HB0.out.trans (hb1.mono HB0.out.size)).setCell (p := ⟨w.heap.size, 0, none⟩) (Nat.le_refl _) (.int .u64 0)).setCell (p := ⟨w.heap.size, 1, none⟩) (Nat.le_refl _) (.slice none 0 0))
  clear HM hset hk hb1
  go_wp2_with fail
  rw [HP.out]
  exact bodyPost_ret (v := .tuple #[.agg #[.int .u64 0, .slice none 0 0], .int .i64 10]) (by simp [results, Try.results6, go_sem, s0, s1, g0, g1]) rfl ⟨rfl, HB.out⟩

set_option maxHeartbeats 2000000 in
theorem build12_zero (A : Option Addr) (xs : List Nat) (n cc : Nat) (w : World) (hl : xs.length = n) (hr : Rq w w.heap.size A xs) (hx : ∀ x ∈ xs, x < 18446744073709551616) (hn : n ≤ 4096) (hf : up9 xs n = 0) :
    Calls Try.prog 6 #[.slice A n cc] w (RetNo12 1 w) := by
  have HP : Hid (RetNo12 1 w = fun e w' => e = .returned (.tuple #[.agg #[.int .u64 0, .slice none 0 0], .int .i64 1]) ∧ Below w.heap.size w w') := Lib.hid rfl
  have HK := Lib.hid (res12_new w)
  have h4 : ¬ (4096 : Int) < (n : Int) := by omega
  have hb0 := b1' w (.cells #[.int .u64 0, .slice none 0 0] 27)
  have HB0 := Lib.hid hb0
  have HT := Lib.hid (total_any A xs n cc _ hl (Rv.step hr hb0) hx (by omega))
  rw [hf, fw_in (by omega), fb_in (by omega), Int.natCast_zero] at HT
  have HM := Lib.hid (fun W => mulw_any n 0 W (by omega) (by omega))
  rw [Nat.mul_zero, fw_in (by omega), fb_in (by omega), Int.natCast_zero] at HM
  have hwn : IntKind.u64.wrap (n : Int) = (n : Int) := by rw [IntKind.wrap_u64]; omega
  clear hl hr hx hf hb0
  go_enter Try.func6, Try.ntmps6
  go_wp2_with fail
  refine HT.out.mono ?_
  rintro e w1 ⟨rfl, rfl⟩
  clear HT
  go_wp2_with fail
  refine (HM.out _).mono ?_
  rintro e w1 ⟨rfl, hb1⟩
  have hk := HK.out.below hb1 HK.out.lt
  have f0 := hk.frozen 0
  have f1 := hk.frozen 1
  have r0 := hk.cell 0
  have r1 := hk.cell 1
  have hset := (hk.set_ 0 (.int .u64 0)).set_ 1 (.slice none 0 0)
  have s0 := hset.cell 0
  have s1 := hset.cell 1
  have g0 := hset.frozen 0
  have g1 := hset.frozen 1
  have HB := Lib.hid (((HB0.out.trans (hb1.mono HB0.out.size)).setCell (p := ⟨w.heap.size, 0, none⟩) (Nat.le_refl _) (.int .u64 0)).setCell (p := ⟨w.heap.size, 1, none⟩) (Nat.le_refl _) (.slice none 0 0))
  clear HM hset hk hb1
  go_wp2_with fail
  rw [HP.out]
  exact bodyPost_ret (v := .tuple #[.agg #[.int .u64 0, .slice none 0 0], .int .i64 1]) (by simp [results, Try.results6, go_sem, s0, s1, g0, g1]) rfl ⟨rfl, HB.out⟩

/-- Build that makes a table: its columns, each place picked by n times its weight. -/
def RetTab12 (xs : List Nat) (n t : Nat) (w : World) (e : Ending) (w' : World) : Prop :=
  ∃ (gc : Nat) (c o : Nat → Nat), e = .returned (.tuple #[.agg #[.int .u64 (t : Int), .slice (some ⟨gc, 0, none⟩) n n], .int .i64 0]) ∧ w.heap.size ≤ gc ∧ Cb12 w' gc n c o ∧ (∀ k, k < n → c k ≤ t ∧ o k < n) ∧
    (∀ i, i < n → cu t c (fun k => ((o k : Nat) : Int)) (i : Int) n = n * nth xs i) ∧ Below w.heap.size w w'

set_option maxHeartbeats 4000000 in
theorem build12_yes (A : Option Addr) (xs : List Nat) (n cc t : Nat) (w : World) (hl : xs.length = n) (hr : Rq w w.heap.size A xs) (hx : ∀ x ∈ xs, x < 18446744073709551616) (hn : n ≤ 4096) (ht : up9 xs n = t) (ht0 : 0 < t) (hm : n * t < 18446744073709551616) :
    Calls Try.prog 6 #[.slice A n cc] w (RetTab12 xs n t w) := by
  have HP : Hid (∀ e w', (∃ (gc : Nat) (c o : Nat → Nat), e = .returned (.tuple #[.agg #[.int .u64 (t : Int), .slice (some ⟨gc, 0, none⟩) n n], .int .i64 0]) ∧ w.heap.size ≤ gc ∧ Cb12 w' gc n c o ∧ (∀ k, k < n → c k ≤ t ∧ o k < n) ∧
    (∀ i, i < n → cu t c (fun k => ((o k : Nat) : Int)) (i : Int) n = n * nth xs i) ∧ Below w.heap.size w w') → RetTab12 xs n t w e w') := Lib.hid (fun _ _ h => h)
  have ht64 : t < 18446744073709551616 := by
    rcases Nat.eq_zero_or_pos n with h0 | h0
    · rw [h0, up9_zero] at ht
      omega
    · have := Nat.mul_le_mul_right t (show 1 ≤ n by omega)
      omega
  have hcap : ∀ k, k < n → n * nth xs k < 18446744073709551616 := fun k hk => by
    have h1 := up9_pt xs hk
    rw [ht] at h1
    have := Nat.mul_le_mul_left n h1
    omega
  have HCAP := Lib.hid hcap
  have HSM : Hid (sm (nth xs) n = t) := Lib.hid (by rw [← up9_sm]; exact ht)
  have HK := Lib.hid (res12_new w)
  have h4 : ¬ (4096 : Int) < (n : Int) := by omega
  have hb0 := b1' w (.cells #[.int .u64 0, .slice none 0 0] 27)
  have HB0 := Lib.hid hb0
  have HT := Lib.hid (total_any A xs n cc _ hl (Rv.step hr hb0) hx (by omega))
  rw [ht, fw_in ht64, fb_in ht64] at HT
  have HM := Lib.hid (fun W => mulw_any n t W (by omega) ht64)
  rw [fw_in hm, fb_in hm] at HM
  obtain ⟨y, hy⟩ : ∃ y, n * t = y := ⟨_, rfl⟩
  rw [hy] at HM
  have HBG := Lib.hid (fun W (hb : Below w.heap.size w W) => begun12_any A xs n cc t W hl (Rv.step hr hb) (by omega) ht64 hcap)
  have hwn : IntKind.u64.wrap (n : Int) = (n : Int) := by rw [IntKind.wrap_u64]; omega
  have ht1 : ¬ (t : Int) = 0 := by omega
  have ht2 : ¬ t = 0 := by omega
  clear hl hr hx ht hm hy hcap hb0
  go_enter Try.func6, Try.ntmps6
  go_wp2_with fail
  refine HT.out.mono ?_
  rintro e w1 ⟨rfl, rfl⟩
  clear HT
  go_wp2_with fail
  refine (HM.out _).mono ?_
  rintro e w1 ⟨rfl, hb1⟩
  have HK1 := Lib.hid (HK.out.below hb1 HK.out.lt)
  have HB1 := Lib.hid (HB0.out.trans (hb1.mono HB0.out.size))
  clear HM hb1 HK HB0
  go_wp2_with fail
  refine (HBG.out _ HB1.out).mono ?_
  rintro e w2 ⟨g, gh, gc, rfl, ⟨h, c, o, hen, hj⟩, hb2⟩
  have HK2 := Lib.hid (HK1.out.below hb2 HK1.out.lt)
  have HB2 := Lib.hid (HB1.out.trans (hb2.mono HB1.out.size))
  have hv : Vo (nth xs) t n h c o (fun _ => false) (lsf t (mulH xs n) n) (msf t (mulH xs n) n) := by
    have e1 : lsf t (mulH xs n) n = lsf t h n := by
      unfold lsf
      exact List.filter_congr (fun j hjn => by rw [(hj j (List.mem_range.1 hjn)).1])
    have e2 : msf t (mulH xs n) n = msf t h n := by
      unfold msf
      exact List.filter_congr (fun j hjn => by rw [(hj j (List.mem_range.1 hjn)).1])
    rw [e1, e2]
    exact Vo.begin HSM.out (fun k hk => (hj k hk).1) (fun k hk => (hj k hk).2.1) (fun k hk => (hj k hk).2.2)
  have HLV := Lib.hid (level12_any w2 hen hv hb2.size (by omega) ht64 HCAP.out)
  have HLC : Hid (w1.heap.size ≤ w2.heap.size ∧ w.heap.size < w1.heap.size) := Lib.hid ⟨hb2.size, HK1.out.lt⟩
  clear HBG hen hj hb2 hv HK1
  go_wp2_with fail
  refine HLV.out.mono ?_
  rintro e w3 ⟨rfl, ⟨h3, c3, o3, d3, ms3, ⟨Al, kl, cl, Am, km, cm, b⟩, v⟩, hb3⟩
  have c2 := b.box.cell 2
  have hk := HK2.out.below hb3 (by exact HLC.out.2)
  have f0 := hk.frozen 0
  have f1 := hk.frozen 1
  have r0 := hk.cell 0
  have r1 := hk.cell 1
  have hset := (hk.set_ 0 (.int .u64 (t : Int))).set_ 1 (.slice (some ⟨gc, 0, none⟩) n n)
  have s0 := hset.cell 0
  have s1 := hset.cell 1
  have g0 := hset.frozen 0
  have g1 := hset.frozen 1
  have hlc := b.lc
  have HLC2 : Hid (w.heap.size < gc) := Lib.hid (by have := HLC.out; omega)
  have HC := Lib.hid ((b.cols.far (p := ⟨w.heap.size, 0, none⟩) (by show gc ≠ w.heap.size; have := HLC2.out; omega) (.int .u64 (t : Int))).far (p := ⟨w.heap.size, 1, none⟩) (by show gc ≠ w.heap.size; have := HLC2.out; omega) (.slice (some ⟨gc, 0, none⟩) n n))
  have HV := Lib.hid v
  have HB3 := Lib.hid (((HB2.out.trans (hb3.mono (by have := HLC.out; omega))).setCell (p := ⟨w.heap.size, 0, none⟩) (Nat.le_refl _) (.int .u64 (t : Int))).setCell (p := ⟨w.heap.size, 1, none⟩) (Nat.le_refl _) (.slice (some ⟨gc, 0, none⟩) n n))
  clear HLV hset hk hb3 b v hlc HK2
  go_wp2_with fail
  refine bodyPost_ret (v := .tuple #[.agg #[.int .u64 (t : Int), .slice (some ⟨gc, 0, none⟩) n n], .int .i64 0]) (by simp [results, Try.results6, go_sem, s0, s1, g0, g1]) rfl (HP.out _ _ ⟨gc, c3, o3, rfl, Nat.le_of_lt HLC2.out, HC.out, fun k hk => ⟨(HV.out.end_ k hk).2, HV.out.oth k hk⟩, fun i hi => HV.out.count hi, HB3.out⟩)
end Go.Proofs.Ytcanahjilfnijaa
