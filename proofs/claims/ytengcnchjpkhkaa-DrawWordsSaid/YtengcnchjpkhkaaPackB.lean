/-
  Package wide of the program: Div, Sum, Less, Times, Cmp.
-/
import Derived.Test.YtengcnchjpkhkaaDiv64
import Derived.Test.YtengcnchjpkhkaaMA
import Derived.Shelf.Spec.BitsCarry
import Derived.Deep.RegionHeld3
namespace Go.Proofs.Ytengcnchjpkhkaa
open Go.RowKit

theorem div64_all (hi lo y : Nat) (w : World) (h1 : hi < y) (h2 : lo < 18446744073709551616) (h3 : y < 18446744073709551616) :
    Calls Try.prog 47 #[.int .u64 (hi : Int), .int .u64 (lo : Int), .int .u64 (y : Int)] w (RetDiv (hi * 18446744073709551616 + lo) y w) := by
  rcases Nat.eq_zero_or_pos hi with h | h
  · subst h
    have := div64_zero lo y w h2 h3 h1
    rw [Nat.zero_mul, Nat.zero_add]
    exact this
  · exact div64_any hi lo y w h1 h2 h3 h

theorem add64_run (x y c : Nat) (hx : x < 18446744073709551616) (hy : y < 18446744073709551616) (hc : c ≤ 1) : ∃ s k : Nat,
    (∀ w, (callFunc 44 #[.int .u64 (x : Int), .int .u64 (y : Int), .int .u64 (c : Int)]).run Try.prog w = .ok (.value (.tuple #[.int .u64 (s : Int), .int .u64 (k : Int)])) w) ∧
      x + y + c = k * 18446744073709551616 + s ∧ s < 18446744073709551616 ∧ k ≤ 1 := by
  refine ⟨(x + y + c) % 18446744073709551616, (x + y + c) / 18446744073709551616, fun w => ?_, by omega, by omega, by omega⟩
  rw [run_callFunc_extern Try.func44 (by kernel_rfl) (by kernel_rfl) (by kernel_rfl) (e := add64Entry) (by kernel_rfl), run_add64 x y c (by omega) (by omega) (by omega) (by omega)]
  simp only [Result.andThen]
  congr 5 <;> omega
/-- A wide number that fits, and whether it does. -/
def RetWB (n : Nat) (w : World) (e : Ending) (w' : World) : Prop :=
  ∃ (H L : Nat) (ok : Bool), e = .returned (.tuple #[.agg #[.int .u64 (H : Int), .int .u64 (L : Int)], .bool ok]) ∧ H < 18446744073709551616 ∧ L < 18446744073709551616 ∧
    ok = decide (n < 340282366920938463463374607431768211456) ∧ (ok = true → n = H * 18446744073709551616 + L) ∧ (ok = false → H = 0 ∧ L = 0) ∧ Below w.heap.size w w'

theorem below3 (w : World) (a b c : Obj) : Below w.heap.size w (((w.alloc a).alloc b).alloc c) := (((Below.refl _ _).alloc (Nat.le_refl _) _).alloc (by simp) _).alloc (by simp; omega) _
theorem below2 (w : World) (a b : Obj) : Below w.heap.size w ((w.alloc a).alloc b) := ((Below.refl _ _).alloc (Nat.le_refl _) _).alloc (by simp) _

set_option maxHeartbeats 800000 in
theorem sumw_any (H1 L1 H2 L2 : Nat) (w : World) (h1 : H1 < 18446744073709551616) (h2 : L1 < 18446744073709551616) (h3 : H2 < 18446744073709551616) (h4 : L2 < 18446744073709551616) :
    Calls Try.prog 31 #[.agg #[.int .u64 (H1 : Int), .int .u64 (L1 : Int)], .agg #[.int .u64 (H2 : Int), .int .u64 (L2 : Int)]] w
      (RetWB (H1 * 18446744073709551616 + L1 + (H2 * 18446744073709551616 + L2)) w) := by
  obtain ⟨s, k, hr, hs, hs1, hk⟩ := add64_run L1 L2 0 h2 h4 (by omega)
  obtain ⟨t, c, hr2, ht, ht1, hc⟩ := add64_run H1 H2 k h1 h3 hk
  rw [Int.natCast_zero] at hr
  have HS := Lib.hid hs
  have HT := Lib.hid ht
  clear hs ht
  rcases (show c = 0 ∨ c = 1 by omega) with rfl | rfl
  · have hc0 : (((0 : Nat) : Int) != 0) = false := by simp
    go_enter Try.func31, Try.ntmps31
    go_wp2_with fail
    exact bodyPost_ret (v := .tuple #[.agg #[.int .u64 (t : Int), .int .u64 (s : Int)], .bool true]) (by simp [results, Try.results31, go_sem]) rfl
      ⟨t, s, true, rfl, ht1, hs1, (by have := HS.out; have := HT.out; simp; omega), (fun _ => by have := HS.out; have := HT.out; omega), (fun h => by cases h), below3 _ _ _ _⟩
  · have hc0 : (((1 : Nat) : Int) != 0) = true := by simp
    go_enter Try.func31, Try.ntmps31
    go_wp2_with fail
    exact bodyPost_ret (v := .tuple #[.agg #[.int .u64 0, .int .u64 0], .bool false]) (by simp [results, Try.results31, go_sem]) rfl
      ⟨0, 0, false, rfl, by omega, by omega, (by have := HS.out; have := HT.out; simp; omega), (fun h => by cases h), (fun _ => ⟨rfl, rfl⟩), below3 _ _ _ _⟩

/-- A difference of wide numbers, and whether there is one. -/
def RetLess (n m : Nat) (w : World) (e : Ending) (w' : World) : Prop :=
  ∃ (H L : Nat) (ok : Bool), e = .returned (.tuple #[.agg #[.int .u64 (H : Int), .int .u64 (L : Int)], .bool ok]) ∧ H < 18446744073709551616 ∧ L < 18446744073709551616 ∧
    ok = decide (m ≤ n) ∧ (ok = true → n - m = H * 18446744073709551616 + L) ∧ (ok = false → H = 0 ∧ L = 0) ∧ Below w.heap.size w w'

/-- Which word is greater. -/
def cmpN (a b : Nat) : Int := if a < b then -1 else if b < a then 1 else 0
set_option maxHeartbeats 400000 in
theorem compare_any (a b : Nat) (w : World) : Calls Try.prog 42 #[.int .u64 (a : Int), .int .u64 (b : Int)] w fun e w' => e = .returned (.int .i64 (cmpN a b)) ∧ w = w' := by
  rcases (show a < b ∨ b < a ∨ a = b by omega) with h | h | h
  · have hc : cmpN a b = -1 := by simp [cmpN, h]
    rw [hc]
    clear hc
    go_enter Try.func42, Try.ntmps42
    go_wp2
    go_ret
    exact ⟨rfl, rfl⟩
  · have hc : cmpN a b = 1 := by simp [cmpN, h]; omega
    rw [hc]
    clear hc
    have h' : ¬ a < b := by omega
    go_enter Try.func42, Try.ntmps42
    go_wp2
    go_ret
    exact ⟨rfl, rfl⟩
  · have hc : cmpN a b = 0 := by simp [cmpN, h]
    rw [hc]
    clear hc
    subst h
    go_enter Try.func42, Try.ntmps42
    go_wp2
    go_ret
    exact ⟨rfl, rfl⟩

set_option maxHeartbeats 400000 in
theorem cmpw_any (H1 L1 H2 L2 : Nat) (w : World) (h2 : L1 < 18446744073709551616) (h4 : L2 < 18446744073709551616) :
    Calls Try.prog 29 #[.agg #[.int .u64 (H1 : Int), .int .u64 (L1 : Int)], .agg #[.int .u64 (H2 : Int), .int .u64 (L2 : Int)]] w
      fun e w' => e = .returned (.int .i64 (cmpN (H1 * 18446744073709551616 + L1) (H2 * 18446744073709551616 + L2))) ∧ Below w.heap.size w w' := by
  rcases (show H1 = H2 ∨ H1 < H2 ∨ H2 < H1 by omega) with h | h | h
  · subst h
    have HC : Hid (cmpN (H1 * 18446744073709551616 + L1) (H1 * 18446744073709551616 + L2) = cmpN L1 L2) := Lib.hid (by unfold cmpN; split <;> split <;> (try split) <;> (try split) <;> omega)
    have hz : cmpN H1 H1 = 0 := by simp [cmpN]
    go_enter Try.func29, Try.ntmps29
    go_wp2_with fail
    refine (compare_any _ _ _).mono ?_
    rintro e w' ⟨rfl, rfl⟩
    go_wp2_with fail
    refine (compare_any _ _ _).mono ?_
    rintro e w' ⟨rfl, rfl⟩
    go_wp2_with fail
    go_ret
    exact ⟨by rw [HC.out]; rfl, below2 _ _ _⟩
  · have hz : cmpN H1 H2 = -1 := by simp [cmpN, h]
    have HC : Hid (cmpN (H1 * 18446744073709551616 + L1) (H2 * 18446744073709551616 + L2) = -1) := Lib.hid (by unfold cmpN; rw [if_pos (by omega)])
    go_enter Try.func29, Try.ntmps29
    go_wp2_with fail
    refine (compare_any _ _ _).mono ?_
    rintro e w' ⟨rfl, rfl⟩
    rw [hz]
    go_wp2_with fail
    go_ret
    exact ⟨by rw [HC.out]; rfl, below2 _ _ _⟩
  · have hz : cmpN H1 H2 = 1 := by simp [cmpN, h]; omega
    have HC : Hid (cmpN (H1 * 18446744073709551616 + L1) (H2 * 18446744073709551616 + L2) = 1) := Lib.hid (by unfold cmpN; rw [if_neg (by omega), if_pos (by omega)])
    go_enter Try.func29, Try.ntmps29
    go_wp2_with fail
    refine (compare_any _ _ _).mono ?_
    rintro e w' ⟨rfl, rfl⟩
    rw [hz]
    go_wp2_with fail
    go_ret
    exact ⟨by rw [HC.out]; rfl, below2 _ _ _⟩

set_option maxHeartbeats 800000 in
theorem timesw_any (H1 L1 n : Nat) (w : World) (h1 : H1 < 18446744073709551616) (h2 : L1 < 18446744073709551616) (h3 : n < 18446744073709551616) :
    Calls Try.prog 43 #[.agg #[.int .u64 (H1 : Int), .int .u64 (L1 : Int)], .int .u64 (n : Int)] w (RetWB ((H1 * 18446744073709551616 + L1) * n) w) := by
  have hres := Blk.new (w.alloc (.cells #[.int .u64 (H1 : Int), .int .u64 (L1 : Int)] 26)) 26 #[.int .u64 0, .int .u64 0]
  have hbox := (Blk.new w 26 #[.int .u64 (H1 : Int), .int .u64 (L1 : Int)]).alloc (.cells #[.int .u64 0, .int .u64 0] 26)
  have hb0 := below2 w (.cells #[.int .u64 (H1 : Int), .int .u64 (L1 : Int)] 26) (.cells #[.int .u64 0, .int .u64 0] 26)
  rw [show (w.alloc (.cells #[.int .u64 (H1 : Int), .int .u64 (L1 : Int)] 26)).heap.size = w.heap.size + 1 by simp] at hres
  have HRES := Lib.hid hres
  have HBOX := Lib.hid hbox
  clear hres hbox
  go_enter Try.func43, Try.ntmps43
  go_wp2_with fail
  refine (mulw_any H1 n _ h1 h3).mono ?_
  rintro e w1 ⟨rfl, hb1⟩
  have hB1 := hb0.trans (hb1.mono hb0.size)
  have hres1 := HRES.out.below hb1 HRES.out.lt
  have hbox1 := HBOX.out.below hb1 HBOX.out.lt
  have c0 := hbox1.cell 0
  have c1 := hbox1.cell 1
  have r0 := hres1.cell 0
  have r1 := hres1.cell 1
  have f0 := hres1.frozen 0
  have f1 := hres1.frozen 1
  clear hb0 hb1
  by_cases hfit : H1 * n < 18446744073709551616
  · rw [fw_in hfit, fb_in hfit]
    obtain ⟨q, hq⟩ : ∃ q, q = H1 * n := ⟨_, rfl⟩
    rw [← hq] at hfit ⊢
    have HQ := Lib.hid hq
    clear hq
    go_wp2_with fail
    refine (full_any L1 n _ h2 h3).mono ?_
    rintro e w2 ⟨H, L, rfl, hp, hH, hL, hb2⟩
    have HP := Lib.hid hp
    have hB2 := hB1.trans (hb2.mono hB1.size)
    have hres2 := hres1.below hb2 hres1.lt
    clear hp hb2 c0 c1 r0 r1 f0 f1
    go_wp2_with fail
    have hsum := sumw_any q 0 H L w2 hfit (by omega) hH hL
    rw [Int.natCast_zero] at hsum
    refine hsum.mono ?_
    rintro e w3 ⟨A, B, ok, rfl, hA, hBB, hok, hy, hn, hb3⟩
    have HOK := Lib.hid hok
    have HY := Lib.hid hy
    have HN := Lib.hid hn
    have hB3 := hB2.trans (hb3.mono hB2.size)
    have hres3 := hres2.below hb3 hres2.lt
    have r0 := hres3.cell 0
    have r1 := hres3.cell 1
    have f0 := hres3.frozen 0
    have f1 := hres3.frozen 1
    clear hok hy hn hb3
    go_wp2_with fail
    have e1 : (H1 * 18446744073709551616 + L1) * n = q * 18446744073709551616 + 0 + (H * 18446744073709551616 + L) := by
      rw [← HP.out, HQ.out]; grind
    rw [e1]
    exact bodyPost_ret (v := .tuple #[.agg #[.int .u64 (A : Int), .int .u64 (B : Int)], .bool ok]) (by simp [results, Try.results43, go_sem, r0, r1, f0, f1]) rfl
      ⟨A, B, ok, rfl, hA, hBB, HOK.out, HY.out, HN.out, (hB3.setCell (p := ⟨w.heap.size + 1, 0, none⟩) (by simp) _).setCell (p := ⟨w.heap.size + 1, 1, none⟩) (by simp) _⟩
  · rw [fw_out (by omega), fb_out (by omega)]
    have HBIG : Hid (340282366920938463463374607431768211456 ≤ (H1 * 18446744073709551616 + L1) * n) := Lib.hid (by
      rw [Nat.add_mul, Nat.mul_right_comm]
      omega)
    clear hfit
    go_wp2_with fail
    exact bodyPost_ret (v := .tuple #[.agg #[.int .u64 0, .int .u64 0], .bool false]) (by simp [results, Try.results43, go_sem, r0, r1, f0, f1]) rfl
      ⟨0, 0, false, rfl, by omega, by omega, (by have := HBIG.out; simp; omega), (fun h => by cases h), (fun _ => ⟨rfl, rfl⟩), (hB1.setCell (p := ⟨w.heap.size + 1, 0, none⟩) (by simp) _).setCell (p := ⟨w.heap.size + 1, 1, none⟩) (by simp) _⟩

set_option maxHeartbeats 800000 in
theorem divw_zero (H1 L1 : Nat) (w : World) :
    Calls Try.prog 41 #[.agg #[.int .u64 (H1 : Int), .int .u64 (L1 : Int)], .int .u64 0] w
      fun e w' => e = .returned (.tuple #[.agg #[.int .u64 0, .int .u64 0], .int .u64 0, .bool false]) ∧ Below w.heap.size w w' := by
  go_enter Try.func41, Try.ntmps41
  go_wp2_with fail
  exact bodyPost_ret (v := .tuple #[.agg #[.int .u64 0, .int .u64 0], .int .u64 0, .bool false]) (by simp [results, Try.results41, go_sem]) rfl ⟨rfl, below2 _ _ _⟩

/-- A quotient of a wide number, and the rest. -/
def RetDivW (n d : Nat) (w : World) (e : Ending) (w' : World) : Prop :=
  ∃ H L r : Nat, e = .returned (.tuple #[.agg #[.int .u64 (H : Int), .int .u64 (L : Int)], .int .u64 (r : Int), .bool true]) ∧ H < 18446744073709551616 ∧ L < 18446744073709551616 ∧
    n = (H * 18446744073709551616 + L) * d + r ∧ r < d ∧ Below w.heap.size w w'

theorem held_two {wr W W' : World} {p q : Addr} {u v : Value} (hb : Below W.heap.size W W') (h : W.cell? p = some u ∧ W.cell? q = some v ∧ Below wr.heap.size wr W) :
    W'.cell? p = some u ∧ W'.cell? q = some v ∧ Below wr.heap.size wr W' :=
  ⟨(hb.cell (World.block_lt_of_cell? W _ h.1)).trans h.1, (hb.cell (World.block_lt_of_cell? W _ h.2.1)).trans h.2.1, h.2.2.trans (hb.mono h.2.2.size)⟩

set_option maxHeartbeats 800000 in
theorem divw_any (H1 L1 d : Nat) (w : World) (h1 : H1 < 18446744073709551616) (h2 : L1 < 18446744073709551616) (h3 : d < 18446744073709551616) (hd : 0 < d) :
    Calls Try.prog 41 #[.agg #[.int .u64 (H1 : Int), .int .u64 (L1 : Int)], .int .u64 (d : Int)] w (RetDivW (H1 * 18446744073709551616 + L1) d w) := by
  have hres := Blk.new (w.alloc (.cells #[.int .u64 (H1 : Int), .int .u64 (L1 : Int)] 26)) 26 #[.int .u64 0, .int .u64 0]
  have hbox := (Blk.new w 26 #[.int .u64 (H1 : Int), .int .u64 (L1 : Int)]).alloc (.cells #[.int .u64 0, .int .u64 0] 26)
  have hb0 := below2 w (.cells #[.int .u64 (H1 : Int), .int .u64 (L1 : Int)] 26) (.cells #[.int .u64 0, .int .u64 0] 26)
  rw [show (w.alloc (.cells #[.int .u64 (H1 : Int), .int .u64 (L1 : Int)] 26)).heap.size = w.heap.size + 1 by simp] at hres
  have HRES := Lib.hid hres
  have HBOX := Lib.hid hbox
  have c0 := hbox.cell 0
  have c1 := hbox.cell 1
  have hd0 : ((d : Int) == 0) = false := by simp; omega
  have hd1 : ¬ (d : Int) = 0 := by omega
  have hd2 : ¬ d = 0 := by omega
  have hk : H1 / d < 18446744073709551616 := Nat.lt_of_le_of_lt (Nat.div_le_self _ _) h1
  have hm := Nat.mod_lt H1 hd
  have hdm := Nat.div_add_mod H1 d
  have e1 : (H1 : Int) % (d : Int) = ((H1 % d : Nat) : Int) := by simp
  have e1t : (H1 : Int).tmod (d : Int) = ((H1 % d : Nat) : Int) := by simp [Int.tmod]
  have e2 : IntKind.u64.wrap ((H1 : Int) / (d : Int)) = ((H1 / d : Nat) : Int) := by rw [show (H1 : Int) / (d : Int) = ((H1 / d : Nat) : Int) by simp, u64_in _ hk]
  generalize H1 % d = m at *
  generalize H1 / d = k at *
  have HDM := Lib.hid hdm
  clear hres hbox hdm
  go_enter Try.func41, Try.ntmps41
  go_wp2_with fail
  go_region_held3 (fun w' => w'.cell? ⟨w.heap.size, 0, none⟩ = some (.int .u64 (H1 : Int)) ∧ w'.cell? ⟨w.heap.size, 1, none⟩ = some (.int .u64 (L1 : Int)) ∧
      Below ((w.alloc (.cells #[.int .u64 (H1 : Int), .int .u64 (L1 : Int)] 26)).alloc (.cells #[.int .u64 0, .int .u64 0] 26)).heap.size ((w.alloc (.cells #[.int .u64 (H1 : Int), .int .u64 (L1 : Int)] 26)).alloc (.cells #[.int .u64 0, .int .u64 0] 26)) w')
    (first | exact ⟨c0, c1, (Below.refl _ _).drew⟩ | assumption)
    (first
      | (go_at_call 47; (with_reducible refine (div64_all m L1 d _ hm h2 h3).mono ?_); rintro e w' ⟨q, r, rfl, hq, hr, hq2, hb'⟩; have HQ := Lib.hid hq; clear hq; have hS := held_two hb' (by assumption)))
  have hb1 := hS.2.2
  have hB1 := hb0.trans (hb1.mono hb0.size)
  have hres1 := HRES.out.below hb1 HRES.out.lt
  have r0 := hres1.cell 0
  have r1 := hres1.cell 1
  have f0 := hres1.frozen 0
  have f1 := hres1.frozen 1
  have c0' := hS.1
  have c1' := hS.2.1
  clear hS hb0 hb1 c0 c1
  go_wp2_with fail
  exact bodyPost_ret (v := .tuple #[.agg #[.int .u64 (k : Int), .int .u64 (q : Int)], .int .u64 (r : Int), .bool true]) (by simp [results, Try.results41, go_sem, r0, r1, f0, f1]) rfl
    ⟨k, q, r, rfl, hk, hq2, by have h1 := HQ.out; have h2 := HDM.out; rw [← h2]; grind, hr, (hB1.setCell (p := ⟨w.heap.size + 1, 0, none⟩) (by simp) _).setCell (p := ⟨w.heap.size + 1, 1, none⟩) (by simp) _⟩
end Go.Proofs.Ytengcnchjpkhkaa
