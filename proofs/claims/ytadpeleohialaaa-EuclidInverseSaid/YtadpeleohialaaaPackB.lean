/-
  Package wide of the program: Div, Sum, Less, Times, Cmp.
-/
import Derived.Test.YtadpeleohialaaaDiv64
import Derived.Test.YtadpeleohialaaaWords
import Derived.Shelf.Spec.BitsCarry
import Derived.Deep.RegionHeld3
namespace Go.Proofs.Ytadpeleohialaaa
open Go.RowKit

theorem div64_all (hi lo y : Nat) (w : World) (h1 : hi < y) (h2 : lo < 18446744073709551616) (h3 : y < 18446744073709551616) :
    Calls Try.prog 33 #[.int .u64 (hi : Int), .int .u64 (lo : Int), .int .u64 (y : Int)] w (RetDiv (hi * 18446744073709551616 + lo) y w) := by
  rcases Nat.eq_zero_or_pos hi with h | h
  · subst h
    have := div64_zero lo y w h2 h3 h1
    rw [Nat.zero_mul, Nat.zero_add]
    exact this
  · exact div64_any hi lo y w h1 h2 h3 h

/-- A wide number that fits, and whether it does. -/
def RetWB (n : Nat) (w : World) (e : Ending) (w' : World) : Prop :=
  ∃ (H L : Nat) (ok : Bool), e = .returned (.tuple #[.agg #[.int .u64 (H : Int), .int .u64 (L : Int)], .bool ok]) ∧ H < 18446744073709551616 ∧ L < 18446744073709551616 ∧
    ok = decide (n < 340282366920938463463374607431768211456) ∧ (ok = true → n = H * 18446744073709551616 + L) ∧ (ok = false → H = 0 ∧ L = 0) ∧ Below w.heap.size w w'

theorem below3 (w : World) (a b c : Obj) : Below w.heap.size w (((w.alloc a).alloc b).alloc c) := (((Below.refl _ _).alloc (Nat.le_refl _) _).alloc (by simp) _).alloc (by simp; omega) _
theorem below2 (w : World) (a b : Obj) : Below w.heap.size w ((w.alloc a).alloc b) := ((Below.refl _ _).alloc (Nat.le_refl _) _).alloc (by simp) _

/-- A difference of wide numbers, and whether there is one. -/
def RetLess (n m : Nat) (w : World) (e : Ending) (w' : World) : Prop :=
  ∃ (H L : Nat) (ok : Bool), e = .returned (.tuple #[.agg #[.int .u64 (H : Int), .int .u64 (L : Int)], .bool ok]) ∧ H < 18446744073709551616 ∧ L < 18446744073709551616 ∧
    ok = decide (m ≤ n) ∧ (ok = true → n - m = H * 18446744073709551616 + L) ∧ (ok = false → H = 0 ∧ L = 0) ∧ Below w.heap.size w w'

/-- Which word is greater. -/
def cmpN (a b : Nat) : Int := if a < b then -1 else if b < a then 1 else 0
set_option maxHeartbeats 800000 in
theorem divw_zero (H1 L1 : Nat) (w : World) :
    Calls Try.prog 25 #[.agg #[.int .u64 (H1 : Int), .int .u64 (L1 : Int)], .int .u64 0] w
      fun e w' => e = .returned (.tuple #[.agg #[.int .u64 0, .int .u64 0], .int .u64 0, .bool false]) ∧ Below w.heap.size w w' := by
  go_enter Try.func25, Try.ntmps25
  go_wp2_with fail
  exact bodyPost_ret (v := .tuple #[.agg #[.int .u64 0, .int .u64 0], .int .u64 0, .bool false]) (by simp [results, Try.results25, go_sem]) rfl ⟨rfl, below2 _ _ _⟩

/-- A quotient of a wide number, and the rest. -/
def RetDivW (n d : Nat) (w : World) (e : Ending) (w' : World) : Prop :=
  ∃ H L r : Nat, e = .returned (.tuple #[.agg #[.int .u64 (H : Int), .int .u64 (L : Int)], .int .u64 (r : Int), .bool true]) ∧ H < 18446744073709551616 ∧ L < 18446744073709551616 ∧
    n = (H * 18446744073709551616 + L) * d + r ∧ r < d ∧ Below w.heap.size w w'

theorem held_two {wr W W' : World} {p q : Addr} {u v : Value} (hb : Below W.heap.size W W') (h : W.cell? p = some u ∧ W.cell? q = some v ∧ Below wr.heap.size wr W) :
    W'.cell? p = some u ∧ W'.cell? q = some v ∧ Below wr.heap.size wr W' :=
  ⟨(hb.cell (World.block_lt_of_cell? W _ h.1)).trans h.1, (hb.cell (World.block_lt_of_cell? W _ h.2.1)).trans h.2.1, h.2.2.trans (hb.mono h.2.2.size)⟩

set_option maxHeartbeats 800000 in
theorem divw_any (H1 L1 d : Nat) (w : World) (h1 : H1 < 18446744073709551616) (h2 : L1 < 18446744073709551616) (h3 : d < 18446744073709551616) (hd : 0 < d) :
    Calls Try.prog 25 #[.agg #[.int .u64 (H1 : Int), .int .u64 (L1 : Int)], .int .u64 (d : Int)] w (RetDivW (H1 * 18446744073709551616 + L1) d w) := by
  have hres := Blk.new (w.alloc (.cells #[.int .u64 (H1 : Int), .int .u64 (L1 : Int)] 48)) 48 #[.int .u64 0, .int .u64 0]
  have hbox := (Blk.new w 48 #[.int .u64 (H1 : Int), .int .u64 (L1 : Int)]).alloc (.cells #[.int .u64 0, .int .u64 0] 48)
  have hb0 := below2 w (.cells #[.int .u64 (H1 : Int), .int .u64 (L1 : Int)] 48) (.cells #[.int .u64 0, .int .u64 0] 48)
  rw [show (w.alloc (.cells #[.int .u64 (H1 : Int), .int .u64 (L1 : Int)] 48)).heap.size = w.heap.size + 1 by simp] at hres
  have HRES := Lib.hid hres
  have HBOX := Lib.hid hbox
  have c0 := hbox.cell 0
  have c1 := hbox.cell 1
  have hd0 : ((d : Int) == 0) = false := by simp; omega
  have hd1 : ¬ (d : Int) = 0 := by omega
  have hd2 : ¬ d = 0 := by omega
  have hk : H1 / d < 18446744073709551616 := Nat.lt_of_le_of_lt (Nat.div_le_self _ _) h1
  have hm := Nat.mod_lt H1 hd
  have hdm := Nat.div_add_mod H1 d
  have e1 : (H1 : Int) % (d : Int) = ((H1 % d : Nat) : Int) := by simp
  have e1t : (H1 : Int).tmod (d : Int) = ((H1 % d : Nat) : Int) := by simp [Int.tmod]
  have e2 : IntKind.u64.wrap ((H1 : Int) / (d : Int)) = ((H1 / d : Nat) : Int) := by rw [show (H1 : Int) / (d : Int) = ((H1 / d : Nat) : Int) by simp, u64_in _ hk]
  generalize H1 % d = m at *
  generalize H1 / d = k at *
  have HDM := Lib.hid hdm
  clear hres hbox hdm
  go_enter Try.func25, Try.ntmps25
  go_wp2_with fail
  go_region_held3 (fun w' => w'.cell? ⟨w.heap.size, 0, none⟩ = some (.int .u64 (H1 : Int)) ∧ w'.cell? ⟨w.heap.size, 1, none⟩ = some (.int .u64 (L1 : Int)) ∧
      Below ((w.alloc (.cells #[.int .u64 (H1 : Int), .int .u64 (L1 : Int)] 48)).alloc (.cells #[.int .u64 0, .int .u64 0] 48)).heap.size ((w.alloc (.cells #[.int .u64 (H1 : Int), .int .u64 (L1 : Int)] 48)).alloc (.cells #[.int .u64 0, .int .u64 0] 48)) w')
    (first | exact ⟨c0, c1, (Below.refl _ _).drew⟩ | assumption)
    (first
      | (go_at_call 33; (with_reducible refine (div64_all m L1 d _ hm h2 h3).mono ?_); rintro e w' ⟨q, r, rfl, hq, hr, hq2, hb'⟩; have HQ := Lib.hid hq; clear hq; have hS := held_two hb' (by assumption)))
  have hb1 := hS.2.2
  have hB1 := hb0.trans (hb1.mono hb0.size)
  have hres1 := HRES.out.below hb1 HRES.out.lt
  have r0 := hres1.cell 0
  have r1 := hres1.cell 1
  have f0 := hres1.frozen 0
  have f1 := hres1.frozen 1
  have c0' := hS.1
  have c1' := hS.2.1
  clear hS hb0 hb1 c0 c1
  go_wp2_with fail
  exact bodyPost_ret (v := .tuple #[.agg #[.int .u64 (k : Int), .int .u64 (q : Int)], .int .u64 (r : Int), .bool true]) (by simp [results, Try.results25, go_sem, r0, r1, f0, f1]) rfl
    ⟨k, q, r, rfl, hk, hq2, by have h1 := HQ.out; have h2 := HDM.out; rw [← h2]; grind, hr, (hB1.setCell (p := ⟨w.heap.size + 1, 0, none⟩) (by simp) _).setCell (p := ⟨w.heap.size + 1, 1, none⟩) (by simp) _⟩
end Go.Proofs.Ytadpeleohialaaa
