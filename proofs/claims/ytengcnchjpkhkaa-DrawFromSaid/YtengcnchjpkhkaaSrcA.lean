/-
  Random words, as they are told: the program's source: what it tells, and what is taken.
-/
import Derived.Test.YtengcnchjpkhkaaMemU
import Derived.Test.YtengcnchjpkhkaaSkip
import Derived.Test.YtengcnchjpkhkaaProg
import Derived.Deep.RegionHeld3
namespace Go.Proofs.Ytengcnchjpkhkaa
open Go.RowKit
set_option maxRecDepth 100000

theorem info_w8 : (Try.prog.info? 22).map (fun i => (i.zero, i.size, i.bytes)) = some (some (.int .u64 0), 1, 8) := by kernel_rfl
theorem nil64_is : ∀ (n c : Nat) (w : World), (binOp .eql 39 (.slice none n c) (.slice none 0 0)).run Try.prog w = .ok (.bool true) w := fun _ _ _ => by kernel_rfl
theorem nil64_not : ∀ (a : Addr) (n c : Nat) (w : World), (binOp .eql 39 (.slice (some a) n c) (.slice none 0 0)).run Try.prog w = .ok (.bool false) w := fun _ _ _ _ => by kernel_rfl
theorem grown7_set (W : World) (b i : Nat) (v : Value) : W.grownBy (W.setCell ⟨b, i, none⟩ v) (some b) :=
  ⟨rfl, rfl, rfl, by simp, fun k _ hk => Below.heap_setCell _ _ _ k (fun e => hk (by rw [e]))⟩
theorem grown7_drew (W : World) (r : Option Nat) : W.grownBy W.drew r := ⟨rfl, rfl, rfl, Nat.le_refl _, fun _ _ _ => rfl⟩
theorem grown7_more {w w' : World} {r : Option Nat} (h : w.grownBy w' none) : w.grownBy w' r := ⟨h.os, h.tape, h.output, h.size, fun k hk _ => h.block k hk (by simp)⟩
theorem grown7_below {w w' : World} (h : w.grownBy w' none) : Below w.heap.size w w' := (Below.refl _ _).grown h (Nat.le_refl _) (fun k hk => by cases hk)

/-- The program's source lies in block g: the words xs, in the block b, which is the call's own from L on; the place. -/
def Src (w : World) (L g : Nat) (b : Option Nat) (xs : List Nat) (p : Nat) : Prop :=
  ∃ A n c, Blk w g 65 #[.slice A n c, .int .i64 (p : Int)] ∧ w.ownsRow L 22 1 (.slice A n c) n (wds xs) ∧ (Value.slice A n c).ownBlock = b ∧ xs.length = n ∧ n ≤ c ∧ p ≤ n ∧ n ≤ 1000000
theorem Src.lt {w : World} {L g : Nat} {b : Option Nat} {xs : List Nat} {p : Nat} (k : Src w L g b xs p) : g < w.heap.size := by
  obtain ⟨A, n, c, h1, _⟩ := k
  exact h1.lt
theorem Src.row {w : World} {L g : Nat} {b : Option Nat} {xs : List Nat} {p : Nat} (k : Src w L g b xs p) : ∀ j, b = some j → L ≤ j ∧ j < w.heap.size := by
  obtain ⟨A, n, c, h1, h2, h3, _⟩ := k
  intro j hj
  exact h2.lt j (h3.trans hj)
theorem src_types : 65 ≠ 22 := by decide
theorem Src.apart {w : World} {L g : Nat} {b : Option Nat} {xs : List Nat} {p : Nat} (k : Src w L g b xs p) : b ≠ some g := by
  obtain ⟨A, n, c, h1, h2, h3, _⟩ := k
  rw [← h3]
  exact own7_ne h2 h1 src_types
/-- Another block is written. -/
theorem Src.grown {w w' : World} {L g : Nat} {b row : Option Nat} {xs : List Nat} {p : Nat} (k : Src w L g b xs p) (hg : w.grownBy w' row) (h1 : some g ≠ row) (h2 : b = none ∨ b ≠ row) : Src w' L g b xs p := by
  obtain ⟨A, n, c, k1, k2, k3, k4⟩ := k
  exact ⟨A, n, c, k1.grown hg h1, k2.kept hg (by rw [k3]; exact h2), k3, k4⟩
theorem Src.quiet {w w' : World} {L g : Nat} {b : Option Nat} {xs : List Nat} {p : Nat} (k : Src w L g b xs p) (hg : w.grownBy w' none) : Src w' L g b xs p :=
  k.grown hg (by simp) (by cases b <;> simp)
theorem Src.below {w w' : World} {L g : Nat} {b : Option Nat} {xs : List Nat} {p : Nat} (k : Src w L g b xs p) (hg : Below w.heap.size w w') : Src w' L g b xs p := by
  obtain ⟨A, n, c, k1, k2, k3⟩ := k
  exact ⟨A, n, c, k1.below hg k1.lt, own7_keep k2 hg, k3⟩
theorem Src.base {w : World} {L L' g : Nat} {b : Option Nat} {xs : List Nat} {p : Nat} (k : Src w L g b xs p) (h : L' ≤ L) : Src w L' g b xs p := by
  obtain ⟨A, n, c, k1, k2, k3⟩ := k
  exact ⟨A, n, c, k1, own7_base k2 h, k3⟩
/-- The place is set. -/
theorem Src.set {w : World} {L g : Nat} {b : Option Nat} {xs : List Nat} {p : Nat} (k : Src w L g b xs p) (q : Nat) (hq : q ≤ xs.length) : Src (w.setCell ⟨g, 1, none⟩ (.int .i64 (q : Int))) L g b xs q := by
  have ha := k.apart
  obtain ⟨A, n, c, k1, k2, k3, k4, k5, k6, k7⟩ := k
  exact ⟨A, n, c, k1.set_ 1 _, k2.kept (grown7_set w g 1 _) (.inr (by rw [k3]; exact ha)), k3, k4, k5, by omega, k7⟩

theorem at_any {L g : Nat} {b : Option Nat} {xs : List Nat} {p : Nat} (w : World) (h : Src w L g b xs p) : Calls Try.prog 21 #[.pointer (some ⟨g, 0, none⟩)] w fun en w' => en = .returned (.int .i64 (p : Int)) ∧ w.grownBy w' none := by
  obtain ⟨A, n, c, hb, _⟩ := h
  have c1 := hb.cell 1
  clear hb
  go_enter Try.func21, Try.ntmps21
  go_wp2_with fail
  go_ret
  exact ⟨rfl, World.grownBy.refl _ _⟩

set_option maxHeartbeats 1000000 in
theorem left7_any {L g : Nat} {b : Option Nat} {xs : List Nat} {p : Nat} (w : World) (h : Src w L g b xs p) : Calls Try.prog 50 #[.pointer (some ⟨g, 0, none⟩)] w fun en w' => en = .returned (.int .i64 ((xs.length - p : Nat) : Int)) ∧ w.grownBy w' none := by
  obtain ⟨A, n, c, hb, _, _, hl, _, hp, hn⟩ := h
  have c0 : w.cell? ⟨g, 0, none⟩ = some (.slice A n c) := hb.cell 0
  have c1 : w.cell? ⟨g, 1, none⟩ = some (.int .i64 (p : Int)) := hb.cell 1
  have hs : IntKind.i64.wrap ((n : Int) - (p : Int)) = ((xs.length - p : Nat) : Int) := by rw [IntKind.wrap_i64]; omega
  obtain ⟨r, hr⟩ : ∃ r, xs.length - p = r := ⟨_, rfl⟩
  rw [hr] at hs ⊢
  clear hb hr hl
  go_enter Try.func50, Try.ntmps50
  go_wp2_with fail
  go_region
  go_wp2_with fail
  go_ret
  exact ⟨rfl, grown7_drew _ _⟩

set_option maxHeartbeats 1000000 in
theorem peek_ok {L g : Nat} {b : Option Nat} {xs : List Nat} {p : Nat} (w : World) (h : Src w L g b xs p) (hp : p < xs.length) : Calls Try.prog 46 #[.pointer (some ⟨g, 0, none⟩)] w fun en w' => en = .returned (.tuple #[.int .u64 ((nth xs p : Nat) : Int), .int .i64 0]) ∧ w.grownBy w' none := by
  have HL := Lib.hid (left7_any w h)
  obtain ⟨r, hr⟩ : ∃ r, xs.length - p = r := ⟨_, rfl⟩
  rw [hr] at HL
  have hr0 : ¬ r = 0 := by omega
  have HS := Lib.hid h
  obtain ⟨x, hx⟩ : ∃ x, nth xs p = x := ⟨_, rfl⟩
  rw [hx]
  have HX := Lib.hid hx
  clear hr h hx
  go_enter Try.func46, Try.ntmps46
  go_wp2_with fail
  refine HL.out.mono ?_
  rintro en w1 ⟨rfl, hg1⟩
  obtain ⟨A, n, c, hb, ho, _, hl, _, hpn, hn⟩ := HS.out.quiet hg1
  have c0 : w1.cell? ⟨g, 0, none⟩ = some (.slice A n c) := hb.cell 0
  have c1 : w1.cell? ⟨g, 1, none⟩ = some (.int .i64 (p : Int)) := hb.cell 1
  obtain ⟨b0, o0, rfl, _, cx⟩ := (Rq.of_own ho).at_ hp
  rw [HX.out] at cx
  have hi0 : (0 : Int) ≤ (p : Int) := by omega
  have hi1 : (p : Int) < (n : Int) := by omega
  have HG := Lib.hid hg1
  clear hb ho hl hg1 HS HL HX
  go_wp2_with fail
  go_region
  go_wp2_with fail
  go_ret2
  exact ⟨rfl, HG.out.trans (grown7_drew _ _)⟩

theorem peek_no {L g : Nat} {b : Option Nat} {xs : List Nat} (w : World) (h : Src w L g b xs xs.length) : Calls Try.prog 46 #[.pointer (some ⟨g, 0, none⟩)] w fun en w' => en = .returned (.tuple #[.int .u64 0, .int .i64 11]) ∧ w.grownBy w' none := by
  have HL := Lib.hid (left7_any w h)
  rw [Nat.sub_self] at HL
  clear h
  go_enter Try.func46, Try.ntmps46
  go_wp2_with fail
  refine HL.out.mono ?_
  rintro en w1 ⟨rfl, hg1⟩
  go_wp2_with fail
  go_ret2
  exact ⟨rfl, hg1⟩

set_option maxHeartbeats 1000000 in
theorem take_ok {L g : Nat} {b : Option Nat} {xs : List Nat} {p : Nat} (w : World) (h : Src w L g b xs p) (hp : p < xs.length) : Calls Try.prog 35 #[.pointer (some ⟨g, 0, none⟩)] w fun en w' =>
    en = .returned (.tuple #[.int .u64 ((nth xs p : Nat) : Int), .int .i64 0]) ∧ Src w' L g b xs (p + 1) ∧ w.grownBy w' (some g) := by
  have HP := Lib.hid (peek_ok w h hp)
  have HS := Lib.hid h
  have HPX := Lib.hid hp
  obtain ⟨x, hx⟩ : ∃ x, nth xs p = x := ⟨_, rfl⟩
  rw [hx] at HP ⊢
  have hps : p ≤ 1000000 := by obtain ⟨_, _, _, _, _, _, _, _, _, _⟩ := h; omega
  clear hx h hp
  go_enter Try.func35, Try.ntmps35
  go_wp2_with fail
  refine HP.out.mono ?_
  rintro en w1 ⟨rfl, hg1⟩
  have hs1 := HS.out.quiet hg1
  have HS1 := Lib.hid hs1
  obtain ⟨A, n, c, hb, _⟩ := hs1
  have c1 := hb.cell 1
  have f1 := hb.frozen 1
  have HG := Lib.hid hg1
  clear hb hg1 HS HP
  go_wp2_with fail
  go_ret2
  exact ⟨rfl, HS1.out.set (p + 1) (by have := HPX.out; omega), (grown7_more HG.out).trans (grown7_set w1 g 1 _)⟩

theorem take_no {L g : Nat} {b : Option Nat} {xs : List Nat} (w : World) (h : Src w L g b xs xs.length) : Calls Try.prog 35 #[.pointer (some ⟨g, 0, none⟩)] w fun en w' =>
    en = .returned (.tuple #[.int .u64 0, .int .i64 11]) ∧ w.grownBy w' none := by
  have HP := Lib.hid (peek_no w h)
  clear h
  go_enter Try.func35, Try.ntmps35
  go_wp2_with fail
  refine HP.out.mono ?_
  rintro en w1 ⟨rfl, hg1⟩
  go_wp2_with fail
  go_ret2
  exact ⟨rfl, hg1⟩

set_option maxHeartbeats 1000000 in
theorem seek_ok {L g : Nat} {b : Option Nat} {xs : List Nat} {p : Nat} (q : Nat) (w : World) (h : Src w L g b xs p) (hq : q ≤ xs.length) : Calls Try.prog 17 #[.pointer (some ⟨g, 0, none⟩), .int .i64 (q : Int)] w fun en w' =>
    en = .returned (.int .i64 0) ∧ Src w' L g b xs q ∧ w.grownBy w' (some g) := by
  have HS := Lib.hid h
  have HQ := Lib.hid hq
  obtain ⟨A, n, c, hb, _, _, hl, _, hpn, hn⟩ := h
  have c0 := hb.cell 0
  have c1 := hb.cell 1
  have f1 := hb.frozen 1
  have hi0 : ¬ (q : Int) < 0 := by omega
  have hi1 : ¬ (n : Int) < (q : Int) := by omega
  clear hb hl hq
  go_enter Try.func17, Try.ntmps17
  go_wp2_with fail
  go_ret
  exact ⟨rfl, HS.out.set q HQ.out, grown7_set w g 1 _⟩

set_option maxHeartbeats 1000000 in
theorem seek_no {L g : Nat} {b : Option Nat} {xs : List Nat} {p : Nat} (q : Int) (w : World) (h : Src w L g b xs p) (hq : q < 0 ∨ (xs.length : Int) < q) : Calls Try.prog 17 #[.pointer (some ⟨g, 0, none⟩), .int .i64 q] w fun en w' =>
    en = .returned (.int .i64 6) ∧ w' = w := by
  obtain ⟨A, n, c, hb, _, _, hl, _, hpn, hn⟩ := h
  have c0 := hb.cell 0
  rw [hl] at hq
  clear hb hl
  by_cases hi0 : q < 0
  · go_enter Try.func17, Try.ntmps17
    go_wp2_with fail
    go_ret
    exact ⟨rfl, rfl⟩
  · have hi1 : (n : Int) < q := by omega
    go_enter Try.func17, Try.ntmps17
    go_wp2_with fail
    go_ret
    exact ⟨rfl, rfl⟩
end Go.Proofs.Ytengcnchjpkhkaa
