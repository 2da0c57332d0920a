/-
  Alias tables: columns and wide numbers in memory; package alias's has, right, Numbers, plus.
-/
import Derived.Test.YtojdgcalpdbifaaAliM
import Derived.Test.YtojdgcalpdbifaaSpanR
import Derived.Test.YtojdgcalpdbifaaBack
import Derived.Shelf.Spec.BitsCarry
import Derived.Deep.RegionHeld3
import Derived.Laws.MakeOwn
namespace Go.Proofs.Ytojdgcalpdbifaa
open Go.RowKit
set_option maxRecDepth 100000

/-- The slice at A reads as n columns: cuts c, other places o; every cell lies below block B. -/
def Cq (w : World) (B : Nat) (A : Option Addr) (n : Nat) (c : Nat → Nat) (o : Nat → Int) : Prop :=
  0 < n → ∃ b p, A = some ⟨b, p, none⟩ ∧ b < B ∧ ∀ j, j < n → w.cell? ⟨b, p + j * 2, none⟩ = some (.int .u64 ((c j : Nat) : Int)) ∧ w.cell? ⟨b, p + j * 2 + 1, none⟩ = some (.int .i64 (o j))
theorem Cq.at_ {w : World} {B : Nat} {A : Option Addr} {n : Nat} {c : Nat → Nat} {o : Nat → Int} {k : Nat} (h : Cq w B A n c o) (hk : k < n) :
    ∃ b p, A = some ⟨b, p, none⟩ ∧ b < B ∧ w.cell? ⟨b, p + k * 2, none⟩ = some (.int .u64 ((c k : Nat) : Int)) ∧ w.cell? ⟨b, p + k * 2 + 1, none⟩ = some (.int .i64 (o k)) := by
  obtain ⟨b, p, h1, h2, h3⟩ := h (by omega)
  exact ⟨b, p, h1, h2, h3 k hk⟩
theorem Cq.keep {w w' : World} {B : Nat} {A : Option Addr} {n : Nat} {c : Nat → Nat} {o : Nat → Int} (h : Cq w B A n c o) (hk : ∀ p : Addr, p.block < B → w'.cell? p = w.cell? p) : Cq w' B A n c o := fun hn => by
  obtain ⟨b, p, h1, h2, h3⟩ := h hn
  exact ⟨b, p, h1, h2, fun j hj => ⟨(hk _ h2).trans (h3 j hj).1, (hk _ h2).trans (h3 j hj).2⟩⟩
theorem Cq.more {w : World} {B B' : Nat} {A : Option Addr} {n : Nat} {c : Nat → Nat} {o : Nat → Int} (h : Cq w B A n c o) (hB : B ≤ B') : Cq w B' A n c o := fun hn => by
  obtain ⟨b, p, h1, h2, h3⟩ := h hn
  exact ⟨b, p, h1, by omega, h3⟩
theorem Cq.below {w w' : World} {B C : Nat} {A : Option Addr} {n : Nat} {c : Nat → Nat} {o : Nat → Int} (h : Cq w B A n c o) (hb : Below C w w') (hB : B ≤ C) : Cq w' B A n c o := h.keep fun _ hp => hb.cell (by omega)
theorem Cq.step {w w' : World} {A : Option Addr} {n : Nat} {c : Nat → Nat} {o : Nat → Int} (h : Cq w w.heap.size A n c o) (hb : Below w.heap.size w w') : Cq w' w'.heap.size A n c o := (h.below hb (Nat.le_refl _)).more hb.size
theorem Cq.congr {w : World} {B : Nat} {A : Option Addr} {n : Nat} {c c' : Nat → Nat} {o o' : Nat → Int} (h : Cq w B A n c o) (hc : ∀ k, k < n → c k = c' k) (ho : ∀ k, k < n → o k = o' k) : Cq w B A n c' o' := fun hn => by
  obtain ⟨b, p, h1, h2, h3⟩ := h hn
  exact ⟨b, p, h1, h2, fun j hj => by rw [← hc j hj, ← ho j hj]; exact h3 j hj⟩

/-- May a table be? -/
def Rt12 (t n : Nat) (c : Nat → Nat) (o : Nat → Int) : Prop := (∀ j, j < n → c j ≤ t ∧ 0 ≤ o j ∧ o j < (n : Int)) ∧ 0 < t ∧ 0 < n

/-- A wide number by its two words. -/
def hi12 (x : Nat) : Nat := x / 18446744073709551616
def lo12 (x : Nat) : Nat := x % 18446744073709551616
theorem hl12 (x : Nat) : x = hi12 x * 18446744073709551616 + lo12 x ∧ lo12 x < 18446744073709551616 := by
  unfold hi12 lo12
  omega
theorem hl12_of {x H L : Nat} (h : x = H * 18446744073709551616 + L) (hL : L < 18446744073709551616) : hi12 x = H ∧ lo12 x = L := by
  unfold hi12 lo12
  omega
def wv (x : Nat) : Value := .agg #[.int .u64 ((hi12 x : Nat) : Int), .int .u64 ((lo12 x : Nat) : Int)]

theorem below2_12 (w : World) (a b : Obj) : Below w.heap.size w ((w.alloc a).alloc b) := ((Below.refl _ _).alloc (Nat.le_refl _) _).alloc (by simp) _
theorem below3_12 (w : World) (a b c : Obj) : Below w.heap.size w (((w.alloc a).alloc b).alloc c) := (((Below.refl _ _).alloc (Nat.le_refl _) _).alloc (by simp) _).alloc (by simp; omega) _

end Go.Proofs.Ytojdgcalpdbifaa
