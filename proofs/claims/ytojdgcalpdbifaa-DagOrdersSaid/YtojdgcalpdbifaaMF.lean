/-
  The document's numbers, in digits: digit(a, i).
  The document's numbers, in digits: Cut.
  The document's numbers, in digits: Of.
  The document's numbers, in digits: Word.
-/
import Derived.Test.YtojdgcalpdbifaaProg
import Derived.Test.YtojdgcalpdbifaaMA
import Derived.Outline
import Derived.LoopTactic
import Derived.ProofKit
namespace Go.Proofs.Ytojdgcalpdbifaa
open Go.RowKit

end Go.Proofs.Ytojdgcalpdbifaa

namespace Go.Proofs.Ytojdgcalpdbifaa
open Go.RowKit

theorem info_int : (Try.prog.info? 3).map (fun i => (i.zero, i.size, i.bytes)) = some (some (.int .i64 0), 1, 8) := by kernel_rfl

/-- v is the document's number a, in canonical digits, in world w; its digits lie from block L on. -/
def Num (w : World) (L : Nat) (v : Value) (a : Nat) : Prop := ∃ A xs n c, v = .agg #[.slice A n c] ∧ xs.length = n ∧ n ≤ c ∧ Rd w w.heap.size A xs ∧ Fr L A xs ∧ Can xs ∧ V xs = a
theorem setCell_size (w : World) (p : Addr) (u : Value) : (w.setCell p u).heap.size = w.heap.size := by simp [World.setCell]
theorem Num.old {w : World} {L : Nat} {v : Value} {a : Nat} (h : Num w L v a) {p : Addr} (hp : p.block < L) (u : Value) : Num (w.setCell p u) L v a := by
  obtain ⟨A, xs, n, c, h1, hl, h2, h3, h4, h5⟩ := h
  exact ⟨A, xs, n, c, h1, hl, h2, by rw [setCell_size]; exact h3.old h4 hp u, h4, h5⟩
theorem Num.more {w : World} {L L' : Nat} {v : Value} {a : Nat} (h : Num w L v a) (hL : L' ≤ L) : Num w L' v a := by
  obtain ⟨A, xs, n, c, h1, hl, h2, h3, h4, h5⟩ := h
  exact ⟨A, xs, n, c, h1, hl, h2, h3, h4.more hL, h5⟩
theorem Num.below {w w' : World} {L : Nat} {v : Value} {a : Nat} (h : Num w L v a) (hb : Below w.heap.size w w') : Num w' L v a := by
  obtain ⟨A, xs, n, c, h1, hl, h2, h3, h4, h5⟩ := h
  exact ⟨A, xs, n, c, h1, hl, h2, (h3.below hb (Nat.le_refl _)).more hb.size, h4, h5⟩
theorem Num.alloc {w : World} {L : Nat} {v : Value} {a : Nat} (h : Num w L v a) (o : Obj) : Num (w.alloc o) L v a := h.below ((Below.refl _ _).alloc (Nat.le_refl _) _)
/-- The number of digits of a small number. -/
theorem Num.form {w : World} {L : Nat} {v : Value} {a : Nat} (h : Num w L v a) {k : Nat} (hk : a < 65536 ^ k) :
    ∃ A xs n c, v = .agg #[.slice A n c] ∧ Hid (xs.length = n) ∧ n ≤ c ∧ Rd w w.heap.size A xs ∧ Can xs ∧ Hid (V xs = a) ∧ n ≤ k := by
  obtain ⟨A, xs, n, c, h1, hl, h2, h3, h4, h5, h6⟩ := h
  exact ⟨A, xs, n, c, h1, hl, h2, h3, h5, h6, by have := h5.len (k := k) (by omega); omega⟩
theorem Num.shape {w : World} {L : Nat} {v : Value} {a : Nat} (h : Num w L v a) : ∃ A n c, v = .agg #[.slice A n c] := by
  obtain ⟨A, xs, n, c, h1, _⟩ := h
  exact ⟨A, n, c, h1⟩
/-- What a function answers that makes the number a: all that was there is as it was. -/
def RetNum (w : World) (a : Nat) (e : Ending) (w' : World) : Prop := ∃ v, e = .returned v ∧ Num w' w.heap.size v a ∧ Below w.heap.size w w'

end Go.Proofs.Ytojdgcalpdbifaa

namespace Go.Proofs.Ytojdgcalpdbifaa
open Go.RowKit

theorem half_step {q k : Nat} (h : q < 2 ^ (64 - k)) (h0 : 0 < q) : k < 64 ∧ q / 65536 < 2 ^ (64 - (k + 1)) := by
  have hk : k < 64 := by
    rcases Nat.lt_or_ge k 64 with h1 | h1
    · exact h1
    · rw [show 64 - k = 0 by omega] at h; simp at h; omega
  refine ⟨hk, ?_⟩
  rw [show 64 - k = (64 - (k + 1)) + 1 by omega, Nat.pow_succ] at h
  omega

end Go.Proofs.Ytojdgcalpdbifaa

namespace Go.Proofs.Ytojdgcalpdbifaa
open Go.RowKit

theorem word_step {xs : List Nat} (hd : Dig xs) (h4 : xs.length ≤ 4) {m : Nat} (hm : m + 1 ≤ xs.length) : V (xs.drop (m + 1)) < 281474976710656 ∧ nth xs m < 65536 ∧ V (xs.drop m) = V (xs.drop (m + 1)) * 65536 + nth xs m := by
  have h1 := V_lt (hd.drop (m + 1))
  have h2 : 65536 ^ (xs.drop (m + 1)).length ≤ 65536 ^ 3 := Nat.pow_le_pow_right (by omega) (by simp; omega)
  have h3 := V_drop xs m
  refine ⟨by omega, hd.nth m, by omega⟩

end Go.Proofs.Ytojdgcalpdbifaa
