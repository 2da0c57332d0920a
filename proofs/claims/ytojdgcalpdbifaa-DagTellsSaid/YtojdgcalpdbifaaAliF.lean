/-
  Alias tables: package alias's last, enlist.
-/
import Derived.Test.YtojdgcalpdbifaaAliE
namespace Go.Proofs.Ytojdgcalpdbifaa
open Go.RowKit
set_option maxRecDepth 100000

theorem info_int12 : (Try.prog.info? 3).map (fun i => (i.zero, i.size, i.bytes)) = some (some (.int .i64 0), 1, 8) := by kernel_rfl
theorem own12_some {w : World} {base : Nat} {e : TypeId} {A : Option Addr} {cc m : Nat} {vs : List Value} (h : w.ownsRow base e 1 (.slice A (m + 1) cc) (m + 1) vs) : ∃ r, A = some ⟨r, 0, none⟩ ∧ m + 1 ≤ cc := by
  rcases h.2 with ⟨h0, _⟩ | ⟨r, cap, cur, hv, _, _, hn, _⟩
  · cases h0
  · injection hv with h1 h2 h3
    subst h3
    exact ⟨r, h1, hn⟩
theorem own12_last {w : World} {base : Nat} {e : TypeId} {r cc m : Nat} {xs : List Nat} {a : Nat} (h : w.ownsRow base e 1 (.slice (some ⟨r, 0, none⟩) (m + 1) cc) (m + 1) (ints (xs ++ [a]))) (hx : xs.length = m) : w.cell? ⟨r, m, none⟩ = some (.int .i64 (a : Int)) := by
  have h1 := h.cells (g := r) rfl m (.int .i64 (a : Int)) (by rw [ints_append, List.getElem?_append_right (by rw [ints_length]; omega), ints_length, hx, Nat.sub_self]; rfl)
  rw [Go.WideShapes.add_plain, Nat.zero_add] at h1
  exact h1

section
variable {W : World} {L g gh gc n t : Nat} {h c o : Nat → Nat} {Al : Option Addr} {kl cl : Nat} {Am : Option Addr} {km cm : Nat} {ls ms : List Nat}
end

theorem rv12_one (w : World) (d : Nat) (t : TypeId) : Rv (w.alloc (.cells #[.int .i64 (d : Int)] t)) (w.heap.size + 1) (some ⟨w.heap.size, 0, none⟩) (ints [d]) := by
  intro _
  refine ⟨w.heap.size, 0, rfl, by omega, fun k v hk => ?_⟩
  match k, hk with
  | 0, hk =>
    obtain rfl : Value.int .i64 (d : Int) = v := by simpa [ints] using hk
    exact cell_one_new w (.int .i64 (d : Int)) t 0 _ rfl
  | k + 1, hk => simp [ints] at hk

end Go.Proofs.Ytojdgcalpdbifaa
