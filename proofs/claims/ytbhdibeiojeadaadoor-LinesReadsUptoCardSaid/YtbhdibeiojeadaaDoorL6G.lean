/-
  Lines: the lines of a text: the document's.
-/
import Derived.Test.YtbhdibeiojeadaaDoorL6F
namespace Go.Proofs.YtbhdibeiojeadaaDoor
open Go.RowKit
set_option maxRecDepth 100000

/-- The words of a text's line. -/
def lineOf (s : ByteArray) : List ByteArray := cutTo 32 s.data.toList s.size
/-- Is the line at this place at fault? -/
def badL (ps : List ByteArray) (i : Nat) : Bool := if i + 1 < ps.length then !wordsB (lineOf (ps.getD i ⟨#[]⟩)) else !decide (ps.getD i ⟨#[]⟩ = ⟨#[]⟩)
/-- The first place from n - d on at which p is so, counted from 1; 0 if there is none below n. -/
def firstB (p : Nat → Bool) (n : Nat) : Nat → Nat
  | 0 => 0
  | d + 1 => if p (n - (d + 1)) then n - (d + 1) + 1 else firstB p n d
theorem firstB_hit {p : Nat → Bool} {n k : Nat} (hk : k < n) (h : p k = true) : ∀ d, d ≤ n → n - d ≤ k → (∀ j, n - d ≤ j → j < k → p j = false) → firstB p n d = k + 1 := by
  intro d
  induction d with
  | zero => intro _ h2 _; omega
  | succ d ih =>
    intro h1 h2 h3
    unfold firstB
    by_cases he : n - (d + 1) = k
    · rw [he, h, if_pos rfl]
    · rw [h3 (n - (d + 1)) (by omega) (by omega), if_neg (by simp)]
      exact ih (by omega) (by omega) (fun j hj1 hj2 => h3 j (by omega) hj2)
theorem firstB_none {p : Nat → Bool} {n : Nat} : ∀ d, d ≤ n → (∀ j, n - d ≤ j → j < n → p j = false) → firstB p n d = 0 := by
  intro d
  induction d with
  | zero => intro _ _; rfl
  | succ d ih =>
    intro h1 h3
    unfold firstB
    rw [h3 (n - (d + 1)) (by omega) (by omega), if_neg (by simp)]
    exact ih (by omega) (fun j hj1 hj2 => h3 j (by omega) hj2)
/-- The number of the first line at fault, from 1 on; 0 if none is. -/
def readN (ps : List ByteArray) : Nat := firstB (badL ps) ps.length ps.length
def readL (ps : List ByteArray) : List (List ByteArray) := (List.range (ps.length - 1)).map fun k => lineOf (ps.getD k ⟨#[]⟩)
theorem readN_hit {ps : List ByteArray} {k : Nat} (hk : k < ps.length) (h : badL ps k = true) (h2 : ∀ j, j < k → badL ps j = false) : readN ps = k + 1 := firstB_hit hk h _ (Nat.le_refl _) (by omega) (fun j _ hj => h2 j hj)
theorem readN_none {ps : List ByteArray} (h2 : ∀ j, j < ps.length → badL ps j = false) : readN ps = 0 := firstB_none _ (Nat.le_refl _) (fun j _ hj => h2 j hj)
theorem readL_len (ps : List ByteArray) : (readL ps).length = ps.length - 1 := by simp [readL]
theorem readL_get {ps : List ByteArray} {k : Nat} (h : k < ps.length - 1) : (readL ps).getD k [] = lineOf (ps.getD k ⟨#[]⟩) := by
  simp [readL, List.getD_eq_getElem?_getD, List.getElem?_map, List.getElem?_range h]

/-- A row stays while another one, of other elements, grows. -/
theorem own_other {w w' : World} {b1 b2 : Nat} {e1 e2 : TypeId} {v1 v2 : Value} {n1 n2 : Nat} {xs1 xs2 : List Value} (h : w.ownsRow b1 e1 1 v1 n1 xs1) (h2 : w.ownsRow b2 e2 1 v2 n2 xs2) (hne : e1 ≠ e2) (hg : w.grownBy w' v2.ownBlock) : w'.ownsRow b1 e1 1 v1 n1 xs1 := by
  obtain ⟨hl, hh⟩ := h
  refine ⟨hl, ?_⟩
  rcases hh with h0 | ⟨g, cap, cur, hv, hb', hheap, hnc, hcm, hsz, htk⟩
  · exact .inl h0
  · refine .inr ⟨g, cap, cur, hv, hb', ?_, hnc, hcm, hsz, htk⟩
    rw [hg.block g (Array.getElem?_eq_some_iff.1 hheap).1 (fun e => ?_)]
    · exact hheap
    · rcases h2.2 with ⟨hv2, _⟩ | ⟨g2, cap2, cur2, hv2, _, hheap2, _⟩
      · rw [hv2] at e; cases e
      · rw [hv2] at e
        injection e with e
        subst e
        rw [hheap] at hheap2
        injection hheap2 with hq
        injection hq with _ hq2 _
        exact hne hq2
/-- The rows of lines that are held in a row. -/
def LRow (w : World) (base : Nat) (vs : List Value) (f : Nat → List ByteArray) (k : Nat) : Prop :=
  ∀ j, j < k → ∃ A c, vs[j]? = some (.slice A (f j).length c) ∧ w.ownsRow base 9 1 (.slice A (f j).length c) (f j).length (strs (f j))
theorem LRow.step {w w' : World} {base : Nat} {vs : List Value} {f : Nat → List ByteArray} {k : Nat} (h : LRow w base vs f k) (hb : Below w.heap.size w w') : LRow w' base vs f k := fun j hj => by
  obtain ⟨A, c, h1, h2⟩ := h j hj
  exact ⟨A, c, h1, own_last h2 hb⟩
theorem own_len {w : World} {base : Nat} {e : TypeId} {A : Option Addr} {n c : Nat} {vs : List Value} (h : w.ownsRow base e 1 (.slice A n c) n vs) : n ≤ c := by
  rcases h.2 with ⟨hv, h0⟩ | ⟨g, cap, cur, hv, _, _, hnc, _⟩
  · omega
  · injection hv with _ _ h3
    omega
theorem own_more {w : World} {b b' : Nat} {e : TypeId} {v : Value} {n : Nat} {vs : List Value} (h : w.ownsRow b e 1 v n vs) (hb : b' ≤ b) : w.ownsRow b' e 1 v n vs := by
  refine ⟨h.1, ?_⟩
  rcases h.2 with h0 | ⟨g, cap, cur, hv, hg, r⟩
  · exact .inl h0
  · exact .inr ⟨g, cap, cur, hv, by omega, r⟩
theorem LRow.push {w w2 w3 : World} {base : Nat} {v : Value} {vs : List Value} {f : Nat → List ByteArray} {k : Nat} {A : Option Addr} {c : Nat} {o : Obj} (h : LRow w base vs f k) (hl : vs.length = k) (hb : Below w.heap.size w w2) (hbase : base ≤ w.heap.size)
    (hn : w2.ownsRow base 9 1 (.slice A (f k).length c) (f k).length (strs (f k))) (ho : (w2.alloc o).ownsRow base 22 1 v k vs) (hg : (w2.alloc o).grownBy w3 v.ownBlock) :
    LRow w3 base (vs ++ [.slice A (f k).length c]) f (k + 1) := fun j hj => by
  have hb2 := b1' w2 o
  rcases Nat.lt_or_ge j k with hlt | hge
  · obtain ⟨A', c', h1, h2⟩ := h j hlt
    refine ⟨A', c', by rw [List.getElem?_append_left (by omega)]; exact h1, ?_⟩
    exact own_other (own_last (own_last h2 hb) hb2) ho (by decide) hg
  · obtain rfl : j = k := by omega
    refine ⟨A, c, by rw [List.getElem?_append_right (by omega)]; simp [hl], ?_⟩
    exact own_other (own_last hn hb2) ho (by decide) hg
end Go.Proofs.YtbhdibeiojeadaaDoor
