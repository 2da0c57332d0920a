/-
  What is taken, and given back: the places and the law's own list beside them; what each question answers.
-/
import Derived.Test.YthgenoepgjkfoaaDoorLawSlotA
import Derived.Test.YthgenoepgjkfoaaDoorRowV
namespace Go.Proofs.YthgenoepgjkfoaaDoor
open Go.RowKit
set_option maxRecDepth 100000

/-- The places in block g, and the law's own list in block bb: the same are taken. -/
structure Pl11 (L : Nat) (w : World) (g bb n : Nat) (T : Nat → Bool) : Prop where
  sl : Sl w g n T
  row : Blk w bb 4 (bls T n).toArray
  base : L ≤ g
  base2 : L ≤ bb
theorem slots_bool11 : 45 ≠ 4 := by decide
section
variable {L g bb n : Nat} {T : Nat → Bool} {w w' : World}
theorem Pl11.ne (h : Pl11 L w g bb n T) : g ≠ bb := fun e => by
  obtain ⟨cs, hb⟩ := sl11_type h.sl
  subst e
  have h2 : w.heap[g]? = some (.cells (bls T n).toArray 4 (0, 0)) := h.row
  rw [show w.heap[g]? = some (.cells cs 45 (0, 0)) from hb] at h2
  injection h2 with h2
  injection h2 with _ h3
  exact slots_bool11 h3
theorem Pl11.below (h : Pl11 L w g bb n T) (hb : Below w.heap.size w w') : Pl11 L w' g bb n T := ⟨h.sl.below hb, h.row.below hb h.row.lt, h.base, h.base2⟩
theorem Pl11.read (h : Pl11 L w g bb n T) : Rv w w.heap.size (some ⟨bb, 0, none⟩) (bls T n) := fun _ => ⟨bb, 0, rfl, h.row.lt, fun k v hk => by
  rw [Nat.zero_add, h.row.cell]
  simpa using hk⟩
/-- The slots turn, then the list. -/
theorem Pl11.turn (h : Pl11 L w g bb n T) {T' : Nat → Bool} {k : Nat} {b : Bool} (hs : Sl w' g n T') (hg : w.grownBy w' (some g)) (hT : T' = turn11 T k b) : Pl11 L (w'.setCell ⟨bb, k, none⟩ (.bool b)) g bb n T' ∧ w'.frozen? ⟨bb, k, none⟩ = false ∧ Blk w' bb 4 (bls T n).toArray := by
  have hne := h.ne
  have hb : Blk w' bb 4 (bls T n).toArray := h.row.grown hg (by simp; omega)
  refine ⟨⟨hs.grown (grown7_set w' bb k _) (by simpa using hne), ?_, h.base, h.base2⟩, hb.frozen k, hb⟩
  have h2 := hb.set_ k (.bool b)
  rw [List.setIfInBounds_toArray, bls_set, ← hT] at h2
  exact h2
theorem Pl11.quiet (h : Pl11 L w g bb n T) (hg : w.grownBy w' none) : Pl11 L w' g bb n T := ⟨h.sl.quiet hg, h.row.grown hg (by simp), h.base, h.base2⟩
end
theorem bb11_below {L bb k : Nat} {w X : World} {u : Value} (h : Below L w X) (hb : L ≤ bb) : Below L w (X.setCell ⟨bb, k, none⟩ u) := h.setCell hb u

section
variable {L g bb n cb m : Nat} {T : Nat → Bool} {wc : World} {Lx : List Nat}
theorem ask11_free (h : Pl11 L wc g bb n T) (hT : Tab11 wc) (hT0 : 0 < wc.heap.size) :
    ∃ fv : Int, (∀ W, Below wc.heap.size wc W → Calls Tryd.prog 11 #[.pointer (some ⟨g, 0, none⟩)] W fun e w' => e = .returned (.int .i64 fv) ∧ w' = W) ∧
      (∀ W, Below wc.heap.size wc W → Calls Tryd.prog 7 #[.slice (some ⟨bb, 0, none⟩) n cb] W fun e w' => e = .returned (.int .i64 fv) ∧ w' = W) := by
  rcases free11_or T n with ⟨k, hk⟩ | hf
  · exact ⟨(k : Int), fun W hW => free11_yes W (h.sl.below hW) (hT.below hW hT0) hk, fun W hW => rfree11_yes W (h.below hW).read h.sl.many hk⟩
  · exact ⟨-1, fun W hW => free11_no W (h.sl.below hW) (hT.below hW hT0) hf, fun W hW => rfree11_no W (h.below hW).read h.sl.many hf⟩
theorem ask11_len (h : Pl11 L wc g bb n T) (hT : Tab11 wc) (hT0 : 0 < wc.heap.size) (hL : all11 T n = Lx) (hm : Lx.length = m) :
    ∀ W, Below wc.heap.size wc W → Calls Tryd.prog 12 #[.pointer (some ⟨g, 0, none⟩)] W fun e w' => e = .returned (.int .i64 (m : Int)) ∧ Below W.heap.size W w' := fun W hW => by
  rw [← hm]
  exact len11_any W (.inr ⟨g, n, T, rfl, h.sl.below hW, hL.symm⟩) (hT.below hW hT0) (Nat.lt_of_lt_of_le hT0 hW.size)
theorem ask11_list (h : Pl11 L wc g bb n T) (hT : Tab11 wc) (hT0 : 0 < wc.heap.size) (hL : all11 T n = Lx) {p q : Nat} (hp : p ≤ 4097) {Ly : List Nat} (hy : Lx.take p = Ly) (hq : Ly.length = q) :
    ∀ W, Below wc.heap.size wc W → Calls Tryd.prog 14 #[.pointer (some ⟨g, 0, none⟩), .int .i64 (p : Int)] W fun e w' => ∃ A1 c1, e = .returned (.slice A1 q c1) ∧ Rd w' w'.heap.size A1 Ly ∧ Below W.heap.size W w' := fun W hW => by
  refine (list11_any (most := p) W (.inr ⟨g, n, T, rfl, h.sl.below hW, hL.symm⟩) (hT.below hW hT0) (Nat.lt_of_lt_of_le hT0 hW.size) hp).mono ?_
  rintro e w' ⟨A, c, rfl, hown, hb⟩
  rw [hy, hq] at hown
  rw [hy, hq]
  exact ⟨A, c, rfl, Rd.of_own hown, hb⟩
theorem ask11_out (h : Pl11 L wc g bb n T) {a : Int} (ha : a < 0 ∨ (n : Int) ≤ a) :
    ∀ W, Below wc.heap.size wc W → Calls Tryd.prog 15 #[.pointer (some ⟨g, 0, none⟩), .int .i64 a] W fun e w' => e = .returned (.bool false) ∧ w' = W := fun W hW => has11_out a W (h.sl.below hW) ha
theorem ask11_in (h : Pl11 L wc g bb n T) {j : Nat} (hj : j < n) :
    ∀ W, Below wc.heap.size wc W → Calls Tryd.prog 15 #[.pointer (some ⟨g, 0, none⟩), .int .i64 (j : Int)] W fun e w' => e = .returned (.bool (T j)) ∧ w' = W := fun W hW => has11_in W (h.sl.below hW) hj
theorem ask11_all (h : Pl11 L wc g bb n T) (hL : all11 T n = Lx) (hm : Lx.length = m) : Calls Tryd.prog 10 #[.slice (some ⟨bb, 0, none⟩) n cb] wc fun e w' => ∃ A c, e = .returned (.slice A m c) ∧ m ≤ c ∧ Rd w' w'.heap.size A Lx ∧ Below wc.heap.size wc w' := by
  subst hm
  subst hL
  refine (rall11_any wc h.read h.sl.many).mono ?_
  rintro e w' ⟨A, c, rfl, hown, hb⟩
  obtain ⟨A', c', h1, h2⟩ := ownsRow_form w' hown
  injection h1 with h3 h4 h5
  exact ⟨A, c, rfl, by omega, Rd.of_own hown, hb⟩
theorem ask11_own (h : Pl11 L wc g bb n T) (hL : all11 T n = Lx) (hm : Lx.length = m) : Calls Tryd.prog 10 #[.slice (some ⟨bb, 0, none⟩) n cb] wc fun e w' => ∃ A c, e = .returned (.slice A m c) ∧ m ≤ c ∧ w'.ownsRow wc.heap.size 3 1 (.slice A m c) m (ints Lx) ∧ Below wc.heap.size wc w' := by
  subst hm
  subst hL
  refine (rall11_any wc h.read h.sl.many).mono ?_
  rintro e w' ⟨A, c, rfl, hown, hb⟩
  obtain ⟨A', c', h1, h2⟩ := ownsRow_form w' hown
  injection h1 with h3 h4 h5
  exact ⟨A, c, rfl, by omega, hown, hb⟩
theorem ask11_twice {q : Nat} (h : Pl11 L wc g bb n T) (hT : Tab11 wc) (hT0 : 0 < wc.heap.size) (hg : 0 ≠ g) (hL : all11 T n = Lx) (hm : Lx.length = m) (hq : (Lx.drop 1).length = q) :
    Calls Tryd.prog 16 #[.pointer (some ⟨g, 0, none⟩)] wc fun e w' => ∃ A c A2 c2, e = .returned (.tuple #[.slice A m c, .slice A2 q c2]) ∧ Rd w' w'.heap.size A Lx ∧ Rd w' w'.heap.size A2 (Lx.drop 1) ∧ wc.grownBy w' (some g) := by
  subst hm
  subst hq
  refine (twice11_any wc h.sl hT hT0 hg hL).mono ?_
  rintro e w' ⟨A, c, A2, c2, rfl, h1, h2, h3⟩
  exact ⟨A, c, A2, c2, rfl, Rd.of_own h1, Rd.of_own h2, h3⟩
end
/-- 'x[p:]'. -/
theorem slice11 (A : Option Addr) (xs : List Nat) (n c p : Nat) (hl : xs.length = n) (hc : n ≤ c) (hp : p ≤ n) : ∃ A2 d, (∀ W, (Instr.slice 22 (.slice A n c) (some (.int .i64 (p : Int))) none none).run Tryd.prog W = .ok (.slice A2 (n - p) d) W) ∧
    (∀ (w : World) (B : Nat), Rd w B A xs → Rd w B A2 (xs.drop p)) := by
  refine ⟨if c = p then A else A.map (·.add p), c - p, fun W => ?_, fun w B h => ?_⟩
  · simp [go_sem, show (p : Int) ≤ (n : Int) by omega, run_slice_l]
  · intro hne
    have hpl : p < xs.length := by
      rcases Nat.lt_or_ge p xs.length with h1 | h1
      · exact h1
      · rw [List.drop_eq_nil_of_le h1] at hne
        exact absurd rfl hne
    obtain ⟨b, o, h1, h2, h3⟩ := h (by rintro rfl; simp at hpl)
    subst h1
    rw [if_neg (by omega)]
    refine ⟨b, o + p, by simp [Addr.add], h2, fun k hk => ?_⟩
    rw [List.length_drop] at hk
    rw [Nat.add_assoc, h3 (p + k) (by omega), nth_drop]
end Go.Proofs.YthgenoepgjkfoaaDoor
