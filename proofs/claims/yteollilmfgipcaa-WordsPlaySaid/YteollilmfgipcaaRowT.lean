/-
  A slice of calls of a source as an argument, opened: each has two ints and a slice of words.
-/
import Derived.Test.YteollilmfgipcaaRowB
import Derived.Test.YteollilmfgipcaaMemU
import Derived.Deep.Slices
import Derived.Deep.Strs
namespace Go.Proofs.Yteollilmfgipcaa
open Go.ChangeShapes Go.WideShapes Go.ChangeAt Go.RowKit
set_option maxRecDepth 100000

/-- The slice at A reads as n calls: kinds K, places T, slices S, which read as the words X. -/
def Acts7 (w : World) (A : Option Addr) (n : Nat) (K T : Nat → Int) (S : Nat → Option Addr × Nat × Nat) (X : Nat → List Nat) : Prop :=
  0 < n → ∃ b o, A = some ⟨b, o, none⟩ ∧ b < w.heap.size ∧ ∀ k, k < n → w.cell? ⟨b, o + k * 3, none⟩ = some (.int .i64 (K k)) ∧ w.cell? ⟨b, o + k * 3 + 1, none⟩ = some (.int .i64 (T k)) ∧
    w.cell? ⟨b, o + k * 3 + 2, none⟩ = some (.slice (S k).1 (S k).2.1 (S k).2.2) ∧ (X k).length = (S k).2.1 ∧ Rq w w.heap.size (S k).1 (X k)
theorem Acts7.below {w w' : World} {A : Option Addr} {n : Nat} {K T : Nat → Int} {S : Nat → Option Addr × Nat × Nat} {X : Nat → List Nat} (h : Acts7 w A n K T S X) (hb : Below w.heap.size w w') : Acts7 w' A n K T S X := fun hn => by
  obtain ⟨b, o, h1, h2, h3⟩ := h hn
  refine ⟨b, o, h1, Nat.lt_of_lt_of_le h2 hb.size, fun k hk => ?_⟩
  obtain ⟨a0, a1, a2, a3, a4⟩ := h3 k hk
  exact ⟨(hb.cell h2).trans a0, (hb.cell h2).trans a1, (hb.cell h2).trans a2, a3, Rv.step a4 hb⟩

/-- A slice of words, wherever it lies. -/
theorem open_wc {H : Type} {enc : TypeId × Value → H} {W : World} {v : Value} {n : Nat} {x : DataW H × List MemPlace} (h : DataW.trod enc Try.prog W 0 (fun _ => true) true n 22 [v] = some x) :
    ∃ (A : Option Addr) (n c : Nat) (xs : List Nat), v = .slice A n c ∧ xs.length = n ∧ Rq W W.heap.size A xs := by
  rcases open_ints Try.underlying22 Try.underlying27 (by kernel_rfl) h with ⟨hcs, hx⟩ | ⟨a, len, cap, zs, hcs, _, hl, hm, hz, hx, hcell, hwz⟩
  · simp at hcs
    subst hcs
    exact ⟨none, 0, 0, [], rfl, rfl, Rq.nil _ _ _⟩
  · simp at hcs
    subst hcs
    simp only [if_true] at hz
    have bnd : ∀ z ∈ zs, 0 ≤ z ∧ z ≤ 18446744073709551615 := fun z hz' => by
      have h5 := hwz z hz'
      simpa [Lit.wf, IntKind.min, IntKind.max, IntKind.signed, IntKind.bits] using h5
    have hlen : ((zs.take len).map Int.toNat).length = len := by simp; omega
    refine ⟨some a, len, cap, (zs.take len).map Int.toNat, rfl, hlen, Rq.of_ru fun hne => ?_⟩
    have hpos : 0 < zs.length := by
      rcases Nat.eq_zero_or_pos zs.length with h0 | h0
      · rw [List.eq_nil_of_length_eq_zero h0] at hne; simp at hne
      · exact h0
    obtain ⟨b, off, rfl, hc⟩ := ints_at hcell hpos
    refine ⟨b, off, rfl, fun k hk => ?_⟩
    rw [hlen] at hk
    rw [hc k (by omega), nth_in (by omega)]
    have hb := bnd zs[k] (List.getElem_mem (by omega))
    simp only [List.getElem_map, List.getElem_take, List.getD_eq_getElem?_getD, List.getElem?_eq_getElem (show k < zs.length by omega), Option.getD_some]
    rw [Int.toNat_of_nonneg hb.1]

theorem open_acts7 {H : Type} {enc : TypeId × Value → H} {W : World} {base : Nat} {v : Value} {d : DataW H} {p : List MemPlace} (hv : Value.okWide Try.prog W .any base 23 v) (h : DataW.Trod enc Try.prog W 0 (fun _ => true) true 23 v d p) :
    ∃ (A : Option Addr) (n c : Nat) (xs : (Nat → Int) × (Nat → Int) × (Nat → Option Addr × Nat × Nat) × (Nat → List Nat)), v = .slice A n c ∧ Acts7 W A n xs.1 xs.2.1 xs.2.2.1 xs.2.2.2 := by
  obtain ⟨a0, len, cap, rfl⟩ := okWide_slice Try.underlying23 hv
  obtain ⟨fuel, hf⟩ := h
  rcases Go.Deep.open_slice Try.underlying23 hf with ⟨hcs, hx⟩ | ⟨a, len', cap', m, n, D, Pl, hcs, hb, hl, hm, hmm, hx, hel⟩
  · simp [Value.cells] at hcs
    obtain ⟨rfl, rfl, rfl⟩ := hcs
    exact ⟨none, 0, 0, (fun _ => 0, fun _ => 0, fun _ => (none, 0, 0), fun _ => []), rfl, fun h => absurd h (by omega)⟩
  · simp [Value.cells] at hcs
    obtain ⟨rfl, rfl, rfl⟩ := hcs
    simp only [if_true] at hmm
    have each : ∀ i, i < len → ∃ q : Int × Int × (Option Addr × Nat × Nat) × List Nat, W.cell? (a.add (i * 3)) = some (.int .i64 q.1) ∧ W.cell? (a.add (i * 3 + 1)) = some (.int .i64 q.2.1) ∧ W.cell? (a.add (i * 3 + 2)) = some (.slice q.2.2.1.1 q.2.2.1.2.1 q.2.2.1.2.2) ∧
        q.2.2.2.length = q.2.2.1.2.1 ∧ Rq W W.heap.size q.2.2.1.1 q.2.2.2 := by
      intro i hi
      obtain ⟨cs', h1, h2⟩ := hel i (by omega)
      rw [show (Try.prog).cellsOf 29 = 3 by kernel_rfl] at h1
      obtain ⟨_, hlen, hcell⟩ := World.cells?_some h1
      match cs', hlen, hcell, h2 with
      | [c0, c1, c2], _, hcell, h2 =>
        obtain ⟨y0, y1, y2, n', _, _, g0, g1, g2⟩ := Go.Deep.trod_struct3 Try.underlying29 h2
        obtain ⟨x, e0, _, w0⟩ := DataW.trod_int Try.underlying3 g0
        obtain ⟨y, e1, _, w1⟩ := DataW.trod_int Try.underlying3 g1
        simp only [show (Try.prog).cellsOf 3 = 1 by kernel_rfl, show (Try.prog).cellsOf 22 = 1 by kernel_rfl] at e0 e1 g2
        simp at e0 e1 g2
        subst e0 e1
        obtain ⟨A2, n2, k2, xs, rfl, z1, z2⟩ := open_wc g2
        have a0 := hcell 0 (by omega)
        have a1 := hcell 1 (by omega)
        have a2 := hcell 2 (by omega)
        rw [Go.Deep.add_add] at a0 a1 a2
        exact ⟨(x, y, (A2, n2, k2), xs), by simpa using a0, by simpa using a1, by simpa using a2, z1, z2⟩
    obtain ⟨q, hq⟩ := Go.Deep.choose_lt each
    refine ⟨some a, len, cap, (fun k => (q k).1, fun k => (q k).2.1, fun k => (q k).2.2.1, fun k => (q k).2.2.2), rfl, fun hn => ?_⟩
    obtain ⟨b, off, spot⟩ := a
    have hspot : spot = none := by
      have := (hq 0 hn).1
      simpa [Addr.add] using World.cell?_spot this
    subst hspot
    refine ⟨b, off, rfl, ?_, fun k hk => ?_⟩
    · have := (hq 0 hn).1
      simpa [Addr.add] using World.block_lt_of_cell? W _ this
    · have h3 := hq k hk
      simp only [Go.WideShapes.add_plain] at h3
      simpa only [Nat.add_assoc] using h3
end Go.Proofs.Yteollilmfgipcaa
