/-
  A slice of calls of a tree as an argument, opened: each has two ints, a word and a slice of words.
-/
import Derived.Test.YtodbmpbhjbknlaaRowB
import Derived.Test.YtodbmpbhjbknlaaRowT
import Derived.Test.YtodbmpbhjbknlaaMemU
import Derived.Deep.Slices
import Derived.Deep.Strs
namespace Go.Proofs.Ytodbmpbhjbknlaa
open Go.ChangeShapes Go.WideShapes Go.ChangeAt Go.RowKit
set_option maxRecDepth 100000

/-- One call: its kind, place, word, slice (address, length, room), and the slice's words. -/
structure Act10 where
  kind : Int
  at_ : Int
  word : Nat
  addr : Option Addr
  len : Nat
  room : Nat
  list : List Nat
/-- The slice at A reads as n calls. -/
def Acts10 (w : World) (A : Option Addr) (n : Nat) (q : Nat → Act10) : Prop :=
  0 < n → ∃ b o, A = some ⟨b, o, none⟩ ∧ b < w.heap.size ∧ ∀ k, k < n → w.cell? ⟨b, o + k * 4, none⟩ = some (.int .i64 (q k).kind) ∧ w.cell? ⟨b, o + k * 4 + 1, none⟩ = some (.int .i64 (q k).at_) ∧
    w.cell? ⟨b, o + k * 4 + 2, none⟩ = some (.int .u64 (((q k).word : Nat) : Int)) ∧ w.cell? ⟨b, o + k * 4 + 3, none⟩ = some (.slice (q k).addr (q k).len (q k).room) ∧
    (q k).word < 18446744073709551616 ∧ (q k).list.length = (q k).len ∧ Rq w w.heap.size (q k).addr (q k).list ∧ (∀ x ∈ (q k).list, x < 18446744073709551616)
theorem Acts10.below {w w' : World} {A : Option Addr} {n : Nat} {q : Nat → Act10} (h : Acts10 w A n q) (hb : Below w.heap.size w w') : Acts10 w' A n q := fun hn => by
  obtain ⟨b, o, h1, h2, h3⟩ := h hn
  refine ⟨b, o, h1, Nat.lt_of_lt_of_le h2 hb.size, fun k hk => ?_⟩
  obtain ⟨a0, a1, a2, a3, a4, a5, a6, a7⟩ := h3 k hk
  exact ⟨(hb.cell h2).trans a0, (hb.cell h2).trans a1, (hb.cell h2).trans a2, (hb.cell h2).trans a3, a4, a5, Rv.step a6 hb, a7⟩

/-- A slice of words, wherever it lies; all are words. -/
theorem open_wc10 {H : Type} {enc : TypeId × Value → H} {W : World} {v : Value} {n : Nat} {x : DataW H × List MemPlace} (h : DataW.trod enc Try.prog W 0 (fun _ => true) true n 29 [v] = some x) :
    ∃ (A : Option Addr) (n c : Nat) (xs : List Nat), v = .slice A n c ∧ xs.length = n ∧ Rq W W.heap.size A xs ∧ (∀ x ∈ xs, x < 18446744073709551616) := by
  rcases open_ints Try.underlying29 Try.underlying30 (by kernel_rfl) h with ⟨hcs, hx⟩ | ⟨a, len, cap, zs, hcs, _, hl, hm, hz, hx, hcell, hwz⟩
  · simp at hcs
    subst hcs
    exact ⟨none, 0, 0, [], rfl, rfl, Rq.nil _ _ _, fun x hx => by cases hx⟩
  · simp at hcs
    subst hcs
    simp only [if_true] at hz
    have bnd : ∀ z ∈ zs, 0 ≤ z ∧ z ≤ 18446744073709551615 := fun z hz' => by
      have h5 := hwz z hz'
      simpa [Lit.wf, IntKind.min, IntKind.max, IntKind.signed, IntKind.bits] using h5
    have hlen : ((zs.take len).map Int.toNat).length = len := by simp; omega
    refine ⟨some a, len, cap, (zs.take len).map Int.toNat, rfl, hlen, Rq.of_ru fun hne => ?_, fun x hx => ?_⟩
    · have hpos : 0 < zs.length := by
        rcases Nat.eq_zero_or_pos zs.length with h0 | h0
        · rw [List.eq_nil_of_length_eq_zero h0] at hne; simp at hne
        · exact h0
      obtain ⟨b, off, rfl, hc⟩ := ints_at hcell hpos
      refine ⟨b, off, rfl, fun k hk => ?_⟩
      rw [hlen] at hk
      rw [hc k (by omega), nth_in (by omega)]
      have hb := bnd zs[k] (List.getElem_mem (by omega))
      simp only [List.getElem_map, List.getElem_take, List.getD_eq_getElem?_getD, List.getElem?_eq_getElem (show k < zs.length by omega), Option.getD_some]
      rw [Int.toNat_of_nonneg hb.1]
    · obtain ⟨z, hz1, rfl⟩ := List.mem_map.1 hx
      have hb := bnd z (List.mem_of_mem_take hz1)
      omega

theorem trod_struct4 {P : Program} {H : Type} {enc : TypeId × Value → H} {w : World} {base : Nat} {spare : Nat → Bool} {held : Bool} {t : TypeId} {f0 f1 f2 f3 : Field} {fuel : Nat} {cs : List Value} {x : DataW H × List MemPlace} (ht : P.underlying t = some (.struct #[f0, f1, f2, f3])) (h : DataW.trod enc P w base spare held fuel t cs = some x) :
    ∃ y0 y1 y2 y3 n, cs.length = P.cellsOf t ∧ DataW.trod enc P w base spare held n f0.type ((cs.drop f0.offset).take (P.cellsOf f0.type)) = some y0 ∧
      DataW.trod enc P w base spare held n f1.type ((cs.drop f1.offset).take (P.cellsOf f1.type)) = some y1 ∧ DataW.trod enc P w base spare held n f2.type ((cs.drop f2.offset).take (P.cellsOf f2.type)) = some y2 ∧
      DataW.trod enc P w base spare held n f3.type ((cs.drop f3.offset).take (P.cellsOf f3.type)) = some y3 := by
  obtain ⟨xs, n, _, rfl, hl, hlen, hf⟩ := DataW.trod_struct ht h
  match xs, hlen with
  | [y0, y1, y2, y3], _ => exact ⟨y0, y1, y2, y3, n, hl, by simpa using hf 0 f0 rfl, by simpa using hf 1 f1 rfl, by simpa using hf 2 f2 rfl, by simpa using hf 3 f3 rfl⟩

theorem open_acts10 {H : Type} {enc : TypeId × Value → H} {W : World} {base : Nat} {v : Value} {d : DataW H} {p : List MemPlace} (hv : Value.okWide Try.prog W .any base 22 v) (h : DataW.Trod enc Try.prog W 0 (fun _ => true) true 22 v d p) :
    ∃ (A : Option Addr) (n c : Nat) (q : Nat → Act10), v = .slice A n c ∧ Acts10 W A n q := by
  obtain ⟨a0, len, cap, rfl⟩ := okWide_slice Try.underlying22 hv
  obtain ⟨fuel, hf⟩ := h
  rcases Go.Deep.open_slice Try.underlying22 hf with ⟨hcs, hx⟩ | ⟨a, len', cap', m, n, D, Pl, hcs, hb, hl, hm, hmm, hx, hel⟩
  · simp [Value.cells] at hcs
    obtain ⟨rfl, rfl, rfl⟩ := hcs
    exact ⟨none, 0, 0, fun _ => ⟨0, 0, 0, none, 0, 0, []⟩, rfl, fun h => absurd h (by omega)⟩
  · simp [Value.cells] at hcs
    obtain ⟨rfl, rfl, rfl⟩ := hcs
    simp only [if_true] at hmm
    have each : ∀ i, i < len → ∃ q : Act10, W.cell? (a.add (i * 4)) = some (.int .i64 q.kind) ∧ W.cell? (a.add (i * 4 + 1)) = some (.int .i64 q.at_) ∧ W.cell? (a.add (i * 4 + 2)) = some (.int .u64 ((q.word : Nat) : Int)) ∧ W.cell? (a.add (i * 4 + 3)) = some (.slice q.addr q.len q.room) ∧
        q.word < 18446744073709551616 ∧ q.list.length = q.len ∧ Rq W W.heap.size q.addr q.list ∧ (∀ x ∈ q.list, x < 18446744073709551616) := by
      intro i hi
      obtain ⟨cs', h1, h2⟩ := hel i (by omega)
      rw [show (Try.prog).cellsOf 32 = 4 by kernel_rfl] at h1
      obtain ⟨_, hlen, hcell⟩ := World.cells?_some h1
      match cs', hlen, hcell, h2 with
      | [c0, c1, c2, c3], _, hcell, h2 =>
        obtain ⟨y0, y1, y2, y3, n', _, g0, g1, g2, g3⟩ := trod_struct4 Try.underlying32 h2
        obtain ⟨x, e0, _, w0⟩ := DataW.trod_int Try.underlying3 g0
        obtain ⟨y, e1, _, w1⟩ := DataW.trod_int Try.underlying3 g1
        obtain ⟨z, e2, _, w2⟩ := DataW.trod_int Try.underlying30 g2
        simp only [show (Try.prog).cellsOf 3 = 1 by kernel_rfl, show (Try.prog).cellsOf 30 = 1 by kernel_rfl, show (Try.prog).cellsOf 29 = 1 by kernel_rfl] at e0 e1 e2 g3
        simp at e0 e1 e2 g3
        subst e0 e1 e2
        have hz : 0 ≤ z ∧ z ≤ 18446744073709551615 := by simpa [Lit.wf, IntKind.min, IntKind.max, IntKind.signed, IntKind.bits] using w2
        obtain ⟨zn, rfl⟩ := Int.eq_ofNat_of_zero_le hz.1
        obtain ⟨A2, n2, k2, xs, rfl, z1, z2, z3⟩ := open_wc10 g3
        have a0 := hcell 0 (by omega)
        have a1 := hcell 1 (by omega)
        have a2 := hcell 2 (by omega)
        have a3 := hcell 3 (by omega)
        rw [Go.Deep.add_add] at a0 a1 a2 a3
        exact ⟨⟨x, y, zn, A2, n2, k2, xs⟩, by simpa using a0, by simpa using a1, by simpa using a2, by simpa using a3, by simp only; omega, z1, z2, z3⟩
    haveI : Inhabited Act10 := ⟨⟨0, 0, 0, none, 0, 0, []⟩⟩
    obtain ⟨q, hq⟩ := Go.Deep.choose_lt each
    refine ⟨some a, len, cap, q, rfl, fun hn => ?_⟩
    obtain ⟨b, off, spot⟩ := a
    have hspot : spot = none := by
      have := (hq 0 hn).1
      simpa [Addr.add] using World.cell?_spot this
    subst hspot
    refine ⟨b, off, rfl, ?_, fun k hk => ?_⟩
    · have := (hq 0 hn).1
      simpa [Addr.add] using World.block_lt_of_cell? W _ this
    · have h3 := hq k hk
      simp only [Go.WideShapes.add_plain] at h3
      simpa only [Nat.add_assoc] using h3
end Go.Proofs.Ytodbmpbhjbknlaa
