/-
  A number in digits of 32 bits, opened; a text, opened; what the laid table reads as.
  A slice of fractions as an argument, opened.
-/
import Derived.Test.YtaifigkbblncpaaGreatDoorRow
import Derived.Test.YtaifigkbblncpaaGreatDoorMA
import Derived.Test.YtaifigkbblncpaaGreatDoorNatN
import Derived.Test.YtaifigkbblncpaaGreatDoorCards
import Derived.Test.YtaifigkbblncpaaGreatDoorTie
import Derived.Deep.DeepHandedRow
import Derived.Lib.LaidTab
import Derived.Deep.SlicePairs
namespace Go.Proofs.YtaifigkbblncpaaGreatDoor
open Go.ChangeShapes Go.WideShapes Go.ChangeAt Go.RowKit
set_option maxRecDepth 100000

/-- A number in digits of 32 bits, opened. -/
theorem open_nat {H : Type} {enc : TypeId × Value → H} {W : World} {base : Nat} {v : Value} {d : DataW H} {p : List MemPlace} (hv : Value.okWide Tryz.prog W .any base 23 v) (h : DataW.Trod enc Tryz.prog W 0 (fun _ => true) true 23 v d p) :
    ∃ (A : Option Addr) (n c : Nat) (xs : List Nat), v = .slice A n c ∧ xs.length = n ∧ n ≤ c ∧ Ra W W.heap.size A xs ∧ Dg xs ∧ n ≤ maxLen := by
  obtain ⟨a0, len, cap, rfl⟩ := okWide_slice Tryz.underlying23 hv
  obtain ⟨fuel, hf⟩ := h
  rcases open_ints Tryz.underlying23 Tryz.underlying53 (by kernel_rfl) hf with ⟨hcs, hx⟩ | ⟨a, len', cap', zs, hcs, hlc, hl, hm, hz, hx, hcell, hwz⟩
  · simp [Value.cells] at hcs
    obtain ⟨rfl, rfl, rfl⟩ := hcs
    exact ⟨none, 0, 0, [], rfl, rfl, Nat.le_refl _, Ra.nil _ _ _, Dg.nil, by simp⟩
  · simp [Value.cells] at hcs
    obtain ⟨rfl, rfl, rfl⟩ := hcs
    simp only [if_true] at hz
    have bnd : ∀ z ∈ zs, 0 ≤ z ∧ z ≤ 4294967295 := fun z hz' => by
      have h5 := hwz z hz'
      simpa [Lit.wf, IntKind.min, IntKind.max, IntKind.signed, IntKind.bits] using h5
    have hlen : ((zs.take len).map Int.toNat).length = len := by simp; omega
    refine ⟨some a, len, cap, (zs.take len).map Int.toNat, rfl, hlen, hl, fun hne => ?_, fun x hx => ?_, by omega⟩
    · have hpos : 0 < zs.length := by
        rcases Nat.eq_zero_or_pos zs.length with h0 | h0
        · rw [List.eq_nil_of_length_eq_zero h0] at hne; simp at hne
        · exact h0
      obtain ⟨b, off, rfl, hc⟩ := ints_at hcell hpos
      refine ⟨b, off, rfl, ?_, fun k hk => ?_⟩
      · have := hc 0 hpos
        exact World.block_lt_of_cell? W _ this
      · rw [hlen] at hk
        rw [hc k (by omega), nth_in (by omega)]
        have hb := bnd zs[k] (List.getElem_mem (by omega))
        simp only [List.getElem_map, List.getElem_take, List.getD_eq_getElem?_getD, List.getElem?_eq_getElem (show k < zs.length by omega), Option.getD_some]
        rw [Int.toNat_of_nonneg hb.1]
    · obtain ⟨z, hz', rfl⟩ := List.mem_map.1 hx
      have hb := bnd z (List.mem_of_mem_take hz')
      omega

theorem g_tab : Tryz.prog.globalNamed "internal/strconv.uint64pow10" = some 4 := by kernel_rfl
end Go.Proofs.YtaifigkbblncpaaGreatDoor

namespace Go.Proofs.YtaifigkbblncpaaGreatDoor
open Go.ChangeShapes Go.WideShapes Go.ChangeAt Go.RowKit
set_option maxRecDepth 100000

theorem open_natc {H : Type} {enc : TypeId × Value → H} {W : World} {v : Value} {n : Nat} {x : DataW H × List MemPlace} (h : DataW.trod enc Tryz.prog W 0 (fun _ => true) true n 23 [v] = some x) :
    ∃ (A : Option Addr) (n c : Nat) (xs : List Nat), v = .slice A n c ∧ xs.length = n ∧ n ≤ c ∧ Ra W W.heap.size A xs ∧ Dg xs := by
  rcases open_ints Tryz.underlying23 Tryz.underlying53 (by kernel_rfl) h with ⟨hcs, hx⟩ | ⟨a, len', cap', zs, hcs, hlc, hl, hm, hz, hx, hcell, hwz⟩
  · simp at hcs
    subst hcs
    exact ⟨none, 0, 0, [], rfl, rfl, Nat.le_refl _, Ra.nil _ _ _, Dg.nil⟩
  · simp at hcs
    subst hcs
    simp only [if_true] at hz
    have bnd : ∀ z ∈ zs, 0 ≤ z ∧ z ≤ 4294967295 := fun z hz' => by
      have h5 := hwz z hz'
      simpa [Lit.wf, IntKind.min, IntKind.max, IntKind.signed, IntKind.bits] using h5
    have hlen : ((zs.take len').map Int.toNat).length = len' := by simp; omega
    refine ⟨some a, len', cap', (zs.take len').map Int.toNat, rfl, hlen, hl, fun hne => ?_, fun x hx => ?_⟩
    · have hpos : 0 < zs.length := by
        rcases Nat.eq_zero_or_pos zs.length with h0 | h0
        · rw [List.eq_nil_of_length_eq_zero h0] at hne; simp at hne
        · exact h0
      obtain ⟨b, off, rfl, hc⟩ := ints_at hcell hpos
      refine ⟨b, off, rfl, ?_, fun k hk => ?_⟩
      · have := hc 0 hpos
        exact World.block_lt_of_cell? W _ this
      · rw [hlen] at hk
        rw [hc k (by omega), nth_in (by omega)]
        have hb := bnd zs[k] (List.getElem_mem (by omega))
        simp only [List.getElem_map, List.getElem_take, List.getD_eq_getElem?_getD, List.getElem?_eq_getElem (show k < zs.length by omega), Option.getD_some]
        rw [Int.toNat_of_nonneg hb.1]
    · obtain ⟨z, hz', rfl⟩ := List.mem_map.1 hx
      have hb := bnd z (List.mem_of_mem_take hz')
      omega

/-- The slice at A reads as n fractions of the digits X k by Y k. -/
def Fracs (W : World) (A : Option Addr) (n : Nat) (X Y : Nat → List Nat) : Prop :=
  ∀ k, k < n → ∃ b o A1 n1 c1 A2 n2 c2, A = some ⟨b, o, none⟩ ∧ b < W.heap.size ∧ W.cell? ⟨b, o + k * 2, none⟩ = some (.slice A1 n1 c1) ∧ W.cell? ⟨b, o + k * 2 + 1, none⟩ = some (.slice A2 n2 c2) ∧
    ((X k).length = n1 ∧ n1 ≤ c1 ∧ Ra W W.heap.size A1 (X k) ∧ Dg (X k)) ∧ ((Y k).length = n2 ∧ n2 ≤ c2 ∧ Ra W W.heap.size A2 (Y k) ∧ Dg (Y k))
theorem Fracs.below {W W' : World} {A : Option Addr} {n : Nat} {X Y : Nat → List Nat} (h : Fracs W A n X Y) (hb : Below W.heap.size W W') : Fracs W' A n X Y := fun k hk => by
  obtain ⟨b, o, A1, n1, c1, A2, n2, c2, h1, h2, h3, h4, ⟨h5, h6, h7, h8⟩, h9, h10, h11, h12⟩ := h k hk
  exact ⟨b, o, A1, n1, c1, A2, n2, c2, h1, Nat.lt_of_lt_of_le h2 hb.size, (hb.cell (p := ⟨b, o + k * 2, none⟩) h2).trans h3, (hb.cell (p := ⟨b, o + k * 2 + 1, none⟩) h2).trans h4, ⟨h5, h6, (h7.below hb (Nat.le_refl _)).more hb.size, h8⟩, h9, h10, (h11.below hb (Nat.le_refl _)).more hb.size, h12⟩

theorem open_fracs {H : Type} {enc : TypeId × Value → H} {W : World} {base : Nat} {v : Value} {d : DataW H} {p : List MemPlace} (hv : Value.okWide Tryz.prog W .any base 50 v) (h : DataW.Trod enc Tryz.prog W 0 (fun _ => true) true 50 v d p) :
    ∃ (A : Option Addr) (n c : Nat) (X Y : Nat → List Nat), v = .slice A n c ∧ Fracs W A n X Y ∧ n ≤ maxLen := by
  obtain ⟨a0, len, cap, rfl⟩ := okWide_slice Tryz.underlying50 hv
  obtain ⟨fuel, hf⟩ := h
  rcases Go.Deep.open_slice_pairs Tryz.underlying50 Tryz.underlying25 (by kernel_rfl) (by kernel_rfl) (by kernel_rfl) (by kernel_rfl) (by kernel_rfl) hf with ⟨hcs, hx⟩ | ⟨a, len', cap', m, n, V0, V1, D0, D1, P0, P1, hcs, hb, hl, hm, hmm, hx, hel⟩
  · simp [Value.cells] at hcs
    obtain ⟨rfl, rfl, rfl⟩ := hcs
    exact ⟨none, 0, 0, fun _ => [], fun _ => [], rfl, fun k hk => absurd hk (by omega), by simp⟩
  · simp [Value.cells] at hcs
    obtain ⟨rfl, rfl, rfl⟩ := hcs
    simp only [if_true] at hmm
    have each : ∀ i, i < len → ∃ q : List Nat × List Nat, ∃ A1 n1 c1 A2 n2 c2, W.cell? (a.add (i * 2)) = some (.slice A1 n1 c1) ∧ W.cell? (a.add (i * 2 + 1)) = some (.slice A2 n2 c2) ∧
        (q.1.length = n1 ∧ n1 ≤ c1 ∧ Ra W W.heap.size A1 q.1 ∧ Dg q.1) ∧ (q.2.length = n2 ∧ n2 ≤ c2 ∧ Ra W W.heap.size A2 q.2 ∧ Dg q.2) := by
      intro i hi
      obtain ⟨h1, h2, h3, h4⟩ := hel i (by omega)
      obtain ⟨A1, n1, c1, xs, e1, f1⟩ := open_natc h3
      obtain ⟨A2, n2, c2, ys, e2, f2⟩ := open_natc h4
      rw [e1] at h1
      rw [e2] at h2
      exact ⟨(xs, ys), A1, n1, c1, A2, n2, c2, h1, h2, f1, f2⟩
    obtain ⟨q, hq⟩ := Go.Deep.choose_lt each
    refine ⟨some a, len, cap, fun k => (q k).1, fun k => (q k).2, rfl, fun k hk => ?_, by omega⟩
    obtain ⟨A1, n1, c1, A2, n2, c2, h1, h2, h3, h4⟩ := hq k hk
    obtain ⟨b, off, spot⟩ := a
    have hspot : spot = none := by
      obtain ⟨_, _, _, _, _, _, h5, _⟩ := hq 0 (by omega)
      simpa [Addr.add] using World.cell?_spot h5
    subst hspot
    simp only [Go.WideShapes.add_plain] at h1 h2
    exact ⟨b, off, A1, n1, c1, A2, n2, c2, rfl, by simpa using World.block_lt_of_cell? W _ h1, h1, by simpa only [Nat.add_assoc] using h2, h3, h4⟩

/-- A fraction as an argument, opened. -/
theorem open_frac {H : Type} {enc : TypeId × Value → H} {W : World} {base : Nat} {v : Value} {d : DataW H} {p : List MemPlace} (hv : Value.okWide Tryz.prog W .any base 25 v) (h : DataW.Trod enc Tryz.prog W 0 (fun _ => true) true 25 v d p) :
    ∃ (A1 : Option Addr) (n1 c1 : Nat) (xs : List Nat) (A2 : Option Addr) (n2 c2 : Nat) (ys : List Nat), v = .agg #[.slice A1 n1 c1, .slice A2 n2 c2] ∧ (xs.length = n1 ∧ n1 ≤ c1 ∧ Ra W W.heap.size A1 xs ∧ Dg xs) ∧ (ys.length = n2 ∧ n2 ≤ c2 ∧ Ra W W.heap.size A2 ys ∧ Dg ys) := by
  obtain ⟨v0, v1, y0, y1, m, rfl, _, _, h0, h1⟩ := Go.Joins.open_agg2 Tryz.underlying25 (by kernel_rfl) (by kernel_rfl) hv h
  obtain ⟨A1, n1, c1, xs, rfl, f1⟩ := open_natc h0
  obtain ⟨A2, n2, c2, ys, rfl, f2⟩ := open_natc h1
  exact ⟨A1, n1, c1, xs, A2, n2, c2, ys, rfl, f1, f2⟩

end Go.Proofs.YtaifigkbblncpaaGreatDoor
