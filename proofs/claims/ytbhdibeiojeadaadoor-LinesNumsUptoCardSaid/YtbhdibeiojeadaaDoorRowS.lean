/-
  A slice of texts, and a slice of such slices, as an argument, opened.
-/
import Derived.Test.YtbhdibeiojeadaaDoorRow
import Derived.Test.YtbhdibeiojeadaaDoorMemV
import Derived.Test.YtbhdibeiojeadaaDoorL6E
import Derived.Deep.Strs
namespace Go.Proofs.YtbhdibeiojeadaaDoor
open Go.ChangeShapes Go.WideShapes Go.ChangeAt Go.RowKit
set_option maxRecDepth 100000

theorem add_at (b o k : Nat) : (⟨b, o, none⟩ : Addr).add k = ⟨b, o + k, none⟩ := by
  rw [Go.WideShapes.add_plain]
/-- A slice of texts, wherever it lies. -/
theorem open_strc {H : Type} {enc : TypeId × Value → H} {W : World} {v : Value} {n : Nat} {x : DataW H × List MemPlace} (h : DataW.trod enc Tryd.prog W 0 (fun _ => true) true n 22 [v] = some x) :
    ∃ (A : Option Addr) (n c : Nat) (ss : List ByteArray), v = .slice A n c ∧ ss.length = n ∧ n ≤ c ∧ n ≤ maxLen ∧ Rs W A ss ∧ (∀ k, (ss.getD k ⟨#[]⟩).size ≤ maxLen) ∧
      ((x.1 = .nil ∧ n = 0) ∨ ∃ spare, x.1 = .slice (ss.map fun s => .lit (.string s.data.toList)) spare) := by
  rcases Go.Deep.open_strs Tryd.underlying22 Tryd.underlying9 (by kernel_rfl) h with ⟨hcs, hx⟩ | ⟨a, len, cap, m, Sx, hcs, hb, hl, hm, hmm, hx, hel⟩
  · simp at hcs
    subst hcs
    exact ⟨none, 0, 0, [], rfl, rfl, Nat.le_refl _, by simp, Rv.nil _ _ _, fun k => by simp; exact Nat.zero_le _, .inl ⟨by rw [hx], rfl⟩⟩
  · simp at hcs
    subst hcs
    simp only [if_true] at hmm
    refine ⟨some a, len, cap, (List.range len).map Sx, rfl, by simp, hl, by omega, fun hne => ?_, fun k => ?_, .inr ⟨_, by rw [hx]; simp only [List.map_map]; rfl⟩⟩
    · have hpos : 0 < len := by
        rcases Nat.eq_zero_or_pos len with h0 | h0
        · subst h0; exact absurd rfl hne
        · exact h0
      have h0 := hel 0 (by omega)
      obtain ⟨b, off, spot⟩ := a
      have hspot : spot = none := by simpa [Addr.add] using World.cell?_spot h0.1
      subst hspot
      refine ⟨b, off, rfl, ?_, fun k v hk => ?_⟩
      · have := World.block_lt_of_cell? W _ h0.1
        simpa [Addr.add] using this
      · have hk2 : k < len := by
          have := (List.getElem?_eq_some_iff.1 hk).1
          simpa [strs] using this
        have h3 := (hel k (by omega)).1
        rw [add_at] at h3
        rw [h3]
        simpa [strs, List.getElem?_range hk2] using hk
    · by_cases hk : k < len
      · simp only [List.getD_eq_getElem?_getD, List.getElem?_map, List.getElem?_range hk, Option.map_some, Option.getD_some]
        exact (hel k (by omega)).2
      · rw [List.getD_eq_getElem?_getD, List.getElem?_eq_none (by simp; omega), Option.getD_none]
        exact Nat.zero_le _
theorem open_strsA {H : Type} {enc : TypeId × Value → H} {W : World} {base : Nat} {v : Value} {d : DataW H} {p : List MemPlace} (hv : Value.okWide Tryd.prog W .any base 22 v) (h : DataW.Trod enc Tryd.prog W 0 (fun _ => true) true 22 v d p) :
    ∃ (A : Option Addr) (n c : Nat) (ss : List ByteArray), v = .slice A n c ∧ ss.length = n ∧ n ≤ c ∧ n ≤ maxLen ∧ Rs W A ss ∧ (∀ k, (ss.getD k ⟨#[]⟩).size ≤ maxLen) ∧
      ((d = .nil ∧ n = 0) ∨ ∃ spare, d = .slice (ss.map fun s => .lit (.string s.data.toList)) spare) := by
  obtain ⟨a0, len, cap, rfl⟩ := okWide_slice Tryd.underlying22 hv
  obtain ⟨fuel, hf⟩ := h
  exact open_strc hf

theorem open_linesA {H : Type} {enc : TypeId × Value → H} {W : World} {base : Nat} {v : Value} {d : DataW H} {p : List MemPlace} (hv : Value.okWide Tryd.prog W .any base 36 v) (h : DataW.Trod enc Tryd.prog W 0 (fun _ => true) true 36 v d p) :
    ∃ (A : Option Addr) (n c : Nat) (L : List (List ByteArray)), v = .slice A n c ∧ L.length = n ∧ n ≤ c ∧ n ≤ maxLen ∧ Lns W A L ∧ (∀ k, (L.getD k []).length ≤ maxLen) ∧ (∀ k j, ((L.getD k []).getD j ⟨#[]⟩).size ≤ maxLen) ∧
      ((d = .nil ∧ n = 0) ∨ ∃ D spare, d = .slice ((List.range n).map D) spare ∧ ∀ k, k < n → (D k = .nil ∧ L.getD k [] = []) ∨ ∃ sp, D k = .slice ((L.getD k []).map fun s => .lit (.string s.data.toList)) sp) := by
  obtain ⟨a0, len, cap, rfl⟩ := okWide_slice Tryd.underlying36 hv
  obtain ⟨fuel, hf⟩ := h
  rcases Go.Deep.open_slice1 Tryd.underlying36 (by kernel_rfl) hf with ⟨hcs, hx⟩ | ⟨a, len', cap', m, n, V, D, Pl, hcs, hb, hl, hm, hmm, hx, hel⟩
  · simp [Value.cells] at hcs
    obtain ⟨rfl, rfl, rfl⟩ := hcs
    simp only [Prod.mk.injEq] at hx
    exact ⟨none, 0, 0, [], rfl, rfl, Nat.le_refl _, by simp, fun hne => absurd rfl hne, fun k => by simp, fun k j => by simp; exact Nat.zero_le _, .inl ⟨hx.1, rfl⟩⟩
  · simp [Value.cells] at hcs
    obtain ⟨rfl, rfl, rfl⟩ := hcs
    simp only [if_true] at hmm
    simp only [Prod.mk.injEq] at hx
    have each : ∀ i, i < len → ∃ ss : List ByteArray, ∃ A1 c1, W.cell? (a.add i) = some (.slice A1 ss.length c1) ∧ ss.length ≤ c1 ∧ ss.length ≤ maxLen ∧ Rs W A1 ss ∧ (∀ k, (ss.getD k ⟨#[]⟩).size ≤ maxLen) ∧
        ((D i = .nil ∧ ss = []) ∨ ∃ sp, D i = .slice (ss.map fun s => .lit (.string s.data.toList)) sp) := by
      intro i hi
      obtain ⟨h1, h2⟩ := hel i (by omega)
      obtain ⟨A1, n1, c1, ss, e1, e2, e3, e4, e5, e6, e7⟩ := open_strc h2
      subst e2
      rw [e1] at h1
      refine ⟨ss, A1, c1, h1, e3, e4, e5, e6, ?_⟩
      rcases e7 with ⟨g1, g2⟩ | g
      · exact .inl ⟨g1, List.eq_nil_of_length_eq_zero g2⟩
      · exact .inr g
    obtain ⟨q, hq⟩ := Go.Deep.choose_lt each
    have hget : ∀ k, k < len → ((List.range len).map q).getD k [] = q k := fun k hk => by
      simp only [List.getD_eq_getElem?_getD, List.getElem?_map, List.getElem?_range hk, Option.map_some, Option.getD_some]
    have hgetn : ∀ k, ¬ k < len → ((List.range len).map q).getD k [] = [] := fun k hk => by
      rw [List.getD_eq_getElem?_getD, List.getElem?_eq_none (by simp; omega), Option.getD_none]
    refine ⟨some a, len, cap, (List.range len).map q, rfl, by simp, hl, by omega, fun hne => ?_, fun k => ?_, fun k j => ?_, .inr ⟨D, _, hx.1, fun k hk => ?_⟩⟩
    · have hpos : 0 < len := by
        rcases Nat.eq_zero_or_pos len with h0 | h0
        · subst h0; exact absurd rfl hne
        · exact h0
      obtain ⟨A1, c1, h0, _⟩ := hq 0 (by omega)
      obtain ⟨b, off, spot⟩ := a
      have hspot : spot = none := by simpa [Addr.add] using World.cell?_spot h0
      subst hspot
      refine ⟨b, off, rfl, ?_, fun k hk => ?_⟩
      · have := World.block_lt_of_cell? W _ h0
        simpa [Addr.add] using this
      · have hk2 : k < len := by simpa using hk
        obtain ⟨A1, c1, h3, h4, _, h5, _⟩ := hq k hk2
        rw [add_at] at h3
        rw [hget k hk2]
        exact ⟨A1, c1, h3, h4, h5⟩
    · by_cases hk : k < len
      · obtain ⟨_, _, _, _, h5, _⟩ := hq k hk
        rw [hget k hk]; exact h5
      · rw [hgetn k hk]; simp
    · by_cases hk : k < len
      · obtain ⟨_, _, _, _, _, _, h6, _⟩ := hq k hk
        rw [hget k hk]; exact h6 j
      · rw [hgetn k hk]; simp; exact Nat.zero_le _
    · obtain ⟨_, _, _, _, _, _, _, h7⟩ := hq k hk
      rw [hget k hk]; exact h7
end Go.Proofs.YtbhdibeiojeadaaDoor
