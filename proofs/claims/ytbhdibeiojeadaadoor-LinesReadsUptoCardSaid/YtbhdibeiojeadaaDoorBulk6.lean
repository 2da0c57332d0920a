/-
  Lines: what the bound on all that comes in says of texts, words and lines.
-/
import Derived.Test.YtbhdibeiojeadaaDoorRowS
import Derived.Test.YtbhdibeiojeadaaDoorL6N
import Derived.Test.YtbhdibeiojeadaaDoorL6F
namespace Go.Proofs.YtbhdibeiojeadaaDoor
set_option maxRecDepth 100000

theorem bk_one {H : Type} (d : DataW H) : 1 ≤ Rows.uptoBulk d := by
  cases d with
  | lit l => cases l <;> simp [Rows.uptoBulk]
  | nil => simp [Rows.uptoBulk]
  | ptr d => simp [Rows.uptoBulk]
  | slice elems spare => simp [Rows.uptoBulk]
  | agg parts => simp [Rows.uptoBulk]
  | iface t d => simp [Rows.uptoBulk]
  | map entries => simp [Rows.uptoBulk]
  | held h => simp [Rows.uptoBulk]
theorem bk_part {H : Type} {d : DataW H} {l : List (DataW H)} (h : d ∈ l) : Rows.uptoBulk d ≤ Rows.uptoBulkAll l := by
  induction l with
  | nil => cases h
  | cons x r ih =>
    simp only [Rows.uptoBulkAll]
    cases List.mem_cons.1 h with
    | inl e => subst e; omega
    | inr e => have := ih e; omega
theorem bk_app {H : Type} (l r : List (DataW H)) : Rows.uptoBulkAll (l ++ r) = Rows.uptoBulkAll l + Rows.uptoBulkAll r := by
  induction l with
  | nil => simp [Rows.uptoBulkAll]
  | cons x l ih => simp only [List.cons_append, Rows.uptoBulkAll, ih]; omega
theorem bk_len {H : Type} (l : List (DataW H)) : l.length ≤ Rows.uptoBulkAll l := by
  induction l with
  | nil => simp [Rows.uptoBulkAll]
  | cons x r ih => have := bk_one x; simp only [Rows.uptoBulkAll, List.length_cons]; omega
theorem bk_two {H : Type} {d0 d1 : DataW H} (hk : Rows.uptoSmall H [d0, d1] = true) : Rows.uptoBulk d0 + Rows.uptoBulk d1 ≤ 1048576 := by
  have h := of_decide_eq_true hk
  simp only [Rows.uptoBulkAll] at h
  omega
theorem bk_str {H : Type} (bs : List UInt8) : Rows.uptoBulk (DataW.lit (H := H) (.string bs)) = bs.length + 1 := by simp [Rows.uptoBulk]
theorem bk_slice {H : Type} (elems spare : List (DataW H)) : Rows.uptoBulkAll elems + 1 ≤ Rows.uptoBulk (.slice elems spare) := by
  simp only [Rows.uptoBulk]
  omega
/-- The data of words. -/
def wd (H : Type) (ss : List ByteArray) : List (DataW H) := ss.map fun s => .lit (.string s.data.toList)
theorem join_le (c : UInt8) : ∀ r : List (List UInt8), (joinB c r).length ≤ (r.map fun x => x.length + 1).sum
  | [] => by simp [joinB]
  | [x] => by simp [joinB]
  | x :: y :: r => by
    have := join_le c (y :: r)
    simp only [joinB, List.length_append, List.length_cons, List.map_cons, List.sum_cons] at this ⊢
    omega
theorem wd_sum (H : Type) (ss : List ByteArray) : Rows.uptoBulkAll (wd H ss) = ((bl ss).map fun x => x.length + 1).sum := by
  induction ss with
  | nil => rfl
  | cons s r ih =>
    have h1 : Rows.uptoBulkAll (wd H (s :: r)) = (s.data.toList.length + 1) + Rows.uptoBulkAll (wd H r) := by
      show Rows.uptoBulkAll (.lit (.string s.data.toList) :: wd H r) = _
      simp only [Rows.uptoBulkAll, bk_str]
    rw [h1, ih]
    simp [bl]
theorem wd_line (H : Type) (ss : List ByteArray) : (lineT ss).size ≤ Rows.uptoBulkAll (wd H ss) := by
  rw [wd_sum, ← ba_len, joinTo_bl]
  exact join_le 32 (bl ss)
theorem wd_len (H : Type) (ss : List ByteArray) : ss.length ≤ Rows.uptoBulkAll (wd H ss) := by
  have := bk_len (wd H ss)
  rwa [show (wd H ss).length = ss.length by simp [wd]] at this
theorem wd_word (H : Type) (ss : List ByteArray) (j : Nat) : (ss.getD j ⟨#[]⟩).size ≤ Rows.uptoBulkAll (wd H ss) := by
  by_cases hj : j < ss.length
  · rw [List.getD_eq_getElem?_getD, List.getElem?_eq_getElem hj, Option.getD_some]
    have h1 : (DataW.lit (H := H) (.string (ss[j]).data.toList)) ∈ wd H ss := List.mem_map.2 ⟨ss[j], List.getElem_mem hj, rfl⟩
    have := bk_part h1
    rw [bk_str, ba_len] at this
    omega
  · rw [List.getD_eq_getElem?_getD, List.getElem?_eq_none (by omega), Option.getD_none]
    exact Nat.zero_le _
/-- A list of words, as it comes in. -/
theorem bk_words {H : Type} {d : DataW H} {ss : List ByteArray} {n : Nat} (hl : ss.length = n) (h : (d = .nil ∧ n = 0) ∨ ∃ spare, d = .slice (ss.map fun s => .lit (.string s.data.toList)) spare) :
    n ≤ Rows.uptoBulk d ∧ (lineT ss).size ≤ Rows.uptoBulk d ∧ ∀ j, (ss.getD j ⟨#[]⟩).size ≤ Rows.uptoBulk d := by
  rcases h with ⟨rfl, rfl⟩ | ⟨spare, rfl⟩
  · obtain rfl := List.eq_nil_of_length_eq_zero hl
    exact ⟨by omega, Nat.zero_le _, fun j => Nat.zero_le _⟩
  · have h1 := bk_slice (wd H ss) spare
    have h2 := wd_line H ss
    have h3 := wd_len H ss
    have h0 : Rows.uptoBulk (DataW.slice (ss.map fun s => DataW.lit (H := H) (.string s.data.toList)) spare) = Rows.uptoBulk (.slice (wd H ss) spare) := rfl
    rw [h0]
    exact ⟨by omega, by omega, fun j => by have := wd_word H ss j; omega⟩
theorem bk_text {H : Type} {L : List (List ByteArray)} {D : Nat → DataW H} : ∀ k, (∀ j, j < k → (lineT (L.getD j [])).size + 1 ≤ Rows.uptoBulk (D j)) → (textTo L k).size ≤ Rows.uptoBulkAll ((List.range k).map D)
  | 0, _ => Nat.zero_le _
  | k + 1, h => by
    have h1 := bk_text k (fun j hj => h j (by omega))
    have h2 := textTo_mono L k
    have h3 := h k (by omega)
    rw [List.range_succ, List.map_append, bk_app]
    simp only [List.map_cons, List.map_nil, Rows.uptoBulkAll]
    omega
/-- Lines, as they come in. -/
theorem bk_lines {H : Type} {d : DataW H} {L : List (List ByteArray)} {n : Nat} (hl : L.length = n)
    (h : (d = .nil ∧ n = 0) ∨ ∃ D spare, d = .slice ((List.range n).map D) spare ∧ ∀ k, k < n → (D k = .nil ∧ L.getD k [] = []) ∨ ∃ sp, D k = .slice ((L.getD k []).map fun s => .lit (.string s.data.toList)) sp) :
    n ≤ Rows.uptoBulk d ∧ (textTo L n).size ≤ Rows.uptoBulk d ∧ (∀ k, (L.getD k []).length ≤ Rows.uptoBulk d) ∧ ∀ k j, ((L.getD k []).getD j ⟨#[]⟩).size ≤ Rows.uptoBulk d := by
  rcases h with ⟨rfl, rfl⟩ | ⟨D, spare, rfl, hD⟩
  · obtain rfl := List.eq_nil_of_length_eq_zero hl
    exact ⟨by omega, Nat.zero_le _, fun k => Nat.zero_le _, fun k j => Nat.zero_le _⟩
  · have h1 := bk_slice ((List.range n).map D) spare
    have each : ∀ k, k < n → (lineT (L.getD k [])).size + 1 ≤ Rows.uptoBulk (D k) ∧ (L.getD k []).length ≤ Rows.uptoBulk (D k) ∧ ∀ j, ((L.getD k []).getD j ⟨#[]⟩).size ≤ Rows.uptoBulk (D k) := by
      intro k hk
      rcases hD k hk with ⟨e1, e2⟩ | ⟨sp, e⟩
      · rw [e1, e2]
        exact ⟨Nat.le_refl _, Nat.zero_le _, fun j => Nat.zero_le _⟩
      · have g1 := bk_slice (wd H (L.getD k [])) sp
        have g2 := wd_line H (L.getD k [])
        have g3 := wd_len H (L.getD k [])
        rw [e]
        have h0 : Rows.uptoBulk (DataW.slice ((L.getD k []).map fun s => DataW.lit (H := H) (.string s.data.toList)) sp) = Rows.uptoBulk (.slice (wd H (L.getD k [])) sp) := rfl
        rw [h0]
        exact ⟨by omega, by omega, fun j => by have := wd_word H (L.getD k []) j; omega⟩
    have h2 := bk_text (L := L) (D := D) n (fun j hj => (each j hj).1)
    have h3 := bk_len ((List.range n).map D)
    rw [List.length_map, List.length_range] at h3
    have hin : ∀ k, k < n → Rows.uptoBulk (D k) ≤ Rows.uptoBulkAll ((List.range n).map D) := fun k hk => bk_part (List.mem_map.2 ⟨k, List.mem_range.2 hk, rfl⟩)
    have out : ∀ k, ¬ k < n → L.getD k [] = [] := fun k hk => by rw [List.getD_eq_getElem?_getD, List.getElem?_eq_none (by omega), Option.getD_none]
    refine ⟨by omega, by omega, fun k => ?_, fun k j => ?_⟩
    · by_cases hk : k < n
      · have := (each k hk).2.1; have := hin k hk; omega
      · rw [out k hk]; exact Nat.zero_le _
    · by_cases hk : k < n
      · have := (each k hk).2.2 j; have := hin k hk; omega
      · rw [out k hk]; exact Nat.zero_le _
end Go.Proofs.YtbhdibeiojeadaaDoor
