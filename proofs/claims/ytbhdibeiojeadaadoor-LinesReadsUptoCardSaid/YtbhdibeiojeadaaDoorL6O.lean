/-
  Lines: texts of lines come back.
-/
import Derived.Test.YtbhdibeiojeadaaDoorL6N
namespace Go.Proofs.YtbhdibeiojeadaaDoor
open Go.RowKit
set_option maxRecDepth 100000

/-- The first n lines' bytes. -/
def tl (L : List (List ByteArray)) (n : Nat) : List (List UInt8) := (List.range n).map fun k => (lineT (L.getD k [])).data.toList
theorem tl_succ (L : List (List ByteArray)) (n : Nat) : tl L (n + 1) = tl L n ++ [(lineT (L.getD n [])).data.toList] := by
  unfold tl; rw [List.range_succ, List.map_append]; rfl
theorem textTo_bl (L : List (List ByteArray)) (n : Nat) : (textTo L n).data.toList = joinB 10 (tl L n ++ [[]]) := by
  induction n with
  | zero => rfl
  | succ n ih =>
    simp only [textTo]
    rw [app_bytes, app_bytes, ih, tl_succ]
    rw [joinB_snoc 10 (tl L n ++ [(lineT (L.getD n [])).data.toList]) (by simp)]
    rcases hn : tl L n with _ | ⟨y, q⟩
    · rfl
    · rw [joinB_snoc 10 (y :: q) (by simp), joinB_snoc 10 (y :: q) (by simp)]
      simp
theorem firstB_zero {p : Nat → Bool} {n : Nat} : ∀ d, d ≤ n → firstB p n d = 0 → ∀ j, n - d ≤ j → j < n → p j = false := by
  intro d
  induction d with
  | zero => intro _ _ j h1 h2; omega
  | succ d ih =>
    intro h1 h2 j hj1 hj2
    unfold firstB at h2
    cases hp : p (n - (d + 1)) with
    | true => rw [hp, if_pos rfl] at h2; omega
    | false =>
      rw [hp, if_neg (by simp)] at h2
      rcases Nat.lt_or_ge (n - (d + 1)) j with h | h
      · exact ih (by omega) h2 j (by omega) hj2
      · obtain rfl : j = n - (d + 1) := by omega
        exact hp
theorem readN_good {ps : List ByteArray} (h : readN ps = 0) : ∀ j, j < ps.length → badL ps j = false := fun j hj => firstB_zero _ (Nat.le_refl _) h j (by omega) hj
theorem bl_getD (ps : List ByteArray) (k : Nat) (hk : k < ps.length) : (bl ps)[k]? = some (ps.getD k ⟨#[]⟩).data.toList := by
  simp [bl, List.getElem?_eq_getElem hk]
/-- What was read is written as it stood. -/
theorem read_back (t : ByteArray) (hN : readN (cutTo 10 t.data.toList t.size) = 0) (ht : t.size ≤ 65536) :
    writeE (readL (cutTo 10 t.data.toList t.size)) = 0 ∧ writeT (readL (cutTo 10 t.data.toList t.size)) = t ∧ textTo (readL (cutTo 10 t.data.toList t.size)) (readL (cutTo 10 t.data.toList t.size)).length = t := by
  have hlen := (cutTo_len 10 t.data.toList t.size).1
  have hall := cut_all 10 t
  obtain ⟨ps, hps⟩ : ∃ ps, cutTo 10 t.data.toList t.size = ps := ⟨_, rfl⟩
  rw [hps] at hN hlen hall ⊢
  have hg := readN_good hN
  have hlast : ps.getD (ps.length - 1) ⟨#[]⟩ = ⟨#[]⟩ := by
    have := hg (ps.length - 1) (by omega)
    unfold badL at this
    rw [if_neg (by omega)] at this
    simpa using this
  have htl : tl (readL ps) (readL ps).length ++ [[]] = bl ps := by
    rw [readL_len]
    apply List.ext_getElem?
    intro i
    rcases Nat.lt_or_ge i (ps.length - 1) with h | h
    · rw [List.getElem?_append_left (by simp [tl]; omega), bl_getD ps i (by omega)]
      simp only [tl, List.getElem?_map, List.getElem?_range h, Option.map_some]
      rw [readL_get h, line_back]
    · rcases Nat.lt_or_ge i ps.length with h2 | h2
      · obtain rfl : i = ps.length - 1 := by omega
        rw [bl_getD ps _ h2, hlast, List.getElem?_append_right (by simp [tl])]
        simp [tl]
      · rw [List.getElem?_eq_none (by simp [tl]; omega), List.getElem?_eq_none (by simp [bl]; omega)]
  have htx : textTo (readL ps) (readL ps).length = t := by
    apply ba_inj
    rw [textTo_bl, htl, hall, join_cut]
  have hlines : (readL ps).all lineB = true := lines_yes (fun j hj => by
    rw [readL_len] at hj
    rw [readL_get hj]
    have := hg j (by omega)
    unfold badL at this
    rw [if_pos (by omega)] at this
    unfold lineB
    have h2 : wordsB (lineOf (ps.getD j ⟨#[]⟩)) = true := by simpa using this
    rw [h2, Bool.and_true]
    have h3 := (cutTo_len 32 (ps.getD j ⟨#[]⟩).data.toList (ps.getD j ⟨#[]⟩).size).1
    unfold lineOf
    cases h4 : cutTo 32 (ps.getD j ⟨#[]⟩).data.toList (ps.getD j ⟨#[]⟩).size with
    | nil => rw [h4] at h3; simp at h3
    | cons _ _ => rfl)
  have hE : writeE (readL ps) = 0 := by unfold writeE; rw [hlines, if_pos rfl, htx, if_neg (by omega)]
  exact ⟨hE, by unfold writeT; rw [hE, htx]; rfl, htx⟩
theorem all_at {L : List (List ByteArray)} (h : L.all lineB = true) {k : Nat} (hk : k < L.length) : lineB (L.getD k []) = true := by
  rw [List.all_eq_true] at h
  rw [List.getD_eq_getElem?_getD, List.getElem?_eq_getElem hk, Option.getD_some]
  exact h _ (List.getElem_mem hk)
/-- What was written is read. -/
theorem write_back (L : List (List ByteArray)) (hE : writeE L = 0) : (writeT L).size ≤ 65536 ∧ readN (cutTo 10 (writeT L).data.toList (writeT L).size) = 0 ∧ readL (cutTo 10 (writeT L).data.toList (writeT L).size) = L := by
  have hall : L.all lineB = true := by
    cases h : L.all lineB with
    | true => rfl
    | false => unfold writeE at hE; rw [h] at hE; cases hE
  have hW : writeT L = textTo L L.length := by unfold writeT; rw [hE]; rfl
  have hsz : (textTo L L.length).size ≤ 65536 := by
    unfold writeE at hE
    rw [hall] at hE
    rcases Nat.lt_or_ge 65536 (textTo L L.length).size with h | h
    · rw [if_pos rfl, if_pos h] at hE; cases hE
    · exact h
  rw [hW]
  have hcut := cut_all 10 (textTo L L.length)
  have hno : ∀ x ∈ tl L L.length ++ [[]], ∀ b ∈ x, b ≠ 10 := by
    intro x hx b hb
    rcases List.mem_append.1 hx with hx | hx
    · simp only [tl, List.mem_map, List.mem_range] at hx
      obtain ⟨k, hk, rfl⟩ := hx
      have hl := all_at hall hk
      unfold lineB at hl
      rw [Bool.and_eq_true] at hl
      rw [joinTo_bl] at hb
      have key : ∀ (r : List (List UInt8)), (∀ x ∈ r, ∀ b ∈ x, b ≠ 10) → ∀ b ∈ joinB 32 r, b ≠ 10 := by
        intro r
        induction r with
        | nil => intro _ b hb; simp [joinB] at hb
        | cons x r ih =>
          intro h b hb
          cases r with
          | nil => exact h x (by simp) b hb
          | cons y r =>
            have hb' : b ∈ x ++ 32 :: joinB 32 (y :: r) := hb
            rcases List.mem_append.1 hb' with h1 | h1
            · exact h x (by simp) b h1
            · rcases List.mem_cons.1 h1 with h2 | h2
              · rw [h2]; decide
              · exact ih (fun z hz => h z (by simp [hz])) b h2
      refine key _ (fun x hx b hb => ?_) b hb
      simp only [bl, List.mem_map] at hx
      obtain ⟨s, hs, rfl⟩ := hx
      have h2 := hl.2
      unfold wordsB at h2
      exact (wordb_no (List.all_eq_true.1 h2 s hs) b hb).2
    · simp at hx; subst hx; simp at hb
  rw [textTo_bl, cut_join 10 _ (by simp) hno, ← textTo_bl] at hcut
  obtain ⟨ps, hps⟩ : ∃ ps, cutTo 10 (textTo L L.length).data.toList (textTo L L.length).size = ps := ⟨_, rfl⟩
  rw [hps] at hcut ⊢
  have hpl : ps.length = L.length + 1 := by have := congrArg List.length hcut; simpa [bl, tl] using this
  have hget : ∀ k, k < L.length → ps.getD k ⟨#[]⟩ = lineT (L.getD k []) := fun k hk => by
    apply ba_inj
    have h1 := bl_getD ps k (by omega)
    rw [hcut, List.getElem?_append_left (by simp [tl]; omega)] at h1
    simp only [tl, List.getElem?_map, List.getElem?_range hk, Option.map_some, Option.some.injEq] at h1
    exact h1.symm
  have hend : ps.getD L.length ⟨#[]⟩ = ⟨#[]⟩ := by
    apply ba_inj
    have h1 := bl_getD ps L.length (by omega)
    have h2 : (tl L L.length ++ [[]])[L.length]? = some [] := by rw [List.getElem?_append_right (by simp [tl])]; simp [tl]
    rw [hcut, h2, Option.some.injEq] at h1
    exact h1.symm
  refine ⟨hsz, readN_none (fun j hj => ?_), ?_⟩
  · unfold badL
    rcases Nat.lt_or_ge j L.length with h | h
    · have hl := all_at hall h
      rw [if_pos (by omega), hget j h, words_back hl]
      unfold lineB at hl
      rw [Bool.and_eq_true] at hl
      rw [hl.2]; rfl
    · obtain rfl : j = L.length := by omega
      rw [if_neg (by omega), hend]; rfl
  · apply list_ext2
    · rw [readL_len]; omega
    · intro j hj
      rw [readL_len] at hj
      rw [readL_get hj, hget j (by omega), words_back (all_at hall (by omega))]
end Go.Proofs.YtbhdibeiojeadaaDoor
