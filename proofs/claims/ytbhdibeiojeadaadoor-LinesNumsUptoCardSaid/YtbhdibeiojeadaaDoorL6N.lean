/-
  Lines: what was written is read, what was read is written as it stood.
-/
import Derived.Test.YtbhdibeiojeadaaDoorL6M
namespace Go.Proofs.YtbhdibeiojeadaaDoor
open Go.RowKit
set_option maxRecDepth 100000

def bl (ss : List ByteArray) : List (List UInt8) := ss.map fun s => s.data.toList
theorem ba_inj {s t : ByteArray} (h : s.data.toList = t.data.toList) : s = t := by
  cases s; cases t
  simpa using congrArg List.toArray h
theorem bl_inj {a b : List ByteArray} (h : bl a = bl b) : a = b := by
  have hl : a.length = b.length := by have := congrArg List.length h; simpa [bl] using this
  apply List.ext_getElem hl
  intro i h1 h2
  have h3 : (bl a)[i]? = (bl b)[i]? := by rw [h]
  simp only [bl, List.getElem?_map, List.getElem?_eq_getElem h1, List.getElem?_eq_getElem h2, Option.map_some, Option.some.injEq] at h3
  exact ba_inj h3
theorem app_bytes (s t : ByteArray) : (s ++ t).data.toList = s.data.toList ++ t.data.toList := by
  rw [ByteArray.data_append, Array.toList_append]
theorem set_last {α : Type} (r : List α) (x : α) (h : r ≠ []) : r.set (r.length - 1) x = r.dropLast ++ [x] := by
  obtain ⟨q, y, hq⟩ : ∃ q y, r = q ++ [y] := ⟨_, _, (List.dropLast_concat_getLast h).symm⟩
  rw [hq, List.dropLast_concat, List.length_append, List.length_singleton, Nat.add_sub_cancel, List.set_append_right _ _ (Nat.le_refl _), Nat.sub_self]
  rfl
theorem getD_last {α : Type} (r : List α) (d : α) (h : r ≠ []) : r.getD (r.length - 1) d = r.getLastD d := by
  obtain ⟨q, y, hq⟩ : ∃ q y, r = q ++ [y] := ⟨_, _, (List.dropLast_concat_getLast h).symm⟩
  rw [hq, List.getLastD_concat, List.length_append, List.length_singleton, Nat.add_sub_cancel, List.getD_eq_getElem?_getD, List.getElem?_append_right (Nat.le_refl _), Nat.sub_self]
  rfl
theorem bl_last (r : List ByteArray) (h : r ≠ []) : (r.getLastD ⟨#[]⟩).data.toList = (bl r).getLastD [] := by
  obtain ⟨q, y, hq⟩ : ∃ q y, r = q ++ [y] := ⟨_, _, (List.dropLast_concat_getLast h).symm⟩
  rw [hq, List.getLastD_concat]
  simp [bl, List.getLastD_concat]
theorem cutTo_bl (c : UInt8) (l : List UInt8) (k : Nat) (hk : k ≤ l.length) : bl (cutTo c l k) = cutB c (l.take k) := by
  induction k with
  | zero => rfl
  | succ k ih =>
    have h1 : l.take (k + 1) = l.take k ++ [l.getD k 0] := by
      rw [List.getD_eq_getElem?_getD, List.getElem?_eq_getElem (by omega), Option.getD_some, ← List.take_append_getElem (by omega)]
    have hne : cutTo c l k ≠ [] := by
      intro e
      have := (cutTo_len c l k).1
      rw [e] at this; simp at this
    rw [h1, cutB_snoc, ← ih (by omega)]
    simp only [cutTo]
    unfold stepB
    split
    · simp [bl]
    · rw [set_last _ _ hne, getD_last _ _ hne]
      unfold bl
      rw [List.map_append, List.map_dropLast, List.map_singleton, app_bytes, bl_last _ hne]
      rfl
theorem cut_all (c : UInt8) (s : ByteArray) : bl (cutTo c s.data.toList s.size) = cutB c s.data.toList := by
  rw [cutTo_bl c _ _ (by rw [ba_len]; exact Nat.le_refl _), List.take_of_length_le (by rw [ba_len]; exact Nat.le_refl _)]
theorem joinTo_congr {f g : Nat → ByteArray} {n : Nat} (h : ∀ k, k < n → f k = g k) : joinTo f n = joinTo g n := by
  induction n with
  | zero => rfl
  | succ n ih =>
    simp only [joinTo]
    rw [ih (fun k hk => h k (by omega)), h n (by omega)]
theorem joinTo_bl (ss : List ByteArray) : (lineT ss).data.toList = joinB 32 (bl ss) := by
  have key : ∀ (n : Nat) (ss : List ByteArray), ss.length = n → (joinTo (fun k => ss.getD k ⟨#[]⟩) n).data.toList = joinB 32 (bl ss) := by
    intro n
    induction n with
    | zero => intro ss hl; obtain rfl := List.eq_nil_of_length_eq_zero hl; rfl
    | succ n ih =>
      intro ss hl
      obtain ⟨r, x, rfl⟩ : ∃ r x, ss = r ++ [x] := ⟨ss.dropLast, ss.getLast (by intro e; subst e; simp at hl), (List.dropLast_concat_getLast _).symm⟩
      have hr : r.length = n := by simpa using hl
      have h1 := ih r hr
      have h2 : joinTo (fun k => (r ++ [x]).getD k ⟨#[]⟩) n = joinTo (fun k => r.getD k ⟨#[]⟩) n := joinTo_congr (fun k hk => by
        simp only [List.getD_eq_getElem?_getD]
        rw [List.getElem?_append_left (by omega)])
      have h3 : (r ++ [x]).getD n ⟨#[]⟩ = x := by
        rw [List.getD_eq_getElem?_getD, List.getElem?_append_right (by omega), hr, Nat.sub_self]; rfl
      simp only [joinTo]
      rw [h2, h3]
      rcases Nat.eq_zero_or_pos n with h0 | h0
      · subst h0
        obtain rfl := List.eq_nil_of_length_eq_zero hr
        rw [if_pos rfl, app_bytes]
        rfl
      · have hbne : bl r ≠ [] := by intro e; have := congrArg List.length e; simp [bl] at this; rw [this] at hr; simp at hr; omega
        rw [if_neg (by omega), app_bytes, app_bytes, h1]
        have : bl (r ++ [x]) = bl r ++ [x.data.toList] := by simp [bl]
        rw [this, joinB_snoc 32 _ hbne]
        simp
  exact key _ ss rfl
/-- A line's words, joined, are the line. -/
theorem line_back (s : ByteArray) : lineT (lineOf s) = s := by
  apply ba_inj
  rw [joinTo_bl]
  unfold lineOf
  rw [cut_all, join_cut]
theorem wordb_no {s : ByteArray} (h : wordB s.data.toList = true) : ∀ b ∈ s.data.toList, b ≠ 32 ∧ b ≠ 10 := by
  intro b hb
  unfold wordB at h
  rw [Bool.and_eq_true, List.all_eq_true] at h
  have := h.2 b hb
  unfold wB at this
  simp only [Bool.and_eq_true, decide_eq_true_eq] at this
  exact ⟨by rintro rfl; have := this.1; simp at this, by rintro rfl; have := this.1; simp at this⟩
/-- Words, joined, are cut again. -/
theorem words_back {ss : List ByteArray} (h : lineB ss = true) : lineOf (lineT ss) = ss := by
  unfold lineB at h
  rw [Bool.and_eq_true] at h
  obtain ⟨h1, h2⟩ := h
  have hne : ss ≠ [] := by rintro rfl; simp at h1
  apply bl_inj
  unfold lineOf
  rw [cut_all, joinTo_bl]
  refine cut_join 32 _ (by intro e; have := congrArg List.length e; simp [bl] at this; exact hne this) ?_
  intro x hx b hb
  simp only [bl, List.mem_map] at hx
  obtain ⟨s, hs, rfl⟩ := hx
  unfold wordsB at h2
  exact (wordb_no (List.all_eq_true.1 h2 s hs) b hb).1
end Go.Proofs.YtbhdibeiojeadaaDoor
