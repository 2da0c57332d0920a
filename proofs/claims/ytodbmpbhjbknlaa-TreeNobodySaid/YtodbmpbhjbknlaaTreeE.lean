/-
  A tree of sums: the weights as a slice of the tree's own; weights that are laid over it, and noughts behind them; All.
-/
import Derived.Test.YtodbmpbhjbknlaaTreeD
import Derived.Laws.CopyRow
import Derived.Laws.IdiomCopy
namespace Go.Proofs.Ytodbmpbhjbknlaa
open Go.RowKit
set_option maxRecDepth 100000

/-- Sums with others laid over them from a place on. -/
def ovr10 (S : Nat → Nat) (o : Nat) (ys : List Nat) : Nat → Nat := fun k => if o ≤ k ∧ k < o + ys.length then nth ys (k - o) else S k
theorem ovr10_in {S : Nat → Nat} {o : Nat} {ys : List Nat} {k : Nat} (h : k < ys.length) : ovr10 S o ys (o + k) = nth ys k := by
  unfold ovr10
  rw [if_pos (by omega), show o + k - o = k by omega]
theorem ovr10_out {S : Nat → Nat} {o : Nat} {ys : List Nat} {k : Nat} (h : k < o ∨ o + ys.length ≤ k) : ovr10 S o ys k = S k := by
  unfold ovr10
  rw [if_neg (by omega)]

/-- A row of words is laid over the tree's sums. -/
theorem Tr.row {w : World} {g n s : Nat} {S : Nat → Nat} (h : Tr w g n s S) (o : Nat) (ys : List Nat) (ho : o + ys.length ≤ 8192) :
    ∃ cs : Array Value, w.heap[g]? = some (.cells cs 50 (0, 0)) ∧ o + (wds ys).length ≤ cs.size ∧ Tr (w.setRow g (cs.toList.take o ++ wds ys ++ cs.toList.drop (o + (wds ys).length)).toArray) g n s (ovr10 S o ys) ∧
      w.grownBy (w.setRow g (cs.toList.take o ++ wds ys ++ cs.toList.drop (o + (wds ys).length)).toArray) (some g) := by
  obtain ⟨cs, h1, h2, h3, h4, h5⟩ := h
  have hl := wds_length ys
  have get : ∀ k, (cs.toList.take o ++ wds ys ++ cs.toList.drop (o + (wds ys).length)).toArray[k]? = if o ≤ k ∧ k < o + ys.length then (wds ys)[k - o]? else cs[k]? := fun k => by
    rw [List.getElem?_toArray, List.append_assoc]
    by_cases c1 : k < o
    · rw [if_neg (by omega), List.getElem?_append_left (by simp [h2]; omega), List.getElem?_take_of_lt c1]
      simp
    · have e1 : (cs.toList.take o).length = o := by simp [h2]; omega
      rw [List.getElem?_append_right (by omega), e1]
      by_cases c2 : k < o + ys.length
      · rw [if_pos (by omega), List.getElem?_append_left (by omega)]
      · rw [if_neg (by omega), List.getElem?_append_right (by omega), List.getElem?_drop, hl]
        rw [show o + ys.length + (k - o - ys.length) = k by omega]
        simp
  refine ⟨cs, h1, by omega, ⟨_, setRow_heap w g cs _ _ _ h1, ?_, fun k hk => ?_, ?_, ?_⟩, ⟨rfl, rfl, rfl, by simp, fun k _ hk => setRow_other w g k _ (fun e => hk (by rw [e]))⟩⟩
  · simp [h2, hl]
    omega
  · rw [get k]
    unfold ovr10
    split
    · next hc => exact wds_get (by omega)
    · exact h3 k hk
  · rw [get 8192, if_neg (by omega)]
    exact h4
  · rw [get 8193, if_neg (by omega)]
    exact h5

theorem size_w10 : (Try.prog.info? 30).map (·.size) = some 1 := by kernel_rfl
/-- copy onto the tree's weights. -/
theorem copy10 {w : World} {g n s : Nat} {S : Nat → Nat} (h : Tr w g n s S) (A : Option Addr) (ys : List Nat) (m c : Nat) (hm : ys.length = m) (hr : Rq w w.heap.size A ys) (hmn : m ≤ n) (hn : n ≤ 4096) :
    ∃ w', (∀ ty, (Builtin.copy_ #[29, 29] ty #[.slice (some ⟨g, 4096, none⟩) n 4096, .slice A m c]).run Try.prog w = .ok (goInt m) w') ∧ Tr w' g n s (ovr10 S 4096 ys) ∧ w.grownBy w' (some g) := by
  rcases Nat.eq_zero_or_pos m with h0 | h0
  · subst h0
    obtain rfl : ys = [] := List.eq_nil_of_length_eq_zero hm
    refine ⟨w, fun ty => run_copy_none w _ _ ty 30 _ A n 4096 0 c Try.underlying29 size_w10 (Nat.zero_min n), h.same (fun i _ => (ovr10_out (by simp; omega)).symm), World.grownBy.refl _ _⟩
  · obtain ⟨cs, h1, h2, h3, h4⟩ := h.row 4096 ys (by omega)
    obtain ⟨b, o, rfl, _, _⟩ := Rq.at_ hr (show 0 < ys.length by omega)
    have hl := wds_length ys
    refine ⟨_, fun ty => ?_, h3, h4⟩
    have hc := run_copy_row (P := Try.prog) w 29 29 ty 30 g 4096 n 4096 ⟨b, o, none⟩ m c cs 50 (wds ys) Try.underlying29 size_w10 h1 (by rw [hl, hm]; exact (Nat.min_eq_left hmn).symm) (fun j v hj => by
      obtain ⟨b', o', e, _, h5⟩ := Rv.at_ hr hj
      injection e with e
      injection e with e1 e2
      subst e1 e2
      rw [← h5]
      unfold Addr.add
      split
      · next h0 => subst h0; rfl
      · rfl) h2 (wds_one ys)
    rw [hl, hm] at hc
    rw [hl, hm]
    exact hc
/-- clear of what lies behind them. -/
theorem clear10 {w : World} {g n s : Nat} {S : Nat → Nat} (h : Tr w g n s S) (B : Option Addr) (m c : Nat) (hmn : m ≤ n) (hn : n ≤ 4096) (hB : m < n → B = some ⟨g, 4096 + m, none⟩) :
    ∃ w', (∀ ty, (Builtin.clear_ #[29] ty #[.slice B (n - m) c]).run Try.prog w = .ok (.tuple #[]) w') ∧ Tr w' g n s (ovr10 S (4096 + m) (List.replicate (n - m) 0)) ∧ w.grownBy w' (some g) := by
  rcases Nat.eq_zero_or_pos (n - m) with h0 | h0
  · rw [h0]
    refine ⟨w, fun ty => ?_, h.same (fun i _ => (ovr10_out (by simp; omega)).symm), World.grownBy.refl _ _⟩
    cases B <;> simp [Builtin.clear_, run_underlying Try.underlying29]
  · obtain rfl := hB (by omega)
    obtain ⟨cs, h1, h2, h3, h4⟩ := h.row (4096 + m) (List.replicate (n - m) 0) (by simp; omega)
    refine ⟨_, fun ty => ?_, h3, h4⟩
    have hst := run_storeCells_at (P := Try.prog) g (4096 + m) 50 (wds (List.replicate (n - m) 0)) 0 cs w h1 (by rw [Nat.add_zero]; exact h2) (wds_one _)
    have hz : ∀ W, (zeroValue 30).run Try.prog W = .ok (.int .u64 0) W := fun W => by
      obtain ⟨i, hi, hz, _⟩ := info_parts info_w8
      simp [zeroValue, typeInfo, hi, hz]
    have hzc : (Builtin.zeroCells (Value.int .u64 0).cells (n - m)).toList = wds (List.replicate (n - m) 0) := by
      simp [Builtin.zeroCells, Value.cells, wds]
      apply List.ext_getElem
      · simp
      · intro i h1 h2
        simp [Nat.mod_one]
    obtain ⟨d, hd⟩ : ∃ d, n - m = d + 1 := ⟨n - m - 1, by omega⟩
    rw [Nat.add_zero] at hst
    rw [← hzc] at hst ⊢
    rw [hd] at hst ⊢
    simp [Builtin.clear_, run_underlying Try.underlying29, hz, hst]
/-- own[m:]. -/
theorem cut10 (g n m : Nat) (hmn : m ≤ n) (hn : n ≤ 4096) : ∃ B, (∀ W, (Instr.slice 29 (.slice (some ⟨g, 4096, none⟩) n 4096) (some (.int .i64 (m : Int))) none none).run Try.prog W = .ok (.slice B (n - m) (4096 - m)) W) ∧ (m < n → B = some ⟨g, 4096 + m, none⟩) := by
  refine ⟨if 4096 = m then some ⟨g, 4096, none⟩ else (some (⟨g, 4096, none⟩ : Addr)).map (·.add m), fun W => ?_, fun h => ?_⟩
  · simp [go_sem, show (m : Int) ≤ (n : Int) by omega, run_slice_l]
  · rw [if_neg (by omega)]
    simp [Addr.add]

theorem weights10_any {g n s : Nat} {S : Nat → Nat} (w : World) (h : Tr w g n s S) (hn : n ≤ 4096) : Calls Try.prog 34 #[.pointer (some ⟨g, 0, none⟩)] w fun e w' => e = .returned (.slice (some ⟨g, 4096, none⟩) n 4096) ∧ w.grownBy w' none := by
  have hc := h.places
  obtain ⟨k, hk⟩ : ∃ k, 4096 + n = k := ⟨_, rfl⟩
  have hw : IntKind.i64.wrap (4096 + (n : Int)) = (k : Int) := by rw [IntKind.wrap_i64]; omega
  have hal : Try.prog.arrayLen 48 = 8192 := by simp [Program.arrayLen, Try.underlying48]
  have hsl : ∀ W, (Instr.sliceAt 48 (.pointer (some ⟨g, 0, none⟩)) (some (.int .i64 4096)) (some (.int .i64 (k : Int))) none).run Try.prog W = .ok (.slice (some ⟨g, 4096, none⟩) n 4096) W := fun W => by
    rw [run_sliceAt_array_lh W 48 ⟨g, 0, none⟩ (by simp [Program.arrayLen, Program.elem, Try.underlying48]) .i64 .i64 4096 (k : Int) (by omega) (by omega) (by rw [hal]; omega), hal]
    go_simp
    omega
  clear h hk
  go_enter Try.func34, Try.ntmps34
  go_wp2_with fail
  go_region
  go_wp2_with fail
  go_ret
  exact ⟨rfl, grown7_drew _ _⟩
end Go.Proofs.Ytodbmpbhjbknlaa
