/-
  Random words, as they are told: sources are made, words are added; the document's 'the same words'; a nil source; the chapter's example.
-/
import Derived.Test.YtodbmpbhjbknlaaSrcA
namespace Go.Proofs.Ytodbmpbhjbknlaa
open Go.RowKit
set_option maxRecDepth 100000

/-- A list of words, of the call's own from 'base' on. -/
def RetQ (base : Nat) (w : World) (xs : List Nat) (en : Ending) (w' : World) : Prop :=
  ∃ A n c, en = .returned (.slice A n c) ∧ xs.length = n ∧ n ≤ c ∧ w'.ownsRow base 30 1 (.slice A n c) n (wds xs) ∧ Below w.heap.size w w'

set_option maxHeartbeats 1000000 in
theorem clone64_any (A : Option Addr) (xs : List Nat) (n c : Nat) (w : World) (hl : xs.length = n) (hr : Rq w w.heap.size A xs) (hn : n ≤ 10000000) :
    Calls Try.prog 37 #[.slice A n c] w (RetQ w.heap.size w xs) := by
  have HL := Lib.hid hl
  have hni := nil64_is
  have hnn := nil64_not
  clear hl
  cases A with
  | none =>
    obtain rfl := hr.none_nil
    obtain rfl : n = 0 := by simpa using HL.out.symm
    go_enter Try.func37, Try.ntmps37
    go_wp2
    go_ret
    exact ⟨none, 0, 0, rfl, rfl, Nat.le_refl _, World.ownsRow_nil _ _ _ _, Below.refl _ _⟩
  | some ad =>
    have HO := Lib.hid (made7 w w.heap.size (Nat.le_refl _) 30)
    have HR := Lib.hid (Rv.alloc hr (Nat.le_refl _) (.cells #[] 30))
    have HM : Hid ((wds xs).length = n) := Lib.hid (by rw [wds_length]; exact HL.out)
    have hba := b1' w (.cells #[] 30)
    go_enter Try.func37, Try.ntmps37
    go_wp2_with (at_builtin; go_loud (refine wpList_append_rv _ rfl (.tmp 5) (.tmp 6) 29 rfl w.heap.size 30 (.int .u64 0) 8 Try.underlying29 info_w8 rfl (by omega) (.slice (some ⟨w.heap.size, 0, none⟩) 0 0) 0 [] rfl HO.out w.heap.size (some ad) n (wds xs) _ HM.out rfl HR.out (wds_one xs) (by omega) (by simp) ?_); intro A' c' w1 hc1 hown1 hg1 hbl1)
    go_ret
    rw [List.nil_append, Nat.zero_add] at hown1
    rw [Nat.zero_add] at hc1
    exact ⟨A', n, c', rfl, HL.out, hc1, hown1.out, hba.grown hg1 (by simp) (by intro k hk; simp [Value.ownBlock] at hk; omega)⟩

end Go.Proofs.Ytodbmpbhjbknlaa
