/-
  Random words, as they are told: sources are made, words are added; the document's 'the same words'; a nil source; the chapter's example.
-/
import Derived.Test.YtengcnchjpkhkaaSrcA
namespace Go.Proofs.Ytengcnchjpkhkaa
open Go.RowKit
set_option maxRecDepth 100000

/-- A list of words, of the call's own from 'base' on. -/
def RetQ (base : Nat) (w : World) (xs : List Nat) (en : Ending) (w' : World) : Prop :=
  ∃ A n c, en = .returned (.slice A n c) ∧ xs.length = n ∧ n ≤ c ∧ w'.ownsRow base 22 1 (.slice A n c) n (wds xs) ∧ Below w.heap.size w w'

set_option maxHeartbeats 1000000 in
theorem clone64_any (A : Option Addr) (xs : List Nat) (n c : Nat) (w : World) (hl : xs.length = n) (hr : Rq w w.heap.size A xs) (hn : n ≤ 10000000) :
    Calls Try.prog 34 #[.slice A n c] w (RetQ w.heap.size w xs) := by
  have HL := Lib.hid hl
  have hni := nil64_is
  have hnn := nil64_not
  clear hl
  cases A with
  | none =>
    obtain rfl := hr.none_nil
    obtain rfl : n = 0 := by simpa using HL.out.symm
    go_enter Try.func34, Try.ntmps34
    go_wp2
    go_ret
    exact ⟨none, 0, 0, rfl, rfl, Nat.le_refl _, World.ownsRow_nil _ _ _ _, Below.refl _ _⟩
  | some ad =>
    have HO := Lib.hid (made7 w w.heap.size (Nat.le_refl _) 22)
    have HR := Lib.hid (Rv.alloc hr (Nat.le_refl _) (.cells #[] 22))
    have HM : Hid ((wds xs).length = n) := Lib.hid (by rw [wds_length]; exact HL.out)
    have hba := b1' w (.cells #[] 22)
    go_enter Try.func34, Try.ntmps34
    go_wp2_with (at_builtin; go_loud (refine wpList_append_rv _ rfl (.tmp 5) (.tmp 6) 39 rfl w.heap.size 22 (.int .u64 0) 8 Try.underlying39 info_w8 rfl (by omega) (.slice (some ⟨w.heap.size, 0, none⟩) 0 0) 0 [] rfl HO.out w.heap.size (some ad) n (wds xs) _ HM.out rfl HR.out (wds_one xs) (by omega) (by simp) ?_); intro A' c' w1 hc1 hown1 hg1 hbl1)
    go_ret
    rw [List.nil_append, Nat.zero_add] at hown1
    rw [Nat.zero_add] at hc1
    exact ⟨A', n, c', rfl, HL.out, hc1, hown1.out, hba.grown hg1 (by simp) (by intro k hk; simp [Value.ownBlock] at hk; omega)⟩

/-- A new source. -/
def RetS (w : World) (xs : List Nat) (p : Nat) (en : Ending) (w' : World) : Prop :=
  ∃ g b, en = .returned (.pointer (some ⟨g, 0, none⟩)) ∧ w.heap.size ≤ g ∧ Src w' w.heap.size g b xs p ∧ Below w.heap.size w w'

theorem src_made {w w1 : World} {xs : List Nat} {A : Option Addr} {n c p : Nat} (hl : xs.length = n) (hc : n ≤ c) (hown : w1.ownsRow w.heap.size 22 1 (.slice A n c) n (wds xs)) (hb : Below w.heap.size w w1) (hp : p ≤ n) (hn : n ≤ 1000000) {en : Ending}
    (he : en = .returned (.pointer (some ⟨w1.heap.size, 0, none⟩))) : RetS w xs p en (w1.alloc (.cells #[.slice A n c, .int .i64 (p : Int)] 65)) :=
  ⟨w1.heap.size, _, he, hb.size, ⟨A, n, c, Blk.new _ _ _, hown.alloc _, rfl, hl, hc, hp, hn⟩, hb.alloc hb.size _⟩

set_option maxHeartbeats 1000000 in
theorem new_any (A : Option Addr) (xs : List Nat) (n c : Nat) (w : World) (hl : xs.length = n) (hr : Rq w w.heap.size A xs) (hn : n ≤ 1000000) :
    Calls Try.prog 16 #[.slice A n c] w (RetS w xs 0) := by
  have HC := Lib.hid (clone64_any A xs n c w hl hr (by omega))
  have hxl := hl
  clear hl hr
  go_enter Try.func16, Try.ntmps16
  go_wp2_with fail
  refine HC.out.mono ?_
  rintro e w1 ⟨A1, n1, c1, rfl, hl1, hc1, hown1, hb1⟩
  have HL1 := Lib.hid hl1
  have HO1 := Lib.hid hown1
  have hn1 : n1 ≤ 1000000 := by rw [← hl1, hxl]; exact hn
  clear hl1 hown1 HC
  go_wp2_with fail
  go_ret
  exact src_made (p := 0) HL1.out hc1 HO1.out hb1 (Nat.zero_le _) hn1 rfl

end Go.Proofs.Ytengcnchjpkhkaa
