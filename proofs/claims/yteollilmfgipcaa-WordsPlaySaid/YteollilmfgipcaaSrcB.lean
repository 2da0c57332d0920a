/-
  Random words, as they are told: sources are made, words are added; the document's 'the same words'; a nil source; the chapter's example.
-/
import Derived.Test.YteollilmfgipcaaSrcA
namespace Go.Proofs.Yteollilmfgipcaa
open Go.RowKit
set_option maxRecDepth 100000

/-- A list of words, of the call's own from 'base' on. -/
def RetQ (base : Nat) (w : World) (xs : List Nat) (en : Ending) (w' : World) : Prop :=
  ∃ A n c, en = .returned (.slice A n c) ∧ xs.length = n ∧ n ≤ c ∧ w'.ownsRow base 27 1 (.slice A n c) n (wds xs) ∧ Below w.heap.size w w'

set_option maxHeartbeats 1000000 in
theorem clone64_any (A : Option Addr) (xs : List Nat) (n c : Nat) (w : World) (hl : xs.length = n) (hr : Rq w w.heap.size A xs) (hn : n ≤ 10000000) :
    Calls Try.prog 16 #[.slice A n c] w (RetQ w.heap.size w xs) := by
  have HL := Lib.hid hl
  have hni := nil64_is
  have hnn := nil64_not
  clear hl
  cases A with
  | none =>
    obtain rfl := hr.none_nil
    obtain rfl : n = 0 := by simpa using HL.out.symm
    go_enter Try.func16, Try.ntmps16
    go_wp2
    go_ret
    exact ⟨none, 0, 0, rfl, rfl, Nat.le_refl _, World.ownsRow_nil _ _ _ _, Below.refl _ _⟩
  | some ad =>
    have HO := Lib.hid (made7 w w.heap.size (Nat.le_refl _) 27)
    have HR := Lib.hid (Rv.alloc hr (Nat.le_refl _) (.cells #[] 27))
    have HM : Hid ((wds xs).length = n) := Lib.hid (by rw [wds_length]; exact HL.out)
    have hba := b1' w (.cells #[] 27)
    go_enter Try.func16, Try.ntmps16
    go_wp2_with (at_builtin; go_loud (refine wpList_append_rv _ rfl (.tmp 5) (.tmp 6) 22 rfl w.heap.size 27 (.int .u64 0) 8 Try.underlying22 info_w8 rfl (by omega) (.slice (some ⟨w.heap.size, 0, none⟩) 0 0) 0 [] rfl HO.out w.heap.size (some ad) n (wds xs) _ HM.out rfl HR.out (wds_one xs) (by omega) (by simp) ?_); intro A' c' w1 hc1 hown1 hg1 hbl1)
    go_ret
    rw [List.nil_append, Nat.zero_add] at hown1
    rw [Nat.zero_add] at hc1
    exact ⟨A', n, c', rfl, HL.out, hc1, hown1.out, hba.grown hg1 (by simp) (by intro k hk; simp [Value.ownBlock] at hk; omega)⟩

/-- A new source. -/
def RetS (w : World) (xs : List Nat) (p : Nat) (en : Ending) (w' : World) : Prop :=
  ∃ g b, en = .returned (.pointer (some ⟨g, 0, none⟩)) ∧ w.heap.size ≤ g ∧ Src w' w.heap.size g b xs p ∧ Below w.heap.size w w'

theorem src_made {w w1 : World} {xs : List Nat} {A : Option Addr} {n c p : Nat} (hl : xs.length = n) (hc : n ≤ c) (hown : w1.ownsRow w.heap.size 27 1 (.slice A n c) n (wds xs)) (hb : Below w.heap.size w w1) (hp : p ≤ n) (hn : n ≤ 1000000) {en : Ending}
    (he : en = .returned (.pointer (some ⟨w1.heap.size, 0, none⟩))) : RetS w xs p en (w1.alloc (.cells #[.slice A n c, .int .i64 (p : Int)] 43)) :=
  ⟨w1.heap.size, _, he, hb.size, ⟨A, n, c, Blk.new _ _ _, hown.alloc _, rfl, hl, hc, hp, hn⟩, hb.alloc hb.size _⟩

set_option maxHeartbeats 1000000 in
theorem new_any (A : Option Addr) (xs : List Nat) (n c : Nat) (w : World) (hl : xs.length = n) (hr : Rq w w.heap.size A xs) (hn : n ≤ 1000000) :
    Calls Try.prog 6 #[.slice A n c] w (RetS w xs 0) := by
  have HC := Lib.hid (clone64_any A xs n c w hl hr (by omega))
  have hxl := hl
  clear hl hr
  go_enter Try.func6, Try.ntmps6
  go_wp2_with fail
  refine HC.out.mono ?_
  rintro e w1 ⟨A1, n1, c1, rfl, hl1, hc1, hown1, hb1⟩
  have HL1 := Lib.hid hl1
  have HO1 := Lib.hid hown1
  have hn1 : n1 ≤ 1000000 := by rw [← hl1, hxl]; exact hn
  clear hl1 hown1 HC
  go_wp2_with fail
  go_ret
  exact src_made (p := 0) HL1.out hc1 HO1.out hb1 (Nat.zero_le _) hn1 rfl

set_option maxHeartbeats 1000000 in
theorem all_any {L g : Nat} {b : Option Nat} {xs : List Nat} {p : Nat} (w : World) (h : Src w L g b xs p) : Calls Try.prog 13 #[.pointer (some ⟨g, 0, none⟩)] w (RetQ w.heap.size w xs) := by
  obtain ⟨A, n, c, hb, ho, _, hl, _, hpn, hn⟩ := h
  have c0 := hb.cell 0
  have HC := Lib.hid (clone64_any A xs n c w hl (Rq.of_own ho) (by omega))
  clear hb ho hl
  go_enter Try.func13, Try.ntmps13
  go_wp2_with fail
  refine HC.out.mono ?_
  rintro e w1 ⟨A1, n1, c1, rfl, hl1, hc1, hown1, hb1⟩
  have HL1 := Lib.hid hl1
  have HO1 := Lib.hid hown1
  clear hl1 hown1 HC
  go_wp2_with fail
  go_ret
  exact ⟨A1, n1, c1, rfl, HL1.out, hc1, HO1.out, hb1⟩

set_option maxHeartbeats 2000000 in
theorem fork_any {L g : Nat} {b : Option Nat} {xs : List Nat} {p : Nat} (w : World) (h : Src w L g b xs p) : Calls Try.prog 11 #[.pointer (some ⟨g, 0, none⟩)] w (RetS w xs p) := by
  obtain ⟨A, n, c, hb, ho, _, hl, _, hpn, hn⟩ := h
  have c0 : w.cell? ⟨g, 0, none⟩ = some (.slice A n c) := hb.cell 0
  have c1 : w.cell? ⟨g, 1, none⟩ = some (.int .i64 (p : Int)) := hb.cell 1
  have hgl := hb.lt
  have HB := Lib.hid hb
  have HLX := Lib.hid hl
  have HC := Lib.hid (clone64_any A xs n c w.drew hl ((Rq.of_own ho : Rq w _ A xs)) (by omega))
  clear hb ho hl
  go_enter Try.func11, Try.ntmps11
  go_wp2_with fail
  go_region_held3 (fun W => W.cell? ⟨g, 0, none⟩ = some (.slice A n c) ∧ W.cell? ⟨g, 1, none⟩ = some (.int .i64 (p : Int)))
    (first | exact ⟨c0, c1⟩ | assumption | exact hS2 _)
    (first
      | (go_at_call 16; (with_reducible refine HC.out.mono ?_); rintro e w1 ⟨A1, n1, c1', rfl, hl1, hc1, hown1, hb0⟩; have hb1 : Below w.heap.size w w1 := ((Below.refl w.heap.size w).drew).trans hb0; have HL1 := Lib.hid hl1; have HO1 := Lib.hid hown1; have HB1 := Lib.hid (HB.out.below hb1 hgl); have hS1 : w1.cell? ⟨g, 0, none⟩ = some (.slice A n c) ∧ w1.cell? ⟨g, 1, none⟩ = some (.int .i64 (p : Int)) := ⟨HB1.out.cell 0, HB1.out.cell 1⟩; have hS2 : ∀ o : Obj, (w1.alloc o).cell? ⟨g, 0, none⟩ = some (.slice A n c) ∧ (w1.alloc o).cell? ⟨g, 1, none⟩ = some (.int .i64 (p : Int)) := fun o => ⟨(HB1.out.alloc o).cell 0, (HB1.out.alloc o).cell 1⟩; clear hl1 hown1))
  go_wp2_with fail
  go_ret
  exact src_made (w := w) (p := p) (n := n1) HL1.out hc1 HO1.out hb1 (by have := HL1.out; have := HLX.out; omega) (by have := HL1.out; have := HLX.out; omega) rfl

set_option maxHeartbeats 1000000 in
theorem add7_any {L g : Nat} {b : Option Nat} {xs : List Nat} {p : Nat} (B : Option Addr) (ys : List Nat) (m d : Nat) (w : World) (h : Src w L g b xs p) (hL : L ≤ w.heap.size) (hm : ys.length = m) (hr : Rq w w.heap.size B ys) (hn : xs.length + m ≤ 1000000) :
    Calls Try.prog 10 #[.pointer (some ⟨g, 0, none⟩), .slice B m d] w fun en w' =>
      en = .returned (.tuple #[]) ∧ ∃ b' wm, Src w' L g b' (xs ++ ys) p ∧ w.grownBy wm b ∧ wm.grownBy w' (some g) ∧ (b' = b ∨ b' = some w.heap.size) := by
  have HS := Lib.hid h
  obtain ⟨A, n, c, hb, ho, hrow, hl, hc, hpn, hn2⟩ := h
  have c0 : w.cell? ⟨g, 0, none⟩ = some (.slice A n c) := hb.cell 0
  have HB := Lib.hid hb
  have HO := Lib.hid ho
  have HR := Lib.hid hr
  have HRW := Lib.hid hrow
  have HM : Hid ((wds ys).length = m) := Lib.hid (by rw [wds_length]; exact hm)
  have HN : Hid (n + m ≤ 1000000) := Lib.hid (by omega)
  have HLM : Hid (xs.length = n ∧ ys.length = m) := Lib.hid ⟨hl, hm⟩
  clear hb ho hr hl hm hrow
  go_enter Try.func10, Try.ntmps10
  go_wp2_with (at_builtin; go_loud (refine wpList_append_rv _ rfl (.tmp 10) (.tmp 11) 22 rfl L 27 (.int .u64 0) 8 Try.underlying22 info_w8 rfl (by omega) (.slice A n c) n (wds xs) rfl HO.out w.heap.size B m (wds ys) _ HM.out rfl HR.out (wds_one ys) (by have := HN.out; omega) hL ?_); intro A' c' w1 hc1 hown1 hg1 hbl1; have HB1 : Hid (Blk w1 g 43 #[.slice A n c, .int .i64 (p : Int)]) := Lib.hid (HB.out.grown hg1 (fun e => HS.out.apart (HRW.out.symm.trans e.symm))); have c1 := HB1.out.cell 0; have f1 := HB1.out.frozen 0; have HG1 := Lib.hid hg1; have HBL := Lib.hid hbl1; clear hg1 hbl1)
  go_end0
  refine ⟨rfl, _, w1, ⟨A', n + m, c', HB1.out.set_ 0 _, (wds_append xs ys).symm ▸ hown1.out.kept (grown7_set w1 g 0 _) (.inr (own7_ne hown1.out HB1.out src_types)), rfl, ?_, hc1, by omega, by have := HN.out; omega⟩, HRW.out ▸ HG1.out, grown7_set w1 g 0 _, ?_⟩
  · rw [List.length_append, HLM.out.1, HLM.out.2]
  · rw [← HRW.out]; exact HBL.out
end Go.Proofs.Yteollilmfgipcaa
