/-
  Numbers and texts as bytes: the document's reader.
-/
import Derived.Test.YtbogejpjnbdfcaaWireE
import Derived.Deep.RegionHeld3
namespace Go.Proofs.Ytbogejpjnbdfcaa
open Go.RowKit
set_option maxRecDepth 100000

/-- The document's reader lies in block h: the bytes, the place, its error; the bytes lie in a block from L on. -/
def BR (w : World) (L h : Nat) (full : List UInt8) (p : Nat) (e : Int) : Prop :=
  ∃ A n c, Blk w h 44 #[.slice A n c, .int .i64 (p : Int), .int .i64 e] ∧ Rb w h A full ∧ Fb L A full ∧ full.length = n ∧ n ≤ c ∧ p ≤ n ∧ n ≤ 1000000
theorem BR.lt {w : World} {L h : Nat} {full : List UInt8} {p : Nat} {e : Int} (k : BR w L h full p e) : h < w.heap.size := by
  obtain ⟨A, n, c, h1, _⟩ := k
  exact h1.lt
/-- Another block is written that lies below the bytes. -/
theorem BR.other {w w' : World} {L h g : Nat} {full : List UInt8} {p : Nat} {e : Int} (k : BR w L h full p e) (hg : w.grownBy w' (some g)) (hL : g < L) (hh : g ≠ h) : BR w' L h full p e := by
  obtain ⟨A, n, c, h1, h2, h3, h4⟩ := k
  refine ⟨A, n, c, h1.grown hg (by simpa using fun e => hh e.symm), fun hx => ?_, h3, h4⟩
  obtain ⟨b, o, h5, h6, h7⟩ := h2 hx
  obtain ⟨b', o', h8, h9⟩ := h3 hx
  rw [h5] at h8
  injection h8 with h8
  injection h8 with h8
  subst h8
  exact ⟨b, o, h5, h6, fun j hj => hg.cell (h7 j hj) (by simp; omega)⟩
theorem BR.below {w w' : World} {L h : Nat} {full : List UInt8} {p : Nat} {e : Int} (k : BR w L h full p e) (hb : Below w.heap.size w w') : BR w' L h full p e := by
  obtain ⟨A, n, c, h1, h2, h3⟩ := k
  exact ⟨A, n, c, h1.below hb h1.lt, h2.below hb (by have := h1.lt; omega), h3⟩
theorem grown_drew (W : World) (r : Option Nat) : W.grownBy W.drew r := ⟨rfl, rfl, rfl, Nat.le_refl _, fun _ _ _ => rfl⟩
theorem BR.drew {w : World} {L h : Nat} {full : List UInt8} {p : Nat} {e : Int} (k : BR w L h full p e) : BR w.drew L h full p e := k.below ((Below.refl _ _).drew)
theorem BR.set {w : World} {L h : Nat} {full : List UInt8} {p : Nat} {e : Int} (k : BR w L h full p e) (q : Nat) (hq : q ≤ full.length) : BR (w.setCell ⟨h, 1, none⟩ (.int .i64 (q : Int))) L h full q e := by
  obtain ⟨A, n, c, h1, h2, h3, h4, h5, h6, h7⟩ := k
  exact ⟨A, n, c, h1.set_ 1 _, h2.setCell (Nat.le_refl _) _, h3, h4, h5, by omega, h7⟩
theorem BR.brk {w : World} {L h : Nat} {full : List UInt8} {p : Nat} {e : Int} (k : BR w L h full p e) (f : Int) : BR (w.setCell ⟨h, 2, none⟩ (.int .i64 f)) L h full p f := by
  obtain ⟨A, n, c, h1, h2, h3, h4, h5, h6, h7⟩ := k
  exact ⟨A, n, c, h1.set_ 2 _, h2.setCell (Nat.le_refl _) _, h3, h4, h5, h6, h7⟩

set_option maxHeartbeats 1000000 in
theorem refNew_any (A : Option Addr) (xs : List UInt8) (n c : Nat) (w : World) (hl : xs.length = n) (hr : Rb w w.heap.size A xs) (hn : n ≤ 1000000) :
    Calls Try.prog 13 #[.slice A n c] w fun e w' => ∃ h, e = .returned (.pointer (some ⟨h, 0, none⟩)) ∧ w.heap.size ≤ h ∧ BR w' w.heap.size h xs 0 0 ∧ Below w.heap.size w w' := by
  have HL := Lib.hid hl
  have HO := Lib.hid (made8 w w.heap.size (Nat.le_refl _))
  have HR := Lib.hid (hr.alloc (Nat.le_refl _) (.cells #[] 5))
  have hb0 : Below w.heap.size w (w.alloc (.cells #[] 5)) := (Below.refl _ _).alloc (Nat.le_refl _) _
  clear hl hr
  go_enter Try.func13, Try.ntmps13
  go_wp2_with (at_builtin; go_loud (refine wpList_append_u8s _ rfl (.tmp 3) (.tmp 4) 22 rfl w.heap.size 5 Try.underlying22 info_b8 (.slice (some ⟨w.heap.size, 0, none⟩) 0 0) [] rfl HO.out w.heap.size A n xs _ HL.out rfl HR.out (by have := HL.out; simp; omega) (by simp) ?_); intro A' n' c' w1 hl1 hc1 hown1 hg1)
  go_ret
  rw [List.nil_append] at hl1 hown1
  have hbel : Below w.heap.size w w1 := hb0.grown hg1 (by simp) (by intro k hk; simp [Value.ownBlock] at hk; omega)
  exact ⟨w1.heap.size, rfl, hbel.size, ⟨A', n', c', Blk.new _ _ _, (Rb.of_own hown1.out).alloc (Nat.le_refl _) _, Fb.of_own hown1.out, hl1.out, hc1, by omega, by have := hl1.out; have := HL.out; omega⟩, hbel.alloc hbel.size _⟩

theorem fail5_any (L h : Nat) (full : List UInt8) (p q : Nat) (e f : Int) (w : World) (k : BR w L h full p e) (hq : q ≤ full.length) : Calls Try.prog 27 #[.pointer (some ⟨h, 0, none⟩), .int .i64 f, .int .i64 (q : Int)] w fun en w' =>
    en = .returned (.int .u64 0) ∧ BR w' L h full q f ∧ w.grownBy w' (some h) := by
  obtain ⟨A, n, c, h1, h2⟩ := k
  have c1 := h1.cell 1
  have c2 := h1.cell 2
  have f1 := h1.frozen 1
  have f2 := h1.frozen 2
  have c1' := (h1.set_ 2 (.int .i64 f)).cell 1
  have f1' := (h1.set_ 2 (.int .i64 f)).frozen 1
  have HK := Lib.hid (show BR w L h full p e from ⟨A, n, c, h1, h2⟩)
  clear h1 h2
  go_enter Try.func27, Try.ntmps27
  go_wp2_with fail
  go_ret
  exact ⟨rfl, (HK.out.brk f).set q hq, (grown_set w h 2 _).trans (grown_set _ h 1 _)⟩
theorem failp_any (L h : Nat) (full : List UInt8) (p : Nat) (e f : Int) (w : World) (k : BR w L h full p e) : Calls Try.prog 21 #[.pointer (some ⟨h, 0, none⟩), .int .i64 f] w fun en w' =>
    en = .returned (.tuple #[]) ∧ BR w' L h full p (if e = 0 then f else e) ∧ w.grownBy w' (some h) := by
  obtain ⟨A, n, c, h1, h2⟩ := k
  have c2 := h1.cell 2
  have f2 := h1.frozen 2
  have HK := Lib.hid (show BR w L h full p e from ⟨A, n, c, h1, h2⟩)
  clear h1 h2
  by_cases h0 : e = 0
  · subst h0
    go_enter Try.func21, Try.ntmps21
    go_wp2_with fail
    go_end0
    exact ⟨rfl, HK.out.brk f, grown_set w _ 2 _⟩
  · go_enter Try.func21, Try.ntmps21
    go_wp2_with fail
    go_end0
    exact ⟨rfl, HK.out, World.grownBy.refl w _⟩
end Go.Proofs.Ytbogejpjnbdfcaa
