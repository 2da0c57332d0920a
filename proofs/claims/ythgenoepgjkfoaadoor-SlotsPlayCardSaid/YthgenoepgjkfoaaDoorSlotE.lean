/-
  Slots: how many are taken.
-/
import Derived.Test.YthgenoepgjkfoaaDoorSlotD
namespace Go.Proofs.YthgenoepgjkfoaaDoor
open Go.RowKit
attribute [local go_sem] Oper.semAt_some
set_option maxRecDepth 100000

theorem blk11_kept {w w' : World} {g : Nat} {t : TypeId} {cs : Array Value} (h : Blk w g t cs) {row : Option Nat} (hg : w.grownBy w' row) (hr : ∀ r, row = some r → ∃ o : Obj, w.heap[r]? = some o ∧ o.isCells = false) : Blk w' g t cs := by
  refine Blk.grown h hg (fun e => ?_)
  obtain ⟨o, ho, hc⟩ := hr g e.symm
  rw [show w.heap[g]? = _ from h] at ho
  cases ho
  cases hc
theorem allF11_at (v : Value) (hv : v = .pointer none ∨ ∃ g, v = .pointer (some ⟨g, 0, none⟩)) (w : World) (S : Nat) (hS : w.heap.size = S) :
    Calls Tryd.prog 19 #[v] w fun e w' => e = .returned (.func (.func 21) #[] #[.pointer (some ⟨S, 0, none⟩)]) ∧ w' = w.alloc (.cells #[v] 24) := hS ▸ allF11 v hv w
/-- Gone through at the world of now: what All says of a receiver. -/
def Seq11 (v : Value) (L : List Nat) (w : World) : Prop := (v = .pointer none ∧ L = []) ∨ ∃ g n T, v = .pointer (some ⟨g, 0, none⟩) ∧ Sl w g n T ∧ L = all11 T n
theorem Seq11.form {v : Value} {L : List Nat} {w : World} (h : Seq11 v L w) : v = .pointer none ∨ ∃ g, v = .pointer (some ⟨g, 0, none⟩) := by
  rcases h with ⟨h, _⟩ | ⟨g, n, T, h, _⟩
  · exact .inl h
  · exact .inr ⟨g, h⟩
theorem Seq11.below {v : Value} {L : List Nat} {w w' : World} (h : Seq11 v L w) (hb : Below w.heap.size w w') : Seq11 v L w' := by
  rcases h with h | ⟨g, n, T, h, hs, hl⟩
  · exact .inl h
  · exact .inr ⟨g, n, T, h, hs.below hb, hl⟩
theorem Seq11.len {v : Value} {L : List Nat} {w : World} (h : Seq11 v L w) : L.length ≤ 4096 := by
  rcases h with ⟨_, h⟩ | ⟨g, n, T, _, hs, hl⟩
  · rw [h]; simp
  · rw [hl]; exact Nat.le_trans (all11_len T n) hs.many
theorem Seq11.goes {v : Value} {L : List Nat} {w : World} (h : Seq11 v L w) {sb : Nat} (h1 : w.cell? ⟨sb, 0, none⟩ = some v) (hT : Tab11 w) (hT0 : 0 < w.heap.size) :
    Goes Fence.wide 4 Tryd.prog 21 #[.pointer (some ⟨sb, 0, none⟩)] (ienc L) keep11 L.length w := by
  rcases h with ⟨rfl, rfl⟩ | ⟨g, n, T, rfl, hs, rfl⟩
  · exact goes11_nil w h1
  · exact goes11 w h1 hs hT hT0

/-- Between two rounds of Len. -/
structure LenMem (w : World) (M k : Nat) (W : World) : Prop where
  below : Below w.heap.size w W
  many : Blk W M 3 #[.int .i64 (k : Int)]
theorem LenMem.kept {w : World} {M k : Nat} {X Y : World} {row : Option Nat} (h : LenMem w M k X) (hg : X.grownBy Y row) {C : Nat} (hC : w.heap.size ≤ C)
    (hr : ∀ r, row = some r → C ≤ r ∧ ∃ o : Obj, X.heap[r]? = some o ∧ o.isCells = false) : LenMem w M k Y :=
  ⟨h.below.grown hg h.below.size (fun r e => by have := (hr r e).1; omega), blk11_kept h.many hg (fun r e => (hr r e).2)⟩

set_option maxHeartbeats 4000000 in
theorem len11_any {v : Value} {L : List Nat} (w : World) (h : Seq11 v L w) (hT : Tab11 w) (hT0 : 0 < w.heap.size) :
    Calls Tryd.prog 12 #[v] w fun e w' => e = .returned (.int .i64 ((L.length : Nat) : Int)) ∧ Below w.heap.size w w' := by
  have hll := h.len
  have HA := Lib.hid (fun W S hS => allF11_at v h.form W S hS)
  have HS := Lib.hid h
  have HT := Lib.hid hT
  have HP : Hid (v = .pointer none ∨ ∃ g, v = .pointer (some ⟨g, 0, none⟩)) := Lib.hid h.form
  clear h hT
  refine calls_of_leave Tryd.func12 rfl ?_
  simp only [Tryd.ntmps12, List.size_toArray, List.length_cons, List.length_nil, Nat.reduceAdd, Nat.reduceSub, Array.replicate_succ, Array.replicate_zero, List.push_toArray, List.append_toArray, List.nil_append, List.cons_append]
  go_wp2_with fail
  refine (HA.out _ (w.heap.size + 1) (by simp)).mono ?_
  rintro e W0 ⟨rfl, hW0⟩
  have hsz0 : W0.heap.size = w.heap.size + 2 := by rw [hW0]; simp
  have f1 : Blk W0 w.heap.size 3 #[.int .i64 0] := by rw [hW0]; exact (Blk.new w _ _).alloc _
  have f2 : W0.cell? ⟨w.heap.size + 1, 0, none⟩ = some v := by
    rw [hW0]
    have h2 := (Blk.new (w.alloc (.cells #[.int .i64 0] 3)) 24 #[v]).cell 0
    rw [show (w.alloc (.cells #[.int .i64 0] 3)).heap.size = w.heap.size + 1 by simp] at h2
    exact h2
  have hB0 : Below w.heap.size w W0 := by rw [hW0]; exact (b1' w _).trans ((b1' _ _).mono (by simp))
  have hgo := (HS.out.below hB0).goes f2 (HT.out.below hB0 hT0) (by omega)
  have HI0 : Hid (LenMem w w.heap.size 0 W0) := Lib.hid ⟨hB0, f1⟩
  clear f1 f2 hB0 hW0
  go_wp2_with fail
  refine (wpIn_wide (n := 5)).1 ?_
  refine wpIn_rangeFunc_goes rfl (by omega) (gf := 21) (lb := #[.pointer (some ⟨w.heap.size + 1, 0, none⟩)]) rfl trivial (enters_of Tryd.func21 (by kernel_rfl) rfl)
    hgo (fun k p hp => by show p.block < W0.heap.size; rw [show p.block = 0 from hp]; omega) (Below.refl _ _) (fun _ => rfl)
    (fun k W => LenMem w w.heap.size k W) (fun _ _ _ => False)
    (fun s X Y row hs hg hr => hs.kept hg (by omega) hr)
    (fun c s X Y row hs hg hr => hs.elim)
    HI0.out ?round ?done ?stop
  case round =>
    intro l k W hk _
    simp only [ienc]
    gi_wp2
    refine ⟨trivial, ?_⟩
    rintro Wb hm
    have hb1 := hm.many
    have c0 := hb1.cell 0
    have f0 := hb1.frozen 0
    have hw1 : IntKind.i64.wrap ((k : Int) + 1) = ((k + 1 : Nat) : Int) := by rw [IntKind.wrap_i64]; omega
    obtain ⟨j, hj⟩ : ∃ j, k + 1 = j := ⟨_, rfl⟩
    rw [hj] at hw1
    have HM := Lib.hid hm
    have HJ := Lib.hid hj
    clear hm hb1 hj
    gi_wp2_with fail
    refine ⟨(KeepsOthers.setCell _ _ _).from _, Same.setCell (fun p hp e => ?_) _, ?_⟩
    · rw [show p.block = 0 from hp] at e
      simp only at e
      omega
    · rw [HJ.out]
      exact ⟨HM.out.below.setCell (Nat.le_refl _) _, HM.out.many.set_ 0 _⟩
  case done =>
    rintro D W hD hm hK
    have c0 := hm.many.cell 0
    have HB := Lib.hid (mark_below hm.below hK (by omega))
    have HK := Lib.hid hK
    clear hm hK
    go_wp2_with fail
    exact leave_mark HK.out (by simp [results, Tryd.results12, go_sem]) ⟨rfl, HB.out⟩
  case stop =>
    rintro D c k W hD hk hf hK
    exact hf.elim
end Go.Proofs.YthgenoepgjkfoaaDoor
