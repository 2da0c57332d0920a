/-
  Slots: the law's own 'twice': those that are taken, gone through twice, the first one given back meanwhile.
-/
import Derived.Test.YtojdgcalpdbifaaSlotF
namespace Go.Proofs.Ytojdgcalpdbifaa
open Go.RowKit
attribute [local go_sem] Oper.semAt_some
set_option maxRecDepth 100000

/-- None is taken, or there is a first one, and the others are those without it. -/
theorem first11 (T : Nat → Bool) (n : Nat) : all11 T n = [] ∨ ∃ c, T c = true ∧ all11 T n = c :: all11 (turn11 T c false) n := by
  rcases free11_or (fun j => !T j) n with ⟨c, h1, h2, h3⟩ | h
  · right
    have hc : T c = true := by simpa using h2
    refine ⟨c, hc, ?_⟩
    unfold all11
    rw [filter_first T c hc (fun k hk => by simpa using h3 k hk) n h1]
    congr 1
    refine List.filter_congr (fun j _ => ?_)
    unfold turn11
    by_cases e : j = c
    · simp [e]
    · simp [e]
  · left
    exact List.filter_eq_nil_iff.2 (fun j hj => by have := h j (List.mem_range.1 hj); simpa using this)

/-- A list that one makes: its variable at block O, its elements so far; the row lies from B on. -/
structure RowAt (O B : Nat) (xs : List Nat) (W : World) : Prop where
  bsz : B ≤ W.heap.size
  row : ∃ A c, Blk W O 29 #[.slice A xs.length c] ∧ W.ownsRow B 3 1 (.slice A xs.length c) xs.length (ints xs)
theorem RowAt.kept {O B : Nat} {xs : List Nat} {X Y : World} {row : Option Nat} (h : RowAt O B xs X) (hg : X.grownBy Y row)
    (hr : ∀ r, row = some r → ∃ o : Obj, X.heap[r]? = some o ∧ o.isCells = false) : RowAt O B xs Y := by
  obtain ⟨A, c, h1, h2⟩ := h.row
  exact ⟨Nat.le_trans h.bsz hg.size, A, c, blk11_kept h1 hg hr, own11_kept h2 hg hr⟩
theorem RowAt.far {O B : Nat} {xs : List Nat} {X Y : World} {g : Nat} {t : TypeId} {cs : Array Value} (h : RowAt O B xs X) (hg : X.grownBy Y (some g)) (hO : O ≠ g) (hb : Blk X g t cs) (ht : t ≠ 3) : RowAt O B xs Y := by
  obtain ⟨A, c, h1, h2⟩ := h.row
  exact ⟨Nat.le_trans h.bsz hg.size, A, c, h1.grown hg (by simpa using hO), own7_far h2 hg (own7_ne h2 hb ht)⟩
theorem RowAt.next {O B k : Nat} {xs : List Nat} {x : Nat} {A5 : Option Addr} {c5 : Nat} {X Y : World} {A6 : Option Addr} {c6 : Nat} (h : RowAt O B xs X) (hO : O < B) (hx : xs.length = k)
    (hb : Blk X O 29 #[.slice A5 k c5]) (hown : X.ownsRow B 3 1 (.slice A5 k c5) k (ints xs))
    (hg : (X.alloc (.cells #[.int .i64 (x : Int)] 3)).grownBy Y (Value.slice A5 k c5).ownBlock) (h6 : Y.ownsRow B 3 1 (.slice A6 (k + 1) c6) (k + 1) (ints xs ++ [.int .i64 (x : Int)])) :
    RowAt O B (xs ++ [x]) (Y.setCell ⟨O, 0, none⟩ (.slice A6 (k + 1) c6)) ∧ Blk Y O 29 #[.slice A5 k c5] ∧ KeepsOthers X Y ∧ Below B X Y := by
  have hOA := own7_keep hown (b1' X (.cells #[.int .i64 (x : Int)] 3))
  have hsz := hg.size
  rw [World.size_alloc] at hsz
  have hbY := (hb.alloc (.cells #[.int .i64 (x : Int)] 3)).grown hg (fun e => own11_base hOA hO e.symm)
  have hBX := h.bsz
  have hxy : Below B X Y := ((b1' X _).mono hBX).grown hg (by simp; omega) (fun r hr => (World.ownsRow.lt hOA r hr).1)
  have hz : (Y.setCell ⟨O, 0, none⟩ (.slice A6 (k + 1) c6)).heap.size = Y.heap.size := by simp [World.setCell]
  refine ⟨⟨by rw [hz]; omega, A6, c6, ?_, ?_⟩, hbY, (ko11_below (b1' X _)).trans (ko11_owned hOA hg), hxy⟩
  · have h1 := hbY.set_ 0 (.slice A6 (k + 1) c6)
    rw [List.length_append, hx]
    exact h1
  · rw [List.length_append, hx, ints_append]
    exact own7_far h6 (grownBy_setCell' Y O _) (own11_base h6 hO)
/-- All that was there stays, but for block g. -/
theorem grown11_below {g B : Nat} {w X Y : World} (h : w.grownBy X (some g)) (hb : Below B X Y) (hB : w.heap.size ≤ B) : w.grownBy Y (some g) :=
  ⟨hb.os.trans h.os, hb.tape.trans h.tape, hb.output.trans h.output, Nat.le_trans h.size hb.size, fun k hk hne => (hb.block k (by omega)).trans (h.block k hk hne)⟩
theorem grown11_set {g O : Nat} {w X : World} (h : w.grownBy X (some g)) (hO : w.heap.size ≤ O) (i : Nat) (u : Value) : w.grownBy (X.setCell ⟨O, i, none⟩ u) (some g) :=
  ⟨h.os, h.tape, h.output, by rw [show (X.setCell ⟨O, i, none⟩ u).heap.size = X.heap.size by simp [World.setCell]]; exact h.size, fun k hk hne => (Below.heap_setCell X ⟨O, i, none⟩ u k (by show k ≠ O; omega)).trans (h.block k hk hne)⟩
theorem grown11_kept {g : Nat} {w X Y : World} {row : Option Nat} (h : w.grownBy X (some g)) (hg : X.grownBy Y row) (hr : ∀ r, row = some r → w.heap.size ≤ r) : w.grownBy Y (some g) :=
  ⟨hg.os.trans h.os, hg.tape.trans h.tape, hg.output.trans h.output, Nat.le_trans h.size hg.size, fun k hk hne => (hg.block k (Nat.lt_of_lt_of_le hk h.size) (fun e => by have := hr k e.symm; omega)).trans (h.block k hk hne)⟩
theorem take_next11 {L : List Nat} {k x : Nat} (hk : k < L.length) (hx : nth L k = x) : L.take (k + 1) = L.take k ++ [x] := by
  rw [List.take_add_one, List.getElem?_eq_getElem hk]
  rw [nth_in hk] at hx
  rw [hx]
  rfl
/-- A function is left that has gone through two iterators. -/
theorem leave_mark2 {P : Program} {fn : Func} {R : Ending → World → Prop} {tmps : Array Value} {D E : Nat} {W : World} {v : Value} (hD : W.heap[D]? = some (.deferred (some []))) (hE : (W.putObj D (.deferred none)).heap[E]? = some (.deferred (some [])))
    (hv : (results fn tmps).run P ((W.putObj D (.deferred none)).putObj E (.deferred none)) = .ok v ((W.putObj D (.deferred none)).putObj E (.deferred none))) (hR : R (.returned v) ((W.putObj D (.deferred none)).putObj E (.deferred none))) :
    leavePost P fn R .ret { tmps := tmps, defers := [{ target := .collected D, args := #[] }, { target := .collected E, args := #[] }] } W :=
  ⟨by simp, .inl ⟨_, _, rfl, run_takeDeferred hD, ⟨by simp, .inl ⟨_, _, rfl, run_takeDeferred hE, _, hv, hR⟩⟩⟩⟩
theorem own11_low {w w' : World} {B base : Nat} {e : TypeId} {v : Value} {n : Nat} {xs : List Value} (h : w.ownsRow base e 1 v n xs) (hb : Below B w w') (hlt : ∀ j, v.ownBlock = some j → j < B) : w'.ownsRow base e 1 v n xs := by
  obtain ⟨h1, h2⟩ := h
  refine ⟨h1, ?_⟩
  rcases h2 with h2 | ⟨g, cap, cur, rfl, hg, hh, r⟩
  · exact .inl h2
  · exact .inr ⟨g, cap, cur, rfl, hg, by rw [hb.block g (hlt g rfl)]; exact hh, r⟩

/-- The places before and behind the first round. -/
def at11 (T : Nat → Bool) (c k : Nat) : Nat → Bool := if k = 0 then T else turn11 T c false

end Go.Proofs.Ytojdgcalpdbifaa
