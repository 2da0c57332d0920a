/-
  Slots: the law's own list of those that are taken, up to a count.
-/
import Derived.Test.YtojdgcalpdbifaaSlotE
namespace Go.Proofs.Ytojdgcalpdbifaa
open Go.RowKit
attribute [local go_sem] Oper.semAt_some
set_option maxRecDepth 100000

theorem info_int11 : (Try.prog.info? 3).map (fun i => (i.zero, i.size, i.bytes)) = some (some (.int .i64 0), 1, 8) := by kernel_rfl
theorem same11_written {S : Addr → Prop} {W W' : World} {row : Option Nat} (hg : W.grownBy W' row) (hS : ∀ p, S p → some p.block ≠ row) : Same S W W' :=
  ⟨hg.size, fun p _ hp hv => hg.cell hv (hS p hp)⟩
theorem ko11_below {W W' : World} (h : Below W.heap.size W W') : KeepsOthers W W' := ⟨h.size, fun k _ hk _ => (h.block k (Array.getElem?_eq_some_iff.1 hk).1).trans hk⟩
theorem ko11_owned {W W' : World} {base : Nat} {e : TypeId} {v : Value} {n : Nat} {xs : List Value} (h : W.ownsRow base e 1 v n xs) (hg : W.grownBy W' v.ownBlock) : KeepsOthers W W' :=
  KeepsOthers.of_grownBy hg fun j o hj ho => by
    rcases h.2 with ⟨rfl, _⟩ | ⟨g, cap, cur, rfl, _, hh, _⟩
    · cases hj
    · injection hj with hj
      subst hj
      rw [hh] at ho
      cases ho
      rfl
theorem own11_kept {w w' : World} {base : Nat} {e : TypeId} {v : Value} {n : Nat} {xs : List Value} (h : w.ownsRow base e 1 v n xs) {row : Option Nat} (hg : w.grownBy w' row) (hr : ∀ r, row = some r → ∃ o : Obj, w.heap[r]? = some o ∧ o.isCells = false) : w'.ownsRow base e 1 v n xs := by
  have hlt := h.lt
  obtain ⟨h1, h2⟩ := h
  refine ⟨h1, ?_⟩
  rcases h2 with h2 | ⟨g, cap, cur, rfl, hb, hh, r⟩
  · exact .inl h2
  · refine .inr ⟨g, cap, cur, rfl, hb, ?_, r⟩
    rw [hg.block g (hlt g rfl).2 (fun e => by obtain ⟨o, ho, hc⟩ := hr g e.symm; rw [hh] at ho; cases ho; cases hc)]
    exact hh
theorem own11_base {w : World} {base : Nat} {e : TypeId} {v : Value} {n g : Nat} {xs : List Value} (h : w.ownsRow base e 1 v n xs) (hg : g < base) : v.ownBlock ≠ some g := fun e' => by
  have := (h.lt g e').1
  omega
section
variable {P : Program} (w : World) {F : Fence} {nF : Nat}
/-- One element of one cell is appended to a row of one's own, in a round. -/
theorem wpListIn_append_11 {ops : Array Oper} {rest : List Oper} {o : Oper} {a : Act} {Q : Exit → Act → World → Prop} (hgd : o.guard = none) (s x : Operand) (t : TypeId)
    (ho : o.op = .call { callee := .builtin .append, args := #[s, x], argTypes := #[t, t] })
    (base : Nat) (e : TypeId) (ht : P.underlying t = some (.slice e)) (z : Value) (bt : Nat) (hinfo : (P.info? e).map (fun i => (i.zero, i.size, i.bytes)) = some (some z, 1, bt)) (hzs : z.cells.size = 1)
    (v : Value) (n : Nat) (xs : List Value) (hs : a.eval s = v) (hown : w.ownsRow base e 1 v n xs) (g : Nat) (u : Value) (hx : a.eval x = .slice (some ⟨g, 0, none⟩) 1 1) (hc : w.cell? ⟨g, 0, none⟩ = some u) (hu : u.oneCell' = true)
    (hb : n + 1 ≤ 100000000) (hbt : bt ≤ 1000) (hbase : base ≤ w.heap.size)
    (h : ∀ A' c' w', n + 1 ≤ c' → Hid (w'.ownsRow base e 1 (.slice A' (n + 1) c') (n + 1) (xs ++ [u])) → w.grownBy w' v.ownBlock → wpListIn F nF P ops Q rest (a.put o.dst (.slice A' (n + 1) c')) w') :
    wpListIn F nF P ops Q (o :: rest) a w := by
  cases hi : P.info? e with
  | none => rw [hi] at hinfo; cases hinfo
  | some i =>
    rw [hi] at hinfo
    simp only [Option.map_some, Option.some.injEq, Prod.mk.injEq] at hinfo
    obtain ⟨h1, h2, h3⟩ := hinfo
    refine wpListIn_append_own w hgd s x t ho base e i z 1 bt ht hi h1 h2 h3 hzs (by omega) v n xs hs hown ⟨g, 0, none⟩ 1 1 [u] hx rfl ?_ (by simpa using hu) (by unfold maxLen; omega) ?_ hbase ?_
    · intro j u' hj
      match j, hj with
      | 0, hj =>
        obtain rfl : u = u' := by simpa using hj
        exact hc
      | j + 1, hj => simp at hj
    · have : (n + 1) * bt ≤ 100000000 * 1000 := Nat.mul_le_mul hb hbt
      omega
    · intro v' w' h4 h5 _
      obtain ⟨A', c', rfl, hc'⟩ := ownsRow_form w' h4
      exact h _ _ _ hc' h4 h5
end
theorem ints_take11 {L : List Nat} {k : Nat} (hk : k < L.length) : ints (L.take (k + 1)) = ints (L.take k) ++ [.int .i64 ((nth L k : Nat) : Int)] := by
  rw [List.take_add_one, List.getElem?_eq_getElem hk, ints_append, nth_in hk]
  rfl

/-- A list that one makes: its variable at block O, the elements of L so far. -/
structure RowMem (w : World) (O B : Nat) (xs : List Nat) (W : World) : Prop where
  below : Below w.heap.size w W
  bsz : B ≤ W.heap.size
  row : ∃ A c, Blk W O 29 #[.slice A xs.length c] ∧ W.ownsRow B 3 1 (.slice A xs.length c) xs.length (ints xs)
theorem RowMem.kept {w : World} {O B : Nat} {xs : List Nat} {X Y : World} {row : Option Nat} (h : RowMem w O B xs X) (hg : X.grownBy Y row) {C : Nat} (hC : w.heap.size ≤ C)
    (hr : ∀ r, row = some r → C ≤ r ∧ ∃ o : Obj, X.heap[r]? = some o ∧ o.isCells = false) : RowMem w O B xs Y := by
  obtain ⟨A, c, h1, h2⟩ := h.row
  exact ⟨h.below.grown hg h.below.size (fun r e => by have := (hr r e).1; omega), Nat.le_trans h.bsz hg.size, A, c, blk11_kept h1 hg (fun r e => (hr r e).2), own11_kept h2 hg (fun r e => (hr r e).2)⟩

theorem ints_ty11 : 29 ≠ 3 := by decide
/-- An element is appended, and the row's variable is stored. -/
theorem RowMem.next {w : World} {O B k : Nat} {xs : List Nat} {x : Nat} {A5 : Option Addr} {c5 : Nat} {X Y : World} {A6 : Option Addr} {c6 : Nat} (h : RowMem w O B xs X) (hO : O < B) (hw : w.heap.size ≤ O) (hx : xs.length = k)
    (hb : Blk X O 29 #[.slice A5 k c5]) (hown : X.ownsRow B 3 1 (.slice A5 k c5) k (ints xs))
    (hg : (X.alloc (.cells #[.int .i64 (x : Int)] 3)).grownBy Y (Value.slice A5 k c5).ownBlock) (h6 : Y.ownsRow B 3 1 (.slice A6 (k + 1) c6) (k + 1) (ints xs ++ [.int .i64 (x : Int)])) :
    RowMem w O B (xs ++ [x]) (Y.setCell ⟨O, 0, none⟩ (.slice A6 (k + 1) c6)) ∧ Blk Y O 29 #[.slice A5 k c5] ∧ KeepsOthers X Y ∧ Below B X Y := by
  have hOA := own7_keep hown (b1' X (.cells #[.int .i64 (x : Int)] 3))
  have hsz := hg.size
  rw [World.size_alloc] at hsz
  have hbY := (hb.alloc (.cells #[.int .i64 (x : Int)] 3)).grown hg (fun e => own11_base hOA hO e.symm)
  have hX := h.below
  have hBX := h.bsz
  have hxy : Below B X Y := ((b1' X _).mono hBX).grown hg (by simp; omega) (fun r hr => (World.ownsRow.lt hOA r hr).1)
  have hz : (Y.setCell ⟨O, 0, none⟩ (.slice A6 (k + 1) c6)).heap.size = Y.heap.size := by simp [World.setCell]
  refine ⟨⟨(hX.trans (hxy.mono (by omega))).setCell hw _, by rw [hz]; omega, A6, c6, ?_, ?_⟩, hbY, (ko11_below (b1' X _)).trans (ko11_owned hOA hg), hxy⟩
  · have h1 := hbY.set_ 0 (.slice A6 (k + 1) c6)
    rw [List.length_append, hx]
    exact h1
  · rw [List.length_append, hx, ints_append]
    exact own7_far h6 (grownBy_setCell' Y O _) (own11_base h6 hO)

/-- What list says. -/
def RetI (w : World) (xs : List Nat) (e : Ending) (w' : World) : Prop := ∃ A c, e = .returned (.slice A xs.length c) ∧ w'.ownsRow w.heap.size 3 1 (.slice A xs.length c) xs.length (ints xs) ∧ Below w.heap.size w w'

end Go.Proofs.Ytojdgcalpdbifaa
