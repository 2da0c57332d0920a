/-
  SaidLiveOff, part 2 of 15: what the theorem liveOff_holds reaches.
-/
import Derived.Test.YtllcmjdfgbiijaaLO1
import Derived.RangeFuncNested
import Derived.RangeFuncBound
import Derived.RangeFuncCalls
import Derived.RangeFuncLeaves
import Derived.RangeFuncWrites
import Derived.Shelf.Abstract
import Derived.WalkKit
import Derived.OwnWalkIn
import Derived.TacticsInMore
import Derived.LoopNIn
import Derived.LoopIn
import Derived.Deep.RegionHeld3
import Derived.OrdersIn
import Derived.Test.YtllcmjdfgbiijaaProg
import Derived.Shelf.Spec.TrailingZeros
import Derived.Deep.MidRow
import Derived.Ground.Names2Prog
import Derived.Shelf.Spec.SlicesInsert
import Derived.Shelf.Spec.SlicesInsertGrow
import Derived.Laws.StructEq
import Derived.Laws.MakeOwn
import Derived.Laws.CopyOwn
namespace Go.Proofs.Ytllcmjdfgbiijaa
open Go.RowKit
/-- The cells at the places of S read as before. -/
structure Same (S : Addr → Prop) (W W' : World) : Prop where
  size : W.heap.size ≤ W'.heap.size
  cell : ∀ p v, S p → W.cell? p = some v → W'.cell? p = some v
theorem Same.refl (S : Addr → Prop) (W : World) : Same S W W := ⟨Nat.le_refl _, fun _ _ _ h => h⟩
theorem Same.trans {S : Addr → Prop} {A B C : World} (h : Same S A B) (k : Same S B C) : Same S A C := ⟨Nat.le_trans h.size k.size, fun p v hp hv => k.cell p v hp (h.cell p v hp hv)⟩
theorem Same.of_below {S : Addr → Prop} {A B : World} {n : Nat} (h : Below n A B) (hS : ∀ p, S p → p.block < n) : Same S A B := ⟨h.size, fun p _ hp hv => (h.cell (hS p hp)).trans hv⟩
theorem Same.putObj {S : Addr → Prop} {W : World} {l : Nat} (o' : Obj) (hS : ∀ p, S p → p.block ≠ l) : Same S W (W.putObj l o') :=
  ⟨by simp, fun p v hp hv => (World.cell?_of_block (World.putObj_heap_other (hS p hp))).trans hv⟩
theorem Same.setCell {S : Addr → Prop} {W : World} {q : Addr} (hS : ∀ p, S p → p.block ≠ q.block) (u : Value) : Same S W (W.setCell q u) :=
  ⟨by simp [World.setCell], fun p v hp hv => (World.cell?_setCell_other W q p u (fun e => hS p hp (by rw [e]))).trans hv⟩
theorem Same.drewN {S : Addr → Prop} {W : World} (n : Nat) : Same S W (W.drewN n) := ⟨Nat.le_refl _, fun _ _ _ h => h⟩
theorem Same.drew {S : Addr → Prop} {W : World} : Same S W W.drew := ⟨Nat.le_refl _, fun _ _ _ h => h⟩
theorem KeepsOthers.drewN (W : World) (n : Nat) : KeepsOthers W (W.drewN n) := ⟨Nat.le_refl _, fun _ _ h _ => h⟩
/-- THE ITERATOR's WORD: the rounds come in their order, each with its element; behind each the cells of 'Sk k' must be what they were. -/
def Goes (F : Fence) (n : Nat) (P : Program) (g : Nat) (lb : Array Value) (encs : Nat → Array Value) (Sk : Nat → Addr → Prop) (N : Nat) (w : World) : Prop :=
  ∀ (l : Nat) (J Jx : Nat → World → Prop) (W : World), Below w.heap.size w W → AbidesFrom W.heap.size J → AbidesFrom W.heap.size Jx →
    (∀ k W1, k < N → J k W1 → YieldAt F (n - 1) P l (encs k) W1 fun e W' =>
      (e = .returned (.bool true) ∧ J (k + 1) W' ∧ Same (Sk k) W1 W') ∨ (e = .returned (.bool false) ∧ Jx k W')) →
    J 0 W →
    CallsIn F n P g (#[.func (.yield l) #[] #[]] ++ lb) W fun e W' => (∃ v, e = .returned v) ∧ (J N W' ∨ ∃ k, k < N ∧ Jx k W')
/-- How a round may be left. -/
def goesPost (B : Nat) (S : Addr → Prop) (I : Nat → World → Prop) (Ix : Code → Nat → World → Prop) (k : Nat) (W : World) : Exit → Act → World → Prop
  | .normal, _, W' => KeepsFrom B W W' ∧ Same S W W' ∧ I (k + 1) W'
  | .ret, _, W' => KeepsFrom B W W' ∧ Ix .ret k W'
  | .exit id, _, W' => KeepsFrom B W W' ∧ Ix (.exit id) k W'
  | .goto t, _, W' => KeepsFrom B W W' ∧ Ix (.goto t) k W'
  | .panic _, _, _ => False
  | .outgrown, _, _ => False
variable {F : Fence} {n : Nat} {P : Program}
theorem wpIn_rangeFunc_goes {g : Operand} {ps : Array Tmp} {assign body : Code} {Q : Exit → Act → World → Prop} {a : Act} {w : World}
    (hro : F.round = none) (h1 : 1 ≤ n) {gf : Nat} {lb : Array Value} (hg : a.eval g = .func (.func gf) #[] lb) (hFg : F.fn gf) (eg : ∀ args w, (callFunc gf args).run P w = .ok (.enter gf args) w)
    {encs : Nat → Array Value} {Sk : Nat → Addr → Prop} {N : Nat} {w0 : World} (hseq : Goes F (n - 1) P gf lb encs Sk N w0) (hSk : ∀ k p, Sk k p → p.block < w.heap.size)
    (hb0 : Below w0.heap.size w0 w) (hps : ∀ k, (encs k).size = ps.size)
    (I : Nat → World → Prop) (Ix : Code → Nat → World → Prop) (hI : OwnFrom w.heap.size I) (hIx : ∀ c, OwnFrom w.heap.size (Ix c)) (h0 : I 0 w)
    (hround : ∀ (l k : Nat) (W : World), k < N → I k W →
      assign.wpIn (F.inRound l) (n - 1 - 1) P (Exit.then (fun a' W' => W' = W ∧ ∀ Wb, I k Wb → body.wpIn (F.inRound l) (n - 1 - 1) P (goesPost w.heap.size (Sk k) I Ix k Wb) a' Wb) (fun _ _ _ => False))
        { tmps := (ps.zip (encs k)).foldl (fun t (p, v) => t.setIfInBounds p v) a.tmps, defers := [] } W)
    (hdone : ∀ (D : Nat) (W : World), w.heap.size ≤ D → I N W → W.heap[D]? = some (.deferred (some [])) → Q .normal { a with defers := { target := .collected D, args := #[] } :: a.defers } W)
    (hstop : ∀ (D : Nat) (c : Code) (k : Nat) (W : World), w.heap.size ≤ D → k < N → Ix c k W → W.heap[D]? = some (.deferred (some [])) → c.wpIn F n P Q { a with defers := { target := .collected D, args := #[] } :: a.defers } W) :
    (Code.rangeFunc g ps assign body).wpIn F n P Q a w := by
  refine wpIn_rangeFunc ?_
  intro fn hfn
  rw [hro]
  obtain ⟨rec, hrec⟩ : ∃ rec : LoopState → Option Code → Loop, rec = fun st pe => { state := st, pending := pe, fn, tmps := a.tmps, params := ps, assign, body, defers := w.heap.size } := ⟨_, rfl⟩
  obtain ⟨W1, hW1⟩ : ∃ W1, (w.alloc (.deferred (some []))).alloc (.loop (rec .ready none)) = W1 := ⟨_, rfl⟩
  have hL1 : W1.heap[w.heap.size + 1]? = some (.loop (rec .ready none)) := by
    rw [← hW1]; have := World.alloc_heap_new (w.alloc (.deferred (some []))) (.loop (rec .ready none)); rwa [World.size_alloc] at this
  have hK1 : W1.heap[w.heap.size]? = some (.deferred (some [])) := by
    rw [← hW1]; exact (Below.heap_alloc _ _ _ (by simp)).trans (World.alloc_heap_new w _)
  have hS1 : W1.heap.size = w.heap.size + 2 := by rw [← hW1]; simp
  have hI1 : I 0 W1 := by rw [← hW1]; exact hI.alloc _ (hI.alloc _ h0)
  have hb1 : Below w0.heap.size w0 W1 := by
    rw [← hW1]; exact hb0.trans ((((Below.refl _ w).alloc (Nat.le_refl _) _).alloc (by simp) _).mono hb0.size)
  refine ⟨w.heap.size + 1, [{ target := .collected w.heap.size, args := #[] }], W1, { target := .fn (.func gf) lb, args := #[.func (.yield (w.heap.size + 1)) #[] #[]] }, W1, gf,
    #[.func (.yield (w.heap.size + 1)) #[] #[]] ++ lb, W1, by rw [← hW1, hrec]; exact run_enterLoop_outer _ _ _ _ _, by simp only [resolve, hg]; simp [go_sem],
    fun f' hf' => by simp [Target.leads] at hf'; subst hf'; exact hFg, by simp [invoke, go_sem, eg], fun _ => h1, ?_⟩
  -- what is between two rounds, with the two blocks of book-keeping
  have hnw : ∀ {A : World} {row : Option Nat}, (∀ r, row = some r → W1.heap.size ≤ r ∧ ∃ o : Obj, A.heap[r]? = some o ∧ o.isWalk = true) → (∀ r, row = some r → w.heap.size ≤ r ∧ ∃ o : Obj, A.heap[r]? = some o ∧ o.isCells = false) :=
    fun hr r e => by obtain ⟨hB, o, ho, hw⟩ := hr r e; exact ⟨by omega, o, ho, Obj.not_cells_of_walk hw⟩
  refine (hseq (w.heap.size + 1)
    (fun k W => I k W ∧ W.heap[w.heap.size + 1]? = some (.loop (rec .ready none)) ∧ W.heap[w.heap.size]? = some (.deferred (some [])))
    (fun k W => ∃ c, Ix c k W ∧ W.heap[w.heap.size + 1]? = some (.loop (rec .done (some c))) ∧ W.heap[w.heap.size]? = some (.deferred (some [])))
    W1 hb1
    (fun s A B row hs hg' hr => ⟨hI s A B row hs.1 hg' (hnw hr), (grownBy_keeps hg' (fun r e => (hr r e).2) hs.2.1 rfl).trans hs.2.1, (grownBy_keeps hg' (fun r e => (hr r e).2) hs.2.2 rfl).trans hs.2.2⟩)
    (fun s A B row hs hg' hr => by
      obtain ⟨c, hc, hl, hk⟩ := hs
      exact ⟨c, hIx c s A B row hc hg' (hnw hr), (grownBy_keeps hg' (fun r e => (hr r e).2) hl rfl).trans hl, (grownBy_keeps hg' (fun r e => (hr r e).2) hk rfl).trans hk⟩)
    ?_ ⟨hI1, hL1, hK1⟩).mono ?_
  · rintro k W hkN ⟨hi, hl, hk⟩
    have hlt : w.heap.size + 1 < W.heap.size := (Array.getElem?_eq_some_iff.1 hl).1
    have hy := run_yield (P := P) (args := encs k) hl (by rw [hrec]; exact hps k)
    rw [hrec] at hy
    refine ⟨fn, _, assign, body, hy, roundIn_of_wpIn hfn (wpIn_mono (hround _ k W hkN hi) ?_)⟩
    clear hy
    rintro e a' W' hp
    cases e <;> first | exact hp.elim | skip
    obtain ⟨rfl, hbody⟩ := hp
    refine ⟨_, run_beginRound hl (by rw [hrec]), ?_⟩
    obtain ⟨Wb, hWb⟩ : ∃ Wb, W'.putObj (w.heap.size + 1) (.loop { rec .ready none with state := .busy }) = Wb := ⟨_, rfl⟩
    rw [hWb]
    have hSp : ∀ {X : World} (o' : Obj), Same (Sk k) X (X.putObj (w.heap.size + 1) o') := fun o' => Same.putObj o' (fun p hp e => by have := hSk k p hp; omega)
    have hl2 : Wb.heap[w.heap.size + 1]? = some (.loop { rec .ready none with state := .busy }) := by rw [← hWb]; exact World.putObj_heap_same hlt
    have hk2 : Wb.heap[w.heap.size]? = some (.deferred (some [])) := by rw [← hWb]; exact (World.putObj_heap_other (by omega)).trans hk
    have hi2 : I k Wb := by rw [← hWb]; exact hI.putObj _ hi (by omega) hl rfl
    have hs2 : Same (Sk k) W' Wb := by rw [← hWb]; exact hSp _
    have fin : ∀ (jump : Option Code) (W3 : World), KeepsFrom w.heap.size Wb W3 →
        (Instr.endRound (w.heap.size + 1) jump).run P W3 = .ok (.bool jump.isNone) (W3.putObj (w.heap.size + 1) (.loop (rec (if jump.isNone then .ready else .done) jump))) ∧
        W3.heap[w.heap.size + 1]? = some (.loop { rec .ready none with state := .busy }) ∧
        (W3.putObj (w.heap.size + 1) (.loop (rec (if jump.isNone then .ready else .done) jump))).heap[w.heap.size + 1]? = some (.loop (rec (if jump.isNone then .ready else .done) jump)) ∧
        (W3.putObj (w.heap.size + 1) (.loop (rec (if jump.isNone then .ready else .done) jump))).heap[w.heap.size]? = some (.deferred (some [])) := fun jump W3 hk3 => by
      have hl3 := hk3.same _ _ (by omega) hl2 rfl
      have := run_endRound (P := P) jump hl3
      rw [hrec] at this ⊢
      exact ⟨this, by rw [hrec] at hl3; exact hl3, World.putObj_heap_same (Array.getElem?_eq_some_iff.1 hl3).1, (World.putObj_heap_other (by omega)).trans (hk3.same _ _ (Nat.le_refl _) hk2 rfl)⟩
    refine wpIn_mono (hbody _ hi2) ?_
    rintro e a3 W3 hp
    cases e with
    | normal =>
      obtain ⟨hk3, hkp3, hi3⟩ := hp
      obtain ⟨hr, hl3, hl4, hk4⟩ := fin none W3 hk3
      exact ⟨_, _, hr, .inl ⟨rfl, ⟨hI.putObj _ hi3 (by omega) hl3 rfl, hl4, hk4⟩, (hs2.trans hkp3).trans (hSp _)⟩⟩
    | ret =>
      obtain ⟨hk3, hi3⟩ := hp
      obtain ⟨hr, hl3, hl4, hk4⟩ := fin (some .ret) W3 hk3
      exact ⟨_, _, hr, .inr ⟨rfl, .ret, (hIx _).putObj _ hi3 (by omega) hl3 rfl, hl4, hk4⟩⟩
    | exit id =>
      obtain ⟨hk3, hi3⟩ := hp
      obtain ⟨hr, hl3, hl4, hk4⟩ := fin (some (.exit id)) W3 hk3
      exact ⟨_, _, hr, .inr ⟨rfl, .exit id, (hIx _).putObj _ hi3 (by omega) hl3 rfl, hl4, hk4⟩⟩
    | goto t =>
      obtain ⟨hk3, hi3⟩ := hp
      obtain ⟨hr, hl3, hl4, hk4⟩ := fin (some (.goto t)) W3 hk3
      exact ⟨_, _, hr, .inr ⟨rfl, .goto t, (hIx _).putObj _ hi3 (by omega) hl3 rfl, hl4, hk4⟩⟩
    | panic ch => exact hp.elim
    | outgrown => exact hp.elim
  · rintro e W2 ⟨⟨v, rfl⟩, (⟨hi, hl, hk⟩ | ⟨k, hkN, c, hi, hl, hk⟩)⟩
    · exact ⟨none, _, by have := run_endLoop (P := P) hl (by rw [hrec]; simp); rw [hrec] at this; exact this, hdone _ _ (Nat.le_refl _) (hI.putObj _ hi (by omega) hl rfl) ((World.putObj_heap_other (by omega)).trans hk)⟩
    · exact ⟨some c, _, by have := run_endLoop (P := P) hl (by rw [hrec]; simp); rw [hrec] at this; exact this, hstop _ c k _ (Nat.le_refl _) hkN ((hIx c).putObj _ hi (by omega) hl rfl) ((World.putObj_heap_other (by omega)).trans hk)⟩
/-- How a function's body may be left that holds a loop over an iterator: it returns; it never panics. -/
def leavePost (P : Program) (fn : Func) (R : Ending → World → Prop) : Exit → Act → World → Prop
  | .normal, a, w | .ret, a, w => LeavesInM Fence.wide 5 P fn a.tmps R a.defers .returning w
  | .outgrown, _, w => R .outgrown w
  | _, _, _ => False
theorem calls_of_leave {f : FuncId} {fn : Func} {c : Code} {args : Array Value} {w : World} {R : Ending → World → Prop} (hf : P.funcs[f]? = some fn) (hb : fn.body = some c)
    (h : c.wp P (leavePost P fn R) { tmps := args ++ Array.replicate (fn.ntmps - args.size) undef, defers := [] } w) : Calls P f args w R := by
  refine (callsIn_wide (n := 5)).1 ?_
  refine callsIn_of_wp_marks hf hb trivial (wpIn_mono (wpIn_wide.2 h) ?_) rfl
  rintro e a W hp
  cases e <;> first | exact hp | exact hp.elim
theorem leave_mark {fn : Func} {R : Ending → World → Prop} {tmps : Array Value} {D : Nat} {W : World} {v : Value} (hK : W.heap[D]? = some (.deferred (some [])))
    (hv : (results fn tmps).run P (W.putObj D (.deferred none)) = .ok v (W.putObj D (.deferred none))) (hR : R (.returned v) (W.putObj D (.deferred none))) :
    leavePost P fn R .ret { tmps := tmps, defers := [{ target := .collected D, args := #[] }] } W :=
  ⟨by simp, .inl ⟨_, _, rfl, run_takeDeferred hK, _, hv, hR⟩⟩
theorem mark_below {w W : World} {B D : Nat} (h : Below B w W) (hK : W.heap[D]? = some (.deferred (some []))) (hD : B ≤ D) : Below B w (W.putObj D (.deferred none)) :=
  h.grown (grownBy_putObj' W D _) (by have := (Array.getElem?_eq_some_iff.1 hK).1; omega) (fun k e => by cases e; exact hD)
theorem mark_cell {W : World} {D : Nat} (hK : W.heap[D]? = some (.deferred (some []))) {p : Addr} {v : Value} (h : W.cell? p = some v) : (W.putObj D (.deferred none)).cell? p = some v :=
  cell_kept h (grownBy_putObj' W D (.deferred none)) (fun r e => by cases e; exact ⟨_, hK, rfl⟩)
end Go.Proofs.Ytllcmjdfgbiijaa
namespace Go.Proofs.Ytllcmjdfgbiijaa
open Go.RowKit
set_option maxRecDepth 100000
variable {P : Program} {ops : Array Oper} {Q : Exit → Act → World → Prop} {md : Region.Mode}
end Go.Proofs.Ytllcmjdfgbiijaa
namespace Go.Proofs.Ytllcmjdfgbiijaa
open Go.RowKit
set_option maxRecDepth 100000
theorem grown7_drew (W : World) (r : Option Nat) : W.grownBy W.drew r := ⟨rfl, rfl, rfl, Nat.le_refl _, fun _ _ _ => rfl⟩
theorem grown7_below {w w' : World} (h : w.grownBy w' none) : Below w.heap.size w w' := (Below.refl _ _).grown h (Nat.le_refl _) (fun k hk => by cases hk)
end Go.Proofs.Ytllcmjdfgbiijaa
namespace Go.Proofs.Ytllcmjdfgbiijaa
open Go.RowKit
attribute [local go_sem] Oper.semAt_some
set_option maxRecDepth 100000
theorem blk11_kept {w w' : World} {g : Nat} {t : TypeId} {cs : Array Value} (h : Blk w g t cs) {row : Option Nat} (hg : w.grownBy w' row) (hr : ∀ r, row = some r → ∃ o : Obj, w.heap[r]? = some o ∧ o.isCells = false) : Blk w' g t cs := by
  refine Blk.grown h hg (fun e => ?_)
  obtain ⟨o, ho, hc⟩ := hr g e.symm
  rw [show w.heap[g]? = _ from h] at ho
  cases ho
  cases hc
end Go.Proofs.Ytllcmjdfgbiijaa
namespace Go.Proofs.Ytllcmjdfgbiijaa
open Go.RowKit
attribute [local go_sem] Oper.semAt_some
set_option maxRecDepth 100000
theorem info_int11 : (Try.prog.info? 3).map (fun i => (i.zero, i.size, i.bytes)) = some (some (.int .i64 0), 1, 8) := by kernel_rfl
theorem ko11_below {W W' : World} (h : Below W.heap.size W W') : KeepsOthers W W' := ⟨h.size, fun k _ hk _ => (h.block k (Array.getElem?_eq_some_iff.1 hk).1).trans hk⟩
theorem ko11_owned {W W' : World} {base : Nat} {e : TypeId} {v : Value} {n : Nat} {xs : List Value} (h : W.ownsRow base e 1 v n xs) (hg : W.grownBy W' v.ownBlock) : KeepsOthers W W' :=
  KeepsOthers.of_grownBy hg fun j o hj ho => by
    rcases h.2 with ⟨rfl, _⟩ | ⟨g, cap, cur, rfl, _, hh, _⟩
    · cases hj
    · injection hj with hj
      subst hj
      rw [hh] at ho
      cases ho
      rfl
theorem own11_kept {w w' : World} {base : Nat} {e : TypeId} {v : Value} {n : Nat} {xs : List Value} (h : w.ownsRow base e 1 v n xs) {row : Option Nat} (hg : w.grownBy w' row) (hr : ∀ r, row = some r → ∃ o : Obj, w.heap[r]? = some o ∧ o.isCells = false) : w'.ownsRow base e 1 v n xs := by
  have hlt := h.lt
  obtain ⟨h1, h2⟩ := h
  refine ⟨h1, ?_⟩
  rcases h2 with h2 | ⟨g, cap, cur, rfl, hb, hh, r⟩
  · exact .inl h2
  · refine .inr ⟨g, cap, cur, rfl, hb, ?_, r⟩
    rw [hg.block g (hlt g rfl).2 (fun e => by obtain ⟨o, ho, hc⟩ := hr g e.symm; rw [hh] at ho; cases ho; cases hc)]
    exact hh
theorem own11_base {w : World} {base : Nat} {e : TypeId} {v : Value} {n g : Nat} {xs : List Value} (h : w.ownsRow base e 1 v n xs) (hg : g < base) : v.ownBlock ≠ some g := fun e' => by
  have := (h.lt g e').1
  omega
section
variable {P : Program} (w : World) {F : Fence} {nF : Nat}
/-- One element of one cell is appended to a row of one's own, in a round. -/
theorem wpListIn_append_11 {ops : Array Oper} {rest : List Oper} {o : Oper} {a : Act} {Q : Exit → Act → World → Prop} (hgd : o.guard = none) (s x : Operand) (t : TypeId)
    (ho : o.op = .call { callee := .builtin .append, args := #[s, x], argTypes := #[t, t] })
    (base : Nat) (e : TypeId) (ht : P.underlying t = some (.slice e)) (z : Value) (bt : Nat) (hinfo : (P.info? e).map (fun i => (i.zero, i.size, i.bytes)) = some (some z, 1, bt)) (hzs : z.cells.size = 1)
    (v : Value) (n : Nat) (xs : List Value) (hs : a.eval s = v) (hown : w.ownsRow base e 1 v n xs) (g : Nat) (u : Value) (hx : a.eval x = .slice (some ⟨g, 0, none⟩) 1 1) (hc : w.cell? ⟨g, 0, none⟩ = some u) (hu : u.oneCell' = true)
    (hb : n + 1 ≤ 100000000) (hbt : bt ≤ 1000) (hbase : base ≤ w.heap.size)
    (h : ∀ A' c' w', n + 1 ≤ c' → Hid (w'.ownsRow base e 1 (.slice A' (n + 1) c') (n + 1) (xs ++ [u])) → w.grownBy w' v.ownBlock → wpListIn F nF P ops Q rest (a.put o.dst (.slice A' (n + 1) c')) w') :
    wpListIn F nF P ops Q (o :: rest) a w := by
  cases hi : P.info? e with
  | none => rw [hi] at hinfo; cases hinfo
  | some i =>
    rw [hi] at hinfo
    simp only [Option.map_some, Option.some.injEq, Prod.mk.injEq] at hinfo
    obtain ⟨h1, h2, h3⟩ := hinfo
    refine wpListIn_append_own w hgd s x t ho base e i z 1 bt ht hi h1 h2 h3 hzs (by omega) v n xs hs hown ⟨g, 0, none⟩ 1 1 [u] hx rfl ?_ (by simpa using hu) (by unfold maxLen; omega) ?_ hbase ?_
    · intro j u' hj
      match j, hj with
      | 0, hj =>
        obtain rfl : u = u' := by simpa using hj
        exact hc
      | j + 1, hj => simp at hj
    · have : (n + 1) * bt ≤ 100000000 * 1000 := Nat.mul_le_mul hb hbt
      omega
    · intro v' w' h4 h5 _
      obtain ⟨A', c', rfl, hc'⟩ := ownsRow_form w' h4
      exact h _ _ _ hc' h4 h5
end
/-- A list that one makes: its variable at block O, the elements of L so far. -/
structure RowMem (w : World) (O B : Nat) (xs : List Nat) (W : World) : Prop where
  below : Below w.heap.size w W
  bsz : B ≤ W.heap.size
  row : ∃ A c, Blk W O 26 #[.slice A xs.length c] ∧ W.ownsRow B 3 1 (.slice A xs.length c) xs.length (ints xs)
theorem RowMem.kept {w : World} {O B : Nat} {xs : List Nat} {X Y : World} {row : Option Nat} (h : RowMem w O B xs X) (hg : X.grownBy Y row) {C : Nat} (hC : w.heap.size ≤ C)
    (hr : ∀ r, row = some r → C ≤ r ∧ ∃ o : Obj, X.heap[r]? = some o ∧ o.isCells = false) : RowMem w O B xs Y := by
  obtain ⟨A, c, h1, h2⟩ := h.row
  exact ⟨h.below.grown hg h.below.size (fun r e => by have := (hr r e).1; omega), Nat.le_trans h.bsz hg.size, A, c, blk11_kept h1 hg (fun r e => (hr r e).2), own11_kept h2 hg (fun r e => (hr r e).2)⟩
/-- An element is appended, and the row's variable is stored. -/
theorem RowMem.next {w : World} {O B k : Nat} {xs : List Nat} {x : Nat} {A5 : Option Addr} {c5 : Nat} {X Y : World} {A6 : Option Addr} {c6 : Nat} (h : RowMem w O B xs X) (hO : O < B) (hw : w.heap.size ≤ O) (hx : xs.length = k)
    (hb : Blk X O 26 #[.slice A5 k c5]) (hown : X.ownsRow B 3 1 (.slice A5 k c5) k (ints xs))
    (hg : (X.alloc (.cells #[.int .i64 (x : Int)] 3)).grownBy Y (Value.slice A5 k c5).ownBlock) (h6 : Y.ownsRow B 3 1 (.slice A6 (k + 1) c6) (k + 1) (ints xs ++ [.int .i64 (x : Int)])) :
    RowMem w O B (xs ++ [x]) (Y.setCell ⟨O, 0, none⟩ (.slice A6 (k + 1) c6)) ∧ Blk Y O 26 #[.slice A5 k c5] ∧ KeepsOthers X Y ∧ Below B X Y := by
  have hOA := own7_keep hown (b1' X (.cells #[.int .i64 (x : Int)] 3))
  have hsz := hg.size
  rw [World.size_alloc] at hsz
  have hbY := (hb.alloc (.cells #[.int .i64 (x : Int)] 3)).grown hg (fun e => own11_base hOA hO e.symm)
  have hX := h.below
  have hBX := h.bsz
  have hxy : Below B X Y := ((b1' X _).mono hBX).grown hg (by simp; omega) (fun r hr => (World.ownsRow.lt hOA r hr).1)
  have hz : (Y.setCell ⟨O, 0, none⟩ (.slice A6 (k + 1) c6)).heap.size = Y.heap.size := by simp [World.setCell]
  refine ⟨⟨(hX.trans (hxy.mono (by omega))).setCell hw _, by rw [hz]; omega, A6, c6, ?_, ?_⟩, hbY, (ko11_below (b1' X _)).trans (ko11_owned hOA hg), hxy⟩
  · have h1 := hbY.set_ 0 (.slice A6 (k + 1) c6)
    rw [List.length_append, hx]
    exact h1
  · rw [List.length_append, hx, ints_append]
    exact own7_far h6 (grownBy_setCell' Y O _) (own11_base h6 hO)
/-- What list says. -/
def RetI (w : World) (xs : List Nat) (e : Ending) (w' : World) : Prop := ∃ A c, e = .returned (.slice A xs.length c) ∧ w'.ownsRow w.heap.size 3 1 (.slice A xs.length c) xs.length (ints xs) ∧ Below w.heap.size w w'
end Go.Proofs.Ytllcmjdfgbiijaa
namespace Go.Proofs.Ytllcmjdfgbiijaa
open Go.RowKit
set_option maxRecDepth 100000
/-- The document's list: is place i taken? -/
def bls (T : Nat → Bool) (n : Nat) : List Value := (List.range n).map fun i => .bool (T i)
theorem bls_len (T : Nat → Bool) (n : Nat) : (bls T n).length = n := by simp [bls]
theorem bls_get (T : Nat → Bool) {n i : Nat} (h : i < n) : (bls T n)[i]? = some (.bool (T i)) := by simp [bls, h]
theorem Rd.rv11 {w : World} {B : Nat} {A : Option Addr} {xs : List Nat} (h : Rd w B A xs) : Rv w B A (ints xs) := by
  intro hx
  obtain ⟨b, o, h1, h2, h3⟩ := h (by rintro rfl; exact hx rfl)
  refine ⟨b, o, h1, h2, fun k v hk => ?_⟩
  have hk2 : k < xs.length := by
    have := (List.getElem?_eq_some_iff.1 hk).1
    rw [ints_length] at this
    exact this
  rw [ints_get hk2] at hk
  injection hk with hk
  rw [← hk]
  exact h3 k hk2
theorem bls_at {T : Nat → Bool} {n : Nat} {w : World} {B : Nat} {A : Option Addr} (h : Rv w B A (bls T n)) {i : Nat} (hi : i < n) : ∃ b o, A = some ⟨b, o, none⟩ ∧ b < B ∧ w.cell? ⟨b, o + i, none⟩ = some (.bool (T i)) := h.at_ (bls_get T hi)
theorem all11_next (T : Nat → Bool) (i : Nat) : all11 T (i + 1) = all11 T i ++ if T i then [i] else [] := by
  unfold all11
  rw [List.range_succ, List.filter_append]
  congr 1
  cases h : T i <;> simp [h]
set_option maxHeartbeats 1000000 in
theorem rints11_yes (A B : Option Addr) (xs : List Nat) (n c d : Nat) (w : World) (hl : xs.length = n) (hr : Rd w w.heap.size A xs) (hs : Rd w w.heap.size B xs) (hn : n ≤ 1000000) :
    Calls Try.prog 17 #[.slice A n c, .slice B n d] w fun en w' => en = .returned (.bool true) ∧ w.grownBy w' none := by
  have HL := Lib.hid hl
  have HR := Lib.hid hr
  have HS := Lib.hid hs
  clear hl hr hs
  go_enter Try.func17, Try.ntmps17
  go_wp2_with fail
  go_loopw [5] (fun i wr => ∃ k : Nat, i = .int .i64 (k : Int) ∧ k ≤ n ∧ Hid (w.grownBy wr none)) (fun i _ => n - (intOf i).toNat)
  case atStart => exact ⟨0, rfl, by omega, Lib.hid (World.grownBy.refl _ _)⟩
  case round =>
    obtain ⟨k, rfl, hk, HG⟩ := hrel
    by_cases ht : k < n
    · obtain ⟨a, o, hA, _, ca⟩ := Rd.at_ (Rd.below HR.out (grown7_below HG.out) (Nat.le_refl _)) (show k < xs.length by have := HL.out; omega)
      obtain ⟨b, q, hB, _, cb⟩ := Rd.at_ (Rd.below HS.out (grown7_below HG.out) (Nat.le_refl _)) (show k < xs.length by have := HL.out; omega)
      subst hA
      subst hB
      obtain ⟨x, hx⟩ : ∃ x, nth xs k = x := ⟨_, rfl⟩
      rw [hx] at ca cb
      have hself : ((x : Int) != (x : Int)) = false := by simp
      have hi0 : (0 : Int) ≤ (k : Int) := by omega
      have hi1 : (k : Int) < (n : Int) := by omega
      clear hx
      go_wp2_with fail
      go_region
      go_wp2_with fail
      go_roundw
      case rel => exact ⟨k + 1, by go_num, by omega, Lib.hid (HG.out.trans (grown7_drew _ _))⟩
      case measure => simp [intOf]; omega
    · go_wp2_with fail
      go_ret
      exact ⟨rfl, HG.out⟩
end Go.Proofs.Ytllcmjdfgbiijaa
namespace Go.Proofs.Ytllcmjdfgbiijaa
open Go.RowKit
set_option maxRecDepth 100000
/-- The cells of a list of arrows. -/
def acs : List (Int × Int) → List Value
  | [] => []
  | p :: r => .int .i64 p.1 :: .int .i64 p.2 :: acs r
/-- The arrow at a place. -/
def arr (l : List (Int × Int)) (j : Nat) : Int × Int := l.getD j (0, 0)
theorem acs_len (l : List (Int × Int)) : (acs l).length = l.length * 2 := by
  induction l with
  | nil => rfl
  | cons p r ih => simp [acs, ih]; omega
theorem acs_append (l m : List (Int × Int)) : acs (l ++ m) = acs l ++ acs m := by
  induction l with
  | nil => rfl
  | cons p r ih => simp [acs, ih]
theorem acs_get {l : List (Int × Int)} {j : Nat} (h : j < l.length) : (acs l)[j * 2]? = some (.int .i64 (arr l j).1) ∧ (acs l)[j * 2 + 1]? = some (.int .i64 (arr l j).2) := by
  induction l generalizing j with
  | nil => simp at h
  | cons p r ih =>
    cases j with
    | zero => simp [acs, arr]
    | succ j =>
      obtain ⟨h1, h2⟩ := ih (j := j) (by simpa using h)
      have e1 : (j + 1) * 2 = j * 2 + 1 + 1 := by omega
      have e2 : arr (p :: r) (j + 1) = arr r j := by simp [arr]
      rw [e1, e2]
      exact ⟨by simpa [acs] using h1, by simpa [acs] using h2⟩
theorem take_arr {l : List (Int × Int)} {k : Nat} (h : k < l.length) : l.take (k + 1) = l.take k ++ [arr l k] := by
  rw [List.take_add_one, List.getElem?_eq_getElem h]
  simp [arr, List.getElem?_eq_getElem h]
/-- The slice at A reads as those arrows. -/
def Aq (w : World) (B : Nat) (A : Option Addr) (l : List (Int × Int)) : Prop := Rv w B A (acs l)
theorem Aq.at_ {w : World} {B : Nat} {A : Option Addr} {l : List (Int × Int)} {k : Nat} (h : Aq w B A l) (hk : k < l.length) :
    ∃ b o, A = some ⟨b, o, none⟩ ∧ b < B ∧ w.cell? ⟨b, o + k * 2, none⟩ = some (.int .i64 (arr l k).1) ∧ w.cell? ⟨b, o + k * 2 + 1, none⟩ = some (.int .i64 (arr l k).2) := by
  obtain ⟨b, o, h1, h2, h3⟩ := h (by intro e; have := acs_len l; rw [e] at this; simp at this; omega)
  obtain ⟨h4, h5⟩ := acs_get hk
  exact ⟨b, o, h1, h2, h3 _ _ h4, by rw [Nat.add_assoc]; exact h3 _ _ h5⟩
/-- A list of ints at the head of a block. -/
def Ib13 (w : World) (g n : Nat) (h : Nat → Nat) : Prop := ∃ cs : Array Value, Blk w g 3 cs ∧ n ≤ cs.size ∧ ∀ j, j < n → cs[j]? = some (.int .i64 ((h j : Nat) : Int))
theorem Ib13.lt {w : World} {g n : Nat} {h : Nat → Nat} (q : Ib13 w g n h) : g < w.heap.size := by
  obtain ⟨cs, q, _⟩ := q
  exact q.lt
theorem Ib13.below {w w' : World} {g n B : Nat} {h : Nat → Nat} (q : Ib13 w g n h) (hb : Below B w w') (hg : g < B) : Ib13 w' g n h := by
  obtain ⟨cs, h1, h2⟩ := q
  exact ⟨cs, h1.below hb hg, h2⟩
theorem Ib13.grown {w w' : World} {g n : Nat} {h : Nat → Nat} {row : Option Nat} (q : Ib13 w g n h) (hb : w.grownBy w' row) (hr : some g ≠ row) : Ib13 w' g n h := by
  obtain ⟨cs, h1, h2⟩ := q
  exact ⟨cs, h1.grown hb hr, h2⟩
theorem Ib13.far {w : World} {g n : Nat} {h : Nat → Nat} (q : Ib13 w g n h) {p : Addr} (hp : g ≠ p.block) (u : Value) : Ib13 (w.setCell p u) g n h := by
  obtain ⟨cs, h1, h2⟩ := q
  exact ⟨cs, h1.far hp u, h2⟩
theorem Ib13.cells {w : World} {g n k : Nat} {h : Nat → Nat} (q : Ib13 w g n h) (hk : k < n) : w.cell? ⟨g, k, none⟩ = some (.int .i64 ((h k : Nat) : Int)) ∧ w.frozen? ⟨g, k, none⟩ = false := by
  obtain ⟨cs, h1, h2, h3⟩ := q
  exact ⟨by rw [h1.cell]; exact h3 k hk, h1.frozen k⟩
theorem Ib13.put {w : World} {g n k : Nat} {h : Nat → Nat} (q : Ib13 w g n h) (hk : k < n) (x : Nat) : Ib13 (w.setCell ⟨g, k, none⟩ (.int .i64 (x : Int))) g n (upd h k x) := by
  obtain ⟨cs, h1, h2, h3⟩ := q
  refine ⟨_, h1.set_ _ _, by simpa using h2, fun j hj => ?_⟩
  by_cases h5 : j = k
  · subst h5
    rw [upd_at, Array.getElem?_setIfInBounds_self_of_lt (by omega)]
  · rw [upd_far _ _ h5, Array.getElem?_setIfInBounds_ne (by omega), h3 j hj]
theorem Ib13.congr {w : World} {g n : Nat} {h h' : Nat → Nat} (q : Ib13 w g n h) (hh : ∀ j, j < n → h j = h' j) : Ib13 w g n h' := by
  obtain ⟨cs, h1, h2, h3⟩ := q
  exact ⟨cs, h1, h2, fun j hj => by rw [← hh j hj]; exact h3 j hj⟩
theorem Ib13.rd {w : World} {g : Nat} {xs : List Nat} {h : Nat → Nat} (q : Ib13 w g xs.length h) (hx : ∀ j, j < xs.length → nth xs j = h j) : Rd w w.heap.size (some ⟨g, 0, none⟩) xs := fun _ =>
  ⟨g, 0, rfl, q.lt, fun k hk => by rw [Nat.zero_add, hx k hk]; exact (q.cells hk).1⟩
/-- A graph: block E where the arrows of each number lead, block I how many lead to it; all of it lies below block B. -/
structure Gr13 (w : World) (B E I n : Nat) (A : List (Nat × Nat)) : Prop where
  ends : ∃ es : Array Value, Blk w E 26 es ∧ es.size = n ∧ ∀ k, k < n → ∃ Ak ck, es[k]? = some (.slice Ak (outs A k).length ck) ∧ Rd w B Ak (outs A k)
  into : Ib13 w I n (rem13 A [])
  eb : E < B
  ib : I < B
  part : In13 A n
  most : n ≤ 4096
  many : A.length ≤ 1000000
def gv13 (E I n : Nat) : Value := .agg #[.slice (some ⟨E, 0, none⟩) n n, .slice (some ⟨I, 0, none⟩) n n]
theorem Gr13.below {w w' : World} {B C E I n : Nat} {A : List (Nat × Nat)} (h : Gr13 w B E I n A) (hb : Below C w w') (hC : B ≤ C) : Gr13 w' B E I n A := by
  obtain ⟨es, h1, h2, h3⟩ := h.ends
  refine ⟨⟨es, h1.below hb (by have := h.eb; omega), h2, fun k hk => ?_⟩, h.into.below hb (by have := h.ib; omega), h.eb, h.ib, h.part, h.most, h.many⟩
  obtain ⟨Ak, ck, h4, h5⟩ := h3 k hk
  exact ⟨Ak, ck, h4, h5.below hb hC⟩
theorem Gr13.row {w : World} {B E I n k : Nat} {A : List (Nat × Nat)} (h : Gr13 w B E I n A) (hk : k < n) : ∃ Ak ck, w.cell? ⟨E, k, none⟩ = some (.slice Ak (outs A k).length ck) ∧ Rd w B Ak (outs A k) := by
  obtain ⟨es, h1, h2, h3⟩ := h.ends
  obtain ⟨Ak, ck, h4, h5⟩ := h3 k hk
  exact ⟨Ak, ck, by rw [h1.cell]; exact h4, h5⟩
theorem outs_nth {A : List (Nat × Nat)} {n i k : Nat} (h : In13 A n) (hk : k < (outs A i).length) : (i, nth (outs A i) k) ∈ A ∧ nth (outs A i) k < n := by
  have h1 : nth (outs A i) k ∈ outs A i := by rw [nth_in hk]; exact List.getElem_mem hk
  have h2 := outs_mem.1 h1
  exact ⟨h2, (h _ h2).2⟩
set_option maxHeartbeats 1000000 in
theorem has13_any (E I n : Nat) (i : Int) (w : World) (b : Bool) (hb : b = decide (0 ≤ i ∧ i < (n : Int))) :
    Calls Try.prog 65 #[gv13 E I n, .int .i64 i] w fun e w' => e = .returned (.bool b) ∧ Below w.heap.size w w' := by
  have hk := Blk.new w 72 #[.slice (some ⟨E, 0, none⟩) n n, .slice (some ⟨I, 0, none⟩) n n]
  have c0 := hk.cell 0
  have hb1 := b1' w (.cells #[.slice (some ⟨E, 0, none⟩) n n, .slice (some ⟨I, 0, none⟩) n n] 72)
  have HB := Lib.hid hb
  unfold gv13
  clear hk hb
  by_cases h1 : 0 ≤ i
  · go_enter Try.func65, Try.ntmps65
    go_wp2_with fail
    go_ret
    exact ⟨by rw [HB.out, show decide (0 ≤ i ∧ i < (n : Int)) = decide (i < (n : Int)) by simp [h1]]; rfl, hb1⟩
  · go_enter Try.func65, Try.ntmps65
    go_wp2_with fail
    go_ret
    exact ⟨by rw [HB.out, decide_eq_false (by omega)]; rfl, hb1⟩
set_option maxHeartbeats 1000000 in
theorem pop13_any (g r m cc a : Nat) (w : World) (h : w.cell? ⟨g, 0, none⟩ = some (.slice (some ⟨r, 0, none⟩) (m + 1) cc)) (hf : w.frozen? ⟨g, 0, none⟩ = false) (hl : w.cell? ⟨r, m, none⟩ = some (.int .i64 (a : Int))) (hc : m + 1 ≤ cc) (hm : m ≤ 1000000) :
    Calls Try.prog 68 #[.pointer (some ⟨g, 0, none⟩)] w fun e w' => e = .returned (.int .i64 (a : Int)) ∧ w' = w.setCell ⟨g, 0, none⟩ (.slice (some ⟨r, 0, none⟩) m cc) := by
  have hw : IntKind.i64.wrap (((m + 1 : Nat) : Int) - 1) = (m : Int) := by rw [IntKind.wrap_i64]; omega
  obtain ⟨k, hk⟩ : ∃ k, m + 1 = k := ⟨_, rfl⟩
  rw [hk] at h hw hc
  have h0 : (0 : Int) ≤ (m : Int) := by omega
  have h1 : (m : Int) < (k : Int) := by omega
  have h2 : (m : Int) ≤ (cc : Int) := by omega
  clear hk
  go_enter Try.func68, Try.ntmps68
  go_wp2_with fail
  go_ret
  exact ⟨rfl, rfl⟩
theorem nil_eq13 (w : World) (b o n c : Nat) : (binOp .eql 26 (.slice (some ⟨b, o, none⟩) n c) (.slice none 0 0)).run Try.prog w = .ok (.bool false) w := by kernel_rfl
theorem Ib13.of_own {w : World} {base g c n : Nat} {xs : List Nat} (h : w.ownsRow base 3 1 (.slice (some ⟨g, 0, none⟩) n c) n (ints xs)) (hl : xs.length = n) : Ib13 w g n (nth xs) := by
  rcases h.2 with ⟨h0, _⟩ | ⟨b, cap, cur, hv, hb, hh, hnc, hcm, hcs, htk⟩
  · cases h0
  · injection hv with hA _ hc
    injection hA with hA
    injection hA with hA
    subst hA hc
    rw [Nat.mul_one] at hcs htk
    refine ⟨cur, hh, by omega, fun j hj => ?_⟩
    rw [← ints_get (by omega), ← htk, List.getElem?_take_of_lt hj, Array.getElem?_toList]
/-- A copy of a list. -/
def RetB13 (w : World) (xs : List Nat) (e : Ending) (w' : World) : Prop := ∃ g c, e = .returned (.slice (some ⟨g, 0, none⟩) xs.length c) ∧ w.heap.size ≤ g ∧ Ib13 w' g xs.length (nth xs) ∧ Below w.heap.size w w'
set_option maxHeartbeats 2000000 in
theorem clone13_any (b n c : Nat) (xs : List Nat) (w : World) (hl : xs.length = n) (hr : Rd w w.heap.size (some ⟨b, 0, none⟩) xs) (hn : n ≤ 1000000) :
    Calls Try.prog 67 #[.slice (some ⟨b, 0, none⟩) n c] w (RetB13 w xs) := by
  have HP : Hid (RetB13 w xs = fun e w' => ∃ g c, e = .returned (.slice (some ⟨g, 0, none⟩) xs.length c) ∧ w.heap.size ≤ g ∧ Ib13 w' g xs.length (nth xs) ∧ Below w.heap.size w w') := Lib.hid rfl
  have hq := nil_eq13 w b 0 n c
  have HR := Lib.hid (Rd.rv11 (hr.alloc (Nat.le_refl _) (.cells #[] 3)))
  have HL := Lib.hid hl
  clear hr hl
  go_enter Try.func67, Try.ntmps67
  go_wp2_with (at_builtin; go_loud (refine wpList_append_rv _ rfl (.tmp 5) (.tmp 6) 26 rfl w.heap.size 3 (.int .i64 0) 8 Try.underlying26 info_int11 rfl (by omega) (.slice (some ⟨w.heap.size, 0, none⟩) 0 0) 0 [] rfl (made7 w w.heap.size (Nat.le_refl _) 3) w.heap.size (some ⟨b, 0, none⟩) n (ints xs) _ (by rw [ints_length]; exact HL.out) rfl HR.out (ints_one xs) (by omega) (by simp) ?_); intro A' c' w3 hc3 hown3 hg3 hbl3)
  have HB3 : Hid (Below w.heap.size w w3) := Lib.hid ((b1' w _).grown hg3 (by simp) (fun r hr => by cases hr; exact Nat.le_refl _))
  have hA3 : ∃ g, A' = some ⟨g, 0, none⟩ ∧ w.heap.size ≤ g := by
    rcases hown3.out.2 with ⟨h0, _⟩ | ⟨g, cap, cur, hv, hb, _⟩
    · injection h0 with h0
      subst h0
      rcases hbl3 with h1 | h1 <;> cases h1
    · injection hv with hA
      exact ⟨g, hA, hb⟩
  obtain ⟨g, rfl, hg⟩ := hA3
  have HG := Lib.hid hg
  clear hg3 hbl3 hg
  go_wp2_with fail
  go_ret
  rw [HP.out]
  have h1 := hown3.out
  rw [Nat.zero_add, List.nil_append] at h1
  exact ⟨g, c', by rw [HL.out]; simp, HG.out, by rw [HL.out]; exact Ib13.of_own h1 HL.out, HB3.out⟩
end Go.Proofs.Ytllcmjdfgbiijaa
namespace Go.Proofs
open Go.Shelf
def Try.laysNm221_ren : Go.Shelf.Ren := ⟨fun | 21 => 73 | 27 => 76 | 28 => 77 | 35 => 78 | 39 => 79 | n => n, fun | 22 => 26 | 3 => 3 | 4 => 4 | 0 => 0 | n => n, fun | n => n⟩
theorem Try.laysNm221 : Go.Proofs.Lays2.n21 Try.prog Try.laysNm221_ren := {
  mixed := by kernel_rfl
  f21 := Try.func73.trans (congrArg some (by kernel_rfl))
  f27 := Try.func76.trans (congrArg some (by kernel_rfl))
  f28 := Try.func77.trans (congrArg some (by kernel_rfl))
  f35 := Try.func78.trans (congrArg some (by kernel_rfl))
  f39 := Try.func79.trans (congrArg some (by kernel_rfl))
  t0 := Try.underlying0
  a0 := Try.isAgg0
  z0 := Try.sizeOf0
  v0 := Try.zeroValue0
  t3 := Try.underlying3
  a3 := Try.isAgg3
  z3 := Try.sizeOf3
  v3 := Try.zeroValue3
  t4 := Try.underlying4
  a4 := Try.isAgg4
  z4 := Try.sizeOf4
  v4 := Try.zeroValue4
  t22 := Try.underlying26
  a22 := Try.isAgg26
  z22 := Try.sizeOf26
  v22 := Try.zeroValue26
  i3 := by kernel_rfl }
end Go.Proofs
namespace Go.Proofs.Ytllcmjdfgbiijaa
open Go.RowKit
set_option maxRecDepth 100000
theorem setCells13 (b : Nat) : ∀ (vs : List Value) (o : Nat) (w : World), (w.setCells b o vs).os = w.os ∧ (w.setCells b o vs).tape = w.tape ∧ (w.setCells b o vs).output = w.output ∧ (w.setCells b o vs).heap.size = w.heap.size ∧ ∀ k, k ≠ b → (w.setCells b o vs).heap[k]? = w.heap[k]?
  | [], _, _ => ⟨rfl, rfl, rfl, rfl, fun _ _ => rfl⟩
  | v :: r, o, w => by
    obtain ⟨h1, h2, h3, h4, h5⟩ := setCells13 b r (o + 1) (w.setCell ⟨b, o, none⟩ v)
    rw [World.setCells]
    refine ⟨h1.trans ?_, h2.trans ?_, h3.trans ?_, h4.trans (by simp [World.setCell]), fun k hk => (h5 k hk).trans (Below.heap_setCell w ⟨b, o, none⟩ v k hk)⟩
    all_goals rfl
theorem blk13_setCells {t : TypeId} {b : Nat} : ∀ (vs : List Value) (o : Nat) (w : World) (cs : Array Value), Blk w b t cs → o + vs.length ≤ cs.size → ∃ cs' : Array Value, Blk (w.setCells b o vs) b t cs' ∧ cs'.size = cs.size ∧ (∀ k, k < o → cs'[k]? = cs[k]?) ∧ (∀ k, k < vs.length → cs'[o + k]? = vs[k]?) ∧ (∀ k, o + vs.length ≤ k → cs'[k]? = cs[k]?)
  | [], o, w, cs, h, _ => ⟨cs, h, rfl, fun _ _ => rfl, fun k hk => by simp at hk, fun _ _ => rfl⟩
  | v :: r, o, w, cs, h, hl => by
    simp only [List.length_cons] at hl
    obtain ⟨cs', h1, h2, h3, h4, h5⟩ := blk13_setCells r (o + 1) (w.setCell ⟨b, o, none⟩ v) _ (h.set_ o v) (by simp; omega)
    refine ⟨cs', h1, by simpa using h2, fun k hk => ?_, fun k hk => ?_, fun k hk => ?_⟩
    · rw [h3 k (by omega), Array.getElem?_setIfInBounds_ne (by omega)]
    · cases k with
      | zero =>
        rw [Nat.add_zero, h3 o (by omega), Array.getElem?_setIfInBounds_self_of_lt (by omega)]
        rfl
      | succ k =>
        rw [show o + (k + 1) = o + 1 + k by omega, h4 k (by simp at hk; omega)]
        rfl
    · simp only [List.length_cons] at hk
      rw [h5 k (by omega), Array.getElem?_setIfInBounds_ne (by omega)]
/-- A block whose first cells are those of a list is a row of one's own. -/
theorem own13_of {w : World} {base g n cap : Nat} {e : TypeId} {cur : Array Value} {vs : List Value} (h : Blk w g e cur) (hb : base ≤ g) (hn : n ≤ cap) (hc : cap ≤ maxLen) (hs : cur.size = cap) (hl : vs.length = n) (hv : ∀ k, k < n → cur[k]? = vs[k]?) :
    w.ownsRow base e 1 (.slice (some ⟨g, 0, none⟩) n cap) n vs := by
  refine ⟨by omega, .inr ⟨g, cap, cur, rfl, hb, h, hn, hc, by omega, ?_⟩⟩
  rw [Nat.mul_one]
  apply List.ext_getElem?
  intro k
  rw [List.getElem?_take]
  split
  · next hk => rw [Array.getElem?_toList]; exact hv k hk
  · next hk => rw [List.getElem?_eq_none (by omega)]
/-- The number x put in at a place. -/
def ins13 (xs : List Nat) (p x : Nat) : List Nat := xs.take p ++ x :: xs.drop p
theorem ins13_len (xs : List Nat) {p : Nat} (x : Nat) (hp : p ≤ xs.length) : (ins13 xs p x).length = xs.length + 1 := by
  simp [ins13]
  omega
theorem ins13_low {xs : List Nat} {p x k : Nat} (hp : p ≤ xs.length) (hk : k < p) : (ints (ins13 xs p x))[k]? = (ints xs)[k]? := by
  simp only [ins13, ints, List.map_append, List.map_cons, List.map_take]
  rw [List.getElem?_append_left (by simp; omega), List.getElem?_take_of_lt hk]
theorem ins13_at {xs : List Nat} {p x : Nat} (hp : p ≤ xs.length) : (ints (ins13 xs p x))[p]? = some (.int .i64 (x : Int)) := by
  simp only [ins13, ints, List.map_append, List.map_cons, List.map_take]
  rw [List.getElem?_append_right (by simp; omega)]
  simp [show p - min p xs.length = 0 by omega]
theorem ins13_high {xs : List Nat} {p x k : Nat} (hp : p ≤ xs.length) (hk : p ≤ k) : (ints (ins13 xs p x))[k + 1]? = (ints xs)[k]? := by
  simp only [ins13, ints, List.map_append, List.map_cons, List.map_take, List.map_drop]
  rw [List.getElem?_append_right (by simp; omega)]
  rw [show k + 1 - (List.take p (List.map (fun (d : Nat) => Value.int .i64 (d : Int)) xs)).length = (k - p) + 1 by simp; omega]
  simp [show p + (k - p) = k by omega]
/-- What slices.Insert leaves behind. -/
def In13s (w : World) (base : Nat) (v : Value) (ys : List Nat) (e : Ending) (w' : World) : Prop :=
  ∃ A' c', e = .returned (.slice A' ys.length c') ∧ w'.ownsRow base 3 1 (.slice A' ys.length c') ys.length (ints ys) ∧ w.grownBy w' v.ownBlock ∧ ∀ r, (Value.slice A' ys.length c').ownBlock = some r → v.ownBlock = some r ∨ w.heap.size ≤ r
theorem insert13_any {base : Nat} {A : Option Addr} {n c p x vb : Nat} {xs : List Nat} (w : World) (hl : xs.length = n) (ho : w.ownsRow base 3 1 (.slice A n c) n (ints xs)) (hp : p ≤ n) (hv : Blk w vb 3 #[.int .i64 (x : Int)])
    (hne : (Value.slice A n c).ownBlock ≠ some vb) (hn : n ≤ 1000000) (hbase : base ≤ w.heap.size) :
    Calls Try.prog 73 #[.slice A n c, .int .i64 (p : Int), .slice (some ⟨vb, 0, none⟩) 1 1] w (In13s w base (.slice A n c) (ins13 xs p x)) := by
  have hyl : (ins13 xs p x).length = n + 1 := by rw [ins13_len _ _ (by omega), hl]
  have hvs : ∀ j u, [Value.int .i64 (x : Int)][j]? = some u → w.cell? ⟨vb, 0 + j, none⟩ = some u := by
    intro j u hj
    rw [Nat.zero_add, hv.cell]
    simpa using hj
  have h1v : ∀ u ∈ [Value.int .i64 (x : Int)], u.oneCell' = true := by
    intro u hu
    rw [List.mem_singleton] at hu
    subst hu
    rfl
  have h1c := ints_one xs
  have hcl : (ints xs).length = n := by rw [ints_length, hl]
  unfold In13s
  rw [hyl]
  by_cases hroom : n + 1 ≤ c
  · -- there is room: the row is not nil
    rcases ho.2 with ⟨h0, _⟩ | ⟨b, cap, cur, hvv, hbb, hh, hnc, hcm, hcs, htk⟩
    · injection h0 with _ _ h2
      omega
    injection hvv with hA _ hcc
    subst hA hcc
    rw [Nat.mul_one] at hcs htk
    have hbk : Blk w b 3 cur := hh
    have hcur : ∀ j, j < n → cur[j]? = (ints xs)[j]? := fun j hj => by
      rw [← htk, List.getElem?_take_of_lt hj, Array.getElem?_toList]
    have hvb : vb ≠ b := fun e => hne (by rw [e]; rfl)
    have hc63 : c ≤ 9223372036854775807 := by unfold maxLen at hcm; omega
    have hgrow : ∀ (W : World), W.os = w.os → W.tape = w.tape → W.output = w.output → W.heap.size = w.heap.size → (∀ k, k ≠ b → W.heap[k]? = w.heap[k]?) → w.grownBy W (Value.slice (some ⟨b, 0, none⟩) n c).ownBlock := fun W e1 e2 e3 e4 e5 =>
      ⟨e1, e2, e3, by omega, fun k _ hk => e5 k (fun e => hk (by rw [e]; rfl))⟩
    by_cases hend : p = n
    · subst hend
      refine (Any2.slices_Insert_int_end_room Try.laysNm221 b 0 p c vb 0 1 1 [.int .i64 (x : Int)] w (by omega) hroom hc63 rfl (fun j hj => ?_) (fun j hj => hbk.frozen _) hvs h1v).mono ?_
      · rw [hbk.cell, Array.getElem?_eq_getElem (by omega)]
        rfl
      · rintro e w' ⟨rfl, rfl⟩
        obtain ⟨cs', q1, q2, q3, q4, q5⟩ := blk13_setCells (t := 3) [.int .i64 (x : Int)] (0 + p) w cur hbk (by simp; omega)
        obtain ⟨e1, e2, e3, e4, e5⟩ := setCells13 b [.int .i64 (x : Int)] (0 + p) w
        refine ⟨_, _, rfl, own13_of q1 hbb hroom hcm (by omega) (by rw [ints_length, hyl]) (fun k hk => ?_), hgrow _ e1 e2 e3 e4 e5, fun r hr => .inl hr⟩
        rcases (show k < p ∨ k = p by omega) with hk | rfl
        · rw [q3 k (by omega), hcur k hk, ins13_low (by omega) hk]
        · rw [ins13_at (by omega)]
          simpa using q4 0 (by simp)
    · have hpn : p < n := by omega
      refine (Any2.slices_Insert_int_shift Try.laysNm221 b 0 n c p vb 0 1 1 (ints xs) [.int .i64 (x : Int)] w hpn (by omega) hroom hc63 hvb hcl rfl (fun j u hj => ?_) (fun j hj => ?_) (fun j hj => hbk.frozen _) hvs h1c h1v 3 3 1 cur.size ?_ ?_ (by omega) (hv.frozen _) (hv.frozen _)).mono ?_
      · have hjn : j < n := by
          have := (List.getElem?_eq_some_iff.1 hj).1
          omega
        rw [Nat.zero_add, hbk.cell, hcur j hjn, hj]
      · rw [Nat.zero_add, hbk.cell, Array.getElem?_eq_getElem (by omega)]
        rfl
      · unfold World.shape?
        rw [show w.heap[vb]? = _ from hv]
        rfl
      · unfold World.shape?
        rw [show w.heap[b]? = _ from hbk]
      · rintro e w' ⟨rfl, rfl⟩
        have hdl : ((ints xs).drop p).length = n - p := by rw [List.length_drop, hcl]
        obtain ⟨cs1, q1, q2, q3, q4, q5⟩ := blk13_setCells (t := 3) ((ints xs).drop p) (0 + (p + 1)) w.drew cur hbk (by omega)
        obtain ⟨e1, e2, e3, e4, e5⟩ := setCells13 b ((ints xs).drop p) (0 + (p + 1)) w.drew
        obtain ⟨cs2, r1, r2, r3, r4, r5⟩ := blk13_setCells (t := 3) [.int .i64 (x : Int)] (0 + p) _ cs1 q1 (by simp; omega)
        obtain ⟨f1, f2, f3, f4, f5⟩ := setCells13 b [.int .i64 (x : Int)] (0 + p) (w.drew.setCells b (0 + (p + 1)) ((ints xs).drop p))
        refine ⟨_, _, rfl, own13_of r1 hbb hroom hcm (by omega) (by rw [ints_length, hyl]) (fun k hk => ?_), hgrow _ (f1.trans e1) (f2.trans e2) (f3.trans e3) (f4.trans e4) (fun k hk => (f5 k hk).trans (e5 k hk)), fun r hr => .inl hr⟩
        rcases (show k < p ∨ k = p ∨ p < k by omega) with hkp | rfl | hkp
        · rw [r3 k (by omega), q3 k (by omega), hcur k (by omega), ins13_low (by omega) hkp]
        · rw [ins13_at (by omega)]
          simpa using r4 0 (by simp)
        · obtain ⟨j, rfl⟩ : ∃ j, k = p + 1 + j := ⟨k - p - 1, by omega⟩
          rw [r5 _ (by simp <;> omega), show p + 1 + j = 0 + (p + 1) + j by omega, q4 j (by omega), show 0 + (p + 1) + j = (p + j) + 1 by omega, ins13_high (by omega) (by omega), List.getElem?_drop]
  · -- no room: a new row
    have hnc : n ≤ c := by
      rcases ho.2 with ⟨h0, _⟩ | ⟨b, cap, cur, hvv, _, _, hnc, _⟩
      · injection h0 with _ h1 h2
        omega
      · injection hvv with _ _ hcc
        omega
    have hcap : n + 1 ≤ grownCap w (n + 1) c 3 := grownCap_ge _ _ _ _
    have hcapm : grownCap w (n + 1) c 3 ≤ maxLen := grownCap_le_maxLen _ _ _ _ (by unfold maxLen; omega)
    by_cases hend : p = n
    · subst hend
      refine (Any2.slices_Insert_int_end_grow Try.laysNm221 A p c vb 0 1 1 (ints xs) [.int .i64 (x : Int)] w (by omega) hnc (by omega) (by omega) hcl rfl (fun h => ?_) (fun a ha j u hj => ?_) hvs h1v).mono ?_
      · rcases ho.2 with ⟨h0, h1⟩ | ⟨b, cap, cur, hvv, _⟩
        · exact h1
        · injection hvv with hA
          rw [h] at hA
          cases hA
      · rcases ho.2 with ⟨h0, h1⟩ | ⟨b, cap, cur, hvv, _⟩
        · injection h0 with hA
          rw [ha] at hA
          cases hA
        · injection hvv with hA
          rw [ha] at hA
          injection hA with hA
          subst hA
          exact ho.cells (g := b) (by rw [ha]; rfl) j u hj
      · rintro e w' ⟨rfl, rfl⟩
        refine ⟨_, _, rfl, own13_of (Blk.new w.drew _ _) hbase hcap hcapm ?_ (by rw [ints_length, hyl]) (fun k hk => ?_), ⟨rfl, rfl, rfl, by simp, fun k hk _ => Below.heap_alloc w.drew _ k hk⟩, fun r hr => .inr (by cases hr; exact Nat.le_refl _)⟩
        · show ((ints xs ++ [Value.int .i64 (x : Int)]).toArray ++ Builtin.zeroCells (Value.int .i64 0).cells (grownCap w (p + 1) c 3 - (p + 1))).size = grownCap w (p + 1) c 3
          simp [size_zeroCells, hcl, Value.cells]
          omega
        · rw [Array.getElem?_append_left (by simp; omega)]
          rcases (show k < p ∨ k = p by omega) with hk2 | rfl
          · rw [ins13_low (by omega) hk2]
            simp only [List.getElem?_toArray]
            rw [List.getElem?_append_left (by omega)]
          · rw [ins13_at (by omega)]
            simp only [List.getElem?_toArray]
            rw [List.getElem?_append_right (by omega), hcl, Nat.sub_self]
            rfl
    · have hpn : p < n := by omega
      rcases ho.2 with ⟨h0, h1⟩ | ⟨b, cap, cur, hvv, hbb, hh, _, hcm, hcs, htk⟩
      · omega
      injection hvv with hA _ hcc
      subst hA hcc
      refine (Any2.slices_Insert_int_grow Try.laysNm221 b 0 n c p vb 0 1 1 (ints xs) [.int .i64 (x : Int)] w hpn (by omega) hnc (by omega) (by omega) hcl rfl (fun j u hj => ?_) hvs h1c h1v).mono ?_
      · have := ho.cells (g := b) rfl j u hj
        rw [Go.WideShapes.add_plain] at this
        exact this
      · rintro e w' ⟨rfl, hw⟩
        have hdl : ((ints xs).drop p).length = n - p := by rw [List.length_drop, hcl]
        generalize hcu : ((ints xs).take p).toArray ++ Builtin.zeroCells (Value.int .i64 0).cells (n + 1 - p) ++ Builtin.zeroCells (Value.int .i64 0).cells (grownCap w (n + 1) c 3 - (n + 1)) = cu
        have hcus : cu.size = grownCap w (n + 1) c 3 := by
          rw [← hcu]
          simp [size_zeroCells, hcl, Value.cells]
          omega
        have hculow : ∀ k, k < p → cu[k]? = (ints xs)[k]? := fun k hk => by
          rw [← hcu, Array.getElem?_append_left (by simp [hcl]; omega), Array.getElem?_append_left (by simp [hcl]; omega), List.getElem?_toArray, List.getElem?_take_of_lt hk]
        obtain rfl : w' = (((w.alloc (.cells cu 3)).drew.setCells w.heap.size p [.int .i64 (x : Int)]).drew).setCells w.heap.size (p + 1) ((ints xs).drop p) := by
          rw [hw, ← hcu]
          rfl
        clear hw
        have hb0 : Blk (w.alloc (.cells cu 3)).drew w.heap.size 3 cu := Blk.new w _ _
        obtain ⟨cs1, q1, q2, q3, q4, q5⟩ := blk13_setCells (t := 3) [.int .i64 (x : Int)] p _ cu hb0 (by simp; omega)
        obtain ⟨e1, e2, e3, e4, e5⟩ := setCells13 w.heap.size [.int .i64 (x : Int)] p (w.alloc (.cells cu 3)).drew
        have q1' : Blk ((w.alloc (.cells cu 3)).drew.setCells w.heap.size p [.int .i64 (x : Int)]).drew w.heap.size 3 cs1 := q1
        obtain ⟨cs2, r1, r2, r3, r4, r5⟩ := blk13_setCells (t := 3) ((ints xs).drop p) (p + 1) _ cs1 q1' (by omega)
        obtain ⟨f1, f2, f3, f4, f5⟩ := setCells13 w.heap.size ((ints xs).drop p) (p + 1) ((w.alloc (.cells cu 3)).drew.setCells w.heap.size p [.int .i64 (x : Int)]).drew
        refine ⟨_, _, rfl, own13_of r1 hbase hcap hcapm (by show cs2.size = grownCap w (n + 1) c 3; omega) (by rw [ints_length, hyl]) (fun k hk => ?_), ⟨f1.trans e1, f2.trans e2, f3.trans e3, ?_, fun k hk _ => ?_⟩, fun r hr => .inr (by cases hr; exact Nat.le_refl _)⟩
        · rcases (show k < p ∨ k = p ∨ p < k by omega) with hkp | rfl | hkp
          · rw [r3 k (by omega), q3 k (by omega), hculow k hkp, ins13_low (by omega) hkp]
          · rw [r3 k (by omega), ins13_at (by omega)]
            simpa using q4 0 (by simp)
          · obtain ⟨j, rfl⟩ : ∃ j, k = p + 1 + j := ⟨k - p - 1, by omega⟩
            rw [r4 j (by omega), show p + 1 + j = (p + j) + 1 by omega, ins13_high (by omega) (by omega), List.getElem?_drop]
        · have h1 : ((w.alloc (.cells cu 3)).drew.setCells w.heap.size p [.int .i64 (x : Int)]).drew.heap.size = w.heap.size + 1 := by
            rw [show ((w.alloc (.cells cu 3)).drew.setCells w.heap.size p [.int .i64 (x : Int)]).drew.heap.size = ((w.alloc (.cells cu 3)).drew.setCells w.heap.size p [.int .i64 (x : Int)]).heap.size from rfl, e4]
            simp [World.drew]
          omega
        · exact (f5 k (by omega)).trans ((e5 k (by omega)).trans (Below.heap_alloc w _ k hk))
end Go.Proofs.Ytllcmjdfgbiijaa
namespace Go.Proofs.Ytllcmjdfgbiijaa
open Go.RowKit
set_option maxRecDepth 100000
set_option maxHeartbeats 1000000 in
theorem within14 (i n : Int) (b : Bool) (hb : b = true ↔ 0 ≤ i ∧ i < n) (w : World) :
    Calls Try.prog 62 #[.int .i64 i, .int .i64 n] w fun e w' => e = .returned (.bool b) ∧ w' = w := by
  by_cases h0 : 0 ≤ i
  · by_cases h1 : i < n
    · obtain rfl : b = true := hb.2 ⟨h0, h1⟩
      clear hb
      go_enter Try.func62, Try.ntmps62
      go_wp2_with fail
      go_ret
      exact ⟨rfl, rfl⟩
    · obtain rfl : b = false := by
        cases b with
        | false => rfl
        | true => exact absurd (hb.1 rfl).2 h1
      clear hb
      go_enter Try.func62, Try.ntmps62
      go_wp2_with fail
      go_ret
      exact ⟨rfl, rfl⟩
  · obtain rfl : b = false := by
      cases b with
      | false => rfl
      | true => exact absurd (hb.1 rfl).1 h0
    clear hb
    go_enter Try.func62, Try.ntmps62
    go_wp2_with fail
    go_ret
    exact ⟨rfl, rfl⟩
theorem us14_nat {α : Type} [Inhabited α] (us : α → Bool) (xs : List α) (k : Nat) : us14 us xs (k : Int) = us (gt14 xs k) := by
  simp [us14]
theorem us14_neg {α : Type} [Inhabited α] (us : α → Bool) (xs : List α) {i : Int} (h : i < 0) : us14 us xs i = false := by
  have : ¬ 0 ≤ i := by omega
  simp [us14, this]
theorem us14_out {α : Type} [Inhabited α] {us : α → Bool} (hus : us default = false) {xs : List α} {i : Int} (h : (xs.length : Int) ≤ i) : us14 us xs i = false := by
  rw [us14, gt14_out (by omega), hus, Bool.and_false]
theorem us14_off {α : Type} [Inhabited α] {us : α → Bool} (hus : us default = false) {xs : List α} {i : Int} (h : ¬ (0 ≤ i ∧ i < (xs.length : Int))) : us14 us xs i = false := by
  by_cases h0 : 0 ≤ i
  · exact us14_out hus (by omega)
  · exact us14_neg us xs (by omega)
theorem at14_no {α : Type} [Inhabited α] {us : α → Bool} {xs : List α} {i : Int} (h : us14 us xs i = false) : at14 us xs i = default := by rw [at14, h]; rfl
theorem at14_yes {α : Type} [Inhabited α] {us : α → Bool} {xs : List α} {i : Int} (h : us14 us xs i = true) : at14 us xs i = gt14 xs i.toNat := by rw [at14, if_pos h]
theorem at14_nat {α : Type} [Inhabited α] {us : α → Bool} {xs : List α} {k : Nat} (h : us (gt14 xs k) = true) : at14 us xs (k : Int) = gt14 xs k := by rw [at14_yes (by rw [us14_nat]; exact h)]; simp
/-- May a list be: not too long, its last one used, and all that are not are zero? -/
def Tidy14 {α : Type} [Inhabited α] (us : α → Bool) (xs : List α) (most : Nat) : Prop := xs.length ≤ most ∧ en14 us xs xs.length = xs.length ∧ ∀ j, j < xs.length → us (gt14 xs j) = false → gt14 xs j = default
end Go.Proofs.Ytllcmjdfgbiijaa
namespace Go.Proofs.Ytllcmjdfgbiijaa
open Go.RowKit
set_option maxRecDepth 100000
theorem def14C : usC default = false := rfl
set_option maxHeartbeats 4000000 in
theorem at14C_no (A : Option Addr) (xs : List Bool) (n c : Nat) (i : Int) (w : World) (hl : xs.length = n) (hr : Lq clC w w.heap.size A xs) (hn : n ≤ 1000000) (hu : us14 usC xs i = false) :
    Calls Try.prog 58 #[.slice A n c, .int .i64 i, .func (.func 59) #[] #[]] w fun e w' => e = .returned (.tuple #[.bool false, .bool false]) ∧ Below w.heap.size w w' := by
  by_cases h : 0 ≤ i ∧ i < (n : Int)
  · obtain ⟨k, rfl⟩ : ∃ k : Nat, i = (k : Int) := ⟨i.toNat, by omega⟩
    have hk : k < n := by omega
    obtain ⟨b, o, hA, hab, hq⟩ := Lq.at_ len14C (by omega) hr (show k < xs.length by omega)
    subst hA
    rw [us14_nat] at hu
    rw [show gt14 xs k = false from hu] at hq
    have q0 : w.cell? ⟨b, o + k, none⟩ = some (.bool false) := by have h := hq 0 _ rfl; rwa [Nat.mul_one] at h
    have i0 : (0 : Int) ≤ (k : Int) := by omega
    have i1 : (k : Int) < (n : Int) := by omega
    have HW := Lib.hid (fun W => within14 (k : Int) (n : Int) true (by simp; omega) W)
    have HU := Lib.hid (fun W => used14C false false rfl W)
    clear hq hu hr hl h
    go_enter Try.func58, Try.ntmps58
    go_wp2_with fail
    refine (HW.out _).mono ?_
    rintro e w0 ⟨rfl, rfl⟩
    clear HW
    go_wp2_with fail
    refine (HU.out _).mono ?_
    rintro e w1 ⟨rfl, hb1⟩
    clear HU
    go_wp2_with fail
    go_ret2
    exact ⟨rfl, hb1⟩
  · have HW := Lib.hid (fun W => within14 i (n : Int) false (by simpa using h) W)
    clear hu hr hl h
    go_enter Try.func58, Try.ntmps58
    go_wp2_with fail
    refine (HW.out _).mono ?_
    rintro e w0 ⟨rfl, rfl⟩
    clear HW
    go_wp2_with fail
    go_ret2
    exact ⟨rfl, Below.refl _ _⟩
set_option maxHeartbeats 4000000 in
theorem at14C_yes (A : Option Addr) (xs : List Bool) (n c k : Nat) (xu : Bool) (w : World) (hl : xs.length = n) (hr : Lq clC w w.heap.size A xs) (hn : n ≤ 1000000) (hk : k < n) (hx : gt14 xs k = xu) (hu : usC xu = true) :
    Calls Try.prog 58 #[.slice A n c, .int .i64 (k : Int), .func (.func 59) #[] #[]] w fun e w' => e = .returned (.tuple #[.bool xu, .bool true]) ∧ Below w.heap.size w w' := by
  obtain ⟨b, o, hA, hab, hq⟩ := Lq.at_ len14C (by omega) hr (show k < xs.length by omega)
  subst hA
  rw [hx] at hq
  have HQ : Hid (w.cell? ⟨b, o + k, none⟩ = some (.bool xu)) := Lib.hid (by have h := hq 0 _ rfl; rwa [Nat.mul_one] at h)
  have HAB := Lib.hid hab
  have q0 := HQ.out
  have i0 : (0 : Int) ≤ (k : Int) := by omega
  have i1 : (k : Int) < (n : Int) := by omega
  have HW := Lib.hid (fun W => within14 (k : Int) (n : Int) true (by simp; omega) W)
  have HU := Lib.hid (fun W => used14C xu true hu W)
  clear hq hx hu hr hl hab
  go_enter Try.func58, Try.ntmps58
  go_wp2_with fail
  refine (HW.out _).mono ?_
  rintro e w0 ⟨rfl, rfl⟩
  clear HW
  go_wp2_with fail
  refine (HU.out _).mono ?_
  rintro e w1 ⟨rfl, hb1⟩
  have q1 := (hb1.cell (p := ⟨b, o + k, none⟩) HAB.out).trans HQ.out
  clear HU q0
  go_wp2_with fail
  go_ret2
  exact ⟨rfl, hb1⟩
end Go.Proofs.Ytllcmjdfgbiijaa
namespace Go.Proofs.Ytllcmjdfgbiijaa
open Go.RowKit
set_option maxRecDepth 100000
theorem info14T : (Try.prog.info? 35).map (fun i => (i.zero, i.size, i.bytes)) = some (some (.agg #[.bool false, .int .i64 0, .int .i64 0, .int .i64 0, .int .i64 0, .bool false]), 6, 48) := by kernel_rfl
theorem len14T (x : Tk14) : (clT x).length = 6 := rfl
end Go.Proofs.Ytllcmjdfgbiijaa
namespace Go.Proofs.Ytllcmjdfgbiijaa
open Go.RowKit
set_option maxRecDepth 100000
theorem fields14T : Try.prog.underlying 35 = some (.struct (Try.prog.fieldsOf 35)) := by kernel_rfl
theorem held14T : Try.prog.stoodInHeld 35 = false := by kernel_rfl
set_option maxHeartbeats 4000000 in
theorem neq14T (xu : Bool) (xc : Int) (xa : Int) (xk : Int) (xt : Int) (xo : Bool) (yu : Bool) (yc : Int) (ya : Int) (yk : Int) (yt : Int) (yo : Bool) (w : World) : (binOp .neq 35 (.agg #[.bool xu, .int .i64 xc, .int .i64 xa, .int .i64 xk, .int .i64 xt, .bool xo]) (.agg #[.bool yu, .int .i64 yc, .int .i64 ya, .int .i64 yk, .int .i64 yt, .bool yo])).run Try.prog w = .ok (.bool (!decide ((⟨xu, xc, xa, xk, xt, xo⟩ : Tk14) = ⟨yu, yc, ya, yk, yt, yo⟩))) w := by
  have u3 := Try.underlying3
  have u4 := Try.underlying4
  have a3 := Try.isAgg3
  have a4 := Try.isAgg4
  have z3 := Try.sizeOf3
  have z4 := Try.sizeOf4
  rw [run_neq_struct, show (10000 : Nat) = 9999 + 1 from rfl, run_equalIn_agg w 9999 35 _ _ fields14T held14T]
  simp only [Program.fieldsOf, Try.underlying35]
  go_simp
  by_cases e0 : xu = yu
  case neg => simp [e0]
  by_cases e1 : xc = yc
  case neg => simp [e0, e1]
  by_cases e2 : xa = ya
  case neg => simp [e0, e1, e2]
  by_cases e3 : xk = yk
  case neg => simp [e0, e1, e2, e3]
  by_cases e4 : xt = yt
  case neg => simp [e0, e1, e2, e3, e4]
  by_cases e5 : xo = yo
  case neg => simp [e0, e1, e2, e3, e4, e5]
  simp [e0, e1, e2, e3, e4, e5]
theorem def14T : usT default = false := rfl
end Go.Proofs.Ytllcmjdfgbiijaa
namespace Go.Proofs.Ytllcmjdfgbiijaa
open Go.RowKit
set_option maxRecDepth 100000
theorem info14H : (Try.prog.info? 43).map (fun i => (i.zero, i.size, i.bytes)) = some (some (.agg #[.int .i64 0, .int .i64 0, .int .i64 0, .int .i64 0, .int .i64 0]), 5, 40) := by kernel_rfl
theorem len14H (x : Th14) : (clH x).length = 5 := rfl
set_option maxHeartbeats 1000000 in
theorem used14H (xz : Int) (xf : Int) (xc : Int) (xq : Int) (xu : Int) (b : Bool) (hb : usH ⟨xz, xf, xc, xq, xu⟩ = b) (w : World) :
    Calls Try.prog 52 #[.agg #[.int .i64 xz, .int .i64 xf, .int .i64 xc, .int .i64 xq, .int .i64 xu]] w fun e w' => e = .returned (.bool b) ∧ Below w.heap.size w w' := by
  have hk := Blk.new w 43 #[.int .i64 xz, .int .i64 xf, .int .i64 xc, .int .i64 xq, .int .i64 xu]
  have c0 := hk.cell 0
  have hb1 := b1' w (.cells #[.int .i64 xz, .int .i64 xf, .int .i64 xc, .int .i64 xq, .int .i64 xu] 43)
  clear hk
  subst hb
  by_cases h0 : xz = 0
  · subst h0
    go_enter Try.func52, Try.ntmps52
    go_wp2_with fail
    go_ret
    exact ⟨rfl, hb1⟩
  · have HU : Hid (usH ⟨xz, xf, xc, xq, xu⟩ = (xz != 0)) := Lib.hid (by by_cases h : xz = 0 <;> simp [usH, h])
    clear h0
    go_enter Try.func52, Try.ntmps52
    go_wp2_with fail
    go_ret
    exact ⟨by rw [HU.out]; rfl, hb1⟩
end Go.Proofs.Ytllcmjdfgbiijaa
