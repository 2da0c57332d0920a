/-
  Words for memory: rows of elements of one cell each, appended to; slices of words of 64 bits.
-/
import Derived.Test.YtojdgcalpdbifaaMemV
namespace Go.Proofs.Ytojdgcalpdbifaa
open Go.RowKit
set_option maxRecDepth 100000

theorem wds_length (xs : List Nat) : (wds xs).length = xs.length := by simp [wds]
theorem wds_get {xs : List Nat} {k : Nat} (h : k < xs.length) : (wds xs)[k]? = some (.int .u64 ((nth xs k : Nat) : Int)) := by
  simp [wds, nth_in h, List.getElem?_eq_getElem h]
theorem wds_one (xs : List Nat) : ∀ u ∈ wds xs, u.oneCell' = true := by
  intro u hu
  simp only [wds, List.mem_map] at hu
  obtain ⟨d, _, rfl⟩ := hu
  rfl
theorem wds_append (xs ys : List Nat) : wds (xs ++ ys) = wds xs ++ wds ys := by simp [wds]

/-- The slice at A reads as the words xs; every cell lies below block B. -/
def Rq (w : World) (B : Nat) (A : Option Addr) (xs : List Nat) : Prop := Rv w B A (wds xs)
theorem Rq.at_ {w : World} {B : Nat} {A : Option Addr} {xs : List Nat} {k : Nat} (h : Rq w B A xs) (hk : k < xs.length) :
    ∃ b o, A = some ⟨b, o, none⟩ ∧ b < B ∧ w.cell? ⟨b, o + k, none⟩ = some (.int .u64 ((nth xs k : Nat) : Int)) := Rv.at_ h (wds_get hk)
theorem Rq.of_ru {w : World} {A : Option Addr} {xs : List Nat} (h : Ru w A xs) : Rq w w.heap.size A xs := by
  intro hx
  have hx' : xs ≠ [] := by rintro rfl; exact hx rfl
  obtain ⟨b, o, h1, h2⟩ := h hx'
  refine ⟨b, o, h1, World.block_lt_of_cell? w _ (h2 0 (List.length_pos_iff.2 hx')), fun k v hk => ?_⟩
  have hk2 : k < xs.length := by
    have := (List.getElem?_eq_some_iff.1 hk).1
    rwa [wds_length] at this
  rw [wds_get hk2] at hk
  injection hk with hk
  rw [← hk]
  exact h2 k hk2
theorem Rq.of_own {w : World} {base : Nat} {e : TypeId} {A : Option Addr} {c n : Nat} {xs : List Nat} (h : w.ownsRow base e 1 (.slice A n c) n (wds xs)) : Rq w w.heap.size A xs := Rv.of_own h
theorem Rq.none_nil {w : World} {B : Nat} {xs : List Nat} (h : Rq w B none xs) : xs = [] := by
  rcases xs with _ | ⟨y, r⟩
  · rfl
  · obtain ⟨_, _, h, _⟩ := h (by simp [wds])
    cases h
theorem Rq.nil (w : World) (B : Nat) (A : Option Addr) : Rq w B A [] := Rv.nil w B A
theorem Rq.lit (w : World) (t : TypeId) (xs : List Nat) : Rq (w.alloc (.cells (wds xs).toArray t)) (w.heap.size + 1) (some ⟨w.heap.size, 0, none⟩) xs := by
  have h := Rq.of_ru (Ru.lit w t xs)
  simpa using h

/-- A literal row is the call's own. -/
theorem owns_litv (w : World) (base : Nat) (e : TypeId) (vs : List Value) (hb : base ≤ w.heap.size) (hl : vs.length ≤ maxLen) :
    (w.alloc (.cells vs.toArray e)).ownsRow base e 1 (.slice (some ⟨w.heap.size, 0, none⟩) vs.length vs.length) vs.length vs :=
  ⟨by simp, .inr ⟨w.heap.size, vs.length, vs.toArray, rfl, hb, heap_alloc_new w _, Nat.le_refl _, hl, by simp, by simp⟩⟩
theorem made7 (w : World) (base : Nat) (hb : base ≤ w.heap.size) (e : TypeId) : (w.alloc (.cells #[] e)).ownsRow base e 1 (.slice (some ⟨w.heap.size, 0, none⟩) 0 0) 0 [] := owns_litv w base e [] hb (by simp)

theorem own7_keep {w w' : World} {base : Nat} {e : TypeId} {v : Value} {n : Nat} {xs : List Value} (h : w.ownsRow base e 1 v n xs) (hb : Below w.heap.size w w') : w'.ownsRow base e 1 v n xs := by
  have hlt := h.lt
  obtain ⟨h1, h2⟩ := h
  refine ⟨h1, ?_⟩
  rcases h2 with h2 | ⟨g, cap, cur, rfl, hg, hh, r⟩
  · exact .inl h2
  · exact .inr ⟨g, cap, cur, rfl, hg, by rw [hb.block g (hlt g rfl).2]; exact hh, r⟩
theorem own7_ne {w : World} {base : Nat} {e t : TypeId} {v : Value} {n g : Nat} {xs : List Value} {cs : Array Value} (h : w.ownsRow base e 1 v n xs) (hb : Blk w g t cs) (hne : t ≠ e) : v.ownBlock ≠ some g := by
  intro e'
  rcases h.2 with ⟨rfl, _⟩ | ⟨g', cap, cur, rfl, _, hh, _⟩
  · cases e'
  · injection e' with e'
    subst e'
    rw [show w.heap[g']? = _ from hb] at hh
    cases hh
    exact hne rfl
theorem own7_far {w w' : World} {base : Nat} {e : TypeId} {v : Value} {n : Nat} {xs : List Value} {row : Option Nat} (h : w.ownsRow base e 1 v n xs) (hg : w.grownBy w' row) (hne : v.ownBlock ≠ row) : w'.ownsRow base e 1 v n xs := h.kept hg (.inr hne)
theorem own7_none {w w' : World} {base : Nat} {e : TypeId} {v : Value} {n : Nat} {xs : List Value} (h : w.ownsRow base e 1 v n xs) (hg : w.grownBy w' none) : w'.ownsRow base e 1 v n xs := h.kept hg (by cases v.ownBlock <;> simp)
theorem own7_base {w : World} {base base' : Nat} {e : TypeId} {v : Value} {n : Nat} {xs : List Value} (h : w.ownsRow base e 1 v n xs) (hb : base' ≤ base) : w.ownsRow base' e 1 v n xs :=
  ⟨h.1, h.2.imp id (fun ⟨g, cap, cur, h1, h2, r⟩ => ⟨g, cap, cur, h1, Nat.le_trans hb h2, r⟩)⟩

section
variable {P : Program} (w : World)
/-- append onto a row of the call's own; what is appended may be nil, empty or not. -/
theorem run_append_rv (base : Nat) (t ty e : TypeId) (z : Value) (bt : Nat) (ht : P.underlying t = some (.slice e)) (hinfo : (P.info? e).map (fun i => (i.zero, i.size, i.bytes)) = some (some z, 1, bt)) (hz1 : z.cells.size = 1) (hbt : bt ≤ 1000)
    (v : Value) (n : Nat) (vs : List Value) (hown : w.ownsRow base e 1 v n vs) (B : Nat) (A : Option Addr) (ys : List Value) (c : Nat) (hr : Rv w B A ys) (h1 : ∀ u ∈ ys, u.oneCell' = true)
    (hb : n + ys.length ≤ 100000000) (hbase : base ≤ w.heap.size) :
    ∃ v' w', (Builtin.append_ #[t, t] ty #[v, .slice A ys.length c]).run P w = .ok v' w' ∧ w'.ownsRow base e 1 v' (n + ys.length) (vs ++ ys) ∧ w.grownBy w' v.ownBlock ∧
      (v'.ownBlock = v.ownBlock ∨ v'.ownBlock = some w.heap.size) := by
  obtain ⟨i, hi, hz, hsz, hby⟩ := info_parts hinfo
  cases A with
  | none =>
    obtain rfl : ys = [] := by
      rcases ys with _ | ⟨y, r⟩
      · rfl
      · obtain ⟨_, _, h, _⟩ := hr (by simp)
        cases h
    refine ⟨v, w, ?_, by simpa using hown, World.grownBy.refl w _, .inl rfl⟩
    rcases hown.2 with ⟨rfl, rfl⟩ | ⟨g, cap, cur, rfl, _, _, hnc, _⟩
    · simp [Builtin.append_, run_underlying ht, sizeOf, typeInfo, hi, Builtin.lenOf, Builtin.firstCells]
    · simp [Builtin.append_, run_underlying ht, sizeOf, typeInfo, hi, Builtin.lenOf, Builtin.firstCells, hnc, storeCells]
  | some ad =>
    have hcells : ∀ j u, ys[j]? = some u → w.cell? (ad.add j) = some u := by
      intro j u hu
      obtain ⟨b, o, h1, _, h2⟩ := hr.at_ hu
      injection h1 with h1
      subst h1
      rw [← h2]
      unfold Addr.add
      split
      · next h0 => subst h0; rfl
      · rfl
    have hmul : (n + ys.length) * bt ≤ 100000000 * 1000 := Nat.mul_le_mul hb hbt
    obtain ⟨v', w', hrun, h2, h3, _, h5⟩ := run_append_own_at (P := P) w base t ty e i z 1 bt ht hi hz hsz hby hz1 (by decide) v n vs hown ad ys.length c ys
      (by simp) hcells h1 (by unfold maxLen; omega) (by omega) hbase
    exact ⟨v', w', hrun, h2, h3, h5⟩

theorem wpList_append_rv {ops : Array Oper} {rest : List Oper} {o : Oper} {a : Act} {Q : Exit → Act → World → Prop} (hgd : o.guard = none) (s x : Operand) (t : TypeId)
    (ho : o.op = .call { callee := .builtin .append, args := #[s, x], argTypes := #[t, t] })
    (base : Nat) (e : TypeId) (z : Value) (bt : Nat) (ht : P.underlying t = some (.slice e)) (hinfo : (P.info? e).map (fun i => (i.zero, i.size, i.bytes)) = some (some z, 1, bt)) (hz1 : z.cells.size = 1) (hbt : bt ≤ 1000)
    (v : Value) (n : Nat) (vs : List Value) (hs : a.eval s = v) (hown : w.ownsRow base e 1 v n vs) (B : Nat) (A : Option Addr) (m : Nat) (ys : List Value) (c : Nat) (hm : ys.length = m)
    (hx : a.eval x = .slice A m c) (hr : Rv w B A ys) (h1 : ∀ u ∈ ys, u.oneCell' = true) (hb : n + m ≤ 100000000) (hbase : base ≤ w.heap.size)
    (h : ∀ A' c' w', n + m ≤ c' → Hid (w'.ownsRow base e 1 (.slice A' (n + m) c') (n + m) (vs ++ ys)) → w.grownBy w' v.ownBlock → ((Value.slice A' (n + m) c').ownBlock = v.ownBlock ∨ (Value.slice A' (n + m) c').ownBlock = some w.heap.size) → wpList P ops Q rest (a.put o.dst (.slice A' (n + m) c')) w') :
    wpList P ops Q (o :: rest) a w := by
  subst hm
  refine wpList_plain hgd fun K hK => ?_
  obtain ⟨v', w', hrun, h2, h3, h4⟩ := run_append_rv (P := P) w base t o.type e z bt ht hinfo hz1 hbt v n vs hown B A ys c hr h1 hb hbase
  unfold Oper.wp execOp
  simp only [ho, resolve, invoke, builtin, Sem.run_bind, Sem.run_pure, Result.andThen_ok, List.map_toArray, List.map_cons, List.map_nil, hs, hx, hrun]
  obtain ⟨A', c', rfl, hc'⟩ := ownsRow_form w' h2
  exact hK _ _ (h A' c' w' hc' h2 h3 h4)
end
end Go.Proofs.Ytojdgcalpdbifaa
