/-
  Words for memory: a slice of uint32 that reads as a list of numbers, and how that lasts.
-/
import Derived.Test.YtnaofoahnjceiaaDoorWords
namespace Go.Proofs.YtnaofoahnjceiaaDoor
open Go.RowKit

/-- The cells of a list of naturals, as u32s. -/
def u32s (xs : List Nat) : List Value := xs.map fun (d : Nat) => Value.int .u32 (d : Int)

theorem u32s_length (xs : List Nat) : (u32s xs).length = xs.length := by simp [u32s]
theorem u32s_get {xs : List Nat} {k : Nat} (h : k < xs.length) : (u32s xs)[k]? = some (.int .u32 ((nth xs k : Nat) : Int)) := by
  simp [u32s, nth_in h, List.getElem?_eq_getElem h]
theorem u32s_one (xs : List Nat) : ∀ u ∈ u32s xs, u.oneCell' = true := by
  intro u hu
  simp only [u32s, List.mem_map] at hu
  obtain ⟨d, _, rfl⟩ := hu
  rfl
theorem u32s_append (xs ys : List Nat) : u32s (xs ++ ys) = u32s xs ++ u32s ys := by simp [u32s]

/-- The slice at address A reads, in world w, as the list xs; every cell lies below block B. -/
def Ra (w : World) (B : Nat) (A : Option Addr) (xs : List Nat) : Prop :=
  xs ≠ [] → ∃ b o, A = some ⟨b, o, none⟩ ∧ b < B ∧ ∀ k, k < xs.length → w.cell? ⟨b, o + k, none⟩ = some (.int .u32 ((nth xs k : Nat) : Int))

theorem Ra.at_ {w : World} {B : Nat} {A : Option Addr} {xs : List Nat} {k : Nat} (h : Ra w B A xs) (hk : k < xs.length) :
    ∃ b o, A = some ⟨b, o, none⟩ ∧ b < B ∧ w.cell? ⟨b, o + k, none⟩ = some (.int .u32 ((nth xs k : Nat) : Int)) := by
  obtain ⟨b, o, h1, h2, h3⟩ := h (by rintro rfl; simp at hk)
  exact ⟨b, o, h1, h2, h3 k hk⟩
theorem Ra.keep {w w' : World} {B : Nat} {A : Option Addr} {xs : List Nat} (h : Ra w B A xs) (hk : ∀ p : Addr, p.block < B → w'.cell? p = w.cell? p) : Ra w' B A xs := by
  intro hx
  obtain ⟨b, o, h1, h2, h3⟩ := h hx
  exact ⟨b, o, h1, h2, fun k hkl => (hk _ h2).trans (h3 k hkl)⟩
theorem Ra.more {w : World} {B B' : Nat} {A : Option Addr} {xs : List Nat} (h : Ra w B A xs) (hB : B ≤ B') : Ra w B' A xs := by
  intro hx
  obtain ⟨b, o, h1, h2, h3⟩ := h hx
  exact ⟨b, o, h1, by omega, h3⟩
theorem Ra.below {w w' : World} {B C : Nat} {A : Option Addr} {xs : List Nat} (h : Ra w B A xs) (hb : Below C w w') (hB : B ≤ C) : Ra w' B A xs := h.keep fun _ hp => hb.cell (by omega)
theorem Ra.alloc {w : World} {B : Nat} {A : Option Addr} {xs : List Nat} (h : Ra w B A xs) (hB : B ≤ w.heap.size) (o : Obj) : Ra (w.alloc o) B A xs :=
  h.keep fun p hp => World.cell?_alloc_lt w o p (by omega)
theorem Ra.grown {w w' : World} {B : Nat} {A : Option Addr} {xs : List Nat} (h : Ra w B A xs) {row : Option Nat} (hg : w.grownBy w' row) (hB : B ≤ w.heap.size) (hr : ∀ g, row = some g → B ≤ g) : Ra w' B A xs :=
  h.keep fun p hp => World.cell?_of_block (hg.block p.block (by omega) (fun e => by have := hr _ e.symm; omega))
theorem Ra.drop {w : World} {B : Nat} {b o : Nat} {xs : List Nat} (h : Ra w B (some ⟨b, o, none⟩) xs) (k : Nat) : Ra w B (some ⟨b, o + k, none⟩) (xs.drop k) := by
  intro hx
  have hne : xs ≠ [] := by rintro rfl; simp at hx
  obtain ⟨b', o', h1, h2, h3⟩ := h hne
  injection h1 with h1
  injection h1 with h4 h5
  subst h4 h5
  refine ⟨b, o + k, rfl, h2, fun j hj => ?_⟩
  simp only [List.length_drop] at hj
  rw [Nat.add_assoc, h3 (k + j) (by omega), nth_drop]
theorem Ra.take {w : World} {B : Nat} {A : Option Addr} {xs : List Nat} (h : Ra w B A xs) (k : Nat) : Ra w B A (xs.take k) := by
  intro hx
  have hne : xs ≠ [] := by rintro rfl; simp at hx
  obtain ⟨b, o, h1, h2, h3⟩ := h hne
  refine ⟨b, o, h1, h2, fun j hj => ?_⟩
  simp only [List.length_take] at hj
  rw [h3 j (by omega), nth_take (by omega)]
theorem Ra.nil (w : World) (B : Nat) (A : Option Addr) : Ra w B A [] := fun h => absurd rfl h

/-- What the call owns reads. -/
theorem Ra.of_own {w : World} {base : Nat} {e : TypeId} {A : Option Addr} {c n : Nat} {xs : List Nat} (h : w.ownsRow base e 1 (.slice A n c) n (u32s xs)) : Ra w w.heap.size A xs := by
  intro hx
  have hl := h.1
  rw [u32s_length] at hl
  have hpos : 0 < xs.length := List.length_pos_iff.2 hx
  rcases h.2 with ⟨_, h0⟩ | ⟨g, cap, cur, hv, _, hh, _⟩
  · omega
  · have hA : A = some ⟨g, 0, none⟩ := by injection hv
    subst hA
    refine ⟨g, 0, rfl, ?_, fun k hk => ?_⟩
    · rcases Nat.lt_or_ge g w.heap.size with hlt | hge
      · exact hlt
      · rw [Array.getElem?_eq_none hge] at hh; cases hh
    · have hc := h.cells (g := g) rfl k _ (u32s_get hk)
      rw [Nat.zero_add]
      unfold Addr.add at hc
      split at hc
      · next h0 => subst h0; exact hc
      · simpa using hc

theorem Ra.setCell {w : World} {B : Nat} {A : Option Addr} {xs : List Nat} (h : Ra w B A xs) {p : Addr} (hp : B ≤ p.block) (u : Value) : Ra (w.setCell p u) B A xs :=
  h.keep fun q hq => World.cell?_setCell_other w p q u (fun e => by subst e; omega)
/-- What is owned from 'base' on reads so also where a cell below 'base' is written: the blocks differ. -/
theorem Ra.of_own_set {w : World} {base : Nat} {e : TypeId} {A : Option Addr} {c n : Nat} {xs : List Nat} (h : w.ownsRow base e 1 (.slice A n c) n (u32s xs)) {p : Addr} (hp : p.block < base) (u : Value) :
    Ra (w.setCell p u) (w.setCell p u).heap.size A xs := Ra.of_own (ownsRow_setCell_below h hp u)

/-- If the slice has elements, it lies in a block from L on. -/
def Fa (L : Nat) (A : Option Addr) (xs : List Nat) : Prop := xs ≠ [] → ∃ b o, A = some ⟨b, o, none⟩ ∧ L ≤ b
theorem Fa.of_own {w : World} {base : Nat} {e : TypeId} {A : Option Addr} {c n : Nat} {xs : List Nat} (h : w.ownsRow base e 1 (.slice A n c) n (u32s xs)) : Fa base A xs := by
  intro hx
  have hl := h.1
  rw [u32s_length] at hl
  have hpos : 0 < xs.length := List.length_pos_iff.2 hx
  rcases h.2 with ⟨_, h0⟩ | ⟨g, cap, cur, hv, hg, _, _⟩
  · omega
  · injection hv with hA
    exact ⟨g, 0, hA, hg⟩
theorem Fa.more {L L' : Nat} {A : Option Addr} {xs : List Nat} (h : Fa L A xs) (hl : L' ≤ L) : Fa L' A xs := fun hx => by
  obtain ⟨b, o, h1, h2⟩ := h hx
  exact ⟨b, o, h1, by omega⟩
/-- A store into an older block leaves it. -/
theorem Ra.old {w : World} {B L : Nat} {A : Option Addr} {xs : List Nat} (h : Ra w B A xs) (hf : Fa L A xs) {p : Addr} (hp : p.block < L) (u : Value) : Ra (w.setCell p u) B A xs := by
  intro hx
  obtain ⟨b, o, h1, h2, h3⟩ := h hx
  obtain ⟨b', o', h4, h5⟩ := hf hx
  rw [h1] at h4
  injection h4 with h4
  injection h4 with h4
  subst h4
  refine ⟨b, o, h1, h2, fun k hk => ?_⟩
  rw [World.cell?_setCell_other w p _ u (fun e => by rw [e] at hp; simp at hp; omega)]
  exact h3 k hk
/-- One element in a block of its own: what 'append(s, x)' hands on. -/
theorem Ra.one (w : World) (d : Nat) (t : TypeId) : Ra (w.alloc (.cells #[.int .u32 (d : Int)] t)) (w.heap.size + 1) (some ⟨w.heap.size, 0, none⟩) [d] := by
  intro _
  refine ⟨w.heap.size, 0, rfl, by omega, fun k hk => ?_⟩
  simp only [List.length_singleton] at hk
  obtain rfl : k = 0 := by omega
  rw [nth_cons0]
  exact cell_one_new w (.int .u32 (d : Int)) t 0 _ rfl

/-- A literal slice of u32s is the call's own. -/
theorem owns_lit32 (w : World) (base : Nat) (e : TypeId) (xs : List Nat) (hb : base ≤ w.heap.size) (hl : xs.length ≤ maxLen) :
    (w.alloc (.cells (u32s xs).toArray e)).ownsRow base e 1 (.slice (some ⟨w.heap.size, 0, none⟩) xs.length xs.length) xs.length (u32s xs) :=
  ⟨by simp [u32s_length], .inr ⟨w.heap.size, xs.length, (u32s xs).toArray, rfl, hb, heap_alloc_new w _, Nat.le_refl _, hl, by simp [u32s_length], by
    rw [List.take_of_length_le (by simp [u32s_length])]⟩⟩

section
variable {P : Program} (w : World)

/-- append onto a row of u32s of the call's own; what is appended may be nil, empty or not. -/
theorem run_append_u32s (base : Nat) (t ty e : TypeId) (ht : P.underlying t = some (.slice e)) (hinfo : (P.info? e).map (fun i => (i.zero, i.size, i.bytes)) = some (some (.int .u32 0), 1, 4))
    (v : Value) (xs : List Nat) (hown : w.ownsRow base e 1 v xs.length (u32s xs)) (B : Nat) (A : Option Addr) (ys : List Nat) (c : Nat) (hr : Ra w B A ys)
    (hb : xs.length + ys.length ≤ 10000000) (hbase : base ≤ w.heap.size) :
    ∃ v' w', (Builtin.append_ #[t, t] ty #[v, .slice A ys.length c]).run P w = .ok v' w' ∧ w'.ownsRow base e 1 v' (xs.length + ys.length) (u32s (xs ++ ys)) ∧ w.grownBy w' v.ownBlock ∧
      (v'.ownBlock = v.ownBlock ∨ v'.ownBlock = some w.heap.size) := by
  obtain ⟨i, hi, hz, hsz, hby⟩ := info_parts hinfo
  cases A with
  | none =>
    obtain rfl : ys = [] := by
      rcases ys with _ | ⟨y, r⟩
      · rfl
      · obtain ⟨_, _, h, _⟩ := hr (by simp)
        cases h
    refine ⟨v, w, ?_, by simpa using hown, World.grownBy.refl w _, .inl rfl⟩
    rcases hown.2 with ⟨rfl, _⟩ | ⟨g, cap, cur, rfl, _, _, hnc, _⟩
    · simp [Builtin.append_, run_underlying ht, sizeOf, typeInfo, hi, Builtin.lenOf, Builtin.firstCells]
    · simp [Builtin.append_, run_underlying ht, sizeOf, typeInfo, hi, Builtin.lenOf, Builtin.firstCells, hnc, storeCells]
  | some ad =>
    have hcells : ∀ j u, (u32s ys)[j]? = some u → w.cell? (ad.add j) = some u := by
      intro j u hu
      have hj : j < ys.length := by
        rcases Nat.lt_or_ge j ys.length with h | h
        · exact h
        · rw [List.getElem?_eq_none (by rw [u32s_length]; exact h)] at hu; cases hu
      rw [u32s_get hj] at hu
      injection hu with hu
      obtain ⟨b, o, h1, _, h2⟩ := hr.at_ hj
      injection h1 with h1
      subst h1
      rw [← hu, ← h2]
      unfold Addr.add
      split
      · next h0 => subst h0; rfl
      · rfl
    obtain ⟨v', w', hrun, h2, h3, _, h5⟩ := run_append_own_at (P := P) w base t ty e i (.int .u32 0) 1 4 ht hi hz hsz hby rfl (by decide) v xs.length (u32s xs) hown ad ys.length c (u32s ys)
      (by simp [u32s_length]) hcells (u32s_one ys) (by unfold maxLen; omega) (by omega) hbase
    exact ⟨v', w', hrun, by rw [u32s_append]; exact h2, h3, h5⟩

theorem wpList_append_u32s {ops : Array Oper} {rest : List Oper} {o : Oper} {a : Act} {Q : Exit → Act → World → Prop} (hgd : o.guard = none) (s x : Operand) (t : TypeId)
    (ho : o.op = .call { callee := .builtin .append, args := #[s, x], argTypes := #[t, t] })
    (base : Nat) (e : TypeId) (ht : P.underlying t = some (.slice e)) (hinfo : (P.info? e).map (fun i => (i.zero, i.size, i.bytes)) = some (some (.int .u32 0), 1, 4))
    (v : Value) (xs : List Nat) (hs : a.eval s = v) (hown : w.ownsRow base e 1 v xs.length (u32s xs)) (B : Nat) (A : Option Addr) (m : Nat) (ys : List Nat) (c : Nat) (hm : ys.length = m)
    (hx : a.eval x = .slice A m c) (hr : Ra w B A ys) (hb : xs.length + ys.length ≤ 10000000) (hbase : base ≤ w.heap.size)
    (h : ∀ A' n' c' w', Hid ((xs ++ ys).length = n') → n' ≤ c' → Hid (w'.ownsRow base e 1 (.slice A' n' c') n' (u32s (xs ++ ys))) → w.grownBy w' v.ownBlock → wpList P ops Q rest (a.put o.dst (.slice A' n' c')) w') :
    wpList P ops Q (o :: rest) a w := by
  subst hm
  refine wpList_plain hgd fun K hK => ?_
  obtain ⟨v', w', hrun, h2, h3, h4⟩ := run_append_u32s (P := P) w base t o.type e ht hinfo v xs hown B A ys c hr hb hbase
  unfold Oper.wp execOp
  simp only [ho, resolve, invoke, builtin, Sem.run_bind, Sem.run_pure, Result.andThen_ok, List.map_toArray, List.map_cons, List.map_nil, hs, hx, hrun]
  rw [← List.length_append] at h2
  obtain ⟨A', c', rfl, hc'⟩ := ownsRow_form w' h2
  exact hK _ _ (h A' _ c' w' rfl hc' h2 h3)
end

/-- append at a step of a region that draws. -/
theorem step_append_u32s {P : Program} (w : World) {ops : Array Oper} {o : Oper} {a : Act} {K : Act → World → Prop} {Q : Exit → Act → World → Prop} {E : Prop} (hgd : o.guard = none) (s x : Operand) (t : TypeId)
    (ho : o.op = .call { callee := .builtin .append, args := #[s, x], argTypes := #[t, t] })
    (base : Nat) (e : TypeId) (ht : P.underlying t = some (.slice e)) (hinfo : (P.info? e).map (fun i => (i.zero, i.size, i.bytes)) = some (some (.int .u32 0), 1, 4))
    (v : Value) (xs : List Nat) (hs : a.eval s = v) (hown : w.ownsRow base e 1 v xs.length (u32s xs)) (B : Nat) (A : Option Addr) (m : Nat) (ys : List Nat) (c : Nat) (hm : ys.length = m)
    (hx : a.eval x = .slice A m c) (hr : Ra w B A ys) (hb : xs.length + ys.length ≤ 10000000) (hbase : base ≤ w.heap.size)
    (h : ∀ A' n' c' w', Hid ((xs ++ ys).length = n') → n' ≤ c' → Hid (w'.ownsRow base e 1 (.slice A' n' c') n' (u32s (xs ++ ys))) → w.grownBy w' v.ownBlock → K (a.put o.dst (.slice A' n' c')) w') :
    if Region.wanted o (yielded ops a.tmps) = true then Oper.wp P o a w K Q else E := by
  subst hm
  have hw : Region.wanted o (yielded ops a.tmps) = true := by simp [Region.wanted, hgd]
  rw [if_pos hw]
  obtain ⟨v', w', hrun, h2, h3, h4⟩ := run_append_u32s (P := P) w base t o.type e ht hinfo v xs hown B A ys c hr hb hbase
  unfold Oper.wp execOp
  simp only [ho, resolve, invoke, builtin, Sem.run_bind, Sem.run_pure, Result.andThen_ok, List.map_toArray, List.map_cons, List.map_nil, hs, hx, hrun]
  rw [← List.length_append] at h2
  obtain ⟨A', c', rfl, hc'⟩ := ownsRow_form w' h2
  exact h A' _ c' w' rfl hc' h2 h3


end Go.Proofs.YtnaofoahnjceiaaDoor
