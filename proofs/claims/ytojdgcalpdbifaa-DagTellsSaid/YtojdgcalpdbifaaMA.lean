/-
  Words for memory: a slice of ints that reads as a list of numbers (the document's own numbers in digits), and how that lasts.
  Numbers in digits of 16 bits, the lowest first: the plain mathematics (no program).
  Words for memory: a slice of uint32 that reads as a list of numbers, and how that lasts.
  Numbers in digits of 32 bits, the lowest first: the plain mathematics (no program).
-/
import Derived.WalkKit
import Derived.Lib.Hide
import Derived.Deep.Draws
import Derived.Maps.AppendAt
import Derived.OwnWalk
namespace Go.Proofs.Ytojdgcalpdbifaa
open Go.RowKit

/-- The digit at place i; 0 behind them. (A plain definition: a walk leaves it as it stands.) -/
def nth (xs : List Nat) (i : Nat) : Nat := xs.getD i 0
theorem nth_out {xs : List Nat} {i : Nat} (h : xs.length ≤ i) : nth xs i = 0 := by simp [nth, List.getElem?_eq_none h]
theorem nth_in {xs : List Nat} {i : Nat} (h : i < xs.length) : nth xs i = xs[i] := by simp [nth, List.getElem?_eq_getElem h]
theorem nth_drop (xs : List Nat) (k j : Nat) : nth (xs.drop k) j = nth xs (k + j) := by simp [nth]
theorem nth_take {xs : List Nat} {k j : Nat} (h : j < k) : nth (xs.take k) j = nth xs j := by simp [nth, List.getElem?_take, h]
theorem nth_cons (d : Nat) (xs : List Nat) (j : Nat) : nth (d :: xs) (j + 1) = nth xs j := by simp [nth]
theorem nth_cons0 (d : Nat) (xs : List Nat) : nth (d :: xs) 0 = d := by simp [nth]

/-- The cells of a list of naturals, as ints. -/
def ints (xs : List Nat) : List Value := xs.map fun (d : Nat) => Value.int .i64 (d : Int)

theorem ints_length (xs : List Nat) : (ints xs).length = xs.length := by simp [ints]
theorem ints_get {xs : List Nat} {k : Nat} (h : k < xs.length) : (ints xs)[k]? = some (.int .i64 ((nth xs k : Nat) : Int)) := by
  simp [ints, nth_in h, List.getElem?_eq_getElem h]
theorem ints_one (xs : List Nat) : ∀ u ∈ ints xs, u.oneCell' = true := by
  intro u hu
  simp only [ints, List.mem_map] at hu
  obtain ⟨d, _, rfl⟩ := hu
  rfl
theorem ints_append (xs ys : List Nat) : ints (xs ++ ys) = ints xs ++ ints ys := by simp [ints]

/-- The slice at address A reads, in world w, as the list xs; every cell lies below block B. -/
def Rd (w : World) (B : Nat) (A : Option Addr) (xs : List Nat) : Prop :=
  xs ≠ [] → ∃ b o, A = some ⟨b, o, none⟩ ∧ b < B ∧ ∀ k, k < xs.length → w.cell? ⟨b, o + k, none⟩ = some (.int .i64 ((nth xs k : Nat) : Int))

theorem Rd.at_ {w : World} {B : Nat} {A : Option Addr} {xs : List Nat} {k : Nat} (h : Rd w B A xs) (hk : k < xs.length) :
    ∃ b o, A = some ⟨b, o, none⟩ ∧ b < B ∧ w.cell? ⟨b, o + k, none⟩ = some (.int .i64 ((nth xs k : Nat) : Int)) := by
  obtain ⟨b, o, h1, h2, h3⟩ := h (by rintro rfl; simp at hk)
  exact ⟨b, o, h1, h2, h3 k hk⟩
theorem Rd.keep {w w' : World} {B : Nat} {A : Option Addr} {xs : List Nat} (h : Rd w B A xs) (hk : ∀ p : Addr, p.block < B → w'.cell? p = w.cell? p) : Rd w' B A xs := by
  intro hx
  obtain ⟨b, o, h1, h2, h3⟩ := h hx
  exact ⟨b, o, h1, h2, fun k hkl => (hk _ h2).trans (h3 k hkl)⟩
theorem Rd.more {w : World} {B B' : Nat} {A : Option Addr} {xs : List Nat} (h : Rd w B A xs) (hB : B ≤ B') : Rd w B' A xs := by
  intro hx
  obtain ⟨b, o, h1, h2, h3⟩ := h hx
  exact ⟨b, o, h1, by omega, h3⟩
theorem Rd.below {w w' : World} {B C : Nat} {A : Option Addr} {xs : List Nat} (h : Rd w B A xs) (hb : Below C w w') (hB : B ≤ C) : Rd w' B A xs := h.keep fun _ hp => hb.cell (by omega)
theorem Rd.alloc {w : World} {B : Nat} {A : Option Addr} {xs : List Nat} (h : Rd w B A xs) (hB : B ≤ w.heap.size) (o : Obj) : Rd (w.alloc o) B A xs :=
  h.keep fun p hp => World.cell?_alloc_lt w o p (by omega)
theorem Rd.grown {w w' : World} {B : Nat} {A : Option Addr} {xs : List Nat} (h : Rd w B A xs) {row : Option Nat} (hg : w.grownBy w' row) (hB : B ≤ w.heap.size) (hr : ∀ g, row = some g → B ≤ g) : Rd w' B A xs :=
  h.keep fun p hp => World.cell?_of_block (hg.block p.block (by omega) (fun e => by have := hr _ e.symm; omega))
theorem Rd.drop {w : World} {B : Nat} {b o : Nat} {xs : List Nat} (h : Rd w B (some ⟨b, o, none⟩) xs) (k : Nat) : Rd w B (some ⟨b, o + k, none⟩) (xs.drop k) := by
  intro hx
  have hne : xs ≠ [] := by rintro rfl; simp at hx
  obtain ⟨b', o', h1, h2, h3⟩ := h hne
  injection h1 with h1
  injection h1 with h4 h5
  subst h4 h5
  refine ⟨b, o + k, rfl, h2, fun j hj => ?_⟩
  simp only [List.length_drop] at hj
  rw [Nat.add_assoc, h3 (k + j) (by omega), nth_drop]
theorem Rd.take {w : World} {B : Nat} {A : Option Addr} {xs : List Nat} (h : Rd w B A xs) (k : Nat) : Rd w B A (xs.take k) := by
  intro hx
  have hne : xs ≠ [] := by rintro rfl; simp at hx
  obtain ⟨b, o, h1, h2, h3⟩ := h hne
  refine ⟨b, o, h1, h2, fun j hj => ?_⟩
  simp only [List.length_take] at hj
  rw [h3 j (by omega), nth_take (by omega)]
theorem Rd.nil (w : World) (B : Nat) (A : Option Addr) : Rd w B A [] := fun h => absurd rfl h

/-- What the call owns reads. -/
theorem Rd.of_own {w : World} {base : Nat} {e : TypeId} {A : Option Addr} {c n : Nat} {xs : List Nat} (h : w.ownsRow base e 1 (.slice A n c) n (ints xs)) : Rd w w.heap.size A xs := by
  intro hx
  have hl := h.1
  rw [ints_length] at hl
  have hpos : 0 < xs.length := List.length_pos_iff.2 hx
  rcases h.2 with ⟨_, h0⟩ | ⟨g, cap, cur, hv, _, hh, _⟩
  · omega
  · have hA : A = some ⟨g, 0, none⟩ := by injection hv
    subst hA
    refine ⟨g, 0, rfl, ?_, fun k hk => ?_⟩
    · rcases Nat.lt_or_ge g w.heap.size with hlt | hge
      · exact hlt
      · rw [Array.getElem?_eq_none hge] at hh; cases hh
    · have hc := h.cells (g := g) rfl k _ (ints_get hk)
      rw [Nat.zero_add]
      unfold Addr.add at hc
      split at hc
      · next h0 => subst h0; exact hc
      · simpa using hc

/-- Block g is just the cells cs of type t, none frozen. -/
def Blk (w : World) (g : Nat) (t : TypeId) (cs : Array Value) : Prop := w.heap[g]? = some (.cells cs t (0, 0))
theorem Blk.lt {w : World} {g : Nat} {t : TypeId} {cs : Array Value} (h : Blk w g t cs) : g < w.heap.size := by
  rcases Nat.lt_or_ge g w.heap.size with hlt | hge
  · exact hlt
  · unfold Blk at h; rw [Array.getElem?_eq_none hge] at h; cases h
theorem Blk.cell {w : World} {g : Nat} {t : TypeId} {cs : Array Value} (h : Blk w g t cs) (i : Nat) : w.cell? ⟨g, i, none⟩ = cs[i]? := cell_of_row w g i cs t (0, 0) h
theorem Blk.frozen {w : World} {g : Nat} {t : TypeId} {cs : Array Value} (h : Blk w g t cs) (i : Nat) : w.frozen? ⟨g, i, none⟩ = false := by
  unfold Blk at h
  simp [World.frozen?, h]
theorem Blk.new (w : World) (t : TypeId) (cs : Array Value) : Blk (w.alloc (.cells cs t)) w.heap.size t cs := heap_alloc_new w _
theorem Blk.alloc {w : World} {g : Nat} {t : TypeId} {cs : Array Value} (h : Blk w g t cs) (o : Obj) : Blk (w.alloc o) g t cs := (Below.heap_alloc w o g h.lt).trans h
theorem Blk.set_ {w : World} {g : Nat} {t : TypeId} {cs : Array Value} (h : Blk w g t cs) (i : Nat) (u : Value) : Blk (w.setCell ⟨g, i, none⟩ u) g t (cs.setIfInBounds i u) := by
  unfold Blk at h ⊢
  simp [World.setCell, Array.getElem?_modify, h]
theorem Blk.far {w : World} {g : Nat} {t : TypeId} {cs : Array Value} (h : Blk w g t cs) {p : Addr} (hp : g ≠ p.block) (u : Value) : Blk (w.setCell p u) g t cs := (Below.heap_setCell w p u g hp).trans h
theorem Blk.below {w w' : World} {g : Nat} {t : TypeId} {cs : Array Value} {B : Nat} (h : Blk w g t cs) (hb : Below B w w') (hg : g < B) : Blk w' g t cs := (hb.block g hg).trans h
theorem Blk.grown {w w' : World} {g : Nat} {t : TypeId} {cs : Array Value} {row : Option Nat} (h : Blk w g t cs) (hb : w.grownBy w' row) (hg : some g ≠ row) : Blk w' g t cs := (hb.block g h.lt hg).trans h
theorem Rd.setCell {w : World} {B : Nat} {A : Option Addr} {xs : List Nat} (h : Rd w B A xs) {p : Addr} (hp : B ≤ p.block) (u : Value) : Rd (w.setCell p u) B A xs :=
  h.keep fun q hq => World.cell?_setCell_other w p q u (fun e => by subst e; omega)
/-- What is owned from 'base' on reads so also where a cell below 'base' is written: the blocks differ. -/
theorem Rd.of_own_set {w : World} {base : Nat} {e : TypeId} {A : Option Addr} {c n : Nat} {xs : List Nat} (h : w.ownsRow base e 1 (.slice A n c) n (ints xs)) {p : Addr} (hp : p.block < base) (u : Value) :
    Rd (w.setCell p u) (w.setCell p u).heap.size A xs := Rd.of_own (ownsRow_setCell_below h hp u)

/-- If the slice has elements, it lies in a block from L on. -/
def Fr (L : Nat) (A : Option Addr) (xs : List Nat) : Prop := xs ≠ [] → ∃ b o, A = some ⟨b, o, none⟩ ∧ L ≤ b
theorem Fr.of_own {w : World} {base : Nat} {e : TypeId} {A : Option Addr} {c n : Nat} {xs : List Nat} (h : w.ownsRow base e 1 (.slice A n c) n (ints xs)) : Fr base A xs := by
  intro hx
  have hl := h.1
  rw [ints_length] at hl
  have hpos : 0 < xs.length := List.length_pos_iff.2 hx
  rcases h.2 with ⟨_, h0⟩ | ⟨g, cap, cur, hv, hg, _, _⟩
  · omega
  · injection hv with hA
    exact ⟨g, 0, hA, hg⟩
theorem Fr.more {L L' : Nat} {A : Option Addr} {xs : List Nat} (h : Fr L A xs) (hl : L' ≤ L) : Fr L' A xs := fun hx => by
  obtain ⟨b, o, h1, h2⟩ := h hx
  exact ⟨b, o, h1, by omega⟩
/-- A store into an older block leaves it. -/
theorem Rd.old {w : World} {B L : Nat} {A : Option Addr} {xs : List Nat} (h : Rd w B A xs) (hf : Fr L A xs) {p : Addr} (hp : p.block < L) (u : Value) : Rd (w.setCell p u) B A xs := by
  intro hx
  obtain ⟨b, o, h1, h2, h3⟩ := h hx
  obtain ⟨b', o', h4, h5⟩ := hf hx
  rw [h1] at h4
  injection h4 with h4
  injection h4 with h4
  subst h4
  refine ⟨b, o, h1, h2, fun k hk => ?_⟩
  rw [World.cell?_setCell_other w p _ u (fun e => by rw [e] at hp; simp at hp; omega)]
  exact h3 k hk
theorem owns_below {w w' : World} {base : Nat} {e : TypeId} {g n c B : Nat} {xs : List Value} (h : w.ownsRow base e 1 (.slice (some ⟨g, 0, none⟩) n c) n xs) (hb : Below B w w') (hg : g < B) :
    w'.ownsRow base e 1 (.slice (some ⟨g, 0, none⟩) n c) n xs := by
  obtain ⟨h1, h2⟩ := h
  refine ⟨h1, ?_⟩
  rcases h2 with ⟨h2, h3⟩ | ⟨g', cap, cur, hv, hg', hh, r⟩
  · injection h2 with h2; cases h2
  · injection hv with hv
    injection hv with hv
    injection hv with hv
    subst hv
    exact .inr ⟨g, cap, cur, by simp_all, hg', by rw [hb.block g hg]; exact hh, r⟩

/-- One element in a block of its own: what 'append(s, x)' hands on. -/
theorem Rd.one (w : World) (d : Nat) (t : TypeId) : Rd (w.alloc (.cells #[.int .i64 (d : Int)] t)) (w.heap.size + 1) (some ⟨w.heap.size, 0, none⟩) [d] := by
  intro _
  refine ⟨w.heap.size, 0, rfl, by omega, fun k hk => ?_⟩
  simp only [List.length_singleton] at hk
  obtain rfl : k = 0 := by omega
  rw [nth_cons0]
  exact cell_one_new w (.int .i64 (d : Int)) t 0 _ rfl

/-- A literal slice of ints is the call's own. -/
theorem owns_lit (w : World) (base : Nat) (e : TypeId) (xs : List Nat) (hb : base ≤ w.heap.size) (hl : xs.length ≤ maxLen) :
    (w.alloc (.cells (ints xs).toArray e)).ownsRow base e 1 (.slice (some ⟨w.heap.size, 0, none⟩) xs.length xs.length) xs.length (ints xs) :=
  ⟨by simp [ints_length], .inr ⟨w.heap.size, xs.length, (ints xs).toArray, rfl, hb, heap_alloc_new w _, Nat.le_refl _, hl, by simp [ints_length], by
    rw [List.take_of_length_le (by simp [ints_length])]⟩⟩

section
variable {P : Program} (w : World)

/-- append onto a row of ints of the call's own; what is appended may be nil, empty or not. -/
theorem run_append_ints (base : Nat) (t ty e : TypeId) (ht : P.underlying t = some (.slice e)) (hinfo : (P.info? e).map (fun i => (i.zero, i.size, i.bytes)) = some (some (.int .i64 0), 1, 8))
    (v : Value) (xs : List Nat) (hown : w.ownsRow base e 1 v xs.length (ints xs)) (B : Nat) (A : Option Addr) (ys : List Nat) (c : Nat) (hr : Rd w B A ys)
    (hb : xs.length + ys.length ≤ 10000000) (hbase : base ≤ w.heap.size) :
    ∃ v' w', (Builtin.append_ #[t, t] ty #[v, .slice A ys.length c]).run P w = .ok v' w' ∧ w'.ownsRow base e 1 v' (xs.length + ys.length) (ints (xs ++ ys)) ∧ w.grownBy w' v.ownBlock ∧
      (v'.ownBlock = v.ownBlock ∨ v'.ownBlock = some w.heap.size) := by
  obtain ⟨i, hi, hz, hsz, hby⟩ := info_parts hinfo
  cases A with
  | none =>
    obtain rfl : ys = [] := by
      rcases ys with _ | ⟨y, r⟩
      · rfl
      · obtain ⟨_, _, h, _⟩ := hr (by simp)
        cases h
    refine ⟨v, w, ?_, by simpa using hown, World.grownBy.refl w _, .inl rfl⟩
    rcases hown.2 with ⟨rfl, _⟩ | ⟨g, cap, cur, rfl, _, _, hnc, _⟩
    · simp [Builtin.append_, run_underlying ht, sizeOf, typeInfo, hi, Builtin.lenOf, Builtin.firstCells]
    · simp [Builtin.append_, run_underlying ht, sizeOf, typeInfo, hi, Builtin.lenOf, Builtin.firstCells, hnc, storeCells]
  | some ad =>
    have hcells : ∀ j u, (ints ys)[j]? = some u → w.cell? (ad.add j) = some u := by
      intro j u hu
      have hj : j < ys.length := by
        rcases Nat.lt_or_ge j ys.length with h | h
        · exact h
        · rw [List.getElem?_eq_none (by rw [ints_length]; exact h)] at hu; cases hu
      rw [ints_get hj] at hu
      injection hu with hu
      obtain ⟨b, o, h1, _, h2⟩ := hr.at_ hj
      injection h1 with h1
      subst h1
      rw [← hu, ← h2]
      unfold Addr.add
      split
      · next h0 => subst h0; rfl
      · rfl
    obtain ⟨v', w', hrun, h2, h3, _, h5⟩ := run_append_own_at (P := P) w base t ty e i (.int .i64 0) 1 8 ht hi hz hsz hby rfl (by decide) v xs.length (ints xs) hown ad ys.length c (ints ys)
      (by simp [ints_length]) hcells (ints_one ys) (by unfold maxLen; omega) (by omega) hbase
    exact ⟨v', w', hrun, by rw [ints_append]; exact h2, h3, h5⟩

theorem ownsRow_form {base : Nat} {e : TypeId} {v : Value} {n : Nat} {xs : List Value} (h : w.ownsRow base e 1 v n xs) : ∃ A c, v = .slice A n c ∧ n ≤ c := by
  rcases h.2 with ⟨rfl, rfl⟩ | ⟨g, cap, cur, rfl, _, _, h1, _⟩
  · exact ⟨none, 0, rfl, Nat.le_refl _⟩
  · exact ⟨_, cap, rfl, h1⟩

theorem wpList_append_ints {ops : Array Oper} {rest : List Oper} {o : Oper} {a : Act} {Q : Exit → Act → World → Prop} (hgd : o.guard = none) (s x : Operand) (t : TypeId)
    (ho : o.op = .call { callee := .builtin .append, args := #[s, x], argTypes := #[t, t] })
    (base : Nat) (e : TypeId) (ht : P.underlying t = some (.slice e)) (hinfo : (P.info? e).map (fun i => (i.zero, i.size, i.bytes)) = some (some (.int .i64 0), 1, 8))
    (v : Value) (xs : List Nat) (hs : a.eval s = v) (hown : w.ownsRow base e 1 v xs.length (ints xs)) (B : Nat) (A : Option Addr) (m : Nat) (ys : List Nat) (c : Nat) (hm : ys.length = m)
    (hx : a.eval x = .slice A m c) (hr : Rd w B A ys) (hb : xs.length + ys.length ≤ 10000000) (hbase : base ≤ w.heap.size)
    (h : ∀ A' n' c' w', Hid ((xs ++ ys).length = n') → n' ≤ c' → Hid (w'.ownsRow base e 1 (.slice A' n' c') n' (ints (xs ++ ys))) → w.grownBy w' v.ownBlock → wpList P ops Q rest (a.put o.dst (.slice A' n' c')) w') :
    wpList P ops Q (o :: rest) a w := by
  subst hm
  refine wpList_plain hgd fun K hK => ?_
  obtain ⟨v', w', hrun, h2, h3, h4⟩ := run_append_ints (P := P) w base t o.type e ht hinfo v xs hown B A ys c hr hb hbase
  unfold Oper.wp execOp
  simp only [ho, resolve, invoke, builtin, Sem.run_bind, Sem.run_pure, Result.andThen_ok, List.map_toArray, List.map_cons, List.map_nil, hs, hx, hrun]
  rw [← List.length_append] at h2
  obtain ⟨A', c', rfl, hc'⟩ := ownsRow_form w' h2
  exact hK _ _ (h A' _ c' w' rfl hc' h2 h3)
end

/-- append at a step of a region that draws. -/
theorem step_append_ints {P : Program} (w : World) {ops : Array Oper} {o : Oper} {a : Act} {K : Act → World → Prop} {Q : Exit → Act → World → Prop} {E : Prop} (hgd : o.guard = none) (s x : Operand) (t : TypeId)
    (ho : o.op = .call { callee := .builtin .append, args := #[s, x], argTypes := #[t, t] })
    (base : Nat) (e : TypeId) (ht : P.underlying t = some (.slice e)) (hinfo : (P.info? e).map (fun i => (i.zero, i.size, i.bytes)) = some (some (.int .i64 0), 1, 8))
    (v : Value) (xs : List Nat) (hs : a.eval s = v) (hown : w.ownsRow base e 1 v xs.length (ints xs)) (B : Nat) (A : Option Addr) (m : Nat) (ys : List Nat) (c : Nat) (hm : ys.length = m)
    (hx : a.eval x = .slice A m c) (hr : Rd w B A ys) (hb : xs.length + ys.length ≤ 10000000) (hbase : base ≤ w.heap.size)
    (h : ∀ A' n' c' w', Hid ((xs ++ ys).length = n') → n' ≤ c' → Hid (w'.ownsRow base e 1 (.slice A' n' c') n' (ints (xs ++ ys))) → w.grownBy w' v.ownBlock → K (a.put o.dst (.slice A' n' c')) w') :
    if Region.wanted o (yielded ops a.tmps) = true then Oper.wp P o a w K Q else E := by
  subst hm
  have hw : Region.wanted o (yielded ops a.tmps) = true := by simp [Region.wanted, hgd]
  rw [if_pos hw]
  obtain ⟨v', w', hrun, h2, h3, h4⟩ := run_append_ints (P := P) w base t o.type e ht hinfo v xs hown B A ys c hr hb hbase
  unfold Oper.wp execOp
  simp only [ho, resolve, invoke, builtin, Sem.run_bind, Sem.run_pure, Result.andThen_ok, List.map_toArray, List.map_cons, List.map_nil, hs, hx, hrun]
  rw [← List.length_append] at h2
  obtain ⟨A', c', rfl, hc'⟩ := ownsRow_form w' h2
  exact h A' _ c' w' rfl hc' h2 h3

/-- The slice at address A reads, in world w, as the words xs. -/
def Ru (w : World) (A : Option Addr) (xs : List Nat) : Prop :=
  xs ≠ [] → ∃ b o, A = some ⟨b, o, none⟩ ∧ ∀ k, k < xs.length → w.cell? ⟨b, o + k, none⟩ = some (.int .u64 ((nth xs k : Nat) : Int))
theorem Ru.at_ {w : World} {A : Option Addr} {xs : List Nat} {k : Nat} (h : Ru w A xs) (hk : k < xs.length) :
    ∃ b o, A = some ⟨b, o, none⟩ ∧ w.cell? ⟨b, o + k, none⟩ = some (.int .u64 ((nth xs k : Nat) : Int)) := by
  obtain ⟨b, o, h1, h2⟩ := h (by rintro rfl; simp at hk)
  exact ⟨b, o, h1, h2 k hk⟩
theorem Ru.below {w w' : World} {A : Option Addr} {xs : List Nat} (h : Ru w A xs) (hb : Below w.heap.size w w') : Ru w' A xs := by
  intro hx
  obtain ⟨b, o, h1, h2⟩ := h hx
  exact ⟨b, o, h1, fun k hk => (hb.cell (World.block_lt_of_cell? w _ (h2 k hk))).trans (h2 k hk)⟩
theorem Ru.nil (w : World) (A : Option Addr) : Ru w A [] := fun h => absurd rfl h
/-- All are words. -/
def Wds (xs : List Nat) : Prop := ∀ k, nth xs k < 18446744073709551616
theorem Wds.nth {xs : List Nat} (h : Wds xs) (k : Nat) : nth xs k < 18446744073709551616 := h k
/-- The cells of a list of words. -/
def wds (xs : List Nat) : List Value := xs.map fun (d : Nat) => Value.int .u64 (d : Int)
theorem Ru.lit (w : World) (t : TypeId) (xs : List Nat) : Ru (w.alloc (.cells (wds xs).toArray t)) (some ⟨w.heap.size, 0, none⟩) xs := fun _ =>
  ⟨w.heap.size, 0, rfl, fun k hk => by
    rw [(Blk.new w t (wds xs).toArray).cell (0 + k), Nat.zero_add]
    simp [wds, nth_in hk, List.getElem?_eq_getElem hk]⟩
theorem Wds.nil : Wds [] := fun k => by simp [_root_.Go.Proofs.Ytojdgcalpdbifaa.nth]
theorem Wds.of_all {xs : List Nat} (h : ∀ x ∈ xs, x < 18446744073709551616) : Wds xs := fun k => by
  rcases Nat.lt_or_ge k xs.length with hk | hk
  · rw [nth_in hk]; exact h _ (List.getElem_mem hk)
  · rw [nth_out hk]; omega

end Go.Proofs.Ytojdgcalpdbifaa

namespace Go.Proofs.Ytojdgcalpdbifaa

/-- The number of a list of digits. -/
def V : List Nat → Nat
  | [] => 0
  | d :: r => d + 65536 * V r
/-- Digits all below 65536. -/
def Dig (xs : List Nat) : Prop := ∀ d ∈ xs, d < 65536
/-- Without noughts at the end. -/
def Can (xs : List Nat) : Prop := Dig xs ∧ (xs ≠ [] → nth xs (xs.length - 1) ≠ 0)

theorem Dig.nil : Dig [] := by intro d h; simp at h
theorem Dig.nth {xs : List Nat} (h : Dig xs) (i : Nat) : nth xs i < 65536 := by
  by_cases hi : i < xs.length
  · rw [nth_in hi]; exact h _ (List.getElem_mem hi)
  · rw [nth_out (by omega)]; omega
theorem Dig.snoc {xs : List Nat} (h : Dig xs) {d : Nat} (hd : d < 65536) : Dig (xs ++ [d]) := by
  intro x hx
  rcases List.mem_append.1 hx with hx | hx
  · exact h x hx
  · simp at hx; omega
theorem Dig.take {xs : List Nat} (h : Dig xs) (k : Nat) : Dig (xs.take k) := fun d hd => h d (List.mem_of_mem_take hd)
theorem Dig.drop {xs : List Nat} (h : Dig xs) (k : Nat) : Dig (xs.drop k) := fun d hd => h d (List.mem_of_mem_drop hd)
theorem Dig.tail {d : Nat} {xs : List Nat} (h : Dig (d :: xs)) : Dig xs := fun x hx => h x (List.mem_cons_of_mem _ hx)
theorem Can.nil : Can [] := ⟨Dig.nil, fun h => absurd rfl h⟩

theorem V_append (xs ys : List Nat) : V (xs ++ ys) = V xs + 65536 ^ xs.length * V ys := by
  induction xs with
  | nil => simp [V]
  | cons d r ih =>
    simp only [List.cons_append, V, ih, List.length_cons, Nat.pow_succ]
    grind
theorem V_snoc (xs : List Nat) (d : Nat) : V (xs ++ [d]) = V xs + 65536 ^ xs.length * d := by
  rw [V_append]; simp [V]
theorem take_snoc (xs : List Nat) (k : Nat) (h : k < xs.length) : xs.take (k + 1) = xs.take k ++ [nth xs k] := by
  rw [List.take_succ_eq_append_getElem h, nth_in h]
/-- One digit more, also behind the end. -/
theorem V_take_succ (xs : List Nat) (k : Nat) : V (xs.take (k + 1)) = V (xs.take k) + 65536 ^ k * nth xs k := by
  by_cases h : k < xs.length
  · rw [take_snoc xs k h, V_snoc]
    simp [Nat.min_eq_left (Nat.le_of_lt h)]
  · rw [List.take_of_length_le (by omega), List.take_of_length_le (by omega), nth_out (by omega)]
    simp
theorem V_take_all (xs : List Nat) (k : Nat) (h : xs.length ≤ k) : V (xs.take k) = V xs := by rw [List.take_of_length_le h]
theorem V_drop (xs : List Nat) (k : Nat) : V (xs.drop k) = nth xs k + 65536 * V (xs.drop (k + 1)) := by
  by_cases h : k < xs.length
  · rw [List.drop_eq_getElem_cons h, nth_in h]; rfl
  · rw [List.drop_eq_nil_of_le (by omega), List.drop_eq_nil_of_le (by omega), nth_out (by omega)]; rfl
theorem V_lt {xs : List Nat} (h : Dig xs) : V xs < 65536 ^ xs.length := by
  induction xs with
  | nil => simp [V]
  | cons d r ih =>
    have h1 := ih h.tail
    have h2 := h d (by simp)
    simp only [V, List.length_cons, Nat.pow_succ]
    omega
theorem V_ge {xs : List Nat} (h : Can xs) (hx : xs ≠ []) : 65536 ^ (xs.length - 1) ≤ V xs := by
  obtain ⟨hd, hl⟩ := h
  have h0 := hl hx
  have hlen := List.length_pos_iff.2 hx
  have e : xs = xs.take (xs.length - 1) ++ [nth xs (xs.length - 1)] := by
    rw [← take_snoc xs (xs.length - 1) (by omega), List.take_of_length_le (by omega)]
  have e2 : V xs = V (xs.take (xs.length - 1)) + 65536 ^ (xs.length - 1) * nth xs (xs.length - 1) := by
    have := V_take_succ xs (xs.length - 1)
    rw [V_take_all xs _ (by omega)] at this
    exact this
  have : 65536 ^ (xs.length - 1) * 1 ≤ 65536 ^ (xs.length - 1) * nth xs (xs.length - 1) := Nat.mul_le_mul_left _ (by omega)
  omega
/-- A canonical list of a number below 65536^k has at most k digits. -/
theorem Can.len {xs : List Nat} (h : Can xs) {k : Nat} (hk : V xs < 65536 ^ k) : xs.length ≤ k := by
  rcases Nat.lt_or_ge k xs.length with hlt | hge
  · have hx : xs ≠ [] := by rintro rfl; simp at hlt
    have h1 := V_ge h hx
    have h2 : 65536 ^ k ≤ 65536 ^ (xs.length - 1) := Nat.pow_le_pow_right (by omega) (by omega)
    omega
  · exact hge
theorem V_zeros (xs : List Nat) (n : Nat) (h : ∀ j, n ≤ j → nth xs j = 0) : V (xs.take n) = V xs := by
  induction xs generalizing n with
  | nil => simp
  | cons d r ih =>
    cases n with
    | zero =>
      have h0 : d = 0 := by have := h 0 (Nat.zero_le _); rwa [nth_cons0] at this
      have := ih 0 (fun j _ => by have := h (j + 1) (Nat.zero_le _); rwa [nth_cons] at this)
      simp only [List.take_zero, V] at this ⊢
      omega
    | succ n =>
      have := ih n (fun j hj => by have := h (j + 1) (by omega); rwa [nth_cons] at this)
      simp only [List.take_succ_cons, V, this]
theorem Can.of_take {xs : List Nat} (h : Dig xs) {n : Nat} (hn : n ≤ xs.length) (h0 : 0 < n → nth xs (n - 1) ≠ 0) : Can (xs.take n) := by
  refine ⟨h.take n, fun hx => ?_⟩
  have hl : (xs.take n).length = n := by simp [hn]
  have hpos : 0 < n := by
    rcases Nat.eq_zero_or_pos n with h | h
    · subst h; simp at hx
    · exact h
  rw [hl, nth_take (by omega)]
  exact h0 hpos
theorem Can.snoc {xs : List Nat} (h : Dig xs) {d : Nat} (hd : d < 65536) (h0 : d ≠ 0) : Can (xs ++ [d]) := by
  refine ⟨h.snoc hd, fun _ => ?_⟩
  simp only [nth, List.length_append, List.length_singleton, Nat.add_sub_cancel]
  simpa using h0
theorem V_inj {xs ys : List Nat} (hx : Can xs) (hy : Can ys) (h : V xs = V ys) : xs = ys := by
  induction xs generalizing ys with
  | nil =>
    cases ys with
    | nil => rfl
    | cons d r =>
      have := V_ge hy (by simp)
      have h2 : 0 < 65536 ^ ((d :: r).length - 1) := Nat.pow_pos (by omega)
      rw [← h] at this
      simp only [V] at this
      omega
  | cons d r ih =>
    cases ys with
    | nil =>
      have := V_ge hx (by simp)
      have h2 : 0 < 65536 ^ ((d :: r).length - 1) := Nat.pow_pos (by omega)
      rw [h] at this
      simp only [V] at this
      omega
    | cons e s =>
      have h1 := hx.1 d (by simp)
      have h2 := hy.1 e (by simp)
      simp only [V] at h
      have hde : d = e := by omega
      have hrs : V r = V s := by omega
      have tl : ∀ {a : Nat} {l : List Nat}, Can (a :: l) → Can l := by
        intro a l hc
        refine ⟨hc.1.tail, fun hl => ?_⟩
        have := hc.2 (by simp)
        have hlen := List.length_pos_iff.2 hl
        rw [show (a :: l).length - 1 = (l.length - 1) + 1 by simp; omega, nth_cons] at this
        exact this
      rw [hde, ih (tl hx) (tl hy) hrs]

end Go.Proofs.Ytojdgcalpdbifaa

namespace Go.Proofs.Ytojdgcalpdbifaa
open Go.RowKit

/-- The cells of a list of naturals, as u32s. -/
def u32s (xs : List Nat) : List Value := xs.map fun (d : Nat) => Value.int .u32 (d : Int)

theorem u32s_length (xs : List Nat) : (u32s xs).length = xs.length := by simp [u32s]
theorem u32s_get {xs : List Nat} {k : Nat} (h : k < xs.length) : (u32s xs)[k]? = some (.int .u32 ((nth xs k : Nat) : Int)) := by
  simp [u32s, nth_in h, List.getElem?_eq_getElem h]
theorem u32s_one (xs : List Nat) : ∀ u ∈ u32s xs, u.oneCell' = true := by
  intro u hu
  simp only [u32s, List.mem_map] at hu
  obtain ⟨d, _, rfl⟩ := hu
  rfl
theorem u32s_append (xs ys : List Nat) : u32s (xs ++ ys) = u32s xs ++ u32s ys := by simp [u32s]

/-- The slice at address A reads, in world w, as the list xs; every cell lies below block B. -/
def Ra (w : World) (B : Nat) (A : Option Addr) (xs : List Nat) : Prop :=
  xs ≠ [] → ∃ b o, A = some ⟨b, o, none⟩ ∧ b < B ∧ ∀ k, k < xs.length → w.cell? ⟨b, o + k, none⟩ = some (.int .u32 ((nth xs k : Nat) : Int))

theorem Ra.at_ {w : World} {B : Nat} {A : Option Addr} {xs : List Nat} {k : Nat} (h : Ra w B A xs) (hk : k < xs.length) :
    ∃ b o, A = some ⟨b, o, none⟩ ∧ b < B ∧ w.cell? ⟨b, o + k, none⟩ = some (.int .u32 ((nth xs k : Nat) : Int)) := by
  obtain ⟨b, o, h1, h2, h3⟩ := h (by rintro rfl; simp at hk)
  exact ⟨b, o, h1, h2, h3 k hk⟩
theorem Ra.keep {w w' : World} {B : Nat} {A : Option Addr} {xs : List Nat} (h : Ra w B A xs) (hk : ∀ p : Addr, p.block < B → w'.cell? p = w.cell? p) : Ra w' B A xs := by
  intro hx
  obtain ⟨b, o, h1, h2, h3⟩ := h hx
  exact ⟨b, o, h1, h2, fun k hkl => (hk _ h2).trans (h3 k hkl)⟩
theorem Ra.more {w : World} {B B' : Nat} {A : Option Addr} {xs : List Nat} (h : Ra w B A xs) (hB : B ≤ B') : Ra w B' A xs := by
  intro hx
  obtain ⟨b, o, h1, h2, h3⟩ := h hx
  exact ⟨b, o, h1, by omega, h3⟩
theorem Ra.below {w w' : World} {B C : Nat} {A : Option Addr} {xs : List Nat} (h : Ra w B A xs) (hb : Below C w w') (hB : B ≤ C) : Ra w' B A xs := h.keep fun _ hp => hb.cell (by omega)
theorem Ra.alloc {w : World} {B : Nat} {A : Option Addr} {xs : List Nat} (h : Ra w B A xs) (hB : B ≤ w.heap.size) (o : Obj) : Ra (w.alloc o) B A xs :=
  h.keep fun p hp => World.cell?_alloc_lt w o p (by omega)
theorem Ra.grown {w w' : World} {B : Nat} {A : Option Addr} {xs : List Nat} (h : Ra w B A xs) {row : Option Nat} (hg : w.grownBy w' row) (hB : B ≤ w.heap.size) (hr : ∀ g, row = some g → B ≤ g) : Ra w' B A xs :=
  h.keep fun p hp => World.cell?_of_block (hg.block p.block (by omega) (fun e => by have := hr _ e.symm; omega))
theorem Ra.drop {w : World} {B : Nat} {b o : Nat} {xs : List Nat} (h : Ra w B (some ⟨b, o, none⟩) xs) (k : Nat) : Ra w B (some ⟨b, o + k, none⟩) (xs.drop k) := by
  intro hx
  have hne : xs ≠ [] := by rintro rfl; simp at hx
  obtain ⟨b', o', h1, h2, h3⟩ := h hne
  injection h1 with h1
  injection h1 with h4 h5
  subst h4 h5
  refine ⟨b, o + k, rfl, h2, fun j hj => ?_⟩
  simp only [List.length_drop] at hj
  rw [Nat.add_assoc, h3 (k + j) (by omega), nth_drop]
theorem Ra.take {w : World} {B : Nat} {A : Option Addr} {xs : List Nat} (h : Ra w B A xs) (k : Nat) : Ra w B A (xs.take k) := by
  intro hx
  have hne : xs ≠ [] := by rintro rfl; simp at hx
  obtain ⟨b, o, h1, h2, h3⟩ := h hne
  refine ⟨b, o, h1, h2, fun j hj => ?_⟩
  simp only [List.length_take] at hj
  rw [h3 j (by omega), nth_take (by omega)]
theorem Ra.nil (w : World) (B : Nat) (A : Option Addr) : Ra w B A [] := fun h => absurd rfl h

/-- What the call owns reads. -/
theorem Ra.of_own {w : World} {base : Nat} {e : TypeId} {A : Option Addr} {c n : Nat} {xs : List Nat} (h : w.ownsRow base e 1 (.slice A n c) n (u32s xs)) : Ra w w.heap.size A xs := by
  intro hx
  have hl := h.1
  rw [u32s_length] at hl
  have hpos : 0 < xs.length := List.length_pos_iff.2 hx
  rcases h.2 with ⟨_, h0⟩ | ⟨g, cap, cur, hv, _, hh, _⟩
  · omega
  · have hA : A = some ⟨g, 0, none⟩ := by injection hv
    subst hA
    refine ⟨g, 0, rfl, ?_, fun k hk => ?_⟩
    · rcases Nat.lt_or_ge g w.heap.size with hlt | hge
      · exact hlt
      · rw [Array.getElem?_eq_none hge] at hh; cases hh
    · have hc := h.cells (g := g) rfl k _ (u32s_get hk)
      rw [Nat.zero_add]
      unfold Addr.add at hc
      split at hc
      · next h0 => subst h0; exact hc
      · simpa using hc

theorem Ra.setCell {w : World} {B : Nat} {A : Option Addr} {xs : List Nat} (h : Ra w B A xs) {p : Addr} (hp : B ≤ p.block) (u : Value) : Ra (w.setCell p u) B A xs :=
  h.keep fun q hq => World.cell?_setCell_other w p q u (fun e => by subst e; omega)
/-- What is owned from 'base' on reads so also where a cell below 'base' is written: the blocks differ. -/
theorem Ra.of_own_set {w : World} {base : Nat} {e : TypeId} {A : Option Addr} {c n : Nat} {xs : List Nat} (h : w.ownsRow base e 1 (.slice A n c) n (u32s xs)) {p : Addr} (hp : p.block < base) (u : Value) :
    Ra (w.setCell p u) (w.setCell p u).heap.size A xs := Ra.of_own (ownsRow_setCell_below h hp u)

/-- If the slice has elements, it lies in a block from L on. -/
def Fa (L : Nat) (A : Option Addr) (xs : List Nat) : Prop := xs ≠ [] → ∃ b o, A = some ⟨b, o, none⟩ ∧ L ≤ b
theorem Fa.of_own {w : World} {base : Nat} {e : TypeId} {A : Option Addr} {c n : Nat} {xs : List Nat} (h : w.ownsRow base e 1 (.slice A n c) n (u32s xs)) : Fa base A xs := by
  intro hx
  have hl := h.1
  rw [u32s_length] at hl
  have hpos : 0 < xs.length := List.length_pos_iff.2 hx
  rcases h.2 with ⟨_, h0⟩ | ⟨g, cap, cur, hv, hg, _, _⟩
  · omega
  · injection hv with hA
    exact ⟨g, 0, hA, hg⟩
theorem Fa.more {L L' : Nat} {A : Option Addr} {xs : List Nat} (h : Fa L A xs) (hl : L' ≤ L) : Fa L' A xs := fun hx => by
  obtain ⟨b, o, h1, h2⟩ := h hx
  exact ⟨b, o, h1, by omega⟩
/-- A store into an older block leaves it. -/
theorem Ra.old {w : World} {B L : Nat} {A : Option Addr} {xs : List Nat} (h : Ra w B A xs) (hf : Fa L A xs) {p : Addr} (hp : p.block < L) (u : Value) : Ra (w.setCell p u) B A xs := by
  intro hx
  obtain ⟨b, o, h1, h2, h3⟩ := h hx
  obtain ⟨b', o', h4, h5⟩ := hf hx
  rw [h1] at h4
  injection h4 with h4
  injection h4 with h4
  subst h4
  refine ⟨b, o, h1, h2, fun k hk => ?_⟩
  rw [World.cell?_setCell_other w p _ u (fun e => by rw [e] at hp; simp at hp; omega)]
  exact h3 k hk
/-- One element in a block of its own: what 'append(s, x)' hands on. -/
theorem Ra.one (w : World) (d : Nat) (t : TypeId) : Ra (w.alloc (.cells #[.int .u32 (d : Int)] t)) (w.heap.size + 1) (some ⟨w.heap.size, 0, none⟩) [d] := by
  intro _
  refine ⟨w.heap.size, 0, rfl, by omega, fun k hk => ?_⟩
  simp only [List.length_singleton] at hk
  obtain rfl : k = 0 := by omega
  rw [nth_cons0]
  exact cell_one_new w (.int .u32 (d : Int)) t 0 _ rfl

/-- A literal slice of u32s is the call's own. -/
theorem owns_lit32 (w : World) (base : Nat) (e : TypeId) (xs : List Nat) (hb : base ≤ w.heap.size) (hl : xs.length ≤ maxLen) :
    (w.alloc (.cells (u32s xs).toArray e)).ownsRow base e 1 (.slice (some ⟨w.heap.size, 0, none⟩) xs.length xs.length) xs.length (u32s xs) :=
  ⟨by simp [u32s_length], .inr ⟨w.heap.size, xs.length, (u32s xs).toArray, rfl, hb, heap_alloc_new w _, Nat.le_refl _, hl, by simp [u32s_length], by
    rw [List.take_of_length_le (by simp [u32s_length])]⟩⟩

section
variable {P : Program} (w : World)

/-- append onto a row of u32s of the call's own; what is appended may be nil, empty or not. -/
theorem run_append_u32s (base : Nat) (t ty e : TypeId) (ht : P.underlying t = some (.slice e)) (hinfo : (P.info? e).map (fun i => (i.zero, i.size, i.bytes)) = some (some (.int .u32 0), 1, 4))
    (v : Value) (xs : List Nat) (hown : w.ownsRow base e 1 v xs.length (u32s xs)) (B : Nat) (A : Option Addr) (ys : List Nat) (c : Nat) (hr : Ra w B A ys)
    (hb : xs.length + ys.length ≤ 10000000) (hbase : base ≤ w.heap.size) :
    ∃ v' w', (Builtin.append_ #[t, t] ty #[v, .slice A ys.length c]).run P w = .ok v' w' ∧ w'.ownsRow base e 1 v' (xs.length + ys.length) (u32s (xs ++ ys)) ∧ w.grownBy w' v.ownBlock ∧
      (v'.ownBlock = v.ownBlock ∨ v'.ownBlock = some w.heap.size) := by
  obtain ⟨i, hi, hz, hsz, hby⟩ := info_parts hinfo
  cases A with
  | none =>
    obtain rfl : ys = [] := by
      rcases ys with _ | ⟨y, r⟩
      · rfl
      · obtain ⟨_, _, h, _⟩ := hr (by simp)
        cases h
    refine ⟨v, w, ?_, by simpa using hown, World.grownBy.refl w _, .inl rfl⟩
    rcases hown.2 with ⟨rfl, _⟩ | ⟨g, cap, cur, rfl, _, _, hnc, _⟩
    · simp [Builtin.append_, run_underlying ht, sizeOf, typeInfo, hi, Builtin.lenOf, Builtin.firstCells]
    · simp [Builtin.append_, run_underlying ht, sizeOf, typeInfo, hi, Builtin.lenOf, Builtin.firstCells, hnc, storeCells]
  | some ad =>
    have hcells : ∀ j u, (u32s ys)[j]? = some u → w.cell? (ad.add j) = some u := by
      intro j u hu
      have hj : j < ys.length := by
        rcases Nat.lt_or_ge j ys.length with h | h
        · exact h
        · rw [List.getElem?_eq_none (by rw [u32s_length]; exact h)] at hu; cases hu
      rw [u32s_get hj] at hu
      injection hu with hu
      obtain ⟨b, o, h1, _, h2⟩ := hr.at_ hj
      injection h1 with h1
      subst h1
      rw [← hu, ← h2]
      unfold Addr.add
      split
      · next h0 => subst h0; rfl
      · rfl
    obtain ⟨v', w', hrun, h2, h3, _, h5⟩ := run_append_own_at (P := P) w base t ty e i (.int .u32 0) 1 4 ht hi hz hsz hby rfl (by decide) v xs.length (u32s xs) hown ad ys.length c (u32s ys)
      (by simp [u32s_length]) hcells (u32s_one ys) (by unfold maxLen; omega) (by omega) hbase
    exact ⟨v', w', hrun, by rw [u32s_append]; exact h2, h3, h5⟩

theorem wpList_append_u32s {ops : Array Oper} {rest : List Oper} {o : Oper} {a : Act} {Q : Exit → Act → World → Prop} (hgd : o.guard = none) (s x : Operand) (t : TypeId)
    (ho : o.op = .call { callee := .builtin .append, args := #[s, x], argTypes := #[t, t] })
    (base : Nat) (e : TypeId) (ht : P.underlying t = some (.slice e)) (hinfo : (P.info? e).map (fun i => (i.zero, i.size, i.bytes)) = some (some (.int .u32 0), 1, 4))
    (v : Value) (xs : List Nat) (hs : a.eval s = v) (hown : w.ownsRow base e 1 v xs.length (u32s xs)) (B : Nat) (A : Option Addr) (m : Nat) (ys : List Nat) (c : Nat) (hm : ys.length = m)
    (hx : a.eval x = .slice A m c) (hr : Ra w B A ys) (hb : xs.length + ys.length ≤ 10000000) (hbase : base ≤ w.heap.size)
    (h : ∀ A' n' c' w', Hid ((xs ++ ys).length = n') → n' ≤ c' → Hid (w'.ownsRow base e 1 (.slice A' n' c') n' (u32s (xs ++ ys))) → w.grownBy w' v.ownBlock → wpList P ops Q rest (a.put o.dst (.slice A' n' c')) w') :
    wpList P ops Q (o :: rest) a w := by
  subst hm
  refine wpList_plain hgd fun K hK => ?_
  obtain ⟨v', w', hrun, h2, h3, h4⟩ := run_append_u32s (P := P) w base t o.type e ht hinfo v xs hown B A ys c hr hb hbase
  unfold Oper.wp execOp
  simp only [ho, resolve, invoke, builtin, Sem.run_bind, Sem.run_pure, Result.andThen_ok, List.map_toArray, List.map_cons, List.map_nil, hs, hx, hrun]
  rw [← List.length_append] at h2
  obtain ⟨A', c', rfl, hc'⟩ := ownsRow_form w' h2
  exact hK _ _ (h A' _ c' w' rfl hc' h2 h3)
end

/-- append at a step of a region that draws. -/
theorem step_append_u32s {P : Program} (w : World) {ops : Array Oper} {o : Oper} {a : Act} {K : Act → World → Prop} {Q : Exit → Act → World → Prop} {E : Prop} (hgd : o.guard = none) (s x : Operand) (t : TypeId)
    (ho : o.op = .call { callee := .builtin .append, args := #[s, x], argTypes := #[t, t] })
    (base : Nat) (e : TypeId) (ht : P.underlying t = some (.slice e)) (hinfo : (P.info? e).map (fun i => (i.zero, i.size, i.bytes)) = some (some (.int .u32 0), 1, 4))
    (v : Value) (xs : List Nat) (hs : a.eval s = v) (hown : w.ownsRow base e 1 v xs.length (u32s xs)) (B : Nat) (A : Option Addr) (m : Nat) (ys : List Nat) (c : Nat) (hm : ys.length = m)
    (hx : a.eval x = .slice A m c) (hr : Ra w B A ys) (hb : xs.length + ys.length ≤ 10000000) (hbase : base ≤ w.heap.size)
    (h : ∀ A' n' c' w', Hid ((xs ++ ys).length = n') → n' ≤ c' → Hid (w'.ownsRow base e 1 (.slice A' n' c') n' (u32s (xs ++ ys))) → w.grownBy w' v.ownBlock → K (a.put o.dst (.slice A' n' c')) w') :
    if Region.wanted o (yielded ops a.tmps) = true then Oper.wp P o a w K Q else E := by
  subst hm
  have hw : Region.wanted o (yielded ops a.tmps) = true := by simp [Region.wanted, hgd]
  rw [if_pos hw]
  obtain ⟨v', w', hrun, h2, h3, h4⟩ := run_append_u32s (P := P) w base t o.type e ht hinfo v xs hown B A ys c hr hb hbase
  unfold Oper.wp execOp
  simp only [ho, resolve, invoke, builtin, Sem.run_bind, Sem.run_pure, Result.andThen_ok, List.map_toArray, List.map_cons, List.map_nil, hs, hx, hrun]
  rw [← List.length_append] at h2
  obtain ⟨A', c', rfl, hc'⟩ := ownsRow_form w' h2
  exact h A' _ c' w' rfl hc' h2 h3


end Go.Proofs.Ytojdgcalpdbifaa

namespace Go.Proofs.Ytojdgcalpdbifaa

/-- The number of a list of digits. -/
def U : List Nat → Nat
  | [] => 0
  | d :: r => d + 4294967296 * U r
/-- Digits all below 2^32. -/
def Dg (xs : List Nat) : Prop := ∀ d ∈ xs, d < 4294967296
/-- Without noughts at the end. -/
def Cn (xs : List Nat) : Prop := Dg xs ∧ (xs ≠ [] → nth xs (xs.length - 1) ≠ 0)

theorem Dg.nil : Dg [] := by intro d h; simp at h
theorem Dg.nth {xs : List Nat} (h : Dg xs) (i : Nat) : nth xs i < 4294967296 := by
  by_cases hi : i < xs.length
  · rw [nth_in hi]; exact h _ (List.getElem_mem hi)
  · rw [nth_out (by omega)]; omega
theorem Dg.snoc {xs : List Nat} (h : Dg xs) {d : Nat} (hd : d < 4294967296) : Dg (xs ++ [d]) := by
  intro x hx
  rcases List.mem_append.1 hx with hx | hx
  · exact h x hx
  · simp at hx; omega
theorem Dg.take {xs : List Nat} (h : Dg xs) (k : Nat) : Dg (xs.take k) := fun d hd => h d (List.mem_of_mem_take hd)
theorem Dg.drop {xs : List Nat} (h : Dg xs) (k : Nat) : Dg (xs.drop k) := fun d hd => h d (List.mem_of_mem_drop hd)
theorem Dg.tail {d : Nat} {xs : List Nat} (h : Dg (d :: xs)) : Dg xs := fun x hx => h x (List.mem_cons_of_mem _ hx)
theorem Cn.nil : Cn [] := ⟨Dg.nil, fun h => absurd rfl h⟩

theorem U_append (xs ys : List Nat) : U (xs ++ ys) = U xs + 4294967296 ^ xs.length * U ys := by
  induction xs with
  | nil => simp [U]
  | cons d r ih =>
    simp only [List.cons_append, U, ih, List.length_cons, Nat.pow_succ]
    grind
theorem U_snoc (xs : List Nat) (d : Nat) : U (xs ++ [d]) = U xs + 4294967296 ^ xs.length * d := by
  rw [U_append]; simp [U]
/-- One digit more, also behind the end. -/
theorem U_take_succ (xs : List Nat) (k : Nat) : U (xs.take (k + 1)) = U (xs.take k) + 4294967296 ^ k * nth xs k := by
  by_cases h : k < xs.length
  · rw [take_snoc xs k h, U_snoc]
    simp [Nat.min_eq_left (Nat.le_of_lt h)]
  · rw [List.take_of_length_le (by omega), List.take_of_length_le (by omega), nth_out (by omega)]
    simp
theorem U_take_all (xs : List Nat) (k : Nat) (h : xs.length ≤ k) : U (xs.take k) = U xs := by rw [List.take_of_length_le h]
theorem U_drop (xs : List Nat) (k : Nat) : U (xs.drop k) = nth xs k + 4294967296 * U (xs.drop (k + 1)) := by
  by_cases h : k < xs.length
  · rw [List.drop_eq_getElem_cons h, nth_in h]; rfl
  · rw [List.drop_eq_nil_of_le (by omega), List.drop_eq_nil_of_le (by omega), nth_out (by omega)]; rfl
theorem U_lt {xs : List Nat} (h : Dg xs) : U xs < 4294967296 ^ xs.length := by
  induction xs with
  | nil => simp [U]
  | cons d r ih =>
    have h1 := ih h.tail
    have h2 := h d (by simp)
    simp only [U, List.length_cons, Nat.pow_succ]
    omega
theorem U_ge {xs : List Nat} (h : Cn xs) (hx : xs ≠ []) : 4294967296 ^ (xs.length - 1) ≤ U xs := by
  obtain ⟨hd, hl⟩ := h
  have h0 := hl hx
  have hlen := List.length_pos_iff.2 hx
  have e : xs = xs.take (xs.length - 1) ++ [nth xs (xs.length - 1)] := by
    rw [← take_snoc xs (xs.length - 1) (by omega), List.take_of_length_le (by omega)]
  have e2 : U xs = U (xs.take (xs.length - 1)) + 4294967296 ^ (xs.length - 1) * nth xs (xs.length - 1) := by
    have := U_take_succ xs (xs.length - 1)
    rw [U_take_all xs _ (by omega)] at this
    exact this
  have : 4294967296 ^ (xs.length - 1) * 1 ≤ 4294967296 ^ (xs.length - 1) * nth xs (xs.length - 1) := Nat.mul_le_mul_left _ (by omega)
  omega
/-- A canonical list of a number below 4294967296^k has at most k digits. -/
theorem Cn.len {xs : List Nat} (h : Cn xs) {k : Nat} (hk : U xs < 4294967296 ^ k) : xs.length ≤ k := by
  rcases Nat.lt_or_ge k xs.length with hlt | hge
  · have hx : xs ≠ [] := by rintro rfl; simp at hlt
    have h1 := U_ge h hx
    have h2 : 4294967296 ^ k ≤ 4294967296 ^ (xs.length - 1) := Nat.pow_le_pow_right (by omega) (by omega)
    omega
  · exact hge
theorem U_zeros (xs : List Nat) (n : Nat) (h : ∀ j, n ≤ j → nth xs j = 0) : U (xs.take n) = U xs := by
  induction xs generalizing n with
  | nil => simp
  | cons d r ih =>
    cases n with
    | zero =>
      have h0 : d = 0 := by have := h 0 (Nat.zero_le _); rwa [nth_cons0] at this
      have := ih 0 (fun j _ => by have := h (j + 1) (Nat.zero_le _); rwa [nth_cons] at this)
      simp only [List.take_zero, U] at this ⊢
      omega
    | succ n =>
      have := ih n (fun j hj => by have := h (j + 1) (by omega); rwa [nth_cons] at this)
      simp only [List.take_succ_cons, U, this]
theorem Cn.of_take {xs : List Nat} (h : Dg xs) {n : Nat} (hn : n ≤ xs.length) (h0 : 0 < n → nth xs (n - 1) ≠ 0) : Cn (xs.take n) := by
  refine ⟨h.take n, fun hx => ?_⟩
  have hl : (xs.take n).length = n := by simp [hn]
  have hpos : 0 < n := by
    rcases Nat.eq_zero_or_pos n with h | h
    · subst h; simp at hx
    · exact h
  rw [hl, nth_take (by omega)]
  exact h0 hpos
theorem Cn.snoc {xs : List Nat} (h : Dg xs) {d : Nat} (hd : d < 4294967296) (h0 : d ≠ 0) : Cn (xs ++ [d]) := by
  refine ⟨h.snoc hd, fun _ => ?_⟩
  simp only [nth, List.length_append, List.length_singleton, Nat.add_sub_cancel]
  simpa using h0
theorem U_inj {xs ys : List Nat} (hx : Cn xs) (hy : Cn ys) (h : U xs = U ys) : xs = ys := by
  induction xs generalizing ys with
  | nil =>
    cases ys with
    | nil => rfl
    | cons d r =>
      have := U_ge hy (by simp)
      have h2 : 0 < 4294967296 ^ ((d :: r).length - 1) := Nat.pow_pos (by omega)
      rw [← h] at this
      simp only [U] at this
      omega
  | cons d r ih =>
    cases ys with
    | nil =>
      have := U_ge hx (by simp)
      have h2 : 0 < 4294967296 ^ ((d :: r).length - 1) := Nat.pow_pos (by omega)
      rw [h] at this
      simp only [U] at this
      omega
    | cons e s =>
      have h1 := hx.1 d (by simp)
      have h2 := hy.1 e (by simp)
      simp only [U] at h
      have hde : d = e := by omega
      have hrs : U r = U s := by omega
      have tl : ∀ {a : Nat} {l : List Nat}, Cn (a :: l) → Cn l := by
        intro a l hc
        refine ⟨hc.1.tail, fun hl => ?_⟩
        have := hc.2 (by simp)
        have hlen := List.length_pos_iff.2 hl
        rw [show (a :: l).length - 1 = (l.length - 1) + 1 by simp; omega, nth_cons] at this
        exact this
      rw [hde, ih (tl hx) (tl hy) hrs]

end Go.Proofs.Ytojdgcalpdbifaa
