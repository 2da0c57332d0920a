/-
  Words for memory: a slice of bytes that reads as a list, and how that lasts.
-/
import Derived.Test.YtojdgcalpdbifaaMA
import Derived.Lib.AppendStr
import Derived.Test.YtojdgcalpdbifaaChecked
namespace Go.Proofs.Ytojdgcalpdbifaa
open Go.RowKit

/-- The cells of a list of bytes. -/
def u8s (xs : List UInt8) : List Value := xs.map fun d => Value.int .u8 (d.toNat : Int)
/-- The byte at a place, as a number. -/
def at8 (xs : List UInt8) (i : Nat) : Nat := (xs.getD i 0).toNat
theorem at8_in {xs : List UInt8} {i : Nat} (h : i < xs.length) : at8 xs i = xs[i].toNat := by simp [at8, List.getElem?_eq_getElem h]
theorem at8_drop (xs : List UInt8) (k j : Nat) : at8 (xs.drop k) j = at8 xs (k + j) := by simp [at8]
theorem at8_take {xs : List UInt8} {k j : Nat} (h : j < k) : at8 (xs.take k) j = at8 xs j := by simp [at8, List.getElem?_take, h]
theorem at8_cons0 (d : UInt8) (xs : List UInt8) : at8 (d :: xs) 0 = d.toNat := by simp [at8]
theorem at8_lt (xs : List UInt8) (i : Nat) : at8 xs i < 256 := UInt8.toNat_lt _

theorem u8s_length (xs : List UInt8) : (u8s xs).length = xs.length := by simp [u8s]
theorem u8s_get {xs : List UInt8} {k : Nat} (h : k < xs.length) : (u8s xs)[k]? = some (.int .u8 ((at8 xs k : Nat) : Int)) := by
  simp [u8s, at8_in h, List.getElem?_eq_getElem h]
theorem u8s_one (xs : List UInt8) : ∀ u ∈ u8s xs, u.oneCell' = true := by
  intro u hu
  simp only [u8s, List.mem_map] at hu
  obtain ⟨d, _, rfl⟩ := hu
  rfl
theorem u8s_append (xs ys : List UInt8) : u8s (xs ++ ys) = u8s xs ++ u8s ys := by simp [u8s]

/-- The slice at address A reads, in world w, as the list xs; every cell lies below block B. -/
def Rb (w : World) (B : Nat) (A : Option Addr) (xs : List UInt8) : Prop :=
  xs ≠ [] → ∃ b o, A = some ⟨b, o, none⟩ ∧ b < B ∧ ∀ k, k < xs.length → w.cell? ⟨b, o + k, none⟩ = some (.int .u8 ((at8 xs k : Nat) : Int))

theorem Rb.at_ {w : World} {B : Nat} {A : Option Addr} {xs : List UInt8} {k : Nat} (h : Rb w B A xs) (hk : k < xs.length) :
    ∃ b o, A = some ⟨b, o, none⟩ ∧ b < B ∧ w.cell? ⟨b, o + k, none⟩ = some (.int .u8 ((at8 xs k : Nat) : Int)) := by
  obtain ⟨b, o, h1, h2, h3⟩ := h (by rintro rfl; simp at hk)
  exact ⟨b, o, h1, h2, h3 k hk⟩
theorem Rb.keep {w w' : World} {B : Nat} {A : Option Addr} {xs : List UInt8} (h : Rb w B A xs) (hk : ∀ p : Addr, p.block < B → w'.cell? p = w.cell? p) : Rb w' B A xs := by
  intro hx
  obtain ⟨b, o, h1, h2, h3⟩ := h hx
  exact ⟨b, o, h1, h2, fun k hkl => (hk _ h2).trans (h3 k hkl)⟩
theorem Rb.more {w : World} {B B' : Nat} {A : Option Addr} {xs : List UInt8} (h : Rb w B A xs) (hB : B ≤ B') : Rb w B' A xs := by
  intro hx
  obtain ⟨b, o, h1, h2, h3⟩ := h hx
  exact ⟨b, o, h1, by omega, h3⟩
theorem Rb.below {w w' : World} {B C : Nat} {A : Option Addr} {xs : List UInt8} (h : Rb w B A xs) (hb : Below C w w') (hB : B ≤ C) : Rb w' B A xs := h.keep fun _ hp => hb.cell (by omega)
theorem Rb.alloc {w : World} {B : Nat} {A : Option Addr} {xs : List UInt8} (h : Rb w B A xs) (hB : B ≤ w.heap.size) (o : Obj) : Rb (w.alloc o) B A xs :=
  h.keep fun p hp => World.cell?_alloc_lt w o p (by omega)
theorem Rb.grown {w w' : World} {B : Nat} {A : Option Addr} {xs : List UInt8} (h : Rb w B A xs) {row : Option Nat} (hg : w.grownBy w' row) (hB : B ≤ w.heap.size) (hr : ∀ g, row = some g → B ≤ g) : Rb w' B A xs :=
  h.keep fun p hp => World.cell?_of_block (hg.block p.block (by omega) (fun e => by have := hr _ e.symm; omega))
theorem Rb.drop {w : World} {B : Nat} {b o : Nat} {xs : List UInt8} (h : Rb w B (some ⟨b, o, none⟩) xs) (k : Nat) : Rb w B (some ⟨b, o + k, none⟩) (xs.drop k) := by
  intro hx
  have hne : xs ≠ [] := by rintro rfl; simp at hx
  obtain ⟨b', o', h1, h2, h3⟩ := h hne
  injection h1 with h1
  injection h1 with h4 h5
  subst h4 h5
  refine ⟨b, o + k, rfl, h2, fun j hj => ?_⟩
  simp only [List.length_drop] at hj
  rw [Nat.add_assoc, h3 (k + j) (by omega), at8_drop]
theorem Rb.take {w : World} {B : Nat} {A : Option Addr} {xs : List UInt8} (h : Rb w B A xs) (k : Nat) : Rb w B A (xs.take k) := by
  intro hx
  have hne : xs ≠ [] := by rintro rfl; simp at hx
  obtain ⟨b, o, h1, h2, h3⟩ := h hne
  refine ⟨b, o, h1, h2, fun j hj => ?_⟩
  simp only [List.length_take] at hj
  rw [h3 j (by omega), at8_take (by omega)]
theorem Rb.nil (w : World) (B : Nat) (A : Option Addr) : Rb w B A [] := fun h => absurd rfl h

/-- What the call owns reads. -/
theorem Rb.of_own {w : World} {base : Nat} {e : TypeId} {A : Option Addr} {c n : Nat} {xs : List UInt8} (h : w.ownsRow base e 1 (.slice A n c) n (u8s xs)) : Rb w w.heap.size A xs := by
  intro hx
  have hl := h.1
  rw [u8s_length] at hl
  have hpos : 0 < xs.length := List.length_pos_iff.2 hx
  rcases h.2 with ⟨_, h0⟩ | ⟨g, cap, cur, hv, _, hh, _⟩
  · omega
  · have hA : A = some ⟨g, 0, none⟩ := by injection hv
    subst hA
    refine ⟨g, 0, rfl, ?_, fun k hk => ?_⟩
    · rcases Nat.lt_or_ge g w.heap.size with hlt | hge
      · exact hlt
      · rw [Array.getElem?_eq_none hge] at hh; cases hh
    · have hc := h.cells (g := g) rfl k _ (u8s_get hk)
      rw [Nat.zero_add]
      unfold Addr.add at hc
      split at hc
      · next h0 => subst h0; exact hc
      · simpa using hc

theorem Rb.setCell {w : World} {B : Nat} {A : Option Addr} {xs : List UInt8} (h : Rb w B A xs) {p : Addr} (hp : B ≤ p.block) (u : Value) : Rb (w.setCell p u) B A xs :=
  h.keep fun q hq => World.cell?_setCell_other w p q u (fun e => by subst e; omega)
/-- What is owned from 'base' on reads so also where a cell below 'base' is written: the blocks differ. -/
theorem Rb.of_own_set {w : World} {base : Nat} {e : TypeId} {A : Option Addr} {c n : Nat} {xs : List UInt8} (h : w.ownsRow base e 1 (.slice A n c) n (u8s xs)) {p : Addr} (hp : p.block < base) (u : Value) :
    Rb (w.setCell p u) (w.setCell p u).heap.size A xs := Rb.of_own (ownsRow_setCell_below h hp u)

/-- If the slice has elements, it lies in a block from L on. -/
def Fb (L : Nat) (A : Option Addr) (xs : List UInt8) : Prop := xs ≠ [] → ∃ b o, A = some ⟨b, o, none⟩ ∧ L ≤ b
theorem Fb.of_own {w : World} {base : Nat} {e : TypeId} {A : Option Addr} {c n : Nat} {xs : List UInt8} (h : w.ownsRow base e 1 (.slice A n c) n (u8s xs)) : Fb base A xs := by
  intro hx
  have hl := h.1
  rw [u8s_length] at hl
  have hpos : 0 < xs.length := List.length_pos_iff.2 hx
  rcases h.2 with ⟨_, h0⟩ | ⟨g, cap, cur, hv, hg, _, _⟩
  · omega
  · injection hv with hA
    exact ⟨g, 0, hA, hg⟩
theorem Fb.more {L L' : Nat} {A : Option Addr} {xs : List UInt8} (h : Fb L A xs) (hl : L' ≤ L) : Fb L' A xs := fun hx => by
  obtain ⟨b, o, h1, h2⟩ := h hx
  exact ⟨b, o, h1, by omega⟩
/-- A store into an older block leaves it. -/
theorem Rb.old {w : World} {B L : Nat} {A : Option Addr} {xs : List UInt8} (h : Rb w B A xs) (hf : Fb L A xs) {p : Addr} (hp : p.block < L) (u : Value) : Rb (w.setCell p u) B A xs := by
  intro hx
  obtain ⟨b, o, h1, h2, h3⟩ := h hx
  obtain ⟨b', o', h4, h5⟩ := hf hx
  rw [h1] at h4
  injection h4 with h4
  injection h4 with h4
  subst h4
  refine ⟨b, o, h1, h2, fun k hk => ?_⟩
  rw [World.cell?_setCell_other w p _ u (fun e => by rw [e] at hp; simp at hp; omega)]
  exact h3 k hk
/-- One element in a block of its own: what 'append(s, x)' hands on. -/
theorem Rb.one (w : World) (d : UInt8) (t : TypeId) : Rb (w.alloc (.cells #[.int .u8 (d.toNat : Int)] t)) (w.heap.size + 1) (some ⟨w.heap.size, 0, none⟩) [d] := by
  intro _
  refine ⟨w.heap.size, 0, rfl, by omega, fun k hk => ?_⟩
  simp only [List.length_singleton] at hk
  obtain rfl : k = 0 := by omega
  rw [at8_cons0]
  exact cell_one_new w (.int .u8 (d.toNat : Int)) t 0 _ rfl

/-- A literal slice of u8s is the call's own. -/
theorem owns_lit8 (w : World) (base : Nat) (e : TypeId) (xs : List UInt8) (hb : base ≤ w.heap.size) (hl : xs.length ≤ maxLen) :
    (w.alloc (.cells (u8s xs).toArray e)).ownsRow base e 1 (.slice (some ⟨w.heap.size, 0, none⟩) xs.length xs.length) xs.length (u8s xs) :=
  ⟨by simp [u8s_length], .inr ⟨w.heap.size, xs.length, (u8s xs).toArray, rfl, hb, heap_alloc_new w _, Nat.le_refl _, hl, by simp [u8s_length], by
    rw [List.take_of_length_le (by simp [u8s_length])]⟩⟩

section
variable {P : Program} (w : World)

/-- append onto a row of u8s of the call's own; what is appended may be nil, empty or not. -/
theorem run_append_u8s (base : Nat) (t ty e : TypeId) (ht : P.underlying t = some (.slice e)) (hinfo : (P.info? e).map (fun i => (i.zero, i.size, i.bytes)) = some (some (.int .u8 0), 1, 1))
    (v : Value) (xs : List UInt8) (hown : w.ownsRow base e 1 v xs.length (u8s xs)) (B : Nat) (A : Option Addr) (ys : List UInt8) (c : Nat) (hr : Rb w B A ys)
    (hb : xs.length + ys.length ≤ 10000000) (hbase : base ≤ w.heap.size) :
    ∃ v' w', (Builtin.append_ #[t, t] ty #[v, .slice A ys.length c]).run P w = .ok v' w' ∧ w'.ownsRow base e 1 v' (xs.length + ys.length) (u8s (xs ++ ys)) ∧ w.grownBy w' v.ownBlock ∧
      (v'.ownBlock = v.ownBlock ∨ v'.ownBlock = some w.heap.size) := by
  obtain ⟨i, hi, hz, hsz, hby⟩ := info_parts hinfo
  cases A with
  | none =>
    obtain rfl : ys = [] := by
      rcases ys with _ | ⟨y, r⟩
      · rfl
      · obtain ⟨_, _, h, _⟩ := hr (by simp)
        cases h
    refine ⟨v, w, ?_, by simpa using hown, World.grownBy.refl w _, .inl rfl⟩
    rcases hown.2 with ⟨rfl, _⟩ | ⟨g, cap, cur, rfl, _, _, hnc, _⟩
    · simp [Builtin.append_, run_underlying ht, sizeOf, typeInfo, hi, Builtin.lenOf, Builtin.firstCells]
    · simp [Builtin.append_, run_underlying ht, sizeOf, typeInfo, hi, Builtin.lenOf, Builtin.firstCells, hnc, storeCells]
  | some ad =>
    have hcells : ∀ j u, (u8s ys)[j]? = some u → w.cell? (ad.add j) = some u := by
      intro j u hu
      have hj : j < ys.length := by
        rcases Nat.lt_or_ge j ys.length with h | h
        · exact h
        · rw [List.getElem?_eq_none (by rw [u8s_length]; exact h)] at hu; cases hu
      rw [u8s_get hj] at hu
      injection hu with hu
      obtain ⟨b, o, h1, _, h2⟩ := hr.at_ hj
      injection h1 with h1
      subst h1
      rw [← hu, ← h2]
      unfold Addr.add
      split
      · next h0 => subst h0; rfl
      · rfl
    obtain ⟨v', w', hrun, h2, h3, _, h5⟩ := run_append_own_at (P := P) w base t ty e i (.int .u8 0) 1 1 ht hi hz hsz hby rfl (by decide) v xs.length (u8s xs) hown ad ys.length c (u8s ys)
      (by simp [u8s_length]) hcells (u8s_one ys) (by unfold maxLen; omega) (by omega) hbase
    exact ⟨v', w', hrun, by rw [u8s_append]; exact h2, h3, h5⟩

theorem wpList_append_u8s {ops : Array Oper} {rest : List Oper} {o : Oper} {a : Act} {Q : Exit → Act → World → Prop} (hgd : o.guard = none) (s x : Operand) (t : TypeId)
    (ho : o.op = .call { callee := .builtin .append, args := #[s, x], argTypes := #[t, t] })
    (base : Nat) (e : TypeId) (ht : P.underlying t = some (.slice e)) (hinfo : (P.info? e).map (fun i => (i.zero, i.size, i.bytes)) = some (some (.int .u8 0), 1, 1))
    (v : Value) (xs : List UInt8) (hs : a.eval s = v) (hown : w.ownsRow base e 1 v xs.length (u8s xs)) (B : Nat) (A : Option Addr) (m : Nat) (ys : List UInt8) (c : Nat) (hm : ys.length = m)
    (hx : a.eval x = .slice A m c) (hr : Rb w B A ys) (hb : xs.length + ys.length ≤ 10000000) (hbase : base ≤ w.heap.size)
    (h : ∀ A' n' c' w', Hid ((xs ++ ys).length = n') → n' ≤ c' → Hid (w'.ownsRow base e 1 (.slice A' n' c') n' (u8s (xs ++ ys))) → w.grownBy w' v.ownBlock → wpList P ops Q rest (a.put o.dst (.slice A' n' c')) w') :
    wpList P ops Q (o :: rest) a w := by
  subst hm
  refine wpList_plain hgd fun K hK => ?_
  obtain ⟨v', w', hrun, h2, h3, h4⟩ := run_append_u8s (P := P) w base t o.type e ht hinfo v xs hown B A ys c hr hb hbase
  unfold Oper.wp execOp
  simp only [ho, resolve, invoke, builtin, Sem.run_bind, Sem.run_pure, Result.andThen_ok, List.map_toArray, List.map_cons, List.map_nil, hs, hx, hrun]
  rw [← List.length_append] at h2
  obtain ⟨A', c', rfl, hc'⟩ := ownsRow_form w' h2
  exact hK _ _ (h A' _ c' w' rfl hc' h2 h3)
theorem wpList_append_u8h {ops : Array Oper} {rest : List Oper} {o : Oper} {a : Act} {Q : Exit → Act → World → Prop} (hgd : o.guard = none) (s x : Operand) (t : TypeId)
    (ho : o.op = .call { callee := .builtin .append, args := #[s, x], argTypes := #[t, t] })
    (base : Nat) (e : TypeId) (ht : P.underlying t = some (.slice e)) (hinfo : (P.info? e).map (fun i => (i.zero, i.size, i.bytes)) = some (some (.int .u8 0), 1, 1))
    (v : Value) (xs : List UInt8) (hs : a.eval s = v) (hown : w.ownsRow base e 1 v xs.length (u8s xs)) (B : Nat) (A : Option Addr) (m : Nat) (ys : List UInt8) (c : Nat) (hm : ys.length = m)
    (hx : a.eval x = .slice A m c) (hr : Rb w B A ys) (hb : xs.length + ys.length ≤ 10000000) (hbase : base ≤ w.heap.size)
    (h : ∀ A' n' c' w', Hid ((xs ++ ys).length = n') → n' ≤ c' → Hid (w'.ownsRow base e 1 (.slice A' n' c') n' (u8s (xs ++ ys))) → w.grownBy w' v.ownBlock → ((Value.slice A' n' c').ownBlock = v.ownBlock ∨ (Value.slice A' n' c').ownBlock = some w.heap.size) → wpList P ops Q rest (a.put o.dst (.slice A' n' c')) w') :
    wpList P ops Q (o :: rest) a w := by
  subst hm
  refine wpList_plain hgd fun K hK => ?_
  obtain ⟨v', w', hrun, h2, h3, h4⟩ := run_append_u8s (P := P) w base t o.type e ht hinfo v xs hown B A ys c hr hb hbase
  unfold Oper.wp execOp
  simp only [ho, resolve, invoke, builtin, Sem.run_bind, Sem.run_pure, Result.andThen_ok, List.map_toArray, List.map_cons, List.map_nil, hs, hx, hrun]
  rw [← List.length_append] at h2
  obtain ⟨A', c', rfl, hc'⟩ := ownsRow_form w' h2
  exact hK _ _ (h A' _ c' w' rfl hc' h2 h3 h4)
end

/-- append at a step of a region that draws. -/
theorem step_append_u8s {P : Program} (w : World) {ops : Array Oper} {o : Oper} {a : Act} {K : Act → World → Prop} {Q : Exit → Act → World → Prop} {E : Prop} (hgd : o.guard = none) (s x : Operand) (t : TypeId)
    (ho : o.op = .call { callee := .builtin .append, args := #[s, x], argTypes := #[t, t] })
    (base : Nat) (e : TypeId) (ht : P.underlying t = some (.slice e)) (hinfo : (P.info? e).map (fun i => (i.zero, i.size, i.bytes)) = some (some (.int .u8 0), 1, 1))
    (v : Value) (xs : List UInt8) (hs : a.eval s = v) (hown : w.ownsRow base e 1 v xs.length (u8s xs)) (B : Nat) (A : Option Addr) (m : Nat) (ys : List UInt8) (c : Nat) (hm : ys.length = m)
    (hx : a.eval x = .slice A m c) (hr : Rb w B A ys) (hb : xs.length + ys.length ≤ 10000000) (hbase : base ≤ w.heap.size)
    (h : ∀ A' n' c' w', Hid ((xs ++ ys).length = n') → n' ≤ c' → Hid (w'.ownsRow base e 1 (.slice A' n' c') n' (u8s (xs ++ ys))) → w.grownBy w' v.ownBlock → K (a.put o.dst (.slice A' n' c')) w') :
    if Region.wanted o (yielded ops a.tmps) = true then Oper.wp P o a w K Q else E := by
  subst hm
  have hw : Region.wanted o (yielded ops a.tmps) = true := by simp [Region.wanted, hgd]
  rw [if_pos hw]
  obtain ⟨v', w', hrun, h2, h3, h4⟩ := run_append_u8s (P := P) w base t o.type e ht hinfo v xs hown B A ys c hr hb hbase
  unfold Oper.wp execOp
  simp only [ho, resolve, invoke, builtin, Sem.run_bind, Sem.run_pure, Result.andThen_ok, List.map_toArray, List.map_cons, List.map_nil, hs, hx, hrun]
  rw [← List.length_append] at h2
  obtain ⟨A', c', rfl, hc'⟩ := ownsRow_form w' h2
  exact h A' _ c' w' rfl hc' h2 h3
theorem step_append_u8h {P : Program} (w : World) {ops : Array Oper} {o : Oper} {a : Act} {K : Act → World → Prop} {Q : Exit → Act → World → Prop} {E : Prop} (hw : Region.wanted o (yielded ops a.tmps) = true) (s x : Operand) (t : TypeId)
    (ho : o.op = .call { callee := .builtin .append, args := #[s, x], argTypes := #[t, t] })
    (base : Nat) (e : TypeId) (ht : P.underlying t = some (.slice e)) (hinfo : (P.info? e).map (fun i => (i.zero, i.size, i.bytes)) = some (some (.int .u8 0), 1, 1))
    (v : Value) (xs : List UInt8) (hs : a.eval s = v) (hown : w.ownsRow base e 1 v xs.length (u8s xs)) (B : Nat) (A : Option Addr) (m : Nat) (ys : List UInt8) (c : Nat) (hm : ys.length = m)
    (hx : a.eval x = .slice A m c) (hr : Rb w B A ys) (hb : xs.length + ys.length ≤ 10000000) (hbase : base ≤ w.heap.size)
    (h : ∀ A' n' c' w', Hid ((xs ++ ys).length = n') → n' ≤ c' → Hid (w'.ownsRow base e 1 (.slice A' n' c') n' (u8s (xs ++ ys))) → w.grownBy w' v.ownBlock → ((Value.slice A' n' c').ownBlock = v.ownBlock ∨ (Value.slice A' n' c').ownBlock = some w.heap.size) → K (a.put o.dst (.slice A' n' c')) w') :
    if Region.wanted o (yielded ops a.tmps) = true then Oper.wp P o a w K Q else E := by
  subst hm
  rw [if_pos hw]
  obtain ⟨v', w', hrun, h2, h3, h4⟩ := run_append_u8s (P := P) w base t o.type e ht hinfo v xs hown B A ys c hr hb hbase
  unfold Oper.wp execOp
  simp only [ho, resolve, invoke, builtin, Sem.run_bind, Sem.run_pure, Result.andThen_ok, List.map_toArray, List.map_cons, List.map_nil, hs, hx, hrun]
  rw [← List.length_append] at h2
  obtain ⟨A', c', rfl, hc'⟩ := ownsRow_form w' h2
  exact h A' _ c' w' rfl hc' h2 h3 h4



theorem info_b8 : (Try.prog.info? 5).map (fun i => (i.zero, i.size, i.bytes)) = some (some (.int .u8 0), 1, 1) := by kernel_rfl

section
variable {P : Program} (w : World)
/-- append of a string onto a row of bytes of the call's own. -/
theorem run_append_b8str (base : Nat) (t u ty e : TypeId) (ht : P.underlying t = some (.slice e)) (hu : P.underlying u = some .string) (hinfo : (P.info? e).map (fun i => (i.zero, i.size, i.bytes)) = some (some (.int .u8 0), 1, 1))
    (v : Value) (xs : List UInt8) (hown : w.ownsRow base e 1 v xs.length (u8s xs)) (s : ByteArray) (hb : xs.length + s.size ≤ 10000000) (hbase : base ≤ w.heap.size) :
    ∃ A' n' c' w', (Builtin.append_ #[t, u] ty #[v, .string s]).run P w = .ok (.slice A' n' c') w' ∧ (xs ++ s.data.toList).length = n' ∧ n' ≤ c' ∧ w'.ownsRow base e 1 (.slice A' n' c') n' (u8s (xs ++ s.data.toList)) ∧ w.grownBy w' v.ownBlock := by
  obtain ⟨i, hi, hz, hsz, hby⟩ := info_parts hinfo
  obtain ⟨v', w', hrun, h2, h3, _⟩ := Lib.run_append_own_string (P := P) w base t u ty e i ht hu hi hz hsz hby v xs.length (u8s xs) hown s (by unfold maxLen; omega) (by omega) hbase
  obtain ⟨A', c', rfl, hc'⟩ := ownsRow_form w' h2
  have hs : s.data.toList.length = s.size := by rw [Array.length_toList]; rfl
  refine ⟨A', _, c', w', hrun, by rw [List.length_append, hs], hc', ?_, h3⟩
  rw [u8s_append]
  exact h2

theorem wpList_append_b8str {ops : Array Oper} {rest : List Oper} {o : Oper} {a : Act} {Q : Exit → Act → World → Prop} (hgd : o.guard = none) (s x : Operand) (t u : TypeId)
    (ho : o.op = .call { callee := .builtin .append, args := #[s, x], argTypes := #[t, u] })
    (base : Nat) (e : TypeId) (ht : P.underlying t = some (.slice e)) (hu : P.underlying u = some .string) (hinfo : (P.info? e).map (fun i => (i.zero, i.size, i.bytes)) = some (some (.int .u8 0), 1, 1))
    (v : Value) (xs : List UInt8) (hs : a.eval s = v) (hown : w.ownsRow base e 1 v xs.length (u8s xs)) (str : ByteArray) (hx : a.eval x = .string str) (hb : xs.length + str.size ≤ 10000000) (hbase : base ≤ w.heap.size)
    (h : ∀ A' n' c' w', Hid ((xs ++ str.data.toList).length = n') → n' ≤ c' → Hid (w'.ownsRow base e 1 (.slice A' n' c') n' (u8s (xs ++ str.data.toList))) → w.grownBy w' v.ownBlock → wpList P ops Q rest (a.put o.dst (.slice A' n' c')) w') :
    wpList P ops Q (o :: rest) a w := by
  refine wpList_plain hgd fun K hK => ?_
  obtain ⟨A', n', c', w', hrun, h1, h2, h3, h4⟩ := run_append_b8str (P := P) w base t u o.type e ht hu hinfo v xs hown str hb hbase
  unfold Oper.wp execOp
  simp only [ho, resolve, invoke, builtin, Sem.run_bind, Sem.run_pure, Result.andThen_ok, List.map_toArray, List.map_cons, List.map_nil, hs, hx, hrun]
  exact hK _ _ (h A' n' c' w' h1 h2 h3 h4)
end
end Go.Proofs.Ytojdgcalpdbifaa
