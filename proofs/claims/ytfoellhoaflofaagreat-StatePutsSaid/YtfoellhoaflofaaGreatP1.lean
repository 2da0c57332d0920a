/-
  SaidStatePuts, part 1 of 26: what the theorem statePuts_holds reaches.
-/
import Derived.WalkKit
import Derived.Lib.Hide
import Derived.Deep.Draws
import Derived.Maps.AppendAt
import Derived.OwnWalk
import Derived.Deep.RegionHeld3
import Derived.Test.YtfoellhoaflofaaGreatProg
import Derived.BigQuiet
import Derived.Outline
import Derived.LoopTactic
import Derived.ProofKit
import Derived.Shelf.Spec.BitsCarry
import Derived.Laws.MakeOwn
import Derived.Laws.CopyRow
namespace Go.Proofs.YtfoellhoaflofaaGreat
open Go.RowKit
/-- The digit at place i; 0 behind them. (A plain definition: a walk leaves it as it stands.) -/
def nth (xs : List Nat) (i : Nat) : Nat := xs.getD i 0
theorem nth_in {xs : List Nat} {i : Nat} (h : i < xs.length) : nth xs i = xs[i] := by simp [nth, List.getElem?_eq_getElem h]
theorem nth_drop (xs : List Nat) (k j : Nat) : nth (xs.drop k) j = nth xs (k + j) := by simp [nth]
theorem nth_take {xs : List Nat} {k j : Nat} (h : j < k) : nth (xs.take k) j = nth xs j := by simp [nth, List.getElem?_take, h]
theorem nth_cons (d : Nat) (xs : List Nat) (j : Nat) : nth (d :: xs) (j + 1) = nth xs j := by simp [nth]
theorem nth_cons0 (d : Nat) (xs : List Nat) : nth (d :: xs) 0 = d := by simp [nth]
/-- The cells of a list of naturals, as ints. -/
def ints (xs : List Nat) : List Value := xs.map fun (d : Nat) => Value.int .i64 (d : Int)
theorem ints_length (xs : List Nat) : (ints xs).length = xs.length := by simp [ints]
theorem ints_get {xs : List Nat} {k : Nat} (h : k < xs.length) : (ints xs)[k]? = some (.int .i64 ((nth xs k : Nat) : Int)) := by
  simp [ints, nth_in h, List.getElem?_eq_getElem h]
theorem ints_one (xs : List Nat) : ∀ u ∈ ints xs, u.oneCell' = true := by
  intro u hu
  simp only [ints, List.mem_map] at hu
  obtain ⟨d, _, rfl⟩ := hu
  rfl
theorem ints_append (xs ys : List Nat) : ints (xs ++ ys) = ints xs ++ ints ys := by simp [ints]
/-- The slice at address A reads, in world w, as the list xs; every cell lies below block B. -/
def Rd (w : World) (B : Nat) (A : Option Addr) (xs : List Nat) : Prop :=
  xs ≠ [] → ∃ b o, A = some ⟨b, o, none⟩ ∧ b < B ∧ ∀ k, k < xs.length → w.cell? ⟨b, o + k, none⟩ = some (.int .i64 ((nth xs k : Nat) : Int))
theorem Rd.at_ {w : World} {B : Nat} {A : Option Addr} {xs : List Nat} {k : Nat} (h : Rd w B A xs) (hk : k < xs.length) :
    ∃ b o, A = some ⟨b, o, none⟩ ∧ b < B ∧ w.cell? ⟨b, o + k, none⟩ = some (.int .i64 ((nth xs k : Nat) : Int)) := by
  obtain ⟨b, o, h1, h2, h3⟩ := h (by rintro rfl; simp at hk)
  exact ⟨b, o, h1, h2, h3 k hk⟩
theorem Rd.keep {w w' : World} {B : Nat} {A : Option Addr} {xs : List Nat} (h : Rd w B A xs) (hk : ∀ p : Addr, p.block < B → w'.cell? p = w.cell? p) : Rd w' B A xs := by
  intro hx
  obtain ⟨b, o, h1, h2, h3⟩ := h hx
  exact ⟨b, o, h1, h2, fun k hkl => (hk _ h2).trans (h3 k hkl)⟩
theorem Rd.more {w : World} {B B' : Nat} {A : Option Addr} {xs : List Nat} (h : Rd w B A xs) (hB : B ≤ B') : Rd w B' A xs := by
  intro hx
  obtain ⟨b, o, h1, h2, h3⟩ := h hx
  exact ⟨b, o, h1, by omega, h3⟩
theorem Rd.below {w w' : World} {B C : Nat} {A : Option Addr} {xs : List Nat} (h : Rd w B A xs) (hb : Below C w w') (hB : B ≤ C) : Rd w' B A xs := h.keep fun _ hp => hb.cell (by omega)
theorem Rd.alloc {w : World} {B : Nat} {A : Option Addr} {xs : List Nat} (h : Rd w B A xs) (hB : B ≤ w.heap.size) (o : Obj) : Rd (w.alloc o) B A xs :=
  h.keep fun p hp => World.cell?_alloc_lt w o p (by omega)
theorem Rd.grown {w w' : World} {B : Nat} {A : Option Addr} {xs : List Nat} (h : Rd w B A xs) {row : Option Nat} (hg : w.grownBy w' row) (hB : B ≤ w.heap.size) (hr : ∀ g, row = some g → B ≤ g) : Rd w' B A xs :=
  h.keep fun p hp => World.cell?_of_block (hg.block p.block (by omega) (fun e => by have := hr _ e.symm; omega))
theorem Rd.drop {w : World} {B : Nat} {b o : Nat} {xs : List Nat} (h : Rd w B (some ⟨b, o, none⟩) xs) (k : Nat) : Rd w B (some ⟨b, o + k, none⟩) (xs.drop k) := by
  intro hx
  have hne : xs ≠ [] := by rintro rfl; simp at hx
  obtain ⟨b', o', h1, h2, h3⟩ := h hne
  injection h1 with h1
  injection h1 with h4 h5
  subst h4 h5
  refine ⟨b, o + k, rfl, h2, fun j hj => ?_⟩
  simp only [List.length_drop] at hj
  rw [Nat.add_assoc, h3 (k + j) (by omega), nth_drop]
theorem Rd.take {w : World} {B : Nat} {A : Option Addr} {xs : List Nat} (h : Rd w B A xs) (k : Nat) : Rd w B A (xs.take k) := by
  intro hx
  have hne : xs ≠ [] := by rintro rfl; simp at hx
  obtain ⟨b, o, h1, h2, h3⟩ := h hne
  refine ⟨b, o, h1, h2, fun j hj => ?_⟩
  simp only [List.length_take] at hj
  rw [h3 j (by omega), nth_take (by omega)]
theorem Rd.nil (w : World) (B : Nat) (A : Option Addr) : Rd w B A [] := fun h => absurd rfl h
/-- What the call owns reads. -/
theorem Rd.of_own {w : World} {base : Nat} {e : TypeId} {A : Option Addr} {c n : Nat} {xs : List Nat} (h : w.ownsRow base e 1 (.slice A n c) n (ints xs)) : Rd w w.heap.size A xs := by
  intro hx
  have hl := h.1
  rw [ints_length] at hl
  have hpos : 0 < xs.length := List.length_pos_iff.2 hx
  rcases h.2 with ⟨_, h0⟩ | ⟨g, cap, cur, hv, _, hh, _⟩
  · omega
  · have hA : A = some ⟨g, 0, none⟩ := by injection hv
    subst hA
    refine ⟨g, 0, rfl, ?_, fun k hk => ?_⟩
    · rcases Nat.lt_or_ge g w.heap.size with hlt | hge
      · exact hlt
      · rw [Array.getElem?_eq_none hge] at hh; cases hh
    · have hc := h.cells (g := g) rfl k _ (ints_get hk)
      rw [Nat.zero_add]
      unfold Addr.add at hc
      split at hc
      · next h0 => subst h0; exact hc
      · simpa using hc
/-- Block g is just the cells cs of type t, none frozen. -/
def Blk (w : World) (g : Nat) (t : TypeId) (cs : Array Value) : Prop := w.heap[g]? = some (.cells cs t (0, 0))
theorem Blk.lt {w : World} {g : Nat} {t : TypeId} {cs : Array Value} (h : Blk w g t cs) : g < w.heap.size := by
  rcases Nat.lt_or_ge g w.heap.size with hlt | hge
  · exact hlt
  · unfold Blk at h; rw [Array.getElem?_eq_none hge] at h; cases h
theorem Blk.cell {w : World} {g : Nat} {t : TypeId} {cs : Array Value} (h : Blk w g t cs) (i : Nat) : w.cell? ⟨g, i, none⟩ = cs[i]? := cell_of_row w g i cs t (0, 0) h
theorem Blk.frozen {w : World} {g : Nat} {t : TypeId} {cs : Array Value} (h : Blk w g t cs) (i : Nat) : w.frozen? ⟨g, i, none⟩ = false := by
  unfold Blk at h
  simp [World.frozen?, h]
theorem Blk.new (w : World) (t : TypeId) (cs : Array Value) : Blk (w.alloc (.cells cs t)) w.heap.size t cs := heap_alloc_new w _
theorem Blk.alloc {w : World} {g : Nat} {t : TypeId} {cs : Array Value} (h : Blk w g t cs) (o : Obj) : Blk (w.alloc o) g t cs := (Below.heap_alloc w o g h.lt).trans h
theorem Blk.set_ {w : World} {g : Nat} {t : TypeId} {cs : Array Value} (h : Blk w g t cs) (i : Nat) (u : Value) : Blk (w.setCell ⟨g, i, none⟩ u) g t (cs.setIfInBounds i u) := by
  unfold Blk at h ⊢
  simp [World.setCell, Array.getElem?_modify, h]
theorem Blk.far {w : World} {g : Nat} {t : TypeId} {cs : Array Value} (h : Blk w g t cs) {p : Addr} (hp : g ≠ p.block) (u : Value) : Blk (w.setCell p u) g t cs := (Below.heap_setCell w p u g hp).trans h
theorem Blk.below {w w' : World} {g : Nat} {t : TypeId} {cs : Array Value} {B : Nat} (h : Blk w g t cs) (hb : Below B w w') (hg : g < B) : Blk w' g t cs := (hb.block g hg).trans h
theorem Blk.grown {w w' : World} {g : Nat} {t : TypeId} {cs : Array Value} {row : Option Nat} (h : Blk w g t cs) (hb : w.grownBy w' row) (hg : some g ≠ row) : Blk w' g t cs := (hb.block g h.lt hg).trans h
theorem Rd.setCell {w : World} {B : Nat} {A : Option Addr} {xs : List Nat} (h : Rd w B A xs) {p : Addr} (hp : B ≤ p.block) (u : Value) : Rd (w.setCell p u) B A xs :=
  h.keep fun q hq => World.cell?_setCell_other w p q u (fun e => by subst e; omega)
/-- If the slice has elements, it lies in a block from L on. -/
def Fr (L : Nat) (A : Option Addr) (xs : List Nat) : Prop := xs ≠ [] → ∃ b o, A = some ⟨b, o, none⟩ ∧ L ≤ b
theorem Fr.of_own {w : World} {base : Nat} {e : TypeId} {A : Option Addr} {c n : Nat} {xs : List Nat} (h : w.ownsRow base e 1 (.slice A n c) n (ints xs)) : Fr base A xs := by
  intro hx
  have hl := h.1
  rw [ints_length] at hl
  have hpos : 0 < xs.length := List.length_pos_iff.2 hx
  rcases h.2 with ⟨_, h0⟩ | ⟨g, cap, cur, hv, hg, _, _⟩
  · omega
  · injection hv with hA
    exact ⟨g, 0, hA, hg⟩
theorem Fr.more {L L' : Nat} {A : Option Addr} {xs : List Nat} (h : Fr L A xs) (hl : L' ≤ L) : Fr L' A xs := fun hx => by
  obtain ⟨b, o, h1, h2⟩ := h hx
  exact ⟨b, o, h1, by omega⟩
/-- A store into an older block leaves it. -/
theorem Rd.old {w : World} {B L : Nat} {A : Option Addr} {xs : List Nat} (h : Rd w B A xs) (hf : Fr L A xs) {p : Addr} (hp : p.block < L) (u : Value) : Rd (w.setCell p u) B A xs := by
  intro hx
  obtain ⟨b, o, h1, h2, h3⟩ := h hx
  obtain ⟨b', o', h4, h5⟩ := hf hx
  rw [h1] at h4
  injection h4 with h4
  injection h4 with h4
  subst h4
  refine ⟨b, o, h1, h2, fun k hk => ?_⟩
  rw [World.cell?_setCell_other w p _ u (fun e => by rw [e] at hp; simp at hp; omega)]
  exact h3 k hk
/-- One element in a block of its own: what 'append(s, x)' hands on. -/
theorem Rd.one (w : World) (d : Nat) (t : TypeId) : Rd (w.alloc (.cells #[.int .i64 (d : Int)] t)) (w.heap.size + 1) (some ⟨w.heap.size, 0, none⟩) [d] := by
  intro _
  refine ⟨w.heap.size, 0, rfl, by omega, fun k hk => ?_⟩
  simp only [List.length_singleton] at hk
  obtain rfl : k = 0 := by omega
  rw [nth_cons0]
  exact cell_one_new w (.int .i64 (d : Int)) t 0 _ rfl
section
variable {P : Program} (w : World)
theorem ownsRow_form {base : Nat} {e : TypeId} {v : Value} {n : Nat} {xs : List Value} (h : w.ownsRow base e 1 v n xs) : ∃ A c, v = .slice A n c ∧ n ≤ c := by
  rcases h.2 with ⟨rfl, rfl⟩ | ⟨g, cap, cur, rfl, _, _, h1, _⟩
  · exact ⟨none, 0, rfl, Nat.le_refl _⟩
  · exact ⟨_, cap, rfl, h1⟩
end
end Go.Proofs.YtfoellhoaflofaaGreat
namespace Go.Proofs.YtfoellhoaflofaaGreat
end Go.Proofs.YtfoellhoaflofaaGreat
namespace Go.Proofs.YtfoellhoaflofaaGreat
open Go.RowKit
section
variable {P : Program} (w : World)
end
end Go.Proofs.YtfoellhoaflofaaGreat
namespace Go.Proofs.YtfoellhoaflofaaGreat
end Go.Proofs.YtfoellhoaflofaaGreat
namespace Go.Proofs.YtfoellhoaflofaaGreat
/-- The sum of f over the places below n. -/
def sm (f : Nat → Nat) : Nat → Nat
  | 0 => 0
  | k + 1 => sm f k + f k
/-- A function, but for one place. -/
def upd {α : Type} (f : Nat → α) (i : Nat) (x : α) : Nat → α := fun k => if k = i then x else f k
theorem upd_at {α : Type} (f : Nat → α) (i : Nat) (x : α) : upd f i x i = x := if_pos rfl
theorem upd_far {α : Type} (f : Nat → α) {i k : Nat} (x : α) (h : k ≠ i) : upd f i x k = f k := if_neg h
/-- How many numbers of the first k columns pick i: cuts c, others o. -/
def pt (t : Nat) (c : Nat → Nat) (o : Nat → Int) (i : Int) (k : Nat) : Nat := (if (k : Int) = i then c k else 0) + (if o k = i then t - c k else 0)
def cu (t : Nat) (c : Nat → Nat) (o : Nat → Int) (i : Int) (k : Nat) : Nat := sm (pt t c o i) k
end Go.Proofs.YtfoellhoaflofaaGreat
namespace Go.Proofs.YtfoellhoaflofaaGreat
open Go.RowKit
theorem b1' (w : World) (o : Obj) : Below w.heap.size w (w.alloc o) := (Below.refl _ _).alloc (Nat.le_refl _) _
/-- The slice at address A reads, in world w, as the list vs; every cell lies below block B. -/
def Rv (w : World) (B : Nat) (A : Option Addr) (vs : List Value) : Prop :=
  vs ≠ [] → ∃ b o, A = some ⟨b, o, none⟩ ∧ b < B ∧ ∀ k v, vs[k]? = some v → w.cell? ⟨b, o + k, none⟩ = some v
theorem Rv.at_ {w : World} {B : Nat} {A : Option Addr} {vs : List Value} {k : Nat} {v : Value} (h : Rv w B A vs) (hk : vs[k]? = some v) :
    ∃ b o, A = some ⟨b, o, none⟩ ∧ b < B ∧ w.cell? ⟨b, o + k, none⟩ = some v := by
  obtain ⟨b, o, h1, h2, h3⟩ := h (by rintro rfl; simp at hk)
  exact ⟨b, o, h1, h2, h3 k v hk⟩
theorem Rv.keep {w w' : World} {B : Nat} {A : Option Addr} {vs : List Value} (h : Rv w B A vs) (hk : ∀ p : Addr, p.block < B → w'.cell? p = w.cell? p) : Rv w' B A vs := by
  intro hx
  obtain ⟨b, o, h1, h2, h3⟩ := h hx
  exact ⟨b, o, h1, h2, fun k v hkl => (hk _ h2).trans (h3 k v hkl)⟩
theorem Rv.more {w : World} {B B' : Nat} {A : Option Addr} {vs : List Value} (h : Rv w B A vs) (hB : B ≤ B') : Rv w B' A vs := by
  intro hx
  obtain ⟨b, o, h1, h2, h3⟩ := h hx
  exact ⟨b, o, h1, by omega, h3⟩
theorem Rv.below {w w' : World} {B C : Nat} {A : Option Addr} {vs : List Value} (h : Rv w B A vs) (hb : Below C w w') (hB : B ≤ C) : Rv w' B A vs := h.keep fun _ hp => hb.cell (by omega)
theorem Rv.step {w w' : World} {A : Option Addr} {vs : List Value} (h : Rv w w.heap.size A vs) (hb : Below w.heap.size w w') : Rv w' w'.heap.size A vs := (h.below hb (Nat.le_refl _)).more hb.size
theorem Rv.alloc {w : World} {B : Nat} {A : Option Addr} {vs : List Value} (h : Rv w B A vs) (hB : B ≤ w.heap.size) (o : Obj) : Rv (w.alloc o) B A vs :=
  h.keep fun p hp => World.cell?_alloc_lt w o p (by omega)
theorem Rv.grown {w w' : World} {B : Nat} {A : Option Addr} {vs : List Value} (h : Rv w B A vs) {row : Option Nat} (hg : w.grownBy w' row) (hB : B ≤ w.heap.size) (hr : ∀ g, row = some g → B ≤ g) : Rv w' B A vs :=
  h.keep fun p hp => World.cell?_of_block (hg.block p.block (by omega) (fun e => by have := hr _ e.symm; omega))
theorem Rv.nil (w : World) (B : Nat) (A : Option Addr) : Rv w B A [] := fun h => absurd rfl h
theorem Rv.of_own {w : World} {base : Nat} {e : TypeId} {A : Option Addr} {c n : Nat} {vs : List Value} (h : w.ownsRow base e 1 (.slice A n c) n vs) : Rv w w.heap.size A vs := by
  intro hx
  have hl := h.1
  have hpos : 0 < vs.length := List.length_pos_iff.2 hx
  rcases h.2 with ⟨_, h0⟩ | ⟨g, cap, cur, hv, _, hh, _⟩
  · omega
  · have hA : A = some ⟨g, 0, none⟩ := by injection hv
    subst hA
    refine ⟨g, 0, rfl, ?_, fun k v hk => ?_⟩
    · rcases Nat.lt_or_ge g w.heap.size with hlt | hge
      · exact hlt
      · rw [Array.getElem?_eq_none hge] at hh; cases hh
    · have hc := h.cells (g := g) rfl k _ hk
      rw [Nat.zero_add]
      unfold Addr.add at hc
      split at hc
      · next h0 => subst h0; exact hc
      · simpa using hc
theorem Rv.setCell {w : World} {B : Nat} {A : Option Addr} {vs : List Value} (h : Rv w B A vs) {p : Addr} (hp : B ≤ p.block) (u : Value) : Rv (w.setCell p u) B A vs :=
  h.keep fun q hq => World.cell?_setCell_other w p q u (fun e => by subst e; omega)
/-- If the slice has elements, it lies in a block from L on. -/
def Fv (L : Nat) (A : Option Addr) (vs : List Value) : Prop := vs ≠ [] → ∃ b o, A = some ⟨b, o, none⟩ ∧ L ≤ b
theorem Fv.of_own {w : World} {base : Nat} {e : TypeId} {A : Option Addr} {c n : Nat} {vs : List Value} (h : w.ownsRow base e 1 (.slice A n c) n vs) : Fv base A vs := by
  intro hx
  have hl := h.1
  have hpos : 0 < vs.length := List.length_pos_iff.2 hx
  rcases h.2 with ⟨_, h0⟩ | ⟨g, cap, cur, hv, hg, _, _⟩
  · omega
  · injection hv with hA
    exact ⟨g, 0, hA, hg⟩
theorem Rv.old {w : World} {B L : Nat} {A : Option Addr} {vs : List Value} (h : Rv w B A vs) (hf : Fv L A vs) {p : Addr} (hp : p.block < L) (u : Value) : Rv (w.setCell p u) B A vs := by
  intro hx
  obtain ⟨b, o, h1, h2, h3⟩ := h hx
  obtain ⟨b', o', h4, h5⟩ := hf hx
  rw [h1] at h4
  injection h4 with h4
  injection h4 with h4
  subst h4
  refine ⟨b, o, h1, h2, fun k v hk => ?_⟩
  rw [World.cell?_setCell_other w p _ u (fun e => by rw [e] at hp; simp at hp; omega)]
  exact h3 k v hk
end Go.Proofs.YtfoellhoaflofaaGreat
namespace Go.Proofs.YtfoellhoaflofaaGreat
open Go.RowKit
set_option maxRecDepth 100000
/-- A literal row is the call's own. -/
theorem owns_litv (w : World) (base : Nat) (e : TypeId) (vs : List Value) (hb : base ≤ w.heap.size) (hl : vs.length ≤ maxLen) :
    (w.alloc (.cells vs.toArray e)).ownsRow base e 1 (.slice (some ⟨w.heap.size, 0, none⟩) vs.length vs.length) vs.length vs :=
  ⟨by simp, .inr ⟨w.heap.size, vs.length, vs.toArray, rfl, hb, heap_alloc_new w _, Nat.le_refl _, hl, by simp, by simp⟩⟩
theorem made7 (w : World) (base : Nat) (hb : base ≤ w.heap.size) (e : TypeId) : (w.alloc (.cells #[] e)).ownsRow base e 1 (.slice (some ⟨w.heap.size, 0, none⟩) 0 0) 0 [] := owns_litv w base e [] hb (by simp)
theorem own7_keep {w w' : World} {base : Nat} {e : TypeId} {v : Value} {n : Nat} {xs : List Value} (h : w.ownsRow base e 1 v n xs) (hb : Below w.heap.size w w') : w'.ownsRow base e 1 v n xs := by
  have hlt := h.lt
  obtain ⟨h1, h2⟩ := h
  refine ⟨h1, ?_⟩
  rcases h2 with h2 | ⟨g, cap, cur, rfl, hg, hh, r⟩
  · exact .inl h2
  · exact .inr ⟨g, cap, cur, rfl, hg, by rw [hb.block g (hlt g rfl).2]; exact hh, r⟩
theorem own7_ne {w : World} {base : Nat} {e t : TypeId} {v : Value} {n g : Nat} {xs : List Value} {cs : Array Value} (h : w.ownsRow base e 1 v n xs) (hb : Blk w g t cs) (hne : t ≠ e) : v.ownBlock ≠ some g := by
  intro e'
  rcases h.2 with ⟨rfl, _⟩ | ⟨g', cap, cur, rfl, _, hh, _⟩
  · cases e'
  · injection e' with e'
    subst e'
    rw [show w.heap[g']? = _ from hb] at hh
    cases hh
    exact hne rfl
theorem own7_far {w w' : World} {base : Nat} {e : TypeId} {v : Value} {n : Nat} {xs : List Value} {row : Option Nat} (h : w.ownsRow base e 1 v n xs) (hg : w.grownBy w' row) (hne : v.ownBlock ≠ row) : w'.ownsRow base e 1 v n xs := h.kept hg (.inr hne)
theorem own7_none {w w' : World} {base : Nat} {e : TypeId} {v : Value} {n : Nat} {xs : List Value} (h : w.ownsRow base e 1 v n xs) (hg : w.grownBy w' none) : w'.ownsRow base e 1 v n xs := h.kept hg (by cases v.ownBlock <;> simp)
theorem own7_base {w : World} {base base' : Nat} {e : TypeId} {v : Value} {n : Nat} {xs : List Value} (h : w.ownsRow base e 1 v n xs) (hb : base' ≤ base) : w.ownsRow base' e 1 v n xs :=
  ⟨h.1, h.2.imp id (fun ⟨g, cap, cur, h1, h2, r⟩ => ⟨g, cap, cur, h1, Nat.le_trans hb h2, r⟩)⟩
section
variable {P : Program} (w : World)
/-- append onto a row of the call's own; what is appended may be nil, empty or not. -/
theorem run_append_rv (base : Nat) (t ty e : TypeId) (z : Value) (bt : Nat) (ht : P.underlying t = some (.slice e)) (hinfo : (P.info? e).map (fun i => (i.zero, i.size, i.bytes)) = some (some z, 1, bt)) (hz1 : z.cells.size = 1) (hbt : bt ≤ 1000)
    (v : Value) (n : Nat) (vs : List Value) (hown : w.ownsRow base e 1 v n vs) (B : Nat) (A : Option Addr) (ys : List Value) (c : Nat) (hr : Rv w B A ys) (h1 : ∀ u ∈ ys, u.oneCell' = true)
    (hb : n + ys.length ≤ 100000000) (hbase : base ≤ w.heap.size) :
    ∃ v' w', (Builtin.append_ #[t, t] ty #[v, .slice A ys.length c]).run P w = .ok v' w' ∧ w'.ownsRow base e 1 v' (n + ys.length) (vs ++ ys) ∧ w.grownBy w' v.ownBlock ∧
      (v'.ownBlock = v.ownBlock ∨ v'.ownBlock = some w.heap.size) := by
  obtain ⟨i, hi, hz, hsz, hby⟩ := info_parts hinfo
  cases A with
  | none =>
    obtain rfl : ys = [] := by
      rcases ys with _ | ⟨y, r⟩
      · rfl
      · obtain ⟨_, _, h, _⟩ := hr (by simp)
        cases h
    refine ⟨v, w, ?_, by simpa using hown, World.grownBy.refl w _, .inl rfl⟩
    rcases hown.2 with ⟨rfl, rfl⟩ | ⟨g, cap, cur, rfl, _, _, hnc, _⟩
    · simp [Builtin.append_, run_underlying ht, sizeOf, typeInfo, hi, Builtin.lenOf, Builtin.firstCells]
    · simp [Builtin.append_, run_underlying ht, sizeOf, typeInfo, hi, Builtin.lenOf, Builtin.firstCells, hnc, storeCells]
  | some ad =>
    have hcells : ∀ j u, ys[j]? = some u → w.cell? (ad.add j) = some u := by
      intro j u hu
      obtain ⟨b, o, h1, _, h2⟩ := hr.at_ hu
      injection h1 with h1
      subst h1
      rw [← h2]
      unfold Addr.add
      split
      · next h0 => subst h0; rfl
      · rfl
    have hmul : (n + ys.length) * bt ≤ 100000000 * 1000 := Nat.mul_le_mul hb hbt
    obtain ⟨v', w', hrun, h2, h3, _, h5⟩ := run_append_own_at (P := P) w base t ty e i z 1 bt ht hi hz hsz hby hz1 (by decide) v n vs hown ad ys.length c ys
      (by simp) hcells h1 (by unfold maxLen; omega) (by omega) hbase
    exact ⟨v', w', hrun, h2, h3, h5⟩
theorem wpList_append_rv {ops : Array Oper} {rest : List Oper} {o : Oper} {a : Act} {Q : Exit → Act → World → Prop} (hgd : o.guard = none) (s x : Operand) (t : TypeId)
    (ho : o.op = .call { callee := .builtin .append, args := #[s, x], argTypes := #[t, t] })
    (base : Nat) (e : TypeId) (z : Value) (bt : Nat) (ht : P.underlying t = some (.slice e)) (hinfo : (P.info? e).map (fun i => (i.zero, i.size, i.bytes)) = some (some z, 1, bt)) (hz1 : z.cells.size = 1) (hbt : bt ≤ 1000)
    (v : Value) (n : Nat) (vs : List Value) (hs : a.eval s = v) (hown : w.ownsRow base e 1 v n vs) (B : Nat) (A : Option Addr) (m : Nat) (ys : List Value) (c : Nat) (hm : ys.length = m)
    (hx : a.eval x = .slice A m c) (hr : Rv w B A ys) (h1 : ∀ u ∈ ys, u.oneCell' = true) (hb : n + m ≤ 100000000) (hbase : base ≤ w.heap.size)
    (h : ∀ A' c' w', n + m ≤ c' → Hid (w'.ownsRow base e 1 (.slice A' (n + m) c') (n + m) (vs ++ ys)) → w.grownBy w' v.ownBlock → ((Value.slice A' (n + m) c').ownBlock = v.ownBlock ∨ (Value.slice A' (n + m) c').ownBlock = some w.heap.size) → wpList P ops Q rest (a.put o.dst (.slice A' (n + m) c')) w') :
    wpList P ops Q (o :: rest) a w := by
  subst hm
  refine wpList_plain hgd fun K hK => ?_
  obtain ⟨v', w', hrun, h2, h3, h4⟩ := run_append_rv (P := P) w base t o.type e z bt ht hinfo hz1 hbt v n vs hown B A ys c hr h1 hb hbase
  unfold Oper.wp execOp
  simp only [ho, resolve, invoke, builtin, Sem.run_bind, Sem.run_pure, Result.andThen_ok, List.map_toArray, List.map_cons, List.map_nil, hs, hx, hrun]
  obtain ⟨A', c', rfl, hc'⟩ := ownsRow_form w' h2
  exact hK _ _ (h A' c' w' hc' h2 h3 h4)
end
end Go.Proofs.YtfoellhoaflofaaGreat
namespace Go.Proofs.YtfoellhoaflofaaGreat
open Go.RowKit
/-- The operation at a place, written out: 'rfl' for 'ops[i]? = some _' leaves '#[..][i]', and the state then grows twofold at each step. -/
theorem op_of {ops : Array Oper} {i : Nat} {oi : Oper} (h : ops.toList[i]? = some oi) : ops[i]? = some oi := by rw [← Array.getElem?_toList]; exact h
/-- An operation that its guard passes over leaves nothing in its temporary. -/
theorem take_skip {P : Program} {md : Region.Mode} {ops : Array Oper} {Q : Exit → Act → World → Prop} {S : World → Prop} {i : Nat} {oi : Oper} {fuel : Nat} {listed : Array Bool} {a : Act} {w : World} (hi : ops[i]? = some oi)
    (hs : Region.noSelect ops = true) (hf : Region.free md ops listed i = true) (hr : (Region.ready md ops listed).contains i = true)
    (hQ : ∀ c a w, Q (.panic c) (a.put oi.dst undef) w → Q (.panic c) a w) (hw : Region.wanted oi (yielded ops a.tmps) = false) (hS : S w)
    (h : wpAnyH P md ops Q S fuel (listed.setIfInBounds i true) (a.put oi.dst undef) w) : wpAnyH P md ops Q S (fuel + 1) listed a w :=
  wpAnyH_take hi hs hf hr hQ (Or.inr ⟨hw, rfl⟩) hS h
end Go.Proofs.YtfoellhoaflofaaGreat
namespace Go.Proofs.YtfoellhoaflofaaGreat
open Go.RowKit
set_option maxRecDepth 100000
theorem own12_keep2 {w w' : World} {base : Nat} {e : TypeId} {s : Nat} {v : Value} {n : Nat} {xs : List Value} (h : w.ownsRow base e s v n xs) (hb : Below w.heap.size w w') : w'.ownsRow base e s v n xs := by
  have hlt := h.lt
  obtain ⟨h1, h2⟩ := h
  refine ⟨h1, ?_⟩
  rcases h2 with h2 | ⟨g, cap, cur, rfl, hg, hh, r⟩
  · exact .inl h2
  · exact .inr ⟨g, cap, cur, rfl, hg, by rw [hb.block g (hlt g rfl).2]; exact hh, r⟩
end Go.Proofs.YtfoellhoaflofaaGreat
namespace Go.Proofs.YtfoellhoaflofaaGreat
open Go.RowKit
set_option maxRecDepth 100000
/-- A ticket. -/
structure Tk14 where
  u : Bool
  c : Int
  a : Int
  k : Int
  t : Int
  o : Bool
/-- A thread. -/
structure Th14 where
  s : Int
  f : Int
  c : Int
  q : Int
  u : Int
/-- A lock. -/
structure Lk14 where
  u : Bool
  h : Int
instance : DecidableEq Tk14 := fun x y => decidable_of_iff (x.u = y.u ∧ x.c = y.c ∧ x.a = y.a ∧ x.k = y.k ∧ x.t = y.t ∧ x.o = y.o) (by cases x; cases y; simp)
instance : DecidableEq Th14 := fun x y => decidable_of_iff (x.s = y.s ∧ x.f = y.f ∧ x.c = y.c ∧ x.q = y.q ∧ x.u = y.u) (by cases x; cases y; simp)
instance : DecidableEq Lk14 := fun x y => decidable_of_iff (x.u = y.u ∧ x.h = y.h) (by cases x; cases y; simp)
instance : Inhabited Tk14 := ⟨⟨false, 0, 0, 0, 0, false⟩⟩
instance : Inhabited Th14 := ⟨⟨0, 0, 0, 0, 0⟩⟩
instance : Inhabited Lk14 := ⟨⟨false, 0⟩⟩
/-- The cells of each. -/
def clC (b : Bool) : List Value := [.bool b]
def clT (x : Tk14) : List Value := [.bool x.u, .int .i64 x.c, .int .i64 x.a, .int .i64 x.k, .int .i64 x.t, .bool x.o]
def clH (x : Th14) : List Value := [.int .i64 x.s, .int .i64 x.f, .int .i64 x.c, .int .i64 x.q, .int .i64 x.u]
def clL (x : Lk14) : List Value := [.bool x.u, .int .i64 x.h]
def clI (x : Int) : List Value := [.int .i64 x]
/-- Which are used. -/
def usC (b : Bool) : Bool := b
def usT (x : Tk14) : Bool := x.u
def usH (x : Th14) : Bool := !decide (x.s = 0)
def usL (x : Lk14) : Bool := x.u
theorem clC_one (x : Bool) : ∀ v ∈ clC x, v.oneCell' = true := by simp [clC, Value.oneCell']
theorem clT_one (x : Tk14) : ∀ v ∈ clT x, v.oneCell' = true := by simp [clT, Value.oneCell']
theorem clH_one (x : Th14) : ∀ v ∈ clH x, v.oneCell' = true := by simp [clH, Value.oneCell']
theorem clL_one (x : Lk14) : ∀ v ∈ clL x, v.oneCell' = true := by simp [clL, Value.oneCell']
theorem clI_one (x : Int) : ∀ v ∈ clI x, v.oneCell' = true := by simp [clI, Value.oneCell']
section
variable {α : Type}
/-- The cells of a list. -/
def fl14 (cl : α → List Value) (xs : List α) : List Value := xs.flatMap cl
theorem fl14_append (cl : α → List Value) (xs ys : List α) : fl14 cl (xs ++ ys) = fl14 cl xs ++ fl14 cl ys := by simp [fl14]
theorem fl14_len {cl : α → List Value} {k : Nat} (hk : ∀ x, (cl x).length = k) (xs : List α) : (fl14 cl xs).length = xs.length * k := by
  induction xs with
  | nil => simp [fl14]
  | cons x r ih =>
    have : fl14 cl (x :: r) = cl x ++ fl14 cl r := by simp [fl14]
    rw [this, List.length_append, hk, ih, List.length_cons, Nat.succ_mul]
    omega
theorem fl14_one {cl : α → List Value} (h1 : ∀ x, ∀ v ∈ cl x, v.oneCell' = true) (xs : List α) : ∀ v ∈ fl14 cl xs, v.oneCell' = true := by
  intro v hv
  obtain ⟨x, _, hx⟩ := List.mem_flatMap.1 hv
  exact h1 x v hx
theorem fl14_take {cl : α → List Value} {k : Nat} (hk : ∀ x, (cl x).length = k) (xs : List α) (m : Nat) : (fl14 cl xs).take (m * k) = fl14 cl (xs.take m) := by
  induction xs generalizing m with
  | nil => simp [fl14]
  | cons x r ih =>
    have e : fl14 cl (x :: r) = cl x ++ fl14 cl r := by simp [fl14]
    cases m with
    | zero => simp [fl14]
    | succ m =>
      have e2 : fl14 cl ((x :: r).take (m + 1)) = cl x ++ fl14 cl (r.take m) := by simp [fl14]
      rw [e, e2, List.take_append, hk, show (m + 1) * k - k = m * k by rw [Nat.succ_mul]; omega, ih, List.take_of_length_le (by rw [hk, Nat.succ_mul]; omega)]
/-- The slice at A reads as those elements; every cell lies below block B. -/
def Lq (cl : α → List Value) (w : World) (B : Nat) (A : Option Addr) (xs : List α) : Prop := Rv w B A (fl14 cl xs)
theorem Lq.step {cl : α → List Value} {w w' : World} {A : Option Addr} {xs : List α} (h : Lq cl w w.heap.size A xs) (hb : Below w.heap.size w w') : Lq cl w' w'.heap.size A xs := Rv.step h hb
theorem Lq.below {cl : α → List Value} {w w' : World} {B C : Nat} {A : Option Addr} {xs : List α} (h : Lq cl w B A xs) (hb : Below C w w') (hB : B ≤ C) : Lq cl w' B A xs := Rv.below h hb hB
theorem Lq.more {cl : α → List Value} {w : World} {B B' : Nat} {A : Option Addr} {xs : List α} (h : Lq cl w B A xs) (hB : B ≤ B') : Lq cl w B' A xs := Rv.more h hB
theorem Lq.nil (cl : α → List Value) (w : World) (B : Nat) (A : Option Addr) : Lq cl w B A [] := Rv.nil w B A
theorem Lq.take {cl : α → List Value} {k : Nat} (hk : ∀ x, (cl x).length = k) {w : World} {B : Nat} {A : Option Addr} {xs : List α} (h : Lq cl w B A xs) (m : Nat) : Lq cl w B A (xs.take m) := by
  intro hx
  obtain ⟨b, o, h1, h2, h3⟩ := h (by rintro e; rw [← fl14_take hk, e] at hx; simp at hx)
  refine ⟨b, o, h1, h2, fun i v hv => h3 i v ?_⟩
  rw [← fl14_take hk] at hv
  obtain ⟨hi, hv2⟩ := List.getElem?_eq_some_iff.1 hv
  rw [List.length_take] at hi
  rw [← hv, List.getElem?_take_of_lt (by omega)]
/-- What the call owns reads. -/
theorem Lq.of_own {cl : α → List Value} {k : Nat} {w : World} {base : Nat} {e : TypeId} {A : Option Addr} {c n : Nat} {xs : List α} (h0 : 0 < k) (h : w.ownsRow base e k (.slice A n c) n (fl14 cl xs)) : Lq cl w w.heap.size A xs := by
  intro hx
  have hl := h.1
  have hpos : 0 < (fl14 cl xs).length := List.length_pos_iff.2 hx
  rcases h.2 with ⟨_, h1⟩ | ⟨g, cap, cur, hv, _, hh, _⟩
  · subst h1
    rw [hl, Nat.zero_mul] at hpos
    omega
  · have hA : A = some ⟨g, 0, none⟩ := by injection hv
    subst hA
    refine ⟨g, 0, rfl, (h.lt g rfl).2, fun i v hk => ?_⟩
    have hc := h.cells (g := g) rfl i _ hk
    rw [Go.WideShapes.add_plain] at hc
    exact hc
end
section
variable {α : Type} [Inhabited α]
/-- The element at a place: the zero one behind the end. -/
def gt14 (xs : List α) (j : Nat) : α := xs.getD j default
theorem gt14_in {xs : List α} {j : Nat} (h : j < xs.length) : gt14 xs j = xs[j] := by simp [gt14, List.getElem?_eq_getElem h]
theorem gt14_out {xs : List α} {j : Nat} (h : xs.length ≤ j) : gt14 xs j = default := by simp [gt14, List.getElem?_eq_none h]
theorem ext14 {xs ys : List α} (hl : xs.length = ys.length) (h : ∀ j, j < xs.length → gt14 xs j = gt14 ys j) : xs = ys :=
  List.ext_getElem hl fun j h1 h2 => by rw [← gt14_in h1, ← gt14_in h2, h j h1]
theorem take_gt14 {xs : List α} {k : Nat} (h : k < xs.length) : xs.take (k + 1) = xs.take k ++ [gt14 xs k] := by
  rw [List.take_add_one, List.getElem?_eq_getElem h, gt14_in h]
  rfl
/-- Where a list of n ends, without those at its end that are not used. -/
def en14 (us : α → Bool) (xs : List α) : Nat → Nat
  | 0 => 0
  | n + 1 => if us (gt14 xs n) = true then n + 1 else en14 us xs n
theorem en14_le (us : α → Bool) (xs : List α) (n : Nat) : en14 us xs n ≤ n := by
  induction n with
  | zero => exact Nat.le_refl _
  | succ n ih => rw [en14]; split <;> omega
theorem en14_yes {us : α → Bool} {xs : List α} {n : Nat} (h : us (gt14 xs n) = true) : en14 us xs (n + 1) = n + 1 := by rw [en14, if_pos h]
theorem en14_no {us : α → Bool} {xs : List α} {n : Nat} (h : us (gt14 xs n) = false) : en14 us xs (n + 1) = en14 us xs n := by rw [en14, if_neg (by rw [h]; decide)]
theorem en14_full {us : α → Bool} {xs : List α} {n : Nat} : en14 us xs n = n ↔ n = 0 ∨ us (gt14 xs (n - 1)) = true := by
  cases n with
  | zero => simp [en14]
  | succ n =>
    rw [Nat.add_sub_cancel]
    cases h : us (gt14 xs n) with
    | true => rw [en14_yes h]; simp
    | false =>
      rw [en14_no h]
      have := en14_le us xs n
      constructor
      · intro e; omega
      · rintro (e | e) <;> cases e
/-- A list without those at its end that are not used. -/
def cut14 (us : α → Bool) (xs : List α) : List α := xs.take (en14 us xs xs.length)
theorem cut14_len (us : α → Bool) (xs : List α) : (cut14 us xs).length = en14 us xs xs.length := by
  have := en14_le us xs xs.length
  rw [cut14, List.length_take]
  omega
/-- A list with x at a place, and zero ones from the end to there. -/
def put14 (xs : List α) (i : Nat) (x : α) : List α := (List.range (max xs.length (i + 1))).map fun j => if j = i then x else gt14 xs j
theorem put14_len (xs : List α) (i : Nat) (x : α) : (put14 xs i x).length = max xs.length (i + 1) := by simp [put14]
theorem put14_gt {xs : List α} {i j : Nat} {x : α} (h : j < max xs.length (i + 1)) : gt14 (put14 xs i x) j = if j = i then x else gt14 xs j := by
  rw [gt14_in (by rw [put14_len]; exact h)]
  simp [put14]
/-- Is the place of a number used? -/
def us14 (us : α → Bool) (xs : List α) (i : Int) : Bool := decide (0 ≤ i) && us (gt14 xs i.toNat)
/-- What stands there, if it is. -/
def at14 (us : α → Bool) (xs : List α) (i : Int) : α := if us14 us xs i = true then gt14 xs i.toNat else default
/-- The lowest place below most that is not used. -/
def Free14 (us : α → Bool) (xs : List α) (most : Nat) (r : Int) : Prop :=
  (∃ k : Nat, k < most ∧ r = (k : Int) ∧ us (gt14 xs k) = false ∧ ∀ j, j < k → us (gt14 xs j) = true) ∨ (r = -1 ∧ ∀ j, j < most → us (gt14 xs j) = true)
theorem Free14.ex (us : α → Bool) (xs : List α) (most : Nat) : ∃ r, Free14 us xs most r := by
  induction most with
  | zero => exact ⟨-1, .inr ⟨rfl, fun j hj => by omega⟩⟩
  | succ m ih =>
    obtain ⟨r, h⟩ := ih
    rcases h with ⟨k, h1, h2, h3, h4⟩ | ⟨h1, h2⟩
    · exact ⟨r, .inl ⟨k, by omega, h2, h3, h4⟩⟩
    · cases h : us (gt14 xs m) with
      | false => exact ⟨(m : Int), .inl ⟨m, by omega, rfl, h, h2⟩⟩
      | true => exact ⟨-1, .inr ⟨rfl, fun j hj => by
          rcases (show j < m ∨ j = m by omega) with e | rfl
          · exact h2 j e
          · exact h⟩⟩
theorem Free14.least {us : α → Bool} {xs : List α} {most k : Nat} {r : Int} (h : Free14 us xs most r) (hk : k < most) (h1 : us (gt14 xs k) = false) (h2 : ∀ j, j < k → us (gt14 xs j) = true) : r = (k : Int) := by
  rcases h with ⟨m, h3, h4, h5, h6⟩ | ⟨h3, h4⟩
  · rcases (show m < k ∨ k < m ∨ m = k by omega) with e | e | e
    · rw [h2 m e] at h5; cases h5
    · rw [h6 k e] at h1; cases h1
    · rw [h4, e]
  · rw [h4 k hk] at h1; cases h1
theorem Free14.none {us : α → Bool} {xs : List α} {most : Nat} {r : Int} (h : Free14 us xs most r) (h2 : ∀ j, j < most → us (gt14 xs j) = true) : r = -1 := by
  rcases h with ⟨m, h3, h4, h5, h6⟩ | ⟨h3, h4⟩
  · rw [h2 m h3] at h5; cases h5
  · exact h3
theorem fl14_get {cl : α → List Value} {k : Nat} (hk : ∀ x, (cl x).length = k) {xs : List α} {j i : Nat} (hj : j < xs.length) (hi : i < k) : (fl14 cl xs)[j * k + i]? = (cl (gt14 xs j))[i]? := by
  induction xs generalizing j with
  | nil => simp at hj
  | cons x r ih =>
    have e : fl14 cl (x :: r) = cl x ++ fl14 cl r := by simp [fl14]
    rw [e]
    cases j with
    | zero =>
      rw [Nat.zero_mul, Nat.zero_add, List.getElem?_append_left (by rw [hk]; exact hi)]
      rfl
    | succ j =>
      rw [List.getElem?_append_right (by rw [hk, Nat.succ_mul]; omega), hk, show (j + 1) * k + i - k = j * k + i by rw [Nat.succ_mul]; omega, ih (by simpa using hj)]
      rfl
theorem Lq.at_ {cl : α → List Value} {k : Nat} (hk : ∀ x, (cl x).length = k) (h0 : 0 < k) {w : World} {B : Nat} {A : Option Addr} {xs : List α} {j : Nat} (h : Lq cl w B A xs) (hj : j < xs.length) :
    ∃ b o, A = some ⟨b, o, none⟩ ∧ b < B ∧ ∀ i v, (cl (gt14 xs j))[i]? = some v → w.cell? ⟨b, o + j * k + i, none⟩ = some v := by
  obtain ⟨b, o, h1, h2, h3⟩ := h (by
    intro e
    have := fl14_len hk xs
    rw [e, List.length_nil] at this
    have : 0 < xs.length * k := Nat.mul_pos (by omega) h0
    omega)
  refine ⟨b, o, h1, h2, fun i v hv => ?_⟩
  have hi : i < k := by
    have := (List.getElem?_eq_some_iff.1 hv).1
    rwa [hk] at this
  rw [Nat.add_assoc]
  exact h3 _ v (by rw [fl14_get hk hj hi]; exact hv)
theorem Lq.none_nil {cl : α → List Value} {k : Nat} (hk : ∀ x, (cl x).length = k) (h0 : 0 < k) {w : World} {B : Nat} {xs : List α} (h : Lq cl w B none xs) : xs = [] := by
  rcases xs with _ | ⟨x, r⟩
  · rfl
  · obtain ⟨b, o, h1, _⟩ := Lq.at_ hk h0 h (j := 0) (by simp)
    cases h1
end
theorem fv14_own {w : World} {base : Nat} {e : TypeId} {k : Nat} {A : Option Addr} {c n : Nat} {vs : List Value} (h : w.ownsRow base e k (.slice A n c) n vs) : Fv base A vs := by
  intro hx
  have hl := h.1
  have hpos : 0 < vs.length := List.length_pos_iff.2 hx
  rcases h.2 with ⟨_, h0⟩ | ⟨g, cap, cur, hv, hg, _, _⟩
  · subst h0
    rw [hl, Nat.zero_mul] at hpos
    omega
  · injection hv with hA
    exact ⟨g, 0, hA, hg⟩
theorem fv14_more {L L' : Nat} {A : Option Addr} {vs : List Value} (h : Fv L A vs) (hL : L' ≤ L) : Fv L' A vs := fun hx => by
  obtain ⟨b, o, h1, h2⟩ := h hx
  exact ⟨b, o, h1, by omega⟩
theorem own14_cap {w : World} {base : Nat} {e : TypeId} {k : Nat} {A : Option Addr} {c n : Nat} {vs : List Value} (h : w.ownsRow base e k (.slice A n c) n vs) : n ≤ c := by
  rcases h.2 with ⟨_, h0⟩ | ⟨g, cap, cur, hv, _, _, hnc, _⟩
  · omega
  · injection hv with _ _ hc
    omega
/-- An empty row is the call's own. -/
theorem owns14_nil (w : World) (base : Nat) (hb : base ≤ w.heap.size) (e : TypeId) (k : Nat) : (w.alloc (.cells #[] e)).ownsRow base e k (.slice (some ⟨w.heap.size, 0, none⟩) 0 0) 0 [] :=
  ⟨by simp, .inr ⟨w.heap.size, 0, #[], rfl, hb, heap_alloc_new w _, Nat.le_refl _, by simp, by simp, by simp⟩⟩
section
variable {P : Program} (w : World)
/-- append onto a row of the call's own, of elements of any size; what is appended may be nil, empty or not. -/
theorem run_append_14 (base : Nat) (t ty e : TypeId) (z : Value) (k bt : Nat) (ht : P.underlying t = some (.slice e)) (hinfo : (P.info? e).map (fun i => (i.zero, i.size, i.bytes)) = some (some z, k, bt)) (hz1 : z.cells.size = k) (hk0 : 0 < k) (hbt : bt ≤ 1000)
    (v : Value) (n : Nat) (vs : List Value) (hown : w.ownsRow base e k v n vs) (B : Nat) (A : Option Addr) (ys : List Value) (m c : Nat) (hm : ys.length = m * k) (hr : Rv w B A ys) (h1 : ∀ u ∈ ys, u.oneCell' = true)
    (hb : n + m ≤ 1000000) (hbase : base ≤ w.heap.size) :
    ∃ A' c' w', (Builtin.append_ #[t, t] ty #[v, .slice A m c]).run P w = .ok (.slice A' (n + m) c') w' ∧ w'.ownsRow base e k (.slice A' (n + m) c') (n + m) (vs ++ ys) ∧ w.grownBy w' v.ownBlock := by
  suffices H : ∃ v' w', (Builtin.append_ #[t, t] ty #[v, .slice A m c]).run P w = .ok v' w' ∧ w'.ownsRow base e k v' (n + m) (vs ++ ys) ∧ w.grownBy w' v.ownBlock by
    obtain ⟨v', w', h1, h2, h3⟩ := H
    rcases h2.2 with ⟨rfl, h0⟩ | ⟨g, cap, cur, rfl, _⟩
    · rw [h0] at h2 ⊢
      exact ⟨none, 0, w', h1, h2, h3⟩
    · exact ⟨_, cap, w', h1, h2, h3⟩
  obtain ⟨i, hi, hz, hsz, hby⟩ := info_parts hinfo
  cases A with
  | none =>
    obtain rfl : ys = [] := by
      rcases ys with _ | ⟨y, r⟩
      · rfl
      · obtain ⟨_, _, h, _⟩ := hr (by simp)
        cases h
    obtain rfl : m = 0 := by
      rw [List.length_nil] at hm
      rcases Nat.eq_zero_or_pos m with h | h
      · exact h
      · have := Nat.mul_pos h hk0
        omega
    refine ⟨v, w, ?_, by simpa using hown, World.grownBy.refl w _⟩
    rcases hown.2 with ⟨rfl, rfl⟩ | ⟨g, cap, cur, rfl, _, _, hnc, _⟩
    · simp [Builtin.append_, run_underlying ht, sizeOf, typeInfo, hi, Builtin.lenOf, Builtin.firstCells]
    · simp [Builtin.append_, run_underlying ht, sizeOf, typeInfo, hi, Builtin.lenOf, Builtin.firstCells, hnc, storeCells]
  | some ad =>
    have hcells : ∀ j u, ys[j]? = some u → w.cell? (ad.add j) = some u := by
      intro j u hu
      obtain ⟨b, o, h1, _, h2⟩ := hr.at_ hu
      injection h1 with h1
      subst h1
      rw [← h2, Addr.add_lit]
    have hmul : (n + m) * bt ≤ 1000000 * 1000 := Nat.mul_le_mul hb hbt
    obtain ⟨v', w', hrun, h2, h3, _, _⟩ := run_append_own_at (P := P) w base t ty e i z k bt ht hi hz hsz hby hz1 hk0 v n vs hown ad m c ys hm hcells h1 (by unfold maxLen; omega) (by omega) hbase
    exact ⟨v', w', hrun, h2, h3⟩
/-- An append whose run is known. -/
theorem wpList_append_14 {ops : Array Oper} {rest : List Oper} {o : Oper} {a : Act} {Q : Exit → Act → World → Prop} (hgd : o.guard = none) (s x : Operand) (t : TypeId)
    (ho : o.op = .call { callee := .builtin .append, args := #[s, x], argTypes := #[t, t] }) (v y r : Value) (w' : World) (hs : a.eval s = v) (hx : a.eval x = y)
    (hrun : (Builtin.append_ #[t, t] o.type #[v, y]).run P w = .ok r w') (h : wpList P ops Q rest (a.put o.dst r) w') :
    wpList P ops Q (o :: rest) a w := by
  refine wpList_plain hgd fun K hK => ?_
  unfold Oper.wp execOp
  simp only [ho, resolve, invoke, builtin, Sem.run_bind, Sem.run_pure, Result.andThen_ok, List.map_toArray, List.map_cons, List.map_nil, hs, hx, hrun]
  exact hK _ _ h
/-- copy into a block whose cells are at least as many; what is copied may be nil, empty or not. -/
theorem run_copy_14 (t e : TypeId) (z : Value) (k bt : Nat) (ht : P.underlying t = some (.slice e)) (hinfo : (P.info? e).map (fun i => (i.zero, i.size, i.bytes)) = some (some z, k, bt))
    (g n c : Nat) (cur : Array Value) (hg : Blk w g e cur) (hn : cur.size = n * k) (hk0 : 0 < k) (B : Nat) (A : Option Addr) (ys : List Value) (m c2 : Nat) (hm : ys.length = m * k) (hmn : m ≤ n) (hr : Rv w B A ys) (h1 : ∀ u ∈ ys, u.oneCell' = true) :
    ∃ w', (∀ ty, (Builtin.copy_ #[t, t] ty #[.slice (some ⟨g, 0, none⟩) n c, .slice A m c2]).run P w = .ok (goInt m) w') ∧ w' = w.setRow g (ys ++ cur.toList.drop (m * k)).toArray := by
  obtain ⟨i, hi, hz, hsz, hby⟩ := info_parts hinfo
  cases A with
  | none =>
    obtain rfl : ys = [] := by
      rcases ys with _ | ⟨y, r⟩
      · rfl
      · obtain ⟨_, _, h, _⟩ := hr (by simp)
        cases h
    obtain rfl : m = 0 := by
      rcases Nat.eq_zero_or_pos m with h | h
      · exact h
      · have := Nat.mul_pos h hk0
        rw [List.length_nil] at hm
        omega
    refine ⟨w, fun ty => by simp [Builtin.copy_, run_underlying ht, Builtin.lenOf, Builtin.firstCells, sizeOf, typeInfo, hi, storeCells], ?_⟩
    rw [Nat.zero_mul, List.drop_zero, List.nil_append, Array.toArray_toList]
    exact (setRow_self w g cur e (0, 0) hg).symm
  | some ad =>
    have hcells : ∀ j u, ys[j]? = some u → w.cell? (ad.add j) = some u := by
      intro j u hu
      obtain ⟨b, o, h1, _, h2⟩ := hr.at_ hu
      injection h1 with h1
      subst h1
      rw [← h2, Addr.add_lit]
    have hl := run_loadCells_list (P := P) w ad ys hcells
    have hfit : 0 + 0 + ys.length ≤ cur.size := by
      rw [hm, hn]
      have := Nat.mul_le_mul_right k hmn
      omega
    have hst := run_storeCells_at P g 0 e ys 0 cur w hg hfit h1
    refine ⟨_, fun ty => by simp [Builtin.copy_, run_underlying ht, Builtin.lenOf, Builtin.firstCells, sizeOf, typeInfo, hi, hsz, Nat.min_eq_left hmn, ← hm, hl, hst]; rfl, ?_⟩
    simp [hm]
end
end Go.Proofs.YtfoellhoaflofaaGreat
namespace Go.Proofs.YtfoellhoaflofaaGreat
open Go.RowKit
set_option maxRecDepth 100000
theorem info14C : (Tryz.prog.info? 4).map (fun i => (i.zero, i.size, i.bytes)) = some (some (.bool false), 1, 1) := by kernel_rfl
theorem len14C (x : Bool) : (clC x).length = 1 := rfl
theorem nil14C : ∀ (n c : Nat) (w : World), (binOp .eql 22 (.slice none n c) (.slice none 0 0)).run Tryz.prog w = .ok (.bool true) w := fun _ _ _ => by kernel_rfl
theorem not14C : ∀ (a : Addr) (n c : Nat) (w : World), (binOp .eql 22 (.slice (some a) n c) (.slice none 0 0)).run Tryz.prog w = .ok (.bool false) w := fun _ _ _ _ => by kernel_rfl
set_option maxHeartbeats 1000000 in
theorem used14C (xu : Bool) (b : Bool) (hb : usC xu = b) (w : World) :
    Calls Tryz.prog 64 #[.bool xu] w fun e w' => e = .returned (.bool b) ∧ Below w.heap.size w w' := by
  subst hb
  go_enter Tryz.func64, Tryz.ntmps64
  go_wp2_with fail
  go_ret
  exact ⟨rfl, Below.refl _ _⟩
set_option maxHeartbeats 2000000 in
theorem end14C (A : Option Addr) (xs : List Bool) (n c : Nat) (w : World) (hl : xs.length = n) (hr : Lq clC w w.heap.size A xs) (hn : n ≤ 1000000) :
    Calls Tryz.prog 102 #[.slice A n c, .func (.func 64) #[] #[]] w fun e w' => e = .returned (.int .i64 ((en14 usC xs n : Nat) : Int)) ∧ Below w.heap.size w w' := by
  have HL := Lib.hid hl
  have HR := Lib.hid hr
  clear hl hr
  go_enter Tryz.func102, Tryz.ntmps102
  go_wp2_with fail
  go_loopw [5] (fun i wr => ∃ m : Nat, i = .int .i64 (m : Int) ∧ m ≤ n ∧ Hid (en14 usC xs n = en14 usC xs m) ∧ Hid (Below w.heap.size w wr)) (fun i _ => (intOf i).toNat)
  case atStart => exact ⟨n, rfl, Nat.le_refl _, Lib.hid rfl, Lib.hid (Below.refl _ _)⟩
  case round =>
    obtain ⟨m, rfl, hm, HE, HB⟩ := hrel
    by_cases h0 : m = 0
    · subst h0
      go_wp2_with fail
      go_ret
      exact ⟨by rw [HE.out]; rfl, HB.out⟩
    · obtain ⟨q, hqm⟩ : ∃ q, q + 1 = m := ⟨m - 1, by omega⟩
      obtain ⟨b, o, hA, hab, hq⟩ := Lq.at_ len14C (by omega) (Lq.below HR.out HB.out (Nat.le_refl _)) (show q < xs.length by have := HL.out; omega)
      subst hA
      obtain ⟨x, hx⟩ : ∃ x, gt14 xs q = x := ⟨_, rfl⟩
      rw [hx] at hq
      obtain ⟨bu, hbu⟩ : ∃ y, usC x = y := ⟨_, rfl⟩
      have HX : Hid (usC (gt14 xs q) = bu) := Lib.hid (by rw [hx]; exact hbu)
      obtain ⟨xu, hxe⟩ : ∃ y, y = x := ⟨_, rfl⟩; subst hxe
      have q0 : wr.cell? ⟨b, o + q, none⟩ = some (.bool xu) := by have h := hq 0 _ rfl; rwa [Nat.mul_one] at h
      have hw : IntKind.i64.wrap ((m : Int) - 1) = (q : Int) := by rw [IntKind.wrap_i64]; omega
      have h1 : (0 : Int) < (m : Int) := by omega
      have i0 : (0 : Int) ≤ (q : Int) := by omega
      have i1 : (q : Int) < (n : Int) := by omega
      have HU := Lib.hid (fun W => used14C xu bu hbu W)
      have HM := Lib.hid hqm
      clear hq hx hbu hqm
      cases bu with
      | true =>
        have HE2 : Hid (en14 usC xs n = m) := Lib.hid (by have := HM.out; rw [HE.out, ← this, en14_yes HX.out])
        go_wp2_with fail
        refine (HU.out _).mono ?_
        rintro e w1 ⟨rfl, hb1⟩
        have HB1 := Lib.hid (HB.out.trans (hb1.mono HB.out.size))
        clear HU hb1
        go_wp2_with fail
        go_ret
        exact ⟨by rw [HE2.out]; rfl, HB1.out⟩
      | false =>
        have HE2 : Hid (en14 usC xs n = en14 usC xs q) := Lib.hid (by have := HM.out; rw [HE.out, ← this, en14_no HX.out])
        go_wp2_with fail
        refine (HU.out _).mono ?_
        rintro e w1 ⟨rfl, hb1⟩
        have HB1 := Lib.hid (HB.out.trans (hb1.mono HB.out.size))
        clear HU hb1
        go_wp2_with fail
        go_roundw
        case rel => exact ⟨q, rfl, by omega, HE2, HB1⟩
        case measure => have := HM.out; simp [intOf]; omega
/-- A slice that is answered, of memory of the call's own or nil. -/
def RetS14C (w : World) (xs : List Bool) (e : Ending) (w' : World) : Prop := ∃ A c, e = .returned (.slice A xs.length c) ∧ xs.length ≤ c ∧ Lq clC w' w'.heap.size A xs ∧ Fv w.heap.size A (fl14 clC xs) ∧ Below w.heap.size w w'
set_option maxHeartbeats 2000000 in
theorem clone14C (A : Option Addr) (xs : List Bool) (n c : Nat) (w : World) (hl : xs.length = n) (hr : Lq clC w w.heap.size A xs) (hn : n ≤ 1000000) :
    Calls Tryz.prog 58 #[.slice A n c] w (RetS14C w xs) := by
  have HP : Hid (RetS14C w xs = fun e w' => ∃ A c, e = .returned (.slice A xs.length c) ∧ xs.length ≤ c ∧ Lq clC w' w'.heap.size A xs ∧ Fv w.heap.size A (fl14 clC xs) ∧ Below w.heap.size w w') := Lib.hid rfl
  have hni := nil14C
  have hnn := not14C
  cases A with
  | none =>
    have hx := Lq.none_nil len14C (by omega) hr
    subst hx
    obtain rfl : n = 0 := by simpa using hl.symm
    clear hr hl
    go_enter Tryz.func58, Tryz.ntmps58
    go_wp2_with fail
    go_ret
    rw [HP.out]
    exact ⟨none, 0, rfl, Nat.le_refl _, Lq.nil _ _ _ _, fun h => absurd rfl h, Below.refl _ _⟩
  | some ad =>
    have hr1 := hr.below (b1' w (.cells #[] 4)) (Nat.le_refl _)
    obtain ⟨w1, hw1⟩ : ∃ W, w.alloc (.cells #[] 4) = W := ⟨_, rfl⟩
    have hown := owns14_nil w w.heap.size (Nat.le_refl _) 4 1
    have hsz : w1.heap.size = w.heap.size + 1 := by rw [← hw1]; simp
    rw [hw1] at hr1 hown
    obtain ⟨A', c', w2, hrun, hown2, hg2⟩ := run_append_14 (P := Tryz.prog) w1 w.heap.size 22 22 4 _ 1 1 Tryz.underlying22 info14C rfl (by omega) (by omega) _ 0 [] hown w.heap.size (some ad) (fl14 clC xs) n c (by rw [fl14_len len14C, hl]) hr1 (fl14_one clC_one xs) (by omega) (by omega)
    rw [Nat.zero_add] at hrun hown2
    have HB2 : Hid (Below w.heap.size w w2) := Lib.hid ((by rw [← hw1]; exact b1' w _ : Below w.heap.size w w1).grown hg2 (by omega) (fun r hr => by cases hr; exact Nat.le_refl _))
    have HO : Hid (Lq clC w2 w2.heap.size A' xs) := Lib.hid (Lq.of_own (by omega) hown2)
    have HF : Hid (Fv w.heap.size A' (fl14 clC xs)) := Lib.hid (by have h := fv14_own hown2; rwa [List.nil_append] at h)
    have HCAP := Lib.hid (own14_cap hown2)
    have HL := Lib.hid hl
    have HRUN := Lib.hid hrun
    clear hr hr1 hown hown2 hg2 hsz hl hrun
    go_enter Tryz.func58, Tryz.ntmps58
    go_wp2_with (at_builtin; go_loud (refine wpList_append_14 _ rfl (.tmp 5) (.tmp 6) 22 rfl _ _ _ _ rfl rfl HRUN.out ?_))
    go_wp2_with fail
    go_ret
    rw [HP.out]
    exact ⟨A', c', by rw [HL.out]; rfl, by rw [HL.out]; exact HCAP.out, HO.out, HF.out, HB2.out⟩
set_option maxHeartbeats 2000000 in
theorem cut14C (A : Option Addr) (xs : List Bool) (n c : Nat) (w : World) (hl : xs.length = n) (hc : n ≤ c) (hr : Lq clC w w.heap.size A xs) (hn : n ≤ 1000000) :
    Calls Tryz.prog 63 #[.slice A n c, .func (.func 64) #[] #[]] w (RetS14C w (cut14 usC xs)) := by
  have HE := Lib.hid (end14C A xs n c w hl hr hn)
  obtain ⟨m, hm⟩ : ∃ m, en14 usC xs n = m := ⟨_, rfl⟩
  have hmn : m ≤ n := by rw [← hm]; exact en14_le _ _ _
  have hcm : cut14 usC xs = xs.take m := by rw [cut14, hl, hm]
  have hlm : (xs.take m).length = m := by rw [List.length_take]; omega
  have hrm := hr.take len14C m
  rw [hm] at HE
  obtain ⟨ys, hys⟩ : ∃ ys, xs.take m = ys := ⟨_, rfl⟩
  rw [hys] at hcm hlm hrm
  have HC := Lib.hid (fun W (h : Below w.heap.size w W) => clone14C A ys m c W hlm (hrm.step h) (by omega))
  rw [hcm]
  have HP : Hid (RetS14C w ys = fun e w' => ∃ A c, e = .returned (.slice A m c) ∧ m ≤ c ∧ Lq clC w' w'.heap.size A ys ∧ Fv w.heap.size A (fl14 clC ys) ∧ Below w.heap.size w w') := Lib.hid (by rw [← hlm]; rfl)
  have h1 : (m : Int) ≤ (c : Int) := by omega
  have h2 : (0 : Int) ≤ (m : Int) := by omega
  have HLM := Lib.hid hlm
  clear hl hr hm hcm hlm hrm hys
  go_enter Tryz.func63, Tryz.ntmps63
  go_wp2_with fail
  refine HE.out.mono ?_
  rintro e w1 ⟨rfl, hb1⟩
  have HC1 := Lib.hid (HC.out w1 hb1)
  have HB1 := Lib.hid hb1
  clear HE HC hb1
  go_wp2_with fail
  refine HC1.out.mono ?_
  rintro e w2 ⟨A2, c2, rfl, hc2, hq2, hf2, hb2⟩
  rw [HLM.out] at hc2 ⊢
  have HC2 := Lib.hid hc2
  have HF2 := Lib.hid (fv14_more hf2 HB1.out.size)
  have HQ2 := Lib.hid hq2
  have HB2 := Lib.hid (HB1.out.trans (hb2.mono HB1.out.size))
  clear HC1 hq2 hb2 hc2 hf2
  go_wp2_with fail
  go_ret
  rw [HP.out]
  exact ⟨A2, c2, rfl, HC2.out, HQ2.out, HF2.out, HB2.out⟩
end Go.Proofs.YtfoellhoaflofaaGreat
