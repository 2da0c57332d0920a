/-
  SaidLiveOff, part 1 of 15: what the theorem liveOff_holds reaches.
-/
import Derived.WalkKit
import Derived.Lib.Hide
import Derived.Deep.Draws
import Derived.Maps.AppendAt
import Derived.OwnWalk
import Derived.Test.YtllcmjdfgbiijaaProg
import Derived.BigQuiet
import Derived.Outline
import Derived.Deep.RegionHeld3
import Derived.LoopTactic
import Derived.ProofKit
import Derived.Shelf.Spec.BitsCarry
import Derived.Laws.MakeOwn
import Derived.Laws.CopyRow
import Derived.Lib.TrailingZeros
namespace Go.Proofs.Ytllcmjdfgbiijaa
open Go.RowKit
/-- The digit at place i; 0 behind them. (A plain definition: a walk leaves it as it stands.) -/
def nth (xs : List Nat) (i : Nat) : Nat := xs.getD i 0
theorem nth_in {xs : List Nat} {i : Nat} (h : i < xs.length) : nth xs i = xs[i] := by simp [nth, List.getElem?_eq_getElem h]
theorem nth_drop (xs : List Nat) (k j : Nat) : nth (xs.drop k) j = nth xs (k + j) := by simp [nth]
theorem nth_take {xs : List Nat} {k j : Nat} (h : j < k) : nth (xs.take k) j = nth xs j := by simp [nth, List.getElem?_take, h]
theorem nth_cons (d : Nat) (xs : List Nat) (j : Nat) : nth (d :: xs) (j + 1) = nth xs j := by simp [nth]
theorem nth_cons0 (d : Nat) (xs : List Nat) : nth (d :: xs) 0 = d := by simp [nth]
/-- The cells of a list of naturals, as ints. -/
def ints (xs : List Nat) : List Value := xs.map fun (d : Nat) => Value.int .i64 (d : Int)
theorem ints_length (xs : List Nat) : (ints xs).length = xs.length := by simp [ints]
theorem ints_get {xs : List Nat} {k : Nat} (h : k < xs.length) : (ints xs)[k]? = some (.int .i64 ((nth xs k : Nat) : Int)) := by
  simp [ints, nth_in h, List.getElem?_eq_getElem h]
theorem ints_one (xs : List Nat) : ∀ u ∈ ints xs, u.oneCell' = true := by
  intro u hu
  simp only [ints, List.mem_map] at hu
  obtain ⟨d, _, rfl⟩ := hu
  rfl
theorem ints_append (xs ys : List Nat) : ints (xs ++ ys) = ints xs ++ ints ys := by simp [ints]
/-- The slice at address A reads, in world w, as the list xs; every cell lies below block B. -/
def Rd (w : World) (B : Nat) (A : Option Addr) (xs : List Nat) : Prop :=
  xs ≠ [] → ∃ b o, A = some ⟨b, o, none⟩ ∧ b < B ∧ ∀ k, k < xs.length → w.cell? ⟨b, o + k, none⟩ = some (.int .i64 ((nth xs k : Nat) : Int))
theorem Rd.at_ {w : World} {B : Nat} {A : Option Addr} {xs : List Nat} {k : Nat} (h : Rd w B A xs) (hk : k < xs.length) :
    ∃ b o, A = some ⟨b, o, none⟩ ∧ b < B ∧ w.cell? ⟨b, o + k, none⟩ = some (.int .i64 ((nth xs k : Nat) : Int)) := by
  obtain ⟨b, o, h1, h2, h3⟩ := h (by rintro rfl; simp at hk)
  exact ⟨b, o, h1, h2, h3 k hk⟩
theorem Rd.keep {w w' : World} {B : Nat} {A : Option Addr} {xs : List Nat} (h : Rd w B A xs) (hk : ∀ p : Addr, p.block < B → w'.cell? p = w.cell? p) : Rd w' B A xs := by
  intro hx
  obtain ⟨b, o, h1, h2, h3⟩ := h hx
  exact ⟨b, o, h1, h2, fun k hkl => (hk _ h2).trans (h3 k hkl)⟩
theorem Rd.more {w : World} {B B' : Nat} {A : Option Addr} {xs : List Nat} (h : Rd w B A xs) (hB : B ≤ B') : Rd w B' A xs := by
  intro hx
  obtain ⟨b, o, h1, h2, h3⟩ := h hx
  exact ⟨b, o, h1, by omega, h3⟩
theorem Rd.below {w w' : World} {B C : Nat} {A : Option Addr} {xs : List Nat} (h : Rd w B A xs) (hb : Below C w w') (hB : B ≤ C) : Rd w' B A xs := h.keep fun _ hp => hb.cell (by omega)
theorem Rd.alloc {w : World} {B : Nat} {A : Option Addr} {xs : List Nat} (h : Rd w B A xs) (hB : B ≤ w.heap.size) (o : Obj) : Rd (w.alloc o) B A xs :=
  h.keep fun p hp => World.cell?_alloc_lt w o p (by omega)
theorem Rd.grown {w w' : World} {B : Nat} {A : Option Addr} {xs : List Nat} (h : Rd w B A xs) {row : Option Nat} (hg : w.grownBy w' row) (hB : B ≤ w.heap.size) (hr : ∀ g, row = some g → B ≤ g) : Rd w' B A xs :=
  h.keep fun p hp => World.cell?_of_block (hg.block p.block (by omega) (fun e => by have := hr _ e.symm; omega))
theorem Rd.drop {w : World} {B : Nat} {b o : Nat} {xs : List Nat} (h : Rd w B (some ⟨b, o, none⟩) xs) (k : Nat) : Rd w B (some ⟨b, o + k, none⟩) (xs.drop k) := by
  intro hx
  have hne : xs ≠ [] := by rintro rfl; simp at hx
  obtain ⟨b', o', h1, h2, h3⟩ := h hne
  injection h1 with h1
  injection h1 with h4 h5
  subst h4 h5
  refine ⟨b, o + k, rfl, h2, fun j hj => ?_⟩
  simp only [List.length_drop] at hj
  rw [Nat.add_assoc, h3 (k + j) (by omega), nth_drop]
theorem Rd.take {w : World} {B : Nat} {A : Option Addr} {xs : List Nat} (h : Rd w B A xs) (k : Nat) : Rd w B A (xs.take k) := by
  intro hx
  have hne : xs ≠ [] := by rintro rfl; simp at hx
  obtain ⟨b, o, h1, h2, h3⟩ := h hne
  refine ⟨b, o, h1, h2, fun j hj => ?_⟩
  simp only [List.length_take] at hj
  rw [h3 j (by omega), nth_take (by omega)]
theorem Rd.nil (w : World) (B : Nat) (A : Option Addr) : Rd w B A [] := fun h => absurd rfl h
/-- What the call owns reads. -/
theorem Rd.of_own {w : World} {base : Nat} {e : TypeId} {A : Option Addr} {c n : Nat} {xs : List Nat} (h : w.ownsRow base e 1 (.slice A n c) n (ints xs)) : Rd w w.heap.size A xs := by
  intro hx
  have hl := h.1
  rw [ints_length] at hl
  have hpos : 0 < xs.length := List.length_pos_iff.2 hx
  rcases h.2 with ⟨_, h0⟩ | ⟨g, cap, cur, hv, _, hh, _⟩
  · omega
  · have hA : A = some ⟨g, 0, none⟩ := by injection hv
    subst hA
    refine ⟨g, 0, rfl, ?_, fun k hk => ?_⟩
    · rcases Nat.lt_or_ge g w.heap.size with hlt | hge
      · exact hlt
      · rw [Array.getElem?_eq_none hge] at hh; cases hh
    · have hc := h.cells (g := g) rfl k _ (ints_get hk)
      rw [Nat.zero_add]
      unfold Addr.add at hc
      split at hc
      · next h0 => subst h0; exact hc
      · simpa using hc
/-- Block g is just the cells cs of type t, none frozen. -/
def Blk (w : World) (g : Nat) (t : TypeId) (cs : Array Value) : Prop := w.heap[g]? = some (.cells cs t (0, 0))
theorem Blk.lt {w : World} {g : Nat} {t : TypeId} {cs : Array Value} (h : Blk w g t cs) : g < w.heap.size := by
  rcases Nat.lt_or_ge g w.heap.size with hlt | hge
  · exact hlt
  · unfold Blk at h; rw [Array.getElem?_eq_none hge] at h; cases h
theorem Blk.cell {w : World} {g : Nat} {t : TypeId} {cs : Array Value} (h : Blk w g t cs) (i : Nat) : w.cell? ⟨g, i, none⟩ = cs[i]? := cell_of_row w g i cs t (0, 0) h
theorem Blk.frozen {w : World} {g : Nat} {t : TypeId} {cs : Array Value} (h : Blk w g t cs) (i : Nat) : w.frozen? ⟨g, i, none⟩ = false := by
  unfold Blk at h
  simp [World.frozen?, h]
theorem Blk.new (w : World) (t : TypeId) (cs : Array Value) : Blk (w.alloc (.cells cs t)) w.heap.size t cs := heap_alloc_new w _
theorem Blk.alloc {w : World} {g : Nat} {t : TypeId} {cs : Array Value} (h : Blk w g t cs) (o : Obj) : Blk (w.alloc o) g t cs := (Below.heap_alloc w o g h.lt).trans h
theorem Blk.set_ {w : World} {g : Nat} {t : TypeId} {cs : Array Value} (h : Blk w g t cs) (i : Nat) (u : Value) : Blk (w.setCell ⟨g, i, none⟩ u) g t (cs.setIfInBounds i u) := by
  unfold Blk at h ⊢
  simp [World.setCell, Array.getElem?_modify, h]
theorem Blk.far {w : World} {g : Nat} {t : TypeId} {cs : Array Value} (h : Blk w g t cs) {p : Addr} (hp : g ≠ p.block) (u : Value) : Blk (w.setCell p u) g t cs := (Below.heap_setCell w p u g hp).trans h
theorem Blk.below {w w' : World} {g : Nat} {t : TypeId} {cs : Array Value} {B : Nat} (h : Blk w g t cs) (hb : Below B w w') (hg : g < B) : Blk w' g t cs := (hb.block g hg).trans h
theorem Blk.grown {w w' : World} {g : Nat} {t : TypeId} {cs : Array Value} {row : Option Nat} (h : Blk w g t cs) (hb : w.grownBy w' row) (hg : some g ≠ row) : Blk w' g t cs := (hb.block g h.lt hg).trans h
theorem Rd.setCell {w : World} {B : Nat} {A : Option Addr} {xs : List Nat} (h : Rd w B A xs) {p : Addr} (hp : B ≤ p.block) (u : Value) : Rd (w.setCell p u) B A xs :=
  h.keep fun q hq => World.cell?_setCell_other w p q u (fun e => by subst e; omega)
/-- One element in a block of its own: what 'append(s, x)' hands on. -/
theorem Rd.one (w : World) (d : Nat) (t : TypeId) : Rd (w.alloc (.cells #[.int .i64 (d : Int)] t)) (w.heap.size + 1) (some ⟨w.heap.size, 0, none⟩) [d] := by
  intro _
  refine ⟨w.heap.size, 0, rfl, by omega, fun k hk => ?_⟩
  simp only [List.length_singleton] at hk
  obtain rfl : k = 0 := by omega
  rw [nth_cons0]
  exact cell_one_new w (.int .i64 (d : Int)) t 0 _ rfl
section
variable {P : Program} (w : World)
theorem ownsRow_form {base : Nat} {e : TypeId} {v : Value} {n : Nat} {xs : List Value} (h : w.ownsRow base e 1 v n xs) : ∃ A c, v = .slice A n c ∧ n ≤ c := by
  rcases h.2 with ⟨rfl, rfl⟩ | ⟨g, cap, cur, rfl, _, _, h1, _⟩
  · exact ⟨none, 0, rfl, Nat.le_refl _⟩
  · exact ⟨_, cap, rfl, h1⟩
end
end Go.Proofs.Ytllcmjdfgbiijaa
namespace Go.Proofs.Ytllcmjdfgbiijaa
end Go.Proofs.Ytllcmjdfgbiijaa
namespace Go.Proofs.Ytllcmjdfgbiijaa
open Go.RowKit
section
variable {P : Program} (w : World)
end
end Go.Proofs.Ytllcmjdfgbiijaa
namespace Go.Proofs.Ytllcmjdfgbiijaa
end Go.Proofs.Ytllcmjdfgbiijaa
namespace Go.Proofs.Ytllcmjdfgbiijaa
/-- The sum of f over the places below n. -/
def sm (f : Nat → Nat) : Nat → Nat
  | 0 => 0
  | k + 1 => sm f k + f k
/-- A function, but for one place. -/
def upd {α : Type} (f : Nat → α) (i : Nat) (x : α) : Nat → α := fun k => if k = i then x else f k
theorem upd_at {α : Type} (f : Nat → α) (i : Nat) (x : α) : upd f i x i = x := if_pos rfl
theorem upd_far {α : Type} (f : Nat → α) {i k : Nat} (x : α) (h : k ≠ i) : upd f i x k = f k := if_neg h
/-- How many numbers of the first k columns pick i: cuts c, others o. -/
def pt (t : Nat) (c : Nat → Nat) (o : Nat → Int) (i : Int) (k : Nat) : Nat := (if (k : Int) = i then c k else 0) + (if o k = i then t - c k else 0)
def cu (t : Nat) (c : Nat → Nat) (o : Nat → Int) (i : Int) (k : Nat) : Nat := sm (pt t c o i) k
/-- What the columns give to i beside its own. -/
def gv (t : Nat) (c : Nat → Nat) (o : Nat → Nat) (i n : Nat) : Nat := sm (fun k => if o k = i then t - c k else 0) n
end Go.Proofs.Ytllcmjdfgbiijaa
namespace Go.Proofs.Ytllcmjdfgbiijaa
open Go.RowKit
theorem b1' (w : World) (o : Obj) : Below w.heap.size w (w.alloc o) := (Below.refl _ _).alloc (Nat.le_refl _) _
/-- The slice at address A reads, in world w, as the list vs; every cell lies below block B. -/
def Rv (w : World) (B : Nat) (A : Option Addr) (vs : List Value) : Prop :=
  vs ≠ [] → ∃ b o, A = some ⟨b, o, none⟩ ∧ b < B ∧ ∀ k v, vs[k]? = some v → w.cell? ⟨b, o + k, none⟩ = some v
theorem Rv.at_ {w : World} {B : Nat} {A : Option Addr} {vs : List Value} {k : Nat} {v : Value} (h : Rv w B A vs) (hk : vs[k]? = some v) :
    ∃ b o, A = some ⟨b, o, none⟩ ∧ b < B ∧ w.cell? ⟨b, o + k, none⟩ = some v := by
  obtain ⟨b, o, h1, h2, h3⟩ := h (by rintro rfl; simp at hk)
  exact ⟨b, o, h1, h2, h3 k v hk⟩
theorem Rv.keep {w w' : World} {B : Nat} {A : Option Addr} {vs : List Value} (h : Rv w B A vs) (hk : ∀ p : Addr, p.block < B → w'.cell? p = w.cell? p) : Rv w' B A vs := by
  intro hx
  obtain ⟨b, o, h1, h2, h3⟩ := h hx
  exact ⟨b, o, h1, h2, fun k v hkl => (hk _ h2).trans (h3 k v hkl)⟩
theorem Rv.more {w : World} {B B' : Nat} {A : Option Addr} {vs : List Value} (h : Rv w B A vs) (hB : B ≤ B') : Rv w B' A vs := by
  intro hx
  obtain ⟨b, o, h1, h2, h3⟩ := h hx
  exact ⟨b, o, h1, by omega, h3⟩
theorem Rv.below {w w' : World} {B C : Nat} {A : Option Addr} {vs : List Value} (h : Rv w B A vs) (hb : Below C w w') (hB : B ≤ C) : Rv w' B A vs := h.keep fun _ hp => hb.cell (by omega)
theorem Rv.step {w w' : World} {A : Option Addr} {vs : List Value} (h : Rv w w.heap.size A vs) (hb : Below w.heap.size w w') : Rv w' w'.heap.size A vs := (h.below hb (Nat.le_refl _)).more hb.size
theorem Rv.alloc {w : World} {B : Nat} {A : Option Addr} {vs : List Value} (h : Rv w B A vs) (hB : B ≤ w.heap.size) (o : Obj) : Rv (w.alloc o) B A vs :=
  h.keep fun p hp => World.cell?_alloc_lt w o p (by omega)
theorem Rv.grown {w w' : World} {B : Nat} {A : Option Addr} {vs : List Value} (h : Rv w B A vs) {row : Option Nat} (hg : w.grownBy w' row) (hB : B ≤ w.heap.size) (hr : ∀ g, row = some g → B ≤ g) : Rv w' B A vs :=
  h.keep fun p hp => World.cell?_of_block (hg.block p.block (by omega) (fun e => by have := hr _ e.symm; omega))
theorem Rv.nil (w : World) (B : Nat) (A : Option Addr) : Rv w B A [] := fun h => absurd rfl h
theorem Rv.of_own {w : World} {base : Nat} {e : TypeId} {A : Option Addr} {c n : Nat} {vs : List Value} (h : w.ownsRow base e 1 (.slice A n c) n vs) : Rv w w.heap.size A vs := by
  intro hx
  have hl := h.1
  have hpos : 0 < vs.length := List.length_pos_iff.2 hx
  rcases h.2 with ⟨_, h0⟩ | ⟨g, cap, cur, hv, _, hh, _⟩
  · omega
  · have hA : A = some ⟨g, 0, none⟩ := by injection hv
    subst hA
    refine ⟨g, 0, rfl, ?_, fun k v hk => ?_⟩
    · rcases Nat.lt_or_ge g w.heap.size with hlt | hge
      · exact hlt
      · rw [Array.getElem?_eq_none hge] at hh; cases hh
    · have hc := h.cells (g := g) rfl k _ hk
      rw [Nat.zero_add]
      unfold Addr.add at hc
      split at hc
      · next h0 => subst h0; exact hc
      · simpa using hc
theorem Rv.setCell {w : World} {B : Nat} {A : Option Addr} {vs : List Value} (h : Rv w B A vs) {p : Addr} (hp : B ≤ p.block) (u : Value) : Rv (w.setCell p u) B A vs :=
  h.keep fun q hq => World.cell?_setCell_other w p q u (fun e => by subst e; omega)
end Go.Proofs.Ytllcmjdfgbiijaa
namespace Go.Proofs.Ytllcmjdfgbiijaa
open Go.RowKit
set_option maxRecDepth 100000
/-- A literal row is the call's own. -/
theorem owns_litv (w : World) (base : Nat) (e : TypeId) (vs : List Value) (hb : base ≤ w.heap.size) (hl : vs.length ≤ maxLen) :
    (w.alloc (.cells vs.toArray e)).ownsRow base e 1 (.slice (some ⟨w.heap.size, 0, none⟩) vs.length vs.length) vs.length vs :=
  ⟨by simp, .inr ⟨w.heap.size, vs.length, vs.toArray, rfl, hb, heap_alloc_new w _, Nat.le_refl _, hl, by simp, by simp⟩⟩
theorem made7 (w : World) (base : Nat) (hb : base ≤ w.heap.size) (e : TypeId) : (w.alloc (.cells #[] e)).ownsRow base e 1 (.slice (some ⟨w.heap.size, 0, none⟩) 0 0) 0 [] := owns_litv w base e [] hb (by simp)
theorem own7_keep {w w' : World} {base : Nat} {e : TypeId} {v : Value} {n : Nat} {xs : List Value} (h : w.ownsRow base e 1 v n xs) (hb : Below w.heap.size w w') : w'.ownsRow base e 1 v n xs := by
  have hlt := h.lt
  obtain ⟨h1, h2⟩ := h
  refine ⟨h1, ?_⟩
  rcases h2 with h2 | ⟨g, cap, cur, rfl, hg, hh, r⟩
  · exact .inl h2
  · exact .inr ⟨g, cap, cur, rfl, hg, by rw [hb.block g (hlt g rfl).2]; exact hh, r⟩
theorem own7_ne {w : World} {base : Nat} {e t : TypeId} {v : Value} {n g : Nat} {xs : List Value} {cs : Array Value} (h : w.ownsRow base e 1 v n xs) (hb : Blk w g t cs) (hne : t ≠ e) : v.ownBlock ≠ some g := by
  intro e'
  rcases h.2 with ⟨rfl, _⟩ | ⟨g', cap, cur, rfl, _, hh, _⟩
  · cases e'
  · injection e' with e'
    subst e'
    rw [show w.heap[g']? = _ from hb] at hh
    cases hh
    exact hne rfl
theorem own7_far {w w' : World} {base : Nat} {e : TypeId} {v : Value} {n : Nat} {xs : List Value} {row : Option Nat} (h : w.ownsRow base e 1 v n xs) (hg : w.grownBy w' row) (hne : v.ownBlock ≠ row) : w'.ownsRow base e 1 v n xs := h.kept hg (.inr hne)
theorem own7_none {w w' : World} {base : Nat} {e : TypeId} {v : Value} {n : Nat} {xs : List Value} (h : w.ownsRow base e 1 v n xs) (hg : w.grownBy w' none) : w'.ownsRow base e 1 v n xs := h.kept hg (by cases v.ownBlock <;> simp)
theorem own7_base {w : World} {base base' : Nat} {e : TypeId} {v : Value} {n : Nat} {xs : List Value} (h : w.ownsRow base e 1 v n xs) (hb : base' ≤ base) : w.ownsRow base' e 1 v n xs :=
  ⟨h.1, h.2.imp id (fun ⟨g, cap, cur, h1, h2, r⟩ => ⟨g, cap, cur, h1, Nat.le_trans hb h2, r⟩)⟩
section
variable {P : Program} (w : World)
/-- append onto a row of the call's own; what is appended may be nil, empty or not. -/
theorem run_append_rv (base : Nat) (t ty e : TypeId) (z : Value) (bt : Nat) (ht : P.underlying t = some (.slice e)) (hinfo : (P.info? e).map (fun i => (i.zero, i.size, i.bytes)) = some (some z, 1, bt)) (hz1 : z.cells.size = 1) (hbt : bt ≤ 1000)
    (v : Value) (n : Nat) (vs : List Value) (hown : w.ownsRow base e 1 v n vs) (B : Nat) (A : Option Addr) (ys : List Value) (c : Nat) (hr : Rv w B A ys) (h1 : ∀ u ∈ ys, u.oneCell' = true)
    (hb : n + ys.length ≤ 100000000) (hbase : base ≤ w.heap.size) :
    ∃ v' w', (Builtin.append_ #[t, t] ty #[v, .slice A ys.length c]).run P w = .ok v' w' ∧ w'.ownsRow base e 1 v' (n + ys.length) (vs ++ ys) ∧ w.grownBy w' v.ownBlock ∧
      (v'.ownBlock = v.ownBlock ∨ v'.ownBlock = some w.heap.size) := by
  obtain ⟨i, hi, hz, hsz, hby⟩ := info_parts hinfo
  cases A with
  | none =>
    obtain rfl : ys = [] := by
      rcases ys with _ | ⟨y, r⟩
      · rfl
      · obtain ⟨_, _, h, _⟩ := hr (by simp)
        cases h
    refine ⟨v, w, ?_, by simpa using hown, World.grownBy.refl w _, .inl rfl⟩
    rcases hown.2 with ⟨rfl, rfl⟩ | ⟨g, cap, cur, rfl, _, _, hnc, _⟩
    · simp [Builtin.append_, run_underlying ht, sizeOf, typeInfo, hi, Builtin.lenOf, Builtin.firstCells]
    · simp [Builtin.append_, run_underlying ht, sizeOf, typeInfo, hi, Builtin.lenOf, Builtin.firstCells, hnc, storeCells]
  | some ad =>
    have hcells : ∀ j u, ys[j]? = some u → w.cell? (ad.add j) = some u := by
      intro j u hu
      obtain ⟨b, o, h1, _, h2⟩ := hr.at_ hu
      injection h1 with h1
      subst h1
      rw [← h2]
      unfold Addr.add
      split
      · next h0 => subst h0; rfl
      · rfl
    have hmul : (n + ys.length) * bt ≤ 100000000 * 1000 := Nat.mul_le_mul hb hbt
    obtain ⟨v', w', hrun, h2, h3, _, h5⟩ := run_append_own_at (P := P) w base t ty e i z 1 bt ht hi hz hsz hby hz1 (by decide) v n vs hown ad ys.length c ys
      (by simp) hcells h1 (by unfold maxLen; omega) (by omega) hbase
    exact ⟨v', w', hrun, h2, h3, h5⟩
theorem wpList_append_rv {ops : Array Oper} {rest : List Oper} {o : Oper} {a : Act} {Q : Exit → Act → World → Prop} (hgd : o.guard = none) (s x : Operand) (t : TypeId)
    (ho : o.op = .call { callee := .builtin .append, args := #[s, x], argTypes := #[t, t] })
    (base : Nat) (e : TypeId) (z : Value) (bt : Nat) (ht : P.underlying t = some (.slice e)) (hinfo : (P.info? e).map (fun i => (i.zero, i.size, i.bytes)) = some (some z, 1, bt)) (hz1 : z.cells.size = 1) (hbt : bt ≤ 1000)
    (v : Value) (n : Nat) (vs : List Value) (hs : a.eval s = v) (hown : w.ownsRow base e 1 v n vs) (B : Nat) (A : Option Addr) (m : Nat) (ys : List Value) (c : Nat) (hm : ys.length = m)
    (hx : a.eval x = .slice A m c) (hr : Rv w B A ys) (h1 : ∀ u ∈ ys, u.oneCell' = true) (hb : n + m ≤ 100000000) (hbase : base ≤ w.heap.size)
    (h : ∀ A' c' w', n + m ≤ c' → Hid (w'.ownsRow base e 1 (.slice A' (n + m) c') (n + m) (vs ++ ys)) → w.grownBy w' v.ownBlock → ((Value.slice A' (n + m) c').ownBlock = v.ownBlock ∨ (Value.slice A' (n + m) c').ownBlock = some w.heap.size) → wpList P ops Q rest (a.put o.dst (.slice A' (n + m) c')) w') :
    wpList P ops Q (o :: rest) a w := by
  subst hm
  refine wpList_plain hgd fun K hK => ?_
  obtain ⟨v', w', hrun, h2, h3, h4⟩ := run_append_rv (P := P) w base t o.type e z bt ht hinfo hz1 hbt v n vs hown B A ys c hr h1 hb hbase
  unfold Oper.wp execOp
  simp only [ho, resolve, invoke, builtin, Sem.run_bind, Sem.run_pure, Result.andThen_ok, List.map_toArray, List.map_cons, List.map_nil, hs, hx, hrun]
  obtain ⟨A', c', rfl, hc'⟩ := ownsRow_form w' h2
  exact hK _ _ (h A' c' w' hc' h2 h3 h4)
end
end Go.Proofs.Ytllcmjdfgbiijaa
namespace Go.Proofs.Ytllcmjdfgbiijaa
open Go.RowKit
theorem below_drewN {w : World} (n : Nat) : Below w.heap.size w (w.drewN n) := ⟨rfl, rfl, rfl, Nat.le_refl _, fun _ _ => rfl⟩
def fb (n : Nat) : Bool := decide (n < 18446744073709551616)
end Go.Proofs.Ytllcmjdfgbiijaa
namespace Go.Proofs.Ytllcmjdfgbiijaa
open Go.RowKit
/-- The operation at a place, written out: 'rfl' for 'ops[i]? = some _' leaves '#[..][i]', and the state then grows twofold at each step. -/
theorem op_of {ops : Array Oper} {i : Nat} {oi : Oper} (h : ops.toList[i]? = some oi) : ops[i]? = some oi := by rw [← Array.getElem?_toList]; exact h
/-- An operation that its guard passes over leaves nothing in its temporary. -/
theorem take_skip {P : Program} {md : Region.Mode} {ops : Array Oper} {Q : Exit → Act → World → Prop} {S : World → Prop} {i : Nat} {oi : Oper} {fuel : Nat} {listed : Array Bool} {a : Act} {w : World} (hi : ops[i]? = some oi)
    (hs : Region.noSelect ops = true) (hf : Region.free md ops listed i = true) (hr : (Region.ready md ops listed).contains i = true)
    (hQ : ∀ c a w, Q (.panic c) (a.put oi.dst undef) w → Q (.panic c) a w) (hw : Region.wanted oi (yielded ops a.tmps) = false) (hS : S w)
    (h : wpAnyH P md ops Q S fuel (listed.setIfInBounds i true) (a.put oi.dst undef) w) : wpAnyH P md ops Q S (fuel + 1) listed a w :=
  wpAnyH_take hi hs hf hr hQ (Or.inr ⟨hw, rfl⟩) hS h
end Go.Proofs.Ytllcmjdfgbiijaa
namespace Go.Proofs.Ytllcmjdfgbiijaa
open Go.RowKit
set_option maxRecDepth 100000
theorem own12_keep2 {w w' : World} {base : Nat} {e : TypeId} {s : Nat} {v : Value} {n : Nat} {xs : List Value} (h : w.ownsRow base e s v n xs) (hb : Below w.heap.size w w') : w'.ownsRow base e s v n xs := by
  have hlt := h.lt
  obtain ⟨h1, h2⟩ := h
  refine ⟨h1, ?_⟩
  rcases h2 with h2 | ⟨g, cap, cur, rfl, hg, hh, r⟩
  · exact .inl h2
  · exact .inr ⟨g, cap, cur, rfl, hg, by rw [hb.block g (hlt g rfl).2]; exact hh, r⟩
end Go.Proofs.Ytllcmjdfgbiijaa
namespace Go.Proofs.Ytllcmjdfgbiijaa
open Go.RowKit
set_option maxRecDepth 100000
/-- A ticket. -/
structure Tk14 where
  u : Bool
  c : Int
  a : Int
  k : Int
  t : Int
  o : Bool
/-- A thread. -/
structure Th14 where
  s : Int
  f : Int
  c : Int
  q : Int
  u : Int
/-- A lock. -/
structure Lk14 where
  u : Bool
  h : Int
instance : DecidableEq Tk14 := fun x y => decidable_of_iff (x.u = y.u ∧ x.c = y.c ∧ x.a = y.a ∧ x.k = y.k ∧ x.t = y.t ∧ x.o = y.o) (by cases x; cases y; simp)
instance : DecidableEq Th14 := fun x y => decidable_of_iff (x.s = y.s ∧ x.f = y.f ∧ x.c = y.c ∧ x.q = y.q ∧ x.u = y.u) (by cases x; cases y; simp)
instance : DecidableEq Lk14 := fun x y => decidable_of_iff (x.u = y.u ∧ x.h = y.h) (by cases x; cases y; simp)
instance : Inhabited Tk14 := ⟨⟨false, 0, 0, 0, 0, false⟩⟩
instance : Inhabited Th14 := ⟨⟨0, 0, 0, 0, 0⟩⟩
instance : Inhabited Lk14 := ⟨⟨false, 0⟩⟩
/-- The cells of each. -/
def clC (b : Bool) : List Value := [.bool b]
def clT (x : Tk14) : List Value := [.bool x.u, .int .i64 x.c, .int .i64 x.a, .int .i64 x.k, .int .i64 x.t, .bool x.o]
def clH (x : Th14) : List Value := [.int .i64 x.s, .int .i64 x.f, .int .i64 x.c, .int .i64 x.q, .int .i64 x.u]
def clL (x : Lk14) : List Value := [.bool x.u, .int .i64 x.h]
def clI (x : Int) : List Value := [.int .i64 x]
/-- Which are used. -/
def usC (b : Bool) : Bool := b
def usT (x : Tk14) : Bool := x.u
def usH (x : Th14) : Bool := !decide (x.s = 0)
def usL (x : Lk14) : Bool := x.u
theorem clC_one (x : Bool) : ∀ v ∈ clC x, v.oneCell' = true := by simp [clC, Value.oneCell']
theorem clT_one (x : Tk14) : ∀ v ∈ clT x, v.oneCell' = true := by simp [clT, Value.oneCell']
theorem clH_one (x : Th14) : ∀ v ∈ clH x, v.oneCell' = true := by simp [clH, Value.oneCell']
theorem clL_one (x : Lk14) : ∀ v ∈ clL x, v.oneCell' = true := by simp [clL, Value.oneCell']
theorem clI_one (x : Int) : ∀ v ∈ clI x, v.oneCell' = true := by simp [clI, Value.oneCell']
section
variable {α : Type}
/-- The cells of a list. -/
def fl14 (cl : α → List Value) (xs : List α) : List Value := xs.flatMap cl
theorem fl14_len {cl : α → List Value} {k : Nat} (hk : ∀ x, (cl x).length = k) (xs : List α) : (fl14 cl xs).length = xs.length * k := by
  induction xs with
  | nil => simp [fl14]
  | cons x r ih =>
    have : fl14 cl (x :: r) = cl x ++ fl14 cl r := by simp [fl14]
    rw [this, List.length_append, hk, ih, List.length_cons, Nat.succ_mul]
    omega
theorem fl14_one {cl : α → List Value} (h1 : ∀ x, ∀ v ∈ cl x, v.oneCell' = true) (xs : List α) : ∀ v ∈ fl14 cl xs, v.oneCell' = true := by
  intro v hv
  obtain ⟨x, _, hx⟩ := List.mem_flatMap.1 hv
  exact h1 x v hx
theorem fl14_take {cl : α → List Value} {k : Nat} (hk : ∀ x, (cl x).length = k) (xs : List α) (m : Nat) : (fl14 cl xs).take (m * k) = fl14 cl (xs.take m) := by
  induction xs generalizing m with
  | nil => simp [fl14]
  | cons x r ih =>
    have e : fl14 cl (x :: r) = cl x ++ fl14 cl r := by simp [fl14]
    cases m with
    | zero => simp [fl14]
    | succ m =>
      have e2 : fl14 cl ((x :: r).take (m + 1)) = cl x ++ fl14 cl (r.take m) := by simp [fl14]
      rw [e, e2, List.take_append, hk, show (m + 1) * k - k = m * k by rw [Nat.succ_mul]; omega, ih, List.take_of_length_le (by rw [hk, Nat.succ_mul]; omega)]
/-- The slice at A reads as those elements; every cell lies below block B. -/
def Lq (cl : α → List Value) (w : World) (B : Nat) (A : Option Addr) (xs : List α) : Prop := Rv w B A (fl14 cl xs)
theorem Lq.step {cl : α → List Value} {w w' : World} {A : Option Addr} {xs : List α} (h : Lq cl w w.heap.size A xs) (hb : Below w.heap.size w w') : Lq cl w' w'.heap.size A xs := Rv.step h hb
theorem Lq.below {cl : α → List Value} {w w' : World} {B C : Nat} {A : Option Addr} {xs : List α} (h : Lq cl w B A xs) (hb : Below C w w') (hB : B ≤ C) : Lq cl w' B A xs := Rv.below h hb hB
theorem Lq.more {cl : α → List Value} {w : World} {B B' : Nat} {A : Option Addr} {xs : List α} (h : Lq cl w B A xs) (hB : B ≤ B') : Lq cl w B' A xs := Rv.more h hB
theorem Lq.nil (cl : α → List Value) (w : World) (B : Nat) (A : Option Addr) : Lq cl w B A [] := Rv.nil w B A
theorem Lq.take {cl : α → List Value} {k : Nat} (hk : ∀ x, (cl x).length = k) {w : World} {B : Nat} {A : Option Addr} {xs : List α} (h : Lq cl w B A xs) (m : Nat) : Lq cl w B A (xs.take m) := by
  intro hx
  obtain ⟨b, o, h1, h2, h3⟩ := h (by rintro e; rw [← fl14_take hk, e] at hx; simp at hx)
  refine ⟨b, o, h1, h2, fun i v hv => h3 i v ?_⟩
  rw [← fl14_take hk] at hv
  obtain ⟨hi, hv2⟩ := List.getElem?_eq_some_iff.1 hv
  rw [List.length_take] at hi
  rw [← hv, List.getElem?_take_of_lt (by omega)]
/-- What the call owns reads. -/
theorem Lq.of_own {cl : α → List Value} {k : Nat} {w : World} {base : Nat} {e : TypeId} {A : Option Addr} {c n : Nat} {xs : List α} (h0 : 0 < k) (h : w.ownsRow base e k (.slice A n c) n (fl14 cl xs)) : Lq cl w w.heap.size A xs := by
  intro hx
  have hl := h.1
  have hpos : 0 < (fl14 cl xs).length := List.length_pos_iff.2 hx
  rcases h.2 with ⟨_, h1⟩ | ⟨g, cap, cur, hv, _, hh, _⟩
  · subst h1
    rw [hl, Nat.zero_mul] at hpos
    omega
  · have hA : A = some ⟨g, 0, none⟩ := by injection hv
    subst hA
    refine ⟨g, 0, rfl, (h.lt g rfl).2, fun i v hk => ?_⟩
    have hc := h.cells (g := g) rfl i _ hk
    rw [Go.WideShapes.add_plain] at hc
    exact hc
end
section
variable {α : Type} [Inhabited α]
/-- The element at a place: the zero one behind the end. -/
def gt14 (xs : List α) (j : Nat) : α := xs.getD j default
theorem gt14_in {xs : List α} {j : Nat} (h : j < xs.length) : gt14 xs j = xs[j] := by simp [gt14, List.getElem?_eq_getElem h]
theorem gt14_out {xs : List α} {j : Nat} (h : xs.length ≤ j) : gt14 xs j = default := by simp [gt14, List.getElem?_eq_none h]
theorem gt14_mem {xs : List α} {j : Nat} (h : j < xs.length) : gt14 xs j ∈ xs := by rw [gt14_in h]; exact List.getElem_mem h
/-- Where a list of n ends, without those at its end that are not used. -/
def en14 (us : α → Bool) (xs : List α) : Nat → Nat
  | 0 => 0
  | n + 1 => if us (gt14 xs n) = true then n + 1 else en14 us xs n
theorem en14_le (us : α → Bool) (xs : List α) (n : Nat) : en14 us xs n ≤ n := by
  induction n with
  | zero => exact Nat.le_refl _
  | succ n ih => rw [en14]; split <;> omega
theorem en14_yes {us : α → Bool} {xs : List α} {n : Nat} (h : us (gt14 xs n) = true) : en14 us xs (n + 1) = n + 1 := by rw [en14, if_pos h]
theorem en14_no {us : α → Bool} {xs : List α} {n : Nat} (h : us (gt14 xs n) = false) : en14 us xs (n + 1) = en14 us xs n := by rw [en14, if_neg (by rw [h]; decide)]
theorem en14_full {us : α → Bool} {xs : List α} {n : Nat} : en14 us xs n = n ↔ n = 0 ∨ us (gt14 xs (n - 1)) = true := by
  cases n with
  | zero => simp [en14]
  | succ n =>
    rw [Nat.add_sub_cancel]
    cases h : us (gt14 xs n) with
    | true => rw [en14_yes h]; simp
    | false =>
      rw [en14_no h]
      have := en14_le us xs n
      constructor
      · intro e; omega
      · rintro (e | e) <;> cases e
/-- Is the place of a number used? -/
def us14 (us : α → Bool) (xs : List α) (i : Int) : Bool := decide (0 ≤ i) && us (gt14 xs i.toNat)
/-- What stands there, if it is. -/
def at14 (us : α → Bool) (xs : List α) (i : Int) : α := if us14 us xs i = true then gt14 xs i.toNat else default
theorem fl14_get {cl : α → List Value} {k : Nat} (hk : ∀ x, (cl x).length = k) {xs : List α} {j i : Nat} (hj : j < xs.length) (hi : i < k) : (fl14 cl xs)[j * k + i]? = (cl (gt14 xs j))[i]? := by
  induction xs generalizing j with
  | nil => simp at hj
  | cons x r ih =>
    have e : fl14 cl (x :: r) = cl x ++ fl14 cl r := by simp [fl14]
    rw [e]
    cases j with
    | zero =>
      rw [Nat.zero_mul, Nat.zero_add, List.getElem?_append_left (by rw [hk]; exact hi)]
      rfl
    | succ j =>
      rw [List.getElem?_append_right (by rw [hk, Nat.succ_mul]; omega), hk, show (j + 1) * k + i - k = j * k + i by rw [Nat.succ_mul]; omega, ih (by simpa using hj)]
      rfl
theorem Lq.at_ {cl : α → List Value} {k : Nat} (hk : ∀ x, (cl x).length = k) (h0 : 0 < k) {w : World} {B : Nat} {A : Option Addr} {xs : List α} {j : Nat} (h : Lq cl w B A xs) (hj : j < xs.length) :
    ∃ b o, A = some ⟨b, o, none⟩ ∧ b < B ∧ ∀ i v, (cl (gt14 xs j))[i]? = some v → w.cell? ⟨b, o + j * k + i, none⟩ = some v := by
  obtain ⟨b, o, h1, h2, h3⟩ := h (by
    intro e
    have := fl14_len hk xs
    rw [e, List.length_nil] at this
    have : 0 < xs.length * k := Nat.mul_pos (by omega) h0
    omega)
  refine ⟨b, o, h1, h2, fun i v hv => ?_⟩
  have hi : i < k := by
    have := (List.getElem?_eq_some_iff.1 hv).1
    rwa [hk] at this
  rw [Nat.add_assoc]
  exact h3 _ v (by rw [fl14_get hk hj hi]; exact hv)
end
theorem own14_cap {w : World} {base : Nat} {e : TypeId} {k : Nat} {A : Option Addr} {c n : Nat} {vs : List Value} (h : w.ownsRow base e k (.slice A n c) n vs) : n ≤ c := by
  rcases h.2 with ⟨_, h0⟩ | ⟨g, cap, cur, hv, _, _, hnc, _⟩
  · omega
  · injection hv with _ _ hc
    omega
/-- An empty row is the call's own. -/
theorem owns14_nil (w : World) (base : Nat) (hb : base ≤ w.heap.size) (e : TypeId) (k : Nat) : (w.alloc (.cells #[] e)).ownsRow base e k (.slice (some ⟨w.heap.size, 0, none⟩) 0 0) 0 [] :=
  ⟨by simp, .inr ⟨w.heap.size, 0, #[], rfl, hb, heap_alloc_new w _, Nat.le_refl _, by simp, by simp, by simp⟩⟩
section
variable {P : Program} (w : World)
/-- append onto a row of the call's own, of elements of any size; what is appended may be nil, empty or not. -/
theorem run_append_14 (base : Nat) (t ty e : TypeId) (z : Value) (k bt : Nat) (ht : P.underlying t = some (.slice e)) (hinfo : (P.info? e).map (fun i => (i.zero, i.size, i.bytes)) = some (some z, k, bt)) (hz1 : z.cells.size = k) (hk0 : 0 < k) (hbt : bt ≤ 1000)
    (v : Value) (n : Nat) (vs : List Value) (hown : w.ownsRow base e k v n vs) (B : Nat) (A : Option Addr) (ys : List Value) (m c : Nat) (hm : ys.length = m * k) (hr : Rv w B A ys) (h1 : ∀ u ∈ ys, u.oneCell' = true)
    (hb : n + m ≤ 1000000) (hbase : base ≤ w.heap.size) :
    ∃ A' c' w', (Builtin.append_ #[t, t] ty #[v, .slice A m c]).run P w = .ok (.slice A' (n + m) c') w' ∧ w'.ownsRow base e k (.slice A' (n + m) c') (n + m) (vs ++ ys) ∧ w.grownBy w' v.ownBlock := by
  suffices H : ∃ v' w', (Builtin.append_ #[t, t] ty #[v, .slice A m c]).run P w = .ok v' w' ∧ w'.ownsRow base e k v' (n + m) (vs ++ ys) ∧ w.grownBy w' v.ownBlock by
    obtain ⟨v', w', h1, h2, h3⟩ := H
    rcases h2.2 with ⟨rfl, h0⟩ | ⟨g, cap, cur, rfl, _⟩
    · rw [h0] at h2 ⊢
      exact ⟨none, 0, w', h1, h2, h3⟩
    · exact ⟨_, cap, w', h1, h2, h3⟩
  obtain ⟨i, hi, hz, hsz, hby⟩ := info_parts hinfo
  cases A with
  | none =>
    obtain rfl : ys = [] := by
      rcases ys with _ | ⟨y, r⟩
      · rfl
      · obtain ⟨_, _, h, _⟩ := hr (by simp)
        cases h
    obtain rfl : m = 0 := by
      rw [List.length_nil] at hm
      rcases Nat.eq_zero_or_pos m with h | h
      · exact h
      · have := Nat.mul_pos h hk0
        omega
    refine ⟨v, w, ?_, by simpa using hown, World.grownBy.refl w _⟩
    rcases hown.2 with ⟨rfl, rfl⟩ | ⟨g, cap, cur, rfl, _, _, hnc, _⟩
    · simp [Builtin.append_, run_underlying ht, sizeOf, typeInfo, hi, Builtin.lenOf, Builtin.firstCells]
    · simp [Builtin.append_, run_underlying ht, sizeOf, typeInfo, hi, Builtin.lenOf, Builtin.firstCells, hnc, storeCells]
  | some ad =>
    have hcells : ∀ j u, ys[j]? = some u → w.cell? (ad.add j) = some u := by
      intro j u hu
      obtain ⟨b, o, h1, _, h2⟩ := hr.at_ hu
      injection h1 with h1
      subst h1
      rw [← h2, Addr.add_lit]
    have hmul : (n + m) * bt ≤ 1000000 * 1000 := Nat.mul_le_mul hb hbt
    obtain ⟨v', w', hrun, h2, h3, _, _⟩ := run_append_own_at (P := P) w base t ty e i z k bt ht hi hz hsz hby hz1 hk0 v n vs hown ad m c ys hm hcells h1 (by unfold maxLen; omega) (by omega) hbase
    exact ⟨v', w', hrun, h2, h3⟩
/-- An append whose run is known. -/
theorem wpList_append_14 {ops : Array Oper} {rest : List Oper} {o : Oper} {a : Act} {Q : Exit → Act → World → Prop} (hgd : o.guard = none) (s x : Operand) (t : TypeId)
    (ho : o.op = .call { callee := .builtin .append, args := #[s, x], argTypes := #[t, t] }) (v y r : Value) (w' : World) (hs : a.eval s = v) (hx : a.eval x = y)
    (hrun : (Builtin.append_ #[t, t] o.type #[v, y]).run P w = .ok r w') (h : wpList P ops Q rest (a.put o.dst r) w') :
    wpList P ops Q (o :: rest) a w := by
  refine wpList_plain hgd fun K hK => ?_
  unfold Oper.wp execOp
  simp only [ho, resolve, invoke, builtin, Sem.run_bind, Sem.run_pure, Result.andThen_ok, List.map_toArray, List.map_cons, List.map_nil, hs, hx, hrun]
  exact hK _ _ h
end
end Go.Proofs.Ytllcmjdfgbiijaa
namespace Go.Proofs.Ytllcmjdfgbiijaa
open Go.RowKit
set_option maxRecDepth 100000
theorem info14C : (Try.prog.info? 4).map (fun i => (i.zero, i.size, i.bytes)) = some (some (.bool false), 1, 1) := by kernel_rfl
theorem len14C (x : Bool) : (clC x).length = 1 := rfl
set_option maxHeartbeats 1000000 in
theorem used14C (xu : Bool) (b : Bool) (hb : usC xu = b) (w : World) :
    Calls Try.prog 59 #[.bool xu] w fun e w' => e = .returned (.bool b) ∧ Below w.heap.size w w' := by
  subst hb
  go_enter Try.func59, Try.ntmps59
  go_wp2_with fail
  go_ret
  exact ⟨rfl, Below.refl _ _⟩
end Go.Proofs.Ytllcmjdfgbiijaa
namespace Go.Proofs.Ytllcmjdfgbiijaa
/-- Those of the arrows that have a part, between n numbers. -/
def cut13 (n : Nat) : List (Int × Int) → List (Nat × Nat)
  | [] => []
  | p :: r => if 0 ≤ p.1 ∧ p.1 < (n : Int) ∧ 0 ≤ p.2 ∧ p.2 < (n : Int) then (p.1.toNat, p.2.toNat) :: cut13 n r else cut13 n r
theorem cut13_append (n : Nat) (l m : List (Int × Int)) : cut13 n (l ++ m) = cut13 n l ++ cut13 n m := by
  induction l with
  | nil => rfl
  | cons p r ih =>
    simp only [List.cons_append, cut13, ih]
    split <;> rfl
theorem cut13_mem {n : Nat} {l : List (Int × Int)} {a b : Nat} : (a, b) ∈ cut13 n l ↔ ((a : Int), (b : Int)) ∈ l ∧ a < n ∧ b < n := by
  induction l with
  | nil => simp [cut13]
  | cons p r ih =>
    obtain ⟨x, y⟩ := p
    simp only [cut13]
    split
    · next h =>
      obtain ⟨h1, h2, h3, h4⟩ : 0 ≤ x ∧ x < (n : Int) ∧ 0 ≤ y ∧ y < (n : Int) := h
      rw [List.mem_cons, List.mem_cons, ih]
      constructor
      · rintro (h | h)
        · injection h with h5 h6
          refine ⟨.inl ?_, by omega, by omega⟩
          rw [show (a : Int) = x by omega, show (b : Int) = y by omega]
        · exact ⟨.inr h.1, h.2⟩
      · rintro ⟨h | h, h5⟩
        · injection h with h6 h7
          left
          rw [show a = x.toNat by omega, show b = y.toNat by omega]
        · exact .inr ⟨h, h5⟩
    · next h =>
      rw [List.mem_cons, ih]
      constructor
      · rintro ⟨h1, h2⟩
        exact ⟨.inr h1, h2⟩
      · rintro ⟨h1 | h1, h2⟩
        · injection h1 with h6 h7
          exact absurd ⟨by show 0 ≤ x; omega, by show x < (n : Int); omega, by show 0 ≤ y; omega, by show y < (n : Int); omega⟩ h
        · exact ⟨h1, h2⟩
theorem cut13_lt {n : Nat} {l : List (Int × Int)} {p : Nat × Nat} (h : p ∈ cut13 n l) : p.1 < n ∧ p.2 < n := by
  obtain ⟨a, b⟩ := p
  exact (cut13_mem.1 h).2
theorem cut13_len (n : Nat) (l : List (Int × Int)) : (cut13 n l).length ≤ l.length := by
  induction l with
  | nil => exact Nat.le_refl _
  | cons p r ih =>
    simp only [cut13]
    split <;> simp <;> omega
/-- All arrows lie between n numbers. -/
def In13 (A : List (Nat × Nat)) (n : Nat) : Prop := ∀ p, p ∈ A → p.1 < n ∧ p.2 < n
/-- Where the arrows of k lead. -/
def outs (A : List (Nat × Nat)) (k : Nat) : List Nat := (A.filter (fun p => p.1 == k)).map (·.2)
theorem outs_mem {A : List (Nat × Nat)} {k j : Nat} : j ∈ outs A k ↔ (k, j) ∈ A := by
  unfold outs
  rw [List.mem_map]
  constructor
  · rintro ⟨⟨a, b⟩, h, rfl⟩
    rw [List.mem_filter] at h
    obtain ⟨h1, h2⟩ := h
    obtain rfl : a = k := by simpa using h2
    exact h1
  · intro h
    exact ⟨(k, j), List.mem_filter.2 ⟨h, by simp⟩, rfl⟩
theorem outs_next (A : List (Nat × Nat)) (a b k : Nat) : outs (A ++ [(a, b)]) k = outs A k ++ if a = k then [b] else [] := by
  unfold outs
  rw [List.filter_append, List.map_append]
  congr 1
  by_cases h : a = k <;> simp [h]
theorem outs_len (A : List (Nat × Nat)) (k : Nat) : (outs A k).length ≤ A.length := by
  unfold outs
  rw [List.length_map]
  exact List.length_filter_le _ _
/-- How many arrows lead to j that come from none of those. -/
def rem13 (A : List (Nat × Nat)) (os : List Nat) (j : Nat) : Nat := A.countP (fun p => p.2 == j && !(os.contains p.1))
theorem rem13_next (A : List (Nat × Nat)) (a b j : Nat) : rem13 (A ++ [(a, b)]) [] j = rem13 A [] j + if b = j then 1 else 0 := by
  unfold rem13
  rw [List.countP_append]
  congr 1
  by_cases h : b = j <;> simp [h]
theorem rem13_le (A : List (Nat × Nat)) (os : List Nat) (j : Nat) : rem13 A os j ≤ A.length := List.countP_le_length
theorem rem13_zero {A : List (Nat × Nat)} {os : List Nat} {j : Nat} : rem13 A os j = 0 ↔ ∀ f, (f, j) ∈ A → f ∈ os := by
  unfold rem13
  rw [List.countP_eq_zero]
  constructor
  · intro h f hf
    have := h (f, j) hf
    simpa using this
  · rintro h ⟨a, b⟩ hp
    by_cases hb : b = j
    · subst hb
      have := h a hp
      simp [this]
    · simp [hb]
theorem rem13_told {A : List (Nat × Nat)} {os : List Nat} {i j : Nat} (hi : i ∉ os) : rem13 A os j = rem13 A (os ++ [i]) j + (outs A i).countP (fun x => x == j) := by
  unfold rem13 outs
  induction A with
  | nil => rfl
  | cons p r ih =>
    obtain ⟨a, b⟩ := p
    by_cases h1 : a = i
    · subst h1
      by_cases h2 : b = j
      · subst h2
        simp [hi] at ih ⊢
        omega
      · simp [h2, hi] at ih ⊢
        omega
    · by_cases h2 : b = j
      · subst h2
        by_cases h3 : a ∈ os
        · simp [h1, h3] at ih ⊢
          omega
        · simp [h1, h3] at ih ⊢
          omega
      · simp [h1, h2] at ih ⊢
        omega
/-- One comes from a to b. -/
inductive Way (A : List (Nat × Nat)) : Nat → Nat → Prop
  | one {a b : Nat} : (a, b) ∈ A → Way A a b
  | step {a b c : Nat} : Way A a b → (b, c) ∈ A → Way A a c
theorem Way.trans {A : List (Nat × Nat)} {a b c : Nat} (h : Way A a b) (k : Way A b c) : Way A a c := by
  induction k with
  | one h1 => exact h.step h1
  | step _ h1 ih => exact ih.step h1
theorem Way.lt {A : List (Nat × Nat)} {n a b : Nat} (hA : In13 A n) (h : Way A a b) : a < n ∧ b < n := by
  induction h with
  | one h1 => exact hA _ h1
  | step _ h1 ih => exact ⟨ih.1, (hA _ h1).2⟩
theorem Way.mono {A B : List (Nat × Nat)} (hAB : ∀ p, p ∈ A → p ∈ B) {a b : Nat} (h : Way A a b) : Way B a b := by
  induction h with
  | one h1 => exact .one (hAB _ h1)
  | step _ h1 ih => exact ih.step (hAB _ h1)
open Classical in
/-- Does one come from a to b? -/
noncomputable def wayb (A : List (Nat × Nat)) (a b : Nat) : Bool := decide (Way A a b)
theorem wayb_yes {A : List (Nat × Nat)} {a b : Nat} : wayb A a b = true ↔ Way A a b := by
  unfold wayb
  exact @decide_eq_true_iff _ (Classical.propDecidable _)
/-- There is a ring. -/
def Rng13 (A : List (Nat × Nat)) : Prop := ∃ i, Way A i i
theorem mark13 {A : List (Nat × Nat)} {a : Nat} {m : Nat → Bool} (hs : ∀ x, m x = true → Way A a x) (hc : ∀ x y, (x = a ∨ m x = true) → (x, y) ∈ A → m y = true) : ∀ y, m y = wayb A a y := by
  have h1 : ∀ y, Way A a y → m y = true := by
    intro y h
    induction h with
    | one h1 => exact hc _ _ (.inl rfl) h1
    | step _ h1 ih => exact hc _ _ (.inr ih) h1
  intro y
  rw [Bool.eq_iff_iff, wayb_yes]
  exact ⟨hs y, h1 y⟩
/-- i is told next to os, as far as arrows are concerned. -/
def Fre13 (A : List (Nat × Nat)) (n : Nat) (os : List Nat) (i : Nat) : Prop := i < n ∧ i ∉ os ∧ ∀ f, (f, i) ∈ A → f ∈ os
/-- The order so far. -/
inductive Told13 (A : List (Nat × Nat)) (n : Nat) : List Nat → Prop
  | nil : Told13 A n []
  | next {os : List Nat} {i : Nat} : Told13 A n os → Fre13 A n os i → (∀ j, j < i → ¬ Fre13 A n os j) → Told13 A n (os ++ [i])
/-- The order, as far as it goes. -/
def Done13 (A : List (Nat × Nat)) (n : Nat) (os : List Nat) : Prop := Told13 A n os ∧ ∀ i, ¬ Fre13 A n os i
theorem Told13.lt {A : List (Nat × Nat)} {n : Nat} {os : List Nat} (h : Told13 A n os) : ∀ i, i ∈ os → i < n := by
  induction h with
  | nil => intro i hi; cases hi
  | next _ h1 _ ih =>
    intro i hi
    rw [List.mem_append, List.mem_singleton] at hi
    rcases hi with hi | rfl
    · exact ih i hi
    · exact h1.1
theorem Told13.nodup {A : List (Nat × Nat)} {n : Nat} {os : List Nat} (h : Told13 A n os) : os.Nodup := by
  induction h with
  | nil => exact List.nodup_nil
  | next _ h1 _ ih =>
    rw [List.nodup_append]
    refine ⟨ih, by simp, ?_⟩
    rintro a ha b hb rfl
    rw [List.mem_singleton] at hb
    subst hb
    exact h1.2.1 ha
/-- A list of unlike numbers below n is no longer than n. -/
theorem nodup13_len : ∀ (n : Nat) (l : List Nat), l.Nodup → (∀ x, x ∈ l → x < n) → l.length ≤ n := by
  intro n
  induction n with
  | zero =>
    intro l _ h
    cases l with
    | nil => exact Nat.le_refl _
    | cons a r => exact absurd (h a (by simp)) (by omega)
  | succ n ih =>
    intro l hd h
    have h1 := ih (l.erase n) (hd.erase n) (fun x hx => by
      have h2 := h x (List.mem_of_mem_erase hx)
      have h3 : x ≠ n := by
        rintro rfl
        exact (List.Nodup.mem_erase_iff hd).1 hx |>.1 rfl
      omega)
    by_cases hn : n ∈ l
    · rw [List.length_erase_of_mem hn] at h1
      omega
    · rw [List.erase_of_not_mem hn] at h1
      omega
theorem Told13.len {A : List (Nat × Nat)} {n : Nat} {os : List Nat} (h : Told13 A n os) : os.length ≤ n := nodup13_len n os h.nodup h.lt
/-- If all n are told, each one is. -/
theorem full13 : ∀ (n : Nat) (l : List Nat), l.Nodup → (∀ x, x ∈ l → x < n) → l.length = n → ∀ i, i < n → i ∈ l := by
  intro n l hd h hl i hi
  refine Classical.byContradiction (fun hn => ?_)
  have := nodup13_len n (l ++ [i]) (by
    rw [List.nodup_append]
    refine ⟨hd, by simp, ?_⟩
    rintro a ha b hb rfl
    rw [List.mem_singleton] at hb
    subst hb
    exact hn ha) (fun x hx => by
    rw [List.mem_append, List.mem_singleton] at hx
    rcases hx with hx | rfl
    · exact h x hx
    · exact hi)
  rw [List.length_append, List.length_singleton] at this
  omega
theorem Told13.snoc {A : List (Nat × Nat)} {n : Nat} {os : List Nat} {i : Nat} (h : Told13 A n (os ++ [i])) : Told13 A n os ∧ Fre13 A n os i ∧ ∀ j, j < i → ¬ Fre13 A n os j := by
  generalize hq : os ++ [i] = q at h
  cases h with
  | nil => simp at hq
  | next h1 h2 h3 =>
    obtain ⟨rfl, h4⟩ := List.append_inj' hq rfl
    injection h4 with h4
    subst h4
    exact ⟨h1, h2, h3⟩
theorem Told13.take {A : List (Nat × Nat)} {n : Nat} {os : List Nat} (h : Told13 A n os) (k : Nat) : Told13 A n (os.take k) := by
  induction h generalizing k with
  | nil => simpa using Told13.nil
  | @next os i h1 h2 h3 ih =>
    rcases Nat.lt_or_ge os.length k with hk | hk
    · rw [List.take_of_length_le (by simp; omega)]
      exact .next h1 h2 h3
    · rw [List.take_append_of_le_length hk]
      exact ih k
theorem least13_same {P : Nat → Prop} {i j : Nat} (hi : P i) (hi2 : ∀ k, k < i → ¬ P k) (hj : P j) (hj2 : ∀ k, k < j → ¬ P k) : i = j := by
  rcases Nat.lt_trichotomy i j with h | h | h
  · exact absurd hi (hj2 i h)
  · exact h
  · exact absurd hj (hi2 j h)
/-- What is told so far stands at the head of the whole. -/
theorem Told13.head {A : List (Nat × Nat)} {n : Nat} {os zs : List Nat} (h : Told13 A n os) (hz : Done13 A n zs) : os = zs.take os.length := by
  induction h with
  | nil => simp
  | @next os i h1 h2 h3 ih =>
    have hl : os.length < zs.length := by
      refine Nat.lt_of_not_le (fun hle => ?_)
      rw [List.take_of_length_le hle] at ih
      subst ih
      exact hz.2 i h2
    have h4 := hz.1.take (os.length + 1)
    rw [List.take_add_one, List.getElem?_eq_getElem hl, ← ih] at h4
    obtain ⟨_, h5, h6⟩ := h4.snoc
    obtain rfl : i = zs[os.length] := least13_same h2 h3 h5 h6
    rw [List.length_append, List.length_singleton, List.take_add_one, List.getElem?_eq_getElem hl, ← ih]
    rfl
theorem Done13.same {A : List (Nat × Nat)} {n : Nat} {os zs : List Nat} (h : Done13 A n os) (hz : Done13 A n zs) : os = zs := by
  have h1 := h.1.head hz
  have h2 := hz.1.head h
  have h3 : os.length ≤ zs.length := by
    have := congrArg List.length h1
    rw [List.length_take] at this
    omega
  have h4 : zs.length ≤ os.length := by
    have := congrArg List.length h2
    rw [List.length_take] at this
    omega
  rw [List.take_of_length_le h4] at h1
  exact h1
/-- A least one, if there is one. -/
theorem least13_ex {P : Nat → Prop} : (∃ i, P i) → ∃ i, P i ∧ ∀ j, j < i → ¬ P j := by
  rintro ⟨i, hi⟩
  induction i using Nat.strongRecOn with
  | ind i ih =>
    rcases Classical.em (∃ j, j < i ∧ P j) with ⟨j, h1, h2⟩ | h
    · exact ih j h1 h2
    · exact ⟨i, hi, fun j hj hp => h ⟨j, hj, hp⟩⟩
theorem done13_ex (A : List (Nat × Nat)) (n : Nat) : ∃ os, Done13 A n os := by
  suffices H : ∀ (k : Nat) (os : List Nat), Told13 A n os → n ≤ os.length + k → ∃ zs, Done13 A n zs from H n [] .nil (by simp)
  intro k
  induction k with
  | zero =>
    intro os h hl
    refine ⟨os, h, fun i hi => ?_⟩
    have h1 := full13 n os h.nodup h.lt (by have := h.len; omega) i hi.1
    exact hi.2.1 h1
  | succ k ih =>
    intro os h hl
    rcases Classical.em (∃ i, Fre13 A n os i) with h1 | h1
    · obtain ⟨i, h2, h3⟩ := least13_ex h1
      exact ih (os ++ [i]) (.next h h2 h3) (by rw [List.length_append, List.length_singleton]; omega)
    · exact ⟨os, h, fun i hi => h1 ⟨i, hi⟩⟩
/-- D is how deep each one lies. -/
structure Dep13 (A : List (Nat × Nat)) (D : Nat → Nat) : Prop where
  up : ∀ f t, (f, t) ∈ A → D f + 1 ≤ D t
  is : ∀ j, D j = 0 ∨ ∃ f, (f, j) ∈ A ∧ D j = D f + 1
theorem max13_ex (D : Nat → Nat) (l : List Nat) : ∃ m, (∀ f, f ∈ l → D f + 1 ≤ m) ∧ (m = 0 ∨ ∃ f, f ∈ l ∧ m = D f + 1) := by
  induction l with
  | nil => exact ⟨0, by simp, .inl rfl⟩
  | cons a r ih =>
    obtain ⟨m, h1, h2⟩ := ih
    rcases Nat.lt_or_ge m (D a + 1) with h | h
    · refine ⟨D a + 1, fun f hf => ?_, .inr ⟨a, by simp, rfl⟩⟩
      rw [List.mem_cons] at hf
      rcases hf with rfl | hf
      · exact Nat.le_refl _
      · have := h1 f hf
        omega
    · refine ⟨m, fun f hf => ?_, ?_⟩
      · rw [List.mem_cons] at hf
        rcases hf with rfl | hf
        · exact h
        · exact h1 f hf
      · rcases h2 with rfl | ⟨f, h3, h4⟩
        · exact .inl rfl
        · exact .inr ⟨f, by simp [h3], h4⟩
theorem Told13.before {A : List (Nat × Nat)} {n : Nat} {os : List Nat} (h : Told13 A n os) : ∀ f t, (f, t) ∈ A → t ∈ os → f ∈ os := by
  induction h with
  | nil => intro f t _ h; cases h
  | @next os i h1 h2 h3 ih =>
    intro f t hft ht
    rw [List.mem_append, List.mem_singleton] at ht ⊢
    rcases ht with ht | rfl
    · exact .inl (ih f t hft ht)
    · exact .inl (h2.2.2 f hft)
theorem Told13.deep {A : List (Nat × Nat)} {n : Nat} {os : List Nat} (h : Told13 A n os) :
    ∃ D : Nat → Nat, (∀ f t, (f, t) ∈ A → t ∈ os → D f + 1 ≤ D t) ∧ (∀ j, D j = 0 ∨ ∃ f, (f, j) ∈ A ∧ D j = D f + 1) ∧ (∀ j, D j ≤ os.length) ∧ (∀ j, j ∉ os → D j = 0) := by
  induction h with
  | nil => exact ⟨fun _ => 0, by simp, fun _ => .inl rfl, fun _ => Nat.zero_le _, fun _ _ => rfl⟩
  | @next os i h1 h2 h3 ih =>
    obtain ⟨D, e1, e2, e3, e4⟩ := ih
    have hpre := h1.before
    obtain ⟨m, m1, m2⟩ := max13_ex D ((A.filter (fun p => p.2 == i)).map (·.1))
    have hm : ∀ f, f ∈ (A.filter (fun p => p.2 == i)).map (·.1) ↔ (f, i) ∈ A := by
      intro f
      rw [List.mem_map]
      constructor
      · rintro ⟨⟨a, b⟩, h, rfl⟩
        rw [List.mem_filter] at h
        obtain ⟨h1, h2⟩ := h
        obtain rfl : b = i := by simpa using h2
        exact h1
      · intro h
        exact ⟨(f, i), List.mem_filter.2 ⟨h, by simp⟩, rfl⟩
    have hne : ∀ f, (f, i) ∈ A → f ≠ i := by
      rintro f hf rfl
      exact h2.2.1 (h2.2.2 f hf)
    refine ⟨upd D i m, ?_, ?_, ?_, ?_⟩
    · intro f t hft ht
      rw [List.mem_append, List.mem_singleton] at ht
      rcases ht with ht | rfl
      · have h5 := hpre f t hft ht
        have h6 : f ≠ i := by
          rintro rfl
          exact h2.2.1 h5
        have h7 : t ≠ i := by
          rintro rfl
          exact h2.2.1 ht
        rw [upd_far _ _ h6, upd_far _ _ h7]
        exact e1 f t hft ht
      · rw [upd_at, upd_far _ _ (hne f hft)]
        exact m1 f ((hm f).2 hft)
    · intro j
      by_cases hj : j = i
      · subst hj
        rw [upd_at]
        rcases m2 with h | ⟨f, h5, h6⟩
        · exact .inl h
        · have h7 := (hm f).1 h5
          exact .inr ⟨f, h7, by rw [upd_far _ _ (hne f h7)]; exact h6⟩
      · rw [upd_far _ _ hj]
        rcases e2 j with h | ⟨f, h5, h6⟩
        · exact .inl h
        · by_cases hf : f = i
          · subst hf
            by_cases hjo : j ∈ os
            · exact absurd (hpre f j h5 hjo) h2.2.1
            · exact .inl (e4 j hjo)
          · exact .inr ⟨f, h5, by rw [upd_far _ _ hf]; exact h6⟩
    · intro j
      rw [List.length_append, List.length_singleton]
      by_cases hj : j = i
      · subst hj
        rw [upd_at]
        rcases m2 with h | ⟨f, h5, h6⟩
        · omega
        · have := e3 f
          omega
      · rw [upd_far _ _ hj]
        have := e3 j
        omega
    · intro j hj
      rw [List.mem_append, List.mem_singleton] at hj
      rw [upd_far _ _ (fun e => hj (.inr e))]
      exact e4 j (fun h => hj (.inl h))
theorem dep13_ex {A : List (Nat × Nat)} {n : Nat} {os : List Nat} (hA : In13 A n) (h : Told13 A n os) (hl : os.length = n) : ∃ D, Dep13 A D ∧ ∀ j, D j ≤ n := by
  obtain ⟨D, e1, e2, e3, _⟩ := h.deep
  exact ⟨D, ⟨fun f t hft => e1 f t hft (full13 n os h.nodup h.lt hl t (hA _ hft).2), e2⟩, fun j => by rw [← hl]; exact e3 j⟩
theorem Dep13.way {A : List (Nat × Nat)} {D : Nat → Nat} (h : Dep13 A D) {a b : Nat} (hw : Way A a b) : D a < D b := by
  induction hw with
  | one h1 => exact h.up _ _ h1
  | step _ h1 ih =>
    have := h.up _ _ h1
    omega
/-- What is at least as deep as the arrows ask is at least the depth. -/
theorem Dep13.low {A : List (Nat × Nat)} {D O : Nat → Nat} (h : Dep13 A D) (ho : ∀ f t, (f, t) ∈ A → O f + 1 ≤ O t) : ∀ j, D j ≤ O j := by
  suffices H : ∀ (m j : Nat), D j = m → D j ≤ O j from fun j => H _ j rfl
  intro m
  induction m using Nat.strongRecOn with
  | ind m ih =>
    intro j hj
    rcases h.is j with h1 | ⟨f, h1, h2⟩
    · omega
    · have h3 := ih (D f) (by omega) f rfl
      have h4 := ho f j h1
      omega
theorem countP13_lt {p q : Nat → Bool} {l : List Nat} (h : ∀ x, x ∈ l → p x = true → q x = true) {y : Nat} (hy : y ∈ l) (h1 : q y = true) (h2 : p y = false) : l.countP p < l.countP q := by
  induction l with
  | nil => cases hy
  | cons a r ih =>
    rw [List.countP_cons, List.countP_cons]
    have hle : r.countP p ≤ r.countP q := List.countP_mono_left (fun x hx => h x (by simp [hx]))
    rw [List.mem_cons] at hy
    rcases hy with rfl | hy
    · rw [h1, h2]
      simp
      omega
    · have h3 := ih (fun x hx => h x (by simp [hx])) hy
      have h4 := h a (by simp)
      cases hp : p a with
      | false =>
        cases q a <;> simp <;> omega
      | true =>
        rw [h4 hp]
        simp
        omega
/-- Where there is no ring all are told. -/
theorem Done13.full {A : List (Nat × Nat)} {n : Nat} {os : List Nat} (hA : In13 A n) (h : Done13 A n os) (hr : ¬ Rng13 A) : os.length = n := by
  refine Classical.byContradiction (fun hne => ?_)
  have hlt : os.length < n := by have := h.1.len; omega
  have hex : ∃ i, i < n ∧ i ∉ os := by
    refine Classical.byContradiction (fun hn => ?_)
    have h1 : ∀ i, i < n → i ∈ os := fun i hi => Classical.byContradiction (fun h2 => hn ⟨i, hi, h2⟩)
    exact absurd (List.Nodup.length_le_of_subset List.nodup_range (l₂ := os) (fun y hy => h1 y (List.mem_range.1 hy))) (by rw [List.length_range]; omega)
  obtain ⟨i0, hi0, hi1⟩ := hex
  have key : ∀ (m i : Nat), i < n → i ∉ os → (List.range n).countP (fun x => wayb A x i) = m → False := by
    intro m
    induction m using Nat.strongRecOn with
    | ind m ih =>
      intro i h1 h2 h3
      have h4 := h.2 i
      have h5 : ∃ f, (f, i) ∈ A ∧ f ∉ os := by
        refine Classical.byContradiction (fun h5 => h4 ⟨h1, h2, fun f hf => ?_⟩)
        exact Classical.byContradiction (fun h6 => h5 ⟨f, hf, h6⟩)
      obtain ⟨f, hf, hf2⟩ := h5
      have hfn := (hA _ hf).1
      have h6 : (List.range n).countP (fun x => wayb A x f) < (List.range n).countP (fun x => wayb A x i) :=
        countP13_lt (fun x _ hx => wayb_yes.2 ((wayb_yes.1 hx).step hf)) (List.mem_range.2 hfn) (wayb_yes.2 (.one hf)) (by
          cases hb : wayb A f f with
          | false => rfl
          | true => exact absurd ⟨f, wayb_yes.1 hb⟩ hr)
      exact ih _ (by omega) f hfn hf2 rfl
  exact key _ i0 hi0 hi1 rfl
theorem Done13.ring {A : List (Nat × Nat)} {n : Nat} {os : List Nat} (hA : In13 A n) (h : Done13 A n os) : Rng13 A ↔ os.length < n := by
  constructor
  · rintro ⟨i, hi⟩
    have h1 := h.1.len
    refine Classical.byContradiction (fun h2 => ?_)
    obtain ⟨D, hD, _⟩ := dep13_ex hA h.1 (by omega)
    have := hD.way hi
    omega
  · intro h1
    refine Classical.byContradiction (fun h2 => ?_)
    have := h.full hA h2
    omega
end Go.Proofs.Ytllcmjdfgbiijaa
namespace Go.Proofs.Ytllcmjdfgbiijaa
open Go.RowKit
/-- Those of n places that are taken. -/
def all11 (T : Nat → Bool) (n : Nat) : List Nat := (List.range n).filter T
theorem all11_len (T : Nat → Bool) (n : Nat) : (all11 T n).length ≤ n := Nat.le_trans (List.length_filter_le _ _) (by simp)
section
variable {S : Nat → Nat} {n : Nat} {T : Nat → Bool}
end
end Go.Proofs.Ytllcmjdfgbiijaa
