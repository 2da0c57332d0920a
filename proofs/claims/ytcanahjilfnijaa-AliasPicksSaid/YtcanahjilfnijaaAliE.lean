/-
  Alias tables: a builder in memory; package alias's last, enlist.
-/
import Derived.Test.YtcanahjilfnijaaAliD
import Derived.WalkSmall
namespace Go.Proofs.Ytcanahjilfnijaa
open Go.RowKit
set_option maxRecDepth 100000

/-- Block g holds n words. -/
def Hd12 (w : World) (g n : Nat) (h : Nat → Nat) : Prop := ∃ cs : Array Value, Blk w g 24 cs ∧ cs.size = n ∧ ∀ j, j < n → cs[j]? = some (.int .u64 ((h j : Nat) : Int))
/-- Block g holds n columns. -/
def Cb12 (w : World) (g n : Nat) (c o : Nat → Nat) : Prop := ∃ cs : Array Value, Blk w g 64 cs ∧ cs.size = n * 2 ∧ ∀ j, j < n → cs[j * 2]? = some (.int .u64 ((c j : Nat) : Int)) ∧ cs[j * 2 + 1]? = some (.int .i64 ((o j : Nat) : Int))
theorem Hd12.lt {w : World} {g n : Nat} {h : Nat → Nat} (q : Hd12 w g n h) : g < w.heap.size := by
  obtain ⟨cs, q, _⟩ := q
  exact q.lt
theorem Cb12.lt {w : World} {g n : Nat} {c o : Nat → Nat} (q : Cb12 w g n c o) : g < w.heap.size := by
  obtain ⟨cs, q, _⟩ := q
  exact q.lt
theorem Hd12.below {w w' : World} {g n : Nat} {h : Nat → Nat} (q : Hd12 w g n h) (hb : Below w.heap.size w w') : Hd12 w' g n h := by
  obtain ⟨cs, h1, h2⟩ := q
  exact ⟨cs, h1.below hb h1.lt, h2⟩
theorem Cb12.below {w w' : World} {g n : Nat} {c o : Nat → Nat} (q : Cb12 w g n c o) (hb : Below w.heap.size w w') : Cb12 w' g n c o := by
  obtain ⟨cs, h1, h2⟩ := q
  exact ⟨cs, h1.below hb h1.lt, h2⟩
theorem Hd12.grown {w w' : World} {g n : Nat} {h : Nat → Nat} {row : Option Nat} (q : Hd12 w g n h) (hb : w.grownBy w' row) (hr : some g ≠ row) : Hd12 w' g n h := by
  obtain ⟨cs, h1, h2⟩ := q
  exact ⟨cs, h1.grown hb hr, h2⟩
theorem Cb12.grown {w w' : World} {g n : Nat} {c o : Nat → Nat} {row : Option Nat} (q : Cb12 w g n c o) (hb : w.grownBy w' row) (hr : some g ≠ row) : Cb12 w' g n c o := by
  obtain ⟨cs, h1, h2⟩ := q
  exact ⟨cs, h1.grown hb hr, h2⟩
theorem Hd12.far {w : World} {g n : Nat} {h : Nat → Nat} (q : Hd12 w g n h) {p : Addr} (hp : g ≠ p.block) (u : Value) : Hd12 (w.setCell p u) g n h := by
  obtain ⟨cs, h1, h2⟩ := q
  exact ⟨cs, h1.far hp u, h2⟩
theorem Cb12.far {w : World} {g n : Nat} {c o : Nat → Nat} (q : Cb12 w g n c o) {p : Addr} (hp : g ≠ p.block) (u : Value) : Cb12 (w.setCell p u) g n c o := by
  obtain ⟨cs, h1, h2⟩ := q
  exact ⟨cs, h1.far hp u, h2⟩
theorem Hd12.cells {w : World} {g n k : Nat} {h : Nat → Nat} (q : Hd12 w g n h) (hk : k < n) : w.cell? ⟨g, k, none⟩ = some (.int .u64 ((h k : Nat) : Int)) ∧ w.frozen? ⟨g, k, none⟩ = false := by
  obtain ⟨cs, h1, h2, h3⟩ := q
  exact ⟨by rw [h1.cell]; exact h3 k hk, h1.frozen k⟩
theorem Cb12.cells {w : World} {g n k : Nat} {c o : Nat → Nat} (q : Cb12 w g n c o) (hk : k < n) : w.cell? ⟨g, k * 2, none⟩ = some (.int .u64 ((c k : Nat) : Int)) ∧ w.cell? ⟨g, k * 2 + 1, none⟩ = some (.int .i64 ((o k : Nat) : Int)) ∧ (∀ i, w.frozen? ⟨g, i, none⟩ = false) := by
  obtain ⟨cs, h1, h2, h3⟩ := q
  exact ⟨by rw [h1.cell]; exact (h3 k hk).1, by rw [h1.cell]; exact (h3 k hk).2, fun i => h1.frozen i⟩
theorem Hd12.put {w : World} {g n k : Nat} {h : Nat → Nat} (q : Hd12 w g n h) (hk : k < n) (x : Nat) : Hd12 (w.setCell ⟨g, k, none⟩ (.int .u64 (x : Int))) g n (upd h k x) := by
  obtain ⟨cs, h1, h2, h3⟩ := q
  refine ⟨_, h1.set_ _ _, by simp [h2], fun j hj => ?_⟩
  by_cases h5 : j = k
  · subst h5
    rw [upd_at, Array.getElem?_setIfInBounds_self_of_lt (by omega)]
  · rw [upd_far _ _ h5, Array.getElem?_setIfInBounds_ne (by omega), h3 j hj]
theorem Cb12.put {w : World} {g n k : Nat} {c o : Nat → Nat} (q : Cb12 w g n c o) (hk : k < n) (x y : Nat) :
    Cb12 ((w.setCell ⟨g, k * 2, none⟩ (.int .u64 (x : Int))).setCell ⟨g, k * 2 + 1, none⟩ (.int .i64 (y : Int))) g n (upd c k x) (upd o k y) := by
  obtain ⟨cs, h1, h2, h3⟩ := q
  refine ⟨_, (h1.set_ _ _).set_ _ _, by simp [h2], fun j hj => ?_⟩
  by_cases h5 : j = k
  · subst h5
    rw [upd_at, upd_at]
    constructor
    · rw [Array.getElem?_setIfInBounds_ne (by omega), Array.getElem?_setIfInBounds_self_of_lt (by omega)]
    · rw [Array.getElem?_setIfInBounds_self_of_lt (by simp; omega)]
  · rw [upd_far _ _ h5, upd_far _ _ h5]
    obtain ⟨a1, a2⟩ := h3 j hj
    constructor
    · rw [Array.getElem?_setIfInBounds_ne (by omega), Array.getElem?_setIfInBounds_ne (by omega), a1]
    · rw [Array.getElem?_setIfInBounds_ne (by omega), Array.getElem?_setIfInBounds_ne (by omega), a2]
theorem Cb12.cq {w : World} {g n : Nat} {c o : Nat → Nat} (q : Cb12 w g n c o) : Cq w w.heap.size (some ⟨g, 0, none⟩) n c (fun k => ((o k : Nat) : Int)) := fun _ => by
  refine ⟨g, 0, rfl, q.lt, fun j hj => ?_⟩
  obtain ⟨h1, h2, _⟩ := q.cells hj
  rw [Nat.zero_add]
  exact ⟨h1, h2⟩

theorem blk_ne12 {w : World} {g g' : Nat} {t t' : TypeId} {cs cs' : Array Value} (h : Blk w g t cs) (h' : Blk w g' t' cs') (ht : t ≠ t') : g ≠ g' := by
  rintro rfl
  unfold Blk at h h'
  rw [h] at h'
  injection h' with h'
  injection h' with _ h2 _
  exact ht h2

theorem own12_far {w w' : World} {base : Nat} {e : TypeId} {v : Value} {n : Nat} {xs : List Value} {row : Option Nat} (h : w.ownsRow base e 1 v n xs) (hg : w.grownBy w' row) (hr : ∀ r, row = some r → v.ownBlock ≠ some r) : w'.ownsRow base e 1 v n xs := by
  cases row with
  | none => exact own7_none h hg
  | some r => exact own7_far h hg (hr r rfl)

/-- A builder: block g its fields, gh what places hold, gc the columns, and the two lists. -/
structure Bd12 (W : World) (L g gh gc n t : Nat) (h c o : Nat → Nat) (Al : Option Addr) (kl cl : Nat) (Am : Option Addr) (km cm : Nat) (ls ms : List Nat) : Prop where
  box : Blk W g 61 #[.int .u64 (t : Int), .slice (some ⟨gh, 0, none⟩) n n, .slice (some ⟨gc, 0, none⟩) n n, .slice Al kl cl, .slice Am km cm]
  holds : Hd12 W gh n h
  cols : Cb12 W gc n c o
  ll : ls.length = kl
  lm : ms.length = km
  lit : W.ownsRow L 3 1 (.slice Al kl cl) kl (ints ls)
  muc : W.ownsRow L 3 1 (.slice Am km cm) km (ints ms)
  two : ∀ r, (Value.slice Al kl cl).ownBlock = some r → (Value.slice Am km cm).ownBlock ≠ some r
  lg : L ≤ g
  lh : L ≤ gh
  lc : L ≤ gc

section
variable {W : World} {L g gh gc n t : Nat} {h c o : Nat → Nat} {Al : Option Addr} {kl cl : Nat} {Am : Option Addr} {km cm : Nat} {ls ms : List Nat}
theorem Bd12.step {W' : World} (b : Bd12 W L g gh gc n t h c o Al kl cl Am km cm ls ms) (hb : Below W.heap.size W W') : Bd12 W' L g gh gc n t h c o Al kl cl Am km cm ls ms :=
  ⟨b.box.below hb b.box.lt, b.holds.below hb, b.cols.below hb, b.ll, b.lm, own7_keep b.lit hb, own7_keep b.muc hb, b.two, b.lg, b.lh, b.lc⟩
theorem Bd12.neh (b : Bd12 W L g gh gc n t h c o Al kl cl Am km cm ls ms) : gh ≠ g := by
  obtain ⟨cs, h1, _⟩ := b.holds
  exact blk_ne12 h1 b.box (by decide)
theorem Bd12.nec (b : Bd12 W L g gh gc n t h c o Al kl cl Am km cm ls ms) : gc ≠ g := by
  obtain ⟨cs, h1, _⟩ := b.cols
  exact blk_ne12 h1 b.box (by decide)
theorem Bd12.nehc (b : Bd12 W L g gh gc n t h c o Al kl cl Am km cm ls ms) : gh ≠ gc := by
  obtain ⟨cs, h1, _⟩ := b.holds
  obtain ⟨cs', h2, _⟩ := b.cols
  exact blk_ne12 h1 h2 (by decide)
theorem Bd12.lneg (b : Bd12 W L g gh gc n t h c o Al kl cl Am km cm ls ms) : (Value.slice Al kl cl).ownBlock ≠ some g := own7_ne b.lit b.box (by decide)
theorem Bd12.mneg (b : Bd12 W L g gh gc n t h c o Al kl cl Am km cm ls ms) : (Value.slice Am km cm).ownBlock ≠ some g := own7_ne b.muc b.box (by decide)
theorem Bd12.lneh (b : Bd12 W L g gh gc n t h c o Al kl cl Am km cm ls ms) : (Value.slice Al kl cl).ownBlock ≠ some gh := by
  obtain ⟨cs, h1, _⟩ := b.holds
  exact own7_ne b.lit h1 (by decide)
theorem Bd12.mneh (b : Bd12 W L g gh gc n t h c o Al kl cl Am km cm ls ms) : (Value.slice Am km cm).ownBlock ≠ some gh := by
  obtain ⟨cs, h1, _⟩ := b.holds
  exact own7_ne b.muc h1 (by decide)
theorem Bd12.lnec (b : Bd12 W L g gh gc n t h c o Al kl cl Am km cm ls ms) : (Value.slice Al kl cl).ownBlock ≠ some gc := by
  obtain ⟨cs, h1, _⟩ := b.cols
  exact own7_ne b.lit h1 (by decide)
theorem Bd12.mnec (b : Bd12 W L g gh gc n t h c o Al kl cl Am km cm ls ms) : (Value.slice Am km cm).ownBlock ≠ some gc := by
  obtain ⟨cs, h1, _⟩ := b.cols
  exact own7_ne b.muc h1 (by decide)

/-- A place is put on the first list: the row has grown, then the field is stored. -/
theorem Bd12.pushl {W3 : World} {A' : Option Addr} {c' i : Nat} (b : Bd12 W L g gh gc n t h c o Al kl cl Am km cm ls ms) (hL : L ≤ W.heap.size) (hg : (W.alloc (.cells #[.int .i64 (i : Int)] 3)).grownBy W3 (Value.slice Al kl cl).ownBlock)
    (hown : W3.ownsRow L 3 1 (.slice A' (kl + 1) c') (kl + 1) (ints ls ++ ints [i]))
    (hbl : (Value.slice A' (kl + 1) c').ownBlock = (Value.slice Al kl cl).ownBlock ∨ (Value.slice A' (kl + 1) c').ownBlock = some (W.alloc (.cells #[.int .i64 (i : Int)] 3)).heap.size) :
    Bd12 (W3.setCell ⟨g, 3, none⟩ (.slice A' (kl + 1) c')) L g gh gc n t h c o A' (kl + 1) c' Am km cm (ls ++ [i]) ms ∧ Below L W (W3.setCell ⟨g, 3, none⟩ (.slice A' (kl + 1) c')) ∧
      Blk W3 g 61 #[.int .u64 (t : Int), .slice (some ⟨gh, 0, none⟩) n n, .slice (some ⟨gc, 0, none⟩) n n, .slice Al kl cl, .slice Am km cm] := by
  have b1 := b.step (b1' W (.cells #[.int .i64 (i : Int)] 3))
  have hbox := b1.box.grown hg (fun e => b1.lneg e.symm)
  have hmuc := own12_far b1.muc hg (fun r hr => b1.two r hr)
  refine ⟨⟨by simpa using hbox.set_ 3 (.slice A' (kl + 1) c'), (b1.holds.grown hg (fun e => b1.lneh e.symm)).far b.neh _, (b1.cols.grown hg (fun e => b1.lnec e.symm)).far b.nec _, by simp [b.ll], b.lm, ?_, ?_, ?_, b.lg, b.lh, b.lc⟩, ?_, hbox⟩
  · rw [ints_append]
    exact ownsRow_setCell_other hown (by exact own7_ne hown hbox (by decide)) _
  · exact ownsRow_setCell_other hmuc (by exact b1.mneg) _
  · intro r hr
    rcases hbl with h1 | h1
    · exact b.two r (h1 ▸ hr)
    · intro h2
      have h3 := (b.muc.lt r h2).2
      rw [h1] at hr
      injection hr with hr
      simp at hr
      omega
  · exact (((b1' W _).mono hL).grown hg (by simp; omega) (fun r hr => (b1.lit.lt r hr).1)).setCell b.lg _
theorem Bd12.pushm {W3 : World} {A' : Option Addr} {c' i : Nat} (b : Bd12 W L g gh gc n t h c o Al kl cl Am km cm ls ms) (hL : L ≤ W.heap.size) (hg : (W.alloc (.cells #[.int .i64 (i : Int)] 3)).grownBy W3 (Value.slice Am km cm).ownBlock)
    (hown : W3.ownsRow L 3 1 (.slice A' (km + 1) c') (km + 1) (ints ms ++ ints [i]))
    (hbl : (Value.slice A' (km + 1) c').ownBlock = (Value.slice Am km cm).ownBlock ∨ (Value.slice A' (km + 1) c').ownBlock = some (W.alloc (.cells #[.int .i64 (i : Int)] 3)).heap.size) :
    Bd12 (W3.setCell ⟨g, 4, none⟩ (.slice A' (km + 1) c')) L g gh gc n t h c o Al kl cl A' (km + 1) c' ls (ms ++ [i]) ∧ Below L W (W3.setCell ⟨g, 4, none⟩ (.slice A' (km + 1) c')) ∧
      Blk W3 g 61 #[.int .u64 (t : Int), .slice (some ⟨gh, 0, none⟩) n n, .slice (some ⟨gc, 0, none⟩) n n, .slice Al kl cl, .slice Am km cm] := by
  have b1 := b.step (b1' W (.cells #[.int .i64 (i : Int)] 3))
  have hbox := b1.box.grown hg (fun e => b1.mneg e.symm)
  have hlit := own12_far b1.lit hg (fun r hr e => b1.two r e hr)
  refine ⟨⟨by simpa using hbox.set_ 4 (.slice A' (km + 1) c'), (b1.holds.grown hg (fun e => b1.mneh e.symm)).far b.neh _, (b1.cols.grown hg (fun e => b1.mnec e.symm)).far b.nec _, b.ll, by simp [b.lm], ?_, ?_, ?_, b.lg, b.lh, b.lc⟩, ?_, hbox⟩
  · exact ownsRow_setCell_other hlit (by exact b1.lneg) _
  · rw [ints_append]
    exact ownsRow_setCell_other hown (by exact own7_ne hown hbox (by decide)) _
  · intro r hr h2
    rcases hbl with h1 | h1
    · exact b.two r hr (h1 ▸ h2)
    · have h3 := (b.lit.lt r hr).2
      rw [h1] at h2
      injection h2 with h2
      simp at h2
      omega
  · exact (((b1' W _).mono hL).grown hg (by simp; omega) (fun r hr => (b1.muc.lt r hr).1)).setCell b.lg _
end
end Go.Proofs.Ytcanahjilfnijaa
