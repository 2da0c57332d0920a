/-
  The document's fractions: as they are read, times a number that the denominator divides.
  The document's fractions: the least number that all denominators divide.
  A row of the document's fractions that a law appends to.
-/
import Derived.Test.YtaifigkbblncpaaGreatDoorMJ
import Derived.Test.YtaifigkbblncpaaGreatDoorSkip
import Derived.Test.YtaifigkbblncpaaGreatDoorMI
import Derived.Maps.AppendAt
namespace Go.Proofs.YtaifigkbblncpaaGreatDoor
open Go.RowKit
set_option maxRecDepth 100000

theorem num_lower {w : World} {L L' : Nat} {v : Value} {a : Nat} (h : Num w L v a) (hl : L' ≤ L) : Num w L' v a := by
  obtain ⟨A, xs, n, c, h1, h2, h3, h4, h5, h6⟩ := h
  exact ⟨A, xs, n, c, h1, h2, h3, h4, h5.more hl, h6⟩
/-- A fraction of the document's that is answered, in new memory. -/
def RetDB (w : World) (a b : Nat) (e : Ending) (w' : World) : Prop := ∃ A1 n1 c1 A2 n2 c2, e = .returned (.agg #[.slice A1 n1 c1, .slice A2 n2 c2]) ∧ (∃ L, w.heap.size ≤ L ∧ Num w' L (.agg #[.slice A1 n1 c1]) a) ∧ (∃ L, w.heap.size ≤ L ∧ Num w' L (.agg #[.slice A2 n2 c2]) b) ∧ Below w.heap.size w w'

set_option maxHeartbeats 2000000 in
theorem in4_b (A1 A2 : Option Addr) (xs ys : List Nat) (n1 c1 n2 c2 : Nat) (w : World) (hl1 : xs.length = n1) (hl2 : ys.length = n2) (hr1 : Ra w w.heap.size A1 xs) (hr2 : Ra w w.heap.size A2 ys) (hd1 : Dg xs) (hd2 : Dg ys) (hn1 : n1 ≤ 1000) (hn2 : n2 ≤ 1000) :
    Calls Tryz.prog 13 #[.agg #[.slice A1 n1 c1, .slice A2 n2 c2]] w (RetDB w (U xs) (U ys)) := by
  have hbb := b2 w (.cells #[.slice A1 n1 c1, .slice A2 n2 c2] 25) (.cells #[.slice none 0 0, .slice none 0 0] 35)
  have q1 := (Blk.new w 25 #[.slice A1 n1 c1, .slice A2 n2 c2]).alloc (.cells #[.slice none 0 0, .slice none 0 0] 35)
  have q2 := Blk.new (w.alloc (.cells #[.slice A1 n1 c1, .slice A2 n2 c2] 25)) 35 #[.slice none 0 0, .slice none 0 0]
  rw [World.size_alloc] at q2
  obtain ⟨W0, hW0⟩ : ∃ W0, (w.alloc (.cells #[.slice A1 n1 c1, .slice A2 n2 c2] 25)).alloc (.cells #[.slice none 0 0, .slice none 0 0] 35) = W0 := ⟨_, rfl⟩
  rw [hW0] at hbb q1 q2
  have x0 : W0.cell? ⟨w.heap.size, 0, none⟩ = some (.slice A1 n1 c1) := q1.cell 0
  have x1 : W0.cell? ⟨w.heap.size, 1, none⟩ = some (.slice A2 n2 c2) := q1.cell 1
  have hi1 := fun wz (h : Below W0.heap.size W0 wz) => in_any A1 xs n1 c1 wz hl1 (((hr1.below hbb (Nat.le_refl _)).more hbb.size).below h (Nat.le_refl _) |>.more h.size) hd1 (by omega)
  have hi2 := fun wz (h : Below W0.heap.size W0 wz) => in_any A2 ys n2 c2 wz hl2 (((hr2.below hbb (Nat.le_refl _)).more hbb.size).below h (Nat.le_refl _) |>.more h.size) hd2 (by omega)
  obtain ⟨a, ha⟩ : ∃ a, U xs = a := ⟨_, rfl⟩
  obtain ⟨b, hb⟩ : ∃ b, U ys = b := ⟨_, rfl⟩
  simp only [ha] at hi1
  simp only [hb] at hi2
  rw [ha, hb]
  have hl2' := q2.lt
  have Q2 := Lib.hid q2
  have HI1 := Lib.hid hi1
  have HI2 := Lib.hid hi2
  clear ha hb hl1 hl2 hr1 hr2 hd1 hd2 q1 q2 hi1 hi2
  go_enter Tryz.func13, Tryz.ntmps13
  go_wp2_with fail
  go_region_held3 (fun u => u.cell? ⟨w.heap.size, 0, none⟩ = some (.slice A1 n1 c1) ∧ u.cell? ⟨w.heap.size, 1, none⟩ = some (.slice A2 n2 c2))
    (first | exact ⟨x0, x1⟩ | assumption | exact cells2_put (by omega) (cells2_put (by omega) (by assumption)))
    (first
      | (go_at_call 30; (with_reducible refine Calls.mono (HI1.out _ ?_) ?_); (focus (first | exact (Below.refl _ _).drew | exact BX2)); rintro e y1 ⟨v1, rfl, hn1, hb1⟩; obtain ⟨B1, i1, e1, rfl⟩ := hn1.shape; have N1 := Lib.hid (num_lower hn1 (by first | exact hbb.size | exact Nat.le_trans hbb.size BX2.size)); clear hn1; (first | (have BX1 := BX2.trans (hb1.mono BX2.size); have N2 := Lib.hid (N2.out.below hb1)) | (have BX1 := drew_then hb1)); have hS1 := cells2 BX1 ⟨x0, x1⟩; have u0 : y1.cell? ⟨w.heap.size + 1, 0, none⟩ = some (.slice none 0 0) := (Q2.out.below BX1 hl2').cell 0; have u1 : y1.cell? ⟨w.heap.size + 1, 1, none⟩ = some (.slice none 0 0) := (Q2.out.below BX1 hl2').cell 1; have u2 := (Q2.out.below BX1 hl2').frozen 0; have u3 := (Q2.out.below BX1 hl2').frozen 1)
      | (go_at_call 30; (with_reducible refine Calls.mono (HI2.out _ ?_) ?_); (focus (first | exact (Below.refl _ _).drew | exact BX1)); rintro e y2 ⟨v2, rfl, hn2, hb2⟩; obtain ⟨B2, i2, e2, rfl⟩ := hn2.shape; have N2 := Lib.hid (num_lower hn2 (by first | exact hbb.size | exact Nat.le_trans hbb.size BX1.size)); clear hn2; (first | (have BX2 := BX1.trans (hb2.mono BX1.size); have N1 := Lib.hid (N1.out.below hb2)) | (have BX2 := drew_then hb2)); have hS2 := cells2 BX2 ⟨x0, x1⟩; have u0 : y2.cell? ⟨w.heap.size + 1, 0, none⟩ = some (.slice none 0 0) := (Q2.out.below BX2 hl2').cell 0; have u1 : y2.cell? ⟨w.heap.size + 1, 1, none⟩ = some (.slice none 0 0) := (Q2.out.below BX2 hl2').cell 1; have u2 := (Q2.out.below BX2 hl2').frozen 0; have u3 := (Q2.out.below BX2 hl2').frozen 1))
  all_goals
    go_wp2_with fail
    first
      | exact bodyPost_ret (v := .agg #[.slice B1 i1 e1, .slice B2 i2 e2]) (by simp [results, Tryz.results13, go_sem, (put_Q (Q2.out.below BX2 hl2') (.slice B1 i1 e1) (.slice B2 i2 e2)).cell 0, (put_Q (Q2.out.below BX2 hl2') (.slice B1 i1 e1) (.slice B2 i2 e2)).cell 1]) rfl
          ⟨_, _, _, _, _, _, rfl, ⟨_, Nat.le_refl _, (N1.out.setSi u0).setSi ((World.cell?_setCell_other _ _ _ _ (by intro e; injection e; omega)).trans u1)⟩, ⟨_, Nat.le_refl _, (N2.out.setSi u0).setSi ((World.cell?_setCell_other _ _ _ _ (by intro e; injection e; omega)).trans u1)⟩,
            ((hbb.trans (BX2.mono hbb.size)).setCell (by show w.heap.size ≤ w.heap.size + 1; omega) _).setCell (by show w.heap.size ≤ w.heap.size + 1; omega) _⟩
      | exact bodyPost_ret (v := .agg #[.slice B1 i1 e1, .slice B2 i2 e2]) (by simp [results, Tryz.results13, go_sem, (put_Q (Q2.out.below BX1 hl2') (.slice B1 i1 e1) (.slice B2 i2 e2)).cell 0, (put_Q (Q2.out.below BX1 hl2') (.slice B1 i1 e1) (.slice B2 i2 e2)).cell 1]) rfl
          ⟨_, _, _, _, _, _, rfl, ⟨_, Nat.le_refl _, (N1.out.setSi u0).setSi ((World.cell?_setCell_other _ _ _ _ (by intro e; injection e; omega)).trans u1)⟩, ⟨_, Nat.le_refl _, (N2.out.setSi u0).setSi ((World.cell?_setCell_other _ _ _ _ (by intro e; injection e; omega)).trans u1)⟩,
            ((hbb.trans (BX1.mono hbb.size)).setCell (by show w.heap.size ≤ w.heap.size + 1; omega) _).setCell (by show w.heap.size ≤ w.heap.size + 1; omega) _⟩

end Go.Proofs.YtaifigkbblncpaaGreatDoor

namespace Go.Proofs.YtaifigkbblncpaaGreatDoor
open Go.RowKit
set_option maxRecDepth 100000

/-- The slice at A reads, in world W, as n fractions of the document's: xs k by ys k. -/
def QIn (W : World) (A : Option Addr) (n : Nat) (xs ys : Nat → Nat) : Prop :=
  ∀ k, k < n → ∃ b o A1 n1 c1 A2 n2 c2, A = some ⟨b, o, none⟩ ∧ W.cell? ⟨b, o + k * 2, none⟩ = some (.slice A1 n1 c1) ∧ W.cell? ⟨b, o + k * 2 + 1, none⟩ = some (.slice A2 n2 c2) ∧
    (∃ L, Num W L (.agg #[.slice A1 n1 c1]) (xs k)) ∧ (∃ L, Num W L (.agg #[.slice A2 n2 c2]) (ys k))
theorem QIn.below {W W' : World} {A : Option Addr} {n : Nat} {xs ys : Nat → Nat} (h : QIn W A n xs ys) (hb : Below W.heap.size W W') : QIn W' A n xs ys := fun k hk => by
  obtain ⟨b, o, A1, n1, c1, A2, n2, c2, h1, h2, h3, ⟨L1, h4⟩, ⟨L2, h5⟩⟩ := h k hk
  exact ⟨b, o, A1, n1, c1, A2, n2, c2, h1, (hb.cell (World.block_lt_of_cell? _ _ h2)).trans h2, (hb.cell (World.block_lt_of_cell? _ _ h3)).trans h3, ⟨L1, h4.below hb⟩, ⟨L2, h5.below hb⟩⟩

/-- The least number that the first k divide. -/
def lcmTo (ys : Nat → Nat) : Nat → Nat
  | 0 => 1
  | k + 1 => Nat.lcm (lcmTo ys k) (ys k)
theorem lcmTo_lt {ys : Nat → Nat} {n j : Nat} (h : ∀ k, k < n → ys k < 65536 ^ j) : ∀ k, k ≤ n → lcmTo ys k < 65536 ^ (k * j + 1) := by
  intro k
  induction k with
  | zero => intro _; simp [lcmTo]
  | succ k ih =>
    intro hk
    have h1 := ih (by omega)
    have h2 := h k (by omega)
    have h3 : lcmTo ys (k + 1) ≤ lcmTo ys k * ys k := lcm_le _ _
    have h4 : lcmTo ys k * ys k < 65536 ^ (k * j + 1) * 65536 ^ j := Nat.mul_lt_mul'' h1 h2
    rw [← Nat.pow_add] at h4
    rw [show (k + 1) * j + 1 = k * j + 1 + j by rw [Nat.succ_mul]; omega]
    omega

end Go.Proofs.YtaifigkbblncpaaGreatDoor

namespace Go.Proofs.YtaifigkbblncpaaGreatDoor
open Go.RowKit
set_option maxRecDepth 100000

/-- A number whose digits lie in blocks from lo up to below hi. -/
def NumB (W : World) (lo hi : Nat) (v : Value) (a : Nat) : Prop := ∃ A xs n c, v = .agg #[.slice A n c] ∧ xs.length = n ∧ n ≤ c ∧ Rd W hi A xs ∧ Fr lo A xs ∧ Can xs ∧ V xs = a
theorem NumB.num {W : World} {lo hi : Nat} {v : Value} {a : Nat} (h : NumB W lo hi v a) (hh : hi ≤ W.heap.size) : Num W lo v a := by
  obtain ⟨A, xs, n, c, h1, h2, h3, h4, h5⟩ := h
  exact ⟨A, xs, n, c, h1, h2, h3, h4.more hh, h5⟩
theorem NumB.of_num {W : World} {lo L : Nat} {v : Value} {a : Nat} (h : Num W L v a) (hl : lo ≤ L) : NumB W lo W.heap.size v a := by
  obtain ⟨A, xs, n, c, h1, h2, h3, h4, h5, h6⟩ := h
  exact ⟨A, xs, n, c, h1, h2, h3, h4, h5.more hl, h6⟩
theorem NumB.grown {W W' : World} {lo hi : Nat} {v : Value} {a : Nat} (h : NumB W lo hi v a) {row : Option Nat} (hg : W.grownBy W' row) (hd : ∀ r, row = some r → r < lo ∨ hi ≤ r) : NumB W' lo hi v a := by
  obtain ⟨A, xs, n, c, h1, h2, h3, h4, h5, h6⟩ := h
  refine ⟨A, xs, n, c, h1, h2, h3, fun hx => ?_, h5, h6⟩
  obtain ⟨b, o, e1, e2, e3⟩ := h4 hx
  obtain ⟨b', o', e4, e5⟩ := h5 hx
  rw [e1] at e4
  injection e4 with e4
  injection e4 with e4
  subst e4
  exact ⟨b, o, e1, e2, fun k hk => hg.cell (e3 k hk) (fun e => by rcases hd b e.symm with h | h <;> omega)⟩
theorem NumB.below {W W' : World} {lo hi : Nat} {v : Value} {a : Nat} (h : NumB W lo hi v a) (hb : Below W.heap.size W W') (hh : hi ≤ W.heap.size) : NumB W' lo hi v a := by
  obtain ⟨A, xs, n, c, h1, h2, h3, h4, h5⟩ := h
  exact ⟨A, xs, n, c, h1, h2, h3, h4.below hb hh, h5⟩

/-- One of a row's fractions. -/
def QEl (W : World) (v : Value) (cs : List Value) (xs ys : Nat → Nat) (j : Nat) : Prop :=
  ∃ lo hi A1 n1 c1 A2 n2 c2, cs[j * 2]? = some (.slice A1 n1 c1) ∧ cs[j * 2 + 1]? = some (.slice A2 n2 c2) ∧
    NumB W lo hi (.agg #[.slice A1 n1 c1]) (xs j) ∧ NumB W lo hi (.agg #[.slice A2 n2 c2]) (ys j) ∧ hi ≤ W.heap.size ∧ ∀ r, v.ownBlock = some r → r < lo ∨ hi ≤ r
/-- The row v of k fractions. -/
def QRow (W : World) (base : Nat) (v : Value) (k : Nat) (xs ys : Nat → Nat) : Prop :=
  ∃ cs, W.ownsRow base 35 2 v k cs ∧ ∀ j, j < k → QEl W v cs xs ys j
theorem own_keep2 {w w' : World} {base : Nat} {e : TypeId} {s : Nat} {v : Value} {n : Nat} {xs : List Value} (h : w.ownsRow base e s v n xs) (hb : Below w.heap.size w w') : w'.ownsRow base e s v n xs := by
  have hlt := h.lt
  obtain ⟨h1, h2⟩ := h
  refine ⟨h1, ?_⟩
  rcases h2 with h2 | ⟨g, cap, cur, rfl, hg, hh, r⟩
  · exact .inl h2
  · exact .inr ⟨g, cap, cur, rfl, hg, by rw [hb.block g (hlt g rfl).2]; exact hh, r⟩
theorem QRow.below {W W' : World} {base : Nat} {v : Value} {k : Nat} {xs ys : Nat → Nat} (h : QRow W base v k xs ys) (hb : Below W.heap.size W W') : QRow W' base v k xs ys := by
  obtain ⟨cs, h1, h2⟩ := h
  refine ⟨cs, own_keep2 h1 hb, fun j hj => ?_⟩
  obtain ⟨lo, hi, A1, n1, c1, A2, n2, c2, e1, e2, e3, e4, e5, e6⟩ := h2 j hj
  exact ⟨lo, hi, A1, n1, c1, A2, n2, c2, e1, e2, e3.below hb e5, e4.below hb e5, Nat.le_trans e5 hb.size, e6⟩
theorem QRow.nil (W : World) (base : Nat) (xs ys : Nat → Nat) : QRow W base (.slice none 0 0) 0 xs ys := ⟨[], World.ownsRow_nil _ _ _ _, fun j hj => absurd hj (by omega)⟩
theorem QRow.qin {W : World} {base : Nat} {A : Option Addr} {c k : Nat} {xs ys : Nat → Nat} (h : QRow W base (.slice A k c) k xs ys) : QIn W A k xs ys := fun j hj => by
  obtain ⟨cs, h1, h2⟩ := h
  obtain ⟨lo, hi, A1, n1, c1, A2, n2, c2, e1, e2, e3, e4, e5, e6⟩ := h2 j hj
  rcases h1.2 with ⟨_, h0⟩ | ⟨g, cap, cur, hv, _⟩
  · omega
  · injection hv with hA
    subst hA
    have a1 := h1.cells (g := g) rfl _ _ e1
    have a2 := h1.cells (g := g) rfl _ _ e2
    refine ⟨g, 0, A1, n1, c1, A2, n2, c2, rfl, ?_, ?_, ⟨_, e3.num e5⟩, ⟨_, e4.num e5⟩⟩
    · rw [Go.WideShapes.add_plain] at a1
      exact a1
    · rw [Go.WideShapes.add_plain] at a2
      simpa only [Nat.add_assoc] using a2
/-- One more. -/
theorem QRow.push {W0 W1 W2 W3 : World} {base : Nat} {v v' : Value} {k : Nat} {xs ys : Nat → Nat} {A1 A2 : Option Addr} {n1 c1 n2 c2 L1 L2 : Nat} {o : Obj} {cs : List Value} (q1 : W0.ownsRow base 35 2 v k cs) (q2 : ∀ j, j < k → QEl W0 v cs xs ys j) (hb1 : Below W0.heap.size W0 W1)
    (hx : Num W1 L1 (.agg #[.slice A1 n1 c1]) (xs k)) (hl1 : W0.heap.size ≤ L1) (hy : Num W1 L2 (.agg #[.slice A2 n2 c2]) (ys k)) (hl2 : W0.heap.size ≤ L2) (h2 : W1.alloc o = W2) (hg : W2.grownBy W3 v.ownBlock)
    (h3 : W3.ownsRow base 35 2 v' (k + 1) (cs ++ [.slice A1 n1 c1, .slice A2 n2 c2])) (hat : v'.ownBlock = v.ownBlock ∨ v'.ownBlock = some W2.heap.size) : QRow W3 base v' (k + 1) xs ys := by
  subst h2
  have hlen : cs.length = k * 2 := q1.1
  have hs1 := hb1.size
  have hs2 : (W1.alloc o).heap.size = W1.heap.size + 1 := by simp
  have hlt := q1.lt
  refine ⟨_, h3, fun j hj => ?_⟩
  rcases Nat.lt_or_ge j k with h | h
  · obtain ⟨lo, hi, A3, n3, c3, A4, n4, c4, e1, e2, e3, e4, e5, e6⟩ := q2 j h
    refine ⟨lo, hi, A3, n3, c3, A4, n4, c4, by rw [List.getElem?_append_left (by omega)]; exact e1, by rw [List.getElem?_append_left (by omega)]; exact e2, ?_, ?_, by have := hg.size; omega, fun r hr => ?_⟩
    · exact (((e3.below hb1 e5).below (b1 W1 o) (by omega)).grown hg e6)
    · exact (((e4.below hb1 e5).below (b1 W1 o) (by omega)).grown hg e6)
    · rcases hat with h' | h'
      · exact e6 r (h' ▸ hr)
      · rw [h'] at hr
        injection hr with hr
        omega
  · obtain rfl : j = k := by omega
    refine ⟨W0.heap.size, W1.heap.size, A1, n1, c1, A2, n2, c2, by rw [List.getElem?_append_right (by omega), hlen]; simp, by rw [List.getElem?_append_right (by omega), hlen]; simp [show j * 2 + 1 - j * 2 = 1 by omega], ?_, ?_, by have := hg.size; omega, fun r hr => ?_⟩
    · exact (((NumB.of_num hx hl1).below (b1 W1 o) (Nat.le_refl _)).grown hg (fun r hr => .inl (hlt r hr).2))
    · exact (((NumB.of_num hy hl2).below (b1 W1 o) (Nat.le_refl _)).grown hg (fun r hr => .inl (hlt r hr).2))
    · rcases hat with h' | h'
      · exact .inl (hlt r (h' ▸ hr)).2
      · rw [h'] at hr
        injection hr with hr
        omega

theorem info_Q : (Tryz.prog.info? 35).map (fun i => (i.zero, i.size, i.bytes)) = some (some (.agg #[.slice none 0 0, .slice none 0 0]), 2, 48) := by kernel_rfl

theorem short_yes (A1 A2 : Option Addr) (n1 c1 n2 c2 : Nat) (z : Bool) (w : World) (hz : (decide (n1 ≤ 6) && decide (n2 ≤ 6)) = z) :
    Calls Tryz.prog 4 #[.agg #[.slice A1 n1 c1, .slice A2 n2 c2]] w fun e w' => e = .returned (.bool z) ∧ Below w.heap.size w w' := by
  have hb := b1 w (.cells #[.slice A1 n1 c1, .slice A2 n2 c2] 25)
  have x0 := cn0 w 25 (.slice A1 n1 c1) (.slice A2 n2 c2)
  have x1 := cn1 w 25 (.slice A1 n1 c1) (.slice A2 n2 c2)
  by_cases h1 : n1 ≤ 6
  · by_cases h2 : n2 ≤ 6
    · obtain rfl : z = true := by rw [← hz]; simp [h1, h2]
      go_enter Tryz.func4, Tryz.ntmps4
      go_wp2_with fail
      go_ret
      exact ⟨by show Ending.returned (Value.bool (decide ((n2 : Int) ≤ 6))) = _; rw [show decide ((n2 : Int) ≤ 6) = true by simp; omega], hb⟩
    · obtain rfl : z = false := by rw [← hz]; simp [h2]
      go_enter Tryz.func4, Tryz.ntmps4
      go_wp2_with fail
      go_ret
      exact ⟨by show Ending.returned (Value.bool (decide ((n2 : Int) ≤ 6))) = _; rw [show decide ((n2 : Int) ≤ 6) = false by simp; omega], hb⟩
  · obtain rfl : z = false := by rw [← hz]; simp [h1]
    go_enter Tryz.func4, Tryz.ntmps4
    go_wp2_with fail
    go_ret
    exact ⟨rfl, hb⟩

/-- The fractions of a slice, as a list. -/
def qs (n : Nat) (xs ys : Nat → Nat) : List (Nat × Nat) := (List.range n).map fun k => (xs k, ys k)
theorem qs_len (n : Nat) (xs ys : Nat → Nat) : (qs n xs ys).length = n := by simp [qs]
theorem qs_get {n : Nat} {xs ys : Nat → Nat} {k : Nat} (h : k < n) : (qs n xs ys)[k]? = some (xs k, ys k) := by simp [qs, h]
theorem lcmAll_qs (n : Nat) (xs ys : Nat → Nat) : lcmAll (qs n xs ys) = lcmTo ys n := by
  induction n with
  | zero => rfl
  | succ n ih =>
    rw [lcmTo, ← ih]
    unfold lcmAll qs
    rw [List.range_succ, List.map_append, List.foldl_append]
    rfl
theorem lcm_dvd {ys : Nat → Nat} {n k : Nat} (h : k < n) : ys k ∣ lcmTo ys n := by
  induction n with
  | zero => omega
  | succ n ih =>
    rw [lcmTo]
    rcases Nat.lt_or_ge k n with h1 | h1
    · exact Nat.dvd_trans (ih h1) (Nat.dvd_lcm_left _ _)
    · obtain rfl : k = n := by omega
      exact Nat.dvd_lcm_right _ _
theorem part_up {n : Nat} {xs ys : Nat → Nat} {k : Nat} (h : k < n) : partOf (qs n xs ys) k = xs k * lcmTo ys n / ys k := by
  rw [partOf_eq (qs_get h), lcmAll_qs, Nat.mul_div_assoc _ (lcm_dvd h)]
theorem fracs_rats {W : World} {A : Option Addr} {n : Nat} {X Y : Nat → List Nat} (h : Fracs W A n X Y) (hs : ∀ k, k < n → (X k).length ≤ 6 ∧ (Y k).length ≤ 6) : Rats W W.heap.size A (qs n (fun k => U (X k)) (fun k => U (Y k))) 6 := fun k q hq => by
  have hk : k < n := by
    rcases Nat.lt_or_ge k n with h1 | h1
    · exact h1
    · rw [List.getElem?_eq_none (by rw [qs_len]; exact h1)] at hq; cases hq
  rw [qs_get hk] at hq
  injection hq with hq
  subst hq
  obtain ⟨b, o, A1, n1, c1, A2, n2, c2, h1, h2, h3, h4, ⟨h5, h6, h7, h8⟩, h9, h10, h11, h12⟩ := h k hk
  obtain ⟨s1, s2⟩ := hs k hk
  exact ⟨b, o, A1, n1, c1, A2, n2, c2, h1, h2, h3, h4, ⟨A1, X k, n1, c1, rfl, h5, h6, h7, h8, rfl, by omega⟩, ⟨A2, Y k, n2, c2, rfl, h9, h10, h11, h12, rfl, by omega⟩⟩
end Go.Proofs.YtaifigkbblncpaaGreatDoor
