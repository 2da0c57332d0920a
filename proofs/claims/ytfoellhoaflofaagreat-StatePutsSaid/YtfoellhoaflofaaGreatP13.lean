/-
  SaidStatePuts, part 13 of 26: what the theorem statePuts_holds reaches.
-/
import Derived.Test.YtfoellhoaflofaaGreatP12
namespace Go.Proofs.YtfoellhoaflofaaGreat
open Go.RowKit
set_option maxRecDepth 100000
theorem own14_ne {w : World} {b1 b2 : Nat} {e1 e2 : TypeId} {k1 k2 : Nat} {v1 v2 : Value} {n1 n2 : Nat} {xs1 xs2 : List Value} (h1 : w.ownsRow b1 e1 k1 v1 n1 xs1) (h2 : w.ownsRow b2 e2 k2 v2 n2 xs2) (hne : e1 ≠ e2) : v1.ownBlock = none ∨ v1.ownBlock ≠ v2.ownBlock := by
  rcases h1.2 with ⟨rfl, _⟩ | ⟨g1, c1, u1, rfl, _, hh1, _⟩
  · exact .inl rfl
  · refine .inr (fun e => ?_)
    rcases h2.2 with ⟨rfl, _⟩ | ⟨g2, c2, u2, rfl, _, hh2, _⟩
    · cases e
    · injection e with e
      subst e
      rw [hh1] at hh2
      cases hh2
      exact hne rfl
theorem own14_blk {w : World} {b1 : Nat} {e1 t : TypeId} {k1 : Nat} {v1 : Value} {n1 g : Nat} {xs1 : List Value} {cs : Array Value} (h1 : w.ownsRow b1 e1 k1 v1 n1 xs1) (hb : Blk w g t cs) (hne : t ≠ e1) : some g ≠ v1.ownBlock := fun e' => by
  rcases h1.2 with ⟨rfl, _⟩ | ⟨g', cap, cur, rfl, _, hh, _⟩
  · cases e'
  · injection e' with e'
    subst e'
    rw [show w.heap[g]? = _ from hb] at hh
    cases hh
    exact hne rfl
/-- Zero ones are put behind a list until it has m. -/
def pad14 {α : Type} [Inhabited α] (xs : List α) (m : Nat) : List α := xs ++ List.replicate (m - xs.length) default
theorem pad14_len {α : Type} [Inhabited α] {xs : List α} {m : Nat} (h : xs.length ≤ m) : (pad14 xs m).length = m := by simp [pad14]; omega
theorem pad14_self {α : Type} [Inhabited α] (xs : List α) : pad14 xs xs.length = xs := by simp [pad14]
theorem pad14_next {α : Type} [Inhabited α] {xs : List α} {m : Nat} (h : xs.length ≤ m) : pad14 xs (m + 1) = pad14 xs m ++ [default] := by
  rw [pad14, pad14, show m + 1 - xs.length = (m - xs.length) + 1 by omega, List.replicate_succ', List.append_assoc]
theorem pad14_gt {α : Type} [Inhabited α] {xs : List α} {m j : Nat} : gt14 (pad14 xs m) j = gt14 xs j := by
  unfold gt14 pad14
  rw [List.getD_eq_getElem?_getD, List.getD_eq_getElem?_getD]
  rcases Nat.lt_or_ge j xs.length with h | h
  · rw [List.getElem?_append_left h]
  · rw [List.getElem?_append_right h, List.getElem?_replicate, List.getElem?_eq_none h]
    split <;> rfl
theorem set14_gt {α : Type} [Inhabited α] {xs : List α} {i j : Nat} {x : α} (h : i < xs.length) : gt14 (xs.set i x) j = if j = i then x else gt14 xs j := by
  unfold gt14
  rw [List.getD_eq_getElem?_getD, List.getD_eq_getElem?_getD, List.getElem?_set]
  by_cases e : j = i
  · subst e
    simp [h]
  · rw [if_neg (by omega), if_neg e]
theorem put14_pad {α : Type} [Inhabited α] {xs : List α} {i : Nat} {x : α} : (pad14 xs (max xs.length (i + 1))).set i x = put14 xs i x := by
  have hl : (pad14 xs (max xs.length (i + 1))).length = max xs.length (i + 1) := pad14_len (by omega)
  refine ext14 (by rw [List.length_set, hl, put14_len]) (fun j hj => ?_)
  rw [List.length_set, hl] at hj
  rw [set14_gt (by omega), put14_gt hj, pad14_gt]
/-- An element is stored in a row of the call's own. -/
theorem own14_set {α : Type} [Inhabited α] {cl : α → List Value} {k : Nat} (hk : ∀ x, (cl x).length = k) (hk0 : 0 < k) {w : World} {base : Nat} {e : TypeId} {A : Option Addr} {c n i : Nat} {xs : List α} (h : w.ownsRow base e k (.slice A n c) n (fl14 cl xs)) (hi : i < xs.length) (x : α) :
    ∃ g, A = some ⟨g, 0, none⟩ ∧ base ≤ g ∧ (∀ j, j < k → ∃ z, w.cell? ⟨g, i * k + j, none⟩ = some z) ∧ (∀ j, w.frozen? ⟨g, j, none⟩ = false) ∧ (w.setCells g (i * k) (cl x)).ownsRow base e k (.slice A n c) n (fl14 cl (xs.set i x)) ∧
      w.grownBy (w.setCells g (i * k) (cl x)) (some g) := by
  have hlen : xs.length = n := by
    have h1 := h.1
    rw [fl14_len hk] at h1
    exact Nat.eq_of_mul_eq_mul_right hk0 h1
  rcases h.2 with ⟨_, h1⟩ | ⟨g, cap, cur, hv, hb, hh, hnc, hcm, hcs, htk⟩
  · omega
  · injection hv with hA _ hc
    subst hA hc
    have hik : (i + 1) * k ≤ n * k := Nat.mul_le_mul_right k (by omega)
    have hnk : n * k ≤ c * k := Nat.mul_le_mul_right k hnc
    rw [Nat.succ_mul] at hik
    obtain ⟨cs', g1, g2, g3, g4, g5⟩ := blk13_setCells (cl x) (i * k) w cur hh (by rw [hk, hcs]; omega)
    refine ⟨g, rfl, hb, fun j hj => ⟨_, by rw [Blk.cell hh]; exact Array.getElem?_eq_getElem (by omega)⟩, fun j => Blk.frozen hh j, ⟨?_, .inr ⟨g, c, cs', rfl, hb, g1, hnc, hcm, by rw [g2, hcs], ?_⟩⟩, ?_⟩
    · rw [fl14_len hk, List.length_set, hlen]
    · apply List.ext_getElem?
      intro q
      rw [List.getElem?_take]
      split
      · next hq =>
        have hm : q % k < k := Nat.mod_lt _ hk0
        have hd : q / k < n := Nat.div_lt_of_lt_mul (by rw [Nat.mul_comm]; exact hq)
        have he : q / k * k + q % k = q := by rw [Nat.mul_comm]; exact Nat.div_add_mod q k
        have hset := fl14_get hk (xs := xs.set i x) (j := q / k) (i := q % k) (by rw [List.length_set, hlen]; exact hd) hm
        rw [he, set14_gt hi] at hset
        have hold := fl14_get hk (xs := xs) (j := q / k) (i := q % k) (by rw [hlen]; exact hd) hm
        rw [he] at hold
        have hcur : cur[q]? = (fl14 cl xs)[q]? := by rw [← htk, List.getElem?_take_of_lt hq, Array.getElem?_toList]
        rw [Array.getElem?_toList, hset]
        rcases Nat.lt_trichotomy (q / k) i with e1 | e1 | e1
        · rw [if_neg (by omega), g3 q (by have := Nat.mul_le_mul_right k (show q / k + 1 ≤ i by omega); rw [Nat.succ_mul] at this; omega), hcur, hold]
        · rw [if_pos e1]
          have h4 := g4 (q % k) (by rw [hk]; exact hm)
          rw [show i * k + q % k = q by rw [← e1]; exact he] at h4
          exact h4
        · rw [if_neg (by omega), g5 q (by rw [hk]; have := Nat.mul_le_mul_right k (show i + 1 ≤ q / k by omega); rw [Nat.succ_mul] at this; omega), hcur, hold]
      · next hq =>
        rw [List.getElem?_eq_none]
        rw [fl14_len hk, List.length_set, hlen]
        omega
    · obtain ⟨h1, h2, h3, h4, h5⟩ := setCells13 g (cl x) (i * k) w
      exact ⟨h1, h2, h3, by omega, fun q _ hq => h5 q (fun e => hq (by rw [e]))⟩
/-- While zero ones are put behind a list: ys is what it is by now. -/
structure Pm14C (w : World) (S : Sv14) (xu : Bool) (A1 A2 A3 A4 : Option Addr) (n1 n2 n3 n4 c1 c2 c3 c4 : Nat) (sq : Int) (A : Option Addr) (m c : Nat) (ys : List Bool) (W : World) : Prop where
  b : Below w.heap.size w W
  x : Blk W w.heap.size 28 #[.slice A m c, .slice A1 n1 c1, .slice A2 n2 c2, .slice A3 n3 c3, .slice A4 n4 c4, .int .i64 sq]
  y : Blk W (w.heap.size + 1) 28 #[.slice none 0 0, .slice none 0 0, .slice none 0 0, .slice none 0 0, .slice none 0 0, .int .i64 0]
  o : W.ownsRow (w.heap.size + 1 + 1) 4 1 (.slice A m c) m (fl14 clC ys)
  l : ys.length = m
  o1 : W.ownsRow (w.heap.size + 1 + 1) 43 6 (.slice A1 n1 c1) n1 (fl14 clT S.T)
  o2 : W.ownsRow (w.heap.size + 1 + 1) 45 5 (.slice A2 n2 c2) n2 (fl14 clH S.H)
  o3 : W.ownsRow (w.heap.size + 1 + 1) 47 2 (.slice A3 n3 c3) n3 (fl14 clL S.L)
  o4 : W.ownsRow (w.heap.size + 1 + 1) 3 1 (.slice A4 n4 c4) n4 (fl14 clI S.Q)
  l1 : S.T.length = n1
  l2 : S.H.length = n2
  l3 : S.L.length = n3
  l4 : S.Q.length = n4
  m1 : n1 ≤ 1000
  m2 : n2 ≤ 1000
  m3 : n3 ≤ 1000
  m4 : n4 ≤ 1000
  e : S.q = sq
theorem Pm14C.grow {w : World} {S : Sv14} {xu : Bool} {A1 A2 A3 A4 : Option Addr} {n1 n2 n3 n4 c1 c2 c3 c4 : Nat} {sq : Int} {A : Option Addr} {m c : Nat} {ys : List Bool} {W : World} {W2 : World} {Ag : Option Addr} {cg mg : Nat} {yg : List Bool} (h : Pm14C w S xu A1 A2 A3 A4 n1 n2 n3 n4 c1 c2 c3 c4 sq A m c ys W) (hb : Below W.heap.size W W2 ∨ W.grownBy W2 (Value.slice A m c).ownBlock) (ho : W2.ownsRow (w.heap.size + 1 + 1) 4 1 (.slice Ag mg cg) mg (fl14 clC yg)) (hl : yg.length = mg) :
    Pm14C w S xu A1 A2 A3 A4 n1 n2 n3 n4 c1 c2 c3 c4 sq Ag mg cg yg (W2.setCell ⟨w.heap.size, 0, none⟩ (.slice Ag mg cg)) := by
  have hrow : ∀ r, (Value.slice A m c).ownBlock = some r → w.heap.size + 1 + 1 ≤ r := fun r hr => (h.o.lt r hr).1
  have hB : Below w.heap.size w (W2.setCell ⟨w.heap.size, 0, none⟩ (.slice Ag mg cg)) := by
    rcases hb with hb | hb
    · exact (h.b.trans (hb.mono h.b.size)).setCell (Nat.le_refl _) _
    · exact (h.b.grown hb h.b.size (fun r hr => by have := hrow r hr; omega)).setCell (Nat.le_refl _) _
  have hblk : ∀ {g : Nat} {t : TypeId} {cs : Array Value}, Blk W g t cs → t ≠ 4 → Blk W2 g t cs := fun {g t cs} hg hne => by
    rcases hb with hb | hb
    · exact hg.below hb hg.lt
    · exact hg.grown hb (own14_blk h.o hg hne)
  have hx : Blk W2 w.heap.size 28 #[.slice A m c, .slice A1 n1 c1, .slice A2 n2 c2, .slice A3 n3 c3, .slice A4 n4 c4, .int .i64 sq] := by
    rcases hb with hb | hb
    · exact h.x.below hb h.x.lt
    · exact h.x.grown hb (fun e => by have := hrow _ e.symm; omega)
  have hy : Blk W2 (w.heap.size + 1) 28 #[.slice none 0 0, .slice none 0 0, .slice none 0 0, .slice none 0 0, .slice none 0 0, .int .i64 0] := by
    rcases hb with hb | hb
    · exact h.y.below hb h.y.lt
    · exact h.y.grown hb (fun e => by have := hrow _ e.symm; omega)
  have hown : ∀ {e : TypeId} {k n : Nat} {v : Value} {xs : List Value}, W.ownsRow (w.heap.size + 1 + 1) e k v n xs → e ≠ 4 → (W2.setCell ⟨w.heap.size, 0, none⟩ (.slice Ag mg cg)).ownsRow (w.heap.size + 1 + 1) e k v n xs := fun {e k n v xs} hg hne => by
    refine ownsRow_setCell_below ?_ (by simp; omega) _
    rcases hb with hb | hb
    · exact own12_keep2 hg hb
    · exact hg.kept hb (own14_ne hg h.o hne)
  refine ⟨hB, ?_, hy.far (by simp) _, ownsRow_setCell_below ho (by simp; omega) _, hl, hown h.o1 (by decide), hown h.o2 (by decide), hown h.o3 (by decide), hown h.o4 (by decide), h.l1, h.l2, h.l3, h.l4, h.m1, h.m2, h.m3, h.m4, h.e⟩
  have h1 := hx.set_ 0 (.slice Ag mg cg)
  simpa using h1
set_option maxHeartbeats 8000000 in
theorem rputCoin14 (v : Value) (S : Sv14) (i : Nat) (xu : Bool) (w : World) (h : St14 w v S) (hi : i ≤ 900) : Calls Tryz.prog 24 #[v, .int .i64 (i : Int), .bool xu] w (RetSt14 w (trim14 { S with C := put14 S.C i xu })) := by
  obtain ⟨A0, A1, A2, A3, A4, n0, n1, n2, n3, n4, c0, c1, c2, c3, c4, sq, rfl, hs⟩ := h
  have hb : Below w.heap.size w ((w.alloc (.cells #[.slice A0 n0 c0, .slice A1 n1 c1, .slice A2 n2 c2, .slice A3 n3 c3, .slice A4 n4 c4, .int .i64 sq] 28)).alloc (.cells #[.slice none 0 0, .slice none 0 0, .slice none 0 0, .slice none 0 0, .slice none 0 0, .int .i64 0] 28)) := by
    refine Below.alloc ?_ (by simp) _
    exact b1' w _
  have hr : Blk ((w.alloc (.cells #[.slice A0 n0 c0, .slice A1 n1 c1, .slice A2 n2 c2, .slice A3 n3 c3, .slice A4 n4 c4, .int .i64 sq] 28)).alloc (.cells #[.slice none 0 0, .slice none 0 0, .slice none 0 0, .slice none 0 0, .slice none 0 0, .int .i64 0] 28)) (w.heap.size + 1) 28 #[.slice none 0 0, .slice none 0 0, .slice none 0 0, .slice none 0 0, .slice none 0 0, .int .i64 0] := by
    have h := Blk.new (w.alloc (.cells #[.slice A0 n0 c0, .slice A1 n1 c1, .slice A2 n2 c2, .slice A3 n3 c3, .slice A4 n4 c4, .int .i64 sq] 28)) 28 #[.slice none 0 0, .slice none 0 0, .slice none 0 0, .slice none 0 0, .slice none 0 0, .int .i64 0]
    rwa [show (w.alloc (.cells #[.slice A0 n0 c0, .slice A1 n1 c1, .slice A2 n2 c2, .slice A3 n3 c3, .slice A4 n4 c4, .int .i64 sq] 28)).heap.size = w.heap.size + 1 by simp] at h
  have hk : Blk ((w.alloc (.cells #[.slice A0 n0 c0, .slice A1 n1 c1, .slice A2 n2 c2, .slice A3 n3 c3, .slice A4 n4 c4, .int .i64 sq] 28)).alloc (.cells #[.slice none 0 0, .slice none 0 0, .slice none 0 0, .slice none 0 0, .slice none 0 0, .int .i64 0] 28)) w.heap.size 28 #[.slice A0 n0 c0, .slice A1 n1 c1, .slice A2 n2 c2, .slice A3 n3 c3, .slice A4 n4 c4, .int .i64 sq] := (Blk.new w 28 #[.slice A0 n0 c0, .slice A1 n1 c1, .slice A2 n2 c2, .slice A3 n3 c3, .slice A4 n4 c4, .int .i64 sq]).alloc _
  have hz : ((w.alloc (.cells #[.slice A0 n0 c0, .slice A1 n1 c1, .slice A2 n2 c2, .slice A3 n3 c3, .slice A4 n4 c4, .int .i64 sq] 28)).alloc (.cells #[.slice none 0 0, .slice none 0 0, .slice none 0 0, .slice none 0 0, .slice none 0 0, .int .i64 0] 28)).heap.size = w.heap.size + 1 + 1 := by simp
  obtain ⟨W0, hW0⟩ : ∃ W, ((w.alloc (.cells #[.slice A0 n0 c0, .slice A1 n1 c1, .slice A2 n2 c2, .slice A3 n3 c3, .slice A4 n4 c4, .int .i64 sq] 28)).alloc (.cells #[.slice none 0 0, .slice none 0 0, .slice none 0 0, .slice none 0 0, .slice none 0 0, .int .i64 0] 28)) = W := ⟨_, rfl⟩
  rw [hW0] at hb hk hr hz
  have HCP := Lib.hid (rcopy14 (.agg #[.slice A0 n0 c0, .slice A1 n1 c1, .slice A2 n2 c2, .slice A3 n3 c3, .slice A4 n4 c4, .int .i64 sq]) S W0 ⟨A0, A1, A2, A3, A4, n0, n1, n2, n3, n4, c0, c1, c2, c3, c4, sq, rfl, ⟨hs.l0, hs.l1, hs.l2, hs.l3, hs.l4, ((hs.r0.below hb (Nat.le_refl _)).more hb.size), ((hs.r1.below hb (Nat.le_refl _)).more hb.size), ((hs.r2.below hb (Nat.le_refl _)).more hb.size), ((hs.r3.below hb (Nat.le_refl _)).more hb.size), ((hs.r4.below hb (Nat.le_refl _)).more hb.size), hs.k0, hs.k1, hs.k2, hs.k3, hs.k4, hs.m0, hs.m1, hs.m2, hs.m3, hs.m4, hs.e⟩⟩)
  have HK0 := Lib.hid hk
  have HR0 := Lib.hid hr
  have HB0 := Lib.hid hb
  have HZ0 := Lib.hid hz
  have q0 := hk.cell 0
  have q1 := hk.cell 1
  have q2 := hk.cell 2
  have q3 := hk.cell 3
  have q4 := hk.cell 4
  have q5 := hk.cell 5
  clear hs hk hr hb hz
  go_enter Tryz.func24, Tryz.ntmps24
  go_wp2_with fail
  refine HCP.out.mono ?_
  rintro e u ⟨B0, B1, B2, B3, B4, m0, m1, m2, m3, m4, d0, d1, d2, d3, d4, sr, rfl, hoa, hbu⟩
  have hk1 := HK0.out.below hbu HK0.out.lt
  have k0 := hk1.cell 0
  have l0 := hk1.frozen 0
  have k1 := hk1.cell 1
  have l1 := hk1.frozen 1
  have k2 := hk1.cell 2
  have l2 := hk1.frozen 2
  have k3 := hk1.cell 3
  have l3 := hk1.frozen 3
  have k4 := hk1.cell 4
  have l4 := hk1.frozen 4
  have k5 := hk1.cell 5
  have l5 := hk1.frozen 5
  have hx1 : Blk ((((((u.setCell ⟨w.heap.size, 0, none⟩ (.slice B0 m0 d0)).setCell ⟨w.heap.size, 1, none⟩ (.slice B1 m1 d1)).setCell ⟨w.heap.size, 2, none⟩ (.slice B2 m2 d2)).setCell ⟨w.heap.size, 3, none⟩ (.slice B3 m3 d3)).setCell ⟨w.heap.size, 4, none⟩ (.slice B4 m4 d4)).setCell ⟨w.heap.size, 5, none⟩ (.int .i64 sr)) w.heap.size 28 #[.slice B0 m0 d0, .slice B1 m1 d1, .slice B2 m2 d2, .slice B3 m3 d3, .slice B4 m4 d4, .int .i64 sr] := by
    have h := ((((((hk1.set_ 0 (.slice B0 m0 d0)).set_ 1 (.slice B1 m1 d1)).set_ 2 (.slice B2 m2 d2)).set_ 3 (.slice B3 m3 d3)).set_ 4 (.slice B4 m4 d4)).set_ 5 (.int .i64 sr))
    simpa using h
  have hy1 := ((((((HR0.out.below hbu HR0.out.lt).far (p := ⟨w.heap.size, 0, none⟩) (by simp) (.slice B0 m0 d0)).far (p := ⟨w.heap.size, 1, none⟩) (by simp) (.slice B1 m1 d1)).far (p := ⟨w.heap.size, 2, none⟩) (by simp) (.slice B2 m2 d2)).far (p := ⟨w.heap.size, 3, none⟩) (by simp) (.slice B3 m3 d3)).far (p := ⟨w.heap.size, 4, none⟩) (by simp) (.slice B4 m4 d4)).far (p := ⟨w.heap.size, 5, none⟩) (by simp) (.int .i64 sr)
  have hb1 := ((((((HB0.out.trans (hbu.mono HB0.out.size)).setCell (p := ⟨w.heap.size, 0, none⟩) (Nat.le_refl _) (.slice B0 m0 d0)).setCell (p := ⟨w.heap.size, 1, none⟩) (Nat.le_refl _) (.slice B1 m1 d1)).setCell (p := ⟨w.heap.size, 2, none⟩) (Nat.le_refl _) (.slice B2 m2 d2)).setCell (p := ⟨w.heap.size, 3, none⟩) (Nat.le_refl _) (.slice B3 m3 d3)).setCell (p := ⟨w.heap.size, 4, none⟩) (Nat.le_refl _) (.slice B4 m4 d4)).setCell (p := ⟨w.heap.size, 5, none⟩) (Nat.le_refl _) (.int .i64 sr)
  have hoa1 := (((((hoa.far (q := ⟨w.heap.size, 0, none⟩) (by rw [HZ0.out]; simp; omega) (.slice B0 m0 d0)).far (q := ⟨w.heap.size, 1, none⟩) (by rw [HZ0.out]; simp; omega) (.slice B1 m1 d1)).far (q := ⟨w.heap.size, 2, none⟩) (by rw [HZ0.out]; simp; omega) (.slice B2 m2 d2)).far (q := ⟨w.heap.size, 3, none⟩) (by rw [HZ0.out]; simp; omega) (.slice B3 m3 d3)).far (q := ⟨w.heap.size, 4, none⟩) (by rw [HZ0.out]; simp; omega) (.slice B4 m4 d4)).far (q := ⟨w.heap.size, 5, none⟩) (by rw [HZ0.out]; simp; omega) (.int .i64 sr)
  obtain ⟨W1, hW1⟩ : ∃ W, ((((((u.setCell ⟨w.heap.size, 0, none⟩ (.slice B0 m0 d0)).setCell ⟨w.heap.size, 1, none⟩ (.slice B1 m1 d1)).setCell ⟨w.heap.size, 2, none⟩ (.slice B2 m2 d2)).setCell ⟨w.heap.size, 3, none⟩ (.slice B3 m3 d3)).setCell ⟨w.heap.size, 4, none⟩ (.slice B4 m4 d4)).setCell ⟨w.heap.size, 5, none⟩ (.int .i64 sr)) = W := ⟨_, rfl⟩
  rw [hW1] at hx1 hy1 hb1 hoa1
  rw [HZ0.out] at hoa1
  have HT : Hid (Pm14C w S xu B1 B2 B3 B4 m1 m2 m3 m4 d1 d2 d3 d4 sr B0 m0 d0 (pad14 S.C m0) W1) := Lib.hid ⟨hb1, hx1, hy1, by rw [show pad14 S.C m0 = S.C by rw [← hoa1.l0, pad14_self]]; exact hoa1.o0, pad14_len (by rw [hoa1.l0]; exact Nat.le_refl _), hoa1.o1, hoa1.o2, hoa1.o3, hoa1.o4, hoa1.l1, hoa1.l2, hoa1.l3, hoa1.l4, hoa1.m1, hoa1.m2, hoa1.m3, hoa1.m4, hoa1.e⟩
  have HLX := Lib.hid hoa1.l0
  have HMX := Lib.hid hoa1.m0
  clear HCP hbu hoa hk1 hx1 hy1 hb1 hoa1 q0 q1 q2 q3 q4 q5
  go_wp2_with fail
  clear k0 l0 k1 l1 k2 l2 k3 l3 k4 l4 k5 l5 hW1
  go_loopw [9] (fun _ wr => ∃ (A : Option Addr) (m c : Nat), m0 ≤ m ∧ m ≤ max m0 (i + 1) ∧ Hid (Pm14C w S xu B1 B2 B3 B4 m1 m2 m3 m4 d1 d2 d3 d4 sr A m c (pad14 S.C m) wr)) (fun _ wr => i + 1 - len14 wr w.heap.size 0)
  case atStart => exact ⟨B0, m0, d0, Nat.le_refl _, by omega, HT⟩
  case round =>
    obtain ⟨A, m, c, hm1, hm2, HW⟩ := hrel
    have t0 := HW.out.x.cell 0
    have tf := HW.out.x.frozen 0
    have hnb := HMX.out
    by_cases hmi : m ≤ i
    · have i1 : (m : Int) ≤ (i : Int) := by omega
      have hbz := b1' wr (.cells #[.bool false] 4)
      have hkz := Blk.new wr 4 #[.bool false]
      have hoz := own12_keep2 HW.out.o hbz
      have hsz : w.heap.size + 1 + 1 ≤ wr.heap.size := HW.out.y.lt
      have hsy : (wr.alloc (.cells #[.bool false] 4)).heap.size = wr.heap.size + 1 := by simp
      obtain ⟨Y, hY⟩ : ∃ Y, wr.alloc (.cells #[.bool false] 4) = Y := ⟨_, rfl⟩
      rw [hY] at hbz hkz hoz hsy
      have hrv : Rv Y Y.heap.size (some ⟨wr.heap.size, 0, none⟩) [.bool false] := fun _ => ⟨wr.heap.size, 0, rfl, by omega, fun j v hj => by rw [Nat.zero_add, hkz.cell]; simpa using hj⟩
      obtain ⟨A2, c2, w2, hrun, hown, hg⟩ := run_append_14 (P := Tryz.prog) Y (w.heap.size + 1 + 1) 22 22 4 _ 1 1 Tryz.underlying22 info14C rfl (by omega) (by omega) _ m _ hoz Y.heap.size (some ⟨wr.heap.size, 0, none⟩) [.bool false] 1 1 rfl hrv (by simp [Value.oneCell']) (by omega) (by omega)
      have hpad : fl14 clC (pad14 S.C m) ++ [.bool false] = fl14 clC (pad14 S.C (m + 1)) := by
        rw [pad14_next (by rw [HLX.out]; exact hm1), fl14_append]
        rfl
      rw [hpad] at hown
      have hgY : Pm14C w S xu B1 B2 B3 B4 m1 m2 m3 m4 d1 d2 d3 d4 sr A m c (pad14 S.C m) (Y.setCell ⟨w.heap.size, 0, none⟩ (.slice A m c)) := HW.out.grow (.inl hbz) hoz HW.out.l
      have hYx := HW.out.x.below hbz HW.out.x.lt
      have hb2 : wr.grownBy w2 (Value.slice A m c).ownBlock := ⟨hg.os.trans hbz.os, hg.tape.trans hbz.tape, hg.output.trans hbz.output, Nat.le_trans hbz.size hg.size, fun q hq hr => (hg.block q (by omega) hr).trans (hbz.block q hq)⟩
      have hw2 := HW.out.grow (.inr hb2) hown (pad14_len (by rw [HLX.out]; omega))
      have u0 := hYx.cell 0
      have hx2 := HW.out.x.grown hb2 (fun e => by have := (HW.out.o.lt _ e.symm).1; omega)
      have x0 := hx2.cell 0
      have xf := hx2.frozen 0
      have HRUN := Lib.hid hrun
      have HW2 := Lib.hid hw2
      have HM := Lib.hid (len14_of (hw2.x.cell 0))
      have HM0 := Lib.hid (len14_of t0)
      clear hbz hkz hoz hsz hsy hrv hrun hown hg hpad hgY hYx hb2 hw2 hx2
      go_wp2_with (at_builtin; go_loud (refine wpList_append_14 _ rfl (.tmp 15) (.tmp 16) 22 rfl _ _ _ _ rfl rfl HRUN.out ?_))
      go_roundw
      case rel => exact ⟨A2, m + 1, c2, by omega, by omega, HW2⟩
      case measure => rw [HM.out, HM0.out]; omega
    · have hme : m = max m0 (i + 1) := by omega
      have i1 : ¬ (m : Int) ≤ (i : Int) := by omega
      have hlen : (pad14 S.C m).length = m := HW.out.l
      obtain ⟨g, hA, hg0, hcl, hfr, hown, hgr⟩ := own14_set len14C (by omega) HW.out.o (i := i) (by rw [hlen]; omega) (xu : Bool)
      subst hA
      have hpp : (pad14 S.C m).set i xu = put14 S.C i xu := by rw [hme, ← HLX.out, put14_pad]
      rw [hpp] at hown
      have hsc : wr.setCells g (i * 1) (clC xu) = (wr.setCell ⟨g, i, none⟩ (.bool xu)) := by rw [Nat.mul_one]; rfl
      rw [hsc] at hown hgr
      obtain ⟨z0, e0⟩ := hcl 0 (by omega)
      have f0 := hfr (i)
      rw [Nat.mul_one, Nat.add_zero] at e0
      have j0 : (0 : Int) ≤ (i : Int) := by omega
      have j1 : (i : Int) < (m : Int) := by omega
      have hb2 : Below w.heap.size w (wr.setCell ⟨g, i, none⟩ (.bool xu)) := HW.out.b.grown hgr HW.out.b.size (fun r hr => by cases hr; omega)
      have hx2 := HW.out.x.grown hgr (by intro e; injection e with e; omega)
      have hy2 := HW.out.y.grown hgr (by intro e; injection e with e; omega)
      have hoth : ∀ {e : TypeId} {k n : Nat} {v : Value} {xs : List Value}, wr.ownsRow (w.heap.size + 1 + 1) e k v n xs → e ≠ 4 → (wr.setCell ⟨g, i, none⟩ (.bool xu)).ownsRow (w.heap.size + 1 + 1) e k v n xs := fun {e k n v xs} hg hne => hg.kept hgr (own14_ne hg HW.out.o hne)
      have hoa : OA14 (wr.setCell ⟨g, i, none⟩ (.bool xu)) (w.heap.size + 1 + 1) { S with C := put14 S.C i xu } (some ⟨g, 0, none⟩) B1 B2 B3 B4 m m1 m2 m3 m4 c d1 d2 d3 d4 sr := ⟨hown, hoth HW.out.o1 (by decide), hoth HW.out.o2 (by decide), hoth HW.out.o3 (by decide), hoth HW.out.o4 (by decide), by rw [put14_len, HLX.out, hme], HW.out.l1, HW.out.l2, HW.out.l3, HW.out.l4, by omega, HW.out.m1, HW.out.m2, HW.out.m3, HW.out.m4, HW.out.e⟩
      obtain ⟨W3, hW3⟩ : ∃ W, (wr.setCell ⟨g, i, none⟩ (.bool xu)) = W := ⟨_, rfl⟩
      rw [hW3] at hb2 hx2 hy2 hoa
      have HTR := Lib.hid (rtrim14 (.agg #[.slice (some ⟨g, 0, none⟩) m c, .slice B1 m1 d1, .slice B2 m2 d2, .slice B3 m3 d3, .slice B4 m4 d4, .int .i64 sr]) _ W3 ⟨(some ⟨g, 0, none⟩), B1, B2, B3, B4, m, m1, m2, m3, m4, c, d1, d2, d3, d4, sr, rfl, hoa.sa⟩)
      have s0 := hx2.cell 0
      have s1 := hx2.cell 1
      have s2 := hx2.cell 2
      have s3 := hx2.cell 3
      have s4 := hx2.cell 4
      have s5 := hx2.cell 5
      have HB2 := Lib.hid hb2
      have HY2 := Lib.hid hy2
      have HSZ : Hid (w.heap.size + 1 + 1 ≤ W3.heap.size) := Lib.hid hy2.lt
      clear hlen hg0 hcl hfr hown hgr hpp hb2 hx2 hy2 hoth hoa hsc hme hm1 hm2 hmi
      go_wp2_with fail
      refine HTR.out.mono ?_
      rintro e w4 ⟨C0, C1, C2, C3, C4, p0, p1, p2, p3, p4, q0, q1, q2, q3, q4, st, rfl, hs2, hf2, hb4⟩
      have hR := HY2.out.below hb4 HY2.out.lt
      have hB := HB2.out.trans (hb4.mono HB2.out.size)
      have hk6 : Blk ((((((w4.setCell ⟨w.heap.size + 1, 0, none⟩ (.slice C0 p0 q0)).setCell ⟨w.heap.size + 1, 1, none⟩ (.slice C1 p1 q1)).setCell ⟨w.heap.size + 1, 2, none⟩ (.slice C2 p2 q2)).setCell ⟨w.heap.size + 1, 3, none⟩ (.slice C3 p3 q3)).setCell ⟨w.heap.size + 1, 4, none⟩ (.slice C4 p4 q4)).setCell ⟨w.heap.size + 1, 5, none⟩ (.int .i64 st)) (w.heap.size + 1) 28 #[.slice C0 p0 q0, .slice C1 p1 q1, .slice C2 p2 q2, .slice C3 p3 q3, .slice C4 p4 q4, .int .i64 st] := by
        have h := (((((hR.set_ 0 (.slice C0 p0 q0)).set_ 1 (.slice C1 p1 q1)).set_ 2 (.slice C2 p2 q2)).set_ 3 (.slice C3 p3 q3)).set_ 4 (.slice C4 p4 q4)).set_ 5 (.int .i64 st)
        simpa using h
      have HB6 := Lib.hid ((((((hB.setCell (p := ⟨w.heap.size + 1, 0, none⟩) (by simp) (.slice C0 p0 q0)).setCell (p := ⟨w.heap.size + 1, 1, none⟩) (by simp) (.slice C1 p1 q1)).setCell (p := ⟨w.heap.size + 1, 2, none⟩) (by simp) (.slice C2 p2 q2)).setCell (p := ⟨w.heap.size + 1, 3, none⟩) (by simp) (.slice C3 p3 q3)).setCell (p := ⟨w.heap.size + 1, 4, none⟩) (by simp) (.slice C4 p4 q4)).setCell (p := ⟨w.heap.size + 1, 5, none⟩) (by simp) (.int .i64 st))
      have HX := Lib.hid (sa14_set (sa14_set (sa14_set (sa14_set (sa14_set (sa14_set hs2 hf2 (q := ⟨w.heap.size + 1, 0, none⟩) (by have := HSZ.out; simp; omega) (.slice C0 p0 q0)) hf2 (q := ⟨w.heap.size + 1, 1, none⟩) (by have := HSZ.out; simp; omega) (.slice C1 p1 q1)) hf2 (q := ⟨w.heap.size + 1, 2, none⟩) (by have := HSZ.out; simp; omega) (.slice C2 p2 q2)) hf2 (q := ⟨w.heap.size + 1, 3, none⟩) (by have := HSZ.out; simp; omega) (.slice C3 p3 q3)) hf2 (q := ⟨w.heap.size + 1, 4, none⟩) (by have := HSZ.out; simp; omega) (.slice C4 p4 q4)) hf2 (q := ⟨w.heap.size + 1, 5, none⟩) (by have := HSZ.out; simp; omega) (.int .i64 st))
      have HF2 := Lib.hid (hf2.more (L' := w.heap.size) HB2.out.size)
      have y0 := hR.cell 0
      have yf0 := hR.frozen 0
      have w0_ := hk6.cell 0
      have g0 := hk6.frozen 0
      have y1 := hR.cell 1
      have yf1 := hR.frozen 1
      have w1_ := hk6.cell 1
      have g1 := hk6.frozen 1
      have y2 := hR.cell 2
      have yf2 := hR.frozen 2
      have w2_ := hk6.cell 2
      have g2 := hk6.frozen 2
      have y3 := hR.cell 3
      have yf3 := hR.frozen 3
      have w3_ := hk6.cell 3
      have g3 := hk6.frozen 3
      have y4 := hR.cell 4
      have yf4 := hR.frozen 4
      have w4_ := hk6.cell 4
      have g4 := hk6.frozen 4
      have y5 := hR.cell 5
      have yf5 := hR.frozen 5
      have w5_ := hk6.cell 5
      have g5 := hk6.frozen 5
      clear HTR hb4 hR hB hk6 hs2 hf2
      go_wp2_with fail
      exact bodyPost_ret (v := .agg #[.slice C0 p0 q0, .slice C1 p1 q1, .slice C2 p2 q2, .slice C3 p3 q3, .slice C4 p4 q4, .int .i64 st]) (by simp [results, Tryz.results24, go_sem, w0_, w1_, w2_, w3_, w4_, w5_, g0, g1, g2, g3, g4, g5]) rfl ⟨C0, C1, C2, C3, C4, p0, p1, p2, p3, p4, q0, q1, q2, q3, q4, st, rfl, HX.out, HF2.out, HB6.out⟩
/-- While zero ones are put behind a list: ys is what it is by now. -/
structure Pm14T (w : World) (S : Sv14) (xu : Bool) (xc : Int) (xa : Int) (xk : Int) (xt : Int) (xo : Bool) (A0 A2 A3 A4 : Option Addr) (n0 n2 n3 n4 c0 c2 c3 c4 : Nat) (sq : Int) (A : Option Addr) (m c : Nat) (ys : List Tk14) (W : World) : Prop where
  b : Below w.heap.size w W
  x : Blk W w.heap.size 28 #[.slice A0 n0 c0, .slice A m c, .slice A2 n2 c2, .slice A3 n3 c3, .slice A4 n4 c4, .int .i64 sq]
  z : Blk W (w.heap.size + 1) 43 #[.bool xu, .int .i64 xc, .int .i64 xa, .int .i64 xk, .int .i64 xt, .bool xo]
  y : Blk W (w.heap.size + 2) 28 #[.slice none 0 0, .slice none 0 0, .slice none 0 0, .slice none 0 0, .slice none 0 0, .int .i64 0]
  o : W.ownsRow (w.heap.size + 2 + 1) 43 6 (.slice A m c) m (fl14 clT ys)
  l : ys.length = m
  o0 : W.ownsRow (w.heap.size + 2 + 1) 4 1 (.slice A0 n0 c0) n0 (fl14 clC S.C)
  o2 : W.ownsRow (w.heap.size + 2 + 1) 45 5 (.slice A2 n2 c2) n2 (fl14 clH S.H)
  o3 : W.ownsRow (w.heap.size + 2 + 1) 47 2 (.slice A3 n3 c3) n3 (fl14 clL S.L)
  o4 : W.ownsRow (w.heap.size + 2 + 1) 3 1 (.slice A4 n4 c4) n4 (fl14 clI S.Q)
  l0 : S.C.length = n0
  l2 : S.H.length = n2
  l3 : S.L.length = n3
  l4 : S.Q.length = n4
  m0 : n0 ≤ 1000
  m2 : n2 ≤ 1000
  m3 : n3 ≤ 1000
  m4 : n4 ≤ 1000
  e : S.q = sq
theorem Pm14T.grow {w : World} {S : Sv14} {xu : Bool} {xc : Int} {xa : Int} {xk : Int} {xt : Int} {xo : Bool} {A0 A2 A3 A4 : Option Addr} {n0 n2 n3 n4 c0 c2 c3 c4 : Nat} {sq : Int} {A : Option Addr} {m c : Nat} {ys : List Tk14} {W : World} {W2 : World} {Ag : Option Addr} {cg mg : Nat} {yg : List Tk14} (h : Pm14T w S xu xc xa xk xt xo A0 A2 A3 A4 n0 n2 n3 n4 c0 c2 c3 c4 sq A m c ys W) (hb : Below W.heap.size W W2 ∨ W.grownBy W2 (Value.slice A m c).ownBlock) (ho : W2.ownsRow (w.heap.size + 2 + 1) 43 6 (.slice Ag mg cg) mg (fl14 clT yg)) (hl : yg.length = mg) :
    Pm14T w S xu xc xa xk xt xo A0 A2 A3 A4 n0 n2 n3 n4 c0 c2 c3 c4 sq Ag mg cg yg (W2.setCell ⟨w.heap.size, 1, none⟩ (.slice Ag mg cg)) := by
  have hrow : ∀ r, (Value.slice A m c).ownBlock = some r → w.heap.size + 2 + 1 ≤ r := fun r hr => (h.o.lt r hr).1
  have hB : Below w.heap.size w (W2.setCell ⟨w.heap.size, 1, none⟩ (.slice Ag mg cg)) := by
    rcases hb with hb | hb
    · exact (h.b.trans (hb.mono h.b.size)).setCell (Nat.le_refl _) _
    · exact (h.b.grown hb h.b.size (fun r hr => by have := hrow r hr; omega)).setCell (Nat.le_refl _) _
  have hblk : ∀ {g : Nat} {t : TypeId} {cs : Array Value}, Blk W g t cs → t ≠ 43 → Blk W2 g t cs := fun {g t cs} hg hne => by
    rcases hb with hb | hb
    · exact hg.below hb hg.lt
    · exact hg.grown hb (own14_blk h.o hg hne)
  have hx : Blk W2 w.heap.size 28 #[.slice A0 n0 c0, .slice A m c, .slice A2 n2 c2, .slice A3 n3 c3, .slice A4 n4 c4, .int .i64 sq] := by
    rcases hb with hb | hb
    · exact h.x.below hb h.x.lt
    · exact h.x.grown hb (fun e => by have := hrow _ e.symm; omega)
  have hy : Blk W2 (w.heap.size + 2) 28 #[.slice none 0 0, .slice none 0 0, .slice none 0 0, .slice none 0 0, .slice none 0 0, .int .i64 0] := by
    rcases hb with hb | hb
    · exact h.y.below hb h.y.lt
    · exact h.y.grown hb (fun e => by have := hrow _ e.symm; omega)
  have hz : Blk W2 (w.heap.size + 1) 43 #[.bool xu, .int .i64 xc, .int .i64 xa, .int .i64 xk, .int .i64 xt, .bool xo] := by
    rcases hb with hb | hb
    · exact h.z.below hb h.z.lt
    · exact h.z.grown hb (fun e => by have := hrow _ e.symm; omega)
  have hown : ∀ {e : TypeId} {k n : Nat} {v : Value} {xs : List Value}, W.ownsRow (w.heap.size + 2 + 1) e k v n xs → e ≠ 43 → (W2.setCell ⟨w.heap.size, 1, none⟩ (.slice Ag mg cg)).ownsRow (w.heap.size + 2 + 1) e k v n xs := fun {e k n v xs} hg hne => by
    refine ownsRow_setCell_below ?_ (by simp; omega) _
    rcases hb with hb | hb
    · exact own12_keep2 hg hb
    · exact hg.kept hb (own14_ne hg h.o hne)
  refine ⟨hB, ?_, hz.far (by simp) _, hy.far (by simp) _, ownsRow_setCell_below ho (by simp; omega) _, hl, hown h.o0 (by decide), hown h.o2 (by decide), hown h.o3 (by decide), hown h.o4 (by decide), h.l0, h.l2, h.l3, h.l4, h.m0, h.m2, h.m3, h.m4, h.e⟩
  have h1 := hx.set_ 1 (.slice Ag mg cg)
  simpa using h1
set_option maxHeartbeats 8000000 in
theorem rputTicket14 (v : Value) (S : Sv14) (i : Nat) (xu : Bool) (xc : Int) (xa : Int) (xk : Int) (xt : Int) (xo : Bool) (w : World) (h : St14 w v S) (hi : i ≤ 900) : Calls Tryz.prog 25 #[v, .int .i64 (i : Int), .agg #[.bool xu, .int .i64 xc, .int .i64 xa, .int .i64 xk, .int .i64 xt, .bool xo]] w (RetSt14 w (trim14 { S with T := put14 S.T i ⟨xu, xc, xa, xk, xt, xo⟩ })) := by
  obtain ⟨A0, A1, A2, A3, A4, n0, n1, n2, n3, n4, c0, c1, c2, c3, c4, sq, rfl, hs⟩ := h
  have hb : Below w.heap.size w (((w.alloc (.cells #[.slice A0 n0 c0, .slice A1 n1 c1, .slice A2 n2 c2, .slice A3 n3 c3, .slice A4 n4 c4, .int .i64 sq] 28)).alloc (.cells #[.bool xu, .int .i64 xc, .int .i64 xa, .int .i64 xk, .int .i64 xt, .bool xo] 43)).alloc (.cells #[.slice none 0 0, .slice none 0 0, .slice none 0 0, .slice none 0 0, .slice none 0 0, .int .i64 0] 28)) := by
    refine Below.alloc ?_ (by simp; try omega) _
    refine Below.alloc ?_ (by simp) _
    exact b1' w _
  have hr : Blk (((w.alloc (.cells #[.slice A0 n0 c0, .slice A1 n1 c1, .slice A2 n2 c2, .slice A3 n3 c3, .slice A4 n4 c4, .int .i64 sq] 28)).alloc (.cells #[.bool xu, .int .i64 xc, .int .i64 xa, .int .i64 xk, .int .i64 xt, .bool xo] 43)).alloc (.cells #[.slice none 0 0, .slice none 0 0, .slice none 0 0, .slice none 0 0, .slice none 0 0, .int .i64 0] 28)) (w.heap.size + 2) 28 #[.slice none 0 0, .slice none 0 0, .slice none 0 0, .slice none 0 0, .slice none 0 0, .int .i64 0] := by
    have h := Blk.new ((w.alloc (.cells #[.slice A0 n0 c0, .slice A1 n1 c1, .slice A2 n2 c2, .slice A3 n3 c3, .slice A4 n4 c4, .int .i64 sq] 28)).alloc (.cells #[.bool xu, .int .i64 xc, .int .i64 xa, .int .i64 xk, .int .i64 xt, .bool xo] 43)) 28 #[.slice none 0 0, .slice none 0 0, .slice none 0 0, .slice none 0 0, .slice none 0 0, .int .i64 0]
    rwa [show ((w.alloc (.cells #[.slice A0 n0 c0, .slice A1 n1 c1, .slice A2 n2 c2, .slice A3 n3 c3, .slice A4 n4 c4, .int .i64 sq] 28)).alloc (.cells #[.bool xu, .int .i64 xc, .int .i64 xa, .int .i64 xk, .int .i64 xt, .bool xo] 43)).heap.size = w.heap.size + 2 by simp] at h
  have hk : Blk (((w.alloc (.cells #[.slice A0 n0 c0, .slice A1 n1 c1, .slice A2 n2 c2, .slice A3 n3 c3, .slice A4 n4 c4, .int .i64 sq] 28)).alloc (.cells #[.bool xu, .int .i64 xc, .int .i64 xa, .int .i64 xk, .int .i64 xt, .bool xo] 43)).alloc (.cells #[.slice none 0 0, .slice none 0 0, .slice none 0 0, .slice none 0 0, .slice none 0 0, .int .i64 0] 28)) w.heap.size 28 #[.slice A0 n0 c0, .slice A1 n1 c1, .slice A2 n2 c2, .slice A3 n3 c3, .slice A4 n4 c4, .int .i64 sq] := ((Blk.new w 28 #[.slice A0 n0 c0, .slice A1 n1 c1, .slice A2 n2 c2, .slice A3 n3 c3, .slice A4 n4 c4, .int .i64 sq]).alloc _).alloc _
  have hx : Blk (((w.alloc (.cells #[.slice A0 n0 c0, .slice A1 n1 c1, .slice A2 n2 c2, .slice A3 n3 c3, .slice A4 n4 c4, .int .i64 sq] 28)).alloc (.cells #[.bool xu, .int .i64 xc, .int .i64 xa, .int .i64 xk, .int .i64 xt, .bool xo] 43)).alloc (.cells #[.slice none 0 0, .slice none 0 0, .slice none 0 0, .slice none 0 0, .slice none 0 0, .int .i64 0] 28)) (w.heap.size + 1) 43 #[.bool xu, .int .i64 xc, .int .i64 xa, .int .i64 xk, .int .i64 xt, .bool xo] := by
    have h := (Blk.new (w.alloc (.cells #[.slice A0 n0 c0, .slice A1 n1 c1, .slice A2 n2 c2, .slice A3 n3 c3, .slice A4 n4 c4, .int .i64 sq] 28)) 43 #[.bool xu, .int .i64 xc, .int .i64 xa, .int .i64 xk, .int .i64 xt, .bool xo]).alloc (.cells #[.slice none 0 0, .slice none 0 0, .slice none 0 0, .slice none 0 0, .slice none 0 0, .int .i64 0] 28)
    rwa [show (w.alloc (.cells #[.slice A0 n0 c0, .slice A1 n1 c1, .slice A2 n2 c2, .slice A3 n3 c3, .slice A4 n4 c4, .int .i64 sq] 28)).heap.size = w.heap.size + 1 by simp] at h
  have hz : (((w.alloc (.cells #[.slice A0 n0 c0, .slice A1 n1 c1, .slice A2 n2 c2, .slice A3 n3 c3, .slice A4 n4 c4, .int .i64 sq] 28)).alloc (.cells #[.bool xu, .int .i64 xc, .int .i64 xa, .int .i64 xk, .int .i64 xt, .bool xo] 43)).alloc (.cells #[.slice none 0 0, .slice none 0 0, .slice none 0 0, .slice none 0 0, .slice none 0 0, .int .i64 0] 28)).heap.size = w.heap.size + 2 + 1 := by simp
  obtain ⟨W0, hW0⟩ : ∃ W, (((w.alloc (.cells #[.slice A0 n0 c0, .slice A1 n1 c1, .slice A2 n2 c2, .slice A3 n3 c3, .slice A4 n4 c4, .int .i64 sq] 28)).alloc (.cells #[.bool xu, .int .i64 xc, .int .i64 xa, .int .i64 xk, .int .i64 xt, .bool xo] 43)).alloc (.cells #[.slice none 0 0, .slice none 0 0, .slice none 0 0, .slice none 0 0, .slice none 0 0, .int .i64 0] 28)) = W := ⟨_, rfl⟩
  rw [hW0] at hb hk hr hz hx
  have HCP := Lib.hid (rcopy14 (.agg #[.slice A0 n0 c0, .slice A1 n1 c1, .slice A2 n2 c2, .slice A3 n3 c3, .slice A4 n4 c4, .int .i64 sq]) S W0 ⟨A0, A1, A2, A3, A4, n0, n1, n2, n3, n4, c0, c1, c2, c3, c4, sq, rfl, ⟨hs.l0, hs.l1, hs.l2, hs.l3, hs.l4, ((hs.r0.below hb (Nat.le_refl _)).more hb.size), ((hs.r1.below hb (Nat.le_refl _)).more hb.size), ((hs.r2.below hb (Nat.le_refl _)).more hb.size), ((hs.r3.below hb (Nat.le_refl _)).more hb.size), ((hs.r4.below hb (Nat.le_refl _)).more hb.size), hs.k0, hs.k1, hs.k2, hs.k3, hs.k4, hs.m0, hs.m1, hs.m2, hs.m3, hs.m4, hs.e⟩⟩)
  have HK0 := Lib.hid hk
  have HR0 := Lib.hid hr
  have HB0 := Lib.hid hb
  have HZ0 := Lib.hid hz
  have q0 := hk.cell 0
  have q1 := hk.cell 1
  have q2 := hk.cell 2
  have q3 := hk.cell 3
  have q4 := hk.cell 4
  have q5 := hk.cell 5
  have HX0 := Lib.hid hx
  clear hs hk hr hb hz hx
  go_enter Tryz.func25, Tryz.ntmps25
  go_wp2_with fail
  refine HCP.out.mono ?_
  rintro e u ⟨B0, B1, B2, B3, B4, m0, m1, m2, m3, m4, d0, d1, d2, d3, d4, sr, rfl, hoa, hbu⟩
  have hk1 := HK0.out.below hbu HK0.out.lt
  have k0 := hk1.cell 0
  have l0 := hk1.frozen 0
  have k1 := hk1.cell 1
  have l1 := hk1.frozen 1
  have k2 := hk1.cell 2
  have l2 := hk1.frozen 2
  have k3 := hk1.cell 3
  have l3 := hk1.frozen 3
  have k4 := hk1.cell 4
  have l4 := hk1.frozen 4
  have k5 := hk1.cell 5
  have l5 := hk1.frozen 5
  have hx1 : Blk ((((((u.setCell ⟨w.heap.size, 0, none⟩ (.slice B0 m0 d0)).setCell ⟨w.heap.size, 1, none⟩ (.slice B1 m1 d1)).setCell ⟨w.heap.size, 2, none⟩ (.slice B2 m2 d2)).setCell ⟨w.heap.size, 3, none⟩ (.slice B3 m3 d3)).setCell ⟨w.heap.size, 4, none⟩ (.slice B4 m4 d4)).setCell ⟨w.heap.size, 5, none⟩ (.int .i64 sr)) w.heap.size 28 #[.slice B0 m0 d0, .slice B1 m1 d1, .slice B2 m2 d2, .slice B3 m3 d3, .slice B4 m4 d4, .int .i64 sr] := by
    have h := ((((((hk1.set_ 0 (.slice B0 m0 d0)).set_ 1 (.slice B1 m1 d1)).set_ 2 (.slice B2 m2 d2)).set_ 3 (.slice B3 m3 d3)).set_ 4 (.slice B4 m4 d4)).set_ 5 (.int .i64 sr))
    simpa using h
  have hy1 := ((((((HR0.out.below hbu HR0.out.lt).far (p := ⟨w.heap.size, 0, none⟩) (by simp) (.slice B0 m0 d0)).far (p := ⟨w.heap.size, 1, none⟩) (by simp) (.slice B1 m1 d1)).far (p := ⟨w.heap.size, 2, none⟩) (by simp) (.slice B2 m2 d2)).far (p := ⟨w.heap.size, 3, none⟩) (by simp) (.slice B3 m3 d3)).far (p := ⟨w.heap.size, 4, none⟩) (by simp) (.slice B4 m4 d4)).far (p := ⟨w.heap.size, 5, none⟩) (by simp) (.int .i64 sr)
  have hz1 := ((((((HX0.out.below hbu HX0.out.lt).far (p := ⟨w.heap.size, 0, none⟩) (by simp) (.slice B0 m0 d0)).far (p := ⟨w.heap.size, 1, none⟩) (by simp) (.slice B1 m1 d1)).far (p := ⟨w.heap.size, 2, none⟩) (by simp) (.slice B2 m2 d2)).far (p := ⟨w.heap.size, 3, none⟩) (by simp) (.slice B3 m3 d3)).far (p := ⟨w.heap.size, 4, none⟩) (by simp) (.slice B4 m4 d4)).far (p := ⟨w.heap.size, 5, none⟩) (by simp) (.int .i64 sr)
  have hb1 := ((((((HB0.out.trans (hbu.mono HB0.out.size)).setCell (p := ⟨w.heap.size, 0, none⟩) (Nat.le_refl _) (.slice B0 m0 d0)).setCell (p := ⟨w.heap.size, 1, none⟩) (Nat.le_refl _) (.slice B1 m1 d1)).setCell (p := ⟨w.heap.size, 2, none⟩) (Nat.le_refl _) (.slice B2 m2 d2)).setCell (p := ⟨w.heap.size, 3, none⟩) (Nat.le_refl _) (.slice B3 m3 d3)).setCell (p := ⟨w.heap.size, 4, none⟩) (Nat.le_refl _) (.slice B4 m4 d4)).setCell (p := ⟨w.heap.size, 5, none⟩) (Nat.le_refl _) (.int .i64 sr)
  have hoa1 := (((((hoa.far (q := ⟨w.heap.size, 0, none⟩) (by rw [HZ0.out]; simp; omega) (.slice B0 m0 d0)).far (q := ⟨w.heap.size, 1, none⟩) (by rw [HZ0.out]; simp; omega) (.slice B1 m1 d1)).far (q := ⟨w.heap.size, 2, none⟩) (by rw [HZ0.out]; simp; omega) (.slice B2 m2 d2)).far (q := ⟨w.heap.size, 3, none⟩) (by rw [HZ0.out]; simp; omega) (.slice B3 m3 d3)).far (q := ⟨w.heap.size, 4, none⟩) (by rw [HZ0.out]; simp; omega) (.slice B4 m4 d4)).far (q := ⟨w.heap.size, 5, none⟩) (by rw [HZ0.out]; simp; omega) (.int .i64 sr)
  obtain ⟨W1, hW1⟩ : ∃ W, ((((((u.setCell ⟨w.heap.size, 0, none⟩ (.slice B0 m0 d0)).setCell ⟨w.heap.size, 1, none⟩ (.slice B1 m1 d1)).setCell ⟨w.heap.size, 2, none⟩ (.slice B2 m2 d2)).setCell ⟨w.heap.size, 3, none⟩ (.slice B3 m3 d3)).setCell ⟨w.heap.size, 4, none⟩ (.slice B4 m4 d4)).setCell ⟨w.heap.size, 5, none⟩ (.int .i64 sr)) = W := ⟨_, rfl⟩
  rw [hW1] at hx1 hy1 hb1 hoa1 hz1
  rw [HZ0.out] at hoa1
  have HT : Hid (Pm14T w S xu xc xa xk xt xo B0 B2 B3 B4 m0 m2 m3 m4 d0 d2 d3 d4 sr B1 m1 d1 (pad14 S.T m1) W1) := Lib.hid ⟨hb1, hx1, hz1, hy1, by rw [show pad14 S.T m1 = S.T by rw [← hoa1.l1, pad14_self]]; exact hoa1.o1, pad14_len (by rw [hoa1.l1]; exact Nat.le_refl _), hoa1.o0, hoa1.o2, hoa1.o3, hoa1.o4, hoa1.l0, hoa1.l2, hoa1.l3, hoa1.l4, hoa1.m0, hoa1.m2, hoa1.m3, hoa1.m4, hoa1.e⟩
  have HLX := Lib.hid hoa1.l1
  have HMX := Lib.hid hoa1.m1
  clear HCP hbu hoa hk1 hx1 hy1 hb1 hoa1 q0 q1 q2 q3 q4 q5 hz1
  go_wp2_with fail
  clear k0 l0 k1 l1 k2 l2 k3 l3 k4 l4 k5 l5 hW1
  go_loopw [9] (fun _ wr => ∃ (A : Option Addr) (m c : Nat), m1 ≤ m ∧ m ≤ max m1 (i + 1) ∧ Hid (Pm14T w S xu xc xa xk xt xo B0 B2 B3 B4 m0 m2 m3 m4 d0 d2 d3 d4 sr A m c (pad14 S.T m) wr)) (fun _ wr => i + 1 - len14 wr w.heap.size 1)
  case atStart => exact ⟨B1, m1, d1, Nat.le_refl _, by omega, HT⟩
  case round =>
    obtain ⟨A, m, c, hm1, hm2, HW⟩ := hrel
    have t0 := HW.out.x.cell 1
    have tf := HW.out.x.frozen 1
    have hnb := HMX.out
    by_cases hmi : m ≤ i
    · have i1 : (m : Int) ≤ (i : Int) := by omega
      have hbz := b1' wr (.cells #[.bool false, .int .i64 0, .int .i64 0, .int .i64 0, .int .i64 0, .bool false] 43)
      have hkz := Blk.new wr 43 #[.bool false, .int .i64 0, .int .i64 0, .int .i64 0, .int .i64 0, .bool false]
      have hoz := own12_keep2 HW.out.o hbz
      have hsz : w.heap.size + 2 + 1 ≤ wr.heap.size := HW.out.y.lt
      have hsy : (wr.alloc (.cells #[.bool false, .int .i64 0, .int .i64 0, .int .i64 0, .int .i64 0, .bool false] 43)).heap.size = wr.heap.size + 1 := by simp
      obtain ⟨Y, hY⟩ : ∃ Y, wr.alloc (.cells #[.bool false, .int .i64 0, .int .i64 0, .int .i64 0, .int .i64 0, .bool false] 43) = Y := ⟨_, rfl⟩
      rw [hY] at hbz hkz hoz hsy
      have hrv : Rv Y Y.heap.size (some ⟨wr.heap.size, 0, none⟩) [.bool false, .int .i64 0, .int .i64 0, .int .i64 0, .int .i64 0, .bool false] := fun _ => ⟨wr.heap.size, 0, rfl, by omega, fun j v hj => by rw [Nat.zero_add, hkz.cell]; simpa using hj⟩
      obtain ⟨A2, c2, w2, hrun, hown, hg⟩ := run_append_14 (P := Tryz.prog) Y (w.heap.size + 2 + 1) 23 23 43 _ 6 48 Tryz.underlying23 info14T rfl (by omega) (by omega) _ m _ hoz Y.heap.size (some ⟨wr.heap.size, 0, none⟩) [.bool false, .int .i64 0, .int .i64 0, .int .i64 0, .int .i64 0, .bool false] 1 1 rfl hrv (by simp [Value.oneCell']) (by omega) (by omega)
      have hpad : fl14 clT (pad14 S.T m) ++ [.bool false, .int .i64 0, .int .i64 0, .int .i64 0, .int .i64 0, .bool false] = fl14 clT (pad14 S.T (m + 1)) := by
        rw [pad14_next (by rw [HLX.out]; exact hm1), fl14_append]
        rfl
      rw [hpad] at hown
      have hgY : Pm14T w S xu xc xa xk xt xo B0 B2 B3 B4 m0 m2 m3 m4 d0 d2 d3 d4 sr A m c (pad14 S.T m) (Y.setCell ⟨w.heap.size, 1, none⟩ (.slice A m c)) := HW.out.grow (.inl hbz) hoz HW.out.l
      have hYx := HW.out.x.below hbz HW.out.x.lt
      have hb2 : wr.grownBy w2 (Value.slice A m c).ownBlock := ⟨hg.os.trans hbz.os, hg.tape.trans hbz.tape, hg.output.trans hbz.output, Nat.le_trans hbz.size hg.size, fun q hq hr => (hg.block q (by omega) hr).trans (hbz.block q hq)⟩
      have hw2 := HW.out.grow (.inr hb2) hown (pad14_len (by rw [HLX.out]; omega))
      have u0 := hYx.cell 1
      have hx2 := HW.out.x.grown hb2 (fun e => by have := (HW.out.o.lt _ e.symm).1; omega)
      have x0 := hx2.cell 1
      have xf := hx2.frozen 1
      have HRUN := Lib.hid hrun
      have HW2 := Lib.hid hw2
      have HM := Lib.hid (len14_of (hw2.x.cell 1))
      have HM0 := Lib.hid (len14_of t0)
      clear hbz hkz hoz hsz hsy hrv hrun hown hg hpad hgY hYx hb2 hw2 hx2
      go_wp2_with (at_builtin; go_loud (refine wpList_append_14 _ rfl (.tmp 15) (.tmp 17) 23 rfl _ _ _ _ rfl rfl HRUN.out ?_))
      go_roundw
      case rel => exact ⟨A2, m + 1, c2, by omega, by omega, HW2⟩
      case measure => rw [HM.out, HM0.out]; omega
    · have hme : m = max m1 (i + 1) := by omega
      have i1 : ¬ (m : Int) ≤ (i : Int) := by omega
      have hlen : (pad14 S.T m).length = m := HW.out.l
      obtain ⟨g, hA, hg0, hcl, hfr, hown, hgr⟩ := own14_set len14T (by omega) HW.out.o (i := i) (by rw [hlen]; omega) (⟨xu, xc, xa, xk, xt, xo⟩ : Tk14)
      subst hA
      have hpp : (pad14 S.T m).set i ⟨xu, xc, xa, xk, xt, xo⟩ = put14 S.T i ⟨xu, xc, xa, xk, xt, xo⟩ := by rw [hme, ← HLX.out, put14_pad]
      rw [hpp] at hown
      have hsc : wr.setCells g (i * 6) (clT ⟨xu, xc, xa, xk, xt, xo⟩) = ((((((wr.setCell ⟨g, i * 6, none⟩ (.bool xu)).setCell ⟨g, i * 6 + 1, none⟩ (.int .i64 xc)).setCell ⟨g, i * 6 + 2, none⟩ (.int .i64 xa)).setCell ⟨g, i * 6 + 3, none⟩ (.int .i64 xk)).setCell ⟨g, i * 6 + 4, none⟩ (.int .i64 xt)).setCell ⟨g, i * 6 + 5, none⟩ (.bool xo)) := by rfl
      rw [hsc] at hown hgr
      obtain ⟨z0, e0⟩ := hcl 0 (by omega)
      have f0 := hfr (i * 6)
      obtain ⟨z1, e1⟩ := hcl 1 (by omega)
      have f1 := hfr (i * 6 + 1)
      obtain ⟨z2, e2⟩ := hcl 2 (by omega)
      have f2 := hfr (i * 6 + 2)
      obtain ⟨z3, e3⟩ := hcl 3 (by omega)
      have f3 := hfr (i * 6 + 3)
      obtain ⟨z4, e4⟩ := hcl 4 (by omega)
      have f4 := hfr (i * 6 + 4)
      obtain ⟨z5, e5⟩ := hcl 5 (by omega)
      have f5 := hfr (i * 6 + 5)
      have e0' : wr.cell? ⟨g, i * 6, none⟩ = some z0 := e0
      have v0 := HW.out.z.cell 0
      have v1 := HW.out.z.cell 1
      have v2 := HW.out.z.cell 2
      have v3 := HW.out.z.cell 3
      have v4 := HW.out.z.cell 4
      have v5 := HW.out.z.cell 5
      have j0 : (0 : Int) ≤ (i : Int) := by omega
      have j1 : (i : Int) < (m : Int) := by omega
      have hb2 : Below w.heap.size w ((((((wr.setCell ⟨g, i * 6, none⟩ (.bool xu)).setCell ⟨g, i * 6 + 1, none⟩ (.int .i64 xc)).setCell ⟨g, i * 6 + 2, none⟩ (.int .i64 xa)).setCell ⟨g, i * 6 + 3, none⟩ (.int .i64 xk)).setCell ⟨g, i * 6 + 4, none⟩ (.int .i64 xt)).setCell ⟨g, i * 6 + 5, none⟩ (.bool xo)) := HW.out.b.grown hgr HW.out.b.size (fun r hr => by cases hr; omega)
      have hx2 := HW.out.x.grown hgr (by intro e; injection e with e; omega)
      have hy2 := HW.out.y.grown hgr (by intro e; injection e with e; omega)
      have hoth : ∀ {e : TypeId} {k n : Nat} {v : Value} {xs : List Value}, wr.ownsRow (w.heap.size + 2 + 1) e k v n xs → e ≠ 43 → ((((((wr.setCell ⟨g, i * 6, none⟩ (.bool xu)).setCell ⟨g, i * 6 + 1, none⟩ (.int .i64 xc)).setCell ⟨g, i * 6 + 2, none⟩ (.int .i64 xa)).setCell ⟨g, i * 6 + 3, none⟩ (.int .i64 xk)).setCell ⟨g, i * 6 + 4, none⟩ (.int .i64 xt)).setCell ⟨g, i * 6 + 5, none⟩ (.bool xo)).ownsRow (w.heap.size + 2 + 1) e k v n xs := fun {e k n v xs} hg hne => hg.kept hgr (own14_ne hg HW.out.o hne)
      have hoa : OA14 ((((((wr.setCell ⟨g, i * 6, none⟩ (.bool xu)).setCell ⟨g, i * 6 + 1, none⟩ (.int .i64 xc)).setCell ⟨g, i * 6 + 2, none⟩ (.int .i64 xa)).setCell ⟨g, i * 6 + 3, none⟩ (.int .i64 xk)).setCell ⟨g, i * 6 + 4, none⟩ (.int .i64 xt)).setCell ⟨g, i * 6 + 5, none⟩ (.bool xo)) (w.heap.size + 2 + 1) { S with T := put14 S.T i ⟨xu, xc, xa, xk, xt, xo⟩ } B0 (some ⟨g, 0, none⟩) B2 B3 B4 m0 m m2 m3 m4 d0 c d2 d3 d4 sr := ⟨hoth HW.out.o0 (by decide), hown, hoth HW.out.o2 (by decide), hoth HW.out.o3 (by decide), hoth HW.out.o4 (by decide), HW.out.l0, by rw [put14_len, HLX.out, hme], HW.out.l2, HW.out.l3, HW.out.l4, HW.out.m0, by omega, HW.out.m2, HW.out.m3, HW.out.m4, HW.out.e⟩
      obtain ⟨W3, hW3⟩ : ∃ W, ((((((wr.setCell ⟨g, i * 6, none⟩ (.bool xu)).setCell ⟨g, i * 6 + 1, none⟩ (.int .i64 xc)).setCell ⟨g, i * 6 + 2, none⟩ (.int .i64 xa)).setCell ⟨g, i * 6 + 3, none⟩ (.int .i64 xk)).setCell ⟨g, i * 6 + 4, none⟩ (.int .i64 xt)).setCell ⟨g, i * 6 + 5, none⟩ (.bool xo)) = W := ⟨_, rfl⟩
      rw [hW3] at hb2 hx2 hy2 hoa
      have HTR := Lib.hid (rtrim14 (.agg #[.slice B0 m0 d0, .slice (some ⟨g, 0, none⟩) m c, .slice B2 m2 d2, .slice B3 m3 d3, .slice B4 m4 d4, .int .i64 sr]) _ W3 ⟨B0, (some ⟨g, 0, none⟩), B2, B3, B4, m0, m, m2, m3, m4, d0, c, d2, d3, d4, sr, rfl, hoa.sa⟩)
      have s0 := hx2.cell 0
      have s1 := hx2.cell 1
      have s2 := hx2.cell 2
      have s3 := hx2.cell 3
      have s4 := hx2.cell 4
      have s5 := hx2.cell 5
      have HB2 := Lib.hid hb2
      have HY2 := Lib.hid hy2
      have HSZ : Hid (w.heap.size + 2 + 1 ≤ W3.heap.size) := Lib.hid hy2.lt
      clear hlen hg0 hcl hfr hown hgr hpp hb2 hx2 hy2 hoth hoa hsc hme hm1 hm2 hmi
      go_wp2_with fail
      refine HTR.out.mono ?_
      rintro e w4 ⟨C0, C1, C2, C3, C4, p0, p1, p2, p3, p4, q0, q1, q2, q3, q4, st, rfl, hs2, hf2, hb4⟩
      have hR := HY2.out.below hb4 HY2.out.lt
      have hB := HB2.out.trans (hb4.mono HB2.out.size)
      have hk6 : Blk ((((((w4.setCell ⟨w.heap.size + 2, 0, none⟩ (.slice C0 p0 q0)).setCell ⟨w.heap.size + 2, 1, none⟩ (.slice C1 p1 q1)).setCell ⟨w.heap.size + 2, 2, none⟩ (.slice C2 p2 q2)).setCell ⟨w.heap.size + 2, 3, none⟩ (.slice C3 p3 q3)).setCell ⟨w.heap.size + 2, 4, none⟩ (.slice C4 p4 q4)).setCell ⟨w.heap.size + 2, 5, none⟩ (.int .i64 st)) (w.heap.size + 2) 28 #[.slice C0 p0 q0, .slice C1 p1 q1, .slice C2 p2 q2, .slice C3 p3 q3, .slice C4 p4 q4, .int .i64 st] := by
        have h := (((((hR.set_ 0 (.slice C0 p0 q0)).set_ 1 (.slice C1 p1 q1)).set_ 2 (.slice C2 p2 q2)).set_ 3 (.slice C3 p3 q3)).set_ 4 (.slice C4 p4 q4)).set_ 5 (.int .i64 st)
        simpa using h
      have HB6 := Lib.hid ((((((hB.setCell (p := ⟨w.heap.size + 2, 0, none⟩) (by simp) (.slice C0 p0 q0)).setCell (p := ⟨w.heap.size + 2, 1, none⟩) (by simp) (.slice C1 p1 q1)).setCell (p := ⟨w.heap.size + 2, 2, none⟩) (by simp) (.slice C2 p2 q2)).setCell (p := ⟨w.heap.size + 2, 3, none⟩) (by simp) (.slice C3 p3 q3)).setCell (p := ⟨w.heap.size + 2, 4, none⟩) (by simp) (.slice C4 p4 q4)).setCell (p := ⟨w.heap.size + 2, 5, none⟩) (by simp) (.int .i64 st))
      have HX := Lib.hid (sa14_set (sa14_set (sa14_set (sa14_set (sa14_set (sa14_set hs2 hf2 (q := ⟨w.heap.size + 2, 0, none⟩) (by have := HSZ.out; simp; omega) (.slice C0 p0 q0)) hf2 (q := ⟨w.heap.size + 2, 1, none⟩) (by have := HSZ.out; simp; omega) (.slice C1 p1 q1)) hf2 (q := ⟨w.heap.size + 2, 2, none⟩) (by have := HSZ.out; simp; omega) (.slice C2 p2 q2)) hf2 (q := ⟨w.heap.size + 2, 3, none⟩) (by have := HSZ.out; simp; omega) (.slice C3 p3 q3)) hf2 (q := ⟨w.heap.size + 2, 4, none⟩) (by have := HSZ.out; simp; omega) (.slice C4 p4 q4)) hf2 (q := ⟨w.heap.size + 2, 5, none⟩) (by have := HSZ.out; simp; omega) (.int .i64 st))
      have HF2 := Lib.hid (hf2.more (L' := w.heap.size) HB2.out.size)
      have y0 := hR.cell 0
      have yf0 := hR.frozen 0
      have w0_ := hk6.cell 0
      have g0 := hk6.frozen 0
      have y1 := hR.cell 1
      have yf1 := hR.frozen 1
      have w1_ := hk6.cell 1
      have g1 := hk6.frozen 1
      have y2 := hR.cell 2
      have yf2 := hR.frozen 2
      have w2_ := hk6.cell 2
      have g2 := hk6.frozen 2
      have y3 := hR.cell 3
      have yf3 := hR.frozen 3
      have w3_ := hk6.cell 3
      have g3 := hk6.frozen 3
      have y4 := hR.cell 4
      have yf4 := hR.frozen 4
      have w4_ := hk6.cell 4
      have g4 := hk6.frozen 4
      have y5 := hR.cell 5
      have yf5 := hR.frozen 5
      have w5_ := hk6.cell 5
      have g5 := hk6.frozen 5
      clear HTR hb4 hR hB hk6 hs2 hf2
      go_wp2_with fail
      exact bodyPost_ret (v := .agg #[.slice C0 p0 q0, .slice C1 p1 q1, .slice C2 p2 q2, .slice C3 p3 q3, .slice C4 p4 q4, .int .i64 st]) (by simp [results, Tryz.results25, go_sem, w0_, w1_, w2_, w3_, w4_, w5_, g0, g1, g2, g3, g4, g5]) rfl ⟨C0, C1, C2, C3, C4, p0, p1, p2, p3, p4, q0, q1, q2, q3, q4, st, rfl, HX.out, HF2.out, HB6.out⟩
/-- While zero ones are put behind a list: ys is what it is by now. -/
structure Pm14H (w : World) (S : Sv14) (xz : Int) (xf : Int) (xc : Int) (xq : Int) (xu : Int) (A0 A1 A3 A4 : Option Addr) (n0 n1 n3 n4 c0 c1 c3 c4 : Nat) (sq : Int) (A : Option Addr) (m c : Nat) (ys : List Th14) (W : World) : Prop where
  b : Below w.heap.size w W
  x : Blk W w.heap.size 28 #[.slice A0 n0 c0, .slice A1 n1 c1, .slice A m c, .slice A3 n3 c3, .slice A4 n4 c4, .int .i64 sq]
  z : Blk W (w.heap.size + 1) 45 #[.int .i64 xz, .int .i64 xf, .int .i64 xc, .int .i64 xq, .int .i64 xu]
  y : Blk W (w.heap.size + 2) 28 #[.slice none 0 0, .slice none 0 0, .slice none 0 0, .slice none 0 0, .slice none 0 0, .int .i64 0]
  o : W.ownsRow (w.heap.size + 2 + 1) 45 5 (.slice A m c) m (fl14 clH ys)
  l : ys.length = m
  o0 : W.ownsRow (w.heap.size + 2 + 1) 4 1 (.slice A0 n0 c0) n0 (fl14 clC S.C)
  o1 : W.ownsRow (w.heap.size + 2 + 1) 43 6 (.slice A1 n1 c1) n1 (fl14 clT S.T)
  o3 : W.ownsRow (w.heap.size + 2 + 1) 47 2 (.slice A3 n3 c3) n3 (fl14 clL S.L)
  o4 : W.ownsRow (w.heap.size + 2 + 1) 3 1 (.slice A4 n4 c4) n4 (fl14 clI S.Q)
  l0 : S.C.length = n0
  l1 : S.T.length = n1
  l3 : S.L.length = n3
  l4 : S.Q.length = n4
  m0 : n0 ≤ 1000
  m1 : n1 ≤ 1000
  m3 : n3 ≤ 1000
  m4 : n4 ≤ 1000
  e : S.q = sq
theorem Pm14H.grow {w : World} {S : Sv14} {xz : Int} {xf : Int} {xc : Int} {xq : Int} {xu : Int} {A0 A1 A3 A4 : Option Addr} {n0 n1 n3 n4 c0 c1 c3 c4 : Nat} {sq : Int} {A : Option Addr} {m c : Nat} {ys : List Th14} {W : World} {W2 : World} {Ag : Option Addr} {cg mg : Nat} {yg : List Th14} (h : Pm14H w S xz xf xc xq xu A0 A1 A3 A4 n0 n1 n3 n4 c0 c1 c3 c4 sq A m c ys W) (hb : Below W.heap.size W W2 ∨ W.grownBy W2 (Value.slice A m c).ownBlock) (ho : W2.ownsRow (w.heap.size + 2 + 1) 45 5 (.slice Ag mg cg) mg (fl14 clH yg)) (hl : yg.length = mg) :
    Pm14H w S xz xf xc xq xu A0 A1 A3 A4 n0 n1 n3 n4 c0 c1 c3 c4 sq Ag mg cg yg (W2.setCell ⟨w.heap.size, 2, none⟩ (.slice Ag mg cg)) := by
  have hrow : ∀ r, (Value.slice A m c).ownBlock = some r → w.heap.size + 2 + 1 ≤ r := fun r hr => (h.o.lt r hr).1
  have hB : Below w.heap.size w (W2.setCell ⟨w.heap.size, 2, none⟩ (.slice Ag mg cg)) := by
    rcases hb with hb | hb
    · exact (h.b.trans (hb.mono h.b.size)).setCell (Nat.le_refl _) _
    · exact (h.b.grown hb h.b.size (fun r hr => by have := hrow r hr; omega)).setCell (Nat.le_refl _) _
  have hblk : ∀ {g : Nat} {t : TypeId} {cs : Array Value}, Blk W g t cs → t ≠ 45 → Blk W2 g t cs := fun {g t cs} hg hne => by
    rcases hb with hb | hb
    · exact hg.below hb hg.lt
    · exact hg.grown hb (own14_blk h.o hg hne)
  have hx : Blk W2 w.heap.size 28 #[.slice A0 n0 c0, .slice A1 n1 c1, .slice A m c, .slice A3 n3 c3, .slice A4 n4 c4, .int .i64 sq] := by
    rcases hb with hb | hb
    · exact h.x.below hb h.x.lt
    · exact h.x.grown hb (fun e => by have := hrow _ e.symm; omega)
  have hy : Blk W2 (w.heap.size + 2) 28 #[.slice none 0 0, .slice none 0 0, .slice none 0 0, .slice none 0 0, .slice none 0 0, .int .i64 0] := by
    rcases hb with hb | hb
    · exact h.y.below hb h.y.lt
    · exact h.y.grown hb (fun e => by have := hrow _ e.symm; omega)
  have hz : Blk W2 (w.heap.size + 1) 45 #[.int .i64 xz, .int .i64 xf, .int .i64 xc, .int .i64 xq, .int .i64 xu] := by
    rcases hb with hb | hb
    · exact h.z.below hb h.z.lt
    · exact h.z.grown hb (fun e => by have := hrow _ e.symm; omega)
  have hown : ∀ {e : TypeId} {k n : Nat} {v : Value} {xs : List Value}, W.ownsRow (w.heap.size + 2 + 1) e k v n xs → e ≠ 45 → (W2.setCell ⟨w.heap.size, 2, none⟩ (.slice Ag mg cg)).ownsRow (w.heap.size + 2 + 1) e k v n xs := fun {e k n v xs} hg hne => by
    refine ownsRow_setCell_below ?_ (by simp; omega) _
    rcases hb with hb | hb
    · exact own12_keep2 hg hb
    · exact hg.kept hb (own14_ne hg h.o hne)
  refine ⟨hB, ?_, hz.far (by simp) _, hy.far (by simp) _, ownsRow_setCell_below ho (by simp; omega) _, hl, hown h.o0 (by decide), hown h.o1 (by decide), hown h.o3 (by decide), hown h.o4 (by decide), h.l0, h.l1, h.l3, h.l4, h.m0, h.m1, h.m3, h.m4, h.e⟩
  have h1 := hx.set_ 2 (.slice Ag mg cg)
  simpa using h1
set_option maxHeartbeats 8000000 in
theorem rputThread14 (v : Value) (S : Sv14) (i : Nat) (xz : Int) (xf : Int) (xc : Int) (xq : Int) (xu : Int) (w : World) (h : St14 w v S) (hi : i ≤ 900) : Calls Tryz.prog 26 #[v, .int .i64 (i : Int), .agg #[.int .i64 xz, .int .i64 xf, .int .i64 xc, .int .i64 xq, .int .i64 xu]] w (RetSt14 w (trim14 { S with H := put14 S.H i ⟨xz, xf, xc, xq, xu⟩ })) := by
  obtain ⟨A0, A1, A2, A3, A4, n0, n1, n2, n3, n4, c0, c1, c2, c3, c4, sq, rfl, hs⟩ := h
  have hb : Below w.heap.size w (((w.alloc (.cells #[.slice A0 n0 c0, .slice A1 n1 c1, .slice A2 n2 c2, .slice A3 n3 c3, .slice A4 n4 c4, .int .i64 sq] 28)).alloc (.cells #[.int .i64 xz, .int .i64 xf, .int .i64 xc, .int .i64 xq, .int .i64 xu] 45)).alloc (.cells #[.slice none 0 0, .slice none 0 0, .slice none 0 0, .slice none 0 0, .slice none 0 0, .int .i64 0] 28)) := by
    refine Below.alloc ?_ (by simp; try omega) _
    refine Below.alloc ?_ (by simp) _
    exact b1' w _
  have hr : Blk (((w.alloc (.cells #[.slice A0 n0 c0, .slice A1 n1 c1, .slice A2 n2 c2, .slice A3 n3 c3, .slice A4 n4 c4, .int .i64 sq] 28)).alloc (.cells #[.int .i64 xz, .int .i64 xf, .int .i64 xc, .int .i64 xq, .int .i64 xu] 45)).alloc (.cells #[.slice none 0 0, .slice none 0 0, .slice none 0 0, .slice none 0 0, .slice none 0 0, .int .i64 0] 28)) (w.heap.size + 2) 28 #[.slice none 0 0, .slice none 0 0, .slice none 0 0, .slice none 0 0, .slice none 0 0, .int .i64 0] := by
    have h := Blk.new ((w.alloc (.cells #[.slice A0 n0 c0, .slice A1 n1 c1, .slice A2 n2 c2, .slice A3 n3 c3, .slice A4 n4 c4, .int .i64 sq] 28)).alloc (.cells #[.int .i64 xz, .int .i64 xf, .int .i64 xc, .int .i64 xq, .int .i64 xu] 45)) 28 #[.slice none 0 0, .slice none 0 0, .slice none 0 0, .slice none 0 0, .slice none 0 0, .int .i64 0]
    rwa [show ((w.alloc (.cells #[.slice A0 n0 c0, .slice A1 n1 c1, .slice A2 n2 c2, .slice A3 n3 c3, .slice A4 n4 c4, .int .i64 sq] 28)).alloc (.cells #[.int .i64 xz, .int .i64 xf, .int .i64 xc, .int .i64 xq, .int .i64 xu] 45)).heap.size = w.heap.size + 2 by simp] at h
  have hk : Blk (((w.alloc (.cells #[.slice A0 n0 c0, .slice A1 n1 c1, .slice A2 n2 c2, .slice A3 n3 c3, .slice A4 n4 c4, .int .i64 sq] 28)).alloc (.cells #[.int .i64 xz, .int .i64 xf, .int .i64 xc, .int .i64 xq, .int .i64 xu] 45)).alloc (.cells #[.slice none 0 0, .slice none 0 0, .slice none 0 0, .slice none 0 0, .slice none 0 0, .int .i64 0] 28)) w.heap.size 28 #[.slice A0 n0 c0, .slice A1 n1 c1, .slice A2 n2 c2, .slice A3 n3 c3, .slice A4 n4 c4, .int .i64 sq] := ((Blk.new w 28 #[.slice A0 n0 c0, .slice A1 n1 c1, .slice A2 n2 c2, .slice A3 n3 c3, .slice A4 n4 c4, .int .i64 sq]).alloc _).alloc _
  have hx : Blk (((w.alloc (.cells #[.slice A0 n0 c0, .slice A1 n1 c1, .slice A2 n2 c2, .slice A3 n3 c3, .slice A4 n4 c4, .int .i64 sq] 28)).alloc (.cells #[.int .i64 xz, .int .i64 xf, .int .i64 xc, .int .i64 xq, .int .i64 xu] 45)).alloc (.cells #[.slice none 0 0, .slice none 0 0, .slice none 0 0, .slice none 0 0, .slice none 0 0, .int .i64 0] 28)) (w.heap.size + 1) 45 #[.int .i64 xz, .int .i64 xf, .int .i64 xc, .int .i64 xq, .int .i64 xu] := by
    have h := (Blk.new (w.alloc (.cells #[.slice A0 n0 c0, .slice A1 n1 c1, .slice A2 n2 c2, .slice A3 n3 c3, .slice A4 n4 c4, .int .i64 sq] 28)) 45 #[.int .i64 xz, .int .i64 xf, .int .i64 xc, .int .i64 xq, .int .i64 xu]).alloc (.cells #[.slice none 0 0, .slice none 0 0, .slice none 0 0, .slice none 0 0, .slice none 0 0, .int .i64 0] 28)
    rwa [show (w.alloc (.cells #[.slice A0 n0 c0, .slice A1 n1 c1, .slice A2 n2 c2, .slice A3 n3 c3, .slice A4 n4 c4, .int .i64 sq] 28)).heap.size = w.heap.size + 1 by simp] at h
  have hz : (((w.alloc (.cells #[.slice A0 n0 c0, .slice A1 n1 c1, .slice A2 n2 c2, .slice A3 n3 c3, .slice A4 n4 c4, .int .i64 sq] 28)).alloc (.cells #[.int .i64 xz, .int .i64 xf, .int .i64 xc, .int .i64 xq, .int .i64 xu] 45)).alloc (.cells #[.slice none 0 0, .slice none 0 0, .slice none 0 0, .slice none 0 0, .slice none 0 0, .int .i64 0] 28)).heap.size = w.heap.size + 2 + 1 := by simp
  obtain ⟨W0, hW0⟩ : ∃ W, (((w.alloc (.cells #[.slice A0 n0 c0, .slice A1 n1 c1, .slice A2 n2 c2, .slice A3 n3 c3, .slice A4 n4 c4, .int .i64 sq] 28)).alloc (.cells #[.int .i64 xz, .int .i64 xf, .int .i64 xc, .int .i64 xq, .int .i64 xu] 45)).alloc (.cells #[.slice none 0 0, .slice none 0 0, .slice none 0 0, .slice none 0 0, .slice none 0 0, .int .i64 0] 28)) = W := ⟨_, rfl⟩
  rw [hW0] at hb hk hr hz hx
  have HCP := Lib.hid (rcopy14 (.agg #[.slice A0 n0 c0, .slice A1 n1 c1, .slice A2 n2 c2, .slice A3 n3 c3, .slice A4 n4 c4, .int .i64 sq]) S W0 ⟨A0, A1, A2, A3, A4, n0, n1, n2, n3, n4, c0, c1, c2, c3, c4, sq, rfl, ⟨hs.l0, hs.l1, hs.l2, hs.l3, hs.l4, ((hs.r0.below hb (Nat.le_refl _)).more hb.size), ((hs.r1.below hb (Nat.le_refl _)).more hb.size), ((hs.r2.below hb (Nat.le_refl _)).more hb.size), ((hs.r3.below hb (Nat.le_refl _)).more hb.size), ((hs.r4.below hb (Nat.le_refl _)).more hb.size), hs.k0, hs.k1, hs.k2, hs.k3, hs.k4, hs.m0, hs.m1, hs.m2, hs.m3, hs.m4, hs.e⟩⟩)
  have HK0 := Lib.hid hk
  have HR0 := Lib.hid hr
  have HB0 := Lib.hid hb
  have HZ0 := Lib.hid hz
  have q0 := hk.cell 0
  have q1 := hk.cell 1
  have q2 := hk.cell 2
  have q3 := hk.cell 3
  have q4 := hk.cell 4
  have q5 := hk.cell 5
  have HX0 := Lib.hid hx
  clear hs hk hr hb hz hx
  go_enter Tryz.func26, Tryz.ntmps26
  go_wp2_with fail
  refine HCP.out.mono ?_
  rintro e u ⟨B0, B1, B2, B3, B4, m0, m1, m2, m3, m4, d0, d1, d2, d3, d4, sr, rfl, hoa, hbu⟩
  have hk1 := HK0.out.below hbu HK0.out.lt
  have k0 := hk1.cell 0
  have l0 := hk1.frozen 0
  have k1 := hk1.cell 1
  have l1 := hk1.frozen 1
  have k2 := hk1.cell 2
  have l2 := hk1.frozen 2
  have k3 := hk1.cell 3
  have l3 := hk1.frozen 3
  have k4 := hk1.cell 4
  have l4 := hk1.frozen 4
  have k5 := hk1.cell 5
  have l5 := hk1.frozen 5
  have hx1 : Blk ((((((u.setCell ⟨w.heap.size, 0, none⟩ (.slice B0 m0 d0)).setCell ⟨w.heap.size, 1, none⟩ (.slice B1 m1 d1)).setCell ⟨w.heap.size, 2, none⟩ (.slice B2 m2 d2)).setCell ⟨w.heap.size, 3, none⟩ (.slice B3 m3 d3)).setCell ⟨w.heap.size, 4, none⟩ (.slice B4 m4 d4)).setCell ⟨w.heap.size, 5, none⟩ (.int .i64 sr)) w.heap.size 28 #[.slice B0 m0 d0, .slice B1 m1 d1, .slice B2 m2 d2, .slice B3 m3 d3, .slice B4 m4 d4, .int .i64 sr] := by
    have h := ((((((hk1.set_ 0 (.slice B0 m0 d0)).set_ 1 (.slice B1 m1 d1)).set_ 2 (.slice B2 m2 d2)).set_ 3 (.slice B3 m3 d3)).set_ 4 (.slice B4 m4 d4)).set_ 5 (.int .i64 sr))
    simpa using h
  have hy1 := ((((((HR0.out.below hbu HR0.out.lt).far (p := ⟨w.heap.size, 0, none⟩) (by simp) (.slice B0 m0 d0)).far (p := ⟨w.heap.size, 1, none⟩) (by simp) (.slice B1 m1 d1)).far (p := ⟨w.heap.size, 2, none⟩) (by simp) (.slice B2 m2 d2)).far (p := ⟨w.heap.size, 3, none⟩) (by simp) (.slice B3 m3 d3)).far (p := ⟨w.heap.size, 4, none⟩) (by simp) (.slice B4 m4 d4)).far (p := ⟨w.heap.size, 5, none⟩) (by simp) (.int .i64 sr)
  have hz1 := ((((((HX0.out.below hbu HX0.out.lt).far (p := ⟨w.heap.size, 0, none⟩) (by simp) (.slice B0 m0 d0)).far (p := ⟨w.heap.size, 1, none⟩) (by simp) (.slice B1 m1 d1)).far (p := ⟨w.heap.size, 2, none⟩) (by simp) (.slice B2 m2 d2)).far (p := ⟨w.heap.size, 3, none⟩) (by simp) (.slice B3 m3 d3)).far (p := ⟨w.heap.size, 4, none⟩) (by simp) (.slice B4 m4 d4)).far (p := ⟨w.heap.size, 5, none⟩) (by simp) (.int .i64 sr)
  have hb1 := ((((((HB0.out.trans (hbu.mono HB0.out.size)).setCell (p := ⟨w.heap.size, 0, none⟩) (Nat.le_refl _) (.slice B0 m0 d0)).setCell (p := ⟨w.heap.size, 1, none⟩) (Nat.le_refl _) (.slice B1 m1 d1)).setCell (p := ⟨w.heap.size, 2, none⟩) (Nat.le_refl _) (.slice B2 m2 d2)).setCell (p := ⟨w.heap.size, 3, none⟩) (Nat.le_refl _) (.slice B3 m3 d3)).setCell (p := ⟨w.heap.size, 4, none⟩) (Nat.le_refl _) (.slice B4 m4 d4)).setCell (p := ⟨w.heap.size, 5, none⟩) (Nat.le_refl _) (.int .i64 sr)
  have hoa1 := (((((hoa.far (q := ⟨w.heap.size, 0, none⟩) (by rw [HZ0.out]; simp; omega) (.slice B0 m0 d0)).far (q := ⟨w.heap.size, 1, none⟩) (by rw [HZ0.out]; simp; omega) (.slice B1 m1 d1)).far (q := ⟨w.heap.size, 2, none⟩) (by rw [HZ0.out]; simp; omega) (.slice B2 m2 d2)).far (q := ⟨w.heap.size, 3, none⟩) (by rw [HZ0.out]; simp; omega) (.slice B3 m3 d3)).far (q := ⟨w.heap.size, 4, none⟩) (by rw [HZ0.out]; simp; omega) (.slice B4 m4 d4)).far (q := ⟨w.heap.size, 5, none⟩) (by rw [HZ0.out]; simp; omega) (.int .i64 sr)
  obtain ⟨W1, hW1⟩ : ∃ W, ((((((u.setCell ⟨w.heap.size, 0, none⟩ (.slice B0 m0 d0)).setCell ⟨w.heap.size, 1, none⟩ (.slice B1 m1 d1)).setCell ⟨w.heap.size, 2, none⟩ (.slice B2 m2 d2)).setCell ⟨w.heap.size, 3, none⟩ (.slice B3 m3 d3)).setCell ⟨w.heap.size, 4, none⟩ (.slice B4 m4 d4)).setCell ⟨w.heap.size, 5, none⟩ (.int .i64 sr)) = W := ⟨_, rfl⟩
  rw [hW1] at hx1 hy1 hb1 hoa1 hz1
  rw [HZ0.out] at hoa1
  have HT : Hid (Pm14H w S xz xf xc xq xu B0 B1 B3 B4 m0 m1 m3 m4 d0 d1 d3 d4 sr B2 m2 d2 (pad14 S.H m2) W1) := Lib.hid ⟨hb1, hx1, hz1, hy1, by rw [show pad14 S.H m2 = S.H by rw [← hoa1.l2, pad14_self]]; exact hoa1.o2, pad14_len (by rw [hoa1.l2]; exact Nat.le_refl _), hoa1.o0, hoa1.o1, hoa1.o3, hoa1.o4, hoa1.l0, hoa1.l1, hoa1.l3, hoa1.l4, hoa1.m0, hoa1.m1, hoa1.m3, hoa1.m4, hoa1.e⟩
  have HLX := Lib.hid hoa1.l2
  have HMX := Lib.hid hoa1.m2
  clear HCP hbu hoa hk1 hx1 hy1 hb1 hoa1 q0 q1 q2 q3 q4 q5 hz1
  go_wp2_with fail
  clear k0 l0 k1 l1 k2 l2 k3 l3 k4 l4 k5 l5 hW1
  go_loopw [9] (fun _ wr => ∃ (A : Option Addr) (m c : Nat), m2 ≤ m ∧ m ≤ max m2 (i + 1) ∧ Hid (Pm14H w S xz xf xc xq xu B0 B1 B3 B4 m0 m1 m3 m4 d0 d1 d3 d4 sr A m c (pad14 S.H m) wr)) (fun _ wr => i + 1 - len14 wr w.heap.size 2)
  case atStart => exact ⟨B2, m2, d2, Nat.le_refl _, by omega, HT⟩
  case round =>
    obtain ⟨A, m, c, hm1, hm2, HW⟩ := hrel
    have t0 := HW.out.x.cell 2
    have tf := HW.out.x.frozen 2
    have hnb := HMX.out
    by_cases hmi : m ≤ i
    · have i1 : (m : Int) ≤ (i : Int) := by omega
      have hbz := b1' wr (.cells #[.int .i64 0, .int .i64 0, .int .i64 0, .int .i64 0, .int .i64 0] 45)
      have hkz := Blk.new wr 45 #[.int .i64 0, .int .i64 0, .int .i64 0, .int .i64 0, .int .i64 0]
      have hoz := own12_keep2 HW.out.o hbz
      have hsz : w.heap.size + 2 + 1 ≤ wr.heap.size := HW.out.y.lt
      have hsy : (wr.alloc (.cells #[.int .i64 0, .int .i64 0, .int .i64 0, .int .i64 0, .int .i64 0] 45)).heap.size = wr.heap.size + 1 := by simp
      obtain ⟨Y, hY⟩ : ∃ Y, wr.alloc (.cells #[.int .i64 0, .int .i64 0, .int .i64 0, .int .i64 0, .int .i64 0] 45) = Y := ⟨_, rfl⟩
      rw [hY] at hbz hkz hoz hsy
      have hrv : Rv Y Y.heap.size (some ⟨wr.heap.size, 0, none⟩) [.int .i64 0, .int .i64 0, .int .i64 0, .int .i64 0, .int .i64 0] := fun _ => ⟨wr.heap.size, 0, rfl, by omega, fun j v hj => by rw [Nat.zero_add, hkz.cell]; simpa using hj⟩
      obtain ⟨A2, c2, w2, hrun, hown, hg⟩ := run_append_14 (P := Tryz.prog) Y (w.heap.size + 2 + 1) 24 24 45 _ 5 40 Tryz.underlying24 info14H rfl (by omega) (by omega) _ m _ hoz Y.heap.size (some ⟨wr.heap.size, 0, none⟩) [.int .i64 0, .int .i64 0, .int .i64 0, .int .i64 0, .int .i64 0] 1 1 rfl hrv (by simp [Value.oneCell']) (by omega) (by omega)
      have hpad : fl14 clH (pad14 S.H m) ++ [.int .i64 0, .int .i64 0, .int .i64 0, .int .i64 0, .int .i64 0] = fl14 clH (pad14 S.H (m + 1)) := by
        rw [pad14_next (by rw [HLX.out]; exact hm1), fl14_append]
        rfl
      rw [hpad] at hown
      have hgY : Pm14H w S xz xf xc xq xu B0 B1 B3 B4 m0 m1 m3 m4 d0 d1 d3 d4 sr A m c (pad14 S.H m) (Y.setCell ⟨w.heap.size, 2, none⟩ (.slice A m c)) := HW.out.grow (.inl hbz) hoz HW.out.l
      have hYx := HW.out.x.below hbz HW.out.x.lt
      have hb2 : wr.grownBy w2 (Value.slice A m c).ownBlock := ⟨hg.os.trans hbz.os, hg.tape.trans hbz.tape, hg.output.trans hbz.output, Nat.le_trans hbz.size hg.size, fun q hq hr => (hg.block q (by omega) hr).trans (hbz.block q hq)⟩
      have hw2 := HW.out.grow (.inr hb2) hown (pad14_len (by rw [HLX.out]; omega))
      have u0 := hYx.cell 2
      have hx2 := HW.out.x.grown hb2 (fun e => by have := (HW.out.o.lt _ e.symm).1; omega)
      have x0 := hx2.cell 2
      have xf := hx2.frozen 2
      have HRUN := Lib.hid hrun
      have HW2 := Lib.hid hw2
      have HM := Lib.hid (len14_of (hw2.x.cell 2))
      have HM0 := Lib.hid (len14_of t0)
      clear hbz hkz hoz hsz hsy hrv hrun hown hg hpad hgY hYx hb2 hw2 hx2
      go_wp2_with (at_builtin; go_loud (refine wpList_append_14 _ rfl (.tmp 15) (.tmp 17) 24 rfl _ _ _ _ rfl rfl HRUN.out ?_))
      go_roundw
      case rel => exact ⟨A2, m + 1, c2, by omega, by omega, HW2⟩
      case measure => rw [HM.out, HM0.out]; omega
    · have hme : m = max m2 (i + 1) := by omega
      have i1 : ¬ (m : Int) ≤ (i : Int) := by omega
      have hlen : (pad14 S.H m).length = m := HW.out.l
      obtain ⟨g, hA, hg0, hcl, hfr, hown, hgr⟩ := own14_set len14H (by omega) HW.out.o (i := i) (by rw [hlen]; omega) (⟨xz, xf, xc, xq, xu⟩ : Th14)
      subst hA
      have hpp : (pad14 S.H m).set i ⟨xz, xf, xc, xq, xu⟩ = put14 S.H i ⟨xz, xf, xc, xq, xu⟩ := by rw [hme, ← HLX.out, put14_pad]
      rw [hpp] at hown
      have hsc : wr.setCells g (i * 5) (clH ⟨xz, xf, xc, xq, xu⟩) = (((((wr.setCell ⟨g, i * 5, none⟩ (.int .i64 xz)).setCell ⟨g, i * 5 + 1, none⟩ (.int .i64 xf)).setCell ⟨g, i * 5 + 2, none⟩ (.int .i64 xc)).setCell ⟨g, i * 5 + 3, none⟩ (.int .i64 xq)).setCell ⟨g, i * 5 + 4, none⟩ (.int .i64 xu)) := by rfl
      rw [hsc] at hown hgr
      obtain ⟨z0, e0⟩ := hcl 0 (by omega)
      have f0 := hfr (i * 5)
      obtain ⟨z1, e1⟩ := hcl 1 (by omega)
      have f1 := hfr (i * 5 + 1)
      obtain ⟨z2, e2⟩ := hcl 2 (by omega)
      have f2 := hfr (i * 5 + 2)
      obtain ⟨z3, e3⟩ := hcl 3 (by omega)
      have f3 := hfr (i * 5 + 3)
      obtain ⟨z4, e4⟩ := hcl 4 (by omega)
      have f4 := hfr (i * 5 + 4)
      have e0' : wr.cell? ⟨g, i * 5, none⟩ = some z0 := e0
      have v0 := HW.out.z.cell 0
      have v1 := HW.out.z.cell 1
      have v2 := HW.out.z.cell 2
      have v3 := HW.out.z.cell 3
      have v4 := HW.out.z.cell 4
      have j0 : (0 : Int) ≤ (i : Int) := by omega
      have j1 : (i : Int) < (m : Int) := by omega
      have hb2 : Below w.heap.size w (((((wr.setCell ⟨g, i * 5, none⟩ (.int .i64 xz)).setCell ⟨g, i * 5 + 1, none⟩ (.int .i64 xf)).setCell ⟨g, i * 5 + 2, none⟩ (.int .i64 xc)).setCell ⟨g, i * 5 + 3, none⟩ (.int .i64 xq)).setCell ⟨g, i * 5 + 4, none⟩ (.int .i64 xu)) := HW.out.b.grown hgr HW.out.b.size (fun r hr => by cases hr; omega)
      have hx2 := HW.out.x.grown hgr (by intro e; injection e with e; omega)
      have hy2 := HW.out.y.grown hgr (by intro e; injection e with e; omega)
      have hoth : ∀ {e : TypeId} {k n : Nat} {v : Value} {xs : List Value}, wr.ownsRow (w.heap.size + 2 + 1) e k v n xs → e ≠ 45 → (((((wr.setCell ⟨g, i * 5, none⟩ (.int .i64 xz)).setCell ⟨g, i * 5 + 1, none⟩ (.int .i64 xf)).setCell ⟨g, i * 5 + 2, none⟩ (.int .i64 xc)).setCell ⟨g, i * 5 + 3, none⟩ (.int .i64 xq)).setCell ⟨g, i * 5 + 4, none⟩ (.int .i64 xu)).ownsRow (w.heap.size + 2 + 1) e k v n xs := fun {e k n v xs} hg hne => hg.kept hgr (own14_ne hg HW.out.o hne)
      have hoa : OA14 (((((wr.setCell ⟨g, i * 5, none⟩ (.int .i64 xz)).setCell ⟨g, i * 5 + 1, none⟩ (.int .i64 xf)).setCell ⟨g, i * 5 + 2, none⟩ (.int .i64 xc)).setCell ⟨g, i * 5 + 3, none⟩ (.int .i64 xq)).setCell ⟨g, i * 5 + 4, none⟩ (.int .i64 xu)) (w.heap.size + 2 + 1) { S with H := put14 S.H i ⟨xz, xf, xc, xq, xu⟩ } B0 B1 (some ⟨g, 0, none⟩) B3 B4 m0 m1 m m3 m4 d0 d1 c d3 d4 sr := ⟨hoth HW.out.o0 (by decide), hoth HW.out.o1 (by decide), hown, hoth HW.out.o3 (by decide), hoth HW.out.o4 (by decide), HW.out.l0, HW.out.l1, by rw [put14_len, HLX.out, hme], HW.out.l3, HW.out.l4, HW.out.m0, HW.out.m1, by omega, HW.out.m3, HW.out.m4, HW.out.e⟩
      obtain ⟨W3, hW3⟩ : ∃ W, (((((wr.setCell ⟨g, i * 5, none⟩ (.int .i64 xz)).setCell ⟨g, i * 5 + 1, none⟩ (.int .i64 xf)).setCell ⟨g, i * 5 + 2, none⟩ (.int .i64 xc)).setCell ⟨g, i * 5 + 3, none⟩ (.int .i64 xq)).setCell ⟨g, i * 5 + 4, none⟩ (.int .i64 xu)) = W := ⟨_, rfl⟩
      rw [hW3] at hb2 hx2 hy2 hoa
      have HTR := Lib.hid (rtrim14 (.agg #[.slice B0 m0 d0, .slice B1 m1 d1, .slice (some ⟨g, 0, none⟩) m c, .slice B3 m3 d3, .slice B4 m4 d4, .int .i64 sr]) _ W3 ⟨B0, B1, (some ⟨g, 0, none⟩), B3, B4, m0, m1, m, m3, m4, d0, d1, c, d3, d4, sr, rfl, hoa.sa⟩)
      have s0 := hx2.cell 0
      have s1 := hx2.cell 1
      have s2 := hx2.cell 2
      have s3 := hx2.cell 3
      have s4 := hx2.cell 4
      have s5 := hx2.cell 5
      have HB2 := Lib.hid hb2
      have HY2 := Lib.hid hy2
      have HSZ : Hid (w.heap.size + 2 + 1 ≤ W3.heap.size) := Lib.hid hy2.lt
      clear hlen hg0 hcl hfr hown hgr hpp hb2 hx2 hy2 hoth hoa hsc hme hm1 hm2 hmi
      go_wp2_with fail
      refine HTR.out.mono ?_
      rintro e w4 ⟨C0, C1, C2, C3, C4, p0, p1, p2, p3, p4, q0, q1, q2, q3, q4, st, rfl, hs2, hf2, hb4⟩
      have hR := HY2.out.below hb4 HY2.out.lt
      have hB := HB2.out.trans (hb4.mono HB2.out.size)
      have hk6 : Blk ((((((w4.setCell ⟨w.heap.size + 2, 0, none⟩ (.slice C0 p0 q0)).setCell ⟨w.heap.size + 2, 1, none⟩ (.slice C1 p1 q1)).setCell ⟨w.heap.size + 2, 2, none⟩ (.slice C2 p2 q2)).setCell ⟨w.heap.size + 2, 3, none⟩ (.slice C3 p3 q3)).setCell ⟨w.heap.size + 2, 4, none⟩ (.slice C4 p4 q4)).setCell ⟨w.heap.size + 2, 5, none⟩ (.int .i64 st)) (w.heap.size + 2) 28 #[.slice C0 p0 q0, .slice C1 p1 q1, .slice C2 p2 q2, .slice C3 p3 q3, .slice C4 p4 q4, .int .i64 st] := by
        have h := (((((hR.set_ 0 (.slice C0 p0 q0)).set_ 1 (.slice C1 p1 q1)).set_ 2 (.slice C2 p2 q2)).set_ 3 (.slice C3 p3 q3)).set_ 4 (.slice C4 p4 q4)).set_ 5 (.int .i64 st)
        simpa using h
      have HB6 := Lib.hid ((((((hB.setCell (p := ⟨w.heap.size + 2, 0, none⟩) (by simp) (.slice C0 p0 q0)).setCell (p := ⟨w.heap.size + 2, 1, none⟩) (by simp) (.slice C1 p1 q1)).setCell (p := ⟨w.heap.size + 2, 2, none⟩) (by simp) (.slice C2 p2 q2)).setCell (p := ⟨w.heap.size + 2, 3, none⟩) (by simp) (.slice C3 p3 q3)).setCell (p := ⟨w.heap.size + 2, 4, none⟩) (by simp) (.slice C4 p4 q4)).setCell (p := ⟨w.heap.size + 2, 5, none⟩) (by simp) (.int .i64 st))
      have HX := Lib.hid (sa14_set (sa14_set (sa14_set (sa14_set (sa14_set (sa14_set hs2 hf2 (q := ⟨w.heap.size + 2, 0, none⟩) (by have := HSZ.out; simp; omega) (.slice C0 p0 q0)) hf2 (q := ⟨w.heap.size + 2, 1, none⟩) (by have := HSZ.out; simp; omega) (.slice C1 p1 q1)) hf2 (q := ⟨w.heap.size + 2, 2, none⟩) (by have := HSZ.out; simp; omega) (.slice C2 p2 q2)) hf2 (q := ⟨w.heap.size + 2, 3, none⟩) (by have := HSZ.out; simp; omega) (.slice C3 p3 q3)) hf2 (q := ⟨w.heap.size + 2, 4, none⟩) (by have := HSZ.out; simp; omega) (.slice C4 p4 q4)) hf2 (q := ⟨w.heap.size + 2, 5, none⟩) (by have := HSZ.out; simp; omega) (.int .i64 st))
      have HF2 := Lib.hid (hf2.more (L' := w.heap.size) HB2.out.size)
      have y0 := hR.cell 0
      have yf0 := hR.frozen 0
      have w0_ := hk6.cell 0
      have g0 := hk6.frozen 0
      have y1 := hR.cell 1
      have yf1 := hR.frozen 1
      have w1_ := hk6.cell 1
      have g1 := hk6.frozen 1
      have y2 := hR.cell 2
      have yf2 := hR.frozen 2
      have w2_ := hk6.cell 2
      have g2 := hk6.frozen 2
      have y3 := hR.cell 3
      have yf3 := hR.frozen 3
      have w3_ := hk6.cell 3
      have g3 := hk6.frozen 3
      have y4 := hR.cell 4
      have yf4 := hR.frozen 4
      have w4_ := hk6.cell 4
      have g4 := hk6.frozen 4
      have y5 := hR.cell 5
      have yf5 := hR.frozen 5
      have w5_ := hk6.cell 5
      have g5 := hk6.frozen 5
      clear HTR hb4 hR hB hk6 hs2 hf2
      go_wp2_with fail
      exact bodyPost_ret (v := .agg #[.slice C0 p0 q0, .slice C1 p1 q1, .slice C2 p2 q2, .slice C3 p3 q3, .slice C4 p4 q4, .int .i64 st]) (by simp [results, Tryz.results26, go_sem, w0_, w1_, w2_, w3_, w4_, w5_, g0, g1, g2, g3, g4, g5]) rfl ⟨C0, C1, C2, C3, C4, p0, p1, p2, p3, p4, q0, q1, q2, q3, q4, st, rfl, HX.out, HF2.out, HB6.out⟩
/-- While zero ones are put behind a list: ys is what it is by now. -/
structure Pm14L (w : World) (S : Sv14) (xu : Bool) (xh : Int) (A0 A1 A2 A4 : Option Addr) (n0 n1 n2 n4 c0 c1 c2 c4 : Nat) (sq : Int) (A : Option Addr) (m c : Nat) (ys : List Lk14) (W : World) : Prop where
  b : Below w.heap.size w W
  x : Blk W w.heap.size 28 #[.slice A0 n0 c0, .slice A1 n1 c1, .slice A2 n2 c2, .slice A m c, .slice A4 n4 c4, .int .i64 sq]
  z : Blk W (w.heap.size + 1) 47 #[.bool xu, .int .i64 xh]
  y : Blk W (w.heap.size + 2) 28 #[.slice none 0 0, .slice none 0 0, .slice none 0 0, .slice none 0 0, .slice none 0 0, .int .i64 0]
  o : W.ownsRow (w.heap.size + 2 + 1) 47 2 (.slice A m c) m (fl14 clL ys)
  l : ys.length = m
  o0 : W.ownsRow (w.heap.size + 2 + 1) 4 1 (.slice A0 n0 c0) n0 (fl14 clC S.C)
  o1 : W.ownsRow (w.heap.size + 2 + 1) 43 6 (.slice A1 n1 c1) n1 (fl14 clT S.T)
  o2 : W.ownsRow (w.heap.size + 2 + 1) 45 5 (.slice A2 n2 c2) n2 (fl14 clH S.H)
  o4 : W.ownsRow (w.heap.size + 2 + 1) 3 1 (.slice A4 n4 c4) n4 (fl14 clI S.Q)
  l0 : S.C.length = n0
  l1 : S.T.length = n1
  l2 : S.H.length = n2
  l4 : S.Q.length = n4
  m0 : n0 ≤ 1000
  m1 : n1 ≤ 1000
  m2 : n2 ≤ 1000
  m4 : n4 ≤ 1000
  e : S.q = sq
theorem Pm14L.grow {w : World} {S : Sv14} {xu : Bool} {xh : Int} {A0 A1 A2 A4 : Option Addr} {n0 n1 n2 n4 c0 c1 c2 c4 : Nat} {sq : Int} {A : Option Addr} {m c : Nat} {ys : List Lk14} {W : World} {W2 : World} {Ag : Option Addr} {cg mg : Nat} {yg : List Lk14} (h : Pm14L w S xu xh A0 A1 A2 A4 n0 n1 n2 n4 c0 c1 c2 c4 sq A m c ys W) (hb : Below W.heap.size W W2 ∨ W.grownBy W2 (Value.slice A m c).ownBlock) (ho : W2.ownsRow (w.heap.size + 2 + 1) 47 2 (.slice Ag mg cg) mg (fl14 clL yg)) (hl : yg.length = mg) :
    Pm14L w S xu xh A0 A1 A2 A4 n0 n1 n2 n4 c0 c1 c2 c4 sq Ag mg cg yg (W2.setCell ⟨w.heap.size, 3, none⟩ (.slice Ag mg cg)) := by
  have hrow : ∀ r, (Value.slice A m c).ownBlock = some r → w.heap.size + 2 + 1 ≤ r := fun r hr => (h.o.lt r hr).1
  have hB : Below w.heap.size w (W2.setCell ⟨w.heap.size, 3, none⟩ (.slice Ag mg cg)) := by
    rcases hb with hb | hb
    · exact (h.b.trans (hb.mono h.b.size)).setCell (Nat.le_refl _) _
    · exact (h.b.grown hb h.b.size (fun r hr => by have := hrow r hr; omega)).setCell (Nat.le_refl _) _
  have hblk : ∀ {g : Nat} {t : TypeId} {cs : Array Value}, Blk W g t cs → t ≠ 47 → Blk W2 g t cs := fun {g t cs} hg hne => by
    rcases hb with hb | hb
    · exact hg.below hb hg.lt
    · exact hg.grown hb (own14_blk h.o hg hne)
  have hx : Blk W2 w.heap.size 28 #[.slice A0 n0 c0, .slice A1 n1 c1, .slice A2 n2 c2, .slice A m c, .slice A4 n4 c4, .int .i64 sq] := by
    rcases hb with hb | hb
    · exact h.x.below hb h.x.lt
    · exact h.x.grown hb (fun e => by have := hrow _ e.symm; omega)
  have hy : Blk W2 (w.heap.size + 2) 28 #[.slice none 0 0, .slice none 0 0, .slice none 0 0, .slice none 0 0, .slice none 0 0, .int .i64 0] := by
    rcases hb with hb | hb
    · exact h.y.below hb h.y.lt
    · exact h.y.grown hb (fun e => by have := hrow _ e.symm; omega)
  have hz : Blk W2 (w.heap.size + 1) 47 #[.bool xu, .int .i64 xh] := by
    rcases hb with hb | hb
    · exact h.z.below hb h.z.lt
    · exact h.z.grown hb (fun e => by have := hrow _ e.symm; omega)
  have hown : ∀ {e : TypeId} {k n : Nat} {v : Value} {xs : List Value}, W.ownsRow (w.heap.size + 2 + 1) e k v n xs → e ≠ 47 → (W2.setCell ⟨w.heap.size, 3, none⟩ (.slice Ag mg cg)).ownsRow (w.heap.size + 2 + 1) e k v n xs := fun {e k n v xs} hg hne => by
    refine ownsRow_setCell_below ?_ (by simp; omega) _
    rcases hb with hb | hb
    · exact own12_keep2 hg hb
    · exact hg.kept hb (own14_ne hg h.o hne)
  refine ⟨hB, ?_, hz.far (by simp) _, hy.far (by simp) _, ownsRow_setCell_below ho (by simp; omega) _, hl, hown h.o0 (by decide), hown h.o1 (by decide), hown h.o2 (by decide), hown h.o4 (by decide), h.l0, h.l1, h.l2, h.l4, h.m0, h.m1, h.m2, h.m4, h.e⟩
  have h1 := hx.set_ 3 (.slice Ag mg cg)
  simpa using h1
set_option maxHeartbeats 8000000 in
theorem rputLock14 (v : Value) (S : Sv14) (i : Nat) (xu : Bool) (xh : Int) (w : World) (h : St14 w v S) (hi : i ≤ 900) : Calls Tryz.prog 27 #[v, .int .i64 (i : Int), .agg #[.bool xu, .int .i64 xh]] w (RetSt14 w (trim14 { S with L := put14 S.L i ⟨xu, xh⟩ })) := by
  obtain ⟨A0, A1, A2, A3, A4, n0, n1, n2, n3, n4, c0, c1, c2, c3, c4, sq, rfl, hs⟩ := h
  have hb : Below w.heap.size w (((w.alloc (.cells #[.slice A0 n0 c0, .slice A1 n1 c1, .slice A2 n2 c2, .slice A3 n3 c3, .slice A4 n4 c4, .int .i64 sq] 28)).alloc (.cells #[.bool xu, .int .i64 xh] 47)).alloc (.cells #[.slice none 0 0, .slice none 0 0, .slice none 0 0, .slice none 0 0, .slice none 0 0, .int .i64 0] 28)) := by
    refine Below.alloc ?_ (by simp; try omega) _
    refine Below.alloc ?_ (by simp) _
    exact b1' w _
  have hr : Blk (((w.alloc (.cells #[.slice A0 n0 c0, .slice A1 n1 c1, .slice A2 n2 c2, .slice A3 n3 c3, .slice A4 n4 c4, .int .i64 sq] 28)).alloc (.cells #[.bool xu, .int .i64 xh] 47)).alloc (.cells #[.slice none 0 0, .slice none 0 0, .slice none 0 0, .slice none 0 0, .slice none 0 0, .int .i64 0] 28)) (w.heap.size + 2) 28 #[.slice none 0 0, .slice none 0 0, .slice none 0 0, .slice none 0 0, .slice none 0 0, .int .i64 0] := by
    have h := Blk.new ((w.alloc (.cells #[.slice A0 n0 c0, .slice A1 n1 c1, .slice A2 n2 c2, .slice A3 n3 c3, .slice A4 n4 c4, .int .i64 sq] 28)).alloc (.cells #[.bool xu, .int .i64 xh] 47)) 28 #[.slice none 0 0, .slice none 0 0, .slice none 0 0, .slice none 0 0, .slice none 0 0, .int .i64 0]
    rwa [show ((w.alloc (.cells #[.slice A0 n0 c0, .slice A1 n1 c1, .slice A2 n2 c2, .slice A3 n3 c3, .slice A4 n4 c4, .int .i64 sq] 28)).alloc (.cells #[.bool xu, .int .i64 xh] 47)).heap.size = w.heap.size + 2 by simp] at h
  have hk : Blk (((w.alloc (.cells #[.slice A0 n0 c0, .slice A1 n1 c1, .slice A2 n2 c2, .slice A3 n3 c3, .slice A4 n4 c4, .int .i64 sq] 28)).alloc (.cells #[.bool xu, .int .i64 xh] 47)).alloc (.cells #[.slice none 0 0, .slice none 0 0, .slice none 0 0, .slice none 0 0, .slice none 0 0, .int .i64 0] 28)) w.heap.size 28 #[.slice A0 n0 c0, .slice A1 n1 c1, .slice A2 n2 c2, .slice A3 n3 c3, .slice A4 n4 c4, .int .i64 sq] := ((Blk.new w 28 #[.slice A0 n0 c0, .slice A1 n1 c1, .slice A2 n2 c2, .slice A3 n3 c3, .slice A4 n4 c4, .int .i64 sq]).alloc _).alloc _
  have hx : Blk (((w.alloc (.cells #[.slice A0 n0 c0, .slice A1 n1 c1, .slice A2 n2 c2, .slice A3 n3 c3, .slice A4 n4 c4, .int .i64 sq] 28)).alloc (.cells #[.bool xu, .int .i64 xh] 47)).alloc (.cells #[.slice none 0 0, .slice none 0 0, .slice none 0 0, .slice none 0 0, .slice none 0 0, .int .i64 0] 28)) (w.heap.size + 1) 47 #[.bool xu, .int .i64 xh] := by
    have h := (Blk.new (w.alloc (.cells #[.slice A0 n0 c0, .slice A1 n1 c1, .slice A2 n2 c2, .slice A3 n3 c3, .slice A4 n4 c4, .int .i64 sq] 28)) 47 #[.bool xu, .int .i64 xh]).alloc (.cells #[.slice none 0 0, .slice none 0 0, .slice none 0 0, .slice none 0 0, .slice none 0 0, .int .i64 0] 28)
    rwa [show (w.alloc (.cells #[.slice A0 n0 c0, .slice A1 n1 c1, .slice A2 n2 c2, .slice A3 n3 c3, .slice A4 n4 c4, .int .i64 sq] 28)).heap.size = w.heap.size + 1 by simp] at h
  have hz : (((w.alloc (.cells #[.slice A0 n0 c0, .slice A1 n1 c1, .slice A2 n2 c2, .slice A3 n3 c3, .slice A4 n4 c4, .int .i64 sq] 28)).alloc (.cells #[.bool xu, .int .i64 xh] 47)).alloc (.cells #[.slice none 0 0, .slice none 0 0, .slice none 0 0, .slice none 0 0, .slice none 0 0, .int .i64 0] 28)).heap.size = w.heap.size + 2 + 1 := by simp
  obtain ⟨W0, hW0⟩ : ∃ W, (((w.alloc (.cells #[.slice A0 n0 c0, .slice A1 n1 c1, .slice A2 n2 c2, .slice A3 n3 c3, .slice A4 n4 c4, .int .i64 sq] 28)).alloc (.cells #[.bool xu, .int .i64 xh] 47)).alloc (.cells #[.slice none 0 0, .slice none 0 0, .slice none 0 0, .slice none 0 0, .slice none 0 0, .int .i64 0] 28)) = W := ⟨_, rfl⟩
  rw [hW0] at hb hk hr hz hx
  have HCP := Lib.hid (rcopy14 (.agg #[.slice A0 n0 c0, .slice A1 n1 c1, .slice A2 n2 c2, .slice A3 n3 c3, .slice A4 n4 c4, .int .i64 sq]) S W0 ⟨A0, A1, A2, A3, A4, n0, n1, n2, n3, n4, c0, c1, c2, c3, c4, sq, rfl, ⟨hs.l0, hs.l1, hs.l2, hs.l3, hs.l4, ((hs.r0.below hb (Nat.le_refl _)).more hb.size), ((hs.r1.below hb (Nat.le_refl _)).more hb.size), ((hs.r2.below hb (Nat.le_refl _)).more hb.size), ((hs.r3.below hb (Nat.le_refl _)).more hb.size), ((hs.r4.below hb (Nat.le_refl _)).more hb.size), hs.k0, hs.k1, hs.k2, hs.k3, hs.k4, hs.m0, hs.m1, hs.m2, hs.m3, hs.m4, hs.e⟩⟩)
  have HK0 := Lib.hid hk
  have HR0 := Lib.hid hr
  have HB0 := Lib.hid hb
  have HZ0 := Lib.hid hz
  have q0 := hk.cell 0
  have q1 := hk.cell 1
  have q2 := hk.cell 2
  have q3 := hk.cell 3
  have q4 := hk.cell 4
  have q5 := hk.cell 5
  have HX0 := Lib.hid hx
  clear hs hk hr hb hz hx
  go_enter Tryz.func27, Tryz.ntmps27
  go_wp2_with fail
  refine HCP.out.mono ?_
  rintro e u ⟨B0, B1, B2, B3, B4, m0, m1, m2, m3, m4, d0, d1, d2, d3, d4, sr, rfl, hoa, hbu⟩
  have hk1 := HK0.out.below hbu HK0.out.lt
  have k0 := hk1.cell 0
  have l0 := hk1.frozen 0
  have k1 := hk1.cell 1
  have l1 := hk1.frozen 1
  have k2 := hk1.cell 2
  have l2 := hk1.frozen 2
  have k3 := hk1.cell 3
  have l3 := hk1.frozen 3
  have k4 := hk1.cell 4
  have l4 := hk1.frozen 4
  have k5 := hk1.cell 5
  have l5 := hk1.frozen 5
  have hx1 : Blk ((((((u.setCell ⟨w.heap.size, 0, none⟩ (.slice B0 m0 d0)).setCell ⟨w.heap.size, 1, none⟩ (.slice B1 m1 d1)).setCell ⟨w.heap.size, 2, none⟩ (.slice B2 m2 d2)).setCell ⟨w.heap.size, 3, none⟩ (.slice B3 m3 d3)).setCell ⟨w.heap.size, 4, none⟩ (.slice B4 m4 d4)).setCell ⟨w.heap.size, 5, none⟩ (.int .i64 sr)) w.heap.size 28 #[.slice B0 m0 d0, .slice B1 m1 d1, .slice B2 m2 d2, .slice B3 m3 d3, .slice B4 m4 d4, .int .i64 sr] := by
    have h := ((((((hk1.set_ 0 (.slice B0 m0 d0)).set_ 1 (.slice B1 m1 d1)).set_ 2 (.slice B2 m2 d2)).set_ 3 (.slice B3 m3 d3)).set_ 4 (.slice B4 m4 d4)).set_ 5 (.int .i64 sr))
    simpa using h
  have hy1 := ((((((HR0.out.below hbu HR0.out.lt).far (p := ⟨w.heap.size, 0, none⟩) (by simp) (.slice B0 m0 d0)).far (p := ⟨w.heap.size, 1, none⟩) (by simp) (.slice B1 m1 d1)).far (p := ⟨w.heap.size, 2, none⟩) (by simp) (.slice B2 m2 d2)).far (p := ⟨w.heap.size, 3, none⟩) (by simp) (.slice B3 m3 d3)).far (p := ⟨w.heap.size, 4, none⟩) (by simp) (.slice B4 m4 d4)).far (p := ⟨w.heap.size, 5, none⟩) (by simp) (.int .i64 sr)
  have hz1 := ((((((HX0.out.below hbu HX0.out.lt).far (p := ⟨w.heap.size, 0, none⟩) (by simp) (.slice B0 m0 d0)).far (p := ⟨w.heap.size, 1, none⟩) (by simp) (.slice B1 m1 d1)).far (p := ⟨w.heap.size, 2, none⟩) (by simp) (.slice B2 m2 d2)).far (p := ⟨w.heap.size, 3, none⟩) (by simp) (.slice B3 m3 d3)).far (p := ⟨w.heap.size, 4, none⟩) (by simp) (.slice B4 m4 d4)).far (p := ⟨w.heap.size, 5, none⟩) (by simp) (.int .i64 sr)
  have hb1 := ((((((HB0.out.trans (hbu.mono HB0.out.size)).setCell (p := ⟨w.heap.size, 0, none⟩) (Nat.le_refl _) (.slice B0 m0 d0)).setCell (p := ⟨w.heap.size, 1, none⟩) (Nat.le_refl _) (.slice B1 m1 d1)).setCell (p := ⟨w.heap.size, 2, none⟩) (Nat.le_refl _) (.slice B2 m2 d2)).setCell (p := ⟨w.heap.size, 3, none⟩) (Nat.le_refl _) (.slice B3 m3 d3)).setCell (p := ⟨w.heap.size, 4, none⟩) (Nat.le_refl _) (.slice B4 m4 d4)).setCell (p := ⟨w.heap.size, 5, none⟩) (Nat.le_refl _) (.int .i64 sr)
  have hoa1 := (((((hoa.far (q := ⟨w.heap.size, 0, none⟩) (by rw [HZ0.out]; simp; omega) (.slice B0 m0 d0)).far (q := ⟨w.heap.size, 1, none⟩) (by rw [HZ0.out]; simp; omega) (.slice B1 m1 d1)).far (q := ⟨w.heap.size, 2, none⟩) (by rw [HZ0.out]; simp; omega) (.slice B2 m2 d2)).far (q := ⟨w.heap.size, 3, none⟩) (by rw [HZ0.out]; simp; omega) (.slice B3 m3 d3)).far (q := ⟨w.heap.size, 4, none⟩) (by rw [HZ0.out]; simp; omega) (.slice B4 m4 d4)).far (q := ⟨w.heap.size, 5, none⟩) (by rw [HZ0.out]; simp; omega) (.int .i64 sr)
  obtain ⟨W1, hW1⟩ : ∃ W, ((((((u.setCell ⟨w.heap.size, 0, none⟩ (.slice B0 m0 d0)).setCell ⟨w.heap.size, 1, none⟩ (.slice B1 m1 d1)).setCell ⟨w.heap.size, 2, none⟩ (.slice B2 m2 d2)).setCell ⟨w.heap.size, 3, none⟩ (.slice B3 m3 d3)).setCell ⟨w.heap.size, 4, none⟩ (.slice B4 m4 d4)).setCell ⟨w.heap.size, 5, none⟩ (.int .i64 sr)) = W := ⟨_, rfl⟩
  rw [hW1] at hx1 hy1 hb1 hoa1 hz1
  rw [HZ0.out] at hoa1
  have HT : Hid (Pm14L w S xu xh B0 B1 B2 B4 m0 m1 m2 m4 d0 d1 d2 d4 sr B3 m3 d3 (pad14 S.L m3) W1) := Lib.hid ⟨hb1, hx1, hz1, hy1, by rw [show pad14 S.L m3 = S.L by rw [← hoa1.l3, pad14_self]]; exact hoa1.o3, pad14_len (by rw [hoa1.l3]; exact Nat.le_refl _), hoa1.o0, hoa1.o1, hoa1.o2, hoa1.o4, hoa1.l0, hoa1.l1, hoa1.l2, hoa1.l4, hoa1.m0, hoa1.m1, hoa1.m2, hoa1.m4, hoa1.e⟩
  have HLX := Lib.hid hoa1.l3
  have HMX := Lib.hid hoa1.m3
  clear HCP hbu hoa hk1 hx1 hy1 hb1 hoa1 q0 q1 q2 q3 q4 q5 hz1
  go_wp2_with fail
  clear k0 l0 k1 l1 k2 l2 k3 l3 k4 l4 k5 l5 hW1
  go_loopw [9] (fun _ wr => ∃ (A : Option Addr) (m c : Nat), m3 ≤ m ∧ m ≤ max m3 (i + 1) ∧ Hid (Pm14L w S xu xh B0 B1 B2 B4 m0 m1 m2 m4 d0 d1 d2 d4 sr A m c (pad14 S.L m) wr)) (fun _ wr => i + 1 - len14 wr w.heap.size 3)
  case atStart => exact ⟨B3, m3, d3, Nat.le_refl _, by omega, HT⟩
  case round =>
    obtain ⟨A, m, c, hm1, hm2, HW⟩ := hrel
    have t0 := HW.out.x.cell 3
    have tf := HW.out.x.frozen 3
    have hnb := HMX.out
    by_cases hmi : m ≤ i
    · have i1 : (m : Int) ≤ (i : Int) := by omega
      have hbz := b1' wr (.cells #[.bool false, .int .i64 0] 47)
      have hkz := Blk.new wr 47 #[.bool false, .int .i64 0]
      have hoz := own12_keep2 HW.out.o hbz
      have hsz : w.heap.size + 2 + 1 ≤ wr.heap.size := HW.out.y.lt
      have hsy : (wr.alloc (.cells #[.bool false, .int .i64 0] 47)).heap.size = wr.heap.size + 1 := by simp
      obtain ⟨Y, hY⟩ : ∃ Y, wr.alloc (.cells #[.bool false, .int .i64 0] 47) = Y := ⟨_, rfl⟩
      rw [hY] at hbz hkz hoz hsy
      have hrv : Rv Y Y.heap.size (some ⟨wr.heap.size, 0, none⟩) [.bool false, .int .i64 0] := fun _ => ⟨wr.heap.size, 0, rfl, by omega, fun j v hj => by rw [Nat.zero_add, hkz.cell]; simpa using hj⟩
      obtain ⟨A2, c2, w2, hrun, hown, hg⟩ := run_append_14 (P := Tryz.prog) Y (w.heap.size + 2 + 1) 25 25 47 _ 2 16 Tryz.underlying25 info14L rfl (by omega) (by omega) _ m _ hoz Y.heap.size (some ⟨wr.heap.size, 0, none⟩) [.bool false, .int .i64 0] 1 1 rfl hrv (by simp [Value.oneCell']) (by omega) (by omega)
      have hpad : fl14 clL (pad14 S.L m) ++ [.bool false, .int .i64 0] = fl14 clL (pad14 S.L (m + 1)) := by
        rw [pad14_next (by rw [HLX.out]; exact hm1), fl14_append]
        rfl
      rw [hpad] at hown
      have hgY : Pm14L w S xu xh B0 B1 B2 B4 m0 m1 m2 m4 d0 d1 d2 d4 sr A m c (pad14 S.L m) (Y.setCell ⟨w.heap.size, 3, none⟩ (.slice A m c)) := HW.out.grow (.inl hbz) hoz HW.out.l
      have hYx := HW.out.x.below hbz HW.out.x.lt
      have hb2 : wr.grownBy w2 (Value.slice A m c).ownBlock := ⟨hg.os.trans hbz.os, hg.tape.trans hbz.tape, hg.output.trans hbz.output, Nat.le_trans hbz.size hg.size, fun q hq hr => (hg.block q (by omega) hr).trans (hbz.block q hq)⟩
      have hw2 := HW.out.grow (.inr hb2) hown (pad14_len (by rw [HLX.out]; omega))
      have u0 := hYx.cell 3
      have hx2 := HW.out.x.grown hb2 (fun e => by have := (HW.out.o.lt _ e.symm).1; omega)
      have x0 := hx2.cell 3
      have xf := hx2.frozen 3
      have HRUN := Lib.hid hrun
      have HW2 := Lib.hid hw2
      have HM := Lib.hid (len14_of (hw2.x.cell 3))
      have HM0 := Lib.hid (len14_of t0)
      clear hbz hkz hoz hsz hsy hrv hrun hown hg hpad hgY hYx hb2 hw2 hx2
      go_wp2_with (at_builtin; go_loud (refine wpList_append_14 _ rfl (.tmp 15) (.tmp 17) 25 rfl _ _ _ _ rfl rfl HRUN.out ?_))
      go_roundw
      case rel => exact ⟨A2, m + 1, c2, by omega, by omega, HW2⟩
      case measure => rw [HM.out, HM0.out]; omega
    · have hme : m = max m3 (i + 1) := by omega
      have i1 : ¬ (m : Int) ≤ (i : Int) := by omega
      have hlen : (pad14 S.L m).length = m := HW.out.l
      obtain ⟨g, hA, hg0, hcl, hfr, hown, hgr⟩ := own14_set len14L (by omega) HW.out.o (i := i) (by rw [hlen]; omega) (⟨xu, xh⟩ : Lk14)
      subst hA
      have hpp : (pad14 S.L m).set i ⟨xu, xh⟩ = put14 S.L i ⟨xu, xh⟩ := by rw [hme, ← HLX.out, put14_pad]
      rw [hpp] at hown
      have hsc : wr.setCells g (i * 2) (clL ⟨xu, xh⟩) = ((wr.setCell ⟨g, i * 2, none⟩ (.bool xu)).setCell ⟨g, i * 2 + 1, none⟩ (.int .i64 xh)) := by rfl
      rw [hsc] at hown hgr
      obtain ⟨z0, e0⟩ := hcl 0 (by omega)
      have f0 := hfr (i * 2)
      obtain ⟨z1, e1⟩ := hcl 1 (by omega)
      have f1 := hfr (i * 2 + 1)
      have e0' : wr.cell? ⟨g, i * 2, none⟩ = some z0 := e0
      have v0 := HW.out.z.cell 0
      have v1 := HW.out.z.cell 1
      have j0 : (0 : Int) ≤ (i : Int) := by omega
      have j1 : (i : Int) < (m : Int) := by omega
      have hb2 : Below w.heap.size w ((wr.setCell ⟨g, i * 2, none⟩ (.bool xu)).setCell ⟨g, i * 2 + 1, none⟩ (.int .i64 xh)) := HW.out.b.grown hgr HW.out.b.size (fun r hr => by cases hr; omega)
      have hx2 := HW.out.x.grown hgr (by intro e; injection e with e; omega)
      have hy2 := HW.out.y.grown hgr (by intro e; injection e with e; omega)
      have hoth : ∀ {e : TypeId} {k n : Nat} {v : Value} {xs : List Value}, wr.ownsRow (w.heap.size + 2 + 1) e k v n xs → e ≠ 47 → ((wr.setCell ⟨g, i * 2, none⟩ (.bool xu)).setCell ⟨g, i * 2 + 1, none⟩ (.int .i64 xh)).ownsRow (w.heap.size + 2 + 1) e k v n xs := fun {e k n v xs} hg hne => hg.kept hgr (own14_ne hg HW.out.o hne)
      have hoa : OA14 ((wr.setCell ⟨g, i * 2, none⟩ (.bool xu)).setCell ⟨g, i * 2 + 1, none⟩ (.int .i64 xh)) (w.heap.size + 2 + 1) { S with L := put14 S.L i ⟨xu, xh⟩ } B0 B1 B2 (some ⟨g, 0, none⟩) B4 m0 m1 m2 m m4 d0 d1 d2 c d4 sr := ⟨hoth HW.out.o0 (by decide), hoth HW.out.o1 (by decide), hoth HW.out.o2 (by decide), hown, hoth HW.out.o4 (by decide), HW.out.l0, HW.out.l1, HW.out.l2, by rw [put14_len, HLX.out, hme], HW.out.l4, HW.out.m0, HW.out.m1, HW.out.m2, by omega, HW.out.m4, HW.out.e⟩
      obtain ⟨W3, hW3⟩ : ∃ W, ((wr.setCell ⟨g, i * 2, none⟩ (.bool xu)).setCell ⟨g, i * 2 + 1, none⟩ (.int .i64 xh)) = W := ⟨_, rfl⟩
      rw [hW3] at hb2 hx2 hy2 hoa
      have HTR := Lib.hid (rtrim14 (.agg #[.slice B0 m0 d0, .slice B1 m1 d1, .slice B2 m2 d2, .slice (some ⟨g, 0, none⟩) m c, .slice B4 m4 d4, .int .i64 sr]) _ W3 ⟨B0, B1, B2, (some ⟨g, 0, none⟩), B4, m0, m1, m2, m, m4, d0, d1, d2, c, d4, sr, rfl, hoa.sa⟩)
      have s0 := hx2.cell 0
      have s1 := hx2.cell 1
      have s2 := hx2.cell 2
      have s3 := hx2.cell 3
      have s4 := hx2.cell 4
      have s5 := hx2.cell 5
      have HB2 := Lib.hid hb2
      have HY2 := Lib.hid hy2
      have HSZ : Hid (w.heap.size + 2 + 1 ≤ W3.heap.size) := Lib.hid hy2.lt
      clear hlen hg0 hcl hfr hown hgr hpp hb2 hx2 hy2 hoth hoa hsc hme hm1 hm2 hmi
      go_wp2_with fail
      refine HTR.out.mono ?_
      rintro e w4 ⟨C0, C1, C2, C3, C4, p0, p1, p2, p3, p4, q0, q1, q2, q3, q4, st, rfl, hs2, hf2, hb4⟩
      have hR := HY2.out.below hb4 HY2.out.lt
      have hB := HB2.out.trans (hb4.mono HB2.out.size)
      have hk6 : Blk ((((((w4.setCell ⟨w.heap.size + 2, 0, none⟩ (.slice C0 p0 q0)).setCell ⟨w.heap.size + 2, 1, none⟩ (.slice C1 p1 q1)).setCell ⟨w.heap.size + 2, 2, none⟩ (.slice C2 p2 q2)).setCell ⟨w.heap.size + 2, 3, none⟩ (.slice C3 p3 q3)).setCell ⟨w.heap.size + 2, 4, none⟩ (.slice C4 p4 q4)).setCell ⟨w.heap.size + 2, 5, none⟩ (.int .i64 st)) (w.heap.size + 2) 28 #[.slice C0 p0 q0, .slice C1 p1 q1, .slice C2 p2 q2, .slice C3 p3 q3, .slice C4 p4 q4, .int .i64 st] := by
        have h := (((((hR.set_ 0 (.slice C0 p0 q0)).set_ 1 (.slice C1 p1 q1)).set_ 2 (.slice C2 p2 q2)).set_ 3 (.slice C3 p3 q3)).set_ 4 (.slice C4 p4 q4)).set_ 5 (.int .i64 st)
        simpa using h
      have HB6 := Lib.hid ((((((hB.setCell (p := ⟨w.heap.size + 2, 0, none⟩) (by simp) (.slice C0 p0 q0)).setCell (p := ⟨w.heap.size + 2, 1, none⟩) (by simp) (.slice C1 p1 q1)).setCell (p := ⟨w.heap.size + 2, 2, none⟩) (by simp) (.slice C2 p2 q2)).setCell (p := ⟨w.heap.size + 2, 3, none⟩) (by simp) (.slice C3 p3 q3)).setCell (p := ⟨w.heap.size + 2, 4, none⟩) (by simp) (.slice C4 p4 q4)).setCell (p := ⟨w.heap.size + 2, 5, none⟩) (by simp) (.int .i64 st))
      have HX := Lib.hid (sa14_set (sa14_set (sa14_set (sa14_set (sa14_set (sa14_set hs2 hf2 (q := ⟨w.heap.size + 2, 0, none⟩) (by have := HSZ.out; simp; omega) (.slice C0 p0 q0)) hf2 (q := ⟨w.heap.size + 2, 1, none⟩) (by have := HSZ.out; simp; omega) (.slice C1 p1 q1)) hf2 (q := ⟨w.heap.size + 2, 2, none⟩) (by have := HSZ.out; simp; omega) (.slice C2 p2 q2)) hf2 (q := ⟨w.heap.size + 2, 3, none⟩) (by have := HSZ.out; simp; omega) (.slice C3 p3 q3)) hf2 (q := ⟨w.heap.size + 2, 4, none⟩) (by have := HSZ.out; simp; omega) (.slice C4 p4 q4)) hf2 (q := ⟨w.heap.size + 2, 5, none⟩) (by have := HSZ.out; simp; omega) (.int .i64 st))
      have HF2 := Lib.hid (hf2.more (L' := w.heap.size) HB2.out.size)
      have y0 := hR.cell 0
      have yf0 := hR.frozen 0
      have w0_ := hk6.cell 0
      have g0 := hk6.frozen 0
      have y1 := hR.cell 1
      have yf1 := hR.frozen 1
      have w1_ := hk6.cell 1
      have g1 := hk6.frozen 1
      have y2 := hR.cell 2
      have yf2 := hR.frozen 2
      have w2_ := hk6.cell 2
      have g2 := hk6.frozen 2
      have y3 := hR.cell 3
      have yf3 := hR.frozen 3
      have w3_ := hk6.cell 3
      have g3 := hk6.frozen 3
      have y4 := hR.cell 4
      have yf4 := hR.frozen 4
      have w4_ := hk6.cell 4
      have g4 := hk6.frozen 4
      have y5 := hR.cell 5
      have yf5 := hR.frozen 5
      have w5_ := hk6.cell 5
      have g5 := hk6.frozen 5
      clear HTR hb4 hR hB hk6 hs2 hf2
      go_wp2_with fail
      exact bodyPost_ret (v := .agg #[.slice C0 p0 q0, .slice C1 p1 q1, .slice C2 p2 q2, .slice C3 p3 q3, .slice C4 p4 q4, .int .i64 st]) (by simp [results, Tryz.results27, go_sem, w0_, w1_, w2_, w3_, w4_, w5_, g0, g1, g2, g3, g4, g5]) rfl ⟨C0, C1, C2, C3, C4, p0, p1, p2, p3, p4, q0, q1, q2, q3, q4, st, rfl, HX.out, HF2.out, HB6.out⟩
end Go.Proofs.YtfoellhoaflofaaGreat
