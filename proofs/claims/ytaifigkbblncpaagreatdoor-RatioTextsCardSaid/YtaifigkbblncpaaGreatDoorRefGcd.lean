/-
  The document's numbers in digits: Gcd: a number whose cells avoid three boxes.
-/
import Derived.Test.YtaifigkbblncpaaGreatDoorDivN
import Derived.Test.YtaifigkbblncpaaGreatDoorVars
namespace Go.Proofs.YtaifigkbblncpaaGreatDoor
open Go.RowKit
set_option maxRecDepth 100000

/-- v is the document's number a in world W; its digits lie in no block from B to B + 2. -/
def NumA (W : World) (B : Nat) (v : Value) (a : Nat) : Prop := ∃ A xs n c, v = .agg #[.slice A n c] ∧ xs.length = n ∧ n ≤ c ∧ Rd W W.heap.size A xs ∧ (xs ≠ [] → ∀ b o, A = some ⟨b, o, none⟩ → b < B ∨ B + 2 < b) ∧ Can xs ∧ V xs = a
theorem NumA.num {W : World} {B : Nat} {v : Value} {a : Nat} (h : NumA W B v a) : Num W 0 v a := by
  obtain ⟨A, xs, n, c, h1, hl, h2, h3, _, h5, h6⟩ := h
  exact ⟨A, xs, n, c, h1, hl, h2, h3, fun hx => by obtain ⟨b, o, e, _, _⟩ := h3 hx; exact ⟨b, o, e, Nat.zero_le _⟩, h5, h6⟩
theorem NumA.below {W W' : World} {B : Nat} {v : Value} {a : Nat} (h : NumA W B v a) (hb : Below W.heap.size W W') : NumA W' B v a := by
  obtain ⟨A, xs, n, c, h1, hl, h2, h3, h4, h5⟩ := h
  exact ⟨A, xs, n, c, h1, hl, h2, (h3.below hb (Nat.le_refl _)).more hb.size, h4, h5⟩
theorem NumA.set {W : World} {B g : Nat} {v u : Value} {a : Nat} (h : NumA W B v a) (h1 : B ≤ g) (h2 : g ≤ B + 2) : NumA (W.setCell ⟨g, 0, none⟩ u) B v a := by
  obtain ⟨A, xs, n, c, e1, hl, e2, h3, h4, h5⟩ := h
  refine ⟨A, xs, n, c, e1, hl, e2, ?_, h4, h5⟩
  rw [setCell_size]
  intro hx
  obtain ⟨b, o, e, hb, hc⟩ := h3 hx
  refine ⟨b, o, e, hb, fun k hk => ?_⟩
  rw [World.cell?_setCell_other W _ _ u (fun e' => by
    have := h4 hx b o e
    injection e' with e1 e2
    omega)]
  exact hc k hk
theorem NumA.old {w : World} {L : Nat} {v : Value} {a : Nat} (h : Num w L v a) : NumA w w.heap.size v a := by
  obtain ⟨A, xs, n, c, h1, hl, h2, h3, _, h5, h6⟩ := h
  exact ⟨A, xs, n, c, h1, hl, h2, h3, fun hx b' o' e' => by
    obtain ⟨b, o, e, hb, _⟩ := h3 hx
    rw [e] at e'
    injection e' with e'
    injection e' with e1 e2
    subst e1
    exact .inl hb, h5, h6⟩
theorem NumA.new {W : World} {B L : Nat} {v : Value} {a : Nat} (h : Num W L v a) (hL : B + 2 < L) : NumA W B v a := by
  obtain ⟨A, xs, n, c, h1, hl, h2, h3, h4, h5, h6⟩ := h
  exact ⟨A, xs, n, c, h1, hl, h2, h3, fun hx b' o' e' => by
    obtain ⟨b, o, e, hb⟩ := h4 hx
    rw [e] at e'
    injection e' with e'
    injection e' with e1 e2
    subst e1
    exact .inr (by omega), h5, h6⟩
/-- A value is one number. -/
theorem Num.same {W : World} {L L' : Nat} {v : Value} {a b : Nat} (h : Num W L v a) (k : Num W L' v b) : a = b := by
  obtain ⟨A, xs, n, c, h1, hl, h2, h3, _, _, h6⟩ := h
  obtain ⟨A', ys, n', c', k1, kl, k2, k3, _, _, k6⟩ := k
  rw [h1] at k1
  simp only [Value.agg.injEq, Array.mk.injEq, List.cons.injEq, Value.slice.injEq, and_true] at k1
  obtain ⟨rfl, rfl, rfl⟩ := k1
  have hxy : xs = ys := by
    apply List.ext_getElem (by omega)
    intro i hi hj
    obtain ⟨b1, o1, e1, _, c1⟩ := h3 (by rintro rfl; simp at hi)
    obtain ⟨b2, o2, e2, _, c2⟩ := k3 (by rintro rfl; simp at hj)
    rw [e1] at e2
    injection e2 with e2
    injection e2 with e3 e4
    subst e3 e4
    have := (c1 i hi).symm.trans (c2 i hj)
    rw [nth_in hi, nth_in hj] at this
    simp only [Option.some.injEq, Value.int.injEq, true_and] at this
    omega
  rw [← h6, ← k6, hxy]
open Classical in
/-- The number in a box: a measure. -/
noncomputable def boxN (W : World) (g : Nat) : Nat := if h : ∃ a s L, W.cell? ⟨g, 0, none⟩ = some s ∧ Num W L (.agg #[s]) a then h.choose else 0
theorem boxN_eq {W : World} {g a L : Nat} {s : Value} (hc : W.cell? ⟨g, 0, none⟩ = some s) (hn : Num W L (.agg #[s]) a) : boxN W g = a := by
  have h : ∃ a s L, W.cell? ⟨g, 0, none⟩ = some s ∧ Num W L (.agg #[s]) a := ⟨a, s, L, hc, hn⟩
  unfold boxN
  rw [dif_pos h]
  obtain ⟨s', L', hc', hn'⟩ := h.choose_spec
  rw [hc] at hc'
  injection hc' with hc'
  subst hc'
  exact hn'.same hn

theorem num_len3 {w : World} {L m n c : Nat} {A : Option Addr} (h : Num w L (.agg #[.slice A n c]) m) : (n = 0 ∧ m = 0) ∨ (0 < n ∧ 0 < m) := by
  obtain ⟨A', xs, n', c', hv, hl, _, _, _, hcan, hV⟩ := h
  simp only [Value.agg.injEq, Array.mk.injEq, List.cons.injEq, Value.slice.injEq, and_true] at hv
  obtain ⟨rfl, rfl, rfl⟩ := hv
  rcases xs with _ | ⟨d, r⟩
  · exact .inl ⟨by simpa using hl.symm, by rw [← hV]; rfl⟩
  · refine .inr ⟨by rw [← hl]; simp, ?_⟩
    rcases Nat.eq_zero_or_pos m with h0 | h0
    · have : d :: r = [] := V_inj hcan Can.nil (by rw [hV, h0]; rfl)
      cases this
    · exact h0
/-- The boxes of Gcd, and the result's cell. -/
structure GM (w : World) (x y : Nat) (s t : Value) (wr : World) : Prop where
  below : Below w.heap.size w wr
  one : Blk wr w.heap.size 33 #[s]
  two : Blk wr (w.heap.size + 1) 33 #[t]
  res : Blk wr (w.heap.size + 2) 33 #[.slice none 0 0]
  nx : NumA wr w.heap.size (.agg #[s]) x
  ny : NumA wr w.heap.size (.agg #[t]) y
theorem GM.step {w wr w' : World} {x y : Nat} {s t : Value} (h : GM w x y s t wr) (hb : Below wr.heap.size wr w') : GM w x y s t w' :=
  ⟨h.below.trans (hb.mono h.below.size), h.one.below hb h.one.lt, h.two.below hb h.two.lt, h.res.below hb h.res.lt, h.nx.below hb, h.ny.below hb⟩
theorem GM.turn {w wr : World} {x y z : Nat} {s t r : Value} (h : GM w x y s t wr) (hz : NumA wr w.heap.size (.agg #[r]) z) : GM w y z t r ((wr.setCell ⟨w.heap.size, 0, none⟩ t).setCell ⟨w.heap.size + 1, 0, none⟩ r) :=
  ⟨(h.below.setCell (by simp) _).setCell (by simp) _, by have := (h.one.set_ 0 t).far (p := ⟨w.heap.size + 1, 0, none⟩) (by simp) r; simpa using this, by have := (h.two.far (p := ⟨w.heap.size, 0, none⟩) (by simp) t).set_ 0 r; simpa using this, (h.res.far (by simp) _).far (by simp) _,
    (h.ny.set (by omega) (by omega)).set (by omega) (by omega), (hz.set (by omega) (by omega)).set (by omega) (by omega)⟩

set_option maxHeartbeats 4000000 in
theorem refGcd3_any {j : Nat} (A1 A2 : Option Addr) (n1 c1 n2 c2 a b L1 L2 : Nat) (w : World) (h1 : Num w L1 (.agg #[.slice A1 n1 c1]) a) (h2 : Num w L2 (.agg #[.slice A2 n2 c2]) b) (ha : a < 65536 ^ j) (hb : b < 65536 ^ j) (hj : j ≤ 4000) :
    Calls Tryz.prog 26 #[.agg #[.slice A1 n1 c1], .agg #[.slice A2 n2 c2]] w fun e w' => ∃ v, e = .returned v ∧ (∃ L, Num w' L v (Nat.gcd a b)) ∧ Below w.heap.size w w' := by
  obtain ⟨G, hG⟩ : ∃ G, Nat.gcd a b = G := ⟨_, rfl⟩
  rw [hG]
  have HA := Lib.hid ha
  have HB := Lib.hid hb
  have HG := Lib.hid hG
  have hb0 : Below w.heap.size w (((w.alloc (.cells #[.slice A1 n1 c1] 33)).alloc (.cells #[.slice A2 n2 c2] 33)).alloc (.cells #[.slice none 0 0] 33)) :=
    (((Below.refl _ _).alloc (Nat.le_refl _) _).alloc (by simp) _).alloc (by simp; omega) _
  have q2 := (Blk.new (w.alloc (.cells #[.slice A1 n1 c1] 33)) 33 #[.slice A2 n2 c2]).alloc (.cells #[.slice none 0 0] 33)
  have q3 := Blk.new ((w.alloc (.cells #[.slice A1 n1 c1] 33)).alloc (.cells #[.slice A2 n2 c2] 33)) 33 #[.slice none 0 0]
  have hm0 : GM w a b (.slice A1 n1 c1) (.slice A2 n2 c2) _ := ⟨hb0, ((Blk.new w _ _).alloc _).alloc _, by simpa using q2, by simpa using q3, (NumA.old h1).below hb0, (NumA.old h2).below hb0⟩
  have HM0 := Lib.hid hm0
  clear ha hb hG h1 h2 hb0 q2 q3 hm0
  go_enter Tryz.func26, Tryz.ntmps26
  go_wp2_with fail
  go_loopw [] (fun wr => ∃ (x y : Nat) (A : Option Addr) (n c : Nat) (A' : Option Addr) (n' c' : Nat), GM w x y (.slice A n c) (.slice A' n' c') wr ∧ Nat.gcd x y = G ∧ x < 65536 ^ j ∧ y < 65536 ^ j) (fun wr => boxN wr (w.heap.size + 1))
  case atStart => exact ⟨a, b, A1, n1, c1, A2, n2, c2, HM0.out, HG.out, HA.out, HB.out⟩
  case round =>
    clear HM0 HA HB HG
    obtain ⟨x, y, A, n, c, A', n', c', hm, hg, hx, hy⟩ := hrel
    have c1' : wr.cell? ⟨w.heap.size, 0, none⟩ = some (.slice A n c) := hm.one.cell 0
    have c2' : wr.cell? ⟨w.heap.size + 1, 0, none⟩ = some (.slice A' n' c') := hm.two.cell 0
    have c3' : wr.cell? ⟨w.heap.size + 1 + 1, 0, none⟩ = some (.slice none 0 0) := hm.res.cell 0
    have f1' := hm.one.frozen 0
    have f2' := hm.two.frozen 0
    have f3' : wr.frozen? ⟨w.heap.size + 1 + 1, 0, none⟩ = false := hm.res.frozen 0
    have hlt := hm.res.lt
    have hnl := num_len3 hm.ny.num
    have HM := Lib.hid hm
    have HG := Lib.hid hg
    have HX := Lib.hid hx
    have HY := Lib.hid hy
    have HBX := Lib.hid (boxN_eq c2' hm.ny.num)
    clear hm hg hx hy
    rcases hnl with ⟨rfl, rfl⟩ | ⟨hn0, hy0⟩
    · have hxG : x = G := by have := HG.out; rwa [Nat.gcd_zero_right] at this
      subst hxG
      go_wp2_with fail
      have cc : (wr.setCell ⟨w.heap.size + 1 + 1, 0, none⟩ (.slice A n c)).cell? ⟨w.heap.size + 1 + 1, 0, none⟩ = some (.slice A n c) := by have := (HM.out.res.set_ 0 (.slice A n c)).cell 0; simpa using this
      exact bodyPost_ret (v := .agg #[.slice A n c]) (by simp [results, Tryz.results26, go_sem, cc]) rfl ⟨_, rfl, ⟨0, (HM.out.nx.set (g := w.heap.size + 1 + 1) (by omega) (by omega)).num⟩, HM.out.below.setCell (by simp; omega) _⟩
    · go_wp2_with fail
      refine (div_num (.agg #[.slice A n c]) (.agg #[.slice A' n' c']) x y _ _ wr HM.out.nx.num HM.out.ny.num HX.out HY.out hy0).mono ?_
      rintro e u ⟨v1, v2, rfl, hq1, hq2, hb⟩
      obtain ⟨A4, n4, c4, rfl⟩ := hq1.shape
      obtain ⟨A5, n5, c5, rfl⟩ := hq2.shape
      have hm1 := HM.out.step hb
      have hsz := hb.size
      have H5 := Lib.hid (NumA.new (B := w.heap.size) hq2 (by omega))
      have HM1 := Lib.hid hm1
      have hm2 := hm1.step (b2 u (.cells #[.slice A4 n4 c4] 33) (.cells #[.slice A5 n5 c5] 33))
      have d2 : ((u.alloc (.cells #[.slice A4 n4 c4] 33)).alloc (.cells #[.slice A5 n5 c5] 33)).cell? ⟨w.heap.size + 1, 0, none⟩ = some (.slice A' n' c') := hm2.two.cell 0
      have d1 : ((u.alloc (.cells #[.slice A4 n4 c4] 33)).alloc (.cells #[.slice A5 n5 c5] 33)).cell? ⟨w.heap.size, 0, none⟩ = some (.slice A n c) := hm2.one.cell 0
      have e1 := hm2.one.frozen 0
      have e2 := hm2.two.frozen 0
      have hlt1 := hm1.res.lt
      have HM2 := Lib.hid hm2
      clear hm2
      clear hm1 hq1 hq2 c1' c2' c3' f1' f2' f3'
      go_wp2_with fail
      have ht := HM2.out.turn (H5.out.below (b2 u (.cells #[.slice A4 n4 c4] 33) (.cells #[.slice A5 n5 c5] 33)))
      refine ⟨⟨y, x % y, A', n', c', A5, n5, c5, ht, by rw [← HG.out, Nat.gcd_comm x y, Nat.gcd_rec y x, Nat.gcd_comm], HY.out, Nat.lt_trans (Nat.mod_lt _ hy0) HY.out⟩, ?_⟩
      rw [boxN_eq (ht.two.cell 0) ht.ny.num, HBX.out]
      exact Nat.mod_lt _ hy0
end Go.Proofs.YtaifigkbblncpaaGreatDoor
