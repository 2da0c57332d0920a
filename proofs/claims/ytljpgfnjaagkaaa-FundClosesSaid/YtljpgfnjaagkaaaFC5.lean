/-
  SaidFundCloses, part 5 of 13: what the theorem fundCloses_holds reaches.
-/
import Derived.Test.YtljpgfnjaagkaaaFC4
import Derived.Deep.LoopGhost
import Derived.RangeFuncCalls
namespace Go.Proofs.Ytljpgfnjaagkaaa
open Go.RowKit
set_option maxRecDepth 100000
/-- How far one has gone through all that a comes to: marks m, the stack xs; those of P are being gone through. -/
structure Dfs13 (A : List (Nat × Nat)) (a n : Nat) (m : Nat → Bool) (xs : List Nat) (P : Nat → Prop) : Prop where
  sound : ∀ x, m x = true → Way A a x
  seen : ∀ x, x ∈ xs → (x = a ∨ m x = true) ∧ x < n
  all : ∀ x, (x = a ∨ m x = true) → x ∈ xs ∨ P x ∨ ∀ y, (x, y) ∈ A → m y = true
theorem Dfs13.start {A : List (Nat × Nat)} {a n : Nat} (ha : a < n) : Dfs13 A a n (fun _ => false) [a] (fun _ => False) :=
  ⟨fun x h => (by cases h), fun x h => (by rw [List.mem_singleton] at h; exact ⟨.inl h, by omega⟩), fun x h => by
    rcases h with rfl | h
    · exact .inl (by simp)
    · cases h⟩
theorem Dfs13.pop {A : List (Nat × Nat)} {a n i : Nat} {m : Nat → Bool} {xs : List Nat} (h : Dfs13 A a n m (xs ++ [i]) (fun _ => False)) : Dfs13 A a n m xs (fun x => x = i) ∧ (i = a ∨ m i = true) ∧ i < n := by
  obtain ⟨h1, h2⟩ := h.seen i (by simp)
  refine ⟨⟨h.sound, fun x hx => h.seen x (by simp [hx]), fun x hx => ?_⟩, h1, h2⟩
  rcases h.all x hx with h3 | h3 | h3
  · rw [List.mem_append, List.mem_singleton] at h3
    rcases h3 with h3 | h3
    · exact .inl h3
    · exact .inr (.inl h3)
  · exact h3.elim
  · exact .inr (.inr h3)
theorem Dfs13.mark {A : List (Nat × Nat)} {a n i y : Nat} {m : Nat → Bool} {xs : List Nat} (h : Dfs13 A a n m xs (fun x => x = i)) (hi : i = a ∨ m i = true) (hy : (i, y) ∈ A) (hyn : y < n) : Dfs13 A a n (upd m y true) (xs ++ [y]) (fun x => x = i) := by
  have hm : ∀ x, m x = true → upd m y true x = true := fun x hx => by
    by_cases e : x = y
    · subst e
      exact upd_at _ _ _
    · rw [upd_far _ _ e]
      exact hx
  refine ⟨fun x hx => ?_, fun x hx => ?_, fun x hx => ?_⟩
  · by_cases e : x = y
    · subst e
      rcases hi with rfl | hi
      · exact .one hy
      · exact (h.sound i hi).step hy
    · rw [upd_far _ _ e] at hx
      exact h.sound x hx
  · rw [List.mem_append, List.mem_singleton] at hx
    rcases hx with hx | rfl
    · obtain ⟨h1, h2⟩ := h.seen x hx
      exact ⟨h1.imp id (hm x), h2⟩
    · exact ⟨.inr (upd_at _ _ _), hyn⟩
  · by_cases e : x = y
    · exact .inl (by simp [e])
    · rw [upd_far _ _ e] at hx
      rcases h.all x hx with h3 | h3 | h3
      · exact .inl (by simp [h3])
      · exact .inr (.inl h3)
      · exact .inr (.inr fun z hz => hm z (h3 z hz))
theorem Dfs13.leave {A : List (Nat × Nat)} {a n i : Nat} {m : Nat → Bool} {xs : List Nat} (h : Dfs13 A a n m xs (fun x => x = i)) (hi : ∀ y, (i, y) ∈ A → m y = true) : Dfs13 A a n m xs (fun _ => False) :=
  ⟨h.sound, h.seen, fun x hx => by
    rcases h.all x hx with h3 | rfl | h3
    · exact .inl h3
    · exact .inr (.inr hi)
    · exact .inr (.inr h3)⟩
theorem Dfs13.end_ {A : List (Nat × Nat)} {a n : Nat} {m : Nat → Bool} (h : Dfs13 A a n m [] (fun _ => False)) : ∀ y, m y = wayb A a y :=
  mark13 h.sound (fun x y hx hxy => by
    rcases h.all x hx with h3 | h3 | h3
    · cases h3
    · exact h3.elim
    · exact h3 y hxy)
/-- How many are not marked. -/
def un13 (m : Nat → Bool) (n : Nat) : Nat := (List.range n).countP (fun j => !m j)
theorem un13_mark {m : Nat → Bool} {n y : Nat} (hy : y < n) (h : m y = false) : un13 (upd m y true) n + 1 ≤ un13 m n :=
  countP13_lt (p := fun j => !(upd m y true j)) (q := fun j => !m j) (fun x _ hx => by
    by_cases e : x = y
    · subst e
      rw [upd_at] at hx
      cases hx
    · rw [upd_far _ _ e] at hx
      exact hx) (List.mem_range.2 hy) (by rw [h]; rfl) (by rw [upd_at]; rfl)
theorem un13_le (m : Nat → Bool) (n : Nat) : un13 m n ≤ n := by
  unfold un13
  exact Nat.le_trans List.countP_le_length (by rw [List.length_range]; exact Nat.le_refl _)
/-- Marks in a block of their own. -/
def Bb13 (w : World) (g n : Nat) (m : Nat → Bool) : Prop := ∃ cs : Array Value, Blk w g 4 cs ∧ cs.size = n ∧ ∀ j, j < n → cs[j]? = some (.bool (m j))
theorem Bb13.cells {w : World} {g n k : Nat} {m : Nat → Bool} (q : Bb13 w g n m) (hk : k < n) : w.cell? ⟨g, k, none⟩ = some (.bool (m k)) ∧ w.frozen? ⟨g, k, none⟩ = false := by
  obtain ⟨cs, h1, h2, h3⟩ := q
  exact ⟨by rw [h1.cell]; exact h3 k hk, h1.frozen k⟩
theorem Bb13.put {w : World} {g n k : Nat} {m : Nat → Bool} (q : Bb13 w g n m) (hk : k < n) (x : Bool) : Bb13 (w.setCell ⟨g, k, none⟩ (.bool x)) g n (upd m k x) := by
  obtain ⟨cs, h1, h2, h3⟩ := q
  refine ⟨_, h1.set_ _ _, by simpa using h2, fun j hj => ?_⟩
  by_cases h5 : j = k
  · subst h5
    rw [upd_at, Array.getElem?_setIfInBounds_self_of_lt (by omega)]
  · rw [upd_far _ _ h5, Array.getElem?_setIfInBounds_ne (by omega), h3 j hj]
theorem Bb13.rv {w : World} {g n : Nat} {m T : Nat → Bool} (q : Bb13 w g n m) (hT : ∀ j, m j = T j) : Rv w w.heap.size (some ⟨g, 0, none⟩) (bls T n) := fun _ => by
  obtain ⟨cs, h1, h2, h3⟩ := q
  refine ⟨g, 0, rfl, h1.lt, fun k v hk => ?_⟩
  have hkn : k < n := by
    have := (List.getElem?_eq_some_iff.1 hk).1
    rw [bls_len] at this
    exact this
  rw [bls_get T hkn] at hk
  rw [Nat.zero_add, h1.cell, h3 k hkn, hT, hk]
theorem info_bool13 : (Try.prog.info? 4).map (fun i => (i.zero, i.size, i.bytes)) = some (some (.bool false), 1, 1) := by kernel_rfl
theorem make_bools13 (n : Nat) (hn : n ≤ 1000000) (W : World) : (Instr.makeSlice 22 (.int .i64 (n : Int)) (.int .i64 (n : Int))).run Try.prog W =
    .ok (.slice (some ⟨W.heap.size, 0, none⟩) n n) (W.alloc (.cells (madeCells #[.bool false] n) 4)) := by
  obtain ⟨i, hi, hzz⟩ := Option.map_eq_some_iff.1 info_bool13
  simp only [Prod.mk.injEq] at hzz
  obtain ⟨hz, hs, hb⟩ := hzz
  have hr := run_make (P := Try.prog) W 22 4 i _ Try.underlying22 hi hz .i64 .i64 n n (by omega) (Int.le_refl _) (by rw [hb]; omega) (by omega)
  simp only [Int.toNat_natCast, hs, Value.cells, Nat.mul_one] at hr
  exact hr
/-- reached on its way. -/
structure Mk13 (W : World) (L gb go gs n : Nat) (G : Array Value) (m : Nat → Bool) (As : Option Addr) (ks cs : Nat) (xs : List Nat) : Prop where
  box : Blk W gb 71 G
  marks : Bb13 W go n m
  var : Blk W gs 26 #[.slice As ks cs]
  lx : xs.length = ks
  stk : W.ownsRow L 3 1 (.slice As ks cs) ks (ints xs)
  lb : L ≤ gb
  lo : L ≤ go
  ls : L ≤ gs
section
variable {W : World} {L gb go gs n : Nat} {G : Array Value} {m : Nat → Bool} {As : Option Addr} {ks cs : Nat} {xs : List Nat}
theorem Mk13.step {W' : World} (b : Mk13 W L gb go gs n G m As ks cs xs) (hb : Below W.heap.size W W') : Mk13 W' L gb go gs n G m As ks cs xs := by
  obtain ⟨es, h1, h2⟩ := b.marks
  exact ⟨b.box.below hb b.box.lt, ⟨es, h1.below hb h1.lt, h2⟩, b.var.below hb b.var.lt, b.lx, own7_keep b.stk hb, b.lb, b.lo, b.ls⟩
theorem Mk13.pop {r i k : Nat} (b : Mk13 W L gb go gs n G m (some ⟨r, 0, none⟩) (k + 1) cs (xs ++ [i])) : Mk13 (W.setCell ⟨gs, 0, none⟩ (.slice (some ⟨r, 0, none⟩) k cs)) L gb go gs n G m (some ⟨r, 0, none⟩) k cs xs := by
  have hl : xs.length = k := by have := b.lx; simpa using this
  obtain ⟨es, h1, h2⟩ := b.marks
  have h3 := b.stk
  rw [ints_append] at h3
  have h4 := ownsRow_pop (by rw [ints_length, hl, Nat.mul_one]) h3
  exact ⟨b.box.far (by exact blk_ne12 b.box b.var (by decide)) _, ⟨es, h1.far (by exact blk_ne12 h1 b.var (by decide)) _, h2⟩, by simpa using b.var.set_ 0 (.slice (some ⟨r, 0, none⟩) k cs), hl, ownsRow_setCell_other h4 (by exact own7_ne h4 b.var (by decide)) _, b.lb, b.lo, b.ls⟩
theorem Mk13.mark (b : Mk13 W L gb go gs n G m As ks cs xs) {y : Nat} (hy : y < n) (x : Bool) : Mk13 (W.setCell ⟨go, y, none⟩ (.bool x)) L gb go gs n G (upd m y x) As ks cs xs := by
  obtain ⟨es, h1, h2⟩ := b.marks
  exact ⟨b.box.far (by exact blk_ne12 b.box h1 (by decide)) _, b.marks.put hy x, b.var.far (by exact blk_ne12 b.var h1 (by decide)) _, b.lx, ownsRow_setCell_other b.stk (by exact own7_ne b.stk h1 (by decide)) _, b.lb, b.lo, b.ls⟩
theorem Mk13.push {W3 : World} {A' : Option Addr} {c' i : Nat} (b : Mk13 W L gb go gs n G m As ks cs xs) (hL : L ≤ W.heap.size) (hg : (W.alloc (.cells #[.int .i64 (i : Int)] 3)).grownBy W3 (Value.slice As ks cs).ownBlock)
    (hown : W3.ownsRow L 3 1 (.slice A' (ks + 1) c') (ks + 1) (ints xs ++ ints [i])) :
    Mk13 (W3.setCell ⟨gs, 0, none⟩ (.slice A' (ks + 1) c')) L gb go gs n G m A' (ks + 1) c' (xs ++ [i]) ∧ Below L W (W3.setCell ⟨gs, 0, none⟩ (.slice A' (ks + 1) c')) ∧ Blk W3 gs 26 #[.slice As ks cs] := by
  have b1 := b.step (b1' W (.cells #[.int .i64 (i : Int)] 3))
  obtain ⟨es, h1, h2⟩ := b1.marks
  have hbox := b1.box.grown hg (fun e => own7_ne b1.stk b1.box (by decide) e.symm)
  have hvar := b1.var.grown hg (fun e => own7_ne b1.stk b1.var (by decide) e.symm)
  have hmk := h1.grown hg (fun e => own7_ne b1.stk h1 (by decide) e.symm)
  refine ⟨⟨hbox.far (by exact blk_ne12 hbox hvar (by decide)) _, ⟨es, hmk.far (by exact blk_ne12 hmk hvar (by decide)) _, h2⟩, by simpa using hvar.set_ 0 (.slice A' (ks + 1) c'), by simp [b.lx], ?_, b.lb, b.lo, b.ls⟩,
    (((b1' W _).mono hL).grown hg (by simp; omega) (fun r hr => (b1.stk.lt r hr).1)).setCell b.ls _, hvar⟩
  rw [ints_append]
  exact ownsRow_setCell_other hown (by exact own7_ne hown hvar (by decide)) _
end
theorem Mk13.start (w : World) (n a : Nat) (G : Array Value) :
    Mk13 ((((w.alloc (.cells G 71)).alloc (.cells (madeCells #[.bool false] n) 4)).alloc (.cells #[.int .i64 (a : Int)] 3)).alloc (.cells #[.slice (some ⟨w.heap.size + 1 + 1, 0, none⟩) 1 1] 26))
      w.heap.size w.heap.size (w.heap.size + 1) (w.heap.size + 1 + 1 + 1) n G (fun _ => false) (some ⟨w.heap.size + 1 + 1, 0, none⟩) 1 1 [a] := by
  have h1 := Blk.new w 71 G
  have h2 := made13 (w.alloc (.cells G 71)) 4 n (.bool false)
  have h4 := Blk.new (((w.alloc (.cells G 71)).alloc (.cells (madeCells #[.bool false] n) 4)).alloc (.cells #[.int .i64 (a : Int)] 3)) 26 #[.slice (some ⟨w.heap.size + 1 + 1, 0, none⟩) 1 1]
  have h3 := Blk.new ((w.alloc (.cells G 71)).alloc (.cells (madeCells #[.bool false] n) 4)) 3 #[.int .i64 (a : Int)]
  simp only [World.size_alloc] at h2 h3 h4
  obtain ⟨es, k1, k2, k3⟩ := h2
  exact ⟨((h1.alloc _).alloc _).alloc _, ⟨es, (k1.alloc _).alloc _, k2, k3⟩, h4, rfl, own13_of (h3.alloc _) (by omega) (Nat.le_refl _) (by decide) rfl rfl (fun k hk => by
    obtain rfl : k = 0 := by omega
    rfl), Nat.le_refl _, by omega, by omega⟩
/-- What the pop's region goes on reading. -/
structure Bx13 (w : World) (gb : Nat) (G : Array Value) (W : World) : Prop where
  below : Below w.heap.size w W
  box : Blk W gb 71 G
set_option maxHeartbeats 8000000 in
theorem reached13_any {E I n a : Nat} {A : List (Nat × Nat)} (w : World) (h : Gr13 w w.heap.size E I n A) (ha : a < n) :
    Calls Try.prog 57 #[gv13 E I n, .int .i64 (a : Int)] w fun e w' => ∃ g, e = .returned (.slice (some ⟨g, 0, none⟩) n n) ∧ Rv w' w'.heap.size (some ⟨g, 0, none⟩) (bls (wayb A a) n) ∧ Below w.heap.size w w' := by
  have HGR := Lib.hid h
  have hn := h.most
  have hmk := make_bools13 n (by omega)
  have hbx := Blk.new w 71 #[.slice (some ⟨E, 0, none⟩) n n, .slice (some ⟨I, 0, none⟩) n n]
  have c0 := hbx.cell 0
  have HM0 := Lib.hid (Mk13.start w n a #[.slice (some ⟨E, 0, none⟩) n n, .slice (some ⟨I, 0, none⟩) n n])
  have HB0 : Hid (Below w.heap.size w ((((w.alloc (.cells #[.slice (some ⟨E, 0, none⟩) n n, .slice (some ⟨I, 0, none⟩) n n] 71)).alloc (.cells (madeCells #[.bool false] n) 4)).alloc (.cells #[.int .i64 (a : Int)] 3)).alloc (.cells #[.slice (some ⟨w.heap.size + 1 + 1, 0, none⟩) 1 1] 26))) := Lib.hid ((((b1' w _).alloc (by simp) _).alloc (by simp; omega) _).alloc (by simp; omega) _)
  have HD0 := Lib.hid (Dfs13.start (A := A) ha)
  have hun0 := un13_le (fun _ => false) n
  unfold gv13
  clear h hbx
  go_enter Try.func57, Try.ntmps57
  go_wp2_with fail
  clear hmk c0
  go_loopg [24] (n + 1) (fun kx _ wr => ∃ (K : Nat) (m : Nat → Bool) (As : Option Addr) (ks cs : Nat) (xs : List Nat), K = kx ∧ ks + un13 m n ≤ K ∧ K ≤ n + 1 ∧ Hid (Mk13 wr w.heap.size w.heap.size (w.heap.size + 1) (w.heap.size + 1 + 1 + 1) n #[.slice (some ⟨E, 0, none⟩) n n, .slice (some ⟨I, 0, none⟩) n n] m As ks cs xs) ∧ Hid (Dfs13 A a n m xs (fun _ => False)) ∧ Hid (Below w.heap.size w wr))
  case atStart => exact ⟨n + 1, fun _ => false, _, 1, 1, [a], rfl, by omega, Nat.le_refl _, HM0, HD0, HB0⟩
  case round =>
    clear HM0 HD0 HB0 hun0
    obtain ⟨K, m, As, ks, cs, xs, rfl, hme, hkx, HM, HD, HB⟩ := hrel
    have v0 := HM.out.var.cell 0
    have v1 := HM.out.var.frozen 0
    by_cases hk0 : ks = 0
    · subst hk0
      have hxs : xs = [] := List.length_eq_zero_iff.1 HM.out.lx
      have HRV := Lib.hid (HM.out.marks.rv (T := wayb A a) (by have := HD.out; rw [hxs] at this; exact this.end_))
      clear hxs
      go_wp2_with fail
      go_ret
      exact ⟨(w.heap.size + 1), rfl, HRV.out, HB.out⟩
    · obtain ⟨k, rfl⟩ : ∃ k, ks = k + 1 := ⟨ks - 1, by omega⟩
      obtain ⟨xs', i, hxs⟩ : ∃ ys i, xs = ys ++ [i] := by
        rcases List.eq_nil_or_concat xs with h | ⟨ys, i, h⟩
        · exact absurd HM.out.lx (by rw [h]; simp)
        · exact ⟨ys, i, by simpa using h⟩
      subst hxs
      obtain ⟨r, rfl, hkc⟩ := own12_some HM.out.stk
      have hlast := own12_last HM.out.stk (by have := HM.out.lx; simpa using this)
      obtain ⟨hD2, hia, hin⟩ := HD.out.pop
      obtain ⟨Ak, ck, hrow, hrd⟩ := HGR.out.row hin
      obtain ⟨nf, hnf⟩ : ∃ x, (outs A i).length = x := ⟨_, rfl⟩
      have hnfb := outs_len A i
      have hmany := HGR.out.many
      rw [hnf] at hrow hnfb
      have hM1 := HM.out.step (Below.refl _ _).drew
      have hM2 := hM1.pop
      have hk6 : k ≤ 1000000 := by omega
      have hv0 : wr.drew.cell? ⟨(w.heap.size + 1 + 1 + 1), 0, none⟩ = some (.slice (some ⟨r, 0, none⟩) (k + 1) cs) := v0
      have HPOP := Lib.hid (pop13_any (w.heap.size + 1 + 1 + 1) r k cs i wr.drew hv0 v1 hlast hkc hk6)
      obtain ⟨wn, hwn⟩ : ∃ W, wr.drew = W := ⟨_, rfl⟩
      rw [hwn] at HPOP hM1 hM2
      have HBN : Hid (Below w.heap.size w wn) := Lib.hid (by rw [← hwn]; exact HB.out.drew)
      have HBX : Hid (Bx13 w w.heap.size #[.slice (some ⟨E, 0, none⟩) n n, .slice (some ⟨I, 0, none⟩) n n] wn) := Lib.hid ⟨HBN.out, hM1.box⟩
      have HB2 := Lib.hid (HBN.out.setCell (p := ⟨(w.heap.size + 1 + 1 + 1), 0, none⟩) hM1.ls (.slice (some ⟨r, 0, none⟩) k cs))
      have HBX2 : Hid (Bx13 w w.heap.size #[.slice (some ⟨E, 0, none⟩) n n, .slice (some ⟨I, 0, none⟩) n n] (wn.setCell ⟨(w.heap.size + 1 + 1 + 1), 0, none⟩ (.slice (some ⟨r, 0, none⟩) k cs))) := Lib.hid ⟨HB2.out, hM2.box⟩
      have HM2 := Lib.hid hM2
      have HD2 := Lib.hid hD2
      have HIA := Lib.hid hia
      have HROW := Lib.hid hrow
      have HRD := Lib.hid hrd
      have HNF := Lib.hid hnf
      have fi0 : (0 : Int) ≤ (i : Int) := by omega
      have fi1 : (i : Int) < (n : Int) := by omega
      obtain ⟨w2, hw2⟩ : ∃ W, wn.setCell ⟨(w.heap.size + 1 + 1 + 1), 0, none⟩ (.slice (some ⟨r, 0, none⟩) k cs) = W := ⟨_, rfl⟩
      rw [hw2] at HM2 HB2
      clear hM1 hM2 hD2 hia hrow hrd hnf hlast HM HD v1 hk0 hv0
      go_wp2_with fail
      refine wp_region_held_drew (S := Bx13 w w.heap.size #[.slice (some ⟨E, 0, none⟩) n n, .slice (some ⟨I, 0, none⟩) n n]) (by kernel_rfl) (by rw [hwn]; exact HBX.out) (fun hHeld => ?_)
      rw [hwn] at hHeld ⊢
      have HBS := HBX
      refine wpAnyH_take (i := 0) (v := ?_) (op_of rfl) (by kernel_rfl) (by kernel_rfl) (by kernel_rfl) (fun _ _ _ h => h) (Or.inl ⟨by rfl, fun W hS => ?_⟩) (by assumption) ?_
      rotate_left
      · try dsimp only at hS
        go_simp
        try with_reducible rfl
      try dsimp only [Act.put]
      try simp only [List.setIfInBounds_toArray, List.set_cons_zero, List.set_cons_succ]
      refine wpAnyH_take (i := 1) (v := ?_) (op_of rfl) (by kernel_rfl) (by kernel_rfl) (by kernel_rfl) (fun _ _ _ h => h) (Or.inl ⟨by rfl, fun W hS => ?_⟩) (by assumption) ?_
      rotate_left
      · try dsimp only at hS
        have z0 := hS.box.cell 0
        go_simp
        try with_reducible rfl
      try dsimp only [Act.put]
      try simp only [List.setIfInBounds_toArray, List.set_cons_zero, List.set_cons_succ]
      refine wpAnyH_take (i := 6) (v := ?_) (op_of rfl) (by kernel_rfl) (by kernel_rfl) (by kernel_rfl) (fun _ _ _ h => h) (Or.inl ⟨by rfl, fun W hS => ?_⟩) (by assumption) ?_
      rotate_left
      · try dsimp only at hS
        go_simp
        try with_reducible rfl
      try dsimp only [Act.put]
      try simp only [List.setIfInBounds_toArray, List.set_cons_zero, List.set_cons_succ]
      refine wpAnyH_ready (rs := [2]) (by kernel_rfl) (by simp) (AllReadyH.cons (op_of rfl) (fun K hK => ?_) AllReadyH.nil)
      go_simp
      refine HPOP.out.mono ?_
      rintro en wz ⟨rfl, rfl⟩
      have HBS := HBX2
      clear HPOP
      refine hK.out _ _ HBS.out (fun hHeld => ?_)
      clear hK K
      try dsimp only [Act.put]
      try simp only [List.setIfInBounds_toArray, List.set_cons_zero, List.set_cons_succ]
      refine wpAnyH_take (i := 3) (v := ?_) (op_of rfl) (by kernel_rfl) (by kernel_rfl) (by kernel_rfl) (fun _ _ _ h => h) (Or.inl ⟨by rfl, fun W hS => ?_⟩) (by assumption) ?_
      rotate_left
      · try dsimp only at hS
        go_simp
        try with_reducible rfl
      try dsimp only [Act.put]
      try simp only [List.setIfInBounds_toArray, List.set_cons_zero, List.set_cons_succ]
      refine wpAnyH_take (i := 4) (v := ?_) (op_of rfl) (by kernel_rfl) (by kernel_rfl) (by kernel_rfl) (fun _ _ _ h => h) (Or.inl ⟨by rfl, fun W hS => ?_⟩) (by assumption) ?_
      rotate_left
      · try dsimp only at hS
        have z0 := (hS.below.cell (p := ⟨E, i, none⟩) HGR.out.eb).trans HROW.out
        go_simp
        try with_reducible rfl
      try dsimp only [Act.put]
      try simp only [List.setIfInBounds_toArray, List.set_cons_zero, List.set_cons_succ]
      refine wpAnyH_take (i := 5) (v := ?_) (op_of rfl) (by kernel_rfl) (by kernel_rfl) (by kernel_rfl) (fun _ _ _ h => h) (Or.inl ⟨by rfl, fun W hS => ?_⟩) (by assumption) ?_
      rotate_left
      · try dsimp only at hS
        go_simp
        try with_reducible rfl
      try dsimp only [Act.put]
      try simp only [List.setIfInBounds_toArray, List.set_cons_zero, List.set_cons_succ]
      refine wpAnyH_done (by kernel_rfl) ?_ _
      clear hHeld
      try rw [hw2]
      go_wp2_with fail
      go_loopw [24] (fun iv wi => ∃ (p : Nat) (m2 : Nat → Bool) (A2 : Option Addr) (k2 c2 : Nat) (ys : List Nat), iv = .int .i64 (p : Int) ∧ p ≤ nf ∧ k2 + un13 m2 n + 1 ≤ K ∧ Hid (Mk13 wi w.heap.size w.heap.size (w.heap.size + 1) (w.heap.size + 1 + 1 + 1) n #[.slice (some ⟨E, 0, none⟩) n n, .slice (some ⟨I, 0, none⟩) n n] m2 A2 k2 c2 ys) ∧ Hid (Dfs13 A a n m2 ys (fun x => x = i)) ∧ Hid (i = a ∨ m2 i = true) ∧ Hid (∀ q, q < p → m2 (nth (outs A i) q) = true) ∧ Hid (Below w.heap.size w wi)) (fun iv _ => nf - (intOf iv).toNat)
      case atStart => exact ⟨0, m, some ⟨r, 0, none⟩, k, cs, xs', rfl, by omega, by omega, HM2, HD2, HIA, Lib.hid (fun q hq => by omega), HB2⟩
      case round =>
        clear HM2 HD2 HIA HB2
        obtain ⟨p, m2, A2, k2, c2, ys, rfl, hp, hme, HM2, HD2, HIA, HQ, HB2⟩ := hrel
        by_cases hpn : p < nf
        · obtain ⟨b, o, hA, _, ca⟩ := Rd.at_ (Rd.below HRD.out HB2.out (Nat.le_refl _)) (show p < (outs A i).length by have := HNF.out; omega)
          subst hA
          obtain ⟨hy1, hy2⟩ := outs_nth HGR.out.part (show p < (outs A i).length by have := HNF.out; omega)
          obtain ⟨y, hy⟩ : ∃ y, nth (outs A i) p = y := ⟨_, rfl⟩
          rw [hy] at ca hy1 hy2
          obtain ⟨cm, cf⟩ := HM2.out.marks.cells hy2
          have p0 : (0 : Int) ≤ (p : Int) := by omega
          have p1 : (p : Int) < (nf : Int) := by omega
          have y0 : (0 : Int) ≤ (y : Int) := by omega
          have y1 : (y : Int) < (n : Int) := by omega
          have HY := Lib.hid hy
          have HYA := Lib.hid hy1
          clear hy hy1
          cases hmy : m2 y with
          | true =>
            rw [hmy] at cm
            have HQ2 : Hid (∀ q, q < p + 1 → m2 (nth (outs A i) q) = true) := Lib.hid (fun q hq => by
              rcases (show q < p ∨ q = p by omega) with h | rfl
              · exact HQ.out q h
              · rw [HY.out]; exact hmy)
            clear hmy cf
            go_wp2_with fail
            go_roundw
            case rel => exact ⟨p + 1, m2, A2, k2, c2, ys, by go_num, by omega, hme, HM2, HD2, HIA, HQ2, HB2⟩
            case measure => simp [intOf]; omega
          | false =>
            rw [hmy] at cm
            have hun := un13_mark hy2 hmy
            have HM3 := Lib.hid (HM2.out.mark hy2 true)
            have HB3 := Lib.hid (HB2.out.setCell (p := ⟨(w.heap.size + 1), y, none⟩) HM2.out.lo (.bool true))
            obtain ⟨w5, hw5⟩ : ∃ W, wr.setCell ⟨(w.heap.size + 1), y, none⟩ (.bool true) = W := ⟨_, rfl⟩
            rw [hw5] at HM3 HB3
            have v0 := HM3.out.var.cell 0
            have HD3 := Lib.hid (HD2.out.mark HIA.out HYA.out hy2)
            have HIA3 : Hid (i = a ∨ upd m2 y true i = true) := Lib.hid (by
              rcases HIA.out with h | h
              · exact .inl h
              · right
                by_cases e : i = y
                · rw [e]; exact upd_at _ _ _
                · rw [upd_far _ _ e]; exact h)
            have HQ3 : Hid (∀ q, q < p + 1 → upd m2 y true (nth (outs A i) q) = true) := Lib.hid (fun q hq => by
              by_cases e : nth (outs A i) q = y
              · rw [e]; exact upd_at _ _ _
              · rw [upd_far _ _ e]
                rcases (show q < p ∨ q = p by omega) with h | rfl
                · exact HQ.out q h
                · exact absurd HY.out e)
            have hs5 := HB3.out.size
            have hunl := un13_le m2 n
            clear hmy
            go_wp2_with (at_builtin; go_loud (refine wpList_append_rv _ rfl (.tmp 36) (.tmp 38) 26 rfl w.heap.size 3 (.int .i64 0) 8 Try.underlying26 info_int11 rfl (by omega) (.slice A2 k2 c2) k2 (ints ys) rfl (own7_keep HM3.out.stk (b1' w5 (.cells #[.int .i64 (y : Int)] 3))) (w5.heap.size + 1) (some ⟨w5.heap.size, 0, none⟩) 1 (ints [y]) _ rfl rfl (rv12_one w5 y 3) (ints_one [y]) (by omega) (by simp; omega) ?_); intro A' c' w6 hc6 hown6 hg6 hbl6; obtain ⟨hM6, hB6, hv6⟩ := HM3.out.push hs5 hg6 hown6.out; have HM6 := Lib.hid hM6; have HB6 := Lib.hid hB6; have d0 := hv6.cell 0; have e0 := hv6.frozen 0; clear hM6 hB6 hv6 hown6 hg6 hbl6)
            go_roundw
            case rel => exact ⟨p + 1, upd m2 y true, A', k2 + 1, c', ys ++ [y], by go_num, by omega, by omega, HM6, HD3, HIA3, HQ3, Lib.hid (HB3.out.trans HB6.out)⟩
            case measure => simp [intOf]; omega
        · obtain rfl : p = nf := by omega
          have HD4 : Hid (Dfs13 A a n m2 ys (fun _ => False)) := Lib.hid (HD2.out.leave (fun y hy => by
            obtain ⟨q, hq, he⟩ := List.getElem_of_mem (outs_mem.2 hy)
            have h1 := HQ.out q (by have := HNF.out; omega)
            rw [nth_in hq, he] at h1
            exact h1))
          have p1 : ¬ (p : Int) < (p : Int) := by omega
          go_wp2_with fail
          go_roundg (k2 + un13 m2 n)
          case measure => omega
          case rel => exact ⟨_, m2, A2, k2, c2, ys, rfl, Nat.le_refl _, by omega, HM2, HD4, HB2⟩
end Go.Proofs.Ytljpgfnjaagkaaa
namespace Go.Proofs.Ytljpgfnjaagkaaa
open Go.RowKit Go.Shelf
attribute [local go_sem] Oper.semAt_some
set_option maxRecDepth 100000
/-- Those below n for which h is 0, the greatest first: of the last k. -/
def fr13 (h : Nat → Nat) (n : Nat) : Nat → List Nat
  | 0 => []
  | k + 1 => fr13 h n k ++ if h (n - 1 - k) = 0 then [n - 1 - k] else []
theorem fr13_mem {h : Nat → Nat} {n k j : Nat} (hk : k ≤ n) : j ∈ fr13 h n k ↔ j < n ∧ n - k ≤ j ∧ h j = 0 := by
  induction k with
  | zero => simp [fr13]; omega
  | succ k ih =>
    rw [fr13, List.mem_append, ih (by omega)]
    by_cases h0 : h (n - 1 - k) = 0
    · rw [if_pos h0, List.mem_singleton]
      constructor
      · rintro (⟨h1, h2, h3⟩ | rfl)
        · exact ⟨h1, by omega, h3⟩
        · exact ⟨by omega, by omega, h0⟩
      · rintro ⟨h1, h2, h3⟩
        rcases (show n - k ≤ j ∨ j = n - 1 - k by omega) with h4 | h4
        · exact .inl ⟨h1, h4, h3⟩
        · exact .inr h4
    · rw [if_neg h0]
      constructor
      · rintro (⟨h1, h2, h3⟩ | h)
        · exact ⟨h1, by omega, h3⟩
        · cases h
      · rintro ⟨h1, h2, h3⟩
        rcases (show n - k ≤ j ∨ j = n - 1 - k by omega) with h4 | h4
        · exact .inl ⟨h1, h4, h3⟩
        · subst h4
          exact absurd h3 h0
theorem fr13_fall {h : Nat → Nat} {n k : Nat} (hk : k ≤ n) : Fall (fr13 h n k) := by
  induction k with
  | zero => exact List.Pairwise.nil
  | succ k ih =>
    unfold Fall
    rw [fr13, List.pairwise_append]
    refine ⟨ih (by omega), ?_, ?_⟩
    · split
      · exact List.pairwise_singleton _ _
      · exact List.Pairwise.nil
    · intro a ha b hb
      have h1 := (fr13_mem (by omega)).1 ha
      split at hb
      · rw [List.mem_singleton] at hb
        omega
      · cases hb
theorem fr13_len (h : Nat → Nat) (n k : Nat) : (fr13 h n k).length ≤ k := by
  induction k with
  | zero => exact Nat.le_refl _
  | succ k ih =>
    rw [fr13, List.length_append]
    split <;> simp <;> omega
/-- What the k-th round is handed. -/
def benc13 (h : Nat → Nat) (N k : Nat) : Array Value := #[.int .i64 ((N - 1 - k : Nat) : Int), .int .i64 ((h (N - 1 - k) : Nat) : Int)]
/-- What must stay behind each round. -/
def bkeep13 (Bs I _ : Nat) (p : Addr) : Prop := p.block = Bs ∨ p.block = I
set_option maxHeartbeats 2000000 in
theorem back13_goes (F : Fence) (n : Nat) (hf : F.fn 73) (hro : F.round = none) (hn : 1 ≤ n) (Bs I N c : Nat) (h : Nat → Nat) (w : World) (hi : Ib13 w I N h) (hN : N ≤ 1000000)
    (hb : w.cell? ⟨Bs, 0, none⟩ = some (.slice (some ⟨I, 0, none⟩) N c)) :
    Goes F n Try.prog 73 #[.pointer (some ⟨Bs, 0, none⟩)] (benc13 h N) (bkeep13 Bs I) N w := fun l J Jx W hW _ _ hY h0 => by
  have hBs := World.block_lt_of_cell? w _ hb
  have hb1 := (hW.cell hBs).trans hb
  have hi1 := hi.below hW hi.lt
  clear hb hi
  refine callsIn_of_wp Try.func73 rfl hf ?_ hro
  simp only [Try.ntmps73, List.size_toArray, List.length_cons, List.length_nil, Nat.reduceAdd, Nat.reduceSub, Array.replicate_succ, Array.replicate_zero, List.push_toArray, List.append_toArray, List.nil_append, List.cons_append]
  gi_wp2
  gi_loopw [3] (fun i wr => ∃ (m : Nat) (j : Int), i = .int .i64 j ∧ j + 1 = (m : Int) ∧ m ≤ N ∧ J (N - m) wr ∧ wr.cell? ⟨Bs, 0, none⟩ = some (.slice (some ⟨I, 0, none⟩) N c) ∧ Hid (∀ t, t < N → wr.cell? ⟨I, t, none⟩ = some (.int .i64 ((h t : Nat) : Int))))
    (fun i _ => (intOf i + 1).toNat)
  case atStart =>
    exact ⟨N, _, rfl, by omega, Nat.le_refl _, by rw [Nat.sub_self]; exact h0, hb1, Lib.hid (fun t ht => (hi1.cells ht).1)⟩
  case round =>
    obtain ⟨m, j, rfl, hj, hm, hJ, hbx, HC⟩ := hrel
    by_cases hpos : 0 < m
    · obtain ⟨q, rfl⟩ : ∃ q, m = q + 1 := ⟨m - 1, by omega⟩
      obtain rfl : j = (q : Int) := by omega
      have hcx := HC.out q (by omega)
      have hq0 : (0 : Int) ≤ (q : Int) := by omega
      have hq1 : (q : Int) < (N : Int) := by omega
      obtain ⟨fn, tmps, assign, body, hy, hR⟩ := hY (N - (q + 1)) wr (by omega) hJ
      have he : N - 1 - (N - (q + 1)) = q := by omega
      simp only [benc13, he] at hy
      clear he
      gi_wp2
      refine hR.mono ?_
      rintro e W3 (⟨rfl, hJ3, hk3⟩ | ⟨rfl, hJx3⟩)
      · have HS : Hid (Same (bkeep13 Bs I (N - (q + 1))) wr W3) := Lib.hid hk3
        have HJ := Lib.hid hJ3
        clear hk3 hJ3 hJ
        gi_wp2
        go_roundw
        case rel =>
          exact ⟨q, _, rfl, by omega, by omega, by have := HJ.out; rwa [show N - (q + 1) + 1 = N - q by omega] at this, HS.out.cell _ _ (.inl rfl) hbx, Lib.hid (fun t ht => HS.out.cell _ _ (.inr rfl) (HC.out t ht))⟩
        case measure => first | (simp [intOf]; done) | (simp [intOf]; omega)
      · gi_wp2
        refine bodyPost_ret (results_none rfl _ _ _) rfl ?_
        exact ⟨⟨_, rfl⟩, .inr ⟨_, by omega, hJx3⟩⟩
    · obtain rfl : m = 0 := by omega
      obtain rfl : j = -1 := by omega
      have HJ : Hid (J N wr) := Lib.hid (by simpa using hJ)
      clear hJ
      gi_wp2
      go_end0
      exact ⟨⟨_, rfl⟩, .inl HJ.out⟩
set_option maxHeartbeats 1000000 in
theorem back13_calls (A : Option Addr) (N c : Nat) (w : World) :
    Calls Try.prog 69 #[.slice A N c] w fun e w' => e = .returned (.func (.func 73) #[] #[.pointer (some ⟨w.heap.size, 0, none⟩)]) ∧ w' = w.alloc (.cells #[.slice A N c] 26) := by
  have hmf : ∀ (fn : Fn) (first cap : Array Value) (w : World), (Instr.makeFunc fn first cap).run Try.prog w = .ok (.func fn first cap) w := fun _ _ _ _ => rfl
  go_enter Try.func69, Try.ntmps69
  go_wp2_with fail
  go_ret
  exact ⟨rfl, rfl⟩
set_option maxHeartbeats 4000000 in
theorem free13_any {E I n : Nat} {A : List (Nat × Nat)} (w : World) (h : Gr13 w w.heap.size E I n A) :
    Calls Try.prog 64 #[gv13 E I n] w (RetI w (fr13 (rem13 A []) n n)) := by
  have hn := h.most
  have hIb := h.ib
  have HG := Lib.hid h
  obtain ⟨hh, hhe⟩ : ∃ f, rem13 A [] = f := ⟨_, rfl⟩
  have HI : Hid (Ib13 w I n hh) := Lib.hid (by rw [← hhe]; exact h.into)
  rw [hhe]
  have HP : Hid (RetI w (fr13 hh n n) = fun e w' => ∃ A c, e = .returned (.slice A (fr13 hh n n).length c) ∧ w'.ownsRow w.heap.size 3 1 (.slice A (fr13 hh n n).length c) (fr13 hh n n).length (ints (fr13 hh n n)) ∧ Below w.heap.size w w') := Lib.hid rfl
  have hbx := (Blk.new w 71 #[.slice (some ⟨E, 0, none⟩) n n, .slice (some ⟨I, 0, none⟩) n n]).alloc (.cells #[.slice none 0 0] 26)
  have c1 := hbx.cell 1
  have HA := Lib.hid (fun W => back13_calls (some ⟨I, 0, none⟩) n n W)
  unfold gv13
  clear h hhe hbx
  refine calls_of_leave Try.func64 rfl ?_
  simp only [Try.ntmps64, List.size_toArray, List.length_cons, List.length_nil, Nat.reduceAdd, Nat.reduceSub, Array.replicate_succ, Array.replicate_zero, List.push_toArray, List.append_toArray, List.nil_append, List.cons_append]
  go_wp2_with fail
  refine (HA.out _).mono ?_
  rintro e W0 ⟨rfl, hW0⟩
  have hsz0 : W0.heap.size = w.heap.size + 1 + 1 + 1 := by rw [hW0]; simp
  have hb0 : Below w.heap.size w W0 := by rw [hW0]; exact ((b1' w _).trans ((b1' _ _).mono (by simp))).trans ((b1' _ _).mono (by simp; omega))
  have f3 : Blk W0 (w.heap.size + 1) 26 #[.slice none 0 0] := by
    rw [hW0]
    have h2 := (Blk.new (w.alloc (.cells #[.slice (some ⟨E, 0, none⟩) n n, .slice (some ⟨I, 0, none⟩) n n] 71)) 26 #[.slice none 0 0]).alloc (.cells #[.slice (some ⟨I, 0, none⟩) n n] 26)
    rw [World.size_alloc] at h2
    exact h2
  have f2 : W0.cell? ⟨w.heap.size + 1 + 1, 0, none⟩ = some (.slice (some ⟨I, 0, none⟩) n n) := by
    rw [hW0]
    have h2 := (Blk.new ((w.alloc (.cells #[.slice (some ⟨E, 0, none⟩) n n, .slice (some ⟨I, 0, none⟩) n n] 71)).alloc (.cells #[.slice none 0 0] 26)) 26 #[.slice (some ⟨I, 0, none⟩) n n]).cell 0
    rw [World.size_alloc, World.size_alloc] at h2
    exact h2
  have hgo := back13_goes Fence.wide 4 trivial rfl (by omega) (w.heap.size + 1 + 1) I n n hh W0 (HI.out.below hb0 hIb) (by omega) f2
  have HI0 : Hid (RowMem w (w.heap.size + 1) (w.heap.size + 3) (fr13 hh n 0) W0) := Lib.hid ⟨hb0, by omega, none, 0, f3, World.ownsRow_nil _ _ _ _⟩
  clear f2 f3 hb0 hW0 c1
  go_wp2_with fail
  refine (wpIn_wide (n := 5)).1 ?_
  refine wpIn_rangeFunc_goes rfl (by omega) (gf := 73) (lb := #[.pointer (some ⟨w.heap.size + 1 + 1, 0, none⟩)]) rfl trivial (enters_of Try.func73 (by kernel_rfl) rfl)
    hgo (fun k p hp => by show p.block < W0.heap.size; rcases hp with h | h <;> omega) (Below.refl _ _) (fun _ => rfl)
    (fun k W => RowMem w (w.heap.size + 1) (w.heap.size + 3) (fr13 hh n k) W)
    (fun c k W => False)
    (fun s X Y row hs hg hr => hs.kept hg (by omega) hr)
    (fun c s X Y row hs hg hr => hs.elim)
    HI0.out ?round ?done ?stop
  case round =>
    intro l k W hk _
    simp only [benc13]
    gi_wp2
    refine ⟨trivial, ?_⟩
    intro Wb hm
    obtain ⟨A5, c5, hb5, hown5⟩ := hm.row
    obtain ⟨m, hlm⟩ : ∃ m, (fr13 hh n k).length = m := ⟨_, rfl⟩
    have hml := fr13_len hh n k
    rw [hlm] at hb5 hown5 hml
    have c1 := hb5.cell 0
    have f1 := hb5.frozen 0
    have HM := Lib.hid hm
    have HB5 := Lib.hid hb5
    have HO5 := Lib.hid hown5
    have HBS := hm.bsz
    have HLM := Lib.hid hlm
    obtain ⟨x, hx⟩ : ∃ x, n - 1 - k = x := ⟨_, rfl⟩
    have hnx : fr13 hh n (k + 1) = fr13 hh n k ++ if hh x = 0 then [x] else [] := by rw [fr13, hx]
    rw [hx]
    clear hm hb5 hown5 hlm
    by_cases hz : hh x = 0
    · have HNX : Hid (fr13 hh n (k + 1) = fr13 hh n k ++ [x]) := Lib.hid (by rw [hnx, if_pos hz])
      rw [hz]
      clear hnx hz hx
      gi_wp2_with (gi_at_builtin; refine wpListIn_append_11 _ rfl (.tmp 13) (.tmp 15) 26 rfl (w.heap.size + 3) 3 Try.underlying26 (.int .i64 0) 8 info_int11 rfl (.slice A5 m c5) m _ rfl (own7_keep HO5.out (b1' _ _)) _ (.int .i64 (x : Int)) rfl ((Blk.new _ _ _).cell 0) rfl (by omega) (by omega) (by simp; omega) ?_)
      intro A6 c6 W6 hc6 h6 hg6
      obtain ⟨hn1, hn2, hn3, hn4⟩ := HM.out.next (by omega) (by omega) HLM.out HB5.out HO5.out hg6 h6.out
      have c6' := hn2.cell 0
      have f6' := hn2.frozen 0
      have HN1 := Lib.hid hn1
      have HN3 := Lib.hid hn3
      have HSM : Hid (Same (bkeep13 (w.heap.size + 1 + 1) I k) Wb W6) := Lib.hid (Same.of_below hn4 (fun p hp => by rcases hp with h | h <;> omega))
      clear hn1 hn2 hn3 hn4 h6 hg6
      gi_wp2_with fail
      refine ⟨(HN3.out.trans (KeepsOthers.setCell _ _ _)).from _, HSM.out.trans (Same.setCell (fun p hp e => ?_) _), ?_⟩
      · simp only at e
        rcases hp with h | h <;> omega
      · show RowMem w _ _ (fr13 hh n (k + 1)) _
        rw [HNX.out]
        exact HN1.out
    · have HNX : Hid (fr13 hh n (k + 1) = fr13 hh n k) := Lib.hid (by rw [hnx, if_neg hz, List.append_nil])
      have hz2 : ¬ ((hh x : Nat) : Int) = 0 := by omega
      obtain ⟨y, hy⟩ : ∃ y, hh x = y := ⟨_, rfl⟩
      rw [hy] at hz2 ⊢
      clear hnx hz hx hy
      gi_wp2_with fail
      refine ⟨(KeepsOthers.refl _).from _, Same.refl _ _, ?_⟩
      show RowMem w _ _ (fr13 hh n (k + 1)) _
      rw [HNX.out]
      exact HM.out
  case done =>
    rintro D W hD hm hK
    obtain ⟨A5, c5, hb5, hown5⟩ := hm.row
    have c1 := hb5.cell 0
    have HB := Lib.hid (mark_below hm.below hK (by omega))
    have HO := Lib.hid (own11_kept hown5 (grownBy_putObj' _ D (.deferred none)) (fun r e => by cases e; exact ⟨_, hK, rfl⟩))
    have HK := Lib.hid hK
    obtain ⟨m, hlm⟩ : ∃ m, (fr13 hh n n).length = m := ⟨_, rfl⟩
    rw [hlm] at c1 HO HP
    clear hm hK hb5 hown5 hlm
    go_wp2_with fail
    rw [HP.out]
    exact leave_mark (v := .slice A5 m c5) HK.out (by simp [results, Try.results64, go_sem]) ⟨A5, c5, rfl, own7_base HO.out (by omega), HB.out⟩
  case stop =>
    rintro D c k W hD hk h hK
    exact h.elim
end Go.Proofs.Ytljpgfnjaagkaaa
