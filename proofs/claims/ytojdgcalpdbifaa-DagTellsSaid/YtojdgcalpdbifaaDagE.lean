/-
  Arrows: package dag's reached: all that a number comes to.
-/
import Derived.Test.YtojdgcalpdbifaaDagD
import Derived.Deep.LoopGhost
namespace Go.Proofs.Ytojdgcalpdbifaa
open Go.RowKit
set_option maxRecDepth 100000

/-- How far one has gone through all that a comes to: marks m, the stack xs; those of P are being gone through. -/
structure Dfs13 (A : List (Nat × Nat)) (a n : Nat) (m : Nat → Bool) (xs : List Nat) (P : Nat → Prop) : Prop where
  sound : ∀ x, m x = true → Way A a x
  seen : ∀ x, x ∈ xs → (x = a ∨ m x = true) ∧ x < n
  all : ∀ x, (x = a ∨ m x = true) → x ∈ xs ∨ P x ∨ ∀ y, (x, y) ∈ A → m y = true
theorem Dfs13.start {A : List (Nat × Nat)} {a n : Nat} (ha : a < n) : Dfs13 A a n (fun _ => false) [a] (fun _ => False) :=
  ⟨fun x h => (by cases h), fun x h => (by rw [List.mem_singleton] at h; exact ⟨.inl h, by omega⟩), fun x h => by
    rcases h with rfl | h
    · exact .inl (by simp)
    · cases h⟩
theorem Dfs13.pop {A : List (Nat × Nat)} {a n i : Nat} {m : Nat → Bool} {xs : List Nat} (h : Dfs13 A a n m (xs ++ [i]) (fun _ => False)) : Dfs13 A a n m xs (fun x => x = i) ∧ (i = a ∨ m i = true) ∧ i < n := by
  obtain ⟨h1, h2⟩ := h.seen i (by simp)
  refine ⟨⟨h.sound, fun x hx => h.seen x (by simp [hx]), fun x hx => ?_⟩, h1, h2⟩
  rcases h.all x hx with h3 | h3 | h3
  · rw [List.mem_append, List.mem_singleton] at h3
    rcases h3 with h3 | h3
    · exact .inl h3
    · exact .inr (.inl h3)
  · exact h3.elim
  · exact .inr (.inr h3)
theorem Dfs13.mark {A : List (Nat × Nat)} {a n i y : Nat} {m : Nat → Bool} {xs : List Nat} (h : Dfs13 A a n m xs (fun x => x = i)) (hi : i = a ∨ m i = true) (hy : (i, y) ∈ A) (hyn : y < n) : Dfs13 A a n (upd m y true) (xs ++ [y]) (fun x => x = i) := by
  have hm : ∀ x, m x = true → upd m y true x = true := fun x hx => by
    by_cases e : x = y
    · subst e
      exact upd_at _ _ _
    · rw [upd_far _ _ e]
      exact hx
  refine ⟨fun x hx => ?_, fun x hx => ?_, fun x hx => ?_⟩
  · by_cases e : x = y
    · subst e
      rcases hi with rfl | hi
      · exact .one hy
      · exact (h.sound i hi).step hy
    · rw [upd_far _ _ e] at hx
      exact h.sound x hx
  · rw [List.mem_append, List.mem_singleton] at hx
    rcases hx with hx | rfl
    · obtain ⟨h1, h2⟩ := h.seen x hx
      exact ⟨h1.imp id (hm x), h2⟩
    · exact ⟨.inr (upd_at _ _ _), hyn⟩
  · by_cases e : x = y
    · exact .inl (by simp [e])
    · rw [upd_far _ _ e] at hx
      rcases h.all x hx with h3 | h3 | h3
      · exact .inl (by simp [h3])
      · exact .inr (.inl h3)
      · exact .inr (.inr fun z hz => hm z (h3 z hz))
theorem Dfs13.leave {A : List (Nat × Nat)} {a n i : Nat} {m : Nat → Bool} {xs : List Nat} (h : Dfs13 A a n m xs (fun x => x = i)) (hi : ∀ y, (i, y) ∈ A → m y = true) : Dfs13 A a n m xs (fun _ => False) :=
  ⟨h.sound, h.seen, fun x hx => by
    rcases h.all x hx with h3 | rfl | h3
    · exact .inl h3
    · exact .inr (.inr hi)
    · exact .inr (.inr h3)⟩
theorem Dfs13.end_ {A : List (Nat × Nat)} {a n : Nat} {m : Nat → Bool} (h : Dfs13 A a n m [] (fun _ => False)) : ∀ y, m y = wayb A a y :=
  mark13 h.sound (fun x y hx hxy => by
    rcases h.all x hx with h3 | h3 | h3
    · cases h3
    · exact h3.elim
    · exact h3 y hxy)
/-- How many are not marked. -/
def un13 (m : Nat → Bool) (n : Nat) : Nat := (List.range n).countP (fun j => !m j)
theorem un13_mark {m : Nat → Bool} {n y : Nat} (hy : y < n) (h : m y = false) : un13 (upd m y true) n + 1 ≤ un13 m n :=
  countP13_lt (p := fun j => !(upd m y true j)) (q := fun j => !m j) (fun x _ hx => by
    by_cases e : x = y
    · subst e
      rw [upd_at] at hx
      cases hx
    · rw [upd_far _ _ e] at hx
      exact hx) (List.mem_range.2 hy) (by rw [h]; rfl) (by rw [upd_at]; rfl)
theorem un13_le (m : Nat → Bool) (n : Nat) : un13 m n ≤ n := by
  unfold un13
  exact Nat.le_trans List.countP_le_length (by rw [List.length_range]; exact Nat.le_refl _)

/-- Marks in a block of their own. -/
def Bb13 (w : World) (g n : Nat) (m : Nat → Bool) : Prop := ∃ cs : Array Value, Blk w g 4 cs ∧ cs.size = n ∧ ∀ j, j < n → cs[j]? = some (.bool (m j))
theorem Bb13.cells {w : World} {g n k : Nat} {m : Nat → Bool} (q : Bb13 w g n m) (hk : k < n) : w.cell? ⟨g, k, none⟩ = some (.bool (m k)) ∧ w.frozen? ⟨g, k, none⟩ = false := by
  obtain ⟨cs, h1, h2, h3⟩ := q
  exact ⟨by rw [h1.cell]; exact h3 k hk, h1.frozen k⟩
theorem Bb13.put {w : World} {g n k : Nat} {m : Nat → Bool} (q : Bb13 w g n m) (hk : k < n) (x : Bool) : Bb13 (w.setCell ⟨g, k, none⟩ (.bool x)) g n (upd m k x) := by
  obtain ⟨cs, h1, h2, h3⟩ := q
  refine ⟨_, h1.set_ _ _, by simpa using h2, fun j hj => ?_⟩
  by_cases h5 : j = k
  · subst h5
    rw [upd_at, Array.getElem?_setIfInBounds_self_of_lt (by omega)]
  · rw [upd_far _ _ h5, Array.getElem?_setIfInBounds_ne (by omega), h3 j hj]
theorem Bb13.rv {w : World} {g n : Nat} {m T : Nat → Bool} (q : Bb13 w g n m) (hT : ∀ j, m j = T j) : Rv w w.heap.size (some ⟨g, 0, none⟩) (bls T n) := fun _ => by
  obtain ⟨cs, h1, h2, h3⟩ := q
  refine ⟨g, 0, rfl, h1.lt, fun k v hk => ?_⟩
  have hkn : k < n := by
    have := (List.getElem?_eq_some_iff.1 hk).1
    rw [bls_len] at this
    exact this
  rw [bls_get T hkn] at hk
  rw [Nat.zero_add, h1.cell, h3 k hkn, hT, hk]
theorem info_bool13 : (Try.prog.info? 4).map (fun i => (i.zero, i.size, i.bytes)) = some (some (.bool false), 1, 1) := by kernel_rfl
theorem make_bools13 (n : Nat) (hn : n ≤ 1000000) (W : World) : (Instr.makeSlice 26 (.int .i64 (n : Int)) (.int .i64 (n : Int))).run Try.prog W =
    .ok (.slice (some ⟨W.heap.size, 0, none⟩) n n) (W.alloc (.cells (madeCells #[.bool false] n) 4)) := by
  obtain ⟨i, hi, hzz⟩ := Option.map_eq_some_iff.1 info_bool13
  simp only [Prod.mk.injEq] at hzz
  obtain ⟨hz, hs, hb⟩ := hzz
  have hr := run_make (P := Try.prog) W 26 4 i _ Try.underlying26 hi hz .i64 .i64 n n (by omega) (Int.le_refl _) (by rw [hb]; omega) (by omega)
  simp only [Int.toNat_natCast, hs, Value.cells, Nat.mul_one] at hr
  exact hr

/-- reached on its way. -/
structure Mk13 (W : World) (L gb go gs n : Nat) (G : Array Value) (m : Nat → Bool) (As : Option Addr) (ks cs : Nat) (xs : List Nat) : Prop where
  box : Blk W gb 43 G
  marks : Bb13 W go n m
  var : Blk W gs 29 #[.slice As ks cs]
  lx : xs.length = ks
  stk : W.ownsRow L 3 1 (.slice As ks cs) ks (ints xs)
  lb : L ≤ gb
  lo : L ≤ go
  ls : L ≤ gs
section
variable {W : World} {L gb go gs n : Nat} {G : Array Value} {m : Nat → Bool} {As : Option Addr} {ks cs : Nat} {xs : List Nat}
theorem Mk13.step {W' : World} (b : Mk13 W L gb go gs n G m As ks cs xs) (hb : Below W.heap.size W W') : Mk13 W' L gb go gs n G m As ks cs xs := by
  obtain ⟨es, h1, h2⟩ := b.marks
  exact ⟨b.box.below hb b.box.lt, ⟨es, h1.below hb h1.lt, h2⟩, b.var.below hb b.var.lt, b.lx, own7_keep b.stk hb, b.lb, b.lo, b.ls⟩
theorem Mk13.pop {r i k : Nat} (b : Mk13 W L gb go gs n G m (some ⟨r, 0, none⟩) (k + 1) cs (xs ++ [i])) : Mk13 (W.setCell ⟨gs, 0, none⟩ (.slice (some ⟨r, 0, none⟩) k cs)) L gb go gs n G m (some ⟨r, 0, none⟩) k cs xs := by
  have hl : xs.length = k := by have := b.lx; simpa using this
  obtain ⟨es, h1, h2⟩ := b.marks
  have h3 := b.stk
  rw [ints_append] at h3
  have h4 := ownsRow_pop (by rw [ints_length, hl, Nat.mul_one]) h3
  exact ⟨b.box.far (by exact blk_ne12 b.box b.var (by decide)) _, ⟨es, h1.far (by exact blk_ne12 h1 b.var (by decide)) _, h2⟩, by simpa using b.var.set_ 0 (.slice (some ⟨r, 0, none⟩) k cs), hl, ownsRow_setCell_other h4 (by exact own7_ne h4 b.var (by decide)) _, b.lb, b.lo, b.ls⟩
theorem Mk13.mark (b : Mk13 W L gb go gs n G m As ks cs xs) {y : Nat} (hy : y < n) (x : Bool) : Mk13 (W.setCell ⟨go, y, none⟩ (.bool x)) L gb go gs n G (upd m y x) As ks cs xs := by
  obtain ⟨es, h1, h2⟩ := b.marks
  exact ⟨b.box.far (by exact blk_ne12 b.box h1 (by decide)) _, b.marks.put hy x, b.var.far (by exact blk_ne12 b.var h1 (by decide)) _, b.lx, ownsRow_setCell_other b.stk (by exact own7_ne b.stk h1 (by decide)) _, b.lb, b.lo, b.ls⟩
theorem Mk13.push {W3 : World} {A' : Option Addr} {c' i : Nat} (b : Mk13 W L gb go gs n G m As ks cs xs) (hL : L ≤ W.heap.size) (hg : (W.alloc (.cells #[.int .i64 (i : Int)] 3)).grownBy W3 (Value.slice As ks cs).ownBlock)
    (hown : W3.ownsRow L 3 1 (.slice A' (ks + 1) c') (ks + 1) (ints xs ++ ints [i])) :
    Mk13 (W3.setCell ⟨gs, 0, none⟩ (.slice A' (ks + 1) c')) L gb go gs n G m A' (ks + 1) c' (xs ++ [i]) ∧ Below L W (W3.setCell ⟨gs, 0, none⟩ (.slice A' (ks + 1) c')) ∧ Blk W3 gs 29 #[.slice As ks cs] := by
  have b1 := b.step (b1' W (.cells #[.int .i64 (i : Int)] 3))
  obtain ⟨es, h1, h2⟩ := b1.marks
  have hbox := b1.box.grown hg (fun e => own7_ne b1.stk b1.box (by decide) e.symm)
  have hvar := b1.var.grown hg (fun e => own7_ne b1.stk b1.var (by decide) e.symm)
  have hmk := h1.grown hg (fun e => own7_ne b1.stk h1 (by decide) e.symm)
  refine ⟨⟨hbox.far (by exact blk_ne12 hbox hvar (by decide)) _, ⟨es, hmk.far (by exact blk_ne12 hmk hvar (by decide)) _, h2⟩, by simpa using hvar.set_ 0 (.slice A' (ks + 1) c'), by simp [b.lx], ?_, b.lb, b.lo, b.ls⟩,
    (((b1' W _).mono hL).grown hg (by simp; omega) (fun r hr => (b1.stk.lt r hr).1)).setCell b.ls _, hvar⟩
  rw [ints_append]
  exact ownsRow_setCell_other hown (by exact own7_ne hown hvar (by decide)) _
end

theorem Mk13.start (w : World) (n a : Nat) (G : Array Value) :
    Mk13 ((((w.alloc (.cells G 43)).alloc (.cells (madeCells #[.bool false] n) 4)).alloc (.cells #[.int .i64 (a : Int)] 3)).alloc (.cells #[.slice (some ⟨w.heap.size + 1 + 1, 0, none⟩) 1 1] 29))
      w.heap.size w.heap.size (w.heap.size + 1) (w.heap.size + 1 + 1 + 1) n G (fun _ => false) (some ⟨w.heap.size + 1 + 1, 0, none⟩) 1 1 [a] := by
  have h1 := Blk.new w 43 G
  have h2 := made13 (w.alloc (.cells G 43)) 4 n (.bool false)
  have h4 := Blk.new (((w.alloc (.cells G 43)).alloc (.cells (madeCells #[.bool false] n) 4)).alloc (.cells #[.int .i64 (a : Int)] 3)) 29 #[.slice (some ⟨w.heap.size + 1 + 1, 0, none⟩) 1 1]
  have h3 := Blk.new ((w.alloc (.cells G 43)).alloc (.cells (madeCells #[.bool false] n) 4)) 3 #[.int .i64 (a : Int)]
  simp only [World.size_alloc] at h2 h3 h4
  obtain ⟨es, k1, k2, k3⟩ := h2
  exact ⟨((h1.alloc _).alloc _).alloc _, ⟨es, (k1.alloc _).alloc _, k2, k3⟩, h4, rfl, own13_of (h3.alloc _) (by omega) (Nat.le_refl _) (by decide) rfl rfl (fun k hk => by
    obtain rfl : k = 0 := by omega
    rfl), Nat.le_refl _, by omega, by omega⟩

/-- What the pop's region goes on reading. -/
structure Bx13 (w : World) (gb : Nat) (G : Array Value) (W : World) : Prop where
  below : Below w.heap.size w W
  box : Blk W gb 43 G

set_option maxHeartbeats 8000000 in
theorem reached13_any {E I n a : Nat} {A : List (Nat × Nat)} (w : World) (h : Gr13 w w.heap.size E I n A) (ha : a < n) :
    Calls Try.prog 21 #[gv13 E I n, .int .i64 (a : Int)] w fun e w' => ∃ g, e = .returned (.slice (some ⟨g, 0, none⟩) n n) ∧ Rv w' w'.heap.size (some ⟨g, 0, none⟩) (bls (wayb A a) n) ∧ Below w.heap.size w w' := by
  have HGR := Lib.hid h
  have hn := h.most
  have hmk := make_bools13 n (by omega)
  have hbx := Blk.new w 43 #[.slice (some ⟨E, 0, none⟩) n n, .slice (some ⟨I, 0, none⟩) n n]
  have c0 := hbx.cell 0
  have HM0 := Lib.hid (Mk13.start w n a #[.slice (some ⟨E, 0, none⟩) n n, .slice (some ⟨I, 0, none⟩) n n])
  have HB0 : Hid (Below w.heap.size w ((((w.alloc (.cells #[.slice (some ⟨E, 0, none⟩) n n, .slice (some ⟨I, 0, none⟩) n n] 43)).alloc (.cells (madeCells #[.bool false] n) 4)).alloc (.cells #[.int .i64 (a : Int)] 3)).alloc (.cells #[.slice (some ⟨w.heap.size + 1 + 1, 0, none⟩) 1 1] 29))) := Lib.hid ((((b1' w _).alloc (by simp) _).alloc (by simp; omega) _).alloc (by simp; omega) _)
  have HD0 := Lib.hid (Dfs13.start (A := A) ha)
  have hun0 := un13_le (fun _ => false) n
  unfold gv13
  clear h hbx
  go_enter Try.func21, Try.ntmps21
  go_wp2_with fail
  clear hmk c0
  go_loopg [24] (n + 1) (fun kx _ wr => ∃ (K : Nat) (m : Nat → Bool) (As : Option Addr) (ks cs : Nat) (xs : List Nat), K = kx ∧ ks + un13 m n ≤ K ∧ K ≤ n + 1 ∧ Hid (Mk13 wr w.heap.size w.heap.size (w.heap.size + 1) (w.heap.size + 1 + 1 + 1) n #[.slice (some ⟨E, 0, none⟩) n n, .slice (some ⟨I, 0, none⟩) n n] m As ks cs xs) ∧ Hid (Dfs13 A a n m xs (fun _ => False)) ∧ Hid (Below w.heap.size w wr))
  case atStart => exact ⟨n + 1, fun _ => false, _, 1, 1, [a], rfl, by omega, Nat.le_refl _, HM0, HD0, HB0⟩
  case round =>
    clear HM0 HD0 HB0 hun0
    obtain ⟨K, m, As, ks, cs, xs, rfl, hme, hkx, HM, HD, HB⟩ := hrel
    have v0 := HM.out.var.cell 0
    have v1 := HM.out.var.frozen 0
    by_cases hk0 : ks = 0
    · subst hk0
      have hxs : xs = [] := List.length_eq_zero_iff.1 HM.out.lx
      have HRV := Lib.hid (HM.out.marks.rv (T := wayb A a) (by have := HD.out; rw [hxs] at this; exact this.end_))
      clear hxs
      go_wp2_with fail
      go_ret
      exact ⟨(w.heap.size + 1), rfl, HRV.out, HB.out⟩
    · obtain ⟨k, rfl⟩ : ∃ k, ks = k + 1 := ⟨ks - 1, by omega⟩
      obtain ⟨xs', i, hxs⟩ : ∃ ys i, xs = ys ++ [i] := by
        rcases List.eq_nil_or_concat xs with h | ⟨ys, i, h⟩
        · exact absurd HM.out.lx (by rw [h]; simp)
        · exact ⟨ys, i, by simpa using h⟩
      subst hxs
      obtain ⟨r, rfl, hkc⟩ := own12_some HM.out.stk
      have hlast := own12_last HM.out.stk (by have := HM.out.lx; simpa using this)
      obtain ⟨hD2, hia, hin⟩ := HD.out.pop
      obtain ⟨Ak, ck, hrow, hrd⟩ := HGR.out.row hin
      obtain ⟨nf, hnf⟩ : ∃ x, (outs A i).length = x := ⟨_, rfl⟩
      have hnfb := outs_len A i
      have hmany := HGR.out.many
      rw [hnf] at hrow hnfb
      have hM1 := HM.out.step (Below.refl _ _).drew
      have hM2 := hM1.pop
      have hk6 : k ≤ 1000000 := by omega
      have hv0 : wr.drew.cell? ⟨(w.heap.size + 1 + 1 + 1), 0, none⟩ = some (.slice (some ⟨r, 0, none⟩) (k + 1) cs) := v0
      have HPOP := Lib.hid (pop13_any (w.heap.size + 1 + 1 + 1) r k cs i wr.drew hv0 v1 hlast hkc hk6)
      obtain ⟨wn, hwn⟩ : ∃ W, wr.drew = W := ⟨_, rfl⟩
      rw [hwn] at HPOP hM1 hM2
      have HBN : Hid (Below w.heap.size w wn) := Lib.hid (by rw [← hwn]; exact HB.out.drew)
      have HBX : Hid (Bx13 w w.heap.size #[.slice (some ⟨E, 0, none⟩) n n, .slice (some ⟨I, 0, none⟩) n n] wn) := Lib.hid ⟨HBN.out, hM1.box⟩
      have HB2 := Lib.hid (HBN.out.setCell (p := ⟨(w.heap.size + 1 + 1 + 1), 0, none⟩) hM1.ls (.slice (some ⟨r, 0, none⟩) k cs))
      have HBX2 : Hid (Bx13 w w.heap.size #[.slice (some ⟨E, 0, none⟩) n n, .slice (some ⟨I, 0, none⟩) n n] (wn.setCell ⟨(w.heap.size + 1 + 1 + 1), 0, none⟩ (.slice (some ⟨r, 0, none⟩) k cs))) := Lib.hid ⟨HB2.out, hM2.box⟩
      have HM2 := Lib.hid hM2
      have HD2 := Lib.hid hD2
      have HIA := Lib.hid hia
      have HROW := Lib.hid hrow
      have HRD := Lib.hid hrd
      have HNF := Lib.hid hnf
      have fi0 : (0 : Int) ≤ (i : Int) := by omega
      have fi1 : (i : Int) < (n : Int) := by omega
      obtain ⟨w2, hw2⟩ : ∃ W, wn.setCell ⟨(w.heap.size + 1 + 1 + 1), 0, none⟩ (.slice (some ⟨r, 0, none⟩) k cs) = W := ⟨_, rfl⟩
      rw [hw2] at HM2 HB2
      clear hM1 hM2 hD2 hia hrow hrd hnf hlast HM HD v1 hk0 hv0
      go_wp2_with fail
      refine wp_region_held_drew (S := Bx13 w w.heap.size #[.slice (some ⟨E, 0, none⟩) n n, .slice (some ⟨I, 0, none⟩) n n]) (by kernel_rfl) (by rw [hwn]; exact HBX.out) (fun hHeld => ?_)
      rw [hwn] at hHeld ⊢
      have HBS := HBX
      refine wpAnyH_take (i := 0) (v := ?_) (op_of rfl) (by kernel_rfl) (by kernel_rfl) (by kernel_rfl) (fun _ _ _ h => h) (Or.inl ⟨by rfl, fun W hS => ?_⟩) (by assumption) ?_
      rotate_left
      · try dsimp only at hS
        go_simp
        try with_reducible rfl
      try dsimp only [Act.put]
      try simp only [List.setIfInBounds_toArray, List.set_cons_zero, List.set_cons_succ]
      refine wpAnyH_take (i := 1) (v := ?_) (op_of rfl) (by kernel_rfl) (by kernel_rfl) (by kernel_rfl) (fun _ _ _ h => h) (Or.inl ⟨by rfl, fun W hS => ?_⟩) (by assumption) ?_
      rotate_left
      · try dsimp only at hS
        have z0 := hS.box.cell 0
        go_simp
        try with_reducible rfl
      try dsimp only [Act.put]
      try simp only [List.setIfInBounds_toArray, List.set_cons_zero, List.set_cons_succ]
      refine wpAnyH_take (i := 6) (v := ?_) (op_of rfl) (by kernel_rfl) (by kernel_rfl) (by kernel_rfl) (fun _ _ _ h => h) (Or.inl ⟨by rfl, fun W hS => ?_⟩) (by assumption) ?_
      rotate_left
      · try dsimp only at hS
        go_simp
        try with_reducible rfl
      try dsimp only [Act.put]
      try simp only [List.setIfInBounds_toArray, List.set_cons_zero, List.set_cons_succ]
      refine wpAnyH_ready (rs := [2]) (by kernel_rfl) (by simp) (AllReadyH.cons (op_of rfl) (fun K hK => ?_) AllReadyH.nil)
      go_simp
      refine HPOP.out.mono ?_
      rintro en wz ⟨rfl, rfl⟩
      have HBS := HBX2
      clear HPOP
      refine hK.out _ _ HBS.out (fun hHeld => ?_)
      clear hK K
      try dsimp only [Act.put]
      try simp only [List.setIfInBounds_toArray, List.set_cons_zero, List.set_cons_succ]
      refine wpAnyH_take (i := 3) (v := ?_) (op_of rfl) (by kernel_rfl) (by kernel_rfl) (by kernel_rfl) (fun _ _ _ h => h) (Or.inl ⟨by rfl, fun W hS => ?_⟩) (by assumption) ?_
      rotate_left
      · try dsimp only at hS
        go_simp
        try with_reducible rfl
      try dsimp only [Act.put]
      try simp only [List.setIfInBounds_toArray, List.set_cons_zero, List.set_cons_succ]
      refine wpAnyH_take (i := 4) (v := ?_) (op_of rfl) (by kernel_rfl) (by kernel_rfl) (by kernel_rfl) (fun _ _ _ h => h) (Or.inl ⟨by rfl, fun W hS => ?_⟩) (by assumption) ?_
      rotate_left
      · try dsimp only at hS
        have z0 := (hS.below.cell (p := ⟨E, i, none⟩) HGR.out.eb).trans HROW.out
        go_simp
        try with_reducible rfl
      try dsimp only [Act.put]
      try simp only [List.setIfInBounds_toArray, List.set_cons_zero, List.set_cons_succ]
      refine wpAnyH_take (i := 5) (v := ?_) (op_of rfl) (by kernel_rfl) (by kernel_rfl) (by kernel_rfl) (fun _ _ _ h => h) (Or.inl ⟨by rfl, fun W hS => ?_⟩) (by assumption) ?_
      rotate_left
      · try dsimp only at hS
        go_simp
        try with_reducible rfl
      try dsimp only [Act.put]
      try simp only [List.setIfInBounds_toArray, List.set_cons_zero, List.set_cons_succ]
      refine wpAnyH_done (by kernel_rfl) ?_ _
      clear hHeld
      try rw [hw2]
      go_wp2_with fail
      go_loopw [24] (fun iv wi => ∃ (p : Nat) (m2 : Nat → Bool) (A2 : Option Addr) (k2 c2 : Nat) (ys : List Nat), iv = .int .i64 (p : Int) ∧ p ≤ nf ∧ k2 + un13 m2 n + 1 ≤ K ∧ Hid (Mk13 wi w.heap.size w.heap.size (w.heap.size + 1) (w.heap.size + 1 + 1 + 1) n #[.slice (some ⟨E, 0, none⟩) n n, .slice (some ⟨I, 0, none⟩) n n] m2 A2 k2 c2 ys) ∧ Hid (Dfs13 A a n m2 ys (fun x => x = i)) ∧ Hid (i = a ∨ m2 i = true) ∧ Hid (∀ q, q < p → m2 (nth (outs A i) q) = true) ∧ Hid (Below w.heap.size w wi)) (fun iv _ => nf - (intOf iv).toNat)
      case atStart => exact ⟨0, m, some ⟨r, 0, none⟩, k, cs, xs', rfl, by omega, by omega, HM2, HD2, HIA, Lib.hid (fun q hq => by omega), HB2⟩
      case round =>
        clear HM2 HD2 HIA HB2
        obtain ⟨p, m2, A2, k2, c2, ys, rfl, hp, hme, HM2, HD2, HIA, HQ, HB2⟩ := hrel
        by_cases hpn : p < nf
        · obtain ⟨b, o, hA, _, ca⟩ := Rd.at_ (Rd.below HRD.out HB2.out (Nat.le_refl _)) (show p < (outs A i).length by have := HNF.out; omega)
          subst hA
          obtain ⟨hy1, hy2⟩ := outs_nth HGR.out.part (show p < (outs A i).length by have := HNF.out; omega)
          obtain ⟨y, hy⟩ : ∃ y, nth (outs A i) p = y := ⟨_, rfl⟩
          rw [hy] at ca hy1 hy2
          obtain ⟨cm, cf⟩ := HM2.out.marks.cells hy2
          have p0 : (0 : Int) ≤ (p : Int) := by omega
          have p1 : (p : Int) < (nf : Int) := by omega
          have y0 : (0 : Int) ≤ (y : Int) := by omega
          have y1 : (y : Int) < (n : Int) := by omega
          have HY := Lib.hid hy
          have HYA := Lib.hid hy1
          clear hy hy1
          cases hmy : m2 y with
          | true =>
            rw [hmy] at cm
            have HQ2 : Hid (∀ q, q < p + 1 → m2 (nth (outs A i) q) = true) := Lib.hid (fun q hq => by
              rcases (show q < p ∨ q = p by omega) with h | rfl
              · exact HQ.out q h
              · rw [HY.out]; exact hmy)
            clear hmy cf
            go_wp2_with fail
            go_roundw
            case rel => exact ⟨p + 1, m2, A2, k2, c2, ys, by go_num, by omega, hme, HM2, HD2, HIA, HQ2, HB2⟩
            case measure => simp [intOf]; omega
          | false =>
            rw [hmy] at cm
            have hun := un13_mark hy2 hmy
            have HM3 := Lib.hid (HM2.out.mark hy2 true)
            have HB3 := Lib.hid (HB2.out.setCell (p := ⟨(w.heap.size + 1), y, none⟩) HM2.out.lo (.bool true))
            obtain ⟨w5, hw5⟩ : ∃ W, wr.setCell ⟨(w.heap.size + 1), y, none⟩ (.bool true) = W := ⟨_, rfl⟩
            rw [hw5] at HM3 HB3
            have v0 := HM3.out.var.cell 0
            have HD3 := Lib.hid (HD2.out.mark HIA.out HYA.out hy2)
            have HIA3 : Hid (i = a ∨ upd m2 y true i = true) := Lib.hid (by
              rcases HIA.out with h | h
              · exact .inl h
              · right
                by_cases e : i = y
                · rw [e]; exact upd_at _ _ _
                · rw [upd_far _ _ e]; exact h)
            have HQ3 : Hid (∀ q, q < p + 1 → upd m2 y true (nth (outs A i) q) = true) := Lib.hid (fun q hq => by
              by_cases e : nth (outs A i) q = y
              · rw [e]; exact upd_at _ _ _
              · rw [upd_far _ _ e]
                rcases (show q < p ∨ q = p by omega) with h | rfl
                · exact HQ.out q h
                · exact absurd HY.out e)
            have hs5 := HB3.out.size
            have hunl := un13_le m2 n
            clear hmy
            go_wp2_with (at_builtin; go_loud (refine wpList_append_rv _ rfl (.tmp 36) (.tmp 38) 29 rfl w.heap.size 3 (.int .i64 0) 8 Try.underlying29 info_int11 rfl (by omega) (.slice A2 k2 c2) k2 (ints ys) rfl (own7_keep HM3.out.stk (b1' w5 (.cells #[.int .i64 (y : Int)] 3))) (w5.heap.size + 1) (some ⟨w5.heap.size, 0, none⟩) 1 (ints [y]) _ rfl rfl (rv12_one w5 y 3) (ints_one [y]) (by omega) (by simp; omega) ?_); intro A' c' w6 hc6 hown6 hg6 hbl6; obtain ⟨hM6, hB6, hv6⟩ := HM3.out.push hs5 hg6 hown6.out; have HM6 := Lib.hid hM6; have HB6 := Lib.hid hB6; have d0 := hv6.cell 0; have e0 := hv6.frozen 0; clear hM6 hB6 hv6 hown6 hg6 hbl6)
            go_roundw
            case rel => exact ⟨p + 1, upd m2 y true, A', k2 + 1, c', ys ++ [y], by go_num, by omega, by omega, HM6, HD3, HIA3, HQ3, Lib.hid (HB3.out.trans HB6.out)⟩
            case measure => simp [intOf]; omega
        · obtain rfl : p = nf := by omega
          have HD4 : Hid (Dfs13 A a n m2 ys (fun _ => False)) := Lib.hid (HD2.out.leave (fun y hy => by
            obtain ⟨q, hq, he⟩ := List.getElem_of_mem (outs_mem.2 hy)
            have h1 := HQ.out q (by have := HNF.out; omega)
            rw [nth_in hq, he] at h1
            exact h1))
          have p1 : ¬ (p : Int) < (p : Int) := by omega
          go_wp2_with fail
          go_roundg (k2 + un13 m2 n)
          case measure => omega
          case rel => exact ⟨_, m2, A2, k2, c2, ys, rfl, Nat.le_refl _, by omega, HM2, HD4, HB2⟩

end Go.Proofs.Ytojdgcalpdbifaa
