/-
  Arrows: slices.Insert, slices.BinarySearchFunc at the stack's own order; package dag's put.
-/
import Derived.Test.YtojdgcalpdbifaaDagA
import Derived.Test.YtojdgcalpdbifaaShelf
namespace Go.Proofs.Ytojdgcalpdbifaa
open Go.RowKit
set_option maxRecDepth 100000

theorem setCells13 (b : Nat) : ∀ (vs : List Value) (o : Nat) (w : World), (w.setCells b o vs).os = w.os ∧ (w.setCells b o vs).tape = w.tape ∧ (w.setCells b o vs).output = w.output ∧ (w.setCells b o vs).heap.size = w.heap.size ∧ ∀ k, k ≠ b → (w.setCells b o vs).heap[k]? = w.heap[k]?
  | [], _, _ => ⟨rfl, rfl, rfl, rfl, fun _ _ => rfl⟩
  | v :: r, o, w => by
    obtain ⟨h1, h2, h3, h4, h5⟩ := setCells13 b r (o + 1) (w.setCell ⟨b, o, none⟩ v)
    rw [World.setCells]
    refine ⟨h1.trans ?_, h2.trans ?_, h3.trans ?_, h4.trans (by simp [World.setCell]), fun k hk => (h5 k hk).trans (Below.heap_setCell w ⟨b, o, none⟩ v k hk)⟩
    all_goals rfl
theorem blk13_setCells {t : TypeId} {b : Nat} : ∀ (vs : List Value) (o : Nat) (w : World) (cs : Array Value), Blk w b t cs → o + vs.length ≤ cs.size → ∃ cs' : Array Value, Blk (w.setCells b o vs) b t cs' ∧ cs'.size = cs.size ∧ (∀ k, k < o → cs'[k]? = cs[k]?) ∧ (∀ k, k < vs.length → cs'[o + k]? = vs[k]?) ∧ (∀ k, o + vs.length ≤ k → cs'[k]? = cs[k]?)
  | [], o, w, cs, h, _ => ⟨cs, h, rfl, fun _ _ => rfl, fun k hk => by simp at hk, fun _ _ => rfl⟩
  | v :: r, o, w, cs, h, hl => by
    simp only [List.length_cons] at hl
    obtain ⟨cs', h1, h2, h3, h4, h5⟩ := blk13_setCells r (o + 1) (w.setCell ⟨b, o, none⟩ v) _ (h.set_ o v) (by simp; omega)
    refine ⟨cs', h1, by simpa using h2, fun k hk => ?_, fun k hk => ?_, fun k hk => ?_⟩
    · rw [h3 k (by omega), Array.getElem?_setIfInBounds_ne (by omega)]
    · cases k with
      | zero =>
        rw [Nat.add_zero, h3 o (by omega), Array.getElem?_setIfInBounds_self_of_lt (by omega)]
        rfl
      | succ k =>
        rw [show o + (k + 1) = o + 1 + k by omega, h4 k (by simp at hk; omega)]
        rfl
    · simp only [List.length_cons] at hk
      rw [h5 k (by omega), Array.getElem?_setIfInBounds_ne (by omega)]
/-- A block whose first cells are those of a list is a row of one's own. -/
theorem own13_of {w : World} {base g n cap : Nat} {e : TypeId} {cur : Array Value} {vs : List Value} (h : Blk w g e cur) (hb : base ≤ g) (hn : n ≤ cap) (hc : cap ≤ maxLen) (hs : cur.size = cap) (hl : vs.length = n) (hv : ∀ k, k < n → cur[k]? = vs[k]?) :
    w.ownsRow base e 1 (.slice (some ⟨g, 0, none⟩) n cap) n vs := by
  refine ⟨by omega, .inr ⟨g, cap, cur, rfl, hb, h, hn, hc, by omega, ?_⟩⟩
  rw [Nat.mul_one]
  apply List.ext_getElem?
  intro k
  rw [List.getElem?_take]
  split
  · next hk => rw [Array.getElem?_toList]; exact hv k hk
  · next hk => rw [List.getElem?_eq_none (by omega)]
/-- The number x put in at a place. -/
def ins13 (xs : List Nat) (p x : Nat) : List Nat := xs.take p ++ x :: xs.drop p
theorem ins13_len (xs : List Nat) {p : Nat} (x : Nat) (hp : p ≤ xs.length) : (ins13 xs p x).length = xs.length + 1 := by
  simp [ins13]
  omega
theorem ins13_low {xs : List Nat} {p x k : Nat} (hp : p ≤ xs.length) (hk : k < p) : (ints (ins13 xs p x))[k]? = (ints xs)[k]? := by
  simp only [ins13, ints, List.map_append, List.map_cons, List.map_take]
  rw [List.getElem?_append_left (by simp; omega), List.getElem?_take_of_lt hk]
theorem ins13_at {xs : List Nat} {p x : Nat} (hp : p ≤ xs.length) : (ints (ins13 xs p x))[p]? = some (.int .i64 (x : Int)) := by
  simp only [ins13, ints, List.map_append, List.map_cons, List.map_take]
  rw [List.getElem?_append_right (by simp; omega)]
  simp [show p - min p xs.length = 0 by omega]
theorem ins13_high {xs : List Nat} {p x k : Nat} (hp : p ≤ xs.length) (hk : p ≤ k) : (ints (ins13 xs p x))[k + 1]? = (ints xs)[k]? := by
  simp only [ins13, ints, List.map_append, List.map_cons, List.map_take, List.map_drop]
  rw [List.getElem?_append_right (by simp; omega)]
  rw [show k + 1 - (List.take p (List.map (fun (d : Nat) => Value.int .i64 (d : Int)) xs)).length = (k - p) + 1 by simp; omega]
  simp [show p + (k - p) = k by omega]

/-- What slices.Insert leaves behind. -/
def In13s (w : World) (base : Nat) (v : Value) (ys : List Nat) (e : Ending) (w' : World) : Prop :=
  ∃ A' c', e = .returned (.slice A' ys.length c') ∧ w'.ownsRow base 3 1 (.slice A' ys.length c') ys.length (ints ys) ∧ w.grownBy w' v.ownBlock ∧ ∀ r, (Value.slice A' ys.length c').ownBlock = some r → v.ownBlock = some r ∨ w.heap.size ≤ r

theorem insert13_any {base : Nat} {A : Option Addr} {n c p x vb : Nat} {xs : List Nat} (w : World) (hl : xs.length = n) (ho : w.ownsRow base 3 1 (.slice A n c) n (ints xs)) (hp : p ≤ n) (hv : Blk w vb 3 #[.int .i64 (x : Int)])
    (hne : (Value.slice A n c).ownBlock ≠ some vb) (hn : n ≤ 1000000) (hbase : base ≤ w.heap.size) :
    Calls Try.prog 29 #[.slice A n c, .int .i64 (p : Int), .slice (some ⟨vb, 0, none⟩) 1 1] w (In13s w base (.slice A n c) (ins13 xs p x)) := by
  have hyl : (ins13 xs p x).length = n + 1 := by rw [ins13_len _ _ (by omega), hl]
  have hvs : ∀ j u, [Value.int .i64 (x : Int)][j]? = some u → w.cell? ⟨vb, 0 + j, none⟩ = some u := by
    intro j u hj
    rw [Nat.zero_add, hv.cell]
    simpa using hj
  have h1v : ∀ u ∈ [Value.int .i64 (x : Int)], u.oneCell' = true := by
    intro u hu
    rw [List.mem_singleton] at hu
    subst hu
    rfl
  have h1c := ints_one xs
  have hcl : (ints xs).length = n := by rw [ints_length, hl]
  unfold In13s
  rw [hyl]
  by_cases hroom : n + 1 ≤ c
  · -- there is room: the row is not nil
    rcases ho.2 with ⟨h0, _⟩ | ⟨b, cap, cur, hvv, hbb, hh, hnc, hcm, hcs, htk⟩
    · injection h0 with _ _ h2
      omega
    injection hvv with hA _ hcc
    subst hA hcc
    rw [Nat.mul_one] at hcs htk
    have hbk : Blk w b 3 cur := hh
    have hcur : ∀ j, j < n → cur[j]? = (ints xs)[j]? := fun j hj => by
      rw [← htk, List.getElem?_take_of_lt hj, Array.getElem?_toList]
    have hvb : vb ≠ b := fun e => hne (by rw [e]; rfl)
    have hc63 : c ≤ 9223372036854775807 := by unfold maxLen at hcm; omega
    have hgrow : ∀ (W : World), W.os = w.os → W.tape = w.tape → W.output = w.output → W.heap.size = w.heap.size → (∀ k, k ≠ b → W.heap[k]? = w.heap[k]?) → w.grownBy W (Value.slice (some ⟨b, 0, none⟩) n c).ownBlock := fun W e1 e2 e3 e4 e5 =>
      ⟨e1, e2, e3, by omega, fun k _ hk => e5 k (fun e => hk (by rw [e]; rfl))⟩
    by_cases hend : p = n
    · subst hend
      refine (Any2.slices_Insert_int_end_room Try.laysNm221 b 0 p c vb 0 1 1 [.int .i64 (x : Int)] w (by omega) hroom hc63 rfl (fun j hj => ?_) (fun j hj => hbk.frozen _) hvs h1v).mono ?_
      · rw [hbk.cell, Array.getElem?_eq_getElem (by omega)]
        rfl
      · rintro e w' ⟨rfl, rfl⟩
        obtain ⟨cs', q1, q2, q3, q4, q5⟩ := blk13_setCells (t := 3) [.int .i64 (x : Int)] (0 + p) w cur hbk (by simp; omega)
        obtain ⟨e1, e2, e3, e4, e5⟩ := setCells13 b [.int .i64 (x : Int)] (0 + p) w
        refine ⟨_, _, rfl, own13_of q1 hbb hroom hcm (by omega) (by rw [ints_length, hyl]) (fun k hk => ?_), hgrow _ e1 e2 e3 e4 e5, fun r hr => .inl hr⟩
        rcases (show k < p ∨ k = p by omega) with hk | rfl
        · rw [q3 k (by omega), hcur k hk, ins13_low (by omega) hk]
        · rw [ins13_at (by omega)]
          simpa using q4 0 (by simp)
    · have hpn : p < n := by omega
      refine (Any2.slices_Insert_int_shift Try.laysNm221 b 0 n c p vb 0 1 1 (ints xs) [.int .i64 (x : Int)] w hpn (by omega) hroom hc63 hvb hcl rfl (fun j u hj => ?_) (fun j hj => ?_) (fun j hj => hbk.frozen _) hvs h1c h1v 3 3 1 cur.size ?_ ?_ (by omega) (hv.frozen _) (hv.frozen _)).mono ?_
      · have hjn : j < n := by
          have := (List.getElem?_eq_some_iff.1 hj).1
          omega
        rw [Nat.zero_add, hbk.cell, hcur j hjn, hj]
      · rw [Nat.zero_add, hbk.cell, Array.getElem?_eq_getElem (by omega)]
        rfl
      · unfold World.shape?
        rw [show w.heap[vb]? = _ from hv]
        rfl
      · unfold World.shape?
        rw [show w.heap[b]? = _ from hbk]
      · rintro e w' ⟨rfl, rfl⟩
        have hdl : ((ints xs).drop p).length = n - p := by rw [List.length_drop, hcl]
        obtain ⟨cs1, q1, q2, q3, q4, q5⟩ := blk13_setCells (t := 3) ((ints xs).drop p) (0 + (p + 1)) w.drew cur hbk (by omega)
        obtain ⟨e1, e2, e3, e4, e5⟩ := setCells13 b ((ints xs).drop p) (0 + (p + 1)) w.drew
        obtain ⟨cs2, r1, r2, r3, r4, r5⟩ := blk13_setCells (t := 3) [.int .i64 (x : Int)] (0 + p) _ cs1 q1 (by simp; omega)
        obtain ⟨f1, f2, f3, f4, f5⟩ := setCells13 b [.int .i64 (x : Int)] (0 + p) (w.drew.setCells b (0 + (p + 1)) ((ints xs).drop p))
        refine ⟨_, _, rfl, own13_of r1 hbb hroom hcm (by omega) (by rw [ints_length, hyl]) (fun k hk => ?_), hgrow _ (f1.trans e1) (f2.trans e2) (f3.trans e3) (f4.trans e4) (fun k hk => (f5 k hk).trans (e5 k hk)), fun r hr => .inl hr⟩
        rcases (show k < p ∨ k = p ∨ p < k by omega) with hkp | rfl | hkp
        · rw [r3 k (by omega), q3 k (by omega), hcur k (by omega), ins13_low (by omega) hkp]
        · rw [ins13_at (by omega)]
          simpa using r4 0 (by simp)
        · obtain ⟨j, rfl⟩ : ∃ j, k = p + 1 + j := ⟨k - p - 1, by omega⟩
          rw [r5 _ (by simp <;> omega), show p + 1 + j = 0 + (p + 1) + j by omega, q4 j (by omega), show 0 + (p + 1) + j = (p + j) + 1 by omega, ins13_high (by omega) (by omega), List.getElem?_drop]
  · -- no room: a new row
    have hnc : n ≤ c := by
      rcases ho.2 with ⟨h0, _⟩ | ⟨b, cap, cur, hvv, _, _, hnc, _⟩
      · injection h0 with _ h1 h2
        omega
      · injection hvv with _ _ hcc
        omega
    have hcap : n + 1 ≤ grownCap w (n + 1) c 3 := grownCap_ge _ _ _ _
    have hcapm : grownCap w (n + 1) c 3 ≤ maxLen := grownCap_le_maxLen _ _ _ _ (by unfold maxLen; omega)
    by_cases hend : p = n
    · subst hend
      refine (Any2.slices_Insert_int_end_grow Try.laysNm221 A p c vb 0 1 1 (ints xs) [.int .i64 (x : Int)] w (by omega) hnc (by omega) (by omega) hcl rfl (fun h => ?_) (fun a ha j u hj => ?_) hvs h1v).mono ?_
      · rcases ho.2 with ⟨h0, h1⟩ | ⟨b, cap, cur, hvv, _⟩
        · exact h1
        · injection hvv with hA
          rw [h] at hA
          cases hA
      · rcases ho.2 with ⟨h0, h1⟩ | ⟨b, cap, cur, hvv, _⟩
        · injection h0 with hA
          rw [ha] at hA
          cases hA
        · injection hvv with hA
          rw [ha] at hA
          injection hA with hA
          subst hA
          exact ho.cells (g := b) (by rw [ha]; rfl) j u hj
      · rintro e w' ⟨rfl, rfl⟩
        refine ⟨_, _, rfl, own13_of (Blk.new w.drew _ _) hbase hcap hcapm ?_ (by rw [ints_length, hyl]) (fun k hk => ?_), ⟨rfl, rfl, rfl, by simp, fun k hk _ => Below.heap_alloc w.drew _ k hk⟩, fun r hr => .inr (by cases hr; exact Nat.le_refl _)⟩
        · show ((ints xs ++ [Value.int .i64 (x : Int)]).toArray ++ Builtin.zeroCells (Value.int .i64 0).cells (grownCap w (p + 1) c 3 - (p + 1))).size = grownCap w (p + 1) c 3
          simp [size_zeroCells, hcl, Value.cells]
          omega
        · rw [Array.getElem?_append_left (by simp; omega)]
          rcases (show k < p ∨ k = p by omega) with hk2 | rfl
          · rw [ins13_low (by omega) hk2]
            simp only [List.getElem?_toArray]
            rw [List.getElem?_append_left (by omega)]
          · rw [ins13_at (by omega)]
            simp only [List.getElem?_toArray]
            rw [List.getElem?_append_right (by omega), hcl, Nat.sub_self]
            rfl
    · have hpn : p < n := by omega
      rcases ho.2 with ⟨h0, h1⟩ | ⟨b, cap, cur, hvv, hbb, hh, _, hcm, hcs, htk⟩
      · omega
      injection hvv with hA _ hcc
      subst hA hcc
      refine (Any2.slices_Insert_int_grow Try.laysNm221 b 0 n c p vb 0 1 1 (ints xs) [.int .i64 (x : Int)] w hpn (by omega) hnc (by omega) (by omega) hcl rfl (fun j u hj => ?_) hvs h1c h1v).mono ?_
      · have := ho.cells (g := b) rfl j u hj
        rw [Go.WideShapes.add_plain] at this
        exact this
      · rintro e w' ⟨rfl, hw⟩
        have hdl : ((ints xs).drop p).length = n - p := by rw [List.length_drop, hcl]
        generalize hcu : ((ints xs).take p).toArray ++ Builtin.zeroCells (Value.int .i64 0).cells (n + 1 - p) ++ Builtin.zeroCells (Value.int .i64 0).cells (grownCap w (n + 1) c 3 - (n + 1)) = cu
        have hcus : cu.size = grownCap w (n + 1) c 3 := by
          rw [← hcu]
          simp [size_zeroCells, hcl, Value.cells]
          omega
        have hculow : ∀ k, k < p → cu[k]? = (ints xs)[k]? := fun k hk => by
          rw [← hcu, Array.getElem?_append_left (by simp [hcl]; omega), Array.getElem?_append_left (by simp [hcl]; omega), List.getElem?_toArray, List.getElem?_take_of_lt hk]
        obtain rfl : w' = (((w.alloc (.cells cu 3)).drew.setCells w.heap.size p [.int .i64 (x : Int)]).drew).setCells w.heap.size (p + 1) ((ints xs).drop p) := by
          rw [hw, ← hcu]
          rfl
        clear hw
        have hb0 : Blk (w.alloc (.cells cu 3)).drew w.heap.size 3 cu := Blk.new w _ _
        obtain ⟨cs1, q1, q2, q3, q4, q5⟩ := blk13_setCells (t := 3) [.int .i64 (x : Int)] p _ cu hb0 (by simp; omega)
        obtain ⟨e1, e2, e3, e4, e5⟩ := setCells13 w.heap.size [.int .i64 (x : Int)] p (w.alloc (.cells cu 3)).drew
        have q1' : Blk ((w.alloc (.cells cu 3)).drew.setCells w.heap.size p [.int .i64 (x : Int)]).drew w.heap.size 3 cs1 := q1
        obtain ⟨cs2, r1, r2, r3, r4, r5⟩ := blk13_setCells (t := 3) ((ints xs).drop p) (p + 1) _ cs1 q1' (by omega)
        obtain ⟨f1, f2, f3, f4, f5⟩ := setCells13 w.heap.size ((ints xs).drop p) (p + 1) ((w.alloc (.cells cu 3)).drew.setCells w.heap.size p [.int .i64 (x : Int)]).drew
        refine ⟨_, _, rfl, own13_of r1 hbase hcap hcapm (by show cs2.size = grownCap w (n + 1) c 3; omega) (by rw [ints_length, hyl]) (fun k hk => ?_), ⟨f1.trans e1, f2.trans e2, f3.trans e3, ?_, fun k hk _ => ?_⟩, fun r hr => .inr (by cases hr; exact Nat.le_refl _)⟩
        · rcases (show k < p ∨ k = p ∨ p < k by omega) with hkp | rfl | hkp
          · rw [r3 k (by omega), q3 k (by omega), hculow k hkp, ins13_low (by omega) hkp]
          · rw [r3 k (by omega), ins13_at (by omega)]
            simpa using q4 0 (by simp)
          · obtain ⟨j, rfl⟩ : ∃ j, k = p + 1 + j := ⟨k - p - 1, by omega⟩
            rw [r4 j (by omega), show p + 1 + j = (p + j) + 1 by omega, ins13_high (by omega) (by omega), List.getElem?_drop]
        · have h1 : ((w.alloc (.cells cu 3)).drew.setCells w.heap.size p [.int .i64 (x : Int)]).drew.heap.size = w.heap.size + 1 := by
            rw [show ((w.alloc (.cells cu 3)).drew.setCells w.heap.size p [.int .i64 (x : Int)]).drew.heap.size = ((w.alloc (.cells cu 3)).drew.setCells w.heap.size p [.int .i64 (x : Int)]).heap.size from rfl, e4]
            simp [World.drew]
          omega
        · exact (f5 k (by omega)).trans ((e5 k (by omega)).trans (Below.heap_alloc w _ k hk))
end Go.Proofs.Ytojdgcalpdbifaa
