/-
  SaidStatePuts, part 3 of 26: what the theorem statePuts_holds reaches.
-/
import Derived.Test.YtfoellhoaflofaaGreatP2
import Derived.Laws.StructEq
import Derived.Laws.MakeOwn
import Derived.Laws.CopyOwn
import Derived.Deep.RegionHeld3
namespace Go.Proofs.YtfoellhoaflofaaGreat
open Go.RowKit
set_option maxRecDepth 100000
theorem setCells13 (b : Nat) : ∀ (vs : List Value) (o : Nat) (w : World), (w.setCells b o vs).os = w.os ∧ (w.setCells b o vs).tape = w.tape ∧ (w.setCells b o vs).output = w.output ∧ (w.setCells b o vs).heap.size = w.heap.size ∧ ∀ k, k ≠ b → (w.setCells b o vs).heap[k]? = w.heap[k]?
  | [], _, _ => ⟨rfl, rfl, rfl, rfl, fun _ _ => rfl⟩
  | v :: r, o, w => by
    obtain ⟨h1, h2, h3, h4, h5⟩ := setCells13 b r (o + 1) (w.setCell ⟨b, o, none⟩ v)
    rw [World.setCells]
    refine ⟨h1.trans ?_, h2.trans ?_, h3.trans ?_, h4.trans (by simp [World.setCell]), fun k hk => (h5 k hk).trans (Below.heap_setCell w ⟨b, o, none⟩ v k hk)⟩
    all_goals rfl
theorem blk13_setCells {t : TypeId} {b : Nat} : ∀ (vs : List Value) (o : Nat) (w : World) (cs : Array Value), Blk w b t cs → o + vs.length ≤ cs.size → ∃ cs' : Array Value, Blk (w.setCells b o vs) b t cs' ∧ cs'.size = cs.size ∧ (∀ k, k < o → cs'[k]? = cs[k]?) ∧ (∀ k, k < vs.length → cs'[o + k]? = vs[k]?) ∧ (∀ k, o + vs.length ≤ k → cs'[k]? = cs[k]?)
  | [], o, w, cs, h, _ => ⟨cs, h, rfl, fun _ _ => rfl, fun k hk => by simp at hk, fun _ _ => rfl⟩
  | v :: r, o, w, cs, h, hl => by
    simp only [List.length_cons] at hl
    obtain ⟨cs', h1, h2, h3, h4, h5⟩ := blk13_setCells r (o + 1) (w.setCell ⟨b, o, none⟩ v) _ (h.set_ o v) (by simp; omega)
    refine ⟨cs', h1, by simpa using h2, fun k hk => ?_, fun k hk => ?_, fun k hk => ?_⟩
    · rw [h3 k (by omega), Array.getElem?_setIfInBounds_ne (by omega)]
    · cases k with
      | zero =>
        rw [Nat.add_zero, h3 o (by omega), Array.getElem?_setIfInBounds_self_of_lt (by omega)]
        rfl
      | succ k =>
        rw [show o + (k + 1) = o + 1 + k by omega, h4 k (by simp at hk; omega)]
        rfl
    · simp only [List.length_cons] at hk
      rw [h5 k (by omega), Array.getElem?_setIfInBounds_ne (by omega)]
/-- A block whose first cells are those of a list is a row of one's own. -/
theorem own13_of {w : World} {base g n cap : Nat} {e : TypeId} {cur : Array Value} {vs : List Value} (h : Blk w g e cur) (hb : base ≤ g) (hn : n ≤ cap) (hc : cap ≤ maxLen) (hs : cur.size = cap) (hl : vs.length = n) (hv : ∀ k, k < n → cur[k]? = vs[k]?) :
    w.ownsRow base e 1 (.slice (some ⟨g, 0, none⟩) n cap) n vs := by
  refine ⟨by omega, .inr ⟨g, cap, cur, rfl, hb, h, hn, hc, by omega, ?_⟩⟩
  rw [Nat.mul_one]
  apply List.ext_getElem?
  intro k
  rw [List.getElem?_take]
  split
  · next hk => rw [Array.getElem?_toList]; exact hv k hk
  · next hk => rw [List.getElem?_eq_none (by omega)]
/-- The number x put in at a place. -/
def ins13 (xs : List Nat) (p x : Nat) : List Nat := xs.take p ++ x :: xs.drop p
theorem ins13_len (xs : List Nat) {p : Nat} (x : Nat) (hp : p ≤ xs.length) : (ins13 xs p x).length = xs.length + 1 := by
  simp [ins13]
  omega
theorem ins13_low {xs : List Nat} {p x k : Nat} (hp : p ≤ xs.length) (hk : k < p) : (ints (ins13 xs p x))[k]? = (ints xs)[k]? := by
  simp only [ins13, ints, List.map_append, List.map_cons, List.map_take]
  rw [List.getElem?_append_left (by simp; omega), List.getElem?_take_of_lt hk]
theorem ins13_at {xs : List Nat} {p x : Nat} (hp : p ≤ xs.length) : (ints (ins13 xs p x))[p]? = some (.int .i64 (x : Int)) := by
  simp only [ins13, ints, List.map_append, List.map_cons, List.map_take]
  rw [List.getElem?_append_right (by simp; omega)]
  simp [show p - min p xs.length = 0 by omega]
theorem ins13_high {xs : List Nat} {p x k : Nat} (hp : p ≤ xs.length) (hk : p ≤ k) : (ints (ins13 xs p x))[k + 1]? = (ints xs)[k]? := by
  simp only [ins13, ints, List.map_append, List.map_cons, List.map_take, List.map_drop]
  rw [List.getElem?_append_right (by simp; omega)]
  rw [show k + 1 - (List.take p (List.map (fun (d : Nat) => Value.int .i64 (d : Int)) xs)).length = (k - p) + 1 by simp; omega]
  simp [show p + (k - p) = k by omega]
/-- What slices.Insert leaves behind. -/
def In13s (w : World) (base : Nat) (v : Value) (ys : List Nat) (e : Ending) (w' : World) : Prop :=
  ∃ A' c', e = .returned (.slice A' ys.length c') ∧ w'.ownsRow base 3 1 (.slice A' ys.length c') ys.length (ints ys) ∧ w.grownBy w' v.ownBlock ∧ ∀ r, (Value.slice A' ys.length c').ownBlock = some r → v.ownBlock = some r ∨ w.heap.size ≤ r
theorem insert13_any {base : Nat} {A : Option Addr} {n c p x vb : Nat} {xs : List Nat} (w : World) (hl : xs.length = n) (ho : w.ownsRow base 3 1 (.slice A n c) n (ints xs)) (hp : p ≤ n) (hv : Blk w vb 3 #[.int .i64 (x : Int)])
    (hne : (Value.slice A n c).ownBlock ≠ some vb) (hn : n ≤ 1000000) (hbase : base ≤ w.heap.size) :
    Calls Tryz.prog 133 #[.slice A n c, .int .i64 (p : Int), .slice (some ⟨vb, 0, none⟩) 1 1] w (In13s w base (.slice A n c) (ins13 xs p x)) := by
  have hyl : (ins13 xs p x).length = n + 1 := by rw [ins13_len _ _ (by omega), hl]
  have hvs : ∀ j u, [Value.int .i64 (x : Int)][j]? = some u → w.cell? ⟨vb, 0 + j, none⟩ = some u := by
    intro j u hj
    rw [Nat.zero_add, hv.cell]
    simpa using hj
  have h1v : ∀ u ∈ [Value.int .i64 (x : Int)], u.oneCell' = true := by
    intro u hu
    rw [List.mem_singleton] at hu
    subst hu
    rfl
  have h1c := ints_one xs
  have hcl : (ints xs).length = n := by rw [ints_length, hl]
  unfold In13s
  rw [hyl]
  by_cases hroom : n + 1 ≤ c
  · -- there is room: the row is not nil
    rcases ho.2 with ⟨h0, _⟩ | ⟨b, cap, cur, hvv, hbb, hh, hnc, hcm, hcs, htk⟩
    · injection h0 with _ _ h2
      omega
    injection hvv with hA _ hcc
    subst hA hcc
    rw [Nat.mul_one] at hcs htk
    have hbk : Blk w b 3 cur := hh
    have hcur : ∀ j, j < n → cur[j]? = (ints xs)[j]? := fun j hj => by
      rw [← htk, List.getElem?_take_of_lt hj, Array.getElem?_toList]
    have hvb : vb ≠ b := fun e => hne (by rw [e]; rfl)
    have hc63 : c ≤ 9223372036854775807 := by unfold maxLen at hcm; omega
    have hgrow : ∀ (W : World), W.os = w.os → W.tape = w.tape → W.output = w.output → W.heap.size = w.heap.size → (∀ k, k ≠ b → W.heap[k]? = w.heap[k]?) → w.grownBy W (Value.slice (some ⟨b, 0, none⟩) n c).ownBlock := fun W e1 e2 e3 e4 e5 =>
      ⟨e1, e2, e3, by omega, fun k _ hk => e5 k (fun e => hk (by rw [e]; rfl))⟩
    by_cases hend : p = n
    · subst hend
      refine (Any2.slices_Insert_int_end_room Tryz.laysNm221 b 0 p c vb 0 1 1 [.int .i64 (x : Int)] w (by omega) hroom hc63 rfl (fun j hj => ?_) (fun j hj => hbk.frozen _) hvs h1v).mono ?_
      · rw [hbk.cell, Array.getElem?_eq_getElem (by omega)]
        rfl
      · rintro e w' ⟨rfl, rfl⟩
        obtain ⟨cs', q1, q2, q3, q4, q5⟩ := blk13_setCells (t := 3) [.int .i64 (x : Int)] (0 + p) w cur hbk (by simp; omega)
        obtain ⟨e1, e2, e3, e4, e5⟩ := setCells13 b [.int .i64 (x : Int)] (0 + p) w
        refine ⟨_, _, rfl, own13_of q1 hbb hroom hcm (by omega) (by rw [ints_length, hyl]) (fun k hk => ?_), hgrow _ e1 e2 e3 e4 e5, fun r hr => .inl hr⟩
        rcases (show k < p ∨ k = p by omega) with hk | rfl
        · rw [q3 k (by omega), hcur k hk, ins13_low (by omega) hk]
        · rw [ins13_at (by omega)]
          simpa using q4 0 (by simp)
    · have hpn : p < n := by omega
      refine (Any2.slices_Insert_int_shift Tryz.laysNm221 b 0 n c p vb 0 1 1 (ints xs) [.int .i64 (x : Int)] w hpn (by omega) hroom hc63 hvb hcl rfl (fun j u hj => ?_) (fun j hj => ?_) (fun j hj => hbk.frozen _) hvs h1c h1v 3 3 1 cur.size ?_ ?_ (by omega) (hv.frozen _) (hv.frozen _)).mono ?_
      · have hjn : j < n := by
          have := (List.getElem?_eq_some_iff.1 hj).1
          omega
        rw [Nat.zero_add, hbk.cell, hcur j hjn, hj]
      · rw [Nat.zero_add, hbk.cell, Array.getElem?_eq_getElem (by omega)]
        rfl
      · unfold World.shape?
        rw [show w.heap[vb]? = _ from hv]
        rfl
      · unfold World.shape?
        rw [show w.heap[b]? = _ from hbk]
      · rintro e w' ⟨rfl, rfl⟩
        have hdl : ((ints xs).drop p).length = n - p := by rw [List.length_drop, hcl]
        obtain ⟨cs1, q1, q2, q3, q4, q5⟩ := blk13_setCells (t := 3) ((ints xs).drop p) (0 + (p + 1)) w.drew cur hbk (by omega)
        obtain ⟨e1, e2, e3, e4, e5⟩ := setCells13 b ((ints xs).drop p) (0 + (p + 1)) w.drew
        obtain ⟨cs2, r1, r2, r3, r4, r5⟩ := blk13_setCells (t := 3) [.int .i64 (x : Int)] (0 + p) _ cs1 q1 (by simp; omega)
        obtain ⟨f1, f2, f3, f4, f5⟩ := setCells13 b [.int .i64 (x : Int)] (0 + p) (w.drew.setCells b (0 + (p + 1)) ((ints xs).drop p))
        refine ⟨_, _, rfl, own13_of r1 hbb hroom hcm (by omega) (by rw [ints_length, hyl]) (fun k hk => ?_), hgrow _ (f1.trans e1) (f2.trans e2) (f3.trans e3) (f4.trans e4) (fun k hk => (f5 k hk).trans (e5 k hk)), fun r hr => .inl hr⟩
        rcases (show k < p ∨ k = p ∨ p < k by omega) with hkp | rfl | hkp
        · rw [r3 k (by omega), q3 k (by omega), hcur k (by omega), ins13_low (by omega) hkp]
        · rw [ins13_at (by omega)]
          simpa using r4 0 (by simp)
        · obtain ⟨j, rfl⟩ : ∃ j, k = p + 1 + j := ⟨k - p - 1, by omega⟩
          rw [r5 _ (by simp <;> omega), show p + 1 + j = 0 + (p + 1) + j by omega, q4 j (by omega), show 0 + (p + 1) + j = (p + j) + 1 by omega, ins13_high (by omega) (by omega), List.getElem?_drop]
  · -- no room: a new row
    have hnc : n ≤ c := by
      rcases ho.2 with ⟨h0, _⟩ | ⟨b, cap, cur, hvv, _, _, hnc, _⟩
      · injection h0 with _ h1 h2
        omega
      · injection hvv with _ _ hcc
        omega
    have hcap : n + 1 ≤ grownCap w (n + 1) c 3 := grownCap_ge _ _ _ _
    have hcapm : grownCap w (n + 1) c 3 ≤ maxLen := grownCap_le_maxLen _ _ _ _ (by unfold maxLen; omega)
    by_cases hend : p = n
    · subst hend
      refine (Any2.slices_Insert_int_end_grow Tryz.laysNm221 A p c vb 0 1 1 (ints xs) [.int .i64 (x : Int)] w (by omega) hnc (by omega) (by omega) hcl rfl (fun h => ?_) (fun a ha j u hj => ?_) hvs h1v).mono ?_
      · rcases ho.2 with ⟨h0, h1⟩ | ⟨b, cap, cur, hvv, _⟩
        · exact h1
        · injection hvv with hA
          rw [h] at hA
          cases hA
      · rcases ho.2 with ⟨h0, h1⟩ | ⟨b, cap, cur, hvv, _⟩
        · injection h0 with hA
          rw [ha] at hA
          cases hA
        · injection hvv with hA
          rw [ha] at hA
          injection hA with hA
          subst hA
          exact ho.cells (g := b) (by rw [ha]; rfl) j u hj
      · rintro e w' ⟨rfl, rfl⟩
        refine ⟨_, _, rfl, own13_of (Blk.new w.drew _ _) hbase hcap hcapm ?_ (by rw [ints_length, hyl]) (fun k hk => ?_), ⟨rfl, rfl, rfl, by simp, fun k hk _ => Below.heap_alloc w.drew _ k hk⟩, fun r hr => .inr (by cases hr; exact Nat.le_refl _)⟩
        · show ((ints xs ++ [Value.int .i64 (x : Int)]).toArray ++ Builtin.zeroCells (Value.int .i64 0).cells (grownCap w (p + 1) c 3 - (p + 1))).size = grownCap w (p + 1) c 3
          simp [size_zeroCells, hcl, Value.cells]
          omega
        · rw [Array.getElem?_append_left (by simp; omega)]
          rcases (show k < p ∨ k = p by omega) with hk2 | rfl
          · rw [ins13_low (by omega) hk2]
            simp only [List.getElem?_toArray]
            rw [List.getElem?_append_left (by omega)]
          · rw [ins13_at (by omega)]
            simp only [List.getElem?_toArray]
            rw [List.getElem?_append_right (by omega), hcl, Nat.sub_self]
            rfl
    · have hpn : p < n := by omega
      rcases ho.2 with ⟨h0, h1⟩ | ⟨b, cap, cur, hvv, hbb, hh, _, hcm, hcs, htk⟩
      · omega
      injection hvv with hA _ hcc
      subst hA hcc
      refine (Any2.slices_Insert_int_grow Tryz.laysNm221 b 0 n c p vb 0 1 1 (ints xs) [.int .i64 (x : Int)] w hpn (by omega) hnc (by omega) (by omega) hcl rfl (fun j u hj => ?_) hvs h1c h1v).mono ?_
      · have := ho.cells (g := b) rfl j u hj
        rw [Go.WideShapes.add_plain] at this
        exact this
      · rintro e w' ⟨rfl, hw⟩
        have hdl : ((ints xs).drop p).length = n - p := by rw [List.length_drop, hcl]
        generalize hcu : ((ints xs).take p).toArray ++ Builtin.zeroCells (Value.int .i64 0).cells (n + 1 - p) ++ Builtin.zeroCells (Value.int .i64 0).cells (grownCap w (n + 1) c 3 - (n + 1)) = cu
        have hcus : cu.size = grownCap w (n + 1) c 3 := by
          rw [← hcu]
          simp [size_zeroCells, hcl, Value.cells]
          omega
        have hculow : ∀ k, k < p → cu[k]? = (ints xs)[k]? := fun k hk => by
          rw [← hcu, Array.getElem?_append_left (by simp [hcl]; omega), Array.getElem?_append_left (by simp [hcl]; omega), List.getElem?_toArray, List.getElem?_take_of_lt hk]
        obtain rfl : w' = (((w.alloc (.cells cu 3)).drew.setCells w.heap.size p [.int .i64 (x : Int)]).drew).setCells w.heap.size (p + 1) ((ints xs).drop p) := by
          rw [hw, ← hcu]
          rfl
        clear hw
        have hb0 : Blk (w.alloc (.cells cu 3)).drew w.heap.size 3 cu := Blk.new w _ _
        obtain ⟨cs1, q1, q2, q3, q4, q5⟩ := blk13_setCells (t := 3) [.int .i64 (x : Int)] p _ cu hb0 (by simp; omega)
        obtain ⟨e1, e2, e3, e4, e5⟩ := setCells13 w.heap.size [.int .i64 (x : Int)] p (w.alloc (.cells cu 3)).drew
        have q1' : Blk ((w.alloc (.cells cu 3)).drew.setCells w.heap.size p [.int .i64 (x : Int)]).drew w.heap.size 3 cs1 := q1
        obtain ⟨cs2, r1, r2, r3, r4, r5⟩ := blk13_setCells (t := 3) ((ints xs).drop p) (p + 1) _ cs1 q1' (by omega)
        obtain ⟨f1, f2, f3, f4, f5⟩ := setCells13 w.heap.size ((ints xs).drop p) (p + 1) ((w.alloc (.cells cu 3)).drew.setCells w.heap.size p [.int .i64 (x : Int)]).drew
        refine ⟨_, _, rfl, own13_of r1 hbase hcap hcapm (by show cs2.size = grownCap w (n + 1) c 3; omega) (by rw [ints_length, hyl]) (fun k hk => ?_), ⟨f1.trans e1, f2.trans e2, f3.trans e3, ?_, fun k hk _ => ?_⟩, fun r hr => .inr (by cases hr; exact Nat.le_refl _)⟩
        · rcases (show k < p ∨ k = p ∨ p < k by omega) with hkp | rfl | hkp
          · rw [r3 k (by omega), q3 k (by omega), hculow k hkp, ins13_low (by omega) hkp]
          · rw [r3 k (by omega), ins13_at (by omega)]
            simpa using q4 0 (by simp)
          · obtain ⟨j, rfl⟩ : ∃ j, k = p + 1 + j := ⟨k - p - 1, by omega⟩
            rw [r4 j (by omega), show p + 1 + j = (p + j) + 1 by omega, ins13_high (by omega) (by omega), List.getElem?_drop]
        · have h1 : ((w.alloc (.cells cu 3)).drew.setCells w.heap.size p [.int .i64 (x : Int)]).drew.heap.size = w.heap.size + 1 := by
            rw [show ((w.alloc (.cells cu 3)).drew.setCells w.heap.size p [.int .i64 (x : Int)]).drew.heap.size = ((w.alloc (.cells cu 3)).drew.setCells w.heap.size p [.int .i64 (x : Int)]).heap.size from rfl, e4]
            simp [World.drew]
          omega
        · exact (f5 k (by omega)).trans ((e5 k (by omega)).trans (Below.heap_alloc w _ k hk))
end Go.Proofs.YtfoellhoaflofaaGreat
namespace Go.Proofs.YtfoellhoaflofaaGreat
open Go.RowKit
set_option maxRecDepth 100000
set_option maxHeartbeats 1000000 in
theorem within14 (i n : Int) (b : Bool) (hb : b = true ↔ 0 ≤ i ∧ i < n) (w : World) :
    Calls Tryz.prog 72 #[.int .i64 i, .int .i64 n] w fun e w' => e = .returned (.bool b) ∧ w' = w := by
  by_cases h0 : 0 ≤ i
  · by_cases h1 : i < n
    · obtain rfl : b = true := hb.2 ⟨h0, h1⟩
      clear hb
      go_enter Tryz.func72, Tryz.ntmps72
      go_wp2_with fail
      go_ret
      exact ⟨rfl, rfl⟩
    · obtain rfl : b = false := by
        cases b with
        | false => rfl
        | true => exact absurd (hb.1 rfl).2 h1
      clear hb
      go_enter Tryz.func72, Tryz.ntmps72
      go_wp2_with fail
      go_ret
      exact ⟨rfl, rfl⟩
  · obtain rfl : b = false := by
      cases b with
      | false => rfl
      | true => exact absurd (hb.1 rfl).1 h0
    clear hb
    go_enter Tryz.func72, Tryz.ntmps72
    go_wp2_with fail
    go_ret
    exact ⟨rfl, rfl⟩
theorem bool14f {y : Bool} (h : ¬ false = y) : y = true := by cases y <;> simp_all
theorem bool14t {y : Bool} (h : ¬ true = y) : y = false := by cases y <;> simp_all
theorem us14_nat {α : Type} [Inhabited α] (us : α → Bool) (xs : List α) (k : Nat) : us14 us xs (k : Int) = us (gt14 xs k) := by
  simp [us14]
theorem us14_neg {α : Type} [Inhabited α] (us : α → Bool) (xs : List α) {i : Int} (h : i < 0) : us14 us xs i = false := by
  have : ¬ 0 ≤ i := by omega
  simp [us14, this]
theorem us14_out {α : Type} [Inhabited α] {us : α → Bool} (hus : us default = false) {xs : List α} {i : Int} (h : (xs.length : Int) ≤ i) : us14 us xs i = false := by
  rw [us14, gt14_out (by omega), hus, Bool.and_false]
theorem us14_off {α : Type} [Inhabited α] {us : α → Bool} (hus : us default = false) {xs : List α} {i : Int} (h : ¬ (0 ≤ i ∧ i < (xs.length : Int))) : us14 us xs i = false := by
  by_cases h0 : 0 ≤ i
  · exact us14_out hus (by omega)
  · exact us14_neg us xs (by omega)
theorem at14_no {α : Type} [Inhabited α] {us : α → Bool} {xs : List α} {i : Int} (h : us14 us xs i = false) : at14 us xs i = default := by rw [at14, h]; rfl
theorem at14_yes {α : Type} [Inhabited α] {us : α → Bool} {xs : List α} {i : Int} (h : us14 us xs i = true) : at14 us xs i = gt14 xs i.toNat := by rw [at14, if_pos h]
theorem at14_nat {α : Type} [Inhabited α] {us : α → Bool} {xs : List α} {k : Nat} (h : us (gt14 xs k) = true) : at14 us xs (k : Int) = gt14 xs k := by rw [at14_yes (by rw [us14_nat]; exact h)]; simp
/-- May a list be: not too long, its last one used, and all that are not are zero? -/
def Tidy14 {α : Type} [Inhabited α] (us : α → Bool) (xs : List α) (most : Nat) : Prop := xs.length ≤ most ∧ en14 us xs xs.length = xs.length ∧ ∀ j, j < xs.length → us (gt14 xs j) = false → gt14 xs j = default
/-- The cells of a list that is put: a row of cells, each element at its place. -/
def Row14 {α : Type} [Inhabited α] (cl : α → List Value) (k : Nat) (cs : Array Value) (M : Nat) (h : Nat → α) : Prop := cs.size = M * k ∧ ∀ j i, j < M → i < k → cs[j * k + i]? = (cl (h j))[i]?
theorem Row14.lq {α : Type} [Inhabited α] {cl : α → List Value} {k : Nat} (hk : ∀ x, (cl x).length = k) (h0 : 0 < k) {cs : Array Value} {M : Nat} {xs : List α} {w : World} {g : Nat} {t : TypeId} (h : Row14 cl k cs M (gt14 xs)) (hl : xs.length = M) (hb : Blk w g t cs) : Lq cl w w.heap.size (some ⟨g, 0, none⟩) xs := by
  intro _
  refine ⟨g, 0, rfl, hb.lt, fun i v hv => ?_⟩
  have hi : i < M * k := by
    have := (List.getElem?_eq_some_iff.1 hv).1
    rwa [fl14_len hk, hl] at this
  have hm : i % k < k := Nat.mod_lt _ h0
  have hd : i / k < M := Nat.div_lt_of_lt_mul (by rw [Nat.mul_comm]; exact hi)
  have he : i / k * k + i % k = i := by rw [Nat.mul_comm]; exact Nat.div_add_mod i k
  rw [Nat.zero_add, hb.cell]
  have h1 := h.2 (i / k) (i % k) hd hm
  rw [he] at h1
  rw [h1, ← fl14_get hk (xs := xs) (by omega) hm, he]
  exact hv
theorem Row14.put {α : Type} [Inhabited α] {cl : α → List Value} {k : Nat} (hk : ∀ x, (cl x).length = k) {cs : Array Value} {M : Nat} {xs : List α} {w : World} {g p : Nat} {t : TypeId} {x : α} (h : Row14 cl k cs M (gt14 xs)) (hM : M = max xs.length (p + 1)) (hb : Blk w g t cs) :
    ∃ cs', Blk (w.setCells g (p * k) (cl x)) g t cs' ∧ Row14 cl k cs' M (gt14 (put14 xs p x)) := by
  have hpM : (p + 1) * k ≤ M * k := Nat.mul_le_mul_right k (by omega)
  rw [Nat.succ_mul] at hpM
  obtain ⟨cs', h1, h2, h3, h4, h5⟩ := blk13_setCells (cl x) (p * k) w cs hb (by rw [hk, h.1]; exact hpM)
  refine ⟨cs', h1, by rw [h2, h.1], fun j i hj hi => ?_⟩
  rw [put14_gt (by omega)]
  rcases Nat.lt_trichotomy j p with e | e | e
  · rw [if_neg (by omega), h3 _ (by have := Nat.mul_le_mul_right k (show j + 1 ≤ p by omega); rw [Nat.succ_mul] at this; omega)]
    exact h.2 j i hj hi
  · subst e
    rw [if_pos rfl, h4 i (by rw [hk]; exact hi)]
  · rw [if_neg (by omega), h5 _ (by rw [hk]; have := Nat.mul_le_mul_right k (show p + 1 ≤ j by omega); rw [Nat.succ_mul] at this; omega)]
    exact h.2 j i hj hi
/-- A new row whose first cells are copied. -/
theorem Row14.copied {α : Type} [Inhabited α] {cl : α → List Value} {k : Nat} (hk : ∀ x, (cl x).length = k) {M : Nat} {xs : List α} {cur : Array Value} (hs : cur.size = M * k) (hz : ∀ j i, j < M → i < k → cur[j * k + i]? = (cl default)[i]?) (hl : xs.length ≤ M) :
    Row14 cl k (fl14 cl xs ++ cur.toList.drop (xs.length * k)).toArray M (gt14 xs) := by
  have hle := Nat.mul_le_mul_right k hl
  refine ⟨by simp [fl14_len hk, hs]; omega, fun j i hj hi => ?_⟩
  rw [List.getElem?_toArray]
  rcases Nat.lt_or_ge j xs.length with h | h
  · have := Nat.mul_le_mul_right k (show j + 1 ≤ xs.length by omega)
    rw [Nat.succ_mul] at this
    rw [List.getElem?_append_left (by rw [fl14_len hk]; omega), fl14_get hk h hi]
  · have := Nat.mul_le_mul_right k h
    rw [List.getElem?_append_right (by rw [fl14_len hk]; omega), fl14_len hk, List.getElem?_drop, show xs.length * k + (j * k + i - xs.length * k) = j * k + i by omega, Array.getElem?_toList, hz j i hj hi, gt14_out h]
theorem made14 {z : Array Value} {k M j i : Nat} (hz : z.size = k) (hj : j < M) (hi : i < k) : (madeCells z (M * k))[j * k + i]? = z[i]? := by
  have h1 := Nat.mul_le_mul_right k (show j + 1 ≤ M by omega)
  rw [Nat.succ_mul] at h1
  have h2 : (j * k + i) % k = i := by rw [Nat.add_comm, Nat.add_mul_mod_self_right, Nat.mod_eq_of_lt hi]
  rw [Array.getElem?_eq_getElem (by rw [size_madeCells]; omega), Array.getElem?_eq_getElem (by omega)]
  simp [madeCells, hz, h2, hi]
/-- A list is copied into a new row. -/
theorem copied14 {α : Type} [Inhabited α] {P : Program} {cl : α → List Value} {k : Nat} (hk : ∀ x, (cl x).length = k) (h1 : ∀ x, ∀ v ∈ cl x, v.oneCell' = true) (h0 : 0 < k) (w : World) (t e : TypeId) (z : Value) (bt : Nat) (ht : P.underlying t = some (.slice e))
    (hinfo : (P.info? e).map (fun i => (i.zero, i.size, i.bytes)) = some (some z, k, bt)) (zc : Array Value) (hzc : zc.size = k) (hz : ∀ i, i < k → zc[i]? = (cl default)[i]?) (M : Nat) (A : Option Addr) (xs : List α) (n c : Nat) (hl : xs.length = n) (hn : n ≤ M) (hr : Lq cl w w.heap.size A xs) :
    ∃ w' cs, (∀ ty, (Builtin.copy_ #[t, t] ty #[.slice (some ⟨w.heap.size, 0, none⟩) M M, .slice A n c]).run P (w.alloc (.cells (madeCells zc (M * k)) e)) = .ok (goInt n) w') ∧ Blk w' w.heap.size e cs ∧ Row14 cl k cs M (gt14 xs) ∧
      Below w.heap.size w w' ∧ w'.heap.size = w.heap.size + 1 := by
  have hg := Blk.new w e (madeCells zc (M * k))
  obtain ⟨w', hrun, hw'⟩ := run_copy_14 (P := P) (w.alloc (.cells (madeCells zc (M * k)) e)) t e z k bt ht hinfo w.heap.size M M _ hg (size_madeCells _ _) h0 w.heap.size A (fl14 cl xs) n c (by rw [fl14_len hk, hl]) hn (Rv.below hr (b1' w _) (Nat.le_refl _)) (fl14_one h1 xs)
  have hR := Row14.copied (cl := cl) hk (M := M) (xs := xs) (cur := madeCells zc (M * k)) (size_madeCells _ _) (fun j i hj hi => by rw [made14 hzc hj hi]; exact hz i hi) (by omega)
  rw [hl] at hR
  refine ⟨w', _, hrun, ?_, hR, ?_, ?_⟩
  · rw [hw']
    exact setRow_heap _ _ _ _ _ _ hg
  · rw [hw']
    exact below_setRow (b1' w _) (Nat.le_refl _) _
  · rw [hw']
    simp
theorem setCells_below14 {w : World} {B g : Nat} (h : B ≤ g) : ∀ (vs : List Value) (o : Nat) (W : World), Below B w W → Below B w (W.setCells g o vs)
  | [], _, _, hb => hb
  | v :: r, o, W, hb => by
    rw [World.setCells]
    exact setCells_below14 h r (o + 1) _ (hb.setCell (p := ⟨g, o, none⟩) h v)
end Go.Proofs.YtfoellhoaflofaaGreat
namespace Go.Proofs.YtfoellhoaflofaaGreat
open Go.RowKit
set_option maxRecDepth 100000
theorem def14C : usC default = false := rfl
set_option maxHeartbeats 4000000 in
theorem at14C_no (A : Option Addr) (xs : List Bool) (n c : Nat) (i : Int) (w : World) (hl : xs.length = n) (hr : Lq clC w w.heap.size A xs) (hn : n ≤ 1000000) (hu : us14 usC xs i = false) :
    Calls Tryz.prog 80 #[.slice A n c, .int .i64 i, .func (.func 64) #[] #[]] w fun e w' => e = .returned (.tuple #[.bool false, .bool false]) ∧ Below w.heap.size w w' := by
  by_cases h : 0 ≤ i ∧ i < (n : Int)
  · obtain ⟨k, rfl⟩ : ∃ k : Nat, i = (k : Int) := ⟨i.toNat, by omega⟩
    have hk : k < n := by omega
    obtain ⟨b, o, hA, hab, hq⟩ := Lq.at_ len14C (by omega) hr (show k < xs.length by omega)
    subst hA
    rw [us14_nat] at hu
    rw [show gt14 xs k = false from hu] at hq
    have q0 : w.cell? ⟨b, o + k, none⟩ = some (.bool false) := by have h := hq 0 _ rfl; rwa [Nat.mul_one] at h
    have i0 : (0 : Int) ≤ (k : Int) := by omega
    have i1 : (k : Int) < (n : Int) := by omega
    have HW := Lib.hid (fun W => within14 (k : Int) (n : Int) true (by simp; omega) W)
    have HU := Lib.hid (fun W => used14C false false rfl W)
    clear hq hu hr hl h
    go_enter Tryz.func80, Tryz.ntmps80
    go_wp2_with fail
    refine (HW.out _).mono ?_
    rintro e w0 ⟨rfl, rfl⟩
    clear HW
    go_wp2_with fail
    refine (HU.out _).mono ?_
    rintro e w1 ⟨rfl, hb1⟩
    clear HU
    go_wp2_with fail
    go_ret2
    exact ⟨rfl, hb1⟩
  · have HW := Lib.hid (fun W => within14 i (n : Int) false (by simpa using h) W)
    clear hu hr hl h
    go_enter Tryz.func80, Tryz.ntmps80
    go_wp2_with fail
    refine (HW.out _).mono ?_
    rintro e w0 ⟨rfl, rfl⟩
    clear HW
    go_wp2_with fail
    go_ret2
    exact ⟨rfl, Below.refl _ _⟩
set_option maxHeartbeats 4000000 in
theorem at14C_yes (A : Option Addr) (xs : List Bool) (n c k : Nat) (xu : Bool) (w : World) (hl : xs.length = n) (hr : Lq clC w w.heap.size A xs) (hn : n ≤ 1000000) (hk : k < n) (hx : gt14 xs k = xu) (hu : usC xu = true) :
    Calls Tryz.prog 80 #[.slice A n c, .int .i64 (k : Int), .func (.func 64) #[] #[]] w fun e w' => e = .returned (.tuple #[.bool xu, .bool true]) ∧ Below w.heap.size w w' := by
  obtain ⟨b, o, hA, hab, hq⟩ := Lq.at_ len14C (by omega) hr (show k < xs.length by omega)
  subst hA
  rw [hx] at hq
  have HQ : Hid (w.cell? ⟨b, o + k, none⟩ = some (.bool xu)) := Lib.hid (by have h := hq 0 _ rfl; rwa [Nat.mul_one] at h)
  have HAB := Lib.hid hab
  have q0 := HQ.out
  have i0 : (0 : Int) ≤ (k : Int) := by omega
  have i1 : (k : Int) < (n : Int) := by omega
  have HW := Lib.hid (fun W => within14 (k : Int) (n : Int) true (by simp; omega) W)
  have HU := Lib.hid (fun W => used14C xu true hu W)
  clear hq hx hu hr hl hab
  go_enter Tryz.func80, Tryz.ntmps80
  go_wp2_with fail
  refine (HW.out _).mono ?_
  rintro e w0 ⟨rfl, rfl⟩
  clear HW
  go_wp2_with fail
  refine (HU.out _).mono ?_
  rintro e w1 ⟨rfl, hb1⟩
  have q1 := (hb1.cell (p := ⟨b, o + k, none⟩) HAB.out).trans HQ.out
  clear HU q0
  go_wp2_with fail
  go_ret2
  exact ⟨rfl, hb1⟩
set_option maxHeartbeats 4000000 in
theorem tid14C (xu : Bool) (gu gz : Nat) (w : World) (hu : w.cell? ⟨gu, 0, none⟩ = some (.func (.func 64) #[] #[])) (z0 : w.cell? ⟨gz, 0, none⟩ = some (.bool false)) (b : Bool) (hb : b = (!usC xu && !decide ((xu : Bool) = default))) :
    Calls Tryz.prog 107 #[.bool xu, .pointer (some ⟨gu, 0, none⟩), .pointer (some ⟨gz, 0, none⟩)] w fun e w' => e = .returned (.bool b) ∧ Below w.heap.size w w' := by
  have hb1 := Below.refl w.heap.size w
  obtain ⟨w1, hw1⟩ : ∃ W, w = W := ⟨_, rfl⟩
  subst hw1
  have u0 := hu
  have HB1 := Lib.hid hb1
  have HGZ := Lib.hid (World.block_lt_of_cell? w _ z0)
  have HZ0 := Lib.hid z0
  obtain ⟨bu, hbu⟩ : ∃ y, usC xu = y := ⟨_, rfl⟩
  have HU := Lib.hid (fun W => used14C xu bu hbu W)
  rw [hbu] at hb
  obtain rfl : xu = bu := hbu
  clear hu hb1 z0
  cases xu with
  | true =>
    obtain rfl : b = false := by rw [hb]; rfl
    clear hb
    go_enter Tryz.func107, Tryz.ntmps107
    go_wp2_with fail
    refine (HU.out _).mono ?_
    rintro e w2 ⟨rfl, hb2⟩
    have HB2 := Lib.hid (HB1.out.trans (hb2.mono HB1.out.size))
    clear HU hb2
    go_wp2_with fail
    go_ret
    exact ⟨rfl, HB2.out⟩
  | false =>
    obtain rfl : b = false := by rw [hb]; rfl
    clear hb
    go_enter Tryz.func107, Tryz.ntmps107
    go_wp2_with fail
    refine (HU.out _).mono ?_
    rintro e w2 ⟨rfl, hb2⟩
    have HB2 := Lib.hid (HB1.out.trans (hb2.mono HB1.out.size))
    have y0 := ((HB1.out.trans (hb2.mono HB1.out.size)).cell (p := ⟨gz, 0, none⟩) HGZ.out).trans HZ0.out

    clear HU hb2
    go_wp2_with fail
    go_ret
    exact ⟨rfl, HB2.out⟩
set_option maxHeartbeats 4000000 in
theorem idx14Ct (A : Option Addr) (xs : List Bool) (n c : Nat) (gu gz : Nat) (w : World) (hl : xs.length = n) (hr : Lq clC w w.heap.size A xs) (hn : n ≤ 1000000) (p : Bool → Bool)
    (hcl : ∀ W, Below w.heap.size w W → ∀ (xu : Bool), Calls Tryz.prog 107 #[.bool xu, .pointer (some ⟨gu, 0, none⟩), .pointer (some ⟨gz, 0, none⟩)] W fun e w' => e = .returned (.bool (p xu)) ∧ Below W.heap.size W w')
    (b : Bool) (hb : b = true ↔ ∃ j, j < n ∧ p (gt14 xs j) = true) :
    Calls Tryz.prog 123 #[.slice A n c, .func (.func 107) #[] #[.pointer (some ⟨gu, 0, none⟩), .pointer (some ⟨gz, 0, none⟩)]] w fun e w' => ∃ r : Int, e = .returned (.int .i64 r) ∧ (b = true → 0 ≤ r) ∧ (b = false → r = -1) ∧ Below w.heap.size w w' := by
  have HL := Lib.hid hl
  have HR := Lib.hid hr
  have HC := Lib.hid hcl
  have HB := Lib.hid hb
  clear hl hr hcl hb
  go_enter Tryz.func123, Tryz.ntmps123
  go_wp2_with fail
  go_loopw [8] (fun i wr => ∃ k : Nat, i = .int .i64 (k : Int) ∧ k ≤ n ∧ Hid (∀ j, j < k → p (gt14 xs j) = false) ∧ Hid (Below w.heap.size w wr)) (fun i _ => n - (intOf i).toNat)
  case atStart => exact ⟨0, rfl, by omega, Lib.hid (fun j h => by omega), Lib.hid (Below.refl _ _)⟩
  case round =>
    obtain ⟨k, rfl, hk, HN, HG⟩ := hrel
    by_cases hkn : k < n
    · obtain ⟨g, o, hA, hab, hq⟩ := Lq.at_ len14C (by omega) (Lq.below HR.out HG.out (Nat.le_refl _)) (show k < xs.length by have := HL.out; omega)
      subst hA
      obtain ⟨x, hx⟩ : ∃ x, gt14 xs k = x := ⟨_, rfl⟩
      rw [hx] at hq
      obtain ⟨bp, hbp⟩ : ∃ y, p x = y := ⟨_, rfl⟩
      have HX : Hid (p (gt14 xs k) = bp) := Lib.hid (by rw [hx]; exact hbp)
      obtain ⟨xu, hxe⟩ : ∃ z0, z0 = x := ⟨_, rfl⟩; subst hxe
      have q0 : wr.cell? ⟨g, o + k, none⟩ = some (.bool xu) := by have h := hq 0 _ rfl; rwa [Nat.mul_one] at h
      have i0 : (0 : Int) ≤ (k : Int) := by omega
      have i1 : (k : Int) < (n : Int) := by omega
      have hc := HC.out _ HG.out xu
      rw [hbp] at hc
      have HCK := Lib.hid hc
      clear hq hx hbp hc
      cases bp with
      | true =>
        have HBT : Hid (b = true) := Lib.hid (HB.out.2 ⟨k, hkn, HX.out⟩)
        go_wp2_with fail
        refine HCK.out.mono ?_
        rintro e w1 ⟨rfl, hb1⟩
        have HG1 := Lib.hid (HG.out.trans (hb1.mono HG.out.size))
        clear HCK hb1
        go_wp2_with fail
        go_ret
        exact ⟨(k : Int), rfl, fun _ => by omega, fun h => (by rw [HBT.out] at h; cases h), HG1.out⟩
      | false =>
        go_wp2_with fail
        refine HCK.out.mono ?_
        rintro e w1 ⟨rfl, hb1⟩
        have HG1 := Lib.hid (HG.out.trans (hb1.mono HG.out.size))
        clear HCK hb1
        go_wp2_with fail
        go_roundw
        case rel => exact ⟨k + 1, by go_num, by omega, Lib.hid (fun j hj => by
          rcases (show j < k ∨ j = k by omega) with h5 | h5
          · exact HN.out j h5
          · rw [h5]; exact HX.out), HG1⟩
        case measure => simp [intOf]; omega
    · have HBF : Hid (b = false) := Lib.hid (by
        cases hbb : b with
        | false => rfl
        | true =>
          obtain ⟨j, h1, h2⟩ := HB.out.1 hbb
          rw [HN.out j (by omega)] at h2
          cases h2)
      go_wp2_with fail
      go_ret
      exact ⟨-1, rfl, fun h => (by rw [HBF.out] at h; cases h), fun _ => rfl, HG.out⟩
set_option maxHeartbeats 2000000 in
theorem cont14Ct (A : Option Addr) (xs : List Bool) (n c : Nat) (gu gz : Nat) (w : World) (hl : xs.length = n) (hr : Lq clC w w.heap.size A xs) (hn : n ≤ 1000000) (p : Bool → Bool)
    (hcl : ∀ W, Below w.heap.size w W → ∀ (xu : Bool), Calls Tryz.prog 107 #[.bool xu, .pointer (some ⟨gu, 0, none⟩), .pointer (some ⟨gz, 0, none⟩)] W fun e w' => e = .returned (.bool (p xu)) ∧ Below W.heap.size W w')
    (b : Bool) (hb : b = true ↔ ∃ j, j < n ∧ p (gt14 xs j) = true) :
    Calls Tryz.prog 106 #[.slice A n c, .func (.func 107) #[] #[.pointer (some ⟨gu, 0, none⟩), .pointer (some ⟨gz, 0, none⟩)]] w fun e w' => e = .returned (.bool b) ∧ Below w.heap.size w w' := by
  have HI := Lib.hid (idx14Ct A xs n c gu gz w hl hr hn p hcl b hb)
  clear hl hr hcl hb
  go_enter Tryz.func106, Tryz.ntmps106
  go_wp2_with fail
  refine HI.out.mono ?_
  rintro e w1 ⟨r, rfl, h1, h2, hb1⟩
  clear HI
  cases b with
  | true =>
    have hr0 := h1 rfl
    clear h1 h2
    go_wp2_with fail
    go_ret
    exact ⟨rfl, hb1⟩
  | false =>
    obtain rfl := h2 rfl
    clear h1 h2
    go_wp2_with fail
    go_ret
    exact ⟨rfl, hb1⟩
set_option maxHeartbeats 4000000 in
theorem equal14C (A B : Option Addr) (xs ys : List Bool) (n c m d : Nat) (w : World) (hl : xs.length = n) (hr : Lq clC w w.heap.size A xs) (hn : n ≤ 1000000) (hm : ys.length = m) (hs : Lq clC w w.heap.size B ys) (hmn : m ≤ 1000000)
    (b : Bool) (hb : b = true ↔ xs = ys) :
    Calls Tryz.prog 53 #[.slice A n c, .slice B m d] w fun e w' => e = .returned (.bool b) ∧ Below w.heap.size w w' := by
  have HB := Lib.hid hb
  have HL := Lib.hid hl
  have HM := Lib.hid hm
  have HR := Lib.hid hr
  have HS := Lib.hid hs
  clear hb hl hm hr hs
  by_cases hnm : n = m
  · subst hnm
    go_enter Tryz.func53, Tryz.ntmps53
    go_wp2_with fail
    go_loopw [13] (fun i wr => ∃ k : Nat, i = .int .i64 (k : Int) ∧ k ≤ n ∧ Hid (∀ j, j < k → gt14 xs j = gt14 ys j) ∧ Hid (Below w.heap.size w wr)) (fun i _ => n - (intOf i).toNat)
    case atStart => exact ⟨0, rfl, by omega, Lib.hid (fun j h => by omega), Lib.hid (Below.refl _ _)⟩
    case round =>
      obtain ⟨k, rfl, hk, HE, HG⟩ := hrel
      by_cases hkn : k < n
      · obtain ⟨g, o, hA, hag, hq⟩ := Lq.at_ len14C (by omega) (Lq.below HR.out HG.out (Nat.le_refl _)) (show k < xs.length by have := HL.out; omega)
        subst hA
        obtain ⟨g2, o2, hB, hbg, hq2⟩ := Lq.at_ len14C (by omega) (Lq.below HS.out HG.out (Nat.le_refl _)) (show k < ys.length by have := HM.out; omega)
        subst hB
        obtain ⟨x, hx⟩ : ∃ x, gt14 xs k = x := ⟨_, rfl⟩
        obtain ⟨y, hy⟩ : ∃ y, gt14 ys k = y := ⟨_, rfl⟩
        rw [hx] at hq
        rw [hy] at hq2
        have HX := Lib.hid hx
        have HY := Lib.hid hy
        obtain ⟨xu, hxe⟩ : ∃ z0, z0 = x := ⟨_, rfl⟩; subst hxe
        obtain ⟨yu, hxe⟩ : ∃ z0, z0 = y := ⟨_, rfl⟩; subst hxe
        have i0 : (0 : Int) ≤ (k : Int) := by omega
        have i1 : (k : Int) < (n : Int) := by omega
        have q0 : wr.cell? ⟨g, o + k, none⟩ = some (.bool xu) := by have h := hq 0 _ rfl; rwa [Nat.mul_one] at h
        have p0 : wr.cell? ⟨g2, o2 + k, none⟩ = some (.bool yu) := by have h := hq2 0 _ rfl; rwa [Nat.mul_one] at h
        clear hq hq2 hx hy
        by_cases he : (xu : Bool) = yu
        · have HE2 : Hid (∀ j, j < k + 1 → gt14 xs j = gt14 ys j) := Lib.hid (fun j hj => by
            rcases (show j < k ∨ j = k by omega) with h | rfl
            · exact HE.out j h
            · rw [HX.out, HY.out, he])
          cases xu with
          | false =>
            obtain rfl : yu = false := he.symm
            clear he
            go_wp2_with fail
            go_region
            go_wp2_with fail
            go_roundw
            case rel => exact ⟨k + 1, by go_num, by omega, HE2, Lib.hid (by have := HG.out; exact this.drew)⟩
            case measure => simp [intOf]; omega
          | true =>
            obtain rfl : yu = true := he.symm
            clear he
            go_wp2_with fail
            go_region
            go_wp2_with fail
            go_roundw
            case rel => exact ⟨k + 1, by go_num, by omega, HE2, Lib.hid (by have := HG.out; exact this.drew)⟩
            case measure => simp [intOf]; omega
        · have HF : Hid (b = false) := Lib.hid (by
            cases hbb : b with
            | false => rfl
            | true =>
              have h := HB.out.1 hbb
              rw [h, HY.out] at HX
              exact absurd HX.out.symm he)
          cases xu with
          | false =>
            obtain rfl : yu = true := bool14f he
            clear he
            go_wp2_with fail
            go_region
            go_wp2_with fail
            go_ret
            exact ⟨by rw [HF.out]; rfl, by have := HG.out; exact this.drew⟩
          | true =>
            obtain rfl : yu = false := bool14t he
            clear he
            go_wp2_with fail
            go_region
            go_wp2_with fail
            go_ret
            exact ⟨by rw [HF.out]; rfl, by have := HG.out; exact this.drew⟩
      · have HT : Hid (b = true) := Lib.hid (HB.out.2 (ext14 (by rw [HL.out, HM.out]) (fun j hj => HE.out j (by have := HL.out; omega))))
        go_wp2_with fail
        go_ret
        exact ⟨by rw [HT.out]; rfl, HG.out⟩
  · have HF : Hid (b = false) := Lib.hid (by
      cases hbb : b with
      | false => rfl
      | true =>
        have h := HB.out.1 hbb
        exact absurd (by rw [← HL.out, ← HM.out, h]) hnm)
    have hnm2 : ¬ (n : Int) = (m : Int) := by omega
    clear hnm
    go_enter Tryz.func53, Tryz.ntmps53
    go_wp2_with fail
    go_ret
    exact ⟨by rw [HF.out]; rfl, Below.refl _ _⟩
end Go.Proofs.YtfoellhoaflofaaGreat
namespace Go.Proofs.YtfoellhoaflofaaGreat
open Go.RowKit
set_option maxRecDepth 100000
set_option maxHeartbeats 4000000 in
theorem tidy14C (A : Option Addr) (xs : List Bool) (n c most : Nat) (w : World) (hl : xs.length = n) (hr : Lq clC w w.heap.size A xs) (hn : n ≤ 1000000) (b : Bool) (hb : b = true ↔ Tidy14 usC xs most) :
    Calls Tryz.prog 85 #[.slice A n c, .int .i64 (most : Int), .func (.func 64) #[] #[]] w fun e w' => e = .returned (.bool b) ∧ Below w.heap.size w w' := by
  have hb1 := b1' w (.cells #[.func (.func 64) #[] #[]] 77)
  have hk1 := Blk.new w 77 #[.func (.func 64) #[] #[]]
  have hr1 := hr.step hb1
  obtain ⟨w1, hw1⟩ : ∃ W, w.alloc (.cells #[.func (.func 64) #[] #[]] 77) = W := ⟨_, rfl⟩
  rw [hw1] at hb1 hk1 hr1
  have u1 := hk1.cell 0
  have HE := Lib.hid (end14C A xs n c w1 hl hr1 hn)
  have HK1 := Lib.hid hk1
  have HR1 := Lib.hid hr1
  have HB1 := Lib.hid hb1
  have HL := Lib.hid hl
  have HB := Lib.hid hb
  have HW1 := Lib.hid hw1
  have hmf : ∀ (fn : Fn) (first cap : Array Value) (w : World), (Instr.makeFunc fn first cap).run Tryz.prog w = .ok (.func fn first cap) w := fun _ _ _ _ => rfl
  clear hb1 hk1 hr1 hr hl hb
  by_cases hm : n ≤ most
  · obtain ⟨m, hme⟩ : ∃ m, en14 usC xs n = m := ⟨_, rfl⟩
    have hmn : m ≤ n := by rw [← hme]; exact en14_le _ _ _
    rw [hme] at HE
    have HME := Lib.hid hme
    have h1 : ¬ (most : Int) < (n : Int) := by omega
    clear hme
    by_cases hlt : m < n
    · have HF : Hid (b = false) := Lib.hid (by
        cases hbb : b with
        | false => rfl
        | true =>
          have h := (HB.out.1 hbb).2.1
          rw [HL.out, HME.out] at h
          omega)
      have h2 : (m : Int) < (n : Int) := by omega
      go_enter Tryz.func85, Tryz.ntmps85
      go_wp2_with fail
      refine HE.out.mono ?_
      rintro e w2 ⟨rfl, hb2⟩
      have HB2 := Lib.hid (HB1.out.trans (hb2.mono HB1.out.size))
      clear HE hb2
      go_wp2_with fail
      go_ret
      exact ⟨by rw [HF.out]; rfl, HB2.out⟩
    · obtain rfl : m = n := by omega
      have h2 : ¬ (m : Int) < (m : Int) := by omega
      go_enter Tryz.func85, Tryz.ntmps85
      go_wp2_with fail
      refine HE.out.mono ?_
      rintro e w2 ⟨rfl, hb2⟩
      have HB2 := Lib.hid (HB1.out.trans (hb2.mono HB1.out.size))
      have hb3 := b1' w2 (.cells #[.bool false] 4)
      have hk3 := Blk.new w2 4 #[.bool false]
      obtain ⟨w3, hw3⟩ : ∃ W, w2.alloc (.cells #[.bool false] 4) = W := ⟨_, rfl⟩
      rw [hw3] at hb3 hk3
      have hb13 := hb2.trans (hb3.mono hb2.size)
      have hr3 := HR1.out.step hb13
      have hu3 := (HK1.out.below hb13 HK1.out.lt).cell 0
      have HB3 := Lib.hid (HB1.out.trans (hb13.mono HB1.out.size))
      have HC := Lib.hid (cont14Ct A xs m c w.heap.size w2.heap.size w3 HL.out hr3 hn (fun x => !usC x && !decide (x = default))
        (fun W hW xu => tid14C xu w.heap.size w2.heap.size W ((hW.cell (p := ⟨w.heap.size, 0, none⟩) (World.block_lt_of_cell? w3 _ hu3)).trans hu3) ((hW.cell (p := ⟨w2.heap.size, 0, none⟩) hk3.lt).trans (hk3.cell 0)) _ rfl)
        (!b) (by
          rw [Bool.not_eq_true', ← Bool.not_eq_true, HB.out]
          unfold Tidy14
          rw [HL.out, HME.out]
          constructor
          · intro h
            refine Classical.byContradiction (fun h5 => h ⟨hm, rfl, fun j hj hu => Classical.byContradiction (fun h6 => h5 ⟨j, hj, ?_⟩)⟩)
            show (!usC (gt14 xs j) && !decide (gt14 xs j = default)) = true
            rw [hu, decide_eq_false h6]
            rfl
          · rintro ⟨j, hj, hp⟩ ⟨_, _, h⟩
            simp only [Bool.and_eq_true, Bool.not_eq_true', decide_eq_false_iff_not] at hp
            exact hp.2 (h j hj hp.1)))
      obtain ⟨bn, hbn⟩ : ∃ y, (!b) = y := ⟨_, rfl⟩
      rw [hbn] at HC
      have HBN : Hid (b = !bn) := Lib.hid (by rw [← hbn]; simp)
      clear HE hb2 hb3 hb13 hr3 hu3 hk3 hbn
      go_wp2_with fail
      refine HC.out.mono ?_
      rintro e w4 ⟨rfl, hb4⟩
      have HB4 := Lib.hid (HB3.out.trans (hb4.mono HB3.out.size))
      clear HC hb4
      go_wp2_with fail
      go_ret
      exact ⟨by rw [HBN.out]; rfl, HB4.out⟩
  · have HF : Hid (b = false) := Lib.hid (by
      cases hbb : b with
      | false => rfl
      | true =>
        have h := (HB.out.1 hbb).1
        rw [HL.out] at h
        exact absurd h hm)
    have h1 : (most : Int) < (n : Int) := by omega
    clear HE
    go_enter Tryz.func85, Tryz.ntmps85
    go_wp2_with fail
    go_ret
    exact ⟨by rw [HF.out]; rfl, HB1.out⟩
set_option maxHeartbeats 4000000 in
theorem free14C (A : Option Addr) (xs : List Bool) (n c most : Nat) (r : Int) (w : World) (hl : xs.length = n) (hr : Lq clC w w.heap.size A xs) (hn : n ≤ 1000000) (hm : most ≤ 1000) (hf : Free14 usC xs most r) :
    Calls Tryz.prog 81 #[.slice A n c, .int .i64 (most : Int), .func (.func 64) #[] #[]] w fun e w' => e = .returned (.int .i64 r) ∧ Below w.heap.size w w' := by
  have HL := Lib.hid hl
  have HR := Lib.hid hr
  have HF := Lib.hid hf
  clear hl hr hf
  go_enter Tryz.func81, Tryz.ntmps81
  go_wp2_with fail
  go_loopw [11] (fun i wr => ∃ k : Nat, i = .int .i64 (k : Int) ∧ k ≤ most ∧ Hid (∀ j, j < k → usC (gt14 xs j) = true) ∧ Hid (Below w.heap.size w wr)) (fun i _ => most - (intOf i).toNat)
  case atStart => exact ⟨0, rfl, by omega, Lib.hid (fun j h => by omega), Lib.hid (Below.refl _ _)⟩
  case round =>
    obtain ⟨k, rfl, hk, HN, HG⟩ := hrel
    by_cases hkn : k < most
    · have i0 : (0 : Int) ≤ (k : Int) := by omega
      have i1 : (k : Int) < (most : Int) := by omega
      cases hu : usC (gt14 xs k) with
      | true =>
        have hkl : k < n := by
          refine Classical.byContradiction (fun h => ?_)
          rw [gt14_out (by have := HL.out; omega), def14C] at hu
          cases hu
        obtain ⟨x, hx⟩ : ∃ x, gt14 xs k = x := ⟨_, rfl⟩
        have hu' := hu
        rw [hx] at hu'
        obtain ⟨xu, hxe⟩ : ∃ z0, z0 = x := ⟨_, rfl⟩; subst hxe
        have HA := Lib.hid (at14C_yes A xs n c k xu wr HL.out (HR.out.step HG.out) hn hkl hx hu')
        have HN2 : Hid (∀ j, j < k + 1 → usC (gt14 xs j) = true) := Lib.hid (fun j hj => by
          rcases (show j < k ∨ j = k by omega) with h5 | h5
          · exact HN.out j h5
          · rw [h5]; exact hu)
        clear hu hx hu'
        go_wp2_with fail
        refine HA.out.mono ?_
        rintro e w1 ⟨rfl, hb1⟩
        have HG1 := Lib.hid (HG.out.trans (hb1.mono HG.out.size))
        clear HA hb1
        go_wp2_with fail
        go_roundw
        case rel => exact ⟨k + 1, by go_num, by omega, HN2, HG1⟩
        case measure => simp [intOf]; omega
      | false =>
        have HRE : Hid (r = (k : Int)) := Lib.hid (HF.out.least hkn hu HN.out)
        have HA := Lib.hid (at14C_no A xs n c (k : Int) wr HL.out (HR.out.step HG.out) hn (by rw [us14_nat]; exact hu))
        clear hu
        go_wp2_with fail
        refine HA.out.mono ?_
        rintro e w1 ⟨rfl, hb1⟩
        have HG1 := Lib.hid (HG.out.trans (hb1.mono HG.out.size))
        clear HA hb1
        go_wp2_with fail
        go_ret
        exact ⟨by rw [HRE.out]; rfl, HG1.out⟩
    · have HRE : Hid (r = -1) := Lib.hid (HF.out.none (fun j hj => HN.out j (by omega)))
      go_wp2_with fail
      go_ret
      exact ⟨by rw [HRE.out]; rfl, HG.out⟩
theorem make14C (n : Nat) (hn : n ≤ 1000000) (W : World) : (Instr.makeSlice 22 (.int .i64 (n : Int)) (.int .i64 (n : Int))).run Tryz.prog W =
    .ok (.slice (some ⟨W.heap.size, 0, none⟩) n n) (W.alloc (.cells (madeCells #[.bool false] (n * 1)) 4)) := by
  obtain ⟨i, hi, hzz⟩ := Option.map_eq_some_iff.1 info14C
  simp only [Prod.mk.injEq] at hzz
  obtain ⟨hz, hs, hb⟩ := hzz
  have hr := run_make (P := Tryz.prog) W 22 4 i _ Tryz.underlying22 hi hz .i64 .i64 n n (by omega) (Int.le_refl _) (by rw [hb]; omega) (by omega)
  simp only [Int.toNat_natCast, hs, Value.cells] at hr
  exact hr
theorem zc14C : ∀ i, i < 1 → (#[.bool false] : Array Value)[i]? = (clC default)[i]? := by
  intro i hi
  match i, hi with
  | 0, _ => rfl
set_option maxHeartbeats 4000000 in
theorem put14C (A : Option Addr) (xs : List Bool) (n c i : Nat) (xu : Bool) (w : World) (hl : xs.length = n) (hr : Lq clC w w.heap.size A xs) (hn : n ≤ 100000) (hi : i ≤ 100000) :
    Calls Tryz.prog 73 #[.slice A n c, .int .i64 (i : Int), .bool xu] w (RetS14C w (put14 xs i xu)) := by
  obtain ⟨M, hM⟩ : ∃ M, max n (i + 1) = M := ⟨_, rfl⟩
  obtain ⟨p, hp⟩ : ∃ p, i + 1 = p := ⟨_, rfl⟩
  have hlp : (put14 xs i xu).length = M := by rw [put14_len, hl, hM]
  have HP : Hid (RetS14C w (put14 xs i xu) = fun e w' => ∃ A c, e = .returned (.slice A M c) ∧ M ≤ c ∧ Lq clC w' w'.heap.size A (put14 xs i xu) ∧ Fv w.heap.size A (fl14 clC (put14 xs i xu)) ∧ Below w.heap.size w w') := Lib.hid (by rw [← hlp]; rfl)
  obtain ⟨w1, hw1⟩ : ∃ W, w = W := ⟨_, rfl⟩
  have hb1 : Below w.heap.size w w1 := by rw [← hw1]; exact Below.refl _ _
  have hmk := make14C M (by omega) w1
  obtain ⟨w3, cs, hcp, hbk, hrow, hb3, hs3⟩ := copied14 (P := Tryz.prog) len14C clC_one (by omega) w1 22 4 _ 1 Tryz.underlying22 info14C #[.bool false] rfl zc14C M A xs n c hl (by omega) (hr.step hb1)
  obtain ⟨cs', hbk', hrow'⟩ := Row14.put (x := (xu : Bool)) (p := i) len14C hrow (by rw [hl, hp]; rw [hp] at hM; exact hM.symm) hbk
  have hlq := Row14.lq len14C (by omega) hrow' hlp hbk'
  have hbw : Below w.heap.size w w3 := hb1.trans (hb3.mono hb1.size)
  have hbf := setCells_below14 (B := w.heap.size) (g := w1.heap.size) hb1.size (clC xu) (i * 1) w3 hbw

  rw [Nat.mul_one] at hlq hbf hcp
  have hcl : ∀ j, j < 1 → ∃ z, w3.cell? ⟨w1.heap.size, i * 1 + j, none⟩ = some z := fun j hj => by
    rw [hbk.cell]
    have := Nat.mul_le_mul_right 1 (show i + 1 ≤ M by omega)
    exact ⟨_, Array.getElem?_eq_getElem (by rw [hrow.1]; omega)⟩
  obtain ⟨z0, e0⟩ := hcl 0 (by omega)
  have f0 := hbk.frozen (i * 1 + 0)
  have e0' : w3.cell? ⟨w1.heap.size, i, none⟩ = some z0 := by rwa [Nat.mul_one] at e0
  have f0' : w3.frozen? ⟨w1.heap.size, i, none⟩ = false := by rwa [Nat.mul_one] at f0
  have hw : IntKind.i64.wrap ((i : Int) + 1) = (p : Int) := by rw [IntKind.wrap_i64]; omega
  have HQ := Lib.hid hlq
  have HBF := Lib.hid hbf
  have HFV : Hid (Fv w.heap.size (some ⟨w1.heap.size, 0, none⟩) (fl14 clC (put14 xs i xu))) := Lib.hid (fun _ => ⟨w1.heap.size, 0, rfl, hb1.size⟩)
  have i0 : (0 : Int) ≤ (i : Int) := by omega
  have i1 : (i : Int) < (M : Int) := by omega
  clear hlq hbf hbk hrow hb3 hbk' hrow' hcl hb1 hbw hr hl hlp hs3 e0 f0 
  have hmx : max (n : Int) (p : Int) = (M : Int) := by omega
  clear hM hp
  go_enter Tryz.func73, Tryz.ntmps73
  go_wp2_with fail
  go_ret
  rw [HP.out]
  exact ⟨_, M, rfl, Nat.le_refl _, HQ.out, HFV.out, HBF.out⟩
end Go.Proofs.YtfoellhoaflofaaGreat
namespace Go.Proofs.YtfoellhoaflofaaGreat
open Go.RowKit
set_option maxRecDepth 100000
theorem info14T : (Tryz.prog.info? 43).map (fun i => (i.zero, i.size, i.bytes)) = some (some (.agg #[.bool false, .int .i64 0, .int .i64 0, .int .i64 0, .int .i64 0, .bool false]), 6, 48) := by kernel_rfl
theorem len14T (x : Tk14) : (clT x).length = 6 := rfl
theorem nil14T : ∀ (n c : Nat) (w : World), (binOp .eql 23 (.slice none n c) (.slice none 0 0)).run Tryz.prog w = .ok (.bool true) w := fun _ _ _ => by kernel_rfl
theorem not14T : ∀ (a : Addr) (n c : Nat) (w : World), (binOp .eql 23 (.slice (some a) n c) (.slice none 0 0)).run Tryz.prog w = .ok (.bool false) w := fun _ _ _ _ => by kernel_rfl
set_option maxHeartbeats 1000000 in
theorem used14T (xu : Bool) (xc : Int) (xa : Int) (xk : Int) (xt : Int) (xo : Bool) (b : Bool) (hb : usT ⟨xu, xc, xa, xk, xt, xo⟩ = b) (w : World) :
    Calls Tryz.prog 66 #[.agg #[.bool xu, .int .i64 xc, .int .i64 xa, .int .i64 xk, .int .i64 xt, .bool xo]] w fun e w' => e = .returned (.bool b) ∧ Below w.heap.size w w' := by
  have hk := Blk.new w 43 #[.bool xu, .int .i64 xc, .int .i64 xa, .int .i64 xk, .int .i64 xt, .bool xo]
  have c0 := hk.cell 0
  have hb1 := b1' w (.cells #[.bool xu, .int .i64 xc, .int .i64 xa, .int .i64 xk, .int .i64 xt, .bool xo] 43)
  clear hk
  subst hb
  go_enter Tryz.func66, Tryz.ntmps66
  go_wp2_with fail
  go_ret
  exact ⟨rfl, hb1⟩
set_option maxHeartbeats 2000000 in
theorem end14T (A : Option Addr) (xs : List Tk14) (n c : Nat) (w : World) (hl : xs.length = n) (hr : Lq clT w w.heap.size A xs) (hn : n ≤ 1000000) :
    Calls Tryz.prog 103 #[.slice A n c, .func (.func 66) #[] #[]] w fun e w' => e = .returned (.int .i64 ((en14 usT xs n : Nat) : Int)) ∧ Below w.heap.size w w' := by
  have HL := Lib.hid hl
  have HR := Lib.hid hr
  clear hl hr
  go_enter Tryz.func103, Tryz.ntmps103
  go_wp2_with fail
  go_loopw [5] (fun i wr => ∃ m : Nat, i = .int .i64 (m : Int) ∧ m ≤ n ∧ Hid (en14 usT xs n = en14 usT xs m) ∧ Hid (Below w.heap.size w wr)) (fun i _ => (intOf i).toNat)
  case atStart => exact ⟨n, rfl, Nat.le_refl _, Lib.hid rfl, Lib.hid (Below.refl _ _)⟩
  case round =>
    obtain ⟨m, rfl, hm, HE, HB⟩ := hrel
    by_cases h0 : m = 0
    · subst h0
      go_wp2_with fail
      go_ret
      exact ⟨by rw [HE.out]; rfl, HB.out⟩
    · obtain ⟨q, hqm⟩ : ∃ q, q + 1 = m := ⟨m - 1, by omega⟩
      obtain ⟨b, o, hA, hab, hq⟩ := Lq.at_ len14T (by omega) (Lq.below HR.out HB.out (Nat.le_refl _)) (show q < xs.length by have := HL.out; omega)
      subst hA
      obtain ⟨x, hx⟩ : ∃ x, gt14 xs q = x := ⟨_, rfl⟩
      rw [hx] at hq
      obtain ⟨bu, hbu⟩ : ∃ y, usT x = y := ⟨_, rfl⟩
      have HX : Hid (usT (gt14 xs q) = bu) := Lib.hid (by rw [hx]; exact hbu)
      obtain ⟨xu, xc, xa, xk, xt, xo⟩ := x
      have q0 : wr.cell? ⟨b, o + q * 6, none⟩ = some (.bool xu) := hq 0 _ rfl
      have q1 : wr.cell? ⟨b, o + q * 6 + 1, none⟩ = some (.int .i64 xc) := hq 1 _ rfl
      have q2 : wr.cell? ⟨b, o + q * 6 + 2, none⟩ = some (.int .i64 xa) := hq 2 _ rfl
      have q3 : wr.cell? ⟨b, o + q * 6 + 3, none⟩ = some (.int .i64 xk) := hq 3 _ rfl
      have q4 : wr.cell? ⟨b, o + q * 6 + 4, none⟩ = some (.int .i64 xt) := hq 4 _ rfl
      have q5 : wr.cell? ⟨b, o + q * 6 + 5, none⟩ = some (.bool xo) := hq 5 _ rfl
      have hw : IntKind.i64.wrap ((m : Int) - 1) = (q : Int) := by rw [IntKind.wrap_i64]; omega
      have h1 : (0 : Int) < (m : Int) := by omega
      have i0 : (0 : Int) ≤ (q : Int) := by omega
      have i1 : (q : Int) < (n : Int) := by omega
      have HU := Lib.hid (fun W => used14T xu xc xa xk xt xo bu hbu W)
      have HM := Lib.hid hqm
      clear hq hx hbu hqm
      cases bu with
      | true =>
        have HE2 : Hid (en14 usT xs n = m) := Lib.hid (by have := HM.out; rw [HE.out, ← this, en14_yes HX.out])
        go_wp2_with fail
        refine (HU.out _).mono ?_
        rintro e w1 ⟨rfl, hb1⟩
        have HB1 := Lib.hid (HB.out.trans (hb1.mono HB.out.size))
        clear HU hb1
        go_wp2_with fail
        go_ret
        exact ⟨by rw [HE2.out]; rfl, HB1.out⟩
      | false =>
        have HE2 : Hid (en14 usT xs n = en14 usT xs q) := Lib.hid (by have := HM.out; rw [HE.out, ← this, en14_no HX.out])
        go_wp2_with fail
        refine (HU.out _).mono ?_
        rintro e w1 ⟨rfl, hb1⟩
        have HB1 := Lib.hid (HB.out.trans (hb1.mono HB.out.size))
        clear HU hb1
        go_wp2_with fail
        go_roundw
        case rel => exact ⟨q, rfl, by omega, HE2, HB1⟩
        case measure => have := HM.out; simp [intOf]; omega
/-- A slice that is answered, of memory of the call's own or nil. -/
def RetS14T (w : World) (xs : List Tk14) (e : Ending) (w' : World) : Prop := ∃ A c, e = .returned (.slice A xs.length c) ∧ xs.length ≤ c ∧ Lq clT w' w'.heap.size A xs ∧ Fv w.heap.size A (fl14 clT xs) ∧ Below w.heap.size w w'
set_option maxHeartbeats 2000000 in
theorem clone14T (A : Option Addr) (xs : List Tk14) (n c : Nat) (w : World) (hl : xs.length = n) (hr : Lq clT w w.heap.size A xs) (hn : n ≤ 1000000) :
    Calls Tryz.prog 59 #[.slice A n c] w (RetS14T w xs) := by
  have HP : Hid (RetS14T w xs = fun e w' => ∃ A c, e = .returned (.slice A xs.length c) ∧ xs.length ≤ c ∧ Lq clT w' w'.heap.size A xs ∧ Fv w.heap.size A (fl14 clT xs) ∧ Below w.heap.size w w') := Lib.hid rfl
  have hni := nil14T
  have hnn := not14T
  cases A with
  | none =>
    have hx := Lq.none_nil len14T (by omega) hr
    subst hx
    obtain rfl : n = 0 := by simpa using hl.symm
    clear hr hl
    go_enter Tryz.func59, Tryz.ntmps59
    go_wp2_with fail
    go_ret
    rw [HP.out]
    exact ⟨none, 0, rfl, Nat.le_refl _, Lq.nil _ _ _ _, fun h => absurd rfl h, Below.refl _ _⟩
  | some ad =>
    have hr1 := hr.below (b1' w (.cells #[] 43)) (Nat.le_refl _)
    obtain ⟨w1, hw1⟩ : ∃ W, w.alloc (.cells #[] 43) = W := ⟨_, rfl⟩
    have hown := owns14_nil w w.heap.size (Nat.le_refl _) 43 6
    have hsz : w1.heap.size = w.heap.size + 1 := by rw [← hw1]; simp
    rw [hw1] at hr1 hown
    obtain ⟨A', c', w2, hrun, hown2, hg2⟩ := run_append_14 (P := Tryz.prog) w1 w.heap.size 23 23 43 _ 6 48 Tryz.underlying23 info14T rfl (by omega) (by omega) _ 0 [] hown w.heap.size (some ad) (fl14 clT xs) n c (by rw [fl14_len len14T, hl]) hr1 (fl14_one clT_one xs) (by omega) (by omega)
    rw [Nat.zero_add] at hrun hown2
    have HB2 : Hid (Below w.heap.size w w2) := Lib.hid ((by rw [← hw1]; exact b1' w _ : Below w.heap.size w w1).grown hg2 (by omega) (fun r hr => by cases hr; exact Nat.le_refl _))
    have HO : Hid (Lq clT w2 w2.heap.size A' xs) := Lib.hid (Lq.of_own (by omega) hown2)
    have HF : Hid (Fv w.heap.size A' (fl14 clT xs)) := Lib.hid (by have h := fv14_own hown2; rwa [List.nil_append] at h)
    have HCAP := Lib.hid (own14_cap hown2)
    have HL := Lib.hid hl
    have HRUN := Lib.hid hrun
    clear hr hr1 hown hown2 hg2 hsz hl hrun
    go_enter Tryz.func59, Tryz.ntmps59
    go_wp2_with (at_builtin; go_loud (refine wpList_append_14 _ rfl (.tmp 5) (.tmp 6) 23 rfl _ _ _ _ rfl rfl HRUN.out ?_))
    go_wp2_with fail
    go_ret
    rw [HP.out]
    exact ⟨A', c', by rw [HL.out]; rfl, by rw [HL.out]; exact HCAP.out, HO.out, HF.out, HB2.out⟩
set_option maxHeartbeats 2000000 in
theorem cut14T (A : Option Addr) (xs : List Tk14) (n c : Nat) (w : World) (hl : xs.length = n) (hc : n ≤ c) (hr : Lq clT w w.heap.size A xs) (hn : n ≤ 1000000) :
    Calls Tryz.prog 65 #[.slice A n c, .func (.func 66) #[] #[]] w (RetS14T w (cut14 usT xs)) := by
  have HE := Lib.hid (end14T A xs n c w hl hr hn)
  obtain ⟨m, hm⟩ : ∃ m, en14 usT xs n = m := ⟨_, rfl⟩
  have hmn : m ≤ n := by rw [← hm]; exact en14_le _ _ _
  have hcm : cut14 usT xs = xs.take m := by rw [cut14, hl, hm]
  have hlm : (xs.take m).length = m := by rw [List.length_take]; omega
  have hrm := hr.take len14T m
  rw [hm] at HE
  obtain ⟨ys, hys⟩ : ∃ ys, xs.take m = ys := ⟨_, rfl⟩
  rw [hys] at hcm hlm hrm
  have HC := Lib.hid (fun W (h : Below w.heap.size w W) => clone14T A ys m c W hlm (hrm.step h) (by omega))
  rw [hcm]
  have HP : Hid (RetS14T w ys = fun e w' => ∃ A c, e = .returned (.slice A m c) ∧ m ≤ c ∧ Lq clT w' w'.heap.size A ys ∧ Fv w.heap.size A (fl14 clT ys) ∧ Below w.heap.size w w') := Lib.hid (by rw [← hlm]; rfl)
  have h1 : (m : Int) ≤ (c : Int) := by omega
  have h2 : (0 : Int) ≤ (m : Int) := by omega
  have HLM := Lib.hid hlm
  clear hl hr hm hcm hlm hrm hys
  go_enter Tryz.func65, Tryz.ntmps65
  go_wp2_with fail
  refine HE.out.mono ?_
  rintro e w1 ⟨rfl, hb1⟩
  have HC1 := Lib.hid (HC.out w1 hb1)
  have HB1 := Lib.hid hb1
  clear HE HC hb1
  go_wp2_with fail
  refine HC1.out.mono ?_
  rintro e w2 ⟨A2, c2, rfl, hc2, hq2, hf2, hb2⟩
  rw [HLM.out] at hc2 ⊢
  have HC2 := Lib.hid hc2
  have HF2 := Lib.hid (fv14_more hf2 HB1.out.size)
  have HQ2 := Lib.hid hq2
  have HB2 := Lib.hid (HB1.out.trans (hb2.mono HB1.out.size))
  clear HC1 hq2 hb2 hc2 hf2
  go_wp2_with fail
  go_ret
  rw [HP.out]
  exact ⟨A2, c2, rfl, HC2.out, HQ2.out, HF2.out, HB2.out⟩
end Go.Proofs.YtfoellhoaflofaaGreat
