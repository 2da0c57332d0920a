/-
  Arrows: arrows and graphs in memory; package dag's has, pop; slices.Clone.
-/
import Derived.Test.YtojdgcalpdbifaaDagM
import Derived.Test.YtojdgcalpdbifaaSlotR
import Derived.Test.YtojdgcalpdbifaaAliR
import Derived.Deep.RegionHeld3
namespace Go.Proofs.Ytojdgcalpdbifaa
open Go.RowKit
set_option maxRecDepth 100000

/-- The cells of a list of arrows. -/
def acs : List (Int × Int) → List Value
  | [] => []
  | p :: r => .int .i64 p.1 :: .int .i64 p.2 :: acs r
/-- The arrow at a place. -/
def arr (l : List (Int × Int)) (j : Nat) : Int × Int := l.getD j (0, 0)
theorem acs_len (l : List (Int × Int)) : (acs l).length = l.length * 2 := by
  induction l with
  | nil => rfl
  | cons p r ih => simp [acs, ih]; omega
theorem acs_append (l m : List (Int × Int)) : acs (l ++ m) = acs l ++ acs m := by
  induction l with
  | nil => rfl
  | cons p r ih => simp [acs, ih]
theorem acs_get {l : List (Int × Int)} {j : Nat} (h : j < l.length) : (acs l)[j * 2]? = some (.int .i64 (arr l j).1) ∧ (acs l)[j * 2 + 1]? = some (.int .i64 (arr l j).2) := by
  induction l generalizing j with
  | nil => simp at h
  | cons p r ih =>
    cases j with
    | zero => simp [acs, arr]
    | succ j =>
      obtain ⟨h1, h2⟩ := ih (j := j) (by simpa using h)
      have e1 : (j + 1) * 2 = j * 2 + 1 + 1 := by omega
      have e2 : arr (p :: r) (j + 1) = arr r j := by simp [arr]
      rw [e1, e2]
      exact ⟨by simpa [acs] using h1, by simpa [acs] using h2⟩
theorem acs_one (l : List (Int × Int)) : ∀ u ∈ acs l, u.oneCell' = true := by
  induction l with
  | nil => intro u h; cases h
  | cons p r ih =>
    intro u h
    simp only [acs, List.mem_cons] at h
    rcases h with rfl | rfl | h
    · rfl
    · rfl
    · exact ih u h
theorem take_arr {l : List (Int × Int)} {k : Nat} (h : k < l.length) : l.take (k + 1) = l.take k ++ [arr l k] := by
  rw [List.take_add_one, List.getElem?_eq_getElem h]
  simp [arr, List.getElem?_eq_getElem h]
/-- The slice at A reads as those arrows. -/
def Aq (w : World) (B : Nat) (A : Option Addr) (l : List (Int × Int)) : Prop := Rv w B A (acs l)
theorem Aq.at_ {w : World} {B : Nat} {A : Option Addr} {l : List (Int × Int)} {k : Nat} (h : Aq w B A l) (hk : k < l.length) :
    ∃ b o, A = some ⟨b, o, none⟩ ∧ b < B ∧ w.cell? ⟨b, o + k * 2, none⟩ = some (.int .i64 (arr l k).1) ∧ w.cell? ⟨b, o + k * 2 + 1, none⟩ = some (.int .i64 (arr l k).2) := by
  obtain ⟨b, o, h1, h2, h3⟩ := h (by intro e; have := acs_len l; rw [e] at this; simp at this; omega)
  obtain ⟨h4, h5⟩ := acs_get hk
  exact ⟨b, o, h1, h2, h3 _ _ h4, by rw [Nat.add_assoc]; exact h3 _ _ h5⟩

/-- A list of ints at the head of a block. -/
def Ib13 (w : World) (g n : Nat) (h : Nat → Nat) : Prop := ∃ cs : Array Value, Blk w g 3 cs ∧ n ≤ cs.size ∧ ∀ j, j < n → cs[j]? = some (.int .i64 ((h j : Nat) : Int))
theorem Ib13.lt {w : World} {g n : Nat} {h : Nat → Nat} (q : Ib13 w g n h) : g < w.heap.size := by
  obtain ⟨cs, q, _⟩ := q
  exact q.lt
theorem Ib13.below {w w' : World} {g n B : Nat} {h : Nat → Nat} (q : Ib13 w g n h) (hb : Below B w w') (hg : g < B) : Ib13 w' g n h := by
  obtain ⟨cs, h1, h2⟩ := q
  exact ⟨cs, h1.below hb hg, h2⟩
theorem Ib13.grown {w w' : World} {g n : Nat} {h : Nat → Nat} {row : Option Nat} (q : Ib13 w g n h) (hb : w.grownBy w' row) (hr : some g ≠ row) : Ib13 w' g n h := by
  obtain ⟨cs, h1, h2⟩ := q
  exact ⟨cs, h1.grown hb hr, h2⟩
theorem Ib13.far {w : World} {g n : Nat} {h : Nat → Nat} (q : Ib13 w g n h) {p : Addr} (hp : g ≠ p.block) (u : Value) : Ib13 (w.setCell p u) g n h := by
  obtain ⟨cs, h1, h2⟩ := q
  exact ⟨cs, h1.far hp u, h2⟩
theorem Ib13.cells {w : World} {g n k : Nat} {h : Nat → Nat} (q : Ib13 w g n h) (hk : k < n) : w.cell? ⟨g, k, none⟩ = some (.int .i64 ((h k : Nat) : Int)) ∧ w.frozen? ⟨g, k, none⟩ = false := by
  obtain ⟨cs, h1, h2, h3⟩ := q
  exact ⟨by rw [h1.cell]; exact h3 k hk, h1.frozen k⟩
theorem Ib13.put {w : World} {g n k : Nat} {h : Nat → Nat} (q : Ib13 w g n h) (hk : k < n) (x : Nat) : Ib13 (w.setCell ⟨g, k, none⟩ (.int .i64 (x : Int))) g n (upd h k x) := by
  obtain ⟨cs, h1, h2, h3⟩ := q
  refine ⟨_, h1.set_ _ _, by simpa using h2, fun j hj => ?_⟩
  by_cases h5 : j = k
  · subst h5
    rw [upd_at, Array.getElem?_setIfInBounds_self_of_lt (by omega)]
  · rw [upd_far _ _ h5, Array.getElem?_setIfInBounds_ne (by omega), h3 j hj]
theorem Ib13.congr {w : World} {g n : Nat} {h h' : Nat → Nat} (q : Ib13 w g n h) (hh : ∀ j, j < n → h j = h' j) : Ib13 w g n h' := by
  obtain ⟨cs, h1, h2, h3⟩ := q
  exact ⟨cs, h1, h2, fun j hj => by rw [← hh j hj]; exact h3 j hj⟩
theorem Ib13.rd {w : World} {g : Nat} {xs : List Nat} {h : Nat → Nat} (q : Ib13 w g xs.length h) (hx : ∀ j, j < xs.length → nth xs j = h j) : Rd w w.heap.size (some ⟨g, 0, none⟩) xs := fun _ =>
  ⟨g, 0, rfl, q.lt, fun k hk => by rw [Nat.zero_add, hx k hk]; exact (q.cells hk).1⟩

/-- A graph: block E where the arrows of each number lead, block I how many lead to it; all of it lies below block B. -/
structure Gr13 (w : World) (B E I n : Nat) (A : List (Nat × Nat)) : Prop where
  ends : ∃ es : Array Value, Blk w E 29 es ∧ es.size = n ∧ ∀ k, k < n → ∃ Ak ck, es[k]? = some (.slice Ak (outs A k).length ck) ∧ Rd w B Ak (outs A k)
  into : Ib13 w I n (rem13 A [])
  eb : E < B
  ib : I < B
  part : In13 A n
  most : n ≤ 4096
  many : A.length ≤ 1000000
def gv13 (E I n : Nat) : Value := .agg #[.slice (some ⟨E, 0, none⟩) n n, .slice (some ⟨I, 0, none⟩) n n]
theorem Gr13.below {w w' : World} {B C E I n : Nat} {A : List (Nat × Nat)} (h : Gr13 w B E I n A) (hb : Below C w w') (hC : B ≤ C) : Gr13 w' B E I n A := by
  obtain ⟨es, h1, h2, h3⟩ := h.ends
  refine ⟨⟨es, h1.below hb (by have := h.eb; omega), h2, fun k hk => ?_⟩, h.into.below hb (by have := h.ib; omega), h.eb, h.ib, h.part, h.most, h.many⟩
  obtain ⟨Ak, ck, h4, h5⟩ := h3 k hk
  exact ⟨Ak, ck, h4, h5.below hb hC⟩
theorem Gr13.row {w : World} {B E I n k : Nat} {A : List (Nat × Nat)} (h : Gr13 w B E I n A) (hk : k < n) : ∃ Ak ck, w.cell? ⟨E, k, none⟩ = some (.slice Ak (outs A k).length ck) ∧ Rd w B Ak (outs A k) := by
  obtain ⟨es, h1, h2, h3⟩ := h.ends
  obtain ⟨Ak, ck, h4, h5⟩ := h3 k hk
  exact ⟨Ak, ck, by rw [h1.cell]; exact h4, h5⟩
theorem outs_nth {A : List (Nat × Nat)} {n i k : Nat} (h : In13 A n) (hk : k < (outs A i).length) : (i, nth (outs A i) k) ∈ A ∧ nth (outs A i) k < n := by
  have h1 : nth (outs A i) k ∈ outs A i := by rw [nth_in hk]; exact List.getElem_mem hk
  have h2 := outs_mem.1 h1
  exact ⟨h2, (h _ h2).2⟩

set_option maxHeartbeats 1000000 in
theorem has13_any (E I n : Nat) (i : Int) (w : World) (b : Bool) (hb : b = decide (0 ≤ i ∧ i < (n : Int))) :
    Calls Try.prog 20 #[gv13 E I n, .int .i64 i] w fun e w' => e = .returned (.bool b) ∧ Below w.heap.size w w' := by
  have hk := Blk.new w 43 #[.slice (some ⟨E, 0, none⟩) n n, .slice (some ⟨I, 0, none⟩) n n]
  have c0 := hk.cell 0
  have hb1 := b1' w (.cells #[.slice (some ⟨E, 0, none⟩) n n, .slice (some ⟨I, 0, none⟩) n n] 43)
  have HB := Lib.hid hb
  unfold gv13
  clear hk hb
  by_cases h1 : 0 ≤ i
  · go_enter Try.func20, Try.ntmps20
    go_wp2_with fail
    go_ret
    exact ⟨by rw [HB.out, show decide (0 ≤ i ∧ i < (n : Int)) = decide (i < (n : Int)) by simp [h1]]; rfl, hb1⟩
  · go_enter Try.func20, Try.ntmps20
    go_wp2_with fail
    go_ret
    exact ⟨by rw [HB.out, decide_eq_false (by omega)]; rfl, hb1⟩

set_option maxHeartbeats 1000000 in
theorem pop13_any (g r m cc a : Nat) (w : World) (h : w.cell? ⟨g, 0, none⟩ = some (.slice (some ⟨r, 0, none⟩) (m + 1) cc)) (hf : w.frozen? ⟨g, 0, none⟩ = false) (hl : w.cell? ⟨r, m, none⟩ = some (.int .i64 (a : Int))) (hc : m + 1 ≤ cc) (hm : m ≤ 1000000) :
    Calls Try.prog 24 #[.pointer (some ⟨g, 0, none⟩)] w fun e w' => e = .returned (.int .i64 (a : Int)) ∧ w' = w.setCell ⟨g, 0, none⟩ (.slice (some ⟨r, 0, none⟩) m cc) := by
  have hw : IntKind.i64.wrap (((m + 1 : Nat) : Int) - 1) = (m : Int) := by rw [IntKind.wrap_i64]; omega
  obtain ⟨k, hk⟩ : ∃ k, m + 1 = k := ⟨_, rfl⟩
  rw [hk] at h hw hc
  have h0 : (0 : Int) ≤ (m : Int) := by omega
  have h1 : (m : Int) < (k : Int) := by omega
  have h2 : (m : Int) ≤ (cc : Int) := by omega
  clear hk
  go_enter Try.func24, Try.ntmps24
  go_wp2_with fail
  go_ret
  exact ⟨rfl, rfl⟩

theorem nil_eq13 (w : World) (b o n c : Nat) : (binOp .eql 29 (.slice (some ⟨b, o, none⟩) n c) (.slice none 0 0)).run Try.prog w = .ok (.bool false) w := by kernel_rfl

theorem Ib13.of_own {w : World} {base g c n : Nat} {xs : List Nat} (h : w.ownsRow base 3 1 (.slice (some ⟨g, 0, none⟩) n c) n (ints xs)) (hl : xs.length = n) : Ib13 w g n (nth xs) := by
  rcases h.2 with ⟨h0, _⟩ | ⟨b, cap, cur, hv, hb, hh, hnc, hcm, hcs, htk⟩
  · cases h0
  · injection hv with hA _ hc
    injection hA with hA
    injection hA with hA
    subst hA hc
    rw [Nat.mul_one] at hcs htk
    refine ⟨cur, hh, by omega, fun j hj => ?_⟩
    rw [← ints_get (by omega), ← htk, List.getElem?_take_of_lt hj, Array.getElem?_toList]

/-- A copy of a list. -/
def RetB13 (w : World) (xs : List Nat) (e : Ending) (w' : World) : Prop := ∃ g c, e = .returned (.slice (some ⟨g, 0, none⟩) xs.length c) ∧ w.heap.size ≤ g ∧ Ib13 w' g xs.length (nth xs) ∧ Below w.heap.size w w'
set_option maxHeartbeats 2000000 in
theorem clone13_any (b n c : Nat) (xs : List Nat) (w : World) (hl : xs.length = n) (hr : Rd w w.heap.size (some ⟨b, 0, none⟩) xs) (hn : n ≤ 1000000) :
    Calls Try.prog 23 #[.slice (some ⟨b, 0, none⟩) n c] w (RetB13 w xs) := by
  have HP : Hid (RetB13 w xs = fun e w' => ∃ g c, e = .returned (.slice (some ⟨g, 0, none⟩) xs.length c) ∧ w.heap.size ≤ g ∧ Ib13 w' g xs.length (nth xs) ∧ Below w.heap.size w w') := Lib.hid rfl
  have hq := nil_eq13 w b 0 n c
  have HR := Lib.hid (Rd.rv11 (hr.alloc (Nat.le_refl _) (.cells #[] 3)))
  have HL := Lib.hid hl
  clear hr hl
  go_enter Try.func23, Try.ntmps23
  go_wp2_with (at_builtin; go_loud (refine wpList_append_rv _ rfl (.tmp 5) (.tmp 6) 29 rfl w.heap.size 3 (.int .i64 0) 8 Try.underlying29 info_int11 rfl (by omega) (.slice (some ⟨w.heap.size, 0, none⟩) 0 0) 0 [] rfl (made7 w w.heap.size (Nat.le_refl _) 3) w.heap.size (some ⟨b, 0, none⟩) n (ints xs) _ (by rw [ints_length]; exact HL.out) rfl HR.out (ints_one xs) (by omega) (by simp) ?_); intro A' c' w3 hc3 hown3 hg3 hbl3)
  have HB3 : Hid (Below w.heap.size w w3) := Lib.hid ((b1' w _).grown hg3 (by simp) (fun r hr => by cases hr; exact Nat.le_refl _))
  have hA3 : ∃ g, A' = some ⟨g, 0, none⟩ ∧ w.heap.size ≤ g := by
    rcases hown3.out.2 with ⟨h0, _⟩ | ⟨g, cap, cur, hv, hb, _⟩
    · injection h0 with h0
      subst h0
      rcases hbl3 with h1 | h1 <;> cases h1
    · injection hv with hA
      exact ⟨g, hA, hb⟩
  obtain ⟨g, rfl, hg⟩ := hA3
  have HG := Lib.hid hg
  clear hg3 hbl3 hg
  go_wp2_with fail
  go_ret
  rw [HP.out]
  have h1 := hown3.out
  rw [Nat.zero_add, List.nil_append] at h1
  exact ⟨g, c', by rw [HL.out]; simp, HG.out, by rw [HL.out]; exact Ib13.of_own h1 HL.out, HB3.out⟩
end Go.Proofs.Ytojdgcalpdbifaa
