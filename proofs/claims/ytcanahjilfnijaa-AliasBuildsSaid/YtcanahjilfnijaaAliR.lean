/-
  Alias tables: the document's Right and Count; the statements' own columns.
-/
import Derived.Test.YtcanahjilfnijaaAliC
namespace Go.Proofs.Ytcanahjilfnijaa
open Go.RowKit
set_option maxRecDepth 100000

set_option maxHeartbeats 4000000 in
theorem rright12_any (t n cc : Nat) (A : Option Addr) (c : Nat → Nat) (o : Nat → Int) (w : World) (h : Cq w w.heap.size A n c o) (hn : n ≤ 1000000) (b : Bool) (hb : b = true ↔ Rt12 t n c o) :
    Calls Try.prog 12 #[.int .u64 (t : Int), .slice A n cc] w fun e w' => e = .returned (.bool b) ∧ w = w' := by
  have HB := Lib.hid hb
  have HC := Lib.hid h
  clear hb h
  go_enter Try.func12, Try.ntmps12
  go_wp2_with fail
  go_loopw [5] (fun i wr => ∃ k : Nat, i = .int .i64 (k : Int) ∧ k ≤ n ∧ Hid (∀ j, j < k → c j ≤ t ∧ 0 ≤ o j ∧ o j < (n : Int)) ∧ wr = w) (fun i _ => n - (intOf i).toNat)
  case atStart => exact ⟨0, rfl, by omega, Lib.hid (fun j hj => by omega), rfl⟩
  case round =>
    obtain ⟨k, rfl, hk, HG, rfl⟩ := hrel
    by_cases hkn : k < n
    · obtain ⟨a, p, hA, ha, c0, c1⟩ := HC.out.at_ hkn
      subst hA
      have hi0 : (0 : Int) ≤ (k : Int) := by omega
      have hi1 : (k : Int) < (n : Int) := by omega
      obtain ⟨ck, hcke⟩ : ∃ x, c k = x := ⟨_, rfl⟩
      obtain ⟨ok, hoke⟩ : ∃ x, o k = x := ⟨_, rfl⟩
      rw [hcke] at c0
      rw [hoke] at c1
      have HE := Lib.hid (And.intro hcke hoke)
      clear hcke hoke
      by_cases hle : ck ≤ t
      · have hle2 : ¬ (t : Int) < (ck : Int) := by omega
        by_cases hlo : 0 ≤ ok
        · have hlo2 : ¬ ok < 0 := by omega
          by_cases hhi : ok < (n : Int)
          · have hhi2 : ¬ (n : Int) ≤ ok := by omega
            have HG1 : Hid (∀ j, j < k + 1 → c j ≤ t ∧ 0 ≤ o j ∧ o j < (n : Int)) := Lib.hid (fun j hj => by
              rcases (show j < k ∨ j = k by omega) with h | rfl
              · exact HG.out j h
              · rw [HE.out.1, HE.out.2]
                exact ⟨hle, hlo, hhi⟩)
            go_wp2_with fail
            go_roundw
            case rel => exact ⟨k + 1, by go_num, by omega, HG1, by first | trivial | rfl⟩
            case measure => simp [intOf]; omega
          · have hhi2 : (n : Int) ≤ ok := by omega
            have HF : Hid (b = false) := Lib.hid (by
              cases hbb : b with
              | false => rfl
              | true =>
                have h1 := (HB.out.1 hbb).1 k hkn
                rw [HE.out.1, HE.out.2] at h1
                exact absurd h1.2.2 hhi)
            go_wp2_with fail
            go_ret
            exact ⟨by rw [HF.out]; rfl, rfl⟩
        · have hlo2 : ok < 0 := by omega
          have HF : Hid (b = false) := Lib.hid (by
            cases hbb : b with
            | false => rfl
            | true =>
              have h1 := (HB.out.1 hbb).1 k hkn
              rw [HE.out.1, HE.out.2] at h1
              exact absurd h1.2.1 hlo)
          go_wp2_with fail
          go_ret
          exact ⟨by rw [HF.out]; rfl, rfl⟩
      · have hle2 : (t : Int) < (ck : Int) := by omega
        have HF : Hid (b = false) := Lib.hid (by
          cases hbb : b with
          | false => rfl
          | true =>
            have h1 := (HB.out.1 hbb).1 k hkn
            rw [HE.out.1] at h1
            exact absurd h1.1 hle)
        go_wp2_with fail
        go_ret
        exact ⟨by rw [HF.out]; rfl, rfl⟩
    · obtain rfl : k = n := by omega
      have HF : Hid (b = (decide (0 < t) && decide (0 < k))) := Lib.hid (by
        rw [Bool.eq_iff_iff, HB.out, Bool.and_eq_true, decide_eq_true_iff, decide_eq_true_iff]
        exact ⟨fun h => h.2, fun h => ⟨HG.out, h⟩⟩)
      by_cases ht0 : 0 < t
      · have ht1 : (0 : Int) < (t : Int) := by omega
        go_wp2_with fail
        go_ret
        exact ⟨by rw [HF.out]; simp [ht0], rfl⟩
      · have ht1 : ¬ (0 : Int) < (t : Int) := by omega
        go_wp2_with fail
        go_ret
        exact ⟨by rw [HF.out]; simp [ht0], rfl⟩

/-- The cells of n columns. -/
def cols12 (c : Nat → Nat) (o : Nat → Int) : Nat → List Value
  | 0 => []
  | k + 1 => cols12 c o k ++ [.int .u64 ((c k : Nat) : Int), .int .i64 (o k)]
theorem cols12_len (c : Nat → Nat) (o : Nat → Int) (k : Nat) : (cols12 c o k).length = k * 2 := by
  induction k with
  | zero => rfl
  | succ k ih => simp [cols12, ih]; omega
theorem cols12_get (c : Nat → Nat) (o : Nat → Int) {j k : Nat} (h : j < k) : (cols12 c o k)[j * 2]? = some (.int .u64 ((c j : Nat) : Int)) ∧ (cols12 c o k)[j * 2 + 1]? = some (.int .i64 (o j)) := by
  induction k with
  | zero => omega
  | succ k ih =>
    have hl := cols12_len c o k
    rcases (show j < k ∨ j = k by omega) with h1 | rfl
    · rw [cols12, List.getElem?_append_left (by omega), List.getElem?_append_left (by omega)]
      exact ih h1
    · rw [cols12, List.getElem?_append_right (by omega), List.getElem?_append_right (by omega), hl, Nat.sub_self, show j * 2 + 1 - j * 2 = 1 by omega]
      exact ⟨rfl, rfl⟩
theorem cols12_cq {w : World} {base n cc : Nat} {e : TypeId} {A : Option Addr} {c : Nat → Nat} {o : Nat → Int} (h : w.ownsRow base e 2 (.slice A n cc) n (cols12 c o n)) : Cq w w.heap.size A n c o := fun hn => by
  have hlt := h.lt
  rcases h.2 with ⟨_, h0⟩ | ⟨g, cap, cur, hv, _⟩
  · omega
  · injection hv with hA
    subst hA
    refine ⟨g, 0, rfl, (hlt g rfl).2, fun j hj => ?_⟩
    obtain ⟨e1, e2⟩ := cols12_get c o hj
    have a1 := h.cells (g := g) rfl _ _ e1
    have a2 := h.cells (g := g) rfl _ _ e2
    rw [Go.WideShapes.add_plain] at a1 a2
    exact ⟨a1, by simpa only [Nat.add_assoc] using a2⟩

/-- What a round of columns leaves as it is. -/
structure Ts12 (w : World) (T : Array Value) (W : World) : Prop where
  below : Below w.heap.size w W
  tab : Blk W w.heap.size 27 T
theorem Ts12.step {w W W' : World} {T : Array Value} (h : Ts12 w T W) (hb : Below W.heap.size W W') : Ts12 w T W' :=
  ⟨h.below.trans (hb.mono h.below.size), h.tab.below hb h.tab.lt⟩
theorem Ts12.grown {w W W' : World} {T : Array Value} {row : Option Nat} (h : Ts12 w T W) (hg : W.grownBy W' row) (hr : ∀ r, row = some r → w.heap.size < r) : Ts12 w T W' :=
  ⟨h.below.grown hg h.below.size (fun r e => Nat.le_of_lt (hr r e)), h.tab.grown hg (fun e => by have := hr _ e.symm; omega)⟩
theorem info_rcol12 : (Try.prog.info? 55).map (fun i => (i.zero, i.size, i.bytes)) = some (some (.agg #[.int .u64 0, .int .i64 0]), 2, 16) := by kernel_rfl
theorem two_cells12 {W : World} {g : Nat} {u v : Value} (h0 : W.cell? ⟨g, 0, none⟩ = some u) (h1 : W.cell? ⟨g, 1, none⟩ = some v) : ∀ j x, [u, v][j]? = some x → W.cell? ((⟨g, 0, none⟩ : Addr).add j) = some x := by
  intro j x hj
  match j, hj with
  | 0, hj => simp at hj; subst hj; rw [Go.WideShapes.add_plain]; exact h0
  | 1, hj => simp at hj; subst hj; rw [Go.WideShapes.add_plain]; exact h1
theorem own12_keep2 {w w' : World} {base : Nat} {e : TypeId} {s : Nat} {v : Value} {n : Nat} {xs : List Value} (h : w.ownsRow base e s v n xs) (hb : Below w.heap.size w w') : w'.ownsRow base e s v n xs := by
  have hlt := h.lt
  obtain ⟨h1, h2⟩ := h
  refine ⟨h1, ?_⟩
  rcases h2 with h2 | ⟨g, cap, cur, rfl, hg, hh, r⟩
  · exact .inl h2
  · exact .inr ⟨g, cap, cur, rfl, hg, by rw [hb.block g (hlt g rfl).2]; exact hh, r⟩
/-- A column is appended to a row of the call's own. -/
theorem append12 (W : World) (base : Nat) (v : Value) (k : Nat) (vs : List Value) (x : Nat) (y : Int) (ty : TypeId) (hown : W.ownsRow base 55 2 v k vs) (hk : k + 1 ≤ 1000000) (hbase : base ≤ W.heap.size) :
    ∃ A' c' w', (Builtin.append_ #[39, 39] ty #[v, .slice (some ⟨W.heap.size, 0, none⟩) 1 1]).run Try.prog (W.alloc (.cells #[.int .u64 (x : Int), .int .i64 y] 55)) = .ok (.slice A' (k + 1) c') w' ∧
      w'.ownsRow base 55 2 (.slice A' (k + 1) c') (k + 1) (vs ++ [.int .u64 (x : Int), .int .i64 y]) ∧ (W.alloc (.cells #[.int .u64 (x : Int), .int .i64 y] 55)).grownBy w' v.ownBlock := by
  obtain ⟨i, hi, hzz⟩ := Option.map_eq_some_iff.1 info_rcol12
  simp only [Prod.mk.injEq] at hzz
  obtain ⟨hz, hs, hb⟩ := hzz
  have hbk := Blk.new W 55 #[.int .u64 (x : Int), .int .i64 y]
  obtain ⟨v', w', h1, h2, h3, _, _⟩ := run_append_own_at (P := Try.prog) _ base 39 ty 55 i _ 2 16 Try.underlying39 hi hz hs hb rfl (by decide) v k vs (own12_keep2 hown (b1' W _)) ⟨W.heap.size, 0, none⟩ 1 1 [.int .u64 (x : Int), .int .i64 y] rfl
    (two_cells12 (hbk.cell 0) (hbk.cell 1)) (by intro u hu; simp at hu; rcases hu with rfl | rfl <;> rfl) (by unfold maxLen; omega) (by omega) (by simp; omega)
  rcases h2.2 with ⟨_, h0⟩ | ⟨g, cap, cur, rfl, _⟩
  · omega
  · exact ⟨_, cap, w', h1, h2, h3⟩

theorem step_append12 {ops : Array Oper} {o : Oper} {a : Act} {K : Act → World → Prop} {Q : Exit → Act → World → Prop} {E : Prop} (W w' : World) (hgd : o.guard = none) (s x : Operand)
    (ho : o.op = .call { callee := .builtin .append, args := #[s, x], argTypes := #[39, 39] }) (hty : o.type = 39) (v y r : Value) (hs : a.eval s = v) (hx : a.eval x = y)
    (hrun : (Builtin.append_ #[39, 39] 39 #[v, y]).run Try.prog W = .ok r w') (h : K (a.put o.dst r) w') :
    if Region.wanted o (yielded ops a.tmps) = true then Oper.wp Try.prog o a W K Q else E := by
  have hw : Region.wanted o (yielded ops a.tmps) = true := by simp [Region.wanted, hgd]
  rw [if_pos hw]
  unfold Oper.wp execOp
  simp only [ho, hty, resolve, invoke, builtin, Sem.run_bind, Sem.run_pure, Result.andThen_ok, List.map_toArray, List.map_cons, List.map_nil, hs, hx, hrun]
  exact h

set_option maxHeartbeats 4000000 in
theorem columns12_any (t n cc : Nat) (A : Option Addr) (c : Nat → Nat) (o : Nat → Int) (w : World) (h : Cq w w.heap.size A n c o) (hn : n ≤ 100000) :
    Calls Try.prog 11 #[.agg #[.int .u64 (t : Int), .slice A n cc]] w fun e w' => ∃ A' c', e = .returned (.slice A' n c') ∧ Cq w' w'.heap.size A' n c o ∧ Below w.heap.size w w' := by
  have HC := Lib.hid h
  have HT0 : Hid (Ts12 w #[.int .u64 (t : Int), .slice A n cc] (w.alloc (.cells #[.int .u64 (t : Int), .slice A n cc] 27))) := Lib.hid ⟨b1' w _, tab_new w t n cc A⟩
  have hsz : (w.alloc (.cells #[.int .u64 (t : Int), .slice A n cc] 27)).heap.size = w.heap.size + 1 := by simp
  have HSZ := Lib.hid (Nat.le_of_eq hsz.symm)
  clear h hsz
  go_enter Try.func11, Try.ntmps11
  go_wp2_with fail
  go_loopw [3, 4] (fun v i wr => ∃ (k : Nat) (A' : Option Addr) (c' : Nat), v = .slice A' k c' ∧ i = .int .i64 (k : Int) ∧ k ≤ n ∧ Hid (wr.ownsRow (w.heap.size + 1) 55 2 (.slice A' k c') k (cols12 c o k)) ∧ Hid (Ts12 w #[.int .u64 (t : Int), .slice A n cc] wr) ∧ Hid (w.heap.size + 1 ≤ wr.heap.size)) (fun _ i _ => n - (intOf i).toNat)
  case atStart => exact ⟨0, none, 0, rfl, rfl, by omega, Lib.hid (World.ownsRow_nil _ _ _ _), HT0, HSZ⟩
  case round =>
    obtain ⟨k, A1, c1, rfl, rfl, hk, HO, HT, HZ⟩ := hrel
    have t1 := HT.out.tab.cell 1
    by_cases hkn : k < n
    · obtain ⟨a, p, hA, ha, q0, q1⟩ := (HC.out.below HT.out.below (Nat.le_refl _)).at_ hkn
      subst hA
      have hi0 : (0 : Int) ≤ (k : Int) := by omega
      have hi1 : (k : Int) < (n : Int) := by omega
      have hcs : cols12 c o (k + 1) = cols12 c o k ++ [.int .u64 ((c k : Nat) : Int), .int .i64 (o k)] := rfl
      have hz0 := (HT.out.below.cell (p := ⟨a, p + k * 2, none⟩) ha).symm.trans q0
      have hz1 := (HT.out.below.cell (p := ⟨a, p + k * 2 + 1, none⟩) ha).symm.trans q1
      obtain ⟨ck, hcke⟩ : ∃ x, c k = x := ⟨_, rfl⟩
      obtain ⟨ok, hoke⟩ : ∃ x, o k = x := ⟨_, rfl⟩
      rw [hcke] at hz0 hcs
      rw [hoke] at hz1 hcs
      have HCS := Lib.hid hcs
      clear hcke hoke q0 q1 hcs
      have HS0 := Lib.hid (HT.out.step (Below.refl _ _).drew)
      have HO0 := Lib.hid (own12_keep2 HO.out (Below.refl _ _).drew)
      go_wp2_with fail
      refine wp_region_held_drew (S := Ts12 w #[.int .u64 (t : Int), .slice (some ⟨a, p, none⟩) n cc]) (by kernel_rfl) HS0.out (fun hHeld => ?_)
      have HZ0 : Hid (w.heap.size + 1 ≤ wr.drew.heap.size) := HZ
      obtain ⟨wn, hwn⟩ : ∃ W, wr.drew = W := ⟨_, rfl⟩
      rw [hwn] at HS0 HO0 HZ0 hHeld
      rw [hwn]
      have HBS := HS0
      clear hwn t1
      refine wpAnyH_take (i := 0) (v := ?_) (op_of rfl) (by kernel_rfl) (by kernel_rfl) (by kernel_rfl) (fun _ _ _ h => h) (Or.inl ⟨by rfl, fun W hS => ?_⟩) (by assumption) ?_
      rotate_left
      · try dsimp only at hS
        go_simp
        try with_reducible rfl
      try dsimp only [Act.put]
      try simp only [List.setIfInBounds_toArray, List.set_cons_zero, List.set_cons_succ]
      refine wpAnyH_take (i := 1) (v := ?_) (op_of rfl) (by kernel_rfl) (by kernel_rfl) (by kernel_rfl) (fun _ _ _ h => h) (Or.inl ⟨by rfl, fun W hS => ?_⟩) (by assumption) ?_
      rotate_left
      · try dsimp only at hS
        go_simp
        try with_reducible rfl
      try dsimp only [Act.put]
      try simp only [List.setIfInBounds_toArray, List.set_cons_zero, List.set_cons_succ]
      refine wpAnyH_take (i := 2) (v := ?_) (op_of rfl) (by kernel_rfl) (by kernel_rfl) (by kernel_rfl) (fun _ _ _ h => h) (Or.inl ⟨by rfl, fun W hS => ?_⟩) (by assumption) ?_
      rotate_left
      · try dsimp only at hS
        have z0 := hS.tab.cell 1
        go_simp
        try with_reducible rfl
      try dsimp only [Act.put]
      try simp only [List.setIfInBounds_toArray, List.set_cons_zero, List.set_cons_succ]
      refine wpAnyH_take (i := 3) (v := ?_) (op_of rfl) (by kernel_rfl) (by kernel_rfl) (by kernel_rfl) (fun _ _ _ h => h) (Or.inl ⟨by rfl, fun W hS => ?_⟩) (by assumption) ?_
      rotate_left
      · try dsimp only at hS
        go_simp
        try with_reducible rfl
      try dsimp only [Act.put]
      try simp only [List.setIfInBounds_toArray, List.set_cons_zero, List.set_cons_succ]
      refine wpAnyH_take (i := 4) (v := ?_) (op_of rfl) (by kernel_rfl) (by kernel_rfl) (by kernel_rfl) (fun _ _ _ h => h) (Or.inl ⟨by rfl, fun W hS => ?_⟩) (by assumption) ?_
      rotate_left
      · try dsimp only at hS
        go_simp
        try with_reducible rfl
      try dsimp only [Act.put]
      try simp only [List.setIfInBounds_toArray, List.set_cons_zero, List.set_cons_succ]
      refine wpAnyH_take (i := 5) (v := ?_) (op_of rfl) (by kernel_rfl) (by kernel_rfl) (by kernel_rfl) (fun _ _ _ h => h) (Or.inl ⟨by rfl, fun W hS => ?_⟩) (by assumption) ?_
      rotate_left
      · try dsimp only at hS
        go_simp
        try with_reducible rfl
      try dsimp only [Act.put]
      try simp only [List.setIfInBounds_toArray, List.set_cons_zero, List.set_cons_succ]
      refine wpAnyH_take (i := 6) (v := ?_) (op_of rfl) (by kernel_rfl) (by kernel_rfl) (by kernel_rfl) (fun _ _ _ h => h) (Or.inl ⟨by rfl, fun W hS => ?_⟩) (by assumption) ?_
      rotate_left
      · try dsimp only at hS
        have z0 := (hS.below.cell (p := ⟨a, p + k * 2, none⟩) (World.block_lt_of_cell? w _ hz0)).trans hz0
        go_simp
        try with_reducible rfl
      try dsimp only [Act.put]
      try simp only [List.setIfInBounds_toArray, List.set_cons_zero, List.set_cons_succ]
      refine wpAnyH_take (i := 7) (v := ?_) (op_of rfl) (by kernel_rfl) (by kernel_rfl) (by kernel_rfl) (fun _ _ _ h => h) (Or.inl ⟨by rfl, fun W hS => ?_⟩) (by assumption) ?_
      rotate_left
      · try dsimp only at hS
        go_simp
        try with_reducible rfl
      try dsimp only [Act.put]
      try simp only [List.setIfInBounds_toArray, List.set_cons_zero, List.set_cons_succ]
      refine wpAnyH_take (i := 8) (v := ?_) (op_of rfl) (by kernel_rfl) (by kernel_rfl) (by kernel_rfl) (fun _ _ _ h => h) (Or.inl ⟨by rfl, fun W hS => ?_⟩) (by assumption) ?_
      rotate_left
      · try dsimp only at hS
        have z0 := hS.tab.cell 1
        go_simp
        try with_reducible rfl
      try dsimp only [Act.put]
      try simp only [List.setIfInBounds_toArray, List.set_cons_zero, List.set_cons_succ]
      refine wpAnyH_take (i := 9) (v := ?_) (op_of rfl) (by kernel_rfl) (by kernel_rfl) (by kernel_rfl) (fun _ _ _ h => h) (Or.inl ⟨by rfl, fun W hS => ?_⟩) (by assumption) ?_
      rotate_left
      · try dsimp only at hS
        go_simp
        try with_reducible rfl
      try dsimp only [Act.put]
      try simp only [List.setIfInBounds_toArray, List.set_cons_zero, List.set_cons_succ]
      refine wpAnyH_take (i := 10) (v := ?_) (op_of rfl) (by kernel_rfl) (by kernel_rfl) (by kernel_rfl) (fun _ _ _ h => h) (Or.inl ⟨by rfl, fun W hS => ?_⟩) (by assumption) ?_
      rotate_left
      · try dsimp only at hS
        go_simp
        try with_reducible rfl
      try dsimp only [Act.put]
      try simp only [List.setIfInBounds_toArray, List.set_cons_zero, List.set_cons_succ]
      refine wpAnyH_take (i := 11) (v := ?_) (op_of rfl) (by kernel_rfl) (by kernel_rfl) (by kernel_rfl) (fun _ _ _ h => h) (Or.inl ⟨by rfl, fun W hS => ?_⟩) (by assumption) ?_
      rotate_left
      · try dsimp only at hS
        go_simp
        try with_reducible rfl
      try dsimp only [Act.put]
      try simp only [List.setIfInBounds_toArray, List.set_cons_zero, List.set_cons_succ]
      refine wpAnyH_take (i := 12) (v := ?_) (op_of rfl) (by kernel_rfl) (by kernel_rfl) (by kernel_rfl) (fun _ _ _ h => h) (Or.inl ⟨by rfl, fun W hS => ?_⟩) (by assumption) ?_
      rotate_left
      · try dsimp only at hS
        have z0 := (hS.below.cell (p := ⟨a, p + k * 2 + 1, none⟩) (World.block_lt_of_cell? w _ hz1)).trans hz1
        go_simp
        try with_reducible rfl
      try dsimp only [Act.put]
      try simp only [List.setIfInBounds_toArray, List.set_cons_zero, List.set_cons_succ]
      refine wpAnyH_take (i := 13) (v := ?_) (op_of rfl) (by kernel_rfl) (by kernel_rfl) (by kernel_rfl) (fun _ _ _ h => h) (Or.inl ⟨by rfl, fun W hS => ?_⟩) (by assumption) ?_
      rotate_left
      · try dsimp only at hS
        go_simp
        try with_reducible rfl
      try dsimp only [Act.put]
      try simp only [List.setIfInBounds_toArray, List.set_cons_zero, List.set_cons_succ]
      refine wpAnyH_ready (rs := [14]) (by kernel_rfl) (by simp) (AllReadyH.cons (op_of rfl) (fun K hK => ?_) AllReadyH.nil)
      obtain ⟨A2, c2, w2, hap, hown2, hg2⟩ := append12 wn (w.heap.size + 1) (.slice A1 k c1) k (cols12 c o k) ck ok 39 HO0.out (by omega) HZ0.out
      have HBA := Lib.hid (HBS.out.step (b1' wn (.cells #[.int .u64 (ck : Int), .int .i64 ok] 55)))
      have HAP := Lib.hid (And.intro hap (And.intro hown2 hg2))
      have HBS := HBA
      clear hap hown2 hg2
      go_simp
      refine hK.out _ _ HBS.out (fun hHeld => ?_)
      clear hK K
      try dsimp only [Act.put]
      try simp only [List.setIfInBounds_toArray, List.set_cons_zero, List.set_cons_succ]
      refine wpAnyH_ready (rs := [15]) (by kernel_rfl) (by simp) (AllReadyH.cons (op_of rfl) (fun K hK => ?_) AllReadyH.nil)
      have hap := HAP.out.1
      have HBS := Lib.hid (HBA.out.grown HAP.out.2.2 (fun r e => (HO0.out.lt r e).1))
      refine step_append12 _ w2 (by rfl) _ _ (by rfl) (by rfl) _ _ _ (by rfl) (by rfl) hap ?_
      clear hap
      refine hK.out _ _ HBS.out (fun hHeld => ?_)
      clear hK K
      try dsimp only [Act.put]
      try simp only [List.setIfInBounds_toArray, List.set_cons_zero, List.set_cons_succ]
      refine wpAnyH_ready (rs := [16]) (by kernel_rfl) (by simp) (AllReadyH.cons (op_of rfl) (fun K hK => ?_) AllReadyH.nil)
      go_simp
      refine hK.out _ _ HBS.out (fun hHeld => ?_)
      clear hK K
      try dsimp only [Act.put]
      try simp only [List.setIfInBounds_toArray, List.set_cons_zero, List.set_cons_succ]
      refine wpAnyH_done (by kernel_rfl) ?_ _
      go_wp2_with fail
      go_roundw
      case rel => exact ⟨k + 1, A2, c2, rfl, by go_num, by omega, Lib.hid (by rw [HCS.out]; exact HAP.out.2.1), HBS, Lib.hid (by have h1 := HAP.out.2.2.size; have h2 := HZ0.out; rw [World.size_alloc] at h1; omega)⟩
      case measure => simp [intOf]; omega
    · obtain rfl : k = n := by omega
      go_wp2_with fail
      go_ret
      exact ⟨A1, c1, rfl, cols12_cq HO.out, HT.out.below⟩

end Go.Proofs.Ytcanahjilfnijaa
