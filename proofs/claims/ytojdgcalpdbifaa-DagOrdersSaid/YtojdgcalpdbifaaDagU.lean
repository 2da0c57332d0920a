/-
  Arrows: the statements' own arrows; appends of arrows.
-/
import Derived.Test.YtojdgcalpdbifaaDagI
namespace Go.Proofs.Ytojdgcalpdbifaa
open Go.RowKit
set_option maxRecDepth 100000

theorem rv13_own2 {w : World} {base : Nat} {e : TypeId} {A : Option Addr} {c n : Nat} {vs : List Value} (h : w.ownsRow base e 2 (.slice A n c) n vs) : Rv w w.heap.size A vs := by
  intro hx
  have hl := h.1
  have hpos : 0 < vs.length := List.length_pos_iff.2 hx
  rcases h.2 with ⟨_, h0⟩ | ⟨g, cap, cur, hv, _, hh, _⟩
  · omega
  · have hA : A = some ⟨g, 0, none⟩ := by injection hv
    subst hA
    refine ⟨g, 0, rfl, (h.lt g rfl).2, fun k v hk => ?_⟩
    have hc := h.cells (g := g) rfl k _ hk
    rw [Go.WideShapes.add_plain] at hc
    exact hc
theorem info_rarr13 : (Try.prog.info? 40).map (fun i => (i.zero, i.size, i.bytes)) = some (some (.agg #[.int .i64 0, .int .i64 0]), 2, 16) := by kernel_rfl
theorem info_darr13 : (Try.prog.info? 39).map (fun i => (i.zero, i.size, i.bytes)) = some (some (.agg #[.int .i64 0, .int .i64 0]), 2, 16) := by kernel_rfl
/-- An arrow is appended to a row of the call's own. -/
theorem appr13 (W : World) (base : Nat) (v : Value) (k : Nat) (vs : List Value) (x y : Int) (ty : TypeId) (hown : W.ownsRow base 40 2 v k vs) (hk : k + 1 ≤ 1000000) (hbase : base ≤ W.heap.size) :
    ∃ A' c' w', (Builtin.append_ #[24, 24] ty #[v, .slice (some ⟨W.heap.size, 0, none⟩) 1 1]).run Try.prog (W.alloc (.cells #[.int .i64 x, .int .i64 y] 40)) = .ok (.slice A' (k + 1) c') w' ∧
      w'.ownsRow base 40 2 (.slice A' (k + 1) c') (k + 1) (vs ++ [.int .i64 x, .int .i64 y]) ∧ (W.alloc (.cells #[.int .i64 x, .int .i64 y] 40)).grownBy w' v.ownBlock := by
  obtain ⟨i, hi, hzz⟩ := Option.map_eq_some_iff.1 info_rarr13
  simp only [Prod.mk.injEq] at hzz
  obtain ⟨hz, hs, hb⟩ := hzz
  have hbk := Blk.new W 40 #[.int .i64 x, .int .i64 y]
  obtain ⟨v', w', h1, h2, h3, _, _⟩ := run_append_own_at (P := Try.prog) _ base 24 ty 40 i _ 2 16 Try.underlying24 hi hz hs hb rfl (by decide) v k vs (own12_keep2 hown (b1' W _)) ⟨W.heap.size, 0, none⟩ 1 1 [.int .i64 x, .int .i64 y] rfl
    (two_cells12 (hbk.cell 0) (hbk.cell 1)) (by intro u hu; simp at hu; rcases hu with rfl | rfl <;> rfl) (by unfold maxLen; omega) (by omega) (by simp; omega)
  rcases h2.2 with ⟨_, h0⟩ | ⟨g, cap, cur, rfl, _⟩
  · omega
  · exact ⟨_, cap, w', h1, h2, h3⟩
/-- Some arrows, however many, are appended to a row of the call's own. -/
theorem appd13 (W : World) (base : Nat) (v : Value) (k : Nat) (vs : List Value) (l : List (Int × Int)) (m c : Nat) (B : Nat) (A : Option Addr) (ty : TypeId) (hl : l.length = m) (hown : W.ownsRow base 39 2 v k vs) (hr : Aq W B A l) (hk : k + m ≤ 1000000) (hbase : base ≤ W.heap.size) :
    ∃ A' c' w', (Builtin.append_ #[22, 22] ty #[v, .slice A m c]).run Try.prog W = .ok (.slice A' (k + m) c') w' ∧
      w'.ownsRow base 39 2 (.slice A' (k + m) c') (k + m) (vs ++ acs l) ∧ W.grownBy w' v.ownBlock := by
  suffices H : ∃ v' w', (Builtin.append_ #[22, 22] ty #[v, .slice A m c]).run Try.prog W = .ok v' w' ∧
      w'.ownsRow base 39 2 v' (k + m) (vs ++ acs l) ∧ W.grownBy w' v.ownBlock by
    obtain ⟨v', w', h1, h2, h3⟩ := H
    rcases h2.2 with ⟨rfl, h0⟩ | ⟨g, cap, cur, rfl, _⟩
    · rw [h0] at h2 ⊢
      exact ⟨none, 0, w', h1, h2, h3⟩
    · exact ⟨_, cap, w', h1, h2, h3⟩
  obtain ⟨i, hi, hzz⟩ := Option.map_eq_some_iff.1 info_darr13
  simp only [Prod.mk.injEq] at hzz
  obtain ⟨hz, hs, hb⟩ := hzz
  cases A with
  | none =>
    obtain rfl : l = [] := by
      rcases l with _ | ⟨y, r⟩
      · rfl
      · obtain ⟨_, _, h, _⟩ := hr (by simp [acs])
        cases h
    obtain rfl : m = 0 := by simpa using hl.symm
    refine ⟨v, W, ?_, by simpa [acs] using hown, World.grownBy.refl W _⟩
    rcases hown.2 with ⟨rfl, rfl⟩ | ⟨g, cap, cur, rfl, _, _, hnc, _⟩
    · simp [Builtin.append_, run_underlying Try.underlying22, sizeOf, typeInfo, hi, Builtin.lenOf, Builtin.firstCells]
    · simp [Builtin.append_, run_underlying Try.underlying22, sizeOf, typeInfo, hi, Builtin.lenOf, Builtin.firstCells, hnc, storeCells]
  | some ad =>
    have hcells : ∀ j u, (acs l)[j]? = some u → W.cell? (ad.add j) = some u := by
      intro j u hu
      obtain ⟨b, o, h1, _, h2⟩ := Rv.at_ hr hu
      injection h1 with h1
      subst h1
      rw [← h2, Addr.add_lit]
    obtain ⟨v', w', hrun, h2, h3, _, _⟩ := run_append_own_at (P := Try.prog) W base 22 ty 39 i _ 2 16 Try.underlying22 hi hz hs hb rfl (by decide) v k vs hown ad m c (acs l)
      (by rw [acs_len, hl]) hcells (acs_one l) (by unfold maxLen; omega) (by omega) hbase
    exact ⟨v', w', hrun, h2, h3⟩
theorem step_appr13 {ops : Array Oper} {o : Oper} {a : Act} {K : Act → World → Prop} {Q : Exit → Act → World → Prop} {E : Prop} (W w' : World) (hgd : o.guard = none) (s x : Operand)
    (ho : o.op = .call { callee := .builtin .append, args := #[s, x], argTypes := #[24, 24] }) (hty : o.type = 24) (v y r : Value) (hs : a.eval s = v) (hx : a.eval x = y)
    (hrun : (Builtin.append_ #[24, 24] 24 #[v, y]).run Try.prog W = .ok r w') (h : K (a.put o.dst r) w') :
    if Region.wanted o (yielded ops a.tmps) = true then Oper.wp Try.prog o a W K Q else E := by
  have hw : Region.wanted o (yielded ops a.tmps) = true := by simp [Region.wanted, hgd]
  rw [if_pos hw]
  unfold Oper.wp execOp
  simp only [ho, hty, resolve, invoke, builtin, Sem.run_bind, Sem.run_pure, Result.andThen_ok, List.map_toArray, List.map_cons, List.map_nil, hs, hx, hrun]
  exact h

/-- What arrows says. -/
def RetA13 (w : World) (l : List (Int × Int)) (m : Nat) (e : Ending) (w' : World) : Prop := ∃ A' c', e = .returned (.slice A' m c') ∧ Aq w' w'.heap.size A' l ∧ Below w.heap.size w w'

set_option maxHeartbeats 4000000 in
theorem arrows13_any (Ad : Option Addr) (l : List (Int × Int)) (m c : Nat) (w : World) (hl : l.length = m) (hr : Aq w w.heap.size Ad l) (hm : m ≤ 100000) :
    Calls Try.prog 6 #[.slice Ad m c] w (RetA13 w l m) := by
  have HP : Hid (RetA13 w l m = fun e w' => ∃ A' c', e = .returned (.slice A' m c') ∧ Aq w' w'.heap.size A' l ∧ Below w.heap.size w w') := Lib.hid rfl
  have HL := Lib.hid hl
  have HR := Lib.hid hr
  clear hl hr
  go_enter Try.func6, Try.ntmps6
  go_wp2_with fail
  go_loopw [3, 4] (fun v i wr => ∃ (k : Nat) (A' : Option Addr) (c' : Nat), v = .slice A' k c' ∧ i = .int .i64 (k : Int) ∧ k ≤ m ∧ Hid (wr.ownsRow w.heap.size 40 2 (.slice A' k c') k (acs (l.take k))) ∧ Hid (Below w.heap.size w wr)) (fun _ i _ => m - (intOf i).toNat)
  case atStart => exact ⟨0, none, 0, rfl, rfl, by omega, Lib.hid (World.ownsRow_nil _ _ _ _), Lib.hid (Below.refl _ _)⟩
  case round =>
    obtain ⟨k, A1, c1, rfl, rfl, hk, HO, HB⟩ := hrel
    by_cases hkm : k < m
    · have hkl : k < l.length := by have := HL.out; omega
      obtain ⟨a, o, hA, hab, q0, q1⟩ := HR.out.at_ hkl
      subst hA
      have hi0 : (0 : Int) ≤ (k : Int) := by omega
      have hi1 : (k : Int) < (m : Int) := by omega
      obtain ⟨fi, hfi⟩ : ∃ x, (arr l k).1 = x := ⟨_, rfl⟩
      obtain ⟨ti, hti⟩ : ∃ x, (arr l k).2 = x := ⟨_, rfl⟩
      rw [hfi] at q0
      rw [hti] at q1
      have HTK : Hid (acs (l.take (k + 1)) = acs (l.take k) ++ [.int .i64 fi, .int .i64 ti]) := Lib.hid (by
        rw [take_arr hkl, acs_append, ← hfi, ← hti]
        rfl)
      have HQ0 := Lib.hid q0
      have HQ1 := Lib.hid q1
      have hb0 := HB.out.size
      have HAB := Lib.hid hab
      obtain ⟨wn, hwn⟩ : ∃ W, wr.drew = W := ⟨_, rfl⟩
      have HBN : Hid (Below w.heap.size w wn) := Lib.hid (by rw [← hwn]; exact HB.out.drew)
      have hsn : w.heap.size ≤ wn.heap.size := HBN.out.size
      have HON : Hid (wn.ownsRow w.heap.size 40 2 (.slice A1 k c1) k (acs (l.take k))) := Lib.hid (by rw [← hwn]; exact own12_keep2 HO.out (Below.refl _ _).drew)
      obtain ⟨A2, c2, w2, hap, hown2, hg2⟩ := appr13 wn w.heap.size _ k _ fi ti 24 HON.out (by omega) hsn
      have HAP := Lib.hid hap
      have HO2 : Hid (w2.ownsRow w.heap.size 40 2 (.slice A2 (k + 1) c2) (k + 1) (acs (l.take (k + 1)))) := Lib.hid (by rw [HTK.out]; exact hown2)
      have HBA : Hid (Below w.heap.size w (wn.alloc (.cells #[.int .i64 fi, .int .i64 ti] 40))) := Lib.hid (HBN.out.trans ((b1' wn _).mono hsn))
      have HB2 : Hid (Below w.heap.size w w2) := Lib.hid (HBA.out.grown hg2 (by simp; omega) (fun r hr => (HON.out.lt r hr).1))
      clear hfi hti q0 q1 hab hap hown2 hg2 hb0
      go_wp2_with fail
      refine wp_region_held_drew (S := fun W => Below w.heap.size w W) (by kernel_rfl) (by rw [hwn]; exact HBN.out) (fun hHeld => ?_)
      rw [hwn] at hHeld ⊢
      clear hwn
      have HBS := HBN
      refine wpAnyH_take (i := 0) (v := ?_) (op_of rfl) (by kernel_rfl) (by kernel_rfl) (by kernel_rfl) (fun _ _ _ h => h) (Or.inl ⟨by rfl, fun W hS => ?_⟩) (by assumption) ?_
      rotate_left
      · try dsimp only at hS
        go_simp
        try with_reducible rfl
      try dsimp only [Act.put]
      try simp only [List.setIfInBounds_toArray, List.set_cons_zero, List.set_cons_succ]
      refine wpAnyH_take (i := 1) (v := ?_) (op_of rfl) (by kernel_rfl) (by kernel_rfl) (by kernel_rfl) (fun _ _ _ h => h) (Or.inl ⟨by rfl, fun W hS => ?_⟩) (by assumption) ?_
      rotate_left
      · try dsimp only at hS
        go_simp
        try with_reducible rfl
      try dsimp only [Act.put]
      try simp only [List.setIfInBounds_toArray, List.set_cons_zero, List.set_cons_succ]
      refine wpAnyH_take (i := 2) (v := ?_) (op_of rfl) (by kernel_rfl) (by kernel_rfl) (by kernel_rfl) (fun _ _ _ h => h) (Or.inl ⟨by rfl, fun W hS => ?_⟩) (by assumption) ?_
      rotate_left
      · try dsimp only at hS
        go_simp
        try with_reducible rfl
      try dsimp only [Act.put]
      try simp only [List.setIfInBounds_toArray, List.set_cons_zero, List.set_cons_succ]
      refine wpAnyH_take (i := 3) (v := ?_) (op_of rfl) (by kernel_rfl) (by kernel_rfl) (by kernel_rfl) (fun _ _ _ h => h) (Or.inl ⟨by rfl, fun W hS => ?_⟩) (by assumption) ?_
      rotate_left
      · try dsimp only at hS
        go_simp
        try with_reducible rfl
      try dsimp only [Act.put]
      try simp only [List.setIfInBounds_toArray, List.set_cons_zero, List.set_cons_succ]
      refine wpAnyH_take (i := 4) (v := ?_) (op_of rfl) (by kernel_rfl) (by kernel_rfl) (by kernel_rfl) (fun _ _ _ h => h) (Or.inl ⟨by rfl, fun W hS => ?_⟩) (by assumption) ?_
      rotate_left
      · try dsimp only at hS
        go_simp
        try with_reducible rfl
      try dsimp only [Act.put]
      try simp only [List.setIfInBounds_toArray, List.set_cons_zero, List.set_cons_succ]
      refine wpAnyH_take (i := 5) (v := ?_) (op_of rfl) (by kernel_rfl) (by kernel_rfl) (by kernel_rfl) (fun _ _ _ h => h) (Or.inl ⟨by rfl, fun W hS => ?_⟩) (by assumption) ?_
      rotate_left
      · try dsimp only at hS
        have z0 := (hS.cell (p := ⟨a, o + k * 2, none⟩) HAB.out).trans HQ0.out
        go_simp
        try with_reducible rfl
      try dsimp only [Act.put]
      try simp only [List.setIfInBounds_toArray, List.set_cons_zero, List.set_cons_succ]
      refine wpAnyH_take (i := 6) (v := ?_) (op_of rfl) (by kernel_rfl) (by kernel_rfl) (by kernel_rfl) (fun _ _ _ h => h) (Or.inl ⟨by rfl, fun W hS => ?_⟩) (by assumption) ?_
      rotate_left
      · try dsimp only at hS
        go_simp
        try with_reducible rfl
      try dsimp only [Act.put]
      try simp only [List.setIfInBounds_toArray, List.set_cons_zero, List.set_cons_succ]
      refine wpAnyH_take (i := 7) (v := ?_) (op_of rfl) (by kernel_rfl) (by kernel_rfl) (by kernel_rfl) (fun _ _ _ h => h) (Or.inl ⟨by rfl, fun W hS => ?_⟩) (by assumption) ?_
      rotate_left
      · try dsimp only at hS
        go_simp
        try with_reducible rfl
      try dsimp only [Act.put]
      try simp only [List.setIfInBounds_toArray, List.set_cons_zero, List.set_cons_succ]
      refine wpAnyH_take (i := 8) (v := ?_) (op_of rfl) (by kernel_rfl) (by kernel_rfl) (by kernel_rfl) (fun _ _ _ h => h) (Or.inl ⟨by rfl, fun W hS => ?_⟩) (by assumption) ?_
      rotate_left
      · try dsimp only at hS
        go_simp
        try with_reducible rfl
      try dsimp only [Act.put]
      try simp only [List.setIfInBounds_toArray, List.set_cons_zero, List.set_cons_succ]
      refine wpAnyH_take (i := 9) (v := ?_) (op_of rfl) (by kernel_rfl) (by kernel_rfl) (by kernel_rfl) (fun _ _ _ h => h) (Or.inl ⟨by rfl, fun W hS => ?_⟩) (by assumption) ?_
      rotate_left
      · try dsimp only at hS
        go_simp
        try with_reducible rfl
      try dsimp only [Act.put]
      try simp only [List.setIfInBounds_toArray, List.set_cons_zero, List.set_cons_succ]
      refine wpAnyH_take (i := 10) (v := ?_) (op_of rfl) (by kernel_rfl) (by kernel_rfl) (by kernel_rfl) (fun _ _ _ h => h) (Or.inl ⟨by rfl, fun W hS => ?_⟩) (by assumption) ?_
      rotate_left
      · try dsimp only at hS
        have z0 := (hS.cell (p := ⟨a, o + k * 2 + 1, none⟩) HAB.out).trans HQ1.out
        go_simp
        try with_reducible rfl
      try dsimp only [Act.put]
      try simp only [List.setIfInBounds_toArray, List.set_cons_zero, List.set_cons_succ]
      refine wpAnyH_take (i := 11) (v := ?_) (op_of rfl) (by kernel_rfl) (by kernel_rfl) (by kernel_rfl) (fun _ _ _ h => h) (Or.inl ⟨by rfl, fun W hS => ?_⟩) (by assumption) ?_
      rotate_left
      · try dsimp only at hS
        go_simp
        try with_reducible rfl
      try dsimp only [Act.put]
      try simp only [List.setIfInBounds_toArray, List.set_cons_zero, List.set_cons_succ]
      refine wpAnyH_ready (rs := [12]) (by kernel_rfl) (by simp) (AllReadyH.cons (op_of rfl) (fun K hK => ?_) AllReadyH.nil)
      have HBS := HBA
      go_simp
      refine hK.out _ _ HBS.out (fun hHeld => ?_)
      clear hK K
      try dsimp only [Act.put]
      try simp only [List.setIfInBounds_toArray, List.set_cons_zero, List.set_cons_succ]
      refine wpAnyH_ready (rs := [13]) (by kernel_rfl) (by simp) (AllReadyH.cons (op_of rfl) (fun K hK => ?_) AllReadyH.nil)
      have hap := HAP.out
      have HBS := HB2
      refine step_appr13 _ w2 (by rfl) _ _ (by rfl) (by rfl) _ _ _ (by rfl) (by rfl) hap ?_
      clear hap
      refine hK.out _ _ HBS.out (fun hHeld => ?_)
      clear hK K
      try dsimp only [Act.put]
      try simp only [List.setIfInBounds_toArray, List.set_cons_zero, List.set_cons_succ]
      refine wpAnyH_ready (rs := [14]) (by kernel_rfl) (by simp) (AllReadyH.cons (op_of rfl) (fun K hK => ?_) AllReadyH.nil)
      go_simp
      refine hK.out _ _ HBS.out (fun hHeld => ?_)
      clear hK K
      try dsimp only [Act.put]
      try simp only [List.setIfInBounds_toArray, List.set_cons_zero, List.set_cons_succ]
      refine wpAnyH_done (by kernel_rfl) ?_ _
      clear hHeld
      go_wp2_with fail
      go_roundw
      case rel => exact ⟨k + 1, A2, c2, rfl, by go_num, by omega, HO2, HB2⟩
      case measure => simp [intOf]; omega
    · obtain rfl : k = m := by omega
      have hi1 : ¬ (k : Int) < (k : Int) := by omega
      have HRV : Hid (Aq wr wr.heap.size A1 l) := Lib.hid (by
        have h1 := rv13_own2 HO.out
        rwa [List.take_of_length_le (by have := HL.out; omega)] at h1)
      go_wp2_with fail
      go_ret
      rw [HP.out]
      exact ⟨A1, c1, rfl, HRV.out, HB.out⟩
end Go.Proofs.Ytojdgcalpdbifaa
