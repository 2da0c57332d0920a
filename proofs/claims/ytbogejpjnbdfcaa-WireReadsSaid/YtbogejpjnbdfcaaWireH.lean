/-
  Numbers and texts as bytes: the document's reader: ints and texts.
-/
import Derived.Test.YtbogejpjnbdfcaaWireG
namespace Go.Proofs.Ytbogejpjnbdfcaa
open Go.RowKit
set_option maxRecDepth 100000

theorem textT_bad {top : Nat} {st : List UInt8 × Int} (h : (numT top st).2.2 ≠ 0) : textT top st = ([], (numT top st).2) := by
  unfold textT
  by_cases h0 : st.2 = 0
  · rw [if_pos h0, if_neg h]
  · rw [if_neg h0]
    unfold numT
    rw [if_neg h0]
theorem textT_ok {top : Nat} {st : List UInt8 × Int} (h : (numT top st).2.2 = 0) : textT top st = if (numT top st).2.1.length < (numT top st).1 then ([], (st.1, 4)) else ((numT top st).2.1.take (numT top st).1, ((numT top st).2.1.drop (numT top st).1, 0)) := by
  have h0 : st.2 = 0 := by
    by_cases h0 : st.2 = 0
    · exact h0
    · unfold numT at h
      rw [if_neg h0] at h
      exact absurd h h0
  unfold textT
  rw [if_pos h0, if_pos h]
theorem mem_s {wr W W' : World} {p q r : Addr} {u v x : Value} (h : W.cell? p = some u ∧ W.cell? q = some v ∧ W.cell? r = some x ∧ Below wr.heap.size wr W) (hb : Below W.heap.size W W') :
    W'.cell? p = some u ∧ W'.cell? q = some v ∧ W'.cell? r = some x ∧ Below wr.heap.size wr W' :=
  ⟨(hb.cell (World.block_lt_of_cell? _ _ h.1)).trans h.1, (hb.cell (World.block_lt_of_cell? _ _ h.2.1)).trans h.2.1, (hb.cell (World.block_lt_of_cell? _ _ h.2.2.1)).trans h.2.2.1, h.2.2.2.trans (hb.mono h.2.2.2.size)⟩
theorem b1_ (w : World) (o : Obj) : Below w.heap.size w (w.alloc o) := (Below.refl _ _).alloc (Nat.le_refl _) _

set_option maxHeartbeats 1000000 in
theorem int5_any (L h : Nat) (full : List UInt8) (p : Nat) (e top : Int) (w : World) (hb : BR w L h full p e) (ht : top ≤ 9223372036854775807) : Calls Try.prog 17 #[.pointer (some ⟨h, 0, none⟩), .int .i64 top] w fun en w' =>
    en = .returned (.int .i64 ((numT top.toNat (full.drop p, e)).1 : Int)) ∧ (∃ p', BR w' L h full p' (numT top.toNat (full.drop p, e)).2.2 ∧ full.drop p' = (numT top.toNat (full.drop p, e)).2.1) ∧ w.grownBy w' (some h) := by
  obtain ⟨m, hm⟩ : ∃ m, top.toNat = m := ⟨_, rfl⟩
  have hm1 : m ≤ 9223372036854775807 := by omega
  have HC := Lib.hid (num5_any L h full p e m w hb (by omega))
  have hle := numT_le m (full.drop p, e)
  rw [hm]
  obtain ⟨R, hR⟩ : ∃ R, numT m (full.drop p, e) = R := ⟨_, rfl⟩
  rw [hR] at HC hle ⊢
  obtain ⟨v, xs', e'⟩ := R
  simp only at hle
  have HM := Lib.hid hm
  clear hR hb hm
  by_cases h0 : top < 0
  · obtain rfl : m = 0 := by have := HM.out; omega
    have HC0 : Hid (Calls Try.prog 15 #[.pointer (some ⟨h, 0, none⟩), .int .u64 0] w fun en w' => en = .returned (.int .u64 (v : Int)) ∧ (∃ p', BR w' L h full p' e' ∧ full.drop p' = xs') ∧ w.grownBy w' (some h)) := HC
    clear HC
    go_enter Try.func17, Try.ntmps17
    go_wp2_with fail
    refine HC0.out.mono ?_
    rintro en w1 ⟨rfl, hw1, hg1⟩
    have HW := Lib.hid hw1
    clear hw1
    go_wp2_with fail
    go_ret
    exact ⟨rfl, HW.out, hg1⟩
  · obtain rfl : top = (m : Int) := by have := HM.out; omega
    go_enter Try.func17, Try.ntmps17
    go_wp2_with fail
    refine HC.out.mono ?_
    rintro en w1 ⟨rfl, hw1, hg1⟩
    have HW := Lib.hid hw1
    clear hw1
    go_wp2_with fail
    go_ret
    exact ⟨rfl, HW.out, hg1⟩

set_option maxHeartbeats 4000000 in
theorem text5_any (L h : Nat) (full : List UInt8) (p : Nat) (e top : Int) (w : World) (hb : BR w L h full p e) (ht : top ≤ 9223372036854775807) : Calls Try.prog 19 #[.pointer (some ⟨h, 0, none⟩), .int .i64 top] w fun en w' =>
    en = .returned (.string ⟨(textT top.toNat (full.drop p, e)).1.toArray⟩) ∧ (∃ p', BR w' L h full p' (textT top.toNat (full.drop p, e)).2.2 ∧ full.drop p' = (textT top.toNat (full.drop p, e)).2.1) ∧ w.grownBy w' (some h) := by
  have HI := Lib.hid (int5_any L h full p e top w hb ht)
  have hle := numT_le top.toNat (full.drop p, e)
  have hok := @textT_ok top.toNat (full.drop p, e)
  have hno := @textT_bad top.toNat (full.drop p, e)
  have hfull : full.length ≤ 1000000 ∧ p ≤ full.length := by obtain ⟨_, _, _, _, _, _, h4, _, h6, h7⟩ := hb; omega
  obtain ⟨T, hT⟩ : ∃ T, textT top.toNat (full.drop p, e) = T := ⟨_, rfl⟩
  rw [hT] at hok hno ⊢
  obtain ⟨R, hR⟩ : ∃ R, numT top.toNat (full.drop p, e) = R := ⟨_, rfl⟩
  rw [hR] at HI hle hok hno
  obtain ⟨v, xs', e1⟩ := R
  simp only at hle
  have HOK := Lib.hid hok
  have HNO := Lib.hid hno
  obtain ⟨A0, n0, c0, a1, _⟩ := hb
  have z1 := a1.cell 1
  clear hT hR a1 hok hno
  go_enter Try.func19, Try.ntmps19
  go_wp2_with fail
  refine HI.out.mono ?_
  rintro en w1 ⟨rfl, ⟨q, hb1, hq⟩, hg1⟩
  have HB1 := Lib.hid hb1
  have HXS := Lib.hid hq
  obtain ⟨A1, n1, c1, b1, b2, b3, b4, b5, b6, b7⟩ := hb1
  have d0 : w1.drew.cell? ⟨h, 0, none⟩ = some (.slice A1 n1 c1) := b1.cell 0
  have d1 : w1.drew.cell? ⟨h, 1, none⟩ = some (.int .i64 (q : Int)) := b1.cell 1
  have d2 : w1.drew.cell? ⟨h, 2, none⟩ = some (.int .i64 e1) := b1.cell 2
  have d3 : w1.drew.cell? ⟨h, 2, none⟩ = some (.int .i64 e1) := b1.cell 2
  have hv : v ≤ 9223372036854775807 := by omega
  have HBd := Lib.hid (HB1.out.drew)
  have hgd := Lib.hid (hg1.trans (grown_drew w1 _))
  clear z1 hle hq b1 b2 b3
  go_wp2_with fail
  by_cases he : e1 = 0
  · subst he
    have hT : T = if xs'.length < v then ([], (full.drop p, 4)) else (xs'.take v, (xs'.drop v, 0)) := HOK.out rfl
    obtain ⟨r, hr⟩ : ∃ r, n1 - q = r := ⟨_, rfl⟩
    have hsub : IntKind.i64.wrap ((n1 : Int) - (q : Int)) = (r : Int) := by rw [IntKind.wrap_i64]; omega
    have hsub2 : ((n1 : Int) - (q : Int)) = (r : Int) := by omega
    have hsub3 : IntKind.i64.wrap (r : Int) = (r : Int) := by rw [IntKind.wrap_i64]; omega
    have hxl : xs'.length = r := by rw [← HXS.out, List.length_drop, b4]; exact hr
    rw [hxl] at hT
    by_cases hlt : r < v
    · rw [if_pos hlt] at hT
      have HTT := Lib.hid hT
      have hd : decide ((r : Int) < (v : Int)) = true := by simp; omega
      clear hT
      refine wp_region_held_drew (S := (fun W => W.cell? ⟨h, 0, none⟩ = some (.slice A1 n1 c1) ∧ W.cell? ⟨h, 1, none⟩ = some (.int .i64 (q : Int)) ∧ W.cell? ⟨h, 2, none⟩ = some (.int .i64 0))) (by kernel_rfl) ⟨d0, d1, d2⟩ (fun hHeld => ?_)
      refine wpAnyH_take (i := 0) (v := ?_) (op_of rfl) (by kernel_rfl) (by kernel_rfl) (by kernel_rfl) (fun _ _ _ h => h) (Or.inl ⟨by rfl, fun w hS => ?_⟩) (by assumption) ?_
      rotate_left
      · dsimp only at hS
        go_simp
        try with_reducible rfl
      try dsimp only [Act.put]
      try simp only [List.setIfInBounds_toArray, List.set_cons_zero, List.set_cons_succ]
      refine wpAnyH_take (i := 1) (v := ?_) (op_of rfl) (by kernel_rfl) (by kernel_rfl) (by kernel_rfl) (fun _ _ _ h => h) (Or.inl ⟨by rfl, fun w hS => ?_⟩) (by assumption) ?_
      rotate_left
      · dsimp only at hS
        go_simp
        try with_reducible rfl
      try dsimp only [Act.put]
      try simp only [List.setIfInBounds_toArray, List.set_cons_zero, List.set_cons_succ]
      refine wpAnyH_take (i := 2) (v := ?_) (op_of rfl) (by kernel_rfl) (by kernel_rfl) (by kernel_rfl) (fun _ _ _ h => h) (Or.inl ⟨by rfl, fun w hS => ?_⟩) (by assumption) ?_
      rotate_left
      · dsimp only at hS
        go_simp
        try with_reducible rfl
      try dsimp only [Act.put]
      try simp only [List.setIfInBounds_toArray, List.set_cons_zero, List.set_cons_succ]
      refine wpAnyH_take (i := 3) (v := ?_) (op_of rfl) (by kernel_rfl) (by kernel_rfl) (by kernel_rfl) (fun _ _ _ h => h) (Or.inl ⟨by rfl, fun w hS => ?_⟩) (by assumption) ?_
      rotate_left
      · dsimp only at hS
        go_simp
        try with_reducible rfl
      try dsimp only [Act.put]
      try simp only [List.setIfInBounds_toArray, List.set_cons_zero, List.set_cons_succ]
      refine wpAnyH_take (i := 4) (v := ?_) (op_of rfl) (by kernel_rfl) (by kernel_rfl) (by kernel_rfl) (fun _ _ _ h => h) (Or.inl ⟨by rfl, fun w hS => ?_⟩) (by assumption) ?_
      rotate_left
      · dsimp only at hS
        go_simp
        try with_reducible rfl
      try dsimp only [Act.put]
      try simp only [List.setIfInBounds_toArray, List.set_cons_zero, List.set_cons_succ]
      refine wpAnyH_take (i := 5) (v := ?_) (op_of rfl) (by kernel_rfl) (by kernel_rfl) (by kernel_rfl) (fun _ _ _ h => h) (Or.inl ⟨by rfl, fun w hS => ?_⟩) (by assumption) ?_
      rotate_left
      · dsimp only at hS
        go_simp
        try with_reducible rfl
      try dsimp only [Act.put]
      try simp only [List.setIfInBounds_toArray, List.set_cons_zero, List.set_cons_succ]
      refine wpAnyH_take (i := 6) (v := ?_) (op_of rfl) (by kernel_rfl) (by kernel_rfl) (by kernel_rfl) (fun _ _ _ h => h) (Or.inl ⟨by rfl, fun w hS => ?_⟩) (by assumption) ?_
      rotate_left
      · dsimp only at hS
        go_simp
        try with_reducible rfl
      try dsimp only [Act.put]
      try simp only [List.setIfInBounds_toArray, List.set_cons_zero, List.set_cons_succ]
      refine wpAnyH_take (i := 7) (v := ?_) (op_of rfl) (by kernel_rfl) (by kernel_rfl) (by kernel_rfl) (fun _ _ _ h => h) (Or.inl ⟨by rfl, fun w hS => ?_⟩) (by assumption) ?_
      rotate_left
      · dsimp only at hS
        go_simp
        try with_reducible rfl
      try dsimp only [Act.put]
      try simp only [List.setIfInBounds_toArray, List.set_cons_zero, List.set_cons_succ]
      refine wpAnyH_take (i := 8) (v := ?_) (op_of rfl) (by kernel_rfl) (by kernel_rfl) (by kernel_rfl) (fun _ _ _ h => h) (Or.inl ⟨by rfl, fun w hS => ?_⟩) (by assumption) ?_
      rotate_left
      · dsimp only at hS
        go_simp
        try with_reducible rfl
      try dsimp only [Act.put]
      try simp only [List.setIfInBounds_toArray, List.set_cons_zero, List.set_cons_succ]
      refine wpAnyH_take (i := 9) (v := ?_) (op_of rfl) (by kernel_rfl) (by kernel_rfl) (by kernel_rfl) (fun _ _ _ h => h) (Or.inl ⟨by rfl, fun w hS => ?_⟩) (by assumption) ?_
      rotate_left
      · dsimp only at hS
        go_simp
        try with_reducible rfl
      try dsimp only [Act.put]
      try simp only [List.setIfInBounds_toArray, List.set_cons_zero, List.set_cons_succ]
      refine wpAnyH_take (i := 10) (v := ?_) (op_of rfl) (by kernel_rfl) (by kernel_rfl) (by kernel_rfl) (fun _ _ _ h => h) (Or.inl ⟨by rfl, fun w hS => ?_⟩) (by assumption) ?_
      rotate_left
      · dsimp only at hS
        go_simp
        try with_reducible rfl
      try dsimp only [Act.put]
      try simp only [List.setIfInBounds_toArray, List.set_cons_zero, List.set_cons_succ]
      refine wpAnyH_take (i := 11) (v := ?_) (op_of rfl) (by kernel_rfl) (by kernel_rfl) (by kernel_rfl) (fun _ _ _ h => h) (Or.inl ⟨by rfl, fun w hS => ?_⟩) (by assumption) ?_
      rotate_left
      · dsimp only at hS
        go_simp
        try with_reducible rfl
      try dsimp only [Act.put]
      try simp only [List.setIfInBounds_toArray, List.set_cons_zero, List.set_cons_succ]
      refine wpAnyH_take (i := 12) (v := ?_) (op_of rfl) (by kernel_rfl) (by kernel_rfl) (by kernel_rfl) (fun _ _ _ h => h) (Or.inl ⟨by rfl, fun w hS => ?_⟩) (by assumption) ?_
      rotate_left
      · dsimp only at hS
        go_simp
        try with_reducible rfl
      try dsimp only [Act.put]
      try simp only [List.setIfInBounds_toArray, List.set_cons_zero, List.set_cons_succ]
      refine wpAnyH_take (i := 13) (v := ?_) (op_of rfl) (by kernel_rfl) (by kernel_rfl) (by kernel_rfl) (fun _ _ _ h => h) (Or.inl ⟨by rfl, fun w hS => ?_⟩) (by assumption) ?_
      rotate_left
      · dsimp only at hS
        go_simp
        try with_reducible rfl
      try dsimp only [Act.put]
      try simp only [List.setIfInBounds_toArray, List.set_cons_zero, List.set_cons_succ]
      refine wpAnyH_take (i := 14) (v := ?_) (op_of rfl) (by kernel_rfl) (by kernel_rfl) (by kernel_rfl) (fun _ _ _ h => h) (Or.inl ⟨by rfl, fun w hS => ?_⟩) (by assumption) ?_
      rotate_left
      · dsimp only at hS
        go_simp
        try with_reducible rfl
      try dsimp only [Act.put]
      try simp only [List.setIfInBounds_toArray, List.set_cons_zero, List.set_cons_succ]
      refine wpAnyH_take (i := 15) (v := ?_) (op_of rfl) (by kernel_rfl) (by kernel_rfl) (by kernel_rfl) (fun _ _ _ h => h) (Or.inl ⟨by rfl, fun w hS => ?_⟩) (by assumption) ?_
      rotate_left
      · dsimp only at hS
        go_simp
        try with_reducible rfl
      try dsimp only [Act.put]
      try simp only [List.setIfInBounds_toArray, List.set_cons_zero, List.set_cons_succ]
      refine wpAnyH_take (i := 16) (v := ?_) (op_of rfl) (by kernel_rfl) (by kernel_rfl) (by kernel_rfl) (fun _ _ _ h => h) (Or.inl ⟨by rfl, fun w hS => ?_⟩) (by assumption) ?_
      rotate_left
      · dsimp only at hS
        go_simp
        try with_reducible rfl
      try dsimp only [Act.put]
      try simp only [List.setIfInBounds_toArray, List.set_cons_zero, List.set_cons_succ]
      refine wpAnyH_take (i := 17) (v := ?_) (op_of rfl) (by kernel_rfl) (by kernel_rfl) (by kernel_rfl) (fun _ _ _ h => h) (Or.inl ⟨by rfl, fun w hS => ?_⟩) (by assumption) ?_
      rotate_left
      · dsimp only at hS
        go_simp
        try with_reducible rfl
      try dsimp only [Act.put]
      try simp only [List.setIfInBounds_toArray, List.set_cons_zero, List.set_cons_succ]
      refine wpAnyH_take (i := 18) (v := ?_) (op_of rfl) (by kernel_rfl) (by kernel_rfl) (by kernel_rfl) (fun _ _ _ h => h) (Or.inl ⟨by rfl, fun w hS => ?_⟩) (by assumption) ?_
      rotate_left
      · dsimp only at hS
        go_simp
        try with_reducible rfl
      try dsimp only [Act.put]
      try simp only [List.setIfInBounds_toArray, List.set_cons_zero, List.set_cons_succ]
      refine wpAnyH_done (by kernel_rfl) ?_ _

      go_wp2_with fail
      refine (fail5_any L h full q p 0 4 w1.drew HBd.out hfull.2).mono ?_
      rintro en w2 ⟨rfl, hb2, hg2⟩
      have HB2 := Lib.hid hb2
      obtain ⟨A2, n2, c2, g1, g2⟩ := hb2
      have d4 := g1.cell 2
      clear g1 g2
      go_wp2_with fail
      go_ret
      rw [HTT.out]
      exact ⟨rfl, ⟨p, HB2.out, rfl⟩, hgd.out.trans hg2⟩
    · rw [if_neg hlt] at hT
      have HTT := Lib.hid hT
      have hd : decide ((r : Int) < (v : Int)) = false := by simp; omega
      clear hT
      refine wp_region_held_drew (S := (fun W => W.cell? ⟨h, 0, none⟩ = some (.slice A1 n1 c1) ∧ W.cell? ⟨h, 1, none⟩ = some (.int .i64 (q : Int)) ∧ W.cell? ⟨h, 2, none⟩ = some (.int .i64 0))) (by kernel_rfl) ⟨d0, d1, d2⟩ (fun hHeld => ?_)
      refine wpAnyH_take (i := 0) (v := ?_) (op_of rfl) (by kernel_rfl) (by kernel_rfl) (by kernel_rfl) (fun _ _ _ h => h) (Or.inl ⟨by rfl, fun w hS => ?_⟩) (by assumption) ?_
      rotate_left
      · dsimp only at hS
        go_simp
        try with_reducible rfl
      try dsimp only [Act.put]
      try simp only [List.setIfInBounds_toArray, List.set_cons_zero, List.set_cons_succ]
      refine wpAnyH_take (i := 1) (v := ?_) (op_of rfl) (by kernel_rfl) (by kernel_rfl) (by kernel_rfl) (fun _ _ _ h => h) (Or.inl ⟨by rfl, fun w hS => ?_⟩) (by assumption) ?_
      rotate_left
      · dsimp only at hS
        go_simp
        try with_reducible rfl
      try dsimp only [Act.put]
      try simp only [List.setIfInBounds_toArray, List.set_cons_zero, List.set_cons_succ]
      refine wpAnyH_take (i := 2) (v := ?_) (op_of rfl) (by kernel_rfl) (by kernel_rfl) (by kernel_rfl) (fun _ _ _ h => h) (Or.inl ⟨by rfl, fun w hS => ?_⟩) (by assumption) ?_
      rotate_left
      · dsimp only at hS
        go_simp
        try with_reducible rfl
      try dsimp only [Act.put]
      try simp only [List.setIfInBounds_toArray, List.set_cons_zero, List.set_cons_succ]
      refine wpAnyH_take (i := 3) (v := ?_) (op_of rfl) (by kernel_rfl) (by kernel_rfl) (by kernel_rfl) (fun _ _ _ h => h) (Or.inl ⟨by rfl, fun w hS => ?_⟩) (by assumption) ?_
      rotate_left
      · dsimp only at hS
        go_simp
        try with_reducible rfl
      try dsimp only [Act.put]
      try simp only [List.setIfInBounds_toArray, List.set_cons_zero, List.set_cons_succ]
      refine wpAnyH_take (i := 4) (v := ?_) (op_of rfl) (by kernel_rfl) (by kernel_rfl) (by kernel_rfl) (fun _ _ _ h => h) (Or.inl ⟨by rfl, fun w hS => ?_⟩) (by assumption) ?_
      rotate_left
      · dsimp only at hS
        go_simp
        try with_reducible rfl
      try dsimp only [Act.put]
      try simp only [List.setIfInBounds_toArray, List.set_cons_zero, List.set_cons_succ]
      refine wpAnyH_take (i := 5) (v := ?_) (op_of rfl) (by kernel_rfl) (by kernel_rfl) (by kernel_rfl) (fun _ _ _ h => h) (Or.inl ⟨by rfl, fun w hS => ?_⟩) (by assumption) ?_
      rotate_left
      · dsimp only at hS
        go_simp
        try with_reducible rfl
      try dsimp only [Act.put]
      try simp only [List.setIfInBounds_toArray, List.set_cons_zero, List.set_cons_succ]
      refine wpAnyH_take (i := 6) (v := ?_) (op_of rfl) (by kernel_rfl) (by kernel_rfl) (by kernel_rfl) (fun _ _ _ h => h) (Or.inl ⟨by rfl, fun w hS => ?_⟩) (by assumption) ?_
      rotate_left
      · dsimp only at hS
        go_simp
        try with_reducible rfl
      try dsimp only [Act.put]
      try simp only [List.setIfInBounds_toArray, List.set_cons_zero, List.set_cons_succ]
      refine wpAnyH_take (i := 7) (v := ?_) (op_of rfl) (by kernel_rfl) (by kernel_rfl) (by kernel_rfl) (fun _ _ _ h => h) (Or.inl ⟨by rfl, fun w hS => ?_⟩) (by assumption) ?_
      rotate_left
      · dsimp only at hS
        go_simp
        try with_reducible rfl
      try dsimp only [Act.put]
      try simp only [List.setIfInBounds_toArray, List.set_cons_zero, List.set_cons_succ]
      refine wpAnyH_take (i := 8) (v := ?_) (op_of rfl) (by kernel_rfl) (by kernel_rfl) (by kernel_rfl) (fun _ _ _ h => h) (Or.inl ⟨by rfl, fun w hS => ?_⟩) (by assumption) ?_
      rotate_left
      · dsimp only at hS
        go_simp
        try with_reducible rfl
      try dsimp only [Act.put]
      try simp only [List.setIfInBounds_toArray, List.set_cons_zero, List.set_cons_succ]
      refine wpAnyH_take (i := 9) (v := ?_) (op_of rfl) (by kernel_rfl) (by kernel_rfl) (by kernel_rfl) (fun _ _ _ h => h) (Or.inl ⟨by rfl, fun w hS => ?_⟩) (by assumption) ?_
      rotate_left
      · dsimp only at hS
        go_simp
        try with_reducible rfl
      try dsimp only [Act.put]
      try simp only [List.setIfInBounds_toArray, List.set_cons_zero, List.set_cons_succ]
      refine wpAnyH_take (i := 10) (v := ?_) (op_of rfl) (by kernel_rfl) (by kernel_rfl) (by kernel_rfl) (fun _ _ _ h => h) (Or.inl ⟨by rfl, fun w hS => ?_⟩) (by assumption) ?_
      rotate_left
      · dsimp only at hS
        go_simp
        try with_reducible rfl
      try dsimp only [Act.put]
      try simp only [List.setIfInBounds_toArray, List.set_cons_zero, List.set_cons_succ]
      refine wpAnyH_take (i := 11) (v := ?_) (op_of rfl) (by kernel_rfl) (by kernel_rfl) (by kernel_rfl) (fun _ _ _ h => h) (Or.inl ⟨by rfl, fun w hS => ?_⟩) (by assumption) ?_
      rotate_left
      · dsimp only at hS
        go_simp
        try with_reducible rfl
      try dsimp only [Act.put]
      try simp only [List.setIfInBounds_toArray, List.set_cons_zero, List.set_cons_succ]
      refine wpAnyH_take (i := 12) (v := ?_) (op_of rfl) (by kernel_rfl) (by kernel_rfl) (by kernel_rfl) (fun _ _ _ h => h) (Or.inl ⟨by rfl, fun w hS => ?_⟩) (by assumption) ?_
      rotate_left
      · dsimp only at hS
        go_simp
        try with_reducible rfl
      try dsimp only [Act.put]
      try simp only [List.setIfInBounds_toArray, List.set_cons_zero, List.set_cons_succ]
      refine wpAnyH_take (i := 13) (v := ?_) (op_of rfl) (by kernel_rfl) (by kernel_rfl) (by kernel_rfl) (fun _ _ _ h => h) (Or.inl ⟨by rfl, fun w hS => ?_⟩) (by assumption) ?_
      rotate_left
      · dsimp only at hS
        go_simp
        try with_reducible rfl
      try dsimp only [Act.put]
      try simp only [List.setIfInBounds_toArray, List.set_cons_zero, List.set_cons_succ]
      refine wpAnyH_take (i := 14) (v := ?_) (op_of rfl) (by kernel_rfl) (by kernel_rfl) (by kernel_rfl) (fun _ _ _ h => h) (Or.inl ⟨by rfl, fun w hS => ?_⟩) (by assumption) ?_
      rotate_left
      · dsimp only at hS
        go_simp
        try with_reducible rfl
      try dsimp only [Act.put]
      try simp only [List.setIfInBounds_toArray, List.set_cons_zero, List.set_cons_succ]
      refine wpAnyH_take (i := 15) (v := ?_) (op_of rfl) (by kernel_rfl) (by kernel_rfl) (by kernel_rfl) (fun _ _ _ h => h) (Or.inl ⟨by rfl, fun w hS => ?_⟩) (by assumption) ?_
      rotate_left
      · dsimp only at hS
        go_simp
        try with_reducible rfl
      try dsimp only [Act.put]
      try simp only [List.setIfInBounds_toArray, List.set_cons_zero, List.set_cons_succ]
      refine wpAnyH_take (i := 16) (v := ?_) (op_of rfl) (by kernel_rfl) (by kernel_rfl) (by kernel_rfl) (fun _ _ _ h => h) (Or.inl ⟨by rfl, fun w hS => ?_⟩) (by assumption) ?_
      rotate_left
      · dsimp only at hS
        go_simp
        try with_reducible rfl
      try dsimp only [Act.put]
      try simp only [List.setIfInBounds_toArray, List.set_cons_zero, List.set_cons_succ]
      refine wpAnyH_take (i := 17) (v := ?_) (op_of rfl) (by kernel_rfl) (by kernel_rfl) (by kernel_rfl) (fun _ _ _ h => h) (Or.inl ⟨by rfl, fun w hS => ?_⟩) (by assumption) ?_
      rotate_left
      · dsimp only at hS
        go_simp
        try with_reducible rfl
      try dsimp only [Act.put]
      try simp only [List.setIfInBounds_toArray, List.set_cons_zero, List.set_cons_succ]
      refine wpAnyH_take (i := 18) (v := ?_) (op_of rfl) (by kernel_rfl) (by kernel_rfl) (by kernel_rfl) (fun _ _ _ h => h) (Or.inl ⟨by rfl, fun w hS => ?_⟩) (by assumption) ?_
      rotate_left
      · dsimp only at hS
        go_simp
        try with_reducible rfl
      try dsimp only [Act.put]
      try simp only [List.setIfInBounds_toArray, List.set_cons_zero, List.set_cons_succ]
      refine wpAnyH_done (by kernel_rfl) ?_ _

      clear hd hsub hsub2 hsub3 d0 d1 d2 hHeld
      have hrq : q + r ≤ full.length ∧ v ≤ r := by omega
      go_wp2_with fail
      go_loopw [7, 8] (fun y7 y8 wr => ∃ (k : Nat) (t : ByteArray), y8 = .int .i64 (k : Int) ∧ y7 = .string t ∧ k ≤ v ∧ Hid (t.data.toList = xs'.take k) ∧ Hid (BR wr L h full (q + k) 0) ∧ Hid (w.grownBy wr (some h))) (fun _ y8 _ => v - (intOf y8).toNat)
      case atStart => exact ⟨0, ⟨#[]⟩, rfl, rfl, by omega, Lib.hid (by simp), HBd, hgd⟩
      case round =>
        obtain ⟨k, t, rfl, rfl, hk, HTK, HBK, HGK⟩ := hrel
        by_cases hkv : k < v
        · obtain ⟨z, hz⟩ : ∃ z, q + k = z := ⟨_, rfl⟩
          rw [hz] at HBK
          have HZ := Lib.hid hz
          obtain ⟨A2, n2, c2, b1, b2, b3, g4, g5, g6, g7⟩ := HBK.out
          have hzn : z < n2 := by omega
          obtain ⟨b, o, rfl, b8⟩ := b2 (by rintro rfl; simp at g4; omega)
          obtain ⟨d, hdd⟩ : ∃ d, full[z]'(by omega) = d := ⟨_, rfl⟩
          have hcell := b8.2 z (by omega)
          rw [at8_in (by omega), hdd] at hcell
          have HD : Hid (xs'.take k ++ [d] = xs'.take (k + 1)) := Lib.hid (by
            have hk1 : k < xs'.length := by omega
            rw [List.take_add_one, List.getElem?_eq_getElem hk1]
            congr 1
            rw [← hdd]
            have : xs'[k]? = full[z]? := by rw [← HXS.out, List.getElem?_drop, hz]
            rw [List.getElem?_eq_getElem hk1] at this
            rw [List.getElem?_eq_getElem (by omega)] at this
            simpa using (Option.some.inj this).symm)
          have d0 : wr.drew.cell? ⟨h, 0, none⟩ = some (.slice (some ⟨b, o, none⟩) n2 c2) := b1.cell 0
          have d1 : wr.drew.cell? ⟨h, 1, none⟩ = some (.int .i64 (z : Int)) := b1.cell 1
          have d3 : wr.drew.cell? ⟨b, o + z, none⟩ = some (.int .u8 (d.toNat : Int)) := hcell
          have hi0 : (0 : Int) ≤ (z : Int) := by omega
          have hi1 : (z : Int) < (n2 : Int) := by omega
          have hcv := conv_bytes (wr.drew.alloc (.cells #[.int .u8 (d.toNat : Int)] 5)) (wr.heap.size + 1) (some ⟨wr.heap.size, 0, none⟩) [d] 1 1 (Rb.one wr.drew d _) rfl
          have hcv2 := conv_bytes (wr.alloc (.cells #[.int .u8 (d.toNat : Int)] 5)).drew (wr.heap.size + 1) (some ⟨wr.heap.size, 0, none⟩) [d] 1 1 (Rb.one wr d _) rfl
          obtain ⟨D, hD⟩ : ∃ D : ByteArray, (⟨[d].toArray⟩ : ByteArray) = D := ⟨_, rfl⟩
          rw [hD] at hcv hcv2
          have hDs : D.size = 1 := by rw [← hD]; rfl
          have hts : t.size ≤ 1000000 := by
            have h8 : t.data.toList.length = t.size := by rw [Array.length_toList]; rfl
            rw [← h8, HTK.out, List.length_take]
            omega
          have hadd := fun W => run_string_add_sum (P := Try.prog) W t D (by omega)
          have HDD : Hid (D.data.toList = [d]) := Lib.hid (by rw [← hD])
          have f1 := ((BR.below HBK.out ((b1_ wr (.cells #[.int .u8 (d.toNat : Int)] 5)).drew)))
          have HB3 := Lib.hid f1
          obtain ⟨A3, n3, c3, g8, g9⟩ := f1
          have d6 := g8.cell 1
          have d7 := g8.frozen 1
          clear g8 g9 b1 b2 b3 b8 hcell hdd hD hz
          go_wp2_with fail
          refine wp_region_held_drew (S := (fun W => W.cell? ⟨h, 0, none⟩ = some (.slice (some ⟨b, o, none⟩) n2 c2) ∧ W.cell? ⟨h, 1, none⟩ = some (.int .i64 (z : Int)) ∧ W.cell? ⟨b, o + z, none⟩ = some (.int .u8 (d.toNat : Int)) ∧ Below wr.heap.size wr W)) (by kernel_rfl) ⟨d0, d1, d3, (Below.refl _ _).drew⟩ (fun hHeld => ?_)
          refine wpAnyH_take (i := 0) (v := ?_) (op_of rfl) (by kernel_rfl) (by kernel_rfl) (by kernel_rfl) (fun _ _ _ h => h) (Or.inl ⟨by rfl, fun w hS => ?_⟩) (by assumption) ?_
          rotate_left
          · dsimp only at hS
            go_simp
            try with_reducible rfl
          try dsimp only [Act.put]
          try simp only [List.setIfInBounds_toArray, List.set_cons_zero, List.set_cons_succ]
          refine wpAnyH_take (i := 1) (v := ?_) (op_of rfl) (by kernel_rfl) (by kernel_rfl) (by kernel_rfl) (fun _ _ _ h => h) (Or.inl ⟨by rfl, fun w hS => ?_⟩) (by assumption) ?_
          rotate_left
          · dsimp only at hS
            go_simp
            try with_reducible rfl
          try dsimp only [Act.put]
          try simp only [List.setIfInBounds_toArray, List.set_cons_zero, List.set_cons_succ]
          refine wpAnyH_take (i := 2) (v := ?_) (op_of rfl) (by kernel_rfl) (by kernel_rfl) (by kernel_rfl) (fun _ _ _ h => h) (Or.inl ⟨by rfl, fun w hS => ?_⟩) (by assumption) ?_
          rotate_left
          · dsimp only at hS
            go_simp
            try with_reducible rfl
          try dsimp only [Act.put]
          try simp only [List.setIfInBounds_toArray, List.set_cons_zero, List.set_cons_succ]
          refine wpAnyH_take (i := 3) (v := ?_) (op_of rfl) (by kernel_rfl) (by kernel_rfl) (by kernel_rfl) (fun _ _ _ h => h) (Or.inl ⟨by rfl, fun w hS => ?_⟩) (by assumption) ?_
          rotate_left
          · dsimp only at hS
            go_simp
            try with_reducible rfl
          try dsimp only [Act.put]
          try simp only [List.setIfInBounds_toArray, List.set_cons_zero, List.set_cons_succ]
          refine wpAnyH_take (i := 4) (v := ?_) (op_of rfl) (by kernel_rfl) (by kernel_rfl) (by kernel_rfl) (fun _ _ _ h => h) (Or.inl ⟨by rfl, fun w hS => ?_⟩) (by assumption) ?_
          rotate_left
          · dsimp only at hS
            go_simp
            try with_reducible rfl
          try dsimp only [Act.put]
          try simp only [List.setIfInBounds_toArray, List.set_cons_zero, List.set_cons_succ]
          refine wpAnyH_take (i := 5) (v := ?_) (op_of rfl) (by kernel_rfl) (by kernel_rfl) (by kernel_rfl) (fun _ _ _ h => h) (Or.inl ⟨by rfl, fun w hS => ?_⟩) (by assumption) ?_
          rotate_left
          · dsimp only at hS
            go_simp
            try with_reducible rfl
          try dsimp only [Act.put]
          try simp only [List.setIfInBounds_toArray, List.set_cons_zero, List.set_cons_succ]
          refine wpAnyH_take (i := 6) (v := ?_) (op_of rfl) (by kernel_rfl) (by kernel_rfl) (by kernel_rfl) (fun _ _ _ h => h) (Or.inl ⟨by rfl, fun w hS => ?_⟩) (by assumption) ?_
          rotate_left
          · dsimp only at hS
            go_simp
            try with_reducible rfl
          try dsimp only [Act.put]
          try simp only [List.setIfInBounds_toArray, List.set_cons_zero, List.set_cons_succ]
          refine wpAnyH_take (i := 7) (v := ?_) (op_of rfl) (by kernel_rfl) (by kernel_rfl) (by kernel_rfl) (fun _ _ _ h => h) (Or.inl ⟨by rfl, fun w hS => ?_⟩) (by assumption) ?_
          rotate_left
          · dsimp only at hS
            go_simp
            try with_reducible rfl
          try dsimp only [Act.put]
          try simp only [List.setIfInBounds_toArray, List.set_cons_zero, List.set_cons_succ]
          refine wpAnyH_take (i := 8) (v := ?_) (op_of rfl) (by kernel_rfl) (by kernel_rfl) (by kernel_rfl) (fun _ _ _ h => h) (Or.inl ⟨by rfl, fun w hS => ?_⟩) (by assumption) ?_
          rotate_left
          · dsimp only at hS
            go_simp
            try with_reducible rfl
          try dsimp only [Act.put]
          try simp only [List.setIfInBounds_toArray, List.set_cons_zero, List.set_cons_succ]
          refine wpAnyH_take (i := 9) (v := ?_) (op_of rfl) (by kernel_rfl) (by kernel_rfl) (by kernel_rfl) (fun _ _ _ h => h) (Or.inl ⟨by rfl, fun w hS => ?_⟩) (by assumption) ?_
          rotate_left
          · dsimp only at hS
            go_simp
            try with_reducible rfl
          try dsimp only [Act.put]
          try simp only [List.setIfInBounds_toArray, List.set_cons_zero, List.set_cons_succ]
          refine wpAnyH_take (i := 10) (v := ?_) (op_of rfl) (by kernel_rfl) (by kernel_rfl) (by kernel_rfl) (fun _ _ _ h => h) (Or.inl ⟨by rfl, fun w hS => ?_⟩) (by assumption) ?_
          rotate_left
          · dsimp only at hS
            go_simp
            try with_reducible rfl
          try dsimp only [Act.put]
          try simp only [List.setIfInBounds_toArray, List.set_cons_zero, List.set_cons_succ]
          refine wpAnyH_ready (rs := [11]) (by kernel_rfl) (by simp) (AllReadyH.cons (op_of rfl) (fun K hK => ?_) AllReadyH.nil)
          go_simp
          refine hK.out _ _ (mem_s hHeld (b1_ _ _)) (fun hHeld1 => ?_)
          clear hK K
          try dsimp only [Act.put]
          try simp only [List.setIfInBounds_toArray, List.set_cons_zero, List.set_cons_succ]
          refine wpAnyH_ready (rs := [12]) (by kernel_rfl) (by simp) (AllReadyH.cons (op_of rfl) (fun K hK => ?_) AllReadyH.nil)
          go_simp
          refine hK.out _ _ (by assumption) (fun hHeld2 => ?_)
          clear hK K
          try dsimp only [Act.put]
          try simp only [List.setIfInBounds_toArray, List.set_cons_zero, List.set_cons_succ]
          refine wpAnyH_ready (rs := [13]) (by kernel_rfl) (by simp) (AllReadyH.cons (op_of rfl) (fun K hK => ?_) AllReadyH.nil)
          go_simp
          refine hK.out _ _ (by assumption) (fun hHeld3 => ?_)
          clear hK K
          try dsimp only [Act.put]
          try simp only [List.setIfInBounds_toArray, List.set_cons_zero, List.set_cons_succ]
          refine wpAnyH_ready (rs := [14]) (by kernel_rfl) (by simp) (AllReadyH.cons (op_of rfl) (fun K hK => ?_) AllReadyH.nil)
          go_simp
          refine hK.out _ _ (by assumption) (fun hHeld4 => ?_)
          clear hK K
          try dsimp only [Act.put]
          try simp only [List.setIfInBounds_toArray, List.set_cons_zero, List.set_cons_succ]
          refine wpAnyH_done (by kernel_rfl) ?_ _
          go_wp2_with fail
          go_roundw
          case rel =>
            refine ⟨k + 1, t ++ D, by go_num, rfl, by omega, Lib.hid ?_, Lib.hid ?_, Lib.hid ?_⟩
            · rw [ByteArray.data_append, Array.toList_append, HTK.out, HDD.out, HD.out]
            · rw [show q + (k + 1) = z + 1 by have := HZ.out; omega]
              first
                | exact HB3.out.next (by omega)
                | exact ((BR.below HBK.out (b1_ wr (.cells #[.int .u8 (d.toNat : Int)] 5))).next (by omega)).drew
            · first
                | exact ((HGK.out.trans (World.grownBy_alloc wr _ _)).trans (grown_drew _ _)).trans (grown_set _ h 1 _)
                | exact ((HGK.out.trans (World.grownBy_alloc wr _ _)).trans (grown_set _ h 1 _)).trans (grown_drew _ _)
          case measure => simp [intOf]; omega
        · obtain rfl : k = v := by omega
          go_wp2_with fail
          go_ret
          rw [HTT.out]
          exact ⟨by rw [← HTK.out]; rfl, ⟨q + k, HBK.out, by rw [← HXS.out, List.drop_drop]⟩, HGK.out⟩
  · have hee : (e1 == 0) = false := by simpa using he
    refine wp_region_held_drew (S := (fun W => W.cell? ⟨h, 0, none⟩ = some (.slice A1 n1 c1) ∧ W.cell? ⟨h, 1, none⟩ = some (.int .i64 (q : Int)) ∧ W.cell? ⟨h, 2, none⟩ = some (.int .i64 e1))) (by kernel_rfl) ⟨d0, d1, d2⟩ (fun hHeld => ?_)
    refine wpAnyH_take (i := 0) (v := ?_) (op_of rfl) (by kernel_rfl) (by kernel_rfl) (by kernel_rfl) (fun _ _ _ h => h) (Or.inl ⟨by rfl, fun w hS => ?_⟩) (by assumption) ?_
    rotate_left
    · dsimp only at hS
      go_simp
      try with_reducible rfl
    try dsimp only [Act.put]
    try simp only [List.setIfInBounds_toArray, List.set_cons_zero, List.set_cons_succ]
    refine wpAnyH_take (i := 1) (v := ?_) (op_of rfl) (by kernel_rfl) (by kernel_rfl) (by kernel_rfl) (fun _ _ _ h => h) (Or.inl ⟨by rfl, fun w hS => ?_⟩) (by assumption) ?_
    rotate_left
    · dsimp only at hS
      go_simp
      try with_reducible rfl
    try dsimp only [Act.put]
    try simp only [List.setIfInBounds_toArray, List.set_cons_zero, List.set_cons_succ]
    refine wpAnyH_take (i := 2) (v := ?_) (op_of rfl) (by kernel_rfl) (by kernel_rfl) (by kernel_rfl) (fun _ _ _ h => h) (Or.inl ⟨by rfl, fun w hS => ?_⟩) (by assumption) ?_
    rotate_left
    · dsimp only at hS
      go_simp
      try with_reducible rfl
    try dsimp only [Act.put]
    try simp only [List.setIfInBounds_toArray, List.set_cons_zero, List.set_cons_succ]
    refine wpAnyH_take (i := 3) (v := ?_) (op_of rfl) (by kernel_rfl) (by kernel_rfl) (by kernel_rfl) (fun _ _ _ h => h) (Or.inl ⟨by rfl, fun w hS => ?_⟩) (by assumption) ?_
    rotate_left
    · dsimp only at hS
      go_simp
      try with_reducible rfl
    try dsimp only [Act.put]
    try simp only [List.setIfInBounds_toArray, List.set_cons_zero, List.set_cons_succ]
    refine wpAnyH_take (i := 4) (v := ?_) (op_of rfl) (by kernel_rfl) (by kernel_rfl) (by kernel_rfl) (fun _ _ _ h => h) (Or.inl ⟨by rfl, fun w hS => ?_⟩) (by assumption) ?_
    rotate_left
    · dsimp only at hS
      go_simp
      try with_reducible rfl
    try dsimp only [Act.put]
    try simp only [List.setIfInBounds_toArray, List.set_cons_zero, List.set_cons_succ]
    refine wpAnyH_take (i := 5) (v := ?_) (op_of rfl) (by kernel_rfl) (by kernel_rfl) (by kernel_rfl) (fun _ _ _ h => h) (Or.inl ⟨by rfl, fun w hS => ?_⟩) (by assumption) ?_
    rotate_left
    · dsimp only at hS
      go_simp
      try with_reducible rfl
    try dsimp only [Act.put]
    try simp only [List.setIfInBounds_toArray, List.set_cons_zero, List.set_cons_succ]
    refine take_skip (i := 6) (op_of rfl) (by kernel_rfl) (by kernel_rfl) (by kernel_rfl) (fun _ _ _ h => h) (by rfl) (by assumption) ?_
    try dsimp only [Act.put]
    try simp only [List.setIfInBounds_toArray, List.set_cons_zero, List.set_cons_succ]
    refine take_skip (i := 7) (op_of rfl) (by kernel_rfl) (by kernel_rfl) (by kernel_rfl) (fun _ _ _ h => h) (by rfl) (by assumption) ?_
    try dsimp only [Act.put]
    try simp only [List.setIfInBounds_toArray, List.set_cons_zero, List.set_cons_succ]
    refine take_skip (i := 8) (op_of rfl) (by kernel_rfl) (by kernel_rfl) (by kernel_rfl) (fun _ _ _ h => h) (by rfl) (by assumption) ?_
    try dsimp only [Act.put]
    try simp only [List.setIfInBounds_toArray, List.set_cons_zero, List.set_cons_succ]
    refine take_skip (i := 9) (op_of rfl) (by kernel_rfl) (by kernel_rfl) (by kernel_rfl) (fun _ _ _ h => h) (by rfl) (by assumption) ?_
    try dsimp only [Act.put]
    try simp only [List.setIfInBounds_toArray, List.set_cons_zero, List.set_cons_succ]
    refine take_skip (i := 10) (op_of rfl) (by kernel_rfl) (by kernel_rfl) (by kernel_rfl) (fun _ _ _ h => h) (by rfl) (by assumption) ?_
    try dsimp only [Act.put]
    try simp only [List.setIfInBounds_toArray, List.set_cons_zero, List.set_cons_succ]
    refine take_skip (i := 11) (op_of rfl) (by kernel_rfl) (by kernel_rfl) (by kernel_rfl) (fun _ _ _ h => h) (by rfl) (by assumption) ?_
    try dsimp only [Act.put]
    try simp only [List.setIfInBounds_toArray, List.set_cons_zero, List.set_cons_succ]
    refine take_skip (i := 12) (op_of rfl) (by kernel_rfl) (by kernel_rfl) (by kernel_rfl) (fun _ _ _ h => h) (by rfl) (by assumption) ?_
    try dsimp only [Act.put]
    try simp only [List.setIfInBounds_toArray, List.set_cons_zero, List.set_cons_succ]
    refine take_skip (i := 13) (op_of rfl) (by kernel_rfl) (by kernel_rfl) (by kernel_rfl) (fun _ _ _ h => h) (by rfl) (by assumption) ?_
    try dsimp only [Act.put]
    try simp only [List.setIfInBounds_toArray, List.set_cons_zero, List.set_cons_succ]
    refine take_skip (i := 14) (op_of rfl) (by kernel_rfl) (by kernel_rfl) (by kernel_rfl) (fun _ _ _ h => h) (by rfl) (by assumption) ?_
    try dsimp only [Act.put]
    try simp only [List.setIfInBounds_toArray, List.set_cons_zero, List.set_cons_succ]
    refine take_skip (i := 15) (op_of rfl) (by kernel_rfl) (by kernel_rfl) (by kernel_rfl) (fun _ _ _ h => h) (by rfl) (by assumption) ?_
    try dsimp only [Act.put]
    try simp only [List.setIfInBounds_toArray, List.set_cons_zero, List.set_cons_succ]
    refine take_skip (i := 16) (op_of rfl) (by kernel_rfl) (by kernel_rfl) (by kernel_rfl) (fun _ _ _ h => h) (by rfl) (by assumption) ?_
    try dsimp only [Act.put]
    try simp only [List.setIfInBounds_toArray, List.set_cons_zero, List.set_cons_succ]
    refine take_skip (i := 17) (op_of rfl) (by kernel_rfl) (by kernel_rfl) (by kernel_rfl) (fun _ _ _ h => h) (by rfl) (by assumption) ?_
    try dsimp only [Act.put]
    try simp only [List.setIfInBounds_toArray, List.set_cons_zero, List.set_cons_succ]
    refine wpAnyH_take (i := 18) (v := ?_) (op_of rfl) (by kernel_rfl) (by kernel_rfl) (by kernel_rfl) (fun _ _ _ h => h) (Or.inl ⟨by rfl, fun w hS => ?_⟩) (by assumption) ?_
    rotate_left
    · dsimp only at hS
      go_simp
      try with_reducible rfl
    try dsimp only [Act.put]
    try simp only [List.setIfInBounds_toArray, List.set_cons_zero, List.set_cons_succ]
    refine wpAnyH_done (by kernel_rfl) ?_ _
    go_wp2_with fail
    go_ret
    have hT : T = ([], (xs', e1)) := HNO.out he
    rw [hT]
    exact ⟨rfl, ⟨q, HBd.out, HXS.out⟩, hgd.out⟩
end Go.Proofs.Ytbogejpjnbdfcaa
