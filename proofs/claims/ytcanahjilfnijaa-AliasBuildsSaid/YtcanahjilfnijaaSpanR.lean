/-
  Weights laid side by side: the document's Total.
-/
import Derived.Test.YtcanahjilfnijaaSpanA
namespace Go.Proofs.Ytcanahjilfnijaa
open Go.RowKit
set_option maxRecDepth 100000

theorem nil_num9 (w : World) (L : Nat) : Num w L (.agg #[.slice none 0 0]) 0 := ⟨none, [], 0, 0, rfl, rfl, Nat.le_refl _, Rd.nil _ _ _, fun h => absurd rfl h, Can.nil, rfl⟩
/-- A store into a variable that holds a slice moves no number. -/
theorem num_setS9 {w : World} {L g n c a : Nat} {A : Option Addr} {v u : Value} (h : Num w L v a) (hg : w.cell? ⟨g, 0, none⟩ = some (.slice A n c)) : Num (w.setCell ⟨g, 0, none⟩ u) L v a := by
  obtain ⟨A', xs, n', c', h1, hl, h2, h3, h4, h5⟩ := h
  refine ⟨A', xs, n', c', h1, hl, h2, ?_, h4, h5⟩
  rw [setCell_size]
  intro hx
  obtain ⟨b, o, e1, e2, e3⟩ := h3 hx
  refine ⟨b, o, e1, e2, fun k hk => ?_⟩
  rw [World.cell?_setCell_other w _ _ u (fun e => by have := e3 k hk; rw [← e, hg] at this; cases this)]
  exact e3 k hk
/-- What the box of the sum holds. -/
structure Tot9 (w : World) (A : Option Addr) (n c s : Nat) (W : World) : Prop where
  below : Below w.heap.size w W
  box : Blk W w.heap.size 36 #[.slice A n c]
  num : ∃ L, Num W L (.agg #[.slice A n c]) s
theorem Tot9.step {w W W' : World} {A : Option Addr} {n c s : Nat} (h : Tot9 w A n c s W) (hb : Below W.heap.size W W') : Tot9 w A n c s W' :=
  ⟨h.below.trans (hb.mono h.below.size), h.box.below hb h.box.lt, h.num.imp fun _ q => q.below hb⟩
theorem Tot9.put {w W W' : World} {A A2 : Option Addr} {n c s n2 c2 t L : Nat} (h : Tot9 w A n c s W) (hb : Below W.heap.size W W') (hn : Num W' L (.agg #[.slice A2 n2 c2]) t) : Tot9 w A2 n2 c2 t (W'.setCell ⟨w.heap.size, 0, none⟩ (.slice A2 n2 c2)) :=
  ⟨(h.below.trans (hb.mono h.below.size)).setCell (Nat.le_refl _) _, by simpa using (h.box.below hb h.box.lt).set_ 0 (.slice A2 n2 c2), L, num_setS9 hn ((h.box.below hb h.box.lt).cell 0)⟩
theorem bel_drew9 {W W' : World} (h : Below W.drew.heap.size W.drew W') : Below W.heap.size W W' := (Below.refl W.heap.size W).drew.trans h

set_option maxHeartbeats 4000000 in
theorem rtotal_any (A : Option Addr) (xs : List Nat) (n c : Nat) (w : World) (hl : xs.length = n) (hr : Rq w w.heap.size A xs) (hx : ∀ x ∈ xs, x < 18446744073709551616) (hn : n ≤ 1000000) :
    Calls Try.prog 7 #[.slice A n c] w fun e w' => e = .returned (.tuple #[.int .u64 ((fw (up9 xs n) : Nat) : Int), .bool (fb (up9 xs n))]) ∧ Below w.heap.size w w' := by
  have HL := Lib.hid hl
  have HX := Lib.hid hx
  have HR := Lib.hid hr
  have HP := Lib.hid (fun k (hk : k ≤ n) => up9_pow hx (show k ≤ 1000000 by omega))
  have ht0 : Tot9 w none 0 0 0 (w.alloc (.cells #[.slice none 0 0] 36)) := ⟨b1' w _, Blk.new _ _ _, 0, nil_num9 _ _⟩
  have HT0 := Lib.hid ht0
  clear hl hx hr ht0
  go_enter Try.func7, Try.ntmps7
  go_wp2_with fail
  go_loopw [5] (fun i wr => ∃ (k : Nat) (A1 : Option Addr) (n1 c1 : Nat), i = .int .i64 (k : Int) ∧ k ≤ n ∧ Hid (Tot9 w A1 n1 c1 (up9 xs k) wr)) (fun i _ => n - (intOf i).toNat)
  case atStart => exact ⟨0, none, 0, 0, rfl, by omega, HT0⟩
  case round =>
    obtain ⟨k, A1, n1, c1, rfl, hk, HM⟩ := hrel
    have q0 : wr.cell? ⟨w.heap.size, 0, none⟩ = some (.slice A1 n1 c1) := HM.out.box.cell 0
    by_cases ht : k < n
    · obtain ⟨a, o, hA, ha, hc⟩ := Rq.at_ (Rv.below HR.out HM.out.below (Nat.le_refl _)) (show k < xs.length by have := HL.out; omega)
      subst hA
      obtain ⟨x, hxk⟩ : ∃ x, nth xs k = x := ⟨_, rfl⟩
      have hx64 : x < 18446744073709551616 := by rw [← hxk]; exact nth_lt9 HX.out k
      have hus : up9 xs (k + 1) = up9 xs k + x := by rw [up9_succ, hxk]
      rw [hxk] at hc
      have hi0 : (0 : Int) ≤ (k : Int) := by omega
      have hi1 : (k : Int) < (n : Int) := by omega
      have hP := HP.out k hk
      obtain ⟨s, hs⟩ : ∃ s, up9 xs k = s := ⟨_, rfl⟩
      rw [hs] at HM hus hP
      have HU := Lib.hid hus
      have HPX := Lib.hid (And.intro hP (pow_word hx64))
      have hgl := HM.out.box.lt
      have HOF := Lib.hid (fun W => of_any x W hx64)
      clear hxk hs hus hP
      -- the region
      have hc0 : w.cell? ⟨a, o + k, none⟩ = some (.int .u64 (x : Int)) := (HM.out.below.cell (p := ⟨a, o + k, none⟩) ha).symm.trans hc
      go_wp2_with fail
      have HB0 := Lib.hid ((HM.out.below).drew)
      refine wp_region_held_drew (S := fun W => Below w.heap.size w W) (by kernel_rfl) HB0.out (fun hHeld => ?_)
      have HM := Lib.hid (HM.out.step (Below.refl wr.heap.size wr).drew)
      obtain ⟨wn, hwn⟩ : ∃ W, wr.drew = W := ⟨_, rfl⟩
      rw [hwn] at HM hHeld HB0
      rw [hwn]
      have q0 : wn.cell? ⟨w.heap.size, 0, none⟩ = some (.slice A1 n1 c1) := HM.out.box.cell 0
      have HBS := HB0
      clear hwn hc
      refine wpAnyH_take (i := 1) (v := ?_) (op_of rfl) (by kernel_rfl) (by kernel_rfl) (by kernel_rfl) (fun _ _ _ h => h) (Or.inl ⟨by rfl, fun W hS => ?_⟩) (by assumption) ?_
      rotate_left
      · dsimp only at hS
        go_simp
        try with_reducible rfl
      try dsimp only [Act.put]
      try simp only [List.setIfInBounds_toArray, List.set_cons_zero, List.set_cons_succ]
      refine wpAnyH_take (i := 2) (v := ?_) (op_of rfl) (by kernel_rfl) (by kernel_rfl) (by kernel_rfl) (fun _ _ _ h => h) (Or.inl ⟨by rfl, fun W hS => ?_⟩) (by assumption) ?_
      rotate_left
      · dsimp only at hS
        go_simp
        try with_reducible rfl
      try dsimp only [Act.put]
      try simp only [List.setIfInBounds_toArray, List.set_cons_zero, List.set_cons_succ]
      refine wpAnyH_take (i := 3) (v := ?_) (op_of rfl) (by kernel_rfl) (by kernel_rfl) (by kernel_rfl) (fun _ _ _ h => h) (Or.inl ⟨by rfl, fun W hS => ?_⟩) (by assumption) ?_
      rotate_left
      · dsimp only at hS
        go_simp
        try with_reducible rfl
      try dsimp only [Act.put]
      try simp only [List.setIfInBounds_toArray, List.set_cons_zero, List.set_cons_succ]
      refine wpAnyH_take (i := 4) (v := ?_) (op_of rfl) (by kernel_rfl) (by kernel_rfl) (by kernel_rfl) (fun _ _ _ h => h) (Or.inl ⟨by rfl, fun W hS => ?_⟩) (by assumption) ?_
      rotate_left
      · dsimp only at hS
        have z4 := (hS.cell (p := ⟨a, o + k, none⟩) ha).trans hc0
        go_simp
        try with_reducible rfl
      try dsimp only [Act.put]
      try simp only [List.setIfInBounds_toArray, List.set_cons_zero, List.set_cons_succ]
      refine wpAnyH_ready (rs := [0, 5]) (by kernel_rfl) (by simp) (AllReadyH.cons (op_of rfl) (fun K hK => ?_) (AllReadyH.cons (op_of rfl) (fun K hK => ?_) AllReadyH.nil))
      · skip
        go_simp
        refine hK.out _ _ HBS.out (fun hHeld => ?_)
        clear hK K
        try dsimp only [Act.put]
        try simp only [List.setIfInBounds_toArray, List.set_cons_zero, List.set_cons_succ]
        refine wpAnyH_ready (rs := [5]) (by kernel_rfl) (by simp) (AllReadyH.cons (op_of rfl) (fun K hK => ?_) AllReadyH.nil)
        go_simp
        refine (HOF.out wn).mono ?_
        rintro en wn ⟨v1, rfl, hn1, hb⟩
        obtain ⟨A3, n3, c3, rfl⟩ := hn1.shape
        have HN1 := Lib.hid hn1
        have HM := Lib.hid (HM.out.step hb)
        have q0 : wn.cell? ⟨w.heap.size, 0, none⟩ = some (.slice A1 n1 c1) := HM.out.box.cell 0
        have HBS := Lib.hid (HBS.out.trans (hb.mono HBS.out.size))
        clear hb hn1
        refine hK.out _ _ HBS.out (fun hHeld => ?_)
        clear hK K
        try dsimp only [Act.put]
        try simp only [List.setIfInBounds_toArray, List.set_cons_zero, List.set_cons_succ]
        refine wpAnyH_ready (rs := [6]) (by kernel_rfl) (by simp) (AllReadyH.cons (op_of rfl) (fun K hK => ?_) AllReadyH.nil)
        go_simp
        refine (add_num (j := 100) (k := 100) _ _ s x _ _ wn HM.out.num.choose_spec HN1.out HPX.out.1 HPX.out.2).mono ?_
        rintro en wn ⟨v2, rfl, hn2, hb⟩
        obtain ⟨A2, n2, c2, rfl⟩ := hn2.shape
        have HM2 := Lib.hid (HM.out.put hb hn2)
        have HK2 := Lib.hid (HM.out.box.below hb HM.out.box.lt)
        have q2 : wn.cell? ⟨w.heap.size, 0, none⟩ = some (.slice A1 n1 c1) := HK2.out.cell 0
        have p2 := HK2.out.frozen 0
        have HBS := Lib.hid (HBS.out.trans (hb.mono HBS.out.size))
        clear hb hn2
        refine hK.out _ _ HBS.out (fun hHeld => ?_)
        clear hK K
        try dsimp only [Act.put]
        try simp only [List.setIfInBounds_toArray, List.set_cons_zero, List.set_cons_succ]
        refine wpAnyH_ready (rs := [7]) (by kernel_rfl) (by simp) (AllReadyH.cons (op_of rfl) (fun K hK => ?_) AllReadyH.nil)
        have HBS := Lib.hid (HBS.out.setCell (p := ⟨w.heap.size, 0, none⟩) (Nat.le_refl _) (.slice A2 n2 c2))
        go_simp
        refine hK.out _ _ HBS.out (fun hHeld => ?_)
        clear hK K
        try dsimp only [Act.put]
        try simp only [List.setIfInBounds_toArray, List.set_cons_zero, List.set_cons_succ]
        refine wpAnyH_done (by kernel_rfl) ?_ _
        go_wp2_with fail
        go_roundw
        case rel => exact ⟨k + 1, A2, n2, c2, by go_num, by omega, Lib.hid (by rw [HU.out]; exact HM2.out)⟩
        case measure => simp [intOf]; omega
      · skip
        go_simp
        refine (HOF.out wn).mono ?_
        rintro en wn ⟨v1, rfl, hn1, hb⟩
        obtain ⟨A3, n3, c3, rfl⟩ := hn1.shape
        have HN1 := Lib.hid hn1
        have HM := Lib.hid (HM.out.step hb)
        have q0 : wn.cell? ⟨w.heap.size, 0, none⟩ = some (.slice A1 n1 c1) := HM.out.box.cell 0
        have HBS := Lib.hid (HBS.out.trans (hb.mono HBS.out.size))
        clear hb hn1
        refine hK.out _ _ HBS.out (fun hHeld => ?_)
        clear hK K
        try dsimp only [Act.put]
        try simp only [List.setIfInBounds_toArray, List.set_cons_zero, List.set_cons_succ]
        refine wpAnyH_ready (rs := [0]) (by kernel_rfl) (by simp) (AllReadyH.cons (op_of rfl) (fun K hK => ?_) AllReadyH.nil)
        go_simp
        refine hK.out _ _ HBS.out (fun hHeld => ?_)
        clear hK K
        try dsimp only [Act.put]
        try simp only [List.setIfInBounds_toArray, List.set_cons_zero, List.set_cons_succ]
        refine wpAnyH_ready (rs := [6]) (by kernel_rfl) (by simp) (AllReadyH.cons (op_of rfl) (fun K hK => ?_) AllReadyH.nil)
        go_simp
        refine (add_num (j := 100) (k := 100) _ _ s x _ _ wn HM.out.num.choose_spec HN1.out HPX.out.1 HPX.out.2).mono ?_
        rintro en wn ⟨v2, rfl, hn2, hb⟩
        obtain ⟨A2, n2, c2, rfl⟩ := hn2.shape
        have HM2 := Lib.hid (HM.out.put hb hn2)
        have HK2 := Lib.hid (HM.out.box.below hb HM.out.box.lt)
        have q2 : wn.cell? ⟨w.heap.size, 0, none⟩ = some (.slice A1 n1 c1) := HK2.out.cell 0
        have p2 := HK2.out.frozen 0
        have HBS := Lib.hid (HBS.out.trans (hb.mono HBS.out.size))
        clear hb hn2
        refine hK.out _ _ HBS.out (fun hHeld => ?_)
        clear hK K
        try dsimp only [Act.put]
        try simp only [List.setIfInBounds_toArray, List.set_cons_zero, List.set_cons_succ]
        refine wpAnyH_ready (rs := [7]) (by kernel_rfl) (by simp) (AllReadyH.cons (op_of rfl) (fun K hK => ?_) AllReadyH.nil)
        have HBS := Lib.hid (HBS.out.setCell (p := ⟨w.heap.size, 0, none⟩) (Nat.le_refl _) (.slice A2 n2 c2))
        go_simp
        refine hK.out _ _ HBS.out (fun hHeld => ?_)
        clear hK K
        try dsimp only [Act.put]
        try simp only [List.setIfInBounds_toArray, List.set_cons_zero, List.set_cons_succ]
        refine wpAnyH_done (by kernel_rfl) ?_ _
        go_wp2_with fail
        go_roundw
        case rel => exact ⟨k + 1, A2, n2, c2, by go_num, by omega, Lib.hid (by rw [HU.out]; exact HM2.out)⟩
        case measure => simp [intOf]; omega
    · obtain rfl : k = n := by omega
      obtain ⟨L, hL⟩ := HM.out.num
      have HW := Lib.hid (word_num _ _ _ wr hL)
      have HB := Lib.hid HM.out.below
      clear hL
      go_wp2_with fail
      refine HW.out.mono ?_
      rintro e w1 ⟨rfl, hb1⟩
      have HB1 := Lib.hid (HB.out.trans (hb1.mono HB.out.size))
      clear HW hb1
      go_wp2_with fail
      go_ret2
      exact ⟨rfl, HB1.out⟩
end Go.Proofs.Ytcanahjilfnijaa
