/-
  Alias tables: the document's Count.
-/
import Derived.Test.YtcanahjilfnijaaAliR
namespace Go.Proofs.Ytcanahjilfnijaa
open Go.RowKit
set_option maxRecDepth 100000

/-- What Count has in memory: the answer's variable, the sum so far. -/
structure Nt12 (w : World) (A : Option Addr) (n c s : Nat) (W : World) : Prop where
  below : Below w.heap.size w W
  res : Blk W w.heap.size 36 #[.slice none 0 0]
  box : Blk W (w.heap.size + 1) 36 #[.slice A n c]
  num : ∃ L, w.heap.size ≤ L ∧ Num W L (.agg #[.slice A n c]) s
theorem Nt12.step {w W W' : World} {A : Option Addr} {n c s : Nat} (h : Nt12 w A n c s W) (hb : Below W.heap.size W W') : Nt12 w A n c s W' :=
  ⟨h.below.trans (hb.mono h.below.size), h.res.below hb h.res.lt, h.box.below hb h.box.lt, h.num.imp fun _ q => ⟨q.1, q.2.below hb⟩⟩
theorem Nt12.put {w W W' : World} {A A2 : Option Addr} {n c s n2 c2 t L : Nat} (h : Nt12 w A n c s W) (hb : Below W.heap.size W W') (hL : w.heap.size ≤ L) (hn : Num W' L (.agg #[.slice A2 n2 c2]) t) : Nt12 w A2 n2 c2 t (W'.setCell ⟨w.heap.size + 1, 0, none⟩ (.slice A2 n2 c2)) :=
  ⟨(h.below.trans (hb.mono h.below.size)).setCell (by show w.heap.size ≤ w.heap.size + 1; omega) _, (h.res.below hb h.res.lt).far (by show w.heap.size ≠ w.heap.size + 1; omega) _, by simpa using (h.box.below hb h.box.lt).set_ 0 (.slice A2 n2 c2), L, hL, num_setS9 hn ((h.box.below hb h.box.lt).cell 0)⟩

set_option maxHeartbeats 8000000 in
theorem rcount12_any (t n cc : Nat) (A : Option Addr) (c : Nat → Nat) (o : Nat → Int) (i : Int) (w : World) (h : Cq w w.heap.size A n c o) (ht : t < 18446744073709551616) (hle : ∀ j, j < n → c j ≤ t) (hn : n ≤ 1000000) :
    Calls Try.prog 15 #[.int .u64 (t : Int), .slice A n cc, .int .i64 i] w (RetNum w (cu t c o i n)) := by
  have HPR : Hid (∀ e w', (∃ v, e = .returned v ∧ Num w' w.heap.size v (cu t c o i n) ∧ Below w.heap.size w w') → RetNum w (cu t c o i n) e w') := Lib.hid (fun _ _ h => h)
  have HC := Lib.hid h
  have HLE := Lib.hid hle
  have HCU : Hid (∀ k, k ≤ n → cu t c o i k ≤ k * t) := Lib.hid (fun k hk => cu_le (fun j hj => hle j (by omega)))
  have ht0 : Nt12 w none 0 0 0 ((w.alloc (.cells #[.slice none 0 0] 36)).alloc (.cells #[.slice none 0 0] 36)) := by
    have h1 := Blk.new (w.alloc (.cells #[.slice none 0 0] 36)) 36 #[.slice none 0 0]
    rw [show (w.alloc (.cells #[.slice none 0 0] 36)).heap.size = w.heap.size + 1 by simp] at h1
    exact ⟨below2_12 _ _ _, (Blk.new w _ _).alloc _, h1, w.heap.size, Nat.le_refl _, nil_num9 _ _⟩
  have HT0 := Lib.hid ht0
  clear h hle ht0
  go_enter Try.func15, Try.ntmps15
  go_wp2_with fail
  go_loopw [8] (fun x wr => ∃ (k : Nat) (A1 : Option Addr) (n1 c1 : Nat), x = .int .i64 (k : Int) ∧ k ≤ n ∧ Hid (Nt12 w A1 n1 c1 (cu t c o i k) wr)) (fun x _ => n - (intOf x).toNat)
  case atStart => exact ⟨0, none, 0, 0, rfl, by omega, HT0⟩
  case round =>
    obtain ⟨k, A1, n1, c1, rfl, hk, HM⟩ := hrel
    by_cases hkn : k < n
    · obtain ⟨a, p, hA, ha, g0, g1⟩ := (HC.out.below HM.out.below (Nat.le_refl _)).at_ hkn
      subst hA
      have hi0 : (0 : Int) ≤ (k : Int) := by omega
      have hi1 : (k : Int) < (n : Int) := by omega
      have hck := HLE.out k hkn
      have hcu := HCU.out k hk
      have hcs := cu_succ t c o i k
      have hz1 := (HM.out.below.cell (p := ⟨a, p + k * 2 + 1, none⟩) ha).symm.trans g1
      have hz0 := (HM.out.below.cell (p := ⟨a, p + k * 2, none⟩) ha).symm.trans g0
      obtain ⟨ck, hcke⟩ : ∃ x, c k = x := ⟨_, rfl⟩
      obtain ⟨ok, hoke⟩ : ∃ x, o k = x := ⟨_, rfl⟩
      rw [hcke] at g0 hz0 hck hcs
      rw [hoke] at g1 hcs hz1
      obtain ⟨s, hs⟩ : ∃ s, cu t c o i k = s := ⟨_, rfl⟩
      rw [hs] at HM hcu hcs
      have hkt : k * t ≤ 1000000 * 18446744073709551616 := Nat.mul_le_mul (by omega) (by omega)
      have HOF := Lib.hid (fun W => of_any ck W (by omega))
      obtain ⟨d, hd⟩ : ∃ d, t - ck = d := ⟨_, rfl⟩
      rw [hd] at hcs
      have hwd : IntKind.u64.wrap ((t : Int) - (ck : Int)) = (d : Int) := by rw [IntKind.wrap_u64]; omega
      have HOD := Lib.hid (fun W => of_any d W (by omega))
      have HPX : Hid (s < 65536 ^ 100 ∧ ck < 65536 ^ 100 ∧ s + ck < 65536 ^ 100 ∧ d < 65536 ^ 100) := Lib.hid ⟨pow_big (by omega), pow_big (by omega), pow_big (by omega), pow_big (by omega)⟩
      by_cases hki : (k : Int) = i
      · rw [if_pos hki] at hcs
        by_cases hoi : ok = i
        · rw [if_pos hoi] at hcs
          simp only [Nat.add_zero, Nat.zero_add, ← Nat.add_assoc] at hcs
          have HCS := Lib.hid hcs
          have hoi2 : ok = (k : Int) := by omega
          subst hki
          clear hcs hck hcu hkt hcke hoke hs hd hoi
          go_wp2_with fail
          have HB0 := Lib.hid HM.out.below.drew
          refine wp_region_held_drew (S := fun W => Below w.heap.size w W) (by kernel_rfl) HB0.out (fun hHeld => ?_)
          have HM := Lib.hid (HM.out.step (Below.refl _ _).drew)
          obtain ⟨wn, hwn⟩ : ∃ W, wr.drew = W := ⟨_, rfl⟩
          rw [hwn] at HM hHeld HB0
          rw [hwn]
          have q0 : wn.cell? ⟨w.heap.size + 1, 0, none⟩ = some (.slice A1 n1 c1) := HM.out.box.cell 0
          have HBS := HB0
          clear hwn
          refine wpAnyH_take (i := 1) (v := ?_) (op_of rfl) (by kernel_rfl) (by kernel_rfl) (by kernel_rfl) (fun _ _ _ h => h) (Or.inl ⟨by rfl, fun W hS => ?_⟩) (by assumption) ?_
          rotate_left
          · dsimp only at hS
            go_simp
            try with_reducible rfl
          try dsimp only [Act.put]
          try simp only [List.setIfInBounds_toArray, List.set_cons_zero, List.set_cons_succ]
          refine wpAnyH_take (i := 2) (v := ?_) (op_of rfl) (by kernel_rfl) (by kernel_rfl) (by kernel_rfl) (fun _ _ _ h => h) (Or.inl ⟨by rfl, fun W hS => ?_⟩) (by assumption) ?_
          rotate_left
          · dsimp only at hS
            go_simp
            try with_reducible rfl
          try dsimp only [Act.put]
          try simp only [List.setIfInBounds_toArray, List.set_cons_zero, List.set_cons_succ]
          refine wpAnyH_take (i := 3) (v := ?_) (op_of rfl) (by kernel_rfl) (by kernel_rfl) (by kernel_rfl) (fun _ _ _ h => h) (Or.inl ⟨by rfl, fun W hS => ?_⟩) (by assumption) ?_
          rotate_left
          · dsimp only at hS
            go_simp
            try with_reducible rfl
          try dsimp only [Act.put]
          try simp only [List.setIfInBounds_toArray, List.set_cons_zero, List.set_cons_succ]
          refine wpAnyH_take (i := 4) (v := ?_) (op_of rfl) (by kernel_rfl) (by kernel_rfl) (by kernel_rfl) (fun _ _ _ h => h) (Or.inl ⟨by rfl, fun W hS => ?_⟩) (by assumption) ?_
          rotate_left
          · dsimp only at hS
            go_simp
            try with_reducible rfl
          try dsimp only [Act.put]
          try simp only [List.setIfInBounds_toArray, List.set_cons_zero, List.set_cons_succ]
          refine wpAnyH_take (i := 5) (v := ?_) (op_of rfl) (by kernel_rfl) (by kernel_rfl) (by kernel_rfl) (fun _ _ _ h => h) (Or.inl ⟨by rfl, fun W hS => ?_⟩) (by assumption) ?_
          rotate_left
          · dsimp only at hS
            have z4 := (hS.cell (p := ⟨a, p + k * 2, none⟩) ha).trans hz0
            go_simp
            try with_reducible rfl
          try dsimp only [Act.put]
          try simp only [List.setIfInBounds_toArray, List.set_cons_zero, List.set_cons_succ]
          refine wpAnyH_ready (rs := [0, 6]) (by kernel_rfl) (by simp) (AllReadyH.cons (op_of rfl) (fun K hK => ?_) (AllReadyH.cons (op_of rfl) (fun K hK => ?_) AllReadyH.nil))
          · skip
            go_simp
            refine hK.out _ _ HBS.out (fun hHeld => ?_)
            clear hK K
            try dsimp only [Act.put]
            try simp only [List.setIfInBounds_toArray, List.set_cons_zero, List.set_cons_succ]
            refine wpAnyH_ready (rs := [6]) (by kernel_rfl) (by simp) (AllReadyH.cons (op_of rfl) (fun K hK => ?_) AllReadyH.nil)
            go_simp
            refine (HOF.out wn).mono ?_
            rintro en wn ⟨v1, rfl, hn1, hb⟩
            obtain ⟨A3, n3, c3, rfl⟩ := hn1.shape
            have HN1 := Lib.hid hn1
            have HM := Lib.hid (HM.out.step hb)
            have q0 : wn.cell? ⟨w.heap.size + 1, 0, none⟩ = some (.slice A1 n1 c1) := HM.out.box.cell 0
            have HBS := Lib.hid (HBS.out.trans (hb.mono HBS.out.size))
            clear hb hn1
            refine hK.out _ _ HBS.out (fun hHeld => ?_)
            clear hK K
            try dsimp only [Act.put]
            try simp only [List.setIfInBounds_toArray, List.set_cons_zero, List.set_cons_succ]
            refine wpAnyH_ready (rs := [7]) (by kernel_rfl) (by simp) (AllReadyH.cons (op_of rfl) (fun K hK => ?_) AllReadyH.nil)
            go_simp
            refine (add_num (j := 100) (k := 100) _ _ (s) ck _ _ wn HM.out.num.choose_spec.2 HN1.out HPX.out.1 HPX.out.2.1).mono ?_
            rintro en wx ⟨v2, rfl, hn2, hb⟩
            obtain ⟨A2, n2, c2, rfl⟩ := hn2.shape
            have HM2 := Lib.hid (HM.out.put hb HM.out.below.size hn2)
            have HK2 := Lib.hid (HM.out.box.below hb HM.out.box.lt)
            have q2 : wx.cell? ⟨w.heap.size + 1, 0, none⟩ = some (.slice A1 n1 c1) := HK2.out.cell 0
            have p2 := HK2.out.frozen 0
            have HBS := Lib.hid (HBS.out.trans (hb.mono HBS.out.size))
            clear hb hn2
            refine hK.out _ _ HBS.out (fun hHeld => ?_)
            clear hK K
            try dsimp only [Act.put]
            try simp only [List.setIfInBounds_toArray, List.set_cons_zero, List.set_cons_succ]
            refine wpAnyH_ready (rs := [8]) (by kernel_rfl) (by simp) (AllReadyH.cons (op_of rfl) (fun K hK => ?_) AllReadyH.nil)
            have HBS := Lib.hid (HBS.out.setCell (p := ⟨w.heap.size + 1, 0, none⟩) (by show w.heap.size ≤ w.heap.size + 1; omega) (.slice A2 n2 c2))
            go_simp
            refine hK.out _ _ HBS.out (fun hHeld => ?_)
            clear hK K
            try dsimp only [Act.put]
            try simp only [List.setIfInBounds_toArray, List.set_cons_zero, List.set_cons_succ]
            refine wpAnyH_done (by kernel_rfl) ?_ _
            have HM := HM2
            obtain ⟨w8, hw8⟩ : ∃ W, wx.setCell ⟨w.heap.size + 1, 0, none⟩ (.slice A2 n2 c2) = W := ⟨_, rfl⟩
            rw [hw8] at HM
            have g1 : w8.cell? ⟨a, p + k * 2 + 1, none⟩ = some (.int .i64 _) := (HM.out.below.cell (p := ⟨a, p + k * 2 + 1, none⟩) ha).trans hz1
            clear q0 q2 p2 HBS HM2 HK2 hHeld
            go_wp2_with fail
            clear hw8
            have HB0 := Lib.hid HM.out.below.drew
            refine wp_region_held_drew (S := fun W => Below w.heap.size w W) (by kernel_rfl) HB0.out (fun hHeld => ?_)
            have HM := Lib.hid (HM.out.step (Below.refl _ _).drew)
            obtain ⟨wn, hwn⟩ : ∃ W, w8.drew = W := ⟨_, rfl⟩
            rw [hwn] at HM hHeld HB0
            rw [hwn]
            have q0 : wn.cell? ⟨w.heap.size + 1, 0, none⟩ = some (.slice A2 n2 c2) := HM.out.box.cell 0
            have HBS := HB0
            clear hwn
            refine wpAnyH_take (i := 1) (v := ?_) (op_of rfl) (by kernel_rfl) (by kernel_rfl) (by kernel_rfl) (fun _ _ _ h => h) (Or.inl ⟨by rfl, fun W hS => ?_⟩) (by assumption) ?_
            rotate_left
            · dsimp only at hS
              go_simp
              try with_reducible rfl
            try dsimp only [Act.put]
            try simp only [List.setIfInBounds_toArray, List.set_cons_zero, List.set_cons_succ]
            refine wpAnyH_take (i := 2) (v := ?_) (op_of rfl) (by kernel_rfl) (by kernel_rfl) (by kernel_rfl) (fun _ _ _ h => h) (Or.inl ⟨by rfl, fun W hS => ?_⟩) (by assumption) ?_
            rotate_left
            · dsimp only at hS
              go_simp
              try with_reducible rfl
            try dsimp only [Act.put]
            try simp only [List.setIfInBounds_toArray, List.set_cons_zero, List.set_cons_succ]
            refine wpAnyH_take (i := 3) (v := ?_) (op_of rfl) (by kernel_rfl) (by kernel_rfl) (by kernel_rfl) (fun _ _ _ h => h) (Or.inl ⟨by rfl, fun W hS => ?_⟩) (by assumption) ?_
            rotate_left
            · dsimp only at hS
              go_simp
              try with_reducible rfl
            try dsimp only [Act.put]
            try simp only [List.setIfInBounds_toArray, List.set_cons_zero, List.set_cons_succ]
            refine wpAnyH_take (i := 4) (v := ?_) (op_of rfl) (by kernel_rfl) (by kernel_rfl) (by kernel_rfl) (fun _ _ _ h => h) (Or.inl ⟨by rfl, fun W hS => ?_⟩) (by assumption) ?_
            rotate_left
            · dsimp only at hS
              go_simp
              try with_reducible rfl
            try dsimp only [Act.put]
            try simp only [List.setIfInBounds_toArray, List.set_cons_zero, List.set_cons_succ]
            refine wpAnyH_take (i := 5) (v := ?_) (op_of rfl) (by kernel_rfl) (by kernel_rfl) (by kernel_rfl) (fun _ _ _ h => h) (Or.inl ⟨by rfl, fun W hS => ?_⟩) (by assumption) ?_
            rotate_left
            · dsimp only at hS
              go_simp
              try with_reducible rfl
            try dsimp only [Act.put]
            try simp only [List.setIfInBounds_toArray, List.set_cons_zero, List.set_cons_succ]
            refine wpAnyH_take (i := 6) (v := ?_) (op_of rfl) (by kernel_rfl) (by kernel_rfl) (by kernel_rfl) (fun _ _ _ h => h) (Or.inl ⟨by rfl, fun W hS => ?_⟩) (by assumption) ?_
            rotate_left
            · dsimp only at hS
              have z4 := (hS.cell (p := ⟨a, p + k * 2, none⟩) ha).trans hz0
              go_simp
              try with_reducible rfl
            try dsimp only [Act.put]
            try simp only [List.setIfInBounds_toArray, List.set_cons_zero, List.set_cons_succ]
            refine wpAnyH_take (i := 7) (v := ?_) (op_of rfl) (by kernel_rfl) (by kernel_rfl) (by kernel_rfl) (fun _ _ _ h => h) (Or.inl ⟨by rfl, fun W hS => ?_⟩) (by assumption) ?_
            rotate_left
            · dsimp only at hS
              go_simp
              try with_reducible rfl
            try dsimp only [Act.put]
            try simp only [List.setIfInBounds_toArray, List.set_cons_zero, List.set_cons_succ]
            refine wpAnyH_ready (rs := [0, 8]) (by kernel_rfl) (by simp) (AllReadyH.cons (op_of rfl) (fun K hK => ?_) (AllReadyH.cons (op_of rfl) (fun K hK => ?_) AllReadyH.nil))
            · skip
              go_simp
              refine hK.out _ _ HBS.out (fun hHeld => ?_)
              clear hK K
              try dsimp only [Act.put]
              try simp only [List.setIfInBounds_toArray, List.set_cons_zero, List.set_cons_succ]
              refine wpAnyH_ready (rs := [8]) (by kernel_rfl) (by simp) (AllReadyH.cons (op_of rfl) (fun K hK => ?_) AllReadyH.nil)
              go_simp
              refine (HOD.out wn).mono ?_
              rintro en wn ⟨v1, rfl, hn1, hb⟩
              obtain ⟨A3, n3, c3, rfl⟩ := hn1.shape
              have HN1 := Lib.hid hn1
              have HM := Lib.hid (HM.out.step hb)
              have q0 : wn.cell? ⟨w.heap.size + 1, 0, none⟩ = some (.slice A2 n2 c2) := HM.out.box.cell 0
              have HBS := Lib.hid (HBS.out.trans (hb.mono HBS.out.size))
              clear hb hn1
              refine hK.out _ _ HBS.out (fun hHeld => ?_)
              clear hK K
              try dsimp only [Act.put]
              try simp only [List.setIfInBounds_toArray, List.set_cons_zero, List.set_cons_succ]
              refine wpAnyH_ready (rs := [9]) (by kernel_rfl) (by simp) (AllReadyH.cons (op_of rfl) (fun K hK => ?_) AllReadyH.nil)
              go_simp
              refine (add_num (j := 100) (k := 100) _ _ (s + ck) d _ _ wn HM.out.num.choose_spec.2 HN1.out HPX.out.2.2.1 HPX.out.2.2.2).mono ?_
              rintro en wx ⟨v2, rfl, hn2, hb⟩
              obtain ⟨A4, n4, c4, rfl⟩ := hn2.shape
              have HM2 := Lib.hid (HM.out.put hb HM.out.below.size hn2)
              have HK2 := Lib.hid (HM.out.box.below hb HM.out.box.lt)
              have q2 : wx.cell? ⟨w.heap.size + 1, 0, none⟩ = some (.slice A2 n2 c2) := HK2.out.cell 0
              have p2 := HK2.out.frozen 0
              have HBS := Lib.hid (HBS.out.trans (hb.mono HBS.out.size))
              clear hb hn2
              refine hK.out _ _ HBS.out (fun hHeld => ?_)
              clear hK K
              try dsimp only [Act.put]
              try simp only [List.setIfInBounds_toArray, List.set_cons_zero, List.set_cons_succ]
              refine wpAnyH_ready (rs := [10]) (by kernel_rfl) (by simp) (AllReadyH.cons (op_of rfl) (fun K hK => ?_) AllReadyH.nil)
              have HBS := Lib.hid (HBS.out.setCell (p := ⟨w.heap.size + 1, 0, none⟩) (by show w.heap.size ≤ w.heap.size + 1; omega) (.slice A4 n4 c4))
              go_simp
              refine hK.out _ _ HBS.out (fun hHeld => ?_)
              clear hK K
              try dsimp only [Act.put]
              try simp only [List.setIfInBounds_toArray, List.set_cons_zero, List.set_cons_succ]
              refine wpAnyH_done (by kernel_rfl) ?_ _
              go_wp2_with fail
              go_roundw
              case rel => exact ⟨k + 1, A4, n4, c4, by go_num, by omega, Lib.hid (by rw [HCS.out]; exact HM2.out)⟩
              case measure => simp [intOf]; omega
            · skip
              go_simp
              refine (HOD.out wn).mono ?_
              rintro en wn ⟨v1, rfl, hn1, hb⟩
              obtain ⟨A3, n3, c3, rfl⟩ := hn1.shape
              have HN1 := Lib.hid hn1
              have HM := Lib.hid (HM.out.step hb)
              have q0 : wn.cell? ⟨w.heap.size + 1, 0, none⟩ = some (.slice A2 n2 c2) := HM.out.box.cell 0
              have HBS := Lib.hid (HBS.out.trans (hb.mono HBS.out.size))
              clear hb hn1
              refine hK.out _ _ HBS.out (fun hHeld => ?_)
              clear hK K
              try dsimp only [Act.put]
              try simp only [List.setIfInBounds_toArray, List.set_cons_zero, List.set_cons_succ]
              refine wpAnyH_ready (rs := [0]) (by kernel_rfl) (by simp) (AllReadyH.cons (op_of rfl) (fun K hK => ?_) AllReadyH.nil)
              go_simp
              refine hK.out _ _ HBS.out (fun hHeld => ?_)
              clear hK K
              try dsimp only [Act.put]
              try simp only [List.setIfInBounds_toArray, List.set_cons_zero, List.set_cons_succ]
              refine wpAnyH_ready (rs := [9]) (by kernel_rfl) (by simp) (AllReadyH.cons (op_of rfl) (fun K hK => ?_) AllReadyH.nil)
              go_simp
              refine (add_num (j := 100) (k := 100) _ _ (s + ck) d _ _ wn HM.out.num.choose_spec.2 HN1.out HPX.out.2.2.1 HPX.out.2.2.2).mono ?_
              rintro en wx ⟨v2, rfl, hn2, hb⟩
              obtain ⟨A4, n4, c4, rfl⟩ := hn2.shape
              have HM2 := Lib.hid (HM.out.put hb HM.out.below.size hn2)
              have HK2 := Lib.hid (HM.out.box.below hb HM.out.box.lt)
              have q2 : wx.cell? ⟨w.heap.size + 1, 0, none⟩ = some (.slice A2 n2 c2) := HK2.out.cell 0
              have p2 := HK2.out.frozen 0
              have HBS := Lib.hid (HBS.out.trans (hb.mono HBS.out.size))
              clear hb hn2
              refine hK.out _ _ HBS.out (fun hHeld => ?_)
              clear hK K
              try dsimp only [Act.put]
              try simp only [List.setIfInBounds_toArray, List.set_cons_zero, List.set_cons_succ]
              refine wpAnyH_ready (rs := [10]) (by kernel_rfl) (by simp) (AllReadyH.cons (op_of rfl) (fun K hK => ?_) AllReadyH.nil)
              have HBS := Lib.hid (HBS.out.setCell (p := ⟨w.heap.size + 1, 0, none⟩) (by show w.heap.size ≤ w.heap.size + 1; omega) (.slice A4 n4 c4))
              go_simp
              refine hK.out _ _ HBS.out (fun hHeld => ?_)
              clear hK K
              try dsimp only [Act.put]
              try simp only [List.setIfInBounds_toArray, List.set_cons_zero, List.set_cons_succ]
              refine wpAnyH_done (by kernel_rfl) ?_ _
              go_wp2_with fail
              go_roundw
              case rel => exact ⟨k + 1, A4, n4, c4, by go_num, by omega, Lib.hid (by rw [HCS.out]; exact HM2.out)⟩
              case measure => simp [intOf]; omega
          · skip
            go_simp
            refine (HOF.out wn).mono ?_
            rintro en wn ⟨v1, rfl, hn1, hb⟩
            obtain ⟨A3, n3, c3, rfl⟩ := hn1.shape
            have HN1 := Lib.hid hn1
            have HM := Lib.hid (HM.out.step hb)
            have q0 : wn.cell? ⟨w.heap.size + 1, 0, none⟩ = some (.slice A1 n1 c1) := HM.out.box.cell 0
            have HBS := Lib.hid (HBS.out.trans (hb.mono HBS.out.size))
            clear hb hn1
            refine hK.out _ _ HBS.out (fun hHeld => ?_)
            clear hK K
            try dsimp only [Act.put]
            try simp only [List.setIfInBounds_toArray, List.set_cons_zero, List.set_cons_succ]
            refine wpAnyH_ready (rs := [0]) (by kernel_rfl) (by simp) (AllReadyH.cons (op_of rfl) (fun K hK => ?_) AllReadyH.nil)
            go_simp
            refine hK.out _ _ HBS.out (fun hHeld => ?_)
            clear hK K
            try dsimp only [Act.put]
            try simp only [List.setIfInBounds_toArray, List.set_cons_zero, List.set_cons_succ]
            refine wpAnyH_ready (rs := [7]) (by kernel_rfl) (by simp) (AllReadyH.cons (op_of rfl) (fun K hK => ?_) AllReadyH.nil)
            go_simp
            refine (add_num (j := 100) (k := 100) _ _ (s) ck _ _ wn HM.out.num.choose_spec.2 HN1.out HPX.out.1 HPX.out.2.1).mono ?_
            rintro en wx ⟨v2, rfl, hn2, hb⟩
            obtain ⟨A2, n2, c2, rfl⟩ := hn2.shape
            have HM2 := Lib.hid (HM.out.put hb HM.out.below.size hn2)
            have HK2 := Lib.hid (HM.out.box.below hb HM.out.box.lt)
            have q2 : wx.cell? ⟨w.heap.size + 1, 0, none⟩ = some (.slice A1 n1 c1) := HK2.out.cell 0
            have p2 := HK2.out.frozen 0
            have HBS := Lib.hid (HBS.out.trans (hb.mono HBS.out.size))
            clear hb hn2
            refine hK.out _ _ HBS.out (fun hHeld => ?_)
            clear hK K
            try dsimp only [Act.put]
            try simp only [List.setIfInBounds_toArray, List.set_cons_zero, List.set_cons_succ]
            refine wpAnyH_ready (rs := [8]) (by kernel_rfl) (by simp) (AllReadyH.cons (op_of rfl) (fun K hK => ?_) AllReadyH.nil)
            have HBS := Lib.hid (HBS.out.setCell (p := ⟨w.heap.size + 1, 0, none⟩) (by show w.heap.size ≤ w.heap.size + 1; omega) (.slice A2 n2 c2))
            go_simp
            refine hK.out _ _ HBS.out (fun hHeld => ?_)
            clear hK K
            try dsimp only [Act.put]
            try simp only [List.setIfInBounds_toArray, List.set_cons_zero, List.set_cons_succ]
            refine wpAnyH_done (by kernel_rfl) ?_ _
            have HM := HM2
            obtain ⟨w8, hw8⟩ : ∃ W, wx.setCell ⟨w.heap.size + 1, 0, none⟩ (.slice A2 n2 c2) = W := ⟨_, rfl⟩
            rw [hw8] at HM
            have g1 : w8.cell? ⟨a, p + k * 2 + 1, none⟩ = some (.int .i64 _) := (HM.out.below.cell (p := ⟨a, p + k * 2 + 1, none⟩) ha).trans hz1
            clear q0 q2 p2 HBS HM2 HK2 hHeld
            go_wp2_with fail
            clear hw8
            have HB0 := Lib.hid HM.out.below.drew
            refine wp_region_held_drew (S := fun W => Below w.heap.size w W) (by kernel_rfl) HB0.out (fun hHeld => ?_)
            have HM := Lib.hid (HM.out.step (Below.refl _ _).drew)
            obtain ⟨wn, hwn⟩ : ∃ W, w8.drew = W := ⟨_, rfl⟩
            rw [hwn] at HM hHeld HB0
            rw [hwn]
            have q0 : wn.cell? ⟨w.heap.size + 1, 0, none⟩ = some (.slice A2 n2 c2) := HM.out.box.cell 0
            have HBS := HB0
            clear hwn
            refine wpAnyH_take (i := 1) (v := ?_) (op_of rfl) (by kernel_rfl) (by kernel_rfl) (by kernel_rfl) (fun _ _ _ h => h) (Or.inl ⟨by rfl, fun W hS => ?_⟩) (by assumption) ?_
            rotate_left
            · dsimp only at hS
              go_simp
              try with_reducible rfl
            try dsimp only [Act.put]
            try simp only [List.setIfInBounds_toArray, List.set_cons_zero, List.set_cons_succ]
            refine wpAnyH_take (i := 2) (v := ?_) (op_of rfl) (by kernel_rfl) (by kernel_rfl) (by kernel_rfl) (fun _ _ _ h => h) (Or.inl ⟨by rfl, fun W hS => ?_⟩) (by assumption) ?_
            rotate_left
            · dsimp only at hS
              go_simp
              try with_reducible rfl
            try dsimp only [Act.put]
            try simp only [List.setIfInBounds_toArray, List.set_cons_zero, List.set_cons_succ]
            refine wpAnyH_take (i := 3) (v := ?_) (op_of rfl) (by kernel_rfl) (by kernel_rfl) (by kernel_rfl) (fun _ _ _ h => h) (Or.inl ⟨by rfl, fun W hS => ?_⟩) (by assumption) ?_
            rotate_left
            · dsimp only at hS
              go_simp
              try with_reducible rfl
            try dsimp only [Act.put]
            try simp only [List.setIfInBounds_toArray, List.set_cons_zero, List.set_cons_succ]
            refine wpAnyH_take (i := 4) (v := ?_) (op_of rfl) (by kernel_rfl) (by kernel_rfl) (by kernel_rfl) (fun _ _ _ h => h) (Or.inl ⟨by rfl, fun W hS => ?_⟩) (by assumption) ?_
            rotate_left
            · dsimp only at hS
              go_simp
              try with_reducible rfl
            try dsimp only [Act.put]
            try simp only [List.setIfInBounds_toArray, List.set_cons_zero, List.set_cons_succ]
            refine wpAnyH_take (i := 5) (v := ?_) (op_of rfl) (by kernel_rfl) (by kernel_rfl) (by kernel_rfl) (fun _ _ _ h => h) (Or.inl ⟨by rfl, fun W hS => ?_⟩) (by assumption) ?_
            rotate_left
            · dsimp only at hS
              go_simp
              try with_reducible rfl
            try dsimp only [Act.put]
            try simp only [List.setIfInBounds_toArray, List.set_cons_zero, List.set_cons_succ]
            refine wpAnyH_take (i := 6) (v := ?_) (op_of rfl) (by kernel_rfl) (by kernel_rfl) (by kernel_rfl) (fun _ _ _ h => h) (Or.inl ⟨by rfl, fun W hS => ?_⟩) (by assumption) ?_
            rotate_left
            · dsimp only at hS
              have z4 := (hS.cell (p := ⟨a, p + k * 2, none⟩) ha).trans hz0
              go_simp
              try with_reducible rfl
            try dsimp only [Act.put]
            try simp only [List.setIfInBounds_toArray, List.set_cons_zero, List.set_cons_succ]
            refine wpAnyH_take (i := 7) (v := ?_) (op_of rfl) (by kernel_rfl) (by kernel_rfl) (by kernel_rfl) (fun _ _ _ h => h) (Or.inl ⟨by rfl, fun W hS => ?_⟩) (by assumption) ?_
            rotate_left
            · dsimp only at hS
              go_simp
              try with_reducible rfl
            try dsimp only [Act.put]
            try simp only [List.setIfInBounds_toArray, List.set_cons_zero, List.set_cons_succ]
            refine wpAnyH_ready (rs := [0, 8]) (by kernel_rfl) (by simp) (AllReadyH.cons (op_of rfl) (fun K hK => ?_) (AllReadyH.cons (op_of rfl) (fun K hK => ?_) AllReadyH.nil))
            · skip
              go_simp
              refine hK.out _ _ HBS.out (fun hHeld => ?_)
              clear hK K
              try dsimp only [Act.put]
              try simp only [List.setIfInBounds_toArray, List.set_cons_zero, List.set_cons_succ]
              refine wpAnyH_ready (rs := [8]) (by kernel_rfl) (by simp) (AllReadyH.cons (op_of rfl) (fun K hK => ?_) AllReadyH.nil)
              go_simp
              refine (HOD.out wn).mono ?_
              rintro en wn ⟨v1, rfl, hn1, hb⟩
              obtain ⟨A3, n3, c3, rfl⟩ := hn1.shape
              have HN1 := Lib.hid hn1
              have HM := Lib.hid (HM.out.step hb)
              have q0 : wn.cell? ⟨w.heap.size + 1, 0, none⟩ = some (.slice A2 n2 c2) := HM.out.box.cell 0
              have HBS := Lib.hid (HBS.out.trans (hb.mono HBS.out.size))
              clear hb hn1
              refine hK.out _ _ HBS.out (fun hHeld => ?_)
              clear hK K
              try dsimp only [Act.put]
              try simp only [List.setIfInBounds_toArray, List.set_cons_zero, List.set_cons_succ]
              refine wpAnyH_ready (rs := [9]) (by kernel_rfl) (by simp) (AllReadyH.cons (op_of rfl) (fun K hK => ?_) AllReadyH.nil)
              go_simp
              refine (add_num (j := 100) (k := 100) _ _ (s + ck) d _ _ wn HM.out.num.choose_spec.2 HN1.out HPX.out.2.2.1 HPX.out.2.2.2).mono ?_
              rintro en wx ⟨v2, rfl, hn2, hb⟩
              obtain ⟨A4, n4, c4, rfl⟩ := hn2.shape
              have HM2 := Lib.hid (HM.out.put hb HM.out.below.size hn2)
              have HK2 := Lib.hid (HM.out.box.below hb HM.out.box.lt)
              have q2 : wx.cell? ⟨w.heap.size + 1, 0, none⟩ = some (.slice A2 n2 c2) := HK2.out.cell 0
              have p2 := HK2.out.frozen 0
              have HBS := Lib.hid (HBS.out.trans (hb.mono HBS.out.size))
              clear hb hn2
              refine hK.out _ _ HBS.out (fun hHeld => ?_)
              clear hK K
              try dsimp only [Act.put]
              try simp only [List.setIfInBounds_toArray, List.set_cons_zero, List.set_cons_succ]
              refine wpAnyH_ready (rs := [10]) (by kernel_rfl) (by simp) (AllReadyH.cons (op_of rfl) (fun K hK => ?_) AllReadyH.nil)
              have HBS := Lib.hid (HBS.out.setCell (p := ⟨w.heap.size + 1, 0, none⟩) (by show w.heap.size ≤ w.heap.size + 1; omega) (.slice A4 n4 c4))
              go_simp
              refine hK.out _ _ HBS.out (fun hHeld => ?_)
              clear hK K
              try dsimp only [Act.put]
              try simp only [List.setIfInBounds_toArray, List.set_cons_zero, List.set_cons_succ]
              refine wpAnyH_done (by kernel_rfl) ?_ _
              go_wp2_with fail
              go_roundw
              case rel => exact ⟨k + 1, A4, n4, c4, by go_num, by omega, Lib.hid (by rw [HCS.out]; exact HM2.out)⟩
              case measure => simp [intOf]; omega
            · skip
              go_simp
              refine (HOD.out wn).mono ?_
              rintro en wn ⟨v1, rfl, hn1, hb⟩
              obtain ⟨A3, n3, c3, rfl⟩ := hn1.shape
              have HN1 := Lib.hid hn1
              have HM := Lib.hid (HM.out.step hb)
              have q0 : wn.cell? ⟨w.heap.size + 1, 0, none⟩ = some (.slice A2 n2 c2) := HM.out.box.cell 0
              have HBS := Lib.hid (HBS.out.trans (hb.mono HBS.out.size))
              clear hb hn1
              refine hK.out _ _ HBS.out (fun hHeld => ?_)
              clear hK K
              try dsimp only [Act.put]
              try simp only [List.setIfInBounds_toArray, List.set_cons_zero, List.set_cons_succ]
              refine wpAnyH_ready (rs := [0]) (by kernel_rfl) (by simp) (AllReadyH.cons (op_of rfl) (fun K hK => ?_) AllReadyH.nil)
              go_simp
              refine hK.out _ _ HBS.out (fun hHeld => ?_)
              clear hK K
              try dsimp only [Act.put]
              try simp only [List.setIfInBounds_toArray, List.set_cons_zero, List.set_cons_succ]
              refine wpAnyH_ready (rs := [9]) (by kernel_rfl) (by simp) (AllReadyH.cons (op_of rfl) (fun K hK => ?_) AllReadyH.nil)
              go_simp
              refine (add_num (j := 100) (k := 100) _ _ (s + ck) d _ _ wn HM.out.num.choose_spec.2 HN1.out HPX.out.2.2.1 HPX.out.2.2.2).mono ?_
              rintro en wx ⟨v2, rfl, hn2, hb⟩
              obtain ⟨A4, n4, c4, rfl⟩ := hn2.shape
              have HM2 := Lib.hid (HM.out.put hb HM.out.below.size hn2)
              have HK2 := Lib.hid (HM.out.box.below hb HM.out.box.lt)
              have q2 : wx.cell? ⟨w.heap.size + 1, 0, none⟩ = some (.slice A2 n2 c2) := HK2.out.cell 0
              have p2 := HK2.out.frozen 0
              have HBS := Lib.hid (HBS.out.trans (hb.mono HBS.out.size))
              clear hb hn2
              refine hK.out _ _ HBS.out (fun hHeld => ?_)
              clear hK K
              try dsimp only [Act.put]
              try simp only [List.setIfInBounds_toArray, List.set_cons_zero, List.set_cons_succ]
              refine wpAnyH_ready (rs := [10]) (by kernel_rfl) (by simp) (AllReadyH.cons (op_of rfl) (fun K hK => ?_) AllReadyH.nil)
              have HBS := Lib.hid (HBS.out.setCell (p := ⟨w.heap.size + 1, 0, none⟩) (by show w.heap.size ≤ w.heap.size + 1; omega) (.slice A4 n4 c4))
              go_simp
              refine hK.out _ _ HBS.out (fun hHeld => ?_)
              clear hK K
              try dsimp only [Act.put]
              try simp only [List.setIfInBounds_toArray, List.set_cons_zero, List.set_cons_succ]
              refine wpAnyH_done (by kernel_rfl) ?_ _
              go_wp2_with fail
              go_roundw
              case rel => exact ⟨k + 1, A4, n4, c4, by go_num, by omega, Lib.hid (by rw [HCS.out]; exact HM2.out)⟩
              case measure => simp [intOf]; omega
        · rw [if_neg hoi] at hcs
          simp only [Nat.add_zero, Nat.zero_add, ← Nat.add_assoc] at hcs
          have HCS := Lib.hid hcs
          subst hki
          clear hcs hck hcu hkt hcke hoke hs hd
          go_wp2_with fail
          have HB0 := Lib.hid HM.out.below.drew
          refine wp_region_held_drew (S := fun W => Below w.heap.size w W) (by kernel_rfl) HB0.out (fun hHeld => ?_)
          have HM := Lib.hid (HM.out.step (Below.refl _ _).drew)
          obtain ⟨wn, hwn⟩ : ∃ W, wr.drew = W := ⟨_, rfl⟩
          rw [hwn] at HM hHeld HB0
          rw [hwn]
          have q0 : wn.cell? ⟨w.heap.size + 1, 0, none⟩ = some (.slice A1 n1 c1) := HM.out.box.cell 0
          have HBS := HB0
          clear hwn
          refine wpAnyH_take (i := 1) (v := ?_) (op_of rfl) (by kernel_rfl) (by kernel_rfl) (by kernel_rfl) (fun _ _ _ h => h) (Or.inl ⟨by rfl, fun W hS => ?_⟩) (by assumption) ?_
          rotate_left
          · dsimp only at hS
            go_simp
            try with_reducible rfl
          try dsimp only [Act.put]
          try simp only [List.setIfInBounds_toArray, List.set_cons_zero, List.set_cons_succ]
          refine wpAnyH_take (i := 2) (v := ?_) (op_of rfl) (by kernel_rfl) (by kernel_rfl) (by kernel_rfl) (fun _ _ _ h => h) (Or.inl ⟨by rfl, fun W hS => ?_⟩) (by assumption) ?_
          rotate_left
          · dsimp only at hS
            go_simp
            try with_reducible rfl
          try dsimp only [Act.put]
          try simp only [List.setIfInBounds_toArray, List.set_cons_zero, List.set_cons_succ]
          refine wpAnyH_take (i := 3) (v := ?_) (op_of rfl) (by kernel_rfl) (by kernel_rfl) (by kernel_rfl) (fun _ _ _ h => h) (Or.inl ⟨by rfl, fun W hS => ?_⟩) (by assumption) ?_
          rotate_left
          · dsimp only at hS
            go_simp
            try with_reducible rfl
          try dsimp only [Act.put]
          try simp only [List.setIfInBounds_toArray, List.set_cons_zero, List.set_cons_succ]
          refine wpAnyH_take (i := 4) (v := ?_) (op_of rfl) (by kernel_rfl) (by kernel_rfl) (by kernel_rfl) (fun _ _ _ h => h) (Or.inl ⟨by rfl, fun W hS => ?_⟩) (by assumption) ?_
          rotate_left
          · dsimp only at hS
            go_simp
            try with_reducible rfl
          try dsimp only [Act.put]
          try simp only [List.setIfInBounds_toArray, List.set_cons_zero, List.set_cons_succ]
          refine wpAnyH_take (i := 5) (v := ?_) (op_of rfl) (by kernel_rfl) (by kernel_rfl) (by kernel_rfl) (fun _ _ _ h => h) (Or.inl ⟨by rfl, fun W hS => ?_⟩) (by assumption) ?_
          rotate_left
          · dsimp only at hS
            have z4 := (hS.cell (p := ⟨a, p + k * 2, none⟩) ha).trans hz0
            go_simp
            try with_reducible rfl
          try dsimp only [Act.put]
          try simp only [List.setIfInBounds_toArray, List.set_cons_zero, List.set_cons_succ]
          refine wpAnyH_ready (rs := [0, 6]) (by kernel_rfl) (by simp) (AllReadyH.cons (op_of rfl) (fun K hK => ?_) (AllReadyH.cons (op_of rfl) (fun K hK => ?_) AllReadyH.nil))
          · skip
            go_simp
            refine hK.out _ _ HBS.out (fun hHeld => ?_)
            clear hK K
            try dsimp only [Act.put]
            try simp only [List.setIfInBounds_toArray, List.set_cons_zero, List.set_cons_succ]
            refine wpAnyH_ready (rs := [6]) (by kernel_rfl) (by simp) (AllReadyH.cons (op_of rfl) (fun K hK => ?_) AllReadyH.nil)
            go_simp
            refine (HOF.out wn).mono ?_
            rintro en wn ⟨v1, rfl, hn1, hb⟩
            obtain ⟨A3, n3, c3, rfl⟩ := hn1.shape
            have HN1 := Lib.hid hn1
            have HM := Lib.hid (HM.out.step hb)
            have q0 : wn.cell? ⟨w.heap.size + 1, 0, none⟩ = some (.slice A1 n1 c1) := HM.out.box.cell 0
            have HBS := Lib.hid (HBS.out.trans (hb.mono HBS.out.size))
            clear hb hn1
            refine hK.out _ _ HBS.out (fun hHeld => ?_)
            clear hK K
            try dsimp only [Act.put]
            try simp only [List.setIfInBounds_toArray, List.set_cons_zero, List.set_cons_succ]
            refine wpAnyH_ready (rs := [7]) (by kernel_rfl) (by simp) (AllReadyH.cons (op_of rfl) (fun K hK => ?_) AllReadyH.nil)
            go_simp
            refine (add_num (j := 100) (k := 100) _ _ (s) ck _ _ wn HM.out.num.choose_spec.2 HN1.out HPX.out.1 HPX.out.2.1).mono ?_
            rintro en wx ⟨v2, rfl, hn2, hb⟩
            obtain ⟨A2, n2, c2, rfl⟩ := hn2.shape
            have HM2 := Lib.hid (HM.out.put hb HM.out.below.size hn2)
            have HK2 := Lib.hid (HM.out.box.below hb HM.out.box.lt)
            have q2 : wx.cell? ⟨w.heap.size + 1, 0, none⟩ = some (.slice A1 n1 c1) := HK2.out.cell 0
            have p2 := HK2.out.frozen 0
            have HBS := Lib.hid (HBS.out.trans (hb.mono HBS.out.size))
            clear hb hn2
            refine hK.out _ _ HBS.out (fun hHeld => ?_)
            clear hK K
            try dsimp only [Act.put]
            try simp only [List.setIfInBounds_toArray, List.set_cons_zero, List.set_cons_succ]
            refine wpAnyH_ready (rs := [8]) (by kernel_rfl) (by simp) (AllReadyH.cons (op_of rfl) (fun K hK => ?_) AllReadyH.nil)
            have HBS := Lib.hid (HBS.out.setCell (p := ⟨w.heap.size + 1, 0, none⟩) (by show w.heap.size ≤ w.heap.size + 1; omega) (.slice A2 n2 c2))
            go_simp
            refine hK.out _ _ HBS.out (fun hHeld => ?_)
            clear hK K
            try dsimp only [Act.put]
            try simp only [List.setIfInBounds_toArray, List.set_cons_zero, List.set_cons_succ]
            refine wpAnyH_done (by kernel_rfl) ?_ _
            have g1 : (wx.setCell ⟨w.heap.size + 1, 0, none⟩ (.slice A2 n2 c2)).cell? ⟨a, p + k * 2 + 1, none⟩ = some (.int .i64 ok) := (HM2.out.below.cell (p := ⟨a, p + k * 2 + 1, none⟩) ha).trans hz1
            go_wp2_with fail
            go_roundw
            case rel => exact ⟨k + 1, A2, n2, c2, by go_num, by omega, Lib.hid (by rw [HCS.out]; exact HM2.out)⟩
            case measure => simp [intOf]; omega
          · skip
            go_simp
            refine (HOF.out wn).mono ?_
            rintro en wn ⟨v1, rfl, hn1, hb⟩
            obtain ⟨A3, n3, c3, rfl⟩ := hn1.shape
            have HN1 := Lib.hid hn1
            have HM := Lib.hid (HM.out.step hb)
            have q0 : wn.cell? ⟨w.heap.size + 1, 0, none⟩ = some (.slice A1 n1 c1) := HM.out.box.cell 0
            have HBS := Lib.hid (HBS.out.trans (hb.mono HBS.out.size))
            clear hb hn1
            refine hK.out _ _ HBS.out (fun hHeld => ?_)
            clear hK K
            try dsimp only [Act.put]
            try simp only [List.setIfInBounds_toArray, List.set_cons_zero, List.set_cons_succ]
            refine wpAnyH_ready (rs := [0]) (by kernel_rfl) (by simp) (AllReadyH.cons (op_of rfl) (fun K hK => ?_) AllReadyH.nil)
            go_simp
            refine hK.out _ _ HBS.out (fun hHeld => ?_)
            clear hK K
            try dsimp only [Act.put]
            try simp only [List.setIfInBounds_toArray, List.set_cons_zero, List.set_cons_succ]
            refine wpAnyH_ready (rs := [7]) (by kernel_rfl) (by simp) (AllReadyH.cons (op_of rfl) (fun K hK => ?_) AllReadyH.nil)
            go_simp
            refine (add_num (j := 100) (k := 100) _ _ (s) ck _ _ wn HM.out.num.choose_spec.2 HN1.out HPX.out.1 HPX.out.2.1).mono ?_
            rintro en wx ⟨v2, rfl, hn2, hb⟩
            obtain ⟨A2, n2, c2, rfl⟩ := hn2.shape
            have HM2 := Lib.hid (HM.out.put hb HM.out.below.size hn2)
            have HK2 := Lib.hid (HM.out.box.below hb HM.out.box.lt)
            have q2 : wx.cell? ⟨w.heap.size + 1, 0, none⟩ = some (.slice A1 n1 c1) := HK2.out.cell 0
            have p2 := HK2.out.frozen 0
            have HBS := Lib.hid (HBS.out.trans (hb.mono HBS.out.size))
            clear hb hn2
            refine hK.out _ _ HBS.out (fun hHeld => ?_)
            clear hK K
            try dsimp only [Act.put]
            try simp only [List.setIfInBounds_toArray, List.set_cons_zero, List.set_cons_succ]
            refine wpAnyH_ready (rs := [8]) (by kernel_rfl) (by simp) (AllReadyH.cons (op_of rfl) (fun K hK => ?_) AllReadyH.nil)
            have HBS := Lib.hid (HBS.out.setCell (p := ⟨w.heap.size + 1, 0, none⟩) (by show w.heap.size ≤ w.heap.size + 1; omega) (.slice A2 n2 c2))
            go_simp
            refine hK.out _ _ HBS.out (fun hHeld => ?_)
            clear hK K
            try dsimp only [Act.put]
            try simp only [List.setIfInBounds_toArray, List.set_cons_zero, List.set_cons_succ]
            refine wpAnyH_done (by kernel_rfl) ?_ _
            have g1 : (wx.setCell ⟨w.heap.size + 1, 0, none⟩ (.slice A2 n2 c2)).cell? ⟨a, p + k * 2 + 1, none⟩ = some (.int .i64 ok) := (HM2.out.below.cell (p := ⟨a, p + k * 2 + 1, none⟩) ha).trans hz1
            go_wp2_with fail
            go_roundw
            case rel => exact ⟨k + 1, A2, n2, c2, by go_num, by omega, Lib.hid (by rw [HCS.out]; exact HM2.out)⟩
            case measure => simp [intOf]; omega
      · rw [if_neg hki] at hcs
        by_cases hoi : ok = i
        · rw [if_pos hoi] at hcs
          simp only [Nat.add_zero, Nat.zero_add, ← Nat.add_assoc] at hcs
          have HCS := Lib.hid hcs
          subst hoi
          clear hcs hck hcu hkt hcke hoke hs hd
          go_wp2_with fail
          have HB0 := Lib.hid HM.out.below.drew
          refine wp_region_held_drew (S := fun W => Below w.heap.size w W) (by kernel_rfl) HB0.out (fun hHeld => ?_)
          have HM := Lib.hid (HM.out.step (Below.refl _ _).drew)
          obtain ⟨wn, hwn⟩ : ∃ W, wr.drew = W := ⟨_, rfl⟩
          rw [hwn] at HM hHeld HB0
          rw [hwn]
          have q0 : wn.cell? ⟨w.heap.size + 1, 0, none⟩ = some (.slice A1 n1 c1) := HM.out.box.cell 0
          have HBS := HB0
          clear hwn
          refine wpAnyH_take (i := 1) (v := ?_) (op_of rfl) (by kernel_rfl) (by kernel_rfl) (by kernel_rfl) (fun _ _ _ h => h) (Or.inl ⟨by rfl, fun W hS => ?_⟩) (by assumption) ?_
          rotate_left
          · dsimp only at hS
            go_simp
            try with_reducible rfl
          try dsimp only [Act.put]
          try simp only [List.setIfInBounds_toArray, List.set_cons_zero, List.set_cons_succ]
          refine wpAnyH_take (i := 2) (v := ?_) (op_of rfl) (by kernel_rfl) (by kernel_rfl) (by kernel_rfl) (fun _ _ _ h => h) (Or.inl ⟨by rfl, fun W hS => ?_⟩) (by assumption) ?_
          rotate_left
          · dsimp only at hS
            go_simp
            try with_reducible rfl
          try dsimp only [Act.put]
          try simp only [List.setIfInBounds_toArray, List.set_cons_zero, List.set_cons_succ]
          refine wpAnyH_take (i := 3) (v := ?_) (op_of rfl) (by kernel_rfl) (by kernel_rfl) (by kernel_rfl) (fun _ _ _ h => h) (Or.inl ⟨by rfl, fun W hS => ?_⟩) (by assumption) ?_
          rotate_left
          · dsimp only at hS
            go_simp
            try with_reducible rfl
          try dsimp only [Act.put]
          try simp only [List.setIfInBounds_toArray, List.set_cons_zero, List.set_cons_succ]
          refine wpAnyH_take (i := 4) (v := ?_) (op_of rfl) (by kernel_rfl) (by kernel_rfl) (by kernel_rfl) (fun _ _ _ h => h) (Or.inl ⟨by rfl, fun W hS => ?_⟩) (by assumption) ?_
          rotate_left
          · dsimp only at hS
            go_simp
            try with_reducible rfl
          try dsimp only [Act.put]
          try simp only [List.setIfInBounds_toArray, List.set_cons_zero, List.set_cons_succ]
          refine wpAnyH_take (i := 5) (v := ?_) (op_of rfl) (by kernel_rfl) (by kernel_rfl) (by kernel_rfl) (fun _ _ _ h => h) (Or.inl ⟨by rfl, fun W hS => ?_⟩) (by assumption) ?_
          rotate_left
          · dsimp only at hS
            go_simp
            try with_reducible rfl
          try dsimp only [Act.put]
          try simp only [List.setIfInBounds_toArray, List.set_cons_zero, List.set_cons_succ]
          refine wpAnyH_take (i := 6) (v := ?_) (op_of rfl) (by kernel_rfl) (by kernel_rfl) (by kernel_rfl) (fun _ _ _ h => h) (Or.inl ⟨by rfl, fun W hS => ?_⟩) (by assumption) ?_
          rotate_left
          · dsimp only at hS
            have z4 := (hS.cell (p := ⟨a, p + k * 2, none⟩) ha).trans hz0
            go_simp
            try with_reducible rfl
          try dsimp only [Act.put]
          try simp only [List.setIfInBounds_toArray, List.set_cons_zero, List.set_cons_succ]
          refine wpAnyH_take (i := 7) (v := ?_) (op_of rfl) (by kernel_rfl) (by kernel_rfl) (by kernel_rfl) (fun _ _ _ h => h) (Or.inl ⟨by rfl, fun W hS => ?_⟩) (by assumption) ?_
          rotate_left
          · dsimp only at hS
            go_simp
            try with_reducible rfl
          try dsimp only [Act.put]
          try simp only [List.setIfInBounds_toArray, List.set_cons_zero, List.set_cons_succ]
          refine wpAnyH_ready (rs := [0, 8]) (by kernel_rfl) (by simp) (AllReadyH.cons (op_of rfl) (fun K hK => ?_) (AllReadyH.cons (op_of rfl) (fun K hK => ?_) AllReadyH.nil))
          · skip
            go_simp
            refine hK.out _ _ HBS.out (fun hHeld => ?_)
            clear hK K
            try dsimp only [Act.put]
            try simp only [List.setIfInBounds_toArray, List.set_cons_zero, List.set_cons_succ]
            refine wpAnyH_ready (rs := [8]) (by kernel_rfl) (by simp) (AllReadyH.cons (op_of rfl) (fun K hK => ?_) AllReadyH.nil)
            go_simp
            refine (HOD.out wn).mono ?_
            rintro en wn ⟨v1, rfl, hn1, hb⟩
            obtain ⟨A3, n3, c3, rfl⟩ := hn1.shape
            have HN1 := Lib.hid hn1
            have HM := Lib.hid (HM.out.step hb)
            have q0 : wn.cell? ⟨w.heap.size + 1, 0, none⟩ = some (.slice A1 n1 c1) := HM.out.box.cell 0
            have HBS := Lib.hid (HBS.out.trans (hb.mono HBS.out.size))
            clear hb hn1
            refine hK.out _ _ HBS.out (fun hHeld => ?_)
            clear hK K
            try dsimp only [Act.put]
            try simp only [List.setIfInBounds_toArray, List.set_cons_zero, List.set_cons_succ]
            refine wpAnyH_ready (rs := [9]) (by kernel_rfl) (by simp) (AllReadyH.cons (op_of rfl) (fun K hK => ?_) AllReadyH.nil)
            go_simp
            refine (add_num (j := 100) (k := 100) _ _ (s) d _ _ wn HM.out.num.choose_spec.2 HN1.out HPX.out.1 HPX.out.2.2.2).mono ?_
            rintro en wx ⟨v2, rfl, hn2, hb⟩
            obtain ⟨A2, n2, c2, rfl⟩ := hn2.shape
            have HM2 := Lib.hid (HM.out.put hb HM.out.below.size hn2)
            have HK2 := Lib.hid (HM.out.box.below hb HM.out.box.lt)
            have q2 : wx.cell? ⟨w.heap.size + 1, 0, none⟩ = some (.slice A1 n1 c1) := HK2.out.cell 0
            have p2 := HK2.out.frozen 0
            have HBS := Lib.hid (HBS.out.trans (hb.mono HBS.out.size))
            clear hb hn2
            refine hK.out _ _ HBS.out (fun hHeld => ?_)
            clear hK K
            try dsimp only [Act.put]
            try simp only [List.setIfInBounds_toArray, List.set_cons_zero, List.set_cons_succ]
            refine wpAnyH_ready (rs := [10]) (by kernel_rfl) (by simp) (AllReadyH.cons (op_of rfl) (fun K hK => ?_) AllReadyH.nil)
            have HBS := Lib.hid (HBS.out.setCell (p := ⟨w.heap.size + 1, 0, none⟩) (by show w.heap.size ≤ w.heap.size + 1; omega) (.slice A2 n2 c2))
            go_simp
            refine hK.out _ _ HBS.out (fun hHeld => ?_)
            clear hK K
            try dsimp only [Act.put]
            try simp only [List.setIfInBounds_toArray, List.set_cons_zero, List.set_cons_succ]
            refine wpAnyH_done (by kernel_rfl) ?_ _
            go_wp2_with fail
            go_roundw
            case rel => exact ⟨k + 1, A2, n2, c2, by go_num, by omega, Lib.hid (by rw [HCS.out]; exact HM2.out)⟩
            case measure => simp [intOf]; omega
          · skip
            go_simp
            refine (HOD.out wn).mono ?_
            rintro en wn ⟨v1, rfl, hn1, hb⟩
            obtain ⟨A3, n3, c3, rfl⟩ := hn1.shape
            have HN1 := Lib.hid hn1
            have HM := Lib.hid (HM.out.step hb)
            have q0 : wn.cell? ⟨w.heap.size + 1, 0, none⟩ = some (.slice A1 n1 c1) := HM.out.box.cell 0
            have HBS := Lib.hid (HBS.out.trans (hb.mono HBS.out.size))
            clear hb hn1
            refine hK.out _ _ HBS.out (fun hHeld => ?_)
            clear hK K
            try dsimp only [Act.put]
            try simp only [List.setIfInBounds_toArray, List.set_cons_zero, List.set_cons_succ]
            refine wpAnyH_ready (rs := [0]) (by kernel_rfl) (by simp) (AllReadyH.cons (op_of rfl) (fun K hK => ?_) AllReadyH.nil)
            go_simp
            refine hK.out _ _ HBS.out (fun hHeld => ?_)
            clear hK K
            try dsimp only [Act.put]
            try simp only [List.setIfInBounds_toArray, List.set_cons_zero, List.set_cons_succ]
            refine wpAnyH_ready (rs := [9]) (by kernel_rfl) (by simp) (AllReadyH.cons (op_of rfl) (fun K hK => ?_) AllReadyH.nil)
            go_simp
            refine (add_num (j := 100) (k := 100) _ _ (s) d _ _ wn HM.out.num.choose_spec.2 HN1.out HPX.out.1 HPX.out.2.2.2).mono ?_
            rintro en wx ⟨v2, rfl, hn2, hb⟩
            obtain ⟨A2, n2, c2, rfl⟩ := hn2.shape
            have HM2 := Lib.hid (HM.out.put hb HM.out.below.size hn2)
            have HK2 := Lib.hid (HM.out.box.below hb HM.out.box.lt)
            have q2 : wx.cell? ⟨w.heap.size + 1, 0, none⟩ = some (.slice A1 n1 c1) := HK2.out.cell 0
            have p2 := HK2.out.frozen 0
            have HBS := Lib.hid (HBS.out.trans (hb.mono HBS.out.size))
            clear hb hn2
            refine hK.out _ _ HBS.out (fun hHeld => ?_)
            clear hK K
            try dsimp only [Act.put]
            try simp only [List.setIfInBounds_toArray, List.set_cons_zero, List.set_cons_succ]
            refine wpAnyH_ready (rs := [10]) (by kernel_rfl) (by simp) (AllReadyH.cons (op_of rfl) (fun K hK => ?_) AllReadyH.nil)
            have HBS := Lib.hid (HBS.out.setCell (p := ⟨w.heap.size + 1, 0, none⟩) (by show w.heap.size ≤ w.heap.size + 1; omega) (.slice A2 n2 c2))
            go_simp
            refine hK.out _ _ HBS.out (fun hHeld => ?_)
            clear hK K
            try dsimp only [Act.put]
            try simp only [List.setIfInBounds_toArray, List.set_cons_zero, List.set_cons_succ]
            refine wpAnyH_done (by kernel_rfl) ?_ _
            go_wp2_with fail
            go_roundw
            case rel => exact ⟨k + 1, A2, n2, c2, by go_num, by omega, Lib.hid (by rw [HCS.out]; exact HM2.out)⟩
            case measure => simp [intOf]; omega
        · rw [if_neg hoi] at hcs
          simp only [Nat.add_zero, Nat.zero_add, ← Nat.add_assoc] at hcs
          have HCS := Lib.hid hcs
          clear hcs hck hcu hkt hcke hoke hs hd
          go_wp2_with fail
          go_roundw
          case rel => exact ⟨k + 1, A1, n1, c1, by go_num, by omega, Lib.hid (by rw [HCS.out]; exact HM.out)⟩
          case measure => simp [intOf]; omega
    · obtain rfl : k = n := by omega
      have q0 : wr.cell? ⟨w.heap.size + 1, 0, none⟩ = some (.slice A1 n1 c1) := HM.out.box.cell 0
      have hset := HM.out.res.set_ 0 (.slice A1 n1 c1)
      have f0 := HM.out.res.frozen 0
      have r0 := HM.out.res.cell 0
      have s0 := hset.cell 0
      have y0 := hset.frozen 0
      have HNUM : Hid (Num (wr.setCell ⟨w.heap.size, 0, none⟩ (.slice A1 n1 c1)) w.heap.size (.agg #[.slice A1 n1 c1]) (cu t c o i k)) := Lib.hid (by
        obtain ⟨L, hL, hN⟩ := HM.out.num
        exact (num_setS9 hN (HM.out.res.cell 0)).more hL)
      have HB := Lib.hid (HM.out.below.setCell (p := ⟨w.heap.size, 0, none⟩) (Nat.le_refl _) (.slice A1 n1 c1))
      clear hset
      go_wp2_with fail
      exact bodyPost_ret (v := .agg #[.slice A1 n1 c1]) (by simp [results, Try.results15, go_sem, s0, y0]) rfl (HPR.out _ _ ⟨_, rfl, HNUM.out, HB.out⟩)
end Go.Proofs.Ytcanahjilfnijaa
