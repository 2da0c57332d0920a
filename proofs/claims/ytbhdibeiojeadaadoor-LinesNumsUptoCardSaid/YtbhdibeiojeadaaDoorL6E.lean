/-
  Lines: the same lines: the document's.
-/
import Derived.Test.YtbhdibeiojeadaaDoorL6D
import Derived.Test.YtbhdibeiojeadaaDoorSkip
namespace Go.Proofs.YtbhdibeiojeadaaDoor
open Go.RowKit
set_option maxRecDepth 100000

/-- A slice of slices of texts. -/
def Lns (w : World) (A : Option Addr) (L : List (List ByteArray)) : Prop :=
  L ≠ [] → ∃ b o, A = some ⟨b, o, none⟩ ∧ b < w.heap.size ∧ ∀ k, k < L.length → ∃ A' c', w.cell? ⟨b, o + k, none⟩ = some (.slice A' (L.getD k []).length c') ∧ (L.getD k []).length ≤ c' ∧ Rs w A' (L.getD k [])
theorem Lns.below {w w' : World} {A : Option Addr} {L : List (List ByteArray)} (h : Lns w A L) (hb : Below w.heap.size w w') : Lns w' A L := fun hne => by
  obtain ⟨b, o, h1, h2, h3⟩ := h hne
  refine ⟨b, o, h1, Nat.lt_of_lt_of_le h2 hb.size, fun k hk => ?_⟩
  obtain ⟨A', c', q1, q2, q3⟩ := h3 k hk
  exact ⟨A', c', (hb.cell (p := ⟨b, o + k, none⟩) h2).trans q1, q2, q3.below hb⟩
theorem Lns.at_ {w : World} {A : Option Addr} {L : List (List ByteArray)} (h : Lns w A L) {k : Nat} (hk : k < L.length) :
    ∃ b o A' c', A = some ⟨b, o, none⟩ ∧ b < w.heap.size ∧ w.cell? ⟨b, o + k, none⟩ = some (.slice A' (L.getD k []).length c') ∧ (L.getD k []).length ≤ c' ∧ Rs w A' (L.getD k []) := by
  obtain ⟨b, o, h1, h2, h3⟩ := h (by rintro rfl; simp at hk)
  obtain ⟨A', c', q⟩ := h3 k hk
  exact ⟨b, o, A', c', h1, h2, q⟩
theorem list_ext2 {a b : List (List ByteArray)} (hl : a.length = b.length) (h : ∀ j, j < a.length → a.getD j [] = b.getD j []) : a = b := by
  apply List.ext_getElem hl
  intro i h1 h2
  have := h i h1
  rwa [List.getD_eq_getElem?_getD, List.getD_eq_getElem?_getD, List.getElem?_eq_getElem h1, List.getElem?_eq_getElem h2, Option.getD_some, Option.getD_some] at this

set_option maxHeartbeats 8000000 in
theorem refSame6_any (A1 A2 : Option Addr) (a b : List (List ByteArray)) (n1 c1 n2 c2 : Nat) (w : World) (hl1 : a.length = n1) (hl2 : b.length = n2) (hr1 : Lns w A1 a) (hr2 : Lns w A2 b) (hn : n1 ≤ 4611686018427387904) (hn2 : n2 ≤ 4611686018427387904) (hc1 : n1 ≤ c1) (hc2 : n2 ≤ c2)
    (hm1 : ∀ k, (a.getD k []).length ≤ 4611686018427387904) (hm2 : ∀ k, (b.getD k []).length ≤ 4611686018427387904) :
    Calls Tryd.prog 21 #[.slice A1 n1 c1, .slice A2 n2 c2] w fun e w' => e = .returned (.bool (decide (a = b))) ∧ Below w.heap.size w w' := by
  by_cases hne : n1 = n2
  · subst hne
    have HL1 := Lib.hid hl1
    have HL2 := Lib.hid hl2
    have HR1 := Lib.hid hr1
    have HR2 := Lib.hid hr2
    have HMA := Lib.hid hm1
    have HMB := Lib.hid hm2
    clear hl1 hl2 hr1 hr2 hm1 hm2
    go_enter Tryd.func21, Tryd.ntmps21
    go_wp2_with fail
    go_loopw [5] (fun iv wr => ∃ k : Nat, iv = .int .i64 (k : Int) ∧ k ≤ n1 ∧ Hid (∀ j, j < k → a.getD j [] = b.getD j []) ∧ Hid (Below w.heap.size w wr)) (fun iv _ => n1 - (intOf iv).toNat)
    case atStart => exact ⟨0, rfl, by omega, Lib.hid (fun j hj => by omega), Lib.hid (Below.refl _ _)⟩
    case round =>
      obtain ⟨k, rfl, hk, HALL, HB⟩ := hrel
      by_cases hkn : k < n1
      · obtain ⟨b1, o1, D1, d1, rfl, _, q1, hc3, hx⟩ := (HR1.out.below HB.out).at_ (k := k) (by rw [HL1.out]; exact hkn)
        obtain ⟨b2, o2, D2, d2, rfl, _, q2, hc4, hy⟩ := (HR2.out.below HB.out).at_ (k := k) (by rw [HL2.out]; exact hkn)
        have HM1 := Lib.hid (HMA.out k)
        have HM2 := Lib.hid (HMB.out k)
        obtain ⟨z, hz⟩ : ∃ z, decide (a.getD k [] = b.getD k []) = z := ⟨_, rfl⟩
        have HAZ : Hid (z = false → decide (a = b) = false) := Lib.hid (fun h => decide_eq_false (fun e => by rw [e, decide_eq_true rfl] at hz; rw [h] at hz; cases hz))
        have HZ0 := Lib.hid hz
        have hj1 : ∀ (x y : List ByteArray), a.getD k [] = x → b.getD k [] = y → decide (x = y) = z := fun x y h1 h2 => by rw [← h1, ← h2]; exact HZ0.out
        have HZ := Lib.hid hz
        have HC1 := Lib.hid hc3
        have HC2 := Lib.hid hc4
        have HX := Lib.hid hx
        have HY := Lib.hid hy
        have hi0 : (0 : Int) ≤ (k : Int) := by omega
        have hi1 : (k : Int) < (n1 : Int) := by omega
        have hst : Below wr.heap.size wr wr.drew := (Below.refl _ _).drew
        have HBS := Lib.hid hst
        clear hz hj1 hc3 hc4 hx hy HZ0
        cases z with
        | true =>
          go_wp2_with fail
          refine wp_region_held_drew (S := fun W => Below wr.heap.size wr W) (by kernel_rfl) hst (fun hHeld => ?_)
          obtain ⟨wn, hwn⟩ : ∃ W, wr.drew = W := ⟨_, rfl⟩
          rw [hwn] at HBS hHeld
          rw [hwn]
          clear hwn
          refine wpAnyH_take (i := 0) (v := ?_) (op_of rfl) (by kernel_rfl) (by kernel_rfl) (by kernel_rfl) (fun _ _ _ h => h) (Or.inl ⟨by rfl, fun W hS => ?_⟩) (by assumption) ?_
          rotate_left
          · dsimp only at hS
            go_simp
            try with_reducible rfl
          try dsimp only [Act.put]
          try simp only [List.setIfInBounds_toArray, List.set_cons_zero, List.set_cons_succ]
          refine wpAnyH_take (i := 1) (v := ?_) (op_of rfl) (by kernel_rfl) (by kernel_rfl) (by kernel_rfl) (fun _ _ _ h => h) (Or.inl ⟨by rfl, fun W hS => ?_⟩) (by assumption) ?_
          rotate_left
          · dsimp only at hS
            go_simp
            try with_reducible rfl
          try dsimp only [Act.put]
          try simp only [List.setIfInBounds_toArray, List.set_cons_zero, List.set_cons_succ]
          refine wpAnyH_take (i := 2) (v := ?_) (op_of rfl) (by kernel_rfl) (by kernel_rfl) (by kernel_rfl) (fun _ _ _ h => h) (Or.inl ⟨by rfl, fun W hS => ?_⟩) (by assumption) ?_
          rotate_left
          · dsimp only at hS
            go_simp
            try with_reducible rfl
          try dsimp only [Act.put]
          try simp only [List.setIfInBounds_toArray, List.set_cons_zero, List.set_cons_succ]
          refine wpAnyH_take (i := 3) (v := ?_) (op_of rfl) (by kernel_rfl) (by kernel_rfl) (by kernel_rfl) (fun _ _ _ h => h) (Or.inl ⟨by rfl, fun W hS => ?_⟩) (by assumption) ?_
          rotate_left
          · dsimp only at hS
            have z := (hS.cell (World.block_lt_of_cell? _ _ q1)).trans q1
            go_simp
            try with_reducible rfl
          try dsimp only [Act.put]
          try simp only [List.setIfInBounds_toArray, List.set_cons_zero, List.set_cons_succ]
          refine wpAnyH_take (i := 4) (v := ?_) (op_of rfl) (by kernel_rfl) (by kernel_rfl) (by kernel_rfl) (fun _ _ _ h => h) (Or.inl ⟨by rfl, fun W hS => ?_⟩) (by assumption) ?_
          rotate_left
          · dsimp only at hS
            go_simp
            try with_reducible rfl
          try dsimp only [Act.put]
          try simp only [List.setIfInBounds_toArray, List.set_cons_zero, List.set_cons_succ]
          refine wpAnyH_take (i := 5) (v := ?_) (op_of rfl) (by kernel_rfl) (by kernel_rfl) (by kernel_rfl) (fun _ _ _ h => h) (Or.inl ⟨by rfl, fun W hS => ?_⟩) (by assumption) ?_
          rotate_left
          · dsimp only at hS
            go_simp
            try with_reducible rfl
          try dsimp only [Act.put]
          try simp only [List.setIfInBounds_toArray, List.set_cons_zero, List.set_cons_succ]
          refine wpAnyH_take (i := 6) (v := ?_) (op_of rfl) (by kernel_rfl) (by kernel_rfl) (by kernel_rfl) (fun _ _ _ h => h) (Or.inl ⟨by rfl, fun W hS => ?_⟩) (by assumption) ?_
          rotate_left
          · dsimp only at hS
            go_simp
            try with_reducible rfl
          try dsimp only [Act.put]
          try simp only [List.setIfInBounds_toArray, List.set_cons_zero, List.set_cons_succ]
          refine wpAnyH_take (i := 7) (v := ?_) (op_of rfl) (by kernel_rfl) (by kernel_rfl) (by kernel_rfl) (fun _ _ _ h => h) (Or.inl ⟨by rfl, fun W hS => ?_⟩) (by assumption) ?_
          rotate_left
          · dsimp only at hS
            have z := (hS.cell (World.block_lt_of_cell? _ _ q2)).trans q2
            go_simp
            try with_reducible rfl
          try dsimp only [Act.put]
          try simp only [List.setIfInBounds_toArray, List.set_cons_zero, List.set_cons_succ]
          refine wpAnyH_ready (rs := [8]) (by kernel_rfl) (by simp) (AllReadyH.cons (op_of rfl) (fun K hK => ?_) AllReadyH.nil)
          go_simp
          refine (refTexts_any D1 D2 _ _ _ d1 _ d2 wn rfl rfl (HX.out.below HBS.out) (HY.out.below HBS.out) HM1.out HM2.out HC1.out HC2.out).mono ?_
          rintro en wn ⟨hen, hb⟩
          rw [HZ.out] at hen
          subst hen
          have HBS := Lib.hid (HBS.out.trans (hb.mono HBS.out.size))
          clear hb
          refine hK.out _ _ HBS.out (fun hHeld => ?_)
          clear hK K
          try dsimp only [Act.put]
          try simp only [List.setIfInBounds_toArray, List.set_cons_zero, List.set_cons_succ]
          refine wpAnyH_take (i := 9) (v := ?_) (op_of rfl) (by kernel_rfl) (by kernel_rfl) (by kernel_rfl) (fun _ _ _ h => h) (Or.inl ⟨by rfl, fun W hS => ?_⟩) (by assumption) ?_
          rotate_left
          · dsimp only at hS
            go_simp
            try with_reducible rfl
          try dsimp only [Act.put]
          try simp only [List.setIfInBounds_toArray, List.set_cons_zero, List.set_cons_succ]
          refine wpAnyH_done (by kernel_rfl) ?_ _
          go_wp2_with fail
          go_roundw
          case rel => exact ⟨k + 1, by go_num, by omega, Lib.hid (fun j hj => by
                rcases Nat.lt_or_ge j k with h | h
                · exact HALL.out j h
                · obtain rfl : j = k := by omega
                  exact of_decide_eq_true HZ.out), Lib.hid (HB.out.trans (HBS.out.mono HB.out.size))⟩
          case measure => simp [intOf]; omega
        | false =>
          have HAB := Lib.hid (HAZ.out rfl)
          go_wp2_with fail
          refine wp_region_held_drew (S := fun W => Below wr.heap.size wr W) (by kernel_rfl) hst (fun hHeld => ?_)
          obtain ⟨wn, hwn⟩ : ∃ W, wr.drew = W := ⟨_, rfl⟩
          rw [hwn] at HBS hHeld
          rw [hwn]
          clear hwn
          refine wpAnyH_take (i := 0) (v := ?_) (op_of rfl) (by kernel_rfl) (by kernel_rfl) (by kernel_rfl) (fun _ _ _ h => h) (Or.inl ⟨by rfl, fun W hS => ?_⟩) (by assumption) ?_
          rotate_left
          · dsimp only at hS
            go_simp
            try with_reducible rfl
          try dsimp only [Act.put]
          try simp only [List.setIfInBounds_toArray, List.set_cons_zero, List.set_cons_succ]
          refine wpAnyH_take (i := 1) (v := ?_) (op_of rfl) (by kernel_rfl) (by kernel_rfl) (by kernel_rfl) (fun _ _ _ h => h) (Or.inl ⟨by rfl, fun W hS => ?_⟩) (by assumption) ?_
          rotate_left
          · dsimp only at hS
            go_simp
            try with_reducible rfl
          try dsimp only [Act.put]
          try simp only [List.setIfInBounds_toArray, List.set_cons_zero, List.set_cons_succ]
          refine wpAnyH_take (i := 2) (v := ?_) (op_of rfl) (by kernel_rfl) (by kernel_rfl) (by kernel_rfl) (fun _ _ _ h => h) (Or.inl ⟨by rfl, fun W hS => ?_⟩) (by assumption) ?_
          rotate_left
          · dsimp only at hS
            go_simp
            try with_reducible rfl
          try dsimp only [Act.put]
          try simp only [List.setIfInBounds_toArray, List.set_cons_zero, List.set_cons_succ]
          refine wpAnyH_take (i := 3) (v := ?_) (op_of rfl) (by kernel_rfl) (by kernel_rfl) (by kernel_rfl) (fun _ _ _ h => h) (Or.inl ⟨by rfl, fun W hS => ?_⟩) (by assumption) ?_
          rotate_left
          · dsimp only at hS
            have z := (hS.cell (World.block_lt_of_cell? _ _ q1)).trans q1
            go_simp
            try with_reducible rfl
          try dsimp only [Act.put]
          try simp only [List.setIfInBounds_toArray, List.set_cons_zero, List.set_cons_succ]
          refine wpAnyH_take (i := 4) (v := ?_) (op_of rfl) (by kernel_rfl) (by kernel_rfl) (by kernel_rfl) (fun _ _ _ h => h) (Or.inl ⟨by rfl, fun W hS => ?_⟩) (by assumption) ?_
          rotate_left
          · dsimp only at hS
            go_simp
            try with_reducible rfl
          try dsimp only [Act.put]
          try simp only [List.setIfInBounds_toArray, List.set_cons_zero, List.set_cons_succ]
          refine wpAnyH_take (i := 5) (v := ?_) (op_of rfl) (by kernel_rfl) (by kernel_rfl) (by kernel_rfl) (fun _ _ _ h => h) (Or.inl ⟨by rfl, fun W hS => ?_⟩) (by assumption) ?_
          rotate_left
          · dsimp only at hS
            go_simp
            try with_reducible rfl
          try dsimp only [Act.put]
          try simp only [List.setIfInBounds_toArray, List.set_cons_zero, List.set_cons_succ]
          refine wpAnyH_take (i := 6) (v := ?_) (op_of rfl) (by kernel_rfl) (by kernel_rfl) (by kernel_rfl) (fun _ _ _ h => h) (Or.inl ⟨by rfl, fun W hS => ?_⟩) (by assumption) ?_
          rotate_left
          · dsimp only at hS
            go_simp
            try with_reducible rfl
          try dsimp only [Act.put]
          try simp only [List.setIfInBounds_toArray, List.set_cons_zero, List.set_cons_succ]
          refine wpAnyH_take (i := 7) (v := ?_) (op_of rfl) (by kernel_rfl) (by kernel_rfl) (by kernel_rfl) (fun _ _ _ h => h) (Or.inl ⟨by rfl, fun W hS => ?_⟩) (by assumption) ?_
          rotate_left
          · dsimp only at hS
            have z := (hS.cell (World.block_lt_of_cell? _ _ q2)).trans q2
            go_simp
            try with_reducible rfl
          try dsimp only [Act.put]
          try simp only [List.setIfInBounds_toArray, List.set_cons_zero, List.set_cons_succ]
          refine wpAnyH_ready (rs := [8]) (by kernel_rfl) (by simp) (AllReadyH.cons (op_of rfl) (fun K hK => ?_) AllReadyH.nil)
          go_simp
          refine (refTexts_any D1 D2 _ _ _ d1 _ d2 wn rfl rfl (HX.out.below HBS.out) (HY.out.below HBS.out) HM1.out HM2.out HC1.out HC2.out).mono ?_
          rintro en wn ⟨hen, hb⟩
          rw [HZ.out] at hen
          subst hen
          have HBS := Lib.hid (HBS.out.trans (hb.mono HBS.out.size))
          clear hb
          refine hK.out _ _ HBS.out (fun hHeld => ?_)
          clear hK K
          try dsimp only [Act.put]
          try simp only [List.setIfInBounds_toArray, List.set_cons_zero, List.set_cons_succ]
          refine wpAnyH_take (i := 9) (v := ?_) (op_of rfl) (by kernel_rfl) (by kernel_rfl) (by kernel_rfl) (fun _ _ _ h => h) (Or.inl ⟨by rfl, fun W hS => ?_⟩) (by assumption) ?_
          rotate_left
          · dsimp only at hS
            go_simp
            try with_reducible rfl
          try dsimp only [Act.put]
          try simp only [List.setIfInBounds_toArray, List.set_cons_zero, List.set_cons_succ]
          refine wpAnyH_done (by kernel_rfl) ?_ _
          go_wp2_with fail
          go_ret
          exact ⟨by rw [HAB.out]; rfl, HB.out.trans (HBS.out.mono HB.out.size)⟩
      · obtain rfl : k = n1 := by omega
        have HAB : Hid (decide (a = b) = true) := Lib.hid (decide_eq_true (list_ext2 (by rw [HL1.out, HL2.out]) (fun j hj => HALL.out j (by rw [HL1.out] at hj; exact hj))))
        go_wp2_with fail
        go_ret
        exact ⟨by rw [HAB.out]; rfl, HB.out⟩
  · have hab : decide (a = b) = false := decide_eq_false (fun e => hne (by rw [← hl1, ← hl2, e]))
    have HAB := Lib.hid hab
    have h1 : ((n1 : Int) != (n2 : Int)) = true := by simp; omega
    clear hab hl1 hl2 hr1 hr2 hm1 hm2
    go_enter Tryd.func21, Tryd.ntmps21
    go_wp2_with fail
    go_ret
    exact ⟨by rw [HAB.out]; rfl, Below.refl _ _⟩
end Go.Proofs.YtbhdibeiojeadaaDoor
